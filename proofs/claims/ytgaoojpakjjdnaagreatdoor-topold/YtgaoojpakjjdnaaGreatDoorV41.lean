import Derived.Test.YtgaoojpakjjdnaaGreatDoorV40
import Derived.Lib.AtoiAllCases
import Derived.Lib.ItoaNum
import Derived.Lib.LaidTab
import Derived.Lib.UnsafeStr
set_option maxHeartbeats 32000000
set_option maxRecDepth 100000
namespace Go.Proofs.YtgaoojpakjjdnaaGreatDoor
open Go.RowKit
def Gl (B:Nat)(w:World):Prop:=
  ∀ w', Below B w w' → (∃ tp p, w'.var? Tryz.prog "strconv.ErrRange" = some #[.iface tp p]) ∧ Lib.TabIs Tryz.prog w' "internal/strconv.uint64pow10" .u64 Lib.pow10Tab
theorem Gl.later {B:Nat}{w w':World}(h:Gl B w)(hb:Below B w w'):Gl B w':=fun x hx=>h x (hb.trans hx)
theorem Gl.kp {B b:Nat}{w w':World}(h:Gl B w)(hB:B≤b)(hs:b<w.heap.size)(hk:Kp b w w'):Gl B w':=h.later (hk.below hB (by omega))
theorem D1v (l:List UInt8):∀ acc:Nat,acc≤l.foldl (fun a c=>10*a+(c.toNat-48)) acc:=by
  induction l with
  | nil=>intro acc;exact Nat.le_refl _
  | cons c r ih=>intro acc;exact Nat.le_trans (by omega) (ih (10*acc+(c.toNat-48)))
theorem B8s (l:List UInt8)(hd:∀ c∈l,B5n c=true):∀ acc:Nat,acc<18446744073709551616→
    (l.foldl (fun a c=>10*a+(c.toNat-48)) acc<18446744073709551616→Lib.parseUint10 acc l = .ok (l.foldl (fun a c=>10*a+(c.toNat-48)) acc))∧
    (18446744073709551616≤l.foldl (fun a c=>10*a+(c.toNat-48)) acc→Lib.parseUint10 acc l = .range):=by
  induction l with
  | nil=>intro acc h;exact⟨fun _=>rfl,fun h2=>absurd h2 (by show ¬ _≤acc;omega)⟩
  | cons c r ih=>
    intro acc h
    have hc:=hd c (by simp)
    have h1:48≤c.toNat∧c.toNat≤57:=by simpa [B5n] using hc
    have ac:=D1v r (10*acc+(c.toNat-48))
    have e:(c::r).foldl (fun a c=>10*a+(c.toNat-48)) acc=r.foldl (fun a c=>10*a+(c.toNat-48)) (10*acc+(c.toNat-48)):=rfl
    rw[e]
    generalize hF:r.foldl (fun a c=>10*a+(c.toNat-48)) (10*acc+(c.toNat-48))=F at *
    by_cases h2:1844674407370955162≤acc
    · have ep:Lib.parseUint10 acc (c::r) = .range:=by simp only[Lib.parseUint10,if_pos h1,if_pos h2]
      exact⟨fun h3=>by omega,fun _=>ep⟩
    · by_cases h3:18446744073709551616≤acc*10+(c.toNat-48)
      · have ep:Lib.parseUint10 acc (c::r) = .range:=by simp only[Lib.parseUint10,if_pos h1,if_neg h2,if_pos h3]
        exact⟨fun h3=>by omega,fun _=>ep⟩
      · have ep:Lib.parseUint10 acc (c::r)=Lib.parseUint10 (10*acc+(c.toNat-48)) r:=by
          simp only[Lib.parseUint10,if_pos h1,if_neg h2,if_neg h3]
          rw[Nat.mul_comm acc 10]
        rw[ep,←hF]
        exact ih (fun x hx=>hd x (by simp[hx])) _ (by omega)
theorem B9s {l:List UInt8}(hne:l≠[])(hd:∀ c∈l,B5n c=true) :
    (D0l l<9223372036854775808→Lib.atoiAll l = .ok (D0l l:Int))∧(9223372036854775808≤D0l l→Lib.atoiAll l = .range):=by
  cases l with
  | nil=>exact absurd rfl hne
  | cons c r=>
    have hc:=hd c (by simp)
    have h1:48≤c.toNat∧c.toNat≤57:=by simpa [B5n] using hc
    rw[Lib.atoiAll_plain c r (by omega) (by omega),Lib.parseMag,if_neg (by simp)]
    obtain⟨p1,p2⟩:=B8s _ hd 0 (by omega)
    change D0l (c::r)<_→Lib.parseUint10 0 (c::r) = .ok (D0l (c::r)) at p1
    change _≤D0l (c::r)→_ at p2
    generalize D0l (c::r)=F at *
    constructor
    · intro h;rw[p1 (by omega)];simp only[Lib.signless];rw[if_neg (by omega)]
    · intro h
      by_cases h2:F<18446744073709551616
      · rw[p1 h2];simp only[Lib.signless];rw[if_pos h]
      · rw[p2 (by omega)];rfl
theorem B7b (p:UInt8→Bool)(l:List UInt8):∀ c∈l.take (l.takeWhile p).length,p c=true:=by
  induction l with
  | nil=>simp
  | cons x t ih=>
    by_cases hx:p x=true
    · intro c hc
      simp only[List.takeWhile_cons,hx,if_true,List.length_cons,List.take_succ_cons,List.mem_cons] at hc
      rcases hc with rfl|hc
      · exact hx
      · exact ih c hc
    · simp[hx]
theorem A8w (l:List UInt8)(hl:l.length≤3000)(w:World):Calls Tryz.prog 248 #[.string (S l)] w fun e w'=>e = .returned (.string (S l))∧Below w.heap.size w w':=by
  go_enter Tryz.func248,Tryz.ntmps248
  go_wp2_with fail
  refine(Tryz.stringslite_Clone (S l) w (by rw[A3j];omega)).mono ?_
  rintro e w1 ⟨rfl,hb⟩
  go_wp2
  go_ret
  exact⟨rfl,hb⟩
theorem B2k {q:List UInt8}{n:Nat}(h:n≤q.length):q.drop n=q.drop (q.length-(q.drop n).length):=by rw[List.length_drop,Nat.sub_sub_self h]
theorem A9o {b:Nat}{txt r:List UInt8}{m e:Value}{w:World}(h:St w b txt r m e) :
    Calls Tryz.prog 226 #[.pointer (some ⟨b,0,none⟩)] w (C6j b txt m e w (fun l v _=>v = .string (S l)) (A4f r)):=by
  go_enter Tryz.func226,Tryz.ntmps226
  go_wp2_with fail
  refine(A9x b txt r m e w h).mono ?_
  rintro en w1 ⟨rfl,hs,hk⟩
  have HN:Hid (A4f r=A4f r):=rfl
  generalize hq:A1o r=q at hs
  have ag:q.length≤3000:=by have:=hs.1;have:=hs.2.1;omega
  go_wp2_with fail
  refine(A4a q (by omega) _).mono ?_
  rintro en w2 ⟨rfl,rfl⟩
  obtain⟨N,HN⟩:∃ N,Hid (N=A1c q):=⟨_,rfl⟩
  have ac:N≤q.length:=by rw[HN.out];exact B5e q
  rw[←HN.out]
  by_cases h0:N=0
  · have HM:Hid (A4f r = .error (some (2,q))):=by show _=_;simp[A4f,hq,←HN.out,h0]
    subst h0
    clear hq
    go_wp2_with fail
    refine(A0s hs 2).mono ?_
    rintro en w1 ⟨rfl,rfl⟩
    go_wp2
    exact⟨rfl,A0f hk HM.out hs.2.1⟩
  · have e0:((N:Int)==0)=false:=beq_eq_false_iff_ne.2 (by omega)
    by_cases h16:16<N
    · have HM:Hid (A4f r = .error (some (7,q))):=by show _=_;simp[A4f,hq,←HN.out,h0,h16]
      clear hq
      go_wp2_with fail
      refine(A0s hs 7).mono ?_
      rintro en w1 ⟨rfl,rfl⟩
      go_wp2
      exact⟨rfl,A0f hk HM.out hs.2.1⟩
    · have HM:Hid (A4f r = .ok (q.take N,q.drop N)):=by show _=_;simp[A4f,hq,←HN.out,h0,h16]
      have ah:=D8k q N ac
      have c1:=hs.c1
      have f1:=hs.f1
      have hl:=hs.1
      obtain⟨K,HK⟩:∃ K:Nat,Hid (K=txt.length-q.length):=⟨_,rfl⟩
      rw[←HK.out] at c1
      have hK:K≤3000:=by have:=HK.out;omega
      have HE:Hid (txt.length-(q.drop N).length=K+N):=by show _=_;have:=HK.out;have:=hs.2.1;simp;omega
      clear hq
      go_wp2_with fail
      refine(A8w (q.take N) (by simp;omega) _).mono ?_
      rintro en w3 ⟨rfl,hb⟩
      go_wp2
      go_ret
      have hs2:=hs.set (r':=q.drop N) (v:=(K:Int)+(N:Int)) (by simp) (B2k ac) (by rw[HE.out];push_cast;rfl)
      exact A5b ((hk.set _ _).trans (Kp.of_below hb)) HM.out (hs2.kept hb) rfl
theorem B1e (w:World)(t:TypeId)(d:ByteArray):Below w.heap.size w (Lib.bytesWorld w t d):=
  Lib.below_freeze ((Below.drew (Below.refl _ w)).alloc (Nat.le_refl _) _) (p:=⟨w.heap.size,_,none⟩) (Nat.le_refl _) 1
theorem D0y {B:Nat}{d:List UInt8}(hne:d≠[])(hd:∀ c∈d,B5n c=true)(hl:d.length≤3000){w:World}(hg:Gl B w){V:Nat}(HV:V=D0l d) :
    Calls Tryz.prog 261 #[.string (S d)] w fun e w'=>Below w.heap.size w w'∧
      ((V<9223372036854775808∧e = .returned (.tuple #[.int .i64 (V:Int),.nilIface]))∨
       (9223372036854775808≤V∧∃ t p,e = .returned (.tuple #[.int .i64 9223372036854775807,.iface t (.pointer (some p))]))):=by
  have hdd:(S d).data.toList=d:=by simp[S]
  have hsz:(S d).size≤3000:=by rw[A3j];exact hl
  obtain⟨a1,a2⟩:=B9s hne hd
  rw[←HV] at a1 a2
  by_cases h:V<9223372036854775808
  · have h1:Lib.atoiAll (S d).data.toList = .ok (V:Int):=by rw[hdd];exact a1 h
    refine(Tryz.strconv_Atoi_ok (S d) (by omega) _ h1 w).mono ?_
    rintro e w' ⟨rfl,hw⟩
    refine⟨?_,.inl ⟨h,rfl⟩⟩
    rcases hw with rfl|⟨t,rfl⟩
    · exact Below.refl _ _
    · exact B1e _ _ _
  · obtain⟨⟨tp,p,hv⟩,_⟩:=hg w (Below.refl _ _)
    have h1:Lib.atoiAll (S d).data.toList = .range:=by rw[hdd];exact a2 (by omega)
    have h2:Lib.atoiSat (S d).data.toList=9223372036854775807:=by
      rw[hdd]
      cases d with
      | nil=>exact absurd rfl hne
      | cons c r=>
        have hc:=hd c (by simp)
        have h1:48≤c.toNat∧c.toNat≤57:=by simpa [B5n] using hc
        exact Lib.atoiSat_other c r (by omega)
    refine(Tryz.strconv_Atoi_range_var (S d) (by omega) h1 tp p w hv).mono ?_
    rintro e w' ⟨N,rfl,_,_,hb⟩
    rw[h2]
    exact⟨hb,.inr ⟨by omega,_,_,rfl⟩⟩
theorem A5z {B b:Nat}{txt r:List UInt8}{m e:Value}{w:World}(h:St w b txt r m e)(hg:Gl B w)(hB:B≤b)(most:Nat)(hm:most≤4294967296) :
    Calls Tryz.prog 249 #[.pointer (some ⟨b,0,none⟩),.int .i64 (most:Int)] w (C6j b txt m e w (fun(n:Nat) v _=>v = .int .i64 (n:Int)∧n≤most) (A5p most r)):=by
  go_enter Tryz.func249,Tryz.ntmps249
  go_wp2_with fail
  refine(A9x b txt r m e w h).mono ?_
  rintro en w1 ⟨rfl,hs,hk⟩
  have hg1:Gl B w1:=hg.kp hB h.lt hk
  clear hg
  generalize hq:A1o r=q at hs
  have bn:q.length≤3000:=by have:=hs.1;have:=hs.2.1;omega
  obtain⟨N,HN⟩:∃ N,Hid (N=A4r q):=⟨_,rfl⟩
  have aj:N≤q.length:=by rw[HN.out];exact C7e q
  have bk:=D8k q N aj
  go_wp2_with fail
  refine(B1f q (by omega) _).mono ?_
  rintro en w2 ⟨rfl,rfl⟩
  rw[←HN.out]
  obtain⟨d,Hd⟩:∃ d,Hid (d=q.take N):=⟨_,rfl⟩
  rw[←Hd.out] at bk
  have ak:d.length=N:=by rw[Hd.out];simp[aj]
  have ag:D1n r=d:=by rw[D1n,hq,←HN.out,Hd.out]
  by_cases h0:N=0
  · have HM:Hid (A5p most r = .error (some (2,q))):=by show _=_;simp[A5p,hq,←HN.out,h0]
    have bc:d = []:=List.eq_nil_of_length_eq_zero (by omega)
    clear hq ag ak Hd
    subst bc h0
    have bg:(S []).toList.isEmpty=true:=by rw[A2t];rfl
    go_wp2_with fail
    refine(A0s hs 2).mono ?_
    rintro en w1 ⟨rfl,rfl⟩
    go_wp2
    exact⟨rfl,A0f hk HM.out hs.2.1⟩
  · have hne:d≠[]:=by intro hh;rw[hh] at ak;simp at ak;omega
    have hall:∀ c∈d,B5n c=true:=by
      intro c hc
      rw[Hd.out,HN.out] at hc
      exact B7b B5n q c hc
    have bg:(S d).toList.isEmpty=false:=by rw[A2t];simpa using hne
    have hsz:(S d).size=N:=by rw[A3j,ak]
    obtain⟨V,HV⟩:∃ V,Hid (V=D0l d):=⟨_,rfl⟩
    have ah:=fun(w':World) (hw:Gl B w')=>@D0y B d hne hall (by omega) w' hw V HV.out
    have bh:0<d.length:=by omega
    obtain⟨X,HX⟩:∃ X:Nat,Hid (X=(d.getD 0 0).toNat):=⟨_,rfl⟩
    have hx:∀ h,((S d)[0]'h).toNat=X:=by intro h;rw[B0e,HX.out]
    have Hh:Hid (q.head?=some 48↔X=48):=by
      show _↔_
      rw[HX.out,Hd.out]
      cases q with
      | nil=>simp at aj;omega
      | cons a t=>
        obtain⟨n,rfl⟩:∃ n,N=n+1:=⟨N-1,by omega⟩
        simp
        constructor
        · rintro rfl;rfl
        · intro hh;exact UInt8.toNat_inj.1 hh
    have e0:Hid (N≠0):=h0
    by_cases h1:N=1
    · have aw:¬ (1<(N:Int)):=by omega
      have H1:Hid (N=1):=h1
      clear h1 h0
      go_wp2_with fail
      refine(ah _ hg1).mono ?_
      rintro en w2 ⟨hb,ac⟩
      have hs2:=hs.kept hb
      have hk2:=hk.trans (Kp.of_below hb)
      rcases ac with⟨hV,rfl⟩|⟨hV,tp,p,rfl⟩
      · by_cases hmv:most<V
        · have HM:Hid (A5p most r = .error (some (3,q))):=by show _=_;simp[A5p,hq,←HN.out,e0.out,ag,←HV.out,hmv]
          clear ah Hh hq ag hne hall
          go_wp2_with fail
          refine(A0s hs2 3).mono ?_
          rintro en w1 ⟨rfl,rfl⟩
          go_wp2
          exact⟨rfl,A0f hk2 HM.out hs.2.1⟩
        · have HM:Hid (A5p most r = .ok (V,q.drop N)):=by show _=_;simp[A5p,hq,←HN.out,ag,←HV.out,hmv,H1.out]
          have c1:=hs2.c1
          have f1:=hs2.f1
          have hl:=hs2.1
          obtain⟨K,HK⟩:∃ K:Nat,Hid (K=txt.length-q.length):=⟨_,rfl⟩
          rw[←HK.out] at c1
          have hK:K≤3000:=by have:=HK.out;omega
          have HE:Hid (txt.length-(q.drop N).length=K+N):=by show _=_;have:=HK.out;have:=hs.2.1;simp;omega
          clear ah Hh hq ag hne hall
          go_wp2
          go_ret
          exact A5b (hk2.set _ _) HM.out (hs2.set (r':=q.drop N) (by simp) (B2k aj) (by rw[HE.out];push_cast;rfl)) ⟨rfl,by omega⟩
      · have HM:Hid (A5p most r = .error (some (3,q))):=by show _=_;simp[A5p,hq,←HN.out,e0.out,ag,←HV.out,show most<V by omega]
        clear ah Hh hq ag hne hall
        go_wp2_with fail
        refine(A0s hs2 3).mono ?_
        rintro en w1 ⟨rfl,rfl⟩
        go_wp2
        exact⟨rfl,A0f hk2 HM.out hs.2.1⟩
    · have aw:1<(N:Int):=by omega
      by_cases h48:X=48
      · have HM:Hid (A5p most r = .error (some (3,q))):=by show _=_;simp[A5p,hq,←HN.out,e0.out,Hh.out,h48,show 1<N by omega]
        subst h48
        go_wp2_with fail
        refine(ah _ hg1).mono ?_
        rintro en w2 ⟨hb,ac⟩
        have hs2:=hs.kept hb
        have hk2:=hk.trans (Kp.of_below hb)
        rcases ac with⟨hV,rfl⟩|⟨hV,tp,p,rfl⟩
        rotate_right
        rotate_right
        all_goals
          clear ah Hh hq ag hne hall
          go_wp2_with fail
          refine(A0s hs2 3).mono ?_
          rintro en w1 ⟨rfl,rfl⟩
          go_wp2
          exact⟨rfl,A0f hk2 HM.out hs.2.1⟩
      · have ba:((X:Int)==48)=false:=beq_eq_false_iff_ne.2 (by omega)
        have au:Hid (X≠48):=h48
        clear h48 h1 h0
        go_wp2_with fail
        refine(ah _ hg1).mono ?_
        rintro en w2 ⟨hb,ac⟩
        have hs2:=hs.kept hb
        have hk2:=hk.trans (Kp.of_below hb)
        rcases ac with⟨hV,rfl⟩|⟨hV,tp,p,rfl⟩
        · by_cases hmv:most<V
          · have HM:Hid (A5p most r = .error (some (3,q))):=by show _=_;simp[A5p,hq,←HN.out,e0.out,ag,←HV.out,hmv]
            clear ah Hh hq ag hne hall
            go_wp2_with fail
            refine(A0s hs2 3).mono ?_
            rintro en w1 ⟨rfl,rfl⟩
            go_wp2
            exact⟨rfl,A0f hk2 HM.out hs.2.1⟩
          · have HM:Hid (A5p most r = .ok (V,q.drop N)):=by show _=_;simp[A5p,hq,←HN.out,e0.out,ag,←HV.out,hmv,Hh.out,au.out]
            have c1:=hs2.c1
            have f1:=hs2.f1
            have hl:=hs2.1
            obtain⟨K,HK⟩:∃ K:Nat,Hid (K=txt.length-q.length):=⟨_,rfl⟩
            rw[←HK.out] at c1
            have hK:K≤3000:=by have:=HK.out;omega
            have HE:Hid (txt.length-(q.drop N).length=K+N):=by show _=_;have:=HK.out;have:=hs.2.1;simp;omega
            clear ah Hh hq ag hne hall
            go_wp2
            go_ret
            exact A5b (hk2.set _ _) HM.out (hs2.set (r':=q.drop N) (by simp) (B2k aj) (by rw[HE.out];push_cast;rfl)) ⟨rfl,by omega⟩
        · have HM:Hid (A5p most r = .error (some (3,q))):=by show _=_;simp[A5p,hq,←HN.out,e0.out,ag,←HV.out,show most<V by omega]
          clear ah Hh hq ag hne hall
          go_wp2_with fail
          refine(A0s hs2 3).mono ?_
          rintro en w1 ⟨rfl,rfl⟩
          go_wp2
          exact⟨rfl,A0f hk2 HM.out hs.2.1⟩
end Go.Proofs.YtgaoojpakjjdnaaGreatDoor
namespace Go.Proofs.YtgaoojpakjjdnaaGreatDoor
open Go.RowKit
structure EK (α:Type) where
 elem:TypeId
 slice:TypeId
 size:Nat
 bytes:Nat
 zero:Value
 enc : α→List Value
 under:Tryz.prog.underlying slice=some (.slice elem)
 info:(Tryz.prog.info? elem).map (fun i=>(i.zero,i.size,i.bytes))=some (some zero,size,bytes)
 zs:zero.cells.size=size
 pos:0<size
 small:bytes≤1000
 len:∀ a,(enc a).length=size
 one:∀ a,∀ u∈enc a,u.oneCell'=true
def EK.flat {α:Type}(E:EK α)(l:List α):List Value:=l.flatMap E.enc
theorem EK.flat_len {α:Type}(E:EK α)(l:List α):(E.flat l).length=l.length*E.size:=by
 unfold EK.flat
 induction l with
 | nil=>simp
 | cons a r ih=>rw[List.flatMap_cons,List.length_append,ih,E.len,List.length_cons,Nat.succ_mul,Nat.add_comm]
theorem EK.flat_append {α:Type}(E:EK α)(l m:List α):E.flat (l++m)=E.flat l++E.flat m:=by simp[EK.flat]
theorem EK.flat_at {α:Type}(E:EK α)(l:List α)(i j:Nat)(a : α)(h:l[i]?=some a)(hj:j<E.size):(E.flat l)[i*E.size+j]?=(E.enc a)[j]?:=by
 unfold EK.flat
 induction l generalizing i with
 | nil=>simp at h
 | cons q r ih=>
  rw[List.flatMap_cons]
  cases i with
  | zero=>
   simp at h
   subst h
   rw[Nat.zero_mul,Nat.zero_add,List.getElem?_append_left (by rw[E.len];exact hj)]
  | succ i=>
   have h':r[i]?=some a:=by simpa using h
   rw[←ih i h',show(i+1)*E.size+j=(E.enc q).length+(i*E.size+j) by rw[E.len,Nat.succ_mul];omega,
    List.getElem?_append_right (Nat.le_add_right _ _),Nat.add_sub_cancel_left]
def Row {α:Type}(E:EK α)(w:World)(base:Nat)(v:Value)(l:List α):Prop:=w.ownsRow base E.elem E.size v l.length (E.flat l)
section
variable {α:Type}{E:EK α}{w w':World}{base b:Nat}{v:Value}{l:List α}
theorem Row.nil (E:EK α)(w:World)(base:Nat):Row E w base (.slice none 0 0) []:=World.ownsRow_nil _ _ _ _
theorem Row.keep (h:Row E w base v l)(hb:∀ k,base≤k→k<w.heap.size→w'.heap[k]?=w.heap[k]?):Row E w' base v l:=by
 refine⟨h.1,?_⟩
 rcases h.2 with hn|⟨g,cap,cur,hv,hbg,hg,r⟩
 ·exact .inl hn
 ·exact .inr ⟨g,cap,cur,hv,hbg,by rw[hb g hbg (Array.getElem?_eq_some_iff.1 hg).1];exact hg,r⟩
theorem Row.kp (h:Row E w base v l)(hk:Kp b w w')(hb:b<base):Row E w' base v l:=h.keep fun k h1 h2=>hk.block k h2 (by omega)
theorem Row.below (h:Row E w base v l)(hk:Below w.heap.size w w'):Row E w' base v l:=h.keep fun k _ h2=>hk.block k h2
theorem Row.mono {base':Nat}(h:Row E w base v l)(hb:base'≤base):Row E w base' v l:=by
 refine⟨h.1,?_⟩
 rcases h.2 with hn|⟨g,cap,cur,hv,hbg,r⟩
 ·exact .inl hn
 ·exact .inr ⟨g,cap,cur,hv,Nat.le_trans hb hbg,r⟩
theorem Row.own (h:Row E w base v l):∀ k,v.ownBlock=some k→base≤k∧k<w.heap.size:=World.ownsRow.lt h
theorem Row.ne {β:Type}{F:EK β}{base':Nat}{v':Value}{l':List β}(h:Row E w base v l)(h':Row F w base' v' l')(hne:E.elem≠F.elem):v.ownBlock=none∨v.ownBlock≠v'.ownBlock:=by
 rcases h.2 with⟨hv,_⟩|⟨g,cap,cur,hv,_,hg,_⟩
 ·left;rw[hv];rfl
 ·rcases h'.2 with⟨hv',_⟩|⟨g',cap',cur',hv',_,hg',_⟩
  ·right;rw[hv,hv'];simp[Value.ownBlock]
  ·right
   rw[hv,hv']
   simp only[Value.ownBlock,ne_eq,Option.some.injEq]
   intro e
   rw[e,hg'] at hg
   simp at hg
   exact hne hg.2.symm
theorem Row.grown {row:Option Nat}(h:Row E w base v l)(hg:w.grownBy w' row)(hne:v.ownBlock=none∨v.ownBlock≠row):Row E w' base v l:=World.ownsRow.kept h hg hne
theorem Row.shape (h:Row E w base v l):∃ ao cap,v = .slice ao l.length cap:=by
 rcases h.2 with⟨hv,hn⟩|⟨g,cap,cur,hv,_⟩
 ·exact⟨none,0,by rw[hv,hn]⟩
 ·exact⟨_,cap,hv⟩
theorem Row.one (E:EK α)(w:World)(a : α)(hb:base≤w.heap.size):Row E (w.alloc (.cells (E.enc a).toArray E.elem)) base (.slice (some ⟨w.heap.size,0,none⟩) 1 1) [a]:=by
 refine⟨E.flat_len [a],.inr ⟨w.heap.size,1,_,rfl,hb,heap_alloc_new w _,Nat.le_refl _,by unfold maxLen;omega,by simp[E.len],?_⟩⟩
 have:(E.enc a).length=([a]:List α).length*E.size:=by rw[E.len];simp
 simp only[EK.flat,List.flatMap_cons,List.flatMap_nil,List.append_nil]
 rw[←this]
 simp
theorem Kp.grown {x:World}{row:Option Nat}(h:Kp b x w)(hg:w.grownBy w' row)(hr:∀ k,row=some k→x.heap.size≤k):Kp b x w':=
 ⟨hg.os.trans h.os,hg.tape.trans h.tape,hg.output.trans h.output,Nat.le_trans h.size hg.size,fun k hk hb=>
  (hg.block k (Nat.lt_of_lt_of_le hk h.size) (fun e=>by have:=hr k e.symm;omega)).trans (h.block k hk hb)⟩
theorem St.grown {txt r:List UInt8}{m e:Value}{row:Option Nat}(h:St w b txt r m e)(hg:w.grownBy w' row)(hr:∀ k,row=some k→k≠b):St w' b txt r m e:=
 ⟨h.1,h.2.1,h.2.2.1,by rw[hg.block b h.lt (fun e=>hr b e.symm rfl)];exact h.2.2.2⟩
theorem A3r {o:Oper}{a:Act}{K:Act→World→Prop}{Q:Exit→Act→World→Prop}(E:EK α)(s x:Operand)
  (ho:o.op = .call { callee:=.builtin .append,args:=#[s,x],argTypes:=#[E.slice,E.slice] })
  (base:Nat) (v:Value) (l m:List α) (hs:a.eval s=v) (hown:Row E w base v l) (base':Nat) (u:Value) (hx:a.eval x=u) (ac:Row E w base' u m)
  (hlen:l.length+m.length≤1000000) (hb:base≤w.heap.size)
  (h:∀ v' w',Row E w' base v' (l++m)→w.grownBy w' v.ownBlock→K (a.put o.dst v') w'):o.wp Tryz.prog a w K Q:=by
 obtain⟨i0,hi,hz0,hz1,hz2⟩:=info_parts E.info
 rcases ac.2 with⟨hu,hn⟩|⟨g,cap,cur,hu,hbg,hg,hn,hm,hsz,ht⟩
 ·have ag:m = []:=List.eq_nil_of_length_eq_zero hn
  subst ag
  have hrun:=run_append_owned_none (P:=Tryz.prog) (w:=w) base E.slice o.type E.elem i0 E.size E.under hi v l.length (E.flat l) hown
  rw[hu] at hx
  unfold Oper.wp
  simp[execOp,ho,resolve,invoke,builtin,hs,hx,hrun,Result.andThen]
  exact h v w (by rw[List.append_nil];exact hown) ⟨rfl,rfl,rfl,Nat.le_refl _,fun _ _ _=>rfl⟩
 ·rw[hu] at hx
  refine wp_append_own w s x E.slice ho base E.elem i0 _ E.size E.bytes E.under hi hz0 hz1 hz2 E.zs E.pos v l.length _ hs hown ⟨g,0,none⟩ m.length cap
   (E.flat m) hx (E.flat_len m) (World.ownsRow.cells ac (g:=g) (by rw[hu];rfl)) ?_ (by unfold maxLen;omega) ?_ hb ?_
  ·intro y hy
   simp only[EK.flat,List.mem_flatMap] at hy
   obtain⟨p,hp,hy⟩:=hy
   exact E.one p y hy
  ·exact Nat.le_trans (Nat.mul_le_mul hlen E.small) (by decide)
  ·intro v' w' h1 h2 _
   refine h v' w' ?_ h2
   show w'.ownsRow base E.elem E.size v' (l++m).length (E.flat (l++m))
   rw[List.length_append,E.flat_append]
   exact h1
theorem A2r {ops:Array Oper}{rest:List Oper}{o:Oper}{a:Act}{Q:Exit→Act→World→Prop}(hgd:o.guard=none)(E:EK α)(s x:Operand)
  (ho:o.op = .call { callee:=.builtin .append,args:=#[s,x],argTypes:=#[E.slice,E.slice] })
  (base:Nat) (v:Value) (l m:List α) (hs:a.eval s=v) (hown:Row E w base v l) (base':Nat) (u:Value) (hx:a.eval x=u) (ac:Row E w base' u m)
  (hlen:l.length+m.length≤1000000) (hb:base≤w.heap.size)
  (h:∀ v' w',Row E w' base v' (l++m)→w.grownBy w' v.ownBlock→wpList Tryz.prog ops Q rest (a.put o.dst v') w'):wpList Tryz.prog ops Q (o::rest) a w:=
 wpList_plain hgd fun _ hK=>A3r E s x ho base v l m hs hown base' u hx ac hlen hb fun v' w' h2 h3=>hK _ _ (h v' w' h2 h3)
end
def D4m (n:Nat):List Value:=[.int .i64 (n:Int)]
def A6x:EK Nat where
 elem:=3
 slice:=30
 size:=1
 bytes:=8
 zero:=.int .i64 0
 enc:=D4m
 under:=Tryz.underlying30
 info:=by kernel_rfl
 zs:=rfl
 pos:=by decide
 small:=by decide
 len:=fun _=>rfl
 one:=by intro a u hu;simp only[D4m,List.mem_singleton] at hu;subst hu;rfl
def A1t (f:Fld):List Value:=[.string (S f.name),.int .i64 (f.number:Int),.int .i64 (f.kind:Int),.string (S f.type),.bool f.many,.int .i64 (f.choice:Int)]
def A4i:EK Fld where
 elem:=40
 slice:=36
 size:=6
 bytes:=64
 zero:=.agg #[.string ⟨#[]⟩,.int .i64 0,.int .i64 0,.string ⟨#[]⟩,.bool false,.int .i64 0]
 enc:=A1t
 under:=Tryz.underlying36
 info:=by kernel_rfl
 zs:=rfl
 pos:=by decide
 small:=by decide
 len:=fun _=>rfl
 one:=by intro a u hu;simp only[A1t,List.mem_cons,List.mem_nil_iff,or_false] at hu;rcases hu with rfl|rfl|rfl|rfl|rfl|rfl <;> rfl
def A2g (f:Itm):List Value:=[.string (S f.name),.int .i64 f.value]
def A6y:EK Itm where
 elem:=162
 slice:=98
 size:=2
 bytes:=24
 zero:=.agg #[.string ⟨#[]⟩,.int .i64 0]
 enc:=A2g
 under:=Tryz.underlying98
 info:=by kernel_rfl
 zs:=rfl
 pos:=by decide
 small:=by decide
 len:=fun _=>rfl
 one:=by intro a u hu;simp only[A2g,List.mem_cons,List.mem_nil_iff,or_false] at hu;rcases hu with rfl|rfl <;> rfl
end Go.Proofs.YtgaoojpakjjdnaaGreatDoor
namespace Go.Proofs.YtgaoojpakjjdnaaGreatDoor
open Go.RowKit
def A3g:Array Value:=(A4d.map fun l=>Value.string (S l)).toArray
theorem B3q (w:World):Calls Tryz.prog 157 #[] w fun e w'=>e = .returned (.slice (some ⟨w.heap.size,0,none⟩) 9 9)∧w.alloc (.cells A3g 9)=w':=by
 go_enter Tryz.func157,Tryz.ntmps157
 go_wp2
 go_ret
 exact⟨rfl,rfl⟩
theorem A7l (k:Nat)(hk:k<9):A3g[k]?=some (.string (S (A4d.getD k []))):=by
 have:k<A4d.length:=hk
 simp[A3g,this]
theorem B7d {i:Nat}{ws:List (List UInt8)}{k:Nat}{l:List UInt8}(hk:k<ws.length):A5m i (ws.drop k) l=if ws.getD k []=l then(i,[]) else A5m (i+1) (ws.drop (k+1)) l:=by
 rw[List.drop_eq_getElem_cons hk,A5m]
 simp[hk]
theorem A0a {w:World}{g:Nat}{cs:Array Value}{t:TypeId}{fr:Nat×Nat}(h:w.heap[g]?=some (.cells cs t fr))(i:Nat)(v:Value)(hi:cs[i]?=some v):w.cell? ⟨g,i,none⟩=some v:=by
 simp[World.cell?,h,hi]
theorem C5x (l:List UInt8)(w:World):Calls Tryz.prog 250 #[.string (S l)] w fun e w'=>e = .returned (.tuple #[.int .i64 ((A2o l).1:Int),.string (S (A2o l).2)])∧Below w.heap.size w w':=by
 have hl:=A2t l
 go_enter Tryz.func250,Tryz.ntmps250
 go_wp2_with fail
 refine(B3q w).mono ?_
 rintro e w1 ⟨rfl,ag⟩
 have hblk:w1.heap[w.heap.size]?=some (.cells A3g 9 (0,0)):=by rw[←ag];exact heap_alloc_new w _
 have ac:Below w.heap.size w w1:=by rw[←ag];exact(Below.refl _ _).alloc (Nat.le_refl _) _
 obtain⟨g,Hg⟩:∃ g,Hid (g=w.heap.size):=⟨_,rfl⟩
 rw[←Hg.out] at hblk ⊢
 clear ag
 go_wp2
 go_loop [8] (fun i=>∃ k:Nat,k≤9∧i = .int .i64 k∧Hid (A2o l=A5m (1+k) (A4d.drop k) l)) (fun i=>9-(intOf i).toNat)
 case atStart=>exact⟨0,by omega,rfl,rfl⟩
 case round=>
  obtain⟨k,hk,rfl,HR⟩:=hrel
  by_cases hlt:k<9
  ·have hc:=A0a hblk k _ (A7l k hlt)
   obtain⟨x,Hx⟩:∃ x,Hid (x=A4d.getD k []):=⟨_,rfl⟩
   have HS:=B7d (i:=1+k) (ws:=A4d) (l:=l) hlt
   have ah:Hid (A2o l=if x=l then(1+k,[]) else A5m (1+k+1) (A4d.drop (k+1)) l):=by show _=_;rw[HR.out,HS,Hx.out]
   rw[←Hx.out] at hc
   have hlx:=A2t x
   clear HS hblk
   by_cases hx:x=l
   ·have HE:Hid (A2o l=(1+k,[])):=by show _=_;rw[ah.out,if_pos hx]
    have hb:(x==l)=true:=by simpa using hx
    clear hx
    go_wp2
    go_ret2
    rw[HE.out]
    refine⟨?_,ac⟩
    show Ending.returned (.tuple #[.int .i64 (1+(k:Int)),.string (S [])]) = .returned (.tuple #[.int .i64 ((1+k:Nat):Int),.string (S [])])
    rw[Int.natCast_add]
    rfl
   ·have HE:Hid (A2o l=A5m (1+(k+1)) (A4d.drop (k+1)) l):=by show _=_;rw[ah.out,if_neg hx];rfl
    have hb:(x==l)=false:=by simpa using hx
    clear hx
    go_wp2
    go_round
    case rel=>exact⟨k+1,by omega,by go_num,HE⟩
    case measure=>simp[intOf];omega
  ·have aj:k=9:=by omega
   have HE:Hid (A2o l=(10,l)):=by show _=_;rw[HR.out,aj];rfl
   clear HR
   go_wp2
   go_ret2
   rw[HE.out]
   exact⟨rfl,ac⟩
end Go.Proofs.YtgaoojpakjjdnaaGreatDoor
