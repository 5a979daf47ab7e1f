import Derived.Test.YtgaoojpakjjdnaaGreatDoorU40
import Derived.Lib.AtoiAllCases
import Derived.Lib.ItoaNum
import Derived.Lib.LaidTab
import Derived.Lib.UnsafeStr
import Derived.OwnWalk
import Derived.Laws.OwnMore
set_option maxHeartbeats 32000000
set_option maxRecDepth 100000
namespace Go.Proofs.YtgaoojpakjjdnaaGreatDoor
open Go.RowKit
def Ft (c p:Nat):List PanicEntry:=[{ v:=.iface 50 (.agg #[.int .i64 (c:Int),.int .i64 (p:Int)]),recovered:=false }]
def B9z {α:Type}(b:Nat) (txt:List UInt8) (m e:Value) (w:World) (good : α→Value→World→Prop) (x:R α) (en:Ending) (w':World):Prop:=
 Kp b w w'∧
  match x with
  | .ok (a,t)=>St w' b txt t m e∧∃ v,en = .returned v∧good a v w'
  | .error (some (c,t))=>t.length≤txt.length∧en = .panicked (Ft c (txt.length - t.length))
  | .error none=>False
theorem A0n {b:Nat}{txt r:List UInt8}{m e:Value}{w:World}(h:St w b txt r m e) (c:Nat) :
  Calls Tryz.prog 193 #[.pointer (some ⟨b,0,none⟩),.int .i64 (c:Int)] w fun en w'=>en = .panicked (Ft c (txt.length - r.length))∧w=w':=by
 have c1:=h.c1
 obtain⟨K,HK⟩:∃ K:Nat,Hid (K=txt.length - r.length):=⟨_,rfl⟩
 rw[←HK.out] at c1 ⊢
 go_enter Tryz.func193,Tryz.ntmps193
 go_wp2
 exact⟨rfl,rfl,rfl⟩
theorem A5u {b:Nat}{txt r:List UInt8}{m e:Value}{w:World}(h:St w b txt r m e) (c:UInt8) :
  Calls Tryz.prog 228 #[.pointer (some ⟨b,0,none⟩),.int .u8 (c.toNat:Int)] w fun en w'=>en = .returned (.bool (A2z c r).1)∧St w' b txt (A2z c r).2 m e∧Kp b w w':=by
 go_enter Tryz.func228,Tryz.ntmps228
 go_wp2_with fail
 refine(A7l b txt r m e w h).mono ?_
 rintro en w1 ⟨rfl,hs,hk⟩
 have HS:Hid (A1a r=A1a r):=rfl
 generalize hq:A1a r=q at hs
 cases q with
 | nil=>
  have HM:Hid (A2z c r=(false,[])):=by show _=_;simp[A2z,hq]
  have ag:(S []).toList.isEmpty=true:=by rw[A1x];rfl
  go_wp2
  go_ret
  rw[HM.out]
  exact⟨rfl,hs,hk⟩
 | cons x t=>
  have ag:(S (x::t)).toList.isEmpty=false:=by rw[A1x];rfl
  have hsz:(S (x::t)).size=t.length+1:=by rw[A2l];rfl
  obtain⟨X,HX⟩:∃ X:Nat,Hid (X=x.toNat):=⟨_,rfl⟩
  have hx:∀ h,((S (x::t))[0]'h).toNat=X:=by intro h;rw[A7r,HX.out];rfl
  obtain⟨C,HC⟩:∃ C:Nat,Hid (C=c.toNat):=⟨_,rfl⟩
  rw[←HC.out]
  by_cases h1:x=c
  ·have HM:Hid (A2z c r=(true,t)):=by show _=_;simp[A2z,hq,h1]
   have ac:X=C:=by rw[HX.out,HC.out,h1]
   subst ac
   have c1:=hs.c1
   have f1:=hs.f1
   have hl:=hs.1
   obtain⟨K,HK⟩:∃ K:Nat,Hid (K=txt.length - (x::t).length):=⟨_,rfl⟩
   rw[←HK.out] at c1
   have hK:K≤3000:=by have:=HK.out;omega
   clear hq h1
   go_wp2
   go_ret
   rw[HM.out]
   refine⟨rfl,hs.set (by simp) (by simp) ?_,hk.set _ _⟩
   have:=HK.out
   have:=hs.2.1
   simp at *
   omega
  ·have HM:Hid (A2z c r=(false,x::t)):=by show _=_;simp[A2z,hq,h1]
   have ac:((X:Int) != (C:Int))=true:=by rw[bne_iff_ne];intro hh;exact h1 (UInt8.toNat_inj.1 (by rw[←HX.out,←HC.out];omega))
   clear hq
   go_wp2
   go_ret
   rw[HM.out]
   exact⟨rfl,hs,hk⟩
theorem C8b {b:Nat}{txt r:List UInt8}{m e:Value}{w:World}(h:St w b txt r m e) :
  Calls Tryz.prog 189 #[.pointer (some ⟨b,0,none⟩)] w fun en w'=>en = .returned (.bool (decide (A1a r = [])))∧St w' b txt (A1a r) m e∧Kp b w w':=by
 go_enter Tryz.func189,Tryz.ntmps189
 go_wp2_with fail
 refine(A7l b txt r m e w h).mono ?_
 rintro en w1 ⟨rfl,hs,hk⟩
 generalize hq:A1a r=q at hs
 cases q with
 | nil=>
  have ac:(S []).toList.isEmpty=true:=by rw[A1x];rfl
  have HQ:Hid (A1a r = []):=hq
  clear hq
  go_wp2
  go_ret
  rw[HQ.out]
  exact⟨rfl,hs,hk⟩
 | cons x t=>
  have ac:(S (x::t)).toList.isEmpty=false:=by rw[A1x];rfl
  have HQ:Hid (A1a r=x::t):=hq
  clear hq
  go_wp2
  go_ret
  rw[HQ.out]
  exact⟨rfl,hs,hk⟩
theorem A0f {α:Type}{b:Nat}{txt:List UInt8}{m e:Value}{w w':World}{good : α→Value→World→Prop}{x:R α}{c:Nat}{t:List UInt8}(hk:Kp b w w') (hx:x = .error (some (c,t))) (ht:t.length≤txt.length) :
  B9z b txt m e w good x (.panicked (Ft c (txt.length - t.length))) w':=by rw[hx];exact⟨hk,ht,rfl⟩
theorem A3u {α:Type}{b:Nat}{txt:List UInt8}{m e:Value}{w w':World}{good : α→Value→World→Prop}{x:R α}{a : α}{t:List UInt8}{v:Value}(hk:Kp b w w') (hx:x = .ok (a,t)) (hs:St w' b txt t m e) (hg:good a v w') :
  B9z b txt m e w good x (.returned v) w':=by rw[hx];exact⟨hk,hs,v,rfl,hg⟩
theorem A3j {b:Nat}{txt r:List UInt8}{m e:Value}{w:World}(h:St w b txt r m e) (c:UInt8) :
  Calls Tryz.prog 227 #[.pointer (some ⟨b,0,none⟩),.int .u8 (c.toNat:Int)] w (B9z b txt m e w (fun _ v _=>v = .tuple #[]) (A1k c r)):=by
 go_enter Tryz.func227,Tryz.ntmps227
 go_wp2_with fail
 refine(A5u h c).mono ?_
 rintro en w1 ⟨rfl,hs,hk⟩
 generalize hq:A2z c r=q at *
 obtain⟨ok,t⟩:=q
 cases ok with
 | true=>
  have HM:Hid (A1k c r = .ok ((),t)):=by show _=_;simp[A1k,hq]
  go_wp2
  go_end0
  exact A3u hk HM.out hs rfl
 | false=>
  have HM:Hid (A1k c r = .error (some (2,t))):=by show _=_;simp[A1k,hq]
  go_wp2_with fail
  refine(A0n hs 2).mono ?_
  rintro en w1 ⟨rfl,rfl⟩
  go_wp2
  exact⟨rfl,A0f hk HM.out hs.2.1⟩
theorem B1h (l:List UInt8):A0t l≤l.length:=by
 cases l with
 | nil=>exact Nat.le_refl _
 | cons c r=>
  simp only[A0t]
  split
  ·have:=(List.takeWhile_sublist A5f (l:=r)).length_le;simp;omega
  ·exact Nat.zero_le _
theorem C0t (l:List UInt8):A3n l≤l.length:=(List.takeWhile_sublist _).length_le
theorem A3s {b:Nat}{txt r:List UInt8}{m e:Value}{w:World}(h:St w b txt r m e) (kw:List UInt8) (aj:kw.length≤100) :
  Calls Tryz.prog 190 #[.pointer (some ⟨b,0,none⟩),.string (S kw)] w fun en w'=>en = .returned (.bool (A9k kw r).1)∧St w' b txt (A9k kw r).2 m e∧Kp b w w':=by
 go_enter Tryz.func190,Tryz.ntmps190
 go_wp2_with fail
 refine(A7l b txt r m e w h).mono ?_
 rintro en w1 ⟨rfl,hs,hk⟩
 generalize hq:A1a r=q at hs
 have ak:q.length≤3000:=by have:=hs.1;have:=hs.2.1;omega
 have ah:=D0s q (A0t q) (B1h q)
 have ag:=A1x (q.take (A0t q))
 have hl2:=A1x kw
 have hsz:=A2l kw
 go_wp2_with fail
 refine(A3b q (by omega) _).mono ?_
 rintro en w2 ⟨rfl,rfl⟩
 by_cases h1:q.take (A0t q)=kw
 ·have HM:Hid (A9k kw r=(true,q.drop kw.length)):=by show _=_;simp[A9k,hq,h1]
  have ac:Hid (kw.length≤q.length):=by show _≤_;rw[←h1];simp;exact Nat.min_le_right _ _
  rw[h1] at ah ag
  clear ag
  have c1:=hs.c1
  have f1:=hs.f1
  have hl:=hs.1
  obtain⟨K,HK⟩:∃ K:Nat,Hid (K=txt.length - q.length):=⟨_,rfl⟩
  rw[←HK.out] at c1
  have hK:K≤3000:=by have:=HK.out;omega
  have HE:Hid (txt.length - (q.drop kw.length).length=K+kw.length):=by show _=_;have:=HK.out;have:=ac.out;have:=hs.2.1;simp;omega
  clear hq h1
  go_wp2
  go_ret
  rw[HM.out]
  refine⟨rfl,hs.set (by simp) ?_ ?_,hk.set _ _⟩
  ·show q.drop kw.length=q.drop (q.length - (q.drop kw.length).length)
   rw[List.length_drop,Nat.sub_sub_self ac.out]
  ·show _=((txt.length - (q.drop kw.length).length:Nat):Int)
   rw[HE.out];push_cast;rfl
 ·have HM:Hid (A9k kw r=(false,q)):=by show _=_;simp[A9k,hq,h1]
  have hb:(q.take (A0t q) == kw)=false:=by simpa using h1
  clear hq
  go_wp2
  go_ret
  rw[HM.out]
  exact⟨rfl,hs,hk⟩
end Go.Proofs.YtgaoojpakjjdnaaGreatDoor
namespace Go.Proofs.YtgaoojpakjjdnaaGreatDoor
open Go.RowKit
def Gl (B:Nat) (w:World):Prop:=
  ∀ w', Below B w w' → (∃ tp p, w'.var? Tryz.prog "strconv.ErrRange" = some #[.iface tp p]) ∧ Lib.TabIs Tryz.prog w' "internal/strconv.uint64pow10" .u64 Lib.pow10Tab
theorem Gl.later {B:Nat}{w w':World}(h:Gl B w) (hb:Below B w w'):Gl B w':=fun x hx=>h x (hb.trans hx)
theorem Gl.kp {B b:Nat}{w w':World}(h:Gl B w) (hB:B≤b) (hs:b < w.heap.size) (hk:Kp b w w'):Gl B w':=h.later (hk.below hB (by omega))
theorem C4z (l:List UInt8):∀ acc:Nat,acc≤l.foldl (fun a c=>10*a+(c.toNat - 48)) acc:=by
  induction l with
  | nil=>intro acc;exact Nat.le_refl _
  | cons c r ih=>intro acc;exact Nat.le_trans (by omega) (ih (10*acc+(c.toNat - 48)))
theorem B3v (l:List UInt8) (hd:∀ c∈l,B1q c=true):∀ acc:Nat,acc < 18446744073709551616→
    (l.foldl (fun a c=>10*a+(c.toNat - 48)) acc < 18446744073709551616→Lib.parseUint10 acc l = .ok (l.foldl (fun a c=>10*a+(c.toNat - 48)) acc))∧
    (18446744073709551616≤l.foldl (fun a c=>10*a+(c.toNat - 48)) acc→Lib.parseUint10 acc l = .range):=by
  induction l with
  | nil=>intro acc h;exact⟨fun _=>rfl,fun h2=>absurd h2 (by show ¬ _≤acc;omega)⟩
  | cons c r ih=>
    intro acc h
    have hc:=hd c (by simp)
    have h1:48≤c.toNat∧c.toNat≤57:=by simpa [B1q] using hc
    have ac:=C4z r (10*acc+(c.toNat - 48))
    have e:(c::r).foldl (fun a c=>10*a+(c.toNat - 48)) acc=r.foldl (fun a c=>10*a+(c.toNat - 48)) (10*acc+(c.toNat - 48)):=rfl
    rw[e]
    generalize hF:r.foldl (fun a c=>10*a+(c.toNat - 48)) (10*acc+(c.toNat - 48))=F at *
    by_cases h2:1844674407370955162≤acc
    · have ep:Lib.parseUint10 acc (c::r) = .range:=by simp only[Lib.parseUint10,if_pos h1,if_pos h2]
      exact⟨fun h3=>by omega,fun _=>ep⟩
    · by_cases h3:18446744073709551616≤acc*10+(c.toNat - 48)
      · have ep:Lib.parseUint10 acc (c::r) = .range:=by simp only[Lib.parseUint10,if_pos h1,if_neg h2,if_pos h3]
        exact⟨fun h3=>by omega,fun _=>ep⟩
      · have ep:Lib.parseUint10 acc (c::r)=Lib.parseUint10 (10*acc+(c.toNat - 48)) r:=by
          simp only[Lib.parseUint10,if_pos h1,if_neg h2,if_neg h3]
          rw[Nat.mul_comm acc 10]
        rw[ep,←hF]
        exact ih (fun x hx=>hd x (by simp[hx])) _ (by omega)
theorem B4s {l:List UInt8}(hne:l≠[]) (hd:∀ c∈l,B1q c=true) :
    (C3m l < 9223372036854775808→Lib.atoiAll l = .ok (C3m l:Int))∧(9223372036854775808≤C3m l→Lib.atoiAll l = .range):=by
  cases l with
  | nil=>exact absurd rfl hne
  | cons c r=>
    have hc:=hd c (by simp)
    have h1:48≤c.toNat∧c.toNat≤57:=by simpa [B1q] using hc
    rw[Lib.atoiAll_plain c r (by omega) (by omega),Lib.parseMag,if_neg (by simp)]
    obtain⟨p1,p2⟩:=B3v _ hd 0 (by omega)
    change C3m (c::r) < _→Lib.parseUint10 0 (c::r) = .ok (C3m (c::r)) at p1
    change _≤C3m (c::r)→_ at p2
    generalize C3m (c::r)=F at *
    constructor
    · intro h;rw[p1 (by omega)];simp only[Lib.signless];rw[if_neg (by omega)]
    · intro h
      by_cases h2:F < 18446744073709551616
      · rw[p1 h2];simp only[Lib.signless];rw[if_pos h]
      · rw[p2 (by omega)];rfl
theorem B2n (p:UInt8→Bool) (l:List UInt8):∀ c∈l.take (l.takeWhile p).length,p c=true:=by
  induction l with
  | nil=>simp
  | cons x t ih=>
    by_cases hx:p x=true
    · intro c hc
      simp only[List.takeWhile_cons,hx,if_true,List.length_cons,List.take_succ_cons,List.mem_cons] at hc
      rcases hc with rfl|hc
      · exact hx
      · exact ih c hc
    · simp[hx]
theorem A6v (l:List UInt8) (hl:l.length≤3000) (w:World):Calls Tryz.prog 248 #[.string (S l)] w fun e w'=>e = .returned (.string (S l))∧Below w.heap.size w w':=by
  go_enter Tryz.func248,Tryz.ntmps248
  go_wp2_with fail
  refine(Tryz.stringslite_Clone (S l) w (by rw[A2l];omega)).mono ?_
  rintro e w1 ⟨rfl,hb⟩
  go_wp2
  go_ret
  exact⟨rfl,hb⟩
theorem A9c {q:List UInt8}{n:Nat}(h:n≤q.length):q.drop n=q.drop (q.length - (q.drop n).length):=by rw[List.length_drop,Nat.sub_sub_self h]
theorem A7f {b:Nat}{txt r:List UInt8}{m e:Value}{w:World}(h:St w b txt r m e) :
    Calls Tryz.prog 226 #[.pointer (some ⟨b,0,none⟩)] w (B9z b txt m e w (fun l v _=>v = .string (S l)) (A3f r)):=by
  go_enter Tryz.func226,Tryz.ntmps226
  go_wp2_with fail
  refine(A7l b txt r m e w h).mono ?_
  rintro en w1 ⟨rfl,hs,hk⟩
  have HN:Hid (A3f r=A3f r):=rfl
  generalize hq:A1a r=q at hs
  have ag:q.length≤3000:=by have:=hs.1;have:=hs.2.1;omega
  go_wp2_with fail
  refine(A3b q (by omega) _).mono ?_
  rintro en w2 ⟨rfl,rfl⟩
  obtain⟨N,HN⟩:∃ N,Hid (N=A0t q):=⟨_,rfl⟩
  have ac:N≤q.length:=by rw[HN.out];exact B1h q
  rw[←HN.out]
  by_cases h0:N=0
  · have HM:Hid (A3f r = .error (some (2,q))):=by show _=_;simp[A3f,hq,←HN.out,h0]
    subst h0
    clear hq
    go_wp2_with fail
    refine(A0n hs 2).mono ?_
    rintro en w1 ⟨rfl,rfl⟩
    go_wp2
    exact⟨rfl,A0f hk HM.out hs.2.1⟩
  · have e0:((N:Int) == 0)=false:=beq_eq_false_iff_ne.2 (by omega)
    by_cases h16:16 < N
    · have HM:Hid (A3f r = .error (some (7,q))):=by show _=_;simp[A3f,hq,←HN.out,h0,h16]
      clear hq
      go_wp2_with fail
      refine(A0n hs 7).mono ?_
      rintro en w1 ⟨rfl,rfl⟩
      go_wp2
      exact⟨rfl,A0f hk HM.out hs.2.1⟩
    · have HM:Hid (A3f r = .ok (q.take N,q.drop N)):=by show _=_;simp[A3f,hq,←HN.out,h0,h16]
      have ah:=D0s q N ac
      have c1:=hs.c1
      have f1:=hs.f1
      have hl:=hs.1
      obtain⟨K,HK⟩:∃ K:Nat,Hid (K=txt.length - q.length):=⟨_,rfl⟩
      rw[←HK.out] at c1
      have hK:K≤3000:=by have:=HK.out;omega
      have HE:Hid (txt.length - (q.drop N).length=K+N):=by show _=_;have:=HK.out;have:=hs.2.1;simp;omega
      clear hq
      go_wp2_with fail
      refine(A6v (q.take N) (by simp;omega) _).mono ?_
      rintro en w3 ⟨rfl,hb⟩
      go_wp2
      go_ret
      have hs2:=hs.set (r':=q.drop N) (v:=(K:Int)+(N:Int)) (by simp) (A9c ac) (by rw[HE.out];push_cast;rfl)
      exact A3u ((hk.set _ _).trans (Kp.of_below hb)) HM.out (hs2.kept hb) rfl
theorem A8l (w:World) (t:TypeId) (d:ByteArray):Below w.heap.size w (Lib.bytesWorld w t d):=
  Lib.below_freeze ((Below.drew (Below.refl _ w)).alloc (Nat.le_refl _) _) (p:=⟨w.heap.size,_,none⟩) (Nat.le_refl _) 1
theorem C4a {B:Nat}{d:List UInt8}(hne:d≠[]) (hd:∀ c∈d,B1q c=true) (hl:d.length≤3000){w:World}(hg:Gl B w){V:Nat}(HV:V=C3m d) :
    Calls Tryz.prog 261 #[.string (S d)] w fun e w'=>Below w.heap.size w w'∧
      ((V < 9223372036854775808∧e = .returned (.tuple #[.int .i64 (V:Int),.nilIface]))∨
       (9223372036854775808≤V∧∃ t p,e = .returned (.tuple #[.int .i64 9223372036854775807,.iface t (.pointer (some p))]))):=by
  have hdd:(S d).data.toList=d:=by simp[S]
  have hsz:(S d).size≤3000:=by rw[A2l];exact hl
  obtain⟨a1,a2⟩:=B4s hne hd
  rw[←HV] at a1 a2
  by_cases h:V < 9223372036854775808
  · have h1:Lib.atoiAll (S d).data.toList = .ok (V:Int):=by rw[hdd];exact a1 h
    refine(Tryz.strconv_Atoi_ok (S d) (by omega) _ h1 w).mono ?_
    rintro e w' ⟨rfl,hw⟩
    refine⟨?_,.inl ⟨h,rfl⟩⟩
    rcases hw with rfl|⟨t,rfl⟩
    · exact Below.refl _ _
    · exact A8l _ _ _
  · obtain⟨⟨tp,p,hv⟩,_⟩:=hg w (Below.refl _ _)
    have h1:Lib.atoiAll (S d).data.toList = .range:=by rw[hdd];exact a2 (by omega)
    have h2:Lib.atoiSat (S d).data.toList=9223372036854775807:=by
      rw[hdd]
      cases d with
      | nil=>exact absurd rfl hne
      | cons c r=>
        have hc:=hd c (by simp)
        have h1:48≤c.toNat∧c.toNat≤57:=by simpa [B1q] using hc
        exact Lib.atoiSat_other c r (by omega)
    refine(Tryz.strconv_Atoi_range_var (S d) (by omega) h1 tp p w hv).mono ?_
    rintro e w' ⟨N,rfl,_,_,hb⟩
    rw[h2]
    exact⟨hb,.inr ⟨by omega,_,_,rfl⟩⟩
theorem A4o {B b:Nat}{txt r:List UInt8}{m e:Value}{w:World}(h:St w b txt r m e) (hg:Gl B w) (hB:B≤b) (most:Nat) (hm:most≤4294967296) :
    Calls Tryz.prog 249 #[.pointer (some ⟨b,0,none⟩),.int .i64 (most:Int)] w (B9z b txt m e w (fun(n:Nat) v _=>v = .int .i64 (n:Int)∧n≤most) (A4g most r)):=by
  go_enter Tryz.func249,Tryz.ntmps249
  go_wp2_with fail
  refine(A7l b txt r m e w h).mono ?_
  rintro en w1 ⟨rfl,hs,hk⟩
  have hg1:Gl B w1:=hg.kp hB h.lt hk
  clear hg
  generalize hq:A1a r=q at hs
  have bl:q.length≤3000:=by have:=hs.1;have:=hs.2.1;omega
  obtain⟨N,HN⟩:∃ N,Hid (N=A3n q):=⟨_,rfl⟩
  have aj:N≤q.length:=by rw[HN.out];exact C0t q
  have bk:=D0s q N aj
  go_wp2_with fail
  refine(A8m q (by omega) _).mono ?_
  rintro en w2 ⟨rfl,rfl⟩
  rw[←HN.out]
  obtain⟨d,Hd⟩:∃ d,Hid (d=q.take N):=⟨_,rfl⟩
  rw[←Hd.out] at bk
  have ak:d.length=N:=by rw[Hd.out];simp[aj]
  have ag:C4r r=d:=by rw[C4r,hq,←HN.out,Hd.out]
  by_cases h0:N=0
  · have HM:Hid (A4g most r = .error (some (2,q))):=by show _=_;simp[A4g,hq,←HN.out,h0]
    have bc:d = []:=List.eq_nil_of_length_eq_zero (by omega)
    clear hq ag ak Hd
    subst bc h0
    have bg:(S []).toList.isEmpty=true:=by rw[A1x];rfl
    go_wp2_with fail
    refine(A0n hs 2).mono ?_
    rintro en w1 ⟨rfl,rfl⟩
    go_wp2
    exact⟨rfl,A0f hk HM.out hs.2.1⟩
  · have hne:d≠[]:=by intro hh;rw[hh] at ak;simp at ak;omega
    have hall:∀ c∈d,B1q c=true:=by
      intro c hc
      rw[Hd.out,HN.out] at hc
      exact B2n B1q q c hc
    have bg:(S d).toList.isEmpty=false:=by rw[A1x];simpa using hne
    have hsz:(S d).size=N:=by rw[A2l,ak]
    obtain⟨V,HV⟩:∃ V,Hid (V=C3m d):=⟨_,rfl⟩
    have ah:=fun(w':World) (hw:Gl B w')=>@C4a B d hne hall (by omega) w' hw V HV.out
    have bh:0 < d.length:=by omega
    obtain⟨X,HX⟩:∃ X:Nat,Hid (X=(d.getD 0 0).toNat):=⟨_,rfl⟩
    have hx:∀ h,((S d)[0]'h).toNat=X:=by intro h;rw[A7r,HX.out]
    have Hh:Hid (q.head?=some 48↔X=48):=by
      show _↔_
      rw[HX.out,Hd.out]
      cases q with
      | nil=>simp at aj;omega
      | cons a t=>
        obtain⟨n,rfl⟩:∃ n,N=n+1:=⟨N - 1,by omega⟩
        simp
        constructor
        · rintro rfl;rfl
        · intro hh;exact UInt8.toNat_inj.1 hh
    have e0:Hid (N≠0):=h0
    by_cases h1:N=1
    · have aw:¬ (1 < (N:Int)):=by omega
      have H1:Hid (N=1):=h1
      clear h1 h0
      go_wp2_with fail
      refine(ah _ hg1).mono ?_
      rintro en w2 ⟨hb,ac⟩
      have hs2:=hs.kept hb
      have hk2:=hk.trans (Kp.of_below hb)
      rcases ac with⟨hV,rfl⟩|⟨hV,tp,p,rfl⟩
      · by_cases hmv:most < V
        · have HM:Hid (A4g most r = .error (some (3,q))):=by show _=_;simp[A4g,hq,←HN.out,e0.out,ag,←HV.out,hmv]
          clear ah Hh hq ag hne hall
          go_wp2_with fail
          refine(A0n hs2 3).mono ?_
          rintro en w1 ⟨rfl,rfl⟩
          go_wp2
          exact⟨rfl,A0f hk2 HM.out hs.2.1⟩
        · have HM:Hid (A4g most r = .ok (V,q.drop N)):=by show _=_;simp[A4g,hq,←HN.out,ag,←HV.out,hmv,H1.out]
          have c1:=hs2.c1
          have f1:=hs2.f1
          have hl:=hs2.1
          obtain⟨K,HK⟩:∃ K:Nat,Hid (K=txt.length - q.length):=⟨_,rfl⟩
          rw[←HK.out] at c1
          have hK:K≤3000:=by have:=HK.out;omega
          have HE:Hid (txt.length - (q.drop N).length=K+N):=by show _=_;have:=HK.out;have:=hs.2.1;simp;omega
          clear ah Hh hq ag hne hall
          go_wp2
          go_ret
          exact A3u (hk2.set _ _) HM.out (hs2.set (r':=q.drop N) (by simp) (A9c aj) (by rw[HE.out];push_cast;rfl)) ⟨rfl,by omega⟩
      · have HM:Hid (A4g most r = .error (some (3,q))):=by show _=_;simp[A4g,hq,←HN.out,e0.out,ag,←HV.out,show most < V by omega]
        clear ah Hh hq ag hne hall
        go_wp2_with fail
        refine(A0n hs2 3).mono ?_
        rintro en w1 ⟨rfl,rfl⟩
        go_wp2
        exact⟨rfl,A0f hk2 HM.out hs.2.1⟩
    · have aw:1 < (N:Int):=by omega
      by_cases h48:X=48
      · have HM:Hid (A4g most r = .error (some (3,q))):=by show _=_;simp[A4g,hq,←HN.out,e0.out,Hh.out,h48,show 1 < N by omega]
        subst h48
        go_wp2_with fail
        refine(ah _ hg1).mono ?_
        rintro en w2 ⟨hb,ac⟩
        have hs2:=hs.kept hb
        have hk2:=hk.trans (Kp.of_below hb)
        rcases ac with⟨hV,rfl⟩|⟨hV,tp,p,rfl⟩
        rotate_right
        rotate_right
        all_goals
          clear ah Hh hq ag hne hall
          go_wp2_with fail
          refine(A0n hs2 3).mono ?_
          rintro en w1 ⟨rfl,rfl⟩
          go_wp2
          exact⟨rfl,A0f hk2 HM.out hs.2.1⟩
      · have ba:((X:Int) == 48)=false:=beq_eq_false_iff_ne.2 (by omega)
        have au:Hid (X≠48):=h48
        clear h48 h1 h0
        go_wp2_with fail
        refine(ah _ hg1).mono ?_
        rintro en w2 ⟨hb,ac⟩
        have hs2:=hs.kept hb
        have hk2:=hk.trans (Kp.of_below hb)
        rcases ac with⟨hV,rfl⟩|⟨hV,tp,p,rfl⟩
        · by_cases hmv:most < V
          · have HM:Hid (A4g most r = .error (some (3,q))):=by show _=_;simp[A4g,hq,←HN.out,e0.out,ag,←HV.out,hmv]
            clear ah Hh hq ag hne hall
            go_wp2_with fail
            refine(A0n hs2 3).mono ?_
            rintro en w1 ⟨rfl,rfl⟩
            go_wp2
            exact⟨rfl,A0f hk2 HM.out hs.2.1⟩
          · have HM:Hid (A4g most r = .ok (V,q.drop N)):=by show _=_;simp[A4g,hq,←HN.out,e0.out,ag,←HV.out,hmv,Hh.out,au.out]
            have c1:=hs2.c1
            have f1:=hs2.f1
            have hl:=hs2.1
            obtain⟨K,HK⟩:∃ K:Nat,Hid (K=txt.length - q.length):=⟨_,rfl⟩
            rw[←HK.out] at c1
            have hK:K≤3000:=by have:=HK.out;omega
            have HE:Hid (txt.length - (q.drop N).length=K+N):=by show _=_;have:=HK.out;have:=hs.2.1;simp;omega
            clear ah Hh hq ag hne hall
            go_wp2
            go_ret
            exact A3u (hk2.set _ _) HM.out (hs2.set (r':=q.drop N) (by simp) (A9c aj) (by rw[HE.out];push_cast;rfl)) ⟨rfl,by omega⟩
        · have HM:Hid (A4g most r = .error (some (3,q))):=by show _=_;simp[A4g,hq,←HN.out,e0.out,ag,←HV.out,show most < V by omega]
          clear ah Hh hq ag hne hall
          go_wp2_with fail
          refine(A0n hs2 3).mono ?_
          rintro en w1 ⟨rfl,rfl⟩
          go_wp2
          exact⟨rfl,A0f hk2 HM.out hs.2.1⟩
end Go.Proofs.YtgaoojpakjjdnaaGreatDoor
namespace Go.Proofs.YtgaoojpakjjdnaaGreatDoor
open Go.RowKit
structure EK (α:Type) where
 elem:TypeId
 slice:TypeId
 size:Nat
 bytes:Nat
 zero:Value
 enc : α→List Value
 under:Tryz.prog.underlying slice=some (.slice elem)
 info:(Tryz.prog.info? elem).map (fun i=>(i.zero,i.size,i.bytes))=some (some zero,size,bytes)
 zs:zero.cells.size=size
 pos:0 < size
 small:bytes≤1000
 len:∀ a,(enc a).length=size
 one:∀ a,∀ u∈enc a,u.oneCell'=true
def EK.flat {α:Type}(E:EK α) (l:List α):List Value:=l.flatMap E.enc
theorem EK.flat_len {α:Type}(E:EK α) (l:List α):(E.flat l).length=l.length*E.size:=by
 unfold EK.flat
 induction l with
 | nil=>simp
 | cons a r ih=>rw[List.flatMap_cons,List.length_append,ih,E.len,List.length_cons,Nat.succ_mul,Nat.add_comm]
theorem EK.flat_append {α:Type}(E:EK α) (l m:List α):E.flat (l++m)=E.flat l++E.flat m:=by simp[EK.flat]
theorem EK.flat_at {α:Type}(E:EK α) (l:List α) (i j:Nat) (a : α) (h:l[i]?=some a) (hj:j < E.size):(E.flat l)[i*E.size+j]?=(E.enc a)[j]?:=by
 unfold EK.flat
 induction l generalizing i with
 | nil=>simp at h
 | cons q r ih=>
  rw[List.flatMap_cons]
  cases i with
  | zero=>
   simp at h
   subst h
   rw[Nat.zero_mul,Nat.zero_add,List.getElem?_append_left (by rw[E.len];exact hj)]
  | succ i=>
   have h':r[i]?=some a:=by simpa using h
   rw[←ih i h',show(i+1)*E.size+j=(E.enc q).length+(i*E.size+j) by rw[E.len,Nat.succ_mul];omega,
    List.getElem?_append_right (Nat.le_add_right _ _),Nat.add_sub_cancel_left]
def Row {α:Type}(E:EK α) (w:World) (base:Nat) (v:Value) (l:List α):Prop:=w.ownsRow base E.elem E.size v l.length (E.flat l)
section
variable {α:Type}{E:EK α}{w w':World}{base b:Nat}{v:Value}{l:List α}
theorem Row.nil (E:EK α) (w:World) (base:Nat):Row E w base (.slice none 0 0) []:=World.ownsRow_nil _ _ _ _
theorem Row.keep (h:Row E w base v l) (hb:∀ k,base≤k→k < w.heap.size→w'.heap[k]?=w.heap[k]?):Row E w' base v l:=by
 refine⟨h.1,?_⟩
 rcases h.2 with hn|⟨g,cap,cur,hv,hbg,hg,r⟩
 ·exact .inl hn
 ·exact .inr ⟨g,cap,cur,hv,hbg,by rw[hb g hbg (Array.getElem?_eq_some_iff.1 hg).1];exact hg,r⟩
theorem Row.kp (h:Row E w base v l) (hk:Kp b w w') (hb:b < base):Row E w' base v l:=h.keep fun k h1 h2=>hk.block k h2 (by omega)
theorem Row.below (h:Row E w base v l) (hk:Below w.heap.size w w'):Row E w' base v l:=h.keep fun k _ h2=>hk.block k h2
theorem Row.mono {base':Nat}(h:Row E w base v l) (hb:base'≤base):Row E w base' v l:=by
 refine⟨h.1,?_⟩
 rcases h.2 with hn|⟨g,cap,cur,hv,hbg,r⟩
 ·exact .inl hn
 ·exact .inr ⟨g,cap,cur,hv,Nat.le_trans hb hbg,r⟩
theorem Row.own (h:Row E w base v l):∀ k,v.ownBlock=some k→base≤k∧k < w.heap.size:=World.ownsRow.lt h
theorem Row.ne {β:Type}{F:EK β}{base':Nat}{v':Value}{l':List β}(h:Row E w base v l) (h':Row F w base' v' l') (hne:E.elem≠F.elem):v.ownBlock=none∨v.ownBlock≠v'.ownBlock:=by
 rcases h.2 with⟨hv,_⟩|⟨g,cap,cur,hv,_,hg,_⟩
 ·left;rw[hv];rfl
 ·rcases h'.2 with⟨hv',_⟩|⟨g',cap',cur',hv',_,hg',_⟩
  ·right;rw[hv,hv'];simp[Value.ownBlock]
  ·right
   rw[hv,hv']
   simp only[Value.ownBlock,ne_eq,Option.some.injEq]
   intro e
   rw[e,hg'] at hg
   simp at hg
   exact hne hg.2.symm
theorem Row.grown {row:Option Nat}(h:Row E w base v l) (hg:w.grownBy w' row) (hne:v.ownBlock=none∨v.ownBlock≠row):Row E w' base v l:=World.ownsRow.kept h hg hne
theorem Row.shape (h:Row E w base v l):∃ ao cap,v = .slice ao l.length cap:=by
 rcases h.2 with⟨hv,hn⟩|⟨g,cap,cur,hv,_⟩
 ·exact⟨none,0,by rw[hv,hn]⟩
 ·exact⟨_,cap,hv⟩
theorem Row.one (E:EK α) (w:World) (a : α) (hb:base≤w.heap.size):Row E (w.alloc (.cells (E.enc a).toArray E.elem)) base (.slice (some ⟨w.heap.size,0,none⟩) 1 1) [a]:=by
 refine⟨E.flat_len [a],.inr ⟨w.heap.size,1,_,rfl,hb,heap_alloc_new w _,Nat.le_refl _,by unfold maxLen;omega,by simp[E.len],?_⟩⟩
 have:(E.enc a).length=([a]:List α).length*E.size:=by rw[E.len];simp
 simp only[EK.flat,List.flatMap_cons,List.flatMap_nil,List.append_nil]
 rw[←this]
 simp
theorem Kp.grown {x:World}{row:Option Nat}(h:Kp b x w) (hg:w.grownBy w' row) (hr:∀ k,row=some k→x.heap.size≤k):Kp b x w':=
 ⟨hg.os.trans h.os,hg.tape.trans h.tape,hg.output.trans h.output,Nat.le_trans h.size hg.size,fun k hk hb=>
  (hg.block k (Nat.lt_of_lt_of_le hk h.size) (fun e=>by have:=hr k e.symm;omega)).trans (h.block k hk hb)⟩
theorem St.grown {txt r:List UInt8}{m e:Value}{row:Option Nat}(h:St w b txt r m e) (hg:w.grownBy w' row) (hr:∀ k,row=some k→k≠b):St w' b txt r m e:=
 ⟨h.1,h.2.1,h.2.2.1,by rw[hg.block b h.lt (fun e=>hr b e.symm rfl)];exact h.2.2.2⟩
theorem A2t {o:Oper}{a:Act}{K:Act→World→Prop}{Q:Exit→Act→World→Prop}(E:EK α) (s x:Operand)
  (ho:o.op = .call { callee:=.builtin .append,args:=#[s,x],argTypes:=#[E.slice,E.slice] })
  (base:Nat) (v:Value) (l m:List α) (hs:a.eval s=v) (hown:Row E w base v l) (base':Nat) (u:Value) (hx:a.eval x=u) (ac:Row E w base' u m)
  (hlen:l.length+m.length≤1000000) (hb:base≤w.heap.size)
  (h:∀ v' w',Row E w' base v' (l++m)→w.grownBy w' v.ownBlock→K (a.put o.dst v') w'):o.wp Tryz.prog a w K Q:=by
 obtain⟨i0,hi,hz0,hz1,hz2⟩:=info_parts E.info
 rcases ac.2 with⟨hu,hn⟩|⟨g,cap,cur,hu,hbg,hg,hn,hm,hsz,ht⟩
 ·have ag:m = []:=List.eq_nil_of_length_eq_zero hn
  subst ag
  have hrun:=run_append_owned_none (P:=Tryz.prog) (w:=w) base E.slice o.type E.elem i0 E.size E.under hi v l.length (E.flat l) hown
  rw[hu] at hx
  unfold Oper.wp
  simp[execOp,ho,resolve,invoke,builtin,hs,hx,hrun,Result.andThen]
  exact h v w (by rw[List.append_nil];exact hown) ⟨rfl,rfl,rfl,Nat.le_refl _,fun _ _ _=>rfl⟩
 ·rw[hu] at hx
  refine wp_append_own w s x E.slice ho base E.elem i0 _ E.size E.bytes E.under hi hz0 hz1 hz2 E.zs E.pos v l.length _ hs hown ⟨g,0,none⟩ m.length cap
   (E.flat m) hx (E.flat_len m) (World.ownsRow.cells ac (g:=g) (by rw[hu];rfl)) ?_ (by unfold maxLen;omega) ?_ hb ?_
  ·intro y hy
   simp only[EK.flat,List.mem_flatMap] at hy
   obtain⟨p,hp,hy⟩:=hy
   exact E.one p y hy
  ·exact Nat.le_trans (Nat.mul_le_mul hlen E.small) (by decide)
  ·intro v' w' h1 h2 _
   refine h v' w' ?_ h2
   show w'.ownsRow base E.elem E.size v' (l++m).length (E.flat (l++m))
   rw[List.length_append,E.flat_append]
   exact h1
theorem A2q {ops:Array Oper}{rest:List Oper}{o:Oper}{a:Act}{Q:Exit→Act→World→Prop}(hgd:o.guard=none) (E:EK α) (s x:Operand)
  (ho:o.op = .call { callee:=.builtin .append,args:=#[s,x],argTypes:=#[E.slice,E.slice] })
  (base:Nat) (v:Value) (l m:List α) (hs:a.eval s=v) (hown:Row E w base v l) (base':Nat) (u:Value) (hx:a.eval x=u) (ac:Row E w base' u m)
  (hlen:l.length+m.length≤1000000) (hb:base≤w.heap.size)
  (h:∀ v' w',Row E w' base v' (l++m)→w.grownBy w' v.ownBlock→wpList Tryz.prog ops Q rest (a.put o.dst v') w'):wpList Tryz.prog ops Q (o::rest) a w:=
 wpList_plain hgd fun _ hK=>A2t E s x ho base v l m hs hown base' u hx ac hlen hb fun v' w' h2 h3=>hK _ _ (h v' w' h2 h3)
end
def C7c (n:Nat):List Value:=[.int .i64 (n:Int)]
def A5c:EK Nat where
 elem:=3
 slice:=30
 size:=1
 bytes:=8
 zero:=.int .i64 0
 enc:=C7c
 under:=Tryz.underlying30
 info:=by kernel_rfl
 zs:=rfl
 pos:=by decide
 small:=by decide
 len:=fun _=>rfl
 one:=by intro a u hu;simp only[C7c,List.mem_singleton] at hu;subst hu;rfl
def A1g (f:Fld):List Value:=[.string (S f.name),.int .i64 (f.number:Int),.int .i64 (f.kind:Int),.string (S f.type),.bool f.many,.int .i64 (f.choice:Int)]
def A3h:EK Fld where
 elem:=40
 slice:=36
 size:=6
 bytes:=64
 zero:=.agg #[.string ⟨#[]⟩,.int .i64 0,.int .i64 0,.string ⟨#[]⟩,.bool false,.int .i64 0]
 enc:=A1g
 under:=Tryz.underlying36
 info:=by kernel_rfl
 zs:=rfl
 pos:=by decide
 small:=by decide
 len:=fun _=>rfl
 one:=by intro a u hu;simp only[A1g,List.mem_cons,List.mem_nil_iff,or_false] at hu;rcases hu with rfl|rfl|rfl|rfl|rfl|rfl <;> rfl
def A1p (f:Itm):List Value:=[.string (S f.name),.int .i64 f.value]
def A5d:EK Itm where
 elem:=162
 slice:=98
 size:=2
 bytes:=24
 zero:=.agg #[.string ⟨#[]⟩,.int .i64 0]
 enc:=A1p
 under:=Tryz.underlying98
 info:=by kernel_rfl
 zs:=rfl
 pos:=by decide
 small:=by decide
 len:=fun _=>rfl
 one:=by intro a u hu;simp only[A1p,List.mem_cons,List.mem_nil_iff,or_false] at hu;rcases hu with rfl|rfl <;> rfl
end Go.Proofs.YtgaoojpakjjdnaaGreatDoor
