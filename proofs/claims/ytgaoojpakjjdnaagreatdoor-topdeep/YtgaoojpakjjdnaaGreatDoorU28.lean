import Derived.Test.YtgaoojpakjjdnaaGreatDoorU27
import Derived.Laws.AppendOwnNone
set_option maxHeartbeats 32000000
set_option maxRecDepth 100000
namespace Go.Proofs.YtgaoojpakjjdnaaGreatDoor
open Go.RowKit
def RdA (w:World) (ao:Option Addr) (len cap:Nat) (l:List UInt8):Prop:=
 l.length=len∧len≤cap∧cap≤maxLen∧(ao=none→cap=0)∧
  ∀ x,ao=some x→∀ i,i < len→w.cell? (x.add i)=some (.int .u8 ((l.getD i 0).toNat:Int))
theorem RdA.at {w:World}{ao:Option Addr}{len cap:Nat}{l:List UInt8}(h:RdA w ao len cap l) (hp:0 < len) :
  ∃ b off,ao=some ⟨b,off,none⟩∧b < w.heap.size∧∀ i,i < len→w.cell? ⟨b,off+i,none⟩=some (.int .u8 ((l.getD i 0).toNat:Int)):=by
 obtain⟨h1,h2,h3,h4,h5⟩:=h
 cases ao with
 | none=>have:=h4 rfl;omega
 | some x=>
  obtain⟨b,off,spot⟩:=x
  have hc:=h5 _ rfl 0 hp
  have hspot:spot=none:=by simpa [Addr.add] using World.cell?_spot hc
  subst hspot
  refine⟨b,off,rfl,?_,?_⟩
  ·have:=World.block_lt_of_cell? w _ hc
   simpa [Addr.add] using this
  ·intro i hi
   have:=h5 _ rfl i hi
   have e:(⟨b,off,none⟩:Addr).add i=⟨b,off+i,none⟩:=by unfold Addr.add;split <;> simp_all
   rw[e] at this
   exact this
theorem RdA.later {w w':World}{ao:Option Addr}{len cap:Nat}{l:List UInt8}(h:RdA w ao len cap l) (hb:Below w.heap.size w w'):RdA w' ao len cap l:=by
 obtain⟨h1,h2,h3,h4,h5⟩:=h
 refine⟨h1,h2,h3,h4,fun x hx i hi=>?_⟩
 have hc:=h5 x hx i hi
 rw[hb.cell (World.block_lt_of_cell? w _ hc)]
 exact hc
theorem RdA.nil (w:World):RdA w none 0 0 []:=⟨rfl,Nat.le_refl _,by unfold maxLen;omega,fun _=>rfl,fun _ _ i hi=>absurd hi (by omega)⟩
def OwnB (w:World) (base:Nat) (v:Value) (l:List UInt8):Prop:=
 w.ownsRow base 5 1 v l.length (l.map fun c=>Value.int .u8 (c.toNat:Int))
theorem OwnB.nil (w:World) (base:Nat):OwnB w base (.slice none 0 0) []:=World.ownsRow_nil _ _ _ _
theorem OwnB.rd {w:World}{base:Nat}{v:Value}{l:List UInt8}(h:OwnB w base v l):∃ ao len cap,v = .slice ao len cap∧RdA w ao len cap l:=by
 have hl:=h.1
 rcases h.2 with⟨hv,hn⟩|⟨g,cap,cur,hv,hb,hg,hn,hm,hs,ht⟩
 ·have:l = []:=List.eq_nil_of_length_eq_zero hn
  subst this
  exact⟨none,0,0,hv,RdA.nil w⟩
 ·refine⟨some ⟨g,0,none⟩,l.length,cap,hv,rfl,hn,hm,by simp,?_⟩
  intro x hx i hi
  cases hx
  have:=World.ownsRow.cells h (g:=g) (by rw[hv];rfl) i (.int .u8 ((l.getD i 0).toNat:Int)) (by
   rw[List.getElem?_map,List.getElem?_eq_getElem hi]
   simp[List.getD_eq_getElem?_getD,List.getElem?_eq_getElem hi])
  exact this
theorem OwnB.keptB {w w':World}{base:Nat}{v:Value}{l:List UInt8}(h:OwnB w base v l) (hb:Below w.heap.size w w'):OwnB w' base v l:=by
 refine⟨h.1,?_⟩
 rcases h.2 with hn|⟨g,cap,cur,hv,hbg,hg,r⟩
 ·exact .inl hn
 ·exact .inr ⟨g,cap,cur,hv,hbg,by rw[hb.block g (Array.getElem?_eq_some_iff.1 hg).1];exact hg,r⟩
theorem D1c {k1 k2 k3:IntKind}{a b c a' b' c':Int}(h1:a=a') (h2:b=b') (h3:c=c') :
  Ending.returned (.tuple #[.int k1 a,.int k2 b,.int k3 c]) = .returned (.tuple #[.int k1 a',.int k2 b',.int k3 c']):=by rw[h1,h2,h3]
theorem B1w (ao:Option Addr) (len cap:Nat) (l:List UInt8) (w:World) (hr:RdA w ao len cap l) :
  Calls Tryz.prog 217 #[.slice ao len cap] w fun e w'=>e = .returned (.tuple #[.int .u64 (A4f 0 0 l).1,.int .i64 (A4f 0 0 l).2.1,.int .i64 (A4f 0 0 l).2.2])∧w=w':=by
 have au:len≤9223372036854775807:=by have:=hr.2.1;have:=hr.2.2.1;unfold maxLen at this;omega
 have H0:Hid (A4f 0 0 l=A4f 0 0 (l.drop 0)):=by show _=_;rw[List.drop_zero]
 have Hl:Hid (l.length=len):=hr.1
 by_cases hp:0 < len
 ·obtain⟨b,off,rfl,ak,hcell⟩:=hr.at hp
  clear hr
  go_enter Tryz.func217,Tryz.ntmps217
  go_wp2
  go_loop [5,10] (fun a i=>∃ k acc:Nat,k≤len∧k≤9∧Hid (acc < 2 ^ (7*k))∧i = .int .i64 k∧a = .int .u64 acc∧Hid (A4f 0 0 l=A4f k acc (l.drop k))) (fun _ i=>len - (intOf i).toNat)
  case atStart=>exact⟨0,0,Nat.zero_le _,Nat.zero_le _,by show(0:Nat) < 1;decide,rfl,rfl,H0⟩
  case round=>
   obtain⟨k,acc,hk,ag,ac,rfl,rfl,HR⟩:=hrel
   by_cases hlt:k < len
   ·obtain⟨X,HX⟩:∃ X:Nat,Hid (X=(l.getD k 0).toNat):=⟨_,rfl⟩
    have hc:w.cell? ⟨b,off+k,none⟩=some (.int .u8 (X:Int)):=by rw[HX.out];exact hcell k hlt
    have hX:X < 256:=by rw[HX.out];exact UInt8.toNat_lt _
    clear hcell
    by_cases h9:k=9
    ·have ah:((k:Int) == 9)=true:=beq_iff_eq.2 (by omega)
     have aj:9≤k:=by omega
     clear h9
     by_cases h1:1 < X
     ·go_wp2
      go_ret3
      have e:=C5a (acc:=acc) (by rw[Hl.out];exact hlt) HX.out (by omega) h1
      rw[HR.out,e]
      exact⟨rfl,rfl⟩
     ·have hs:X < 128:=by omega
      go_wp2
      go_ret3
      have e:=B6g (acc:=acc) (by rw[Hl.out];exact hlt) HX.out (by omega) hs
      rw[HR.out,e]
      exact⟨D1c (B5t ag ac.out hX (by omega)) (by show(k:Int)+1=((k+1:Nat):Int);omega) rfl,rfl⟩
    ·have ah:((k:Int) == 9)=false:=beq_eq_false_iff_ne.2 (by omega)
     by_cases hs:X < 128
     ·go_wp2
      go_ret3
      have e:=B6g (acc:=acc) (by rw[Hl.out];exact hlt) HX.out (by omega) hs
      rw[HR.out,e]
      exact⟨D1c (B5t ag ac.out hX (by omega)) (by show(k:Int)+1=((k+1:Nat):Int);omega) rfl,rfl⟩
     ·go_wp2
      go_round
      case rel=>exact⟨k+1,_,by omega,by omega,C2v ac.out,by go_num,congrArg (Value.int .u64) (B5t ag ac.out hX (by omega)),HR.out.trans (C8d (by rw[Hl.out];exact hlt) HX.out h9 hs)⟩
      case measure=>simp[intOf];omega
   ·go_wp2
    go_ret3
    have e:=C5b (l:=l) (k:=k) (acc:=acc) (by rw[Hl.out];omega)
    rw[HR.out,e]
    exact⟨rfl,rfl⟩
 ·go_enter Tryz.func217,Tryz.ntmps217
  have h0:len=0:=by omega
  subst h0
  have hn:l = []:=List.eq_nil_of_length_eq_zero Hl.out
  clear hr H0 Hl
  subst hn
  go_wp2
  refine wp_loop_rounds 1 ?_
  rw[rounds_succ]
  go_wp2
  go_ret3
  exact⟨rfl,rfl⟩
end Go.Proofs.YtgaoojpakjjdnaaGreatDoor
namespace Go.Proofs.YtgaoojpakjjdnaaGreatDoor
open Go.RowKit
theorem C8g:(Tryz.prog.info? 5).map (fun i=>(i.zero,i.size,i.bytes))=some (some (.int .u8 0),1,1):=by kernel_rfl
theorem OwnB.base {w:World}{base:Nat}{v:Value}{l:List UInt8}(h:OwnB w base v l):∀ k,v.ownBlock=some k→base≤k:=fun k hk=>(World.ownsRow.lt h k hk).1
theorem A1f {w:World}{ops:Array Oper}{rest:List Oper}{o:Oper}{a:Act}{Q:Exit→Act→World→Prop}(hgd:o.guard=none) (s x:Operand)
  (ho:o.op = .call { callee:=.builtin .append,args:=#[s,x],argTypes:=#[32,32] })
  (base:Nat) (v:Value) (l m:List UInt8) (hs:a.eval s=v) (hown:OwnB w base v l) (ao:Option Addr) (len cap:Nat) (hx:a.eval x = .slice ao len cap) (hr:RdA w ao len cap m)
  (hlen:l.length+m.length≤140737488355328) (hb:base≤w.heap.size)
  (h:∀ v' w',OwnB w' base v' (l++m)→Below base w w'→wpList Tryz.prog ops Q rest (a.put o.dst v') w'):wpList Tryz.prog ops Q (o::rest) a w:=by
 obtain⟨i0,hi,hz0,hz1,hz2⟩:=info_parts C8g
 obtain⟨r1,r2,r3,r4,r5⟩:=hr
 cases ao with
 | none=>
  have hc0:=r4 rfl
  have hl0:len=0:=by omega
  subst hc0 hl0
  have hm:m = []:=List.eq_nil_of_length_eq_zero r1
  subst hm
  refine wpList_append_own_none hgd s x 32 ho base 5 i0 1 Tryz.underlying32 hi v l.length _ hs hown hx ?_
  exact h v w (by rw[List.append_nil];exact hown) (Below.refl _ _)
 | some ad=>
  refine wpList_append_own w hgd s x 32 ho base 5 i0 (.int .u8 0) 1 1 Tryz.underlying32 hi hz0 hz1 hz2 rfl (by decide) v l.length _ hs hown ad len cap
   (m.map fun c=>Value.int .u8 (c.toNat:Int)) hx (by simp[r1]) ?_ ?_ (by unfold maxLen;omega) (by omega) hb ?_
  ·intro j u hj
   rw[List.getElem?_map] at hj
   cases hmj:m[j]? with
   | none=>rw[hmj] at hj;cases hj
   | some c=>
    rw[hmj] at hj
    have ac:j < m.length:=by
     rcases Nat.lt_or_ge j m.length with h1|h1
     ·exact h1
     ·rw[List.getElem?_eq_none h1] at hmj;cases hmj
    have:=r5 ad rfl j (by omega)
    rw[this,List.getD_eq_getElem?_getD,hmj]
    exact hj
  ·intro u hu
   rw[List.mem_map] at hu
   obtain⟨c,_,rfl⟩:=hu
   rfl
  ·intro v' w' h1 h2 _
   refine h v' w' ?_ ((Below.refl base w).grown h2 hb hown.base)
   show w'.ownsRow base _ 1 v' _ _
   rw[List.length_append,List.map_append,r1]
   exact h1
theorem A6o {w:World}{ops:Array Oper}{rest:List Oper}{o:Oper}{a:Act}{Q:Exit→Act→World→Prop}(hgd:o.guard=none) (s x:Operand)
  (ho:o.op = .call { callee:=.builtin .append,args:=#[s,x],argTypes:=#[32,32] })
  (base:Nat) (v:Value) (l:List UInt8) (c:UInt8) (hs:a.eval s=v) (hown:OwnB w base v l) (ad:Addr) (hx:a.eval x = .slice (some ad) 1 1) (hc:w.cell? ad=some (.int .u8 (c.toNat:Int)))
  (hlen:l.length+1≤140737488355328) (hb:base≤w.heap.size)
  (h:∀ v' w',OwnB w' base v' (l++[c])→Below base w w'→wpList Tryz.prog ops Q rest (a.put o.dst v') w'):wpList Tryz.prog ops Q (o::rest) a w:=by
 refine A1f hgd s x ho base v l [c] hs hown (some ad) 1 1 hx ⟨rfl,Nat.le_refl _,by unfold maxLen;omega,by simp,?_⟩ (by simpa using hlen) hb h
 intro y hy i hi
 cases hy
 have:i=0:=by omega
 subst this
 simpa [Addr.add] using hc
theorem OwnB.alloc {w:World}{base:Nat}{v:Value}{l:List UInt8}(h:OwnB w base v l) (o:Obj):OwnB (w.alloc o) base v l:=World.ownsRow.alloc h o
theorem D0d {f m:Nat}(hf:m < 2 ^ (7*f)) (hs:¬ m < 128):2≤f:=by
 rcases Nat.lt_or_ge f 2 with h|h
 ·have h1:2 ^ (7*f)≤2 ^ 7:=Nat.pow_le_pow_right (by decide) (by omega)
  have h2:(2:Nat) ^ 7=128:=rfl
  omega
 ·exact h
theorem C6d {f m:Nat}(hf:m < 2 ^ (7*(f+1))):m / 128 < 2 ^ (7*f):=by
 rw[show 7*(f+1)=7*f+7 by omega,Nat.pow_add] at hf
 have h2:(2:Nat) ^ 7=128:=rfl
 rw[h2] at hf
 omega
theorem B5p (base:Nat) (v:Value) (l:List UInt8) (n:Nat) (w:World) (hv:OwnB w base v l) (hb:base≤w.heap.size) (hn:n≤18446744073709551615) (hl:l.length≤1000000) :
  Calls Tryz.prog 208 #[v,.int .u64 (n:Int)] w fun e w'=>∃ v',e = .returned v'∧OwnB w' base v' (l++A9v n)∧Below base w w':=by
 have H0:Hid (l++B6t 10 n=l++A9v n):=rfl
 go_enter Tryz.func208,Tryz.ntmps208
 go_wp2
 go_loopw [0,1] (fun u i wr=>∃ (f m:Nat) (l':List UInt8),i = .int .u64 (m:Int)∧m≤18446744073709551615∧Hid (m < 2 ^ (7*(f+1)))∧f≤9∧l'.length+f≤l.length+10∧OwnB wr base u l'∧Below base w wr∧base≤wr.heap.size∧Hid (l'++B6t (f+1) m=l++A9v n))
  (fun _ i _=>(intOf i).toNat)
 case atStart=>exact⟨9,n,l,rfl,hn,by show n < 2 ^ (7*10);omega,Nat.le_refl _,by omega,hv,Below.refl _ _,hb,H0⟩
 case round=>
  obtain⟨f,m,l',rfl,hm,hf,ah,hlen,hown,ag,ac,HR⟩:=hrel
  by_cases hs:m < 128
  ·go_wp2_with (at_builtin;refine A6o rfl _ _ rfl base _ l' (UInt8.ofNat m) rfl (hown.alloc _) ⟨wr.heap.size,0,none⟩ rfl ?c1 ?c2 ?c3 ?_)
   case c1=>
    simp
    omega
   case c2=>omega
   case c3=>simp;omega
   intro v' w1 h1 h2
   go_wp2
   go_ret
   refine⟨v',rfl,?_,(ag.alloc ac _).trans h2⟩
   rw[←HR.out,B6u hs]
   exact h1
  ·obtain⟨c,Hc⟩:∃ c,Hid (c=UInt8.ofNat (m%128+128)):=⟨_,rfl⟩
   go_wp2_with (at_builtin;refine A6o rfl _ _ rfl base _ l' c rfl (hown.alloc _) ⟨wr.heap.size,0,none⟩ rfl ?d1 ?d2 ?d3 ?_)
   case d1=>
    rw[Hc.out,←B6w,IntKind.wrap_u8]
    simp
   case d2=>omega
   case d3=>simp;omega
   intro v' w1 h1 h2
   go_wp2
   go_roundw
   case rel=>
    have hf2:=D0d hf.out hs
    obtain⟨g,rfl⟩:∃ g,f=g+1:=⟨f - 1,by omega⟩
    refine⟨g,m / 128,l'++[c],by go_num,by omega,C6d hf.out,by omega,by simp;omega,h1,(ag.alloc ac _).trans h2,by have:=h2.size;simp at this;omega,?_⟩
    show _=_
    rw[←HR.out,C2g hs,List.append_assoc,Hc.out]
    rfl
   case measure=>simp[intOf];omega
end Go.Proofs.YtgaoojpakjjdnaaGreatDoor
namespace Go.Proofs.YtgaoojpakjjdnaaGreatDoor
open Go.RowKit
structure Rcd where
 num:Int
 how:Int
 bits:Nat
 bytes:List UInt8
def C1s:Nat→Nat→List UInt8
 | 0,_=>[]
 | k+1,n=>UInt8.ofNat n::C1s k (n / 256)
theorem C5n (k n:Nat):(C1s k n).length=k:=by
 induction k generalizing n with
 | zero=>rfl
 | succ k ih=>rw[C1s,List.length_cons,ih]
theorem C9a (base:Nat) (v:Value) (l:List UInt8) (num how:Int) (w:World) (hv:OwnB w base v l) (hb:base≤w.heap.size) (h1:0≤num) (h2:num≤536870912) (h3:0≤how) (h4:how≤7) (hl:l.length≤1000000) :
  Calls Tryz.prog 210 #[v,.int .i64 num,.int .i64 how] w fun e w'=>∃ v',e = .returned v'∧OwnB w' base v' (l++A9v (num.toNat*8+how.toNat))∧Below base w w':=by
 go_enter Tryz.func210,Tryz.ntmps210
 go_wp2_with fail
 rw[show num*8+how=((num.toNat*8+how.toNat:Nat):Int) by omega]
 refine(B5p base v l _ _ hv hb (by omega) hl).mono ?_
 rintro e w1 ⟨v1,rfl,ho,hbl⟩
 go_wp2
 go_ret
 exact⟨v1,rfl,ho,hbl⟩
theorem B5o (base:Nat) (v:Value) (l:List UInt8) (how:Int) (n:Nat) (w:World) (hv:OwnB w base v l) (hb:base≤w.heap.size) (hn:n≤18446744073709551615) (hl:l.length≤900000) :
  Calls Tryz.prog 151 #[v,.int .i64 how,.int .u64 (n:Int)] w fun e w'=>∃ v',e = .returned v'∧OwnB w' base v' (l++(if how=0 then A9v n else C1s (A2p how) n))∧Below base w w':=by
 by_cases h0:how=0
 ·rw[if_pos h0]
  subst h0
  go_enter Tryz.func151,Tryz.ntmps151
  go_wp2_with (go_at_call 208;refine(B5p base v l n _ hv hb hn (by omega)).mono ?_;rintro e w1 ⟨v1,rfl,ho,hbl⟩)
  go_ret
  exact⟨v1,rfl,ho,hbl⟩
 ·rw[if_neg h0]
  have b0:(how == 0)=false:=beq_eq_false_iff_ne.2 h0
  obtain⟨W,HW⟩:∃ W,Hid (W=A2p how):=⟨_,rfl⟩
  have ah:W≤8:=by rw[HW.out];unfold A2p;split <;> (try split) <;> omega
  clear h0
  rw[←HW.out]
  go_enter Tryz.func151,Tryz.ntmps151
  go_wp2_with (go_at_call 209;refine(A7p how _).mono ?_;rintro e w1 ⟨rfl,rfl⟩;rw[←HW.out])
  go_loopw [0,2,14] (fun u n' i wr=>∃ (k m:Nat) (l':List UInt8),i = .int .i64 (k:Int)∧k≤W∧n' = .int .u64 (m:Int)∧m≤18446744073709551615∧l'.length=l.length+k∧OwnB wr base u l'∧Below base w wr∧base≤wr.heap.size∧Hid (l'++C1s (W - k) m=l++C1s W n))
   (fun _ _ i _=>W - (intOf i).toNat)
  case atStart=>exact⟨0,n,l,rfl,by omega,rfl,hn,rfl,hv,Below.refl _ _,hb,rfl⟩
  case round=>
   obtain⟨k,m,l',rfl,hk,rfl,hm,hlen,hown,ac,ag,HR⟩:=hrel
   by_cases hlt:k < W
   ·obtain⟨c,Hc⟩:∃ c,Hid (c=UInt8.ofNat m):=⟨_,rfl⟩
    go_wp2_with (at_builtin;refine A6o rfl _ _ rfl base _ l' c rfl (hown.alloc _) ⟨wr.heap.size,0,none⟩ rfl ?d1 ?d2 ?d3 ?_)
    case d1=>
     rw[Hc.out,UInt8.toNat_ofNat']
     simp
    case d2=>omega
    case d3=>simp;omega
    intro v' w2 h1 h2
    go_wp2
    go_roundw
    case rel=>
     refine⟨k+1,m / 256,l'++[c],by go_num,by omega,by go_num,by omega,by simp;omega,h1,(ac.alloc ag _).trans h2,by have:=h2.size;simp at this;omega,?_⟩
     show _=_
     rw[←HR.out,show W - k=W - (k+1)+1 by omega,C1s,List.append_assoc,Hc.out]
     rfl
    case measure=>simp[intOf];omega
   ·go_wp2
    go_ret
    refine⟨_,rfl,?_,ac⟩
    rw[←HR.out,show W - k=0 by omega,C1s,List.append_nil]
    exact hown
end Go.Proofs.YtgaoojpakjjdnaaGreatDoor
namespace Go.Proofs.YtgaoojpakjjdnaaGreatDoor
open Go.RowKit
def A1i (num how:Int) (bits len:Nat):Int:=
 if A1q how=false then 1
 else if how=2∧4000 < len then 4
 else if num < 1∨536870912≤num then 3
 else if how=5∧bits / 4294967296≠0 then 3
 else if how=2∧bits≠0 then 8
 else if how≠2∧0 < len then 8
 else 0
theorem A8f {num how:Int}{bits len:Nat}(h:A1q how=false):A1i num how bits len=1:=by
 unfold A1i;rw[if_pos h]
theorem C3v (num how:Int) (bits:Nat) (ao:Option Addr) (len cap:Nat) (w:World) (ag:len≤9223372036854775807) :
  Calls Tryz.prog 90 #[.agg #[.int .i64 num,.int .i64 how,.int .u64 (bits:Int),.slice ao len cap]] w fun e w'=>e = .returned (.int .i64 (A1i num how bits len))∧Below w.heap.size w w':=by
 have fin:∀ (o:Obj),Below w.heap.size w (w.alloc o):=fun o=>(Below.refl _ _).alloc (Nat.le_refl _) o
 by_cases hk:A1q how=false
 ·rw[A8f hk]
  go_enter Tryz.func90,Tryz.ntmps90
  go_wp2_with (go_at_call 152;refine(A0h how _).mono ?_;rintro e w1 ⟨rfl,rfl⟩)
  go_ret
  exact⟨rfl,fin _⟩
 ·obtain⟨E,HE⟩:∃ E,Hid (E=A1i num how bits len):=⟨_,rfl⟩
  rw[←HE.out]
  have hh:how=0∨how=1∨how=2∨how=5:=by
   rcases Decidable.em (how=0∨how=1∨how=2∨how=5) with h|h
   ·exact h
   ·exact absurd (A4k h).symm hk
  have ac:Hid (E=(if how=2∧4000 < len then 4
   else if num < 1∨536870912≤num then 3
   else if how=5∧bits / 4294967296≠0 then 3
   else if how=2∧bits≠0 then 8
   else if how≠2∧0 < len then 8
   else 0)):=by
   show _=_
   rw[HE.out,A1i,if_neg hk]
  clear HE hk
  rcases hh with rfl|rfl|rfl|rfl
  ·by_cases h3:num < 1
   ·have HF:Hid (E=3):=by show _=_;rw[ac.out,if_neg (by omega),if_pos (by omega)]
    clear ac
    go_enter Tryz.func90,Tryz.ntmps90
    go_wp2_with (go_at_call 152;refine(A0h _ _).mono ?_;rintro e w1 ⟨rfl,rfl⟩;rw[←A0e (by omega)])
    go_ret
    exact⟨A1h HF.out.symm,fin _⟩
   ·by_cases h2:536870912≤num
    ·have HF:Hid (E=3):=by show _=_;rw[ac.out,if_neg (by omega),if_pos (by omega)]
     clear ac
     go_enter Tryz.func90,Tryz.ntmps90
     go_wp2_with (go_at_call 152;refine(A0h _ _).mono ?_;rintro e w1 ⟨rfl,rfl⟩;rw[←A0e (by omega)])
     go_ret
     exact⟨A1h HF.out.symm,fin _⟩
    ·by_cases h1:0 < len
     rotate_right
     focus
      have HF:Hid (E=0):=by show _=_;rw[ac.out,if_neg (by omega),if_neg (by omega),if_neg (by omega),if_neg (by omega),if_neg (by omega)]
     rotate_right
     focus
      have HF:Hid (E=8):=by show _=_;rw[ac.out,if_neg (by omega),if_neg (by omega),if_neg (by omega),if_neg (by omega),if_pos (by omega)]
     all_goals
      clear ac
      go_enter Tryz.func90,Tryz.ntmps90
      go_wp2_with (go_at_call 152;refine(A0h _ _).mono ?_;rintro e w1 ⟨rfl,rfl⟩;rw[←A0e (by omega)])
      go_ret
      exact⟨A1h HF.out.symm,fin _⟩
  ·by_cases h3:num < 1
   ·have HF:Hid (E=3):=by show _=_;rw[ac.out,if_neg (by omega),if_pos (by omega)]
    clear ac
    go_enter Tryz.func90,Tryz.ntmps90
    go_wp2_with (go_at_call 152;refine(A0h _ _).mono ?_;rintro e w1 ⟨rfl,rfl⟩;rw[←A0e (by omega)])
    go_ret
    exact⟨A1h HF.out.symm,fin _⟩
   ·by_cases h2:536870912≤num
    ·have HF:Hid (E=3):=by show _=_;rw[ac.out,if_neg (by omega),if_pos (by omega)]
     clear ac
     go_enter Tryz.func90,Tryz.ntmps90
     go_wp2_with (go_at_call 152;refine(A0h _ _).mono ?_;rintro e w1 ⟨rfl,rfl⟩;rw[←A0e (by omega)])
     go_ret
     exact⟨A1h HF.out.symm,fin _⟩
    ·by_cases h1:0 < len
     rotate_right
     focus
      have HF:Hid (E=0):=by show _=_;rw[ac.out,if_neg (by omega),if_neg (by omega),if_neg (by omega),if_neg (by omega),if_neg (by omega)]
     rotate_right
     focus
      have HF:Hid (E=8):=by show _=_;rw[ac.out,if_neg (by omega),if_neg (by omega),if_neg (by omega),if_neg (by omega),if_pos (by omega)]
     all_goals
      clear ac
      go_enter Tryz.func90,Tryz.ntmps90
      go_wp2_with (go_at_call 152;refine(A0h _ _).mono ?_;rintro e w1 ⟨rfl,rfl⟩;rw[←A0e (by omega)])
      go_ret
      exact⟨A1h HF.out.symm,fin _⟩
  ·by_cases h4:4000 < len
   ·have HF:Hid (E=4):=by show _=_;rw[ac.out,if_pos (by omega)]
    clear ac
    go_enter Tryz.func90,Tryz.ntmps90
    go_wp2_with (go_at_call 152;refine(A0h _ _).mono ?_;rintro e w1 ⟨rfl,rfl⟩;rw[←A0e (by omega)])
    go_ret
    exact⟨A1h HF.out.symm,fin _⟩
   ·by_cases h3:num < 1
    ·have HF:Hid (E=3):=by show _=_;rw[ac.out,if_neg (by omega),if_pos (by omega)]
     clear ac
     go_enter Tryz.func90,Tryz.ntmps90
     go_wp2_with (go_at_call 152;refine(A0h _ _).mono ?_;rintro e w1 ⟨rfl,rfl⟩;rw[←A0e (by omega)])
     go_ret
     exact⟨A1h HF.out.symm,fin _⟩
    ·by_cases h2:536870912≤num
     ·have HF:Hid (E=3):=by show _=_;rw[ac.out,if_neg (by omega),if_pos (by omega)]
      clear ac
      go_enter Tryz.func90,Tryz.ntmps90
      go_wp2_with (go_at_call 152;refine(A0h _ _).mono ?_;rintro e w1 ⟨rfl,rfl⟩;rw[←A0e (by omega)])
      go_ret
      exact⟨A1h HF.out.symm,fin _⟩
     ·by_cases h1:bits≠0
      rotate_right
      focus
       have hx:((bits:Int) != 0)=false:=by simp;omega
       have HF:Hid (E=0):=by show _=_;rw[ac.out,if_neg (by omega),if_neg (by omega),if_neg (by omega),if_neg (by omega),if_neg (by omega)]
       clear ac
      rotate_right
      focus
       have HF:Hid (E=8):=by show _=_;rw[ac.out,if_neg (by omega),if_neg (by omega),if_neg (by omega),if_pos (by omega)]
       clear ac
       have hx:((bits:Int) != 0)=true:=by rw[bne_iff_ne];omega
      all_goals
       go_enter Tryz.func90,Tryz.ntmps90
       go_wp2_with (go_at_call 152;refine(A0h _ _).mono ?_;rintro e w1 ⟨rfl,rfl⟩;rw[←A0e (by omega)])
       go_ret
       exact⟨A1h HF.out.symm,fin _⟩
  ·by_cases h4:num < 1
   ·have HF:Hid (E=3):=by show _=_;rw[ac.out,if_neg (by omega),if_pos (by omega)]
    clear ac
    go_enter Tryz.func90,Tryz.ntmps90
    go_wp2_with (go_at_call 152;refine(A0h _ _).mono ?_;rintro e w1 ⟨rfl,rfl⟩;rw[←A0e (by omega)])
    go_ret
    exact⟨A1h HF.out.symm,fin _⟩
   ·by_cases h3:536870912≤num
    ·have HF:Hid (E=3):=by show _=_;rw[ac.out,if_neg (by omega),if_pos (by omega)]
     clear ac
     go_enter Tryz.func90,Tryz.ntmps90
     go_wp2_with (go_at_call 152;refine(A0h _ _).mono ?_;rintro e w1 ⟨rfl,rfl⟩;rw[←A0e (by omega)])
     go_ret
     exact⟨A1h HF.out.symm,fin _⟩
    ·by_cases h2:bits / 4294967296≠0
     ·have HF:Hid (E=3):=by show _=_;rw[ac.out,if_neg (by omega),if_neg (by omega),if_pos (by omega)]
      clear ac
      have hx:((bits:Int) / 4294967296 != 0)=true:=by rw[bne_iff_ne];omega
      go_enter Tryz.func90,Tryz.ntmps90
      go_wp2_with (go_at_call 152;refine(A0h _ _).mono ?_;rintro e w1 ⟨rfl,rfl⟩;rw[←A0e (by omega)])
      go_ret
      exact⟨A1h HF.out.symm,fin _⟩
     ·have hx:((bits:Int) / 4294967296 != 0)=false:=by simp;omega
      by_cases h1:0 < len
      rotate_right
      focus
       have HF:Hid (E=0):=by show _=_;rw[ac.out,if_neg (by omega),if_neg (by omega),if_neg (by omega),if_neg (by omega),if_neg (by omega)]
      rotate_right
      focus
       have HF:Hid (E=8):=by show _=_;rw[ac.out,if_neg (by omega),if_neg (by omega),if_neg (by omega),if_neg (by omega),if_pos (by omega)]
      all_goals
       clear ac
       go_enter Tryz.func90,Tryz.ntmps90
       go_wp2_with (go_at_call 152;refine(A0h _ _).mono ?_;rintro e w1 ⟨rfl,rfl⟩;rw[←A0e (by omega)])
       go_ret
       exact⟨A1h HF.out.symm,fin _⟩
end Go.Proofs.YtgaoojpakjjdnaaGreatDoor
namespace Go.Proofs.YtgaoojpakjjdnaaGreatDoor
open Go.RowKit
def B5w (how:Int) (bits:Nat) (l:List UInt8):List UInt8:=if how=2 then A9v l.length++l else if how=0 then A9v bits else C1s (A2p how) bits
def B4o (num how:Int) (bits:Nat) (l:List UInt8):List UInt8:=A9v (num.toNat*8+how.toNat)++B5w how bits l
theorem A4t (n:Nat):(A9v n).length≤10:=B6v 10 n
theorem C3a (how:Int) (bits:Nat) (l:List UInt8):(B5w how bits l).length≤10+l.length:=by
 unfold B5w
 have h1:=A4t l.length
 have h2:=A4t bits
 split
 ·simp;omega
 ·split
  ·omega
  ·rw[C5n];unfold A2p;split <;> (try split) <;> omega
theorem B6z (num how:Int) (bits:Nat) (l:List UInt8):(B4o num how bits l).length≤20+l.length:=by
 unfold B4o
 have h1:=A4t (num.toNat*8+how.toNat)
 have h2:=C3a how bits l
 simp
 omega
theorem OwnB.mono {w:World}{base base':Nat}{v:Value}{l:List UInt8}(h:OwnB w base v l) (hb:base'≤base):OwnB w base' v l:=by
 refine⟨h.1,?_⟩
 rcases h.2 with hn|⟨g,cap,cur,hv,hbg,r⟩
 ·exact .inl hn
 ·exact .inr ⟨g,cap,cur,hv,Nat.le_trans hb hbg,r⟩
theorem B2y (w:World) (a b c d:Value) (t:TypeId) :
  (w.alloc (.cells #[a,b,c,d] t)).cell? ⟨w.heap.size,0,none⟩=some a∧(w.alloc (.cells #[a,b,c,d] t)).cell? ⟨w.heap.size,1,none⟩=some b∧
  (w.alloc (.cells #[a,b,c,d] t)).cell? ⟨w.heap.size,2,none⟩=some c∧(w.alloc (.cells #[a,b,c,d] t)).cell? ⟨w.heap.size,3,none⟩=some d:=by
 refine⟨?_,?_,?_,?_⟩ <;> simp
theorem A3v (num how:Int) (bits:Nat) (ao:Option Addr) (len cap:Nat) (l:List UInt8) (w:World) (hb:bits≤18446744073709551615) (hr:RdA w ao len cap l) (hlen:len≤4000)
  (h1:0≤num) (h2:num≤536870912) (h3:0≤how) (h4:how≤7) :
  Calls Tryz.prog 153 #[.agg #[.int .i64 num,.int .i64 how,.int .u64 (bits:Int),.slice ao len cap]] w fun e w'=>∃ v',e = .returned v'∧OwnB w' w.heap.size v' (B4o num how bits l)∧Below w.heap.size w w':=by
 have HL:Hid (l.length=len):=hr.1
 go_enter Tryz.func153,Tryz.ntmps153
 go_wp2_with fail
 refine(C9a (w.heap.size+1) (.slice none 0 0) [] num how _ (OwnB.nil _ _) (by simp) h1 h2 h3 h4 (by simp)).mono ?_
 rintro e w1 ⟨v1,rfl,ho,hbl⟩
 obtain⟨_,d1,d2,d3⟩:=B2y w (.int .i64 num) (.int .i64 how) (.int .u64 (bits:Int)) (.slice ao len cap) 106
 have c1:=(hbl.cell (p:=⟨w.heap.size,1,none⟩) (by simp)).trans d1
 have c2:=(hbl.cell (p:=⟨w.heap.size,2,none⟩) (by simp)).trans d2
 have c3:=(hbl.cell (p:=⟨w.heap.size,3,none⟩) (by simp)).trans d3
 have hb0:Below w.heap.size w w1:=((Below.refl w.heap.size w).alloc (Nat.le_refl _) _).trans (hbl.mono (by omega))
 have hs1:w.heap.size+1≤w1.heap.size:=by have:=hbl.size;simpa using this
 clear d1 d2 d3 hbl
 by_cases hh:how=2
 ·have ht:B5w how bits l=A9v l.length++l:=by unfold B5w;rw[if_pos hh]
  have HT:Hid (B4o num how bits l=A9v (num.toNat*8+how.toNat)++(A9v l.length++l)):=by show _=_;rw[B4o,ht]
  clear ht
  rw[hh] at c1
  have ak:Hid (how=2):=hh
  clear hh
  go_wp2_with fail
  refine(B5p (w.heap.size+1) v1 _ len w1 ho hs1 (by omega) (by simp;have:=A4t (num.toNat*8+how.toNat);omega)).mono ?_
  rintro e w2 ⟨v2,rfl,ah,ac⟩
  have e3:=(ac.cell (p:=⟨w.heap.size,3,none⟩) (by simp)).trans c3
  have hr2:=hr.later (hb0.trans (ac.mono (by omega)))
  have hs2:w.heap.size+1≤w2.heap.size:=by have:=ac.size;omega
  clear c1 c2 c3
  go_wp2_with (at_builtin;refine A1f rfl _ _ rfl (w.heap.size+1) _ _ l rfl ah ao len cap rfl hr2 ?e1 hs2 ?_)
  case e1=>
   have:=A4t (num.toNat*8+how.toNat)
   have:=A4t len
   have:=HL.out
   simp
   omega
  intro v3 w3 aj ag
  go_wp2
  go_ret
  refine⟨v3,rfl,?_,(hb0.trans (ac.mono (by omega))).trans (ag.mono (by omega))⟩
  rw[HT.out,HL.out]
  have:=aj.mono (show w.heap.size≤w.heap.size+1 by omega)
  simpa using this
 ·have ht:B5w how bits l=if how=0 then A9v bits else C1s (A2p how) bits:=by unfold B5w;rw[if_neg hh]
  have HT:Hid (B4o num how bits l=A9v (num.toNat*8+how.toNat)++(if how=0 then A9v bits else C1s (A2p how) bits)):=by show _=_;rw[B4o,ht]
  clear ht
  have b2:(how == 2)=false:=beq_eq_false_iff_ne.2 hh
  go_wp2_with fail
  refine(B5o (w.heap.size+1) v1 _ how bits w1 ho hs1 hb (by simp;have:=A4t (num.toNat*8+how.toNat);omega)).mono ?_
  rintro e w2 ⟨v2,rfl,ah,ac⟩
  go_wp2
  go_ret
  refine⟨v2,rfl,?_,hb0.trans (ac.mono (by omega))⟩
  rw[HT.out]
  exact ah.mono (by omega)
theorem C7w (base:Nat) (v:Value) (m:List UInt8) (num how:Int) (bits:Nat) (ao:Option Addr) (len cap:Nat) (l:List UInt8) (w:World) (hv:OwnB w base v m) (aw:base≤w.heap.size) (hb:bits≤18446744073709551615) (hr:RdA w ao len cap l) (hlen:len≤4000)
  (h1:0≤num) (h2:num≤536870912) (h3:0≤how) (h4:how≤7) (hm:m.length≤1000000) :
  Calls Tryz.prog 91 #[v,.agg #[.int .i64 num,.int .i64 how,.int .u64 (bits:Int),.slice ao len cap]] w fun e w'=>∃ v',e = .returned v'∧OwnB w' base v' (m++B4o num how bits l)∧Below base w w':=by
 have HL:Hid (l.length=len):=hr.1
 have hb0:∀ o,Below w.heap.size w (w.alloc o):=fun o=>(Below.refl w.heap.size w).alloc (Nat.le_refl _) o
 go_enter Tryz.func91,Tryz.ntmps91
 go_wp2_with fail
 refine(A3v num how bits ao len cap l _ hb (hr.later (hb0 _)) hlen h1 h2 h3 h4).mono ?_
 rintro e w1 ⟨v1,rfl,ho,hbl⟩
 have bc:OwnB w1 base v m:=hv.keptB ((hb0 _).trans (hbl.mono (by simp)))
 have ak:Below base w w1:=((hb0 _).mono aw).trans (hbl.mono (by simp;omega))
 have hs1:base≤w1.heap.size:=by have:=ak.size;omega
 obtain⟨au,aj,ac,ah,hr1⟩:=ho.rd
 rw[ah]
 have bg:=B6z num how bits l
 have HH:Hid (l.length=len):=HL
 go_wp2_with (at_builtin;refine A1f rfl _ _ rfl base _ _ (B4o num how bits l) rfl bc au aj ac rfl hr1 ?e1 hs1 ?_)
 case e1=>have:=HH.out;omega
 intro v2 w2 ba ag
 go_wp2
 go_ret
 exact⟨v2,rfl,ba,ak.trans ag⟩
end Go.Proofs.YtgaoojpakjjdnaaGreatDoor
