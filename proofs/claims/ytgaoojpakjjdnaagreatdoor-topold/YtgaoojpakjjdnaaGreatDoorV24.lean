import Derived.Test.YtgaoojpakjjdnaaGreatDoorV23
import Derived.Laws.AppendOwnNone
set_option maxHeartbeats 32000000
set_option maxRecDepth 100000
namespace Go.Proofs.YtgaoojpakjjdnaaGreatDoor
open Go.RowKit
theorem D5u:(Tryz.prog.info? 5).map (fun i=>(i.zero,i.size,i.bytes))=some (some (.int .u8 0),1,1):=by kernel_rfl
theorem OwnB.base {w:World}{base:Nat}{v:Value}{l:List UInt8}(h:OwnB w base v l):∀ k,v.ownBlock=some k→base≤k:=fun k hk=>(World.ownsRow.lt h k hk).1
theorem A1s {w:World}{ops:Array Oper}{rest:List Oper}{o:Oper}{a:Act}{Q:Exit→Act→World→Prop}(hgd:o.guard=none)(s x:Operand)
  (ho:o.op = .call { callee:=.builtin .append,args:=#[s,x],argTypes:=#[32,32] })
  (base:Nat) (v:Value) (l m:List UInt8) (hs:a.eval s=v) (hown:OwnB w base v l) (ao:Option Addr) (len cap:Nat) (hx:a.eval x = .slice ao len cap) (hr:RdA w ao len cap m)
  (hlen:l.length+m.length≤140737488355328) (hb:base≤w.heap.size)
  (h:∀ v' w',OwnB w' base v' (l++m)→Below base w w'→wpList Tryz.prog ops Q rest (a.put o.dst v') w'):wpList Tryz.prog ops Q (o::rest) a w:=by
 obtain⟨i0,hi,hz0,hz1,hz2⟩:=info_parts D5u
 obtain⟨r1,r2,r3,r4,r5⟩:=hr
 cases ao with
 | none=>
  have hc0:=r4 rfl
  have hl0:len=0:=by omega
  subst hc0 hl0
  have hm:m = []:=List.eq_nil_of_length_eq_zero r1
  subst hm
  refine wpList_append_own_none hgd s x 32 ho base 5 i0 1 Tryz.underlying32 hi v l.length _ hs hown hx ?_
  exact h v w (by rw[List.append_nil];exact hown) (Below.refl _ _)
 | some ad=>
  refine wpList_append_own w hgd s x 32 ho base 5 i0 (.int .u8 0) 1 1 Tryz.underlying32 hi hz0 hz1 hz2 rfl (by decide) v l.length _ hs hown ad len cap
   (m.map fun c=>Value.int .u8 (c.toNat:Int)) hx (by simp[r1]) ?_ ?_ (by unfold maxLen;omega) (by omega) hb ?_
  ·intro j u hj
   rw[List.getElem?_map] at hj
   cases hmj:m[j]? with
   | none=>rw[hmj] at hj;cases hj
   | some c=>
    rw[hmj] at hj
    have ac:j<m.length:=by
     rcases Nat.lt_or_ge j m.length with h1|h1
     ·exact h1
     ·rw[List.getElem?_eq_none h1] at hmj;cases hmj
    have:=r5 ad rfl j (by omega)
    rw[this,List.getD_eq_getElem?_getD,hmj]
    exact hj
  ·intro u hu
   rw[List.mem_map] at hu
   obtain⟨c,_,rfl⟩:=hu
   rfl
  ·intro v' w' h1 h2 _
   refine h v' w' ?_ ((Below.refl base w).grown h2 hb hown.base)
   show w'.ownsRow base _ 1 v' _ _
   rw[List.length_append,List.map_append,r1]
   exact h1
theorem A8p {w:World}{ops:Array Oper}{rest:List Oper}{o:Oper}{a:Act}{Q:Exit→Act→World→Prop}(hgd:o.guard=none)(s x:Operand)
  (ho:o.op = .call { callee:=.builtin .append,args:=#[s,x],argTypes:=#[32,32] })
  (base:Nat) (v:Value) (l:List UInt8) (c:UInt8) (hs:a.eval s=v) (hown:OwnB w base v l) (ad:Addr) (hx:a.eval x = .slice (some ad) 1 1) (hc:w.cell? ad=some (.int .u8 (c.toNat:Int)))
  (hlen:l.length+1≤140737488355328) (hb:base≤w.heap.size)
  (h:∀ v' w',OwnB w' base v' (l++[c])→Below base w w'→wpList Tryz.prog ops Q rest (a.put o.dst v') w'):wpList Tryz.prog ops Q (o::rest) a w:=by
 refine A1s hgd s x ho base v l [c] hs hown (some ad) 1 1 hx ⟨rfl,Nat.le_refl _,by unfold maxLen;omega,by simp,?_⟩ (by simpa using hlen) hb h
 intro y hy i hi
 cases hy
 have:i=0:=by omega
 subst this
 simpa [Addr.add] using hc
theorem OwnB.alloc {w:World}{base:Nat}{v:Value}{l:List UInt8}(h:OwnB w base v l)(o:Obj):OwnB (w.alloc o) base v l:=World.ownsRow.alloc h o
theorem C8y {f m:Nat}(hf:m<2 ^ (7*f))(hs:¬ m<128):2≤f:=by
 rcases Nat.lt_or_ge f 2 with h|h
 ·have h1:2 ^ (7*f)≤2 ^ 7:=Nat.pow_le_pow_right (by decide) (by omega)
  have h2:(2:Nat) ^ 7=128:=rfl
  omega
 ·exact h
theorem B6q {f m:Nat}(hf:m<2 ^ (7*(f+1))):m / 128<2 ^ (7*f):=by
 rw[show 7*(f+1)=7*f+7 by omega,Nat.pow_add] at hf
 have h2:(2:Nat) ^ 7=128:=rfl
 rw[h2] at hf
 omega
theorem C1b (base:Nat)(v:Value)(l:List UInt8)(n:Nat)(w:World)(hv:OwnB w base v l)(hb:base≤w.heap.size)(hn:n≤18446744073709551615)(hl:l.length≤1000000) :
  Calls Tryz.prog 208 #[v,.int .u64 (n:Int)] w fun e w'=>∃ v',e = .returned v'∧OwnB w' base v' (l++A5q n)∧Below base w w':=by
 have H0:Hid (l++B4a 10 n=l++A5q n):=rfl
 go_enter Tryz.func208,Tryz.ntmps208
 go_wp2
 go_loopw [0,1] (fun u i wr=>∃ (f m:Nat) (l':List UInt8),i = .int .u64 (m:Int)∧m≤18446744073709551615∧Hid (m<2 ^ (7*(f+1)))∧f≤9∧l'.length+f≤l.length+10∧OwnB wr base u l'∧Below base w wr∧base≤wr.heap.size∧Hid (l'++B4a (f+1) m=l++A5q n))
  (fun _ i _=>(intOf i).toNat)
 case atStart=>exact⟨9,n,l,rfl,hn,by show n<2 ^ (7*10);omega,Nat.le_refl _,by omega,hv,Below.refl _ _,hb,H0⟩
 case round=>
  obtain⟨f,m,l',rfl,hm,hf,ah,hlen,hown,ag,ac,HR⟩:=hrel
  by_cases hs:m<128
  ·go_wp2_with (at_builtin;refine A8p rfl _ _ rfl base _ l' (UInt8.ofNat m) rfl (hown.alloc _) ⟨wr.heap.size,0,none⟩ rfl ?c1 ?c2 ?c3 ?_)
   case c1=>
    simp
    omega
   case c2=>omega
   case c3=>simp;omega
   intro v' w1 h1 h2
   go_wp2
   go_ret
   refine⟨v',rfl,?_,(ag.alloc ac _).trans h2⟩
   rw[←HR.out,B1u hs]
   exact h1
  ·obtain⟨c,Hc⟩:∃ c,Hid (c=UInt8.ofNat (m%128+128)):=⟨_,rfl⟩
   go_wp2_with (at_builtin;refine A8p rfl _ _ rfl base _ l' c rfl (hown.alloc _) ⟨wr.heap.size,0,none⟩ rfl ?d1 ?d2 ?d3 ?_)
   case d1=>
    rw[Hc.out,←C2n,IntKind.wrap_u8]
    simp
   case d2=>omega
   case d3=>simp;omega
   intro v' w1 h1 h2
   go_wp2
   go_roundw
   case rel=>
    have hf2:=C8y hf.out hs
    obtain⟨g,rfl⟩:∃ g,f=g+1:=⟨f-1,by omega⟩
    refine⟨g,m / 128,l'++[c],by go_num,by omega,B6q hf.out,by omega,by simp;omega,h1,(ag.alloc ac _).trans h2,by have:=h2.size;simp at this;omega,?_⟩
    show _=_
    rw[←HR.out,B6p hs,List.append_assoc,Hc.out]
    rfl
   case measure=>simp[intOf];omega
end Go.Proofs.YtgaoojpakjjdnaaGreatDoor
namespace Go.Proofs.YtgaoojpakjjdnaaGreatDoor
open Go.RowKit
structure Rcd where
 num:Int
 how:Int
 bits:Nat
 bytes:List UInt8
def B1g:Nat→Nat→List UInt8
 | 0,_=>[]
 | k+1,n=>UInt8.ofNat n::B1g k (n / 256)
theorem A7r (k n:Nat):(B1g k n).length=k:=by
 induction k generalizing n with
 | zero=>rfl
 | succ k ih=>rw[B1g,List.length_cons,ih]
theorem D6p (base:Nat)(v:Value)(l:List UInt8)(num how:Int)(w:World)(hv:OwnB w base v l)(hb:base≤w.heap.size)(h1:0≤num)(h2:num≤536870912)(h3:0≤how)(h4:how≤7)(hl:l.length≤1000000) :
  Calls Tryz.prog 210 #[v,.int .i64 num,.int .i64 how] w fun e w'=>∃ v',e = .returned v'∧OwnB w' base v' (l++A5q (num.toNat*8+how.toNat))∧Below base w w':=by
 go_enter Tryz.func210,Tryz.ntmps210
 go_wp2_with fail
 rw[show num*8+how=((num.toNat*8+how.toNat:Nat):Int) by omega]
 refine(C1b base v l _ _ hv hb (by omega) hl).mono ?_
 rintro e w1 ⟨v1,rfl,ho,hbl⟩
 go_wp2
 go_ret
 exact⟨v1,rfl,ho,hbl⟩
theorem C1a (base:Nat)(v:Value)(l:List UInt8)(how:Int)(n:Nat)(w:World)(hv:OwnB w base v l)(hb:base≤w.heap.size)(hn:n≤18446744073709551615)(hl:l.length≤900000) :
  Calls Tryz.prog 151 #[v,.int .i64 how,.int .u64 (n:Int)] w fun e w'=>∃ v',e = .returned v'∧OwnB w' base v' (l++(if how=0 then A5q n else B1g (A1v how) n))∧Below base w w':=by
 by_cases h0:how=0
 ·rw[if_pos h0]
  subst h0
  go_enter Tryz.func151,Tryz.ntmps151
  go_wp2_with (go_at_call 208;refine(C1b base v l n _ hv hb hn (by omega)).mono ?_;rintro e w1 ⟨v1,rfl,ho,hbl⟩)
  go_ret
  exact⟨v1,rfl,ho,hbl⟩
 ·rw[if_neg h0]
  have b0:(how==0)=false:=beq_eq_false_iff_ne.2 h0
  obtain⟨W,HW⟩:∃ W,Hid (W=A1v how):=⟨_,rfl⟩
  have ah:W≤8:=by rw[HW.out];unfold A1v;split <;> (try split) <;> omega
  clear h0
  rw[←HW.out]
  go_enter Tryz.func151,Tryz.ntmps151
  go_wp2_with (go_at_call 209;refine(B0a how _).mono ?_;rintro e w1 ⟨rfl,rfl⟩;rw[←HW.out])
  go_loopw [0,2,14] (fun u n' i wr=>∃ (k m:Nat) (l':List UInt8),i = .int .i64 (k:Int)∧k≤W∧n' = .int .u64 (m:Int)∧m≤18446744073709551615∧l'.length=l.length+k∧OwnB wr base u l'∧Below base w wr∧base≤wr.heap.size∧Hid (l'++B1g (W-k) m=l++B1g W n))
   (fun _ _ i _=>W-(intOf i).toNat)
  case atStart=>exact⟨0,n,l,rfl,by omega,rfl,hn,rfl,hv,Below.refl _ _,hb,rfl⟩
  case round=>
   obtain⟨k,m,l',rfl,hk,rfl,hm,hlen,hown,ac,ag,HR⟩:=hrel
   by_cases hlt:k<W
   ·obtain⟨c,Hc⟩:∃ c,Hid (c=UInt8.ofNat m):=⟨_,rfl⟩
    go_wp2_with (at_builtin;refine A8p rfl _ _ rfl base _ l' c rfl (hown.alloc _) ⟨wr.heap.size,0,none⟩ rfl ?d1 ?d2 ?d3 ?_)
    case d1=>
     rw[Hc.out,UInt8.toNat_ofNat']
     simp
    case d2=>omega
    case d3=>simp;omega
    intro v' w2 h1 h2
    go_wp2
    go_roundw
    case rel=>
     refine⟨k+1,m / 256,l'++[c],by go_num,by omega,by go_num,by omega,by simp;omega,h1,(ac.alloc ag _).trans h2,by have:=h2.size;simp at this;omega,?_⟩
     show _=_
     rw[←HR.out,show W-k=W-(k+1)+1 by omega,B1g,List.append_assoc,Hc.out]
     rfl
    case measure=>simp[intOf];omega
   ·go_wp2
    go_ret
    refine⟨_,rfl,?_,ac⟩
    rw[←HR.out,show W-k=0 by omega,B1g,List.append_nil]
    exact hown
end Go.Proofs.YtgaoojpakjjdnaaGreatDoor
namespace Go.Proofs.YtgaoojpakjjdnaaGreatDoor
open Go.RowKit
def A0t (num how:Int)(bits len:Nat):Int:=
 if A2a how=false then 1
 else if how=2∧4000<len then 4
 else if num<1∨536870912≤num then 3
 else if how=5∧bits / 4294967296≠0 then 3
 else if how=2∧bits≠0 then 8
 else if how≠2∧0<len then 8
 else 0
theorem B0y {num how:Int}{bits len:Nat}(h:A2a how=false):A0t num how bits len=1:=by
 unfold A0t;rw[if_pos h]
theorem B2u {how:Int}(h:how=0∨how=1∨how=2∨how=5):¬ A2a how=false:=by rw[←A0d h];decide
theorem D0u (num how:Int)(bits:Nat)(ao:Option Addr)(len cap:Nat)(w:World)(ag:len≤9223372036854775807) :
  Calls Tryz.prog 90 #[.agg #[.int .i64 num,.int .i64 how,.int .u64 (bits:Int),.slice ao len cap]] w fun e w'=>e = .returned (.int .i64 (A0t num how bits len))∧Below w.heap.size w w':=by
 have fin:∀ (o:Obj),Below w.heap.size w (w.alloc o):=fun o=>(Below.refl _ _).alloc (Nat.le_refl _) o
 by_cases hk:A2a how=false
 ·rw[B0y hk]
  go_enter Tryz.func90,Tryz.ntmps90
  go_wp2_with (go_at_call 152;refine(A0h how _).mono ?_;rintro e w1 ⟨rfl,rfl⟩)
  go_ret
  exact⟨rfl,fin _⟩
 ·obtain⟨E,HE⟩:∃ E,Hid (E=A0t num how bits len):=⟨_,rfl⟩
  rw[←HE.out]
  have hh:how=0∨how=1∨how=2∨how=5:=by
   rcases Decidable.em (how=0∨how=1∨how=2∨how=5) with h|h
   ·exact h
   ·exact absurd (A5v h).symm hk
  have ac:Hid (E=(if how=2∧4000<len then 4
   else if num<1∨536870912≤num then 3
   else if how=5∧bits / 4294967296≠0 then 3
   else if how=2∧bits≠0 then 8
   else if how≠2∧0<len then 8
   else 0)):=by
   show _=_
   rw[HE.out,A0t,if_neg hk]
  clear HE hk
  rcases hh with rfl|rfl|rfl|rfl
  ·by_cases h3:num<1
   ·have HF:Hid (E=3):=by show _=_;rw[ac.out,if_neg (by omega),if_pos (by omega)]
    clear ac
    go_enter Tryz.func90,Tryz.ntmps90
    go_wp2_with (go_at_call 152;refine(A0h _ _).mono ?_;rintro e w1 ⟨rfl,rfl⟩;rw[←A0d (by omega)])
    go_ret
    exact⟨A1u HF.out.symm,fin _⟩
   ·by_cases h2:536870912≤num
    ·have HF:Hid (E=3):=by show _=_;rw[ac.out,if_neg (by omega),if_pos (by omega)]
     clear ac
     go_enter Tryz.func90,Tryz.ntmps90
     go_wp2_with (go_at_call 152;refine(A0h _ _).mono ?_;rintro e w1 ⟨rfl,rfl⟩;rw[←A0d (by omega)])
     go_ret
     exact⟨A1u HF.out.symm,fin _⟩
    ·by_cases h1:0<len
     rotate_right
     focus
      have HF:Hid (E=0):=by show _=_;rw[ac.out,if_neg (by omega),if_neg (by omega),if_neg (by omega),if_neg (by omega),if_neg (by omega)]
     rotate_right
     focus
      have HF:Hid (E=8):=by show _=_;rw[ac.out,if_neg (by omega),if_neg (by omega),if_neg (by omega),if_neg (by omega),if_pos (by omega)]
     all_goals
      clear ac
      go_enter Tryz.func90,Tryz.ntmps90
      go_wp2_with (go_at_call 152;refine(A0h _ _).mono ?_;rintro e w1 ⟨rfl,rfl⟩;rw[←A0d (by omega)])
      go_ret
      exact⟨A1u HF.out.symm,fin _⟩
  ·by_cases h3:num<1
   ·have HF:Hid (E=3):=by show _=_;rw[ac.out,if_neg (by omega),if_pos (by omega)]
    clear ac
    go_enter Tryz.func90,Tryz.ntmps90
    go_wp2_with (go_at_call 152;refine(A0h _ _).mono ?_;rintro e w1 ⟨rfl,rfl⟩;rw[←A0d (by omega)])
    go_ret
    exact⟨A1u HF.out.symm,fin _⟩
   ·by_cases h2:536870912≤num
    ·have HF:Hid (E=3):=by show _=_;rw[ac.out,if_neg (by omega),if_pos (by omega)]
     clear ac
     go_enter Tryz.func90,Tryz.ntmps90
     go_wp2_with (go_at_call 152;refine(A0h _ _).mono ?_;rintro e w1 ⟨rfl,rfl⟩;rw[←A0d (by omega)])
     go_ret
     exact⟨A1u HF.out.symm,fin _⟩
    ·by_cases h1:0<len
     rotate_right
     focus
      have HF:Hid (E=0):=by show _=_;rw[ac.out,if_neg (by omega),if_neg (by omega),if_neg (by omega),if_neg (by omega),if_neg (by omega)]
     rotate_right
     focus
      have HF:Hid (E=8):=by show _=_;rw[ac.out,if_neg (by omega),if_neg (by omega),if_neg (by omega),if_neg (by omega),if_pos (by omega)]
     all_goals
      clear ac
      go_enter Tryz.func90,Tryz.ntmps90
      go_wp2_with (go_at_call 152;refine(A0h _ _).mono ?_;rintro e w1 ⟨rfl,rfl⟩;rw[←A0d (by omega)])
      go_ret
      exact⟨A1u HF.out.symm,fin _⟩
  ·by_cases h4:4000<len
   ·have HF:Hid (E=4):=by show _=_;rw[ac.out,if_pos (by omega)]
    clear ac
    go_enter Tryz.func90,Tryz.ntmps90
    go_wp2_with (go_at_call 152;refine(A0h _ _).mono ?_;rintro e w1 ⟨rfl,rfl⟩;rw[←A0d (by omega)])
    go_ret
    exact⟨A1u HF.out.symm,fin _⟩
   ·by_cases h3:num<1
    ·have HF:Hid (E=3):=by show _=_;rw[ac.out,if_neg (by omega),if_pos (by omega)]
     clear ac
     go_enter Tryz.func90,Tryz.ntmps90
     go_wp2_with (go_at_call 152;refine(A0h _ _).mono ?_;rintro e w1 ⟨rfl,rfl⟩;rw[←A0d (by omega)])
     go_ret
     exact⟨A1u HF.out.symm,fin _⟩
    ·by_cases h2:536870912≤num
     ·have HF:Hid (E=3):=by show _=_;rw[ac.out,if_neg (by omega),if_pos (by omega)]
      clear ac
      go_enter Tryz.func90,Tryz.ntmps90
      go_wp2_with (go_at_call 152;refine(A0h _ _).mono ?_;rintro e w1 ⟨rfl,rfl⟩;rw[←A0d (by omega)])
      go_ret
      exact⟨A1u HF.out.symm,fin _⟩
     ·by_cases h1:bits≠0
      rotate_right
      focus
       have hx:((bits:Int) != 0)=false:=by simp;omega
       have HF:Hid (E=0):=by show _=_;rw[ac.out,if_neg (by omega),if_neg (by omega),if_neg (by omega),if_neg (by omega),if_neg (by omega)]
       clear ac
      rotate_right
      focus
       have HF:Hid (E=8):=by show _=_;rw[ac.out,if_neg (by omega),if_neg (by omega),if_neg (by omega),if_pos (by omega)]
       clear ac
       have hx:((bits:Int) != 0)=true:=by rw[bne_iff_ne];omega
      all_goals
       go_enter Tryz.func90,Tryz.ntmps90
       go_wp2_with (go_at_call 152;refine(A0h _ _).mono ?_;rintro e w1 ⟨rfl,rfl⟩;rw[←A0d (by omega)])
       go_ret
       exact⟨A1u HF.out.symm,fin _⟩
  ·by_cases h4:num<1
   ·have HF:Hid (E=3):=by show _=_;rw[ac.out,if_neg (by omega),if_pos (by omega)]
    clear ac
    go_enter Tryz.func90,Tryz.ntmps90
    go_wp2_with (go_at_call 152;refine(A0h _ _).mono ?_;rintro e w1 ⟨rfl,rfl⟩;rw[←A0d (by omega)])
    go_ret
    exact⟨A1u HF.out.symm,fin _⟩
   ·by_cases h3:536870912≤num
    ·have HF:Hid (E=3):=by show _=_;rw[ac.out,if_neg (by omega),if_pos (by omega)]
     clear ac
     go_enter Tryz.func90,Tryz.ntmps90
     go_wp2_with (go_at_call 152;refine(A0h _ _).mono ?_;rintro e w1 ⟨rfl,rfl⟩;rw[←A0d (by omega)])
     go_ret
     exact⟨A1u HF.out.symm,fin _⟩
    ·by_cases h2:bits / 4294967296≠0
     ·have HF:Hid (E=3):=by show _=_;rw[ac.out,if_neg (by omega),if_neg (by omega),if_pos (by omega)]
      clear ac
      have hx:((bits:Int) / 4294967296 != 0)=true:=by rw[bne_iff_ne];omega
      go_enter Tryz.func90,Tryz.ntmps90
      go_wp2_with (go_at_call 152;refine(A0h _ _).mono ?_;rintro e w1 ⟨rfl,rfl⟩;rw[←A0d (by omega)])
      go_ret
      exact⟨A1u HF.out.symm,fin _⟩
     ·have hx:((bits:Int) / 4294967296 != 0)=false:=by simp;omega
      by_cases h1:0<len
      rotate_right
      focus
       have HF:Hid (E=0):=by show _=_;rw[ac.out,if_neg (by omega),if_neg (by omega),if_neg (by omega),if_neg (by omega),if_neg (by omega)]
      rotate_right
      focus
       have HF:Hid (E=8):=by show _=_;rw[ac.out,if_neg (by omega),if_neg (by omega),if_neg (by omega),if_neg (by omega),if_pos (by omega)]
      all_goals
       clear ac
       go_enter Tryz.func90,Tryz.ntmps90
       go_wp2_with (go_at_call 152;refine(A0h _ _).mono ?_;rintro e w1 ⟨rfl,rfl⟩;rw[←A0d (by omega)])
       go_ret
       exact⟨A1u HF.out.symm,fin _⟩
end Go.Proofs.YtgaoojpakjjdnaaGreatDoor
namespace Go.Proofs.YtgaoojpakjjdnaaGreatDoor
open Go.RowKit
def A7z (how:Int)(bits:Nat)(l:List UInt8):List UInt8:=if how=2 then A5q l.length++l else if how=0 then A5q bits else B1g (A1v how) bits
def A7x (num how:Int)(bits:Nat)(l:List UInt8):List UInt8:=A5q (num.toNat*8+how.toNat)++A7z how bits l
theorem A6m (n:Nat):(A5q n).length≤10:=C2l 10 n
theorem C9y (how:Int)(bits:Nat)(l:List UInt8):(A7z how bits l).length≤10+l.length:=by
 unfold A7z
 have h1:=A6m l.length
 have h2:=A6m bits
 split
 ·simp;omega
 ·split
  ·omega
  ·rw[A7r];unfold A1v;split <;> (try split) <;> omega
theorem C2q (num how:Int)(bits:Nat)(l:List UInt8):(A7x num how bits l).length≤20+l.length:=by
 unfold A7x
 have h1:=A6m (num.toNat*8+how.toNat)
 have h2:=C9y how bits l
 simp
 omega
theorem OwnB.mono {w:World}{base base':Nat}{v:Value}{l:List UInt8}(h:OwnB w base v l)(hb:base'≤base):OwnB w base' v l:=by
 refine⟨h.1,?_⟩
 rcases h.2 with hn|⟨g,cap,cur,hv,hbg,r⟩
 ·exact .inl hn
 ·exact .inr ⟨g,cap,cur,hv,Nat.le_trans hb hbg,r⟩
theorem B7p (w:World)(a b c d:Value)(t:TypeId) :
  (w.alloc (.cells #[a,b,c,d] t)).cell? ⟨w.heap.size,0,none⟩=some a∧(w.alloc (.cells #[a,b,c,d] t)).cell? ⟨w.heap.size,1,none⟩=some b∧
  (w.alloc (.cells #[a,b,c,d] t)).cell? ⟨w.heap.size,2,none⟩=some c∧(w.alloc (.cells #[a,b,c,d] t)).cell? ⟨w.heap.size,3,none⟩=some d:=by
 refine⟨?_,?_,?_,?_⟩ <;> simp
theorem A5e (num how:Int)(bits:Nat)(ao:Option Addr)(len cap:Nat)(l:List UInt8)(w:World)(hb:bits≤18446744073709551615)(hr:RdA w ao len cap l)(hlen:len≤4000)
  (h1:0≤num) (h2:num≤536870912) (h3:0≤how) (h4:how≤7) :
  Calls Tryz.prog 153 #[.agg #[.int .i64 num,.int .i64 how,.int .u64 (bits:Int),.slice ao len cap]] w fun e w'=>∃ v',e = .returned v'∧OwnB w' w.heap.size v' (A7x num how bits l)∧Below w.heap.size w w':=by
 have HL:Hid (l.length=len):=hr.1
 go_enter Tryz.func153,Tryz.ntmps153
 go_wp2_with fail
 refine(D6p (w.heap.size+1) (.slice none 0 0) [] num how _ (OwnB.nil _ _) (by simp) h1 h2 h3 h4 (by simp)).mono ?_
 rintro e w1 ⟨v1,rfl,ho,hbl⟩
 obtain⟨_,d1,d2,d3⟩:=B7p w (.int .i64 num) (.int .i64 how) (.int .u64 (bits:Int)) (.slice ao len cap) 106
 have c1:=(hbl.cell (p:=⟨w.heap.size,1,none⟩) (by simp)).trans d1
 have c2:=(hbl.cell (p:=⟨w.heap.size,2,none⟩) (by simp)).trans d2
 have c3:=(hbl.cell (p:=⟨w.heap.size,3,none⟩) (by simp)).trans d3
 have hb0:Below w.heap.size w w1:=((Below.refl w.heap.size w).alloc (Nat.le_refl _) _).trans (hbl.mono (by omega))
 have hs1:w.heap.size+1≤w1.heap.size:=by have:=hbl.size;simpa using this
 clear d1 d2 d3 hbl
 by_cases hh:how=2
 ·have ht:A7z how bits l=A5q l.length++l:=by unfold A7z;rw[if_pos hh]
  have HT:Hid (A7x num how bits l=A5q (num.toNat*8+how.toNat)++(A5q l.length++l)):=by show _=_;rw[A7x,ht]
  clear ht
  rw[hh] at c1
  have ak:Hid (how=2):=hh
  clear hh
  go_wp2_with fail
  refine(C1b (w.heap.size+1) v1 _ len w1 ho hs1 (by omega) (by simp;have:=A6m (num.toNat*8+how.toNat);omega)).mono ?_
  rintro e w2 ⟨v2,rfl,ah,ac⟩
  have e3:=(ac.cell (p:=⟨w.heap.size,3,none⟩) (by simp)).trans c3
  have hr2:=hr.later (hb0.trans (ac.mono (by omega)))
  have hs2:w.heap.size+1≤w2.heap.size:=by have:=ac.size;omega
  clear c1 c2 c3
  go_wp2_with (at_builtin;refine A1s rfl _ _ rfl (w.heap.size+1) _ _ l rfl ah ao len cap rfl hr2 ?e1 hs2 ?_)
  case e1=>
   have:=A6m (num.toNat*8+how.toNat)
   have:=A6m len
   have:=HL.out
   simp
   omega
  intro v3 w3 aj ag
  go_wp2
  go_ret
  refine⟨v3,rfl,?_,(hb0.trans (ac.mono (by omega))).trans (ag.mono (by omega))⟩
  rw[HT.out,HL.out]
  have:=aj.mono (show w.heap.size≤w.heap.size+1 by omega)
  simpa using this
 ·have ht:A7z how bits l=if how=0 then A5q bits else B1g (A1v how) bits:=by unfold A7z;rw[if_neg hh]
  have HT:Hid (A7x num how bits l=A5q (num.toNat*8+how.toNat)++(if how=0 then A5q bits else B1g (A1v how) bits)):=by show _=_;rw[A7x,ht]
  clear ht
  have b2:(how==2)=false:=beq_eq_false_iff_ne.2 hh
  go_wp2_with fail
  refine(C1a (w.heap.size+1) v1 _ how bits w1 ho hs1 hb (by simp;have:=A6m (num.toNat*8+how.toNat);omega)).mono ?_
  rintro e w2 ⟨v2,rfl,ah,ac⟩
  go_wp2
  go_ret
  refine⟨v2,rfl,?_,hb0.trans (ac.mono (by omega))⟩
  rw[HT.out]
  exact ah.mono (by omega)
theorem D5k (base:Nat)(v:Value)(m:List UInt8)(num how:Int)(bits:Nat)(ao:Option Addr)(len cap:Nat)(l:List UInt8)(w:World)(hv:OwnB w base v m)(aw:base≤w.heap.size)(hb:bits≤18446744073709551615)(hr:RdA w ao len cap l)(hlen:len≤4000)
  (h1:0≤num) (h2:num≤536870912) (h3:0≤how) (h4:how≤7) (hm:m.length≤1000000) :
  Calls Tryz.prog 91 #[v,.agg #[.int .i64 num,.int .i64 how,.int .u64 (bits:Int),.slice ao len cap]] w fun e w'=>∃ v',e = .returned v'∧OwnB w' base v' (m++A7x num how bits l)∧Below base w w':=by
 have HL:Hid (l.length=len):=hr.1
 have hb0:∀ o,Below w.heap.size w (w.alloc o):=fun o=>(Below.refl w.heap.size w).alloc (Nat.le_refl _) o
 go_enter Tryz.func91,Tryz.ntmps91
 go_wp2_with fail
 refine(A5e num how bits ao len cap l _ hb (hr.later (hb0 _)) hlen h1 h2 h3 h4).mono ?_
 rintro e w1 ⟨v1,rfl,ho,hbl⟩
 have bc:OwnB w1 base v m:=hv.keptB ((hb0 _).trans (hbl.mono (by simp)))
 have ak:Below base w w1:=((hb0 _).mono aw).trans (hbl.mono (by simp;omega))
 have hs1:base≤w1.heap.size:=by have:=ak.size;omega
 obtain⟨au,aj,ac,ah,hr1⟩:=ho.rd
 rw[ah]
 have bg:=C2q num how bits l
 have HH:Hid (l.length=len):=HL
 go_wp2_with (at_builtin;refine A1s rfl _ _ rfl base _ _ (A7x num how bits l) rfl bc au aj ac rfl hr1 ?e1 hs1 ?_)
 case e1=>have:=HH.out;omega
 intro v2 w2 ba ag
 go_wp2
 go_ret
 exact⟨v2,rfl,ba,ak.trans ag⟩
end Go.Proofs.YtgaoojpakjjdnaaGreatDoor
namespace Go.Proofs.YtgaoojpakjjdnaaGreatDoor
open Go.RowKit
def Rcd.wf (r:Rcd):Prop:=-9223372036854775808≤r.num∧r.num≤9223372036854775807∧-9223372036854775808≤r.how∧r.how≤9223372036854775807∧r.bits≤18446744073709551615
def RecAt (w:World)(x:Addr)(r:Rcd):Prop:=
 ∃ ao len cap,w.cell? x=some (.int .i64 r.num)∧w.cell? (x.add 1)=some (.int .i64 r.how)∧w.cell? (x.add 2)=some (.int .u64 (r.bits:Int))∧w.cell? (x.add 3)=some (.slice ao len cap)∧RdA w ao len cap r.bytes
def RdR (w:World)(ao:Option Addr)(len cap:Nat)(rs:List Rcd):Prop:=
 rs.length=len∧len≤cap∧cap≤maxLen∧(ao=none→cap=0)∧(∀ r∈rs,r.wf)∧∀ x,ao=some x→∀ i r,rs[i]?=some r→RecAt w (x.add (i*4)) r
theorem RecAt.later {w w':World}{x:Addr}{r:Rcd}(h:RecAt w x r)(hb:Below w.heap.size w w'):RecAt w' x r:=by
 obtain⟨ao,len,cap,h1,h2,h3,h4,h5⟩:=h
 refine⟨ao,len,cap,?_,?_,?_,?_,h5.later hb⟩
 ·rw[hb.cell (World.block_lt_of_cell? w _ h1)];exact h1
 ·rw[hb.cell (World.block_lt_of_cell? w _ h2)];exact h2
 ·rw[hb.cell (World.block_lt_of_cell? w _ h3)];exact h3
 ·rw[hb.cell (World.block_lt_of_cell? w _ h4)];exact h4
theorem RdR.later {w w':World}{ao:Option Addr}{len cap:Nat}{rs:List Rcd}(h:RdR w ao len cap rs)(hb:Below w.heap.size w w'):RdR w' ao len cap rs:=
 ⟨h.1,h.2.1,h.2.2.1,h.2.2.2.1,h.2.2.2.2.1,fun x hx i r hr=>(h.2.2.2.2.2 x hx i r hr).later hb⟩
theorem RdR.at {w:World}{ao:Option Addr}{len cap:Nat}{rs:List Rcd}(h:RdR w ao len cap rs)(hp:0<len) :
  ∃ b off,ao=some ⟨b,off,none⟩∧b<w.heap.size∧∀ i r,rs[i]?=some r→∃ ao len cap,w.cell? ⟨b,off+i*4,none⟩=some (.int .i64 r.num)∧w.cell? ⟨b,off+i*4+1,none⟩=some (.int .i64 r.how)∧w.cell? ⟨b,off+i*4+2,none⟩=some (.int .u64 (r.bits:Int))∧w.cell? ⟨b,off+i*4+3,none⟩=some (.slice ao len cap)∧RdA w ao len cap r.bytes:=by
 obtain⟨h1,h2,h3,h4,h5,h6⟩:=h
 cases ao with
 | none=>have:=h4 rfl;omega
 | some x=>
  obtain⟨b,off,spot⟩:=x
  have h0:∃ r,rs[0]?=some r:=⟨rs[0]'(by omega),List.getElem?_eq_getElem (by omega)⟩
  obtain⟨r0,ac⟩:=h0
  obtain⟨_,_,_,hc,_⟩:=h6 _ rfl 0 r0 ac
  have hspot:spot=none:=by simpa [Addr.add] using World.cell?_spot hc
  subst hspot
  refine⟨b,off,rfl,?_,?_⟩
  ·have:=World.block_lt_of_cell? w _ hc
   simpa [Addr.add] using this
  ·intro i r hr
   have e:∀ b o i,(⟨b,o,none⟩:Addr).add i=⟨b,o+i,none⟩:=by intro b o i;unfold Addr.add;split <;> simp_all
   obtain⟨ao,len,cap,g1,g2,g3,g4,g5⟩:=h6 _ rfl i r hr
   simp only[e] at g1 g2 g3 g4
   exact⟨ao,len,cap,g1,g2,g3,g4,g5⟩
def A1q:Nat→List UInt8→List Rcd→List UInt8×Int×Nat
 | _,acc,[]=>(acc,0,0)
 | i,acc,r::rest=>
  if A0t r.num r.how r.bits r.bytes.length≠0 then([],A0t r.num r.how r.bits r.bytes.length,i)
  else if 4000<(acc++A7x r.num r.how r.bits r.bytes).length then([],4,i)
  else A1q (i+1) (acc++A7x r.num r.how r.bits r.bytes) rest
theorem B5o {rs:List Rcd}{k:Nat}{r:Rcd}(h:rs[k]?=some r):rs.drop k=r::rs.drop (k+1):=by
 obtain⟨h1,h2⟩:=List.getElem?_eq_some_iff.1 h
 rw[List.drop_eq_getElem_cons h1,h2]
theorem C0a {rs:List Rcd}{k:Nat}{r:Rcd}{acc:List UInt8}{E:Int}(h:rs[k]?=some r)(hE:E=A0t r.num r.how r.bits r.bytes.length)(h0:E≠0):A1q k acc (rs.drop k)=([],E,k):=by
 rw[B5o h,A1q,←hE,if_pos h0]
theorem B7n {rs:List Rcd}{k:Nat}{r:Rcd}{acc:List UInt8}(h:rs[k]?=some r)(hE:0=A0t r.num r.how r.bits r.bytes.length)(h0:4000<(acc++A7x r.num r.how r.bits r.bytes).length):A1q k acc (rs.drop k)=([],4,k):=by
 rw[B5o h,A1q,←hE,if_neg (by simp),if_pos h0]
theorem C3r {rs:List Rcd}{k:Nat}{r:Rcd}{acc:List UInt8}(h:rs[k]?=some r)(hE:0=A0t r.num r.how r.bits r.bytes.length)(h0:¬ 4000<(acc++A7x r.num r.how r.bits r.bytes).length):A1q k acc (rs.drop k)=A1q (k+1) (acc++A7x r.num r.how r.bits r.bytes) (rs.drop (k+1)):=by
 rw[B5o h,A1q,←hE,if_neg (by simp),if_neg h0]
theorem C0b {rs:List Rcd}{k:Nat}{acc:List UInt8}(h:rs.length≤k):A1q k acc (rs.drop k)=(acc,0,0):=by
 rw[List.drop_eq_nil_of_le h,A1q]
theorem B3x {h:Int}(k:¬ A2a h=false):h=0∨h=1∨h=2∨h=5:=by
 rcases Decidable.em (h=0∨h=1∨h=2∨h=5) with g|g
 ·exact g
 ·exact absurd (A5v g).symm k
theorem C3f {num how:Int}{bits len:Nat}(h:0=A0t num how bits len) :
  (how=0∨how=1∨how=2∨how=5)∧1≤num∧num<536870912∧len≤4000∧(how=5→bits<4294967296)∧(how=2→bits=0)∧(how≠2→len=0):=by
 unfold A0t at h
 split at h
 ·cases h
 ·rename_i hk
  have hh:=B3x hk
  split at h
  ·cases h
  ·split at h
   ·cases h
   ·split at h
    ·cases h
    ·split at h
     ·cases h
     ·split at h
      ·cases h
      ·refine⟨hh,by omega,by omega,by omega,by omega,by omega,by omega⟩
theorem B2i (ao:Option Addr)(len cap:Nat)(rs:List Rcd)(w:World)(hr:RdR w ao len cap rs) :
  Calls Tryz.prog 38 #[.slice ao len cap] w fun e w'=>∃ v',e = .returned (.tuple #[v',.agg #[.int .i64 (A1q 0 [] rs).2.1,.int .i64 ((A1q 0 [] rs).2.2:Int)]])∧OwnB w' w.heap.size v' (A1q 0 [] rs).1∧Below w.heap.size w w':=by
 have dg:len≤9223372036854775807:=by have:=hr.2.1;have:=hr.2.2.1;unfold maxLen at this;omega
 have Hl:Hid (rs.length=len):=hr.1
 obtain⟨RR,bp⟩:∃ RR,Hid (RR=A1q 0 [] rs):=⟨_,rfl⟩
 rw[←bp.out]
 have H0:Hid (RR=A1q 0 [] (rs.drop 0)):=by show _=_;rw[List.drop_zero];exact bp.out
 clear bp
 by_cases hp:0<len
 ·obtain⟨b,off,rfl,bh,hcell⟩:=hr.at hp
  go_enter Tryz.func38,Tryz.ntmps38
  go_wp2
  go_loopw [4,10] (fun v i wr=>∃ (k:Nat) (acc:List UInt8),k≤len∧i = .int .i64 k∧acc.length≤4000∧OwnB wr (w.heap.size+1) v acc∧Below (w.heap.size+1) (w.alloc (.cells #[.int .i64 0,.int .i64 0] 50)) wr∧Hid (RR=A1q k acc (rs.drop k)))
   (fun _ i _=>len-(intOf i).toNat)
  case atStart=>exact⟨0,[],Nat.zero_le _,rfl,by simp,OwnB.nil _ _,Below.refl _ _,H0⟩
  case round=>
   obtain⟨k,acc,hk,rfl,cu,hown,ak,HR⟩:=hrel
   by_cases hlt:k<len
   ·have cw:k<rs.length:=by rw[Hl.out];exact hlt
    obtain⟨r,Hr⟩:∃ r,Hid (rs[k]?=some r):=⟨rs[k],List.getElem?_eq_getElem cw⟩
    obtain⟨bc,ac,ah,c0,c1,c2,c3,bk⟩:=hcell k r Hr.out
    have ag:Below w.heap.size w wr:=((Below.refl _ _).alloc (Nat.le_refl _) _).trans (ak.mono (by omega))
    have e0:=(ag.cell (p:=⟨b,off+k*4,none⟩) bh).trans c0
    have e1:=(ag.cell (p:=⟨b,off+k*4+1,none⟩) bh).trans c1
    have e2:=(ag.cell (p:=⟨b,off+k*4+2,none⟩) bh).trans c2
    have e3:=(ag.cell (p:=⟨b,off+k*4+3,none⟩) bh).trans c3
    clear c0 c1 c2 c3 hcell
    have bn:Hid (r.bytes.length=ac):=bk.1
    obtain⟨E,HE⟩:∃ E,Hid (E=A0t r.num r.how r.bits ac):=⟨_,rfl⟩
    have df:ac≤9223372036854775807:=by have:=bk.2.1;have:=bk.2.2.1;unfold maxLen at this;omega
    have hsz:w.heap.size+1≤wr.heap.size:=by have:=ak.size;simpa using this
    go_wp2_with fail
    refine(D0u r.num r.how r.bits bc ac ah _ df).mono ?_
    rintro e w1 ⟨rfl,hb1⟩
    rw[←HE.out]
    obtain⟨d0,d1,d2,d3⟩:=B7p wr (.int .i64 r.num) (.int .i64 r.how) (.int .u64 (r.bits:Int)) (.slice bc ac ah) 106
    have f0:=(hb1.cell (p:=⟨wr.heap.size,0,none⟩) (by simp)).trans d0
    have f1:=(hb1.cell (p:=⟨wr.heap.size,1,none⟩) (by simp)).trans d1
    have f2:=(hb1.cell (p:=⟨wr.heap.size,2,none⟩) (by simp)).trans d2
    have f3:=(hb1.cell (p:=⟨wr.heap.size,3,none⟩) (by simp)).trans d3
    clear d0 d1 d2 d3 e0 e1 e2 e3
    have bg:Below wr.heap.size wr w1:=((Below.refl _ _).alloc (Nat.le_refl _) _).trans (hb1.mono (by simp))
    have au:Below (w.heap.size+1) (w.alloc (.cells #[.int .i64 0,.int .i64 0] 50)) w1:=ak.trans (bg.mono hsz)
    have g0:w1.cell? ⟨w.heap.size,0,none⟩=some (.int .i64 0):=(au.cell (p:=⟨w.heap.size,0,none⟩) (by simp)).trans (by simp)
    have g1:w1.cell? ⟨w.heap.size,1,none⟩=some (.int .i64 0):=(au.cell (p:=⟨w.heap.size,1,none⟩) (by simp)).trans (by simp)
    have g2:w1.frozen? ⟨w.heap.size,0,none⟩=false:=(au.frozen (p:=⟨w.heap.size,0,none⟩) (by simp)).trans (by simp)
    have g3:w1.frozen? ⟨w.heap.size,1,none⟩=false:=(au.frozen (p:=⟨w.heap.size,1,none⟩) (by simp)).trans (by simp)
    clear hb1
    by_cases h0:E=0
    ·have bu:Hid (0=A0t r.num r.how r.bits ac):=by show _=_;rw[←h0];exact HE.out
     have bv:Hid (0=A0t r.num r.how r.bits r.bytes.length):=by show _=_;rw[bn.out];exact bu.out
     have cj:(E != 0)=false:=by simp[h0]
     clear h0 HE
     obtain⟨q1,q2,q3,q4,_,_,_⟩:=C3f bu.out
     have qb:r.bits≤18446744073709551615:=(hr.2.2.2.2.1 r (List.mem_of_getElem? Hr.out)).2.2.2.2
     have bt:RdA w1 bc ac ah r.bytes:=bk.later (ag.trans (bg.mono (by omega)))
     have hs1:w.heap.size+1≤w1.heap.size:=by have:=bg.size;omega
     go_wp2_with fail
     refine(D5k (w.heap.size+1) _ acc r.num r.how r.bits bc ac ah r.bytes w1 (hown.keptB bg) hs1 qb bt q4 (by omega) (by omega) (by omega) (by omega) (by omega)).mono ?_
     rintro e w2 ⟨v2,rfl,br,hb2⟩
     have aw:=au.trans hb2
     clear g0 g1 g2 g3 f0 f1 f2 f3
     have g0:w2.cell? ⟨w.heap.size,0,none⟩=some (.int .i64 0):=(aw.cell (p:=⟨w.heap.size,0,none⟩) (by simp)).trans (by simp)
     have g1:w2.cell? ⟨w.heap.size,1,none⟩=some (.int .i64 0):=(aw.cell (p:=⟨w.heap.size,1,none⟩) (by simp)).trans (by simp)
     have g2:w2.frozen? ⟨w.heap.size,0,none⟩=false:=(aw.frozen (p:=⟨w.heap.size,0,none⟩) (by simp)).trans (by simp)
     have g3:w2.frozen? ⟨w.heap.size,1,none⟩=false:=(aw.frozen (p:=⟨w.heap.size,1,none⟩) (by simp)).trans (by simp)
     obtain⟨cg,aj,bq,hv2,hr2⟩:=br.rd
     have HV:Hid (v2 = .slice cg aj bq):=hv2
     rw[hv2]
     rw[hv2] at br
     have ba:Hid ((acc++A7x r.num r.how r.bits r.bytes).length=aj):=hr2.1
     have hl2:aj≤8100:=by rw[←ba.out,List.length_append];have:=C2q r.num r.how r.bits r.bytes;have:=bn.out;omega
     clear hv2
     by_cases hm:4000<aj
     ·go_wp2
      have e1:=B7n (acc:=acc) Hr.out bv.out (by rw[ba.out];exact hm)
      refine bodyPost_ret (v:=.tuple #[.slice none 0 0,.agg #[.int .i64 4,.int .i64 (k:Int)]]) (by simp[results,Tryz.results38,go_sem,g0,g1]) rfl ⟨.slice none 0 0,?_,?_,?_⟩
      ·rw[HR.out,e1]
      ·rw[HR.out,e1];exact OwnB.nil _ _
      ·exact((((Below.refl _ _).alloc (Nat.le_refl _) _).trans (aw.mono (by omega))).setCell (Nat.le_refl _) _).setCell (Nat.le_refl _) _
     ·go_wp2
      go_roundw
      case rel=>
       refine⟨k+1,acc++A7x r.num r.how r.bits r.bytes,by omega,by go_num,by rw[ba.out];omega,br,aw,?_⟩
       exact HR.out.trans (C3r Hr.out bv.out (by rw[ba.out];exact hm))
      case measure=>simp[intOf];omega
    ·have cj:(E != 0)=true:=by simp[h0]
     have bw:Hid (E≠0):=h0
     clear h0
     go_wp2
     have e1:=C0a (acc:=acc) Hr.out (HE.out.trans (by rw[bn.out])) bw.out
     refine bodyPost_ret (v:=.tuple #[.slice none 0 0,.agg #[.int .i64 E,.int .i64 (k:Int)]]) (by simp[results,Tryz.results38,go_sem,g0,g1]) rfl ⟨.slice none 0 0,?_,?_,?_⟩
     ·rw[HR.out,e1]
     ·rw[HR.out,e1];exact OwnB.nil _ _
     ·exact((((Below.refl _ _).alloc (Nat.le_refl _) _).trans (au.mono (by omega))).setCell (Nat.le_refl _) _).setCell (Nat.le_refl _) _
   ·have g0:wr.cell? ⟨w.heap.size,0,none⟩=some (.int .i64 0):=(ak.cell (p:=⟨w.heap.size,0,none⟩) (by simp)).trans (by simp)
    have g1:wr.cell? ⟨w.heap.size,1,none⟩=some (.int .i64 0):=(ak.cell (p:=⟨w.heap.size,1,none⟩) (by simp)).trans (by simp)
    have g2:wr.frozen? ⟨w.heap.size,0,none⟩=false:=(ak.frozen (p:=⟨w.heap.size,0,none⟩) (by simp)).trans (by simp)
    have g3:wr.frozen? ⟨w.heap.size,1,none⟩=false:=(ak.frozen (p:=⟨w.heap.size,1,none⟩) (by simp)).trans (by simp)
    go_wp2
    have e1:=C0b (rs:=rs) (k:=k) (acc:=acc) (by rw[Hl.out];omega)
    refine bodyPost_ret (v:=.tuple #[u4,.agg #[.int .i64 0,.int .i64 0]]) (by simp[results,Tryz.results38,go_sem,g0,g1]) rfl ⟨u4,?_,?_,?_⟩
    ·rw[HR.out,e1];rfl
    ·rw[HR.out,e1]
     exact OwnB.mono (base:=w.heap.size+1) (ownsRow_setCell_below (ownsRow_setCell_below hown (by simp) _) (by simp) _) (by omega)
    ·exact((((Below.refl _ _).alloc (Nat.le_refl _) _).trans (ak.mono (by omega))).setCell (Nat.le_refl _) _).setCell (Nat.le_refl _) _
 ·have h0:len=0:=by omega
  subst h0
  have hn:rs = []:=List.eq_nil_of_length_eq_zero Hl.out
  have HR:Hid (RR=([],0,0)):=by show _=_;rw[H0.out,hn];rfl
  clear hr H0 Hl hn
  go_enter Tryz.func38,Tryz.ntmps38
  go_wp2
  refine wp_loop_rounds 1 ?_
  rw[rounds_succ]
  go_wp2
  refine bodyPost_ret (v:=.tuple #[.slice none 0 0,.agg #[.int .i64 0,.int .i64 0]]) (by simp[results,Tryz.results38,go_sem]) rfl ⟨.slice none 0 0,?_,?_,?_⟩
  ·rw[HR.out];rfl
  ·rw[HR.out];exact OwnB.nil _ _
  ·exact(Below.refl _ _).alloc (Nat.le_refl _) _
end Go.Proofs.YtgaoojpakjjdnaaGreatDoor
