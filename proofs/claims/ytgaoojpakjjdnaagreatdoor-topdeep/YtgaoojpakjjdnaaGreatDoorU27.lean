import Derived.Laws.BitsAllLaws
import Derived.Laws.BitsLemmas
import Derived.Test.YtgaoojpakjjdnaaGreatDoorU11
import Derived.Test.YtgaoojpakjjdnaaGreatDoorU12
import Derived.Test.YtgaoojpakjjdnaaGreatDoorU21
import Derived.Test.YtgaoojpakjjdnaaGreatDoorProg
import Derived.RowKit
import Derived.WalkKit
import Derived.WalkSpells
import Derived.WalkLawsBesides
set_option maxHeartbeats 32000000
set_option maxRecDepth 100000
namespace Go.Proofs.YtgaoojpakjjdnaaGreatDoor
theorem B0f (n:Int) (h₀:0≤n) (h₁:n < 2 ^ 64):IntKind.u64.wrap n=n:=by rw[IntKind.wrap_u64];omega
theorem C8o (a:Nat) (ha:a < 9223372036854775808):bits .xor .i64 (-1) (a:Int) = -1 - (a:Int):=by
 have e:(BitVec.ofInt 64 (-1) ^^^ BitVec.ofInt 64 (a:Int)).toNat=18446744073709551615 - a:=by
  rw[show BitVec.ofInt 64 (-1)=BitVec.allOnes 64 by decide,BitVec.ofInt_natCast,BitVec.allOnes_xor,BitVec.toNat_not,BitVec.toNat_ofNat,Nat.mod_eq_of_lt (by omega)]
 refine(congrArg (fun n:Nat=>IntKind.i64.wrap (n:Int)) e).trans ?_
 rw[IntKind.wrap_i64]
 omega
def B6t:Nat→Nat→List UInt8
 | 0,_=>[]
 | f+1,n=>if n < 128 then [UInt8.ofNat n] else UInt8.ofNat (n%128+128)::B6t f (n / 128)
def A9v (n:Nat):List UInt8:=B6t 10 n
def A4f:Nat→Nat→List UInt8→Nat×Nat×Nat
 | _,_,[]=>(0,0,2)
 | i,acc,x::r=>
  if i=9∧1 < x.toNat then(0,0,3)
  else if x.toNat < 128 then(acc+x.toNat%128*2 ^ (7*i),i+1,0)
  else A4f (i+1) (acc+x.toNat%128*2 ^ (7*i)) r
def B0q (n:Int):Int:=if n%2=1 then -(n / 2) - 1 else n / 2
def A9i (n:Int):Int:=if n < 0 then -2*n - 1 else 2*n
theorem C2c {n:Int}(h:n%2=1):B0q n = -(n / 2) - 1:=by unfold B0q;rw[if_pos h]
theorem B8z {n:Int}(h:n%2≠1):B0q n=n / 2:=by unfold B0q;rw[if_neg h]
theorem C1b {n:Int}(h:n < 0):A9i n = -2*n - 1:=by unfold A9i;rw[if_pos h]
theorem C1c {n:Int}(h:0≤n):A9i n=2*n:=by unfold A9i;rw[if_neg (by omega)]
theorem C1d (s:Int) (h0 : -9223372036854775808≤s) (h1:s≤9223372036854775807):0≤A9i s∧A9i s≤18446744073709551615:=by
 unfold A9i;split <;> omega
theorem B2h (n:Int) (h0:0≤n) (h1:n≤18446744073709551615) (h:(bits BinOp.and IntKind.u64 n 1 == 1)=true) :
  bits BinOp.xor IntKind.i64 (-1) (n / 2)=B0q n:=by
 obtain⟨a,rfl⟩:=Int.eq_ofNat_of_zero_le h0
 have e1:=(bits_nat .u64 64 (by decide) B0f a 1 (by omega) (by decide)).1
 rw[show((1:Nat):Int)=1 from rfl] at e1
 rw[e1,Nat.and_one_is_mod] at h
 have h2:(a:Int)%2=1:=by have:=beq_iff_eq.1 h;omega
 rw[C2c h2,show((a:Int) / 2)=((a / 2:Nat):Int) by omega,C8o _ (by omega)]
 omega
theorem B0r (n:Int) (h0:0≤n) (h1:n≤18446744073709551615) (h:(bits BinOp.and IntKind.u64 n 1 == 1)=false) :
  n / 2=B0q n:=by
 obtain⟨a,rfl⟩:=Int.eq_ofNat_of_zero_le h0
 have e1:=(bits_nat .u64 64 (by decide) B0f a 1 (by omega) (by decide)).1
 rw[show((1:Nat):Int)=1 from rfl] at e1
 rw[e1,Nat.and_one_is_mod] at h
 have h2:(a:Int)%2≠1:=by have:=beq_eq_false_iff_ne.1 h;omega
 rw[B8z h2]
theorem B5i (n:Int) (h0 : -9223372036854775808≤n) (h1:n < 0):bits BinOp.xor IntKind.i64 (-1) n = -1 - n:=by
 obtain⟨a,ha⟩:=Int.eq_ofNat_of_zero_le (show 0≤-1 - n by omega)
 have h2:BitVec.ofInt 64 n = ~~~ (BitVec.ofNat 64 a):=by
  apply BitVec.eq_of_toNat_eq
  rw[BitVec.toNat_not,BitVec.toNat_ofInt,BitVec.toNat_ofNat]
  have:n = -1 - (a:Int):=by omega
  subst this
  omega
 show IntKind.i64.wrap ((BitVec.ofInt 64 (-1) ^^^ BitVec.ofInt 64 n).toNat:Int)=_
 have h3:BitVec.ofInt 64 (-1)=BitVec.allOnes 64:=by decide
 rw[h3,h2,BitVec.allOnes_xor,BitVec.not_not,BitVec.toNat_ofNat]
 rw[show a%2 ^ 64=a from Nat.mod_eq_of_lt (by omega),IntKind.wrap_i64]
 omega
theorem B1v (n:Int) (h0 : -9223372036854775808≤n) (h1:n < 0) :
  bits BinOp.or IntKind.u64 (IntKind.u64.wrap (IntKind.u64.wrap (bits BinOp.xor IntKind.i64 (-1) n)*2)) 1=A9i n:=by
 rw[B5i n h0 h1,C1b h1]
 obtain⟨a,ha⟩:=Int.eq_ofNat_of_zero_le (show 0≤-1 - n by omega)
 rw[ha,IntKind.wrap_u64,IntKind.wrap_u64]
 rw[show((a:Int)%18446744073709551616*2%18446744073709551616)=((2*a:Nat):Int) by omega]
 have:=bits_join .u64 64 (by decide) B0f 1 ((2*a:Nat):Int) 1 (by omega) (by omega) (by omega) (by omega) (by omega) (by omega)
 rw[this]
 omega
theorem C0f (x:Int) (h₀:0≤x) (h₁:x < 256):bits .andNot .u8 x 128=x%128:=by
 have e:bits .andNot .u8 x 128=bits .and .u8 x 127:=by
  show IntKind.u8.wrap ((BitVec.ofInt 8 x&&& ~~~ BitVec.ofInt 8 128).toNat:Int)=IntKind.u8.wrap ((BitVec.ofInt 8 x&&& BitVec.ofInt 8 127).toNat:Int)
  rw[show ~~~ BitVec.ofInt 8 128=BitVec.ofInt 8 127 by decide]
 rw[e]
 exact bits_mask .u8 8 (by decide) wraps_u8 7 (by decide) x h₀ h₁
theorem C7k (i a b:Nat) (ha:a < 2 ^ i) (ha':a < 2 ^ 64) (hb:b%2 ^ i=0) (hb':b < 2 ^ 64):bits .or .u64 (a:Int) (b:Int)=((a+b:Nat):Int):=by
 rw[(bits_nat .u64 64 (by decide) B0f a b ha' hb').2,Nat.or_comm]
 have hq:b=2 ^ i*(b / 2 ^ i):=by have:=Nat.div_add_mod b (2 ^ i);omega
 rw[hq,←Nat.two_pow_add_eq_or_of_lt ha (b / 2 ^ i),←hq,Nat.add_comm]
theorem D1t {k:Nat}(h:k≤8):2 ^ (7*k)≤72057594037927936:=by
 have:=Nat.pow_le_pow_right (show 0 < 2 by decide) (show 7*k≤56 by omega)
 exact this
theorem C2v {k acc X:Nat}(ac:acc < 2 ^ (7*k)):acc+X%128*2 ^ (7*k) < 2 ^ (7*(k+1)):=by
 have e:2 ^ (7*(k+1))=128*2 ^ (7*k):=by rw[show 7*(k+1)=7+7*k by omega,Nat.pow_add]
 have h:X%128*2 ^ (7*k)≤127*2 ^ (7*k):=Nat.mul_le_mul_right _ (by omega)
 omega
theorem B5t {k acc X:Nat}(hk:k≤9) (ac:acc < 2 ^ (7*k)) (hX:X < 256) (h9:k=9→X≤1) :
  bits BinOp.or IntKind.u64 (acc:Int) (IntKind.u64.wrap (IntKind.u64.wrap (bits BinOp.andNot IntKind.u8 (X:Int) 128)*2 ^ (7*k)))=((acc+X%128*2 ^ (7*k):Nat):Int):=by
 have hb:X%128*2 ^ (7*k) < 2 ^ 64:=by
  by_cases h:k≤8
  ·have h1:=D1t h
   have h2:X%128*2 ^ (7*k)≤127*2 ^ (7*k):=Nat.mul_le_mul_right _ (by omega)
   omega
  ·have ag:k=9:=by omega
   subst ag
   have:=h9 rfl
   rw[show 2 ^ (7*9)=9223372036854775808 from rfl]
   omega
 have ha:acc < 2 ^ 64:=by
  have:=Nat.pow_le_pow_right (show 0 < 2 by decide) (show 7*k≤64 by omega)
  omega
 rw[C0f _ (by omega) (by omega),B0f ((X:Int)%128) (by omega) (by omega)]
 have e:((X:Int)%128*2 ^ (7*k))=((X%128*2 ^ (7*k):Nat):Int):=by simp
 rw[e,B0f _ (by omega) (by exact_mod_cast hb)]
 exact C7k (7*k) acc _ ac ha (Nat.mul_mod_left _ _) hb
theorem B6w (m:Nat):bits BinOp.or IntKind.u8 (IntKind.u8.wrap (m:Int)) 128=((UInt8.ofNat (m%128+128)).toNat:Int):=by
 rw[IntKind.wrap_u8]
 have e:((m:Int)%256)=((m%256:Nat):Int):=by omega
 rw[e]
 have h:=(bits_nat .u8 8 (by decide) wraps_u8 (m%256) 128 (by omega) (by decide)).2
 rw[show((128:Nat):Int)=128 from rfl] at h
 rw[h]
 have g:∀ x:Nat,x < 256→(x||| 128)=x%128+128:=by decide +kernel
 rw[g _ (by omega),UInt8.toNat_ofNat']
 omega
theorem C2g {f m:Nat}(h:¬ m < 128):B6t (f+1) m=UInt8.ofNat (m%128+128)::B6t f (m / 128):=by rw[B6t,if_neg h]
theorem B6u {f m:Nat}(h:m < 128):B6t (f+1) m = [UInt8.ofNat m]:=by rw[B6t,if_pos h]
theorem B6v (f m:Nat):(B6t f m).length≤f:=by
 induction f generalizing m with
 | zero=>simp[B6t]
 | succ f ih=>
  rw[B6t]
  split
  ·simp
  ·have:=ih (m / 128)
   simp
   omega
theorem B5d {l:List UInt8}{k X:Nat}(hk:k < l.length) (hX:X=(l.getD k 0).toNat):∃ c:UInt8,l.drop k=c::l.drop (k+1)∧c.toNat=X:=by
 refine⟨l[k],List.drop_eq_getElem_cons hk,?_⟩
 rw[hX,List.getD_eq_getElem?_getD,List.getElem?_eq_getElem hk]
 rfl
theorem C5a {l:List UInt8}{k acc X:Nat}(hk:k < l.length) (hX:X=(l.getD k 0).toNat) (h9:k=9) (h1:1 < X):A4f k acc (l.drop k)=(0,0,3):=by
 obtain⟨c,e,hc⟩:=B5d hk hX
 rw[e,A4f,if_pos ⟨h9,by omega⟩]
theorem B6g {l:List UInt8}{k acc X:Nat}(hk:k < l.length) (hX:X=(l.getD k 0).toNat) (h9:k=9→X≤1) (h1:X < 128) :
  A4f k acc (l.drop k)=(acc+X%128*2 ^ (7*k),k+1,0):=by
 obtain⟨c,e,hc⟩:=B5d hk hX
 rw[e,A4f,if_neg (by rintro⟨a,b⟩;have:=h9 a;omega),if_pos (by omega),hc]
theorem C8d {l:List UInt8}{k acc X:Nat}(hk:k < l.length) (hX:X=(l.getD k 0).toNat) (h9:k≠9) (h1:¬ X < 128) :
  A4f k acc (l.drop k)=A4f (k+1) (acc+X%128*2 ^ (7*k)) (l.drop (k+1)):=by
 obtain⟨c,e,hc⟩:=B5d hk hX
 rw[e,A4f,if_neg (by rintro⟨a,b⟩;exact h9 a),if_neg (by omega),hc]
theorem C5b {l:List UInt8}{k acc:Nat}(hk:l.length≤k):A4f k acc (l.drop k)=(0,0,2):=by
 rw[List.drop_eq_nil_of_le hk,A4f]
end Go.Proofs.YtgaoojpakjjdnaaGreatDoor
namespace Go.Proofs.YtgaoojpakjjdnaaGreatDoor
namespace L
open Go.RowKit
theorem B6l {k:IntKind}{a b:Int}(h:a=b):Ending.returned (.int k a) = .returned (.int k b):=by rw[h]
theorem A9j (w:World) (c:UInt8) (x:Int) (hx:x=(c.toNat:Int)):∀ ad,some (⟨w.heap.size,0,none⟩:Addr)=some ad→∀ k y,[c][k]?=some y→∀ j u,(ekY.enc y)[j]?=some u→(w.alloc (.cells #[.int .u8 x] 5)).cell? (ad.add (k*ekY.size+j))=some u:=by
 subst hx
 exact A8t ekY w c
theorem C8i {f m:Nat}(hf:m < 2 ^ (7*f)) (hs:¬ m < 128):2≤f:=by
 rcases Nat.lt_or_ge f 2 with h|h
 ·have h1:2 ^ (7*f)≤2 ^ 7:=Nat.pow_le_pow_right (by decide) (by omega)
  have h2:(2:Nat) ^ 7=128:=rfl
  omega
 ·exact h
theorem C1p {f m:Nat}(hf:m < 2 ^ (7*(f+1))):m / 128 < 2 ^ (7*f):=by
 rw[show 7*(f+1)=7*f+7 by omega,Nat.pow_add] at hf
 have h2:(2:Nat) ^ 7=128:=rfl
 rw[h2] at hf
 omega
theorem B2b {w:World}{base:Nat}{v:Value}{l:List UInt8}(h:Row ekY w base v l) (o:Obj):Row ekY (w.alloc o) base v l:=h.below ((Below.refl _ _).alloc (Nat.le_refl _) _)
theorem B2c (base:Nat) (v:Value) (l:List UInt8) (n:Nat) (w:World) (hv:Row ekY w base v l) (hb:base≤w.heap.size) (hn:n≤18446744073709551615) (hl:l.length≤10000000000000) :
  Calls Tryz.prog 208 #[v,.int .u64 (n:Int)] w fun e w'=>∃ v',e = .returned v'∧Row ekY w' base v' (l++A9v n)∧Below base w w':=by
 have H0:Hid (l++B6t 10 n=l++A9v n):=rfl
 go_enter Tryz.func208,Tryz.ntmps208
 go_wp2
 go_loopw [0,1] (fun u i wr=>∃ (f m:Nat) (l':List UInt8),i = .int .u64 (m:Int)∧m≤18446744073709551615∧Hid (m < 2 ^ (7*(f+1)))∧f≤9∧l'.length+f≤l.length+10∧Row ekY wr base u l'∧Below base w wr∧base≤wr.heap.size∧Hid (l'++B6t (f+1) m=l++A9v n))
  (fun _ i _=>(intOf i).toNat)
 case atStart=>exact⟨9,n,l,rfl,hn,by show n < 2 ^ (7*10);omega,Nat.le_refl _,by omega,hv,Below.refl _ _,hb,H0⟩
 case round=>
  obtain⟨f,m,l',rfl,hm,hf,ak,hlen,hown,aj,ah,HR⟩:=hrel
  have ag:∀ k,u0.ownBlock=some k→base≤k:=fun k hk=>(hown.own k hk).1
  by_cases hs:m < 128
  ·go_wp2_with (at_builtin;refine A1n (by rfl) ekY _ _ (by rfl) base _ l' [UInt8.ofNat m] (by rfl) (B2b hown _) (some ⟨wr.heap.size,0,none⟩) 1 1 (by rfl) (by rfl) (by intro e;cases e) ?c1 (by decide) ?c2 ?c3 ?_)
   case c1=>
    refine A9j wr _ _ ?_
    simp
    omega
   case c2=>simp[ekY];omega
   case c3=>simp;omega
   intro v' w1 h1 h2
   go_wp2
   go_ret
   refine⟨v',rfl,?_,(aj.alloc ah _).grown h2 (by simp;omega) ag⟩
   rw[←HR.out,B6u hs]
   exact h1
  ·obtain⟨c,Hc⟩:∃ c,Hid (c=UInt8.ofNat (m%128+128)):=⟨_,rfl⟩
   go_wp2_with (at_builtin;refine A1n (by rfl) ekY _ _ (by rfl) base _ l' [c] (by rfl) (B2b hown _) (some ⟨wr.heap.size,0,none⟩) 1 1 (by rfl) (by rfl) (by intro e;cases e) ?d1 (by decide) ?d2 ?d3 ?_)
   case d1=>
    refine A9j wr _ _ ?_
    rw[Hc.out,←B6w,IntKind.wrap_u8]
   case d2=>simp[ekY];omega
   case d3=>simp;omega
   intro v' w1 h1 h2
   have ac:Below base w w1:=(aj.alloc ah _).grown h2 (by simp;omega) ag
   go_wp2
   go_roundw
   case rel=>
    have hf2:=C8i hf.out hs
    obtain⟨g,rfl⟩:∃ g,f=g+1:=⟨f - 1,by omega⟩
    refine⟨g,m / 128,l'++[c],by go_num,by omega,C1p hf.out,by omega,by simp;omega,h1,ac,Nat.le_trans hb ac.size,?_⟩
    show _=_
    rw[←HR.out,C2g hs,List.append_assoc,Hc.out]
    rfl
   case measure=>simp[intOf];omega
open Go.RowKit
def A9n (h:Int):Nat:=if h=1 then 8 else if h=5 then 4 else 0
theorem B8t (h:Int) (w:World) :
  Calls Tryz.prog 209 #[.int .i64 h] w fun e w'=>e = .returned (.int .i64 (A9n h))∧w=w':=by
 by_cases k:h=1∨h=5
 ·rcases k with rfl|rfl
  all_goals
   go_enter Tryz.func209,Tryz.ntmps209
   go_wp2
   go_ret
   exact⟨rfl,rfl⟩
 ·have e:A9n h=0:=by unfold A9n;rw[if_neg (by omega),if_neg (by omega)]
  rw[e]
  have b1:(h == 1)=false:=beq_eq_false_iff_ne.2 (by omega)
  have b5:(h == 5)=false:=beq_eq_false_iff_ne.2 (by omega)
  clear e
  go_enter Tryz.func209,Tryz.ntmps209
  go_wp2
  go_ret
  exact⟨rfl,rfl⟩
theorem C1o (n:Int) (w:World) (hl : -9223372036854775808≤n) (hu:n≤9223372036854775807) :
  Calls Tryz.prog 206 #[.int .i64 n] w fun e w'=>e = .returned (.int .u64 (A9i n))∧w=w':=by
 go_enter Tryz.func206,Tryz.ntmps206
 go_wp2
 ·go_ret
  exact⟨B6l (B1v n hl ‹_›),rfl⟩
 ·go_ret
  exact⟨B6l (by rw[C1c ‹_›];omega),rfl⟩
def C7i:Nat→Nat→List UInt8
 | 0,_=>[]
 | k+1,n=>UInt8.ofNat n::C7i k (n / 256)
theorem C5i (k n:Nat):(C7i k n).length=k:=by
 induction k generalizing n with
 | zero=>rfl
 | succ k ih=>rw[C7i,List.length_cons,ih]
def C1q (num how:Int):List UInt8:=A9v (num.toNat*8+how.toNat)
def A7y (how:Int) (n:Nat):List UInt8:=if how=0 then A9v n else C7i (A9n how) n
theorem A7b (n:Nat):(A9v n).length≤10:=B6v 10 n
theorem A9l (how:Int) (n:Nat):(A7y how n).length≤10:=by
 unfold A7y
 split
 ·exact A7b n
 ·rw[C5i];unfold A9n;split
  ·omega
  ·split <;> omega
theorem C5j (base:Nat) (v:Value) (l:List UInt8) (num how:Int) (w:World) (hv:Row ekY w base v l) (hb:base≤w.heap.size) (h1:0≤num) (h2:num≤536870912) (h3:0≤how) (h4:how≤7) (hl:l.length≤10000000000000) :
  Calls Tryz.prog 210 #[v,.int .i64 num,.int .i64 how] w fun e w'=>∃ v',e = .returned v'∧Row ekY w' base v' (l++C1q num how)∧Below base w w':=by
 go_enter Tryz.func210,Tryz.ntmps210
 go_wp2_with fail
 rw[show num*8+how=((num.toNat*8+how.toNat:Nat):Int) by omega]
 refine(B2c base v l _ _ hv hb (by omega) hl).mono ?_
 rintro e w1 ⟨v1,rfl,ho,hbl⟩
 go_wp2
 go_ret
 exact⟨v1,rfl,ho,hbl⟩
theorem A8i (base:Nat) (v:Value) (l:List UInt8) (how:Int) (n:Nat) (w:World) (hv:Row ekY w base v l) (hb:base≤w.heap.size) (hn:n≤18446744073709551615) (hl:l.length≤10000000000000) :
  Calls Tryz.prog 151 #[v,.int .i64 how,.int .u64 (n:Int)] w fun e w'=>∃ v',e = .returned v'∧Row ekY w' base v' (l++A7y how n)∧Below base w w':=by
 by_cases h0:how=0
 ·unfold A7y
  rw[if_pos h0]
  subst h0
  go_enter Tryz.func151,Tryz.ntmps151
  go_wp2_with (go_at_call 208;refine(B2c base v l n _ hv hb hn (by omega)).mono ?_;rintro e w1 ⟨v1,rfl,ho,hbl⟩)
  go_ret
  exact⟨v1,rfl,ho,hbl⟩
 ·unfold A7y
  rw[if_neg h0]
  have b0:(how == 0)=false:=beq_eq_false_iff_ne.2 h0
  obtain⟨W,HW⟩:∃ W,Hid (W=A9n how):=⟨_,rfl⟩
  have ak:W≤8:=by rw[HW.out];unfold A9n;split <;> (try split) <;> omega
  clear h0
  rw[←HW.out]
  go_enter Tryz.func151,Tryz.ntmps151
  go_wp2_with (go_at_call 209;refine(B8t how _).mono ?_;rintro e w1 ⟨rfl,rfl⟩;rw[←HW.out])
  go_loopw [0,2,14] (fun u n' i wr=>∃ (k m:Nat) (l':List UInt8),i = .int .i64 (k:Int)∧k≤W∧n' = .int .u64 (m:Int)∧m≤18446744073709551615∧l'.length=l.length+k∧Row ekY wr base u l'∧Below base w wr∧base≤wr.heap.size∧Hid (l'++C7i (W - k) m=l++C7i W n))
   (fun _ _ i _=>W - (intOf i).toNat)
  case atStart=>exact⟨0,n,l,rfl,by omega,rfl,hn,rfl,hv,Below.refl _ _,hb,rfl⟩
  case round=>
   obtain⟨k,m,l',rfl,hk,rfl,hm,hlen,hown,ag,aj,HR⟩:=hrel
   have ah:∀ k,u0.ownBlock=some k→base≤k:=fun k hk=>(hown.own k hk).1
   by_cases hlt:k < W
   ·obtain⟨c,Hc⟩:∃ c,Hid (c=UInt8.ofNat m):=⟨_,rfl⟩
    go_wp2_with (at_builtin;refine A1n (by rfl) ekY _ _ (by rfl) base _ l' [c] (by rfl) (B2b hown _) (some ⟨wr.heap.size,0,none⟩) 1 1 (by rfl) (by rfl) (by intro e;cases e) ?d1 (by decide) ?d2 ?d3 ?_)
    case d1=>
     refine A9j wr _ _ ?_
     rw[Hc.out,UInt8.toNat_ofNat']
     simp
    case d2=>simp[ekY];omega
    case d3=>simp;omega
    intro v' w2 h1 h2
    have ac:Below base w w2:=(ag.alloc aj _).grown h2 (by simp;omega) ah
    go_wp2
    go_roundw
    case rel=>
     refine⟨k+1,m / 256,l'++[c],by go_num,by omega,by go_num,by omega,by simp;omega,h1,ac,Nat.le_trans hb ac.size,?_⟩
     show _=_
     rw[←HR.out,show W - k=W - (k+1)+1 by omega,C7i,List.append_assoc,Hc.out]
     rfl
    case measure=>simp[intOf];omega
   ·go_wp2
    go_ret
    refine⟨_,rfl,?_,ag⟩
    rw[←HR.out,show W - k=0 by omega,C7i,List.append_nil]
    exact hown
def B3k (how:Int):Bool:=A1q how&&decide (how≠2)
theorem B6k (h:Int) (w:World):Calls Tryz.prog 150 #[.int .i64 h] w fun e w'=>e = .returned (.bool (B3k h))∧w=w':=by
 have hi:=A0h h w
 cases hq:A1q h with
 | false=>
  have HN:Hid (B3k h=false):=by show _=_;unfold B3k;rw[hq];rfl
  rw[hq] at hi
  clear hq
  go_enter Tryz.func150,Tryz.ntmps150
  go_wp2_with fail
  refine hi.mono ?_
  rintro e w1 ⟨rfl,rfl⟩
  go_wp2
  go_ret
  exact⟨by rw[HN.out];rfl,rfl⟩
 | true=>
  obtain⟨q,ac⟩:∃ q,(h != 2)=q:=⟨_,rfl⟩
  have HN:Hid (B3k h=q):=by show _=_;unfold B3k;rw[hq,←ac,Bool.eq_iff_iff];simp
  rw[hq] at hi
  clear hq
  cases q
  all_goals
   go_enter Tryz.func150,Tryz.ntmps150
   go_wp2_with fail
   refine hi.mono ?_
   rintro e w1 ⟨rfl,rfl⟩
   go_wp2
   go_ret
   exact⟨by rw[HN.out];rfl,rfl⟩
open Go.RowKit
def A2k (how:Int) (l:List Nat):List UInt8:=if B3k how=true then l.flatMap (A7y how) else []
def B0h (kind:Int) (n:Nat):Nat:=if kind=2 then(A9i (IntKind.i64.wrap (n:Int))).toNat else n
theorem A9h {α β:Type}{f : α→List β}{l:List α}{k:Nat}{a : α}(h:l[k]?=some a):(l.take (k+1)).flatMap f=(l.take k).flatMap f++f a:=by
 rw[A0w h,List.flatMap_append];simp
theorem C0z {α β:Type}{f : α→List β}{l:List α}{c:Nat}(h:∀ a∈l,(f a).length≤c):(l.flatMap f).length≤l.length*c:=by
 induction l with
 | nil=>simp
 | cons a r ih=>
  rw[List.flatMap_cons,List.length_append,List.length_cons,Nat.succ_mul]
  have h1:=h a (by simp)
  have h2:=ih fun b hb=>h b (List.mem_cons_of_mem _ hb)
  omega
theorem C8j {w:World}{ao:Option Addr}{n cap:Nat}{l:List UInt8}(h:RdL 1 YAt w (.slice ao n cap) l):l.length=n∧(ao=none→n=0∧cap=0)∧∀ ad,ao=some ad→∀ k y,l[k]?=some y→∀ j u,(ekY.enc y)[j]?=some u→w.cell? (ad.add (k*ekY.size+j))=some u:=by
 obtain⟨ac,n',cap',e,h1,_,_,h4,h5⟩:=h
 cases e
 refine⟨h1,h4,fun ad had k y hy j u hu=>?_⟩
 have hj:j=0:=by
  cases j with
  | zero=>rfl
  | succ j=>simp[ekY,D0n] at hu
 subst hj
 have hu:u = .int .u8 (y.toNat:Int):=by simpa [ekY,D0n] using hu.symm
 subst hu
 have:=h5 ad had k y hy
 simpa [YAt,ekY] using this
theorem B9f {w:World}{v:Value}{l:List Nat}(h:RdL 1 UAt w v l) (hm:∀ n∈l,n≤18446744073709551615) (hl:l.length≤100000000000) (how:Int) :
  Calls Tryz.prog 87 #[.int .i64 how,v] w fun e w'=>∃ ao n cap,e = .returned (.slice ao n cap)∧Row ekY w' w.heap.size (.slice ao n cap) (A2k how l)∧Below w.heap.size w w':=by
 obtain⟨a1,n1,c1,rfl,H1,_⟩:=h.shape
 have ak:n1≤100000000000:=by rw[H1.out];exact hl
 have ac:=B6k how w
 cases hq:B3k how with
 | false=>
  have HN:Hid (A2k how l = []):=by show _=_;unfold A2k;rw[hq];rfl
  rw[hq] at ac
  clear hq
  go_enter Tryz.func87,Tryz.ntmps87
  go_wp2_with fail
  refine ac.mono ?_
  rintro e w1 ⟨rfl,rfl⟩
  go_wp2
  go_ret
  exact⟨none,0,0,rfl,by rw[HN.out];exact Row.nil _ _ _,Below.refl _ _⟩
 | true=>
  have HN:Hid (A2k how l=l.flatMap (A7y how)):=by show _=_;unfold A2k;rw[hq];rfl
  rw[hq] at ac
  clear hq
  go_enter Tryz.func87,Tryz.ntmps87
  go_wp2_with fail
  refine ac.mono ?_
  rintro e w1 ⟨rfl,rfl⟩
  go_wp2_with fail
  go_loopg [5,14] n1 (fun m u i wr=>∃ (k:Nat) (ao:Option Addr) (no co:Nat),k+m=n1∧i = .int .i64 k∧u = .slice ao no co∧Row ekY wr w.heap.size (.slice ao no co) ((l.take k).flatMap (A7y how))∧Below w.heap.size w wr)
  case atStart=>exact⟨0,none,0,0,by omega,rfl,rfl,by rw[List.take_zero];exact Row.nil _ _ _,Below.refl _ _⟩
  case round=>
   obtain⟨k,ao,no,co,hk,rfl,rfl,hr,hb⟩:=hrel
   by_cases hlt:k < n1
   ·obtain⟨x,Hx⟩:∃ x,Hid (l[k]?=some x):=⟨l[k]'(by rw[←H1.out];exact hlt),List.getElem?_eq_getElem (by rw[←H1.out];exact hlt)⟩
    obtain⟨b,off,rfl,hat⟩:=(h.below UAt.stays hb).get UAt.plain Hx.out
    have s0:wr.cell? ⟨b,off+k,none⟩=some (.int .u64 (x:Int)):=by simpa [UAt] using hat
    have aj:(k:Int) < (n1:Int):=by omega
    have hlk:((l.take k).flatMap (A7y how)).length≤10000000000000:=by
     have:=C0z (l:=l.take k) (f:=A7y how) (c:=10) fun a _=>A9l how a
     rw[List.length_take] at this
     omega
    have ah:=A8i w.heap.size _ _ how x wr hr hb.size (hm x (List.mem_of_getElem? Hx.out)) hlk
    clear hat
    go_wp2_with fail
    refine ah.mono ?_
    rintro e w2 ⟨v2,rfl,hr2,hb2⟩
    obtain⟨a2,n2,c2,rfl,_⟩:=hr2.shape'
    have ag:Row ekY w2 w.heap.size (.slice a2 n2 c2) ((l.take (k+1)).flatMap (A7y how)):=by rw[A9h Hx.out];exact hr2
    clear hr2
    go_wp2_with fail
    go_roundg (n1 - (k+1))
    case measure=>omega
    case rel=>exact⟨k+1,a2,n2,c2,by omega,by go_num,rfl,ag,hb.trans hb2⟩
   ·have hr1:Row ekY wr w.heap.size (.slice ao no co) (A2k how l):=by
     rw[List.take_of_length_le (by rw[←H1.out];omega)] at hr;rw[HN.out];exact hr
    clear hr
    go_wp2
    go_ret
    exact⟨ao,no,co,rfl,hr1,hb⟩
theorem C9x (w:World) (n:Nat):∀ ad,some (⟨w.heap.size,0,none⟩:Addr)=some ad→∀ k y,[n][k]?=some y→∀ j u,(ekU.enc y)[j]?=some u→(w.alloc (.cells #[.int .u64 (n:Int)] 63)).cell? (ad.add (k*ekU.size+j))=some u:=A8t ekU w n
theorem B1s {w:World}{v:Value}{l:List Nat}(h:RdL 1 UAt w v l) (hm:∀ n∈l,n≤18446744073709551615) (hl:l.length≤100000000000){fn:Nat}(au:∀ (args:Array Value) (w:World),(callFunc fn args).run Tryz.prog w = .ok (.enter fn args) w)
  {one:Nat→Nat}(ag:∀ (n:Nat) (W:World),n≤18446744073709551615→Calls Tryz.prog fn #[.int .u64 (n:Int)] W fun e w'=>e = .returned (.int .u64 ((one n:Nat):Int))∧W=w') :
  Calls Tryz.prog 148 #[v,.func (.func fn) #[] #[]] w fun e w'=>∃ ao n cap,e = .returned (.slice ao n cap)∧Row ekU w' w.heap.size (.slice ao n cap) (l.map one)∧Below w.heap.size w w':=by
 obtain⟨a1,n1,c1,rfl,H1,_⟩:=h.shape
 have ba:n1≤100000000000:=by rw[H1.out];exact hl
 go_enter Tryz.func148,Tryz.ntmps148
 go_wp2_with fail
 go_loopg [5,10] n1 (fun m u i wr=>∃ (k:Nat) (ao:Option Addr) (no co:Nat),k+m=n1∧i = .int .i64 k∧u = .slice ao no co∧Row ekU wr w.heap.size (.slice ao no co) ((l.map one).take k)∧Below w.heap.size w wr)
 case atStart=>exact⟨0,none,0,0,by omega,rfl,rfl,by rw[List.take_zero];exact Row.nil _ _ _,Below.refl _ _⟩
 case round=>
  obtain⟨k,ao,no,co,hk,rfl,rfl,hr,hb⟩:=hrel
  by_cases hlt:k < n1
  ·obtain⟨x,Hx⟩:∃ x,Hid (l[k]?=some x):=⟨l[k]'(by rw[←H1.out];exact hlt),List.getElem?_eq_getElem (by rw[←H1.out];exact hlt)⟩
   obtain⟨b,off,rfl,hat⟩:=(h.below UAt.stays hb).get UAt.plain Hx.out
   have s0:wr.cell? ⟨b,off+k,none⟩=some (.int .u64 (x:Int)):=by simpa [UAt] using hat
   have aw:(k:Int) < (n1:Int):=by omega
   have ac:=ag x wr (hm x (List.mem_of_getElem? Hx.out))
   obtain⟨y,Hy⟩:∃ y,Hid (one x=y):=⟨_,rfl⟩
   rw[Hy.out] at ac
   have ak:∀ k,(Value.slice ao no co).ownBlock=some k→w.heap.size≤k:=fun k hk=>(hr.own k hk).1
   have hlk:((l.map one).take k).length≤100000000000:=by rw[List.length_take];omega
   clear hat
   go_wp2_with fail
   refine ac.mono ?_
   rintro e w2 ⟨rfl,rfl⟩
   go_wp2_with (at_builtin;refine A1n (by rfl) ekU _ _ (by rfl) w.heap.size (.slice ao no co) ((l.map one).take k) [y] (by rfl) (hr.below ((Below.refl _ _).alloc (Nat.le_refl _) _)) (some ⟨wr.heap.size,0,none⟩) 1 1 (by rfl) (by rfl) (by intro e;cases e) (C9x wr y) (by decide) ?d2 ?d3 ?_)
   case d2=>simp[ekU];omega
   case d3=>simp;have:=hb.size;omega
   intro v' w3 hr3 hg3
   obtain⟨a2,n2,c2,rfl,_⟩:=hr3.shape'
   have aj:Below w.heap.size w w3:=(hb.alloc hb.size _).grown hg3 (by simp;have:=hb.size;omega) ak
   have ah:Row ekU w3 w.heap.size (.slice a2 n2 c2) ((l.map one).take (k+1)):=by
    rw[A0w (a:=y) (by rw[List.getElem?_map,Hx.out,←Hy.out];rfl)];exact hr3
   clear hr3
   go_wp2_with fail
   go_roundg (n1 - (k+1))
   case measure=>omega
   case rel=>exact⟨k+1,a2,n2,c2,by omega,by go_num,rfl,ah,aj⟩
  ·have hr1:Row ekU wr w.heap.size (.slice ao no co) (l.map one):=by
    rw[List.take_of_length_le (by rw[List.length_map,←H1.out];omega)] at hr;exact hr
   clear hr
   go_wp2
   go_ret
   exact⟨ao,no,co,rfl,hr1,hb⟩
end L
end Go.Proofs.YtgaoojpakjjdnaaGreatDoor
namespace Go.Proofs.YtgaoojpakjjdnaaGreatDoor
open Go.RowKit
theorem A1h {k:IntKind}{a b:Int}(h:a=b):Ending.returned (.int k a) = .returned (.int k b):=by rw[h]
def A1q (h:Int):Bool:=decide (h=0∨h=1∨h=2∨h=5)
theorem A0e {h:Int}(k:h=0∨h=1∨h=2∨h=5):true=A1q h:=by unfold A1q;simp[k]
theorem A4k {h:Int}(k:¬ (h=0∨h=1∨h=2∨h=5)):false=A1q h:=by unfold A1q;simp only[k,decide_false]
theorem A0h (h:Int) (w:World) :
  Calls Tryz.prog 152 #[.int .i64 h] w fun e w'=>e = .returned (.bool (A1q h))∧w=w':=by
 by_cases k:h=0∨h=1∨h=2∨h=5
 ·rw[←A0e k]
  rcases k with rfl|rfl|rfl|rfl
  all_goals
   go_enter Tryz.func152,Tryz.ntmps152
   go_wp2
   go_ret
   exact⟨rfl,rfl⟩
 ·rw[←A4k k]
  have b0:(h == 0)=false:=beq_eq_false_iff_ne.2 (by omega)
  have b1:(h == 1)=false:=beq_eq_false_iff_ne.2 (by omega)
  have b2:(h == 2)=false:=beq_eq_false_iff_ne.2 (by omega)
  have b5:(h == 5)=false:=beq_eq_false_iff_ne.2 (by omega)
  go_enter Tryz.func152,Tryz.ntmps152
  go_wp2
  go_ret
  exact⟨rfl,rfl⟩
def A2p (h:Int):Nat:=if h=1 then 8 else if h=5 then 4 else 0
theorem A7p (h:Int) (w:World) :
  Calls Tryz.prog 209 #[.int .i64 h] w fun e w'=>e = .returned (.int .i64 (A2p h))∧w=w':=by
 by_cases k:h=1∨h=5
 ·rcases k with rfl|rfl
  all_goals
   go_enter Tryz.func209,Tryz.ntmps209
   go_wp2
   go_ret
   exact⟨rfl,rfl⟩
 ·have e:A2p h=0:=by unfold A2p;rw[if_neg (by omega),if_neg (by omega)]
  rw[e]
  have b1:(h == 1)=false:=beq_eq_false_iff_ne.2 (by omega)
  have b5:(h == 5)=false:=beq_eq_false_iff_ne.2 (by omega)
  clear e
  go_enter Tryz.func209,Tryz.ntmps209
  go_wp2
  go_ret
  exact⟨rfl,rfl⟩
theorem C5y (n:Int) (w:World) (hl:0≤n) (hu:n≤18446744073709551615) :
  Calls Tryz.prog 219 #[.int .u64 n] w fun e w'=>e = .returned (.int .i64 (B0q n))∧w=w':=by
 go_enter Tryz.func219,Tryz.ntmps219
 go_wp2
 ·go_ret
  exact⟨A1h (B2h n hl hu ‹_›),rfl⟩
 ·go_ret
  exact⟨A1h (B0r n hl hu ‹_›),rfl⟩
end Go.Proofs.YtgaoojpakjjdnaaGreatDoor
