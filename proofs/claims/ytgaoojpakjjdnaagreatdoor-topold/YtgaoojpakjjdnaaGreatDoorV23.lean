import Derived.Test.YtgaoojpakjjdnaaGreatDoorV17
import Derived.Laws.BitsLemmas
set_option maxHeartbeats 32000000
set_option maxRecDepth 100000
namespace Go.Proofs.YtgaoojpakjjdnaaGreatDoor
theorem B3r (n:Int)(h₀:0≤n)(h₁:n<2 ^ 64):IntKind.u64.wrap n=n:=by rw[IntKind.wrap_u64];omega
theorem D6a (a:Nat)(ha:a<9223372036854775808):bits .xor .i64 (-1) (a:Int) = -1-(a:Int):=by
 have e:(BitVec.ofInt 64 (-1) ^^^ BitVec.ofInt 64 (a:Int)).toNat=18446744073709551615-a:=by
  rw[show BitVec.ofInt 64 (-1)=BitVec.allOnes 64 by decide,BitVec.ofInt_natCast,BitVec.allOnes_xor,BitVec.toNat_not,BitVec.toNat_ofNat,Nat.mod_eq_of_lt (by omega)]
 refine(congrArg (fun n:Nat=>IntKind.i64.wrap (n:Int)) e).trans ?_
 rw[IntKind.wrap_i64]
 omega
def B4a:Nat→Nat→List UInt8
 | 0,_=>[]
 | f+1,n=>if n<128 then [UInt8.ofNat n] else UInt8.ofNat (n%128+128)::B4a f (n / 128)
def A5q (n:Nat):List UInt8:=B4a 10 n
def A4e:Nat→Nat→List UInt8→Nat×Nat×Nat
 | _,_,[]=>(0,0,2)
 | i,acc,x::r=>
  if i=9∧1<x.toNat then(0,0,3)
  else if x.toNat<128 then(acc+x.toNat%128*2 ^ (7*i),i+1,0)
  else A4e (i+1) (acc+x.toNat%128*2 ^ (7*i)) r
def B1i (n:Int):Int:=if n%2=1 then -(n / 2)-1 else n / 2
def B0l (n:Int):Int:=if n<0 then -2*n-1 else 2*n
theorem C8o {n:Int}(h:n%2=1):B1i n = -(n / 2)-1:=by unfold B1i;rw[if_pos h]
theorem C5d {n:Int}(h:n%2≠1):B1i n=n / 2:=by unfold B1i;rw[if_neg h]
theorem C7o {n:Int}(h:n<0):B0l n = -2*n-1:=by unfold B0l;rw[if_pos h]
theorem C7p {n:Int}(h:0≤n):B0l n=2*n:=by unfold B0l;rw[if_neg (by omega)]
theorem C8r (s:Int):B1i (B0l s)=s:=by
 unfold B1i B0l;split <;> split <;> omega
theorem C0g (s:Int)(h0 : -9223372036854775808≤s)(h1:s≤9223372036854775807):0≤B0l s∧B0l s≤18446744073709551615:=by
 unfold B0l;split <;> omega
theorem B6l (n:Int)(h0:0≤n)(h1:n≤18446744073709551615)(h:(bits BinOp.and IntKind.u64 n 1==1)=true) :
  bits BinOp.xor IntKind.i64 (-1) (n / 2)=B1i n:=by
 obtain⟨a,rfl⟩:=Int.eq_ofNat_of_zero_le h0
 have e1:=(bits_nat .u64 64 (by decide) B3r a 1 (by omega) (by decide)).1
 rw[show((1:Nat):Int)=1 from rfl] at e1
 rw[e1,Nat.and_one_is_mod] at h
 have h2:(a:Int)%2=1:=by have:=beq_iff_eq.1 h;omega
 rw[C8o h2,show((a:Int) / 2)=((a / 2:Nat):Int) by omega,D6a _ (by omega)]
 omega
theorem B3z (n:Int)(h0:0≤n)(h1:n≤18446744073709551615)(h:(bits BinOp.and IntKind.u64 n 1==1)=false) :
  n / 2=B1i n:=by
 obtain⟨a,rfl⟩:=Int.eq_ofNat_of_zero_le h0
 have e1:=(bits_nat .u64 64 (by decide) B3r a 1 (by omega) (by decide)).1
 rw[show((1:Nat):Int)=1 from rfl] at e1
 rw[e1,Nat.and_one_is_mod] at h
 have h2:(a:Int)%2≠1:=by have:=beq_eq_false_iff_ne.1 h;omega
 rw[C5d h2]
theorem C0l (n:Int)(h0 : -9223372036854775808≤n)(h1:n<0):bits BinOp.xor IntKind.i64 (-1) n = -1-n:=by
 obtain⟨a,ha⟩:=Int.eq_ofNat_of_zero_le (show 0≤-1-n by omega)
 have h2:BitVec.ofInt 64 n = ~~~ (BitVec.ofNat 64 a):=by
  apply BitVec.eq_of_toNat_eq
  rw[BitVec.toNat_not,BitVec.toNat_ofInt,BitVec.toNat_ofNat]
  have:n = -1-(a:Int):=by omega
  subst this
  omega
 show IntKind.i64.wrap ((BitVec.ofInt 64 (-1) ^^^ BitVec.ofInt 64 n).toNat:Int)=_
 have h3:BitVec.ofInt 64 (-1)=BitVec.allOnes 64:=by decide
 rw[h3,h2,BitVec.allOnes_xor,BitVec.not_not,BitVec.toNat_ofNat]
 rw[show a%2 ^ 64=a from Nat.mod_eq_of_lt (by omega),IntKind.wrap_i64]
 omega
theorem B5s (n:Int)(h0 : -9223372036854775808≤n)(h1:n<0) :
  bits BinOp.or IntKind.u64 (IntKind.u64.wrap (IntKind.u64.wrap (bits BinOp.xor IntKind.i64 (-1) n)*2)) 1=B0l n:=by
 rw[C0l n h0 h1,C7o h1]
 obtain⟨a,ha⟩:=Int.eq_ofNat_of_zero_le (show 0≤-1-n by omega)
 rw[ha,IntKind.wrap_u64,IntKind.wrap_u64]
 rw[show((a:Int)%18446744073709551616*2%18446744073709551616)=((2*a:Nat):Int) by omega]
 have:=bits_join .u64 64 (by decide) B3r 1 ((2*a:Nat):Int) 1 (by omega) (by omega) (by omega) (by omega) (by omega) (by omega)
 rw[this]
 omega
theorem C6q (x:Int)(h₀:0≤x)(h₁:x<256):bits .andNot .u8 x 128=x%128:=by
 have e:bits .andNot .u8 x 128=bits .and .u8 x 127:=by
  show IntKind.u8.wrap ((BitVec.ofInt 8 x&&& ~~~ BitVec.ofInt 8 128).toNat:Int)=IntKind.u8.wrap ((BitVec.ofInt 8 x&&& BitVec.ofInt 8 127).toNat:Int)
  rw[show ~~~ BitVec.ofInt 8 128=BitVec.ofInt 8 127 by decide]
 rw[e]
 exact bits_mask .u8 8 (by decide) wraps_u8 7 (by decide) x h₀ h₁
theorem D4w (i a b:Nat)(ha:a<2 ^ i)(ha':a<2 ^ 64)(hb:b%2 ^ i=0)(hb':b<2 ^ 64):bits .or .u64 (a:Int) (b:Int)=((a+b:Nat):Int):=by
 rw[(bits_nat .u64 64 (by decide) B3r a b ha' hb').2,Nat.or_comm]
 have hq:b=2 ^ i*(b / 2 ^ i):=by have:=Nat.div_add_mod b (2 ^ i);omega
 rw[hq,←Nat.two_pow_add_eq_or_of_lt ha (b / 2 ^ i),←hq,Nat.add_comm]
theorem D9q {k:Nat}(h:k≤8):2 ^ (7*k)≤72057594037927936:=by
 have:=Nat.pow_le_pow_right (show 0<2 by decide) (show 7*k≤56 by omega)
 exact this
theorem B6x {k acc X:Nat}(ac:acc<2 ^ (7*k)):acc+X%128*2 ^ (7*k)<2 ^ (7*(k+1)):=by
 have e:2 ^ (7*(k+1))=128*2 ^ (7*k):=by rw[show 7*(k+1)=7+7*k by omega,Nat.pow_add]
 have h:X%128*2 ^ (7*k)≤127*2 ^ (7*k):=Nat.mul_le_mul_right _ (by omega)
 omega
theorem C1i {k acc X:Nat}(hk:k≤9)(ac:acc<2 ^ (7*k))(hX:X<256)(h9:k=9→X≤1) :
  bits BinOp.or IntKind.u64 (acc:Int) (IntKind.u64.wrap (IntKind.u64.wrap (bits BinOp.andNot IntKind.u8 (X:Int) 128)*2 ^ (7*k)))=((acc+X%128*2 ^ (7*k):Nat):Int):=by
 have hb:X%128*2 ^ (7*k)<2 ^ 64:=by
  by_cases h:k≤8
  ·have h1:=D9q h
   have h2:X%128*2 ^ (7*k)≤127*2 ^ (7*k):=Nat.mul_le_mul_right _ (by omega)
   omega
  ·have ag:k=9:=by omega
   subst ag
   have:=h9 rfl
   rw[show 2 ^ (7*9)=9223372036854775808 from rfl]
   omega
 have ha:acc<2 ^ 64:=by
  have:=Nat.pow_le_pow_right (show 0<2 by decide) (show 7*k≤64 by omega)
  omega
 rw[C6q _ (by omega) (by omega),B3r ((X:Int)%128) (by omega) (by omega)]
 have e:((X:Int)%128*2 ^ (7*k))=((X%128*2 ^ (7*k):Nat):Int):=by simp
 rw[e,B3r _ (by omega) (by exact_mod_cast hb)]
 exact D4w (7*k) acc _ ac ha (Nat.mul_mod_left _ _) hb
theorem C2n (m:Nat):bits BinOp.or IntKind.u8 (IntKind.u8.wrap (m:Int)) 128=((UInt8.ofNat (m%128+128)).toNat:Int):=by
 rw[IntKind.wrap_u8]
 have e:((m:Int)%256)=((m%256:Nat):Int):=by omega
 rw[e]
 have h:=(bits_nat .u8 8 (by decide) wraps_u8 (m%256) 128 (by omega) (by decide)).2
 rw[show((128:Nat):Int)=128 from rfl] at h
 rw[h]
 have g:∀ x:Nat,x<256→(x||| 128)=x%128+128:=by decide +kernel
 rw[g _ (by omega),UInt8.toNat_ofNat']
 omega
theorem B6p {f m:Nat}(h:¬ m<128):B4a (f+1) m=UInt8.ofNat (m%128+128)::B4a f (m / 128):=by rw[B4a,if_neg h]
theorem B1u {f m:Nat}(h:m<128):B4a (f+1) m = [UInt8.ofNat m]:=by rw[B4a,if_pos h]
theorem C2l (f m:Nat):(B4a f m).length≤f:=by
 induction f generalizing m with
 | zero=>simp[B4a]
 | succ f ih=>
  rw[B4a]
  split
  ·simp
  ·have:=ih (m / 128)
   simp
   omega
theorem C0e {l:List UInt8}{k X:Nat}(hk:k<l.length)(hX:X=(l.getD k 0).toNat):∃ c:UInt8,l.drop k=c::l.drop (k+1)∧c.toNat=X:=by
 refine⟨l[k],List.drop_eq_getElem_cons hk,?_⟩
 rw[hX,List.getD_eq_getElem?_getD,List.getElem?_eq_getElem hk]
 rfl
theorem D1w {l:List UInt8}{k acc X:Nat}(hk:k<l.length)(hX:X=(l.getD k 0).toNat)(h9:k=9)(h1:1<X):A4e k acc (l.drop k)=(0,0,3):=by
 obtain⟨c,e,hc⟩:=C0e hk hX
 rw[e,A4e,if_pos ⟨h9,by omega⟩]
theorem C1x {l:List UInt8}{k acc X:Nat}(hk:k<l.length)(hX:X=(l.getD k 0).toNat)(h9:k=9→X≤1)(h1:X<128) :
  A4e k acc (l.drop k)=(acc+X%128*2 ^ (7*k),k+1,0):=by
 obtain⟨c,e,hc⟩:=C0e hk hX
 rw[e,A4e,if_neg (by rintro⟨a,b⟩;have:=h9 a;omega),if_pos (by omega),hc]
theorem D5r {l:List UInt8}{k acc X:Nat}(hk:k<l.length)(hX:X=(l.getD k 0).toNat)(h9:k≠9)(h1:¬ X<128) :
  A4e k acc (l.drop k)=A4e (k+1) (acc+X%128*2 ^ (7*k)) (l.drop (k+1)):=by
 obtain⟨c,e,hc⟩:=C0e hk hX
 rw[e,A4e,if_neg (by rintro⟨a,b⟩;exact h9 a),if_neg (by omega),hc]
theorem D1x {l:List UInt8}{k acc:Nat}(hk:l.length≤k):A4e k acc (l.drop k)=(0,0,2):=by
 rw[List.drop_eq_nil_of_le hk,A4e]
end Go.Proofs.YtgaoojpakjjdnaaGreatDoor
namespace Go.Proofs.YtgaoojpakjjdnaaGreatDoor
namespace L
open Go.RowKit
theorem C2b {k:IntKind}{a b:Int}(h:a=b):Ending.returned (.int k a) = .returned (.int k b):=by rw[h]
theorem B2v (w:World)(c:UInt8)(x:Int)(hx:x=(c.toNat:Int)):∀ ad,some (⟨w.heap.size,0,none⟩:Addr)=some ad→∀ k y,[c][k]?=some y→∀ j u,(ekY.enc y)[j]?=some u→(w.alloc (.cells #[.int .u8 x] 5)).cell? (ad.add (k*ekY.size+j))=some u:=by
 subst hx
 exact B1s ekY w c
theorem D5w {f m:Nat}(hf:m<2 ^ (7*f))(hs:¬ m<128):2≤f:=by
 rcases Nat.lt_or_ge f 2 with h|h
 ·have h1:2 ^ (7*f)≤2 ^ 7:=Nat.pow_le_pow_right (by decide) (by omega)
  have h2:(2:Nat) ^ 7=128:=rfl
  omega
 ·exact h
theorem C8c {f m:Nat}(hf:m<2 ^ (7*(f+1))):m / 128<2 ^ (7*f):=by
 rw[show 7*(f+1)=7*f+7 by omega,Nat.pow_add] at hf
 have h2:(2:Nat) ^ 7=128:=rfl
 rw[h2] at hf
 omega
theorem B6c {w:World}{base:Nat}{v:Value}{l:List UInt8}(h:Row ekY w base v l)(o:Obj):Row ekY (w.alloc o) base v l:=h.below ((Below.refl _ _).alloc (Nat.le_refl _) _)
theorem B6f (base:Nat)(v:Value)(l:List UInt8)(n:Nat)(w:World)(hv:Row ekY w base v l)(hb:base≤w.heap.size)(hn:n≤18446744073709551615)(hl:l.length≤10000000000000) :
  Calls Tryz.prog 208 #[v,.int .u64 (n:Int)] w fun e w'=>∃ v',e = .returned v'∧Row ekY w' base v' (l++A5q n)∧Below base w w':=by
 have H0:Hid (l++B4a 10 n=l++A5q n):=rfl
 go_enter Tryz.func208,Tryz.ntmps208
 go_wp2
 go_loopw [0,1] (fun u i wr=>∃ (f m:Nat) (l':List UInt8),i = .int .u64 (m:Int)∧m≤18446744073709551615∧Hid (m<2 ^ (7*(f+1)))∧f≤9∧l'.length+f≤l.length+10∧Row ekY wr base u l'∧Below base w wr∧base≤wr.heap.size∧Hid (l'++B4a (f+1) m=l++A5q n))
  (fun _ i _=>(intOf i).toNat)
 case atStart=>exact⟨9,n,l,rfl,hn,by show n<2 ^ (7*10);omega,Nat.le_refl _,by omega,hv,Below.refl _ _,hb,H0⟩
 case round=>
  obtain⟨f,m,l',rfl,hm,hf,ak,hlen,hown,aj,ah,HR⟩:=hrel
  have ag:∀ k,u0.ownBlock=some k→base≤k:=fun k hk=>(hown.own k hk).1
  by_cases hs:m<128
  ·go_wp2_with (at_builtin;refine A2f (by rfl) ekY _ _ (by rfl) base _ l' [UInt8.ofNat m] (by rfl) (B6c hown _) (some ⟨wr.heap.size,0,none⟩) 1 1 (by rfl) (by rfl) (by intro e;cases e) ?c1 (by decide) ?c2 ?c3 ?_)
   case c1=>
    refine B2v wr _ _ ?_
    simp
    omega
   case c2=>simp[ekY];omega
   case c3=>simp;omega
   intro v' w1 h1 h2
   go_wp2
   go_ret
   refine⟨v',rfl,?_,(aj.alloc ah _).grown h2 (by simp;omega) ag⟩
   rw[←HR.out,B1u hs]
   exact h1
  ·obtain⟨c,Hc⟩:∃ c,Hid (c=UInt8.ofNat (m%128+128)):=⟨_,rfl⟩
   go_wp2_with (at_builtin;refine A2f (by rfl) ekY _ _ (by rfl) base _ l' [c] (by rfl) (B6c hown _) (some ⟨wr.heap.size,0,none⟩) 1 1 (by rfl) (by rfl) (by intro e;cases e) ?d1 (by decide) ?d2 ?d3 ?_)
   case d1=>
    refine B2v wr _ _ ?_
    rw[Hc.out,←C2n,IntKind.wrap_u8]
   case d2=>simp[ekY];omega
   case d3=>simp;omega
   intro v' w1 h1 h2
   have ac:Below base w w1:=(aj.alloc ah _).grown h2 (by simp;omega) ag
   go_wp2
   go_roundw
   case rel=>
    have hf2:=D5w hf.out hs
    obtain⟨g,rfl⟩:∃ g,f=g+1:=⟨f-1,by omega⟩
    refine⟨g,m / 128,l'++[c],by go_num,by omega,C8c hf.out,by omega,by simp;omega,h1,ac,Nat.le_trans hb ac.size,?_⟩
    show _=_
    rw[←HR.out,B6p hs,List.append_assoc,Hc.out]
    rfl
   case measure=>simp[intOf];omega
def B2z (h:Int):Nat:=if h=1 then 8 else if h=5 then 4 else 0
theorem C4w (h:Int)(w:World) :
  Calls Tryz.prog 209 #[.int .i64 h] w fun e w'=>e = .returned (.int .i64 (B2z h))∧w=w':=by
 by_cases k:h=1∨h=5
 ·rcases k with rfl|rfl
  all_goals
   go_enter Tryz.func209,Tryz.ntmps209
   go_wp2
   go_ret
   exact⟨rfl,rfl⟩
 ·have e:B2z h=0:=by unfold B2z;rw[if_neg (by omega),if_neg (by omega)]
  rw[e]
  have b1:(h==1)=false:=beq_eq_false_iff_ne.2 (by omega)
  have b5:(h==5)=false:=beq_eq_false_iff_ne.2 (by omega)
  clear e
  go_enter Tryz.func209,Tryz.ntmps209
  go_wp2
  go_ret
  exact⟨rfl,rfl⟩
theorem C8a (n:Int)(w:World)(hl : -9223372036854775808≤n)(hu:n≤9223372036854775807) :
  Calls Tryz.prog 206 #[.int .i64 n] w fun e w'=>e = .returned (.int .u64 (B0l n))∧w=w':=by
 go_enter Tryz.func206,Tryz.ntmps206
 go_wp2
 ·go_ret
  exact⟨C2b (B5s n hl ‹_›),rfl⟩
 ·go_ret
  exact⟨C2b (by rw[C7p ‹_›];omega),rfl⟩
def klow:Nat→Nat→List UInt8
 | 0,_=>[]
 | k+1,n=>UInt8.ofNat n::klow k (n / 256)
theorem klow_len (k n:Nat):(klow k n).length=k:=by
 induction k generalizing n with
 | zero=>rfl
 | succ k ih=>rw[klow,List.length_cons,ih]
def ktagN (num how:Int):List UInt8:=A5q (num.toNat*8+how.toNat)
def kputB (how:Int)(n:Nat):List UInt8:=if how=0 then A5q n else klow (B2z how) n
theorem A9f (n:Nat):(A5q n).length≤10:=C2l 10 n
theorem B2x (how:Int)(n:Nat):(kputB how n).length≤10:=by
 unfold kputB
 split
 ·exact A9f n
 ·rw[klow_len];unfold B2z;split
  ·omega
  ·split <;> omega
theorem D2f (base:Nat)(v:Value)(l:List UInt8)(num how:Int)(w:World)(hv:Row ekY w base v l)(hb:base≤w.heap.size)(h1:0≤num)(h2:num≤536870912)(h3:0≤how)(h4:how≤7)(hl:l.length≤10000000000000) :
  Calls Tryz.prog 210 #[v,.int .i64 num,.int .i64 how] w fun e w'=>∃ v',e = .returned v'∧Row ekY w' base v' (l++ktagN num how)∧Below base w w':=by
 go_enter Tryz.func210,Tryz.ntmps210
 go_wp2_with fail
 rw[show num*8+how=((num.toNat*8+how.toNat:Nat):Int) by omega]
 refine(B6f base v l _ _ hv hb (by omega) hl).mono ?_
 rintro e w1 ⟨v1,rfl,ho,hbl⟩
 go_wp2
 go_ret
 exact⟨v1,rfl,ho,hbl⟩
theorem B1a (base:Nat)(v:Value)(l:List UInt8)(how:Int)(n:Nat)(w:World)(hv:Row ekY w base v l)(hb:base≤w.heap.size)(hn:n≤18446744073709551615)(hl:l.length≤10000000000000) :
  Calls Tryz.prog 151 #[v,.int .i64 how,.int .u64 (n:Int)] w fun e w'=>∃ v',e = .returned v'∧Row ekY w' base v' (l++kputB how n)∧Below base w w':=by
 by_cases h0:how=0
 ·unfold kputB
  rw[if_pos h0]
  subst h0
  go_enter Tryz.func151,Tryz.ntmps151
  go_wp2_with (go_at_call 208;refine(B6f base v l n _ hv hb hn (by omega)).mono ?_;rintro e w1 ⟨v1,rfl,ho,hbl⟩)
  go_ret
  exact⟨v1,rfl,ho,hbl⟩
 ·unfold kputB
  rw[if_neg h0]
  have b0:(how==0)=false:=beq_eq_false_iff_ne.2 h0
  obtain⟨W,HW⟩:∃ W,Hid (W=B2z how):=⟨_,rfl⟩
  have ak:W≤8:=by rw[HW.out];unfold B2z;split <;> (try split) <;> omega
  clear h0
  rw[←HW.out]
  go_enter Tryz.func151,Tryz.ntmps151
  go_wp2_with (go_at_call 209;refine(C4w how _).mono ?_;rintro e w1 ⟨rfl,rfl⟩;rw[←HW.out])
  go_loopw [0,2,14] (fun u n' i wr=>∃ (k m:Nat) (l':List UInt8),i = .int .i64 (k:Int)∧k≤W∧n' = .int .u64 (m:Int)∧m≤18446744073709551615∧l'.length=l.length+k∧Row ekY wr base u l'∧Below base w wr∧base≤wr.heap.size∧Hid (l'++klow (W-k) m=l++klow W n))
   (fun _ _ i _=>W-(intOf i).toNat)
  case atStart=>exact⟨0,n,l,rfl,by omega,rfl,hn,rfl,hv,Below.refl _ _,hb,rfl⟩
  case round=>
   obtain⟨k,m,l',rfl,hk,rfl,hm,hlen,hown,ag,aj,HR⟩:=hrel
   have ah:∀ k,u0.ownBlock=some k→base≤k:=fun k hk=>(hown.own k hk).1
   by_cases hlt:k<W
   ·obtain⟨c,Hc⟩:∃ c,Hid (c=UInt8.ofNat m):=⟨_,rfl⟩
    go_wp2_with (at_builtin;refine A2f (by rfl) ekY _ _ (by rfl) base _ l' [c] (by rfl) (B6c hown _) (some ⟨wr.heap.size,0,none⟩) 1 1 (by rfl) (by rfl) (by intro e;cases e) ?d1 (by decide) ?d2 ?d3 ?_)
    case d1=>
     refine B2v wr _ _ ?_
     rw[Hc.out,UInt8.toNat_ofNat']
     simp
    case d2=>simp[ekY];omega
    case d3=>simp;omega
    intro v' w2 h1 h2
    have ac:Below base w w2:=(ag.alloc aj _).grown h2 (by simp;omega) ah
    go_wp2
    go_roundw
    case rel=>
     refine⟨k+1,m / 256,l'++[c],by go_num,by omega,by go_num,by omega,by simp;omega,h1,ac,Nat.le_trans hb ac.size,?_⟩
     show _=_
     rw[←HR.out,show W-k=W-(k+1)+1 by omega,klow,List.append_assoc,Hc.out]
     rfl
    case measure=>simp[intOf];omega
   ·go_wp2
    go_ret
    refine⟨_,rfl,?_,ag⟩
    rw[←HR.out,show W-k=0 by omega,klow,List.append_nil]
    exact hown
def B8d (how:Int):Bool:=A2a how&&decide (how≠2)
theorem C2a (h:Int)(w:World):Calls Tryz.prog 150 #[.int .i64 h] w fun e w'=>e = .returned (.bool (B8d h))∧w=w':=by
 have hi:=A0h h w
 cases hq:A2a h with
 | false=>
  have HN:Hid (B8d h=false):=by show _=_;unfold B8d;rw[hq];rfl
  rw[hq] at hi
  clear hq
  go_enter Tryz.func150,Tryz.ntmps150
  go_wp2_with fail
  refine hi.mono ?_
  rintro e w1 ⟨rfl,rfl⟩
  go_wp2
  go_ret
  exact⟨by rw[HN.out];rfl,rfl⟩
 | true=>
  obtain⟨q,ac⟩:∃ q,(h != 2)=q:=⟨_,rfl⟩
  have HN:Hid (B8d h=q):=by show _=_;unfold B8d;rw[hq,←ac,Bool.eq_iff_iff];simp
  rw[hq] at hi
  clear hq
  cases q
  all_goals
   go_enter Tryz.func150,Tryz.ntmps150
   go_wp2_with fail
   refine hi.mono ?_
   rintro e w1 ⟨rfl,rfl⟩
   go_wp2
   go_ret
   exact⟨by rw[HN.out];rfl,rfl⟩
def packedN (how:Int)(l:List Nat):List UInt8:=if B8d how=true then l.flatMap (kputB how) else []
def A5t (kind:Int)(n:Nat):Nat:=if kind=2 then(B0l (IntKind.i64.wrap (n:Int))).toNat else n
theorem B2s {α β:Type}{f : α→List β}{l:List α}{k:Nat}{a : α}(h:l[k]?=some a):(l.take (k+1)).flatMap f=(l.take k).flatMap f++f a:=by
 rw[A0z h,List.flatMap_append];simp
theorem C7m {α β:Type}{f : α→List β}{l:List α}{c:Nat}(h:∀ a∈l,(f a).length≤c):(l.flatMap f).length≤l.length*c:=by
 induction l with
 | nil=>simp
 | cons a r ih=>
  rw[List.flatMap_cons,List.length_append,List.length_cons,Nat.succ_mul]
  have h1:=h a (by simp)
  have h2:=ih fun b hb=>h b (List.mem_cons_of_mem _ hb)
  omega
theorem D7m {w:World}{ao:Option Addr}{n cap:Nat}{l:List UInt8}(h:RdL 1 YAt w (.slice ao n cap) l):l.length=n∧(ao=none→n=0∧cap=0)∧∀ ad,ao=some ad→∀ k y,l[k]?=some y→∀ j u,(ekY.enc y)[j]?=some u→w.cell? (ad.add (k*ekY.size+j))=some u:=by
 obtain⟨ac,n',cap',e,h1,_,_,h4,h5⟩:=h
 cases e
 refine⟨h1,h4,fun ad had k y hy j u hu=>?_⟩
 have hj:j=0:=by
  cases j with
  | zero=>rfl
  | succ j=>simp[ekY,D8g] at hu
 subst hj
 have hu:u = .int .u8 (y.toNat:Int):=by simpa [ekY,D8g] using hu.symm
 subst hu
 have:=h5 ad had k y hy
 simpa [YAt,ekY] using this
theorem C5k {w:World}{v:Value}{l:List Nat}(h:RdL 1 UAt w v l)(hm:∀ n∈l,n≤18446744073709551615)(hl:l.length≤100000000000)(how:Int) :
  Calls Tryz.prog 87 #[.int .i64 how,v] w fun e w'=>∃ ao n cap,e = .returned (.slice ao n cap)∧Row ekY w' w.heap.size (.slice ao n cap) (packedN how l)∧Below w.heap.size w w':=by
 obtain⟨a1,n1,c1,rfl,H1,_⟩:=h.shape
 have ak:n1≤100000000000:=by rw[H1.out];exact hl
 have ac:=C2a how w
 cases hq:B8d how with
 | false=>
  have HN:Hid (packedN how l = []):=by show _=_;unfold packedN;rw[hq];rfl
  rw[hq] at ac
  clear hq
  go_enter Tryz.func87,Tryz.ntmps87
  go_wp2_with fail
  refine ac.mono ?_
  rintro e w1 ⟨rfl,rfl⟩
  go_wp2
  go_ret
  exact⟨none,0,0,rfl,by rw[HN.out];exact Row.nil _ _ _,Below.refl _ _⟩
 | true=>
  have HN:Hid (packedN how l=l.flatMap (kputB how)):=by show _=_;unfold packedN;rw[hq];rfl
  rw[hq] at ac
  clear hq
  go_enter Tryz.func87,Tryz.ntmps87
  go_wp2_with fail
  refine ac.mono ?_
  rintro e w1 ⟨rfl,rfl⟩
  go_wp2_with fail
  go_loopg [5,14] n1 (fun m u i wr=>∃ (k:Nat) (ao:Option Addr) (no co:Nat),k+m=n1∧i = .int .i64 k∧u = .slice ao no co∧Row ekY wr w.heap.size (.slice ao no co) ((l.take k).flatMap (kputB how))∧Below w.heap.size w wr)
  case atStart=>exact⟨0,none,0,0,by omega,rfl,rfl,by rw[List.take_zero];exact Row.nil _ _ _,Below.refl _ _⟩
  case round=>
   obtain⟨k,ao,no,co,hk,rfl,rfl,hr,hb⟩:=hrel
   by_cases hlt:k<n1
   ·obtain⟨x,Hx⟩:∃ x,Hid (l[k]?=some x):=⟨l[k]'(by rw[←H1.out];exact hlt),List.getElem?_eq_getElem (by rw[←H1.out];exact hlt)⟩
    obtain⟨b,off,rfl,hat⟩:=(h.below UAt.stays hb).get UAt.plain Hx.out
    have s0:wr.cell? ⟨b,off+k,none⟩=some (.int .u64 (x:Int)):=by simpa [UAt] using hat
    have aj:(k:Int)<(n1:Int):=by omega
    have hlk:((l.take k).flatMap (kputB how)).length≤10000000000000:=by
     have:=C7m (l:=l.take k) (f:=kputB how) (c:=10) fun a _=>B2x how a
     rw[List.length_take] at this
     omega
    have ah:=B1a w.heap.size _ _ how x wr hr hb.size (hm x (List.mem_of_getElem? Hx.out)) hlk
    clear hat
    go_wp2_with fail
    refine ah.mono ?_
    rintro e w2 ⟨v2,rfl,hr2,hb2⟩
    obtain⟨a2,n2,c2,rfl,_⟩:=hr2.shape'
    have ag:Row ekY w2 w.heap.size (.slice a2 n2 c2) ((l.take (k+1)).flatMap (kputB how)):=by rw[B2s Hx.out];exact hr2
    clear hr2
    go_wp2_with fail
    go_roundg (n1-(k+1))
    case measure=>omega
    case rel=>exact⟨k+1,a2,n2,c2,by omega,by go_num,rfl,ag,hb.trans hb2⟩
   ·have hr1:Row ekY wr w.heap.size (.slice ao no co) (packedN how l):=by
     rw[List.take_of_length_le (by rw[←H1.out];omega)] at hr;rw[HN.out];exact hr
    clear hr
    go_wp2
    go_ret
    exact⟨ao,no,co,rfl,hr1,hb⟩
theorem D7n (w:World)(n:Nat):∀ ad,some (⟨w.heap.size,0,none⟩:Addr)=some ad→∀ k y,[n][k]?=some y→∀ j u,(ekU.enc y)[j]?=some u→(w.alloc (.cells #[.int .u64 (n:Int)] 63)).cell? (ad.add (k*ekU.size+j))=some u:=B1s ekU w n
theorem B5p {w:World}{v:Value}{l:List Nat}(h:RdL 1 UAt w v l)(hm:∀ n∈l,n≤18446744073709551615)(hl:l.length≤100000000000){fn:Nat}(au:∀ (args:Array Value) (w:World),(callFunc fn args).run Tryz.prog w = .ok (.enter fn args) w)
  {one:Nat→Nat}(ag:∀ (n:Nat) (W:World),n≤18446744073709551615→Calls Tryz.prog fn #[.int .u64 (n:Int)] W fun e w'=>e = .returned (.int .u64 ((one n:Nat):Int))∧W=w') :
  Calls Tryz.prog 148 #[v,.func (.func fn) #[] #[]] w fun e w'=>∃ ao n cap,e = .returned (.slice ao n cap)∧Row ekU w' w.heap.size (.slice ao n cap) (l.map one)∧Below w.heap.size w w':=by
 obtain⟨a1,n1,c1,rfl,H1,_⟩:=h.shape
 have ba:n1≤100000000000:=by rw[H1.out];exact hl
 go_enter Tryz.func148,Tryz.ntmps148
 go_wp2_with fail
 go_loopg [5,10] n1 (fun m u i wr=>∃ (k:Nat) (ao:Option Addr) (no co:Nat),k+m=n1∧i = .int .i64 k∧u = .slice ao no co∧Row ekU wr w.heap.size (.slice ao no co) ((l.map one).take k)∧Below w.heap.size w wr)
 case atStart=>exact⟨0,none,0,0,by omega,rfl,rfl,by rw[List.take_zero];exact Row.nil _ _ _,Below.refl _ _⟩
 case round=>
  obtain⟨k,ao,no,co,hk,rfl,rfl,hr,hb⟩:=hrel
  by_cases hlt:k<n1
  ·obtain⟨x,Hx⟩:∃ x,Hid (l[k]?=some x):=⟨l[k]'(by rw[←H1.out];exact hlt),List.getElem?_eq_getElem (by rw[←H1.out];exact hlt)⟩
   obtain⟨b,off,rfl,hat⟩:=(h.below UAt.stays hb).get UAt.plain Hx.out
   have s0:wr.cell? ⟨b,off+k,none⟩=some (.int .u64 (x:Int)):=by simpa [UAt] using hat
   have aw:(k:Int)<(n1:Int):=by omega
   have ac:=ag x wr (hm x (List.mem_of_getElem? Hx.out))
   obtain⟨y,Hy⟩:∃ y,Hid (one x=y):=⟨_,rfl⟩
   rw[Hy.out] at ac
   have ak:∀ k,(Value.slice ao no co).ownBlock=some k→w.heap.size≤k:=fun k hk=>(hr.own k hk).1
   have hlk:((l.map one).take k).length≤100000000000:=by rw[List.length_take];omega
   clear hat
   go_wp2_with fail
   refine ac.mono ?_
   rintro e w2 ⟨rfl,rfl⟩
   go_wp2_with (at_builtin;refine A2f (by rfl) ekU _ _ (by rfl) w.heap.size (.slice ao no co) ((l.map one).take k) [y] (by rfl) (hr.below ((Below.refl _ _).alloc (Nat.le_refl _) _)) (some ⟨wr.heap.size,0,none⟩) 1 1 (by rfl) (by rfl) (by intro e;cases e) (D7n wr y) (by decide) ?d2 ?d3 ?_)
   case d2=>simp[ekU];omega
   case d3=>simp;have:=hb.size;omega
   intro v' w3 hr3 hg3
   obtain⟨a2,n2,c2,rfl,_⟩:=hr3.shape'
   have aj:Below w.heap.size w w3:=(hb.alloc hb.size _).grown hg3 (by simp;have:=hb.size;omega) ak
   have ah:Row ekU w3 w.heap.size (.slice a2 n2 c2) ((l.map one).take (k+1)):=by
    rw[A0z (a:=y) (by rw[List.getElem?_map,Hx.out,←Hy.out];rfl)];exact hr3
   clear hr3
   go_wp2_with fail
   go_roundg (n1-(k+1))
   case measure=>omega
   case rel=>exact⟨k+1,a2,n2,c2,by omega,by go_num,rfl,ah,aj⟩
  ·have hr1:Row ekU wr w.heap.size (.slice ao no co) (l.map one):=by
    rw[List.take_of_length_le (by rw[List.length_map,←H1.out];omega)] at hr;exact hr
   clear hr
   go_wp2
   go_ret
   exact⟨ao,no,co,rfl,hr1,hb⟩
end L
end Go.Proofs.YtgaoojpakjjdnaaGreatDoor
namespace Go.Proofs.YtgaoojpakjjdnaaGreatDoor
open Go.RowKit
theorem A1u {k:IntKind}{a b:Int}(h:a=b):Ending.returned (.int k a) = .returned (.int k b):=by rw[h]
def A2a (h:Int):Bool:=decide (h=0∨h=1∨h=2∨h=5)
theorem A0d {h:Int}(k:h=0∨h=1∨h=2∨h=5):true=A2a h:=by unfold A2a;simp[k]
theorem A5v {h:Int}(k:¬ (h=0∨h=1∨h=2∨h=5)):false=A2a h:=by unfold A2a;simp only[k,decide_false]
theorem A0h (h:Int)(w:World) :
  Calls Tryz.prog 152 #[.int .i64 h] w fun e w'=>e = .returned (.bool (A2a h))∧w=w':=by
 by_cases k:h=0∨h=1∨h=2∨h=5
 ·rw[←A0d k]
  rcases k with rfl|rfl|rfl|rfl
  all_goals
   go_enter Tryz.func152,Tryz.ntmps152
   go_wp2
   go_ret
   exact⟨rfl,rfl⟩
 ·rw[←A5v k]
  have b0:(h==0)=false:=beq_eq_false_iff_ne.2 (by omega)
  have b1:(h==1)=false:=beq_eq_false_iff_ne.2 (by omega)
  have b2:(h==2)=false:=beq_eq_false_iff_ne.2 (by omega)
  have b5:(h==5)=false:=beq_eq_false_iff_ne.2 (by omega)
  go_enter Tryz.func152,Tryz.ntmps152
  go_wp2
  go_ret
  exact⟨rfl,rfl⟩
def A1v (h:Int):Nat:=if h=1 then 8 else if h=5 then 4 else 0
theorem B0a (h:Int)(w:World) :
  Calls Tryz.prog 209 #[.int .i64 h] w fun e w'=>e = .returned (.int .i64 (A1v h))∧w=w':=by
 by_cases k:h=1∨h=5
 ·rcases k with rfl|rfl
  all_goals
   go_enter Tryz.func209,Tryz.ntmps209
   go_wp2
   go_ret
   exact⟨rfl,rfl⟩
 ·have e:A1v h=0:=by unfold A1v;rw[if_neg (by omega),if_neg (by omega)]
  rw[e]
  have b1:(h==1)=false:=beq_eq_false_iff_ne.2 (by omega)
  have b5:(h==5)=false:=beq_eq_false_iff_ne.2 (by omega)
  clear e
  go_enter Tryz.func209,Tryz.ntmps209
  go_wp2
  go_ret
  exact⟨rfl,rfl⟩
theorem D2u (n:Int)(w:World)(hl:0≤n)(hu:n≤18446744073709551615) :
  Calls Tryz.prog 219 #[.int .u64 n] w fun e w'=>e = .returned (.int .i64 (B1i n))∧w=w':=by
 go_enter Tryz.func219,Tryz.ntmps219
 go_wp2
 ·go_ret
  exact⟨A1u (B6l n hl hu ‹_›),rfl⟩
 ·go_ret
  exact⟨A1u (B3z n hl hu ‹_›),rfl⟩
end Go.Proofs.YtgaoojpakjjdnaaGreatDoor
namespace Go.Proofs.YtgaoojpakjjdnaaGreatDoor
open Go.RowKit
def RdA (w:World)(ao:Option Addr)(len cap:Nat)(l:List UInt8):Prop:=
 l.length=len∧len≤cap∧cap≤maxLen∧(ao=none→cap=0)∧
  ∀ x,ao=some x→∀ i,i<len→w.cell? (x.add i)=some (.int .u8 ((l.getD i 0).toNat:Int))
theorem RdA.at {w:World}{ao:Option Addr}{len cap:Nat}{l:List UInt8}(h:RdA w ao len cap l)(hp:0<len) :
  ∃ b off,ao=some ⟨b,off,none⟩∧b<w.heap.size∧∀ i,i<len→w.cell? ⟨b,off+i,none⟩=some (.int .u8 ((l.getD i 0).toNat:Int)):=by
 obtain⟨h1,h2,h3,h4,h5⟩:=h
 cases ao with
 | none=>have:=h4 rfl;omega
 | some x=>
  obtain⟨b,off,spot⟩:=x
  have hc:=h5 _ rfl 0 hp
  have hspot:spot=none:=by simpa [Addr.add] using World.cell?_spot hc
  subst hspot
  refine⟨b,off,rfl,?_,?_⟩
  ·have:=World.block_lt_of_cell? w _ hc
   simpa [Addr.add] using this
  ·intro i hi
   have:=h5 _ rfl i hi
   have e:(⟨b,off,none⟩:Addr).add i=⟨b,off+i,none⟩:=by unfold Addr.add;split <;> simp_all
   rw[e] at this
   exact this
theorem RdA.later {w w':World}{ao:Option Addr}{len cap:Nat}{l:List UInt8}(h:RdA w ao len cap l)(hb:Below w.heap.size w w'):RdA w' ao len cap l:=by
 obtain⟨h1,h2,h3,h4,h5⟩:=h
 refine⟨h1,h2,h3,h4,fun x hx i hi=>?_⟩
 have hc:=h5 x hx i hi
 rw[hb.cell (World.block_lt_of_cell? w _ hc)]
 exact hc
theorem RdA.nil (w:World):RdA w none 0 0 []:=⟨rfl,Nat.le_refl _,by unfold maxLen;omega,fun _=>rfl,fun _ _ i hi=>absurd hi (by omega)⟩
def OwnB (w:World)(base:Nat)(v:Value)(l:List UInt8):Prop:=
 w.ownsRow base 5 1 v l.length (l.map fun c=>Value.int .u8 (c.toNat:Int))
theorem OwnB.nil (w:World)(base:Nat):OwnB w base (.slice none 0 0) []:=World.ownsRow_nil _ _ _ _
theorem OwnB.rd {w:World}{base:Nat}{v:Value}{l:List UInt8}(h:OwnB w base v l):∃ ao len cap,v = .slice ao len cap∧RdA w ao len cap l:=by
 have hl:=h.1
 rcases h.2 with⟨hv,hn⟩|⟨g,cap,cur,hv,hb,hg,hn,hm,hs,ht⟩
 ·have:l = []:=List.eq_nil_of_length_eq_zero hn
  subst this
  exact⟨none,0,0,hv,RdA.nil w⟩
 ·refine⟨some ⟨g,0,none⟩,l.length,cap,hv,rfl,hn,hm,by simp,?_⟩
  intro x hx i hi
  cases hx
  have:=World.ownsRow.cells h (g:=g) (by rw[hv];rfl) i (.int .u8 ((l.getD i 0).toNat:Int)) (by
   rw[List.getElem?_map,List.getElem?_eq_getElem hi]
   simp[List.getD_eq_getElem?_getD,List.getElem?_eq_getElem hi])
  exact this
theorem OwnB.keptB {w w':World}{base:Nat}{v:Value}{l:List UInt8}(h:OwnB w base v l)(hb:Below w.heap.size w w'):OwnB w' base v l:=by
 refine⟨h.1,?_⟩
 rcases h.2 with hn|⟨g,cap,cur,hv,hbg,hg,r⟩
 ·exact .inl hn
 ·exact .inr ⟨g,cap,cur,hv,hbg,by rw[hb.block g (Array.getElem?_eq_some_iff.1 hg).1];exact hg,r⟩
theorem D8x {k1 k2 k3:IntKind}{a b c a' b' c':Int}(h1:a=a')(h2:b=b')(h3:c=c') :
  Ending.returned (.tuple #[.int k1 a,.int k2 b,.int k3 c]) = .returned (.tuple #[.int k1 a',.int k2 b',.int k3 c']):=by rw[h1,h2,h3]
theorem B5t (ao:Option Addr)(len cap:Nat)(l:List UInt8)(w:World)(hr:RdA w ao len cap l) :
  Calls Tryz.prog 217 #[.slice ao len cap] w fun e w'=>e = .returned (.tuple #[.int .u64 (A4e 0 0 l).1,.int .i64 (A4e 0 0 l).2.1,.int .i64 (A4e 0 0 l).2.2])∧w=w':=by
 have au:len≤9223372036854775807:=by have:=hr.2.1;have:=hr.2.2.1;unfold maxLen at this;omega
 have H0:Hid (A4e 0 0 l=A4e 0 0 (l.drop 0)):=by show _=_;rw[List.drop_zero]
 have Hl:Hid (l.length=len):=hr.1
 by_cases hp:0<len
 ·obtain⟨b,off,rfl,ak,hcell⟩:=hr.at hp
  clear hr
  go_enter Tryz.func217,Tryz.ntmps217
  go_wp2
  go_loop [5,10] (fun a i=>∃ k acc:Nat,k≤len∧k≤9∧Hid (acc<2 ^ (7*k))∧i = .int .i64 k∧a = .int .u64 acc∧Hid (A4e 0 0 l=A4e k acc (l.drop k))) (fun _ i=>len-(intOf i).toNat)
  case atStart=>exact⟨0,0,Nat.zero_le _,Nat.zero_le _,by show(0:Nat)<1;decide,rfl,rfl,H0⟩
  case round=>
   obtain⟨k,acc,hk,ag,ac,rfl,rfl,HR⟩:=hrel
   by_cases hlt:k<len
   ·obtain⟨X,HX⟩:∃ X:Nat,Hid (X=(l.getD k 0).toNat):=⟨_,rfl⟩
    have hc:w.cell? ⟨b,off+k,none⟩=some (.int .u8 (X:Int)):=by rw[HX.out];exact hcell k hlt
    have hX:X<256:=by rw[HX.out];exact UInt8.toNat_lt _
    clear hcell
    by_cases h9:k=9
    ·have ah:((k:Int)==9)=true:=beq_iff_eq.2 (by omega)
     have aj:9≤k:=by omega
     clear h9
     by_cases h1:1<X
     ·go_wp2
      go_ret3
      have e:=D1w (acc:=acc) (by rw[Hl.out];exact hlt) HX.out (by omega) h1
      rw[HR.out,e]
      exact⟨rfl,rfl⟩
     ·have hs:X<128:=by omega
      go_wp2
      go_ret3
      have e:=C1x (acc:=acc) (by rw[Hl.out];exact hlt) HX.out (by omega) hs
      rw[HR.out,e]
      exact⟨D8x (C1i ag ac.out hX (by omega)) (by show(k:Int)+1=((k+1:Nat):Int);omega) rfl,rfl⟩
    ·have ah:((k:Int)==9)=false:=beq_eq_false_iff_ne.2 (by omega)
     by_cases hs:X<128
     ·go_wp2
      go_ret3
      have e:=C1x (acc:=acc) (by rw[Hl.out];exact hlt) HX.out (by omega) hs
      rw[HR.out,e]
      exact⟨D8x (C1i ag ac.out hX (by omega)) (by show(k:Int)+1=((k+1:Nat):Int);omega) rfl,rfl⟩
     ·go_wp2
      go_round
      case rel=>exact⟨k+1,_,by omega,by omega,B6x ac.out,by go_num,congrArg (Value.int .u64) (C1i ag ac.out hX (by omega)),HR.out.trans (D5r (by rw[Hl.out];exact hlt) HX.out h9 hs)⟩
      case measure=>simp[intOf];omega
   ·go_wp2
    go_ret3
    have e:=D1x (l:=l) (k:=k) (acc:=acc) (by rw[Hl.out];omega)
    rw[HR.out,e]
    exact⟨rfl,rfl⟩
 ·go_enter Tryz.func217,Tryz.ntmps217
  have h0:len=0:=by omega
  subst h0
  have hn:l = []:=List.eq_nil_of_length_eq_zero Hl.out
  clear hr H0 Hl
  subst hn
  go_wp2
  refine wp_loop_rounds 1 ?_
  rw[rounds_succ]
  go_wp2
  go_ret3
  exact⟨rfl,rfl⟩
end Go.Proofs.YtgaoojpakjjdnaaGreatDoor
