import Derived.Test.YtgaoojpakjjdnaaGreatDoorV24
set_option maxHeartbeats 32000000
set_option maxRecDepth 100000
set_option linter.unusedVariables false
namespace Go.Proofs.YtgaoojpakjjdnaaGreatDoor
open Go.RowKit
theorem B5q (w:World)(a:Option Addr)(l c:Nat):(binOp .eql 32 (.slice a l c) (.slice none 0 0)).run Tryz.prog w = .ok (.bool a.isNone) w:=
 run_eql_slice_nil w 32 5 a l c Tryz.underlying32
theorem OwnB.made (w:World){base:Nat}(hb:base≤w.heap.size):OwnB (w.alloc (.cells #[] 5)) base (.slice (some ⟨w.heap.size,0,none⟩) 0 0) []:=
 World.ownsRow_made w #[] 0 hb (by unfold maxLen;omega) rfl
theorem C3y (ao:Option Addr)(len cap:Nat)(m:List UInt8)(w:World)(hr:RdA w ao len cap m)(hlen:len≤1000000) :
  Calls Tryz.prog 77 #[.slice ao len cap] w fun e w'=>∃ v',e = .returned v'∧OwnB w' w.heap.size v' m∧Below w.heap.size w w':=by
 have he:=B5q
 cases ao with
 | none=>
  have hm:m = []:=List.eq_nil_of_length_eq_zero (by have:=hr.1;have:=hr.2.1;have:=hr.2.2.2.1 rfl;omega)
  subst hm
  go_enter Tryz.func77,Tryz.ntmps77
  go_wp2
  go_ret
  exact⟨_,rfl,OwnB.nil _ _,Below.refl _ _⟩
 | some x=>
  have hb0:∀ o,Below w.heap.size w (w.alloc o):=fun o=>(Below.refl w.heap.size w).alloc (Nat.le_refl _) o
  have HL:Hid (m.length=len):=hr.1
  have hr1:RdA (w.alloc (.cells #[] 5)) (some x) len cap m:=hr.later (hb0 _)
  go_enter Tryz.func77,Tryz.ntmps77
  go_wp2_with (at_builtin;refine A1s rfl _ _ rfl w.heap.size _ [] m rfl (OwnB.made w (Nat.le_refl _)) (some x) len cap rfl hr1 ?e1 ?e2 ?_)
  case e1=>have:=HL.out;simp;omega
  case e2=>simp
  intro v2 w2 ag ac
  go_wp2
  go_ret
  exact⟨v2,rfl,ag,(hb0 _).trans ac⟩
theorem B5i (x:Addr)(a b:Nat):(x.add a).add b=x.add (a+b):=by
 unfold Addr.add
 split <;> split <;> simp_all <;> omega
theorem RdA.drop {w:World}{ao:Option Addr}{len cap:Nat}{l:List UInt8}(h:RdA w ao len cap l){k:Nat}(hk:k≤len) :
  RdA w (if cap=k then ao else ao.map (·.add k)) (len-k) (cap-k) (l.drop k):=by
 obtain⟨h1,h2,h3,h4,h5⟩:=h
 refine⟨by simp[h1],by omega,by omega,?_,?_⟩
 ·intro hn
  split at hn
  ·omega
  ·have:ao=none:=by simpa using hn
   have:=h4 this
   omega
 ·intro x hx i hi
  rw[if_neg (by omega)] at hx
  cases ao with
  | none=>cases hx
  | some y=>
   simp at hx
   subst hx
   rw[B5i]
   have:=h5 y rfl (k+i) (by omega)
   rw[this]
   simp[List.getElem?_drop]
theorem RdA.take {w:World}{ao:Option Addr}{len cap:Nat}{l:List UInt8}(h:RdA w ao len cap l){k:Nat}(hk:k≤len) :
  RdA w ao k cap (l.take k):=by
 obtain⟨h1,h2,h3,h4,h5⟩:=h
 refine⟨by simp;omega,by omega,h3,h4,?_⟩
 intro x hx i hi
 rw[h5 x hx i (by omega)]
 simp[hi]
theorem D5q (l:List UInt8):∀ (i acc:Nat),acc<2 ^ (7*i)→i≤9→
  (A4e i acc l).1≤18446744073709551615∧(A4e i acc l).2.1≤i+l.length∧(A4e i acc l).2.1≤10∧((A4e i acc l).2.2=0∨(A4e i acc l).2.2=2∨(A4e i acc l).2.2=3)∧((A4e i acc l).2.2=0→i+1≤(A4e i acc l).2.1):=by
 induction l with
 | nil=>intro i acc _ _;rw[A4e];exact⟨by simp,by simp,by simp,.inr (.inl rfl),by simp⟩
 | cons x r ih=>
  intro i acc ac hi
  rw[A4e]
  split
  ·exact⟨by simp,by simp,by simp,.inr (.inr rfl),by simp⟩
  ·rename_i h9
   have hx:x.toNat<256:=UInt8.toNat_lt _
   have hb:acc+x.toNat%128*2 ^ (7*i)≤18446744073709551615:=by
    by_cases h:i≤8
    ·have h1:=D9q h
     have h2:x.toNat%128*2 ^ (7*i)≤127*2 ^ (7*i):=Nat.mul_le_mul_right _ (by omega)
     omega
    ·have ag:i=9:=by omega
     subst ag
     rw[show 2 ^ (7*9)=9223372036854775808 from rfl] at ac ⊢
     omega
   split
   ·exact⟨hb,by simp,by simp;omega,.inl rfl,by simp⟩
   ·have ah:i≠9:=by intro e;apply h9;exact⟨e,by omega⟩
    obtain⟨a,b,c,d,e⟩:=ih (i+1) _ (B6x ac) (by omega)
    exact⟨a,by simp;omega,c,d,fun h=>by have:=e h;omega⟩
theorem A6j {l:List UInt8}{N K E:Nat}(h:A4e 0 0 l=(N,K,E)):N≤18446744073709551615∧K≤l.length∧K≤10∧(E=0∨E=2∨E=3)∧(E=0→1≤K):=by
 have:=D5q l 0 0 (by decide) (by omega)
 rw[h] at this
 simpa using this
theorem C7s {ao:Option Addr}{len cap:Nat}{l:List UInt8}{w:World}(hr:RdA w ao len cap l){N K E:Nat}(h:A4e 0 0 l=(N,K,E)) :
  Calls Tryz.prog 217 #[.slice ao len cap] w fun e w'=>e = .returned (.tuple #[.int .u64 (N:Int),.int .i64 (K:Int),.int .i64 (E:Int)])∧w=w':=by
 have:=B5t ao len cap l w hr
 rw[h] at this
 exact this
theorem A6i {a b c d a' b' c' d':Nat}(e:(a,b,c,d)=(a',b',c',d')):a=a'∧b=b'∧c=c'∧d=d':=by simpa using e
def B6z (N K E:Nat):Nat×Nat×Nat×Nat:=
 if E≠0 then(0,0,0,E)
 else if N / 8<1∨536870912≤N / 8 then(0,0,0,3)
 else if A2a ((N%8:Nat):Int)=false then(0,0,0,1)
 else(N / 8,N%8,K,0)
def B7h (l:List UInt8):Nat×Nat×Nat×Nat:=B6z (A4e 0 0 l).1 (A4e 0 0 l).2.1 (A4e 0 0 l).2.2
theorem C7r {ao:Option Addr}{len cap:Nat}{l:List UInt8}{w:World}(hr:RdA w ao len cap l){A B C D:Nat}(h:B7h l=(A,B,C,D)) :
  Calls Tryz.prog 175 #[.slice ao len cap] w fun e w'=>e = .returned (.tuple #[.int .i64 (A:Int),.int .i64 (B:Int),.int .i64 (C:Int),.int .i64 (D:Int)])∧w=w':=by
 obtain⟨N,K,E,Hg⟩:∃ N K E,Hid (A4e 0 0 l=(N,K,E)):=⟨_,_,_,rfl⟩
 obtain⟨b1,b2,b3,b4,b5⟩:=A6j Hg.out
 have HT:Hid (B6z N K E=(A,B,C,D)):=by show _=_;rw[←h,B7h,Hg.out]
 clear h
 go_enter Tryz.func175,Tryz.ntmps175
 go_wp2_with fail
 refine(C7s hr Hg.out).mono ?_
 rintro e w1 ⟨rfl,rfl⟩
 by_cases h0:E=0
 ·have ag:((E:Int) != 0)=false:=by simp[h0]
  by_cases h1:N / 8<1∨536870912≤N / 8
  ·obtain⟨rfl,rfl,rfl,rfl⟩:=A6i (show(0,0,0,3)=(A,B,C,D) by rw[←HT.out,B6z,if_neg (by omega),if_pos h1])
   clear HT h0
   rcases h1 with h1|h1
   rotate_right
   focus
    have ac:1≤(N:Int) / 8:=by omega
    have ah:536870912≤(N:Int) / 8:=by omega
   rotate_right
   focus
    have ac:(N:Int) / 8<1:=by omega
   all_goals
    clear h1
    go_wp2
    refine bodyPost_ret (v:=.tuple #[.int .i64 0,.int .i64 0,.int .i64 0,.int .i64 3]) (by simp[results,Tryz.results175,go_sem]) rfl ⟨rfl,rfl⟩
  ·obtain⟨Q,HQ⟩:∃ Q,Hid (Q=N / 8):=⟨_,rfl⟩
   obtain⟨M,HM⟩:∃ M,Hid (M=N%8):=⟨_,rfl⟩
   have q1:1≤Q:=by have:=HQ.out;omega
   have q2:Q<536870912:=by have:=HQ.out;omega
   have q3:M<8:=by have:=HM.out;omega
   have q4:(N:Int) / 8=(Q:Int):=by have:=HQ.out;omega
   have q5:(N:Int)%8=(M:Int):=by have:=HM.out;omega
   by_cases h3:A2a (M:Int)=false
   ·obtain⟨rfl,rfl,rfl,rfl⟩:=A6i (show(0,0,0,1)=(A,B,C,D) by rw[←HT.out,B6z,if_neg (by omega),if_neg h1,if_pos (by rw[←HM.out];exact h3)])
    clear HT h0 h1 b1 b2 b3 b4 b5 HM HQ
    have H3:Hid (A2a (M:Int)=false):=h3
    clear h3
    go_wp2_with fail
    refine(A0h _ _).mono ?_
    rintro e w1 ⟨rfl,rfl⟩
    rw[H3.out]
    go_wp2
    refine bodyPost_ret (v:=.tuple #[.int .i64 0,.int .i64 0,.int .i64 0,.int .i64 1]) (by simp[results,Tryz.results175,go_sem]) rfl ⟨rfl,rfl⟩
   ·obtain⟨rfl,rfl,rfl,rfl⟩:=A6i (show(Q,M,K,0)=(A,B,C,D) by rw[←HT.out,B6z,if_neg (by omega),if_neg h1,if_neg (by rw[←HM.out];exact h3),HQ.out,HM.out])
    clear HT h0 h1 b1 b2 b3 b4 b5 HM HQ
    have H3:Hid (A2a (M:Int)=true):=by show _=_;simpa using h3
    clear h3
    go_wp2_with fail
    refine(A0h _ _).mono ?_
    rintro e w1 ⟨rfl,rfl⟩
    rw[H3.out]
    go_wp2
    refine bodyPost_ret (v:=.tuple #[.int .i64 (Q:Int),.int .i64 (M:Int),.int .i64 (K:Int),.int .i64 0]) (by simp[results,Tryz.results175,go_sem]) rfl ⟨rfl,rfl⟩
 ·have ag:((E:Int) != 0)=true:=by rw[bne_iff_ne];omega
  obtain⟨rfl,rfl,rfl,rfl⟩:=A6i (show(0,0,0,E)=(A,B,C,D) by rw[←HT.out,B6z,if_pos h0])
  clear h0 HT
  go_wp2
  refine bodyPost_ret (v:=.tuple #[.int .i64 0,.int .i64 0,.int .i64 0,.int .i64 (E:Int)]) (by simp[results,Tryz.results175,go_sem]) rfl ⟨rfl,rfl⟩
end Go.Proofs.YtgaoojpakjjdnaaGreatDoor
namespace Go.Proofs.YtgaoojpakjjdnaaGreatDoor
open Go.RowKit
def A7h (l:List UInt8)(N K E:Nat):List UInt8×Nat×Nat:=
 if E≠0 then([],0,E)
 else if l.length-K<N then([],0,2)
 else((l.drop K).take N,K+N,0)
def A4h (l:List UInt8):List UInt8×Nat×Nat:=A7h l (A4e 0 0 l).1 (A4e 0 0 l).2.1 (A4e 0 0 l).2.2
theorem A0n {α:Type}{a a' : α}{b c b' c':Nat}(e:(a,b,c)=(a',b',c')):a=a'∧b=b'∧c=c':=by simpa using e
theorem A7w {w:World}{ao:Option Addr}{len cap:Nat}{l:List UInt8}(hr:RdA w ao len cap l){k:Nat}(hk:k≤len)(kd:IntKind) :
  ∃ ac,(∀ w,(Instr.slice 32 (.slice ao len cap) (some (.int kd (k:Int))) none none).run Tryz.prog w = .ok (.slice ac (len-k) (cap-k)) w)∧RdA w ac (len-k) (cap-k) (l.drop k):=by
 refine⟨_,?_,hr.drop hk⟩
 intro w
 have:=run_slice_l (P:=Tryz.prog) (w:=w) 32 ao len cap Tryz.underlying32 kd (k:Int) (by omega) (by omega)
 rw[this]
 have e1:(sizeOf (Tryz.prog.elem 32)).run Tryz.prog w = .ok 1 w:=by rfl
 rw[e1]
 simp[Result.andThen,sliced]
theorem C2y {w:World}{ao:Option Addr}{len cap:Nat}{l:List UInt8}(hr:RdA w ao len cap l){k:Nat}(hk:k≤len)(kd:IntKind) :
  (∀ w,(Instr.slice 32 (.slice ao len cap) none (some (.int kd (k:Int))) none).run Tryz.prog w = .ok (.slice ao k cap) w)∧RdA w ao k cap (l.take k):=by
 refine⟨?_,hr.take hk⟩
 intro w
 have hc:=hr.2.1
 have:=run_slice_h (P:=Tryz.prog) (w:=w) 32 ao len cap Tryz.underlying32 kd (k:Int) (by omega) (by omega)
 rw[this]
 have e1:(sizeOf (Tryz.prog.elem 32)).run Tryz.prog w = .ok 1 w:=by rfl
 rw[e1]
 have e2:ao.map (fun x=>x.add 0)=ao:=by cases ao <;> rfl
 simp[Result.andThen,sliced,e2]
theorem C0h {ao:Option Addr}{len cap:Nat}{l:List UInt8}{w:World}(hr:RdA w ao len cap l)(hlen:len≤4000){A:List UInt8}{B C:Nat}(h:A4h l=(A,B,C)) :
  Calls Tryz.prog 176 #[.slice ao len cap] w fun e w'=>∃ v',e = .returned (.tuple #[v',.int .i64 (B:Int),.int .i64 (C:Int)])∧OwnB w' w.heap.size v' A∧Below w.heap.size w w':=by
 obtain⟨N,K,E,Hg⟩:∃ N K E,Hid (A4e 0 0 l=(N,K,E)):=⟨_,_,_,rfl⟩
 obtain⟨b1,b2,b3,b4,b5⟩:=A6j Hg.out
 have HT:Hid (A7h l N K E=(A,B,C)):=by show _=_;rw[←h,A4h,Hg.out]
 have HL:Hid (l.length=len):=hr.1
 have ah:K≤len:=by rw[←HL.out];exact b2
 have au:len≤cap:=hr.2.1
 have hcm:cap≤9223372036854775807:=by have:=hr.2.2.1;unfold maxLen at this;omega
 clear h b2
 go_enter Tryz.func176,Tryz.ntmps176
 go_wp2_with fail
 refine(C7s hr Hg.out).mono ?_
 rintro e w1 ⟨rfl,rfl⟩
 by_cases h0:E=0
 ·have ag:((E:Int) != 0)=false:=by simp[h0]
  obtain⟨ak,aw,aj⟩:=A7w hr ah .i64
  by_cases h1:len-K<N
  ·obtain⟨rfl,rfl,rfl⟩:=A0n (show([],0,2)=(A,B,C) by rw[←HT.out,A7h,if_neg (by omega),if_pos (by rw[HL.out];exact h1)])
   clear HT h0
   have ac:((len-K:Nat):Int)<(N:Int):=by omega
   go_wp2
   go_ret3
   exact⟨_,rfl,OwnB.nil _ _,Below.refl _ _⟩
  ·obtain⟨rfl,rfl,rfl⟩:=A0n (show((l.drop K).take N,K+N,0)=(A,B,C) by rw[←HT.out,A7h,if_neg (by omega),if_neg (by rw[HL.out];exact h1)])
   clear HT h0
   have ac:(N:Int)≤((len-K:Nat):Int):=by omega
   obtain⟨hst,hrt⟩:=C2y aj (show N≤len-K by omega) .u64
   go_wp2_with fail
   refine(C3y _ _ _ _ _ hrt (by omega)).mono ?_
   rintro e w2 ⟨v2,rfl,ho,hbl⟩
   go_wp2
   go_ret3
   exact⟨v2,rfl,ho,hbl⟩
 ·have ag:((E:Int) != 0)=true:=by rw[bne_iff_ne];omega
  obtain⟨rfl,rfl,rfl⟩:=A0n (show([],0,E)=(A,B,C) by rw[←HT.out,A7h,if_pos h0])
  clear h0 HT
  go_wp2
  go_ret3
  exact⟨_,rfl,OwnB.nil _ _,Below.refl _ _⟩
def A6z:List UInt8→Nat
 | []=>0
 | c::r=>c.toNat+256*A6z r
theorem B5w (l:List UInt8):A6z l<2 ^ (8*l.length):=by
 induction l with
 | nil=>simp[A6z]
 | cons c r ih=>
  rw[A6z,List.length_cons,show 8*(r.length+1)=8*r.length+8 by omega,Nat.pow_add]
  have:c.toNat<256:=UInt8.toNat_lt _
  have e:(2:Nat) ^ 8=256:=rfl
  omega
theorem C4q (l:List UInt8)(c:UInt8):A6z (l++[c])=A6z l+c.toNat*2 ^ (8*l.length):=by
 induction l with
 | nil=>simp[A6z]
 | cons a r ih=>
  rw[List.cons_append,A6z,ih,A6z,List.length_cons,show 8*(r.length+1)=8*r.length+8 by omega,Nat.pow_add]
  have e:(2:Nat) ^ 8=256:=rfl
  rw[e]
  generalize 2 ^ (8*r.length)=p
  rw[←Nat.mul_assoc c.toNat p 256,Nat.mul_comm (c.toNat*p) 256,Nat.mul_add]
  omega
theorem C7u {l:List UInt8}{k W X:Nat}(hk:k<l.length)(hW:k<W)(hX:X=((l.take W).getD k 0).toNat):A6z (l.take (k+1))=A6z (l.take k)+X*2 ^ (8*k):=by
 rw[List.take_succ_eq_append_getElem hk,C4q,List.length_take,Nat.min_eq_left (by omega),hX]
 simp[hW,hk]
theorem D5t {l:List UInt8}{k:Nat}(hk:k≤l.length):A6z (l.take k)<2 ^ (8*k):=by
 have:=B5w (l.take k)
 rwa [List.length_take,Nat.min_eq_left hk] at this
theorem D9a {k acc X:Nat}(hk:k≤7)(ac:acc<2 ^ (8*k))(hX:X<256) :
  bits BinOp.or IntKind.u64 (acc:Int) (IntKind.u64.wrap ((X:Int)*2 ^ (8*k)))=((acc+X*2 ^ (8*k):Nat):Int):=by
 have hp:2 ^ (8*k)≤2 ^ 56:=Nat.pow_le_pow_right (by decide) (by omega)
 have hb:X*2 ^ (8*k)<2 ^ 64:=by
  have h2:X*2 ^ (8*k)≤255*2 ^ (8*k):=Nat.mul_le_mul_right _ (by omega)
  omega
 have e:((X:Int)*2 ^ (8*k))=((X*2 ^ (8*k):Nat):Int):=by simp
 rw[e,B3r _ (by omega) (by exact_mod_cast hb)]
 exact D4w (8*k) acc _ ac (by omega) (Nat.mul_mod_left _ _) hb
def A2z (l:List UInt8)(how:Int):Nat×Nat×Nat:=
 if how=0 then A4e 0 0 l
 else if l.length<A1v how then(0,0,2)
 else(A6z (l.take (A1v how)),A1v how,0)
theorem B4p {ao:Option Addr}{len cap:Nat}{l:List UInt8}{w:World}(hr:RdA w ao len cap l)(how:Int){A B C:Nat}(h:A2z l how=(A,B,C)) :
  Calls Tryz.prog 177 #[.slice ao len cap,.int .i64 how] w fun e w'=>e = .returned (.tuple #[.int .u64 (A:Int),.int .i64 (B:Int),.int .i64 (C:Int)])∧w=w':=by
 have HL:Hid (l.length=len):=hr.1
 have hlc:len≤cap:=hr.2.1
 have hcm:cap≤9223372036854775807:=by have:=hr.2.2.1;unfold maxLen at this;omega
 by_cases h0:how=0
 ·subst h0
  rw[A2z,if_pos rfl] at h
  have Hh:Hid (A4e 0 0 l=(A,B,C)):=h
  clear h
  go_enter Tryz.func177,Tryz.ntmps177
  go_wp2_with fail
  refine(C7s hr Hh.out).mono ?_
  rintro e w1 ⟨rfl,rfl⟩
  go_wp2
  go_ret3
  exact⟨rfl,rfl⟩
 ·have b0:(how==0)=false:=beq_eq_false_iff_ne.2 h0
  rw[A2z,if_neg h0] at h
  obtain⟨W,HW⟩:∃ W,Hid (A1v how=W):=⟨_,rfl⟩
  have ah:W≤8:=by rw[←HW.out];unfold A1v;split <;> (try split) <;> omega
  rw[HW.out,HL.out] at h
  clear h0
  by_cases h1:len<W
  ·rw[if_pos h1] at h
   obtain⟨rfl,rfl,rfl⟩:=A0n h
   clear h
   go_enter Tryz.func177,Tryz.ntmps177
   go_wp2_with (go_at_call 209;refine(B0a how _).mono ?_;rintro e w1 ⟨rfl,rfl⟩;rw[HW.out])
   go_ret3
   exact⟨rfl,rfl⟩
  ·rw[if_neg h1] at h
   obtain⟨rfl,rfl,rfl⟩:=A0n h
   clear h
   obtain⟨hst,hrt⟩:=C2y hr (show W≤len by omega) .i64
   by_cases hp:0<W
   ·obtain⟨b,off,rfl,aj,hcell⟩:=hrt.at hp
    go_enter Tryz.func177,Tryz.ntmps177
    go_wp2_with (go_at_call 209;refine(B0a how _).mono ?_;rintro e w1 ⟨rfl,rfl⟩;rw[HW.out])
    go_loop [8,28] (fun a i=>∃ k acc:Nat,k≤W∧i = .int .i64 k∧a = .int .u64 acc∧Hid (acc=A6z (l.take k))) (fun _ i=>W-(intOf i).toNat)
    case atStart=>exact⟨0,0,Nat.zero_le _,rfl,rfl,rfl⟩
    case round=>
     obtain⟨k,acc,hk,rfl,rfl,HR⟩:=hrel
     by_cases hlt:k<W
     ·obtain⟨X,HX⟩:∃ X:Nat,Hid (X=((l.take W).getD k 0).toNat):=⟨_,rfl⟩
      have hc:w.cell? ⟨b,off+k,none⟩=some (.int .u8 (X:Int)):=by rw[HX.out];exact hcell k hlt
      have hX:X<256:=by rw[HX.out];exact UInt8.toNat_lt _
      clear hcell
      go_wp2
      go_round
      case rel=>
       have ag:k<l.length:=by rw[HL.out];omega
       refine⟨k+1,acc+X*2 ^ (8*k),by omega,by go_num,congrArg (Value.int .u64) (D9a (by omega) (by rw[HR.out];exact D5t (by omega)) hX),?_⟩
       show _=_
       rw[C7u ag hlt HX.out,HR.out]
      case measure=>simp[intOf];omega
     ·go_wp2
      go_ret3
      have ac:k=W:=by omega
      exact⟨D8x (by rw[HR.out,ac]) rfl rfl,rfl⟩
   ·have hW0:W=0:=by omega
    subst hW0
    go_enter Tryz.func177,Tryz.ntmps177
    go_wp2_with (go_at_call 209;refine(B0a how _).mono ?_;rintro e w1 ⟨rfl,rfl⟩;rw[HW.out])
    refine wp_loop_rounds 1 ?_
    rw[rounds_succ]
    go_wp2
    go_ret3
    exact⟨rfl,rfl⟩
end Go.Proofs.YtgaoojpakjjdnaaGreatDoor
namespace Go.Proofs.YtgaoojpakjjdnaaGreatDoor
namespace L
open Go.RowKit
def A3i (kind:Int)(n:Nat):Nat:=
 if kind=2 then(IntKind.u64.wrap (B1i (n:Int))).toNat
 else if kind=4 then min n 1
 else if kind=5 then(if n%4294967296<2147483648 then n%4294967296 else n%4294967296+18446744069414584320)
 else n
def C3h (kind:Int)(fn:Nat):Prop:=
 (∀ (args:Array Value) (w:World),(callFunc fn args).run Tryz.prog w = .ok (.enter fn args) w)∧∀ (n:Nat) (W:World),n≤18446744073709551615→Calls Tryz.prog fn #[.int .u64 (n:Int)] W fun e w'=>e = .returned (.int .u64 ((A3i kind n:Nat):Int))∧W=w'
theorem D2p (n:Nat)(w:World)(hn:n≤18446744073709551615):Calls Tryz.prog 218 #[.int .u64 (n:Int)] w fun e w'=>e = .returned (.int .u64 ((A3i 2 n:Nat):Int))∧w=w':=by
 have ho:=D2u (n:Int) w (by omega) (by omega)
 have HT:Hid (((A3i 2 n:Nat):Int)=IntKind.u64.wrap (B1i (n:Int))):=by
  show _=_
  have h0:0≤IntKind.u64.wrap (B1i (n:Int)):=by rw[IntKind.wrap_u64];omega
  unfold A3i
  rw[if_pos rfl,Int.toNat_of_nonneg h0]
 go_enter Tryz.func218,Tryz.ntmps218
 go_wp2_with fail
 refine ho.mono ?_
 rintro e w1 ⟨rfl,rfl⟩
 go_wp2_with fail
 go_ret
 exact⟨by rw[HT.out];rfl,rfl⟩
theorem D2q (n:Nat)(w:World)(hn:n≤18446744073709551615):Calls Tryz.prog 220 #[.int .u64 (n:Int)] w fun e w'=>e = .returned (.int .u64 ((A3i 4 n:Nat):Int))∧w=w':=by
 have HT:Hid (((A3i 4 n:Nat):Int)=min (n:Int) 1):=by
  show _=_
  unfold A3i
  rw[if_neg (by decide),if_pos rfl]
  omega
 go_enter Tryz.func220,Tryz.ntmps220
 go_wp2_with fail
 all_goals
  go_ret
  first
   | exact⟨by rw[HT.out,show min (n:Int) 1=1 by omega];rfl,rfl⟩
   | exact⟨by rw[HT.out,show min (n:Int) 1=n by omega];rfl,rfl⟩
   | exact⟨by rw[HT.out];rfl,rfl⟩
theorem D2r (n:Nat)(w:World)(hn:n≤18446744073709551615):Calls Tryz.prog 221 #[.int .u64 (n:Int)] w fun e w'=>e = .returned (.int .u64 ((A3i 5 n:Nat):Int))∧w=w':=by
 have HT:Hid (((A3i 5 n:Nat):Int)=IntKind.u64.wrap (wrap32 (n:Int))):=by
  show _=_
  unfold A3i
  rw[if_neg (by decide),if_neg (by decide),if_pos rfl,IntKind.wrap_u64,wrap32]
  split <;> omega
 go_enter Tryz.func221,Tryz.ntmps221
 go_wp2_with fail
 go_ret
 exact⟨by rw[HT.out];rfl,rfl⟩
theorem D2s (n:Nat)(w:World):Calls Tryz.prog 222 #[.int .u64 (n:Int)] w fun e w'=>e = .returned (.int .u64 (n:Int))∧w=w':=by
 go_enter Tryz.func222,Tryz.ntmps222
 go_wp2
 go_ret
 exact⟨rfl,rfl⟩
theorem B8n (kind:Int)(w:World):Calls Tryz.prog 178 #[.int .i64 kind] w fun e w'=>∃ fn:Nat,e = .returned (.func (.func fn) #[] #[])∧C3h kind fn∧w=w':=by
 by_cases h2:kind=2
 ·subst h2
  have HF:Hid (C3h 2 218):=⟨enters_of Tryz.func218 (by kernel_rfl) rfl,D2p⟩
  go_enter Tryz.func178,Tryz.ntmps178
  go_wp2
  go_ret
  exact⟨_,rfl,HF.out,rfl⟩
 ·have b2:(kind==2)=false:=beq_eq_false_iff_ne.2 h2
  by_cases h4:kind=4
  ·subst h4
   have HF:Hid (C3h 4 220):=⟨enters_of Tryz.func220 (by kernel_rfl) rfl,D2q⟩
   clear h2
   go_enter Tryz.func178,Tryz.ntmps178
   go_wp2
   go_ret
   exact⟨_,rfl,HF.out,rfl⟩
  ·have b4:(kind==4)=false:=beq_eq_false_iff_ne.2 h4
   by_cases h5:kind=5
   ·subst h5
    have HF:Hid (C3h 5 221):=⟨enters_of Tryz.func221 (by kernel_rfl) rfl,D2r⟩
    clear h2 h4
    go_enter Tryz.func178,Tryz.ntmps178
    go_wp2
    go_ret
    exact⟨_,rfl,HF.out,rfl⟩
   ·have b5:(kind==5)=false:=beq_eq_false_iff_ne.2 h5
    have HF:Hid (C3h kind 222):=⟨enters_of Tryz.func222 (by kernel_rfl) rfl,fun n W hn=>by
     have:A3i kind n=n:=by unfold A3i;rw[if_neg h2,if_neg h4,if_neg h5]
     rw[this]
     exact D2s n W⟩
    clear h2 h4 h5
    go_enter Tryz.func178,Tryz.ntmps178
    go_wp2
    go_ret
    exact⟨_,rfl,HF.out,rfl⟩
theorem D5a {w:World}{ao:Option Addr}{n cap:Nat}{l:List UInt8}(h:RdL 1 YAt w (.slice ao n cap) l):RdA w ao n cap l:=by
 obtain⟨ac,n',cap',e,h1,h2,h3,h4,h5⟩:=h
 cases e
 refine⟨h1,h2,h3,fun e=>(h4 e).2,fun x hx i hi=>?_⟩
 have hi':i<l.length:=by omega
 have:=h5 x hx i l[i] (List.getElem?_eq_getElem hi')
 rw[Nat.mul_one] at this
 rw[List.getD_eq_getElem?_getD,List.getElem?_eq_getElem hi']
 exact this
def unpGo (how:Int):Nat→List UInt8→List Nat→List Nat×Nat
 | 0,_,acc=>(acc,0)
 | f+1,l,acc=>if l.length=0 then(acc,0) else
  if (A2z l how).2.2≠0 then([],(A2z l how).2.2) else unpGo how f (l.drop (A2z l how).2.1) (acc++[(A2z l how).1])
def unpR (how:Int)(l:List UInt8):List Nat×Nat:=unpGo how l.length l []
end L
end Go.Proofs.YtgaoojpakjjdnaaGreatDoor
namespace Go.Proofs.YtgaoojpakjjdnaaGreatDoor
open Go.RowKit
def A6q (A B C:Nat)(rest:List UInt8):Rcd×Nat×Nat:=
 if B=2 then
  if (A4h rest).2.2≠0 then(⟨0,0,0,[]⟩,0,(A4h rest).2.2)
  else(⟨(A:Int),(B:Int),0,(A4h rest).1⟩,C+(A4h rest).2.1,0)
 else
  if (A2z rest (B:Int)).2.2≠0 then(⟨0,0,0,[]⟩,0,(A2z rest (B:Int)).2.2)
  else(⟨(A:Int),(B:Int),(A2z rest (B:Int)).1,[]⟩,C+(A2z rest (B:Int)).2.1,0)
def A6b (l:List UInt8):Rcd×Nat×Nat:=
 if (B7h l).2.2.2≠0 then(⟨0,0,0,[]⟩,0,(B7h l).2.2.2)
 else A6q (B7h l).1 (B7h l).2.1 (B7h l).2.2.1 (l.drop (B7h l).2.2.1)
theorem B7a {l:List UInt8}{A B C D:Nat}(h:B7h l=(A,B,C,D)):A<536870912∧B<8∧C≤l.length∧C≤10∧D≤3∧(D=0→1≤C∧1≤A∧A2a (B:Int)=true):=by
 obtain⟨N,K,E,hg⟩:∃ N K E,A4e 0 0 l=(N,K,E):=⟨_,_,_,rfl⟩
 obtain⟨b1,b2,b3,b4,b5⟩:=A6j hg
 rw[B7h,hg] at h
 dsimp only at h
 unfold B6z at h
 split at h
 ·obtain⟨rfl,rfl,rfl,rfl⟩:=A6i h;omega
 ·split at h
  ·obtain⟨rfl,rfl,rfl,rfl⟩:=A6i h;omega
  ·split at h
   ·obtain⟨rfl,rfl,rfl,rfl⟩:=A6i h;omega
   ·rename_i h3
    obtain⟨rfl,rfl,rfl,rfl⟩:=A6i h
    refine⟨by omega,by omega,by omega,by omega,by omega,fun _=>⟨b5 (by omega),by omega,?_⟩⟩
    simpa using h3
theorem A9w {l:List UInt8}{A:List UInt8}{B C:Nat}(h:A4h l=(A,B,C)):A.length≤l.length∧B≤l.length∧C≤3∧(C=0→1≤B)∧A.length≤B:=by
 obtain⟨N,K,E,hg⟩:∃ N K E,A4e 0 0 l=(N,K,E):=⟨_,_,_,rfl⟩
 obtain⟨b1,b2,b3,b4,b5⟩:=A6j hg
 rw[A4h,hg] at h
 dsimp only at h
 unfold A7h at h
 split at h
 ·obtain⟨rfl,rfl,rfl⟩:=A0n h;simp;omega
 ·split at h
  ·obtain⟨rfl,rfl,rfl⟩:=A0n h;simp
  ·obtain⟨rfl,rfl,rfl⟩:=A0n h;simp;omega
theorem B1r {l:List UInt8}{how:Int}{A B C:Nat}(h:A2z l how=(A,B,C)):A≤18446744073709551615∧B≤l.length∧B≤10∧C≤3:=by
 unfold A2z at h
 split at h
 ·obtain⟨b1,b2,b3,b4,b5⟩:=A6j h
  omega
 ·split at h
  ·obtain⟨rfl,rfl,rfl⟩:=A0n h;omega
  ·obtain⟨rfl,rfl,rfl⟩:=A0n h
   have hw:A1v how≤8:=by unfold A1v;split <;> (try split) <;> omega
   have:=B5w (l.take (A1v how))
   have hp:2 ^ (8*(l.take (A1v how)).length)≤2 ^ 64:=Nat.pow_le_pow_right (by decide) (by simp;omega)
   omega
theorem D4k {w w':World}{B g t:Nat}{a b c d:Value}(h:w.heap[g]?=some (.cells #[a,b,c,d] t (0,0)))(hb:Below B w w')(hg:g<B) :
  (w'.cell? ⟨g,0,none⟩=some a∧w'.cell? ⟨g,1,none⟩=some b∧w'.cell? ⟨g,2,none⟩=some c∧w'.cell? ⟨g,3,none⟩=some d)∧
  (w'.frozen? ⟨g,0,none⟩=false∧w'.frozen? ⟨g,1,none⟩=false∧w'.frozen? ⟨g,2,none⟩=false∧w'.frozen? ⟨g,3,none⟩=false):=by
 have h':w'.heap[g]?=some (.cells #[a,b,c,d] t (0,0)):=by rw[hb.block g hg];exact h
 simp[World.cell?,World.frozen?,h']
theorem B7z {ao:Option Addr}{len cap:Nat}{l:List UInt8}{w:World}(hr:RdA w ao len cap l)(hlen:len≤4000){r:Rcd}{n E:Nat}(h:A6b l=(r,n,E)) :
  Calls Tryz.prog 102 #[.slice ao len cap] w fun e w'=>∃ v',e = .returned (.tuple #[.agg #[.int .i64 r.num,.int .i64 r.how,.int .u64 (r.bits:Int),v'],.int .i64 (n:Int),.int .i64 (E:Int)])∧OwnB w' w.heap.size v' r.bytes∧Below w.heap.size w w':=by
 have HL:Hid (l.length=len):=hr.1
 obtain⟨A,B,C,D,HT⟩:∃ A B C D,Hid (B7h l=(A,B,C,D)):=⟨_,_,_,_,rfl⟩
 obtain⟨t1,t2,t3,t4,t5,t6⟩:=B7a HT.out
 rw[A6b,HT.out] at h
 dsimp only at h
 have bc:C≤len:=by rw[←HL.out];exact t3
 have hb0:Below w.heap.size w (w.alloc (.cells #[.int .i64 0,.int .i64 0,.int .u64 0,.slice none 0 0] 106)):=(Below.refl _ _).alloc (Nat.le_refl _) _
 go_enter Tryz.func102,Tryz.ntmps102
 have Hh:Hid _:=h
 clear h t3
 go_wp2_with fail
 refine(C7r (hr.later hb0) HT.out).mono ?_
 rintro e w1 ⟨rfl,rfl⟩
 by_cases h0:D=0
 ·have bg:((D:Int) != 0)=false:=by simp[h0]
  obtain⟨c1,c2,c3⟩:=t6 h0
  have H2:Hid (A6q A B C (l.drop C)=(r,n,E)):=by show _=_;rw[←Hh.out,if_neg (by omega)]
  clear Hh h0 t6 c3
  obtain⟨bk,bn,bh⟩:=A7w hr bc .i64
  have hb2:Below w.heap.size w ((w.alloc (.cells #[.int .i64 0,.int .i64 0,.int .u64 0,.slice none 0 0] 106)).alloc (.cells #[.int .i64 (A:Int),.int .i64 (B:Int),.int .u64 0,.slice none 0 0] 106)):=hb0.alloc (by simp) _
  have ah:=bh.later hb2
  by_cases hB:B=2
  ·have ba:((B:Int)==2)=true:=by simp[hB]
   obtain⟨S,T,U,Hs⟩:∃ S T U,Hid (A4h (l.drop C)=(S,T,U)):=⟨_,_,_,rfl⟩
   obtain⟨s1,s2,s3,s4,s5⟩:=A9w Hs.out
   have H3:Hid ((if U≠0 then(⟨0,0,0,[]⟩,0,U) else(⟨(A:Int),(B:Int),0,S⟩,C+T,0))=(r,n,E)):=by
    show _=_
    rw[←H2.out,A6q,if_pos hB,Hs.out]
   have hT:T≤4000:=by have:=HL.out;simp at s2;omega
   clear H2 hB s1 s2 s4 s5
   go_wp2_with fail
   refine(C0h ah (by omega) Hs.out).mono ?_
   rintro e w2 ⟨v2,rfl,ho,hbl⟩
   obtain⟨⟨p0,p1,p2,p3⟩,p4,p5,p6,p7⟩:=D4k (g:=w.heap.size) (t:=106) (a:=.int .i64 0) (b:=.int .i64 0) (c:=.int .u64 0) (d:=.slice none 0 0) (by rw[Below.heap_alloc _ _ _ (by simp)];exact heap_alloc_new w _) hbl (by simp;omega)
   obtain⟨⟨q0,q1,q2,q3⟩,q4,q5,q6,q7⟩:=D4k (g:=w.heap.size+1) (t:=106) (a:=.int .i64 (A:Int)) (b:=.int .i64 (B:Int)) (c:=.int .u64 0) (d:=.slice none 0 0) (by have:=heap_alloc_new (w.alloc (.cells #[.int .i64 0,.int .i64 0,.int .u64 0,.slice none 0 0] 106)) (.cells #[.int .i64 (A:Int),.int .i64 (B:Int),.int .u64 0,.slice none 0 0] 106);simpa using this) hbl (by simp)
   have au:Below w.heap.size w w2:=hb2.trans (hbl.mono (by simp;omega))
   obtain⟨aj,ag,ac,hv3,hr3⟩:=ho.rd
   have HV:Hid (v2 = .slice aj ag ac):=hv3
   rw[hv3]
   clear hv3
   by_cases hU:U=0
   ·have ak:((U:Int) != 0)=false:=by simp[hU]
    obtain⟨rfl,rfl,rfl⟩:=A0n (show(⟨(A:Int),(B:Int),0,S⟩,C+T,0)=(r,n,E) by rw[←H3.out,if_neg (by omega)])
    clear hU H3
    go_wp2
    refine bodyPost_ret (v:=.tuple #[.agg #[.int .i64 (A:Int),.int .i64 (B:Int),.int .u64 0,.slice aj ag ac],.int .i64 ((C+T:Nat):Int),.int .i64 0]) (by simp[results,Tryz.results102,go_sem,p0,p1,p2,p3]) rfl ⟨_,rfl,?_,?_⟩
    ·have aw:=ho
     rw[HV.out] at aw
     have:=ownsRow_setCell_below (ownsRow_setCell_below (ownsRow_setCell_below (ownsRow_setCell_below (ownsRow_setCell_below aw (a:=⟨w.heap.size+1,3,none⟩) (by simp) (.slice aj ag ac)) (a:=⟨w.heap.size,0,none⟩) (by simp;omega) (.int .i64 (A:Int))) (a:=⟨w.heap.size,1,none⟩) (by simp;omega) (.int .i64 (B:Int))) (a:=⟨w.heap.size,2,none⟩) (by simp;omega) (.int .u64 0)) (a:=⟨w.heap.size,3,none⟩) (by simp;omega) (.slice aj ag ac)
     exact OwnB.mono this (by simp;omega)
    ·exact((((au.setCell (by simp) _).setCell (Nat.le_refl _) _).setCell (Nat.le_refl _) _).setCell (Nat.le_refl _) _).setCell (Nat.le_refl _) _
   ·have ak:((U:Int) != 0)=true:=by rw[bne_iff_ne];omega
    obtain⟨rfl,rfl,rfl⟩:=A0n (show(⟨0,0,0,[]⟩,0,U)=(r,n,E) by rw[←H3.out,if_pos hU])
    clear hU H3
    go_wp2
    refine bodyPost_ret (v:=.tuple #[.agg #[.int .i64 0,.int .i64 0,.int .u64 0,.slice none 0 0],.int .i64 0,.int .i64 (U:Int)]) (by simp[results,Tryz.results102,go_sem,p0,p1,p2,p3]) rfl ⟨_,rfl,OwnB.nil _ _,?_⟩
    exact((((au.setCell (by simp) _).setCell (Nat.le_refl _) _).setCell (Nat.le_refl _) _).setCell (Nat.le_refl _) _).setCell (Nat.le_refl _) _
  ·have ba:((B:Int)==2)=false:=by simp;omega
   obtain⟨S,T,U,Hs⟩:∃ S T U,Hid (A2z (l.drop C) (B:Int)=(S,T,U)):=⟨_,_,_,rfl⟩
   obtain⟨s1,s2,s3,s4⟩:=B1r Hs.out
   have H3:Hid ((if U≠0 then(⟨0,0,0,[]⟩,0,U) else(⟨(A:Int),(B:Int),S,[]⟩,C+T,0))=(r,n,E)):=by
    show _=_
    rw[←H2.out,A6q,if_neg hB,Hs.out]
   clear H2 hB s2
   go_wp2_with fail
   refine(B4p ah (B:Int) Hs.out).mono ?_
   rintro e w2 ⟨rfl,rfl⟩
   by_cases hU:U=0
   ·have ak:((U:Int) != 0)=false:=by simp[hU]
    obtain⟨rfl,rfl,rfl⟩:=A0n (show(⟨(A:Int),(B:Int),S,[]⟩,C+T,0)=(r,n,E) by rw[←H3.out,if_neg (by omega)])
    clear hU H3
    go_wp2
    refine bodyPost_ret (v:=.tuple #[.agg #[.int .i64 (A:Int),.int .i64 (B:Int),.int .u64 (S:Int),.slice none 0 0],.int .i64 ((C+T:Nat):Int),.int .i64 0]) (by simp[results,Tryz.results102,go_sem]) rfl ⟨_,rfl,OwnB.nil _ _,?_⟩
    exact((Below.refl _ _).alloc (Nat.le_refl _) _).alloc (by simp) _
   ·have ak:((U:Int) != 0)=true:=by rw[bne_iff_ne];omega
    obtain⟨rfl,rfl,rfl⟩:=A0n (show(⟨0,0,0,[]⟩,0,U)=(r,n,E) by rw[←H3.out,if_pos hU])
    clear hU H3
    go_wp2
    refine bodyPost_ret (v:=.tuple #[.agg #[.int .i64 0,.int .i64 0,.int .u64 0,.slice none 0 0],.int .i64 0,.int .i64 (U:Int)]) (by simp[results,Tryz.results102,go_sem]) rfl ⟨_,rfl,OwnB.nil _ _,?_⟩
    exact((Below.refl _ _).alloc (Nat.le_refl _) _).alloc (by simp) _
 ·have bg:((D:Int) != 0)=true:=by rw[bne_iff_ne];omega
  obtain⟨rfl,rfl,rfl⟩:=A0n (show(⟨0,0,0,[]⟩,0,D)=(r,n,E) by rw[←Hh.out,if_pos h0])
  clear Hh h0
  go_wp2
  refine bodyPost_ret (v:=.tuple #[.agg #[.int .i64 0,.int .i64 0,.int .u64 0,.slice none 0 0],.int .i64 0,.int .i64 (D:Int)]) (by simp[results,Tryz.results102,go_sem]) rfl ⟨_,rfl,OwnB.nil _ _,?_⟩
  exact hb0
end Go.Proofs.YtgaoojpakjjdnaaGreatDoor
