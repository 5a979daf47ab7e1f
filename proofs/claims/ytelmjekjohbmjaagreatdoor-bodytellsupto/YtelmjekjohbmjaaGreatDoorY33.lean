import Derived.Test.YtelmjekjohbmjaaGreatDoorY19
import Derived.Lib.ConvBytes
import Derived.Lib.SmallJoins
namespace Go.Proofs.YtelmjekjohbmjaaGreatDoor
namespace L
def A2q (g:GI) (x:FI):Int:=
 if x.kind=5 then(if A0i (fun m=>decide (m.name=x.type)) g.enums < 0 then 6 else 0)
 else if x.kind=10 then(if A0i (fun m=>decide (m.name=x.type)) g.msgs < 0 then 6 else 0)
 else if 1≤x.kind∧x.kind≤9 then(if x.type = [] then 0 else 8)
 else 1
def A4p:List FI→Int×Int→Int×Int
 | [],s=>s
 | y::l,s=>A4p l (if y.choice≠0∧y.choice≠s.2 then s.1+1 else s.1,y.choice)
theorem B5k (l:List FI) (y:FI) (s:Int×Int):A4p (l++[y]) s=(if y.choice≠0∧y.choice≠(A4p l s).2 then(A4p l s).1+1 else(A4p l s).1,y.choice):=by
 induction l generalizing s with
 | nil=>rfl
 | cons x l ih=>rw[List.cons_append,A4p,ih];rfl
def A7u (g:GI) (bar:List Int) (ahead:List FI) (x:FI):Int:=
 if A1q x.name=false then 7
 else if x.name∈ahead.map FI.name then 7
 else if A9n x.number=false then 3
 else if x.number∈bar then 8
 else if x.number∈ahead.map FI.number then 8
 else if A2q g x≠0 then A2q g x
 else if x.many=true∧0 < x.choice then 8
 else if A5b (A4p ahead (0,0)).2 (A4p ahead (0,0)).1 x.choice=true then 2 else 0
def A4r (g:GI) (bar:List Int):List FI→List FI→Int
 | _,[]=>0
 | pre,x::l=>if A7u g bar pre x≠0 then A7u g bar pre x else A4r g bar (pre++[x]) l
theorem A5g {α:Type} [DecidableEq α] (x y : α) (l:List α):y∈A4g x l↔y∈l∨y=x:=by
 unfold A4g
 split
 ·rename_i h;constructor
  ·exact fun h=>.inl h
  ·rintro(h1|rfl)
   ·exact h1
   ·exact h
 ·simp
structure Agr (pre:List FI) (s:Mem):Prop where
 nm:∀ y,y∈s.names↔y∈pre.map FI.name
 nu:∀ y,y∈s.nums↔y∈pre.map FI.number
 ch:A4p pre (0,0)=(s.begun,s.last)
 b0:0≤s.begun
 lb:s.last≤s.begun
theorem Agr.next {g:GI}{bar:List Int}{pre:List FI}{s:Mem}{x:FI}(h:Agr pre s) (hp:A6b g bar x s=true):Agr (pre++[x]) (A9d x s):=by
 have hm:A5b s.last s.begun x.choice=false:=by
  simp only[A6b,Bool.and_eq_true,Bool.not_eq_true'] at hp
  exact hp.2.2.2.2.2.2
 have hb:=h.b0
 have hl:=h.lb
 have hc:x.choice=0∨x.choice=s.last∨x.choice=s.begun+1:=by
  simp only[A5b,Bool.and_eq_false_iff,decide_eq_false_iff_not,ne_eq,Decidable.not_not] at hm
  exact hm
 refine⟨?_,?_,?_,?_,?_⟩
 ·intro y
  simp only[A9d,List.map_append,List.map_cons,List.map_nil,List.mem_append,List.mem_singleton]
  rw[A5g,h.nm]
 ·intro y
  simp only[A9d,List.map_append,List.map_cons,List.map_nil,List.mem_append,List.mem_singleton]
  rw[A5g,h.nu]
 ·rw[B5k,h.ch]
  simp only[A9d,Prod.mk.injEq,and_true]
  split <;> omega
 ·simp only[A9d];omega
 ·simp only[A9d];omega
theorem B7e {g:GI}{bar:List Int}{pre:List FI}{s:Mem}(x:FI) (h:Agr pre s) :
  (A6b g bar x s=true∧A7u g bar pre x=0)∨∃ s',A0l (A1a g bar) 0 A2p x s=(some (A7u g bar pre x),s')∧A7u g bar pre x≠0:=by
 have e1:decide (x.name∈s.names)=decide (x.name∈pre.map FI.name):=by rw[Bool.eq_iff_iff];simp only[decide_eq_true_eq];exact h.nm _
 have e2:decide (x.number∈s.nums)=decide (x.number∈pre.map FI.number):=by rw[Bool.eq_iff_iff];simp only[decide_eq_true_eq];exact h.nu _
 have e3:=h.ch
 cases h0:A1q x.name with
 | false=>exact .inr ⟨_,by simp only[A2p,A0l,A1a,A7u];rw[h0];rfl,by simp[A7u,h0]⟩
 | true=>
  by_cases hn:x.name∈pre.map FI.name
  ·have:decide (x.name∈s.names)=true:=by rw[e1];simpa using hn
   have hr:A7u g bar pre x=7:=by simp only[A7u];rw[h0,if_neg (by simp),if_pos hn]
   rw[hr]
   exact .inr ⟨_,by simp only[A2p,A0l,A1a];rw[h0,this];rfl,by decide⟩
  ·have t1:decide (x.name∈s.names)=false:=by rw[e1];simpa using hn
   cases h1:A9n x.number with
   | false=>
    have hr:A7u g bar pre x=3:=by simp only[A7u];rw[h0,h1,if_neg (by simp),if_neg hn];rfl
    rw[hr]
    exact .inr ⟨_,by simp only[A2p,A0l,A1a];rw[h0,t1,h1];rfl,by decide⟩
   | true=>
    by_cases hb:x.number∈bar
    ·have:decide (x.number∈bar)=true:=by simpa using hb
     have hr:A7u g bar pre x=8:=by simp only[A7u];rw[h0,h1,if_neg (by simp),if_neg hn,if_neg (by simp),if_pos hb]
     rw[hr]
     exact .inr ⟨_,by simp only[A2p,A0l,A1a];rw[h0,t1,h1,this];rfl,by decide⟩
    ·have t2:decide (x.number∈bar)=false:=by simpa using hb
     by_cases hu:x.number∈pre.map FI.number
     ·have:decide (x.number∈s.nums)=true:=by rw[e2];simpa using hu
      have hr:A7u g bar pre x=8:=by simp only[A7u];rw[h0,h1,if_neg (by simp),if_neg hn,if_neg (by simp),if_neg hb,if_pos hu]
      rw[hr]
      exact .inr ⟨_,by simp only[A2p,A0l,A1a];rw[h0,t1,h1,t2,this];rfl,by decide⟩
     ·have t3:decide (x.number∈s.nums)=false:=by rw[e2];simpa using hu
      have hR:A7u g bar pre x=if A2q g x≠0 then A2q g x else if x.many=true∧0 < x.choice then 8 else if A5b s.last s.begun x.choice=true then 2 else 0:=by
       simp only[A7u];rw[h0,h1,if_neg (by simp),if_neg hn,if_neg (by simp),if_neg hb,if_neg hu,e3]
      rw[hR]
      have hK:(A2q g x=1∧(decide (x.kind < 1)||decide (10 < x.kind))=true)∨(A2q g x=6∧(decide (x.kind < 1)||decide (10 < x.kind))=false∧A9o g x=false)∨(A2q g x=8∧(decide (x.kind < 1)||decide (10 < x.kind))=false∧A9o g x=true∧A6a x=true)∨(A2q g x=0∧(decide (x.kind < 1)||decide (10 < x.kind))=false∧A9o g x=true∧A6a x=false):=by
       unfold A2q A9o A6a
       by_cases k5:x.kind=5
       ·by_cases q:A0i (fun m=>decide (m.name=x.type)) g.enums < 0
        ·simp[k5,q] <;> (try omega)
        ·simp[k5,q] <;> (try omega)
       ·by_cases k10:x.kind=10
        ·by_cases q:A0i (fun m=>decide (m.name=x.type)) g.msgs < 0
         ·simp[k10,q] <;> (try omega)
         ·simp[k10,q] <;> (try omega)
        ·by_cases k9:1≤x.kind∧x.kind≤9
         ·have a1:¬ x.kind < 1:=by omega
          have a2:¬ 10 < x.kind:=by omega
          by_cases q:x.type = []
          ·simp[k5,k10,k9,q,a1,a2]
          ·simp[k5,k10,k9,q,a1,a2]
         ·have:x.kind < 1∨10 < x.kind:=by omega
          simp[k5,k10,k9,this]
      rcases hK with⟨k1,k2⟩|⟨k1,k2,k3⟩|⟨k1,k2,k3,k4⟩|⟨k1,k2,k3,k4⟩
      ·rw[k1,if_pos (by decide)];exact .inr ⟨_,by simp only[A2p,A0l,A1a];rw[h0,t1,h1,t2,t3,k2];rfl,by decide⟩
      ·rw[k1,if_pos (by decide)];exact .inr ⟨_,by simp only[A2p,A0l,A1a];rw[h0,t1,h1,t2,t3,k2,k3];rfl,by decide⟩
      ·rw[k1,if_pos (by decide)];exact .inr ⟨_,by simp only[A2p,A0l,A1a];rw[h0,t1,h1,t2,t3,k2,k3,k4];rfl,by decide⟩
      ·rw[k1,if_neg (by decide)]
       by_cases hm:x.many=true∧0 < x.choice
       ·have tm:(A6a x||(decide (0 < x.choice)&&x.many))=true:=by simp[hm.1,hm.2]
        rw[if_pos hm]
        exact .inr ⟨_,by simp only[A2p,A0l,A1a];rw[h0,t1,h1,t2,t3,k2,k3,tm];rfl,by decide⟩
       ·have tm:(A6a x||(decide (0 < x.choice)&&x.many))=false:=by
         rw[k4,Bool.false_or,Bool.and_eq_false_iff]
         by_cases q:0 < x.choice
         ·right;cases e:x.many with
          | true=>exact absurd ⟨e,q⟩ hm
          | false=>rfl
         ·left;simpa using q
        rw[if_neg hm]
        cases h6:A5b s.last s.begun x.choice with
        | true=>
         exact .inr ⟨_,by simp only[A2p,A0l,A1a];rw[h0,t1,h1,t2,t3,k2,k3,tm,h6];rfl,by decide⟩
        | false=>
         refine .inl ⟨?_,rfl⟩
         unfold A6b
         rw[h0,t1,h1,t2,t3,k2,k3,tm,h6];rfl
theorem A9r {g:GI}{bar:List Int}:∀ (l:List FI) (i:Nat) (pre:List FI) (s:Mem),Agr pre s→(A0h (A1a g bar) A2p i l s).1=A4r g bar pre l
 | [],_,_,_,_=>rfl
 | x::l,i,pre,s,h=>by
  rcases B7e (g:=g) (bar:=bar) x h with⟨h1,h2⟩|⟨s',h1,h2⟩
  ·rw[A0h,A8o h1,A4r,if_neg (by simp[h2])]
   exact A9r l (i+1) _ _ (h.next h1)
  ·rw[A0h,h1,A4r,if_pos h2]
theorem B4z (g:GI) (m:MI):A2n g m=if 16 < m.fields.length∨16 < m.barred.length then 5 else if m.barred.any A5e then 3 else A4r g m.barred [] m.fields:=by
 unfold A2n
 rw[A9r m.fields 0 [] B0w ⟨fun _=>by simp[B0w],fun _=>by simp[B0w],rfl,by simp[B0w],by simp[B0w]⟩]
def B1v (ahead:List II) (x:II):Int:=
 if x.name∈ahead.map II.name then 7
 else if A1q x.name=false then 7
 else if x.value < -2147483648∨2147483647 < x.value then 3
 else if x.value∈ahead.map II.value∨(ahead = []∧x.value≠0) then 8 else 0
def A3h:List II→List II→Int
 | _,[]=>0
 | pre,x::l=>if B1v pre x≠0 then B1v pre x else A3h (pre++[x]) l
theorem A8g:∀ (l:List II) (n:Int) (i:Nat) (pre:List II) (s:List (List UInt8)×List Int),(∀ y,y∈s.1↔y∈pre.map II.name)→(∀ y,y∈s.2↔y∈pre.map II.value)→(pre = []→∀ x,l.head?=some x→n=x.value)→(pre≠[]→n=0)→(A0h (A2t n) [7,3,8] i l s).1=A3h pre l
 | [],_,_,_,_,_,_,_,_=>rfl
 | x::l,n,i,pre,s,hn,hv,h0,h1=>by
  have e1:decide (x.name∈s.1)=decide (x.name∈pre.map II.name):=by rw[Bool.eq_iff_iff];simp only[decide_eq_true_eq];exact hn _
  have e2:decide (x.value∈s.2)=decide (x.value∈pre.map II.value):=by rw[Bool.eq_iff_iff];simp only[decide_eq_true_eq];exact hv _
  have hnz:decide (n≠0)=decide (pre = []∧x.value≠0):=by
   rw[Bool.eq_iff_iff];simp only[decide_eq_true_eq]
   by_cases hp:pre = []
   ·rw[h0 hp x rfl];simp[hp]
   ·rw[h1 hp];simp[hp]
  rw[A3h,A0h]
  by_cases q1:x.name∈pre.map II.name
  ·have t1:decide (x.name∈s.1)=true:=by rw[e1];simpa using q1
   have hr:B1v pre x=7:=by rw[B1v,if_pos q1]
   rw[hr,if_pos (by decide)]
   simp only[A0l,A2t,t1,Bool.or_true,if_true]
  ·have t1:decide (x.name∈s.1)=false:=by rw[e1];simpa using q1
   cases q2:A1q x.name with
   | false=>
    have hr:B1v pre x=7:=by rw[B1v,if_neg q1,if_pos q2]
    rw[hr,if_pos (by decide)]
    simp only[A0l,A2t,q2,Bool.not_false,Bool.true_or,if_true]
   | true=>
    by_cases q3:x.value < -2147483648∨2147483647 < x.value
    ·have hr:B1v pre x=3:=by rw[B1v,if_neg q1,if_neg (by rw[q2];simp),if_pos q3]
     have t3:(decide (x.value < -2147483648)||decide (2147483647 < x.value))=true:=by simpa using q3
     rw[hr,if_pos (by decide)]
     simp only[A0l,A2t,q2,t1,t3,Bool.not_true,Bool.or_false,if_true]
     rfl
    ·have t3:(decide (x.value < -2147483648)||decide (2147483647 < x.value))=false:=by simpa using q3
     by_cases q4:x.value∈pre.map II.value∨(pre = []∧x.value≠0)
     ·have hr:B1v pre x=8:=by rw[B1v,if_neg q1,if_neg (by rw[q2];simp),if_neg q3,if_pos q4]
      have t4:(decide (n≠0)||decide (x.value∈s.2))=true:=by
       rw[hnz,e2];simp only[Bool.or_eq_true,decide_eq_true_eq];exact q4.symm
      rw[hr,if_pos (by decide)]
      simp only[A0l,A2t,q2,t1,t3,t4,Bool.not_true,Bool.or_false,if_true]
      rfl
     ·have hr:B1v pre x=0:=by rw[B1v,if_neg q1,if_neg (by rw[q2];simp),if_neg q3,if_neg q4]
      have t4:(decide (n≠0)||decide (x.value∈s.2))=false:=by
       rw[hnz,e2,Bool.or_eq_false_iff];simp only[decide_eq_false_iff_not]
       exact⟨fun h=>q4 (.inr h),fun h=>q4 (.inl h)⟩
      rw[hr,if_neg (by decide)]
      have hgo:A0l (A2t n) 0 [7,3,8] x s=(none,(A4g x.name s.1,A4g x.value s.2)):=by
       simp only[A0l,A2t,q2,t1,t3,t4,Bool.not_true,Bool.or_false]
       rfl
      rw[hgo]
      refine A8g l n (i+1) (pre++[x]) _ ?_ ?_ (fun h=>by simp at h) (fun _=>?_)
      ·intro y
       simp only[List.map_append,List.map_cons,List.map_nil,List.mem_append,List.mem_singleton]
       rw[A5g,hn]
      ·intro y
       simp only[List.map_append,List.map_cons,List.map_nil,List.mem_append,List.mem_singleton]
       rw[A5g,hv]
      ·have:=(Bool.or_eq_false_iff.1 t4).1
       simpa using this
theorem B4y (e:EI):A3o e=if e.items.length < 1∨16 < e.items.length then 5 else A3h [] e.items:=by
 unfold A3o
 split
 ·rfl
 ·rename_i h
  refine A8g e.items _ 0 [] ([],[]) (fun _=>by simp) (fun _=>by simp) (fun _ x hx=>?_) (fun h=>by simp at h)
  cases hi:e.items with
  | nil=>rw[hi] at hx;cases hx
  | cons y r=>rw[hi] at hx;cases hx;rfl
def A6j (s:List UInt8):Bool:=!A7d s&&A1q s
def A4l:Nat→List (List UInt8)→List (List UInt8)→Int×Nat
 | _,_,[]=>(0,0)
 | i,pre,s::l=>if A6j s=false∨s∈pre then(7,i) else A4l (i+1) (pre++[s]) l
theorem A8h:∀ (l:List (List UInt8)) (i:Nat) (pre s:List (List UInt8)),(∀ y,y∈s↔y∈pre)→A0h A5r [7] i l s=A4l i pre l
 | [],_,_,_,_=>rfl
 | x::l,i,pre,s,h=>by
  have e:A7g x s=decide (A6j x=false∨x∈pre):=by
   rw[Bool.eq_iff_iff]
   simp only[A7g,A6j,Bool.or_eq_true,Bool.not_eq_true',decide_eq_true_eq,Bool.and_eq_false_iff,Bool.not_eq_false',h]
   constructor
   ·rintro(h|h|h)
    ·exact .inl (.inr h)
    ·exact .inl (.inl h)
    ·exact .inr h
   ·rintro((h|h)|h)
    ·exact .inr (.inl h)
    ·exact .inl h
    ·exact .inr (.inr h)
  rw[A0h,A4l]
  by_cases q:A6j x=false∨x∈pre
  ·rw[if_pos q]
   simp only[A0l,A5r,e,q,decide_true,if_true]
  ·rw[if_neg q]
   have hgo:A0l A5r 0 [7] x s=(none,A4g x s):=by
    simp only[A0l,A5r,e,q,decide_false]
    rfl
   rw[hgo]
   refine A8h l (i+1) _ _ ?_
   intro y
   rw[A5g,h];simp
end L
end Go.Proofs.YtelmjekjohbmjaaGreatDoor
namespace Go.Proofs.YtelmjekjohbmjaaGreatDoor
namespace L
open Go.RowKit
set_option maxHeartbeats 1000000 in
theorem A7q (c:UInt8) (w:World):Calls Tryz.prog 109 #[.int .u8 (c.toNat:Int)] w fun e w'=>e = .returned (.bool (B1r c))∧w=w':=by
 obtain⟨X,HX⟩:∃ X:Nat,Hid (X=c.toNat):=⟨_,rfl⟩
 have HL:Hid (B1r c=((decide (97≤X)&&decide (X≤122))||(decide (65≤X)&&decide (X≤90)))):=by show _=_;rw[HX.out];rfl
 have hX:X < 256:=by rw[HX.out];exact UInt8.toNat_lt _
 rw[←HX.out,HL.out]
 clear HX HL
 by_cases h1:97≤X
 ·by_cases h2:X≤122
  ·go_enter Tryz.func109,Tryz.ntmps109
   go_wp2
   all_goals (go_ret;refine⟨A1i ?_,rfl⟩;(try rw[Bool.eq_iff_iff]);(try simp);(try omega))
  ·go_enter Tryz.func109,Tryz.ntmps109
   go_wp2
   all_goals (go_ret;refine⟨A1i ?_,rfl⟩;(try rw[Bool.eq_iff_iff]);(try simp);(try omega))
 ·go_enter Tryz.func109,Tryz.ntmps109
  go_wp2
  all_goals (go_ret;refine⟨A1i ?_,rfl⟩;(try rw[Bool.eq_iff_iff]);(try simp);(try omega))
set_option maxHeartbeats 1000000 in
theorem B7c (c:UInt8) (w:World):Calls Tryz.prog 108 #[.int .u8 (c.toNat:Int)] w fun e w'=>e = .returned (.bool (A4c c))∧w=w':=by
 have hcall:=A7q c w
 obtain⟨X,HX⟩:∃ X:Nat,Hid (X=c.toNat):=⟨_,rfl⟩
 have HL:Hid (A4c c=(B1r c||(decide (48≤X)&&decide (X≤57))||(X == 95))):=by show _=_;rw[HX.out];rfl
 have hX:X < 256:=by rw[HX.out];exact UInt8.toNat_lt _
 rw[←HX.out] at hcall
 rw[←HX.out,HL.out]
 clear HX HL
 generalize B1r c=q at hcall ⊢
 cases q with
 | true=>
  go_enter Tryz.func108,Tryz.ntmps108
  go_wp2_with fail
  refine hcall.mono ?_
  rintro e w1 ⟨rfl,rfl⟩
  go_wp2
  go_ret
  exact⟨rfl,rfl⟩
 | false=>
  by_cases h1:48≤X
  ·by_cases h2:X≤57
   ·go_enter Tryz.func108,Tryz.ntmps108
    go_wp2_with fail
    refine hcall.mono ?_
    rintro e w1 ⟨rfl,rfl⟩
    go_wp2
    all_goals (go_ret;refine⟨A1i ?_,rfl⟩;(try rw[Bool.eq_iff_iff]);(try simp);(try omega))
   ·go_enter Tryz.func108,Tryz.ntmps108
    go_wp2_with fail
    refine hcall.mono ?_
    rintro e w1 ⟨rfl,rfl⟩
    go_wp2
    all_goals (go_ret;refine⟨A1i ?_,rfl⟩;(try rw[Bool.eq_iff_iff]);(try simp);(try omega))
  ·go_enter Tryz.func108,Tryz.ntmps108
   go_wp2_with fail
   refine hcall.mono ?_
   rintro e w1 ⟨rfl,rfl⟩
   go_wp2
   all_goals (go_ret;refine⟨A1i ?_,rfl⟩;(try rw[Bool.eq_iff_iff]);(try simp);(try omega))
theorem C0d {p:UInt8→Bool}:∀ {r:List UInt8},(∀ x∈r,p x=true)→r.takeWhile p=r
 | [],_=>rfl
 | c::r,h=>by rw[List.takeWhile_cons,if_pos (h c (by simp)),C0d fun x hx=>h x (by simp[hx])]
theorem B7o {p:UInt8→Bool}:∀ {r:List UInt8},r.takeWhile p=r→∀ x∈r,p x=true
 | [],_,_,hx=>by simp at hx
 | c::r,h,x,hx=>by
  rw[List.takeWhile_cons] at h
  split at h
  ·rename_i hc
   rcases List.mem_cons.1 hx with rfl|hx
   ·exact hc
   ·exact B7o (List.cons.inj h).2 x hx
  ·cases h
def B7z (l:List UInt8) (k:Nat):Bool:=A4c (l.getD k 0)&&(decide (k≠0)||B1r (l.getD k 0))
theorem B9v:∀ (l:List UInt8),(∀ k,k < l.length→B7z l k=true)→A1n l=l.length
 | [],_=>rfl
 | c::r,h=>by
  have h0:=h 0 (by simp)
  simp[B7z] at h0
  have hr:∀ x∈r,A4c x=true:=by
   intro x hx
   obtain⟨k,hk,rfl⟩:=List.getElem_of_mem hx
   have:=h (k+1) (by simp;omega)
   simp[B7z,hk] at this
   exact this
  rw[A1n,if_pos h0.2,C0d hr]
  simp;omega
theorem B2v {l:List UInt8}{k:Nat}(hk:k < l.length) (h:B7z l k=false):A1n l≠l.length:=by
 cases l with
 | nil=>simp at hk
 | cons c r=>
  cases k with
  | zero=>
   simp[B7z] at h
   rw[A1n]
   split
   ·rename_i hl
    have:A4c c=true:=by simp[A4c,hl]
    rw[h this] at hl;cases hl
   ·simp
  | succ k=>
   simp at hk
   simp[B7z,hk] at h
   rw[A1n]
   split
   ·have:(r.takeWhile A4c).length < r.length:=by
     rcases Nat.lt_or_ge (r.takeWhile A4c).length r.length with h1|h1
     ·exact h1
     ·have e:=(List.takeWhile_prefix A4c (l:=r)).eq_of_length_le h1
      have:=B7o e _ (List.getElem_mem hk)
      rw[this] at h;cases h
    simp;omega
   ·simp
set_option maxHeartbeats 1000000 in
set_option maxRecDepth 100000 in
theorem A6e (l:List UInt8) (hl:l.length≤9223372036854775807) (w:World) :
  Calls Tryz.prog 61 #[.string (S l)] w fun e w'=>e = .returned (.bool (A1q l))∧Below w.heap.size w w':=by
 have hconv:∀ W,(convert 9 68 (.string (S l))).run Tryz.prog W = .ok (.slice (some ⟨W.heap.size,0,none⟩) (S l).size (grownCap W (S l).size 0 5)) (Lib.bytesWorld W 5 (S l)):=fun W=>Lib.run_convert_string_bytes W _ _ _ _ Tryz.underlying9 Tryz.underlying68 Tryz.underlying5
 have hsz:=A6r l
 obtain⟨Wc,HWc⟩:∃ Wc,Hid (Wc=Lib.bytesWorld w 5 (S l)):=⟨_,rfl⟩
 have hBc:Below w.heap.size w Wc:=by rw[HWc.out];exact⟨rfl,rfl,rfl,by rw[Lib.bytesWorld_size];omega,fun k hk=>Lib.bytesWorld_at_old _ _ _ k hk⟩
 have hcc:∀ j,j < l.length→Wc.cell? ⟨w.heap.size,j,none⟩=some (.int .u8 ((l.getD j 0).toNat:Int)):=by
  intro j hj
  rw[HWc.out,Lib.bytesWorld_cell _ _ _ j (by rw[A6r];exact hj)]
  simp[S]
 have hcap:l.length≤grownCap w l.length 0 5:=grownCap_ge _ _ _ _
 obtain⟨n,Hn⟩:∃ n,Hid (n=l.length):=⟨_,rfl⟩
 rw[←Hn.out] at hsz hl hcap hcc
 go_enter Tryz.func61,Tryz.ntmps61
 go_wp2_with fail
 rw[←HWc.out]
 clear hconv
 go_loopg [8] n (fun m i wr=>∃ k:Nat,k+m=n∧i = .int .i64 k∧Hid (∀ j,j < k→B7z l j=true)∧Wc=wr)
 case atStart=>exact⟨0,by omega,rfl,fun j hj=>by omega,rfl⟩
 case round=>
  obtain⟨k,hk,rfl,HK,rfl⟩:=hrel
  by_cases hlt:k < n
  ·have hcell:=hcc k hlt
   have hki:(k:Int) < (n:Int):=by omega
   obtain⟨c,Hc⟩:∃ c,Hid (c=l.getD k 0):=⟨_,rfl⟩
   rw[←Hc.out] at hcell
   have hm:=B7c c Wc
   have ht:=A7q c Wc
   have HO:Hid (B7z l k=(A4c c&&(decide (k≠0)||B1r c))):=by show _=_;rw[Hc.out];rfl
   cases q1:A4c c with
   | false=>
    have HN:Hid (A1q l=false):=by
     show _=_
     have:=B2v (show k < l.length by rw[←Hn.out];exact hlt) (by rw[HO.out,q1];rfl)
     simp[A1q,this]
    rw[q1] at hm
    clear hcc q1 HO
    go_wp2_with fail
    refine hm.mono ?_
    rintro e w1 ⟨rfl,rfl⟩
    go_wp2
    go_ret
    exact⟨A1i HN.out.symm,hBc⟩
   | true=>
    rw[q1] at hm
    by_cases hk0:k=0
    ·subst hk0
     cases q2:B1r c with
     | false=>
      have HN:Hid (A1q l=false):=by
       show _=_
       have:=B2v (show 0 < l.length by rw[←Hn.out];exact hlt) (by rw[HO.out,q1,q2];rfl)
       simp[A1q,this]
      rw[q2] at ht
      clear hcc q1 q2 HO
      go_wp2_with fail
      refine hm.mono ?_
      rintro e w1 ⟨rfl,rfl⟩
      go_wp2_with fail
      refine ht.mono ?_
      rintro e w1 ⟨rfl,rfl⟩
      go_wp2
      go_ret
      exact⟨A1i HN.out.symm,hBc⟩
     | true=>
      have HN:Hid (∀ j,j < 1→B7z l j=true):=by
       intro j hj
       obtain rfl:j=0:=by omega
       rw[HO.out,q1,q2];rfl
      rw[q2] at ht
      clear hcc q1 q2 HO
      go_wp2_with fail
      refine hm.mono ?_
      rintro e w1 ⟨rfl,rfl⟩
      go_wp2_with fail
      refine ht.mono ?_
      rintro e w1 ⟨rfl,rfl⟩
      go_wp2_with fail
      go_roundg (n - 1)
      case measure=>omega
      case rel=>exact⟨1,by omega,rfl,HN,rfl⟩
    ·have HN:Hid (∀ j,j < k+1→B7z l j=true):=by
      intro j hj
      by_cases e:j=k
      ·rw[e,HO.out,q1];simp[hk0]
      ·exact HK.out j (by omega)
     have hkb:((k:Int) == 0)=false:=by simp;omega
     clear hcc q1 HO hk0
     go_wp2_with fail
     refine hm.mono ?_
     rintro e w1 ⟨rfl,rfl⟩
     go_wp2_with fail
     go_roundg (n - (k+1))
     case measure=>omega
     case rel=>exact⟨k+1,by omega,by go_num,HN,rfl⟩
  ·have HW:Hid (A1n l=l.length):=B9v l fun j hj=>HK.out j (by rw[←Hn.out] at hj;omega)
   have HN:Hid (A1q l=(decide (0 < n)&&decide (n≤16))):=by
    show _=_
    rw[Hn.out]
    simp only[A1q,HW.out]
    cases l <;> simp
   clear hcc HW
   by_cases h0:0 < n
   ·by_cases h16:n≤16
    ·go_wp2
     go_ret
     exact⟨A1i (by rw[HN.out];simp[h0,h16];omega),hBc⟩
    ·go_wp2
     go_ret
     exact⟨A1i (by rw[HN.out];simp[h16];omega),hBc⟩
   ·go_wp2
    go_ret
    exact⟨A1i (by rw[HN.out];simp[h0]),hBc⟩
theorem B4r (w:World):Calls Tryz.prog 106 #[] w fun e w'=>e = .returned (.slice (some ⟨w.heap.size,0,none⟩) 9 9)∧w.alloc (.cells A3j 9)=w':=by
 go_enter Tryz.func106,Tryz.ntmps106
 go_wp2
 go_ret
 exact⟨rfl,rfl⟩
theorem Row.blk {α:Type}(E:EK α){w:World}{base g:Nat}(l:List α){fr:Nat×Nat}(hb:base≤g) (h:w.heap[g]?=some (.cells (E.flat l).toArray E.elem fr)) (hfr:fr=(0,0)) (hl:l.length≤maxLen):Row E w base (.slice (some ⟨g,0,none⟩) l.length l.length) l:=by
 subst hfr
 refine⟨E.flat_len l,.inr ⟨g,l.length,_,rfl,hb,h,Nat.le_refl _,hl,by simp[E.flat_len],?_⟩⟩
 rw[←E.flat_len l]
 simp
theorem B8v (s:List UInt8):A7d s=decide (s∈A3n++[A2c,A2d,A4b]):=by
 rw[Bool.eq_iff_iff]
 simp only[A7d,Bool.or_eq_true,decide_eq_true_eq,List.mem_append,List.mem_cons,List.mem_nil_iff,or_false]
 constructor
 ·rintro(h|h|h|h)
  ·exact .inr (.inl h)
  ·exact .inr (.inr (.inl h))
  ·exact .inr (.inr (.inr h))
  ·exact .inl h
 ·rintro(h|h|h|h)
  ·exact .inr (.inr (.inr h))
  ·exact .inl h
  ·exact .inr (.inl h)
  ·exact .inr (.inr (.inl h))
set_option maxHeartbeats 1000000 in
set_option maxRecDepth 100000 in
theorem B0j (s:List UInt8) (hs:s.length≤9223372036854775807) (w:World):Calls Tryz.prog 58 #[.string (S s)] w fun e w'=>e = .returned (.bool (A6j s))∧Below w.heap.size w w':=by
 have hws:=B4r w
 obtain⟨W2,HW2⟩:∃ W2,Hid (W2=(w.alloc (.cells A3j 9)).alloc (.cells #[.string (S A2c),.string (S A2d),.string (S A4b)] 9)):=⟨_,rfl⟩
 have hB2:Below w.heap.size w W2:=by rw[HW2.out];exact((Below.refl _ _).alloc (Nat.le_refl _) _).alloc (by simp) _
 have r1:Row ekS W2 w.heap.size (.slice (some ⟨w.heap.size,0,none⟩) 9 9) A3n:=Row.blk ekS A3n (Nat.le_refl _) (by rw[HW2.out];exact A0r _ _ _) rfl (by decide)
 have r2:Row ekS W2 w.heap.size (.slice (some ⟨w.heap.size+1,0,none⟩) 3 3) [A2c,A2d,A4b]:=Row.blk ekS [A2c,A2d,A4b] (Nat.le_add_right _ _) (by rw[HW2.out];exact A0o _ _ _) rfl (by decide)
 have hls:=A2f s
 go_enter Tryz.func58,Tryz.ntmps58
 go_wp2_with fail
 refine hws.mono ?_
 rintro e w1 ⟨rfl,hw1⟩
 subst hw1
 go_wp2_with (at_builtin;refine A3w rfl ekS _ _ rfl w.heap.size _ A3n [A2c,A2d,A4b] rfl (by rw[HW2.out] at r1;exact r1) w.heap.size _ rfl (by rw[HW2.out] at r2;exact r2) ?e1 ?e2 ?_)
 case e1=>decide
 case e2=>simp;omega
 intro v5 w5 hr5 hg5
 obtain⟨a5,n5,c5,rfl,H5⟩:=hr5.shape'
 obtain rfl:n5=12:=H5.out
 have hB5:Below w.heap.size w w5:=by
  rw[HW2.out] at hB2
  exact hB2.grown hg5 (by simp;omega) (fun k hk=>by simp[Value.ownBlock] at hk;omega)
 have HK0:Hid (A7d s=decide (s∈A3n++[A2c,A2d,A4b])):=B8v s
 obtain⟨L,HLL⟩:∃ L,Hid (L=A3n++[A2c,A2d,A4b]):=⟨_,rfl⟩
 have hLn:L.length=12:=by rw[HLL.out];rfl
 rw[←HLL.out] at hr5 HK0
 clear r1 r2 hg5 hws H5 HW2 hB2
 have hnm:=A6e s hs w5
 go_wp2_with fail
 go_loopg [9] 12 (fun m i wr=>∃ k:Nat,k+m=12∧i = .int .i64 k∧Hid (s∉L.take k)∧w5=wr)
 case atStart=>exact⟨0,by omega,rfl,by show ¬ _;simp,rfl⟩
 case round=>
  obtain⟨k,hk,rfl,HK,rfl⟩:=hrel
  by_cases hlt:k < 12
  ·obtain⟨x,Hx⟩:∃ x,Hid (L[k]?=some x):=⟨L[k]'(by rw[hLn];exact hlt),List.getElem?_eq_getElem (by rw[hLn];exact hlt)⟩
   obtain⟨gb,rfl,hcx⟩:=hr5.get Hx.out
   have hc:w5.cell? ⟨gb,k,none⟩=some (.string (S x)):=by
    have:=hcx 0 _ rfl
    have e:ekS.size=1:=rfl
    rw[e,Nat.mul_one,Nat.add_zero] at this
    exact this
   have hki:(k:Int) < 12:=by omega
   have hlx:=A2f x
   clear hcx
   by_cases hsx:s=x
   ·have HM:Hid (A6j s=false):=by
     show _=_
     have:s∈L:=by rw[hsx];exact A1m Hx.out
     simp[A6j,HK0.out,this]
    have hb:(s == x)=true:=by simp[hsx]
    clear hsx
    go_wp2
    go_ret
    exact⟨A1i HM.out.symm,hB5⟩
   ·have hb:(s == x)=false:=by simp[hsx]
    have HX:Hid (s∉L.take (k+1)):=by
     show ¬ _;rw[A0s Hx.out];simp[hsx];exact HK.out
    clear hsx
    go_wp2_with fail
    go_roundg (12 - (k+1))
    case measure=>omega
    case rel=>exact⟨k+1,by omega,by go_num,HX,rfl⟩
  ·have HX:Hid (A6j s=A1q s):=by
    show _=_
    have h2:=HK.out
    rw[List.take_of_length_le (by rw[hLn];omega)] at h2
    simp[A6j,HK0.out,h2]
   clear HK HK0
   go_wp2_with fail
   refine hnm.mono ?_
   rintro e w6 ⟨rfl,hb6⟩
   go_wp2
   go_ret
   exact⟨A1i HX.out.symm,hB5.trans (hb6.mono hB5.size)⟩
end L
end Go.Proofs.YtelmjekjohbmjaaGreatDoor
