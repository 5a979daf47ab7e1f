import Derived.Test.YtelmjekjohbmjaaGreatDoorY00
namespace Go.Proofs.YtelmjekjohbmjaaGreatDoor
namespace L
open Go.RowKit
set_option maxHeartbeats 1000000 in
set_option maxRecDepth 100000 in
theorem B3t {v:Value}{l:List Int}{w:World}(h:RdL 1 NAt w v l) (x:Int) :
  Calls Tryz.prog 148 #[v,.int .i64 x] w fun e w'=>∃ r:Int,e = .returned (.int .i64 r)∧decide (0≤r)=decide (x∈l)∧w=w':=by
 obtain⟨ao,n,cap,rfl,Hn,hcap⟩:=h.shape
 go_enter Tryz.func148,Tryz.ntmps148
 go_wp2_with fail
 go_loopg [8] n (fun m i wr=>∃ k:Nat,k+m=n∧i = .int .i64 k∧Hid (x∉l.take k)∧w=wr)
 case atStart=>exact⟨0,by omega,rfl,by show ¬ _;simp,rfl⟩
 case round=>
  obtain⟨k,hk,rfl,HK,rfl⟩:=hrel
  by_cases hlt:k < n
  ·obtain⟨a,Ha⟩:∃ a,Hid (l[k]?=some a):=⟨l[k]'(by rw[←Hn.out];exact hlt),List.getElem?_eq_getElem (by rw[←Hn.out];exact hlt)⟩
   obtain⟨b,off,rfl,hc⟩:=h.get NAt.plain Ha.out
   have hc:w.cell? ⟨b,off+k*1,none⟩=some (.int .i64 a):=hc
   rw[Nat.mul_one] at hc
   have hki:(k:Int) < (n:Int):=by omega
   by_cases hxa:x=a
   ·have HM:Hid (x∈l):=by show _∈_;rw[hxa];exact A1m Ha.out
    have hb:(x == a)=true:=by simp[hxa]
    clear hxa
    go_wp2
    go_ret
    exact⟨_,rfl,by simp[HM.out],rfl⟩
   ·have hb:(x == a)=false:=by simp[hxa]
    have HX:Hid (x∉l.take (k+1)):=by
     show ¬ _;rw[A0s Ha.out];simp[hxa];exact HK.out
    clear hxa
    go_wp2_with fail
    go_roundg (n - (k+1))
    case measure=>omega
    case rel=>exact⟨k+1,by omega,by go_num,HX,rfl⟩
  ·have HX:Hid (x∉l):=by show ¬ _;have:=HK.out;rwa [List.take_of_length_le (by rw[←Hn.out];omega)] at this
   go_wp2
   go_ret
   exact⟨_,rfl,by simp[HX.out],rfl⟩
theorem A5j {v:Value}{l:List (List UInt8)}{w:World}(h:RdL 1 SAt w v l) (x:List UInt8) :
  Calls Tryz.prog 117 #[v,.string (S x)] w fun e w'=>e = .returned (.bool (decide (x∈l)))∧w=w':=by
 have hi:=B3u h x
 go_enter Tryz.func117,Tryz.ntmps117
 go_wp2_with fail
 refine hi.mono ?_
 rintro e w1 ⟨r,rfl,hr,rfl⟩
 have HR:Hid (decide (0≤r)=decide (x∈l)):=hr
 clear hr hi
 go_wp2
 go_ret
 exact⟨A1i HR.out,rfl⟩
theorem A3z {v:Value}{l:List Int}{w:World}(h:RdL 1 NAt w v l) (x:Int) :
  Calls Tryz.prog 127 #[v,.int .i64 x] w fun e w'=>e = .returned (.bool (decide (x∈l)))∧w=w':=by
 have hi:=B3t h x
 go_enter Tryz.func127,Tryz.ntmps127
 go_wp2_with fail
 refine hi.mono ?_
 rintro e w1 ⟨r,rfl,hr,rfl⟩
 have HR:Hid (decide (0≤r)=decide (x∈l)):=hr
 clear hr hi
 go_wp2
 go_ret
 exact⟨A1i HR.out,rfl⟩
def A1q (l:List UInt8):Bool:=!l.isEmpty&&(decide (l.length≤16)&&decide (A1n l=l.length))
set_option maxHeartbeats 1000000 in
set_option maxRecDepth 100000 in
theorem A7h (l:List UInt8) (hl:l.length≤9223372036854775807) (w:World) :
  Calls Tryz.prog 77 #[.string (S l)] w fun e w'=>e = .returned (.bool (A1q l))∧w=w':=by
 have hsz:=A6r l
 obtain⟨E,hE⟩:∃ E,(S l).toList.isEmpty=E:=⟨_,rfl⟩
 obtain⟨Q,HQ⟩:∃ Q,Hid (Q=decide (A1n l=l.length)):=⟨_,rfl⟩
 have HR:Hid (A1q l=(!E&&(decide (l.length≤16)&&Q))):=by show _=_;rw[A1q,←hE,HQ.out,A2f]
 have hwl:=A7y l hl w
 have HB:Hid (((A1n l:Int) == (l.length:Int))=Q):=by show _=_;rw[HQ.out,Bool.eq_iff_iff];simp;omega
 generalize A1n l=W at hwl HB
 have hB:=HB.out
 cases E with
 | true=>
  go_enter Tryz.func77,Tryz.ntmps77
  go_wp2
  go_ret
  exact⟨by rw[HR.out];rfl,rfl⟩
 | false=>
  by_cases h16:l.length≤16
  ·have hli:((l.length:Nat):Int)≤16:=by omega
   go_enter Tryz.func77,Tryz.ntmps77
   go_wp2_with fail
   refine hwl.mono ?_
   rintro e w1 ⟨rfl,rfl⟩
   cases Q
   all_goals go_wp2
   all_goals go_ret
   all_goals exact⟨by rw[HR.out];simp[h16],rfl⟩
  ·have hli:¬ ((l.length:Nat):Int)≤16:=by omega
   go_enter Tryz.func77,Tryz.ntmps77
   go_wp2
   go_ret
   exact⟨by rw[HR.out];simp[h16],rfl⟩
theorem C0y (w:World):RdL 1 SAt (w.alloc (.cells A3j 9)) (.slice (some ⟨w.heap.size,0,none⟩) 9 9) A3n:=by
 refine⟨_,9,9,rfl,rfl,Nat.le_refl _,by unfold maxLen;omega,fun h=>(by cases h),?_⟩
 intro x hx k a ha
 cases hx
 have hk:k < 9:=(List.getElem?_eq_some_iff.1 ha).1
 rw[A0j,Nat.zero_add,Nat.mul_one]
 have e:A3n.getD k []=a:=by rw[List.getD_eq_getElem?_getD,ha];rfl
 exact A0a (heap_alloc_new w _) k _ (by rw[B0t k hk,e])
def A7d (s:List UInt8):Bool:=decide (s=A2c)||(decide (s=A2d)||(decide (s=A4b)||decide (s∈A3n)))
set_option maxHeartbeats 1000000 in
set_option maxRecDepth 100000 in
theorem B3w (s:List UInt8) (w:World):Calls Tryz.prog 78 #[.string (S s)] w fun e w'=>e = .returned (.bool (A7d s))∧Below w.heap.size w w':=by
 obtain⟨q1,hq1⟩:∃ q,((S s).toList == [114,101,112,101,97,116,101,100])=q:=⟨_,rfl⟩
 obtain⟨q2,hq2⟩:∃ q,((S s).toList == [114,101,115,101,114,118,101,100])=q:=⟨_,rfl⟩
 obtain⟨q3,hq3⟩:∃ q,((S s).toList == [111,110,101,111,102])=q:=⟨_,rfl⟩
 have HC:Hid (A7d s=(q1||(q2||(q3||decide (s∈A3n))))):=by
  show _=_
  rw[←hq1,←hq2,←hq3,A2f,Bool.eq_iff_iff]
  simp[A7d,A2c,A2d,A4b]
  exact or_congr decide_eq_true_iff (or_congr decide_eq_true_iff (or_congr decide_eq_true_iff Iff.rfl))
 have hct:=A5j (C0y w) s
 have hbw:Below w.heap.size w (w.alloc (.cells A3j 9)):=(Below.refl _ _).alloc (Nat.le_refl _) _
 have hws:=B7v w
 by_cases h:(q1||(q2||q3))=true
 ·have HR:Hid (A7d s=true):=by show _=_;rw[HC.out];revert h;cases q1 <;> cases q2 <;> cases q3 <;> simp
  cases q1 <;> cases q2 <;> cases q3 <;> first|(exfalso;revert h;decide)|skip
  all_goals clear h HC hct hws
  all_goals go_enter Tryz.func78,Tryz.ntmps78
  all_goals go_wp2
  all_goals go_ret
  all_goals exact⟨by rw[HR.out];rfl,Below.refl _ _⟩
 ·have HR:Hid (A7d s=decide (s∈A3n)):=by show _=_;rw[HC.out];revert h;cases q1 <;> cases q2 <;> cases q3 <;> simp
  cases q1 <;> cases q2 <;> cases q3 <;> first|(exfalso;revert h;decide)|skip
  clear h HC
  go_enter Tryz.func78,Tryz.ntmps78
  go_wp2_with fail
  refine hws.mono ?_
  rintro e w1 ⟨rfl,rfl⟩
  go_wp2_with fail
  refine hct.mono ?_
  rintro e w2 ⟨rfl,rfl⟩
  go_wp2
  go_ret
  exact⟨by rw[HR.out];rfl,hbw⟩
end L
end Go.Proofs.YtelmjekjohbmjaaGreatDoor
namespace Go.Proofs.YtelmjekjohbmjaaGreatDoor
namespace L
open Go.RowKit
structure Upd (c:Nat) (row:Option Nat) (w w':World):Prop where
 os:w'.os=w.os
 tape:w'.tape=w.tape
 output:w'.output=w.output
 size:w.heap.size≤w'.heap.size
 block:∀ k,k < w.heap.size→k≠c→row≠some k→w'.heap[k]?=w.heap[k]?
theorem Upd.refl (c:Nat) (row:Option Nat) (w:World):Upd c row w w:=⟨rfl,rfl,rfl,Nat.le_refl _,fun _ _ _ _=>rfl⟩
theorem Upd.below {c B:Nat}{row:Option Nat}{w w':World}(h:Upd c row w w') (hc:B≤c) (hr:∀ k,row=some k→B≤k) (hB:B≤w.heap.size):Below B w w':=
 ⟨h.os,h.tape,h.output,h.size,fun k hk=>h.block k (by omega) (by omega) (fun e=>by have:=hr k e;omega)⟩
theorem Upd.of_below {c:Nat}{row:Option Nat}{w w':World}(h:Below w.heap.size w w'):Upd c row w w':=⟨h.os,h.tape,h.output,h.size,fun k hk _ _=>h.block k hk⟩
theorem Row.shape' {α:Type}{E:EK α}{w:World}{B:Nat}{v:Value}{l:List α}(h:Row E w B v l):∃ ao n cap,v = .slice ao n cap∧Hid (n=l.length):=by
 obtain⟨ao,cap,e⟩:=h.shape
 exact⟨ao,l.length,cap,e,rfl⟩
theorem A2y (fn:Fn) (first cap:Array Value) (w:World):(Instr.makeFunc fn first cap).run Tryz.prog w = .ok (.func fn first cap) w:=rfl
theorem A5w (w:World):Calls Tryz.prog 75 #[] w fun e w'=>e = .returned (.func (.func 116) #[] #[.pointer (some ⟨w.heap.size,0,none⟩)])∧w.alloc (.cells #[.slice none 0 0] 87)=w':=by
 have hmf:=A2y
 go_enter Tryz.func75,Tryz.ntmps75
 go_wp2
 go_ret
 exact⟨rfl,rfl⟩
theorem A8c (w:World):Calls Tryz.prog 121 #[] w fun e w'=>e = .returned (.func (.func 146) #[] #[.pointer (some ⟨w.heap.size,0,none⟩)])∧w.alloc (.cells #[.slice none 0 0] 46)=w':=by
 have hmf:=A2y
 go_enter Tryz.func121,Tryz.ntmps121
 go_wp2
 go_ret
 exact⟨rfl,rfl⟩
def A4g {α:Type} [DecidableEq α] (x : α) (l:List α):List α:=if x∈l then l else l++[x]
set_option maxHeartbeats 1000000 in
set_option maxRecDepth 100000 in
theorem A6s {w:World}{c B:Nat}{v:Value}{l:List (List UInt8)}(hc:w.heap[c]?=some (.cells #[v] 87 (0,0))) (hr:Row ekS w B v l) (hcB:c < B) (hB:B≤w.heap.size) (hl:l.length≤1000) (x:List UInt8) :
  Calls Tryz.prog 116 #[.string (S x),.pointer (some ⟨c,0,none⟩)] w fun e w'=>e = .returned (.bool (decide (x∈l)))∧∃ v',w'.heap[c]?=some (.cells #[v'] 87 (0,0))∧Row ekS w' B v' (A4g x l)∧Upd c v.ownBlock w w':=by
 obtain⟨ao,n,cap,rfl,Hn⟩:=hr.shape'
 have c0:=A0a hc 0 _ rfl
 have f0:=A0b hc 0
 have hct:=A5j hr.rdS x
 obtain⟨q,Hq⟩:∃ q,Hid (q=decide (x∈l)):=⟨_,rfl⟩
 rw[←Hq.out] at hct ⊢
 cases q with
 | true=>
  have HA:Hid (A4g x l=l):=by show _=_;have:=Hq.out;simp at this;simp[A4g,this]
  go_enter Tryz.func116,Tryz.ntmps116
  go_wp2_with fail
  refine hct.mono ?_
  rintro e w1 ⟨rfl,rfl⟩
  go_wp2
  go_ret
  exact⟨rfl,_,hc,by rw[HA.out];exact hr,Upd.refl _ _ _⟩
 | false=>
  have HA:Hid (A4g x l=l++[x]):=by show _=_;have:=Hq.out;simp at this;simp[A4g,this]
  have hone:Row ekS (w.alloc (.cells #[.string (S x)] 9)) B (.slice (some ⟨w.heap.size,0,none⟩) 1 1) [x]:=Row.one ekS w x hB
  have hba:=(Below.refl w.heap.size w).alloc (Nat.le_refl _) (.cells #[.string (S x)] 9)
  have hr4:=hr.below hba
  have hc4:=(hba.block c (by omega)).trans hc
  go_enter Tryz.func116,Tryz.ntmps116
  go_wp2_with fail
  refine hct.mono ?_
  rintro e w1 ⟨rfl,rfl⟩
  go_wp2_with (at_builtin;refine A3w rfl ekS _ _ rfl B _ l [x] rfl hr4 B _ rfl hone ?e1 ?e2 ?_)
  case e1=>simp;omega
  case e2=>simp;omega
  intro v5 w5 hr5 hg5
  have hown:=hr4.own
  have hc5:=(hg5.block c (Array.getElem?_eq_some_iff.1 hc4).1 (fun hh=>by have:=(hown c hh.symm).1;omega)).trans hc4
  have k0:=A0a hc5 0 _ rfl
  have k1:=A0b hc5 0
  obtain⟨a5,n5,cap5,rfl,Hn5⟩:=hr5.shape'
  go_wp2
  go_ret
  refine⟨rfl,_,heap_setCell_same _ _ 0 _ _ _ hc5,?_,?_⟩
  ·rw[HA.out]
   exact hr5.other (fun hh=>by have:=(hr5.own c hh).1;omega) 0 _
  ·refine⟨hg5.os.trans hba.os,hg5.tape.trans hba.tape,hg5.output.trans hba.output,Nat.le_trans hba.size (Nat.le_trans hg5.size (by simp[World.setCell])),fun k hk hkc hkr=>?_⟩
   rw[Below.heap_setCell _ _ _ _ (show k≠c from hkc),hg5.block k (by simp;omega) (fun e=>hkr e.symm),hba.block k hk]
set_option maxHeartbeats 1000000 in
set_option maxRecDepth 100000 in
theorem B0y {w:World}{c B:Nat}{v:Value}{l:List Int}(hc:w.heap[c]?=some (.cells #[v] 46 (0,0))) (hr:Row ekN w B v l) (hcB:c < B) (hB:B≤w.heap.size) (hl:l.length≤1000) (x:Int) :
  Calls Tryz.prog 146 #[.int .i64 x,.pointer (some ⟨c,0,none⟩)] w fun e w'=>e = .returned (.bool (decide (x∈l)))∧∃ v',w'.heap[c]?=some (.cells #[v'] 46 (0,0))∧Row ekN w' B v' (A4g x l)∧Upd c v.ownBlock w w':=by
 obtain⟨ao,n,cap,rfl,Hn⟩:=hr.shape'
 have c0:=A0a hc 0 _ rfl
 have f0:=A0b hc 0
 have hct:=A3z hr.rdN x
 obtain⟨q,Hq⟩:∃ q,Hid (q=decide (x∈l)):=⟨_,rfl⟩
 rw[←Hq.out] at hct ⊢
 cases q with
 | true=>
  have HA:Hid (A4g x l=l):=by show _=_;have:=Hq.out;simp at this;simp[A4g,this]
  go_enter Tryz.func146,Tryz.ntmps146
  go_wp2_with fail
  refine hct.mono ?_
  rintro e w1 ⟨rfl,rfl⟩
  go_wp2
  go_ret
  exact⟨rfl,_,hc,by rw[HA.out];exact hr,Upd.refl _ _ _⟩
 | false=>
  have HA:Hid (A4g x l=l++[x]):=by show _=_;have:=Hq.out;simp at this;simp[A4g,this]
  have hone:Row ekN (w.alloc (.cells #[.int .i64 x] 3)) B (.slice (some ⟨w.heap.size,0,none⟩) 1 1) [x]:=Row.one ekN w x hB
  have hba:=(Below.refl w.heap.size w).alloc (Nat.le_refl _) (.cells #[.int .i64 x] 3)
  have hr4:=hr.below hba
  have hc4:=(hba.block c (by omega)).trans hc
  go_enter Tryz.func146,Tryz.ntmps146
  go_wp2_with fail
  refine hct.mono ?_
  rintro e w1 ⟨rfl,rfl⟩
  go_wp2_with (at_builtin;refine A3w rfl ekN _ _ rfl B _ l [x] rfl hr4 B _ rfl hone ?e1 ?e2 ?_)
  case e1=>simp;omega
  case e2=>simp;omega
  intro v5 w5 hr5 hg5
  have hown:=hr4.own
  have hc5:=(hg5.block c (Array.getElem?_eq_some_iff.1 hc4).1 (fun hh=>by have:=(hown c hh.symm).1;omega)).trans hc4
  have k0:=A0a hc5 0 _ rfl
  have k1:=A0b hc5 0
  obtain⟨a5,n5,cap5,rfl,Hn5⟩:=hr5.shape'
  go_wp2
  go_ret
  refine⟨rfl,_,heap_setCell_same _ _ 0 _ _ _ hc5,?_,?_⟩
  ·rw[HA.out]
   exact hr5.other (fun hh=>by have:=(hr5.own c hh).1;omega) 0 _
  ·refine⟨hg5.os.trans hba.os,hg5.tape.trans hba.tape,hg5.output.trans hba.output,Nat.le_trans hba.size (Nat.le_trans hg5.size (by simp[World.setCell])),fun k hk hkc hkr=>?_⟩
   rw[Below.heap_setCell _ _ _ _ (show k≠c from hkc),hg5.block k (by simp;omega) (fun e=>hkr e.symm),hba.block k hk]
def A5b (last begun ch:Int):Bool:=decide (ch≠0)&&(decide (ch≠last)&&decide (ch≠begun+1))
theorem C0o (w:World):Calls Tryz.prog 122 #[] w fun e w'=>e = .returned (.func (.func 147) #[] #[.pointer (some ⟨w.heap.size,0,none⟩),.pointer (some ⟨w.heap.size+1,0,none⟩)])∧(w.alloc (.cells #[.int .i64 0] 3)).alloc (.cells #[.int .i64 0] 3)=w':=by
 have hmf:=A2y
 go_enter Tryz.func122,Tryz.ntmps122
 go_wp2
 go_ret
 exact⟨rfl,rfl⟩
theorem B6j {w:World}{c d:Nat}{a b:Value}{t:TypeId}(hc:w.heap[c]?=some (.cells #[a] t (0,0))) (hd:w.heap[d]?=some (.cells #[b] t (0,0))) (hcd:c≠d) (x y:Value) :
  ((w.setCell ⟨c,0,none⟩ x).setCell ⟨d,0,none⟩ y).drew.heap[c]?=some (.cells #[x] t (0,0))∧((w.setCell ⟨c,0,none⟩ x).setCell ⟨d,0,none⟩ y).drew.heap[d]?=some (.cells #[y] t (0,0))∧(∀ k,¬ k=c→¬ k=d→((w.setCell ⟨c,0,none⟩ x).setCell ⟨d,0,none⟩ y).drew.heap[k]?=w.heap[k]?)∧((w.setCell ⟨c,0,none⟩ x).setCell ⟨d,0,none⟩ y).drew.heap.size=w.heap.size∧((w.setCell ⟨c,0,none⟩ x).setCell ⟨d,0,none⟩ y).drew.os=w.os∧((w.setCell ⟨c,0,none⟩ x).setCell ⟨d,0,none⟩ y).drew.tape=w.tape∧((w.setCell ⟨c,0,none⟩ x).setCell ⟨d,0,none⟩ y).drew.output=w.output:=by
 refine⟨?_,?_,?_,?_,rfl,rfl,rfl⟩
 ·show((w.setCell ⟨c,0,none⟩ x).setCell ⟨d,0,none⟩ y).heap[c]?=_
  rw[Below.heap_setCell _ _ _ _ (show c≠d from hcd)]
  exact heap_setCell_same _ _ 0 _ _ _ hc
 ·show((w.setCell ⟨c,0,none⟩ x).setCell ⟨d,0,none⟩ y).heap[d]?=_
  exact heap_setCell_same _ _ 0 _ _ _ ((Below.heap_setCell w ⟨c,0,none⟩ x d (show d≠c from fun h=>hcd h.symm)).trans hd)
 ·intro k k1 k2
  show((w.setCell ⟨c,0,none⟩ x).setCell ⟨d,0,none⟩ y).heap[k]?=_
  rw[Below.heap_setCell _ _ _ _ (show k≠d from k2),Below.heap_setCell _ _ _ _ (show k≠c from k1)]
 ·show((w.setCell ⟨c,0,none⟩ x).setCell ⟨d,0,none⟩ y).heap.size=_
  simp
set_option maxHeartbeats 1000000 in
set_option maxRecDepth 100000 in
theorem B8y {w:World}{c d:Nat}{last begun:Int}(hc:w.heap[c]?=some (.cells #[.int .i64 last] 3 (0,0))) (hd:w.heap[d]?=some (.cells #[.int .i64 begun] 3 (0,0))) (hcd:c≠d) (hb0:0≤begun) (hb1:begun≤1000000) (ch:Int) :
  Calls Tryz.prog 147 #[.int .i64 ch,.pointer (some ⟨c,0,none⟩),.pointer (some ⟨d,0,none⟩)] w fun e w'=>e = .returned (.bool (A5b last begun ch))∧w'.heap[c]?=some (.cells #[.int .i64 (if A5b last begun ch then last else ch)] 3 (0,0))∧w'.heap[d]?=some (.cells #[.int .i64 (if A5b last begun ch then begun else max begun ch)] 3 (0,0))∧(∀ k,k≠c→k≠d→w'.heap[k]?=w.heap[k]?)∧w'.heap.size=w.heap.size∧w'.os=w.os∧w'.tape=w.tape∧w'.output=w.output:=by
 have c0:=A0a hc 0 _ rfl
 have f0:=A0b hc 0
 have d0:=A0a hd 0 _ rfl
 have f1:=A0b hd 0
 obtain⟨q1,hq1⟩:∃ q,(ch != 0)=q:=⟨_,rfl⟩
 obtain⟨q2,hq2⟩:∃ q,(ch != last)=q:=⟨_,rfl⟩
 obtain⟨q3,hq3⟩:∃ q,(ch != begun+1)=q:=⟨_,rfl⟩
 have HC:Hid (A5b last begun ch=(q1&&(q2&&q3))):=by
  show _=_
  rw[←hq1,←hq2,←hq3,Bool.eq_iff_iff]
  simp[A5b]
 have c0:w.cell? ⟨c,0,none⟩=some (.int .i64 last):=c0
 have d0:w.cell? ⟨d,0,none⟩=some (.int .i64 begun):=d0
 by_cases hm:(q1&&(q2&&q3))=true
 ·have HM:Hid (A5b last begun ch=true):=by show _=_;rw[HC.out];exact hm
  cases q1 <;> cases q2 <;> cases q3 <;> first|(exfalso;revert hm;decide)|skip
  clear hm HC
  go_enter Tryz.func147,Tryz.ntmps147
  go_wp2
  go_ret
  exact⟨rfl,hc,hd,fun _ _ _=>rfl,rfl,rfl,rfl,rfl⟩
 ·have HM:Hid (A5b last begun ch=false):=by show _=_;rw[HC.out];simpa using hm
  have hcl:c < w.heap.size:=(Array.getElem?_eq_some_iff.1 hc).1
  have hdl:d < w.heap.size:=(Array.getElem?_eq_some_iff.1 hd).1
  rw[HM.out]
  clear HC
  cases q1 <;> cases q2 <;> cases q3 <;> first|(exfalso;revert hm;decide)|skip
  all_goals clear hm
  all_goals go_enter Tryz.func147,Tryz.ntmps147
  all_goals go_wp2_with fail
  all_goals go_region
  all_goals go_wp2
  all_goals go_ret
  all_goals first
   | (rw[show max begun ch=ch by omega];exact⟨rfl,B6j hc hd hcd _ _⟩)
   | (rw[show max begun ch=begun by omega];exact⟨rfl,B6j hc hd hcd _ _⟩)
end L
end Go.Proofs.YtelmjekjohbmjaaGreatDoor
namespace Go.Proofs.YtelmjekjohbmjaaGreatDoor
namespace L
open Go.RowKit
def A0i {α:Type}(p : α→Bool) (l:List α):Int:=match l.findIdx? p with|some k=>(k:Int)|none=>-1
theorem A2v {α:Type}{p : α→Bool}{l:List α}{k:Nat}{a : α}(ha:l[k]?=some a) (h:∀ b∈l.take k,p b=false) (hp:p a=true):A0i p l=(k:Int):=by
 have e:l.findIdx? p=some k:=by
  rw[List.findIdx?_eq_some_iff_getElem]
  obtain⟨hk,e⟩:=List.getElem?_eq_some_iff.1 ha
  refine⟨hk,by rw[e];exact hp,?_⟩
  intro j hj
  rw[h _ (List.mem_take_iff_getElem.2 ⟨j,by omega,rfl⟩)]
  simp
 unfold A0i
 rw[e]
theorem A1p {α:Type}{p : α→Bool}{l:List α}(h:∀ b∈l,p b=false):A0i p l = -1:=by
 have e:l.findIdx? p=none:=by rw[List.findIdx?_eq_none_iff];exact h
 unfold A0i
 rw[e]
set_option maxHeartbeats 1000000 in
set_option maxRecDepth 100000 in
theorem B6k {w:World}{c:Nat}{x:List UInt8}(hc:w.heap[c]?=some (.cells #[.string (S x)] 9 (0,0))) (a:List UInt8) (a1:Option Addr) (n1 c1:Nat) (a2:Option Addr) (n2 c2:Nat) :
  Calls Tryz.prog 86 #[.agg #[.string (S a),.slice a1 n1 c1,.slice a2 n2 c2],.pointer (some ⟨c,0,none⟩)] w fun e w'=>e = .returned (.bool (decide (a=x)))∧Below w.heap.size w w':=by
 have c0:w.cell? ⟨c,0,none⟩=some (.string (S x)):=A0a hc 0 _ rfl
 have hcl:c < w.heap.size:=(Array.getElem?_eq_some_iff.1 hc).1
 have hla:=A2f a
 have hlx:=A2f x
 have hba:=(Below.refl w.heap.size w).alloc (Nat.le_refl _) (.cells #[.string (S a),.slice a1 n1 c1,.slice a2 n2 c2] 48)
 obtain⟨q,Hq⟩:∃ q,Hid (q=decide (a=x)):=⟨_,rfl⟩
 have hq:(a == x)=q:=by rw[Hq.out,Bool.eq_iff_iff];simp
 rw[←Hq.out]
 go_enter Tryz.func86,Tryz.ntmps86
 go_wp2
 go_ret
 exact⟨rfl,hba⟩
set_option maxHeartbeats 1000000 in
set_option maxRecDepth 100000 in
theorem B4a {v:Value}{l:List MI}{w:World}{c:Nat}{x:List UInt8}(h:RdL 3 MAt w v l) (hc:w.heap[c]?=some (.cells #[.string (S x)] 9 (0,0))) :
  Calls Tryz.prog 85 #[v,.func (.func 86) #[] #[.pointer (some ⟨c,0,none⟩)]] w fun e w'=>e = .returned (.int .i64 (A0i (fun m=>decide (m.name=x)) l))∧Below w.heap.size w w':=by
 obtain⟨ao,n,cap,rfl,Hn,hcap⟩:=h.shape
 go_enter Tryz.func85,Tryz.ntmps85
 go_wp2_with fail
 go_loopg [8] n (fun m i wr=>∃ k:Nat,k+m=n∧i = .int .i64 k∧Hid (∀ a∈l.take k,decide (a.name=x)=false)∧Below w.heap.size w wr)
 case atStart=>exact⟨0,by omega,rfl,by show ∀ a∈_,_;simp,Below.refl _ _⟩
 case round=>
  obtain⟨k,hk,rfl,HK,hb⟩:=hrel
  have hcr:=(hb.block c (Array.getElem?_eq_some_iff.1 hc).1).trans hc
  by_cases hlt:k < n
  ·obtain⟨a,Ha⟩:∃ a,Hid (l[k]?=some a):=⟨l[k]'(by rw[←Hn.out];exact hlt),List.getElem?_eq_getElem (by rw[←Hn.out];exact hlt)⟩
   obtain⟨b,off,rfl,hat⟩:=(h.below MAt.stays hb).get MAt.plain Ha.out
   obtain⟨vf,vb,s0,s1,s2,hrf,hrb⟩:=hat.at
   obtain⟨af,nf,cf,rfl,_,_⟩:=hrf.shape
   obtain⟨ab,nb,cb,rfl,_,_⟩:=hrb.shape
   have hki:(k:Int) < (n:Int):=by omega
   have hcall:=B6k hcr a.name af nf cf ab nb cb
   cases hq:decide (a.name=x) with
   | true=>
    have HF:Hid (A0i (fun m=>decide (m.name=x)) l=(k:Int)):=A2v Ha.out HK.out hq
    rw[hq] at hcall
    clear hq
    go_wp2_with fail
    refine hcall.mono ?_
    rintro e w1 ⟨rfl,hb1⟩
    go_wp2
    go_ret
    exact⟨by rw[HF.out];rfl,hb.trans (hb1.mono hb.size)⟩
   | false=>
    have HX:Hid (∀ a∈l.take (k+1),decide (a.name=x)=false):=by
     show ∀ a∈_,_
     rw[A0s Ha.out]
     intro y hy
     rcases List.mem_append.1 hy with hy|hy
     ·exact HK.out y hy
     ·rw[List.mem_singleton] at hy;rw[hy];exact hq
    rw[hq] at hcall
    clear hq
    go_wp2_with fail
    refine hcall.mono ?_
    rintro e w1 ⟨rfl,hb1⟩
    go_wp2_with fail
    go_roundg (n - (k+1))
    case measure=>omega
    case rel=>exact⟨k+1,by omega,by go_num,HX,hb.trans (hb1.mono hb.size)⟩
  ·have HF:Hid (A0i (fun m=>decide (m.name=x)) l = -1):=by
    have:=HK.out
    rw[List.take_of_length_le (by rw[←Hn.out];omega)] at this
    exact A1p this
   go_wp2
   go_ret
   exact⟨by rw[HF.out];rfl,hb⟩
set_option maxHeartbeats 1000000 in
set_option maxRecDepth 100000 in
theorem A5a {vm ve:Value}{l:List MI}{w:World}(h:RdL 3 MAt w vm l) (hve:∃ ao n cap,ve = .slice ao n cap) (x:List UInt8) :
  Calls Tryz.prog 52 #[.agg #[vm,ve],.string (S x)] w fun e w'=>e = .returned (.int .i64 (A0i (fun m=>decide (m.name=x)) l))∧Below w.heap.size w w':=by
 obtain⟨ao,n,cap,rfl,Hn,hcap⟩:=h.shape
 obtain⟨ae,ne,ce,rfl⟩:=hve
 have hmf:=A2y
 have hb2:Below w.heap.size w ((w.alloc (.cells #[.slice ao n cap,.slice ae ne ce] 25)).alloc (.cells #[.string (S x)] 9)):=((Below.refl _ _).alloc (Nat.le_refl _) _).alloc (by simp) _
 have hi:=B4a (h.below MAt.stays hb2) (A0o w _ _)
 go_enter Tryz.func52,Tryz.ntmps52
 go_wp2_with fail
 refine hi.mono ?_
 rintro e w1 ⟨rfl,hb1⟩
 go_wp2
 go_ret
 exact⟨rfl,hb2.trans (hb1.mono hb2.size)⟩
set_option maxHeartbeats 1000000 in
set_option maxRecDepth 100000 in
theorem B5o {w:World}{c:Nat}{x:List UInt8}(hc:w.heap[c]?=some (.cells #[.string (S x)] 9 (0,0))) (a:List UInt8) (a1:Option Addr) (n1 c1:Nat) :
  Calls Tryz.prog 153 #[.agg #[.string (S a),.slice a1 n1 c1],.pointer (some ⟨c,0,none⟩)] w fun e w'=>e = .returned (.bool (decide (a=x)))∧Below w.heap.size w w':=by
 have c0:w.cell? ⟨c,0,none⟩=some (.string (S x)):=A0a hc 0 _ rfl
 have hcl:c < w.heap.size:=(Array.getElem?_eq_some_iff.1 hc).1
 have hla:=A2f a
 have hlx:=A2f x
 have hba:=(Below.refl w.heap.size w).alloc (Nat.le_refl _) (.cells #[.string (S a),.slice a1 n1 c1] 94)
 obtain⟨q,Hq⟩:∃ q,Hid (q=decide (a=x)):=⟨_,rfl⟩
 have hq:(a == x)=q:=by rw[Hq.out,Bool.eq_iff_iff];simp
 rw[←Hq.out]
 go_enter Tryz.func153,Tryz.ntmps153
 go_wp2
 go_ret
 exact⟨rfl,hba⟩
set_option maxHeartbeats 1000000 in
set_option maxRecDepth 100000 in
theorem B3h {v:Value}{l:List EI}{w:World}{c:Nat}{x:List UInt8}(h:RdL 2 EAt w v l) (hc:w.heap[c]?=some (.cells #[.string (S x)] 9 (0,0))) :
  Calls Tryz.prog 152 #[v,.func (.func 153) #[] #[.pointer (some ⟨c,0,none⟩)]] w fun e w'=>e = .returned (.int .i64 (A0i (fun m=>decide (m.name=x)) l))∧Below w.heap.size w w':=by
 obtain⟨ao,n,cap,rfl,Hn,hcap⟩:=h.shape
 go_enter Tryz.func152,Tryz.ntmps152
 go_wp2_with fail
 go_loopg [8] n (fun m i wr=>∃ k:Nat,k+m=n∧i = .int .i64 k∧Hid (∀ a∈l.take k,decide (a.name=x)=false)∧Below w.heap.size w wr)
 case atStart=>exact⟨0,by omega,rfl,by show ∀ a∈_,_;simp,Below.refl _ _⟩
 case round=>
  obtain⟨k,hk,rfl,HK,hb⟩:=hrel
  have hcr:=(hb.block c (Array.getElem?_eq_some_iff.1 hc).1).trans hc
  by_cases hlt:k < n
  ·obtain⟨a,Ha⟩:∃ a,Hid (l[k]?=some a):=⟨l[k]'(by rw[←Hn.out];exact hlt),List.getElem?_eq_getElem (by rw[←Hn.out];exact hlt)⟩
   obtain⟨b,off,rfl,hat⟩:=(h.below EAt.stays hb).get EAt.plain Ha.out
   obtain⟨vi,s0,s1,hri⟩:=hat.at
   obtain⟨ai,ni,ci,rfl,_,_⟩:=hri.shape
   have hki:(k:Int) < (n:Int):=by omega
   have hcall:=B5o hcr a.name ai ni ci
   cases hq:decide (a.name=x) with
   | true=>
    have HF:Hid (A0i (fun m=>decide (m.name=x)) l=(k:Int)):=A2v Ha.out HK.out hq
    rw[hq] at hcall
    clear hq
    go_wp2_with fail
    refine hcall.mono ?_
    rintro e w1 ⟨rfl,hb1⟩
    go_wp2
    go_ret
    exact⟨by rw[HF.out];rfl,hb.trans (hb1.mono hb.size)⟩
   | false=>
    have HX:Hid (∀ a∈l.take (k+1),decide (a.name=x)=false):=by
     show ∀ a∈_,_
     rw[A0s Ha.out]
     intro y hy
     rcases List.mem_append.1 hy with hy|hy
     ·exact HK.out y hy
     ·rw[List.mem_singleton] at hy;rw[hy];exact hq
    rw[hq] at hcall
    clear hq
    go_wp2_with fail
    refine hcall.mono ?_
    rintro e w1 ⟨rfl,hb1⟩
    go_wp2_with fail
    go_roundg (n - (k+1))
    case measure=>omega
    case rel=>exact⟨k+1,by omega,by go_num,HX,hb.trans (hb1.mono hb.size)⟩
  ·have HF:Hid (A0i (fun m=>decide (m.name=x)) l = -1):=by
    have:=HK.out
    rw[List.take_of_length_le (by rw[←Hn.out];omega)] at this
    exact A1p this
   go_wp2
   go_ret
   exact⟨by rw[HF.out];rfl,hb⟩
set_option maxHeartbeats 1000000 in
set_option maxRecDepth 100000 in
theorem B8o {vm ve:Value}{l:List EI}{w:World}(h:RdL 2 EAt w ve l) (hve:∃ ao n cap,vm = .slice ao n cap) (x:List UInt8) :
  Calls Tryz.prog 149 #[.agg #[vm,ve],.string (S x)] w fun e w'=>e = .returned (.int .i64 (A0i (fun m=>decide (m.name=x)) l))∧Below w.heap.size w w':=by
 obtain⟨ao,n,cap,rfl,Hn,hcap⟩:=h.shape
 obtain⟨ae,ne,ce,rfl⟩:=hve
 have hmf:=A2y
 have hb2:Below w.heap.size w ((w.alloc (.cells #[.slice ae ne ce,.slice ao n cap] 25)).alloc (.cells #[.string (S x)] 9)):=((Below.refl _ _).alloc (Nat.le_refl _) _).alloc (by simp) _
 have hi:=B3h (h.below EAt.stays hb2) (A0o w _ _)
 go_enter Tryz.func149,Tryz.ntmps149
 go_wp2_with fail
 refine hi.mono ?_
 rintro e w1 ⟨rfl,hb1⟩
 go_wp2
 go_ret
 exact⟨rfl,hb2.trans (hb1.mono hb2.size)⟩
end L
end Go.Proofs.YtelmjekjohbmjaaGreatDoor
