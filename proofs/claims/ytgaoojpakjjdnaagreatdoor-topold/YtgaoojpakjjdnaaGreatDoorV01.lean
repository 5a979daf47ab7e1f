import Derived.Test.YtgaoojpakjjdnaaGreatDoorV00
import Derived.Lib.ValidAsc
import Derived.Lib.Endian
import Derived.Lib.EndianBits
import Derived.Deep.DeepBigQuietO
set_option maxHeartbeats 32000000
set_option maxRecDepth 100000
namespace Go.Proofs.YtgaoojpakjjdnaaGreatDoor
namespace L
open Go.RowKit
theorem C4r {v:Value}{l:List Int}{w:World}(h:RdL 1 NAt w v l)(x:Int) :
  Calls Tryz.prog 216 #[v,.int .i64 x] w fun e w'=>∃ r:Int,e = .returned (.int .i64 r)∧decide (0≤r)=decide (x∈l)∧w=w':=by
 obtain⟨ao,n,cap,rfl,Hn,ac⟩:=h.shape
 go_enter Tryz.func216,Tryz.ntmps216
 go_wp2_with fail
 go_loopg [8] n (fun m i wr=>∃ k:Nat,k+m=n∧i = .int .i64 k∧Hid (x∉l.take k)∧w=wr)
 case atStart=>exact⟨0,by omega,rfl,by show ¬ _;simp,rfl⟩
 case round=>
  obtain⟨k,hk,rfl,HK,rfl⟩:=hrel
  by_cases hlt:k<n
  ·obtain⟨a,Ha⟩:∃ a,Hid (l[k]?=some a):=⟨l[k]'(by rw[←Hn.out];exact hlt),List.getElem?_eq_getElem (by rw[←Hn.out];exact hlt)⟩
   obtain⟨b,off,rfl,hc⟩:=h.get NAt.plain Ha.out
   have hc:w.cell? ⟨b,off+k*1,none⟩=some (.int .i64 a):=hc
   rw[Nat.mul_one] at hc
   have ag:(k:Int)<(n:Int):=by omega
   by_cases hxa:x=a
   ·have HM:Hid (x∈l):=by show _∈_;rw[hxa];exact A3u Ha.out
    have hb:(x==a)=true:=by simp[hxa]
    clear hxa
    go_wp2
    go_ret
    exact⟨_,rfl,by simp[HM.out],rfl⟩
   ·have hb:(x==a)=false:=by simp[hxa]
    have HX:Hid (x∉l.take (k+1)):=by
     show ¬ _;rw[A0z Ha.out];simp[hxa];exact HK.out
    clear hxa
    go_wp2_with fail
    go_roundg (n-(k+1))
    case measure=>omega
    case rel=>exact⟨k+1,by omega,by go_num,HX,rfl⟩
  ·have HX:Hid (x∉l):=by show ¬ _;have:=HK.out;rwa [List.take_of_length_le (by rw[←Hn.out];omega)] at this
   go_wp2
   go_ret
   exact⟨_,rfl,by simp[HX.out],rfl⟩
theorem A8x {v:Value}{l:List (List UInt8)}{w:World}(h:RdL 1 SAt w v l)(x:List UInt8) :
  Calls Tryz.prog 155 #[v,.string (S x)] w fun e w'=>e = .returned (.bool (decide (x∈l)))∧w=w':=by
 have hi:=C4s h x
 go_enter Tryz.func155,Tryz.ntmps155
 go_wp2_with fail
 refine hi.mono ?_
 rintro e w1 ⟨r,rfl,hr,rfl⟩
 have HR:Hid (decide (0≤r)=decide (x∈l)):=hr
 clear hr hi
 go_wp2
 go_ret
 exact⟨A2v HR.out,rfl⟩
theorem A6h {v:Value}{l:List Int}{w:World}(h:RdL 1 NAt w v l)(x:Int) :
  Calls Tryz.prog 165 #[v,.int .i64 x] w fun e w'=>e = .returned (.bool (decide (x∈l)))∧w=w':=by
 have hi:=C4r h x
 go_enter Tryz.func165,Tryz.ntmps165
 go_wp2_with fail
 refine hi.mono ?_
 rintro e w1 ⟨r,rfl,hr,rfl⟩
 have HR:Hid (decide (0≤r)=decide (x∈l)):=hr
 clear hr hi
 go_wp2
 go_ret
 exact⟨A2v HR.out,rfl⟩
def A7d (l:List UInt8):Bool:=!l.isEmpty&&(decide (l.length≤16)&&decide (A1c l=l.length))
theorem B3c (l:List UInt8)(hl:l.length≤9223372036854775807)(w:World) :
  Calls Tryz.prog 94 #[.string (S l)] w fun e w'=>e = .returned (.bool (A7d l))∧w=w':=by
 have hsz:=A3j l
 obtain⟨E,hE⟩:∃ E,(S l).toList.isEmpty=E:=⟨_,rfl⟩
 obtain⟨Q,HQ⟩:∃ Q,Hid (Q=decide (A1c l=l.length)):=⟨_,rfl⟩
 have HR:Hid (A7d l=(!E&&(decide (l.length≤16)&&Q))):=by show _=_;rw[A7d,←hE,HQ.out,A2t]
 have ac:=A4a l hl w
 have HB:Hid (((A1c l:Int)==(l.length:Int))=Q):=by show _=_;rw[HQ.out,Bool.eq_iff_iff];simp;omega
 generalize A1c l=W at ac HB
 have hB:=HB.out
 cases E with
 | true=>
  go_enter Tryz.func94,Tryz.ntmps94
  go_wp2
  go_ret
  exact⟨by rw[HR.out];rfl,rfl⟩
 | false=>
  by_cases h16:l.length≤16
  ·have ag:((l.length:Nat):Int)≤16:=by omega
   go_enter Tryz.func94,Tryz.ntmps94
   go_wp2_with fail
   refine ac.mono ?_
   rintro e w1 ⟨rfl,rfl⟩
   cases Q
   all_goals go_wp2
   all_goals go_ret
   all_goals exact⟨by rw[HR.out];simp[h16],rfl⟩
  ·have ag:¬ ((l.length:Nat):Int)≤16:=by omega
   go_enter Tryz.func94,Tryz.ntmps94
   go_wp2
   go_ret
   exact⟨by rw[HR.out];simp[h16],rfl⟩
theorem D6w (w:World):RdL 1 SAt (w.alloc (.cells A3g 9)) (.slice (some ⟨w.heap.size,0,none⟩) 9 9) A4d:=by
 refine⟨_,9,9,rfl,rfl,Nat.le_refl _,by unfold maxLen;omega,fun h=>(by cases h),?_⟩
 intro x hx k a ha
 cases hx
 have hk:k<9:=(List.getElem?_eq_some_iff.1 ha).1
 rw[A0e,Nat.zero_add,Nat.mul_one]
 have e:A4d.getD k []=a:=by rw[List.getD_eq_getElem?_getD,ha];rfl
 exact A0a (heap_alloc_new w _) k _ (by rw[A7l k hk,e])
def keptB (s:List UInt8):Bool:=decide (s=A3m)||(decide (s=A5w)||(decide (s=A8i)||decide (s∈A4d)))
theorem C4u (s:List UInt8)(w:World):Calls Tryz.prog 95 #[.string (S s)] w fun e w'=>e = .returned (.bool (keptB s))∧Below w.heap.size w w':=by
 obtain⟨q1,aj⟩:∃ q,((S s).toList == [114,101,112,101,97,116,101,100])=q:=⟨_,rfl⟩
 obtain⟨q2,ak⟩:∃ q,((S s).toList == [114,101,115,101,114,118,101,100])=q:=⟨_,rfl⟩
 obtain⟨q3,au⟩:∃ q,((S s).toList == [111,110,101,111,102])=q:=⟨_,rfl⟩
 have HC:Hid (keptB s=(q1||(q2||(q3||decide (s∈A4d))))):=by
  show _=_
  rw[←aj,←ak,←au,A2t,Bool.eq_iff_iff]
  simp[keptB,A3m,A5w,A8i]
  exact or_congr decide_eq_true_iff (or_congr decide_eq_true_iff (or_congr decide_eq_true_iff Iff.rfl))
 have ac:=A8x (D6w w) s
 have ah:Below w.heap.size w (w.alloc (.cells A3g 9)):=(Below.refl _ _).alloc (Nat.le_refl _) _
 have ag:=B3q w
 by_cases h:(q1||(q2||q3))=true
 ·have HR:Hid (keptB s=true):=by show _=_;rw[HC.out];revert h;cases q1 <;> cases q2 <;> cases q3 <;> simp
  cases q1 <;> cases q2 <;> cases q3 <;> first|(exfalso;revert h;decide)|skip
  all_goals clear h HC ac ag
  all_goals go_enter Tryz.func95,Tryz.ntmps95
  all_goals go_wp2
  all_goals go_ret
  all_goals exact⟨by rw[HR.out];rfl,Below.refl _ _⟩
 ·have HR:Hid (keptB s=decide (s∈A4d)):=by show _=_;rw[HC.out];revert h;cases q1 <;> cases q2 <;> cases q3 <;> simp
  cases q1 <;> cases q2 <;> cases q3 <;> first|(exfalso;revert h;decide)|skip
  clear h HC
  go_enter Tryz.func95,Tryz.ntmps95
  go_wp2_with fail
  refine ag.mono ?_
  rintro e w1 ⟨rfl,rfl⟩
  go_wp2_with fail
  refine ac.mono ?_
  rintro e w2 ⟨rfl,rfl⟩
  go_wp2
  go_ret
  exact⟨by rw[HR.out];rfl,ah⟩
structure Upd (c:Nat) (row:Option Nat) (w w':World):Prop where
 os:w'.os=w.os
 tape:w'.tape=w.tape
 output:w'.output=w.output
 size:w.heap.size≤w'.heap.size
 block:∀ k,k<w.heap.size→k≠c→row≠some k→w'.heap[k]?=w.heap[k]?
theorem Upd.refl (c:Nat)(row:Option Nat)(w:World):Upd c row w w:=⟨rfl,rfl,rfl,Nat.le_refl _,fun _ _ _ _=>rfl⟩
theorem Upd.below {c B:Nat}{row:Option Nat}{w w':World}(h:Upd c row w w')(hc:B≤c)(hr:∀ k,row=some k→B≤k)(hB:B≤w.heap.size):Below B w w':=
 ⟨h.os,h.tape,h.output,h.size,fun k hk=>h.block k (by omega) (by omega) (fun e=>by have:=hr k e;omega)⟩
theorem Upd.of_below {c:Nat}{row:Option Nat}{w w':World}(h:Below w.heap.size w w'):Upd c row w w':=⟨h.os,h.tape,h.output,h.size,fun k hk _ _=>h.block k hk⟩
theorem Row.shape' {α:Type}{E:EK α}{w:World}{B:Nat}{v:Value}{l:List α}(h:Row E w B v l):∃ ao n cap,v = .slice ao n cap∧Hid (n=l.length):=by
 obtain⟨ao,cap,e⟩:=h.shape
 exact⟨ao,l.length,cap,e,rfl⟩
theorem A4j (fn:Fn)(first cap:Array Value)(w:World):(Instr.makeFunc fn first cap).run Tryz.prog w = .ok (.func fn first cap) w:=rfl
theorem B0f (w:World):Calls Tryz.prog 92 #[] w fun e w'=>e = .returned (.func (.func 154) #[] #[.pointer (some ⟨w.heap.size,0,none⟩)])∧w.alloc (.cells #[.slice none 0 0] 93)=w':=by
 have ac:=A4j
 go_enter Tryz.func92,Tryz.ntmps92
 go_wp2
 go_ret
 exact⟨rfl,rfl⟩
theorem B4h (w:World):Calls Tryz.prog 159 #[] w fun e w'=>e = .returned (.func (.func 214) #[] #[.pointer (some ⟨w.heap.size,0,none⟩)])∧w.alloc (.cells #[.slice none 0 0] 30)=w':=by
 have ac:=A4j
 go_enter Tryz.func159,Tryz.ntmps159
 go_wp2
 go_ret
 exact⟨rfl,rfl⟩
def A6t {α:Type}[DecidableEq α](x : α)(l:List α):List α:=if x∈l then l else l++[x]
theorem B2a {w:World}{c B:Nat}{v:Value}{l:List (List UInt8)}(hc:w.heap[c]?=some (.cells #[v] 93 (0,0)))(hr:Row ekS w B v l)(hcB:c<B)(hB:B≤w.heap.size)(hl:l.length≤1000)(x:List UInt8) :
  Calls Tryz.prog 154 #[.string (S x),.pointer (some ⟨c,0,none⟩)] w fun e w'=>e = .returned (.bool (decide (x∈l)))∧∃ v',w'.heap[c]?=some (.cells #[v'] 93 (0,0))∧Row ekS w' B v' (A6t x l)∧Upd c v.ownBlock w w':=by
 obtain⟨ao,n,cap,rfl,Hn⟩:=hr.shape'
 have c0:=A0a hc 0 _ rfl
 have f0:=A0b hc 0
 have aj:=A8x hr.rdS x
 obtain⟨q,Hq⟩:∃ q,Hid (q=decide (x∈l)):=⟨_,rfl⟩
 rw[←Hq.out] at aj ⊢
 cases q with
 | true=>
  have HA:Hid (A6t x l=l):=by show _=_;have:=Hq.out;simp at this;simp[A6t,this]
  go_enter Tryz.func154,Tryz.ntmps154
  go_wp2_with fail
  refine aj.mono ?_
  rintro e w1 ⟨rfl,rfl⟩
  go_wp2
  go_ret
  exact⟨rfl,_,hc,by rw[HA.out];exact hr,Upd.refl _ _ _⟩
 | false=>
  have HA:Hid (A6t x l=l++[x]):=by show _=_;have:=Hq.out;simp at this;simp[A6t,this]
  have ak:Row ekS (w.alloc (.cells #[.string (S x)] 9)) B (.slice (some ⟨w.heap.size,0,none⟩) 1 1) [x]:=Row.one ekS w x hB
  have ac:=(Below.refl w.heap.size w).alloc (Nat.le_refl _) (.cells #[.string (S x)] 9)
  have hr4:=hr.below ac
  have aw:=(ac.block c (by omega)).trans hc
  go_enter Tryz.func154,Tryz.ntmps154
  go_wp2_with fail
  refine aj.mono ?_
  rintro e w1 ⟨rfl,rfl⟩
  go_wp2_with (at_builtin;refine A2r rfl ekS _ _ rfl B _ l [x] rfl hr4 B _ rfl ak ?e1 ?e2 ?_)
  case e1=>simp;omega
  case e2=>simp;omega
  intro v5 w5 au ag
  have hown:=hr4.own
  have ah:=(ag.block c (Array.getElem?_eq_some_iff.1 aw).1 (fun hh=>by have:=(hown c hh.symm).1;omega)).trans aw
  have k0:=A0a ah 0 _ rfl
  have k1:=A0b ah 0
  obtain⟨a5,n5,ba,rfl,bh⟩:=au.shape'
  go_wp2
  go_ret
  refine⟨rfl,_,heap_setCell_same _ _ 0 _ _ _ ah,?_,?_⟩
  ·rw[HA.out]
   exact au.other (fun hh=>by have:=(au.own c hh).1;omega) 0 _
  ·refine⟨ag.os.trans ac.os,ag.tape.trans ac.tape,ag.output.trans ac.output,Nat.le_trans ac.size (Nat.le_trans ag.size (by simp[World.setCell])),fun k hk bc bg=>?_⟩
   rw[Below.heap_setCell _ _ _ _ (show k≠c from bc),ag.block k (by simp;omega) (fun e=>bg e.symm),ac.block k hk]
theorem B9q {w:World}{c B:Nat}{v:Value}{l:List Int}(hc:w.heap[c]?=some (.cells #[v] 30 (0,0)))(hr:Row ekN w B v l)(hcB:c<B)(hB:B≤w.heap.size)(hl:l.length≤1000)(x:Int) :
  Calls Tryz.prog 214 #[.int .i64 x,.pointer (some ⟨c,0,none⟩)] w fun e w'=>e = .returned (.bool (decide (x∈l)))∧∃ v',w'.heap[c]?=some (.cells #[v'] 30 (0,0))∧Row ekN w' B v' (A6t x l)∧Upd c v.ownBlock w w':=by
 obtain⟨ao,n,cap,rfl,Hn⟩:=hr.shape'
 have c0:=A0a hc 0 _ rfl
 have f0:=A0b hc 0
 have aj:=A6h hr.rdN x
 obtain⟨q,Hq⟩:∃ q,Hid (q=decide (x∈l)):=⟨_,rfl⟩
 rw[←Hq.out] at aj ⊢
 cases q with
 | true=>
  have HA:Hid (A6t x l=l):=by show _=_;have:=Hq.out;simp at this;simp[A6t,this]
  go_enter Tryz.func214,Tryz.ntmps214
  go_wp2_with fail
  refine aj.mono ?_
  rintro e w1 ⟨rfl,rfl⟩
  go_wp2
  go_ret
  exact⟨rfl,_,hc,by rw[HA.out];exact hr,Upd.refl _ _ _⟩
 | false=>
  have HA:Hid (A6t x l=l++[x]):=by show _=_;have:=Hq.out;simp at this;simp[A6t,this]
  have ak:Row ekN (w.alloc (.cells #[.int .i64 x] 3)) B (.slice (some ⟨w.heap.size,0,none⟩) 1 1) [x]:=Row.one ekN w x hB
  have ac:=(Below.refl w.heap.size w).alloc (Nat.le_refl _) (.cells #[.int .i64 x] 3)
  have hr4:=hr.below ac
  have aw:=(ac.block c (by omega)).trans hc
  go_enter Tryz.func214,Tryz.ntmps214
  go_wp2_with fail
  refine aj.mono ?_
  rintro e w1 ⟨rfl,rfl⟩
  go_wp2_with (at_builtin;refine A2r rfl ekN _ _ rfl B _ l [x] rfl hr4 B _ rfl ak ?e1 ?e2 ?_)
  case e1=>simp;omega
  case e2=>simp;omega
  intro v5 w5 au ag
  have hown:=hr4.own
  have ah:=(ag.block c (Array.getElem?_eq_some_iff.1 aw).1 (fun hh=>by have:=(hown c hh.symm).1;omega)).trans aw
  have k0:=A0a ah 0 _ rfl
  have k1:=A0b ah 0
  obtain⟨a5,n5,ba,rfl,bh⟩:=au.shape'
  go_wp2
  go_ret
  refine⟨rfl,_,heap_setCell_same _ _ 0 _ _ _ ah,?_,?_⟩
  ·rw[HA.out]
   exact au.other (fun hh=>by have:=(au.own c hh).1;omega) 0 _
  ·refine⟨ag.os.trans ac.os,ag.tape.trans ac.tape,ag.output.trans ac.output,Nat.le_trans ac.size (Nat.le_trans ag.size (by simp[World.setCell])),fun k hk bc bg=>?_⟩
   rw[Below.heap_setCell _ _ _ _ (show k≠c from bc),ag.block k (by simp;omega) (fun e=>bg e.symm),ac.block k hk]
def B9n (last begun ch:Int):Bool:=decide (ch≠0)&&(decide (ch≠last)&&decide (ch≠begun+1))
theorem D5y (w:World):Calls Tryz.prog 160 #[] w fun e w'=>e = .returned (.func (.func 215) #[] #[.pointer (some ⟨w.heap.size,0,none⟩),.pointer (some ⟨w.heap.size+1,0,none⟩)])∧(w.alloc (.cells #[.int .i64 0] 3)).alloc (.cells #[.int .i64 0] 3)=w':=by
 have ac:=A4j
 go_enter Tryz.func160,Tryz.ntmps160
 go_wp2
 go_ret
 exact⟨rfl,rfl⟩
theorem C8f {w:World}{c d:Nat}{a b:Value}{t:TypeId}(hc:w.heap[c]?=some (.cells #[a] t (0,0)))(hd:w.heap[d]?=some (.cells #[b] t (0,0)))(ac:c≠d)(x y:Value) :
  ((w.setCell ⟨c,0,none⟩ x).setCell ⟨d,0,none⟩ y).drew.heap[c]?=some (.cells #[x] t (0,0))∧((w.setCell ⟨c,0,none⟩ x).setCell ⟨d,0,none⟩ y).drew.heap[d]?=some (.cells #[y] t (0,0))∧(∀ k,¬ k=c→¬ k=d→((w.setCell ⟨c,0,none⟩ x).setCell ⟨d,0,none⟩ y).drew.heap[k]?=w.heap[k]?)∧((w.setCell ⟨c,0,none⟩ x).setCell ⟨d,0,none⟩ y).drew.heap.size=w.heap.size∧((w.setCell ⟨c,0,none⟩ x).setCell ⟨d,0,none⟩ y).drew.os=w.os∧((w.setCell ⟨c,0,none⟩ x).setCell ⟨d,0,none⟩ y).drew.tape=w.tape∧((w.setCell ⟨c,0,none⟩ x).setCell ⟨d,0,none⟩ y).drew.output=w.output:=by
 refine⟨?_,?_,?_,?_,rfl,rfl,rfl⟩
 ·show((w.setCell ⟨c,0,none⟩ x).setCell ⟨d,0,none⟩ y).heap[c]?=_
  rw[Below.heap_setCell _ _ _ _ (show c≠d from ac)]
  exact heap_setCell_same _ _ 0 _ _ _ hc
 ·show((w.setCell ⟨c,0,none⟩ x).setCell ⟨d,0,none⟩ y).heap[d]?=_
  exact heap_setCell_same _ _ 0 _ _ _ ((Below.heap_setCell w ⟨c,0,none⟩ x d (show d≠c from fun h=>ac h.symm)).trans hd)
 ·intro k k1 k2
  show((w.setCell ⟨c,0,none⟩ x).setCell ⟨d,0,none⟩ y).heap[k]?=_
  rw[Below.heap_setCell _ _ _ _ (show k≠d from k2),Below.heap_setCell _ _ _ _ (show k≠c from k1)]
 ·show((w.setCell ⟨c,0,none⟩ x).setCell ⟨d,0,none⟩ y).heap.size=_
  simp
theorem D2m {w:World}{c d:Nat}{last begun:Int}(hc:w.heap[c]?=some (.cells #[.int .i64 last] 3 (0,0)))(hd:w.heap[d]?=some (.cells #[.int .i64 begun] 3 (0,0)))(ac:c≠d)(hb0:0≤begun)(hb1:begun≤1000000)(ch:Int) :
  Calls Tryz.prog 215 #[.int .i64 ch,.pointer (some ⟨c,0,none⟩),.pointer (some ⟨d,0,none⟩)] w fun e w'=>e = .returned (.bool (B9n last begun ch))∧w'.heap[c]?=some (.cells #[.int .i64 (if B9n last begun ch then last else ch)] 3 (0,0))∧w'.heap[d]?=some (.cells #[.int .i64 (if B9n last begun ch then begun else max begun ch)] 3 (0,0))∧(∀ k,k≠c→k≠d→w'.heap[k]?=w.heap[k]?)∧w'.heap.size=w.heap.size∧w'.os=w.os∧w'.tape=w.tape∧w'.output=w.output:=by
 have c0:=A0a hc 0 _ rfl
 have f0:=A0b hc 0
 have d0:=A0a hd 0 _ rfl
 have f1:=A0b hd 0
 obtain⟨q1,ag⟩:∃ q,(ch != 0)=q:=⟨_,rfl⟩
 obtain⟨q2,ah⟩:∃ q,(ch != last)=q:=⟨_,rfl⟩
 obtain⟨q3,aj⟩:∃ q,(ch != begun+1)=q:=⟨_,rfl⟩
 have HC:Hid (B9n last begun ch=(q1&&(q2&&q3))):=by
  show _=_
  rw[←ag,←ah,←aj,Bool.eq_iff_iff]
  simp[B9n]
 have c0:w.cell? ⟨c,0,none⟩=some (.int .i64 last):=c0
 have d0:w.cell? ⟨d,0,none⟩=some (.int .i64 begun):=d0
 by_cases hm:(q1&&(q2&&q3))=true
 ·have HM:Hid (B9n last begun ch=true):=by show _=_;rw[HC.out];exact hm
  cases q1 <;> cases q2 <;> cases q3 <;> first|(exfalso;revert hm;decide)|skip
  clear hm HC
  go_enter Tryz.func215,Tryz.ntmps215
  go_wp2
  go_ret
  exact⟨rfl,hc,hd,fun _ _ _=>rfl,rfl,rfl,rfl,rfl⟩
 ·have HM:Hid (B9n last begun ch=false):=by show _=_;rw[HC.out];simpa using hm
  have ak:c<w.heap.size:=(Array.getElem?_eq_some_iff.1 hc).1
  have au:d<w.heap.size:=(Array.getElem?_eq_some_iff.1 hd).1
  rw[HM.out]
  clear HC
  cases q1 <;> cases q2 <;> cases q3 <;> first|(exfalso;revert hm;decide)|skip
  all_goals clear hm
  all_goals go_enter Tryz.func215,Tryz.ntmps215
  all_goals go_wp2_with fail
  all_goals go_region
  all_goals go_wp2
  all_goals go_ret
  all_goals first
   | (rw[show max begun ch=ch by omega];exact⟨rfl,C8f hc hd ac _ _⟩)
   | (rw[show max begun ch=begun by omega];exact⟨rfl,C8f hc hd ac _ _⟩)
def A0k {α:Type}(p : α→Bool)(l:List α):Int:=match l.findIdx? p with|some k=>(k:Int)|none=>-1
theorem A7o {α:Type}{p : α→Bool}{l:List α}{k:Nat}{a : α}(ha:l[k]?=some a)(h:∀ b∈l.take k,p b=false)(hp:p a=true):A0k p l=(k:Int):=by
 have e:l.findIdx? p=some k:=by
  rw[List.findIdx?_eq_some_iff_getElem]
  obtain⟨hk,e⟩:=List.getElem?_eq_some_iff.1 ha
  refine⟨hk,by rw[e];exact hp,?_⟩
  intro j hj
  rw[h _ (List.mem_take_iff_getElem.2 ⟨j,by omega,rfl⟩)]
  simp
 unfold A0k
 rw[e]
theorem A4m {α:Type}{p : α→Bool}{l:List α}(h:∀ b∈l,p b=false):A0k p l = -1:=by
 have e:l.findIdx? p=none:=by rw[List.findIdx?_eq_none_iff];exact h
 unfold A0k
 rw[e]
theorem C8g {w:World}{c:Nat}{x:List UInt8}(hc:w.heap[c]?=some (.cells #[.string (S x)] 9 (0,0)))(a:List UInt8)(a1:Option Addr)(n1 c1:Nat)(a2:Option Addr)(n2 c2:Nat) :
  Calls Tryz.prog 82 #[.agg #[.string (S a),.slice a1 n1 c1,.slice a2 n2 c2],.pointer (some ⟨c,0,none⟩)] w fun e w'=>e = .returned (.bool (decide (a=x)))∧Below w.heap.size w w':=by
 have c0:w.cell? ⟨c,0,none⟩=some (.string (S x)):=A0a hc 0 _ rfl
 have ag:c<w.heap.size:=(Array.getElem?_eq_some_iff.1 hc).1
 have ah:=A2t a
 have hlx:=A2t x
 have ac:=(Below.refl w.heap.size w).alloc (Nat.le_refl _) (.cells #[.string (S a),.slice a1 n1 c1,.slice a2 n2 c2] 38)
 obtain⟨q,Hq⟩:∃ q,Hid (q=decide (a=x)):=⟨_,rfl⟩
 have hq:(a==x)=q:=by rw[Hq.out,Bool.eq_iff_iff];simp
 rw[←Hq.out]
 go_enter Tryz.func82,Tryz.ntmps82
 go_wp2
 go_ret
 exact⟨rfl,ac⟩
theorem C5c {v:Value}{l:List MI}{w:World}{c:Nat}{x:List UInt8}(h:RdL 3 MAt w v l)(hc:w.heap[c]?=some (.cells #[.string (S x)] 9 (0,0))) :
  Calls Tryz.prog 81 #[v,.func (.func 82) #[] #[.pointer (some ⟨c,0,none⟩)]] w fun e w'=>e = .returned (.int .i64 (A0k (fun m=>decide (m.name=x)) l))∧Below w.heap.size w w':=by
 obtain⟨ao,n,cap,rfl,Hn,ag⟩:=h.shape
 go_enter Tryz.func81,Tryz.ntmps81
 go_wp2_with fail
 go_loopg [8] n (fun m i wr=>∃ k:Nat,k+m=n∧i = .int .i64 k∧Hid (∀ a∈l.take k,decide (a.name=x)=false)∧Below w.heap.size w wr)
 case atStart=>exact⟨0,by omega,rfl,by show ∀ a∈_,_;simp,Below.refl _ _⟩
 case round=>
  obtain⟨k,hk,rfl,HK,hb⟩:=hrel
  have ah:=(hb.block c (Array.getElem?_eq_some_iff.1 hc).1).trans hc
  by_cases hlt:k<n
  ·obtain⟨a,Ha⟩:∃ a,Hid (l[k]?=some a):=⟨l[k]'(by rw[←Hn.out];exact hlt),List.getElem?_eq_getElem (by rw[←Hn.out];exact hlt)⟩
   obtain⟨b,off,rfl,hat⟩:=(h.below MAt.stays hb).get MAt.plain Ha.out
   obtain⟨vf,vb,s0,s1,s2,ak,aj⟩:=hat.at
   obtain⟨af,nf,cf,rfl,_,_⟩:=ak.shape
   obtain⟨ab,nb,cb,rfl,_,_⟩:=aj.shape
   have au:(k:Int)<(n:Int):=by omega
   have ac:=C8g ah a.name af nf cf ab nb cb
   cases hq:decide (a.name=x) with
   | true=>
    have HF:Hid (A0k (fun m=>decide (m.name=x)) l=(k:Int)):=A7o Ha.out HK.out hq
    rw[hq] at ac
    clear hq
    go_wp2_with fail
    refine ac.mono ?_
    rintro e w1 ⟨rfl,hb1⟩
    go_wp2
    go_ret
    exact⟨by rw[HF.out];rfl,hb.trans (hb1.mono hb.size)⟩
   | false=>
    have HX:Hid (∀ a∈l.take (k+1),decide (a.name=x)=false):=by
     show ∀ a∈_,_
     rw[A0z Ha.out]
     intro y hy
     rcases List.mem_append.1 hy with hy|hy
     ·exact HK.out y hy
     ·rw[List.mem_singleton] at hy;rw[hy];exact hq
    rw[hq] at ac
    clear hq
    go_wp2_with fail
    refine ac.mono ?_
    rintro e w1 ⟨rfl,hb1⟩
    go_wp2_with fail
    go_roundg (n-(k+1))
    case measure=>omega
    case rel=>exact⟨k+1,by omega,by go_num,HX,hb.trans (hb1.mono hb.size)⟩
  ·have HF:Hid (A0k (fun m=>decide (m.name=x)) l = -1):=by
    have:=HK.out
    rw[List.take_of_length_le (by rw[←Hn.out];omega)] at this
    exact A4m this
   go_wp2
   go_ret
   exact⟨by rw[HF.out];rfl,hb⟩
theorem A2y {vm ve:Value}{l:List MI}{w:World}(h:RdL 3 MAt w vm l)(ag:∃ ao n cap,ve = .slice ao n cap)(x:List UInt8) :
  Calls Tryz.prog 35 #[.agg #[vm,ve],.string (S x)] w fun e w'=>e = .returned (.int .i64 (A0k (fun m=>decide (m.name=x)) l))∧Below w.heap.size w w':=by
 obtain⟨ao,n,cap,rfl,Hn,ac⟩:=h.shape
 obtain⟨ae,ne,ce,rfl⟩:=ag
 have ah:=A4j
 have hb2:Below w.heap.size w ((w.alloc (.cells #[.slice ao n cap,.slice ae ne ce] 25)).alloc (.cells #[.string (S x)] 9)):=((Below.refl _ _).alloc (Nat.le_refl _) _).alloc (by simp) _
 have hi:=C5c (h.below MAt.stays hb2) (A0j w _ _)
 go_enter Tryz.func35,Tryz.ntmps35
 go_wp2_with fail
 refine hi.mono ?_
 rintro e w1 ⟨rfl,hb1⟩
 go_wp2
 go_ret
 exact⟨rfl,hb2.trans (hb1.mono hb2.size)⟩
theorem C7g {w:World}{c:Nat}{x:List UInt8}(hc:w.heap[c]?=some (.cells #[.string (S x)] 9 (0,0)))(a:List UInt8)(a1:Option Addr)(n1 c1:Nat) :
  Calls Tryz.prog 117 #[.agg #[.string (S a),.slice a1 n1 c1],.pointer (some ⟨c,0,none⟩)] w fun e w'=>e = .returned (.bool (decide (a=x)))∧Below w.heap.size w w':=by
 have c0:w.cell? ⟨c,0,none⟩=some (.string (S x)):=A0a hc 0 _ rfl
 have ag:c<w.heap.size:=(Array.getElem?_eq_some_iff.1 hc).1
 have ah:=A2t a
 have hlx:=A2t x
 have ac:=(Below.refl w.heap.size w).alloc (Nat.le_refl _) (.cells #[.string (S a),.slice a1 n1 c1] 100)
 obtain⟨q,Hq⟩:∃ q,Hid (q=decide (a=x)):=⟨_,rfl⟩
 have hq:(a==x)=q:=by rw[Hq.out,Bool.eq_iff_iff];simp
 rw[←Hq.out]
 go_enter Tryz.func117,Tryz.ntmps117
 go_wp2
 go_ret
 exact⟨rfl,ac⟩
theorem C4c {v:Value}{l:List EI}{w:World}{c:Nat}{x:List UInt8}(h:RdL 2 EAt w v l)(hc:w.heap[c]?=some (.cells #[.string (S x)] 9 (0,0))) :
  Calls Tryz.prog 116 #[v,.func (.func 117) #[] #[.pointer (some ⟨c,0,none⟩)]] w fun e w'=>e = .returned (.int .i64 (A0k (fun m=>decide (m.name=x)) l))∧Below w.heap.size w w':=by
 obtain⟨ao,n,cap,rfl,Hn,ag⟩:=h.shape
 go_enter Tryz.func116,Tryz.ntmps116
 go_wp2_with fail
 go_loopg [8] n (fun m i wr=>∃ k:Nat,k+m=n∧i = .int .i64 k∧Hid (∀ a∈l.take k,decide (a.name=x)=false)∧Below w.heap.size w wr)
 case atStart=>exact⟨0,by omega,rfl,by show ∀ a∈_,_;simp,Below.refl _ _⟩
 case round=>
  obtain⟨k,hk,rfl,HK,hb⟩:=hrel
  have ah:=(hb.block c (Array.getElem?_eq_some_iff.1 hc).1).trans hc
  by_cases hlt:k<n
  ·obtain⟨a,Ha⟩:∃ a,Hid (l[k]?=some a):=⟨l[k]'(by rw[←Hn.out];exact hlt),List.getElem?_eq_getElem (by rw[←Hn.out];exact hlt)⟩
   obtain⟨b,off,rfl,hat⟩:=(h.below EAt.stays hb).get EAt.plain Ha.out
   obtain⟨vi,s0,s1,aj⟩:=hat.at
   obtain⟨ai,ni,ci,rfl,_,_⟩:=aj.shape
   have ak:(k:Int)<(n:Int):=by omega
   have ac:=C7g ah a.name ai ni ci
   cases hq:decide (a.name=x) with
   | true=>
    have HF:Hid (A0k (fun m=>decide (m.name=x)) l=(k:Int)):=A7o Ha.out HK.out hq
    rw[hq] at ac
    clear hq
    go_wp2_with fail
    refine ac.mono ?_
    rintro e w1 ⟨rfl,hb1⟩
    go_wp2
    go_ret
    exact⟨by rw[HF.out];rfl,hb.trans (hb1.mono hb.size)⟩
   | false=>
    have HX:Hid (∀ a∈l.take (k+1),decide (a.name=x)=false):=by
     show ∀ a∈_,_
     rw[A0z Ha.out]
     intro y hy
     rcases List.mem_append.1 hy with hy|hy
     ·exact HK.out y hy
     ·rw[List.mem_singleton] at hy;rw[hy];exact hq
    rw[hq] at ac
    clear hq
    go_wp2_with fail
    refine ac.mono ?_
    rintro e w1 ⟨rfl,hb1⟩
    go_wp2_with fail
    go_roundg (n-(k+1))
    case measure=>omega
    case rel=>exact⟨k+1,by omega,by go_num,HX,hb.trans (hb1.mono hb.size)⟩
  ·have HF:Hid (A0k (fun m=>decide (m.name=x)) l = -1):=by
    have:=HK.out
    rw[List.take_of_length_le (by rw[←Hn.out];omega)] at this
    exact A4m this
   go_wp2
   go_ret
   exact⟨by rw[HF.out];rfl,hb⟩
theorem A8y {vm ve:Value}{l:List EI}{w:World}(h:RdL 2 EAt w ve l)(ag:∃ ao n cap,vm = .slice ao n cap)(x:List UInt8) :
  Calls Tryz.prog 54 #[.agg #[vm,ve],.string (S x)] w fun e w'=>e = .returned (.int .i64 (A0k (fun m=>decide (m.name=x)) l))∧Below w.heap.size w w':=by
 obtain⟨ao,n,cap,rfl,Hn,ac⟩:=h.shape
 obtain⟨ae,ne,ce,rfl⟩:=ag
 have ah:=A4j
 have hb2:Below w.heap.size w ((w.alloc (.cells #[.slice ae ne ce,.slice ao n cap] 25)).alloc (.cells #[.string (S x)] 9)):=((Below.refl _ _).alloc (Nat.le_refl _) _).alloc (by simp) _
 have hi:=C4c (h.below EAt.stays hb2) (A0j w _ _)
 go_enter Tryz.func54,Tryz.ntmps54
 go_wp2_with fail
 refine hi.mono ?_
 rintro e w1 ⟨rfl,hb1⟩
 go_wp2
 go_ret
 exact⟨rfl,hb2.trans (hb1.mono hb2.size)⟩
structure RI where
 number:Int
 how:Int
 bits:Nat
 bytes:List UInt8
deriving DecidableEq
structure VI (β:Type) where
 number:Int
 bits:List Nat
 bytes:List (List UInt8)
 subs:List β
structure BO (β:Type) where
 vals:List (VI β)
 unk:List RI
def BI:Nat→Type
 | 0=>Empty
 | d+1=>BO (BI d)
def UAt (w:World)(x:Addr)(n:Nat):Prop:=w.cell? x=some (.int .u64 (n:Int))
def YAt (w:World)(x:Addr)(b:UInt8):Prop:=w.cell? x=some (.int .u8 (b.toNat:Int))
def ZAt (w:World)(x:Addr)(l:List UInt8):Prop:=∃ v,w.cell? x=some v∧RdL 1 YAt w v l
def RAt (w:World)(x:Addr)(r:RI):Prop:=∃ v,w.cell? x=some (.int .i64 r.number)∧w.cell? (x.add 1)=some (.int .i64 r.how)∧w.cell? (x.add 2)=some (.int .u64 (r.bits:Int))∧w.cell? (x.add 3)=some v∧RdL 1 YAt w v r.bytes
def VAt {β:Type}(P:World→Addr→β→Prop)(w:World)(x:Addr)(v:VI β):Prop:=∃ v1 v2 v3,w.cell? x=some (.int .i64 v.number)∧w.cell? (x.add 1)=some v1∧w.cell? (x.add 2)=some v2∧w.cell? (x.add 3)=some v3∧RdL 1 UAt w v1 v.bits∧RdL 1 ZAt w v2 v.bytes∧RdL 2 P w v3 v.subs
def BAt:(d:Nat)→World→Addr→BI d→Prop
 | 0=>fun _ _ _=>False
 | d+1=>fun w x b=>∃ v0 v1,w.cell? x=some v0∧w.cell? (x.add 1)=some v1∧RdL 4 (VAt (BAt d)) w v0 (BO.vals b)∧RdL 4 RAt w v1 (BO.unk b)
def BRd (d:Nat)(w:World)(v0 v1:Value)(b:BO (BI d)):Prop:=RdL 4 (VAt (BAt d)) w v0 b.vals∧RdL 4 RAt w v1 b.unk
theorem UAt.stays:A5g UAt:=fun _ _ _ _ hb h=>A0c hb h
theorem YAt.stays:A5g YAt:=fun _ _ _ _ hb h=>A0c hb h
theorem ZAt.stays:A5g ZAt:=fun _ _ _ _ hb ⟨v,h1,h2⟩=>⟨v,A0c hb h1,h2.below YAt.stays hb⟩
theorem RAt.stays:A5g RAt:=fun _ _ _ _ hb ⟨v,h1,h2,h3,h4,h5⟩=>⟨v,A0c hb h1,A0c hb h2,A0c hb h3,A0c hb h4,h5.below YAt.stays hb⟩
theorem VAt.stays {β:Type}{P:World→Addr→β→Prop}(hP:A5g P):A5g (VAt P):=fun _ _ _ _ hb ⟨v1,v2,v3,h1,h2,h3,h4,h5,h6,h7⟩=>⟨v1,v2,v3,A0c hb h1,A0c hb h2,A0c hb h3,A0c hb h4,h5.below UAt.stays hb,h6.below ZAt.stays hb,h7.below hP hb⟩
theorem BAt.stays:∀ d,A5g (BAt d)
 | 0=>fun _ _ _ _ _ h=>h
 | d+1=>fun _ _ _ _ hb ⟨v0,v1,h1,h2,h3,h4⟩=>⟨v0,v1,A0c hb h1,A0c hb h2,h3.below (VAt.stays (BAt.stays d)) hb,h4.below RAt.stays hb⟩
theorem BRd.below {d:Nat}{w w':World}{v0 v1:Value}{b:BO (BI d)}(h:BRd d w v0 v1 b)(hb:Below w.heap.size w w'):BRd d w' v0 v1 b:=⟨h.1.below (VAt.stays (BAt.stays d)) hb,h.2.below RAt.stays hb⟩
theorem UAt.plain:A8s UAt:=fun _ _ _ _ _ h=>A1z h
theorem YAt.plain:A8s YAt:=fun _ _ _ _ _ h=>A1z h
theorem ZAt.plain:A8s ZAt:=fun _ _ _ _ _ ⟨_,h,_⟩=>A1z h
theorem RAt.plain:A8s RAt:=fun _ _ _ _ _ ⟨_,h,_⟩=>A1z h
theorem VAt.plain {β:Type}{P:World→Addr→β→Prop}:A8s (VAt P):=fun _ _ _ _ _ ⟨_,_,_,h,_⟩=>A1z h
theorem BAt.plain:∀ d,A8s (BAt d)
 | 0=>fun _ _ _ _ _ h=>h.elim
 | _+1=>fun _ _ _ _ _ ⟨_,_,h,_⟩=>A1z h
theorem ZAt.at {w:World}{b o:Nat}{l:List UInt8}(h:ZAt w ⟨b,o,none⟩ l):∃ v,w.cell? ⟨b,o,none⟩=some v∧RdL 1 YAt w v l:=h
theorem RAt.at {w:World}{b o:Nat}{r:RI}(h:RAt w ⟨b,o,none⟩ r):∃ v,w.cell? ⟨b,o,none⟩=some (.int .i64 r.number)∧w.cell? ⟨b,o+1,none⟩=some (.int .i64 r.how)∧w.cell? ⟨b,o+2,none⟩=some (.int .u64 (r.bits:Int))∧w.cell? ⟨b,o+3,none⟩=some v∧RdL 1 YAt w v r.bytes:=by
 simp only[RAt,A0e] at h;exact h
theorem VAt.at {β:Type}{P:World→Addr→β→Prop}{w:World}{b o:Nat}{v:VI β}(h:VAt P w ⟨b,o,none⟩ v):∃ v1 v2 v3,w.cell? ⟨b,o,none⟩=some (.int .i64 v.number)∧w.cell? ⟨b,o+1,none⟩=some v1∧w.cell? ⟨b,o+2,none⟩=some v2∧w.cell? ⟨b,o+3,none⟩=some v3∧RdL 1 UAt w v1 v.bits∧RdL 1 ZAt w v2 v.bytes∧RdL 2 P w v3 v.subs:=by
 simp only[VAt,A0e] at h;exact h
theorem BAt.at {d:Nat}{w:World}{b o:Nat}{x:BI (d+1)}(h:BAt (d+1) w ⟨b,o,none⟩ x):∃ v0 v1,w.cell? ⟨b,o,none⟩=some v0∧w.cell? ⟨b,o+1,none⟩=some v1∧BRd d w v0 v1 x:=by
 simp only[BAt,A0e] at h;exact h
def YCells (w:World)(b o:Nat)(l:List UInt8):Prop:=∀ (i:Nat) (x:UInt8),l[i]?=some x→w.cell? ⟨b,o+i,none⟩=some (.int .u8 (x.toNat:Int))
theorem YCells.drop {w:World}{b o:Nat}{l:List UInt8}(h:YCells w b o l)(k:Nat):YCells w b (o+k) (l.drop k):=by
 intro i x hx
 rw[List.getElem?_drop] at hx
 have:=h (k+i) x hx
 rwa [←Nat.add_assoc] at this
theorem YCells.below {w w':World}{b o:Nat}{l:List UInt8}(h:YCells w b o l)(hb:Below w.heap.size w w'):YCells w' b o l:=fun i x hx=>A0c hb (h i x hx)
theorem D0n {w:World}{b o n cap:Nat}{x0 x1 x2 x3 x4 x5 x6 x7:UInt8}{r:List UInt8}(h:YCells w b o (x0::x1::x2::x3::x4::x5::x6::x7::r))(hn:8≤n)(ac:n≤9223372036854775807) :
  Calls Tryz.prog 180 #[.slice (some ⟨b,o,none⟩) n cap] w fun e w'=>e = .returned (.int .u64 (Lib.leNat [x0,x1,x2,x3,x4,x5,x6,x7]:Nat))∧∃ q,w'=w.drewN q:=by
 have h0:=x0.toNat_lt;have h1:=x1.toNat_lt;have h2:=x2.toNat_lt;have h3:=x3.toNat_lt
 have h4:=x4.toNat_lt;have h5:=x5.toNat_lt;have h6:=x6.toNat_lt;have h7:=x7.toNat_lt
 have hv:((Lib.leNat [x0,x1,x2,x3,x4,x5,x6,x7]:Nat):Int)=(x0.toNat:Int)+(x1.toNat:Int)*256+(x2.toNat:Int)*65536+(x3.toNat:Int)*16777216+(x4.toNat:Int)*4294967296+(x5.toNat:Int)*1099511627776+(x6.toNat:Int)*281474976710656+(x7.toNat:Int)*72057594037927936:=by
  simp only[Lib.leNat]
  push_cast
  omega
 have c0:w.cell? ⟨b,o,none⟩=some (.int .u8 (x0.toNat:Int)):=h 0 x0 rfl
 have c1:=h 1 x1 rfl
 have c2:=h 2 x2 rfl
 have c3:=h 3 x3 rfl
 have c4:=h 4 x4 rfl
 have c5:=h 5 x5 rfl
 have c6:=h 6 x6 rfl
 have c7:=h 7 x7 rfl
 clear h
 have q0:(0:Int)<(n:Int):=by omega
 have q1:(1:Int)<(n:Int):=by omega
 have q2:(2:Int)<(n:Int):=by omega
 have q3:(3:Int)<(n:Int):=by omega
 have q4:(4:Int)<(n:Int):=by omega
 have q5:(5:Int)<(n:Int):=by omega
 have q6:(6:Int)<(n:Int):=by omega
 have q7:(7:Int)<(n:Int):=by omega
 have mixed:Tryz.prog.follows Departure.mixedOrders=true:=by kernel_rfl
 go_enter Tryz.func180,Tryz.ntmps180
 go_wp2
 go_big_quiet_o (fail)
 go_wp2
 go_ret
 refine⟨?_,_,rfl⟩
 simp (disch:=omega) only[u64_or8,u64_or16,u64_or24,u64_or32,u64_or40,u64_or48,u64_or56]
 rw[hv]
 rfl
theorem C3c {w:World}{b o n cap:Nat}{l:List UInt8}(h:YCells w b o l)(hl:8≤l.length)(hn:8≤n)(ac:n≤9223372036854775807) :
  Calls Tryz.prog 180 #[.slice (some ⟨b,o,none⟩) n cap] w fun e w'=>e = .returned (.int .u64 (Lib.leNat (l.take 8):Nat))∧∃ q,w'=w.drewN q:=by
 match l,hl,h with
 | x0::x1::x2::x3::x4::x5::x6::x7::r,_,h=>exact D0n h hn ac
theorem B9j {l:List UInt8}(hl:8≤l.length):Lib.leNat (l.take 8)&&& 9259542123273814144=0↔∀ b∈l.take 8,b.toNat<128:=by
 have:=Lib.leNat_mask (l.take 8)
 rwa [List.length_take,Nat.min_eq_left hl,Lib.maskN8] at this
theorem C3d (l:List UInt8):Lib.leNat (l.take 8)<18446744073709551616:=by
 have h:=Lib.leNat_lt (l.take 8)
 have:256 ^ (l.take 8).length≤256 ^ 8:=Nat.pow_le_pow_right (by decide) (by rw[List.length_take];omega)
 exact Nat.lt_of_lt_of_le h (by simpa using this)
theorem B1q {l:List UInt8}{a c:Nat}(ha:∀ b∈l.take a,b.toNat<128)(hc:∀ b∈(l.drop a).take c,b.toNat<128):∀ b∈l.take (a+c),b.toNat<128:=by
 rw[List.take_add]
 intro x hx
 rcases List.mem_append.1 hx with h|h
 ·exact ha x h
 ·exact hc x h
end L
end Go.Proofs.YtgaoojpakjjdnaaGreatDoor
