import Derived.Test.YtelmjekjohbmjaaGreatDoorY15
import Derived.Test.YtelmjekjohbmjaaGreatDoorY05
import Derived.Test.YtelmjekjohbmjaaGreatDoorY12
import Derived.Test.YtelmjekjohbmjaaGreatDoorY11
import Derived.Test.YtelmjekjohbmjaaGreatDoorY09
namespace Go.Proofs.YtelmjekjohbmjaaGreatDoor
namespace L
open Go.RowKit
def Deeper (d fn:Nat) (cap:Array Value) (name:List UInt8) (f:BI d→Int) (l:List (BI d)) (w:World):Prop:=
 ∀ W,Below w.heap.size w W→∀ s∈l,∀ v0 v1,BQ d W v0 v1 s→Calls Tryz.prog fn (#[.string (S name),.agg #[v0,v1]]++cap) W fun e W'=>e = .returned (.int .i64 (f s))∧Below W.heap.size W W'
theorem Deeper.below {d fn:Nat}{cap:Array Value}{name:List UInt8}{f:BI d→Int}{l:List (BI d)}{w w':World}(h:Deeper d fn cap name f l w) (hb:Below w.heap.size w w'):Deeper d fn cap name f l w':=
 fun W hW=>h W (hb.trans (hW.mono hb.size))
set_option maxHeartbeats 1000000 in
set_option maxRecDepth 100000 in
theorem B4t {d:Nat}{w:World}{c cx:Nat}{cap0:Array Value}{fn:Nat}{x:FI}{f:BI d→Int}{l:List (BI d)}(hc:w.heap[c]?=some (.cells #[.func (.func fn) #[] cap0] 96 (0,0))) (hx:w.heap[cx]?=some (.cells (cFI x) 53 (0,0))) (hent:∀ (args:Array Value) (w:World),(callFunc fn args).run Tryz.prog w = .ok (.enter fn args) w){s:BI d}(hs:s∈l){a0 a1:Option Addr}{n0 c0 n1 c1:Nat}(hq:BQ d w (.slice a0 n0 c0) (.slice a1 n1 c1) s) (hdeep:Deeper d fn cap0 x.type f l w) :
  Calls Tryz.prog 103 #[.agg #[.slice a0 n0 c0,.slice a1 n1 c1],.pointer (some ⟨c,0,none⟩),.pointer (some ⟨cx,0,none⟩)] w fun e w'=>e = .returned (.int .i64 (f s))∧Below w.heap.size w w':=by
 have k0:w.cell? ⟨c,0,none⟩=some (.func (.func fn) #[] cap0):=A0a hc 0 _ rfl
 have k3:w.cell? ⟨cx,3,none⟩=some (.string (S x.type)):=A0a hx 3 _ rfl
 have hcl:=(Array.getElem?_eq_some_iff.1 hc).1
 have hxl:=(Array.getElem?_eq_some_iff.1 hx).1
 have hb1:Below w.heap.size w (w.alloc (.cells #[.slice a0 n0 c0,.slice a1 n1 c1] 29)):=(Below.refl _ _).alloc (Nat.le_refl _) _
 have hd:=hdeep _ hb1 s hs _ _ (hq.below hb1)
 clear hdeep hq
 go_enter Tryz.func103,Tryz.ntmps103
 go_wp2_with fail
 refine hd.mono ?_
 rintro e w1 ⟨rfl,hb2⟩
 go_wp2
 go_ret
 exact⟨rfl,hb1.trans (hb2.mono hb1.size)⟩
set_option maxHeartbeats 1000000 in
set_option maxRecDepth 100000 in
theorem B9p {d:Nat}{v:Value}{l:List (BI d)}{w:World}{c cx:Nat}{cap0:Array Value}{fn:Nat}{x:FI}{f:BI d→Int}(h:RdL 2 (BAt d) w v l) (hc:w.heap[c]?=some (.cells #[.func (.func fn) #[] cap0] 96 (0,0))) (hx:w.heap[cx]?=some (.cells (cFI x) 53 (0,0))) (hent:∀ (args:Array Value) (w:World),(callFunc fn args).run Tryz.prog w = .ok (.enter fn args) w) (hdeep:Deeper d fn cap0 x.type f l w) :
  Calls Tryz.prog 34 #[v,.func (.func 103) #[] #[.pointer (some ⟨c,0,none⟩),.pointer (some ⟨cx,0,none⟩)]] w fun e w'=>e = .returned (.int .i64 (A0g (f) l))∧Below w.heap.size w w':=by
 obtain⟨ao,n,cap,rfl,Hn,hcap⟩:=h.shape
 obtain⟨R,HR⟩:∃ R,Hid (R=A0g (f) l):=⟨_,rfl⟩
 rw[←HR.out]
 go_enter Tryz.func34,Tryz.ntmps34
 go_wp2_with fail
 go_loopg [10] n (fun m i wr=>∃ k:Nat,k+m=n∧i = .int .i64 k∧Hid (R=A0g (f) (l.drop k))∧Below w.heap.size w wr)
 case atStart=>exact⟨0,by omega,rfl,HR,Below.refl _ _⟩
 case round=>
  obtain⟨k,hk,rfl,HK,hb⟩:=hrel
  have hcr:=(hb.block c (Array.getElem?_eq_some_iff.1 hc).1).trans hc
  have hxr:=(hb.block cx (Array.getElem?_eq_some_iff.1 hx).1).trans hx
  by_cases hlt:k < n
  ·obtain⟨a,Ha⟩:∃ a,Hid (l[k]?=some a):=⟨l[k]'(by rw[←Hn.out];exact hlt),List.getElem?_eq_getElem (by rw[←Hn.out];exact hlt)⟩
   obtain⟨b,off,rfl,hat⟩:=(h.below (BAt.stays d) hb).get (BAt.plain d) Ha.out
   obtain⟨v0,v1,s0,s1,hq⟩:=BQ.of d hat
   obtain⟨a0,n0,c0,a1,n1,c1,rfl,rfl⟩:=hq.shape
   have hki:(k:Int) < (n:Int):=by omega
   obtain⟨W1,HW1⟩:∃ W1,Hid (W1=wr.alloc (.cells #[.slice a0 n0 c0,.slice a1 n1 c1] 29)):=⟨_,rfl⟩
   have hb1:Below wr.heap.size wr W1:=by rw[HW1.out];exact(Below.refl _ _).alloc (Nat.le_refl _) _
   have hbw1:Below w.heap.size w W1:=hb.trans (hb1.mono hb.size)
   have hcall:=B4t ((hb1.block c (Array.getElem?_eq_some_iff.1 hcr).1).trans hcr) ((hb1.block cx (Array.getElem?_eq_some_iff.1 hxr).1).trans hxr) hent (A1m Ha.out) (hq.below hb1) (hdeep.below hbw1)
   have hst:=A2r (f:=f) Ha.out
   generalize hF:f a=F at hcall hst
   clear hq
   by_cases hz:F=0
   ·have HX:Hid (R=A0g (f) (l.drop (k+1))):=by
     show _=_
     rw[HK.out,hst,if_pos hz]
    have ez:(F != 0)=false:=by simp[hz]
    clear hst hF hz hat
    go_wp2_with fail
    rw[←HW1.out]
    refine hcall.mono ?_
    rintro e w1 ⟨rfl,hb2⟩
    go_wp2_with fail
    go_roundg (n - (k+1))
    case measure=>omega
    case rel=>exact⟨k+1,by omega,by go_num,HX,hbw1.trans (hb2.mono hbw1.size)⟩
   ·have HX:Hid (R=F):=by
     show _=_
     rw[HK.out,hst,if_neg hz]
    have ez:(F != 0)=true:=by simpa using hz
    clear hst hF hz hat
    go_wp2_with fail
    rw[←HW1.out]
    refine hcall.mono ?_
    rintro e w1 ⟨rfl,hb2⟩
    go_wp2
    go_ret
    exact⟨by rw[HX.out];rfl,hbw1.trans (hb2.mono hbw1.size)⟩
  ·have HX:Hid (R=0):=by
    show _=_
    rw[HK.out]
    exact A2b (by rw[←Hn.out];omega)
   go_wp2
   go_ret
   exact⟨by rw[HX.out];rfl,hb⟩
set_option maxHeartbeats 1000000 in
set_option maxRecDepth 100000 in
theorem B3e {d:Nat}{w:World}(x:FI) (v:VI (BI d)){gd:Nat}{cap0:Array Value}{fn:Nat}{f:BI d→Int}{a1 a2 a3:Option Addr}{n1 n2 n3 c1 c2 c3:Nat}(h3:RdL 2 (BAt d) w (.slice a3 n3 c3) v.subs) (hc:w.heap[gd]?=some (.cells #[.func (.func fn) #[] cap0] 96 (0,0))) (hent:∀ (args:Array Value) (w:World),(callFunc fn args).run Tryz.prog w = .ok (.enter fn args) w) (hdeep:Deeper d fn cap0 x.type f v.subs w) :
  Calls Tryz.prog 102 #[vFI x,.agg #[.int .i64 v.number,.slice a1 n1 c1,.slice a2 n2 c2,.slice a3 n3 c3],.pointer (some ⟨gd,0,none⟩)] w fun e w'=>e = .returned (.int .i64 (A0g f v.subs))∧Below w.heap.size w w':=by
 have hb2:Below w.heap.size w ((w.alloc (.cells (cFI x) 53)).alloc (.cells #[.int .i64 v.number,.slice a1 n1 c1,.slice a2 n2 c2,.slice a3 n3 c3] 34)):=((Below.refl _ _).alloc (Nat.le_refl _) _).alloc (by simp) _
 have hi:=B9p (x:=x) (h3.below (BAt.stays d) hb2) ((hb2.block gd (Array.getElem?_eq_some_iff.1 hc).1).trans hc) (A0r w _ _) hent (hdeep.below hb2)
 have hmf:=A2y
 clear hdeep
 unfold cFI at hb2 hi
 unfold vFI
 go_enter Tryz.func102,Tryz.ntmps102
 go_wp2_with fail
 refine hi.mono ?_
 rintro e w1 ⟨rfl,hb1⟩
 go_wp2
 go_ret
 exact⟨rfl,hb2.trans (hb1.mono hb2.size)⟩
end L
end Go.Proofs.YtelmjekjohbmjaaGreatDoor
namespace Go.Proofs.YtelmjekjohbmjaaGreatDoor
namespace L
open Go.RowKit
end L
end Go.Proofs.YtelmjekjohbmjaaGreatDoor
namespace Go.Proofs.YtelmjekjohbmjaaGreatDoor
namespace L
open Go.RowKit
structure Mm (c0 ca B:Nat) (s:Int×List Int) (w:World):Prop where
 last:w.heap[c0]?=some (.cells #[.int .i64 s.1] 3 (0,0))
 row:∃ v,w.heap[ca]?=some (.cells #[v] 46 (0,0))∧Row ekN w B v s.2
 size:B≤w.heap.size
 lt0:c0 < B
 lta:ca < B
structure Stp (c0 ca B:Nat) (w:World) (s:Int×List Int) (w':World):Prop where
 mm:Mm c0 ca B s w'
 os:w'.os=w.os
 tape:w'.tape=w.tape
 output:w'.output=w.output
 size:w.heap.size≤w'.heap.size
 own:∃ v v',w.heap[ca]?=some (.cells #[v] 46 (0,0))∧w'.heap[ca]?=some (.cells #[v'] 46 (0,0))∧(∀ k,v.ownBlock=some k→B≤k)∧(∀ k,v'.ownBlock=some k→v.ownBlock=some k∨w.heap.size≤k)∧∀ k,k < w.heap.size→k≠c0→k≠ca→v.ownBlock≠some k→w'.heap[k]?=w.heap[k]?
theorem Mm.below {c0 ca B:Nat}{s:Int×List Int}{w w':World}(h:Mm c0 ca B s w) (hb:Below w.heap.size w w'):Mm c0 ca B s w':=by
 obtain⟨v,h1,h2⟩:=h.row
 have hs:=h.size;have h0:=h.lt0;have ha:=h.lta
 exact⟨(hb.block c0 (by omega)).trans h.last,⟨v,(hb.block ca (by omega)).trans h1,h2.below hb⟩,Nat.le_trans hs hb.size,h0,ha⟩
theorem Stp.of_below {c0 ca B:Nat}{s:Int×List Int}{w w':World}(h:Mm c0 ca B s w) (hb:Below w.heap.size w w'):Stp c0 ca B w s w':=by
 obtain⟨v,h1,h2⟩:=h.row
 have hs:=h.size;have ha:=h.lta
 exact⟨h.below hb,hb.os,hb.tape,hb.output,hb.size,v,v,h1,(hb.block ca (by omega)).trans h1,fun k hk=>(h2.own k hk).1,fun k hk=>.inl hk,fun k hk _ _ _=>hb.block k hk⟩
theorem Stp.refl {c0 ca B:Nat}{s:Int×List Int}{w:World}(h:Mm c0 ca B s w):Stp c0 ca B w s w:=.of_below h (Below.refl _ _)
theorem Stp.trans {c0 ca B:Nat}{s1 s2:Int×List Int}{w w1 w2:World}(h:Stp c0 ca B w s1 w1) (k:Stp c0 ca B w1 s2 w2):Stp c0 ca B w s2 w2:=by
 obtain⟨v,v1,a1,a2,a3,a4,a5⟩:=h.own
 obtain⟨u,u2,b1,b2,b3,b4,b5⟩:=k.own
 rw[a2] at b1
 simp only[Option.some.injEq,Obj.cells.injEq,Array.mk.injEq,List.cons.injEq,and_true] at b1
 subst b1
 have hsz:=h.size
 refine⟨k.mm,k.os.trans h.os,k.tape.trans h.tape,k.output.trans h.output,Nat.le_trans h.size k.size,v,u2,a1,b2,a3,?_,?_⟩
 ·intro i hi
  rcases b4 i hi with h1|h1
  ·exact a4 i h1
  ·exact .inr (by omega)
 ·intro i hi h0 ha hv
  rw[b5 i (by omega) h0 ha ?_,a5 i hi h0 ha hv]
  intro e
  rcases a4 i e with h1|h1
  ·exact hv h1
  ·omega
theorem Stp.below {c0 ca B B0:Nat}{s:Int×List Int}{w w':World}(h:Stp c0 ca B w s w') (h0:B0≤c0) (ha:B0≤ca):Below B0 w w':=by
 obtain⟨v,v1,a1,a2,a3,a4,a5⟩:=h.own
 have hl:=h.mm.lt0
 have hca:ca < w.heap.size:=(Array.getElem?_eq_some_iff.1 a1).1
 exact⟨h.os,h.tape,h.output,h.size,fun k hk=>a5 k (by omega) (by omega) (by omega) (fun e=>by have:=a3 k e;omega)⟩
theorem Stp.block {c0 ca B:Nat}{s:Int×List Int}{w w':World}(h:Stp c0 ca B w s w'){k:Nat}{xs:Array Value}{t:TypeId}{fr:Nat×Nat}(hk:w.heap[k]?=some (.cells xs t fr)) (h0:k≠c0) (ha:k≠ca) (hB:k < B):w'.heap[k]?=some (.cells xs t fr):=by
 obtain⟨v,v1,a1,a2,a3,a4,a5⟩:=h.own
 rw[a5 k (Array.getElem?_eq_some_iff.1 hk).1 h0 ha (fun e=>by have:=a3 k e;omega)]
 exact hk
theorem Stp.block' {c0 ca B:Nat}{s s1:Int×List Int}{w0 w w':World}(h0:Mm c0 ca B s w0) (hb:Below w0.heap.size w0 w) (h:Stp c0 ca B w s1 w'){k:Nat}{xs:Array Value}{t:TypeId}{fr:Nat×Nat}(hk:w.heap[k]?=some (.cells xs t fr)) (hlt:w0.heap.size≤k):w'.heap[k]?=some (.cells xs t fr):=by
 obtain⟨v,v1,a1,a2,a3,a4,a5⟩:=h.own
 obtain⟨u,b1,b2⟩:=h0.row
 have hs:=h0.size;have hl0:=h0.lt0;have hla:=h0.lta
 have e:=(hb.block ca (by omega)).trans b1
 rw[a1] at e
 simp only[Option.some.injEq,Obj.cells.injEq,Array.mk.injEq,List.cons.injEq,and_true] at e
 subst e
 rw[a5 k (Array.getElem?_eq_some_iff.1 hk).1 (by omega) (by omega) (fun e=>by have:=(b2.own k e).2;omega)]
 exact hk
set_option maxHeartbeats 1000000 in
set_option maxRecDepth 100000 in
theorem B9k {β:Type}{w:World}{c0 ca B:Nat}{s:Int×List Int}(hm:Mm c0 ca B s w) (x:FI) (v:VI β){a1 a2 a3:Option Addr}{n1 n2 n3 c1 c2 c3:Nat} :
  Calls Tryz.prog 138 #[vFI x,.agg #[.int .i64 v.number,.slice a1 n1 c1,.slice a2 n2 c2,.slice a3 n3 c3],.pointer (some ⟨c0,0,none⟩)] w fun e w'=>e = .returned (.bool (decide (v.number≤s.1)))∧Stp c0 ca B w (v.number,s.2) w':=by
 obtain⟨u,h1,h2⟩:=hm.row
 have hs:=hm.size;have hl0:=hm.lt0;have hla:=hm.lta
 have hcl:c0 < w.heap.size:=by omega
 have c0':w.cell? ⟨c0,0,none⟩=some (.int .i64 s.1):=A0a hm.last 0 _ rfl
 have f0:=A0b hm.last 0
 have hne:c0≠ca:=fun e=>by have:=hm.last;rw[e,h1] at this;simp at this
 have hX:(w.setCell ⟨c0,0,none⟩ (.int .i64 v.number)).heap[c0]?=some (.cells #[.int .i64 v.number] 3 (0,0)):=heap_setCell_same _ _ 0 _ _ _ hm.last
 have hfin:∀ o o',Stp c0 ca B w (v.number,s.2) (((w.setCell ⟨c0,0,none⟩ (.int .i64 v.number)).alloc o).alloc o'):=by
  intro o o'
  have hb2:Below w.heap.size (w.setCell ⟨c0,0,none⟩ (.int .i64 v.number)) (((w.setCell ⟨c0,0,none⟩ (.int .i64 v.number)).alloc o).alloc o'):=((Below.refl _ _).alloc (by simp) _).alloc (by simp) _
  have hset:∀ k,k≠c0→(w.setCell ⟨c0,0,none⟩ (.int .i64 v.number)).heap[k]?=w.heap[k]?:=fun k hk=>Below.heap_setCell w ⟨c0,0,none⟩ _ k (show k≠c0 from hk)
  have hca:=(hb2.block ca (by omega)).trans ((hset ca (Ne.symm hne)).trans h1)
  have hown:∀ k,u.ownBlock=some k→B≤k∧k < w.heap.size:=h2.own
  refine⟨⟨(hb2.block c0 hcl).trans hX,⟨u,hca,?_⟩,?_,hl0,hla⟩,hb2.os,hb2.tape,hb2.output,by simpa using hb2.size,u,u,h1,hca,fun k hk=>(hown k hk).1,fun k hk=>.inl hk,fun k hk h0 _ _=>(hb2.block k hk).trans (hset k h0)⟩
  ·exact(h2.other (fun e=>by have:=(hown c0 e).1;omega) 0 _).keep fun k _ hk=>hb2.block k (by simpa using hk)
  ·have:=hb2.size;simp at this ⊢;omega
 unfold vFI
 go_enter Tryz.func138,Tryz.ntmps138
 go_wp2
 go_ret
 exact⟨rfl,hfin _ _⟩
end L
end Go.Proofs.YtelmjekjohbmjaaGreatDoor
namespace Go.Proofs.YtelmjekjohbmjaaGreatDoor
namespace L
open Go.RowKit
def A3i (x:FI) (l:List Int):List Int:=if 0 < x.choice then l++[x.choice] else l
set_option maxHeartbeats 1000000 in
set_option maxRecDepth 100000 in
theorem B7m {β:Type}{w:World}{c0 ca B:Nat}{s:Int×List Int}(hm:Mm c0 ca B s w) (hl:s.2.length≤17592186044415) (x:FI) (y:VI β){a1 a2 a3:Option Addr}{n1 n2 n3 c1 c2 c3:Nat} :
  Calls Tryz.prog 140 #[vFI x,.agg #[.int .i64 y.number,.slice a1 n1 c1,.slice a2 n2 c2,.slice a3 n3 c3],.pointer (some ⟨ca,0,none⟩)] w fun e w'=>e = .returned (.bool (decide (0 < x.choice∧x.choice∈s.2)))∧Stp c0 ca B w (s.1,A3i x s.2) w':=by
 obtain⟨v,hc,hr⟩:=hm.row
 obtain⟨last,l⟩:=s
 have hr:Row ekN w B v l:=hr
 have hl:l.length≤17592186044415:=hl
 have hB:=hm.size;have hl0:=hm.lt0;have hla:=hm.lta
 obtain⟨ao,n,cap,rfl,Hn⟩:=hr.shape'
 have hcl:ca < w.heap.size:=by omega
 obtain⟨W2,HW2⟩:∃ W2,Hid (W2=(w.alloc (.cells #[.string (S x.name),.int .i64 x.number,.int .i64 x.kind,.string (S x.type),.bool x.many,.int .i64 x.choice] 53)).alloc (.cells #[.int .i64 y.number,.slice a1 n1 c1,.slice a2 n2 c2,.slice a3 n3 c3] 34)):=⟨_,rfl⟩
 have hb2:Below w.heap.size w W2:=by rw[HW2.out];exact((Below.refl _ _).alloc (Nat.le_refl _) _).alloc (by simp) _
 have hz2:w.heap.size+2≤W2.heap.size:=by rw[HW2.out];simp
 have x1:W2.heap[w.heap.size]?=some (.cells #[.string (S x.name),.int .i64 x.number,.int .i64 x.kind,.string (S x.type),.bool x.many,.int .i64 x.choice] 53 (0,0)):=by rw[HW2.out];exact A0r _ _ _
 have hc2:=(hb2.block ca hcl).trans hc
 have hr2:=hr.below hb2
 have c0':w.cell? ⟨ca,0,none⟩=some (.slice ao n cap):=A0a hc 0 _ rfl
 unfold vFI
 by_cases h0:0 < x.choice
 ·have HD:Hid (decide (0 < x.choice∧x.choice∈l)=decide (x.choice∈l)):=by show _=_;simp[h0]
  have d0:decide (x.choice≤0)=false:=by simp;omega
  have HT:Hid (A3i x l=l++[x.choice]):=by show _=_;unfold A3i;rw[if_pos h0]
  show Calls _ _ _ _ fun e w'=>e = .returned (.bool (decide (0 < x.choice∧x.choice∈l)))∧Stp c0 ca B w (last,A3i x l) w'
  rw[HD.out,HT.out]
  clear h0
  have hct:=A3z hr2.rdN x.choice
  obtain⟨q,Hq⟩:∃ q,Hid (q=decide (x.choice∈l)):=⟨_,rfl⟩
  rw[←Hq.out] at hct ⊢
  obtain⟨W4,HW4⟩:∃ W4,Hid (W4=W2.alloc (.cells #[.int .i64 x.choice] 3)):=⟨_,rfl⟩
  have hba:Below W2.heap.size W2 W4:=by rw[HW4.out];exact(Below.refl _ _).alloc (Nat.le_refl _) _
  have hsrc:W4.cell? ⟨W2.heap.size,0,none⟩=some (.int .i64 x.choice):=by rw[HW4.out];exact A0a (heap_alloc_new W2 _) 0 _ rfl
  have hr4:Row ekN W4 B (.slice ao n cap) l:=hr2.below hba
  have hb24:Below w.heap.size w W4:=hb2.trans (hba.mono hb2.size)
  have hc4:=(hb24.block ca hcl).trans hc
  have hlen:(l.length + [x.choice].length)*ekN.bytes≤140737488355328:=by
   show(l.length+1)*8≤_
   omega
  have hcell:∀ ad,(some ⟨W2.heap.size,0,none⟩:Option Addr)=some ad→∀ k y,[x.choice][k]?=some y→∀ j u,(ekN.enc y)[j]?=some u→W4.cell? (ad.add (k*ekN.size+j))=some u:=by
   intro ad had k y hy j u hu
   cases had
   have hk:k=0:=by
    cases k with
    | zero=>rfl
    | succ k=>simp at hy
   subst hk
   simp at hy
   subst hy
   have hj:j=0:=by
    cases j with
    | zero=>rfl
    | succ j=>simp[ekN,C1v] at hu
   subst hj
   have hu:u = .int .i64 x.choice:=by simpa [ekN,C1v] using hu.symm
   subst hu
   rw[A0j]
   simpa using hsrc
  obtain⟨_,_,_,_,_,d5⟩:=A9m x1
  have e0:W2.cell? ⟨ca,0,none⟩=some (.slice ao n cap):=A0a hc2 0 _ rfl
  have hB4:B≤W4.heap.size:=Nat.le_trans hB hb24.size
  go_enter Tryz.func140,Tryz.ntmps140
  go_wp2_with fail
  rw[←HW2.out]
  refine hct.mono ?_
  rintro e w1 ⟨rfl,rfl⟩
  go_wp2_with (at_builtin;rw[←HW4.out];refine A2j rfl ekN _ _ rfl B _ l [x.choice] rfl hr4 (some ⟨W2.heap.size,0,none⟩) 1 1 rfl rfl (fun h=>by cases h) hcell (by decide) hlen hB4 ?_)
  intro v5 w5 hr5 hg5 ho5
  have hown:=hr4.own
  have hca5:(Value.slice ao n cap).ownBlock≠some ca:=fun hh=>by have:=(hown ca hh).1;omega
  have hc5:=(hg5.block ca (by omega) (fun hh=>hca5 hh.symm)).trans hc4
  have k0:=A0a hc5 0 _ rfl
  have k1:=A0b hc5 0
  obtain⟨a5,n5,cap5,rfl,Hn5⟩:=hr5.shape'
  go_wp2
  go_ret
  have hsz5:=hg5.size
  have hz4:=hb24.size
  have hset:∀ k,k≠ca→(w5.setCell ⟨ca,0,none⟩ (.slice a5 n5 cap5)).heap[k]?=w5.heap[k]?:=fun k hk=>Below.heap_setCell w5 ⟨ca,0,none⟩ _ k (show k≠ca from hk)
  have hfin:(w5.setCell ⟨ca,0,none⟩ (.slice a5 n5 cap5)).heap[ca]?=some (.cells #[.slice a5 n5 cap5] 46 (0,0)):=heap_setCell_same _ _ 0 _ _ _ hc5
  have hne:c0≠ca:=fun e=>by have:=hm.last;rw[e,hc] at this;simp at this
  have hblk:∀ k,k < w.heap.size→k≠ca→(Value.slice ao n cap).ownBlock≠some k→(w5.setCell ⟨ca,0,none⟩ (.slice a5 n5 cap5)).heap[k]?=w.heap[k]?:=fun k hk hkc hkr=>by
   rw[hset k hkc,hg5.block k (by omega) (fun e=>hkr e.symm),hb24.block k hk]
  refine⟨rfl,⟨⟨?_,⟨_,hfin,?_⟩,?_,hl0,hla⟩,?_,?_,?_,?_,_,_,hc,hfin,fun k hk=>(hr.own k hk).1,?_,fun k hk _ hkc hkr=>hblk k hk hkc hkr⟩⟩
  ·rw[hblk c0 (by omega) hne (fun hh=>by have:=(hown c0 hh).1;omega)];exact hm.last
  ·exact hr5.other (fun hh=>by have:=(hr5.own ca hh).1;omega) 0 _
  ·simp;omega
  ·exact hg5.os.trans hb24.os
  ·exact hg5.tape.trans hb24.tape
  ·exact hg5.output.trans hb24.output
  ·simp;omega
  ·intro k hk
   rcases ho5 k hk with h1|h1
   ·exact .inl h1
   ·exact .inr (by omega)
 ·have HD:Hid (decide (0 < x.choice∧x.choice∈l)=false):=by show _=_;simp[h0]
  have d0:decide (x.choice≤0)=true:=by simp;omega
  have HT:Hid (A3i x l=l):=by show _=_;unfold A3i;rw[if_neg h0]
  show Calls _ _ _ _ fun e w'=>e = .returned (.bool (decide (0 < x.choice∧x.choice∈l)))∧Stp c0 ca B w (last,A3i x l) w'
  rw[HD.out,HT.out]
  clear h0 c0'
  go_enter Tryz.func140,Tryz.ntmps140
  go_wp2
  go_ret
  rw[←HW2.out]
  exact⟨rfl,Stp.of_below hm hb2⟩
set_option maxHeartbeats 1000000 in
set_option maxRecDepth 100000 in
theorem A5u {β:Type}{w:World}{c0 ca B:Nat}{s s':Int×List Int}(hm:Mm c0 ca B s w){fn cb ce:Nat}{cap:Array Value}{err:Int}{r:Bool}(hent:∀ (args:Array Value) (w:World),(callFunc fn args).run Tryz.prog w = .ok (.enter fn args) w)
  (hcb:w.heap[cb]?=some (.cells #[.func (.func fn) #[] cap] 119 (0,0))) (hce:w.heap[ce]?=some (.cells #[.int .i64 err] 36 (0,0))) (heB:ce < B) (he0:ce≠c0) (hea:ce≠ca) (x:FI) (v:VI β){a1 a2 a3:Option Addr}{n1 n2 n3 c1 c2 c3:Nat}
  (hcall:∀ W,Below w.heap.size w W→Calls Tryz.prog fn (#[vFI x,.agg #[.int .i64 v.number,.slice a1 n1 c1,.slice a2 n2 c2,.slice a3 n3 c3]]++cap) W fun e w'=>e = .returned (.bool r)∧Stp c0 ca B W s' w') :
  Calls Tryz.prog 137 #[vFI x,.agg #[.int .i64 v.number,.slice a1 n1 c1,.slice a2 n2 c2,.slice a3 n3 c3],.pointer (some ⟨cb,0,none⟩),.pointer (some ⟨ce,0,none⟩)] w fun e w'=>e = .returned (.int .i64 (if r then err else 0))∧Stp c0 ca B w s' w':=by
 obtain⟨W2,HW2⟩:∃ W2,Hid (W2=(w.alloc (.cells #[.string (S x.name),.int .i64 x.number,.int .i64 x.kind,.string (S x.type),.bool x.many,.int .i64 x.choice] 53)).alloc (.cells #[.int .i64 v.number,.slice a1 n1 c1,.slice a2 n2 c2,.slice a3 n3 c3] 34)):=⟨_,rfl⟩
 have hb2:Below w.heap.size w W2:=by rw[HW2.out];exact((Below.refl _ _).alloc (Nat.le_refl _) _).alloc (by simp) _
 have k0:w.cell? ⟨cb,0,none⟩=some (.func (.func fn) #[] cap):=A0a hcb 0 _ rfl
 have hc:=hcall W2 hb2
 have hce2:=(hb2.block ce (Array.getElem?_eq_some_iff.1 hce).1).trans hce
 have hcbl:=(Array.getElem?_eq_some_iff.1 hcb).1
 clear hcall
 unfold vFI at hc ⊢
 go_enter Tryz.func137,Tryz.ntmps137
 go_wp2_with fail
 rw[←HW2.out]
 refine hc.mono ?_
 rintro e w3 ⟨rfl,hs3⟩
 have hce3:=hs3.block hce2 he0 hea heB
 have k1:w3.cell? ⟨ce,0,none⟩=some (.int .i64 err):=A0a hce3 0 _ rfl
 have hst:=(Stp.of_below hm hb2).trans hs3
 cases r with
 | true=>
  go_wp2
  go_ret
  exact⟨rfl,hst⟩
 | false=>
  go_wp2
  go_ret
  exact⟨rfl,hst⟩
end L
end Go.Proofs.YtelmjekjohbmjaaGreatDoor
namespace Go.Proofs.YtelmjekjohbmjaaGreatDoor
namespace L
open Go.RowKit
set_option maxHeartbeats 1000000 in
set_option maxRecDepth 100000 in
theorem B5u {R:Int}{post:World→Prop}{W:World}{cm ct cv k fn:Nat}{cap:Array Value}{nm:List UInt8}{af ab:Option Addr}{nf cf nb cb:Nat}{fs:List FI}{x:FI}{number:Int}{a1 a2 a3:Option Addr}{n1 n2 n3 c1 c2 c3:Nat}
  (hcm:W.heap[cm]?=some (.cells #[.string (S nm),.slice af nf cf,.slice ab nb cb] 48 (0,0))) (hct:W.heap[ct]?=some (.cells #[.int .i64 (k:Int)] 3 (0,0))) (hcv:W.heap[cv]?=some (.cells #[.int .i64 number,.slice a1 n1 c1,.slice a2 n2 c2,.slice a3 n3 c3] 34 (0,0)))
  (hf:RdL 6 FAt W (.slice af nf cf) fs) (hk:fs[k]?=some x) (hent:∀ (args:Array Value) (w:World),(callFunc fn args).run Tryz.prog w = .ok (.enter fn args) w)
  (hcall:Calls Tryz.prog fn (#[vFI x,.agg #[.int .i64 number,.slice a1 n1 c1,.slice a2 n2 c2,.slice a3 n3 c3]]++cap) W.drew fun e w'=>e = .returned (.int .i64 R)∧post w') :
  Calls Tryz.prog 90 #[.func (.func fn) #[] cap,.pointer (some ⟨cm,0,none⟩),.pointer (some ⟨ct,0,none⟩),.pointer (some ⟨cv,0,none⟩)] W fun e w'=>e = .returned (.int .i64 R)∧post w':=by
 have hb:Below W.heap.size W W.drew:=(Below.refl _ _).drew
 obtain⟨b,o,rfl,hat⟩:=hf.get FAt.plain hk
 have hln:=hf.len.1
 have hkn:k < nf:=by rw[hln];exact(List.getElem?_eq_some_iff.1 hk).1
 have hkz:(k:Int) < (nf:Int):=by omega
 have hat':=FAt.stays _ _ _ _ hb hat
 simp only[FAt,A0j] at hat'
 obtain⟨f0,f1,f2,f3,f4,f5⟩:=hat'
 have m1:W.drew.cell? ⟨cm,1,none⟩=some (.slice (some ⟨b,o,none⟩) nf cf):=A0c hb (A0a hcm 1 _ rfl)
 have t0:W.drew.cell? ⟨ct,0,none⟩=some (.int .i64 (k:Int)):=A0c hb (A0a hct 0 _ rfl)
 have v0:W.drew.cell? ⟨cv,0,none⟩=some (.int .i64 number):=A0c hb (A0a hcv 0 _ rfl)
 have v1:W.drew.cell? ⟨cv,1,none⟩=some (.slice a1 n1 c1):=A0c hb (A0a hcv 1 _ rfl)
 have v2:W.drew.cell? ⟨cv,2,none⟩=some (.slice a2 n2 c2):=A0c hb (A0a hcv 2 _ rfl)
 have v3:W.drew.cell? ⟨cv,3,none⟩=some (.slice a3 n3 c3):=A0c hb (A0a hcv 3 _ rfl)
 clear hf hcm hct hcv hat
 unfold vFI at hcall
 go_enter Tryz.func90,Tryz.ntmps90
 go_wp2
 go_region_with (refine hcall.mono ?_;rintro e w1 ⟨rfl,hp⟩)
 all_goals
  go_wp2
  go_ret
  exact⟨rfl,hp⟩
end L
end Go.Proofs.YtelmjekjohbmjaaGreatDoor
namespace Go.Proofs.YtelmjekjohbmjaaGreatDoor
namespace L
open Go.RowKit
def A3m (e:Nat→Int):Nat→Nat→Int
 | _,0=>0
 | k,m+1=>if e k=0 then A3m e (k+1) m else e k
set_option maxHeartbeats 1000000 in
set_option maxRecDepth 100000 in
theorem B1f {c0 ca B g cm ct cv:Nat}{w:World}(L:List (Nat×Array Value)) (sAt:Nat→Int×List Int) (eAt:Nat→Int) (hn:L.length≤1000) (hm:Mm c0 ca B (sAt 0) w)
  (hgs:∀ s' W,Stp c0 ca B w s' W→∀ (j:Nat) (p:Nat×Array Value),L[j]?=some p→W.cell? ⟨g,j,none⟩=some (.func (.func p.1) #[] p.2))
  (hstep:∀ (j:Nat) (p:Nat×Array Value) (W:World),L[j]?=some p→Stp c0 ca B w (sAt j) W→(∀ i,i < j→eAt i=0)→Calls Tryz.prog 90 #[.func (.func p.1) #[] p.2,.pointer (some ⟨cm,0,none⟩),.pointer (some ⟨ct,0,none⟩),.pointer (some ⟨cv,0,none⟩)] W fun e W'=>e = .returned (.int .i64 (eAt j))∧Stp c0 ca B W (sAt (j+1)) W') :
  Calls Tryz.prog 89 #[.slice (some ⟨g,0,none⟩) L.length L.length,.func (.func 90) #[] #[.pointer (some ⟨cm,0,none⟩),.pointer (some ⟨ct,0,none⟩),.pointer (some ⟨cv,0,none⟩)]] w
   fun e w'=>e = .returned (.int .i64 (A3m eAt 0 L.length))∧∃ s',Stp c0 ca B w s' w'∧(A3m eAt 0 L.length=0→s'=sAt L.length):=by
 obtain⟨n,Hn⟩:∃ n,Hid (n=L.length):=⟨_,rfl⟩
 obtain⟨R,HR⟩:∃ R,Hid (R=A3m eAt 0 n):=⟨_,rfl⟩
 rw[←Hn.out] at hn ⊢
 rw[←HR.out]
 go_enter Tryz.func89,Tryz.ntmps89
 go_wp2_with fail
 go_loopg [10] n (fun m i wr=>∃ k:Nat,k+m=n∧i = .int .i64 k∧Hid (R=A3m eAt k m)∧Hid (∀ i,i < k→eAt i=0)∧Stp c0 ca B w (sAt k) wr)
 case atStart=>exact⟨0,by omega,rfl,HR,(show Hid _ from fun i hi=>absurd hi (Nat.not_lt_zero i)),Stp.refl hm⟩
 case round=>
  obtain⟨k,hk,rfl,HK,HZ,hs⟩:=hrel
  by_cases hlt:k < n
  ·obtain⟨p,Hp⟩:∃ p,Hid (L[k]?=some p):=⟨L[k]'(by rw[←Hn.out];exact hlt),List.getElem?_eq_getElem (by rw[←Hn.out];exact hlt)⟩
   obtain⟨fn,cap⟩:=p
   have hat:wr.cell? ⟨g,k,none⟩=some (.func (.func fn) #[] cap):=hgs _ wr hs k (fn,cap) Hp.out
   have hki:(k:Int) < (n:Int):=by omega
   have hcall:=hstep k (fn,cap) wr Hp.out hs HZ.out
   obtain⟨m,rfl⟩:∃ m,gk=m+1:=⟨gk - 1,by omega⟩
   have hst:A3m eAt k (m+1)=if eAt k=0 then A3m eAt (k+1) m else eAt k:=rfl
   obtain⟨F,HF⟩:∃ F,Hid (F=eAt k):=⟨_,rfl⟩
   rw[←HF.out] at hcall hst
   by_cases hz:F=0
   ·have HX:Hid (R=A3m eAt (k+1) m):=by
     show _=_
     rw[HK.out,hst,if_pos hz]
    have HZ':Hid (∀ i,i < k+1→eAt i=0):=by
     show ∀ i,i < k+1→eAt i=0
     intro i hi
     rcases Nat.lt_succ_iff_lt_or_eq.1 hi with h|h
     ·exact HZ.out i h
     ·rw[h,←HF.out,hz]
    have ez:(F != 0)=false:=by simp[hz]
    clear hst hz hstep hgs
    go_wp2_with fail
    refine hcall.mono ?_
    rintro e w1 ⟨rfl,hs1⟩
    go_wp2_with fail
    go_roundg m
    case measure=>omega
    case rel=>exact⟨k+1,by omega,by go_num,HX,HZ',hs.trans hs1⟩
   ·have HX:Hid (R=F):=by
     show _=_
     rw[HK.out,hst,if_neg hz]
    have HY:Hid (R≠0):=by show R≠0;rw[HX.out];exact hz
    have ez:(F != 0)=true:=by simpa using hz
    clear hst hz hstep hgs
    go_wp2_with fail
    refine hcall.mono ?_
    rintro e w1 ⟨rfl,hs1⟩
    go_wp2
    go_ret
    exact⟨by rw[HX.out];rfl,_,hs.trans hs1,fun e=>absurd e HY.out⟩
  ·obtain rfl:k=n:=by omega
   obtain rfl:gk=0:=by omega
   have HX:Hid (R=0):=HK
   go_wp2
   go_ret
   exact⟨by rw[HX.out];rfl,_,hs,fun _=>rfl⟩
end L
end Go.Proofs.YtelmjekjohbmjaaGreatDoor
namespace Go.Proofs.YtelmjekjohbmjaaGreatDoor
namespace L
open Go.ChangeShapes Go.WideShapes Go.ChangeAt Go.RowKit
section
variable {H:Type}{enc:TypeId×Value→H}{w:World}{base:Nat}{spare:Nat→Bool}{held:Bool}
end
end L
end Go.Proofs.YtelmjekjohbmjaaGreatDoor
