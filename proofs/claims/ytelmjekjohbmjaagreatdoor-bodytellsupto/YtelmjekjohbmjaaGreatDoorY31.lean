import Derived.Test.YtelmjekjohbmjaaGreatDoorY30
import Derived.Deep.RegionHeld3
namespace Go.Proofs.YtelmjekjohbmjaaGreatDoor
namespace L
open Go.RowKit
set_option linter.unusedVariables false
theorem A0e (w:World) (g:Nat) (i:Nat) (cs:Array Value) (t:TypeId) (v:Value) (h:w.heap[g]?=some (.cells cs t (0,0))):(w.setCell ⟨g,i,none⟩ v).heap[g]?=some (.cells (cs.setIfInBounds i v) t (0,0)):=heap_setCell_same _ _ _ _ _ _ h
theorem FrB.setT {c:Nat}{V W:World}{i:Nat}{v:Value}{cs:Array Value}{t:TypeId}(hc:V.heap[c]?=some (.cells cs t (0,0))) (ht:t≠5) (h:Below V.heap.size V W):FrB [c] V (W.setCell ⟨c,i,none⟩ v):=by
 refine⟨h.os,h.tape,h.output,by simpa using h.size,fun k hk hd=>?_⟩
 by_cases e:k=c
 ·subst e
  rcases hd with hd|⟨cs',fr,hd⟩
  ·simp at hd
  ·rw[hc] at hd
   simp at hd
   exact absurd hd.2.1 ht
 ·rw[Below.heap_setCell _ _ _ k (show k≠c from e)];exact h.block k hk
set_option maxHeartbeats 4000000 in
set_option maxRecDepth 100000 in
theorem B4n {d:Nat}{u w:World}(hsu:Sub u w){am ae:Option Addr}{nm cm ne ce bx ox:Nat}{x:FI}(hx:FAt w ⟨bx,ox,none⟩ x) (hm:x.many=true) (a b:VI (BI d)){a1 a2 a3 b1 b2 b3:Option Addr}{n1 c1 n2 c2 n3 c3 m1 d1 m2 d2 m3 d3:Nat}(ha:QRd d u (a,(a1,n1,c1),(a2,n2,c2),(a3,n3,c3))) (hb:QRd d u (b,(b1,m1,d1),(b2,m2,d2),(b3,m3,d3))) (hl1:(a.bits.length+b.bits.length)*8≤140737488355328) (hl2:(a.bytes.length+b.bytes.length)*24≤140737488355328) (hl3:(a.subs.length+b.subs.length)*48≤140737488355328) :
  Calls Tryz.prog 67 #[.agg #[.slice am nm cm,.slice ae ne ce],.pointer (some ⟨bx,ox,none⟩),.agg #[.int .i64 a.number,.slice a1 n1 c1,.slice a2 n2 c2,.slice a3 n3 c3],.agg #[.int .i64 b.number,.slice b1 m1 d1,.slice b2 m2 d2,.slice b3 m3 d3]] w fun e w'=>∃ (e1:Option Addr) (h1 l1:Nat) (e2:Option Addr) (h2 l2:Nat) (e3:Option Addr) (h3 l3:Nat),e = .returned (.agg #[.int .i64 a.number,.slice e1 h1 l1,.slice e2 h2 l2,.slice e3 h3 l3])∧(∀ u',Over u w w' u'→QRd d u' (⟨a.number,a.bits++b.bits,a.bytes++b.bytes,a.subs++b.subs⟩,(e1,h1,l1),(e2,h2,l2),(e3,h3,l3)))∧Below w.heap.size w w':=by
 obtain⟨la1,ea1,ta1,sa1⟩:=kpU.src ha.1
 obtain⟨la2,ea2,ta2,sa2⟩:=kpZ.src ha.2.1
 obtain⟨la3,ea3,ta3,sa3⟩:=(kpB d).src ha.2.2
 obtain⟨lb1,eb1,tb1,sb1⟩:=kpU.src hb.1
 obtain⟨lb2,eb2,tb2,sb2⟩:=kpZ.src hb.2.1
 obtain⟨lb3,eb3,tb3,sb3⟩:=(kpB d).src hb.2.2
 have sa1:=sa1.sub hsu
 have sa2:=sa2.sub hsu
 have sa3:=sa3.sub hsu
 have sb1:=sb1.sub hsu
 have sb2:=sb2.sub hsu
 have sb3:=sb3.sub hsu
 obtain⟨W0,HW0⟩:∃ W0,Hid (W0=(((w.alloc (.cells #[.slice am nm cm,.slice ae ne ce] 25)).alloc (.cells #[.int .i64 a.number,.slice a1 n1 c1,.slice a2 n2 c2,.slice a3 n3 c3] 34)).alloc (.cells #[.int .i64 b.number,.slice b1 m1 d1,.slice b2 m2 d2,.slice b3 m3 d3] 34)).alloc (.cells #[.int .i64 0,.slice none 0 0,.slice none 0 0,.slice none 0 0] 34)):=⟨_,rfl⟩
 obtain⟨_,xa,xb,xr,z0⟩:=A4w w (.cells #[.slice am nm cm,.slice ae ne ce] 25) (.cells #[.int .i64 a.number,.slice a1 n1 c1,.slice a2 n2 c2,.slice a3 n3 c3] 34) (.cells #[.int .i64 b.number,.slice b1 m1 d1,.slice b2 m2 d2,.slice b3 m3 d3] 34) (.cells #[.int .i64 0,.slice none 0 0,.slice none 0 0,.slice none 0 0] 34)
 rw[←HW0.out] at xa xb xr z0
 have hb0:Below w.heap.size w W0:=by rw[HW0.out];exact((((Below.refl _ _).alloc (Nat.le_refl _) _).alloc (by simp) _).alloc (by simp;omega) _).alloc (by simp;omega) _
 have hz0:w.heap.size+4≤W0.heap.size:=Nat.le_of_eq z0.symm
 have L1:Hid (la1.length=a.bits.length∧lb1.length=b.bits.length):=⟨by rw[←ea1,List.length_map],by rw[←eb1,List.length_map]⟩
 have L2:Hid (la2.length=a.bytes.length∧lb2.length=b.bytes.length):=⟨by rw[←ea2,List.length_map],by rw[←eb2,List.length_map]⟩
 have L3:Hid (la3.length=a.subs.length∧lb3.length=b.subs.length):=⟨by rw[←ea3,List.length_map],by rw[←eb3,List.length_map]⟩
 have g1:la1.length*8≤140737488355328:=by have:=L1.out;omega
 have g2:la2.length*24≤140737488355328:=by have:=L2.out;omega
 have g3:la3.length*48≤140737488355328:=by have:=L3.out;omega
 have k1:(([]++la1).length+lb1.length)*ekU.bytes≤140737488355328:=by show(_+_)*8≤_;rw[List.nil_append];have:=L1.out;omega
 have k2:(([]++la2).length+lb2.length)*ekZ.bytes≤140737488355328:=by show(_+_)*24≤_;rw[List.nil_append];have:=L2.out;omega
 have k3:(([]++la3).length+lb3.length)*(A6y d).bytes≤140737488355328:=by show(_+_)*48≤_;rw[List.nil_append];have:=L3.out;omega
 obtain⟨_,_,_,_,f4,_⟩:=(FAt.stays _ _ _ _ hb0 hx).at
 rw[hm] at f4
 have HA1:Hid (la1.map id=a.bits∧lb1.map id=b.bits):=⟨ea1,eb1⟩
 have HA2:Hid (la2.map Prod.fst=a.bytes∧lb2.map Prod.fst=b.bytes):=⟨ea2,eb2⟩
 have HA3:Hid (la3.map Prod.fst=a.subs∧lb3.map Prod.fst=b.subs):=⟨ea3,eb3⟩
 clear ea1 ea2 ea3 eb1 eb2 eb3 hl1 hl2 hl3 z0 ha hb hx
 go_enter Tryz.func67,Tryz.ntmps67
 go_upto_region 1 with fail
 rw[←HW0.out]
 go_upto_region 2 with fail
 go_cut [20] from 13 to 19 (fun _ wc=>∃ (i1:Option Addr) (j1 k1':Nat),wc.heap[w.heap.size+1]?=some (.cells #[.int .i64 a.number,.slice i1 j1 k1',.slice a2 n2 c2,.slice a3 n3 c3] 34 (0,0))∧Row (ekU) wc W0.heap.size (.slice i1 j1 k1') (la1++lb1)∧FrB [w.heap.size+1] W0 wc)
 case first=>
  obtain⟨X1,HX1⟩:∃ X1,Hid (X1=(W0.alloc (.cells #[] 35)).drew):=⟨_,rfl⟩
  have hDp:Below W0.heap.size W0 W0.drew:=(Below.refl _ _).drew
  have hX1:Below W0.heap.size W0 X1:=by rw[HX1.out];exact((Below.refl _ _).alloc (Nat.le_refl _) _).drew
  have xX1:X1.heap[W0.heap.size]?=some (.cells #[] 35 (0,0)):=by rw[HX1.out];exact heap_alloc_new W0 _
  have hrX:=Row.empT (ekU) (base:=W0.heap.size) (Nat.le_refl _) xX1
  have hclp:∀ U,Below W0.heap.size W0 U→U.cell? ⟨w.heap.size+1,1,none⟩=some (.slice a1 n1 c1)∧U.frozen? ⟨w.heap.size+1,1,none⟩=false∧U.cell? ⟨w.heap.size+2,1,none⟩=some (.slice b1 m1 d1):=fun U hU=>⟨A0a ((hU.block _ (by omega)).trans xa) 1 _ rfl,A0b ((hU.block _ (by omega)).trans xa) 1,A0a ((hU.block _ (by omega)).trans xb) 1 _ rfl⟩
  have hsAp:=(sa1.below hb0).below hX1
  obtain⟨u1,u2,u3⟩:=hclp _ hDp
  obtain⟨u4,u5,u6⟩:=hclp _ hX1
  refine wp_region_held_drew (S:=fun _=>True) (by kernel_rfl) trivial (fun hHeld=>?_)
  refine tK (i:=1) (v:=?vp1) rfl (fun _ _ _ h=>h) ⟨by rfl,?hyp1⟩ (by assumption) ?_
  case hyp1=>(intro W hSw;(try dsimp only at hSw);go_simp;first|done|with_reducible rfl)
  try simp only[pT,Act.put]
  refine tK (i:=4) (v:=?vp2) rfl (fun _ _ _ h=>h) ⟨by rfl,?hyp2⟩ (by assumption) ?_
  case hyp2=>(intro W hSw;(try dsimp only at hSw);go_simp;first|done|with_reducible rfl)
  try simp only[pT,Act.put]
  refine wpAnyH_ready (rs:=[0,2,5]) (by kernel_rfl) (by simp) ?_
  refine AllReadyH.cons rfl (fun K hK=>?_) (AllReadyH.cons rfl (fun K hK=>?_) (AllReadyH.cons rfl (fun K hK=>?_) AllReadyH.nil))
  ·skip
   go_simp
   rw[←HX1.out]
   refine hK.out _ _ ?_ (fun hHeld=>?_)
   ·(try dsimp only);try exact trivial
   clear hK K
   try simp only[pT,Act.put]
   refine wpAnyH_ready (rs:=[2,5]) (by kernel_rfl) (by simp) ?_
   refine AllReadyH.cons rfl (fun K hK=>?_) (AllReadyH.cons rfl (fun K hK=>?_) AllReadyH.nil)
   ·skip
    go_simp
    refine hK.out _ _ ?_ (fun hHeld=>?_)
    ·(try dsimp only);try exact trivial
    clear hK K
    try simp only[pT,Act.put]
    refine wpAnyH_ready (rs:=[3,5]) (by kernel_rfl) (by simp) ?_
    refine AllReadyH.cons rfl (fun K hK=>?_) (AllReadyH.cons rfl (fun K hK=>?_) AllReadyH.nil)
    ·skip
     skip
     refine A0d (by rfl) (ekU) _ _ (by rfl) W0.heap.size (.slice (some ⟨W0.heap.size,0,none⟩) 0 0) [] la1 (by rfl) hrX a1 n1 c1 (by rfl) hsAp.1 hsAp.2.1 hsAp.2.2 (show 1≤8 by omega) (by show(0+_)*8≤_;rw[Nat.zero_add];exact g1) hX1.size ?_
     intro v5 w5 hr5 hg5
     obtain⟨a5,n5,c5,rfl,H5⟩:=hr5.shape'
     have hB5:Below W0.heap.size W0 w5:=hX1.grown hg5 hX1.size (fun k hk=>(hrX.own k hk).1)
     have hsB:=(sb1.below hb0).below hB5
     obtain⟨u7,u8,u9⟩:=hclp _ hB5
     refine hK.out _ _ ?_ (fun hHeld=>?_)
     ·(try dsimp only);try exact trivial
     clear hK K
     try simp only[pT,Act.put]
     refine wpAnyH_ready (rs:=[5]) (by kernel_rfl) (by simp) ?_
     refine AllReadyH.cons rfl (fun K hK=>?_) AllReadyH.nil
     go_simp
     refine hK.out _ _ ?_ (fun hHeld=>?_)
     ·(try dsimp only);try exact trivial
     clear hK K
     try simp only[pT,Act.put]
     refine wpAnyH_ready (rs:=[6]) (by kernel_rfl) (by simp) ?_
     refine AllReadyH.cons rfl (fun K hK=>?_) AllReadyH.nil
     skip
     refine A0d (by rfl) (ekU) _ _ (by rfl) W0.heap.size (.slice a5 n5 c5) ([]++la1) lb1 (by rfl) hr5 b1 m1 d1 (by rfl) hsB.1 hsB.2.1 hsB.2.2 (show 1≤8 by omega) k1 hB5.size ?_
     intro v7 w7 hr7 hg7
     obtain⟨a7,n7,c7,rfl,H7⟩:=hr7.shape'
     have hB7:Below W0.heap.size W0 w7:=hB5.grown hg7 hB5.size (fun k hk=>(hr5.own k hk).1)
     have hA7:=(hB7.block _ (by omega)).trans xa
     obtain⟨u10,u11,u12⟩:=hclp _ hB7
     refine hK.out _ _ ?_ (fun hHeld=>?_)
     ·(try dsimp only);try exact trivial
     clear hK K
     try simp only[pT,Act.put]
     refine tK (i:=7) (v:=?vp3) rfl (fun _ _ _ h=>h) ⟨by rfl,?hyp3⟩ (by assumption) ?_
     case hyp3=>(intro W hSw;(try dsimp only at hSw);go_simp;first|done|with_reducible rfl)
     try simp only[pT,Act.put]
     refine wpAnyH_ready (rs:=[8]) (by kernel_rfl) (by simp) ?_
     refine AllReadyH.cons rfl (fun K hK=>?_) AllReadyH.nil
     go_simp
     refine hK.out _ _ ?_ (fun hHeld=>?_)
     ·(try dsimp only);try exact trivial
     clear hK K
     try simp only[pT,Act.put]
     refine wpAnyH_done (by kernel_rfl) ?_ _
     go_wp2_with fail
     go_meet
     exact⟨a7,n7,c7,A0e _ _ _ _ _ _ hA7,hr7.set4 (by omega),FrB.setT xa (by decide) hB7⟩
    ·skip
     go_simp
     refine hK.out _ _ ?_ (fun hHeld=>?_)
     ·(try dsimp only);try exact trivial
     clear hK K
     try simp only[pT,Act.put]
     refine wpAnyH_ready (rs:=[3]) (by kernel_rfl) (by simp) ?_
     refine AllReadyH.cons rfl (fun K hK=>?_) AllReadyH.nil
     skip
     refine A0d (by rfl) (ekU) _ _ (by rfl) W0.heap.size (.slice (some ⟨W0.heap.size,0,none⟩) 0 0) [] la1 (by rfl) hrX a1 n1 c1 (by rfl) hsAp.1 hsAp.2.1 hsAp.2.2 (show 1≤8 by omega) (by show(0+_)*8≤_;rw[Nat.zero_add];exact g1) hX1.size ?_
     intro v5 w5 hr5 hg5
     obtain⟨a5,n5,c5,rfl,H5⟩:=hr5.shape'
     have hB5:Below W0.heap.size W0 w5:=hX1.grown hg5 hX1.size (fun k hk=>(hrX.own k hk).1)
     have hsB:=(sb1.below hb0).below hB5
     obtain⟨u7,u8,u9⟩:=hclp _ hB5
     refine hK.out _ _ ?_ (fun hHeld=>?_)
     ·(try dsimp only);try exact trivial
     clear hK K
     try simp only[pT,Act.put]
     refine wpAnyH_ready (rs:=[6]) (by kernel_rfl) (by simp) ?_
     refine AllReadyH.cons rfl (fun K hK=>?_) AllReadyH.nil
     skip
     refine A0d (by rfl) (ekU) _ _ (by rfl) W0.heap.size (.slice a5 n5 c5) ([]++la1) lb1 (by rfl) hr5 b1 m1 d1 (by rfl) hsB.1 hsB.2.1 hsB.2.2 (show 1≤8 by omega) k1 hB5.size ?_
     intro v7 w7 hr7 hg7
     obtain⟨a7,n7,c7,rfl,H7⟩:=hr7.shape'
     have hB7:Below W0.heap.size W0 w7:=hB5.grown hg7 hB5.size (fun k hk=>(hr5.own k hk).1)
     have hA7:=(hB7.block _ (by omega)).trans xa
     obtain⟨u10,u11,u12⟩:=hclp _ hB7
     refine hK.out _ _ ?_ (fun hHeld=>?_)
     ·(try dsimp only);try exact trivial
     clear hK K
     try simp only[pT,Act.put]
     refine tK (i:=7) (v:=?vp4) rfl (fun _ _ _ h=>h) ⟨by rfl,?hyp4⟩ (by assumption) ?_
     case hyp4=>(intro W hSw;(try dsimp only at hSw);go_simp;first|done|with_reducible rfl)
     try simp only[pT,Act.put]
     refine wpAnyH_ready (rs:=[8]) (by kernel_rfl) (by simp) ?_
     refine AllReadyH.cons rfl (fun K hK=>?_) AllReadyH.nil
     go_simp
     refine hK.out _ _ ?_ (fun hHeld=>?_)
     ·(try dsimp only);try exact trivial
     clear hK K
     try simp only[pT,Act.put]
     refine wpAnyH_done (by kernel_rfl) ?_ _
     go_wp2_with fail
     go_meet
     exact⟨a7,n7,c7,A0e _ _ _ _ _ _ hA7,hr7.set4 (by omega),FrB.setT xa (by decide) hB7⟩
   ·skip
    go_simp
    refine hK.out _ _ ?_ (fun hHeld=>?_)
    ·(try dsimp only);try exact trivial
    clear hK K
    try simp only[pT,Act.put]
    refine wpAnyH_ready (rs:=[2]) (by kernel_rfl) (by simp) ?_
    refine AllReadyH.cons rfl (fun K hK=>?_) AllReadyH.nil
    go_simp
    refine hK.out _ _ ?_ (fun hHeld=>?_)
    ·(try dsimp only);try exact trivial
    clear hK K
    try simp only[pT,Act.put]
    refine wpAnyH_ready (rs:=[3]) (by kernel_rfl) (by simp) ?_
    refine AllReadyH.cons rfl (fun K hK=>?_) AllReadyH.nil
    skip
    refine A0d (by rfl) (ekU) _ _ (by rfl) W0.heap.size (.slice (some ⟨W0.heap.size,0,none⟩) 0 0) [] la1 (by rfl) hrX a1 n1 c1 (by rfl) hsAp.1 hsAp.2.1 hsAp.2.2 (show 1≤8 by omega) (by show(0+_)*8≤_;rw[Nat.zero_add];exact g1) hX1.size ?_
    intro v5 w5 hr5 hg5
    obtain⟨a5,n5,c5,rfl,H5⟩:=hr5.shape'
    have hB5:Below W0.heap.size W0 w5:=hX1.grown hg5 hX1.size (fun k hk=>(hrX.own k hk).1)
    have hsB:=(sb1.below hb0).below hB5
    obtain⟨u7,u8,u9⟩:=hclp _ hB5
    refine hK.out _ _ ?_ (fun hHeld=>?_)
    ·(try dsimp only);try exact trivial
    clear hK K
    try simp only[pT,Act.put]
    refine wpAnyH_ready (rs:=[6]) (by kernel_rfl) (by simp) ?_
    refine AllReadyH.cons rfl (fun K hK=>?_) AllReadyH.nil
    skip
    refine A0d (by rfl) (ekU) _ _ (by rfl) W0.heap.size (.slice a5 n5 c5) ([]++la1) lb1 (by rfl) hr5 b1 m1 d1 (by rfl) hsB.1 hsB.2.1 hsB.2.2 (show 1≤8 by omega) k1 hB5.size ?_
    intro v7 w7 hr7 hg7
    obtain⟨a7,n7,c7,rfl,H7⟩:=hr7.shape'
    have hB7:Below W0.heap.size W0 w7:=hB5.grown hg7 hB5.size (fun k hk=>(hr5.own k hk).1)
    have hA7:=(hB7.block _ (by omega)).trans xa
    obtain⟨u10,u11,u12⟩:=hclp _ hB7
    refine hK.out _ _ ?_ (fun hHeld=>?_)
    ·(try dsimp only);try exact trivial
    clear hK K
    try simp only[pT,Act.put]
    refine tK (i:=7) (v:=?vp5) rfl (fun _ _ _ h=>h) ⟨by rfl,?hyp5⟩ (by assumption) ?_
    case hyp5=>(intro W hSw;(try dsimp only at hSw);go_simp;first|done|with_reducible rfl)
    try simp only[pT,Act.put]
    refine wpAnyH_ready (rs:=[8]) (by kernel_rfl) (by simp) ?_
    refine AllReadyH.cons rfl (fun K hK=>?_) AllReadyH.nil
    go_simp
    refine hK.out _ _ ?_ (fun hHeld=>?_)
    ·(try dsimp only);try exact trivial
    clear hK K
    try simp only[pT,Act.put]
    refine wpAnyH_done (by kernel_rfl) ?_ _
    go_wp2_with fail
    go_meet
    exact⟨a7,n7,c7,A0e _ _ _ _ _ _ hA7,hr7.set4 (by omega),FrB.setT xa (by decide) hB7⟩
  ·skip
   go_simp
   refine hK.out _ _ ?_ (fun hHeld=>?_)
   ·(try dsimp only);try exact trivial
   clear hK K
   try simp only[pT,Act.put]
   refine wpAnyH_ready (rs:=[0,5]) (by kernel_rfl) (by simp) ?_
   refine AllReadyH.cons rfl (fun K hK=>?_) (AllReadyH.cons rfl (fun K hK=>?_) AllReadyH.nil)
   ·skip
    go_simp
    rw[←HX1.out]
    refine hK.out _ _ ?_ (fun hHeld=>?_)
    ·(try dsimp only);try exact trivial
    clear hK K
    try simp only[pT,Act.put]
    refine wpAnyH_ready (rs:=[3,5]) (by kernel_rfl) (by simp) ?_
    refine AllReadyH.cons rfl (fun K hK=>?_) (AllReadyH.cons rfl (fun K hK=>?_) AllReadyH.nil)
    ·skip
     skip
     refine A0d (by rfl) (ekU) _ _ (by rfl) W0.heap.size (.slice (some ⟨W0.heap.size,0,none⟩) 0 0) [] la1 (by rfl) hrX a1 n1 c1 (by rfl) hsAp.1 hsAp.2.1 hsAp.2.2 (show 1≤8 by omega) (by show(0+_)*8≤_;rw[Nat.zero_add];exact g1) hX1.size ?_
     intro v5 w5 hr5 hg5
     obtain⟨a5,n5,c5,rfl,H5⟩:=hr5.shape'
     have hB5:Below W0.heap.size W0 w5:=hX1.grown hg5 hX1.size (fun k hk=>(hrX.own k hk).1)
     have hsB:=(sb1.below hb0).below hB5
     obtain⟨u7,u8,u9⟩:=hclp _ hB5
     refine hK.out _ _ ?_ (fun hHeld=>?_)
     ·(try dsimp only);try exact trivial
     clear hK K
     try simp only[pT,Act.put]
     refine wpAnyH_ready (rs:=[5]) (by kernel_rfl) (by simp) ?_
     refine AllReadyH.cons rfl (fun K hK=>?_) AllReadyH.nil
     go_simp
     refine hK.out _ _ ?_ (fun hHeld=>?_)
     ·(try dsimp only);try exact trivial
     clear hK K
     try simp only[pT,Act.put]
     refine wpAnyH_ready (rs:=[6]) (by kernel_rfl) (by simp) ?_
     refine AllReadyH.cons rfl (fun K hK=>?_) AllReadyH.nil
     skip
     refine A0d (by rfl) (ekU) _ _ (by rfl) W0.heap.size (.slice a5 n5 c5) ([]++la1) lb1 (by rfl) hr5 b1 m1 d1 (by rfl) hsB.1 hsB.2.1 hsB.2.2 (show 1≤8 by omega) k1 hB5.size ?_
     intro v7 w7 hr7 hg7
     obtain⟨a7,n7,c7,rfl,H7⟩:=hr7.shape'
     have hB7:Below W0.heap.size W0 w7:=hB5.grown hg7 hB5.size (fun k hk=>(hr5.own k hk).1)
     have hA7:=(hB7.block _ (by omega)).trans xa
     obtain⟨u10,u11,u12⟩:=hclp _ hB7
     refine hK.out _ _ ?_ (fun hHeld=>?_)
     ·(try dsimp only);try exact trivial
     clear hK K
     try simp only[pT,Act.put]
     refine tK (i:=7) (v:=?vp6) rfl (fun _ _ _ h=>h) ⟨by rfl,?hyp6⟩ (by assumption) ?_
     case hyp6=>(intro W hSw;(try dsimp only at hSw);go_simp;first|done|with_reducible rfl)
     try simp only[pT,Act.put]
     refine wpAnyH_ready (rs:=[8]) (by kernel_rfl) (by simp) ?_
     refine AllReadyH.cons rfl (fun K hK=>?_) AllReadyH.nil
     go_simp
     refine hK.out _ _ ?_ (fun hHeld=>?_)
     ·(try dsimp only);try exact trivial
     clear hK K
     try simp only[pT,Act.put]
     refine wpAnyH_done (by kernel_rfl) ?_ _
     go_wp2_with fail
     go_meet
     exact⟨a7,n7,c7,A0e _ _ _ _ _ _ hA7,hr7.set4 (by omega),FrB.setT xa (by decide) hB7⟩
    ·skip
     go_simp
     refine hK.out _ _ ?_ (fun hHeld=>?_)
     ·(try dsimp only);try exact trivial
     clear hK K
     try simp only[pT,Act.put]
     refine wpAnyH_ready (rs:=[3]) (by kernel_rfl) (by simp) ?_
     refine AllReadyH.cons rfl (fun K hK=>?_) AllReadyH.nil
     skip
     refine A0d (by rfl) (ekU) _ _ (by rfl) W0.heap.size (.slice (some ⟨W0.heap.size,0,none⟩) 0 0) [] la1 (by rfl) hrX a1 n1 c1 (by rfl) hsAp.1 hsAp.2.1 hsAp.2.2 (show 1≤8 by omega) (by show(0+_)*8≤_;rw[Nat.zero_add];exact g1) hX1.size ?_
     intro v5 w5 hr5 hg5
     obtain⟨a5,n5,c5,rfl,H5⟩:=hr5.shape'
     have hB5:Below W0.heap.size W0 w5:=hX1.grown hg5 hX1.size (fun k hk=>(hrX.own k hk).1)
     have hsB:=(sb1.below hb0).below hB5
     obtain⟨u7,u8,u9⟩:=hclp _ hB5
     refine hK.out _ _ ?_ (fun hHeld=>?_)
     ·(try dsimp only);try exact trivial
     clear hK K
     try simp only[pT,Act.put]
     refine wpAnyH_ready (rs:=[6]) (by kernel_rfl) (by simp) ?_
     refine AllReadyH.cons rfl (fun K hK=>?_) AllReadyH.nil
     skip
     refine A0d (by rfl) (ekU) _ _ (by rfl) W0.heap.size (.slice a5 n5 c5) ([]++la1) lb1 (by rfl) hr5 b1 m1 d1 (by rfl) hsB.1 hsB.2.1 hsB.2.2 (show 1≤8 by omega) k1 hB5.size ?_
     intro v7 w7 hr7 hg7
     obtain⟨a7,n7,c7,rfl,H7⟩:=hr7.shape'
     have hB7:Below W0.heap.size W0 w7:=hB5.grown hg7 hB5.size (fun k hk=>(hr5.own k hk).1)
     have hA7:=(hB7.block _ (by omega)).trans xa
     obtain⟨u10,u11,u12⟩:=hclp _ hB7
     refine hK.out _ _ ?_ (fun hHeld=>?_)
     ·(try dsimp only);try exact trivial
     clear hK K
     try simp only[pT,Act.put]
     refine tK (i:=7) (v:=?vp7) rfl (fun _ _ _ h=>h) ⟨by rfl,?hyp7⟩ (by assumption) ?_
     case hyp7=>(intro W hSw;(try dsimp only at hSw);go_simp;first|done|with_reducible rfl)
     try simp only[pT,Act.put]
     refine wpAnyH_ready (rs:=[8]) (by kernel_rfl) (by simp) ?_
     refine AllReadyH.cons rfl (fun K hK=>?_) AllReadyH.nil
     go_simp
     refine hK.out _ _ ?_ (fun hHeld=>?_)
     ·(try dsimp only);try exact trivial
     clear hK K
     try simp only[pT,Act.put]
     refine wpAnyH_done (by kernel_rfl) ?_ _
     go_wp2_with fail
     go_meet
     exact⟨a7,n7,c7,A0e _ _ _ _ _ _ hA7,hr7.set4 (by omega),FrB.setT xa (by decide) hB7⟩
   ·skip
    go_simp
    refine hK.out _ _ ?_ (fun hHeld=>?_)
    ·(try dsimp only);try exact trivial
    clear hK K
    try simp only[pT,Act.put]
    refine wpAnyH_ready (rs:=[0]) (by kernel_rfl) (by simp) ?_
    refine AllReadyH.cons rfl (fun K hK=>?_) AllReadyH.nil
    go_simp
    rw[←HX1.out]
    refine hK.out _ _ ?_ (fun hHeld=>?_)
    ·(try dsimp only);try exact trivial
    clear hK K
    try simp only[pT,Act.put]
    refine wpAnyH_ready (rs:=[3]) (by kernel_rfl) (by simp) ?_
    refine AllReadyH.cons rfl (fun K hK=>?_) AllReadyH.nil
    skip
    refine A0d (by rfl) (ekU) _ _ (by rfl) W0.heap.size (.slice (some ⟨W0.heap.size,0,none⟩) 0 0) [] la1 (by rfl) hrX a1 n1 c1 (by rfl) hsAp.1 hsAp.2.1 hsAp.2.2 (show 1≤8 by omega) (by show(0+_)*8≤_;rw[Nat.zero_add];exact g1) hX1.size ?_
    intro v5 w5 hr5 hg5
    obtain⟨a5,n5,c5,rfl,H5⟩:=hr5.shape'
    have hB5:Below W0.heap.size W0 w5:=hX1.grown hg5 hX1.size (fun k hk=>(hrX.own k hk).1)
    have hsB:=(sb1.below hb0).below hB5
    obtain⟨u7,u8,u9⟩:=hclp _ hB5
    refine hK.out _ _ ?_ (fun hHeld=>?_)
    ·(try dsimp only);try exact trivial
    clear hK K
    try simp only[pT,Act.put]
    refine wpAnyH_ready (rs:=[6]) (by kernel_rfl) (by simp) ?_
    refine AllReadyH.cons rfl (fun K hK=>?_) AllReadyH.nil
    skip
    refine A0d (by rfl) (ekU) _ _ (by rfl) W0.heap.size (.slice a5 n5 c5) ([]++la1) lb1 (by rfl) hr5 b1 m1 d1 (by rfl) hsB.1 hsB.2.1 hsB.2.2 (show 1≤8 by omega) k1 hB5.size ?_
    intro v7 w7 hr7 hg7
    obtain⟨a7,n7,c7,rfl,H7⟩:=hr7.shape'
    have hB7:Below W0.heap.size W0 w7:=hB5.grown hg7 hB5.size (fun k hk=>(hr5.own k hk).1)
    have hA7:=(hB7.block _ (by omega)).trans xa
    obtain⟨u10,u11,u12⟩:=hclp _ hB7
    refine hK.out _ _ ?_ (fun hHeld=>?_)
    ·(try dsimp only);try exact trivial
    clear hK K
    try simp only[pT,Act.put]
    refine tK (i:=7) (v:=?vp8) rfl (fun _ _ _ h=>h) ⟨by rfl,?hyp8⟩ (by assumption) ?_
    case hyp8=>(intro W hSw;(try dsimp only at hSw);go_simp;first|done|with_reducible rfl)
    try simp only[pT,Act.put]
    refine wpAnyH_ready (rs:=[8]) (by kernel_rfl) (by simp) ?_
    refine AllReadyH.cons rfl (fun K hK=>?_) AllReadyH.nil
    go_simp
    refine hK.out _ _ ?_ (fun hHeld=>?_)
    ·(try dsimp only);try exact trivial
    clear hK K
    try simp only[pT,Act.put]
    refine wpAnyH_done (by kernel_rfl) ?_ _
    go_wp2_with fail
    go_meet
    exact⟨a7,n7,c7,A0e _ _ _ _ _ _ hA7,hr7.set4 (by omega),FrB.setT xa (by decide) hB7⟩
  ·skip
   go_simp
   refine hK.out _ _ ?_ (fun hHeld=>?_)
   ·(try dsimp only);try exact trivial
   clear hK K
   try simp only[pT,Act.put]
   refine wpAnyH_ready (rs:=[0,2]) (by kernel_rfl) (by simp) ?_
   refine AllReadyH.cons rfl (fun K hK=>?_) (AllReadyH.cons rfl (fun K hK=>?_) AllReadyH.nil)
   ·skip
    go_simp
    rw[←HX1.out]
    refine hK.out _ _ ?_ (fun hHeld=>?_)
    ·(try dsimp only);try exact trivial
    clear hK K
    try simp only[pT,Act.put]
    refine wpAnyH_ready (rs:=[2]) (by kernel_rfl) (by simp) ?_
    refine AllReadyH.cons rfl (fun K hK=>?_) AllReadyH.nil
    go_simp
    refine hK.out _ _ ?_ (fun hHeld=>?_)
    ·(try dsimp only);try exact trivial
    clear hK K
    try simp only[pT,Act.put]
    refine wpAnyH_ready (rs:=[3]) (by kernel_rfl) (by simp) ?_
    refine AllReadyH.cons rfl (fun K hK=>?_) AllReadyH.nil
    skip
    refine A0d (by rfl) (ekU) _ _ (by rfl) W0.heap.size (.slice (some ⟨W0.heap.size,0,none⟩) 0 0) [] la1 (by rfl) hrX a1 n1 c1 (by rfl) hsAp.1 hsAp.2.1 hsAp.2.2 (show 1≤8 by omega) (by show(0+_)*8≤_;rw[Nat.zero_add];exact g1) hX1.size ?_
    intro v5 w5 hr5 hg5
    obtain⟨a5,n5,c5,rfl,H5⟩:=hr5.shape'
    have hB5:Below W0.heap.size W0 w5:=hX1.grown hg5 hX1.size (fun k hk=>(hrX.own k hk).1)
    have hsB:=(sb1.below hb0).below hB5
    obtain⟨u7,u8,u9⟩:=hclp _ hB5
    refine hK.out _ _ ?_ (fun hHeld=>?_)
    ·(try dsimp only);try exact trivial
    clear hK K
    try simp only[pT,Act.put]
    refine wpAnyH_ready (rs:=[6]) (by kernel_rfl) (by simp) ?_
    refine AllReadyH.cons rfl (fun K hK=>?_) AllReadyH.nil
    skip
    refine A0d (by rfl) (ekU) _ _ (by rfl) W0.heap.size (.slice a5 n5 c5) ([]++la1) lb1 (by rfl) hr5 b1 m1 d1 (by rfl) hsB.1 hsB.2.1 hsB.2.2 (show 1≤8 by omega) k1 hB5.size ?_
    intro v7 w7 hr7 hg7
    obtain⟨a7,n7,c7,rfl,H7⟩:=hr7.shape'
    have hB7:Below W0.heap.size W0 w7:=hB5.grown hg7 hB5.size (fun k hk=>(hr5.own k hk).1)
    have hA7:=(hB7.block _ (by omega)).trans xa
    obtain⟨u10,u11,u12⟩:=hclp _ hB7
    refine hK.out _ _ ?_ (fun hHeld=>?_)
    ·(try dsimp only);try exact trivial
    clear hK K
    try simp only[pT,Act.put]
    refine tK (i:=7) (v:=?vp9) rfl (fun _ _ _ h=>h) ⟨by rfl,?hyp9⟩ (by assumption) ?_
    case hyp9=>(intro W hSw;(try dsimp only at hSw);go_simp;first|done|with_reducible rfl)
    try simp only[pT,Act.put]
    refine wpAnyH_ready (rs:=[8]) (by kernel_rfl) (by simp) ?_
    refine AllReadyH.cons rfl (fun K hK=>?_) AllReadyH.nil
    go_simp
    refine hK.out _ _ ?_ (fun hHeld=>?_)
    ·(try dsimp only);try exact trivial
    clear hK K
    try simp only[pT,Act.put]
    refine wpAnyH_done (by kernel_rfl) ?_ _
    go_wp2_with fail
    go_meet
    exact⟨a7,n7,c7,A0e _ _ _ _ _ _ hA7,hr7.set4 (by omega),FrB.setT xa (by decide) hB7⟩
   ·skip
    go_simp
    refine hK.out _ _ ?_ (fun hHeld=>?_)
    ·(try dsimp only);try exact trivial
    clear hK K
    try simp only[pT,Act.put]
    refine wpAnyH_ready (rs:=[0]) (by kernel_rfl) (by simp) ?_
    refine AllReadyH.cons rfl (fun K hK=>?_) AllReadyH.nil
    go_simp
    rw[←HX1.out]
    refine hK.out _ _ ?_ (fun hHeld=>?_)
    ·(try dsimp only);try exact trivial
    clear hK K
    try simp only[pT,Act.put]
    refine wpAnyH_ready (rs:=[3]) (by kernel_rfl) (by simp) ?_
    refine AllReadyH.cons rfl (fun K hK=>?_) AllReadyH.nil
    skip
    refine A0d (by rfl) (ekU) _ _ (by rfl) W0.heap.size (.slice (some ⟨W0.heap.size,0,none⟩) 0 0) [] la1 (by rfl) hrX a1 n1 c1 (by rfl) hsAp.1 hsAp.2.1 hsAp.2.2 (show 1≤8 by omega) (by show(0+_)*8≤_;rw[Nat.zero_add];exact g1) hX1.size ?_
    intro v5 w5 hr5 hg5
    obtain⟨a5,n5,c5,rfl,H5⟩:=hr5.shape'
    have hB5:Below W0.heap.size W0 w5:=hX1.grown hg5 hX1.size (fun k hk=>(hrX.own k hk).1)
    have hsB:=(sb1.below hb0).below hB5
    obtain⟨u7,u8,u9⟩:=hclp _ hB5
    refine hK.out _ _ ?_ (fun hHeld=>?_)
    ·(try dsimp only);try exact trivial
    clear hK K
    try simp only[pT,Act.put]
    refine wpAnyH_ready (rs:=[6]) (by kernel_rfl) (by simp) ?_
    refine AllReadyH.cons rfl (fun K hK=>?_) AllReadyH.nil
    skip
    refine A0d (by rfl) (ekU) _ _ (by rfl) W0.heap.size (.slice a5 n5 c5) ([]++la1) lb1 (by rfl) hr5 b1 m1 d1 (by rfl) hsB.1 hsB.2.1 hsB.2.2 (show 1≤8 by omega) k1 hB5.size ?_
    intro v7 w7 hr7 hg7
    obtain⟨a7,n7,c7,rfl,H7⟩:=hr7.shape'
    have hB7:Below W0.heap.size W0 w7:=hB5.grown hg7 hB5.size (fun k hk=>(hr5.own k hk).1)
    have hA7:=(hB7.block _ (by omega)).trans xa
    obtain⟨u10,u11,u12⟩:=hclp _ hB7
    refine hK.out _ _ ?_ (fun hHeld=>?_)
    ·(try dsimp only);try exact trivial
    clear hK K
    try simp only[pT,Act.put]
    refine tK (i:=7) (v:=?vp10) rfl (fun _ _ _ h=>h) ⟨by rfl,?hyp10⟩ (by assumption) ?_
    case hyp10=>(intro W hSw;(try dsimp only at hSw);go_simp;first|done|with_reducible rfl)
    try simp only[pT,Act.put]
    refine wpAnyH_ready (rs:=[8]) (by kernel_rfl) (by simp) ?_
    refine AllReadyH.cons rfl (fun K hK=>?_) AllReadyH.nil
    go_simp
    refine hK.out _ _ ?_ (fun hHeld=>?_)
    ·(try dsimp only);try exact trivial
    clear hK K
    try simp only[pT,Act.put]
    refine wpAnyH_done (by kernel_rfl) ?_ _
    go_wp2_with fail
    go_meet
    exact⟨a7,n7,c7,A0e _ _ _ _ _ _ hA7,hr7.set4 (by omega),FrB.setT xa (by decide) hB7⟩
 case rest=>
 obtain⟨i1,j1,k1',xa1,hr1',hf1⟩:=hcut
 obtain⟨V1,HV1⟩:∃ V1,V1=wc:=⟨_,rfl⟩
 subst HV1
 have hB1':Below w.heap.size w V1:=hb0.trans (hf1.below (by omega) (fun k hk=>by rw[List.mem_singleton.1 hk];omega))
 have xb1:=(hf1.block _ (by omega) (.inl (by simp))).trans xb
 have xr1:=(hf1.block _ (by omega) (.inl (by simp))).trans xr
 have hz1:w.heap.size+4≤V1.heap.size:=Nat.le_trans hz0 hf1.size
 have hzz1:=hf1.size
 go_upto_region 3 with fail
 go_cut [28] from 21 to 27 (fun _ wc=>∃ (i2:Option Addr) (j2 k2':Nat),wc.heap[w.heap.size+1]?=some (.cells #[.int .i64 a.number,.slice i1 j1 k1',.slice i2 j2 k2',.slice a3 n3 c3] 34 (0,0))∧Row (ekZ) wc W0.heap.size (.slice i2 j2 k2') (la2++lb2)∧FrB [w.heap.size+1] V1 wc)
 case first=>
  obtain⟨X1,HX1⟩:∃ X1,Hid (X1=(V1.alloc (.cells #[] 68)).drew):=⟨_,rfl⟩
  have hDq:Below V1.heap.size V1 V1.drew:=(Below.refl _ _).drew
  have hX1:Below V1.heap.size V1 X1:=by rw[HX1.out];exact((Below.refl _ _).alloc (Nat.le_refl _) _).drew
  have xX1:X1.heap[V1.heap.size]?=some (.cells #[] 68 (0,0)):=by rw[HX1.out];exact heap_alloc_new V1 _
  have hrX:=Row.empT (ekZ) (base:=V1.heap.size) (Nat.le_refl _) xX1
  have hclq:∀ U,Below V1.heap.size V1 U→U.cell? ⟨w.heap.size+1,2,none⟩=some (.slice a2 n2 c2)∧U.frozen? ⟨w.heap.size+1,2,none⟩=false∧U.cell? ⟨w.heap.size+2,2,none⟩=some (.slice b2 m2 d2):=fun U hU=>⟨A0a ((hU.block _ (by omega)).trans xa1) 2 _ rfl,A0b ((hU.block _ (by omega)).trans xa1) 2,A0a ((hU.block _ (by omega)).trans xb1) 2 _ rfl⟩
  have hsAq:=(sa2.below hB1').below hX1
  obtain⟨u1,u2,u3⟩:=hclq _ hDq
  obtain⟨u4,u5,u6⟩:=hclq _ hX1
  refine wp_region_held_drew (S:=fun _=>True) (by kernel_rfl) trivial (fun hHeld=>?_)
  refine tK (i:=1) (v:=?vq1) rfl (fun _ _ _ h=>h) ⟨by rfl,?hyq1⟩ (by assumption) ?_
  case hyq1=>(intro W hSw;(try dsimp only at hSw);go_simp;first|done|with_reducible rfl)
  try simp only[pT,Act.put]
  refine tK (i:=4) (v:=?vq2) rfl (fun _ _ _ h=>h) ⟨by rfl,?hyq2⟩ (by assumption) ?_
  case hyq2=>(intro W hSw;(try dsimp only at hSw);go_simp;first|done|with_reducible rfl)
  try simp only[pT,Act.put]
  refine wpAnyH_ready (rs:=[0,2,5]) (by kernel_rfl) (by simp) ?_
  refine AllReadyH.cons rfl (fun K hK=>?_) (AllReadyH.cons rfl (fun K hK=>?_) (AllReadyH.cons rfl (fun K hK=>?_) AllReadyH.nil))
  ·skip
   go_simp
   rw[←HX1.out]
   refine hK.out _ _ ?_ (fun hHeld=>?_)
   ·(try dsimp only);try exact trivial
   clear hK K
   try simp only[pT,Act.put]
   refine wpAnyH_ready (rs:=[2,5]) (by kernel_rfl) (by simp) ?_
   refine AllReadyH.cons rfl (fun K hK=>?_) (AllReadyH.cons rfl (fun K hK=>?_) AllReadyH.nil)
   ·skip
    go_simp
    refine hK.out _ _ ?_ (fun hHeld=>?_)
    ·(try dsimp only);try exact trivial
    clear hK K
    try simp only[pT,Act.put]
    refine wpAnyH_ready (rs:=[3,5]) (by kernel_rfl) (by simp) ?_
    refine AllReadyH.cons rfl (fun K hK=>?_) (AllReadyH.cons rfl (fun K hK=>?_) AllReadyH.nil)
    ·skip
     skip
     refine A0d (by rfl) (ekZ) _ _ (by rfl) V1.heap.size (.slice (some ⟨V1.heap.size,0,none⟩) 0 0) [] la2 (by rfl) hrX a2 n2 c2 (by rfl) hsAq.1 hsAq.2.1 hsAq.2.2 (show 1≤24 by omega) (by show(0+_)*24≤_;rw[Nat.zero_add];exact g2) hX1.size ?_
     intro v5 w5 hr5 hg5
     obtain⟨a5,n5,c5,rfl,H5⟩:=hr5.shape'
     have hB5:Below V1.heap.size V1 w5:=hX1.grown hg5 hX1.size (fun k hk=>(hrX.own k hk).1)
     have hsB:=(sb2.below hB1').below hB5
     obtain⟨u7,u8,u9⟩:=hclq _ hB5
     refine hK.out _ _ ?_ (fun hHeld=>?_)
     ·(try dsimp only);try exact trivial
     clear hK K
     try simp only[pT,Act.put]
     refine wpAnyH_ready (rs:=[5]) (by kernel_rfl) (by simp) ?_
     refine AllReadyH.cons rfl (fun K hK=>?_) AllReadyH.nil
     go_simp
     refine hK.out _ _ ?_ (fun hHeld=>?_)
     ·(try dsimp only);try exact trivial
     clear hK K
     try simp only[pT,Act.put]
     refine wpAnyH_ready (rs:=[6]) (by kernel_rfl) (by simp) ?_
     refine AllReadyH.cons rfl (fun K hK=>?_) AllReadyH.nil
     skip
     refine A0d (by rfl) (ekZ) _ _ (by rfl) V1.heap.size (.slice a5 n5 c5) ([]++la2) lb2 (by rfl) hr5 b2 m2 d2 (by rfl) hsB.1 hsB.2.1 hsB.2.2 (show 1≤24 by omega) k2 hB5.size ?_
     intro v7 w7 hr7 hg7
     obtain⟨a7,n7,c7,rfl,H7⟩:=hr7.shape'
     have hB7:Below V1.heap.size V1 w7:=hB5.grown hg7 hB5.size (fun k hk=>(hr5.own k hk).1)
     have hA7:=(hB7.block _ (by omega)).trans xa1
     obtain⟨u10,u11,u12⟩:=hclq _ hB7
     refine hK.out _ _ ?_ (fun hHeld=>?_)
     ·(try dsimp only);try exact trivial
     clear hK K
     try simp only[pT,Act.put]
     refine tK (i:=7) (v:=?vq3) rfl (fun _ _ _ h=>h) ⟨by rfl,?hyq3⟩ (by assumption) ?_
     case hyq3=>(intro W hSw;(try dsimp only at hSw);go_simp;first|done|with_reducible rfl)
     try simp only[pT,Act.put]
     refine wpAnyH_ready (rs:=[8]) (by kernel_rfl) (by simp) ?_
     refine AllReadyH.cons rfl (fun K hK=>?_) AllReadyH.nil
     go_simp
     refine hK.out _ _ ?_ (fun hHeld=>?_)
     ·(try dsimp only);try exact trivial
     clear hK K
     try simp only[pT,Act.put]
     refine wpAnyH_done (by kernel_rfl) ?_ _
     go_wp2_with fail
     go_meet
     exact⟨a7,n7,c7,A0e _ _ _ _ _ _ hA7,(hr7.set4 (by omega)).mono (by omega),FrB.setT xa1 (by decide) hB7⟩
    ·skip
     go_simp
     refine hK.out _ _ ?_ (fun hHeld=>?_)
     ·(try dsimp only);try exact trivial
     clear hK K
     try simp only[pT,Act.put]
     refine wpAnyH_ready (rs:=[3]) (by kernel_rfl) (by simp) ?_
     refine AllReadyH.cons rfl (fun K hK=>?_) AllReadyH.nil
     skip
     refine A0d (by rfl) (ekZ) _ _ (by rfl) V1.heap.size (.slice (some ⟨V1.heap.size,0,none⟩) 0 0) [] la2 (by rfl) hrX a2 n2 c2 (by rfl) hsAq.1 hsAq.2.1 hsAq.2.2 (show 1≤24 by omega) (by show(0+_)*24≤_;rw[Nat.zero_add];exact g2) hX1.size ?_
     intro v5 w5 hr5 hg5
     obtain⟨a5,n5,c5,rfl,H5⟩:=hr5.shape'
     have hB5:Below V1.heap.size V1 w5:=hX1.grown hg5 hX1.size (fun k hk=>(hrX.own k hk).1)
     have hsB:=(sb2.below hB1').below hB5
     obtain⟨u7,u8,u9⟩:=hclq _ hB5
     refine hK.out _ _ ?_ (fun hHeld=>?_)
     ·(try dsimp only);try exact trivial
     clear hK K
     try simp only[pT,Act.put]
     refine wpAnyH_ready (rs:=[6]) (by kernel_rfl) (by simp) ?_
     refine AllReadyH.cons rfl (fun K hK=>?_) AllReadyH.nil
     skip
     refine A0d (by rfl) (ekZ) _ _ (by rfl) V1.heap.size (.slice a5 n5 c5) ([]++la2) lb2 (by rfl) hr5 b2 m2 d2 (by rfl) hsB.1 hsB.2.1 hsB.2.2 (show 1≤24 by omega) k2 hB5.size ?_
     intro v7 w7 hr7 hg7
     obtain⟨a7,n7,c7,rfl,H7⟩:=hr7.shape'
     have hB7:Below V1.heap.size V1 w7:=hB5.grown hg7 hB5.size (fun k hk=>(hr5.own k hk).1)
     have hA7:=(hB7.block _ (by omega)).trans xa1
     obtain⟨u10,u11,u12⟩:=hclq _ hB7
     refine hK.out _ _ ?_ (fun hHeld=>?_)
     ·(try dsimp only);try exact trivial
     clear hK K
     try simp only[pT,Act.put]
     refine tK (i:=7) (v:=?vq4) rfl (fun _ _ _ h=>h) ⟨by rfl,?hyq4⟩ (by assumption) ?_
     case hyq4=>(intro W hSw;(try dsimp only at hSw);go_simp;first|done|with_reducible rfl)
     try simp only[pT,Act.put]
     refine wpAnyH_ready (rs:=[8]) (by kernel_rfl) (by simp) ?_
     refine AllReadyH.cons rfl (fun K hK=>?_) AllReadyH.nil
     go_simp
     refine hK.out _ _ ?_ (fun hHeld=>?_)
     ·(try dsimp only);try exact trivial
     clear hK K
     try simp only[pT,Act.put]
     refine wpAnyH_done (by kernel_rfl) ?_ _
     go_wp2_with fail
     go_meet
     exact⟨a7,n7,c7,A0e _ _ _ _ _ _ hA7,(hr7.set4 (by omega)).mono (by omega),FrB.setT xa1 (by decide) hB7⟩
   ·skip
    go_simp
    refine hK.out _ _ ?_ (fun hHeld=>?_)
    ·(try dsimp only);try exact trivial
    clear hK K
    try simp only[pT,Act.put]
    refine wpAnyH_ready (rs:=[2]) (by kernel_rfl) (by simp) ?_
    refine AllReadyH.cons rfl (fun K hK=>?_) AllReadyH.nil
    go_simp
    refine hK.out _ _ ?_ (fun hHeld=>?_)
    ·(try dsimp only);try exact trivial
    clear hK K
    try simp only[pT,Act.put]
    refine wpAnyH_ready (rs:=[3]) (by kernel_rfl) (by simp) ?_
    refine AllReadyH.cons rfl (fun K hK=>?_) AllReadyH.nil
    skip
    refine A0d (by rfl) (ekZ) _ _ (by rfl) V1.heap.size (.slice (some ⟨V1.heap.size,0,none⟩) 0 0) [] la2 (by rfl) hrX a2 n2 c2 (by rfl) hsAq.1 hsAq.2.1 hsAq.2.2 (show 1≤24 by omega) (by show(0+_)*24≤_;rw[Nat.zero_add];exact g2) hX1.size ?_
    intro v5 w5 hr5 hg5
    obtain⟨a5,n5,c5,rfl,H5⟩:=hr5.shape'
    have hB5:Below V1.heap.size V1 w5:=hX1.grown hg5 hX1.size (fun k hk=>(hrX.own k hk).1)
    have hsB:=(sb2.below hB1').below hB5
    obtain⟨u7,u8,u9⟩:=hclq _ hB5
    refine hK.out _ _ ?_ (fun hHeld=>?_)
    ·(try dsimp only);try exact trivial
    clear hK K
    try simp only[pT,Act.put]
    refine wpAnyH_ready (rs:=[6]) (by kernel_rfl) (by simp) ?_
    refine AllReadyH.cons rfl (fun K hK=>?_) AllReadyH.nil
    skip
    refine A0d (by rfl) (ekZ) _ _ (by rfl) V1.heap.size (.slice a5 n5 c5) ([]++la2) lb2 (by rfl) hr5 b2 m2 d2 (by rfl) hsB.1 hsB.2.1 hsB.2.2 (show 1≤24 by omega) k2 hB5.size ?_
    intro v7 w7 hr7 hg7
    obtain⟨a7,n7,c7,rfl,H7⟩:=hr7.shape'
    have hB7:Below V1.heap.size V1 w7:=hB5.grown hg7 hB5.size (fun k hk=>(hr5.own k hk).1)
    have hA7:=(hB7.block _ (by omega)).trans xa1
    obtain⟨u10,u11,u12⟩:=hclq _ hB7
    refine hK.out _ _ ?_ (fun hHeld=>?_)
    ·(try dsimp only);try exact trivial
    clear hK K
    try simp only[pT,Act.put]
    refine tK (i:=7) (v:=?vq5) rfl (fun _ _ _ h=>h) ⟨by rfl,?hyq5⟩ (by assumption) ?_
    case hyq5=>(intro W hSw;(try dsimp only at hSw);go_simp;first|done|with_reducible rfl)
    try simp only[pT,Act.put]
    refine wpAnyH_ready (rs:=[8]) (by kernel_rfl) (by simp) ?_
    refine AllReadyH.cons rfl (fun K hK=>?_) AllReadyH.nil
    go_simp
    refine hK.out _ _ ?_ (fun hHeld=>?_)
    ·(try dsimp only);try exact trivial
    clear hK K
    try simp only[pT,Act.put]
    refine wpAnyH_done (by kernel_rfl) ?_ _
    go_wp2_with fail
    go_meet
    exact⟨a7,n7,c7,A0e _ _ _ _ _ _ hA7,(hr7.set4 (by omega)).mono (by omega),FrB.setT xa1 (by decide) hB7⟩
  ·skip
   go_simp
   refine hK.out _ _ ?_ (fun hHeld=>?_)
   ·(try dsimp only);try exact trivial
   clear hK K
   try simp only[pT,Act.put]
   refine wpAnyH_ready (rs:=[0,5]) (by kernel_rfl) (by simp) ?_
   refine AllReadyH.cons rfl (fun K hK=>?_) (AllReadyH.cons rfl (fun K hK=>?_) AllReadyH.nil)
   ·skip
    go_simp
    rw[←HX1.out]
    refine hK.out _ _ ?_ (fun hHeld=>?_)
    ·(try dsimp only);try exact trivial
    clear hK K
    try simp only[pT,Act.put]
    refine wpAnyH_ready (rs:=[3,5]) (by kernel_rfl) (by simp) ?_
    refine AllReadyH.cons rfl (fun K hK=>?_) (AllReadyH.cons rfl (fun K hK=>?_) AllReadyH.nil)
    ·skip
     skip
     refine A0d (by rfl) (ekZ) _ _ (by rfl) V1.heap.size (.slice (some ⟨V1.heap.size,0,none⟩) 0 0) [] la2 (by rfl) hrX a2 n2 c2 (by rfl) hsAq.1 hsAq.2.1 hsAq.2.2 (show 1≤24 by omega) (by show(0+_)*24≤_;rw[Nat.zero_add];exact g2) hX1.size ?_
     intro v5 w5 hr5 hg5
     obtain⟨a5,n5,c5,rfl,H5⟩:=hr5.shape'
     have hB5:Below V1.heap.size V1 w5:=hX1.grown hg5 hX1.size (fun k hk=>(hrX.own k hk).1)
     have hsB:=(sb2.below hB1').below hB5
     obtain⟨u7,u8,u9⟩:=hclq _ hB5
     refine hK.out _ _ ?_ (fun hHeld=>?_)
     ·(try dsimp only);try exact trivial
     clear hK K
     try simp only[pT,Act.put]
     refine wpAnyH_ready (rs:=[5]) (by kernel_rfl) (by simp) ?_
     refine AllReadyH.cons rfl (fun K hK=>?_) AllReadyH.nil
     go_simp
     refine hK.out _ _ ?_ (fun hHeld=>?_)
     ·(try dsimp only);try exact trivial
     clear hK K
     try simp only[pT,Act.put]
     refine wpAnyH_ready (rs:=[6]) (by kernel_rfl) (by simp) ?_
     refine AllReadyH.cons rfl (fun K hK=>?_) AllReadyH.nil
     skip
     refine A0d (by rfl) (ekZ) _ _ (by rfl) V1.heap.size (.slice a5 n5 c5) ([]++la2) lb2 (by rfl) hr5 b2 m2 d2 (by rfl) hsB.1 hsB.2.1 hsB.2.2 (show 1≤24 by omega) k2 hB5.size ?_
     intro v7 w7 hr7 hg7
     obtain⟨a7,n7,c7,rfl,H7⟩:=hr7.shape'
     have hB7:Below V1.heap.size V1 w7:=hB5.grown hg7 hB5.size (fun k hk=>(hr5.own k hk).1)
     have hA7:=(hB7.block _ (by omega)).trans xa1
     obtain⟨u10,u11,u12⟩:=hclq _ hB7
     refine hK.out _ _ ?_ (fun hHeld=>?_)
     ·(try dsimp only);try exact trivial
     clear hK K
     try simp only[pT,Act.put]
     refine tK (i:=7) (v:=?vq6) rfl (fun _ _ _ h=>h) ⟨by rfl,?hyq6⟩ (by assumption) ?_
     case hyq6=>(intro W hSw;(try dsimp only at hSw);go_simp;first|done|with_reducible rfl)
     try simp only[pT,Act.put]
     refine wpAnyH_ready (rs:=[8]) (by kernel_rfl) (by simp) ?_
     refine AllReadyH.cons rfl (fun K hK=>?_) AllReadyH.nil
     go_simp
     refine hK.out _ _ ?_ (fun hHeld=>?_)
     ·(try dsimp only);try exact trivial
     clear hK K
     try simp only[pT,Act.put]
     refine wpAnyH_done (by kernel_rfl) ?_ _
     go_wp2_with fail
     go_meet
     exact⟨a7,n7,c7,A0e _ _ _ _ _ _ hA7,(hr7.set4 (by omega)).mono (by omega),FrB.setT xa1 (by decide) hB7⟩
    ·skip
     go_simp
     refine hK.out _ _ ?_ (fun hHeld=>?_)
     ·(try dsimp only);try exact trivial
     clear hK K
     try simp only[pT,Act.put]
     refine wpAnyH_ready (rs:=[3]) (by kernel_rfl) (by simp) ?_
     refine AllReadyH.cons rfl (fun K hK=>?_) AllReadyH.nil
     skip
     refine A0d (by rfl) (ekZ) _ _ (by rfl) V1.heap.size (.slice (some ⟨V1.heap.size,0,none⟩) 0 0) [] la2 (by rfl) hrX a2 n2 c2 (by rfl) hsAq.1 hsAq.2.1 hsAq.2.2 (show 1≤24 by omega) (by show(0+_)*24≤_;rw[Nat.zero_add];exact g2) hX1.size ?_
     intro v5 w5 hr5 hg5
     obtain⟨a5,n5,c5,rfl,H5⟩:=hr5.shape'
     have hB5:Below V1.heap.size V1 w5:=hX1.grown hg5 hX1.size (fun k hk=>(hrX.own k hk).1)
     have hsB:=(sb2.below hB1').below hB5
     obtain⟨u7,u8,u9⟩:=hclq _ hB5
     refine hK.out _ _ ?_ (fun hHeld=>?_)
     ·(try dsimp only);try exact trivial
     clear hK K
     try simp only[pT,Act.put]
     refine wpAnyH_ready (rs:=[6]) (by kernel_rfl) (by simp) ?_
     refine AllReadyH.cons rfl (fun K hK=>?_) AllReadyH.nil
     skip
     refine A0d (by rfl) (ekZ) _ _ (by rfl) V1.heap.size (.slice a5 n5 c5) ([]++la2) lb2 (by rfl) hr5 b2 m2 d2 (by rfl) hsB.1 hsB.2.1 hsB.2.2 (show 1≤24 by omega) k2 hB5.size ?_
     intro v7 w7 hr7 hg7
     obtain⟨a7,n7,c7,rfl,H7⟩:=hr7.shape'
     have hB7:Below V1.heap.size V1 w7:=hB5.grown hg7 hB5.size (fun k hk=>(hr5.own k hk).1)
     have hA7:=(hB7.block _ (by omega)).trans xa1
     obtain⟨u10,u11,u12⟩:=hclq _ hB7
     refine hK.out _ _ ?_ (fun hHeld=>?_)
     ·(try dsimp only);try exact trivial
     clear hK K
     try simp only[pT,Act.put]
     refine tK (i:=7) (v:=?vq7) rfl (fun _ _ _ h=>h) ⟨by rfl,?hyq7⟩ (by assumption) ?_
     case hyq7=>(intro W hSw;(try dsimp only at hSw);go_simp;first|done|with_reducible rfl)
     try simp only[pT,Act.put]
     refine wpAnyH_ready (rs:=[8]) (by kernel_rfl) (by simp) ?_
     refine AllReadyH.cons rfl (fun K hK=>?_) AllReadyH.nil
     go_simp
     refine hK.out _ _ ?_ (fun hHeld=>?_)
     ·(try dsimp only);try exact trivial
     clear hK K
     try simp only[pT,Act.put]
     refine wpAnyH_done (by kernel_rfl) ?_ _
     go_wp2_with fail
     go_meet
     exact⟨a7,n7,c7,A0e _ _ _ _ _ _ hA7,(hr7.set4 (by omega)).mono (by omega),FrB.setT xa1 (by decide) hB7⟩
   ·skip
    go_simp
    refine hK.out _ _ ?_ (fun hHeld=>?_)
    ·(try dsimp only);try exact trivial
    clear hK K
    try simp only[pT,Act.put]
    refine wpAnyH_ready (rs:=[0]) (by kernel_rfl) (by simp) ?_
    refine AllReadyH.cons rfl (fun K hK=>?_) AllReadyH.nil
    go_simp
    rw[←HX1.out]
    refine hK.out _ _ ?_ (fun hHeld=>?_)
    ·(try dsimp only);try exact trivial
    clear hK K
    try simp only[pT,Act.put]
    refine wpAnyH_ready (rs:=[3]) (by kernel_rfl) (by simp) ?_
    refine AllReadyH.cons rfl (fun K hK=>?_) AllReadyH.nil
    skip
    refine A0d (by rfl) (ekZ) _ _ (by rfl) V1.heap.size (.slice (some ⟨V1.heap.size,0,none⟩) 0 0) [] la2 (by rfl) hrX a2 n2 c2 (by rfl) hsAq.1 hsAq.2.1 hsAq.2.2 (show 1≤24 by omega) (by show(0+_)*24≤_;rw[Nat.zero_add];exact g2) hX1.size ?_
    intro v5 w5 hr5 hg5
    obtain⟨a5,n5,c5,rfl,H5⟩:=hr5.shape'
    have hB5:Below V1.heap.size V1 w5:=hX1.grown hg5 hX1.size (fun k hk=>(hrX.own k hk).1)
    have hsB:=(sb2.below hB1').below hB5
    obtain⟨u7,u8,u9⟩:=hclq _ hB5
    refine hK.out _ _ ?_ (fun hHeld=>?_)
    ·(try dsimp only);try exact trivial
    clear hK K
    try simp only[pT,Act.put]
    refine wpAnyH_ready (rs:=[6]) (by kernel_rfl) (by simp) ?_
    refine AllReadyH.cons rfl (fun K hK=>?_) AllReadyH.nil
    skip
    refine A0d (by rfl) (ekZ) _ _ (by rfl) V1.heap.size (.slice a5 n5 c5) ([]++la2) lb2 (by rfl) hr5 b2 m2 d2 (by rfl) hsB.1 hsB.2.1 hsB.2.2 (show 1≤24 by omega) k2 hB5.size ?_
    intro v7 w7 hr7 hg7
    obtain⟨a7,n7,c7,rfl,H7⟩:=hr7.shape'
    have hB7:Below V1.heap.size V1 w7:=hB5.grown hg7 hB5.size (fun k hk=>(hr5.own k hk).1)
    have hA7:=(hB7.block _ (by omega)).trans xa1
    obtain⟨u10,u11,u12⟩:=hclq _ hB7
    refine hK.out _ _ ?_ (fun hHeld=>?_)
    ·(try dsimp only);try exact trivial
    clear hK K
    try simp only[pT,Act.put]
    refine tK (i:=7) (v:=?vq8) rfl (fun _ _ _ h=>h) ⟨by rfl,?hyq8⟩ (by assumption) ?_
    case hyq8=>(intro W hSw;(try dsimp only at hSw);go_simp;first|done|with_reducible rfl)
    try simp only[pT,Act.put]
    refine wpAnyH_ready (rs:=[8]) (by kernel_rfl) (by simp) ?_
    refine AllReadyH.cons rfl (fun K hK=>?_) AllReadyH.nil
    go_simp
    refine hK.out _ _ ?_ (fun hHeld=>?_)
    ·(try dsimp only);try exact trivial
    clear hK K
    try simp only[pT,Act.put]
    refine wpAnyH_done (by kernel_rfl) ?_ _
    go_wp2_with fail
    go_meet
    exact⟨a7,n7,c7,A0e _ _ _ _ _ _ hA7,(hr7.set4 (by omega)).mono (by omega),FrB.setT xa1 (by decide) hB7⟩
  ·skip
   go_simp
   refine hK.out _ _ ?_ (fun hHeld=>?_)
   ·(try dsimp only);try exact trivial
   clear hK K
   try simp only[pT,Act.put]
   refine wpAnyH_ready (rs:=[0,2]) (by kernel_rfl) (by simp) ?_
   refine AllReadyH.cons rfl (fun K hK=>?_) (AllReadyH.cons rfl (fun K hK=>?_) AllReadyH.nil)
   ·skip
    go_simp
    rw[←HX1.out]
    refine hK.out _ _ ?_ (fun hHeld=>?_)
    ·(try dsimp only);try exact trivial
    clear hK K
    try simp only[pT,Act.put]
    refine wpAnyH_ready (rs:=[2]) (by kernel_rfl) (by simp) ?_
    refine AllReadyH.cons rfl (fun K hK=>?_) AllReadyH.nil
    go_simp
    refine hK.out _ _ ?_ (fun hHeld=>?_)
    ·(try dsimp only);try exact trivial
    clear hK K
    try simp only[pT,Act.put]
    refine wpAnyH_ready (rs:=[3]) (by kernel_rfl) (by simp) ?_
    refine AllReadyH.cons rfl (fun K hK=>?_) AllReadyH.nil
    skip
    refine A0d (by rfl) (ekZ) _ _ (by rfl) V1.heap.size (.slice (some ⟨V1.heap.size,0,none⟩) 0 0) [] la2 (by rfl) hrX a2 n2 c2 (by rfl) hsAq.1 hsAq.2.1 hsAq.2.2 (show 1≤24 by omega) (by show(0+_)*24≤_;rw[Nat.zero_add];exact g2) hX1.size ?_
    intro v5 w5 hr5 hg5
    obtain⟨a5,n5,c5,rfl,H5⟩:=hr5.shape'
    have hB5:Below V1.heap.size V1 w5:=hX1.grown hg5 hX1.size (fun k hk=>(hrX.own k hk).1)
    have hsB:=(sb2.below hB1').below hB5
    obtain⟨u7,u8,u9⟩:=hclq _ hB5
    refine hK.out _ _ ?_ (fun hHeld=>?_)
    ·(try dsimp only);try exact trivial
    clear hK K
    try simp only[pT,Act.put]
    refine wpAnyH_ready (rs:=[6]) (by kernel_rfl) (by simp) ?_
    refine AllReadyH.cons rfl (fun K hK=>?_) AllReadyH.nil
    skip
    refine A0d (by rfl) (ekZ) _ _ (by rfl) V1.heap.size (.slice a5 n5 c5) ([]++la2) lb2 (by rfl) hr5 b2 m2 d2 (by rfl) hsB.1 hsB.2.1 hsB.2.2 (show 1≤24 by omega) k2 hB5.size ?_
    intro v7 w7 hr7 hg7
    obtain⟨a7,n7,c7,rfl,H7⟩:=hr7.shape'
    have hB7:Below V1.heap.size V1 w7:=hB5.grown hg7 hB5.size (fun k hk=>(hr5.own k hk).1)
    have hA7:=(hB7.block _ (by omega)).trans xa1
    obtain⟨u10,u11,u12⟩:=hclq _ hB7
    refine hK.out _ _ ?_ (fun hHeld=>?_)
    ·(try dsimp only);try exact trivial
    clear hK K
    try simp only[pT,Act.put]
    refine tK (i:=7) (v:=?vq9) rfl (fun _ _ _ h=>h) ⟨by rfl,?hyq9⟩ (by assumption) ?_
    case hyq9=>(intro W hSw;(try dsimp only at hSw);go_simp;first|done|with_reducible rfl)
    try simp only[pT,Act.put]
    refine wpAnyH_ready (rs:=[8]) (by kernel_rfl) (by simp) ?_
    refine AllReadyH.cons rfl (fun K hK=>?_) AllReadyH.nil
    go_simp
    refine hK.out _ _ ?_ (fun hHeld=>?_)
    ·(try dsimp only);try exact trivial
    clear hK K
    try simp only[pT,Act.put]
    refine wpAnyH_done (by kernel_rfl) ?_ _
    go_wp2_with fail
    go_meet
    exact⟨a7,n7,c7,A0e _ _ _ _ _ _ hA7,(hr7.set4 (by omega)).mono (by omega),FrB.setT xa1 (by decide) hB7⟩
   ·skip
    go_simp
    refine hK.out _ _ ?_ (fun hHeld=>?_)
    ·(try dsimp only);try exact trivial
    clear hK K
    try simp only[pT,Act.put]
    refine wpAnyH_ready (rs:=[0]) (by kernel_rfl) (by simp) ?_
    refine AllReadyH.cons rfl (fun K hK=>?_) AllReadyH.nil
    go_simp
    rw[←HX1.out]
    refine hK.out _ _ ?_ (fun hHeld=>?_)
    ·(try dsimp only);try exact trivial
    clear hK K
    try simp only[pT,Act.put]
    refine wpAnyH_ready (rs:=[3]) (by kernel_rfl) (by simp) ?_
    refine AllReadyH.cons rfl (fun K hK=>?_) AllReadyH.nil
    skip
    refine A0d (by rfl) (ekZ) _ _ (by rfl) V1.heap.size (.slice (some ⟨V1.heap.size,0,none⟩) 0 0) [] la2 (by rfl) hrX a2 n2 c2 (by rfl) hsAq.1 hsAq.2.1 hsAq.2.2 (show 1≤24 by omega) (by show(0+_)*24≤_;rw[Nat.zero_add];exact g2) hX1.size ?_
    intro v5 w5 hr5 hg5
    obtain⟨a5,n5,c5,rfl,H5⟩:=hr5.shape'
    have hB5:Below V1.heap.size V1 w5:=hX1.grown hg5 hX1.size (fun k hk=>(hrX.own k hk).1)
    have hsB:=(sb2.below hB1').below hB5
    obtain⟨u7,u8,u9⟩:=hclq _ hB5
    refine hK.out _ _ ?_ (fun hHeld=>?_)
    ·(try dsimp only);try exact trivial
    clear hK K
    try simp only[pT,Act.put]
    refine wpAnyH_ready (rs:=[6]) (by kernel_rfl) (by simp) ?_
    refine AllReadyH.cons rfl (fun K hK=>?_) AllReadyH.nil
    skip
    refine A0d (by rfl) (ekZ) _ _ (by rfl) V1.heap.size (.slice a5 n5 c5) ([]++la2) lb2 (by rfl) hr5 b2 m2 d2 (by rfl) hsB.1 hsB.2.1 hsB.2.2 (show 1≤24 by omega) k2 hB5.size ?_
    intro v7 w7 hr7 hg7
    obtain⟨a7,n7,c7,rfl,H7⟩:=hr7.shape'
    have hB7:Below V1.heap.size V1 w7:=hB5.grown hg7 hB5.size (fun k hk=>(hr5.own k hk).1)
    have hA7:=(hB7.block _ (by omega)).trans xa1
    obtain⟨u10,u11,u12⟩:=hclq _ hB7
    refine hK.out _ _ ?_ (fun hHeld=>?_)
    ·(try dsimp only);try exact trivial
    clear hK K
    try simp only[pT,Act.put]
    refine tK (i:=7) (v:=?vq10) rfl (fun _ _ _ h=>h) ⟨by rfl,?hyq10⟩ (by assumption) ?_
    case hyq10=>(intro W hSw;(try dsimp only at hSw);go_simp;first|done|with_reducible rfl)
    try simp only[pT,Act.put]
    refine wpAnyH_ready (rs:=[8]) (by kernel_rfl) (by simp) ?_
    refine AllReadyH.cons rfl (fun K hK=>?_) AllReadyH.nil
    go_simp
    refine hK.out _ _ ?_ (fun hHeld=>?_)
    ·(try dsimp only);try exact trivial
    clear hK K
    try simp only[pT,Act.put]
    refine wpAnyH_done (by kernel_rfl) ?_ _
    go_wp2_with fail
    go_meet
    exact⟨a7,n7,c7,A0e _ _ _ _ _ _ hA7,(hr7.set4 (by omega)).mono (by omega),FrB.setT xa1 (by decide) hB7⟩
 case rest=>
 obtain⟨i2,j2,k2',xa2,hr2',hf2⟩:=hcut
 obtain⟨V2,HV2⟩:∃ V2,V2=wc:=⟨_,rfl⟩
 subst HV2
 have hB2':Below w.heap.size w V2:=hB1'.trans (hf2.below (by omega) (fun k hk=>by rw[List.mem_singleton.1 hk];omega))
 have xb2:=(hf2.block _ (by omega) (.inl (by simp))).trans xb1
 have xr2:=(hf2.block _ (by omega) (.inl (by simp))).trans xr1
 have hz2:w.heap.size+4≤V2.heap.size:=Nat.le_trans hz1 hf2.size
 have hzz2:=hf2.size
 have hr1':=Row.frB (p:=(i1,j1,k1')) hr1' hf2 (fun k hk=>by have:=(Row.own1 (p:=(i1,j1,k1')) hr1' k hk).1;simp;omega)
 go_upto_region 4 with fail
 go_cut [36] from 29 to 35 (fun _ wc=>∃ (i3:Option Addr) (j3 k3':Nat),wc.heap[w.heap.size+1]?=some (.cells #[.int .i64 a.number,.slice i1 j1 k1',.slice i2 j2 k2',.slice i3 j3 k3'] 34 (0,0))∧Row (A6y d) wc W0.heap.size (.slice i3 j3 k3') (la3++lb3)∧FrB [w.heap.size+1] V2 wc)
 case first=>
  obtain⟨X1,HX1⟩:∃ X1,Hid (X1=(V2.alloc (.cells #[] 29)).drew):=⟨_,rfl⟩
  have hDr:Below V2.heap.size V2 V2.drew:=(Below.refl _ _).drew
  have hX1:Below V2.heap.size V2 X1:=by rw[HX1.out];exact((Below.refl _ _).alloc (Nat.le_refl _) _).drew
  have xX1:X1.heap[V2.heap.size]?=some (.cells #[] 29 (0,0)):=by rw[HX1.out];exact heap_alloc_new V2 _
  have hrX:=Row.empT (A6y d) (base:=V2.heap.size) (Nat.le_refl _) xX1
  have hclr:∀ U,Below V2.heap.size V2 U→U.cell? ⟨w.heap.size+1,3,none⟩=some (.slice a3 n3 c3)∧U.frozen? ⟨w.heap.size+1,3,none⟩=false∧U.cell? ⟨w.heap.size+2,3,none⟩=some (.slice b3 m3 d3):=fun U hU=>⟨A0a ((hU.block _ (by omega)).trans xa2) 3 _ rfl,A0b ((hU.block _ (by omega)).trans xa2) 3,A0a ((hU.block _ (by omega)).trans xb2) 3 _ rfl⟩
  have hsAr:=(sa3.below hB2').below hX1
  obtain⟨u1,u2,u3⟩:=hclr _ hDr
  obtain⟨u4,u5,u6⟩:=hclr _ hX1
  refine wp_region_held_drew (S:=fun _=>True) (by kernel_rfl) trivial (fun hHeld=>?_)
  refine tK (i:=1) (v:=?vr1) rfl (fun _ _ _ h=>h) ⟨by rfl,?hyr1⟩ (by assumption) ?_
  case hyr1=>(intro W hSw;(try dsimp only at hSw);go_simp;first|done|with_reducible rfl)
  try simp only[pT,Act.put]
  refine tK (i:=4) (v:=?vr2) rfl (fun _ _ _ h=>h) ⟨by rfl,?hyr2⟩ (by assumption) ?_
  case hyr2=>(intro W hSw;(try dsimp only at hSw);go_simp;first|done|with_reducible rfl)
  try simp only[pT,Act.put]
  refine wpAnyH_ready (rs:=[0,2,5]) (by kernel_rfl) (by simp) ?_
  refine AllReadyH.cons rfl (fun K hK=>?_) (AllReadyH.cons rfl (fun K hK=>?_) (AllReadyH.cons rfl (fun K hK=>?_) AllReadyH.nil))
  ·skip
   go_simp
   rw[←HX1.out]
   refine hK.out _ _ ?_ (fun hHeld=>?_)
   ·(try dsimp only);try exact trivial
   clear hK K
   try simp only[pT,Act.put]
   refine wpAnyH_ready (rs:=[2,5]) (by kernel_rfl) (by simp) ?_
   refine AllReadyH.cons rfl (fun K hK=>?_) (AllReadyH.cons rfl (fun K hK=>?_) AllReadyH.nil)
   ·skip
    go_simp
    refine hK.out _ _ ?_ (fun hHeld=>?_)
    ·(try dsimp only);try exact trivial
    clear hK K
    try simp only[pT,Act.put]
    refine wpAnyH_ready (rs:=[3,5]) (by kernel_rfl) (by simp) ?_
    refine AllReadyH.cons rfl (fun K hK=>?_) (AllReadyH.cons rfl (fun K hK=>?_) AllReadyH.nil)
    ·skip
     skip
     refine A0d (by rfl) (A6y d) _ _ (by rfl) V2.heap.size (.slice (some ⟨V2.heap.size,0,none⟩) 0 0) [] la3 (by rfl) hrX a3 n3 c3 (by rfl) hsAr.1 hsAr.2.1 hsAr.2.2 (show 1≤48 by omega) (by show(0+_)*48≤_;rw[Nat.zero_add];exact g3) hX1.size ?_
     intro v5 w5 hr5 hg5
     obtain⟨a5,n5,c5,rfl,H5⟩:=hr5.shape'
     have hB5:Below V2.heap.size V2 w5:=hX1.grown hg5 hX1.size (fun k hk=>(hrX.own k hk).1)
     have hsB:=(sb3.below hB2').below hB5
     obtain⟨u7,u8,u9⟩:=hclr _ hB5
     refine hK.out _ _ ?_ (fun hHeld=>?_)
     ·(try dsimp only);try exact trivial
     clear hK K
     try simp only[pT,Act.put]
     refine wpAnyH_ready (rs:=[5]) (by kernel_rfl) (by simp) ?_
     refine AllReadyH.cons rfl (fun K hK=>?_) AllReadyH.nil
     go_simp
     refine hK.out _ _ ?_ (fun hHeld=>?_)
     ·(try dsimp only);try exact trivial
     clear hK K
     try simp only[pT,Act.put]
     refine wpAnyH_ready (rs:=[6]) (by kernel_rfl) (by simp) ?_
     refine AllReadyH.cons rfl (fun K hK=>?_) AllReadyH.nil
     skip
     refine A0d (by rfl) (A6y d) _ _ (by rfl) V2.heap.size (.slice a5 n5 c5) ([]++la3) lb3 (by rfl) hr5 b3 m3 d3 (by rfl) hsB.1 hsB.2.1 hsB.2.2 (show 1≤48 by omega) k3 hB5.size ?_
     intro v7 w7 hr7 hg7
     obtain⟨a7,n7,c7,rfl,H7⟩:=hr7.shape'
     have hB7:Below V2.heap.size V2 w7:=hB5.grown hg7 hB5.size (fun k hk=>(hr5.own k hk).1)
     have hA7:=(hB7.block _ (by omega)).trans xa2
     obtain⟨u10,u11,u12⟩:=hclr _ hB7
     refine hK.out _ _ ?_ (fun hHeld=>?_)
     ·(try dsimp only);try exact trivial
     clear hK K
     try simp only[pT,Act.put]
     refine tK (i:=7) (v:=?vr3) rfl (fun _ _ _ h=>h) ⟨by rfl,?hyr3⟩ (by assumption) ?_
     case hyr3=>(intro W hSw;(try dsimp only at hSw);go_simp;first|done|with_reducible rfl)
     try simp only[pT,Act.put]
     refine wpAnyH_ready (rs:=[8]) (by kernel_rfl) (by simp) ?_
     refine AllReadyH.cons rfl (fun K hK=>?_) AllReadyH.nil
     go_simp
     refine hK.out _ _ ?_ (fun hHeld=>?_)
     ·(try dsimp only);try exact trivial
     clear hK K
     try simp only[pT,Act.put]
     refine wpAnyH_done (by kernel_rfl) ?_ _
     go_wp2_with fail
     go_meet
     exact⟨a7,n7,c7,A0e _ _ _ _ _ _ hA7,(hr7.set4 (by omega)).mono (by omega),FrB.setT xa2 (by decide) hB7⟩
    ·skip
     go_simp
     refine hK.out _ _ ?_ (fun hHeld=>?_)
     ·(try dsimp only);try exact trivial
     clear hK K
     try simp only[pT,Act.put]
     refine wpAnyH_ready (rs:=[3]) (by kernel_rfl) (by simp) ?_
     refine AllReadyH.cons rfl (fun K hK=>?_) AllReadyH.nil
     skip
     refine A0d (by rfl) (A6y d) _ _ (by rfl) V2.heap.size (.slice (some ⟨V2.heap.size,0,none⟩) 0 0) [] la3 (by rfl) hrX a3 n3 c3 (by rfl) hsAr.1 hsAr.2.1 hsAr.2.2 (show 1≤48 by omega) (by show(0+_)*48≤_;rw[Nat.zero_add];exact g3) hX1.size ?_
     intro v5 w5 hr5 hg5
     obtain⟨a5,n5,c5,rfl,H5⟩:=hr5.shape'
     have hB5:Below V2.heap.size V2 w5:=hX1.grown hg5 hX1.size (fun k hk=>(hrX.own k hk).1)
     have hsB:=(sb3.below hB2').below hB5
     obtain⟨u7,u8,u9⟩:=hclr _ hB5
     refine hK.out _ _ ?_ (fun hHeld=>?_)
     ·(try dsimp only);try exact trivial
     clear hK K
     try simp only[pT,Act.put]
     refine wpAnyH_ready (rs:=[6]) (by kernel_rfl) (by simp) ?_
     refine AllReadyH.cons rfl (fun K hK=>?_) AllReadyH.nil
     skip
     refine A0d (by rfl) (A6y d) _ _ (by rfl) V2.heap.size (.slice a5 n5 c5) ([]++la3) lb3 (by rfl) hr5 b3 m3 d3 (by rfl) hsB.1 hsB.2.1 hsB.2.2 (show 1≤48 by omega) k3 hB5.size ?_
     intro v7 w7 hr7 hg7
     obtain⟨a7,n7,c7,rfl,H7⟩:=hr7.shape'
     have hB7:Below V2.heap.size V2 w7:=hB5.grown hg7 hB5.size (fun k hk=>(hr5.own k hk).1)
     have hA7:=(hB7.block _ (by omega)).trans xa2
     obtain⟨u10,u11,u12⟩:=hclr _ hB7
     refine hK.out _ _ ?_ (fun hHeld=>?_)
     ·(try dsimp only);try exact trivial
     clear hK K
     try simp only[pT,Act.put]
     refine tK (i:=7) (v:=?vr4) rfl (fun _ _ _ h=>h) ⟨by rfl,?hyr4⟩ (by assumption) ?_
     case hyr4=>(intro W hSw;(try dsimp only at hSw);go_simp;first|done|with_reducible rfl)
     try simp only[pT,Act.put]
     refine wpAnyH_ready (rs:=[8]) (by kernel_rfl) (by simp) ?_
     refine AllReadyH.cons rfl (fun K hK=>?_) AllReadyH.nil
     go_simp
     refine hK.out _ _ ?_ (fun hHeld=>?_)
     ·(try dsimp only);try exact trivial
     clear hK K
     try simp only[pT,Act.put]
     refine wpAnyH_done (by kernel_rfl) ?_ _
     go_wp2_with fail
     go_meet
     exact⟨a7,n7,c7,A0e _ _ _ _ _ _ hA7,(hr7.set4 (by omega)).mono (by omega),FrB.setT xa2 (by decide) hB7⟩
   ·skip
    go_simp
    refine hK.out _ _ ?_ (fun hHeld=>?_)
    ·(try dsimp only);try exact trivial
    clear hK K
    try simp only[pT,Act.put]
    refine wpAnyH_ready (rs:=[2]) (by kernel_rfl) (by simp) ?_
    refine AllReadyH.cons rfl (fun K hK=>?_) AllReadyH.nil
    go_simp
    refine hK.out _ _ ?_ (fun hHeld=>?_)
    ·(try dsimp only);try exact trivial
    clear hK K
    try simp only[pT,Act.put]
    refine wpAnyH_ready (rs:=[3]) (by kernel_rfl) (by simp) ?_
    refine AllReadyH.cons rfl (fun K hK=>?_) AllReadyH.nil
    skip
    refine A0d (by rfl) (A6y d) _ _ (by rfl) V2.heap.size (.slice (some ⟨V2.heap.size,0,none⟩) 0 0) [] la3 (by rfl) hrX a3 n3 c3 (by rfl) hsAr.1 hsAr.2.1 hsAr.2.2 (show 1≤48 by omega) (by show(0+_)*48≤_;rw[Nat.zero_add];exact g3) hX1.size ?_
    intro v5 w5 hr5 hg5
    obtain⟨a5,n5,c5,rfl,H5⟩:=hr5.shape'
    have hB5:Below V2.heap.size V2 w5:=hX1.grown hg5 hX1.size (fun k hk=>(hrX.own k hk).1)
    have hsB:=(sb3.below hB2').below hB5
    obtain⟨u7,u8,u9⟩:=hclr _ hB5
    refine hK.out _ _ ?_ (fun hHeld=>?_)
    ·(try dsimp only);try exact trivial
    clear hK K
    try simp only[pT,Act.put]
    refine wpAnyH_ready (rs:=[6]) (by kernel_rfl) (by simp) ?_
    refine AllReadyH.cons rfl (fun K hK=>?_) AllReadyH.nil
    skip
    refine A0d (by rfl) (A6y d) _ _ (by rfl) V2.heap.size (.slice a5 n5 c5) ([]++la3) lb3 (by rfl) hr5 b3 m3 d3 (by rfl) hsB.1 hsB.2.1 hsB.2.2 (show 1≤48 by omega) k3 hB5.size ?_
    intro v7 w7 hr7 hg7
    obtain⟨a7,n7,c7,rfl,H7⟩:=hr7.shape'
    have hB7:Below V2.heap.size V2 w7:=hB5.grown hg7 hB5.size (fun k hk=>(hr5.own k hk).1)
    have hA7:=(hB7.block _ (by omega)).trans xa2
    obtain⟨u10,u11,u12⟩:=hclr _ hB7
    refine hK.out _ _ ?_ (fun hHeld=>?_)
    ·(try dsimp only);try exact trivial
    clear hK K
    try simp only[pT,Act.put]
    refine tK (i:=7) (v:=?vr5) rfl (fun _ _ _ h=>h) ⟨by rfl,?hyr5⟩ (by assumption) ?_
    case hyr5=>(intro W hSw;(try dsimp only at hSw);go_simp;first|done|with_reducible rfl)
    try simp only[pT,Act.put]
    refine wpAnyH_ready (rs:=[8]) (by kernel_rfl) (by simp) ?_
    refine AllReadyH.cons rfl (fun K hK=>?_) AllReadyH.nil
    go_simp
    refine hK.out _ _ ?_ (fun hHeld=>?_)
    ·(try dsimp only);try exact trivial
    clear hK K
    try simp only[pT,Act.put]
    refine wpAnyH_done (by kernel_rfl) ?_ _
    go_wp2_with fail
    go_meet
    exact⟨a7,n7,c7,A0e _ _ _ _ _ _ hA7,(hr7.set4 (by omega)).mono (by omega),FrB.setT xa2 (by decide) hB7⟩
  ·skip
   go_simp
   refine hK.out _ _ ?_ (fun hHeld=>?_)
   ·(try dsimp only);try exact trivial
   clear hK K
   try simp only[pT,Act.put]
   refine wpAnyH_ready (rs:=[0,5]) (by kernel_rfl) (by simp) ?_
   refine AllReadyH.cons rfl (fun K hK=>?_) (AllReadyH.cons rfl (fun K hK=>?_) AllReadyH.nil)
   ·skip
    go_simp
    rw[←HX1.out]
    refine hK.out _ _ ?_ (fun hHeld=>?_)
    ·(try dsimp only);try exact trivial
    clear hK K
    try simp only[pT,Act.put]
    refine wpAnyH_ready (rs:=[3,5]) (by kernel_rfl) (by simp) ?_
    refine AllReadyH.cons rfl (fun K hK=>?_) (AllReadyH.cons rfl (fun K hK=>?_) AllReadyH.nil)
    ·skip
     skip
     refine A0d (by rfl) (A6y d) _ _ (by rfl) V2.heap.size (.slice (some ⟨V2.heap.size,0,none⟩) 0 0) [] la3 (by rfl) hrX a3 n3 c3 (by rfl) hsAr.1 hsAr.2.1 hsAr.2.2 (show 1≤48 by omega) (by show(0+_)*48≤_;rw[Nat.zero_add];exact g3) hX1.size ?_
     intro v5 w5 hr5 hg5
     obtain⟨a5,n5,c5,rfl,H5⟩:=hr5.shape'
     have hB5:Below V2.heap.size V2 w5:=hX1.grown hg5 hX1.size (fun k hk=>(hrX.own k hk).1)
     have hsB:=(sb3.below hB2').below hB5
     obtain⟨u7,u8,u9⟩:=hclr _ hB5
     refine hK.out _ _ ?_ (fun hHeld=>?_)
     ·(try dsimp only);try exact trivial
     clear hK K
     try simp only[pT,Act.put]
     refine wpAnyH_ready (rs:=[5]) (by kernel_rfl) (by simp) ?_
     refine AllReadyH.cons rfl (fun K hK=>?_) AllReadyH.nil
     go_simp
     refine hK.out _ _ ?_ (fun hHeld=>?_)
     ·(try dsimp only);try exact trivial
     clear hK K
     try simp only[pT,Act.put]
     refine wpAnyH_ready (rs:=[6]) (by kernel_rfl) (by simp) ?_
     refine AllReadyH.cons rfl (fun K hK=>?_) AllReadyH.nil
     skip
     refine A0d (by rfl) (A6y d) _ _ (by rfl) V2.heap.size (.slice a5 n5 c5) ([]++la3) lb3 (by rfl) hr5 b3 m3 d3 (by rfl) hsB.1 hsB.2.1 hsB.2.2 (show 1≤48 by omega) k3 hB5.size ?_
     intro v7 w7 hr7 hg7
     obtain⟨a7,n7,c7,rfl,H7⟩:=hr7.shape'
     have hB7:Below V2.heap.size V2 w7:=hB5.grown hg7 hB5.size (fun k hk=>(hr5.own k hk).1)
     have hA7:=(hB7.block _ (by omega)).trans xa2
     obtain⟨u10,u11,u12⟩:=hclr _ hB7
     refine hK.out _ _ ?_ (fun hHeld=>?_)
     ·(try dsimp only);try exact trivial
     clear hK K
     try simp only[pT,Act.put]
     refine tK (i:=7) (v:=?vr6) rfl (fun _ _ _ h=>h) ⟨by rfl,?hyr6⟩ (by assumption) ?_
     case hyr6=>(intro W hSw;(try dsimp only at hSw);go_simp;first|done|with_reducible rfl)
     try simp only[pT,Act.put]
     refine wpAnyH_ready (rs:=[8]) (by kernel_rfl) (by simp) ?_
     refine AllReadyH.cons rfl (fun K hK=>?_) AllReadyH.nil
     go_simp
     refine hK.out _ _ ?_ (fun hHeld=>?_)
     ·(try dsimp only);try exact trivial
     clear hK K
     try simp only[pT,Act.put]
     refine wpAnyH_done (by kernel_rfl) ?_ _
     go_wp2_with fail
     go_meet
     exact⟨a7,n7,c7,A0e _ _ _ _ _ _ hA7,(hr7.set4 (by omega)).mono (by omega),FrB.setT xa2 (by decide) hB7⟩
    ·skip
     go_simp
     refine hK.out _ _ ?_ (fun hHeld=>?_)
     ·(try dsimp only);try exact trivial
     clear hK K
     try simp only[pT,Act.put]
     refine wpAnyH_ready (rs:=[3]) (by kernel_rfl) (by simp) ?_
     refine AllReadyH.cons rfl (fun K hK=>?_) AllReadyH.nil
     skip
     refine A0d (by rfl) (A6y d) _ _ (by rfl) V2.heap.size (.slice (some ⟨V2.heap.size,0,none⟩) 0 0) [] la3 (by rfl) hrX a3 n3 c3 (by rfl) hsAr.1 hsAr.2.1 hsAr.2.2 (show 1≤48 by omega) (by show(0+_)*48≤_;rw[Nat.zero_add];exact g3) hX1.size ?_
     intro v5 w5 hr5 hg5
     obtain⟨a5,n5,c5,rfl,H5⟩:=hr5.shape'
     have hB5:Below V2.heap.size V2 w5:=hX1.grown hg5 hX1.size (fun k hk=>(hrX.own k hk).1)
     have hsB:=(sb3.below hB2').below hB5
     obtain⟨u7,u8,u9⟩:=hclr _ hB5
     refine hK.out _ _ ?_ (fun hHeld=>?_)
     ·(try dsimp only);try exact trivial
     clear hK K
     try simp only[pT,Act.put]
     refine wpAnyH_ready (rs:=[6]) (by kernel_rfl) (by simp) ?_
     refine AllReadyH.cons rfl (fun K hK=>?_) AllReadyH.nil
     skip
     refine A0d (by rfl) (A6y d) _ _ (by rfl) V2.heap.size (.slice a5 n5 c5) ([]++la3) lb3 (by rfl) hr5 b3 m3 d3 (by rfl) hsB.1 hsB.2.1 hsB.2.2 (show 1≤48 by omega) k3 hB5.size ?_
     intro v7 w7 hr7 hg7
     obtain⟨a7,n7,c7,rfl,H7⟩:=hr7.shape'
     have hB7:Below V2.heap.size V2 w7:=hB5.grown hg7 hB5.size (fun k hk=>(hr5.own k hk).1)
     have hA7:=(hB7.block _ (by omega)).trans xa2
     obtain⟨u10,u11,u12⟩:=hclr _ hB7
     refine hK.out _ _ ?_ (fun hHeld=>?_)
     ·(try dsimp only);try exact trivial
     clear hK K
     try simp only[pT,Act.put]
     refine tK (i:=7) (v:=?vr7) rfl (fun _ _ _ h=>h) ⟨by rfl,?hyr7⟩ (by assumption) ?_
     case hyr7=>(intro W hSw;(try dsimp only at hSw);go_simp;first|done|with_reducible rfl)
     try simp only[pT,Act.put]
     refine wpAnyH_ready (rs:=[8]) (by kernel_rfl) (by simp) ?_
     refine AllReadyH.cons rfl (fun K hK=>?_) AllReadyH.nil
     go_simp
     refine hK.out _ _ ?_ (fun hHeld=>?_)
     ·(try dsimp only);try exact trivial
     clear hK K
     try simp only[pT,Act.put]
     refine wpAnyH_done (by kernel_rfl) ?_ _
     go_wp2_with fail
     go_meet
     exact⟨a7,n7,c7,A0e _ _ _ _ _ _ hA7,(hr7.set4 (by omega)).mono (by omega),FrB.setT xa2 (by decide) hB7⟩
   ·skip
    go_simp
    refine hK.out _ _ ?_ (fun hHeld=>?_)
    ·(try dsimp only);try exact trivial
    clear hK K
    try simp only[pT,Act.put]
    refine wpAnyH_ready (rs:=[0]) (by kernel_rfl) (by simp) ?_
    refine AllReadyH.cons rfl (fun K hK=>?_) AllReadyH.nil
    go_simp
    rw[←HX1.out]
    refine hK.out _ _ ?_ (fun hHeld=>?_)
    ·(try dsimp only);try exact trivial
    clear hK K
    try simp only[pT,Act.put]
    refine wpAnyH_ready (rs:=[3]) (by kernel_rfl) (by simp) ?_
    refine AllReadyH.cons rfl (fun K hK=>?_) AllReadyH.nil
    skip
    refine A0d (by rfl) (A6y d) _ _ (by rfl) V2.heap.size (.slice (some ⟨V2.heap.size,0,none⟩) 0 0) [] la3 (by rfl) hrX a3 n3 c3 (by rfl) hsAr.1 hsAr.2.1 hsAr.2.2 (show 1≤48 by omega) (by show(0+_)*48≤_;rw[Nat.zero_add];exact g3) hX1.size ?_
    intro v5 w5 hr5 hg5
    obtain⟨a5,n5,c5,rfl,H5⟩:=hr5.shape'
    have hB5:Below V2.heap.size V2 w5:=hX1.grown hg5 hX1.size (fun k hk=>(hrX.own k hk).1)
    have hsB:=(sb3.below hB2').below hB5
    obtain⟨u7,u8,u9⟩:=hclr _ hB5
    refine hK.out _ _ ?_ (fun hHeld=>?_)
    ·(try dsimp only);try exact trivial
    clear hK K
    try simp only[pT,Act.put]
    refine wpAnyH_ready (rs:=[6]) (by kernel_rfl) (by simp) ?_
    refine AllReadyH.cons rfl (fun K hK=>?_) AllReadyH.nil
    skip
    refine A0d (by rfl) (A6y d) _ _ (by rfl) V2.heap.size (.slice a5 n5 c5) ([]++la3) lb3 (by rfl) hr5 b3 m3 d3 (by rfl) hsB.1 hsB.2.1 hsB.2.2 (show 1≤48 by omega) k3 hB5.size ?_
    intro v7 w7 hr7 hg7
    obtain⟨a7,n7,c7,rfl,H7⟩:=hr7.shape'
    have hB7:Below V2.heap.size V2 w7:=hB5.grown hg7 hB5.size (fun k hk=>(hr5.own k hk).1)
    have hA7:=(hB7.block _ (by omega)).trans xa2
    obtain⟨u10,u11,u12⟩:=hclr _ hB7
    refine hK.out _ _ ?_ (fun hHeld=>?_)
    ·(try dsimp only);try exact trivial
    clear hK K
    try simp only[pT,Act.put]
    refine tK (i:=7) (v:=?vr8) rfl (fun _ _ _ h=>h) ⟨by rfl,?hyr8⟩ (by assumption) ?_
    case hyr8=>(intro W hSw;(try dsimp only at hSw);go_simp;first|done|with_reducible rfl)
    try simp only[pT,Act.put]
    refine wpAnyH_ready (rs:=[8]) (by kernel_rfl) (by simp) ?_
    refine AllReadyH.cons rfl (fun K hK=>?_) AllReadyH.nil
    go_simp
    refine hK.out _ _ ?_ (fun hHeld=>?_)
    ·(try dsimp only);try exact trivial
    clear hK K
    try simp only[pT,Act.put]
    refine wpAnyH_done (by kernel_rfl) ?_ _
    go_wp2_with fail
    go_meet
    exact⟨a7,n7,c7,A0e _ _ _ _ _ _ hA7,(hr7.set4 (by omega)).mono (by omega),FrB.setT xa2 (by decide) hB7⟩
  ·skip
   go_simp
   refine hK.out _ _ ?_ (fun hHeld=>?_)
   ·(try dsimp only);try exact trivial
   clear hK K
   try simp only[pT,Act.put]
   refine wpAnyH_ready (rs:=[0,2]) (by kernel_rfl) (by simp) ?_
   refine AllReadyH.cons rfl (fun K hK=>?_) (AllReadyH.cons rfl (fun K hK=>?_) AllReadyH.nil)
   ·skip
    go_simp
    rw[←HX1.out]
    refine hK.out _ _ ?_ (fun hHeld=>?_)
    ·(try dsimp only);try exact trivial
    clear hK K
    try simp only[pT,Act.put]
    refine wpAnyH_ready (rs:=[2]) (by kernel_rfl) (by simp) ?_
    refine AllReadyH.cons rfl (fun K hK=>?_) AllReadyH.nil
    go_simp
    refine hK.out _ _ ?_ (fun hHeld=>?_)
    ·(try dsimp only);try exact trivial
    clear hK K
    try simp only[pT,Act.put]
    refine wpAnyH_ready (rs:=[3]) (by kernel_rfl) (by simp) ?_
    refine AllReadyH.cons rfl (fun K hK=>?_) AllReadyH.nil
    skip
    refine A0d (by rfl) (A6y d) _ _ (by rfl) V2.heap.size (.slice (some ⟨V2.heap.size,0,none⟩) 0 0) [] la3 (by rfl) hrX a3 n3 c3 (by rfl) hsAr.1 hsAr.2.1 hsAr.2.2 (show 1≤48 by omega) (by show(0+_)*48≤_;rw[Nat.zero_add];exact g3) hX1.size ?_
    intro v5 w5 hr5 hg5
    obtain⟨a5,n5,c5,rfl,H5⟩:=hr5.shape'
    have hB5:Below V2.heap.size V2 w5:=hX1.grown hg5 hX1.size (fun k hk=>(hrX.own k hk).1)
    have hsB:=(sb3.below hB2').below hB5
    obtain⟨u7,u8,u9⟩:=hclr _ hB5
    refine hK.out _ _ ?_ (fun hHeld=>?_)
    ·(try dsimp only);try exact trivial
    clear hK K
    try simp only[pT,Act.put]
    refine wpAnyH_ready (rs:=[6]) (by kernel_rfl) (by simp) ?_
    refine AllReadyH.cons rfl (fun K hK=>?_) AllReadyH.nil
    skip
    refine A0d (by rfl) (A6y d) _ _ (by rfl) V2.heap.size (.slice a5 n5 c5) ([]++la3) lb3 (by rfl) hr5 b3 m3 d3 (by rfl) hsB.1 hsB.2.1 hsB.2.2 (show 1≤48 by omega) k3 hB5.size ?_
    intro v7 w7 hr7 hg7
    obtain⟨a7,n7,c7,rfl,H7⟩:=hr7.shape'
    have hB7:Below V2.heap.size V2 w7:=hB5.grown hg7 hB5.size (fun k hk=>(hr5.own k hk).1)
    have hA7:=(hB7.block _ (by omega)).trans xa2
    obtain⟨u10,u11,u12⟩:=hclr _ hB7
    refine hK.out _ _ ?_ (fun hHeld=>?_)
    ·(try dsimp only);try exact trivial
    clear hK K
    try simp only[pT,Act.put]
    refine tK (i:=7) (v:=?vr9) rfl (fun _ _ _ h=>h) ⟨by rfl,?hyr9⟩ (by assumption) ?_
    case hyr9=>(intro W hSw;(try dsimp only at hSw);go_simp;first|done|with_reducible rfl)
    try simp only[pT,Act.put]
    refine wpAnyH_ready (rs:=[8]) (by kernel_rfl) (by simp) ?_
    refine AllReadyH.cons rfl (fun K hK=>?_) AllReadyH.nil
    go_simp
    refine hK.out _ _ ?_ (fun hHeld=>?_)
    ·(try dsimp only);try exact trivial
    clear hK K
    try simp only[pT,Act.put]
    refine wpAnyH_done (by kernel_rfl) ?_ _
    go_wp2_with fail
    go_meet
    exact⟨a7,n7,c7,A0e _ _ _ _ _ _ hA7,(hr7.set4 (by omega)).mono (by omega),FrB.setT xa2 (by decide) hB7⟩
   ·skip
    go_simp
    refine hK.out _ _ ?_ (fun hHeld=>?_)
    ·(try dsimp only);try exact trivial
    clear hK K
    try simp only[pT,Act.put]
    refine wpAnyH_ready (rs:=[0]) (by kernel_rfl) (by simp) ?_
    refine AllReadyH.cons rfl (fun K hK=>?_) AllReadyH.nil
    go_simp
    rw[←HX1.out]
    refine hK.out _ _ ?_ (fun hHeld=>?_)
    ·(try dsimp only);try exact trivial
    clear hK K
    try simp only[pT,Act.put]
    refine wpAnyH_ready (rs:=[3]) (by kernel_rfl) (by simp) ?_
    refine AllReadyH.cons rfl (fun K hK=>?_) AllReadyH.nil
    skip
    refine A0d (by rfl) (A6y d) _ _ (by rfl) V2.heap.size (.slice (some ⟨V2.heap.size,0,none⟩) 0 0) [] la3 (by rfl) hrX a3 n3 c3 (by rfl) hsAr.1 hsAr.2.1 hsAr.2.2 (show 1≤48 by omega) (by show(0+_)*48≤_;rw[Nat.zero_add];exact g3) hX1.size ?_
    intro v5 w5 hr5 hg5
    obtain⟨a5,n5,c5,rfl,H5⟩:=hr5.shape'
    have hB5:Below V2.heap.size V2 w5:=hX1.grown hg5 hX1.size (fun k hk=>(hrX.own k hk).1)
    have hsB:=(sb3.below hB2').below hB5
    obtain⟨u7,u8,u9⟩:=hclr _ hB5
    refine hK.out _ _ ?_ (fun hHeld=>?_)
    ·(try dsimp only);try exact trivial
    clear hK K
    try simp only[pT,Act.put]
    refine wpAnyH_ready (rs:=[6]) (by kernel_rfl) (by simp) ?_
    refine AllReadyH.cons rfl (fun K hK=>?_) AllReadyH.nil
    skip
    refine A0d (by rfl) (A6y d) _ _ (by rfl) V2.heap.size (.slice a5 n5 c5) ([]++la3) lb3 (by rfl) hr5 b3 m3 d3 (by rfl) hsB.1 hsB.2.1 hsB.2.2 (show 1≤48 by omega) k3 hB5.size ?_
    intro v7 w7 hr7 hg7
    obtain⟨a7,n7,c7,rfl,H7⟩:=hr7.shape'
    have hB7:Below V2.heap.size V2 w7:=hB5.grown hg7 hB5.size (fun k hk=>(hr5.own k hk).1)
    have hA7:=(hB7.block _ (by omega)).trans xa2
    obtain⟨u10,u11,u12⟩:=hclr _ hB7
    refine hK.out _ _ ?_ (fun hHeld=>?_)
    ·(try dsimp only);try exact trivial
    clear hK K
    try simp only[pT,Act.put]
    refine tK (i:=7) (v:=?vr10) rfl (fun _ _ _ h=>h) ⟨by rfl,?hyr10⟩ (by assumption) ?_
    case hyr10=>(intro W hSw;(try dsimp only at hSw);go_simp;first|done|with_reducible rfl)
    try simp only[pT,Act.put]
    refine wpAnyH_ready (rs:=[8]) (by kernel_rfl) (by simp) ?_
    refine AllReadyH.cons rfl (fun K hK=>?_) AllReadyH.nil
    go_simp
    refine hK.out _ _ ?_ (fun hHeld=>?_)
    ·(try dsimp only);try exact trivial
    clear hK K
    try simp only[pT,Act.put]
    refine wpAnyH_done (by kernel_rfl) ?_ _
    go_wp2_with fail
    go_meet
    exact⟨a7,n7,c7,A0e _ _ _ _ _ _ hA7,(hr7.set4 (by omega)).mono (by omega),FrB.setT xa2 (by decide) hB7⟩
 case rest=>
 obtain⟨i3,j3,k3',xa3,hr3',hf3⟩:=hcut
 obtain⟨V3,HV3⟩:∃ V3,V3=wc:=⟨_,rfl⟩
 subst HV3
 have hB3':Below w.heap.size w V3:=hB2'.trans (hf3.below (by omega) (fun k hk=>by rw[List.mem_singleton.1 hk];omega))
 have xb3:=(hf3.block _ (by omega) (.inl (by simp))).trans xb2
 have xr3:=(hf3.block _ (by omega) (.inl (by simp))).trans xr2
 have hz3:w.heap.size+4≤V3.heap.size:=Nat.le_trans hz2 hf3.size
 have hzz3:=hf3.size
 have hr1':=Row.frB (p:=(i1,j1,k1')) hr1' hf3 (fun k hk=>by have:=(Row.own1 (p:=(i1,j1,k1')) hr1' k hk).1;simp;omega)
 have hr2':=Row.frB (p:=(i2,j2,k2')) hr2' hf3 (fun k hk=>by have:=(Row.own1 (p:=(i2,j2,k2')) hr2' k hk).1;simp;omega)
 obtain⟨t0,t1,t2,t3⟩:=A2w xa3
 obtain⟨r0,r1,r2,r3⟩:=A2w xr3
 have fr0:=A0b xr3
 have ne1:¬ w.heap.size+1=w.heap.size+3:=by omega
 have q1:=((((hr1'.set4 (i:=0) (x:=.int .i64 a.number) (show w.heap.size+3 < W0.heap.size by omega)).set4 (i:=1) (x:=.slice i1 j1 k1') (show w.heap.size+3 < W0.heap.size by omega)).set4 (i:=2) (x:=.slice i2 j2 k2') (show w.heap.size+3 < W0.heap.size by omega)).set4 (i:=3) (x:=.slice i3 j3 k3') (show w.heap.size+3 < W0.heap.size by omega))
 have q2:=((((hr2'.set4 (i:=0) (x:=.int .i64 a.number) (show w.heap.size+3 < W0.heap.size by omega)).set4 (i:=1) (x:=.slice i1 j1 k1') (show w.heap.size+3 < W0.heap.size by omega)).set4 (i:=2) (x:=.slice i2 j2 k2') (show w.heap.size+3 < W0.heap.size by omega)).set4 (i:=3) (x:=.slice i3 j3 k3') (show w.heap.size+3 < W0.heap.size by omega))
 have q3:=((((hr3'.set4 (i:=0) (x:=.int .i64 a.number) (show w.heap.size+3 < W0.heap.size by omega)).set4 (i:=1) (x:=.slice i1 j1 k1') (show w.heap.size+3 < W0.heap.size by omega)).set4 (i:=2) (x:=.slice i2 j2 k2') (show w.heap.size+3 < W0.heap.size by omega)).set4 (i:=3) (x:=.slice i3 j3 k3') (show w.heap.size+3 < W0.heap.size by omega))
 have hBF:Below w.heap.size w ((((V3.setCell ⟨w.heap.size+3,0,none⟩ (.int .i64 a.number)).setCell ⟨w.heap.size+3,1,none⟩ (.slice i1 j1 k1')).setCell ⟨w.heap.size+3,2,none⟩ (.slice i2 j2 k2')).setCell ⟨w.heap.size+3,3,none⟩ (.slice i3 j3 k3')):=A0f (A0f (A0f (A0f hB3' (by omega)) (by omega)) (by omega)) (by omega)
 clear hr1' hr2' hr3' xa xa1 xa2 xa3 xb xb1 xb2 xb3 sa1 sa2 sa3 sb1 sb2 sb3
 go_wp2_with fail
 refine bodyPost_ret (v:=.agg #[.int .i64 a.number,.slice i1 j1 k1',.slice i2 j2 k2',.slice i3 j3 k3']) (by simp[results,Tryz.results67,go_sem, *]) rfl ?_
 refine⟨i1,j1,k1',i2,j2,k2',i3,j3,k3',rfl,fun u' ho=>⟨?_,?_,?_⟩,hBF⟩
 ·have:=kpU.rd (q1.over ho (by omega)) (fun _ _=>trivial) ho.sub
  rw[List.map_append,HA1.out.1,HA1.out.2] at this
  exact this
 ·have:=kpZ.rd (q2.over ho (by omega)) (fun z hz=>(List.mem_append.1 hz).elim (ta2 z) (tb2 z)) ho.sub
  rw[List.map_append,HA2.out.1,HA2.out.2] at this
  exact this
 ·have:=(kpB d).rd (q3.over ho (by omega)) (fun z hz=>(List.mem_append.1 hz).elim (ta3 z) (tb3 z)) ho.sub
  rw[List.map_append,HA3.out.1,HA3.out.2] at this
  exact this
end L
end Go.Proofs.YtelmjekjohbmjaaGreatDoor
