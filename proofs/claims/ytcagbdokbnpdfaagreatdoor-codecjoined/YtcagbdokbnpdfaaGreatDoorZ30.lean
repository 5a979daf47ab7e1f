import Derived.Test.YtcagbdokbnpdfaaGreatDoorZ29
import Derived.Test.YtcagbdokbnpdfaaGreatDoorZ03
import Derived.Deep.RegionHeld3
import Derived.Deep.CutRange
import Derived.Deep.DeepCutAuto
namespace Go.Proofs.YtcagbdokbnpdfaaGreatDoor
namespace L
open Go.RowKit
set_option linter.unusedVariables false
theorem B0y {w w':World}{ao:Option Addr}{n cap:Nat}{l:List UInt8}(h:RdA w ao n cap l) (hb:Below w.heap.size w w'):RdA w' ao n cap l:=⟨h.1,h.2.1,h.2.2.1,h.2.2.2.1,fun x hx i hi=>A0c hb (h.2.2.2.2 x hx i hi)⟩
theorem C8c {l:List UInt8}{how:Int}(hh:how=0∨how=1∨how=5) (hz:(A2l l how).2.2=0):1≤(A2l l how).2.1:=by
 unfold A2l at hz ⊢
 split
 ·rename_i h0
  rw[if_pos h0] at hz
  obtain⟨N,K,E,hg⟩:∃ N K E,A3o 0 0 l=(N,K,E):=⟨_,_,_,rfl⟩
  rw[hg] at hz ⊢
  exact(A4y hg).2.2.2.2 hz
 ·rename_i h0
  rw[if_neg h0] at hz
  split
  ·rename_i h1
   rw[if_pos h1] at hz
   cases hz
  ·show 1≤A1u how
   rcases hh with h|h|h
   ·exact absurd h h0
   ·subst h;decide
   ·subst h;decide
theorem unp_end {how:Int}{f:Nat}{l:List UInt8}{acc:List Nat}(h:l.length=0):unpGo how f l acc=(acc,0):=by
 cases f with
 | zero=>rfl
 | succ f=>unfold unpGo;rw[if_pos h]
theorem D2v {how:Int}{f:Nat}{l:List UInt8}{acc:List Nat}{A B C:Nat}(h:l.length≠0) (hb:A2l l how=(A,B,C)) (hC:C≠0):unpGo how (f+1) l acc=([],C):=by
 unfold unpGo
 rw[if_neg h,hb,if_pos hC]
theorem unp_go {how:Int}{f:Nat}{l:List UInt8}{acc:List Nat}{A B:Nat}(h:l.length≠0) (hb:A2l l how=(A,B,0)):unpGo how (f+1) l acc=unpGo how f (l.drop B) (acc++[A]):=by
 rw[unpGo.eq_2,if_neg h,hb,if_neg (by simp)]
set_option maxHeartbeats 2000000 in
set_option maxRecDepth 100000 in
theorem B6k {w:World}{ao:Option Addr}{n cap:Nat}{l:List UInt8}(h:RdL 1 YAt w (.slice ao n cap) l) (hl:l.length≤4000) (how:Int) (hh:how=0∨how=1∨how=5) :
  Calls Tryz.prog 209 #[.int .i64 how,.slice ao n cap] w fun e w'=>∃ (a:Option Addr) (m c:Nat),e = .returned (.tuple #[.slice a m c,.int .i64 (((unpR how l).2:Nat):Int)])∧Row ekU w' w.heap.size (.slice a m c) (unpR how l).1∧Below w.heap.size w w':=by
 have hr:=C0i h
 have HN:Hid (n=l.length):=h.len.1
 have hn:n≤4000:=by rw[HN.out];exact hl
 have hkb:=B9s how w
 have hk1:B5o how=true:=by rcases hh with h|h|h <;> subst h <;> decide
 rw[hk1] at hkb
 obtain⟨R,HR⟩:∃ R,Hid (unpR how l=R):=⟨_,rfl⟩
 rw[HR.out]
 have HH:Hid (how=0∨how=1∨how=5):=hh
 have HRd:Hid (RdA w ao n cap l):=hr
 clear h hl hh hk1 hr
 go_enter Tryz.func209,Tryz.ntmps209
 go_wp2_with fail
 refine hkb.mono ?_
 rintro e w1 ⟨rfl,rfl⟩
 clear hkb
 go_wp2_with fail
 go_loopg [1,6] n (fun gm s1 s6 wr=>∃ (k f:Nat) (a1:Option Addr) (a2:Option Addr) (m2 c2:Nat) (acc:List Nat),k+gm=n∧gm≤f∧s1 = .slice a1 (n - k) (cap - k)∧s6 = .slice a2 m2 c2∧Hid (RdA w a1 (n - k) (cap - k) (l.drop k))∧Row ekU wr w.heap.size (.slice a2 m2 c2) acc∧acc.length≤k∧Hid (unpGo how f (l.drop k) acc=R)∧Below w.heap.size w wr)
 case atStart=>exact⟨0,n,ao,none,0,0,[],by omega,Nat.le_refl _,rfl,rfl,HRd,Row.nil _ _ _,by simp,by rw[HN.out];exact HR.out,Below.refl _ _⟩
 case round=>
  obtain⟨k,f,a1,a2,m2,c2,acc,hk,hf,rfl,rfl,HA,hrow,hal,HU,hb⟩:=hrel
  have HL:Hid ((l.drop k).length=n - k):=by show _=_;rw[List.length_drop,←HN.out]
  by_cases hlt:k < n
  ·have hpos:decide ((0:Int) < ((n - k:Nat):Int))=true:=by simp;omega
   obtain⟨A,B,C,Hb⟩:∃ A B C,Hid (A2l (l.drop k) how=(A,B,C)):=⟨_,_,_,rfl⟩
   obtain⟨bd1,bd2,bd3,bd4⟩:=A9r Hb.out
   rw[HL.out] at bd2
   have hgb:∀ V,Below w.heap.size w V→Calls Tryz.prog 88 #[.slice a1 (n - k) (cap - k),.int .i64 how] V fun e w'=>e = .returned (.tuple #[.int .u64 (A:Int),.int .i64 (B:Int),.int .i64 (C:Int)])∧V=w':=fun V hV=>B2g (B0y HA.out hV) how Hb.out
   have hgw:=hgb wr hb
   obtain⟨f',rfl⟩:∃ f',f=f'+1:=⟨f - 1,by omega⟩
   have hne:(l.drop k).length≠0:=by rw[HL.out];omega
   by_cases hC:C=0
   ·subst hC
    have hB1:1≤B:=by
     have:=C8c (l:=l.drop k) HH.out (by rw[Hb.out])
     rw[Hb.out] at this
     exact this
    have HU2:Hid (unpGo how f' ((l.drop k).drop B) (acc++[A])=R):=by show _=_;rw[←HU.out,unp_go hne Hb.out]
    obtain⟨a3,hsl,hrd3⟩:=A6r HA.out (show B≤n - k from bd2) .i64
    have HRD3:Hid (RdA w a3 (n - (k+B)) (cap - (k+B)) (l.drop (k+B))):=by
     have e1:n - k - B=n - (k+B):=by omega
     have e2:cap - k - B=cap - (k+B):=by omega
     rw[e1,e2,List.drop_drop] at hrd3
     exact hrd3
    have e1:n - k - B=n - (k+B):=by omega
    have e2:cap - k - B=cap - (k+B):=by omega
    rw[e1,e2] at hsl
    have HU3:Hid (unpGo how f' (l.drop (k+B)) (acc++[A])=R):=by rw[←List.drop_drop];exact HU2
    obtain⟨X1,HX1⟩:∃ X1,Hid (X1=(wr.alloc (.cells #[.int .u64 (A:Int)] 63)).drew):=⟨_,rfl⟩
    have hX1:Below wr.heap.size wr X1:=by rw[HX1.out];exact((Below.refl _ _).alloc (Nat.le_refl _) _).drew
    have xX1:X1.heap[wr.heap.size]?=some (.cells #[.int .u64 (A:Int)] 63 (0,0)):=by rw[HX1.out];exact heap_alloc_new wr _
    have hsrc:=A6h (E:=ekU) (y0:=A) xX1 rfl
    have hrX:=hrow.below hX1
    have hBX:Below w.heap.size w X1:=KBT hb hX1
    have hlen:(acc.length+([A]:List Nat).length)*ekU.bytes≤140737488355328:=by show(_+1)*8≤_;omega
    have hown:=hrX.own
    clear hrd3 hne Hb e1 e2
    go_upto_region 5 with fail
    go_wp2_with fail
    refine hgw.mono ?_
    rintro e w2 ⟨rfl,rfl⟩
    go_upto_region 8 with fail
    refine wp_region_held_drew (S:=fun _=>True) (by kernel_rfl) trivial (fun hHeld=>?_)
    refine tK (i:=0) (v:=?vu1) rfl (fun _ _ _ h=>h) ⟨by rfl,?hyu1⟩ (by assumption) ?_
    case hyu1=>(intro W hSw;(try dsimp only at hSw);go_simp;first|done|with_reducible rfl)
    try simp only[pT,Act.put]
    refine tK (i:=1) (v:=?vu2) rfl (fun _ _ _ h=>h) ⟨by rfl,?hyu2⟩ (by assumption) ?_
    case hyu2=>(intro W hSw;(try dsimp only at hSw);go_simp;first|done|with_reducible rfl)
    try simp only[pT,Act.put]
    refine tK (i:=4) (v:=?vu3) rfl (fun _ _ _ h=>h) ⟨by rfl,?hyu3⟩ (by assumption) ?_
    case hyu3=>(intro W hSw;(try dsimp only at hSw);go_simp;first|done|with_reducible rfl)
    try simp only[pT,Act.put]
    refine tK (i:=5) (v:=?vu4) rfl (fun _ _ _ h=>h) ⟨by rfl,?hyu4⟩ (by assumption) ?_
    case hyu4=>(intro W hSw;(try dsimp only at hSw);go_simp;first|done|with_reducible rfl)
    try simp only[pT,Act.put]
    refine tK (i:=6) (v:=?vu5) rfl (fun _ _ _ h=>h) ⟨by rfl,?hyu5⟩ (by assumption) ?_
    case hyu5=>(intro W hSw;(try dsimp only at hSw);go_simp;first|done|with_reducible rfl)
    try simp only[pT,Act.put]
    refine wpAnyH_ready (rs:=[2]) (by kernel_rfl) (by simp) ?_
    refine AllReadyH.cons rfl (fun K hK=>?_) AllReadyH.nil
    go_simp
    rw[←HX1.out]
    refine hK.out _ _ ?_ (fun hHeld=>?_)
    ·(try dsimp only);try exact trivial
    clear hK K
    try simp only[pT,Act.put]
    refine wpAnyH_ready (rs:=[3]) (by kernel_rfl) (by simp) ?_
    refine AllReadyH.cons rfl (fun K hK=>?_) AllReadyH.nil
    skip
    refine A4c (by rfl) ekU _ _ (by rfl) w.heap.size (.slice a2 m2 c2) acc [A] (by rfl) hrX (some ⟨wr.heap.size,0,none⟩) 1 1 (by rfl) rfl (fun h=>by cases h) hsrc (by decide) hlen hBX.size ?_
    intro v5 w5 hr5 hg5
    obtain⟨a5,n5,c5,rfl,H5⟩:=hr5.shape'
    have hB5:Below w.heap.size w w5:=hBX.grown hg5 hBX.size (fun k hk=>(hown k hk).1)
    refine hK.out _ _ ?_ (fun hHeld=>?_)
    ·(try dsimp only);try exact trivial
    clear hK K
    try simp only[pT,Act.put]
    refine tK (i:=7) (v:=?vu6) rfl (fun _ _ _ h=>h) ⟨by rfl,?hyu6⟩ (by assumption) ?_
    case hyu6=>(intro W hSw;(try dsimp only at hSw);go_simp;first|done|with_reducible rfl)
    try simp only[pT,Act.put]
    refine tK (i:=8) (v:=?vu7) rfl (fun _ _ _ h=>h) ⟨by rfl,?hyu7⟩ (by assumption) ?_
    case hyu7=>(intro W hSw;(try dsimp only at hSw);go_simp;first|done|with_reducible rfl)
    try simp only[pT,Act.put]
    refine wpAnyH_done (by kernel_rfl) ?_ _
    go_wp2_with fail
    go_roundg (n - (k+B))
    case measure=>omega
    case rel=>exact⟨k+B,f',a3,a5,n5,c5,acc++[A],by omega,by omega,rfl,rfl,HRD3,hr5,by rw[List.length_append];simp;omega,HU3,hB5⟩
   ·have ec:((C:Int) != 0)=true:=by simp;omega
    have HU2:Hid (R=([],C)):=by show _=_;rw[←HU.out,D2v hne Hb.out hC]
    clear hC hne Hb
    go_wp2_with fail
    refine hgw.mono ?_
    rintro e w2 ⟨rfl,rfl⟩
    go_wp2_with fail
    go_ret2
    exact⟨none,0,0,by rw[HU2.out];rfl,by rw[HU2.out];exact Row.nil _ _ _,hb⟩
  ·have hpos:decide ((0:Int) < ((n - k:Nat):Int))=false:=by simp;omega
   have HU2:Hid (R=(acc,0)):=by show _=_;rw[←HU.out,unp_end (by rw[HL.out];omega)]
   go_wp2_with fail
   go_ret2
   exact⟨a2,m2,c2,by rw[HU2.out];rfl,by rw[HU2.out];exact hrow,hb⟩
end L
end Go.Proofs.YtcagbdokbnpdfaaGreatDoor
namespace Go.Proofs.YtcagbdokbnpdfaaGreatDoor
namespace L
open Go.RowKit
set_option linter.unusedVariables false
set_option maxHeartbeats 1000000 in
theorem A9v (k:Int) (w:World):Calls Tryz.prog 8 #[.int .i64 k] w fun e w'=>e = .returned (.int .i64 (A3t k))∧w=w':=by
 by_cases h:k=6∨k=7∨k=8∨k=9∨k=10
 ·rcases h with rfl|rfl|rfl|rfl|rfl
  all_goals
   go_enter Tryz.func8,Tryz.ntmps8
   go_wp2
   go_ret
   exact⟨rfl,rfl⟩
 ·have e:A3t k=0:=by unfold A3t;rw[if_neg (by omega),if_neg (by omega),if_neg (by omega)]
  rw[e]
  have b6:(k == 6)=false:=beq_eq_false_iff_ne.2 (by omega)
  have b7:(k == 7)=false:=beq_eq_false_iff_ne.2 (by omega)
  have b8:(k == 8)=false:=beq_eq_false_iff_ne.2 (by omega)
  have b9:(k == 9)=false:=beq_eq_false_iff_ne.2 (by omega)
  have b10:(k == 10)=false:=beq_eq_false_iff_ne.2 (by omega)
  clear e h
  go_enter Tryz.func8,Tryz.ntmps8
  go_wp2
  go_ret
  exact⟨rfl,rfl⟩
theorem B3q {k:Int}(h:A3t k≠2):A3t k=0∨A3t k=1∨A3t k=5:=by
 unfold A3t at h ⊢
 split
 ·exact .inr (.inl rfl)
 ·split
  ·exact .inr (.inr rfl)
  ·split
   ·rename_i h1 h2 h3
    rw[if_neg h1,if_neg h2,if_pos h3] at h
    exact absurd rfl h
   ·exact .inl rfl
def fdV (x:FI):Value:=.agg #[.string (S x.name),.int .i64 x.number,.int .i64 x.kind,.string (S x.type),.bool x.many,.int .i64 x.choice]
def fdC (x:FI):Array Value:=#[.string (S x.name),.int .i64 x.number,.int .i64 x.kind,.string (S x.type),.bool x.many,.int .i64 x.choice]
def tnN (x:FI) (r:RI):List Nat×Nat:=
 if r.how=A3t x.kind then([A3i x.kind r.bits],0)
 else if r.how=2∧x.many=true then((unpR (A3t x.kind) r.bytes).1.map (A3i x.kind),(unpR (A3t x.kind) r.bytes).2)
 else([],8)
theorem C7j {how:Int}:∀ {f:Nat}{l:List UInt8}{acc:List Nat},(unpGo how f l acc).1.length≤acc.length+f
 | 0,_,_=>by simp[unpGo]
 | f+1,l,acc=>by
  unfold unpGo
  split
  ·simp
  ·split
   ·simp
   ·have:=C7j (how:=how) (f:=f) (l:=l.drop (A2l l how).2.1) (acc:=acc++[(A2l l how).1])
    rw[List.length_append] at this
    simp at this
    omega
theorem C7i {how:Int}:∀ {f:Nat}{l:List UInt8}{acc:List Nat},(∀ n∈acc,n≤18446744073709551615)→∀ n∈(unpGo how f l acc).1,n≤18446744073709551615
 | 0,_,_,h=>by simpa [unpGo] using h
 | f+1,l,acc,h=>by
  unfold unpGo
  split
  ·exact h
  ·split
   ·intro n hn;simp at hn
   ·refine C7i fun n hn=>?_
    rcases List.mem_append.1 hn with hn|hn
    ·exact h n hn
    ·obtain⟨A,B,C,hb⟩:∃ A B C,A2l l how=(A,B,C):=⟨_,_,_,rfl⟩
     rw[List.mem_singleton.1 hn,hb]
     exact(A9r hb).1
set_option maxHeartbeats 4000000 in
set_option maxRecDepth 100000 in
theorem B1e {w:World}(x:FI) (hx:A3t x.kind≠2) (r:RI){ao:Option Addr}{n cap:Nat}(h:RdL 1 YAt w (.slice ao n cap) r.bytes) (hl:r.bytes.length≤4000) (hb:r.bits≤18446744073709551615) :
  Calls Tryz.prog 125 #[fdV x,.agg #[.int .i64 r.number,.int .i64 r.how,.int .u64 (r.bits:Int),.slice ao n cap]] w fun e w'=>∃ (a:Option Addr) (m c:Nat),e = .returned (.tuple #[.slice a m c,.int .i64 (((tnN x r).2:Nat):Int)])∧Row ekU w' w.heap.size (.slice a m c) (tnN x r).1∧Below w.heap.size w w':=by
 obtain⟨H,HH⟩:∃ H,Hid (A3t x.kind=H):=⟨_,rfl⟩
 have hhb:=B3q hx
 rw[HH.out] at hhb
 obtain⟨W2,HW2⟩:∃ W2,Hid (W2=(w.alloc (.cells (fdC x) 58)).alloc (.cells #[.int .i64 r.number,.int .i64 r.how,.int .u64 (r.bits:Int),.slice ao n cap] 65)):=⟨_,rfl⟩
 have hb2:Below w.heap.size w W2:=by rw[HW2.out];exact((Below.refl _ _).alloc (Nat.le_refl _) _).alloc (by simp) _
 have x1:W2.heap[w.heap.size]?=some (.cells (fdC x) 58 (0,0)):=by rw[HW2.out];exact A0u _ _ _
 have x2:W2.heap[w.heap.size+1]?=some (.cells #[.int .i64 r.number,.int .i64 r.how,.int .u64 (r.bits:Int),.slice ao n cap] 65 (0,0)):=by rw[HW2.out];exact A0r _ _ _
 have hz2:w.heap.size+2≤W2.heap.size:=by rw[HW2.out];simp
 have hcl:∀ V,Below W2.heap.size W2 V→(V.cell? ⟨w.heap.size,2,none⟩=some (.int .i64 x.kind)∧V.cell? ⟨w.heap.size,4,none⟩=some (.bool x.many))∧V.cell? ⟨w.heap.size+1,1,none⟩=some (.int .i64 r.how)∧V.cell? ⟨w.heap.size+1,2,none⟩=some (.int .u64 (r.bits:Int))∧V.cell? ⟨w.heap.size+1,3,none⟩=some (.slice ao n cap):=fun V hV=>by
  have y1:=(hV.block _ (by omega)).trans x1
  have y2:=(hV.block _ (by omega)).trans x2
  exact⟨⟨A0a y1 2 _ rfl,A0a y1 4 _ rfl⟩,A0a y2 1 _ rfl,A0a y2 2 _ rfl,A0a y2 3 _ rfl⟩
 have hho:∀ V,Calls Tryz.prog 8 #[.int .i64 x.kind] V fun e w'=>e = .returned (.int .i64 H)∧V=w':=fun V=>by
  have:=A9v x.kind V
  rw[HH.out] at this
  exact this
 obtain⟨R,HR⟩:∃ R,Hid (tnN x r=R):=⟨_,rfl⟩
 rw[HR.out]
 have hD:Below W2.heap.size W2 W2.drew:=(Below.refl _ _).drew
 have hnf:=B5w x.kind W2.drew
 have HRD:Hid (RdL 1 YAt w (.slice ao n cap) r.bytes):=h
 have HHB:Hid (H=0∨H=1∨H=5):=hhb
 obtain⟨⟨t0,t1⟩,t2,t3,t4⟩:=hcl W2.drew hD
 clear h hx hhb x1 x2
 unfold fdV
 go_enter Tryz.func125,Tryz.ntmps125
 go_upto_region 1 with fail
 rw[show(#[.string (S x.name),.int .i64 x.number,.int .i64 x.kind,.string (S x.type),.bool x.many,.int .i64 x.choice]:Array Value)=fdC x from rfl,←HW2.out]
 go_cut [6,7] from 10 to 15 (fun s6 s7 wc=>∃ fn:Nat,s6 = .int .i64 H∧s7 = .func (.func fn) #[] #[]∧C1b x.kind fn∧Below W2.heap.size W2 wc)
 case first=>
  refine wp_region_held_drew (S:=fun V=>Below W2.heap.size W2 V) (by kernel_rfl) hD (fun hHeld=>?_)
  refine tK (i:=0) (v:=?vn1) rfl (fun _ _ _ h=>h) ⟨by rfl,?hyn1⟩ (by assumption) ?_
  case hyn1=>(intro W hSw;obtain⟨⟨o1,o2⟩,o3,o4,o5⟩:=hcl W hSw;go_simp;first|done|with_reducible rfl)
  try simp only[pT,Act.put]
  refine tK (i:=1) (v:=?vn2) rfl (fun _ _ _ h=>h) ⟨by rfl,?hyn2⟩ (by assumption) ?_
  case hyn2=>(intro W hSw;obtain⟨⟨o1,o2⟩,o3,o4,o5⟩:=hcl W hSw;go_simp;first|done|with_reducible rfl)
  try simp only[pT,Act.put]
  refine tK (i:=3) (v:=?vn3) rfl (fun _ _ _ h=>h) ⟨by rfl,?hyn3⟩ (by assumption) ?_
  case hyn3=>(intro W hSw;obtain⟨⟨o1,o2⟩,o3,o4,o5⟩:=hcl W hSw;go_simp;first|done|with_reducible rfl)
  try simp only[pT,Act.put]
  refine tK (i:=4) (v:=?vn4) rfl (fun _ _ _ h=>h) ⟨by rfl,?hyn4⟩ (by assumption) ?_
  case hyn4=>(intro W hSw;obtain⟨⟨o1,o2⟩,o3,o4,o5⟩:=hcl W hSw;go_simp;first|done|with_reducible rfl)
  try simp only[pT,Act.put]
  refine wpAnyH_ready (rs:=[2]) (by kernel_rfl) (by simp) ?_
  refine AllReadyH.cons rfl (fun K hK=>?_) AllReadyH.nil
  go_simp
  refine(hho _).mono ?_
  rintro r w3 ⟨rfl,rfl⟩
  refine hK.out _ _ ?_ (fun hHeld=>?_)
  ·(try dsimp only);with_reducible exact hD
  clear hK K
  try simp only[pT,Act.put]
  refine wpAnyH_ready (rs:=[5]) (by kernel_rfl) (by simp) ?_
  refine AllReadyH.cons rfl (fun K hK=>?_) AllReadyH.nil
  go_simp
  refine hnf.mono ?_
  rintro r w4 ⟨fn,rfl,hfn,rfl⟩
  refine hK.out _ _ ?_ (fun hHeld=>?_)
  ·(try dsimp only);with_reducible exact hD
  clear hK K
  try simp only[pT,Act.put]
  refine tK (i:=6) (v:=?vn5) rfl (fun _ _ _ h=>h) ⟨by rfl,?hyn5⟩ (by assumption) ?_
  case hyn5=>(intro W hSw;obtain⟨⟨o1,o2⟩,o3,o4,o5⟩:=hcl W hSw;go_simp;first|done|with_reducible rfl)
  try simp only[pT,Act.put]
  refine tK (i:=7) (v:=?vn6) rfl (fun _ _ _ h=>h) ⟨by rfl,?hyn6⟩ (by assumption) ?_
  case hyn6=>(intro W hSw;obtain⟨⟨o1,o2⟩,o3,o4,o5⟩:=hcl W hSw;go_simp;first|done|with_reducible rfl)
  try simp only[pT,Act.put]
  refine wpAnyH_done (by kernel_rfl) ?_ _
  go_wp2_with fail
  go_meet
  exact⟨fn,rfl,rfl,hfn,hD⟩
 case rest=>
 obtain⟨fn,rfl,rfl,hfn,hbc⟩:=hcut
 clear t0 t1 t2 t3 t4 hnf
 obtain⟨⟨t0,t1⟩,t2,t3,t4⟩:=hcl wc hbc
 clear hcl
 have hent:=hfn.1
 have hone:=hfn.2 r.bits wc hb
 by_cases h1:r.how=H
 ·have e1:(r.how == H)=true:=beq_iff_eq.2 h1
  have HT:Hid (R=([A3i x.kind r.bits],0)):=by show _=_;rw[←HR.out];unfold tnN;rw[HH.out,if_pos h1]
  obtain⟨T,HTT⟩:∃ T,Hid (A3i x.kind r.bits=T):=⟨_,rfl⟩
  rw[HTT.out] at hone
  rw[HTT.out] at HT
  clear h1
  go_wp2_with fail
  refine hone.mono ?_
  rintro e w3 ⟨rfl,rfl⟩
  go_wp2_with fail
  go_ret2
  refine⟨some ⟨wc.heap.size,0,none⟩,1,1,by rw[HT.out];rfl,?_,(KBT hb2 hbc).alloc (KBT hb2 hbc).size _⟩
  rw[HT.out]
  exact Row.one ekU wc T (KBT hb2 hbc).size
 ·have e1:(r.how == H)=false:=beq_eq_false_iff_ne.2 h1
  by_cases h2:r.how=2
  ·have e2:(r.how == 2)=true:=beq_iff_eq.2 h2
   cases hm:x.many with
   | true=>
    obtain⟨U,HU⟩:∃ U,Hid (unpR H r.bytes=U):=⟨_,rfl⟩
    have HT:Hid (R=(U.1.map (A3i x.kind),U.2)):=by show _=_;rw[←HR.out];unfold tnN;rw[HH.out,if_neg h1,if_pos ⟨h2,hm⟩,HU.out]
    have hup:=B6k (HRD.out.below YAt.stays (KBT hb2 hbc)) hl H HHB.out
    rw[HU.out] at hup
    have hU1:U.1.length≤100000000000:=by
     have:=C7j (how:=H) (f:=r.bytes.length) (l:=r.bytes) (acc:=[])
     have e:unpGo H r.bytes.length r.bytes []=U:=HU.out
     rw[e] at this
     simp at this
     omega
    have hU2:∀ n∈U.1,n≤18446744073709551615:=by
     have:=C7i (how:=H) (f:=r.bytes.length) (l:=r.bytes) (acc:=[]) (by simp)
     have e:unpGo H r.bytes.length r.bytes []=U:=HU.out
     rw[e] at this
     exact this
    rw[hm] at t1
    clear h1 h2 hm
    go_wp2_with fail
    refine hup.mono ?_
    rintro e w3 ⟨a3,n3,c3,rfl,hr3,hb3⟩
    have hea:=B3k hr3.rdU hU2 hU1 hfn.1 hfn.2
    clear t0 t1 t2 t3 t4
    go_wp2_with fail
    refine hea.mono ?_
    rintro e w4 ⟨a4,n4,c4,rfl,hr4,hb4⟩
    have hB4:=KBT (KBT (KBT hb2 hbc) hb3) hb4
    have hz:w.heap.size≤w3.heap.size:=(KBT (KBT hb2 hbc) hb3).size
    go_wp2_with fail
    go_ret2
    exact⟨a4,n4,c4,by rw[HT.out];rfl,by rw[HT.out];exact hr4.mono hz,hB4⟩
   | false=>
    have HT:Hid (R=([],8)):=by show _=_;rw[←HR.out];unfold tnN;rw[HH.out,if_neg h1,if_neg (by rw[hm];simp)]
    rw[hm] at t1
    clear h1 h2 hm
    go_wp2_with fail
    go_ret2
    exact⟨none,0,0,by rw[HT.out];rfl,by rw[HT.out];exact Row.nil _ _ _,KBT hb2 hbc⟩
  ·have e2:(r.how == 2)=false:=beq_eq_false_iff_ne.2 h2
   have HT:Hid (R=([],8)):=by show _=_;rw[←HR.out];unfold tnN;rw[HH.out,if_neg h1,if_neg (fun h=>h2 h.1)]
   clear h1 h2
   go_wp2_with fail
   go_ret2
   exact⟨none,0,0,by rw[HT.out];rfl,by rw[HT.out];exact Row.nil _ _ _,KBT hb2 hbc⟩
end L
end Go.Proofs.YtcagbdokbnpdfaaGreatDoor
