import Derived.Test.YtgaoojpakjjdnaaGreatDoorV25
set_option maxHeartbeats 32000000
set_option maxRecDepth 100000
set_option linter.unusedVariables false
namespace Go.Proofs.YtgaoojpakjjdnaaGreatDoor
namespace L
open Go.RowKit
theorem C9c {w w':World}{ao:Option Addr}{n cap:Nat}{l:List UInt8}(h:RdA w ao n cap l)(hb:Below w.heap.size w w'):RdA w' ao n cap l:=⟨h.1,h.2.1,h.2.2.1,h.2.2.2.1,fun x hx i hi=>A0c hb (h.2.2.2.2 x hx i hi)⟩
theorem D1c {l:List UInt8}{how:Int}(hh:how=0∨how=1∨how=5)(hz:(A2z l how).2.2=0):1≤(A2z l how).2.1:=by
 unfold A2z at hz ⊢
 split
 ·rename_i h0
  rw[if_pos h0] at hz
  obtain⟨N,K,E,hg⟩:∃ N K E,A4e 0 0 l=(N,K,E):=⟨_,_,_,rfl⟩
  rw[hg] at hz ⊢
  exact(A6j hg).2.2.2.2 hz
 ·rename_i h0
  rw[if_neg h0] at hz
  split
  ·rename_i h1
   rw[if_pos h1] at hz
   cases hz
  ·show 1≤A1v how
   rcases hh with h|h|h
   ·exact absurd h h0
   ·subst h;decide
   ·subst h;decide
theorem unp_end {how:Int}{f:Nat}{l:List UInt8}{acc:List Nat}(h:l.length=0):unpGo how f l acc=(acc,0):=by
 cases f with
 | zero=>rfl
 | succ f=>unfold unpGo;rw[if_pos h]
theorem D6r {how:Int}{f:Nat}{l:List UInt8}{acc:List Nat}{A B C:Nat}(h:l.length≠0)(hb:A2z l how=(A,B,C))(hC:C≠0):unpGo how (f+1) l acc=([],C):=by
 unfold unpGo
 rw[if_neg h,hb,if_pos hC]
theorem unp_go {how:Int}{f:Nat}{l:List UInt8}{acc:List Nat}{A B:Nat}(h:l.length≠0)(hb:A2z l how=(A,B,0)):unpGo how (f+1) l acc=unpGo how f (l.drop B) (acc++[A]):=by
 rw[unpGo.eq_2,if_neg h,hb,if_neg (by simp)]
theorem B9e {w:World}{ao:Option Addr}{n cap:Nat}{l:List UInt8}(h:RdL 1 YAt w (.slice ao n cap) l)(hl:l.length≤4000)(how:Int)(hh:how=0∨how=1∨how=5) :
  Calls Tryz.prog 179 #[.int .i64 how,.slice ao n cap] w fun e w'=>∃ (a:Option Addr) (m c:Nat),e = .returned (.tuple #[.slice a m c,.int .i64 (((unpR how l).2:Nat):Int)])∧Row ekU w' w.heap.size (.slice a m c) (unpR how l).1∧Below w.heap.size w w':=by
 have hr:=D5a h
 have HN:Hid (n=l.length):=h.len.1
 have hn:n≤4000:=by rw[HN.out];exact hl
 have hkb:=C2a how w
 have bh:B8d how=true:=by rcases hh with h|h|h <;> subst h <;> decide
 rw[bh] at hkb
 obtain⟨R,HR⟩:∃ R,Hid (unpR how l=R):=⟨_,rfl⟩
 rw[HR.out]
 have HH:Hid (how=0∨how=1∨how=5):=hh
 have bp:Hid (RdA w ao n cap l):=hr
 clear h hl hh bh hr
 go_enter Tryz.func179,Tryz.ntmps179
 go_wp2_with fail
 refine hkb.mono ?_
 rintro e w1 ⟨rfl,rfl⟩
 clear hkb
 go_wp2_with fail
 go_loopg [1,6] n (fun gm s1 s6 wr=>∃ (k f:Nat) (a1:Option Addr) (a2:Option Addr) (m2 c2:Nat) (acc:List Nat),k+gm=n∧gm≤f∧s1 = .slice a1 (n-k) (cap-k)∧s6 = .slice a2 m2 c2∧Hid (RdA w a1 (n-k) (cap-k) (l.drop k))∧Row ekU wr w.heap.size (.slice a2 m2 c2) acc∧acc.length≤k∧Hid (unpGo how f (l.drop k) acc=R)∧Below w.heap.size w wr)
 case atStart=>exact⟨0,n,ao,none,0,0,[],by omega,Nat.le_refl _,rfl,rfl,bp,Row.nil _ _ _,by simp,by rw[HN.out];exact HR.out,Below.refl _ _⟩
 case round=>
  obtain⟨k,f,a1,a2,m2,c2,acc,hk,hf,rfl,rfl,HA,hrow,cw,HU,hb⟩:=hrel
  have HL:Hid ((l.drop k).length=n-k):=by show _=_;rw[List.length_drop,←HN.out]
  by_cases hlt:k<n
  ·have au:decide ((0:Int)<((n-k:Nat):Int))=true:=by simp;omega
   obtain⟨A,B,C,Hb⟩:∃ A B C,Hid (A2z (l.drop k) how=(A,B,C)):=⟨_,_,_,rfl⟩
   obtain⟨bw,ba,cg,cj⟩:=B1r Hb.out
   rw[HL.out] at ba
   have hgb:∀ V,Below w.heap.size w V→Calls Tryz.prog 177 #[.slice a1 (n-k) (cap-k),.int .i64 how] V fun e w'=>e = .returned (.tuple #[.int .u64 (A:Int),.int .i64 (B:Int),.int .i64 (C:Int)])∧V=w':=fun V hV=>B4p (C9c HA.out hV) how Hb.out
   have bg:=hgb wr hb
   obtain⟨f',rfl⟩:∃ f',f=f'+1:=⟨f-1,by omega⟩
   have hne:(l.drop k).length≠0:=by rw[HL.out];omega
   by_cases hC:C=0
   ·subst hC
    have cu:1≤B:=by
     have:=D1c (l:=l.drop k) HH.out (by rw[Hb.out])
     rw[Hb.out] at this
     exact this
    have ac:Hid (unpGo how f' ((l.drop k).drop B) (acc++[A])=R):=by show _=_;rw[←HU.out,unp_go hne Hb.out]
    obtain⟨a3,bu,ag⟩:=A7w HA.out (show B≤n-k from ba) .i64
    have ah:Hid (RdA w a3 (n-(k+B)) (cap-(k+B)) (l.drop (k+B))):=by
     have e1:n-k-B=n-(k+B):=by omega
     have e2:cap-k-B=cap-(k+B):=by omega
     rw[e1,e2,List.drop_drop] at ag
     exact ag
    have e1:n-k-B=n-(k+B):=by omega
    have e2:cap-k-B=cap-(k+B):=by omega
    rw[e1,e2] at bu
    have bq:Hid (unpGo how f' (l.drop (k+B)) (acc++[A])=R):=by rw[←List.drop_drop];exact ac
    obtain⟨X1,aj⟩:∃ X1,Hid (X1=(wr.alloc (.cells #[.int .u64 (A:Int)] 63)).drew):=⟨_,rfl⟩
    have bc:Below wr.heap.size wr X1:=by rw[aj.out];exact((Below.refl _ _).alloc (Nat.le_refl _) _).drew
    have bv:X1.heap[wr.heap.size]?=some (.cells #[.int .u64 (A:Int)] 63 (0,0)):=by rw[aj.out];exact heap_alloc_new wr _
    have aw:=A8o (E:=ekU) (y0:=A) bv rfl
    have bn:=hrow.below bc
    have ak:Below w.heap.size w X1:=KBT hb bc
    have hlen:(acc.length+([A]:List Nat).length)*ekU.bytes≤140737488355328:=by show(_+1)*8≤_;omega
    have hown:=bn.own
    clear ag hne Hb e1 e2
    go_upto_region 5 with fail
    go_wp2_with fail
    refine bg.mono ?_
    rintro e w2 ⟨rfl,rfl⟩
    go_upto_region 8 with fail
    refine wp_region_held_drew (S:=fun _=>True) (by kernel_rfl) trivial (fun hHeld=>?_)
    refine tK (i:=0) (v:=?vu1) rfl ⟨by rfl,?hyu1⟩ ?_
    case hyu1=>(intro W hSw;(try dsimp only at hSw);go_simp;first|done|with_reducible rfl)
    try simp only[pT,Act.put]
    refine tK (i:=1) (v:=?vu2) rfl ⟨by rfl,?hyu2⟩ ?_
    case hyu2=>(intro W hSw;(try dsimp only at hSw);go_simp;first|done|with_reducible rfl)
    try simp only[pT,Act.put]
    refine tK (i:=4) (v:=?vu3) rfl ⟨by rfl,?hyu3⟩ ?_
    case hyu3=>(intro W hSw;(try dsimp only at hSw);go_simp;first|done|with_reducible rfl)
    try simp only[pT,Act.put]
    refine tK (i:=5) (v:=?vu4) rfl ⟨by rfl,?hyu4⟩ ?_
    case hyu4=>(intro W hSw;(try dsimp only at hSw);go_simp;first|done|with_reducible rfl)
    try simp only[pT,Act.put]
    refine tK (i:=6) (v:=?vu5) rfl ⟨by rfl,?hyu5⟩ ?_
    case hyu5=>(intro W hSw;(try dsimp only at hSw);go_simp;first|done|with_reducible rfl)
    try simp only[pT,Act.put]
    refine rA (i:=2) rfl fun K hK=>?_
    go_simp
    rw[←aj.out]
    refine hK.out _ _ ?_ (fun hHeld=>?_)
    ·(try dsimp only);try exact trivial
    clear hK K
    try simp only[pT,Act.put]
    refine rA (i:=3) rfl fun K hK=>?_
    skip
    refine A7i (by rfl) ekU _ _ (by rfl) w.heap.size (.slice a2 m2 c2) acc [A] (by rfl) bn (some ⟨wr.heap.size,0,none⟩) 1 1 (by rfl) rfl (fun h=>by cases h) aw (by decide) hlen ak.size ?_
    intro v5 w5 bk bt
    obtain⟨a5,n5,c5,rfl,H5⟩:=bk.shape'
    have br:Below w.heap.size w w5:=ak.grown bt ak.size (fun k hk=>(hown k hk).1)
    refine hK.out _ _ ?_ (fun hHeld=>?_)
    ·(try dsimp only);try exact trivial
    clear hK K
    try simp only[pT,Act.put]
    refine tK (i:=7) (v:=?vu6) rfl ⟨by rfl,?hyu6⟩ ?_
    case hyu6=>(intro W hSw;(try dsimp only at hSw);go_simp;first|done|with_reducible rfl)
    try simp only[pT,Act.put]
    refine tK (i:=8) (v:=?vu7) rfl ⟨by rfl,?hyu7⟩ ?_
    case hyu7=>(intro W hSw;(try dsimp only at hSw);go_simp;first|done|with_reducible rfl)
    try simp only[pT,Act.put]
    refine wpAnyH_done (by kernel_rfl) ?_ _
    go_wp2_with fail
    go_roundg (n-(k+B))
    case measure=>omega
    case rel=>exact⟨k+B,f',a3,a5,n5,c5,acc++[A],by omega,by omega,rfl,rfl,ah,bk,by rw[List.length_append];simp;omega,bq,br⟩
   ·have ec:((C:Int) != 0)=true:=by simp;omega
    have ac:Hid (R=([],C)):=by show _=_;rw[←HU.out,D6r hne Hb.out hC]
    clear hC hne Hb
    go_wp2_with fail
    refine bg.mono ?_
    rintro e w2 ⟨rfl,rfl⟩
    go_wp2_with fail
    go_ret2
    exact⟨none,0,0,by rw[ac.out];rfl,by rw[ac.out];exact Row.nil _ _ _,hb⟩
  ·have au:decide ((0:Int)<((n-k:Nat):Int))=false:=by simp;omega
   have ac:Hid (R=(acc,0)):=by show _=_;rw[←HU.out,unp_end (by rw[HL.out];omega)]
   go_wp2_with fail
   go_ret2
   exact⟨a2,m2,c2,by rw[ac.out];rfl,by rw[ac.out];exact hrow,hb⟩
theorem B5y (k:Int)(w:World):Calls Tryz.prog 83 #[.int .i64 k] w fun e w'=>e = .returned (.int .i64 (A3z k))∧w=w':=by
 by_cases h:k=6∨k=7∨k=8∨k=9∨k=10
 ·rcases h with rfl|rfl|rfl|rfl|rfl
  all_goals
   go_enter Tryz.func83,Tryz.ntmps83
   go_wp2
   go_ret
   exact⟨rfl,rfl⟩
 ·have e:A3z k=0:=by unfold A3z;rw[if_neg (by omega),if_neg (by omega),if_neg (by omega)]
  rw[e]
  have b6:(k==6)=false:=beq_eq_false_iff_ne.2 (by omega)
  have b7:(k==7)=false:=beq_eq_false_iff_ne.2 (by omega)
  have b8:(k==8)=false:=beq_eq_false_iff_ne.2 (by omega)
  have b9:(k==9)=false:=beq_eq_false_iff_ne.2 (by omega)
  have ac:(k==10)=false:=beq_eq_false_iff_ne.2 (by omega)
  clear e h
  go_enter Tryz.func83,Tryz.ntmps83
  go_wp2
  go_ret
  exact⟨rfl,rfl⟩
theorem B5z {k:Int}(h:A3z k≠2):A3z k=0∨A3z k=1∨A3z k=5:=by
 unfold A3z at h ⊢
 split
 ·exact .inr (.inl rfl)
 ·split
  ·exact .inr (.inr rfl)
  ·split
   ·rename_i h1 h2 h3
    rw[if_neg h1,if_neg h2,if_pos h3] at h
    exact absurd rfl h
   ·exact .inl rfl
def fdV (x:FI):Value:=.agg #[.string (S x.name),.int .i64 x.number,.int .i64 x.kind,.string (S x.type),.bool x.many,.int .i64 x.choice]
def fdC (x:FI):Array Value:=#[.string (S x.name),.int .i64 x.number,.int .i64 x.kind,.string (S x.type),.bool x.many,.int .i64 x.choice]
def tnN (x:FI)(r:RI):List Nat×Nat:=
 if r.how=A3z x.kind then([A3i x.kind r.bits],0)
 else if r.how=2∧x.many=true then((unpR (A3z x.kind) r.bytes).1.map (A3i x.kind),(unpR (A3z x.kind) r.bytes).2)
 else([],8)
theorem D0g {how:Int}:∀ {f:Nat}{l:List UInt8}{acc:List Nat},(unpGo how f l acc).1.length≤acc.length+f
 | 0,_,_=>by simp[unpGo]
 | f+1,l,acc=>by
  unfold unpGo
  split
  ·simp
  ·split
   ·simp
   ·have:=D0g (how:=how) (f:=f) (l:=l.drop (A2z l how).2.1) (acc:=acc++[(A2z l how).1])
    rw[List.length_append] at this
    simp at this
    omega
theorem D0f {how:Int}:∀ {f:Nat}{l:List UInt8}{acc:List Nat},(∀ n∈acc,n≤18446744073709551615)→∀ n∈(unpGo how f l acc).1,n≤18446744073709551615
 | 0,_,_,h=>by simpa [unpGo] using h
 | f+1,l,acc,h=>by
  unfold unpGo
  split
  ·exact h
  ·split
   ·intro n hn;simp at hn
   ·refine D0f fun n hn=>?_
    rcases List.mem_append.1 hn with hn|hn
    ·exact h n hn
    ·obtain⟨A,B,C,hb⟩:∃ A B C,A2z l how=(A,B,C):=⟨_,_,_,rfl⟩
     rw[List.mem_singleton.1 hn,hb]
     exact(B1r hb).1
theorem B3m {w:World}(x:FI)(hx:A3z x.kind≠2)(r:RI){ao:Option Addr}{n cap:Nat}(h:RdL 1 YAt w (.slice ao n cap) r.bytes)(hl:r.bytes.length≤4000)(hb:r.bits≤18446744073709551615) :
  Calls Tryz.prog 103 #[fdV x,.agg #[.int .i64 r.number,.int .i64 r.how,.int .u64 (r.bits:Int),.slice ao n cap]] w fun e w'=>∃ (a:Option Addr) (m c:Nat),e = .returned (.tuple #[.slice a m c,.int .i64 (((tnN x r).2:Nat):Int)])∧Row ekU w' w.heap.size (.slice a m c) (tnN x r).1∧Below w.heap.size w w':=by
 obtain⟨H,HH⟩:∃ H,Hid (A3z x.kind=H):=⟨_,rfl⟩
 have ak:=B5z hx
 rw[HH.out] at ak
 obtain⟨W2,ah⟩:∃ W2,Hid (W2=(w.alloc (.cells (fdC x) 40)).alloc (.cells #[.int .i64 r.number,.int .i64 r.how,.int .u64 (r.bits:Int),.slice ao n cap] 106)):=⟨_,rfl⟩
 have hb2:Below w.heap.size w W2:=by rw[ah.out];exact((Below.refl _ _).alloc (Nat.le_refl _) _).alloc (by simp) _
 have x1:W2.heap[w.heap.size]?=some (.cells (fdC x) 40 (0,0)):=by rw[ah.out];exact A0o _ _ _
 have x2:W2.heap[w.heap.size+1]?=some (.cells #[.int .i64 r.number,.int .i64 r.how,.int .u64 (r.bits:Int),.slice ao n cap] 106 (0,0)):=by rw[ah.out];exact A0j _ _ _
 have hz2:w.heap.size+2≤W2.heap.size:=by rw[ah.out];simp
 have ag:∀ V,Below W2.heap.size W2 V→(V.cell? ⟨w.heap.size,2,none⟩=some (.int .i64 x.kind)∧V.cell? ⟨w.heap.size,4,none⟩=some (.bool x.many))∧V.cell? ⟨w.heap.size+1,1,none⟩=some (.int .i64 r.how)∧V.cell? ⟨w.heap.size+1,2,none⟩=some (.int .u64 (r.bits:Int))∧V.cell? ⟨w.heap.size+1,3,none⟩=some (.slice ao n cap):=fun V hV=>by
  have y1:=(hV.block _ (by omega)).trans x1
  have y2:=(hV.block _ (by omega)).trans x2
  exact⟨⟨A0a y1 2 _ rfl,A0a y1 4 _ rfl⟩,A0a y2 1 _ rfl,A0a y2 2 _ rfl,A0a y2 3 _ rfl⟩
 have br:∀ V,Calls Tryz.prog 83 #[.int .i64 x.kind] V fun e w'=>e = .returned (.int .i64 H)∧V=w':=fun V=>by
  have:=B5y x.kind V
  rw[HH.out] at this
  exact this
 obtain⟨R,HR⟩:∃ R,Hid (tnN x r=R):=⟨_,rfl⟩
 rw[HR.out]
 have hD:Below W2.heap.size W2 W2.drew:=(Below.refl _ _).drew
 have aw:=B8n x.kind W2.drew
 have bg:Hid (RdL 1 YAt w (.slice ao n cap) r.bytes):=h
 have bc:Hid (H=0∨H=1∨H=5):=ak
 obtain⟨⟨t0,t1⟩,t2,t3,t4⟩:=ag W2.drew hD
 clear h hx ak x1 x2
 unfold fdV
 go_enter Tryz.func103,Tryz.ntmps103
 go_upto_region 1 with fail
 rw[show(#[.string (S x.name),.int .i64 x.number,.int .i64 x.kind,.string (S x.type),.bool x.many,.int .i64 x.choice]:Array Value)=fdC x from rfl,←ah.out]
 go_cut [6,7] from 10 to 15 (fun s6 s7 wc=>∃ fn:Nat,s6 = .int .i64 H∧s7 = .func (.func fn) #[] #[]∧C3h x.kind fn∧Below W2.heap.size W2 wc)
 case first=>
  refine wp_region_held_drew (S:=fun V=>Below W2.heap.size W2 V) (by kernel_rfl) hD (fun hHeld=>?_)
  refine tK (i:=0) (v:=?vn1) rfl ⟨by rfl,?hyn1⟩ ?_
  case hyn1=>(intro W h;have:=ag W h;go_simp;first|done|with_reducible rfl)
  try simp only[pT,Act.put]
  refine tK (i:=1) (v:=?vn2) rfl ⟨by rfl,?hyn2⟩ ?_
  case hyn2=>(intro W h;have:=ag W h;go_simp;first|done|with_reducible rfl)
  try simp only[pT,Act.put]
  refine tK (i:=3) (v:=?vn3) rfl ⟨by rfl,?hyn3⟩ ?_
  case hyn3=>(intro W h;have:=ag W h;go_simp;first|done|with_reducible rfl)
  try simp only[pT,Act.put]
  refine tK (i:=4) (v:=?vn4) rfl ⟨by rfl,?hyn4⟩ ?_
  case hyn4=>(intro W h;have:=ag W h;go_simp;first|done|with_reducible rfl)
  try simp only[pT,Act.put]
  refine rA (i:=2) rfl fun K hK=>?_
  go_simp
  refine(br _).mono ?_
  rintro r w3 ⟨rfl,rfl⟩
  refine hK.out _ _ ?_ (fun hHeld=>?_)
  ·(try dsimp only);with_reducible exact hD
  clear hK K
  try simp only[pT,Act.put]
  refine rA (i:=5) rfl fun K hK=>?_
  go_simp
  refine aw.mono ?_
  rintro r w4 ⟨fn,rfl,hfn,rfl⟩
  refine hK.out _ _ ?_ (fun hHeld=>?_)
  ·(try dsimp only);with_reducible exact hD
  clear hK K
  try simp only[pT,Act.put]
  refine tK (i:=6) (v:=?vn5) rfl ⟨by rfl,?hyn5⟩ ?_
  case hyn5=>(intro W h;have:=ag W h;go_simp;first|done|with_reducible rfl)
  try simp only[pT,Act.put]
  refine tK (i:=7) (v:=?vn6) rfl ⟨by rfl,?hyn6⟩ ?_
  case hyn6=>(intro W h;have:=ag W h;go_simp;first|done|with_reducible rfl)
  try simp only[pT,Act.put]
  refine wpAnyH_done (by kernel_rfl) ?_ _
  go_wp2_with fail
  go_meet
  exact⟨fn,rfl,rfl,hfn,hD⟩
 case rest=>
 obtain⟨fn,rfl,rfl,hfn,ac⟩:=hcut
 clear t0 t1 t2 t3 t4 aw
 obtain⟨⟨t0,t1⟩,t2,t3,t4⟩:=ag wc ac
 clear ag
 have bq:=hfn.1
 have aj:=hfn.2 r.bits wc hb
 by_cases h1:r.how=H
 ·have e1:(r.how==H)=true:=beq_iff_eq.2 h1
  have HT:Hid (R=([A3i x.kind r.bits],0)):=by show _=_;rw[←HR.out];unfold tnN;rw[HH.out,if_pos h1]
  obtain⟨T,au⟩:∃ T,Hid (A3i x.kind r.bits=T):=⟨_,rfl⟩
  rw[au.out] at aj
  rw[au.out] at HT
  clear h1
  go_wp2_with fail
  refine aj.mono ?_
  rintro e w3 ⟨rfl,rfl⟩
  go_wp2_with fail
  go_ret2
  refine⟨some ⟨wc.heap.size,0,none⟩,1,1,by rw[HT.out];rfl,?_,(KBT hb2 ac).alloc (KBT hb2 ac).size _⟩
  rw[HT.out]
  exact Row.one ekU wc T (KBT hb2 ac).size
 ·have e1:(r.how==H)=false:=beq_eq_false_iff_ne.2 h1
  by_cases h2:r.how=2
  ·have e2:(r.how==2)=true:=beq_iff_eq.2 h2
   cases hm:x.many with
   | true=>
    obtain⟨U,HU⟩:∃ U,Hid (unpR H r.bytes=U):=⟨_,rfl⟩
    have HT:Hid (R=(U.1.map (A3i x.kind),U.2)):=by show _=_;rw[←HR.out];unfold tnN;rw[HH.out,if_neg h1,if_pos ⟨h2,hm⟩,HU.out]
    have ba:=B9e (bg.out.below YAt.stays (KBT hb2 ac)) hl H bc.out
    rw[HU.out] at ba
    have bk:U.1.length≤100000000000:=by
     have:=D0g (how:=H) (f:=r.bytes.length) (l:=r.bytes) (acc:=[])
     have e:unpGo H r.bytes.length r.bytes []=U:=HU.out
     rw[e] at this
     simp at this
     omega
    have bn:∀ n∈U.1,n≤18446744073709551615:=by
     have:=D0f (how:=H) (f:=r.bytes.length) (l:=r.bytes) (acc:=[]) (by simp)
     have e:unpGo H r.bytes.length r.bytes []=U:=HU.out
     rw[e] at this
     exact this
    rw[hm] at t1
    clear h1 h2 hm
    go_wp2_with fail
    refine ba.mono ?_
    rintro e w3 ⟨a3,n3,c3,rfl,hr3,hb3⟩
    have bp:=B5p hr3.rdU bn bk hfn.1 hfn.2
    clear t0 t1 t2 t3 t4
    go_wp2_with fail
    refine bp.mono ?_
    rintro e w4 ⟨a4,n4,c4,rfl,hr4,hb4⟩
    have bh:=KBT (KBT (KBT hb2 ac) hb3) hb4
    have hz:w.heap.size≤w3.heap.size:=(KBT (KBT hb2 ac) hb3).size
    go_wp2_with fail
    go_ret2
    exact⟨a4,n4,c4,by rw[HT.out];rfl,by rw[HT.out];exact hr4.mono hz,bh⟩
   | false=>
    have HT:Hid (R=([],8)):=by show _=_;rw[←HR.out];unfold tnN;rw[HH.out,if_neg h1,if_neg (by rw[hm];simp)]
    rw[hm] at t1
    clear h1 h2 hm
    go_wp2_with fail
    go_ret2
    exact⟨none,0,0,by rw[HT.out];rfl,by rw[HT.out];exact Row.nil _ _ _,KBT hb2 ac⟩
  ·have e2:(r.how==2)=false:=beq_eq_false_iff_ne.2 h2
   have HT:Hid (R=([],8)):=by show _=_;rw[←HR.out];unfold tnN;rw[HH.out,if_neg h1,if_neg (fun h=>h2 h.1)]
   clear h1 h2
   go_wp2_with fail
   go_ret2
   exact⟨none,0,0,by rw[HT.out];rfl,by rw[HT.out];exact Row.nil _ _ _,KBT hb2 ac⟩
end L
end Go.Proofs.YtgaoojpakjjdnaaGreatDoor
