import Derived.Test.YtgaoojpakjjdnaaGreatDoorX14
set_option maxHeartbeats 32000000
set_option maxRecDepth 100000
set_option linter.unusedVariables false
namespace Go.Proofs.YtgaoojpakjjdnaaGreatDoor
namespace L
open Go.RowKit
def C0h (ms:List MI)(d:Nat)(W0 w:World)(x:FI)(y z:VL (LB d))(e:Ending)(w':World):Prop:=
 ∃ t:VL (LB d),e = .returned (.tuple #[.agg #[.int .i64 t.number,t.p1.v,t.p2.v,t.p3.v],.int .i64 0])∧VL.pl (LB.pl d) t=A6y (jnB ms d) ms x (VL.pl (LB.pl d) y) (VL.pl (LB.pl d) z)∧OwnV (ekB d) (OwnB W0.heap.size d) w' W0.heap.size t∧OwnV (ekB d) (OT d) w' W0.heap.size y∧
  From w (VL.fp (LB.fp d) y++VL.fp (LB.fp d) z) (VL.fp (LB.fp d) t)∧FrB (VL.fp (LB.fp d) y++VL.fp (LB.fp d) z) w w'
theorem C8h {d:Nat}{W0 w:World}{ms:List MI}{y z:VL (LB d)}(h:MetIn d W0 w y z)(am:Option Addr)(nm cm:Nat)(ae:Option Addr)(ne ce:Nat)(x:FI)(hm:x.many=false)(hk:x.kind≠10) :
  Calls Tryz.prog 106 #[.agg #[.slice am nm cm,.slice ae ne ce],vFI x,.agg #[.int .i64 y.number,y.p1.v,y.p2.v,y.p3.v],.agg #[.int .i64 z.number,z.p1.v,z.p2.v,z.p3.v]] w fun e w'=>C0h ms d W0 w x y z e w':=by
 have HE:Hid (A6y (jnB ms d) ms x (VL.pl (LB.pl d) y) (VL.pl (LB.pl d) z)=VL.pl (LB.pl d) z):=by
  show _=_
  unfold A6y
  rw[hm,if_neg (by simp),if_neg hk]
 unfold vFI
 rw[hm]
 have au:(x.kind==10)=false:=beq_eq_false_iff_ne.2 hk
 obtain⟨nu,bi,ak,su,⟨a1,n1,c1⟩,⟨a2,n2,c2⟩,⟨a3,n3,c3⟩⟩:=y
 obtain⟨mu,bj,aj,sv,⟨b1,m1,d1⟩,⟨b2,m2,d2⟩,⟨b3,m3,d3⟩⟩:=z
 have ag:Below w.heap.size w (((((w.alloc (.cells #[.slice am nm cm,.slice ae ne ce] 25)).alloc (.cells #[.string (S x.name),.int .i64 x.number,.int .i64 x.kind,.string (S x.type),.bool false,.int .i64 x.choice] 40)).alloc (.cells #[.int .i64 nu,.slice a1 n1 c1,.slice a2 n2 c2,.slice a3 n3 c3] 62)).alloc (.cells #[.int .i64 mu,.slice b1 m1 d1,.slice b2 m2 d2,.slice b3 m3 d3] 62)).alloc (.cells #[.int .i64 mu,.slice b1 m1 d1,.slice b2 m2 d2,.slice b3 m3 d3] 62)):=(((((Below.refl _ _).alloc (Nat.le_refl _) _).alloc (by simp) _).alloc (by simp;omega) _).alloc (by simp;omega) _).alloc (by simp;omega) _
 have HZ:Hid _:=h.hz.below ag
 have HY:Hid _:=h.hy.below ag
 have ah:Hid _:=ag
 have ac:=h.once
 clear h hm ag
 unfold PV.v
 go_enter Tryz.func106,Tryz.ntmps106
 go_wp2_with fail
 refine bodyPost_ret (v:=.tuple #[.agg #[.int .i64 mu,.slice b1 m1 d1,.slice b2 m2 d2,.slice b3 m3 d3],.int .i64 0]) (by simp[results,Tryz.results106,go_sem, *]) rfl ?_
 refine⟨⟨mu,bj,aj,sv,(b1,m1,d1),(b2,m2,d2),(b3,m3,d3)⟩,rfl,HE.out.symm,HZ.out,HY.out.shy,fun k=>?_,FrB.of_below ah.out⟩
 have:=ac k
 rw[List.count_append]
 exact⟨by omega,fun _=>by omega⟩
theorem C8i {d:Nat}{W0 w:World}{ms:List MI}{y z:VL (LB d)}(h:MetIn d W0 w y z)(am:Option Addr)(nm cm:Nat)(ae:Option Addr)(ne ce:Nat)(x:FI)(hm:x.many=true)(dv:y.number=z.number) :
  Calls Tryz.prog 106 #[.agg #[.slice am nm cm,.slice ae ne ce],vFI x,.agg #[.int .i64 y.number,y.p1.v,y.p2.v,y.p3.v],.agg #[.int .i64 z.number,z.p1.v,z.p2.v,z.p3.v]] w fun e w'=>C0h ms d W0 w x y z e w':=by
 have HE:Hid (A6y (jnB ms d) ms x (VL.pl (LB.pl d) y) (VL.pl (LB.pl d) z)=⟨y.number,y.bits++z.bits,y.bytes.map Prod.fst++z.bytes.map Prod.fst,y.subs.map (LB.pl d)++z.subs.map (LB.pl d)⟩):=by
  show _=_
  unfold A6y
  rw[hm,if_pos rfl]
  rfl
 unfold vFI
 rw[hm]
 obtain⟨nu,bi,ah,su,⟨a1,n1,c1⟩,⟨a2,n2,c2⟩,⟨a3,n3,c3⟩⟩:=y
 obtain⟨mu,bj,au,sv,⟨b1,m1,d1⟩,⟨b2,m2,d2⟩,⟨b3,m3,d3⟩⟩:=z
 have eu:Hid (nu=mu):=dv
 clear dv
 have a8:(bi.length+bj.length)*8≤140737488355328∧(ah.length+au.length)*24≤140737488355328∧(su.length+sv.length)*48≤140737488355328:=by
  have h0:=h.len
  have h1:=A5t (fun s=>1+jWB d s) (fun _=>by omega) (su.map (LB.pl d))
  have h2:=A5t (fun s=>1+jWB d s) (fun _=>by omega) (sv.map (LB.pl d))
  simp only[jW,VL.pl,List.length_map] at h0 h1 h2
  omega
 obtain⟨fo,hl2,fq⟩:=a8
 obtain⟨W5,bu⟩:∃ W5,Hid (W5=((((w.alloc (.cells #[.slice am nm cm,.slice ae ne ce] 25)).alloc (.cells #[.string (S x.name),.int .i64 x.number,.int .i64 x.kind,.string (S x.type),.bool true,.int .i64 x.choice] 40)).alloc (.cells #[.int .i64 nu,.slice a1 n1 c1,.slice a2 n2 c2,.slice a3 n3 c3] 62)).alloc (.cells #[.int .i64 mu,.slice b1 m1 d1,.slice b2 m2 d2,.slice b3 m3 d3] 62)).alloc (.cells #[.int .i64 0,.slice none 0 0,.slice none 0 0,.slice none 0 0] 62)):=⟨_,rfl⟩
 have cj:Below w.heap.size w W5:=by rw[bu.out];exact(((((Below.refl _ _).alloc (Nat.le_refl _) _).alloc (by simp) _).alloc (by simp;omega) _).alloc (by simp;omega) _).alloc (by simp;omega) _
 obtain⟨x0,x1,x2,x3,x4,xz⟩:=D6t w (.cells #[.slice am nm cm,.slice ae ne ce] 25) (.cells #[.string (S x.name),.int .i64 x.number,.int .i64 x.kind,.string (S x.type),.bool true,.int .i64 x.choice] 40) (.cells #[.int .i64 nu,.slice a1 n1 c1,.slice a2 n2 c2,.slice a3 n3 c3] 62) (.cells #[.int .i64 mu,.slice b1 m1 d1,.slice b2 m2 d2,.slice b3 m3 d3] 62) (.cells #[.int .i64 0,.slice none 0 0,.slice none 0 0,.slice none 0 0] 62)
 rw[←bu.out] at x2 x3 x4 xz
 have z5:=Nat.le_of_eq xz
 have gc:=Nat.le_of_eq xz.symm
 have dr:=h.hy.lt
 have dt:=h.hz.lt
 have ac:=h.once
 have f6:=h.below.size
 have oy:=h.hy.below cj
 have oz:=h.hz.below cj
 have aj:∀ k∈own1 (a1,n1,c1),k∉own1 (a2,n2,c2)∧k∉own1 (a3,n3,c3)∧k<w.heap.size:=fun k hk=>⟨((A8d (show(VL.fp (LB.fp d) ⟨nu,bi,ah,su,(a1,n1,c1),(a2,n2,c2),(a3,n3,c3)⟩).count k≤1 by have:=ac k;omega)).1 hk).1,((A8d (show(VL.fp (LB.fp d) ⟨nu,bi,ah,su,(a1,n1,c1),(a2,n2,c2),(a3,n3,c3)⟩).count k≤1 by have:=ac k;omega)).1 hk).2.1,(h.hy.r1.own1 k hk).2⟩
 have ag:∀ k∈own1 (a2,n2,c2),k∉own1 (a1,n1,c1)∧k∉own1 (a3,n3,c3)∧k<w.heap.size:=fun k hk=>⟨((A8d (show(VL.fp (LB.fp d) ⟨nu,bi,ah,su,(a1,n1,c1),(a2,n2,c2),(a3,n3,c3)⟩).count k≤1 by have:=ac k;omega)).2.1 hk).1,((A8d (show(VL.fp (LB.fp d) ⟨nu,bi,ah,su,(a1,n1,c1),(a2,n2,c2),(a3,n3,c3)⟩).count k≤1 by have:=ac k;omega)).2.1 hk).2.1,(h.hy.r2.own1 k hk).2⟩
 have ak:∀ k∈own1 (a3,n3,c3),k∉own1 (a1,n1,c1)∧k∉own1 (a2,n2,c2)∧k<w.heap.size:=fun k hk=>⟨((A8d (show(VL.fp (LB.fp d) ⟨nu,bi,ah,su,(a1,n1,c1),(a2,n2,c2),(a3,n3,c3)⟩).count k≤1 by have:=ac k;omega)).2.2 hk).1,((A8d (show(VL.fp (LB.fp d) ⟨nu,bi,ah,su,(a1,n1,c1),(a2,n2,c2),(a3,n3,c3)⟩).count k≤1 by have:=ac k;omega)).2.2 hk).2.1,(h.hy.r3.own1 k hk).2⟩
 have nz:∀ k∈VL.fp (LB.fp d) (⟨mu,bj,au,sv,(b1,m1,d1),(b2,m2,d2),(b3,m3,d3)⟩:VL (LB d)),k∉own1 (a1,n1,c1)∧k∉own1 (a2,n2,c2)∧k∉own1 (a3,n3,c3)∧k<w.heap.size:=fun k hk=>by
  have h1:=ac k
  have h2:=List.count_pos_iff.2 hk
  rw[A7z] at h1
  refine⟨fun hm=>?_,fun hm=>?_,fun hm=>?_,(dt k hk).2⟩ <;> (have h3:=List.count_pos_iff.2 hm;dsimp only at h1;omega)
 have ns:∀ k∈su.flatMap (LB.fp d),k∉own1 (a1,n1,c1)∧k∉own1 (a2,n2,c2)∧k∉own1 (a3,n3,c3)∧k<w.heap.size:=fun k hk=>by
  have h1:=ac k
  have h2:=List.count_pos_iff.2 hk
  rw[A7z] at h1
  refine⟨fun hm=>?_,fun hm=>?_,fun hm=>?_,(dr k (by unfold VL.fp;simp[List.mem_append,hk])).2⟩ <;> (have h3:=List.count_pos_iff.2 hm;dsimp only at h1;omega)
 have fh:W0.heap.size≤W5.heap.size:=by omega
 have HN:Hid ((∀ k∈VL.fp (LB.fp d) (⟨mu,bj,au,sv,(b1,m1,d1),(b2,m2,d2),(b3,m3,d3)⟩:VL (LB d)),k∉own1 (a1,n1,c1)∧k∉own1 (a2,n2,c2)∧k∉own1 (a3,n3,c3)∧k<w.heap.size)∧(∀ k∈su.flatMap (LB.fp d),k∉own1 (a1,n1,c1)∧k∉own1 (a2,n2,c2)∧k∉own1 (a3,n3,c3)∧k<w.heap.size)):=⟨nz,ns⟩
 have aw:Hid _:=ac
 have bt:Hid _:=oy
 have dg:Hid _:=oz
 have dx:Row ekU W5 W0.heap.size (PV.v (b1,m1,d1)) bj:=oz.r1
 have dy:Row ekZ W5 W0.heap.size (PV.v (b2,m2,d2)) au:=oz.r2
 have dz:Row (ekB d) W5 W0.heap.size (PV.v (b3,m3,d3)) sv:=oz.r3
 have d9:Row ekU W5 W0.heap.size (PV.v (a1,n1,c1)) bi:=oy.r1
 have hv2:Row ekZ W5 W0.heap.size (PV.v (a2,n2,c2)) ah:=oy.r2
 have hv3:Row (ekB d) W5 W0.heap.size (PV.v (a3,n3,c3)) su:=oy.r3
 have f9:∀ k∈own1 (b1,m1,d1),k∉own1 (a1,n1,c1)∧k∉own1 (a2,n2,c2)∧k∉own1 (a3,n3,c3)∧k<w.heap.size:=fun k hk=>nz k (by unfold VL.fp;simp[hk])
 have eh:∀ k∈own1 (b2,m2,d2),k∉own1 (a1,n1,c1)∧k∉own1 (a2,n2,c2)∧k∉own1 (a3,n3,c3)∧k<w.heap.size:=fun k hk=>nz k (by unfold VL.fp;simp[hk])
 have cu:∀ k∈own1 (b3,m3,d3),k∉own1 (a1,n1,c1)∧k∉own1 (a2,n2,c2)∧k∉own1 (a3,n3,c3)∧k<w.heap.size:=fun k hk=>nz k (by unfold VL.fp;simp[hk])
 clear h x0 x1 dr dt ac oy oz hm xz nz ns
 unfold PV.v
 go_enter Tryz.func106,Tryz.ntmps106
 go_wp2_with (at_builtin;rw[←bu.out];refine A9b rfl ekU _ _ rfl W0.heap.size (a1,n1,c1) (b1,m1,d1) bi bj (by decide) rfl d9 rfl dx (by decide) fo fh ?_)
 intro e1 f1 g1 w1 R1 O1 F1 M1
 have gg:=F1.size
 have y2:=(F1.blk (by omega) (fun hm=>by have:=(aj _ hm).2.2;omega)).trans x2
 have y3:=(F1.blk (by omega) (fun hm=>by have:=(aj _ hm).2.2;omega)).trans x3
 have y4:=(F1.blk (by omega) (fun hm=>by have:=(aj _ hm).2.2;omega)).trans x4
 obtain⟨s0,s1,s2,s3⟩:=A4i y2
 obtain⟨t0,t1,t2,t3⟩:=A4i y3
 have q1:=A0b y3 1
 obtain⟨W6,bv⟩:∃ W6,Hid (W6=w1.setCell ⟨w.heap.size+3,1,none⟩ (.slice e1 f1 g1)):=⟨_,rfl⟩
 have G1:FrB [w.heap.size+3] w1 W6:=by rw[bv.out];exact A1d y3 (by decide)
 have k3:W6.heap[w.heap.size+3]?=some (.cells #[.int .i64 mu,.slice e1 f1 g1,.slice b2 m2 d2,.slice b3 m3 d3] 62 (0,0)):=by rw[bv.out];exact heap_setCell_same w1 _ 1 _ _ _ y3
 have ft:=G1.size
 have k2:=(G1.blk (show w.heap.size+2<w1.heap.size by omega) (by simp)).trans y2
 have k4:=(G1.blk (show w.heap.size+4<w1.heap.size by omega) (by simp)).trans y4
 have bk:=Row.frB (p:=(a2,n2,c2)) (Row.frB (p:=(a2,n2,c2)) hv2 F1 fun k hk=>(ag k hk).1) G1 fun k hk hm=>by rw[List.mem_singleton] at hm;have:=(ag k hk).2.2;omega
 have bg:=Row.frB (p:=(b2,m2,d2)) (Row.frB (p:=(b2,m2,d2)) dy F1 fun k hk=>(eh k hk).1) G1 fun k hk hm=>by rw[List.mem_singleton] at hm;have:=(eh k hk).2.2.2;omega
 have fj:W0.heap.size≤W6.heap.size:=by omega
 have dh:Hid _:=R1
 have ew:Hid _:=O1
 have cw:Hid _:=F1
 have eo:Hid _:=M1
 have df:Hid _:=G1
 clear x2 x3 x4 d9 dx R1 O1 F1 M1 G1 y2 y3 y4 hv2 dy
 go_wp2_with (at_builtin;rw[←bv.out];refine A9b rfl ekZ _ _ rfl W0.heap.size (a2,n2,c2) (b2,m2,d2) ah au (by decide) rfl bk rfl bg (by decide) hl2 fj ?_)
 intro e2 f2 g2 w2 R2 O2 F2 M2
 clear s0 s1 s2 s3 t0 t1 t2 t3 q1
 have gh:=F2.size
 have y2:=(F2.blk (by omega) (fun hm=>by have:=(ag _ hm).2.2;omega)).trans k2
 have y3:=(F2.blk (by omega) (fun hm=>by have:=(ag _ hm).2.2;omega)).trans k3
 have y4:=(F2.blk (by omega) (fun hm=>by have:=(ag _ hm).2.2;omega)).trans k4
 obtain⟨s0,s1,s2,s3⟩:=A4i y2
 obtain⟨t0,t1,t2,t3⟩:=A4i y3
 have q1:=A0b y3 2
 obtain⟨W7,bw⟩:∃ W7,Hid (W7=w2.setCell ⟨w.heap.size+3,2,none⟩ (.slice e2 f2 g2)):=⟨_,rfl⟩
 have G2:FrB [w.heap.size+3] w2 W7:=by rw[bw.out];exact A1d y3 (by decide)
 have j3:W7.heap[w.heap.size+3]?=some (.cells #[.int .i64 mu,.slice e1 f1 g1,.slice e2 f2 g2,.slice b3 m3 d3] 62 (0,0)):=by rw[bw.out];exact heap_setCell_same w2 _ 2 _ _ _ y3
 have fu:=G2.size
 have j2:=(G2.blk (show w.heap.size+2<w2.heap.size by omega) (by simp)).trans y2
 have j4:=(G2.blk (show w.heap.size+4<w2.heap.size by omega) (by simp)).trans y4
 have cg:∀ {α:Type}{E:EK α}{p:PV}{l:List α},Row E W5 W0.heap.size p.v l→(∀ k∈own1 p,k∉own1 (a1,n1,c1)∧k∉own1 (a2,n2,c2)∧k<w.heap.size)→Row E W7 W0.heap.size p.v l:=fun hr hn=>by
  refine Row.frB (Row.frB (Row.frB (Row.frB hr cw.out fun k hk=>(hn k hk).1) df.out fun k hk hm=>?_) F2 fun k hk=>(hn k hk).2.1) G2 fun k hk hm=>?_ <;> (rw[List.mem_singleton] at hm;have:=(hn k hk).2.2;omega)
 have bp:=cg (p:=(a3,n3,c3)) hv3 fun k hk=>ak k hk
 have bh:=cg (p:=(b3,m3,d3)) dz fun k hk=>⟨(cu k hk).1,(cu k hk).2.1,(cu k hk).2.2.2⟩
 have fk:W0.heap.size≤W7.heap.size:=by omega
 have di:Hid _:=R2
 have fc:Hid _:=O2
 have ei:Hid _:=F2
 have et:Hid _:=M2
 have ej:Hid _:=G2
 clear cg k2 k3 k4 bk bg R2 O2 F2 M2 G2 y2 y3 y4 hv3 dz
 go_wp2_with (at_builtin;rw[←bw.out];refine A9b rfl (ekB d) _ _ rfl W0.heap.size (a3,n3,c3) (b3,m3,d3) su sv (by show(29:TypeId)≠5;decide) rfl bp rfl bh (show 1≤48 by omega) fq fk ?_)
 intro e3 f3 g3 w3 R3 O3 F3 M3
 clear s0 s1 s2 s3 t0 t1 t2 t3 q1
 have gi:=F3.size
 have y3:=(F3.blk (by omega) (fun hm=>by have:=(ak _ hm).2.2;omega)).trans j3
 have y4:=(F3.blk (by omega) (fun hm=>by have:=(ak _ hm).2.2;omega)).trans j4
 obtain⟨t0,t1,t2,t3⟩:=A4i y3
 have q1:=A0b y3 3
 obtain⟨r0,r1,r2,r3⟩:=A4i y4
 have q2:=A0b y4 0
 have q3:=A0b y4 1
 have q4:=A0b y4 2
 have q5:=A0b y4 3
 obtain⟨W8,dp⟩:∃ W8,Hid (W8=w3.setCell ⟨w.heap.size+3,3,none⟩ (.slice e3 f3 g3)):=⟨_,rfl⟩
 have G3:FrB [w.heap.size+3] w3 W8:=by rw[dp.out];exact A1d y3 (by decide)
 have fw:=G3.size
 have i4:=(G3.blk (show w.heap.size+4<w3.heap.size by omega) (by simp)).trans y4
 have G4:=fr4 i4 (x0:=.int .i64 mu) (x1:=.slice e1 f1 g1) (x2:=.slice e2 f2 g2) (x3:=.slice e3 f3 g3)
 have T3:=G3.trans G4 (H:=[w.heap.size+3,w.heap.size+4]) (fun i hi=>by simp at hi;simp[hi]) (fun i hi=>.inl (by simp at hi;simp[hi]))
 have T2:=(ej.out.trans F3 (H:=[w.heap.size+3,w.heap.size+4]++own1 (a3,n3,c3)) (fun i hi=>by simp at hi;simp[hi]) (fun i hi=>.inl (List.mem_append_right _ hi))).trans T3 (H:=[w.heap.size+3,w.heap.size+4]++own1 (a3,n3,c3)) (fun i hi=>hi) (fun i hi=>.inl (List.mem_append_left _ hi))
 have T1:=(df.out.trans ei.out (H:=[w.heap.size+3,w.heap.size+4]++own1 (a3,n3,c3)++own1 (a2,n2,c2)) (fun i hi=>by simp at hi;simp[hi]) (fun i hi=>.inl (List.mem_append_right _ hi))).trans T2 (H:=[w.heap.size+3,w.heap.size+4]++own1 (a3,n3,c3)++own1 (a2,n2,c2)) (fun i hi=>hi) (fun i hi=>.inl (List.mem_append_left _ hi))
 have T0:=cw.out.trans T1 (H:=[w.heap.size+3,w.heap.size+4]++own1 (a3,n3,c3)++own1 (a2,n2,c2)++own1 (a1,n1,c1)) (fun i hi=>List.mem_append_right _ hi) (fun i hi=>.inl (List.mem_append_left _ hi))
 have nT:∀ k,k<w.heap.size∨W5.heap.size≤k→k∉[w.heap.size+3,w.heap.size+4]:=fun k hk hm=>by
  simp only[List.mem_cons,List.mem_nil_iff,or_false] at hm
  omega
 have br:∀ k,k<w.heap.size∨W5.heap.size≤k→k∉own1 (a3,n3,c3)→k∉[w.heap.size+3,w.heap.size+4]++own1 (a3,n3,c3):=fun k hk h3 hm=>by
  rcases List.mem_append.1 hm with hm|hm
  ·exact nT k hk hm
  ·exact h3 hm
 have bq:∀ k,k<w.heap.size∨W5.heap.size≤k→k∉own1 (a3,n3,c3)→k∉own1 (a2,n2,c2)→k∉[w.heap.size+3,w.heap.size+4]++own1 (a3,n3,c3)++own1 (a2,n2,c2):=fun k hk h3 h2 hm=>by
  rcases List.mem_append.1 hm with hm|hm
  ·exact br k hk h3 hm
  ·exact h2 hm
 have ee:∀ k,k<w.heap.size→k∉own1 (a3,n3,c3)→k∉own1 (a2,n2,c2)→k∉own1 (a1,n1,c1)→k∉[w.heap.size+3,w.heap.size+4]++own1 (a3,n3,c3)++own1 (a2,n2,c2)++own1 (a1,n1,c1):=fun k hk h3 h2 h1 hm=>by
  rcases List.mem_append.1 hm with hm|hm
  ·exact bq k (.inl hk) h3 h2 hm
  ·exact h1 hm
 have P1:∀ k∈own1 (e1,f1,g1),k∈own1 (a1,n1,c1)∨W5.heap.size≤k:=fun k hk=>eo.out k hk
 have P2:∀ k∈own1 (e2,f2,g2),k∈own1 (a2,n2,c2)∨w1.heap.size≤k:=fun k hk=>(et.out k hk).imp id fun h=>by omega
 have P3:∀ k∈own1 (e3,f3,g3),k∈own1 (a3,n3,c3)∨w2.heap.size≤k:=fun k hk=>(M3 k hk).imp id fun h=>by omega
 have L1:∀ k∈own1 (e1,f1,g1),k<w1.heap.size:=fun k hk=>(Row.own1 (p:=(e1,f1,g1)) dh.out k hk).2
 have L2:∀ k∈own1 (e2,f2,g2),k<w2.heap.size:=fun k hk=>(Row.own1 (p:=(e2,f2,g2)) di.out k hk).2
 have HT:Hid _:=T0
 have dl:Hid _:=T1
 have dm:Hid _:=T2
 have dn:Hid _:=T3
 have fx:Hid _:=G4
 have fe:Hid _:=R3
 have fd:Hid _:=O3
 have HP:Hid ((∀ k∈own1 (e1,f1,g1),k∈own1 (a1,n1,c1)∨W5.heap.size≤k)∧(∀ k∈own1 (e2,f2,g2),k∈own1 (a2,n2,c2)∨w1.heap.size≤k)∧(∀ k∈own1 (e3,f3,g3),k∈own1 (a3,n3,c3)∨w2.heap.size≤k)∧(∀ k∈own1 (e1,f1,g1),k<w1.heap.size)∧(∀ k∈own1 (e2,f2,g2),k<w2.heap.size)):=⟨P1,P2,P3,L1,L2⟩
 clear j2 j3 j4 bp bh R3 O3 F3 M3 G3 G4 y3 y4 i4 T0 T1 T2 T3 P1 P2 P3 L1 L2
 go_wp2_with fail
 refine bodyPost_ret (v:=.tuple #[.agg #[.int .i64 mu,.slice e1 f1 g1,.slice e2 f2 g2,.slice e3 f3 g3],.int .i64 0]) (by simp[results,Tryz.results106,go_sem, *]) rfl ?_
 rw[←dp.out]
 obtain⟨P1,P2,P3,L1,L2⟩:=HP.out
 refine⟨⟨mu,bi++bj,ah++au,su++sv,(e1,f1,g1),(e2,f2,g2),(e3,f3,g3)⟩,rfl,?_,?_,?_,?_,?_⟩
 ·rw[HE.out]
  simp[VL.pl,eu.out]
 ·refine⟨?_,?_,fun zz hz=>?_,?_,fun s hs=>?_⟩
  ·refine Row.frB (p:=(e1,f1,g1)) dh.out dl.out fun k hk=>?_
   rcases P1 k hk with h1|h1
   ·exact bq k (.inl (aj k h1).2.2) (aj k h1).2.1 (aj k h1).1
   ·exact bq k (.inr h1) (fun hm=>by have:=(ak k hm).2.2;omega) (fun hm=>by have:=(ag k hm).2.2;omega)
  ·refine Row.frB (p:=(e2,f2,g2)) di.out dm.out fun k hk=>?_
   rcases P2 k hk with h1|h1
   ·exact br k (.inl (ag k h1).2.2) (ag k h1).2.1
   ·exact br k (.inr (by omega)) (fun hm=>by have:=(ak k hm).2.2;omega)
  ·rcases List.mem_append.1 hz with hz|hz
   ·exact(bt.out.r2y zz hz).frY HT.out
   ·exact(dg.out.r2y zz hz).frY HT.out
  ·refine Row.frB (p:=(e3,f3,g3)) fe.out dn.out fun k hk=>?_
   rcases P3 k hk with h1|h1
   ·exact nT k (.inl (ak k h1).2.2)
   ·exact nT k (.inr (by omega))
  ·rcases List.mem_append.1 hs with hs|hs
   ·refine OwnB.fr d _ _ _ s (bt.out.r3s s hs) HT.out fun k hk=>?_
    obtain⟨h1,h2,h3,h4⟩:=HN.out.2 k (List.mem_flatMap.2 ⟨s,hs,hk⟩)
    exact ee k h4 h3 h2 h1
   ·refine OwnB.fr d _ _ _ s (dg.out.r3s s hs) HT.out fun k hk=>?_
    obtain⟨h1,h2,h3,h4⟩:=HN.out.1 k (by unfold VL.fp;simp only[List.mem_append,List.mem_flatMap];exact .inr ⟨s,hs,hk⟩)
    exact ee k h4 h3 h2 h1
 ·refine⟨?_,?_,fun zz hz=>(bt.out.r2y zz hz).frY HT.out,?_,fun _ _=>trivial⟩
  ·exact Row.frB (p:=(a1,n1,c1)) ew.out dl.out fun k hk=>bq k (.inl (aj k hk).2.2) (aj k hk).2.1 (aj k hk).1
  ·exact Row.frB (p:=(a2,n2,c2)) fc.out dm.out fun k hk=>br k (.inl (ag k hk).2.2) (ag k hk).2.1
  ·exact Row.frB (p:=(a3,n3,c3)) fd.out dn.out fun k hk=>nT k (.inl (ak k hk).2.2)
 ·intro k
  have dw:=aw.out k
  rw[List.count_append]
  rw[A7z,A7z] at dw ⊢
  rw[A7z]
  dsimp only at dw ⊢
  rw[A2x]
  have o1:=A9w (e1,f1,g1) k
  have o2:=A9w (e2,f2,g2) k
  have o3:=A9w (e3,f3,g3) k
  have c1':0<(own1 (e1,f1,g1)).count k→(0<(own1 (a1,n1,c1)).count k∨W5.heap.size≤k)∧k<w1.heap.size:=fun h=>⟨(P1 k (A1e h)).imp List.count_pos_iff.2 id,L1 k (A1e h)⟩
  have fy:0<(own1 (e2,f2,g2)).count k→(0<(own1 (a2,n2,c2)).count k∨w1.heap.size≤k)∧k<w2.heap.size:=fun h=>⟨(P2 k (A1e h)).imp List.count_pos_iff.2 id,L2 k (A1e h)⟩
  have fz:0<(own1 (e3,f3,g3)).count k→(0<(own1 (a3,n3,c3)).count k∨w2.heap.size≤k):=fun h=>(P3 k (A1e h)).imp List.count_pos_iff.2 id
  have u1:0<(own1 (a1,n1,c1)).count k→k<w.heap.size:=fun h=>(aj k (A1e h)).2.2
  have u2:0<(own1 (a2,n2,c2)).count k→k<w.heap.size:=fun h=>(ag k (A1e h)).2.2
  have u3:0<(own1 (a3,n3,c3)).count k→k<w.heap.size:=fun h=>(ak k (A1e h)).2.2
  have u4:0<(su.flatMap (LB.fp d)).count k→k<w.heap.size:=fun h=>(HN.out.2 k (A1e h)).2.2.2
  have u5:0<(sv.flatMap (LB.fp d)).count k→k<w.heap.size:=fun h=>(HN.out.1 k (by unfold VL.fp;exact List.mem_append_right _ (A1e h))).2.2.2
  refine⟨?_,fun _=>?_⟩ <;> omega
 ·refine FrB.trans (FrB.of_below cj:FrB [] w W5) HT.out (fun _ hi=>by simp at hi) (fun i hi=>?_)
  rcases List.mem_append.1 hi with hi|hi
  ·rcases List.mem_append.1 hi with hi|hi
   ·rcases List.mem_append.1 hi with hi|hi
    ·right
     simp only[List.mem_cons,List.mem_nil_iff,or_false] at hi
     omega
    ·exact .inl (List.mem_append_left _ (by unfold VL.fp;simp[hi]))
   ·exact .inl (List.mem_append_left _ (by unfold VL.fp;simp[hi]))
  ·exact .inl (List.mem_append_left _ (by unfold VL.fp;simp[hi]))
def Apt (F:List Nat)(w w' w'':World):Prop:=∃ G,FrB G w' w''∧∀ k∈G,k<w.heap.size∧k∉F
theorem Apt.refl (F:List Nat)(w w':World):Apt F w w' w':=⟨[],FrB.refl _ _,fun k h=>by simp at h⟩
def A2h (kind:Int)(l:List UInt8):Int:=if 4000<l.length then 4 else if kind=8∧Lib.validD l=false then 9 else 0
theorem B9v {w:World}{ao:Option Addr}{cap:Nat}(hao:ao=none→cap=0)(ac:cap≤9223372036854775807) :
  Calls Tryz.prog 104 #[.slice ao 0 cap] w fun e w'=>e = .returned (.bool true)∧Below w.heap.size w w':=by
 have ag:(0:Int)≤(cap:Int):=by omega
 cases ao with
 | none=>
  obtain rfl:=hao rfl
  go_enter Tryz.func104,Tryz.ntmps104
  go_wp2
  go_loopg [0] 1 (fun _ s0 wx=>s0 = .slice none 0 0∧w=wx)
  case atStart=>exact⟨rfl,rfl⟩
  case round=>
   obtain⟨rfl,rfl⟩:=hrel
   go_wp2
   go_ret
   exact⟨rfl,Below.refl _ _⟩
 | some x=>
  go_enter Tryz.func104,Tryz.ntmps104
  go_wp2
  go_loopg [0] 1 (fun _ s0 wx=>s0 = .slice (some x) 0 0∧w=wx)
  case atStart=>exact⟨rfl,rfl⟩
  case round=>
   obtain⟨rfl,rfl⟩:=hrel
   go_wp2
   go_ret
   exact⟨rfl,Below.refl _ _⟩
theorem B9w {w:World}{ao:Option Addr}{n cap:Nat}{l:List UInt8}(h:RdL 1 YAt w (.slice ao n cap) l)(hT:Tabs w) :
  Calls Tryz.prog 104 #[.slice ao n cap] w fun e w'=>e = .returned (.bool (Lib.validD l))∧Below w.heap.size w w':=by
 obtain⟨ac,n',cap',e,h1,h2,h3,h4,h5⟩:=h
 cases e
 unfold maxLen at h3
 by_cases hn:n=0
 ·subst hn
  have hl:l = []:=List.eq_nil_of_length_eq_zero h1
  subst hl
  exact B9v (fun e=>(h4 e).2) h3
 ·obtain⟨y,hy⟩:∃ y,l[0]?=some y:=⟨l[0]'(by omega),List.getElem?_eq_getElem (by omega)⟩
  obtain⟨b,o,rfl,_⟩:=RdL.get (n:=n) (cap:=cap) YAt.plain ⟨ao,n,cap,rfl,h1,h2,by unfold maxLen;exact h3,h4,h5⟩ hy
  exact C7h (fun i x hx=>by have:=h5 _ rfl i x hx;rw[Nat.mul_one,A0d] at this;exact this) h1.symm h2 h3 hT
theorem B4g {w:World}(kind:Int){ao:Option Addr}{n cap:Nat}{l:List UInt8}(h:RdL 1 YAt w (.slice ao n cap) l)(hT:Tabs w) :
  Calls Tryz.prog 133 #[.int .i64 kind,.slice ao n cap] w fun e w'=>e = .returned (.int .i64 (A2h kind l))∧Below w.heap.size w w':=by
 have hv:=B9w h hT
 obtain⟨ag,n',cap',e,h1,h2,h3,h4,h5⟩:=h
 cases e
 have HL:Hid (l.length=n):=h1
 clear h1 h5
 obtain⟨q,Hq⟩:∃ q,Hid (q=Lib.validD l):=⟨_,rfl⟩
 rw[←Hq.out] at hv
 by_cases hm:4000<n
 ·have HR:Hid (A2h kind l=4):=by show _=_;unfold A2h;rw[HL.out,if_pos hm]
  have ac:(4000:Int)<(n:Int):=by omega
  go_enter Tryz.func133,Tryz.ntmps133
  go_wp2
  go_ret
  exact⟨by rw[HR.out];rfl,Below.refl _ _⟩
 ·have ac:¬ ((4000:Int)<(n:Int)):=by omega
  by_cases hk:kind=8
  ·subst hk
   cases q with
   | true=>
    have HR:Hid (A2h 8 l=0):=by show _=_;unfold A2h;rw[HL.out,if_neg hm,←Hq.out,if_neg (by simp)]
    go_enter Tryz.func133,Tryz.ntmps133
    go_wp2_with (go_at_call 104;refine hv.mono ?_;rintro e w1 ⟨rfl,hb1⟩)
    go_ret
    exact⟨by rw[HR.out];rfl,hb1⟩
   | false=>
    have HR:Hid (A2h 8 l=9):=by show _=_;unfold A2h;rw[HL.out,if_neg hm,←Hq.out,if_pos ⟨rfl,rfl⟩]
    go_enter Tryz.func133,Tryz.ntmps133
    go_wp2_with (go_at_call 104;refine hv.mono ?_;rintro e w1 ⟨rfl,hb1⟩)
    go_ret
    exact⟨by rw[HR.out];rfl,hb1⟩
  ·have HR:Hid (A2h kind l=0):=by show _=_;unfold A2h;rw[HL.out,if_neg hm,if_neg (by intro h;exact hk h.1)]
   have hkb:(kind==8)=false:=beq_eq_false_iff_ne.2 hk
   clear hk hv
   go_enter Tryz.func133,Tryz.ntmps133
   go_wp2
   go_ret
   exact⟨by rw[HR.out];rfl,Below.refl _ _⟩
theorem C0r {w:World}{c:Nat}{x:FI}(hc:w.heap[c]?=some (.cells (cFI x) 40 (0,0))){ao:Option Addr}{n cap:Nat}{l:List UInt8}(h:RdL 1 YAt w (.slice ao n cap) l)(hT:Tabs w) :
  Calls Tryz.prog 132 #[.slice ao n cap,.pointer (some ⟨c,0,none⟩)] w fun e w'=>e = .returned (.int .i64 (A2h x.kind l))∧Below w.heap.size w w':=by
 have c2:w.cell? ⟨c,2,none⟩=some (.int .i64 x.kind):=A0a hc 2 _ rfl
 have ac:c<w.heap.size:=(Array.getElem?_eq_some_iff.1 hc).1
 have hf:=B4g x.kind h hT
 go_enter Tryz.func132,Tryz.ntmps132
 go_wp2_with fail
 refine hf.mono ?_
 rintro e w1 ⟨rfl,hb⟩
 go_wp2
 go_ret
 exact⟨rfl,hb⟩
theorem C4s {v:Value}{l:List (List UInt8)}{w:World}{c:Nat}{x:FI}(h:RdL 1 ZAt w v l)(hT:Tabs w)(hc:w.heap[c]?=some (.cells (cFI x) 40 (0,0))) :
  Calls Tryz.prog 131 #[v,.func (.func 132) #[] #[.pointer (some ⟨c,0,none⟩)]] w fun e w'=>e = .returned (.int .i64 (A0x (A2h x.kind) l))∧Below w.heap.size w w':=by
 obtain⟨ao,n,cap,rfl,Hn,ag⟩:=h.shape
 obtain⟨R,HR⟩:∃ R,Hid (R=A0x (A2h x.kind) l):=⟨_,rfl⟩
 rw[←HR.out]
 go_enter Tryz.func131,Tryz.ntmps131
 go_wp2_with fail
 go_loopg [10] n (fun m i wr=>∃ k:Nat,k+m=n∧i = .int .i64 k∧Hid (R=A0x (A2h x.kind) (l.drop k))∧Below w.heap.size w wr)
 case atStart=>exact⟨0,by omega,rfl,HR,Below.refl _ _⟩
 case round=>
  obtain⟨k,hk,rfl,HK,hb⟩:=hrel
  have ah:=(hb.block c (Array.getElem?_eq_some_iff.1 hc).1).trans hc
  by_cases hlt:k<n
  ·obtain⟨a,Ha⟩:∃ a,Hid (l[k]?=some a):=⟨l[k]'(by rw[←Hn.out];exact hlt),List.getElem?_eq_getElem (by rw[←Hn.out];exact hlt)⟩
   obtain⟨b,off,rfl,hat⟩:=(h.below ZAt.stays hb).get ZAt.plain Ha.out
   obtain⟨vz,hz0,hz1⟩:=hat
   rw[Nat.mul_one] at hz0
   have ak:(k:Int)<(n:Int):=by omega
   obtain⟨az,nz,cz,rfl,aj,hnz⟩:=hz1.shape
   have ac:=C0r ah hz1 (hT.below hb)
   have hst:=A9n (f:=A2h x.kind) Ha.out
   generalize hF:A2h x.kind a=F at ac hst
   by_cases hz:F=0
   ·have HX:Hid (R=A0x (A2h x.kind) (l.drop (k+1))):=by
     show _=_
     rw[HK.out,hst,if_pos hz]
    have ez:(F != 0)=false:=by simp[hz]
    clear hst hF hz
    go_wp2_with fail
    refine ac.mono ?_
    rintro e w1 ⟨rfl,hb1⟩
    go_wp2_with fail
    go_roundg (n-(k+1))
    case measure=>omega
    case rel=>exact⟨k+1,by omega,by go_num,HX,hb.trans (hb1.mono hb.size)⟩
   ·have HX:Hid (R=F):=by
     show _=_
     rw[HK.out,hst,if_neg hz]
    have ez:(F != 0)=true:=by simpa using hz
    clear hst hF hz
    go_wp2_with fail
    refine ac.mono ?_
    rintro e w1 ⟨rfl,hb1⟩
    go_wp2
    go_ret
    exact⟨by rw[HX.out];rfl,hb.trans (hb1.mono hb.size)⟩
  ·have HX:Hid (R=0):=by
    show _=_
    rw[HK.out]
    exact A8a (by rw[←Hn.out];omega)
   go_wp2
   go_ret
   exact⟨by rw[HX.out];rfl,hb⟩
theorem C4v {β:Type}{w:World}(x:FI)(v:VI β){a1 a2 a3:Option Addr}{n1 n2 n3 c1 c2 c3:Nat}(h2:RdL 1 ZAt w (.slice a2 n2 c2) v.bytes)(hT:Tabs w) :
  Calls Tryz.prog 130 #[vFI x,.agg #[.int .i64 v.number,.slice a1 n1 c1,.slice a2 n2 c2,.slice a3 n3 c3]] w fun e w'=>e = .returned (.int .i64 (A0x (A2h x.kind) v.bytes))∧Below w.heap.size w w':=by
 have hb2:Below w.heap.size w ((w.alloc (.cells (cFI x) 40)).alloc (.cells #[.int .i64 v.number,.slice a1 n1 c1,.slice a2 n2 c2,.slice a3 n3 c3] 62)):=((Below.refl _ _).alloc (Nat.le_refl _) _).alloc (by simp) _
 have hi:=C4s (x:=x) (h2.below ZAt.stays hb2) (hT.below hb2) (A0l w _ _)
 have ac:=A4s
 unfold cFI at hb2 hi
 unfold vFI
 go_enter Tryz.func130,Tryz.ntmps130
 go_wp2_with fail
 refine hi.mono ?_
 rintro e w1 ⟨rfl,hb1⟩
 go_wp2
 go_ret
 exact⟨rfl,hb2.trans (hb1.mono hb2.size)⟩
def Deeper (d fn:Nat)(cap:Array Value)(name:List UInt8)(f:BI d→Int)(l:List (BI d))(w:World):Prop:=
 ∀ W,Below w.heap.size w W→∀ s∈l,∀ v0 v1,BQ d W v0 v1 s→Calls Tryz.prog fn (#[.string (S name),.agg #[v0,v1]]++cap) W fun e W'=>e = .returned (.int .i64 (f s))∧Below W.heap.size W W'
theorem Deeper.below {d fn:Nat}{cap:Array Value}{name:List UInt8}{f:BI d→Int}{l:List (BI d)}{w w':World}(h:Deeper d fn cap name f l w)(hb:Below w.heap.size w w'):Deeper d fn cap name f l w':=
 fun W hW=>h W (hb.trans (hW.mono hb.size))
theorem C7e {d:Nat}{w:World}{c cx:Nat}{ag:Array Value}{fn:Nat}{x:FI}{f:BI d→Int}{l:List (BI d)}(hc:w.heap[c]?=some (.cells #[.func (.func fn) #[] ag] 113 (0,0)))(hx:w.heap[cx]?=some (.cells (cFI x) 40 (0,0)))(ah:∀ (args:Array Value) (w:World),(callFunc fn args).run Tryz.prog w = .ok (.enter fn args) w){s:BI d}(hs:s∈l){a0 a1:Option Addr}{n0 c0 n1 c1:Nat}(hq:BQ d w (.slice a0 n0 c0) (.slice a1 n1 c1) s)(ac:Deeper d fn ag x.type f l w) :
  Calls Tryz.prog 136 #[.agg #[.slice a0 n0 c0,.slice a1 n1 c1],.pointer (some ⟨c,0,none⟩),.pointer (some ⟨cx,0,none⟩)] w fun e w'=>e = .returned (.int .i64 (f s))∧Below w.heap.size w w':=by
 have k0:w.cell? ⟨c,0,none⟩=some (.func (.func fn) #[] ag):=A0a hc 0 _ rfl
 have k3:w.cell? ⟨cx,3,none⟩=some (.string (S x.type)):=A0a hx 3 _ rfl
 have aj:=(Array.getElem?_eq_some_iff.1 hc).1
 have ak:=(Array.getElem?_eq_some_iff.1 hx).1
 have hb1:Below w.heap.size w (w.alloc (.cells #[.slice a0 n0 c0,.slice a1 n1 c1] 29)):=(Below.refl _ _).alloc (Nat.le_refl _) _
 have hd:=ac _ hb1 s hs _ _ (hq.below hb1)
 clear ac hq
 go_enter Tryz.func136,Tryz.ntmps136
 go_wp2_with fail
 refine hd.mono ?_
 rintro e w1 ⟨rfl,hb2⟩
 go_wp2
 go_ret
 exact⟨rfl,hb1.trans (hb2.mono hb1.size)⟩
theorem D6a {d:Nat}{v:Value}{l:List (BI d)}{w:World}{c cx:Nat}{ah:Array Value}{fn:Nat}{x:FI}{f:BI d→Int}(h:RdL 2 (BAt d) w v l)(hc:w.heap[c]?=some (.cells #[.func (.func fn) #[] ah] 113 (0,0)))(hx:w.heap[cx]?=some (.cells (cFI x) 40 (0,0)))(au:∀ (args:Array Value) (w:World),(callFunc fn args).run Tryz.prog w = .ok (.enter fn args) w)(aj:Deeper d fn ah x.type f l w) :
  Calls Tryz.prog 135 #[v,.func (.func 136) #[] #[.pointer (some ⟨c,0,none⟩),.pointer (some ⟨cx,0,none⟩)]] w fun e w'=>e = .returned (.int .i64 (A0x (f) l))∧Below w.heap.size w w':=by
 obtain⟨ao,n,cap,rfl,Hn,bg⟩:=h.shape
 obtain⟨R,HR⟩:∃ R,Hid (R=A0x (f) l):=⟨_,rfl⟩
 rw[←HR.out]
 go_enter Tryz.func135,Tryz.ntmps135
 go_wp2_with fail
 go_loopg [10] n (fun m i wr=>∃ k:Nat,k+m=n∧i = .int .i64 k∧Hid (R=A0x (f) (l.drop k))∧Below w.heap.size w wr)
 case atStart=>exact⟨0,by omega,rfl,HR,Below.refl _ _⟩
 case round=>
  obtain⟨k,hk,rfl,HK,hb⟩:=hrel
  have aw:=(hb.block c (Array.getElem?_eq_some_iff.1 hc).1).trans hc
  have a8:=(hb.block cx (Array.getElem?_eq_some_iff.1 hx).1).trans hx
  by_cases hlt:k<n
  ·obtain⟨a,Ha⟩:∃ a,Hid (l[k]?=some a):=⟨l[k]'(by rw[←Hn.out];exact hlt),List.getElem?_eq_getElem (by rw[←Hn.out];exact hlt)⟩
   obtain⟨b,off,rfl,hat⟩:=(h.below (BAt.stays d) hb).get (BAt.plain d) Ha.out
   obtain⟨v0,v1,s0,s1,hq⟩:=BQ.of d hat
   obtain⟨a0,n0,c0,a1,n1,c1,rfl,rfl⟩:=hq.shape
   have bh:(k:Int)<(n:Int):=by omega
   obtain⟨W1,ak⟩:∃ W1,Hid (W1=wr.alloc (.cells #[.slice a0 n0 c0,.slice a1 n1 c1] 29)):=⟨_,rfl⟩
   have hb1:Below wr.heap.size wr W1:=by rw[ak.out];exact(Below.refl _ _).alloc (Nat.le_refl _) _
   have ac:Below w.heap.size w W1:=hb.trans (hb1.mono hb.size)
   have ag:=C7e ((hb1.block c (Array.getElem?_eq_some_iff.1 aw).1).trans aw) ((hb1.block cx (Array.getElem?_eq_some_iff.1 a8).1).trans a8) au (A3z Ha.out) (hq.below hb1) (aj.below ac)
   have hst:=A9n (f:=f) Ha.out
   generalize hF:f a=F at ag hst
   clear hq
   by_cases hz:F=0
   ·have HX:Hid (R=A0x (f) (l.drop (k+1))):=by
     show _=_
     rw[HK.out,hst,if_pos hz]
    have ez:(F != 0)=false:=by simp[hz]
    clear hst hF hz hat
    go_wp2_with fail
    rw[←ak.out]
    refine ag.mono ?_
    rintro e w1 ⟨rfl,hb2⟩
    go_wp2_with fail
    go_roundg (n-(k+1))
    case measure=>omega
    case rel=>exact⟨k+1,by omega,by go_num,HX,ac.trans (hb2.mono ac.size)⟩
   ·have HX:Hid (R=F):=by
     show _=_
     rw[HK.out,hst,if_neg hz]
    have ez:(F != 0)=true:=by simpa using hz
    clear hst hF hz hat
    go_wp2_with fail
    rw[←ak.out]
    refine ag.mono ?_
    rintro e w1 ⟨rfl,hb2⟩
    go_wp2
    go_ret
    exact⟨by rw[HX.out];rfl,ac.trans (hb2.mono ac.size)⟩
  ·have HX:Hid (R=0):=by
    show _=_
    rw[HK.out]
    exact A8a (by rw[←Hn.out];omega)
   go_wp2
   go_ret
   exact⟨by rw[HX.out];rfl,hb⟩
theorem C4w {d:Nat}{w:World}(x:FI)(v:VI (BI d)){gd:Nat}{ag:Array Value}{fn:Nat}{f:BI d→Int}{a1 a2 a3:Option Addr}{n1 n2 n3 c1 c2 c3:Nat}(h3:RdL 2 (BAt d) w (.slice a3 n3 c3) v.subs)(hc:w.heap[gd]?=some (.cells #[.func (.func fn) #[] ag] 113 (0,0)))(ah:∀ (args:Array Value) (w:World),(callFunc fn args).run Tryz.prog w = .ok (.enter fn args) w)(ac:Deeper d fn ag x.type f v.subs w) :
  Calls Tryz.prog 134 #[vFI x,.agg #[.int .i64 v.number,.slice a1 n1 c1,.slice a2 n2 c2,.slice a3 n3 c3],.pointer (some ⟨gd,0,none⟩)] w fun e w'=>e = .returned (.int .i64 (A0x f v.subs))∧Below w.heap.size w w':=by
 have hb2:Below w.heap.size w ((w.alloc (.cells (cFI x) 40)).alloc (.cells #[.int .i64 v.number,.slice a1 n1 c1,.slice a2 n2 c2,.slice a3 n3 c3] 62)):=((Below.refl _ _).alloc (Nat.le_refl _) _).alloc (by simp) _
 have hi:=D6a (x:=x) (h3.below (BAt.stays d) hb2) ((hb2.block gd (Array.getElem?_eq_some_iff.1 hc).1).trans hc) (A0l w _ _) ah (ac.below hb2)
 have aj:=A4s
 clear ac
 unfold cFI at hb2 hi
 unfold vFI
 go_enter Tryz.func134,Tryz.ntmps134
 go_wp2_with fail
 refine hi.mono ?_
 rintro e w1 ⟨rfl,hb1⟩
 go_wp2
 go_ret
 exact⟨rfl,hb2.trans (hb1.mono hb2.size)⟩
end L
end Go.Proofs.YtgaoojpakjjdnaaGreatDoor
