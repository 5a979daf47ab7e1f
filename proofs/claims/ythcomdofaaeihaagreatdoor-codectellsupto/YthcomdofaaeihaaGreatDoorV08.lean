import Derived.Test.YthcomdofaaeihaaGreatDoorV05
set_option maxHeartbeats 32000000
set_option maxRecDepth 100000
set_option linter.unusedVariables false
namespace Go.Proofs.YthcomdofaaeihaaGreatDoor
namespace L
open Go.RowKit
variable{W0 w:World}{k d:Nat}{ms:List MI}
theorem iX {α:Type}{ops:Array Oper}{rest:List Oper}{o:Oper}{a:Act}{Q:Exit→Act→World→Prop}(hgd:o.guard=none)(E:EK α)(s x:Operand)
  (ho:o.op = .call { callee:=.builtin .append,args:=#[s,x],argTypes:=#[E.slice,E.slice] })
  (base:Nat) (p q:PV) (l m:List α) (hY:E.elem≠5) (hs:a.eval s=p.v) (hown:Row E w base p.v l) (hx:a.eval x=q.v) (hq:Row E w base q.v m)
  (hby:1≤E.bytes) (hlen:(l.length+m.length)*E.bytes≤140737488355328) (hb:base≤w.heap.size)
  (h:∀ (a':Option Addr) (n' c':Nat) (w':World),Row E w' base (.slice a' n' c') (l++m)→Row E w' base p.v l→FrB (own1 p) w w'→(∀ k∈own1 (a',n',c'),k∈own1 p∨w.heap.size≤k)→wpList Tryz.prog ops Q rest (a.put o.dst (.slice a' n' c')) w'):wpList Tryz.prog ops Q (o::rest) a w:=
 wpList_plain hgd fun _ hK=>by
  obtain⟨a',n',c',w',hr,h1,h2,h3,h4⟩:=D5q E o.type base p q l m hY hown hq hby hlen hb
  unfold Oper.wp execOp
  simp only[ho,resolve,invoke,builtin,Sem.run_bind,Sem.run_pure,Result.andThen_ok,List.map_toArray,wS,tA,hs,hx,hr]
  exact hK _ _ (h a' n' c' w' h1 h2 h3 h4)
theorem wK {g:Nat}{a0 a1 a2 a3:Value}{t:TypeId}(h:w.heap[g]?=some (.cells #[a0,a1,a2,a3] t (0,0))) :
  w.cell? ⟨g,0,none⟩=some a0∧w.cell? ⟨g,1,none⟩=some a1∧w.cell? ⟨g,2,none⟩=some a2∧w.cell? ⟨g,3,none⟩=some a3:=
 ⟨zL h 0 _ rfl,zL h 1 _ rfl,zL h 2 _ rfl,zL h 3 _ rfl⟩
theorem iM (w:World)(o1 o2 o3 o4 o5:Obj):(((((w.alloc o1).alloc o2).alloc o3).alloc o4).alloc o5).heap[w.heap.size]?=some o1∧(((((w.alloc o1).alloc o2).alloc o3).alloc o4).alloc o5).heap[w.heap.size+1]?=some o2∧(((((w.alloc o1).alloc o2).alloc o3).alloc o4).alloc o5).heap[w.heap.size+2]?=some o3∧(((((w.alloc o1).alloc o2).alloc o3).alloc o4).alloc o5).heap[w.heap.size+3]?=some o4∧(((((w.alloc o1).alloc o2).alloc o3).alloc o4).alloc o5).heap[w.heap.size+4]?=some o5∧(((((w.alloc o1).alloc o2).alloc o3).alloc o4).alloc o5).heap.size=w.heap.size+5:=by
 obtain⟨h1,h2,h3,h4,hz⟩:=ZK w o1 o2 o3 o4;refine⟨?_,?_,?_,?_,?_,by simp⟩
 ·rw[wT _ _ _ (by omega)];exact h1
 ·rw[wT _ _ _ (by omega)];exact h2
 ·rw[wT _ _ _ (by omega)];exact h3
 ·rw[wT _ _ _ (by omega)];exact h4
 rw[←hz];exact yM _ o5
theorem oN {β:Type}{f : β→List Nat}{v:VL β}(h:(VL.fp f v).count k≤1):(k∈own1 v.p1→k∉own1 v.p2∧k∉own1 v.p3∧k∉v.subs.flatMap f)∧(k∈own1 v.p2→k∉own1 v.p1∧k∉own1 v.p3∧k∉v.subs.flatMap f)∧(k∈own1 v.p3→k∉own1 v.p1∧k∉own1 v.p2∧k∉v.subs.flatMap f):=by
 rw[sO] at h;refine⟨fun h1=>?_,fun h1=>?_,fun h1=>?_⟩ <;> refine⟨VC (by omega) h1,VC (by omega) h1,VC (by omega) h1⟩
theorem wF {A:List Nat}(h:0<A.count k):k∈A:=yD.1 h
theorem OwnV.lt {base:Nat}{v:VL (LB d)}(h:OwnV (ekB d) (OwnB base d) w base v):∀ k∈VL.fp (LB.fp d) v,base≤k∧k<w.heap.size:=h.inB fun s _ hs=>OwnB.inB d hs
structure MetIn (d:Nat) (W0 w:World) (y z:VL (LB d)):Prop where
 bL:zB W0 w
 hy:OwnV (ekB d) (OwnB W0.heap.size d) w W0.heap.size y
 hz:OwnV (ekB d) (OwnB W0.heap.size d) w W0.heap.size z
 once:∀ k,(VL.fp (LB.fp d) y).count k+(VL.fp (LB.fp d) z).count k≤1
 len:jW (jWB d) (VL.pl (LB.pl d) y)+jW (jWB d) (VL.pl (LB.pl d) z)≤1000000000
def ZL (ms:List MI)(d:Nat)(W0 w:World)(x:FI)(y z:VL (LB d))(e:Ending)(w':World):Prop:=
 ∃ t:VL (LB d),e = .returned (.agg #[.int .i64 t.nU,t.p1.v,t.p2.v,t.p3.v])∧VL.pl (LB.pl d) t=zX (jnB ms d) ms x (VL.pl (LB.pl d) y) (VL.pl (LB.pl d) z)∧OwnV (ekB d) (OwnB W0.heap.size d) w' W0.heap.size t∧OwnV (ekB d) (OT d) w' W0.heap.size y∧
  From w (VL.fp (LB.fp d) y++VL.fp (LB.fp d) z) (VL.fp (LB.fp d) t)∧FrB (VL.fp (LB.fp d) y++VL.fp (LB.fp d) z) w w'
theorem D4h {y z:VL (LB d)}(h:MetIn d W0 w y z)(am:Option Addr)(nm cm:Nat)(ae:Option Addr)(ne ce:Nat)(x:FI)(hm:x.many=false)(hk:x.kind≠10) :
  Calls Tryz.prog 224 #[.agg #[.slice am nm cm,.slice ae ne ce],vFI x,.agg #[.int .i64 y.nU,y.p1.v,y.p2.v,y.p3.v],.agg #[.int .i64 z.nU,z.p1.v,z.p2.v,z.p3.v]] w fun e w'=>ZL ms d W0 w x y z e w':=by
 have HE:Hid (zX (jnB ms d) ms x (VL.pl (LB.pl d) y) (VL.pl (LB.pl d) z)=VL.pl (LB.pl d) z):=by
  show _=_;unfold zX;rw[hm,zC (by simp),zC hk]
 unfold vFI;rw[hm];have au:=beq_eq_false_iff_ne.2 hk;obtain⟨nu,bi,ak,su,⟨a1,n1,c1⟩,⟨a2,n2,c2⟩,⟨a3,n3,c3⟩⟩:=y;obtain⟨mu,bj,aj,sv,⟨b1,m1,d1⟩,⟨b2,m2,d2⟩,⟨b3,m3,d3⟩⟩:=z;have ag:zB w (((((w.alloc (.cells #[.slice am nm cm,.slice ae ne ce] 25)).alloc (.cells #[.string (S x.name),.int .i64 x.nU,.int .i64 x.kind,.string (S x.type),.bool false,.int .i64 x.cE] 47)).alloc (.cells #[.int .i64 nu,.slice a1 n1 c1,.slice a2 n2 c2,.slice a3 n3 c3] 63)).alloc (.cells #[.int .i64 mu,.slice b1 m1 d1,.slice b2 m2 d2,.slice b3 m3 d3] 63)).alloc (.cells #[.int .i64 mu,.slice b1 m1 d1,.slice b2 m2 d2,.slice b3 m3 d3] 63)):=(((((zH _ _).alloc (zG _) _).alloc (by simp) _).alloc (by simp;omega) _).alloc (by simp;omega) _).alloc (by simp;omega) _;have HZ:Hid _:=h.hz.bL ag;have HY:Hid _:=h.hy.bL ag;have ah:Hid _:=ag;have ac:=h.once;clear h hm ag;unfold PV.v;go_enter Tryz.func224,Tryz.ntmps224;go_wp2_with fail
 refine bodyPost_ret (v:=.agg #[.int .i64 mu,.slice b1 m1 d1,.slice b2 m2 d2,.slice b3 m3 d3]) (by simp[results,Tryz.results224,go_sem, *]) rfl ?_;refine⟨⟨mu,bj,aj,sv,(b1,m1,d1),(b2,m2,d2),(b3,m3,d3)⟩,rfl,HE.out.symm,HZ.out,HY.out.shy,fun k=>?_,FrB.of_below ah.out⟩;have:=ac k;rw[tR];exact⟨by omega,fun _=>by omega⟩
theorem D4i {y z:VL (LB d)}(h:MetIn d W0 w y z)(am:Option Addr)(nm cm:Nat)(ae:Option Addr)(ne ce:Nat)(x:FI)(hm:x.many=true) :
  Calls Tryz.prog 224 #[.agg #[.slice am nm cm,.slice ae ne ce],vFI x,.agg #[.int .i64 y.nU,y.p1.v,y.p2.v,y.p3.v],.agg #[.int .i64 z.nU,z.p1.v,z.p2.v,z.p3.v]] w fun e w'=>ZL ms d W0 w x y z e w':=by
 have HE:Hid (zX (jnB ms d) ms x (VL.pl (LB.pl d) y) (VL.pl (LB.pl d) z)=⟨y.nU,y.bits++z.bits,y.bytes.map Prod.fst++z.bytes.map Prod.fst,y.subs.map (LB.pl d)++z.subs.map (LB.pl d)⟩):=by
  show _=_;unfold zX;rw[hm,zF rfl];rfl
 unfold vFI;rw[hm];obtain⟨nu,bi,ah,su,⟨a1,n1,c1⟩,⟨a2,n2,c2⟩,⟨a3,n3,c3⟩⟩:=y;obtain⟨mu,bj,au,sv,⟨b1,m1,d1⟩,⟨b2,m2,d2⟩,⟨b3,m3,d3⟩⟩:=z;have aw:(bi.length+bj.length)*8≤140737488355328∧(ah.length+au.length)*24≤140737488355328∧(su.length+sv.length)*48≤140737488355328:=by
  have h0:=h.len;have h1:=tY (fun s=>1+jWB d s) (fun _=>by omega) (su.map (LB.pl d));have h2:=tY (fun s=>1+jWB d s) (fun _=>by omega) (sv.map (LB.pl d));simp only[jW,VL.pl,yX] at h0 h1 h2;omega
 obtain⟨fy,hl2,fz⟩:=aw;obtain⟨W5,bu⟩:=zM (((((w.alloc (.cells #[.slice am nm cm,.slice ae ne ce] 25)).alloc (.cells #[.string (S x.name),.int .i64 x.nU,.int .i64 x.kind,.string (S x.type),.bool true,.int .i64 x.cE] 47)).alloc (.cells #[.int .i64 nu,.slice a1 n1 c1,.slice a2 n2 c2,.slice a3 n3 c3] 63)).alloc (.cells #[.int .i64 mu,.slice b1 m1 d1,.slice b2 m2 d2,.slice b3 m3 d3] 63)).alloc (.cells #[.int .i64 0,.slice none 0 0,.slice none 0 0,.slice none 0 0] 63));have cw:zB w W5:=by rw[bu.out];exact(((((zH _ _).alloc (zG _) _).alloc (by simp) _).alloc (by simp;omega) _).alloc (by simp;omega) _).alloc (by simp;omega) _
 obtain⟨x0,x1,x2,x3,x4,xz⟩:=iM w (.cells #[.slice am nm cm,.slice ae ne ce] 25) (.cells #[.string (S x.name),.int .i64 x.nU,.int .i64 x.kind,.string (S x.type),.bool true,.int .i64 x.cE] 47) (.cells #[.int .i64 nu,.slice a1 n1 c1,.slice a2 n2 c2,.slice a3 n3 c3] 63) (.cells #[.int .i64 mu,.slice b1 m1 d1,.slice b2 m2 d2,.slice b3 m3 d3] 63) (.cells #[.int .i64 0,.slice none 0 0,.slice none 0 0,.slice none 0 0] 63);rw[←bu.out] at x2 x3 x4 xz;have z5:=xD xz;have gp:=xD xz.symm;have dv:=h.hy.lt;have dw:=h.hz.lt;have ac:=h.once;have gj:=h.bL.size;have oy:=h.hy.bL cw;have oz:=h.hz.bL cw;have aj:∀ k∈own1 (a1,n1,c1),k∉own1 (a2,n2,c2)∧k∉own1 (a3,n3,c3)∧k<w.heap.size:=fun k hk=>⟨((oN (show(VL.fp (LB.fp d) ⟨nu,bi,ah,su,(a1,n1,c1),(a2,n2,c2),(a3,n3,c3)⟩).count k≤1 by have:=ac k;omega)).1 hk).1,((oN (show(VL.fp (LB.fp d) ⟨nu,bi,ah,su,(a1,n1,c1),(a2,n2,c2),(a3,n3,c3)⟩).count k≤1 by have:=ac k;omega)).1 hk).2.1,(h.hy.r1.own1 k hk).2⟩
 have ag:∀ k∈own1 (a2,n2,c2),k∉own1 (a1,n1,c1)∧k∉own1 (a3,n3,c3)∧k<w.heap.size:=fun k hk=>⟨((oN (show(VL.fp (LB.fp d) ⟨nu,bi,ah,su,(a1,n1,c1),(a2,n2,c2),(a3,n3,c3)⟩).count k≤1 by have:=ac k;omega)).2.1 hk).1,((oN (show(VL.fp (LB.fp d) ⟨nu,bi,ah,su,(a1,n1,c1),(a2,n2,c2),(a3,n3,c3)⟩).count k≤1 by have:=ac k;omega)).2.1 hk).2.1,(h.hy.r2.own1 k hk).2⟩
 have ak:∀ k∈own1 (a3,n3,c3),k∉own1 (a1,n1,c1)∧k∉own1 (a2,n2,c2)∧k<w.heap.size:=fun k hk=>⟨((oN (show(VL.fp (LB.fp d) ⟨nu,bi,ah,su,(a1,n1,c1),(a2,n2,c2),(a3,n3,c3)⟩).count k≤1 by have:=ac k;omega)).2.2 hk).1,((oN (show(VL.fp (LB.fp d) ⟨nu,bi,ah,su,(a1,n1,c1),(a2,n2,c2),(a3,n3,c3)⟩).count k≤1 by have:=ac k;omega)).2.2 hk).2.1,(h.hy.r3.own1 k hk).2⟩
 have nz:∀ k∈VL.fp (LB.fp d) (⟨mu,bj,au,sv,(b1,m1,d1),(b2,m2,d2),(b3,m3,d3)⟩:VL (LB d)),k∉own1 (a1,n1,c1)∧k∉own1 (a2,n2,c2)∧k∉own1 (a3,n3,c3)∧k<w.heap.size:=fun k hk=>by
  have h1:=ac k;have h2:=yD.2 hk;rw[sO] at h1;refine⟨fun hm=>?_,fun hm=>?_,fun hm=>?_,(dw k hk).2⟩ <;> (have h3:=yD.2 hm;dsimp only at h1;omega)
 have ns:∀ k∈su.flatMap (LB.fp d),k∉own1 (a1,n1,c1)∧k∉own1 (a2,n2,c2)∧k∉own1 (a3,n3,c3)∧k<w.heap.size:=fun k hk=>by
  have h1:=ac k;have h2:=yD.2 hk;rw[sO] at h1;refine⟨fun hm=>?_,fun hm=>?_,fun hm=>?_,(dv k (by unfold VL.fp;simp[hk])).2⟩ <;> (have h3:=yD.2 hm;dsimp only at h1;omega)
 have fq:W0.heap.size≤W5.heap.size:=by omega
 have HN:Hid ((∀ k∈VL.fp (LB.fp d) (⟨mu,bj,au,sv,(b1,m1,d1),(b2,m2,d2),(b3,m3,d3)⟩:VL (LB d)),k∉own1 (a1,n1,c1)∧k∉own1 (a2,n2,c2)∧k∉own1 (a3,n3,c3)∧k<w.heap.size)∧(∀ k∈su.flatMap (LB.fp d),k∉own1 (a1,n1,c1)∧k∉own1 (a2,n2,c2)∧k∉own1 (a3,n3,c3)∧k<w.heap.size)):=⟨nz,ns⟩
 have av:Hid _:=ac;have bn:Hid _:=oy;have di:Hid _:=oz;have dy:Row ekU W5 W0.heap.size (PV.v (b1,m1,d1)) bj:=oz.r1;have dz:Row ekZ W5 W0.heap.size (PV.v (b2,m2,d2)) au:=oz.r2;have d9:Row (ekB d) W5 W0.heap.size (PV.v (b3,m3,d3)) sv:=oz.r3;have ee:Row ekU W5 W0.heap.size (PV.v (a1,n1,c1)) bi:=oy.r1;have hv2:Row ekZ W5 W0.heap.size (PV.v (a2,n2,c2)) ah:=oy.r2;have hv3:Row (ekB d) W5 W0.heap.size (PV.v (a3,n3,c3)) su:=oy.r3;have gl:∀ k∈own1 (b1,m1,d1),k∉own1 (a1,n1,c1)∧k∉own1 (a2,n2,c2)∧k∉own1 (a3,n3,c3)∧k<w.heap.size:=fun k hk=>nz k (by unfold VL.fp;simp[hk])
 have ei:∀ k∈own1 (b2,m2,d2),k∉own1 (a1,n1,c1)∧k∉own1 (a2,n2,c2)∧k∉own1 (a3,n3,c3)∧k<w.heap.size:=fun k hk=>nz k (by unfold VL.fp;simp[hk])
 have df:∀ k∈own1 (b3,m3,d3),k∉own1 (a1,n1,c1)∧k∉own1 (a2,n2,c2)∧k∉own1 (a3,n3,c3)∧k<w.heap.size:=fun k hk=>nz k (by unfold VL.fp;simp[hk])
 clear h x0 x1 dv dw ac oy oz hm xz nz ns;unfold PV.v;go_enter Tryz.func224,Tryz.ntmps224;go_wp2_with (at_builtin;rw[←bu.out];refine iX rfl ekU _ _ rfl W0.heap.size (a1,n1,c1) (b1,m1,d1) bi bj (by decide) rfl ee rfl dy (by decide) fy fq ?_)
 intro e1 f1 g1 w1 R1 O1 F1 M1;have gq:=F1.size;have y2:=(F1.blk (by omega) (fun hm=>by have:=(aj _ hm).2.2;omega)).trans x2;have y3:=(F1.blk (by omega) (fun hm=>by have:=(aj _ hm).2.2;omega)).trans x3;have y4:=(F1.blk (by omega) (fun hm=>by have:=(aj _ hm).2.2;omega)).trans x4;obtain⟨s0,s1,s2,s3⟩:=wK y2;obtain⟨t0,t1,t2,t3⟩:=wK y3;have q1:=zJ y2 1;obtain⟨W6,cg⟩:=zM (w1.setCell ⟨w.heap.size+2,1,none⟩ (.slice e1 f1 g1));have G1:FrB [w.heap.size+2] w1 W6:=by rw[cg.out];exact uW y2 (by decide)
 have k2:W6.heap[w.heap.size+2]?=some (.cells #[.int .i64 nu,.slice e1 f1 g1,.slice a2 n2 c2,.slice a3 n3 c3] 63 (0,0)):=by rw[cg.out];exact yO w1 _ 1 _ _ _ y2
 have f6:=G1.size;have k3:=(G1.blk (show w.heap.size+3<w1.heap.size by omega) (by simp)).trans y3;have k4:=(G1.blk (show w.heap.size+4<w1.heap.size by omega) (by simp)).trans y4;have bg:=Row.frB (p:=(a2,n2,c2)) (Row.frB (p:=(a2,n2,c2)) hv2 F1 fun k hk=>(ag k hk).1) G1 fun k hk hm=>by rw[zS] at hm;have:=(ag k hk).2.2;omega
 have ba:=Row.frB (p:=(b2,m2,d2)) (Row.frB (p:=(b2,m2,d2)) dz F1 fun k hk=>(ei k hk).1) G1 fun k hk hm=>by rw[zS] at hm;have:=(ei k hk).2.2.2;omega
 have fu:W0.heap.size≤W6.heap.size:=by omega
 have dl:Hid _:=R1;have fe:Hid _:=O1;have dg:Hid _:=F1;have ew:Hid _:=M1;have dh:Hid _:=G1;clear x2 x3 x4 ee dy R1 O1 F1 M1 G1 y2 y3 y4 hv2 dz;go_wp2_with (at_builtin;rw[←cg.out];refine iX rfl ekZ _ _ rfl W0.heap.size (a2,n2,c2) (b2,m2,d2) ah au (by decide) rfl bg rfl ba (by decide) hl2 fu ?_)
 intro e2 f2 g2 w2 R2 O2 F2 M2;clear s0 s1 s2 s3 t0 t1 t2 t3 q1;have gu:=F2.size;have y2:=(F2.blk (by omega) (fun hm=>by have:=(ag _ hm).2.2;omega)).trans k2;have y3:=(F2.blk (by omega) (fun hm=>by have:=(ag _ hm).2.2;omega)).trans k3;have y4:=(F2.blk (by omega) (fun hm=>by have:=(ag _ hm).2.2;omega)).trans k4;obtain⟨s0,s1,s2,s3⟩:=wK y2;obtain⟨t0,t1,t2,t3⟩:=wK y3;have q1:=zJ y2 2;obtain⟨W7,cj⟩:=zM (w2.setCell ⟨w.heap.size+2,2,none⟩ (.slice e2 f2 g2));have G2:FrB [w.heap.size+2] w2 W7:=by rw[cj.out];exact uW y2 (by decide)
 have j2:W7.heap[w.heap.size+2]?=some (.cells #[.int .i64 nu,.slice e1 f1 g1,.slice e2 f2 g2,.slice a3 n3 c3] 63 (0,0)):=by rw[cj.out];exact yO w2 _ 2 _ _ _ y2
 have f9:=G2.size;have j3:=(G2.blk (show w.heap.size+3<w2.heap.size by omega) (by simp)).trans y3;have j4:=(G2.blk (show w.heap.size+4<w2.heap.size by omega) (by simp)).trans y4;have cu:∀ {α:Type}{E:EK α}{p:PV}{l:List α},Row E W5 W0.heap.size p.v l→(∀ k∈own1 p,k∉own1 (a1,n1,c1)∧k∉own1 (a2,n2,c2)∧k<w.heap.size)→Row E W7 W0.heap.size p.v l:=fun hr hn=>by
  refine Row.frB (Row.frB (Row.frB (Row.frB hr dg.out fun k hk=>(hn k hk).1) dh.out fun k hk hm=>?_) F2 fun k hk=>(hn k hk).2.1) G2 fun k hk hm=>?_ <;> (rw[zS] at hm;have:=(hn k hk).2.2;omega)
 have bh:=cu (p:=(a3,n3,c3)) hv3 fun k hk=>ak k hk
 have bc:=cu (p:=(b3,m3,d3)) d9 fun k hk=>⟨(df k hk).1,(df k hk).2.1,(df k hk).2.2.2⟩
 have fw:W0.heap.size≤W7.heap.size:=by omega
 have dm:Hid _:=R2;have fh:Hid _:=O2;have eo:Hid _:=F2;have fd:Hid _:=M2;have eu:Hid _:=G2;clear cu k2 k3 k4 bg ba R2 O2 F2 M2 G2 y2 y3 y4 hv3 d9;go_wp2_with (at_builtin;rw[←cj.out];refine iX rfl (ekB d) _ _ rfl W0.heap.size (a3,n3,c3) (b3,m3,d3) su sv (by show(29:TypeId)≠5;decide) rfl bh rfl bc (show 1≤48 by omega) fz fw ?_)
 intro e3 f3 g3 w3 R3 O3 F3 M3;clear s0 s1 s2 s3 t0 t1 t2 t3 q1;have gw:=F3.size;have y2:=(F3.blk (by omega) (fun hm=>by have:=(ak _ hm).2.2;omega)).trans j2;have y4:=(F3.blk (by omega) (fun hm=>by have:=(ak _ hm).2.2;omega)).trans j4;obtain⟨s0,s1,s2,s3⟩:=wK y2;have q1:=zJ y2 3;obtain⟨r0,r1,r2,r3⟩:=wK y4;have q2:=zJ y4 0;have q3:=zJ y4 1;have q4:=zJ y4 2;have q5:=zJ y4 3;obtain⟨W8,dt⟩:=zM (w3.setCell ⟨w.heap.size+2,3,none⟩ (.slice e3 f3 g3));have G3:FrB [w.heap.size+2] w3 W8:=by rw[dt.out];exact uW y2 (by decide)
 have gc:=G3.size;have i4:=(G3.blk (show w.heap.size+4<w3.heap.size by omega) (by simp)).trans y4;have G4:=fr4 i4 (x0:=.int .i64 nu) (x1:=.slice e1 f1 g1) (x2:=.slice e2 f2 g2) (x3:=.slice e3 f3 g3);have T3:=G3.trans G4 (H:=[w.heap.size+2,w.heap.size+4]) (fun i hi=>by simp at hi;simp[hi]) (fun i hi=>.inl (by simp at hi;simp[hi]));have T2:=(eu.out.trans F3 (H:=[w.heap.size+2,w.heap.size+4]++own1 (a3,n3,c3)) (fun i hi=>by simp at hi;simp[hi]) (fun i hi=>.inl (tI _ hi))).trans T3 (H:=[w.heap.size+2,w.heap.size+4]++own1 (a3,n3,c3)) (fun i hi=>hi) (fun i hi=>.inl (vU _ hi));have T1:=(dh.out.trans eo.out (H:=[w.heap.size+2,w.heap.size+4]++own1 (a3,n3,c3)++own1 (a2,n2,c2)) (fun i hi=>by simp at hi;simp[hi]) (fun i hi=>.inl (tI _ hi))).trans T2 (H:=[w.heap.size+2,w.heap.size+4]++own1 (a3,n3,c3)++own1 (a2,n2,c2)) (fun i hi=>hi) (fun i hi=>.inl (vU _ hi));have T0:=dg.out.trans T1 (H:=[w.heap.size+2,w.heap.size+4]++own1 (a3,n3,c3)++own1 (a2,n2,c2)++own1 (a1,n1,c1)) (fun i hi=>tI _ hi) (fun i hi=>.inl (vU _ hi));have nT:∀ k,k<w.heap.size∨W5.heap.size≤k→k∉[w.heap.size+2,w.heap.size+4]:=fun k hk hm=>by
  simp only[yY,rI,or_false] at hm;omega
 have bl:∀ k,k<w.heap.size∨W5.heap.size≤k→k∉own1 (a3,n3,c3)→k∉[w.heap.size+2,w.heap.size+4]++own1 (a3,n3,c3):=fun k hk h3 hm=>by
  rcases zU.1 hm with hm|hm
  ·exact nT k hk hm
  exact h3 hm
 have bk:∀ k,k<w.heap.size∨W5.heap.size≤k→k∉own1 (a3,n3,c3)→k∉own1 (a2,n2,c2)→k∉[w.heap.size+2,w.heap.size+4]++own1 (a3,n3,c3)++own1 (a2,n2,c2):=fun k hk h3 h2 hm=>by
  rcases zU.1 hm with hm|hm
  ·exact bl k hk h3 hm
  exact h2 hm
 have eh:∀ k,k<w.heap.size→k∉own1 (a3,n3,c3)→k∉own1 (a2,n2,c2)→k∉own1 (a1,n1,c1)→k∉[w.heap.size+2,w.heap.size+4]++own1 (a3,n3,c3)++own1 (a2,n2,c2)++own1 (a1,n1,c1):=fun k hk h3 h2 h1 hm=>by
  rcases zU.1 hm with hm|hm
  ·exact bk k (.inl hk) h3 h2 hm
  exact h1 hm
 have P1:∀ k∈own1 (e1,f1,g1),k∈own1 (a1,n1,c1)∨W5.heap.size≤k:=fun k hk=>ew.out k hk
 have P2:∀ k∈own1 (e2,f2,g2),k∈own1 (a2,n2,c2)∨w1.heap.size≤k:=fun k hk=>(fd.out k hk).imp id fun h=>by omega
 have P3:∀ k∈own1 (e3,f3,g3),k∈own1 (a3,n3,c3)∨w2.heap.size≤k:=fun k hk=>(M3 k hk).imp id fun h=>by omega
 have L1:∀ k∈own1 (e1,f1,g1),k<w1.heap.size:=fun k hk=>(Row.own1 (p:=(e1,f1,g1)) dl.out k hk).2
 have L2:∀ k∈own1 (e2,f2,g2),k<w2.heap.size:=fun k hk=>(Row.own1 (p:=(e2,f2,g2)) dm.out k hk).2
 have HT:Hid _:=T0;have dn:Hid _:=T1;have dp:Hid _:=T2;have dr:Hid _:=T3;have gg:Hid _:=G4;have fk:Hid _:=R3;have fj:Hid _:=O3;have HP:Hid ((∀ k∈own1 (e1,f1,g1),k∈own1 (a1,n1,c1)∨W5.heap.size≤k)∧(∀ k∈own1 (e2,f2,g2),k∈own1 (a2,n2,c2)∨w1.heap.size≤k)∧(∀ k∈own1 (e3,f3,g3),k∈own1 (a3,n3,c3)∨w2.heap.size≤k)∧(∀ k∈own1 (e1,f1,g1),k<w1.heap.size)∧(∀ k∈own1 (e2,f2,g2),k<w2.heap.size)):=⟨P1,P2,P3,L1,L2⟩
 clear j2 j3 j4 bh bc R3 O3 F3 M3 G3 G4 y2 y4 i4 T0 T1 T2 T3 P1 P2 P3 L1 L2;go_wp2_with fail
 refine bodyPost_ret (v:=.agg #[.int .i64 nu,.slice e1 f1 g1,.slice e2 f2 g2,.slice e3 f3 g3]) (by simp[results,Tryz.results224,go_sem, *]) rfl ?_;rw[←dt.out];obtain⟨P1,P2,P3,L1,L2⟩:=HP.out;refine⟨⟨nu,bi++bj,ah++au,su++sv,(e1,f1,g1),(e2,f2,g2),(e3,f3,g3)⟩,rfl,?_,?_,?_,?_,?_⟩
 ·rw[HE.out];simp[VL.pl]
 ·refine⟨?_,?_,fun zz hz=>?_,?_,fun s hs=>?_⟩
  ·refine Row.frB (p:=(e1,f1,g1)) dl.out dn.out fun k hk=>?_
   rcases P1 k hk with h1|h1
   ·exact bk k (.inl (aj k h1).2.2) (aj k h1).2.1 (aj k h1).1
   exact bk k (.inr h1) (fun hm=>by have:=(ak k hm).2.2;omega) (fun hm=>by have:=(ag k hm).2.2;omega)
  ·refine Row.frB (p:=(e2,f2,g2)) dm.out dp.out fun k hk=>?_
   rcases P2 k hk with h1|h1
   ·exact bl k (.inl (ag k h1).2.2) (ag k h1).2.1
   exact bl k (.inr (by omega)) (fun hm=>by have:=(ak k hm).2.2;omega)
  ·rcases zU.1 hz with hz|hz
   ·exact(bn.out.r2y zz hz).frY HT.out
   exact(di.out.r2y zz hz).frY HT.out
  ·refine Row.frB (p:=(e3,f3,g3)) fk.out dr.out fun k hk=>?_
   rcases P3 k hk with h1|h1
   ·exact nT k (.inl (ak k h1).2.2)
   exact nT k (.inr (by omega))
  rcases zU.1 hs with hs|hs
  ·refine OwnB.fr d _ _ _ s (bn.out.r3s s hs) HT.out fun k hk=>?_
   obtain⟨h1,h2,h3,h4⟩:=HN.out.2 k (vL.2 ⟨s,hs,hk⟩);exact eh k h4 h3 h2 h1
  refine OwnB.fr d _ _ _ s (di.out.r3s s hs) HT.out fun k hk=>?_
  obtain⟨h1,h2,h3,h4⟩:=HN.out.1 k (by unfold VL.fp;simp only[zU,vL];exact .inr ⟨s,hs,hk⟩);exact eh k h4 h3 h2 h1
 ·refine⟨?_,?_,fun zz hz=>(bn.out.r2y zz hz).frY HT.out,?_,fun _ _=>trivial⟩
  ·exact Row.frB (p:=(a1,n1,c1)) fe.out dn.out fun k hk=>bk k (.inl (aj k hk).2.2) (aj k hk).2.1 (aj k hk).1
  ·exact Row.frB (p:=(a2,n2,c2)) fh.out dp.out fun k hk=>bl k (.inl (ag k hk).2.2) (ag k hk).2.1
  exact Row.frB (p:=(a3,n3,c3)) fj.out dr.out fun k hk=>nT k (.inl (ak k hk).2.2)
 ·intro k;have dx:=av.out k;rw[tR];rw[sO,sO] at dx ⊢;rw[sO];dsimp only at dx ⊢;rw[bD];have o1:=mM (e1,f1,g1) k;have o2:=mM (e2,f2,g2) k;have o3:=mM (e3,f3,g3) k;have c1':0<(own1 (e1,f1,g1)).count k→(0<(own1 (a1,n1,c1)).count k∨W5.heap.size≤k)∧k<w1.heap.size:=fun h=>⟨(P1 k (wF h)).imp yD.2 id,L1 k (wF h)⟩
  have gh:0<(own1 (e2,f2,g2)).count k→(0<(own1 (a2,n2,c2)).count k∨w1.heap.size≤k)∧k<w2.heap.size:=fun h=>⟨(P2 k (wF h)).imp yD.2 id,L2 k (wF h)⟩
  have gi:0<(own1 (e3,f3,g3)).count k→(0<(own1 (a3,n3,c3)).count k∨w2.heap.size≤k):=fun h=>(P3 k (wF h)).imp yD.2 id
  have u1:0<(own1 (a1,n1,c1)).count k→k<w.heap.size:=fun h=>(aj k (wF h)).2.2
  have u2:0<(own1 (a2,n2,c2)).count k→k<w.heap.size:=fun h=>(ag k (wF h)).2.2
  have u3:0<(own1 (a3,n3,c3)).count k→k<w.heap.size:=fun h=>(ak k (wF h)).2.2
  have u4:0<(su.flatMap (LB.fp d)).count k→k<w.heap.size:=fun h=>(HN.out.2 k (wF h)).2.2.2
  have u5:0<(sv.flatMap (LB.fp d)).count k→k<w.heap.size:=fun h=>(HN.out.1 k (by unfold VL.fp;exact tI _ (wF h))).2.2.2
  refine⟨?_,fun _=>?_⟩ <;> omega
 refine FrB.trans (FrB.of_below cw:FrB [] w W5) HT.out (fun _ hi=>by simp at hi) (fun i hi=>?_);rcases zU.1 hi with hi|hi
 ·rcases zU.1 hi with hi|hi
  ·rcases zU.1 hi with hi|hi
   ·right;simp only[yY,rI,or_false] at hi;omega
   exact .inl (vU _ (by unfold VL.fp;simp[hi]))
  exact .inl (vU _ (by unfold VL.fp;simp[hi]))
 exact .inl (vU _ (by unfold VL.fp;simp[hi]))
end L
end Go.Proofs.YthcomdofaaeihaaGreatDoor
