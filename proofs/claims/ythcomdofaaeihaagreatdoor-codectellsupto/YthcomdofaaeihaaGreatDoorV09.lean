import Derived.Test.YthcomdofaaeihaaGreatDoorV03
import Derived.Test.YthcomdofaaeihaaGreatDoorV08
set_option maxHeartbeats 32000000
set_option maxRecDepth 100000
set_option linter.unusedVariables false
namespace Go.Proofs.YthcomdofaaeihaaGreatDoor
namespace L
open Go.RowKit
theorem pY {V V':World}{k:Nat}(h:V'.heap[k]?=V.heap[k]?)(i:Nat):V'.cell? ⟨k,i,none⟩=V.cell? ⟨k,i,none⟩:=by
 unfold World.cell?;simp only[h]
def cV (W0:World)(ms:List MI)(am:Option Addr)(nm cm:Nat)(ae:Option Addr)(ne ce:Nat)(d:Nat):Prop:=
 ∀ (w:World) (M:MI) (s:List UInt8) (af:Option Addr) (nf cf:Nat) (ab:Option Addr) (nb cb:Nat) (a b:LB d) (a0:Option Addr) (n0 c0:Nat) (a1:Option Addr) (n1 c1:Nat) (b0:Option Addr) (m0 d0:Nat) (b1:Option Addr) (m1 d1:Nat),
  zB W0 w→M∈ms→RdL 6 FAt W0 (.slice af nf cf) M.fD→vO d a = [.slice a0 n0 c0,.slice a1 n1 c1]→vO d b = [.slice b0 m0 d0,.slice b1 m1 d1]→OwnB W0.heap.size d w a→OwnB W0.heap.size d w b→(∀ k,(LB.fp d a).count k+(LB.fp d b).count k≤1)→
  ShB ms d M (LB.pl d a)→ShB ms d M (LB.pl d b)→jWB d (LB.pl d a)+jWB d (LB.pl d b)≤1000000000→
  Calls Tryz.prog 214 #[.agg #[.slice am nm cm,.slice ae ne ce],.agg #[.string (S s),.slice af nf cf,.slice ab nb cb],.agg #[.slice a0 n0 c0,.slice a1 n1 c1],.agg #[.slice b0 m0 d0,.slice b1 m1 d1]] w fun e w'=>
   ∃ (c:LB d) (e0:Option Addr) (f0 g0:Nat) (e1:Option Addr) (f1 g1:Nat),e = .returned (.agg #[.slice e0 f0 g0,.slice e1 f1 g1])∧Hid (vO d c = [.slice e0 f0 g0,.slice e1 f1 g1])∧Hid (LB.pl d c=jnB ms d M (LB.pl d a) (LB.pl d b))∧Hid (OwnB W0.heap.size d w' c)∧Hid (From w (LB.fp d a++LB.fp d b) (LB.fp d c))∧FrB (LB.fp d a++LB.fp d b) w w'
theorem YC:∀ (d:Nat) (b:LB d),∃ (a0:Option Addr) (n0 c0:Nat) (a1:Option Addr) (n1 c1:Nat),vO d b = [.slice a0 n0 c0,.slice a1 n1 c1]
 | 0,b=>nomatch (b:Empty)
 | _+1,b=>⟨_,_,_,_,_,_,rfl⟩
theorem Qf1{P:Prop}(h:P:=by
 (try dsimp only);first|with_reducible exact hG|with_reducible exact ag _ _ hG|with_reducible exact ag _ _ aj|exact ag _ _ aj|exact yL (yL (yL hG (zG _)) (zG _)) (zG _)):P:=h
theorem D8k {d:Nat}{W0 w:World}{ms:List MI}{y z:VL (LB d)}(h:MetIn d W0 w y z){am:Option Addr}{nm cm:Nat}{ae:Option Addr}{ne ce:Nat}(cj:RdL 3 MAt W0 (.slice am nm cm) ms)(ih:cV W0 ms am nm cm ae ne ce d)(x:FI)(hm:x.many=false)(hk:x.kind=10){M:MI}{s t:LB d}(hM:ms.find? (isN x.type)=some M)(cu:y.subs = [s])(hzs:z.subs = [t])(hs1:ShB ms d M (LB.pl d s))(hs2:ShB ms d M (LB.pl d t)) :
  Calls Tryz.prog 224 #[.agg #[.slice am nm cm,.slice ae ne ce],vFI x,.agg #[.int .i64 y.nU,y.p1.v,y.p2.v,y.p3.v],.agg #[.int .i64 z.nU,z.p1.v,z.p2.v,z.p3.v]] w fun e w'=>ZL ms d W0 w x y z e w':=by
 have HE:Hid (zX (jnB ms d) ms x (VL.pl (LB.pl d) y) (VL.pl (LB.pl d) z)=⟨y.nU,y.bits,y.bytes.map Prod.fst,[jnB ms d M (LB.pl d s) (LB.pl d t)]⟩):=by
  show _=_;unfold zX;rw[hm,zC (by simp),zF hk,hM];have e1:(VL.pl (LB.pl d) y).subs = [LB.pl d s]:=by simp[VL.pl,cu]
  have e2:(VL.pl (LB.pl d) z).subs = [LB.pl d t]:=by simp[VL.pl,hzs]
  rw[e1,e2];rfl
 unfold vFI;rw[hm];have io:=beq_iff_eq.2 hk;obtain⟨nu,bi,dh,su,⟨a1,n1,c1⟩,⟨a2,n2,c2⟩,⟨a3,n3,c3⟩⟩:=y;obtain⟨mu,bj,gg,sv,⟨b1,m1,d1⟩,⟨b2,m2,d2⟩,⟨b3,m3,d3⟩⟩:=z;have cu:su = [s]:=cu;have hzs:sv = [t]:=hzs;subst cu;subst hzs;have gu:∃ j:Nat,yK (fun m:MI=>decide (m.name=x.type)) ms=(j:Int)∧ms[j]?=some M:=by
  have di:=hM;rw[bK] at di;have hlt:=(yG.1 di).1;refine⟨_,?_,di⟩;unfold yK;have hf:ms.findIdx? (fun m=>decide (m.name=x.type))=some (ms.findIdx (fun m=>decide (m.name=x.type))):=by
   rw[bJ];exact⟨hlt,rfl⟩
  rw[hf];rfl
 obtain⟨j,dz,bl⟩:=gu;have fz:=zI (xV bl);obtain⟨bm,om,rfl,dv⟩:=cj.get MAt.plain bl;obtain⟨vf,vb,fk,dw,dx,dp,fj⟩:=dv;rw[xS] at dw dx;obtain⟨af,nf,cf,rfl,_,_⟩:=dp.sH;obtain⟨ab,nb,cb,rfl,_,_⟩:=fj.sH;have im:(j:Int)<(nm:Int):=by have:=(yG.1 bl).1;have:=cj.len.1;omega
 have il:¬ (j:Int)<0:=by omega
 have cw:=h.hy.r3;have df:=h.hz.r3;obtain rfl:n3=1:=cw.len;obtain rfl:m3=1:=df.len;obtain⟨g3,rfl,hc3⟩:=cw.get (k:=0) (a:=s) rfl;obtain⟨h3,rfl,dn⟩:=df.get (k:=0) (a:=t) rfl;obtain⟨s0,s1,s2,s3,s4,s5,hes⟩:=YC d s;obtain⟨t0,t1,t2,t3,t4,t5,cg⟩:=YC d t;have cs0:w.cell? ⟨g3,0,none⟩=some (.slice s0 s1 s2):=by simpa using hc3 0 (.slice s0 s1 s2) (by show(vO d s)[0]?=_;rw[hes];rfl)
 have cs1:w.cell? ⟨g3,1,none⟩=some (.slice s3 s4 s5):=by simpa using hc3 1 (.slice s3 s4 s5) (by show(vO d s)[1]?=_;rw[hes];rfl)
 have gh:w.cell? ⟨h3,0,none⟩=some (.slice t0 t1 t2):=by simpa using dn 0 (.slice t0 t1 t2) (by show(vO d t)[0]?=_;rw[cg];rfl)
 have gi:w.cell? ⟨h3,1,none⟩=some (.slice t3 t4 t5):=by simpa using dn 1 (.slice t3 t4 t5) (by show(vO d t)[1]?=_;rw[cg];rfl)
 have iu:=(cw.own g3 rfl).2;have iw:=(df.own h3 rfl).2;obtain⟨W5,dg⟩:=zM (((((w.alloc (.cells #[.slice (some ⟨bm,om,none⟩) nm cm,.slice ae ne ce] 25)).alloc (.cells #[.string (S x.name),.int .i64 x.nU,.int .i64 x.kind,.string (S x.type),.bool false,.int .i64 x.cE] 47)).alloc (.cells #[.int .i64 nu,.slice a1 n1 c1,.slice a2 n2 c2,.slice (some ⟨g3,0,none⟩) 1 c3] 63)).alloc (.cells #[.int .i64 mu,.slice b1 m1 d1,.slice b2 m2 d2,.slice (some ⟨h3,0,none⟩) 1 d3] 63)).alloc (.cells #[.int .i64 0,.slice none 0 0,.slice none 0 0,.slice none 0 0] 63));have dm:zB w W5:=by rw[dg.out];exact(((((zH _ _).alloc (zG _) _).alloc (by simp) _).alloc (by simp;omega) _).alloc (by simp;omega) _).alloc (by simp;omega) _
 obtain⟨x0,x1,x2,x3,x4,xz⟩:=iM w (.cells #[.slice (some ⟨bm,om,none⟩) nm cm,.slice ae ne ce] 25) (.cells #[.string (S x.name),.int .i64 x.nU,.int .i64 x.kind,.string (S x.type),.bool false,.int .i64 x.cE] 47) (.cells #[.int .i64 nu,.slice a1 n1 c1,.slice a2 n2 c2,.slice (some ⟨g3,0,none⟩) 1 c3] 63) (.cells #[.int .i64 mu,.slice b1 m1 d1,.slice b2 m2 d2,.slice (some ⟨h3,0,none⟩) 1 d3] 63) (.cells #[.int .i64 0,.slice none 0 0,.slice none 0 0,.slice none 0 0] 63);rw[←dg.out] at x0 x1 x2 x3 x4 xz;have z5:=xD xz;have jk:=xD xz.symm;have d9:=h.bL.size;have bn:=h.bL.trans (dm.mono d9);have dr:=h.hy.lt;have dt:=h.hz.lt;have ak:=h.once;have ac:∀ V,zB W5 V→zB W5 V∧V.cell? ⟨w.heap.size,0,none⟩=some (.slice (some ⟨bm,om,none⟩) nm cm)∧V.cell? ⟨w.heap.size,1,none⟩=some (.slice ae ne ce)∧V.cell? ⟨w.heap.size+1,3,none⟩=some (.string (S x.type))∧V.cell? ⟨bm,om+j*3,none⟩=some (.string (S M.name))∧V.cell? ⟨bm,om+j*3+1,none⟩=some (.slice af nf cf)∧V.cell? ⟨bm,om+j*3+2,none⟩=some (.slice ab nb cb):=fun V hV=>by
  obtain⟨u0,u1⟩:=zO ((zN hV).trans x0);have dl:=bn.trans (hV.mono bn.size);exact⟨hV,u0,u1,(tW ((zN hV).trans x1)).2.2.2.1,zQ dl fk,zQ dl dw,zQ dl dx⟩
 have aw:∀ V,zB W5 V→Calls Tryz.prog 28 #[.agg #[.slice (some ⟨bm,om,none⟩) nm cm,.slice ae ne ce],.string (S x.type)] V fun e w'=>e = .returned (.int .i64 (j:Int))∧zB W5 w'∧zB V w':=fun V hV=>by
  have:=fX (ve:=.slice ae ne ce) (cj.bL MAt.sT (bn.trans (hV.mono bn.size))) ⟨ae,ne,ce,rfl⟩ x.type;rw[dz] at this;exact this.mono fun e w' ⟨h1,h2⟩=>⟨h1,zP hV h2,h2⟩
 have aj:zB W5 W5.drew:=(zH _ _).drew;obtain⟨_,D0,D1,D2,D3,D4,D5⟩:=ac _ aj;have ag:∀ V o,zB W5 V→zB W5 (V.alloc o):=fun V o hV=>hV.alloc hV.size o
 have nF:∀ k,k∈LB.fp d s∨k∈LB.fp d t→k∉own1 (a1,n1,c1)∧k∉own1 (a2,n2,c2)∧k≠g3∧k≠h3∧k<w.heap.size∧W0.heap.size≤k:=fun k hk=>by
  have av:=ak k;have gp:k∈VL.fp (LB.fp d) (⟨nu,bi,dh,[s],(a1,n1,c1),(a2,n2,c2),(some ⟨g3,0,none⟩,1,c3)⟩:VL (LB d))∨k∈VL.fp (LB.fp d) (⟨mu,bj,gg,[t],(b1,m1,d1),(b2,m2,d2),(some ⟨h3,0,none⟩,1,d3)⟩:VL (LB d)):=by
   rcases hk with hk|hk
   ·left;unfold VL.fp;simp[hk]
   right;unfold VL.fp;simp[hk]
  rw[sO,sO] at av;simp only[rC,mE,tT] at av;have gw:0<(LB.fp d s).count k+(LB.fp d t).count k:=by
   rcases hk with hk|hk <;> (have:=yD.2 hk;omega)
  have hw:k<w.heap.size∧W0.heap.size≤k:=by
   rcases gp with hk|hk
   ·exact⟨(dr k hk).2,(dr k hk).1⟩
   exact⟨(dt k hk).2,(dt k hk).1⟩
  refine⟨fun hm=>?_,fun hm=>?_,fun hm=>?_,fun hm=>?_,hw.1,hw.2⟩
  ·have:=yD.2 hm;omega
  ·have:=yD.2 hm;omega
  ·have:0<(own1 (some ⟨g3,0,none⟩,1,c3)).count k:=yD.2 (rZ.2 (by rw[hm];rfl));omega
  have:0<(own1 (some ⟨h3,0,none⟩,1,d3)).count k:=yD.2 (rZ.2 (by rw[hm];rfl));omega
 have hlen:jWB d (LB.pl d s)+jWB d (LB.pl d t)≤1000000000:=by
  have h0:=h.len;simp only[jW,VL.pl,wS,tA,tZ,oD] at h0;omega
 have hst:∀ k,(LB.fp d s).count k+(LB.fp d t).count k≤1:=fun k=>by
  have av:=ak k;rw[sO,sO] at av;simp only[rC,mE,tT] at av;omega
 have os:=h.hy.r3s s (zS.2 rfl);have ot:=h.hz.r3s t (zS.2 rfl);have gq:∀ V,zB w V→Calls Tryz.prog 214 #[.agg #[.slice (some ⟨bm,om,none⟩) nm cm,.slice ae ne ce],.agg #[.string (S M.name),.slice af nf cf,.slice ab nb cb],.agg #[.slice s0 s1 s2,.slice s3 s4 s5],.agg #[.slice t0 t1 t2,.slice t3 t4 t5]] V fun e w'=>
   ∃ (c:LB d) (e0:Option Addr) (f0 g0:Nat) (e1:Option Addr) (f1 g1:Nat),e = .returned (.agg #[.slice e0 f0 g0,.slice e1 f1 g1])∧Hid (vO d c = [.slice e0 f0 g0,.slice e1 f1 g1])∧Hid (LB.pl d c=jnB ms d M (LB.pl d s) (LB.pl d t))∧Hid (OwnB W0.heap.size d w' c)∧Hid (From V (LB.fp d s++LB.fp d t) (LB.fp d c))∧FrB (LB.fp d s++LB.fp d t) V w':=fun V hV=>
  ih V M M.name af nf cf ab nb cb s t s0 s1 s2 s3 s4 s5 t0 t1 t2 t3 t4 t5 (h.bL.trans (hV.mono d9)) fz.out dp hes cg (os.bL hV) (ot.bL hV) hst hs1 hs2 hlen
 have dy:=zI h;have bh:=zI nF;have f6:=zI ak;clear h cj ih hm hk hM dz bl dp fj hc3 dn cw df fk dw dx dr dt ak hst os ot hs1 hs2 hes cg xz;unfold PV.v;go_enter Tryz.func224,Tryz.ntmps224;go_wp2_with fail
 rw[←dg.out];go_cut [9] from 36 to 43 (fun s9 wc=>∃ cM:Nat,s9 = .pointer (some ⟨cM,0,none⟩)∧W5.heap.size≤cM∧wc.heap[cM]?=some (.cells #[.string (S M.name),.slice af nf cf,.slice ab nb cb] 35 (0,0))∧zB W5 wc)
 case first=>
  refine wp_region_held_drew (S:=fun V=>zB W5 V) (by kernel_rfl) aj (fun hHeld=>?_);refine zTk 0 rfl ac ?_
  try simp only[Act.put,oS]
  refine zTk 1 rfl ac ?_
  try simp only[Act.put]
  refine zTk 2 rfl ac ?_
  try simp only[Act.put]
  refine zTk 3 rfl ac ?_
  try simp only[Act.put]
  refine zTk 4 rfl ac ?_
  try simp only[Act.put]
  refine rB (i:=5) (j:=8) rfl (fun K hK=>?_) rfl fun K hK=>?_
  ·skip;go_simp;refine(aw _ aj).mono ?_;rintro e wG ⟨rfl,hG,eh⟩;refine hK.out _ _ ?_ (fun hHeld=>?_)
   ·exact Qf1
   clear hK K
   try simp only[zE]
   refine zTk 6 rfl ac ?_
   try simp only[Act.put,oS]
   refine zTk 7 rfl ac ?_
   try simp only[Act.put]
   refine rA (i:=8) rfl fun K hK=>?_
   go_simp;refine hK.out _ _ ?_ (fun hHeld=>?_)
   ·exact Qf1
   clear hK K
   try simp only[zE]
   refine rA (i:=9) rfl fun K hK=>?_
   go_simp;refine hK.out _ _ ?_ (fun hHeld=>?_)
   ·exact Qf1
   clear hK K
   try simp only[zE]
   refine wpAnyH_done (by kernel_rfl) ?_ _;go_wp2_with fail
   go_meet;exact⟨_,rfl,hG.size,yM _ _,ag _ _ hG⟩
  skip;go_simp;refine hK.out _ _ ?_ (fun hHeld=>?_)
  ·exact Qf1
  clear hK K
  try simp only[zE]
  refine rA (i:=5) rfl fun K hK=>?_
  go_simp;refine(aw _ (ag _ _ aj)).mono ?_;rintro e wG ⟨rfl,hG,eh⟩;have xB:=(eh.block W5.heap.size (by simp)).trans (yM _ _);obtain⟨ix,iy,iz⟩:=uG xB;have ie:=zJ xB 0;have ig:=zJ xB 1;have ii:=zJ xB 2;refine hK.out _ _ ?_ (fun hHeld=>?_)
  ·exact Qf1
  clear hK K
  try simp only[zE]
  refine zTk 6 rfl ac ?_
  try simp only[Act.put,oS]
  refine zTk 7 rfl ac ?_
  try simp only[Act.put]
  refine rA (i:=9) rfl fun K hK=>?_
  go_simp;refine hK.out _ _ ?_ (fun hHeld=>?_)
  ·exact Qf1
  clear hK K
  try simp only[zE]
  refine wpAnyH_done (by kernel_rfl) ?_ _;go_wp2_with fail
  go_meet;exact⟨_,rfl,zG _,yO _ _ 2 _ _ _ (yO _ _ 1 _ _ _ (yO _ _ 0 _ _ _ xB)),yL (yL (yL hG (zG _)) (zG _)) (zG _)⟩
 obtain⟨cM,rfl,ik,xM,bu⟩:=hcut;have iq:=bu.size;have ba:=(dm.trans (bu.mono dm.size)).drew;have zD:wc.drew.heap.size=wc.heap.size:=rfl;obtain⟨Q8,ah⟩:∃ Q8:World→Prop,Hid (∀ V,Q8 V↔(V.cell? ⟨w.heap.size,0,none⟩=some (.slice (some ⟨bm,om,none⟩) nm cm)∧V.cell? ⟨w.heap.size,1,none⟩=some (.slice ae ne ce)∧V.cell? ⟨cM,0,none⟩=some (.string (S M.name))∧V.cell? ⟨cM,1,none⟩=some (.slice af nf cf)∧V.cell? ⟨cM,2,none⟩=some (.slice ab nb cb)∧V.cell? ⟨w.heap.size+3,3,none⟩=some (.slice (some ⟨h3,0,none⟩) 1 d3)∧V.cell? ⟨g3,0,none⟩=some (.slice s0 s1 s2)∧V.cell? ⟨g3,1,none⟩=some (.slice s3 s4 s5)∧V.cell? ⟨h3,0,none⟩=some (.slice t0 t1 t2)∧V.cell? ⟨h3,1,none⟩=some (.slice t3 t4 t5))):=⟨_,fun _=>Iff.rfl⟩
 have b5:=fun k (hk:k<W5.heap.size)=>bu.block k hk
 have ei:Q8 wc.drew:=by
  obtain⟨u0,u1⟩:=zO ((b5 _ (by omega)).trans x0);obtain⟨v0,v1,v2⟩:=uG (show wc.drew.heap[cM]?=_ from xM);exact(ah.out _).2 ⟨u0,u1,v0,v1,v2,(wK ((b5 _ (by omega)).trans x3)).2.2.2,zQ ba cs0,zQ ba cs1,zQ ba gh,zQ ba gi⟩
 have ir:cM<wc.drew.heap.size:=by
  rcases mW cM wc.heap.size with h|h
  ·exact h
  rw[bM h] at xM;cases xM
 have nJ:∀ k,w.heap.size≤k∨k=g3∨k=h3→k∉LB.fp d s++LB.fp d t:=fun k hk hm=>by
  obtain⟨_,_,q3,q4,q5,_⟩:=bh.out k (zU.1 hm);omega
 have fd:∀ wJ,FrB (LB.fp d s++LB.fp d t) wc.drew wJ→Q8 wJ:=fun wJ hJ=>by
  have e1:=pY (hJ.blk (k:=w.heap.size) (by omega) (nJ _ (by omega)));have e2:=pY (hJ.blk (k:=cM) (by omega) (nJ _ (by omega)));have e3:=pY (hJ.blk (k:=w.heap.size+3) (by omega) (nJ _ (by omega)));have e4:=pY (hJ.blk (k:=g3) (by omega) (nJ _ (by omega)));have e5:=pY (hJ.blk (k:=h3) (by omega) (nJ _ (by omega)));rw[ah.out,e1,e1,e2,e2,e2,e3,e4,e4,e5,e5];exact(ah.out _).1 ei
 have ee:=fun wJ (hJ:FrB (LB.fp d s++LB.fp d t) wc.drew wJ)=>(hJ.blk (by omega) (nJ _ (by omega))).trans ((b5 _ (by omega)).trans x2)
 have fh:=fun wJ (hJ:FrB (LB.fp d s++LB.fp d t) wc.drew wJ)=>(hJ.blk (by omega) (nJ _ (by omega))).trans ((b5 _ (by omega)).trans x4)
 have ew:∀ V,Q8 V→∀ o,Q8 (V.alloc o):=fun V hV o=>by
  have hb:zB V (V.alloc o):=(zH _ _).alloc (zG _) _;obtain⟨q1,q2,q3,q4,q5,q6,q7,q8,q9,g9⟩:=(ah.out V).1 hV;exact(ah.out _).2 ⟨zQ hb q1,zQ hb q2,zQ hb q3,zQ hb q4,zQ hb q5,zQ hb q6,zQ hb q7,zQ hb q8,zQ hb q9,zQ hb g9⟩
 have fe:∀ V,Q8 V→∀ v,Q8 (V.setCell ⟨w.heap.size+2,3,none⟩ v):=fun V hV v=>by
  have e:=fun k (hk:k≠w.heap.size+2)=>pY (V:=V) (V':=V.setCell ⟨w.heap.size+2,3,none⟩ v) (heap_setCell_other V ⟨w.heap.size+2,3,none⟩ k v hk)
  rw[ah.out,e _ (by omega),e _ (by omega),e _ (by omega),e _ (by omega),e _ (by omega),e _ (by omega),e _ (by omega),e _ (by omega),e _ (by omega),e _ (by omega)];exact(ah.out _).1 hV
 have gj:=(b5 _ (show w.heap.size+2<W5.heap.size by omega)).trans x2;have j3:=(wK gj).2.2.2;clear x0 x1 x2 x3 x4 xM ac aw ag D0 D1 D2 D3 D4 D5 aj bu b5;go_wp2_with fail
 refine wp_region_held_drew (S:=Q8) (by kernel_rfl) ei (fun hHeld=>?_);refine zTk 0 rfl (fun W hSw=>(ah.out W).1 hSw) ?_
 try simp only[Act.put,oS]
 refine zTk 1 rfl (fun W hSw=>(ah.out W).1 hSw) ?_
 try simp only[Act.put]
 refine zTk 2 rfl (fun W hSw=>(ah.out W).1 hSw) ?_
 try simp only[Act.put]
 refine zTk 6 rfl (fun W hSw=>(ah.out W).1 hSw) ?_
 try simp only[Act.put]
 refine zTk 7 rfl (fun W hSw=>(ah.out W).1 hSw) ?_
 try simp only[Act.put]
 refine zTk 8 rfl (fun W hSw=>(ah.out W).1 hSw) ?_
 try simp only[Act.put]
 refine zTk 9 rfl (fun W hSw=>(ah.out W).1 hSw) ?_
 try simp only[Act.put]
 refine rA (i:=3) rfl fun K hK=>?_
 go_simp;refine hK.out _ _ ?_ (fun hHeld=>?_)
 ·(try dsimp only);with_reducible assumption
 clear hK K
 try simp only[zE]
 refine zTk 4 rfl (fun W hSw=>(ah.out W).1 hSw) ?_
 try simp only[Act.put,oS]
 refine zTk 5 rfl (fun W hSw=>(ah.out W).1 hSw) ?_
 try simp only[Act.put]
 refine rA (i:=10) rfl fun K hK=>?_
 go_simp;refine(gq _ ba).mono ?_;rintro e wJ ⟨c,e0,f0,g0,e1,f1,g1,rfl,fu,hpl,fq,au,bc⟩;have eu:=fd wJ bc;have ip:=bc.size;have jF:=ee wJ bc;have eo:=ew wJ eu (.cells #[.slice e0 f0 g0,.slice e1 f1 g1] 29);have jA:=(wT wJ (.cells #[.slice e0 f0 g0,.slice e1 f1 g1] 29) (w.heap.size+2) (by omega)).trans jF;have jf:=zJ jA 3;have gz:=(wK jA).2.2.2;have gl:=fe _ eo (.slice (some ⟨wJ.heap.size,0,none⟩) 1 1);refine hK.out _ _ ?_ (fun hHeld=>?_)
 ·(try dsimp only);with_reducible assumption
 clear hK K
 try simp only[zE]
 refine rA (i:=11) rfl fun K hK=>?_
 go_simp;refine hK.out _ _ ?_ (fun hHeld=>?_)
 ·(try dsimp only);with_reducible assumption
 clear hK K
 try simp only[zE]
 refine zTk 12 rfl (fun W hSw=>(ah.out W).1 hSw) ?_
 try simp only[Act.put,oS]
 refine rA (i:=13) rfl fun K hK=>?_
 go_simp;refine hK.out _ _ ?_ (fun hHeld=>?_)
 ·(try dsimp only);with_reducible assumption
 clear hK K
 try simp only[zE]
 refine wpAnyH_done (by kernel_rfl) ?_ _;obtain⟨WS,bk⟩:=zM ((wJ.alloc (.cells #[.slice e0 f0 g0,.slice e1 f1 g1] 29)).setCell ⟨w.heap.size+2,3,none⟩ (.slice (some ⟨wJ.heap.size,0,none⟩) 1 1));have yF:WS.heap[w.heap.size+2]?=some (.cells #[.int .i64 nu,.slice a1 n1 c1,.slice a2 n2 c2,.slice (some ⟨wJ.heap.size,0,none⟩) 1 1] 63 (0,0)):=by rw[bk.out];exact yO _ _ 3 _ _ _ jA
 have yR:WS.heap[w.heap.size+4]?=some (.cells #[.int .i64 0,.slice none 0 0,.slice none 0 0,.slice none 0 0] 63 (0,0)):=by
  rw[bk.out,heap_setCell_other _ _ _ _ (show w.heap.size+4≠w.heap.size+2 by omega),wT _ _ _ (by omega)];exact fh wJ bc
 have fw:Hid (FrB [w.heap.size+2] (wJ.alloc (.cells #[.slice e0 f0 g0,.slice e1 f1 g1] 29)) WS):=by rw[bk.out];exact uW jA (by decide)
 obtain⟨i5,i6,i7,i9⟩:=wK yF;obtain⟨ja,jb,jc,jd⟩:=wK yR;have je:=zJ yR 0;have jg:=zJ yR 1;have jh:=zJ yR 2;have ji:=zJ yR 3;have fy:Hid _:=fr4 yR (x0:=.int .i64 nu) (x1:=.slice a1 n1 c1) (x2:=.slice a2 n2 c2) (x3:=.slice (some ⟨wJ.heap.size,0,none⟩) 1 1);have f9:Hid (Row (ekB d) (wJ.alloc (.cells #[.slice e0 f0 g0,.slice e1 f1 g1] 29)) W0.heap.size (.slice (some ⟨wJ.heap.size,0,none⟩) 1 1) [c]):=by
  have:=Row.one (base:=W0.heap.size) (ekB d) wJ c (by omega)
  rwa [show(ekB d).enc c = [.slice e0 f0 g0,.slice e1 f1 g1] from fu.out] at this
 have zA:(wJ.alloc (.cells #[.slice e0 f0 g0,.slice e1 f1 g1] 29)).heap.size=wJ.heap.size+1:=by simp
 have HT:Hid (FrB [w.heap.size+2,w.heap.size+4] _ _):=fw.out.trans fy.out (fun i hi=>by simp at hi;simp[hi]) (fun i hi=>.inl (by simp at hi;simp[hi]));have gc:Hid (FrB (LB.fp d s++LB.fp d t) w _):=(((FrB.of_below ba:FrB (LB.fp d s++LB.fp d t) w wc.drew).trans bc (H:=LB.fp d s++LB.fp d t) (fun _ hi=>hi) (fun _ hi=>.inl hi)).on ((zH _ wJ).alloc (zG _) (.cells #[.slice e0 f0 g0,.slice e1 f1 g1] 29))).trans HT.out (fun _ hi=>hi) (fun i hi=>.inr (by simp only[yY,rI,or_false] at hi;omega));have jl:=xD zA;clear zA jF jA eo gl eu yF yR hHeld ee fh ew fe fd jf gz;rw[←bk.out];go_wp2_with fail
 refine bodyPost_ret (v:=.agg #[.int .i64 nu,.slice a1 n1 c1,.slice a2 n2 c2,.slice (some ⟨wJ.heap.size,0,none⟩) 1 1]) (by simp[results,Tryz.results224,go_sem, *]) rfl ?_;have T:=gc.out;have hy:=dy.out.hy;have hz:=dy.out.hz;have lc:∀ k∈LB.fp d c,(k<w.heap.size∨wc.drew.heap.size≤k)∧k<wJ.heap.size:=fun k hk=>⟨(au.out.mem hk).imp (fun h=>(bh.out k (zU.1 h)).2.2.2.2.1) id,(OwnB.inB d fq.out k hk).2⟩
 have g7:∀ k∈own1 (a1,n1,c1),k∉LB.fp d s++LB.fp d t:=fun k hk hm=>(bh.out k (zU.1 hm)).1 hk
 have g8:∀ k∈own1 (a2,n2,c2),k∉LB.fp d s++LB.fp d t:=fun k hk hm=>(bh.out k (zU.1 hm)).2.1 hk
 have hr1:=Row.frB (p:=(a1,n1,c1)) hy.r1 T g7;have hr2:=Row.frB (p:=(a2,n2,c2)) hy.r2 T g8;have bg:∀ zz∈dh,_:=fun zz hz=>(hy.r2y zz hz).frY T
 refine⟨⟨nu,bi,dh,[c],(a1,n1,c1),(a2,n2,c2),(some ⟨wJ.heap.size,0,none⟩,1,1)⟩,rfl,?_,⟨hr1,hr2,bg,?_,fun s' hs'=>?_⟩,⟨hr1,hr2,bg,?_,fun _ _=>trivial⟩,fun k=>?_,?_⟩
 ·rw[HE.out,←hpl.out];rfl
 ·refine Row.frB (p:=(some ⟨wJ.heap.size,0,none⟩,1,1)) f9.out HT.out fun k hk hm=>?_
  have:k=wJ.heap.size:=by simpa [own1,PV.v,Value.ownBlock] using hk
  simp only[yY,rI,or_false] at hm;omega
 ·obtain rfl:=zS.1 hs';refine OwnB.fr d _ _ _ _ (fq.out.bL ((zH _ wJ).alloc (zG _) (.cells #[.slice e0 f0 g0,.slice e1 f1 g1] 29))) HT.out fun k hk hm=>?_
  have:=lc k hk;simp only[yY,rI,or_false] at hm;omega
 ·refine Row.frB (p:=(some ⟨g3,0,none⟩,1,c3)) hy.r3 T fun k hk=>?_
  have:k=g3:=by simpa [own1,PV.v,Value.ownBlock] using hk
  exact nJ k (by omega)
 ·have av:=f6.out k;have hf:=au.out k;rw[tR] at hf ⊢;rw[sO,sO] at av ⊢;rw[sO];simp only[rC,mE,tT] at av ⊢;have o3:=mM (some ⟨wJ.heap.size,0,none⟩,1,1) k;have ij:0<(own1 (some ⟨wJ.heap.size,0,none⟩,1,1)).count k→k=wJ.heap.size:=fun h=>by simpa [own1,PV.v,Value.ownBlock] using wF h
  have u1:0<(own1 (a1,n1,c1)).count k→k<w.heap.size:=fun h=>(Row.own1 (p:=(a1,n1,c1)) hy.r1 k (wF h)).2
  have u2:0<(own1 (a2,n2,c2)).count k→k<w.heap.size:=fun h=>(Row.own1 (p:=(a2,n2,c2)) hy.r2 k (wF h)).2
  have u4:0<(LB.fp d c).count k→(k<w.heap.size∨wc.drew.heap.size≤k)∧k<wJ.heap.size:=fun h=>lc k (wF h)
  refine⟨?_,fun _=>?_⟩ <;> omega
 exact T.mono fun k hk=>by
  rcases zU.1 hk with hk|hk
  ·exact vU _ (by unfold VL.fp;simp[hk])
  exact tI _ (by unfold VL.fp;simp[hk])
end L
end Go.Proofs.YthcomdofaaeihaaGreatDoor
