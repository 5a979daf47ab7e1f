import Derived.Test.YthcomdofaaeihaaGreatDoorV18
import Derived.Test.YthcomdofaaeihaaGreatDoorV03
set_option maxHeartbeats 32000000
set_option maxRecDepth 100000
set_option linter.unusedVariables false
namespace Go.Proofs.YthcomdofaaeihaaGreatDoor
namespace L
open Go.RowKit
theorem rG (w:World)(g:Nat)(i:Nat)(cs:Array Value)(t:TypeId)(v:Value)(h:w.heap[g]?=some (.cells cs t (0,0))):(w.setCell ⟨g,i,none⟩ v).heap[g]?=some (.cells (cs.setIfInBounds i v) t (0,0)):=yO _ _ _ _ _ _ h
theorem FrB.setT {c:Nat}{V W:World}{i:Nat}{v:Value}{cs:Array Value}{t:TypeId}(hc:V.heap[c]?=some (.cells cs t (0,0)))(ht:t≠5)(h:zB V W):FrB [c] V (W.setCell ⟨c,i,none⟩ v):=by
 refine⟨h.os,h.tape,h.output,by simpa using h.size,fun k hk hd=>?_⟩;by_cases e:k=c
 ·subst e;rcases hd with hd|⟨cs',fr,hd⟩
  ·simp at hd
  rw[hc] at hd;simp at hd;exact absurd hd.2.1 ht
 rw[zZ _ _ _ k (show k≠c from e)];exact h.block k hk
theorem C6a {d:Nat}{u w:World}(hsu:Sub u w){am ae:Option Addr}{nm cm ne ce bx ox:Nat}{x:FI}(hx:FAt w ⟨bx,ox,none⟩ x)(hm:x.many=true)(a b:VI (BI d)){a1 a2 a3 b1 b2 b3:Option Addr}{n1 c1 n2 c2 n3 c3 m1 d1 m2 d2 m3 d3:Nat}(ha:QRd d u (a,(a1,n1,c1),(a2,n2,c2),(a3,n3,c3)))(hb:QRd d u (b,(b1,m1,d1),(b2,m2,d2),(b3,m3,d3)))(g8:(a.bits.length+b.bits.length)*8≤140737488355328)(hl2:(a.bytes.length+b.bytes.length)*24≤140737488355328)(g9:(a.subs.length+b.subs.length)*48≤140737488355328) :
  Calls Tryz.prog 54 #[.agg #[.slice am nm cm,.slice ae ne ce],.pointer (some ⟨bx,ox,none⟩),.agg #[.int .i64 a.nU,.slice a1 n1 c1,.slice a2 n2 c2,.slice a3 n3 c3],.agg #[.int .i64 b.nU,.slice b1 m1 d1,.slice b2 m2 d2,.slice b3 m3 d3]] w fun e w'=>∃ (e1:Option Addr) (h1 l1:Nat) (e2:Option Addr) (h2 l2:Nat) (e3:Option Addr) (h3 l3:Nat),e = .returned (.agg #[.int .i64 a.nU,.slice e1 h1 l1,.slice e2 h2 l2,.slice e3 h3 l3])∧(∀ u',Over u w w' u'→QRd d u' (⟨a.nU,a.bits++b.bits,a.bytes++b.bytes,a.subs++b.subs⟩,(e1,h1,l1),(e2,h2,l2),(e3,h3,l3)))∧zB w w':=by
 obtain⟨dg,fj,iw,ei⟩:=kpU.src ha.1;obtain⟨dh,fk,ij,eo⟩:=kpZ.src ha.2.1;obtain⟨di,fq,ik,eu⟩:=(kpB d).src ha.2.2;obtain⟨dx,fu,ix,ew⟩:=kpU.src hb.1;obtain⟨dy,fw,il,fd⟩:=kpZ.src hb.2.1;obtain⟨dz,fy,im,fe⟩:=(kpB d).src hb.2.2;have ei:=ei.sub hsu;have eo:=eo.sub hsu;have eu:=eu.sub hsu;have ew:=ew.sub hsu;have fd:=fd.sub hsu;have fe:=fe.sub hsu;obtain⟨W0,fh⟩:=zM ((((w.alloc (.cells #[.slice am nm cm,.slice ae ne ce] 25)).alloc (.cells #[.int .i64 a.nU,.slice a1 n1 c1,.slice a2 n2 c2,.slice a3 n3 c3] 63)).alloc (.cells #[.int .i64 b.nU,.slice b1 m1 d1,.slice b2 m2 d2,.slice b3 m3 d3] 63)).alloc (.cells #[.int .i64 0,.slice none 0 0,.slice none 0 0,.slice none 0 0] 63));obtain⟨_,xa,xb,xr,z0⟩:=dQ w (.cells #[.slice am nm cm,.slice ae ne ce] 25) (.cells #[.int .i64 a.nU,.slice a1 n1 c1,.slice a2 n2 c2,.slice a3 n3 c3] 63) (.cells #[.int .i64 b.nU,.slice b1 m1 d1,.slice b2 m2 d2,.slice b3 m3 d3] 63) (.cells #[.int .i64 0,.slice none 0 0,.slice none 0 0,.slice none 0 0] 63);rw[←fh.out] at xa xb xr z0;have hb0:zB w W0:=by rw[fh.out];exact((((zH _ _).alloc (zG _) _).alloc (by simp) _).alloc (by simp;omega) _).alloc (by simp;omega) _
 have hz0:=xD z0.symm;have L1:Hid (dg.length=a.bits.length∧dx.length=b.bits.length):=⟨by rw[←fj,yX],by rw[←fu,yX]⟩
 have L2:Hid (dh.length=a.bytes.length∧dy.length=b.bytes.length):=⟨by rw[←fk,yX],by rw[←fw,yX]⟩
 have L3:Hid (di.length=a.subs.length∧dz.length=b.subs.length):=⟨by rw[←fq,yX],by rw[←fy,yX]⟩
 have g1:dg.length*8≤140737488355328:=by have:=L1.out;omega
 have g2:dh.length*24≤140737488355328:=by have:=L2.out;omega
 have g3:di.length*48≤140737488355328:=by have:=L3.out;omega
 have k1:(([]++dg).length+dx.length)*ekU.bytes≤140737488355328:=by show(_+_)*8≤_;rw[tH];have:=L1.out;omega
 have k2:(([]++dh).length+dy.length)*ekZ.bytes≤140737488355328:=by show(_+_)*24≤_;rw[tH];have:=L2.out;omega
 have k3:(([]++di).length+dz.length)*(mZ d).bytes≤140737488355328:=by show(_+_)*48≤_;rw[tH];have:=L3.out;omega
 obtain⟨_,_,_,_,f4,_⟩:=(FAt.sT _ _ _ _ hb0 hx).at;rw[hm] at f4;have gc:Hid (dg.map id=a.bits∧dx.map id=b.bits):=⟨fj,fu⟩
 have gg:Hid (dh.map Prod.fst=a.bytes∧dy.map Prod.fst=b.bytes):=⟨fk,fw⟩
 have gh:Hid (di.map Prod.fst=a.subs∧dz.map Prod.fst=b.subs):=⟨fq,fy⟩
 clear fj fk fq fu fw fy g8 hl2 g9 z0 ha hb hx;go_enter Tryz.func54,Tryz.ntmps54;go_upto_region 1 with fail
 rw[←fh.out];go_upto_region 2 with fail
 go_cut [20] from 13 to 19 (fun _ wc=>∃ (i1:Option Addr) (j1 ak:Nat),wc.heap[w.heap.size+1]?=some (.cells #[.int .i64 a.nU,.slice i1 j1 ak,.slice a2 n2 c2,.slice a3 n3 c3] 63 (0,0))∧Row (ekU) wc W0.heap.size (.slice i1 j1 ak) (dg++dx)∧FrB [w.heap.size+1] W0 wc)
 case first=>
  obtain⟨X1,bc⟩:=zM ((W0.alloc (.cells #[] 64)).drew);have dm:zB W0 W0.drew:=(zH _ _).drew;have ah:zB W0 X1:=by rw[bc.out];exact((zH _ _).alloc (zG _) _).drew
  have d9:X1.heap[W0.heap.size]?=some (.cells #[] 64 (0,0)):=by rw[bc.out];exact yM W0 _
  have bu:=Row.empT (ekU) (base:=W0.heap.size) (zG _) d9;have au:∀ U,zB W0 U→U.cell? ⟨w.heap.size+1,1,none⟩=some (.slice a1 n1 c1)∧U.frozen? ⟨w.heap.size+1,1,none⟩=false∧U.cell? ⟨w.heap.size+2,1,none⟩=some (.slice b1 m1 d1):=fun U hU=>⟨zL ((zN hU).trans xa) 1 _ rfl,zJ ((zN hU).trans xa) 1,zL ((zN hU).trans xb) 1 _ rfl⟩
  have cu:=(ei.bL hb0).bL ah;refine rgL (fun U=>zB W0 U) 8 dm ?_;refine tkF 1 rfl dm au ?_
  try simp only[zE]
  refine tkF 2 rfl dm au ?_
  try simp only[zE]
  refine tkF 4 rfl dm au ?_
  try simp only[zE]
  refine tkF 5 rfl dm au ?_
  try simp only[zE]
  refine xT 0 rfl (fun K hK=>?_);go_simp;rw[←bc.out];refine hK.out _ _ (fun _=>ah) ?_;clear hK K
  try simp only[zE]
  refine xT 3 rfl (fun K hK=>?_);skip;refine vS (by rfl) (ekU) _ _ (by rfl) W0.heap.size (.slice (some ⟨W0.heap.size,0,none⟩) 0 0) [] dg (by rfl) bu a1 n1 c1 (by rfl) cu.1 cu.2.1 cu.2.2 (show 1≤8 by omega) (by show(0+_)*8≤_;rw[tU];exact g1) ah.size ?_;intro v5 w5 bh dt;obtain⟨a5,n5,c5,rfl,H5⟩:=bh.shape';have ac:=ah.grown dt ah.size (fun k hk=>(bu.own k hk).1);have bk:=(ew.bL hb0).bL ac;refine hK.out _ _ (fun _=>ac) ?_;clear hK K
  try simp only[zE]
  refine xT 6 rfl (fun K hK=>?_);skip;refine vS (by rfl) (ekU) _ _ (by rfl) W0.heap.size (.slice a5 n5 c5) ([]++dg) dx (by rfl) bh b1 m1 d1 (by rfl) bk.1 bk.2.1 bk.2.2 (show 1≤8 by omega) k1 ac.size ?_;intro v7 w7 bn dv;obtain⟨a7,n7,c7,rfl,H7⟩:=bn.shape';have ag:=ac.grown dv ac.size (fun k hk=>(bh.own k hk).1);have dl:=(zN ag).trans xa;obtain⟨gi,gj,gl⟩:=au _ ag;refine hK.out _ _ (fun _=>ag) ?_;clear hK K
  try simp only[zE]
  refine tkF 7 rfl ag au ?_
  try simp only[zE]
  refine xT 8 rfl (fun K hK=>?_);go_simp;refine hK.out _ _ (fun h=>(h rfl).elim) ?_;clear hK K
  try simp only[zE]
  refine dnL ?_;go_wp2_with fail
  go_meet;exact⟨a7,n7,c7,rG _ _ _ _ _ _ dl,bn.set4 (by omega),FrB.setT xa (by decide) ag⟩
 case rest=>
 obtain⟨i1,j1,ak,ee,aj,dr⟩:=hcut;obtain⟨V1,gu⟩:∃ V1,V1=wc:=⟨_,rfl⟩
 subst gu;have cg:=hb0.trans (dr.bL (by omega) (fun k hk=>by rw[zS.1 hk];omega));have f6:=(dr.block _ (by omega) (.inl (by simp))).trans xb;have ip:=(dr.block _ (by omega) (.inl (by simp))).trans xr;have hz1:=yN hz0 dr.size;have ie:=dr.size;go_upto_region 3 with fail
 go_cut [28] from 21 to 27 (fun _ wc=>∃ (i2:Option Addr) (j2 ba:Nat),wc.heap[w.heap.size+1]?=some (.cells #[.int .i64 a.nU,.slice i1 j1 ak,.slice i2 j2 ba,.slice a3 n3 c3] 63 (0,0))∧Row (ekZ) wc W0.heap.size (.slice i2 j2 ba) (dh++dy)∧FrB [w.heap.size+1] V1 wc)
 case first=>
  obtain⟨X1,bc⟩:=zM ((V1.alloc (.cells #[] 30)).drew);have dn:zB V1 V1.drew:=(zH _ _).drew;have ah:zB V1 X1:=by rw[bc.out];exact((zH _ _).alloc (zG _) _).drew
  have d9:X1.heap[V1.heap.size]?=some (.cells #[] 30 (0,0)):=by rw[bc.out];exact yM V1 _
  have bu:=Row.empT (ekZ) (base:=V1.heap.size) (zG _) d9;have av:∀ U,zB V1 U→U.cell? ⟨w.heap.size+1,2,none⟩=some (.slice a2 n2 c2)∧U.frozen? ⟨w.heap.size+1,2,none⟩=false∧U.cell? ⟨w.heap.size+2,2,none⟩=some (.slice b2 m2 d2):=fun U hU=>⟨zL ((zN hU).trans ee) 2 _ rfl,zJ ((zN hU).trans ee) 2,zL ((zN hU).trans f6) 2 _ rfl⟩
  have cw:=(eo.bL cg).bL ah;refine rgL (fun U=>zB V1 U) 8 dn ?_;refine tkF 1 rfl dn av ?_
  try simp only[zE]
  refine tkF 2 rfl dn av ?_
  try simp only[zE]
  refine tkF 4 rfl dn av ?_
  try simp only[zE]
  refine tkF 5 rfl dn av ?_
  try simp only[zE]
  refine xT 0 rfl (fun K hK=>?_);go_simp;rw[←bc.out];refine hK.out _ _ (fun _=>ah) ?_;clear hK K
  try simp only[zE]
  refine xT 3 rfl (fun K hK=>?_);skip;refine vS (by rfl) (ekZ) _ _ (by rfl) V1.heap.size (.slice (some ⟨V1.heap.size,0,none⟩) 0 0) [] dh (by rfl) bu a2 n2 c2 (by rfl) cw.1 cw.2.1 cw.2.2 (show 1≤24 by omega) (by show(0+_)*24≤_;rw[tU];exact g2) ah.size ?_;intro v5 w5 bh dt;obtain⟨a5,n5,c5,rfl,H5⟩:=bh.shape';have ac:=ah.grown dt ah.size (fun k hk=>(bu.own k hk).1);have bk:=(fd.bL cg).bL ac;refine hK.out _ _ (fun _=>ac) ?_;clear hK K
  try simp only[zE]
  refine xT 6 rfl (fun K hK=>?_);skip;refine vS (by rfl) (ekZ) _ _ (by rfl) V1.heap.size (.slice a5 n5 c5) ([]++dh) dy (by rfl) bh b2 m2 d2 (by rfl) bk.1 bk.2.1 bk.2.2 (show 1≤24 by omega) k2 ac.size ?_;intro v7 w7 bn dv;obtain⟨a7,n7,c7,rfl,H7⟩:=bn.shape';have ag:=ac.grown dv ac.size (fun k hk=>(bh.own k hk).1);have dl:=(zN ag).trans ee;obtain⟨gi,gj,gl⟩:=av _ ag;refine hK.out _ _ (fun _=>ag) ?_;clear hK K
  try simp only[zE]
  refine tkF 7 rfl ag av ?_
  try simp only[zE]
  refine xT 8 rfl (fun K hK=>?_);go_simp;refine hK.out _ _ (fun h=>(h rfl).elim) ?_;clear hK K
  try simp only[zE]
  refine dnL ?_;go_wp2_with fail
  go_meet;exact⟨a7,n7,c7,rG _ _ _ _ _ _ dl,(bn.set4 (by omega)).mono (by omega),FrB.setT ee (by decide) ag⟩
 case rest=>
 obtain⟨i2,j2,ba,eh,bg,hf2⟩:=hcut;obtain⟨V2,gw⟩:∃ V2,V2=wc:=⟨_,rfl⟩
 subst gw;have cj:=cg.trans (hf2.bL (by omega) (fun k hk=>by rw[zS.1 hk];omega));have f9:=(hf2.block _ (by omega) (.inl (by simp))).trans f6;have iq:=(hf2.block _ (by omega) (.inl (by simp))).trans ip;have hz2:=yN hz1 hf2.size;have ig:=hf2.size;have aj:=Row.frB (p:=(i1,j1,ak)) aj hf2 (fun k hk=>by have:=(Row.own1 (p:=(i1,j1,ak)) aj k hk).1;simp;omega);go_upto_region 4 with fail
 go_cut [36] from 29 to 35 (fun _ wc=>∃ (i3:Option Addr) (j3 bl:Nat),wc.heap[w.heap.size+1]?=some (.cells #[.int .i64 a.nU,.slice i1 j1 ak,.slice i2 j2 ba,.slice i3 j3 bl] 63 (0,0))∧Row (mZ d) wc W0.heap.size (.slice i3 j3 bl) (di++dz)∧FrB [w.heap.size+1] V2 wc)
 case first=>
  obtain⟨X1,bc⟩:=zM ((V2.alloc (.cells #[] 29)).drew);have dp:zB V2 V2.drew:=(zH _ _).drew;have ah:zB V2 X1:=by rw[bc.out];exact((zH _ _).alloc (zG _) _).drew
  have d9:X1.heap[V2.heap.size]?=some (.cells #[] 29 (0,0)):=by rw[bc.out];exact yM V2 _
  have bu:=Row.empT (mZ d) (base:=V2.heap.size) (zG _) d9;have aw:∀ U,zB V2 U→U.cell? ⟨w.heap.size+1,3,none⟩=some (.slice a3 n3 c3)∧U.frozen? ⟨w.heap.size+1,3,none⟩=false∧U.cell? ⟨w.heap.size+2,3,none⟩=some (.slice b3 m3 d3):=fun U hU=>⟨zL ((zN hU).trans eh) 3 _ rfl,zJ ((zN hU).trans eh) 3,zL ((zN hU).trans f9) 3 _ rfl⟩
  have df:=(eu.bL cj).bL ah;refine rgL (fun U=>zB V2 U) 8 dp ?_;refine tkF 1 rfl dp aw ?_
  try simp only[zE]
  refine tkF 2 rfl dp aw ?_
  try simp only[zE]
  refine tkF 4 rfl dp aw ?_
  try simp only[zE]
  refine tkF 5 rfl dp aw ?_
  try simp only[zE]
  refine xT 0 rfl (fun K hK=>?_);go_simp;rw[←bc.out];refine hK.out _ _ (fun _=>ah) ?_;clear hK K
  try simp only[zE]
  refine xT 3 rfl (fun K hK=>?_);skip;refine vS (by rfl) (mZ d) _ _ (by rfl) V2.heap.size (.slice (some ⟨V2.heap.size,0,none⟩) 0 0) [] di (by rfl) bu a3 n3 c3 (by rfl) df.1 df.2.1 df.2.2 (show 1≤48 by omega) (by show(0+_)*48≤_;rw[tU];exact g3) ah.size ?_;intro v5 w5 bh dt;obtain⟨a5,n5,c5,rfl,H5⟩:=bh.shape';have ac:=ah.grown dt ah.size (fun k hk=>(bu.own k hk).1);have bk:=(fe.bL cj).bL ac;refine hK.out _ _ (fun _=>ac) ?_;clear hK K
  try simp only[zE]
  refine xT 6 rfl (fun K hK=>?_);skip;refine vS (by rfl) (mZ d) _ _ (by rfl) V2.heap.size (.slice a5 n5 c5) ([]++di) dz (by rfl) bh b3 m3 d3 (by rfl) bk.1 bk.2.1 bk.2.2 (show 1≤48 by omega) k3 ac.size ?_;intro v7 w7 bn dv;obtain⟨a7,n7,c7,rfl,H7⟩:=bn.shape';have ag:=ac.grown dv ac.size (fun k hk=>(bh.own k hk).1);have dl:=(zN ag).trans eh;obtain⟨gi,gj,gl⟩:=aw _ ag;refine hK.out _ _ (fun _=>ag) ?_;clear hK K
  try simp only[zE]
  refine tkF 7 rfl ag aw ?_
  try simp only[zE]
  refine xT 8 rfl (fun K hK=>?_);go_simp;refine hK.out _ _ (fun h=>(h rfl).elim) ?_;clear hK K
  try simp only[zE]
  refine dnL ?_;go_wp2_with fail
  go_meet;exact⟨a7,n7,c7,rG _ _ _ _ _ _ dl,(bn.set4 (by omega)).mono (by omega),FrB.setT eh (by decide) ag⟩
 case rest=>
 obtain⟨i3,j3,bl,gp,dw,hf3⟩:=hcut;obtain⟨V3,gz⟩:∃ V3,V3=wc:=⟨_,rfl⟩
 subst gz;have fz:=cj.trans (hf3.bL (by omega) (fun k hk=>by rw[zS.1 hk];omega));have io:=(hf3.block _ (by omega) (.inl (by simp))).trans f9;have gq:=(hf3.block _ (by omega) (.inl (by simp))).trans iq;have hz3:=yN hz2 hf3.size;have ii:=hf3.size;have aj:=Row.frB (p:=(i1,j1,ak)) aj hf3 (fun k hk=>by have:=(Row.own1 (p:=(i1,j1,ak)) aj k hk).1;simp;omega);have bg:=Row.frB (p:=(i2,j2,ba)) bg hf3 (fun k hk=>by have:=(Row.own1 (p:=(i2,j2,ba)) bg k hk).1;simp;omega);obtain⟨t0,t1,t2,t3⟩:=tQ gp;obtain⟨r0,r1,r2,r3⟩:=tQ gq;have ir:=zJ gq;have iu:¬ w.heap.size+1=w.heap.size+3:=by omega
 have q1:=((((aj.set4 (i:=0) (x:=.int .i64 a.nU) (show w.heap.size+3<W0.heap.size by omega)).set4 (i:=1) (x:=.slice i1 j1 ak) (show w.heap.size+3<W0.heap.size by omega)).set4 (i:=2) (x:=.slice i2 j2 ba) (show w.heap.size+3<W0.heap.size by omega)).set4 (i:=3) (x:=.slice i3 j3 bl) (show w.heap.size+3<W0.heap.size by omega))
 have q2:=((((bg.set4 (i:=0) (x:=.int .i64 a.nU) (show w.heap.size+3<W0.heap.size by omega)).set4 (i:=1) (x:=.slice i1 j1 ak) (show w.heap.size+3<W0.heap.size by omega)).set4 (i:=2) (x:=.slice i2 j2 ba) (show w.heap.size+3<W0.heap.size by omega)).set4 (i:=3) (x:=.slice i3 j3 bl) (show w.heap.size+3<W0.heap.size by omega))
 have q3:=((((dw.set4 (i:=0) (x:=.int .i64 a.nU) (show w.heap.size+3<W0.heap.size by omega)).set4 (i:=1) (x:=.slice i1 j1 ak) (show w.heap.size+3<W0.heap.size by omega)).set4 (i:=2) (x:=.slice i2 j2 ba) (show w.heap.size+3<W0.heap.size by omega)).set4 (i:=3) (x:=.slice i3 j3 bl) (show w.heap.size+3<W0.heap.size by omega))
 have g7:zB w ((((V3.setCell ⟨w.heap.size+3,0,none⟩ (.int .i64 a.nU)).setCell ⟨w.heap.size+3,1,none⟩ (.slice i1 j1 ak)).setCell ⟨w.heap.size+3,2,none⟩ (.slice i2 j2 ba)).setCell ⟨w.heap.size+3,3,none⟩ (.slice i3 j3 bl)):=yL (yL (yL (yL fz (by omega)) (by omega)) (by omega)) (by omega);clear aj bg dw xa ee eh gp xb f6 f9 io ei eo eu ew fd fe;go_wp2_with fail
 refine bodyPost_ret (v:=.agg #[.int .i64 a.nU,.slice i1 j1 ak,.slice i2 j2 ba,.slice i3 j3 bl]) (by simp[results,Tryz.results54,go_sem, *]) rfl ?_;refine⟨i1,j1,ak,i2,j2,ba,i3,j3,bl,rfl,fun u' ho=>⟨?_,?_,?_⟩,g7⟩
 ·have:=kpU.rd (q1.over ho (by omega)) (fun _ _=>trivial) ho.sub;rw[wM,gc.out.1,gc.out.2] at this;exact this
 ·have:=kpZ.rd (q2.over ho (by omega)) (fun z hz=>(zU.1 hz).elim (ij z) (il z)) ho.sub;rw[wM,gg.out.1,gg.out.2] at this;exact this
 have:=(kpB d).rd (q3.over ho (by omega)) (fun z hz=>(zU.1 hz).elim (ik z) (im z)) ho.sub;rw[wM,gh.out.1,gh.out.2] at this;exact this
end L
end Go.Proofs.YthcomdofaaeihaaGreatDoor
