import Derived.Test.YthcomdofaaeihaaGreatDoorV11
set_option maxHeartbeats 32000000
set_option maxRecDepth 100000
set_option linter.unusedVariables false
namespace Go.Proofs.YthcomdofaaeihaaGreatDoor
namespace L
open Go.RowKit
variable{α:Type}{W0 w:World}{ms:List MI}{ce cm d nm i ne:Nat}{am ae:Option Addr}{a:α}{l:List α}
theorem C9g {β:Type}{f : α→β}{b : β}(h:l.map f = [b]):∃ a,l = [a]∧f a=b:=by
 match l,h with
 | [a],h=>exact⟨a,rfl,by simpa using h⟩
theorem D8j {y z:VL (LB d)}(h:MetIn d W0 w y z)(ag:RdL 3 MAt W0 (.slice am nm cm) ms)(ih:cV W0 ms am nm cm ae ne ce d)(x:FI)
  (hy:x.many=false→x.kind=10→∃ M s,ms.find? (isN x.type)=some M∧(VL.pl (LB.pl d) y).subs = [s]∧ShB ms d M s) (hz:x.many=false→x.kind=10→∃ M s,ms.find? (isN x.type)=some M∧(VL.pl (LB.pl d) z).subs = [s]∧ShB ms d M s) :
  Calls Tryz.prog 224 #[.agg #[.slice am nm cm,.slice ae ne ce],vFI x,.agg #[.int .i64 y.nU,y.p1.v,y.p2.v,y.p3.v],.agg #[.int .i64 z.nU,z.p1.v,z.p2.v,z.p3.v]] w fun e w'=>ZL ms d W0 w x y z e w':=by
 cases hm:x.many with
 | true=>exact D4i h am nm cm ae ne ce x hm
 | false=>
  by_cases hk:x.kind=10
  ·obtain⟨M,s',h1,h2,h3⟩:=hy hm hk;obtain⟨M2,t',g1,g2,g3⟩:=hz hm hk;have ac:M2=M:=by rw[h1] at g1;exact(Option.some.inj g1).symm
   subst ac;obtain⟨s,hs,rfl⟩:=C9g h2;obtain⟨t,ht,rfl⟩:=C9g g2;exact D8k h ag ih x hm hk h1 hs ht h3 g3
  ·exact D4h h am nm cm ae ne ce x hm hk
theorem YB {p : α→Bool}(h:l.find? p=some a):∃ j:Nat,yK p l=(j:Int)∧l[j]?=some a:=by
 rw[bK] at h;have hlt:=(yG.1 h).1;refine⟨_,?_,h⟩;unfold yK;rw[bJ.2 ⟨hlt,rfl⟩]
theorem D6a (f : α→Nat)(h:l[i]?=some a):((l.take i).map f).sum+f a≤(l.map f).sum:=by
 have h2:l.take (i+1)=l.take i++[a]:=by rw[mV,h];rfl
 have h3:(l.map f).sum=((l.take (i+1)).map f).sum+((l.drop (i+1)).map f).sum:=by rw[←jU,←wM,nX]
 rw[h2] at h3;simp only[wM,jU,wS,tA,tZ,oD] at h3;omega
theorem lH {α:Type}(f : α→Nat):∀ {l:List α}{a : α},a∈l→f a≤(l.map f).sum
 | b::l,a,h=>by
  simp only[wS,tZ]
  rcases yY.1 h with rfl|h
  ·omega
  ·have:=lH f h;omega
theorem B4l {k:Nat}{v:Value}(h:w.cell? ⟨k,i,none⟩=some v):k<w.heap.size:=by
 rcases mW k w.heap.size with h1|h1
 ·exact h1
 unfold World.cell? at h;rw[bM h1] at h;cases h
theorem fC {g:Nat}{cs:Array Value}{x0 x1:Value}(h:w.heap[g]?=some (.cells cs 29 (0,0))):FrB [g] w ((w.setCell ⟨g,0,none⟩ x0).setCell ⟨g,1,none⟩ x1):=
 pW (uW h (by decide)) (uW (yO _ _ 0 _ _ x0 h) (by decide))
theorem Qf7{P:Prop}(h:P:=by
 (try dsimp only);with_reducible assumption):P:=h
theorem gQ{P:Prop}(h:P:=by
 refine rA (i:=15) rfl fun K hK=>?_
 go_simp;refine(di V3 hb3).mono ?_;rintro e V4 ⟨t,x1,y1,z1,x2,y2,z2,x3,y3,z3,rfl,HP,ak,dm,ba⟩;have ew:=df V3 V4 hb3 ba;have aj:=dh V3 V4 hb3 ba;obtain⟨km,ko,kp,kt⟩:=wK aj;have ku:=zJ aj 0;have kv:=zJ aj 1;have kw:=zJ aj 2;have kx:=zJ aj 3;have kz:=hb3.size;have ld:=ba.size;have lf:V2.heap.size≤V2.drew.heap.size:=zG _;have ji:=dg V4 (.int .i64 t.nU) (.slice x1 y1 z1) (.slice x2 y2 z2) (.slice x3 y3 z3) ew aj (by omega);refine hK.out _ _ ?_ (fun hHeld=>?_)
 ·exact Qf7
 clear hK K
 try simp only[zE]
 refine rA (i:=16) rfl fun K hK=>?_
 go_simp;refine hK.out _ _ ?_ (fun hHeld=>?_)
 ·exact Qf7
 clear hK K
 try simp only[zE]
 refine wpAnyH_done (by kernel_rfl) ?_ _;go_wp2_with fail
 go_meet;refine⟨t,x1,y1,z1,x2,y2,z2,x3,y3,z3,rfl,HP,ak.out.fr (fr4 aj),dm,yO _ _ 3 _ _ _ (yO _ _ 2 _ _ _ (yO _ _ 1 _ _ _ (yO _ _ 0 _ _ _ aj))),?_⟩;exact((FrB.of_below (zP (zH _ V2).drew hb3):FrB (VL.fp (LB.fp d) (⟨un,bc,bg,bh,(u1,v1,au),(u2,v2,av),(u3,v3,aw)⟩:VL (LB d))++VL.fp (LB.fp d) (⟨nu,bi,ah,su,(p1,q1,r1),(p2,q2,r2),(p3,q3,r3)⟩:VL (LB d))) V2 V3).trans ba (H:=VL.fp (LB.fp d) (⟨un,bc,bg,bh,(u1,v1,au),(u2,v2,av),(u3,v3,aw)⟩:VL (LB d))++VL.fp (LB.fp d) (⟨nu,bi,ah,su,(p1,q1,r1),(p2,q2,r2),(p3,q3,r3)⟩:VL (LB d))) (fun _ hi=>hi) (fun _ hi=>.inl hi)).trans (fr4 aj) (fun _ hi=>vU _ hi) (fun _ hi=>.inl (tI _ hi))):P:=h
theorem Qf5{P:Prop}(h:P:=by
 obtain⟨ml,mr⟩:=zO k6;have mv:=zJ k6 0;have mz:=zJ k6 1;have ie:FrB (L0++[w.heap.size+2]) W5 V6:=bk _ _ _ dp cw fun k hk hlt=>by
  have h1:=yD.2 hk;have h2:=(ak.out.once k).2 hlt;unfold sS at h2;dsimp only at h2;exact vU _ (yD.1 (by omega))
 have dy:Hid _:=fC k6 (x0:=.slice a' n' c') (x1:=.slice a1 n1 c1);have gq:Hid _:=yO _ _ 1 _ _ (.slice a1 n1 c1) (yO _ _ 0 _ _ (.slice a' n' c') k6);go_wp2_with fail
 go_roundg (m0-(i+1))
 case measure=>omega
 refine⟨i+1,l',a',n',c',by omega,by go_num,?_,?_,?_,?_⟩
 ·show _=_;rw[dv.out,gu.out,ei.out,mV,Hv.out];simp only[wM,List.foldl_append,Option.toList_some,wS,tA,List.foldl_cons,List.foldl_nil]
 ·refine dz.out.fr dy.out fun k hk=>?_
  rw[zS.1 hk];have h2:=(dz.out.once (w.heap.size+2)).2 (by omega);have h3:=d9.out (w.heap.size+2) (by omega);omega
 ·exact gq.out
 exact bk _ _ _ ie dy.out fun k hk _=>tI _ hk):P:=h
theorem aH{P:Prop}(h:P:=by
 go_simp;refine hK.out _ _ ?_ (fun hHeld=>?_)
 ·exact Qf7
 clear hK K
 try simp only[zE]
 refine rA (i:=6) rfl fun K hK=>?_
 go_simp;refine cj.mono ?_;rintro e V3 ⟨rfl,hb3⟩;have jh:=bu V3 hb3;have fu:=cg V3 hb3;obtain⟨ke,kg,kj,t33⟩:=wK fu;refine hK.out _ _ ?_ (fun hHeld=>?_)
 ·exact Qf7
 clear hK K
 try simp only[zE]
 refine zTk 7 rfl ac ?_
 try simp only[Act.put,oS]
 refine zTk 8 rfl ac ?_
 try simp only[Act.put]
 exact gQ):P:=h
theorem Qf8{P:Prop}(h:P:=by
 have h1:=yD.2 hm;have h2:=(ak.out.once (w.heap.size+2)).2 (by omega);have h3:=d9.out (w.heap.size+2) (by omega);unfold sS at h2;dsimp only at h2;omega):P:=h
theorem C0k (jp:RdL 3 MAt W0 (.slice am nm cm) ms)(jr:∀ M∈ms,(∀ f∈M.fD,I64 f.nU∧I64 f.cE)∧M.fD.length≤140737488355328)(ih:cV W0 ms am nm cm ae ne ce d):cV W0 ms am nm cm ae ne ce (d+1):=by
 intro w M s af nf cf ab nb cb a b a0 n0 c0 a1 n1 c1 b0 m0 d0 b1 m1 d1 h0 hM hf jl jn ha hb dr js jt hlen;obtain⟨va,ua,⟨ix,j7,i6⟩,⟨iy,fw,c1'⟩⟩:=a;obtain⟨vb,ub,⟨iz,j5,jc⟩,⟨i5,j6,jd⟩⟩:=b;obtain⟨⟨rfl,rfl,rfl⟩,rfl,rfl,rfl⟩:(a0=ix∧n0=j7∧c0=i6)∧a1=iy∧n1=fw∧c1=c1':=by
  have : [Value.slice a0 n0 c0,Value.slice a1 n1 c1] = [.slice ix j7 i6,.slice iy fw c1']:=jl.symm;simpa using this
 obtain⟨⟨rfl,rfl,rfl⟩,rfl,rfl,rfl⟩:(b0=iz∧m0=j5∧d0=jc)∧b1=i5∧m1=j6∧d1=jd:=by
  have : [Value.slice b0 m0 d0,Value.slice b1 m1 d1] = [.slice iz j5 jc,.slice i5 j6 jd]:=jn.symm;simpa using this
 clear jl jn;have oa:OwnL (ekB d) (OwnB W0.heap.size d) w W0.heap.size ⟨va,ua,(a0,n0,c0),(a1,n1,c1)⟩:=ha;have ob:OwnL (ekB d) (OwnB W0.heap.size d) w W0.heap.size ⟨vb,ub,(b0,m0,d0),(b1,m1,d1)⟩:=hb;have rb0:Row (ekV (LB d)) w W0.heap.size (.slice b0 m0 d0) vb:=ob.r0;obtain⟨L0,fy⟩:=zM (LB.fp (d+1) (⟨va,ua,(a0,n0,c0),(a1,n1,c1)⟩:BL (LB d))++LB.fp (d+1) (⟨vb,ub,(b0,m0,d0),(b1,m1,d1)⟩:BL (LB d)));obtain⟨W5,g7⟩:=zM (((((w.alloc (.cells #[.slice am nm cm,.slice ae ne ce] 25)).alloc (.cells #[.string (S s),.slice af nf cf,.slice ab nb cb] 35)).alloc (.cells #[.slice a0 n0 c0,.slice a1 n1 c1] 29)).alloc (.cells #[.slice b0 m0 d0,.slice b1 m1 d1] 29)).alloc (.cells #[.slice none 0 0,.slice none 0 0] 29));have gg:zB w W5:=by rw[g7.out];exact(((((zH _ _).alloc (zG _) _).alloc (by simp) _).alloc (by simp;omega) _).alloc (by simp;omega) _).alloc (by simp;omega) _
 obtain⟨x0,x1,x2,x3,x4,xz⟩:=iM w (.cells #[.slice am nm cm,.slice ae ne ce] 25) (.cells #[.string (S s),.slice af nf cf,.slice ab nb cb] 35) (.cells #[.slice a0 n0 c0,.slice a1 n1 c1] 29) (.cells #[.slice b0 m0 d0,.slice b1 m1 d1] 29) (.cells #[.slice none 0 0,.slice none 0 0] 29);rw[←g7.out] at x0 x1 x2 x3 x4 xz;have z5:=xD xz;have qo:=xD xz.symm;have ng:=h0.size;have je:=h0.trans (gg.mono ng);have lL:∀ k∈L0,W0.heap.size≤k∧k<w.heap.size:=fun k hk=>by
  rw[fy.out] at hk;rcases zU.1 hk with hk|hk
  ·exact OwnB.inB (d+1) ha k hk
  exact OwnB.inB (d+1) hb k hk
 have lc:=fun k (hk:w.heap.size≤k)=>D3k (n:=w.heap.size) (fun i hi=>(lL i hi).2) hk
 have nh:JSt d W0.heap.size W5 L0 ⟨vb,ub,(b0,m0,d0),(b1,m1,d1)⟩ W5 ⟨va,ua,(a0,n0,c0),(a1,n1,c1)⟩ vb:=by
  have pk:OwnL (ekB d) (OwnB W0.heap.size d) W5 W0.heap.size ⟨va,ua,(a0,n0,c0),(a1,n1,c1)⟩:=OwnB.bL (d:=d+1) ha gg;have gl:OwnL (ekB d) (OwnB W0.heap.size d) W5 W0.heap.size ⟨vb,ub,(b0,m0,d0),(b1,m1,d1)⟩:=OwnB.bL (d:=d+1) hb gg;refine⟨pk,gl.r0v,gl.r0,gl.r1,gl.r1y,fun k=>?_⟩;have h1:(BL.fp (LB.fp d) (⟨va,ua,(a0,n0,c0),(a1,n1,c1)⟩:BL (LB d))).count k+(BL.fp (LB.fp d) (⟨vb,ub,(b0,m0,d0),(b1,m1,d1)⟩:BL (LB d))).count k≤1:=dr k;have h2:L0.count k=(BL.fp (LB.fp d) (⟨va,ua,(a0,n0,c0),(a1,n1,c1)⟩:BL (LB d))).count k+(BL.fp (LB.fp d) (⟨vb,ub,(b0,m0,d0),(b1,m1,d1)⟩:BL (LB d))).count k:=by rw[fy.out,tR];rfl
  rw[YS,YS] at h1 h2;unfold tV;dsimp only at h1 h2 ⊢;omega
 obtain⟨fok,fl⟩:=jr M hM;have hbl:∀ V,FrB (L0++[w.heap.size+2]) W5 V→zB W0 V:=fun V hV=>je.trans (hV.bL je.size fun k hk=>by
  rcases zU.1 hk with hk|hk
  ·exact(lL k hk).1
  rw[zS] at hk;omega)
 have nL:∀ k,w.heap.size≤k→k≠w.heap.size+2→k∉L0++[w.heap.size+2]:=fun k h1 h2 hm=>by
  rcases zU.1 hm with hm|hm
  ·have:=(lL k hm).2;omega
  rw[zS] at hm;omega
 have cu:∀ V,FrB (L0++[w.heap.size+2]) W5 V→V.heap[w.heap.size]?=some (.cells #[.slice am nm cm,.slice ae ne ce] 25 (0,0))∧V.heap[w.heap.size+1]?=some (.cells #[.string (S s),.slice af nf cf,.slice ab nb cb] 35 (0,0))∧V.heap[w.heap.size+3]?=some (.cells #[.slice b0 m0 d0,.slice b1 m1 d1] 29 (0,0))∧V.heap[w.heap.size+4]?=some (.cells #[.slice none 0 0,.slice none 0 0] 29 (0,0)):=fun V hV=>
  ⟨(hV.blk (by omega) (nL _ (by omega) (by omega))).trans x0,(hV.blk (by omega) (nL _ (by omega) (by omega))).trans x1,(hV.blk (by omega) (nL _ (by omega) (by omega))).trans x3,(hV.blk (by omega) (nL _ (by omega) (by omega))).trans x4⟩
 have bk:∀ V V' F,FrB (L0++[w.heap.size+2]) W5 V→FrB F V V'→(∀ k∈F,k<W5.heap.size→k∈L0++[w.heap.size+2])→FrB (L0++[w.heap.size+2]) W5 V':=fun V V' F h1 h2 h3=>h1.trans h2 (fun _ hi=>hi) fun i hi=>by
  by_cases hk:i<W5.heap.size
  ·exact .inl (h3 i hi hk)
  exact .inr (by omega)
 have jo:=rb0.len;have qc:(m0:Int)≤1000000000:=by
  have h1:=tY (jW (jWB d)) (fun v=>by unfold jW;omega) (vb.map (VL.pl (LB.pl d)));have h2:((va.map (VL.pl (LB.pl d))).map (jW (jWB d))).sum+(ua.map Prod.fst).length+(((vb.map (VL.pl (LB.pl d))).map (jW (jWB d))).sum+(ub.map Prod.fst).length)≤1000000000:=hlen;rw[yX] at h1;omega
 have ee:Hid (((va.map (VL.pl (LB.pl d))).map (jW (jWB d))).sum+(ua.map Prod.fst).length+(((vb.map (VL.pl (LB.pl d))).map (jW (jWB d))).sum+(ub.map Prod.fst).length)≤1000000000):=hlen;have lu:Hid (∀ v∈va.map (VL.pl (LB.pl d)),ShV (ShB ms d) ms M.fD v):=js;have iw:Hid (∀ v∈vb.map (VL.pl (LB.pl d)),ShV (ShB ms d) ms M.fD v):=jt;have HM:=zI hM;have HF:=zI hf;have li:=zI jp;have lg:=zI ih;have fz:Hid ((∀ f∈M.fD,I64 f.nU∧I64 f.cE)∧M.fD.length≤140737488355328):=⟨fok,fl⟩
 have lh:=zI lL;have d9:=zI lc;have gp:=zI jo;obtain⟨qi,qj⟩:=zO x3;clear ha hb oa ob rb0 dr js jt hlen fok fl jo jr jp ih hf hM lL lc;go_enter Tryz.func214,Tryz.ntmps214;go_wp2_with fail
 rw[←g7.out];go_loopg [15] m0 (fun gm po wr=>∃ (i:Nat) (l:List (VL (LB d))) (e0:Option Addr) (f0 g0:Nat),i+gm=m0∧po = .int .i64 (i:Int)∧Hid (l.map (VL.pl (LB.pl d))=((vb.take i).map (VL.pl (LB.pl d))).foldl (wC (jnB ms d) ms M.fD) (va.map (VL.pl (LB.pl d))))∧Hid (JSt d W0.heap.size W5 L0 ⟨vb,ub,(b0,m0,d0),(b1,m1,d1)⟩ wr ⟨l,ua,(e0,f0,g0),(a1,n1,c1)⟩ (vb.drop i))∧wr.heap[w.heap.size+2]?=some (.cells #[.slice e0 f0 g0,.slice a1 n1 c1] 29 (0,0))∧FrB (L0++[w.heap.size+2]) W5 wr)
 case atStart=>exact⟨0,va,a0,n0,c0,by omega,rfl,rfl,nh,x2,FrB.refl _ _⟩
 obtain⟨i,l,e0,f0,g0,hi,rfl,ei,HJ,xA,hG⟩:=hrel;have qh:=hG.size;have f9:∀ v∈l.map (VL.pl (LB.pl d)),ShV (ShB ms d) ms M.fD v:=by
  rw[ei.out];exact VU (fun M s t=>C8u ms d M s t) _ _ lu.out fun a ha=>iw.out a (by
   obtain⟨c,hc,rfl⟩:=vT.1 ha;exact vT.2 ⟨c,lX hc,rfl⟩)
 have gc:=ZJ (fun M s t=>iL ms d M s t) ms M.fD ((vb.take i).map (VL.pl (LB.pl d))) (va.map (VL.pl (LB.pl d)));rw[←ei.out] at gc;have ig:=tY (jW (jWB d)) (fun v=>by unfold jW;omega) (l.map (VL.pl (LB.pl d)));rw[yX] at ig;obtain⟨kF,kM,kB,kR⟩:=cu wr hG;by_cases hlt:i<m0
 ·obtain⟨v,Hv⟩:=yE (l:=vb) (k:=i) (by have:=gp.out;omega);have hJ:JSt d W0.heap.size W5 L0 ⟨vb,ub,(b0,m0,d0),(b1,m1,d1)⟩ wr ⟨l,ua,(e0,f0,g0),(a1,n1,c1)⟩ (v::vb.drop (i+1)):=by
   have h1:=HJ.out;have h2:vb.drop i=v::vb.drop (i+1):=by
    obtain⟨hl,he⟩:=yG.1 Hv.out;rw[uQ hl,he]
   rwa [h2] at h1
  obtain⟨gB,rfl,hcB⟩:=(show Row (ekV (LB d)) wr W0.heap.size (.slice b0 m0 d0) vb from hJ.rb0).get Hv.out;have ij:=D6a ((jW (jWB d))∘(VL.pl (LB.pl d))) Hv.out;have ol:=iw.out _ (vT.2 ⟨v,xV Hv.out,rfl⟩);obtain⟨nu,bi,ah,su,⟨p1,q1,r1⟩,⟨p2,q2,r2⟩,⟨p3,q3,r3⟩⟩:=v;obtain⟨jq,x,hx,jw⟩:=ol;have hW:((l.map (VL.pl (LB.pl d))).map (jW (jWB d))).sum+jW (jWB d) (VL.pl (LB.pl d) (⟨nu,bi,ah,su,(p1,q1,r1),(p2,q2,r2),(p3,q3,r3)⟩:VL (LB d)))≤1000000000:=by
   have h1:=ee.out;simp only[jQ] at gc ij h1 ⊢;simp only[Function.comp_apply] at ij;omega
  have w0:wr.cell? ⟨gB,i*4,none⟩=some (.int .i64 nu):=hcB 0 _ rfl;have w1:wr.cell? ⟨gB,i*4+1,none⟩=some (.slice p1 q1 r1):=hcB 1 _ rfl;have w2:wr.cell? ⟨gB,i*4+2,none⟩=some (.slice p2 q2 r2):=hcB 2 _ rfl;have w3:wr.cell? ⟨gB,i*4+3,none⟩=some (.slice p3 q3 r3):=hcB 3 _ rfl;have oc:(i:Int)<(m0:Int):=by omega
  obtain⟨V1,gz,hb1,io,-⟩:=zV wr (.cells #[.int .i64 nu,.slice p1 q1 r1,.slice p2 q2 r2,.slice p3 q3 r3] 63);have ky:V1.heap.size=wr.heap.size+1:=by rw[gz.out];simp
  have pu:=xD ky.symm;have hat:=B3d (PT.sT d) (v1:=.slice a1 n1 c1) (hJ.bL hb1).own.rdT ⟨_,_,_,rfl⟩ nu;dsimp only[PV.v] at hat;obtain⟨pp,pq⟩:=zO ((wT wr (.cells #[.int .i64 nu,.slice p1 q1 r1,.slice p2 q2 r2,.slice p3 q3 r3] 63) (w.heap.size+2) (by omega)).trans xA);have HX:Hid (M.fD.find? (isF nu)=some x):=hx;have mh:=zI jw;have bl:Hid _:=hJ;have eu:Hid _:=hW;have lw:Hid _:=f9;have iu:Hid (I64 nu):=jq;have iq:Hid _:=ig;have fe:∀ a∈l,I64 a.nU:=fun a ha=>(f9 _ (vT.2 ⟨a,ha,rfl⟩)).1
  have eh:Hid _:=fe;clear hcB gc ij hx jw hJ hW f9 jq ky fe;cases hfind:(l.map (VL.pl (LB.pl d))).find? (isV nu) with
  | none=>
   have f6:yK (fun v:VI (BI d)=>decide (v.nU=nu)) (l.map (VL.pl (LB.pl d))) = -1:=SL fun b hb=>by
    have:=oE.1 hfind b hb;simpa [isV] using this
   rw[f6] at hat;have gu:Hid (putN M.fD x (l.map (VL.pl (LB.pl d))) (VL.pl (LB.pl d) (⟨nu,bi,ah,su,(p1,q1,r1),(p2,q2,r2),(p3,q3,r3)⟩:VL (LB d)))=wC (jnB ms d) ms M.fD (l.map (VL.pl (LB.pl d))) (VL.pl (LB.pl d) (⟨nu,bi,ah,su,(p1,q1,r1),(p2,q2,r2),(p3,q3,r3)⟩:VL (LB d)))):=by
    have e1:M.fD.find? (isF (VL.pl (LB.pl d) (⟨nu,bi,ah,su,(p1,q1,r1),(p2,q2,r2),(p3,q3,r3)⟩:VL (LB d))).nU)=some x:=HX.out;have e2:(l.map (VL.pl (LB.pl d))).find? (isV (VL.pl (LB.pl d) (⟨nu,bi,ah,su,(p1,q1,r1),(p2,q2,r2),(p3,q3,r3)⟩:VL (LB d))).nU)=none:=hfind;show _=_;unfold wC;rw[e1,e2]
   have hput:∀ V2,zB V1 V2→Calls Tryz.prog 182 #[.agg #[.string (S s),.slice af nf cf,.slice ab nb cb],.agg #[.slice e0 f0 g0,.slice a1 n1 c1],.agg #[.int .i64 nu,.slice p1 q1 r1,.slice p2 q2 r2,.slice p3 q3 r3]] V2 fun e w'=>
     ∃ (l':List (VL (LB d))) (a':Option Addr) (n' c':Nat),e = .returned (.agg #[.slice a' n' c',.slice a1 n1 c1])∧Hid (l'.map (VL.pl (LB.pl d))=putN M.fD x (l.map (VL.pl (LB.pl d))) (VL.pl (LB.pl d) (⟨nu,bi,ah,su,(p1,q1,r1),(p2,q2,r2),(p3,q3,r3)⟩:VL (LB d))))∧Hid (JSt d W0.heap.size W5 L0 ⟨vb,ub,(some ⟨gB,0,none⟩,m0,d0),(b1,m1,d1)⟩ w' ⟨l',ua,(a',n',c'),(a1,n1,c1)⟩ (vb.drop (i+1)))∧FrB (own1 (e0,f0,g0)) V2 w':=fun V2 hV2=>by
    have ag:=zP hb1 hV2;have hz:=hV2.size;exact D0g (bl.out.mid_none ag M.fD x) (HF.out.bL FAt.sT (hbl _ (hG.on ag))) fz.out.1 fz.out.2 ⟨_,_,_,rfl⟩ ⟨s,rfl⟩ eh.out (by have:=iq.out;have:=eu.out;show(l.length+1)*80≤140737488355328;omega) (by have:=(hbl _ (hG.on ag)).size;omega) (by omega) HX.out (by have:=eu.out;omega) iu.out
   go_wp2_with fail
   rw[←gz.out];refine hat.mono ?_;rintro e V2 ⟨rfl,hb2⟩;have ag:=zP hb1 hb2;have im:=hb2.size;have fq:=(hb2.block wr.heap.size (by omega)).trans io;have fj:=(ag.block (w.heap.size+2) (by omega)).trans xA;have o8:=(ag.block (w.heap.size+1) (by omega)).trans kM;have dp:=hG.on ag;obtain⟨j9,t21,t22,t23⟩:=wK fq;obtain⟨pd,pg,pj⟩:=uG o8;obtain⟨mj,a21⟩:=zO fj;have ak:Hid _:=bl.out.mid_none ag M.fD x;go_wp2_with fail
   refine(hput V2 hb2).mono ?_;rintro e V6 ⟨l',a',n',c',rfl,dv,dz,cw⟩;have zA:w.heap.size+2∉own1 (e0,f0,g0):=fun hm=>by
    exact Qf8
   have o7:=dp.size;have o6:=cw.size;have k6:=(cw.blk (show w.heap.size+2<V2.heap.size by omega) zA).trans fj;exact Qf5
  | some u'=>
  obtain⟨bn,f6,g8⟩:=YB (show(l.map (VL.pl (LB.pl d))).find? (fun v:VI (BI d)=>decide (v.nU=nu))=some u' from hfind);rw[f6] at hat;rw[sE] at g8;obtain⟨u,gh,gi⟩:=Option.map_eq_some_iff.1 g8;have fh:=xV gh;have jv:u'.nU=nu:=by have:=rN hfind;simpa [isV] using this
  have dl:u.nU=nu:=by rw[←jv,←gi];rfl
  have gw:Hid (∀ t:VI (BI d),t=zX (jnB ms d) ms x (VL.pl (LB.pl d) u) (VL.pl (LB.pl d) (⟨nu,bi,ah,su,(p1,q1,r1),(p2,q2,r2),(p3,q3,r3)⟩:VL (LB d)))→putN M.fD x (l.map (VL.pl (LB.pl d))) t=wC (jnB ms d) ms M.fD (l.map (VL.pl (LB.pl d))) (VL.pl (LB.pl d) (⟨nu,bi,ah,su,(p1,q1,r1),(p2,q2,r2),(p3,q3,r3)⟩:VL (LB d)))):=fun t ht=>by
   have e1:M.fD.find? (isF (VL.pl (LB.pl d) (⟨nu,bi,ah,su,(p1,q1,r1),(p2,q2,r2),(p3,q3,r3)⟩:VL (LB d))).nU)=some x:=HX.out;have e2:(l.map (VL.pl (LB.pl d))).find? (isV (VL.pl (LB.pl d) (⟨nu,bi,ah,su,(p1,q1,r1),(p2,q2,r2),(p3,q3,r3)⟩:VL (LB d))).nU)=some u':=hfind;unfold wC;rw[e1,e2,ht,gi]
  have lz:Hid (∀ t:VI (BI d),t=zX (jnB ms d) ms x (VL.pl (LB.pl d) u) (VL.pl (LB.pl d) (⟨nu,bi,ah,su,(p1,q1,r1),(p2,q2,r2),(p3,q3,r3)⟩:VL (LB d)))→t.nU=nu∧jW (jWB d) t≤1000000000):=fun t ht=>by
   have h1:=WO (fun M s t=>iL ms d M s t) ms x (VL.pl (LB.pl d) u) (VL.pl (LB.pl d) (⟨nu,bi,ah,su,(p1,q1,r1),(p2,q2,r2),(p3,q3,r3)⟩:VL (LB d)));have h2:=lH (jW (jWB d)) (vT.2 ⟨u,fh,rfl⟩:VL.pl (LB.pl d) u∈l.map (VL.pl (LB.pl d)));have h3:=eu.out;rw[ht];exact⟨qH (a:=VL.pl (LB.pl d) u) (b:=VL.pl (LB.pl d) (⟨nu,bi,ah,su,(p1,q1,r1),(p2,q2,r2),(p3,q3,r3)⟩:VL (LB d))) (show u.nU=nu from dl),by omega⟩
  have ma:Hid (x.many=false→x.kind=10→∃ M s,ms.find? (isN x.type)=some M∧(VL.pl (LB.pl d) u).subs = [s]∧ShB ms d M s):=by
   obtain⟨_,x2,h1,h2⟩:=lw.out _ (vT.2 ⟨u,fh,rfl⟩);have:x2=x:=by
    have h3:M.fD.find? (isF (VL.pl (LB.pl d) u).nU)=some x:=by
     show M.fD.find? (isF u.nU)=some x;rw[dl];exact HX.out
    rw[h3] at h1;exact(Option.some.inj h1).symm
   subst this;exact h2
  have mg:Hid (jW (jWB d) (VL.pl (LB.pl d) u)+jW (jWB d) (VL.pl (LB.pl d) (⟨nu,bi,ah,su,(p1,q1,r1),(p2,q2,r2),(p3,q3,r3)⟩:VL (LB d)))≤1000000000):=by
   have h2:=lH (jW (jWB d)) (vT.2 ⟨u,fh,rfl⟩:VL.pl (LB.pl d) u∈l.map (VL.pl (LB.pl d)));have h3:=eu.out;show _≤_;omega
  have eo:=zI fh;have l7:=zI dl;obtain⟨gA,rfl,fd⟩:=(show Row (ekV (LB d)) wr W0.heap.size (.slice e0 f0 g0) l from bl.out.own.r0).get gh;have nr:=(show Row (ekV (LB d)) wr W0.heap.size (.slice (some ⟨gA,0,none⟩) f0 g0) l from bl.out.own.r0).len;have hat':(bn:Int)<(f0:Int):=by have:=(yG.1 gh).1;omega
  have nj:¬ (bn:Int)<0:=by omega
  have nk:decide ((0:Int)≤(bn:Int))=true:=by simp
  clear nr;have py:=((show Row (ekV (LB d)) wr W0.heap.size (.slice (some ⟨gA,0,none⟩) f0 g0) l from bl.out.own.r0).own gA rfl).2;obtain⟨kf,jg,hK2⟩:=YB (show M.fD.find? (fun f=>decide (f.nU=nu))=some x from HX.out);obtain⟨bf,of,rfl,ik⟩:=HF.out.get FAt.plain hK2;have p9:(kf:Int)<(nf:Int):=by have:=(yG.1 hK2).1;have:=HF.out.len.1;omega
  have nv:¬ (kf:Int)<0:=by omega
  obtain⟨y0,y1,y2,y3,y4,y5⟩:=ik;rw[xS] at y1 y2 y3 y4 y5;have px:=B4l y0;have j8:∀ k,k∈VL.fp (LB.fp d) u++VL.fp (LB.fp d) (⟨nu,bi,ah,su,(p1,q1,r1),(p2,q2,r2),(p3,q3,r3)⟩:VL (LB d))→k<wr.heap.size∧W0.heap.size≤k∧k≠gA∧(k<W5.heap.size→k∈L0):=fun k hk=>by
   have h0:0<(VL.fp (LB.fp d) u).count k+(VL.fp (LB.fp d) (⟨nu,bi,ah,su,(p1,q1,r1),(p2,q2,r2),(p3,q3,r3)⟩:VL (LB d))).count k:=by
    have:=yD.2 hk
    rwa [tR] at this
   have h1:=bl.out.once k;unfold tV at h1;rw[pZ] at h1;have h2:=eA (VL.fp (LB.fp d)) k eo.out;have h3:(own1 (some ⟨gA,0,none⟩,f0,g0)).count gA=1:=by simp[own1,PV.v,Value.ownBlock]
   dsimp only at h1;refine⟨?_,?_,fun e=>?_,fun hlt=>yD.1 (by have:=h1.2 hlt;omega)⟩
   ·rcases zU.1 hk with hk|hk
    ·exact((bl.out.own.r0v u eo.out).lt k hk).2
    exact((bl.out.ownr _ (vF ..)).lt k hk).2
   ·rcases zU.1 hk with hk|hk
    ·exact((bl.out.own.r0v u eo.out).lt k hk).1
    exact((bl.out.ownr _ (vF ..)).lt k hk).1
   rw[e] at h0 h1 h2;omega
  have dt:Hid _:=j8;obtain⟨un,bc,bg,bh,⟨u1,v1,au⟩,⟨u2,v2,av⟩,⟨u3,v3,aw⟩⟩:=u;have i7:wr.cell? ⟨gA,bn*4,none⟩=some (.int .i64 un):=fd 0 _ rfl;have i9:wr.cell? ⟨gA,bn*4+1,none⟩=some (.slice u1 v1 au):=fd 1 _ rfl;have ja:wr.cell? ⟨gA,bn*4+2,none⟩=some (.slice u2 v2 av):=fd 2 _ rfl;have jb:wr.cell? ⟨gA,bn*4+3,none⟩=some (.slice u3 v3 aw):=fd 3 _ rfl;have pw:Hid _:=gi;clear fd hfind f6 g8 gh gi fh jv dl j8;go_wp2_with fail
  rw[←gz.out];refine hat.mono ?_;rintro e V2 ⟨rfl,hb2⟩;have ag:=zP hb1 hb2;have im:=hb2.size;have g9:=hG.on ag;have fq:=(hb2.block wr.heap.size (by omega)).trans io;have jx:=(ag.block (w.heap.size+2) (by omega)).trans xA;obtain⟨jF,jM,_,_⟩:=cu V2 g9;obtain⟨j9,t21,t22,t23⟩:=wK fq;have dn:=hbl _ g9;have nI:∀ k,k∈VL.fp (LB.fp d) (⟨un,bc,bg,bh,(u1,v1,au),(u2,v2,av),(u3,v3,aw)⟩:VL (LB d))++VL.fp (LB.fp d) (⟨nu,bi,ah,su,(p1,q1,r1),(p2,q2,r2),(p3,q3,r3)⟩:VL (LB d))++[wr.heap.size]→W0.heap.size≤k∧k≠gA∧k≠w.heap.size∧k≠w.heap.size+1∧k≠w.heap.size+2:=fun k hk=>by
   rcases zU.1 hk with hk|hk
   ·obtain⟨h1,h2,h3,h4⟩:=dt.out k hk;have h5:k<W5.heap.size→k<w.heap.size:=fun h=>(lh.out k (h4 h)).2
    refine⟨h2,h3,?_,?_,?_⟩ <;> (intro e;have:=h5 (by omega);omega)
   rw[zS] at hk;omega
  obtain⟨Q6,dw⟩:∃ Q6:World→Prop,Hid (∀ V,Q6 V↔∀ k,k<V2.heap.size→k∉VL.fp (LB.fp d) (⟨un,bc,bg,bh,(u1,v1,au),(u2,v2,av),(u3,v3,aw)⟩:VL (LB d))++VL.fp (LB.fp d) (⟨nu,bi,ah,su,(p1,q1,r1),(p2,q2,r2),(p3,q3,r3)⟩:VL (LB d))++[wr.heap.size]→V.heap[k]?=V2.heap[k]?):=⟨_,fun _=>Iff.rfl⟩
  have ac:∀ V,Q6 V→(V.cell? ⟨w.heap.size,0,none⟩=some (.slice am nm cm)∧V.cell? ⟨w.heap.size,1,none⟩=some (.slice ae ne ce)∧V.cell? ⟨w.heap.size+1,0,none⟩=some (.string (S s))∧V.cell? ⟨w.heap.size+1,1,none⟩=some (.slice (some ⟨bf,of,none⟩) nf cf)∧V.cell? ⟨w.heap.size+1,2,none⟩=some (.slice ab nb cb)∧V.cell? ⟨w.heap.size+2,0,none⟩=some (.slice (some ⟨gA,0,none⟩) f0 g0))∧(V.cell? ⟨bf,of+kf*6,none⟩=some (.string (S x.name))∧V.cell? ⟨bf,of+kf*6+1,none⟩=some (.int .i64 x.nU)∧V.cell? ⟨bf,of+kf*6+2,none⟩=some (.int .i64 x.kind)∧V.cell? ⟨bf,of+kf*6+3,none⟩=some (.string (S x.type))∧V.cell? ⟨bf,of+kf*6+4,none⟩=some (.bool x.many)∧V.cell? ⟨bf,of+kf*6+5,none⟩=some (.int .i64 x.cE))∧V.cell? ⟨gA,bn*4,none⟩=some (.int .i64 un)∧V.cell? ⟨gA,bn*4+1,none⟩=some (.slice u1 v1 au)∧V.cell? ⟨gA,bn*4+2,none⟩=some (.slice u2 v2 av)∧V.cell? ⟨gA,bn*4+3,none⟩=some (.slice u3 v3 aw):=fun V hV=>by
   have ow:=dn.size;have q1:=(dw.out V).1 hV;obtain⟨e0,e1⟩:=zO ((q1 (w.heap.size) (by omega) (fun h=>(nI _ h).2.2.1 rfl)).trans jF);obtain⟨e2,e3,e4⟩:=uG ((q1 (w.heap.size+1) (by omega) (fun h=>(nI _ h).2.2.2.1 rfl)).trans jM);obtain⟨e5,_⟩:=zO ((q1 (w.heap.size+2) (by omega) (fun h=>(nI _ h).2.2.2.2 rfl)).trans jx);have c1:=pY (q1 bf (by omega) (fun h=>by have:=(nI _ h).1;omega));have c2:=pY (q1 gA (by omega) (fun h=>(nI _ h).2.1 rfl));refine⟨⟨e0,e1,e2,e3,e4,e5⟩,⟨?_,?_,?_,?_,?_,?_⟩,?_,?_,?_,?_⟩
   ·rw[c1];exact zQ dn y0
   ·rw[c1];exact zQ dn y1
   ·rw[c1];exact zQ dn y2
   ·rw[c1];exact zQ dn y3
   ·rw[c1];exact zQ dn y4
   ·rw[c1];exact zQ dn y5
   ·rw[c2];exact zQ ag i7
   ·rw[c2];exact zQ ag i9
   ·rw[c2];exact zQ ag ja
   rw[c2];exact zQ ag jb
  have ii:Q6 V2.drew:=(dw.out _).2 fun _ _ _=>rfl
  have cj:=iU (HF.out.bL FAt.sT (dn.drew)) ⟨ab,nb,cb,rfl⟩ ⟨s,rfl⟩ nu;rw[jg] at cj;have bu:=fun V3 (hV:zB V2.drew V3)=>(dw.out _).2 fun k hk _=>hV.block k hk
  have cg:=fun V3 (hV:zB V2.drew V3)=>(hV.block _ (show wr.heap.size<V2.heap.size by omega)).trans fq
  have dh:∀ V3 V4,zB V2.drew V3→FrB (VL.fp (LB.fp d) (⟨un,bc,bg,bh,(u1,v1,au),(u2,v2,av),(u3,v3,aw)⟩:VL (LB d))++VL.fp (LB.fp d) (⟨nu,bi,ah,su,(p1,q1,r1),(p2,q2,r2),(p3,q3,r3)⟩:VL (LB d))) V3 V4→V4.heap[wr.heap.size]?=some (.cells #[.int .i64 nu,.slice p1 q1 r1,.slice p2 q2 r2,.slice p3 q3 r3] 63 (0,0)):=fun V3 V4 h3 h4=>(h4.blk (by have:=h3.size;have e:V2.drew.heap.size=V2.heap.size:=rfl;omega) (fun h=>by have:=(dt.out _ h).1;omega)).trans (cg V3 h3)
  have df:∀ V3 V4,zB V2.drew V3→FrB (VL.fp (LB.fp d) (⟨un,bc,bg,bh,(u1,v1,au),(u2,v2,av),(u3,v3,aw)⟩:VL (LB d))++VL.fp (LB.fp d) (⟨nu,bi,ah,su,(p1,q1,r1),(p2,q2,r2),(p3,q3,r3)⟩:VL (LB d))) V3 V4→Q6 V4:=fun V3 V4 h3 h4=>(dw.out _).2 fun k hk hn=>(h4.blk (by have:=h3.size;have e:V2.drew.heap.size=V2.heap.size:=rfl;omega) (fun h=>hn (vU _ h))).trans ((dw.out _).1 (bu V3 h3) k hk hn)
  have dg:∀ V4 x0 x1 x2 x3,Q6 V4→V4.heap[wr.heap.size]?=some (.cells #[.int .i64 nu,.slice p1 q1 r1,.slice p2 q2 r2,.slice p3 q3 r3] 63 (0,0))→V2.heap.size≤V4.heap.size→Q6 ((((V4.setCell ⟨wr.heap.size,0,none⟩ x0).setCell ⟨wr.heap.size,1,none⟩ x1).setCell ⟨wr.heap.size,2,none⟩ x2).setCell ⟨wr.heap.size,3,none⟩ x3):=fun V4 x0 x1 x2 x3 hV hT hs=>(dw.out _).2 fun k hk hn=>((fr4 hT).blk (by omega) (fun h=>hn (tI _ h))).trans ((dw.out _).1 hV k hk hn)
  have di:∀ V3,zB V2.drew V3→Calls Tryz.prog 224 #[.agg #[.slice am nm cm,.slice ae ne ce],.agg #[.string (S x.name),.int .i64 x.nU,.int .i64 x.kind,.string (S x.type),.bool x.many,.int .i64 x.cE],.agg #[.int .i64 un,.slice u1 v1 au,.slice u2 v2 av,.slice u3 v3 aw],.agg #[.int .i64 nu,.slice p1 q1 r1,.slice p2 q2 r2,.slice p3 q3 r3]] V3 fun e w'=>
    ∃ (t:VL (LB d)) (x1:Option Addr) (y1 z1:Nat) (x2:Option Addr) (y2 z2:Nat) (x3:Option Addr) (y3 z3:Nat),e = .returned (.agg #[.int .i64 t.nU,.slice x1 y1 z1,.slice x2 y2 z2,.slice x3 y3 z3])∧Hid (t.p1=(x1,y1,z1)∧t.p2=(x2,y2,z2)∧t.p3=(x3,y3,z3))∧Hid (JMid d W0.heap.size W5 L0 ⟨vb,ub,(some ⟨gB,0,none⟩,m0,d0),(b1,m1,d1)⟩ M.fD x w' ⟨l,ua,(some ⟨gA,0,none⟩,f0,g0),(a1,n1,c1)⟩ t (vb.drop (i+1)) wr.heap.size)∧Hid (VL.pl (LB.pl d) t=zX (jnB ms d) ms x (VL.pl (LB.pl d) (⟨un,bc,bg,bh,(u1,v1,au),(u2,v2,av),(u3,v3,aw)⟩:VL (LB d))) (VL.pl (LB.pl d) (⟨nu,bi,ah,su,(p1,q1,r1),(p2,q2,r2),(p3,q3,r3)⟩:VL (LB d))))∧FrB (VL.fp (LB.fp d) (⟨un,bc,bg,bh,(u1,v1,au),(u2,v2,av),(u3,v3,aw)⟩:VL (LB d))++VL.fp (LB.fp d) (⟨nu,bi,ah,su,(p1,q1,r1),(p2,q2,r2),(p3,q3,r3)⟩:VL (LB d))) V3 w':=fun V3 jk=>by
   have hb3:=zP (ag.drew) jk;have hz3:=jk.size;have e2:V2.drew.heap.size=V2.heap.size:=rfl;refine(D8j (bl.out.metIn hb3 (hbl _ hG) eo.out mg.out) li.out lg.out x ma.out mh.out).mono ?_;rintro e w' ⟨⟨tn,tb,ty,ts,⟨x1,y1,z1⟩,⟨x2,y2,z2⟩,⟨x3,y3,z3⟩⟩,rfl,hpl,od,oh,ba,cw⟩;refine⟨⟨tn,tb,ty,ts,(x1,y1,z1),(x2,y2,z2),(x3,y3,z3)⟩,x1,y1,z1,x2,y2,z2,x3,y3,z3,rfl,⟨rfl,rfl,rfl⟩,?_,hpl,cw⟩;exact bl.out.mid_met hb3 (by omega) (by omega) eo.out (by rw[l7.out];exact YP HX.out) od oh ba cw
  have lm:Hid _:=ii;clear hat io hb1 jg y0 y1 y2 y3 y4 y5 i7 i9 ja jb w0 w1 w2 w3;go_wp2_with fail
  go_cut [10] from 25 to 40 (fun pn wc=>∃ (t:VL (LB d)) (x1:Option Addr) (y1 z1:Nat) (x2:Option Addr) (y2 z2:Nat) (x3:Option Addr) (y3 z3:Nat),pn = .pointer (some ⟨wr.heap.size,0,none⟩)∧Hid (t.p1=(x1,y1,z1)∧t.p2=(x2,y2,z2)∧t.p3=(x3,y3,z3))∧Hid (JMid d W0.heap.size W5 L0 ⟨vb,ub,(some ⟨gB,0,none⟩,m0,d0),(b1,m1,d1)⟩ M.fD x wc ⟨l,ua,(some ⟨gA,0,none⟩,f0,g0),(a1,n1,c1)⟩ t (vb.drop (i+1)) wr.heap.size)∧Hid (VL.pl (LB.pl d) t=zX (jnB ms d) ms x (VL.pl (LB.pl d) (⟨un,bc,bg,bh,(u1,v1,au),(u2,v2,av),(u3,v3,aw)⟩:VL (LB d))) (VL.pl (LB.pl d) (⟨nu,bi,ah,su,(p1,q1,r1),(p2,q2,r2),(p3,q3,r3)⟩:VL (LB d))))∧wc.heap[wr.heap.size]?=some (.cells #[.int .i64 t.nU,.slice x1 y1 z1,.slice x2 y2 z2,.slice x3 y3 z3] 63 (0,0))∧FrB (VL.fp (LB.fp d) (⟨un,bc,bg,bh,(u1,v1,au),(u2,v2,av),(u3,v3,aw)⟩:VL (LB d))++VL.fp (LB.fp d) (⟨nu,bi,ah,su,(p1,q1,r1),(p2,q2,r2),(p3,q3,r3)⟩:VL (LB d))++[wr.heap.size]) V2 wc)
  case first=>
   refine wp_region_held_drew (S:=Q6) (by kernel_rfl) ii (fun hHeld=>?_);refine zTk 0 rfl ac ?_
   try simp only[Act.put,oS]
   refine zTk 1 rfl ac ?_
   try simp only[Act.put]
   refine zTk 2 rfl ac ?_
   try simp only[Act.put]
   refine zTk 3 rfl ac ?_
   try simp only[Act.put]
   refine zTk 4 rfl ac ?_
   try simp only[Act.put]
   refine zTk 9 rfl ac ?_
   try simp only[Act.put]
   refine zTk 10 rfl ac ?_
   try simp only[Act.put]
   refine zTk 11 rfl ac ?_
   try simp only[Act.put]
   refine zTk 12 rfl ac ?_
   try simp only[Act.put]
   refine zTk 13 rfl ac ?_
   try simp only[Act.put]
   refine rB (i:=5) (j:=14) rfl (fun K hK=>?_) rfl fun K hK=>?_
   ·skip;go_simp;refine hK.out _ _ ?_ (fun hHeld=>?_)
    ·exact Qf7
    clear hK K
    try simp only[zE]
    refine rB (i:=6) (j:=14) rfl (fun K hK=>?_) rfl fun K hK=>?_
    ·skip;go_simp;refine cj.mono ?_;rintro e V3 ⟨rfl,hb3⟩;have jh:=bu V3 hb3;have fu:=cg V3 hb3;obtain⟨ke,kg,kj,t33⟩:=wK fu;refine hK.out _ _ ?_ (fun hHeld=>?_)
     ·exact Qf7
     clear hK K
     try simp only[zE]
     refine zTk 7 rfl ac ?_
     try simp only[Act.put,oS]
     refine zTk 8 rfl ac ?_
     try simp only[Act.put]
     refine rA (i:=14) rfl fun K hK=>?_
     go_simp;refine hK.out _ _ ?_ (fun hHeld=>?_)
     ·exact Qf7
     clear hK K
     try simp only[zE]
     exact gQ
    skip;exact aH
   skip;go_simp;refine hK.out _ _ ?_ (fun hHeld=>?_)
   ·exact Qf7
   clear hK K
   try simp only[zE]
   refine rA (i:=5) rfl fun K hK=>?_
   exact aH
  obtain⟨t,x1,y1,z1,x2,y2,z2,x3,y3,z3,rfl,HP,ak,dm,pc,il⟩:=hcut;have qg:=il.size;have dp:FrB (L0++[w.heap.size+2]) W5 wc:=bk _ _ _ g9 il fun k hk hlt=>by
   rcases zU.1 hk with hk|hk
   ·exact vU _ ((dt.out k hk).2.2.2 hlt)
   rw[zS] at hk;omega
  have fj:=(il.blk (show w.heap.size+2<V2.heap.size by omega) (fun h=>(nI _ h).2.2.2.2 rfl)).trans jx;obtain⟨_,o9,_,_⟩:=cu wc dp;obtain⟨j9,t21,t22,t23⟩:=wK pc;obtain⟨pd,pg,pj⟩:=uG o9;obtain⟨mj,a21⟩:=zO fj;have gu:Hid _:=gw.out _ dm.out;have hput:Calls Tryz.prog 182 #[.agg #[.string (S s),.slice (some ⟨bf,of,none⟩) nf cf,.slice ab nb cb],.agg #[.slice (some ⟨gA,0,none⟩) f0 g0,.slice a1 n1 c1],.agg #[.int .i64 t.nU,.slice x1 y1 z1,.slice x2 y2 z2,.slice x3 y3 z3]] wc fun e w'=>
    ∃ (l':List (VL (LB d))) (a':Option Addr) (n' c':Nat),e = .returned (.agg #[.slice a' n' c',.slice a1 n1 c1])∧Hid (l'.map (VL.pl (LB.pl d))=putN M.fD x (l.map (VL.pl (LB.pl d))) (VL.pl (LB.pl d) t))∧Hid (JSt d W0.heap.size W5 L0 ⟨vb,ub,(some ⟨gB,0,none⟩,m0,d0),(b1,m1,d1)⟩ w' ⟨l',ua,(a',n',c'),(a1,n1,c1)⟩ (vb.drop (i+1)))∧FrB (own1 (some ⟨gA,0,none⟩,f0,g0)) wc w':=by
   obtain⟨ou,qd⟩:=lz.out _ dm.out;have ju:t.nU=nu:=ou;have:=D0g ak.out (vb:=.slice ab nb cb) (HF.out.bL FAt.sT (hbl _ dp)) fz.out.1 fz.out.2 ⟨_,_,_,rfl⟩ ⟨s,rfl⟩ eh.out (by have:=iq.out;have:=eu.out;show(l.length+1)*80≤140737488355328;omega) (by have:=(hbl _ dp).size;omega) (by omega) (by rw[ju];exact HX.out) (by omega) (by rw[ju];exact iu.out);rw[HP.out.1,HP.out.2.1,HP.out.2.2] at this;exact this
  clear bu cg dh df dg di ac cj jF jM fq ii;go_wp2_with fail
  refine hput.mono ?_;rintro e V6 ⟨l',a',n',c',rfl,dv,dz,cw⟩;have zA:w.heap.size+2∉own1 (some ⟨gA,0,none⟩,f0,g0):=fun hm=>by
   exact Qf8
  have o7:=dp.size;have o6:=cw.size;have k6:=(cw.blk (show w.heap.size+2<wc.heap.size by omega) zA).trans fj;exact Qf5
 have hi':i=m0:=by omega
 have hJ:JSt d W0.heap.size W5 L0 ⟨vb,ub,(b0,m0,d0),(b1,m1,d1)⟩ wr ⟨l,ua,(e0,f0,g0),(a1,n1,c1)⟩ []:=by
  have h1:=HJ.out
  rwa [sF (by have:=gp.out;omega)] at h1
 have lj:Hid (l.map (VL.pl (LB.pl d))=(vb.map (VL.pl (LB.pl d))).foldl (wC (jnB ms d) ms M.fD) (va.map (VL.pl (LB.pl d)))):=by
  have h1:=ei.out
  rwa [uP (by have:=gp.out;omega)] at h1
 have hr1:Row ekR wr W0.heap.size (PV.v (a1,n1,c1)) ua:=hJ.own.r1;have hr2:Row ekR wr W0.heap.size (PV.v (b1,m1,d1)) ub:=hJ.rb1;have nw:(ua.length+ub.length)*48≤140737488355328:=by
  have:=ee.out;simp only[yX] at this;omega
 have bB:=(hbl _ hG).size;obtain⟨pp,pq⟩:=zO xA;obtain⟨ql,qm⟩:=zO kB;have ip:Hid _:=hJ;clear hJ ig gc f9 kF kM;unfold PV.v at hr1 hr2;go_wp2_with (at_builtin;refine iX rfl ekR _ _ rfl W0.heap.size (a1,n1,c1) (b1,m1,d1) ua ub (by decide) rfl hr1 rfl hr2 (by decide) nw bB ?_)
 intro e1 f1 g1 w1 R1 O1 F1 M1;have qp:=F1.size;have z0:∀ k,w.heap.size≤k→k<W5.heap.size→tV d ⟨vb,ub,(b0,m0,d0),(b1,m1,d1)⟩ ⟨l,ua,(e0,f0,g0),(a1,n1,c1)⟩ [] k=0:=fun k h1 h2=>by
  have:=(ip.out.once k).2 h2;have:=d9.out k h1;omega
 have fw:∀ k,w.heap.size≤k→k<W5.heap.size→k∉own1 (a1,n1,c1):=fun k h1 h2 hm=>by
  have h3:=z0 k h1 h2;have h4:=yD.2 hm;unfold tV at h3;dsimp only at h3;omega
 have gj:=(F1.blk (show w.heap.size+2<wr.heap.size by omega) (fw _ (by omega) (by omega))).trans xA;have fk:=(F1.blk (show w.heap.size+4<wr.heap.size by omega) (fw _ (by omega) (by omega))).trans kR;obtain⟨s0,s1⟩:=zO gj;have q1:=zJ gj 1;obtain⟨r0,r1⟩:=zO fk;have q2:=zJ fk 0;have q3:=zJ fk 1;have G1:FrB [w.heap.size+2] w1 (w1.setCell ⟨w.heap.size+2,1,none⟩ (.slice e1 f1 g1)):=uW gj (by decide);have jy:=(G1.blk (show w.heap.size+4<w1.heap.size by omega) (by simp)).trans fk;have G2:=fC jy (x0:=.slice e0 f0 g0) (x1:=.slice e1 f1 g1);have HT:Hid (FrB [w.heap.size+2,w.heap.size+4] w1 _):=G1.trans G2 (fun i hi=>by simp at hi;simp[hi]) (fun i hi=>.inl (by simp at hi;simp[hi]));have lp:Hid _:=R1;have dx:Hid _:=F1;have ir:Hid _:=M1;clear gj fk G1 jy G2 R1 O1 F1 M1;go_wp2_with fail
 refine bodyPost_ret (v:=.agg #[.slice e0 f0 g0,.slice e1 f1 g1]) (by simp[results,Tryz.results214,go_sem, *]) rfl ?_;have T:=HT.out;have hJ:=ip.out;have nT:∀ k,k<w.heap.size∨W5.heap.size≤k→k∉[w.heap.size+2,w.heap.size+4]:=fun k hk hm=>by
  simp only[yY,rI,or_false] at hm;omega
 have cJ:=hJ.once;have lJ:=fun k=>hJ.lt (k:=k)
 unfold tV at cJ z0 lJ;dsimp only at cJ z0 lJ;have nK:∀ k,0<(own1 (e0,f0,g0)).count k+(l.flatMap (VL.fp (LB.fp d))).count k→k∉own1 (a1,n1,c1)∧k∉[w.heap.size+2,w.heap.size+4]:=fun k hk=>⟨fun hm=>by
   have:=yD.2 hm;have:=(cJ k).1;omega,nT k (by
   have h1:=z0 k;omega)⟩
 refine⟨(⟨l,ua++ub,(e0,f0,g0),(e1,f1,g1)⟩:BL (LB d)),e0,f0,g0,e1,f1,g1,rfl,rfl,?_,?_,?_,?_⟩
 ·show(⟨l.map (VL.pl (LB.pl d)),(ua++ub).map Prod.fst⟩:BO (BI d))=⟨(vb.map (VL.pl (LB.pl d))).foldl (wC (jnB ms d) ms M.fD) (va.map (VL.pl (LB.pl d))),ua.map Prod.fst++ub.map Prod.fst⟩;rw[lj.out,wM]
 ·refine⟨Row.frB (p:=(e0,f0,g0)) (Row.frB (p:=(e0,f0,g0)) hJ.own.r0 dx.out fun k hk=>(nK k (by have:=yD.2 hk;omega)).1) T fun k hk=>(nK k (by have:=yD.2 hk;omega)).2,fun v hv=>OwnV.fr (OwnB.fr d) (OwnV.fr (OwnB.fr d) (hJ.own.r0v v hv) dx.out fun k hk=>(nK k (by have:=yD.2 (vL.2 ⟨v,hv,hk⟩:k∈l.flatMap (VL.fp (LB.fp d)));omega)).1) T fun k hk=>(nK k (by have:=yD.2 (vL.2 ⟨v,hv,hk⟩:k∈l.flatMap (VL.fp (LB.fp d)));omega)).2,Row.frB (p:=(e1,f1,g1)) lp.out T fun k hk=>nT k ?_,fun r hr=>?_⟩
  ·rcases ir.out k hk with h1|h1
   ·have:=yD.2 h1;have:=z0 k;omega
   omega
  rcases zU.1 hr with hr|hr
  ·exact((hJ.own.r1y r hr).frY dx.out).frY T
  exact((hJ.rb1y r hr).frY dx.out).frY T
 ·intro k;have o1:=mM (e1,f1,g1) k;have o2:0<(own1 (e1,f1,g1)).count k→0<(own1 (a1,n1,c1)).count k∨wr.heap.size≤k:=fun h=>(ir.out k (wF h)).imp yD.2 id
  have h1:=cJ k;have h2:=lJ k;rw[←fy.out];show(BL.fp (LB.fp d) (⟨l,ua++ub,(e0,f0,g0),(e1,f1,g1)⟩:BL (LB d))).count k≤1∧(k<w.heap.size→(BL.fp (LB.fp d) (⟨l,ua++ub,(e0,f0,g0),(e1,f1,g1)⟩:BL (LB d))).count k≤L0.count k);rw[YS];dsimp only;exact⟨by omega,fun hk=>by have:=h1.2 (by omega);omega⟩
 rw[←fy.out];have t1:FrB (L0++[w.heap.size+2]) W5 w1:=bk _ _ _ hG dx.out fun k hk hlt=>by
  have:=yD.2 hk;have:=(cJ k).2 hlt;exact vU _ (yD.1 (by omega))
 have t2:FrB (L0++[w.heap.size+2,w.heap.size+4]) W5 _:=t1.trans T (fun i hi=>by
  rcases zU.1 hi with hi|hi
  ·exact vU _ hi
  exact tI _ (by simp at hi;simp[hi])) (fun i hi=>.inl (tI _ hi))
 exact(FrB.of_below gg:FrB L0 w W5).trans t2 (fun _ hi=>hi) fun i hi=>by
  rcases zU.1 hi with hi|hi
  ·exact .inl hi
  right;simp only[yY,rI,or_false] at hi;omega
end L
end Go.Proofs.YthcomdofaaeihaaGreatDoor
