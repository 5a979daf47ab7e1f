import Derived.Test.YthcomdofaaeihaaGreatDoorV22
import Derived.Test.YthcomdofaaeihaaGreatDoorV24
set_option maxHeartbeats 32000000
set_option maxRecDepth 100000
set_option linter.unusedVariables false
namespace Go.Proofs.YthcomdofaaeihaaGreatDoor
namespace L
open Go.RowKit
def wvE {β:Type}(x:FI)(v:VI β)(f:List UInt8→β→Int):Int:=
 if xG x v then 8 else if vK x v then 5 else if xQ x v then 2
 else if yJ (yU x.kind) v.bits≠0 then yJ (yU x.kind) v.bits
 else if yJ (wN x.kind) v.bytes≠0 then yJ (wN x.kind) v.bytes
 else yJ (f x.type) v.subs
def YT (g:GI)(W0:World)(vm ve:Value)(d:Nat):Prop:=∀ (w:World) (k:Int) (j:Nat) (m:MI) (v0 v1:Value) (x:BI d),zB W0 w→0≤k→k≤100→g.mG[j]?=some m→BQ d w v0 v1 x→BOk d x→
 Calls Tryz.prog 32 #[.agg #[vm,ve],.int .i64 (j:Int),.agg #[v0,v1],.int .i64 k] w fun r w'=>r = .returned (.int .i64 (yT g d k m.fD x))∧zB w w'
theorem Qk6{P:Prop}(h:P:=by
 go_wp2_with fail
 go_meet;exact⟨rfl,rfl⟩):P:=h
theorem eP{P:Prop}(h:P:=by
 go_wp2_with fail
 go_roundg (n2-(q2+1))
 case measure=>omega
 case rel=>exact⟨q2+1,by omega,by go_num,ba,hbr⟩):P:=h
theorem C6m {g:GI}{d:Nat}{W0 w:World}{am:Option Addr}{nm cm:Nat}{ae:Option Addr}{ne ce:Nat}(hg:GRd W0 (.slice am nm cm) (.slice ae ne ce) g)(ih:YT g W0 (.slice am nm cm) (.slice ae ne ce) d)(h0:zB W0 w){bx ox:Nat}{x:FI}(hx:FAt W0 ⟨bx,ox,none⟩ x)(cj:x.kind=10→∃ m',g.mG.find? (fun m=>decide (m.name=x.type))=some m')(v:VI (BI d))(hv:VOk (BOk d) v){a1 a2 a3:Option Addr}{n1 n2 n3 c1 c2 c3:Nat}(r1:RdL 1 UAt w (.slice a1 n1 c1) v.bits)(r2:RdL 1 ZAt w (.slice a2 n2 c2) v.bytes)(r3:RdL 2 (BAt d) w (.slice a3 n3 c3) v.subs)(k:Int)(iu:0≤k)(iw:k≤99) :
  Calls Tryz.prog 84 #[.agg #[.slice am nm cm,.slice ae ne ce],.pointer (some ⟨bx,ox,none⟩),.agg #[.int .i64 v.nU,.slice a1 n1 c1,.slice a2 n2 c2,.slice a3 n3 c3],.int .i64 k] w fun e w'=>e = .returned (.int .i64 (wvE x v fun name s=>yT g d (k+1) (wL g name) s))∧zB w w':=by
 obtain⟨W2,f9,hb2,-,x0,x1⟩:=uD w (.cells #[.slice am nm cm,.slice ae ne ce] 25) (.cells #[.int .i64 v.nU,.slice a1 n1 c1,.slice a2 n2 c2,.slice a3 n3 c3] 63);have hz2:=(zR x1)
 have bc:=h0.trans (hb2.mono h0.size);have l1:=r1.len.1;have l2:=r2.len.1;have l3:=r3.len.1;have L1:=zI l1;have L2:=zI l2;have L3:=zI l3;have ah:∀ V,zB W2 V→(V.cell? ⟨w.heap.size,0,none⟩=some (.slice am nm cm)∧V.cell? ⟨w.heap.size,1,none⟩=some (.slice ae ne ce))∧(V.cell? ⟨w.heap.size+1,0,none⟩=some (.int .i64 v.nU)∧V.cell? ⟨w.heap.size+1,1,none⟩=some (.slice a1 n1 c1)∧V.cell? ⟨w.heap.size+1,2,none⟩=some (.slice a2 n2 c2)∧V.cell? ⟨w.heap.size+1,3,none⟩=some (.slice a3 n3 c3))∧V.cell? ⟨bx,ox+2,none⟩=some (.int .i64 x.kind)∧V.cell? ⟨bx,ox+3,none⟩=some (.string (S x.type))∧V.cell? ⟨bx,ox+4,none⟩=some (.bool x.many):=fun V hV=>by
  obtain⟨_,_,y2,y3,y4,_⟩:=FAt.sT _ _ _ _ (bc.trans (hV.mono bc.size)) hx;rw[xS] at y2 y3 y4;refine⟨zO ((zN hV).trans x0),?_,y2,y3,y4⟩;have hh:=(zN hV).trans x1;exact⟨zL hh 0 _ rfl,zL hh 1 _ rfl,zL hh 2 _ rfl,zL hh 3 _ rfl⟩
 have gu:n1≤35184372088831∧n2≤35184372088831∧n3≤35184372088831:=by
  obtain⟨_,_,q1,_,q2,_,q3⟩:=hv;unfold reachBytes at q1 q2 q3;omega
 obtain⟨gw,gz,g7⟩:=gu;obtain⟨R,HR⟩:=zM (wvE x v fun name s=>yT g d (k+1) (wL g name) s);rw[←HR.out];have eu:=zI r1;have ew:=zI r2;have f6:=zI r3;have HV:=zI hv;have HG:=zI hg;have fy:=zI ih;have HX:=zI hx;have HSub:=zI cj;have hD:∀ q,zB W2 (W2.drewN q):=fun q=>⟨rfl,rfl,rfl,zG _,fun _ _=>rfl⟩
 have ir:∀ q r,zB W2 ((W2.drewN q).drewN r):=fun q r=>⟨rfl,rfl,rfl,zG _,fun _ _=>rfl⟩
 obtain⟨wB,fj⟩:=yP (rY x v);have ij:∀ V,zB W2 V→Calls Tryz.prog 116 #[.pointer (some ⟨bx,ox,none⟩),.agg #[.int .i64 v.nU,.slice a1 n1 c1,.slice a2 n2 c2,.slice a3 n3 c3]] V fun e w'=>e = .returned (.bool wB)∧zB W2 w':=fun V hV=>(B4t (P:=BAt d) (FAt.sT _ _ _ _ (bc.trans (hV.mono bc.size)) HX.out) v (eu.out.bL UAt.sT (zP hb2 hV)) (ew.out.bL ZAt.sT (zP hb2 hV))).mono fun e w' ⟨h1,h2⟩=>⟨by rw[h1,fj.out],zP hV h2⟩
 obtain⟨⟨p0,p1⟩,⟨p2,p3,p4,p5⟩,p6,p7,p8⟩:=ah W2 (zH _ _);clear l1 l2 l3 r1 r2 r3 hv hg ih hx cj;obtain⟨kT,fe⟩:=yP (decide (x.kind=8∨x.kind=9));obtain⟨kS,fd⟩:=yP (decide (x.kind=10));obtain⟨nT,oT,dh⟩:∃ nT oT:Nat,Hid ((kT=true→nT=n2∧oT=n1+n3)∧(kT=false→nT=n1∧oT=n2+n3)):=by
  cases kT with
  | true=>exact⟨n2,n1+n3,fun _=>⟨rfl,rfl⟩,fun h=>by cases h⟩
  | false=>exact⟨n1,n2+n3,(fun h=>by cases h),fun _=>⟨rfl,rfl⟩⟩
 obtain⟨nn,oo,di⟩:∃ nn oo:Nat,Hid ((kS=true→nn=n3∧oo=n1+n2)∧(kS=false→nn=nT∧oo=oT)):=by
  cases kS with
  | true=>exact⟨n3,n1+n2,fun _=>⟨rfl,rfl⟩,fun h=>by cases h⟩
  | false=>exact⟨nT,oT,(fun h=>by cases h),fun _=>⟨rfl,rfl⟩⟩
 have eo:Hid (xG x v=decide (0<oo)):=by
  show _=_;unfold xG;have h1:=fe.out;have h2:=fd.out;have h3:=dh.out;have h4:=di.out;rw[←L1.out,←L2.out,←L3.out];by_cases c1:x.kind=8∨x.kind=9
  ·rw[xU c1] at h1;rw[yC (by omega)] at h2;rw[zF c1,(h4.2 h2.symm).2,(h3.1 h1.symm).2]
  rw[yC c1] at h1;rw[zC c1];by_cases c2:x.kind=10
  ·rw[xU c2] at h2;rw[zF c2,(h4.1 h2.symm).2]
  rw[yC c2] at h2;rw[zC c2,(h4.2 h2.symm).2,(h3.2 h1.symm).2]
 have HM:Hid (oo=0→yS v=nn):=fun hz=>by
  have h3:=dh.out;have h4:=di.out;unfold yS;rw[←L1.out,←L2.out,←L3.out];cases hs:kS with
  | true=>obtain⟨e1,e2⟩:=h4.1 hs;omega
  | false=>
  obtain⟨e1,e2⟩:=h4.2 hs;cases ht:kT with
  | true=>obtain⟨e3,e4⟩:=h3.1 ht;omega
  | false=>obtain⟨e3,e4⟩:=h3.2 ht;omega
 have g8:nn≤70368744177662∧oo≤70368744177662∧nT≤70368744177662∧oT≤70368744177662:=by
  have h3:=dh.out;have h4:=di.out;cases hs:kS <;> cases ht:kT <;> simp only[hs,ht,true_implies,false_implies,mS,Bool.true_eq_false] at h3 h4 <;> omega
 obtain⟨g9,ie,ig,ii⟩:=g8;go_enter Tryz.func84,Tryz.ntmps84;go_wp2_with fail
 rw[←f9.out];go_cut [9,10] from 19 to 28 (fun s9 cu wc=>s9 = .int .i64 (n1:Int)∧cu = .int .i64 ((n2:Int)+(n3:Int))∧zB W2 wc)
 case first=>
  go_quiet (fail)
  all_goals
   go_wp2_with fail
   go_meet;exact⟨rfl,rfl,hD _⟩
 obtain⟨rfl,rfl,hb3⟩:=hcut;clear p0 p1 p2 p3 p4 p5 p6 p7 p8;obtain⟨⟨p0,p1⟩,⟨p2,p3,p4,p5⟩,p6,p7,p8⟩:=ah wc hb3;obtain⟨wo,bl⟩:∃ wo,wo=wc:=⟨_,rfl⟩
 subst bl;go_upto_region 2 with fail
 go_cut [40] from 29 to 39 (fun ip wc=>ip = .bool kT∧wo=wc)
 case first=>
  have bh:=fe.out;by_cases c8:x.kind=8
  ·have e8:=beq_iff_eq.2 c8;rw[xU (.inl c8)] at bh;subst bh;clear c8;exact Qk6
  have e8:=beq_eq_false_iff_ne.2 c8;by_cases c9:x.kind=9
  ·have e9:=beq_iff_eq.2 c9;rw[xU (.inr c9)] at bh;subst bh;clear c8 c9;exact Qk6
  have e9:=beq_eq_false_iff_ne.2 c9;rw[yC (by omega)] at bh;subst bh;clear c8 c9;exact Qk6
 obtain⟨rfl,rfl⟩:=hcut;go_upto_if 40 with fail
 go_cut [9,10] from 41 to 50 (fun s9 cu wc=>s9 = .int .i64 (nT:Int)∧cu = .int .i64 (oT:Int)∧zB W2 wc)
 case first=>
  have h3:=dh.out;cases kT with
  | true=>
   obtain⟨e3,e4⟩:=h3.1 rfl;have HH:Hid ((nT:Int)=n2∧(oT:Int)=(n1:Int)+(n3:Int)):=⟨by omega,by omega⟩
   clear h3 e3 e4;go_wp2_with fail
   go_quiet (fail)
   all_goals
    go_wp2_with fail
    go_meet;exact⟨by rw[HH.out.1],by rw[HH.out.2],hb3.trans ⟨rfl,rfl,rfl,zG _,fun _ _=>rfl⟩⟩
  | false=>
  obtain⟨e3,e4⟩:=h3.2 rfl;have HH:Hid ((nT:Int)=n1∧(oT:Int)=(n2:Int)+(n3:Int)):=⟨by omega,by omega⟩
  clear h3 e3 e4;go_wp2_with fail
  go_meet;exact⟨by rw[HH.out.1],by rw[HH.out.2],hb3⟩
 obtain⟨rfl,rfl,hb4⟩:=hcut;clear p0 p1 p2 p3 p4 p5 p6 p7 p8;obtain⟨⟨p0,p1⟩,⟨p2,p3,p4,p5⟩,p6,p7,p8⟩:=ah wc hb4;obtain⟨fu,bl⟩:∃ fu,fu=wc:=⟨_,rfl⟩
 subst bl;go_upto_if 55 with fail
 obtain⟨N,HN⟩:=zM ((nn:Int):Int);obtain⟨O,HO⟩:=zM ((oo:Int):Int);go_cut [9,10] from 56 to 65 (fun s9 cu wc=>s9 = .int .i64 N∧cu = .int .i64 O∧zB W2 wc)
 case first=>
  have h4:=di.out;have bg:=fd.out;by_cases c10:x.kind=10
  ·have gp:=beq_iff_eq.2 c10;rw[xU c10] at bg;obtain⟨e3,e4⟩:=h4.1 bg.symm;have HH:Hid (N=n3∧O=(n1:Int)+(n2:Int)):=⟨by rw[HN.out];omega,by rw[HO.out];omega⟩
   clear h4 e3 e4 c10 bg;go_wp2_with fail
   go_quiet (fail)
   all_goals
    go_wp2_with fail
    go_meet;exact⟨by rw[HH.out.1],by rw[HH.out.2],hb4.trans ⟨rfl,rfl,rfl,zG _,fun _ _=>rfl⟩⟩
  have gp:=beq_eq_false_iff_ne.2 c10;rw[yC c10] at bg;obtain⟨e3,e4⟩:=h4.2 bg.symm;have HH:Hid (N=nT∧O=oT):=⟨by rw[HN.out];omega,by rw[HO.out];omega⟩
  clear h4 e3 e4 c10 bg;go_wp2_with fail
  go_meet;exact⟨by rw[HH.out.1],by rw[HH.out.2],hb4⟩
 obtain⟨rfl,rfl,dl⟩:=hcut;clear p0 p1 p2 p3 p4 p5 p6 p7 p8;obtain⟨⟨p0,p1⟩,⟨p2,p3,p4,p5⟩,p6,p7,p8⟩:=ah wc dl;obtain⟨d9,bl⟩:∃ d9,d9=wc:=⟨_,rfl⟩
 subst bl;by_cases q0:0<oo
 ·have f0:decide (0<O)=true:=by rw[HO.out];simp;omega
  have HF:Hid (R=8):=by
   show _=_;rw[HR.out];unfold wvE;rw[eo.out,xU q0];rfl
  clear q0;go_wp2_with fail
  go_ret;exact⟨by rw[HF.out];rfl,zP hb2 dl⟩
 have f0:decide (0<O)=false:=by rw[HO.out];simp;omega
 have df:=zI (eo.out.trans (yC q0));have ei:=zI (HM.out (by omega));clear q0;obtain⟨mB,bk⟩:=yP (vK x v);have aj:Hid (vK x v=(decide (nn<1)||(decide (60<nn)||(decide (1<nn)&&!x.many)))):=by
  show _=_;unfold vK;rw[ei.out]
 go_upto_region 8 with fail
 go_cut [84] from 69 to 83 (fun iq wc=>iq = .bool mB∧d9=wc)
 case first=>
  have hm:=aj.out;rw[bk.out] at hm;by_cases q1:nn=0
  ·have f1:(N==0)=true:=by rw[HN.out];simp;omega
   rw[xU (by omega:nn<1),Bool.true_or] at hm;subst hm;clear q1;exact Qk6
  have f1:(N==0)=false:=by rw[HN.out];simp;omega
  rw[yC (by omega:¬ nn<1),lU] at hm;by_cases q2:60<nn
  ·have f2:decide (60<N)=true:=by rw[HN.out];simp;omega
   rw[xU q2,Bool.true_or] at hm;subst hm;clear q1 q2;exact Qk6
  have f2:decide (60<N)=false:=by rw[HN.out];simp;omega
  rw[yC q2,lU] at hm;by_cases q3:1<nn
  ·have f3:decide (1<N)=true:=by rw[HN.out];simp;omega
   rw[xU q3,Bool.true_and] at hm;subst hm;clear q1 q2 q3;exact Qk6
  have f3:decide (1<N)=false:=by rw[HN.out];simp;omega
  rw[yC q3,Bool.false_and] at hm;subst hm;clear q1 q2 q3;exact Qk6
 obtain⟨rfl,rfl⟩:=hcut;cases mB with
 | true=>
  have HF:Hid (R=5):=by
   show _=_;rw[HR.out];unfold wvE;rw[df.out,bk.out];rfl
  go_wp2_with fail
  go_ret;exact⟨by rw[HF.out];rfl,zP hb2 dl⟩
 | false=>
 have ee:Hid (xQ x v=wB):=by
  show _=_;rw[←fj.out];refine(A8x fun ik=>?_).symm;have h2:=aj.out;rw[bk.out,ik] at h2;simp only[jS,Bool.and_true,Bool.false_eq,pF,uZ] at h2;rw[ei.out];omega
 go_wp2_with fail
 refine(ij _ dl).mono ?_;rintro e V3 ⟨rfl,av⟩;clear p0 p1 p2 p3 p4 p5 p6 p7 p8;cases wB with
 | true=>
  have HF:Hid (R=2):=by
   show _=_;rw[HR.out];unfold wvE;rw[df.out,bk.out,ee.out];rfl
  go_wp2;go_ret;exact⟨by rw[HF.out];rfl,zP hb2 av⟩
 | false=>
 have HF:Hid (R=if yJ (yU x.kind) v.bits≠0 then yJ (yU x.kind) v.bits else if yJ (wN x.kind) v.bytes≠0 then yJ (wN x.kind) v.bytes else yJ (fun s=>yT g d (k+1) (wL g x.type) s) v.subs):=by
  show _=_;rw[HR.out];unfold wvE;rw[df.out,bk.out,ee.out];rfl
 obtain⟨⟨p0,p1⟩,⟨p2,p3,p4,p5⟩,p6,p7,p8⟩:=ah V3 av;go_wp2_with fail
 go_loopg [91] n1 (fun gm i wr=>∃ q:Nat,q+gm=n1∧i = .int .i64 (q:Int)∧Hid (yJ (yU x.kind) v.bits=yJ (yU x.kind) (v.bits.drop q))∧zB W2 wr)
 case atStart=>exact⟨0,by omega,rfl,rfl,av⟩
 obtain⟨q,hq,rfl,HQ,bu⟩:=hrel;clear p0 p1 p2 p3 p4 p5 p6 p7 p8;obtain⟨⟨p0,p1⟩,⟨p2,p3,p4,p5⟩,p6,p7,p8⟩:=ah wr bu;by_cases hlt:q<n1
 ·have i5:(q:Int)<(n1:Int):=by omega
  obtain⟨u,Hu⟩:=yE (l:=v.bits) (k:=q) (by rw[←L1.out];exact hlt);obtain⟨bb,ob,rfl,hy⟩:=(eu.out.bL UAt.sT (zP hb2 bu)).get UAt.plain Hu.out;have i6:wr.cell? ⟨bb,ob+q,none⟩=some (.int .u64 (u:Int)):=by simpa [UAt] using hy
  have hst:=lO (f:=yU x.kind) Hu.out;have dv:=D0y (w:=wr) x.kind u;generalize hFF:yU x.kind u=FF at dv hst;clear hy;by_cases hz:FF=0
  ·have ez:(FF != 0)=false:=by simp[hz]
   have aw:Hid (yJ (yU x.kind) v.bits=yJ (yU x.kind) (v.bits.drop (q+1))):=by
    show _=_;rw[HQ.out,hst,zF hz]
   clear hst hFF hz;go_wp2_with fail
   refine dv.mono ?_;rintro e w9 ⟨rfl,rfl⟩;go_wp2_with fail
   go_roundg (n1-(q+1))
   case measure=>omega
   case rel=>exact⟨q+1,by omega,by go_num,aw,bu⟩
  have ez:(FF != 0)=true:=by simpa using hz
  have HX:Hid (R=FF):=by
   show _=_;have h1:yJ (yU x.kind) v.bits=FF:=by rw[HQ.out,hst,zC hz]
   rw[HF.out,h1,zF hz]
  clear hst hFF hz;go_wp2_with fail
  refine dv.mono ?_;rintro e w9 ⟨rfl,rfl⟩;go_wp2;go_ret;exact⟨by rw[HX.out];rfl,zP hb2 bu⟩
 have dp:Hid (R=if yJ (wN x.kind) v.bytes≠0 then yJ (wN x.kind) v.bytes else yJ (fun s=>yT g d (k+1) (wL g x.type) s) v.subs):=by
  show _=_;have h1:yJ (yU x.kind) v.bits=0:=by rw[HQ.out];exact gD (by rw[←L1.out];omega)
  rw[HF.out,h1,zC (by simp)]
 clear HF HQ;obtain⟨wq,dr⟩:∃ wq,wq=wr:=⟨_,rfl⟩
 subst dr;go_wp2_with fail
 go_loopg [108] n2 (fun gm i wr=>∃ q:Nat,q+gm=n2∧i = .int .i64 (q:Int)∧Hid (yJ (wN x.kind) v.bytes=yJ (wN x.kind) (v.bytes.drop q))∧zB W2 wr)
 case atStart=>exact⟨0,by omega,rfl,rfl,bu⟩
 obtain⟨q2,iy,rfl,HQ,hbr⟩:=hrel;clear p0 p1 p2 p3 p4 p5 p6 p7 p8;obtain⟨⟨p0,p1⟩,⟨p2,p3,p4,p5⟩,p6,p7,p8⟩:=ah wr hbr;by_cases hlt:q2<n2
 ·have il:(q2:Int)<(n2:Int):=by omega
  obtain⟨u,Hu⟩:=yE (l:=v.bytes) (k:=q2) (by rw[←L2.out];exact hlt);obtain⟨bb,ob,rfl,hy⟩:=(ew.out.bL ZAt.sT (zP hb2 hbr)).get ZAt.plain Hu.out;obtain⟨vb,y1,dz⟩:=hy.at;have gg:=zI dz;obtain⟨ab,nb,cb,rfl,fh,_⟩:=dz.sH;have y2:wr.cell? ⟨bb,ob+q2,none⟩=some (.slice ab nb cb):=by simpa using y1
  have dx:u.length≤140737488355328:=by
   have h1:=HV.out.2.2.2.1 u (xV Hu.out);unfold reachBytes at h1;omega
  have ix:nb≤140737488355328:=by rw[fh.out];exact dx
  have hst:=lO (f:=wN x.kind) Hu.out;have dy:=B8y gg.out dx;generalize hVD:Lib.validD u=VD at dy;generalize hFF:wN x.kind u=FF at hst;have cw:Hid ((4000<nb→FF=4)∧(¬ 4000<nb→x.kind=8→VD=false→FF=9)∧(¬ 4000<nb→x.kind=8→VD=true→FF=0)∧(¬ 4000<nb→¬ x.kind=8→FF=0)):=by
   have e1:=fh.out;rw[←hFF];unfold wN;rw[hVD,←e1];refine⟨fun h=>zF h,fun h1 h2 h3=>?_,fun h1 h2 h3=>?_,fun h1 h2=>?_⟩
   ·rw[zC h1,zF ⟨h2,h3⟩]
   ·rw[zC h1,zC (by rw[h3];simp)]
   rw[zC h1,zC (by simp[h2])]
  have aw:Hid (FF=0→yJ (wN x.kind) v.bytes=yJ (wN x.kind) (v.bytes.drop (q2+1))):=fun hz=>by rw[HQ.out,hst,zF hz]
  have dg:Hid (FF≠0→R=FF):=fun hz=>by
   have h1:yJ (wN x.kind) v.bytes=FF:=by rw[HQ.out,hst,zC hz]
   rw[dp.out,h1,zF hz]
  clear hst hFF hVD hy y1 dz dx HQ;by_cases h4:4000<nb
  ·have f4:decide (4000<(nb:Int))=true:=by simp;omega
   have HX:Hid (R=4):=by
    show _=_;have h1:=cw.out.1 h4;rw[dg.out (by rw[h1];simp),h1]
   clear h4;go_wp2_with fail
   go_ret;exact⟨by rw[HX.out];rfl,zP hb2 hbr⟩
  have f4:decide (4000<(nb:Int))=false:=by simp;omega
  by_cases h8:x.kind=8
  ·have e8:=beq_iff_eq.2 h8;cases VD with
   | false=>
    have HX:Hid (R=9):=by
     show _=_;have h1:=cw.out.2.1 h4 h8 rfl;rw[dg.out (by rw[h1];simp),h1]
    clear h4 h8;go_wp2_with fail
    refine dy.mono ?_;rintro e w9 ⟨rfl,rfl⟩;go_wp2;go_ret;exact⟨by rw[HX.out];rfl,zP hb2 hbr⟩
   | true=>
   have ba:=zI (aw.out (cw.out.2.2.1 h4 h8 rfl));clear h4 h8;go_wp2_with fail
   refine dy.mono ?_;rintro e w9 ⟨rfl,rfl⟩;exact eP
  have e8:=beq_eq_false_iff_ne.2 h8;have ba:=zI (aw.out (cw.out.2.2.2 h4 h8));clear h4 h8;exact eP
 have eh:Hid (R=yJ (fun s=>yT g d (k+1) (wL g x.type) s) v.subs):=by
  show _=_;have h1:yJ (wN x.kind) v.bytes=0:=by rw[HQ.out];exact gD (by rw[←L2.out];omega)
  rw[dp.out,h1,zC (by simp)]
 clear dp HQ;obtain⟨fw,dr⟩:∃ fw,fw=wr:=⟨_,rfl⟩
 subst dr;go_wp2_with fail
 obtain⟨F,au⟩:∃ F:BI d→Int,Hid (F=fun s=>yT g d (k+1) (wL g x.type) s):=⟨_,rfl⟩
 go_loopg [129] n3 (fun gm i wr=>∃ q:Nat,q+gm=n3∧i = .int .i64 (q:Int)∧Hid (yJ F v.subs=yJ F (v.subs.drop q))∧zB W2 wr)
 case atStart=>exact⟨0,by omega,rfl,rfl,hbr⟩
 obtain⟨q3,iz,rfl,HQ,dn⟩:=hrel;clear p0 p1 p2 p3 p4 p5 p6 p7 p8;obtain⟨⟨p0,p1⟩,⟨p2,p3,p4,p5⟩,p6,p7,p8⟩:=ah wr dn;by_cases hlt:q3<n3
 ·have im:(q3:Int)<(n3:Int):=by omega
  obtain⟨s,Hs⟩:=yE (l:=v.subs) (k:=q3) (by rw[←L3.out];exact hlt);obtain⟨bb,ob,rfl,hy⟩:=(f6.out.bL (BAt.sT d) (zP hb2 dn)).get (BAt.plain d) Hs.out;obtain⟨v0,v1,s0,s1,dw⟩:=BQ.of d hy;obtain⟨c0,d0,e0,c1,d1,e1,rfl,rfl⟩:=dw.sH;have hst:=lO (f:=F) Hs.out;have ak:=XA df.out (fun e=>by have:=Hs.out;rw[e] at this;cases this);obtain⟨W3,gc,fk,x3,-⟩:=zV wr (.cells #[.slice c0 d0 e0,.slice c1 d1 e1] 29);have hz3:=(zR x3)
  obtain⟨jm,m2,gh,gi,gj⟩:∃ (jm:Nat) (m2:MI),Hid (yK (fun m:MI=>decide (m.name=x.type)) g.mG=(jm:Int))∧Hid (g.mG[jm]?=some m2)∧Hid (wL g x.type=m2.fD):=by
   obtain⟨m',fq⟩:=HSub.out ak;rcases jJ (fun m:MI=>decide (m.name=x.type)) g.mG with⟨_,h2⟩|⟨i,m2,h1,h2,h3,_⟩
   ·rw[h2] at fq;cases fq
   exact⟨i,m2,h1,h2,by show _=_;unfold wL;rw[h3]⟩
  generalize hFF:F s=FF at hst;have ag:=zP dn fk;have cg:∀ V,zB W3 V→Calls Tryz.prog 36 #[.agg #[.slice am nm cm,.slice ae ne ce],.string (S x.type)] V fun e w'=>e = .returned (.int .i64 (jm:Int))∧zB W3 w':=fun V hV=>(bA ((HG.out.bL (zP bc (zP ag hV))).1) ⟨_,_,_,rfl⟩ x.type).mono fun e w' ⟨h1,h2⟩=>⟨by rw[h1,gh.out],zP hV h2⟩
  have bn:∀ V,zB W3 V→Calls Tryz.prog 32 #[.agg #[.slice am nm cm,.slice ae ne ce],.int .i64 (jm:Int),.agg #[.slice c0 d0 e0,.slice c1 d1 e1],.int .i64 (k+1)] V fun e w'=>e = .returned (.int .i64 FF)∧zB W3 w':=fun V hV=>(fy.out V (k+1) jm m2 _ _ s (zP bc (zP ag hV)) (by omega) (by omega) gi.out (dw.bL (zP fk hV)) (HV.out.2.2.2.2.2.1 s (xV Hs.out))).mono fun e w' ⟨h1,h2⟩=>⟨by rw[h1,←hFF,au.out,gj.out],zP hV h2⟩
  have gl:Hid (IntKind.wrap .i64 (k+1)=k+1):=by show IntKind.i64.wrap (k+1)=k+1;rw[IntKind.wrap_i64];omega
  have ac:∀ V,zB W3 V→(V.cell? ⟨w.heap.size,0,none⟩=some (.slice am nm cm)∧V.cell? ⟨w.heap.size,1,none⟩=some (.slice ae ne ce))∧(V.cell? ⟨wr.heap.size,0,none⟩=some (.slice c0 d0 e0)∧V.cell? ⟨wr.heap.size,1,none⟩=some (.slice c1 d1 e1))∧V.cell? ⟨bx,ox+3,none⟩=some (.string (S x.type)):=fun V hV=>by
   obtain⟨z1,_,_,z2,_⟩:=ah V (zP ag hV);exact⟨z1,zO ((hV.block _ hz3).trans x3),z2⟩
  clear hy dw ak;go_upto_region 30 with fail
  rw[←gc.out];have dt:zB W3 W3.drew:=(zH _ _).drew;clear p0 p1 p2 p3 p4 p5 p6 p7 p8;obtain⟨⟨t0,t1⟩,⟨t2,t3⟩,t4⟩:=ac W3.drew dt;have hm:=cg _ dt;have aw:Hid (FF=0→yJ F v.subs=yJ F (v.subs.drop (q3+1))):=fun hz=>by rw[HQ.out,hst,zF hz]
  have dg:Hid (FF≠0→R=FF):=fun hz=>by rw[eh.out,←au.out,HQ.out,hst,zC hz]
  clear hst hFF cg;go_cut [18] from 133 to 143 (fun io wc=>io = .int .i64 FF∧zB W3 wc)
  case first=>
   refine wp_region_held_drew (S:=fun V=>zB W3 V) (by kernel_rfl) dt (fun hHeld=>?_);refine zTk 0 rfl ac ?_
   try simp only[zE]
   refine zTk 1 rfl ac ?_
   try simp only[zE]
   refine zTk 2 rfl ac ?_
   try simp only[zE]
   refine zTk 3 rfl ac ?_
   try simp only[zE]
   refine zTk 4 rfl ac ?_
   try simp only[zE]
   refine zTk 5 rfl ac ?_
   try simp only[zE]
   refine zTk 7 rfl ac ?_
   try simp only[zE]
   refine zTk 8 rfl ac ?_
   try simp only[zE]
   refine zTk 9 rfl ac ?_
   try simp only[zE]
   refine rA (i:=6) rfl fun K hK=>?_
   go_simp;refine hm.mono ?_;rintro r w7 ⟨rfl,gq⟩;refine hK.out _ _ ?_ (fun hHeld=>?_)
   ·(try dsimp only);with_reducible assumption
   clear hK K
   try simp only[zE]
   refine rA (i:=10) rfl fun K hK=>?_
   go_simp;rw[gl.out];refine(bn _ gq).mono ?_;rintro r w8 ⟨rfl,dm⟩;refine hK.out _ _ ?_ (fun hHeld=>?_)
   ·(try dsimp only);with_reducible assumption
   clear hK K
   try simp only[zE]
   refine rA (i:=11) rfl fun K hK=>?_
   go_simp;refine hK.out _ _ ?_ (fun hHeld=>?_)
   ·(try dsimp only);with_reducible assumption
   clear hK K
   try simp only[zE]
   refine wpAnyH_done (by kernel_rfl) ?_ _;go_wp2_with fail
   go_meet;exact⟨rfl,dm⟩
  obtain⟨rfl,dm⟩:=hcut;by_cases hz:FF=0
  ·have ez:(FF != 0)=false:=by simp[hz]
   have ba:=aw.out hz;have fz:=zI ba;clear hz ba;go_wp2_with fail
   go_roundg (n3-(q3+1))
   case measure=>omega
   case rel=>exact⟨q3+1,by omega,by go_num,fz,zP ag dm⟩
  have ez:(FF != 0)=true:=by simpa using hz
  have HX:=zI (dg.out hz);clear hz;go_wp2;go_ret;exact⟨by rw[HX.out];rfl,zP hb2 (zP ag dm)⟩
 have HX:Hid (R=0):=by
  show _=_;rw[eh.out,←au.out,HQ.out];exact gD (by rw[←L3.out];omega)
 go_wp2;go_ret;exact⟨by rw[HX.out];rfl,zP hb2 dn⟩
end L
end Go.Proofs.YthcomdofaaeihaaGreatDoor
