import Derived.Test.YthcomdofaaeihaaGreatDoorV05
import Derived.Deep.CutBlock
set_option maxHeartbeats 32000000
set_option maxRecDepth 100000
set_option linter.unusedVariables false
namespace Go.Proofs.YthcomdofaaeihaaGreatDoor
namespace L
open Go.RowKit
variable{d:Nat}{w' w:World}
abbrev QV (d:Nat):=VI (BI d)×PV×PV×PV
def E1n {d:Nat}(q:QV d):List Value:=[.int .i64 q.1.nU,q.2.1.v,q.2.2.1.v,q.2.2.2.v]
def oH (d:Nat):EK (QV d) where
 elem:=63
 slice:=26
 size:=4
 bytes:=80
 zero:=.agg #[.int .i64 0,.slice none 0 0,.slice none 0 0,.slice none 0 0]
 enc:=E1n
 under:=Tryz.underlying26
 info:=by kernel_rfl
 zs:=rfl
 pos:=by decide
 small:=by decide
 len:=fun _=>rfl
 one:=by intro a u hu;simp only[E1n,yY,rI,or_false] at hu;rcases hu with rfl|rfl|rfl|rfl <;> rfl
def QRd (d:Nat)(w:World)(q:QV d):Prop:=RdL 1 UAt w q.2.1.v q.1.bits∧RdL 1 ZAt w q.2.2.1.v q.1.bytes∧RdL 2 (BAt d) w q.2.2.2.v q.1.subs
theorem QRd.bL {q:QV d}(h:QRd d w q)(hb:zB w w'):QRd d w' q:=⟨h.1.bL UAt.sT hb,h.2.1.bL ZAt.sT hb,h.2.2.bL (BAt.sT d) hb⟩
theorem QRd.sub {q:QV d}(h:QRd d w q)(hb:Sub w w'):QRd d w' q:=⟨h.1.sub UAt.gW hb,h.2.1.sub ZAt.gW hb,h.2.2.sub (BAt.gW d) hb⟩
theorem Row.rdQ {base:Nat}{v:Value}{qs:List (QV d)}(h:Row (oH d) w' base v qs)(hq:∀ q∈qs,QRd d w q)(hb:Sub w w'):RdL 4 (VAt (BAt d)) w' v (qs.map Prod.fst):=by
 refine RdL.mapB _ (h.rd (fun w x (q:QV d)=>w.cell? x=some (.int .i64 q.1.nU)∧w.cell? (x.add 1)=some q.2.1.v∧w.cell? (x.add 2)=some q.2.2.1.v∧w.cell? (x.add 3)=some q.2.2.2.v) fun g i a hc=>?_) ?_
 ·refine⟨by simpa using hc 0 _ rfl,?_,?_,?_⟩ <;> rw[xS]
  ·exact hc 1 _ rfl
  ·exact hc 2 _ rfl
  exact hc 3 _ rfl
 rintro x q hv ⟨h0,h1,h2,h3⟩;obtain⟨g1,g2,g3⟩:=(hq q hv).sub hb;exact⟨q.2.1.v,q.2.2.1.v,q.2.2.2.v,h0,h1,h2,h3,g1,g2,g3⟩
theorem dQ (w:World)(o1 o2 o3 o4:Obj):((((w.alloc o1).alloc o2).alloc o3).alloc o4).heap[w.heap.size]?=some o1∧((((w.alloc o1).alloc o2).alloc o3).alloc o4).heap[w.heap.size+1]?=some o2∧((((w.alloc o1).alloc o2).alloc o3).alloc o4).heap[w.heap.size+2]?=some o3∧((((w.alloc o1).alloc o2).alloc o3).alloc o4).heap[w.heap.size+3]?=some o4∧((((w.alloc o1).alloc o2).alloc o3).alloc o4).heap.size=w.heap.size+4:=by
 have z1:(w.alloc o1).heap.size=w.heap.size+1:=by simp
 have z2:((w.alloc o1).alloc o2).heap.size=w.heap.size+2:=by simp
 have z3:(((w.alloc o1).alloc o2).alloc o3).heap.size=w.heap.size+3:=by simp
 refine⟨?_,?_,?_,?_,by simp⟩
 ·rw[wT _ _ _ (by omega),wT _ _ _ (by omega),wT _ _ _ (by omega)];exact yM w o1
 ·rw[wT _ _ _ (by omega),wT _ _ _ (by omega),←z1];exact yM _ o2
 ·rw[wT _ _ _ (by omega),←z2];exact yM _ o3
 rw[←z3];exact yM _ o4
theorem cX {α:Type}{p : α→Bool}{l:List α}{x : α}(h:l.find? p=some x):∃ j,l[j]?=some x∧p x=true∧∀ a∈l.take j,p a=false:=by
 obtain⟨h1,la,lb,e,h2⟩:=XE.1 h;refine⟨la.length,by rw[e];simp,h1,fun a ha=>?_⟩;rw[e,List.take_left'] at ha
 ·simpa using h2 a ha
 rfl
theorem kG{P:Prop}(h:P:=by
 go_quiet (fail)
 all_goals
  go_wp2_with fail
  go_meet;exact⟨rfl,hdr _⟩):P:=h
theorem Qg1{P:Prop}(h:P:=by
 rw[←dw.out];have:=cg.out;revert this;generalize decide (y.nU<a.nU)=D;cases pt <;> cases D <;> simp):P:=h
theorem C3j {u:World}(hsu:Sub u w){fs:List FI}{s:List UInt8}{af ab:Option Addr}{nf cf nb cb:Nat}(hf:RdL 6 FAt w (.slice af nf cf) fs){a0 a1:Option Addr}{n0 c0 n1 c1:Nat}{l:List (VI (BI d))}(hq:RdL 4 (VAt (BAt d)) u (.slice a0 n0 c0) l){y:VI (BI d)}{x:FI}(hx:fs.find? (isF y.nU)=some x){b1 b2 b3:Option Addr}{m1 d1 m2 d2 m3 d3:Nat}(r1:RdL 1 UAt u (.slice b1 m1 d1) y.bits)(r2:RdL 1 ZAt u (.slice b2 m2 d2) y.bytes)(r3:RdL 2 (BAt d) u (.slice b3 m3 d3) y.subs)(hlen:(l.length+1)*80≤140737488355328) :
  Calls Tryz.prog 55 #[.agg #[.string (S s),.slice af nf cf,.slice ab nb cb],.agg #[.slice a0 n0 c0,.slice a1 n1 c1],.agg #[.int .i64 y.nU,.slice b1 m1 d1,.slice b2 m2 d2,.slice b3 m3 d3]] w fun e w'=>∃ (ao:Option Addr) (n c:Nat),e = .returned (.agg #[.slice ao n c,.slice a1 n1 c1])∧(∀ u',Over u w w' u'→RdL 4 (VAt (BAt d)) u' (.slice ao n c) (sU fs x y (!rY x y) l))∧zB w w':=by
 obtain⟨jf,bk,dm,cu⟩:=cX hx;have cw:=qI hx;obtain⟨bf,of',rfl,fw⟩:=hf.get FAt.plain bk;have Hn:=zI hq.len.1;have ij:n0≤1759218604441:=by have:=Hn.out;omega
 obtain⟨W0,dr⟩:=zM ((((w.alloc (.cells #[.string (S s),.slice (some ⟨bf,of',none⟩) nf cf,.slice ab nb cb] 35)).alloc (.cells #[.slice a0 n0 c0,.slice a1 n1 c1] 29)).alloc (.cells #[.int .i64 y.nU,.slice b1 m1 d1,.slice b2 m2 d2,.slice b3 m3 d3] 63)).alloc (.cells #[.slice none 0 0,.slice none 0 0] 29));obtain⟨x0,x1,x2,x3,z0⟩:=dQ w (.cells #[.string (S s),.slice (some ⟨bf,of',none⟩) nf cf,.slice ab nb cb] 35) (.cells #[.slice a0 n0 c0,.slice a1 n1 c1] 29) (.cells #[.int .i64 y.nU,.slice b1 m1 d1,.slice b2 m2 d2,.slice b3 m3 d3] 63) (.cells #[.slice none 0 0,.slice none 0 0] 29);rw[←dr.out] at x0 x1 x2 x3 z0;have hb0:zB w W0:=by rw[dr.out];exact((((zH _ _).alloc (zG _) _).alloc (by simp) _).alloc (by simp;omega) _).alloc (by simp;omega) _
 have hz0:=xD z0.symm;clear z0;have ba:∀ V,zB W0 V→(V.cell? ⟨w.heap.size,0,none⟩=some (.string (S s))∧V.cell? ⟨w.heap.size,1,none⟩=some (.slice (some ⟨bf,of',none⟩) nf cf)∧V.cell? ⟨w.heap.size,2,none⟩=some (.slice ab nb cb))∧(V.cell? ⟨w.heap.size+1,0,none⟩=some (.slice a0 n0 c0)∧V.cell? ⟨w.heap.size+1,1,none⟩=some (.slice a1 n1 c1))∧(V.cell? ⟨w.heap.size+2,0,none⟩=some (.int .i64 y.nU)∧V.cell? ⟨w.heap.size+2,1,none⟩=some (.slice b1 m1 d1)∧V.cell? ⟨w.heap.size+2,2,none⟩=some (.slice b2 m2 d2)∧V.cell? ⟨w.heap.size+2,3,none⟩=some (.slice b3 m3 d3))∧V.heap[w.heap.size+3]?=some (.cells #[.slice none 0 0,.slice none 0 0] 29 (0,0)):=fun V hV=>by
  refine⟨uG ((zN hV).trans x0),zO ((zN hV).trans x1),tQ ((zN hV).trans x2),(zN hV).trans x3⟩
 have hw:=fun V (hV:zB W0 V)=>zP hb0 hV
 have HQ:=zI hq;have HF:=zI hf;have HX:=zI hx;have eu:=zI fw;have HY:Hid (QRd d u (y,(b1,m1,d1),(b2,m2,d2),(b3,m3,d3))):=⟨r1,r2,r3⟩
 have hfn:=fR (nm:=.string (S s)) (vb:=.slice ab nb cb) (hf.bL FAt.sT hb0) ⟨_,_,_,rfl⟩ ⟨_,rfl⟩ y.nU bk cw cu;obtain⟨R,HR⟩:=zM (sU fs x y (!rY x y) l);rw[←HR.out];have fq:R.length*80≤140737488355328:=by
  have:=B9a (fs:=fs) (x:=x) (y:=y) (!rY x y) l;rw[←HR.out] at this;have h2:R.length≤l.length+1:=yN this (by split <;> omega);omega
 have dp:=zI fq;clear hf hq hx fw r1 r2 r3 bk dm cu cw x0 x1 x2 x3 hlen fq;obtain⟨⟨p0,p1,p2⟩,⟨p3,p4⟩,⟨p5,p6,p7,p8⟩,x9⟩:=ba W0 (zH _ _);go_enter Tryz.func55,Tryz.ntmps55;go_upto_region 1 with fail
 rw[←dr.out];go_wp2_with fail
 refine hfn.mono ?_;rintro e V ⟨⟨b',o',e',rfl⟩,cj⟩;cases e'
 clear p0 p1 p2 p3 p4 p5 p6 p7 p8 x9 hfn;obtain⟨⟨p0,p1,p2⟩,⟨p3,p4⟩,⟨p5,p6,p7,p8⟩,x9⟩:=ba V cj;have eh:=B4t (P:=BAt d) (a3:=b3) (n3:=m3) (c3:=d3) (FAt.sT _ _ _ _ (hw V cj) eu.out) y ((HY.out.sub hsu).bL (hw V cj)).1 ((HY.out.sub hsu).bL (hw V cj)).2.1;obtain⟨E0,eo⟩:=yP (rY x y);rw[eo.out] at eh;rw[eo.out] at HR;go_wp2_with fail
 refine eh.mono ?_;rintro e V1 ⟨rfl,hb1⟩;have fk:=zP cj hb1;clear p0 p1 p2 p3 p4 p5 p6 p7 p8 x9 eh;obtain⟨⟨p0,p1,p2⟩,⟨p3,p4⟩,⟨p5,p6,p7,p8⟩,x9⟩:=ba V1 fk;go_wp2_with fail
 go_loopg [8,9,27] n0 (fun gm s8 s9 i wr=>∃ (k:Nat) (a':Option Addr) (n' c':Nat) (pt:Bool) (qs:List (QV d)),k+gm=n0∧i = .int .i64 k∧s8 = .bool pt∧s9 = .slice a' n' c'∧Row (oH d) wr W0.heap.size (.slice a' n' c') qs∧Hid (∀ q∈qs,QRd d u q)∧Hid (qs.map Prod.fst++sU fs x y pt (l.drop k)=R)∧zB W0 wr)
 case atStart=>exact⟨0,none,0,0,!E0,[],by omega,rfl,rfl,rfl,Row.nil _ _ _,fun q h=>by simp at h,HR.out.symm,fk⟩
 obtain⟨k,a',n',c',pt,qs,hk,rfl,rfl,rfl,hrow,bu,HS,hbr⟩:=hrel;clear p0 p1 p2 p3 p4 p5 p6 p7 p8 x9;obtain⟨⟨p0,p1,p2⟩,⟨p3,p4⟩,⟨p5,p6,p7,p8⟩,x9⟩:=ba wr hbr;have f9:=hbr.size;by_cases hlt:k<n0
 ·have ii:(k:Int)<(n0:Int):=by omega
  obtain⟨a,Ha⟩:=yE (l:=l) (k:=k) (by rw[←Hn.out];exact hlt);obtain⟨bv,ov,e',gw⟩:=HQ.out.get VAt.plain Ha.out;have fe:=D5t (fs:=fs) (x:=x) (y:=y) pt Ha.out;obtain⟨ig,il,gp,fz⟩:=HQ.out.get VAt.plain Ha.out;subst e';cases gp
  obtain⟨u1,u2,u3,y0,y1,y2,y3,t1,t2,t3⟩:=fz.at;obtain⟨g1,i1,j1,rfl,_,_⟩:=t1.sH;obtain⟨g2,i2,j2,rfl,_,_⟩:=t2.sH;obtain⟨g3,i3,j3,rfl,_,_⟩:=t3.sH;have gg:Hid (QRd d u (a,(g1,i1,j1),(g2,i2,j2),(g3,i3,j3))):=⟨t1,t2,t3⟩
  have y0:=zQ (hw wr hbr) (hsu _ _ y0);have y1:=zQ (hw wr hbr) (hsu _ _ y1);have y2:=zQ (hw wr hbr) (hsu _ _ y2);have y3:=zQ (hw wr hbr) (hsu _ _ y3);obtain⟨W5,gh,dz,x5,-⟩:=zV wr (.cells #[.int .i64 a.nU,.slice g1 i1 j1,.slice g2 i2 j2,.slice g3 i3 j3] 63);have g8:=(zR x5)
  have dx:=hbr.trans (dz.mono f9);have ak:=hrow.bL dz;have aj:=hrow.own;obtain⟨pB,cg⟩:∃ pB,Hid ((pt&&decide (y.nU<a.nU))=pB):=⟨_,rfl⟩
  obtain⟨oB,fj⟩:=yP (uX fs x a.nU);have HT:Hid (qs.map Prod.fst++((if pB then [y] else [])++((if oB then [] else [a])++sU fs x y (pt&&!decide (y.nU<a.nU)) (l.drop (k+1))))=R):=by
   show _=_;rw[←HS.out,fe,cg.out,fj.out]
  clear gw fz fe t1 t2 t3 HS;go_upto_region 9 with fail
  rw[←gh.out];clear p0 p1 p2 p3 p4 p5 p6 p7 p8 x9 y0 y1 y2 y3;obtain⟨⟨p0,p1,p2⟩,⟨p3,p4⟩,⟨p5,p6,p7,p8⟩,x9⟩:=ba W5 dx;obtain⟨y0,y1,y2,y3⟩:=tQ x5;go_cut [38] from 31 to 37 (fun g9 wc=>g9 = .bool pB∧W5=wc)
  case first=>
   cases pt with
   | false=>
    have h1:pB=false:=by rw[←cg.out];rfl
    subst h1;go_wp2_with fail
    go_meet;exact⟨rfl,rfl⟩
   | true=>
   have h1:pB=decide (y.nU<a.nU):=by rw[←cg.out];rfl
   subst h1;go_wp2_with fail
   go_meet;exact⟨rfl,rfl⟩
  case rest=>
  obtain⟨rfl,rfl⟩:=hcut;obtain⟨pN,dw⟩:∃ pN,Hid ((pt&&!decide (y.nU<a.nU))=pN):=⟨_,rfl⟩
  rw[dw.out] at HT;go_upto_if 38 with fail
  go_cut [8,9] from 39 to 42 (fun s8 s9 wc=>∃ (a':Option Addr) (n' c':Nat) (ei:List (QV d)),s8 = .bool pN∧s9 = .slice a' n' c'∧Row (oH d) wc W0.heap.size (.slice a' n' c') ei∧Hid (∀ q∈ei,QRd d u q)∧Hid (ei.map Prod.fst++((if oB then [] else [a])++sU fs x y pN (l.drop (k+1)))=R)∧wc.heap[wr.heap.size]?=some (.cells #[.int .i64 a.nU,.slice g1 i1 j1,.slice g2 i2 j2,.slice g3 i3 j3] 63 (0,0))∧zB W0 wc)
  case first=>
   cases pB with
   | false=>
    have h1:pt=pN:=by
     exact Qg1
    have aw:Hid (qs.map Prod.fst++((if oB then [] else [a])++sU fs x y pN (l.drop (k+1)))=R):=by
     show _=_;rw[←HT.out];rfl
    subst h1;go_wp2_with fail
    go_meet;exact⟨a',n',c',qs,rfl,rfl,ak,bu,aw,x5,dx⟩
   | true=>
   have h1:pN=false:=by
    exact Qg1
   have aw:Hid ((qs++[(y,(b1,m1,d1),(b2,m2,d2),(b3,m3,d3))]).map Prod.fst++((if oB then [] else [a])++sU fs x y pN (l.drop (k+1)))=R):=by
    show _=_;rw[←HT.out,wM,zF rfl,vY];rfl
   have hlen:(qs.length+([(y,(b1,m1,d1),(b2,m2,d2),(b3,m3,d3))]:List (QV d)).length)*(oH d).bytes≤140737488355328:=by
    have h3:=congrArg List.length aw.out;rw[yQ,yX,yQ] at h3;have h4:=dp.out;show(qs.length+_)*80≤_;have:qs.length+([(y,(b1,m1,d1),(b2,m2,d2),(b3,m3,d3))]:List (QV d)).length≤R.length:=by omega
    omega
   obtain⟨W6,dt,bh,x6,-⟩:=zV W5 (.cells #[.int .i64 y.nU,.slice b1 m1 d1,.slice b2 m2 d2,.slice b3 m3 d3] 63);have ag:=ak.bL bh;have av:=mJ (E:=oH d) (y0:=(y,(b1,m1,d1),(b2,m2,d2),(b3,m3,d3))) x6 rfl;have ah:=dx.trans (bh.mono (by omega));have gz:=(bh.block _ g8).trans x5;have ik:=bh.size;subst h1;go_wp2_with (at_builtin;rw[←dt.out];refine tP rfl (oH d) _ _ rfl W0.heap.size _ qs [(y,(b1,m1,d1),(b2,m2,d2),(b3,m3,d3))] rfl ag (some ⟨W5.heap.size,0,none⟩) 1 1 rfl rfl (fun h=>by cases h) av (show 1≤80 by omega) hlen ah.size ?_)
   intro v7 w7 dg dl;obtain⟨a7,n7,c7,rfl,_⟩:=dg.shape';have bg:=ah.grown dl ah.size (fun j hj=>(aj j hj).1);have g7:=(dl.block wr.heap.size (by omega) (fun e=>by have:=(aj _ e.symm).2;omega)).trans gz;go_wp2_with fail
   go_meet;refine⟨a7,n7,c7,qs++[(y,(b1,m1,d1),(b2,m2,d2),(b3,m3,d3))],rfl,rfl,dg,?_,aw,g7,bg⟩;intro q hq;rcases zU.1 hq with h|h
   ·exact bu.out q h
   rw[zS.1 h];exact HY.out
  obtain⟨a6,n6,c6,bl,rfl,rfl,ag,fd,fh,x6,ah⟩:=hcut;clear p0 p1 p2 p3 p4 p5 p6 p7 p8 x9 y0 y1 y2 y3 hrow ak aj HT bu x5 dz;obtain⟨⟨p0,p1,p2⟩,⟨p3,p4⟩,⟨p5,p6,p7,p8⟩,x9⟩:=ba wc ah;obtain⟨y0,y1,y2,y3⟩:=tQ x6;have bc:=(zR x6)
  have ew:=zI (HF.out.bL FAt.sT (hw wc ah));have ac:=D4w (m:=a.nU) HX.out;rw[fj.out] at ac;have bn:Hid (oB=(decide (a.nU=y.nU)||(decide (0<x.cE)&&match fs.find? (fun f=>decide (f.nU=a.nU)) with|some z=>decide (z.cE=x.cE)|none=>false))):=ac;clear ac;obtain⟨wo,gj⟩:∃ wo,wo=wc:=⟨_,rfl⟩
  subst gj;go_upto_region 12 with fail
  go_cut [12] from 43 to 46 (fun s12 wc=>∃ zp,s12 = .pointer zp∧((zp=none∧Hid (fs.find? (fun f=>decide (f.nU=a.nU))=none))∨∃ bz oz z,zp=some ⟨bz,oz,none⟩∧Hid (fs.find? (fun f=>decide (f.nU=a.nU))=some z)∧Hid (FAt w ⟨bz,oz,none⟩ z))∧zB wo wc)
  case first=>
   cases hfd:fs.find? (fun f=>decide (f.nU=a.nU)) with
   | none=>
    have hfn:=YW (nm:=.string (S s)) (vb:=.slice ab nb cb) ew.out ⟨_,_,_,rfl⟩ ⟨_,rfl⟩ a.nU (fun b hb=>by have:=oE.1 hfd b hb;simpa using this);have HN:=zI hfd;clear hfd;go_wp2_with fail
    refine hfn.mono ?_;rintro e V2 ⟨rfl,hb2⟩;go_wp2_with fail
    go_meet;exact⟨none,rfl,.inl ⟨rfl,HN⟩,hb2⟩
   | some z=>
   obtain⟨jz,bk,dm,cu⟩:=cX hfd;have cw:=nS dm;obtain⟨bz,oz,ez,f6⟩:=HF.out.get FAt.plain bk;cases ez
   have dv:=zI f6;have hfn:=fR (nm:=.string (S s)) (vb:=.slice ab nb cb) ew.out ⟨_,_,_,rfl⟩ ⟨_,rfl⟩ a.nU bk cw cu;have HN:=zI hfd;clear f6 bk dm cu cw hfd;go_wp2_with fail
   refine hfn.mono ?_;rintro e V2 ⟨⟨b',o',e',rfl⟩,hb2⟩;cases e'
   go_wp2_with fail
   go_meet;exact⟨_,rfl,.inr ⟨_,_,z,rfl,HN,dv⟩,hb2⟩
  case rest=>
  obtain⟨zp,rfl,dn,ee⟩:=hcut;obtain⟨wq,gl⟩:∃ wq,wq=wc:=⟨_,rfl⟩
  subst gl;have dy:=ah.trans (ee.mono (by omega));clear p0 p1 p2 p3 p4 p5 p6 p7 p8 x9 y0 y1 y2 y3;obtain⟨⟨p0,p1,p2⟩,⟨p3,p4⟩,⟨p5,p6,p7,p8⟩,x9⟩:=ba wq dy;have xq:=(ee.block _ bc).trans x6;obtain⟨y0,y1,y2,y3⟩:=tQ xq;obtain⟨_,_,_,_,_,f5⟩:=(FAt.sT _ _ _ _ (hw wq dy) eu.out).at;have hdr:∀ r,zB wo (wq.drewN r):=fun r=>zP ee ⟨rfl,rfl,rfl,zG _,fun _ _=>rfl⟩
  go_upto_region 13 with fail
  go_cut [73] from 47 to 72 (fun ie wc=>ie = .bool oB∧zB wo wc)
  case first=>
   have ac:=bn.out;by_cases he:a.nU=y.nU
   ·have e1:=beq_iff_eq.2 he;have h1:oB=true:=by rw[ac,xU he,Bool.true_or]
    subst h1;clear ac he dn;exact kG
   have e1:=beq_eq_false_iff_ne.2 he;rw[yC he,lU] at ac;clear he;by_cases hc:0<x.cE
   ·have e2:=xU hc;rw[e2,Bool.true_and] at ac;clear hc;rcases dn with⟨rfl,HN⟩|⟨bz,oz,z,rfl,HN,dv⟩
    ·rw[HN.out] at ac;subst ac;exact kG
    rw[HN.out] at ac;obtain⟨_,_,_,_,_,g5⟩:=(FAt.sT _ _ _ _ (hw wq dy) dv.out).at;cases bc:decide (z.cE=x.cE) with
    | true=>
     have e3:=beq_iff_eq.2 (nS bc);have h1:=ac.trans bc;subst h1;clear ac bc;exact kG
    | false=>
    have e3:=beq_eq_false_iff_ne.2 (of_decide_eq_false bc);have h1:=ac.trans bc;subst h1;clear ac bc;exact kG
   have e2:=yC hc;rw[e2,Bool.false_and] at ac;subst ac;clear hc dn;exact kG
  obtain⟨rfl,d9⟩:=hcut;clear p0 p1 p2 p3 p4 p5 p6 p7 p8 x9 y0 y1 y2 y3 dn bn f5 hdr;have di:=ah.trans (d9.mono (by omega));obtain⟨⟨p0,p1,p2⟩,⟨p3,p4⟩,⟨p5,p6,p7,p8⟩,x9⟩:=ba wc di;have xc:=(d9.block _ bc).trans x6;obtain⟨y0,y1,y2,y3⟩:=tQ xc;have au:=ag.bL d9;have df:=au.own;cases oB with
  | true=>
   go_wp2_with fail
   go_roundg (n0-(k+1))
   case measure=>omega
   case rel=>exact⟨k+1,a6,n6,c6,pN,bl,by omega,by go_num,rfl,rfl,au,fd,fh,di⟩
  | false=>
  have aw:Hid ((bl++[(a,(g1,i1,j1),(g2,i2,j2),(g3,i3,j3))]).map Prod.fst++sU fs x y pN (l.drop (k+1))=R):=by
   show _=_;rw[←fh.out,wM,zC (by simp),vY];rfl
  have hlen:(bl.length+([(a,(g1,i1,j1),(g2,i2,j2),(g3,i3,j3))]:List (QV d)).length)*(oH d).bytes≤140737488355328:=by
   have h3:=congrArg List.length aw.out;rw[yQ,yX,yQ] at h3;have h4:=dp.out;show(bl.length+_)*80≤_;have:bl.length+([(a,(g1,i1,j1),(g2,i2,j2),(g3,i3,j3))]:List (QV d)).length≤R.length:=by omega
   omega
  obtain⟨W7,gi,fu,x7,-⟩:=zV wc (.cells #[.int .i64 a.nU,.slice g1 i1 j1,.slice g2 i2 j2,.slice g3 i3 j3] 63);have dh:=au.bL fu;have av:=mJ (E:=oH d) (y0:=(a,(g1,i1,j1),(g2,i2,j2),(g3,i3,j3))) x7 rfl;have bg:=di.trans (fu.mono di.size);go_wp2_with (at_builtin;rw[←gi.out];refine tP rfl (oH d) _ _ rfl W0.heap.size _ bl [(a,(g1,i1,j1),(g2,i2,j2),(g3,i3,j3))] rfl dh (some ⟨wc.heap.size,0,none⟩) 1 1 rfl rfl (fun h=>by cases h) av (show 1≤80 by omega) hlen bg.size ?_)
  intro v8 w8 fy gu;obtain⟨a8,n8,c8,rfl,_⟩:=fy.shape';have gq:=bg.grown gu bg.size (fun j hj=>(df j hj).1);go_wp2_with fail
  go_roundg (n0-(k+1))
  case measure=>omega
  refine⟨k+1,a8,n8,c8,pN,bl++[(a,(g1,i1,j1),(g2,i2,j2),(g3,i3,j3))],by omega,by go_num,rfl,rfl,fy,?_,aw,gq⟩;intro q hq;rcases zU.1 hq with h|h
  ·exact fd.out q h
  rw[zS.1 h];exact gg.out
 have HE:Hid (qs.map Prod.fst++(if pt then [y] else [])=R):=by
  show _=_;rw[←HS.out,nC (by rw[←Hn.out];omega)];rfl
 have hown:=hrow.own;obtain⟨q0,q1⟩:=zO x9;have f0:=zJ x9;cases pt with
 | false=>
  have gc:Hid (qs.map Prod.fst=R):=by show _=_;rw[←HE.out];simp
  go_wp2_with fail
  refine bodyPost_ret (v:=.agg #[.slice a' n' c',.slice a1 n1 c1]) (by simp[results,Tryz.results55,go_sem, *]) rfl ?_;refine⟨a',n',c',rfl,fun u' ho=>?_,yL (yL (hw wr hbr) (by omega)) (by omega)⟩;rw[←gc.out];exact Row.rdQ (Row.over ((hrow.set4 (by omega)).set4 (by omega)) ho (by omega)) bu.out ho.sub
 | true=>
 have aw:Hid ((qs++[(y,(b1,m1,d1),(b2,m2,d2),(b3,m3,d3))]).map Prod.fst=R):=by
  show _=_;rw[←HE.out,wM,zF rfl];rfl
 have hlen:(qs.length+([(y,(b1,m1,d1),(b2,m2,d2),(b3,m3,d3))]:List (QV d)).length)*(oH d).bytes≤140737488355328:=by
  have h3:=congrArg List.length aw.out;rw[yX,yQ] at h3;have h4:=dp.out;show(qs.length+_)*80≤_;omega
 obtain⟨W6,dt,bh,x6,-⟩:=zV wr (.cells #[.int .i64 y.nU,.slice b1 m1 d1,.slice b2 m2 d2,.slice b3 m3 d3] 63);have ag:=hrow.bL bh;have av:=mJ (E:=oH d) (y0:=(y,(b1,m1,d1),(b2,m2,d2),(b3,m3,d3))) x6 rfl;have ah:=hbr.trans (bh.mono f9);go_wp2_with (at_builtin;rw[←dt.out];refine tP rfl (oH d) _ _ rfl W0.heap.size _ qs [(y,(b1,m1,d1),(b2,m2,d2),(b3,m3,d3))] rfl ag (some ⟨wr.heap.size,0,none⟩) 1 1 rfl rfl (fun h=>by cases h) av (show 1≤80 by omega) hlen ah.size ?_)
 intro v7 w7 dg dl;obtain⟨a7,n7,c7,rfl,_⟩:=dg.shape';have bg:=ah.grown dl ah.size (fun j hj=>(hown j hj).1);clear p0 p1 p2 p3 p4 p5 p6 p7 p8 x9 q0 q1 f0;obtain⟨⟨p0,p1,p2⟩,⟨p3,p4⟩,⟨p5,p6,p7,p8⟩,x9⟩:=ba w7 bg;obtain⟨q0,q1⟩:=zO x9;have f0:=zJ x9;go_wp2_with fail
 refine bodyPost_ret (v:=.agg #[.slice a7 n7 c7,.slice a1 n1 c1]) (by simp[results,Tryz.results55,go_sem, *]) rfl ?_;refine⟨a7,n7,c7,rfl,fun u' ho=>?_,yL (yL (hw w7 bg) (by omega)) (by omega)⟩;rw[←aw.out];refine Row.rdQ (Row.over ((dg.set4 (by omega)).set4 (by omega)) ho (by omega)) (fun q hq=>?_) ho.sub;rcases zU.1 hq with h|h
 ·exact bu.out q h
 rw[zS.1 h];exact HY.out
end L
end Go.Proofs.YthcomdofaaeihaaGreatDoor
