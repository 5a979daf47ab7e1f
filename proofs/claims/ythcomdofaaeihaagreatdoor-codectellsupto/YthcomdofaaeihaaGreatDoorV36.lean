import Derived.Test.YthcomdofaaeihaaGreatDoorV33
set_option maxHeartbeats 32000000
set_option maxRecDepth 100000
set_option linter.unusedVariables false
namespace Go.Proofs.YthcomdofaaeihaaGreatDoor
namespace L
open Go.RowKit Go.WideMaps Go.Maps
theorem C5y {g:GI}(cu:kN g)(cj:∀ m∈g.mG,∀ x∈m.fD,1≤x.nU∧I64 x.cE){W0:World}{am:Option Addr}{nm cm:Nat}{ae:Option Addr}{ne ce:Nat}(hg:GRd W0 (.slice am nm cm) (.slice ae ne ce) g){d:Nat}(ih:YT g W0 (.slice am nm cm) (.slice ae ne ce) d):YT g W0 (.slice am nm cm) (.slice ae ne ce) (d+1):=by
 intro w k j m v0 v1 x h0 ik jc hj hq iq;have hq:BRd d w v0 v1 x:=hq;obtain⟨a0,n0,c0,a1,n1,c1,rfl,rfl⟩:=hq.sH;obtain⟨hV,hlen,eo,ah⟩:=iq;have hlv:=hq.1.len.1;have eu:=hq.2.len.1;have je:n0≤35184372088831:=by unfold reachBytes at hlen;omega
 have jg:n1≤35184372088831:=by unfold reachBytes at ah;omega
 have L0:=zI hlv;have L1:=zI eu;obtain⟨W2,dx,hb2,-,x0,x1⟩:=uD w (.cells #[.slice am nm cm,.slice ae ne ce] 25) (.cells #[.slice a0 n0 c0,.slice a1 n1 c1] 29);have hz2:W2.heap.size=w.heap.size+2:=by rw[dx.out];simp
 obtain⟨R,HR⟩:=zM (yT g (d+1) k m.fD x);rw[←HR.out];by_cases hk:12<k
 ·have HX:Hid (R=10):=by show _=_;rw[HR.out,mO,zF hk]
  have hkb:=xU hk;clear ih hV hq hg hlen eo ah hlv eu hk;go_enter Tryz.func32,Tryz.ntmps32;go_wp2;go_ret;rw[←dx.out];exact⟨by rw[HX.out];rfl,hb2⟩
 obtain⟨f,Hf⟩:∃ f:List UInt8→BI d→Int,Hid (f=fun name s=>yT g d (k+1) (wL g name) s):=⟨_,rfl⟩
 have HE:Hid (R=if vP m.fD f (BO.vals x) (0,[])=0 then yJ (vC m.fD) (BO.unk x) else vP m.fD f (BO.vals x) (0,[])):=by
  show _=_;rw[HR.out,Hf.out,mO,zC hk]
 have hkb:=yC hk;have il:k≤12:=by omega
 have eh:=h0.trans (hb2.mono h0.size);obtain⟨bm,om,rfl,hat⟩:=hg.1.get MAt.plain hj;obtain⟨vf,vb,k0,k1,k2,bn,hb0⟩:=hat.at;obtain⟨af,nf,cf,rfl,_,_⟩:=bn.sH;obtain⟨ab,nb,cb,rfl,_,_⟩:=hb0.sH;have jb:(j:Int)<(nm:Int):=by
  have h1:=hg.1.len.1;have h2:=(yG.1 hj).1;omega
 obtain⟨W3,dy,hb3,-,-⟩:=zV W2 (.cells #[.string (S m.name),.slice af nf cf,.slice ab nb cb] 35);have x3:W3.heap[w.heap.size+2]?=some (.cells #[.string (S m.name),.slice af nf cf,.slice ab nb cb] 35 (0,0)):=by rw[←hz2,dy.out];exact yM _ _
 have hz3:W3.heap.size=w.heap.size+3:=by rw[dy.out];simp[hz2]
 obtain⟨B,HB⟩:=zM (w.heap.size+3);have i9:=xD HB.out;have ja:=xD HB.out.symm;have fu:OwnH (W3.alloc (.map #[] 0)) B 0 (.map []):=by
  have:=World.ownsMap_made W3 Tryz.prog 3 (plainElem (H:=Unit) Tryz.prog 4);rw[hz3,←HB.out] at this;exact this
 have hb4:Below B W3 (W3.alloc (.map #[] 0)):=(zH _ _).alloc (by omega) _;obtain⟨W4,fj⟩:=zM (W3.alloc (.map #[] 0));rw[←fj.out] at fu hb4;have aj:∀ V,Below B W3 V→(V.cell? ⟨w.heap.size,0,none⟩=some (.slice (some ⟨bm,om,none⟩) nm cm)∧V.cell? ⟨w.heap.size,1,none⟩=some (.slice ae ne ce))∧(V.cell? ⟨w.heap.size+1,0,none⟩=some (.slice a0 n0 c0)∧V.cell? ⟨w.heap.size+1,1,none⟩=some (.slice a1 n1 c1))∧V.cell? ⟨w.heap.size+2,0,none⟩=some (.string (S m.name))∧V.cell? ⟨w.heap.size+2,1,none⟩=some (.slice af nf cf)∧V.cell? ⟨w.heap.size+2,2,none⟩=some (.slice ab nb cb):=fun V hV=>by
  refine⟨zO ((zN hV).trans ((zN hb3).trans x0)),zO ((zN hV).trans ((zN hb3).trans x1)),uG ((zN hV).trans x3)⟩
 have hw:=fun V (hV:Below B W3 V)=>(zP hb2 hb3).trans (hV.mono (by omega))
 have m0:=zQ eh k0;have m1:=zQ eh k1;have m2:=zQ eh k2;obtain⟨p0,p1⟩:=zO x0;obtain⟨p2,p3⟩:=zO x1;have jd:=@run_makeMap Tryz.prog;obtain⟨fs,d9⟩:=zM (m.fD);have bn:RdL 6 FAt W0 (.slice af nf cf) fs:=by rw[d9.out];exact bn
 have dr:=zI bn;rw[←d9.out] at HE;have HN:Hid (∀ y∈fs,(1≤y.nU∧I64 y.cE)∧(y.kind=10→∃ m',g.mG.find? (fun m=>decide (m.name=y.type))=some m')):=by
  intro y hy;rw[d9.out] at hy;exact⟨cj m (xV hj) y hy,cu m (xV hj) y hy⟩
 have dt:=zI hq;have HV:=zI hV;have i6:=zI eo;have HG:=zI hg;have gj:=zI ih;have ig:=zI hz2;have gg:Hid (w.heap.size+2+1=B):=HB.out.symm;have ix:=xD hz2;have iy:=xD hz3;clear k0 k1 k2 hq hV eo hg ih cu cj hat bn hb0 hlen ah hlv eu hz2 hz3 hk hj;go_enter Tryz.func32,Tryz.ntmps32;go_upto_region 3 with fail
 rw[←dx.out];go_upto_region 5 with fail
 rw[←dy.out,←fj.out,ig.out,gg.out];clear p0 p1 p2 p3 m0 m1 m2;obtain⟨⟨p0,p1⟩,⟨p2,p3⟩,p4,p5,p6⟩:=aj W4 hb4;go_wp2_with fail
 go_loopg [29] n0 (fun gm i wr=>∃ (q:Nat) (D:DataW Unit) (s:Int×List Int),q+gm=n0∧i = .int .i64 (q:Int)∧OwnH wr B q D∧Hid (HdD D s.2)∧Hid (vP fs f (BO.vals x) (0,[])=vP fs f ((BO.vals x).drop q) s)∧Hid ((q=0→s.1=0)∧∀ q' v',q=q'+1→(BO.vals x)[q']?=some v'→s.1=v'.nU)∧Below B W3 wr)
 case atStart=>exact⟨0,.map [],(0,[]),by omega,rfl,fu,HdD.nil,rfl,⟨fun _=>rfl,fun _ _ h=>by omega⟩,hb4⟩
 obtain⟨q,D,s,hq,rfl,hown,HD,df,HS,hbr⟩:=hrel;clear p0 p1 p2 p3 p4 p5 p6;obtain⟨⟨p0,p1⟩,⟨p2,p3⟩,p4,p5,p6⟩:=aj wr hbr;by_cases hlt:q<n0
 ·have ji:(q:Int)<(n0:Int):=by omega
  obtain⟨v,Hv⟩:=yE (l:=(BO.vals x)) (k:=q) (by rw[←L0.out];exact hlt);obtain⟨bv,ov,rfl,f6⟩:=((dt.out.bL (hw wr hbr)).1).get VAt.plain Hv.out;obtain⟨u1,u2,u3,y0,y1,y2,y3,r1,r2,r3⟩:=f6.at;obtain⟨a2,n2,c2,rfl,_,_⟩:=r1.sH;obtain⟨a3,n3,c3,rfl,_,_⟩:=r2.sH;obtain⟨a4,n4,c4,rfl,_,_⟩:=r3.sH;have gp:=zI r1;have gq:=zI r2;have gu:=zI r3;have g8:=zI (HV.out v (xV Hv.out));obtain⟨W5,dg,di,x5,-⟩:=zV wr (.cells #[.int .i64 v.nU,.slice a2 n2 c2,.slice a3 n3 c3,.slice a4 n4 c4] 63);have ew:=(zR x5)
  have gc:=hown.lt;have av:=hbr.trans (di.mono (by omega));have hst:=C3n (fs:=fs) (f:=f) Hv.out s;have bh:=zI (dr.out.bL FAt.sT (zP h0 (hw W5 av)));have bc:∀ V,zB W5 V→V.cell? ⟨wr.heap.size,0,none⟩=some (.int .i64 v.nU)∧V.cell? ⟨wr.heap.size,1,none⟩=some (.slice a2 n2 c2)∧V.cell? ⟨wr.heap.size,2,none⟩=some (.slice a3 n3 c3)∧V.cell? ⟨wr.heap.size,3,none⟩=some (.slice a4 n4 c4):=fun V hV=>by
   have hh:=(hV.block _ ew).trans x5;exact⟨zL hh 0 _ rfl,zL hh 1 _ rfl,zL hh 2 _ rfl,zL hh 3 _ rfl⟩
  clear f6 r1 r2 r3;cases hfd:fs.find? (fun y=>decide (y.nU=v.nU)) with
  | none=>
   have HX:Hid (R=6):=by
    show _=_;have h1:vP fs f (BO.vals x) (0,[])=6:=by rw[df.out,hst,D2h hfd];rfl
    rw[HE.out,h1];rfl
   have hfn:=YW (nm:=.string (S m.name)) (vb:=.slice ab nb cb) bh.out ⟨_,_,_,rfl⟩ ⟨_,rfl⟩ v.nU (fun a ha=>by have:=oE.1 hfd a ha;simpa using this);clear hfd hst;go_upto_region 8 with fail
   rw[←dg.out];clear p0 p1 p2 p3 p4 p5 p6 y0 y1 y2 y3;obtain⟨⟨p0,p1⟩,⟨p2,p3⟩,p4,p5,p6⟩:=aj W5 av;obtain⟨y0,y1,y2,y3⟩:=bc W5 (zH _ _);go_wp2_with fail
   refine hfn.mono ?_;rintro e V ⟨rfl,ac⟩;go_wp2;go_ret;exact⟨by rw[HX.out];rfl,zP (hw W5 av) ac⟩
  | some y=>
  obtain⟨jf,ba,bu,cg⟩:=B4e hfd;have bg:=nS bu;obtain⟨bf,of',rfl,fw⟩:=dr.out.get FAt.plain ba;have fd:=zI fw;have hfn:=fR (nm:=.string (S m.name)) (vb:=.slice ab nb cb) bh.out ⟨_,_,_,rfl⟩ ⟨_,rfl⟩ v.nU ba bg cg;obtain⟨⟨dp,iw⟩,f9⟩:=HN.out y (xV ba);have dv:Hid (uA fs f v s=if v.nU≤s.1 then 2 else if wvE y v f≠0 then wvE y v f else if 0<y.cE∧y.cE∈s.2 then 8 else 0):=D2i hfd;have gl:Hid (rS fs v s=(v.nU,tF y s.2)):=C5h hfd;have HST:Hid (vP fs f (BO.vals x) (0,[])=if uA fs f v s=0 then vP fs f ((BO.vals x).drop (q+1)) (rS fs v s) else uA fs f v s):=by
   show _=_;rw[df.out,hst]
  have dw:Hid (uA fs f v s≠0→R=uA fs f v s):=fun hne=>by
   have h1:vP fs f (BO.vals x) (0,[])=uA fs f v s:=by rw[HST.out,zC hne]
   rw[HE.out,h1,zC hne]
  have g9:Hid (1≤v.nU):=by show _≤_;rw[←bg];exact dp
  have ie:=zI f9;clear hfd hst ba bu cg bg fw f9 dp;go_upto_region 8 with fail
  rw[←dg.out];clear p0 p1 p2 p3 p4 p5 p6 y0 y1 y2 y3;obtain⟨⟨p0,p1⟩,⟨p2,p3⟩,p4,p5,p6⟩:=aj W5 av;obtain⟨y0,y1,y2,y3⟩:=bc W5 (zH _ _);go_wp2_with fail
  refine hfn.mono ?_;rintro e V ⟨⟨b',o',e',rfl⟩,ac⟩;cases e'
  clear p0 p1 p2 p3 p4 p5 p6 y0 y1 y2 y3 hfn;have au:=av.trans (ac.mono (by omega));obtain⟨⟨p0,p1⟩,⟨p2,p3⟩,p4,p5,p6⟩:=aj V au;obtain⟨y0,y1,y2,y3⟩:=bc V ac;obtain⟨tB,ee⟩:=yP (decide (v.nU≤s.1));go_upto_region 11 with fail
  go_cut [53] from 40 to 52 (fun iz wc=>iz = .bool tB∧zB V wc)
  case first=>
   have dn:=ee.out;have hS:=HS.out;have hdr:∀ r,zB V (V.drewN r):=fun r=>⟨rfl,rfl,rfl,zG _,fun _ _=>rfl⟩
   by_cases hq0:q=0
   ·have hs1:=hS.1 hq0;have dp:=g9.out;rw[yC (by omega)] at dn;subst dn;subst hq0;clear hS hs1 dp;go_quiet (fail)
    all_goals
     go_wp2_with fail
     go_meet;exact⟨rfl,hdr _⟩
   obtain⟨q',rfl⟩:∃ q',q=q'+1:=⟨q-1,by omega⟩
   obtain⟨v',fk⟩:=yE (l:=(BO.vals x)) (k:=q') (by rw[←L0.out];omega);have hs1:=hS.2 q' v' rfl fk.out;rw[hs1] at dn;subst dn;obtain⟨i7,jk,e',cw⟩:=((dt.out.bL (hw V au)).1).get VAt.plain fk.out;cases e'
   obtain⟨_,_,_,z0,_⟩:=cw.at;have jh:(q':Int)<(n0:Int):=by omega
   have ir:(0:Int)<(q':Int)+1:=by omega
   clear hS hs1 cw hq0;go_quiet (fail)
   all_goals
    go_wp2_with fail
    go_meet;exact⟨rfl,hdr _⟩
  obtain⟨rfl,bl⟩:=hcut;clear p0 p1 p2 p3 p4 p5 p6 y0 y1 y2 y3;have dh:=au.trans (bl.mono (by have:=ac.size;omega));obtain⟨⟨p0,p1⟩,⟨p2,p3⟩,p4,p5,p6⟩:=aj wc dh;obtain⟨y0,y1,y2,y3⟩:=bc wc (zP ac bl);have dm:=zP (zP di ac) bl;cases tB with
  | true=>
   have HX:Hid (R=2):=by
    show _=_;have h1:uA fs f v s=2:=by rw[dv.out,zF (nS ee.out)]
    rw[dw.out (by rw[h1];simp),h1]
   go_wp2;go_ret;exact⟨by rw[HX.out];rfl,hw wc dh⟩
  | false=>
  have fy:=of_decide_eq_false ee.out;have hval:=C6m HG.out gj.out (zP h0 (hw wc dh)) fd.out ie.out v g8.out (gp.out.bL UAt.sT dm) (gq.out.bL ZAt.sT dm) (gu.out.bL (BAt.sT d) dm) k ik (by omega);rw[←Hf.out] at hval;have ak:Hid (uA fs f v s=if wvE y v f≠0 then wvE y v f else if 0<y.cE∧y.cE∈s.2 then 8 else 0):=by show _=_;rw[dv.out,zC fy]
  generalize hZ:wvE y v f=Z at hval;rw[hZ] at ak;clear fy hZ dv;go_wp2_with fail
  refine hval.mono ?_;rintro e V2 ⟨rfl,aw⟩;clear p0 p1 p2 p3 p4 p5 p6 y0 y1 y2 y3 hval;have ag:=dh.trans (aw.mono (by have:=ac.size;have:=bl.size;omega));by_cases hz:Z=0
  ·have ez:(Z != 0)=false:=by simp[hz]
   have bk:Hid (uA fs f v s=if 0<y.cE∧y.cE∈s.2 then 8 else 0):=by show _=_;rw[ak.out,zC (by simp[hz])]
   clear hz ak;obtain⟨⟨p0,p1⟩,⟨p2,p3⟩,p4,p5,p6⟩:=aj V2 ag;obtain⟨_,_,_,_,_,f5⟩:=(FAt.sT _ _ _ _ (zP h0 (hw V2 ag)) fd.out).at;have hown2:=hown.bL (zP dm aw);have hkey:keyOf Tryz.prog 3 (.int .i64 y.cE)=some (.int .i64 y.cE):=keyOf_int_mk Tryz.underlying3 (WalkArith.wf_i64 iw);obtain⟨cv,ps,hrun,hcv⟩:=hown2.lookup D6t Tryz.underlying140 (E1k _) (plainElem_bool Tryz.underlying4 false) hkey;obtain⟨fq,rfl,hcb⟩:=C4a Tryz.underlying4 hcv;obtain⟨cB,dz⟩:=yP (decide (0<y.cE∧y.cE∈s.2));have gh:Hid (0<y.cE→fq=decide (y.cE∈s.2)):=fun hp=>by
    have h1:=HD.out y.cE hp;have h2:=congrArg Prod.fst hcb;rw[h1] at h2;injection h2 with h3;injection h3 with h4;exact h4.symm
   clear hcb hcv;go_upto_region 16 with fail
   go_cut [74] from 62 to 73 (fun i5 wc=>i5 = .bool cB∧V2=wc)
   case first=>
    have hcb:=dz.out;by_cases hp:0<y.cE
    ·have fp:=xU hp;have h1:=gh.out hp;have h2:fq=cB:=by rw[h1,←hcb];simp[hp]
     subst h2;clear h1 hcb hp;go_wp2_with fail
     go_meet;exact⟨rfl,rfl⟩
    have fp:=yC hp;have h2:cB=false:=by rw[←hcb];simp[hp]
    subst h2;clear hcb hp;go_wp2_with fail
    go_meet;exact⟨rfl,rfl⟩
   obtain⟨rfl,rfl⟩:=hcut;cases cB with
   | true=>
    have HX:Hid (R=8):=by
     show _=_;have h1:uA fs f v s=8:=by rw[bk.out,zF (nS dz.out)]
     rw[dw.out (by rw[h1];simp),h1]
    clear hrun;go_wp2;go_ret;exact⟨by rw[HX.out];rfl,hw V2 ag⟩
   | false=>
   have g7:Hid (vP fs f (BO.vals x) (0,[])=vP fs f ((BO.vals x).drop (q+1)) (v.nU,tF y s.2)):=by
    show _=_;rw[HST.out,bk.out,zC (of_decide_eq_false dz.out),zF rfl,gl.out]
   clear hrun;have im:=hown2.isMap;have gw:Hid ((q+1=0→(v.nU,tF y s.2).1=0)∧∀ q' v',q+1=q'+1→(BO.vals x)[q']?=some v'→(v.nU,tF y s.2).1=v'.nU):=by
    refine⟨fun h=>by omega,fun q' v' e1 e2=>?_⟩;obtain rfl:q=q':=by omega
    have h3:=Hv.out.symm.trans e2;injection h3 with h4;rw[←h4]
   go_wp2_with (at_mapUpdate;refine wpList_mapUpdate_own _ rfl _ _ _ 140 rfl 3 4 D6t Tryz.underlying140 _ B q _ rfl hown2 (by unfold maxLen;omega) _ _ _ rfl rfl hkey _ [] (plainElem_bool Tryz.underlying4 true) ?_)
   intro w1 hown1 hg1;have ei:=ag.grown hg1 (by have:=ac.size;have:=bl.size;have:=aw.size;omega) (fun j hj=>by cases hj;exact zG _);clear hown2;go_wp2_with fail
   go_roundg (n0-(q+1))
   case measure=>omega
   case rel=>exact⟨q+1,_,(v.nU,tF y s.2),by omega,by go_num,hown1,HdD.put HD.out im y,g7,gw,ei⟩
  have ez:(Z != 0)=true:=by simpa using hz
  have HX:Hid (R=Z):=by
   show _=_;have h1:uA fs f v s=Z:=by rw[ak.out,zF hz]
   rw[dw.out (by rw[h1];exact hz),h1]
  clear hz;go_wp2;go_ret;exact⟨by rw[HX.out];rfl,hw V2 ag⟩
 have gi:Hid (R=yJ (vC fs) (BO.unk x)):=by
  show _=_;have h1:vP fs f (BO.vals x) (0,[])=0:=by rw[df.out,nC (by rw[←L0.out];omega)];rfl
  rw[HE.out,h1,zF rfl]
 have gc:=hown.lt;obtain⟨wq,ij⟩:∃ wq,wq=wr:=⟨_,rfl⟩
 subst ij;clear hown HD df HS;go_wp2_with fail
 go_loopg [84] n1 (fun gm i wr=>∃ q:Nat,q+gm=n1∧i = .int .i64 (q:Int)∧Hid (R=yJ (vC fs) ((BO.unk x).drop q))∧B<wr.heap.size∧Below B W3 wr)
 case atStart=>exact⟨0,by omega,rfl,gi,gc,hbr⟩
 obtain⟨q2,ir,rfl,HQ,hzs,dl⟩:=hrel;clear p0 p1 p2 p3 p4 p5 p6;obtain⟨⟨p0,p1⟩,⟨p2,p3⟩,p4,p5,p6⟩:=aj wr dl;by_cases hlt2:q2<n1
 ·have iu:(q2:Int)<(n1:Int):=by omega
  obtain⟨r,Hr⟩:=yE (l:=(BO.unk x)) (k:=q2) (by rw[←L1.out];exact hlt2);obtain⟨br,or',rfl,fz⟩:=((dt.out.bL (hw wr dl)).2).get RAt.plain Hr.out;obtain⟨ub,y0,y1,y2,y3,rb⟩:=fz.at;obtain⟨a5,n5,c5,rfl,ii,ip⟩:=rb.sH;have io:n5≤9223372036854775807:=by omega
  obtain⟨W5,dg,di,x5,-⟩:=zV wr (.cells #[.int .i64 r.nU,.int .i64 r.how,.int .u64 (r.bits:Int),.slice a5 n5 c5] 78);have ew:=(zR x5)
  have av:=dl.trans (di.mono (by omega));have hst:=lO (f:=vC fs) Hr.out;have hwr:=B6r r.nU r.how r.bits a5 n5 c5 W5 io;have bc:∀ V,zB W5 V→V.cell? ⟨wr.heap.size,0,none⟩=some (.int .i64 r.nU)∧V.cell? ⟨wr.heap.size,1,none⟩=some (.int .i64 r.how)∧V.cell? ⟨wr.heap.size,2,none⟩=some (.int .u64 (r.bits:Int))∧V.cell? ⟨wr.heap.size,3,none⟩=some (.slice a5 n5 c5):=fun V hV=>by
   have hh:=(hV.block _ ew).trans x5;exact⟨zL hh 0 _ rfl,zL hh 1 _ rfl,zL hh 2 _ rfl,zL hh 3 _ rfl⟩
  have HU:Hid (vC fs r=if yW r.nU r.how r.bits n5=0 then(if 0≤yK (fun f:FI=>decide (f.nU=r.nU)) fs then 7 else 0) else yW r.nU r.how r.bits n5):=by
   show _=_;rw[ii.out];rfl
  generalize hE:yW r.nU r.how r.bits n5=E at hwr;rw[hE] at HU;have fh:Hid (vC fs r≠0→R=vC fs r):=fun hne=>by rw[HQ.out,hst,zC hne]
  have gz:Hid (vC fs r=0→R=yJ (vC fs) ((BO.unk x).drop (q2+1))):=fun he=>by rw[HQ.out,hst,zF he]
  clear hst hE fz rb;go_upto_region 23 with fail
  rw[←dg.out];clear p0 p1 p2 p3 p4 p5 p6 y0 y1 y2 y3;obtain⟨⟨p0,p1⟩,⟨p2,p3⟩,p4,p5,p6⟩:=aj W5 av;obtain⟨y0,y1,y2,y3⟩:=bc W5 (zH _ _);go_wp2_with fail
  refine hwr.mono ?_;rintro e V ⟨rfl,ac⟩;clear p0 p1 p2 p3 p4 p5 p6 y0 y1 y2 y3 hwr;have au:=av.trans (ac.mono (by omega));obtain⟨⟨p0,p1⟩,⟨p2,p3⟩,p4,p5,p6⟩:=aj V au;obtain⟨y0,y1,y2,y3⟩:=bc V ac;by_cases hz:E=0
  ·have ez:(E != 0)=false:=by simp[hz]
   have fe:Hid (vC fs r=if 0≤yK (fun f:FI=>decide (f.nU=r.nU)) fs then 7 else 0):=by show _=_;rw[HU.out,zF hz]
   clear hz HU;have bh:=zI (dr.out.bL FAt.sT (zP h0 (hw V au)));rcases jJ (fun f:FI=>decide (f.nU=r.nU)) fs with⟨hi1,hi2⟩|⟨ki,yi,hi1,_,hi2,_⟩
   ·have hfn:=YW (nm:=.string (S m.name)) (vb:=.slice ab nb cb) bh.out ⟨_,_,_,rfl⟩ ⟨_,rfl⟩ r.nU (fun a ha=>by have:=oE.1 hi2 a ha;simpa using this);have HX:=zI (gz.out (by rw[fe.out,hi1];rfl));clear hi1 hi2;go_wp2_with fail
    refine hfn.mono ?_;rintro e V2 ⟨rfl,aw⟩;go_wp2_with fail
    go_roundg (n1-(q2+1))
    case measure=>omega
    case rel=>exact⟨q2+1,by omega,by go_num,HX,by have:=ac.size;have:=aw.size;omega,au.trans (aw.mono (by have:=ac.size;omega))⟩
   obtain⟨jf,ba,bu,cg⟩:=B4e hi2;have bg:=nS bu;have hfn:=fR (nm:=.string (S m.name)) (vb:=.slice ab nb cb) bh.out ⟨_,_,_,rfl⟩ ⟨_,rfl⟩ r.nU ba bg cg;have HX:Hid (R=7):=by
    show _=_;have h1:vC fs r=7:=by rw[fe.out,hi1,zF (by omega)]
    rw[fh.out (by rw[h1];simp),h1]
   clear hi1 hi2 ba bu cg bg;go_wp2_with fail
   refine hfn.mono ?_;rintro e V2 ⟨⟨b',o',e',rfl⟩,aw⟩;clear e';go_wp2;go_ret;exact⟨by rw[HX.out];rfl,zP (hw V au) aw⟩
  have ez:(E != 0)=true:=by simpa using hz
  have HX:Hid (R=E):=by
   show _=_;have h1:vC fs r=E:=by rw[HU.out,zC hz]
   rw[fh.out (by rw[h1];exact hz),h1]
  clear hz;go_wp2;go_ret;exact⟨by rw[HX.out];rfl,hw V au⟩
 have HX:Hid (R=0):=by
  show _=_;rw[HQ.out];exact gD (by rw[←L1.out];omega)
 go_wp2;go_ret;exact⟨by rw[HX.out];rfl,hw wr dl⟩
theorem B8l {g:GI}(ag:kN g)(ac:∀ m∈g.mG,∀ x∈m.fD,1≤x.nU∧I64 x.cE){W0:World}{vm ve:Value}(hg:GRd W0 vm ve g):∀ d,YT g W0 vm ve d
 | 0=>fun _ _ _ _ _ _ x=>nomatch (x:Empty)
 | d+1=>by
  obtain⟨am,nm,cm,rfl,_,_⟩:=hg.1.sH
  obtain⟨ae,ne,ce,rfl,_,_⟩:=hg.2.sH
  exact C5y ag ac hg (B8l ag ac hg d)
end L
end Go.Proofs.YthcomdofaaeihaaGreatDoor
