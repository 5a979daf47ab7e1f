import Derived.Test.YthcomdofaaeihaaGreatDoorV38
import Derived.Test.YthcomdofaaeihaaGreatDoorV43
import Derived.Test.YthcomdofaaeihaaGreatDoorV32
set_option maxHeartbeats 32000000
set_option maxRecDepth 100000
set_option linter.unusedVariables false
namespace Go.Proofs.YthcomdofaaeihaaGreatDoor
namespace L
open Go.RowKit
variable{u w:World}{n:Nat}
theorem lP {F G:List Nat}{V V':World}(hsu:Sub u w)(hV:w.heap.size≤V.heap.size)(hs:V.heap.size≤V'.heap.size)(hb:∀ k,w.heap.size≤k→k<V.heap.size→k∉F→k∉G∧V'.heap[k]?=V.heap[k]?):Sub (tL u w F V) (tL u w G V'):=dO (cI hsu (by omega)) hV hs hb
theorem D8d {r:Rcd}(h:yW r.num r.how r.bits r.bytes.length=0):0≤(xR r).how∧(xR r).how≤7:=by
 show 0≤r.how∧r.how≤7;unfold yW at h;split at h
 ·cases h
 rename_i h1;simp[vV] at h1;omega
def WK (d:Nat)(u:World)(num:Int)(p1 p2 p3:PV)(ok:Bool):Option (VI (BI d))→Prop
 | none=>ok=false
 | some v=>ok=true∧num=v.nU∧QRd d u (v,p1,p2,p3)
theorem D0x {d:Nat}{v0 v1:Value}{l:List (VI (BI d))}(h:RdL 4 (VAt (BAt d)) u v0 l)(hu:Sub u w)(ac:∃ ao n cap,v1 = .slice ao n cap)(num:Int):Calls Tryz.prog 53 #[.agg #[v0,v1],.int .i64 num] w fun e w'=>∃ (k:Int) (e1:Option Addr) (p1 r1:Nat) (e2:Option Addr) (p2 r2:Nat) (e3:Option Addr) (p3 r3:Nat) (ok:Bool),e = .returned (.tuple #[.agg #[.int .i64 k,.slice e1 p1 r1,.slice e2 p2 r2,.slice e3 p3 r3],.bool ok])∧Hid (WK d u k (e1,p1,r1) (e2,p2,r2) (e3,p3,r3) ok (l.find? (isV num)))∧zB w w':=by
 refine(B8o h hu ac num).mono ?_;rintro e w' ⟨h1,h2⟩;have e0:l.find? (isV num)=l.find? fun v=>decide (v.nU=num):=rfl
 rw[e0];cases hf:l.find? fun v=>decide (v.nU=num) with
 | none=>
  rw[hf] at h1;obtain⟨v,rfl,rfl⟩:=h1;exact⟨0,none,0,0,none,0,0,none,0,0,false,rfl,rfl,h2⟩
 | some v=>
 rw[hf] at h1;obtain⟨a1,n1,c1,a2,n2,c2,a3,n3,c3,rfl,k1,k2,k3⟩:=h1;exact⟨v.nU,a1,n1,c1,a2,n2,c2,a3,n3,c3,true,rfl,⟨rfl,rfl,k1,k2,k3⟩,h2⟩
theorem RSt.mono {fs:List FI}{b:BO (BI n)}{k k':Nat}(h:RSt fs b k)(hk:k≤k'):RSt fs b k':=⟨h.unk,h.qk,h.sh,yN h.w hk⟩
theorem RecL.rdU {U:World}{base:Nat}{v:Value}{l:List RI}(h:RecL u w base v l)(hs:Sub u U)(hk:∀ k,base≤k→k<w.heap.size→U.heap[k]?=w.heap[k]?):RdL 4 RAt U v l:=by
 obtain⟨l',h1,rfl,h3⟩:=h;have ac:=h1.keep hk;refine D0j (P:=fun w x (p:RI×PV)=>w.cell? x=some (.int .i64 p.1.nU)∧w.cell? (x.add 1)=some (.int .i64 p.1.how)∧w.cell? (x.add 2)=some (.int .u64 (p.1.bits:Int))∧w.cell? (x.add 3)=some p.2.v) Prod.fst (ac.rd _ fun g i a hc=>?_) ?_
 ·refine⟨by simpa using hc 0 _ rfl,?_,?_,?_⟩ <;> rw[xS]
  ·exact hc 1 _ rfl
  ·exact hc 2 _ rfl
  exact hc 3 _ rfl
 rintro x p hp ⟨e0,e1,e2,e3⟩;exact⟨p.2.v,e0,e1,e2,e3,(h3 p hp).elim (fun k=>k.sub YAt.gW hs) fun k=>(k.keep hk).rdY⟩
theorem Qo4{P:Prop}(h:P:=by
 have x7:=(zN au).trans dp;have f7:=zJ x7 1;refine hK.out _ _ (fun _=>au) ?_;clear hK K
 try simp only[zE]
 refine tkF 7 rfl au av ?_
 try simp only[zE]
 refine xT 8 rfl (fun K hK=>?_);go_simp;refine hK.out _ _ (fun h=>(h rfl).elim) ?_;clear hK K
 try simp only[zE]
 refine dnL ?_;go_wp2_with fail
 go_roundg (n1-(k+1))
 case measure=>omega
 have oc:=au.size;refine⟨k+1,b,un++[r],q+2*(rc.bytes.length+1),i0,j0,l0,a7,n7,c7,by omega,by go_num,rG _ _ _ _ _ _ x7,zT (bu.trans (zK ac au |>.mono (by omega))) (zG _),?_,?_,?_⟩
 ·have hm:Sub (tL u w [w.heap.size+1,c12] wr) (tL u w [w.heap.size+1,c12] (Y7.setCell ⟨c12,1,none⟩ (.slice a7 n7 c7))):=lP hsu aw.size (by simp;omega) fun k' h1 h2 h3=>⟨h3,(zZ _ _ _ _ (fun e=>h3 (by rw[e];simp))).trans ((zN au).trans (ac.block _ h2))⟩
  refine⟨HB.out.1.sub (VAt.gW (BAt.gW n)) hm,?_⟩;have:=kpR.rd (fd.keep (w':=tL u w [w.heap.size+1,c12] (Y7.setCell ⟨c12,1,none⟩ (.slice a7 n7 c7))) fun k' h1 h2=>(iW (by omega) (by simp;omega)).trans (zZ _ _ _ _ (show k'≠c12 by omega))) (w:=tL u w [w.heap.size+1,c12] wr) (fun z hz=>by
   rcases zU.1 hz with hz|hz
   ·exact tx z hz
   rw[zS.1 hz];exact gp) hm
  rw[wM,tH,HX.out] at this;exact this
 ·exact⟨⟨HS.out.1.rt,HS.out.1.st.mono (by omega),by have:=HS.out.1.un;simp;omega⟩,by have:=gi.out;have:=HS.out.2;omega⟩
 have:=HK.out;rw[fe.out,XC hfd] at this;exact this):P:=h
theorem XH{P:Prop}(h:P:=by
 refine hK.out _ _ (fun _=>bl) ?_;clear hK K
 try simp only[zE]
 refine xT 6 rfl (fun K hK=>?_);skip;have dm:=hO.src;refine vS (by rfl) ekR _ _ (by rfl) w6.heap.size (.slice a5 n5 c5) ([]++lx) [(r,(ay,ny,cy))] (by rfl) hr3 _ 1 1 (by rfl) dm.1 dm.2.1 dm.2.2 (show 1≤48 by omega) g2 bl.size ?_;intro v7 Y7 fd il;obtain⟨a7,n7,c7,rfl,H7⟩:=fd.shape';have au:zB w6 Y7:=bl.grown il bl.size (fun k hk=>(hr3.own k hk).1);exact Qo4):P:=h
theorem C6h {g:GI}{W0:World}{am ae:Option Addr}{nm cm ne ce:Nat}(hg:GRd W0 (.slice am nm cm) (.slice ae ne ce) g)(lf:(yB g).1=0)(ih:cO g W0 (.slice am nm cm) (.slice ae ne ce) n):cO g W0 (.slice am nm cm) (.slice ae ne ce) (n+1):=by
 intro u w j M deep ao m c l hsu h0 hj hd lg;obtain⟨R,HR⟩:=yP (vR g (n+1) M l);rw[HR.out];obtain⟨rs,E,A,HP⟩:∃ rs E A,Hid (uL l=(rs,E,A)):=⟨_,_,_,rfl⟩
 obtain⟨W1,mh,hb1,gq,x4,x8⟩:=uD w (.cells #[.slice am nm cm,.slice ae ne ce] 25) (.cells #[.slice none 0 0,.slice none 0 0] 29);have z1:W1.heap.size≤w.heap.size+2:=by rw[mh.out];simp
 have dy:=C6f (w:=W1) (fN lg) (fN ((lg.sub YAt.gW hsu).bL YAt.sT hb1)) HP.out;have px:decide ((12:Int)<(deep:Int))=false:=yC (by omega);have pw:deep≤12:=by omega
 go_enter Tryz.func22,Tryz.ntmps22;go_wp2_with fail
 rw[←mh.out];refine dy.mono ?_;rintro e w1 ⟨a1,n1,c1,rfl,dl,fk⟩;obtain⟨W2,jc,hb2,qi,-⟩:=zV w1 (.cells #[.int .i64 (E:Int),.int .i64 (A:Int)] 54);have jk:zB W1 W2:=zK fk hb2;have hw2:zB w W2:=zK hb1 jk;have s2:=jk.size;have y8:=(zN jk).trans x8;obtain⟨p0,p1⟩:=zO y8;have f0:=zJ y8 0;have f1:=zJ y8 1;have l8:w.heap.size+1<W2.heap.size:=by omega
 obtain⟨g0,g1⟩:=zO qi;have lw:w.heap.size+1≠w1.heap.size:=by have:=fk.size;omega
 by_cases hE:E=0
 rotate_left
 ·have eE:((E:Int) != 0)=true:=by rw[qK];omega
  obtain rfl:R = .error (E:Int):=by rw[←HR.out,YM HP.out hE]
  clear HR HP dl dy;rw[jc.out] at g0 g1;go_upto_region 5 with fail
  rw[←jc.out] at g0 g1 ⊢;go_region
  all_goals
   go_wp2;refine bodyPost_ret (v:=.tuple #[.agg #[.slice none 0 0,.slice none 0 0],.int .i64 (E:Int)]) (by simp[results,Tryz.results22,go_sem, *]) rfl ⟨(zT (zT hw2 (by omega)) (by omega)).drew,by omega,rfl⟩
 have eE:((E:Int) != 0)=false:=by simp[hE]
 have ja:Hid (uL l=(rs,0,A)):=by rw[←hE];exact HP
 clear HP hE;have jx:Hid (tN g (fun t l=>vR g n (msgD g t) l) M.fD (rs.map xR) ⟨[],[]⟩ []=R):=by show _=_;rw[←HR.out,ZW ja.out]
 obtain⟨nw,hrg,hl4⟩:=UI ja.out;obtain⟨c12,i6⟩:=zM (w1.heap.size+1);have z2:W2.heap.size=w1.heap.size+1:=by rw[jc.out];simp
 obtain⟨W3,j7⟩:=zM (W2.alloc (.cells #[.slice none 0 0,.slice none 0 0] 29));have pn:c12≤W2.heap.size:=by rw[z2];exact xD i6.out
 have po:W2.heap.size≤c12:=by rw[z2];exact xD i6.out.symm
 have hb3:Below c12 W2 W3:=by rw[j7.out];exact(zH _ _).alloc (by omega) _
 have o7:W3.heap[c12]?=some (.cells #[.slice none 0 0,.slice none 0 0] 29 (0,0)):=by rw[j7.out,i6.out,←z2];exact yM _ _
 clear z2;obtain⟨ln,g7⟩:=zM (rs.length);have pg:Hid (n1=ln):=by obtain⟨_,_,_,e,h⟩:=dl.sH;cases e;show _=_;rw[h.out,yX,g7.out]
 obtain rfl:n1=ln:=pg.out;have km:M∈g.mG:=xV hj;have qo:n1≤4000:=by
  have h1:rs.length≤rsW rs:=by
   unfold rsW;clear dl g7 ja hrg nw jx dy
   induction rs with
   | nil=>simp
   | cons r t ih=>simp only[wS,tZ,sQ];omega
  have:=g7.out;omega
 clear HR dy;go_wp2_with fail
 rw[←jc.out,←j7.out,←i6.out];go_loopg [36] n1 (fun m i wr=>∃ (k:Nat) (b:BO (BI n)) (un:List RI) (q:Nat) (i0:Option Addr) (j0 l0:Nat) (i1:Option Addr) (j1 l1:Nat),k+m=n1∧i = .int .i64 (k:Int)∧wr.heap[c12]?=some (.cells #[.slice i0 j0 l0,.slice i1 j1 l1] 29 (0,0))∧Below c12 W2 wr∧Hid (BRd n (tL u w [w.heap.size+1,c12] wr) (.slice i0 j0 l0) (.slice i1 j1 l1) ⟨b.vals,un⟩)∧Hid (DStR g M.fD b un q∧q+2*rsW (rs.drop k)≤8000)∧Hid (tN g (fun t l=>vR g n (msgD g t) l) M.fD ((rs.map xR).drop k) b un=R))
 case atStart=>
  refine⟨0,⟨[],[]⟩,[],0,none,0,0,none,0,0,by omega,rfl,o7,hb3,?_,?_,jx⟩
  ·exact⟨RdL.nil _ _ _,RdL.nil _ _ _⟩
  refine⟨⟨⟨⟨fun v hv=>(xP hv).elim,List.Pairwise.nil,List.Pairwise.nil⟩,fun v hv=>(xP hv).elim⟩,⟨rfl,fun v hv=>(xP hv).elim,fun v hv=>(xP hv).elim,by simp⟩,zG _⟩,?_⟩;rw[oC];omega
 obtain⟨k,b,un,q,i0,j0,l0,i1,j1,l1,hk,rfl,xr,bu,HB,HS,HK⟩:=hrel;have lr:c12<wr.heap.size:=(zR xr)
 have aw:zB w wr:=hw2.trans (bu.mono (by omega));have hU:=kZ (F:=[w.heap.size+1,c12]) hsu aw;have hO:=cI (F:=[w.heap.size+1,c12]) hsu aw.size;by_cases hlt:k<n1
 rotate_left
 ·have ma:=(zN bu).trans y8;obtain⟨q0,q1⟩:=zO xr;obtain⟨o0,o1⟩:=zO ma;have o2:=zJ ma 0;have o3:=zJ ma 1;have ol:w.heap.size+1<wr.heap.size:=by omega
  have qg:w.heap.size+1≠c12:=by omega
  obtain rfl:R = .ok (⟨b.vals,un⟩:BO (BI n)):=by
   have:=HK.out;rw[sF (by rw[yX,←g7.out];omega)] at this;exact this.symm
  clear p0 p1 f0 f1 g0 g1 HK;go_wp2;refine bodyPost_ret (v:=.tuple #[.agg #[.slice i0 j0 l0,.slice i1 j1 l1],.int .i64 0]) (by simp[results,Tryz.results22,go_sem, *]) rfl ⟨zT (zT aw (by omega)) (by omega),_,_,_,_,_,_,rfl,fun u' ho=>?_⟩;refine BRd.sub HB.out (dO (OverF.of (F:=[w.heap.size+1,c12]) ho) aw.size (by simp) fun k' h1 h2 h3=>⟨h3,?_⟩);have:k'≠w.heap.size+1:=fun e=>h3 (by rw[e];exact vF ..)
  exact(zZ _ _ _ _ this).trans (zZ _ _ _ _ this)
 have lh:=hb2.size;have nv:RdL 4 RAt (tL u w [w.heap.size+1,c12] wr) (.slice a1 n1 c1) (rs.map xR):=dl.rdU hO.sub fun k' h1 h2=>by
  have e:k'∉[w.heap.size+1,c12]:=by simp;omega
  rw[iW (by omega) e];exact(zN bu).trans (hb2.block _ h2)
 obtain⟨rc,jd⟩:=yE (l:=rs) (k:=k) (by rw[←g7.out];exact hlt);obtain⟨r,gh⟩:=zM (xR rc);have Hr:Hid ((rs.map xR)[k]?=some r):=by show _=_;rw[sE,jd.out,gh.out];rfl
 have fe:Hid ((rs.map xR).drop k=r::(rs.map xR).drop (k+1)):=by
  show _=_;obtain⟨h1,h2⟩:=yG.1 Hr.out;rw[uQ h1,h2]
 have gi:Hid (rsW (rs.drop k)=rc.bytes.length+1+rsW (rs.drop (k+1))):=by
  show _=_;obtain⟨h1,h2⟩:=yG.1 jd.out;rw[uQ h1,h2];simp[rsW]
 obtain⟨br,qp,rfl,hat⟩:=nv.get RAt.plain Hr.out;obtain⟨vy,s0,s1,lz,s3,gp⟩:=hat.at;obtain⟨ay,ny,cy,rfl,pj,qc⟩:=gp.sH;have s0:=hU _ _ s0;have s1:=hU _ _ s1;have lz:=hU _ _ lz;have s3:=hU _ _ s3;have p9:(k:Int)<(n1:Int):=by omega
 obtain⟨W5,pd,jp,ix,-⟩:=zV wr (.cells #[.int .i64 r.nU,.int .i64 r.how,.int .u64 (r.bits:Int),.slice ay ny cy] 78);have jv:wr.heap[w.heap.size]?=some (.cells #[.slice am nm cm,.slice ae ne ce] 25 (0,0)):=(zN bu).trans ((zN jk).trans x4);obtain⟨bm,om,rfl,nj⟩:=hg.1.get MAt.plain hj;obtain⟨vf,vb,k0,k1,k2,js,ij⟩:=nj.at;obtain⟨af,nf,cf,rfl,_,_⟩:=js.sH;obtain⟨ab,nb,cb,rfl,_,_⟩:=ij.sH;have py:(j:Int)<(nm:Int):=by
  have h1:=hg.1.len.1;have h2:=(yG.1 hj).1;omega
 have gj:zB W0 wr:=zK h0 aw;have ik:∀ V,zB W5 V→zB W5 V∧V.cell? ⟨w.heap.size,0,none⟩=some (.slice (some ⟨bm,om,none⟩) nm cm)∧(V.cell? ⟨bm,om+j*3,none⟩=some (.string (S M.name))∧V.cell? ⟨bm,om+j*3+1,none⟩=some (.slice af nf cf)∧V.cell? ⟨bm,om+j*3+2,none⟩=some (.slice ab nb cb))∧V.cell? ⟨wr.heap.size,0,none⟩=some (.int .i64 r.nU):=fun V hV=>by
  have h5:=zK gj (zK jp hV);exact⟨hV,zL ((zN (zK jp hV)).trans jv) 0 _ rfl,⟨zQ h5 k0,zQ h5 k1,zQ h5 k2⟩,zL ((hV.block _ (zR ix)).trans ix) 0 _ rfl⟩
 have jn:zB W5 W5.drew:=(zH _ _).drew;obtain⟨p,Hp,jt⟩:=B4u (nm:=.string (S M.name)) (vb:=.slice ab nb cb) js ⟨ab,nb,cb,rfl⟩ ⟨M.name,rfl⟩ r.nU;have jt:=jt W5.drew (zK gj (zK jp jn));clear p0 p1 f0 f1 g0 g1;go_upto_region 10 with fail
 rw[←pd.out];go_region_held3 (fun V=>zB W5 V∧V.cell? ⟨w.heap.size,0,none⟩=some (.slice (some ⟨bm,om,none⟩) nm cm)∧(V.cell? ⟨bm,om+j*3,none⟩=some (.string (S M.name))∧V.cell? ⟨bm,om+j*3+1,none⟩=some (.slice af nf cf)∧V.cell? ⟨bm,om+j*3+2,none⟩=some (.slice ab nb cb))∧V.cell? ⟨wr.heap.size,0,none⟩=some (.int .i64 r.nU)) ((with_reducible refine ik _ ?_;with_reducible (first|exact jn|exact jl))) ((first|(go_at_call 34;refine jt.mono ?_;rintro e w6 ⟨rfl,mv⟩;have jl:=zK jn mv)))
 clear jt s0 s1 lz s3;have ac:zB wr w6:=zK jp jl;have s6:=ac.size;have dp:w6.heap[c12]?=some (.cells #[.slice i0 j0 l0,.slice i1 j1 l1] 29 (0,0)):=(ac.block _ lr).trans xr;have f6:=(jl.block _ (zR ix)).trans ix;have od:=(zR f6)
 have dv:zB w6 w6.drew:=(zH _ _).drew;have av:∀ V,zB w6 V→(V.cell? ⟨c12,0,none⟩=some (.slice i0 j0 l0)∧V.cell? ⟨c12,1,none⟩=some (.slice i1 j1 l1))∧V.cell? ⟨wr.heap.size,0,none⟩=some (.int .i64 r.nU)∧V.cell? ⟨wr.heap.size,1,none⟩=some (.int .i64 r.how)∧V.cell? ⟨wr.heap.size,2,none⟩=some (.int .u64 (r.bits:Int))∧V.cell? ⟨wr.heap.size,3,none⟩=some (.slice ay ny cy):=fun V hV=>⟨zO ((zN hV).trans dp),vI ((hV.block _ od).trans f6)⟩
 cases hfd:M.fD.find? (isF r.nU) with
 | none=>
  obtain rfl:p=none:=by have:=Hp.out;rw[hfd] at this;exact this
  obtain⟨lx,ex,tx,sx⟩:=kpR.src HB.out.2;have HX:Hid (lx.map Prod.fst=un):=ex;have sx:=sx.sub (hU.trans (Sub.of ac));have qd:lx.length≤8000:=by
   have h1:=HS.out.1.un;have h2:=HS.out.2;have h3:(lx.map Prod.fst).length=un.length:=congrArg List.length ex;rw[yX] at h3;omega
  have g1:lx.length*48≤140737488355328:=by omega
  have g2:(([]++lx).length + [(r,((ay,ny,cy):PV))].length)*ekR.bytes≤140737488355328:=by show(_+1)*48≤_;rw[tH];omega
  clear ex qd;go_upto_region 12 with fail
  refine rgL (fun V=>zB w6 V) 8 dv ?_;refine tkF 1 rfl dv av ?_
  try simp only[zE]
  refine tkF 2 rfl dv av ?_
  try simp only[zE]
  refine tkF 4 rfl dv av ?_
  try simp only[zE]
  refine aO 0 5 rfl rfl (fun K hK=>?_) (fun K hK=>?_)
  ·skip;go_simp;obtain⟨Y0,fh,jh,-,-⟩:=zV w6.drew (.cells #[] 78);have ou:w6.drew.heap.size<Y0.heap.size:=by rw[fh.out];simp
   have bk:=zK dv jh;have hE:Row ekR Y0 w6.heap.size (.slice (some ⟨w6.drew.heap.size,0,none⟩) 0 0) []:=Row.empT ekR dv.size (by rw[fh.out];exact yM _ _);rw[show(w6.alloc (.cells #[] 78)).drew=Y0 from fh.out.symm];refine hK.out _ _ (fun _=>bk) ?_;clear hK K
   try simp only[zE]
   refine aO 3 5 rfl rfl (fun K hK=>?_) (fun K hK=>?_)
   ·skip;skip;have dn:=sx.bL bk;refine vS (by rfl) ekR _ _ (by rfl) w6.heap.size _ [] lx (by rfl) hE i1 j1 l1 (by rfl) dn.1 dn.2.1 dn.2.2 (show 1≤48 by omega) (by show(0+_)*48≤_;rw[tU];exact g1) bk.size ?_;intro v5 Y3 hr3 hg3;obtain⟨a5,n5,c5,rfl,H5⟩:=hr3.shape';have bl:zB w6 Y3:=bk.grown hg3 bk.size (fun k hk=>(hE.own k hk).1);refine hK.out _ _ (fun _=>bl) ?_;clear hK K
    try simp only[zE]
    refine xT 5 rfl (fun K hK=>?_);go_simp;obtain⟨Y5,cu,fj,-,-⟩:=zV Y3 (.cells #[.int .i64 r.nU,.int .i64 r.how,.int .u64 (r.bits:Int),.slice ay ny cy] 78);have lu:Y3.heap.size<Y5.heap.size:=by rw[cu.out];simp
    have bg:=zK bl fj;have hO:Row ekR Y5 w6.heap.size (.slice (some ⟨Y3.heap.size,0,none⟩) 1 1) [(r,(ay,ny,cy))]:=by rw[cu.out];exact Row.one ekR Y3 (r,(ay,ny,cy)) bl.size
    have hr3:=hr3.bL fj;rw[←cu.out];refine hK.out _ _ (fun _=>bg) ?_;clear hK K
    try simp only[zE]
    refine xT 6 rfl (fun K hK=>?_);skip;have dm:=hO.src;refine vS (by rfl) ekR _ _ (by rfl) w6.heap.size (.slice a5 n5 c5) ([]++lx) [(r,(ay,ny,cy))] (by rfl) hr3 _ 1 1 (by rfl) dm.1 dm.2.1 dm.2.2 (show 1≤48 by omega) g2 bg.size ?_;intro v7 Y7 fd il;obtain⟨a7,n7,c7,rfl,H7⟩:=fd.shape';have au:zB w6 Y7:=bg.grown il bg.size (fun k hk=>(hr3.own k hk).1);exact Qo4
   skip;go_simp;obtain⟨Y5,cu,fj,-,-⟩:=zV Y0 (.cells #[.int .i64 r.nU,.int .i64 r.how,.int .u64 (r.bits:Int),.slice ay ny cy] 78);have lu:Y0.heap.size<Y5.heap.size:=by rw[cu.out];simp
   have bg:=zK bk fj;have hO:Row ekR Y5 w6.heap.size (.slice (some ⟨Y0.heap.size,0,none⟩) 1 1) [(r,(ay,ny,cy))]:=by rw[cu.out];exact Row.one ekR Y0 (r,(ay,ny,cy)) bk.size
   have hE:=hE.bL fj;rw[←cu.out];refine hK.out _ _ (fun _=>bg) ?_;clear hK K
   try simp only[zE]
   refine xT 3 rfl (fun K hK=>?_);skip;have dn:=sx.bL bg;refine vS (by rfl) ekR _ _ (by rfl) w6.heap.size _ [] lx (by rfl) hE i1 j1 l1 (by rfl) dn.1 dn.2.1 dn.2.2 (show 1≤48 by omega) (by show(0+_)*48≤_;rw[tU];exact g1) bg.size ?_;intro v5 Y3 hr3 hg3;obtain⟨a5,n5,c5,rfl,H5⟩:=hr3.shape';have bl:zB w6 Y3:=bg.grown hg3 bg.size (fun k hk=>(hE.own k hk).1);have hO:=hO.grown hg3 (.inr fun e=>absurd (Option.some.inj e) (Nat.ne_of_gt ou));exact XH
  skip;go_simp;obtain⟨Y5,cu,fj,-,-⟩:=zV w6.drew (.cells #[.int .i64 r.nU,.int .i64 r.how,.int .u64 (r.bits:Int),.slice ay ny cy] 78);have lu:w6.drew.heap.size<Y5.heap.size:=by rw[cu.out];simp
  have bg:=zK dv fj;have hO:Row ekR Y5 w6.heap.size (.slice (some ⟨w6.drew.heap.size,0,none⟩) 1 1) [(r,(ay,ny,cy))]:=by rw[cu.out];exact Row.one ekR w6.drew (r,(ay,ny,cy)) dv.size
  rw[show(w6.alloc (.cells #[.int .i64 r.nU,.int .i64 r.how,.int .u64 (r.bits:Int),.slice ay ny cy] 78)).drew=Y5 from cu.out.symm];refine hK.out _ _ (fun _=>bg) ?_;clear hK K
  try simp only[zE]
  refine xT 0 rfl (fun K hK=>?_);go_simp;obtain⟨Y0,fh,jh,-,-⟩:=zV Y5 (.cells #[] 78);have ou:Y5.heap.size<Y0.heap.size:=by rw[fh.out];simp
  have bk:=zK bg jh;have hE:Row ekR Y0 w6.heap.size (.slice (some ⟨Y5.heap.size,0,none⟩) 0 0) []:=Row.empT ekR bg.size (by rw[fh.out];exact yM _ _);have hO:=hO.bL jh;rw[←fh.out];refine hK.out _ _ (fun _=>bk) ?_;clear hK K
  try simp only[zE]
  refine xT 3 rfl (fun K hK=>?_);skip;have dn:=sx.bL bk;refine vS (by rfl) ekR _ _ (by rfl) w6.heap.size _ [] lx (by rfl) hE i1 j1 l1 (by rfl) dn.1 dn.2.1 dn.2.2 (show 1≤48 by omega) (by show(0+_)*48≤_;rw[tU];exact g1) bk.size ?_;intro v5 Y3 hr3 hg3;obtain⟨a5,n5,c5,rfl,H5⟩:=hr3.shape';have bl:zB w6 Y3:=bk.grown hg3 bk.size (fun k hk=>(hE.own k hk).1);have hO:=hO.grown hg3 (.inr fun e=>absurd (Option.some.inj e) (Nat.ne_of_lt lu));exact XH
 | some x=>
 obtain⟨bx,ox,rfl,iq⟩:∃ bx ox,p=some ⟨bx,ox,none⟩∧FAt W0 ⟨bx,ox,none⟩ x:=by have:=Hp.out;rw[hfd] at this;exact this
 have lm:=xL hfd;have d9:=hrg rc (xV jd.out);have fy:=B2p ja.out rc (xV jd.out);have ji:zB w w6:=zK aw ac;have mj:zB W0 w6:=zK gj ac;obtain⟨P6,jy⟩:=zM (tL u w [w.heap.size+1,c12] w6);have mr:Sub P6 w6:=by rw[jy.out];exact kZ hsu ji
 have kx:Sub (tL u w [w.heap.size+1,c12] wr) P6:=by rw[jy.out];exact lP hsu aw.size s6 fun k' h1 h2 h3=>⟨h3,ac.block _ h2⟩
 obtain⟨T,HT⟩:∃ T,Hid (uT (fun t l=>vR g n (msgD g t) l) x r=T):=⟨_,rfl⟩
 have hval:=D5s hg hd ih mr mj iq (jG lf km lm).1 (fun hk=>sY lf M km x lm hk) r (by rw[gh.out];exact d9.1.2.2.2.2) (by rw[gh.out];exact d9.2) (by rw[gh.out];exact D8d fy) (gp.sub YAt.gW kx);rw[HT.out] at hval;have o9:=(zN ac).trans jv;obtain⟨t0,t1⟩:=zO o9;obtain⟨⟨c0,c1'⟩,c2,c3,c4,c5⟩:=av w6 (zH _ _);go_wp2_with fail
 refine hval.mono ?_;rintro e w7 ⟨jq,h7⟩;clear hval c0 c1' c2 c3 c4 c5 t0 t1;have gl:zB wr w7:=zK ac jq;have s7:=jq.size;have y7:w7.heap[w.heap.size+1]?=some (.cells #[.slice none 0 0,.slice none 0 0] 29 (0,0)):=(zN gl).trans ((zN bu).trans y8);have kj:zB w w7:=zK aw gl;cases T with
 | error E=>
  obtain⟨ml,q,b1,m1,d1,b2,m2,d2,b3,m3,d3,rfl⟩:=h7;obtain rfl:R = .error E:=by have:=HK.out;rw[fe.out,YY hfd HT.out] at this;exact this.symm
  have eE:(E != 0)=true:=by simpa using ml
  obtain⟨o0,o1⟩:=zO y7;have o2:=zJ y7 0;have o3:=zJ y7 1;have ol:=(zR y7)
  go_wp2;have hK2:=zT (i:=1) (x:=.slice none 0 0) (zT (i:=0) (x:=.slice none 0 0) kj (show w.heap.size≤w.heap.size+1 by omega)) (show w.heap.size≤w.heap.size+1 by omega);refine bodyPost_ret (v:=.tuple #[.agg #[.slice none 0 0,.slice none 0 0],.int .i64 E]) (by simp[results,Tryz.results22,go_sem, *]) rfl ⟨hK2.alloc hK2.size _,ml,rfl⟩
 | ok v=>
 obtain⟨b1,m1,d1,b2,m2,d2,b3,m3,d3,rfl,nk⟩:=h7;have kt:=rnd lf km (show n≤12 by omega) HS.out.1 d9 fy (x:=x) (by rw[←gh.out];exact hfd) (v:=v) (by rw[←gh.out];exact HT.out) (by have:=gi.out;have:=HS.out.2;omega);have bc:Hid (RndP g M.fD x b un v (q+2*(rc.bytes.length+1))):=kt;obtain⟨W8,j8,ii,-,-⟩:=zV w7 (.cells #[.int .i64 v.nU,.slice b1 m1 d1,.slice b2 m2 d2,.slice b3 m3 d3] 63);obtain⟨c16,gu⟩:=zM (w7.heap.size);have ke:c16≤w7.heap.size:=xD gu.out;have kg:w7.heap.size≤c16:=xD gu.out.symm;have ju:W8.heap[c16]?=some (.cells #[.int .i64 v.nU,.slice b1 m1 d1,.slice b2 m2 d2,.slice b3 m3 d3] 63 (0,0)):=by rw[gu.out,j8.out];exact yM _ _
 have oh:=(zR ju)
 have bh:zB wr W8:=zK gl ii;have g9:zB w W8:=zK aw bh;obtain⟨P8,gc⟩:=zM (tL u w [w.heap.size+1,c12,c16] W8);have jo:Sub P8 W8:=by rw[gc.out];exact kZ hsu g9
 have ky:Sub P6 P8:=by rw[jy.out,gc.out];exact lP hsu ji.size (by have:=ii.size;omega) fun k' h1 h2 h3=>⟨by simp at h3 ⊢;omega,(zN ii).trans (jq.block _ h2)⟩
 have ie:QRd n P8 (v,(b1,m1,d1),(b2,m2,d2),(b3,m3,d3)):=nk P8 ⟨ky,fun k' h1 h2=>by rw[gc.out];exact(iW (by omega) (by simp;omega)).trans (ii.block _ h2)⟩;have jb:Hid (QRd n P8 (v,(b1,m1,d1),(b2,m2,d2),(b3,m3,d3))):=ie;have i7:Hid (BRd n P8 (.slice i0 j0 l0) (.slice i1 j1 l1) ⟨b.vals,un⟩):=BRd.sub HB.out (kx.trans ky);have i9:Hid (yS v=m1+m2+m3):=by show _=_;unfold yS;rw[←ie.1.len.1,←ie.2.1.len.1,←ie.2.2.len.1]
 have eu:m1+m2+m3≤8002:=by have:=kt.wv;rw[i9.out] at this;exact this
 have mz:m1≤8002:=by omega
 have ng:m2≤8002:=by omega
 have nh:m3≤8002:=by omega
 obtain⟨v0,v1,v2,v3⟩:=vI ju;have pq:wr.heap.size≤c16:=by have:=gl.size;omega
 clear kt ie nk lg px dl hat nv ix f6 od ik jn mv jl av dv dp o9 nj ij jx nw hl4 x8 o7 hb3 kx mr mj ky ke kg ii fy d9 gp qc pj p9 lh hU hO lw hrg hb1 fk hb2 ac jq s6;by_cases hz:yS v=0
 ·have ez:((m1:Int)+(m2:Int)+(m3:Int)==0)=true:=by rw[beq_iff_eq];have:=i9.out;omega
  have Hw:Hid (tD g n M.fD x b v = .ok b):=by show _=_;rw[bc.out.st];unfold dG;rw[zF hz]
  go_upto_region 16 with fail
  rw[←j8.out,←gu.out];go_wp2_with fail
  go_roundg (n1-(k+1))
  case measure=>omega
  refine⟨k+1,b,un,q+2*(rc.bytes.length+1),i0,j0,l0,i1,j1,l1,by omega,by go_num,(bh.block _ lr).trans xr,bu.trans (bh.mono (by omega)),BRd.sub HB.out (lP hsu aw.size bh.size fun k' h1 h2 h3=>⟨h3,bh.block _ h2⟩),⟨bc.out.nx b Hw.out,by have:=gi.out;have:=HS.out.2;omega⟩,?_⟩;have:=HK.out;rw[fe.out,cH hfd HT.out Hw.out] at this;exact this
 have ez:((m1:Int)+(m2:Int)+(m3:Int)==0)=false:=by rw[beq_eq_false_iff_ne];have:=i9.out;omega
 obtain⟨fo,gz⟩:=yP (b.vals.find? (isV v.nU));have pk:Hid (x.nU=v.nU):=qI bc.out.fx;have di:∀ V,zB W8 V→Calls Tryz.prog 53 #[.agg #[.slice i0 j0 l0,.slice i1 j1 l1],.int .i64 x.nU] V fun e w'=>∃ (num:Int) (e1:Option Addr) (p1 r1:Nat) (e2:Option Addr) (p2 r2:Nat) (e3:Option Addr) (p3 r3:Nat) (ok:Bool),e = .returned (.tuple #[.agg #[.int .i64 num,.slice e1 p1 r1,.slice e2 p2 r2,.slice e3 p3 r3],.bool ok])∧Hid (WK n P8 num (e1,p1,r1) (e2,p2,r2) (e3,p3,r3) ok fo)∧zB V w':=fun V hV=>by
  rw[pk.out,←gz.out];exact D0x i7.out.1 (jo.trans (Sub.of hV)) ⟨_,_,_,rfl⟩ v.nU
 have ir:=(bh.block _ lr).trans xr;have lp:=FAt.sT _ _ _ _ (zK gj bh) iq;have ag:∀ V,zB W8 V→(V.cell? ⟨c12,0,none⟩=some (.slice i0 j0 l0)∧V.cell? ⟨c12,1,none⟩=some (.slice i1 j1 l1))∧V.cell? ⟨bx,ox+1,none⟩=some (.int .i64 x.nU):=fun V hV=>by
  obtain⟨-,k1,-,-,-,-⟩:=(FAt.sT _ _ _ _ hV lp).at;exact⟨zO ((hV.block _ (by have:=bh.size;omega)).trans ir),k1⟩
 have dh:zB W8 W8.drew:=(zH _ _).drew;go_upto_region 16 with fail
 rw[←j8.out,←gu.out];go_upto_region 17 with fail
 go_cut [18,19,90] from 82 to 89 (fun s t _ wc=>∃ (c18:Nat) (num:Int) (e1:Option Addr) (p1 r1:Nat) (e2:Option Addr) (p2 r2:Nat) (e3:Option Addr) (p3 r3:Nat) (ok:Bool),s = .pointer (some ⟨c18,0,none⟩)∧t = .bool ok∧W8.heap.size≤c18∧wc.heap[c18]?=some (.cells #[.int .i64 num,.slice e1 p1 r1,.slice e2 p2 r2,.slice e3 p3 r3] 63 (0,0))∧zB W8 wc∧Hid (WK n P8 num (e1,p1,r1) (e2,p2,r2) (e3,p3,r3) ok fo))
 case first=>
  clear bh g9 jo i7 jb bc i9 eu mz ng nh v0 v1 v2 v3 hz ez lp ir oh gl s7 y7 kj ji iq lm hg ih k0 k1 k2 js py gj aw bu xr lr HS HK hsu h0 hj hd;refine rgL (fun V=>zB W8 V) 11 dh ?_;refine tkF 0 rfl dh ag ?_
  try simp only[zE]
  refine tkF 1 rfl dh ag ?_
  try simp only[zE]
  refine tkF 2 rfl dh ag ?_
  try simp only[zE]
  refine tkF 3 rfl dh ag ?_
  try simp only[zE]
  refine tkF 4 rfl dh ag ?_
  try simp only[zE]
  refine aO 5 9 rfl rfl (fun K hK=>?_) (fun K hK=>?_)
  ·skip;go_simp;refine(di _ dh).mono ?_;rintro e w9 ⟨num,e1,p1,r1,e2,p2,r2,e3,p3,r3,ok,rfl,HF,jr⟩;have ba:=zK dh jr;refine hK.out _ _ (fun _=>ba) ?_;clear hK K
   try simp only[zE]
   refine tkF 6 rfl ba ag ?_
   try simp only[zE]
   refine tkF 7 rfl ba ag ?_
   try simp only[zE]
   refine tkF 8 rfl ba ag ?_
   try simp only[zE]
   refine xT 9 rfl (fun K hK=>?_);go_simp;obtain⟨Y9,gg,-,dr,-⟩:=zV w9 (.cells #[.int .i64 0,.slice none 0 0,.slice none 0 0,.slice none 0 0] 63);have ei:zB W8 Y9:=by rw[gg.out];exact ba.alloc ba.size _
   have df:W8.heap.size≤w9.heap.size:=ba.size;rw[←gg.out];refine hK.out _ _ (fun _=>ei) ?_;clear hK K
   try simp only[zE]
   refine xT 10 rfl (fun K hK=>?_);obtain⟨g0,g1,g2,g3⟩:=vI dr;have g4:=zJ dr;go_simp;refine hK.out _ _ (fun _=>pS ei df) ?_;clear hK K
   try simp only[zE]
   refine tkF 11 rfl (pS ei df) ag ?_
   try simp only[zE]
   refine dnL ?_;go_wp2_with fail
   go_meet;exact⟨_,num,e1,p1,r1,e2,p2,r2,e3,p3,r3,ok,rfl,rfl,df,VM dr,pS ei df,HF⟩
  skip;go_simp;obtain⟨Y9,gg⟩:∃ V,Hid (V=W8.drew.alloc (.cells #[.int .i64 0,.slice none 0 0,.slice none 0 0,.slice none 0 0] 63)):=⟨_,rfl⟩
  have ei:zB W8 Y9:=by rw[gg.out];exact dh.alloc dh.size _
  have dr:Y9.heap[W8.heap.size]?=some (.cells #[.int .i64 0,.slice none 0 0,.slice none 0 0,.slice none 0 0] 63 (0,0)):=by rw[gg.out];exact yM _ _
  have df:W8.heap.size≤W8.heap.size:=zG _;rw[show(W8.alloc (.cells #[.int .i64 0,.slice none 0 0,.slice none 0 0,.slice none 0 0] 63)).drew=Y9 from gg.out.symm];refine hK.out _ _ (fun _=>ei) ?_;clear hK K
  try simp only[zE]
  refine xT 5 rfl (fun K hK=>?_);go_simp;refine(di _ ei).mono ?_;rintro e w9 ⟨num,e1,p1,r1,e2,p2,r2,e3,p3,r3,ok,rfl,HF,jr⟩;have ba:=zK ei jr;have dr:=(jr.block _ (zR dr)).trans dr;refine hK.out _ _ (fun _=>ba) ?_;clear hK K
  try simp only[zE]
  refine tkF 6 rfl ba ag ?_
  try simp only[zE]
  refine tkF 7 rfl ba ag ?_
  try simp only[zE]
  refine tkF 8 rfl ba ag ?_
  try simp only[zE]
  refine xT 10 rfl (fun K hK=>?_);obtain⟨g0,g1,g2,g3⟩:=vI dr;have g4:=zJ dr;go_simp;refine hK.out _ _ (fun _=>pS ba df) ?_;clear hK K
  try simp only[zE]
  refine tkF 11 rfl (pS ba df) ag ?_
  try simp only[zE]
  refine dnL ?_;go_wp2_with fail
  go_meet;exact⟨_,num,e1,p1,r1,e2,p2,r2,e3,p3,r3,ok,rfl,rfl,df,VM dr,pS ba df,HF⟩
 case rest=>
 obtain⟨c18,num,e1,p1,r1,e2,p2,r2,e3,p3,r3,ok,rfl,rfl,df,o8,ak,HF⟩:=hcut;obtain⟨qm,j5⟩:∃ V,V=wc:=⟨_,rfl⟩
 subst j5;clear di ag v0 v1 v2 v3;have s8:=bh.size;have qh:=ak.size;obtain⟨vb,je⟩:=zM (oK g n x b v);have pu:c18≠c16:=by omega
 go_upto_if 91 with fail
 go_cut [96] from 92 to 95 (fun _ wc=>∃ (e1:Option Addr) (p1 r1:Nat) (e2:Option Addr) (p2 r2:Nat) (e3:Option Addr) (p3 r3:Nat),wc.heap[c16]?=some (.cells #[.int .i64 vb.nU,.slice e1 p1 r1,.slice e2 p2 r2,.slice e3 p3 r3] 63 (0,0))∧FrB [c16] W8 wc∧Hid (QRd n (tL u w [w.heap.size+1,c12,c16] wc) (vb,(e1,p1,r1),(e2,p2,r2),(e3,p3,r3))))
 case first=>
  have f9:=(ak.block _ oh).trans ju;cases fo with
  | none=>
   obtain rfl:ok=false:=HF.out;obtain rfl:vb=v:=by rw[je.out];unfold oK;rw[gz.out]
   go_wp2_with fail
   go_meet;refine⟨b1,m1,d1,b2,m2,d2,b3,m3,d3,f9,FrB.of_below ak,jb.out.sub ?_⟩;rw[gc.out];exact lP hsu g9.size qh fun k' h1 h2 h3=>⟨h3,ak.block _ h2⟩
  | some old=>
  obtain⟨rfl,rfl,nr⟩:=HF.out;have pc:Hid (vb=zX (jnB g.mG n) g.mG x old v):=by show _=_;rw[je.out];unfold oK;rw[gz.out]
  have kz:=xL gz.out;have ld:old.nU=v.nU:=by have:=rN gz.out;simpa [isV] using this
  have kv:=B8m hg (B8u hg n) (u:=P8) (zK (zK gj bh) ak) (jo.trans (Sub.of ak)) iq old v ld bc.out.fx (bc.out.go old kz) bc.out.gv (bc.out.w old kz) nr jb.out;rw[←pc.out] at kv;have ql:Hid (old.nU=v.nU):=ld;obtain⟨t0,t1⟩:=zO ((zN ak).trans ((zN bh).trans jv));obtain⟨v0,v1,v2,v3⟩:=vI f9;obtain⟨o0,o1,o2,o3⟩:=vI o8;clear ld kz nr;go_wp2_with fail
  refine kv.mono ?_;rintro e ow ⟨f1,y1,gq,f2,y2,iz,f3,y3,i5,rfl,ko,dx⟩;have ee:=(zN dx).trans f9;have qq:=dx.size;clear v0 v1 v2 v3 o0 o1 o2 o3 t0 t1 kv;obtain⟨v0,v1,v2,v3⟩:=vI ee;have fv:=zJ ee;go_wp2_with fail
  go_meet;have hk4:∀ (k':Nat),k'≠c16→((((ow.setCell ⟨c16,0,none⟩ (.int .i64 vb.nU)).setCell ⟨c16,1,none⟩ (.slice f1 y1 gq)).setCell ⟨c16,2,none⟩ (.slice f2 y2 iz)).setCell ⟨c16,3,none⟩ (.slice f3 y3 i5)).heap[k']?=ow.heap[k']?:=fun k' hk=>by rw[zZ _ _ _ k' hk,zZ _ _ _ k' hk,zZ _ _ _ k' hk,zZ _ _ _ k' hk]
  refine⟨f1,y1,gq,f2,y2,iz,f3,y3,i5,VM ee,(FrB.of_below (F:=[c16]) (zK ak dx)).trans (FrB.set4T ee (by decide)) (fun i h=>h) (fun i h=>.inl h),ko _ ⟨?_,fun k' h1 h2=>?_⟩⟩
  ·rw[gc.out];exact lP hsu g9.size (by simp;omega) fun k' h1 h2 h3=>⟨h3,(hk4 k' (fun e=>h3 (by rw[e];simp))).trans ((zN dx).trans (ak.block _ h2))⟩
  exact(iW (by omega) (by simp;omega)).trans (hk4 k' (by omega))
 case rest=>
 obtain⟨f1,y1,gq,f2,y2,iz,f3,y3,i5,iy,dw,cg⟩:=hcut;obtain⟨cw,j6⟩:∃ V,V=wc:=⟨_,rfl⟩
 subst j6;have s12:=dw.size;have eo:∀ k':Nat,k'<W8.heap.size→k'≠c16→cw.heap[k']?=W8.heap[k']?:=fun k' h1 h2=>dw.block k' h1 (.inl (by simpa using h2))
 have dz:zB wr cw:=bh.trans (dw.bL (by omega) (fun k hk=>by rw[zS.1 hk];omega));have fu:zB w cw:=zK aw dz;have g8:zB W0 cw:=zK h0 fu;have iu:=(dz.block _ lr).trans xr;have qj:=(zN dz).trans jv;have aj:∀ V,zB cw V→V.cell? ⟨w.heap.size,0,none⟩=some (.slice (some ⟨bm,om,none⟩) nm cm)∧(V.cell? ⟨bm,om+j*3,none⟩=some (.string (S M.name))∧V.cell? ⟨bm,om+j*3+1,none⟩=some (.slice af nf cf)∧V.cell? ⟨bm,om+j*3+2,none⟩=some (.slice ab nb cb))∧(V.cell? ⟨c12,0,none⟩=some (.slice i0 j0 l0)∧V.cell? ⟨c12,1,none⟩=some (.slice i1 j1 l1))∧V.cell? ⟨c16,0,none⟩=some (.int .i64 vb.nU)∧V.cell? ⟨c16,1,none⟩=some (.slice f1 y1 gq)∧V.cell? ⟨c16,2,none⟩=some (.slice f2 y2 iz)∧V.cell? ⟨c16,3,none⟩=some (.slice f3 y3 i5):=fun V hV=>by
  have h5:=zK g8 hV;exact⟨zL ((zN hV).trans qj) 0 _ rfl,⟨zQ h5 k0,zQ h5 k1,zQ h5 k2⟩,zO ((zN hV).trans iu),vI ((zN hV).trans iy)⟩
 obtain⟨jg,dt⟩:∃ P,Hid (P=tL u w [w.heap.size+1,c12,c16] cw):=⟨_,rfl⟩
 have ig:Sub jg cw:=by rw[dt.out];exact kZ hsu fu
 have io:Sub P8 jg:=by rw[gc.out,dt.out];exact lP hsu g9.size s12 fun k' h1 h2 h3=>⟨h3,eo _ h2 (fun e=>h3 (by rw[e];simp))⟩
 obtain⟨hgd,kw⟩:=D7s bc.out;rw[←je.out] at hgd kw;have lj:M.fD.find? (isF vb.nU)=some x:=by rw[kw];exact bc.out.fx
 obtain⟨PT,mg⟩:=zM (putN M.fD x b.vals vb);rw[←dt.out] at cg;have li:∀ V,zB cw V→Calls Tryz.prog 55 #[.agg #[.string (S M.name),.slice af nf cf,.slice ab nb cb],.agg #[.slice i0 j0 l0,.slice i1 j1 l1],.agg #[.int .i64 vb.nU,.slice f1 y1 gq,.slice f2 y2 iz,.slice f3 y3 i5]] V fun e w'=>∃ (a8:Option Addr) (n8 c8:Nat),e = .returned (.agg #[.slice a8 n8 c8,.slice i1 j1 l1])∧(∀ u',Over jg V w' u'→RdL 4 (VAt (BAt n)) u' (.slice a8 n8 c8) PT)∧zB V w':=fun V hV=>by
  rw[mg.out,←D1l bc.out.rise hgd lj];exact C3j (ig.trans (Sub.of hV)) (js.bL FAt.sT (zK g8 hV)) (i7.out.1.sub (VAt.gW (BAt.gW n)) io) lj cg.out.1 cg.out.2.1 cg.out.2.2 bc.out.len
 have ah:zB cw cw.drew:=(zH _ _).drew;clear eo dw hgd kw lj iy cg ig jb jo lp dh eu mz ng nh ez df o8 ak HF gl s7 y7 kj iq ji ju;go_upto_region 20 with fail
 refine rgL (fun V=>zB cw V) 8 ah ?_;refine tkF 0 rfl ah aj ?_
 try simp only[zE]
 refine tkF 1 rfl ah aj ?_
 try simp only[zE]
 refine tkF 2 rfl ah aj ?_
 try simp only[zE]
 refine tkF 3 rfl ah aj ?_
 try simp only[zE]
 refine tkF 4 rfl ah aj ?_
 try simp only[zE]
 refine tkF 5 rfl ah aj ?_
 try simp only[zE]
 refine tkF 6 rfl ah aj ?_
 try simp only[zE]
 refine xT 7 rfl (fun K hK=>?_);go_simp;refine(li _ ah).mono ?_;rintro e l7 ⟨a8,n8,c8,rfl,kp,ku⟩;have dg:=zK ah ku;refine hK.out _ _ (fun _=>dg) ?_;clear hK K
 try simp only[zE]
 refine xT 8 rfl (fun K hK=>?_);have fz:=(zN dg).trans iu;obtain⟨g0,g1⟩:=zO fz;have g2:=zJ fz;go_simp;refine hK.out _ _ (fun h=>(h rfl).elim) ?_;clear hK K
 try simp only[zE]
 refine dnL ?_;obtain⟨eh,cj⟩:∃ V,Hid (V=(l7.setCell ⟨c12,0,none⟩ (.slice a8 n8 c8)).setCell ⟨c12,1,none⟩ (.slice i1 j1 l1)):=⟨_,rfl⟩
 rw[←cj.out];have iw:eh.heap[c12]?=some (.cells #[.slice a8 n8 c8,.slice i1 j1 l1] 29 (0,0)):=by rw[cj.out];exact rG _ _ _ _ _ _ (rG _ _ _ _ _ _ fz)
 have im:∀ k':Nat,k'≠c12→eh.heap[k']?=l7.heap[k']?:=fun k' hk=>by rw[cj.out,zZ _ _ _ k' hk,zZ _ _ _ k' hk]
 have qu:eh.heap.size=l7.heap.size:=by rw[cj.out];simp
 have qr:=dg.size;have fq:Below c12 wr eh:=by rw[cj.out];exact zT (zT ((zK dz dg).mono (by omega)) (zG _)) (zG _)
 have fw:zB w eh:=aw.trans (fq.mono (by omega));have ip:Sub jg (tL u w [w.heap.size+1,c12] eh):=by rw[dt.out];exact lP hsu fu.size (by omega) fun k' h1 h2 h3=>⟨fun e=>h3 (by simp at e ⊢;omega),(im k' (fun e=>h3 (by rw[e];simp))).trans (dg.block _ h2)⟩
 have gw:Hid (BRd n (tL u w [w.heap.size+1,c12] eh) (.slice a8 n8 c8) (.slice i1 j1 l1) ⟨PT,un⟩):=⟨kp _ ⟨ip,fun k' h1 h2=>(iW (by have:=ah.size;omega) (by have:=ah.size;simp;omega)).trans (im k' (by have:=ah.size;omega))⟩,i7.out.2.sub RAt.gW (io.trans ip)⟩
 have ew:=C2n (n+1) eh (.slice a8 n8 c8) (.slice i1 j1 l1) (⟨PT,un⟩:BO (BI n)) (BRd.sub gw.out (kZ hsu fw));obtain⟨mo,j9⟩:=yP (PT.any (uV (vJ n)));rw[show vJ (n+1) (⟨PT,un⟩:BO (BI n))=mo from j9.out] at ew;have HST:Hid (tD g n M.fD x b v=if PT.any (uV (vJ n))=true then .error 5 else .ok ⟨PT,b.unk⟩):=by show _=_;rw[bc.out.st,mg.out,je.out];unfold dG;rw[zC hz]
 obtain⟨g0,g1⟩:=zO iw;go_wp2_with fail
 refine ew.mono ?_;rintro e o6 ⟨rfl,bn⟩;have pp:zB w o6:=zK fw bn;cases mo with
 | true=>
  obtain rfl:R = .error 5:=by have:=HK.out;rw[fe.out,YX hfd HT.out (by rw[HST.out,zF j9.out])] at this;exact this.symm
  have jw:o6.heap[w.heap.size+1]?=some (.cells #[.slice none 0 0,.slice none 0 0] 29 (0,0)):=(zN bn).trans ((zN fq).trans ((zN bu).trans y8));obtain⟨o0,o1⟩:=zO jw;have o2:=zJ jw 0;have o3:=zJ jw 1;have ol:=(zR jw)
  go_wp2;refine bodyPost_ret (v:=.tuple #[.agg #[.slice none 0 0,.slice none 0 0],.int .i64 5]) (by simp[results,Tryz.results22,go_sem, *]) rfl ⟨zT (zT pp (by omega)) (by omega),by decide,rfl⟩
 | false=>
 have Hw:Hid (tD g n M.fD x b v = .ok ⟨PT,b.unk⟩):=by show _=_;rw[HST.out,zC (by rw[j9.out];decide)]
 go_wp2_with fail
 go_roundg (n1-(k+1))
 case measure=>omega
 refine⟨k+1,⟨PT,b.unk⟩,un,q+2*(rc.bytes.length+1),a8,n8,c8,i1,j1,l1,by omega,by go_num,(zN bn).trans iw,(bu.trans fq).trans (bn.mono (by omega)),BRd.sub gw.out (lP hsu fw.size bn.size fun k' h1 h2 h3=>⟨h3,bn.block _ h2⟩),⟨bc.out.nx _ Hw.out,by have:=gi.out;have:=HS.out.2;omega⟩,?_⟩;have:=HK.out;rw[fe.out,cH hfd HT.out Hw.out] at this;exact this
theorem C6i (g:GI)(W0:World)(am ae:Option Addr)(nm cm ne ce:Nat):cO g W0 (.slice am nm cm) (.slice ae ne ce) 0:=by
 intro u w j M deep ao m c l hsu h0 hj hd ac;obtain rfl:deep=13:=by omega
 have hb:zB w ((w.alloc (.cells #[.slice am nm cm,.slice ae ne ce] 25)).alloc (.cells #[.slice none 0 0,.slice none 0 0] 29)):=((zH _ _).alloc (zG _) _).alloc (by simp) _;clear hsu h0 hj hd ac;show Calls Tryz.prog 22 _ w (aW 0 u w (.error 10));go_enter Tryz.func22,Tryz.ntmps22;go_wp2_with fail
 refine bodyPost_ret (v:=.tuple #[.agg #[.slice none 0 0,.slice none 0 0],.int .i64 10]) (by simp[results,Tryz.results22,go_sem, *]) rfl ⟨hb,by decide,rfl⟩
theorem B8v {g:GI}{W0:World}{am ae:Option Addr}{nm cm ne ce:Nat}(hg:GRd W0 (.slice am nm cm) (.slice ae ne ce) g)(ac:(yB g).1=0):∀ n,cO g W0 (.slice am nm cm) (.slice ae ne ce) n
 | 0=>C6i g W0 am ae nm cm ne ce
 | n+1=>C6h hg ac (B8v hg ac n)
end L
end Go.Proofs.YthcomdofaaeihaaGreatDoor
