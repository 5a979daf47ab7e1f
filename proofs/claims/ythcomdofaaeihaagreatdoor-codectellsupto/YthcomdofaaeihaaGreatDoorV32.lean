import Derived.Test.YthcomdofaaeihaaGreatDoorV28
set_option maxHeartbeats 32000000
set_option maxRecDepth 100000
set_option linter.unusedVariables false
namespace Go.Proofs.YthcomdofaaeihaaGreatDoor
namespace L
open Go.RowKit
variable{α:Type}{k c:Nat}{cs:Array Value}{V:World}{v1 v0:Value}{t:TypeId}{a:α}{l:List α}
theorem D1t (f : α→Nat)(h:l[k]?=some a):((l.take k).map f).sum+f a≤(l.map f).sum:=by
 obtain⟨hk,rfl⟩:=yG.1 h;have e:l=l.take k++l[k]::l.drop (k+1):=by rw[←uQ hk,nX]
 have e2:(l.map f).sum=((l.take k++l[k]::l.drop (k+1)).map f).sum:=by rw[←e]
 rw[e2,wM,jU,wS,tZ];omega
theorem C8i {β:Type}{f : β→α→β}(b : β)(h:l[k]?=some a):(l.take (k+1)).foldl f b=f ((l.take k).foldl f b) a:=by
 rw[mV,h,List.foldl_append];rfl
theorem FrB.set2 (hc:V.heap[c]?=some (.cells cs t (0,0)))(ht:t≠5):FrB [c] V ((V.setCell ⟨c,0,none⟩ v0).setCell ⟨c,1,none⟩ v1):=
 (FrB.setT hc ht (zH _ _)).trans (FrB.setT (rG _ _ _ _ _ _ hc) ht (zH _ _)) (fun i h=>h) (fun i h=>.inl h)
theorem FrB.set4T {v2 v3:Value}(hc:V.heap[c]?=some (.cells cs t (0,0)))(ht:t≠5):FrB [c] V ((((V.setCell ⟨c,0,none⟩ v0).setCell ⟨c,1,none⟩ v1).setCell ⟨c,2,none⟩ v2).setCell ⟨c,3,none⟩ v3):=
 (FrB.set2 hc ht).trans ((FrB.setT (rG _ _ _ _ _ _ (rG _ _ _ _ _ _ hc)) ht (zH _ _)).trans (FrB.setT (rG _ _ _ _ _ _ (rG _ _ _ _ _ _ (rG _ _ _ _ _ _ hc))) ht (zH _ _)) (fun i h=>h) (fun i h=>.inl h)) (fun i h=>h) (fun i h=>.inl h)
theorem Qm3{P:Prop}(h:P:=by
 go_wp2_with fail
 refine cg.mono ?_;rintro r ky ⟨a8,n8,c8,rfl,gg,aj⟩;have kp:=dx.size;have ij:=aj.size;have ag:=(zN aj).trans eo;clear q0 q1 q2 q3 q4 q5 q6 ak y0 y1 y2 y3 aw c1';obtain⟨aw,c1'⟩:=zO ag;have fc:=zJ ag;go_wp2_with fail
 go_roundg (m0-(k+1))
 case measure=>omega
 case rel=>
  refine⟨k+1,a8,n8,c8,_,by omega,by go_num,rG _ _ _ _ _ _ (rG _ _ _ _ _ _ ag),fun u' ho=>gg u' _ (by simp) (fun k h1 h2=>by rw[zZ _ _ _ k (show k≠w.heap.size+1 from h2),zZ _ _ _ k (show k≠w.heap.size+1 from h2)]) ho,rfl,?_⟩;exact(dz.trans (FrB.of_below (F:=[]) aj) (fun i h=>h) (fun i h=>by simp at h)).trans (FrB.set2 ag (by decide)) (fun i h=>h) (fun i h=>.inl h)):P:=h
theorem C6g {g:GI}{W0:World}{am ae:Option Addr}{nm cm ne ce:Nat}(hg:GRd W0 (.slice am nm cm) (.slice ae ne ce) g){d:Nat}(ih:cP g W0 (.slice am nm cm) (.slice ae ne ce) d):cP g W0 (.slice am nm cm) (.slice ae ne ce) (d+1):=by
 intro u w j M v0 v1 u0 u1 x y hsu h0 hj dg bn gx gy hwt;have dg:BRd d u v0 v1 x:=dg;have bn:BRd d u u0 u1 y:=bn;obtain⟨a0,n0,c0,a1,n1,c1,rfl,rfl⟩:=dg.sH;obtain⟨b0,m0,d0,b1,m1,d1,rfl,rfl⟩:=bn.sH;obtain⟨bm,om,rfl,hat⟩:=hg.1.get MAt.plain hj;obtain⟨vf,vb,k0,k1,k2,gu,hb0⟩:=hat.at;obtain⟨af,nf,cf,rfl,_,_⟩:=gu.sH;obtain⟨ab,nb,cb,rfl,_,_⟩:=hb0.sH;have lm:(j:Int)<(nm:Int):=by
  have h1:=hg.1.len.1;have h2:=(yG.1 hj).1;omega
 obtain⟨lx,ex,tx,sx⟩:=kpR.src dg.2;obtain⟨ly,ey,ty,sy⟩:=kpR.src bn.2;have sx:=sx.sub hsu;have sy:=sy.sub hsu;have HU:Hid (lx.map Prod.fst=BO.unk x∧ly.map Prod.fst=BO.unk y):=⟨ex,ey⟩
 have hwt:(((BO.vals x).map (jW (jWB d))).sum+(BO.unk x).length)+(((BO.vals y).map (jW (jWB d))).sum+(BO.unk y).length)≤1000000000:=hwt;have mh:lx.length=(BO.unk x).length:=by rw[←ex,yX]
 have mj:ly.length=(BO.unk y).length:=by rw[←ey,yX]
 have g1:lx.length*48≤140737488355328:=by omega
 have ku:(([]++lx).length+ly.length)*ekR.bytes≤140737488355328:=by show(_+_)*48≤_;rw[tH];omega
 obtain⟨W1,fw⟩:=zM ((((w.alloc (.cells #[.slice (some ⟨bm,om,none⟩) nm cm,.slice ae ne ce] 25)).alloc (.cells #[.slice a0 n0 c0,.slice a1 n1 c1] 29)).alloc (.cells #[.slice b0 m0 d0,.slice b1 m1 d1] 29)).alloc (.cells #[.slice none 0 0,.slice none 0 0] 29));obtain⟨xf,xa,xb,xr,z0⟩:=dQ w (.cells #[.slice (some ⟨bm,om,none⟩) nm cm,.slice ae ne ce] 25) (.cells #[.slice a0 n0 c0,.slice a1 n1 c1] 29) (.cells #[.slice b0 m0 d0,.slice b1 m1 d1] 29) (.cells #[.slice none 0 0,.slice none 0 0] 29);rw[←fw.out] at xf xa xb xr z0;have hb1:zB w W1:=by rw[fw.out];exact((((zH _ _).alloc (zG _) _).alloc (by simp) _).alloc (by simp;omega) _).alloc (by simp;omega) _
 have js:=zI z0;have hz1:=xD z0.symm;have km:=xD z0;obtain⟨W2,iu,hb2,-,-⟩:=zV W1 (.cells #[.string (S M.name),.slice af nf cf,.slice ab nb cb] 35);have xm:W2.heap[w.heap.size+4]?=some (.cells #[.string (S M.name),.slice af nf cf,.slice ab nb cb] 35 (0,0)):=by rw[←z0,iu.out];exact yM _ _
 have hz2:w.heap.size+5≤W2.heap.size:=(zR xm)
 have xf:=(zN hb2).trans xf;have xa:=(zN hb2).trans xa;have xb:=(zN hb2).trans xb;have xr:=(zN hb2).trans xr;have hw2:=zP hb1 hb2;have bl:∀ V,FrB [w.heap.size+1] W2 V→(V.cell? ⟨w.heap.size,0,none⟩=some (.slice (some ⟨bm,om,none⟩) nm cm)∧V.cell? ⟨w.heap.size,1,none⟩=some (.slice ae ne ce))∧(V.cell? ⟨w.heap.size+2,0,none⟩=some (.slice b0 m0 d0)∧V.cell? ⟨w.heap.size+2,1,none⟩=some (.slice b1 m1 d1))∧(V.cell? ⟨w.heap.size+4,0,none⟩=some (.string (S M.name))∧V.cell? ⟨w.heap.size+4,1,none⟩=some (.slice af nf cf)∧V.cell? ⟨w.heap.size+4,2,none⟩=some (.slice ab nb cb))∧V.heap[w.heap.size+3]?=some (.cells #[.slice none 0 0,.slice none 0 0] 29 (0,0)):=fun V hV=>
  ⟨zO ((hV.block _ (by omega) (.inl (by simp))).trans xf),zO ((hV.block _ (by omega) (.inl (by simp))).trans xb),uG ((hV.block _ (by omega) (.inl (by simp))).trans xm),(hV.block _ (by omega) (.inl (by simp))).trans xr⟩
 have dh:=fun V (hV:FrB [w.heap.size+1] W2 V)=>hw2.trans (hV.bL (by omega) (fun k hk=>by rw[zS.1 hk];omega))
 have kv:=zQ (zP h0 hb1) k0;have kw:=zQ (zP h0 hb1) k1;have kx:=zQ (zP h0 hb1) k2;obtain⟨fs,fd⟩:=zM (M.fD);have fj:Hid (RdL 6 FAt W0 (.slice af nf cf) fs):=by rw[fd.out];exact gu
 have HX:=zI dg.1;have HY:=zI bn.1;have ik:Hid (((BO.vals x).Pairwise fun u v=>u.nU<v.nU)∧∀ v∈BO.vals x,GdV (GdB g.mG d) g.mG fs v):=by rw[fd.out];exact gx
 have il:Hid (∀ v∈BO.vals y,GdV (GdB g.mG d) g.mG fs v):=by rw[fd.out];exact gy.2
 have iy:Hid (((BO.vals x).map (jW (jWB d))).sum+((BO.vals y).map (jW (jWB d))).sum≤1000000000):=by show _≤_;omega
 have fz:=zI bn.1.len.1;have lu:m0≤1000000000:=by
  have h1:=tY (jW (jWB d)) (fun v=>by unfold jW;omega) (BO.vals y);have h2:=iy.out;have h3:=fz.out;omega
 have HJ:Hid (jnB g.mG (d+1) M x y=(⟨(BO.vals y).foldl (wC (jnB g.mG d) g.mG fs) (BO.vals x),BO.unk x++BO.unk y⟩:BO (BI d))):=by rw[fd.out];rfl
 obtain⟨RR,ir⟩:=zM (jnB g.mG (d+1) M x y);rw[←ir.out];have HG:=zI hg;have jk:=zI ih;obtain⟨q0,q1⟩:=zO ((zN hb2).symm.trans xf);clear dg bn gx gy hwt hat gu hb0 k0 k1 k2 hj ex ey hg ih z0;go_enter Tryz.func115,Tryz.ntmps115;go_upto_region 1 with fail
 rw[←fw.out];go_upto_region 2 with fail
 rw[←iu.out,js.out];clear q0 q1 kv kw kx;obtain⟨⟨q0,q1⟩,⟨q2,q3⟩,⟨q4,q5,q6⟩,ak⟩:=bl W2 (FrB.refl _ _);go_wp2_with fail
 go_loopg [22] m0 (fun gm i wr=>∃ (k:Nat) (a':Option Addr) (n' c':Nat) (l':List (VI (BI d))),k+gm=m0∧i = .int .i64 k∧wr.heap[w.heap.size+1]?=some (.cells #[.slice a' n' c',.slice a1 n1 c1] 29 (0,0))∧Hid (∀ u',OverF [w.heap.size+1,w.heap.size+3] u w wr u'→RdL 4 (VAt (BAt d)) u' (.slice a' n' c') l')∧Hid (l'=((BO.vals y).take k).foldl (wC (jnB g.mG d) g.mG fs) (BO.vals x))∧FrB [w.heap.size+1] W2 wr)
 case atStart=>exact⟨0,a0,n0,c0,BO.vals x,by omega,rfl,xa,fun u' ho=>HX.out.sub (VAt.gW (BAt.gW d)) ho.sub,rfl,FrB.refl _ _⟩
 case round=>
  obtain⟨k,a',n',c',l',hk,rfl,xc,HL,ew,df⟩:=hrel;clear q0 q1 q2 q3 q4 q5 q6 ak;obtain⟨⟨q0,q1⟩,⟨q2,q3⟩,⟨q4,q5,q6⟩,ak⟩:=bl wr df;have mg:=df.size;have cu:=dh wr df;by_cases hlt:k<m0
  ·have lp:(k:Int)<(m0:Int):=by omega
   obtain⟨v,Hv⟩:=yE (l:=(BO.vals y)) (k:=k) (by rw[←fz.out];exact hlt);obtain⟨bv,ov,rfl,jc⟩:=HY.out.get VAt.plain Hv.out;obtain⟨s1,s2,s3,y0,y1,y2,y3,r1,r2,r3⟩:=jc.at;obtain⟨dl,i1,j1,rfl,_,_⟩:=r1.sH;obtain⟨dm,i2,j2,rfl,_,_⟩:=r2.sH;obtain⟨dn,i3,j3,rfl,_,_⟩:=r3.sH;have iq:Hid (QRd d u (v,(dl,i1,j1),(dm,i2,j2),(dn,i3,j3))):=⟨r1,r2,r3⟩
   have y0:=zQ cu (hsu _ _ y0);have y1:=zQ cu (hsu _ _ y1);have y2:=zQ cu (hsu _ _ y2);have y3:=zQ cu (hsu _ _ y3);have eu:=zI (il.out v (xV Hv.out));obtain⟨xv,bg⟩:∃ xv,Hid (fs.find? (isF v.nU)=some xv):=by
    obtain⟨xv,h,_⟩:=eu.out;exact⟨xv,h⟩
   have fk:Hid ((l'.Pairwise fun u v=>u.nU<v.nU)∧∀ v∈l',GdV (GdB g.mG d) g.mG fs v):=by
    rw[ew.out];exact⟨cN _ _ ik.out.1,VV (fun M s t=>ZT g.mG d M s t) _ _ ik.out.2 fun a ha=>il.out a (lX ha)⟩
   have ix:Hid ((l'.map (jW (jWB d))).sum+jW (jWB d) v≤1000000000):=by
    show _≤_;have h1:=ZJ (f:=jWB d) (J:=jnB g.mG d) (fun M s t=>iL g.mG d M s t) g.mG fs ((BO.vals y).take k) (BO.vals x);have h2:=D1t (jW (jWB d)) Hv.out;have h3:=iy.out;rw[←ew.out] at h1;omega
   have j8:(l'.length+1)*80≤140737488355328:=by
    have h1:=tY (jW (jWB d)) (fun v=>by unfold jW;omega) l';have h2:=ix.out;omega
   have jo:Hid (wC (jnB g.mG d) g.mG fs l' v=((BO.vals y).take (k+1)).foldl (wC (jnB g.mG d) g.mG fs) (BO.vals x)):=by
    show _=_;rw[C8i _ Hv.out,←ew.out]
   obtain⟨e,He⟩:=yP (wr.heap.size);have li:=xD He.out.symm;have lj:=xD He.out;obtain⟨W5,iw,gi,-,-⟩:=zV wr (.cells #[.int .i64 v.nU,.slice dl i1 j1,.slice dm i2 j2,.slice dn i3 j3] 63);have x5:W5.heap[e]?=some (.cells #[.int .i64 v.nU,.slice dl i1 j1,.slice dm i2 j2,.slice dn i3 j3] 63 (0,0)):=by rw[←He.out,iw.out];exact yM _ _
   have je:=(zR x5)
   have cw:=df.trans (FrB.of_below (F:=[]) gi) (fun i h=>h) (fun i h=>by simp at h);have bk:=dh W5 cw;have cj:=(zN gi).trans xc;have im:Hid (∀ V u',W5.heap.size≤V.heap.size→(∀ k,k<W5.heap.size→k≠e→V.heap[k]?=W5.heap[k]?)→OverF [e,w.heap.size+1,w.heap.size+3] u w V u'→RdL 4 (VAt (BAt d)) u' (.slice a' n' c') l'):=by
    intro V u' hs hV ho;refine HL.out u' (ho.back (by omega) fun k h1 h2 h3=>⟨?_,?_⟩)
    ·simp only[yY,xP,or_false,not_or] at h3 ⊢;exact⟨by omega,h3.1,h3.2⟩
    ·rw[hV k (by omega) (by omega)];exact gi.block k h2
   have ei:=kZ (F:=[e,w.heap.size+1,w.heap.size+3]) hsu bk;have eh:=cI (F:=[e,w.heap.size+1,w.heap.size+3]) (V:=W5) hsu bk.size;obtain⟨p5,iz⟩:=zM (tL u w [e,w.heap.size+1,w.heap.size+3] W5);rw[←iz.out] at ei eh;have d9:=B8o (im.out W5 p5 (zG _) (fun _ _ _=>rfl) eh) ei (v1:=.slice a1 n1 c1) ⟨_,_,_,rfl⟩ v.nU;have bh:∀ (V:World) (v':VI (BI d)) (o1:Option Addr) (t1 z1:Nat) (o2:Option Addr) (t2 z2:Nat) (o3:Option Addr) (t3 z3:Nat),FrB [e] W5 V→fs.find? (isF v'.nU)=some xv→GdV (GdB g.mG d) g.mG fs v'→wC (jnB g.mG d) g.mG fs l' v=putN fs xv l' v'→(∀ u',OverF [e,w.heap.size+1,w.heap.size+3] u w V u'→QRd d u' (v',(o1,t1,z1),(o2,t2,z2),(o3,t3,z3)))→
     Calls Tryz.prog 55 #[.agg #[.string (S M.name),.slice af nf cf,.slice ab nb cb],.agg #[.slice a' n' c',.slice a1 n1 c1],.agg #[.int .i64 v'.nU,.slice o1 t1 z1,.slice o2 t2 z2,.slice o3 t3 z3]] V fun r w'=>∃ (ao:Option Addr) (n c:Nat),r = .returned (.agg #[.slice ao n c,.slice a1 n1 c1])∧(∀ u' V',w'.heap.size≤V'.heap.size→(∀ k,k<w'.heap.size→k≠w.heap.size+1→V'.heap[k]?=w'.heap[k]?)→OverF [w.heap.size+1,w.heap.size+3] u w V' u'→RdL 4 (VAt (BAt d)) u' (.slice ao n c) (((BO.vals y).take (k+1)).foldl (wC (jnB g.mG d) g.mG fs) (BO.vals x)))∧zB V w':=by
    intro V v' o1 t1 z1 o2 t2 z2 o3 t3 z3 hV jd g7 hput hq';have jy:=cw.trans hV (fun i h=>h) (fun i h=>.inr (by rw[zS.1 h];omega));have av:=dh V jy;have kt:=hV.size;have ee:=cI (F:=[e,w.heap.size+1,w.heap.size+3]) (V:=V) hsu av.size;have hl:=im.out V _ kt (fun k h1 h2=>hV.block k h1 (.inl (by simpa using h2))) ee;have g9:=hq' _ ee;refine(C3j (kZ hsu av) (fj.out.bL FAt.sT (zP h0 av)) hl jd g9.1 g9.2.1 g9.2.2 j8).mono ?_;rintro r w' ⟨ao,n,c,rfl,hr,ac⟩;refine⟨ao,n,c,rfl,fun u' V' hs dv ho=>?_,ac⟩;have:=hr u' ⟨dO ho av.size (by have:=ac.size;omega) (fun k h1 h2 h3=>?_),fun k h1 h2=>?_⟩
    ·rw[←jo.out,hput,←D1l fk.out.1 g7 jd];exact this
    ·simp only[yY,xP,or_false,not_or] at h3 ⊢;exact⟨⟨h3.2.1,h3.2.2⟩,(dv k (by have:=ac.size;omega) h3.2.1).trans (ac.block k h2)⟩
    ·have h4:=av.size;rw[ho.new k (by omega) (by omega) (by simp only[yY,xP,or_false,not_or];constructor <;> omega)];exact dv k h2 (by omega)
   clear jc r1 r2 r3;go_upto_region 5 with fail
   rw[←iw.out,He.out];clear q0 q1 q2 q3 q4 q5 q6 ak y0 y1 y2 y3;obtain⟨⟨q0,q1⟩,⟨q2,q3⟩,⟨q4,q5,q6⟩,ak⟩:=bl W5 cw;obtain⟨y0,y1,y2,y3⟩:=tQ x5;obtain⟨aw,c1'⟩:=zO cj;cases hfnd:l'.find? (fun v'=>decide (v'.nU=v.nU)) with
   | none=>
    rw[hfnd] at d9;have HP:Hid (wC (jnB g.mG d) g.mG fs l' v=putN fs xv l' v):=by
     show _=_;unfold wC;rw[bg.out];have:l'.find? (isV v.nU)=none:=hfnd;rw[this]
    clear hfnd;go_wp2_with fail
    refine d9.mono ?_;rintro r w6 ⟨⟨vz,rfl,rfl⟩,fe⟩;obtain⟨W7,di⟩:=zM (w6.alloc (.cells #[.int .i64 0,.slice none 0 0,.slice none 0 0,.slice none 0 0] 63));have ba:zB W5 W7:=by rw[di.out];exact zP fe ((zH _ _).alloc (zG _) _)
    have gh:FrB [e] W5 W7:=FrB.of_below ba;have xe:=(ba.block _ je).trans x5;have eo:=(zN ba).trans cj;have cg:=bh W7 v dl i1 j1 dm i2 j2 dn i3 j3 gh bg.out eu.out HP.out (fun u' ho=>iq.out.sub ho.sub);clear q0 q1 q2 q3 q4 q5 q6 ak y0 y1 y2 y3 aw c1';have dz:=cw.trans gh (fun i h=>h) (fun i h=>.inr (by rw[zS.1 h];omega));obtain⟨⟨q0,q1⟩,⟨q2,q3⟩,⟨q4,q5,q6⟩,ak⟩:=bl W7 dz;obtain⟨y0,y1,y2,y3⟩:=tQ xe;obtain⟨aw,c1'⟩:=zO eo;have dx:=gh;go_upto_region 8 with fail
    rw[←di.out];exact Qm3
   | some old=>
    rw[hfnd] at d9;have HO:Hid (l'.find? (isV v.nU)=some old):=hfnd;have fu:Hid (old.nU=v.nU):=by show _=_;have:=rN hfnd;simpa using this
    have fq:=zI (xL hfnd);clear hfnd;go_wp2_with fail
    refine d9.mono ?_;rintro r w6 ⟨⟨o1,t1,z1,o2,t2,z2,o3,t3,z3,rfl,f1,f2,f3⟩,fe⟩;have jq:Hid (QRd d p5 (old,(o1,t1,z1),(o2,t2,z2),(o3,t3,z3))):=⟨f1,f2,f3⟩
    obtain⟨o,Ho⟩:=yP (w6.heap.size);have lw:=xD Ho.out.symm;have lz:=xD Ho.out;obtain⟨W7,di,gj,-,-⟩:=zV w6 (.cells #[.int .i64 old.nU,.slice o1 t1 z1,.slice o2 t2 z2,.slice o3 t3 z3] 63);have ba:=zP fe gj;have x7:W7.heap[o]?=some (.cells #[.int .i64 old.nU,.slice o1 t1 z1,.slice o2 t2 z2,.slice o3 t3 z3] 63 (0,0)):=by rw[←Ho.out,di.out];exact yM _ _
    have ko:=(zR x7)
    have l7:=fe.size;have bc:=(ba.block _ je).trans x5;have jg:=(zN ba).trans cj;have gw:=cw.trans (FrB.of_below (F:=[]) ba) (fun i h=>h) (fun i h=>by simp at h);clear f1 f2 f3 d9 q0 q1 q2 q3 q4 q5 q6 ak y0 y1 y2 y3 aw c1';go_upto_region 6 with fail
    rw[←di.out,Ho.out];go_upto_region 7 with fail
    have hD:zB W7 W7.drew:=(zH _ _).drew;have kg:FrB [e] W7 W7.drew:=FrB.of_below hD;have ah:∀ V,FrB [e] W7 V→(V.cell? ⟨w.heap.size,0,none⟩=some (.slice (some ⟨bm,om,none⟩) nm cm)∧V.cell? ⟨w.heap.size,1,none⟩=some (.slice ae ne ce))∧(V.cell? ⟨w.heap.size+4,0,none⟩=some (.string (S M.name))∧V.cell? ⟨w.heap.size+4,1,none⟩=some (.slice af nf cf)∧V.cell? ⟨w.heap.size+4,2,none⟩=some (.slice ab nb cb))∧(V.cell? ⟨o,0,none⟩=some (.int .i64 old.nU)∧V.cell? ⟨o,1,none⟩=some (.slice o1 t1 z1)∧V.cell? ⟨o,2,none⟩=some (.slice o2 t2 z2)∧V.cell? ⟨o,3,none⟩=some (.slice o3 t3 z3)):=fun V hV=>by
     obtain⟨h1,_,h2,_⟩:=bl V (gw.trans hV (fun i h=>h) (fun i h=>.inr (by rw[zS.1 h];omega)));exact⟨h1,h2,tQ ((hV.block _ ko (.inl (by simp;omega))).trans x7)⟩
    obtain⟨jf,g8,j7,i7⟩:=cX bg.out;have i9:=qI bg.out;obtain⟨bf,of',rfl,i6⟩:=fj.out.get FAt.plain g8;have ji:=zI i6;have jt:=zP (zP h0 (dh W7 gw)) hD;have hfn:=fR (nm:=.string (S M.name)) (vb:=.slice ab nb cb) (fj.out.bL FAt.sT jt) ⟨_,_,_,rfl⟩ ⟨_,rfl⟩ v.nU g8 i9 i7;have jn:Hid (jW (jWB d) old+jW (jWB d) v≤1000000000):=by
     show _≤_;have h1:=dL (jW (jWB d)) fq.out;have h2:=ix.out;omega
    have gl:∀ V,zB W7 V→Calls Tryz.prog 54 #[.agg #[.slice (some ⟨bm,om,none⟩) nm cm,.slice ae ne ce],.pointer (some ⟨bf,of'+jf*6,none⟩),.agg #[.int .i64 old.nU,.slice o1 t1 z1,.slice o2 t2 z2,.slice o3 t3 z3],.agg #[.int .i64 v.nU,.slice dl i1 j1,.slice dm i2 j2,.slice dn i3 j3]] V fun r w'=>∃ (e1:Option Addr) (h1 l1:Nat) (e2:Option Addr) (h2 l2:Nat) (e3:Option Addr) (h3 l3:Nat),r = .returned (.agg #[.int .i64 (zX (jnB g.mG d) g.mG xv old v).nU,.slice e1 h1 l1,.slice e2 h2 l2,.slice e3 h3 l3])∧(∀ u' V',w'.heap.size≤V'.heap.size→(∀ k,k<w'.heap.size→k≠e→V'.heap[k]?=w'.heap[k]?)→OverF [e,w.heap.size+1,w.heap.size+3] u w V' u'→QRd d u' (zX (jnB g.mG d) g.mG xv old v,(e1,h1,l1),(e2,h2,l2),(e3,h3,l3)))∧zB V w':=fun V hV=>by
     have av:=zP (dh W7 gw) hV;have f6:=zP ba hV;have ee:=cI (F:=[e,w.heap.size+1,w.heap.size+3]) (V:=V) hsu av.size;have j9:Sub p5 (tL u w [e,w.heap.size+1,w.heap.size+3] V):=by
      rw[iz.out];exact dO ee bk.size f6.size (fun k h1 h2 h3=>⟨h3,f6.block k h2⟩)
     refine(B8m HG.out jk.out (zP h0 av) (kZ hsu av) ji.out old v fu.out bg.out (fk.out.2 old fq.out) eu.out jn.out (jq.out.sub j9) (iq.out.sub ee.sub)).mono ?_;rintro r w' ⟨e1,h1,l1,e2,h2,l2,e3,h3,l3,rfl,hr,ac⟩;refine⟨e1,h1,l1,e2,h2,l2,e3,h3,l3,rfl,fun u' V' hs dv ho=>?_,ac⟩;refine hr u' ⟨dO ho av.size (by have:=ac.size;omega) (fun k h1 h2 h3=>⟨h3,?_⟩),fun k h1 h2=>?_⟩
     ·simp only[yY,xP,or_false,not_or] at h3;exact(dv k (by have:=ac.size;omega) h3.1).trans (ac.block k h2)
     ·have h4:=hV.size;have h5:=av.size;have h6:=f6.size;rw[ho.new k (by omega) (by omega) (by simp only[yY,xP,or_false,not_or];refine⟨?_,?_,?_⟩ <;> omega)];exact dv k h2 (by omega)
    have HP:Hid (wC (jnB g.mG d) g.mG fs l' v=putN fs xv l' (zX (jnB g.mG d) g.mG xv old v)):=by
     show _=_;unfold wC;rw[bg.out,HO.out]
    have ip:Hid ((zX (jnB g.mG d) g.mG xv old v).nU=v.nU):=qH fu.out;have io:=zI (WY (fun M s t=>ZT g.mG d M s t) fu.out bg.out (fk.out.2 old fq.out) eu.out);generalize zX (jnB g.mG d) g.mG xv old v=mt at gl HP ip io;obtain⟨⟨s0,s1⟩,⟨s2,s3,s4⟩,⟨s5,s6,s7,s8⟩⟩:=ah _ kg;have jh:=(zN hD).trans bc;obtain⟨y0,y1,y2,y3⟩:=tQ jh;clear g8 j7 i7 i9 i6;go_cut [41] from 34 to 40 (fun _ wc=>∃ (e1:Option Addr) (p1 l1:Nat) (e2:Option Addr) (p2 l2:Nat) (e3:Option Addr) (p3 l3:Nat),wc.heap[e]?=some (.cells #[.int .i64 mt.nU,.slice e1 p1 l1,.slice e2 p2 l2,.slice e3 p3 l3] 63 (0,0))∧FrB [e] W7 wc∧Hid (∀ u',OverF [e,w.heap.size+1,w.heap.size+3] u w wc u'→QRd d u' (mt,(e1,p1,l1),(e2,p2,l2),(e3,p3,l3))))
    case first=>
     refine rgL (fun V=>zB W7 V) 8 hD ?_;refine tkF 0 rfl hD (fun W hSw=>yH (ah W (FrB.of_below hSw)) (tQ ((zN hSw).trans bc))) ?_
     try simp only[zE]
     refine tkF 1 rfl hD (fun W hSw=>yH (ah W (FrB.of_below hSw)) (tQ ((zN hSw).trans bc))) ?_
     try simp only[zE]
     refine tkF 2 rfl hD (fun W hSw=>yH (ah W (FrB.of_below hSw)) (tQ ((zN hSw).trans bc))) ?_
     try simp only[zE]
     refine tkF 3 rfl hD (fun W hSw=>yH (ah W (FrB.of_below hSw)) (tQ ((zN hSw).trans bc))) ?_
     try simp only[zE]
     refine tkF 5 rfl hD (fun W hSw=>yH (ah W (FrB.of_below hSw)) (tQ ((zN hSw).trans bc))) ?_
     try simp only[zE]
     refine tkF 6 rfl hD (fun W hSw=>yH (ah W (FrB.of_below hSw)) (tQ ((zN hSw).trans bc))) ?_
     try simp only[zE]
     refine xT 4 rfl (fun K hK=>?_);go_simp;refine hfn.mono ?_;rintro r w8 ⟨⟨b',o',e',rfl⟩,jw⟩;cases e'
     have f9:=zP hD jw;have gp:=gl w8 f9;refine hK.out _ _ (fun _=>f9) ?_;clear hK K
     try simp only[zE]
     refine xT 7 rfl (fun K hK=>?_);go_simp;refine gp.mono ?_;rintro r w9 ⟨e1,p1,l1,e2,p2,l2,e3,p3,l3,rfl,jv,jx⟩;have gc:=zP f9 jx;have kj:FrB [e] W7 w9:=FrB.of_below gc;have fh:=(zN gc).trans bc;obtain⟨u0,u1,u2,u3⟩:=tQ fh;have lg:=zJ fh;have ig:FrB [e] W7 ((((w9.setCell ⟨e,0,none⟩ (.int .i64 mt.nU)).setCell ⟨e,1,none⟩ (.slice e1 p1 l1)).setCell ⟨e,2,none⟩ (.slice e2 p2 l2)).setCell ⟨e,3,none⟩ (.slice e3 p3 l3)):=kj.trans (FrB.set4T fh (by decide)) (fun i h=>h) (fun i h=>.inl h);refine hK.out _ _ (fun _=>gc) ?_;clear hK K
     try simp only[zE]
     refine xT 8 rfl (fun K hK=>?_);go_simp;refine hK.out _ _ (fun h=>(h rfl).elim) ?_;clear hK K
     try simp only[zE]
     refine dnL ?_;go_wp2_with fail
     go_meet;exact⟨e1,p1,l1,e2,p2,l2,e3,p3,l3,rG _ _ _ _ _ _ (rG _ _ _ _ _ _ (rG _ _ _ _ _ _ (rG _ _ _ _ _ _ fh))),ig,fun u' ho=>jv u' _ (by simp) (fun k h1 h2=>by rw[zZ _ _ _ k (show k≠e from h2),zZ _ _ _ k (show k≠e from h2),zZ _ _ _ k (show k≠e from h2),zZ _ _ _ k (show k≠e from h2)]) ho⟩
    case rest=>
    obtain⟨e1,p1,l1,e2,p2,l2,e3,p3,l3,xe,dw,jp⟩:=hcut;obtain⟨V8,jr⟩:∃ V8,V8=wc:=⟨_,rfl⟩
    subst jr;have dx:=(FrB.of_below (F:=[e]) ba).trans dw (fun i h=>h) (fun i h=>.inl h);have eo:=(dw.block _ (by omega) (.inl (by simp;omega))).trans jg;have cg:=bh V8 mt e1 p1 l1 e2 p2 l2 e3 p3 l3 dx (by rw[ip.out];exact bg.out) io.out HP.out jp.out;clear y0 y1 y2 y3 s0 s1 s2 s3 s4 s5 s6 s7 s8 gl hfn bh bc jg jh ah;have dz:=cw.trans dx (fun i h=>h) (fun i h=>.inr (by rw[zS.1 h];omega));obtain⟨⟨q0,q1⟩,⟨q2,q3⟩,⟨q4,q5,q6⟩,ak⟩:=bl V8 dz;obtain⟨y0,y1,y2,y3⟩:=tQ xe;obtain⟨aw,c1'⟩:=zO eo;exact Qm3
  ·have jl:Hid (l'=(BO.vals y).foldl (wC (jnB g.mG d) g.mG fs) (BO.vals x)):=by
    show _=_;rw[ew.out,uP (by rw[←fz.out];omega)]
   have ld:=(df.block _ (by omega) (.inl (by simp))).trans xb;go_upto_region 10 with fail
   go_cut [54] from 47 to 53 (fun _ wc=>∃ (i':Option Addr) (j' z':Nat),wc.heap[w.heap.size+1]?=some (.cells #[.slice a' n' c',.slice i' j' z'] 29 (0,0))∧Row ekR wc wr.heap.size (.slice i' j' z') (lx++ly)∧FrB [w.heap.size+1] wr wc)
   case first=>
    obtain⟨X1,fy⟩:=zM ((wr.alloc (.cells #[] 78)).drew);have dt:zB wr wr.drew:=(zH _ _).drew;have dy:zB wr X1:=by rw[fy.out];exact((zH _ _).alloc (zG _) _).drew
    have kz:X1.heap[wr.heap.size]?=some (.cells #[] 78 (0,0)):=by rw[fy.out];exact yM wr _
    have jb:=Row.empT (ekR) (base:=wr.heap.size) (zG _) kz;have au:∀ U,zB wr U→U.cell? ⟨w.heap.size+1,1,none⟩=some (.slice a1 n1 c1)∧U.frozen? ⟨w.heap.size+1,1,none⟩=false∧U.cell? ⟨w.heap.size+2,1,none⟩=some (.slice b1 m1 d1):=fun U hU=>⟨zL ((zN hU).trans xc) 1 _ rfl,zJ ((zN hU).trans xc) 1,zL ((zN hU).trans ld) 1 _ rfl⟩
    have bu:=(sx.bL cu).bL dy;refine rgL (fun U=>zB wr U) 8 dt ?_;refine tkF 1 rfl dt au ?_
    try simp only[zE]
    refine tkF 2 rfl dt au ?_
    try simp only[zE]
    refine tkF 4 rfl dt au ?_
    try simp only[zE]
    refine tkF 5 rfl dt au ?_
    try simp only[zE]
    refine xT 0 rfl (fun K hK=>?_);go_simp;rw[←fy.out];refine hK.out _ _ (fun _=>dy) ?_;clear hK K
    try simp only[zE]
    refine xT 3 rfl (fun K hK=>?_);skip;refine vS (by rfl) (ekR) _ _ (by rfl) wr.heap.size (.slice (some ⟨wr.heap.size,0,none⟩) 0 0) [] lx (by rfl) jb a1 n1 c1 (by rfl) bu.1 bu.2.1 bu.2.2 (show 1≤48 by omega) (by show(0+_)*48≤_;rw[tU];exact g1) dy.size ?_;intro v5 w5 ie j5;obtain⟨a5,n5,c5,rfl,H5⟩:=ie.shape';have dp:=dy.grown j5 dy.size (fun k hk=>(jb.own k hk).1);have ii:=(sy.bL cu).bL dp;refine hK.out _ _ (fun _=>dp) ?_;clear hK K
    try simp only[zE]
    refine xT 6 rfl (fun K hK=>?_);skip;refine vS (by rfl) (ekR) _ _ (by rfl) wr.heap.size (.slice a5 n5 c5) ([]++lx) ly (by rfl) ie b1 m1 d1 (by rfl) ii.1 ii.2.1 ii.2.2 (show 1≤48 by omega) ku dp.size ?_;intro v7 w7 ja j6;obtain⟨a7,n7,c7,rfl,H7⟩:=ja.shape';have dr:=dp.grown j6 dp.size (fun k hk=>(ie.own k hk).1);have ju:=(zN dr).trans xc;obtain⟨mz,ng,nh⟩:=au _ dr;refine hK.out _ _ (fun _=>dr) ?_;clear hK K
    try simp only[zE]
    refine tkF 7 rfl dr au ?_
    try simp only[zE]
    refine xT 8 rfl (fun K hK=>?_);go_simp;refine hK.out _ _ (fun h=>(h rfl).elim) ?_;clear hK K
    try simp only[zE]
    refine dnL ?_;go_wp2_with fail
    go_meet;exact⟨a7,n7,c7,rG _ _ _ _ _ _ ju,ja.set4 (by omega),FrB.setT xc (by decide) dr⟩
   case rest=>
   obtain⟨i',j',z',lf,ke,gz⟩:=hcut;have i5:=df.trans gz (fun i h=>h) (fun i h=>.inl h);clear q0 q1 q2 q3 q4 q5 q6 ak;obtain⟨⟨q0,q1⟩,⟨q2,q3⟩,⟨q4,q5,q6⟩,ak⟩:=bl wc i5;obtain⟨aw,c1'⟩:=zO lf;obtain⟨mr,mv⟩:=zO ak;have lh:=zJ ak;have ma:=gz.size;have gq:=dh wc i5;have ml:¬ w.heap.size+1=w.heap.size+3:=by omega
   go_wp2_with fail
   refine bodyPost_ret (v:=.agg #[.slice a' n' c',.slice i' j' z']) (by simp[results,Tryz.results115,go_sem, *]) rfl ?_;refine⟨a',n',c',i',j',z',rfl,fun u' ho=>?_,yL (yL gq (by omega)) (by omega)⟩;rw[ir.out,HJ.out];refine⟨?_,?_⟩
   ·have:=HL.out u' ((OverF.of (F:=[]) ho).back (by simp;omega) (fun k h1 h2 h3=>⟨by simp,?_⟩))
    ·rw[jl.out] at this;exact this
    ·simp only[yY,xP,or_false,not_or] at h3;rw[zZ _ _ _ k (show k≠w.heap.size+3 from h3.2),zZ _ _ _ k (show k≠w.heap.size+3 from h3.2)];exact gz.block k h2 (.inl (by simpa using h3.1))
   ·have:=kpR.rd (Row.over ((ke.set4 (show w.heap.size+3<wr.heap.size by omega)).set4 (show w.heap.size+3<wr.heap.size by omega)) ho (by omega)) (fun z hz=>(zU.1 hz).elim (tx z) (ty z)) ho.sub;rw[wM,HU.out.1,HU.out.2] at this;exact this
theorem B8u {g:GI}{W0:World}{am ae:Option Addr}{nm cm ne ce:Nat}(hg:GRd W0 (.slice am nm cm) (.slice ae ne ce) g):∀ d,cP g W0 (.slice am nm cm) (.slice ae ne ce) d
 | 0=>fun _ _ _ _ _ _ _ _ _ _ _ _ _ h=>h.elim
 | d+1=>C6g hg (B8u hg d)
end L
end Go.Proofs.YthcomdofaaeihaaGreatDoor
