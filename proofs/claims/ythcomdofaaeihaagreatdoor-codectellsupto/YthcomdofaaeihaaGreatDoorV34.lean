import Derived.Test.YthcomdofaaeihaaGreatDoorV33
set_option maxHeartbeats 32000000
set_option maxRecDepth 100000
set_option linter.unusedVariables false
namespace Go.Proofs.YthcomdofaaeihaaGreatDoor
namespace L
open Go.RowKit
variable{β:Type}{g:GI}{x:FI}{fs:List FI}{d:Nat}
theorem D7i {v:VI (BI d)}(h:VQk (BQk d) v)(hw:jW (jWB d) v≤1000000000):VOk (BOk d) v:=by
 obtain⟨q1,q2,q3,q4⟩:=h;unfold jW at hw;have h2:=tY (fun s=>1+jWB d s) (fun _=>by omega) v.subs;refine⟨q1,q2,by unfold reachBytes;omega,q3,by unfold reachBytes;omega,fun s hs=>ZD d s (q4 s hs) ?_,by unfold reachBytes;omega⟩;have:=dL (fun s=>1+jWB d s) hs;omega
theorem D7j {v:VI (BI d)}(h:VOk (BOk d) v):VQk (BQk d) v:=⟨h.1,h.2.1,h.2.2.2.1,fun s hs=>fE d s (h.2.2.2.2.2.1 s hs)⟩
theorem VQ {a b v:VI (BI d)}(h:pH g d x a b = .ok v):v=zX (jnB g.mG d) g.mG x a b:=by
 cases d with
 | zero=>exact(Except.ok.inj h).symm
 | succ d=>
 rw[jD] at h;split at h
 ·split at h
  ·split at h
   ·exact(Except.ok.inj h).symm
   cases h
  exact(Except.ok.inj h).symm
 exact(Except.ok.inj h).symm
def WOut (d:Nat)(w:World)(s0 s1:Value)(b:BO (BI d))(res:Except Int (BO (BI d)))(e:Ending)(w':World):Prop:=
 match res with
 | .error E=>E≠0∧e = .returned (.tuple #[.agg #[.slice none 0 0,.slice none 0 0],.int .i64 E])
 | .ok b'=>(b'=b∧e = .returned (.tuple #[.agg #[s0,s1],.int .i64 0]))∨∃ (c:LB (d+1)) (i0:Option Addr) (j0 l0:Nat) (i1:Option Addr) (j1 l1:Nat),vO (d+1) c = [.slice i0 j0 l0,.slice i1 j1 l1]∧e = .returned (.tuple #[.agg #[.slice i0 j0 l0,.slice i1 j1 l1],.int .i64 0])∧LB.pl (d+1) c=b'∧OwnB w.heap.size (d+1) w' c∧(LB.fp (d+1) c).Nodup
theorem D7r (w:World)(o:Obj):(w.alloc o).heap[w.heap.size]?=some o∧w.heap.size+1≤(w.alloc o).heap.size:=⟨yM _ o,by simp⟩
theorem C2l {α:Type}{f : α→β}{l:List α}{b : β}(h:l.map f = [b]):∃ a,l = [a]∧f a=b:=by
 rcases l with _|⟨a,_|⟨c,l⟩⟩
 ·simp at h
 ·exact⟨a,rfl,by simpa using h⟩
 simp at h
def E1q {d:Nat}(fs:List FI)(x:FI)(b:BO (BI d)):Except Int (VI (BI d))→Except Int (BO (BI d))
 | .error E=>.error E
 | .ok v'=>if 60<yS v' then .error 5 else .ok ⟨putN fs x b.vals v',b.unk⟩
theorem C6x {b:BO (BI d)}{v u:VI (BI d)}(h0:yS v≠0)(h:b.vals.find? (isV v.nU)=some u):tD g d fs x b v=E1q fs x b (pH g d x u v):=by
 unfold tD;rw[zC h0,h];rfl
def MRd {d:Nat}(F:List Nat)(w0 w:World)(mu:Int)(e1:Option Addr)(f1 g1:Nat)(e2:Option Addr)(f2 g2:Nat)(e3:Option Addr)(f3 g3:Nat)(E:Int):Except Int (VI (BI d))→Prop
 | .error E'=>E=E'∧E≠0
 | .ok v=>E=0∧v.nU=mu∧∀ w'',Apt F w0 w w''→RdL 1 UAt w'' (.slice e1 f1 g1) v.bits∧RdL 1 ZAt w'' (.slice e2 f2 g2) v.bytes∧RdL 2 (BAt d) w'' (.slice e3 f3 g3) v.subs
theorem B3p {l:List (VI β)}{x:Int}{k:Nat}{v:VI β}(h1:yK (fun v:VI β=>decide (v.nU=x)) l=(k:Int))(h2:l[k]?=some v):l.find? (isV x)=some v:=by
 rcases jJ (fun v:VI β=>decide (v.nU=x)) l with⟨h,_⟩|⟨j,y,h3,h4,h5⟩
 ·rw[h] at h1;omega
 rw[h3] at h1;have:j=k:=by omega
 subst this;rw[h4] at h2;cases h2
 exact h5.1
theorem Qm8{P:Prop}(h:P:=by
 (try dsimp only);with_reducible assumption):P:=h
theorem Qm4{P:Prop}(h:P:=by
 try simp only[zE]
 refine rA (i:=11) rfl fun K hK=>?_
 go_simp;refine(dr V3 hb3).mono ?_;rintro e V4 ⟨e1,f1,g1,e2,f2,g2,e3,f3,g3,E,rfl,HM,bh⟩;have fd:=di V3 V4 hb3 bh;have ag:=dm V3 V4 hb3 bh;obtain⟨jy,j5,j6,j7⟩:=wK ag;have j8:=zJ ag 0;have j9:=zJ ag 1;have ke:=zJ ag 2;have kg:=zJ ag 3;have ko:=hb3.size;have kp:=bh.size;have kt:W9.heap.size≤W9.drew.heap.size:=zG _;have jk:=dl V4 (.int .i64 mu) (.slice e1 f1 g1) (.slice e2 f2 g2) (.slice e3 f3 g3) fd ag (by omega);refine hK.out _ _ ?_ (fun hHeld=>?_)
 ·exact Qm8
 clear hK K
 try simp only[zE]
 refine zTk 12 rfl ac ?_
 try simp only[zE]
 refine zTk 13 rfl ac ?_
 try simp only[zE]
 refine zTk 14 rfl ac ?_
 try simp only[zE]
 refine rA (i:=15) rfl fun K hK=>?_
 go_simp;refine hK.out _ _ ?_ (fun hHeld=>?_)
 ·exact Qm8
 clear hK K
 try simp only[zE]
 refine rA (i:=16) rfl fun K hK=>?_
 go_simp;refine hK.out _ _ ?_ (fun hHeld=>?_)
 ·exact Qm8
 clear hK K
 try simp only[zE]
 refine wpAnyH_done (by kernel_rfl) ?_ _;go_wp2_with fail
 go_meet;refine⟨e1,f1,g1,e2,f2,g2,e3,f3,g3,E,V4,rfl,HM,?_,?_,?_⟩
 ·exact(FrB.of_below (zP (zH _ W9).drew hb3):FrB [] W9 V3).trans bh (fun _ hi=>by simp at hi) (fun _ hi=>.inl hi)
 ·exact yO _ _ 3 _ _ _ (yO _ _ 2 _ _ _ (yO _ _ 1 _ _ _ (yO _ _ 0 _ _ _ ag)))
 ·exact fr4 ag):P:=h
theorem Qm5{P:Prop}(h:P:=by
 go_wp2_with fail
 refine hst.mono ?_;rintro e w9 ⟨c,i0,j0,l0,i1,j1,l1,rfl,HC,fj⟩;have ee:=(fj.block (w.heap.size+4) (by omega)).trans y4;clear p0 p1 bk;obtain⟨p0,p1⟩:=zO ee;have bk:=zJ ee;go_wp2_with fail
 refine bodyPost_ret (v:=.tuple #[.agg #[.slice i0 j0 l0,.slice i1 j1 l1],.int .i64 0]) (by simp[results,Tryz.results46,go_sem, *]) rfl ?_;refine⟨zT (zT (zP dt fj) (by omega)) (by omega),?_⟩;rw[dh.out];obtain⟨h1,h2,h3,h4⟩:=HC.out;refine .inr ⟨c,i0,j0,l0,i1,j1,l1,h1,rfl,h2,OwnB.fr (d+1) [w.heap.size+4] _ _ _ (OwnB.mono (d+1) h3 (by omega)) (fr2 ee) (fun k hk hm=>?_),h4⟩;have:=(OwnB.inB (d+1) h3 k hk).1;rw[zS] at hm;omega):P:=h
theorem Qm6{P:Prop}(h:P:=by
 go_simp;refine hK.out _ _ ?_ (fun hHeld=>?_)
 ·exact Qm8
 clear hK K
 try simp only[zE]
 refine rA (i:=6) rfl fun K hK=>?_
 go_simp;refine dg.mono ?_;rintro e V3 ⟨rfl,hb3⟩;have ji:=cw V3 hb3;have fy:=df V3 hb3;obtain⟨jv,jw,jx,t33⟩:=wK fy;refine hK.out _ _ ?_ (fun hHeld=>?_)
 ·exact Qm8
 clear hK K
 try simp only[zE]
 refine zTk 7 rfl ac ?_
 try simp only[zE]
 refine zTk 8 rfl ac ?_;exact Qm4):P:=h
theorem Qm7{P:Prop}(h:P:=by
 go_wp2_with fail
 refine bodyPost_ret (v:=.tuple #[.agg #[.slice none 0 0,.slice none 0 0],.int .i64 5]) (by simp[results,Tryz.results46,go_sem, *]) rfl ?_;refine⟨?_,?_⟩
 ·first|exact dt|exact zT (zT dt (by omega)) (by omega)
 ·rw[dh.out];exact⟨by omega,rfl⟩):P:=h
theorem D6h {W0 u w:World}(h0:zB W0 u)(hu:zB u w){am:Option Addr}{nm cm:Nat}{ae:Option Addr}{ne ce:Nat}(hI:∀ j:Nat,j<g.mG.length→WIn g am nm cm ae ne ce (j:Int) u){nam:List UInt8}{af ab:Option Addr}{nf cf nb cb:Nat}(hf:RdL 6 FAt u (.slice af nf cf) fs)(fok:∀ f∈fs,I64 f.nU∧I64 f.cE)(fl:fs.length≤140737488355328){a0 a1:Option Addr}{n0 c0 n1 c1:Nat}{b:BI (d+1)}(hq:BRd d u (.slice a0 n0 c0) (.slice a1 n1 c1) b)(fu:BOk (d+1) b){z:VL (LB d)}(hz:OwnV (ekB d) (OwnB W0.heap.size d) w W0.heap.size z)(iy:∀ k∈VL.fp (LB.fp d) z,u.heap.size≤k)(mj:(VL.fp (LB.fp d) z).Nodup)(i6:VOk (BOk d) (VL.pl (LB.pl d) z))(HS:Hid (x.many=false→x.kind=10→(∃ u,(BO.vals b).find? (isV z.nU)=some u)→iQ g x))(hx:fs.find? (isF z.nU)=some x)(hw:((BO.vals b).map (jW (jWB d))).sum+jW (jWB d) (VL.pl (LB.pl d) z)≤1000000000)
  (d9:x.many=false→x.kind=10→(∃ M,g.mG.find? (isN x.type)=some M)∧∀ v,(v∈BO.vals b∨v=VL.pl (LB.pl d) z)→v.nU=z.nU→v.bits = []∧v.bytes = []∧∃ s,v.subs = [s]) :
  Calls Tryz.prog 46 #[.agg #[.slice am nm cm,.slice ae ne ce],.agg #[.string (S nam),.slice af nf cf,.slice ab nb cb],.agg #[.slice a0 n0 c0,.slice a1 n1 c1],.agg #[.int .i64 z.nU,z.p1.v,z.p2.v,z.p3.v]] w fun e w'=>zB u w'∧WOut d w (.slice a0 n0 c0) (.slice a1 n1 c1) b (tD g d fs x b (VL.pl (LB.pl d) z)) e w':=by
 obtain⟨r1,r2,r3⟩:=C9z hz;obtain⟨V,HV⟩:=yP (VL.pl (LB.pl d) z);rw[HV.out] at r1 r2 r3 i6 hw d9 ⊢;have gg:Hid (V.nU=z.nU):=by show _=_;rw[←HV.out];rfl
 have HZ:=zI hz;have li:=zI iy;clear iy;obtain⟨mu,bj,bu,sv,⟨b1,m1,d1⟩,⟨b2,m2,d2⟩,⟨b3,m3,d3⟩⟩:=z;have hx:fs.find? (isF mu)=some x:=hx;have r1:RdL 1 UAt w (.slice b1 m1 d1) V.bits:=r1;have r2:RdL 1 ZAt w (.slice b2 m2 d2) V.bytes:=r2;have r3:RdL 2 (BAt d) w (.slice b3 m3 d3) V.subs:=r3;have l1:=r1.len.1;have l2:=r2.len.1;have l3:=r3.len.1;have lm:V.bits.length+V.bytes.length+V.subs.length≤1000000000:=by
  have h2:=tY (fun s=>1+jWB d s) (fun _=>by omega) V.subs;have h3:jW (jWB d) V≤1000000000:=by omega
  unfold jW at h3;omega
 obtain⟨W5,f6⟩:=zM (((((w.alloc (.cells #[.slice am nm cm,.slice ae ne ce] 25)).alloc (.cells #[.string (S nam),.slice af nf cf,.slice ab nb cb] 35)).alloc (.cells #[.slice a0 n0 c0,.slice a1 n1 c1] 29)).alloc (.cells #[.int .i64 mu,.slice b1 m1 d1,.slice b2 m2 d2,.slice b3 m3 d3] 63)).alloc (.cells #[.slice none 0 0,.slice none 0 0] 29));obtain⟨x0,x1,x2,x3,x4,xz⟩:=iM w (.cells #[.slice am nm cm,.slice ae ne ce] 25) (.cells #[.string (S nam),.slice af nf cf,.slice ab nb cb] 35) (.cells #[.slice a0 n0 c0,.slice a1 n1 c1] 29) (.cells #[.int .i64 mu,.slice b1 m1 d1,.slice b2 m2 d2,.slice b3 m3 d3] 63) (.cells #[.slice none 0 0,.slice none 0 0] 29);rw[←f6.out] at x0 x1 x2 x3 x4 xz;have g7:zB w W5:=by rw[f6.out];exact(((((zH _ _).alloc (zG _) _).alloc (by simp) _).alloc (by simp;omega) _).alloc (by simp;omega) _).alloc (by simp;omega) _
 have nj:=xD xz.symm;clear xz;have ei:∀ U F,FrB F W5 U→(∀ k∈F,k<w.heap.size∨k=w.heap.size+3∨W5.heap.size≤k)→(U.cell? ⟨w.heap.size,0,none⟩=some (.slice am nm cm)∧U.cell? ⟨w.heap.size,1,none⟩=some (.slice ae ne ce))∧(U.cell? ⟨w.heap.size+1,0,none⟩=some (.string (S nam))∧U.cell? ⟨w.heap.size+1,1,none⟩=some (.slice af nf cf)∧U.cell? ⟨w.heap.size+1,2,none⟩=some (.slice ab nb cb))∧(U.cell? ⟨w.heap.size+2,0,none⟩=some (.slice a0 n0 c0)∧U.cell? ⟨w.heap.size+2,1,none⟩=some (.slice a1 n1 c1))∧U.heap[w.heap.size+4]?=some (.cells #[.slice none 0 0,.slice none 0 0] 29 (0,0)):=fun U F hU hF=>by
  have hk:∀ i,i=0∨i=1∨i=2∨i=4→U.heap[w.heap.size+i]?=W5.heap[w.heap.size+i]?:=fun i hi=>hU.block _ (by omega) (.inl fun hm=>by have:=hF _ hm;omega)
  exact⟨zO ((hk 0 (by omega)).trans x0),uG ((hk 1 (by omega)).trans x1),zO ((hk 2 (by omega)).trans x2),(hk 4 (by omega)).trans x4⟩
 have dy:∀ U,zB W5 U→_:=fun U hU=>ei U [] (FrB.of_below hU) (fun k h=>by simp at h)
 obtain⟨K,HK⟩:∃ K:Int,Hid (((yS V:Nat):Int)=K):=⟨_,rfl⟩
 have jn:∀ U,Calls Tryz.prog 102 #[.agg #[.int .i64 mu,.slice b1 m1 d1,.slice b2 m2 d2,.slice b3 m3 d3]] U fun e w'=>e = .returned (.int .i64 K)∧zB U w':=fun U=>by
  have:=B7e (w:=U) V l1 l2 l3 (c1:=d1) (c2:=d2) (c3:=d3) (a1:=b1) (a2:=b2) (a3:=b3) (by omega) mu;rw[HK.out] at this;exact this
 obtain⟨R,HR⟩:=yP (tD g d fs x b V);rw[HR.out];have eo:=zP hu g7;have iy:=hu.size;have fk:(BO.vals b).length≤1000000000:=by
  have:=tY (jW (jWB d)) (fun v=>by unfold jW;omega) (BO.vals b);omega
 have fw:∀ (T:World) (V':VI (BI d)) (e1:Option Addr) (f1 g1:Nat) (e2:Option Addr) (f2 g2:Nat) (e3:Option Addr) (f3 g3:Nat),zB u T→V'.nU=mu→RdL 1 UAt T (.slice e1 f1 g1) V'.bits→RdL 1 ZAt T (.slice e2 f2 g2) V'.bytes→RdL 2 (BAt d) T (.slice e3 f3 g3) V'.subs→VOk (BOk d) V'→Calls Tryz.prog 105 #[.agg #[.string (S nam),.slice af nf cf,.slice ab nb cb],.agg #[.slice a0 n0 c0,.slice a1 n1 c1],.agg #[.int .i64 mu,.slice e1 f1 g1,.slice e2 f2 g2,.slice e3 f3 g3]] T fun e w'=>∃ (c:LB (d+1)) (i0:Option Addr) (j0 l0:Nat) (i1:Option Addr) (j1 l1:Nat),e = .returned (.agg #[.slice i0 j0 l0,.slice i1 j1 l1])∧Hid (vO (d+1) c = [.slice i0 j0 l0,.slice i1 j1 l1]∧LB.pl (d+1) c=(⟨putN fs x (BO.vals b) V',BO.unk b⟩:BO (BI d))∧OwnB T.heap.size (d+1) w' c∧(LB.fp (d+1) c).Nodup)∧zB T w':=fun T V' e1 f1 g1 e2 f2 g2 e3 f3 g3 hT hn q1 q2 q3 ir=>by
  have:=D3c (s:=nam) (ab:=ab) (nb:=nb) (cb:=cb) (hf.bL FAt.sT hT) fok fl (hq.bL hT) fu (x:=x) (by rw[hn];exact hx) q1 q2 q3 ir (by omega);rw[hn] at this;refine this.mono ?_;rintro e w' ⟨c,i0,j0,l0,i1,j1,l1,h1,rfl,h2,h3,h4,h5⟩;exact⟨c,i0,j0,l0,i1,j1,l1,rfl,⟨h1,h2,h3,h4⟩,h5⟩
 have ik:=fun U (hU:zB u U)=>VT (yN h0.size hU.size) (hq.bL hU) fu.1 mu
 have kw:Hid (∀ v∈BO.vals b,VQk (BQk d) v):=fun v hv=>D7j (fu.1 v hv)
 have gp:=zI i6;have lg:=zI hw;have HF:=zI hf;have HX:=zI hx;have kv:=zI hI;have kx:Hid _:=d9;have gi:Hid (RdL 1 UAt w (.slice b1 m1 d1) V.bits∧RdL 1 ZAt w (.slice b2 m2 d2) V.bytes∧RdL 2 (BAt d) w (.slice b3 m3 d3) V.subs):=⟨r1,r2,r3⟩
 have ku:=zI fu.1;clear hf fok fl hq fu hx hI d9 r1 r2 r3 i6 hw lm fk l1 l2 l3 hz;have fq:=jn W5;obtain⟨⟨t0,t1⟩,⟨t2,t3,t4⟩,⟨t5,t6⟩,y4⟩:=dy W5 (zH _ _);obtain⟨s0,s1,s2,s3⟩:=wK x3;unfold PV.v;by_cases hK0:K=0
 ·have HT:Hid (R = .ok b):=by show _=_;rw[←HR.out];unfold tD;rw[zF (by have:=HK.out;omega)]
  subst hK0;go_enter Tryz.func46,Tryz.ntmps46;go_upto_region 1 with fail
  rw[←f6.out];go_wp2_with fail
  refine fq.mono ?_;rintro e w6 ⟨rfl,dn⟩;clear t0 t1 t2 t3 t4 t5 t6 y4 s0 s1 s2 s3;obtain⟨⟨t0,t1⟩,⟨t2,t3,t4⟩,⟨t5,t6⟩,y4⟩:=dy w6 dn;obtain⟨p0,p1⟩:=zO y4;have bk:=zJ y4;have nk:¬ w.heap.size+2=w.heap.size+4:=by omega
  have hzz:=dn.size;go_wp2_with fail
  refine bodyPost_ret (v:=.tuple #[.agg #[.slice a0 n0 c0,.slice a1 n1 c1],.int .i64 0]) (by simp[results,Tryz.results46,go_sem, *]) rfl ?_;refine⟨zT (zT (zP eo dn) (by omega)) (by omega),?_⟩;rw[HT.out];exact .inl ⟨rfl,rfl⟩
 ·have mz:(K==0)=false:=by simpa using hK0
  go_enter Tryz.func46,Tryz.ntmps46;go_upto_region 1 with fail
  rw[←f6.out];go_wp2_with fail
  refine fq.mono ?_;rintro e w6 ⟨rfl,dn⟩;clear t0 t1 t2 t3 t4 t5 t6 y4 s0 s1 s2 s3;obtain⟨⟨t0,t1⟩,⟨t2,t3,t4⟩,⟨t5,t6⟩,y4⟩:=dy w6 dn;have kj:=(dn.block (w.heap.size+3) (by omega)).trans x3;obtain⟨s0,s1,s2,s3⟩:=wK kj;have im:=ik w6 (zP eo dn);have ml:=dn.size;go_wp2_with fail
  refine im.mono ?_;rintro e w7 ⟨il,jl⟩;have fe:=zP dn jl;have mr:=jl.size;clear t0 t1 t2 t3 t4 t5 t6 y4 s0 s1 s2 s3 kj;rcases il with⟨hno,rfl⟩|⟨k,V0,hk1,hk2,hk3,y,q0,x1',y1',z1',x2',y2',z2',x3',y3',z3',gh,rfl,hyp,hyo,hyb,hyn⟩
  ·have HT:Hid (R=if 60<K then .error 5 else .ok ⟨putN fs x (BO.vals b) V,BO.unk b⟩):=by
    show _=_;have lp:(BO.vals b).find? (isV V.nU)=none:=by
     rw[oE];intro v hv;have:=hno v hv;rw[gg.out];simpa [isV] using this
    rw[←HR.out];unfold tD;rw[zC (by have:=HK.out;omega),lp];show(if 60<yS V then _ else _)=_;have:=HK.out;by_cases h:60<yS V
    ·rw[zF h,zF (by omega)]
    ·rw[zC h,zC (by omega)]
   clear hno;go_upto_region 9 with fail
   obtain⟨T,kz,g8,-,-⟩:=zV w7 (.cells #[.int .i64 0,.slice none 0 0,.slice none 0 0,.slice none 0 0] 63);rw[←kz.out];have eh:=zP fe g8;have l7:=zP eo eh;have km:=(eh.block (w.heap.size+3) (by omega)).trans x3;have dx:=zP g7 eh;have dz:=jn T;obtain⟨⟨t0,t1⟩,⟨t2,t3,t4⟩,⟨t5,t6⟩,y4⟩:=ei T _ (FrB.of_below eh:FrB [] W5 T) (fun k h=>by simp at h);obtain⟨s0,s1,s2,s3⟩:=wK km;go_wp2_with fail
   refine dz.mono ?_;rintro e w8 ⟨rfl,bl⟩;have ig:=((FrB.of_below eh:FrB [] W5 T)).on bl;have mh:=((FrB.of_below eh:FrB [] W5 T)).size;have mg:=bl.size;have iz:=(bl.block (w.heap.size+3) (by omega)).trans km;have dt:=zP l7 bl;clear t0 t1 t2 t3 t4 t5 t6 y4 s0 s1 s2 s3;obtain⟨⟨t0,t1⟩,⟨t2,t3,t4⟩,⟨t5,t6⟩,y4⟩:=ei w8 _ ig (fun k h=>by simp at h);obtain⟨s0,s1,s2,s3⟩:=wK iz;obtain⟨p0,p1⟩:=zO y4;have bk:=zJ y4;by_cases h60:60<K
   ·have dh:Hid (R = .error 5):=by show _=_;rw[HT.out,zF h60]
    exact Qm7
   ·have dh:Hid (R = .ok ⟨putN fs x (BO.vals b) V,BO.unk b⟩):=by show _=_;rw[HT.out,zC h60]
    obtain⟨ra,rb,rc⟩:=(⟨gi.out.1.bL UAt.sT dx,gi.out.2.1.bL ZAt.sT dx,gi.out.2.2.bL (BAt.sT d) dx⟩:_∧_∧_)
    have hst:=fw w8 V b1 m1 d1 b2 m2 d2 b3 m3 d3 dt gg.out (ra.bL UAt.sT bl) (rb.bL ZAt.sT bl) (rc.bL (BAt.sT d) bl) gp.out;exact Qm5
  ·
   have iq:y.nU=mu:=by rw[←hk3,←hyp];rfl
   obtain⟨nu,cg,cj,bn,⟨ah,aj,ak⟩,⟨au,av,aw⟩,⟨ba,bc,bg⟩⟩:=y;have gh : [Value.int .i64 nu,Value.slice ah aj ak,Value.slice au av aw,Value.slice ba bc bg] = [.int .i64 q0,.slice x1' y1' z1',.slice x2' y2' z2',.slice x3' y3' z3']:=gh;have iq:mu=nu:=iq.symm;simp only[List.cons.injEq,Value.int.injEq,Value.slice.injEq,true_and,and_true] at gh;obtain⟨rfl,⟨rfl,rfl,rfl⟩,⟨rfl,rfl,rfl⟩,⟨rfl,rfl,rfl⟩⟩:=gh;subst iq;have hv0:=xV hk2;have ij:(BO.vals b).find? (isV V.nU)=some V0:=by
    rw[gg.out];exact B3p hk1 hk2
   have ky:Hid (x.many=false→x.kind=10→iQ g x):=fun hm hk=>HS.out hm hk ⟨V0,by rw[←gg.out];exact ij⟩
   obtain⟨Rm,gj⟩:=yP (pH g d x V0 V);have HT:Hid (R=E1q fs x b Rm):=by
    show _=_;rw[←HR.out,←gj.out];exact C6x (by have:=HK.out;omega) ij
   have gc:Hid _:=hyp;have jc:Hid _:=hyo;have lh:Hid _:=hyn;have f9:Hid _:=hyb;have gl:=zI hv0;have ja:Hid (jW (jWB d) V0+jW (jWB d) V≤1000000000):=by
    show _≤_;have h1:=dL (jW (jWB d)) hv0;have h2:=lg.out;omega
   obtain⟨kf,jg,hK2⟩:=YB (show fs.find? (fun f=>decide (f.nU=mu))=some x from HX.out);obtain⟨bf,of,rfl,ii⟩:=HF.out.get FAt.plain hK2;have nh:(kf:Int)<(nf:Int):=by have:=(yG.1 hK2).1;have:=HF.out.len.1;omega
   have lw:¬ (kf:Int)<0:=by omega
   obtain⟨y0,y1,y2,y3,y4,y5⟩:=ii;rw[xS] at y1 y2 y3 y4 y5;have ng:=B4l y0;have hzl:=fun k hk=>And.intro (li.out k hk) (HZ.out.lt k hk).2
   clear hk1 hk2 hk3 hyp hyo hyn hyb hv0 ij;go_upto_region 6 with fail
   obtain⟨W9,jb,fh,-,-⟩:=zV w7 (.cells #[.int .i64 mu,.slice ah aj ak,.slice au av aw,.slice ba bc bg] 63);rw[←jb.out];obtain⟨jd,nr⟩:W9.heap[w7.heap.size]?=some (.cells #[.int .i64 mu,.slice ah aj ak,.slice au av aw,.slice ba bc bg] 63 (0,0))∧w7.heap.size+1≤W9.heap.size:=by
    rw[jb.out];exact D7r _ _
   have cu:=zP fe fh;have dv:=zP eo cu;have ma:=zP g7 cu;have i5:=(cu.block (w.heap.size+3) (by omega)).trans x3;have jt:=jc.out.lt;have nI:∀ k,k∈VL.fp (LB.fp d) (⟨mu,cg,cj,bn,(ah,aj,ak),(au,av,aw),(ba,bc,bg)⟩:VL (LB d))++VL.fp (LB.fp d) (⟨mu,bj,bu,sv,(b1,m1,d1),(b2,m2,d2),(b3,m3,d3)⟩:VL (LB d))++[w.heap.size+3]→u.heap.size≤k∧(k<w.heap.size∨k=w.heap.size+3∨W5.heap.size≤k)∧k<W9.heap.size∧k≠w7.heap.size:=fun k hk=>by
    rcases zU.1 hk with hk|hk
    ·rcases zU.1 hk with hk|hk
     ·have h1:=f9.out k hk;have h2:=jt k hk;omega
     ·have h2:=hzl k hk;omega
    ·rw[zS] at hk;omega
   obtain⟨Q6,dw⟩:∃ Q6:World→Prop,Hid (∀ V,Q6 V↔∀ k,k<W9.heap.size→k∉VL.fp (LB.fp d) (⟨mu,cg,cj,bn,(ah,aj,ak),(au,av,aw),(ba,bc,bg)⟩:VL (LB d))++VL.fp (LB.fp d) (⟨mu,bj,bu,sv,(b1,m1,d1),(b2,m2,d2),(b3,m3,d3)⟩:VL (LB d))++[w.heap.size+3]→V.heap[k]?=W9.heap[k]?):=⟨_,fun _=>Iff.rfl⟩
   have ac:∀ V,Q6 V→(V.cell? ⟨w.heap.size,0,none⟩=some (.slice am nm cm)∧V.cell? ⟨w.heap.size,1,none⟩=some (.slice ae ne ce)∧V.cell? ⟨w.heap.size+1,0,none⟩=some (.string (S nam))∧V.cell? ⟨w.heap.size+1,1,none⟩=some (.slice (some ⟨bf,of,none⟩) nf cf)∧V.cell? ⟨w.heap.size+1,2,none⟩=some (.slice ab nb cb))∧(V.cell? ⟨bf,of+kf*6,none⟩=some (.string (S x.name))∧V.cell? ⟨bf,of+kf*6+1,none⟩=some (.int .i64 x.nU)∧V.cell? ⟨bf,of+kf*6+2,none⟩=some (.int .i64 x.kind)∧V.cell? ⟨bf,of+kf*6+3,none⟩=some (.string (S x.type))∧V.cell? ⟨bf,of+kf*6+4,none⟩=some (.bool x.many)∧V.cell? ⟨bf,of+kf*6+5,none⟩=some (.int .i64 x.cE))∧V.cell? ⟨w7.heap.size,0,none⟩=some (.int .i64 mu)∧V.cell? ⟨w7.heap.size,1,none⟩=some (.slice ah aj ak)∧V.cell? ⟨w7.heap.size,2,none⟩=some (.slice au av aw)∧V.cell? ⟨w7.heap.size,3,none⟩=some (.slice ba bc bg):=fun V hV=>by
    have q1:=(dw.out V).1 hV;obtain⟨e0,e1⟩:=zO ((q1 (w.heap.size) (by omega) (fun h=>by have:=nI _ h;omega)).trans ((zN cu).trans x0));obtain⟨e2,e3,e4⟩:=uG ((q1 (w.heap.size+1) (by omega) (fun h=>by have:=nI _ h;omega)).trans ((zN cu).trans x1));have c1:=pY (q1 bf (by have:=dv.size;omega) (fun h=>by have:=(nI _ h).1;omega));refine⟨⟨e0,e1,e2,e3,e4⟩,⟨?_,?_,?_,?_,?_,?_⟩,wK ((q1 w7.heap.size (by omega) (fun h=>(nI _ h).2.2.2 rfl)).trans jd)⟩
    ·rw[c1];exact zQ dv y0
    ·rw[c1];exact zQ dv y1
    ·rw[c1];exact zQ dv y2
    ·rw[c1];exact zQ dv y3
    ·rw[c1];exact zQ dv y4
    ·rw[c1];exact zQ dv y5
   have jh:Q6 W9.drew:=(dw.out _).2 fun _ _ _=>rfl
   have dg:=iU (HF.out.bL FAt.sT (dv.drew)) ⟨ab,nb,cb,rfl⟩ ⟨nam,rfl⟩ mu;rw[jg] at dg;have cw:=fun V3 (hV:zB W9.drew V3)=>(dw.out _).2 fun k hk _=>hV.block k hk
   have df:=fun V3 (hV:zB W9.drew V3)=>(hV.block _ (show w.heap.size+3<W9.heap.size by omega)).trans i5
   have dm:∀ V3 V4,zB W9.drew V3→FrB (VL.fp (LB.fp d) (⟨mu,cg,cj,bn,(ah,aj,ak),(au,av,aw),(ba,bc,bg)⟩:VL (LB d))++VL.fp (LB.fp d) (⟨mu,bj,bu,sv,(b1,m1,d1),(b2,m2,d2),(b3,m3,d3)⟩:VL (LB d))) V3 V4→V4.heap[w.heap.size+3]?=some (.cells #[.int .i64 mu,.slice b1 m1 d1,.slice b2 m2 d2,.slice b3 m3 d3] 63 (0,0)):=fun V3 V4 h3 h4=>(h4.blk (by have:=h3.size;have e:W9.drew.heap.size=W9.heap.size:=rfl;omega) (fun h=>by
    rcases zU.1 h with h|h
    ·have:=f9.out _ h;omega
    ·have:=hzl _ h;omega)).trans (df V3 h3)
   have di:∀ V3 V4,zB W9.drew V3→FrB (VL.fp (LB.fp d) (⟨mu,cg,cj,bn,(ah,aj,ak),(au,av,aw),(ba,bc,bg)⟩:VL (LB d))++VL.fp (LB.fp d) (⟨mu,bj,bu,sv,(b1,m1,d1),(b2,m2,d2),(b3,m3,d3)⟩:VL (LB d))) V3 V4→Q6 V4:=fun V3 V4 h3 h4=>(dw.out _).2 fun k hk hn=>(h4.blk (by have:=h3.size;have e:W9.drew.heap.size=W9.heap.size:=rfl;omega) (fun h=>hn (vU _ h))).trans ((dw.out _).1 (cw V3 h3) k hk hn)
   have dl:∀ V4 x0 x1 x2 x3,Q6 V4→V4.heap[w.heap.size+3]?=some (.cells #[.int .i64 mu,.slice b1 m1 d1,.slice b2 m2 d2,.slice b3 m3 d3] 63 (0,0))→W9.heap.size≤V4.heap.size→Q6 ((((V4.setCell ⟨w.heap.size+3,0,none⟩ x0).setCell ⟨w.heap.size+3,1,none⟩ x1).setCell ⟨w.heap.size+3,2,none⟩ x2).setCell ⟨w.heap.size+3,3,none⟩ x3):=fun V4 x0 x1 x2 x3 hV hT hs=>(dw.out _).2 fun k hk hn=>((fr4 hT).blk (by omega) (fun h=>hn (tI _ h))).trans ((dw.out _).1 hV k hk hn)
   have dr:∀ V3,zB W9.drew V3→Calls Tryz.prog 104 #[.agg #[.slice am nm cm,.slice ae ne ce],.agg #[.string (S x.name),.int .i64 x.nU,.int .i64 x.kind,.string (S x.type),.bool x.many,.int .i64 x.cE],.agg #[.int .i64 mu,.slice ah aj ak,.slice au av aw,.slice ba bc bg],.agg #[.int .i64 mu,.slice b1 m1 d1,.slice b2 m2 d2,.slice b3 m3 d3]] V3 fun e w'=>∃ (e1:Option Addr) (f1 g1:Nat) (e2:Option Addr) (f2 g2:Nat) (e3:Option Addr) (f3 g3:Nat) (E:Int),e = .returned (.tuple #[.agg #[.int .i64 mu,.slice e1 f1 g1,.slice e2 f2 g2,.slice e3 f3 g3],.int .i64 E])∧Hid (MRd (VL.fp (LB.fp d) (⟨mu,cg,cj,bn,(ah,aj,ak),(au,av,aw),(ba,bc,bg)⟩:VL (LB d))++VL.fp (LB.fp d) (⟨mu,bj,bu,sv,(b1,m1,d1),(b2,m2,d2),(b3,m3,d3)⟩:VL (LB d))) W9 w' mu e1 f1 g1 e2 f2 g2 e3 f3 g3 E Rm)∧FrB (VL.fp (LB.fp d) (⟨mu,cg,cj,bn,(ah,aj,ak),(au,av,aw),(ba,bc,bg)⟩:VL (LB d))++VL.fp (LB.fp d) (⟨mu,bj,bu,sv,(b1,m1,d1),(b2,m2,d2),(b3,m3,d3)⟩:VL (LB d))) V3 w':=fun V3 lj=>by
    have dp:=zP (zH _ _).drew lj;have hw3:=zP ma dp;have jr:=zP dv dp;have lu:MetIn d W0 V3 (⟨mu,cg,cj,bn,(ah,aj,ak),(au,av,aw),(ba,bc,bg)⟩:VL (LB d)) (⟨mu,bj,bu,sv,(b1,m1,d1),(b2,m2,d2),(b3,m3,d3)⟩:VL (LB d)):=by
     refine⟨zP h0 jr,(jc.out.bL fh).bL dp,HZ.out.bL hw3,fun k=>?_,?_⟩
     ·have h1:=mR.1 lh.out k;have h2:=mR.1 mj k;by_cases h3:0<(VL.fp (LB.fp d) (⟨mu,cg,cj,bn,(ah,aj,ak),(au,av,aw),(ba,bc,bg)⟩:VL (LB d))).count k
      ·by_cases h4:0<(VL.fp (LB.fp d) (⟨mu,bj,bu,sv,(b1,m1,d1),(b2,m2,d2),(b3,m3,d3)⟩:VL (LB d))).count k
       ·have:=f9.out k (yD.1 h3);have:=hzl k (yD.1 h4);omega
       ·omega
      ·omega
     ·rw[gc.out,HV.out];exact ja.out
    refine(D3e lu x ky.out rfl (fun j hj=>(kv.out j hj).bL jr) (fun hm hk=>?_)).mono ?_
    ·obtain⟨h1,h2⟩:=kx.out hm hk;obtain⟨g1,g2,s,g3⟩:=h2 V0 (.inl gl.out) (by rw[←gc.out];rfl);obtain⟨g4,g5,t,g6⟩:=h2 V (.inr rfl) (by rw[←HV.out];rfl);have ju:=ku.out V0 gl.out;have oV:=gp.out;rw[←gc.out] at g1 g2 g3 ju;rw[←HV.out] at g4 g5 g6 oV;obtain⟨s',hs',iu⟩:=C2l (show bn.map (LB.pl d) = [s] from g3);obtain⟨t',lz,iw⟩:=C2l (show sv.map (LB.pl d) = [t] from g6);refine⟨h1,g1,List.map_eq_nil_iff.1 g2,g4,List.map_eq_nil_iff.1 g5,s',t',hs',lz,?_,?_⟩
     ·rw[iu];exact ju.2.2.2.2.2.1 s (by rw[g3];simp)
     ·rw[iw];exact oV.2.2.2.2.2.1 t (by rw[g6];simp)
    ·rintro e w' ⟨e1,f1,g1,e2,f2,g2,e3,f3,g3,E,rfl,bh,hm⟩;refine⟨e1,f1,g1,e2,f2,g2,e3,f3,g3,E,rfl,?_,bh⟩;rw[gc.out,HV.out,gj.out] at hm;show MRd (VL.fp (LB.fp d) (⟨mu,cg,cj,bn,(ah,aj,ak),(au,av,aw),(ba,bc,bg)⟩:VL (LB d))++VL.fp (LB.fp d) (⟨mu,bj,bu,sv,(b1,m1,d1),(b2,m2,d2),(b3,m3,d3)⟩:VL (LB d))) _ _ _ _ _ _ _ _ _ _ _ _ _ Rm;cases Rm with
     | error E'=>exact hm
     | ok v=>exact⟨hm.1,hm.2.1,fun w'' ⟨G,hG,je⟩=>hm.2.2 w'' ⟨G,hG,fun k hk=>⟨by have h1:=(je k hk).1;have h2:=dp.size;omega,(je k hk).2⟩⟩⟩
   obtain⟨s0,s1,s2,s3⟩:=wK i5;clear y0 y1 y2 y3 y4 y5 jg;go_cut [12] from 25 to 39 (fun s12 wc=>∃ (e1:Option Addr) (f1 g1:Nat) (e2:Option Addr) (f2 g2:Nat) (e3:Option Addr) (f3 g3:Nat) (E:Int) (eu:World),s12 = .int .i64 E∧Hid (MRd (VL.fp (LB.fp d) (⟨mu,cg,cj,bn,(ah,aj,ak),(au,av,aw),(ba,bc,bg)⟩:VL (LB d))++VL.fp (LB.fp d) (⟨mu,bj,bu,sv,(b1,m1,d1),(b2,m2,d2),(b3,m3,d3)⟩:VL (LB d))) W9 eu mu e1 f1 g1 e2 f2 g2 e3 f3 g3 E Rm)∧FrB (VL.fp (LB.fp d) (⟨mu,cg,cj,bn,(ah,aj,ak),(au,av,aw),(ba,bc,bg)⟩:VL (LB d))++VL.fp (LB.fp d) (⟨mu,bj,bu,sv,(b1,m1,d1),(b2,m2,d2),(b3,m3,d3)⟩:VL (LB d))) W9 eu∧wc.heap[w.heap.size+3]?=some (.cells #[.int .i64 mu,.slice e1 f1 g1,.slice e2 f2 g2,.slice e3 f3 g3] 63 (0,0))∧FrB [w.heap.size+3] eu wc)
   case first=>
    refine wp_region_held_drew (S:=Q6) (by kernel_rfl) jh (fun hHeld=>?_);refine zTk 0 rfl ac ?_
    try simp only[zE]
    refine zTk 1 rfl ac ?_
    try simp only[zE]
    refine zTk 2 rfl ac ?_
    try simp only[zE]
    refine zTk 3 rfl ac ?_
    try simp only[zE]
    refine zTk 4 rfl ac ?_
    try simp only[zE]
    refine zTk 9 rfl ac ?_
    try simp only[zE]
    refine rB (i:=5) (j:=10) rfl (fun K hK=>?_) rfl fun K hK=>?_
    ·skip;go_simp;refine hK.out _ _ ?_ (fun hHeld=>?_)
     ·exact Qm8
     clear hK K
     try simp only[zE]
     refine rB (i:=6) (j:=10) rfl (fun K hK=>?_) rfl fun K hK=>?_
     ·skip;go_simp;refine dg.mono ?_;rintro e V3 ⟨rfl,hb3⟩;have ji:=cw V3 hb3;have fy:=df V3 hb3;obtain⟨jv,jw,jx,t33⟩:=wK fy;refine hK.out _ _ ?_ (fun hHeld=>?_)
      ·exact Qm8
      clear hK K
      try simp only[zE]
      refine zTk 7 rfl ac ?_
      try simp only[zE]
      refine zTk 8 rfl ac ?_
      try simp only[zE]
      refine rA (i:=10) rfl fun K hK=>?_
      go_simp;refine hK.out _ _ ?_ (fun hHeld=>?_)
      ·exact Qm8
      clear hK K;exact Qm4
     ·skip;exact Qm6
    ·skip;go_simp;refine hK.out _ _ ?_ (fun hHeld=>?_)
     ·exact Qm8
     clear hK K
     try simp only[zE]
     refine rA (i:=5) rfl fun K hK=>?_
     exact Qm6
   case rest=>
    obtain⟨e1,f1,g1,e2,f2,g2,e3,f3,g3,E,eu,rfl,HM,ie,xc,jo⟩:=hcut;have gw:FrB (VL.fp (LB.fp d) (⟨mu,cg,cj,bn,(ah,aj,ak),(au,av,aw),(ba,bc,bg)⟩:VL (LB d))++VL.fp (LB.fp d) (⟨mu,bj,bu,sv,(b1,m1,d1),(b2,m2,d2),(b3,m3,d3)⟩:VL (LB d))++[w.heap.size+3]) W5 eu:=(FrB.of_below cu:FrB [] W5 W9).trans ie (fun _ hi=>by simp at hi) (fun _ hi=>.inl (vU _ hi));have ew:=gw.trans jo (fun _ hi=>hi) (fun _ hi=>.inl (tI _ hi));have gz:∀ k∈VL.fp (LB.fp d) (⟨mu,cg,cj,bn,(ah,aj,ak),(au,av,aw),(ba,bc,bg)⟩:VL (LB d))++VL.fp (LB.fp d) (⟨mu,bj,bu,sv,(b1,m1,d1),(b2,m2,d2),(b3,m3,d3)⟩:VL (LB d))++[w.heap.size+3],k<w.heap.size∨k=w.heap.size+3∨W5.heap.size≤k:=fun k hk=>(nI k hk).2.1
    have ix:=eo.trans (ew.bL eo.size (fun k hk=>(nI k hk).1));have HA:Hid (Apt (VL.fp (LB.fp d) (⟨mu,cg,cj,bn,(ah,aj,ak),(au,av,aw),(ba,bc,bg)⟩:VL (LB d))++VL.fp (LB.fp d) (⟨mu,bj,bu,sv,(b1,m1,d1),(b2,m2,d2),(b3,m3,d3)⟩:VL (LB d))) W9 eu wc):=⟨_,jo,fun k hk=>by
     rw[zS] at hk;subst hk;refine⟨by omega,fun h=>?_⟩;rcases zU.1 h with h|h
     ·have:=f9.out _ h;omega
     ·have:=hzl _ h;omega⟩
    clear ac jh dg cw df dm di dl dr s0 s1 s2 s3 jd i5 jt hzl nI;cases Rm with
    | error E'=>
     obtain⟨gq,gu⟩:=HM.out;subst gq;have eE:(E != 0)=true:=by simpa using gu
     have mv:(E==0)=false:=by simpa using gu
     have dh:Hid (R = .error E):=HT.out;obtain⟨⟨t0,t1⟩,⟨t2,t3,t4⟩,⟨t5,t6⟩,y4⟩:=ei wc _ ew gz;obtain⟨p0,p1⟩:=zO y4;have bk:=zJ y4;go_wp2_with fail
     refine bodyPost_ret (v:=.tuple #[.agg #[.slice none 0 0,.slice none 0 0],.int .i64 E]) (by simp[results,Tryz.results46,go_sem, *]) rfl ?_;refine⟨?_,?_⟩
     ·first|exact ix|exact zT (zT ix (by omega)) (by omega)
     ·rw[dh.out];exact⟨gu,rfl⟩
    | ok v=>
     obtain⟨gq,js,jq⟩:=HM.out;subst gq;have fz:Hid _:=jq wc HA.out;obtain⟨K',i7⟩:∃ K':Int,Hid (((yS v:Nat):Int)=K'):=⟨_,rfl⟩
     have ip:=VQ gj.out;have jp:VQk (BQk d) v:=by
      rw[ip];exact D6u (fun M s t hs ht=>ZS g.mG d M s t hs ht) (kw.out V0 gl.out) (D7j gp.out)
     have io:jW (jWB d) v≤1000000000:=by
      rw[ip];exact yN (WO (fun M s t=>iL g.mG d M s t) g.mG x V0 V) ja.out
     have ld:=zI (D7i jp io);have g9:∀ U,Calls Tryz.prog 102 #[.agg #[.int .i64 mu,.slice e1 f1 g1,.slice e2 f2 g2,.slice e3 f3 g3]] U fun e w'=>e = .returned (.int .i64 K')∧zB U w':=fun U=>by
      have l1:=fz.out.1.len.1;have l2:=fz.out.2.1.len.1;have l3:=fz.out.2.2.len.1;have h2:=tY (fun s=>1+jWB d s) (fun _=>by omega) v.subs;have h3:=io;unfold jW at h3;have:=B7e (w:=U) v l1 l2 l3 (c1:=g1) (c2:=g2) (c3:=g3) (a1:=e1) (a2:=e2) (a3:=e3) (by omega) mu;rw[i7.out] at this;exact this
     have i9:Hid (R=if 60<K' then .error 5 else .ok ⟨putN fs x (BO.vals b) v,BO.unk b⟩):=by
      show _=_;rw[HT.out];show(if 60<yS v then _ else _)=_;have:=i7.out;by_cases h:60<yS v
      ·rw[zF h,zF (by omega)]
      ·rw[zC h,zC (by omega)]
     have lf:=zI js;clear ip jp io js jq;go_upto_region 9 with fail
     have dz:=g9 wc;obtain⟨⟨t0,t1⟩,⟨t2,t3,t4⟩,⟨t5,t6⟩,y4⟩:=ei wc _ ew gz;obtain⟨s0,s1,s2,s3⟩:=wK xc;go_wp2_with fail
     refine dz.mono ?_;rintro e w8 ⟨rfl,bl⟩;have ig:=(ew).on bl;have mh:=(ew).size;have mg:=bl.size;have iz:=(bl.block (w.heap.size+3) (by omega)).trans xc;have dt:=zP ix bl;clear t0 t1 t2 t3 t4 t5 t6 y4 s0 s1 s2 s3;obtain⟨⟨t0,t1⟩,⟨t2,t3,t4⟩,⟨t5,t6⟩,y4⟩:=ei w8 _ ig gz;obtain⟨s0,s1,s2,s3⟩:=wK iz;obtain⟨p0,p1⟩:=zO y4;have bk:=zJ y4;by_cases h60:60<K'
     ·have dh:Hid (R = .error 5):=by show _=_;rw[i9.out,zF h60]
      exact Qm7
     ·have dh:Hid (R = .ok ⟨putN fs x (BO.vals b) v,BO.unk b⟩):=by show _=_;rw[i9.out,zC h60]
      obtain⟨ra,rb,rc⟩:=fz.out;have hst:=fw w8 v e1 f1 g1 e2 f2 g2 e3 f3 g3 dt lf.out (ra.bL UAt.sT bl) (rb.bL ZAt.sT bl) (rc.bL (BAt.sT d) bl) ld.out;exact Qm5
end L
end Go.Proofs.YthcomdofaaeihaaGreatDoor
