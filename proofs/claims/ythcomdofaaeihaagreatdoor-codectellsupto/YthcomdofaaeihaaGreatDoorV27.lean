import Derived.Test.YthcomdofaaeihaaGreatDoorV13
import Derived.Test.YthcomdofaaeihaaGreatDoorV26
set_option maxHeartbeats 32000000
set_option maxRecDepth 100000
set_option linter.unusedVariables false
namespace Go.Proofs.YthcomdofaaeihaaGreatDoor
namespace L
open Go.RowKit
variable{w:World}
theorem B4b {g:Nat}{cs:Array Value}{t:TypeId}{v0 v1:Value}(h:w.heap[g]?=some (.cells cs t (0,0)))(hs:2≤cs.size):((w.setCell ⟨g,0,none⟩ v0).setCell ⟨g,1,none⟩ v1).cell? ⟨g,0,none⟩=some v0∧((w.setCell ⟨g,0,none⟩ v0).setCell ⟨g,1,none⟩ v1).cell? ⟨g,1,none⟩=some v1:=by
 have h1:=yO _ _ 1 _ _ v1 (yO _ _ 0 _ _ v0 h);constructor
 ·refine zL h1 0 _ ?_;rw[oY (by omega),gG (by omega)]
 refine zL h1 1 _ ?_;rw[gG (by simp;omega)]
theorem Qk4{P:Prop}(h:P:=by
 (try dsimp only);with_reducible assumption):P:=h
theorem bS{P:Prop}(h:P:=by
 refine hK.out _ _ ?_ (fun hHeld=>?_)
 ·exact Qk4
 clear hK K
 try simp only[zE]
 refine rA (i:=15) rfl fun K hK=>?_
 go_simp;refine dw.mono ?_;rintro r w8 ⟨i0,j0,l0,i1,j1,l1,rfl,HJ,dp⟩;have ak:=zP aj dp;have dy:FrB [gb] W5 w8:=FrB.of_below ak;have ba:=(zN ak).trans bg;have fw:=zJ ba;obtain⟨gu,gw⟩:=av w8 ak;have dz:FrB [gb] W5 ((w8.setCell ⟨gb,0,none⟩ (.slice i0 j0 l0)).setCell ⟨gb,1,none⟩ (.slice i1 j1 l1)):=dy.trans (fr2 ba) (fun i h=>h) (fun i h=>.inl h);refine hK.out _ _ ?_ (fun hHeld=>?_)
 ·exact Qk4
 clear hK K
 try simp only[zE]
 refine zTk 16 rfl (fun W hSw=>yH (ag W hSw) (ac W hSw)) ?_
 try simp only[zE]
 refine zTk 17 rfl (fun W hSw=>yH (ag W hSw) (ac W hSw)) ?_
 try simp only[zE]
 refine zTk 18 rfl (fun W hSw=>yH (ag W hSw) (ac W hSw)) ?_
 try simp only[zE]
 refine zTk 19 rfl (fun W hSw=>yH (ag W hSw) (ac W hSw)) ?_
 try simp only[zE]
 refine rA (i:=20) rfl fun K hK=>?_
 go_simp;refine hK.out _ _ ?_ (fun hHeld=>?_)
 ·exact Qk4
 clear hK K
 try simp only[zE]
 refine zTk 21 rfl (fun W hSw=>yH (ag W hSw) (ac W hSw)) ?_
 try simp only[zE]
 refine wpAnyH_done (by kernel_rfl) ?_ _;have gg:=ak.size;have ee:=(zN ak).trans x3;have bh:=(zN ak).trans x4;obtain⟨p0,p1,p2,p3⟩:=wK ee;obtain⟨r0,r1,r2,r3⟩:=wK bh;have fy:=zJ bh;have gh:¬ w.heap.size+3=gb:=by omega
 have dg:¬ w.heap.size+4=gb:=by omega
 have gi:¬ gb=w.heap.size+3:=by omega
 have ah:¬ gb=w.heap.size+4:=by omega
 have gj:¬ w.heap.size+3=w.heap.size+4:=by omega
 have gl:¬ w.heap.size+4=w.heap.size+3:=by omega
 go_wp2_with fail
 refine bodyPost_ret (v:=.tuple #[.agg #[.int .i64 mu,.slice b1 m1 d1,.slice b2 m2 d2,.slice (some ⟨gb,0,none⟩) 1 d3],.int .i64 E]) (by simp[results,Tryz.results104,go_sem, *]) rfl ?_;have eh:((w8.setCell ⟨gb,0,none⟩ (.slice i0 j0 l0)).setCell ⟨gb,1,none⟩ (.slice i1 j1 l1)).heap[w.heap.size+4]?=some (.cells #[.int .i64 0,.slice none 0 0,.slice none 0 0,.slice none 0 0] 63 (0,0)):=by rw[zZ _ _ _ _ (show w.heap.size+4≠gb from dg),zZ _ _ _ _ (show w.heap.size+4≠gb from dg)];exact bh
 have f4:=fr4 eh (x0:=.int .i64 mu) (x1:=.slice b1 m1 d1) (x2:=.slice b2 m2 d2) (x3:=.slice (some ⟨gb,0,none⟩) 1 d3);refine⟨rfl,?_,fun hz=>?_⟩
 ·show FrB [gb] w _;exact(FrB.of_below (F:=[gb]) bc).trans (dz.trans f4 (H:=[gb,w.heap.size+4]) (fun i h=>by rw[zS.1 h];simp) (fun i h=>.inl (by rw[zS.1 h];simp))) (fun i h=>h) (fun i h=>by simp only[yY,xP,or_false] at h;rcases h with rfl|rfl;exact .inl (by simp);exact .inr (by omega))
 ·obtain⟨M,hM,c,q1,q2,q3⟩:=HJ.out hz;refine⟨M,hM,fun w'' hA=>?_⟩;obtain⟨G,hG,bk⟩:=hA;have cg:gb∉G:=fun h=>(bk gb h).2 (by show gb∈[gb];simp)
  have cj:=OwnB.inB (d+1) q3;have f5:=(fr2 ba (x0:=.slice i0 j0 l0) (x1:=.slice i1 j1 l1)).trans f4 (H:=[gb,w.heap.size+4]) (fun i h=>by rw[zS.1 h];simp) (fun i h=>.inl (by rw[zS.1 h];simp));have dx:=OwnB.fr (d+1) [gb,w.heap.size+4] _ _ c q3 f5 (fun k hk hm=>by have h1:=(cj k hk).1;have h2:=aj.size;simp only[yY,xP,or_false] at hm;omega);have df:=VE q1 q2 (OwnB.fr (d+1) G _ _ c dx hG (fun k hk hm=>by have h1:=(cj k hk).1;have h2:=aj.size;have h3:=(bk k hm).1;omega));obtain⟨di,dl⟩:=B4b (v0:=.slice i0 j0 l0) (v1:=.slice i1 j1 l1) ba ei.out;refine⟨some ⟨gb,0,none⟩,1,d3,rfl,rfl,bl,bn,(fun e=>by cases e),fun u hu k r' aw=>?_⟩;cases hu
  match k,aw with
  | 0,aw=>
   obtain rfl:jnB g.mG (d+1) M (LB.pl (d+1) s) (LB.pl (d+1) t)=r':=by simpa using aw
   rw[jZ,xS];refine⟨_,_,?_,?_,df.1,df.2⟩
   ·have e:∀ V:World,V=V:=fun _=>rfl
    rw[pY (hG.blk (by simp;omega) cg),pY (V:=((w8.setCell ⟨gb,0,none⟩ (.slice i0 j0 l0)).setCell ⟨gb,1,none⟩ (.slice i1 j1 l1))) (by rw[zZ _ _ _ _ (show gb≠w.heap.size+4 from ah),zZ _ _ _ _ (show gb≠w.heap.size+4 from ah),zZ _ _ _ _ (show gb≠w.heap.size+4 from ah),zZ _ _ _ _ (show gb≠w.heap.size+4 from ah)])];exact di
   ·rw[xS,pY (hG.blk (by simp;omega) cg),pY (V:=((w8.setCell ⟨gb,0,none⟩ (.slice i0 j0 l0)).setCell ⟨gb,1,none⟩ (.slice i1 j1 l1))) (by rw[zZ _ _ _ _ (show gb≠w.heap.size+4 from ah),zZ _ _ _ _ (show gb≠w.heap.size+4 from ah),zZ _ _ _ _ (show gb≠w.heap.size+4 from ah),zZ _ _ _ _ (show gb≠w.heap.size+4 from ah)])];exact dl
  | k+1,aw=>simp at aw):P:=h
theorem D3f {d:Nat}{W0:World}{g:GI}{y z:VL (LB (d+1))}(h0:zB W0 w)(hy:OwnV (ekB (d+1)) (OwnB W0.heap.size (d+1)) w W0.heap.size y)(hz:OwnV (ekB (d+1)) (OwnB W0.heap.size (d+1)) w W0.heap.size z)(x:FI)(hm:x.many=false)(hk:x.kind=10){am:Option Addr}{nm cm:Nat}{ae:Option Addr}{ne ce j:Nat}(hj:yK (fun m:MI=>decide (m.name=x.type)) g.mG=(j:Int))(hI:WIn g am nm cm ae ne ce (j:Int) w){s t:LB (d+1)}(d9:y.subs = [s])(hzs:z.subs = [t])(hab:∀ k∈own1 y.p3,k∉own1 z.p3)(fk:BOk (d+1) (LB.pl (d+1) s))(fq:BOk (d+1) (LB.pl (d+1) t))(hw:jWB (d+1) (LB.pl (d+1) s)+jWB (d+1) (LB.pl (d+1) t)≤1000000000) :
  Calls Tryz.prog 104 #[.agg #[.slice am nm cm,.slice ae ne ce],vFI x,.agg #[.int .i64 y.nU,y.p1.v,y.p2.v,y.p3.v],.agg #[.int .i64 z.nU,z.p1.v,z.p2.v,z.p3.v]] w fun e w'=>e = .returned (.tuple #[.agg #[.int .i64 z.nU,z.p1.v,z.p2.v,z.p3.v],.int .i64 (sI g d (j:Int) (LB.pl (d+1) s) (LB.pl (d+1) t))])∧FrB (own1 z.p3) w w'∧
   (sI g d (j:Int) (LB.pl (d+1) s) (LB.pl (d+1) t)=0→∃ M,g.mG[j]?=some M∧∀ w'',Apt (own1 z.p3) w w' w''→RdL 2 (BAt (d+1)) w'' z.p3.v [jnB g.mG (d+1) M (LB.pl (d+1) s) (LB.pl (d+1) t)]):=by
 unfold vFI;rw[hm];have ii:=beq_iff_eq.2 hk;obtain⟨nu,bi,gz,su,⟨a1,n1,c1⟩,⟨a2,n2,c2⟩,⟨a3,n3,c3⟩⟩:=y;obtain⟨mu,bj,g7,sv,⟨b1,m1,d1⟩,⟨b2,m2,d2⟩,⟨b3,m3,d3⟩⟩:=z;have d9:su = [s]:=d9;have hzs:sv = [t]:=hzs;subst d9;subst hzs;have f6:Row (ekB (d+1)) w W0.heap.size (.slice a3 n3 c3) [s]:=hy.r3;have f9:Row (ekB (d+1)) w W0.heap.size (.slice b3 m3 d3) [t]:=hz.r3;obtain⟨ga,ca,fu,ea,ie,ew,ha1,ha2,g9,eo⟩:∃ g cap cur,Value.slice a3 n3 c3 = .slice (some ⟨g,0,none⟩) 1 cap∧W0.heap.size≤g∧w.heap[g]?=some (.cells cur 29 (0,0))∧1≤cap∧cap≤maxLen∧cur.size=cap*2∧cur.toList.take (1*2)=(ekB (d+1)).flat [s]:=by
  rcases f6.2 with⟨_,h⟩|h
  ·simp at h
  ·exact h
 obtain⟨gb,g8,dm,eb,ig,hgb,bl,bn,fz,bu⟩:∃ g cap cur,Value.slice b3 m3 d3 = .slice (some ⟨g,0,none⟩) 1 cap∧W0.heap.size≤g∧w.heap[g]?=some (.cells cur 29 (0,0))∧1≤cap∧cap≤maxLen∧cur.size=cap*2∧cur.toList.take (1*2)=(ekB (d+1)).flat [t]:=by
  rcases f9.2 with⟨_,h⟩|h
  ·simp at h
  ·exact h
 cases ea
 cases eb
 have hs0:=hy.r3s s (zS.2 rfl);have fh:=hz.r3s t (zS.2 rfl);obtain⟨s0,s1,s2,s3,s4,s5,es⟩:=YC (d+1) s;obtain⟨t0,t1,t2,t3,t4,t5,et⟩:=YC (d+1) t;have fe:=VE es rfl hs0;have fj:=VE et rfl fh;have au:∀ {V:World}{g:Nat}{cur:Array Value}{u0 u1:Value}{c:LB (d+1)},V.heap[g]?=some (.cells cur 29 (0,0))→cur.toList.take (1*2)=(ekB (d+1)).flat [c]→vO (d+1) c = [u0,u1]→V.cell? ⟨g,0,none⟩=some u0∧V.cell? ⟨g,1,none⟩=some u1:=by
  intro V g cur u0 u1 c hg ht he;have hf:(ekB (d+1)).flat [c] = [u0,u1]:=by simp only[EK.flat,rC,mE,tT];exact he
  rw[hf] at ht;have e0:cur.toList[0]?=some u0:=by
   have:=congrArg (fun l=>l[0]?) ht;simpa [oZ] using this
  have e1:cur.toList[1]?=some u1:=by
   have:=congrArg (fun l=>l[1]?) ht;simpa [oZ] using this
  exact⟨zL hg 0 _ (by rw[←bN];exact e0),zL hg 1 _ (by rw[←bN];exact e1)⟩
 have hne:ga≠gb:=fun e=>hab ga (by show ga∈[ga];simp) (by show ga∈[gb];simp[e])
 have dt:=(zR ew)
 have dv:=(zR hgb)
 obtain⟨W5,dh⟩:=zM (((((w.alloc (.cells #[.slice am nm cm,.slice ae ne ce] 25)).alloc (.cells #[.string (S x.name),.int .i64 x.nU,.int .i64 x.kind,.string (S x.type),.bool false,.int .i64 x.cE] 47)).alloc (.cells #[.int .i64 nu,.slice a1 n1 c1,.slice a2 n2 c2,.slice (some ⟨ga,0,none⟩) 1 c3] 63)).alloc (.cells #[.int .i64 mu,.slice b1 m1 d1,.slice b2 m2 d2,.slice (some ⟨gb,0,none⟩) 1 d3] 63)).alloc (.cells #[.int .i64 0,.slice none 0 0,.slice none 0 0,.slice none 0 0] 63));obtain⟨x0,x1,x2,x3,x4,xz⟩:=iM w (.cells #[.slice am nm cm,.slice ae ne ce] 25) (.cells #[.string (S x.name),.int .i64 x.nU,.int .i64 x.kind,.string (S x.type),.bool false,.int .i64 x.cE] 47) (.cells #[.int .i64 nu,.slice a1 n1 c1,.slice a2 n2 c2,.slice (some ⟨ga,0,none⟩) 1 c3] 63) (.cells #[.int .i64 mu,.slice b1 m1 d1,.slice b2 m2 d2,.slice (some ⟨gb,0,none⟩) 1 d3] 63) (.cells #[.int .i64 0,.slice none 0 0,.slice none 0 0,.slice none 0 0] 63);rw[←dh.out] at x0 x1 x2 x3 x4 xz;have bc:zB w W5:=by rw[dh.out];exact(((((zH _ _).alloc (zG _) _).alloc (by simp) _).alloc (by simp;omega) _).alloc (by simp;omega) _).alloc (by simp;omega) _
 have ij:=xD xz.symm;have dr:=(bc.block _ dt).trans ew;have bg:=(bc.block _ dv).trans hgb;have ag:∀ V,FrB [gb] W5 V→(V.cell? ⟨w.heap.size,0,none⟩=some (.slice am nm cm)∧V.cell? ⟨w.heap.size,1,none⟩=some (.slice ae ne ce))∧V.cell? ⟨w.heap.size+1,3,none⟩=some (.string (S x.type))∧V.cell? ⟨w.heap.size+2,3,none⟩=some (.slice (some ⟨ga,0,none⟩) 1 c3)∧V.cell? ⟨w.heap.size+3,3,none⟩=some (.slice (some ⟨gb,0,none⟩) 1 d3):=fun V hV=>
  ⟨zO ((hV.block _ (by omega) (.inl (by simp;omega))).trans x0),zL ((hV.block _ (by omega) (.inl (by simp;omega))).trans x1) 3 _ rfl,zL ((hV.block _ (by omega) (.inl (by simp;omega))).trans x2) 3 _ rfl,zL ((hV.block _ (by omega) (.inl (by simp;omega))).trans x3) 3 _ rfl⟩
 obtain⟨E,HE⟩:=yP (sI g d (j:Int) (LB.pl (d+1) s) (LB.pl (d+1) t));have cu:∀ V,zB w V→Calls Tryz.prog 28 #[.agg #[.slice am nm cm,.slice ae ne ce],.string (S x.type)] V fun e w'=>e = .returned (.int .i64 (j:Int))∧zB V w':=fun V hV=>by
  have:=fX (ve:=.slice ae ne ce) (hI.bL hV).hg.1 ⟨_,_,_,rfl⟩ x.type;rw[hj] at this;exact this
 have fd:∀ V,zB w V→Calls Tryz.prog 181 #[.agg #[.slice am nm cm,.slice ae ne ce],.int .i64 (j:Int),.agg #[.slice s0 s1 s2,.slice s3 s4 s5],.agg #[.slice t0 t1 t2,.slice t3 t4 t5]] V fun e w'=>∃ (i0:Option Addr) (j0 l0:Nat) (i1:Option Addr) (j1 l1:Nat),e = .returned (.tuple #[.agg #[.slice i0 j0 l0,.slice i1 j1 l1],.int .i64 E])∧Hid (E=0→∃ M,g.mG[j]?=some M∧∃ c:LB (d+1),vO (d+1) c = [.slice i0 j0 l0,.slice i1 j1 l1]∧LB.pl (d+1) c=jnB g.mG (d+1) M (LB.pl (d+1) s) (LB.pl (d+1) t)∧OwnB V.heap.size (d+1) w' c)∧zB V w':=fun V hV=>by
  refine(D4b (hI.bL hV) (fe.bL hV) fk (fj.bL hV) fq hw).mono ?_;rintro e w' ⟨eu,⟨cw,rfl⟩|⟨hz,M,e0,f0,g0,e1,f1,g1,_,_,hM,_,rfl,c,q1,q2,q3⟩⟩
  ·rw[HE.out] at cw;exact⟨_,_,_,_,_,_,by rw[HE.out],fun h=>absurd h cw,eu⟩
  ·rw[HE.out] at hz;exact⟨e0,f0,g0,e1,f1,g1,by rw[hz],fun _=>⟨M,by simpa using hM,c,q1,q2,q3⟩,eu⟩
 have hD:zB W5 W5.drew:=(zH _ _).drew;have hs5:FrB [gb] W5 W5.drew:=FrB.of_below hD;have ac:=fun V (hV:FrB [gb] W5 V)=>au ((hV.block _ (by omega) (.inl (by simpa using hne))).trans dr) eo es
 have av:=fun V (hV:zB W5 V)=>au ((zN hV).trans bg) bu et
 obtain⟨⟨z0,z1⟩,z2,z3,z4⟩:=ag W5.drew hs5;obtain⟨y0,y1⟩:=ac W5.drew hs5;obtain⟨v0,v1⟩:=av W5.drew hD;have ei:Hid (2≤dm.size):=by show _≤_;omega
 rw[HE.out];clear hy hz hI hj hm hk fe fj hs0 fh au eo bu fk fq hw;unfold PV.v;go_enter Tryz.func104,Tryz.ntmps104;go_upto_region 7 with fail
 rw[←dh.out];refine wp_region_held_drew (S:=fun V=>FrB [gb] W5 V) (by kernel_rfl) hs5 (fun hHeld=>?_);refine zTk 0 rfl (fun W hSw=>yH (ag W hSw) (ac W hSw)) ?_
 try simp only[zE]
 refine zTk 1 rfl (fun W hSw=>yH (ag W hSw) (ac W hSw)) ?_
 try simp only[zE]
 refine zTk 2 rfl (fun W hSw=>yH (ag W hSw) (ac W hSw)) ?_
 try simp only[zE]
 refine zTk 3 rfl (fun W hSw=>yH (ag W hSw) (ac W hSw)) ?_
 try simp only[zE]
 refine zTk 4 rfl (fun W hSw=>yH (ag W hSw) (ac W hSw)) ?_
 try simp only[zE]
 refine zTk 5 rfl (fun W hSw=>yH (ag W hSw) (ac W hSw)) ?_
 try simp only[zE]
 refine zTk 7 rfl (fun W hSw=>yH (ag W hSw) (ac W hSw)) ?_
 try simp only[zE]
 refine zTk 8 rfl (fun W hSw=>yH (ag W hSw) (ac W hSw)) ?_
 try simp only[zE]
 refine zTk 9 rfl (fun W hSw=>yH (ag W hSw) (ac W hSw)) ?_
 try simp only[zE]
 refine zTk 10 rfl (fun W hSw=>yH (ag W hSw) (ac W hSw)) ?_
 try simp only[zE]
 refine zTk 11 rfl (fun W hSw=>yH (ag W hSw) (ac W hSw)) ?_
 try simp only[zE]
 refine zTk 12 rfl (fun W hSw=>yH (ag W hSw) (ac W hSw)) ?_
 try simp only[zE]
 refine zTk 13 rfl (fun W hSw=>yH (ag W hSw) (ac W hSw)) ?_
 try simp only[zE]
 refine rB (i:=6) (j:=14) rfl (fun K hK=>?_) rfl fun K hK=>?_
 ·skip;go_simp;refine(cu _ (zP bc hD)).mono ?_;rintro r w7 ⟨rfl,dn⟩;have aj:=zP hD dn;have gc:FrB [gb] W5 w7:=FrB.of_below aj;obtain⟨gp,gq⟩:=av w7 aj;have dw:=fd w7 (zP bc aj);refine hK.out _ _ ?_ (fun hHeld=>?_)
  ·exact Qk4
  clear hK K
  try simp only[zE]
  refine rA (i:=14) rfl fun K hK=>?_
  go_simp;exact bS
 ·skip;go_simp;refine hK.out _ _ ?_ (fun hHeld=>?_)
  ·exact Qk4
  clear hK K
  try simp only[zE]
  refine rA (i:=6) rfl fun K hK=>?_
  go_simp;refine(cu _ (zP bc hD)).mono ?_;rintro r w7 ⟨rfl,dn⟩;have aj:=zP hD dn;have gc:FrB [gb] W5 w7:=FrB.of_below aj;obtain⟨gp,gq⟩:=av w7 aj;have dw:=fd w7 (zP bc aj);exact bS
end L
end Go.Proofs.YthcomdofaaeihaaGreatDoor
