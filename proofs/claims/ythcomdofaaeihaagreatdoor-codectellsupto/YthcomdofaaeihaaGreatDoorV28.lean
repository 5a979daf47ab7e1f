import Derived.Test.YthcomdofaaeihaaGreatDoorV21
import Derived.Test.YthcomdofaaeihaaGreatDoorV24
set_option maxHeartbeats 32000000
set_option maxRecDepth 100000
set_option linter.unusedVariables false
namespace Go.Proofs.YthcomdofaaeihaaGreatDoor
namespace L
open Go.RowKit
variable{W0 u w:World}{a1 b1 b2 a3 am a2 ae b3:Option Addr}{ce nm c1 m3 m2 c3 n2 m1 d cm ox c2 n1 d3 d1 d2 ne n3 bx:Nat}{g:GI}{M:MI}{x:FI}
def cP (g:GI)(W0:World)(vm ve:Value)(d:Nat):Prop:=∀ (u w:World) (j:Nat) (M:MI) (v0 v1 u0 u1:Value) (x y:BI d),Sub u w→zB W0 w→g.mG[j]?=some M→BQ d u v0 v1 x→BQ d u u0 u1 y→GdB g.mG d M x→GdB g.mG d M y→jWB d x+jWB d y≤1000000000→
 Calls Tryz.prog 115 #[.agg #[vm,ve],.int .i64 (j:Int),.agg #[v0,v1],.agg #[u0,u1]] w fun e w'=>∃ (a0:Option Addr) (n0 c0:Nat) (a1:Option Addr) (n1 c1:Nat),e = .returned (.agg #[.slice a0 n0 c0,.slice a1 n1 c1])∧(∀ u',Over u w w' u'→BQ d u' (.slice a0 n0 c0) (.slice a1 n1 c1) (jnB g.mG d M x y))∧zB w w'
theorem SA {ms:List MI}{t:List UInt8}(h:ms.find? (isN t)=some M):∃ j:Nat,ms[j]?=some M∧yK (fun m:MI=>decide (m.name=t)) ms=(j:Int):=by
 obtain⟨j,h1,h2,h3⟩:=cX h;exact⟨j,h1,jE h1 h3 h2⟩
theorem B4o {s:BI d}{l:List (BI d)}(hl:l = [s])(h:RdL 2 (BAt d) u (.slice a3 n3 c3) l):n3=1∧∃ gs os e0 e1 e2 e3 e4 e5,a3=some ⟨gs,os,none⟩∧u.cell? ⟨gs,os,none⟩=some (.slice e0 e1 e2)∧u.cell? ⟨gs,os+1,none⟩=some (.slice e3 e4 e5)∧BQ d u (.slice e0 e1 e2) (.slice e3 e4 e5) s:=by
 subst hl;have h1:n3=1:=h.len.1;obtain⟨gs,os,rfl,hat⟩:=h.get (BAt.plain d) (k:=0) (a:=s) rfl;have hat:BAt d u ⟨gs,os,none⟩ s:=by simpa using hat
 obtain⟨v0,v1,k0,k1,hq⟩:=BQ.of d hat;obtain⟨e0,e1,e2,e3,e4,e5,rfl,rfl⟩:=BQ.shapeT d hq;exact⟨h1,gs,os,e0,e1,e2,e3,e4,e5,rfl,k0,k1,hq⟩
theorem rQ{P:Prop}(h:P:=by
 (try dsimp only);first|with_reducible exact hD|with_reducible exact ah|with_reducible exact aj|with_reducible exact ag|exact yL (yL (yL (yL ag (by omega)) (by omega)) (by omega)) (by omega)):P:=h
theorem D0h (hg:GRd W0 (.slice am nm cm) (.slice ae ne ce) g)(ih:cP g W0 (.slice am nm cm) (.slice ae ne ce) d)(h0:zB W0 w)(hsu:Sub u w)(hx:FAt W0 ⟨bx,ox,none⟩ x)(hm:x.many=false)(hk:x.kind=10)(a b:VI (BI d))(ha:QRd d u (a,(a1,n1,c1),(a2,n2,c2),(a3,n3,c3)))(hb:QRd d u (b,(b1,m1,d1),(b2,m2,d2),(b3,m3,d3))){s t:BI d}(hM:g.mG.find? (isN x.type)=some M)(hs:a.subs = [s])(ht:b.subs = [t])(gs:GdB g.mG d M s)(gt:GdB g.mG d M t)(hw:jWB d s+jWB d t≤1000000000) :
  Calls Tryz.prog 54 #[.agg #[.slice am nm cm,.slice ae ne ce],.pointer (some ⟨bx,ox,none⟩),.agg #[.int .i64 a.nU,.slice a1 n1 c1,.slice a2 n2 c2,.slice a3 n3 c3],.agg #[.int .i64 b.nU,.slice b1 m1 d1,.slice b2 m2 d2,.slice b3 m3 d3]] w fun e w'=>∃ (e1:Option Addr) (h1 l1:Nat) (e2:Option Addr) (h2 l2:Nat) (e3:Option Addr) (h3 l3:Nat),e = .returned (.agg #[.int .i64 b.nU,.slice e1 h1 l1,.slice e2 h2 l2,.slice e3 h3 l3])∧(∀ u',Over u w w' u'→QRd d u' (⟨b.nU,[],[],[jnB g.mG d M s t]⟩,(e1,h1,l1),(e2,h2,l2),(e3,h3,l3)))∧zB w w':=by
 obtain⟨rfl,ga,oa,x0,x1,x2,x3,x4,x5,rfl,bu,cg,qa⟩:=B4o hs ha.2.2;obtain⟨rfl,gb,ob,y0,y1,y2,y3,y4,y5,rfl,cj,cu,qb⟩:=B4o ht hb.2.2;obtain⟨j,bl,bn⟩:=SA hM;obtain⟨W1,aw⟩:=zM ((((w.alloc (.cells #[.slice am nm cm,.slice ae ne ce] 25)).alloc (.cells #[.int .i64 a.nU,.slice a1 n1 c1,.slice a2 n2 c2,.slice (some ⟨ga,oa,none⟩) 1 c3] 63)).alloc (.cells #[.int .i64 b.nU,.slice b1 m1 d1,.slice b2 m2 d2,.slice (some ⟨gb,ob,none⟩) 1 d3] 63)).alloc (.cells #[.int .i64 0,.slice none 0 0,.slice none 0 0,.slice none 0 0] 63));obtain⟨xf,xa,xb,xr,z0⟩:=dQ w (.cells #[.slice am nm cm,.slice ae ne ce] 25) (.cells #[.int .i64 a.nU,.slice a1 n1 c1,.slice a2 n2 c2,.slice (some ⟨ga,oa,none⟩) 1 c3] 63) (.cells #[.int .i64 b.nU,.slice b1 m1 d1,.slice b2 m2 d2,.slice (some ⟨gb,ob,none⟩) 1 d3] 63) (.cells #[.int .i64 0,.slice none 0 0,.slice none 0 0,.slice none 0 0] 63);rw[←aw.out] at xf xa xb xr z0;have hb1:zB w W1:=by rw[aw.out];exact((((zH _ _).alloc (zG _) _).alloc (by simp) _).alloc (by simp;omega) _).alloc (by simp;omega) _
 have hz1:=xD z0.symm;have bg:=zP h0 hb1;obtain⟨C,HC⟩:=zM (w.heap.size+3);have dm:=xD HC.out;have dn:=xD HC.out.symm;have ac:∀ V,Below C W1 V→(V.cell? ⟨w.heap.size,0,none⟩=some (.slice am nm cm)∧V.cell? ⟨w.heap.size,1,none⟩=some (.slice ae ne ce))∧(V.cell? ⟨w.heap.size+1,3,none⟩=some (.slice (some ⟨ga,oa,none⟩) 1 c3))∧(V.cell? ⟨w.heap.size+2,0,none⟩=some (.int .i64 b.nU)∧V.cell? ⟨w.heap.size+2,3,none⟩=some (.slice (some ⟨gb,ob,none⟩) 1 d3))∧V.cell? ⟨bx,ox+3,none⟩=some (.string (S x.type))∧(V.cell? ⟨ga,oa,none⟩=some (.slice x0 x1 x2)∧V.cell? ⟨ga,oa+1,none⟩=some (.slice x3 x4 x5))∧(V.cell? ⟨gb,ob,none⟩=some (.slice y0 y1 y2)∧V.cell? ⟨gb,ob+1,none⟩=some (.slice y3 y4 y5)):=fun V hV=>by
  have av:=hb1.trans (hV.mono (by omega));obtain⟨_,_,_,f3,_,_⟩:=(FAt.sT _ _ _ _ (zP h0 av) hx).at;exact⟨zO ((zN hV).trans xf),zL ((zN hV).trans xa) 3 _ rfl,⟨zL ((zN hV).trans xb) 0 _ rfl,zL ((zN hV).trans xb) 3 _ rfl⟩,f3,⟨zQ av (hsu _ _ bu),zQ av (hsu _ _ cg)⟩,zQ av (hsu _ _ cj),zQ av (hsu _ _ cu)⟩
 obtain⟨_,_,f2,_,f4,_⟩:=(FAt.sT _ _ _ _ bg hx).at;rw[hk] at f2;rw[hm] at f4;have ak:∀ V,zB W0 V→Calls Tryz.prog 36 #[.agg #[.slice am nm cm,.slice ae ne ce],.string (S x.type)] V fun e w'=>e = .returned (.int .i64 (j:Int))∧zB V w':=fun V hV=>by
  have:=bA (ve:=.slice ae ne ce) (hg.bL hV).1 ⟨_,_,_,rfl⟩ x.type;rw[bn] at this;exact this
 have au:=fun V (hV:zB w V)=>ih u V j M _ _ _ _ s t (hsu.trans (Sub.of hV)) (zP h0 hV) bl qa qb gs gt hw
 have hD:Below C W1 W1.drew:=(zH _ _).drew;have bh:zB W1 W1.drew:=(zH _ _).drew;have dg:=ak W1.drew (zP bg bh);obtain⟨⟨t0,t1⟩,t2,⟨t3,t4⟩,t5,⟨t6,t7⟩,t8,t9⟩:=ac W1 (zH _ _);clear ha hb hx bl bn hM hs ht bu cg cj cu ak ih hg qa qb gs gt xa xb xf;go_enter Tryz.func54,Tryz.ntmps54;go_upto_region 1 with fail
 rw[←aw.out];go_upto_region 7 with fail
 refine wp_region_held_drew (S:=fun V=>Below C W1 V) (by kernel_rfl) hD (fun hHeld=>?_);refine zTk 0 rfl ac ?_
 try simp only[zE]
 refine zTk 1 rfl ac ?_
 try simp only[zE]
 refine zTk 2 rfl ac ?_
 try simp only[zE]
 refine zTk 3 rfl ac ?_
 try simp only[zE]
 refine zTk 4 rfl ac ?_
 try simp only[zE]
 refine zTk 5 rfl ac ?_
 try simp only[zE]
 refine zTk 6 rfl ac ?_
 try simp only[zE]
 refine zTk 7 rfl ac ?_
 try simp only[zE]
 refine zTk 9 rfl ac ?_
 try simp only[zE]
 refine zTk 10 rfl ac ?_
 try simp only[zE]
 refine zTk 11 rfl ac ?_
 try simp only[zE]
 refine zTk 12 rfl ac ?_
 try simp only[zE]
 refine zTk 13 rfl ac ?_
 try simp only[zE]
 refine zTk 14 rfl ac ?_
 try simp only[zE]
 refine zTk 15 rfl ac ?_
 try simp only[zE]
 refine zTk 16 rfl ac ?_
 try simp only[zE]
 refine rA (i:=8) rfl fun K hK=>?_
 go_simp;refine dg.mono ?_;rintro r w7 ⟨rfl,bk⟩;have ah:=hD.trans (bk.mono (by have:=bh.size;omega));have hP:=au w7 (hb1.trans (ah.mono (by omega)));refine hK.out _ _ ?_ (fun hHeld=>?_)
 ·exact rQ
 clear hK K
 try simp only[zE]
 refine rA (i:=17) rfl fun K hK=>?_
 go_simp;refine hP.mono ?_;rintro r w8 ⟨i0,j0,l0,i1,j1,l1,rfl,dh,bc⟩;have dr:=ah.size;have aj:=ah.trans (bc.mono (by omega));obtain⟨X8,df,ba,xX,-⟩:=zV w8 (.cells #[.slice i0 j0 l0,.slice i1 j1 l1] 29);have dt:=bc.size;have ag:=aj.trans (ba.mono (by omega));have dp:=aj.size;have cw:=(zN ba).trans ((zN bc).trans ((bk.block _ (by show _<W1.heap.size;omega)).trans xr));obtain⟨s0,s1,s2,s3⟩:=tQ cw;have dl:=zJ cw;refine hK.out _ _ ?_ (fun hHeld=>?_)
 ·exact rQ
 clear hK K
 try simp only[zE]
 refine rA (i:=18) rfl fun K hK=>?_
 go_simp;rw[←df.out];refine hK.out _ _ ?_ (fun hHeld=>?_)
 ·exact rQ
 clear hK K
 try simp only[zE]
 refine zTk 19 rfl ac ?_
 try simp only[zE]
 refine rA (i:=20) rfl fun K hK=>?_
 go_simp;refine hK.out _ _ ?_ (fun hHeld=>?_)
 ·exact rQ
 clear hK K
 try simp only[zE]
 refine wpAnyH_done (by kernel_rfl) ?_ _;go_wp2_with fail
 refine bodyPost_ret (v:=.agg #[.int .i64 b.nU,.slice none 0 0,.slice none 0 0,.slice (some ⟨w8.heap.size,0,none⟩) 1 1]) (by simp[results,Tryz.results54,go_sem, *]) rfl ?_;have di:=hb1.trans (ag.mono (by omega));refine⟨none,0,0,none,0,0,some ⟨w8.heap.size,0,none⟩,1,1,rfl,fun u' ho=>⟨RdL.nil _ _ _,RdL.nil _ _ _,?_⟩,yL (yL (yL (yL di (by omega)) (by omega)) (by omega)) (by omega)⟩;have dv:=(zR xX)
 have hq:=dh u' (ho.back (by omega) (by simp;omega) (fun k h1 h2=>by rw[zZ _ _ _ k (show k≠w.heap.size+3 by omega),zZ _ _ _ k (show k≠w.heap.size+3 by omega),zZ _ _ _ k (show k≠w.heap.size+3 by omega),zZ _ _ _ k (show k≠w.heap.size+3 by omega)];exact ba.block k h2));have hc:u'.heap[w8.heap.size]?=some (.cells #[.slice i0 j0 l0,.slice i1 j1 l1] 29 (0,0)):=by
  rw[ho.new _ (by omega) (by simp;omega),zZ _ _ _ _ (show w8.heap.size≠w.heap.size+3 by omega),zZ _ _ _ _ (show w8.heap.size≠w.heap.size+3 by omega),zZ _ _ _ _ (show w8.heap.size≠w.heap.size+3 by omega),zZ _ _ _ _ (show w8.heap.size≠w.heap.size+3 by omega)];exact xX
 obtain⟨c0,c1'⟩:=zO hc;refine⟨some ⟨w8.heap.size,0,none⟩,1,1,rfl,rfl,zG _,by unfold maxLen;omega,(fun e=>by cases e),fun z hz k r hr=>?_⟩;cases hz
 cases k with
 | succ k=>simp at hr
 | zero=>
 simp at hr;subst hr;exact BQ.at d hq c0 c1'
theorem C5z (hsu:Sub u w)(hx:FAt w ⟨bx,ox,none⟩ x)(hm:x.many=false)(hk:x.kind≠10)(a b:VI (BI d))(hb:QRd d u (b,(b1,m1,d1),(b2,m2,d2),(b3,m3,d3))) :
  Calls Tryz.prog 54 #[.agg #[.slice am nm cm,.slice ae ne ce],.pointer (some ⟨bx,ox,none⟩),.agg #[.int .i64 a.nU,.slice a1 n1 c1,.slice a2 n2 c2,.slice a3 n3 c3],.agg #[.int .i64 b.nU,.slice b1 m1 d1,.slice b2 m2 d2,.slice b3 m3 d3]] w fun e w'=>∃ (e1:Option Addr) (h1 l1:Nat) (e2:Option Addr) (h2 l2:Nat) (e3:Option Addr) (h3 l3:Nat),e = .returned (.agg #[.int .i64 b.nU,.slice e1 h1 l1,.slice e2 h2 l2,.slice e3 h3 l3])∧(∀ u',Over u w w' u'→QRd d u' (b,(e1,h1,l1),(e2,h2,l2),(e3,h3,l3)))∧zB w w':=by
 obtain⟨W1,ac⟩:=zM ((((w.alloc (.cells #[.slice am nm cm,.slice ae ne ce] 25)).alloc (.cells #[.int .i64 a.nU,.slice a1 n1 c1,.slice a2 n2 c2,.slice a3 n3 c3] 63)).alloc (.cells #[.int .i64 b.nU,.slice b1 m1 d1,.slice b2 m2 d2,.slice b3 m3 d3] 63)).alloc (.cells #[.int .i64 0,.slice none 0 0,.slice none 0 0,.slice none 0 0] 63));obtain⟨xf,xa,xb,xr,z0⟩:=dQ w (.cells #[.slice am nm cm,.slice ae ne ce] 25) (.cells #[.int .i64 a.nU,.slice a1 n1 c1,.slice a2 n2 c2,.slice a3 n3 c3] 63) (.cells #[.int .i64 b.nU,.slice b1 m1 d1,.slice b2 m2 d2,.slice b3 m3 d3] 63) (.cells #[.int .i64 0,.slice none 0 0,.slice none 0 0,.slice none 0 0] 63);rw[←ac.out] at xf xa xb xr z0;have hb1:zB w W1:=by rw[ac.out];exact((((zH _ _).alloc (zG _) _).alloc (by simp) _).alloc (by simp;omega) _).alloc (by simp;omega) _
 have hz1:=xD z0.symm;obtain⟨_,_,f2,_,f4,_⟩:=(FAt.sT _ _ _ _ hb1 hx).at;rw[hm] at f4;have ek:=beq_eq_false_iff_ne.2 hk;obtain⟨t0,t1,t2,t3⟩:=tQ xb;obtain⟨s0,s1,s2,s3⟩:=tQ xr;have ag:=zJ xr;have HB:=zI hb;clear hb hx hk z0 xf xa xb;go_enter Tryz.func54,Tryz.ntmps54;go_upto_region 1 with fail
 rw[←ac.out];go_wp2_with fail
 refine bodyPost_ret (v:=.agg #[.int .i64 b.nU,.slice b1 m1 d1,.slice b2 m2 d2,.slice b3 m3 d3]) (by simp[results,Tryz.results54,go_sem, *]) rfl ?_;exact⟨b1,m1,d1,b2,m2,d2,b3,m3,d3,rfl,fun u' ho=>HB.out.sub ho.sub,yL (yL (yL (yL hb1 (by omega)) (by omega)) (by omega)) (by omega)⟩
theorem B8m (hg:GRd W0 (.slice am nm cm) (.slice ae ne ce) g)(ih:cP g W0 (.slice am nm cm) (.slice ae ne ce) d)(h0:zB W0 w)(hsu:Sub u w)(hx:FAt W0 ⟨bx,ox,none⟩ x){fs:List FI}(a b:VI (BI d))(hn:a.nU=b.nU)(hf:fs.find? (isF b.nU)=some x)(ga:GdV (GdB g.mG d) g.mG fs a)(gb:GdV (GdB g.mG d) g.mG fs b)(hw:jW (jWB d) a+jW (jWB d) b≤1000000000)(ha:QRd d u (a,(a1,n1,c1),(a2,n2,c2),(a3,n3,c3)))(hb:QRd d u (b,(b1,m1,d1),(b2,m2,d2),(b3,m3,d3))) :
  Calls Tryz.prog 54 #[.agg #[.slice am nm cm,.slice ae ne ce],.pointer (some ⟨bx,ox,none⟩),.agg #[.int .i64 a.nU,.slice a1 n1 c1,.slice a2 n2 c2,.slice a3 n3 c3],.agg #[.int .i64 b.nU,.slice b1 m1 d1,.slice b2 m2 d2,.slice b3 m3 d3]] w fun e w'=>∃ (e1:Option Addr) (h1 l1:Nat) (e2:Option Addr) (h2 l2:Nat) (e3:Option Addr) (h3 l3:Nat),e = .returned (.agg #[.int .i64 (zX (jnB g.mG d) g.mG x a b).nU,.slice e1 h1 l1,.slice e2 h2 l2,.slice e3 h3 l3])∧(∀ u',Over u w w' u'→QRd d u' (zX (jnB g.mG d) g.mG x a b,(e1,h1,l1),(e2,h2,l2),(e3,h3,l3)))∧zB w w':=by
 cases hm:x.many with
 | true=>
  have e:zX (jnB g.mG d) g.mG x a b=⟨a.nU,a.bits++b.bits,a.bytes++b.bytes,a.subs++b.subs⟩:=by unfold zX;rw[zF hm]
  rw[e];have hl:∀ v:VI (BI d),v.bits.length+v.bytes.length+v.subs.length≤jW (jWB d) v:=fun v=>by
   have:=tY (fun s=>1+jWB d s) (fun _=>by omega) v.subs;unfold jW;omega
  have ha':=hl a;have hb':=hl b;exact C6a hsu (FAt.sT _ _ _ _ h0 hx) hm a b ha hb (by omega) (by omega) (by omega)
 | false=>
 by_cases hk:x.kind=10
 ·obtain⟨p1,p2,M,s,p3,p4,p5⟩:=(ga.fld (by rw[hn];exact hf) hm).2 hk;obtain⟨q1,q2,M',t,q3,q4,q5⟩:=(gb.fld hf hm).2 hk;rw[p3] at q3;cases q3
  rw[C9i hn hm hk p1 p2 p3 p4 q4];refine D0h hg ih h0 hsu hx hm hk a b ha hb p3 p4 q4 p5 q5 ?_;unfold jW at hw;rw[p4,q4] at hw;simp only[wS,tA,tZ,oD] at hw;omega
 have e:zX (jnB g.mG d) g.mG x a b=b:=by unfold zX;rw[hm,zC (by simp),zC hk]
 rw[e];exact C5z hsu (FAt.sT _ _ _ _ h0 hx) hm hk a b hb
end L
end Go.Proofs.YthcomdofaaeihaaGreatDoor
