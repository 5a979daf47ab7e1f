import Derived.Test.YthcomdofaaeihaaGreatDoorV44
import Derived.Test.YthcomdofaaeihaaGreatDoorV45
import Derived.Test.YthcomdofaaeihaaGreatDoorV23
set_option maxHeartbeats 32000000
set_option maxRecDepth 100000
set_option linter.unusedVariables false
namespace Go.Proofs.YthcomdofaaeihaaGreatDoor
namespace L
open Go.RowKit
variable{msg:Int}{v1 v0:Value}{ce cm d nm ne:Nat}{am ae ao:Option Addr}{l:List UInt8}{g:GI}{w' w:World}
theorem D5f {x:BI (d+1)}(hg:GRd w (.slice am nm cm) (.slice ae ne ce) g)(cg:g.mG.length≤140737488355328)(cj:g.enums.length≤140737488355328)(au:Fits g)(hq:BRd d w v0 v1 x)(aj:BOk (d+1) x)(hch:∀ m∈g.mG,∀ y∈m.fD,I64 y.cE)(bn : -9223372036854775808≤msg)(bu:msg≤9223372036854775807)(hwt:jWB (d+1) x≤100000000) :
  Calls Tryz.prog 9 #[.agg #[.slice am nm cm,.slice ae ne ce],.int .i64 msg,.agg #[v0,v1]] w fun e w'=>∃ (ao:Option Addr) (n c:Nat),e = .returned (.tuple #[.slice ao n c,.int .i64 (nH g d msg x).2])∧RdL 1 YAt w' (.slice ao n c) (nH g d msg x).1∧zB w w':=by
 obtain⟨a0,n0,c0,a1,n1,c1,rfl,rfl⟩:=hq.sH;obtain⟨W2,aw,hb2,z2,x1,x2⟩:=uD w (.cells #[.slice am nm cm,.slice ae ne ce] 25) (.cells #[.slice a0 n0 c0,.slice a1 n1 c1] 29);have hwr:=B6q (hg.bL hb2) cg cj au (hq.bL hb2) aj hch bn bu;obtain⟨Q,HQ⟩:=yP (wD g d msg x);rw[HQ.out] at hwr;obtain⟨R,HR⟩:=yP (nH g d msg x);rw[HR.out];obtain⟨t0,t1⟩:=zO x1;obtain⟨t2,t3⟩:=zO x2;by_cases hQ0:Q=0
 rotate_left
 ·have ez:(Q != 0)=true:=by simpa using hQ0
  have HE:Hid (R=([],Q)):=by show _=_;rw[←HR.out,nH,zF (by rw[HQ.out];exact hQ0),HQ.out]
  clear hQ0;go_enter Tryz.func9,Tryz.ntmps9;go_upto_region 1 with fail
  rw[←aw.out];go_wp2_with fail
  refine hwr.mono ?_;rintro r w3 ⟨rfl,hb3⟩;go_wp2;go_ret2;exact⟨none,0,0,by rw[HE.out];rfl,by rw[HE.out];exact RdL.nil _ _ _,zK hb2 hb3⟩
 have ez:(Q != 0)=false:=by simp[hQ0]
 obtain⟨hr,j,m,rfl,hj,hE⟩:=UW (show wD g d msg x=0 by rw[HQ.out];exact hQ0);have hm:=xV hj;obtain⟨f1,f2,f3⟩:=ZC hr (d+1) 1 m x hm hE (fE _ _ aj) hwt;rw[YH] at f2;obtain⟨B,HB⟩:=yP (uS (rU g (d+1) m x));have HE:Hid (R=if B.length≤4000 then(B,0) else([],4)):=by
  show _=_;rw[←HR.out,nH,zC (by rw[HQ.out];exact fun h=>h hQ0)];show(match g.mG[((j:Nat):Int).toNat]? with|some m=>uB g (d+1) m x|none=>([],6))=_;rw[qU,hj];show uB g (d+1) m x=_;rw[D7k hr (d+1) 1 m x hm hE,YH,HB.out]
 have ah:=fun V (hV:zB W2 V)=>C2z hg hr (d+1) V j m _ _ x 1 (zK hb2 hV) hj (hq.bL (zK hb2 hV)) hE (fE _ _ aj) hwt
 have ac:=fun V v (h:RdL 4 RAt V v (rU g (d+1) m x))=>C3i h f1 (by omega)
 rw[HB.out] at ac;have bk:=fun V (hV:zB W2 V)=>yH (zQ hV t0) (yH (zQ hV t1) (yH (zQ hV t2) (zQ hV t3)))
 clear hQ0 hE f1 f2 f3 hr hm aj hq hg hj HR;go_enter Tryz.func9,Tryz.ntmps9;go_upto_region 1 with fail
 rw[←aw.out];go_wp2_with fail
 refine hwr.mono ?_;rintro r w3 ⟨rfl,hb3⟩;clear t0 t1 t2 t3;obtain⟨t0,t1,t2,t3⟩:=bk w3 hb3;have bg:=ah w3 hb3;go_wp2_with fail
 refine bg.mono ?_;rintro e w4 ⟨a4,n4,c4,rfl,hr4,hb4⟩;have av:=ac w4 _ hr4;clear t0 t1 t2 t3 bg ah ac hwr;go_wp2_with fail
 refine av.mono ?_;rintro e w5 ⟨a5,n5,c5,rfl,ak,bh⟩;have bc:=zK hb2 (zK hb3 (zK hb4 bh));have ba:=zI ak.len;have cu:=ak.rdY;by_cases hlt:n5≤4000
 ·have bl:¬ (4000:Int)<(n5:Int):=by omega
  have ag:Hid (R=(B,0)):=by show _=_;rw[HE.out,zF (by rw[←ba.out];exact hlt)]
  clear av hr4 ak;go_wp2;go_ret2;exact⟨a5,n5,c5,by rw[ag.out];rfl,by rw[ag.out];exact cu,bc⟩
 have bl:(4000:Int)<(n5:Int):=by omega
 have ag:Hid (R=([],4)):=by show _=_;rw[HE.out,zC (by rw[←ba.out];exact hlt)]
 clear av hr4 ak;go_wp2;go_ret2;exact⟨none,0,0,by rw[ag.out];rfl,by rw[ag.out];exact RdL.nil _ _ _,bc⟩
theorem Qo6{P:Prop}(h:P:=by
 go_wp2;refine bodyPost_ret (v:=.tuple #[.agg #[.slice none 0 0,.slice none 0 0],.int .i64 6]) (by simp[results,Tryz.results11,go_sem, *]) rfl ⟨hK,by decide,rfl⟩):P:=h
theorem D5o (hg:GRd w (.slice am nm cm) (.slice ae ne ce) g)(bn:g.mG.length≤140737488355328)(bu:g.enums.length≤140737488355328)(au:Fits g)(cg : -9223372036854775808≤msg)(cj:msg≤9223372036854775807){k c:Nat}(hl:RdL 1 YAt w (.slice ao k c) l) :
  Calls Tryz.prog 11 #[.agg #[.slice am nm cm,.slice ae ne ce],.int .i64 msg,.slice ao k c] w (aW 12 w w (qR g msg l)):=by
 obtain⟨W2,bk,hb2,z2,x1,x2⟩:=uD w (.cells #[.slice am nm cm,.slice ae ne ce] 25) (.cells #[.slice none 0 0,.slice none 0 0] 29);have hwr:=B4w (hg.bL hb2) bn bu au;obtain⟨Q,HQ⟩:=zM ((yB g).1);obtain⟨QI,bh⟩:=zM ((((yB g).2:Nat):Int));rw[←HQ.out,←bh.out] at hwr;have aj:Hid (nm=g.mG.length):=hg.1.len.1;obtain⟨R,HR⟩:=yP (qR g msg l);rw[HR.out];obtain⟨y0,y1⟩:=zO x1;go_enter Tryz.func11,Tryz.ntmps11;go_wp2_with fail
 rw[←bk.out];refine hwr.mono ?_;rintro r w3 ⟨rfl,hb3⟩;clear hwr y0 y1;obtain⟨W4,ah,ac,x8,-⟩:=zV w3 (.cells #[.int .i64 Q,.int .i64 QI] 54);have hb4:zB W2 W4:=zK hb3 ac;have hw4:zB w W4:=zK hb2 hb4;have s3:=hb3.size;have s4:=ac.size;have ag:=(zN hb4).trans x2;have n8:w.heap.size+1≠w3.heap.size:=by omega
 have l8:=(zR ag)
 obtain⟨g0,g1⟩:=zO x8;obtain⟨o0,o1⟩:=zO ag;have o2:=zJ ag 0;have o3:=zJ ag 1;obtain⟨t0,t1⟩:=zO ((zN hb4).trans x1);have hK:=zT (i:=1) (x:=.slice none 0 0) (zT (i:=0) (x:=.slice none 0 0) hw4 (show w.heap.size≤w.heap.size+1 by omega)) (show w.heap.size≤w.heap.size+1 by omega);by_cases hQ0:Q=0
 rotate_left
 ·have ez:(Q != 0)=true:=by simpa using hQ0
  obtain rfl:R = .error Q:=by rw[←HR.out,qR,zF (by rw[←HQ.out];exact hQ0),HQ.out]
  rw[ah.out] at g0;go_upto_region 3 with fail
  rw[←ah.out] at g0 ⊢;go_region
  all_goals
   go_wp2;refine bodyPost_ret (v:=.tuple #[.agg #[.slice none 0 0,.slice none 0 0],.int .i64 Q]) (by simp[results,Tryz.results11,go_sem, *]) rfl ⟨hK.drew,hQ0,rfl⟩
 have ez:(Q != 0)=false:=by simp[hQ0]
 have hr:(yB g).1=0:=by rw[←HQ.out];exact hQ0
 clear hQ0;go_upto_region 2 with fail
 rw[←ah.out];by_cases hbad:msg<0∨(nm:Int)≤msg
 ·obtain rfl:R = .error 6:=by rw[←HR.out,qR,zC (by rw[hr];simp),zF (by rw[←aj.out];exact hbad)]
  by_cases bc:msg<0
  ·exact Qo6
  have bl:(nm:Int)≤msg:=hbad.resolve_left bc;exact Qo6
 have bc:¬ msg<0:=fun h=>hbad (.inl h)
 have bl:¬ (nm:Int)≤msg:=fun h=>hbad (.inr h)
 obtain⟨i,rfl⟩:∃ i:Nat,msg=(i:Int):=⟨msg.toNat,by omega⟩
 have ba:i<g.mG.length:=by rw[←aj.out];omega
 obtain⟨m,hm⟩:∃ m,g.mG[i]?=some m:=⟨g.mG[i],vG ba⟩
 have aw:Hid (vR g 12 m l=R):=by
  show _=_;rw[←HR.out,qR,zC (by rw[hr];simp),zC (by rw[←aj.out];exact hbad)];show _=match g.mG[((i:Nat):Int).toNat]? with|some m=>vR g 12 m l|none=>.error 6
  rw[qU,hm]
 have av:=B8v hg hr 12 w W4 i m 1 ao k c l (Sub.of hw4) hw4 hm rfl hl;rw[aw.out] at av;clear hbad ba HR aw hm hr hg hl;go_wp2_with fail
 refine av.mono ?_;rintro e w5 ⟨ak,h5⟩;have s5:=ak.size;have x5:=(zN ak).trans ag;clear o0 o1 o2 o3 t0 t1 g0 g1 av;obtain⟨o0,o1⟩:=zO x5;have o2:=zJ x5 0;have o3:=zJ x5 1;have l5:=(zR x5)
 have bg:=zK hw4 ak;cases R with
 | error E=>
  obtain⟨hE,rfl⟩:=h5;go_wp2;refine bodyPost_ret (v:=.tuple #[.agg #[.slice none 0 0,.slice none 0 0],.int .i64 E]) (by simp[results,Tryz.results11,go_sem, *]) rfl ⟨zT (zT bg (by omega)) (by omega),hE,rfl⟩
 | ok b=>
 obtain⟨a0,n0,c0,a1,n1,c1,rfl,hq⟩:=h5;go_wp2;refine bodyPost_ret (v:=.tuple #[.agg #[.slice a0 n0 c0,.slice a1 n1 c1],.int .i64 0]) (by simp[results,Tryz.results11,go_sem, *]) rfl ⟨zT (zT bg (by omega)) (by omega),a0,n0,c0,a1,n1,c1,rfl,fun u' ho=>hq u' (ho.back hw4.size (by simp) fun k' h1 h2=>?_)⟩;have:k'≠w.heap.size+1:=by omega
 exact(zZ _ _ _ _ this).trans (zZ _ _ _ _ this)
def pB:Except Int (BI 12)→BO (BI 11)
 | .error _=>⟨[],[]⟩
 | .ok s=>s
def pE:Except Int (BI 12)→Int
 | .error E=>E
 | .ok _=>0
theorem D7u {V:World}{res:Except Int (BI 12)}{e:Ending}(h:DOut 12 V res e w'):∃ (i0:Option Addr) (j0 l0:Nat) (i1:Option Addr) (j1 l1:Nat),e = .returned (.tuple #[.agg #[.slice i0 j0 l0,.slice i1 j1 l1],.int .i64 (pE res)])∧BRd 11 w' (.slice i0 j0 l0) (.slice i1 j1 l1) (pB res)∧zB V w':=by
 cases res with
 | error E=>
  obtain⟨_,rfl,hb⟩:=h;exact⟨none,0,0,none,0,0,rfl,⟨RdL.nil _ _ _,RdL.nil _ _ _⟩,hb⟩
 | ok s=>
 obtain⟨c,i0,j0,l0,i1,j1,l1,he,rfl,rfl,ho,_,hb⟩:=h;refine⟨i0,j0,l0,i1,j1,l1,rfl,?_,hb⟩;have:=OwnB.rd (d:=11) ho;have e' : [(BL.q0 c).v,(BL.q1 c).v] = [Value.slice i0 j0 l0,.slice i1 j1 l1]:=he;simp only[List.cons.injEq,and_true] at e';rw[e'.1,e'.2] at this;exact this
theorem D8u {res:Except Int (BI 12)}{e:Ending}(h:aW 12 w w res e w'):∃ (i0:Option Addr) (j0 l0:Nat) (i1:Option Addr) (j1 l1:Nat),e = .returned (.tuple #[.agg #[.slice i0 j0 l0,.slice i1 j1 l1],.int .i64 (pE res)])∧BRd 11 w' (.slice i0 j0 l0) (.slice i1 j1 l1) (pB res)∧zB w w':=by
 obtain⟨hb,h⟩:=h;cases res with
 | error E=>
  obtain⟨_,rfl⟩:=h;exact⟨none,0,0,none,0,0,rfl,⟨RdL.nil _ _ _,RdL.nil _ _ _⟩,hb⟩
 | ok s=>
 obtain⟨i0,j0,l0,i1,j1,l1,rfl,hq⟩:=h;exact⟨i0,j0,l0,i1,j1,l1,rfl,hq w' (Over.self hb),hb⟩
theorem C9u (m:MI):(lC m).length≤m.fD.length:=by
 unfold lC;rw[List.length_mergeSort,yX];exact zG _
theorem codecTells_walk (hI:WIn g am nm cm ae ne ce msg w){x:BI (d+1)}(hq:BRd d w v0 v1 x)(dw:BOk (d+1) x)(hwt:jWB (d+1) x≤100000000){kb cb:Nat}(hl:RdL 1 YAt w (.slice ao kb cb) l)(kind:Int)(hk : -9223372036854775808≤kind∧kind≤9223372036854775807)(fj:∀ m∈g.mG,m.fD.length≤3000000000000) :
  Calls Tryz.prog 3 #[.agg #[.slice am nm cm,.slice ae ne ce],.int .i64 msg,.agg #[v0,v1],.slice ao kb cb,.int .i64 kind] w fun e w'=>e = .returned (.bool true)∧zB w w':=by
 obtain⟨a0,n0,c0,a1,n1,c1,rfl,rfl⟩:=hq.sH;obtain⟨W1,d9,hb1,z1,x1,x2⟩:=uD w (.cells #[.slice am nm cm,.slice ae ne ce] 25) (.cells #[.slice a0 n0 c0,.slice a1 n1 c1] 29);have HI:Hid (WIn g am nm cm ae ne ce msg w):=hI;have HL:Hid (RdL 1 YAt w (.slice ao kb cb) l):=hl;have HQ:Hid (BRd d w (.slice a0 n0 c0) (.slice a1 n1 c1) x):=hq;have dl:Hid (BOk (d+1) x):=dw;have dm:Hid (nm=g.mG.length):=hI.hg.1.len.1;have fw:nm≤140737488355328:=by rw[dm.out];exact hI.n1
 obtain⟨hw,eo⟩:=yP (yI kind);have h1:=YA kind W1;have h2:=UD kind W1 hk;rw[eo.out] at h1 h2;clear hI hl hq dw;go_enter Tryz.func3,Tryz.ntmps3;go_upto_region 1 with fail
 rw[←d9.out];go_wp2_with fail
 refine h1.mono ?_;rintro e _ ⟨rfl,rfl⟩;go_wp2_with fail
 refine h2.mono ?_;rintro e w2 ⟨rfl,hb2⟩;obtain⟨y0,y1⟩:=zO ((zN hb2).trans x1);clear h1 h2;go_wp2_with fail
 clear y0 y1;go_loopg [30] nm (fun m i wr=>∃ (k:Nat),k+m=nm∧i = .int .i64 k∧zB W1 wr)
 case atStart=>exact⟨0,by omega,rfl,hb2⟩
 obtain⟨k,fq,rfl,hb⟩:=hrel;have aj:=zK hb1 hb;by_cases hlt:k<nm
 ·obtain⟨m,Hm⟩:=yE (l:=g.mG) (k:=k) (by rw[←dm.out];exact hlt);obtain⟨bm,om,rfl,dv⟩:=HI.out.hg.1.get MAt.plain Hm.out;obtain⟨vf,vb,k0,k1,k2,dg,aw⟩:=dv.at;obtain⟨af,nf,cf,rfl,_,_⟩:=dg.sH;obtain⟨ab,nb,bh,rfl,_,_⟩:=aw.sH;have k0:=zQ aj k0;have k1:=zQ aj k1;have k2:=zQ aj k2;have fu:(k:Int)<(nm:Int):=by omega
  have dt:=fj m (xV Hm.out);obtain⟨W5,ee,av,x5,-⟩:=zV wr (.cells #[.string (S m.name),.slice af nf cf,.slice ab nb bh] 35);have ac:∀ V,zB W5 V→V.cell? ⟨wr.heap.size,0,none⟩=some (.string (S m.name))∧V.cell? ⟨wr.heap.size,1,none⟩=some (.slice af nf cf)∧V.cell? ⟨wr.heap.size,2,none⟩=some (.slice ab nb bh):=fun V hV=>uG ((hV.block _ (zR x5)).trans x5)
  have hA:∀ V,zB W5 V→_:=fun V hV=>C0r (nm:=m.name) (vb:=.slice ab nb bh) (dg.bL FAt.sT (zK aj (zK av hV))) ⟨_,_,_,rfl⟩ dt
  have hB:∀ V,zB W5 V→_:=fun V hV=>B8t (nm:=m.name) (vb:=.slice ab nb bh) (dg.bL FAt.sT (zK aj (zK av hV))) ⟨_,_,_,rfl⟩ dt
  have au:zB W5 W5.drew:=(zH _ _).drew;clear dv aw;go_upto_region 6 with fail
  rw[←ee.out];clear k0 k1 k2;refine rgL (fun V=>zB W5 V) 5 au ?_;refine tkF 0 rfl au ac ?_
  try simp only[zE]
  refine tkF 2 rfl au ac ?_
  try simp only[zE]
  refine xT 1 rfl (fun K hK=>?_);go_simp;refine(hA _ au).mono ?_;rintro e w6 ⟨ap,mp,cp,rfl,ak,bl⟩;have ag:=zK au bl;refine hK.out _ _ (fun _=>ag) ?_;clear hK K
  try simp only[zE]
  refine xT 3 rfl (fun K hK=>?_);go_simp;refine(hB _ ag).mono ?_;rintro e w7 ⟨aq,mq,cq,rfl,dz,ah⟩;have bk:=zK ag ah;refine hK.out _ _ (fun _=>bk) ?_;clear hK K
  try simp only[zE]
  refine tkF 4 rfl bk ac ?_
  try simp only[zE]
  refine tkF 5 rfl bk ac ?_
  try simp only[zE]
  refine dnL ?_;have bc:=ak.rdN.bL NAt.sT ah;have bg:=dz.rdN;obtain⟨_,_,_,ep,cg,_⟩:=bc.sH;cases ep
  obtain⟨_,_,_,eq,eu,_⟩:=bg.sH;cases eq
  have ew:Hid (mq=mp):=by show _=_;rw[eu.out,cg.out]
  obtain rfl:mq=mp:=ew.out;have cw:zB W1 w7:=zK (zK hb av) bk;have fy:mq≤140737488355328:=by rw[cg.out];have:=C9u m;omega
  clear ak dz hA hB ac;go_wp2_with fail
  go_loopg [45] mq (fun m i wr=>∃ (i':Nat),i'+m=mq∧i = .int .i64 i'∧zB w7 wr)
  case atStart=>exact⟨0,by omega,rfl,zH _ _⟩
  obtain⟨i,hi,rfl,bu⟩:=hrel;have fe:=zK cw bu;by_cases hil:i<mq
  ·obtain⟨n,Hn⟩:=yE (l:=(lC m)) (k:=i) (by rw[←cg.out];exact hil);obtain⟨bp,op,rfl,hp⟩:=(bc.bL NAt.sT bu).get NAt.plain Hn.out;obtain⟨bq,oq,rfl,hq'⟩:=(bg.bL NAt.sT bu).get NAt.plain Hn.out;have p0:wr.cell? ⟨bp,op+i,none⟩=some (.int .i64 n):=by simpa [NAt] using hp
   have q0:wr.cell? ⟨bq,oq+i,none⟩=some (.int .i64 n):=by simpa [NAt] using hq'
   have fk:(i:Int)<(mq:Int):=by omega
   clear hp hq';go_upto_region 12 with fail
   go_quiet (fail);go_wp2_with fail
   go_roundg (mq-(i+1))
   case measure=>omega
   case rel=>exact⟨i+1,by omega,by go_num,qJ bu _⟩
  go_wp2_with fail
  go_roundg (nm-(k+1))
  case measure=>omega
  case rel=>exact⟨k+1,by omega,by go_num,fe⟩
 have df:=fun V (hV:zB w V)=>C7r (HI.out.bL hV) (HQ.out.bL hV) dl.out
 have di:=fun V (hV:zB w V)=>D5f (HI.out.hg.bL hV) HI.out.n1 HI.out.n2 HI.out.fit (HQ.out.bL hV) dl.out (fun m hm y hy=>((HI.out.fok m hm).1 y hy).2) HI.out.m1 HI.out.m2 hwt
 have dh:=fun V (hV:zB w V)=>(D0a (HI.out.bL hV) (HL.out.bL YAt.sT hV)).mono fun e w' h=>D7u h
 have ak:=fun V (hV:zB w V)=>(D5o (HI.out.hg.bL hV) HI.out.n1 HI.out.n2 HI.out.fit HI.out.m1 HI.out.m2 (HL.out.bL YAt.sT hV)).mono fun e w' h=>D8u h
 obtain⟨B,E,HB⟩:∃ B E,Hid (nH g d msg x=(B,E)):=⟨_,_,rfl⟩
 obtain⟨P,HP⟩:=yP (pB (qR g msg l));obtain⟨F,HF⟩:=yP (pE (qR g msg l));rw[HB.out] at df di;rw[HP.out,HF.out] at dh ak;have ba:∀ V,zB W1 V→(V.cell? ⟨w.heap.size,0,none⟩=some (.slice am nm cm)∧V.cell? ⟨w.heap.size,1,none⟩=some (.slice ae ne ce))∧V.cell? ⟨w.heap.size+1,0,none⟩=some (.slice a0 n0 c0)∧V.cell? ⟨w.heap.size+1,1,none⟩=some (.slice a1 n1 c1):=fun V hV=>⟨zO ((zN hV).trans x1),zO ((zN hV).trans x2)⟩
 obtain⟨⟨y0,y1⟩,y2,y3⟩:=ba wr hb;have c1':=df wr aj;go_wp2_with fail
 refine c1'.mono ?_;rintro e w3 ⟨p1,p2,p3,rfl,hr3,hb3⟩;have cj:=zK hb hb3;clear y0 y1 y2 y3 c1';obtain⟨⟨y0,y1⟩,y2,y3⟩:=ba w3 cj;have dn:=di w3 (zK hb1 cj);go_wp2_with fail
 refine dn.mono ?_;rintro e w4 ⟨q1,q2,q3,rfl,hr4,hb4⟩;have cu:=zK cj hb4;have g1:=fU (hr3.rdY.bL YAt.sT hb4);have g2:=fU hr4;clear y0 y1 y2 y3 dn;obtain⟨⟨y0,y1⟩,y2,y3⟩:=ba w4 cu;have dp:=dh w4 (zK hb1 cu);clear hr3 hr4 df di;go_wp2_with fail
 refine dp.mono ?_;rintro e w5 ⟨i0,j0,l0,i1,j1,l1,rfl,dx,av⟩;clear g1 g2;obtain⟨W6,eh,bl,x6,-⟩:=zV w5 (.cells #[.slice i0 j0 l0,.slice i1 j1 l1] 29);have ag:=zK (zK cu av) bl;clear y0 y1 y2 y3 dp;obtain⟨⟨y0,y1⟩,y2,y3⟩:=ba W6 ag;have dr:=ak W6 (zK hb1 ag);go_upto_region 21 with fail
 rw[←eh.out];go_wp2_with fail
 refine dr.mono ?_;rintro e w7 ⟨e0,f0,r0,e1,f1,r1,rfl,dy,ah⟩;obtain⟨W8,ei,bn,x8,-⟩:=zV w7 (.cells #[.slice e0 f0 r0,.slice e1 f1 r1] 29);have fd:=zK (zK ag ah) bn;have hsm:=C7o ((dx.bL bl).bL (zK ah bn)) (dy.bL bn);obtain⟨z0,fz⟩:=zO ((bn.block _ (by have:=(zR x6);have:=ah.size;omega)).trans ((ah.block _ (zR x6)).trans x6));obtain⟨z2,z3⟩:=zO x8;clear y0 y1 y2 y3 dr dh ak ba dx dy;go_upto_region 22 with fail
 rw[←ei.out];go_wp2_with fail
 refine hsm.mono ?_;rintro e w9 ⟨rfl,fh⟩;go_wp2;go_ret;exact⟨rfl,zK hb1 (zK fd fh)⟩
end L
end Go.Proofs.YthcomdofaaeihaaGreatDoor
