import Derived.Test.YthcomdofaaeihaaGreatDoorV39
set_option maxHeartbeats 32000000
set_option maxRecDepth 100000
set_option linter.unusedVariables false
namespace Go.Proofs.YthcomdofaaeihaaGreatDoor
namespace L
open Go.RowKit
variable{n c:Nat}
theorem D6y {p:PV}{a:Option Addr}(h:p.v = .slice a n c):p=(a,n,c):=by
 obtain⟨x,y,z⟩:=p;simp only[PV.v,Value.slice.injEq] at h;obtain⟨rfl,rfl,rfl⟩:=h;rfl
theorem frD {V:World}{i:Nat}{v:Value}{cs:Array Value}{t:TypeId}(hc:V.heap[c]?=some (.cells cs t (0,0)))(ht:t≠5):FrB [c] V (V.setCell ⟨c,i,none⟩ v):=
 ⟨rfl,rfl,rfl,by simp,fun k hk h=>by
  rcases h with h|⟨cs',fr,h⟩
  ·exact zZ _ _ _ _ (fun e=>h (zS.2 e))
  ·refine zZ _ _ _ _ (fun e=>?_)
   rw[show k=c from e,hc] at h
   simp only[Option.some.injEq,Obj.cells.injEq] at h
   exact ht h.2.1⟩
theorem D0o (g:GI)(N:Nat→MI→List UInt8→Prop):dK g N 0:=by
 intro w am nm cm ae ne ce af nf cf ab nb cb M ao k c l D hD ac hI hM hf hl ah;show Calls Tryz.prog 20 _ w fun e w'=>(10:Int)≠0∧e = .returned (.tuple #[.agg #[.slice none 0 0,.slice none 0 0],.int .i64 10])∧zB w w'
 have ag:D=13:=by omega
 subst ag;have hb:zB w ((((w.alloc (.cells #[.slice am nm cm,.slice ae ne ce] 25)).alloc (.cells #[.string (S M.name),.slice af nf cf,.slice ab nb cb] 35)).alloc (.cells #[.int .i64 13] 3)).alloc (.cells #[.slice none 0 0,.slice none 0 0] 29)):=((((zH _ _).alloc (zG _) _).alloc (by simp) _).alloc (by simp;omega) _).alloc (by simp;omega) _;clear hI hM hf hl hD ac ah;go_enter Tryz.func20,Tryz.ntmps20;go_wp2_with fail
 refine bodyPost_ret (v:=.tuple #[.agg #[.slice none 0 0,.slice none 0 0],.int .i64 10]) (by simp[results,Tryz.results20,go_sem, *]) rfl ?_;exact⟨by decide,rfl,hb⟩
theorem nE{P:Prop}(h:P:=by
 (try dsimp only);with_reducible assumption):P:=h
theorem D0n {g:GI}(hG:FGd g){N:Nat→MI→List UInt8→Prop}(jq:Hid (NjC g N))(ih:dK g N n):dK g N (n+1):=by
 intro w am nm cm ae ne ce af nf cf ab nb cb M ao k c l D hD ja hI hM hf hl jb;have jr:=zI jb;clear jb;obtain⟨W4,g9⟩:=zM ((((w.alloc (.cells #[.slice am nm cm,.slice ae ne ce] 25)).alloc (.cells #[.string (S M.name),.slice af nf cf,.slice ab nb cb] 35)).alloc (.cells #[.int .i64 D] 3)).alloc (.cells #[.slice none 0 0,.slice none 0 0] 29));obtain⟨x0,x1,x2,x3,z0⟩:=ZK w (.cells #[.slice am nm cm,.slice ae ne ce] 25) (.cells #[.string (S M.name),.slice af nf cf,.slice ab nb cb] 35) (.cells #[.int .i64 D] 3) (.cells #[.slice none 0 0,.slice none 0 0] 29);rw[←g9.out] at x0 x1 x2 x3 z0;have hb4:zB w W4:=by rw[g9.out];exact((((zH _ _).alloc (zG _) _).alloc (by simp) _).alloc (by simp;omega) _).alloc (by simp;omega) _
 have mr:=xD z0.symm;clear z0;have l7:¬ 12<D:=by omega
 have hDn:D+(n:Int)=12:=by omega
 obtain⟨rs,E,A,hp⟩:∃ rs E A,uL l=(rs,E,A):=⟨_,_,_,rfl⟩
 obtain⟨R,HR⟩:=yP (vR g (n+1) M l);have cw:=D4y (fN (hl.bL YAt.sT hb4)) hp;obtain⟨di,HE⟩:∃ di:Int,Hid ((E:Int)=di):=⟨_,rfl⟩
 have cw:Calls Tryz.prog 43 #[.slice ao k c] W4 fun e w'=>∃ (rl:List (RI×PV)) (ar:Option Addr) (kr cr:Nat),e = .returned (.tuple #[.slice ar kr cr,.agg #[.int .i64 di,.int .i64 (A:Int)]])∧Hid (Row ekR w' W4.heap.size (.slice ar kr cr) rl∧(∀ r∈rl,Row ekY w' W4.heap.size r.2.v r.1.bytes)∧rl.map Prod.fst=rs.map xR)∧zB W4 w':=cw.mono fun e w' ⟨v',ps,h1,h2,h3,h4⟩=>by
  obtain⟨rl,g1,g2,g3⟩:=D5l h2;obtain⟨ar,kr,cr,rfl,_⟩:=g1.shape';rw[HE.out] at h1;rw[h3] at g3;exact⟨rl,ar,kr,cr,h1,⟨g1,g2,g3⟩,h4⟩
 show Calls Tryz.prog 20 _ w fun e w'=>DOut (n+1) w (vR g (n+1) M l) e w'
 rw[HR.out];have HI:Hid _:=hI;have HF:=zI hf;have HM:=zI hM;have jp:=zI ih;have HP:=zI hp;have jo:=zI ja;have HDn:=zI hDn;have HG:=zI hG;obtain⟨y0,y1⟩:=zO x0;obtain⟨y2,y3,y4⟩:=uG x1;have y5:=zL x2 0 _ rfl;clear hI hf hM ih hp hl hD ja hDn hG;go_enter Tryz.func20,Tryz.ntmps20;go_upto_region 3 with fail
 rw[←g9.out];go_wp2_with fail
 refine cw.mono ?_;rintro e w5 ⟨rl,ar,kr,cr,rfl,cu,jc⟩;obtain⟨W6,jw,eu,x6,mz⟩:=zV w5 (.cells #[.int .i64 di,.int .i64 (A:Int)] 54);have ag:=zP jc eu;have im:=zP hb4 ag;have mv:=jc.size;clear y0 y1 y2 y3 y4 y5;go_upto_region 4 with fail
 rw[←jw.out];obtain⟨t0,t1⟩:=zO x6;by_cases hE0:di=0
 ·have hE:E=0:=by have:=HE.out;omega
  subst hE;subst hE0;obtain⟨iw,hw2,hw3⟩:=UI HP.out;obtain⟨W7,i6,fd,x7,ng⟩:=zV W6 (.cells #[.slice none 0 0,.slice none 0 0] 29);have kz:W7.heap.size≤W6.heap.size+1:=by rw[i6.out];simp
  have eo:=zP ag fd;have fh:=zP hb4 eo;have ew:=zP eu fd;have iz:Hid (kr=rs.length):=by
   show _=_;have h1:=(show Row ekR w5 W4.heap.size (.slice ar kr cr) rl from cu.out.1).len;have h2:=congrArg List.length cu.out.2.2;simp only[yX] at h2;omega
  have kw:kr≤4000:=by
   have:=iz.out;have:=tY (fun r:Rcd=>r.bytes.length+1) (fun _=>by omega) rs;unfold rsW at iw;omega
  obtain⟨rd,ie⟩:∃ rd:List UInt8→List UInt8→Except Int (BI n),Hid (rd=fun t l=>vR g n (msgD g t) l):=⟨_,rfl⟩
  have js:Hid (dF rd):=by show dF rd;rw[ie.out];exact D0m HG.out n
  have jt:Hid (R=tN g rd M.fD (rl.map Prod.fst) ⟨[],[]⟩ []):=by
   show _=_;rw[←HR.out,ZW HP.out,cu.out.2.2,ie.out]
  have ak:∀ V,FrB [W6.heap.size] W7 V→(V.heap[w.heap.size]?=some (.cells #[.slice am nm cm,.slice ae ne ce] 25 (0,0))∧V.heap[w.heap.size+1]?=some (.cells #[.string (S M.name),.slice af nf cf,.slice ab nb cb] 35 (0,0))∧V.heap[w.heap.size+2]?=some (.cells #[.int .i64 D] 3 (0,0))∧V.heap[w.heap.size+3]?=some (.cells #[.slice none 0 0,.slice none 0 0] 29 (0,0)))∧Hid (Row ekR V w.heap.size (.slice ar kr cr) rl∧∀ r∈rl,Row ekY V w.heap.size r.2.v r.1.bytes)∧zB w V:=fun V hV=>by
   have hk:∀ i,i≤3→V.heap[w.heap.size+i]?=W4.heap[w.heap.size+i]?:=fun i hi=>(hV.blk (by omega) (by simp;omega)).trans (zN eo)
   have hlt:=fun j (hj:(PV.v (ar,kr,cr)).ownBlock=some j)=>(World.ownsRow.lt cu.out.1 j hj).2
   refine⟨⟨(hk 0 (by omega)).trans x0,(hk 1 (by omega)).trans x1,(hk 2 (by omega)).trans x2,(hk 3 (by omega)).trans x3⟩,⟨?_,fun r hr=>?_⟩,fh.trans (hV.bL fh.size (fun k hk=>by rw[zS] at hk;omega))⟩
   ·exact Row.frB (p:=(ar,kr,cr)) ((cu.out.1.bL ew).mono (by omega)) hV (fun j hj hm=>by
     have:=hlt j (dV.1 hj);rw[zS] at hm;omega)
   exact(((cu.out.2.1 r hr).bL ew).mono (by omega)).frY hV
  have bu:∀ U,FrB [W6.heap.size] W7 U→∀ x∈M.fD,x.kind=10→WQ n U 44 #[.pointer (some ⟨w.heap.size,0,none⟩),.pointer (some ⟨w.heap.size+2,0,none⟩)] x.type (rd x.type) (fun l=>N n (msgD g x.type) l):=fun U hU x hx hk=>by
   obtain⟨⟨k0,k1,k2,k3⟩,_,gh⟩:=ak U hU;obtain⟨N,hN⟩:=HG.out.sub M HM.out x hx hk;rw[ie.out];exact D0k jp.out (fun j hj=>(HI.out j hj).bL gh) k0 HDn.out jo.out k2 hN
  have bc:∀ U,FrB [W6.heap.size] W7 U→∀ x∈M.fD,∀ (r:RI) (ay:Option Addr) (ny cy:Nat),Row ekY U w.heap.size (.slice ay ny cy) r.bytes→r.bytes.length≤4000→r.bits≤18446744073709551615→(x.kind=10→N n (msgD g x.type) r.bytes)→Calls Tryz.prog 45 #[.agg #[.string (S x.name),.int .i64 x.nU,.int .i64 x.kind,.string (S x.type),.bool x.many,.int .i64 x.cE],.agg #[.int .i64 r.nU,.int .i64 r.how,.int .u64 (r.bits:Int),.slice ay ny cy],.func (.func 44) #[] #[.pointer (some ⟨w.heap.size,0,none⟩),.pointer (some ⟨w.heap.size+2,0,none⟩)]] U fun e w'=>∃ (q:Int) (a1:Option Addr) (n1 c1:Nat) (a2:Option Addr) (n2 c2:Nat) (a3:Option Addr) (n3 c3:Nat) (E:Int),e = .returned (.tuple #[.agg #[.int .i64 q,.slice a1 n1 c1,.slice a2 n2 c2,.slice a3 n3 c3],.int .i64 E])∧Hid (TRes n w.heap.size U.heap.size (uT rd x r) q a1 n1 c1 a2 n2 c2 a3 n3 c3 E w')∧zB U w':=fun U hU x hx r ay ny cy hr hl hb hq=>by
   obtain⟨_,_,gh⟩:=ak U hU;obtain⟨j,hj⟩:=List.mem_iff_getElem?.1 HM.out;have:=D6c (B:=w.heap.size) gh.size x r hr hl hb ((HI.out j (yG.1 hj).1).bL gh).tabs (enters_of Tryz.func44 (by kernel_rfl) rfl) (rd:=rd) (Q:=fun t l=>N n (msgD g t) l) (fun hk=>bu U hU x hx hk) hq;refine this.mono ?_;intro e w' ho;obtain⟨q,a1,n1,c1,a2,n2,c2,a3,n3,c3,E,h1,h2,h3⟩:=ho.open;exact⟨q,a1,n1,c1,a2,n2,c2,a3,n3,c3,E,h1,h2,h3⟩
  have gp:Hid (DSt n w.heap.size W7.heap.size W7 ⟨[],[],(none,0,0),(none,0,0)⟩ ⟨[],[]⟩ (none,0,0) []):=DSt.nil _ _ _ _;have jv:=zI hw2;have ju:=zI (yN iw hw3);clear cw iw hw2 hw3;go_wp2_with fail
  rw[←i6.out];go_loopg [14,37] kr (fun gm lj lu wr=>∃ (i:Nat) (b:BO (BI n)) (cc:BL (LB n)) (ul:List (RI×PV)) (e0:Option Addr) (f0 g0:Nat) (e1:Option Addr) (f1 g1:Nat) (u0:Option Addr) (u1 u2:Nat),i+gm=kr∧lj = .slice u0 u1 u2∧lu = .int .i64 (i:Int)∧Hid (R=tN g rd M.fD ((rl.drop i).map Prod.fst) b (ul.map Prod.fst))∧Hid (RSt M.fD b (2*rsW (rs.take i)))∧Hid (DSt n w.heap.size W7.heap.size wr cc b (u0,u1,u2) ul)∧Hid (cc.q0=(e0,f0,g0)∧cc.q1=(e1,f1,g1)∧ul.length≤i∧NumI rs i b)∧wr.heap[W6.heap.size]?=some (.cells #[.slice e0 f0 g0,.slice e1 f1 g1] 29 (0,0))∧FrB [W6.heap.size] W7 wr)
  case atStart=>exact⟨0,⟨[],[]⟩,⟨[],[],(none,0,0),(none,0,0)⟩,[],none,0,0,none,0,0,none,0,0,by omega,rfl,rfl,jt,⟨rfl,fun v hv=>(xP hv).elim,fun v hv=>(xP hv).elim,by simp⟩,gp,⟨rfl,rfl,qA _,fun v hv=>(xP hv).elim⟩,x7,FrB.refl _ _⟩
  obtain⟨i,b,cc,ul,e0,f0,g0,e1,f1,g1,u0,u1,u2,hi,rfl,rfl,dz,HST,df,bg,xO,hF⟩:=hrel;obtain⟨⟨k0,k1,k2,k3⟩,HK,hbr⟩:=ak wr hF;have nk:=hF.size;by_cases hlt:i<kr
  ·obtain⟨p,Hp⟩:∃ p,Hid (rl[i]?=some p):=by
    have h1:=(show Row ekR w5 W4.heap.size (.slice ar kr cr) rl from cu.out.1).len;exact⟨rl[i]'(by omega),vG _⟩
   obtain⟨rc,eh⟩:=yE (l:=rs) (k:=i) (by have:=iz.out;omega);have iq:p.1=xR rc:=by
    have h1:=congrArg (fun l=>l[i]?) cu.out.2.2;simp only[sE,Hp.out,eh.out,Option.map_some,Option.some.injEq] at h1;exact h1
   have ba:=jv.out rc (xV eh.out);have aw:Hid (kU p.1∧p.1.bytes.length≤4000∧p.1.bits≤18446744073709551615∧rsW (rs.take (i+1))=rsW (rs.take i)+(p.1.bytes.length+1)∧rsW (rs.take (i+1))≤4000):=by
    have e1:rsW (rs.take (i+1))=rsW (rs.take i)+(rc.bytes.length+1):=by
     rw[mV,eh.out,VO];rfl
    have e2:rsW rs=rsW (rs.take (i+1))+rsW (rs.drop (i+1)):=by rw[←VO,nX]
    have e3:=ju.out;rw[iq];exact⟨D7b ba,ba.2,ba.1.2.2.2.2,e1,by omega⟩
   obtain⟨gR,rfl,fk⟩:=(HK.out.1).get Hp.out;obtain⟨⟨num,how,au,av⟩,⟨ay,ny,cy⟩⟩:=p;have HY:Hid (Row ekY wr w.heap.size (.slice ay ny cy) av):=HK.out.2 _ (xV Hp.out);have c0:wr.cell? ⟨gR,i*4,none⟩=some (.int .i64 num):=fk 0 _ rfl;have c1:wr.cell? ⟨gR,i*4+1,none⟩=some (.int .i64 how):=fk 1 _ rfl;have c2:wr.cell? ⟨gR,i*4+2,none⟩=some (.int .u64 (au:Int)):=fk 2 _ rfl;have c3:wr.cell? ⟨gR,i*4+3,none⟩=some (.slice ay ny cy):=fk 3 _ rfl;have km:(i:Int)<(kr:Int):=by omega
   have f6:Hid (rl.drop i=((⟨num,how,au,av⟩,(ay,ny,cy)):RI×PV)::rl.drop (i+1)):=by
    show _=_;obtain⟨h1,h2⟩:=yG.1 Hp.out;rw[uQ h1,h2]
   obtain⟨W8,i7,gg,x8,nh⟩:=zV wr (.cells #[.int .i64 num,.int .i64 how,.int .u64 (au:Int),.slice ay ny cy] 78);have cg:=iU (HF.out.bL FAt.sT (zP hbr gg)) ⟨ab,nb,cb,rfl⟩ ⟨M.name,rfl⟩ num;obtain⟨m0,m1,m2⟩:=uG ((zN gg).trans k1);obtain⟨r0,r1,r2,r3⟩:=wK x8;have gw:Hid ((⟨num,how,au,av⟩:RI)=xR rc):=iq;clear fk iq ba bu;rcases jJ (fun f:FI=>decide (f.nU=num)) M.fD with⟨hq1,hq2⟩|⟨kf,x,hq1,hq2,hq3,hq4⟩
   ·rw[hq1] at cg;have HN:Hid (M.fD.find? (isF num)=none):=hq2;clear hq1 hq2 bc;go_upto_region 12 with fail
    rw[←i7.out];go_wp2_with fail
    refine cg.mono ?_;rintro e w9 ⟨rfl,dv⟩;have ah:=zP gg dv;have x9:=(zN dv).trans x8;have ld:=dv.size;clear m0 m1 m2 r0 r1 r2 r3 c0 c1 c2 c3;obtain⟨r0,r1,r2,r3⟩:=wK x9;obtain⟨ig,g8,il,jl,-⟩:=zV w9 (.cells #[.int .i64 num,.int .i64 how,.int .u64 (au:Int),.slice ay ny cy] 78);have bn:=zP ah il;have fw:=bn.size;have dl:=zI (df.out.fr (FrB.of_below bn:FrB [] wr ig) (fun k hk=>by simp at hk));have hrow:Row ekR ig w.heap.size (.slice u0 u1 u2) ul:=dl.out.ur;have ir:∀ ad,(some ⟨w9.heap.size,0,none⟩:Option Addr)=some ad→∀ k y,[((⟨num,how,au,av⟩,(ay,ny,cy)):RI×PV)][k]?=some y→∀ j u,(ekR.enc y)[j]?=some u→ig.cell? (ad.add (k*ekR.size+j))=some u:=mJ jl rfl;have hlen:(ul.length + [((⟨num,how,au,av⟩,(ay,ny,cy)):RI×PV)].length)*ekR.bytes≤140737488355328:=by
     have:=bg.out.2.2.1;show(ul.length+1)*48≤_;omega
    have j6:=yN hbr.size fw;clear jl x9;go_wp2_with (at_builtin;rw[←g8.out];refine mP rfl ekR _ _ rfl w.heap.size _ ul [((⟨num,how,au,av⟩,(ay,ny,cy)):RI×PV)] rfl hrow (some ⟨w9.heap.size,0,none⟩) 1 1 rfl rfl (fun h=>by cases h) ir (show 1≤48 by omega) hlen j6 ?_)
    intro v4 fz hr4 hg4 hk4;obtain⟨a4,n4,c4,rfl,lz⟩:=hr4.shape';have jd:=dl.out.app_fr hg4;have cj:Hid (DSt n w.heap.size W7.heap.size fz cc b (a4,n4,c4) (ul++[(⟨num,how,au,av⟩,(ay,ny,cy))])):=dl.out.app (by omega) hg4 hr4 hk4 (HY.out.bL bn);have bk:=(jd.blk (by omega) (fun h=>by have:=(df.out.ulo _ h).1;omega)).trans ((zN bn).trans xO);have dt:=(hF.on bn).trans jd (fun _ h=>h) (fun k h=>.inr (df.out.ulo k h).1);have gq:Hid (R=tN g rd M.fD ((rl.drop (i+1)).map Prod.fst) b ((ul++[((⟨num,how,au,av⟩,(ay,ny,cy)):RI×PV)]).map Prod.fst)):=by
     show _=_;rw[dz.out,f6.out,wS,XC HN.out,wM];rfl
    have gz:Hid (RSt M.fD b (2*rsW (rs.take (i+1)))):=⟨HST.out.unk,HST.out.qk,HST.out.sh,by have:=HST.out.w;have:=aw.out.2.2.2.1;omega⟩
    have gi:Hid (cc.q0=(e0,f0,g0)∧cc.q1=(e1,f1,g1)∧(ul++[((⟨num,how,au,av⟩,(ay,ny,cy)):RI×PV)]).length≤i+1∧NumI rs (i+1) b):=⟨bg.out.1,bg.out.2.1,by have:=bg.out.2.2.1;simp;omega,bg.out.2.2.2.next⟩
    go_wp2_with fail
    go_roundg (kr-(i+1))
    case measure=>omega
    case rel=>exact⟨i+1,b,cc,ul++[(⟨num,how,au,av⟩,(ay,ny,cy))],e0,f0,g0,e1,f1,g1,a4,n4,c4,by omega,rfl,by go_simp,gq,gz,cj,gi,bk,dt⟩
   rw[hq1] at cg;have HN:Hid (M.fD.find? (isF num)=some x):=hq3;obtain⟨bf,of,rfl,ip⟩:=HF.out.get FAt.plain hq2;have HX:=zI (xV hq2);have mh:(kf:Int)<(nf:Int):=by have:=(yG.1 hq2).1;have:=HF.out.len.1;omega
   have kj:¬ (kf:Int)<0:=by omega
   obtain⟨y0,y1,y2,y3,y4,y5⟩:=ip;rw[xS] at y1 y2 y3 y4 y5;clear hq1 hq2 hq3 hq4;go_upto_region 12 with fail
   rw[←i7.out];go_wp2_with fail
   refine cg.mono ?_;rintro e w9 ⟨rfl,dv⟩;have ah:=zP gg dv;have x9:=(zN dv).trans x8;have ld:=dv.size;have ix:=ah.size;have io:=zP hbr ah;have j8:=hF.on ah;clear m0 m1 m2 r0 r1 r2 r3 c0 c1 c2 c3 cg;have ji:=(zN ah).trans k1;have ac:∀ V,zB w9 V→V.cell? ⟨w.heap.size+1,1,none⟩=some (.slice (some ⟨bf,of,none⟩) nf cf)∧(V.cell? ⟨wr.heap.size,0,none⟩=some (.int .i64 num)∧V.cell? ⟨wr.heap.size,1,none⟩=some (.int .i64 how)∧V.cell? ⟨wr.heap.size,2,none⟩=some (.int .u64 (au:Int))∧V.cell? ⟨wr.heap.size,3,none⟩=some (.slice ay ny cy))∧V.cell? ⟨bf,of+kf*6,none⟩=some (.string (S x.name))∧V.cell? ⟨bf,of+kf*6+1,none⟩=some (.int .i64 x.nU)∧V.cell? ⟨bf,of+kf*6+2,none⟩=some (.int .i64 x.kind)∧V.cell? ⟨bf,of+kf*6+3,none⟩=some (.string (S x.type))∧V.cell? ⟨bf,of+kf*6+4,none⟩=some (.bool x.many)∧V.cell? ⟨bf,of+kf*6+5,none⟩=some (.int .i64 x.cE):=fun V hV=>by
    have dx:=zP io hV;exact⟨zL ((zN hV).trans ji) 1 _ rfl,wK ((zN hV).trans x9),zQ dx y0,zQ dx y1,zQ dx y2,zQ dx y3,zQ dx y4,zQ dx y5⟩
   have i5:Hid (x.kind=10→N n (msgD g x.type) av∧(x.many=false→iQ g x∨∀ j,j<i→∀ r',rs[j]?=some r'→(xR r').nU≠num)):=fun hk=>by
    have h:=jq.out.step jr.out HM.out HP.out eh.out (x:=x) (by rw[←gw.out];exact HN.out) hk;rw[←gw.out] at h;exact h
   obtain⟨Rt,d9⟩:=yP (uT rd x (⟨num,how,au,av⟩:RI));have iu:∀ V,zB w9 V→Calls Tryz.prog 45 #[.agg #[.string (S x.name),.int .i64 x.nU,.int .i64 x.kind,.string (S x.type),.bool x.many,.int .i64 x.cE],.agg #[.int .i64 num,.int .i64 how,.int .u64 (au:Int),.slice ay ny cy],.func (.func 44) #[] #[.pointer (some ⟨w.heap.size,0,none⟩),.pointer (some ⟨w.heap.size+2,0,none⟩)]] V fun e w'=>∃ (q:Int) (a1:Option Addr) (n1 c1:Nat) (a2:Option Addr) (n2 c2:Nat) (a3:Option Addr) (n3 c3:Nat) (E:Int),e = .returned (.tuple #[.agg #[.int .i64 q,.slice a1 n1 c1,.slice a2 n2 c2,.slice a3 n3 c3],.int .i64 E])∧Hid (TRes n w.heap.size V.heap.size Rt q a1 n1 c1 a2 n2 c2 a3 n3 c3 E w')∧zB V w':=fun V hV=>by
    have:=bc V (j8.on hV) x HX.out (⟨num,how,au,av⟩:RI) ay ny cy (HY.out.bL (zP ah hV)) aw.out.2.1 aw.out.2.2.1 (fun hk=>(i5.out hk).1);rw[d9.out] at this;exact this
   have hd:zB w9 w9.drew:=(zH _ _).drew;have hzd:w9.drew.heap.size=w9.heap.size:=rfl;have gc:zB w9 (w9.alloc (.cells #[.int .i64 0,.slice none 0 0,.slice none 0 0,.slice none 0 0] 63)).drew:=((zH _ _).alloc (zG _) _).drew;have xA:(w9.alloc (.cells #[.int .i64 0,.slice none 0 0,.slice none 0 0,.slice none 0 0] 63)).drew.heap[w9.heap.size]?=some (.cells #[.int .i64 0,.slice none 0 0,.slice none 0 0,.slice none 0 0] 63 (0,0)):=yM _ _;clear bc ak y0 y1 y2 y3 y4 y5 ji x9;go_upto_region 15 with fail
   go_cut [18,19] from 51 to 61 (fun lm lp wc=>∃ (K:Nat) (q:Int) (a1:Option Addr) (n1 c1:Nat) (a2:Option Addr) (n2 c2:Nat) (a3:Option Addr) (n3 c3:Nat) (E:Int),lm = .pointer (some ⟨K,0,none⟩)∧lp = .int .i64 E∧w9.heap.size≤K∧wc.heap[K]?=some (.cells #[.int .i64 q,.slice a1 n1 c1,.slice a2 n2 c2,.slice a3 n3 c3] 63 (0,0))∧Hid (TRes n w.heap.size w9.heap.size Rt q a1 n1 c1 a2 n2 c2 a3 n3 c3 E wc)∧zB w9 wc)
   case first=>
    refine wp_region_held_drew (S:=fun U=>zB w9 U) (by kernel_rfl) hd (fun hHeld=>?_);refine zTk 0 rfl ac ?_
    try simp only[zE]
    refine zTk 1 rfl ac ?_
    try simp only[zE]
    refine zTk 2 rfl ac ?_
    try simp only[zE]
    refine zTk 3 rfl ac ?_
    try simp only[zE]
    refine zTk 4 rfl ac ?_
    try simp only[zE]
    refine zTk 5 rfl ac ?_
    try simp only[zE]
    refine zTk 6 rfl ac ?_
    try simp only[zE]
    refine rB (i:=7) (j:=11) rfl (fun K hK=>?_) rfl fun K hK=>?_
    ·skip;go_simp;refine(iu _ (by with_reducible first|exact hd|exact gc)).mono ?_;rintro e V3 ⟨q,a1,n1,c1,a2,n2,c2,a3,n3,c3,E,rfl,dw,hb3⟩;have hz3:=hb3.size;have ei:=zP hd hb3;refine hK.out _ _ ?_ (fun hHeld=>?_)
     ·exact nE
     clear hK K
     try simp only[zE]
     refine zTk 8 rfl ac ?_
     try simp only[zE]
     refine zTk 9 rfl ac ?_
     try simp only[zE]
     refine zTk 10 rfl ac ?_
     try simp only[zE]
     refine rA (i:=11) rfl fun K hK=>?_
     go_simp;have ma:zB w9 (V3.alloc (.cells #[.int .i64 0,.slice none 0 0,.slice none 0 0,.slice none 0 0] 63)):=zP ei ((zH _ _).alloc (zG _) _);have j5:zB w9 (V3.alloc (.cells #[.int .i64 q,.slice a1 n1 c1,.slice a2 n2 c2,.slice a3 n3 c3] 63)):=zP ei ((zH _ _).alloc (zG _) _);refine hK.out _ _ ?_ (fun hHeld=>?_)
     ·exact nE
     clear hK K
     try simp only[zE]
     refine rA (i:=12) rfl fun K hK=>?_
     go_simp;refine hK.out _ _ ?_ (fun hHeld=>?_)
     ·exact nE
     clear hK K
     try simp only[zE]
     refine zTk 13 rfl ac ?_
     try simp only[zE]
     refine wpAnyH_done (by kernel_rfl) ?_ _;go_wp2_with fail
     go_meet;refine⟨V3.heap.size,q,a1,n1,c1,a2,n2,c2,a3,n3,c3,E,rfl,rfl,ei.size,yM _ _,dw.out.fr (FrB.of_below ((zH _ _).alloc (zG _) _):FrB [] _ _) (fun k hk=>by simp at hk) (zG _),j5⟩
    skip;go_simp;refine hK.out _ _ ?_ (fun hHeld=>?_)
    ·exact nE
    clear hK K
    try simp only[zE]
    refine rA (i:=7) rfl fun K hK=>?_
    go_simp;refine(iu _ (by with_reducible first|exact hd|exact gc)).mono ?_;rintro e V3 ⟨q,a1,n1,c1,a2,n2,c2,a3,n3,c3,E,rfl,dw,hb3⟩;have hz3:=hb3.size;have ei:=zP gc hb3;have kT:=(hb3.block w9.heap.size (by show w9.heap.size<(w9.alloc _).heap.size;simp)).trans xA;obtain⟨nr,nv,nw,oc⟩:=wK kT;have tf:=zJ kT;have jy:zB w9 ((((V3.setCell ⟨w9.heap.size,0,none⟩ (.int .i64 q)).setCell ⟨w9.heap.size,1,none⟩ (.slice a1 n1 c1)).setCell ⟨w9.heap.size,2,none⟩ (.slice a2 n2 c2)).setCell ⟨w9.heap.size,3,none⟩ (.slice a3 n3 c3)):=zT (zT (zT (zT ei (zG _)) (zG _)) (zG _)) (zG _);refine hK.out _ _ ?_ (fun hHeld=>?_)
    ·exact nE
    clear hK K
    try simp only[zE]
    refine zTk 8 rfl ac ?_
    try simp only[zE]
    refine zTk 9 rfl ac ?_
    try simp only[zE]
    refine zTk 10 rfl ac ?_
    try simp only[zE]
    refine rA (i:=12) rfl fun K hK=>?_
    go_simp;refine hK.out _ _ ?_ (fun hHeld=>?_)
    ·exact nE
    clear hK K
    try simp only[zE]
    refine zTk 13 rfl ac ?_
    try simp only[zE]
    refine wpAnyH_done (by kernel_rfl) ?_ _;go_wp2_with fail
    go_meet;refine⟨w9.heap.size,q,a1,n1,c1,a2,n2,c2,a3,n3,c3,E,rfl,rfl,zG _,yO _ _ 3 _ _ _ (yO _ _ 2 _ _ _ (yO _ _ 1 _ _ _ (yO _ _ 0 _ _ _ kT))),dw.out.fr (fr4 kT) (fun k hk=>by rw[zS.1 hk];show w9.heap.size<(w9.alloc _).heap.size;simp) (by show w9.heap.size≤(w9.alloc _).heap.size;simp),jy⟩
   obtain⟨K,q,a1,n1,c1,a2,n2,c2,a3,n3,c3,E,rfl,rfl,mg,xK,dw,j9⟩:=hcut;have aj:=zP ah j9;have fj:=zP hbr aj;have nj:=aj.size;clear ac iu gc xA hd hzd;have jk:=(zN aj).trans k3;obtain⟨q0,q1⟩:=zO jk;have qf:=zJ jk;cases Rt with
   | error E'=>
    obtain⟨dp,dr⟩:=dw.out;subst dp;have eE:(E != 0)=true:=by simpa using dr
    have jx:(E==0)=false:=by simpa using dr
    have bl:Hid (R = .error E):=by
     show _=_;rw[dz.out,f6.out,wS,YY HN.out d9.out];rfl
    go_wp2_with fail
    refine bodyPost_ret (v:=.tuple #[.agg #[.slice none 0 0,.slice none 0 0],.int .i64 E]) (by simp[results,Tryz.results20,go_sem, *]) rfl ?_;rw[bl.out];exact⟨dr,rfl,zT (zT fj (by omega)) (by omega)⟩
   | ok v=>
   obtain⟨dp,y',d1,d2,d3,d4,d5,d6,d7,d8⟩:=dw.out;subst dp;have dg:Hid (TldOk x (av.length+1) v):=VH js.out (HG.out.num M HM.out x HX.out) aw.out.2.1 aw.out.2.2.1 d9.out;have jh:=qI HN.out;have dy:y'.nU=num:=by
    have h1:=dg.out.num;rw[←d5] at h1;exact(show y'.nU=x.nU from h1).trans jh
   obtain⟨Rw,ee⟩:=yP (tD g n M.fD x b v);have kp:=d1.symm.trans dy;subst kp;have dh:Calls Tryz.prog 46 #[.agg #[.slice am nm cm,.slice ae ne ce],.agg #[.string (S M.name),.slice (some ⟨bf,of,none⟩) nf cf,.slice ab nb cb],.agg #[.slice e0 f0 g0,.slice e1 f1 g1],.agg #[.int .i64 q,.slice a1 n1 c1,.slice a2 n2 c2,.slice a3 n3 c3]] wc fun e w'=>∃ (i0:Option Addr) (j0 l0:Nat) (i1:Option Addr) (j1 l1:Nat) (E:Int),e = .returned (.tuple #[.agg #[.slice i0 j0 l0,.slice i1 j1 l1],.int .i64 E])∧Hid (E1m n wc.heap.size e0 f0 g0 e1 f1 g1 b Rw i0 j0 l0 i1 j1 l1 E w')∧zB wr w':=by
    have ke:BRd n wr (.slice e0 f0 g0) (.slice e1 f1 g1) b:=by
     have h1:=OwnB.rd (show OwnB w.heap.size (n+1) wr cc from df.out.own);rw[show LB.pl (n+1) cc=b from df.out.pl,bg.out.1,bg.out.2.1] at h1;exact h1
    have ko:BQk (n+1) b:=⟨HST.out.qk,fun r hr=>by rw[show BO.unk b = [] from HST.out.unk] at hr;cases hr⟩
    have hst:=HST.out.w;have hr4:=aw.out.2.2.2;have ml:=dg.out.w;have ku:=hr4.1;have kv:=hr4.2;have hjb:jWB (n+1) b≤1000000000:=by
     show((BO.vals b).map (jW (jWB n))).sum+(BO.unk b).length≤_;rw[show BO.unk b = [] from HST.out.unk];simp only[rH];omega
    have fq:=(HI.out 0 (by have:=bE HM.out;omega)).fok M HM.out;have:=D6h (g:=g) (d:=n) (W0:=w) (u:=wr) (w:=wc) hbr aj (fun j hj=>(HI.out j hj).bL hbr) (nam:=M.name) (ab:=ab) (nb:=nb) (cb:=cb) (HF.out.bL FAt.sT hbr) fq.1 fq.2 ke (ZD (n+1) b ko hjb) d6 (fun k hk=>yN ix (d7 k hk)) d8 (by rw[d5];exact D7i dg.out.qk (by omega)) (x:=x) (fun hm hk ⟨u,hu⟩=>by
     rcases (i5.out hk).2 hm with h|h
     ·exact h
     ·exfalso;obtain⟨j,hj,r',kt,hn⟩:=bg.out.2.2.2 u (xL hu);have jg:=rN hu;simp only[isV,decide_eq_true_eq] at jg;exact h j hj r' kt (hn.trans (jg.trans dy))) (by rw[dy];exact HN.out) (by rw[d5];omega) (fun hm hk=>⟨HG.out.sub M HM.out x HX.out hk,fun v' hv' kx=>by
     rcases hv' with hv'|hv'
     ·exact HST.out.sh v' hv' x (by rw[kx,dy];exact HN.out) hm hk
     rw[hv',d5];exact dg.out.sh hk⟩)
    rw[dy,d2,d3,d4,d5,ee.out] at this;refine this.mono ?_;intro e w' ho;obtain⟨i0,j0,l0,i1,j1,l1,E,h1,h2⟩:=ho.2.open;exact⟨i0,j0,l0,i1,j1,l1,E,h1,h2,ho.1⟩
   have lf:=(zN aj).trans k0;have lg:=(zN aj).trans k1;have lw:=(zN aj).trans xO;obtain⟨m0,m1⟩:=zO lf;obtain⟨m2,m3,m4⟩:=uG lg;obtain⟨m5,m6⟩:=zO lw;obtain⟨m7,m8,m9,li⟩:=wK xK;clear d1 d2 d3 d4 d5 d6 d7 d8 jh dy;go_wp2_with fail
   refine dh.mono ?_;rintro e fz ⟨i0,j0,l0,i1,j1,l1,E,rfl,i9,bh⟩;have bk:=(zN bh).trans xO;have fy:=(zN bh).trans k3;have ky:=bh.size;clear m0 m1 m2 m3 m4 m5 m6 m7 m8 m9 li q0 q1 qf dh;obtain⟨m5,m6⟩:=zO bk;have mf:=zJ bk;obtain⟨q0,q1⟩:=zO fy;have qf:=zJ fy;have n1:¬ W6.heap.size=w.heap.size+3:=by have:=ag.size;omega
   have n2:¬ w.heap.size+3=W6.heap.size:=by have:=ag.size;omega
   have fe:=zP hbr bh;cases Rw with
   | error E'=>
    obtain⟨dp,dr⟩:=i9.out;subst dp;have eE:(E != 0)=true:=by simpa using dr
    have jx:(E==0)=false:=by simpa using dr
    have bl:Hid (R = .error E):=by
     show _=_;rw[dz.out,f6.out,wS,YX HN.out d9.out ee.out];rfl
    go_wp2_with fail
    refine bodyPost_ret (v:=.tuple #[.agg #[.slice none 0 0,.slice none 0 0],.int .i64 E]) (by simp[results,Tryz.results20,go_sem, *]) rfl ?_;rw[bl.out];exact⟨dr,rfl,zT (zT (zT (zT fe (by have:=ag.size;omega)) (by have:=ag.size;omega)) (by omega)) (by omega)⟩
   | ok b'=>
   obtain⟨dp,je⟩:=i9.out;subst dp;have f11:=fr2 bk (x0:=.slice i0 j0 l0) (x1:=.slice i1 j1 l1);have dt:=(hF.on bh).trans f11 (fun _ h=>h) (fun _ h=>.inl h);have iy:((fz.setCell ⟨W6.heap.size,0,none⟩ (.slice i0 j0 l0)).setCell ⟨W6.heap.size,1,none⟩ (.slice i1 j1 l1)).heap[W6.heap.size]?=some (.cells #[.slice i0 j0 l0,.slice i1 j1 l1] 29 (0,0)):=yO _ _ 1 _ _ _ (yO _ _ 0 _ _ _ bk);have gu:Hid (R=tN g rd M.fD ((rl.drop (i+1)).map Prod.fst) b' (ul.map Prod.fst)):=by
    show _=_;rw[dz.out,f6.out,wS,cH HN.out d9.out ee.out]
   have g7:Hid (RSt M.fD b' (2*rsW (rs.take (i+1)))):=by
    have h1:=VF (q:=av.length+1) (by rw[dg.out.num,qI HN.out];exact HN.out) HST.out dg.out (HG.out.sub M HM.out x HX.out) ee.out;have h2:=aw.out.2.2.2.1;have e:2*rsW (rs.take i)+2*(av.length+1)=2*rsW (rs.take (i+1)):=by omega
    rw[e] at h1;exact h1
   have fu:∀ k∈[W6.heap.size],k<W7.heap.size:=fun k hk=>by rw[zS.1 hk];omega
   have cj:=zI (df.out.fr (FrB.of_below bh:FrB [] wr fz) (fun k hk=>by simp at hk));obtain⟨dn,dm⟩:∃ dn:BL (LB n),Hid (DSt n w.heap.size W7.heap.size ((fz.setCell ⟨W6.heap.size,0,none⟩ (.slice i0 j0 l0)).setCell ⟨W6.heap.size,1,none⟩ (.slice i1 j1 l1)) dn b' (u0,u1,u2) ul∧dn.q0=(i0,j0,l0)∧dn.q1=(i1,j1,l1)):=by
    rcases je with⟨rfl,rfl,rfl,rfl,rfl,rfl,rfl⟩|⟨c',f9,ii,ij,ik⟩
    ·exact⟨cc,cj.out.fr f11 fu,bg.out.1,bg.out.2.1⟩
    have j7:=df.out.fr (FrB.of_below aj:FrB [] wr wc) (fun k hk=>by simp at hk);refine⟨c',(j7.new (by omega) (by have:=fj.size;omega) cj.out ij ii ik).fr f11 fu,?_,?_⟩
    ·have h1 : [PV.v (BL.q0 c'),PV.v (BL.q1 c')] = [.slice i0 j0 l0,.slice i1 j1 l1]:=f9;simp only[List.cons.injEq,and_true] at h1;exact D6y h1.1
    have h1 : [PV.v (BL.q0 c'),PV.v (BL.q1 c')] = [.slice i0 j0 l0,.slice i1 j1 l1]:=f9;simp only[List.cons.injEq,and_true] at h1;exact D6y h1.2
   have gj:Hid (dn.q0=(i0,j0,l0)∧dn.q1=(i1,j1,l1)∧ul.length≤i+1∧NumI rs (i+1) b'):=⟨dm.out.2.1,dm.out.2.2,by have:=bg.out.2.2.1;omega,bg.out.2.2.2.step eh.out (by rw[dg.out.num,qI HN.out];exact HN.out) (by rw[dg.out.num,qI HN.out,←gw.out]) ee.out⟩
   have gl:Hid _:=dm.out.1;clear je;go_wp2_with fail
   go_roundg (kr-(i+1))
   case measure=>omega
   case rel=>exact⟨i+1,b',dn,ul,i0,j0,l0,i1,j1,l1,u0,u1,u2,by omega,rfl,by go_simp,gu,g7,gl,gj,iy,dt⟩
  have kg:i=kr:=by omega
  have mj:¬ (i:Int)<(kr:Int):=by omega
  have bl:Hid (R = .ok (⟨b.vals,ul.map Prod.fst⟩:BO (BI n))):=by
   show _=_;have h1:=(show Row ekR w5 W4.heap.size (.slice ar kr cr) rl from cu.out.1).len;rw[dz.out,sF (by omega)];rfl
  obtain⟨p0,p1⟩:=zO xO;obtain⟨q0,q1⟩:=zO k3;have pf:=zJ xO;have qf:=zJ k3;have n1:¬ W6.heap.size=w.heap.size+3:=by have:=ag.size;omega
  have n2:¬ w.heap.size+3=W6.heap.size:=by have:=ag.size;omega
  clear bc bu ak kg;go_wp2_with fail
  refine bodyPost_ret (v:=.tuple #[.agg #[.slice e0 f0 g0,.slice u0 u1 u2],.int .i64 0]) (by simp[results,Tryz.results20,go_sem, *]) rfl ?_;have f1:FrB [W6.heap.size] wr (wr.setCell ⟨W6.heap.size,1,none⟩ (.slice u0 u1 u2)):=frD xO (by decide);have lh:(wr.setCell ⟨W6.heap.size,1,none⟩ (.slice u0 u1 u2)).heap[w.heap.size+3]?=some (.cells #[.slice none 0 0,.slice none 0 0] 29 (0,0)):=by rw[zZ _ _ _ _ (show w.heap.size+3≠W6.heap.size from n2)];exact k3
  have f2:=f1.trans (fr2 lh (x0:=.slice e0 f0 g0) (x1:=.slice u0 u1 u2)) (H:=[W6.heap.size,w.heap.size+3]) (fun i h=>by rw[zS.1 h];simp) (fun i h=>.inl (by rw[zS.1 h];simp));obtain⟨f9,ii,ij,ik⟩:=df.out.fin;rw[bl.out];refine⟨⟨cc.vals,ul,cc.q0,(u0,u1,u2)⟩,e0,f0,g0,u0,u1,u2,?_,rfl,ii,OwnB.fr (n+1) _ _ _ _ f9 f2 (fun k hk hm=>?_),ij,hbr.trans (f2.bL hbr.size (fun k hk=>?_))⟩
  ·show [cc.q0.v,PV.v (u0,u1,u2)]=_;rw[bg.out.1];rfl
  ·have h1:=ik k hk;have h2:=ag.size;simp only[yY,xP,or_false] at hm;omega
  have h2:=ag.size;simp only[yY,xP,or_false] at hk;omega
 have HT:Hid (R = .error di):=by
  show _=_;rw[←HR.out,YM HP.out (by have:=HE.out;omega),HE.out]
 have jn:=(ag.block (w.heap.size+3) (by omega)).trans x3;obtain⟨p0,p1⟩:=zO jn;have pf:=zJ jn;have n1:¬ w5.heap.size=w.heap.size+3:=by omega
 have n2:¬ w.heap.size+3=w5.heap.size:=by omega
 go_upto_region 5 with fail
 go_region
 all_goals
  go_wp2_with fail
  refine bodyPost_ret (v:=.tuple #[.agg #[.slice none 0 0,.slice none 0 0],.int .i64 di]) (by simp[results,Tryz.results20,go_sem, *]) rfl ?_;rw[HT.out];exact⟨hE0,rfl,(zT (zT im (by omega)) (by omega)).drew⟩
theorem C2w {g:GI}(hG:FGd g){N:Nat→MI→List UInt8→Prop}(ac:Hid (NjC g N)):∀ n,dK g N n
 | 0=>D0o g N
 | n+1=>D0n hG ac (C2w hG ac n)
end L
end Go.Proofs.YthcomdofaaeihaaGreatDoor
