import Derived.Test.YtgaoojpakjjdnaaGreatDoorV28
set_option maxHeartbeats 32000000
set_option maxRecDepth 100000
namespace Go.Proofs.YtgaoojpakjjdnaaGreatDoor
namespace L
open Go.RowKit
set_option linter.unusedVariables false
theorem D2k {p:PV}{a:Option Addr}{n c:Nat}(h:p.v = .slice a n c):p=(a,n,c):=by
 obtain⟨x,y,z⟩:=p
 simp only[PV.v,Value.slice.injEq] at h
 obtain⟨rfl,rfl,rfl⟩:=h
 rfl
theorem frD {c:Nat}{V:World}{i:Nat}{v:Value}{cs:Array Value}{t:TypeId}(hc:V.heap[c]?=some (.cells cs t (0,0))) (ht:t≠5):FrB [c] V (V.setCell ⟨c,i,none⟩ v):=
 ⟨rfl,rfl,rfl,by simp,fun k hk h=>by
  rcases h with h|⟨cs',fr,h⟩
  ·exact Below.heap_setCell _ _ _ _ (fun e=>h (List.mem_singleton.2 e))
  ·refine Below.heap_setCell _ _ _ _ (fun e=>?_)
   rw[show k=c from e,hc] at h
   simp only[Option.some.injEq,Obj.cells.injEq] at h
   exact ht h.2.1⟩
theorem C6r (g:GI):B2l g 0:=by
 intro w am nm cm ae ne ce af nf cf ab nb cb M ao k c l D hD ac hI hM hf hl
 show Calls Tryz.prog 21 _ w fun e w'=>(10:Int)≠0∧e = .returned (.tuple #[.agg #[.slice none 0 0,.slice none 0 0],.int .i64 10])∧Below w.heap.size w w'
 have ag:D=13:=by omega
 subst ag
 have hb:Below w.heap.size w ((((w.alloc (.cells #[.slice am nm cm,.slice ae ne ce] 25)).alloc (.cells #[.string (S M.name),.slice af nf cf,.slice ab nb cb] 38)).alloc (.cells #[.int .i64 13] 3)).alloc (.cells #[.slice none 0 0,.slice none 0 0] 29)):=((((Below.refl _ _).alloc (Nat.le_refl _) _).alloc (by simp) _).alloc (by simp;omega) _).alloc (by simp;omega) _
 clear hI hM hf hl hD ac
 go_enter Tryz.func21,Tryz.ntmps21
 go_wp2_with fail
 refine bodyPost_ret (v:=.tuple #[.agg #[.slice none 0 0,.slice none 0 0],.int .i64 10]) (by simp[results,Tryz.results21,go_sem, *]) rfl ?_
 exact⟨by decide,rfl,hb⟩
theorem C6q {g:GI}(hG:FGd g) (HS:Hid (∀ M∈g.msgs,∀ x∈M.fields,x.many=false→x.kind=10→A8v g x)){n:Nat}(ih:B2l g n):B2l g (n+1):=by
 intro w am nm cm ae ne ce af nf cf ab nb cb M ao k c l D hD il hI hM hf hl
 obtain⟨W4,gi⟩:∃ W4,Hid (W4=(((w.alloc (.cells #[.slice am nm cm,.slice ae ne ce] 25)).alloc (.cells #[.string (S M.name),.slice af nf cf,.slice ab nb cb] 38)).alloc (.cells #[.int .i64 D] 3)).alloc (.cells #[.slice none 0 0,.slice none 0 0] 29)):=⟨_,rfl⟩
 obtain⟨x0,x1,x2,x3,z0⟩:=B9i w (.cells #[.slice am nm cm,.slice ae ne ce] 25) (.cells #[.string (S M.name),.slice af nf cf,.slice ab nb cb] 38) (.cells #[.int .i64 D] 3) (.cells #[.slice none 0 0,.slice none 0 0] 29)
 rw[←gi.out] at x0 x1 x2 x3 z0
 have hb4:Below w.heap.size w W4:=by rw[gi.out];exact((((Below.refl _ _).alloc (Nat.le_refl _) _).alloc (by simp) _).alloc (by simp;omega) _).alloc (by simp;omega) _
 have kv:w.heap.size+4≤W4.heap.size:=Nat.le_of_eq z0.symm
 clear z0
 have kj:¬ 12 < D:=by omega
 have hDn:D+(n:Int)=12:=by omega
 obtain⟨rs,E,A,hp⟩:∃ rs E A,A2r l=(rs,E,A):=⟨_,_,_,rfl⟩
 obtain⟨R,HR⟩:∃ R,Hid (A4u g (n+1) M l=R):=⟨_,rfl⟩
 have bw:=D0r (D2m (hl.below YAt.stays hb4)) hp
 obtain⟨cg,HE⟩:∃ cg:Int,Hid ((E:Int)=cg):=⟨_,rfl⟩
 have bw:Calls Tryz.prog 45 #[.slice ao k c] W4 fun e w'=>∃ (rl:List (RI×PV)) (ar:Option Addr) (kr cr:Nat),e = .returned (.tuple #[.slice ar kr cr,.agg #[.int .i64 cg,.int .i64 (A:Int)]])∧Hid (Row ekR w' W4.heap.size (.slice ar kr cr) rl∧(∀ r∈rl,Row ekY w' W4.heap.size r.2.v r.1.bytes)∧rl.map Prod.fst=rs.map B3a)∧Below W4.heap.size W4 w':=bw.mono fun e w' ⟨v',ps,h1,h2,h3,h4⟩=>by
  obtain⟨rl,g1,g2,g3⟩:=D0y h2
  obtain⟨ar,kr,cr,rfl,_⟩:=g1.shape'
  rw[HE.out] at h1
  rw[h3] at g3
  exact⟨rl,ar,kr,cr,h1,⟨g1,g2,g3⟩,h4⟩
 show Calls Tryz.prog 21 _ w fun e w'=>DOut (n+1) w (A4u g (n+1) M l) e w'
 rw[HR.out]
 have HI:Hid _:=hI
 have HF:Hid (RdL 6 FAt w (.slice af nf cf) M.fields):=hf
 have HM:Hid (M∈g.msgs):=hM
 have i6:Hid (B2l g n):=ih
 have HP:Hid (A2r l=(rs,E,A)):=hp
 have iz:Hid (1≤D):=il
 have HDn:Hid (D+(n:Int)=12):=hDn
 have HG:Hid (FGd g):=hG
 obtain⟨y0,y1⟩:=A0t x0
 obtain⟨y2,y3,y4⟩:=A4s x1
 have y5:=A0a x2 0 _ rfl
 clear hI hf hM ih hp hl hD il hDn hG
 go_enter Tryz.func21,Tryz.ntmps21
 go_upto_region 3 with fail
 rw[←gi.out]
 go_wp2_with fail
 refine bw.mono ?_
 rintro e w5 ⟨rl,ar,kr,cr,rfl,bv,im⟩
 obtain⟨W6,fo⟩:∃ W6,Hid (W6=w5.alloc (.cells #[.int .i64 cg,.int .i64 (A:Int)] 50)):=⟨_,rfl⟩
 have ee:Below w5.heap.size w5 W6:=by rw[fo.out];exact(Below.refl _ _).alloc (Nat.le_refl _) _
 have x6:W6.heap[w5.heap.size]?=some (.cells #[.int .i64 cg,.int .i64 (A:Int)] 50 (0,0)):=by rw[fo.out];exact heap_alloc_new _ _
 have kz:w5.heap.size+1≤W6.heap.size:=by rw[fo.out];simp
 have ag:Below W4.heap.size W4 W6:=BTr im ee
 have gy:Below w.heap.size w W6:=BTr hb4 ag
 have kx:=im.size
 clear y0 y1 y2 y3 y4 y5
 go_upto_region 4 with fail
 rw[←fo.out]
 obtain⟨t0,t1⟩:=A0t x6
 by_cases hE0:cg=0
 ·have hE:E=0:=by have:=HE.out;omega
  subst hE
  subst hE0
  obtain⟨ie,hw2,hw3⟩:=C0a HP.out
  obtain⟨W7,dx⟩:∃ W7,Hid (W7=W6.alloc (.cells #[.slice none 0 0,.slice none 0 0] 29)):=⟨_,rfl⟩
  have ei:Below W6.heap.size W6 W7:=by rw[dx.out];exact(Below.refl _ _).alloc (Nat.le_refl _) _
  have x7:W7.heap[W6.heap.size]?=some (.cells #[.slice none 0 0,.slice none 0 0] 29 (0,0)):=by rw[dx.out];exact heap_alloc_new _ _
  have k9:W6.heap.size+1≤W7.heap.size:=by rw[dx.out];simp
  have jw:W7.heap.size≤W6.heap.size+1:=by rw[dx.out];simp
  have d9:Below W4.heap.size W4 W7:=BTr ag ei
  have eo:Below w.heap.size w W7:=BTr hb4 d9
  have eh:Below w5.heap.size w5 W7:=BTr ee ei
  have ij:Hid (kr=rs.length):=by
   show _=_
   have h1:kr=rl.length:=(show Row ekR w5 W4.heap.size (.slice ar kr cr) rl from bv.out.1).len
   have h2:=congrArg List.length bv.out.2.2
   simp only[List.length_map] at h2
   omega
  have jt:kr≤4000:=by
   have:=ij.out
   have:=A4t (fun r:Rcd=>r.bytes.length+1) (fun _=>by omega) rs
   unfold rsW at ie
   omega
  obtain⟨rd,gl⟩:∃ rd:List UInt8→List UInt8→Except Int (BI n),Hid (rd=fun t l=>A4u g n (msgD g t) l):=⟨_,rfl⟩
  have i7:Hid (D4v rd):=by show D4v rd;rw[gl.out];exact D3z HG.out n
  have ja:Hid (R=A1l g rd M.fields (rl.map Prod.fst) ⟨[],[]⟩ []):=by
   show _=_
   rw[←HR.out,B4t HP.out,bv.out.2.2,gl.out]
  have au:∀ V,FrB [W6.heap.size] W7 V→(V.heap[w.heap.size]?=some (.cells #[.slice am nm cm,.slice ae ne ce] 25 (0,0))∧V.heap[w.heap.size+1]?=some (.cells #[.string (S M.name),.slice af nf cf,.slice ab nb cb] 38 (0,0))∧V.heap[w.heap.size+2]?=some (.cells #[.int .i64 D] 3 (0,0))∧V.heap[w.heap.size+3]?=some (.cells #[.slice none 0 0,.slice none 0 0] 29 (0,0)))∧Hid (Row ekR V w.heap.size (.slice ar kr cr) rl∧∀ r∈rl,Row ekY V w.heap.size r.2.v r.1.bytes)∧Below w.heap.size w V:=fun V hV=>by
   have hk:∀ i,i≤3→V.heap[w.heap.size+i]?=W4.heap[w.heap.size+i]?:=fun i hi=>(hV.blk (by omega) (by simp;omega)).trans (d9.block _ (by omega))
   have hlt:∀ j,(PV.v (ar,kr,cr)).ownBlock=some j→j < w5.heap.size:=fun j hj=>(World.ownsRow.lt bv.out.1 j hj).2
   refine⟨⟨(hk 0 (by omega)).trans x0,(hk 1 (by omega)).trans x1,(hk 2 (by omega)).trans x2,(hk 3 (by omega)).trans x3⟩,⟨?_,fun r hr=>?_⟩,eo.trans (hV.below eo.size (fun k hk=>by rw[List.mem_singleton] at hk;omega))⟩
   ·exact Row.frB (p:=(ar,kr,cr)) ((bv.out.1.below eh).mono (by omega)) hV (fun j hj hm=>by
     have:=hlt j (A8j.1 hj)
     rw[List.mem_singleton] at hm
     omega)
   ·exact(((bv.out.2.1 r hr).below eh).mono (by omega)).frY hV
  have bp:∀ U,FrB [W6.heap.size] W7 U→∀ x∈M.fields,x.kind=10→DDeep n U 46 #[.pointer (some ⟨w.heap.size,0,none⟩),.pointer (some ⟨w.heap.size+2,0,none⟩)] x.type (rd x.type):=fun U hU x hx hk=>by
   obtain⟨⟨k0,k1,k2,k3⟩,_,fw⟩:=au U hU
   obtain⟨N,hN⟩:=HG.out.sub M HM.out x hx hk
   rw[gl.out]
   exact C6o i6.out (fun j hj=>(HI.out j hj).below fw) k0 HDn.out iz.out k2 hN
  have bc:∀ U,FrB [W6.heap.size] W7 U→∀ x∈M.fields,∀ (r:RI) (ay:Option Addr) (ny cy:Nat),Row ekY U w.heap.size (.slice ay ny cy) r.bytes→r.bytes.length≤4000→r.bits≤18446744073709551615→Calls Tryz.prog 47 #[.agg #[.string (S x.name),.int .i64 x.number,.int .i64 x.kind,.string (S x.type),.bool x.many,.int .i64 x.choice],.agg #[.int .i64 r.number,.int .i64 r.how,.int .u64 (r.bits:Int),.slice ay ny cy],.func (.func 46) #[] #[.pointer (some ⟨w.heap.size,0,none⟩),.pointer (some ⟨w.heap.size+2,0,none⟩)]] U fun e w'=>∃ (q:Int) (a1:Option Addr) (n1 c1:Nat) (a2:Option Addr) (n2 c2:Nat) (a3:Option Addr) (n3 c3:Nat) (E:Int),e = .returned (.tuple #[.agg #[.int .i64 q,.slice a1 n1 c1,.slice a2 n2 c2,.slice a3 n3 c3],.int .i64 E])∧Hid (TRes n w.heap.size U.heap.size (A3o rd x r) q a1 n1 c1 a2 n2 c2 a3 n3 c3 E w')∧Below U.heap.size U w':=fun U hU x hx r ay ny cy hr hl hb=>by
   obtain⟨_,_,fw⟩:=au U hU
   obtain⟨j,hj⟩:=List.mem_iff_getElem?.1 HM.out
   have:=D1m (B:=w.heap.size) fw.size x r hr hl hb ((HI.out j (List.getElem?_eq_some_iff.1 hj).1).below fw).tabs (enters_of Tryz.func46 (by kernel_rfl) rfl) (rd:=rd) (fun hk=>bp U hU x hx hk)
   refine this.mono ?_
   intro e w' ho
   obtain⟨q,a1,n1,c1,a2,n2,c2,a3,n3,c3,E,h1,h2,h3⟩:=ho.open
   exact⟨q,a1,n1,c1,a2,n2,c2,a3,n3,c3,E,h1,h2,h3⟩
  have f6:Hid (DSt n w.heap.size W7.heap.size W7 ⟨[],[],(none,0,0),(none,0,0)⟩ ⟨[],[]⟩ (none,0,0) []):=DSt.nil _ _ _ _
  have jc:Hid (∀ r∈rs,C1a r):=hw2
  have jb:Hid (rsW rs≤4000):=Nat.le_trans ie hw3
  clear bw ie hw2 hw3
  go_wp2_with fail
  rw[←dx.out]
  go_loopg [14,37] kr (fun gm j7 ke wr=>∃ (i:Nat) (b:BO (BI n)) (cc:BL (LB n)) (ul:List (RI×PV)) (e0:Option Addr) (f0 g0:Nat) (e1:Option Addr) (f1 g1:Nat) (u0:Option Addr) (u1 u2:Nat),i+gm=kr∧j7 = .slice u0 u1 u2∧ke = .int .i64 (i:Int)∧Hid (R=A1l g rd M.fields ((rl.drop i).map Prod.fst) b (ul.map Prod.fst))∧Hid (RSt M.fields b (2*rsW (rs.take i)))∧Hid (DSt n w.heap.size W7.heap.size wr cc b (u0,u1,u2) ul)∧Hid (cc.q0=(e0,f0,g0)∧cc.q1=(e1,f1,g1)∧ul.length≤i)∧wr.heap[W6.heap.size]?=some (.cells #[.slice e0 f0 g0,.slice e1 f1 g1] 29 (0,0))∧FrB [W6.heap.size] W7 wr)
  case atStart=>exact⟨0,⟨[],[]⟩,⟨[],[],(none,0,0),(none,0,0)⟩,[],none,0,0,none,0,0,none,0,0,by omega,rfl,rfl,ja,⟨rfl,fun v hv=>(List.not_mem_nil hv).elim,fun v hv=>(List.not_mem_nil hv).elim,by simp⟩,f6,⟨rfl,rfl,Nat.zero_le _⟩,x7,FrB.refl _ _⟩
  case round=>
   obtain⟨i,b,cc,ul,e0,f0,g0,e1,f1,g1,u0,u1,u2,hi,rfl,rfl,dv,HST,cj,bt,xO,hF⟩:=hrel
   obtain⟨⟨k0,k1,k2,k3⟩,HK,hbr⟩:=au wr hF
   have lg:=hF.size
   by_cases hlt:i < kr
   ·obtain⟨p,Hp⟩:∃ p,Hid (rl[i]?=some p):=by
     have h1:kr=rl.length:=(show Row ekR w5 W4.heap.size (.slice ar kr cr) rl from bv.out.1).len
     exact⟨rl[i]'(by omega),List.getElem?_eq_getElem _⟩
    obtain⟨rc,gj⟩:∃ rc,Hid (rs[i]?=some rc):=⟨rs[i]'(by have:=ij.out;omega),List.getElem?_eq_getElem _⟩
    have iq:p.1=B3a rc:=by
     have h1:=congrArg (fun l=>l[i]?) bv.out.2.2
     simp only[List.getElem?_map,Hp.out,gj.out,Option.map_some,Option.some.injEq] at h1
     exact h1
    have ba:=jc.out rc (List.mem_of_getElem? gj.out)
    have a8:Hid (C1b p.1∧p.1.bytes.length≤4000∧p.1.bits≤18446744073709551615∧rsW (rs.take (i+1))=rsW (rs.take i)+(p.1.bytes.length+1)∧rsW (rs.take (i+1))≤4000):=by
     have e1:rsW (rs.take (i+1))=rsW (rs.take i)+(rc.bytes.length+1):=by
      rw[List.take_add_one,gj.out,B8u]
      rfl
     have e2:rsW rs=rsW (rs.take (i+1))+rsW (rs.drop (i+1)):=by rw[←B8u,List.take_append_drop]
     have e3:=jb.out
     rw[iq]
     exact⟨D2o ba,ba.2,ba.1.2.2.2.2,e1,by omega⟩
    obtain⟨gR,rfl,eu⟩:=(HK.out.1).get Hp.out
    obtain⟨⟨num,how,ah,aw⟩,⟨ay,ny,cy⟩⟩:=p
    have HY:Hid (Row ekY wr w.heap.size (.slice ay ny cy) aw):=HK.out.2 _ (List.mem_of_getElem? Hp.out)
    have c0:wr.cell? ⟨gR,i*4,none⟩=some (.int .i64 num):=eu 0 _ rfl
    have c1:wr.cell? ⟨gR,i*4+1,none⟩=some (.int .i64 how):=eu 1 _ rfl
    have c2:wr.cell? ⟨gR,i*4+2,none⟩=some (.int .u64 (ah:Int)):=eu 2 _ rfl
    have c3:wr.cell? ⟨gR,i*4+3,none⟩=some (.slice ay ny cy):=eu 3 _ rfl
    have jo:(i:Int) < (kr:Int):=by omega
    have fj:Hid (rl.drop i=((⟨num,how,ah,aw⟩,(ay,ny,cy)):RI×PV)::rl.drop (i+1)):=by
     show _=_
     obtain⟨h1,h2⟩:=List.getElem?_eq_some_iff.1 Hp.out
     rw[List.drop_eq_getElem_cons h1,h2]
    obtain⟨W8,dy⟩:∃ W8,Hid (W8=wr.alloc (.cells #[.int .i64 num,.int .i64 how,.int .u64 (ah:Int),.slice ay ny cy] 106)):=⟨_,rfl⟩
    have fu:Below wr.heap.size wr W8:=by rw[dy.out];exact(Below.refl _ _).alloc (Nat.le_refl _) _
    have x8:W8.heap[wr.heap.size]?=some (.cells #[.int .i64 num,.int .i64 how,.int .u64 (ah:Int),.slice ay ny cy] 106 (0,0)):=by rw[dy.out];exact heap_alloc_new _ _
    have ld:wr.heap.size+1≤W8.heap.size:=by rw[dy.out];simp
    have bq:=A2w (HF.out.below FAt.stays (BTr hbr fu)) ⟨ab,nb,cb,rfl⟩ ⟨M.name,rfl⟩ num
    obtain⟨m0,m1,m2⟩:=A4s ((fu.block _ (by omega)).trans k1)
    obtain⟨r0,r1,r2,r3⟩:=A3m x8
    clear eu iq ba bp
    rcases A2z (fun f:FI=>decide (f.number=num)) M.fields with⟨hq1,hq2⟩|⟨kf,x,hq1,hq2,hq3,hq4⟩
    ·rw[hq1] at bq
     have HN:Hid (M.fields.find? (isF num)=none):=hq2
     clear hq1 hq2 bc
     go_upto_region 12 with fail
     rw[←dy.out]
     go_wp2_with fail
     refine bq.mono ?_
     rintro e w9 ⟨rfl,dn⟩
     have aj:Below wr.heap.size wr w9:=BTr fu dn
     have x9:=(dn.block _ (by omega)).trans x8
     have jx:=dn.size
     clear m0 m1 m2 r0 r1 r2 r3 c0 c1 c2 c3
     obtain⟨r0,r1,r2,r3⟩:=A3m x9
     obtain⟨bl,dg⟩:∃ bl,Hid (bl=w9.alloc (.cells #[.int .i64 num,.int .i64 how,.int .u64 (ah:Int),.slice ay ny cy] 106)):=⟨_,rfl⟩
     have gw:Below w9.heap.size w9 bl:=by rw[dg.out];exact(Below.refl _ _).alloc (Nat.le_refl _) _
     have ix:bl.heap[w9.heap.size]?=some (.cells #[.int .i64 num,.int .i64 how,.int .u64 (ah:Int),.slice ay ny cy] 106 (0,0)):=by rw[dg.out];exact heap_alloc_new _ _
     have bn:Below wr.heap.size wr bl:=BTr aj gw
     have fe:=bn.size
     have cw:Hid (DSt n w.heap.size W7.heap.size bl cc b (u0,u1,u2) ul):=cj.out.fr (FrB.of_below bn:FrB [] wr bl) (fun k hk=>by simp at hk)
     have hrow:Row ekR bl w.heap.size (.slice u0 u1 u2) ul:=cw.out.ur
     have g8:∀ ad,(some ⟨w9.heap.size,0,none⟩:Option Addr)=some ad→∀ k y,[((⟨num,how,ah,aw⟩,(ay,ny,cy)):RI×PV)][k]?=some y→∀ j u,(ekR.enc y)[j]?=some u→bl.cell? (ad.add (k*ekR.size+j))=some u:=A7n ix rfl
     have hlen:(ul.length + [((⟨num,how,ah,aw⟩,(ay,ny,cy)):RI×PV)].length)*ekR.bytes≤140737488355328:=by
      have:=bt.out.2.2
      show(ul.length+1)*48≤_
      omega
     have jg:w.heap.size≤bl.heap.size:=Nat.le_trans hbr.size fe
     clear ix x9
     go_wp2_with (at_builtin;rw[←dg.out];refine A1k rfl ekR _ _ rfl w.heap.size _ ul [((⟨num,how,ah,aw⟩,(ay,ny,cy)):RI×PV)] rfl hrow (some ⟨w9.heap.size,0,none⟩) 1 1 rfl rfl (fun h=>by cases h) g8 (show 1≤48 by omega) hlen jg ?_)
     intro v4 br hr4 hg4 hk4
     obtain⟨a4,n4,c4,rfl,ki⟩:=hr4.shape'
     have io:FrB (own1 (u0,u1,u2)) bl br:=cw.out.app_fr hg4
     have bu:Hid (DSt n w.heap.size W7.heap.size br cc b (a4,n4,c4) (ul++[(⟨num,how,ah,aw⟩,(ay,ny,cy))])):=cw.out.app (by omega) hg4 hr4 hk4 (HY.out.below bn)
     have bh:br.heap[W6.heap.size]?=some (.cells #[.slice e0 f0 g0,.slice e1 f1 g1] 29 (0,0)):=(io.blk (by omega) (fun h=>by have:=(cj.out.ulo _ h).1;omega)).trans ((bn.block _ (by omega)).trans xO)
     have dm:FrB [W6.heap.size] W7 br:=(hF.on bn).trans io (fun _ h=>h) (fun k h=>.inr (cj.out.ulo k h).1)
     have f9:Hid (R=A1l g rd M.fields ((rl.drop (i+1)).map Prod.fst) b ((ul++[((⟨num,how,ah,aw⟩,(ay,ny,cy)):RI×PV)]).map Prod.fst)):=by
      show _=_
      rw[dv.out,fj.out,List.map_cons,A7k HN.out,List.map_append]
      rfl
     have gg:Hid (RSt M.fields b (2*rsW (rs.take (i+1)))):=⟨HST.out.unk,HST.out.qk,HST.out.sh,by have:=HST.out.w;have:=a8.out.2.2.2.1;omega⟩
     have fx:Hid (cc.q0=(e0,f0,g0)∧cc.q1=(e1,f1,g1)∧(ul++[((⟨num,how,ah,aw⟩,(ay,ny,cy)):RI×PV)]).length≤i+1):=⟨bt.out.1,bt.out.2.1,by have:=bt.out.2.2;simp;omega⟩
     go_wp2_with fail
     go_roundg (kr - (i+1))
     case measure=>omega
     case rel=>exact⟨i+1,b,cc,ul++[(⟨num,how,ah,aw⟩,(ay,ny,cy))],e0,f0,g0,e1,f1,g1,a4,n4,c4,by omega,rfl,by go_simp,f9,gg,bu,fx,bh,dm⟩
    ·rw[hq1] at bq
     have HN:Hid (M.fields.find? (isF num)=some x):=hq3
     obtain⟨bf,of,rfl,g7⟩:=HF.out.get FAt.plain hq2
     have HX:Hid (x∈M.fields):=List.mem_of_getElem? hq2
     have ko:(kf:Int) < (nf:Int):=by have:=(List.getElem?_eq_some_iff.1 hq2).1;have:=HF.out.len.1;omega
     have jn:¬ (kf:Int) < 0:=by omega
     obtain⟨y0,y1,y2,y3,y4,y5⟩:=g7
     rw[A0d] at y1 y2 y3 y4 y5
     clear hq1 hq2 hq3 hq4
     go_upto_region 12 with fail
     rw[←dy.out]
     go_wp2_with fail
     refine bq.mono ?_
     rintro e w9 ⟨rfl,dn⟩
     have aj:Below wr.heap.size wr w9:=BTr fu dn
     have x9:=(dn.block _ (by omega)).trans x8
     have jx:=dn.size
     have ig:=aj.size
     have gz:Below w.heap.size w w9:=BTr hbr aj
     have ji:FrB [W6.heap.size] W7 w9:=hF.on aj
     clear m0 m1 m2 r0 r1 r2 r3 c0 c1 c2 c3 bq
     have iu:=(aj.block _ (by omega)).trans k1
     have ac:∀ V,Below w9.heap.size w9 V→V.cell? ⟨w.heap.size+1,1,none⟩=some (.slice (some ⟨bf,of,none⟩) nf cf)∧(V.cell? ⟨wr.heap.size,0,none⟩=some (.int .i64 num)∧V.cell? ⟨wr.heap.size,1,none⟩=some (.int .i64 how)∧V.cell? ⟨wr.heap.size,2,none⟩=some (.int .u64 (ah:Int))∧V.cell? ⟨wr.heap.size,3,none⟩=some (.slice ay ny cy))∧V.cell? ⟨bf,of+kf*6,none⟩=some (.string (S x.name))∧V.cell? ⟨bf,of+kf*6+1,none⟩=some (.int .i64 x.number)∧V.cell? ⟨bf,of+kf*6+2,none⟩=some (.int .i64 x.kind)∧V.cell? ⟨bf,of+kf*6+3,none⟩=some (.string (S x.type))∧V.cell? ⟨bf,of+kf*6+4,none⟩=some (.bool x.many)∧V.cell? ⟨bf,of+kf*6+5,none⟩=some (.int .i64 x.choice):=fun V hV=>by
      have dt:=BTr gz hV
      exact⟨A0a ((hV.block _ (by omega)).trans iu) 1 _ rfl,A3m ((hV.block _ (by omega)).trans x9),A0c dt y0,A0c dt y1,A0c dt y2,A0c dt y3,A0c dt y4,A0c dt y5⟩
     obtain⟨Rt,dw⟩:∃ Rt,Hid (A3o rd x (⟨num,how,ah,aw⟩:RI)=Rt):=⟨_,rfl⟩
     have g9:∀ V,Below w9.heap.size w9 V→Calls Tryz.prog 47 #[.agg #[.string (S x.name),.int .i64 x.number,.int .i64 x.kind,.string (S x.type),.bool x.many,.int .i64 x.choice],.agg #[.int .i64 num,.int .i64 how,.int .u64 (ah:Int),.slice ay ny cy],.func (.func 46) #[] #[.pointer (some ⟨w.heap.size,0,none⟩),.pointer (some ⟨w.heap.size+2,0,none⟩)]] V fun e w'=>∃ (q:Int) (a1:Option Addr) (n1 c1:Nat) (a2:Option Addr) (n2 c2:Nat) (a3:Option Addr) (n3 c3:Nat) (E:Int),e = .returned (.tuple #[.agg #[.int .i64 q,.slice a1 n1 c1,.slice a2 n2 c2,.slice a3 n3 c3],.int .i64 E])∧Hid (TRes n w.heap.size V.heap.size Rt q a1 n1 c1 a2 n2 c2 a3 n3 c3 E w')∧Below V.heap.size V w':=fun V hV=>by
      have:=bc V (ji.on hV) x HX.out (⟨num,how,ah,aw⟩:RI) ay ny cy (HY.out.below (BTr aj hV)) a8.out.2.1 a8.out.2.2.1
      rw[dw.out] at this
      exact this
     have hd:Below w9.heap.size w9 w9.drew:=(Below.refl _ _).drew
     have hzd:w9.drew.heap.size=w9.heap.size:=rfl
     have ft:Below w9.heap.size w9 (w9.alloc (.cells #[.int .i64 0,.slice none 0 0,.slice none 0 0,.slice none 0 0] 62)).drew:=((Below.refl _ _).alloc (Nat.le_refl _) _).drew
     have xA:(w9.alloc (.cells #[.int .i64 0,.slice none 0 0,.slice none 0 0,.slice none 0 0] 62)).drew.heap[w9.heap.size]?=some (.cells #[.int .i64 0,.slice none 0 0,.slice none 0 0,.slice none 0 0] 62 (0,0)):=heap_alloc_new _ _
     clear bc au y0 y1 y2 y3 y4 y5 iu x9
     go_upto_region 15 with fail
     go_cut [18,19] from 51 to 61 (fun j8 j9 wc=>∃ (K:Nat) (q:Int) (a1:Option Addr) (n1 c1:Nat) (a2:Option Addr) (n2 c2:Nat) (a3:Option Addr) (n3 c3:Nat) (E:Int),j8 = .pointer (some ⟨K,0,none⟩)∧j9 = .int .i64 E∧w9.heap.size≤K∧wc.heap[K]?=some (.cells #[.int .i64 q,.slice a1 n1 c1,.slice a2 n2 c2,.slice a3 n3 c3] 62 (0,0))∧Hid (TRes n w.heap.size w9.heap.size Rt q a1 n1 c1 a2 n2 c2 a3 n3 c3 E wc)∧Below w9.heap.size w9 wc)
     case first=>
      refine wp_region_held_drew (S:=fun U=>Below w9.heap.size w9 U) (by kernel_rfl) hd (fun hHeld=>?_)
      refine tK (i:=0) (v:=?vr1) rfl ⟨by rfl,?hyr1⟩ ?_
      case hyr1=>(intro W h;have:=ac W h;go_simp;first|done|with_reducible rfl)
      try simp only[pT,Act.put]
      refine tK (i:=1) (v:=?vr2) rfl ⟨by rfl,?hyr2⟩ ?_
      case hyr2=>(intro W h;have:=ac W h;go_simp;first|done|with_reducible rfl)
      try simp only[pT,Act.put]
      refine tK (i:=2) (v:=?vr3) rfl ⟨by rfl,?hyr3⟩ ?_
      case hyr3=>(intro W h;have:=ac W h;go_simp;first|done|with_reducible rfl)
      try simp only[pT,Act.put]
      refine tK (i:=3) (v:=?vr4) rfl ⟨by rfl,?hyr4⟩ ?_
      case hyr4=>(intro W h;have:=ac W h;go_simp;first|done|with_reducible rfl)
      try simp only[pT,Act.put]
      refine tK (i:=4) (v:=?vr5) rfl ⟨by rfl,?hyr5⟩ ?_
      case hyr5=>(intro W h;have:=ac W h;go_simp;first|done|with_reducible rfl)
      try simp only[pT,Act.put]
      refine tK (i:=5) (v:=?vr6) rfl ⟨by rfl,?hyr6⟩ ?_
      case hyr6=>(intro W h;have:=ac W h;go_simp;first|done|with_reducible rfl)
      try simp only[pT,Act.put]
      refine tK (i:=6) (v:=?vr7) rfl ⟨by rfl,?hyr7⟩ ?_
      case hyr7=>(intro W h;have:=ac W h;go_simp;first|done|with_reducible rfl)
      try simp only[pT,Act.put]
      refine rB (i:=7) (j:=11) rfl (fun K hK=>?_) rfl fun K hK=>?_
      ·skip
       go_simp
       refine(g9 _ (by with_reducible first|exact hd|exact ft)).mono ?_
       rintro e V3 ⟨q,a1,n1,c1,a2,n2,c2,a3,n3,c3,E,rfl,dr,hb3⟩
       have hz3:=hb3.size
       have dz:=BTr hd hb3
       refine hK.out _ _ ?_ (fun hHeld=>?_)
       ·(try dsimp only);with_reducible assumption
       clear hK K
       try simp only[pT,Act.put]
       refine tK (i:=8) (v:=?vr8) rfl ⟨by rfl,?hyr8⟩ ?_
       case hyr8=>(intro W h;have:=ac W h;go_simp;first|done|with_reducible rfl)
       try simp only[pT,Act.put]
       refine tK (i:=9) (v:=?vr9) rfl ⟨by rfl,?hyr9⟩ ?_
       case hyr9=>(intro W h;have:=ac W h;go_simp;first|done|with_reducible rfl)
       try simp only[pT,Act.put]
       refine tK (i:=10) (v:=?vr10) rfl ⟨by rfl,?hyr10⟩ ?_
       case hyr10=>(intro W h;have:=ac W h;go_simp;first|done|with_reducible rfl)
       try simp only[pT,Act.put]
       refine rA (i:=11) rfl fun K hK=>?_
       go_simp
       have km:Below w9.heap.size w9 (V3.alloc (.cells #[.int .i64 0,.slice none 0 0,.slice none 0 0,.slice none 0 0] 62)):=BTr dz ((Below.refl _ _).alloc (Nat.le_refl _) _)
       have jf:Below w9.heap.size w9 (V3.alloc (.cells #[.int .i64 q,.slice a1 n1 c1,.slice a2 n2 c2,.slice a3 n3 c3] 62)):=BTr dz ((Below.refl _ _).alloc (Nat.le_refl _) _)
       refine hK.out _ _ ?_ (fun hHeld=>?_)
       ·(try dsimp only);with_reducible assumption
       clear hK K
       try simp only[pT,Act.put]
       refine rA (i:=12) rfl fun K hK=>?_
       go_simp
       refine hK.out _ _ ?_ (fun hHeld=>?_)
       ·(try dsimp only);with_reducible assumption
       clear hK K
       try simp only[pT,Act.put]
       refine tK (i:=13) (v:=?vr11) rfl ⟨by rfl,?hyr11⟩ ?_
       case hyr11=>(intro W h;have:=ac W h;go_simp;first|done|with_reducible rfl)
       try simp only[pT,Act.put]
       refine wpAnyH_done (by kernel_rfl) ?_ _
       go_wp2_with fail
       go_meet
       refine⟨V3.heap.size,q,a1,n1,c1,a2,n2,c2,a3,n3,c3,E,rfl,rfl,dz.size,heap_alloc_new _ _,dr.out.fr (FrB.of_below ((Below.refl _ _).alloc (Nat.le_refl _) _):FrB [] _ _) (fun k hk=>by simp at hk) (Nat.le_refl _),jf⟩
      ·skip
       go_simp
       refine hK.out _ _ ?_ (fun hHeld=>?_)
       ·(try dsimp only);with_reducible assumption
       clear hK K
       try simp only[pT,Act.put]
       refine rA (i:=7) rfl fun K hK=>?_
       go_simp
       refine(g9 _ (by with_reducible first|exact hd|exact ft)).mono ?_
       rintro e V3 ⟨q,a1,n1,c1,a2,n2,c2,a3,n3,c3,E,rfl,dr,hb3⟩
       have hz3:=hb3.size
       have dz:=BTr ft hb3
       have kT:=(hb3.block w9.heap.size (by show w9.heap.size < (w9.alloc _).heap.size;simp)).trans xA
       obtain⟨lh,lj,ln,lp⟩:=A3m kT
       have tf:=A0b kT
       have je:Below w9.heap.size w9 ((((V3.setCell ⟨w9.heap.size,0,none⟩ (.int .i64 q)).setCell ⟨w9.heap.size,1,none⟩ (.slice a1 n1 c1)).setCell ⟨w9.heap.size,2,none⟩ (.slice a2 n2 c2)).setCell ⟨w9.heap.size,3,none⟩ (.slice a3 n3 c3)):=KB_set (KB_set (KB_set (KB_set dz (Nat.le_refl _)) (Nat.le_refl _)) (Nat.le_refl _)) (Nat.le_refl _)
       refine hK.out _ _ ?_ (fun hHeld=>?_)
       ·(try dsimp only);with_reducible assumption
       clear hK K
       try simp only[pT,Act.put]
       refine tK (i:=8) (v:=?vr12) rfl ⟨by rfl,?hyr12⟩ ?_
       case hyr12=>(intro W h;have:=ac W h;go_simp;first|done|with_reducible rfl)
       try simp only[pT,Act.put]
       refine tK (i:=9) (v:=?vr13) rfl ⟨by rfl,?hyr13⟩ ?_
       case hyr13=>(intro W h;have:=ac W h;go_simp;first|done|with_reducible rfl)
       try simp only[pT,Act.put]
       refine tK (i:=10) (v:=?vr14) rfl ⟨by rfl,?hyr14⟩ ?_
       case hyr14=>(intro W h;have:=ac W h;go_simp;first|done|with_reducible rfl)
       try simp only[pT,Act.put]
       refine rA (i:=12) rfl fun K hK=>?_
       go_simp
       refine hK.out _ _ ?_ (fun hHeld=>?_)
       ·(try dsimp only);with_reducible assumption
       clear hK K
       try simp only[pT,Act.put]
       refine tK (i:=13) (v:=?vr15) rfl ⟨by rfl,?hyr15⟩ ?_
       case hyr15=>(intro W h;have:=ac W h;go_simp;first|done|with_reducible rfl)
       try simp only[pT,Act.put]
       refine wpAnyH_done (by kernel_rfl) ?_ _
       go_wp2_with fail
       go_meet
       refine⟨w9.heap.size,q,a1,n1,c1,a2,n2,c2,a3,n3,c3,E,rfl,rfl,Nat.le_refl _,heap_setCell_same _ _ 3 _ _ _ (heap_setCell_same _ _ 2 _ _ _ (heap_setCell_same _ _ 1 _ _ _ (heap_setCell_same _ _ 0 _ _ _ kT))),dr.out.fr (fr4 kT) (fun k hk=>by rw[List.mem_singleton.1 hk];show w9.heap.size < (w9.alloc _).heap.size;simp) (by show w9.heap.size≤(w9.alloc _).heap.size;simp),je⟩
     case rest=>
      obtain⟨K,q,a1,n1,c1,a2,n2,c2,a3,n3,c3,E,rfl,rfl,kn,xK,dr,jk⟩:=hcut
      have ak:Below wr.heap.size wr wc:=BTr aj jk
      have et:Below w.heap.size w wc:=BTr hbr ak
      have lf:=ak.size
      clear ac g9 ft xA hd hzd
      have iw:=(ak.block _ (by omega)).trans k3
      obtain⟨q0,q1⟩:=A0t iw
      have qf:=A0b iw
      cases Rt with
      | error E'=>
       obtain⟨di,dl⟩:=dr.out
       subst di
       have eE:(E != 0)=true:=by simpa using dl
       have jd:(E == 0)=false:=by simpa using dl
       have bk:Hid (R = .error E):=by
        show _=_
        rw[dv.out,fj.out,List.map_cons,B1n HN.out dw.out]
        rfl
       go_wp2_with fail
       refine bodyPost_ret (v:=.tuple #[.agg #[.slice none 0 0,.slice none 0 0],.int .i64 E]) (by simp[results,Tryz.results21,go_sem, *]) rfl ?_
       rw[bk.out]
       exact⟨dl,rfl,KB_set (KB_set et (by omega)) (by omega)⟩
      | ok v=>
       obtain⟨di,y',d1,d2,d3,d4,d5,d6,d7,d8⟩:=dr.out
       subst di
       have dp:Hid (TldOk x (aw.length+1) v):=C7q i7.out (HG.out.num M HM.out x HX.out) a8.out.2.1 a8.out.2.2.1 dw.out
       have ir:x.number=num:=A4o HN.out
       have fd:y'.number=num:=by
        have h1:=dp.out.num
        rw[←d5] at h1
        exact(show y'.number=x.number from h1).trans ir
       obtain⟨Rw,fk⟩:∃ Rw,Hid (A1w g n M.fields x b v=Rw):=⟨_,rfl⟩
       have jq:q=num:=d1.symm.trans fd
       subst jq
       have cu:Calls Tryz.prog 48 #[.agg #[.slice am nm cm,.slice ae ne ce],.agg #[.string (S M.name),.slice (some ⟨bf,of,none⟩) nf cf,.slice ab nb cb],.agg #[.slice e0 f0 g0,.slice e1 f1 g1],.agg #[.int .i64 q,.slice a1 n1 c1,.slice a2 n2 c2,.slice a3 n3 c3]] wc fun e w'=>∃ (i0:Option Addr) (j0 l0:Nat) (i1:Option Addr) (j1 l1:Nat) (E:Int),e = .returned (.tuple #[.agg #[.slice i0 j0 l0,.slice i1 j1 l1],.int .i64 E])∧Hid (D6y n wc.heap.size e0 f0 g0 e1 f1 g1 b Rw i0 j0 l0 i1 j1 l1 E w')∧Below wr.heap.size wr w':=by
        have jl:BRd n wr (.slice e0 f0 g0) (.slice e1 f1 g1) b:=by
         have h1:=OwnB.rd (show OwnB w.heap.size (n+1) wr cc from cj.out.own)
         rw[show LB.pl (n+1) cc=b from cj.out.pl,bt.out.1,bt.out.2.1] at h1
         exact h1
        have jp:BQk (n+1) b:=⟨HST.out.qk,fun r hr=>by rw[show BO.unk b = [] from HST.out.unk] at hr;cases hr⟩
        have hst:=HST.out.w
        have hr4:=a8.out.2.2.2
        have ku:=dp.out.w
        have jr:rsW (rs.take (i+1))=rsW (rs.take i)+(aw.length+1):=hr4.1
        have js:=hr4.2
        have hjb:jWB (n+1) b≤1000000000:=by
         show((BO.vals b).map (jW (jWB n))).sum+(BO.unk b).length≤_
         rw[show BO.unk b = [] from HST.out.unk]
         simp only[List.length_nil]
         omega
        have ew:=(HI.out 0 (by have:=List.length_pos_of_mem HM.out;omega)).fok M HM.out
        have:=D1t (g:=g) (d:=n) (W0:=w) (u:=wr) (w:=wc) hbr ak (fun j hj=>(HI.out j hj).below hbr) (nam:=M.name) (ab:=ab) (nb:=nb) (cb:=cb) (HF.out.below FAt.stays hbr) ew.1 ew.2 jl (D3q (n+1) b jp hjb) d6 (fun k hk=>Nat.le_trans ig (d7 k hk)) d8 (by rw[d5];exact D2r dp.out.qk (by omega)) (x:=x) (fun hm hk=>HS.out M HM.out x (List.mem_of_find?_eq_some HN.out) hm hk) (by rw[fd];exact HN.out) (by rw[d5];omega) (fun hm hk=>⟨HG.out.sub M HM.out x HX.out hk,fun v' hv' ju=>by
         rcases hv' with hv'|hv'
         ·exact HST.out.sh v' hv' x (by rw[ju,fd];exact HN.out) hm hk
         ·rw[hv',d5]
          exact dp.out.sh hk⟩)
        rw[fd,d2,d3,d4,d5,fk.out] at this
        refine this.mono ?_
        intro e w' ho
        obtain⟨i0,j0,l0,i1,j1,l1,E,h1,h2⟩:=ho.2.open
        exact⟨i0,j0,l0,i1,j1,l1,E,h1,h2,ho.1⟩
       have jy:=(ak.block _ (by omega)).trans k0
       have jz:=(ak.block _ (by omega)).trans k1
       have kg:=(ak.block _ (by omega)).trans xO
       obtain⟨m0,m1⟩:=A0t jy
       obtain⟨m2,m3,m4⟩:=A4s jz
       obtain⟨m5,m6⟩:=A0t kg
       obtain⟨m7,m8,m9,j6⟩:=A3m xK
       clear d1 d2 d3 d4 d5 d6 d7 d8 ir fd
       go_wp2_with fail
       refine cu.mono ?_
       rintro e br ⟨i0,j0,l0,i1,j1,l1,E,rfl,ik,bg⟩
       have bh:=(bg.block _ (by omega)).trans xO
       have fh:=(bg.block _ (by omega)).trans k3
       have jv:=bg.size
       clear m0 m1 m2 m3 m4 m5 m6 m7 m8 m9 j6 q0 q1 qf cu
       obtain⟨m5,m6⟩:=A0t bh
       have mf:=A0b bh
       obtain⟨q0,q1⟩:=A0t fh
       have qf:=A0b fh
       have n1:¬ W6.heap.size=w.heap.size+3:=by have:=ag.size;omega
       have n2:¬ w.heap.size+3=W6.heap.size:=by have:=ag.size;omega
       have ej:Below w.heap.size w br:=BTr hbr bg
       cases Rw with
       | error E'=>
        obtain⟨di,dl⟩:=ik.out
        subst di
        have eE:(E != 0)=true:=by simpa using dl
        have jd:(E == 0)=false:=by simpa using dl
        have bk:Hid (R = .error E):=by
         show _=_
         rw[dv.out,fj.out,List.map_cons,A5q HN.out dw.out fk.out]
         rfl
        go_wp2_with fail
        refine bodyPost_ret (v:=.tuple #[.agg #[.slice none 0 0,.slice none 0 0],.int .i64 E]) (by simp[results,Tryz.results21,go_sem, *]) rfl ?_
        rw[bk.out]
        exact⟨dl,rfl,KB_set (KB_set (KB_set (KB_set ej (by have:=ag.size;omega)) (by have:=ag.size;omega)) (by omega)) (by omega)⟩
       | ok b'=>
        obtain⟨di,ip⟩:=ik.out
        subst di
        have f11:=fr2 bh (x0:=.slice i0 j0 l0) (x1:=.slice i1 j1 l1)
        have dm:FrB [W6.heap.size] W7 ((br.setCell ⟨W6.heap.size,0,none⟩ (.slice i0 j0 l0)).setCell ⟨W6.heap.size,1,none⟩ (.slice i1 j1 l1)):=(hF.on bg).trans f11 (fun _ h=>h) (fun _ h=>.inl h)
        have ii:((br.setCell ⟨W6.heap.size,0,none⟩ (.slice i0 j0 l0)).setCell ⟨W6.heap.size,1,none⟩ (.slice i1 j1 l1)).heap[W6.heap.size]?=some (.cells #[.slice i0 j0 l0,.slice i1 j1 l1] 29 (0,0)):=heap_setCell_same _ _ 1 _ _ _ (heap_setCell_same _ _ 0 _ _ _ bh)
        have gc:Hid (R=A1l g rd M.fields ((rl.drop (i+1)).map Prod.fst) b' (ul.map Prod.fst)):=by
         show _=_
         rw[dv.out,fj.out,List.map_cons,A8l HN.out dw.out fk.out]
        have gh:Hid (RSt M.fields b' (2*rsW (rs.take (i+1)))):=by
         have h1:=C8g (q:=aw.length+1) (by rw[dp.out.num,A4o HN.out];exact HN.out) HST.out dp.out (HG.out.sub M HM.out x HX.out) fk.out
         have h2:rsW (rs.take (i+1))=rsW (rs.take i)+(aw.length+1):=a8.out.2.2.2.1
         have e:2*rsW (rs.take i)+2*(aw.length+1)=2*rsW (rs.take (i+1)):=by omega
         rw[e] at h1
         exact h1
        have fc:∀ k∈[W6.heap.size],k < W7.heap.size:=fun k hk=>by rw[List.mem_singleton.1 hk];omega
        have bu:Hid (DSt n w.heap.size W7.heap.size br cc b (u0,u1,u2) ul):=cj.out.fr (FrB.of_below bg:FrB [] wr br) (fun k hk=>by simp at hk)
        obtain⟨dh,df⟩:∃ dh:BL (LB n),Hid (DSt n w.heap.size W7.heap.size ((br.setCell ⟨W6.heap.size,0,none⟩ (.slice i0 j0 l0)).setCell ⟨W6.heap.size,1,none⟩ (.slice i1 j1 l1)) dh b' (u0,u1,u2) ul∧dh.q0=(i0,j0,l0)∧dh.q1=(i1,j1,l1)):=by
         rcases ip with⟨rfl,rfl,rfl,rfl,rfl,rfl,rfl⟩|⟨c',fq,gp,gq,gu⟩
         ·exact⟨cc,bu.out.fr f11 fc,bt.out.1,bt.out.2.1⟩
         ·have jh:DSt n w.heap.size W7.heap.size wc cc b (u0,u1,u2) ul:=cj.out.fr (FrB.of_below ak:FrB [] wr wc) (fun k hk=>by simp at hk)
          refine⟨c',(jh.new (by omega) (by have:=et.size;omega) bu.out gq gp gu).fr f11 fc,?_,?_⟩
          ·have h1 : [PV.v (BL.q0 c'),PV.v (BL.q1 c')] = [.slice i0 j0 l0,.slice i1 j1 l1]:=fq
           simp only[List.cons.injEq,and_true] at h1
           exact D2k h1.1
          ·have h1 : [PV.v (BL.q0 c'),PV.v (BL.q1 c')] = [.slice i0 j0 l0,.slice i1 j1 l1]:=fq
           simp only[List.cons.injEq,and_true] at h1
           exact D2k h1.2
        have fy:Hid (dh.q0=(i0,j0,l0)∧dh.q1=(i1,j1,l1)∧ul.length≤i+1):=⟨df.out.2.1,df.out.2.2,by have:=bt.out.2.2;omega⟩
        have fz:Hid _:=df.out.1
        clear ip
        go_wp2_with fail
        go_roundg (kr - (i+1))
        case measure=>omega
        case rel=>exact⟨i+1,b',dh,ul,i0,j0,l0,i1,j1,l1,u0,u1,u2,by omega,rfl,by go_simp,gc,gh,fz,fy,ii,dm⟩
   ·have jm:i=kr:=by omega
    have kt:¬ (i:Int) < (kr:Int):=by omega
    have bk:Hid (R = .ok (⟨b.vals,ul.map Prod.fst⟩:BO (BI n))):=by
     show _=_
     have h1:kr=rl.length:=(show Row ekR w5 W4.heap.size (.slice ar kr cr) rl from bv.out.1).len
     rw[dv.out,List.drop_eq_nil_of_le (by omega)]
     rfl
    obtain⟨p0,p1⟩:=A0t xO
    obtain⟨q0,q1⟩:=A0t k3
    have pf:=A0b xO
    have qf:=A0b k3
    have n1:¬ W6.heap.size=w.heap.size+3:=by have:=ag.size;omega
    have n2:¬ w.heap.size+3=W6.heap.size:=by have:=ag.size;omega
    clear bc bp au jm
    go_wp2_with fail
    refine bodyPost_ret (v:=.tuple #[.agg #[.slice e0 f0 g0,.slice u0 u1 u2],.int .i64 0]) (by simp[results,Tryz.results21,go_sem, *]) rfl ?_
    have f1:FrB [W6.heap.size] wr (wr.setCell ⟨W6.heap.size,1,none⟩ (.slice u0 u1 u2)):=frD xO (by decide)
    have j5:(wr.setCell ⟨W6.heap.size,1,none⟩ (.slice u0 u1 u2)).heap[w.heap.size+3]?=some (.cells #[.slice none 0 0,.slice none 0 0] 29 (0,0)):=by rw[Below.heap_setCell _ _ _ _ (show w.heap.size+3≠W6.heap.size from n2)];exact k3
    have f2:=f1.trans (fr2 j5 (x0:=.slice e0 f0 g0) (x1:=.slice u0 u1 u2)) (H:=[W6.heap.size,w.heap.size+3]) (fun i h=>by rw[List.mem_singleton.1 h];simp) (fun i h=>.inl (by rw[List.mem_singleton.1 h];simp))
    obtain⟨fq,gp,gq,gu⟩:=cj.out.fin
    rw[bk.out]
    refine⟨⟨cc.vals,ul,cc.q0,(u0,u1,u2)⟩,e0,f0,g0,u0,u1,u2,?_,rfl,gp,OwnB.fr (n+1) _ _ _ _ fq f2 (fun k hk hm=>?_),gq,hbr.trans (f2.below hbr.size (fun k hk=>?_))⟩
    ·show [cc.q0.v,PV.v (u0,u1,u2)]=_
     rw[bt.out.1]
     rfl
    ·have h1:=gu k hk
     have h2:=ag.size
     simp only[List.mem_cons,List.not_mem_nil,or_false] at hm
     omega
    ·have h2:=ag.size
     simp only[List.mem_cons,List.not_mem_nil,or_false] at hk
     omega
 ·have HT:Hid (R = .error cg):=by
   show _=_
   rw[←HR.out,B6w HP.out (by have:=HE.out;omega),HE.out]
  have iy:=(ag.block (w.heap.size+3) (by omega)).trans x3
  obtain⟨p0,p1⟩:=A0t iy
  have pf:=A0b iy
  have n1:¬ w5.heap.size=w.heap.size+3:=by omega
  have n2:¬ w.heap.size+3=w5.heap.size:=by omega
  go_upto_region 5 with fail
  go_region
  all_goals
   go_wp2_with fail
   refine bodyPost_ret (v:=.tuple #[.agg #[.slice none 0 0,.slice none 0 0],.int .i64 cg]) (by simp[results,Tryz.results21,go_sem, *]) rfl ?_
   rw[HT.out]
   exact⟨hE0,rfl,(KB_set (KB_set gy (by omega)) (by omega)).drew⟩
theorem C0g {g:GI}(hG:FGd g) (HS:Hid (∀ M∈g.msgs,∀ x∈M.fields,x.many=false→x.kind=10→A8v g x)):∀ n,B2l g n
 | 0=>C6r g
 | n+1=>C6q hG HS (C0g hG HS n)
end L
end Go.Proofs.YtgaoojpakjjdnaaGreatDoor
