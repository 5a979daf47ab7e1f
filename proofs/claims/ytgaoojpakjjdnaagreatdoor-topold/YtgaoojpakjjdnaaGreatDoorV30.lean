import Derived.Test.YtgaoojpakjjdnaaGreatDoorV29
set_option maxHeartbeats 32000000
set_option maxRecDepth 100000
set_option linter.unusedVariables false
namespace Go.Proofs.YtgaoojpakjjdnaaGreatDoor
namespace L
open Go.RowKit
theorem D4y {p:PV}{a:Option Addr}{n c:Nat}(h:p.v = .slice a n c):p=(a,n,c):=by
 obtain⟨x,y,z⟩:=p
 simp only[PV.v,Value.slice.injEq] at h
 obtain⟨rfl,rfl,rfl⟩:=h
 rfl
theorem frD {c:Nat}{V:World}{i:Nat}{v:Value}{cs:Array Value}{t:TypeId}(hc:V.heap[c]?=some (.cells cs t (0,0)))(ht:t≠5):FrB [c] V (V.setCell ⟨c,i,none⟩ v):=
 ⟨rfl,rfl,rfl,by simp,fun k hk h=>by
  rcases h with h|⟨cs',fr,h⟩
  ·exact Below.heap_setCell _ _ _ _ (fun e=>h (List.mem_singleton.2 e))
  ·refine Below.heap_setCell _ _ _ _ (fun e=>?_)
   rw[show k=c from e,hc] at h
   simp only[Option.some.injEq,Obj.cells.injEq] at h
   exact ht h.2.1⟩
theorem C9f (g:GI)(N:Nat→MI→List UInt8→Prop):B4f g N 0:=by
 intro w am nm cm ae ne ce af nf cf ab nb cb M ao k c l D hD ac hI hM hf hl ah
 show Calls Tryz.prog 21 _ w fun e w'=>(10:Int)≠0∧e = .returned (.tuple #[.agg #[.slice none 0 0,.slice none 0 0],.int .i64 10])∧Below w.heap.size w w'
 have ag:D=13:=by omega
 subst ag
 have hb:Below w.heap.size w ((((w.alloc (.cells #[.slice am nm cm,.slice ae ne ce] 25)).alloc (.cells #[.string (S M.name),.slice af nf cf,.slice ab nb cb] 38)).alloc (.cells #[.int .i64 13] 3)).alloc (.cells #[.slice none 0 0,.slice none 0 0] 29)):=((((Below.refl _ _).alloc (Nat.le_refl _) _).alloc (by simp) _).alloc (by simp;omega) _).alloc (by simp;omega) _
 clear hI hM hf hl hD ac ah
 go_enter Tryz.func21,Tryz.ntmps21
 go_wp2_with fail
 refine bodyPost_ret (v:=.tuple #[.agg #[.slice none 0 0,.slice none 0 0],.int .i64 10]) (by simp[results,Tryz.results21,go_sem, *]) rfl ?_
 exact⟨by decide,rfl,hb⟩
theorem C9e {g:GI}(hG:FGd g){N:Nat→MI→List UInt8→Prop}(jf:Hid (NjC g N)){n:Nat}(ih:B4f g N n):B4f g N (n+1):=by
 intro w am nm cm ae ne ce af nf cf ab nb cb M ao k c l D hD ir hI hM hf hl iu
 have jg:Hid (N (n+1) M l):=iu
 clear iu
 obtain⟨W4,gq⟩:∃ W4,Hid (W4=(((w.alloc (.cells #[.slice am nm cm,.slice ae ne ce] 25)).alloc (.cells #[.string (S M.name),.slice af nf cf,.slice ab nb cb] 38)).alloc (.cells #[.int .i64 D] 3)).alloc (.cells #[.slice none 0 0,.slice none 0 0] 29)):=⟨_,rfl⟩
 obtain⟨x0,x1,x2,x3,z0⟩:=C1r w (.cells #[.slice am nm cm,.slice ae ne ce] 25) (.cells #[.string (S M.name),.slice af nf cf,.slice ab nb cb] 38) (.cells #[.int .i64 D] 3) (.cells #[.slice none 0 0,.slice none 0 0] 29)
 rw[←gq.out] at x0 x1 x2 x3 z0
 have hb4:Below w.heap.size w W4:=by rw[gq.out];exact((((Below.refl _ _).alloc (Nat.le_refl _) _).alloc (by simp) _).alloc (by simp;omega) _).alloc (by simp;omega) _
 have li:w.heap.size+4≤W4.heap.size:=Nat.le_of_eq z0.symm
 clear z0
 have kz:¬ 12<D:=by omega
 have hDn:D+(n:Int)=12:=by omega
 obtain⟨rs,E,A,hp⟩:∃ rs E A,A2b l=(rs,E,A):=⟨_,_,_,rfl⟩
 obtain⟨R,HR⟩:∃ R,Hid (A3t g (n+1) M l=R):=⟨_,rfl⟩
 have cj:=D3d (D5a (hl.below YAt.stays hb4)) hp
 obtain⟨cu,HE⟩:∃ cu:Int,Hid ((E:Int)=cu):=⟨_,rfl⟩
 have cj:Calls Tryz.prog 45 #[.slice ao k c] W4 fun e w'=>∃ (rl:List (RI×PV)) (ar:Option Addr) (kr cr:Nat),e = .returned (.tuple #[.slice ar kr cr,.agg #[.int .i64 cu,.int .i64 (A:Int)]])∧Hid (Row ekR w' W4.heap.size (.slice ar kr cr) rl∧(∀ r∈rl,Row ekY w' W4.heap.size r.2.v r.1.bytes)∧rl.map Prod.fst=rs.map A6e)∧Below W4.heap.size W4 w':=cj.mono fun e w' ⟨v',ps,h1,h2,h3,h4⟩=>by
  obtain⟨rl,g1,g2,g3⟩:=D3i h2
  obtain⟨ar,kr,cr,rfl,_⟩:=g1.shape'
  rw[HE.out] at h1
  rw[h3] at g3
  exact⟨rl,ar,kr,cr,h1,⟨g1,g2,g3⟩,h4⟩
 show Calls Tryz.prog 21 _ w fun e w'=>DOut (n+1) w (A3t g (n+1) M l) e w'
 rw[HR.out]
 have HI:Hid _:=hI
 have HF:Hid (RdL 6 FAt w (.slice af nf cf) M.fields):=hf
 have HM:Hid (M∈g.msgs):=hM
 have je:Hid (B4f g N n):=ih
 have HP:Hid (A2b l=(rs,E,A)):=hp
 have jd:Hid (1≤D):=ir
 have HDn:Hid (D+(n:Int)=12):=hDn
 have HG:Hid (FGd g):=hG
 obtain⟨y0,y1⟩:=A0y x0
 obtain⟨y2,y3,y4⟩:=A4p x1
 have y5:=A0a x2 0 _ rfl
 clear hI hf hM ih hp hl hD ir hDn hG
 go_enter Tryz.func21,Tryz.ntmps21
 go_upto_region 3 with fail
 rw[←gq.out]
 go_wp2_with fail
 refine cj.mono ?_
 rintro e w5 ⟨rl,ar,kr,cr,rfl,cg,iw⟩
 obtain⟨W6,fu⟩:∃ W6,Hid (W6=w5.alloc (.cells #[.int .i64 cu,.int .i64 (A:Int)] 50)):=⟨_,rfl⟩
 have et:Below w5.heap.size w5 W6:=by rw[fu.out];exact(Below.refl _ _).alloc (Nat.le_refl _) _
 have x6:W6.heap[w5.heap.size]?=some (.cells #[.int .i64 cu,.int .i64 (A:Int)] 50 (0,0)):=by rw[fu.out];exact heap_alloc_new _ _
 have lp:w5.heap.size+1≤W6.heap.size:=by rw[fu.out];simp
 have ag:Below W4.heap.size W4 W6:=BTr iw et
 have g8:Below w.heap.size w W6:=BTr hb4 ag
 have lj:=iw.size
 clear y0 y1 y2 y3 y4 y5
 go_upto_region 4 with fail
 rw[←fu.out]
 obtain⟨t0,t1⟩:=A0y x6
 by_cases hE0:cu=0
 ·have hE:E=0:=by have:=HE.out;omega
  subst hE
  subst hE0
  obtain⟨ik,hw2,hw3⟩:=B6o HP.out
  obtain⟨W7,ee⟩:∃ W7,Hid (W7=W6.alloc (.cells #[.slice none 0 0,.slice none 0 0] 29)):=⟨_,rfl⟩
  have ew:Below W6.heap.size W6 W7:=by rw[ee.out];exact(Below.refl _ _).alloc (Nat.le_refl _) _
  have x7:W7.heap[W6.heap.size]?=some (.cells #[.slice none 0 0,.slice none 0 0] 29 (0,0)):=by rw[ee.out];exact heap_alloc_new _ _
  have lq:W6.heap.size+1≤W7.heap.size:=by rw[ee.out];simp
  have ke:W7.heap.size≤W6.heap.size+1:=by rw[ee.out];simp
  have eo:Below W4.heap.size W4 W7:=BTr ag ew
  have fd:Below w.heap.size w W7:=BTr hb4 eo
  have eu:Below w5.heap.size w5 W7:=BTr et ew
  have io:Hid (kr=rs.length):=by
   show _=_
   have h1:kr=rl.length:=(show Row ekR w5 W4.heap.size (.slice ar kr cr) rl from cg.out.1).len
   have h2:=congrArg List.length cg.out.2.2
   simp only[List.length_map] at h2
   omega
  have j7:kr≤4000:=by
   have:=io.out
   have:=A5n (fun r:Rcd=>r.bytes.length+1) (fun _=>by omega) rs
   unfold rsW at ik
   omega
  obtain⟨rd,gu⟩:∃ rd:List UInt8→List UInt8→Except Int (BI n),Hid (rd=fun t l=>A3t g n (msgD g t) l):=⟨_,rfl⟩
  have jh:Hid (D7d rd):=by show D7d rd;rw[gu.out];exact D6i HG.out n
  have ji:Hid (R=A1f g rd M.fields (rl.map Prod.fst) ⟨[],[]⟩ []):=by
   show _=_
   rw[←HR.out,B1v HP.out,cg.out.2.2,gu.out]
  have aw:∀ V,FrB [W6.heap.size] W7 V→(V.heap[w.heap.size]?=some (.cells #[.slice am nm cm,.slice ae ne ce] 25 (0,0))∧V.heap[w.heap.size+1]?=some (.cells #[.string (S M.name),.slice af nf cf,.slice ab nb cb] 38 (0,0))∧V.heap[w.heap.size+2]?=some (.cells #[.int .i64 D] 3 (0,0))∧V.heap[w.heap.size+3]?=some (.cells #[.slice none 0 0,.slice none 0 0] 29 (0,0)))∧Hid (Row ekR V w.heap.size (.slice ar kr cr) rl∧∀ r∈rl,Row ekY V w.heap.size r.2.v r.1.bytes)∧Below w.heap.size w V:=fun V hV=>by
   have hk:∀ i,i≤3→V.heap[w.heap.size+i]?=W4.heap[w.heap.size+i]?:=fun i hi=>(hV.blk (by omega) (by simp;omega)).trans (eo.block _ (by omega))
   have hlt:∀ j,(PV.v (ar,kr,cr)).ownBlock=some j→j<w5.heap.size:=fun j hj=>(World.ownsRow.lt cg.out.1 j hj).2
   refine⟨⟨(hk 0 (by omega)).trans x0,(hk 1 (by omega)).trans x1,(hk 2 (by omega)).trans x2,(hk 3 (by omega)).trans x3⟩,⟨?_,fun r hr=>?_⟩,fd.trans (hV.below fd.size (fun k hk=>by rw[List.mem_singleton] at hk;omega))⟩
   ·exact Row.frB (p:=(ar,kr,cr)) ((cg.out.1.below eu).mono (by omega)) hV (fun j hj hm=>by
     have:=hlt j (A9r.1 hj)
     rw[List.mem_singleton] at hm
     omega)
   ·exact(((cg.out.2.1 r hr).below eu).mono (by omega)).frY hV
  have bt:∀ U,FrB [W6.heap.size] W7 U→∀ x∈M.fields,x.kind=10→DDeep n U 46 #[.pointer (some ⟨w.heap.size,0,none⟩),.pointer (some ⟨w.heap.size+2,0,none⟩)] x.type (rd x.type) (fun l=>N n (msgD g x.type) l):=fun U hU x hx hk=>by
   obtain⟨⟨k0,k1,k2,k3⟩,_,fz⟩:=aw U hU
   obtain⟨N,hN⟩:=HG.out.sub M HM.out x hx hk
   rw[gu.out]
   exact C9d je.out (fun j hj=>(HI.out j hj).below fz) k0 HDn.out jd.out k2 hN
  have bg:∀ U,FrB [W6.heap.size] W7 U→∀ x∈M.fields,∀ (r:RI) (ay:Option Addr) (ny cy:Nat),Row ekY U w.heap.size (.slice ay ny cy) r.bytes→r.bytes.length≤4000→r.bits≤18446744073709551615→(x.kind=10→N n (msgD g x.type) r.bytes)→Calls Tryz.prog 47 #[.agg #[.string (S x.name),.int .i64 x.number,.int .i64 x.kind,.string (S x.type),.bool x.many,.int .i64 x.choice],.agg #[.int .i64 r.number,.int .i64 r.how,.int .u64 (r.bits:Int),.slice ay ny cy],.func (.func 46) #[] #[.pointer (some ⟨w.heap.size,0,none⟩),.pointer (some ⟨w.heap.size+2,0,none⟩)]] U fun e w'=>∃ (q:Int) (a1:Option Addr) (n1 c1:Nat) (a2:Option Addr) (n2 c2:Nat) (a3:Option Addr) (n3 c3:Nat) (E:Int),e = .returned (.tuple #[.agg #[.int .i64 q,.slice a1 n1 c1,.slice a2 n2 c2,.slice a3 n3 c3],.int .i64 E])∧Hid (TRes n w.heap.size U.heap.size (A3q rd x r) q a1 n1 c1 a2 n2 c2 a3 n3 c3 E w')∧Below U.heap.size U w':=fun U hU x hx r ay ny cy hr hl hb hq=>by
   obtain⟨_,_,fz⟩:=aw U hU
   obtain⟨j,hj⟩:=List.mem_iff_getElem?.1 HM.out
   have:=D3w (B:=w.heap.size) fz.size x r hr hl hb ((HI.out j (List.getElem?_eq_some_iff.1 hj).1).below fz).tabs (enters_of Tryz.func46 (by kernel_rfl) rfl) (rd:=rd) (Q:=fun t l=>N n (msgD g t) l) (fun hk=>bt U hU x hx hk) hq
   refine this.mono ?_
   intro e w' ho
   obtain⟨q,a1,n1,c1,a2,n2,c2,a3,n3,c3,E,h1,h2,h3⟩:=ho.open
   exact⟨q,a1,n1,c1,a2,n2,c2,a3,n3,c3,E,h1,h2,h3⟩
  have gg:Hid (DSt n w.heap.size W7.heap.size W7 ⟨[],[],(none,0,0),(none,0,0)⟩ ⟨[],[]⟩ (none,0,0) []):=DSt.nil _ _ _ _
  have jl:Hid (∀ r∈rs,C3i r):=hw2
  have jk:Hid (rsW rs≤4000):=Nat.le_trans ik hw3
  clear cj ik hw2 hw3
  go_wp2_with fail
  rw[←ee.out]
  go_loopg [14,37] kr (fun gm ko kv wr=>∃ (i:Nat) (b:BO (BI n)) (cc:BL (LB n)) (ul:List (RI×PV)) (e0:Option Addr) (f0 g0:Nat) (e1:Option Addr) (f1 g1:Nat) (u0:Option Addr) (u1 u2:Nat),i+gm=kr∧ko = .slice u0 u1 u2∧kv = .int .i64 (i:Int)∧Hid (R=A1f g rd M.fields ((rl.drop i).map Prod.fst) b (ul.map Prod.fst))∧Hid (RSt M.fields b (2*rsW (rs.take i)))∧Hid (DSt n w.heap.size W7.heap.size wr cc b (u0,u1,u2) ul)∧Hid (cc.q0=(e0,f0,g0)∧cc.q1=(e1,f1,g1)∧ul.length≤i∧NumI rs i b)∧wr.heap[W6.heap.size]?=some (.cells #[.slice e0 f0 g0,.slice e1 f1 g1] 29 (0,0))∧FrB [W6.heap.size] W7 wr)
  case atStart=>exact⟨0,⟨[],[]⟩,⟨[],[],(none,0,0),(none,0,0)⟩,[],none,0,0,none,0,0,none,0,0,by omega,rfl,rfl,ji,⟨rfl,fun v hv=>(List.not_mem_nil hv).elim,fun v hv=>(List.not_mem_nil hv).elim,by simp⟩,gg,⟨rfl,rfl,Nat.zero_le _,fun v hv=>(List.not_mem_nil hv).elim⟩,x7,FrB.refl _ _⟩
  case round=>
   obtain⟨i,b,cc,ul,e0,f0,g0,e1,f1,g1,u0,u1,u2,hi,rfl,rfl,dy,HST,cw,bh,xO,hF⟩:=hrel
   obtain⟨⟨k0,k1,k2,k3⟩,HK,hbr⟩:=aw wr hF
   have lw:=hF.size
   by_cases hlt:i<kr
   ·obtain⟨p,Hp⟩:∃ p,Hid (rl[i]?=some p):=by
     have h1:kr=rl.length:=(show Row ekR w5 W4.heap.size (.slice ar kr cr) rl from cg.out.1).len
     exact⟨rl[i]'(by omega),List.getElem?_eq_getElem _⟩
    obtain⟨rc,ei⟩:∃ rc,Hid (rs[i]?=some rc):=⟨rs[i]'(by have:=io.out;omega),List.getElem?_eq_getElem _⟩
    have ig:p.1=A6e rc:=by
     have h1:=congrArg (fun l=>l[i]?) cg.out.2.2
     simp only[List.getElem?_map,Hp.out,ei.out,Option.map_some,Option.some.injEq] at h1
     exact h1
    have bc:=jl.out rc (List.mem_of_getElem? ei.out)
    have ba:Hid (B7j p.1∧p.1.bytes.length≤4000∧p.1.bits≤18446744073709551615∧rsW (rs.take (i+1))=rsW (rs.take i)+(p.1.bytes.length+1)∧rsW (rs.take (i+1))≤4000):=by
     have e1:rsW (rs.take (i+1))=rsW (rs.take i)+(rc.bytes.length+1):=by
      rw[List.take_add_one,ei.out,C1h]
      rfl
     have e2:rsW rs=rsW (rs.take (i+1))+rsW (rs.drop (i+1)):=by rw[←C1h,List.take_append_drop]
     have e3:=jk.out
     rw[ig]
     exact⟨D5b bc,bc.2,bc.1.2.2.2.2,e1,by omega⟩
    obtain⟨gR,rfl,fh⟩:=(HK.out.1).get Hp.out
    obtain⟨⟨num,how,ah,aj⟩,⟨ay,ny,cy⟩⟩:=p
    have HY:Hid (Row ekY wr w.heap.size (.slice ay ny cy) aj):=HK.out.2 _ (List.mem_of_getElem? Hp.out)
    have c0:wr.cell? ⟨gR,i*4,none⟩=some (.int .i64 num):=fh 0 _ rfl
    have c1:wr.cell? ⟨gR,i*4+1,none⟩=some (.int .i64 how):=fh 1 _ rfl
    have c2:wr.cell? ⟨gR,i*4+2,none⟩=some (.int .u64 (ah:Int)):=fh 2 _ rfl
    have c3:wr.cell? ⟨gR,i*4+3,none⟩=some (.slice ay ny cy):=fh 3 _ rfl
    have jw:(i:Int)<(kr:Int):=by omega
    have ft:Hid (rl.drop i=((⟨num,how,ah,aj⟩,(ay,ny,cy)):RI×PV)::rl.drop (i+1)):=by
     show _=_
     obtain⟨h1,h2⟩:=List.getElem?_eq_some_iff.1 Hp.out
     rw[List.drop_eq_getElem_cons h1,h2]
    obtain⟨W8,eh⟩:∃ W8,Hid (W8=wr.alloc (.cells #[.int .i64 num,.int .i64 how,.int .u64 (ah:Int),.slice ay ny cy] 106)):=⟨_,rfl⟩
    have fy:Below wr.heap.size wr W8:=by rw[eh.out];exact(Below.refl _ _).alloc (Nat.le_refl _) _
    have x8:W8.heap[wr.heap.size]?=some (.cells #[.int .i64 num,.int .i64 how,.int .u64 (ah:Int),.slice ay ny cy] 106 (0,0)):=by rw[eh.out];exact heap_alloc_new _ _
    have lr:wr.heap.size+1≤W8.heap.size:=by rw[eh.out];simp
    have bu:=A3e (HF.out.below FAt.stays (BTr hbr fy)) ⟨ab,nb,cb,rfl⟩ ⟨M.name,rfl⟩ num
    obtain⟨m0,m1,m2⟩:=A4p ((fy.block _ (by omega)).trans k1)
    obtain⟨r0,r1,r2,r3⟩:=A4b x8
    have gj:Hid ((⟨num,how,ah,aj⟩:RI)=A6e rc):=ig
    clear fh ig bc bt
    rcases A3l (fun f:FI=>decide (f.number=num)) M.fields with⟨hq1,hq2⟩|⟨kf,x,hq1,hq2,hq3,hq4⟩
    ·rw[hq1] at bu
     have HN:Hid (M.fields.find? (isF num)=none):=hq2
     clear hq1 hq2 bg
     go_upto_region 12 with fail
     rw[←eh.out]
     go_wp2_with fail
     refine bu.mono ?_
     rintro e w9 ⟨rfl,dt⟩
     have ak:Below wr.heap.size wr w9:=BTr fy dt
     have x9:=(dt.block _ (by omega)).trans x8
     have kg:=dt.size
     clear m0 m1 m2 r0 r1 r2 r3 c0 c1 c2 c3
     obtain⟨r0,r1,r2,r3⟩:=A4b x9
     obtain⟨bq,dl⟩:∃ bq,Hid (bq=w9.alloc (.cells #[.int .i64 num,.int .i64 how,.int .u64 (ah:Int),.slice ay ny cy] 106)):=⟨_,rfl⟩
     have g7:Below w9.heap.size w9 bq:=by rw[dl.out];exact(Below.refl _ _).alloc (Nat.le_refl _) _
     have jb:bq.heap[w9.heap.size]?=some (.cells #[.int .i64 num,.int .i64 how,.int .u64 (ah:Int),.slice ay ny cy] 106 (0,0)):=by rw[dl.out];exact heap_alloc_new _ _
     have br:Below wr.heap.size wr bq:=BTr ak g7
     have fo:=br.size
     have dh:Hid (DSt n w.heap.size W7.heap.size bq cc b (u0,u1,u2) ul):=cw.out.fr (FrB.of_below br:FrB [] wr bq) (fun k hk=>by simp at hk)
     have hrow:Row ekR bq w.heap.size (.slice u0 u1 u2) ul:=dh.out.ur
     have ii:∀ ad,(some ⟨w9.heap.size,0,none⟩:Option Addr)=some ad→∀ k y,[((⟨num,how,ah,aj⟩,(ay,ny,cy)):RI×PV)][k]?=some y→∀ j u,(ekR.enc y)[j]?=some u→bq.cell? (ad.add (k*ekR.size+j))=some u:=A8o jb rfl
     have hlen:(ul.length + [((⟨num,how,ah,aj⟩,(ay,ny,cy)):RI×PV)].length)*ekR.bytes≤140737488355328:=by
      have:=bh.out.2.2.1
      show(ul.length+1)*48≤_
      omega
     have jp:w.heap.size≤bq.heap.size:=Nat.le_trans hbr.size fo
     clear jb x9
     go_wp2_with (at_builtin;rw[←dl.out];refine A1s rfl ekR _ _ rfl w.heap.size _ ul [((⟨num,how,ah,aj⟩,(ay,ny,cy)):RI×PV)] rfl hrow (some ⟨w9.heap.size,0,none⟩) 1 1 rfl rfl (fun h=>by cases h) ii (show 1≤48 by omega) hlen jp ?_)
     intro v4 bv hr4 hg4 hk4
     obtain⟨a4,n4,c4,rfl,ky⟩:=hr4.shape'
     have ix:FrB (own1 (u0,u1,u2)) bq bv:=dh.out.app_fr hg4
     have bw:Hid (DSt n w.heap.size W7.heap.size bv cc b (a4,n4,c4) (ul++[(⟨num,how,ah,aj⟩,(ay,ny,cy))])):=dh.out.app (by omega) hg4 hr4 hk4 (HY.out.below br)
     have bn:bv.heap[W6.heap.size]?=some (.cells #[.slice e0 f0 g0,.slice e1 f1 g1] 29 (0,0)):=(ix.blk (by omega) (fun h=>by have:=(cw.out.ulo _ h).1;omega)).trans ((br.block _ (by omega)).trans xO)
     have dr:FrB [W6.heap.size] W7 bv:=(hF.on br).trans ix (fun _ h=>h) (fun k h=>.inr (cw.out.ulo k h).1)
     have gh:Hid (R=A1f g rd M.fields ((rl.drop (i+1)).map Prod.fst) b ((ul++[((⟨num,how,ah,aj⟩,(ay,ny,cy)):RI×PV)]).map Prod.fst)):=by
      show _=_
      rw[dy.out,ft.out,List.map_cons,A5c HN.out,List.map_append]
      rfl
     have gl:Hid (RSt M.fields b (2*rsW (rs.take (i+1)))):=⟨HST.out.unk,HST.out.qk,HST.out.sh,by have:=HST.out.w;have:=ba.out.2.2.2.1;omega⟩
     have f6:Hid (cc.q0=(e0,f0,g0)∧cc.q1=(e1,f1,g1)∧(ul++[((⟨num,how,ah,aj⟩,(ay,ny,cy)):RI×PV)]).length≤i+1∧NumI rs (i+1) b):=⟨bh.out.1,bh.out.2.1,by have:=bh.out.2.2.1;simp;omega,bh.out.2.2.2.next⟩
     go_wp2_with fail
     go_roundg (kr-(i+1))
     case measure=>omega
     case rel=>exact⟨i+1,b,cc,ul++[(⟨num,how,ah,aj⟩,(ay,ny,cy))],e0,f0,g0,e1,f1,g1,a4,n4,c4,by omega,rfl,by go_simp,gh,gl,bw,f6,bn,dr⟩
    ·rw[hq1] at bu
     have HN:Hid (M.fields.find? (isF num)=some x):=hq3
     obtain⟨bf,of,rfl,ie⟩:=HF.out.get FAt.plain hq2
     have HX:Hid (x∈M.fields):=List.mem_of_getElem? hq2
     have lf:(kf:Int)<(nf:Int):=by have:=(List.getElem?_eq_some_iff.1 hq2).1;have:=HF.out.len.1;omega
     have jv:¬ (kf:Int)<0:=by omega
     obtain⟨y0,y1,y2,y3,y4,y5⟩:=ie
     rw[A0e] at y1 y2 y3 y4 y5
     clear hq1 hq2 hq3 hq4
     go_upto_region 12 with fail
     rw[←eh.out]
     go_wp2_with fail
     refine bu.mono ?_
     rintro e w9 ⟨rfl,dt⟩
     have ak:Below wr.heap.size wr w9:=BTr fy dt
     have x9:=(dt.block _ (by omega)).trans x8
     have kg:=dt.size
     have il:=ak.size
     have g9:Below w.heap.size w w9:=BTr hbr ak
     have jr:FrB [W6.heap.size] W7 w9:=hF.on ak
     clear m0 m1 m2 r0 r1 r2 r3 c0 c1 c2 c3 bu
     have i7:=(ak.block _ (by omega)).trans k1
     have ac:∀ V,Below w9.heap.size w9 V→V.cell? ⟨w.heap.size+1,1,none⟩=some (.slice (some ⟨bf,of,none⟩) nf cf)∧(V.cell? ⟨wr.heap.size,0,none⟩=some (.int .i64 num)∧V.cell? ⟨wr.heap.size,1,none⟩=some (.int .i64 how)∧V.cell? ⟨wr.heap.size,2,none⟩=some (.int .u64 (ah:Int))∧V.cell? ⟨wr.heap.size,3,none⟩=some (.slice ay ny cy))∧V.cell? ⟨bf,of+kf*6,none⟩=some (.string (S x.name))∧V.cell? ⟨bf,of+kf*6+1,none⟩=some (.int .i64 x.number)∧V.cell? ⟨bf,of+kf*6+2,none⟩=some (.int .i64 x.kind)∧V.cell? ⟨bf,of+kf*6+3,none⟩=some (.string (S x.type))∧V.cell? ⟨bf,of+kf*6+4,none⟩=some (.bool x.many)∧V.cell? ⟨bf,of+kf*6+5,none⟩=some (.int .i64 x.choice):=fun V hV=>by
      have dw:=BTr g9 hV
      exact⟨A0a ((hV.block _ (by omega)).trans i7) 1 _ rfl,A4b ((hV.block _ (by omega)).trans x9),A0c dw y0,A0c dw y1,A0c dw y2,A0c dw y3,A0c dw y4,A0c dw y5⟩
     have ip:Hid (x.kind=10→N n (msgD g x.type) aj∧(x.many=false→A8e g x∨∀ j,j<i→∀ r',rs[j]?=some r'→(A6e r').number≠num)):=fun hk=>by
      have h:=jf.out.step jg.out HM.out HP.out ei.out (x:=x) (by rw[←gj.out];exact HN.out) hk
      rw[←gj.out] at h
      exact h
     obtain⟨Rt,dz⟩:∃ Rt,Hid (A3q rd x (⟨num,how,ah,aj⟩:RI)=Rt):=⟨_,rfl⟩
     have ij:∀ V,Below w9.heap.size w9 V→Calls Tryz.prog 47 #[.agg #[.string (S x.name),.int .i64 x.number,.int .i64 x.kind,.string (S x.type),.bool x.many,.int .i64 x.choice],.agg #[.int .i64 num,.int .i64 how,.int .u64 (ah:Int),.slice ay ny cy],.func (.func 46) #[] #[.pointer (some ⟨w.heap.size,0,none⟩),.pointer (some ⟨w.heap.size+2,0,none⟩)]] V fun e w'=>∃ (q:Int) (a1:Option Addr) (n1 c1:Nat) (a2:Option Addr) (n2 c2:Nat) (a3:Option Addr) (n3 c3:Nat) (E:Int),e = .returned (.tuple #[.agg #[.int .i64 q,.slice a1 n1 c1,.slice a2 n2 c2,.slice a3 n3 c3],.int .i64 E])∧Hid (TRes n w.heap.size V.heap.size Rt q a1 n1 c1 a2 n2 c2 a3 n3 c3 E w')∧Below V.heap.size V w':=fun V hV=>by
      have:=bg V (jr.on hV) x HX.out (⟨num,how,ah,aj⟩:RI) ay ny cy (HY.out.below (BTr ak hV)) ba.out.2.1 ba.out.2.2.1 (fun hk=>(ip.out hk).1)
      rw[dz.out] at this
      exact this
     have hd:Below w9.heap.size w9 w9.drew:=(Below.refl _ _).drew
     have hzd:w9.drew.heap.size=w9.heap.size:=rfl
     have fx:Below w9.heap.size w9 (w9.alloc (.cells #[.int .i64 0,.slice none 0 0,.slice none 0 0,.slice none 0 0] 62)).drew:=((Below.refl _ _).alloc (Nat.le_refl _) _).drew
     have xA:(w9.alloc (.cells #[.int .i64 0,.slice none 0 0,.slice none 0 0,.slice none 0 0] 62)).drew.heap[w9.heap.size]?=some (.cells #[.int .i64 0,.slice none 0 0,.slice none 0 0,.slice none 0 0] 62 (0,0)):=heap_alloc_new _ _
     clear bg aw y0 y1 y2 y3 y4 y5 i7 x9
     go_upto_region 15 with fail
     go_cut [18,19] from 51 to 61 (fun kt ku wc=>∃ (K:Nat) (q:Int) (a1:Option Addr) (n1 c1:Nat) (a2:Option Addr) (n2 c2:Nat) (a3:Option Addr) (n3 c3:Nat) (E:Int),kt = .pointer (some ⟨K,0,none⟩)∧ku = .int .i64 E∧w9.heap.size≤K∧wc.heap[K]?=some (.cells #[.int .i64 q,.slice a1 n1 c1,.slice a2 n2 c2,.slice a3 n3 c3] 62 (0,0))∧Hid (TRes n w.heap.size w9.heap.size Rt q a1 n1 c1 a2 n2 c2 a3 n3 c3 E wc)∧Below w9.heap.size w9 wc)
     case first=>
      refine wp_region_held_drew (S:=fun U=>Below w9.heap.size w9 U) (by kernel_rfl) hd (fun hHeld=>?_)
      refine tK (i:=0) (v:=?vr1) rfl ⟨by rfl,?hyr1⟩ ?_
      case hyr1=>(intro W h;have:=ac W h;go_simp;first|done|with_reducible rfl)
      try simp only[pT,Act.put]
      refine tK (i:=1) (v:=?vr2) rfl ⟨by rfl,?hyr2⟩ ?_
      case hyr2=>(intro W h;have:=ac W h;go_simp;first|done|with_reducible rfl)
      try simp only[pT,Act.put]
      refine tK (i:=2) (v:=?vr3) rfl ⟨by rfl,?hyr3⟩ ?_
      case hyr3=>(intro W h;have:=ac W h;go_simp;first|done|with_reducible rfl)
      try simp only[pT,Act.put]
      refine tK (i:=3) (v:=?vr4) rfl ⟨by rfl,?hyr4⟩ ?_
      case hyr4=>(intro W h;have:=ac W h;go_simp;first|done|with_reducible rfl)
      try simp only[pT,Act.put]
      refine tK (i:=4) (v:=?vr5) rfl ⟨by rfl,?hyr5⟩ ?_
      case hyr5=>(intro W h;have:=ac W h;go_simp;first|done|with_reducible rfl)
      try simp only[pT,Act.put]
      refine tK (i:=5) (v:=?vr6) rfl ⟨by rfl,?hyr6⟩ ?_
      case hyr6=>(intro W h;have:=ac W h;go_simp;first|done|with_reducible rfl)
      try simp only[pT,Act.put]
      refine tK (i:=6) (v:=?vr7) rfl ⟨by rfl,?hyr7⟩ ?_
      case hyr7=>(intro W h;have:=ac W h;go_simp;first|done|with_reducible rfl)
      try simp only[pT,Act.put]
      refine rB (i:=7) (j:=11) rfl (fun K hK=>?_) rfl fun K hK=>?_
      ·skip
       go_simp
       refine(ij _ (by with_reducible first|exact hd|exact fx)).mono ?_
       rintro e V3 ⟨q,a1,n1,c1,a2,n2,c2,a3,n3,c3,E,rfl,dv,hb3⟩
       have hz3:=hb3.size
       have ej:=BTr hd hb3
       refine hK.out _ _ ?_ (fun hHeld=>?_)
       ·(try dsimp only);with_reducible assumption
       clear hK K
       try simp only[pT,Act.put]
       refine tK (i:=8) (v:=?vr8) rfl ⟨by rfl,?hyr8⟩ ?_
       case hyr8=>(intro W h;have:=ac W h;go_simp;first|done|with_reducible rfl)
       try simp only[pT,Act.put]
       refine tK (i:=9) (v:=?vr9) rfl ⟨by rfl,?hyr9⟩ ?_
       case hyr9=>(intro W h;have:=ac W h;go_simp;first|done|with_reducible rfl)
       try simp only[pT,Act.put]
       refine tK (i:=10) (v:=?vr10) rfl ⟨by rfl,?hyr10⟩ ?_
       case hyr10=>(intro W h;have:=ac W h;go_simp;first|done|with_reducible rfl)
       try simp only[pT,Act.put]
       refine rA (i:=11) rfl fun K hK=>?_
       go_simp
       have k9:Below w9.heap.size w9 (V3.alloc (.cells #[.int .i64 0,.slice none 0 0,.slice none 0 0,.slice none 0 0] 62)):=BTr ej ((Below.refl _ _).alloc (Nat.le_refl _) _)
       have jo:Below w9.heap.size w9 (V3.alloc (.cells #[.int .i64 q,.slice a1 n1 c1,.slice a2 n2 c2,.slice a3 n3 c3] 62)):=BTr ej ((Below.refl _ _).alloc (Nat.le_refl _) _)
       refine hK.out _ _ ?_ (fun hHeld=>?_)
       ·(try dsimp only);with_reducible assumption
       clear hK K
       try simp only[pT,Act.put]
       refine rA (i:=12) rfl fun K hK=>?_
       go_simp
       refine hK.out _ _ ?_ (fun hHeld=>?_)
       ·(try dsimp only);with_reducible assumption
       clear hK K
       try simp only[pT,Act.put]
       refine tK (i:=13) (v:=?vr11) rfl ⟨by rfl,?hyr11⟩ ?_
       case hyr11=>(intro W h;have:=ac W h;go_simp;first|done|with_reducible rfl)
       try simp only[pT,Act.put]
       refine wpAnyH_done (by kernel_rfl) ?_ _
       go_wp2_with fail
       go_meet
       refine⟨V3.heap.size,q,a1,n1,c1,a2,n2,c2,a3,n3,c3,E,rfl,rfl,ej.size,heap_alloc_new _ _,dv.out.fr (FrB.of_below ((Below.refl _ _).alloc (Nat.le_refl _) _):FrB [] _ _) (fun k hk=>by simp at hk) (Nat.le_refl _),jo⟩
      ·skip
       go_simp
       refine hK.out _ _ ?_ (fun hHeld=>?_)
       ·(try dsimp only);with_reducible assumption
       clear hK K
       try simp only[pT,Act.put]
       refine rA (i:=7) rfl fun K hK=>?_
       go_simp
       refine(ij _ (by with_reducible first|exact hd|exact fx)).mono ?_
       rintro e V3 ⟨q,a1,n1,c1,a2,n2,c2,a3,n3,c3,E,rfl,dv,hb3⟩
       have hz3:=hb3.size
       have ej:=BTr fx hb3
       have kT:=(hb3.block w9.heap.size (by show w9.heap.size<(w9.alloc _).heap.size;simp)).trans xA
       obtain⟨lx,ly,lz,l5⟩:=A4b kT
       have tf:=A0b kT
       have jn:Below w9.heap.size w9 ((((V3.setCell ⟨w9.heap.size,0,none⟩ (.int .i64 q)).setCell ⟨w9.heap.size,1,none⟩ (.slice a1 n1 c1)).setCell ⟨w9.heap.size,2,none⟩ (.slice a2 n2 c2)).setCell ⟨w9.heap.size,3,none⟩ (.slice a3 n3 c3)):=KB_set (KB_set (KB_set (KB_set ej (Nat.le_refl _)) (Nat.le_refl _)) (Nat.le_refl _)) (Nat.le_refl _)
       refine hK.out _ _ ?_ (fun hHeld=>?_)
       ·(try dsimp only);with_reducible assumption
       clear hK K
       try simp only[pT,Act.put]
       refine tK (i:=8) (v:=?vr12) rfl ⟨by rfl,?hyr12⟩ ?_
       case hyr12=>(intro W h;have:=ac W h;go_simp;first|done|with_reducible rfl)
       try simp only[pT,Act.put]
       refine tK (i:=9) (v:=?vr13) rfl ⟨by rfl,?hyr13⟩ ?_
       case hyr13=>(intro W h;have:=ac W h;go_simp;first|done|with_reducible rfl)
       try simp only[pT,Act.put]
       refine tK (i:=10) (v:=?vr14) rfl ⟨by rfl,?hyr14⟩ ?_
       case hyr14=>(intro W h;have:=ac W h;go_simp;first|done|with_reducible rfl)
       try simp only[pT,Act.put]
       refine rA (i:=12) rfl fun K hK=>?_
       go_simp
       refine hK.out _ _ ?_ (fun hHeld=>?_)
       ·(try dsimp only);with_reducible assumption
       clear hK K
       try simp only[pT,Act.put]
       refine tK (i:=13) (v:=?vr15) rfl ⟨by rfl,?hyr15⟩ ?_
       case hyr15=>(intro W h;have:=ac W h;go_simp;first|done|with_reducible rfl)
       try simp only[pT,Act.put]
       refine wpAnyH_done (by kernel_rfl) ?_ _
       go_wp2_with fail
       go_meet
       refine⟨w9.heap.size,q,a1,n1,c1,a2,n2,c2,a3,n3,c3,E,rfl,rfl,Nat.le_refl _,heap_setCell_same _ _ 3 _ _ _ (heap_setCell_same _ _ 2 _ _ _ (heap_setCell_same _ _ 1 _ _ _ (heap_setCell_same _ _ 0 _ _ _ kT))),dv.out.fr (fr4 kT) (fun k hk=>by rw[List.mem_singleton.1 hk];show w9.heap.size<(w9.alloc _).heap.size;simp) (by show w9.heap.size≤(w9.alloc _).heap.size;simp),jn⟩
     case rest=>
      obtain⟨K,q,a1,n1,c1,a2,n2,c2,a3,n3,c3,E,rfl,rfl,ld,xK,dv,js⟩:=hcut
      have au:Below wr.heap.size wr wc:=BTr ak js
      have fe:Below w.heap.size w wc:=BTr hbr au
      have lu:=au.size
      clear ac ij fx xA hd hzd
      have ja:=(au.block _ (by omega)).trans k3
      obtain⟨q0,q1⟩:=A0y ja
      have qf:=A0b ja
      cases Rt with
      | error E'=>
       obtain⟨dn,dp⟩:=dv.out
       subst dn
       have eE:(E != 0)=true:=by simpa using dp
       have jm:(E==0)=false:=by simpa using dp
       have bp:Hid (R = .error E):=by
        show _=_
        rw[dy.out,ft.out,List.map_cons,A8n HN.out dz.out]
        rfl
       go_wp2_with fail
       refine bodyPost_ret (v:=.tuple #[.agg #[.slice none 0 0,.slice none 0 0],.int .i64 E]) (by simp[results,Tryz.results21,go_sem, *]) rfl ?_
       rw[bp.out]
       exact⟨dp,rfl,KB_set (KB_set fe (by omega)) (by omega)⟩
      | ok v=>
       obtain⟨dn,y',d1,d2,d3,d4,d5,d6,d7,d8⟩:=dv.out
       subst dn
       have df:Hid (TldOk x (aj.length+1) v):=D0c jh.out (HG.out.num M HM.out x HX.out) ba.out.2.1 ba.out.2.2.1 dz.out
       have i6:x.number=num:=A2d HN.out
       have dx:y'.number=num:=by
        have h1:=df.out.num
        rw[←d5] at h1
        exact(show y'.number=x.number from h1).trans i6
       obtain⟨Rw,d9⟩:∃ Rw,Hid (A1w g n M.fields x b v=Rw):=⟨_,rfl⟩
       have jy:q=num:=d1.symm.trans dx
       subst jy
       have dg:Calls Tryz.prog 48 #[.agg #[.slice am nm cm,.slice ae ne ce],.agg #[.string (S M.name),.slice (some ⟨bf,of,none⟩) nf cf,.slice ab nb cb],.agg #[.slice e0 f0 g0,.slice e1 f1 g1],.agg #[.int .i64 q,.slice a1 n1 c1,.slice a2 n2 c2,.slice a3 n3 c3]] wc fun e w'=>∃ (i0:Option Addr) (j0 l0:Nat) (i1:Option Addr) (j1 l1:Nat) (E:Int),e = .returned (.tuple #[.agg #[.slice i0 j0 l0,.slice i1 j1 l1],.int .i64 E])∧Hid (D9i n wc.heap.size e0 f0 g0 e1 f1 g1 b Rw i0 j0 l0 i1 j1 l1 E w')∧Below wr.heap.size wr w':=by
        have jt:BRd n wr (.slice e0 f0 g0) (.slice e1 f1 g1) b:=by
         have h1:=OwnB.rd (show OwnB w.heap.size (n+1) wr cc from cw.out.own)
         rw[show LB.pl (n+1) cc=b from cw.out.pl,bh.out.1,bh.out.2.1] at h1
         exact h1
        have jx:BQk (n+1) b:=⟨HST.out.qk,fun r hr=>by rw[show BO.unk b = [] from HST.out.unk] at hr;cases hr⟩
        have hst:=HST.out.w
        have hr4:=ba.out.2.2.2
        have lh:=df.out.w
        have j5:rsW (rs.take (i+1))=rsW (rs.take i)+(aj.length+1):=hr4.1
        have j6:=hr4.2
        have hjb:jWB (n+1) b≤1000000000:=by
         show((BO.vals b).map (jW (jWB n))).sum+(BO.unk b).length≤_
         rw[show BO.unk b = [] from HST.out.unk]
         simp only[List.length_nil]
         omega
        have fj:=(HI.out 0 (by have:=List.length_pos_of_mem HM.out;omega)).fok M HM.out
        have:=D4f (g:=g) (d:=n) (W0:=w) (u:=wr) (w:=wc) hbr au (fun j hj=>(HI.out j hj).below hbr) (nam:=M.name) (ab:=ab) (nb:=nb) (cb:=cb) (HF.out.below FAt.stays hbr) fj.1 fj.2 jt (D2t (n+1) b jx hjb) d6 (fun k hk=>Nat.le_trans il (d7 k hk)) d8 (by rw[d5];exact D5h df.out.qk (by omega)) (x:=x) (fun hm hk ⟨u,hu⟩=>by
         rcases (ip.out hk).2 hm with h|h
         ·exact h
         ·exfalso
          obtain⟨j,hj,r',jz,hn⟩:=bh.out.2.2.2 u (List.mem_of_find?_eq_some hu)
          have iz:=List.find?_some hu
          simp only[isV,decide_eq_true_eq] at iz
          exact h j hj r' jz (hn.trans (iz.trans dx))) (by rw[dx];exact HN.out) (by rw[d5];omega) (fun hm hk=>⟨HG.out.sub M HM.out x HX.out hk,fun v' hv' j8=>by
         rcases hv' with hv'|hv'
         ·exact HST.out.sh v' hv' x (by rw[j8,dx];exact HN.out) hm hk
         ·rw[hv',d5]
          exact df.out.sh hk⟩)
        rw[dx,d2,d3,d4,d5,d9.out] at this
        refine this.mono ?_
        intro e w' ho
        obtain⟨i0,j0,l0,i1,j1,l1,E,h1,h2⟩:=ho.2.open
        exact⟨i0,j0,l0,i1,j1,l1,E,h1,h2,ho.1⟩
       have ki:=(au.block _ (by omega)).trans k0
       have kj:=(au.block _ (by omega)).trans k1
       have kx:=(au.block _ (by omega)).trans xO
       obtain⟨m0,m1⟩:=A0y ki
       obtain⟨m2,m3,m4⟩:=A4p kj
       obtain⟨m5,m6⟩:=A0y kx
       obtain⟨m7,m8,m9,kn⟩:=A4b xK
       clear d1 d2 d3 d4 d5 d6 d7 d8 i6 dx
       go_wp2_with fail
       refine dg.mono ?_
       rintro e bv ⟨i0,j0,l0,i1,j1,l1,E,rfl,iq,bk⟩
       have bn:=(bk.block _ (by omega)).trans xO
       have fq:=(bk.block _ (by omega)).trans k3
       have j9:=bk.size
       clear m0 m1 m2 m3 m4 m5 m6 m7 m8 m9 kn q0 q1 qf dg
       obtain⟨m5,m6⟩:=A0y bn
       have mf:=A0b bn
       obtain⟨q0,q1⟩:=A0y fq
       have qf:=A0b fq
       have n1:¬ W6.heap.size=w.heap.size+3:=by have:=ag.size;omega
       have n2:¬ w.heap.size+3=W6.heap.size:=by have:=ag.size;omega
       have fc:Below w.heap.size w bv:=BTr hbr bk
       cases Rw with
       | error E'=>
        obtain⟨dn,dp⟩:=iq.out
        subst dn
        have eE:(E != 0)=true:=by simpa using dp
        have jm:(E==0)=false:=by simpa using dp
        have bp:Hid (R = .error E):=by
         show _=_
         rw[dy.out,ft.out,List.map_cons,A5d HN.out dz.out d9.out]
         rfl
        go_wp2_with fail
        refine bodyPost_ret (v:=.tuple #[.agg #[.slice none 0 0,.slice none 0 0],.int .i64 E]) (by simp[results,Tryz.results21,go_sem, *]) rfl ?_
        rw[bp.out]
        exact⟨dp,rfl,KB_set (KB_set (KB_set (KB_set fc (by have:=ag.size;omega)) (by have:=ag.size;omega)) (by omega)) (by omega)⟩
       | ok b'=>
        obtain⟨dn,iy⟩:=iq.out
        subst dn
        have f11:=fr2 bn (x0:=.slice i0 j0 l0) (x1:=.slice i1 j1 l1)
        have dr:FrB [W6.heap.size] W7 ((bv.setCell ⟨W6.heap.size,0,none⟩ (.slice i0 j0 l0)).setCell ⟨W6.heap.size,1,none⟩ (.slice i1 j1 l1)):=(hF.on bk).trans f11 (fun _ h=>h) (fun _ h=>.inl h)
        have im:((bv.setCell ⟨W6.heap.size,0,none⟩ (.slice i0 j0 l0)).setCell ⟨W6.heap.size,1,none⟩ (.slice i1 j1 l1)).heap[W6.heap.size]?=some (.cells #[.slice i0 j0 l0,.slice i1 j1 l1] 29 (0,0)):=heap_setCell_same _ _ 1 _ _ _ (heap_setCell_same _ _ 0 _ _ _ bn)
        have gi:Hid (R=A1f g rd M.fields ((rl.drop (i+1)).map Prod.fst) b' (ul.map Prod.fst)):=by
         show _=_
         rw[dy.out,ft.out,List.map_cons,A7f HN.out dz.out d9.out]
        have gp:Hid (RSt M.fields b' (2*rsW (rs.take (i+1)))):=by
         have h1:=D0m (q:=aj.length+1) (by rw[df.out.num,A2d HN.out];exact HN.out) HST.out df.out (HG.out.sub M HM.out x HX.out) d9.out
         have h2:rsW (rs.take (i+1))=rsW (rs.take i)+(aj.length+1):=ba.out.2.2.2.1
         have e:2*rsW (rs.take i)+2*(aj.length+1)=2*rsW (rs.take (i+1)):=by omega
         rw[e] at h1
         exact h1
        have fk:∀ k∈[W6.heap.size],k<W7.heap.size:=fun k hk=>by rw[List.mem_singleton.1 hk];omega
        have bw:Hid (DSt n w.heap.size W7.heap.size bv cc b (u0,u1,u2) ul):=cw.out.fr (FrB.of_below bk:FrB [] wr bv) (fun k hk=>by simp at hk)
        obtain⟨dm,di⟩:∃ dm:BL (LB n),Hid (DSt n w.heap.size W7.heap.size ((bv.setCell ⟨W6.heap.size,0,none⟩ (.slice i0 j0 l0)).setCell ⟨W6.heap.size,1,none⟩ (.slice i1 j1 l1)) dm b' (u0,u1,u2) ul∧dm.q0=(i0,j0,l0)∧dm.q1=(i1,j1,l1)):=by
         rcases iy with⟨rfl,rfl,rfl,rfl,rfl,rfl,rfl⟩|⟨c',fw,gw,gy,gz⟩
         ·exact⟨cc,bw.out.fr f11 fk,bh.out.1,bh.out.2.1⟩
         ·have jq:DSt n w.heap.size W7.heap.size wc cc b (u0,u1,u2) ul:=cw.out.fr (FrB.of_below au:FrB [] wr wc) (fun k hk=>by simp at hk)
          refine⟨c',(jq.new (by omega) (by have:=fe.size;omega) bw.out gy gw gz).fr f11 fk,?_,?_⟩
          ·have h1 : [PV.v (BL.q0 c'),PV.v (BL.q1 c')] = [.slice i0 j0 l0,.slice i1 j1 l1]:=fw
           simp only[List.cons.injEq,and_true] at h1
           exact D4y h1.1
          ·have h1 : [PV.v (BL.q0 c'),PV.v (BL.q1 c')] = [.slice i0 j0 l0,.slice i1 j1 l1]:=fw
           simp only[List.cons.injEq,and_true] at h1
           exact D4y h1.2
        have f9:Hid (dm.q0=(i0,j0,l0)∧dm.q1=(i1,j1,l1)∧ul.length≤i+1∧NumI rs (i+1) b'):=⟨di.out.2.1,di.out.2.2,by have:=bh.out.2.2.1;omega,bh.out.2.2.2.step ei.out (by rw[df.out.num,A2d HN.out];exact HN.out) (by rw[df.out.num,A2d HN.out,←gj.out]) d9.out⟩
        have gc:Hid _:=di.out.1
        clear iy
        go_wp2_with fail
        go_roundg (kr-(i+1))
        case measure=>omega
        case rel=>exact⟨i+1,b',dm,ul,i0,j0,l0,i1,j1,l1,u0,u1,u2,by omega,rfl,by go_simp,gi,gp,gc,f9,im,dr⟩
   ·have ju:i=kr:=by omega
    have lg:¬ (i:Int)<(kr:Int):=by omega
    have bp:Hid (R = .ok (⟨b.vals,ul.map Prod.fst⟩:BO (BI n))):=by
     show _=_
     have h1:kr=rl.length:=(show Row ekR w5 W4.heap.size (.slice ar kr cr) rl from cg.out.1).len
     rw[dy.out,List.drop_eq_nil_of_le (by omega)]
     rfl
    obtain⟨p0,p1⟩:=A0y xO
    obtain⟨q0,q1⟩:=A0y k3
    have pf:=A0b xO
    have qf:=A0b k3
    have n1:¬ W6.heap.size=w.heap.size+3:=by have:=ag.size;omega
    have n2:¬ w.heap.size+3=W6.heap.size:=by have:=ag.size;omega
    clear bg bt aw ju
    go_wp2_with fail
    refine bodyPost_ret (v:=.tuple #[.agg #[.slice e0 f0 g0,.slice u0 u1 u2],.int .i64 0]) (by simp[results,Tryz.results21,go_sem, *]) rfl ?_
    have f1:FrB [W6.heap.size] wr (wr.setCell ⟨W6.heap.size,1,none⟩ (.slice u0 u1 u2)):=frD xO (by decide)
    have km:(wr.setCell ⟨W6.heap.size,1,none⟩ (.slice u0 u1 u2)).heap[w.heap.size+3]?=some (.cells #[.slice none 0 0,.slice none 0 0] 29 (0,0)):=by rw[Below.heap_setCell _ _ _ _ (show w.heap.size+3≠W6.heap.size from n2)];exact k3
    have f2:=f1.trans (fr2 km (x0:=.slice e0 f0 g0) (x1:=.slice u0 u1 u2)) (H:=[W6.heap.size,w.heap.size+3]) (fun i h=>by rw[List.mem_singleton.1 h];simp) (fun i h=>.inl (by rw[List.mem_singleton.1 h];simp))
    obtain⟨fw,gw,gy,gz⟩:=cw.out.fin
    rw[bp.out]
    refine⟨⟨cc.vals,ul,cc.q0,(u0,u1,u2)⟩,e0,f0,g0,u0,u1,u2,?_,rfl,gw,OwnB.fr (n+1) _ _ _ _ fw f2 (fun k hk hm=>?_),gy,hbr.trans (f2.below hbr.size (fun k hk=>?_))⟩
    ·show [cc.q0.v,PV.v (u0,u1,u2)]=_
     rw[bh.out.1]
     rfl
    ·have h1:=gz k hk
     have h2:=ag.size
     simp only[List.mem_cons,List.not_mem_nil,or_false] at hm
     omega
    ·have h2:=ag.size
     simp only[List.mem_cons,List.not_mem_nil,or_false] at hk
     omega
 ·have HT:Hid (R = .error cu):=by
   show _=_
   rw[←HR.out,B3i HP.out (by have:=HE.out;omega),HE.out]
  have jc:=(ag.block (w.heap.size+3) (by omega)).trans x3
  obtain⟨p0,p1⟩:=A0y jc
  have pf:=A0b jc
  have n1:¬ w5.heap.size=w.heap.size+3:=by omega
  have n2:¬ w.heap.size+3=w5.heap.size:=by omega
  go_upto_region 5 with fail
  go_region
  all_goals
   go_wp2_with fail
   refine bodyPost_ret (v:=.tuple #[.agg #[.slice none 0 0,.slice none 0 0],.int .i64 cu]) (by simp[results,Tryz.results21,go_sem, *]) rfl ?_
   rw[HT.out]
   exact⟨hE0,rfl,(KB_set (KB_set g8 (by omega)) (by omega)).drew⟩
theorem C2p {g:GI}(hG:FGd g){N:Nat→MI→List UInt8→Prop}(ac:Hid (NjC g N)):∀ n,B4f g N n
 | 0=>C9f g N
 | n+1=>C9e hG ac (C2p hG ac n)
end L
end Go.Proofs.YtgaoojpakjjdnaaGreatDoor
