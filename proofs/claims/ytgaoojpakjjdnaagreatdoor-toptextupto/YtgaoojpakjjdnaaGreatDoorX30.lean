import Derived.Test.YtgaoojpakjjdnaaGreatDoorX29
set_option maxHeartbeats 32000000
set_option maxRecDepth 100000
set_option linter.unusedVariables false
namespace Go.Proofs.YtgaoojpakjjdnaaGreatDoor
namespace L
open Go.RowKit
theorem D7j {p:PV}{a:Option Addr}{n c:Nat}(h:p.v = .slice a n c):p=(a,n,c):=by
 obtain⟨x,y,z⟩:=p
 simp only[PV.v,Value.slice.injEq] at h
 obtain⟨rfl,rfl,rfl⟩:=h
 rfl
theorem frD {c:Nat}{V:World}{i:Nat}{v:Value}{cs:Array Value}{t:TypeId}(hc:V.heap[c]?=some (.cells cs t (0,0)))(ht:t≠5):FrB [c] V (V.setCell ⟨c,i,none⟩ v):=
 ⟨rfl,rfl,rfl,by simp,fun k hk h=>by
  rcases h with h|⟨cs',fr,h⟩
  ·exact Below.heap_setCell _ _ _ _ (fun e=>h (List.mem_singleton.2 e))
  ·refine Below.heap_setCell _ _ _ _ (fun e=>?_)
   rw[show k=c from e,hc] at h
   simp only[Option.some.injEq,Obj.cells.injEq] at h
   exact ht h.2.1⟩
theorem D0y (g:GI)(N:Nat→MI→List UInt8→Prop):B4h g N 0:=by
 intro w am nm cm ae ne ce af nf cf ab nb cb M ao k c l D hD ac hI hM hf hl ah
 show Calls Tryz.prog 21 _ w fun e w'=>(10:Int)≠0∧e = .returned (.tuple #[.agg #[.slice none 0 0,.slice none 0 0],.int .i64 10])∧Below w.heap.size w w'
 have ag:D=13:=by omega
 subst ag
 have hb:Below w.heap.size w ((((w.alloc (.cells #[.slice am nm cm,.slice ae ne ce] 25)).alloc (.cells #[.string (S M.name),.slice af nf cf,.slice ab nb cb] 38)).alloc (.cells #[.int .i64 13] 3)).alloc (.cells #[.slice none 0 0,.slice none 0 0] 29)):=((((Below.refl _ _).alloc (Nat.le_refl _) _).alloc (by simp) _).alloc (by simp;omega) _).alloc (by simp;omega) _
 clear hI hM hf hl hD ac ah
 go_enter Tryz.func21,Tryz.ntmps21
 go_wp2_with fail
 refine bodyPost_ret (v:=.tuple #[.agg #[.slice none 0 0,.slice none 0 0],.int .i64 10]) (by simp[results,Tryz.results21,go_sem, *]) rfl ?_
 exact⟨by decide,rfl,hb⟩
theorem D0x {g:GI}(hG:FGd g){N:Nat→MI→List UInt8→Prop}(jh:Hid (NjC g N)){n:Nat}(ih:B4h g N n):B4h g N (n+1):=by
 intro w am nm cm ae ne ce af nf cf ab nb cb M ao k c l D hD iw hI hM hf hl ix
 have ji:Hid (N (n+1) M l):=ix
 clear ix
 obtain⟨W4,gu⟩:∃ W4,Hid (W4=(((w.alloc (.cells #[.slice am nm cm,.slice ae ne ce] 25)).alloc (.cells #[.string (S M.name),.slice af nf cf,.slice ab nb cb] 38)).alloc (.cells #[.int .i64 D] 3)).alloc (.cells #[.slice none 0 0,.slice none 0 0] 29)):=⟨_,rfl⟩
 obtain⟨x0,x1,x2,x3,z0⟩:=C2j w (.cells #[.slice am nm cm,.slice ae ne ce] 25) (.cells #[.string (S M.name),.slice af nf cf,.slice ab nb cb] 38) (.cells #[.int .i64 D] 3) (.cells #[.slice none 0 0,.slice none 0 0] 29)
 rw[←gu.out] at x0 x1 x2 x3 z0
 have hb4:Below w.heap.size w W4:=by rw[gu.out];exact((((Below.refl _ _).alloc (Nat.le_refl _) _).alloc (by simp) _).alloc (by simp;omega) _).alloc (by simp;omega) _
 have ln:w.heap.size+4≤W4.heap.size:=Nat.le_of_eq z0.symm
 clear z0
 have ld:¬ 12<D:=by omega
 have hDn:D+(n:Int)=12:=by omega
 obtain⟨rs,E,A,hp⟩:∃ rs E A,A2n l=(rs,E,A):=⟨_,_,_,rfl⟩
 obtain⟨R,HR⟩:∃ R,Hid (A5u g (n+1) M l=R):=⟨_,rfl⟩
 have cu:=D5e (D7m (hl.below YAt.stays hb4)) hp
 obtain⟨cw,HE⟩:∃ cw:Int,Hid ((E:Int)=cw):=⟨_,rfl⟩
 have cu:Calls Tryz.prog 45 #[.slice ao k c] W4 fun e w'=>∃ (rl:List (RI×PV)) (ar:Option Addr) (kr cr:Nat),e = .returned (.tuple #[.slice ar kr cr,.agg #[.int .i64 cw,.int .i64 (A:Int)]])∧Hid (Row ekR w' W4.heap.size (.slice ar kr cr) rl∧(∀ r∈rl,Row ekY w' W4.heap.size r.2.v r.1.bytes)∧rl.map Prod.fst=rs.map A9y)∧Below W4.heap.size W4 w':=cu.mono fun e w' ⟨v',ps,h1,h2,h3,h4⟩=>by
  obtain⟨rl,g1,g2,g3⟩:=D5n h2
  obtain⟨ar,kr,cr,rfl,_⟩:=g1.shape'
  rw[HE.out] at h1
  rw[h3] at g3
  exact⟨rl,ar,kr,cr,h1,⟨g1,g2,g3⟩,h4⟩
 show Calls Tryz.prog 21 _ w fun e w'=>DOut (n+1) w (A5u g (n+1) M l) e w'
 rw[HR.out]
 have HI:Hid _:=hI
 have HF:Hid (RdL 6 FAt w (.slice af nf cf) M.fields):=hf
 have HM:Hid (M∈g.msgs):=hM
 have jg:Hid (B4h g N n):=ih
 have HP:Hid (A2n l=(rs,E,A)):=hp
 have jf:Hid (1≤D):=iw
 have HDn:Hid (D+(n:Int)=12):=hDn
 have HG:Hid (FGd g):=hG
 obtain⟨y0,y1⟩:=A0r x0
 obtain⟨y2,y3,y4⟩:=A5w x1
 have y5:=A0a x2 0 _ rfl
 clear hI hf hM ih hp hl hD iw hDn hG
 go_enter Tryz.func21,Tryz.ntmps21
 go_upto_region 3 with fail
 rw[←gu.out]
 go_wp2_with fail
 refine cu.mono ?_
 rintro e w5 ⟨rl,ar,kr,cr,rfl,cj,iy⟩
 obtain⟨W6,fw⟩:∃ W6,Hid (W6=w5.alloc (.cells #[.int .i64 cw,.int .i64 (A:Int)] 50)):=⟨_,rfl⟩
 have eu:Below w5.heap.size w5 W6:=by rw[fw.out];exact(Below.refl _ _).alloc (Nat.le_refl _) _
 have x6:W6.heap[w5.heap.size]?=some (.cells #[.int .i64 cw,.int .i64 (A:Int)] 50 (0,0)):=by rw[fw.out];exact heap_alloc_new _ _
 have lq:w5.heap.size+1≤W6.heap.size:=by rw[fw.out];simp
 have ag:Below W4.heap.size W4 W6:=BTr iy eu
 have ie:Below w.heap.size w W6:=BTr hb4 ag
 have lp:=iy.size
 clear y0 y1 y2 y3 y4 y5
 go_upto_region 4 with fail
 rw[←fw.out]
 obtain⟨t0,t1⟩:=A0r x6
 by_cases hE0:cw=0
 ·have hE:E=0:=by have:=HE.out;omega
  subst hE
  subst hE0
  obtain⟨im,hw2,hw3⟩:=C3j HP.out
  obtain⟨W7,eh⟩:∃ W7,Hid (W7=W6.alloc (.cells #[.slice none 0 0,.slice none 0 0] 29)):=⟨_,rfl⟩
  have fc:Below W6.heap.size W6 W7:=by rw[eh.out];exact(Below.refl _ _).alloc (Nat.le_refl _) _
  have x7:W7.heap[W6.heap.size]?=some (.cells #[.slice none 0 0,.slice none 0 0] 29 (0,0)):=by rw[eh.out];exact heap_alloc_new _ _
  have lr:W6.heap.size+1≤W7.heap.size:=by rw[eh.out];simp
  have ki:W7.heap.size≤W6.heap.size+1:=by rw[eh.out];simp
  have et:Below W4.heap.size W4 W7:=BTr ag fc
  have fe:Below w.heap.size w W7:=BTr hb4 et
  have ew:Below w5.heap.size w5 W7:=BTr eu fc
  have iq:Hid (kr=rs.length):=by
   show _=_
   have h1:kr=rl.length:=(show Row ekR w5 W4.heap.size (.slice ar kr cr) rl from cj.out.1).len
   have h2:=congrArg List.length cj.out.2.2
   simp only[List.length_map] at h2
   omega
  have j9:kr≤4000:=by
   have:=iq.out
   have:=A5t (fun r:Rcd=>r.bytes.length+1) (fun _=>by omega) rs
   unfold rsW at im
   omega
  obtain⟨rd,gw⟩:∃ rd:List UInt8→List UInt8→Except Int (BI n),Hid (rd=fun t l=>A5u g n (msgD g t) l):=⟨_,rfl⟩
  have jk:Hid (E0b rd):=by show E0b rd;rw[gw.out];exact D9f HG.out n
  have jl:Hid (R=A1p g rd M.fields (rl.map Prod.fst) ⟨[],[]⟩ []):=by
   show _=_
   rw[←HR.out,B6z HP.out,cj.out.2.2,gw.out]
  have au:∀ V,FrB [W6.heap.size] W7 V→(V.heap[w.heap.size]?=some (.cells #[.slice am nm cm,.slice ae ne ce] 25 (0,0))∧V.heap[w.heap.size+1]?=some (.cells #[.string (S M.name),.slice af nf cf,.slice ab nb cb] 38 (0,0))∧V.heap[w.heap.size+2]?=some (.cells #[.int .i64 D] 3 (0,0))∧V.heap[w.heap.size+3]?=some (.cells #[.slice none 0 0,.slice none 0 0] 29 (0,0)))∧Hid (Row ekR V w.heap.size (.slice ar kr cr) rl∧∀ r∈rl,Row ekY V w.heap.size r.2.v r.1.bytes)∧Below w.heap.size w V:=fun V hV=>by
   have hk:∀ i,i≤3→V.heap[w.heap.size+i]?=W4.heap[w.heap.size+i]?:=fun i hi=>(hV.blk (by omega) (by simp;omega)).trans (et.block _ (by omega))
   have hlt:∀ j,(PV.v (ar,kr,cr)).ownBlock=some j→j<w5.heap.size:=fun j hj=>(World.ownsRow.lt cj.out.1 j hj).2
   refine⟨⟨(hk 0 (by omega)).trans x0,(hk 1 (by omega)).trans x1,(hk 2 (by omega)).trans x2,(hk 3 (by omega)).trans x3⟩,⟨?_,fun r hr=>?_⟩,fe.trans (hV.below fe.size (fun k hk=>by rw[List.mem_singleton] at hk;omega))⟩
   ·exact Row.frB (p:=(ar,kr,cr)) ((cj.out.1.below ew).mono (by omega)) hV (fun j hj hm=>by
     have:=hlt j (A9v.1 hj)
     rw[List.mem_singleton] at hm
     omega)
   ·exact(((cj.out.2.1 r hr).below ew).mono (by omega)).frY hV
  have bu:∀ U,FrB [W6.heap.size] W7 U→∀ x∈M.fields,x.kind=10→DDeep n U 46 #[.pointer (some ⟨w.heap.size,0,none⟩),.pointer (some ⟨w.heap.size+2,0,none⟩)] x.type (rd x.type) (fun l=>N n (msgD g x.type) l):=fun U hU x hx hk=>by
   obtain⟨⟨k0,k1,k2,k3⟩,_,f6⟩:=au U hU
   obtain⟨N,hN⟩:=HG.out.sub M HM.out x hx hk
   rw[gw.out]
   exact D0v jg.out (fun j hj=>(HI.out j hj).below f6) k0 HDn.out jf.out k2 hN
  have bg:∀ U,FrB [W6.heap.size] W7 U→∀ x∈M.fields,∀ (r:RI) (ay:Option Addr) (ny cy:Nat),Row ekY U w.heap.size (.slice ay ny cy) r.bytes→r.bytes.length≤4000→r.bits≤18446744073709551615→(x.kind=10→N n (msgD g x.type) r.bytes)→Calls Tryz.prog 47 #[.agg #[.string (S x.name),.int .i64 x.number,.int .i64 x.kind,.string (S x.type),.bool x.many,.int .i64 x.choice],.agg #[.int .i64 r.number,.int .i64 r.how,.int .u64 (r.bits:Int),.slice ay ny cy],.func (.func 46) #[] #[.pointer (some ⟨w.heap.size,0,none⟩),.pointer (some ⟨w.heap.size+2,0,none⟩)]] U fun e w'=>∃ (q:Int) (a1:Option Addr) (n1 c1:Nat) (a2:Option Addr) (n2 c2:Nat) (a3:Option Addr) (n3 c3:Nat) (E:Int),e = .returned (.tuple #[.agg #[.int .i64 q,.slice a1 n1 c1,.slice a2 n2 c2,.slice a3 n3 c3],.int .i64 E])∧Hid (TRes n w.heap.size U.heap.size (A4m rd x r) q a1 n1 c1 a2 n2 c2 a3 n3 c3 E w')∧Below U.heap.size U w':=fun U hU x hx r ay ny cy hr hl hb hq=>by
   obtain⟨_,_,f6⟩:=au U hU
   obtain⟨j,hj⟩:=List.mem_iff_getElem?.1 HM.out
   have:=D6e (B:=w.heap.size) f6.size x r hr hl hb ((HI.out j (List.getElem?_eq_some_iff.1 hj).1).below f6).tabs (enters_of Tryz.func46 (by kernel_rfl) rfl) (rd:=rd) (Q:=fun t l=>N n (msgD g t) l) (fun hk=>bu U hU x hx hk) hq
   refine this.mono ?_
   intro e w' ho
   obtain⟨q,a1,n1,c1,a2,n2,c2,a3,n3,c3,E,h1,h2,h3⟩:=ho.open
   exact⟨q,a1,n1,c1,a2,n2,c2,a3,n3,c3,E,h1,h2,h3⟩
  have gh:Hid (DSt n w.heap.size W7.heap.size W7 ⟨[],[],(none,0,0),(none,0,0)⟩ ⟨[],[]⟩ (none,0,0) []):=DSt.nil _ _ _ _
  have jn:Hid (∀ r∈rs,C4k r):=hw2
  have jm:Hid (rsW rs≤4000):=Nat.le_trans im hw3
  clear cu im hw2 hw3
  go_wp2_with fail
  rw[←eh.out]
  go_loopg [14,37] kr (fun gm ku ky wr=>∃ (i:Nat) (b:BO (BI n)) (cc:BL (LB n)) (ul:List (RI×PV)) (e0:Option Addr) (f0 g0:Nat) (e1:Option Addr) (f1 g1:Nat) (u0:Option Addr) (u1 u2:Nat),i+gm=kr∧ku = .slice u0 u1 u2∧ky = .int .i64 (i:Int)∧Hid (R=A1p g rd M.fields ((rl.drop i).map Prod.fst) b (ul.map Prod.fst))∧Hid (RSt M.fields b (2*rsW (rs.take i)))∧Hid (DSt n w.heap.size W7.heap.size wr cc b (u0,u1,u2) ul)∧Hid (cc.q0=(e0,f0,g0)∧cc.q1=(e1,f1,g1)∧ul.length≤i∧NumI rs i b)∧wr.heap[W6.heap.size]?=some (.cells #[.slice e0 f0 g0,.slice e1 f1 g1] 29 (0,0))∧FrB [W6.heap.size] W7 wr)
  case atStart=>exact⟨0,⟨[],[]⟩,⟨[],[],(none,0,0),(none,0,0)⟩,[],none,0,0,none,0,0,none,0,0,by omega,rfl,rfl,jl,⟨rfl,fun v hv=>(List.not_mem_nil hv).elim,fun v hv=>(List.not_mem_nil hv).elim,by simp⟩,gh,⟨rfl,rfl,Nat.zero_le _,fun v hv=>(List.not_mem_nil hv).elim⟩,x7,FrB.refl _ _⟩
  case round=>
   obtain⟨i,b,cc,ul,e0,f0,g0,e1,f1,g1,u0,u1,u2,hi,rfl,rfl,dz,HST,df,bh,xO,hF⟩:=hrel
   obtain⟨⟨k0,k1,k2,k3⟩,HK,hbr⟩:=au wr hF
   have lx:=hF.size
   by_cases hlt:i<kr
   ·obtain⟨p,Hp⟩:∃ p,Hid (rl[i]?=some p):=by
     have h1:kr=rl.length:=(show Row ekR w5 W4.heap.size (.slice ar kr cr) rl from cj.out.1).len
     exact⟨rl[i]'(by omega),List.getElem?_eq_getElem _⟩
    obtain⟨rc,ej⟩:∃ rc,Hid (rs[i]?=some rc):=⟨rs[i]'(by have:=iq.out;omega),List.getElem?_eq_getElem _⟩
    have ij:p.1=A9y rc:=by
     have h1:=congrArg (fun l=>l[i]?) cj.out.2.2
     simp only[List.getElem?_map,Hp.out,ej.out,Option.map_some,Option.some.injEq] at h1
     exact h1
    have a8:=jn.out rc (List.mem_of_getElem? ej.out)
    have aw:Hid (B7r p.1∧p.1.bytes.length≤4000∧p.1.bits≤18446744073709551615∧rsW (rs.take (i+1))=rsW (rs.take i)+(p.1.bytes.length+1)∧rsW (rs.take (i+1))≤4000):=by
     have e1:rsW (rs.take (i+1))=rsW (rs.take i)+(rc.bytes.length+1):=by
      rw[List.take_add_one,ej.out,C1y]
      rfl
     have e2:rsW rs=rsW (rs.take (i+1))+rsW (rs.drop (i+1)):=by rw[←C1y,List.take_append_drop]
     have e3:=jm.out
     rw[ij]
     exact⟨D7o a8,a8.2,a8.1.2.2.2.2,e1,by omega⟩
    obtain⟨gR,rfl,fj⟩:=(HK.out.1).get Hp.out
    obtain⟨⟨num,how,ah,byt⟩,⟨ay,ny,cy⟩⟩:=p
    have HY:Hid (Row ekY wr w.heap.size (.slice ay ny cy) byt):=HK.out.2 _ (List.mem_of_getElem? Hp.out)
    have c0:wr.cell? ⟨gR,i*4,none⟩=some (.int .i64 num):=fj 0 _ rfl
    have c1:wr.cell? ⟨gR,i*4+1,none⟩=some (.int .i64 how):=fj 1 _ rfl
    have c2:wr.cell? ⟨gR,i*4+2,none⟩=some (.int .u64 (ah:Int)):=fj 2 _ rfl
    have c3:wr.cell? ⟨gR,i*4+3,none⟩=some (.slice ay ny cy):=fj 3 _ rfl
    have jy:(i:Int)<(kr:Int):=by omega
    have fu:Hid (rl.drop i=((⟨num,how,ah,byt⟩,(ay,ny,cy)):RI×PV)::rl.drop (i+1)):=by
     show _=_
     obtain⟨h1,h2⟩:=List.getElem?_eq_some_iff.1 Hp.out
     rw[List.drop_eq_getElem_cons h1,h2]
    obtain⟨W8,ei⟩:∃ W8,Hid (W8=wr.alloc (.cells #[.int .i64 num,.int .i64 how,.int .u64 (ah:Int),.slice ay ny cy] 106)):=⟨_,rfl⟩
    have fz:Below wr.heap.size wr W8:=by rw[ei.out];exact(Below.refl _ _).alloc (Nat.le_refl _) _
    have x8:W8.heap[wr.heap.size]?=some (.cells #[.int .i64 num,.int .i64 how,.int .u64 (ah:Int),.slice ay ny cy] 106 (0,0)):=by rw[ei.out];exact heap_alloc_new _ _
    have lu:wr.heap.size+1≤W8.heap.size:=by rw[ei.out];simp
    have bv:=A3g (HF.out.below FAt.stays (BTr hbr fz)) ⟨ab,nb,cb,rfl⟩ ⟨M.name,rfl⟩ num
    obtain⟨m0,m1,m2⟩:=A5w ((fz.block _ (by omega)).trans k1)
    obtain⟨r0,r1,r2,r3⟩:=A4i x8
    have gl:Hid ((⟨num,how,ah,byt⟩:RI)=A9y rc):=ij
    clear fj ij a8 bu
    rcases A2s (fun f:FI=>decide (f.number=num)) M.fields with⟨hq1,hq2⟩|⟨kf,x,hq1,hq2,hq3,hq4⟩
    ·rw[hq1] at bv
     have HN:Hid (M.fields.find? (isF num)=none):=hq2
     clear hq1 hq2 bg
     go_upto_region 12 with fail
     rw[←ei.out]
     go_wp2_with fail
     refine bv.mono ?_
     rintro e w9 ⟨rfl,dv⟩
     have aj:Below wr.heap.size wr w9:=BTr fz dv
     have x9:=(dv.block _ (by omega)).trans x8
     have kj:=dv.size
     clear m0 m1 m2 r0 r1 r2 r3 c0 c1 c2 c3
     obtain⟨r0,r1,r2,r3⟩:=A4i x9
     obtain⟨br,dm⟩:∃ br,Hid (br=w9.alloc (.cells #[.int .i64 num,.int .i64 how,.int .u64 (ah:Int),.slice ay ny cy] 106)):=⟨_,rfl⟩
     have g9:Below w9.heap.size w9 br:=by rw[dm.out];exact(Below.refl _ _).alloc (Nat.le_refl _) _
     have jd:br.heap[w9.heap.size]?=some (.cells #[.int .i64 num,.int .i64 how,.int .u64 (ah:Int),.slice ay ny cy] 106 (0,0)):=by rw[dm.out];exact heap_alloc_new _ _
     have bt:Below wr.heap.size wr br:=BTr aj g9
     have fq:=bt.size
     have di:Hid (DSt n w.heap.size W7.heap.size br cc b (u0,u1,u2) ul):=df.out.fr (FrB.of_below bt:FrB [] wr br) (fun k hk=>by simp at hk)
     have hrow:Row ekR br w.heap.size (.slice u0 u1 u2) ul:=di.out.ur
     have ik:∀ ad,(some ⟨w9.heap.size,0,none⟩:Option Addr)=some ad→∀ k y,[((⟨num,how,ah,byt⟩,(ay,ny,cy)):RI×PV)][k]?=some y→∀ j u,(ekR.enc y)[j]?=some u→br.cell? (ad.add (k*ekR.size+j))=some u:=A8z jd rfl
     have hlen:(ul.length + [((⟨num,how,ah,byt⟩,(ay,ny,cy)):RI×PV)].length)*ekR.bytes≤140737488355328:=by
      have:=bh.out.2.2.1
      show(ul.length+1)*48≤_
      omega
     have jr:w.heap.size≤br.heap.size:=Nat.le_trans hbr.size fq
     clear jd x9
     go_wp2_with (at_builtin;rw[←dm.out];refine A1s rfl ekR _ _ rfl w.heap.size _ ul [((⟨num,how,ah,byt⟩,(ay,ny,cy)):RI×PV)] rfl hrow (some ⟨w9.heap.size,0,none⟩) 1 1 rfl rfl (fun h=>by cases h) ik (show 1≤48 by omega) hlen jr ?_)
     intro v4 bw hr4 hg4 hk4
     obtain⟨a4,n4,c4,rfl,k9⟩:=hr4.shape'
     have iz:FrB (own1 (u0,u1,u2)) br bw:=di.out.app_fr hg4
     have cg:Hid (DSt n w.heap.size W7.heap.size bw cc b (a4,n4,c4) (ul++[(⟨num,how,ah,byt⟩,(ay,ny,cy))])):=di.out.app (by omega) hg4 hr4 hk4 (HY.out.below bt)
     have bp:bw.heap[W6.heap.size]?=some (.cells #[.slice e0 f0 g0,.slice e1 f1 g1] 29 (0,0)):=(iz.blk (by omega) (fun h=>by have:=(df.out.ulo _ h).1;omega)).trans ((bt.block _ (by omega)).trans xO)
     have dt:FrB [W6.heap.size] W7 bw:=(hF.on bt).trans iz (fun _ h=>h) (fun k h=>.inr (df.out.ulo k h).1)
     have gi:Hid (R=A1p g rd M.fields ((rl.drop (i+1)).map Prod.fst) b ((ul++[((⟨num,how,ah,byt⟩,(ay,ny,cy)):RI×PV)]).map Prod.fst)):=by
      show _=_
      rw[dz.out,fu.out,List.map_cons,A8v HN.out,List.map_append]
      rfl
     have gp:Hid (RSt M.fields b (2*rsW (rs.take (i+1)))):=⟨HST.out.unk,HST.out.qk,HST.out.sh,by have:=HST.out.w;have:=aw.out.2.2.2.1;omega⟩
     have f9:Hid (cc.q0=(e0,f0,g0)∧cc.q1=(e1,f1,g1)∧(ul++[((⟨num,how,ah,byt⟩,(ay,ny,cy)):RI×PV)]).length≤i+1∧NumI rs (i+1) b):=⟨bh.out.1,bh.out.2.1,by have:=bh.out.2.2.1;simp;omega,bh.out.2.2.2.next⟩
     go_wp2_with fail
     go_roundg (kr-(i+1))
     case measure=>omega
     case rel=>exact⟨i+1,b,cc,ul++[(⟨num,how,ah,byt⟩,(ay,ny,cy))],e0,f0,g0,e1,f1,g1,a4,n4,c4,by omega,rfl,by go_simp,gi,gp,cg,f9,bp,dt⟩
    ·rw[hq1] at bv
     have HN:Hid (M.fields.find? (isF num)=some x):=hq3
     obtain⟨bf,of,rfl,ii⟩:=HF.out.get FAt.plain hq2
     have HX:Hid (x∈M.fields):=List.mem_of_getElem? hq2
     have lh:(kf:Int)<(nf:Int):=by have:=(List.getElem?_eq_some_iff.1 hq2).1;have:=HF.out.len.1;omega
     have jx:¬ (kf:Int)<0:=by omega
     obtain⟨y0,y1,y2,y3,y4,y5⟩:=ii
     rw[A0d] at y1 y2 y3 y4 y5
     clear hq1 hq2 hq3 hq4
     go_upto_region 12 with fail
     rw[←ei.out]
     go_wp2_with fail
     refine bv.mono ?_
     rintro e w9 ⟨rfl,dv⟩
     have aj:Below wr.heap.size wr w9:=BTr fz dv
     have x9:=(dv.block _ (by omega)).trans x8
     have kj:=dv.size
     have io:=aj.size
     have ig:Below w.heap.size w w9:=BTr hbr aj
     have jt:FrB [W6.heap.size] W7 w9:=hF.on aj
     clear m0 m1 m2 r0 r1 r2 r3 c0 c1 c2 c3 bv
     have jb:=(aj.block _ (by omega)).trans k1
     have ac:∀ V,Below w9.heap.size w9 V→V.cell? ⟨w.heap.size+1,1,none⟩=some (.slice (some ⟨bf,of,none⟩) nf cf)∧(V.cell? ⟨wr.heap.size,0,none⟩=some (.int .i64 num)∧V.cell? ⟨wr.heap.size,1,none⟩=some (.int .i64 how)∧V.cell? ⟨wr.heap.size,2,none⟩=some (.int .u64 (ah:Int))∧V.cell? ⟨wr.heap.size,3,none⟩=some (.slice ay ny cy))∧V.cell? ⟨bf,of+kf*6,none⟩=some (.string (S x.name))∧V.cell? ⟨bf,of+kf*6+1,none⟩=some (.int .i64 x.number)∧V.cell? ⟨bf,of+kf*6+2,none⟩=some (.int .i64 x.kind)∧V.cell? ⟨bf,of+kf*6+3,none⟩=some (.string (S x.type))∧V.cell? ⟨bf,of+kf*6+4,none⟩=some (.bool x.many)∧V.cell? ⟨bf,of+kf*6+5,none⟩=some (.int .i64 x.choice):=fun V hV=>by
      have dx:=BTr ig hV
      exact⟨A0a ((hV.block _ (by omega)).trans jb) 1 _ rfl,A4i ((hV.block _ (by omega)).trans x9),A0c dx y0,A0c dx y1,A0c dx y2,A0c dx y3,A0c dx y4,A0c dx y5⟩
     have ir:Hid (x.kind=10→N n (msgD g x.type) byt∧(x.many=false→A8p g x∨∀ j,j<i→∀ r',rs[j]?=some r'→(A9y r').number≠num)):=fun hk=>by
      have h:=jh.out.step ji.out HM.out HP.out ej.out (x:=x) (by rw[←gl.out];exact HN.out) hk
      rw[←gl.out] at h
      exact h
     obtain⟨Rt,d9⟩:∃ Rt,Hid (A4m rd x (⟨num,how,ah,byt⟩:RI)=Rt):=⟨_,rfl⟩
     have il:∀ V,Below w9.heap.size w9 V→Calls Tryz.prog 47 #[.agg #[.string (S x.name),.int .i64 x.number,.int .i64 x.kind,.string (S x.type),.bool x.many,.int .i64 x.choice],.agg #[.int .i64 num,.int .i64 how,.int .u64 (ah:Int),.slice ay ny cy],.func (.func 46) #[] #[.pointer (some ⟨w.heap.size,0,none⟩),.pointer (some ⟨w.heap.size+2,0,none⟩)]] V fun e w'=>∃ (q:Int) (a1:Option Addr) (n1 c1:Nat) (a2:Option Addr) (n2 c2:Nat) (a3:Option Addr) (n3 c3:Nat) (E:Int),e = .returned (.tuple #[.agg #[.int .i64 q,.slice a1 n1 c1,.slice a2 n2 c2,.slice a3 n3 c3],.int .i64 E])∧Hid (TRes n w.heap.size V.heap.size Rt q a1 n1 c1 a2 n2 c2 a3 n3 c3 E w')∧Below V.heap.size V w':=fun V hV=>by
      have:=bg V (jt.on hV) x HX.out (⟨num,how,ah,byt⟩:RI) ay ny cy (HY.out.below (BTr aj hV)) aw.out.2.1 aw.out.2.2.1 (fun hk=>(ir.out hk).1)
      rw[d9.out] at this
      exact this
     have hd:Below w9.heap.size w9 w9.drew:=(Below.refl _ _).drew
     have hzd:w9.drew.heap.size=w9.heap.size:=rfl
     have fy:Below w9.heap.size w9 (w9.alloc (.cells #[.int .i64 0,.slice none 0 0,.slice none 0 0,.slice none 0 0] 62)).drew:=((Below.refl _ _).alloc (Nat.le_refl _) _).drew
     have xA:(w9.alloc (.cells #[.int .i64 0,.slice none 0 0,.slice none 0 0,.slice none 0 0] 62)).drew.heap[w9.heap.size]?=some (.cells #[.int .i64 0,.slice none 0 0,.slice none 0 0,.slice none 0 0] 62 (0,0)):=heap_alloc_new _ _
     clear bg au y0 y1 y2 y3 y4 y5 jb x9
     go_upto_region 15 with fail
     go_cut [18,19] from 51 to 61 (fun kv kx wc=>∃ (K:Nat) (q:Int) (a1:Option Addr) (n1 c1:Nat) (a2:Option Addr) (n2 c2:Nat) (a3:Option Addr) (n3 c3:Nat) (E:Int),kv = .pointer (some ⟨K,0,none⟩)∧kx = .int .i64 E∧w9.heap.size≤K∧wc.heap[K]?=some (.cells #[.int .i64 q,.slice a1 n1 c1,.slice a2 n2 c2,.slice a3 n3 c3] 62 (0,0))∧Hid (TRes n w.heap.size w9.heap.size Rt q a1 n1 c1 a2 n2 c2 a3 n3 c3 E wc)∧Below w9.heap.size w9 wc)
     case first=>
      refine wp_region_held_drew (S:=fun U=>Below w9.heap.size w9 U) (by kernel_rfl) hd (fun hHeld=>?_)
      refine tK (i:=0) (v:=?vr1) rfl ⟨by rfl,?hyr1⟩ ?_
      case hyr1=>(intro W h;have:=ac W h;go_simp;first|done|with_reducible rfl)
      try simp only[pT,Act.put]
      refine tK (i:=1) (v:=?vr2) rfl ⟨by rfl,?hyr2⟩ ?_
      case hyr2=>(intro W h;have:=ac W h;go_simp;first|done|with_reducible rfl)
      try simp only[pT,Act.put]
      refine tK (i:=2) (v:=?vr3) rfl ⟨by rfl,?hyr3⟩ ?_
      case hyr3=>(intro W h;have:=ac W h;go_simp;first|done|with_reducible rfl)
      try simp only[pT,Act.put]
      refine tK (i:=3) (v:=?vr4) rfl ⟨by rfl,?hyr4⟩ ?_
      case hyr4=>(intro W h;have:=ac W h;go_simp;first|done|with_reducible rfl)
      try simp only[pT,Act.put]
      refine tK (i:=4) (v:=?vr5) rfl ⟨by rfl,?hyr5⟩ ?_
      case hyr5=>(intro W h;have:=ac W h;go_simp;first|done|with_reducible rfl)
      try simp only[pT,Act.put]
      refine tK (i:=5) (v:=?vr6) rfl ⟨by rfl,?hyr6⟩ ?_
      case hyr6=>(intro W h;have:=ac W h;go_simp;first|done|with_reducible rfl)
      try simp only[pT,Act.put]
      refine tK (i:=6) (v:=?vr7) rfl ⟨by rfl,?hyr7⟩ ?_
      case hyr7=>(intro W h;have:=ac W h;go_simp;first|done|with_reducible rfl)
      try simp only[pT,Act.put]
      refine rB (i:=7) (j:=11) rfl (fun K hK=>?_) rfl fun K hK=>?_
      ·skip
       go_simp
       refine(il _ (by with_reducible first|exact hd|exact fy)).mono ?_
       rintro e V3 ⟨q,a1,n1,c1,a2,n2,c2,a3,n3,c3,E,rfl,dw,hb3⟩
       have hz3:=hb3.size
       have eo:=BTr hd hb3
       refine hK.out _ _ ?_ (fun hHeld=>?_)
       ·(try dsimp only);with_reducible assumption
       clear hK K
       try simp only[pT,Act.put]
       refine tK (i:=8) (v:=?vr8) rfl ⟨by rfl,?hyr8⟩ ?_
       case hyr8=>(intro W h;have:=ac W h;go_simp;first|done|with_reducible rfl)
       try simp only[pT,Act.put]
       refine tK (i:=9) (v:=?vr9) rfl ⟨by rfl,?hyr9⟩ ?_
       case hyr9=>(intro W h;have:=ac W h;go_simp;first|done|with_reducible rfl)
       try simp only[pT,Act.put]
       refine tK (i:=10) (v:=?vr10) rfl ⟨by rfl,?hyr10⟩ ?_
       case hyr10=>(intro W h;have:=ac W h;go_simp;first|done|with_reducible rfl)
       try simp only[pT,Act.put]
       refine rA (i:=11) rfl fun K hK=>?_
       go_simp
       have lf:Below w9.heap.size w9 (V3.alloc (.cells #[.int .i64 0,.slice none 0 0,.slice none 0 0,.slice none 0 0] 62)):=BTr eo ((Below.refl _ _).alloc (Nat.le_refl _) _)
       have jq:Below w9.heap.size w9 (V3.alloc (.cells #[.int .i64 q,.slice a1 n1 c1,.slice a2 n2 c2,.slice a3 n3 c3] 62)):=BTr eo ((Below.refl _ _).alloc (Nat.le_refl _) _)
       refine hK.out _ _ ?_ (fun hHeld=>?_)
       ·(try dsimp only);with_reducible assumption
       clear hK K
       try simp only[pT,Act.put]
       refine rA (i:=12) rfl fun K hK=>?_
       go_simp
       refine hK.out _ _ ?_ (fun hHeld=>?_)
       ·(try dsimp only);with_reducible assumption
       clear hK K
       try simp only[pT,Act.put]
       refine tK (i:=13) (v:=?vr11) rfl ⟨by rfl,?hyr11⟩ ?_
       case hyr11=>(intro W h;have:=ac W h;go_simp;first|done|with_reducible rfl)
       try simp only[pT,Act.put]
       refine wpAnyH_done (by kernel_rfl) ?_ _
       go_wp2_with fail
       go_meet
       refine⟨V3.heap.size,q,a1,n1,c1,a2,n2,c2,a3,n3,c3,E,rfl,rfl,eo.size,heap_alloc_new _ _,dw.out.fr (FrB.of_below ((Below.refl _ _).alloc (Nat.le_refl _) _):FrB [] _ _) (fun k hk=>by simp at hk) (Nat.le_refl _),jq⟩
      ·skip
       go_simp
       refine hK.out _ _ ?_ (fun hHeld=>?_)
       ·(try dsimp only);with_reducible assumption
       clear hK K
       try simp only[pT,Act.put]
       refine rA (i:=7) rfl fun K hK=>?_
       go_simp
       refine(il _ (by with_reducible first|exact hd|exact fy)).mono ?_
       rintro e V3 ⟨q,a1,n1,c1,a2,n2,c2,a3,n3,c3,E,rfl,dw,hb3⟩
       have hz3:=hb3.size
       have eo:=BTr fy hb3
       have kT:=(hb3.block w9.heap.size (by show w9.heap.size<(w9.alloc _).heap.size;simp)).trans xA
       obtain⟨ly,lz,l5,l6⟩:=A4i kT
       have tf:=A0b kT
       have jp:Below w9.heap.size w9 ((((V3.setCell ⟨w9.heap.size,0,none⟩ (.int .i64 q)).setCell ⟨w9.heap.size,1,none⟩ (.slice a1 n1 c1)).setCell ⟨w9.heap.size,2,none⟩ (.slice a2 n2 c2)).setCell ⟨w9.heap.size,3,none⟩ (.slice a3 n3 c3)):=KB_set (KB_set (KB_set (KB_set eo (Nat.le_refl _)) (Nat.le_refl _)) (Nat.le_refl _)) (Nat.le_refl _)
       refine hK.out _ _ ?_ (fun hHeld=>?_)
       ·(try dsimp only);with_reducible assumption
       clear hK K
       try simp only[pT,Act.put]
       refine tK (i:=8) (v:=?vr12) rfl ⟨by rfl,?hyr12⟩ ?_
       case hyr12=>(intro W h;have:=ac W h;go_simp;first|done|with_reducible rfl)
       try simp only[pT,Act.put]
       refine tK (i:=9) (v:=?vr13) rfl ⟨by rfl,?hyr13⟩ ?_
       case hyr13=>(intro W h;have:=ac W h;go_simp;first|done|with_reducible rfl)
       try simp only[pT,Act.put]
       refine tK (i:=10) (v:=?vr14) rfl ⟨by rfl,?hyr14⟩ ?_
       case hyr14=>(intro W h;have:=ac W h;go_simp;first|done|with_reducible rfl)
       try simp only[pT,Act.put]
       refine rA (i:=12) rfl fun K hK=>?_
       go_simp
       refine hK.out _ _ ?_ (fun hHeld=>?_)
       ·(try dsimp only);with_reducible assumption
       clear hK K
       try simp only[pT,Act.put]
       refine tK (i:=13) (v:=?vr15) rfl ⟨by rfl,?hyr15⟩ ?_
       case hyr15=>(intro W h;have:=ac W h;go_simp;first|done|with_reducible rfl)
       try simp only[pT,Act.put]
       refine wpAnyH_done (by kernel_rfl) ?_ _
       go_wp2_with fail
       go_meet
       refine⟨w9.heap.size,q,a1,n1,c1,a2,n2,c2,a3,n3,c3,E,rfl,rfl,Nat.le_refl _,heap_setCell_same _ _ 3 _ _ _ (heap_setCell_same _ _ 2 _ _ _ (heap_setCell_same _ _ 1 _ _ _ (heap_setCell_same _ _ 0 _ _ _ kT))),dw.out.fr (fr4 kT) (fun k hk=>by rw[List.mem_singleton.1 hk];show w9.heap.size<(w9.alloc _).heap.size;simp) (by show w9.heap.size≤(w9.alloc _).heap.size;simp),jp⟩
     case rest=>
      obtain⟨K,q,a1,n1,c1,a2,n2,c2,a3,n3,c3,E,rfl,rfl,lg,xK,dw,ju⟩:=hcut
      have ak:Below wr.heap.size wr wc:=BTr aj ju
      have fh:Below w.heap.size w wc:=BTr hbr ak
      have lw:=ak.size
      clear ac il fy xA hd hzd
      have jc:=(ak.block _ (by omega)).trans k3
      obtain⟨q0,q1⟩:=A0r jc
      have qf:=A0b jc
      cases Rt with
      | error E'=>
       obtain⟨dp,dr⟩:=dw.out
       subst dp
       have eE:(E != 0)=true:=by simpa using dr
       have jo:(E==0)=false:=by simpa using dr
       have bq:Hid (R = .error E):=by
        show _=_
        rw[dz.out,fu.out,List.map_cons,B3i HN.out d9.out]
        rfl
       go_wp2_with fail
       refine bodyPost_ret (v:=.tuple #[.agg #[.slice none 0 0,.slice none 0 0],.int .i64 E]) (by simp[results,Tryz.results21,go_sem, *]) rfl ?_
       rw[bq.out]
       exact⟨dr,rfl,KB_set (KB_set fh (by omega)) (by omega)⟩
      | ok v=>
       obtain⟨dp,y',d1,d2,d3,d4,d5,d6,d7,d8⟩:=dw.out
       subst dp
       have dg:Hid (TldOk x (byt.length+1) v):=D1z jk.out (HG.out.num M HM.out x HX.out) aw.out.2.1 aw.out.2.2.1 d9.out
       have ja:x.number=num:=A4r HN.out
       have dy:y'.number=num:=by
        have h1:=dg.out.num
        rw[←d5] at h1
        exact(show y'.number=x.number from h1).trans ja
       obtain⟨Rw,ee⟩:∃ Rw,Hid (A2b g n M.fields x b v=Rw):=⟨_,rfl⟩
       have j5:q=num:=d1.symm.trans dy
       subst j5
       have dh:Calls Tryz.prog 48 #[.agg #[.slice am nm cm,.slice ae ne ce],.agg #[.string (S M.name),.slice (some ⟨bf,of,none⟩) nf cf,.slice ab nb cb],.agg #[.slice e0 f0 g0,.slice e1 f1 g1],.agg #[.int .i64 q,.slice a1 n1 c1,.slice a2 n2 c2,.slice a3 n3 c3]] wc fun e w'=>∃ (i0:Option Addr) (j0 l0:Nat) (i1:Option Addr) (j1 l1:Nat) (E:Int),e = .returned (.tuple #[.agg #[.slice i0 j0 l0,.slice i1 j1 l1],.int .i64 E])∧Hid (E2k n wc.heap.size e0 f0 g0 e1 f1 g1 b Rw i0 j0 l0 i1 j1 l1 E w')∧Below wr.heap.size wr w':=by
        have jv:BRd n wr (.slice e0 f0 g0) (.slice e1 f1 g1) b:=by
         have h1:=OwnB.rd (show OwnB w.heap.size (n+1) wr cc from df.out.own)
         rw[show LB.pl (n+1) cc=b from df.out.pl,bh.out.1,bh.out.2.1] at h1
         exact h1
        have jz:BQk (n+1) b:=⟨HST.out.qk,fun r hr=>by rw[show BO.unk b = [] from HST.out.unk] at hr;cases hr⟩
        have hst:=HST.out.w
        have hr4:=aw.out.2.2.2
        have lj:=dg.out.w
        have j7:rsW (rs.take (i+1))=rsW (rs.take i)+(byt.length+1):=hr4.1
        have j8:=hr4.2
        have hjb:jWB (n+1) b≤1000000000:=by
         show((BO.vals b).map (jW (jWB n))).sum+(BO.unk b).length≤_
         rw[show BO.unk b = [] from HST.out.unk]
         simp only[List.length_nil]
         omega
        have fk:=(HI.out 0 (by have:=List.length_pos_of_mem HM.out;omega)).fok M HM.out
        have:=D6o (g:=g) (d:=n) (W0:=w) (u:=wr) (w:=wc) hbr ak (fun j hj=>(HI.out j hj).below hbr) (nam:=M.name) (ab:=ab) (nb:=nb) (cb:=cb) (HF.out.below FAt.stays hbr) fk.1 fk.2 jv (D8z (n+1) b jz hjb) d6 (fun k hk=>Nat.le_trans io (d7 k hk)) d8 (by rw[d5];exact D7u dg.out.qk (by omega)) (x:=x) (fun hm hk ⟨u,hu⟩=>by
         rcases (ir.out hk).2 hm with h|h
         ·exact h
         ·exfalso
          obtain⟨j,hj,r',j6,hn⟩:=bh.out.2.2.2 u (List.mem_of_find?_eq_some hu)
          have i7:=List.find?_some hu
          simp only[isV,decide_eq_true_eq] at i7
          exact h j hj r' j6 (hn.trans (i7.trans dy))) (by rw[dy];exact HN.out) (by rw[d5];omega) (fun hm hk=>⟨HG.out.sub M HM.out x HX.out hk,fun v' hv' ke=>by
         rcases hv' with hv'|hv'
         ·exact HST.out.sh v' hv' x (by rw[ke,dy];exact HN.out) hm hk
         ·rw[hv',d5]
          exact dg.out.sh hk⟩)
        rw[dy,d2,d3,d4,d5,ee.out] at this
        refine this.mono ?_
        intro e w' ho
        obtain⟨i0,j0,l0,i1,j1,l1,E,h1,h2⟩:=ho.2.open
        exact⟨i0,j0,l0,i1,j1,l1,E,h1,h2,ho.1⟩
       have km:=(ak.block _ (by omega)).trans k0
       have kn:=(ak.block _ (by omega)).trans k1
       have kz:=(ak.block _ (by omega)).trans xO
       obtain⟨m0,m1⟩:=A0r km
       obtain⟨m2,m3,m4⟩:=A5w kn
       obtain⟨m5,m6⟩:=A0r kz
       obtain⟨m7,m8,m9,kt⟩:=A4i xK
       clear d1 d2 d3 d4 d5 d6 d7 d8 ja dy
       go_wp2_with fail
       refine dh.mono ?_
       rintro e bw ⟨i0,j0,l0,i1,j1,l1,E,rfl,iu,bk⟩
       have bp:=(bk.block _ (by omega)).trans xO
       have ft:=(bk.block _ (by omega)).trans k3
       have kg:=bk.size
       clear m0 m1 m2 m3 m4 m5 m6 m7 m8 m9 kt q0 q1 qf dh
       obtain⟨m5,m6⟩:=A0r bp
       have mf:=A0b bp
       obtain⟨q0,q1⟩:=A0r ft
       have qf:=A0b ft
       have n1:¬ W6.heap.size=w.heap.size+3:=by have:=ag.size;omega
       have n2:¬ w.heap.size+3=W6.heap.size:=by have:=ag.size;omega
       have fd:Below w.heap.size w bw:=BTr hbr bk
       cases Rw with
       | error E'=>
        obtain⟨dp,dr⟩:=iu.out
        subst dp
        have eE:(E != 0)=true:=by simpa using dr
        have jo:(E==0)=false:=by simpa using dr
        have bq:Hid (R = .error E):=by
         show _=_
         rw[dz.out,fu.out,List.map_cons,A6w HN.out d9.out ee.out]
         rfl
        go_wp2_with fail
        refine bodyPost_ret (v:=.tuple #[.agg #[.slice none 0 0,.slice none 0 0],.int .i64 E]) (by simp[results,Tryz.results21,go_sem, *]) rfl ?_
        rw[bq.out]
        exact⟨dr,rfl,KB_set (KB_set (KB_set (KB_set fd (by have:=ag.size;omega)) (by have:=ag.size;omega)) (by omega)) (by omega)⟩
       | ok b'=>
        obtain⟨dp,i6⟩:=iu.out
        subst dp
        have f11:=fr2 bp (x0:=.slice i0 j0 l0) (x1:=.slice i1 j1 l1)
        have dt:FrB [W6.heap.size] W7 ((bw.setCell ⟨W6.heap.size,0,none⟩ (.slice i0 j0 l0)).setCell ⟨W6.heap.size,1,none⟩ (.slice i1 j1 l1)):=(hF.on bk).trans f11 (fun _ h=>h) (fun _ h=>.inl h)
        have ip:((bw.setCell ⟨W6.heap.size,0,none⟩ (.slice i0 j0 l0)).setCell ⟨W6.heap.size,1,none⟩ (.slice i1 j1 l1)).heap[W6.heap.size]?=some (.cells #[.slice i0 j0 l0,.slice i1 j1 l1] 29 (0,0)):=heap_setCell_same _ _ 1 _ _ _ (heap_setCell_same _ _ 0 _ _ _ bp)
        have gj:Hid (R=A1p g rd M.fields ((rl.drop (i+1)).map Prod.fst) b' (ul.map Prod.fst)):=by
         show _=_
         rw[dz.out,fu.out,List.map_cons,A9x HN.out d9.out ee.out]
        have gq:Hid (RSt M.fields b' (2*rsW (rs.take (i+1)))):=by
         have h1:=D2m (q:=byt.length+1) (by rw[dg.out.num,A4r HN.out];exact HN.out) HST.out dg.out (HG.out.sub M HM.out x HX.out) ee.out
         have h2:rsW (rs.take (i+1))=rsW (rs.take i)+(byt.length+1):=aw.out.2.2.2.1
         have e:2*rsW (rs.take i)+2*(byt.length+1)=2*rsW (rs.take (i+1)):=by omega
         rw[e] at h1
         exact h1
        have fo:∀ k∈[W6.heap.size],k<W7.heap.size:=fun k hk=>by rw[List.mem_singleton.1 hk];omega
        have cg:Hid (DSt n w.heap.size W7.heap.size bw cc b (u0,u1,u2) ul):=df.out.fr (FrB.of_below bk:FrB [] wr bw) (fun k hk=>by simp at hk)
        obtain⟨dn,dl⟩:∃ dn:BL (LB n),Hid (DSt n w.heap.size W7.heap.size ((bw.setCell ⟨W6.heap.size,0,none⟩ (.slice i0 j0 l0)).setCell ⟨W6.heap.size,1,none⟩ (.slice i1 j1 l1)) dn b' (u0,u1,u2) ul∧dn.q0=(i0,j0,l0)∧dn.q1=(i1,j1,l1)):=by
         rcases i6 with⟨rfl,rfl,rfl,rfl,rfl,rfl,rfl⟩|⟨c',fx,gy,gz,g8⟩
         ·exact⟨cc,cg.out.fr f11 fo,bh.out.1,bh.out.2.1⟩
         ·have js:DSt n w.heap.size W7.heap.size wc cc b (u0,u1,u2) ul:=df.out.fr (FrB.of_below ak:FrB [] wr wc) (fun k hk=>by simp at hk)
          refine⟨c',(js.new (by omega) (by have:=fh.size;omega) cg.out gz gy g8).fr f11 fo,?_,?_⟩
          ·have h1 : [PV.v (BL.q0 c'),PV.v (BL.q1 c')] = [.slice i0 j0 l0,.slice i1 j1 l1]:=fx
           simp only[List.cons.injEq,and_true] at h1
           exact D7j h1.1
          ·have h1 : [PV.v (BL.q0 c'),PV.v (BL.q1 c')] = [.slice i0 j0 l0,.slice i1 j1 l1]:=fx
           simp only[List.cons.injEq,and_true] at h1
           exact D7j h1.2
        have gc:Hid (dn.q0=(i0,j0,l0)∧dn.q1=(i1,j1,l1)∧ul.length≤i+1∧NumI rs (i+1) b'):=⟨dl.out.2.1,dl.out.2.2,by have:=bh.out.2.2.1;omega,bh.out.2.2.2.step ej.out (by rw[dg.out.num,A4r HN.out];exact HN.out) (by rw[dg.out.num,A4r HN.out,←gl.out]) ee.out⟩
        have gg:Hid _:=dl.out.1
        clear i6
        go_wp2_with fail
        go_roundg (kr-(i+1))
        case measure=>omega
        case rel=>exact⟨i+1,b',dn,ul,i0,j0,l0,i1,j1,l1,u0,u1,u2,by omega,rfl,by go_simp,gj,gq,gg,gc,ip,dt⟩
   ·have jw:i=kr:=by omega
    have li:¬ (i:Int)<(kr:Int):=by omega
    have bq:Hid (R = .ok (⟨b.vals,ul.map Prod.fst⟩:BO (BI n))):=by
     show _=_
     have h1:kr=rl.length:=(show Row ekR w5 W4.heap.size (.slice ar kr cr) rl from cj.out.1).len
     rw[dz.out,List.drop_eq_nil_of_le (by omega)]
     rfl
    obtain⟨p0,p1⟩:=A0r xO
    obtain⟨q0,q1⟩:=A0r k3
    have pf:=A0b xO
    have qf:=A0b k3
    have n1:¬ W6.heap.size=w.heap.size+3:=by have:=ag.size;omega
    have n2:¬ w.heap.size+3=W6.heap.size:=by have:=ag.size;omega
    clear bg bu au jw
    go_wp2_with fail
    refine bodyPost_ret (v:=.tuple #[.agg #[.slice e0 f0 g0,.slice u0 u1 u2],.int .i64 0]) (by simp[results,Tryz.results21,go_sem, *]) rfl ?_
    have f1:FrB [W6.heap.size] wr (wr.setCell ⟨W6.heap.size,1,none⟩ (.slice u0 u1 u2)):=frD xO (by decide)
    have ko:(wr.setCell ⟨W6.heap.size,1,none⟩ (.slice u0 u1 u2)).heap[w.heap.size+3]?=some (.cells #[.slice none 0 0,.slice none 0 0] 29 (0,0)):=by rw[Below.heap_setCell _ _ _ _ (show w.heap.size+3≠W6.heap.size from n2)];exact k3
    have f2:=f1.trans (fr2 ko (x0:=.slice e0 f0 g0) (x1:=.slice u0 u1 u2)) (H:=[W6.heap.size,w.heap.size+3]) (fun i h=>by rw[List.mem_singleton.1 h];simp) (fun i h=>.inl (by rw[List.mem_singleton.1 h];simp))
    obtain⟨fx,gy,gz,g8⟩:=df.out.fin
    rw[bq.out]
    refine⟨⟨cc.vals,ul,cc.q0,(u0,u1,u2)⟩,e0,f0,g0,u0,u1,u2,?_,rfl,gy,OwnB.fr (n+1) _ _ _ _ fx f2 (fun k hk hm=>?_),gz,hbr.trans (f2.below hbr.size (fun k hk=>?_))⟩
    ·show [cc.q0.v,PV.v (u0,u1,u2)]=_
     rw[bh.out.1]
     rfl
    ·have h1:=g8 k hk
     have h2:=ag.size
     simp only[List.mem_cons,List.not_mem_nil,or_false] at hm
     omega
    ·have h2:=ag.size
     simp only[List.mem_cons,List.not_mem_nil,or_false] at hk
     omega
 ·have HT:Hid (R = .error cw):=by
   show _=_
   rw[←HR.out,B9k HP.out (by have:=HE.out;omega),HE.out]
  have je:=(ag.block (w.heap.size+3) (by omega)).trans x3
  obtain⟨p0,p1⟩:=A0r je
  have pf:=A0b je
  have n1:¬ w5.heap.size=w.heap.size+3:=by omega
  have n2:¬ w.heap.size+3=w5.heap.size:=by omega
  go_upto_region 5 with fail
  go_region
  all_goals
   go_wp2_with fail
   refine bodyPost_ret (v:=.tuple #[.agg #[.slice none 0 0,.slice none 0 0],.int .i64 cw]) (by simp[results,Tryz.results21,go_sem, *]) rfl ?_
   rw[HT.out]
   exact⟨hE0,rfl,(KB_set (KB_set ie (by omega)) (by omega)).drew⟩
theorem C3r {g:GI}(hG:FGd g){N:Nat→MI→List UInt8→Prop}(ac:Hid (NjC g N)):∀ n,B4h g N n
 | 0=>D0y g N
 | n+1=>D0x hG ac (C3r hG ac n)
end L
end Go.Proofs.YtgaoojpakjjdnaaGreatDoor
