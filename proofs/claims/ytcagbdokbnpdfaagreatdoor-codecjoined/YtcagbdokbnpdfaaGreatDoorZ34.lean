import Derived.Test.YtcagbdokbnpdfaaGreatDoorZ33
namespace Go.Proofs.YtcagbdokbnpdfaaGreatDoor
namespace L
open Go.RowKit
set_option linter.unusedVariables false
theorem D1a {p:PV}{a:Option Addr}{n c:Nat}(h:p.v = .slice a n c):p=(a,n,c):=by
 obtain⟨x,y,z⟩:=p
 simp only[PV.v,Value.slice.injEq] at h
 obtain⟨rfl,rfl,rfl⟩:=h
 rfl
theorem frD {c:Nat}{V:World}{i:Nat}{v:Value}{cs:Array Value}{t:TypeId}(hc:V.heap[c]?=some (.cells cs t (0,0))) (ht:t≠5):FrB [c] V (V.setCell ⟨c,i,none⟩ v):=
 ⟨rfl,rfl,rfl,by simp,fun k hk h=>by
  rcases h with h|⟨cs',fr,h⟩
  ·exact Below.heap_setCell _ _ _ _ (fun e=>h (List.mem_singleton.2 e))
  ·refine Below.heap_setCell _ _ _ _ (fun e=>?_)
   rw[show k=c from e,hc] at h
   simp only[Option.some.injEq,Obj.cells.injEq] at h
   exact ht h.2.1⟩
set_option maxHeartbeats 4000000 in
set_option maxRecDepth 100000 in
theorem C6l (g:GI):B1w g 0:=by
 intro w am nm cm ae ne ce af nf cf ab nb cb M ao k c l D hD hD1 hI hM hf hl
 show Calls Tryz.prog 31 _ w fun e w'=>(10:Int)≠0∧e = .returned (.tuple #[.agg #[.slice none 0 0,.slice none 0 0],.int .i64 10])∧Below w.heap.size w w'
 have hDD:D=13:=by omega
 subst hDD
 have hb:Below w.heap.size w ((((w.alloc (.cells #[.slice am nm cm,.slice ae ne ce] 25)).alloc (.cells #[.string (S M.name),.slice af nf cf,.slice ab nb cb] 35)).alloc (.cells #[.int .i64 13] 3)).alloc (.cells #[.slice none 0 0,.slice none 0 0] 29)):=((((Below.refl _ _).alloc (Nat.le_refl _) _).alloc (by simp) _).alloc (by simp;omega) _).alloc (by simp;omega) _
 clear hI hM hf hl hD hD1
 go_enter Tryz.func31,Tryz.ntmps31
 go_wp2_with fail
 refine bodyPost_ret (v:=.tuple #[.agg #[.slice none 0 0,.slice none 0 0],.int .i64 10]) (by simp[results,Tryz.results31,go_sem, *]) rfl ?_
 exact⟨by decide,rfl,hb⟩
set_option maxHeartbeats 16000000 in
set_option maxRecDepth 100000 in
theorem C6k {g:GI}(hG:FGd g){n:Nat}(ih:B1w g n):B1w g (n+1):=by
 intro w am nm cm ae ne ce af nf cf ab nb cb M ao k c l D hD hD1 hI hM hf hl
 obtain⟨W4,HW4⟩:∃ W4,Hid (W4=(((w.alloc (.cells #[.slice am nm cm,.slice ae ne ce] 25)).alloc (.cells #[.string (S M.name),.slice af nf cf,.slice ab nb cb] 35)).alloc (.cells #[.int .i64 D] 3)).alloc (.cells #[.slice none 0 0,.slice none 0 0] 29)):=⟨_,rfl⟩
 obtain⟨x0,x1,x2,x3,z0⟩:=B9g w (.cells #[.slice am nm cm,.slice ae ne ce] 25) (.cells #[.string (S M.name),.slice af nf cf,.slice ab nb cb] 35) (.cells #[.int .i64 D] 3) (.cells #[.slice none 0 0,.slice none 0 0] 29)
 rw[←HW4.out] at x0 x1 x2 x3 z0
 have hb4:Below w.heap.size w W4:=by rw[HW4.out];exact((((Below.refl _ _).alloc (Nat.le_refl _) _).alloc (by simp) _).alloc (by simp;omega) _).alloc (by simp;omega) _
 have hz4:w.heap.size+4≤W4.heap.size:=Nat.le_of_eq z0.symm
 clear z0
 have h12:¬ 12 < D:=by omega
 have hDn:D+(n:Int)=12:=by omega
 obtain⟨rs,E,A,hp⟩:∃ rs E A,A1t l=(rs,E,A):=⟨_,_,_,rfl⟩
 obtain⟨R,HR⟩:∃ R,Hid (A3b g (n+1) M l=R):=⟨_,rfl⟩
 have hpar:=C0d (C0i (hl.below YAt.stays hb4)) hp
 obtain⟨EI',HE⟩:∃ EI':Int,Hid ((E:Int)=EI'):=⟨_,rfl⟩
 have hpar:Calls Tryz.prog 22 #[.slice ao k c] W4 fun e w'=>∃ (rl:List (RI×PV)) (ar:Option Addr) (kr cr:Nat),e = .returned (.tuple #[.slice ar kr cr,.agg #[.int .i64 EI',.int .i64 (A:Int)]])∧Hid (Row ekR w' W4.heap.size (.slice ar kr cr) rl∧(∀ r∈rl,Row ekY w' W4.heap.size r.2.v r.1.bytes)∧rl.map Prod.fst=rs.map A8j)∧Below W4.heap.size W4 w':=hpar.mono fun e w' ⟨v',ps,h1,h2,h3,h4⟩=>by
  obtain⟨rl,g1,g2,g3⟩:=C0n h2
  obtain⟨ar,kr,cr,rfl,_⟩:=g1.shape'
  rw[HE.out] at h1
  rw[h3] at g3
  exact⟨rl,ar,kr,cr,h1,⟨g1,g2,g3⟩,h4⟩
 show Calls Tryz.prog 31 _ w fun e w'=>DOut (n+1) w (A3b g (n+1) M l) e w'
 rw[HR.out]
 have HI:Hid _:=hI
 have HF:Hid (RdL 6 FAt w (.slice af nf cf) M.fields):=hf
 have HM:Hid (M∈g.msgs):=hM
 have HIH:Hid (B1w g n):=ih
 have HP:Hid (A1t l=(rs,E,A)):=hp
 have HD1:Hid (1≤D):=hD1
 have HDn:Hid (D+(n:Int)=12):=hDn
 have HG:Hid (FGd g):=hG
 obtain⟨y0,y1⟩:=A0v x0
 obtain⟨y2,y3,y4⟩:=B3e x1
 have y5:=A0a x2 0 _ rfl
 clear hI hf hM ih hp hl hD hD1 hDn hG
 go_enter Tryz.func31,Tryz.ntmps31
 go_upto_region 3 with fail
 rw[←HW4.out]
 go_wp2_with fail
 refine hpar.mono ?_
 rintro e w5 ⟨rl,ar,kr,cr,rfl,HRL,hb5⟩
 obtain⟨W6,HW6⟩:∃ W6,Hid (W6=w5.alloc (.cells #[.int .i64 EI',.int .i64 (A:Int)] 60)):=⟨_,rfl⟩
 have hb56:Below w5.heap.size w5 W6:=by rw[HW6.out];exact(Below.refl _ _).alloc (Nat.le_refl _) _
 have x6:W6.heap[w5.heap.size]?=some (.cells #[.int .i64 EI',.int .i64 (A:Int)] 60 (0,0)):=by rw[HW6.out];exact heap_alloc_new _ _
 have hz6:w5.heap.size+1≤W6.heap.size:=by rw[HW6.out];simp
 have hb46:Below W4.heap.size W4 W6:=BTr hb5 hb56
 have hbw6:Below w.heap.size w W6:=BTr hb4 hb46
 have hz5:=hb5.size
 clear y0 y1 y2 y3 y4 y5
 go_upto_region 4 with fail
 rw[←HW6.out]
 obtain⟨t0,t1⟩:=A0v x6
 by_cases hE0:EI'=0
 ·have hE:E=0:=by have:=HE.out;omega
  subst hE
  subst hE0
  obtain⟨hw1,hw2,hw3⟩:=A6q HP.out
  obtain⟨W7,HW7⟩:∃ W7,Hid (W7=W6.alloc (.cells #[.slice none 0 0,.slice none 0 0] 29)):=⟨_,rfl⟩
  have hb67:Below W6.heap.size W6 W7:=by rw[HW7.out];exact(Below.refl _ _).alloc (Nat.le_refl _) _
  have x7:W7.heap[W6.heap.size]?=some (.cells #[.slice none 0 0,.slice none 0 0] 29 (0,0)):=by rw[HW7.out];exact heap_alloc_new _ _
  have hz7:W6.heap.size+1≤W7.heap.size:=by rw[HW7.out];simp
  have hz76:W7.heap.size≤W6.heap.size+1:=by rw[HW7.out];simp
  have hb47:Below W4.heap.size W4 W7:=BTr hb46 hb67
  have hbw7:Below w.heap.size w W7:=BTr hb4 hb47
  have hb57:Below w5.heap.size w5 W7:=BTr hb56 hb67
  have HKR:Hid (kr=rs.length):=by
   show _=_
   have h1:kr=rl.length:=(show Row ekR w5 W4.heap.size (.slice ar kr cr) rl from HRL.out.1).len
   have h2:=congrArg List.length HRL.out.2.2
   simp only[List.length_map] at h2
   omega
  have hrsl:kr≤4000:=by
   have:=HKR.out
   have:=A2x (fun r:Rcd=>r.bytes.length+1) (fun _=>by omega) rs
   unfold rsW at hw1
   omega
  obtain⟨rd,Hrd⟩:∃ rd:List UInt8→List UInt8→Except Int (BI n),Hid (rd=fun t l=>A3b g n (msgD g t) l):=⟨_,rfl⟩
  have HRD:Hid (D3e rd):=by show D3e rd;rw[Hrd.out];exact D2j HG.out n
  have HT0:Hid (R=A1j g rd M.fields (rl.map Prod.fst) ⟨[],[]⟩ []):=by
   show _=_
   rw[←HR.out,A7z HP.out,HRL.out.2.2,Hrd.out]
  have hkeep:∀ V,FrB [W6.heap.size] W7 V→(V.heap[w.heap.size]?=some (.cells #[.slice am nm cm,.slice ae ne ce] 25 (0,0))∧V.heap[w.heap.size+1]?=some (.cells #[.string (S M.name),.slice af nf cf,.slice ab nb cb] 35 (0,0))∧V.heap[w.heap.size+2]?=some (.cells #[.int .i64 D] 3 (0,0))∧V.heap[w.heap.size+3]?=some (.cells #[.slice none 0 0,.slice none 0 0] 29 (0,0)))∧Hid (Row ekR V w.heap.size (.slice ar kr cr) rl∧∀ r∈rl,Row ekY V w.heap.size r.2.v r.1.bytes)∧Below w.heap.size w V:=fun V hV=>by
   have hk:∀ i,i≤3→V.heap[w.heap.size+i]?=W4.heap[w.heap.size+i]?:=fun i hi=>(hV.blk (by omega) (by simp;omega)).trans (hb47.block _ (by omega))
   have hlt:∀ j,(PV.v (ar,kr,cr)).ownBlock=some j→j < w5.heap.size:=fun j hj=>(World.ownsRow.lt HRL.out.1 j hj).2
   refine⟨⟨(hk 0 (by omega)).trans x0,(hk 1 (by omega)).trans x1,(hk 2 (by omega)).trans x2,(hk 3 (by omega)).trans x3⟩,⟨?_,fun r hr=>?_⟩,hbw7.trans (hV.below hbw7.size (fun k hk=>by rw[List.mem_singleton] at hk;omega))⟩
   ·exact Row.frB (p:=(ar,kr,cr)) ((HRL.out.1.below hb57).mono (by omega)) hV (fun j hj hm=>by
     have:=hlt j (A6p.1 hj)
     rw[List.mem_singleton] at hm
     omega)
   ·exact(((HRL.out.2.1 r hr).below hb57).mono (by omega)).frY hV
  have hdeep:∀ U,FrB [W6.heap.size] W7 U→∀ x∈M.fields,x.kind=10→DDeep n U 60 #[.pointer (some ⟨w.heap.size,0,none⟩),.pointer (some ⟨w.heap.size+2,0,none⟩)] x.type (rd x.type):=fun U hU x hx hk=>by
   obtain⟨⟨k0,k1,k2,k3⟩,_,hbU⟩:=hkeep U hU
   obtain⟨N,hN⟩:=HG.out.sub M HM.out x hx hk
   rw[Hrd.out]
   exact C6i HIH.out (fun j hj=>(HI.out j hj).below hbU) k0 HDn.out HD1.out k2 hN
  have htold:∀ U,FrB [W6.heap.size] W7 U→∀ x∈M.fields,∀ (r:RI) (ay:Option Addr) (ny cy:Nat),Row ekY U w.heap.size (.slice ay ny cy) r.bytes→r.bytes.length≤4000→r.bits≤18446744073709551615→Calls Tryz.prog 61 #[.agg #[.string (S x.name),.int .i64 x.number,.int .i64 x.kind,.string (S x.type),.bool x.many,.int .i64 x.choice],.agg #[.int .i64 r.number,.int .i64 r.how,.int .u64 (r.bits:Int),.slice ay ny cy],.func (.func 60) #[] #[.pointer (some ⟨w.heap.size,0,none⟩),.pointer (some ⟨w.heap.size+2,0,none⟩)]] U fun e w'=>∃ (q:Int) (a1:Option Addr) (n1 c1:Nat) (a2:Option Addr) (n2 c2:Nat) (a3:Option Addr) (n3 c3:Nat) (E:Int),e = .returned (.tuple #[.agg #[.int .i64 q,.slice a1 n1 c1,.slice a2 n2 c2,.slice a3 n3 c3],.int .i64 E])∧Hid (TRes n w.heap.size U.heap.size (A3j rd x r) q a1 n1 c1 a2 n2 c2 a3 n3 c3 E w')∧Below U.heap.size U w':=fun U hU x hx r ay ny cy hr hl hb=>by
   obtain⟨_,_,hbU⟩:=hkeep U hU
   obtain⟨j,hj⟩:=List.mem_iff_getElem?.1 HM.out
   have:=D0i (B:=w.heap.size) hbU.size x r hr hl hb ((HI.out j (List.getElem?_eq_some_iff.1 hj).1).below hbU).tabs (enters_of Tryz.func60 (by kernel_rfl) rfl) (rd:=rd) (fun hk=>hdeep U hU x hx hk)
   refine this.mono ?_
   intro e w' ho
   obtain⟨q,a1,n1,c1,a2,n2,c2,a3,n3,c3,E,h1,h2,h3⟩:=ho.open
   exact⟨q,a1,n1,c1,a2,n2,c2,a3,n3,c3,E,h1,h2,h3⟩
  have HDS0:Hid (DSt n w.heap.size W7.heap.size W7 ⟨[],[],(none,0,0),(none,0,0)⟩ ⟨[],[]⟩ (none,0,0) []):=DSt.nil _ _ _ _
  have HW2:Hid (∀ r∈rs,B6x r):=hw2
  have HW1:Hid (rsW rs≤4000):=Nat.le_trans hw1 hw3
  clear hpar hw1 hw2 hw3
  go_wp2_with fail
  rw[←HW7.out]
  go_loopg [14,37] kr (fun gm s14 s37 wr=>∃ (i:Nat) (b:BO (BI n)) (cc:BL (LB n)) (ul:List (RI×PV)) (e0:Option Addr) (f0 g0:Nat) (e1:Option Addr) (f1 g1:Nat) (u0:Option Addr) (u1 u2:Nat),i+gm=kr∧s14 = .slice u0 u1 u2∧s37 = .int .i64 (i:Int)∧Hid (R=A1j g rd M.fields ((rl.drop i).map Prod.fst) b (ul.map Prod.fst))∧Hid (RSt M.fields b (2*rsW (rs.take i)))∧Hid (DSt n w.heap.size W7.heap.size wr cc b (u0,u1,u2) ul)∧Hid (cc.q0=(e0,f0,g0)∧cc.q1=(e1,f1,g1)∧ul.length≤i)∧wr.heap[W6.heap.size]?=some (.cells #[.slice e0 f0 g0,.slice e1 f1 g1] 29 (0,0))∧FrB [W6.heap.size] W7 wr)
  case atStart=>exact⟨0,⟨[],[]⟩,⟨[],[],(none,0,0),(none,0,0)⟩,[],none,0,0,none,0,0,none,0,0,by omega,rfl,rfl,HT0,⟨rfl,fun v hv=>(List.not_mem_nil hv).elim,fun v hv=>(List.not_mem_nil hv).elim,by simp⟩,HDS0,⟨rfl,rfl,Nat.zero_le _⟩,x7,FrB.refl _ _⟩
  case round=>
   obtain⟨i,b,cc,ul,e0,f0,g0,e1,f1,g1,u0,u1,u2,hi,rfl,rfl,HRR,HST,HDS,HCC,xO,hF⟩:=hrel
   obtain⟨⟨k0,k1,k2,k3⟩,HK,hbr⟩:=hkeep wr hF
   have hzr:=hF.size
   by_cases hlt:i < kr
   ·obtain⟨p,Hp⟩:∃ p,Hid (rl[i]?=some p):=by
     have h1:kr=rl.length:=(show Row ekR w5 W4.heap.size (.slice ar kr cr) rl from HRL.out.1).len
     exact⟨rl[i]'(by omega),List.getElem?_eq_getElem _⟩
    obtain⟨rc,Hrc⟩:∃ rc,Hid (rs[i]?=some rc):=⟨rs[i]'(by have:=HKR.out;omega),List.getElem?_eq_getElem _⟩
    have hri:p.1=A8j rc:=by
     have h1:=congrArg (fun l=>l[i]?) HRL.out.2.2
     simp only[List.getElem?_map,Hp.out,Hrc.out,Option.map_some,Option.some.injEq] at h1
     exact h1
    have hgood:=HW2.out rc (List.mem_of_getElem? Hrc.out)
    have HRok:Hid (B4u p.1∧p.1.bytes.length≤4000∧p.1.bits≤18446744073709551615∧rsW (rs.take (i+1))=rsW (rs.take i)+(p.1.bytes.length+1)∧rsW (rs.take (i+1))≤4000):=by
     have e1:rsW (rs.take (i+1))=rsW (rs.take i)+(rc.bytes.length+1):=by
      rw[List.take_add_one,Hrc.out,B8s]
      rfl
     have e2:rsW rs=rsW (rs.take (i+1))+rsW (rs.drop (i+1)):=by rw[←B8s,List.take_append_drop]
     have e3:=HW1.out
     rw[hri]
     exact⟨D1d hgood,hgood.2,hgood.1.2.2.2.2,e1,by omega⟩
    obtain⟨gR,rfl,hcR⟩:=(HK.out.1).get Hp.out
    obtain⟨⟨num,how,bit,byt⟩,⟨ay,ny,cy⟩⟩:=p
    have HY:Hid (Row ekY wr w.heap.size (.slice ay ny cy) byt):=HK.out.2 _ (List.mem_of_getElem? Hp.out)
    have c0:wr.cell? ⟨gR,i*4,none⟩=some (.int .i64 num):=hcR 0 _ rfl
    have c1:wr.cell? ⟨gR,i*4+1,none⟩=some (.int .i64 how):=hcR 1 _ rfl
    have c2:wr.cell? ⟨gR,i*4+2,none⟩=some (.int .u64 (bit:Int)):=hcR 2 _ rfl
    have c3:wr.cell? ⟨gR,i*4+3,none⟩=some (.slice ay ny cy):=hcR 3 _ rfl
    have hlti:(i:Int) < (kr:Int):=by omega
    have HDR:Hid (rl.drop i=((⟨num,how,bit,byt⟩,(ay,ny,cy)):RI×PV)::rl.drop (i+1)):=by
     show _=_
     obtain⟨h1,h2⟩:=List.getElem?_eq_some_iff.1 Hp.out
     rw[List.drop_eq_getElem_cons h1,h2]
    obtain⟨W8,HW8⟩:∃ W8,Hid (W8=wr.alloc (.cells #[.int .i64 num,.int .i64 how,.int .u64 (bit:Int),.slice ay ny cy] 65)):=⟨_,rfl⟩
    have hb8:Below wr.heap.size wr W8:=by rw[HW8.out];exact(Below.refl _ _).alloc (Nat.le_refl _) _
    have x8:W8.heap[wr.heap.size]?=some (.cells #[.int .i64 num,.int .i64 how,.int .u64 (bit:Int),.slice ay ny cy] 65 (0,0)):=by rw[HW8.out];exact heap_alloc_new _ _
    have hz8:wr.heap.size+1≤W8.heap.size:=by rw[HW8.out];simp
    have hfld:=A4n (HF.out.below FAt.stays (BTr hbr hb8)) ⟨ab,nb,cb,rfl⟩ ⟨M.name,rfl⟩ num
    obtain⟨m0,m1,m2⟩:=B3e ((hb8.block _ (by omega)).trans k1)
    obtain⟨r0,r1,r2,r3⟩:=A1r x8
    clear hcR hri hgood hdeep
    rcases A3m (fun f:FI=>decide (f.number=num)) M.fields with⟨hq1,hq2⟩|⟨kf,x,hq1,hq2,hq3,hq4⟩
    ·rw[hq1] at hfld
     have HN:Hid (M.fields.find? (isF num)=none):=hq2
     clear hq1 hq2 htold
     go_upto_region 12 with fail
     rw[←HW8.out]
     go_wp2_with fail
     refine hfld.mono ?_
     rintro e w9 ⟨rfl,hb9⟩
     have hb89:Below wr.heap.size wr w9:=BTr hb8 hb9
     have x9:=(hb9.block _ (by omega)).trans x8
     have hz9:=hb9.size
     clear m0 m1 m2 r0 r1 r2 r3 c0 c1 c2 c3
     obtain⟨r0,r1,r2,r3⟩:=A1r x9
     obtain⟨W10,HW10⟩:∃ W10,Hid (W10=w9.alloc (.cells #[.int .i64 num,.int .i64 how,.int .u64 (bit:Int),.slice ay ny cy] 65)):=⟨_,rfl⟩
     have hb10:Below w9.heap.size w9 W10:=by rw[HW10.out];exact(Below.refl _ _).alloc (Nat.le_refl _) _
     have x10:W10.heap[w9.heap.size]?=some (.cells #[.int .i64 num,.int .i64 how,.int .u64 (bit:Int),.slice ay ny cy] 65 (0,0)):=by rw[HW10.out];exact heap_alloc_new _ _
     have hb1r:Below wr.heap.size wr W10:=BTr hb89 hb10
     have hzr10:=hb1r.size
     have HD10:Hid (DSt n w.heap.size W7.heap.size W10 cc b (u0,u1,u2) ul):=HDS.out.fr (FrB.of_below hb1r:FrB [] wr W10) (fun k hk=>by simp at hk)
     have hrow:Row ekR W10 w.heap.size (.slice u0 u1 u2) ul:=HD10.out.ur
     have hsrc:∀ ad,(some ⟨w9.heap.size,0,none⟩:Option Addr)=some ad→∀ k y,[((⟨num,how,bit,byt⟩,(ay,ny,cy)):RI×PV)][k]?=some y→∀ j u,(ekR.enc y)[j]?=some u→W10.cell? (ad.add (k*ekR.size+j))=some u:=A6h x10 rfl
     have hlen:(ul.length + [((⟨num,how,bit,byt⟩,(ay,ny,cy)):RI×PV)].length)*ekR.bytes≤140737488355328:=by
      have:=HCC.out.2.2
      show(ul.length+1)*48≤_
      omega
     have hBs:w.heap.size≤W10.heap.size:=Nat.le_trans hbr.size hzr10
     clear x10 x9
     go_wp2_with (at_builtin;rw[←HW10.out];refine A1l rfl ekR _ _ rfl w.heap.size _ ul [((⟨num,how,bit,byt⟩,(ay,ny,cy)):RI×PV)] rfl hrow (some ⟨w9.heap.size,0,none⟩) 1 1 rfl rfl (fun h=>by cases h) hsrc (show 1≤48 by omega) hlen hBs ?_)
     intro v4 w11 hr4 hg4 hk4
     obtain⟨a4,n4,c4,rfl,Hn4⟩:=hr4.shape'
     have hfA:FrB (own1 (u0,u1,u2)) W10 w11:=HD10.out.app_fr hg4
     have HD11:Hid (DSt n w.heap.size W7.heap.size w11 cc b (a4,n4,c4) (ul++[(⟨num,how,bit,byt⟩,(ay,ny,cy))])):=HD10.out.app (by omega) hg4 hr4 hk4 (HY.out.below hb1r)
     have xO11:w11.heap[W6.heap.size]?=some (.cells #[.slice e0 f0 g0,.slice e1 f1 g1] 29 (0,0)):=(hfA.blk (by omega) (fun h=>by have:=(HDS.out.ulo _ h).1;omega)).trans ((hb1r.block _ (by omega)).trans xO)
     have hF11:FrB [W6.heap.size] W7 w11:=(hF.on hb1r).trans hfA (fun _ h=>h) (fun k h=>.inr (HDS.out.ulo k h).1)
     have HR11:Hid (R=A1j g rd M.fields ((rl.drop (i+1)).map Prod.fst) b ((ul++[((⟨num,how,bit,byt⟩,(ay,ny,cy)):RI×PV)]).map Prod.fst)):=by
      show _=_
      rw[HRR.out,HDR.out,List.map_cons,A3v HN.out,List.map_append]
      rfl
     have HS11:Hid (RSt M.fields b (2*rsW (rs.take (i+1)))):=⟨HST.out.unk,HST.out.qk,HST.out.sh,by have:=HST.out.w;have:=HRok.out.2.2.2.1;omega⟩
     have HC11:Hid (cc.q0=(e0,f0,g0)∧cc.q1=(e1,f1,g1)∧(ul++[((⟨num,how,bit,byt⟩,(ay,ny,cy)):RI×PV)]).length≤i+1):=⟨HCC.out.1,HCC.out.2.1,by have:=HCC.out.2.2;simp;omega⟩
     go_wp2_with fail
     go_roundg (kr - (i+1))
     case measure=>omega
     case rel=>exact⟨i+1,b,cc,ul++[(⟨num,how,bit,byt⟩,(ay,ny,cy))],e0,f0,g0,e1,f1,g1,a4,n4,c4,by omega,rfl,by go_simp,HR11,HS11,HD11,HC11,xO11,hF11⟩
    ·rw[hq1] at hfld
     have HN:Hid (M.fields.find? (isF num)=some x):=hq3
     obtain⟨bf,of,rfl,hfat⟩:=HF.out.get FAt.plain hq2
     have HX:Hid (x∈M.fields):=List.mem_of_getElem? hq2
     have hkf:(kf:Int) < (nf:Int):=by have:=(List.getElem?_eq_some_iff.1 hq2).1;have:=HF.out.len.1;omega
     have hkf0:¬ (kf:Int) < 0:=by omega
     obtain⟨y0,y1,y2,y3,y4,y5⟩:=hfat
     rw[A0f] at y1 y2 y3 y4 y5
     clear hq1 hq2 hq3 hq4
     go_upto_region 12 with fail
     rw[←HW8.out]
     go_wp2_with fail
     refine hfld.mono ?_
     rintro e w9 ⟨rfl,hb9⟩
     have hb89:Below wr.heap.size wr w9:=BTr hb8 hb9
     have x9:=(hb9.block _ (by omega)).trans x8
     have hz9:=hb9.size
     have hzr9:=hb89.size
     have hbw9:Below w.heap.size w w9:=BTr hbr hb89
     have hF9:FrB [W6.heap.size] W7 w9:=hF.on hb89
     clear m0 m1 m2 r0 r1 r2 r3 c0 c1 c2 c3 hfld
     have k19:=(hb89.block _ (by omega)).trans k1
     have hcl9:∀ V,Below w9.heap.size w9 V→V.cell? ⟨w.heap.size+1,1,none⟩=some (.slice (some ⟨bf,of,none⟩) nf cf)∧(V.cell? ⟨wr.heap.size,0,none⟩=some (.int .i64 num)∧V.cell? ⟨wr.heap.size,1,none⟩=some (.int .i64 how)∧V.cell? ⟨wr.heap.size,2,none⟩=some (.int .u64 (bit:Int))∧V.cell? ⟨wr.heap.size,3,none⟩=some (.slice ay ny cy))∧V.cell? ⟨bf,of+kf*6,none⟩=some (.string (S x.name))∧V.cell? ⟨bf,of+kf*6+1,none⟩=some (.int .i64 x.number)∧V.cell? ⟨bf,of+kf*6+2,none⟩=some (.int .i64 x.kind)∧V.cell? ⟨bf,of+kf*6+3,none⟩=some (.string (S x.type))∧V.cell? ⟨bf,of+kf*6+4,none⟩=some (.bool x.many)∧V.cell? ⟨bf,of+kf*6+5,none⟩=some (.int .i64 x.choice):=fun V hV=>by
      have hwV:=BTr hbw9 hV
      exact⟨A0a ((hV.block _ (by omega)).trans k19) 1 _ rfl,A1r ((hV.block _ (by omega)).trans x9),A0c hwV y0,A0c hwV y1,A0c hwV y2,A0c hwV y3,A0c hwV y4,A0c hwV y5⟩
     obtain⟨Rt,HRt⟩:∃ Rt,Hid (A3j rd x (⟨num,how,bit,byt⟩:RI)=Rt):=⟨_,rfl⟩
     have htl:∀ V,Below w9.heap.size w9 V→Calls Tryz.prog 61 #[.agg #[.string (S x.name),.int .i64 x.number,.int .i64 x.kind,.string (S x.type),.bool x.many,.int .i64 x.choice],.agg #[.int .i64 num,.int .i64 how,.int .u64 (bit:Int),.slice ay ny cy],.func (.func 60) #[] #[.pointer (some ⟨w.heap.size,0,none⟩),.pointer (some ⟨w.heap.size+2,0,none⟩)]] V fun e w'=>∃ (q:Int) (a1:Option Addr) (n1 c1:Nat) (a2:Option Addr) (n2 c2:Nat) (a3:Option Addr) (n3 c3:Nat) (E:Int),e = .returned (.tuple #[.agg #[.int .i64 q,.slice a1 n1 c1,.slice a2 n2 c2,.slice a3 n3 c3],.int .i64 E])∧Hid (TRes n w.heap.size V.heap.size Rt q a1 n1 c1 a2 n2 c2 a3 n3 c3 E w')∧Below V.heap.size V w':=fun V hV=>by
      have:=htold V (hF9.on hV) x HX.out (⟨num,how,bit,byt⟩:RI) ay ny cy (HY.out.below (BTr hb89 hV)) HRok.out.2.1 HRok.out.2.2.1
      rw[HRt.out] at this
      exact this
     have hd:Below w9.heap.size w9 w9.drew:=(Below.refl _ _).drew
     have hzd:w9.drew.heap.size=w9.heap.size:=rfl
     have hBA:Below w9.heap.size w9 (w9.alloc (.cells #[.int .i64 0,.slice none 0 0,.slice none 0 0,.slice none 0 0] 54)).drew:=((Below.refl _ _).alloc (Nat.le_refl _) _).drew
     have xA:(w9.alloc (.cells #[.int .i64 0,.slice none 0 0,.slice none 0 0,.slice none 0 0] 54)).drew.heap[w9.heap.size]?=some (.cells #[.int .i64 0,.slice none 0 0,.slice none 0 0,.slice none 0 0] 54 (0,0)):=heap_alloc_new _ _
     clear htold hkeep y0 y1 y2 y3 y4 y5 k19 x9
     go_upto_region 15 with fail
     go_cut [18,19] from 51 to 61 (fun s18 s19 wc=>∃ (K:Nat) (q:Int) (a1:Option Addr) (n1 c1:Nat) (a2:Option Addr) (n2 c2:Nat) (a3:Option Addr) (n3 c3:Nat) (E:Int),s18 = .pointer (some ⟨K,0,none⟩)∧s19 = .int .i64 E∧w9.heap.size≤K∧wc.heap[K]?=some (.cells #[.int .i64 q,.slice a1 n1 c1,.slice a2 n2 c2,.slice a3 n3 c3] 54 (0,0))∧Hid (TRes n w.heap.size w9.heap.size Rt q a1 n1 c1 a2 n2 c2 a3 n3 c3 E wc)∧Below w9.heap.size w9 wc)
     case first=>
      refine wp_region_held_drew (S:=fun U=>Below w9.heap.size w9 U) (by kernel_rfl) hd (fun hHeld=>?_)
      refine tK (i:=0) (v:=?vr1) rfl (fun _ _ _ h=>h) ⟨by rfl,?hyr1⟩ (by assumption) ?_
      case hyr1=>(intro W hSw;obtain⟨o1,⟨o2,o3,o4,o5⟩,o6,o7,o8,o9,o10,o11⟩:=hcl9 W hSw;go_simp;first|done|with_reducible rfl)
      try simp only[pT,Act.put]
      refine tK (i:=1) (v:=?vr2) rfl (fun _ _ _ h=>h) ⟨by rfl,?hyr2⟩ (by assumption) ?_
      case hyr2=>(intro W hSw;obtain⟨o1,⟨o2,o3,o4,o5⟩,o6,o7,o8,o9,o10,o11⟩:=hcl9 W hSw;go_simp;first|done|with_reducible rfl)
      try simp only[pT,Act.put]
      refine tK (i:=2) (v:=?vr3) rfl (fun _ _ _ h=>h) ⟨by rfl,?hyr3⟩ (by assumption) ?_
      case hyr3=>(intro W hSw;obtain⟨o1,⟨o2,o3,o4,o5⟩,o6,o7,o8,o9,o10,o11⟩:=hcl9 W hSw;go_simp;first|done|with_reducible rfl)
      try simp only[pT,Act.put]
      refine tK (i:=3) (v:=?vr4) rfl (fun _ _ _ h=>h) ⟨by rfl,?hyr4⟩ (by assumption) ?_
      case hyr4=>(intro W hSw;obtain⟨o1,⟨o2,o3,o4,o5⟩,o6,o7,o8,o9,o10,o11⟩:=hcl9 W hSw;go_simp;first|done|with_reducible rfl)
      try simp only[pT,Act.put]
      refine tK (i:=4) (v:=?vr5) rfl (fun _ _ _ h=>h) ⟨by rfl,?hyr5⟩ (by assumption) ?_
      case hyr5=>(intro W hSw;obtain⟨o1,⟨o2,o3,o4,o5⟩,o6,o7,o8,o9,o10,o11⟩:=hcl9 W hSw;go_simp;first|done|with_reducible rfl)
      try simp only[pT,Act.put]
      refine tK (i:=5) (v:=?vr6) rfl (fun _ _ _ h=>h) ⟨by rfl,?hyr6⟩ (by assumption) ?_
      case hyr6=>(intro W hSw;obtain⟨o1,⟨o2,o3,o4,o5⟩,o6,o7,o8,o9,o10,o11⟩:=hcl9 W hSw;go_simp;first|done|with_reducible rfl)
      try simp only[pT,Act.put]
      refine tK (i:=6) (v:=?vr7) rfl (fun _ _ _ h=>h) ⟨by rfl,?hyr7⟩ (by assumption) ?_
      case hyr7=>(intro W hSw;obtain⟨o1,⟨o2,o3,o4,o5⟩,o6,o7,o8,o9,o10,o11⟩:=hcl9 W hSw;go_simp;first|done|with_reducible rfl)
      try simp only[pT,Act.put]
      refine wpAnyH_ready (rs:=[7,11]) (by kernel_rfl) (by simp) ?_
      refine AllReadyH.cons rfl (fun K hK=>?_) (AllReadyH.cons rfl (fun K hK=>?_) AllReadyH.nil)
      ·skip
       go_simp
       refine(htl _ (by with_reducible first|exact hd|exact hBA)).mono ?_
       rintro e V3 ⟨q,a1,n1,c1,a2,n2,c2,a3,n3,c3,E,rfl,HTR,hb3⟩
       have hz3:=hb3.size
       have hB3:=BTr hd hb3
       refine hK.out _ _ ?_ (fun hHeld=>?_)
       ·(try dsimp only);with_reducible first|exact hd|exact hBA|exact hB3|exact hBB|exact hB5|exact hBC
       clear hK K
       try simp only[pT,Act.put]
       refine tK (i:=8) (v:=?vr8) rfl (fun _ _ _ h=>h) ⟨by rfl,?hyr8⟩ (by assumption) ?_
       case hyr8=>(intro W hSw;obtain⟨o1,⟨o2,o3,o4,o5⟩,o6,o7,o8,o9,o10,o11⟩:=hcl9 W hSw;go_simp;first|done|with_reducible rfl)
       try simp only[pT,Act.put]
       refine tK (i:=9) (v:=?vr9) rfl (fun _ _ _ h=>h) ⟨by rfl,?hyr9⟩ (by assumption) ?_
       case hyr9=>(intro W hSw;obtain⟨o1,⟨o2,o3,o4,o5⟩,o6,o7,o8,o9,o10,o11⟩:=hcl9 W hSw;go_simp;first|done|with_reducible rfl)
       try simp only[pT,Act.put]
       refine tK (i:=10) (v:=?vr10) rfl (fun _ _ _ h=>h) ⟨by rfl,?hyr10⟩ (by assumption) ?_
       case hyr10=>(intro W hSw;obtain⟨o1,⟨o2,o3,o4,o5⟩,o6,o7,o8,o9,o10,o11⟩:=hcl9 W hSw;go_simp;first|done|with_reducible rfl)
       try simp only[pT,Act.put]
       refine wpAnyH_ready (rs:=[11]) (by kernel_rfl) (by simp) ?_
       refine AllReadyH.cons rfl (fun K hK=>?_) AllReadyH.nil
       go_simp
       have hBB:Below w9.heap.size w9 (V3.alloc (.cells #[.int .i64 0,.slice none 0 0,.slice none 0 0,.slice none 0 0] 54)):=BTr hB3 ((Below.refl _ _).alloc (Nat.le_refl _) _)
       have hBC:Below w9.heap.size w9 (V3.alloc (.cells #[.int .i64 q,.slice a1 n1 c1,.slice a2 n2 c2,.slice a3 n3 c3] 54)):=BTr hB3 ((Below.refl _ _).alloc (Nat.le_refl _) _)
       refine hK.out _ _ ?_ (fun hHeld=>?_)
       ·(try dsimp only);with_reducible first|exact hd|exact hBA|exact hB3|exact hBB|exact hB5|exact hBC
       clear hK K
       try simp only[pT,Act.put]
       refine wpAnyH_ready (rs:=[12]) (by kernel_rfl) (by simp) ?_
       refine AllReadyH.cons rfl (fun K hK=>?_) AllReadyH.nil
       go_simp
       refine hK.out _ _ ?_ (fun hHeld=>?_)
       ·(try dsimp only);with_reducible first|exact hd|exact hBA|exact hB3|exact hBB|exact hB5|exact hBC
       clear hK K
       try simp only[pT,Act.put]
       refine tK (i:=13) (v:=?vr11) rfl (fun _ _ _ h=>h) ⟨by rfl,?hyr11⟩ (by assumption) ?_
       case hyr11=>(intro W hSw;obtain⟨o1,⟨o2,o3,o4,o5⟩,o6,o7,o8,o9,o10,o11⟩:=hcl9 W hSw;go_simp;first|done|with_reducible rfl)
       try simp only[pT,Act.put]
       refine wpAnyH_done (by kernel_rfl) ?_ _
       go_wp2_with fail
       go_meet
       refine⟨V3.heap.size,q,a1,n1,c1,a2,n2,c2,a3,n3,c3,E,rfl,rfl,hB3.size,heap_alloc_new _ _,HTR.out.fr (FrB.of_below ((Below.refl _ _).alloc (Nat.le_refl _) _):FrB [] _ _) (fun k hk=>by simp at hk) (Nat.le_refl _),hBC⟩
      ·skip
       go_simp
       refine hK.out _ _ ?_ (fun hHeld=>?_)
       ·(try dsimp only);with_reducible first|exact hd|exact hBA|exact hB3|exact hBB|exact hB5|exact hBC
       clear hK K
       try simp only[pT,Act.put]
       refine wpAnyH_ready (rs:=[7]) (by kernel_rfl) (by simp) ?_
       refine AllReadyH.cons rfl (fun K hK=>?_) AllReadyH.nil
       go_simp
       refine(htl _ (by with_reducible first|exact hd|exact hBA)).mono ?_
       rintro e V3 ⟨q,a1,n1,c1,a2,n2,c2,a3,n3,c3,E,rfl,HTR,hb3⟩
       have hz3:=hb3.size
       have hB3:=BTr hBA hb3
       have kT:=(hb3.block w9.heap.size (by show w9.heap.size < (w9.alloc _).heap.size;simp)).trans xA
       obtain⟨t40,t41,t42,t43⟩:=A1r kT
       have tf:=A0b kT
       have hB5:Below w9.heap.size w9 ((((V3.setCell ⟨w9.heap.size,0,none⟩ (.int .i64 q)).setCell ⟨w9.heap.size,1,none⟩ (.slice a1 n1 c1)).setCell ⟨w9.heap.size,2,none⟩ (.slice a2 n2 c2)).setCell ⟨w9.heap.size,3,none⟩ (.slice a3 n3 c3)):=A0d (A0d (A0d (A0d hB3 (Nat.le_refl _)) (Nat.le_refl _)) (Nat.le_refl _)) (Nat.le_refl _)
       refine hK.out _ _ ?_ (fun hHeld=>?_)
       ·(try dsimp only);with_reducible first|exact hd|exact hBA|exact hB3|exact hBB|exact hB5|exact hBC
       clear hK K
       try simp only[pT,Act.put]
       refine tK (i:=8) (v:=?vr12) rfl (fun _ _ _ h=>h) ⟨by rfl,?hyr12⟩ (by assumption) ?_
       case hyr12=>(intro W hSw;obtain⟨o1,⟨o2,o3,o4,o5⟩,o6,o7,o8,o9,o10,o11⟩:=hcl9 W hSw;go_simp;first|done|with_reducible rfl)
       try simp only[pT,Act.put]
       refine tK (i:=9) (v:=?vr13) rfl (fun _ _ _ h=>h) ⟨by rfl,?hyr13⟩ (by assumption) ?_
       case hyr13=>(intro W hSw;obtain⟨o1,⟨o2,o3,o4,o5⟩,o6,o7,o8,o9,o10,o11⟩:=hcl9 W hSw;go_simp;first|done|with_reducible rfl)
       try simp only[pT,Act.put]
       refine tK (i:=10) (v:=?vr14) rfl (fun _ _ _ h=>h) ⟨by rfl,?hyr14⟩ (by assumption) ?_
       case hyr14=>(intro W hSw;obtain⟨o1,⟨o2,o3,o4,o5⟩,o6,o7,o8,o9,o10,o11⟩:=hcl9 W hSw;go_simp;first|done|with_reducible rfl)
       try simp only[pT,Act.put]
       refine wpAnyH_ready (rs:=[12]) (by kernel_rfl) (by simp) ?_
       refine AllReadyH.cons rfl (fun K hK=>?_) AllReadyH.nil
       go_simp
       refine hK.out _ _ ?_ (fun hHeld=>?_)
       ·(try dsimp only);with_reducible first|exact hd|exact hBA|exact hB3|exact hBB|exact hB5|exact hBC
       clear hK K
       try simp only[pT,Act.put]
       refine tK (i:=13) (v:=?vr15) rfl (fun _ _ _ h=>h) ⟨by rfl,?hyr15⟩ (by assumption) ?_
       case hyr15=>(intro W hSw;obtain⟨o1,⟨o2,o3,o4,o5⟩,o6,o7,o8,o9,o10,o11⟩:=hcl9 W hSw;go_simp;first|done|with_reducible rfl)
       try simp only[pT,Act.put]
       refine wpAnyH_done (by kernel_rfl) ?_ _
       go_wp2_with fail
       go_meet
       refine⟨w9.heap.size,q,a1,n1,c1,a2,n2,c2,a3,n3,c3,E,rfl,rfl,Nat.le_refl _,heap_setCell_same _ _ 3 _ _ _ (heap_setCell_same _ _ 2 _ _ _ (heap_setCell_same _ _ 1 _ _ _ (heap_setCell_same _ _ 0 _ _ _ kT))),HTR.out.fr (fr4 kT) (fun k hk=>by rw[List.mem_singleton.1 hk];show w9.heap.size < (w9.alloc _).heap.size;simp) (by show w9.heap.size≤(w9.alloc _).heap.size;simp),hB5⟩
     case rest=>
      obtain⟨K,q,a1,n1,c1,a2,n2,c2,a3,n3,c3,E,rfl,rfl,hKl,xK,HTR,hbc⟩:=hcut
      have hbrc:Below wr.heap.size wr wc:=BTr hb89 hbc
      have hbwc:Below w.heap.size w wc:=BTr hbr hbrc
      have hzc:=hbrc.size
      clear hcl9 htl hBA xA hd hzd
      have k3c:=(hbrc.block _ (by omega)).trans k3
      obtain⟨q0,q1⟩:=A0v k3c
      have qf:=A0b k3c
      cases Rt with
      | error E'=>
       obtain⟨hE1,hE2⟩:=HTR.out
       subst hE1
       have eE:(E != 0)=true:=by simpa using hE2
       have eE':(E == 0)=false:=by simpa using hE2
       have HFin:Hid (R = .error E):=by
        show _=_
        rw[HRR.out,HDR.out,List.map_cons,A4s HN.out HRt.out]
        rfl
       go_wp2_with fail
       refine bodyPost_ret (v:=.tuple #[.agg #[.slice none 0 0,.slice none 0 0],.int .i64 E]) (by simp[results,Tryz.results31,go_sem, *]) rfl ?_
       rw[HFin.out]
       exact⟨hE2,rfl,A0d (A0d hbwc (by omega)) (by omega)⟩
      | ok v=>
       obtain⟨hE1,y',d1,d2,d3,d4,d5,d6,d7,d8⟩:=HTR.out
       subst hE1
       have HTK:Hid (TldOk x (byt.length+1) v):=C7f HRD.out (HG.out.num M HM.out x HX.out) HRok.out.2.1 HRok.out.2.2.1 HRt.out
       have hxn:x.number=num:=A3x HN.out
       have hyn:y'.number=num:=by
        have h1:=HTK.out.num
        rw[←d5] at h1
        exact(show y'.number=x.number from h1).trans hxn
       obtain⟨Rw,HRw⟩:∃ Rw,Hid (A1m g n M.fields x b v=Rw):=⟨_,rfl⟩
       have hqn:q=num:=d1.symm.trans hyn
       subst hqn
       have hwith:Calls Tryz.prog 62 #[.agg #[.slice am nm cm,.slice ae ne ce],.agg #[.string (S M.name),.slice (some ⟨bf,of,none⟩) nf cf,.slice ab nb cb],.agg #[.slice e0 f0 g0,.slice e1 f1 g1],.agg #[.int .i64 q,.slice a1 n1 c1,.slice a2 n2 c2,.slice a3 n3 c3]] wc fun e w'=>∃ (i0:Option Addr) (j0 l0:Nat) (i1:Option Addr) (j1 l1:Nat) (E:Int),e = .returned (.tuple #[.agg #[.slice i0 j0 l0,.slice i1 j1 l1],.int .i64 E])∧Hid (D5a n wc.heap.size e0 f0 g0 e1 f1 g1 b Rw i0 j0 l0 i1 j1 l1 E w')∧Below wr.heap.size wr w':=by
        have hbq:BRd n wr (.slice e0 f0 g0) (.slice e1 f1 g1) b:=by
         have h1:=OwnB.rd (show OwnB w.heap.size (n+1) wr cc from HDS.out.own)
         rw[show LB.pl (n+1) cc=b from HDS.out.pl,HCC.out.1,HCC.out.2.1] at h1
         exact h1
        have hqk:BQk (n+1) b:=⟨HST.out.qk,fun r hr=>by rw[show BO.unk b = [] from HST.out.unk] at hr;cases hr⟩
        have hst:=HST.out.w
        have hr4:=HRok.out.2.2.2
        have htw:=HTK.out.w
        have hr4a:rsW (rs.take (i+1))=rsW (rs.take i)+(byt.length+1):=hr4.1
        have hr4b:=hr4.2
        have hjb:jWB (n+1) b≤1000000000:=by
         show((BO.vals b).map (jW (jWB n))).sum+(BO.unk b).length≤_
         rw[show BO.unk b = [] from HST.out.unk]
         simp only[List.length_nil]
         omega
        have hfok:=(HI.out 0 (by have:=List.length_pos_of_mem HM.out;omega)).fok M HM.out
        have:=D0o (g:=g) (d:=n) (W0:=w) (u:=wr) (w:=wc) hbr hbrc (fun j hj=>(HI.out j hj).below hbr) (nam:=M.name) (ab:=ab) (nb:=nb) (cb:=cb) (HF.out.below FAt.stays hbr) hfok.1 hfok.2 hbq (B5x (n+1) b hqk hjb) d6 (fun k hk=>Nat.le_trans hzr9 (d7 k hk)) d8 (by rw[d5];exact D1k HTK.out.qk (by omega)) (x:=x) (by rw[hyn];exact HN.out) (by rw[d5];omega) (fun hm hk=>⟨HG.out.sub M HM.out x HX.out hk,fun v' hv' hvn=>by
         rcases hv' with hv'|hv'
         ·exact HST.out.sh v' hv' x (by rw[hvn,hyn];exact HN.out) hm hk
         ·rw[hv',d5]
          exact HTK.out.sh hk⟩)
        rw[hyn,d2,d3,d4,d5,HRw.out] at this
        refine this.mono ?_
        intro e w' ho
        obtain⟨i0,j0,l0,i1,j1,l1,E,h1,h2⟩:=ho.2.open
        exact⟨i0,j0,l0,i1,j1,l1,E,h1,h2,ho.1⟩
       have k0c:=(hbrc.block _ (by omega)).trans k0
       have k1c:=(hbrc.block _ (by omega)).trans k1
       have xOc:=(hbrc.block _ (by omega)).trans xO
       obtain⟨m0,m1⟩:=A0v k0c
       obtain⟨m2,m3,m4⟩:=B3e k1c
       obtain⟨m5,m6⟩:=A0v xOc
       obtain⟨m7,m8,m9,m10⟩:=A1r xK
       clear d1 d2 d3 d4 d5 d6 d7 d8 hxn hyn
       go_wp2_with fail
       refine hwith.mono ?_
       rintro e w11 ⟨i0,j0,l0,i1,j1,l1,E,rfl,HWR,hb11⟩
       have xO11:=(hb11.block _ (by omega)).trans xO
       have k311:=(hb11.block _ (by omega)).trans k3
       have hz11:=hb11.size
       clear m0 m1 m2 m3 m4 m5 m6 m7 m8 m9 m10 q0 q1 qf hwith
       obtain⟨m5,m6⟩:=A0v xO11
       have mf:=A0b xO11
       obtain⟨q0,q1⟩:=A0v k311
       have qf:=A0b k311
       have n1:¬ W6.heap.size=w.heap.size+3:=by have:=hb46.size;omega
       have n2:¬ w.heap.size+3=W6.heap.size:=by have:=hb46.size;omega
       have hbw11:Below w.heap.size w w11:=BTr hbr hb11
       cases Rw with
       | error E'=>
        obtain⟨hE1,hE2⟩:=HWR.out
        subst hE1
        have eE:(E != 0)=true:=by simpa using hE2
        have eE':(E == 0)=false:=by simpa using hE2
        have HFin:Hid (R = .error E):=by
         show _=_
         rw[HRR.out,HDR.out,List.map_cons,A3h HN.out HRt.out HRw.out]
         rfl
        go_wp2_with fail
        refine bodyPost_ret (v:=.tuple #[.agg #[.slice none 0 0,.slice none 0 0],.int .i64 E]) (by simp[results,Tryz.results31,go_sem, *]) rfl ?_
        rw[HFin.out]
        exact⟨hE2,rfl,A0d (A0d (A0d (A0d hbw11 (by have:=hb46.size;omega)) (by have:=hb46.size;omega)) (by omega)) (by omega)⟩
       | ok b'=>
        obtain⟨hE1,hor⟩:=HWR.out
        subst hE1
        have f11:=fr2 xO11 (x0:=.slice i0 j0 l0) (x1:=.slice i1 j1 l1)
        have hF11:FrB [W6.heap.size] W7 ((w11.setCell ⟨W6.heap.size,0,none⟩ (.slice i0 j0 l0)).setCell ⟨W6.heap.size,1,none⟩ (.slice i1 j1 l1)):=(hF.on hb11).trans f11 (fun _ h=>h) (fun _ h=>.inl h)
        have xO12:((w11.setCell ⟨W6.heap.size,0,none⟩ (.slice i0 j0 l0)).setCell ⟨W6.heap.size,1,none⟩ (.slice i1 j1 l1)).heap[W6.heap.size]?=some (.cells #[.slice i0 j0 l0,.slice i1 j1 l1] 29 (0,0)):=heap_setCell_same _ _ 1 _ _ _ (heap_setCell_same _ _ 0 _ _ _ xO11)
        have HR12:Hid (R=A1j g rd M.fields ((rl.drop (i+1)).map Prod.fst) b' (ul.map Prod.fst)):=by
         show _=_
         rw[HRR.out,HDR.out,List.map_cons,A4r HN.out HRt.out HRw.out]
        have HS12:Hid (RSt M.fields b' (2*rsW (rs.take (i+1)))):=by
         have h1:=C7o (q:=byt.length+1) (by rw[HTK.out.num,A3x HN.out];exact HN.out) HST.out HTK.out (HG.out.sub M HM.out x HX.out) HRw.out
         have h2:rsW (rs.take (i+1))=rsW (rs.take i)+(byt.length+1):=HRok.out.2.2.2.1
         have e:2*rsW (rs.take i)+2*(byt.length+1)=2*rsW (rs.take (i+1)):=by omega
         rw[e] at h1
         exact h1
        have hlow:∀ k∈[W6.heap.size],k < W7.heap.size:=fun k hk=>by rw[List.mem_singleton.1 hk];omega
        have HD11:Hid (DSt n w.heap.size W7.heap.size w11 cc b (u0,u1,u2) ul):=HDS.out.fr (FrB.of_below hb11:FrB [] wr w11) (fun k hk=>by simp at hk)
        obtain⟨cc',HD12⟩:∃ cc':BL (LB n),Hid (DSt n w.heap.size W7.heap.size ((w11.setCell ⟨W6.heap.size,0,none⟩ (.slice i0 j0 l0)).setCell ⟨W6.heap.size,1,none⟩ (.slice i1 j1 l1)) cc' b' (u0,u1,u2) ul∧cc'.q0=(i0,j0,l0)∧cc'.q1=(i1,j1,l1)):=by
         rcases hor with⟨rfl,rfl,rfl,rfl,rfl,rfl,rfl⟩|⟨c',g1',g2',g3',g4'⟩
         ·exact⟨cc,HD11.out.fr f11 hlow,HCC.out.1,HCC.out.2.1⟩
         ·have hDc:DSt n w.heap.size W7.heap.size wc cc b (u0,u1,u2) ul:=HDS.out.fr (FrB.of_below hbrc:FrB [] wr wc) (fun k hk=>by simp at hk)
          refine⟨c',(hDc.new (by omega) (by have:=hbwc.size;omega) HD11.out g3' g2' g4').fr f11 hlow,?_,?_⟩
          ·have h1 : [PV.v (BL.q0 c'),PV.v (BL.q1 c')] = [.slice i0 j0 l0,.slice i1 j1 l1]:=g1'
           simp only[List.cons.injEq,and_true] at h1
           exact D1a h1.1
          ·have h1 : [PV.v (BL.q0 c'),PV.v (BL.q1 c')] = [.slice i0 j0 l0,.slice i1 j1 l1]:=g1'
           simp only[List.cons.injEq,and_true] at h1
           exact D1a h1.2
        have HC12:Hid (cc'.q0=(i0,j0,l0)∧cc'.q1=(i1,j1,l1)∧ul.length≤i+1):=⟨HD12.out.2.1,HD12.out.2.2,by have:=HCC.out.2.2;omega⟩
        have HD13:Hid _:=HD12.out.1
        clear hor
        go_wp2_with fail
        go_roundg (kr - (i+1))
        case measure=>omega
        case rel=>exact⟨i+1,b',cc',ul,i0,j0,l0,i1,j1,l1,u0,u1,u2,by omega,rfl,by go_simp,HR12,HS12,HD13,HC12,xO12,hF11⟩
   ·have hir:i=kr:=by omega
    have hnl:¬ (i:Int) < (kr:Int):=by omega
    have HFin:Hid (R = .ok (⟨b.vals,ul.map Prod.fst⟩:BO (BI n))):=by
     show _=_
     have h1:kr=rl.length:=(show Row ekR w5 W4.heap.size (.slice ar kr cr) rl from HRL.out.1).len
     rw[HRR.out,List.drop_eq_nil_of_le (by omega)]
     rfl
    obtain⟨p0,p1⟩:=A0v xO
    obtain⟨q0,q1⟩:=A0v k3
    have pf:=A0b xO
    have qf:=A0b k3
    have n1:¬ W6.heap.size=w.heap.size+3:=by have:=hb46.size;omega
    have n2:¬ w.heap.size+3=W6.heap.size:=by have:=hb46.size;omega
    clear htold hdeep hkeep hir
    go_wp2_with fail
    refine bodyPost_ret (v:=.tuple #[.agg #[.slice e0 f0 g0,.slice u0 u1 u2],.int .i64 0]) (by simp[results,Tryz.results31,go_sem, *]) rfl ?_
    have f1:FrB [W6.heap.size] wr (wr.setCell ⟨W6.heap.size,1,none⟩ (.slice u0 u1 u2)):=frD xO (by decide)
    have k3':(wr.setCell ⟨W6.heap.size,1,none⟩ (.slice u0 u1 u2)).heap[w.heap.size+3]?=some (.cells #[.slice none 0 0,.slice none 0 0] 29 (0,0)):=by rw[Below.heap_setCell _ _ _ _ (show w.heap.size+3≠W6.heap.size from n2)];exact k3
    have f2:=f1.trans (fr2 k3' (x0:=.slice e0 f0 g0) (x1:=.slice u0 u1 u2)) (H:=[W6.heap.size,w.heap.size+3]) (fun i h=>by rw[List.mem_singleton.1 h];simp) (fun i h=>.inl (by rw[List.mem_singleton.1 h];simp))
    obtain⟨g1',g2',g3',g4'⟩:=HDS.out.fin
    rw[HFin.out]
    refine⟨⟨cc.vals,ul,cc.q0,(u0,u1,u2)⟩,e0,f0,g0,u0,u1,u2,?_,rfl,g2',OwnB.fr (n+1) _ _ _ _ g1' f2 (fun k hk hm=>?_),g3',hbr.trans (f2.below hbr.size (fun k hk=>?_))⟩
    ·show [cc.q0.v,PV.v (u0,u1,u2)]=_
     rw[HCC.out.1]
     rfl
    ·have h1:=g4' k hk
     have h2:=hb46.size
     simp only[List.mem_cons,List.not_mem_nil,or_false] at hm
     omega
    ·have h2:=hb46.size
     simp only[List.mem_cons,List.not_mem_nil,or_false] at hk
     omega
 ·have HT:Hid (R = .error EI'):=by
   show _=_
   rw[←HR.out,B1a HP.out (by have:=HE.out;omega),HE.out]
  have x36:=(hb46.block (w.heap.size+3) (by omega)).trans x3
  obtain⟨p0,p1⟩:=A0v x36
  have pf:=A0b x36
  have n1:¬ w5.heap.size=w.heap.size+3:=by omega
  have n2:¬ w.heap.size+3=w5.heap.size:=by omega
  go_upto_region 5 with fail
  go_region
  all_goals
   go_wp2_with fail
   refine bodyPost_ret (v:=.tuple #[.agg #[.slice none 0 0,.slice none 0 0],.int .i64 EI']) (by simp[results,Tryz.results31,go_sem, *]) rfl ?_
   rw[HT.out]
   exact⟨hE0,rfl,(A0d (A0d hbw6 (by omega)) (by omega)).drew⟩
theorem C0j {g:GI}(hG:FGd g):∀ n,B1w g n
 | 0=>C6l g
 | n+1=>C6k hG (C0j hG n)
end L
end Go.Proofs.YtcagbdokbnpdfaaGreatDoor
