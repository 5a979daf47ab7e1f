import Derived.Test.YtelmjekjohbmjaaGreatDoorY46
import Derived.Deep.RegionHeld3
namespace Go.Proofs.YtelmjekjohbmjaaGreatDoor
namespace L
open Go.RowKit
set_option linter.unusedVariables false
set_option maxHeartbeats 16000000 in
set_option maxRecDepth 100000 in
theorem tells_walk4 {g:GI}{am:Option Addr}{nm cm:Nat}{ae:Option Addr}{ne ce:Nat}{msg:Int}{w:World}(hI:WIn g am nm cm ae ne ce msg w){d:Nat}{v0 v1 u0 u1:Value}{a b:BI (d+1)}(ha:BRd d w v0 v1 a) (hoka:BOk (d+1) a) (hb:BRd d w u0 u1 b) (hokb:BOk (d+1) b){y:VI (BI d)}{e1 e2 e3:Option Addr}{h1 l1 h2 l2 h3 l3:Nat}(hy:VLs d w e1 h1 l1 e2 h2 l2 e3 h3 l3 y) (hoky:VOk (BOk d) y) (kind:Int) (n:Nat) (hn:n < 18446744073709551616) (hW:jWB (d+1) a+jWB (d+1) b≤1000000000) :
  Calls Tryz.prog 3 #[.agg #[.slice am nm cm,.slice ae ne ce],.int .i64 msg,.agg #[v0,v1],.agg #[u0,u1],.agg #[.int .i64 y.number,.slice e1 h1 l1,.slice e2 h2 l2,.slice e3 h3 l3],.int .i64 kind,.int .u64 (n:Int)] w fun e w'=>e = .returned (.bool true)∧Below w.heap.size w w':=by
 obtain⟨a0,n0,c0,a1,n1,c1,rfl,rfl⟩:=ha.shape
 obtain⟨b0,m0,d0,b1,m1,d1,rfl,rfl⟩:=hb.shape
 obtain⟨W1,HW1⟩:∃ W1,Hid (W1=(((w.alloc (.cells #[.slice am nm cm,.slice ae ne ce] 25)).alloc (.cells #[.slice a0 n0 c0,.slice a1 n1 c1] 29)).alloc (.cells #[.slice b0 m0 d0,.slice b1 m1 d1] 29)).alloc (.cells #[.int .i64 y.number,.slice e1 h1 l1,.slice e2 h2 l2,.slice e3 h3 l3] 34)):=⟨_,rfl⟩
 obtain⟨xf,xa,xb,xv,z0⟩:=A4w w (.cells #[.slice am nm cm,.slice ae ne ce] 25) (.cells #[.slice a0 n0 c0,.slice a1 n1 c1] 29) (.cells #[.slice b0 m0 d0,.slice b1 m1 d1] 29) (.cells #[.int .i64 y.number,.slice e1 h1 l1,.slice e2 h2 l2,.slice e3 h3 l3] 34)
 rw[←HW1.out] at xf xa xb xv z0
 have hb1:Below w.heap.size w W1:=by rw[HW1.out];exact((((Below.refl _ _).alloc (Nat.le_refl _) _).alloc (by simp) _).alloc (by simp;omega) _).alloc (by simp;omega) _
 have hz1:w.heap.size+4≤W1.heap.size:=Nat.le_of_eq z0.symm
 have hcl:∀ V,Below W1.heap.size W1 V→(V.cell? ⟨w.heap.size,0,none⟩=some (.slice am nm cm)∧V.cell? ⟨w.heap.size,1,none⟩=some (.slice ae ne ce))∧(V.cell? ⟨w.heap.size+1,0,none⟩=some (.slice a0 n0 c0)∧V.cell? ⟨w.heap.size+1,1,none⟩=some (.slice a1 n1 c1))∧(V.cell? ⟨w.heap.size+2,0,none⟩=some (.slice b0 m0 d0)∧V.cell? ⟨w.heap.size+2,1,none⟩=some (.slice b1 m1 d1))∧(V.cell? ⟨w.heap.size+3,0,none⟩=some (.int .i64 y.number)∧V.cell? ⟨w.heap.size+3,1,none⟩=some (.slice e1 h1 l1)∧V.cell? ⟨w.heap.size+3,2,none⟩=some (.slice e2 h2 l2)∧V.cell? ⟨w.heap.size+3,3,none⟩=some (.slice e3 h3 l3)):=fun V hV=>
  ⟨A0x ((hV.block _ (by omega)).trans xf),A0x ((hV.block _ (by omega)).trans xa),A0x ((hV.block _ (by omega)).trans xb),A2w ((hV.block _ (by omega)).trans xv)⟩
 obtain⟨Q,HQ⟩:∃ Q,Hid (A1c kind n=Q):=⟨_,rfl⟩
 obtain⟨EA,HEA⟩:∃ EA,Hid (A0z g d msg a=EA):=⟨_,rfl⟩
 obtain⟨E,HE⟩:∃ E,Hid (A3q g d msg a b=E):=⟨_,rfl⟩
 obtain⟨JC,HJC⟩:∃ JC,Hid (jcN g d msg a b=JC):=⟨_,rfl⟩
 have hfit:∀ V,Calls Tryz.prog 6 #[.int .i64 kind,.int .u64 (n:Int)] V fun e w'=>e = .returned (.int .i64 Q)∧V=w':=fun V=>by
  have:=B2g (w:=V) kind n hn
  rw[HQ.out] at this
  exact this
 have hrfit:∀ V,Calls Tryz.prog 7 #[.int .i64 kind,.int .u64 (n:Int)] V fun e w'=>e = .returned (.int .i64 Q)∧V=w':=fun V=>by
  have:=B0i (w:=V) kind n
  rw[HQ.out] at this
  exact this
 have hwr:∀ V,Below W1.heap.size W1 V→Calls Tryz.prog 8 #[.agg #[.slice am nm cm,.slice ae ne ce],.int .i64 msg,.agg #[.slice a0 n0 c0,.slice a1 n1 c1]] V fun e w'=>e = .returned (.int .i64 EA)∧Below V.heap.size V w':=fun V hV=>by
  have hwV:Below w.heap.size w V:=BTr hb1 hV
  have:=(hI.below hwV).wrong (ha.below hwV) hoka
  rw[HEA.out] at this
  exact this
 have hrwr:∀ V,Below W1.heap.size W1 V→Calls Tryz.prog 9 #[.agg #[.slice am nm cm,.slice ae ne ce],.int .i64 msg,.agg #[.slice a0 n0 c0,.slice a1 n1 c1]] V fun e w'=>e = .returned (.int .i64 EA)∧Below V.heap.size V w':=fun V hV=>by
  have hwV:Below w.heap.size w V:=BTr hb1 hV
  have hI':=hI.below hwV
  have:=A5q hI'.hg hI'.n1 hI'.n2 hI'.fit (ha.below hwV) hoka (fun m hm y hy=>((hI'.fok m hm).1 y hy).2) hI'.m1 hI'.m2
  rw[HEA.out] at this
  exact this
 have hown:∀ V,Below W1.heap.size W1 V→Calls Tryz.prog 11 #[.agg #[.slice a0 n0 c0,.slice a1 n1 c1]] V fun e w'=>∃ (i0:Option Addr) (j0 k0:Nat) (i1:Option Addr) (j1 k1:Nat),e = .returned (.agg #[.slice i0 j0 k0,.slice i1 j1 k1])∧Hid (BRd d w' (.slice i0 j0 k0) (.slice i1 j1 k1) a)∧Below V.heap.size V w':=fun V hV=>by
  have hwV:Below w.heap.size w V:=BTr hb1 hV
  refine(A7m (d+1) V 0 a0 n0 c0 a1 n1 c1 a (Nat.zero_le _) (ha.below hwV) hoka).mono ?_
  rintro e w' ⟨c,i0,j0,k0,i1,j1,k1,q1,rfl,q2,q3,_,_,hbV⟩
  exact⟨i0,j0,k0,i1,j1,k1,rfl,C0b q1 q2 q3,hbV⟩
 have hsame:∀ (V:World) (C:BO (BI d)) (p0 p1 q0 q1:Value),BRd d V p0 p1 C→BRd d V q0 q1 C→Calls Tryz.prog 10 #[.agg #[p0,p1],.agg #[q0,q1]] V fun e w'=>e = .returned (.bool true)∧Below V.heap.size V w':=fun V C p0 p1 q0 q1 hp hq=>B5i hp hq
 have hj:∀ V,Below W1.heap.size W1 V→Calls Tryz.prog 12 #[.agg #[.slice am nm cm,.slice ae ne ce],.int .i64 msg,.agg #[.slice a0 n0 c0,.slice a1 n1 c1],.agg #[.slice b0 m0 d0,.slice b1 m1 d1]] V fun e w'=>JIs d V E JC e w':=fun V hV=>by
  have hwV:Below w.heap.size w V:=BTr hb1 hV
  have:=B8u (hI.below hwV) (ha.below hwV) hoka (hb.below hwV) hokb hW
  rw[HE.out,HJC.out] at this
  exact this
 have hrj:∀ V,Below W1.heap.size W1 V→Calls Tryz.prog 13 #[.agg #[.slice am nm cm,.slice ae ne ce],.int .i64 msg,.agg #[.slice a0 n0 c0,.slice a1 n1 c1],.agg #[.slice b0 m0 d0,.slice b1 m1 d1]] V fun e w'=>JIs d V E JC e w':=fun V hV=>by
  have hwV:Below w.heap.size w V:=BTr hb1 hV
  have:=B7b (hI.below hwV) (ha.below hwV) hoka (hb.below hwV) hokb hW
  rw[HE.out,HJC.out] at this
  exact this
 obtain⟨vz,Hvz⟩:∃ vz,Hid (((BO.vals a).find? (isV y.number)).getD B7y=vz):=⟨_,rfl⟩
 obtain⟨iB,HiB⟩:∃ iB,Hid (((BO.vals a).find? (isV y.number)).isSome=iB):=⟨_,rfl⟩
 have hget:∀ V,Below W1.heap.size W1 V→Calls Tryz.prog 14 #[.agg #[.slice a0 n0 c0,.slice a1 n1 c1],.int .i64 y.number] V fun e w'=>∃ (a1:Option Addr) (n1 c1:Nat) (a2:Option Addr) (n2 c2:Nat) (a3:Option Addr) (n3 c3:Nat),e = .returned (.tuple #[.agg #[.int .i64 vz.number,.slice a1 n1 c1,.slice a2 n2 c2,.slice a3 n3 c3],.bool iB])∧Hid (VLs d w' a1 n1 c1 a2 n2 c2 a3 n3 c3 vz)∧Below V.heap.size V w':=fun V hV=>by
  have:=C1e (ha.below (BTr hb1 hV)) hoka.1 y.number rfl
  rw[Hvz.out,HiB.out] at this
  exact this
 have hfnd:∀ V,Below W1.heap.size W1 V→Calls Tryz.prog 15 #[.agg #[.slice a0 n0 c0,.slice a1 n1 c1],.int .i64 y.number] V fun e w'=>∃ (a1:Option Addr) (n1 c1:Nat) (a2:Option Addr) (n2 c2:Nat) (a3:Option Addr) (n3 c3:Nat),e = .returned (.tuple #[.agg #[.int .i64 vz.number,.slice a1 n1 c1,.slice a2 n2 c2,.slice a3 n3 c3],.bool iB])∧Hid (VLs d w' a1 n1 c1 a2 n2 c2 a3 n3 c3 vz)∧Below V.heap.size V w':=fun V hV=>by
  have:=B9i (ha.below (BTr hb1 hV)) y.number rfl
  rw[Hvz.out,HiB.out] at this
  exact this
 have HI:Hid (WIn g am nm cm ae ne ce msg w):=hI
 have HA:Hid (BRd d w (.slice a0 n0 c0) (.slice a1 n1 c1) a):=ha
 have HO:Hid (BOk (d+1) a):=hoka
 have HY:Hid (VLs d w e1 h1 l1 e2 h2 l2 e3 h3 l3 y):=hy
 have HOY:Hid (VOk (BOk d) y):=hoky
 have HWt:Hid (jWB (d+1) a≤1000000000):=by show _≤_;omega
 have hD:Below W1.heap.size W1 W1.drew:=(Below.refl _ _).drew
 clear hI ha hb hoka hokb hW xf xa xb xv z0 hy hoky
 obtain⟨⟨t0,t1⟩,⟨t2,t3⟩,⟨t4,t5⟩,⟨t6,t7,t8,t9⟩⟩:=hcl W1.drew hD
 go_enter Tryz.func3,Tryz.ntmps3
 go_upto_region 1 with fail
 rw[←HW1.out]
 go_cut [50] from 26 to 49 (fun s50 wc=>s50 = .bool false∧Below W1.heap.size W1 wc)
 case first=>
  refine wp_region_held_drew (S:=fun V=>Below W1.heap.size W1 V) (by kernel_rfl) hD (fun hHeld=>?_)
  refine tK (i:=0) (v:=?va1) rfl (fun _ _ _ h=>h) ⟨by rfl,?hya1⟩ (by assumption) ?_
  case hya1=>(intro W hSw;obtain⟨⟨o1,o2⟩,⟨o3,o4⟩,⟨o5,o6⟩,⟨o7,o8,o9,o10⟩⟩:=hcl W hSw;go_simp;first|done|with_reducible rfl)
  try simp only[pT,Act.put]
  refine tK (i:=1) (v:=?va2) rfl (fun _ _ _ h=>h) ⟨by rfl,?hya2⟩ (by assumption) ?_
  case hya2=>(intro W hSw;obtain⟨⟨o1,o2⟩,⟨o3,o4⟩,⟨o5,o6⟩,⟨o7,o8,o9,o10⟩⟩:=hcl W hSw;go_simp;first|done|with_reducible rfl)
  try simp only[pT,Act.put]
  refine tK (i:=3) (v:=?va3) rfl (fun _ _ _ h=>h) ⟨by rfl,?hya3⟩ (by assumption) ?_
  case hya3=>(intro W hSw;obtain⟨⟨o1,o2⟩,⟨o3,o4⟩,⟨o5,o6⟩,⟨o7,o8,o9,o10⟩⟩:=hcl W hSw;go_simp;first|done|with_reducible rfl)
  try simp only[pT,Act.put]
  refine tK (i:=4) (v:=?va4) rfl (fun _ _ _ h=>h) ⟨by rfl,?hya4⟩ (by assumption) ?_
  case hya4=>(intro W hSw;obtain⟨⟨o1,o2⟩,⟨o3,o4⟩,⟨o5,o6⟩,⟨o7,o8,o9,o10⟩⟩:=hcl W hSw;go_simp;first|done|with_reducible rfl)
  try simp only[pT,Act.put]
  refine wpAnyH_ready (rs:=[2]) (by kernel_rfl) (by simp) ?_
  refine AllReadyH.cons rfl (fun K hK=>?_) AllReadyH.nil
  go_simp
  refine(hfit _).mono ?_
  rintro r x2 ⟨rfl,rfl⟩
  refine hK.out _ _ ?_ (fun hHeld=>?_)
  ·(try dsimp only);with_reducible first|exact hD|exact hB4|exact hB5|exact hB6|exact hB7
  clear hK K
  try simp only[pT,Act.put]
  refine wpAnyH_ready (rs:=[5]) (by kernel_rfl) (by simp) ?_
  refine AllReadyH.cons rfl (fun K hK=>?_) AllReadyH.nil
  go_simp
  refine(hrfit _).mono ?_
  rintro r x3 ⟨rfl,rfl⟩
  refine hK.out _ _ ?_ (fun hHeld=>?_)
  ·(try dsimp only);with_reducible first|exact hD|exact hB4|exact hB5|exact hB6|exact hB7
  clear hK K
  try simp only[pT,Act.put]
  refine tK (i:=6) (v:=?va5) rfl (fun _ _ _ h=>h) ⟨by rfl,?hya5⟩ (by assumption) ?_
  case hya5=>(intro W hSw;obtain⟨⟨o1,o2⟩,⟨o3,o4⟩,⟨o5,o6⟩,⟨o7,o8,o9,o10⟩⟩:=hcl W hSw;go_simp;first|done|with_reducible rfl)
  try simp only[pT,Act.put]
  refine tK (i:=7) (v:=?va6) rfl (fun _ _ _ h=>h) ⟨by rfl,?hya6⟩ (by assumption) ?_
  case hya6=>(intro W hSw;obtain⟨⟨o1,o2⟩,⟨o3,o4⟩,⟨o5,o6⟩,⟨o7,o8,o9,o10⟩⟩:=hcl W hSw;go_simp;first|done|with_reducible rfl)
  try simp only[pT,Act.put]
  refine tK (i:=8) (v:=?va7) rfl (fun _ _ _ h=>h) ⟨by rfl,?hya7⟩ (by assumption) ?_
  case hya7=>(intro W hSw;obtain⟨⟨o1,o2⟩,⟨o3,o4⟩,⟨o5,o6⟩,⟨o7,o8,o9,o10⟩⟩:=hcl W hSw;go_simp;first|done|with_reducible rfl)
  try simp only[pT,Act.put]
  refine tK (i:=9) (v:=?va8) rfl (fun _ _ _ h=>h) ⟨by rfl,?hya8⟩ (by assumption) ?_
  case hya8=>(intro W hSw;obtain⟨⟨o1,o2⟩,⟨o3,o4⟩,⟨o5,o6⟩,⟨o7,o8,o9,o10⟩⟩:=hcl W hSw;go_simp;first|done|with_reducible rfl)
  try simp only[pT,Act.put]
  refine tK (i:=10) (v:=?va9) rfl (fun _ _ _ h=>h) ⟨by rfl,?hya9⟩ (by assumption) ?_
  case hya9=>(intro W hSw;obtain⟨⟨o1,o2⟩,⟨o3,o4⟩,⟨o5,o6⟩,⟨o7,o8,o9,o10⟩⟩:=hcl W hSw;go_simp;first|done|with_reducible rfl)
  try simp only[pT,Act.put]
  refine tK (i:=12) (v:=?va10) rfl (fun _ _ _ h=>h) ⟨by rfl,?hya10⟩ (by assumption) ?_
  case hya10=>(intro W hSw;obtain⟨⟨o1,o2⟩,⟨o3,o4⟩,⟨o5,o6⟩,⟨o7,o8,o9,o10⟩⟩:=hcl W hSw;go_simp;first|done|with_reducible rfl)
  try simp only[pT,Act.put]
  refine tK (i:=13) (v:=?va11) rfl (fun _ _ _ h=>h) ⟨by rfl,?hya11⟩ (by assumption) ?_
  case hya11=>(intro W hSw;obtain⟨⟨o1,o2⟩,⟨o3,o4⟩,⟨o5,o6⟩,⟨o7,o8,o9,o10⟩⟩:=hcl W hSw;go_simp;first|done|with_reducible rfl)
  try simp only[pT,Act.put]
  refine tK (i:=14) (v:=?va12) rfl (fun _ _ _ h=>h) ⟨by rfl,?hya12⟩ (by assumption) ?_
  case hya12=>(intro W hSw;obtain⟨⟨o1,o2⟩,⟨o3,o4⟩,⟨o5,o6⟩,⟨o7,o8,o9,o10⟩⟩:=hcl W hSw;go_simp;first|done|with_reducible rfl)
  try simp only[pT,Act.put]
  refine wpAnyH_ready (rs:=[11]) (by kernel_rfl) (by simp) ?_
  refine AllReadyH.cons rfl (fun K hK=>?_) AllReadyH.nil
  go_simp
  refine(hwr _ hD).mono ?_
  rintro r x4 ⟨rfl,hb4⟩
  have hB4:=BTr hD hb4
  refine hK.out _ _ ?_ (fun hHeld=>?_)
  ·(try dsimp only);with_reducible first|exact hD|exact hB4|exact hB5|exact hB6|exact hB7
  clear hK K
  try simp only[pT,Act.put]
  refine wpAnyH_ready (rs:=[15]) (by kernel_rfl) (by simp) ?_
  refine AllReadyH.cons rfl (fun K hK=>?_) AllReadyH.nil
  go_simp
  refine(hrwr _ hB4).mono ?_
  rintro r x5 ⟨rfl,hb5⟩
  have hB5:=BTr hB4 hb5
  refine hK.out _ _ ?_ (fun hHeld=>?_)
  ·(try dsimp only);with_reducible first|exact hD|exact hB4|exact hB5|exact hB6|exact hB7
  clear hK K
  try simp only[pT,Act.put]
  refine tK (i:=16) (v:=?va13) rfl (fun _ _ _ h=>h) ⟨by rfl,?hya13⟩ (by assumption) ?_
  case hya13=>(intro W hSw;obtain⟨⟨o1,o2⟩,⟨o3,o4⟩,⟨o5,o6⟩,⟨o7,o8,o9,o10⟩⟩:=hcl W hSw;go_simp;first|done|with_reducible rfl)
  try simp only[pT,Act.put]
  refine tK (i:=17) (v:=?va14) rfl (fun _ _ _ h=>h) ⟨by rfl,?hya14⟩ (by assumption) ?_
  case hya14=>(intro W hSw;obtain⟨⟨o1,o2⟩,⟨o3,o4⟩,⟨o5,o6⟩,⟨o7,o8,o9,o10⟩⟩:=hcl W hSw;go_simp;first|done|with_reducible rfl)
  try simp only[pT,Act.put]
  refine tK (i:=18) (v:=?va15) rfl (fun _ _ _ h=>h) ⟨by rfl,?hya15⟩ (by assumption) ?_
  case hya15=>(intro W hSw;obtain⟨⟨o1,o2⟩,⟨o3,o4⟩,⟨o5,o6⟩,⟨o7,o8,o9,o10⟩⟩:=hcl W hSw;go_simp;first|done|with_reducible rfl)
  try simp only[pT,Act.put]
  refine tK (i:=19) (v:=?va16) rfl (fun _ _ _ h=>h) ⟨by rfl,?hya16⟩ (by assumption) ?_
  case hya16=>(intro W hSw;obtain⟨⟨o1,o2⟩,⟨o3,o4⟩,⟨o5,o6⟩,⟨o7,o8,o9,o10⟩⟩:=hcl W hSw;go_simp;first|done|with_reducible rfl)
  try simp only[pT,Act.put]
  refine tK (i:=21) (v:=?va17) rfl (fun _ _ _ h=>h) ⟨by rfl,?hya17⟩ (by assumption) ?_
  case hya17=>(intro W hSw;obtain⟨⟨o1,o2⟩,⟨o3,o4⟩,⟨o5,o6⟩,⟨o7,o8,o9,o10⟩⟩:=hcl W hSw;go_simp;first|done|with_reducible rfl)
  try simp only[pT,Act.put]
  refine wpAnyH_ready (rs:=[20]) (by kernel_rfl) (by simp) ?_
  refine AllReadyH.cons rfl (fun K hK=>?_) AllReadyH.nil
  go_simp
  refine(hown _ hB5).mono ?_
  rintro r x6 ⟨i0,j0,k0,i1,j1,k1,rfl,HOW,hb6⟩
  have hB6:=BTr hB5 hb6
  have hsm:=hsame _ _ _ _ _ _ HOW.out (HA.out.below (BTr hb1 hB6))
  refine hK.out _ _ ?_ (fun hHeld=>?_)
  ·(try dsimp only);with_reducible first|exact hD|exact hB4|exact hB5|exact hB6|exact hB7
  clear hK K
  try simp only[pT,Act.put]
  refine wpAnyH_ready (rs:=[22]) (by kernel_rfl) (by simp) ?_
  refine AllReadyH.cons rfl (fun K hK=>?_) AllReadyH.nil
  go_simp
  refine hsm.mono ?_
  rintro r x7 ⟨rfl,hb7⟩
  have hB7:=BTr hB6 hb7
  refine hK.out _ _ ?_ (fun hHeld=>?_)
  ·(try dsimp only);with_reducible first|exact hD|exact hB4|exact hB5|exact hB6|exact hB7
  clear hK K
  try simp only[pT,Act.put]
  refine tK (i:=23) (v:=?va18) rfl (fun _ _ _ h=>h) ⟨by rfl,?hya18⟩ (by assumption) ?_
  case hya18=>(intro W hSw;obtain⟨⟨o1,o2⟩,⟨o3,o4⟩,⟨o5,o6⟩,⟨o7,o8,o9,o10⟩⟩:=hcl W hSw;go_simp;first|done|with_reducible rfl)
  try simp only[pT,Act.put]
  refine tK (i:=24) (v:=?va19) rfl (fun _ _ _ h=>h) ⟨by rfl,?hya19⟩ (by assumption) ?_
  case hya19=>(intro W hSw;obtain⟨⟨o1,o2⟩,⟨o3,o4⟩,⟨o5,o6⟩,⟨o7,o8,o9,o10⟩⟩:=hcl W hSw;go_simp;first|done|with_reducible rfl)
  try simp only[pT,Act.put]
  refine wpAnyH_done (by kernel_rfl) ?_ _
  go_wp2_with fail
  go_meet
  exact⟨rfl,hB7⟩
 case rest=>
 obtain⟨rfl,hbV1⟩:=hcut
 obtain⟨V1,HV1⟩:∃ V1,V1=wc:=⟨_,rfl⟩
 subst HV1
 clear t0 t1 t2 t3 t4 t5 t6 t7 t8 t9
 obtain⟨⟨t0,t1⟩,⟨t2,t3⟩,⟨t4,t5⟩,⟨t6,t7,t8,t9⟩⟩:=hcl V1 hbV1
 go_wp2_with fail
 refine(hj V1 hbV1).mono ?_
 rintro r V2 ⟨r0,s0,q0,r1,s1,q1,rfl,HX,hb2⟩
 obtain⟨U2,HU2⟩:∃ U2,Hid (U2=V2.alloc (.cells #[.slice r0 s0 q0,.slice r1 s1 q1] 29)):=⟨_,rfl⟩
 have hbU2:Below V2.heap.size V2 U2:=by rw[HU2.out];exact(Below.refl _ _).alloc (Nat.le_refl _) _
 have xU2:U2.heap[V2.heap.size]?=some (.cells #[.slice r0 s0 q0,.slice r1 s1 q1] 29 (0,0)):=by rw[HU2.out];exact heap_alloc_new _ _
 have hB2:Below W1.heap.size W1 U2:=BTr hbV1 (BTr hb2 hbU2)
 have lU2:=(Array.getElem?_eq_some_iff.1 xU2).1
 clear t0 t1 t2 t3 t4 t5 t6 t7 t8 t9
 go_upto_region 4 with fail
 rw[←HU2.out]
 obtain⟨⟨t0,t1⟩,⟨t2,t3⟩,⟨t4,t5⟩,⟨t6,t7,t8,t9⟩⟩:=hcl U2 hB2
 go_wp2_with fail
 refine(hrj U2 hB2).mono ?_
 rintro r V3 ⟨r2,s2,q2,r3,s3,q3,rfl,HX',hb3⟩
 obtain⟨U3,HU3⟩:∃ U3,Hid (U3=V3.alloc (.cells #[.slice r2 s2 q2,.slice r3 s3 q3] 29)):=⟨_,rfl⟩
 have hbU3:Below V3.heap.size V3 U3:=by rw[HU3.out];exact(Below.refl _ _).alloc (Nat.le_refl _) _
 have xU3:U3.heap[V3.heap.size]?=some (.cells #[.slice r2 s2 q2,.slice r3 s3 q3] 29 (0,0)):=by rw[HU3.out];exact heap_alloc_new _ _
 have hb23:Below U2.heap.size U2 U3:=BTr hb3 hbU3
 have hB3:Below W1.heap.size W1 U3:=BTr hB2 hb23
 clear t0 t1 t2 t3 t4 t5 t6 t7 t8 t9
 go_upto_region 5 with fail
 rw[←HU3.out]
 obtain⟨y0,y1⟩:=A0x ((hb23.block _ lU2).trans xU2)
 obtain⟨y2,y3⟩:=A0x xU3
 have hs3:=hsame U3 JC _ _ _ _ ((HX.out.below hbU2).below hb23) (HX'.out.below hbU3)
 go_wp2_with fail
 refine hs3.mono ?_
 rintro r V4 ⟨rfl,hb4⟩
 have hB4:Below W1.heap.size W1 V4:=BTr hB3 hb4
 clear y0 y1 y2 y3 hs3 HX HX' xU2 xU3
 obtain⟨⟨t0,t1⟩,⟨t2,t3⟩,⟨t4,t5⟩,⟨t6,t7,t8,t9⟩⟩:=hcl V4 hB4
 go_wp2_with fail
 refine(hget V4 hB4).mono ?_
 rintro r V5 ⟨p1,p2,p3,p4,p5,p6,p7,p8,p9,rfl,HP,hb5⟩
 obtain⟨U5,HU5⟩:∃ U5,Hid (U5=V5.alloc (.cells #[.int .i64 vz.number,.slice p1 p2 p3,.slice p4 p5 p6,.slice p7 p8 p9] 34)):=⟨_,rfl⟩
 have hbU5:Below V5.heap.size V5 U5:=by rw[HU5.out];exact(Below.refl _ _).alloc (Nat.le_refl _) _
 have xU5:U5.heap[V5.heap.size]?=some (.cells #[.int .i64 vz.number,.slice p1 p2 p3,.slice p4 p5 p6,.slice p7 p8 p9] 34 (0,0)):=by rw[HU5.out];exact heap_alloc_new _ _
 have hB5:Below W1.heap.size W1 U5:=BTr hB4 (BTr hb5 hbU5)
 have lU5:=(Array.getElem?_eq_some_iff.1 xU5).1
 clear t0 t1 t2 t3 t4 t5 t6 t7 t8 t9
 go_upto_region 8 with fail
 rw[←HU5.out]
 obtain⟨⟨t0,t1⟩,⟨t2,t3⟩,⟨t4,t5⟩,⟨t6,t7,t8,t9⟩⟩:=hcl U5 hB5
 go_wp2_with fail
 refine(hfnd U5 hB5).mono ?_
 rintro r V6 ⟨f1,f2,f3,f4,f5,f6,f7,f8,f9,rfl,HFF,hb6⟩
 obtain⟨U6,HU6⟩:∃ U6,Hid (U6=V6.alloc (.cells #[.int .i64 vz.number,.slice f1 f2 f3,.slice f4 f5 f6,.slice f7 f8 f9] 34)):=⟨_,rfl⟩
 have hbU6:Below V6.heap.size V6 U6:=by rw[HU6.out];exact(Below.refl _ _).alloc (Nat.le_refl _) _
 have xU6:U6.heap[V6.heap.size]?=some (.cells #[.int .i64 vz.number,.slice f1 f2 f3,.slice f4 f5 f6,.slice f7 f8 f9] 34 (0,0)):=by rw[HU6.out];exact heap_alloc_new _ _
 have hb56:Below U5.heap.size U5 U6:=BTr hb6 hbU6
 have hB6:Below W1.heap.size W1 U6:=BTr hB5 hb56
 have lU6:=(Array.getElem?_eq_some_iff.1 xU6).1
 clear t0 t1 t2 t3 t4 t5 t6 t7 t8 t9
 go_upto_region 9 with fail
 rw[←HU6.out]
 obtain⟨y0,y1,y2,y3⟩:=A2w ((hb56.block _ lU5).trans xU5)
 obtain⟨y4,y5,y6,y7⟩:=A2w xU6
 obtain⟨X7,HX7⟩:∃ X7,Hid (X7=(U6.alloc (.cells #[.int .i64 vz.number,.slice p1 p2 p3,.slice p4 p5 p6,.slice p7 p8 p9] 34)).alloc (.cells #[.int .i64 vz.number,.slice f1 f2 f3,.slice f4 f5 f6,.slice f7 f8 f9] 34)):=⟨_,rfl⟩
 have hb7:Below U6.heap.size U6 X7:=by rw[HX7.out];exact((Below.refl _ _).alloc (Nat.le_refl _) _).alloc (by simp) _
 have xX1:X7.heap[U6.heap.size]?=some (.cells #[.int .i64 vz.number,.slice p1 p2 p3,.slice p4 p5 p6,.slice p7 p8 p9] 34 (0,0)):=by rw[HX7.out];exact A0r _ _ _
 have xX2:X7.heap[U6.heap.size+1]?=some (.cells #[.int .i64 vz.number,.slice f1 f2 f3,.slice f4 f5 f6,.slice f7 f8 f9] 34 (0,0)):=by rw[HX7.out];exact A0o _ _ _
 have hs7:=hsame X7 ⟨[vz],[]⟩ _ _ _ _ (C0a xX1 (((HP.out.below hbU5).below hb56).below hb7)) (C0a xX2 ((HFF.out.below hbU6).below hb7))
 go_wp2_with fail
 rw[←HX7.out]
 refine hs7.mono ?_
 rintro r V8 ⟨rfl,hb8⟩
 have hB8:Below W1.heap.size W1 V8:=BTr hB6 (BTr hb7 hb8)
 clear y0 y1 y2 y3 y4 y5 y6 y7 hs7 HP HFF xU5 xU6 xX1 xX2
 obtain⟨⟨t0,t1⟩,⟨t2,t3⟩,⟨t4,t5⟩,⟨t6,t7,t8,t9⟩⟩:=hcl V8 hB8
 go_wp2_with fail
 refine(hrwr V8 hB8).mono ?_
 rintro r V9 ⟨rfl,hb9⟩
 have hB9:Below W1.heap.size W1 V9:=BTr hB8 hb9
 clear t0 t1 t2 t3 t4 t5 t6 t7 t8 t9
 by_cases hE0:EA=0
 ·have ez:(EA != 0)=false:=by simp[hE0]
  have HZ:Hid (A0z g d msg a=0):=HEA.out.trans hE0
  clear hE0
  obtain⟨hr,hm1,hm2,M,hM,hbea⟩:=A3x HZ.out
  obtain⟨j,rfl⟩:∃ j:Nat,msg=(j:Int):=⟨msg.toNat,by omega⟩
  have hj':g.msgs[j]?=some M:=by simpa using hM
  have hmm:M∈g.msgs:=List.mem_of_getElem? hj'
  obtain⟨bm,om,rfl,hat⟩:=HI.out.hg.1.get MAt.plain hj'
  obtain⟨vf,vb,w0,w1,w2,hf0,hv0⟩:=hat.at
  obtain⟨af,nf,cf,rfl,_,_⟩:=hf0.shape
  obtain⟨ab,nb,cb,rfl,_,_⟩:=hv0.shape
  have hjl:(j:Int) < (nm:Int):=by
   have h1:=HI.out.hg.1.len.1
   have h2:=(List.getElem?_eq_some_iff.1 hj').1
   omega
  obtain⟨fs,Hfs⟩:∃ fs,Hid (M.fields=fs):=⟨_,rfl⟩
  rw[Hfs.out] at hf0
  have HF0:Hid (RdL 6 FAt w (.slice af nf cf) fs):=hf0
  have HFK:Hid ((∀ f∈fs,I64 f.number∧I64 f.choice)∧fs.length≤140737488355328):=by
   have:=HI.out.fok M hmm
   rw[Hfs.out] at this
   exact this
  have HRI:Hid ((BO.vals a).Pairwise fun u v=>u.number < v.number):=(A6w hbea).2.1.rise
  have HSB:Hid (∀ x∈fs,x.kind=10→∃ m',g.msgs.find? (fun m=>decide (m.name=x.type))=some m'):=by
   intro x hx
   rw[←Hfs.out] at hx
   exact A2m hr M hmm x hx
  have HBT:Hid (A3d g w (.slice (some ⟨bm,om,none⟩) nm cm) (.slice ae ne ce) d):=A7p (A2m hr) (fun m hm y hy=>⟨B0l hr m hm y hy,((HI.out.fok m hm).1 y hy).2⟩) HI.out.hg d
  have hll:((BO.vals a).length+1)*80≤140737488355328:=by
   have h1:=A2x (jW (jWB d)) (fun v=>by unfold jW;omega) (BO.vals a)
   have h2:((BO.vals a).map (jW (jWB d))).sum+(BO.unk a).length≤1000000000:=HWt.out
   omega
  have w0:=A0c (BTr hb1 hB9) w0
  have w1:=A0c (BTr hb1 hB9) w1
  have w2:=A0c (BTr hb1 hB9) w2
  obtain⟨N,HN⟩:∃ N,Hid (V9.heap.size=N):=⟨_,rfl⟩
  have hN1:N≤V9.heap.size:=Nat.le_of_eq HN.out.symm
  have hN2:V9.heap.size≤N:=Nat.le_of_eq HN.out
  obtain⟨W2,HW2⟩:∃ W2,Hid (W2=V9.alloc (.cells #[.string (S M.name),.slice af nf cf,.slice ab nb cb] 48)):=⟨_,rfl⟩
  have hb92:Below V9.heap.size V9 W2:=by rw[HW2.out];exact(Below.refl _ _).alloc (Nat.le_refl _) _
  have x2:W2.heap[N]?=some (.cells #[.string (S M.name),.slice af nf cf,.slice ab nb cb] 48 (0,0)):=by rw[←HN.out,HW2.out];exact heap_alloc_new _ _
  have hz2:N < W2.heap.size:=(Array.getElem?_eq_some_iff.1 x2).1
  have hBW2:Below W1.heap.size W1 W2:=BTr hB9 hb92
  have hcl2:∀ V,Below W2.heap.size W2 V→V.cell? ⟨N,0,none⟩=some (.string (S M.name))∧V.cell? ⟨N,1,none⟩=some (.slice af nf cf)∧V.cell? ⟨N,2,none⟩=some (.slice ab nb cb):=fun V hV=>A6o ((hV.block _ hz2).trans x2)
  obtain⟨⟨t0,t1⟩,⟨t2,t3⟩,⟨t4,t5⟩,⟨t6,t7,t8,t9⟩⟩:=hcl V9 hB9
  have hfi:=A4h (nm:=.string (S M.name)) (vb:=.slice ab nb cb) (hf0.below FAt.stays (BTr hb1 hBW2)) ⟨_,_,_,rfl⟩ ⟨_,rfl⟩ y.number
  clear hM hj' hmm hat hf0 hv0 hbea hr hm1 hm2
  go_upto_region 14 with fail
  rw[←HW2.out,HN.out]
  clear t0 t1 t2 t3 t4 t5 t6 t7 t8 t9 w0 w1 w2
  obtain⟨⟨t0,t1⟩,⟨t2,t3⟩,⟨t4,t5⟩,⟨t6,t7,t8,t9⟩⟩:=hcl W2 hBW2
  obtain⟨o0,o1,o2⟩:=hcl2 W2 (Below.refl _ _)
  cases hfd:fs.find? (fun f=>decide (f.number=y.number)) with
  | none=>
   have hno:∀ f∈fs,decide (f.number=y.number)=false:=fun f hf=>by have:=List.find?_eq_none.1 hfd f hf;simpa using this
   rw[A1p hno] at hfi
   have hfn:∀ V,Below W2.heap.size W2 V→_:=fun V hV=>A4d (nm:=.string (S M.name)) (vb:=.slice ab nb cb) (HF0.out.below FAt.stays (BTr hb1 (BTr hBW2 hV))) ⟨_,_,_,rfl⟩ ⟨_,rfl⟩ y.number hno
   clear hfd hno
   go_wp2_with fail
   refine hfi.mono ?_
   rintro r V10 ⟨rfl,hb10⟩
   clear t0 t1 t2 t3 t4 t5 t6 t7 t8 t9 o0 o1 o2
   obtain⟨⟨t0,t1⟩,⟨t2,t3⟩,⟨t4,t5⟩,⟨t6,t7,t8,t9⟩⟩:=hcl V10 (BTr hBW2 hb10)
   obtain⟨o0,o1,o2⟩:=hcl2 V10 hb10
   have hfn10:=hfn V10 hb10
   go_wp2_with fail
   refine hfn10.mono ?_
   rintro r V11 ⟨rfl,hb11⟩
   have hB11:=BTr hb10 hb11
   clear t0 t1 t2 t3 t4 t5 t6 t7 t8 t9 o0 o1 o2 hfn10 hfi hfn
   obtain⟨⟨t0,t1⟩,⟨t2,t3⟩,⟨t4,t5⟩,⟨t6,t7,t8,t9⟩⟩:=hcl V11 (BTr hBW2 hB11)
   obtain⟨o0,o1,o2⟩:=hcl2 V11 hB11
   go_upto_region 16 with fail
   go_cut [140] from 121 to 139 (fun s140 wc=>s140 = .bool false∧Below V11.heap.size V11 wc)
   case first=>
    go_quiet (fail)
    all_goals
     go_wp2_with fail
     go_meet
     exact⟨rfl,⟨rfl,rfl,rfl,Nat.le_refl _,fun _ _=>rfl⟩⟩
   case rest=>
    obtain⟨rfl,hbc⟩:=hcut
    have hBc:=BTr hB11 hbc
    clear t0 t1 t2 t3 t4 t5 t6 t7 t8 t9 o0 o1 o2
    obtain⟨⟨t0,t1⟩,⟨t2,t3⟩,⟨t4,t5⟩,⟨t6,t7,t8,t9⟩⟩:=hcl wc (BTr hBW2 hBc)
    obtain⟨o0,o1,o2⟩:=hcl2 wc hBc
    go_upto_region 18 with fail
    go_quiet (fail)
    all_goals
     go_wp2_with fail
     go_ret
     exact⟨rfl,BTr hb1 (BTr hBW2 (BTr hBc ⟨rfl,rfl,rfl,Nat.le_refl _,fun _ _=>rfl⟩))⟩
  | some xf=>
   obtain⟨jf,hj1,hj2,hj3⟩:=A3e hfd
   have hjn:=of_decide_eq_true hj2
   rw[A2v hj1 hj3 hj2] at hfi
   have hfx:fs.find? (isF y.number)=some xf:=hfd
   obtain⟨bf,of',rfl,hfa⟩:=HF0.out.get FAt.plain hj1
   have HFA:Hid (FAt w ⟨bf,of'+jf*6,none⟩ xf):=hfa
   have hfn:∀ V,Below W2.heap.size W2 V→_:=fun V hV=>A3v (nm:=.string (S M.name)) (vb:=.slice ab nb cb) (HF0.out.below FAt.stays (BTr hb1 (BTr hBW2 hV))) ⟨_,_,_,rfl⟩ ⟨_,rfl⟩ y.number hj1 hjn hj3
   have hjf:(jf:Int) < (nf:Int):=by
    have h1:=HF0.out.len.1
    have h2:=(List.getElem?_eq_some_iff.1 hj1).1
    omega
   obtain⟨Z,HZv⟩:∃ Z,Hid ((wvE xf y fun name s=>A2o g d (1+1) (A1h g name) s)=Z):=⟨_,rfl⟩
   have hwv:∀ V,Below W2.heap.size W2 V→Calls Tryz.prog 18 #[.agg #[.slice (some ⟨bm,om,none⟩) nm cm,.slice ae ne ce],.pointer (some ⟨bf,of'+jf*6,none⟩),.agg #[.int .i64 y.number,.slice e1 h1 l1,.slice e2 h2 l2,.slice e3 h3 l3],.int .i64 1] V fun e w'=>e = .returned (.int .i64 Z)∧Below V.heap.size V w':=fun V hV=>by
    have hwV:Below w.heap.size w V:=BTr hb1 (BTr hBW2 hV)
    have hyV:=HY.out.below hwV
    have:=A8p HI.out.hg HBT.out hwV HFA.out (HSB.out xf (List.mem_of_getElem? hj1)) y HOY.out hyV.1 hyV.2.1 hyV.2.2 1 (by omega) (by omega)
    rw[HZv.out] at this
    exact this
   obtain⟨PC,HPC⟩:∃ PC:BO (BI d),Hid ((⟨A6d fs xf (BO.vals a) y,BO.unk a⟩:BO (BI d))=PC):=⟨_,rfl⟩
   have hset:∀ V,Below W2.heap.size W2 V→Calls Tryz.prog 19 #[.agg #[.string (S M.name),.slice (some ⟨bf,of',none⟩) nf cf,.slice ab nb cb],.agg #[.slice a0 n0 c0,.slice a1 n1 c1],.agg #[.int .i64 y.number,.slice e1 h1 l1,.slice e2 h2 l2,.slice e3 h3 l3]] V fun e w'=>∃ (i0:Option Addr) (j0 k0:Nat) (i1:Option Addr) (j1 k1:Nat),e = .returned (.agg #[.slice i0 j0 k0,.slice i1 j1 k1])∧Hid (BRd d w' (.slice i0 j0 k0) (.slice i1 j1 k1) PC)∧Below V.heap.size V w':=fun V hV=>by
    have hwV:Below w.heap.size w V:=BTr hb1 (BTr hBW2 hV)
    have hyV:=HY.out.below hwV
    have:=B8d (s:=M.name) (ab:=ab) (nb:=nb) (cb:=cb) (HF0.out.below FAt.stays hwV) HFK.out.1 HFK.out.2 (HA.out.below hwV) HO.out hfx hyV.1 hyV.2.1 hyV.2.2 HOY.out hll
    rw[HPC.out] at this
    exact this
   have hrset:(Z=0∨Z=2)→∀ V,Below W2.heap.size W2 V→Calls Tryz.prog 20 #[.agg #[.string (S M.name),.slice (some ⟨bf,of',none⟩) nf cf,.slice ab nb cb],.agg #[.slice a0 n0 c0,.slice a1 n1 c1],.agg #[.int .i64 y.number,.slice e1 h1 l1,.slice e2 h2 l2,.slice e3 h3 l3]] V fun e w'=>∃ (i0:Option Addr) (j0 k0:Nat) (i1:Option Addr) (j1 k1:Nat),e = .returned (.agg #[.slice i0 j0 k0,.slice i1 j1 k1])∧Hid (BRd d w' (.slice i0 j0 k0) (.slice i1 j1 k1) PC)∧Below V.heap.size V w':=fun hz V hV=>by
    have hwV:Below w.heap.size w V:=BTr hb1 (BTr hBW2 hV)
    have hyV:=HY.out.below hwV
    have hav:=HA.out.below hwV
    refine(B2q (s:=M.name) (ab:=ab) (nb:=nb) (cb:=cb) (a1:=a1) (n1:=n1) (c1:=c1) (Sub.refl V) (HF0.out.below FAt.stays hwV) hav.1 hfx hyV.1 hyV.2.1 hyV.2.2 hll).mono ?_
    rintro e w' ⟨i0,j0,k0,rfl,hr,hbV⟩
    refine⟨i0,j0,k0,a1,n1,c1,rfl,?_,hbV⟩
    rw[←HPC.out]
    refine⟨?_,hav.2.below RAt.stays hbV⟩
    have h5:=hr w' (Over.self hbV)
    rw[B9n HRI.out (by rw[HZv.out];exact hz)] at h5
    exact h5
   clear hfd hj1 hj2 hj3 hjn hfx hfa
   go_wp2_with fail
   refine hfi.mono ?_
   rintro r V10 ⟨rfl,hb10⟩
   clear t0 t1 t2 t3 t4 t5 t6 t7 t8 t9 o0 o1 o2
   obtain⟨⟨t0,t1⟩,⟨t2,t3⟩,⟨t4,t5⟩,⟨t6,t7,t8,t9⟩⟩:=hcl V10 (BTr hBW2 hb10)
   obtain⟨o0,o1,o2⟩:=hcl2 V10 hb10
   have hfn10:=hfn V10 hb10
   go_wp2_with fail
   refine hfn10.mono ?_
   rintro r V11 ⟨⟨b',o',e',rfl⟩,hb11⟩
   cases e'
   have hB11:=BTr hb10 hb11
   clear t0 t1 t2 t3 t4 t5 t6 t7 t8 t9 o0 o1 o2 hfn10 hfi hfn
   obtain⟨⟨t0,t1⟩,⟨t2,t3⟩,⟨t4,t5⟩,⟨t6,t7,t8,t9⟩⟩:=hcl V11 (BTr hBW2 hB11)
   obtain⟨o0,o1,o2⟩:=hcl2 V11 hB11
   obtain⟨f0,f1,f2,f3,f4,f5⟩:=(FAt.stays _ _ _ _ (BTr hb1 (BTr hBW2 hB11)) HFA.out).at
   go_upto_region 16 with fail
   go_cut [140] from 121 to 139 (fun s140 wc=>s140 = .bool false∧Below V11.heap.size V11 wc)
   case first=>
    have hj0:decide ((0:Int)≤(jf:Int))=true:=by simp
    go_quiet (fail)
    all_goals
     go_wp2_with fail
     go_meet
     exact⟨rfl,⟨rfl,rfl,rfl,Nat.le_refl _,fun _ _=>rfl⟩⟩
   case rest=>
    obtain⟨rfl,hbc⟩:=hcut
    obtain⟨V12,HV12⟩:∃ V12,V12=wc:=⟨_,rfl⟩
    subst HV12
    have hBc:=BTr hB11 hbc
    have hE12:Below W2.heap.size W2 V12.drew:=hBc.drew
    clear t0 t1 t2 t3 t4 t5 t6 t7 t8 t9 o0 o1 o2 f0 f1 f2 f3 f4 f5
    have hcl4:∀ V,Below W2.heap.size W2 V→_:=fun V hV=>hcl V (BTr hBW2 hV)
    obtain⟨⟨t0,t1⟩,⟨t2,t3⟩,⟨t4,t5⟩,⟨t6,t7,t8,t9⟩⟩:=hcl4 V12.drew hE12
    obtain⟨o0,o1,o2⟩:=hcl2 V12.drew hE12
    have hwv1:=hwv V12.drew hE12
    go_upto_region 18 with fail
    by_cases hz0:Z=0
    ·have ez0:(Z != 0)=false:=by simp[hz0]
     have hrs:=hrset (.inl hz0)
     clear hz0 hrset
     refine wp_region_held_drew (S:=fun V=>Below W2.heap.size W2 V) (by kernel_rfl) hE12 (fun hHeld=>?_)
     refine tK (i:=0) (v:=?vb1) rfl (fun _ _ _ h=>h) ⟨by rfl,?hyb1⟩ (by assumption) ?_
     case hyb1=>(intro W hSw;obtain⟨⟨u1,u2⟩,⟨u3,u4⟩,⟨u5,u6⟩,⟨u7,u8,u9,u10⟩⟩:=hcl4 W hSw;obtain⟨u11,u12,u13⟩:=hcl2 W hSw;go_simp;first|done|with_reducible rfl)
     try simp only[pT,Act.put]
     refine tK (i:=1) (v:=?vb2) rfl (fun _ _ _ h=>h) ⟨by rfl,?hyb2⟩ (by assumption) ?_
     case hyb2=>(intro W hSw;obtain⟨⟨u1,u2⟩,⟨u3,u4⟩,⟨u5,u6⟩,⟨u7,u8,u9,u10⟩⟩:=hcl4 W hSw;obtain⟨u11,u12,u13⟩:=hcl2 W hSw;go_simp;first|done|with_reducible rfl)
     try simp only[pT,Act.put]
     refine tK (i:=2) (v:=?vb3) rfl (fun _ _ _ h=>h) ⟨by rfl,?hyb3⟩ (by assumption) ?_
     case hyb3=>(intro W hSw;obtain⟨⟨u1,u2⟩,⟨u3,u4⟩,⟨u5,u6⟩,⟨u7,u8,u9,u10⟩⟩:=hcl4 W hSw;obtain⟨u11,u12,u13⟩:=hcl2 W hSw;go_simp;first|done|with_reducible rfl)
     try simp only[pT,Act.put]
     refine tK (i:=3) (v:=?vb4) rfl (fun _ _ _ h=>h) ⟨by rfl,?hyb4⟩ (by assumption) ?_
     case hyb4=>(intro W hSw;obtain⟨⟨u1,u2⟩,⟨u3,u4⟩,⟨u5,u6⟩,⟨u7,u8,u9,u10⟩⟩:=hcl4 W hSw;obtain⟨u11,u12,u13⟩:=hcl2 W hSw;go_simp;first|done|with_reducible rfl)
     try simp only[pT,Act.put]
     refine tK (i:=4) (v:=?vb5) rfl (fun _ _ _ h=>h) ⟨by rfl,?hyb5⟩ (by assumption) ?_
     case hyb5=>(intro W hSw;obtain⟨⟨u1,u2⟩,⟨u3,u4⟩,⟨u5,u6⟩,⟨u7,u8,u9,u10⟩⟩:=hcl4 W hSw;obtain⟨u11,u12,u13⟩:=hcl2 W hSw;go_simp;first|done|with_reducible rfl)
     try simp only[pT,Act.put]
     refine tK (i:=5) (v:=?vb6) rfl (fun _ _ _ h=>h) ⟨by rfl,?hyb6⟩ (by assumption) ?_
     case hyb6=>(intro W hSw;obtain⟨⟨u1,u2⟩,⟨u3,u4⟩,⟨u5,u6⟩,⟨u7,u8,u9,u10⟩⟩:=hcl4 W hSw;obtain⟨u11,u12,u13⟩:=hcl2 W hSw;go_simp;first|done|with_reducible rfl)
     try simp only[pT,Act.put]
     refine wpAnyH_ready (rs:=[6]) (by kernel_rfl) (by simp) ?_
     refine AllReadyH.cons rfl (fun K hK=>?_) AllReadyH.nil
     go_simp
     refine hwv1.mono ?_
     rintro r w13 ⟨rfl,hb13⟩
     have hQ1:=BTr hE12 hb13
     refine hK.out _ _ ?_ (fun hHeld=>?_)
     ·(try dsimp only);with_reducible first|exact hE12|exact hQ1|exact hQ2|exact hQ3|exact hQ4|exact hQ5
     clear hK K
     try simp only[pT,Act.put]
     refine tK (i:=7) (v:=?vb7) rfl (fun _ _ _ h=>h) ⟨by rfl,?hyb7⟩ (by assumption) ?_
     case hyb7=>(intro W hSw;obtain⟨⟨u1,u2⟩,⟨u3,u4⟩,⟨u5,u6⟩,⟨u7,u8,u9,u10⟩⟩:=hcl4 W hSw;obtain⟨u11,u12,u13⟩:=hcl2 W hSw;go_simp;first|done|with_reducible rfl)
     try simp only[pT,Act.put]
     refine tK (i:=8) (v:=?vb8) rfl (fun _ _ _ h=>h) ⟨by rfl,?hyb8⟩ (by assumption) ?_
     case hyb8=>(intro W hSw;obtain⟨⟨u1,u2⟩,⟨u3,u4⟩,⟨u5,u6⟩,⟨u7,u8,u9,u10⟩⟩:=hcl4 W hSw;obtain⟨u11,u12,u13⟩:=hcl2 W hSw;go_simp;first|done|with_reducible rfl)
     try simp only[pT,Act.put]
     refine wpAnyH_take (i:=9) (v:=undef) rfl (by kernel_rfl) (by kernel_rfl) (by kernel_rfl) (fun _ _ _ h=>h) (Or.inr ⟨by rfl,rfl⟩) (by assumption) ?_
     try simp only[pT,Act.put]
     refine wpAnyH_take (i:=10) (v:=undef) rfl (by kernel_rfl) (by kernel_rfl) (by kernel_rfl) (fun _ _ _ h=>h) (Or.inr ⟨by rfl,rfl⟩) (by assumption) ?_
     try simp only[pT,Act.put]
     refine wpAnyH_take (i:=11) (v:=undef) rfl (by kernel_rfl) (by kernel_rfl) (by kernel_rfl) (fun _ _ _ h=>h) (Or.inr ⟨by rfl,rfl⟩) (by assumption) ?_
     try simp only[pT,Act.put]
     refine wpAnyH_take (i:=12) (v:=undef) rfl (by kernel_rfl) (by kernel_rfl) (by kernel_rfl) (fun _ _ _ h=>h) (Or.inr ⟨by rfl,rfl⟩) (by assumption) ?_
     try simp only[pT,Act.put]
     refine wpAnyH_take (i:=13) (v:=undef) rfl (by kernel_rfl) (by kernel_rfl) (by kernel_rfl) (fun _ _ _ h=>h) (Or.inr ⟨by rfl,rfl⟩) (by assumption) ?_
     try simp only[pT,Act.put]
     refine tK (i:=14) (v:=?vb9) rfl (fun _ _ _ h=>h) ⟨by rfl,?hyb9⟩ (by assumption) ?_
     case hyb9=>(intro W hSw;obtain⟨⟨u1,u2⟩,⟨u3,u4⟩,⟨u5,u6⟩,⟨u7,u8,u9,u10⟩⟩:=hcl4 W hSw;obtain⟨u11,u12,u13⟩:=hcl2 W hSw;go_simp;first|done|with_reducible rfl)
     try simp only[pT,Act.put]
     refine tK (i:=15) (v:=?vb10) rfl (fun _ _ _ h=>h) ⟨by rfl,?hyb10⟩ (by assumption) ?_
     case hyb10=>(intro W hSw;obtain⟨⟨u1,u2⟩,⟨u3,u4⟩,⟨u5,u6⟩,⟨u7,u8,u9,u10⟩⟩:=hcl4 W hSw;obtain⟨u11,u12,u13⟩:=hcl2 W hSw;go_simp;first|done|with_reducible rfl)
     try simp only[pT,Act.put]
     refine tK (i:=16) (v:=?vb11) rfl (fun _ _ _ h=>h) ⟨by rfl,?hyb11⟩ (by assumption) ?_
     case hyb11=>(intro W hSw;obtain⟨⟨u1,u2⟩,⟨u3,u4⟩,⟨u5,u6⟩,⟨u7,u8,u9,u10⟩⟩:=hcl4 W hSw;obtain⟨u11,u12,u13⟩:=hcl2 W hSw;go_simp;first|done|with_reducible rfl)
     try simp only[pT,Act.put]
     refine tK (i:=17) (v:=?vb12) rfl (fun _ _ _ h=>h) ⟨by rfl,?hyb12⟩ (by assumption) ?_
     case hyb12=>(intro W hSw;obtain⟨⟨u1,u2⟩,⟨u3,u4⟩,⟨u5,u6⟩,⟨u7,u8,u9,u10⟩⟩:=hcl4 W hSw;obtain⟨u11,u12,u13⟩:=hcl2 W hSw;go_simp;first|done|with_reducible rfl)
     try simp only[pT,Act.put]
     refine tK (i:=18) (v:=?vb13) rfl (fun _ _ _ h=>h) ⟨by rfl,?hyb13⟩ (by assumption) ?_
     case hyb13=>(intro W hSw;obtain⟨⟨u1,u2⟩,⟨u3,u4⟩,⟨u5,u6⟩,⟨u7,u8,u9,u10⟩⟩:=hcl4 W hSw;obtain⟨u11,u12,u13⟩:=hcl2 W hSw;go_simp;first|done|with_reducible rfl)
     try simp only[pT,Act.put]
     refine tK (i:=19) (v:=?vb14) rfl (fun _ _ _ h=>h) ⟨by rfl,?hyb14⟩ (by assumption) ?_
     case hyb14=>(intro W hSw;obtain⟨⟨u1,u2⟩,⟨u3,u4⟩,⟨u5,u6⟩,⟨u7,u8,u9,u10⟩⟩:=hcl4 W hSw;obtain⟨u11,u12,u13⟩:=hcl2 W hSw;go_simp;first|done|with_reducible rfl)
     try simp only[pT,Act.put]
     refine tK (i:=21) (v:=?vb15) rfl (fun _ _ _ h=>h) ⟨by rfl,?hyb15⟩ (by assumption) ?_
     case hyb15=>(intro W hSw;obtain⟨⟨u1,u2⟩,⟨u3,u4⟩,⟨u5,u6⟩,⟨u7,u8,u9,u10⟩⟩:=hcl4 W hSw;obtain⟨u11,u12,u13⟩:=hcl2 W hSw;go_simp;first|done|with_reducible rfl)
     try simp only[pT,Act.put]
     refine tK (i:=22) (v:=?vb16) rfl (fun _ _ _ h=>h) ⟨by rfl,?hyb16⟩ (by assumption) ?_
     case hyb16=>(intro W hSw;obtain⟨⟨u1,u2⟩,⟨u3,u4⟩,⟨u5,u6⟩,⟨u7,u8,u9,u10⟩⟩:=hcl4 W hSw;obtain⟨u11,u12,u13⟩:=hcl2 W hSw;go_simp;first|done|with_reducible rfl)
     try simp only[pT,Act.put]
     refine tK (i:=23) (v:=?vb17) rfl (fun _ _ _ h=>h) ⟨by rfl,?hyb17⟩ (by assumption) ?_
     case hyb17=>(intro W hSw;obtain⟨⟨u1,u2⟩,⟨u3,u4⟩,⟨u5,u6⟩,⟨u7,u8,u9,u10⟩⟩:=hcl4 W hSw;obtain⟨u11,u12,u13⟩:=hcl2 W hSw;go_simp;first|done|with_reducible rfl)
     try simp only[pT,Act.put]
     refine wpAnyH_ready (rs:=[20]) (by kernel_rfl) (by simp) ?_
     refine AllReadyH.cons rfl (fun K hK=>?_) AllReadyH.nil
     go_simp
     refine(hset _ hQ1).mono ?_
     rintro r w15 ⟨i0,j0,k0,i1,j1,k1,rfl,HS1,hb15⟩
     have hQ3:=BTr hQ1 hb15
     refine hK.out _ _ ?_ (fun hHeld=>?_)
     ·(try dsimp only);with_reducible first|exact hE12|exact hQ1|exact hQ2|exact hQ3|exact hQ4|exact hQ5
     clear hK K
     try simp only[pT,Act.put]
     refine wpAnyH_ready (rs:=[24]) (by kernel_rfl) (by simp) ?_
     refine AllReadyH.cons rfl (fun K hK=>?_) AllReadyH.nil
     go_simp
     refine(hrs _ hQ3).mono ?_
     rintro r w16 ⟨i2,j2,k2,i3,j3,k3,rfl,HS2,hb16⟩
     have hQ4:=BTr hQ3 hb16
     have hsm:=hsame _ _ _ _ _ _ (HS1.out.below hb16) HS2.out
     refine hK.out _ _ ?_ (fun hHeld=>?_)
     ·(try dsimp only);with_reducible first|exact hE12|exact hQ1|exact hQ2|exact hQ3|exact hQ4|exact hQ5
     clear hK K
     try simp only[pT,Act.put]
     refine wpAnyH_ready (rs:=[25]) (by kernel_rfl) (by simp) ?_
     refine AllReadyH.cons rfl (fun K hK=>?_) AllReadyH.nil
     go_simp
     refine hsm.mono ?_
     rintro r w17 ⟨rfl,hb17⟩
     have hQ5:=BTr hQ4 hb17
     refine hK.out _ _ ?_ (fun hHeld=>?_)
     ·(try dsimp only);with_reducible first|exact hE12|exact hQ1|exact hQ2|exact hQ3|exact hQ4|exact hQ5
     clear hK K
     try simp only[pT,Act.put]
     refine tK (i:=26) (v:=?vb18) rfl (fun _ _ _ h=>h) ⟨by rfl,?hyb18⟩ (by assumption) ?_
     case hyb18=>(intro W hSw;obtain⟨⟨u1,u2⟩,⟨u3,u4⟩,⟨u5,u6⟩,⟨u7,u8,u9,u10⟩⟩:=hcl4 W hSw;obtain⟨u11,u12,u13⟩:=hcl2 W hSw;go_simp;first|done|with_reducible rfl)
     try simp only[pT,Act.put]
     refine tK (i:=27) (v:=?vb19) rfl (fun _ _ _ h=>h) ⟨by rfl,?hyb19⟩ (by assumption) ?_
     case hyb19=>(intro W hSw;obtain⟨⟨u1,u2⟩,⟨u3,u4⟩,⟨u5,u6⟩,⟨u7,u8,u9,u10⟩⟩:=hcl4 W hSw;obtain⟨u11,u12,u13⟩:=hcl2 W hSw;go_simp;first|done|with_reducible rfl)
     try simp only[pT,Act.put]
     refine wpAnyH_done (by kernel_rfl) ?_ _
     go_wp2_with fail
     go_ret
     exact⟨rfl,BTr hb1 (BTr hBW2 hQ5)⟩
    ·have ez0:(Z != 0)=true:=by simpa using hz0
     by_cases hz2:Z=2
     ·have ez2:(Z != 2)=false:=by simp[hz2]
      have hrs:=hrset (.inr hz2)
      clear hz0 hz2 hrset
      refine wp_region_held_drew (S:=fun V=>Below W2.heap.size W2 V) (by kernel_rfl) hE12 (fun hHeld=>?_)
      refine tK (i:=0) (v:=?vc1) rfl (fun _ _ _ h=>h) ⟨by rfl,?hyc1⟩ (by assumption) ?_
      case hyc1=>(intro W hSw;obtain⟨⟨u1,u2⟩,⟨u3,u4⟩,⟨u5,u6⟩,⟨u7,u8,u9,u10⟩⟩:=hcl4 W hSw;obtain⟨u11,u12,u13⟩:=hcl2 W hSw;go_simp;first|done|with_reducible rfl)
      try simp only[pT,Act.put]
      refine tK (i:=1) (v:=?vc2) rfl (fun _ _ _ h=>h) ⟨by rfl,?hyc2⟩ (by assumption) ?_
      case hyc2=>(intro W hSw;obtain⟨⟨u1,u2⟩,⟨u3,u4⟩,⟨u5,u6⟩,⟨u7,u8,u9,u10⟩⟩:=hcl4 W hSw;obtain⟨u11,u12,u13⟩:=hcl2 W hSw;go_simp;first|done|with_reducible rfl)
      try simp only[pT,Act.put]
      refine tK (i:=2) (v:=?vc3) rfl (fun _ _ _ h=>h) ⟨by rfl,?hyc3⟩ (by assumption) ?_
      case hyc3=>(intro W hSw;obtain⟨⟨u1,u2⟩,⟨u3,u4⟩,⟨u5,u6⟩,⟨u7,u8,u9,u10⟩⟩:=hcl4 W hSw;obtain⟨u11,u12,u13⟩:=hcl2 W hSw;go_simp;first|done|with_reducible rfl)
      try simp only[pT,Act.put]
      refine tK (i:=3) (v:=?vc4) rfl (fun _ _ _ h=>h) ⟨by rfl,?hyc4⟩ (by assumption) ?_
      case hyc4=>(intro W hSw;obtain⟨⟨u1,u2⟩,⟨u3,u4⟩,⟨u5,u6⟩,⟨u7,u8,u9,u10⟩⟩:=hcl4 W hSw;obtain⟨u11,u12,u13⟩:=hcl2 W hSw;go_simp;first|done|with_reducible rfl)
      try simp only[pT,Act.put]
      refine tK (i:=4) (v:=?vc5) rfl (fun _ _ _ h=>h) ⟨by rfl,?hyc5⟩ (by assumption) ?_
      case hyc5=>(intro W hSw;obtain⟨⟨u1,u2⟩,⟨u3,u4⟩,⟨u5,u6⟩,⟨u7,u8,u9,u10⟩⟩:=hcl4 W hSw;obtain⟨u11,u12,u13⟩:=hcl2 W hSw;go_simp;first|done|with_reducible rfl)
      try simp only[pT,Act.put]
      refine tK (i:=5) (v:=?vc6) rfl (fun _ _ _ h=>h) ⟨by rfl,?hyc6⟩ (by assumption) ?_
      case hyc6=>(intro W hSw;obtain⟨⟨u1,u2⟩,⟨u3,u4⟩,⟨u5,u6⟩,⟨u7,u8,u9,u10⟩⟩:=hcl4 W hSw;obtain⟨u11,u12,u13⟩:=hcl2 W hSw;go_simp;first|done|with_reducible rfl)
      try simp only[pT,Act.put]
      refine wpAnyH_ready (rs:=[6]) (by kernel_rfl) (by simp) ?_
      refine AllReadyH.cons rfl (fun K hK=>?_) AllReadyH.nil
      go_simp
      refine hwv1.mono ?_
      rintro r w13 ⟨rfl,hb13⟩
      have hQ1:=BTr hE12 hb13
      refine hK.out _ _ ?_ (fun hHeld=>?_)
      ·(try dsimp only);with_reducible first|exact hE12|exact hQ1|exact hQ2|exact hQ3|exact hQ4|exact hQ5
      clear hK K
      try simp only[pT,Act.put]
      refine tK (i:=7) (v:=?vc7) rfl (fun _ _ _ h=>h) ⟨by rfl,?hyc7⟩ (by assumption) ?_
      case hyc7=>(intro W hSw;obtain⟨⟨u1,u2⟩,⟨u3,u4⟩,⟨u5,u6⟩,⟨u7,u8,u9,u10⟩⟩:=hcl4 W hSw;obtain⟨u11,u12,u13⟩:=hcl2 W hSw;go_simp;first|done|with_reducible rfl)
      try simp only[pT,Act.put]
      refine tK (i:=8) (v:=?vc8) rfl (fun _ _ _ h=>h) ⟨by rfl,?hyc8⟩ (by assumption) ?_
      case hyc8=>(intro W hSw;obtain⟨⟨u1,u2⟩,⟨u3,u4⟩,⟨u5,u6⟩,⟨u7,u8,u9,u10⟩⟩:=hcl4 W hSw;obtain⟨u11,u12,u13⟩:=hcl2 W hSw;go_simp;first|done|with_reducible rfl)
      try simp only[pT,Act.put]
      refine tK (i:=9) (v:=?vc9) rfl (fun _ _ _ h=>h) ⟨by rfl,?hyc9⟩ (by assumption) ?_
      case hyc9=>(intro W hSw;obtain⟨⟨u1,u2⟩,⟨u3,u4⟩,⟨u5,u6⟩,⟨u7,u8,u9,u10⟩⟩:=hcl4 W hSw;obtain⟨u11,u12,u13⟩:=hcl2 W hSw;go_simp;first|done|with_reducible rfl)
      try simp only[pT,Act.put]
      refine tK (i:=10) (v:=?vc10) rfl (fun _ _ _ h=>h) ⟨by rfl,?hyc10⟩ (by assumption) ?_
      case hyc10=>(intro W hSw;obtain⟨⟨u1,u2⟩,⟨u3,u4⟩,⟨u5,u6⟩,⟨u7,u8,u9,u10⟩⟩:=hcl4 W hSw;obtain⟨u11,u12,u13⟩:=hcl2 W hSw;go_simp;first|done|with_reducible rfl)
      try simp only[pT,Act.put]
      refine tK (i:=11) (v:=?vc11) rfl (fun _ _ _ h=>h) ⟨by rfl,?hyc11⟩ (by assumption) ?_
      case hyc11=>(intro W hSw;obtain⟨⟨u1,u2⟩,⟨u3,u4⟩,⟨u5,u6⟩,⟨u7,u8,u9,u10⟩⟩:=hcl4 W hSw;obtain⟨u11,u12,u13⟩:=hcl2 W hSw;go_simp;first|done|with_reducible rfl)
      try simp only[pT,Act.put]
      refine wpAnyH_ready (rs:=[12]) (by kernel_rfl) (by simp) ?_
      refine AllReadyH.cons rfl (fun K hK=>?_) AllReadyH.nil
      go_simp
      refine(hwv _ hQ1).mono ?_
      rintro r w14 ⟨rfl,hb14⟩
      have hQ2:=BTr hQ1 hb14
      refine hK.out _ _ ?_ (fun hHeld=>?_)
      ·(try dsimp only);with_reducible first|exact hE12|exact hQ1|exact hQ2|exact hQ3|exact hQ4|exact hQ5
      clear hK K
      try simp only[pT,Act.put]
      refine tK (i:=13) (v:=?vc12) rfl (fun _ _ _ h=>h) ⟨by rfl,?hyc12⟩ (by assumption) ?_
      case hyc12=>(intro W hSw;obtain⟨⟨u1,u2⟩,⟨u3,u4⟩,⟨u5,u6⟩,⟨u7,u8,u9,u10⟩⟩:=hcl4 W hSw;obtain⟨u11,u12,u13⟩:=hcl2 W hSw;go_simp;first|done|with_reducible rfl)
      try simp only[pT,Act.put]
      refine tK (i:=14) (v:=?vc13) rfl (fun _ _ _ h=>h) ⟨by rfl,?hyc13⟩ (by assumption) ?_
      case hyc13=>(intro W hSw;obtain⟨⟨u1,u2⟩,⟨u3,u4⟩,⟨u5,u6⟩,⟨u7,u8,u9,u10⟩⟩:=hcl4 W hSw;obtain⟨u11,u12,u13⟩:=hcl2 W hSw;go_simp;first|done|with_reducible rfl)
      try simp only[pT,Act.put]
      refine tK (i:=15) (v:=?vc14) rfl (fun _ _ _ h=>h) ⟨by rfl,?hyc14⟩ (by assumption) ?_
      case hyc14=>(intro W hSw;obtain⟨⟨u1,u2⟩,⟨u3,u4⟩,⟨u5,u6⟩,⟨u7,u8,u9,u10⟩⟩:=hcl4 W hSw;obtain⟨u11,u12,u13⟩:=hcl2 W hSw;go_simp;first|done|with_reducible rfl)
      try simp only[pT,Act.put]
      refine tK (i:=16) (v:=?vc15) rfl (fun _ _ _ h=>h) ⟨by rfl,?hyc15⟩ (by assumption) ?_
      case hyc15=>(intro W hSw;obtain⟨⟨u1,u2⟩,⟨u3,u4⟩,⟨u5,u6⟩,⟨u7,u8,u9,u10⟩⟩:=hcl4 W hSw;obtain⟨u11,u12,u13⟩:=hcl2 W hSw;go_simp;first|done|with_reducible rfl)
      try simp only[pT,Act.put]
      refine tK (i:=17) (v:=?vc16) rfl (fun _ _ _ h=>h) ⟨by rfl,?hyc16⟩ (by assumption) ?_
      case hyc16=>(intro W hSw;obtain⟨⟨u1,u2⟩,⟨u3,u4⟩,⟨u5,u6⟩,⟨u7,u8,u9,u10⟩⟩:=hcl4 W hSw;obtain⟨u11,u12,u13⟩:=hcl2 W hSw;go_simp;first|done|with_reducible rfl)
      try simp only[pT,Act.put]
      refine tK (i:=18) (v:=?vc17) rfl (fun _ _ _ h=>h) ⟨by rfl,?hyc17⟩ (by assumption) ?_
      case hyc17=>(intro W hSw;obtain⟨⟨u1,u2⟩,⟨u3,u4⟩,⟨u5,u6⟩,⟨u7,u8,u9,u10⟩⟩:=hcl4 W hSw;obtain⟨u11,u12,u13⟩:=hcl2 W hSw;go_simp;first|done|with_reducible rfl)
      try simp only[pT,Act.put]
      refine tK (i:=19) (v:=?vc18) rfl (fun _ _ _ h=>h) ⟨by rfl,?hyc18⟩ (by assumption) ?_
      case hyc18=>(intro W hSw;obtain⟨⟨u1,u2⟩,⟨u3,u4⟩,⟨u5,u6⟩,⟨u7,u8,u9,u10⟩⟩:=hcl4 W hSw;obtain⟨u11,u12,u13⟩:=hcl2 W hSw;go_simp;first|done|with_reducible rfl)
      try simp only[pT,Act.put]
      refine tK (i:=21) (v:=?vc19) rfl (fun _ _ _ h=>h) ⟨by rfl,?hyc19⟩ (by assumption) ?_
      case hyc19=>(intro W hSw;obtain⟨⟨u1,u2⟩,⟨u3,u4⟩,⟨u5,u6⟩,⟨u7,u8,u9,u10⟩⟩:=hcl4 W hSw;obtain⟨u11,u12,u13⟩:=hcl2 W hSw;go_simp;first|done|with_reducible rfl)
      try simp only[pT,Act.put]
      refine tK (i:=22) (v:=?vc20) rfl (fun _ _ _ h=>h) ⟨by rfl,?hyc20⟩ (by assumption) ?_
      case hyc20=>(intro W hSw;obtain⟨⟨u1,u2⟩,⟨u3,u4⟩,⟨u5,u6⟩,⟨u7,u8,u9,u10⟩⟩:=hcl4 W hSw;obtain⟨u11,u12,u13⟩:=hcl2 W hSw;go_simp;first|done|with_reducible rfl)
      try simp only[pT,Act.put]
      refine tK (i:=23) (v:=?vc21) rfl (fun _ _ _ h=>h) ⟨by rfl,?hyc21⟩ (by assumption) ?_
      case hyc21=>(intro W hSw;obtain⟨⟨u1,u2⟩,⟨u3,u4⟩,⟨u5,u6⟩,⟨u7,u8,u9,u10⟩⟩:=hcl4 W hSw;obtain⟨u11,u12,u13⟩:=hcl2 W hSw;go_simp;first|done|with_reducible rfl)
      try simp only[pT,Act.put]
      refine wpAnyH_ready (rs:=[20]) (by kernel_rfl) (by simp) ?_
      refine AllReadyH.cons rfl (fun K hK=>?_) AllReadyH.nil
      go_simp
      refine(hset _ hQ2).mono ?_
      rintro r w15 ⟨i0,j0,k0,i1,j1,k1,rfl,HS1,hb15⟩
      have hQ3:=BTr hQ2 hb15
      refine hK.out _ _ ?_ (fun hHeld=>?_)
      ·(try dsimp only);with_reducible first|exact hE12|exact hQ1|exact hQ2|exact hQ3|exact hQ4|exact hQ5
      clear hK K
      try simp only[pT,Act.put]
      refine wpAnyH_ready (rs:=[24]) (by kernel_rfl) (by simp) ?_
      refine AllReadyH.cons rfl (fun K hK=>?_) AllReadyH.nil
      go_simp
      refine(hrs _ hQ3).mono ?_
      rintro r w16 ⟨i2,j2,k2,i3,j3,k3,rfl,HS2,hb16⟩
      have hQ4:=BTr hQ3 hb16
      have hsm:=hsame _ _ _ _ _ _ (HS1.out.below hb16) HS2.out
      refine hK.out _ _ ?_ (fun hHeld=>?_)
      ·(try dsimp only);with_reducible first|exact hE12|exact hQ1|exact hQ2|exact hQ3|exact hQ4|exact hQ5
      clear hK K
      try simp only[pT,Act.put]
      refine wpAnyH_ready (rs:=[25]) (by kernel_rfl) (by simp) ?_
      refine AllReadyH.cons rfl (fun K hK=>?_) AllReadyH.nil
      go_simp
      refine hsm.mono ?_
      rintro r w17 ⟨rfl,hb17⟩
      have hQ5:=BTr hQ4 hb17
      refine hK.out _ _ ?_ (fun hHeld=>?_)
      ·(try dsimp only);with_reducible first|exact hE12|exact hQ1|exact hQ2|exact hQ3|exact hQ4|exact hQ5
      clear hK K
      try simp only[pT,Act.put]
      refine tK (i:=26) (v:=?vc22) rfl (fun _ _ _ h=>h) ⟨by rfl,?hyc22⟩ (by assumption) ?_
      case hyc22=>(intro W hSw;obtain⟨⟨u1,u2⟩,⟨u3,u4⟩,⟨u5,u6⟩,⟨u7,u8,u9,u10⟩⟩:=hcl4 W hSw;obtain⟨u11,u12,u13⟩:=hcl2 W hSw;go_simp;first|done|with_reducible rfl)
      try simp only[pT,Act.put]
      refine tK (i:=27) (v:=?vc23) rfl (fun _ _ _ h=>h) ⟨by rfl,?hyc23⟩ (by assumption) ?_
      case hyc23=>(intro W hSw;obtain⟨⟨u1,u2⟩,⟨u3,u4⟩,⟨u5,u6⟩,⟨u7,u8,u9,u10⟩⟩:=hcl4 W hSw;obtain⟨u11,u12,u13⟩:=hcl2 W hSw;go_simp;first|done|with_reducible rfl)
      try simp only[pT,Act.put]
      refine wpAnyH_done (by kernel_rfl) ?_ _
      go_wp2_with fail
      go_ret
      exact⟨rfl,BTr hb1 (BTr hBW2 hQ5)⟩
     ·have ez2:(Z != 2)=true:=by simpa using hz2
      clear hz0 hz2 hrset
      refine wp_region_held_drew (S:=fun V=>Below W2.heap.size W2 V) (by kernel_rfl) hE12 (fun hHeld=>?_)
      refine tK (i:=0) (v:=?ve1) rfl (fun _ _ _ h=>h) ⟨by rfl,?hye1⟩ (by assumption) ?_
      case hye1=>(intro W hSw;obtain⟨⟨u1,u2⟩,⟨u3,u4⟩,⟨u5,u6⟩,⟨u7,u8,u9,u10⟩⟩:=hcl4 W hSw;obtain⟨u11,u12,u13⟩:=hcl2 W hSw;go_simp;first|done|with_reducible rfl)
      try simp only[pT,Act.put]
      refine tK (i:=1) (v:=?ve2) rfl (fun _ _ _ h=>h) ⟨by rfl,?hye2⟩ (by assumption) ?_
      case hye2=>(intro W hSw;obtain⟨⟨u1,u2⟩,⟨u3,u4⟩,⟨u5,u6⟩,⟨u7,u8,u9,u10⟩⟩:=hcl4 W hSw;obtain⟨u11,u12,u13⟩:=hcl2 W hSw;go_simp;first|done|with_reducible rfl)
      try simp only[pT,Act.put]
      refine tK (i:=2) (v:=?ve3) rfl (fun _ _ _ h=>h) ⟨by rfl,?hye3⟩ (by assumption) ?_
      case hye3=>(intro W hSw;obtain⟨⟨u1,u2⟩,⟨u3,u4⟩,⟨u5,u6⟩,⟨u7,u8,u9,u10⟩⟩:=hcl4 W hSw;obtain⟨u11,u12,u13⟩:=hcl2 W hSw;go_simp;first|done|with_reducible rfl)
      try simp only[pT,Act.put]
      refine tK (i:=3) (v:=?ve4) rfl (fun _ _ _ h=>h) ⟨by rfl,?hye4⟩ (by assumption) ?_
      case hye4=>(intro W hSw;obtain⟨⟨u1,u2⟩,⟨u3,u4⟩,⟨u5,u6⟩,⟨u7,u8,u9,u10⟩⟩:=hcl4 W hSw;obtain⟨u11,u12,u13⟩:=hcl2 W hSw;go_simp;first|done|with_reducible rfl)
      try simp only[pT,Act.put]
      refine tK (i:=4) (v:=?ve5) rfl (fun _ _ _ h=>h) ⟨by rfl,?hye5⟩ (by assumption) ?_
      case hye5=>(intro W hSw;obtain⟨⟨u1,u2⟩,⟨u3,u4⟩,⟨u5,u6⟩,⟨u7,u8,u9,u10⟩⟩:=hcl4 W hSw;obtain⟨u11,u12,u13⟩:=hcl2 W hSw;go_simp;first|done|with_reducible rfl)
      try simp only[pT,Act.put]
      refine tK (i:=5) (v:=?ve6) rfl (fun _ _ _ h=>h) ⟨by rfl,?hye6⟩ (by assumption) ?_
      case hye6=>(intro W hSw;obtain⟨⟨u1,u2⟩,⟨u3,u4⟩,⟨u5,u6⟩,⟨u7,u8,u9,u10⟩⟩:=hcl4 W hSw;obtain⟨u11,u12,u13⟩:=hcl2 W hSw;go_simp;first|done|with_reducible rfl)
      try simp only[pT,Act.put]
      refine wpAnyH_ready (rs:=[6]) (by kernel_rfl) (by simp) ?_
      refine AllReadyH.cons rfl (fun K hK=>?_) AllReadyH.nil
      go_simp
      refine hwv1.mono ?_
      rintro r w13 ⟨rfl,hb13⟩
      have hQ1:=BTr hE12 hb13
      refine hK.out _ _ ?_ (fun hHeld=>?_)
      ·(try dsimp only);with_reducible first|exact hE12|exact hQ1|exact hQ2|exact hQ3|exact hQ4|exact hQ5
      clear hK K
      try simp only[pT,Act.put]
      refine tK (i:=7) (v:=?ve7) rfl (fun _ _ _ h=>h) ⟨by rfl,?hye7⟩ (by assumption) ?_
      case hye7=>(intro W hSw;obtain⟨⟨u1,u2⟩,⟨u3,u4⟩,⟨u5,u6⟩,⟨u7,u8,u9,u10⟩⟩:=hcl4 W hSw;obtain⟨u11,u12,u13⟩:=hcl2 W hSw;go_simp;first|done|with_reducible rfl)
      try simp only[pT,Act.put]
      refine tK (i:=8) (v:=?ve8) rfl (fun _ _ _ h=>h) ⟨by rfl,?hye8⟩ (by assumption) ?_
      case hye8=>(intro W hSw;obtain⟨⟨u1,u2⟩,⟨u3,u4⟩,⟨u5,u6⟩,⟨u7,u8,u9,u10⟩⟩:=hcl4 W hSw;obtain⟨u11,u12,u13⟩:=hcl2 W hSw;go_simp;first|done|with_reducible rfl)
      try simp only[pT,Act.put]
      refine tK (i:=9) (v:=?ve9) rfl (fun _ _ _ h=>h) ⟨by rfl,?hye9⟩ (by assumption) ?_
      case hye9=>(intro W hSw;obtain⟨⟨u1,u2⟩,⟨u3,u4⟩,⟨u5,u6⟩,⟨u7,u8,u9,u10⟩⟩:=hcl4 W hSw;obtain⟨u11,u12,u13⟩:=hcl2 W hSw;go_simp;first|done|with_reducible rfl)
      try simp only[pT,Act.put]
      refine tK (i:=10) (v:=?ve10) rfl (fun _ _ _ h=>h) ⟨by rfl,?hye10⟩ (by assumption) ?_
      case hye10=>(intro W hSw;obtain⟨⟨u1,u2⟩,⟨u3,u4⟩,⟨u5,u6⟩,⟨u7,u8,u9,u10⟩⟩:=hcl4 W hSw;obtain⟨u11,u12,u13⟩:=hcl2 W hSw;go_simp;first|done|with_reducible rfl)
      try simp only[pT,Act.put]
      refine tK (i:=11) (v:=?ve11) rfl (fun _ _ _ h=>h) ⟨by rfl,?hye11⟩ (by assumption) ?_
      case hye11=>(intro W hSw;obtain⟨⟨u1,u2⟩,⟨u3,u4⟩,⟨u5,u6⟩,⟨u7,u8,u9,u10⟩⟩:=hcl4 W hSw;obtain⟨u11,u12,u13⟩:=hcl2 W hSw;go_simp;first|done|with_reducible rfl)
      try simp only[pT,Act.put]
      refine wpAnyH_ready (rs:=[12]) (by kernel_rfl) (by simp) ?_
      refine AllReadyH.cons rfl (fun K hK=>?_) AllReadyH.nil
      go_simp
      refine(hwv _ hQ1).mono ?_
      rintro r w14 ⟨rfl,hb14⟩
      have hQ2:=BTr hQ1 hb14
      refine hK.out _ _ ?_ (fun hHeld=>?_)
      ·(try dsimp only);with_reducible first|exact hE12|exact hQ1|exact hQ2|exact hQ3|exact hQ4|exact hQ5
      clear hK K
      try simp only[pT,Act.put]
      refine tK (i:=13) (v:=?ve12) rfl (fun _ _ _ h=>h) ⟨by rfl,?hye12⟩ (by assumption) ?_
      case hye12=>(intro W hSw;obtain⟨⟨u1,u2⟩,⟨u3,u4⟩,⟨u5,u6⟩,⟨u7,u8,u9,u10⟩⟩:=hcl4 W hSw;obtain⟨u11,u12,u13⟩:=hcl2 W hSw;go_simp;first|done|with_reducible rfl)
      try simp only[pT,Act.put]
      refine tK (i:=14) (v:=?ve13) rfl (fun _ _ _ h=>h) ⟨by rfl,?hye13⟩ (by assumption) ?_
      case hye13=>(intro W hSw;obtain⟨⟨u1,u2⟩,⟨u3,u4⟩,⟨u5,u6⟩,⟨u7,u8,u9,u10⟩⟩:=hcl4 W hSw;obtain⟨u11,u12,u13⟩:=hcl2 W hSw;go_simp;first|done|with_reducible rfl)
      try simp only[pT,Act.put]
      refine tK (i:=15) (v:=?ve14) rfl (fun _ _ _ h=>h) ⟨by rfl,?hye14⟩ (by assumption) ?_
      case hye14=>(intro W hSw;obtain⟨⟨u1,u2⟩,⟨u3,u4⟩,⟨u5,u6⟩,⟨u7,u8,u9,u10⟩⟩:=hcl4 W hSw;obtain⟨u11,u12,u13⟩:=hcl2 W hSw;go_simp;first|done|with_reducible rfl)
      try simp only[pT,Act.put]
      refine tK (i:=16) (v:=?ve15) rfl (fun _ _ _ h=>h) ⟨by rfl,?hye15⟩ (by assumption) ?_
      case hye15=>(intro W hSw;obtain⟨⟨u1,u2⟩,⟨u3,u4⟩,⟨u5,u6⟩,⟨u7,u8,u9,u10⟩⟩:=hcl4 W hSw;obtain⟨u11,u12,u13⟩:=hcl2 W hSw;go_simp;first|done|with_reducible rfl)
      try simp only[pT,Act.put]
      refine wpAnyH_take (i:=17) (v:=undef) rfl (by kernel_rfl) (by kernel_rfl) (by kernel_rfl) (fun _ _ _ h=>h) (Or.inr ⟨by rfl,rfl⟩) (by assumption) ?_
      try simp only[pT,Act.put]
      refine wpAnyH_take (i:=18) (v:=undef) rfl (by kernel_rfl) (by kernel_rfl) (by kernel_rfl) (fun _ _ _ h=>h) (Or.inr ⟨by rfl,rfl⟩) (by assumption) ?_
      try simp only[pT,Act.put]
      refine wpAnyH_take (i:=19) (v:=undef) rfl (by kernel_rfl) (by kernel_rfl) (by kernel_rfl) (fun _ _ _ h=>h) (Or.inr ⟨by rfl,rfl⟩) (by assumption) ?_
      try simp only[pT,Act.put]
      refine wpAnyH_take (i:=20) (v:=undef) rfl (by kernel_rfl) (by kernel_rfl) (by kernel_rfl) (fun _ _ _ h=>h) (Or.inr ⟨by rfl,rfl⟩) (by assumption) ?_
      try simp only[pT,Act.put]
      refine wpAnyH_take (i:=21) (v:=undef) rfl (by kernel_rfl) (by kernel_rfl) (by kernel_rfl) (fun _ _ _ h=>h) (Or.inr ⟨by rfl,rfl⟩) (by assumption) ?_
      try simp only[pT,Act.put]
      refine wpAnyH_take (i:=22) (v:=undef) rfl (by kernel_rfl) (by kernel_rfl) (by kernel_rfl) (fun _ _ _ h=>h) (Or.inr ⟨by rfl,rfl⟩) (by assumption) ?_
      try simp only[pT,Act.put]
      refine wpAnyH_take (i:=23) (v:=undef) rfl (by kernel_rfl) (by kernel_rfl) (by kernel_rfl) (fun _ _ _ h=>h) (Or.inr ⟨by rfl,rfl⟩) (by assumption) ?_
      try simp only[pT,Act.put]
      refine wpAnyH_take (i:=24) (v:=undef) rfl (by kernel_rfl) (by kernel_rfl) (by kernel_rfl) (fun _ _ _ h=>h) (Or.inr ⟨by rfl,rfl⟩) (by assumption) ?_
      try simp only[pT,Act.put]
      refine wpAnyH_take (i:=25) (v:=undef) rfl (by kernel_rfl) (by kernel_rfl) (by kernel_rfl) (fun _ _ _ h=>h) (Or.inr ⟨by rfl,rfl⟩) (by assumption) ?_
      try simp only[pT,Act.put]
      refine tK (i:=26) (v:=?ve16) rfl (fun _ _ _ h=>h) ⟨by rfl,?hye16⟩ (by assumption) ?_
      case hye16=>(intro W hSw;obtain⟨⟨u1,u2⟩,⟨u3,u4⟩,⟨u5,u6⟩,⟨u7,u8,u9,u10⟩⟩:=hcl4 W hSw;obtain⟨u11,u12,u13⟩:=hcl2 W hSw;go_simp;first|done|with_reducible rfl)
      try simp only[pT,Act.put]
      refine tK (i:=27) (v:=?ve17) rfl (fun _ _ _ h=>h) ⟨by rfl,?hye17⟩ (by assumption) ?_
      case hye17=>(intro W hSw;obtain⟨⟨u1,u2⟩,⟨u3,u4⟩,⟨u5,u6⟩,⟨u7,u8,u9,u10⟩⟩:=hcl4 W hSw;obtain⟨u11,u12,u13⟩:=hcl2 W hSw;go_simp;first|done|with_reducible rfl)
      try simp only[pT,Act.put]
      refine wpAnyH_done (by kernel_rfl) ?_ _
      go_wp2_with fail
      go_ret
      exact⟨rfl,BTr hb1 (BTr hBW2 hQ2)⟩
 ·have ez:(EA != 0)=true:=by simpa using hE0
  clear hE0
  go_wp2
  go_ret
  exact⟨rfl,BTr hb1 hB9⟩
end L
end Go.Proofs.YtelmjekjohbmjaaGreatDoor
