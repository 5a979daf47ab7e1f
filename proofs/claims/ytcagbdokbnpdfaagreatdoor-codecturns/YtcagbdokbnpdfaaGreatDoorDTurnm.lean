import Derived.Test.YtcagbdokbnpdfaaGreatDoorDRightm
import Derived.Test.YtcagbdokbnpdfaaGreatDoorZ38
import Derived.Test.YtcagbdokbnpdfaaGreatDoorBSamem
namespace Go.Proofs.YtcagbdokbnpdfaaGreatDoor
namespace L
open Go.RowKit
set_option linter.unusedVariables false
set_option maxHeartbeats 16000000 in
set_option maxRecDepth 100000 in
theorem turns_walk (hal:B9e){g:GI}{am:Option Addr}{nm cm:Nat}{ae:Option Addr}{ne ce:Nat}{msg:Int}{w:World}(hI:WIn g am nm cm ae ne ce msg w){kk:Nat}{a0 a1:Option Addr}{n0 c0 n1 c1:Nat}{x:BI (kk+11+1)}(hq:BRd (kk+11) w (.slice a0 n0 c0) (.slice a1 n1 c1) x) (hok:BOk (kk+11+1) x){ao:Option Addr}{k c:Nat}{l:List UInt8}(hl:RdL 1 YAt w (.slice ao k c) l) :
  Calls Tryz.prog 4 #[.agg #[.slice am nm cm,.slice ae ne ce],.int .i64 msg,.agg #[.slice a0 n0 c0,.slice a1 n1 c1],.slice ao k c] w fun e w'=>e = .returned (.bool true)∧Below w.heap.size w w':=by
 obtain⟨W1,HW1⟩:∃ W1,Hid (W1=(w.alloc (.cells #[.slice am nm cm,.slice ae ne ce] 25)).alloc (.cells #[.slice a0 n0 c0,.slice a1 n1 c1] 29)):=⟨_,rfl⟩
 have hb1:Below w.heap.size w W1:=by rw[HW1.out];exact((Below.refl _ _).alloc (Nat.le_refl _) _).alloc (by simp) _
 have z1:w.heap.size+2≤W1.heap.size:=by rw[HW1.out];simp
 have x1:W1.heap[w.heap.size]?=some (.cells #[.slice am nm cm,.slice ae ne ce] 25 (0,0)):=by rw[HW1.out];exact A0u _ _ _
 have x2:W1.heap[w.heap.size+1]?=some (.cells #[.slice a0 n0 c0,.slice a1 n1 c1] 29 (0,0)):=by rw[HW1.out];exact A0r _ _ _
 have ha:=hal W1 (hI.tabs.below hb1)
 have HI:Hid (WIn g am nm cm ae ne ce msg w):=hI
 have HL:Hid (RdL 1 YAt w (.slice ao k c) l):=hl
 have HQ:Hid (BRd (kk+11) w (.slice a0 n0 c0) (.slice a1 n1 c1) x):=hq
 have HOK:Hid (BOk (kk+11+1) x):=hok
 clear hI hl hal hq hok
 go_enter Tryz.func4,Tryz.ntmps4
 go_upto_region 1 with fail
 rw[←HW1.out]
 go_wp2_with fail
 refine ha.mono ?_
 rintro e w2 ⟨rfl,hb2⟩
 have hbw2:Below w.heap.size w w2:=BTr hb1 hb2
 obtain⟨y0,y1⟩:=A0v ((hb2.block _ (by omega)).trans x1)
 obtain⟨y2,y3⟩:=A0v ((hb2.block _ (by omega)).trans x2)
 obtain⟨Bx,Ex,HX⟩:∃ Bx Ex,Hid (A7k g (kk+11) msg x=(Bx,Ex)):=⟨_,_,rfl⟩
 have hbt:=A3z (HI.out.below hbw2) (HQ.out.below hbw2) HOK.out
 rw[HX.out] at hbt
 clear ha
 go_wp2_with fail
 refine hbt.mono ?_
 rintro e w3 ⟨pa,pn,pc,rfl,hrp,hb3⟩
 have hb13:Below W1.heap.size W1 w3:=BTr hb2 hb3
 have hbw3:Below w.heap.size w w3:=BTr hb1 hb13
 clear y0 y1 y2 y3 hbt
 by_cases hEx:Ex=0
 ·subst hEx
  obtain⟨x',hx1,hx2⟩:=D3x HOK.out (show(A7k g (kk+11) msg x).2=0 by rw[HX.out])
  rw[HX.out] at hx1
  have hx1:A2d g msg Bx = .ok x':=hx1
  have HX':Hid (BRd 11 w (.slice a0 n0 c0) (.slice a1 n1 c1) x'):=by
   have h:=HQ.out
   rw[←hx2] at h
   exact D4w (k:=kk) (n:=11) h
  clear hx2
  obtain⟨y0,y1⟩:=A0v ((hb13.block _ (by omega)).trans x1)
  have hpa1:Calls Tryz.prog 14 #[.agg #[.slice am nm cm,.slice ae ne ce],.int .i64 msg,.slice pa pn pc] w3 fun e w'=>∃ (i0:Option Addr) (j0 l0:Nat) (i1:Option Addr) (j1 l1:Nat) (E:Int),e = .returned (.tuple #[.agg #[.slice i0 j0 l0,.slice i1 j1 l1],.int .i64 E])∧Hid (DRes 12 w3.heap.size (.ok x') i0 j0 l0 i1 j1 l1 E w')∧Below w3.heap.size w3 w':=by
   refine(A3a (HI.out.below hbw3) (hrp.rdY)).mono ?_
   intro e w' ho
   rw[hx1] at ho
   obtain⟨i0,j0,l0,i1,j1,l1,E,h1,h2,h3⟩:=ho.open
   exact⟨i0,j0,l0,i1,j1,l1,E,h1,h2,h3⟩
  have e0:((0:Int) == 0)=true:=rfl
  go_wp2_with fail
  refine hpa1.mono ?_
  rintro e w4 ⟨i0,j0,l0,i1,j1,l1,E,rfl,HRes,hb4⟩
  obtain⟨hE0,cc,hc1,hc2,hc3,hc4⟩:=HRes.out
  subst hE0
  have HSR:Hid (BRd 11 w4 (.slice i0 j0 l0) (.slice i1 j1 l1) x'):=by
   have h1:=OwnB.rd (show OwnB w3.heap.size (11+1) w4 cc from hc3)
   have h2 : [PV.v (BL.q0 cc),PV.v (BL.q1 cc)] = [.slice i0 j0 l0,.slice i1 j1 l1]:=hc1
   simp only[List.cons.injEq,and_true] at h2
   rw[h2.1,h2.2,show LB.pl (11+1) cc=x' from hc2] at h1
   exact h1
  obtain⟨W5,HW5⟩:∃ W5,Hid (W5=w4.alloc (.cells #[.slice i0 j0 l0,.slice i1 j1 l1] 29)):=⟨_,rfl⟩
  have hb5:Below w4.heap.size w4 W5:=by rw[HW5.out];exact(Below.refl _ _).alloc (Nat.le_refl _) _
  have x5:W5.heap[w4.heap.size]?=some (.cells #[.slice i0 j0 l0,.slice i1 j1 l1] 29 (0,0)):=by rw[HW5.out];exact heap_alloc_new _ _
  have z5:w4.heap.size+1≤W5.heap.size:=by rw[HW5.out];simp
  have hb35:Below w3.heap.size w3 W5:=BTr hb4 hb5
  have hb15:Below W1.heap.size W1 W5:=BTr hb13 hb35
  have hsm:=A5g (HX'.out.below (BTr hb1 hb15)) (HSR.out.below hb5)
  clear y0 y1 hpa1 hc1 hc2 hc3 hc4
  obtain⟨y2,y3⟩:=A0v ((hb15.block _ (by omega)).trans x2)
  obtain⟨y4,y5⟩:=A0v x5
  rw[HW5.out] at y2 y3 y4 y5
  go_wp2_with fail
  rw[←HW5.out]
  refine hsm.mono ?_
  rintro e w6 ⟨rfl,hb6⟩
  have hb16:Below W1.heap.size W1 w6:=BTr hb15 hb6
  clear y2 y3 y4 y5 hsm HSR HRes HX' HW5 x5 z5 hb35 hb15 hb4 hb5 hb6 hx1
  clear HX hrp
  have hbwV:Below w.heap.size w w6:=BTr hb1 hb16
  obtain⟨y0,y1⟩:=A0v ((hb16.block _ (by omega)).trans x1)
  have hzV:=hb16.size
  obtain⟨R,HR⟩:∃ R,Hid (A2d g msg l=R):=⟨_,rfl⟩
  have hpa2:Calls Tryz.prog 14 #[.agg #[.slice am nm cm,.slice ae ne ce],.int .i64 msg,.slice ao k c] w6 fun e w'=>∃ (i0:Option Addr) (j0 l0:Nat) (i1:Option Addr) (j1 l1:Nat) (E:Int),e = .returned (.tuple #[.agg #[.slice i0 j0 l0,.slice i1 j1 l1],.int .i64 E])∧Hid (DRes 12 w6.heap.size (R) i0 j0 l0 i1 j1 l1 E w')∧Below w6.heap.size w6 w':=by
   refine(A3a (HI.out.below hbwV) (HL.out.below YAt.stays hbwV)).mono ?_
   intro e w' ho
   rw[HR.out] at ho
   obtain⟨i0,j0,l0,i1,j1,l1,E,h1,h2,h3⟩:=ho.open
   exact⟨i0,j0,l0,i1,j1,l1,E,h1,h2,h3⟩
  go_wp2_with fail
  refine hpa2.mono ?_
  rintro e v1 ⟨i0,j0,l0,i1,j1,l1,E,rfl,HRes,hv1⟩
  obtain⟨X2,HX2⟩:∃ X2,Hid (X2=v1.alloc (.cells #[.slice i0 j0 l0,.slice i1 j1 l1] 29)):=⟨_,rfl⟩
  have hx2:Below v1.heap.size v1 X2:=by rw[HX2.out];exact(Below.refl _ _).alloc (Nat.le_refl _) _
  have c2:X2.heap[v1.heap.size]?=some (.cells #[.slice i0 j0 l0,.slice i1 j1 l1] 29 (0,0)):=by rw[HX2.out];exact heap_alloc_new _ _
  have z2:v1.heap.size+1≤X2.heap.size:=by rw[HX2.out];simp
  have hbX2:Below W1.heap.size W1 X2:=BTr hb16 (BTr hv1 hx2)
  have hbwX2:Below w.heap.size w X2:=BTr hb1 hbX2
  have hzv1:=hv1.size
  clear y0 y1 hpa2
  obtain⟨y0,y1⟩:=A0v ((hbX2.block _ (by omega)).trans x1)
  obtain⟨y2,y3⟩:=A0v c2
  cases R with
  | error E'=>
   obtain⟨hE1,hE2,hE3⟩:=HRes.out
   subst hE2
   obtain⟨rfl,rfl,rfl,rfl,rfl,rfl⟩:=hE3
   have eE:(E != 0)=true:=by simpa using hE1
   clear hE1
   have hsm:=A5g (d:=0) (w:=X2) A7e A7e
   rw[HX2.out] at y0 y1 y2 y3
   go_wp2_with fail
   rw[←HX2.out]
   refine hsm.mono ?_
   rintro e v3 ⟨rfl,hv3⟩
   go_wp2
   go_ret
   exact⟨rfl,BTr hbwX2 hv3⟩
  | ok y=>
   obtain⟨hE0,cc,hc1,hc2,hc3,hc4⟩:=HRes.out
   subst hE0
   have HSR:Hid (BRd 11 v1 (.slice i0 j0 l0) (.slice i1 j1 l1) y):=by
    have h1:=OwnB.rd (show OwnB w6.heap.size (11+1) v1 cc from hc3)
    have h2 : [PV.v (BL.q0 cc),PV.v (BL.q1 cc)] = [.slice i0 j0 l0,.slice i1 j1 l1]:=hc1
    simp only[List.cons.injEq,and_true] at h2
    rw[h2.1,h2.2,show LB.pl (11+1) cc=y from hc2] at h1
    exact h1
   obtain⟨hT1,hT2,hT3⟩:=D1g (HI.out.gd (A2a HR.out).1) HR.out
   obtain⟨jj,M,hM,hrd⟩:∃ (jj:Nat) (M:MI),g.msgs[jj]?=some M∧A3b g 12 M l = .ok y:=by
    obtain⟨_,jj,M,_,h1,h2⟩:=A2a HR.out
    exact⟨jj,M,h1,h2⟩
   have HSOk:Hid (BOk 12 y):=by
    obtain⟨hsq,hsw⟩:=A9g (HI.out.gd (A2a HR.out).1) 12 M l y ((HI.out.gd (A2a HR.out).1).fs (List.mem_of_getElem? hM)) hrd
    obtain⟨rs,A,hp,_⟩:=A5l hrd
    obtain⟨_,_,hw3⟩:=A6q hp
    exact B5x 12 y hsq (by omega)
   have hwr:=(HI.out.below hbwX2).wrong (HSR.out.below hx2) HSOk.out
   rw[hT1] at hwr
   obtain⟨By,Ey,HB⟩:∃ By Ey,Hid (A7k g 11 msg y=(By,Ey)):=⟨_,_,rfl⟩
   rw[HB.out] at hT2 hT3
   dsimp only at hT2 hT3
   have HT3:Hid (Ey=0→A2d g msg By = .ok y):=hT3
   clear hT1 hT3 hM hrd hc1 hc2 hc3 hc4
   rw[HX2.out] at y0 y1 y2 y3
   go_wp2_with fail
   rw[←HX2.out]
   refine hwr.mono ?_
   rintro e v3 ⟨rfl,hv3⟩
   have hbwv3:Below w.heap.size w v3:=BTr hbwX2 hv3
   have hbt:=A3z (HI.out.below hbwv3) ((HSR.out.below hx2).below hv3) HSOk.out
   rw[HB.out] at hbt
   clear y0 y1 y2 y3 hwr
   obtain⟨y0,y1⟩:=A0v (((BTr hbX2 hv3).block _ (by omega)).trans x1)
   have c3:=(hv3.block _ (by omega)).trans c2
   obtain⟨y2,y3⟩:=A0v c3
   go_wp2_with fail
   refine hbt.mono ?_
   rintro e v4 ⟨qa,qn,qc,rfl,hrq,hv4⟩
   have hbwv4:Below w.heap.size w v4:=BTr hbwv3 hv4
   have hb14:Below W1.heap.size W1 v4:=BTr (BTr hbX2 hv3) hv4
   have c4:=(hv4.block _ (by have:=hv3.size;omega)).trans c3
   clear y0 y1 y2 y3 hbt
   rcases hT2 with rfl|rfl
   ·obtain⟨y0,y1⟩:=A0v ((hb14.block _ (by omega)).trans x1)
    have HP3:=HT3.out rfl
    have hpa3:Calls Tryz.prog 14 #[.agg #[.slice am nm cm,.slice ae ne ce],.int .i64 msg,.slice qa qn qc] v4 fun e w'=>∃ (i0:Option Addr) (j0 l0:Nat) (i1:Option Addr) (j1 l1:Nat) (E:Int),e = .returned (.tuple #[.agg #[.slice i0 j0 l0,.slice i1 j1 l1],.int .i64 E])∧Hid (DRes 12 v4.heap.size (.ok y) i0 j0 l0 i1 j1 l1 E w')∧Below v4.heap.size v4 w':=by
     refine(A3a (HI.out.below hbwv4) (hrq.rdY)).mono ?_
     intro e w' ho
     rw[HP3] at ho
     obtain⟨i0,j0,l0,i1,j1,l1,E,h1,h2,h3⟩:=ho.open
     exact⟨i0,j0,l0,i1,j1,l1,E,h1,h2,h3⟩
    go_wp2_with fail
    refine hpa3.mono ?_
    rintro e v5 ⟨k0,m0,n0',k1,m1,n1',E5,rfl,HRes5,hv5⟩
    obtain⟨hE0,cc,hc1,hc2,hc3,hc4⟩:=HRes5.out
    subst hE0
    have HSR5:Hid (BRd 11 v5 (.slice k0 m0 n0') (.slice k1 m1 n1') y):=by
     have h1:=OwnB.rd (show OwnB v4.heap.size (11+1) v5 cc from hc3)
     have h2 : [PV.v (BL.q0 cc),PV.v (BL.q1 cc)] = [.slice k0 m0 n0',.slice k1 m1 n1']:=hc1
     simp only[List.cons.injEq,and_true] at h2
     rw[h2.1,h2.2,show LB.pl (11+1) cc=y from hc2] at h1
     exact h1
    obtain⟨X6,HX6⟩:∃ X6,Hid (X6=v5.alloc (.cells #[.slice k0 m0 n0',.slice k1 m1 n1'] 29)):=⟨_,rfl⟩
    have hx6:Below v5.heap.size v5 X6:=by rw[HX6.out];exact(Below.refl _ _).alloc (Nat.le_refl _) _
    have c6:X6.heap[v5.heap.size]?=some (.cells #[.slice k0 m0 n0',.slice k1 m1 n1'] 29 (0,0)):=by rw[HX6.out];exact heap_alloc_new _ _
    have z6:v5.heap.size+1≤X6.heap.size:=by rw[HX6.out];simp
    have hb46:Below v4.heap.size v4 X6:=BTr hv5 hx6
    have hz4:=hb14.size
    have hz5:=hv5.size
    have hzX:=hv3.size
    have hzY:=hv4.size
    have hsm:=A5g ((((HSR.out.below hx2).below hv3).below hv4).below hb46) (HSR5.out.below hx6)
    clear y0 y1 hpa3 hc1 hc2 hc3 hc4
    obtain⟨y2,y3⟩:=A0v ((hb46.block _ (by omega)).trans c4)
    obtain⟨y4,y5⟩:=A0v c6
    rw[HX6.out] at y2 y3 y4 y5
    go_wp2_with fail
    rw[←HX6.out]
    refine hsm.mono ?_
    rintro e v7 ⟨rfl,hv7⟩
    go_wp2
    go_ret
    exact⟨rfl,BTr (BTr hbwv4 hb46) hv7⟩
   ·go_wp2
    go_ret
    exact⟨rfl,hbwv4⟩
 ·have eX:(Ex == 0)=false:=beq_eq_false_iff_ne.2 hEx
  clear hEx HX hrp
  have hbwV:Below w.heap.size w w3:=BTr hb1 hb13
  obtain⟨y0,y1⟩:=A0v ((hb13.block _ (by omega)).trans x1)
  have hzV:=hb13.size
  obtain⟨R,HR⟩:∃ R,Hid (A2d g msg l=R):=⟨_,rfl⟩
  have hpa2:Calls Tryz.prog 14 #[.agg #[.slice am nm cm,.slice ae ne ce],.int .i64 msg,.slice ao k c] w3 fun e w'=>∃ (i0:Option Addr) (j0 l0:Nat) (i1:Option Addr) (j1 l1:Nat) (E:Int),e = .returned (.tuple #[.agg #[.slice i0 j0 l0,.slice i1 j1 l1],.int .i64 E])∧Hid (DRes 12 w3.heap.size (R) i0 j0 l0 i1 j1 l1 E w')∧Below w3.heap.size w3 w':=by
   refine(A3a (HI.out.below hbwV) (HL.out.below YAt.stays hbwV)).mono ?_
   intro e w' ho
   rw[HR.out] at ho
   obtain⟨i0,j0,l0,i1,j1,l1,E,h1,h2,h3⟩:=ho.open
   exact⟨i0,j0,l0,i1,j1,l1,E,h1,h2,h3⟩
  go_wp2_with fail
  refine hpa2.mono ?_
  rintro e v1 ⟨i0,j0,l0,i1,j1,l1,E,rfl,HRes,hv1⟩
  obtain⟨X2,HX2⟩:∃ X2,Hid (X2=v1.alloc (.cells #[.slice i0 j0 l0,.slice i1 j1 l1] 29)):=⟨_,rfl⟩
  have hx2:Below v1.heap.size v1 X2:=by rw[HX2.out];exact(Below.refl _ _).alloc (Nat.le_refl _) _
  have c2:X2.heap[v1.heap.size]?=some (.cells #[.slice i0 j0 l0,.slice i1 j1 l1] 29 (0,0)):=by rw[HX2.out];exact heap_alloc_new _ _
  have z2:v1.heap.size+1≤X2.heap.size:=by rw[HX2.out];simp
  have hbX2:Below W1.heap.size W1 X2:=BTr hb13 (BTr hv1 hx2)
  have hbwX2:Below w.heap.size w X2:=BTr hb1 hbX2
  have hzv1:=hv1.size
  clear y0 y1 hpa2
  obtain⟨y0,y1⟩:=A0v ((hbX2.block _ (by omega)).trans x1)
  obtain⟨y2,y3⟩:=A0v c2
  cases R with
  | error E'=>
   obtain⟨hE1,hE2,hE3⟩:=HRes.out
   subst hE2
   obtain⟨rfl,rfl,rfl,rfl,rfl,rfl⟩:=hE3
   have eE:(E != 0)=true:=by simpa using hE1
   clear hE1
   have hsm:=A5g (d:=0) (w:=X2) A7e A7e
   rw[HX2.out] at y0 y1 y2 y3
   go_wp2_with fail
   rw[←HX2.out]
   refine hsm.mono ?_
   rintro e v3 ⟨rfl,hv3⟩
   go_wp2
   go_ret
   exact⟨rfl,BTr hbwX2 hv3⟩
  | ok y=>
   obtain⟨hE0,cc,hc1,hc2,hc3,hc4⟩:=HRes.out
   subst hE0
   have HSR:Hid (BRd 11 v1 (.slice i0 j0 l0) (.slice i1 j1 l1) y):=by
    have h1:=OwnB.rd (show OwnB w3.heap.size (11+1) v1 cc from hc3)
    have h2 : [PV.v (BL.q0 cc),PV.v (BL.q1 cc)] = [.slice i0 j0 l0,.slice i1 j1 l1]:=hc1
    simp only[List.cons.injEq,and_true] at h2
    rw[h2.1,h2.2,show LB.pl (11+1) cc=y from hc2] at h1
    exact h1
   obtain⟨hT1,hT2,hT3⟩:=D1g (HI.out.gd (A2a HR.out).1) HR.out
   obtain⟨jj,M,hM,hrd⟩:∃ (jj:Nat) (M:MI),g.msgs[jj]?=some M∧A3b g 12 M l = .ok y:=by
    obtain⟨_,jj,M,_,h1,h2⟩:=A2a HR.out
    exact⟨jj,M,h1,h2⟩
   have HSOk:Hid (BOk 12 y):=by
    obtain⟨hsq,hsw⟩:=A9g (HI.out.gd (A2a HR.out).1) 12 M l y ((HI.out.gd (A2a HR.out).1).fs (List.mem_of_getElem? hM)) hrd
    obtain⟨rs,A,hp,_⟩:=A5l hrd
    obtain⟨_,_,hw3⟩:=A6q hp
    exact B5x 12 y hsq (by omega)
   have hwr:=(HI.out.below hbwX2).wrong (HSR.out.below hx2) HSOk.out
   rw[hT1] at hwr
   obtain⟨By,Ey,HB⟩:∃ By Ey,Hid (A7k g 11 msg y=(By,Ey)):=⟨_,_,rfl⟩
   rw[HB.out] at hT2 hT3
   dsimp only at hT2 hT3
   have HT3:Hid (Ey=0→A2d g msg By = .ok y):=hT3
   clear hT1 hT3 hM hrd hc1 hc2 hc3 hc4
   rw[HX2.out] at y0 y1 y2 y3
   go_wp2_with fail
   rw[←HX2.out]
   refine hwr.mono ?_
   rintro e v3 ⟨rfl,hv3⟩
   have hbwv3:Below w.heap.size w v3:=BTr hbwX2 hv3
   have hbt:=A3z (HI.out.below hbwv3) ((HSR.out.below hx2).below hv3) HSOk.out
   rw[HB.out] at hbt
   clear y0 y1 y2 y3 hwr
   obtain⟨y0,y1⟩:=A0v (((BTr hbX2 hv3).block _ (by omega)).trans x1)
   have c3:=(hv3.block _ (by omega)).trans c2
   obtain⟨y2,y3⟩:=A0v c3
   go_wp2_with fail
   refine hbt.mono ?_
   rintro e v4 ⟨qa,qn,qc,rfl,hrq,hv4⟩
   have hbwv4:Below w.heap.size w v4:=BTr hbwv3 hv4
   have hb14:Below W1.heap.size W1 v4:=BTr (BTr hbX2 hv3) hv4
   have c4:=(hv4.block _ (by have:=hv3.size;omega)).trans c3
   clear y0 y1 y2 y3 hbt
   rcases hT2 with rfl|rfl
   ·obtain⟨y0,y1⟩:=A0v ((hb14.block _ (by omega)).trans x1)
    have HP3:=HT3.out rfl
    have hpa3:Calls Tryz.prog 14 #[.agg #[.slice am nm cm,.slice ae ne ce],.int .i64 msg,.slice qa qn qc] v4 fun e w'=>∃ (i0:Option Addr) (j0 l0:Nat) (i1:Option Addr) (j1 l1:Nat) (E:Int),e = .returned (.tuple #[.agg #[.slice i0 j0 l0,.slice i1 j1 l1],.int .i64 E])∧Hid (DRes 12 v4.heap.size (.ok y) i0 j0 l0 i1 j1 l1 E w')∧Below v4.heap.size v4 w':=by
     refine(A3a (HI.out.below hbwv4) (hrq.rdY)).mono ?_
     intro e w' ho
     rw[HP3] at ho
     obtain⟨i0,j0,l0,i1,j1,l1,E,h1,h2,h3⟩:=ho.open
     exact⟨i0,j0,l0,i1,j1,l1,E,h1,h2,h3⟩
    go_wp2_with fail
    refine hpa3.mono ?_
    rintro e v5 ⟨k0,m0,n0',k1,m1,n1',E5,rfl,HRes5,hv5⟩
    obtain⟨hE0,cc,hc1,hc2,hc3,hc4⟩:=HRes5.out
    subst hE0
    have HSR5:Hid (BRd 11 v5 (.slice k0 m0 n0') (.slice k1 m1 n1') y):=by
     have h1:=OwnB.rd (show OwnB v4.heap.size (11+1) v5 cc from hc3)
     have h2 : [PV.v (BL.q0 cc),PV.v (BL.q1 cc)] = [.slice k0 m0 n0',.slice k1 m1 n1']:=hc1
     simp only[List.cons.injEq,and_true] at h2
     rw[h2.1,h2.2,show LB.pl (11+1) cc=y from hc2] at h1
     exact h1
    obtain⟨X6,HX6⟩:∃ X6,Hid (X6=v5.alloc (.cells #[.slice k0 m0 n0',.slice k1 m1 n1'] 29)):=⟨_,rfl⟩
    have hx6:Below v5.heap.size v5 X6:=by rw[HX6.out];exact(Below.refl _ _).alloc (Nat.le_refl _) _
    have c6:X6.heap[v5.heap.size]?=some (.cells #[.slice k0 m0 n0',.slice k1 m1 n1'] 29 (0,0)):=by rw[HX6.out];exact heap_alloc_new _ _
    have z6:v5.heap.size+1≤X6.heap.size:=by rw[HX6.out];simp
    have hb46:Below v4.heap.size v4 X6:=BTr hv5 hx6
    have hz4:=hb14.size
    have hz5:=hv5.size
    have hzX:=hv3.size
    have hzY:=hv4.size
    have hsm:=A5g ((((HSR.out.below hx2).below hv3).below hv4).below hb46) (HSR5.out.below hx6)
    clear y0 y1 hpa3 hc1 hc2 hc3 hc4
    obtain⟨y2,y3⟩:=A0v ((hb46.block _ (by omega)).trans c4)
    obtain⟨y4,y5⟩:=A0v c6
    rw[HX6.out] at y2 y3 y4 y5
    go_wp2_with fail
    rw[←HX6.out]
    refine hsm.mono ?_
    rintro e v7 ⟨rfl,hv7⟩
    go_wp2
    go_ret
    exact⟨rfl,BTr (BTr hbwv4 hb46) hv7⟩
   ·go_wp2
    go_ret
    exact⟨rfl,hbwv4⟩
end L
end Go.Proofs.YtcagbdokbnpdfaaGreatDoor
