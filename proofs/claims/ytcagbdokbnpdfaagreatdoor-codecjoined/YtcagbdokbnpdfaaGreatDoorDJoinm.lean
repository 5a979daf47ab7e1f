import Derived.Test.YtcagbdokbnpdfaaGreatDoorZ38
import Derived.Test.YtcagbdokbnpdfaaGreatDoorBSamem
import Derived.Test.YtcagbdokbnpdfaaGreatDoorDJnPm
import Derived.Test.YtcagbdokbnpdfaaGreatDoorBMixedm
import Derived.Deep.RegionHeld3
import Derived.Deep.CutRange
import Derived.Deep.DeepCutAuto
namespace Go.Proofs.YtcagbdokbnpdfaaGreatDoor
namespace L
open Go.RowKit
set_option linter.unusedVariables false
theorem newBD (w:World) (o:Obj):∃ X,Hid (X=(w.alloc o).drew)∧Below w.heap.size w X∧X.heap[w.heap.size]?=some o∧w.heap.size+1≤X.heap.size:=⟨_,rfl,((Below.refl _ _).alloc (Nat.le_refl _) _).drew,heap_alloc_new w _,by show _≤(w.alloc o).heap.size;simp⟩
theorem Row.empD {α:Type}(E:EK α){w:World}{base g:Nat}(hb:base≤g) (h:w.heap[g]?=some (.cells #[] E.elem (0,0))):Row E w base (.slice (some ⟨g,0,none⟩) 0 0) []:=
 ⟨by simp[EK.flat],.inr ⟨g,0,#[],rfl,hb,h,Nat.le_refl _,by unfold maxLen;omega,by simp,by simp[EK.flat]⟩⟩
theorem DRes.below {n B:Nat}{w w':World}{res:Except Int (BI n)}{i0:Option Addr}{j0 l0:Nat}{i1:Option Addr}{j1 l1:Nat}{E:Int}(h:DRes n B res i0 j0 l0 i1 j1 l1 E w) (hb:Below w.heap.size w w'):DRes n B res i0 j0 l0 i1 j1 l1 E w':=by
 cases res with
 | error E'=>exact h
 | ok s=>
  obtain⟨h0,c,h1,h2,h3,h4⟩:=h
  exact⟨h0,c,h1,h2,OwnB.fr n [] _ _ c h3 (FrB.of_below hb) (fun i hi hm=>by cases hm),h4⟩
theorem DRes.rd {B:Nat}{w:World}{s:BI 12}{i0:Option Addr}{j0 l0:Nat}{i1:Option Addr}{j1 l1:Nat}{E:Int}(h:DRes 12 B (.ok s) i0 j0 l0 i1 j1 l1 E w):BRd 11 w (.slice i0 j0 l0) (.slice i1 j1 l1) s:=by
 obtain⟨_,cc,hc1,hc2,hc3,_⟩:=h
 have h1:=OwnB.rd (show OwnB B (11+1) w cc from hc3)
 have h2 : [PV.v (BL.q0 cc),PV.v (BL.q1 cc)] = [.slice i0 j0 l0,.slice i1 j1 l1]:=hc1
 simp only[List.cons.injEq,and_true] at h2
 rw[h2.1,h2.2,show LB.pl (11+1) cc=s from hc2] at h1
 exact h1
theorem set2_at {V:World}{g:Nat}{t:TypeId}{a0 a1 x0 x1:Value}(h:V.heap[g]?=some (.cells #[a0,a1] t (0,0))):((V.setCell ⟨g,0,none⟩ x0).setCell ⟨g,1,none⟩ x1).heap[g]?=some (.cells #[x0,x1] t (0,0)):=
 heap_setCell_same _ _ 1 _ _ x1 (heap_setCell_same _ _ 0 _ _ x0 h)
theorem bytN_len (g:GI) (d:Nat) (msg:Int) (x:BI (d+1)):(A7k g d msg x).1.length≤4000:=by
 unfold A7k
 split
 ·simp
 ·split
  ·exact A8i g (d+1) _ x
  ·simp
theorem parse_ok {g:GI}{msg:Int}{l:List UInt8}{y:BI 12}(hgd:FGd g) (h:A2d g msg l = .ok y):BOk 12 y∧jWB 12 y≤8000∧l.length≤4000:=by
 obtain⟨_,jj,M,_,hM,hrd⟩:=A2a h
 obtain⟨hsq,hsw⟩:=A9g hgd 12 M l y (hgd.fs (List.mem_of_getElem? hM)) hrd
 obtain⟨rs,A,hp,_⟩:=A5l hrd
 obtain⟨_,_,hw3⟩:=A6q hp
 exact⟨B5x 12 y hsq (by omega),by omega,hw3⟩
set_option maxHeartbeats 16000000 in
set_option maxRecDepth 100000 in
theorem joined_walk (hal:B9e){g:GI}{am:Option Addr}{nm cm:Nat}{ae:Option Addr}{ne ce:Nat}{msg:Int}{w:World}(hI:WIn g am nm cm ae ne ce msg w){ao:Option Addr}{k c:Nat}{la:List UInt8}(hla:RdL 1 YAt w (.slice ao k c) la){bo:Option Addr}{kb cb:Nat}{lb:List UInt8}(hlb:RdL 1 YAt w (.slice bo kb cb) lb) :
  Calls Tryz.prog 5 #[.agg #[.slice am nm cm,.slice ae ne ce],.int .i64 msg,.slice ao k c,.slice bo kb cb] w fun e w'=>e = .returned (.bool true)∧Below w.heap.size w w':=by
 obtain⟨W1,HW1⟩:∃ W1,Hid (W1=w.alloc (.cells #[.slice am nm cm,.slice ae ne ce] 25)):=⟨_,rfl⟩
 have hb1:Below w.heap.size w W1:=by rw[HW1.out];exact(Below.refl _ _).alloc (Nat.le_refl _) _
 have z1:w.heap.size+1≤W1.heap.size:=by rw[HW1.out];simp
 have x1:W1.heap[w.heap.size]?=some (.cells #[.slice am nm cm,.slice ae ne ce] 25 (0,0)):=by rw[HW1.out];exact heap_alloc_new _ _
 have ha:=hal W1 (hI.tabs.below hb1)
 have HI:Hid (WIn g am nm cm ae ne ce msg w):=hI
 have HA:Hid (RdL 1 YAt w (.slice ao k c) la):=hla
 have HB:Hid (RdL 1 YAt w (.slice bo kb cb) lb):=hlb
 have Hk:Hid (k=la.length):=hla.len.1
 clear hI hla hlb hal
 go_enter Tryz.func5,Tryz.ntmps5
 go_upto_region 1 with fail
 rw[←HW1.out]
 go_wp2_with fail
 refine ha.mono ?_
 rintro e w2 ⟨rfl,hb2⟩
 have hbw2:Below w.heap.size w w2:=BTr hb1 hb2
 obtain⟨y0,y1⟩:=A0v ((hb2.block _ (by omega)).trans x1)
 obtain⟨R1,HR1⟩:∃ R,Hid (A2d g msg la=R):=⟨_,rfl⟩
 have hpa1:Calls Tryz.prog 14 #[.agg #[.slice am nm cm,.slice ae ne ce],.int .i64 msg,.slice ao k c] w2 fun e w'=>∃ (i0:Option Addr) (j0 l0:Nat) (i1:Option Addr) (j1 l1:Nat) (E:Int),e = .returned (.tuple #[.agg #[.slice i0 j0 l0,.slice i1 j1 l1],.int .i64 E])∧Hid (DRes 12 w2.heap.size (R1) i0 j0 l0 i1 j1 l1 E w')∧Below w2.heap.size w2 w':=by
  refine(A3a (HI.out.below hbw2) (HA.out.below YAt.stays hbw2)).mono ?_
  intro e w' ho
  rw[HR1.out] at ho
  obtain⟨i0,j0,l0,i1,j1,l1,E,h1,h2,h3⟩:=ho.open
  exact⟨i0,j0,l0,i1,j1,l1,E,h1,h2,h3⟩
 clear ha
 go_wp2_with fail
 refine hpa1.mono ?_
 rintro e w3 ⟨i0,j0,l0,i1,j1,l1,E1,rfl,HRes1,hb3⟩
 obtain⟨W4,HW4,hb34,x4,z4⟩:=D6g w3 (.cells #[.slice i0 j0 l0,.slice i1 j1 l1] 29)
 have hb14:Below W1.heap.size W1 W4:=BTr hb2 (BTr hb3 hb34)
 have hbw4:Below w.heap.size w W4:=BTr hb1 hb14
 have hz2:=hb2.size
 have hz3:=hb3.size
 clear y0 y1 hpa1
 obtain⟨y0,y1⟩:=A0v ((hb14.block _ (by omega)).trans x1)
 obtain⟨R2,HR2⟩:∃ R,Hid (A2d g msg lb=R):=⟨_,rfl⟩
 have hpa2:Calls Tryz.prog 14 #[.agg #[.slice am nm cm,.slice ae ne ce],.int .i64 msg,.slice bo kb cb] W4 fun e w'=>∃ (i0:Option Addr) (j0 l0:Nat) (i1:Option Addr) (j1 l1:Nat) (E:Int),e = .returned (.tuple #[.agg #[.slice i0 j0 l0,.slice i1 j1 l1],.int .i64 E])∧Hid (DRes 12 W4.heap.size (R2) i0 j0 l0 i1 j1 l1 E w')∧Below W4.heap.size W4 w':=by
  refine(A3a (HI.out.below hbw4) (HB.out.below YAt.stays hbw4)).mono ?_
  intro e w' ho
  rw[HR2.out] at ho
  obtain⟨i0,j0,l0,i1,j1,l1,E,h1,h2,h3⟩:=ho.open
  exact⟨i0,j0,l0,i1,j1,l1,E,h1,h2,h3⟩
 go_upto_region 4 with fail
 rw[←HW4.out]
 go_wp2_with fail
 refine hpa2.mono ?_
 rintro e w5 ⟨i2,j2,l2,i3,j3,l3,E2,rfl,HRes2,hb5⟩
 obtain⟨W6,HW6,hb56,x6,z6⟩:=D6g w5 (.cells #[.slice i2 j2 l2,.slice i3 j3 l3] 29)
 have hb46:Below W4.heap.size W4 W6:=BTr hb5 hb56
 have hb16:Below W1.heap.size W1 W6:=BTr hb14 hb46
 have hbw6:Below w.heap.size w W6:=BTr hb1 hb16
 have hz5:=hb5.size
 clear y0 y1 hpa2
 obtain⟨y0,y1⟩:=A0v ((hb16.block _ (by omega)).trans x1)
 obtain⟨y2,y3⟩:=A0v x6
 have hbt:Calls Tryz.prog 12 #[.agg #[.slice am nm cm,.slice ae ne ce],.int .i64 msg,.agg #[.slice i2 j2 l2,.slice i3 j3 l3]] W6 fun e w'=>∃ (pa:Option Addr) (pn pc:Nat) (E3:Int),e = .returned (.tuple #[.slice pa pn pc,.int .i64 E3])∧Hid (∃ C,Row ekY w' W6.heap.size (.slice pa pn pc) C∧C.length≤4000∧∀ y,R2 = .ok y→A7k g 11 msg y=(C,E3))∧Below W6.heap.size W6 w':=by
  cases R2 with
  | error E'=>
   obtain⟨_,_,rfl,rfl,rfl,rfl,rfl,rfl⟩:=HRes2.out
   refine(A3z (HI.out.below hbw6) (d:=0) (x:=(⟨[],[]⟩:BO (BI 0))) A7e ⟨(fun v hv=>by cases hv),by unfold reachBytes;decide,(fun v hv=>by cases hv),by unfold reachBytes;decide⟩).mono ?_
   rintro e w' ⟨pa,pn,pc,rfl,hr,hb⟩
   exact⟨pa,pn,pc,_,rfl,⟨_,hr,bytN_len _ _ _ _,fun y h=>by cases h⟩,hb⟩
  | ok y=>
   refine(A3z (HI.out.below hbw6) (HRes2.out.rd.below hb56) (parse_ok (HI.out.gd (A2a HR2.out).1) HR2.out).1).mono ?_
   rintro e w' ⟨pa,pn,pc,rfl,hr,hb⟩
   exact⟨pa,pn,pc,_,rfl,⟨_,hr,bytN_len _ _ _ _,fun y' h=>by cases h;rfl⟩,hb⟩
 go_upto_region 5 with fail
 rw[←HW6.out]
 go_wp2_with fail
 refine hbt.mono ?_
 rintro e w7 ⟨pa,pn,pc,E3,rfl,HC,hb7⟩
 have hb67:=hb7
 have hb17:Below W1.heap.size W1 w7:=BTr hb16 hb7
 have hbw7:Below w.heap.size w w7:=BTr hb1 hb17
 clear y0 y1 y2 y3 hbt
 obtain⟨C,hCr,hCl,hCb⟩:=HC.out
 have HC':Hid (Row ekY w7 W6.heap.size (.slice pa pn pc) C):=hCr
 have HCb:Hid (∀ y,R2 = .ok y→A7k g 11 msg y=(C,E3)):=hCb
 have Hpn:Hid (pn=C.length):=hCr.len
 have hpn:pn≤4000:=by rw[Hpn.out];exact hCl
 clear hCr hCl hCb HC
 by_cases h1:E1=0
 ·by_cases h2:E2=0
  ·by_cases h3:E3=0
   ·subst h1 h2 h3
    have e0:((0:Int) != 0)=false:=rfl
    obtain⟨x,hx⟩:∃ x,R1 = .ok x:=by
     cases R1 with
     | error E'=>obtain⟨h1,h2,_⟩:=HRes1.out;exact absurd h2.symm h1
     | ok x=>exact⟨x,rfl⟩
    obtain⟨y,hy⟩:∃ y,R2 = .ok y:=by
     cases R2 with
     | error E'=>obtain⟨h1,h2,_⟩:=HRes2.out;exact absurd h2.symm h1
     | ok x=>exact⟨x,rfl⟩
    subst hx hy
    have hgd:=HI.out.gd (A2a HR1.out).1
    obtain⟨hox,hwx,hlx⟩:=parse_ok hgd HR1.out
    obtain⟨hoy,hwy,_⟩:=parse_ok hgd HR2.out
    have hka:k≤4000:=by rw[Hk.out];exact hlx
    have HPl:Hid (k+pn≤4000→(A3g g 11 msg x y=0∧∃ M,g.msgs[msg.toNat]?=some M∧A2d g msg (la++C) = .ok (jnB g.msgs 12 M x y))∨(A3g g 11 msg x y=5∧A2d g msg (la++C) = .error 5)):=fun hl=>B5n hgd HR1.out HR2.out (HCb.out y rfl) (by rw[←Hk.out,←Hpn.out];exact hl)
    have HX:Hid (BRd 11 w3 (.slice i0 j0 l0) (.slice i1 j1 l1) x):=HRes1.out.rd
    have HY:Hid (BRd 11 w5 (.slice i2 j2 l2) (.slice i3 j3 l3) y):=HRes2.out.rd
    have HOX:Hid (BOk 12 x∧BOk 12 y∧jWB 12 x+jWB 12 y≤1000000000):=⟨hox,hoy,by omega⟩
    obtain⟨mx,Hmx⟩:∃ mx,Hid (D4s g=mx):=⟨_,rfl⟩
    have hm:=C5l (HI.out.hg.below hbw7)
    rw[Hmx.out] at hm
    clear hgd hox hwx hlx hoy hwy HRes1 HRes2
    obtain⟨y0,y1⟩:=A0v ((hb17.block _ (by omega)).trans x1)
    cases mx with
    | true=>
     go_wp2_with fail
     refine hm.mono ?_
     rintro e w8 ⟨rfl,hb8⟩
     go_wp2
     go_ret
     exact⟨rfl,BTr hbw7 hb8⟩
    | false=>
     go_wp2_with fail
     refine hm.mono ?_
     rintro e w8 ⟨rfl,hb8⟩
     have hb18:Below W1.heap.size W1 w8:=BTr hb17 hb8
     have hbw8:Below w.heap.size w w8:=BTr hb1 hb18
     clear y0 y1 hm
     by_cases hlen:k+pn≤4000
     ·have el:decide ((4000:Int) < IntKind.i64.wrap ((k:Int)+(pn:Int)))=false:=by rw[IntKind.wrap_i64,decide_eq_false_iff_not];omega
      have el2:IntKind.i64.wrap ((k:Int)+(pn:Int))=(k:Int)+(pn:Int):=by rw[IntKind.wrap_i64];omega
      have el3:¬ (4000:Int) < (k:Int)+(pn:Int):=by omega
      have hP:=HPl.out hlen
      obtain⟨P,HP⟩:∃ P,Hid (A2d g msg (la++C)=P):=⟨_,rfl⟩
      rw[HP.out] at hP
      have HP2:Hid ((A3g g 11 msg x y=0∧∃ M,g.msgs[msg.toNat]?=some M∧P = .ok (jnB g.msgs 12 M x y))∨(A3g g 11 msg x y=5∧P = .error 5)):=hP
      clear hP
      have hz8:=hb18.size
      have hcl:∀ U,Below w8.heap.size w8 U→U.cell? ⟨w.heap.size,0,none⟩=some (.slice am nm cm)∧U.cell? ⟨w.heap.size,1,none⟩=some (.slice ae ne ce):=fun U hU=>A0v ((hU.block _ (by omega)).trans ((hb18.block _ (by omega)).trans x1))
      have hsA:∀ U,Below w8.heap.size w8 U→RdL 1 YAt U (.slice ao k c) la:=fun U hU=>HA.out.below YAt.stays (BTr hbw8 hU)
      have hsB:∀ U,Below w8.heap.size w8 U→RdL 1 YAt U (.slice pa pn pc) C:=fun U hU=>((HC'.out.below hb8).below hU).rdY
      have hpar:∀ U,Below w8.heap.size w8 U→∀ a n c',RdL 1 YAt U (.slice a n c') (la++C)→Calls Tryz.prog 14 #[.agg #[.slice am nm cm,.slice ae ne ce],.int .i64 msg,.slice a n c'] U fun e w'=>∃ (i0:Option Addr) (j0 l0:Nat) (i1:Option Addr) (j1 l1:Nat) (E:Int),e = .returned (.tuple #[.agg #[.slice i0 j0 l0,.slice i1 j1 l1],.int .i64 E])∧Hid (DRes 12 U.heap.size P i0 j0 l0 i1 j1 l1 E w')∧Below U.heap.size U w':=fun U hU a n c' hr=>by
       refine(A3a (HI.out.below (BTr hbw8 hU)) hr).mono ?_
       intro e w' ho
       rw[HP.out] at ho
       obtain⟨i0,j0,l0,i1,j1,l1,E,h1,h2,h3⟩:=ho.open
       exact⟨i0,j0,l0,i1,j1,l1,E,h1,h2,h3⟩
      have hD8:Below w8.heap.size w8 w8.drew:=(Below.refl _ _).drew
      have hR8:Below w8.heap.size w8 w8:=Below.refl _ _
      go_upto_region 8 with fail
      go_cut [10,15] from 62 to 72 (fun s10 s15 wc=>∃ (nb:Nat) (p0:Option Addr) (q0 r0:Nat) (p1:Option Addr) (q1 r1:Nat) (E:Int),s10 = .int .i64 E∧s15 = .pointer (some ⟨nb,0,none⟩)∧w8.heap.size≤nb∧wc.heap[nb]?=some (.cells #[.slice p0 q0 r0,.slice p1 q1 r1] 29 (0,0))∧Hid (∃ B,DRes 12 B P p0 q0 r0 p1 q1 r1 E wc)∧Below w8.heap.size w8 wc)
      case first=>
       refine wp_region_held_drew (S:=fun U=>Below w8.heap.size w8 U) (by kernel_rfl) hD8 (fun hHeld=>?_)
       refine tK (i:=0) (v:=?vj1) rfl (fun _ _ _ h=>h) ⟨by rfl,?hyj1⟩ (by assumption) ?_
       case hyj1=>(intro W hSw;obtain⟨o1,o2⟩:=hcl W hSw;go_simp;first|done|with_reducible rfl)
       try simp only[pT,Act.put]
       refine tK (i:=1) (v:=?vj2) rfl (fun _ _ _ h=>h) ⟨by rfl,?hyj2⟩ (by assumption) ?_
       case hyj2=>(intro W hSw;go_simp;first|done|with_reducible rfl)
       try simp only[pT,Act.put]
       refine tK (i:=3) (v:=?vj3) rfl (fun _ _ _ h=>h) ⟨by rfl,?hyj3⟩ (by assumption) ?_
       case hyj3=>(intro W hSw;go_simp;first|done|with_reducible rfl)
       try simp only[pT,Act.put]
       refine tK (i:=5) (v:=?vj4) rfl (fun _ _ _ h=>h) ⟨by rfl,?hyj4⟩ (by assumption) ?_
       case hyj4=>(intro W hSw;go_simp;first|done|with_reducible rfl)
       try simp only[pT,Act.put]
       refine wpAnyH_ready (rs:=[2,11]) (by kernel_rfl) (by simp) ?_
       refine AllReadyH.cons rfl (fun K hK=>?_) (AllReadyH.cons rfl (fun K hK=>?_) AllReadyH.nil)
       ·skip
        go_simp
        obtain⟨X2,HX2,hX2',xX2,_⟩:=newBD w8 (.cells #[] 5)
        have hX2:Below w8.heap.size w8 X2:=BTr hR8 hX2'
        have hrX:=Row.empD ekY (base:=w8.heap.size) hR8.size xX2
        rw[←HX2.out]
        refine hK.out _ _ ?_ (fun hHeld=>?_)
        ·(try dsimp only);with_reducible first|exact hX2|exact hXb|exact hB54|exact hB56|exact hB57|exact hB12
        clear hK K
        try simp only[pT,Act.put]
        refine wpAnyH_ready (rs:=[4,11]) (by kernel_rfl) (by simp) ?_
        refine AllReadyH.cons rfl (fun K hK=>?_) (AllReadyH.cons rfl (fun K hK=>?_) AllReadyH.nil)
        ·skip
         skip
         have hs4:=B3w (hsA _ hX2)
         refine A4c (by rfl) ekY _ _ (by rfl) w8.heap.size (.slice (some ⟨w8.heap.size,0,none⟩) 0 0) [] la (by rfl) hrX ao k c (by rfl) hs4.1 hs4.2.1 hs4.2.2 (by decide) (by show(0+la.length)*1≤_;rw[←Hk.out];omega) hX2.size ?_
         intro v4 w54 hr54 hg4
         obtain⟨a54,n54,c54,rfl,H54⟩:=hr54.shape'
         have hB54:Below w8.heap.size w8 w54:=hX2.grown hg4 hX2.size (fun k hk=>(hrX.own k hk).1)
         refine hK.out _ _ ?_ (fun hHeld=>?_)
         ·(try dsimp only);with_reducible first|exact hX2|exact hXb|exact hB54|exact hB56|exact hB57|exact hB12
         clear hK K
         try simp only[pT,Act.put]
         refine wpAnyH_ready (rs:=[6,11]) (by kernel_rfl) (by simp) ?_
         refine AllReadyH.cons rfl (fun K hK=>?_) (AllReadyH.cons rfl (fun K hK=>?_) AllReadyH.nil)
         ·skip
          skip
          have hs6:=B3w (hsB _ hB54)
          refine A4c (by rfl) ekY _ _ (by rfl) w8.heap.size (.slice a54 n54 c54) ([]++la) C (by rfl) hr54 pa pn pc (by rfl) hs6.1 hs6.2.1 hs6.2.2 (by decide) (by show(([]++la).length+C.length)*1≤_;rw[List.nil_append,←Hk.out,←Hpn.out];omega) hB54.size ?_
          intro v6 w56 hr56 hg6
          obtain⟨a56,n56,c56,rfl,H56⟩:=hr56.shape'
          have hB56:Below w8.heap.size w8 w56:=hB54.grown hg6 hB54.size (fun k hk=>(hr54.own k hk).1)
          refine hK.out _ _ ?_ (fun hHeld=>?_)
          ·(try dsimp only);with_reducible first|exact hX2|exact hXb|exact hB54|exact hB56|exact hB57|exact hB12
          clear hK K
          try simp only[pT,Act.put]
          refine wpAnyH_ready (rs:=[7,11]) (by kernel_rfl) (by simp) ?_
          refine AllReadyH.cons rfl (fun K hK=>?_) (AllReadyH.cons rfl (fun K hK=>?_) AllReadyH.nil)
          ·skip
           go_simp
           refine(hpar _ hB56 _ _ _ (by have h:=hr56.rdY;rw[List.nil_append] at h;exact h)).mono ?_
           rintro e w57 ⟨p0,q0,r0,p1,q1,r1,E,rfl,HD,hb57⟩
           have hB57:=BTr hB56 hb57
           refine hK.out _ _ ?_ (fun hHeld=>?_)
           ·(try dsimp only);with_reducible first|exact hX2|exact hXb|exact hB54|exact hB56|exact hB57|exact hB12
           clear hK K
           try simp only[pT,Act.put]
           refine tK (i:=8) (v:=?vj5) rfl (fun _ _ _ h=>h) ⟨by rfl,?hyj5⟩ (by assumption) ?_
           case hyj5=>(intro W hSw;go_simp;first|done|with_reducible rfl)
           try simp only[pT,Act.put]
           refine tK (i:=9) (v:=?vj6) rfl (fun _ _ _ h=>h) ⟨by rfl,?hyj6⟩ (by assumption) ?_
           case hyj6=>(intro W hSw;go_simp;first|done|with_reducible rfl)
           try simp only[pT,Act.put]
           refine tK (i:=10) (v:=?vj7) rfl (fun _ _ _ h=>h) ⟨by rfl,?hyj7⟩ (by assumption) ?_
           case hyj7=>(intro W hSw;go_simp;first|done|with_reducible rfl)
           try simp only[pT,Act.put]
           refine wpAnyH_ready (rs:=[11]) (by kernel_rfl) (by simp) ?_
           refine AllReadyH.cons rfl (fun K hK=>?_) AllReadyH.nil
           go_simp
           obtain⟨Xb,HXb,hXb',xb0,_⟩:=D6g w57 (.cells #[.slice none 0 0,.slice none 0 0] 29)
           have hXb:Below w8.heap.size w8 Xb:=BTr hB57 hXb'
           have hnb:=hB57.size
           rw[←HXb.out]
           refine hK.out _ _ ?_ (fun hHeld=>?_)
           ·(try dsimp only);with_reducible first|exact hX2|exact hXb|exact hB54|exact hB56|exact hB57|exact hB12
           clear hK K
           try simp only[pT,Act.put]
           refine wpAnyH_ready (rs:=[12]) (by kernel_rfl) (by simp) ?_
           refine AllReadyH.cons rfl (fun K hK=>?_) AllReadyH.nil
           skip
           obtain⟨t0,t1⟩:=A0v xb0
           have tf:=A0b xb0
           have hB12:Below w8.heap.size w8 ((Xb.setCell ⟨w57.heap.size,0,none⟩ (.slice p0 q0 r0)).setCell ⟨w57.heap.size,1,none⟩ (.slice p1 q1 r1)):=A0d (A0d hXb hnb) hnb
           go_simp
           refine hK.out _ _ ?_ (fun hHeld=>?_)
           ·(try dsimp only);with_reducible first|exact hX2|exact hXb|exact hB54|exact hB56|exact hB57|exact hB12
           clear hK K
           try simp only[pT,Act.put]
           refine tK (i:=13) (v:=?vj8) rfl (fun _ _ _ h=>h) ⟨by rfl,?hyj8⟩ (by assumption) ?_
           case hyj8=>(intro W hSw;go_simp;first|done|with_reducible rfl)
           try simp only[pT,Act.put]
           refine wpAnyH_done (by kernel_rfl) ?_ _
           go_wp2_with fail
           go_meet
           exact⟨_,p0,q0,r0,p1,q1,r1,E,rfl,rfl,hnb,set2_at xb0,⟨_,HD.out.below (A0d (A0d hXb' (Nat.le_refl _)) (Nat.le_refl _))⟩,hB12⟩
          ·skip
           go_simp
           obtain⟨Xb,HXb,hXb',xb0,_⟩:=D6g w56 (.cells #[.slice none 0 0,.slice none 0 0] 29)
           have hXb:Below w8.heap.size w8 Xb:=BTr hB56 hXb'
           have hnb:=hB56.size
           rw[←HXb.out]
           have hr56b:=hr56.below hXb'
           refine hK.out _ _ ?_ (fun hHeld=>?_)
           ·(try dsimp only);with_reducible first|exact hX2|exact hXb|exact hB54|exact hB56|exact hB57|exact hB12
           clear hK K
           try simp only[pT,Act.put]
           refine wpAnyH_ready (rs:=[7]) (by kernel_rfl) (by simp) ?_
           refine AllReadyH.cons rfl (fun K hK=>?_) AllReadyH.nil
           go_simp
           refine(hpar _ hXb _ _ _ (by have h:=hr56b.rdY;rw[List.nil_append] at h;exact h)).mono ?_
           rintro e w57 ⟨p0,q0,r0,p1,q1,r1,E,rfl,HD,hb57⟩
           have hB57:=BTr hXb hb57
           have xb57:=(hb57.block _ (Array.getElem?_eq_some_iff.1 xb0).1).trans xb0
           refine hK.out _ _ ?_ (fun hHeld=>?_)
           ·(try dsimp only);with_reducible first|exact hX2|exact hXb|exact hB54|exact hB56|exact hB57|exact hB12
           clear hK K
           try simp only[pT,Act.put]
           refine tK (i:=8) (v:=?vj9) rfl (fun _ _ _ h=>h) ⟨by rfl,?hyj9⟩ (by assumption) ?_
           case hyj9=>(intro W hSw;go_simp;first|done|with_reducible rfl)
           try simp only[pT,Act.put]
           refine tK (i:=9) (v:=?vj10) rfl (fun _ _ _ h=>h) ⟨by rfl,?hyj10⟩ (by assumption) ?_
           case hyj10=>(intro W hSw;go_simp;first|done|with_reducible rfl)
           try simp only[pT,Act.put]
           refine tK (i:=10) (v:=?vj11) rfl (fun _ _ _ h=>h) ⟨by rfl,?hyj11⟩ (by assumption) ?_
           case hyj11=>(intro W hSw;go_simp;first|done|with_reducible rfl)
           try simp only[pT,Act.put]
           refine wpAnyH_ready (rs:=[12]) (by kernel_rfl) (by simp) ?_
           refine AllReadyH.cons rfl (fun K hK=>?_) AllReadyH.nil
           skip
           obtain⟨t0,t1⟩:=A0v xb57
           have tf:=A0b xb57
           have hB12:Below w8.heap.size w8 ((w57.setCell ⟨w56.heap.size,0,none⟩ (.slice p0 q0 r0)).setCell ⟨w56.heap.size,1,none⟩ (.slice p1 q1 r1)):=A0d (A0d hB57 hnb) hnb
           go_simp
           refine hK.out _ _ ?_ (fun hHeld=>?_)
           ·(try dsimp only);with_reducible first|exact hX2|exact hXb|exact hB54|exact hB56|exact hB57|exact hB12
           clear hK K
           try simp only[pT,Act.put]
           refine tK (i:=13) (v:=?vj12) rfl (fun _ _ _ h=>h) ⟨by rfl,?hyj12⟩ (by assumption) ?_
           case hyj12=>(intro W hSw;go_simp;first|done|with_reducible rfl)
           try simp only[pT,Act.put]
           refine wpAnyH_done (by kernel_rfl) ?_ _
           go_wp2_with fail
           go_meet
           exact⟨_,p0,q0,r0,p1,q1,r1,E,rfl,rfl,hnb,set2_at xb57,⟨_,HD.out.fr (fr2 xb57) (Nat.lt_of_lt_of_le (Array.getElem?_eq_some_iff.1 xb0).1 (Nat.le_refl _))⟩,hB12⟩
         ·skip
          go_simp
          obtain⟨Xb,HXb,hXb',xb0,_⟩:=D6g w54 (.cells #[.slice none 0 0,.slice none 0 0] 29)
          have hXb:Below w8.heap.size w8 Xb:=BTr hB54 hXb'
          have hnb:=hB54.size
          rw[←HXb.out]
          have hr54b:=hr54.below hXb'
          refine hK.out _ _ ?_ (fun hHeld=>?_)
          ·(try dsimp only);with_reducible first|exact hX2|exact hXb|exact hB54|exact hB56|exact hB57|exact hB12
          clear hK K
          try simp only[pT,Act.put]
          refine wpAnyH_ready (rs:=[6]) (by kernel_rfl) (by simp) ?_
          refine AllReadyH.cons rfl (fun K hK=>?_) AllReadyH.nil
          skip
          have hs6:=B3w (hsB _ hXb)
          refine A4c (by rfl) ekY _ _ (by rfl) w8.heap.size (.slice a54 n54 c54) ([]++la) C (by rfl) hr54b pa pn pc (by rfl) hs6.1 hs6.2.1 hs6.2.2 (by decide) (by show(([]++la).length+C.length)*1≤_;rw[List.nil_append,←Hk.out,←Hpn.out];omega) hXb.size ?_
          intro v6 w56 hr56 hg6
          obtain⟨a56,n56,c56,rfl,H56⟩:=hr56.shape'
          have hB56:Below w8.heap.size w8 w56:=hXb.grown hg6 hXb.size (fun k hk=>(hr54b.own k hk).1)
          have xb56:=(hg6.block _ (Array.getElem?_eq_some_iff.1 xb0).1 (fun h=>hr54b.ne_blk xb0 (by decide) h.symm)).trans xb0
          refine hK.out _ _ ?_ (fun hHeld=>?_)
          ·(try dsimp only);with_reducible first|exact hX2|exact hXb|exact hB54|exact hB56|exact hB57|exact hB12
          clear hK K
          try simp only[pT,Act.put]
          refine wpAnyH_ready (rs:=[7]) (by kernel_rfl) (by simp) ?_
          refine AllReadyH.cons rfl (fun K hK=>?_) AllReadyH.nil
          go_simp
          refine(hpar _ hB56 _ _ _ (by have h:=hr56.rdY;rw[List.nil_append] at h;exact h)).mono ?_
          rintro e w57 ⟨p0,q0,r0,p1,q1,r1,E,rfl,HD,hb57⟩
          have hB57:=BTr hB56 hb57
          have xb57:=(hb57.block _ (Array.getElem?_eq_some_iff.1 xb56).1).trans xb56
          refine hK.out _ _ ?_ (fun hHeld=>?_)
          ·(try dsimp only);with_reducible first|exact hX2|exact hXb|exact hB54|exact hB56|exact hB57|exact hB12
          clear hK K
          try simp only[pT,Act.put]
          refine tK (i:=8) (v:=?vj13) rfl (fun _ _ _ h=>h) ⟨by rfl,?hyj13⟩ (by assumption) ?_
          case hyj13=>(intro W hSw;go_simp;first|done|with_reducible rfl)
          try simp only[pT,Act.put]
          refine tK (i:=9) (v:=?vj14) rfl (fun _ _ _ h=>h) ⟨by rfl,?hyj14⟩ (by assumption) ?_
          case hyj14=>(intro W hSw;go_simp;first|done|with_reducible rfl)
          try simp only[pT,Act.put]
          refine tK (i:=10) (v:=?vj15) rfl (fun _ _ _ h=>h) ⟨by rfl,?hyj15⟩ (by assumption) ?_
          case hyj15=>(intro W hSw;go_simp;first|done|with_reducible rfl)
          try simp only[pT,Act.put]
          refine wpAnyH_ready (rs:=[12]) (by kernel_rfl) (by simp) ?_
          refine AllReadyH.cons rfl (fun K hK=>?_) AllReadyH.nil
          skip
          obtain⟨t0,t1⟩:=A0v xb57
          have tf:=A0b xb57
          have hB12:Below w8.heap.size w8 ((w57.setCell ⟨w54.heap.size,0,none⟩ (.slice p0 q0 r0)).setCell ⟨w54.heap.size,1,none⟩ (.slice p1 q1 r1)):=A0d (A0d hB57 hnb) hnb
          go_simp
          refine hK.out _ _ ?_ (fun hHeld=>?_)
          ·(try dsimp only);with_reducible first|exact hX2|exact hXb|exact hB54|exact hB56|exact hB57|exact hB12
          clear hK K
          try simp only[pT,Act.put]
          refine tK (i:=13) (v:=?vj16) rfl (fun _ _ _ h=>h) ⟨by rfl,?hyj16⟩ (by assumption) ?_
          case hyj16=>(intro W hSw;go_simp;first|done|with_reducible rfl)
          try simp only[pT,Act.put]
          refine wpAnyH_done (by kernel_rfl) ?_ _
          go_wp2_with fail
          go_meet
          exact⟨_,p0,q0,r0,p1,q1,r1,E,rfl,rfl,hnb,set2_at xb57,⟨_,HD.out.fr (fr2 xb57) (Nat.lt_of_lt_of_le (Array.getElem?_eq_some_iff.1 xb56).1 (Nat.le_refl _))⟩,hB12⟩
        ·skip
         go_simp
         obtain⟨Xb,HXb,hXb',xb0,_⟩:=D6g X2 (.cells #[.slice none 0 0,.slice none 0 0] 29)
         have hXb:Below w8.heap.size w8 Xb:=BTr hX2 hXb'
         have hnb:=hX2.size
         rw[←HXb.out]
         have hrXb:=hrX.below hXb'
         refine hK.out _ _ ?_ (fun hHeld=>?_)
         ·(try dsimp only);with_reducible first|exact hX2|exact hXb|exact hB54|exact hB56|exact hB57|exact hB12
         clear hK K
         try simp only[pT,Act.put]
         refine wpAnyH_ready (rs:=[4]) (by kernel_rfl) (by simp) ?_
         refine AllReadyH.cons rfl (fun K hK=>?_) AllReadyH.nil
         skip
         have hs4:=B3w (hsA _ hXb)
         refine A4c (by rfl) ekY _ _ (by rfl) w8.heap.size (.slice (some ⟨w8.heap.size,0,none⟩) 0 0) [] la (by rfl) hrXb ao k c (by rfl) hs4.1 hs4.2.1 hs4.2.2 (by decide) (by show(0+la.length)*1≤_;rw[←Hk.out];omega) hXb.size ?_
         intro v4 w54 hr54 hg4
         obtain⟨a54,n54,c54,rfl,H54⟩:=hr54.shape'
         have hB54:Below w8.heap.size w8 w54:=hXb.grown hg4 hXb.size (fun k hk=>(hrXb.own k hk).1)
         have xb54:=(hg4.block _ (Array.getElem?_eq_some_iff.1 xb0).1 (fun h=>hrXb.ne_blk xb0 (by decide) h.symm)).trans xb0
         refine hK.out _ _ ?_ (fun hHeld=>?_)
         ·(try dsimp only);with_reducible first|exact hX2|exact hXb|exact hB54|exact hB56|exact hB57|exact hB12
         clear hK K
         try simp only[pT,Act.put]
         refine wpAnyH_ready (rs:=[6]) (by kernel_rfl) (by simp) ?_
         refine AllReadyH.cons rfl (fun K hK=>?_) AllReadyH.nil
         skip
         have hs6:=B3w (hsB _ hB54)
         refine A4c (by rfl) ekY _ _ (by rfl) w8.heap.size (.slice a54 n54 c54) ([]++la) C (by rfl) hr54 pa pn pc (by rfl) hs6.1 hs6.2.1 hs6.2.2 (by decide) (by show(([]++la).length+C.length)*1≤_;rw[List.nil_append,←Hk.out,←Hpn.out];omega) hB54.size ?_
         intro v6 w56 hr56 hg6
         obtain⟨a56,n56,c56,rfl,H56⟩:=hr56.shape'
         have hB56:Below w8.heap.size w8 w56:=hB54.grown hg6 hB54.size (fun k hk=>(hr54.own k hk).1)
         have xb56:=(hg6.block _ (Array.getElem?_eq_some_iff.1 xb54).1 (fun h=>hr54.ne_blk xb54 (by decide) h.symm)).trans xb54
         refine hK.out _ _ ?_ (fun hHeld=>?_)
         ·(try dsimp only);with_reducible first|exact hX2|exact hXb|exact hB54|exact hB56|exact hB57|exact hB12
         clear hK K
         try simp only[pT,Act.put]
         refine wpAnyH_ready (rs:=[7]) (by kernel_rfl) (by simp) ?_
         refine AllReadyH.cons rfl (fun K hK=>?_) AllReadyH.nil
         go_simp
         refine(hpar _ hB56 _ _ _ (by have h:=hr56.rdY;rw[List.nil_append] at h;exact h)).mono ?_
         rintro e w57 ⟨p0,q0,r0,p1,q1,r1,E,rfl,HD,hb57⟩
         have hB57:=BTr hB56 hb57
         have xb57:=(hb57.block _ (Array.getElem?_eq_some_iff.1 xb56).1).trans xb56
         refine hK.out _ _ ?_ (fun hHeld=>?_)
         ·(try dsimp only);with_reducible first|exact hX2|exact hXb|exact hB54|exact hB56|exact hB57|exact hB12
         clear hK K
         try simp only[pT,Act.put]
         refine tK (i:=8) (v:=?vj17) rfl (fun _ _ _ h=>h) ⟨by rfl,?hyj17⟩ (by assumption) ?_
         case hyj17=>(intro W hSw;go_simp;first|done|with_reducible rfl)
         try simp only[pT,Act.put]
         refine tK (i:=9) (v:=?vj18) rfl (fun _ _ _ h=>h) ⟨by rfl,?hyj18⟩ (by assumption) ?_
         case hyj18=>(intro W hSw;go_simp;first|done|with_reducible rfl)
         try simp only[pT,Act.put]
         refine tK (i:=10) (v:=?vj19) rfl (fun _ _ _ h=>h) ⟨by rfl,?hyj19⟩ (by assumption) ?_
         case hyj19=>(intro W hSw;go_simp;first|done|with_reducible rfl)
         try simp only[pT,Act.put]
         refine wpAnyH_ready (rs:=[12]) (by kernel_rfl) (by simp) ?_
         refine AllReadyH.cons rfl (fun K hK=>?_) AllReadyH.nil
         skip
         obtain⟨t0,t1⟩:=A0v xb57
         have tf:=A0b xb57
         have hB12:Below w8.heap.size w8 ((w57.setCell ⟨X2.heap.size,0,none⟩ (.slice p0 q0 r0)).setCell ⟨X2.heap.size,1,none⟩ (.slice p1 q1 r1)):=A0d (A0d hB57 hnb) hnb
         go_simp
         refine hK.out _ _ ?_ (fun hHeld=>?_)
         ·(try dsimp only);with_reducible first|exact hX2|exact hXb|exact hB54|exact hB56|exact hB57|exact hB12
         clear hK K
         try simp only[pT,Act.put]
         refine tK (i:=13) (v:=?vj20) rfl (fun _ _ _ h=>h) ⟨by rfl,?hyj20⟩ (by assumption) ?_
         case hyj20=>(intro W hSw;go_simp;first|done|with_reducible rfl)
         try simp only[pT,Act.put]
         refine wpAnyH_done (by kernel_rfl) ?_ _
         go_wp2_with fail
         go_meet
         exact⟨_,p0,q0,r0,p1,q1,r1,E,rfl,rfl,hnb,set2_at xb57,⟨_,HD.out.fr (fr2 xb57) (Nat.lt_of_lt_of_le (Array.getElem?_eq_some_iff.1 xb56).1 (Nat.le_refl _))⟩,hB12⟩
       ·skip
        go_simp
        obtain⟨Xb,HXb,hXb',xb0,_⟩:=newBD w8 (.cells #[.slice none 0 0,.slice none 0 0] 29)
        have hXb:Below w8.heap.size w8 Xb:=BTr hR8 hXb'
        have hnb:=hR8.size
        rw[←HXb.out]
        refine hK.out _ _ ?_ (fun hHeld=>?_)
        ·(try dsimp only);with_reducible first|exact hX2|exact hXb|exact hB54|exact hB56|exact hB57|exact hB12
        clear hK K
        try simp only[pT,Act.put]
        refine wpAnyH_ready (rs:=[2]) (by kernel_rfl) (by simp) ?_
        refine AllReadyH.cons rfl (fun K hK=>?_) AllReadyH.nil
        go_simp
        obtain⟨X2,HX2,hX2',xX2,_⟩:=D6g Xb (.cells #[] 5)
        have hX2:Below w8.heap.size w8 X2:=BTr hXb hX2'
        have hrX:=Row.empD ekY (base:=w8.heap.size) hXb.size xX2
        rw[←HX2.out]
        have xbX2:=(hX2'.block _ (Array.getElem?_eq_some_iff.1 xb0).1).trans xb0
        refine hK.out _ _ ?_ (fun hHeld=>?_)
        ·(try dsimp only);with_reducible first|exact hX2|exact hXb|exact hB54|exact hB56|exact hB57|exact hB12
        clear hK K
        try simp only[pT,Act.put]
        refine wpAnyH_ready (rs:=[4]) (by kernel_rfl) (by simp) ?_
        refine AllReadyH.cons rfl (fun K hK=>?_) AllReadyH.nil
        skip
        have hs4:=B3w (hsA _ hX2)
        refine A4c (by rfl) ekY _ _ (by rfl) w8.heap.size (.slice (some ⟨Xb.heap.size,0,none⟩) 0 0) [] la (by rfl) hrX ao k c (by rfl) hs4.1 hs4.2.1 hs4.2.2 (by decide) (by show(0+la.length)*1≤_;rw[←Hk.out];omega) hX2.size ?_
        intro v4 w54 hr54 hg4
        obtain⟨a54,n54,c54,rfl,H54⟩:=hr54.shape'
        have hB54:Below w8.heap.size w8 w54:=hX2.grown hg4 hX2.size (fun k hk=>(hrX.own k hk).1)
        have xb54:=(hg4.block _ (Array.getElem?_eq_some_iff.1 xbX2).1 (fun h=>hrX.ne_blk xbX2 (by decide) h.symm)).trans xbX2
        refine hK.out _ _ ?_ (fun hHeld=>?_)
        ·(try dsimp only);with_reducible first|exact hX2|exact hXb|exact hB54|exact hB56|exact hB57|exact hB12
        clear hK K
        try simp only[pT,Act.put]
        refine wpAnyH_ready (rs:=[6]) (by kernel_rfl) (by simp) ?_
        refine AllReadyH.cons rfl (fun K hK=>?_) AllReadyH.nil
        skip
        have hs6:=B3w (hsB _ hB54)
        refine A4c (by rfl) ekY _ _ (by rfl) w8.heap.size (.slice a54 n54 c54) ([]++la) C (by rfl) hr54 pa pn pc (by rfl) hs6.1 hs6.2.1 hs6.2.2 (by decide) (by show(([]++la).length+C.length)*1≤_;rw[List.nil_append,←Hk.out,←Hpn.out];omega) hB54.size ?_
        intro v6 w56 hr56 hg6
        obtain⟨a56,n56,c56,rfl,H56⟩:=hr56.shape'
        have hB56:Below w8.heap.size w8 w56:=hB54.grown hg6 hB54.size (fun k hk=>(hr54.own k hk).1)
        have xb56:=(hg6.block _ (Array.getElem?_eq_some_iff.1 xb54).1 (fun h=>hr54.ne_blk xb54 (by decide) h.symm)).trans xb54
        refine hK.out _ _ ?_ (fun hHeld=>?_)
        ·(try dsimp only);with_reducible first|exact hX2|exact hXb|exact hB54|exact hB56|exact hB57|exact hB12
        clear hK K
        try simp only[pT,Act.put]
        refine wpAnyH_ready (rs:=[7]) (by kernel_rfl) (by simp) ?_
        refine AllReadyH.cons rfl (fun K hK=>?_) AllReadyH.nil
        go_simp
        refine(hpar _ hB56 _ _ _ (by have h:=hr56.rdY;rw[List.nil_append] at h;exact h)).mono ?_
        rintro e w57 ⟨p0,q0,r0,p1,q1,r1,E,rfl,HD,hb57⟩
        have hB57:=BTr hB56 hb57
        have xb57:=(hb57.block _ (Array.getElem?_eq_some_iff.1 xb56).1).trans xb56
        refine hK.out _ _ ?_ (fun hHeld=>?_)
        ·(try dsimp only);with_reducible first|exact hX2|exact hXb|exact hB54|exact hB56|exact hB57|exact hB12
        clear hK K
        try simp only[pT,Act.put]
        refine tK (i:=8) (v:=?vj21) rfl (fun _ _ _ h=>h) ⟨by rfl,?hyj21⟩ (by assumption) ?_
        case hyj21=>(intro W hSw;go_simp;first|done|with_reducible rfl)
        try simp only[pT,Act.put]
        refine tK (i:=9) (v:=?vj22) rfl (fun _ _ _ h=>h) ⟨by rfl,?hyj22⟩ (by assumption) ?_
        case hyj22=>(intro W hSw;go_simp;first|done|with_reducible rfl)
        try simp only[pT,Act.put]
        refine tK (i:=10) (v:=?vj23) rfl (fun _ _ _ h=>h) ⟨by rfl,?hyj23⟩ (by assumption) ?_
        case hyj23=>(intro W hSw;go_simp;first|done|with_reducible rfl)
        try simp only[pT,Act.put]
        refine wpAnyH_ready (rs:=[12]) (by kernel_rfl) (by simp) ?_
        refine AllReadyH.cons rfl (fun K hK=>?_) AllReadyH.nil
        skip
        obtain⟨t0,t1⟩:=A0v xb57
        have tf:=A0b xb57
        have hB12:Below w8.heap.size w8 ((w57.setCell ⟨w8.heap.size,0,none⟩ (.slice p0 q0 r0)).setCell ⟨w8.heap.size,1,none⟩ (.slice p1 q1 r1)):=A0d (A0d hB57 hnb) hnb
        go_simp
        refine hK.out _ _ ?_ (fun hHeld=>?_)
        ·(try dsimp only);with_reducible first|exact hX2|exact hXb|exact hB54|exact hB56|exact hB57|exact hB12
        clear hK K
        try simp only[pT,Act.put]
        refine tK (i:=13) (v:=?vj24) rfl (fun _ _ _ h=>h) ⟨by rfl,?hyj24⟩ (by assumption) ?_
        case hyj24=>(intro W hSw;go_simp;first|done|with_reducible rfl)
        try simp only[pT,Act.put]
        refine wpAnyH_done (by kernel_rfl) ?_ _
        go_wp2_with fail
        go_meet
        exact⟨_,p0,q0,r0,p1,q1,r1,E,rfl,rfl,hnb,set2_at xb57,⟨_,HD.out.fr (fr2 xb57) (Nat.lt_of_lt_of_le (Array.getElem?_eq_some_iff.1 xb56).1 (Nat.le_refl _))⟩,hB12⟩
      case rest=>
       obtain⟨nb,p0,q0,r0,p1,q1,r1,E8,rfl,rfl,hnb,xnb,HD,hbc⟩:=hcut
       have hbwc:Below w.heap.size w wc:=BTr hbw8 hbc
       have hb8c:Below W1.heap.size W1 wc:=BTr hb18 hbc
       have hb4c:Below W4.heap.size W4 wc:=BTr hb46 (BTr hb67 (BTr hb8 hbc))
       have hb6c:Below W6.heap.size W6 wc:=BTr hb67 (BTr hb8 hbc)
       obtain⟨y0,y1⟩:=A0v ((hb8c.block _ (by omega)).trans x1)
       obtain⟨y2,y3⟩:=A0v ((hb4c.block _ (by omega)).trans x4)
       obtain⟨y4,y5⟩:=A0v ((hb6c.block _ (by omega)).trans x6)
       have hjn:Calls Tryz.prog 20 #[.agg #[.slice am nm cm,.slice ae ne ce],.int .i64 msg,.agg #[.slice i0 j0 l0,.slice i1 j1 l1],.agg #[.slice i2 j2 l2,.slice i3 j3 l3]] wc fun e w'=>∃ (e0:Option Addr) (f0 g0:Nat) (e1:Option Addr) (f1 g1:Nat),e = .returned (.tuple #[.agg #[.slice e0 f0 g0,.slice e1 f1 g1],.int .i64 E8])∧Hid (∃ (d:Nat) (b:BO (BI d)),BRd d wc (.slice p0 q0 r0) (.slice p1 q1 r1) b∧BRd d w' (.slice e0 f0 g0) (.slice e1 f1 g1) b)∧Below wc.heap.size wc w':=by
        refine(B9r (HI.out.below hbwc) (HX.out.below (BTr hb34 hb4c)) HOX.out.1 (HY.out.below (BTr hb56 hb6c)) HOX.out.2.1 HOX.out.2.2).mono ?_
        rintro e w' ⟨hb,hj⟩
        obtain⟨B,hD⟩:=HD.out
        rcases HP2.out with⟨hz,M,hM,hPe⟩|⟨hz,hPe⟩
        ·rw[hPe] at hD
         have hE:=hD.1
         subst hE
         rcases hj with⟨hj1,_⟩|⟨_,M',e0,f0,g0,e1,f1,g1,_,_,hM',_,rfl,c',hc1,hc2,hc3⟩
         ·exact absurd hz hj1
         ·obtain rfl:M=M':=by rw[hM] at hM';exact Option.some.inj hM'
          exact⟨e0,f0,g0,e1,f1,g1,rfl,⟨11,_,hD.rd,B5z hc1 hc2 hc3⟩,hb⟩
        ·rw[hPe] at hD
         obtain⟨_,rfl,rfl,rfl,rfl,rfl,rfl,rfl⟩:=hD
         rcases hj with⟨_,rfl⟩|⟨hj1,_⟩
         ·exact⟨none,0,0,none,0,0,by rw[hz],⟨0,⟨[],[]⟩,A7e,A7e⟩,hb⟩
         ·rw[hj1] at hz
          cases hz
       go_wp2_with fail
       refine hjn.mono ?_
       rintro e w9 ⟨e0',f0,g0,e1',f1,g1,rfl,HJ,hb9⟩
       obtain⟨W10,HW10,hb910,x10,z10⟩:=D6g w9 (.cells #[.slice e0' f0 g0,.slice e1' f1 g1] 29)
       have hbc10:Below wc.heap.size wc W10:=BTr hb9 hb910
       obtain⟨dd,bb,hq1,hq2⟩:=HJ.out
       have hsm:=A5g (hq1.below hbc10) (hq2.below hb910)
       have eE:(E8 == E8)=true:=beq_self_eq_true E8
       clear y0 y1 y2 y3 y4 y5 hjn hq1 hq2
       obtain⟨y2,y3⟩:=A0v ((hbc10.block _ (Array.getElem?_eq_some_iff.1 xnb).1).trans xnb)
       obtain⟨y4,y5⟩:=A0v x10
       rw[HW10.out] at y2 y3 y4 y5
       go_wp2_with fail
       rw[←HW10.out]
       refine hsm.mono ?_
       rintro e w11 ⟨rfl,hb11⟩
       go_wp2
       go_ret
       exact⟨rfl,BTr (BTr hbwc hbc10) hb11⟩
     ·have el:decide ((4000:Int) < IntKind.i64.wrap ((k:Int)+(pn:Int)))=true:=by rw[IntKind.wrap_i64,decide_eq_true_eq];omega
      have el2:IntKind.i64.wrap ((k:Int)+(pn:Int))=(k:Int)+(pn:Int):=by rw[IntKind.wrap_i64];omega
      have el3:(4000:Int) < (k:Int)+(pn:Int):=by omega
      go_wp2
      go_ret
      exact⟨rfl,hbw8⟩
   ·have e1:(E1 != 0)=false:=by simp[h1]
    have e2:(E2 != 0)=false:=by simp[h2]
    have e3:(E3 != 0)=true:=by simpa using h3
    clear h1 h2 h3
    go_wp2
    go_ret
    exact⟨rfl,hbw7⟩
  ·have e1:(E1 != 0)=false:=by simp[h1]
   have e2:(E2 != 0)=true:=by simpa using h2
   clear h1 h2
   go_wp2
   go_ret
   exact⟨rfl,hbw7⟩
 ·have e1:(E1 != 0)=true:=by simpa using h1
  clear h1
  go_wp2
  go_ret
  exact⟨rfl,hbw7⟩
end L
end Go.Proofs.YtcagbdokbnpdfaaGreatDoor
