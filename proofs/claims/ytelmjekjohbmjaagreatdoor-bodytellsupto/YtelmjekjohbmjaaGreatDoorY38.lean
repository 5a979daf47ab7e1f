import Derived.Test.YtelmjekjohbmjaaGreatDoorY36
import Derived.Test.YtelmjekjohbmjaaGreatDoorY37
import Derived.Test.YtelmjekjohbmjaaGreatDoorY27
import Derived.Test.YtelmjekjohbmjaaGreatDoorY19
import Derived.Test.YtelmjekjohbmjaaGreatDoorY34
import Derived.BigQuiet
import Derived.Deep.QuietTactic
import Derived.Deep.LoopGhost
import Derived.Deep.CutRange
import Derived.Deep.DeepCutAuto
namespace Go.Proofs.YtelmjekjohbmjaaGreatDoor
namespace L
open Go.RowKit
set_option linter.unusedVariables false
def wvE {β:Type}(x:FI) (v:VI β) (f:List UInt8→β→Int):Int:=
 if A1d x v then 8 else if A2z x v then 5 else if A0u x v then 2
 else if A0g (A1c x.kind) v.bits≠0 then A0g (A1c x.kind) v.bits
 else if A0g (A1e x.kind) v.bytes≠0 then A0g (A1e x.kind) v.bytes
 else A0g (f x.type) v.subs
def A3d (g:GI) (W0:World) (vm ve:Value) (d:Nat):Prop:=∀ (w:World) (k:Int) (j:Nat) (m:MI) (v0 v1:Value) (x:BI d),Below W0.heap.size W0 w→0≤k→k≤100→g.msgs[j]?=some m→BQ d w v0 v1 x→BOk d x→
 Calls Tryz.prog 27 #[.agg #[vm,ve],.int .i64 (j:Int),.agg #[v0,v1],.int .i64 k] w fun r w'=>r = .returned (.int .i64 (A2o g d k m.fields x))∧Below w.heap.size w w'
set_option maxHeartbeats 8000000 in
set_option maxRecDepth 100000 in
theorem A8p {g:GI}{d:Nat}{W0 w:World}{am:Option Addr}{nm cm:Nat}{ae:Option Addr}{ne ce:Nat}(hg:GRd W0 (.slice am nm cm) (.slice ae ne ce) g) (ih:A3d g W0 (.slice am nm cm) (.slice ae ne ce) d) (h0:Below W0.heap.size W0 w){bx ox:Nat}{x:FI}(hx:FAt W0 ⟨bx,ox,none⟩ x) (hsub:x.kind=10→∃ m',g.msgs.find? (fun m=>decide (m.name=x.type))=some m') (v:VI (BI d)) (hv:VOk (BOk d) v){a1 a2 a3:Option Addr}{n1 n2 n3 c1 c2 c3:Nat}(r1:RdL 1 UAt w (.slice a1 n1 c1) v.bits) (r2:RdL 1 ZAt w (.slice a2 n2 c2) v.bytes) (r3:RdL 2 (BAt d) w (.slice a3 n3 c3) v.subs) (k:Int) (hk0:0≤k) (hk1:k≤99) :
  Calls Tryz.prog 18 #[.agg #[.slice am nm cm,.slice ae ne ce],.pointer (some ⟨bx,ox,none⟩),.agg #[.int .i64 v.number,.slice a1 n1 c1,.slice a2 n2 c2,.slice a3 n3 c3],.int .i64 k] w fun e w'=>e = .returned (.int .i64 (wvE x v fun name s=>A2o g d (k+1) (A1h g name) s))∧Below w.heap.size w w':=by
 obtain⟨W2,HW2⟩:∃ W2,Hid (W2=(w.alloc (.cells #[.slice am nm cm,.slice ae ne ce] 25)).alloc (.cells #[.int .i64 v.number,.slice a1 n1 c1,.slice a2 n2 c2,.slice a3 n3 c3] 34)):=⟨_,rfl⟩
 have hb2:Below w.heap.size w W2:=by rw[HW2.out];exact((Below.refl _ _).alloc (Nat.le_refl _) _).alloc (by simp) _
 have x0:W2.heap[w.heap.size]?=some (.cells #[.slice am nm cm,.slice ae ne ce] 25 (0,0)):=by rw[HW2.out];exact A0r _ _ _
 have x1:W2.heap[w.heap.size+1]?=some (.cells #[.int .i64 v.number,.slice a1 n1 c1,.slice a2 n2 c2,.slice a3 n3 c3] 34 (0,0)):=by rw[HW2.out];exact A0o _ _ _
 have hz2:=(Array.getElem?_eq_some_iff.1 x1).1
 have h02:Below W0.heap.size W0 W2:=h0.trans (hb2.mono h0.size)
 have l1:n1=v.bits.length:=r1.len.1
 have l2:n2=v.bytes.length:=r2.len.1
 have l3:n3=v.subs.length:=r3.len.1
 have L1:Hid (n1=v.bits.length):=l1
 have L2:Hid (n2=v.bytes.length):=l2
 have L3:Hid (n3=v.subs.length):=l3
 have hcl:∀ V,Below W2.heap.size W2 V→(V.cell? ⟨w.heap.size,0,none⟩=some (.slice am nm cm)∧V.cell? ⟨w.heap.size,1,none⟩=some (.slice ae ne ce))∧(V.cell? ⟨w.heap.size+1,0,none⟩=some (.int .i64 v.number)∧V.cell? ⟨w.heap.size+1,1,none⟩=some (.slice a1 n1 c1)∧V.cell? ⟨w.heap.size+1,2,none⟩=some (.slice a2 n2 c2)∧V.cell? ⟨w.heap.size+1,3,none⟩=some (.slice a3 n3 c3))∧V.cell? ⟨bx,ox+2,none⟩=some (.int .i64 x.kind)∧V.cell? ⟨bx,ox+3,none⟩=some (.string (S x.type))∧V.cell? ⟨bx,ox+4,none⟩=some (.bool x.many):=fun V hV=>by
  obtain⟨_,_,y2,y3,y4,_⟩:=FAt.stays _ _ _ _ (h02.trans (hV.mono h02.size)) hx
  rw[A0j] at y2 y3 y4
  refine⟨A0x ((hV.block _ (by omega)).trans x0),?_,y2,y3,y4⟩
  have hh:=(hV.block _ (by omega)).trans x1
  exact⟨A0a hh 0 _ rfl,A0a hh 1 _ rfl,A0a hh 2 _ rfl,A0a hh 3 _ rfl⟩
 have hbn:n1≤35184372088831∧n2≤35184372088831∧n3≤35184372088831:=by
  obtain⟨_,_,q1,_,q2,_,q3⟩:=hv
  unfold reachBytes at q1 q2 q3
  omega
 obtain⟨hbn1,hbn2,hbn3⟩:=hbn
 obtain⟨R,HR⟩:∃ R,Hid (R=wvE x v fun name s=>A2o g d (k+1) (A1h g name) s):=⟨_,rfl⟩
 rw[←HR.out]
 have HR1:Hid (RdL 1 UAt w (.slice a1 n1 c1) v.bits):=r1
 have HR2:Hid (RdL 1 ZAt w (.slice a2 n2 c2) v.bytes):=r2
 have HR3:Hid (RdL 2 (BAt d) w (.slice a3 n3 c3) v.subs):=r3
 have HV:Hid (VOk (BOk d) v):=hv
 have HG:Hid (GRd W0 (.slice am nm cm) (.slice ae ne ce) g):=hg
 have HIH:Hid (A3d g W0 (.slice am nm cm) (.slice ae ne ce) d):=ih
 have HX:Hid (FAt W0 ⟨bx,ox,none⟩ x):=hx
 have HSub:Hid (x.kind=10→∃ m',g.msgs.find? (fun m=>decide (m.name=x.type))=some m'):=hsub
 have hD:∀ q,Below W2.heap.size W2 (W2.drewN q):=fun q=>⟨rfl,rfl,rfl,Nat.le_refl _,fun _ _=>rfl⟩
 have hDD:∀ q r,Below W2.heap.size W2 ((W2.drewN q).drewN r):=fun q r=>⟨rfl,rfl,rfl,Nat.le_refl _,fun _ _=>rfl⟩
 obtain⟨wB,HwB⟩:∃ wB,Hid (A1s x v=wB):=⟨_,rfl⟩
 have hem:∀ V,Below W2.heap.size W2 V→Calls Tryz.prog 40 #[.pointer (some ⟨bx,ox,none⟩),.agg #[.int .i64 v.number,.slice a1 n1 c1,.slice a2 n2 c2,.slice a3 n3 c3]] V fun e w'=>e = .returned (.bool wB)∧Below W2.heap.size W2 w':=fun V hV=>(A8n (P:=BAt d) (FAt.stays _ _ _ _ (h02.trans (hV.mono h02.size)) HX.out) v (HR1.out.below UAt.stays (BTr hb2 hV)) (HR2.out.below ZAt.stays (BTr hb2 hV))).mono fun e w' ⟨h1,h2⟩=>⟨by rw[h1,HwB.out],BTr hV h2⟩
 obtain⟨⟨p0,p1⟩,⟨p2,p3,p4,p5⟩,p6,p7,p8⟩:=hcl W2 (Below.refl _ _)
 clear l1 l2 l3 r1 r2 r3 hv hg ih hx hsub
 obtain⟨kT,HkT⟩:∃ kT,Hid (decide (x.kind=8∨x.kind=9)=kT):=⟨_,rfl⟩
 obtain⟨kS,HkS⟩:∃ kS,Hid (decide (x.kind=10)=kS):=⟨_,rfl⟩
 obtain⟨nT,oT,HnT⟩:∃ nT oT:Nat,Hid ((kT=true→nT=n2∧oT=n1+n3)∧(kT=false→nT=n1∧oT=n2+n3)):=by
  cases kT with
  | true=>exact⟨n2,n1+n3,fun _=>⟨rfl,rfl⟩,fun h=>by cases h⟩
  | false=>exact⟨n1,n2+n3,(fun h=>by cases h),fun _=>⟨rfl,rfl⟩⟩
 obtain⟨nn,oo,Hnn⟩:∃ nn oo:Nat,Hid ((kS=true→nn=n3∧oo=n1+n2)∧(kS=false→nn=nT∧oo=oT)):=by
  cases kS with
  | true=>exact⟨n3,n1+n2,fun _=>⟨rfl,rfl⟩,fun h=>by cases h⟩
  | false=>exact⟨nT,oT,(fun h=>by cases h),fun _=>⟨rfl,rfl⟩⟩
 have HOo:Hid (A1d x v=decide (0 < oo)):=by
  show _=_
  unfold A1d
  have h1:=HkT.out
  have h2:=HkS.out
  have h3:=HnT.out
  have h4:=Hnn.out
  rw[←L1.out,←L2.out,←L3.out]
  by_cases c1:x.kind=8∨x.kind=9
  ·rw[decide_eq_true c1] at h1
   rw[decide_eq_false (by omega)] at h2
   rw[if_pos c1,(h4.2 h2.symm).2,(h3.1 h1.symm).2]
  ·rw[decide_eq_false c1] at h1
   rw[if_neg c1]
   by_cases c2:x.kind=10
   ·rw[decide_eq_true c2] at h2
    rw[if_pos c2,(h4.1 h2.symm).2]
   ·rw[decide_eq_false c2] at h2
    rw[if_neg c2,(h4.2 h2.symm).2,(h3.2 h1.symm).2]
 have HM:Hid (oo=0→A4j v=nn):=fun hz=>by
  have h3:=HnT.out
  have h4:=Hnn.out
  unfold A4j
  rw[←L1.out,←L2.out,←L3.out]
  cases hs:kS with
  | true=>obtain⟨e1,e2⟩:=h4.1 hs;omega
  | false=>
   obtain⟨e1,e2⟩:=h4.2 hs
   cases ht:kT with
   | true=>obtain⟨e3,e4⟩:=h3.1 ht;omega
   | false=>obtain⟨e3,e4⟩:=h3.2 ht;omega
 have hbo:nn≤70368744177662∧oo≤70368744177662∧nT≤70368744177662∧oT≤70368744177662:=by
  have h3:=HnT.out
  have h4:=Hnn.out
  cases hs:kS <;> cases ht:kT <;> simp only[hs,ht,true_implies,false_implies,Bool.false_eq_true,Bool.true_eq_false] at h3 h4 <;> omega
 obtain⟨hbo1,hbo2,hbo3,hbo4⟩:=hbo
 go_enter Tryz.func18,Tryz.ntmps18
 go_wp2_with fail
 rw[←HW2.out]
 go_cut [9,10] from 19 to 28 (fun s9 s10 wc=>s9 = .int .i64 (n1:Int)∧s10 = .int .i64 ((n2:Int)+(n3:Int))∧Below W2.heap.size W2 wc)
 case first=>
  go_quiet (fail)
  all_goals
   go_wp2_with fail
   go_meet
   exact⟨rfl,rfl,hD _⟩
 case rest=>
  obtain⟨rfl,rfl,hb3⟩:=hcut
  clear p0 p1 p2 p3 p4 p5 p6 p7 p8
  obtain⟨⟨p0,p1⟩,⟨p2,p3,p4,p5⟩,p6,p7,p8⟩:=hcl wc hb3
  obtain⟨wo,Hwo⟩:∃ wo,wo=wc:=⟨_,rfl⟩
  subst Hwo
  go_upto_region 2 with fail
  go_cut [40] from 29 to 39 (fun s40 wc=>s40 = .bool kT∧wo=wc)
  case first=>
   have hkt:=HkT.out
   by_cases c8:x.kind=8
   ·have e8:(x.kind == 8)=true:=beq_iff_eq.2 c8
    rw[decide_eq_true (.inl c8)] at hkt
    subst hkt
    clear c8
    go_wp2_with fail
    go_meet
    exact⟨rfl,rfl⟩
   ·have e8:(x.kind == 8)=false:=beq_eq_false_iff_ne.2 c8
    by_cases c9:x.kind=9
    ·have e9:(x.kind == 9)=true:=beq_iff_eq.2 c9
     rw[decide_eq_true (.inr c9)] at hkt
     subst hkt
     clear c8 c9
     go_wp2_with fail
     go_meet
     exact⟨rfl,rfl⟩
    ·have e9:(x.kind == 9)=false:=beq_eq_false_iff_ne.2 c9
     rw[decide_eq_false (by omega)] at hkt
     subst hkt
     clear c8 c9
     go_wp2_with fail
     go_meet
     exact⟨rfl,rfl⟩
  case rest=>
   obtain⟨rfl,rfl⟩:=hcut
   go_upto_if 40 with fail
   go_cut [9,10] from 41 to 50 (fun s9 s10 wc=>s9 = .int .i64 (nT:Int)∧s10 = .int .i64 (oT:Int)∧Below W2.heap.size W2 wc)
   case first=>
    have h3:=HnT.out
    cases kT with
    | true=>
     obtain⟨e3,e4⟩:=h3.1 rfl
     have HH:Hid ((nT:Int)=n2∧(oT:Int)=(n1:Int)+(n3:Int)):=⟨by omega,by omega⟩
     clear h3 e3 e4
     go_wp2_with fail
     go_quiet (fail)
     all_goals
      go_wp2_with fail
      go_meet
      exact⟨by rw[HH.out.1],by rw[HH.out.2],hb3.trans ⟨rfl,rfl,rfl,Nat.le_refl _,fun _ _=>rfl⟩⟩
    | false=>
     obtain⟨e3,e4⟩:=h3.2 rfl
     have HH:Hid ((nT:Int)=n1∧(oT:Int)=(n2:Int)+(n3:Int)):=⟨by omega,by omega⟩
     clear h3 e3 e4
     go_wp2_with fail
     go_meet
     exact⟨by rw[HH.out.1],by rw[HH.out.2],hb3⟩
   case rest=>
    obtain⟨rfl,rfl,hb4⟩:=hcut
    clear p0 p1 p2 p3 p4 p5 p6 p7 p8
    obtain⟨⟨p0,p1⟩,⟨p2,p3,p4,p5⟩,p6,p7,p8⟩:=hcl wc hb4
    obtain⟨wo2,Hwo⟩:∃ wo2,wo2=wc:=⟨_,rfl⟩
    subst Hwo
    go_upto_if 55 with fail
    obtain⟨N,HN⟩:∃ N:Int,Hid (N=(nn:Int)):=⟨_,rfl⟩
    obtain⟨O,HO⟩:∃ O:Int,Hid (O=(oo:Int)):=⟨_,rfl⟩
    go_cut [9,10] from 56 to 65 (fun s9 s10 wc=>s9 = .int .i64 N∧s10 = .int .i64 O∧Below W2.heap.size W2 wc)
    case first=>
     have h4:=Hnn.out
     have hks:=HkS.out
     by_cases c10:x.kind=10
     ·have e10:(x.kind == 10)=true:=beq_iff_eq.2 c10
      rw[decide_eq_true c10] at hks
      obtain⟨e3,e4⟩:=h4.1 hks.symm
      have HH:Hid (N=n3∧O=(n1:Int)+(n2:Int)):=⟨by rw[HN.out];omega,by rw[HO.out];omega⟩
      clear h4 e3 e4 c10 hks
      go_wp2_with fail
      go_quiet (fail)
      all_goals
       go_wp2_with fail
       go_meet
       exact⟨by rw[HH.out.1],by rw[HH.out.2],hb4.trans ⟨rfl,rfl,rfl,Nat.le_refl _,fun _ _=>rfl⟩⟩
     ·have e10:(x.kind == 10)=false:=beq_eq_false_iff_ne.2 c10
      rw[decide_eq_false c10] at hks
      obtain⟨e3,e4⟩:=h4.2 hks.symm
      have HH:Hid (N=nT∧O=oT):=⟨by rw[HN.out];omega,by rw[HO.out];omega⟩
      clear h4 e3 e4 c10 hks
      go_wp2_with fail
      go_meet
      exact⟨by rw[HH.out.1],by rw[HH.out.2],hb4⟩
    case rest=>
     obtain⟨rfl,rfl,hb5⟩:=hcut
     clear p0 p1 p2 p3 p4 p5 p6 p7 p8
     obtain⟨⟨p0,p1⟩,⟨p2,p3,p4,p5⟩,p6,p7,p8⟩:=hcl wc hb5
     obtain⟨wo3,Hwo⟩:∃ wo3,wo3=wc:=⟨_,rfl⟩
     subst Hwo
     by_cases q0:0 < oo
     ·have f0:decide (0 < O)=true:=by rw[HO.out];simp;omega
      have HF:Hid (R=8):=by
       show _=_
       rw[HR.out]
       unfold wvE
       rw[HOo.out,decide_eq_true q0]
       rfl
      clear q0
      go_wp2_with fail
      go_ret
      exact⟨by rw[HF.out];rfl,BTr hb2 hb5⟩
     have f0:decide (0 < O)=false:=by rw[HO.out];simp;omega
     have HO0:Hid (A1d x v=false):=HOo.out.trans (decide_eq_false q0)
     have HMn:Hid (A4j v=nn):=HM.out (by omega)
     clear q0
     obtain⟨mB,HmB⟩:∃ mB,Hid (A2z x v=mB):=⟨_,rfl⟩
     have HMisc:Hid (A2z x v=(decide (nn < 1)||(decide (60 < nn)||(decide (1 < nn)&&!x.many)))):=by
      show _=_
      unfold A2z
      rw[HMn.out]
     go_upto_region 8 with fail
     go_cut [84] from 69 to 83 (fun s84 wc=>s84 = .bool mB∧wo3=wc)
     case first=>
      have hm:=HMisc.out
      rw[HmB.out] at hm
      by_cases q1:nn=0
      ·have f1:(N == 0)=true:=by rw[HN.out];simp;omega
       rw[decide_eq_true (by omega:nn < 1),Bool.true_or] at hm
       subst hm
       clear q1
       go_wp2_with fail
       go_meet
       exact⟨rfl,rfl⟩
      have f1:(N == 0)=false:=by rw[HN.out];simp;omega
      rw[decide_eq_false (by omega:¬ nn < 1),Bool.false_or] at hm
      by_cases q2:60 < nn
      ·have f2:decide (60 < N)=true:=by rw[HN.out];simp;omega
       rw[decide_eq_true q2,Bool.true_or] at hm
       subst hm
       clear q1 q2
       go_wp2_with fail
       go_meet
       exact⟨rfl,rfl⟩
      have f2:decide (60 < N)=false:=by rw[HN.out];simp;omega
      rw[decide_eq_false q2,Bool.false_or] at hm
      by_cases q3:1 < nn
      ·have f3:decide (1 < N)=true:=by rw[HN.out];simp;omega
       rw[decide_eq_true q3,Bool.true_and] at hm
       subst hm
       clear q1 q2 q3
       go_wp2_with fail
       go_meet
       exact⟨rfl,rfl⟩
      have f3:decide (1 < N)=false:=by rw[HN.out];simp;omega
      rw[decide_eq_false q3,Bool.false_and] at hm
      subst hm
      clear q1 q2 q3
      go_wp2_with fail
      go_meet
      exact⟨rfl,rfl⟩
     case rest=>
      obtain⟨rfl,rfl⟩:=hcut
      cases mB with
      | true=>
       have HF:Hid (R=5):=by
        show _=_
        rw[HR.out]
        unfold wvE
        rw[HO0.out,HmB.out]
        rfl
       go_wp2_with fail
       go_ret
       exact⟨by rw[HF.out];rfl,BTr hb2 hb5⟩
      | false=>
       have HEm:Hid (A0u x v=wB):=by
        show _=_
        rw[←HwB.out]
        refine(A4a fun hmm=>?_).symm
        have h2:=HMisc.out
        rw[HmB.out,hmm] at h2
        simp only[Bool.not_false,Bool.and_true,Bool.false_eq,Bool.or_eq_false_iff,decide_eq_false_iff_not] at h2
        rw[HMn.out]
        omega
       go_wp2_with fail
       refine(hem _ hb5).mono ?_
       rintro e V3 ⟨rfl,hb3'⟩
       clear p0 p1 p2 p3 p4 p5 p6 p7 p8
       cases wB with
       | true=>
        have HF:Hid (R=2):=by
         show _=_
         rw[HR.out]
         unfold wvE
         rw[HO0.out,HmB.out,HEm.out]
         rfl
        go_wp2
        go_ret
        exact⟨by rw[HF.out];rfl,BTr hb2 hb3'⟩
       | false=>
        have HF:Hid (R=if A0g (A1c x.kind) v.bits≠0 then A0g (A1c x.kind) v.bits else if A0g (A1e x.kind) v.bytes≠0 then A0g (A1e x.kind) v.bytes else A0g (fun s=>A2o g d (k+1) (A1h g x.type) s) v.subs):=by
         show _=_
         rw[HR.out]
         unfold wvE
         rw[HO0.out,HmB.out,HEm.out]
         rfl
        obtain⟨⟨p0,p1⟩,⟨p2,p3,p4,p5⟩,p6,p7,p8⟩:=hcl V3 hb3'
        go_wp2_with fail
        go_loopg [91] n1 (fun gm i wr=>∃ q:Nat,q+gm=n1∧i = .int .i64 (q:Int)∧Hid (A0g (A1c x.kind) v.bits=A0g (A1c x.kind) (v.bits.drop q))∧Below W2.heap.size W2 wr)
        case atStart=>exact⟨0,by omega,rfl,rfl,hb3'⟩
        case round=>
         obtain⟨q,hq,rfl,HQ,hbq⟩:=hrel
         clear p0 p1 p2 p3 p4 p5 p6 p7 p8
         obtain⟨⟨p0,p1⟩,⟨p2,p3,p4,p5⟩,p6,p7,p8⟩:=hcl wr hbq
         by_cases hlt:q < n1
         ·have hqi:(q:Int) < (n1:Int):=by omega
          obtain⟨u,Hu⟩:∃ u,Hid (v.bits[q]?=some u):=⟨v.bits[q]'(by rw[←L1.out];exact hlt),List.getElem?_eq_getElem _⟩
          obtain⟨bb,ob,rfl,hy⟩:=(HR1.out.below UAt.stays (BTr hb2 hbq)).get UAt.plain Hu.out
          have hyu:wr.cell? ⟨bb,ob+q,none⟩=some (.int .u64 (u:Int)):=by simpa [UAt] using hy
          have hst:=A2r (f:=A1c x.kind) Hu.out
          have hft:=B0i (w:=wr) x.kind u
          generalize hFF:A1c x.kind u=FF at hft hst
          clear hy
          by_cases hz:FF=0
          ·have ez:(FF != 0)=false:=by simp[hz]
           have HQ':Hid (A0g (A1c x.kind) v.bits=A0g (A1c x.kind) (v.bits.drop (q+1))):=by
            show _=_
            rw[HQ.out,hst,if_pos hz]
           clear hst hFF hz
           go_wp2_with fail
           refine hft.mono ?_
           rintro e w9 ⟨rfl,rfl⟩
           go_wp2_with fail
           go_roundg (n1 - (q+1))
           case measure=>omega
           case rel=>exact⟨q+1,by omega,by go_num,HQ',hbq⟩
          ·have ez:(FF != 0)=true:=by simpa using hz
           have HX:Hid (R=FF):=by
            show _=_
            have h1:A0g (A1c x.kind) v.bits=FF:=by rw[HQ.out,hst,if_neg hz]
            rw[HF.out,h1,if_pos hz]
           clear hst hFF hz
           go_wp2_with fail
           refine hft.mono ?_
           rintro e w9 ⟨rfl,rfl⟩
           go_wp2
           go_ret
           exact⟨by rw[HX.out];rfl,BTr hb2 hbq⟩
         ·have HF0:Hid (R=if A0g (A1e x.kind) v.bytes≠0 then A0g (A1e x.kind) v.bytes else A0g (fun s=>A2o g d (k+1) (A1h g x.type) s) v.subs):=by
           show _=_
           have h1:A0g (A1c x.kind) v.bits=0:=by rw[HQ.out];exact A2b (by rw[←L1.out];omega)
           rw[HF.out,h1,if_neg (by simp)]
          clear HF HQ
          obtain⟨wq,Hwq⟩:∃ wq,wq=wr:=⟨_,rfl⟩
          subst Hwq
          go_wp2_with fail
          go_loopg [108] n2 (fun gm i wr=>∃ q:Nat,q+gm=n2∧i = .int .i64 (q:Int)∧Hid (A0g (A1e x.kind) v.bytes=A0g (A1e x.kind) (v.bytes.drop q))∧Below W2.heap.size W2 wr)
          case atStart=>exact⟨0,by omega,rfl,rfl,hbq⟩
          case round=>
           obtain⟨q2,hq2,rfl,HQ,hbr⟩:=hrel
           clear p0 p1 p2 p3 p4 p5 p6 p7 p8
           obtain⟨⟨p0,p1⟩,⟨p2,p3,p4,p5⟩,p6,p7,p8⟩:=hcl wr hbr
           by_cases hlt:q2 < n2
           ·have hqi2:(q2:Int) < (n2:Int):=by omega
            obtain⟨u,Hu⟩:∃ u,Hid (v.bytes[q2]?=some u):=⟨v.bytes[q2]'(by rw[←L2.out];exact hlt),List.getElem?_eq_getElem _⟩
            obtain⟨bb,ob,rfl,hy⟩:=(HR2.out.below ZAt.stays (BTr hb2 hbr)).get ZAt.plain Hu.out
            obtain⟨vb,y1,hyl⟩:=hy.at
            have HYL:Hid (RdL 1 YAt wr vb u):=hyl
            obtain⟨ab,nb,cb,rfl,Hnb,_⟩:=hyl.shape
            have y2:wr.cell? ⟨bb,ob+q2,none⟩=some (.slice ab nb cb):=by simpa using y1
            have hul:u.length≤140737488355328:=by
             have h1:=HV.out.2.2.2.1 u (List.mem_of_getElem? Hu.out)
             unfold reachBytes at h1
             omega
            have hnb:nb≤140737488355328:=by rw[Hnb.out];exact hul
            have hst:=A2r (f:=A1e x.kind) Hu.out
            have hut:=B7f HYL.out hul
            generalize hVD:Lib.validD u=VD at hut
            generalize hFF:A1e x.kind u=FF at hst
            have HFF:Hid ((4000 < nb→FF=4)∧(¬ 4000 < nb→x.kind=8→VD=false→FF=9)∧(¬ 4000 < nb→x.kind=8→VD=true→FF=0)∧(¬ 4000 < nb→¬ x.kind=8→FF=0)):=by
             have e1:=Hnb.out
             rw[←hFF]
             unfold A1e
             rw[hVD,←e1]
             refine⟨fun h=>if_pos h,fun h1 h2 h3=>?_,fun h1 h2 h3=>?_,fun h1 h2=>?_⟩
             ·rw[if_neg h1,if_pos ⟨h2,h3⟩]
             ·rw[if_neg h1,if_neg (by rw[h3];simp)]
             ·rw[if_neg h1,if_neg (by simp[h2])]
            have HQ':Hid (FF=0→A0g (A1e x.kind) v.bytes=A0g (A1e x.kind) (v.bytes.drop (q2+1))):=fun hz=>by rw[HQ.out,hst,if_pos hz]
            have HRR:Hid (FF≠0→R=FF):=fun hz=>by
             have h1:A0g (A1e x.kind) v.bytes=FF:=by rw[HQ.out,hst,if_neg hz]
             rw[HF0.out,h1,if_pos hz]
            clear hst hFF hVD hy y1 hyl hul HQ
            by_cases h4:4000 < nb
            ·have f4:decide (4000 < (nb:Int))=true:=by simp;omega
             have HX:Hid (R=4):=by
              show _=_
              have h1:=HFF.out.1 h4
              rw[HRR.out (by rw[h1];simp),h1]
             clear h4
             go_wp2_with fail
             go_ret
             exact⟨by rw[HX.out];rfl,BTr hb2 hbr⟩
            have f4:decide (4000 < (nb:Int))=false:=by simp;omega
            by_cases h8:x.kind=8
            ·have e8:(x.kind == 8)=true:=beq_iff_eq.2 h8
             cases VD with
             | false=>
              have HX:Hid (R=9):=by
               show _=_
               have h1:=HFF.out.2.1 h4 h8 rfl
               rw[HRR.out (by rw[h1];simp),h1]
              clear h4 h8
              go_wp2_with fail
              refine hut.mono ?_
              rintro e w9 ⟨rfl,rfl⟩
              go_wp2
              go_ret
              exact⟨by rw[HX.out];rfl,BTr hb2 hbr⟩
             | true=>
              have HQ2:Hid (A0g (A1e x.kind) v.bytes=A0g (A1e x.kind) (v.bytes.drop (q2+1))):=HQ'.out (HFF.out.2.2.1 h4 h8 rfl)
              clear h4 h8
              go_wp2_with fail
              refine hut.mono ?_
              rintro e w9 ⟨rfl,rfl⟩
              go_wp2_with fail
              go_roundg (n2 - (q2+1))
              case measure=>omega
              case rel=>exact⟨q2+1,by omega,by go_num,HQ2,hbr⟩
            ·have e8:(x.kind == 8)=false:=beq_eq_false_iff_ne.2 h8
             have HQ2:Hid (A0g (A1e x.kind) v.bytes=A0g (A1e x.kind) (v.bytes.drop (q2+1))):=HQ'.out (HFF.out.2.2.2 h4 h8)
             clear h4 h8
             go_wp2_with fail
             go_roundg (n2 - (q2+1))
             case measure=>omega
             case rel=>exact⟨q2+1,by omega,by go_num,HQ2,hbr⟩
           ·have HF1:Hid (R=A0g (fun s=>A2o g d (k+1) (A1h g x.type) s) v.subs):=by
             show _=_
             have h1:A0g (A1e x.kind) v.bytes=0:=by rw[HQ.out];exact A2b (by rw[←L2.out];omega)
             rw[HF0.out,h1,if_neg (by simp)]
            clear HF0 HQ
            obtain⟨wq2,Hwq⟩:∃ wq2,wq2=wr:=⟨_,rfl⟩
            subst Hwq
            go_wp2_with fail
            obtain⟨F,HFun⟩:∃ F:BI d→Int,Hid (F=fun s=>A2o g d (k+1) (A1h g x.type) s):=⟨_,rfl⟩
            go_loopg [129] n3 (fun gm i wr=>∃ q:Nat,q+gm=n3∧i = .int .i64 (q:Int)∧Hid (A0g F v.subs=A0g F (v.subs.drop q))∧Below W2.heap.size W2 wr)
            case atStart=>exact⟨0,by omega,rfl,rfl,hbr⟩
            case round=>
             obtain⟨q3,hq3,rfl,HQ,hbs⟩:=hrel
             clear p0 p1 p2 p3 p4 p5 p6 p7 p8
             obtain⟨⟨p0,p1⟩,⟨p2,p3,p4,p5⟩,p6,p7,p8⟩:=hcl wr hbs
             by_cases hlt:q3 < n3
             ·have hqi3:(q3:Int) < (n3:Int):=by omega
              obtain⟨s,Hs⟩:∃ s,Hid (v.subs[q3]?=some s):=⟨v.subs[q3]'(by rw[←L3.out];exact hlt),List.getElem?_eq_getElem _⟩
              obtain⟨bb,ob,rfl,hy⟩:=(HR3.out.below (BAt.stays d) (BTr hb2 hbs)).get (BAt.plain d) Hs.out
              obtain⟨v0,v1,s0,s1,hqs⟩:=BQ.of d hy
              obtain⟨c0,d0,e0,c1,d1,e1,rfl,rfl⟩:=hqs.shape
              have hst:=A2r (f:=F) Hs.out
              have hkind:x.kind=10:=A7k HO0.out (fun e=>by have:=Hs.out;rw[e] at this;cases this)
              obtain⟨W3,HW3⟩:∃ W3,Hid (W3=wr.alloc (.cells #[.slice c0 d0 e0,.slice c1 d1 e1] 29)):=⟨_,rfl⟩
              have hb6:Below wr.heap.size wr W3:=by rw[HW3.out];exact(Below.refl _ _).alloc (Nat.le_refl _) _
              have x3:W3.heap[wr.heap.size]?=some (.cells #[.slice c0 d0 e0,.slice c1 d1 e1] 29 (0,0)):=by rw[HW3.out];exact heap_alloc_new _ _
              have hz3:wr.heap.size < W3.heap.size:=(Array.getElem?_eq_some_iff.1 x3).1
              obtain⟨jm,m2,Hj1,Hj2,Hj3⟩:∃ (jm:Nat) (m2:MI),Hid (A0i (fun m:MI=>decide (m.name=x.type)) g.msgs=(jm:Int))∧Hid (g.msgs[jm]?=some m2)∧Hid (A1h g x.type=m2.fields):=by
               obtain⟨m',hm'⟩:=HSub.out hkind
               rcases A2l (fun m:MI=>decide (m.name=x.type)) g.msgs with⟨_,h2⟩|⟨i,m2,h1,h2,h3,_⟩
               ·rw[h2] at hm';cases hm'
               ·exact⟨i,m2,h1,h2,by show _=_;unfold A1h;rw[h3]⟩
              generalize hFF:F s=FF at hst
              have hbW3:Below W2.heap.size W2 W3:=BTr hbs hb6
              have hmsg:∀ V,Below W3.heap.size W3 V→Calls Tryz.prog 42 #[.agg #[.slice am nm cm,.slice ae ne ce],.string (S x.type)] V fun e w'=>e = .returned (.int .i64 (jm:Int))∧Below W3.heap.size W3 w':=fun V hV=>(A4m ((HG.out.below (BTr h02 (BTr hbW3 hV))).1) ⟨_,_,_,rfl⟩ x.type).mono fun e w' ⟨h1,h2⟩=>⟨by rw[h1,Hj1.out],BTr hV h2⟩
              have hbody:∀ V,Below W3.heap.size W3 V→Calls Tryz.prog 27 #[.agg #[.slice am nm cm,.slice ae ne ce],.int .i64 (jm:Int),.agg #[.slice c0 d0 e0,.slice c1 d1 e1],.int .i64 (k+1)] V fun e w'=>e = .returned (.int .i64 FF)∧Below W3.heap.size W3 w':=fun V hV=>(HIH.out V (k+1) jm m2 _ _ s (BTr h02 (BTr hbW3 hV)) (by omega) (by omega) Hj2.out (hqs.below (BTr hb6 hV)) (HV.out.2.2.2.2.2.1 s (List.mem_of_getElem? Hs.out))).mono fun e w' ⟨h1,h2⟩=>⟨by rw[h1,←hFF,HFun.out,Hj3.out],BTr hV h2⟩
              have Hkw:Hid (IntKind.wrap .i64 (k+1)=k+1):=by show IntKind.i64.wrap (k+1)=k+1;rw[IntKind.wrap_i64];omega
              have hcl3:∀ V,Below W3.heap.size W3 V→(V.cell? ⟨w.heap.size,0,none⟩=some (.slice am nm cm)∧V.cell? ⟨w.heap.size,1,none⟩=some (.slice ae ne ce))∧(V.cell? ⟨wr.heap.size,0,none⟩=some (.slice c0 d0 e0)∧V.cell? ⟨wr.heap.size,1,none⟩=some (.slice c1 d1 e1))∧V.cell? ⟨bx,ox+3,none⟩=some (.string (S x.type)):=fun V hV=>by
               obtain⟨z1,_,_,z2,_⟩:=hcl V (BTr hbW3 hV)
               exact⟨z1,A0x ((hV.block _ hz3).trans x3),z2⟩
              clear hy hqs hkind
              go_upto_region 30 with fail
              rw[←HW3.out]
              have hD3:Below W3.heap.size W3 W3.drew:=(Below.refl _ _).drew
              clear p0 p1 p2 p3 p4 p5 p6 p7 p8
              obtain⟨⟨t0,t1⟩,⟨t2,t3⟩,t4⟩:=hcl3 W3.drew hD3
              have hm:=hmsg _ hD3
              have HQ':Hid (FF=0→A0g F v.subs=A0g F (v.subs.drop (q3+1))):=fun hz=>by rw[HQ.out,hst,if_pos hz]
              have HRR:Hid (FF≠0→R=FF):=fun hz=>by rw[HF1.out,←HFun.out,HQ.out,hst,if_neg hz]
              clear hst hFF hmsg
              go_cut [18] from 133 to 143 (fun s18 wc=>s18 = .int .i64 FF∧Below W3.heap.size W3 wc)
              case first=>
               refine wp_region_held_drew (S:=fun V=>Below W3.heap.size W3 V) (by kernel_rfl) hD3 (fun hHeld=>?_)
               refine tK (i:=0) (v:=?vr1) rfl (fun _ _ _ h=>h) ⟨by rfl,?hyr1⟩ (by assumption) ?_
               case hyr1=>(intro W hSw;obtain⟨⟨o1,o2⟩,⟨o3,o4⟩,o5⟩:=hcl3 W hSw;go_simp;first|done|with_reducible rfl)
               try simp only[pT,Act.put]
               refine tK (i:=1) (v:=?vr2) rfl (fun _ _ _ h=>h) ⟨by rfl,?hyr2⟩ (by assumption) ?_
               case hyr2=>(intro W hSw;obtain⟨⟨o1,o2⟩,⟨o3,o4⟩,o5⟩:=hcl3 W hSw;go_simp;first|done|with_reducible rfl)
               try simp only[pT,Act.put]
               refine tK (i:=2) (v:=?vr3) rfl (fun _ _ _ h=>h) ⟨by rfl,?hyr3⟩ (by assumption) ?_
               case hyr3=>(intro W hSw;obtain⟨⟨o1,o2⟩,⟨o3,o4⟩,o5⟩:=hcl3 W hSw;go_simp;first|done|with_reducible rfl)
               try simp only[pT,Act.put]
               refine tK (i:=3) (v:=?vr4) rfl (fun _ _ _ h=>h) ⟨by rfl,?hyr4⟩ (by assumption) ?_
               case hyr4=>(intro W hSw;obtain⟨⟨o1,o2⟩,⟨o3,o4⟩,o5⟩:=hcl3 W hSw;go_simp;first|done|with_reducible rfl)
               try simp only[pT,Act.put]
               refine tK (i:=4) (v:=?vr5) rfl (fun _ _ _ h=>h) ⟨by rfl,?hyr5⟩ (by assumption) ?_
               case hyr5=>(intro W hSw;obtain⟨⟨o1,o2⟩,⟨o3,o4⟩,o5⟩:=hcl3 W hSw;go_simp;first|done|with_reducible rfl)
               try simp only[pT,Act.put]
               refine tK (i:=5) (v:=?vr6) rfl (fun _ _ _ h=>h) ⟨by rfl,?hyr6⟩ (by assumption) ?_
               case hyr6=>(intro W hSw;obtain⟨⟨o1,o2⟩,⟨o3,o4⟩,o5⟩:=hcl3 W hSw;go_simp;first|done|with_reducible rfl)
               try simp only[pT,Act.put]
               refine tK (i:=7) (v:=?vr7) rfl (fun _ _ _ h=>h) ⟨by rfl,?hyr7⟩ (by assumption) ?_
               case hyr7=>(intro W hSw;obtain⟨⟨o1,o2⟩,⟨o3,o4⟩,o5⟩:=hcl3 W hSw;go_simp;first|done|with_reducible rfl)
               try simp only[pT,Act.put]
               refine tK (i:=8) (v:=?vr8) rfl (fun _ _ _ h=>h) ⟨by rfl,?hyr8⟩ (by assumption) ?_
               case hyr8=>(intro W hSw;obtain⟨⟨o1,o2⟩,⟨o3,o4⟩,o5⟩:=hcl3 W hSw;go_simp;first|done|with_reducible rfl)
               try simp only[pT,Act.put]
               refine tK (i:=9) (v:=?vr9) rfl (fun _ _ _ h=>h) ⟨by rfl,?hyr9⟩ (by assumption) ?_
               case hyr9=>(intro W hSw;obtain⟨⟨o1,o2⟩,⟨o3,o4⟩,o5⟩:=hcl3 W hSw;go_simp;first|done|with_reducible rfl)
               try simp only[pT,Act.put]
               refine wpAnyH_ready (rs:=[6]) (by kernel_rfl) (by simp) ?_
               refine AllReadyH.cons rfl (fun K hK=>?_) AllReadyH.nil
               go_simp
               refine hm.mono ?_
               rintro r w7 ⟨rfl,hb7⟩
               refine hK.out _ _ ?_ (fun hHeld=>?_)
               ·(try dsimp only);with_reducible first|exact hb8|exact hb7|exact hD3
               clear hK K
               try simp only[pT,Act.put]
               refine wpAnyH_ready (rs:=[10]) (by kernel_rfl) (by simp) ?_
               refine AllReadyH.cons rfl (fun K hK=>?_) AllReadyH.nil
               go_simp
               rw[Hkw.out]
               refine(hbody _ hb7).mono ?_
               rintro r w8 ⟨rfl,hb8⟩
               refine hK.out _ _ ?_ (fun hHeld=>?_)
               ·(try dsimp only);with_reducible first|exact hb8|exact hb7|exact hD3
               clear hK K
               try simp only[pT,Act.put]
               refine wpAnyH_ready (rs:=[11]) (by kernel_rfl) (by simp) ?_
               refine AllReadyH.cons rfl (fun K hK=>?_) AllReadyH.nil
               go_simp
               refine hK.out _ _ ?_ (fun hHeld=>?_)
               ·(try dsimp only);with_reducible first|exact hb8|exact hb7|exact hD3
               clear hK K
               try simp only[pT,Act.put]
               refine wpAnyH_done (by kernel_rfl) ?_ _
               go_wp2_with fail
               go_meet
               exact⟨rfl,hb8⟩
              case rest=>
               obtain⟨rfl,hb8⟩:=hcut
               by_cases hz:FF=0
               ·have ez:(FF != 0)=false:=by simp[hz]
                have HQ2:=HQ'.out hz
                have HQ3:Hid (A0g F v.subs=A0g F (v.subs.drop (q3+1))):=HQ2
                clear hz HQ2
                go_wp2_with fail
                go_roundg (n3 - (q3+1))
                case measure=>omega
                case rel=>exact⟨q3+1,by omega,by go_num,HQ3,BTr hbW3 hb8⟩
               ·have ez:(FF != 0)=true:=by simpa using hz
                have HX:Hid (R=FF):=HRR.out hz
                clear hz
                go_wp2
                go_ret
                exact⟨by rw[HX.out];rfl,BTr hb2 (BTr hbW3 hb8)⟩
             ·have HX:Hid (R=0):=by
               show _=_
               rw[HF1.out,←HFun.out,HQ.out]
               exact A2b (by rw[←L3.out];omega)
              go_wp2
              go_ret
              exact⟨by rw[HX.out];rfl,BTr hb2 hbs⟩
end L
end Go.Proofs.YtelmjekjohbmjaaGreatDoor
