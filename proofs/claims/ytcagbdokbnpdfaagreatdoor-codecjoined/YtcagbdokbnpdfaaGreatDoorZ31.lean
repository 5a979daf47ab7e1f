import Derived.Test.YtcagbdokbnpdfaaGreatDoorZ30
import Derived.Test.YtcagbdokbnpdfaaGreatDoorZ11
import Derived.Test.YtcagbdokbnpdfaaGreatDoorZ05
import Derived.Laws.MakeOwn
namespace Go.Proofs.YtcagbdokbnpdfaaGreatDoor
namespace L
open Go.RowKit
set_option linter.unusedVariables false
def DOut (n:Nat) (V:World) (res:Except Int (BI n)) (e:Ending) (w':World):Prop:=
 match res with
 | .error E=>E≠0∧e = .returned (.tuple #[.agg #[.slice none 0 0,.slice none 0 0],.int .i64 E])∧Below V.heap.size V w'
 | .ok s=>∃ (c:LB n) (i0:Option Addr) (j0 l0:Nat) (i1:Option Addr) (j1 l1:Nat),A6t n c = [.slice i0 j0 l0,.slice i1 j1 l1]∧e = .returned (.tuple #[.agg #[.slice i0 j0 l0,.slice i1 j1 l1],.int .i64 0])∧LB.pl n c=s∧OwnB V.heap.size n w' c∧(LB.fp n c).Nodup∧Below V.heap.size V w'
def DDeep (n:Nat) (W:World) (fn:Nat) (cap:Array Value) (name:List UInt8) (rd:List UInt8→Except Int (BI n)):Prop:=
 ∀ (V:World) (ao:Option Addr) (m c:Nat) (l:List UInt8),Below W.heap.size W V→RdL 1 YAt V (.slice ao m c) l→l.length≤4000→Calls Tryz.prog fn (#[.string (S name),.slice ao m c]++cap) V fun e w'=>DOut n V (rd l) e w'
theorem DDeep.below {n:Nat}{W W':World}{fn:Nat}{cap:Array Value}{name:List UInt8}{rd:List UInt8→Except Int (BI n)}(h:DDeep n W fn cap name rd) (hb:Below W.heap.size W W'):DDeep n W' fn cap name rd:=
 fun V ao m c l hV=>h V ao m c l (KBT hb hV)
def A3j {n:Nat}(rd:List UInt8→List UInt8→Except Int (BI n)) (x:FI) (r:RI):Except Int (VI (BI n)):=
 if A3t x.kind≠2 then(if (tnN x r).2=0 then .ok ⟨x.number,(tnN x r).1,[],[]⟩ else .error (((tnN x r).2:Nat):Int))
 else if r.how≠2 then .error 8
 else if x.kind=10 then(match rd x.type r.bytes with|.error E=>.error E|.ok s=>.ok ⟨x.number,[],[],[s]⟩)
 else if x.kind=8∧Lib.validD r.bytes=false then .error 9
 else .ok ⟨x.number,[],[r.bytes],[]⟩
def TOut (n:Nat) (B:Nat) (w:World) (res:Except Int (VI (BI n))) (e:Ending) (w':World):Prop:=
 Below w.heap.size w w'∧match res with
 | .error E=>E≠0∧∃ (q:Int) (a1:Option Addr) (n1 c1:Nat) (a2:Option Addr) (n2 c2:Nat) (a3:Option Addr) (n3 c3:Nat),e = .returned (.tuple #[.agg #[.int .i64 q,.slice a1 n1 c1,.slice a2 n2 c2,.slice a3 n3 c3],.int .i64 E])
 | .ok y=>∃ y':VL (LB n),e = .returned (.tuple #[.agg #[.int .i64 y'.number,y'.p1.v,y'.p2.v,y'.p3.v],.int .i64 0])∧VL.pl (LB.pl n) y'=y∧OwnV (ekB n) (OwnB B n) w' B y'∧(∀ k∈VL.fp (LB.fp n) y',w.heap.size≤k)∧(VL.fp (LB.fp n) y').Nodup
theorem B8r {α:Type}{E:EK α}{w:World}{base g:Nat}{a : α}(hb:base≤g) (h:w.heap[g]?=some (.cells (E.enc a).toArray E.elem (0,0))):Row E w base (.slice (some ⟨g,0,none⟩) 1 1) [a]:=by
 refine⟨E.flat_len [a],.inr ⟨g,1,_,rfl,hb,h,Nat.le_refl _,by unfold maxLen;omega,by simp[E.len],?_⟩⟩
 have:(E.enc a).length=([a]:List α).length*E.size:=by rw[E.len];simp
 simp only[EK.flat,List.flatMap_cons,List.flatMap_nil,List.append_nil]
 rw[←this]
 simp
theorem A5w {w:World}{g:Nat}{a0 a1 a2 a3:Value}{t:TypeId}(h:w.heap[g]?=some (.cells #[a0,a1,a2,a3] t (0,0))) :
  w.cell? ⟨g,0,none⟩=some a0∧w.cell? ⟨g,1,none⟩=some a1∧w.cell? ⟨g,2,none⟩=some a2∧w.cell? ⟨g,3,none⟩=some a3:=⟨A0a h 0 _ rfl,A0a h 1 _ rfl,A0a h 2 _ rfl,A0a h 3 _ rfl⟩
theorem D1p (w:World) (o1 o2 o3 o4:Obj):((((w.alloc o1).alloc o2).alloc o3).alloc o4).heap[w.heap.size]?=some o1∧((((w.alloc o1).alloc o2).alloc o3).alloc o4).heap[w.heap.size+1]?=some o2∧((((w.alloc o1).alloc o2).alloc o3).alloc o4).heap[w.heap.size+2]?=some o3∧((((w.alloc o1).alloc o2).alloc o3).alloc o4).heap[w.heap.size+3]?=some o4∧((((w.alloc o1).alloc o2).alloc o3).alloc o4).heap.size=w.heap.size+4:=by
 have z1:(w.alloc o1).heap.size=w.heap.size+1:=by simp
 have z2:((w.alloc o1).alloc o2).heap.size=w.heap.size+2:=by simp
 have z3:(((w.alloc o1).alloc o2).alloc o3).heap.size=w.heap.size+3:=by simp
 refine⟨?_,?_,?_,?_,by simp⟩
 ·rw[Below.heap_alloc _ _ _ (by omega),Below.heap_alloc _ _ _ (by omega),Below.heap_alloc _ _ _ (by omega)];exact heap_alloc_new w o1
 ·rw[Below.heap_alloc _ _ _ (by omega),Below.heap_alloc _ _ _ (by omega),←z1];exact heap_alloc_new _ o2
 ·rw[Below.heap_alloc _ _ _ (by omega),←z2];exact heap_alloc_new _ o3
 ·rw[←z3];exact heap_alloc_new _ o4
theorem D5m {w:World}{g:Nat}{cs:Array Value}{x0 x1 x2 x3:Value}{t:TypeId}(h:w.heap[g]?=some (.cells cs t (0,0))) (ht:t≠5):FrB [g] w ((((w.setCell ⟨g,0,none⟩ x0).setCell ⟨g,1,none⟩ x1).setCell ⟨g,2,none⟩ x2).setCell ⟨g,3,none⟩ x3):=
 A1v (A1v (A1v (A1b h ht) (A1b (heap_setCell_same _ _ 0 _ _ x0 h) ht)) (A1b (heap_setCell_same _ _ 1 _ _ x1 (heap_setCell_same _ _ 0 _ _ x0 h)) ht)) (A1b (heap_setCell_same _ _ 2 _ _ x2 (heap_setCell_same _ _ 1 _ _ x1 (heap_setCell_same _ _ 0 _ _ x0 h))) ht)
theorem C9c (W:World):(Instr.makeSlice 52 (.int .i64 1) (.int .i64 1)).run Tryz.prog W = .ok (.slice (some ⟨W.heap.size,0,none⟩) 1 1) (W.alloc (.cells #[.slice none 0 0,.slice none 0 0] 29)):=by
 obtain⟨i0,hi,hz0,hz1,hz2⟩:=info_parts (ekB 0).info
 have h:=run_make (P:=Tryz.prog) W 52 29 i0 _ (ekB 0).under hi hz0 .i64 .i64 1 1 (by decide) (by decide) (by rw[hz2];decide) (by decide)
 rw[hz1] at h
 have e:madeCells (ekB 0).zero.cells (Int.toNat 1*(ekB 0).size)=#[.slice none 0 0,.slice none 0 0]:=by
  unfold madeCells
  have e2:Array.range (Int.toNat 1*(ekB 0).size)=#[0,1]:=by show Array.range 2=_;decide
  rw[e2]
  simp[ekB,Value.cells]
 rw[e] at h
 exact h
set_option maxHeartbeats 8000000 in
set_option maxRecDepth 100000 in
theorem D0i {n:Nat}{w:World}{B:Nat}(hB:B≤w.heap.size) (x:FI) (r:RI){ao:Option Addr}{nb cap:Nat}(hrow:Row ekY w B (.slice ao nb cap) r.bytes) (hl:r.bytes.length≤4000) (hb:r.bits≤18446744073709551615) (hT:Tabs w){fn:Nat}{cp:Array Value}(hent:∀ (args:Array Value) (w:World),(callFunc fn args).run Tryz.prog w = .ok (.enter fn args) w){rd:List UInt8→List UInt8→Except Int (BI n)}(hdeep:x.kind=10→DDeep n w fn cp x.type (rd x.type)) :
  Calls Tryz.prog 61 #[fdV x,.agg #[.int .i64 r.number,.int .i64 r.how,.int .u64 (r.bits:Int),.slice ao nb cap],.func (.func fn) #[] cp] w fun e w'=>TOut n B w (A3j rd x r) e w':=by
 have h:=hrow.rdY
 have HROW:Hid (Row ekY w B (.slice ao nb cap) r.bytes):=hrow
 clear hrow
 obtain⟨W4,HW4⟩:∃ W4,Hid (W4=(((w.alloc (.cells #[.string (S x.name),.int .i64 x.number,.int .i64 x.kind,.string (S x.type),.bool x.many,.int .i64 x.choice] 58)).alloc (.cells #[.int .i64 r.number,.int .i64 r.how,.int .u64 (r.bits:Int),.slice ao nb cap] 65)).alloc (.cells #[.int .i64 0,.slice none 0 0,.slice none 0 0,.slice none 0 0] 54)).alloc (.cells #[.int .i64 x.number,.slice none 0 0,.slice none 0 0,.slice none 0 0] 54)):=⟨_,rfl⟩
 obtain⟨x1,x2,x3,x4,z0⟩:=D1p w (.cells #[.string (S x.name),.int .i64 x.number,.int .i64 x.kind,.string (S x.type),.bool x.many,.int .i64 x.choice] 58) (.cells #[.int .i64 r.number,.int .i64 r.how,.int .u64 (r.bits:Int),.slice ao nb cap] 65) (.cells #[.int .i64 0,.slice none 0 0,.slice none 0 0,.slice none 0 0] 54) (.cells #[.int .i64 x.number,.slice none 0 0,.slice none 0 0,.slice none 0 0] 54)
 rw[←HW4.out] at x1 x2 x3 x4 z0
 have hb4:Below w.heap.size w W4:=by rw[HW4.out];exact((((Below.refl _ _).alloc (Nat.le_refl _) _).alloc (by simp) _).alloc (by simp;omega) _).alloc (by simp;omega) _
 have hz4:w.heap.size+4≤W4.heap.size:=Nat.le_of_eq z0.symm
 have hz4':=Nat.le_of_eq z0
 have HZ0:Hid (W4.heap.size=w.heap.size+4):=z0
 clear z0
 have hcl:∀ V,Below W4.heap.size W4 V→(V.cell? ⟨w.heap.size,0,none⟩=some (.string (S x.name))∧V.cell? ⟨w.heap.size,1,none⟩=some (.int .i64 x.number)∧V.cell? ⟨w.heap.size,2,none⟩=some (.int .i64 x.kind)∧V.cell? ⟨w.heap.size,3,none⟩=some (.string (S x.type))∧V.cell? ⟨w.heap.size,4,none⟩=some (.bool x.many)∧V.cell? ⟨w.heap.size,5,none⟩=some (.int .i64 x.choice))∧(V.cell? ⟨w.heap.size+1,0,none⟩=some (.int .i64 r.number)∧V.cell? ⟨w.heap.size+1,1,none⟩=some (.int .i64 r.how)∧V.cell? ⟨w.heap.size+1,2,none⟩=some (.int .u64 (r.bits:Int))∧V.cell? ⟨w.heap.size+1,3,none⟩=some (.slice ao nb cap)):=fun V hV=>by
  have y1:=(hV.block _ (by omega)).trans x1
  exact⟨⟨A0a y1 0 _ rfl,A0a y1 1 _ rfl,A0a y1 2 _ rfl,A0a y1 3 _ rfl,A0a y1 4 _ rfl,A0a y1 5 _ rfl⟩,A5w ((hV.block _ (by omega)).trans x2)⟩
 have hclv:∀ V,Below W4.heap.size W4 V→V.heap[w.heap.size+2]?=some (.cells #[.int .i64 0,.slice none 0 0,.slice none 0 0,.slice none 0 0] 54 (0,0))∧V.heap[w.heap.size+3]?=some (.cells #[.int .i64 x.number,.slice none 0 0,.slice none 0 0,.slice none 0 0] 54 (0,0)):=fun V hV=>⟨(hV.block _ (by omega)).trans x3,(hV.block _ (by omega)).trans x4⟩
 obtain⟨R,HR⟩:∃ R,Hid (A3j rd x r=R):=⟨_,rfl⟩
 rw[HR.out]
 have HRD:Hid (RdL 1 YAt w (.slice ao nb cap) r.bytes):=h
 have hho:=A9v x.kind W4
 obtain⟨H,HH⟩:∃ H,Hid (A3t x.kind=H):=⟨_,rfl⟩
 rw[HH.out] at hho
 obtain⟨⟨t0,t1,t2,t3,t4,t5⟩,t6,t7,t8,t9⟩:=hcl W4 (Below.refl _ _)
 obtain⟨y2,y3⟩:=hclv W4 (Below.refl _ _)
 by_cases hH:H=2
 ·have eH:(H != 2)=false:=by simp[hH]
  have HH2:Hid (A3t x.kind=2):=by show _=_;rw[HH.out];exact hH
  by_cases hR:r.how=2
  ·have eR:(r.how != 2)=false:=by simp[hR]
   by_cases hk:x.kind=10
   ·have ek:(x.kind == 10)=true:=beq_iff_eq.2 hk
    have HD:Hid (DDeep n w fn cp x.type (rd x.type)):=hdeep hk
    have HT1:Hid (R=match rd x.type r.bytes with|.error E=>.error E|.ok s=>.ok ⟨x.number,[],[],[s]⟩):=by
     show _=_
     rw[←HR.out]
     unfold A3j
     rw[if_neg (by rw[HH2.out];simp),if_neg (by rw[hR];simp),if_pos hk]
    clear hH hR hk hdeep
    obtain⟨s0,s1,s2,s3⟩:=A5w y3
    have fr3':=A0b y3
    have hmk:=C9c
    obtain⟨sb,Hsb⟩:∃ sb,Hid (W4.heap.size=sb):=⟨_,rfl⟩
    have hsb1:sb≤W4.heap.size:=Nat.le_of_eq Hsb.out.symm
    have hsb2:W4.heap.size≤sb:=Nat.le_of_eq Hsb.out
    obtain⟨Y5,HY5⟩:∃ Y5,Hid (Y5=W4.alloc (.cells #[.slice none 0 0,.slice none 0 0] 29)):=⟨_,rfl⟩
    have hY5:Below W4.heap.size W4 Y5:=by rw[HY5.out];exact(Below.refl _ _).alloc (Nat.le_refl _) _
    have xY5:Y5.heap[sb]?=some (.cells #[.slice none 0 0,.slice none 0 0] 29 (0,0)):=by rw[←Hsb.out,HY5.out];exact heap_alloc_new _ _
    have hzY:sb < Y5.heap.size:=(Array.getElem?_eq_some_iff.1 xY5).1
    obtain⟨yv2,yv3⟩:=hclv Y5 hY5
    obtain⟨p0,p1,p2,p3⟩:=A5w yv3
    have fp3:=A0b yv3
    rw[HY5.out] at p0 p1 p2 p3 fp3
    obtain⟨W5,HW5⟩:∃ W5,Hid (W5=Y5.setCell ⟨w.heap.size+3,3,none⟩ (.slice (some ⟨sb,0,none⟩) 1 1)):=⟨_,rfl⟩
    have hbw5:Below w.heap.size w W5:=by rw[HW5.out];exact A0d (KBT hb4 hY5) (by omega)
    have x5b:W5.heap[sb]?=some (.cells #[.slice none 0 0,.slice none 0 0] 29 (0,0)):=by rw[HW5.out,Below.heap_setCell _ _ _ _ (show sb≠w.heap.size+3 by omega)];exact xY5
    have x5v:W5.heap[w.heap.size+3]?=some (.cells #[.int .i64 x.number,.slice none 0 0,.slice none 0 0,.slice (some ⟨sb,0,none⟩) 1 1] 54 (0,0)):=by rw[HW5.out];exact heap_setCell_same _ _ 3 _ _ _ yv3
    have x5r:W5.heap[w.heap.size+2]?=some (.cells #[.int .i64 0,.slice none 0 0,.slice none 0 0,.slice none 0 0] 54 (0,0)):=by rw[HW5.out,Below.heap_setCell _ _ _ _ (show w.heap.size+2≠w.heap.size+3 by omega)];exact yv2
    have hz5:sb < W5.heap.size:=(Array.getElem?_eq_some_iff.1 x5b).1
    have x5x:W5.heap[w.heap.size]?=W4.heap[w.heap.size]?:=by rw[HW5.out,Below.heap_setCell _ _ _ _ (show w.heap.size≠w.heap.size+3 by omega)];exact hY5.block _ (by omega)
    have x5y:W5.heap[w.heap.size+1]?=W4.heap[w.heap.size+1]?:=by rw[HW5.out,Below.heap_setCell _ _ _ _ (show w.heap.size+1≠w.heap.size+3 by omega)];exact hY5.block _ (by omega)
    have hcl5:∀ V,Below sb W5 V→V.cell? ⟨w.heap.size,3,none⟩=some (.string (S x.type))∧V.cell? ⟨w.heap.size+1,3,none⟩=some (.slice ao nb cap)∧V.cell? ⟨w.heap.size+3,3,none⟩=some (.slice (some ⟨sb,0,none⟩) 1 1):=fun V hV=>
     ⟨A0a (((hV.block _ (by omega)).trans x5x).trans x1) 3 _ rfl,A0a (((hV.block _ (by omega)).trans x5y).trans x2) 3 _ rfl,A0a ((hV.block _ (by omega)).trans x5v) 3 _ rfl⟩
    have hD:Below sb W5 W5.drew:=(Below.refl _ _).drew
    have hDD:Below W5.heap.size W5 W5.drew:=(Below.refl _ _).drew
    obtain⟨RS,HRS⟩:∃ RS,Hid (rd x.type r.bytes=RS):=⟨_,rfl⟩
    have hdp:=HD.out W5.drew ao nb cap r.bytes (KBT hbw5 hDD) (HRD.out.below YAt.stays (KBT hbw5 hDD)) hl
    rw[HRS.out] at hdp
    rw[HRS.out] at HT1
    obtain⟨v0,v1,v2⟩:=hcl5 W5.drew hD
    unfold fdV
    go_enter Tryz.func61,Tryz.ntmps61
    go_wp2_with fail
    rw[←HW4.out]
    refine hho.mono ?_
    rintro e w5 ⟨rfl,rfl⟩
    go_upto_region 9 with fail
    rw[←HY5.out,Hsb.out,←HW5.out]
    clear t0 t1 t2 t3 t4 t5 t6 t7 t8 t9 y2 y3 s0 s1 s2 s3 p0 p1 p2 p3 fr3' fp3 hmk
    cases RS with
    | error E=>
     refine wp_region_held_drew (S:=fun V=>Below sb W5 V) (by kernel_rfl) hD (fun hHeld=>?_)
     refine tK (i:=0) (v:=?ve1) rfl (fun _ _ _ h=>h) ⟨by rfl,?hye1⟩ (by assumption) ?_
     case hye1=>(intro W hSw;obtain⟨q1,q2,q3⟩:=hcl5 W hSw;go_simp;first|done|with_reducible rfl)
     try simp only[pT,Act.put]
     refine tK (i:=1) (v:=?ve2) rfl (fun _ _ _ h=>h) ⟨by rfl,?hye2⟩ (by assumption) ?_
     case hye2=>(intro W hSw;obtain⟨q1,q2,q3⟩:=hcl5 W hSw;go_simp;first|done|with_reducible rfl)
     try simp only[pT,Act.put]
     refine tK (i:=2) (v:=?ve3) rfl (fun _ _ _ h=>h) ⟨by rfl,?hye3⟩ (by assumption) ?_
     case hye3=>(intro W hSw;obtain⟨q1,q2,q3⟩:=hcl5 W hSw;go_simp;first|done|with_reducible rfl)
     try simp only[pT,Act.put]
     refine tK (i:=3) (v:=?ve4) rfl (fun _ _ _ h=>h) ⟨by rfl,?hye4⟩ (by assumption) ?_
     case hye4=>(intro W hSw;obtain⟨q1,q2,q3⟩:=hcl5 W hSw;go_simp;first|done|with_reducible rfl)
     try simp only[pT,Act.put]
     refine tK (i:=4) (v:=?ve5) rfl (fun _ _ _ h=>h) ⟨by rfl,?hye5⟩ (by assumption) ?_
     case hye5=>(intro W hSw;obtain⟨q1,q2,q3⟩:=hcl5 W hSw;go_simp;first|done|with_reducible rfl)
     try simp only[pT,Act.put]
     refine tK (i:=5) (v:=?ve6) rfl (fun _ _ _ h=>h) ⟨by rfl,?hye6⟩ (by assumption) ?_
     case hye6=>(intro W hSw;obtain⟨q1,q2,q3⟩:=hcl5 W hSw;go_simp;first|done|with_reducible rfl)
     try simp only[pT,Act.put]
     refine tK (i:=6) (v:=?ve7) rfl (fun _ _ _ h=>h) ⟨by rfl,?hye7⟩ (by assumption) ?_
     case hye7=>(intro W hSw;obtain⟨q1,q2,q3⟩:=hcl5 W hSw;go_simp;first|done|with_reducible rfl)
     try simp only[pT,Act.put]
     refine wpAnyH_ready (rs:=[7]) (by kernel_rfl) (by simp) ?_
     refine AllReadyH.cons rfl (fun K hK=>?_) AllReadyH.nil
     go_simp
     refine hdp.mono ?_
     rintro e w7 ⟨hE0,rfl,hb7⟩
     have hS7:Below sb W5 w7:=hD.trans (hb7.mono (by have:=hDD.size;omega))
     have x7b:=(hb7.block _ (by have:=hDD.size;omega)).trans x5b
     obtain⟨g0,g1⟩:=A0v x7b
     have fg:=A0b x7b
     refine hK.out _ _ ?_ (fun hHeld=>?_)
     ·(try dsimp only);first|with_reducible exact hD|with_reducible exact hS7|exact A0d (A0d hS7 (Nat.le_refl _)) (Nat.le_refl _)
     clear hK K
     try simp only[pT,Act.put]
     refine tK (i:=8) (v:=?ve8) rfl (fun _ _ _ h=>h) ⟨by rfl,?hye8⟩ (by assumption) ?_
     case hye8=>(intro W hSw;obtain⟨q1,q2,q3⟩:=hcl5 W hSw;go_simp;first|done|with_reducible rfl)
     try simp only[pT,Act.put]
     refine tK (i:=9) (v:=?ve9) rfl (fun _ _ _ h=>h) ⟨by rfl,?hye9⟩ (by assumption) ?_
     case hye9=>(intro W hSw;obtain⟨q1,q2,q3⟩:=hcl5 W hSw;go_simp;first|done|with_reducible rfl)
     try simp only[pT,Act.put]
     refine tK (i:=10) (v:=?ve10) rfl (fun _ _ _ h=>h) ⟨by rfl,?hye10⟩ (by assumption) ?_
     case hye10=>(intro W hSw;obtain⟨q1,q2,q3⟩:=hcl5 W hSw;go_simp;first|done|with_reducible rfl)
     try simp only[pT,Act.put]
     refine tK (i:=11) (v:=?ve11) rfl (fun _ _ _ h=>h) ⟨by rfl,?hye11⟩ (by assumption) ?_
     case hye11=>(intro W hSw;obtain⟨q1,q2,q3⟩:=hcl5 W hSw;go_simp;first|done|with_reducible rfl)
     try simp only[pT,Act.put]
     refine wpAnyH_ready (rs:=[12]) (by kernel_rfl) (by simp) ?_
     refine AllReadyH.cons rfl (fun K hK=>?_) AllReadyH.nil
     go_simp
     refine hK.out _ _ ?_ (fun hHeld=>?_)
     ·(try dsimp only);first|with_reducible exact hD|with_reducible exact hS7|exact A0d (A0d hS7 (Nat.le_refl _)) (Nat.le_refl _)
     clear hK K
     try simp only[pT,Act.put]
     refine tK (i:=13) (v:=?ve12) rfl (fun _ _ _ h=>h) ⟨by rfl,?hye12⟩ (by assumption) ?_
     case hye12=>(intro W hSw;obtain⟨q1,q2,q3⟩:=hcl5 W hSw;go_simp;first|done|with_reducible rfl)
     try simp only[pT,Act.put]
     refine wpAnyH_done (by kernel_rfl) ?_ _
     have x7v:=(hS7.block _ (by omega)).trans x5v
     have x7r:=(hS7.block _ (by omega)).trans x5r
     obtain⟨s0,s1,s2,s3⟩:=A5w x7v
     obtain⟨u0,u1,u2,u3⟩:=A5w x7r
     have fr2':=A0b x7r
     have n1':¬ w.heap.size+3=sb:=by omega
     have n2':¬ w.heap.size+2=sb:=by omega
     have n3':¬ sb=w.heap.size+3:=by omega
     have n4':¬ sb=w.heap.size+2:=by omega
     have n5':¬ w.heap.size+3=w.heap.size+2:=by omega
     have n6':¬ w.heap.size+2=w.heap.size+3:=by omega
     have hbF:Below w.heap.size w w7:=KBT (KBT hbw5 hDD) hb7
     go_wp2_with fail
     refine bodyPost_ret (v:=.tuple #[.agg #[.int .i64 x.number,.slice none 0 0,.slice none 0 0,.slice (some ⟨sb,0,none⟩) 1 1],.int .i64 E]) (by simp[results,Tryz.results61,go_sem, *]) rfl ?_
     refine⟨A0d (A0d (A0d (A0d (A0d (A0d hbF (by omega)) (by omega)) (by omega)) (by omega)) (by omega)) (by omega),?_⟩
     rw[HT1.out]
     exact⟨hE0,_,_,_,_,_,_,_,_,_,_,rfl⟩
    | ok s=>
     refine wp_region_held_drew (S:=fun V=>Below sb W5 V) (by kernel_rfl) hD (fun hHeld=>?_)
     refine tK (i:=0) (v:=?vo1) rfl (fun _ _ _ h=>h) ⟨by rfl,?hyo1⟩ (by assumption) ?_
     case hyo1=>(intro W hSw;obtain⟨q1,q2,q3⟩:=hcl5 W hSw;go_simp;first|done|with_reducible rfl)
     try simp only[pT,Act.put]
     refine tK (i:=1) (v:=?vo2) rfl (fun _ _ _ h=>h) ⟨by rfl,?hyo2⟩ (by assumption) ?_
     case hyo2=>(intro W hSw;obtain⟨q1,q2,q3⟩:=hcl5 W hSw;go_simp;first|done|with_reducible rfl)
     try simp only[pT,Act.put]
     refine tK (i:=2) (v:=?vo3) rfl (fun _ _ _ h=>h) ⟨by rfl,?hyo3⟩ (by assumption) ?_
     case hyo3=>(intro W hSw;obtain⟨q1,q2,q3⟩:=hcl5 W hSw;go_simp;first|done|with_reducible rfl)
     try simp only[pT,Act.put]
     refine tK (i:=3) (v:=?vo4) rfl (fun _ _ _ h=>h) ⟨by rfl,?hyo4⟩ (by assumption) ?_
     case hyo4=>(intro W hSw;obtain⟨q1,q2,q3⟩:=hcl5 W hSw;go_simp;first|done|with_reducible rfl)
     try simp only[pT,Act.put]
     refine tK (i:=4) (v:=?vo5) rfl (fun _ _ _ h=>h) ⟨by rfl,?hyo5⟩ (by assumption) ?_
     case hyo5=>(intro W hSw;obtain⟨q1,q2,q3⟩:=hcl5 W hSw;go_simp;first|done|with_reducible rfl)
     try simp only[pT,Act.put]
     refine tK (i:=5) (v:=?vo6) rfl (fun _ _ _ h=>h) ⟨by rfl,?hyo6⟩ (by assumption) ?_
     case hyo6=>(intro W hSw;obtain⟨q1,q2,q3⟩:=hcl5 W hSw;go_simp;first|done|with_reducible rfl)
     try simp only[pT,Act.put]
     refine tK (i:=6) (v:=?vo7) rfl (fun _ _ _ h=>h) ⟨by rfl,?hyo7⟩ (by assumption) ?_
     case hyo7=>(intro W hSw;obtain⟨q1,q2,q3⟩:=hcl5 W hSw;go_simp;first|done|with_reducible rfl)
     try simp only[pT,Act.put]
     refine wpAnyH_ready (rs:=[7]) (by kernel_rfl) (by simp) ?_
     refine AllReadyH.cons rfl (fun K hK=>?_) AllReadyH.nil
     go_simp
     refine hdp.mono ?_
     rintro e w7 ⟨cc,i0,j0,l0,i1,j1,l1,henc,rfl,hpl,hown,hnd,hb7⟩
     have hS7:Below sb W5 w7:=hD.trans (hb7.mono (by have:=hDD.size;omega))
     have x7b:=(hb7.block _ (by have:=hDD.size;omega)).trans x5b
     obtain⟨g0,g1⟩:=A0v x7b
     have fg:=A0b x7b
     refine hK.out _ _ ?_ (fun hHeld=>?_)
     ·(try dsimp only);first|with_reducible exact hD|with_reducible exact hS7|exact A0d (A0d hS7 (Nat.le_refl _)) (Nat.le_refl _)
     clear hK K
     try simp only[pT,Act.put]
     refine tK (i:=8) (v:=?vo8) rfl (fun _ _ _ h=>h) ⟨by rfl,?hyo8⟩ (by assumption) ?_
     case hyo8=>(intro W hSw;obtain⟨q1,q2,q3⟩:=hcl5 W hSw;go_simp;first|done|with_reducible rfl)
     try simp only[pT,Act.put]
     refine tK (i:=9) (v:=?vo9) rfl (fun _ _ _ h=>h) ⟨by rfl,?hyo9⟩ (by assumption) ?_
     case hyo9=>(intro W hSw;obtain⟨q1,q2,q3⟩:=hcl5 W hSw;go_simp;first|done|with_reducible rfl)
     try simp only[pT,Act.put]
     refine tK (i:=10) (v:=?vo10) rfl (fun _ _ _ h=>h) ⟨by rfl,?hyo10⟩ (by assumption) ?_
     case hyo10=>(intro W hSw;obtain⟨q1,q2,q3⟩:=hcl5 W hSw;go_simp;first|done|with_reducible rfl)
     try simp only[pT,Act.put]
     refine tK (i:=11) (v:=?vo11) rfl (fun _ _ _ h=>h) ⟨by rfl,?hyo11⟩ (by assumption) ?_
     case hyo11=>(intro W hSw;obtain⟨q1,q2,q3⟩:=hcl5 W hSw;go_simp;first|done|with_reducible rfl)
     try simp only[pT,Act.put]
     refine wpAnyH_ready (rs:=[12]) (by kernel_rfl) (by simp) ?_
     refine AllReadyH.cons rfl (fun K hK=>?_) AllReadyH.nil
     go_simp
     refine hK.out _ _ ?_ (fun hHeld=>?_)
     ·(try dsimp only);first|with_reducible exact hD|with_reducible exact hS7|exact A0d (A0d hS7 (Nat.le_refl _)) (Nat.le_refl _)
     clear hK K
     try simp only[pT,Act.put]
     refine tK (i:=13) (v:=?vo12) rfl (fun _ _ _ h=>h) ⟨by rfl,?hyo12⟩ (by assumption) ?_
     case hyo12=>(intro W hSw;obtain⟨q1,q2,q3⟩:=hcl5 W hSw;go_simp;first|done|with_reducible rfl)
     try simp only[pT,Act.put]
     refine wpAnyH_done (by kernel_rfl) ?_ _
     have x7v:=(hS7.block _ (by omega)).trans x5v
     have x7r:=(hS7.block _ (by omega)).trans x5r
     obtain⟨s0,s1,s2,s3⟩:=A5w x7v
     obtain⟨u0,u1,u2,u3⟩:=A5w x7r
     have fr2':=A0b x7r
     have n1':¬ w.heap.size+3=sb:=by omega
     have n2':¬ w.heap.size+2=sb:=by omega
     have n3':¬ sb=w.heap.size+3:=by omega
     have n4':¬ sb=w.heap.size+2:=by omega
     have n5':¬ w.heap.size+3=w.heap.size+2:=by omega
     have n6':¬ w.heap.size+2=w.heap.size+3:=by omega
     have hbF:Below w.heap.size w w7:=KBT (KBT hbw5 hDD) hb7
     go_wp2_with fail
     refine bodyPost_ret (v:=.tuple #[.agg #[.int .i64 x.number,.slice none 0 0,.slice none 0 0,.slice (some ⟨sb,0,none⟩) 1 1],.int .i64 0]) (by simp[results,Tryz.results61,go_sem, *]) rfl ?_
     refine⟨A0d (A0d (A0d (A0d (A0d (A0d hbF (by omega)) (by omega)) (by omega)) (by omega)) (by omega)) (by omega),?_⟩
     rw[HT1.out]
     have f1:=fr2 x7b (x0:=.slice i0 j0 l0) (x1:=.slice i1 j1 l1)
     have x8r:((w7.setCell ⟨sb,0,none⟩ (.slice i0 j0 l0)).setCell ⟨sb,1,none⟩ (.slice i1 j1 l1)).heap[w.heap.size+2]?=some (.cells #[.int .i64 0,.slice none 0 0,.slice none 0 0,.slice none 0 0] 54 (0,0)):=by rw[Below.heap_setCell _ _ _ _ (show w.heap.size+2≠sb from n2'),Below.heap_setCell _ _ _ _ (show w.heap.size+2≠sb from n2')];exact x7r
     have f2:=D5m (x0:=.int .i64 x.number) (x1:=.slice none 0 0) (x2:=.slice none 0 0) (x3:=.slice (some ⟨sb,0,none⟩) 1 1) x8r (by decide)
     have f3:=f1.trans f2 (H:=[sb,w.heap.size+2]) (fun i h=>by rw[List.mem_singleton.1 h];simp) (fun i h=>.inl (by rw[List.mem_singleton.1 h];simp))
     have hin:=OwnB.inB n hown
     have hoF:=OwnB.fr n [sb,w.heap.size+2] _ _ cc hown f3 (fun k hk hm=>by have h1:=(hin k hk).1;have h2:=hDD.size;simp only[List.mem_cons,List.not_mem_nil,or_false] at hm;omega)
     have xF:((((((w7.setCell ⟨sb,0,none⟩ (.slice i0 j0 l0)).setCell ⟨sb,1,none⟩ (.slice i1 j1 l1)).setCell ⟨w.heap.size+2,0,none⟩ (.int .i64 x.number)).setCell ⟨w.heap.size+2,1,none⟩ (.slice none 0 0)).setCell ⟨w.heap.size+2,2,none⟩ (.slice none 0 0)).setCell ⟨w.heap.size+2,3,none⟩ (.slice (some ⟨sb,0,none⟩) 1 1)).heap[sb]?=some (.cells #[.slice i0 j0 l0,.slice i1 j1 l1] 29 (0,0)):=by
      rw[Below.heap_setCell _ _ _ _ (show sb≠w.heap.size+2 from n4'),Below.heap_setCell _ _ _ _ (show sb≠w.heap.size+2 from n4'),Below.heap_setCell _ _ _ _ (show sb≠w.heap.size+2 from n4'),Below.heap_setCell _ _ _ _ (show sb≠w.heap.size+2 from n4')]
      exact heap_setCell_same _ _ 1 _ _ _ (heap_setCell_same _ _ 0 _ _ _ x7b)
     have hgeF:∀ k∈LB.fp n cc,sb < k:=fun k hk=>by have h1:=(hin k hk).1;have h2:=hDD.size;omega
     refine⟨⟨x.number,[],[],[cc],(none,0,0),(none,0,0),(some ⟨sb,0,none⟩,1,1)⟩,rfl,by show(⟨x.number,[],[],[LB.pl n cc]⟩:VI (BI n))=_;rw[hpl],⟨Row.nil _ _ _,Row.nil _ _ _,fun z hz=>(List.not_mem_nil hz).elim,B8r (E:=ekB n) (by omega) (by rw[xF];show some (Obj.cells _ _ _)=some (Obj.cells (A6t n cc).toArray _ _);rw[henc];rfl),fun z hz=>?_⟩,fun k hk=>?_,?_⟩
     ·rw[List.mem_singleton.1 hz]
      exact OwnB.mono n hoF (by have h1:=hDD.size;omega)
     ·have hk:k∈[]++[]++[sb]++[cc].flatMap (LB.fp n):=hk
      simp only[List.nil_append,List.flatMap_cons,List.flatMap_nil,List.append_nil,List.mem_append,List.mem_singleton] at hk
      rcases hk with rfl|hk
      ·omega
      ·have:=hgeF k hk;omega
     ·show([]++[]++[sb]++[cc].flatMap (LB.fp n)).Nodup
      simp only[List.nil_append,List.flatMap_cons,List.flatMap_nil,List.append_nil,List.singleton_append]
      exact List.nodup_cons.2 ⟨fun hk=>by have:=hgeF _ hk;omega,hnd⟩
   ·have ek:(x.kind == 10)=false:=beq_eq_false_iff_ne.2 hk
    have hk89:x.kind=8∨x.kind=9:=by
     have:=HH2.out
     unfold A3t at this
     split at this
     ·cases this
     ·split at this
      ·cases this
      ·split at this
       ·omega
       ·cases this
    have HT1:Hid (R=if x.kind=8∧Lib.validD r.bytes=false then .error 9 else .ok ⟨x.number,[],[r.bytes],[]⟩):=by
     show _=_
     rw[←HR.out]
     unfold A3j
     rw[if_neg (by rw[HH2.out];simp),if_neg (by rw[hR];simp),if_neg hk]
    have hvl:=B6m (h.below YAt.stays hb4) (hT.below hb4)
    obtain⟨vB,HvB⟩:∃ vB,Hid (Lib.validD r.bytes=vB):=⟨_,rfl⟩
    rw[HvB.out] at hvl
    rw[HvB.out] at HT1
    obtain⟨k8,Hk8⟩:∃ k8,Hid (decide (x.kind=8)=k8):=⟨_,rfl⟩
    have ek8:(x.kind == 8)=k8:=by rw[←Hk8.out];rfl
    clear hH hR hk hdeep hk89
    unfold fdV
    go_enter Tryz.func61,Tryz.ntmps61
    go_wp2_with fail
    rw[←HW4.out]
    refine hho.mono ?_
    rintro e w5 ⟨rfl,rfl⟩
    go_upto_region 10 with fail
    clear t0 t1 t2 t3 t4 t5 t6 t7 t8 t9 y2 y3
    cases k8 with
    | true=>
     have hk8:x.kind=8:=of_decide_eq_true Hk8.out
     obtain⟨⟨t0,t1,t2,t3,t4,t5⟩,t6,t7,t8,t9⟩:=hcl W4 (Below.refl _ _)
     have HT2:Hid (R=if vB=false then .error 9 else .ok ⟨x.number,[],[r.bytes],[]⟩):=by
      show _=_
      rw[HT1.out]
      cases vB <;> simp[hk8]
     clear hk8 HT1
     go_wp2_with fail
     refine hvl.mono ?_
     rintro e w6 ⟨rfl,hb6⟩
     clear t0 t1 t2 t3 t4 t5 t6 t7 t8 t9
     cases vB with
     | true=>
      have HT1:Hid (R = .ok ⟨x.number,[],[r.bytes],[]⟩):=by show _=_;rw[HT2.out];rfl
      have hzV:W4.heap.size≤w6.heap.size:=hb6.size
      obtain⟨X7,HX7⟩:∃ X7,Hid (X7=w6.alloc (.cells #[.slice ao nb cap] 30)):=⟨_,rfl⟩
      have hX7:Below w6.heap.size w6 X7:=by rw[HX7.out];exact(Below.refl _ _).alloc (Nat.le_refl _) _
      have xX7:X7.heap[w6.heap.size]?=some (.cells #[.slice ao nb cap] 30 (0,0)):=by rw[HX7.out];exact heap_alloc_new _ _
      have hBX:Below W4.heap.size W4 X7:=KBT hb6 hX7
      obtain⟨y2',y3'⟩:=hclv (w6.alloc (.cells #[.slice ao nb cap] 30)) (by rw[←HX7.out];exact hBX)
      obtain⟨s0,s1,s2,s3⟩:=A5w y3'
      obtain⟨u0,u1,u2,u3⟩:=A5w y2'
      have fr2':=A0b y2'
      have fr3':=A0b y3'
      have ne1:¬ w.heap.size+3=w.heap.size+2:=by omega
      have ne2:¬ w.heap.size+2=w.heap.size+3:=by omega
      obtain⟨⟨t0,t1,t2,t3,t4,t5⟩,t6,t7,t8,t9⟩:=hcl w6 hb6
      have hrb:=HRD.out.below YAt.stays (KBT hb4 hBX)
      have HRB:Hid (RdL 1 YAt X7 (.slice ao nb cap) r.bytes):=hrb
      have HXX:Hid (X7.heap[w6.heap.size]?=some (.cells #[.slice ao nb cap] 30 (0,0))):=xX7
      clear hrb xX7 y2' y3'
      go_wp2_with fail
      rw[←HX7.out]
      refine bodyPost_ret (v:=.tuple #[.agg #[.int .i64 x.number,.slice none 0 0,.slice (some ⟨w6.heap.size,0,none⟩) 1 1,.slice none 0 0],.int .i64 0]) (by rw[HX7.out];simp[results,Tryz.results61,go_sem, *]) rfl ?_
      have hBF:∀ q:Value,Below w.heap.size w (((((X7.setCell ⟨w.heap.size+3,2,none⟩ q).setCell ⟨w.heap.size+2,0,none⟩ (.int .i64 x.number)).setCell ⟨w.heap.size+2,1,none⟩ (.slice none 0 0)).setCell ⟨w.heap.size+2,2,none⟩ q).setCell ⟨w.heap.size+2,3,none⟩ (.slice none 0 0)):=fun q=>A0d (A0d (A0d (A0d (A0d (KBT hb4 hBX) (by omega)) (by omega)) (by omega)) (by omega)) (by omega)
      refine⟨hBF _,?_⟩
      rw[HT1.out]
      have xF:∀ q:Value,(((((X7.setCell ⟨w.heap.size+3,2,none⟩ q).setCell ⟨w.heap.size+2,0,none⟩ (.int .i64 x.number)).setCell ⟨w.heap.size+2,1,none⟩ (.slice none 0 0)).setCell ⟨w.heap.size+2,2,none⟩ q).setCell ⟨w.heap.size+2,3,none⟩ (.slice none 0 0)).heap[w6.heap.size]?=some (.cells #[.slice ao nb cap] 30 (0,0)):=fun q=>by
       rw[Below.heap_setCell _ _ _ _ (show w6.heap.size≠w.heap.size+2 by omega),Below.heap_setCell _ _ _ _ (show w6.heap.size≠w.heap.size+2 by omega),Below.heap_setCell _ _ _ _ (show w6.heap.size≠w.heap.size+2 by omega),Below.heap_setCell _ _ _ _ (show w6.heap.size≠w.heap.size+2 by omega),Below.heap_setCell _ _ _ _ (show w6.heap.size≠w.heap.size+3 by omega)]
       exact HXX.out
      refine⟨⟨x.number,[],[(r.bytes,(ao,nb,cap))],[],(none,0,0),(some ⟨w6.heap.size,0,none⟩,1,1),(none,0,0)⟩,rfl,rfl,⟨Row.nil _ _ _,B8r (E:=ekZ) (by omega) (xF _),fun z hz=>?_,Row.nil _ _ _,fun z hz=>(List.not_mem_nil hz).elim⟩,fun k hk=>?_,?_⟩
      ·rw[List.mem_singleton.1 hz]
       exact HROW.out.below (hBF _)
      ·have hk:k∈[]++[w6.heap.size]++[]++[]:=hk
       simp at hk
       omega
      ·show([]++[w6.heap.size]++[]++[]).Nodup
       simp
     | false=>
      have HT1:Hid (R = .error 9):=by show _=_;rw[HT2.out];rfl
      obtain⟨y2,y3⟩:=hclv w6 hb6
      obtain⟨s0,s1,s2,s3⟩:=A5w y3
      obtain⟨u0,u1,u2,u3⟩:=A5w y2
      have fr2':=A0b y2
      have ne2:¬ w.heap.size+2=w.heap.size+3:=by omega
      go_wp2_with fail
      refine bodyPost_ret (v:=.tuple #[.agg #[.int .i64 x.number,.slice none 0 0,.slice none 0 0,.slice none 0 0],.int .i64 9]) (by simp[results,Tryz.results61,go_sem, *]) rfl ?_
      rw[HT1.out]
      exact⟨A0d (A0d (A0d (A0d (KBT hb4 hb6) (by omega)) (by omega)) (by omega)) (by omega),by decide,_,_,_,_,_,_,_,_,_,_,rfl⟩
    | false=>
     have hk8:¬ x.kind=8:=of_decide_eq_false Hk8.out
     have HT2:Hid (R = .ok ⟨x.number,[],[r.bytes],[]⟩):=by
      show _=_
      rw[HT1.out,if_neg (fun h=>hk8 h.1)]
     clear HT1
     have HT1:=HT2
     clear hk8
     have hbr:Below W4.heap.size W4 W4:=Below.refl _ _
     have hzV:W4.heap.size≤W4.heap.size:=hbr.size
     obtain⟨X7,HX7⟩:∃ X7,Hid (X7=W4.alloc (.cells #[.slice ao nb cap] 30)):=⟨_,rfl⟩
     have hX7:Below W4.heap.size W4 X7:=by rw[HX7.out];exact(Below.refl _ _).alloc (Nat.le_refl _) _
     have xX7:X7.heap[W4.heap.size]?=some (.cells #[.slice ao nb cap] 30 (0,0)):=by rw[HX7.out];exact heap_alloc_new _ _
     have hBX:Below W4.heap.size W4 X7:=KBT hbr hX7
     obtain⟨y2',y3'⟩:=hclv (W4.alloc (.cells #[.slice ao nb cap] 30)) (by rw[←HX7.out];exact hBX)
     obtain⟨s0,s1,s2,s3⟩:=A5w y3'
     obtain⟨u0,u1,u2,u3⟩:=A5w y2'
     have fr2':=A0b y2'
     have fr3':=A0b y3'
     have ne1:¬ w.heap.size+3=w.heap.size+2:=by omega
     have ne2:¬ w.heap.size+2=w.heap.size+3:=by omega
     obtain⟨⟨t0,t1,t2,t3,t4,t5⟩,t6,t7,t8,t9⟩:=hcl W4 hbr
     have hrb:=HRD.out.below YAt.stays (KBT hb4 hBX)
     have HRB:Hid (RdL 1 YAt X7 (.slice ao nb cap) r.bytes):=hrb
     have HXX:Hid (X7.heap[W4.heap.size]?=some (.cells #[.slice ao nb cap] 30 (0,0))):=xX7
     clear hrb xX7 y2' y3'
     go_wp2_with fail
     rw[←HX7.out]
     refine bodyPost_ret (v:=.tuple #[.agg #[.int .i64 x.number,.slice none 0 0,.slice (some ⟨W4.heap.size,0,none⟩) 1 1,.slice none 0 0],.int .i64 0]) (by rw[HX7.out];simp[results,Tryz.results61,go_sem, *]) rfl ?_
     have hBF:∀ q:Value,Below w.heap.size w (((((X7.setCell ⟨w.heap.size+3,2,none⟩ q).setCell ⟨w.heap.size+2,0,none⟩ (.int .i64 x.number)).setCell ⟨w.heap.size+2,1,none⟩ (.slice none 0 0)).setCell ⟨w.heap.size+2,2,none⟩ q).setCell ⟨w.heap.size+2,3,none⟩ (.slice none 0 0)):=fun q=>A0d (A0d (A0d (A0d (A0d (KBT hb4 hBX) (by omega)) (by omega)) (by omega)) (by omega)) (by omega)
     refine⟨hBF _,?_⟩
     rw[HT1.out]
     have xF:∀ q:Value,(((((X7.setCell ⟨w.heap.size+3,2,none⟩ q).setCell ⟨w.heap.size+2,0,none⟩ (.int .i64 x.number)).setCell ⟨w.heap.size+2,1,none⟩ (.slice none 0 0)).setCell ⟨w.heap.size+2,2,none⟩ q).setCell ⟨w.heap.size+2,3,none⟩ (.slice none 0 0)).heap[W4.heap.size]?=some (.cells #[.slice ao nb cap] 30 (0,0)):=fun q=>by
      rw[Below.heap_setCell _ _ _ _ (show W4.heap.size≠w.heap.size+2 by omega),Below.heap_setCell _ _ _ _ (show W4.heap.size≠w.heap.size+2 by omega),Below.heap_setCell _ _ _ _ (show W4.heap.size≠w.heap.size+2 by omega),Below.heap_setCell _ _ _ _ (show W4.heap.size≠w.heap.size+2 by omega),Below.heap_setCell _ _ _ _ (show W4.heap.size≠w.heap.size+3 by omega)]
      exact HXX.out
     refine⟨⟨x.number,[],[(r.bytes,(ao,nb,cap))],[],(none,0,0),(some ⟨W4.heap.size,0,none⟩,1,1),(none,0,0)⟩,rfl,rfl,⟨Row.nil _ _ _,B8r (E:=ekZ) (by omega) (xF _),fun z hz=>?_,Row.nil _ _ _,fun z hz=>(List.not_mem_nil hz).elim⟩,fun k hk=>?_,?_⟩
     ·rw[List.mem_singleton.1 hz]
      exact HROW.out.below (hBF _)
     ·have hk:k∈[]++[W4.heap.size]++[]++[]:=hk
      simp at hk
      omega
     ·show([]++[W4.heap.size]++[]++[]).Nodup
      simp
  ·have eR:(r.how != 2)=true:=by simpa using hR
   have HT1:Hid (R = .error 8):=by
    show _=_
    rw[←HR.out]
    unfold A3j
    rw[if_neg (by rw[HH2.out];simp),if_pos hR]
   clear hH hR hdeep
   obtain⟨s0,s1,s2,s3⟩:=A5w y3
   obtain⟨u0,u1,u2,u3⟩:=A5w y2
   have fr2':=A0b y2
   unfold fdV
   go_enter Tryz.func61,Tryz.ntmps61
   go_wp2_with fail
   rw[←HW4.out]
   refine hho.mono ?_
   rintro e w5 ⟨rfl,rfl⟩
   go_wp2_with fail
   refine bodyPost_ret (v:=.tuple #[.agg #[.int .i64 x.number,.slice none 0 0,.slice none 0 0,.slice none 0 0],.int .i64 8]) (by simp[results,Tryz.results61,go_sem, *]) rfl ?_
   rw[HT1.out]
   exact⟨A0d (A0d (A0d (A0d hb4 (by omega)) (by omega)) (by omega)) (by omega),by decide,_,_,_,_,_,_,_,_,_,_,rfl⟩
 ·have eH:(H != 2)=true:=by simpa using hH
  have HH2:Hid (A3t x.kind≠2):=by show _≠_;rw[HH.out];exact hH
  obtain⟨U,HU⟩:∃ U,Hid (tnN x r=U):=⟨_,rfl⟩
  have HT1:Hid (R=if U.2=0 then .ok ⟨x.number,U.1,[],[]⟩ else .error ((U.2:Nat):Int)):=by
   show _=_
   rw[←HR.out]
   unfold A3j
   rw[if_pos HH2.out,HU.out]
  have htn:=B1e x HH2.out r (h.below YAt.stays hb4) hl hb
  rw[HU.out] at htn
  unfold fdV at htn
  clear hH hdeep
  unfold fdV
  go_enter Tryz.func61,Tryz.ntmps61
  go_wp2_with fail
  rw[←HW4.out]
  refine hho.mono ?_
  rintro e w5 ⟨rfl,rfl⟩
  go_wp2_with fail
  refine htn.mono ?_
  rintro e w6 ⟨a6,n6,c6,rfl,hr6,hb6⟩
  clear t0 t1 t2 t3 t4 t5 t6 t7 t8 t9 y2 y3
  obtain⟨y2,y3⟩:=hclv w6 hb6
  have hz6:=hb6.size
  obtain⟨s0,s1,s2,s3⟩:=A5w y3
  obtain⟨u0,u1,u2,u3⟩:=A5w y2
  have fr2':=A0b y2
  have fr3':=A0b y3
  have hbw:=KBT hb4 hb6
  have ne1:¬ w.heap.size+3=w.heap.size+2:=by omega
  have ne2:¬ w.heap.size+2=w.heap.size+3:=by omega
  have hrF:=((((hr6.low (show w.heap.size+3 < W4.heap.size by omega) 1 (.slice a6 n6 c6)).low (show w.heap.size+2 < W4.heap.size by omega) 0 (.int .i64 x.number)).low (show w.heap.size+2 < W4.heap.size by omega) 1 (.slice a6 n6 c6)).low (show w.heap.size+2 < W4.heap.size by omega) 2 (.slice none 0 0)).low (show w.heap.size+2 < W4.heap.size by omega) 3 (.slice none 0 0)
  clear hr6
  go_wp2_with fail
  refine bodyPost_ret (v:=.tuple #[.agg #[.int .i64 x.number,.slice a6 n6 c6,.slice none 0 0,.slice none 0 0],.int .i64 ((U.2:Nat):Int)]) (by simp[results,Tryz.results61,go_sem, *]) rfl ?_
  refine⟨A0d (A0d (A0d (A0d (A0d hbw (by omega)) (by omega)) (by omega)) (by omega)) (by omega),?_⟩
  rw[HT1.out]
  by_cases hU:U.2=0
  ·rw[if_pos hU]
   refine⟨⟨x.number,U.1,[],[],(a6,n6,c6),(none,0,0),(none,0,0)⟩,by rw[hU];rfl,rfl,⟨hrF.mono (by omega),Row.nil _ _ _,fun z hz=>(List.not_mem_nil hz).elim,Row.nil _ _ _,fun z hz=>(List.not_mem_nil hz).elim⟩,fun k hk=>?_,?_⟩
   ·have hk:k∈own1 (a6,n6,c6)++[]++[]++[]:=hk
    simp only[List.append_nil] at hk
    have:=(Row.own1 (p:=(a6,n6,c6)) hrF k hk).1
    omega
   ·show(own1 (a6,n6,c6)++[]++[]++[]).Nodup
    simp only[List.append_nil]
    exact B4e _
  ·rw[if_neg hU]
   exact⟨by omega,_,_,_,_,_,_,_,_,_,_,rfl⟩
end L
end Go.Proofs.YtcagbdokbnpdfaaGreatDoor
