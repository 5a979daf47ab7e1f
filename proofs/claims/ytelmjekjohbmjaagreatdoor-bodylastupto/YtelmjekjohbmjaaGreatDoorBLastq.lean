import Derived.Test.YtelmjekjohbmjaaGreatDoorBGetIsq
import Derived.BigQuiet
import Derived.Deep.QuietTactic
/- The last one counts. -/
namespace Go.Proofs.YtelmjekjohbmjaaGreatDoor
namespace L
open Go.RowKit
set_option linter.unusedVariables false

theorem VLs.len {d : Nat} {w : World} {a1 : Option Addr} {n1 c1 : Nat} {a2 : Option Addr} {n2 c2 : Nat} {a3 : Option Addr} {n3 c3 : Nat} {v : VI (BI d)} (h : VLs d w a1 n1 c1 a2 n2 c2 a3 n3 c3 v) : manyN v = n1 + n2 + n3 := by
  have h1 := h.1.len.1
  have h2 := h.2.1.len.1
  have h3 := h.2.2.len.1
  unfold manyN
  omega
theorem many_le {d : Nat} {l : List (VI (BI d))} (h : ∀ v ∈ l, VOk (BOk d) v) (n : Int) : manyN ((l.find? (isV n)).getD zeroV) ≤ 100000000000000 := by
  cases hf : l.find? (isV n) with
  | none => simp [manyN, zeroV]
  | some v =>
    obtain ⟨_, _, h1, _, h2, _, h3⟩ := h v (List.mem_of_find?_eq_some hf)
    unfold reachBytes at h1 h2 h3
    show v.bits.length + v.bytes.length + v.subs.length ≤ _
    omega
def GotIs (d : Nat) (w : World) (n : Int) (r : Bool) (v : VI (BI d)) (e : Ending) (w' : World) : Prop := ∃ (a1 : Option Addr) (n1 c1 : Nat) (a2 : Option Addr) (n2 c2 : Nat) (a3 : Option Addr) (n3 c3 : Nat), e = .returned (.tuple #[.agg #[.int .i64 n, .slice a1 n1 c1, .slice a2 n2 c2, .slice a3 n3 c3], .bool r]) ∧ Hid (VLs d w' a1 n1 c1 a2 n2 c2 a3 n3 c3 v) ∧ Below w.heap.size w w'
set_option maxHeartbeats 8000000 in
set_option maxRecDepth 100000 in
theorem last_walk {g : GI} {am : Option Addr} {nm cm : Nat} {ae : Option Addr} {ne ce : Nat} {msg : Int} {w : World} (hI : WIn g am nm cm ae ne ce msg w) {d : Nat} {v0 v1 u0 u1 : Value} {a b : BI (d + 1)} (ha : BRd d w v0 v1 a) (hoka : BOk (d + 1) a) (hb : BRd d w u0 u1 b) (hokb : BOk (d + 1) b) (hW : jWB (d + 1) a + jWB (d + 1) b ≤ 1000000000) :
    Calls Tryz.prog 5 #[.agg #[.slice am nm cm, .slice ae ne ce], .int .i64 msg, .agg #[v0, v1], .agg #[u0, u1]] w fun e w' => e = .returned (.bool true) ∧ Below w.heap.size w w' := by
  obtain ⟨a0, o0, c0, a1, o1, c1, rfl, rfl⟩ := ha.shape
  obtain ⟨b0, m0, d0, b1, m1, d1, rfl, rfl⟩ := hb.shape
  obtain ⟨W3, HW3⟩ : ∃ W3, Hid (W3 = ((w.alloc (.cells #[.slice am nm cm, .slice ae ne ce] 25)).alloc (.cells #[.slice a0 o0 c0, .slice a1 o1 c1] 29)).alloc (.cells #[.slice b0 m0 d0, .slice b1 m1 d1] 29)) := ⟨_, rfl⟩
  obtain ⟨x2, x1, x0⟩ := alloc3 w (.cells #[.slice am nm cm, .slice ae ne ce] 25) (.cells #[.slice a0 o0 c0, .slice a1 o1 c1] 29) (.cells #[.slice b0 m0 d0, .slice b1 m1 d1] 29)
  rw [← HW3.out] at x0 x1 x2
  have hb3 : Below w.heap.size w W3 := by rw [HW3.out]; exact (((Below.refl _ _).alloc (Nat.le_refl _) _).alloc (by simp) _).alloc (by simp; omega) _
  have z3 := (Array.getElem?_eq_some_iff.1 x2).1
  have hal := alive4_any W3 (hI.tabs.below hb3)
  have hjn : ∀ V, Below W3.heap.size W3 V → Calls Tryz.prog 12 #[.agg #[.slice am nm cm, .slice ae ne ce], .int .i64 msg, .agg #[.slice a0 o0 c0, .slice a1 o1 c1], .agg #[.slice b0 m0 d0, .slice b1 m1 d1]] V fun e w' => Below V.heap.size V w' ∧ JoinOut V.heap.size g d msg a b e w' := fun V hV => by
    have hwV : Below w.heap.size w V := BTr hb3 hV
    exact join_any (hI.below hwV) (ha.below hwV) hoka (hb.below hwV) hokb hW
  have hbox : ∀ V, Below W3.heap.size W3 V → (V.cell? ⟨w.heap.size, 0, none⟩ = some (.slice am nm cm) ∧ V.cell? ⟨w.heap.size, 1, none⟩ = some (.slice ae ne ce) ∧ V.cell? ⟨w.heap.size + 1, 0, none⟩ = some (.slice a0 o0 c0) ∧ V.cell? ⟨w.heap.size + 1, 1, none⟩ = some (.slice a1 o1 c1)) ∧ V.cell? ⟨w.heap.size + 2, 0, none⟩ = some (.slice b0 m0 d0) ∧ V.cell? ⟨w.heap.size + 2, 1, none⟩ = some (.slice b1 m1 d1) := fun V hV => by
    obtain ⟨q0, q1⟩ := blk2 ((hV.block _ (by omega)).trans x0)
    obtain ⟨q2, q3⟩ := blk2 ((hV.block _ (by omega)).trans x1)
    exact ⟨⟨q0, q1, q2, q3⟩, blk2 ((hV.block _ (by omega)).trans x2)⟩
  have HI : Hid _ := hI
  have HA : Hid (BRd d w (.slice a0 o0 c0) (.slice a1 o1 c1) a) := ha
  have HB : Hid (BRd d w (.slice b0 m0 d0) (.slice b1 m1 d1) b) := hb
  have HOA : Hid (BOk (d + 1) a) := hoka
  have HOB : Hid (BOk (d + 1) b) := hokb
  have HWt : Hid _ := hW
  clear hI ha hb hoka hokb hW x0 x1 x2
  go_enter Tryz.func5, Tryz.ntmps5
  go_wp2_with fail
  rw [← HW3.out]
  refine hal.mono ?_
  rintro e V1 ⟨rfl, hb31⟩
  obtain ⟨⟨q1, q2, q3, q4⟩, q5, q6⟩ := hbox V1 hb31
  have hj := hjn V1 hb31
  clear hal hjn
  go_wp2_with fail
  refine hj.mono ?_
  rintro e V2 ⟨hb12, hout⟩
  have hb32 : Below W3.heap.size W3 V2 := BTr hb31 hb12
  clear q1 q2 q3 q4 q5 q6 hj
  rcases hout with ⟨hne, rfl⟩ | ⟨hje, M, e0, f0, g0, e1', f1', g1', hwa, hwb, hM, hwc, rfl, c, hc1, hc2, hc3⟩
  · generalize jerrN g d msg a b = F at hne ⊢
    have ez : (F != 0) = true := by simpa using hne
    have hsm := body_same (d := d) (w := V2.alloc (.cells #[.slice none 0 0, .slice none 0 0] 29)) (va := .slice none 0 0) (ua := .slice none 0 0) (vb := .slice none 0 0) (ub := .slice none 0 0) (b := ⟨[], []⟩) ⟨RdL.nil _ _ _, RdL.nil _ _ _⟩ ⟨RdL.nil _ _ _, RdL.nil _ _ _⟩
    have hbz : Below w.heap.size w (V2.alloc (.cells #[.slice none 0 0, .slice none 0 0] 29)) := BTr (BTr hb3 hb32) ((Below.refl _ _).alloc (Nat.le_refl _) _)
    clear hbox
    go_wp2_with fail
    refine hsm.mono ?_
    rintro e wS ⟨rfl, hbS⟩
    go_wp2
    go_ret
    exact ⟨rfl, BTr hbz hbS⟩
  · have ez : ((0 : Int) != 0) = false := rfl
    obtain ⟨hrl, hm0, hm1, M', hM', hbea⟩ := wrongB_inv hwa
    obtain rfl : M = M' := by rw [hM] at hM'; exact Option.some.inj hM'
    obtain ⟨_, _, _, M'', hM'', hbeb⟩ := wrongB_inv hwb
    obtain rfl : M = M'' := by rw [hM] at hM''; exact Option.some.inj hM''
    have hMm : M ∈ g.msgs := List.mem_of_getElem? hM
    have hrm := right_m hrl hMm
    obtain ⟨_, hRb, _⟩ := bodyE_inv hbeb
    have hcr := own_rd hc1 hc2 hc3
    have hokc : BOk (d + 1) (jnB g.msgs (d + 1) M a b) := join_ok HOA.out HOB.out HWt.out
    obtain ⟨bm, om, rfl, hmat⟩ := HI.out.hg.1.get MAt.plain hM
    obtain ⟨vf, vb, hn0, hn1, hn2, hfs, hbs⟩ := hmat
    rw [add_plain] at hn1 hn2
    obtain ⟨af, nf, cf, rfl, Hnf, _⟩ := hfs.shape
    obtain ⟨j, rfl⟩ : ∃ j : Nat, msg = (j : Int) := ⟨msg.toNat, by omega⟩
    rw [Int.toNat_natCast] at hn0 hn1 hn2
    have hjn : (j : Int) < (nm : Int) := by have := HI.out.hg.1.len.1; omega
    have hj0 : ¬ (j : Int) < 0 := by omega
    obtain ⟨W9, HW9⟩ : ∃ W9, Hid (W9 = V2.alloc (.cells #[.slice e0 f0 g0, .slice e1' f1' g1'] 29)) := ⟨_, rfl⟩
    have hb29 : Below V2.heap.size V2 W9 := by rw [HW9.out]; exact (Below.refl _ _).alloc (Nat.le_refl _) _
    have x9 : W9.heap[V2.heap.size]? = some (.cells #[.slice e0 f0 g0, .slice e1' f1' g1'] 29 (0, 0)) := by rw [HW9.out]; exact heap_alloc_new _ _
    have hb39 : Below W3.heap.size W3 W9 := BTr hb32 hb29
    have hb09 : Below w.heap.size w W9 := BTr hb3 hb39
    have hl9 := (Array.getElem?_eq_some_iff.1 x9).1
    have hcells : ∀ V, Below W9.heap.size W9 V → ((V.cell? ⟨w.heap.size, 0, none⟩ = some (.slice (some ⟨bm, om, none⟩) nm cm) ∧ V.cell? ⟨w.heap.size, 1, none⟩ = some (.slice ae ne ce) ∧ V.cell? ⟨w.heap.size + 1, 0, none⟩ = some (.slice a0 o0 c0) ∧ V.cell? ⟨w.heap.size + 1, 1, none⟩ = some (.slice a1 o1 c1)) ∧ V.cell? ⟨w.heap.size + 2, 0, none⟩ = some (.slice b0 m0 d0) ∧ V.cell? ⟨w.heap.size + 2, 1, none⟩ = some (.slice b1 m1 d1)) ∧ V.cell? ⟨V2.heap.size, 0, none⟩ = some (.slice e0 f0 g0) ∧ V.cell? ⟨V2.heap.size, 1, none⟩ = some (.slice e1' f1' g1') ∧ V.cell? ⟨bm, om + j * 3 + 1, none⟩ = some (.slice af nf cf) := fun V hV => by
      obtain ⟨q0, q1⟩ := blk2 ((hV.block _ hl9).trans x9)
      exact ⟨hbox V (BTr hb39 hV), q0, q1, cell_below (BTr hb09 hV) hn1⟩
    have hgA0 : ∀ (n : Int) (r : Option (VI (BI d))), (BO.vals a).find? (isV n) = r → ∀ V, Below W9.heap.size W9 V → Calls Tryz.prog 14 #[.agg #[.slice a0 o0 c0, .slice a1 o1 c1], .int .i64 n] V (fun e w' => GotIs d V (r.getD zeroV).number r.isSome (r.getD zeroV) e w') := fun n r hr V hV => get_is (HA.out.below (BTr hb09 hV)) HOA.out.1 n hr
    have hgB0 : ∀ (n : Int) (r : Option (VI (BI d))), (BO.vals b).find? (isV n) = r → ∀ V, Below W9.heap.size W9 V → Calls Tryz.prog 14 #[.agg #[.slice b0 m0 d0, .slice b1 m1 d1], .int .i64 n] V (fun e w' => GotIs d V (r.getD zeroV).number r.isSome (r.getD zeroV) e w') := fun n r hr V hV => get_is (HB.out.below (BTr hb09 hV)) HOB.out.1 n hr
    have hgC0 : ∀ (n : Int) (r : Option (VI (BI d))), (BO.vals (jnB g.msgs (d + 1) M a b)).find? (isV n) = r → ∀ V, Below W9.heap.size W9 V → Calls Tryz.prog 14 #[.agg #[.slice e0 f0 g0, .slice e1' f1' g1'], .int .i64 n] V (fun e w' => GotIs d V (r.getD zeroV).number r.isSome (r.getD zeroV) e w') := fun n r hr V hV => get_is (hcr.below (BTr hb29 hV)) hokc.1 n hr
    have HRM : Hid (RtM M.fields ∧ RtL M.fields _ (BO.vals b)) := ⟨hrm, hRb⟩
    have HFS : Hid (RdL 6 FAt w (.slice af nf cf) M.fields) := hfs
    have HOKC : Hid (BOk (d + 1) (jnB g.msgs (d + 1) M a b)) := hokc
    have HCL : Hid (f1' = o1 + m1) := by
      have h1 := hcr.2.len.1
      have h2 := HA.out.2.len.1
      have h3 := HB.out.2.len.1
      have h4 : BO.unk (jnB g.msgs (d + 1) M a b) = BO.unk a ++ BO.unk b := rfl
      rw [h4, List.length_append] at h1
      show _ = _
      omega
    have hbu : o1 ≤ 140737488355328 ∧ m1 ≤ 140737488355328 := by
      have h2 := HA.out.2.len.1
      have h3 := HB.out.2.len.1
      have h4 := HOA.out.2.2.2
      have h5 := HOB.out.2.2.2
      unfold reachBytes at h4 h5
      omega
    obtain ⟨hbu1, hbu2⟩ := hbu
    have hnf : nf ≤ 16 := by
      have h1 := (rightM ((right_inv hrl).2.2 M hMm)).1
      have h2 := Hnf.out
      omega
    clear hbox hrm hRb hfs hbs hokc hcr hc1 hc2 hc3 hwa hwb hwc hM hM' hM'' hbea hbeb hrl hMm hje hn0 hn1 hn2
    obtain ⟨⟨⟨q1, q2, q3, q4⟩, q5, q6⟩, q7, q8, q9⟩ := hcells (V2.alloc (.cells #[.slice e0 f0 g0, .slice e1' f1' g1'] 29)) (by rw [← HW9.out]; exact Below.refl _ _)
    go_wp2_with fail
    rw [← HW9.out]
    clear q1 q2 q3 q4 q5 q6 q7 q8 q9
    go_loopg [48] nf (fun gm s48 wr => ∃ k : Nat, k + gm = nf ∧ s48 = .int .i64 (k : Int) ∧ Below W9.heap.size W9 wr)
    case atStart => exact ⟨0, by omega, rfl, Below.refl _ _⟩
    case round =>
      obtain ⟨k, hk, rfl, hbr0⟩ := hrel
      by_cases hlt : k < nf
      · obtain ⟨x, Hx⟩ : ∃ x, Hid (M.fields[k]? = some x) := ⟨M.fields[k]'(by have := Hnf.out; omega), List.getElem?_eq_getElem _⟩
        have HXM : Hid (x ∈ M.fields) := List.mem_of_getElem? Hx.out
        have hkk : (k : Int) < (nf : Int) := by omega
        obtain ⟨bf, of, rfl, hfat⟩ := (HFS.out.below FAt.stays (BTr hb09 hbr0)).get FAt.plain Hx.out
        obtain ⟨y0, y1, y2, y3, y4, y5⟩ := hfat
        rw [add_plain] at y1 y2 y3 y4 y5
        obtain ⟨mb, HMb⟩ : ∃ mb, Hid (x.many = mb) := ⟨_, rfl⟩
        rw [HMb.out] at y4
        obtain ⟨U1, HU1⟩ : ∃ U1, Hid (U1 = wr.alloc (.cells #[.string (S x.name), .int .i64 x.number, .int .i64 x.kind, .string (S x.type), .bool mb, .int .i64 x.choice] 53)) := ⟨_, rfl⟩
        have hbr1 : Below wr.heap.size wr U1 := by rw [HU1.out]; exact (Below.refl _ _).alloc (Nat.le_refl _) _
        have xU : U1.heap[wr.heap.size]? = some (.cells #[.string (S x.name), .int .i64 x.number, .int .i64 x.kind, .string (S x.type), .bool mb, .int .i64 x.choice] 53 (0, 0)) := by rw [HU1.out]; exact heap_alloc_new _ _
        have hbU : Below W9.heap.size W9 U1 := BTr hbr0 hbr1
        have hlU := (Array.getElem?_eq_some_iff.1 xU).1
        have hloc : ∀ V, Below U1.heap.size U1 V → (V.cell? ⟨w.heap.size + 1, 0, none⟩ = some (.slice a0 o0 c0) ∧ V.cell? ⟨w.heap.size + 1, 1, none⟩ = some (.slice a1 o1 c1) ∧ V.cell? ⟨w.heap.size + 2, 0, none⟩ = some (.slice b0 m0 d0) ∧ V.cell? ⟨w.heap.size + 2, 1, none⟩ = some (.slice b1 m1 d1)) ∧ (V.cell? ⟨V2.heap.size, 0, none⟩ = some (.slice e0 f0 g0) ∧ V.cell? ⟨V2.heap.size, 1, none⟩ = some (.slice e1' f1' g1')) ∧ V.cell? ⟨wr.heap.size, 1, none⟩ = some (.int .i64 x.number) ∧ V.cell? ⟨wr.heap.size, 2, none⟩ = some (.int .i64 x.kind) ∧ V.cell? ⟨wr.heap.size, 4, none⟩ = some (.bool mb) ∧ V.cell? ⟨wr.heap.size, 5, none⟩ = some (.int .i64 x.choice) := fun V hV => by
          obtain ⟨⟨⟨_, _, p3, p4⟩, p5, p6⟩, p7, p8, _⟩ := hcells V (BTr hbU hV)
          obtain ⟨_, r1, r2, _, r4, r5⟩ := blk6 ((hV.block _ hlU).trans xU)
          exact ⟨⟨p3, p4, p5, p6⟩, ⟨p7, p8⟩, r1, r2, r4, r5⟩
        have hlk := look_join (g := g) (a := a) HRM.out.2 x.number
        obtain ⟨A, HAf⟩ : ∃ A, Hid ((BO.vals a).find? (isV x.number) = A) := ⟨_, rfl⟩
        obtain ⟨B, HBf⟩ : ∃ B, Hid ((BO.vals b).find? (isV x.number) = B) := ⟨_, rfl⟩
        obtain ⟨C, HCf⟩ : ∃ C, Hid ((BO.vals (jnB g.msgs (d + 1) M a b)).find? (isV x.number) = C) := ⟨_, rfl⟩
        obtain ⟨vA, bA, HvA, HbA, hgA⟩ : ∃ vA bA, Hid (A.getD zeroV = vA) ∧ Hid (A.isSome = bA) ∧ ∀ V, Below W9.heap.size W9 V → Calls Tryz.prog 14 #[.agg #[.slice a0 o0 c0, .slice a1 o1 c1], .int .i64 x.number] V fun e w' => GotIs d V vA.number bA vA e w' := ⟨_, _, rfl, rfl, hgA0 x.number A HAf.out⟩
        obtain ⟨vB, bB, HvB, HbB, hgB⟩ : ∃ vB bB, Hid (B.getD zeroV = vB) ∧ Hid (B.isSome = bB) ∧ ∀ V, Below W9.heap.size W9 V → Calls Tryz.prog 14 #[.agg #[.slice b0 m0 d0, .slice b1 m1 d1], .int .i64 x.number] V fun e w' => GotIs d V vB.number bB vB e w' := ⟨_, _, rfl, rfl, hgB0 x.number B HBf.out⟩
        obtain ⟨vC, bC, HvC, HbC, hgC⟩ : ∃ vC bC, Hid (C.getD zeroV = vC) ∧ Hid (C.isSome = bC) ∧ ∀ V, Below W9.heap.size W9 V → Calls Tryz.prog 14 #[.agg #[.slice e0 f0 g0, .slice e1' f1' g1'], .int .i64 x.number] V fun e w' => GotIs d V vC.number bC vC e w' := ⟨_, _, rfl, rfl, hgC0 x.number C HCf.out⟩
        have HLk : Hid (lookN (jnB g.msgs d) g.msgs M.fields x.number (BO.vals a) (BO.vals b) = C) := by
          show _ = _
          rw [← hlk]
          exact HCf.out
        obtain ⟨⟨h1, h2, h3, h4⟩, ⟨h5, h6⟩, h7, h8, h9, h10⟩ := hloc (wr.alloc (.cells #[.string (S x.name), .int .i64 x.number, .int .i64 x.kind, .string (S x.type), .bool mb, .int .i64 x.choice] 53)) (by rw [← HU1.out]; exact Below.refl _ _)
        clear hlk
        cases mb with
        | true =>
          have HMany : Hid (manyN vC = manyN vA + manyN vB ∧ manyN vA ≤ 100000000000000 ∧ manyN vB ≤ 100000000000000 ∧ manyN vC ≤ 100000000000000) := by
            have h0 := last_many (J := jnB g.msgs d) (ms := g.msgs) (a := BO.vals a) (b := BO.vals b) HRM.out.1 HXM.out HMb.out
            rw [HLk.out, HAf.out, HBf.out, HvA.out, HvB.out, HvC.out] at h0
            have l1 := many_le HOA.out.1 x.number
            have l2 := many_le HOB.out.1 x.number
            have l3 := many_le HOKC.out.1 x.number
            rw [HAf.out, HvA.out] at l1
            rw [HBf.out, HvB.out] at l2
            rw [HCf.out, HvC.out] at l3
            exact ⟨h0, l1, l2, l3⟩
          as_aux_lemma =>
            go_wp2_with fail
            rw [← HU1.out]
            refine (hgA U1 hbU).mono ?_
            rintro e Vp ⟨p1, i1, j1, p2, i2, j2, p3, i3, j3, rfl, HRp, hbp⟩
            obtain ⟨Up, HUp⟩ : ∃ Up, Hid (Up = Vp.alloc (.cells #[.int .i64 vA.number, .slice p1 i1 j1, .slice p2 i2 j2, .slice p3 i3 j3] 34)) := ⟨_, rfl⟩
            have hbp1 : Below Vp.heap.size Vp Up := by rw [HUp.out]; exact (Below.refl _ _).alloc (Nat.le_refl _) _
            have xp : Up.heap[Vp.heap.size]? = some (.cells #[.int .i64 vA.number, .slice p1 i1 j1, .slice p2 i2 j2, .slice p3 i3 j3] 34 (0, 0)) := by rw [HUp.out]; exact heap_alloc_new _ _
            have hbU1p : Below U1.heap.size U1 Up := BTr hbp hbp1
            have hb9p : Below W9.heap.size W9 Up := BTr hbU hbU1p
            have HCp : Hid _ := hloc Up hbU1p
            obtain ⟨⟨h1, h2, h3, h4⟩, ⟨h5, h6⟩, h7, h8, h9, h10⟩ := hloc (Vp.alloc (.cells #[.int .i64 vA.number, .slice p1 i1 j1, .slice p2 i2 j2, .slice p3 i3 j3] 34)) (by rw [← HUp.out]; exact hbU1p)
            go_wp2_with fail
            rw [← HUp.out]
            refine (hgB Up hb9p).mono ?_
            rintro e Vq ⟨t1, k1, l1, t2, k2, l2, t3, k3, l3, rfl, HRq, hbq⟩
            obtain ⟨Uq, HUq⟩ : ∃ Uq, Hid (Uq = Vq.alloc (.cells #[.int .i64 vB.number, .slice t1 k1 l1, .slice t2 k2 l2, .slice t3 k3 l3] 34)) := ⟨_, rfl⟩
            have hbq1 : Below Vq.heap.size Vq Uq := by rw [HUq.out]; exact (Below.refl _ _).alloc (Nat.le_refl _) _
            have xq : Uq.heap[Vq.heap.size]? = some (.cells #[.int .i64 vB.number, .slice t1 k1 l1, .slice t2 k2 l2, .slice t3 k3 l3] 34 (0, 0)) := by rw [HUq.out]; exact heap_alloc_new _ _
            have hbpq : Below Up.heap.size Up Uq := BTr hbq hbq1
            have hbU1q : Below U1.heap.size U1 Uq := BTr hbU1p hbpq
            have hb9q : Below W9.heap.size W9 Uq := BTr hbU hbU1q
            clear h1 h2 h3 h4 h5 h6 h7 h8 h9 h10
            obtain ⟨⟨h1, h2, h3, h4⟩, ⟨h5, h6⟩, h7, h8, h9, h10⟩ := hloc (Vq.alloc (.cells #[.int .i64 vB.number, .slice t1 k1 l1, .slice t2 k2 l2, .slice t3 k3 l3] 34)) (by rw [← HUq.out]; exact hbU1q)
            go_wp2_with fail
            rw [← HUq.out]
            refine (hgC Uq hb9q).mono ?_
            rintro e Vr ⟨r1, n1, s1, r2, n2, s2, r3, n3, s3, rfl, HRr, hbr⟩
            obtain ⟨Ur, HUr⟩ : ∃ Ur, Hid (Ur = Vr.alloc (.cells #[.int .i64 vC.number, .slice r1 n1 s1, .slice r2 n2 s2, .slice r3 n3 s3] 34)) := ⟨_, rfl⟩
            have hbr1 : Below Vr.heap.size Vr Ur := by rw [HUr.out]; exact (Below.refl _ _).alloc (Nat.le_refl _) _
            have xr : Ur.heap[Vr.heap.size]? = some (.cells #[.int .i64 vC.number, .slice r1 n1 s1, .slice r2 n2 s2, .slice r3 n3 s3] 34 (0, 0)) := by rw [HUr.out]; exact heap_alloc_new _ _
            have hbqr : Below Uq.heap.size Uq Ur := BTr hbr hbr1
            have hbU1r : Below U1.heap.size U1 Ur := BTr hbU1q hbqr
            have hb9r : Below W9.heap.size W9 Ur := BTr hbU hbU1r
            have xp' := (hbqr.block _ (Nat.lt_of_lt_of_le (Array.getElem?_eq_some_iff.1 xp).1 hbpq.size)).trans ((hbpq.block _ (Array.getElem?_eq_some_iff.1 xp).1).trans xp)
            have xq' := (hbqr.block _ (Array.getElem?_eq_some_iff.1 xq).1).trans xq
            clear h1 h2 h3 h4 h5 h6 h7 h8 h9 h10
            have hbRr : ∀ V, Below Ur.heap.size Ur V → Below W9.heap.size W9 V := fun V hV => BTr hb9r hV
            obtain ⟨⟨h1, h2, h3, h4⟩, ⟨h5, h6⟩, h7, h8, h9, h10⟩ := hloc (Vr.alloc (.cells #[.int .i64 vC.number, .slice r1 n1 s1, .slice r2 n2 s2, .slice r3 n3 s3] 34)) (by rw [← HUr.out]; exact hbU1r)
            obtain ⟨gp0, gp1, gp2, gp3⟩ := blk4' (show (Vr.alloc (.cells #[.int .i64 vC.number, .slice r1 n1 s1, .slice r2 n2 s2, .slice r3 n3 s3] 34)).heap[Vp.heap.size]? = _ by rw [← HUr.out]; exact xp')
            obtain ⟨gq0, gq1, gq2, gq3⟩ := blk4' (show (Vr.alloc (.cells #[.int .i64 vC.number, .slice r1 n1 s1, .slice r2 n2 s2, .slice r3 n3 s3] 34)).heap[Vq.heap.size]? = _ by rw [← HUr.out]; exact xq')
            have hs1 := HRp.out.len
            have hs2 := HRq.out.len
            have hs3 := HRr.out.len
            obtain ⟨hs4, hs5, hs6, hs7⟩ := HMany.out
            have c1 : i1 ≤ 100000000000000 := by omega
            have c2 : i2 ≤ 100000000000000 := by omega
            have c3 : i3 ≤ 100000000000000 := by omega
            have c4 : k1 ≤ 100000000000000 := by omega
            have c5 : k2 ≤ 100000000000000 := by omega
            have c6 : k3 ≤ 100000000000000 := by omega
            have c7 : n1 ≤ 100000000000000 := by omega
            have c8 : n2 ≤ 100000000000000 := by omega
            have c9 : n3 ≤ 100000000000000 := by omega
            have ceq : (((n1 : Int) + (n2 : Int) + (n3 : Int)) != ((i1 : Int) + (i2 : Int) + (i3 : Int) + (k1 : Int) + (k2 : Int) + (k3 : Int))) = false := bne_eq_false_iff_eq.2 (by omega)
            clear hs1 hs2 hs3 hs4 hs5 hs6 hs7 hloc hgA hgB hgC hcells hgA0 hgB0 hgC0
            go_wp2_with fail
            rw [← HUr.out]
            go_roundg (nf - (k + 1))
            case measure => omega
            case rel => exact ⟨k + 1, by omega, by go_num, hb9r⟩
        | false =>
          cases bB with
          | true =>
            have HBs : Hid ((BO.vals b).find? (isV x.number) = some vB) := by
              obtain ⟨v, hv⟩ := Option.isSome_iff_exists.1 HbB.out
              have h0 := HvB.out
              rw [hv] at h0
              have h0' : v = vB := h0
              show _ = _
              rw [HBf.out, hv, h0']
            cases bA with
            | true =>
              by_cases hk10 : x.kind = 10
              · have hkb : (x.kind == 10) = true := beq_iff_eq.2 hk10
                clear hk10
                as_aux_lemma =>
                  go_wp2_with fail
                  rw [← HU1.out]
                  refine (hgA U1 hbU).mono ?_
                  rintro e Vp ⟨p1, i1, j1, p2, i2, j2, p3, i3, j3, rfl, HRp, hbp⟩
                  obtain ⟨Up, HUp⟩ : ∃ Up, Hid (Up = Vp.alloc (.cells #[.int .i64 vA.number, .slice p1 i1 j1, .slice p2 i2 j2, .slice p3 i3 j3] 34)) := ⟨_, rfl⟩
                  have hbp1 : Below Vp.heap.size Vp Up := by rw [HUp.out]; exact (Below.refl _ _).alloc (Nat.le_refl _) _
                  have xp : Up.heap[Vp.heap.size]? = some (.cells #[.int .i64 vA.number, .slice p1 i1 j1, .slice p2 i2 j2, .slice p3 i3 j3] 34 (0, 0)) := by rw [HUp.out]; exact heap_alloc_new _ _
                  have hbU1p : Below U1.heap.size U1 Up := BTr hbp hbp1
                  have hb9p : Below W9.heap.size W9 Up := BTr hbU hbU1p
                  have HCp : Hid _ := hloc Up hbU1p
                  obtain ⟨⟨h1, h2, h3, h4⟩, ⟨h5, h6⟩, h7, h8, h9, h10⟩ := hloc (Vp.alloc (.cells #[.int .i64 vA.number, .slice p1 i1 j1, .slice p2 i2 j2, .slice p3 i3 j3] 34)) (by rw [← HUp.out]; exact hbU1p)
                  go_wp2_with fail
                  rw [← HUp.out]
                  refine (hgB Up hb9p).mono ?_
                  rintro e Vq ⟨t1, k1, l1, t2, k2, l2, t3, k3, l3, rfl, HRq, hbq⟩
                  obtain ⟨Uq, HUq⟩ : ∃ Uq, Hid (Uq = Vq.alloc (.cells #[.int .i64 vB.number, .slice t1 k1 l1, .slice t2 k2 l2, .slice t3 k3 l3] 34)) := ⟨_, rfl⟩
                  have hbq1 : Below Vq.heap.size Vq Uq := by rw [HUq.out]; exact (Below.refl _ _).alloc (Nat.le_refl _) _
                  have xq : Uq.heap[Vq.heap.size]? = some (.cells #[.int .i64 vB.number, .slice t1 k1 l1, .slice t2 k2 l2, .slice t3 k3 l3] 34 (0, 0)) := by rw [HUq.out]; exact heap_alloc_new _ _
                  have hbpq : Below Up.heap.size Up Uq := BTr hbq hbq1
                  have hbU1q : Below U1.heap.size U1 Uq := BTr hbU1p hbpq
                  have hb9q : Below W9.heap.size W9 Uq := BTr hbU hbU1q
                  clear h1 h2 h3 h4 h5 h6 h7 h8 h9 h10
                  obtain ⟨⟨h1, h2, h3, h4⟩, ⟨h5, h6⟩, h7, h8, h9, h10⟩ := hloc (Vq.alloc (.cells #[.int .i64 vB.number, .slice t1 k1 l1, .slice t2 k2 l2, .slice t3 k3 l3] 34)) (by rw [← HUq.out]; exact hbU1q)
                  go_wp2_with fail
                  rw [← HUq.out]
                  refine (hgC Uq hb9q).mono ?_
                  rintro e Vr ⟨r1, n1, s1, r2, n2, s2, r3, n3, s3, rfl, HRr, hbr⟩
                  obtain ⟨Ur, HUr⟩ : ∃ Ur, Hid (Ur = Vr.alloc (.cells #[.int .i64 vC.number, .slice r1 n1 s1, .slice r2 n2 s2, .slice r3 n3 s3] 34)) := ⟨_, rfl⟩
                  have hbr1 : Below Vr.heap.size Vr Ur := by rw [HUr.out]; exact (Below.refl _ _).alloc (Nat.le_refl _) _
                  have xr : Ur.heap[Vr.heap.size]? = some (.cells #[.int .i64 vC.number, .slice r1 n1 s1, .slice r2 n2 s2, .slice r3 n3 s3] 34 (0, 0)) := by rw [HUr.out]; exact heap_alloc_new _ _
                  have hbqr : Below Uq.heap.size Uq Ur := BTr hbr hbr1
                  have hbU1r : Below U1.heap.size U1 Ur := BTr hbU1q hbqr
                  have hb9r : Below W9.heap.size W9 Ur := BTr hbU hbU1r
                  have xp' := (hbqr.block _ (Nat.lt_of_lt_of_le (Array.getElem?_eq_some_iff.1 xp).1 hbpq.size)).trans ((hbpq.block _ (Array.getElem?_eq_some_iff.1 xp).1).trans xp)
                  have xq' := (hbqr.block _ (Array.getElem?_eq_some_iff.1 xq).1).trans xq
                  clear h1 h2 h3 h4 h5 h6 h7 h8 h9 h10
                  have hbRr : ∀ V, Below Ur.heap.size Ur V → Below W9.heap.size W9 V := fun V hV => BTr hb9r hV
                  obtain ⟨⟨h1, h2, h3, h4⟩, ⟨h5, h6⟩, h7, h8, h9, h10⟩ := hloc (Vr.alloc (.cells #[.int .i64 vC.number, .slice r1 n1 s1, .slice r2 n2 s2, .slice r3 n3 s3] 34)) (by rw [← HUr.out]; exact hbU1r)
                  clear hcells hgA0 hgB0 hgC0 hgA hgB hgC hloc
                  go_wp2_with fail
                  rw [← HUr.out]
                  go_roundg (nf - (k + 1))
                  case measure => omega
                  case rel => exact ⟨k + 1, by omega, by go_num, hb9r⟩
              · have hkb : (x.kind == 10) = false := beq_eq_false_iff_ne.2 hk10
                have hCs := last_has (J := jnB g.msgs d) (ms := g.msgs) (a := BO.vals a) (b := BO.vals b) HRM.out.1 HXM.out HMb.out HBs.out (.inr hk10)
                clear hk10
                as_aux_lemma =>
                  obtain rfl : bC = true := by rw [← HbC.out, ← HLk.out, hCs]; rfl
                  have HVC : Hid (vC = vB) := by
                    show _ = _
                    rw [← HvC.out, ← HLk.out, hCs]
                    rfl
                  clear hCs
                  go_wp2_with fail
                  rw [← HU1.out]
                  refine (hgA U1 hbU).mono ?_
                  rintro e Vp ⟨p1, i1, j1, p2, i2, j2, p3, i3, j3, rfl, HRp, hbp⟩
                  obtain ⟨Up, HUp⟩ : ∃ Up, Hid (Up = Vp.alloc (.cells #[.int .i64 vA.number, .slice p1 i1 j1, .slice p2 i2 j2, .slice p3 i3 j3] 34)) := ⟨_, rfl⟩
                  have hbp1 : Below Vp.heap.size Vp Up := by rw [HUp.out]; exact (Below.refl _ _).alloc (Nat.le_refl _) _
                  have xp : Up.heap[Vp.heap.size]? = some (.cells #[.int .i64 vA.number, .slice p1 i1 j1, .slice p2 i2 j2, .slice p3 i3 j3] 34 (0, 0)) := by rw [HUp.out]; exact heap_alloc_new _ _
                  have hbU1p : Below U1.heap.size U1 Up := BTr hbp hbp1
                  have hb9p : Below W9.heap.size W9 Up := BTr hbU hbU1p
                  have HCp : Hid _ := hloc Up hbU1p
                  obtain ⟨⟨h1, h2, h3, h4⟩, ⟨h5, h6⟩, h7, h8, h9, h10⟩ := hloc (Vp.alloc (.cells #[.int .i64 vA.number, .slice p1 i1 j1, .slice p2 i2 j2, .slice p3 i3 j3] 34)) (by rw [← HUp.out]; exact hbU1p)
                  go_wp2_with fail
                  rw [← HUp.out]
                  refine (hgB Up hb9p).mono ?_
                  rintro e Vq ⟨t1, k1, l1, t2, k2, l2, t3, k3, l3, rfl, HRq, hbq⟩
                  obtain ⟨Uq, HUq⟩ : ∃ Uq, Hid (Uq = Vq.alloc (.cells #[.int .i64 vB.number, .slice t1 k1 l1, .slice t2 k2 l2, .slice t3 k3 l3] 34)) := ⟨_, rfl⟩
                  have hbq1 : Below Vq.heap.size Vq Uq := by rw [HUq.out]; exact (Below.refl _ _).alloc (Nat.le_refl _) _
                  have xq : Uq.heap[Vq.heap.size]? = some (.cells #[.int .i64 vB.number, .slice t1 k1 l1, .slice t2 k2 l2, .slice t3 k3 l3] 34 (0, 0)) := by rw [HUq.out]; exact heap_alloc_new _ _
                  have hbpq : Below Up.heap.size Up Uq := BTr hbq hbq1
                  have hbU1q : Below U1.heap.size U1 Uq := BTr hbU1p hbpq
                  have hb9q : Below W9.heap.size W9 Uq := BTr hbU hbU1q
                  clear h1 h2 h3 h4 h5 h6 h7 h8 h9 h10
                  obtain ⟨⟨h1, h2, h3, h4⟩, ⟨h5, h6⟩, h7, h8, h9, h10⟩ := hloc (Vq.alloc (.cells #[.int .i64 vB.number, .slice t1 k1 l1, .slice t2 k2 l2, .slice t3 k3 l3] 34)) (by rw [← HUq.out]; exact hbU1q)
                  go_wp2_with fail
                  rw [← HUq.out]
                  refine (hgC Uq hb9q).mono ?_
                  rintro e Vr ⟨r1, n1, s1, r2, n2, s2, r3, n3, s3, rfl, HRr, hbr⟩
                  obtain ⟨Ur, HUr⟩ : ∃ Ur, Hid (Ur = Vr.alloc (.cells #[.int .i64 vC.number, .slice r1 n1 s1, .slice r2 n2 s2, .slice r3 n3 s3] 34)) := ⟨_, rfl⟩
                  have hbr1 : Below Vr.heap.size Vr Ur := by rw [HUr.out]; exact (Below.refl _ _).alloc (Nat.le_refl _) _
                  have xr : Ur.heap[Vr.heap.size]? = some (.cells #[.int .i64 vC.number, .slice r1 n1 s1, .slice r2 n2 s2, .slice r3 n3 s3] 34 (0, 0)) := by rw [HUr.out]; exact heap_alloc_new _ _
                  have hbqr : Below Uq.heap.size Uq Ur := BTr hbr hbr1
                  have hbU1r : Below U1.heap.size U1 Ur := BTr hbU1q hbqr
                  have hb9r : Below W9.heap.size W9 Ur := BTr hbU hbU1r
                  have xp' := (hbqr.block _ (Nat.lt_of_lt_of_le (Array.getElem?_eq_some_iff.1 xp).1 hbpq.size)).trans ((hbpq.block _ (Array.getElem?_eq_some_iff.1 xp).1).trans xp)
                  have xq' := (hbqr.block _ (Array.getElem?_eq_some_iff.1 xq).1).trans xq
                  clear h1 h2 h3 h4 h5 h6 h7 h8 h9 h10
                  have hbRr : ∀ V, Below Ur.heap.size Ur V → Below W9.heap.size W9 V := fun V hV => BTr hb9r hV
                  obtain ⟨⟨h1, h2, h3, h4⟩, ⟨h5, h6⟩, h7, h8, h9, h10⟩ := hloc (Vr.alloc (.cells #[.int .i64 vC.number, .slice r1 n1 s1, .slice r2 n2 s2, .slice r3 n3 s3] 34)) (by rw [← HUr.out]; exact hbU1r)
                  have hvl : ∀ V, Below Ur.heap.size Ur V → (V.cell? ⟨Vp.heap.size, 0, none⟩ = some (.int .i64 vA.number) ∧ V.cell? ⟨Vp.heap.size, 1, none⟩ = some (.slice p1 i1 j1) ∧ V.cell? ⟨Vp.heap.size, 2, none⟩ = some (.slice p2 i2 j2) ∧ V.cell? ⟨Vp.heap.size, 3, none⟩ = some (.slice p3 i3 j3)) ∧ (V.cell? ⟨Vq.heap.size, 0, none⟩ = some (.int .i64 vB.number) ∧ V.cell? ⟨Vq.heap.size, 1, none⟩ = some (.slice t1 k1 l1) ∧ V.cell? ⟨Vq.heap.size, 2, none⟩ = some (.slice t2 k2 l2) ∧ V.cell? ⟨Vq.heap.size, 3, none⟩ = some (.slice t3 k3 l3)) ∧ (V.cell? ⟨Vr.heap.size, 0, none⟩ = some (.int .i64 vC.number) ∧ V.cell? ⟨Vr.heap.size, 1, none⟩ = some (.slice r1 n1 s1) ∧ V.cell? ⟨Vr.heap.size, 2, none⟩ = some (.slice r2 n2 s2) ∧ V.cell? ⟨Vr.heap.size, 3, none⟩ = some (.slice r3 n3 s3)) := fun V hV => ⟨blk4' ((hV.block _ (Array.getElem?_eq_some_iff.1 xp').1).trans xp'), blk4' ((hV.block _ (Array.getElem?_eq_some_iff.1 xq').1).trans xq'), blk4' ((hV.block _ (Array.getElem?_eq_some_iff.1 xr).1).trans xr)⟩
                  have hoq : ∀ V, Below Ur.heap.size Ur V → Calls Tryz.prog 23 #[.agg #[.int .i64 vB.number, .slice t1 k1 l1, .slice t2 k2 l2, .slice t3 k3 l3]] V fun e w' => ∃ k : Nat, e = .returned (.agg #[.slice (some ⟨k, 0, none⟩) 1 1, .slice none 0 0]) ∧ Hid (BRd d w' (.slice (some ⟨k, 0, none⟩) 1 1) (.slice none 0 0) ⟨[vB], []⟩) ∧ Below Ur.heap.size Ur w' ∧ Below V.heap.size V w' := fun V hV => (one_any (((HRq.out.below (BTr hbq1 hbqr))).below hV)).mono fun e w' ⟨k, h1, h2, h3⟩ => ⟨k, h1, h2, BTr hV h3, h3⟩
                  have hor : ∀ V, Below Ur.heap.size Ur V → Calls Tryz.prog 23 #[.agg #[.int .i64 vC.number, .slice r1 n1 s1, .slice r2 n2 s2, .slice r3 n3 s3]] V fun e w' => ∃ k : Nat, e = .returned (.agg #[.slice (some ⟨k, 0, none⟩) 1 1, .slice none 0 0]) ∧ Hid (BRd d w' (.slice (some ⟨k, 0, none⟩) 1 1) (.slice none 0 0) ⟨[vC], []⟩) ∧ Below Ur.heap.size Ur w' ∧ Below V.heap.size V w' := fun V hV => (one_any ((HRr.out.below hbr1).below hV)).mono fun e w' ⟨k, h1, h2, h3⟩ => ⟨k, h1, h2, BTr hV h3, h3⟩
                  have hDr : Below Ur.heap.size Ur Ur.drew := (Below.refl _ _).drew
                  obtain ⟨⟨c0, c1, c2, c3⟩, ⟨c4, c5, c6, c7⟩, c8, c9, cx, cy⟩ := hvl _ hDr
                  clear hcells hgA0 hgB0 hgC0 hgA hgB hgC hloc
                  go_wp2_with fail
                  rw [← HUr.out]
                  go_cut [134] from 123 to 134 (fun s134 wc => s134 = .bool false ∧ Below Ur.heap.size Ur wc)
                  case first =>
                    refine wp_region_held_drew (S := fun V => Below Ur.heap.size Ur V) (by kernel_rfl) hDr (fun hHeld => ?_)
                    refine wpAnyH_take (i := 0) (v := ?vsame16q1) rfl (by kernel_rfl) (by kernel_rfl) (by kernel_rfl) (fun _ _ _ h => h) (Or.inl ⟨by rfl, ?hysame16q1⟩) (by assumption) ?_
                    case hysame16q1 => (intro W hSw; obtain ⟨⟨o0, o1, o2, o3⟩, ⟨o4, o5, o6, o7⟩, o8, o9, o10, o11⟩ := hvl W hSw; go_simp; first | done | with_reducible rfl)
                    try simp only [List.getElem_toArray, List.getElem_cons_zero, Act.put, List.setIfInBounds_toArray, List.set_cons_zero, List.set_cons_succ]
                    refine wpAnyH_take (i := 1) (v := ?vsame16q2) rfl (by kernel_rfl) (by kernel_rfl) (by kernel_rfl) (fun _ _ _ h => h) (Or.inl ⟨by rfl, ?hysame16q2⟩) (by assumption) ?_
                    case hysame16q2 => (intro W hSw; obtain ⟨⟨o0, o1, o2, o3⟩, ⟨o4, o5, o6, o7⟩, o8, o9, o10, o11⟩ := hvl W hSw; go_simp; first | done | with_reducible rfl)
                    try simp only [List.getElem_toArray, List.getElem_cons_succ, List.getElem_cons_zero, Act.put, List.setIfInBounds_toArray, List.set_cons_zero, List.set_cons_succ]
                    refine wpAnyH_take (i := 2) (v := ?vsame16q3) rfl (by kernel_rfl) (by kernel_rfl) (by kernel_rfl) (fun _ _ _ h => h) (Or.inl ⟨by rfl, ?hysame16q3⟩) (by assumption) ?_
                    case hysame16q3 => (intro W hSw; obtain ⟨⟨o0, o1, o2, o3⟩, ⟨o4, o5, o6, o7⟩, o8, o9, o10, o11⟩ := hvl W hSw; go_simp; first | done | with_reducible rfl)
                    try simp only [List.getElem_toArray, List.getElem_cons_succ, List.getElem_cons_zero, Act.put, List.setIfInBounds_toArray, List.set_cons_zero, List.set_cons_succ]
                    refine wpAnyH_take (i := 3) (v := ?vsame16q4) rfl (by kernel_rfl) (by kernel_rfl) (by kernel_rfl) (fun _ _ _ h => h) (Or.inl ⟨by rfl, ?hysame16q4⟩) (by assumption) ?_
                    case hysame16q4 => (intro W hSw; obtain ⟨⟨o0, o1, o2, o3⟩, ⟨o4, o5, o6, o7⟩, o8, o9, o10, o11⟩ := hvl W hSw; go_simp; first | done | with_reducible rfl)
                    try simp only [List.getElem_toArray, List.getElem_cons_succ, List.getElem_cons_zero, Act.put, List.setIfInBounds_toArray, List.set_cons_zero, List.set_cons_succ]
                    refine wpAnyH_take (i := 4) (v := ?vsame16q5) rfl (by kernel_rfl) (by kernel_rfl) (by kernel_rfl) (fun _ _ _ h => h) (Or.inl ⟨by rfl, ?hysame16q5⟩) (by assumption) ?_
                    case hysame16q5 => (intro W hSw; obtain ⟨⟨o0, o1, o2, o3⟩, ⟨o4, o5, o6, o7⟩, o8, o9, o10, o11⟩ := hvl W hSw; go_simp; first | done | with_reducible rfl)
                    try simp only [List.getElem_toArray, List.getElem_cons_succ, List.getElem_cons_zero, Act.put, List.setIfInBounds_toArray, List.set_cons_zero, List.set_cons_succ]
                    refine wpAnyH_take (i := 6) (v := ?vsame16q6) rfl (by kernel_rfl) (by kernel_rfl) (by kernel_rfl) (fun _ _ _ h => h) (Or.inl ⟨by rfl, ?hysame16q6⟩) (by assumption) ?_
                    case hysame16q6 => (intro W hSw; obtain ⟨⟨o0, o1, o2, o3⟩, ⟨o4, o5, o6, o7⟩, o8, o9, o10, o11⟩ := hvl W hSw; go_simp; first | done | with_reducible rfl)
                    try simp only [List.getElem_toArray, List.getElem_cons_succ, List.getElem_cons_zero, Act.put, List.setIfInBounds_toArray, List.set_cons_zero, List.set_cons_succ]
                    refine wpAnyH_take (i := 7) (v := ?vsame16q7) rfl (by kernel_rfl) (by kernel_rfl) (by kernel_rfl) (fun _ _ _ h => h) (Or.inl ⟨by rfl, ?hysame16q7⟩) (by assumption) ?_
                    case hysame16q7 => (intro W hSw; obtain ⟨⟨o0, o1, o2, o3⟩, ⟨o4, o5, o6, o7⟩, o8, o9, o10, o11⟩ := hvl W hSw; go_simp; first | done | with_reducible rfl)
                    try simp only [List.getElem_toArray, List.getElem_cons_succ, List.getElem_cons_zero, Act.put, List.setIfInBounds_toArray, List.set_cons_zero, List.set_cons_succ]
                    refine wpAnyH_ready (rs := [5]) (by kernel_rfl) (by simp) ?_
                    refine AllReadyH.cons rfl (fun K hK => ?_) AllReadyH.nil
                    go_simp
                    refine (hoq _ hDr).mono ?_
                    rintro e y1 ⟨kk1, rfl, HB1, hb1, hB1⟩
                    refine hK.out _ _ ?_ (fun hHeld => ?_)
                    · (try dsimp only); first | with_reducible exact hDr | with_reducible exact hb1 | with_reducible exact hb2 | with_reducible exact hb4'
                    clear hK K
                    try simp only [List.getElem_toArray, List.getElem_cons_succ, List.getElem_cons_zero, Act.put, List.setIfInBounds_toArray, List.set_cons_zero, List.set_cons_succ]
                    refine wpAnyH_ready (rs := [8]) (by kernel_rfl) (by simp) ?_
                    refine AllReadyH.cons rfl (fun K hK => ?_) AllReadyH.nil
                    go_simp
                    refine (hor _ hb1).mono ?_
                    rintro e y2 ⟨kk2, rfl, HB2, hb2, hB2⟩
                    have HB2' : Hid (BRd d y2 (.slice (some ⟨kk2, 0, none⟩) 1 1) (.slice none 0 0) ⟨[vB], []⟩) := (by rw [← HVC.out]; exact HB2.out)
                    refine hK.out _ _ ?_ (fun hHeld => ?_)
                    · (try dsimp only); first | with_reducible exact hDr | with_reducible exact hb1 | with_reducible exact hb2 | with_reducible exact hb4'
                    clear hK K
                    try simp only [List.getElem_toArray, List.getElem_cons_succ, List.getElem_cons_zero, Act.put, List.setIfInBounds_toArray, List.set_cons_zero, List.set_cons_succ]
                    refine wpAnyH_ready (rs := [9]) (by kernel_rfl) (by simp) ?_
                    refine AllReadyH.cons rfl (fun K hK => ?_) AllReadyH.nil
                    go_simp
                    refine (body_same (d := d) (HB1.out.below hB2) HB2'.out).mono ?_
                    rintro e y3 ⟨rfl, hb3'⟩
                    have hb4' := BTr hb2 hb3'
                    refine hK.out _ _ ?_ (fun hHeld => ?_)
                    · (try dsimp only); first | with_reducible exact hDr | with_reducible exact hb1 | with_reducible exact hb2 | with_reducible exact hb4'
                    clear hK K
                    try simp only [List.getElem_toArray, List.getElem_cons_succ, List.getElem_cons_zero, Act.put, List.setIfInBounds_toArray, List.set_cons_zero, List.set_cons_succ]
                    refine wpAnyH_ready (rs := [10]) (by kernel_rfl) (by simp) ?_
                    refine AllReadyH.cons rfl (fun K hK => ?_) AllReadyH.nil
                    go_simp
                    refine hK.out _ _ ?_ (fun hHeld => ?_)
                    · (try dsimp only); first | with_reducible exact hDr | with_reducible exact hb1 | with_reducible exact hb2 | with_reducible exact hb4'
                    clear hK K
                    try simp only [List.getElem_toArray, List.getElem_cons_succ, List.getElem_cons_zero, Act.put, List.setIfInBounds_toArray, List.set_cons_zero, List.set_cons_succ]
                    refine wpAnyH_ready (rs := [11]) (by kernel_rfl) (by simp) ?_
                    refine AllReadyH.cons rfl (fun K hK => ?_) AllReadyH.nil
                    go_simp
                    refine hK.out _ _ ?_ (fun hHeld => ?_)
                    · (try dsimp only); first | with_reducible exact hDr | with_reducible exact hb1 | with_reducible exact hb2 | with_reducible exact hb4'
                    clear hK K
                    try simp only [List.getElem_toArray, List.getElem_cons_succ, List.getElem_cons_zero, Act.put, List.setIfInBounds_toArray, List.set_cons_zero, List.set_cons_succ]
                    refine wpAnyH_done (by kernel_rfl) ?_ _
                    go_wp2_with fail
                    go_meet
                    exact ⟨rfl, hb4'⟩
                  case rest =>
                    obtain ⟨rfl, hbc⟩ := hcut
                    have hbE := hbRr wc hbc
                    clear hoq hor hvl
                    go_wp2_with fail
                    go_roundg (nf - (k + 1))
                    case measure => omega
                    case rel => exact ⟨k + 1, by omega, by go_num, hbE⟩
            | false =>
              have hA0 : (BO.vals a).find? (isV x.number) = none := by
                rw [HAf.out]
                exact Option.not_isSome_iff_eq_none.1 (by rw [HbA.out]; simp)
              have hCs := last_has (J := jnB g.msgs d) (ms := g.msgs) (a := BO.vals a) (b := BO.vals b) HRM.out.1 HXM.out HMb.out HBs.out (.inl hA0)
              clear hA0
              as_aux_lemma =>
                obtain rfl : bC = true := by rw [← HbC.out, ← HLk.out, hCs]; rfl
                have HVC : Hid (vC = vB) := by
                  show _ = _
                  rw [← HvC.out, ← HLk.out, hCs]
                  rfl
                clear hCs
                go_wp2_with fail
                rw [← HU1.out]
                refine (hgA U1 hbU).mono ?_
                rintro e Vp ⟨p1, i1, j1, p2, i2, j2, p3, i3, j3, rfl, HRp, hbp⟩
                obtain ⟨Up, HUp⟩ : ∃ Up, Hid (Up = Vp.alloc (.cells #[.int .i64 vA.number, .slice p1 i1 j1, .slice p2 i2 j2, .slice p3 i3 j3] 34)) := ⟨_, rfl⟩
                have hbp1 : Below Vp.heap.size Vp Up := by rw [HUp.out]; exact (Below.refl _ _).alloc (Nat.le_refl _) _
                have xp : Up.heap[Vp.heap.size]? = some (.cells #[.int .i64 vA.number, .slice p1 i1 j1, .slice p2 i2 j2, .slice p3 i3 j3] 34 (0, 0)) := by rw [HUp.out]; exact heap_alloc_new _ _
                have hbU1p : Below U1.heap.size U1 Up := BTr hbp hbp1
                have hb9p : Below W9.heap.size W9 Up := BTr hbU hbU1p
                have HCp : Hid _ := hloc Up hbU1p
                obtain ⟨⟨h1, h2, h3, h4⟩, ⟨h5, h6⟩, h7, h8, h9, h10⟩ := hloc (Vp.alloc (.cells #[.int .i64 vA.number, .slice p1 i1 j1, .slice p2 i2 j2, .slice p3 i3 j3] 34)) (by rw [← HUp.out]; exact hbU1p)
                go_wp2_with fail
                rw [← HUp.out]
                refine (hgB Up hb9p).mono ?_
                rintro e Vq ⟨t1, k1, l1, t2, k2, l2, t3, k3, l3, rfl, HRq, hbq⟩
                obtain ⟨Uq, HUq⟩ : ∃ Uq, Hid (Uq = Vq.alloc (.cells #[.int .i64 vB.number, .slice t1 k1 l1, .slice t2 k2 l2, .slice t3 k3 l3] 34)) := ⟨_, rfl⟩
                have hbq1 : Below Vq.heap.size Vq Uq := by rw [HUq.out]; exact (Below.refl _ _).alloc (Nat.le_refl _) _
                have xq : Uq.heap[Vq.heap.size]? = some (.cells #[.int .i64 vB.number, .slice t1 k1 l1, .slice t2 k2 l2, .slice t3 k3 l3] 34 (0, 0)) := by rw [HUq.out]; exact heap_alloc_new _ _
                have hbpq : Below Up.heap.size Up Uq := BTr hbq hbq1
                have hbU1q : Below U1.heap.size U1 Uq := BTr hbU1p hbpq
                have hb9q : Below W9.heap.size W9 Uq := BTr hbU hbU1q
                clear h1 h2 h3 h4 h5 h6 h7 h8 h9 h10
                obtain ⟨⟨h1, h2, h3, h4⟩, ⟨h5, h6⟩, h7, h8, h9, h10⟩ := hloc (Vq.alloc (.cells #[.int .i64 vB.number, .slice t1 k1 l1, .slice t2 k2 l2, .slice t3 k3 l3] 34)) (by rw [← HUq.out]; exact hbU1q)
                go_wp2_with fail
                rw [← HUq.out]
                refine (hgC Uq hb9q).mono ?_
                rintro e Vr ⟨r1, n1, s1, r2, n2, s2, r3, n3, s3, rfl, HRr, hbr⟩
                obtain ⟨Ur, HUr⟩ : ∃ Ur, Hid (Ur = Vr.alloc (.cells #[.int .i64 vC.number, .slice r1 n1 s1, .slice r2 n2 s2, .slice r3 n3 s3] 34)) := ⟨_, rfl⟩
                have hbr1 : Below Vr.heap.size Vr Ur := by rw [HUr.out]; exact (Below.refl _ _).alloc (Nat.le_refl _) _
                have xr : Ur.heap[Vr.heap.size]? = some (.cells #[.int .i64 vC.number, .slice r1 n1 s1, .slice r2 n2 s2, .slice r3 n3 s3] 34 (0, 0)) := by rw [HUr.out]; exact heap_alloc_new _ _
                have hbqr : Below Uq.heap.size Uq Ur := BTr hbr hbr1
                have hbU1r : Below U1.heap.size U1 Ur := BTr hbU1q hbqr
                have hb9r : Below W9.heap.size W9 Ur := BTr hbU hbU1r
                have xp' := (hbqr.block _ (Nat.lt_of_lt_of_le (Array.getElem?_eq_some_iff.1 xp).1 hbpq.size)).trans ((hbpq.block _ (Array.getElem?_eq_some_iff.1 xp).1).trans xp)
                have xq' := (hbqr.block _ (Array.getElem?_eq_some_iff.1 xq).1).trans xq
                clear h1 h2 h3 h4 h5 h6 h7 h8 h9 h10
                have hbRr : ∀ V, Below Ur.heap.size Ur V → Below W9.heap.size W9 V := fun V hV => BTr hb9r hV
                obtain ⟨⟨h1, h2, h3, h4⟩, ⟨h5, h6⟩, h7, h8, h9, h10⟩ := hloc (Vr.alloc (.cells #[.int .i64 vC.number, .slice r1 n1 s1, .slice r2 n2 s2, .slice r3 n3 s3] 34)) (by rw [← HUr.out]; exact hbU1r)
                have hvl : ∀ V, Below Ur.heap.size Ur V → (V.cell? ⟨Vp.heap.size, 0, none⟩ = some (.int .i64 vA.number) ∧ V.cell? ⟨Vp.heap.size, 1, none⟩ = some (.slice p1 i1 j1) ∧ V.cell? ⟨Vp.heap.size, 2, none⟩ = some (.slice p2 i2 j2) ∧ V.cell? ⟨Vp.heap.size, 3, none⟩ = some (.slice p3 i3 j3)) ∧ (V.cell? ⟨Vq.heap.size, 0, none⟩ = some (.int .i64 vB.number) ∧ V.cell? ⟨Vq.heap.size, 1, none⟩ = some (.slice t1 k1 l1) ∧ V.cell? ⟨Vq.heap.size, 2, none⟩ = some (.slice t2 k2 l2) ∧ V.cell? ⟨Vq.heap.size, 3, none⟩ = some (.slice t3 k3 l3)) ∧ (V.cell? ⟨Vr.heap.size, 0, none⟩ = some (.int .i64 vC.number) ∧ V.cell? ⟨Vr.heap.size, 1, none⟩ = some (.slice r1 n1 s1) ∧ V.cell? ⟨Vr.heap.size, 2, none⟩ = some (.slice r2 n2 s2) ∧ V.cell? ⟨Vr.heap.size, 3, none⟩ = some (.slice r3 n3 s3)) := fun V hV => ⟨blk4' ((hV.block _ (Array.getElem?_eq_some_iff.1 xp').1).trans xp'), blk4' ((hV.block _ (Array.getElem?_eq_some_iff.1 xq').1).trans xq'), blk4' ((hV.block _ (Array.getElem?_eq_some_iff.1 xr).1).trans xr)⟩
                have hoq : ∀ V, Below Ur.heap.size Ur V → Calls Tryz.prog 23 #[.agg #[.int .i64 vB.number, .slice t1 k1 l1, .slice t2 k2 l2, .slice t3 k3 l3]] V fun e w' => ∃ k : Nat, e = .returned (.agg #[.slice (some ⟨k, 0, none⟩) 1 1, .slice none 0 0]) ∧ Hid (BRd d w' (.slice (some ⟨k, 0, none⟩) 1 1) (.slice none 0 0) ⟨[vB], []⟩) ∧ Below Ur.heap.size Ur w' ∧ Below V.heap.size V w' := fun V hV => (one_any (((HRq.out.below (BTr hbq1 hbqr))).below hV)).mono fun e w' ⟨k, h1, h2, h3⟩ => ⟨k, h1, h2, BTr hV h3, h3⟩
                have hor : ∀ V, Below Ur.heap.size Ur V → Calls Tryz.prog 23 #[.agg #[.int .i64 vC.number, .slice r1 n1 s1, .slice r2 n2 s2, .slice r3 n3 s3]] V fun e w' => ∃ k : Nat, e = .returned (.agg #[.slice (some ⟨k, 0, none⟩) 1 1, .slice none 0 0]) ∧ Hid (BRd d w' (.slice (some ⟨k, 0, none⟩) 1 1) (.slice none 0 0) ⟨[vC], []⟩) ∧ Below Ur.heap.size Ur w' ∧ Below V.heap.size V w' := fun V hV => (one_any ((HRr.out.below hbr1).below hV)).mono fun e w' ⟨k, h1, h2, h3⟩ => ⟨k, h1, h2, BTr hV h3, h3⟩
                have hDr : Below Ur.heap.size Ur Ur.drew := (Below.refl _ _).drew
                obtain ⟨⟨c0, c1, c2, c3⟩, ⟨c4, c5, c6, c7⟩, c8, c9, cx, cy⟩ := hvl _ hDr
                clear hcells hgA0 hgB0 hgC0 hgA hgB hgC hloc
                go_wp2_with fail
                rw [← HUr.out]
                go_cut [134] from 123 to 134 (fun s134 wc => s134 = .bool false ∧ Below Ur.heap.size Ur wc)
                case first =>
                  refine wp_region_held_drew (S := fun V => Below Ur.heap.size Ur V) (by kernel_rfl) hDr (fun hHeld => ?_)
                  refine wpAnyH_take (i := 0) (v := ?vsame14q1) rfl (by kernel_rfl) (by kernel_rfl) (by kernel_rfl) (fun _ _ _ h => h) (Or.inl ⟨by rfl, ?hysame14q1⟩) (by assumption) ?_
                  case hysame14q1 => (intro W hSw; obtain ⟨⟨o0, o1, o2, o3⟩, ⟨o4, o5, o6, o7⟩, o8, o9, o10, o11⟩ := hvl W hSw; go_simp; first | done | with_reducible rfl)
                  try simp only [List.getElem_toArray, List.getElem_cons_zero, Act.put, List.setIfInBounds_toArray, List.set_cons_zero, List.set_cons_succ]
                  refine wpAnyH_take (i := 1) (v := ?vsame14q2) rfl (by kernel_rfl) (by kernel_rfl) (by kernel_rfl) (fun _ _ _ h => h) (Or.inl ⟨by rfl, ?hysame14q2⟩) (by assumption) ?_
                  case hysame14q2 => (intro W hSw; obtain ⟨⟨o0, o1, o2, o3⟩, ⟨o4, o5, o6, o7⟩, o8, o9, o10, o11⟩ := hvl W hSw; go_simp; first | done | with_reducible rfl)
                  try simp only [List.getElem_toArray, List.getElem_cons_succ, List.getElem_cons_zero, Act.put, List.setIfInBounds_toArray, List.set_cons_zero, List.set_cons_succ]
                  refine wpAnyH_take (i := 2) (v := ?vsame14q3) rfl (by kernel_rfl) (by kernel_rfl) (by kernel_rfl) (fun _ _ _ h => h) (Or.inl ⟨by rfl, ?hysame14q3⟩) (by assumption) ?_
                  case hysame14q3 => (intro W hSw; obtain ⟨⟨o0, o1, o2, o3⟩, ⟨o4, o5, o6, o7⟩, o8, o9, o10, o11⟩ := hvl W hSw; go_simp; first | done | with_reducible rfl)
                  try simp only [List.getElem_toArray, List.getElem_cons_succ, List.getElem_cons_zero, Act.put, List.setIfInBounds_toArray, List.set_cons_zero, List.set_cons_succ]
                  refine wpAnyH_take (i := 3) (v := ?vsame14q4) rfl (by kernel_rfl) (by kernel_rfl) (by kernel_rfl) (fun _ _ _ h => h) (Or.inl ⟨by rfl, ?hysame14q4⟩) (by assumption) ?_
                  case hysame14q4 => (intro W hSw; obtain ⟨⟨o0, o1, o2, o3⟩, ⟨o4, o5, o6, o7⟩, o8, o9, o10, o11⟩ := hvl W hSw; go_simp; first | done | with_reducible rfl)
                  try simp only [List.getElem_toArray, List.getElem_cons_succ, List.getElem_cons_zero, Act.put, List.setIfInBounds_toArray, List.set_cons_zero, List.set_cons_succ]
                  refine wpAnyH_take (i := 4) (v := ?vsame14q5) rfl (by kernel_rfl) (by kernel_rfl) (by kernel_rfl) (fun _ _ _ h => h) (Or.inl ⟨by rfl, ?hysame14q5⟩) (by assumption) ?_
                  case hysame14q5 => (intro W hSw; obtain ⟨⟨o0, o1, o2, o3⟩, ⟨o4, o5, o6, o7⟩, o8, o9, o10, o11⟩ := hvl W hSw; go_simp; first | done | with_reducible rfl)
                  try simp only [List.getElem_toArray, List.getElem_cons_succ, List.getElem_cons_zero, Act.put, List.setIfInBounds_toArray, List.set_cons_zero, List.set_cons_succ]
                  refine wpAnyH_take (i := 6) (v := ?vsame14q6) rfl (by kernel_rfl) (by kernel_rfl) (by kernel_rfl) (fun _ _ _ h => h) (Or.inl ⟨by rfl, ?hysame14q6⟩) (by assumption) ?_
                  case hysame14q6 => (intro W hSw; obtain ⟨⟨o0, o1, o2, o3⟩, ⟨o4, o5, o6, o7⟩, o8, o9, o10, o11⟩ := hvl W hSw; go_simp; first | done | with_reducible rfl)
                  try simp only [List.getElem_toArray, List.getElem_cons_succ, List.getElem_cons_zero, Act.put, List.setIfInBounds_toArray, List.set_cons_zero, List.set_cons_succ]
                  refine wpAnyH_take (i := 7) (v := ?vsame14q7) rfl (by kernel_rfl) (by kernel_rfl) (by kernel_rfl) (fun _ _ _ h => h) (Or.inl ⟨by rfl, ?hysame14q7⟩) (by assumption) ?_
                  case hysame14q7 => (intro W hSw; obtain ⟨⟨o0, o1, o2, o3⟩, ⟨o4, o5, o6, o7⟩, o8, o9, o10, o11⟩ := hvl W hSw; go_simp; first | done | with_reducible rfl)
                  try simp only [List.getElem_toArray, List.getElem_cons_succ, List.getElem_cons_zero, Act.put, List.setIfInBounds_toArray, List.set_cons_zero, List.set_cons_succ]
                  refine wpAnyH_ready (rs := [5]) (by kernel_rfl) (by simp) ?_
                  refine AllReadyH.cons rfl (fun K hK => ?_) AllReadyH.nil
                  go_simp
                  refine (hoq _ hDr).mono ?_
                  rintro e y1 ⟨kk1, rfl, HB1, hb1, hB1⟩
                  refine hK.out _ _ ?_ (fun hHeld => ?_)
                  · (try dsimp only); first | with_reducible exact hDr | with_reducible exact hb1 | with_reducible exact hb2 | with_reducible exact hb4'
                  clear hK K
                  try simp only [List.getElem_toArray, List.getElem_cons_succ, List.getElem_cons_zero, Act.put, List.setIfInBounds_toArray, List.set_cons_zero, List.set_cons_succ]
                  refine wpAnyH_ready (rs := [8]) (by kernel_rfl) (by simp) ?_
                  refine AllReadyH.cons rfl (fun K hK => ?_) AllReadyH.nil
                  go_simp
                  refine (hor _ hb1).mono ?_
                  rintro e y2 ⟨kk2, rfl, HB2, hb2, hB2⟩
                  have HB2' : Hid (BRd d y2 (.slice (some ⟨kk2, 0, none⟩) 1 1) (.slice none 0 0) ⟨[vB], []⟩) := (by rw [← HVC.out]; exact HB2.out)
                  refine hK.out _ _ ?_ (fun hHeld => ?_)
                  · (try dsimp only); first | with_reducible exact hDr | with_reducible exact hb1 | with_reducible exact hb2 | with_reducible exact hb4'
                  clear hK K
                  try simp only [List.getElem_toArray, List.getElem_cons_succ, List.getElem_cons_zero, Act.put, List.setIfInBounds_toArray, List.set_cons_zero, List.set_cons_succ]
                  refine wpAnyH_ready (rs := [9]) (by kernel_rfl) (by simp) ?_
                  refine AllReadyH.cons rfl (fun K hK => ?_) AllReadyH.nil
                  go_simp
                  refine (body_same (d := d) (HB1.out.below hB2) HB2'.out).mono ?_
                  rintro e y3 ⟨rfl, hb3'⟩
                  have hb4' := BTr hb2 hb3'
                  refine hK.out _ _ ?_ (fun hHeld => ?_)
                  · (try dsimp only); first | with_reducible exact hDr | with_reducible exact hb1 | with_reducible exact hb2 | with_reducible exact hb4'
                  clear hK K
                  try simp only [List.getElem_toArray, List.getElem_cons_succ, List.getElem_cons_zero, Act.put, List.setIfInBounds_toArray, List.set_cons_zero, List.set_cons_succ]
                  refine wpAnyH_ready (rs := [10]) (by kernel_rfl) (by simp) ?_
                  refine AllReadyH.cons rfl (fun K hK => ?_) AllReadyH.nil
                  go_simp
                  refine hK.out _ _ ?_ (fun hHeld => ?_)
                  · (try dsimp only); first | with_reducible exact hDr | with_reducible exact hb1 | with_reducible exact hb2 | with_reducible exact hb4'
                  clear hK K
                  try simp only [List.getElem_toArray, List.getElem_cons_succ, List.getElem_cons_zero, Act.put, List.setIfInBounds_toArray, List.set_cons_zero, List.set_cons_succ]
                  refine wpAnyH_ready (rs := [11]) (by kernel_rfl) (by simp) ?_
                  refine AllReadyH.cons rfl (fun K hK => ?_) AllReadyH.nil
                  go_simp
                  refine hK.out _ _ ?_ (fun hHeld => ?_)
                  · (try dsimp only); first | with_reducible exact hDr | with_reducible exact hb1 | with_reducible exact hb2 | with_reducible exact hb4'
                  clear hK K
                  try simp only [List.getElem_toArray, List.getElem_cons_succ, List.getElem_cons_zero, Act.put, List.setIfInBounds_toArray, List.set_cons_zero, List.set_cons_succ]
                  refine wpAnyH_done (by kernel_rfl) ?_ _
                  go_wp2_with fail
                  go_meet
                  exact ⟨rfl, hb4'⟩
                case rest =>
                  obtain ⟨rfl, hbc⟩ := hcut
                  have hbE := hbRr wc hbc
                  clear hoq hor hvl
                  go_wp2_with fail
                  go_roundg (nf - (k + 1))
                  case measure => omega
                  case rel => exact ⟨k + 1, by omega, by go_num, hbE⟩
          | false =>
            cases bA with
            | false =>
              as_aux_lemma =>
                go_wp2_with fail
                rw [← HU1.out]
                refine (hgA U1 hbU).mono ?_
                rintro e Vp ⟨p1, i1, j1, p2, i2, j2, p3, i3, j3, rfl, HRp, hbp⟩
                obtain ⟨Up, HUp⟩ : ∃ Up, Hid (Up = Vp.alloc (.cells #[.int .i64 vA.number, .slice p1 i1 j1, .slice p2 i2 j2, .slice p3 i3 j3] 34)) := ⟨_, rfl⟩
                have hbp1 : Below Vp.heap.size Vp Up := by rw [HUp.out]; exact (Below.refl _ _).alloc (Nat.le_refl _) _
                have xp : Up.heap[Vp.heap.size]? = some (.cells #[.int .i64 vA.number, .slice p1 i1 j1, .slice p2 i2 j2, .slice p3 i3 j3] 34 (0, 0)) := by rw [HUp.out]; exact heap_alloc_new _ _
                have hbU1p : Below U1.heap.size U1 Up := BTr hbp hbp1
                have hb9p : Below W9.heap.size W9 Up := BTr hbU hbU1p
                have HCp : Hid _ := hloc Up hbU1p
                obtain ⟨⟨h1, h2, h3, h4⟩, ⟨h5, h6⟩, h7, h8, h9, h10⟩ := hloc (Vp.alloc (.cells #[.int .i64 vA.number, .slice p1 i1 j1, .slice p2 i2 j2, .slice p3 i3 j3] 34)) (by rw [← HUp.out]; exact hbU1p)
                go_wp2_with fail
                rw [← HUp.out]
                refine (hgB Up hb9p).mono ?_
                rintro e Vq ⟨t1, k1, l1, t2, k2, l2, t3, k3, l3, rfl, HRq, hbq⟩
                obtain ⟨Uq, HUq⟩ : ∃ Uq, Hid (Uq = Vq.alloc (.cells #[.int .i64 vB.number, .slice t1 k1 l1, .slice t2 k2 l2, .slice t3 k3 l3] 34)) := ⟨_, rfl⟩
                have hbq1 : Below Vq.heap.size Vq Uq := by rw [HUq.out]; exact (Below.refl _ _).alloc (Nat.le_refl _) _
                have xq : Uq.heap[Vq.heap.size]? = some (.cells #[.int .i64 vB.number, .slice t1 k1 l1, .slice t2 k2 l2, .slice t3 k3 l3] 34 (0, 0)) := by rw [HUq.out]; exact heap_alloc_new _ _
                have hbpq : Below Up.heap.size Up Uq := BTr hbq hbq1
                have hbU1q : Below U1.heap.size U1 Uq := BTr hbU1p hbpq
                have hb9q : Below W9.heap.size W9 Uq := BTr hbU hbU1q
                clear h1 h2 h3 h4 h5 h6 h7 h8 h9 h10
                obtain ⟨⟨h1, h2, h3, h4⟩, ⟨h5, h6⟩, h7, h8, h9, h10⟩ := hloc (Vq.alloc (.cells #[.int .i64 vB.number, .slice t1 k1 l1, .slice t2 k2 l2, .slice t3 k3 l3] 34)) (by rw [← HUq.out]; exact hbU1q)
                go_wp2_with fail
                rw [← HUq.out]
                refine (hgC Uq hb9q).mono ?_
                rintro e Vr ⟨r1, n1, s1, r2, n2, s2, r3, n3, s3, rfl, HRr, hbr⟩
                obtain ⟨Ur, HUr⟩ : ∃ Ur, Hid (Ur = Vr.alloc (.cells #[.int .i64 vC.number, .slice r1 n1 s1, .slice r2 n2 s2, .slice r3 n3 s3] 34)) := ⟨_, rfl⟩
                have hbr1 : Below Vr.heap.size Vr Ur := by rw [HUr.out]; exact (Below.refl _ _).alloc (Nat.le_refl _) _
                have xr : Ur.heap[Vr.heap.size]? = some (.cells #[.int .i64 vC.number, .slice r1 n1 s1, .slice r2 n2 s2, .slice r3 n3 s3] 34 (0, 0)) := by rw [HUr.out]; exact heap_alloc_new _ _
                have hbqr : Below Uq.heap.size Uq Ur := BTr hbr hbr1
                have hbU1r : Below U1.heap.size U1 Ur := BTr hbU1q hbqr
                have hb9r : Below W9.heap.size W9 Ur := BTr hbU hbU1r
                have xp' := (hbqr.block _ (Nat.lt_of_lt_of_le (Array.getElem?_eq_some_iff.1 xp).1 hbpq.size)).trans ((hbpq.block _ (Array.getElem?_eq_some_iff.1 xp).1).trans xp)
                have xq' := (hbqr.block _ (Array.getElem?_eq_some_iff.1 xq).1).trans xq
                clear h1 h2 h3 h4 h5 h6 h7 h8 h9 h10
                have hbRr : ∀ V, Below Ur.heap.size Ur V → Below W9.heap.size W9 V := fun V hV => BTr hb9r hV
                obtain ⟨⟨h1, h2, h3, h4⟩, ⟨h5, h6⟩, h7, h8, h9, h10⟩ := hloc (Vr.alloc (.cells #[.int .i64 vC.number, .slice r1 n1 s1, .slice r2 n2 s2, .slice r3 n3 s3] 34)) (by rw [← HUr.out]; exact hbU1r)
                clear hcells hgA0 hgB0 hgC0 hgA hgB hgC hloc
                go_wp2_with fail
                rw [← HUr.out]
                go_roundg (nf - (k + 1))
                case measure => omega
                case rel => exact ⟨k + 1, by omega, by go_num, hb9r⟩
            | true =>
              have hBn : (BO.vals b).find? (isV x.number) = none := by
                rw [HBf.out]
                exact Option.not_isSome_iff_eq_none.1 (by rw [HbB.out]; simp)
              have hCs := last_had (J := jnB g.msgs d) (ms := g.msgs) (a := BO.vals a) (b := BO.vals b) HRM.out.1 HXM.out HRM.out.2 hBn
              rw [HLk.out, HAf.out] at hCs
              obtain ⟨G, HG⟩ : ∃ G : Nat → Bool, Hid (∀ i, G i = goneB (M.fields.take i) (BO.vals b) x) := ⟨_, fun _ => rfl⟩
              have HG0 : Hid (G nf = goneB M.fields (BO.vals b) x) := by
                show _ = _
                rw [HG.out, List.take_of_length_le (by have := Hnf.out; omega)]
              clear hBn
              cases hgn : goneB M.fields (BO.vals b) x with
              | true =>
                rw [hgn, if_pos rfl] at hCs
                obtain rfl : bC = false := by rw [← HbC.out, hCs]; rfl
                have hGn : G nf = true := by rw [HG0.out, hgn]
                clear hCs hgn HG0
                as_aux_lemma =>
                  go_wp2_with fail
                  rw [← HU1.out]
                  refine (hgA U1 hbU).mono ?_
                  rintro e Vp ⟨p1, i1, j1, p2, i2, j2, p3, i3, j3, rfl, HRp, hbp⟩
                  obtain ⟨Up, HUp⟩ : ∃ Up, Hid (Up = Vp.alloc (.cells #[.int .i64 vA.number, .slice p1 i1 j1, .slice p2 i2 j2, .slice p3 i3 j3] 34)) := ⟨_, rfl⟩
                  have hbp1 : Below Vp.heap.size Vp Up := by rw [HUp.out]; exact (Below.refl _ _).alloc (Nat.le_refl _) _
                  have xp : Up.heap[Vp.heap.size]? = some (.cells #[.int .i64 vA.number, .slice p1 i1 j1, .slice p2 i2 j2, .slice p3 i3 j3] 34 (0, 0)) := by rw [HUp.out]; exact heap_alloc_new _ _
                  have hbU1p : Below U1.heap.size U1 Up := BTr hbp hbp1
                  have hb9p : Below W9.heap.size W9 Up := BTr hbU hbU1p
                  have HCp : Hid _ := hloc Up hbU1p
                  obtain ⟨⟨h1, h2, h3, h4⟩, ⟨h5, h6⟩, h7, h8, h9, h10⟩ := hloc (Vp.alloc (.cells #[.int .i64 vA.number, .slice p1 i1 j1, .slice p2 i2 j2, .slice p3 i3 j3] 34)) (by rw [← HUp.out]; exact hbU1p)
                  go_wp2_with fail
                  rw [← HUp.out]
                  refine (hgB Up hb9p).mono ?_
                  rintro e Vq ⟨t1, k1, l1, t2, k2, l2, t3, k3, l3, rfl, HRq, hbq⟩
                  obtain ⟨Uq, HUq⟩ : ∃ Uq, Hid (Uq = Vq.alloc (.cells #[.int .i64 vB.number, .slice t1 k1 l1, .slice t2 k2 l2, .slice t3 k3 l3] 34)) := ⟨_, rfl⟩
                  have hbq1 : Below Vq.heap.size Vq Uq := by rw [HUq.out]; exact (Below.refl _ _).alloc (Nat.le_refl _) _
                  have xq : Uq.heap[Vq.heap.size]? = some (.cells #[.int .i64 vB.number, .slice t1 k1 l1, .slice t2 k2 l2, .slice t3 k3 l3] 34 (0, 0)) := by rw [HUq.out]; exact heap_alloc_new _ _
                  have hbpq : Below Up.heap.size Up Uq := BTr hbq hbq1
                  have hbU1q : Below U1.heap.size U1 Uq := BTr hbU1p hbpq
                  have hb9q : Below W9.heap.size W9 Uq := BTr hbU hbU1q
                  clear h1 h2 h3 h4 h5 h6 h7 h8 h9 h10
                  obtain ⟨⟨h1, h2, h3, h4⟩, ⟨h5, h6⟩, h7, h8, h9, h10⟩ := hloc (Vq.alloc (.cells #[.int .i64 vB.number, .slice t1 k1 l1, .slice t2 k2 l2, .slice t3 k3 l3] 34)) (by rw [← HUq.out]; exact hbU1q)
                  go_wp2_with fail
                  rw [← HUq.out]
                  refine (hgC Uq hb9q).mono ?_
                  rintro e Vr ⟨r1, n1, s1, r2, n2, s2, r3, n3, s3, rfl, HRr, hbr⟩
                  obtain ⟨Ur, HUr⟩ : ∃ Ur, Hid (Ur = Vr.alloc (.cells #[.int .i64 vC.number, .slice r1 n1 s1, .slice r2 n2 s2, .slice r3 n3 s3] 34)) := ⟨_, rfl⟩
                  have hbr1 : Below Vr.heap.size Vr Ur := by rw [HUr.out]; exact (Below.refl _ _).alloc (Nat.le_refl _) _
                  have xr : Ur.heap[Vr.heap.size]? = some (.cells #[.int .i64 vC.number, .slice r1 n1 s1, .slice r2 n2 s2, .slice r3 n3 s3] 34 (0, 0)) := by rw [HUr.out]; exact heap_alloc_new _ _
                  have hbqr : Below Uq.heap.size Uq Ur := BTr hbr hbr1
                  have hbU1r : Below U1.heap.size U1 Ur := BTr hbU1q hbqr
                  have hb9r : Below W9.heap.size W9 Ur := BTr hbU hbU1r
                  have xp' := (hbqr.block _ (Nat.lt_of_lt_of_le (Array.getElem?_eq_some_iff.1 xp).1 hbpq.size)).trans ((hbpq.block _ (Array.getElem?_eq_some_iff.1 xp).1).trans xp)
                  have xq' := (hbqr.block _ (Array.getElem?_eq_some_iff.1 xq).1).trans xq
                  clear h1 h2 h3 h4 h5 h6 h7 h8 h9 h10
                  have hbRr : ∀ V, Below Ur.heap.size Ur V → Below W9.heap.size W9 V := fun V hV => BTr hb9r hV
                  obtain ⟨⟨h1, h2, h3, h4⟩, ⟨h5, h6⟩, h7, h8, h9, h10⟩ := hloc (Vr.alloc (.cells #[.int .i64 vC.number, .slice r1 n1 s1, .slice r2 n2 s2, .slice r3 n3 s3] 34)) (by rw [← HUr.out]; exact hbU1r)
                  have hvl : ∀ V, Below Ur.heap.size Ur V → (V.cell? ⟨Vp.heap.size, 0, none⟩ = some (.int .i64 vA.number) ∧ V.cell? ⟨Vp.heap.size, 1, none⟩ = some (.slice p1 i1 j1) ∧ V.cell? ⟨Vp.heap.size, 2, none⟩ = some (.slice p2 i2 j2) ∧ V.cell? ⟨Vp.heap.size, 3, none⟩ = some (.slice p3 i3 j3)) ∧ (V.cell? ⟨Vq.heap.size, 0, none⟩ = some (.int .i64 vB.number) ∧ V.cell? ⟨Vq.heap.size, 1, none⟩ = some (.slice t1 k1 l1) ∧ V.cell? ⟨Vq.heap.size, 2, none⟩ = some (.slice t2 k2 l2) ∧ V.cell? ⟨Vq.heap.size, 3, none⟩ = some (.slice t3 k3 l3)) ∧ (V.cell? ⟨Vr.heap.size, 0, none⟩ = some (.int .i64 vC.number) ∧ V.cell? ⟨Vr.heap.size, 1, none⟩ = some (.slice r1 n1 s1) ∧ V.cell? ⟨Vr.heap.size, 2, none⟩ = some (.slice r2 n2 s2) ∧ V.cell? ⟨Vr.heap.size, 3, none⟩ = some (.slice r3 n3 s3)) := fun V hV => ⟨blk4' ((hV.block _ (Array.getElem?_eq_some_iff.1 xp').1).trans xp'), blk4' ((hV.block _ (Array.getElem?_eq_some_iff.1 xq').1).trans xq'), blk4' ((hV.block _ (Array.getElem?_eq_some_iff.1 xr).1).trans xr)⟩
                  obtain ⟨⟨⟨f1, f2, _, _⟩, _, _⟩, _, _, f9⟩ := hcells (Vr.alloc (.cells #[.int .i64 vC.number, .slice r1 n1 s1, .slice r2 n2 s2, .slice r3 n3 s3] 34)) (by rw [← HUr.out]; exact hb9r)
                  have HG' : Hid _ := HG.out
                  have hX5 : ∀ V, Below Ur.heap.size Ur V → V.cell? ⟨wr.heap.size, 5, none⟩ = some (.int .i64 x.choice) := fun V hV => (hloc V (BTr hbU1r hV)).2.2.2.2.2
                  have hb7 : ∀ V, Below Ur.heap.size Ur V → V.cell? ⟨w.heap.size + 2, 0, none⟩ = some (.slice b0 m0 d0) ∧ V.cell? ⟨w.heap.size + 2, 1, none⟩ = some (.slice b1 m1 d1) := fun V hV => ⟨(hloc V (BTr hbU1r hV)).1.2.2.1, (hloc V (BTr hbU1r hV)).1.2.2.2⟩
                  clear hcells hgA hgB hgC hgA0 hgC0 hloc y0 y1 y2 y3 y4 y5
                  go_wp2_with fail
                  rw [← HUr.out]
                  clear h1 h2 h3 h4 h5 h6 h7 h8 h9 h10 f1 f2 f9
                  obtain ⟨wo, Hwo⟩ : ∃ wo, wo = wr := ⟨_, rfl⟩
                  subst Hwo
                  go_loopg [21, 148] nf (fun gm s21 s148 wr => ∃ i : Nat, i + gm = nf ∧ s148 = .int .i64 (i : Int) ∧ s21 = .bool (G i) ∧ Below Ur.heap.size Ur wr)
                  case atStart => exact ⟨0, by omega, rfl, by rw [HG.out]; rfl, Below.refl _ _⟩
                  case round =>
                    obtain ⟨i, hi, rfl, rfl, hbi⟩ := hrel
                    by_cases hli : i < nf
                    · obtain ⟨y, Hy⟩ : ∃ y, Hid (M.fields[i]? = some y) := ⟨M.fields[i]'(by have := Hnf.out; omega), List.getElem?_eq_getElem _⟩
                      have hii : (i : Int) < (nf : Int) := by omega
                      have hb9i := hbRr _ hbi
                      obtain ⟨bf', of', hfe, hfat⟩ := (HFS.out.below FAt.stays (BTr hb09 hb9i)).get FAt.plain Hy.out
                      cases hfe
                      obtain ⟨y0, y1, y2, y3, y4, y5⟩ := hfat
                      rw [add_plain] at y1 y2 y3 y4 y5
                      obtain ⟨O, HOf⟩ : ∃ O, Hid ((BO.vals b).find? (isV y.number) = O) := ⟨_, rfl⟩
                      obtain ⟨vO, bO, HvO, HbO, hgO⟩ : ∃ vO bO, Hid (O.getD zeroV = vO) ∧ Hid (O.isSome = bO) ∧ ∀ V, Below W9.heap.size W9 V → Calls Tryz.prog 14 #[.agg #[.slice b0 m0 d0, .slice b1 m1 d1], .int .i64 y.number] V fun e w' => GotIs d V vO.number bO vO e w' := ⟨_, _, rfl, rfl, hgB0 y.number O HOf.out⟩
                      have HGs : Hid (G (i + 1) = (G i || (bO && (decide (0 < x.choice) && decide (y.choice = x.choice))))) := by
                        show _ = _
                        rw [HG'.out, HG'.out, List.take_add_one, Hy.out]
                        unfold goneB
                        rw [List.any_append]
                        simp only [Option.toList_some, List.any_cons, List.any_nil, Bool.or_false]
                        rw [HOf.out, HbO.out]
                      obtain ⟨U2, HU2⟩ : ∃ U2, Hid (U2 = wr.alloc (.cells #[.string (S y.name), .int .i64 y.number, .int .i64 y.kind, .string (S y.type), .bool y.many, .int .i64 y.choice] 53)) := ⟨_, rfl⟩
                      have hbi2 : Below wr.heap.size wr U2 := by rw [HU2.out]; exact (Below.refl _ _).alloc (Nat.le_refl _) _
                      have xU2 : U2.heap[wr.heap.size]? = some (.cells #[.string (S y.name), .int .i64 y.number, .int .i64 y.kind, .string (S y.type), .bool y.many, .int .i64 y.choice] 53 (0, 0)) := by rw [HU2.out]; exact heap_alloc_new _ _
                      have hbR2 : Below Ur.heap.size Ur U2 := BTr hbi hbi2
                      obtain ⟨g7, g8⟩ := hb7 (wr.alloc (.cells #[.string (S y.name), .int .i64 y.number, .int .i64 y.kind, .string (S y.type), .bool y.many, .int .i64 y.choice] 53)) (by rw [← HU2.out]; exact hbR2)
                      go_wp2_with fail
                      rw [← HU2.out]
                      refine (hgO U2 (hbRr _ hbR2)).mono ?_
                      rintro e Vo ⟨o1', z1, z2, o2', z3, z4, o3', z5, z6, rfl, _, hbo⟩
                      obtain ⟨U3, HU3⟩ : ∃ U3, Hid (U3 = Vo.alloc (.cells #[.int .i64 vO.number, .slice o1' z1 z2, .slice o2' z3 z4, .slice o3' z5 z6] 34)) := ⟨_, rfl⟩
                      have hb23 : Below U2.heap.size U2 U3 := by rw [HU3.out]; exact BTr hbo ((Below.refl _ _).alloc (Nat.le_refl _) _)
                      have hbR3 : Below Ur.heap.size Ur U3 := BTr hbR2 hb23
                      have g5 := hX5 (Vo.alloc (.cells #[.int .i64 vO.number, .slice o1' z1 z2, .slice o2' z3 z4, .slice o3' z5 z6] 34)) (by rw [← HU3.out]; exact hbR3)
                      have g6 : (Vo.alloc (.cells #[.int .i64 vO.number, .slice o1' z1 z2, .slice o2' z3 z4, .slice o3' z5 z6] 34)).cell? ⟨wr.heap.size, 5, none⟩ = some (.int .i64 y.choice) := by rw [← HU3.out]; exact (blk6 ((hb23.block _ (Array.getElem?_eq_some_iff.1 xU2).1).trans xU2)).2.2.2.2.2
                      clear g7 g8 hgO hvl
                      cases hgi : G i with
                      | true =>
                        have HN : Hid (G (i + 1) = true) := by
                          show _ = _
                          rw [HGs.out, hgi, Bool.true_or]
                        go_wp2_with fail
                        rw [← HU3.out]
                        go_roundg (nf - (i + 1))
                        case measure => omega
                        case rel => exact ⟨i + 1, by omega, by go_num, by rw [HN.out], hbR3⟩
                      | false =>
                        cases bO with
                        | false =>
                          have HN : Hid (G (i + 1) = false) := by
                            show _ = _
                            rw [HGs.out, hgi, Bool.false_and, Bool.or_false]
                          go_wp2_with fail
                          rw [← HU3.out]
                          go_roundg (nf - (i + 1))
                          case measure => omega
                          case rel => exact ⟨i + 1, by omega, by go_num, by rw [HN.out], hbR3⟩
                        | true =>
                          by_cases hx0 : 0 < x.choice
                          · have e2 : decide (0 < x.choice) = true := decide_eq_true hx0
                            by_cases hyx : y.choice = x.choice
                            · have e3 : (y.choice == x.choice) = true := beq_iff_eq.2 hyx
                              have HN : Hid (G (i + 1) = true) := by
                                show _ = _
                                rw [HGs.out, hgi, e2, decide_eq_true hyx]
                                rfl
                              clear hx0 hyx
                              go_wp2_with fail
                              rw [← HU3.out]
                              go_roundg (nf - (i + 1))
                              case measure => omega
                              case rel => exact ⟨i + 1, by omega, by go_num, by rw [HN.out], hbR3⟩
                            · have e3 : (y.choice == x.choice) = false := beq_eq_false_iff_ne.2 hyx
                              have HN : Hid (G (i + 1) = false) := by
                                show _ = _
                                rw [HGs.out, hgi, e2, decide_eq_false hyx]
                                rfl
                              clear hx0 hyx
                              go_wp2_with fail
                              rw [← HU3.out]
                              go_roundg (nf - (i + 1))
                              case measure => omega
                              case rel => exact ⟨i + 1, by omega, by go_num, by rw [HN.out], hbR3⟩
                          · have e2 : decide (0 < x.choice) = false := decide_eq_false hx0
                            have HN : Hid (G (i + 1) = false) := by
                              show _ = _
                              rw [HGs.out, hgi, e2]
                              rfl
                            clear hx0
                            go_wp2_with fail
                            rw [← HU3.out]
                            go_roundg (nf - (i + 1))
                            case measure => omega
                            case rel => exact ⟨i + 1, by omega, by go_num, by rw [HN.out], hbR3⟩
                    · have hin : i = nf := by omega
                      subst hin
                      have hb9i := hbRr _ hbi
                      have hDr : Below Ur.heap.size Ur wr.drew := hbi.drew
                      rw [hGn]
                      clear hgB0 hX5 hb7 hvl
                      go_wp2_with fail
                      go_cut [191] from 176 to 191 (fun s191 wc => s191 = .bool false ∧ Below Ur.heap.size Ur wc)
                      case first =>
                        go_quiet (fail)
                        all_goals
                          go_wp2_with fail
                          go_meet
                          exact ⟨rfl, hbi.trans (below_drewM _ _)⟩
                      case rest =>
                        obtain ⟨rfl, hbc⟩ := hcut
                        have hbE := hbRr wc hbc
                        go_wp2_with fail
                        go_roundg (i - (k + 1))
                        case measure => omega
                        case rel => exact ⟨k + 1, by omega, by go_num, hbE⟩
              | false =>
                rw [hgn, if_neg (by simp)] at hCs
                have HAs : Hid (A = some vA) := by
                  obtain ⟨v, hv⟩ := Option.isSome_iff_exists.1 HbA.out
                  have h0 := HvA.out
                  rw [hv] at h0
                  have h0' : v = vA := h0
                  show _ = _
                  rw [hv, h0']
                obtain rfl : bC = true := by rw [← HbC.out, hCs, HAs.out]; rfl
                have HVC : Hid (vC = vA) := by
                  show _ = _
                  rw [← HvC.out, hCs, HAs.out]
                  rfl
                have hGn : G nf = false := by rw [HG0.out, hgn]
                clear hCs hgn HG0
                as_aux_lemma =>
                  go_wp2_with fail
                  rw [← HU1.out]
                  refine (hgA U1 hbU).mono ?_
                  rintro e Vp ⟨p1, i1, j1, p2, i2, j2, p3, i3, j3, rfl, HRp, hbp⟩
                  obtain ⟨Up, HUp⟩ : ∃ Up, Hid (Up = Vp.alloc (.cells #[.int .i64 vA.number, .slice p1 i1 j1, .slice p2 i2 j2, .slice p3 i3 j3] 34)) := ⟨_, rfl⟩
                  have hbp1 : Below Vp.heap.size Vp Up := by rw [HUp.out]; exact (Below.refl _ _).alloc (Nat.le_refl _) _
                  have xp : Up.heap[Vp.heap.size]? = some (.cells #[.int .i64 vA.number, .slice p1 i1 j1, .slice p2 i2 j2, .slice p3 i3 j3] 34 (0, 0)) := by rw [HUp.out]; exact heap_alloc_new _ _
                  have hbU1p : Below U1.heap.size U1 Up := BTr hbp hbp1
                  have hb9p : Below W9.heap.size W9 Up := BTr hbU hbU1p
                  have HCp : Hid _ := hloc Up hbU1p
                  obtain ⟨⟨h1, h2, h3, h4⟩, ⟨h5, h6⟩, h7, h8, h9, h10⟩ := hloc (Vp.alloc (.cells #[.int .i64 vA.number, .slice p1 i1 j1, .slice p2 i2 j2, .slice p3 i3 j3] 34)) (by rw [← HUp.out]; exact hbU1p)
                  go_wp2_with fail
                  rw [← HUp.out]
                  refine (hgB Up hb9p).mono ?_
                  rintro e Vq ⟨t1, k1, l1, t2, k2, l2, t3, k3, l3, rfl, HRq, hbq⟩
                  obtain ⟨Uq, HUq⟩ : ∃ Uq, Hid (Uq = Vq.alloc (.cells #[.int .i64 vB.number, .slice t1 k1 l1, .slice t2 k2 l2, .slice t3 k3 l3] 34)) := ⟨_, rfl⟩
                  have hbq1 : Below Vq.heap.size Vq Uq := by rw [HUq.out]; exact (Below.refl _ _).alloc (Nat.le_refl _) _
                  have xq : Uq.heap[Vq.heap.size]? = some (.cells #[.int .i64 vB.number, .slice t1 k1 l1, .slice t2 k2 l2, .slice t3 k3 l3] 34 (0, 0)) := by rw [HUq.out]; exact heap_alloc_new _ _
                  have hbpq : Below Up.heap.size Up Uq := BTr hbq hbq1
                  have hbU1q : Below U1.heap.size U1 Uq := BTr hbU1p hbpq
                  have hb9q : Below W9.heap.size W9 Uq := BTr hbU hbU1q
                  clear h1 h2 h3 h4 h5 h6 h7 h8 h9 h10
                  obtain ⟨⟨h1, h2, h3, h4⟩, ⟨h5, h6⟩, h7, h8, h9, h10⟩ := hloc (Vq.alloc (.cells #[.int .i64 vB.number, .slice t1 k1 l1, .slice t2 k2 l2, .slice t3 k3 l3] 34)) (by rw [← HUq.out]; exact hbU1q)
                  go_wp2_with fail
                  rw [← HUq.out]
                  refine (hgC Uq hb9q).mono ?_
                  rintro e Vr ⟨r1, n1, s1, r2, n2, s2, r3, n3, s3, rfl, HRr, hbr⟩
                  obtain ⟨Ur, HUr⟩ : ∃ Ur, Hid (Ur = Vr.alloc (.cells #[.int .i64 vC.number, .slice r1 n1 s1, .slice r2 n2 s2, .slice r3 n3 s3] 34)) := ⟨_, rfl⟩
                  have hbr1 : Below Vr.heap.size Vr Ur := by rw [HUr.out]; exact (Below.refl _ _).alloc (Nat.le_refl _) _
                  have xr : Ur.heap[Vr.heap.size]? = some (.cells #[.int .i64 vC.number, .slice r1 n1 s1, .slice r2 n2 s2, .slice r3 n3 s3] 34 (0, 0)) := by rw [HUr.out]; exact heap_alloc_new _ _
                  have hbqr : Below Uq.heap.size Uq Ur := BTr hbr hbr1
                  have hbU1r : Below U1.heap.size U1 Ur := BTr hbU1q hbqr
                  have hb9r : Below W9.heap.size W9 Ur := BTr hbU hbU1r
                  have xp' := (hbqr.block _ (Nat.lt_of_lt_of_le (Array.getElem?_eq_some_iff.1 xp).1 hbpq.size)).trans ((hbpq.block _ (Array.getElem?_eq_some_iff.1 xp).1).trans xp)
                  have xq' := (hbqr.block _ (Array.getElem?_eq_some_iff.1 xq).1).trans xq
                  clear h1 h2 h3 h4 h5 h6 h7 h8 h9 h10
                  have hbRr : ∀ V, Below Ur.heap.size Ur V → Below W9.heap.size W9 V := fun V hV => BTr hb9r hV
                  obtain ⟨⟨h1, h2, h3, h4⟩, ⟨h5, h6⟩, h7, h8, h9, h10⟩ := hloc (Vr.alloc (.cells #[.int .i64 vC.number, .slice r1 n1 s1, .slice r2 n2 s2, .slice r3 n3 s3] 34)) (by rw [← HUr.out]; exact hbU1r)
                  have hvl : ∀ V, Below Ur.heap.size Ur V → (V.cell? ⟨Vp.heap.size, 0, none⟩ = some (.int .i64 vA.number) ∧ V.cell? ⟨Vp.heap.size, 1, none⟩ = some (.slice p1 i1 j1) ∧ V.cell? ⟨Vp.heap.size, 2, none⟩ = some (.slice p2 i2 j2) ∧ V.cell? ⟨Vp.heap.size, 3, none⟩ = some (.slice p3 i3 j3)) ∧ (V.cell? ⟨Vq.heap.size, 0, none⟩ = some (.int .i64 vB.number) ∧ V.cell? ⟨Vq.heap.size, 1, none⟩ = some (.slice t1 k1 l1) ∧ V.cell? ⟨Vq.heap.size, 2, none⟩ = some (.slice t2 k2 l2) ∧ V.cell? ⟨Vq.heap.size, 3, none⟩ = some (.slice t3 k3 l3)) ∧ (V.cell? ⟨Vr.heap.size, 0, none⟩ = some (.int .i64 vC.number) ∧ V.cell? ⟨Vr.heap.size, 1, none⟩ = some (.slice r1 n1 s1) ∧ V.cell? ⟨Vr.heap.size, 2, none⟩ = some (.slice r2 n2 s2) ∧ V.cell? ⟨Vr.heap.size, 3, none⟩ = some (.slice r3 n3 s3)) := fun V hV => ⟨blk4' ((hV.block _ (Array.getElem?_eq_some_iff.1 xp').1).trans xp'), blk4' ((hV.block _ (Array.getElem?_eq_some_iff.1 xq').1).trans xq'), blk4' ((hV.block _ (Array.getElem?_eq_some_iff.1 xr).1).trans xr)⟩
                  have hop : ∀ V, Below Ur.heap.size Ur V → Calls Tryz.prog 23 #[.agg #[.int .i64 vA.number, .slice p1 i1 j1, .slice p2 i2 j2, .slice p3 i3 j3]] V fun e w' => ∃ k : Nat, e = .returned (.agg #[.slice (some ⟨k, 0, none⟩) 1 1, .slice none 0 0]) ∧ Hid (BRd d w' (.slice (some ⟨k, 0, none⟩) 1 1) (.slice none 0 0) ⟨[vA], []⟩) ∧ Below Ur.heap.size Ur w' ∧ Below V.heap.size V w' := fun V hV => (one_any ((HRp.out.below (BTr hbp1 (BTr hbpq hbqr))).below hV)).mono fun e w' ⟨k, h1, h2, h3⟩ => ⟨k, h1, h2, BTr hV h3, h3⟩
                  have hor : ∀ V, Below Ur.heap.size Ur V → Calls Tryz.prog 23 #[.agg #[.int .i64 vC.number, .slice r1 n1 s1, .slice r2 n2 s2, .slice r3 n3 s3]] V fun e w' => ∃ k : Nat, e = .returned (.agg #[.slice (some ⟨k, 0, none⟩) 1 1, .slice none 0 0]) ∧ Hid (BRd d w' (.slice (some ⟨k, 0, none⟩) 1 1) (.slice none 0 0) ⟨[vC], []⟩) ∧ Below Ur.heap.size Ur w' ∧ Below V.heap.size V w' := fun V hV => (one_any ((HRr.out.below hbr1).below hV)).mono fun e w' ⟨k, h1, h2, h3⟩ => ⟨k, h1, h2, BTr hV h3, h3⟩
                  obtain ⟨⟨⟨f1, f2, _, _⟩, _, _⟩, _, _, f9⟩ := hcells (Vr.alloc (.cells #[.int .i64 vC.number, .slice r1 n1 s1, .slice r2 n2 s2, .slice r3 n3 s3] 34)) (by rw [← HUr.out]; exact hb9r)
                  have HG' : Hid _ := HG.out
                  have hX5 : ∀ V, Below Ur.heap.size Ur V → V.cell? ⟨wr.heap.size, 5, none⟩ = some (.int .i64 x.choice) := fun V hV => (hloc V (BTr hbU1r hV)).2.2.2.2.2
                  have hb7 : ∀ V, Below Ur.heap.size Ur V → V.cell? ⟨w.heap.size + 2, 0, none⟩ = some (.slice b0 m0 d0) ∧ V.cell? ⟨w.heap.size + 2, 1, none⟩ = some (.slice b1 m1 d1) := fun V hV => ⟨(hloc V (BTr hbU1r hV)).1.2.2.1, (hloc V (BTr hbU1r hV)).1.2.2.2⟩
                  clear hcells hgA hgB hgC hgA0 hgC0 hloc y0 y1 y2 y3 y4 y5
                  go_wp2_with fail
                  rw [← HUr.out]
                  clear h1 h2 h3 h4 h5 h6 h7 h8 h9 h10 f1 f2 f9
                  obtain ⟨wo, Hwo⟩ : ∃ wo, wo = wr := ⟨_, rfl⟩
                  subst Hwo
                  go_loopg [21, 148] nf (fun gm s21 s148 wr => ∃ i : Nat, i + gm = nf ∧ s148 = .int .i64 (i : Int) ∧ s21 = .bool (G i) ∧ Below Ur.heap.size Ur wr)
                  case atStart => exact ⟨0, by omega, rfl, by rw [HG.out]; rfl, Below.refl _ _⟩
                  case round =>
                    obtain ⟨i, hi, rfl, rfl, hbi⟩ := hrel
                    by_cases hli : i < nf
                    · obtain ⟨y, Hy⟩ : ∃ y, Hid (M.fields[i]? = some y) := ⟨M.fields[i]'(by have := Hnf.out; omega), List.getElem?_eq_getElem _⟩
                      have hii : (i : Int) < (nf : Int) := by omega
                      have hb9i := hbRr _ hbi
                      obtain ⟨bf', of', hfe, hfat⟩ := (HFS.out.below FAt.stays (BTr hb09 hb9i)).get FAt.plain Hy.out
                      cases hfe
                      obtain ⟨y0, y1, y2, y3, y4, y5⟩ := hfat
                      rw [add_plain] at y1 y2 y3 y4 y5
                      obtain ⟨O, HOf⟩ : ∃ O, Hid ((BO.vals b).find? (isV y.number) = O) := ⟨_, rfl⟩
                      obtain ⟨vO, bO, HvO, HbO, hgO⟩ : ∃ vO bO, Hid (O.getD zeroV = vO) ∧ Hid (O.isSome = bO) ∧ ∀ V, Below W9.heap.size W9 V → Calls Tryz.prog 14 #[.agg #[.slice b0 m0 d0, .slice b1 m1 d1], .int .i64 y.number] V fun e w' => GotIs d V vO.number bO vO e w' := ⟨_, _, rfl, rfl, hgB0 y.number O HOf.out⟩
                      have HGs : Hid (G (i + 1) = (G i || (bO && (decide (0 < x.choice) && decide (y.choice = x.choice))))) := by
                        show _ = _
                        rw [HG'.out, HG'.out, List.take_add_one, Hy.out]
                        unfold goneB
                        rw [List.any_append]
                        simp only [Option.toList_some, List.any_cons, List.any_nil, Bool.or_false]
                        rw [HOf.out, HbO.out]
                      obtain ⟨U2, HU2⟩ : ∃ U2, Hid (U2 = wr.alloc (.cells #[.string (S y.name), .int .i64 y.number, .int .i64 y.kind, .string (S y.type), .bool y.many, .int .i64 y.choice] 53)) := ⟨_, rfl⟩
                      have hbi2 : Below wr.heap.size wr U2 := by rw [HU2.out]; exact (Below.refl _ _).alloc (Nat.le_refl _) _
                      have xU2 : U2.heap[wr.heap.size]? = some (.cells #[.string (S y.name), .int .i64 y.number, .int .i64 y.kind, .string (S y.type), .bool y.many, .int .i64 y.choice] 53 (0, 0)) := by rw [HU2.out]; exact heap_alloc_new _ _
                      have hbR2 : Below Ur.heap.size Ur U2 := BTr hbi hbi2
                      obtain ⟨g7, g8⟩ := hb7 (wr.alloc (.cells #[.string (S y.name), .int .i64 y.number, .int .i64 y.kind, .string (S y.type), .bool y.many, .int .i64 y.choice] 53)) (by rw [← HU2.out]; exact hbR2)
                      go_wp2_with fail
                      rw [← HU2.out]
                      refine (hgO U2 (hbRr _ hbR2)).mono ?_
                      rintro e Vo ⟨o1', z1, z2, o2', z3, z4, o3', z5, z6, rfl, _, hbo⟩
                      obtain ⟨U3, HU3⟩ : ∃ U3, Hid (U3 = Vo.alloc (.cells #[.int .i64 vO.number, .slice o1' z1 z2, .slice o2' z3 z4, .slice o3' z5 z6] 34)) := ⟨_, rfl⟩
                      have hb23 : Below U2.heap.size U2 U3 := by rw [HU3.out]; exact BTr hbo ((Below.refl _ _).alloc (Nat.le_refl _) _)
                      have hbR3 : Below Ur.heap.size Ur U3 := BTr hbR2 hb23
                      have g5 := hX5 (Vo.alloc (.cells #[.int .i64 vO.number, .slice o1' z1 z2, .slice o2' z3 z4, .slice o3' z5 z6] 34)) (by rw [← HU3.out]; exact hbR3)
                      have g6 : (Vo.alloc (.cells #[.int .i64 vO.number, .slice o1' z1 z2, .slice o2' z3 z4, .slice o3' z5 z6] 34)).cell? ⟨wr.heap.size, 5, none⟩ = some (.int .i64 y.choice) := by rw [← HU3.out]; exact (blk6 ((hb23.block _ (Array.getElem?_eq_some_iff.1 xU2).1).trans xU2)).2.2.2.2.2
                      clear g7 g8 hgO hvl hop hor
                      cases hgi : G i with
                      | true =>
                        have HN : Hid (G (i + 1) = true) := by
                          show _ = _
                          rw [HGs.out, hgi, Bool.true_or]
                        go_wp2_with fail
                        rw [← HU3.out]
                        go_roundg (nf - (i + 1))
                        case measure => omega
                        case rel => exact ⟨i + 1, by omega, by go_num, by rw [HN.out], hbR3⟩
                      | false =>
                        cases bO with
                        | false =>
                          have HN : Hid (G (i + 1) = false) := by
                            show _ = _
                            rw [HGs.out, hgi, Bool.false_and, Bool.or_false]
                          go_wp2_with fail
                          rw [← HU3.out]
                          go_roundg (nf - (i + 1))
                          case measure => omega
                          case rel => exact ⟨i + 1, by omega, by go_num, by rw [HN.out], hbR3⟩
                        | true =>
                          by_cases hx0 : 0 < x.choice
                          · have e2 : decide (0 < x.choice) = true := decide_eq_true hx0
                            by_cases hyx : y.choice = x.choice
                            · have e3 : (y.choice == x.choice) = true := beq_iff_eq.2 hyx
                              have HN : Hid (G (i + 1) = true) := by
                                show _ = _
                                rw [HGs.out, hgi, e2, decide_eq_true hyx]
                                rfl
                              clear hx0 hyx
                              go_wp2_with fail
                              rw [← HU3.out]
                              go_roundg (nf - (i + 1))
                              case measure => omega
                              case rel => exact ⟨i + 1, by omega, by go_num, by rw [HN.out], hbR3⟩
                            · have e3 : (y.choice == x.choice) = false := beq_eq_false_iff_ne.2 hyx
                              have HN : Hid (G (i + 1) = false) := by
                                show _ = _
                                rw [HGs.out, hgi, e2, decide_eq_false hyx]
                                rfl
                              clear hx0 hyx
                              go_wp2_with fail
                              rw [← HU3.out]
                              go_roundg (nf - (i + 1))
                              case measure => omega
                              case rel => exact ⟨i + 1, by omega, by go_num, by rw [HN.out], hbR3⟩
                          · have e2 : decide (0 < x.choice) = false := decide_eq_false hx0
                            have HN : Hid (G (i + 1) = false) := by
                              show _ = _
                              rw [HGs.out, hgi, e2]
                              rfl
                            clear hx0
                            go_wp2_with fail
                            rw [← HU3.out]
                            go_roundg (nf - (i + 1))
                            case measure => omega
                            case rel => exact ⟨i + 1, by omega, by go_num, by rw [HN.out], hbR3⟩
                    · have hin : i = nf := by omega
                      subst hin
                      have hb9i := hbRr _ hbi
                      have hDr : Below Ur.heap.size Ur wr.drew := hbi.drew
                      obtain ⟨⟨c0, c1, c2, c3⟩, ⟨c4, c5, c6, c7⟩, c8, c9, cx, cy⟩ := hvl _ hDr
                      rw [hGn]
                      clear hgB0 hX5 hb7
                      go_wp2_with fail
                      go_cut [191] from 176 to 191 (fun s191 wc => s191 = .bool false ∧ Below Ur.heap.size Ur wc)
                      case first =>
                        refine wp_region_held_drew (S := fun V => Below Ur.heap.size Ur V) (by kernel_rfl) hDr (fun hHeld => ?_)
                        refine wpAnyH_take (i := 0) (v := ?vstay16p1) rfl (by kernel_rfl) (by kernel_rfl) (by kernel_rfl) (fun _ _ _ h => h) (Or.inl ⟨by rfl, ?hystay16p1⟩) (by assumption) ?_
                        case hystay16p1 => (intro W hSw; obtain ⟨⟨o0, o1, o2, o3⟩, ⟨o4, o5, o6, o7⟩, o8, o9, o10, o11⟩ := hvl W hSw; go_simp; first | done | with_reducible rfl)
                        try simp only [List.getElem_toArray, List.getElem_cons_zero, Act.put, List.setIfInBounds_toArray, List.set_cons_zero, List.set_cons_succ]
                        refine wpAnyH_take (i := 1) (v := ?vstay16p2) rfl (by kernel_rfl) (by kernel_rfl) (by kernel_rfl) (fun _ _ _ h => h) (Or.inl ⟨by rfl, ?hystay16p2⟩) (by assumption) ?_
                        case hystay16p2 => (intro W hSw; obtain ⟨⟨o0, o1, o2, o3⟩, ⟨o4, o5, o6, o7⟩, o8, o9, o10, o11⟩ := hvl W hSw; go_simp; first | done | with_reducible rfl)
                        try simp only [List.getElem_toArray, List.getElem_cons_succ, List.getElem_cons_zero, Act.put, List.setIfInBounds_toArray, List.set_cons_zero, List.set_cons_succ]
                        refine wpAnyH_take (i := 2) (v := ?vstay16p3) rfl (by kernel_rfl) (by kernel_rfl) (by kernel_rfl) (fun _ _ _ h => h) (Or.inl ⟨by rfl, ?hystay16p3⟩) (by assumption) ?_
                        case hystay16p3 => (intro W hSw; obtain ⟨⟨o0, o1, o2, o3⟩, ⟨o4, o5, o6, o7⟩, o8, o9, o10, o11⟩ := hvl W hSw; go_simp; first | done | with_reducible rfl)
                        try simp only [List.getElem_toArray, List.getElem_cons_succ, List.getElem_cons_zero, Act.put, List.setIfInBounds_toArray, List.set_cons_zero, List.set_cons_succ]
                        refine wpAnyH_take (i := 3) (v := ?vstay16p4) rfl (by kernel_rfl) (by kernel_rfl) (by kernel_rfl) (fun _ _ _ h => h) (Or.inl ⟨by rfl, ?hystay16p4⟩) (by assumption) ?_
                        case hystay16p4 => (intro W hSw; obtain ⟨⟨o0, o1, o2, o3⟩, ⟨o4, o5, o6, o7⟩, o8, o9, o10, o11⟩ := hvl W hSw; go_simp; first | done | with_reducible rfl)
                        try simp only [List.getElem_toArray, List.getElem_cons_succ, List.getElem_cons_zero, Act.put, List.setIfInBounds_toArray, List.set_cons_zero, List.set_cons_succ]
                        refine wpAnyH_take (i := 4) (v := ?vstay16p5) rfl (by kernel_rfl) (by kernel_rfl) (by kernel_rfl) (fun _ _ _ h => h) (Or.inl ⟨by rfl, ?hystay16p5⟩) (by assumption) ?_
                        case hystay16p5 => (intro W hSw; obtain ⟨⟨o0, o1, o2, o3⟩, ⟨o4, o5, o6, o7⟩, o8, o9, o10, o11⟩ := hvl W hSw; go_simp; first | done | with_reducible rfl)
                        try simp only [List.getElem_toArray, List.getElem_cons_succ, List.getElem_cons_zero, Act.put, List.setIfInBounds_toArray, List.set_cons_zero, List.set_cons_succ]
                        refine wpAnyH_take (i := 5) (v := ?vstay16p6) rfl (by kernel_rfl) (by kernel_rfl) (by kernel_rfl) (fun _ _ _ h => h) (Or.inl ⟨by rfl, ?hystay16p6⟩) (by assumption) ?_
                        case hystay16p6 => (intro W hSw; obtain ⟨⟨o0, o1, o2, o3⟩, ⟨o4, o5, o6, o7⟩, o8, o9, o10, o11⟩ := hvl W hSw; go_simp; first | done | with_reducible rfl)
                        try simp only [List.getElem_toArray, List.getElem_cons_succ, List.getElem_cons_zero, Act.put, List.setIfInBounds_toArray, List.set_cons_zero, List.set_cons_succ]
                        refine wpAnyH_take (i := 6) (v := ?vstay16p7) rfl (by kernel_rfl) (by kernel_rfl) (by kernel_rfl) (fun _ _ _ h => h) (Or.inl ⟨by rfl, ?hystay16p7⟩) (by assumption) ?_
                        case hystay16p7 => (intro W hSw; obtain ⟨⟨o0, o1, o2, o3⟩, ⟨o4, o5, o6, o7⟩, o8, o9, o10, o11⟩ := hvl W hSw; go_simp; first | done | with_reducible rfl)
                        try simp only [List.getElem_toArray, List.getElem_cons_succ, List.getElem_cons_zero, Act.put, List.setIfInBounds_toArray, List.set_cons_zero, List.set_cons_succ]
                        refine wpAnyH_take (i := 7) (v := ?vstay16p8) rfl (by kernel_rfl) (by kernel_rfl) (by kernel_rfl) (fun _ _ _ h => h) (Or.inl ⟨by rfl, ?hystay16p8⟩) (by assumption) ?_
                        case hystay16p8 => (intro W hSw; obtain ⟨⟨o0, o1, o2, o3⟩, ⟨o4, o5, o6, o7⟩, o8, o9, o10, o11⟩ := hvl W hSw; go_simp; first | done | with_reducible rfl)
                        try simp only [List.getElem_toArray, List.getElem_cons_succ, List.getElem_cons_zero, Act.put, List.setIfInBounds_toArray, List.set_cons_zero, List.set_cons_succ]
                        refine wpAnyH_take (i := 9) (v := ?vstay16p9) rfl (by kernel_rfl) (by kernel_rfl) (by kernel_rfl) (fun _ _ _ h => h) (Or.inl ⟨by rfl, ?hystay16p9⟩) (by assumption) ?_
                        case hystay16p9 => (intro W hSw; obtain ⟨⟨o0, o1, o2, o3⟩, ⟨o4, o5, o6, o7⟩, o8, o9, o10, o11⟩ := hvl W hSw; go_simp; first | done | with_reducible rfl)
                        try simp only [List.getElem_toArray, List.getElem_cons_succ, List.getElem_cons_zero, Act.put, List.setIfInBounds_toArray, List.set_cons_zero, List.set_cons_succ]
                        refine wpAnyH_take (i := 10) (v := ?vstay16p10) rfl (by kernel_rfl) (by kernel_rfl) (by kernel_rfl) (fun _ _ _ h => h) (Or.inl ⟨by rfl, ?hystay16p10⟩) (by assumption) ?_
                        case hystay16p10 => (intro W hSw; obtain ⟨⟨o0, o1, o2, o3⟩, ⟨o4, o5, o6, o7⟩, o8, o9, o10, o11⟩ := hvl W hSw; go_simp; first | done | with_reducible rfl)
                        try simp only [List.getElem_toArray, List.getElem_cons_succ, List.getElem_cons_zero, Act.put, List.setIfInBounds_toArray, List.set_cons_zero, List.set_cons_succ]
                        refine wpAnyH_ready (rs := [8]) (by kernel_rfl) (by simp) ?_
                        refine AllReadyH.cons rfl (fun K hK => ?_) AllReadyH.nil
                        go_simp
                        refine (hop _ hDr).mono ?_
                        rintro e y1 ⟨kk1, rfl, HB1, hb1, hB1⟩
                        refine hK.out _ _ ?_ (fun hHeld => ?_)
                        · (try dsimp only); first | with_reducible exact hDr | with_reducible exact hb1 | with_reducible exact hb2 | with_reducible exact hb4'
                        clear hK K
                        try simp only [List.getElem_toArray, List.getElem_cons_succ, List.getElem_cons_zero, Act.put, List.setIfInBounds_toArray, List.set_cons_zero, List.set_cons_succ]
                        refine wpAnyH_ready (rs := [11]) (by kernel_rfl) (by simp) ?_
                        refine AllReadyH.cons rfl (fun K hK => ?_) AllReadyH.nil
                        go_simp
                        refine (hor _ hb1).mono ?_
                        rintro e y2 ⟨kk2, rfl, HB2, hb2, hB2⟩
                        have HB2' : Hid (BRd d y2 (.slice (some ⟨kk2, 0, none⟩) 1 1) (.slice none 0 0) ⟨[vA], []⟩) := (by rw [← HVC.out]; exact HB2.out)
                        refine hK.out _ _ ?_ (fun hHeld => ?_)
                        · (try dsimp only); first | with_reducible exact hDr | with_reducible exact hb1 | with_reducible exact hb2 | with_reducible exact hb4'
                        clear hK K
                        try simp only [List.getElem_toArray, List.getElem_cons_succ, List.getElem_cons_zero, Act.put, List.setIfInBounds_toArray, List.set_cons_zero, List.set_cons_succ]
                        refine wpAnyH_ready (rs := [12]) (by kernel_rfl) (by simp) ?_
                        refine AllReadyH.cons rfl (fun K hK => ?_) AllReadyH.nil
                        go_simp
                        refine (body_same (d := d) (HB1.out.below hB2) HB2'.out).mono ?_
                        rintro e y3 ⟨rfl, hb3'⟩
                        have hb4' := BTr hb2 hb3'
                        refine hK.out _ _ ?_ (fun hHeld => ?_)
                        · (try dsimp only); first | with_reducible exact hDr | with_reducible exact hb1 | with_reducible exact hb2 | with_reducible exact hb4'
                        clear hK K
                        try simp only [List.getElem_toArray, List.getElem_cons_succ, List.getElem_cons_zero, Act.put, List.setIfInBounds_toArray, List.set_cons_zero, List.set_cons_succ]
                        refine wpAnyH_ready (rs := [13]) (by kernel_rfl) (by simp) ?_
                        refine AllReadyH.cons rfl (fun K hK => ?_) AllReadyH.nil
                        go_simp
                        refine hK.out _ _ ?_ (fun hHeld => ?_)
                        · (try dsimp only); first | with_reducible exact hDr | with_reducible exact hb1 | with_reducible exact hb2 | with_reducible exact hb4'
                        clear hK K
                        try simp only [List.getElem_toArray, List.getElem_cons_succ, List.getElem_cons_zero, Act.put, List.setIfInBounds_toArray, List.set_cons_zero, List.set_cons_succ]
                        refine wpAnyH_ready (rs := [14]) (by kernel_rfl) (by simp) ?_
                        refine AllReadyH.cons rfl (fun K hK => ?_) AllReadyH.nil
                        go_simp
                        refine hK.out _ _ ?_ (fun hHeld => ?_)
                        · (try dsimp only); first | with_reducible exact hDr | with_reducible exact hb1 | with_reducible exact hb2 | with_reducible exact hb4'
                        clear hK K
                        try simp only [List.getElem_toArray, List.getElem_cons_succ, List.getElem_cons_zero, Act.put, List.setIfInBounds_toArray, List.set_cons_zero, List.set_cons_succ]
                        refine wpAnyH_ready (rs := [15]) (by kernel_rfl) (by simp) ?_
                        refine AllReadyH.cons rfl (fun K hK => ?_) AllReadyH.nil
                        go_simp
                        refine hK.out _ _ ?_ (fun hHeld => ?_)
                        · (try dsimp only); first | with_reducible exact hDr | with_reducible exact hb1 | with_reducible exact hb2 | with_reducible exact hb4'
                        clear hK K
                        try simp only [List.getElem_toArray, List.getElem_cons_succ, List.getElem_cons_zero, Act.put, List.setIfInBounds_toArray, List.set_cons_zero, List.set_cons_succ]
                        refine wpAnyH_done (by kernel_rfl) ?_ _
                        go_wp2_with fail
                        go_meet
                        exact ⟨rfl, hb4'⟩
                      case rest =>
                        obtain ⟨rfl, hbc⟩ := hcut
                        have hbE := hbRr wc hbc
                        clear hop hor hvl
                        go_wp2_with fail
                        go_roundg (i - (k + 1))
                        case measure => omega
                        case rel => exact ⟨k + 1, by omega, by go_num, hbE⟩
      · have hkn : k = nf := by omega
        have hceq : ((f1' : Int) == (o1 : Int) + (m1 : Int)) = true := beq_iff_eq.2 (by have := HCL.out; omega)
        obtain ⟨⟨⟨q1, q2, q3, q4⟩, q5, q6⟩, q7, q8, q9⟩ := hcells wr hbr0
        clear hcells hgA0 hgB0 hgC0
        go_wp2_with fail
        go_ret
        exact ⟨rfl, BTr hb09 hbr0⟩

end L
end Go.Proofs.YtelmjekjohbmjaaGreatDoor

