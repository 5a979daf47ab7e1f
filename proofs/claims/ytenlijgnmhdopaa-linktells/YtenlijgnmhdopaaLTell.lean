/- The walk of LinkTells. -/
import Derived.Test.YtenlijgnmhdopaaLRLnk
import Derived.Test.YtenlijgnmhdopaaLSame
namespace Go.Proofs.Ytenlijgnmhdopaa
namespace L
open Go.RowKit
attribute [local go_sem ↓] Go.wp_at_zero Go.wp_at_succ

theorem fields_flt : Try.prog.underlying 34 = some (.struct (Try.prog.fieldsOf 34)) := by kernel_rfl
theorem held_flt : Try.prog.stoodInHeld 34 = false := by kernel_rfl
set_option maxHeartbeats 1000000 in
theorem neq_flt (a b : Int) (w : World) : (binOp .neq 34 (.agg #[.int .i64 a, .int .i64 b]) (.agg #[.int .i64 a, .int .i64 b])).run Try.prog w = .ok (.bool false) w := by
  have u1 := Try.underlying3; have a1 := Try.isAgg3; have z1 := Try.sizeOf3
  have u2 := Try.underlying26; have a2 := Try.isAgg26; have z2 := Try.sizeOf26
  rw [run_neq_struct, show (10000 : Nat) = 9999 + 1 from rfl, run_equalIn_agg w 9999 34 _ _ fields_flt held_flt]
  simp only [Program.fieldsOf, Try.underlying34]
  go_simp
set_option maxHeartbeats 1000000 in
theorem eql_flt (a b : Int) (w : World) : (binOp .eql 34 (.agg #[.int .i64 a, .int .i64 b]) (.agg #[.int .i64 a, .int .i64 b])).run Try.prog w = .ok (.bool true) w := by
  have u1 := Try.underlying3; have a1 := Try.isAgg3; have z1 := Try.sizeOf3
  have u2 := Try.underlying26; have a2 := Try.isAgg26; have z2 := Try.sizeOf26
  rw [run_eql_struct, show (10000 : Nat) = 9999 + 1 from rfl, run_equalIn_agg w 9999 34 _ _ fields_flt held_flt]
  simp only [Program.fieldsOf, Try.underlying34]
  go_simp
theorem BT {W V V' : World} (h : Below W.heap.size W V) (k : Below V.heap.size V V') : Below W.heap.size W V' := h.trans (k.mono h.size)

theorem BT' {W V V' : World} (h : Below W.heap.size W V) (k : Below V.heap.size V V') : Below W.heap.size W V' := h.trans (k.mono h.size)

set_option maxHeartbeats 4000000 in
set_option maxRecDepth 100000 in
theorem tells_walk {w : World} {vm ve : Value} {g : GI} (hg : GRd w vm ve g) (hok : GOk g) (s : List UInt8) :
    Calls Try.prog 6 #[.agg #[vm, ve], .string (S s)] w fun e w' => e = .returned (.bool true) ∧ Below w.heap.size w w' := by
  obtain ⟨a1, n1, c1, rfl, H1, _⟩ := hg.1.shape
  obtain ⟨a2, n2, c2, rfl, H2, _⟩ := hg.2.shape
  have hr : reachBytes ≤ 140737488355328 := by unfold reachBytes; omega
  have h1 : n1 ≤ 140737488355328 := by have := hok.2.2.1; rw [H1.out]; omega
  have h2 : n2 ≤ 140737488355328 := by have := hok.2.2.2; rw [H2.out]; omega
  obtain ⟨W0, HW0⟩ : ∃ W0, Hid (W0 = w.alloc (.cells #[.slice a1 n1 c1, .slice a2 n2 c2] 45)) := ⟨_, rfl⟩
  have hb0 : Below w.heap.size w W0 := by rw [HW0.out]; exact (Below.refl _ _).alloc (Nat.le_refl _) _
  have hz0 : w.heap.size + 1 ≤ W0.heap.size := by rw [HW0.out]; simp
  have x1 : W0.heap[w.heap.size]? = some (.cells #[.slice a1 n1 c1, .slice a2 n2 c2] 45 (0, 0)) := by rw [HW0.out]; exact heap_alloc_new _ _
  obtain ⟨qe, qi, HQ⟩ : ∃ qe qi, Hid (wrongL g = (qe, qi)) := ⟨_, _, rfl⟩
  obtain ⟨r1, Hr1⟩ : ∃ r1, Hid (r1 = firstI (fun m => decide (m.name = s)) g.msgs) := ⟨_, rfl⟩
  obtain ⟨r2, Hr2⟩ : ∃ r2, Hid (r2 = firstI (fun m => decide (m.name = s)) g.enums) := ⟨_, rfl⟩
  have hBw : ∀ V, Below W0.heap.size W0 V → Below w.heap.size w V := fun V hV => hb0.trans (hV.mono hb0.size)
  have c15 : ∀ V, Below W0.heap.size W0 V → Calls Try.prog 15 #[.agg #[.slice a1 n1 c1, .slice a2 n2 c2]] V fun e V' => e = .returned (.agg #[.int .i64 qe, .int .i64 (qi : Int)]) ∧ Below V.heap.size V V' := by
    intro V hV
    have := Wrong_any (hg.below (hBw V hV)) (by rw [← H1.out]; exact h1) (by rw [← H2.out]; exact h2) hok.fits
    rw [HQ.out] at this; exact this
  have c16 : ∀ V, Below W0.heap.size W0 V → Calls Try.prog 16 #[.agg #[.slice a1 n1 c1, .slice a2 n2 c2]] V fun e V' => e = .returned (.agg #[.int .i64 qe, .int .i64 (qi : Int)]) ∧ Below V.heap.size V V' := by
    intro V hV
    have := rwrong_any (hg.below (hBw V hV)) (by rw [← H1.out]; exact h1) (by rw [← H2.out]; exact h2) hok.fits
    rw [HQ.out] at this; exact this
  have c17 : ∀ V, Below W0.heap.size W0 V → Calls Try.prog 17 #[.agg #[.slice a1 n1 c1, .slice a2 n2 c2], .string (S s)] V fun e V' => e = .returned (.int .i64 r1) ∧ Below V.heap.size V V' := by
    intro V hV; rw [Hr1.out]; exact message_any (hg.below (hBw V hV)).1 ⟨a2, n2, c2, rfl⟩ s
  have c18 : ∀ V, Below W0.heap.size W0 V → Calls Try.prog 18 #[.agg #[.slice a1 n1 c1, .slice a2 n2 c2], .string (S s)] V fun e V' => e = .returned (.int .i64 r1) ∧ Below V.heap.size V V' := by
    intro V hV; rw [Hr1.out]; exact rmessage_any (hg.below (hBw V hV)).1 ⟨a2, n2, c2, rfl⟩ s
  have c19 : ∀ V, Below W0.heap.size W0 V → Calls Try.prog 19 #[.agg #[.slice a1 n1 c1, .slice a2 n2 c2], .string (S s)] V fun e V' => e = .returned (.int .i64 r2) ∧ Below V.heap.size V V' := by
    intro V hV; rw [Hr2.out]; exact enum_any (hg.below (hBw V hV)).2 ⟨a1, n1, c1, rfl⟩ s
  have c20 : ∀ V, Below W0.heap.size W0 V → Calls Try.prog 20 #[.agg #[.slice a1 n1 c1, .slice a2 n2 c2], .string (S s)] V fun e V' => e = .returned (.int .i64 r2) ∧ Below V.heap.size V V' := by
    intro V hV; rw [Hr2.out]; exact renum_any (hg.below (hBw V hV)).2 ⟨a1, n1, c1, rfl⟩ s
  have hcl : ∀ V, Below W0.heap.size W0 V → Below W0.heap.size W0 V ∧ V.cell? ⟨w.heap.size, 0, none⟩ = some (.slice a1 n1 c1) ∧ V.cell? ⟨w.heap.size, 1, none⟩ = some (.slice a2 n2 c2) := fun V hV => ⟨hV, cell_below hV (cell_of_blk x1 0 _ rfl), cell_below hV (cell_of_blk x1 1 _ rfl)⟩
  have hneq := neq_flt qe (qi : Int)
  go_enter Try.func6, Try.ntmps6
  go_wp2_with fail
  rw [← HW0.out]
  go_cut [31] from 9 to 31 (fun s31 wc => s31 = .bool false ∧ Below W0.heap.size W0 wc)
  case first =>
    clear hg hok HW0 hb0 x1 hBw H1 H2 HQ Hr1 Hr2 h1 h2 hr
    go_region_held3 (fun V => Below W0.heap.size W0 V ∧ V.cell? ⟨w.heap.size, 0, none⟩ = some (.slice a1 n1 c1) ∧ V.cell? ⟨w.heap.size, 1, none⟩ = some (.slice a2 n2 c2)) ((refine hcl _ ?_; first | exact (Below.refl _ _).drew | exact hBn)) ((first | (go_at_call 15; go_split_ands; refine (c15 _ (by assumption)).mono ?_; rintro e wn ⟨rfl, hbn⟩; have hBn := BT (by assumption) hbn) | (go_at_call 16; go_split_ands; refine (c16 _ (by assumption)).mono ?_; rintro e wn ⟨rfl, hbn⟩; have hBn := BT (by assumption) hbn) | (go_at_call 17; go_split_ands; refine (c17 _ (by assumption)).mono ?_; rintro e wn ⟨rfl, hbn⟩; have hBn := BT (by assumption) hbn) | (go_at_call 18; go_split_ands; refine (c18 _ (by assumption)).mono ?_; rintro e wn ⟨rfl, hbn⟩; have hBn := BT (by assumption) hbn) | (go_at_call 19; go_split_ands; refine (c19 _ (by assumption)).mono ?_; rintro e wn ⟨rfl, hbn⟩; have hBn := BT (by assumption) hbn) | (go_at_call 20; go_split_ands; refine (c20 _ (by assumption)).mono ?_; rintro e wn ⟨rfl, hbn⟩; have hBn := BT (by assumption) hbn)))
    all_goals go_wp2_with fail
    all_goals go_meet
    all_goals exact ⟨rfl, hBn⟩
  case rest =>
    obtain ⟨rfl, hbc⟩ := hcut
    have yc := (hbc.block w.heap.size (by omega)).trans x1
    obtain ⟨u0, u1⟩ := blk2 yc
    have hbwc := hBw wc hbc
    have hlk := link_any (hg.below hbwc) hok
    clear c15 c16 c17 c18 c19 c20 hcl hneq
    go_wp2_with fail
    refine hlk.mono ?_
    rintro e w3 ⟨hb3, hx⟩
    have hbw3 : Below w.heap.size w w3 := BT' hbwc hb3
    have y3 := (hb3.block w.heap.size (Array.getElem?_eq_some_iff.1 yc).1).trans yc
    clear hlk u0 u1
    rcases hx with ⟨hz, vm3, ve3, lm3, le3, rfl, hog, hm3, he3⟩ | ⟨hz, rfl⟩
    · have hgr3 : GRd w3 vm3 ve3 (linkL g) := by
        have := hog.rd
        rw [hm3, he3] at this
        exact this
      obtain ⟨am3, nm3, cm3, rfl, _, _⟩ := hgr3.1.shape
      obtain ⟨ae3, ne3, ce3, rfl, _, _⟩ := hgr3.2.shape
      clear hog hm3 he3
      obtain ⟨W4, HW4⟩ : ∃ W4, Hid (W4 = (w3.alloc (.cells #[.slice am3 nm3 cm3, .slice ae3 ne3 ce3] 45)).alloc (.cells #[.int .i64 0, .int .i64 0] 34)) := ⟨_, rfl⟩
      have hb4 : Below w3.heap.size w3 W4 := by rw [HW4.out]; exact ((Below.refl _ _).alloc (Nat.le_refl _) _).alloc (by simp) _
      have hz4 : w3.heap.size + 2 ≤ W4.heap.size := by rw [HW4.out]; simp
      have v1 : W4.heap[w3.heap.size]? = some (.cells #[.slice am3 nm3 cm3, .slice ae3 ne3 ce3] 45 (0, 0)) := by rw [HW4.out]; exact alloc2_old _ _ _
      have v2 : W4.heap[w3.heap.size + 1]? = some (.cells #[.int .i64 0, .int .i64 0] 34 (0, 0)) := by rw [HW4.out]; exact alloc2_new _ _ _
      have y4 := (hb4.block w.heap.size (Array.getElem?_eq_some_iff.1 y3).1).trans y3
      have hbw4 : Below w.heap.size w W4 := BT' hbw3 hb4
      obtain ⟨u0, u1⟩ := blk2 y4
      rw [HW4.out] at u0 u1
      have hrl := rlink_any (hg.below hbw4) hok
      go_wp2_with fail
      rw [← HW4.out]
      refine hrl.mono ?_
      rintro e w5 ⟨hb5, hx⟩
      rcases hx with ⟨_, vm5, rfl, hrd5⟩ | ⟨hz', _⟩
      rotate_left
      · exact absurd hz hz'
      obtain ⟨am5, nm5, cm5, rfl, _, _⟩ := hrd5.shape
      have hbw5 : Below w.heap.size w w5 := BT' hbw4 hb5
      clear hrl u0 u1
      obtain ⟨W6, HW6⟩ : ∃ W6, Hid (W6 = (w5.alloc (.cells #[.slice am5 nm5 cm5, .slice a2 n2 c2] 45)).alloc (.cells #[.int .i64 0, .int .i64 0] 34)) := ⟨_, rfl⟩
      have hb6 : Below w5.heap.size w5 W6 := by rw [HW6.out]; exact ((Below.refl _ _).alloc (Nat.le_refl _) _).alloc (by simp) _
      have v3 : W6.heap[w5.heap.size]? = some (.cells #[.slice am5 nm5 cm5, .slice a2 n2 c2] 45 (0, 0)) := by rw [HW6.out]; exact alloc2_old _ _ _
      have v4 : W6.heap[w5.heap.size + 1]? = some (.cells #[.int .i64 0, .int .i64 0] 34 (0, 0)) := by rw [HW6.out]; exact alloc2_new _ _ _
      have hb46 : Below W4.heap.size W4 W6 := BT hb5 hb6
      have v5 := (hb46.block w3.heap.size (by omega)).trans v1
      have v6 := (hb46.block (w3.heap.size + 1) (by omega)).trans v2
      obtain ⟨p0, p1⟩ := blk2 v3
      obtain ⟨p2, p3⟩ := blk2 v4
      obtain ⟨p4, p5⟩ := blk2 v5
      obtain ⟨p6, p7⟩ := blk2 v6
      rw [HW6.out] at p0 p1 p2 p3 p4 p5 p6 p7
      have hsm := rsame_any ((hgr3.below hb4).below hb46) (show GRd W6 (.slice am5 nm5 cm5) (.slice a2 n2 c2) (linkL g) from ⟨hrd5.below MAt.stays hb6, ((hg.below hbw5).below hb6).2⟩)
      have heq := eql_flt 0 0
      clear hBw
      go_wp2_with fail
      rw [← HW6.out]
      refine hsm.mono ?_
      rintro e w7 ⟨rfl, hb7⟩
      have hbf : Below w.heap.size w w7 := BT' (BT' hbw5 hb6) hb7
      go_wp2
      go_ret
      exact ⟨rfl, hbf⟩
    · generalize hq : wrongL (linkL g) = q at hz
      obtain ⟨ze, zi⟩ := q
      have HZ : Hid (wrongL (linkL g) = (ze, zi)) := hq
      obtain ⟨W4, HW4⟩ : ∃ W4, Hid (W4 = (w3.alloc (.cells #[.slice none 0 0, .slice none 0 0] 45)).alloc (.cells #[.int .i64 ze, .int .i64 (zi : Int)] 34)) := ⟨_, rfl⟩
      have hb4 : Below w3.heap.size w3 W4 := by rw [HW4.out]; exact ((Below.refl _ _).alloc (Nat.le_refl _) _).alloc (by simp) _
      have hz4 : w3.heap.size + 2 ≤ W4.heap.size := by rw [HW4.out]; simp
      have v1 : W4.heap[w3.heap.size]? = some (.cells #[.slice none 0 0, .slice none 0 0] 45 (0, 0)) := by rw [HW4.out]; exact alloc2_old _ _ _
      have v2 : W4.heap[w3.heap.size + 1]? = some (.cells #[.int .i64 ze, .int .i64 (zi : Int)] 34 (0, 0)) := by rw [HW4.out]; exact alloc2_new _ _ _
      have y4 := (hb4.block w.heap.size (Array.getElem?_eq_some_iff.1 y3).1).trans y3
      have hbw4 : Below w.heap.size w W4 := BT' hbw3 hb4
      obtain ⟨u0, u1⟩ := blk2 y4
      rw [HW4.out] at u0 u1
      have hrl := rlink_any (hg.below hbw4) hok
      rw [HZ.out] at hrl
      clear hq
      go_wp2_with fail
      rw [← HW4.out]
      refine hrl.mono ?_
      rintro e w5 ⟨hb5, hx⟩
      rcases hx with ⟨hz', _⟩ | ⟨_, rfl⟩
      · exact absurd hz' hz
      have hbw5 : Below w.heap.size w w5 := BT' hbw4 hb5
      clear hrl u0 u1
      obtain ⟨W6, HW6⟩ : ∃ W6, Hid (W6 = (w5.alloc (.cells #[.slice none 0 0, .slice none 0 0] 45)).alloc (.cells #[.int .i64 ze, .int .i64 (zi : Int)] 34)) := ⟨_, rfl⟩
      have hb6 : Below w5.heap.size w5 W6 := by rw [HW6.out]; exact ((Below.refl _ _).alloc (Nat.le_refl _) _).alloc (by simp) _
      have v3 : W6.heap[w5.heap.size]? = some (.cells #[.slice none 0 0, .slice none 0 0] 45 (0, 0)) := by rw [HW6.out]; exact alloc2_old _ _ _
      have v4 : W6.heap[w5.heap.size + 1]? = some (.cells #[.int .i64 ze, .int .i64 (zi : Int)] 34 (0, 0)) := by rw [HW6.out]; exact alloc2_new _ _ _
      have hb46 : Below W4.heap.size W4 W6 := BT hb5 hb6
      have v5 := (hb46.block w3.heap.size (by omega)).trans v1
      have v6 := (hb46.block (w3.heap.size + 1) (by omega)).trans v2
      obtain ⟨p0, p1⟩ := blk2 v3
      obtain ⟨p2, p3⟩ := blk2 v4
      obtain ⟨p4, p5⟩ := blk2 v5
      obtain ⟨p6, p7⟩ := blk2 v6
      rw [HW6.out] at p0 p1 p2 p3 p4 p5 p6 p7
      have hsm := rsame_any (w := W6) (vm1 := .slice none 0 0) (ve1 := .slice none 0 0) (vm2 := .slice none 0 0) (ve2 := .slice none 0 0) (g := ⟨[], []⟩) ⟨RdL.nil _ _ _, RdL.nil _ _ _⟩ ⟨RdL.nil _ _ _, RdL.nil _ _ _⟩
      have heq := eql_flt ze (zi : Int)
      clear hBw
      go_wp2_with fail
      rw [← HW6.out]
      refine hsm.mono ?_
      rintro e w7 ⟨rfl, hb7⟩
      have hbf : Below w.heap.size w w7 := BT' (BT' hbw5 hb6) hb7
      go_wp2
      go_ret
      exact ⟨rfl, hbf⟩

end L
end Go.Proofs.Ytenlijgnmhdopaa
