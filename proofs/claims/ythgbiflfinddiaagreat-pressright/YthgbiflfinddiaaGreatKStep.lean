/- The contract of stepOf. -/
import Derived.Test.YthgbiflfinddiaaGreatKLeaf
import Derived.Deep.RegionHeld3
import Derived.Deep.CutRange
import Derived.Deep.DrawnRows
namespace Go.Proofs.YthgbiflfinddiaaGreat
namespace L
open Go.RowKit

set_option maxHeartbeats 2000000 in
set_option maxRecDepth 100000 in
theorem stepOf_any {w : World} {vm ve : Value} {g : GI} (hg : GRd w vm ve g) (x : FI) : Calls Tryz.prog 33 #[.agg #[vm, ve], fv x] w fun e w' => e = .returned (tv (stepN g x)) ∧ Below w.heap.size w w' := by
  obtain ⟨a1, n1, c1, rfl, H1, _⟩ := hg.1.shape
  obtain ⟨a2, n2, c2, rfl, H2, _⟩ := hg.2.shape
  obtain ⟨W0, HW0⟩ : ∃ W0, Hid (W0 = ((w.alloc (.cells #[.slice a1 n1 c1, .slice a2 n2 c2] 25)).alloc (.cells #[.string (S x.name), .int .i64 x.number, .int .i64 x.kind, .string (S x.type), .bool x.many, .int .i64 x.choice] 53)).alloc (.cells #[.int .i64 0, .int .i64 0, .int .i64 0, .int .i64 0, .int .i64 0] 51)) := ⟨_, rfl⟩
  have hb0 : Below w.heap.size w W0 := by rw [HW0.out]; exact (((Below.refl _ _).alloc (Nat.le_refl _) _).alloc (by simp) _).alloc (by simp; omega) _
  have hz0 : w.heap.size + 3 ≤ W0.heap.size := by rw [HW0.out]; simp
  obtain ⟨x3, x2, x1⟩ := alloc3 w (.cells #[.slice a1 n1 c1, .slice a2 n2 c2] 25) (.cells #[.string (S x.name), .int .i64 x.number, .int .i64 x.kind, .string (S x.type), .bool x.many, .int .i64 x.choice] 53) (.cells #[.int .i64 0, .int .i64 0, .int .i64 0, .int .i64 0, .int .i64 0] 51)
  rw [← HW0.out] at x1 x2 x3
  have hcl : ∀ V, Below W0.heap.size W0 V → V.heap[w.heap.size]? = some (.cells #[.slice a1 n1 c1, .slice a2 n2 c2] 25 (0, 0)) ∧ V.heap[w.heap.size + 1]? = some (.cells #[.string (S x.name), .int .i64 x.number, .int .i64 x.kind, .string (S x.type), .bool x.many, .int .i64 x.choice] 53 (0, 0)) ∧ V.heap[w.heap.size + 2]? = some (.cells #[.int .i64 0, .int .i64 0, .int .i64 0, .int .i64 0, .int .i64 0] 51 (0, 0)) := fun V hV => ⟨(hV.block _ (by omega)).trans x1, (hV.block _ (by omega)).trans x2, (hV.block _ (by omega)).trans x3⟩
  have hkd := kindOf_any x
  have hhw := how_any x.kind
  unfold fv at hkd ⊢
  have hd : Below W0.heap.size W0 W0.drew := (Below.refl _ _).drew
  obtain ⟨K, HK⟩ : ∃ K, Hid (K = kindN x) := ⟨_, rfl⟩
  obtain ⟨Hw, HHw⟩ : ∃ Hw, Hid (Hw = howN x.kind) := ⟨_, rfl⟩
  rw [← HK.out] at hkd
  rw [← HHw.out] at hhw
  have hcl5 : ∀ V, Below W0.heap.size W0 V → Below W0.heap.size W0 V ∧ V.cell? ⟨w.heap.size + 1, 0, none⟩ = some (.string (S x.name)) ∧ V.cell? ⟨w.heap.size + 1, 1, none⟩ = some (.int .i64 x.number) ∧ V.cell? ⟨w.heap.size + 1, 2, none⟩ = some (.int .i64 x.kind) ∧ V.cell? ⟨w.heap.size + 1, 3, none⟩ = some (.string (S x.type)) ∧ V.cell? ⟨w.heap.size + 1, 4, none⟩ = some (.bool x.many) ∧ V.cell? ⟨w.heap.size + 1, 5, none⟩ = some (.int .i64 x.choice) := fun V hV => ⟨hV, blk6 (hcl V hV).2.1⟩
  have hAl : ∀ V, Below (W0.alloc (.cells #[.int .i64 0, .int .i64 0, .int .i64 0, .int .i64 0, .int .i64 0] 51)).drew.heap.size (W0.alloc (.cells #[.int .i64 0, .int .i64 0, .int .i64 0, .int .i64 0, .int .i64 0] 51)).drew V → V.heap[W0.heap.size]? = some (.cells #[.int .i64 0, .int .i64 0, .int .i64 0, .int .i64 0, .int .i64 0] 51 (0, 0)) := fun V hV => (hV.block W0.heap.size (by show _ < (W0.alloc _).heap.size; simp)).trans (heap_alloc_new W0 _)
  have hdA : Below W0.heap.size W0 (W0.alloc (.cells #[.int .i64 0, .int .i64 0, .int .i64 0, .int .i64 0, .int .i64 0] 51)).drew := (KB_alloc (Below.refl _ _) (Nat.le_refl _) _).drew
  go_enter Tryz.func33, Tryz.ntmps33
  go_wp2_with fail
  rw [← HW0.out]
  go_cut [5] from 16 to 25 (fun s5 wc => ∃ (C : Nat), s5 = .pointer (some ⟨C, 0, none⟩) ∧ W0.heap.size ≤ C ∧ wc.heap[C]? = some (.cells #[.int .i64 K, .int .i64 x.number, .int .i64 Hw, .int .i64 x.kind, .int .i64 (-1)] 51 (0, 0)) ∧ Below W0.heap.size W0 wc)
  case first =>
    go_region_held3 (fun V => Below W0.heap.size W0 V ∧ V.cell? ⟨w.heap.size + 1, 0, none⟩ = some (.string (S x.name)) ∧ V.cell? ⟨w.heap.size + 1, 1, none⟩ = some (.int .i64 x.number) ∧ V.cell? ⟨w.heap.size + 1, 2, none⟩ = some (.int .i64 x.kind) ∧ V.cell? ⟨w.heap.size + 1, 3, none⟩ = some (.string (S x.type)) ∧ V.cell? ⟨w.heap.size + 1, 4, none⟩ = some (.bool x.many) ∧ V.cell? ⟨w.heap.size + 1, 5, none⟩ = some (.int .i64 x.choice)) ((with_reducible refine hcl5 _ ?_; with_reducible (first | exact hd | exact hdA | exact hBn | exact KB_alloc hBn (Nat.le_refl _) _ | exact KB_alloc hd (Nat.le_refl _) _ | exact KB_set5 hBn (Nat.le_refl _)))) ((first | (go_at_call 64; go_split_ands; refine (hkd _).mono ?_; rintro e wn ⟨rfl, hbn⟩; have hBn := KBT (by with_reducible assumption) hbn; try (have hc5 := hAl _ hbn; obtain ⟨q0, q1, q2, q3, q4⟩ := blk5 hc5; have r0 := fr_of_blk hc5 0; have r1 := fr_of_blk hc5 1; have r2 := fr_of_blk hc5 2; have r3 := fr_of_blk hc5 3; have r4 := fr_of_blk hc5 4)) | (go_at_call 13; refine (hhw _).mono ?_; rintro e wm ⟨rfl, rfl⟩)))
    all_goals
      go_wp2_with fail
      go_meet
    case rel => exact ⟨wn.heap.size, rfl, hBn.size, heap_alloc_new _ _, KB_alloc hBn (Nat.le_refl _) _⟩
    case rel => exact ⟨wn.heap.size, rfl, hBn.size, heap_alloc_new _ _, KB_alloc hBn (Nat.le_refl _) _⟩
    case rel => exact ⟨W0.heap.size, rfl, Nat.le_refl _, set5_at hc5, KB_set5 hBn (Nat.le_refl _)⟩
  case rest =>
    obtain ⟨C, rfl, hC, hc, hb1⟩ := hcut
    obtain ⟨t0, t1, t2, t3, t4⟩ := blk5 hc
    obtain ⟨y1, y2, y3⟩ := hcl wc hb1
    obtain ⟨u0, u1⟩ := blk2 y1
    obtain ⟨v0, v1, v2, v3, v4, v5⟩ := blk6 y2
    have hbw : Below w.heap.size w wc := KBT hb0 hb1
    have hz1 : W0.heap.size ≤ wc.heap.size := hb1.size
    clear hkd hhw hcl5 hAl hdA hd
    have hkk : K = 4 ↔ x.kind = 10 := by rw [HK.out]; exact kind4 x
    have hz2 : w.heap.size + 3 ≤ wc.heap.size := Nat.le_trans hz0 hz1
    have hCw : w.heap.size + 3 ≤ C := Nat.le_trans hz0 hC
    have hfr := fr_of_blk hc
    have hfr3 := fr_of_blk (g := w.heap.size + 1 + 1) y3
    obtain ⟨p0, p1, p2, p3, p4⟩ := blk5 (g := w.heap.size + 1 + 1) y3
    by_cases h4 : K = 4
    · have hk4 : (K == 4) = true := by simp [h4]
      have HN : Hid (tv (stepN g x) = .agg #[.int .i64 K, .int .i64 x.number, .int .i64 Hw, .int .i64 x.kind, .int .i64 (firstI (fun m => decide (m.name = x.type)) g.msgs)]) := by
        show _ = _; unfold tv stepN msgI; rw [if_pos (hkk.1 h4), ← HK.out, ← HHw.out]
      have hms := message_any (hg.below hbw).1 ⟨a2, n2, c2, rfl⟩ x.type
      generalize firstI (fun m => decide (m.name = x.type)) g.msgs = N at hms HN
      clear h4 hkk y1 y2 hcl
      go_wp2_with fail
      refine hms.mono ?_
      rintro e w2 ⟨rfl, hb2⟩
      have hc2 := (hb2.block C (by have := (Array.getElem?_eq_some_iff.1 hc).1; exact this)).trans hc
      have hy2 : w2.heap[w.heap.size + 1 + 1]? = _ := (hb2.block (w.heap.size + 2) (by omega)).trans y3
      obtain ⟨q0, q1, q2, q3, q4⟩ := blk5 hc2
      obtain ⟨r0, r1, r2, r3, r4⟩ := blk5 hy2
      have f0 := fr_of_blk hc2
      have f2 := fr_of_blk hy2
      have hne : ¬ C = w.heap.size + 1 + 1 := by omega
      have hne' : ¬ w.heap.size + 1 + 1 = C := by omega
      clear t0 t1 t2 t3 t4 u0 u1 v0 v1 v2 v3 v4 v5 p0 p1 p2 p3 p4 hfr hfr3 hms
      go_wp2_with fail
      refine bodyPost_ret (v := .agg #[.int .i64 K, .int .i64 x.number, .int .i64 Hw, .int .i64 x.kind, .int .i64 N]) (by simp [results, Tryz.results33, go_sem, *]) rfl ?_
      exact ⟨by rw [HN.out], KB_set5 ((KBT hbw hb2).setCell (p := ⟨C, 4, none⟩) (by show w.heap.size ≤ C; omega) _) (by omega)⟩
    · have hk4 : (K == 4) = false := by simp [h4]
      have HN : Hid (tv (stepN g x) = .agg #[.int .i64 K, .int .i64 x.number, .int .i64 Hw, .int .i64 x.kind, .int .i64 (-1)]) := by
        show _ = _; unfold tv stepN; rw [if_neg (fun h => h4 (hkk.2 h)), ← HK.out, ← HHw.out]
      clear h4 hkk y1 y2 hcl
      go_wp2_with fail
      refine bodyPost_ret (v := .agg #[.int .i64 K, .int .i64 x.number, .int .i64 Hw, .int .i64 x.kind, .int .i64 (-1)]) (by simp [results, Tryz.results33, go_sem, *]) rfl ?_
      exact ⟨by rw [HN.out], KB_set5 hbw (by omega)⟩

end L
end Go.Proofs.YthgbiflfinddiaaGreat
