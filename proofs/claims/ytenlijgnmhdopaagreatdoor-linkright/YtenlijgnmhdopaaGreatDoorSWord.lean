/- The contract of wordOf. -/
import Derived.Test.YtenlijgnmhdopaaGreatDoorSLine
namespace Go.Proofs.YtenlijgnmhdopaaGreatDoor
open Go.RowKit

/-- The word of a field's type. -/
def wordP (f : Fld) : List UInt8 := if 1 ≤ f.kind ∧ f.kind ≤ 9 ∧ f.kind ≠ 5 then wordsL.getD (f.kind - 1) [] else f.type

set_option maxHeartbeats 2000000 in
set_option maxRecDepth 100000 in
theorem wordOf_any (f : Fld) (w : World) :
    Calls Tryz.prog 77 #[.agg (encFld f).toArray] w fun e w' => e = .returned (.string (S (wordP f))) ∧ Below w.heap.size w w' := by
  have hb := (Below.refl w.heap.size w).alloc (Nat.le_refl _) (.cells (encFld f).toArray 39)
  obtain ⟨k, Hk⟩ : ∃ k, Hid (k = f.kind) := ⟨_, rfl⟩
  have HW : Hid (wordP f = if 1 ≤ k ∧ k ≤ 9 ∧ k ≠ 5 then wordsL.getD (k - 1) [] else f.type) := by show _ = _; rw [wordP, Hk.out]
  unfold encFld at *
  rw [← Hk.out] at hb ⊢
  by_cases h1 : 1 ≤ k
  · by_cases h9 : k ≤ 9
    · by_cases h5 : k = 5
      · have HY : Hid (wordP f = f.type) := by show _ = _; rw [HW.out, if_neg (by omega)]
        subst h5
        go_enter Tryz.func77, Tryz.ntmps77
        go_wp2
        go_ret
        exact ⟨by rw [HY.out]; rfl, hb⟩
      · have HY : Hid (wordP f = wordsL.getD (k - 1) []) := by show _ = _; rw [HW.out, if_pos (by omega)]
        have hk8 : k = 1 ∨ k = 2 ∨ k = 3 ∨ k = 4 ∨ k = 6 ∨ k = 7 ∨ k = 8 ∨ k = 9 := by omega
        have hwc := wordCells_at (k - 1) (by omega)
        obtain ⟨y, Hy⟩ : ∃ y, Hid (y = wordsL.getD (k - 1) []) := ⟨_, rfl⟩
        rw [← Hy.out] at hwc
        clear h1 h9 h5 HW
        rcases hk8 with rfl | rfl | rfl | rfl | rfl | rfl | rfl | rfl
        all_goals
          simp only [Nat.sub_self, Nat.add_one_sub_one] at hwc
          go_enter Tryz.func77, Tryz.ntmps77
          go_wp2_with fail
          go_region_with (go_at_call 50; refine (words_any _).mono ?_; rintro e w1 ⟨rfl, rfl⟩)
          all_goals
            go_wp2
            go_ret
            refine ⟨by rw [HY.out, ← Hy.out]; rfl, ?_⟩
            exact ((hb.drew).alloc (by simp) _)
    · have HY : Hid (wordP f = f.type) := by show _ = _; rw [HW.out, if_neg (by omega)]
      have e9 : ¬ (k : Int) ≤ 9 := by omega
      go_enter Tryz.func77, Tryz.ntmps77
      go_wp2
      go_ret
      exact ⟨by rw [HY.out]; rfl, hb⟩
  · have HY : Hid (wordP f = f.type) := by show _ = _; rw [HW.out, if_neg (by omega)]
    have e1 : ¬ 1 ≤ (k : Int) := by omega
    go_enter Tryz.func77, Tryz.ntmps77
    go_wp2
    go_ret
    exact ⟨by rw [HY.out]; rfl, hb⟩

end Go.Proofs.YtenlijgnmhdopaaGreatDoor
