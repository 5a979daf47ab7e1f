/- The contracts of How, kindOf, stepOf. -/
import Derived.Test.YthgbiflfinddiaaGreatKMem
namespace Go.Proofs.YthgbiflfinddiaaGreat
namespace L
open Go.RowKit

set_option maxHeartbeats 1000000 in
set_option maxRecDepth 100000 in
theorem how_any (k : Int) (w : World) : Calls Tryz.prog 13 #[.int .i64 k] w fun e w' => e = .returned (.int .i64 (howN k)) ∧ w = w' := by
  by_cases h : k = 6 ∨ k = 7 ∨ k = 8 ∨ k = 9 ∨ k = 10
  · rcases h with rfl | rfl | rfl | rfl | rfl
    all_goals
      go_enter Tryz.func13, Tryz.ntmps13
      go_wp2
      go_ret
      exact ⟨rfl, rfl⟩
  · have e : howN k = 0 := by unfold howN; rw [if_neg (by omega), if_neg (by omega), if_neg (by omega)]
    rw [e]
    have b6 : (k == 6) = false := beq_eq_false_iff_ne.2 (by omega)
    have b7 : (k == 7) = false := beq_eq_false_iff_ne.2 (by omega)
    have b8 : (k == 8) = false := beq_eq_false_iff_ne.2 (by omega)
    have b9 : (k == 9) = false := beq_eq_false_iff_ne.2 (by omega)
    have b10 : (k == 10) = false := beq_eq_false_iff_ne.2 (by omega)
    clear e h
    go_enter Tryz.func13, Tryz.ntmps13
    go_wp2
    go_ret
    exact ⟨rfl, rfl⟩

set_option maxHeartbeats 1000000 in
set_option maxRecDepth 100000 in
theorem kindOf_any (x : FI) (w : World) : Calls Tryz.prog 64 #[fv x] w fun e w' => e = .returned (.int .i64 (kindN x)) ∧ Below w.heap.size w w' := by
  have hba := (Below.refl w.heap.size w).alloc (Nat.le_refl _) (.cells #[.string (S x.name), .int .i64 x.number, .int .i64 x.kind, .string (S x.type), .bool x.many, .int .i64 x.choice] 53)
  unfold fv
  by_cases h10 : x.kind = 10
  · have HN : Hid (kindN x = 4) := by show _ = _; unfold kindN; rw [if_pos h10]
    have hk : (x.kind == 10) = true := by simp [h10]
    clear h10
    go_enter Tryz.func64, Tryz.ntmps64
    go_wp2
    go_ret
    exact ⟨by rw [HN.out]; rfl, hba⟩
  · have hk : (x.kind == 10) = false := by simp [h10]
    have hh := how_any x.kind
    by_cases h2 : howN x.kind = 2
    · have HN : Hid (kindN x = 3) := by show _ = _; unfold kindN; rw [if_neg h10, if_pos h2]
      clear h10
      rw [h2] at hh
      clear h2
      go_enter Tryz.func64, Tryz.ntmps64
      go_wp2_with fail
      refine (hh _).mono ?_
      rintro e w1 ⟨rfl, rfl⟩
      go_wp2
      go_ret
      exact ⟨by rw [HN.out]; rfl, hba⟩
    · obtain ⟨y, Hy⟩ : ∃ y, Hid (howN x.kind = y) := ⟨_, rfl⟩
      have hy : (y == 2) = false := by rw [← Hy.out]; simp [h2]
      rw [Hy.out] at hh
      by_cases hm : x.many = true
      · have HN : Hid (kindN x = 2) := by show _ = _; unfold kindN; rw [if_neg h10, if_neg h2, if_pos hm]
        rw [hm] at hba
        clear h10 h2
        go_enter Tryz.func64, Tryz.ntmps64
        go_wp2_with fail
        refine (hh _).mono ?_
        rintro e w1 ⟨rfl, rfl⟩
        go_wp2
        go_ret
        exact ⟨by rw [HN.out]; rfl, hba⟩
      · have HN : Hid (kindN x = 1) := by show _ = _; unfold kindN; rw [if_neg h10, if_neg h2, if_neg hm]
        have hm : x.many = false := by simpa using hm
        rw [hm] at hba
        clear h10 h2
        go_enter Tryz.func64, Tryz.ntmps64
        go_wp2_with fail
        refine (hh _).mono ?_
        rintro e w1 ⟨rfl, rfl⟩
        go_wp2
        go_ret
        exact ⟨by rw [HN.out]; rfl, hba⟩

end L
end Go.Proofs.YthgbiflfinddiaaGreat
