/- The contract of misfits. -/
import Derived.Test.YthgbiflfinddiaaGreatKLeaf
namespace Go.Proofs.YthgbiflfinddiaaGreat
namespace L
open Go.RowKit

theorem kB_drewN {B : Nat} {a w : World} (h : Below B a w) : ∀ q, Below B a (w.drewN q)
  | 0 => h
  | q + 1 => (kB_drewN h q).drew
set_option maxHeartbeats 1000000 in
set_option maxRecDepth 100000 in
theorem misfits_any (s : TI) (w : World) : Calls Tryz.prog 72 #[tv s] w fun e w' => e = .returned (.bool (misN s)) ∧ Below w.heap.size w w' := by
  have hba := (Below.refl w.heap.size w).alloc (Nat.le_refl _) (.cells #[.int .i64 s.kind, .int .i64 s.number, .int .i64 s.how, .int .i64 s.field, .int .i64 s.next] 51)
  have hhw := how_any s.field
  obtain ⟨y, Hy⟩ : ∃ y, Hid (howN s.field = y) := ⟨_, rfl⟩
  rw [Hy.out] at hhw
  obtain ⟨q3, hq3⟩ : ∃ q, (s.kind == 3) = q := ⟨_, rfl⟩
  obtain ⟨q4, hq4⟩ : ∃ q, (s.kind == 4) = q := ⟨_, rfl⟩
  obtain ⟨q2, hq2⟩ : ∃ q, (s.how == 2) = q := ⟨_, rfl⟩
  obtain ⟨q1, hq1⟩ : ∃ q, (s.field == 10) = q := ⟨_, rfl⟩
  obtain ⟨q0, hq0⟩ : ∃ q, (s.how != y) = q := ⟨_, rfl⟩
  have HN : Hid (misN s = (q0 || (((q3 || q4) != q2) || (q4 != q1)))) := by
    have e3 : decide (s.kind = 3) = (s.kind == 3) := by rw [Bool.eq_iff_iff]; simp
    have e4 : decide (s.kind = 4) = (s.kind == 4) := by rw [Bool.eq_iff_iff]; simp
    have e2 : decide (s.how = 2) = (s.how == 2) := by rw [Bool.eq_iff_iff]; simp
    have e1 : decide (s.field = 10) = (s.field == 10) := by rw [Bool.eq_iff_iff]; simp
    have e0 : decide (s.how ≠ howN s.field) = (s.how != y) := by rw [Bool.eq_iff_iff, ← Hy.out]; simp
    show _ = _; unfold misN; rw [e3, e4, e2, e1, e0, hq3, hq4, hq2, hq1, hq0]
  have hqt : ∀ W, Calls Tryz.prog 13 #[.int .i64 s.field] W fun e w' => e = .returned (.int .i64 y) ∧ w' = W := fun W => (hhw W).mono fun _ _ ⟨a, b⟩ => ⟨a, b.symm⟩
  clear hhw
  unfold tv
  cases q3
  · cases q4
    · cases q0
      · cases q2
        all_goals
          go_enter Tryz.func72, Tryz.ntmps72
          go_wp2_with fail
          go_quiet (exact Calls.quiet_of_same (hqt _))
          go_wp2
          go_ret
          exact ⟨by rw [HN.out]; cases q1 <;> rfl, kB_drewN hba _⟩
      · go_enter Tryz.func72, Tryz.ntmps72
        go_wp2_with fail
        go_quiet (exact Calls.quiet_of_same (hqt _))
        go_wp2
        go_ret
        exact ⟨by rw [HN.out]; cases q1 <;> rfl, kB_drewN hba _⟩
    · cases q0
      · cases q2
        all_goals
          go_enter Tryz.func72, Tryz.ntmps72
          go_wp2_with fail
          go_quiet (exact Calls.quiet_of_same (hqt _))
          go_wp2
          go_ret
          exact ⟨by rw [HN.out]; cases q1 <;> rfl, kB_drewN hba _⟩
      · go_enter Tryz.func72, Tryz.ntmps72
        go_wp2_with fail
        go_quiet (exact Calls.quiet_of_same (hqt _))
        go_wp2
        go_ret
        exact ⟨by rw [HN.out]; cases q1 <;> rfl, kB_drewN hba _⟩
  · have h4 : (s.kind == 4) = false := by have := eq_of_beq hq3; simp; omega
    rw [h4] at hq4
    subst hq4
    cases q0
    · cases q2
      all_goals
        go_enter Tryz.func72, Tryz.ntmps72
        go_wp2_with fail
        go_quiet (exact Calls.quiet_of_same (hqt _))
        go_wp2
        go_ret
        exact ⟨by rw [HN.out]; cases q1 <;> rfl, kB_drewN hba _⟩
    · go_enter Tryz.func72, Tryz.ntmps72
      go_wp2_with fail
      go_quiet (exact Calls.quiet_of_same (hqt _))
      go_wp2
      go_ret
      exact ⟨by rw [HN.out]; cases q1 <;> rfl, kB_drewN hba _⟩

end L
end Go.Proofs.YthgbiflfinddiaaGreat
