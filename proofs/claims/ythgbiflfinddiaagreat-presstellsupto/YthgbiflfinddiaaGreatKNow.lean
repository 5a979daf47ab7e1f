/- The contract of leadsNowhere. -/
import Derived.Test.YthgbiflfinddiaaGreatKLeaf
namespace Go.Proofs.YthgbiflfinddiaaGreat
namespace L
open Go.RowKit

set_option maxHeartbeats 2000000 in
set_option maxRecDepth 100000 in
theorem nowhere_any (s : TI) (n : Nat) (w : World) (_hn : n ≤ 9223372036854775807) : Calls Tryz.prog 73 #[tv s, .int .i64 (n : Int)] w fun e w' => e = .returned (.bool (nowN s n)) ∧ Below w.heap.size w w' := by
  have hba := (Below.refl w.heap.size w).alloc (Nat.le_refl _) (.cells #[.int .i64 s.kind, .int .i64 s.number, .int .i64 s.how, .int .i64 s.field, .int .i64 s.next] 51)
  unfold tv
  by_cases h4 : s.kind = 4
  · have hk : (s.kind == 4) = true := by simp [h4]
    by_cases h0 : s.next < 0
    · have HN : Hid (nowN s n = true) := by show _ = _; unfold nowN; rw [if_pos h4]; simp [h0]
      clear h4
      go_enter Tryz.func73, Tryz.ntmps73
      go_wp2
      go_ret
      exact ⟨by rw [HN.out]; rfl, hba⟩
    · by_cases h1 : (n : Int) ≤ s.next
      · have HN : Hid (nowN s n = true) := by show _ = _; unfold nowN; rw [if_pos h4]; simp [h1]
        clear h4
        go_enter Tryz.func73, Tryz.ntmps73
        go_wp2
        go_ret
        exact ⟨by rw [HN.out]; rfl, hba⟩
      · have HN : Hid (nowN s n = false) := by show _ = _; unfold nowN; rw [if_pos h4]; simp [h0, h1]
        clear h4
        go_enter Tryz.func73, Tryz.ntmps73
        go_wp2
        go_ret
        exact ⟨by rw [HN.out]; rfl, hba⟩
  · have hk : (s.kind == 4) = false := by simp [h4]
    obtain ⟨q, hq⟩ : ∃ q, (s.next != -1) = q := ⟨_, rfl⟩
    have HN : Hid (nowN s n = q) := by
      show _ = _; unfold nowN; rw [if_neg h4, ← hq, Bool.eq_iff_iff]; simp
    clear h4
    cases q
    all_goals go_enter Tryz.func73, Tryz.ntmps73
    all_goals go_wp2
    all_goals go_ret
    all_goals exact ⟨by rw [HN.out]; rfl, hba⟩

end L
end Go.Proofs.YthgbiflfinddiaaGreat
