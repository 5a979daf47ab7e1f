/- The contracts of the small functions of package wire. -/
import Derived.Test.YtenlijgnmhdopaaProg
import Derived.RowKit
import Derived.Test.YtenlijgnmhdopaaWPure
import Derived.WalkKit
import Derived.WalkSpells
import Derived.WalkLawsBesides
namespace Go.Proofs.Ytenlijgnmhdopaa
open Go.RowKit

theorem ret_intW {k : IntKind} {a b : Int} (h : a = b) : Ending.returned (.int k a) = .returned (.int k b) := by rw [h]
theorem ret_boolW {a b : Bool} (h : a = b) : Ending.returned (.bool a) = .returned (.bool b) := by rw [h]

def isHowB (h : Int) : Bool := decide (h = 0 ∨ h = 1 ∨ h = 2 ∨ h = 5)
theorem isHowB_yes {h : Int} (k : h = 0 ∨ h = 1 ∨ h = 2 ∨ h = 5) : true = isHowB h := by unfold isHowB; simp [k]
theorem isHowB_no {h : Int} (k : ¬ (h = 0 ∨ h = 1 ∨ h = 2 ∨ h = 5)) : false = isHowB h := by unfold isHowB; simp only [k, decide_false]

set_option maxHeartbeats 400000 in
theorem isHow_any (h : Int) (w : World) :
    Calls Try.prog 43 #[.int .i64 h] w fun e w' => e = .returned (.bool (isHowB h)) ∧ w = w' := by
  by_cases k : h = 0 ∨ h = 1 ∨ h = 2 ∨ h = 5
  · rw [← isHowB_yes k]
    rcases k with rfl | rfl | rfl | rfl
    all_goals
      go_enter Try.func43, Try.ntmps43
      go_wp2
      go_ret
      exact ⟨rfl, rfl⟩
  · rw [← isHowB_no k]
    have b0 : (h == 0) = false := beq_eq_false_iff_ne.2 (by omega)
    have b1 : (h == 1) = false := beq_eq_false_iff_ne.2 (by omega)
    have b2 : (h == 2) = false := beq_eq_false_iff_ne.2 (by omega)
    have b5 : (h == 5) = false := beq_eq_false_iff_ne.2 (by omega)
    go_enter Try.func43, Try.ntmps43
    go_wp2
    go_ret
    exact ⟨rfl, rfl⟩

def widthN (h : Int) : Nat := if h = 1 then 8 else if h = 5 then 4 else 0

set_option maxHeartbeats 400000 in
theorem width_any (h : Int) (w : World) :
    Calls Try.prog 64 #[.int .i64 h] w fun e w' => e = .returned (.int .i64 (widthN h)) ∧ w = w' := by
  by_cases k : h = 1 ∨ h = 5
  · rcases k with rfl | rfl
    all_goals
      go_enter Try.func64, Try.ntmps64
      go_wp2
      go_ret
      exact ⟨rfl, rfl⟩
  · have e : widthN h = 0 := by unfold widthN; rw [if_neg (by omega), if_neg (by omega)]
    rw [e]
    have b1 : (h == 1) = false := beq_eq_false_iff_ne.2 (by omega)
    have b5 : (h == 5) = false := beq_eq_false_iff_ne.2 (by omega)
    clear e
    go_enter Try.func64, Try.ntmps64
    go_wp2
    go_ret
    exact ⟨rfl, rfl⟩

set_option maxHeartbeats 400000 in
theorem open_any (n : Int) (w : World) (hl : 0 ≤ n) (hu : n ≤ 18446744073709551615) :
    Calls Try.prog 10 #[.int .u64 n] w fun e w' => e = .returned (.int .i64 (openN n)) ∧ w = w' := by
  go_enter Try.func10, Try.ntmps10
  go_wp2
  · go_ret
    exact ⟨ret_intW (open_walk_odd n hl hu ‹_›), rfl⟩
  · go_ret
    exact ⟨ret_intW (open_walk_even n hl hu ‹_›), rfl⟩

set_option maxHeartbeats 400000 in
theorem fold_any (n : Int) (w : World) (hl : -9223372036854775808 ≤ n) (hu : n ≤ 9223372036854775807) :
    Calls Try.prog 11 #[.int .i64 n] w fun e w' => e = .returned (.int .u64 (foldN n)) ∧ w = w' := by
  go_enter Try.func11, Try.ntmps11
  go_wp2
  · go_ret
    exact ⟨ret_intW (fold_walk_neg n hl ‹_›), rfl⟩
  · go_ret
    exact ⟨ret_intW (by rw [foldN_pos ‹_›]; omega), rfl⟩

end Go.Proofs.Ytenlijgnmhdopaa
