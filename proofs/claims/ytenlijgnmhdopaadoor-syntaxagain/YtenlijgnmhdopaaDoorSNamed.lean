/- The contract of Named. -/
import Derived.Test.YtenlijgnmhdopaaDoorSLeaf
namespace Go.Proofs.YtenlijgnmhdopaaDoor
open Go.RowKit

set_option maxHeartbeats 1000000 in
/-- A text that is a name. -/
theorem named_yes (l : List UInt8) (h0 : l ≠ []) (h16 : l.length ≤ 16) (hw : wordLenL l = l.length) (w : World) :
    Calls Tryd.prog 11 #[.string (S l)] w fun e w' => e = .returned (.bool true) ∧ w = w' := by
  have hsz := S_size l
  have hem : (S l).toList.isEmpty = false := by rw [S_list]; simpa using h0
  have hli : ((l.length : Nat) : Int) ≤ 16 := by omega
  have HW : Hid (wordLenL l = l.length) := hw
  clear hw
  go_enter Tryd.func11, Tryd.ntmps11
  go_wp2_with fail
  refine (wordLength_any l (by omega) _).mono ?_
  rintro e w1 ⟨rfl, rfl⟩
  rw [HW.out]
  go_wp2
  go_ret
  exact ⟨rfl, rfl⟩

end Go.Proofs.YtenlijgnmhdopaaDoor
