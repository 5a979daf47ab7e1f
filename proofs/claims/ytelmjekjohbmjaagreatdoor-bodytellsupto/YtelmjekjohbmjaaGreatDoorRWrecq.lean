import Derived.Test.YtelmjekjohbmjaaGreatDoorBWireq
/- The document's own answer: WrongRecord. -/
namespace Go.Proofs.YtelmjekjohbmjaaGreatDoor
namespace L
open Go.RowKit
set_option linter.unusedVariables false

set_option maxHeartbeats 4000000 in
set_option maxRecDepth 100000 in
theorem rwrongRec_any (num how : Int) (bits : Nat) (ao : Option Addr) (len cap : Nat) (w : World) (hlm : len ≤ 9223372036854775807) :
    Calls Tryz.prog 62 #[.agg #[.int .i64 num, .int .i64 how, .int .u64 (bits : Int), .slice ao len cap]] w fun e w' => e = .returned (.int .i64 (wrongR num how bits len)) ∧ Below w.heap.size w w' := by
  have fin : ∀ (o : Obj), Below w.heap.size w (w.alloc o) := fun o => (Below.refl _ _).alloc (Nat.le_refl _) o
  obtain ⟨E, HE⟩ : ∃ E, Hid (E = wrongR num how bits len) := ⟨_, rfl⟩
  rw [← HE.out]
  by_cases hk : how = 0 ∨ how = 1 ∨ how = 2 ∨ how = 5
  · rcases hk with rfl | rfl | rfl | rfl
    · by_cases h3 : num < 1
      · have HF : Hid (E = 3) := by show _ = _; rw [HE.out, wrongR, if_neg (isHowB_of (by omega)), if_neg (by omega), if_pos (by omega)]
        clear HE
        go_enter Tryz.func62, Tryz.ntmps62
        go_wp2
        go_ret
        exact ⟨ret_int HF.out.symm, fin _⟩
      · by_cases h2 : 536870912 ≤ num
        · have HF : Hid (E = 3) := by show _ = _; rw [HE.out, wrongR, if_neg (isHowB_of (by omega)), if_neg (by omega), if_pos (by omega)]
          clear HE
          go_enter Tryz.func62, Tryz.ntmps62
          go_wp2
          go_ret
          exact ⟨ret_int HF.out.symm, fin _⟩
        · by_cases h1 : 0 < len
          · have HF : Hid (E = 8) := by show _ = _; rw [HE.out, wrongR, if_neg (isHowB_of (by omega)), if_neg (by omega), if_neg (by omega), if_neg (by omega), if_neg (by omega), if_pos (by omega)]
            clear HE
            go_enter Tryz.func62, Tryz.ntmps62
            go_wp2
            go_ret
            exact ⟨ret_int HF.out.symm, fin _⟩
          · have HF : Hid (E = 0) := by show _ = _; rw [HE.out, wrongR, if_neg (isHowB_of (by omega)), if_neg (by omega), if_neg (by omega), if_neg (by omega), if_neg (by omega), if_neg (by omega)]
            clear HE
            go_enter Tryz.func62, Tryz.ntmps62
            go_wp2
            go_ret
            exact ⟨ret_int HF.out.symm, fin _⟩
    · by_cases h3 : num < 1
      · have HF : Hid (E = 3) := by show _ = _; rw [HE.out, wrongR, if_neg (isHowB_of (by omega)), if_neg (by omega), if_pos (by omega)]
        clear HE
        go_enter Tryz.func62, Tryz.ntmps62
        go_wp2
        go_ret
        exact ⟨ret_int HF.out.symm, fin _⟩
      · by_cases h2 : 536870912 ≤ num
        · have HF : Hid (E = 3) := by show _ = _; rw [HE.out, wrongR, if_neg (isHowB_of (by omega)), if_neg (by omega), if_pos (by omega)]
          clear HE
          go_enter Tryz.func62, Tryz.ntmps62
          go_wp2
          go_ret
          exact ⟨ret_int HF.out.symm, fin _⟩
        · by_cases h1 : 0 < len
          · have HF : Hid (E = 8) := by show _ = _; rw [HE.out, wrongR, if_neg (isHowB_of (by omega)), if_neg (by omega), if_neg (by omega), if_neg (by omega), if_neg (by omega), if_pos (by omega)]
            clear HE
            go_enter Tryz.func62, Tryz.ntmps62
            go_wp2
            go_ret
            exact ⟨ret_int HF.out.symm, fin _⟩
          · have HF : Hid (E = 0) := by show _ = _; rw [HE.out, wrongR, if_neg (isHowB_of (by omega)), if_neg (by omega), if_neg (by omega), if_neg (by omega), if_neg (by omega), if_neg (by omega)]
            clear HE
            go_enter Tryz.func62, Tryz.ntmps62
            go_wp2
            go_ret
            exact ⟨ret_int HF.out.symm, fin _⟩
    · by_cases h4 : 4000 < len
      · have HF : Hid (E = 4) := by show _ = _; rw [HE.out, wrongR, if_neg (isHowB_of (by omega)), if_pos (by omega)]
        clear HE
        go_enter Tryz.func62, Tryz.ntmps62
        go_wp2
        go_ret
        exact ⟨ret_int HF.out.symm, fin _⟩
      · by_cases h3 : num < 1
        · have HF : Hid (E = 3) := by show _ = _; rw [HE.out, wrongR, if_neg (isHowB_of (by omega)), if_neg (by omega), if_pos (by omega)]
          clear HE
          go_enter Tryz.func62, Tryz.ntmps62
          go_wp2
          go_ret
          exact ⟨ret_int HF.out.symm, fin _⟩
        · by_cases h2 : 536870912 ≤ num
          · have HF : Hid (E = 3) := by show _ = _; rw [HE.out, wrongR, if_neg (isHowB_of (by omega)), if_neg (by omega), if_pos (by omega)]
            clear HE
            go_enter Tryz.func62, Tryz.ntmps62
            go_wp2
            go_ret
            exact ⟨ret_int HF.out.symm, fin _⟩
          · by_cases h1 : 0 < bits
            · have HF : Hid (E = 8) := by show _ = _; rw [HE.out, wrongR, if_neg (isHowB_of (by omega)), if_neg (by omega), if_neg (by omega), if_neg (by omega), if_pos (by omega)]
              clear HE
              go_enter Tryz.func62, Tryz.ntmps62
              go_wp2
              go_ret
              exact ⟨ret_int HF.out.symm, fin _⟩
            · have HF : Hid (E = 0) := by show _ = _; rw [HE.out, wrongR, if_neg (isHowB_of (by omega)), if_neg (by omega), if_neg (by omega), if_neg (by omega), if_neg (by omega), if_neg (by omega)]
              clear HE
              go_enter Tryz.func62, Tryz.ntmps62
              go_wp2
              go_ret
              exact ⟨ret_int HF.out.symm, fin _⟩
    · by_cases h3 : num < 1
      · have HF : Hid (E = 3) := by show _ = _; rw [HE.out, wrongR, if_neg (isHowB_of (by omega)), if_neg (by omega), if_pos (by omega)]
        clear HE
        go_enter Tryz.func62, Tryz.ntmps62
        go_wp2
        go_ret
        exact ⟨ret_int HF.out.symm, fin _⟩
      · by_cases h2 : 536870912 ≤ num
        · have HF : Hid (E = 3) := by show _ = _; rw [HE.out, wrongR, if_neg (isHowB_of (by omega)), if_neg (by omega), if_pos (by omega)]
          clear HE
          go_enter Tryz.func62, Tryz.ntmps62
          go_wp2
          go_ret
          exact ⟨ret_int HF.out.symm, fin _⟩
        · by_cases h5 : 4294967295 < bits
          · have HF : Hid (E = 3) := by show _ = _; rw [HE.out, wrongR, if_neg (isHowB_of (by omega)), if_neg (by omega), if_neg (by omega), if_pos (by omega)]
            clear HE
            go_enter Tryz.func62, Tryz.ntmps62
            go_wp2
            go_ret
            exact ⟨ret_int HF.out.symm, fin _⟩
          · by_cases h1 : 0 < len
            · have HF : Hid (E = 8) := by show _ = _; rw [HE.out, wrongR, if_neg (isHowB_of (by omega)), if_neg (by omega), if_neg (by omega), if_neg (by omega), if_neg (by omega), if_pos (by omega)]
              clear HE
              go_enter Tryz.func62, Tryz.ntmps62
              go_wp2
              go_ret
              exact ⟨ret_int HF.out.symm, fin _⟩
            · have HF : Hid (E = 0) := by show _ = _; rw [HE.out, wrongR, if_neg (isHowB_of (by omega)), if_neg (by omega), if_neg (by omega), if_neg (by omega), if_neg (by omega), if_neg (by omega)]
              clear HE
              go_enter Tryz.func62, Tryz.ntmps62
              go_wp2
              go_ret
              exact ⟨ret_int HF.out.symm, fin _⟩
  · have HF : Hid (E = 1) := by show _ = _; rw [HE.out, wrong_kind (isHowB_no hk).symm]
    have b0 : (how == 0) = false := by simp; omega
    have b1 : (how == 1) = false := by simp; omega
    have b2 : (how == 2) = false := by simp; omega
    have b5 : (how == 5) = false := by simp; omega
    have c0 : (how != 0) = true := by simp; omega
    have c1 : (how != 1) = true := by simp; omega
    have c2 : (how != 2) = true := by simp; omega
    have c5 : (how != 5) = true := by simp; omega
    clear HE hk
    go_enter Tryz.func62, Tryz.ntmps62
    go_wp2
    go_ret
    exact ⟨ret_int HF.out.symm, fin _⟩

end L
end Go.Proofs.YtelmjekjohbmjaaGreatDoor

