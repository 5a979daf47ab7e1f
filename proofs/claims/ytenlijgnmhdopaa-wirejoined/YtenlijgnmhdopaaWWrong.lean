/- The contract of Wrong. -/
import Derived.Test.YtenlijgnmhdopaaWRec
namespace Go.Proofs.Ytenlijgnmhdopaa
open Go.RowKit

def wrongR (num how : Int) (bits len : Nat) : Int :=
  if isHowB how = false then 1
  else if how = 2 ∧ 4000 < len then 4
  else if num < 1 ∨ 536870912 ≤ num then 3
  else if how = 5 ∧ bits / 4294967296 ≠ 0 then 3
  else if how = 2 ∧ bits ≠ 0 then 8
  else if how ≠ 2 ∧ 0 < len then 8
  else 0

theorem wrong_kind {num how : Int} {bits len : Nat} (h : isHowB how = false) : wrongR num how bits len = 1 := by
  unfold wrongR; rw [if_pos h]
theorem isHowB_of {how : Int} (h : how = 0 ∨ how = 1 ∨ how = 2 ∨ how = 5) : ¬ isHowB how = false := by rw [← isHowB_yes h]; decide

set_option maxHeartbeats 4000000 in
theorem wrong_any (num how : Int) (bits : Nat) (ao : Option Addr) (len cap : Nat) (w : World) (hlm : len ≤ 9223372036854775807) :
    Calls Try.prog 24 #[.agg #[.int .i64 num, .int .i64 how, .int .u64 (bits : Int), .slice ao len cap]] w fun e w' => e = .returned (.int .i64 (wrongR num how bits len)) ∧ Below w.heap.size w w' := by
  have fin : ∀ (o : Obj), Below w.heap.size w (w.alloc o) := fun o => (Below.refl _ _).alloc (Nat.le_refl _) o
  by_cases hk : isHowB how = false
  · rw [wrong_kind hk]
    go_enter Try.func24, Try.ntmps24
    go_wp2_with (go_at_call 43; refine (isHow_any how _).mono ?_; rintro e w1 ⟨rfl, rfl⟩)
    go_ret
    exact ⟨rfl, fin _⟩
  · obtain ⟨E, HE⟩ : ∃ E, Hid (E = wrongR num how bits len) := ⟨_, rfl⟩
    rw [← HE.out]
    have hh : how = 0 ∨ how = 1 ∨ how = 2 ∨ how = 5 := by
      rcases Decidable.em (how = 0 ∨ how = 1 ∨ how = 2 ∨ how = 5) with h | h
      · exact h
      · exact absurd (isHowB_no h).symm hk
    have HE' : Hid (E = (if how = 2 ∧ 4000 < len then 4
      else if num < 1 ∨ 536870912 ≤ num then 3
      else if how = 5 ∧ bits / 4294967296 ≠ 0 then 3
      else if how = 2 ∧ bits ≠ 0 then 8
      else if how ≠ 2 ∧ 0 < len then 8
      else 0)) := by
      show _ = _
      rw [HE.out, wrongR, if_neg hk]
    clear HE hk
    rcases hh with rfl | rfl | rfl | rfl
    · by_cases h3 : num < 1
      · have HF : Hid (E = 3) := by show _ = _; rw [HE'.out, if_neg (by omega), if_pos (by omega)]
        clear HE'
        go_enter Try.func24, Try.ntmps24
        go_wp2_with (go_at_call 43; refine (isHow_any _ _).mono ?_; rintro e w1 ⟨rfl, rfl⟩; rw [← isHowB_yes (by omega)])
        go_ret
        exact ⟨ret_intW HF.out.symm, fin _⟩
      · by_cases h2 : 536870912 ≤ num
        · have HF : Hid (E = 3) := by show _ = _; rw [HE'.out, if_neg (by omega), if_pos (by omega)]
          clear HE'
          go_enter Try.func24, Try.ntmps24
          go_wp2_with (go_at_call 43; refine (isHow_any _ _).mono ?_; rintro e w1 ⟨rfl, rfl⟩; rw [← isHowB_yes (by omega)])
          go_ret
          exact ⟨ret_intW HF.out.symm, fin _⟩
        · by_cases h1 : 0 < len
          · have HF : Hid (E = 8) := by show _ = _; rw [HE'.out, if_neg (by omega), if_neg (by omega), if_neg (by omega), if_neg (by omega), if_pos (by omega)]
            clear HE'
            go_enter Try.func24, Try.ntmps24
            go_wp2_with (go_at_call 43; refine (isHow_any _ _).mono ?_; rintro e w1 ⟨rfl, rfl⟩; rw [← isHowB_yes (by omega)])
            go_ret
            exact ⟨ret_intW HF.out.symm, fin _⟩
          · have HF : Hid (E = 0) := by show _ = _; rw [HE'.out, if_neg (by omega), if_neg (by omega), if_neg (by omega), if_neg (by omega), if_neg (by omega)]
            clear HE'
            go_enter Try.func24, Try.ntmps24
            go_wp2_with (go_at_call 43; refine (isHow_any _ _).mono ?_; rintro e w1 ⟨rfl, rfl⟩; rw [← isHowB_yes (by omega)])
            go_ret
            exact ⟨ret_intW HF.out.symm, fin _⟩
    · by_cases h3 : num < 1
      · have HF : Hid (E = 3) := by show _ = _; rw [HE'.out, if_neg (by omega), if_pos (by omega)]
        clear HE'
        go_enter Try.func24, Try.ntmps24
        go_wp2_with (go_at_call 43; refine (isHow_any _ _).mono ?_; rintro e w1 ⟨rfl, rfl⟩; rw [← isHowB_yes (by omega)])
        go_ret
        exact ⟨ret_intW HF.out.symm, fin _⟩
      · by_cases h2 : 536870912 ≤ num
        · have HF : Hid (E = 3) := by show _ = _; rw [HE'.out, if_neg (by omega), if_pos (by omega)]
          clear HE'
          go_enter Try.func24, Try.ntmps24
          go_wp2_with (go_at_call 43; refine (isHow_any _ _).mono ?_; rintro e w1 ⟨rfl, rfl⟩; rw [← isHowB_yes (by omega)])
          go_ret
          exact ⟨ret_intW HF.out.symm, fin _⟩
        · by_cases h1 : 0 < len
          · have HF : Hid (E = 8) := by show _ = _; rw [HE'.out, if_neg (by omega), if_neg (by omega), if_neg (by omega), if_neg (by omega), if_pos (by omega)]
            clear HE'
            go_enter Try.func24, Try.ntmps24
            go_wp2_with (go_at_call 43; refine (isHow_any _ _).mono ?_; rintro e w1 ⟨rfl, rfl⟩; rw [← isHowB_yes (by omega)])
            go_ret
            exact ⟨ret_intW HF.out.symm, fin _⟩
          · have HF : Hid (E = 0) := by show _ = _; rw [HE'.out, if_neg (by omega), if_neg (by omega), if_neg (by omega), if_neg (by omega), if_neg (by omega)]
            clear HE'
            go_enter Try.func24, Try.ntmps24
            go_wp2_with (go_at_call 43; refine (isHow_any _ _).mono ?_; rintro e w1 ⟨rfl, rfl⟩; rw [← isHowB_yes (by omega)])
            go_ret
            exact ⟨ret_intW HF.out.symm, fin _⟩
    · by_cases h4 : 4000 < len
      · have HF : Hid (E = 4) := by show _ = _; rw [HE'.out, if_pos (by omega)]
        clear HE'
        go_enter Try.func24, Try.ntmps24
        go_wp2_with (go_at_call 43; refine (isHow_any _ _).mono ?_; rintro e w1 ⟨rfl, rfl⟩; rw [← isHowB_yes (by omega)])
        go_ret
        exact ⟨ret_intW HF.out.symm, fin _⟩
      · by_cases h3 : num < 1
        · have HF : Hid (E = 3) := by show _ = _; rw [HE'.out, if_neg (by omega), if_pos (by omega)]
          clear HE'
          go_enter Try.func24, Try.ntmps24
          go_wp2_with (go_at_call 43; refine (isHow_any _ _).mono ?_; rintro e w1 ⟨rfl, rfl⟩; rw [← isHowB_yes (by omega)])
          go_ret
          exact ⟨ret_intW HF.out.symm, fin _⟩
        · by_cases h2 : 536870912 ≤ num
          · have HF : Hid (E = 3) := by show _ = _; rw [HE'.out, if_neg (by omega), if_pos (by omega)]
            clear HE'
            go_enter Try.func24, Try.ntmps24
            go_wp2_with (go_at_call 43; refine (isHow_any _ _).mono ?_; rintro e w1 ⟨rfl, rfl⟩; rw [← isHowB_yes (by omega)])
            go_ret
            exact ⟨ret_intW HF.out.symm, fin _⟩
          · by_cases h1 : bits ≠ 0
            · have HF : Hid (E = 8) := by show _ = _; rw [HE'.out, if_neg (by omega), if_neg (by omega), if_neg (by omega), if_pos (by omega)]
              clear HE'
              have hx : ((bits : Int) != 0) = true := by rw [bne_iff_ne]; omega
              go_enter Try.func24, Try.ntmps24
              go_wp2_with (go_at_call 43; refine (isHow_any _ _).mono ?_; rintro e w1 ⟨rfl, rfl⟩; rw [← isHowB_yes (by omega)])
              go_ret
              exact ⟨ret_intW HF.out.symm, fin _⟩
            · have hx : ((bits : Int) != 0) = false := by simp; omega
              have HF : Hid (E = 0) := by show _ = _; rw [HE'.out, if_neg (by omega), if_neg (by omega), if_neg (by omega), if_neg (by omega), if_neg (by omega)]
              clear HE'
              go_enter Try.func24, Try.ntmps24
              go_wp2_with (go_at_call 43; refine (isHow_any _ _).mono ?_; rintro e w1 ⟨rfl, rfl⟩; rw [← isHowB_yes (by omega)])
              go_ret
              exact ⟨ret_intW HF.out.symm, fin _⟩
    · by_cases h4 : num < 1
      · have HF : Hid (E = 3) := by show _ = _; rw [HE'.out, if_neg (by omega), if_pos (by omega)]
        clear HE'
        go_enter Try.func24, Try.ntmps24
        go_wp2_with (go_at_call 43; refine (isHow_any _ _).mono ?_; rintro e w1 ⟨rfl, rfl⟩; rw [← isHowB_yes (by omega)])
        go_ret
        exact ⟨ret_intW HF.out.symm, fin _⟩
      · by_cases h3 : 536870912 ≤ num
        · have HF : Hid (E = 3) := by show _ = _; rw [HE'.out, if_neg (by omega), if_pos (by omega)]
          clear HE'
          go_enter Try.func24, Try.ntmps24
          go_wp2_with (go_at_call 43; refine (isHow_any _ _).mono ?_; rintro e w1 ⟨rfl, rfl⟩; rw [← isHowB_yes (by omega)])
          go_ret
          exact ⟨ret_intW HF.out.symm, fin _⟩
        · by_cases h2 : bits / 4294967296 ≠ 0
          · have HF : Hid (E = 3) := by show _ = _; rw [HE'.out, if_neg (by omega), if_neg (by omega), if_pos (by omega)]
            clear HE'
            have hx : ((bits : Int) / 4294967296 != 0) = true := by rw [bne_iff_ne]; omega
            go_enter Try.func24, Try.ntmps24
            go_wp2_with (go_at_call 43; refine (isHow_any _ _).mono ?_; rintro e w1 ⟨rfl, rfl⟩; rw [← isHowB_yes (by omega)])
            go_ret
            exact ⟨ret_intW HF.out.symm, fin _⟩
          · have hx : ((bits : Int) / 4294967296 != 0) = false := by simp; omega
            by_cases h1 : 0 < len
            · have HF : Hid (E = 8) := by show _ = _; rw [HE'.out, if_neg (by omega), if_neg (by omega), if_neg (by omega), if_neg (by omega), if_pos (by omega)]
              clear HE'
              go_enter Try.func24, Try.ntmps24
              go_wp2_with (go_at_call 43; refine (isHow_any _ _).mono ?_; rintro e w1 ⟨rfl, rfl⟩; rw [← isHowB_yes (by omega)])
              go_ret
              exact ⟨ret_intW HF.out.symm, fin _⟩
            · have HF : Hid (E = 0) := by show _ = _; rw [HE'.out, if_neg (by omega), if_neg (by omega), if_neg (by omega), if_neg (by omega), if_neg (by omega)]
              clear HE'
              go_enter Try.func24, Try.ntmps24
              go_wp2_with (go_at_call 43; refine (isHow_any _ _).mono ?_; rintro e w1 ⟨rfl, rfl⟩; rw [← isHowB_yes (by omega)])
              go_ret
              exact ⟨ret_intW HF.out.symm, fin _⟩

end Go.Proofs.Ytenlijgnmhdopaa
