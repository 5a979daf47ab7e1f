/- The contracts of the small functions of package syntax that look at bytes. -/
import Derived.Test.YtenlijgnmhdopaaGreatDoorProg
import Derived.Test.YtenlijgnmhdopaaGreatDoorSPure
import Derived.WalkKit
import Derived.WalkSpells
import Derived.WalkLawsBesides
import Derived.Lib.Strings
import Derived.BigQuiet
import Derived.Deep.QuietTactic
import Derived.Deep.RegionWith
namespace Go.Proofs.YtenlijgnmhdopaaGreatDoor
open Go.RowKit

theorem ret_int {k : IntKind} {a b : Int} (h : a = b) : Ending.returned (.int k a) = .returned (.int k b) := by rw [h]
theorem ret_bool {a b : Bool} (h : a = b) : Ending.returned (.bool a) = .returned (.bool b) := by rw [h]

/-- A text of these bytes. -/
def S (l : List UInt8) : ByteArray := ⟨l.toArray⟩
theorem S_size (l : List UInt8) : (S l).size = l.length := by simp [S, ByteArray.size]
theorem S_list (l : List UInt8) : (S l).toList = l := by
  rw [ByteArray.toList_eq]; simp [S]
theorem S_inj {a b : List UInt8} (h : S a = S b) : a = b := by
  have := congrArg (fun x => x.data.toList) h; simpa [S] using this

set_option maxHeartbeats 1000000 in
theorem isLetter_any (c : UInt8) (w : World) : Calls Tryz.prog 79 #[.int .u8 (c.toNat : Int)] w fun e w' => e = .returned (.bool (letB c)) ∧ w = w' := by
  obtain ⟨X, HX⟩ : ∃ X : Nat, Hid (X = c.toNat) := ⟨_, rfl⟩
  have HL : Hid (letB c = ((decide (97 ≤ X) && decide (X ≤ 122)) || (decide (65 ≤ X) && decide (X ≤ 90)))) := by show _ = _; rw [HX.out]; rfl
  have hX : X < 256 := by rw [HX.out]; exact UInt8.toNat_lt _
  rw [← HX.out, HL.out]
  clear HX HL
  by_cases h1 : 97 ≤ X
  · by_cases h2 : X ≤ 122
    · go_enter Tryz.func79, Tryz.ntmps79
      go_wp2
      all_goals (go_ret; refine ⟨ret_bool ?_, rfl⟩; (try rw [Bool.eq_iff_iff]); (try simp); (try omega))
    · go_enter Tryz.func79, Tryz.ntmps79
      go_wp2
      all_goals (go_ret; refine ⟨ret_bool ?_, rfl⟩; (try rw [Bool.eq_iff_iff]); (try simp); (try omega))
  · go_enter Tryz.func79, Tryz.ntmps79
    go_wp2
    all_goals (go_ret; refine ⟨ret_bool ?_, rfl⟩; (try rw [Bool.eq_iff_iff]); (try simp); (try omega))

set_option maxHeartbeats 1000000 in
theorem isDigit_any (c : UInt8) (w : World) : Calls Tryz.prog 80 #[.int .u8 (c.toNat : Int)] w fun e w' => e = .returned (.bool (digB c)) ∧ w = w' := by
  obtain ⟨X, HX⟩ : ∃ X : Nat, Hid (X = c.toNat) := ⟨_, rfl⟩
  have HL : Hid (digB c = (decide (48 ≤ X) && decide (X ≤ 57))) := by show _ = _; rw [HX.out]; rfl
  have hX : X < 256 := by rw [HX.out]; exact UInt8.toNat_lt _
  rw [← HX.out, HL.out]
  clear HX HL
  by_cases h1 : 48 ≤ X
  · go_enter Tryz.func80, Tryz.ntmps80
    go_wp2
    all_goals (go_ret; refine ⟨ret_bool ?_, rfl⟩; (try rw [Bool.eq_iff_iff]); (try simp); (try omega))
  · go_enter Tryz.func80, Tryz.ntmps80
    go_wp2
    all_goals (go_ret; refine ⟨ret_bool ?_, rfl⟩; (try rw [Bool.eq_iff_iff]); (try simp); (try omega))

theorem S_get (l : List UInt8) (k : Nat) (h : k < (S l).size) : (S l)[k]'h = l.getD k 0 := by
  have hk : k < l.length := by rw [← S_size]; exact h
  have e : (S l)[k]'h = l[k]'hk := rfl
  rw [e]; simp [hk]
theorem to_S (l : List UInt8) (k : Nat) (hk : k ≤ l.length) (w : World) : (Instr.slice 9 (.string (S l)) none (some (.int .i64 (k : Int))) none).run Tryz.prog w = .ok (.string (S (l.take k))) w := by
  rw [run_slice_string_h (ht := Tryz.underlying9) (h0 := by omega) (h2 := by rw [S_size]; omega)]
  rw [Lib.extract_eq]; simp [S]
theorem from_S (l : List UInt8) (k : Nat) (hk : k ≤ l.length) (w : World) : (Instr.slice 9 (.string (S l)) (some (.int .i64 (k : Int))) none none).run Tryz.prog w = .ok (.string (S (l.drop k))) w := by
  rw [run_slice_string_l (ht := Tryz.underlying9) (h0 := by omega) (h1 := by rw [S_size]; omega)]
  rw [Lib.extract_eq]; simp [S, ByteArray.size]; exact List.take_of_length_le (by simp)
theorem tw_step {p : UInt8 → Bool} {l : List UInt8} {k : Nat} (hlt : k < l.length) (h : p (l.getD k 0) = true) : ((l.drop k).takeWhile p).length = 1 + ((l.drop (k + 1)).takeWhile p).length := by
  have e : l.getD k 0 = l[k] := by simp [hlt]
  rw [List.drop_eq_getElem_cons hlt, List.takeWhile_cons, if_pos (by rw [← e]; exact h)]; simp; omega
theorem tw_stop {p : UInt8 → Bool} {l : List UInt8} {k : Nat} (hlt : k < l.length) (h : p (l.getD k 0) = false) : ((l.drop k).takeWhile p).length = 0 := by
  have e : l.getD k 0 = l[k] := by simp [hlt]
  rw [List.drop_eq_getElem_cons hlt, List.takeWhile_cons, if_neg (by rw [← e, h]; simp)]; rfl
theorem S_nil : S [] = { data := #[] } := rfl

set_option maxHeartbeats 1000000 in
set_option maxRecDepth 100000 in
theorem wordLength_any (l : List UInt8) (hl : l.length ≤ 9223372036854775807) (w : World) : Calls Tryz.prog 49 #[.string (S l)] w fun e w' => e = .returned (.int .i64 (wordLenL l : Int)) ∧ w = w' := by
  have hsz := S_size l
  have hli := S_list l
  cases l with
  | nil =>
    go_enter Tryz.func49, Tryz.ntmps49
    go_wp2
    go_ret
    exact ⟨rfl, rfl⟩
  | cons c r =>
    have hem : (S (c :: r)).toList.isEmpty = false := by rw [S_list]; rfl
    by_cases h0 : letB c = true
    · have HW : Hid (wordLenL (c :: r) = 1 + ((c :: r).drop 1 |>.takeWhile moreB).length) := by show _ = _; simp [wordLenL, h0]
      have hL : ∀ h, letB ((S (c :: r))[0]'h) = true := by intro h; rw [S_get]; exact h0
      obtain ⟨l, Hl⟩ : ∃ l, Hid (l = c :: r) := ⟨_, rfl⟩
      rw [← Hl.out] at HW hL hem hli hsz hl ⊢
      have hlen : 1 ≤ l.length := by rw [Hl.out]; simp
      clear Hl h0 hli
      go_enter Tryz.func49, Tryz.ntmps49
      go_wp2_with fail
      refine (isLetter_any _ _).mono ?_
      rintro e w1 ⟨rfl, rfl⟩
      rw [hL]
      clear hL
      go_wp2
      go_loop [3] (fun n => ∃ k : Nat, 1 ≤ k ∧ k ≤ l.length ∧ n = .int .i64 k ∧ Hid (wordLenL l = k + ((l.drop k).takeWhile moreB).length)) (fun n => l.length - (intOf n).toNat)
      case atStart => exact ⟨1, Nat.le_refl _, hlen, rfl, HW⟩
      case round =>
        obtain ⟨k, hk1, hk, rfl, HR⟩ := hrel
        by_cases hlt : k < l.length
        · have hx : ∀ h, (S l)[k]'h = l.getD k 0 := S_get l k
          obtain ⟨x, Hx⟩ : ∃ x, Hid (x = l.getD k 0) := ⟨_, rfl⟩
          have hx' : ∀ h, (S l)[k]'h = x := by intro h; rw [S_get, Hx.out]
          clear hx
          go_wp2_with fail
          refine (isLetter_any _ _).mono ?_
          rintro e w1 ⟨rfl, rfl⟩
          by_cases h1 : letB x = true
          · rw [h1]
            go_wp2
            go_round
            case rel => exact ⟨k + 1, by omega, by omega, by go_num, by show _ = _; rw [HR.out, tw_step hlt (by rw [← Hx.out]; simp [moreB, h1])]; omega⟩
            case measure => simp [intOf]; omega
          · rw [Bool.eq_false_iff.2 h1]
            go_wp2_with fail
            refine (isDigit_any _ _).mono ?_
            rintro e w1 ⟨rfl, rfl⟩
            by_cases h2 : digB x = true
            · rw [h2]
              go_wp2
              go_round
              case rel => exact ⟨k + 1, by omega, by omega, by go_num, by show _ = _; rw [HR.out, tw_step hlt (by rw [← Hx.out]; simp [moreB, h2])]; omega⟩
              case measure => simp [intOf]; omega
            · rw [Bool.eq_false_iff.2 h2]
              by_cases h3 : x.toNat = 95
              · have h3' : ((x.toNat : Int) == 95) = true := beq_iff_eq.2 (by omega)
                go_wp2
                go_round
                case rel => exact ⟨k + 1, by omega, by omega, by go_num, by show _ = _; rw [HR.out, tw_step hlt (by rw [← Hx.out]; simp [moreB, h3])]; omega⟩
                case measure => simp [intOf]; omega
              · have h3' : ((x.toNat : Int) == 95) = false := beq_eq_false_iff_ne.2 (by omega)
                have h4 : moreB x = false := by simp [moreB, Bool.eq_false_iff.2 h1, Bool.eq_false_iff.2 h2, h3]
                go_wp2
                go_ret
                refine ⟨ret_int ?_, rfl⟩
                rw [HR.out, tw_stop hlt (by rw [← Hx.out]; exact h4)]
                simp
        · go_wp2
          go_ret
          refine ⟨ret_int ?_, rfl⟩
          rw [HR.out, List.drop_eq_nil_of_le (by omega)]
          simp
    · have hL : ∀ h, letB ((S (c :: r))[0]'h) = false := by intro h; rw [S_get]; exact Bool.eq_false_iff.2 h0
      have HW : Hid (wordLenL (c :: r) = 0) := by show _ = _; simp [wordLenL, h0]
      go_enter Tryz.func49, Tryz.ntmps49
      go_wp2_with fail
      refine (isLetter_any _ _).mono ?_
      rintro e w1 ⟨rfl, rfl⟩
      rw [hL]
      clear hL
      go_wp2
      go_ret
      exact ⟨ret_int (by rw [HW.out]; rfl), rfl⟩

set_option maxHeartbeats 1000000 in
set_option maxRecDepth 100000 in
theorem digitsLength_any (l : List UInt8) (hl : l.length ≤ 9223372036854775807) (w : World) : Calls Tryz.prog 109 #[.string (S l)] w fun e w' => e = .returned (.int .i64 (digLenL l : Int)) ∧ w = w' := by
  have hsz := S_size l
  have HW : Hid (digLenL l = 0 + ((l.drop 0).takeWhile digB).length) := by show _ = _; simp [digLenL]
  go_enter Tryz.func109, Tryz.ntmps109
  go_wp2
  go_loop [3] (fun n => ∃ k : Nat, k ≤ l.length ∧ n = .int .i64 k ∧ Hid (digLenL l = k + ((l.drop k).takeWhile digB).length)) (fun n => l.length - (intOf n).toNat)
  case atStart => exact ⟨0, Nat.zero_le _, rfl, HW⟩
  case round =>
    obtain ⟨k, hk, rfl, HR⟩ := hrel
    by_cases hlt : k < l.length
    · obtain ⟨x, Hx⟩ : ∃ x, Hid (x = l.getD k 0) := ⟨_, rfl⟩
      have hx' : ∀ h, (S l)[k]'h = x := by intro h; rw [S_get, Hx.out]
      go_wp2_with fail
      refine (isDigit_any _ _).mono ?_
      rintro e w1 ⟨rfl, rfl⟩
      by_cases h2 : digB x = true
      · rw [h2]
        go_wp2
        go_round
        case rel => exact ⟨k + 1, by omega, by go_num, by show _ = _; rw [HR.out, tw_step hlt (by rw [← Hx.out]; exact h2)]; omega⟩
        case measure => simp [intOf]; omega
      · rw [Bool.eq_false_iff.2 h2]
        go_wp2
        go_ret
        refine ⟨ret_int ?_, rfl⟩
        rw [HR.out, tw_stop hlt (by rw [← Hx.out]; exact Bool.eq_false_iff.2 h2)]
        simp
    · go_wp2
      go_ret
      refine ⟨ret_int ?_, rfl⟩
      rw [HR.out, List.drop_eq_nil_of_le (by omega)]
      simp

end Go.Proofs.YtenlijgnmhdopaaGreatDoor
