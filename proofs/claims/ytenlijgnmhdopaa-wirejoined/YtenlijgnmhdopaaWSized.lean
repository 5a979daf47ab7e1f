/- The contracts of getSized and getBits. -/
import Derived.Test.YtenlijgnmhdopaaWGetRec
namespace Go.Proofs.Ytenlijgnmhdopaa
open Go.RowKit

def sizedOf (l : List UInt8) (N K E : Nat) : List UInt8 × Nat × Nat :=
  if E ≠ 0 then ([], 0, E)
  else if l.length - K < N then ([], 0, 2)
  else ((l.drop K).take N, K + N, 0)
def sizedR (l : List UInt8) : List UInt8 × Nat × Nat := sizedOf l (getR 0 0 l).1 (getR 0 0 l).2.1 (getR 0 0 l).2.2

theorem three_eq {α : Type} {a a' : α} {b c b' c' : Nat} (e : (a, b, c) = (a', b', c')) : a = a' ∧ b = b' ∧ c = c' := by simpa using e

set_option maxRecDepth 100000 in
theorem slice_from {w : World} {ao : Option Addr} {len cap : Nat} {l : List UInt8} (hr : RdA w ao len cap l) {k : Nat} (hk : k ≤ len) (kd : IntKind) :
    ∃ ao2, (∀ w, (Instr.slice 23 (.slice ao len cap) (some (.int kd (k : Int))) none none).run Try.prog w = .ok (.slice ao2 (len - k) (cap - k)) w) ∧ RdA w ao2 (len - k) (cap - k) (l.drop k) := by
  refine ⟨_, ?_, hr.drop hk⟩
  intro w
  have := run_slice_l (P := Try.prog) (w := w) 23 ao len cap Try.underlying23 kd (k : Int) (by omega) (by omega)
  rw [this]
  have e1 : (sizeOf (Try.prog.elem 23)).run Try.prog w = .ok 1 w := by rfl
  rw [e1]
  simp [Result.andThen, sliced]

set_option maxRecDepth 100000 in
theorem slice_to {w : World} {ao : Option Addr} {len cap : Nat} {l : List UInt8} (hr : RdA w ao len cap l) {k : Nat} (hk : k ≤ len) (kd : IntKind) :
    (∀ w, (Instr.slice 23 (.slice ao len cap) none (some (.int kd (k : Int))) none).run Try.prog w = .ok (.slice ao k cap) w) ∧ RdA w ao k cap (l.take k) := by
  refine ⟨?_, hr.take hk⟩
  intro w
  have hc := hr.2.1
  have := run_slice_h (P := Try.prog) (w := w) 23 ao len cap Try.underlying23 kd (k : Int) (by omega) (by omega)
  rw [this]
  have e1 : (sizeOf (Try.prog.elem 23)).run Try.prog w = .ok 1 w := by rfl
  rw [e1]
  have e2 : ao.map (fun x => x.add 0) = ao := by cases ao <;> rfl
  simp [Result.andThen, sliced, e2]

set_option maxHeartbeats 1000000 in
set_option maxRecDepth 100000 in
theorem getSized_eq {ao : Option Addr} {len cap : Nat} {l : List UInt8} {w : World} (hr : RdA w ao len cap l) (hlen : len ≤ 4000) {A : List UInt8} {B C : Nat} (h : sizedR l = (A, B, C)) :
    Calls Try.prog 46 #[.slice ao len cap] w fun e w' => ∃ v', e = .returned (.tuple #[v', .int .i64 (B : Int), .int .i64 (C : Int)]) ∧ OwnB w' w.heap.size v' A ∧ Below w.heap.size w w' := by
  obtain ⟨N, K, E, Hg⟩ : ∃ N K E, Hid (getR 0 0 l = (N, K, E)) := ⟨_, _, _, rfl⟩
  obtain ⟨b1, b2, b3, b4, b5⟩ := getR_bd0 Hg.out
  have HT : Hid (sizedOf l N K E = (A, B, C)) := by show _ = _; rw [← h, sizedR, Hg.out]
  have HL : Hid (l.length = len) := hr.1
  have hKl : K ≤ len := by rw [← HL.out]; exact b2
  have hcl : len ≤ cap := hr.2.1
  have hcm : cap ≤ 9223372036854775807 := by have := hr.2.2.1; unfold maxLen at this; omega
  clear h b2
  go_enter Try.func46, Try.ntmps46
  go_wp2_with fail
  refine (get_eq hr Hg.out).mono ?_
  rintro e w1 ⟨rfl, rfl⟩
  by_cases h0 : E = 0
  · have hE0 : ((E : Int) != 0) = false := by simp [h0]
    obtain ⟨ao2, hsl, hrk⟩ := slice_from hr hKl .i64
    by_cases h1 : len - K < N
    · obtain ⟨rfl, rfl, rfl⟩ := three_eq (show ([], 0, 2) = (A, B, C) by rw [← HT.out, sizedOf, if_neg (by omega), if_pos (by rw [HL.out]; exact h1)])
      clear HT h0
      have h1' : ((len - K : Nat) : Int) < (N : Int) := by omega
      go_wp2
      go_ret3
      exact ⟨_, rfl, OwnB.nil _ _, Below.refl _ _⟩
    · obtain ⟨rfl, rfl, rfl⟩ := three_eq (show ((l.drop K).take N, K + N, 0) = (A, B, C) by rw [← HT.out, sizedOf, if_neg (by omega), if_neg (by rw [HL.out]; exact h1)])
      clear HT h0
      have h1' : (N : Int) ≤ ((len - K : Nat) : Int) := by omega
      obtain ⟨hst, hrt⟩ := slice_to hrk (show N ≤ len - K by omega) .u64
      go_wp2_with fail
      refine (clone_anyW _ _ _ _ _ hrt (by omega)).mono ?_
      rintro e w2 ⟨v2, rfl, ho, hbl⟩
      go_wp2
      go_ret3
      exact ⟨v2, rfl, ho, hbl⟩
  · have hE0 : ((E : Int) != 0) = true := by rw [bne_iff_ne]; omega
    obtain ⟨rfl, rfl, rfl⟩ := three_eq (show ([], 0, E) = (A, B, C) by rw [← HT.out, sizedOf, if_pos h0])
    clear h0 HT
    go_wp2
    go_ret3
    exact ⟨_, rfl, OwnB.nil _ _, Below.refl _ _⟩

/-- The number of low bytes. -/
def highN : List UInt8 → Nat
  | [] => 0
  | c :: r => c.toNat + 256 * highN r
theorem highN_lt (l : List UInt8) : highN l < 2 ^ (8 * l.length) := by
  induction l with
  | nil => simp [highN]
  | cons c r ih =>
    rw [highN, List.length_cons, show 8 * (r.length + 1) = 8 * r.length + 8 by omega, Nat.pow_add]
    have : c.toNat < 256 := UInt8.toNat_lt _
    have e : (2 : Nat) ^ 8 = 256 := rfl
    omega
theorem highN_snoc (l : List UInt8) (c : UInt8) : highN (l ++ [c]) = highN l + c.toNat * 2 ^ (8 * l.length) := by
  induction l with
  | nil => simp [highN]
  | cons a r ih =>
    rw [List.cons_append, highN, ih, highN, List.length_cons, show 8 * (r.length + 1) = 8 * r.length + 8 by omega, Nat.pow_add]
    have e : (2 : Nat) ^ 8 = 256 := rfl
    rw [e]
    generalize 2 ^ (8 * r.length) = p
    rw [← Nat.mul_assoc c.toNat p 256, Nat.mul_comm (c.toNat * p) 256, Nat.mul_add]
    omega
theorem high_take {l : List UInt8} {k W X : Nat} (hk : k < l.length) (hW : k < W) (hX : X = ((l.take W).getD k 0).toNat) : highN (l.take (k + 1)) = highN (l.take k) + X * 2 ^ (8 * k) := by
  rw [List.take_succ_eq_append_getElem hk, highN_snoc, List.length_take, Nat.min_eq_left (by omega), hX]
  simp [hW, hk]
theorem high_lt {l : List UInt8} {k : Nat} (hk : k ≤ l.length) : highN (l.take k) < 2 ^ (8 * k) := by
  have := highN_lt (l.take k)
  rwa [List.length_take, Nat.min_eq_left hk] at this

theorem step8 {k acc X : Nat} (hk : k ≤ 7) (hacc : acc < 2 ^ (8 * k)) (hX : X < 256) :
    bits BinOp.or IntKind.u64 (acc : Int) (IntKind.u64.wrap ((X : Int) * 2 ^ (8 * k))) = ((acc + X * 2 ^ (8 * k) : Nat) : Int) := by
  have hp : 2 ^ (8 * k) ≤ 2 ^ 56 := Nat.pow_le_pow_right (by decide) (by omega)
  have hb : X * 2 ^ (8 * k) < 2 ^ 64 := by
    have h2 : X * 2 ^ (8 * k) ≤ 255 * 2 ^ (8 * k) := Nat.mul_le_mul_right _ (by omega)
    omega
  have e : ((X : Int) * 2 ^ (8 * k)) = ((X * 2 ^ (8 * k) : Nat) : Int) := by simp
  rw [e, wr_u64 _ (by omega) (by exact_mod_cast hb)]
  exact or_low (8 * k) acc _ hacc (by omega) (Nat.mul_mod_left _ _) hb

/-- What getBits answers. -/
def bitsR (l : List UInt8) (how : Int) : Nat × Nat × Nat :=
  if how = 0 then getR 0 0 l
  else if l.length < widthN how then (0, 0, 2)
  else (highN (l.take (widthN how)), widthN how, 0)

set_option maxHeartbeats 1000000 in
set_option maxRecDepth 100000 in
theorem getBits_eq {ao : Option Addr} {len cap : Nat} {l : List UInt8} {w : World} (hr : RdA w ao len cap l) (how : Int) {A B C : Nat} (h : bitsR l how = (A, B, C)) :
    Calls Try.prog 47 #[.slice ao len cap, .int .i64 how] w fun e w' => e = .returned (.tuple #[.int .u64 (A : Int), .int .i64 (B : Int), .int .i64 (C : Int)]) ∧ w = w' := by
  have HL : Hid (l.length = len) := hr.1
  have hlc : len ≤ cap := hr.2.1
  have hcm : cap ≤ 9223372036854775807 := by have := hr.2.2.1; unfold maxLen at this; omega
  by_cases h0 : how = 0
  · subst h0
    rw [bitsR, if_pos rfl] at h
    have Hh : Hid (getR 0 0 l = (A, B, C)) := h
    clear h
    go_enter Try.func47, Try.ntmps47
    go_wp2_with fail
    refine (get_eq hr Hh.out).mono ?_
    rintro e w1 ⟨rfl, rfl⟩
    go_wp2
    go_ret3
    exact ⟨rfl, rfl⟩
  · have b0 : (how == 0) = false := beq_eq_false_iff_ne.2 h0
    rw [bitsR, if_neg h0] at h
    obtain ⟨W, HW⟩ : ∃ W, Hid (widthN how = W) := ⟨_, rfl⟩
    have hW8 : W ≤ 8 := by rw [← HW.out]; unfold widthN; split <;> (try split) <;> omega
    rw [HW.out, HL.out] at h
    clear h0
    by_cases h1 : len < W
    · rw [if_pos h1] at h
      obtain ⟨rfl, rfl, rfl⟩ := three_eq h
      clear h
      go_enter Try.func47, Try.ntmps47
      go_wp2_with (go_at_call 64; refine (width_any how _).mono ?_; rintro e w1 ⟨rfl, rfl⟩; rw [HW.out])
      go_ret3
      exact ⟨rfl, rfl⟩
    · rw [if_neg h1] at h
      obtain ⟨rfl, rfl, rfl⟩ := three_eq h
      clear h
      obtain ⟨hst, hrt⟩ := slice_to hr (show W ≤ len by omega) .i64
      by_cases hp : 0 < W
      · obtain ⟨b, off, rfl, hbw, hcell⟩ := hrt.at hp
        go_enter Try.func47, Try.ntmps47
        go_wp2_with (go_at_call 64; refine (width_any how _).mono ?_; rintro e w1 ⟨rfl, rfl⟩; rw [HW.out])
        go_loop [8, 28] (fun a i => ∃ k acc : Nat, k ≤ W ∧ i = .int .i64 k ∧ a = .int .u64 acc ∧ Hid (acc = highN (l.take k))) (fun _ i => W - (intOf i).toNat)
        case atStart => exact ⟨0, 0, Nat.zero_le _, rfl, rfl, rfl⟩
        case round =>
          obtain ⟨k, acc, hk, rfl, rfl, HR⟩ := hrel
          by_cases hlt : k < W
          · obtain ⟨X, HX⟩ : ∃ X : Nat, Hid (X = ((l.take W).getD k 0).toNat) := ⟨_, rfl⟩
            have hc : w.cell? ⟨b, off + k, none⟩ = some (.int .u8 (X : Int)) := by rw [HX.out]; exact hcell k hlt
            have hX : X < 256 := by rw [HX.out]; exact UInt8.toNat_lt _
            clear hcell
            go_wp2
            go_round
            case rel =>
              have hkl : k < l.length := by rw [HL.out]; omega
              refine ⟨k + 1, acc + X * 2 ^ (8 * k), by omega, by go_num, congrArg (Value.int .u64) (step8 (by omega) (by rw [HR.out]; exact high_lt (by omega)) hX), ?_⟩
              show _ = _
              rw [high_take hkl hlt HX.out, HR.out]
            case measure => simp [intOf]; omega
          · go_wp2
            go_ret3
            have hkW : k = W := by omega
            exact ⟨ret3 (by rw [HR.out, hkW]) rfl rfl, rfl⟩
      · have hW0 : W = 0 := by omega
        subst hW0
        go_enter Try.func47, Try.ntmps47
        go_wp2_with (go_at_call 64; refine (width_any how _).mono ?_; rintro e w1 ⟨rfl, rfl⟩; rw [HW.out])
        refine wp_loop_rounds 1 ?_
        rw [rounds_succ]
        go_wp2
        go_ret3
        exact ⟨rfl, rfl⟩

end Go.Proofs.Ytenlijgnmhdopaa
