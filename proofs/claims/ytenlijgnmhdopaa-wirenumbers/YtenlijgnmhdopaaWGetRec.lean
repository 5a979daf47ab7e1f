/- The contracts of Clone, getTag, getSized, getBits. -/
import Derived.Test.YtenlijgnmhdopaaWBytes
import Derived.Lib.LazyBuf
namespace Go.Proofs.Ytenlijgnmhdopaa
open Go.RowKit

theorem eql_slice_nil (w : World) (a : Option Addr) (l c : Nat) : (binOp .eql 23 (.slice a l c) (.slice none 0 0)).run Try.prog w = .ok (.bool a.isNone) w :=
  run_eql_slice_nil w 23 5 a l c Try.underlying23

theorem OwnB.made (w : World) {base : Nat} (hb : base ≤ w.heap.size) : OwnB (w.alloc (.cells #[] 5)) base (.slice (some ⟨w.heap.size, 0, none⟩) 0 0) [] :=
  World.ownsRow_made w #[] 0 hb (by unfold maxLen; omega) rfl

set_option maxHeartbeats 1000000 in
theorem clone_anyW (ao : Option Addr) (len cap : Nat) (m : List UInt8) (w : World) (hr : RdA w ao len cap m) (hlen : len ≤ 1000000) :
    Calls Try.prog 63 #[.slice ao len cap] w fun e w' => ∃ v', e = .returned v' ∧ OwnB w' w.heap.size v' m ∧ Below w.heap.size w w' := by
  have he := eql_slice_nil
  cases ao with
  | none =>
    have hm : m = [] := List.eq_nil_of_length_eq_zero (by have := hr.1; have := hr.2.1; have := hr.2.2.2.1 rfl; omega)
    subst hm
    go_enter Try.func63, Try.ntmps63
    go_wp2
    go_ret
    exact ⟨_, rfl, OwnB.nil _ _, Below.refl _ _⟩
  | some x =>
    have hb0 : ∀ o, Below w.heap.size w (w.alloc o) := fun o => (Below.refl w.heap.size w).alloc (Nat.le_refl _) o
    have HL : Hid (m.length = len) := hr.1
    have hr1 : RdA (w.alloc (.cells #[] 5)) (some x) len cap m := hr.later (hb0 _)
    go_enter Try.func63, Try.ntmps63
    go_wp2_with (at_builtin; refine wpList_appB rfl _ _ rfl w.heap.size _ [] m rfl (OwnB.made w (Nat.le_refl _)) (some x) len cap rfl hr1 ?e1 ?e2 ?_)
    case e1 => have := HL.out; simp; omega
    case e2 => simp
    intro v2 w2 ho2 hbl2
    go_wp2
    go_ret
    exact ⟨v2, rfl, ho2, (hb0 _).trans hbl2⟩

theorem add_add (x : Addr) (a b : Nat) : (x.add a).add b = x.add (a + b) := by
  unfold Addr.add
  split <;> split <;> simp_all <;> omega

theorem RdA.drop {w : World} {ao : Option Addr} {len cap : Nat} {l : List UInt8} (h : RdA w ao len cap l) {k : Nat} (hk : k ≤ len) :
    RdA w (if cap = k then ao else ao.map (·.add k)) (len - k) (cap - k) (l.drop k) := by
  obtain ⟨h1, h2, h3, h4, h5⟩ := h
  refine ⟨by simp [h1], by omega, by omega, ?_, ?_⟩
  · intro hn
    split at hn
    · omega
    · have : ao = none := by simpa using hn
      have := h4 this
      omega
  · intro x hx i hi
    rw [if_neg (by omega)] at hx
    cases ao with
    | none => cases hx
    | some y =>
      simp at hx
      subst hx
      rw [add_add]
      have := h5 y rfl (k + i) (by omega)
      rw [this]
      simp [List.getElem?_drop]

theorem RdA.take {w : World} {ao : Option Addr} {len cap : Nat} {l : List UInt8} (h : RdA w ao len cap l) {k : Nat} (hk : k ≤ len) :
    RdA w ao k cap (l.take k) := by
  obtain ⟨h1, h2, h3, h4, h5⟩ := h
  refine ⟨by simp; omega, by omega, h3, h4, ?_⟩
  intro x hx i hi
  rw [h5 x hx i (by omega)]
  simp [hi]

theorem getR_bd (l : List UInt8) : ∀ (i acc : Nat), acc < 2 ^ (7 * i) → i ≤ 9 →
    (getR i acc l).1 ≤ 18446744073709551615 ∧ (getR i acc l).2.1 ≤ i + l.length ∧ (getR i acc l).2.1 ≤ 10 ∧ ((getR i acc l).2.2 = 0 ∨ (getR i acc l).2.2 = 2 ∨ (getR i acc l).2.2 = 3) ∧ ((getR i acc l).2.2 = 0 → i + 1 ≤ (getR i acc l).2.1) := by
  induction l with
  | nil => intro i acc _ _; rw [getR]; exact ⟨by simp, by simp, by simp, .inr (.inl rfl), by simp⟩
  | cons x r ih =>
    intro i acc hacc hi
    rw [getR]
    split
    · exact ⟨by simp, by simp, by simp, .inr (.inr rfl), by simp⟩
    · rename_i h9
      have hx : x.toNat < 256 := UInt8.toNat_lt _
      have hb : acc + x.toNat % 128 * 2 ^ (7 * i) ≤ 18446744073709551615 := by
        by_cases h : i ≤ 8
        · have h1 := pow7 h
          have h2 : x.toNat % 128 * 2 ^ (7 * i) ≤ 127 * 2 ^ (7 * i) := Nat.mul_le_mul_right _ (by omega)
          omega
        · have hk9 : i = 9 := by omega
          subst hk9
          rw [show 2 ^ (7 * 9) = 9223372036854775808 from rfl] at hacc ⊢
          omega
      split
      · exact ⟨hb, by simp, by simp; omega, .inl rfl, by simp⟩
      · have h9' : i ≠ 9 := by intro e; apply h9; exact ⟨e, by omega⟩
        obtain ⟨a, b, c, d, e⟩ := ih (i + 1) _ (step_bd hacc) (by omega)
        exact ⟨a, by simp; omega, c, d, fun h => by have := e h; omega⟩

theorem getR_bd0 {l : List UInt8} {N K E : Nat} (h : getR 0 0 l = (N, K, E)) : N ≤ 18446744073709551615 ∧ K ≤ l.length ∧ K ≤ 10 ∧ (E = 0 ∨ E = 2 ∨ E = 3) ∧ (E = 0 → 1 ≤ K) := by
  have := getR_bd l 0 0 (by decide) (by omega)
  rw [h] at this
  simpa using this

theorem get_eq {ao : Option Addr} {len cap : Nat} {l : List UInt8} {w : World} (hr : RdA w ao len cap l) {N K E : Nat} (h : getR 0 0 l = (N, K, E)) :
    Calls Try.prog 9 #[.slice ao len cap] w fun e w' => e = .returned (.tuple #[.int .u64 (N : Int), .int .i64 (K : Int), .int .i64 (E : Int)]) ∧ w = w' := by
  have := get_any ao len cap l w hr
  rw [h] at this
  exact this

theorem four_eq {a b c d a' b' c' d' : Nat} (e : (a, b, c, d) = (a', b', c', d')) : a = a' ∧ b = b' ∧ c = c' ∧ d = d' := by simpa using e
/-- What getTag answers: number, how, how many bytes, what is wrong. -/
def tagOf (N K E : Nat) : Nat × Nat × Nat × Nat :=
  if E ≠ 0 then (0, 0, 0, E)
  else if N / 8 < 1 ∨ 536870912 ≤ N / 8 then (0, 0, 0, 3)
  else if isHowB ((N % 8 : Nat) : Int) = false then (0, 0, 0, 1)
  else (N / 8, N % 8, K, 0)
def tagR (l : List UInt8) : Nat × Nat × Nat × Nat := tagOf (getR 0 0 l).1 (getR 0 0 l).2.1 (getR 0 0 l).2.2

set_option maxHeartbeats 1000000 in
set_option maxRecDepth 100000 in
theorem getTag_eq {ao : Option Addr} {len cap : Nat} {l : List UInt8} {w : World} (hr : RdA w ao len cap l) {A B C D : Nat} (h : tagR l = (A, B, C, D)) :
    Calls Try.prog 45 #[.slice ao len cap] w fun e w' => e = .returned (.tuple #[.int .i64 (A : Int), .int .i64 (B : Int), .int .i64 (C : Int), .int .i64 (D : Int)]) ∧ w = w' := by
  obtain ⟨N, K, E, Hg⟩ : ∃ N K E, Hid (getR 0 0 l = (N, K, E)) := ⟨_, _, _, rfl⟩
  obtain ⟨b1, b2, b3, b4, b5⟩ := getR_bd0 Hg.out
  have HT : Hid (tagOf N K E = (A, B, C, D)) := by show _ = _; rw [← h, tagR, Hg.out]
  clear h
  go_enter Try.func45, Try.ntmps45
  go_wp2_with fail
  refine (get_eq hr Hg.out).mono ?_
  rintro e w1 ⟨rfl, rfl⟩
  by_cases h0 : E = 0
  · have hE0 : ((E : Int) != 0) = false := by simp [h0]
    by_cases h1 : N / 8 < 1 ∨ 536870912 ≤ N / 8
    · obtain ⟨rfl, rfl, rfl, rfl⟩ := four_eq (show (0, 0, 0, 3) = (A, B, C, D) by rw [← HT.out, tagOf, if_neg (by omega), if_pos h1])
      clear HT h0
      rcases h1 with h1 | h1
      · have h1' : (N : Int) / 8 < 1 := by omega
        clear h1
        go_wp2
        refine bodyPost_ret (v := .tuple #[.int .i64 0, .int .i64 0, .int .i64 0, .int .i64 3]) (by simp [results, Try.results45, go_sem]) rfl ⟨rfl, rfl⟩
      · have h1' : 1 ≤ (N : Int) / 8 := by omega
        have h2' : 536870912 ≤ (N : Int) / 8 := by omega
        clear h1
        go_wp2
        refine bodyPost_ret (v := .tuple #[.int .i64 0, .int .i64 0, .int .i64 0, .int .i64 3]) (by simp [results, Try.results45, go_sem]) rfl ⟨rfl, rfl⟩
    · obtain ⟨Q, HQ⟩ : ∃ Q, Hid (Q = N / 8) := ⟨_, rfl⟩
      obtain ⟨M, HM⟩ : ∃ M, Hid (M = N % 8) := ⟨_, rfl⟩
      have q1 : 1 ≤ Q := by have := HQ.out; omega
      have q2 : Q < 536870912 := by have := HQ.out; omega
      have q3 : M < 8 := by have := HM.out; omega
      have q4 : (N : Int) / 8 = (Q : Int) := by have := HQ.out; omega
      have q5 : (N : Int) % 8 = (M : Int) := by have := HM.out; omega
      by_cases h3 : isHowB (M : Int) = false
      · obtain ⟨rfl, rfl, rfl, rfl⟩ := four_eq (show (0, 0, 0, 1) = (A, B, C, D) by rw [← HT.out, tagOf, if_neg (by omega), if_neg h1, if_pos (by rw [← HM.out]; exact h3)])
        clear HT h0 h1 b1 b2 b3 b4 b5 HM HQ
        have H3 : Hid (isHowB (M : Int) = false) := h3
        clear h3
        go_wp2_with fail
        refine (isHow_any _ _).mono ?_
        rintro e w1 ⟨rfl, rfl⟩
        rw [H3.out]
        go_wp2
        refine bodyPost_ret (v := .tuple #[.int .i64 0, .int .i64 0, .int .i64 0, .int .i64 1]) (by simp [results, Try.results45, go_sem]) rfl ⟨rfl, rfl⟩
      · obtain ⟨rfl, rfl, rfl, rfl⟩ := four_eq (show (Q, M, K, 0) = (A, B, C, D) by rw [← HT.out, tagOf, if_neg (by omega), if_neg h1, if_neg (by rw [← HM.out]; exact h3), HQ.out, HM.out])
        clear HT h0 h1 b1 b2 b3 b4 b5 HM HQ
        have H3 : Hid (isHowB (M : Int) = true) := by show _ = _; simpa using h3
        clear h3
        go_wp2_with fail
        refine (isHow_any _ _).mono ?_
        rintro e w1 ⟨rfl, rfl⟩
        rw [H3.out]
        go_wp2
        refine bodyPost_ret (v := .tuple #[.int .i64 (Q : Int), .int .i64 (M : Int), .int .i64 (K : Int), .int .i64 0]) (by simp [results, Try.results45, go_sem]) rfl ⟨rfl, rfl⟩
  · have hE0 : ((E : Int) != 0) = true := by rw [bne_iff_ne]; omega
    obtain ⟨rfl, rfl, rfl, rfl⟩ := four_eq (show (0, 0, 0, E) = (A, B, C, D) by rw [← HT.out, tagOf, if_pos h0])
    clear h0 HT
    go_wp2
    refine bodyPost_ret (v := .tuple #[.int .i64 0, .int .i64 0, .int .i64 0, .int .i64 (E : Int)]) (by simp [results, Try.results45, go_sem]) rfl ⟨rfl, rfl⟩

end Go.Proofs.Ytenlijgnmhdopaa
