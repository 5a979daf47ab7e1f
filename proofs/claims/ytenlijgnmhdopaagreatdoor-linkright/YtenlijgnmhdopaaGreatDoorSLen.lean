/- What is read is not longer than what was there. Plain lists. -/
import Derived.Test.YtenlijgnmhdopaaGreatDoorSPure
namespace Go.Proofs.YtenlijgnmhdopaaGreatDoor

theorem mark_len (c : UInt8) (r : List UInt8) : (markL c r).2.length ≤ r.length ∧ ((markL c r).1 = true → (markL c r).2.length < r.length) := by
  have h := skipL_len r
  unfold markL
  split
  · exact ⟨by simp, by simp⟩
  · rename_i x t heq
    rw [heq] at h
    simp at h
    split
    · exact ⟨by simp; omega, fun _ => by simp; omega⟩
    · exact ⟨by simp; omega, fun hh => by simp at hh⟩
theorem must_len {c : UInt8} {r u : List UInt8} {x : Unit} (h : mustL c r = .ok (x, u)) : u.length < r.length := by
  have hm := mark_len c r
  unfold mustL at h
  split at h
  · rename_i t heq
    rw [heq] at hm
    cases h
    exact hm.2 rfl
  · cases h
theorem must_err {c : UInt8} {r : List UInt8} {E : Option (Nat × List UInt8)} (h : mustL c r = .error E) : E ≠ none ∧ ∀ a t, E = some (a, t) → a ≠ 0 ∧ t.length ≤ r.length := by
  have hm := mark_len c r
  unfold mustL at h
  split at h
  · cases h
  · rename_i t heq
    rw [heq] at hm
    cases h
    exact ⟨by simp, fun a t' e => by cases e; exact ⟨by decide, hm.1⟩⟩
theorem key_len (kw r : List UInt8) : (keyL kw r).2.length ≤ r.length := by
  have h := skipL_len r
  unfold keyL
  split
  · simp; omega
  · exact h
theorem key_len_lt {kw : List UInt8} (hk : kw ≠ []) {r : List UInt8} (h : (keyL kw r).1 = true) : (keyL kw r).2.length < r.length := by
  have h1 := skipL_len r
  unfold keyL at h ⊢
  split
  · rename_i heq
    have hp : 0 < kw.length := List.length_pos_iff.2 hk
    have hle : kw.length ≤ (skipL r).length := by rw [← heq]; simp; exact Nat.min_le_right _ _
    simp
    omega
  · rename_i heq
    rw [if_neg heq] at h
    cases h
theorem name_len {r l u : List UInt8} (h : nameL r = .ok (l, u)) : u.length < r.length ∧ l.length ≤ 16 ∧ 0 < l.length := by
  have h1 := skipL_len r
  unfold nameL at h
  split at h
  · cases h
  · split at h
    · cases h
    · rename_i h0 h16
      cases h
      have : wordLenL (skipL r) ≤ (skipL r).length := by
        cases skipL r with
        | nil => exact Nat.le_refl _
        | cons c t =>
          simp only [wordLenL]
          split
          · have := (List.takeWhile_sublist moreB (l := t)).length_le; simp; omega
          · exact Nat.zero_le _
      simp
      omega
theorem name_err {r : List UInt8} {E : Option (Nat × List UInt8)} (h : nameL r = .error E) : E ≠ none ∧ ∀ a t, E = some (a, t) → a ≠ 0 ∧ t.length ≤ r.length := by
  have h1 := skipL_len r
  unfold nameL at h
  split at h
  · cases h; exact ⟨by simp, fun a t e => by cases e; exact ⟨by decide, h1⟩⟩
  · split at h
    · cases h; exact ⟨by simp, fun a t e => by cases e; exact ⟨by decide, h1⟩⟩
    · cases h
theorem num_len {most n : Nat} {r u : List UInt8} (h : numL most r = .ok (n, u)) : u.length < r.length ∧ n ≤ most := by
  have h1 := skipL_len r
  unfold numL at h
  split at h
  · cases h
  · split at h
    · cases h
    · rename_i h0 h2
      cases h
      have : digLenL (skipL r) ≤ (skipL r).length := (List.takeWhile_sublist _).length_le
      simp
      omega
theorem num_err {most : Nat} {r : List UInt8} {E : Option (Nat × List UInt8)} (h : numL most r = .error E) : E ≠ none ∧ ∀ a t, E = some (a, t) → a ≠ 0 ∧ t.length ≤ r.length := by
  have h1 := skipL_len r
  unfold numL at h
  split at h
  · cases h; exact ⟨by simp, fun a t e => by cases e; exact ⟨by decide, h1⟩⟩
  · split at h
    · cases h; exact ⟨by simp, fun a t e => by cases e; exact ⟨by decide, h1⟩⟩
    · cases h
theorem thn_ok {α β : Type} {x : R α} {f : α → List UInt8 → R β} {y : β × List UInt8} (h : R.thn x f = .ok y) : ∃ a u, x = .ok (a, u) ∧ f a u = .ok y := by
  cases x with
  | error E => cases h
  | ok p => exact ⟨p.1, p.2, rfl, h⟩
theorem thn_err {α β : Type} {x : R α} {f : α → List UInt8 → R β} {E : Option (Nat × List UInt8)} (h : R.thn x f = .error E) : x = .error E ∨ ∃ a u, x = .ok (a, u) ∧ f a u = .error E := by
  cases x with
  | error E' => left; cases (show (Except.error E' : R β) = .error E from h); rfl
  | ok p => exact .inr ⟨p.1, p.2, rfl, h⟩
theorem field_len {many : Bool} {ch : Nat} {r u : List UInt8} {f : Fld} (h : fieldL many ch r = .ok (f, u)) : u.length < r.length := by
  unfold fieldL at h
  obtain ⟨_, u1, h1, h⟩ := thn_ok h
  obtain ⟨_, u2, h2, h⟩ := thn_ok h
  obtain ⟨_, u3, h3, h⟩ := thn_ok h
  obtain ⟨_, u4, h4, h⟩ := thn_ok h
  obtain ⟨_, u5, h5, h⟩ := thn_ok h
  cases h
  have := (name_len h1).1; have := (name_len h2).1; have := must_len h3; have := (num_len h4).1; have := must_len h5
  omega

theorem res_len : ∀ (k : Nat) (acc : List Nat) (r : List UInt8) (l : List Nat) (u : List UInt8), resL k acc r = .ok (l, u) → l.length + u.length ≤ acc.length + r.length
  | 0, _, _, _, _, h => by cases h
  | k + 1, acc, r, l, u, h => by
    have hm := mark_len 44 r
    rw [resL] at h
    split at h
    · rename_i t heq
      rw [heq] at hm
      obtain ⟨n, u1, h1, h⟩ := thn_ok h
      have := (num_len h1).1
      have := res_len k _ _ _ _ h
      have := hm.1
      simp at *
      omega
    · rename_i t heq
      rw [heq] at hm
      obtain ⟨_, u1, h1, h⟩ := thn_ok h
      have := must_len h1
      cases h
      have := hm.1
      simp at *
      omega
theorem reserved_len {K : Nat} {r u : List UInt8} {l : List Nat} (h : reservedL K r = .ok (l, u)) : l.length + u.length ≤ r.length := by
  obtain ⟨n, u1, h1, h⟩ := thn_ok h
  have := (num_len h1).1
  have := res_len _ _ _ _ _ h
  simp at this
  omega
theorem choiceGo_len (ch : Nat) : ∀ (k : Nat) (acc : List Fld) (r : List UInt8) (l : List Fld) (u : List UInt8), choiceGo ch k acc r = .ok (l, u) → l.length + u.length ≤ acc.length + r.length
  | 0, _, _, _, _, h => by cases h
  | k + 1, acc, r, l, u, h => by
    have hm := mark_len 125 r
    rw [choiceGo] at h
    split at h
    · rename_i t heq
      rw [heq] at hm
      cases h
      have := hm.1
      simp at *
      omega
    · rename_i t heq
      rw [heq] at hm
      obtain ⟨f, u1, h1, h⟩ := thn_ok h
      have := field_len h1
      have := choiceGo_len ch k _ _ _ _ h
      have := hm.1
      simp at *
      omega
theorem choice_len {K ch : Nat} {r u : List UInt8} {l : List Fld} (h : choiceL K ch r = .ok (l, u)) : l.length + u.length ≤ r.length := by
  obtain ⟨_, u1, h1, h⟩ := thn_ok h
  have := must_len h1
  have := choiceGo_len _ _ _ _ _ _ h
  simp at this
  omega

end Go.Proofs.YtenlijgnmhdopaaGreatDoor
