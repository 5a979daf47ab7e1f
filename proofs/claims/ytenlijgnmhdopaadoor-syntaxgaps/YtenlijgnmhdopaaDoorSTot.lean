/- Enough rounds are enough; a text with notes behind its lines is the same file. Plain lists. -/
import Derived.Test.YtenlijgnmhdopaaDoorSLen
namespace Go.Proofs.YtenlijgnmhdopaaDoor

theorem field_err {many : Bool} {ch : Nat} {r : List UInt8} : fieldL many ch r ≠ .error none := by
  intro h
  unfold fieldL at h
  rcases thn_err h with h | ⟨_, u1, _, h⟩
  · exact (name_err h).1 rfl
  rcases thn_err h with h | ⟨_, u2, _, h⟩
  · exact (name_err h).1 rfl
  rcases thn_err h with h | ⟨_, u3, _, h⟩
  · exact (must_err h).1 rfl
  rcases thn_err h with h | ⟨_, u4, _, h⟩
  · exact (num_err h).1 rfl
  rcases thn_err h with h | ⟨_, u5, _, h⟩
  · exact (must_err h).1 rfl
  cases h
theorem item_err {r : List UInt8} : itemL r ≠ .error none := by
  intro h
  unfold itemL at h
  rcases thn_err h with h | ⟨_, u1, _, h⟩
  · exact (name_err h).1 rfl
  rcases thn_err h with h | ⟨_, u2, _, h⟩
  · exact (must_err h).1 rfl
  split at h
  · rcases thn_err h with h | ⟨_, u3, _, h⟩
    · exact (num_err h).1 rfl
    rcases thn_err h with h | ⟨_, u4, _, h⟩
    · exact (must_err h).1 rfl
    cases h
  · rcases thn_err h with h | ⟨_, u3, _, h⟩
    · exact (num_err h).1 rfl
    rcases thn_err h with h | ⟨_, u4, _, h⟩
    · exact (must_err h).1 rfl
    cases h
theorem item_len {r u : List UInt8} {i : Itm} (h : itemL r = .ok (i, u)) : u.length < r.length := by
  unfold itemL at h
  obtain ⟨_, u1, h1, h⟩ := thn_ok h
  obtain ⟨_, u2, h2, h⟩ := thn_ok h
  have a1 := (name_len h1).1
  have a2 := must_len h2
  have hm := mark_len 45 u2
  split at h
  · rename_i t heq
    rw [heq] at hm
    obtain ⟨_, u3, h3, h⟩ := thn_ok h
    obtain ⟨_, u4, h4, h⟩ := thn_ok h
    cases h
    have := (num_len h3).1; have := must_len h4; have := hm.1
    simp at *
    omega
  · rename_i t heq
    rw [heq] at hm
    obtain ⟨_, u3, h3, h⟩ := thn_ok h
    obtain ⟨_, u4, h4, h⟩ := thn_ok h
    cases h
    have := (num_len h3).1; have := must_len h4; have := hm.1
    simp at *
    omega
theorem res_tot : ∀ (k : Nat) (acc : List Nat) (r : List UInt8), r.length < k → resL k acc r ≠ .error none
  | 0, _, _, h => by omega
  | k + 1, acc, r, h => by
    intro he
    have hm := mark_len 44 r
    rw [resL] at he
    split at he
    · rename_i t heq
      rw [heq] at hm
      rcases thn_err he with he | ⟨n, u, hn, he⟩
      · exact (num_err he).1 rfl
      · have := (num_len hn).1
        have := hm.1
        exact res_tot k _ _ (by simp at *; omega) he
    · rcases thn_err he with he | ⟨n, u, hn, he⟩
      · exact (must_err he).1 rfl
      · cases he
theorem reserved_tot {K : Nat} {r : List UInt8} (h : r.length < K) : reservedL K r ≠ .error none := by
  intro he
  rcases thn_err he with he | ⟨n, u, hn, he⟩
  · exact (num_err he).1 rfl
  · have := (num_len hn).1
    exact res_tot _ _ _ (by omega) he
theorem choiceGo_tot (ch : Nat) : ∀ (k : Nat) (acc : List Fld) (r : List UInt8), r.length < k → choiceGo ch k acc r ≠ .error none
  | 0, _, _, h => by omega
  | k + 1, acc, r, h => by
    intro he
    have hm := mark_len 125 r
    rw [choiceGo] at he
    split at he
    · cases he
    · rename_i t heq
      rw [heq] at hm
      rcases thn_err he with he | ⟨f, u, hn, he⟩
      · exact field_err he
      · have := field_len hn
        have := hm.1
        exact choiceGo_tot ch k _ _ (by simp at *; omega) he
theorem choice_tot {K ch : Nat} {r : List UInt8} (h : r.length < K) : choiceL K ch r ≠ .error none := by
  intro he
  rcases thn_err he with he | ⟨n, u, hn, he⟩
  · exact (must_err he).1 rfl
  · have := must_len hn
    exact choiceGo_tot _ _ _ _ (by omega) he
theorem part_tot {K : Nat} {m : Msg} {ch : Nat} {r : List UInt8} (h : r.length < K) : partL K m ch r ≠ .error none := by
  intro he
  have h1 := key_len kwReserved r
  unfold partL at he
  split at he
  · rename_i t heq
    rw [heq] at h1
    rcases thn_err he with he | ⟨n, u, hn, he⟩
    · exact reserved_tot (by simp at h1; omega) he
    · cases he
  · rename_i t heq
    rw [heq] at h1
    have h2 := key_len kwOneof t
    split at he
    · rename_i t2 heq2
      rw [heq2] at h2
      rcases thn_err he with he | ⟨n, u, hn, he⟩
      · exact choice_tot (by simp at h1 h2; omega) he
      · cases he
    · rcases thn_err he with he | ⟨n, u, hn, he⟩
      · exact field_err he
      · cases he
theorem part_len {K : Nat} {m : Msg} {ch : Nat} {r u : List UInt8} {p : Msg × Nat} (h : partL K m ch r = .ok (p, u)) : u.length < r.length := by
  have h1 := key_len kwReserved r
  unfold partL at h
  split at h
  · rename_i t heq
    have h3 := key_len_lt (kw := kwReserved) (by decide) (r := r) (by rw [heq])
    rw [heq] at h3
    obtain ⟨l, u1, h4, h⟩ := thn_ok h
    have := reserved_len h4
    cases h
    simp at *
    omega
  · rename_i t heq
    rw [heq] at h1
    have h2 := key_len kwOneof t
    split at h
    · rename_i t2 heq2
      have h3 := key_len_lt (kw := kwOneof) (by decide) (r := t) (by rw [heq2])
      rw [heq2] at h3
      obtain ⟨l, u1, h4, h⟩ := thn_ok h
      have := choice_len h4
      cases h
      simp at *
      omega
    · rename_i t2 heq2
      rw [heq2] at h2
      have h5 := key_len kwRepeated t2
      obtain ⟨f, u1, h4, h⟩ := thn_ok h
      have := field_len h4
      cases h
      simp at *
      omega
theorem msgGo_tot (K : Nat) : ∀ (k : Nat) (m : Msg) (ch : Nat) (r : List UInt8), r.length < k → r.length < K → msgGo K k m ch r ≠ .error none
  | 0, _, _, _, h, _ => by omega
  | k + 1, m, ch, r, h, hK => by
    intro he
    have hm := mark_len 125 r
    rw [msgGo] at he
    split at he
    · cases he
    · rename_i t heq
      rw [heq] at hm
      have hm1 := hm.1
      simp only at hm1
      rcases thn_err he with he | ⟨p, u, hn, he⟩
      · exact part_tot (by omega) he
      · have := part_len hn
        split at he
        · cases he
        · exact msgGo_tot K k _ _ _ (by omega) (by omega) he
theorem msgGo_len (K : Nat) : ∀ (k : Nat) (m : Msg) (ch : Nat) (r : List UInt8) (x : Msg) (u : List UInt8), msgGo K k m ch r = .ok (x, u) → u.length ≤ r.length
  | 0, _, _, _, _, _, h => by cases h
  | k + 1, m, ch, r, x, u, h => by
    have hm := mark_len 125 r
    rw [msgGo] at h
    split at h
    · rename_i t heq
      rw [heq] at hm
      cases h
      exact hm.1
    · rename_i t heq
      rw [heq] at hm
      have hm1 := hm.1
      simp only at hm1
      obtain ⟨p, u1, h1, h⟩ := thn_ok h
      have := part_len h1
      split at h
      · cases h
      · have := msgGo_len K k _ _ _ _ _ h
        omega
theorem message_tot {K : Nat} {r : List UInt8} (h : r.length < K) : messageL K r ≠ .error none := by
  intro he
  rcases thn_err he with he | ⟨n, u, hn, he⟩
  · exact (name_err he).1 rfl
  · have := (name_len hn).1
    rcases thn_err he with he | ⟨_, u2, hn2, he⟩
    · exact (must_err he).1 rfl
    · have := must_len hn2
      exact msgGo_tot _ _ _ _ _ (by omega) (by omega) he
theorem message_len {K : Nat} {r u : List UInt8} {x : Msg} (h : messageL K r = .ok (x, u)) : u.length < r.length := by
  obtain ⟨n, u1, h1, h⟩ := thn_ok h
  obtain ⟨_, u2, h2, h⟩ := thn_ok h
  have := (name_len h1).1; have := must_len h2; have := msgGo_len _ _ _ _ _ _ _ h
  omega
theorem enumGo_tot : ∀ (k : Nat) (e : Enm) (r : List UInt8), r.length < k → enumGo k e r ≠ .error none
  | 0, _, _, h => by omega
  | k + 1, e, r, h => by
    intro he
    have hm := mark_len 125 r
    rw [enumGo] at he
    split at he
    · cases he
    · rename_i t heq
      rw [heq] at hm
      have hm1 := hm.1
      simp only at hm1
      rcases thn_err he with he | ⟨p, u, hn, he⟩
      · exact item_err he
      · have := item_len hn
        split at he
        · cases he
        · exact enumGo_tot k _ _ (by omega) he
theorem enumGo_len : ∀ (k : Nat) (e : Enm) (r : List UInt8) (x : Enm) (u : List UInt8), enumGo k e r = .ok (x, u) → u.length ≤ r.length
  | 0, _, _, _, _, h => by cases h
  | k + 1, e, r, x, u, h => by
    have hm := mark_len 125 r
    rw [enumGo] at h
    split at h
    · rename_i t heq
      rw [heq] at hm
      cases h
      exact hm.1
    · rename_i t heq
      rw [heq] at hm
      have hm1 := hm.1
      simp only at hm1
      obtain ⟨p, u1, h1, h⟩ := thn_ok h
      have := item_len h1
      split at h
      · cases h
      · have := enumGo_len k _ _ _ _ h
        omega
theorem enum_tot {K : Nat} {r : List UInt8} (h : r.length < K) : enumL K r ≠ .error none := by
  intro he
  rcases thn_err he with he | ⟨n, u, hn, he⟩
  · exact (name_err he).1 rfl
  · have := (name_len hn).1
    rcases thn_err he with he | ⟨_, u2, hn2, he⟩
    · exact (must_err he).1 rfl
    · have := must_len hn2
      exact enumGo_tot _ _ _ (by omega) he
theorem enum_len {K : Nat} {r u : List UInt8} {x : Enm} (h : enumL K r = .ok (x, u)) : u.length < r.length := by
  obtain ⟨n, u1, h1, h⟩ := thn_ok h
  obtain ⟨_, u2, h2, h⟩ := thn_ok h
  have := (name_len h1).1; have := must_len h2; have := enumGo_len _ _ _ _ _ h
  omega
theorem def_tot {K : Nat} {f : Fil} {r : List UInt8} (h : r.length < K) : defL K f r ≠ .error none := by
  intro he
  have h1 := key_len kwMessage r
  unfold defL at he
  split at he
  · rename_i t heq
    rw [heq] at h1
    rcases thn_err he with he | ⟨n, u, hn, he⟩
    · exact message_tot (by simp at h1; omega) he
    · cases he
  · rename_i t heq
    rw [heq] at h1
    have h2 := key_len kwEnum t
    split at he
    · rename_i t2 heq2
      rw [heq2] at h2
      rcases thn_err he with he | ⟨n, u, hn, he⟩
      · exact enum_tot (by simp at h1 h2; omega) he
      · cases he
    · cases he
theorem def_len {K : Nat} {f g : Fil} {r u : List UInt8} (h : defL K f r = .ok (g, u)) : u.length < r.length := by
  have h1 := key_len kwMessage r
  unfold defL at h
  split at h
  · rename_i t heq
    rw [heq] at h1
    obtain ⟨l, u1, h4, h⟩ := thn_ok h
    have := message_len h4
    cases h
    simp at *
    omega
  · rename_i t heq
    rw [heq] at h1
    have h2 := key_len kwEnum t
    split at h
    · rename_i t2 heq2
      rw [heq2] at h2
      obtain ⟨l, u1, h4, h⟩ := thn_ok h
      have := enum_len h4
      cases h
      simp at *
      omega
    · cases h
theorem allGo_tot (K : Nat) : ∀ (k : Nat) (f : Fil) (r : List UInt8), r.length < k → r.length < K → allGo K k f r ≠ .error none
  | 0, _, _, h, _ => by omega
  | k + 1, f, r, h, hK => by
    intro he
    have hs := skipL_len r
    rw [allGo] at he
    split at he
    · cases he
    · rcases thn_err he with he | ⟨g, u, hn, he⟩
      · exact def_tot (by omega) he
      · have := def_len hn
        split at he
        · cases he
        · exact allGo_tot K k _ _ (by omega) (by omega) he
theorem parse_tot (l : List UInt8) : parseL (l.length + 1) l ≠ .error none := allGo_tot _ _ _ _ (by omega) (by omega)

end Go.Proofs.YtenlijgnmhdopaaDoor
