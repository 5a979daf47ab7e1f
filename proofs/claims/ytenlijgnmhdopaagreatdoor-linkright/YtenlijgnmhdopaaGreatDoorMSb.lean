import Derived.Test.YtenlijgnmhdopaaGreatDoorSLen
import Derived.Test.YtenlijgnmhdopaaGreatDoorSPure
/- Enough rounds are enough; a text with notes behind its lines is the same file. Plain lists. -/
namespace Go.Proofs.YtenlijgnmhdopaaGreatDoor

theorem field_err {many : Bool} {ch : Nat} {r : List UInt8} : fieldL many ch r ≠ .error none := by
  intro h
  unfold fieldL at h
  rcases thn_err h with h | ⟨_, u1, _, h⟩
  · exact (name_err h).1 rfl
  rcases thn_err h with h | ⟨_, u2, _, h⟩
  · exact (name_err h).1 rfl
  rcases thn_err h with h | ⟨_, u3, _, h⟩
  · exact (must_err h).1 rfl
  rcases thn_err h with h | ⟨_, u4, _, h⟩
  · exact (num_err h).1 rfl
  rcases thn_err h with h | ⟨_, u5, _, h⟩
  · exact (must_err h).1 rfl
  cases h
theorem item_err {r : List UInt8} : itemL r ≠ .error none := by
  intro h
  unfold itemL at h
  rcases thn_err h with h | ⟨_, u1, _, h⟩
  · exact (name_err h).1 rfl
  rcases thn_err h with h | ⟨_, u2, _, h⟩
  · exact (must_err h).1 rfl
  split at h
  · rcases thn_err h with h | ⟨_, u3, _, h⟩
    · exact (num_err h).1 rfl
    rcases thn_err h with h | ⟨_, u4, _, h⟩
    · exact (must_err h).1 rfl
    cases h
  · rcases thn_err h with h | ⟨_, u3, _, h⟩
    · exact (num_err h).1 rfl
    rcases thn_err h with h | ⟨_, u4, _, h⟩
    · exact (must_err h).1 rfl
    cases h
theorem item_len {r u : List UInt8} {i : Itm} (h : itemL r = .ok (i, u)) : u.length < r.length := by
  unfold itemL at h
  obtain ⟨_, u1, h1, h⟩ := thn_ok h
  obtain ⟨_, u2, h2, h⟩ := thn_ok h
  have a1 := (name_len h1).1
  have a2 := must_len h2
  have hm := mark_len 45 u2
  split at h
  · rename_i t heq
    rw [heq] at hm
    obtain ⟨_, u3, h3, h⟩ := thn_ok h
    obtain ⟨_, u4, h4, h⟩ := thn_ok h
    cases h
    have := (num_len h3).1; have := must_len h4; have := hm.1
    simp at *
    omega
  · rename_i t heq
    rw [heq] at hm
    obtain ⟨_, u3, h3, h⟩ := thn_ok h
    obtain ⟨_, u4, h4, h⟩ := thn_ok h
    cases h
    have := (num_len h3).1; have := must_len h4; have := hm.1
    simp at *
    omega
theorem res_tot : ∀ (k : Nat) (acc : List Nat) (r : List UInt8), r.length < k → resL k acc r ≠ .error none
  | 0, _, _, h => by omega
  | k + 1, acc, r, h => by
    intro he
    have hm := mark_len 44 r
    rw [resL] at he
    split at he
    · rename_i t heq
      rw [heq] at hm
      rcases thn_err he with he | ⟨n, u, hn, he⟩
      · exact (num_err he).1 rfl
      · have := (num_len hn).1
        have := hm.1
        exact res_tot k _ _ (by simp at *; omega) he
    · rcases thn_err he with he | ⟨n, u, hn, he⟩
      · exact (must_err he).1 rfl
      · cases he
theorem reserved_tot {K : Nat} {r : List UInt8} (h : r.length < K) : reservedL K r ≠ .error none := by
  intro he
  rcases thn_err he with he | ⟨n, u, hn, he⟩
  · exact (num_err he).1 rfl
  · have := (num_len hn).1
    exact res_tot _ _ _ (by omega) he
theorem choiceGo_tot (ch : Nat) : ∀ (k : Nat) (acc : List Fld) (r : List UInt8), r.length < k → choiceGo ch k acc r ≠ .error none
  | 0, _, _, h => by omega
  | k + 1, acc, r, h => by
    intro he
    have hm := mark_len 125 r
    rw [choiceGo] at he
    split at he
    · cases he
    · rename_i t heq
      rw [heq] at hm
      rcases thn_err he with he | ⟨f, u, hn, he⟩
      · exact field_err he
      · have := field_len hn
        have := hm.1
        exact choiceGo_tot ch k _ _ (by simp at *; omega) he
theorem choice_tot {K ch : Nat} {r : List UInt8} (h : r.length < K) : choiceL K ch r ≠ .error none := by
  intro he
  rcases thn_err he with he | ⟨n, u, hn, he⟩
  · exact (must_err he).1 rfl
  · have := must_len hn
    exact choiceGo_tot _ _ _ _ (by omega) he
theorem part_tot {K : Nat} {m : Msg} {ch : Nat} {r : List UInt8} (h : r.length < K) : partL K m ch r ≠ .error none := by
  intro he
  have h1 := key_len kwReserved r
  unfold partL at he
  split at he
  · rename_i t heq
    rw [heq] at h1
    rcases thn_err he with he | ⟨n, u, hn, he⟩
    · exact reserved_tot (by simp at h1; omega) he
    · cases he
  · rename_i t heq
    rw [heq] at h1
    have h2 := key_len kwOneof t
    split at he
    · rename_i t2 heq2
      rw [heq2] at h2
      rcases thn_err he with he | ⟨n, u, hn, he⟩
      · exact choice_tot (by simp at h1 h2; omega) he
      · cases he
    · rcases thn_err he with he | ⟨n, u, hn, he⟩
      · exact field_err he
      · cases he
theorem part_len {K : Nat} {m : Msg} {ch : Nat} {r u : List UInt8} {p : Msg × Nat} (h : partL K m ch r = .ok (p, u)) : u.length < r.length := by
  have h1 := key_len kwReserved r
  unfold partL at h
  split at h
  · rename_i t heq
    have h3 := key_len_lt (kw := kwReserved) (by decide) (r := r) (by rw [heq])
    rw [heq] at h3
    obtain ⟨l, u1, h4, h⟩ := thn_ok h
    have := reserved_len h4
    cases h
    simp at *
    omega
  · rename_i t heq
    rw [heq] at h1
    have h2 := key_len kwOneof t
    split at h
    · rename_i t2 heq2
      have h3 := key_len_lt (kw := kwOneof) (by decide) (r := t) (by rw [heq2])
      rw [heq2] at h3
      obtain ⟨l, u1, h4, h⟩ := thn_ok h
      have := choice_len h4
      cases h
      simp at *
      omega
    · rename_i t2 heq2
      rw [heq2] at h2
      have h5 := key_len kwRepeated t2
      obtain ⟨f, u1, h4, h⟩ := thn_ok h
      have := field_len h4
      cases h
      simp at *
      omega
theorem msgGo_tot (K : Nat) : ∀ (k : Nat) (m : Msg) (ch : Nat) (r : List UInt8), r.length < k → r.length < K → msgGo K k m ch r ≠ .error none
  | 0, _, _, _, h, _ => by omega
  | k + 1, m, ch, r, h, hK => by
    intro he
    have hm := mark_len 125 r
    rw [msgGo] at he
    split at he
    · cases he
    · rename_i t heq
      rw [heq] at hm
      have hm1 := hm.1
      simp only at hm1
      rcases thn_err he with he | ⟨p, u, hn, he⟩
      · exact part_tot (by omega) he
      · have := part_len hn
        split at he
        · cases he
        · exact msgGo_tot K k _ _ _ (by omega) (by omega) he
theorem msgGo_len (K : Nat) : ∀ (k : Nat) (m : Msg) (ch : Nat) (r : List UInt8) (x : Msg) (u : List UInt8), msgGo K k m ch r = .ok (x, u) → u.length ≤ r.length
  | 0, _, _, _, _, _, h => by cases h
  | k + 1, m, ch, r, x, u, h => by
    have hm := mark_len 125 r
    rw [msgGo] at h
    split at h
    · rename_i t heq
      rw [heq] at hm
      cases h
      exact hm.1
    · rename_i t heq
      rw [heq] at hm
      have hm1 := hm.1
      simp only at hm1
      obtain ⟨p, u1, h1, h⟩ := thn_ok h
      have := part_len h1
      split at h
      · cases h
      · have := msgGo_len K k _ _ _ _ _ h
        omega
theorem message_tot {K : Nat} {r : List UInt8} (h : r.length < K) : messageL K r ≠ .error none := by
  intro he
  rcases thn_err he with he | ⟨n, u, hn, he⟩
  · exact (name_err he).1 rfl
  · have := (name_len hn).1
    rcases thn_err he with he | ⟨_, u2, hn2, he⟩
    · exact (must_err he).1 rfl
    · have := must_len hn2
      exact msgGo_tot _ _ _ _ _ (by omega) (by omega) he
theorem message_len {K : Nat} {r u : List UInt8} {x : Msg} (h : messageL K r = .ok (x, u)) : u.length < r.length := by
  obtain ⟨n, u1, h1, h⟩ := thn_ok h
  obtain ⟨_, u2, h2, h⟩ := thn_ok h
  have := (name_len h1).1; have := must_len h2; have := msgGo_len _ _ _ _ _ _ _ h
  omega
theorem enumGo_tot : ∀ (k : Nat) (e : Enm) (r : List UInt8), r.length < k → enumGo k e r ≠ .error none
  | 0, _, _, h => by omega
  | k + 1, e, r, h => by
    intro he
    have hm := mark_len 125 r
    rw [enumGo] at he
    split at he
    · cases he
    · rename_i t heq
      rw [heq] at hm
      have hm1 := hm.1
      simp only at hm1
      rcases thn_err he with he | ⟨p, u, hn, he⟩
      · exact item_err he
      · have := item_len hn
        split at he
        · cases he
        · exact enumGo_tot k _ _ (by omega) he
theorem enumGo_len : ∀ (k : Nat) (e : Enm) (r : List UInt8) (x : Enm) (u : List UInt8), enumGo k e r = .ok (x, u) → u.length ≤ r.length
  | 0, _, _, _, _, h => by cases h
  | k + 1, e, r, x, u, h => by
    have hm := mark_len 125 r
    rw [enumGo] at h
    split at h
    · rename_i t heq
      rw [heq] at hm
      cases h
      exact hm.1
    · rename_i t heq
      rw [heq] at hm
      have hm1 := hm.1
      simp only at hm1
      obtain ⟨p, u1, h1, h⟩ := thn_ok h
      have := item_len h1
      split at h
      · cases h
      · have := enumGo_len k _ _ _ _ h
        omega
theorem enum_tot {K : Nat} {r : List UInt8} (h : r.length < K) : enumL K r ≠ .error none := by
  intro he
  rcases thn_err he with he | ⟨n, u, hn, he⟩
  · exact (name_err he).1 rfl
  · have := (name_len hn).1
    rcases thn_err he with he | ⟨_, u2, hn2, he⟩
    · exact (must_err he).1 rfl
    · have := must_len hn2
      exact enumGo_tot _ _ _ (by omega) he
theorem enum_len {K : Nat} {r u : List UInt8} {x : Enm} (h : enumL K r = .ok (x, u)) : u.length < r.length := by
  obtain ⟨n, u1, h1, h⟩ := thn_ok h
  obtain ⟨_, u2, h2, h⟩ := thn_ok h
  have := (name_len h1).1; have := must_len h2; have := enumGo_len _ _ _ _ _ h
  omega
theorem def_tot {K : Nat} {f : Fil} {r : List UInt8} (h : r.length < K) : defL K f r ≠ .error none := by
  intro he
  have h1 := key_len kwMessage r
  unfold defL at he
  split at he
  · rename_i t heq
    rw [heq] at h1
    rcases thn_err he with he | ⟨n, u, hn, he⟩
    · exact message_tot (by simp at h1; omega) he
    · cases he
  · rename_i t heq
    rw [heq] at h1
    have h2 := key_len kwEnum t
    split at he
    · rename_i t2 heq2
      rw [heq2] at h2
      rcases thn_err he with he | ⟨n, u, hn, he⟩
      · exact enum_tot (by simp at h1 h2; omega) he
      · cases he
    · cases he
theorem def_len {K : Nat} {f g : Fil} {r u : List UInt8} (h : defL K f r = .ok (g, u)) : u.length < r.length := by
  have h1 := key_len kwMessage r
  unfold defL at h
  split at h
  · rename_i t heq
    rw [heq] at h1
    obtain ⟨l, u1, h4, h⟩ := thn_ok h
    have := message_len h4
    cases h
    simp at *
    omega
  · rename_i t heq
    rw [heq] at h1
    have h2 := key_len kwEnum t
    split at h
    · rename_i t2 heq2
      rw [heq2] at h2
      obtain ⟨l, u1, h4, h⟩ := thn_ok h
      have := enum_len h4
      cases h
      simp at *
      omega
    · cases h
theorem allGo_tot (K : Nat) : ∀ (k : Nat) (f : Fil) (r : List UInt8), r.length < k → r.length < K → allGo K k f r ≠ .error none
  | 0, _, _, h, _ => by omega
  | k + 1, f, r, h, hK => by
    intro he
    have hs := skipL_len r
    rw [allGo] at he
    split at he
    · cases he
    · rcases thn_err he with he | ⟨g, u, hn, he⟩
      · exact def_tot (by omega) he
      · have := def_len hn
        split at he
        · cases he
        · exact allGo_tot K k _ _ (by omega) (by omega) he
theorem parse_tot (l : List UInt8) : parseL (l.length + 1) l ≠ .error none := allGo_tot _ _ _ _ (by omega) (by omega)

end Go.Proofs.YtenlijgnmhdopaaGreatDoor

/- Errors have numbers; what is parsed is small. Plain lists. -/
namespace Go.Proofs.YtenlijgnmhdopaaGreatDoor

/-- An error's number is not 0. -/
def Pos {α : Type} (x : R α) : Prop := ∀ c t, x = .error (some (c, t)) → c ≠ 0
theorem Pos.thn {α β : Type} {x : R α} {f : α → List UInt8 → R β} (h : Pos x) (hf : ∀ a u, Pos (f a u)) : Pos (R.thn x f) := by
  intro c t he
  rcases thn_err he with he | ⟨a, u, _, he⟩
  · exact h c t he
  · exact hf a u c t he
theorem Pos.on {α β : Type} {x : R α} {f : α → List UInt8 → R β} (h : Pos x) (hf : ∀ a u, Pos (f a u)) {c : Nat} {t : List UInt8} (he : R.thn x f = .error (some (c, t))) : c ≠ 0 := h.thn hf c t he
theorem Pos.ok {α : Type} (p : α × List UInt8) : Pos (.ok p) := fun _ _ h => by cases h
theorem name_pos (r : List UInt8) : Pos (nameL r) := fun c t h => ((name_err h).2 c t rfl).1
theorem must_pos (c : UInt8) (r : List UInt8) : Pos (mustL c r) := fun a t h => ((must_err h).2 a t rfl).1
theorem num_pos (m : Nat) (r : List UInt8) : Pos (numL m r) := fun a t h => ((num_err h).2 a t rfl).1
theorem field_pos (many : Bool) (ch : Nat) (r : List UInt8) : Pos (fieldL many ch r) :=
  (name_pos r).thn fun _ _ => (name_pos _).thn fun _ _ => (must_pos _ _).thn fun _ _ => (num_pos _ _).thn fun _ _ => (must_pos _ _).thn fun _ _ => Pos.ok _
theorem res_pos : ∀ (k : Nat) (acc : List Nat) (r : List UInt8), Pos (resL k acc r)
  | 0, _, _ => fun _ _ h => by cases h
  | k + 1, acc, r => by
    intro c t h
    rw [resL] at h
    split at h
    · exact Pos.on (num_pos mostN _) (fun _ _ => res_pos k _ _) h
    · exact Pos.on (must_pos 59 _) (fun _ _ => Pos.ok _) h
theorem choiceGo_pos (ch : Nat) : ∀ (k : Nat) (acc : List Fld) (r : List UInt8), Pos (choiceGo ch k acc r)
  | 0, _, _ => fun _ _ h => by cases h
  | k + 1, acc, r => by
    intro c t h
    rw [choiceGo] at h
    split at h
    · cases h
    · exact Pos.on (field_pos false ch _) (fun _ _ => choiceGo_pos ch k _ _) h
theorem reserved_pos (K : Nat) (r : List UInt8) : Pos (reservedL K r) := (num_pos mostN r).thn fun n u => res_pos K [n] u
theorem choice_pos (K ch : Nat) (r : List UInt8) : Pos (choiceL K ch r) := (must_pos 123 r).thn fun _ u => choiceGo_pos ch K [] u
theorem part_pos (K : Nat) (m : Msg) (ch : Nat) (r : List UInt8) : Pos (partL K m ch r) := by
  intro c t h
  unfold partL at h
  split at h
  · exact Pos.on (reserved_pos K _) (fun _ _ => Pos.ok _) h
  · split at h
    · exact Pos.on (choice_pos K (ch + 1) _) (fun _ _ => Pos.ok _) h
    · exact Pos.on (field_pos _ 0 _) (fun _ _ => Pos.ok _) h
theorem msgGo_pos (K : Nat) : ∀ (k : Nat) (m : Msg) (ch : Nat) (r : List UInt8), Pos (msgGo K k m ch r)
  | 0, _, _, _ => fun _ _ h => by cases h
  | k + 1, m, ch, r => by
    intro c t h
    rw [msgGo] at h
    split at h
    · cases h
    · refine ((part_pos K m ch _).thn (f := fun p u => if 16 < p.1.fields.length ∨ 16 < p.1.barred.length then .error (some (5, u)) else msgGo K k p.1 p.2 u) fun p u => ?_) c t h
      intro c t h
      split at h
      · cases h; decide
      · exact msgGo_pos K k _ _ _ c t h
theorem message_pos (K : Nat) (r : List UInt8) : Pos (messageL K r) := (name_pos r).thn fun _ _ => (must_pos _ _).thn fun _ _ => msgGo_pos _ _ _ _ _
theorem item_pos (r : List UInt8) : Pos (itemL r) := by
  refine (name_pos r).thn fun nm _ => (must_pos _ _).thn fun _ u => ?_
  intro c t h
  split at h
  · exact Pos.on (num_pos 2147483648 _) (fun _ _ => (must_pos _ _).thn fun _ _ => Pos.ok _) h
  · exact Pos.on (num_pos 2147483647 _) (fun _ _ => (must_pos _ _).thn fun _ _ => Pos.ok _) h
theorem enumGo_pos : ∀ (k : Nat) (e : Enm) (r : List UInt8), Pos (enumGo k e r)
  | 0, _, _ => fun _ _ h => by cases h
  | k + 1, e, r => by
    intro c t h
    rw [enumGo] at h
    split at h
    · cases h
    · refine ((item_pos _).thn (f := fun i u => if 16 < (e.items ++ [i]).length then .error (some (5, u)) else enumGo k ⟨e.name, e.items ++ [i]⟩ u) fun p u => ?_) c t h
      intro c t h
      split at h
      · cases h; decide
      · exact enumGo_pos k _ _ c t h
theorem enum_pos (K : Nat) (r : List UInt8) : Pos (enumL K r) := (name_pos r).thn fun _ _ => (must_pos _ _).thn fun _ _ => enumGo_pos _ _ _
theorem def_pos (K : Nat) (f : Fil) (r : List UInt8) : Pos (defL K f r) := by
  intro c t h
  unfold defL at h
  split at h
  · exact Pos.on (message_pos K _) (fun _ _ => Pos.ok _) h
  · split at h
    · exact Pos.on (enum_pos K _) (fun _ _ => Pos.ok _) h
    · cases h; decide
theorem allGo_pos (K : Nat) : ∀ (k : Nat) (f : Fil) (r : List UInt8), Pos (allGo K k f r)
  | 0, _, _ => fun _ _ h => by cases h
  | k + 1, f, r => by
    intro c t h
    rw [allGo] at h
    split at h
    · cases h
    · refine ((def_pos K f _).thn (f := fun g u => if 10 < g.msgs.length + g.enums.length then .error (some (5, u)) else allGo K k g u) fun p u => ?_) c t h
      intro c t h
      split at h
      · cases h; decide
      · exact allGo_pos K k _ _ c t h
theorem parse_pos (K : Nat) (l : List UInt8) : Pos (parseL K l) := allGo_pos _ _ _ _

/-- What is parsed is small. -/
theorem msgGo_small (K : Nat) : ∀ (k : Nat) (m : Msg) (ch : Nat) (r : List UInt8) (x : Msg) (u : List UInt8), m.fields.length ≤ 16 → m.barred.length ≤ 16 → msgGo K k m ch r = .ok (x, u) → x.fields.length ≤ 16 ∧ x.barred.length ≤ 16
  | 0, _, _, _, _, _, _, _, h => by cases h
  | k + 1, m, ch, r, x, u, h1, h2, h => by
    rw [msgGo] at h
    split at h
    · cases h; exact ⟨h1, h2⟩
    · obtain ⟨p, u1, _, h⟩ := thn_ok h
      split at h
      · cases h
      · exact msgGo_small K k _ _ _ _ _ (by omega) (by omega) h
theorem message_small {K : Nat} {r u : List UInt8} {x : Msg} (h : messageL K r = .ok (x, u)) : x.fields.length ≤ 16 ∧ x.barred.length ≤ 16 := by
  obtain ⟨n, u1, h1, h⟩ := thn_ok h
  obtain ⟨_, u2, h2, h⟩ := thn_ok h
  exact msgGo_small _ _ _ _ _ _ _ (by simp) (by simp) h
theorem enumGo_small : ∀ (k : Nat) (e : Enm) (r : List UInt8) (x : Enm) (u : List UInt8), e.items.length ≤ 16 → enumGo k e r = .ok (x, u) → x.items.length ≤ 16
  | 0, _, _, _, _, _, h => by cases h
  | k + 1, e, r, x, u, h1, h => by
    rw [enumGo] at h
    split at h
    · cases h; exact h1
    · obtain ⟨p, u1, _, h⟩ := thn_ok h
      split at h
      · cases h
      · exact enumGo_small k _ _ _ _ (by simp at *; omega) h
theorem enum_small {K : Nat} {r u : List UInt8} {x : Enm} (h : enumL K r = .ok (x, u)) : x.items.length ≤ 16 := by
  obtain ⟨n, u1, h1, h⟩ := thn_ok h
  obtain ⟨_, u2, h2, h⟩ := thn_ok h
  exact enumGo_small _ _ _ _ _ (by simp) h
def SmallF (f : Fil) : Prop := (∀ m ∈ f.msgs, m.fields.length ≤ 16 ∧ m.barred.length ≤ 16) ∧ ∀ e ∈ f.enums, e.items.length ≤ 16
theorem def_small {K : Nat} {f g : Fil} {r u : List UInt8} (hf : SmallF f) (h : defL K f r = .ok (g, u)) : SmallF g := by
  unfold defL at h
  split at h
  · obtain ⟨m, u1, h1, h⟩ := thn_ok h
    cases h
    refine ⟨?_, hf.2⟩
    intro x hx
    rw [List.mem_append, List.mem_singleton] at hx
    rcases hx with hx | rfl
    · exact hf.1 x hx
    · exact message_small h1
  · split at h
    · obtain ⟨m, u1, h1, h⟩ := thn_ok h
      cases h
      refine ⟨hf.1, ?_⟩
      intro x hx
      rw [List.mem_append, List.mem_singleton] at hx
      rcases hx with hx | rfl
      · exact hf.2 x hx
      · exact enum_small h1
    · cases h
theorem allGo_small (K : Nat) : ∀ (k : Nat) (f : Fil) (r : List UInt8) (g : Fil) (u : List UInt8), SmallF f → allGo K k f r = .ok (g, u) → SmallF g
  | 0, _, _, _, _, _, h => by cases h
  | k + 1, f, r, g, u, hf, h => by
    rw [allGo] at h
    split at h
    · cases h; exact hf
    · obtain ⟨p, u1, h1, h⟩ := thn_ok h
      split at h
      · cases h
      · exact allGo_small K k _ _ _ _ (def_small hf h1) h
theorem parse_small {K : Nat} {l u : List UInt8} {f : Fil} (h : parseL K l = .ok (f, u)) : SmallF f := allGo_small _ _ _ _ _ _ ⟨fun _ hm => (List.not_mem_nil hm).elim, fun _ hm => (List.not_mem_nil hm).elim⟩ h

end Go.Proofs.YtenlijgnmhdopaaGreatDoor

/- Plain lists: choices numbered as they come; types that would be read as other words. -/
namespace Go.Proofs.YtenlijgnmhdopaaGreatDoor

def setC (c : Nat) (f : Fld) : Fld := ⟨f.name, f.number, f.kind, f.type, f.many, c⟩
/-- Choices numbered as they come. -/
def numGo : Nat → Nat → List Fld → List Fld
  | _, _, [] => []
  | last, k, x :: r =>
    if x.choice = 0 then setC 0 x :: numGo 0 k r
    else if x.choice = last then setC k x :: numGo x.choice k r
    else setC (k + 1) x :: numGo x.choice (k + 1) r
/-- A type that would be read as another word. -/
def clashF (f : Fld) : Bool := decide (f.type = kwRepeated) || (decide (f.type = kwReserved) || decide (f.type = kwOneof))
def clashL (ms : List Msg) : Bool := ms.any fun m => m.fields.any clashF

end Go.Proofs.YtenlijgnmhdopaaGreatDoor

