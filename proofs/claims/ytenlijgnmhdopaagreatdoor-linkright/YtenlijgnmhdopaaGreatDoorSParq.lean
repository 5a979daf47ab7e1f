import Derived.Test.YtenlijgnmhdopaaGreatDoorSRndq
import Derived.Lib.ItoaLen
/- Plain lists: what is parsed is such that its print is read again; and how long its print is. -/
namespace Go.Proofs.YtenlijgnmhdopaaGreatDoor

theorem tw_take {p : UInt8 → Bool} : ∀ (l : List UInt8), (l.take (l.takeWhile p).length).takeWhile p = l.take (l.takeWhile p).length
  | [] => rfl
  | c :: r => by
    by_cases h : p c = true
    · rw [List.takeWhile_cons_of_pos h, List.length_cons, List.take_succ_cons, List.takeWhile_cons_of_pos h, tw_take r]
    · rw [List.takeWhile_cons_of_neg h]; rfl
theorem word_le (l : List UInt8) : wordLenL l ≤ l.length := by
  cases l with
  | nil => simp [wordLenL]
  | cons c r =>
    rw [wordLenL]
    split
    · have := (List.takeWhile_prefix (l := r) moreB).length_le; simp; omega
    · simp
theorem word_take (l : List UInt8) : wordLenL (l.take (wordLenL l)) = wordLenL l := by
  cases l with
  | nil => rfl
  | cons c r =>
    rw [wordLenL]
    by_cases h : letB c = true
    · rw [if_pos h, Nat.add_comm, List.take_succ_cons, wordLenL, if_pos h, tw_take]
      have := (List.takeWhile_prefix (l := r) moreB).length_le
      rw [List.length_take]; omega
    · rw [if_neg h]; rfl
theorem name_good {r n u : List UInt8} (h : nameL r = .ok (n, u)) : NameOk n := by
  unfold nameL at h
  split at h
  · cases h
  · rename_i h0
    split at h
    · cases h
    · rename_i h16
      simp at h
      obtain ⟨rfl, _⟩ := h
      have hl : ((skipL r).take (wordLenL (skipL r))).length = wordLenL (skipL r) := by rw [List.length_take]; have := word_le (skipL r); omega
      refine ⟨?_, by omega, by rw [word_take, hl]⟩
      intro e
      rw [e] at hl
      exact h0 hl.symm
theorem num_good {most n : Nat} {r u : List UInt8} (h : numL most r = .ok (n, u)) : n ≤ most := by
  unfold numL at h
  split at h
  · cases h
  · split at h
    · cases h
    · rename_i h1
      simp at h
      obtain ⟨rfl, _⟩ := h
      have := not_or.1 h1
      omega
theorem thnOk {α β : Type} {x : R α} {f : α → List UInt8 → R β} {b : β} {v : List UInt8} (h : R.thn x f = .ok (b, v)) : ∃ a u, x = .ok (a, u) ∧ f a u = .ok (b, v) := by
  unfold R.thn at h
  split at h
  · cases h
  · exact ⟨_, _, rfl, h⟩

theorem type_good {ty nm : List UInt8} (h : NameOk ty) (n : Nat) (many : Bool) (ch : Nat) : wordP ⟨nm, n, (typeL ty).1, (typeL ty).2, many, ch⟩ = ty := by
  have h0 : ([] : List UInt8) ≠ ty := fun e => h.1 e.symm
  unfold typeL wordsL
  simp only [typeFrom]
  repeat' split
  all_goals (first | (rename_i e; exact absurd e h0) | (rename_i e; subst e; rfl) | rfl)
theorem field_good {many : Bool} {ch : Nat} {r u : List UInt8} {f : Fld} (h : fieldL many ch r = .ok (f, u)) (hc : ch ≠ 0 → many = false) : FldOk f ∧ TypeOk f ∧ f.choice = ch := by
  unfold fieldL at h
  obtain ⟨ty, u1, h1, h⟩ := thnOk h
  obtain ⟨nm, u2, h2, h⟩ := thnOk h
  obtain ⟨_, u3, _, h⟩ := thnOk h
  obtain ⟨n, u4, h4, h⟩ := thnOk h
  obtain ⟨_, u5, _, h⟩ := thnOk h
  simp only [Except.ok.injEq, Prod.mk.injEq] at h
  obtain ⟨rfl, _⟩ := h
  have e := type_good (nm := nm) (name_good h1) n many ch
  refine ⟨⟨name_good h2, by rw [e]; exact name_good h1, num_good h4, hc⟩, ?_, rfl⟩
  unfold TypeOk
  rw [e]
theorem res_good : ∀ (k : Nat) (acc : List Nat) (r u : List UInt8) (l : List Nat), (∀ n ∈ acc, n ≤ mostN) → resL k acc r = .ok (l, u) → ∀ n ∈ l, n ≤ mostN
  | 0, _, _, _, _, _, h => by cases h
  | k + 1, acc, r, u, l, ha, h => by
    rw [resL] at h
    split at h
    · obtain ⟨n, u1, h1, h⟩ := thnOk h
      refine res_good k _ _ _ _ ?_ h
      intro x hx
      rcases List.mem_append.1 hx with hx | hx
      · exact ha x hx
      · simp at hx; subst hx; exact num_good h1
    · obtain ⟨_, u1, _, h⟩ := thnOk h
      simp at h
      obtain ⟨rfl, _⟩ := h
      exact ha
theorem reserved_good {K : Nat} {r u : List UInt8} {l : List Nat} (h : reservedL K r = .ok (l, u)) : ∀ n ∈ l, n ≤ mostN := by
  unfold reservedL at h
  obtain ⟨n, u1, h1, h⟩ := thnOk h
  exact res_good _ _ _ _ _ (by intro x hx; simp at hx; subst hx; exact num_good h1) h
theorem choiceGo_good (ch : Nat) : ∀ (k : Nat) (acc : List Fld) (r u : List UInt8) (l : List Fld), (∀ f ∈ acc, FldOk f ∧ TypeOk f) → choiceGo ch k acc r = .ok (l, u) → ∀ f ∈ l, FldOk f ∧ TypeOk f
  | 0, _, _, _, _, _, h => by cases h
  | k + 1, acc, r, u, l, ha, h => by
    rw [choiceGo] at h
    split at h
    · simp at h
      obtain ⟨rfl, _⟩ := h
      exact ha
    · obtain ⟨f, u1, h1, h⟩ := thnOk h
      refine choiceGo_good ch k _ _ _ _ ?_ h
      intro x hx
      rcases List.mem_append.1 hx with hx | hx
      · exact ha x hx
      · simp at hx; subst hx; have := field_good h1 (fun _ => rfl); exact ⟨this.1, this.2.1⟩
def MsgP (m : Msg) : Prop := NameOk m.name ∧ (∀ f ∈ m.fields, FldOk f ∧ TypeOk f) ∧ ∀ n ∈ m.barred, n ≤ mostN
theorem part_good {K : Nat} {m : Msg} {ch : Nat} {r u : List UInt8} {p : Msg × Nat} (hm : MsgP m) (h : partL K m ch r = .ok (p, u)) : MsgP p.1 := by
  obtain ⟨h1, h2, h3⟩ := hm
  unfold partL at h
  split at h
  · obtain ⟨l, u1, hl, h⟩ := thnOk h
    simp only [Except.ok.injEq, Prod.mk.injEq] at h
    obtain ⟨rfl, _⟩ := h
    refine ⟨h1, h2, ?_⟩
    intro n hn
    rcases List.mem_append.1 hn with hn | hn
    · exact h3 n hn
    · exact reserved_good hl n hn
  · split at h
    · obtain ⟨l, u1, hl, h⟩ := thnOk h
      simp only [Except.ok.injEq, Prod.mk.injEq] at h
      obtain ⟨rfl, _⟩ := h
      refine ⟨h1, ?_, h3⟩
      intro f hf
      rcases List.mem_append.1 hf with hf | hf
      · exact h2 f hf
      · unfold choiceL at hl
        obtain ⟨_, u2, _, hl⟩ := thnOk hl
        exact choiceGo_good _ _ _ _ _ _ (fun _ h => (List.not_mem_nil h).elim) hl f hf
    · obtain ⟨x, u1, hl, h⟩ := thnOk h
      simp only [Except.ok.injEq, Prod.mk.injEq] at h
      obtain ⟨rfl, _⟩ := h
      refine ⟨h1, ?_, h3⟩
      intro f hf
      rcases List.mem_append.1 hf with hf | hf
      · exact h2 f hf
      · simp at hf; subst hf
        have := field_good hl (fun h => absurd rfl h)
        exact ⟨this.1, this.2.1⟩
theorem msgGo_good (K : Nat) : ∀ (k : Nat) (m : Msg) (ch : Nat) (r u : List UInt8) (x : Msg), MsgP m → msgGo K k m ch r = .ok (x, u) → MsgP x
  | 0, _, _, _, _, _, _, h => by cases h
  | k + 1, m, ch, r, u, x, hm, h => by
    rw [msgGo] at h
    split at h
    · simp only [Except.ok.injEq, Prod.mk.injEq] at h
      obtain ⟨rfl, _⟩ := h
      exact hm
    · obtain ⟨p, u1, h1, h⟩ := thnOk h
      split at h
      · cases h
      · exact msgGo_good K k _ _ _ _ _ (part_good hm h1) h
theorem message_good {K : Nat} {r u : List UInt8} {x : Msg} (h : messageL K r = .ok (x, u)) : MsgP x := by
  unfold messageL at h
  obtain ⟨nm, u1, h1, h⟩ := thnOk h
  obtain ⟨_, u2, _, h⟩ := thnOk h
  exact msgGo_good _ _ _ _ _ _ _ ⟨name_good h1, fun _ h => (List.not_mem_nil h).elim, fun _ h => (List.not_mem_nil h).elim⟩ h
theorem item_good {r u : List UInt8} {i : Itm} (h : itemL r = .ok (i, u)) : ItmOk i := by
  unfold itemL at h
  obtain ⟨nm, u1, h1, h⟩ := thnOk h
  obtain ⟨_, u2, _, h⟩ := thnOk h
  split at h
  · obtain ⟨n, u3, h3, h⟩ := thnOk h
    obtain ⟨_, u4, _, h⟩ := thnOk h
    simp only [Except.ok.injEq, Prod.mk.injEq] at h
    obtain ⟨rfl, _⟩ := h
    have := num_good h3
    exact ⟨name_good h1, by simp only; omega, by simp only; omega⟩
  · obtain ⟨n, u3, h3, h⟩ := thnOk h
    obtain ⟨_, u4, _, h⟩ := thnOk h
    simp only [Except.ok.injEq, Prod.mk.injEq] at h
    obtain ⟨rfl, _⟩ := h
    have := num_good h3
    exact ⟨name_good h1, by simp only; omega, by simp only; omega⟩
def EnmP (e : Enm) : Prop := NameOk e.name ∧ ∀ i ∈ e.items, ItmOk i
theorem enumGo_good : ∀ (k : Nat) (e : Enm) (r u : List UInt8) (x : Enm), EnmP e → enumGo k e r = .ok (x, u) → EnmP x
  | 0, _, _, _, _, _, h => by cases h
  | k + 1, e, r, u, x, he, h => by
    rw [enumGo] at h
    split at h
    · simp only [Except.ok.injEq, Prod.mk.injEq] at h
      obtain ⟨rfl, _⟩ := h
      exact he
    · obtain ⟨i, u1, h1, h⟩ := thnOk h
      split at h
      · cases h
      · refine enumGo_good k ⟨e.name, e.items ++ [i]⟩ _ _ _ ⟨he.1, ?_⟩ h
        intro j hj
        rcases List.mem_append.1 hj with hj | hj
        · exact he.2 j hj
        · simp at hj; subst hj; exact item_good h1
theorem enum_good {K : Nat} {r u : List UInt8} {x : Enm} (h : enumL K r = .ok (x, u)) : EnmP x := by
  unfold enumL at h
  obtain ⟨nm, u1, h1, h⟩ := thnOk h
  obtain ⟨_, u2, _, h⟩ := thnOk h
  exact enumGo_good _ _ _ _ _ ⟨name_good h1, fun _ h => (List.not_mem_nil h).elim⟩ h
def FilP (f : Fil) : Prop := (∀ m ∈ f.msgs, MsgP m) ∧ ∀ e ∈ f.enums, EnmP e
theorem def_good {K : Nat} {f g : Fil} {r u : List UInt8} (hf : FilP f) (h : defL K f r = .ok (g, u)) : FilP g := by
  unfold defL at h
  split at h
  · obtain ⟨m, u1, h1, h⟩ := thnOk h
    simp only [Except.ok.injEq, Prod.mk.injEq] at h
    obtain ⟨rfl, _⟩ := h
    refine ⟨?_, hf.2⟩
    intro x hx
    rcases List.mem_append.1 hx with hx | hx
    · exact hf.1 x hx
    · simp at hx; subst hx; exact message_good h1
  · split at h
    · obtain ⟨m, u1, h1, h⟩ := thnOk h
      simp only [Except.ok.injEq, Prod.mk.injEq] at h
      obtain ⟨rfl, _⟩ := h
      refine ⟨hf.1, ?_⟩
      intro x hx
      rcases List.mem_append.1 hx with hx | hx
      · exact hf.2 x hx
      · simp at hx; subst hx; exact enum_good h1
    · cases h
theorem allGo_good (K : Nat) : ∀ (k : Nat) (f : Fil) (r u : List UInt8) (g : Fil), FilP f → allGo K k f r = .ok (g, u) → FilP g
  | 0, _, _, _, _, _, h => by cases h
  | k + 1, f, r, u, g, hf, h => by
    rw [allGo] at h
    split at h
    · simp only [Except.ok.injEq, Prod.mk.injEq] at h
      obtain ⟨rfl, _⟩ := h
      exact hf
    · obtain ⟨p, u1, h1, h⟩ := thnOk h
      split at h
      · cases h
      · exact allGo_good K k _ _ _ _ (def_good hf h1) h
theorem parse_good {K : Nat} {l u : List UInt8} {f : Fil} (h : parseL K l = .ok (f, u)) : FilP f := allGo_good _ _ _ _ _ _ ⟨fun _ h => (List.not_mem_nil h).elim, fun _ h => (List.not_mem_nil h).elim⟩ h

theorem noKw_of {f : Fld} (h : clashF f = false) : NoKw f := by
  intro _ _
  simp only [clashF, Bool.or_eq_false_iff, decide_eq_false_iff_not] at h
  by_cases hk : 1 ≤ f.kind ∧ f.kind ≤ 9 ∧ f.kind ≠ 5
  · unfold wordP
    rw [if_pos hk]
    have : ∀ k, 1 ≤ k ∧ k ≤ 9 ∧ k ≠ 5 → wordsL.getD (k - 1) [] ≠ kwRepeated ∧ wordsL.getD (k - 1) [] ≠ kwReserved ∧ wordsL.getD (k - 1) [] ≠ kwOneof := by
      intro k hk
      obtain ⟨h1, h2, h3⟩ := hk
      obtain ⟨j, rfl⟩ : ∃ j, k = j + 1 := ⟨k - 1, by omega⟩
      have hj : j < 9 := by omega
      clear h1 h2 h3
      revert hj
      revert j
      decide
    exact this _ hk
  · unfold wordP
    rw [if_neg hk]
    exact h
theorem msg_ok {m : Msg} (h : MsgP m) (hs : m.fields.length ≤ 16 ∧ m.barred.length ≤ 16) (hc : ∀ f ∈ m.fields, clashF f = false) : MsgOk m :=
  ⟨h.1, fun f hf => ⟨(h.2.1 f hf).1, noKw_of (hc f hf)⟩, h.2.2, hs.1, hs.2⟩

/-- How long a print is. -/
theorem flat_le {α : Type} (g : α → List UInt8) (b : Nat) : ∀ (l : List α), (∀ x ∈ l, (g x).length ≤ b) → ((l.map g).flatten).length ≤ l.length * b
  | [], _ => by simp
  | x :: l, h => by
    have h1 := h x (by simp)
    have h2 := flat_le g b l (fun y hy => h y (by simp [hy]))
    rw [List.map_cons, List.flatten_cons, List.length_append, List.length_cons, Nat.succ_mul]
    omega
theorem item_le {i : Itm} (h : ItmOk i) : (itemP i).length ≤ 50 := by
  have := Lib.itoa_length_le i.value (by have := h.2.1; omega) (by have := h.2.2; omega)
  have := h.1.2.1
  simp [itemP, lineP]; omega
theorem enum_le {e : Enm} (h : EnmOk e) : (enumP e).length ≤ 1000 := by
  have h1 := flat_le itemP 50 e.items fun i hi => item_le (h.2.1 i hi)
  have h2 := h.2.2
  have h3 := h.1.2.1
  simp only [enumP, List.length_append, lineP, List.flatten_cons, List.flatten_nil, List.length_nil, List.length_cons, enumHead, braceP]
  omega
theorem field_le {f : Fld} (h : FldOk f) : (fieldP f).length ≤ 80 := by
  have h0 := h.2.2.1
  have := Lib.itoa_length_le (f.number : Int) (by omega) (by unfold mostN at h0; omega)
  have := h.1.2.1
  have := h.2.1.2.1
  have e1 : (if f.choice = 0 then b2 else b4).length ≤ 4 := by split <;> decide
  have e2 : (if f.many then repP else []).length ≤ 9 := by split <;> decide
  simp only [fieldP, lineP, List.length_append, List.flatten_cons, List.flatten_nil, List.length_nil, List.length_cons]
  omega
theorem turn_le (a b : Nat) : (turnP a b).length ≤ 20 := by
  unfold turnP
  split
  · simp
  · rw [List.length_append]
    have e1 : (if a = 0 then [] else lineP [clP]).length ≤ 4 := by split <;> decide
    have e2 : (if b = 0 then [] else lineP [opP]).length ≤ 10 := by split <;> decide
    omega
theorem fields_le : ∀ (fs : List Fld) (c : Nat), (∀ f ∈ fs, FldOk f) → (fieldsGo c fs).length ≤ 20 + fs.length * 100
  | [], c, _ => by have := turn_le c 0; simp [fieldsGo]; omega
  | f :: fs, c, h => by
    have h1 := field_le (h f (by simp))
    have h2 := turn_le c f.choice
    have h3 := fields_le fs f.choice (fun x hx => h x (by simp [hx]))
    rw [fieldsGo, List.length_append, List.length_append, List.length_cons, Nat.succ_mul]
    omega
theorem nums_le {l : List Nat} (h : ∀ n ∈ l, n ≤ mostN) : (numsP l).length ≤ l.length * 30 := by
  cases l with
  | nil => simp [numsP, Lib.join_nil]
  | cons x l =>
    have hx := Lib.itoa_length_le ((x : Nat) : Int) (by omega) (by have := h x (by simp); unfold mostN at this; omega)
    have e : numsP (x :: l) = Lib.itoa (x : Int) ++ (l.map fun (n : Nat) => commaP ++ Lib.itoa (n : Int)).flatten := by
      simp [numsP, Lib.join_cons, Lib.joinTail, List.map_map, Function.comp_def]
    have h2 := flat_le (fun (n : Nat) => commaP ++ Lib.itoa (n : Int)) 30 l (by
      intro n hn
      have := Lib.itoa_length_le ((n : Nat) : Int) (by omega) (by have := h n (by simp [hn]); unfold mostN at this; omega)
      simp [commaP]; omega)
    rw [e, List.length_append, List.length_cons, Nat.succ_mul]
    omega
theorem message_le {m : Msg} (h : MsgP m) (hs : m.fields.length ≤ 16 ∧ m.barred.length ≤ 16) : (messageP m).length ≤ 3000 := by
  have h1 := fields_le m.fields 0 fun f hf => (h.2.1 f hf).1
  have h2 := nums_le h.2.2
  have h3 := h.1.2.1
  have h4 : (barP m.barred).length ≤ 600 := by
    unfold barP
    split
    · simp
    · simp only [lineP, resHead, List.length_append, List.flatten_cons, List.flatten_nil, List.length_nil, List.length_cons]; omega
  simp only [messageP, List.length_append, lineP, List.flatten_cons, List.flatten_nil, List.length_nil, List.length_cons, msgHead, braceP]
  omega
theorem print_le {ms : List Msg} {es : List Enm} (hm : ∀ m ∈ ms, MsgP m ∧ (m.fields.length ≤ 16 ∧ m.barred.length ≤ 16)) (he : ∀ e ∈ es, EnmOk e) (hl : ms.length + es.length ≤ 10) : (printP ms es).length ≤ 1000000 := by
  have h1 := flat_le messageP 3000 ms fun m h => message_le (hm m h).1 (hm m h).2
  have h2 := flat_le enumP 1000 es fun e h => enum_le (he e h)
  rw [printP, List.length_append]
  omega

end Go.Proofs.YtenlijgnmhdopaaGreatDoor

