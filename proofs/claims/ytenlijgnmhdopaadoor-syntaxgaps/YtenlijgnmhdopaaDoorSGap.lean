/- A text with a note behind each line is the same file. Plain lists. -/
import Derived.Test.YtenlijgnmhdopaaDoorSTot
namespace Go.Proofs.YtenlijgnmhdopaaDoor

/-- What stands ahead of each line feed: two blanks, two slashes, a note. -/
def insL (note : List UInt8) : List UInt8 := 32 :: 32 :: 47 :: 47 :: note
def gapL (note : List UInt8) : List UInt8 → List UInt8
  | [] => []
  | c :: r => if c = 10 then insL note ++ (10 :: gapL note r) else c :: gapL note r


theorem skip_noteP {note : List UInt8} (hn : ∀ c ∈ note, c ≠ 10) (r : List UInt8) : skipN true (note ++ 10 :: r) = skipN false r := by
  induction note with
  | nil => simp [skipN]
  | cons c t ih =>
    have hc : (c != 10) = true := by simpa using hn c (by simp)
    rw [List.cons_append, skipN, hc]
    exact ih (fun x hx => hn x (by simp [hx]))
theorem skip_ins {note : List UInt8} (hn : ∀ c ∈ note, c ≠ 10) (b : Bool) (r : List UInt8) : skipN b (insL note ++ 10 :: r) = skipN false r := by
  have h := skip_noteP hn r
  cases b with
  | true =>
    show skipN true (32 :: 32 :: 47 :: 47 :: (note ++ 10 :: r)) = _
    simp only [skipN]
    exact h
  | false =>
    show skipN false (32 :: 32 :: 47 :: 47 :: (note ++ 10 :: r)) = _
    rw [skipN, if_pos (by simp), skipN, if_pos (by simp), skipN, if_neg (by decide), if_pos (by simp), skipN]
    exact h
theorem gap_cons {note : List UInt8} {c : UInt8} {r : List UInt8} (h : c ≠ 10) : gapL note (c :: r) = c :: gapL note r := by rw [gapL, if_neg h]
theorem gap_head {note : List UInt8} (r : List UInt8) (h : r.head? ≠ some 47) : (gapL note r).head? ≠ some 47 := by
  cases r with
  | nil => simp [gapL]
  | cons d t =>
    by_cases hd : d = 10
    · subst hd; simp [gapL, insL]
    · rw [gap_cons hd]; simpa using h
theorem skip_gap {note : List UInt8} (hn : ∀ c ∈ note, c ≠ 10) (b : Bool) (l : List UInt8) : skipN b (gapL note l) = gapL note (skipN b l) := by
  induction l generalizing b with
  | nil => cases b <;> simp [gapL, skipN]
  | cons c r ih =>
    by_cases hc : c = 10
    · subst hc
      have e : gapL note (10 :: r) = insL note ++ (10 :: gapL note r) := by rw [gapL, if_pos rfl]
      rw [e, skip_ins hn, ih]
      cases b with
      | true => simp [skipN]
      | false => simp [skipN]
    · rw [gap_cons hc]
      cases b with
      | true =>
        have hb : (c != 10) = true := by simpa using hc
        rw [skipN, skipN, hb, ih]
      | false =>
        by_cases h32 : c = 32
        · subst h32
          rw [skipN, if_pos (.inl rfl), ih, skipN, if_pos (.inl rfl)]
        · have h1 : ¬ (c = 32 ∨ c = 10) := by simp [h32, hc]
          by_cases h47 : c = 47 ∧ r.head? = some 47
          · obtain ⟨rfl, hr⟩ := h47
            have hg : (gapL note r).head? = some 47 := by
              cases r with
              | nil => simp at hr
              | cons d t => simp at hr; subst hr; rw [gap_cons (by decide)]; rfl
            rw [skipN, if_neg h1, if_pos ⟨rfl, hg⟩, ih, skipN, if_neg h1, if_pos ⟨rfl, hr⟩]
          · have hg : ¬ (c = 47 ∧ (gapL note r).head? = some 47) := by
              rintro ⟨rfl, hh⟩
              exact gap_head r (fun hr => h47 ⟨rfl, hr⟩) hh
            rw [skipN, if_neg h1, if_neg hg, skipN, if_neg h1, if_neg h47, gap_cons hc]
theorem gap_take {note : List UInt8} (n : Nat) (l : List UInt8) (h : ∀ c ∈ l.take n, c ≠ 10) (hl : n ≤ l.length) : (gapL note l).take n = l.take n ∧ (gapL note l).drop n = gapL note (l.drop n) := by
  induction n generalizing l with
  | zero => simp
  | succ n ih =>
    cases l with
    | nil => simp at hl
    | cons c r =>
      rw [gap_cons (h c (by simp))]
      have := ih r (fun x hx => h x (by simp [hx])) (by simpa using hl)
      simp [this.1, this.2]
theorem tw_gap {note : List UInt8} (p : UInt8 → Bool) (h10 : p 10 = false) (h32 : p 32 = false) (l : List UInt8) : ((gapL note l).takeWhile p).length = (l.takeWhile p).length := by
  induction l with
  | nil => rfl
  | cons c r ih =>
    by_cases hc : c = 10
    · subst hc; rw [gapL, if_pos rfl]; simp [insL, h10, h32]
    · rw [gap_cons hc]
      by_cases hp : p c = true
      · simp [hp, ih]
      · simp [hp]
theorem tw_no10 (p : UInt8 → Bool) (h10 : p 10 = false) (l : List UInt8) : ∀ c ∈ l.take (l.takeWhile p).length, c ≠ 10 := by
  induction l with
  | nil => simp
  | cons x t ih =>
    by_cases hx : p x = true
    · intro c hc
      simp only [List.takeWhile_cons, hx, if_true, List.length_cons, List.take_succ_cons, List.mem_cons] at hc
      rcases hc with rfl | hc
      · intro e; rw [e, h10] at hx; cases hx
      · exact ih c hc
    · simp [hx]
theorem word_gap {note : List UInt8} (l : List UInt8) : wordLenL (gapL note l) = wordLenL l ∧ (gapL note l).take (wordLenL l) = l.take (wordLenL l) ∧ (gapL note l).drop (wordLenL l) = gapL note (l.drop (wordLenL l)) := by
  cases l with
  | nil => simp [gapL, wordLenL]
  | cons c r =>
    by_cases hc : c = 10
    · subst hc
      have e0 : wordLenL (10 :: r) = 0 := rfl
      have e1 : wordLenL (gapL note (10 :: r)) = 0 := by rw [gapL, if_pos rfl]; rfl
      rw [e0, e1]; simp
    · by_cases hl : letB c = true
      · have e0 : wordLenL (c :: r) = (r.takeWhile moreB).length + 1 := by simp [wordLenL, hl]; omega
        have e1 : wordLenL (gapL note (c :: r)) = (r.takeWhile moreB).length + 1 := by rw [gap_cons hc]; simp [wordLenL, hl, tw_gap moreB (by decide) (by decide)]; omega
        rw [e0, e1]
        refine ⟨rfl, gap_take _ _ ?_ (by simp; exact (List.takeWhile_sublist _).length_le)⟩
        intro x hx
        rw [List.take_succ_cons, List.mem_cons] at hx
        rcases hx with rfl | hx
        · exact hc
        · exact tw_no10 moreB (by decide) r x hx
      · have e0 : wordLenL (c :: r) = 0 := by simp [wordLenL, hl]
        have e1 : wordLenL (gapL note (c :: r)) = 0 := by rw [gap_cons hc]; simp [wordLenL, hl]
        rw [e0, e1]; simp
theorem dig_gap {note : List UInt8} (l : List UInt8) : digLenL (gapL note l) = digLenL l ∧ (gapL note l).take (digLenL l) = l.take (digLenL l) ∧ (gapL note l).drop (digLenL l) = gapL note (l.drop (digLenL l)) :=
  ⟨tw_gap digB (by decide) (by decide) l, gap_take _ _ (tw_no10 digB (by decide) l) (List.takeWhile_sublist _).length_le⟩

theorem mark_gap {note : List UInt8} (hn : ∀ c ∈ note, c ≠ 10) {c : UInt8} (hc : c ≠ 10) (h32 : c ≠ 32) (r : List UInt8) : markL c (gapL note r) = ((markL c r).1, gapL note (markL c r).2) := by
  have hs : skipL (gapL note r) = gapL note (skipL r) := skip_gap hn false r
  unfold markL
  rw [hs]
  cases hq : skipL r with
  | nil => simp [gapL]
  | cons x t =>
    by_cases hx : x = 10
    · subst hx
      rw [gapL, if_pos rfl]
      have : (10 : UInt8) ≠ c := fun e => hc e.symm
      have h3 : (32 : UInt8) ≠ c := fun e => h32 e.symm
      simp [insL, this, h3, gapL]
    · rw [gap_cons hx]
      simp only
      by_cases hxc : x = c
      · simp [hxc]
      · simp [hxc, gap_cons hx]
theorem key_gap {note : List UInt8} (hn : ∀ c ∈ note, c ≠ 10) (kw r : List UInt8) : keyL kw (gapL note r) = ((keyL kw r).1, gapL note (keyL kw r).2) := by
  have hs : skipL (gapL note r) = gapL note (skipL r) := skip_gap hn false r
  obtain ⟨w1, w2, w3⟩ := word_gap (skipL r)
  unfold keyL
  rw [hs, w1, w2]
  by_cases h : (skipL r).take (wordLenL (skipL r)) = kw
  · rw [if_pos h, if_pos h]
    have hle : wordLenL (skipL r) ≤ (skipL r).length := by
      cases skipL r with
      | nil => exact Nat.le_refl _
      | cons c t =>
        simp only [wordLenL]
        split
        · have := (List.takeWhile_sublist moreB (l := t)).length_le; simp; omega
        · exact Nat.zero_le _
    have hlen : kw.length = wordLenL (skipL r) := by rw [← h]; simp [hle]
    rw [hlen, w3]
  · rw [if_neg h, if_neg h]

/-- Whatever the one answers, if it is no error, the other answers too. -/
def Gp {α : Type} (note : List UInt8) (x y : R α) : Prop := ∀ a u, x = .ok (a, u) → y = .ok (a, gapL note u)
theorem Gp.thn {note : List UInt8} {α β : Type} {x y : R α} {f : α → List UInt8 → R β} (h : Gp note x y) (hf : ∀ a u, Gp note (f a u) (f a (gapL note u))) : Gp note (R.thn x f) (R.thn y f) := by
  intro b v hb
  obtain ⟨a, u, hx, hfu⟩ := thn_ok hb
  rw [h a u hx]
  exact hf a u b v hfu
theorem Gp.ok {note : List UInt8} {α : Type} (a : α) (u : List UInt8) : Gp note (.ok (a, u)) (.ok (a, gapL note u)) := by
  intro b v h; cases h; rfl
theorem must_gap {note : List UInt8} (hn : ∀ c ∈ note, c ≠ 10) {c : UInt8} (hc : c ≠ 10) (h32 : c ≠ 32) (r : List UInt8) : Gp note (mustL c r) (mustL c (gapL note r)) := by
  intro a u h
  unfold mustL at h ⊢
  rw [mark_gap hn hc h32]
  generalize markL c r = q at h ⊢
  obtain ⟨b, t⟩ := q
  cases b with
  | true => simp only at h ⊢; cases h; rfl
  | false => simp only at h; cases h
theorem name_gap {note : List UInt8} (hn : ∀ c ∈ note, c ≠ 10) (r : List UInt8) : Gp note (nameL r) (nameL (gapL note r)) := by
  intro a u h
  have hs : skipL (gapL note r) = gapL note (skipL r) := skip_gap hn false r
  obtain ⟨w1, w2, w3⟩ := word_gap (skipL r)
  unfold nameL at h ⊢
  rw [hs, w1, w2, w3]
  split at h
  · cases h
  · rename_i h0
    split at h
    · cases h
    · rename_i h16
      rw [if_neg h0, if_neg h16]
      cases h
      rfl
theorem num_gap {note : List UInt8} (hn : ∀ c ∈ note, c ≠ 10) (most : Nat) (r : List UInt8) : Gp note (numL most r) (numL most (gapL note r)) := by
  intro a u h
  have hs : skipL (gapL note r) = gapL note (skipL r) := skip_gap hn false r
  obtain ⟨w1, w2, w3⟩ := dig_gap (skipL r)
  unfold numL digsL at h ⊢
  rw [hs, w1, w2, w3]
  split at h
  · cases h
  · rename_i h0
    have hh : (gapL note (skipL r)).head? = (skipL r).head? := by
      have := congrArg List.head? w2
      cases hq : skipL r with
      | nil => simp [gapL]
      | cons c t =>
        have hc : c ≠ 10 := by
          intro e
          rw [hq, e] at h0
          exact h0 rfl
        rw [gap_cons hc]; rfl
    rw [hh]
    split at h
    · cases h
    · rename_i h2
      rw [if_neg h0, if_neg h2]
      cases h
      rfl
theorem field_gap {note : List UInt8} (hn : ∀ c ∈ note, c ≠ 10) (many : Bool) (ch : Nat) (r : List UInt8) : Gp note (fieldL many ch r) (fieldL many ch (gapL note r)) :=
  (name_gap hn r).thn fun _ _ => (name_gap hn _).thn fun _ _ => (must_gap hn (by decide) (by decide) _).thn fun _ _ => (num_gap hn _ _).thn fun _ _ => (must_gap hn (by decide) (by decide) _).thn fun _ _ => Gp.ok _ _
theorem res_gap {note : List UInt8} (hn : ∀ c ∈ note, c ≠ 10) : ∀ (k : Nat) (acc : List Nat) (r : List UInt8), Gp note (resL k acc r) (resL k acc (gapL note r))
  | 0, _, _ => fun _ _ h => by cases h
  | k + 1, acc, r => by
    intro a u h
    rw [resL] at h ⊢
    rw [mark_gap hn (by decide) (by decide)]
    generalize markL 44 r = q at h ⊢
    obtain ⟨b, t⟩ := q
    cases b with
    | true => exact ((num_gap hn mostN t).thn (f := fun n u => resL k (acc ++ [n]) u) fun _ u => res_gap hn k _ u) a u h
    | false => exact ((must_gap hn (c := 59) (by decide) (by decide) t).thn (f := fun _ u => .ok (acc, u)) fun _ u => Gp.ok _ u) a u h
theorem choiceGo_gap {note : List UInt8} (hn : ∀ c ∈ note, c ≠ 10) (ch : Nat) : ∀ (k : Nat) (acc : List Fld) (r : List UInt8), Gp note (choiceGo ch k acc r) (choiceGo ch k acc (gapL note r))
  | 0, _, _ => fun _ _ h => by cases h
  | k + 1, acc, r => by
    intro a u h
    rw [choiceGo] at h ⊢
    rw [mark_gap hn (by decide) (by decide)]
    generalize markL 125 r = q at h ⊢
    obtain ⟨b, t⟩ := q
    cases b with
    | true => simp only at h ⊢; cases h; rfl
    | false => exact ((field_gap hn false ch t).thn (f := fun f u => choiceGo ch k (acc ++ [f]) u) fun _ u => choiceGo_gap hn ch k _ u) a u h
theorem reserved_gap {note : List UInt8} (hn : ∀ c ∈ note, c ≠ 10) (K : Nat) (r : List UInt8) : Gp note (reservedL K r) (reservedL K (gapL note r)) := (num_gap hn mostN r).thn fun n u => res_gap hn K [n] u
theorem choice_gap {note : List UInt8} (hn : ∀ c ∈ note, c ≠ 10) (K ch : Nat) (r : List UInt8) : Gp note (choiceL K ch r) (choiceL K ch (gapL note r)) := (must_gap hn (by decide) (by decide) r).thn fun _ u => choiceGo_gap hn ch K [] u
theorem part_gap {note : List UInt8} (hn : ∀ c ∈ note, c ≠ 10) (K : Nat) (m : Msg) (ch : Nat) (r : List UInt8) : Gp note (partL K m ch r) (partL K m ch (gapL note r)) := by
  intro a u h
  unfold partL at h ⊢
  rw [key_gap hn]
  generalize keyL kwReserved r = q at h ⊢
  obtain ⟨b, t⟩ := q
  cases b with
  | true => exact ((reserved_gap hn K t).thn (f := fun l u => .ok ((⟨m.name, m.fields, m.barred ++ l⟩, ch), u)) fun _ u => Gp.ok _ u) a u h
  | false =>
    simp only at h ⊢
    rw [key_gap hn]
    generalize keyL kwOneof t = q at h ⊢
    obtain ⟨b, t⟩ := q
    cases b with
    | true => exact ((choice_gap hn K (ch + 1) t).thn (f := fun l u => .ok ((⟨m.name, m.fields ++ l, m.barred⟩, ch + 1), u)) fun _ u => Gp.ok _ u) a u h
    | false =>
      simp only at h ⊢
      rw [key_gap hn]
      exact ((field_gap hn (keyL kwRepeated t).1 0 (keyL kwRepeated t).2).thn (f := fun f u => .ok ((⟨m.name, m.fields ++ [f], m.barred⟩, ch), u)) fun _ u => Gp.ok _ u) a u h
theorem msgGo_gap {note : List UInt8} (hn : ∀ c ∈ note, c ≠ 10) (K : Nat) : ∀ (k : Nat) (m : Msg) (ch : Nat) (r : List UInt8), Gp note (msgGo K k m ch r) (msgGo K k m ch (gapL note r))
  | 0, _, _, _ => fun _ _ h => by cases h
  | k + 1, m, ch, r => by
    intro a u h
    rw [msgGo] at h ⊢
    rw [mark_gap hn (by decide) (by decide)]
    generalize markL 125 r = q at h ⊢
    obtain ⟨b, t⟩ := q
    cases b with
    | true => simp only at h ⊢; cases h; rfl
    | false =>
      refine ((part_gap hn K m ch t).thn (f := fun p u => if 16 < p.1.fields.length ∨ 16 < p.1.barred.length then .error (some (5, u)) else msgGo K k p.1 p.2 u) fun p u => ?_) a u h
      intro a' u' h'
      split at h'
      · cases h'
      · rename_i hh
        rw [if_neg hh]
        exact msgGo_gap hn K k p.1 p.2 u a' u' h'
theorem message_gap {note : List UInt8} (hn : ∀ c ∈ note, c ≠ 10) (K : Nat) (r : List UInt8) : Gp note (messageL K r) (messageL K (gapL note r)) :=
  (name_gap hn r).thn fun _ _ => (must_gap hn (by decide) (by decide) _).thn fun _ u => msgGo_gap hn K K _ _ u
theorem item_gap {note : List UInt8} (hn : ∀ c ∈ note, c ≠ 10) (r : List UInt8) : Gp note (itemL r) (itemL (gapL note r)) := by
  refine (name_gap hn r).thn fun nm u => (must_gap hn (by decide) (by decide) u).thn fun _ t => ?_
  intro a u h
  rw [mark_gap hn (by decide) (by decide)]
  generalize markL 45 t = q at h ⊢
  obtain ⟨b, t⟩ := q
  cases b with
  | true => exact ((num_gap hn 2147483648 t).thn (f := fun n u => R.thn (mustL 59 u) fun _ u => .ok (⟨nm, -(n : Int)⟩, u)) fun _ u => (must_gap hn (by decide) (by decide) u).thn fun _ u => Gp.ok _ u) a u h
  | false => exact ((num_gap hn 2147483647 t).thn (f := fun n u => R.thn (mustL 59 u) fun _ u => .ok (⟨nm, (n : Int)⟩, u)) fun _ u => (must_gap hn (by decide) (by decide) u).thn fun _ u => Gp.ok _ u) a u h
theorem enumGo_gap {note : List UInt8} (hn : ∀ c ∈ note, c ≠ 10) : ∀ (k : Nat) (e : Enm) (r : List UInt8), Gp note (enumGo k e r) (enumGo k e (gapL note r))
  | 0, _, _ => fun _ _ h => by cases h
  | k + 1, e, r => by
    intro a u h
    rw [enumGo] at h ⊢
    rw [mark_gap hn (by decide) (by decide)]
    generalize markL 125 r = q at h ⊢
    obtain ⟨b, t⟩ := q
    cases b with
    | true => simp only at h ⊢; cases h; rfl
    | false =>
      refine ((item_gap hn t).thn (f := fun i u => if 16 < (e.items ++ [i]).length then .error (some (5, u)) else enumGo k ⟨e.name, e.items ++ [i]⟩ u) fun p u => ?_) a u h
      intro a' u' h'
      split at h'
      · cases h'
      · rename_i hh
        rw [if_neg hh]
        exact enumGo_gap hn k _ u a' u' h'
theorem enum_gap {note : List UInt8} (hn : ∀ c ∈ note, c ≠ 10) (K : Nat) (r : List UInt8) : Gp note (enumL K r) (enumL K (gapL note r)) :=
  (name_gap hn r).thn fun _ _ => (must_gap hn (by decide) (by decide) _).thn fun _ u => enumGo_gap hn K _ u
theorem def_gap {note : List UInt8} (hn : ∀ c ∈ note, c ≠ 10) (K : Nat) (f : Fil) (r : List UInt8) : Gp note (defL K f r) (defL K f (gapL note r)) := by
  intro a u h
  unfold defL at h ⊢
  rw [key_gap hn]
  generalize keyL kwMessage r = q at h ⊢
  obtain ⟨b, t⟩ := q
  cases b with
  | true => exact ((message_gap hn K t).thn (f := fun m u => .ok (⟨f.msgs ++ [m], f.enums⟩, u)) fun _ u => Gp.ok _ u) a u h
  | false =>
    simp only at h ⊢
    rw [key_gap hn]
    generalize keyL kwEnum t = q at h ⊢
    obtain ⟨b, t⟩ := q
    cases b with
    | true => exact ((enum_gap hn K t).thn (f := fun e u => .ok (⟨f.msgs, f.enums ++ [e]⟩, u)) fun _ u => Gp.ok _ u) a u h
    | false => simp only at h; cases h
theorem gap_nil {note : List UInt8} (l : List UInt8) : gapL note l = [] ↔ l = [] := by
  cases l with
  | nil => simp [gapL]
  | cons c r =>
    by_cases hc : c = 10
    · subst hc; rw [gapL, if_pos rfl]; simp [insL]
    · rw [gap_cons hc]; simp
theorem allGo_gap {note : List UInt8} (hn : ∀ c ∈ note, c ≠ 10) (K : Nat) : ∀ (k : Nat) (f : Fil) (r : List UInt8), Gp note (allGo K k f r) (allGo K k f (gapL note r))
  | 0, _, _ => fun _ _ h => by cases h
  | k + 1, f, r => by
    intro a u h
    have hs : skipL (gapL note r) = gapL note (skipL r) := skip_gap hn false r
    rw [allGo] at h ⊢
    rw [hs]
    by_cases h0 : skipL r = []
    · rw [if_pos h0] at h
      rw [if_pos ((gap_nil _).2 h0)]
      cases h
      rfl
    · rw [if_neg h0] at h
      rw [if_neg (fun e => h0 ((gap_nil _).1 e))]
      refine ((def_gap hn K f (skipL r)).thn (f := fun g u => if 10 < g.msgs.length + g.enums.length then .error (some (5, u)) else allGo K k g u) fun p u => ?_) a u h
      intro a' u' h'
      split at h'
      · cases h'
      · rename_i hh
        rw [if_neg hh]
        exact allGo_gap hn K k p u a' u' h'
theorem parse_gap {note : List UInt8} (hn : ∀ c ∈ note, c ≠ 10) {K : Nat} {l u : List UInt8} {f : Fil} (h : parseL K l = .ok (f, u)) : parseL K (gapL note l) = .ok (f, gapL note u) := allGo_gap hn K K _ _ f u h

end Go.Proofs.YtenlijgnmhdopaaDoor
