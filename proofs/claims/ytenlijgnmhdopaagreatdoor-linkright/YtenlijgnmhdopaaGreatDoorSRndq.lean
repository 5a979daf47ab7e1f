import Derived.Test.YtenlijgnmhdopaaGreatDoorSPrintq
import Derived.Test.YtenlijgnmhdopaaGreatDoorMSb
/- Plain lists: the printed text of a file is read as that file, its choices numbered as they come; and is printed the same. -/
namespace Go.Proofs.YtenlijgnmhdopaaGreatDoor

def NameOk (n : List UInt8) : Prop := n ≠ [] ∧ n.length ≤ 16 ∧ wordLenL n = n.length

theorem skipB (r : List UInt8) : skipL (32 :: r) = skipL r := by simp [skipL, skipN]
theorem skipF (r : List UInt8) : skipL (10 :: r) = skipL r := by simp [skipL, skipN]
theorem skipS {c : UInt8} {r : List UInt8} (h1 : c ≠ 32) (h2 : c ≠ 10) (h3 : c ≠ 47) : skipL (c :: r) = c :: r := by simp [skipL, skipN, h1, h2, h3]
theorem let_stop {c : UInt8} (h : letB c = true) : c ≠ 32 ∧ c ≠ 10 ∧ c ≠ 47 := by
  refine ⟨?_, ?_, ?_⟩ <;> (rintro rfl; revert h; decide)
theorem dig_stop {c : UInt8} (h : digB c = true) : c ≠ 32 ∧ c ≠ 10 ∧ c ≠ 47 := by
  refine ⟨?_, ?_, ?_⟩ <;> (rintro rfl; revert h; decide)

theorem mark_blank (c : UInt8) (r : List UInt8) : markL c (32 :: r) = markL c r := by rw [markL, markL, skipB]
theorem mark_feed (c : UInt8) (r : List UInt8) : markL c (10 :: r) = markL c r := by rw [markL, markL, skipF]
theorem must_blank (c : UInt8) (r : List UInt8) : mustL c (32 :: r) = mustL c r := by rw [mustL, mustL, mark_blank]
theorem name_blank (r : List UInt8) : nameL (32 :: r) = nameL r := by unfold nameL; rw [skipB]
theorem num_blank (m : Nat) (r : List UInt8) : numL m (32 :: r) = numL m r := by unfold numL digsL; rw [skipB]
theorem key_blank (k r : List UInt8) : keyL k (32 :: r) = keyL k r := by unfold keyL; rw [skipB]
theorem key_feed (k r : List UInt8) : keyL k (10 :: r) = keyL k r := by unfold keyL; rw [skipF]
theorem mark_yes {c : UInt8} {r : List UInt8} (h1 : c ≠ 32) (h2 : c ≠ 10) (h3 : c ≠ 47) : markL c (c :: r) = (true, r) := by
  unfold markL; rw [skipS h1 h2 h3]; simp
theorem mark_no {c d : UInt8} {r : List UInt8} (h1 : d ≠ 32) (h2 : d ≠ 10) (h3 : d ≠ 47) (h : d ≠ c) : markL c (d :: r) = (false, d :: r) := by
  unfold markL; rw [skipS h1 h2 h3]; simp [h]
theorem must_yes {c : UInt8} {r : List UInt8} (h1 : c ≠ 32) (h2 : c ≠ 10) (h3 : c ≠ 47) : mustL c (c :: r) = .ok ((), r) := by
  unfold mustL; rw [mark_yes h1 h2 h3]

theorem NameOk.opn {n : List UInt8} (h : NameOk n) : ∃ c t, n = c :: t ∧ letB c = true ∧ (t.takeWhile moreB).length = t.length := by
  obtain ⟨h0, _, h2⟩ := h
  cases n with
  | nil => exact absurd rfl h0
  | cons c t =>
    rw [wordLenL] at h2
    by_cases hl : letB c = true
    · rw [if_pos hl] at h2
      exact ⟨c, t, rfl, hl, by simp at h2; omega⟩
    · rw [if_neg hl] at h2; simp at h2
theorem twStop {p : UInt8 → Bool} {t r : List UInt8} {c : UInt8} (h : (t.takeWhile p).length = t.length) (hc : p c = false) : ((t ++ c :: r).takeWhile p).length = t.length := by
  induction t with
  | nil => simp [hc]
  | cons a t ih =>
    by_cases ha : p a = true
    · rw [List.takeWhile_cons_of_pos ha] at h
      rw [List.cons_append, List.takeWhile_cons_of_pos ha]
      simp at h ⊢
      exact ih h
    · rw [List.takeWhile_cons_of_neg ha] at h; simp at h
theorem word_at {n r : List UInt8} {c : UInt8} (h : NameOk n) (hc : moreB c = false) : skipL (n ++ c :: r) = n ++ c :: r ∧ wordLenL (n ++ c :: r) = n.length := by
  obtain ⟨a, t, rfl, ha, ht⟩ := h.opn
  obtain ⟨h1, h2, h3⟩ := let_stop ha
  refine ⟨skipS h1 h2 h3, ?_⟩
  rw [List.cons_append, wordLenL, if_pos ha, twStop ht hc]
  simp; omega
theorem name_ok {n r : List UInt8} {c : UInt8} (h : NameOk n) (hc : moreB c = false) : nameL (n ++ c :: r) = .ok (n, c :: r) := by
  obtain ⟨e1, e2⟩ := word_at (r := r) h hc
  have h0 : n.length ≠ 0 := fun e => h.1 (List.eq_nil_of_length_eq_zero e)
  unfold nameL
  rw [e1, e2, if_neg h0, if_neg (by have := h.2.1; omega)]
  simp
theorem key_yes {n r : List UInt8} {c : UInt8} (h : NameOk n) (hc : moreB c = false) : keyL n (n ++ c :: r) = (true, c :: r) := by
  obtain ⟨e1, e2⟩ := word_at (r := r) h hc
  unfold keyL
  rw [e1, e2]
  simp
theorem key_no {n kw r : List UInt8} {c : UInt8} (h : NameOk n) (hc : moreB c = false) (hn : n ≠ kw) : keyL kw (n ++ c :: r) = (false, n ++ c :: r) := by
  obtain ⟨e1, e2⟩ := word_at (r := r) h hc
  unfold keyL
  rw [e1, e2]
  simp [hn]

theorem dec_facts : ∀ (u : Nat), ((Lib.decDigits u).takeWhile digB).length = (Lib.decDigits u).length ∧ valL (Lib.decDigits u) = u ∧ (Lib.decDigits u ≠ []) ∧ (1 < (Lib.decDigits u).length → (Lib.decDigits u).head? ≠ some 48) ∧ ((Lib.decDigits u).head? = some 48 → u = 0) := by
  intro u
  induction u using Nat.strongRecOn with
  | _ u ih =>
    have hd : ∀ k, k < 10 → digB (UInt8.ofNat (48 + k)) = true ∧ (UInt8.ofNat (48 + k)).toNat = 48 + k := by decide
    by_cases h : u < 10
    · rw [Lib.decDigits, dif_pos h]
      obtain ⟨d1, d2⟩ := hd u h
      generalize UInt8.ofNat (48 + u) = d at d1 d2 ⊢
      refine ⟨by simp [d1], ?_, by simp, by simp, ?_⟩
      · simp [valL, d2]
      · intro e
        simp at e
        have := congrArg UInt8.toNat e
        rw [d2] at this
        have h48 : (48 : UInt8).toNat = 48 := rfl
        rw [h48] at this
        omega
    · rw [Lib.decDigits, dif_neg h]
      obtain ⟨i1, i2, i3, i4, i5⟩ := ih (u / 10) (by omega)
      obtain ⟨d1, d2⟩ := hd (u % 10) (by omega)
      generalize UInt8.ofNat (48 + u % 10) = d at d1 d2 ⊢
      have hh : (Lib.decDigits (u / 10) ++ [d]).head? = (Lib.decDigits (u / 10)).head? := by
        cases hx : Lib.decDigits (u / 10) with
        | nil => exact absurd hx i3
        | cons a t => rfl
      refine ⟨?_, ?_, by simp, ?_, ?_⟩
      · have : ∀ (t : List UInt8), (t.takeWhile digB).length = t.length → ((t ++ [d]).takeWhile digB).length = (t ++ [d]).length := by
          intro t
          induction t with
          | nil => intro _; simp [d1]
          | cons a t iht =>
            intro ht
            by_cases ha : digB a = true
            · rw [List.takeWhile_cons_of_pos ha] at ht
              rw [List.cons_append, List.takeWhile_cons_of_pos ha, List.length_cons, List.length_cons, iht (by simpa using ht)]
            · rw [List.takeWhile_cons_of_neg ha] at ht; simp at ht
        exact this _ i1
      · have e : valL (Lib.decDigits (u / 10) ++ [d]) = 10 * valL (Lib.decDigits (u / 10)) + (d.toNat - 48) := by simp only [valL, List.foldl_append, List.foldl_cons, List.foldl_nil]
        rw [e, i2, d2]; omega
      · intro _; rw [hh]; intro e; have := i5 e; omega
      · rw [hh]; intro e; have := i5 e; omega

theorem num_ok {n most : Nat} {r : List UInt8} {c : UInt8} (hn : n ≤ most) (hc : digB c = false) : numL most (Lib.decDigits n ++ c :: r) = .ok (n, c :: r) := by
  obtain ⟨i1, i2, i3, i4, _⟩ := dec_facts n
  have hsk : skipL (Lib.decDigits n ++ c :: r) = Lib.decDigits n ++ c :: r := by
    cases hx : Lib.decDigits n with
    | nil => exact absurd hx i3
    | cons a t =>
      rw [hx] at i1
      have ha : digB a = true := by
        by_cases ha : digB a = true
        · exact ha
        · rw [List.takeWhile_cons_of_neg ha] at i1; simp at i1
      obtain ⟨h1, h2, h3⟩ := dig_stop ha
      exact skipS h1 h2 h3
  have hdl : digLenL (Lib.decDigits n ++ c :: r) = (Lib.decDigits n).length := twStop i1 hc
  have h0 : (Lib.decDigits n).length ≠ 0 := fun e => i3 (List.eq_nil_of_length_eq_zero e)
  have hhd : (Lib.decDigits n ++ c :: r).head? = (Lib.decDigits n).head? := by
    cases hx : Lib.decDigits n with
    | nil => exact absurd hx i3
    | cons a t => rfl
  unfold numL digsL
  rw [hsk, hdl, if_neg h0, if_neg ?_]
  · simp [i2]
  · rw [hhd]
    simp only [List.take_left]
    rintro (⟨h1, h2⟩ | h1)
    · exact i4 h1 h2
    · omega

theorem moreB32 : moreB 32 = false := by decide
theorem itoa_nat (n : Nat) : Lib.itoa (n : Int) = Lib.decDigits n := by unfold Lib.itoa; rw [if_neg (by omega)]; simp

/-- An item's line. -/
def ItmOk (i : Itm) : Prop := NameOk i.name ∧ -2147483648 ≤ i.value ∧ i.value ≤ 2147483647
theorem item_ok {i : Itm} (h : ItmOk i) (r : List UInt8) : itemL (itemP i ++ r) = .ok (i, 10 :: r) := by
  obtain ⟨h1, h2, h3⟩ := h
  have e : itemP i ++ r = 32 :: 32 :: (i.name ++ 32 :: (61 :: 32 :: (Lib.itoa i.value ++ 59 :: 10 :: r))) := by simp [itemP, lineP]
  rw [e, itemL, name_blank, name_blank, name_ok h1 moreB32]
  simp only [R.thn]
  rw [must_blank, must_yes (by decide) (by decide) (by decide)]
  simp only []
  by_cases hv : i.value < 0
  · obtain ⟨u, hu⟩ : ∃ u : Nat, i.value = -(u : Int) := ⟨i.value.natAbs, by omega⟩
    have hit : Lib.itoa i.value = 45 :: Lib.decDigits u := by rw [hu]; unfold Lib.itoa; rw [if_pos (by omega)]; simp
    rw [hit, mark_blank, List.cons_append, mark_yes (by decide) (by decide) (by decide)]
    simp only []
    rw [num_ok (by omega) (by decide)]
    simp only []
    rw [must_yes (by decide) (by decide) (by decide)]
    simp only []
    rw [← hu]
  · obtain ⟨u, hu⟩ : ∃ u : Nat, i.value = (u : Int) := ⟨i.value.toNat, by omega⟩
    have hit : Lib.itoa i.value = Lib.decDigits u := by rw [hu, itoa_nat]
    obtain ⟨i1, _, i3, _⟩ := dec_facts u
    have hmk : markL 45 (Lib.decDigits u ++ 59 :: 10 :: r) = (false, Lib.decDigits u ++ 59 :: 10 :: r) := by
      cases hx : Lib.decDigits u with
      | nil => exact absurd hx i3
      | cons a t =>
        rw [hx] at i1
        have ha : digB a = true := by
          by_cases ha : digB a = true
          · exact ha
          · rw [List.takeWhile_cons_of_neg ha] at i1; simp at i1
        obtain ⟨h1, h2, h3⟩ := dig_stop ha
        exact mark_no h1 h2 h3 (by rintro rfl; revert ha; decide)
    rw [hit, mark_blank, hmk]
    simp only []
    rw [num_ok (by omega) (by decide)]
    simp only []
    rw [must_yes (by decide) (by decide) (by decide)]
    simp only []
    rw [← hu]

theorem enumGo_feed (k : Nat) (e : Enm) (r : List UInt8) : enumGo k e (10 :: r) = enumGo k e r := by
  cases k with
  | zero => rfl
  | succ k => rw [enumGo, enumGo, mark_feed]
theorem mark_name {c : UInt8} {n : List UInt8} (h : NameOk n) (hc : letB c = false) (r : List UInt8) : markL c (n ++ r) = (false, n ++ r) := by
  obtain ⟨a, t, rfl, ha, _⟩ := h.opn
  obtain ⟨h1, h2, h3⟩ := let_stop ha
  exact mark_no h1 h2 h3 (by rintro rfl; rw [ha] at hc; cases hc)
theorem enumGo_ok : ∀ (xs : List Itm) (k : Nat) (e : Enm) (r : List UInt8), (∀ i ∈ xs, ItmOk i) → xs.length < k → e.items.length + xs.length ≤ 16 →
    enumGo k e ((xs.map itemP).flatten ++ (lineP [[125]] ++ r)) = .ok (⟨e.name, e.items ++ xs⟩, 10 :: r)
  | [], k + 1, e, r, _, _, _ => by
    have e1 : (([] : List Itm).map itemP).flatten ++ (lineP [[125]] ++ r) = 125 :: 10 :: r := by simp [lineP]
    rw [e1, enumGo, mark_yes (by decide) (by decide) (by decide)]
    simp
  | x :: xs, k + 1, e, r, hx, hk, hl => by
    have h1 := hx x (by simp)
    have e1 : ((x :: xs).map itemP).flatten ++ (lineP [[125]] ++ r) = itemP x ++ ((xs.map itemP).flatten ++ (lineP [[125]] ++ r)) := by simp
    have e2 : ∀ q, markL 125 (itemP x ++ q) = (false, x.name ++ 32 :: 61 :: 32 :: (Lib.itoa x.value ++ 59 :: 10 :: q)) := by
      intro q
      have e : itemP x ++ q = 32 :: 32 :: (x.name ++ 32 :: (61 :: 32 :: (Lib.itoa x.value ++ 59 :: 10 :: q))) := by simp [itemP, lineP]
      rw [e, mark_blank, mark_blank, mark_name h1.1 (by decide)]
    have e3 : ∀ q, itemL (x.name ++ 32 :: 61 :: 32 :: (Lib.itoa x.value ++ 59 :: 10 :: q)) = .ok (x, 10 :: q) := by
      intro q
      rw [← item_ok h1 q]
      have e : itemP x ++ q = 32 :: 32 :: (x.name ++ 32 :: (61 :: 32 :: (Lib.itoa x.value ++ 59 :: 10 :: q))) := by simp [itemP, lineP]
      rw [e]
      unfold itemL
      rw [name_blank, name_blank]
    rw [e1, enumGo, e2]
    simp only []
    rw [e3]
    simp only [R.thn]
    rw [if_neg (by simp at hl ⊢; omega), enumGo_feed, enumGo_ok xs k _ r (fun i hi => hx i (by simp [hi])) (by simpa using hk) (by simp at hl ⊢; omega)]
    simp
  | [], 0, _, _, _, h, _ => absurd h (by simp)
  | _ :: _, 0, _, _, _, h, _ => absurd h (by simp)

def EnmOk (e : Enm) : Prop := NameOk e.name ∧ (∀ i ∈ e.items, ItmOk i) ∧ e.items.length ≤ 16
/-- The word 'enum' is behind us. -/
theorem enum_ok {e : Enm} (h : EnmOk e) {K : Nat} (hK : 16 < K) (r : List UInt8) :
    enumL K (32 :: (e.name ++ 32 :: 123 :: 10 :: ((e.items.map itemP).flatten ++ (lineP [[125]] ++ r)))) = .ok (e, 10 :: r) := by
  obtain ⟨h1, h2, h3⟩ := h
  rw [enumL, name_blank, name_ok h1 moreB32]
  simp only [R.thn]
  rw [must_blank, must_yes (by decide) (by decide) (by decide)]
  simp only []
  rw [enumGo_feed, enumGo_ok e.items K ⟨e.name, []⟩ r h2 (by omega) (by simpa using h3)]
  simp

/-- A field's line behind its blanks, and, if it is one of many, that word. -/
def FldOk (f : Fld) : Prop := NameOk f.name ∧ NameOk (wordP f) ∧ f.number ≤ mostN ∧ (f.choice ≠ 0 → f.many = false)
def reT (f : Fld) : Fld := ⟨f.name, f.number, (typeL (wordP f)).1, (typeL (wordP f)).2, f.many, f.choice⟩
theorem field_ok {f : Fld} (h : FldOk f) (many : Bool) (ch : Nat) (r : List UInt8) :
    fieldL many ch (wordP f ++ 32 :: (f.name ++ 32 :: 61 :: 32 :: (Lib.itoa (f.number : Int) ++ 59 :: 10 :: r))) = .ok (⟨f.name, f.number, (typeL (wordP f)).1, (typeL (wordP f)).2, many, ch⟩, 10 :: r) := by
  obtain ⟨h1, h2, h3, _⟩ := h
  rw [fieldL, name_ok h2 moreB32]
  simp only [R.thn]
  rw [name_blank, name_ok h1 moreB32]
  simp only []
  rw [must_blank, must_yes (by decide) (by decide) (by decide)]
  simp only []
  rw [num_blank, itoa_nat, num_ok h3 (by decide)]
  simp only []
  rw [must_yes (by decide) (by decide) (by decide)]

theorem choiceGo_feed (ch k : Nat) (acc : List Fld) (r : List UInt8) : choiceGo ch k acc (10 :: r) = choiceGo ch k acc r := by
  cases k with
  | zero => rfl
  | succ k => rw [choiceGo, choiceGo, mark_feed]
theorem msgGo_feed (K k : Nat) (m : Msg) (ch : Nat) (r : List UInt8) : msgGo K k m ch (10 :: r) = msgGo K k m ch r := by
  cases k with
  | zero => rfl
  | succ k => rw [msgGo, msgGo, mark_feed]
def tailP (f : Fld) (q : List UInt8) : List UInt8 := wordP f ++ 32 :: (f.name ++ 32 :: 61 :: 32 :: (Lib.itoa (f.number : Int) ++ 59 :: 10 :: q))
theorem fieldP_in {f : Fld} (h : FldOk f) (hc : f.choice ≠ 0) (q : List UInt8) : fieldP f ++ q = 32 :: 32 :: 32 :: 32 :: tailP f q := by
  simp [fieldP, lineP, hc, h.2.2.2 hc, b4, tailP]
theorem fieldP_one {f : Fld} (hc : f.choice = 0) (hm : f.many = false) (q : List UInt8) : fieldP f ++ q = 32 :: 32 :: tailP f q := by
  simp [fieldP, lineP, hc, hm, b2, tailP]
theorem fieldP_many {f : Fld} (hc : f.choice = 0) (hm : f.many = true) (q : List UInt8) : fieldP f ++ q = 32 :: 32 :: (kwRepeated ++ 32 :: tailP f q) := by
  simp [fieldP, lineP, hc, hm, b2, tailP, repP, kwRepeated]

theorem choiceGo_ok (ch : Nat) : ∀ (xs : List Fld) (k : Nat) (acc : List Fld) (r : List UInt8), (∀ f ∈ xs, FldOk f ∧ f.choice ≠ 0) → xs.length < k →
    choiceGo ch k acc ((xs.map fieldP).flatten ++ (lineP [clP] ++ r)) = .ok (acc ++ xs.map (fun f => setC ch (reT f)), 10 :: r)
  | [], k + 1, acc, r, _, _ => by
    have e1 : (([] : List Fld).map fieldP).flatten ++ (lineP [clP] ++ r) = 32 :: 32 :: 125 :: 10 :: r := by simp [lineP, clP]
    rw [e1, choiceGo, mark_blank, mark_blank, mark_yes (by decide) (by decide) (by decide)]
    simp
  | x :: xs, k + 1, acc, r, hx, hk => by
    obtain ⟨h1, h2⟩ := hx x (by simp)
    have e1 : ((x :: xs).map fieldP).flatten ++ (lineP [clP] ++ r) = fieldP x ++ ((xs.map fieldP).flatten ++ (lineP [clP] ++ r)) := by simp
    have e2 : ∀ q, markL 125 (fieldP x ++ q) = (false, tailP x q) := by
      intro q
      rw [fieldP_in h1 h2, mark_blank, mark_blank, mark_blank, mark_blank, tailP, mark_name h1.2.1 (by decide)]
    rw [e1, choiceGo, e2]
    simp only []
    rw [tailP, field_ok h1]
    simp only [R.thn]
    rw [choiceGo_feed, choiceGo_ok ch xs k _ r (fun f hf => hx f (by simp [hf])) (by simpa using hk)]
    simp [setC, reT, h1.2.2.2 h2]
  | [], 0, _, _, _, h => absurd h (by simp)
  | _ :: _, 0, _, _, _, h => absurd h (by simp)

theorem kwRep_ok : NameOk kwRepeated := by unfold NameOk; decide
theorem kwRes_ok : NameOk kwReserved := by unfold NameOk; decide
theorem kwOne_ok : NameOk kwOneof := by unfold NameOk; decide
theorem kwMsg_ok : NameOk kwMessage := by unfold NameOk; decide
theorem kwEnm_ok : NameOk kwEnum := by unfold NameOk; decide
def NoKw (f : Fld) : Prop := f.choice = 0 → f.many = false → wordP f ≠ kwRepeated ∧ wordP f ≠ kwReserved ∧ wordP f ≠ kwOneof
theorem tail_open (f : Fld) (q : List UInt8) : ∃ s, tailP f q = wordP f ++ 32 :: s := ⟨_, rfl⟩

/-- One field outside of choices. -/
theorem part_field {K : Nat} {f : Fld} (h : FldOk f) (hn : NoKw f) (hc : f.choice = 0) (m : Msg) (ch : Nat) (q : List UInt8) :
    ∃ t, markL 125 (fieldP f ++ q) = (false, t) ∧ partL K m ch t = .ok ((⟨m.name, m.fields ++ [reT f], m.barred⟩, ch), 10 :: q) := by
  by_cases hm : f.many = true
  · refine ⟨kwRepeated ++ 32 :: tailP f q, ?_, ?_⟩
    · rw [fieldP_many hc hm, mark_blank, mark_blank, mark_name kwRep_ok (by decide)]
    · rw [partL, key_no kwRep_ok moreB32 (by decide)]
      simp only []
      rw [key_no kwRep_ok moreB32 (by decide)]
      simp only []
      rw [key_yes kwRep_ok moreB32]
      simp only []
      have e : fieldL true 0 (32 :: tailP f q) = fieldL true 0 (tailP f q) := by unfold fieldL; rw [name_blank]
      rw [e, tailP, field_ok h]
      simp only [R.thn]
      rw [reT, hm, hc]
  · have hm' : f.many = false := by simpa using hm
    obtain ⟨n1, n2, n3⟩ := hn hc hm'
    refine ⟨tailP f q, ?_, ?_⟩
    · rw [fieldP_one hc hm', mark_blank, mark_blank, tailP, mark_name h.2.1 (by decide)]
    · obtain ⟨s, hs⟩ := tail_open f q
      have k1 : keyL kwReserved (tailP f q) = (false, tailP f q) := by rw [hs, key_no h.2.1 moreB32 n2]
      have k2 : keyL kwOneof (tailP f q) = (false, tailP f q) := by rw [hs, key_no h.2.1 moreB32 n3]
      have k3 : keyL kwRepeated (tailP f q) = (false, tailP f q) := by rw [hs, key_no h.2.1 moreB32 n1]
      rw [partL, k1]
      simp only []
      rw [k2]
      simp only []
      rw [k3]
      simp only []
      rw [tailP, field_ok h]
      simp only [R.thn]
      rw [reT, hm', hc]

theorem num_same {c : Nat} (hc : c ≠ 0) (k : Nat) : ∀ (xs ys : List Fld), (∀ f ∈ xs, f.choice = c) → numGo c k (xs ++ ys) = xs.map (setC k) ++ numGo c k ys
  | [], _, _ => rfl
  | x :: xs, ys, h => by
    have hx := h x (by simp)
    rw [List.cons_append, numGo, if_neg (by rw [hx]; exact hc), if_pos hx, hx, num_same hc k xs ys (fun f hf => h f (by simp [hf]))]
    simp
theorem num_new {c last : Nat} (hc : c ≠ 0) (hl : c ≠ last) (k : Nat) (x : Fld) (hx : x.choice = c) (xs ys : List Fld) (h : ∀ f ∈ xs, f.choice = c) : numGo last k (x :: (xs ++ ys)) = (x :: xs).map (setC (k + 1)) ++ numGo c (k + 1) ys := by
  rw [numGo, if_neg (by rw [hx]; exact hc), if_neg (by rw [hx]; exact hl), hx, num_same hc (k + 1) xs ys h]
  simp
theorem numGo_len : ∀ (xs : List Fld) (l k : Nat), (numGo l k xs).length = xs.length
  | [], _, _ => rfl
  | x :: xs, l, k => by rw [numGo]; split; · simp [numGo_len xs]
                        · split <;> simp [numGo_len xs]

theorem fieldsGo_out {c : Nat} (hc : c ≠ 0) : ∀ (ys : List Fld), (∀ f, ys.head? = some f → f.choice ≠ c) → fieldsGo c ys = lineP [clP] ++ fieldsGo 0 ys
  | [], _ => by simp [fieldsGo, turnP, hc]
  | y :: ys, h => by
    have hy := h y rfl
    by_cases h0 : y.choice = 0
    · simp [fieldsGo, turnP, hc, h0]
    · have h0' : (0 : Nat) ≠ y.choice := fun e => h0 e.symm
      have h1 : c ≠ y.choice := fun e => hy e.symm
      simp [fieldsGo, turnP, hc, h0, h0', h1]
theorem fieldsGo_in {c : Nat} : ∀ (xs ys : List Fld), (∀ f ∈ xs, f.choice = c) → fieldsGo c (xs ++ ys) = (xs.map fieldP).flatten ++ fieldsGo c ys
  | [], _, _ => rfl
  | x :: xs, ys, h => by
    have hx := h x (by simp)
    rw [List.cons_append, fieldsGo, hx, fieldsGo_in xs ys (fun f hf => h f (by simp [hf]))]
    simp [turnP]
theorem split_same (c : Nat) : ∀ (l : List Fld), ∃ xs ys, l = xs ++ ys ∧ (∀ f ∈ xs, f.choice = c) ∧ ∀ f, ys.head? = some f → f.choice ≠ c
  | [] => ⟨[], [], rfl, fun _ h => (List.not_mem_nil h).elim, fun _ h => by cases h⟩
  | x :: l => by
    by_cases hx : x.choice = c
    · obtain ⟨xs, ys, e, h1, h2⟩ := split_same c l
      refine ⟨x :: xs, ys, by rw [e]; rfl, ?_, h2⟩
      intro f hf
      rcases List.mem_cons.1 hf with rfl | hf
      · exact hx
      · exact h1 f hf
    · exact ⟨[], x :: l, rfl, fun _ h => (List.not_mem_nil h).elim, fun f h => by simp at h; subst h; exact hx⟩

theorem setC_reT (c : Nat) (f : Fld) : setC c (reT f) = reT (setC c f) := rfl

theorem msgGo_ok (K : Nat) (hK : 16 < K) : ∀ (n : Nat) (fs : List Fld) (k last ch : Nat) (m : Msg) (r : List UInt8), fs.length ≤ n → fs.length < k → (∀ f ∈ fs, FldOk f ∧ NoKw f) → (∀ f, fs.head? = some f → f.choice ≠ 0 → f.choice ≠ last) →
    m.fields.length + fs.length ≤ 16 → m.barred.length ≤ 16 →
    msgGo K k m ch (fieldsGo 0 fs ++ (lineP [[125]] ++ r)) = .ok (⟨m.name, m.fields ++ (numGo last ch fs).map reT, m.barred⟩, 10 :: r) := by
  intro n
  induction n with
  | zero =>
    intro fs k last ch m r hl hk _ _ _ _
    have : fs = [] := List.eq_nil_of_length_eq_zero (by omega)
    subst this
    obtain ⟨k, rfl⟩ : ∃ j, k = j + 1 := ⟨k - 1, by omega⟩
    have e1 : fieldsGo 0 [] ++ (lineP [[125]] ++ r) = 125 :: 10 :: r := by simp [fieldsGo, turnP, lineP]
    rw [e1, msgGo, mark_yes (by decide) (by decide) (by decide)]
    simp [numGo]
  | succ n ih =>
    intro fs k last ch m r hl hk hf hh hs hb
    obtain ⟨k, rfl⟩ : ∃ j, k = j + 1 := ⟨k - 1, by omega⟩
    cases fs with
    | nil => exact ih [] (k + 1) last ch m r (by simp) hk hf hh hs hb
    | cons x fs =>
      obtain ⟨h1, h2⟩ := hf x (by simp)
      by_cases hc : x.choice = 0
      · have e1 : fieldsGo 0 (x :: fs) ++ (lineP [[125]] ++ r) = fieldP x ++ (fieldsGo 0 fs ++ (lineP [[125]] ++ r)) := by simp [fieldsGo, turnP, hc]
        obtain ⟨t, ht1, ht2⟩ := part_field (K := K) h1 h2 hc m ch (fieldsGo 0 fs ++ (lineP [[125]] ++ r))
        rw [e1, msgGo, ht1]
        simp only []
        rw [ht2]
        simp only [R.thn]
        rw [if_neg (by simp at hs ⊢; omega), msgGo_feed, ih fs k 0 ch ⟨m.name, m.fields ++ [reT x], m.barred⟩ r (by simpa using hl) (by simpa using hk) (fun f hf' => hf f (by simp [hf'])) (fun f _ h0 => h0) (by simp at hs ⊢; omega) hb]
        rw [numGo, if_pos hc]
        have : setC 0 x = x := by rw [← hc]; rfl
        simp [this]
      · obtain ⟨xs, ys, rfl, hx, hy⟩ := split_same x.choice fs
        have e1 : fieldsGo 0 (x :: (xs ++ ys)) ++ (lineP [[125]] ++ r) = 32 :: 32 :: (kwOneof ++ 32 :: 123 :: 10 :: (((x :: xs).map fieldP).flatten ++ (lineP [clP] ++ (fieldsGo 0 ys ++ (lineP [[125]] ++ r))))) := by
          have h0' : (0 : Nat) ≠ x.choice := fun e => hc e.symm
          rw [fieldsGo, fieldsGo_in xs ys hx, fieldsGo_out hc ys hy]
          simp [turnP, hc, h0', lineP, opP, kwOneof]
        have hall : ∀ f ∈ x :: xs, FldOk f ∧ f.choice ≠ 0 := by
          intro f hf'
          refine ⟨(hf f (by simp at hf' ⊢; rcases hf' with h | h; · exact .inl h
                            · exact .inr (.inl h))).1, ?_⟩
          rcases List.mem_cons.1 hf' with rfl | hf'
          · exact hc
          · rw [hx f hf']; exact hc
        have hlx : (x :: xs).length < K := by simp at hs ⊢; omega
        have hp : partL K m ch (kwOneof ++ 32 :: 123 :: 10 :: (((x :: xs).map fieldP).flatten ++ (lineP [clP] ++ (fieldsGo 0 ys ++ (lineP [[125]] ++ r))))) = .ok ((⟨m.name, m.fields ++ (x :: xs).map (fun f => setC (ch + 1) (reT f)), m.barred⟩, ch + 1), 10 :: (fieldsGo 0 ys ++ (lineP [[125]] ++ r))) := by
          rw [partL, key_no kwOne_ok moreB32 (by decide)]
          simp only []
          rw [key_yes kwOne_ok moreB32]
          simp only []
          rw [choiceL, must_blank, must_yes (by decide) (by decide) (by decide)]
          simp only [R.thn]
          rw [choiceGo_feed, choiceGo_ok (ch + 1) (x :: xs) K [] _ hall hlx]
          simp
        rw [e1, msgGo, mark_blank, mark_blank, mark_name kwOne_ok (by decide)]
        simp only []
        rw [hp]
        simp only [R.thn]
        rw [if_neg (by simp at hs ⊢; omega), msgGo_feed, ih ys k x.choice (ch + 1) ⟨m.name, m.fields ++ (x :: xs).map (fun f => setC (ch + 1) (reT f)), m.barred⟩ r (by simp at hl; omega) (by simp at hk; omega) (fun f hf' => hf f (by simp [hf'])) (fun f h _ => hy f h) (by simp at hs ⊢; omega) hb]
        rw [num_new hc (hh x rfl hc) ch x rfl xs ys hx]
        simp [setC_reT]

theorem res_ok : ∀ (xs acc : List Nat) (k : Nat) (r : List UInt8), (∀ n ∈ xs, n ≤ mostN) → xs.length < k →
    resL k acc (Lib.joinTail commaP (xs.map fun (n : Nat) => Lib.itoa (n : Int)) ++ 59 :: r) = .ok (acc ++ xs, r)
  | [], acc, k + 1, r, _, _ => by
    have e1 : Lib.joinTail commaP (([] : List Nat).map fun (n : Nat) => Lib.itoa (n : Int)) ++ 59 :: r = 59 :: r := by simp [Lib.joinTail]
    rw [e1, resL, mark_no (by decide) (by decide) (by decide) (by decide)]
    simp only []
    rw [must_yes (by decide) (by decide) (by decide)]
    simp [R.thn]
  | x :: xs, acc, k + 1, r, hx, hk => by
    have e1 : Lib.joinTail commaP ((x :: xs).map fun (n : Nat) => Lib.itoa (n : Int)) ++ 59 :: r = 44 :: 32 :: (Lib.decDigits x ++ (Lib.joinTail commaP (xs.map fun (n : Nat) => Lib.itoa (n : Int)) ++ 59 :: r)) := by
      rw [← itoa_nat]
      simp [Lib.joinTail, commaP]
    obtain ⟨c, q, hq, hcq⟩ : ∃ c q, Lib.joinTail commaP (xs.map fun (n : Nat) => Lib.itoa (n : Int)) ++ 59 :: r = c :: q ∧ digB c = false := by
      cases xs with
      | nil => exact ⟨59, r, by simp [Lib.joinTail], by decide⟩
      | cons y ys => exact ⟨44, _, by simp [Lib.joinTail, commaP]; rfl, by decide⟩
    have hi := res_ok xs (acc ++ [x]) k r (fun n hn => hx n (by simp [hn])) (by simpa using hk)
    rw [hq] at hi
    rw [e1, resL, mark_yes (by decide) (by decide) (by decide)]
    simp only []
    rw [hq, num_blank, num_ok (hx x (by simp)) hcq]
    simp only [R.thn]
    rw [hi]
    simp
  | [], _, 0, _, _, h => absurd h (by simp)
  | _ :: _, _, 0, _, _, h => absurd h (by simp)

def MsgOk (m : Msg) : Prop := NameOk m.name ∧ (∀ f ∈ m.fields, FldOk f ∧ NoKw f) ∧ (∀ n ∈ m.barred, n ≤ mostN) ∧ m.fields.length ≤ 16 ∧ m.barred.length ≤ 16
def numM (m : Msg) : Msg := ⟨m.name, (numGo 0 0 m.fields).map reT, m.barred⟩
theorem message_ok {m : Msg} (h : MsgOk m) {K : Nat} (hK : 17 < K) (r : List UInt8) :
    messageL K (32 :: (m.name ++ 32 :: 123 :: 10 :: (barP m.barred ++ (fieldsGo 0 m.fields ++ (lineP [[125]] ++ r))))) = .ok (numM m, 10 :: r) := by
  obtain ⟨h1, h2, h3, h4, h5⟩ := h
  rw [messageL, name_blank, name_ok h1 moreB32]
  simp only [R.thn]
  rw [must_blank, must_yes (by decide) (by decide) (by decide)]
  simp only []
  rw [msgGo_feed]
  cases hb : m.barred with
  | nil =>
    have e : barP [] = [] := rfl
    rw [e, List.nil_append, msgGo_ok K (by omega) 16 m.fields K 0 0 ⟨m.name, [], []⟩ r h4 (by omega) h2 (fun _ _ h => h) (by simpa using h4) (by simp)]
    simp [numM, hb]
  | cons x xs =>
    have e1 : barP (x :: xs) = 32 :: 32 :: (kwReserved ++ 32 :: (Lib.decDigits x ++ (Lib.joinTail commaP (xs.map fun (n : Nat) => Lib.itoa (n : Int)) ++ 59 :: [10]))) := by
      rw [← itoa_nat]
      simp [barP, lineP, resHead, kwReserved, numsP, Lib.join_cons]
    obtain ⟨c, q, hq, hcq⟩ : ∃ c q, Lib.joinTail commaP (xs.map fun (n : Nat) => Lib.itoa (n : Int)) ++ 59 :: 10 :: (fieldsGo 0 m.fields ++ (lineP [[125]] ++ r)) = c :: q ∧ digB c = false := by
      cases xs with
      | nil => exact ⟨59, _, by simp [Lib.joinTail]; rfl, by decide⟩
      | cons y ys => exact ⟨44, _, by simp [Lib.joinTail, commaP]; rfl, by decide⟩
    rw [hb] at h3 h5
    have hi := res_ok xs [x] K (10 :: (fieldsGo 0 m.fields ++ (lineP [[125]] ++ r))) (fun n hn => h3 n (by simp [hn])) (by simp at h5; omega)
    rw [hq] at hi
    obtain ⟨k, rfl⟩ : ∃ j, K = j + 1 := ⟨K - 1, by omega⟩
    have e2 : barP (x :: xs) ++ (fieldsGo 0 m.fields ++ (lineP [[125]] ++ r)) = 32 :: 32 :: (kwReserved ++ 32 :: (Lib.decDigits x ++ c :: q)) := by
      rw [e1, ← hq]; simp
    have hp : partL (k + 1) ⟨m.name, [], []⟩ 0 (kwReserved ++ 32 :: (Lib.decDigits x ++ c :: q)) = .ok ((⟨m.name, [], x :: xs⟩, 0), 10 :: (fieldsGo 0 m.fields ++ (lineP [[125]] ++ r))) := by
      rw [partL, key_yes kwRes_ok moreB32]
      simp only []
      rw [reservedL, num_blank, num_ok (h3 x (by simp)) hcq]
      simp only [R.thn]
      rw [hi]
      simp
    rw [e2, msgGo, mark_blank, mark_blank, mark_name kwRes_ok (by decide)]
    simp only []
    rw [hp]
    simp only [R.thn]
    rw [if_neg (by simp at h5 ⊢; omega), msgGo_feed, msgGo_ok (k + 1) (by omega) 16 m.fields k 0 0 ⟨m.name, [], x :: xs⟩ r h4 (by omega) h2 (fun _ _ h => h) (by simpa using h4) h5]
    simp [numM, hb]

theorem allGo_feed (K k : Nat) (f : Fil) (r : List UInt8) : allGo K k f (10 :: r) = allGo K k f r := by
  cases k with
  | zero => rfl
  | succ k => rw [allGo, allGo, skipF]
theorem skip_word {n : List UInt8} (h : NameOk n) (r : List UInt8) : skipL (n ++ r) = n ++ r ∧ n ++ r ≠ [] := by
  obtain ⟨a, t, rfl, ha, _⟩ := h.opn
  obtain ⟨h1, h2, h3⟩ := let_stop ha
  exact ⟨skipS h1 h2 h3, by simp⟩
theorem allGo_ok (K : Nat) (hK : 17 < K) : ∀ (ms : List Msg) (k : Nat) (f : Fil), (∀ m ∈ ms, MsgOk m) → ms.length < k → f.msgs.length + f.enums.length + ms.length ≤ 10 →
    allGo K k f ((ms.map messageP).flatten) = .ok (⟨f.msgs ++ ms.map numM, f.enums⟩, [])
  | [], k + 1, f, _, _, _ => by
    have e1 : (([] : List Msg).map messageP).flatten = [] := rfl
    have e2 : skipL [] = [] := rfl
    rw [e1, allGo, e2, if_pos rfl]
    simp
  | m :: ms, k + 1, f, hm, hk, hl => by
    have e1 : ((m :: ms).map messageP).flatten = kwMessage ++ 32 :: (m.name ++ 32 :: 123 :: 10 :: (barP m.barred ++ (fieldsGo 0 m.fields ++ (lineP [[125]] ++ (ms.map messageP).flatten)))) := by
      simp [messageP, lineP, msgHead, kwMessage, braceP]
    obtain ⟨s1, s2⟩ := skip_word kwMsg_ok (32 :: (m.name ++ 32 :: 123 :: 10 :: (barP m.barred ++ (fieldsGo 0 m.fields ++ (lineP [[125]] ++ (ms.map messageP).flatten)))))
    rw [e1, allGo, s1, if_neg s2, defL, key_yes kwMsg_ok moreB32]
    simp only []
    rw [message_ok (hm m (by simp)) hK]
    simp only [R.thn]
    rw [if_neg (by simp at hl ⊢; omega), allGo_feed, allGo_ok K hK ms k _ (fun x hx => hm x (by simp [hx])) (by simpa using hk) (by simp at hl ⊢; omega)]
    simp
  | [], 0, _, _, h, _ => absurd h (by simp)
  | _ :: _, 0, _, _, h, _ => absurd h (by simp)
theorem allGo_ok2 (K : Nat) (hK : 17 < K) (ms : List Msg) (hm : ∀ m ∈ ms, MsgOk m) : ∀ (es : List Enm) (k : Nat) (f : Fil), (∀ e ∈ es, EnmOk e) → ms.length + es.length < k → f.msgs.length + f.enums.length + ms.length + es.length ≤ 10 →
    allGo K k f ((es.map enumP).flatten ++ (ms.map messageP).flatten) = .ok (⟨f.msgs ++ ms.map numM, f.enums ++ es⟩, [])
  | [], k, f, _, hk, hl => by
    have e1 : (([] : List Enm).map enumP).flatten ++ (ms.map messageP).flatten = (ms.map messageP).flatten := rfl
    rw [e1, allGo_ok K hK ms k f hm (by simpa using hk) (by simpa using hl)]
    simp
  | e :: es, k + 1, f, he, hk, hl => by
    have e1 : ((e :: es).map enumP).flatten ++ (ms.map messageP).flatten = kwEnum ++ 32 :: (e.name ++ 32 :: 123 :: 10 :: ((e.items.map itemP).flatten ++ (lineP [[125]] ++ ((es.map enumP).flatten ++ (ms.map messageP).flatten)))) := by
      simp [enumP, lineP, enumHead, kwEnum, braceP]
    obtain ⟨s1, s2⟩ := skip_word kwEnm_ok (32 :: (e.name ++ 32 :: 123 :: 10 :: ((e.items.map itemP).flatten ++ (lineP [[125]] ++ ((es.map enumP).flatten ++ (ms.map messageP).flatten)))))
    rw [e1, allGo, s1, if_neg s2, defL, key_no kwEnm_ok moreB32 (by decide)]
    simp only []
    rw [key_yes kwEnm_ok moreB32]
    simp only []
    rw [enum_ok (he e (by simp)) (by omega)]
    simp only [R.thn]
    rw [if_neg (by simp at hl ⊢; omega), allGo_feed, allGo_ok2 K hK ms hm es k _ (fun x hx => he x (by simp [hx])) (by simp at hk; omega) (by simp at hl ⊢; omega)]
    simp
  | _ :: _, 0, _, _, h, _ => absurd h (by simp)
/-- The printed text of a file is read as that file, its choices numbered as they come. -/
theorem parse_print {ms : List Msg} {es : List Enm} (hm : ∀ m ∈ ms, MsgOk m) (he : ∀ e ∈ es, EnmOk e) (hl : ms.length + es.length ≤ 10) : parseL 100 (printP ms es) = .ok (⟨ms.map numM, es⟩, []) := by
  rw [parseL, printP, allGo_ok2 100 (by omega) ms hm es 100 ⟨[], []⟩ he (by omega) (by simpa using hl)]
  simp

/-- Numbered, it is printed as before. -/
theorem fieldsGo_num : ∀ (fs : List Fld) (last k : Nat), (last ≠ 0 → k ≠ 0) → fieldsGo (if last = 0 then 0 else k) (numGo last k fs) = fieldsGo last fs
  | [], last, k, h => by
    by_cases hl : last = 0
    · simp [hl, numGo]
    · simp [hl, numGo, fieldsGo, turnP, h hl]
  | x :: fs, last, k, h => by
    have hfp : ∀ c, (c = 0 ↔ x.choice = 0) → fieldP (setC c x) = fieldP x := by
      intro c hc
      have e : wordP (setC c x) = wordP x := rfl
      unfold fieldP
      rw [e]
      by_cases h0 : x.choice = 0
      · rw [show (setC c x).choice = c from rfl, if_pos (hc.2 h0), if_pos h0]; rfl
      · have : c ≠ 0 := fun e => h0 (hc.1 e)
        rw [show (setC c x).choice = c from rfl, if_neg this, if_neg h0]; rfl
    rw [numGo]
    by_cases h0 : x.choice = 0
    · rw [if_pos h0, fieldsGo, fieldsGo, hfp 0 (by simp [h0])]
      have e : (setC 0 x).choice = 0 := rfl
      have i := fieldsGo_num fs 0 k (fun h => absurd rfl h)
      rw [if_pos rfl] at i
      rw [e, h0, i]
      by_cases hl : last = 0
      · simp [hl]
      · simp [hl, turnP, h hl]
    · rw [if_neg h0]
      by_cases hs : x.choice = last
      · have hl : last ≠ 0 := by rw [← hs]; exact h0
        have hk := h hl
        rw [if_pos hs, fieldsGo, fieldsGo, hfp k (by simp [h0, hk])]
        have e : (setC k x).choice = k := rfl
        have i := fieldsGo_num fs x.choice k (fun _ => hk)
        rw [if_neg h0] at i
        rw [e, i, if_neg hl]
        simp [turnP, hs]
      · rw [if_neg hs, fieldsGo, fieldsGo, hfp (k + 1) (by simp [h0])]
        have e : (setC (k + 1) x).choice = k + 1 := rfl
        have i := fieldsGo_num fs x.choice (k + 1) (fun _ => by omega)
        rw [if_neg h0] at i
        have hs' : last ≠ x.choice := fun e => hs e.symm
        rw [e, i]
        by_cases hl : last = 0
        · have : (0 : Nat) ≠ x.choice := fun e => h0 e.symm
          simp [hl, turnP, h0, this]
        · have hk : k ≠ k + 1 := by omega
          simp [hl, turnP, h hl, h0, hs']

def TypeOk (f : Fld) : Prop := typeL (wordP f) = (f.kind, f.type)
theorem reT_same {f : Fld} (h : TypeOk f) : reT f = f := by
  unfold TypeOk at h
  simp [reT, h]
theorem numGo_all {P : Fld → Prop} (hP : ∀ f c, P f → (f.choice = 0 → c = 0) → P (setC c f)) : ∀ (fs : List Fld) (l k : Nat), (∀ f ∈ fs, P f) → ∀ f ∈ numGo l k fs, P f
  | [], _, _, _, f, hf => by simp [numGo] at hf
  | x :: fs, l, k, h, f, hf => by
    have hx := h x (by simp)
    have ht := fun l k => numGo_all hP fs l k (fun f hf => h f (by simp [hf])) f
    rw [numGo] at hf
    split at hf
    · rcases List.mem_cons.1 hf with rfl | hf
      · exact hP _ _ hx (fun _ => rfl)
      · exact ht _ _ hf
    · rename_i h0
      split at hf
      · rcases List.mem_cons.1 hf with rfl | hf
        · exact hP _ _ hx (fun e => absurd e h0)
        · exact ht _ _ hf
      · rcases List.mem_cons.1 hf with rfl | hf
        · exact hP _ _ hx (fun e => absurd e h0)
        · exact ht _ _ hf
theorem map_reT {fs : List Fld} (h : ∀ f ∈ fs, TypeOk f) (l k : Nat) : (numGo l k fs).map reT = numGo l k fs := by
  have h2 := numGo_all (P := TypeOk) (fun _ _ hf _ => hf) fs l k h
  exact (List.map_congr_left fun f hf => reT_same (h2 f hf)).trans (List.map_id _)
theorem messageP_num {m : Msg} (h : ∀ f ∈ m.fields, TypeOk f) : messageP (numM m) = messageP m := by
  have e := fieldsGo_num m.fields 0 0 (fun h => absurd rfl h)
  rw [if_pos rfl] at e
  unfold messageP numM
  simp only []
  rw [map_reT h, e]
theorem print_num {ms : List Msg} {es : List Enm} (h : ∀ m ∈ ms, ∀ f ∈ m.fields, TypeOk f) : printP (ms.map numM) es = printP ms es := by
  unfold printP
  rw [List.map_map]
  congr 2
  exact List.map_congr_left fun m hm => messageP_num (h m hm)

end Go.Proofs.YtenlijgnmhdopaaGreatDoor

