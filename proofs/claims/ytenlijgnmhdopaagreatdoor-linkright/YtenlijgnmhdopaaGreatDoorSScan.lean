/- The contracts of end, mark, throw, must, keyword. -/
import Derived.Test.YtenlijgnmhdopaaGreatDoorSSkip
namespace Go.Proofs.YtenlijgnmhdopaaGreatDoor
open Go.RowKit

/-- What is thrown: error c at byte p. -/
def Ft (c p : Nat) : List PanicEntry := [{ v := .iface 29 (.agg #[.int .i64 (c : Int), .int .i64 (p : Int)]), recovered := false }]

/-- What a parser's method answers, by what the plain one does. -/
def Post {α : Type} (b : Nat) (txt : List UInt8) (m e : Value) (w : World) (good : α → Value → World → Prop) (x : R α) (en : Ending) (w' : World) : Prop :=
  Kp b w w' ∧
    match x with
    | .ok (a, t) => St w' b txt t m e ∧ ∃ v, en = .returned v ∧ good a v w'
    | .error (some (c, t)) => t.length ≤ txt.length ∧ en = .panicked (Ft c (txt.length - t.length))
    | .error none => False

set_option maxHeartbeats 1000000 in
theorem throw_any {b : Nat} {txt r : List UInt8} {m e : Value} {w : World} (h : St w b txt r m e) (c : Nat) :
    Calls Tryz.prog 72 #[.pointer (some ⟨b, 0, none⟩), .int .i64 (c : Int)] w fun en w' => en = .panicked (Ft c (txt.length - r.length)) ∧ w = w' := by
  have c1 := h.c1
  obtain ⟨K, HK⟩ : ∃ K : Nat, Hid (K = txt.length - r.length) := ⟨_, rfl⟩
  rw [← HK.out] at c1 ⊢
  go_enter Tryz.func72, Tryz.ntmps72
  go_wp2
  exact ⟨rfl, rfl, rfl⟩

set_option maxHeartbeats 1000000 in
theorem mark_any {b : Nat} {txt r : List UInt8} {m e : Value} {w : World} (h : St w b txt r m e) (c : UInt8) :
    Calls Tryz.prog 87 #[.pointer (some ⟨b, 0, none⟩), .int .u8 (c.toNat : Int)] w fun en w' => en = .returned (.bool (markL c r).1) ∧ St w' b txt (markL c r).2 m e ∧ Kp b w w' := by
  go_enter Tryz.func87, Tryz.ntmps87
  go_wp2_with fail
  refine (skip_any b txt r m e w h).mono ?_
  rintro en w1 ⟨rfl, hs, hk⟩
  have HS : Hid (skipL r = skipL r) := rfl
  generalize hq : skipL r = q at hs
  cases q with
  | nil =>
    have HM : Hid (markL c r = (false, [])) := by show _ = _; simp [markL, hq]
    have hem : (S []).toList.isEmpty = true := by rw [S_list]; rfl
    go_wp2
    go_ret
    rw [HM.out]
    exact ⟨rfl, hs, hk⟩
  | cons x t =>
    have hem : (S (x :: t)).toList.isEmpty = false := by rw [S_list]; rfl
    have hsz : (S (x :: t)).size = t.length + 1 := by rw [S_size]; rfl
    obtain ⟨X, HX⟩ : ∃ X : Nat, Hid (X = x.toNat) := ⟨_, rfl⟩
    have hx : ∀ h, ((S (x :: t))[0]'h).toNat = X := by intro h; rw [S_get, HX.out]; rfl
    obtain ⟨C, HC⟩ : ∃ C : Nat, Hid (C = c.toNat) := ⟨_, rfl⟩
    rw [← HC.out]
    by_cases h1 : x = c
    · have HM : Hid (markL c r = (true, t)) := by show _ = _; simp [markL, hq, h1]
      have hXC : X = C := by rw [HX.out, HC.out, h1]
      subst hXC
      have c1 := hs.c1
      have f1 := hs.f1
      have hl := hs.1
      obtain ⟨K, HK⟩ : ∃ K : Nat, Hid (K = txt.length - (x :: t).length) := ⟨_, rfl⟩
      rw [← HK.out] at c1
      have hK : K ≤ 3000 := by have := HK.out; omega
      clear hq h1
      go_wp2
      go_ret
      rw [HM.out]
      refine ⟨rfl, hs.set (by simp) (by simp) ?_, hk.set _ _⟩
      have := HK.out
      have := hs.2.1
      simp at *
      omega
    · have HM : Hid (markL c r = (false, x :: t)) := by show _ = _; simp [markL, hq, h1]
      have hXC : ((X : Int) != (C : Int)) = true := by rw [bne_iff_ne]; intro hh; exact h1 (UInt8.toNat_inj.1 (by rw [← HX.out, ← HC.out]; omega))
      clear hq
      go_wp2
      go_ret
      rw [HM.out]
      exact ⟨rfl, hs, hk⟩

set_option maxHeartbeats 1000000 in
theorem end_any {b : Nat} {txt r : List UInt8} {m e : Value} {w : World} (h : St w b txt r m e) :
    Calls Tryz.prog 68 #[.pointer (some ⟨b, 0, none⟩)] w fun en w' => en = .returned (.bool (decide (skipL r = []))) ∧ St w' b txt (skipL r) m e ∧ Kp b w w' := by
  go_enter Tryz.func68, Tryz.ntmps68
  go_wp2_with fail
  refine (skip_any b txt r m e w h).mono ?_
  rintro en w1 ⟨rfl, hs, hk⟩
  generalize hq : skipL r = q at hs
  cases q with
  | nil =>
    have hem : (S []).toList.isEmpty = true := by rw [S_list]; rfl
    have HQ : Hid (skipL r = []) := hq
    clear hq
    go_wp2
    go_ret
    rw [HQ.out]
    exact ⟨rfl, hs, hk⟩
  | cons x t =>
    have hem : (S (x :: t)).toList.isEmpty = false := by rw [S_list]; rfl
    have HQ : Hid (skipL r = x :: t) := hq
    clear hq
    go_wp2
    go_ret
    rw [HQ.out]
    exact ⟨rfl, hs, hk⟩

theorem post_err {α : Type} {b : Nat} {txt : List UInt8} {m e : Value} {w w' : World} {good : α → Value → World → Prop} {x : R α} {c : Nat} {t : List UInt8} (hk : Kp b w w') (hx : x = .error (some (c, t))) (ht : t.length ≤ txt.length) :
    Post b txt m e w good x (.panicked (Ft c (txt.length - t.length))) w' := by rw [hx]; exact ⟨hk, ht, rfl⟩
theorem post_ok {α : Type} {b : Nat} {txt : List UInt8} {m e : Value} {w w' : World} {good : α → Value → World → Prop} {x : R α} {a : α} {t : List UInt8} {v : Value} (hk : Kp b w w') (hx : x = .ok (a, t)) (hs : St w' b txt t m e) (hg : good a v w') :
    Post b txt m e w good x (.returned v) w' := by rw [hx]; exact ⟨hk, hs, v, rfl, hg⟩

set_option maxHeartbeats 1000000 in
theorem must_any {b : Nat} {txt r : List UInt8} {m e : Value} {w : World} (h : St w b txt r m e) (c : UInt8) :
    Calls Tryz.prog 86 #[.pointer (some ⟨b, 0, none⟩), .int .u8 (c.toNat : Int)] w (Post b txt m e w (fun _ v _ => v = .tuple #[]) (mustL c r)) := by
  go_enter Tryz.func86, Tryz.ntmps86
  go_wp2_with fail
  refine (mark_any h c).mono ?_
  rintro en w1 ⟨rfl, hs, hk⟩
  generalize hq : markL c r = q at *
  obtain ⟨ok, t⟩ := q
  cases ok with
  | true =>
    have HM : Hid (mustL c r = .ok ((), t)) := by show _ = _; simp [mustL, hq]
    go_wp2
    go_end0
    exact post_ok hk HM.out hs rfl
  | false =>
    have HM : Hid (mustL c r = .error (some (2, t))) := by show _ = _; simp [mustL, hq]
    go_wp2_with fail
    refine (throw_any hs 2).mono ?_
    rintro en w1 ⟨rfl, rfl⟩
    go_wp2
    exact ⟨rfl, post_err hk HM.out hs.2.1⟩

theorem wordLen_le (l : List UInt8) : wordLenL l ≤ l.length := by
  cases l with
  | nil => exact Nat.le_refl _
  | cons c r =>
    simp only [wordLenL]
    split
    · have := (List.takeWhile_sublist moreB (l := r)).length_le; simp; omega
    · exact Nat.zero_le _
theorem digLen_le (l : List UInt8) : digLenL l ≤ l.length := (List.takeWhile_sublist _).length_le

set_option maxHeartbeats 1000000 in
theorem keyword_any {b : Nat} {txt r : List UInt8} {m e : Value} {w : World} (h : St w b txt r m e) (kw : List UInt8) (hkw : kw.length ≤ 100) :
    Calls Tryz.prog 69 #[.pointer (some ⟨b, 0, none⟩), .string (S kw)] w fun en w' => en = .returned (.bool (keyL kw r).1) ∧ St w' b txt (keyL kw r).2 m e ∧ Kp b w w' := by
  go_enter Tryz.func69, Tryz.ntmps69
  go_wp2_with fail
  refine (skip_any b txt r m e w h).mono ?_
  rintro en w1 ⟨rfl, hs, hk⟩
  generalize hq : skipL r = q at hs
  have hlq : q.length ≤ 3000 := by have := hs.1; have := hs.2.1; omega
  have hto := to_S q (wordLenL q) (wordLen_le q)
  have hl1 := S_list (q.take (wordLenL q))
  have hl2 := S_list kw
  have hsz := S_size kw
  go_wp2_with fail
  refine (wordLength_any q (by omega) _).mono ?_
  rintro en w2 ⟨rfl, rfl⟩
  by_cases h1 : q.take (wordLenL q) = kw
  · have HM : Hid (keyL kw r = (true, q.drop kw.length)) := by show _ = _; simp [keyL, hq, h1]
    have HKL : Hid (kw.length ≤ q.length) := by show _ ≤ _; rw [← h1]; simp; exact Nat.min_le_right _ _
    rw [h1] at hto hl1
    clear hl1
    have c1 := hs.c1
    have f1 := hs.f1
    have hl := hs.1
    obtain ⟨K, HK⟩ : ∃ K : Nat, Hid (K = txt.length - q.length) := ⟨_, rfl⟩
    rw [← HK.out] at c1
    have hK : K ≤ 3000 := by have := HK.out; omega
    have HE : Hid (txt.length - (q.drop kw.length).length = K + kw.length) := by show _ = _; have := HK.out; have := HKL.out; have := hs.2.1; simp; omega
    clear hq h1
    go_wp2
    go_ret
    rw [HM.out]
    refine ⟨rfl, hs.set (by simp) ?_ ?_, hk.set _ _⟩
    · show q.drop kw.length = q.drop (q.length - (q.drop kw.length).length)
      rw [List.length_drop, Nat.sub_sub_self HKL.out]
    · show _ = ((txt.length - (q.drop kw.length).length : Nat) : Int)
      rw [HE.out]; push_cast; rfl
  · have HM : Hid (keyL kw r = (false, q)) := by show _ = _; simp [keyL, hq, h1]
    have hb : (q.take (wordLenL q) == kw) = false := by simpa using h1
    clear hq
    go_wp2
    go_ret
    rw [HM.out]
    exact ⟨rfl, hs, hk⟩

end Go.Proofs.YtenlijgnmhdopaaGreatDoor
