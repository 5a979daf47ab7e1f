/- Package press, plain: a right file's programs are right. -/
import Derived.Test.YthgbiflfinddiaaGreatLBarP
import Derived.Test.YthgbiflfinddiaaGreatKDef
namespace Go.Proofs.YthgbiflfinddiaaGreat
namespace L

theorem first_nums {g : GI} {bar : List Int} : ∀ (l : List FI) (i : Nat) (s : Mem), (firstGo (stepF g bar) errsF i l s).1 = 0 → (l.map FI.number).Pairwise fun a b => a ≠ b
  | [], _, _, _ => List.Pairwise.nil
  | x :: l, i, s, h => by
    obtain ⟨h1, h2⟩ := first_cons h
    rw [List.map_cons, List.pairwise_cons]
    refine ⟨fun b hb => ?_, first_nums l _ _ h2⟩
    obtain ⟨y, hy, rfl⟩ := List.mem_map.1 hb
    intro e
    exact (first_all l _ _ h2 y hy).2.2 (by rw [← e]; exact (addL_mem x.number s.nums).1)
theorem pass_each {g : GI} {bar : List Int} : ∀ (l : List FI) (i : Nat) (s : Mem), (firstGo (stepF g bar) errsF i l s).1 = 0 → ∀ y ∈ l, ∃ s, passB g bar y s = true
  | [], _, _, _, _, hy => by cases hy
  | x :: l, i, s, h, y, hy => by
    obtain ⟨h1, h2⟩ := first_cons h
    rcases List.mem_cons.1 hy with rfl | hy
    · exact ⟨s, h1⟩
    · exact pass_each l _ _ h2 y hy
theorem msg_right {g : GI} {m : MI} (h : wrongM g m = 0) : m.fields.length ≤ 16 ∧ (firstGo (stepF g m.barred) errsF 0 m.fields mem0).1 = 0 := by
  unfold wrongM at h
  split at h
  · cases h
  · rename_i h1
    split at h
    · cases h
    · exact ⟨by omega, h⟩
theorem firstI_bd {α : Type} (p : α → Bool) (l : List α) (h : 0 ≤ firstI p l) : firstI p l < (l.length : Int) := by
  unfold firstI at h ⊢
  cases hx : l.findIdx? p with
  | none => rw [hx] at h; simp at h
  | some k =>
    have := List.findIdx?_eq_some_iff_getElem.1 hx
    obtain ⟨h1, _⟩ := this
    simp
    exact h1
theorem how_cases (k : Int) : howN k = 0 ∨ howN k = 1 ∨ howN k = 2 ∨ howN k = 5 := by
  unfold howN; split
  · exact .inr (.inl rfl)
  · split
    · exact .inr (.inr (.inr rfl))
    · split
      · exact .inr (.inr (.inl rfl))
      · exact .inl rfl
theorem step_right {g : GI} {bar : List Int} {x : FI} {s : Mem} (h : passB g bar x s = true) (a : Int) (ha : a < x.number) : wrongT (stepN g x) a g.msgs.length = 0 := by
  simp only [passB, Bool.and_eq_true, Bool.not_eq_true', Bool.or_eq_false_iff, decide_eq_false_iff_not] at h
  obtain ⟨_, h1, _, ⟨h3, h4⟩, h5, _⟩ := h
  simp only [canB, Bool.and_eq_true, decide_eq_true_eq] at h1
  obtain ⟨c1, c2, _⟩ := h1
  have hk : kindN x = 1 ∨ kindN x = 2 ∨ kindN x = 3 ∨ kindN x = 4 := by
    unfold kindN; split
    · exact .inr (.inr (.inr rfl))
    · split
      · exact .inr (.inr (.inl rfl))
      · split
        · exact .inr (.inl rfl)
        · exact .inl rfl
  have hm : misN (stepN g x) = false := by
    unfold misN stepN kindN
    by_cases k10 : x.kind = 10
    · simp [k10, howN]
    · by_cases k2 : howN x.kind = 2
      · simp [k10, k2]
      · by_cases hmy : x.many = true <;> simp [k10, k2, hmy]
  have hn : nowN (stepN g x) g.msgs.length = false := by
    unfold nowN stepN
    by_cases k10 : x.kind = 10
    · have hk4 : kindN x = 4 := by unfold kindN; rw [if_pos k10]
      simp only [hasB, k10, if_true] at h5
      have h6 : 0 ≤ msgI g x.type := by simpa [msgI] using h5
      have h7 : msgI g x.type < (g.msgs.length : Int) := firstI_bd _ _ h6
      simp only [hk4, k10, if_true]
      rw [Bool.or_eq_false_iff]
      exact ⟨decide_eq_false (by omega), decide_eq_false (by omega)⟩
    · have hk4 : kindN x ≠ 4 := by
        unfold kindN; rw [if_neg k10]; split
        · decide
        · split <;> decide
      simp only [hk4, k10, if_false]
      simp
  unfold wrongT
  rw [hm, hn]
  have e1 : (stepN g x).kind = kindN x := rfl
  have e2 : (stepN g x).field = x.kind := rfl
  have e3 : (stepN g x).number = x.number := rfl
  rw [e1, e2, e3, if_neg (by omega), if_neg (by omega), if_neg (by omega)]
  rfl
theorem steps_right {g : GI} {l : List FI} {bar : List Int} (hl : ∀ y ∈ l, ∃ s, passB g bar y s = true) : ∀ (ns : List Int) (a : Int), (∀ n ∈ ns, ∃ f ∈ l, f.number = n) → (a :: ns).Pairwise (fun x y => x < y) → wrongTs g.msgs.length (ns.map fun n => stepN g (fieldN l n)) a = 0
  | [], _, _, _ => rfl
  | n :: ns, a, hm, hp => by
    obtain ⟨k, _, _, h3, h4⟩ := field_of (hm n (by simp))
    obtain ⟨s, hs⟩ := hl _ h4
    rw [List.pairwise_cons] at hp
    have hw : wrongT (stepN g (fieldN l n)) a g.msgs.length = 0 := step_right hs a (by rw [h3]; exact hp.1 n (by simp))
    rw [List.map_cons, wrongTs, hw]
    have e : (stepN g (fieldN l n)).number = n := h3
    rw [e]
    simp only [ne_eq, not_true_eq_false, if_false]
    exact steps_right hl ns n (fun y hy => hm y (List.mem_cons_of_mem _ hy)) hp.2
theorem nums_rise {m : MI} (h : (m.fields.map FI.number).Pairwise fun a b => a ≠ b) : (numsN m).Pairwise fun a b => a < b := by
  have h1 : (numsN m).Pairwise fun a b => decide (a ≤ b) = true := List.pairwise_mergeSort (fun a b c h1 h2 => by simp at *; omega) (fun a b => by simp; omega) _
  have h2 : (numsN m).Pairwise fun a b => a ≠ b := (List.mergeSort_perm (m.fields.map FI.number) _).symm.pairwise h (fun h => h.symm)
  refine (h1.and h2).imp ?_
  rintro a b ⟨h3, h4⟩
  have h3 := of_decide_eq_true h3
  omega
theorem prog_right {g : GI} {m : MI} (h : wrongM g m = 0) : wrongQ (progN g m) g.msgs.length = 0 := by
  obtain ⟨h1, h2⟩ := msg_right h
  unfold wrongQ
  rw [prog_len, if_neg (by omega)]
  refine steps_right (pass_each _ _ _ h2) (numsN m) 0 (fun n hn => nums_mem hn) ?_
  rw [List.pairwise_cons]
  refine ⟨fun n hn => ?_, nums_rise (first_nums _ _ _ h2)⟩
  obtain ⟨f, hf, rfl⟩ := nums_mem hn
  have := (first_all _ _ _ h2 f hf).1
  simp only [canB, Bool.and_eq_true, decide_eq_true_eq] at this
  omega
theorem progs_right {n : Nat} : ∀ (l : List (List TI)) (i : Nat), (∀ p ∈ l, wrongQ p n = 0) → wrongQs n i l = (0, 0)
  | [], _, _ => rfl
  | p :: l, i, h => by
    rw [wrongQs, h p (by simp)]
    simp only [ne_eq, not_true_eq_false, if_false]
    exact progs_right l _ fun q hq => h q (List.mem_cons_of_mem _ hq)
/-- A right file's programs are right. -/
theorem make_right {g : GI} (h : (wrongL g).1 = 0) : wrongP (makeN g) = (0, 0) := by
  obtain ⟨h1, _, h3⟩ := right_inv h
  unfold wrongP
  rw [make_len, if_neg (by omega)]
  refine progs_right _ _ fun p hp => ?_
  unfold makeN at hp
  obtain ⟨m, hm, rfl⟩ := List.mem_map.1 hp
  exact prog_right (h3 m hm)

end L
end Go.Proofs.YthgbiflfinddiaaGreat
