/- Plain: what is wrong with a file, field by field, item by item, each one looked at by itself. -/
import Derived.Test.YtenlijgnmhdopaaLBarP
namespace Go.Proofs.Ytenlijgnmhdopaa
namespace L

def kindE (g : GI) (x : FI) : Int :=
  if x.kind = 5 then (if firstI (fun m => decide (m.name = x.type)) g.enums < 0 then 6 else 0)
  else if x.kind = 10 then (if firstI (fun m => decide (m.name = x.type)) g.msgs < 0 then 6 else 0)
  else if 1 ≤ x.kind ∧ x.kind ≤ 9 then (if x.type = [] then 0 else 8)
  else 1
/-- How many choices began, and the last one. -/
def chGo : List FI → Int × Int → Int × Int
  | [], s => s
  | y :: l, s => chGo l (if y.choice ≠ 0 ∧ y.choice ≠ s.2 then s.1 + 1 else s.1, y.choice)
theorem chGo_snoc (l : List FI) (y : FI) (s : Int × Int) : chGo (l ++ [y]) s = (if y.choice ≠ 0 ∧ y.choice ≠ (chGo l s).2 then (chGo l s).1 + 1 else (chGo l s).1, y.choice) := by
  induction l generalizing s with
  | nil => rfl
  | cons x l ih => rw [List.cons_append, chGo, ih]; rfl
def refF (g : GI) (bar : List Int) (ahead : List FI) (x : FI) : Int :=
  if namedB x.name = false then 7
  else if x.name ∈ ahead.map FI.name then 7
  else if canB x.number = false then 3
  else if x.number ∈ bar then 8
  else if x.number ∈ ahead.map FI.number then 8
  else if kindE g x ≠ 0 then kindE g x
  else if x.many = true ∧ 0 < x.choice then 8
  else if misB (chGo ahead (0, 0)).2 (chGo ahead (0, 0)).1 x.choice = true then 2 else 0
def refGo (g : GI) (bar : List Int) : List FI → List FI → Int
  | _, [] => 0
  | pre, x :: l => if refF g bar pre x ≠ 0 then refF g bar pre x else refGo g bar (pre ++ [x]) l

theorem addL_iff {α : Type} [DecidableEq α] (x y : α) (l : List α) : y ∈ addL x l ↔ y ∈ l ∨ y = x := by
  unfold addL
  split
  · rename_i h; constructor
    · exact fun h => .inl h
    · rintro (h1 | rfl)
      · exact h1
      · exact h
  · simp
structure Agr (pre : List FI) (s : Mem) : Prop where
  nm : ∀ y, y ∈ s.names ↔ y ∈ pre.map FI.name
  nu : ∀ y, y ∈ s.nums ↔ y ∈ pre.map FI.number
  ch : chGo pre (0, 0) = (s.begun, s.last)
  b0 : 0 ≤ s.begun
  lb : s.last ≤ s.begun
theorem Agr.next {g : GI} {bar : List Int} {pre : List FI} {s : Mem} {x : FI} (h : Agr pre s) (hp : passB g bar x s = true) : Agr (pre ++ [x]) (nextM x s) := by
  have hm : misB s.last s.begun x.choice = false := by
    simp only [passB, Bool.and_eq_true, Bool.not_eq_true'] at hp
    exact hp.2.2.2.2.2.2
  have hb := h.b0
  have hl := h.lb
  have hc : x.choice = 0 ∨ x.choice = s.last ∨ x.choice = s.begun + 1 := by
    simp only [misB, Bool.and_eq_false_iff, decide_eq_false_iff_not, ne_eq, Decidable.not_not] at hm
    exact hm
  refine ⟨?_, ?_, ?_, ?_, ?_⟩
  · intro y
    simp only [nextM, List.map_append, List.map_cons, List.map_nil, List.mem_append, List.mem_singleton]
    rw [addL_iff, h.nm]
  · intro y
    simp only [nextM, List.map_append, List.map_cons, List.map_nil, List.mem_append, List.mem_singleton]
    rw [addL_iff, h.nu]
  · rw [chGo_snoc, h.ch]
    simp only [nextM, Prod.mk.injEq, and_true]
    split <;> omega
  · simp only [nextM]; omega
  · simp only [nextM]; omega
theorem rules_ref {g : GI} {bar : List Int} {pre : List FI} {s : Mem} (x : FI) (h : Agr pre s) :
    (passB g bar x s = true ∧ refF g bar pre x = 0) ∨ ∃ s', rulesGo (stepF g bar) 0 errsF x s = (some (refF g bar pre x), s') ∧ refF g bar pre x ≠ 0 := by
  have e1 : decide (x.name ∈ s.names) = decide (x.name ∈ pre.map FI.name) := by rw [Bool.eq_iff_iff]; simp only [decide_eq_true_eq]; exact h.nm _
  have e2 : decide (x.number ∈ s.nums) = decide (x.number ∈ pre.map FI.number) := by rw [Bool.eq_iff_iff]; simp only [decide_eq_true_eq]; exact h.nu _
  have e3 := h.ch
  cases h0 : namedB x.name with
  | false => exact .inr ⟨_, by simp only [errsF, rulesGo, stepF, refF]; rw [h0]; rfl, by simp [refF, h0]⟩
  | true =>
    by_cases hn : x.name ∈ pre.map FI.name
    · have : decide (x.name ∈ s.names) = true := by rw [e1]; simpa using hn
      have hr : refF g bar pre x = 7 := by simp only [refF]; rw [h0, if_neg (by simp), if_pos hn]
      rw [hr]
      exact .inr ⟨_, by simp only [errsF, rulesGo, stepF]; rw [h0, this]; rfl, by decide⟩
    · have t1 : decide (x.name ∈ s.names) = false := by rw [e1]; simpa using hn
      cases h1 : canB x.number with
      | false =>
        have hr : refF g bar pre x = 3 := by simp only [refF]; rw [h0, h1, if_neg (by simp), if_neg hn]; rfl
        rw [hr]
        exact .inr ⟨_, by simp only [errsF, rulesGo, stepF]; rw [h0, t1, h1]; rfl, by decide⟩
      | true =>
        by_cases hb : x.number ∈ bar
        · have : decide (x.number ∈ bar) = true := by simpa using hb
          have hr : refF g bar pre x = 8 := by simp only [refF]; rw [h0, h1, if_neg (by simp), if_neg hn, if_neg (by simp), if_pos hb]
          rw [hr]
          exact .inr ⟨_, by simp only [errsF, rulesGo, stepF]; rw [h0, t1, h1, this]; rfl, by decide⟩
        · have t2 : decide (x.number ∈ bar) = false := by simpa using hb
          by_cases hu : x.number ∈ pre.map FI.number
          · have : decide (x.number ∈ s.nums) = true := by rw [e2]; simpa using hu
            have hr : refF g bar pre x = 8 := by simp only [refF]; rw [h0, h1, if_neg (by simp), if_neg hn, if_neg (by simp), if_neg hb, if_pos hu]
            rw [hr]
            exact .inr ⟨_, by simp only [errsF, rulesGo, stepF]; rw [h0, t1, h1, t2, this]; rfl, by decide⟩
          · have t3 : decide (x.number ∈ s.nums) = false := by rw [e2]; simpa using hu
            have hR : refF g bar pre x = if kindE g x ≠ 0 then kindE g x else if x.many = true ∧ 0 < x.choice then 8 else if misB s.last s.begun x.choice = true then 2 else 0 := by
              simp only [refF]; rw [h0, h1, if_neg (by simp), if_neg hn, if_neg (by simp), if_neg hb, if_neg hu, e3]
            rw [hR]
            have hK : (kindE g x = 1 ∧ (decide (x.kind < 1) || decide (10 < x.kind)) = true) ∨ (kindE g x = 6 ∧ (decide (x.kind < 1) || decide (10 < x.kind)) = false ∧ hasB g x = false) ∨ (kindE g x = 8 ∧ (decide (x.kind < 1) || decide (10 < x.kind)) = false ∧ hasB g x = true ∧ needB x = true) ∨ (kindE g x = 0 ∧ (decide (x.kind < 1) || decide (10 < x.kind)) = false ∧ hasB g x = true ∧ needB x = false) := by
              unfold kindE hasB needB
              by_cases k5 : x.kind = 5
              · by_cases q : firstI (fun m => decide (m.name = x.type)) g.enums < 0
                · simp [k5, q] <;> (try omega)
                · simp [k5, q] <;> (try omega)
              · by_cases k10 : x.kind = 10
                · by_cases q : firstI (fun m => decide (m.name = x.type)) g.msgs < 0
                  · simp [k10, q] <;> (try omega)
                  · simp [k10, q] <;> (try omega)
                · by_cases k9 : 1 ≤ x.kind ∧ x.kind ≤ 9
                  · have a1 : ¬ x.kind < 1 := by omega
                    have a2 : ¬ 10 < x.kind := by omega
                    by_cases q : x.type = []
                    · simp [k5, k10, k9, q, a1, a2]
                    · simp [k5, k10, k9, q, a1, a2]
                  · have : x.kind < 1 ∨ 10 < x.kind := by omega
                    simp [k5, k10, k9, this]
            rcases hK with ⟨k1, k2⟩ | ⟨k1, k2, k3⟩ | ⟨k1, k2, k3, k4⟩ | ⟨k1, k2, k3, k4⟩
            · rw [k1, if_pos (by decide)]; exact .inr ⟨_, by simp only [errsF, rulesGo, stepF]; rw [h0, t1, h1, t2, t3, k2]; rfl, by decide⟩
            · rw [k1, if_pos (by decide)]; exact .inr ⟨_, by simp only [errsF, rulesGo, stepF]; rw [h0, t1, h1, t2, t3, k2, k3]; rfl, by decide⟩
            · rw [k1, if_pos (by decide)]; exact .inr ⟨_, by simp only [errsF, rulesGo, stepF]; rw [h0, t1, h1, t2, t3, k2, k3, k4]; rfl, by decide⟩
            · rw [k1, if_neg (by decide)]
              by_cases hm : x.many = true ∧ 0 < x.choice
              · have tm : (needB x || (decide (0 < x.choice) && x.many)) = true := by simp [hm.1, hm.2]
                rw [if_pos hm]
                exact .inr ⟨_, by simp only [errsF, rulesGo, stepF]; rw [h0, t1, h1, t2, t3, k2, k3, tm]; rfl, by decide⟩
              · have tm : (needB x || (decide (0 < x.choice) && x.many)) = false := by
                  rw [k4, Bool.false_or, Bool.and_eq_false_iff]
                  by_cases q : 0 < x.choice
                  · right; cases e : x.many with
                    | true => exact absurd ⟨e, q⟩ hm
                    | false => rfl
                  · left; simpa using q
                rw [if_neg hm]
                cases h6 : misB s.last s.begun x.choice with
                | true =>
                  exact .inr ⟨_, by simp only [errsF, rulesGo, stepF]; rw [h0, t1, h1, t2, t3, k2, k3, tm, h6]; rfl, by decide⟩
                | false =>
                  refine .inl ⟨?_, rfl⟩
                  unfold passB
                  rw [h0, t1, h1, t2, t3, k2, k3, tm, h6]; rfl
theorem first_ref {g : GI} {bar : List Int} : ∀ (l : List FI) (i : Nat) (pre : List FI) (s : Mem), Agr pre s → (firstGo (stepF g bar) errsF i l s).1 = refGo g bar pre l
  | [], _, _, _, _ => rfl
  | x :: l, i, pre, s, h => by
    rcases rules_ref (g := g) (bar := bar) x h with ⟨h1, h2⟩ | ⟨s', h1, h2⟩
    · rw [firstGo, rules_pass h1, refGo, if_neg (by simp [h2])]
      exact first_ref l (i + 1) _ _ (h.next h1)
    · rw [firstGo, h1, refGo, if_pos h2]
theorem wrongM_ref (g : GI) (m : MI) : wrongM g m = if 16 < m.fields.length ∨ 16 < m.barred.length then 5 else if m.barred.any barB then 3 else refGo g m.barred [] m.fields := by
  unfold wrongM
  rw [first_ref m.fields 0 [] mem0 ⟨fun _ => by simp [mem0], fun _ => by simp [mem0], rfl, by simp [mem0], by simp [mem0]⟩]

/-- Items. -/
def refI (ahead : List II) (x : II) : Int :=
  if x.name ∈ ahead.map II.name then 7
  else if namedB x.name = false then 7
  else if x.value < -2147483648 ∨ 2147483647 < x.value then 3
  else if x.value ∈ ahead.map II.value ∨ (ahead = [] ∧ x.value ≠ 0) then 8 else 0
def refIGo : List II → List II → Int
  | _, [] => 0
  | pre, x :: l => if refI pre x ≠ 0 then refI pre x else refIGo (pre ++ [x]) l
theorem first_refI : ∀ (l : List II) (n : Int) (i : Nat) (pre : List II) (s : List (List UInt8) × List Int), (∀ y, y ∈ s.1 ↔ y ∈ pre.map II.name) → (∀ y, y ∈ s.2 ↔ y ∈ pre.map II.value) → (pre = [] → ∀ x, l.head? = some x → n = x.value) → (pre ≠ [] → n = 0) → (firstGo (stepI n) [7, 3, 8] i l s).1 = refIGo pre l
  | [], _, _, _, _, _, _, _, _ => rfl
  | x :: l, n, i, pre, s, hn, hv, h0, h1 => by
    have e1 : decide (x.name ∈ s.1) = decide (x.name ∈ pre.map II.name) := by rw [Bool.eq_iff_iff]; simp only [decide_eq_true_eq]; exact hn _
    have e2 : decide (x.value ∈ s.2) = decide (x.value ∈ pre.map II.value) := by rw [Bool.eq_iff_iff]; simp only [decide_eq_true_eq]; exact hv _
    have hnz : decide (n ≠ 0) = decide (pre = [] ∧ x.value ≠ 0) := by
      rw [Bool.eq_iff_iff]; simp only [decide_eq_true_eq]
      by_cases hp : pre = []
      · rw [h0 hp x rfl]; simp [hp]
      · rw [h1 hp]; simp [hp]
    rw [refIGo, firstGo]
    by_cases q1 : x.name ∈ pre.map II.name
    · have t1 : decide (x.name ∈ s.1) = true := by rw [e1]; simpa using q1
      have hr : refI pre x = 7 := by rw [refI, if_pos q1]
      rw [hr, if_pos (by decide)]
      simp only [rulesGo, stepI, t1, Bool.or_true, if_true]
    · have t1 : decide (x.name ∈ s.1) = false := by rw [e1]; simpa using q1
      cases q2 : namedB x.name with
      | false =>
        have hr : refI pre x = 7 := by rw [refI, if_neg q1, if_pos q2]
        rw [hr, if_pos (by decide)]
        simp only [rulesGo, stepI, q2, Bool.not_false, Bool.true_or, if_true]
      | true =>
        by_cases q3 : x.value < -2147483648 ∨ 2147483647 < x.value
        · have hr : refI pre x = 3 := by rw [refI, if_neg q1, if_neg (by rw [q2]; simp), if_pos q3]
          have t3 : (decide (x.value < -2147483648) || decide (2147483647 < x.value)) = true := by simpa using q3
          rw [hr, if_pos (by decide)]
          simp only [rulesGo, stepI, q2, t1, t3, Bool.not_true, Bool.or_false, if_true]
          rfl
        · have t3 : (decide (x.value < -2147483648) || decide (2147483647 < x.value)) = false := by simpa using q3
          by_cases q4 : x.value ∈ pre.map II.value ∨ (pre = [] ∧ x.value ≠ 0)
          · have hr : refI pre x = 8 := by rw [refI, if_neg q1, if_neg (by rw [q2]; simp), if_neg q3, if_pos q4]
            have t4 : (decide (n ≠ 0) || decide (x.value ∈ s.2)) = true := by
              rw [hnz, e2]; simp only [Bool.or_eq_true, decide_eq_true_eq]; exact q4.symm
            rw [hr, if_pos (by decide)]
            simp only [rulesGo, stepI, q2, t1, t3, t4, Bool.not_true, Bool.or_false, if_true]
            rfl
          · have hr : refI pre x = 0 := by rw [refI, if_neg q1, if_neg (by rw [q2]; simp), if_neg q3, if_neg q4]
            have t4 : (decide (n ≠ 0) || decide (x.value ∈ s.2)) = false := by
              rw [hnz, e2, Bool.or_eq_false_iff]; simp only [decide_eq_false_iff_not]
              exact ⟨fun h => q4 (.inr h), fun h => q4 (.inl h)⟩
            rw [hr, if_neg (by decide)]
            have hgo : rulesGo (stepI n) 0 [7, 3, 8] x s = (none, (addL x.name s.1, addL x.value s.2)) := by
              simp only [rulesGo, stepI, q2, t1, t3, t4, Bool.not_true, Bool.or_false]
              rfl
            rw [hgo]
            refine first_refI l n (i + 1) (pre ++ [x]) _ ?_ ?_ (fun h => by simp at h) (fun _ => ?_)
            · intro y
              simp only [List.map_append, List.map_cons, List.map_nil, List.mem_append, List.mem_singleton]
              rw [addL_iff, hn]
            · intro y
              simp only [List.map_append, List.map_cons, List.map_nil, List.mem_append, List.mem_singleton]
              rw [addL_iff, hv]
            · have := (Bool.or_eq_false_iff.1 t4).1
              simpa using this
theorem wrongE_ref (e : EI) : wrongE e = if e.items.length < 1 ∨ 16 < e.items.length then 5 else refIGo [] e.items := by
  unfold wrongE
  split
  · rfl
  · rename_i h
    refine first_refI e.items _ 0 [] ([], []) (fun _ => by simp) (fun _ => by simp) (fun _ x hx => ?_) (fun h => by simp at h)
    cases hi : e.items with
    | nil => rw [hi] at hx; cases hx
    | cons y r => rw [hi] at hx; cases hx; rfl

/-- Names. -/
def freeB (s : List UInt8) : Bool := !keptB s && namedB s
def refNGo : Nat → List (List UInt8) → List (List UInt8) → Int × Nat
  | _, _, [] => (0, 0)
  | i, pre, s :: l => if freeB s = false ∨ s ∈ pre then (7, i) else refNGo (i + 1) (pre ++ [s]) l
theorem first_refN : ∀ (l : List (List UInt8)) (i : Nat) (pre s : List (List UInt8)), (∀ y, y ∈ s ↔ y ∈ pre) → firstGo stepS [7] i l s = refNGo i pre l
  | [], _, _, _, _ => rfl
  | x :: l, i, pre, s, h => by
    have e : nameB x s = decide (freeB x = false ∨ x ∈ pre) := by
      rw [Bool.eq_iff_iff]
      simp only [nameB, freeB, Bool.or_eq_true, Bool.not_eq_true', decide_eq_true_eq, Bool.and_eq_false_iff, Bool.not_eq_false', h]
      constructor
      · rintro (h | h | h)
        · exact .inl (.inr h)
        · exact .inl (.inl h)
        · exact .inr h
      · rintro ((h | h) | h)
        · exact .inr (.inl h)
        · exact .inl h
        · exact .inr (.inr h)
    rw [firstGo, refNGo]
    by_cases q : freeB x = false ∨ x ∈ pre
    · rw [if_pos q]
      simp only [rulesGo, stepS, e, q, decide_true, if_true]
    · rw [if_neg q]
      have hgo : rulesGo stepS 0 [7] x s = (none, addL x s) := by
        simp only [rulesGo, stepS, e, q, decide_false]
        rfl
      rw [hgo]
      refine first_refN l (i + 1) _ _ ?_
      intro y
      rw [addL_iff, h]; simp

end L
end Go.Proofs.Ytenlijgnmhdopaa
