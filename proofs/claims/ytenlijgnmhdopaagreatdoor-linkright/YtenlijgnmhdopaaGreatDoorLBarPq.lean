import Derived.Test.YtenlijgnmhdopaaGreatDoorMLe
/- Plain: what is barred is not used; a field whose number is barred makes a file wrong. -/
namespace Go.Proofs.YtenlijgnmhdopaaGreatDoor
namespace L

def nextM (x : FI) (s : Mem) : Mem := ⟨addL x.name s.names, addL x.number s.nums, x.choice, max s.begun x.choice⟩
/-- No rule is broken. -/
def passB (g : GI) (bar : List Int) (x : FI) (s : Mem) : Bool := !(!namedB x.name || decide (x.name ∈ s.names)) && (canB x.number && (!(decide (x.number ∈ bar) || decide (x.number ∈ s.nums)) && (!(decide (x.kind < 1) || decide (10 < x.kind)) && (hasB g x && (!(needB x || (decide (0 < x.choice) && x.many)) && !misB s.last s.begun x.choice)))))
theorem rules_pass {g : GI} {bar : List Int} {x : FI} {s : Mem} (h : passB g bar x s = true) : rulesGo (stepF g bar) 0 errsF x s = (none, nextM x s) := by
  simp only [passB, Bool.and_eq_true, Bool.not_eq_true'] at h
  obtain ⟨h0, h1, h2, h3, h4, h5, h6⟩ := h
  simp [errsF, rulesGo, stepF, h0, h1, h2, h3, h4, h5, h6, nextM]
theorem rules_fail {g : GI} {bar : List Int} {x : FI} {s : Mem} (h : passB g bar x s = false) : ∃ e s', rulesGo (stepF g bar) 0 errsF x s = (some e, s') ∧ e ≠ 0 := by
  unfold passB at h
  cases h0 : (!namedB x.name || decide (x.name ∈ s.names)) with
  | true => exact ⟨7, _, by simp only [errsF, rulesGo, stepF]; rw [h0]; rfl, by decide⟩
  | false =>
    cases h1 : canB x.number with
    | false => exact ⟨3, _, by simp only [errsF, rulesGo, stepF]; rw [h0, h1]; rfl, by decide⟩
    | true =>
      cases h2 : (decide (x.number ∈ bar) || decide (x.number ∈ s.nums)) with
      | true => exact ⟨8, _, by simp only [errsF, rulesGo, stepF]; rw [h0, h1, h2]; rfl, by decide⟩
      | false =>
        cases h3 : (decide (x.kind < 1) || decide (10 < x.kind)) with
        | true => exact ⟨1, _, by simp only [errsF, rulesGo, stepF]; rw [h0, h1, h2, h3]; rfl, by decide⟩
        | false =>
          cases h4 : hasB g x with
          | false => exact ⟨6, _, by simp only [errsF, rulesGo, stepF]; rw [h0, h1, h2, h3, h4]; rfl, by decide⟩
          | true =>
            cases h5 : (needB x || (decide (0 < x.choice) && x.many)) with
            | true => exact ⟨8, _, by simp only [errsF, rulesGo, stepF]; rw [h0, h1, h2, h3, h4, h5]; rfl, by decide⟩
            | false =>
              cases h6 : misB s.last s.begun x.choice with
              | true => exact ⟨2, _, by simp only [errsF, rulesGo, stepF]; rw [h0, h1, h2, h3, h4, h5, h6]; rfl, by decide⟩
              | false => rw [h0, h1, h2, h3, h4, h5, h6] at h; cases h
/-- A right list: each one passes, in turn. -/
theorem first_cons {g : GI} {bar : List Int} {i : Nat} {x : FI} {l : List FI} {s : Mem} (h : (firstGo (stepF g bar) errsF i (x :: l) s).1 = 0) : passB g bar x s = true ∧ (firstGo (stepF g bar) errsF (i + 1) l (nextM x s)).1 = 0 := by
  cases hp : passB g bar x s with
  | true =>
    rw [firstGo, rules_pass hp] at h
    exact ⟨rfl, h⟩
  | false =>
    obtain ⟨e, s', h1, h2⟩ := rules_fail hp
    rw [firstGo, h1] at h
    exact absurd h h2
theorem addL_mem {α : Type} [DecidableEq α] (x : α) (l : List α) : x ∈ addL x l ∧ ∀ y ∈ l, y ∈ addL x l := by
  unfold addL
  split
  · rename_i h; exact ⟨h, fun y hy => hy⟩
  · exact ⟨by simp, fun y hy => by simp [hy]⟩
theorem pass_num {g : GI} {bar : List Int} {x : FI} {s : Mem} (h : passB g bar x s = true) : canB x.number = true ∧ x.number ∉ bar ∧ x.number ∉ s.nums := by
  simp only [passB, Bool.and_eq_true, Bool.not_eq_true', Bool.or_eq_false_iff, decide_eq_false_iff_not] at h
  exact ⟨h.2.1, h.2.2.1.1, h.2.2.1.2⟩
theorem first_all {g : GI} {bar : List Int} : ∀ (l : List FI) (i : Nat) (s : Mem), (firstGo (stepF g bar) errsF i l s).1 = 0 → ∀ y ∈ l, canB y.number = true ∧ y.number ∉ bar ∧ y.number ∉ s.nums
  | [], _, _, _, _, hy => by simp at hy
  | x :: l, i, s, h, y, hy => by
    obtain ⟨h1, h2⟩ := first_cons h
    rcases List.mem_cons.1 hy with rfl | hy
    · exact pass_num h1
    · obtain ⟨a, b, c⟩ := first_all l _ _ h2 y hy
      exact ⟨a, b, fun e => c ((addL_mem x.number s.nums).2 _ e)⟩
theorem pass_more {g : GI} {bar : List Int} {x : FI} {s : Mem} {n : Int} (h : passB g bar x s = true) (hn : x.number ≠ n) : passB g (bar ++ [n]) x s = true := by
  have e : decide (x.number ∈ bar ++ [n]) = decide (x.number ∈ bar) := by rw [Bool.eq_iff_iff]; simp [hn]
  unfold passB at h ⊢
  rw [e]
  exact h
/-- With the number of a field barred that field is the first one that is wrong. -/
theorem first_barred {g : GI} {bar : List Int} : ∀ (l : List FI) (i k : Nat) (s : Mem) (f : FI), (firstGo (stepF g bar) errsF i l s).1 = 0 → l[k]? = some f → firstGo (stepF g (bar ++ [f.number])) errsF i l s = (8, i + k)
  | [], _, _, _, _, _, hf => by simp at hf
  | x :: l, i, 0, s, f, h, hf => by
    obtain ⟨h1, _⟩ := first_cons h
    have hf : x = f := by simpa using hf
    subst hf
    simp only [passB, Bool.and_eq_true, Bool.not_eq_true'] at h1
    obtain ⟨h0, hc, _⟩ := h1
    obtain ⟨s', e⟩ : ∃ s', rulesGo (stepF g (bar ++ [x.number])) 0 errsF x s = (some 8, s') := by
      have hm : (decide (x.number ∈ bar ++ [x.number]) || decide (x.number ∈ s.nums)) = true := by simp
      refine ⟨⟨addL x.name s.names, addL x.number s.nums, s.last, s.begun⟩, ?_⟩
      simp only [errsF, rulesGo, stepF]
      rw [h0, hc, hm]
      rfl
    rw [firstGo, e]
    rfl
  | x :: l, i, k + 1, s, f, h, hf => by
    obtain ⟨h1, h2⟩ := first_cons h
    have hf' : l[k]? = some f := by simpa using hf
    have hne : x.number ≠ f.number := by
      intro e
      have := (first_all l _ _ h2 f (List.mem_of_getElem? hf')).2.2
      exact this (by rw [← e]; exact (addL_mem x.number s.nums).1)
    rw [firstGo, rules_pass (pass_more h1 hne)]
    have := first_barred l (i + 1) k (nextM x s) f h2 hf'
    simp only [this]
    congr 1
    omega

theorem msgs_some {g : GI} : ∀ (l : List MI) (i : Nat) (q : Int × Nat), msgsGo g i l = some q → q.1 ≠ 0
  | [], _, _, h => by cases h
  | m :: l, i, q, h => by
    rw [msgsGo] at h
    split at h
    · rename_i h0; cases h; exact h0
    · exact msgs_some l _ q h
theorem msgs_none {g : GI} : ∀ (l : List MI) (i : Nat), msgsGo g i l = none → ∀ m ∈ l, wrongM g m = 0
  | [], _, _, _, hm => by simp at hm
  | x :: l, i, h, m, hm => by
    rw [msgsGo] at h
    split at h
    · cases h
    · rename_i h0
      rcases List.mem_cons.1 hm with rfl | hm
      · simpa using h0
      · exact msgs_none l _ h m hm
/-- Of a right file: each message is right. -/
theorem right_inv {g : GI} (h : (wrongL g).1 = 0) : ¬ 10 < g.msgs.length + g.enums.length ∧ (firstGo stepS [7] 0 (namesL g) []).1 = 0 ∧ ∀ m ∈ g.msgs, wrongM g m = 0 := by
  unfold wrongL at h
  split at h
  · cases h
  · rename_i h1
    split at h
    · rename_i h2; exact absurd h h2
    · rename_i h2
      refine ⟨h1, by simpa using h2, ?_⟩
      cases hm : msgsGo g 0 g.msgs with
      | some q => rw [hm] at h; exact absurd h (msgs_some _ _ q hm)
      | none => exact msgs_none _ _ hm
theorem rightM {g : GI} {m : MI} (h : wrongM g m = 0) : m.fields.length ≤ 16 ∧ m.barred.length ≤ 16 ∧ m.barred.any barB = false ∧ (firstGo (stepF g m.barred) errsF 0 m.fields mem0).1 = 0 := by
  unfold wrongM at h
  split at h
  · cases h
  · rename_i h1
    split at h
    · cases h
    · rename_i h2
      exact ⟨by omega, by omega, by simpa using h2, h⟩
/-- What is barred is not used. -/
theorem barred_free {g : GI} (h : (wrongL g).1 = 0) {m : MI} (hm : m ∈ g.msgs) {n : Int} (hn : n ∈ m.barred) {f : FI} (hf : f ∈ m.fields) : f.number ≠ n := by
  intro e
  exact (first_all _ _ _ (rightM ((right_inv h).2.2 m hm)).2.2.2 f hf).2.1 (e ▸ hn)

theorem firstI_names {α : Type} (nm : α → List UInt8) (s : List UInt8) (l l' : List α) (h : l.map nm = l'.map nm) : firstI (fun m => decide (nm m = s)) l = firstI (fun m => decide (nm m = s)) l' := by
  have e : ∀ l : List α, l.findIdx? (fun m => decide (nm m = s)) = (l.map nm).findIdx? (fun x => decide (x = s)) := by
    intro l
    rw [List.findIdx?_map]
    rfl
  unfold firstI
  rw [e l, e l', h]
theorem set_names {l : List MI} {i : Nat} {m m' : MI} (hm : l[i]? = some m) (he : m'.name = m.name) : (l.set i m').map MI.name = l.map MI.name := by
  rw [List.map_set, he]
  obtain ⟨hi, e⟩ := List.getElem?_eq_some_iff.1 hm
  have : (l.map MI.name)[i]'(by simpa using hi) = m.name := by simp [e]
  rw [← this, List.set_getElem_self]
theorem hasB_names {g g' : GI} (h1 : g.msgs.map MI.name = g'.msgs.map MI.name) (h2 : g.enums = g'.enums) (x : FI) : hasB g x = hasB g' x := by
  unfold hasB
  rw [firstI_names MI.name x.type _ _ h1, h2]
theorem stepF_names {g g' : GI} (h1 : g.msgs.map MI.name = g'.msgs.map MI.name) (h2 : g.enums = g'.enums) (bar : List Int) : stepF g bar = stepF g' bar := by
  funext j x s
  match j with
  | 0 => rfl
  | 1 => rfl
  | 2 => rfl
  | 3 => rfl
  | 4 => simp only [stepF]; rw [hasB_names h1 h2]
  | 5 => rfl
  | _ + 6 => rfl
theorem wrongM_names {g g' : GI} (h1 : g.msgs.map MI.name = g'.msgs.map MI.name) (h2 : g.enums = g'.enums) (m : MI) : wrongM g m = wrongM g' m := by
  unfold wrongM
  rw [stepF_names h1 h2]
theorem msgs_at {g : GI} : ∀ (l : List MI) (i k : Nat) (m : MI), (∀ j x, j < k → l[j]? = some x → wrongM g x = 0) → l[k]? = some m → wrongM g m ≠ 0 → msgsGo g i l = some (wrongM g m, i + k)
  | [], _, _, _, _, h, _ => by simp at h
  | x :: l, i, 0, m, _, h, hm => by
    have h : x = m := by simpa using h
    subst h
    rw [msgsGo, if_pos hm]
    rfl
  | x :: l, i, k + 1, m, ha, h, hm => by
    rw [msgsGo, if_neg (by simpa using ha 0 x (by omega) rfl), msgs_at l (i + 1) k m (fun j y hj hy => ha (j + 1) y (by omega) (by simpa using hy)) (by simpa using h) hm]
    congr 2
    omega
theorem bar_can {n : Int} (h : canB n = true) : barB n = false := by
  simp [canB, barB] at h ⊢
  omega
/-- A field whose number is barred makes a right file wrong: there, and so. -/
theorem barred_wrong {g : GI} (h : (wrongL g).1 = 0) {i k : Nat} {m : MI} {f : FI} (hm : g.msgs[i]? = some m) (hf : m.fields[k]? = some f) (hb : m.barred.length < 16) :
    wrongL ⟨g.msgs.set i ⟨m.name, m.fields, m.barred ++ [f.number]⟩, g.enums⟩ = (8, i) := by
  obtain ⟨h1, h2, h3⟩ := right_inv h
  obtain ⟨r1, r2, r3, r4⟩ := rightM (h3 m (List.mem_of_getElem? hm))
  have hn := set_names (m' := ⟨m.name, m.fields, m.barred ++ [f.number]⟩) hm rfl
  have hW : ∀ x, wrongM ⟨g.msgs.set i ⟨m.name, m.fields, m.barred ++ [f.number]⟩, g.enums⟩ x = wrongM g x := fun x => wrongM_names (g := ⟨g.msgs.set i ⟨m.name, m.fields, m.barred ++ [f.number]⟩, g.enums⟩) (g' := g) hn rfl x
  have hi : i < g.msgs.length := (List.getElem?_eq_some_iff.1 hm).1
  have hcan := (first_all _ _ _ r4 f (List.mem_of_getElem? hf)).1
  have hwm : wrongM g ⟨m.name, m.fields, m.barred ++ [f.number]⟩ = 8 := by
    unfold wrongM
    rw [if_neg (by simp; omega), if_neg (by simp [List.any_append, r3, bar_can hcan])]
    rw [first_barred m.fields 0 k mem0 f r4 hf]
  have hgo : msgsGo ⟨g.msgs.set i ⟨m.name, m.fields, m.barred ++ [f.number]⟩, g.enums⟩ 0 (g.msgs.set i ⟨m.name, m.fields, m.barred ++ [f.number]⟩) = some (8, i) := by
    have := msgs_at (g := ⟨g.msgs.set i ⟨m.name, m.fields, m.barred ++ [f.number]⟩, g.enums⟩) (g.msgs.set i ⟨m.name, m.fields, m.barred ++ [f.number]⟩) 0 i ⟨m.name, m.fields, m.barred ++ [f.number]⟩ ?_ (by rw [List.getElem?_set_self hi]) (by rw [hW, hwm]; decide)
    · rw [this, hW, hwm]; simp
    · intro j x hj hx
      rw [List.getElem?_set_ne (by omega)] at hx
      rw [hW]
      exact h3 x (List.mem_of_getElem? hx)
  have hnm : namesL ⟨g.msgs.set i ⟨m.name, m.fields, m.barred ++ [f.number]⟩, g.enums⟩ = namesL g := by
    unfold namesL
    simp only [hn]
  unfold wrongL
  rw [hnm, if_neg (by simpa using h1), if_neg (by simpa using h2), hgo]

end L
end Go.Proofs.YtenlijgnmhdopaaGreatDoor

