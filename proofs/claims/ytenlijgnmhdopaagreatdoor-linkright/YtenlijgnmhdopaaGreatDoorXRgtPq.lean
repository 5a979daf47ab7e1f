import Derived.Test.YtenlijgnmhdopaaGreatDoorSRndq
import Derived.Test.YtenlijgnmhdopaaGreatDoorSParq
import Derived.Test.YtenlijgnmhdopaaGreatDoorMSb
import Derived.Test.YtenlijgnmhdopaaGreatDoorXBrq
import Derived.Test.YtenlijgnmhdopaaGreatDoorLBarPq
/- Plain: a right file is a text's file; linked again, printed, parsed and linked it is itself. -/
namespace Go.Proofs.YtenlijgnmhdopaaGreatDoor
open L

theorem named_ok {l : List UInt8} (h : L.namedB l = true) : NameOk l := by
  simp only [L.namedB, Bool.and_eq_true, Bool.not_eq_true', decide_eq_true_eq] at h
  refine ⟨?_, h.2.1, h.2.2⟩
  intro e; rw [e] at h; simp at h
/-- Of right fields: each passes. -/
theorem pass_all {g : GI} {bar : List Int} : ∀ (l : List FI) (i : Nat) (s : Mem), (firstGo (stepF g bar) errsF i l s).1 = 0 → ∀ y ∈ l, ∃ s, passB g bar y s = true
  | [], _, _, _, _, hy => by simp at hy
  | x :: l, i, s, h, y, hy => by
    obtain ⟨h1, h2⟩ := first_cons h
    rcases List.mem_cons.1 hy with rfl | hy
    · exact ⟨s, h1⟩
    · exact pass_all l _ _ h2 y hy
/-- What is right with a field. -/
structure RF (g : GI) (x : FI) : Prop where
  nm : NameOk x.name
  lo : 1 ≤ x.number
  hi : x.number ≤ 536870911
  k1 : 1 ≤ x.kind
  k2 : x.kind ≤ 10
  has : hasB g x = true
  typ : x.kind ≠ 10 → x.kind ≠ 5 → x.type = []
  one : 0 < x.choice → x.many = false
theorem pass_rf {g : GI} {bar : List Int} {x : FI} {s : Mem} (h : passB g bar x s = true) : RF g x := by
  simp only [passB, Bool.and_eq_true, Bool.not_eq_true', Bool.or_eq_false_iff, decide_eq_false_iff_not] at h
  obtain ⟨⟨h0, _⟩, h1, _, ⟨h3, h3'⟩, h4, ⟨h5, h5'⟩, _⟩ := h
  refine ⟨named_ok (by simpa using h0), ?_, ?_, by omega, by omega, h4, ?_, ?_⟩
  · simp [canB] at h1; omega
  · simp [canB] at h1; omega
  · intro a b
    simp only [needB, Bool.and_eq_false_iff, decide_eq_false_iff_not, ne_eq, Decidable.not_not, Bool.not_eq_false'] at h5
    rcases h5 with h5 | h5 | h5
    · exact absurd h5 a
    · exact absurd h5 b
    · simpa using h5
  · intro a
    rw [Bool.and_eq_false_iff] at h5'
    rcases h5' with h5' | h5'
    · simp at h5'; omega
    · exact h5'

def frF (x : FI) : Fld := ⟨x.name, x.number.toNat, x.kind.toNat, x.type, x.many, x.choice.toNat⟩
def frM (m : MI) : Msg := ⟨m.name, m.fields.map frF, m.barred.map Int.toNat⟩
def frI (i : II) : Itm := ⟨i.name, i.value⟩
def frE (e : EI) : Enm := ⟨e.name, e.items.map frI⟩
def frG (g : GI) : Fil := ⟨g.msgs.map frM, g.enums.map frE⟩

/-- The choices of right fields are numbered as they come. -/
theorem num_id {g : GI} {bar : List Int} : ∀ (l : List FI) (i : Nat) (s : Mem), (firstGo (stepF g bar) errsF i l s).1 = 0 → 0 ≤ s.begun → (s.last = 0 ∨ s.last = s.begun) →
    (∀ y ∈ l, 0 ≤ y.choice) ∧ numGo s.last.toNat s.begun.toNat (l.map frF) = l.map frF
  | [], _, _, _, _, _ => ⟨fun y hy => by simp at hy, rfl⟩
  | x :: l, i, s, h, hb, hl => by
    obtain ⟨h1, h2⟩ := first_cons h
    have hm : misB s.last s.begun x.choice = false := by
      simp only [passB, Bool.and_eq_true, Bool.not_eq_true'] at h1
      exact h1.2.2.2.2.2.2
    have hc : x.choice = 0 ∨ x.choice = s.last ∨ x.choice = s.begun + 1 := by
      simp only [misB, Bool.and_eq_false_iff, decide_eq_false_iff_not, ne_eq, Decidable.not_not] at hm
      exact hm
    have hx0 : 0 ≤ x.choice := by omega
    obtain ⟨i1, i2⟩ := num_id l (i + 1) (nextM x s) h2 (by simp only [nextM]; omega) (by simp only [nextM]; omega)
    refine ⟨fun y hy => ?_, ?_⟩
    · rcases List.mem_cons.1 hy with rfl | hy
      · exact hx0
      · exact i1 y hy
    · simp only [nextM] at i2
      rw [List.map_cons, numGo]
      have hf : ∀ c : Nat, c = (frF x).choice → setC c (frF x) = frF x := by intro c hc; rw [hc]; rfl
      have hfc : (frF x).choice = x.choice.toNat := rfl
      by_cases q0 : x.choice = 0
      · rw [if_pos (by rw [hfc, q0]; rfl), hf 0 (by rw [hfc, q0]; rfl)]
        have e1 : max s.begun x.choice = s.begun := by omega
        rw [e1, q0] at i2
        rw [show ((0 : Int).toNat) = 0 from rfl] at i2
        rw [i2]
      · rw [if_neg (by rw [hfc]; omega)]
        by_cases q1 : x.choice = s.last
        · have e1 : max s.begun x.choice = s.begun := by omega
          rw [if_pos (by rw [hfc, q1]), hf s.begun.toNat (by rw [hfc]; omega)]
          rw [e1] at i2
          rw [hfc, i2]
        · have q2 : x.choice = s.begun + 1 := by omega
          have e1 : max s.begun x.choice = s.begun + 1 := by omega
          rw [if_neg (by rw [hfc]; omega), hf (s.begun.toNat + 1) (by rw [hfc]; omega)]
          rw [e1] at i2
          have e2 : (s.begun + 1).toNat = s.begun.toNat + 1 := by omega
          rw [e2] at i2
          rw [hfc, i2]

theorem stepS_names : ∀ (l : List (List UInt8)) (i : Nat) (s : List (List UInt8)), (firstGo stepS [7] i l s).1 = 0 → (∀ n ∈ l, L.namedB n = true ∧ keptB n = false ∧ n ∉ s) ∧ l.Pairwise (fun a b => a ≠ b)
  | [], _, _, _ => ⟨fun n hn => by simp at hn, List.Pairwise.nil⟩
  | x :: l, i, s, h => by
    rw [firstGo] at h
    cases hq : nameB x s with
    | true =>
      have : rulesGo stepS 0 [7] x s = (some 7, addL x s) := by simp only [rulesGo, stepS, hq, if_true]
      rw [this] at h
      simp at h
    | false =>
      have e : rulesGo stepS 0 [7] x s = (none, addL x s) := by simp only [rulesGo, stepS, hq]; rfl
      rw [e] at h
      obtain ⟨h1, h2⟩ := stepS_names l (i + 1) (addL x s) h
      simp only [nameB, Bool.or_eq_false_iff, Bool.not_eq_false', decide_eq_false_iff_not] at hq
      refine ⟨fun n hn => ?_, ?_⟩
      · rcases List.mem_cons.1 hn with rfl | hn
        · exact ⟨hq.1, hq.2.1, hq.2.2⟩
        · obtain ⟨a, b, c⟩ := h1 n hn
          exact ⟨a, b, fun hs => c ((addL_mem x s).2 n hs)⟩
      · refine List.Pairwise.cons (fun n hn e => ?_) h2
        subst e
        exact (h1 _ hn).2.2 (addL_mem _ s).1

theorem firstI_ge {α : Type} {p : α → Bool} {l : List α} (h : 0 ≤ firstI p l) : ∃ a ∈ l, p a = true := by
  unfold firstI at h
  cases hf : l.findIdx? p with
  | none => rw [hf] at h; simp at h
  | some k =>
    obtain ⟨hk, hp, _⟩ := List.findIdx?_eq_some_iff_getElem.1 hf
    exact ⟨l[k], List.getElem_mem hk, hp⟩
theorem firstI_lt {α : Type} {p : α → Bool} {l : List α} (h : firstI p l < 0) : ∀ a ∈ l, p a = false := by
  unfold firstI at h
  cases hf : l.findIdx? p with
  | none => exact List.findIdx?_eq_none_iff.1 hf
  | some k => rw [hf] at h; simp at h; omega
theorem firstI_no {α : Type} {p : α → Bool} {l : List α} (h : ∀ a ∈ l, p a = false) : firstI p l < 0 := by rw [first_none h]; decide

theorem enums_some : ∀ (l : List EI) (i : Nat) (q : Int × Nat), enumsGo i l = some q → q.1 ≠ 0
  | [], _, _, h => by cases h
  | m :: l, i, q, h => by
    rw [enumsGo] at h
    split at h
    · rename_i h0; cases h; exact h0
    · exact enums_some l _ q h
theorem enums_none : ∀ (l : List EI) (i : Nat), enumsGo i l = none → ∀ m ∈ l, wrongE m = 0
  | [], _, _, _, hm => by simp at hm
  | x :: l, i, h, m, hm => by
    rw [enumsGo] at h
    split at h
    · cases h
    · rename_i h0
      rcases List.mem_cons.1 hm with rfl | hm
      · simpa using h0
      · exact enums_none l _ h m hm
section
variable {g : GI} (hr : (wrongL g).1 = 0)
include hr
theorem rt_names : (∀ n ∈ namesL g, L.namedB n = true ∧ keptB n = false) ∧ (namesL g).Pairwise (fun a b => a ≠ b) := by
  obtain ⟨h1, h2⟩ := stepS_names _ _ _ (right_inv hr).2.1
  exact ⟨fun n hn => ⟨(h1 n hn).1, (h1 n hn).2.1⟩, h2⟩
theorem rt_rf {m : MI} (hm : m ∈ g.msgs) {x : FI} (hx : x ∈ m.fields) : RF g x := by
  obtain ⟨s, hs⟩ := pass_all _ _ _ (rightM ((right_inv hr).2.2 m hm)).2.2.2 x hx
  exact pass_rf hs
theorem rt_type {m : MI} (hm : m ∈ g.msgs) {x : FI} (hx : x ∈ m.fields) : (x.kind = 10 → x.type ∈ g.msgs.map MI.name) ∧ (x.kind = 5 → x.type ∈ g.enums.map EI.name) := by
  have h := (rt_rf hr hm hx).has
  unfold hasB at h
  refine ⟨fun k => ?_, fun k => ?_⟩
  · rw [if_pos k] at h
    obtain ⟨a, ha, hp⟩ := firstI_ge (by simpa using h)
    exact List.mem_map.2 ⟨a, ha, by simpa using hp⟩
  · rw [if_neg (by omega), if_pos k] at h
    obtain ⟨a, ha, hp⟩ := firstI_ge (by simpa using h)
    exact List.mem_map.2 ⟨a, ha, by simpa using hp⟩
theorem rt_apart {n : List UInt8} (h1 : n ∈ g.msgs.map MI.name) (h2 : n ∈ g.enums.map EI.name) : False := by
  have := (rt_names hr).2
  unfold namesL at this
  exact (List.pairwise_append.1 this).2.2 n h1 n h2 rfl
/-- Linked again it is the same. -/
theorem rt_link : linkL g = g := by
  have hf : ∀ m ∈ g.msgs, linkM g m = m := by
    intro m hm
    have : m.fields.map (linkF g) = m.fields := by
      refine (List.map_congr_left fun x hx => ?_).trans (List.map_id _)
      unfold linkF
      rw [if_neg]
      · rfl
      · rintro ⟨k, q, _⟩
        obtain ⟨a, ha, e⟩ := List.mem_map.1 ((rt_type hr hm hx).1 k)
        have := firstI_lt q a ha
        simp [e] at this
    unfold linkM
    rw [this]
  unfold linkL
  rw [(List.map_congr_left hf).trans (List.map_id _)]
theorem rt_enum : ∀ e ∈ g.enums, wrongE e = 0 := by
  have h := hr
  unfold wrongL at h
  rw [if_neg (by have := (right_inv hr).1; omega), if_neg (by have := (right_inv hr).2.1; simp [this])] at h
  cases hm : msgsGo g 0 g.msgs with
  | some q => rw [hm] at h; exact absurd h (msgs_some _ _ _ hm)
  | none =>
    rw [hm] at h
    cases he : enumsGo 0 g.enums with
    | none => exact enums_none _ _ he
    | some q =>
      rw [he] at h
      have h : q.1 = 0 := h
      exact absurd h (enums_some _ _ _ he)
end
theorem items_ok {n : Int} : ∀ (l : List II) (i : Nat) (s : List (List UInt8) × List Int), (firstGo (stepI n) [7, 3, 8] i l s).1 = 0 → ∀ x ∈ l, L.namedB x.name = true ∧ -2147483648 ≤ x.value ∧ x.value ≤ 2147483647
  | [], _, _, _, _, hx => by simp at hx
  | y :: l, i, s, h, x, hx => by
    rw [firstGo] at h
    cases q1 : (!L.namedB y.name || decide (y.name ∈ s.1)) with
    | true =>
      have e : rulesGo (stepI n) 0 [7, 3, 8] y s = (some 7, (addL y.name s.1, s.2)) := by simp only [rulesGo, stepI, q1, if_true]
      rw [e] at h; simp at h
    | false =>
      cases q2 : (decide (y.value < -2147483648) || decide (2147483647 < y.value)) with
      | true =>
        have e : rulesGo (stepI n) 0 [7, 3, 8] y s = (some 3, (addL y.name s.1, s.2)) := by simp only [rulesGo, stepI, q1, q2, if_true]; rfl
        rw [e] at h; simp at h
      | false =>
        cases q3 : (decide (n ≠ 0) || decide (y.value ∈ s.2)) with
        | true =>
          have e : rulesGo (stepI n) 0 [7, 3, 8] y s = (some 8, (addL y.name s.1, addL y.value s.2)) := by simp only [rulesGo, stepI, q1, q2, q3, if_true]; rfl
          rw [e] at h; simp at h
        | false =>
          have e : rulesGo (stepI n) 0 [7, 3, 8] y s = (none, (addL y.name s.1, addL y.value s.2)) := by simp only [rulesGo, stepI, q1, q2, q3]; rfl
          rw [e] at h
          rcases List.mem_cons.1 hx with rfl | hx
          · simp only [Bool.or_eq_false_iff, Bool.not_eq_false', decide_eq_false_iff_not] at q1 q2
            exact ⟨q1.1, by omega, by omega⟩
          · exact items_ok l _ _ h x hx
theorem word_ok : ∀ k : Nat, 1 ≤ k → k ≤ 9 → k ≠ 5 → NameOk (wordsL.getD (k - 1) []) ∧ wordsL.getD (k - 1) [] ≠ kwRepeated ∧ wordsL.getD (k - 1) [] ≠ kwReserved ∧ wordsL.getD (k - 1) [] ≠ kwOneof ∧ typeL (wordsL.getD (k - 1) []) = (k, []) := by
  intro k h1 h2 h3
  have : k = 1 ∨ k = 2 ∨ k = 3 ∨ k = 4 ∨ k = 6 ∨ k = 7 ∨ k = 8 ∨ k = 9 := by omega
  rcases this with rfl | rfl | rfl | rfl | rfl | rfl | rfl | rfl <;> (unfold NameOk; decide)
theorem kept_not {n : List UInt8} (h : keptB n = false) : n ≠ kwRepeated ∧ n ≠ kwReserved ∧ n ≠ kwOneof ∧ n ∉ wordsL := by
  simp only [keptB, Bool.or_eq_false_iff, decide_eq_false_iff_not] at h
  exact ⟨h.1, h.2.1, h.2.2.1, h.2.2.2⟩
theorem type_not : ∀ (ws : List (List UInt8)) (i : Nat) (n : List UInt8), n ∉ ws → typeFrom i ws n = (10, n)
  | [], _, _, _ => rfl
  | x :: ws, i, n, h => by
    rw [typeFrom, if_neg (fun e => h (by rw [e]; simp)), type_not ws (i + 1) n (fun e => h (by simp [e]))]

section
variable {g : GI} (hr : (wrongL g).1 = 0)
include hr
theorem rt_choice {m : MI} (hm : m ∈ g.msgs) : (∀ y ∈ m.fields, 0 ≤ y.choice) ∧ numGo 0 0 (m.fields.map frF) = m.fields.map frF :=
  num_id _ _ _ (rightM ((right_inv hr).2.2 m hm)).2.2.2 (by simp [mem0]) (.inl rfl)
theorem rt_bar {m : MI} (hm : m ∈ g.msgs) : ∀ n ∈ m.barred, 0 ≤ n ∧ n ≤ 536870911 := by
  intro n hn
  have h := (rightM ((right_inv hr).2.2 m hm)).2.2.1
  rw [List.any_eq_false] at h
  have := h n hn
  simp [barB] at this
  omega
theorem rt_back : toG (frG g) = g := by
  have hF : ∀ m ∈ g.msgs, toM (frM m) = m := by
    intro m hm
    have e1 : (m.fields.map frF).map toF = m.fields := by
      rw [List.map_map]
      refine (List.map_congr_left fun x hx => ?_).trans (List.map_id _)
      have h := rt_rf hr hm hx
      have hc := (rt_choice hr hm).1 x hx
      have a1 := h.lo
      have a2 := h.k1
      show (⟨x.name, ((x.number.toNat : Nat) : Int), ((x.kind.toNat : Nat) : Int), x.type, x.many, ((x.choice.toNat : Nat) : Int)⟩ : FI) = id x
      rw [Int.toNat_of_nonneg (by omega), Int.toNat_of_nonneg (by omega), Int.toNat_of_nonneg hc]
      rfl
    have e2 : (m.barred.map Int.toNat).map (fun n : Nat => (n : Int)) = m.barred := by
      rw [List.map_map]
      refine (List.map_congr_left fun n hn => ?_).trans (List.map_id _)
      exact Int.toNat_of_nonneg (rt_bar hr hm n hn).1
    unfold toM frM
    simp only [e1, e2]
  have hE : ∀ e ∈ g.enums, toE (frE e) = e := by
    intro e _
    have e1 : (e.items.map frI).map toI = e.items := by
      rw [List.map_map]
      exact (List.map_congr_left fun x _ => rfl).trans (List.map_id _)
    unfold toE frE
    simp only [e1]
  unfold toG frG
  simp only [List.map_map]
  have e1 : g.msgs.map (toM ∘ frM) = g.msgs := (List.map_congr_left (g := id) fun m hm => hF m hm).trans (List.map_id _)
  have e2 : g.enums.map (toE ∘ frE) = g.enums := (List.map_congr_left (g := id) fun e he => hE e he).trans (List.map_id _)
  rw [e1, e2]
theorem rt_name {n : List UInt8} (h : n ∈ namesL g) : NameOk n ∧ n ≠ kwRepeated ∧ n ≠ kwReserved ∧ n ≠ kwOneof ∧ typeL n = (10, n) := by
  obtain ⟨h1, h2⟩ := (rt_names hr).1 n h
  obtain ⟨a, b, c, d⟩ := kept_not h2
  exact ⟨named_ok h1, a, b, c, type_not _ _ _ d⟩
theorem rt_word {m : MI} (hm : m ∈ g.msgs) {x : FI} (hx : x ∈ m.fields) : NameOk (wordP (frF x)) ∧ wordP (frF x) ≠ kwRepeated ∧ wordP (frF x) ≠ kwReserved ∧ wordP (frF x) ≠ kwOneof ∧
    ((x.kind ≠ 5 ∧ x.kind ≠ 10 ∧ typeL (wordP (frF x)) = (x.kind.toNat, x.type)) ∨ ((x.kind = 5 ∨ x.kind = 10) ∧ typeL (wordP (frF x)) = (10, x.type))) := by
  have h := rt_rf hr hm hx
  have a1 := h.k1
  have a2 := h.k2
  by_cases hk : x.kind = 5 ∨ x.kind = 10
  · have hmem : x.type ∈ namesL g := by
      unfold namesL
      rcases hk with k | k
      · exact List.mem_append.2 (.inr ((rt_type hr hm hx).2 k))
      · exact List.mem_append.2 (.inl ((rt_type hr hm hx).1 k))
    have e : wordP (frF x) = x.type := by
      unfold wordP
      rw [if_neg]
      · rfl
      · show ¬ (1 ≤ x.kind.toNat ∧ x.kind.toNat ≤ 9 ∧ x.kind.toNat ≠ 5)
        omega
    obtain ⟨b1, b2, b3, b4, b5⟩ := rt_name hr hmem
    rw [e]
    exact ⟨b1, b2, b3, b4, .inr ⟨hk, b5⟩⟩
  · have e : wordP (frF x) = wordsL.getD (x.kind.toNat - 1) [] := by
      unfold wordP
      rw [if_pos]
      · rfl
      · show 1 ≤ x.kind.toNat ∧ x.kind.toNat ≤ 9 ∧ x.kind.toNat ≠ 5
        omega
    obtain ⟨b1, b2, b3, b4, b5⟩ := word_ok x.kind.toNat (by omega) (by omega) (by omega)
    rw [e]
    exact ⟨b1, b2, b3, b4, .inl ⟨by omega, by omega, by rw [b5, h.typ (by omega) (by omega)]⟩⟩
theorem rt_msgok : ∀ m ∈ (frG g).msgs, MsgOk m := by
  intro m' hm'
  obtain ⟨m, hm, rfl⟩ := List.mem_map.1 hm'
  obtain ⟨r1, r2, _, _⟩ := rightM ((right_inv hr).2.2 m hm)
  refine ⟨(rt_name hr (List.mem_append.2 (.inl (List.mem_map.2 ⟨m, hm, rfl⟩)))).1, ?_, ?_, by simpa [frM] using r1, by simpa [frM] using r2⟩
  · intro f hf
    obtain ⟨x, hx, rfl⟩ := List.mem_map.1 hf
    have h := rt_rf hr hm hx
    have hw := rt_word hr hm hx
    have hc := (rt_choice hr hm).1 x hx
    have a1 := h.hi
    refine ⟨⟨h.nm, hw.1, ?_, ?_⟩, fun _ _ => ⟨hw.2.1, hw.2.2.1, hw.2.2.2.1⟩⟩
    · show x.number.toNat ≤ 536870911
      omega
    · intro hn
      have hn : x.choice.toNat ≠ 0 := hn
      exact h.one (by omega)
  · intro n hn
    obtain ⟨z, hz, rfl⟩ := List.mem_map.1 hn
    have := rt_bar hr hm z hz
    show z.toNat ≤ 536870911
    omega
theorem rt_enmok : ∀ e ∈ (frG g).enums, EnmOk e := by
  intro e' he'
  obtain ⟨e, he, rfl⟩ := List.mem_map.1 he'
  have h := rt_enum hr e he
  unfold wrongE at h
  split at h
  · cases h
  · rename_i hn
    refine ⟨(rt_name hr (List.mem_append.2 (.inr (List.mem_map.2 ⟨e, he, rfl⟩)))).1, ?_, by simp [frE]; omega⟩
    intro i hi
    obtain ⟨x, hx, rfl⟩ := List.mem_map.1 hi
    obtain ⟨b1, b2, b3⟩ := items_ok _ _ _ h x hx
    exact ⟨named_ok b1, b2, b3⟩
theorem rt_num : ∀ m ∈ (frG g).msgs, (⟨m.name, numGo 0 0 m.fields, m.barred⟩ : Msg) = m := by
  intro m' hm'
  obtain ⟨m, hm, rfl⟩ := List.mem_map.1 hm'
  show (⟨m.name, numGo 0 0 (m.fields.map frF), m.barred.map Int.toNat⟩ : Msg) = frM m
  rw [(rt_choice hr hm).2]
  rfl
/-- Printed, parsed and linked it is itself. -/
theorem rt_again : linkL (toG ⟨(frG g).msgs.map numM, (frG g).enums⟩) = g := by
  have hb := rt_back hr
  have hbm : (frG g).msgs.map toM = g.msgs := congrArg GI.msgs hb
  have hbe : (frG g).enums.map toE = g.enums := congrArg GI.enums hb
  have hnames : (((frG g).msgs.map numM).map toM).map MI.name = g.msgs.map MI.name := by
    rw [← hbm]; simp only [List.map_map]; rfl
  have hF : ∀ m ∈ g.msgs, linkM (toG ⟨(frG g).msgs.map numM, (frG g).enums⟩) (toM (numM (frM m))) = m := by
    intro m hm
    have hnum : numM (frM m) = ⟨m.name, (m.fields.map frF).map reT, m.barred.map Int.toNat⟩ := by
      show (⟨m.name, (numGo 0 0 (m.fields.map frF)).map reT, m.barred.map Int.toNat⟩ : Msg) = _
      rw [(rt_choice hr hm).2]
    rw [hnum]
    have e2 : (m.barred.map Int.toNat).map (fun n : Nat => (n : Int)) = m.barred := by
      rw [List.map_map]
      refine (List.map_congr_left fun n hn => ?_).trans (List.map_id _)
      exact Int.toNat_of_nonneg (rt_bar hr hm n hn).1
    have e1 : (((m.fields.map frF).map reT).map toF).map (linkF (toG ⟨(frG g).msgs.map numM, (frG g).enums⟩)) = m.fields := by
      simp only [List.map_map]
      refine (List.map_congr_left fun x hx => ?_).trans (List.map_id _)
      have h := rt_rf hr hm hx
      have hc := (rt_choice hr hm).1 x hx
      have a1 := h.lo
      have a2 := h.k1
      have n1 : ((x.number.toNat : Nat) : Int) = x.number := Int.toNat_of_nonneg (by omega)
      have n2 : ((x.kind.toNat : Nat) : Int) = x.kind := Int.toNat_of_nonneg (by omega)
      have n3 : ((x.choice.toNat : Nat) : Int) = x.choice := Int.toNat_of_nonneg hc
      show linkF _ (⟨x.name, ((x.number.toNat : Nat) : Int), (((typeL (wordP (frF x))).1 : Nat) : Int), (typeL (wordP (frF x))).2, x.many, ((x.choice.toNat : Nat) : Int)⟩ : FI) = id x
      have fm : ∀ s, firstI (fun m => decide (m.name = s)) (toG ⟨(frG g).msgs.map numM, (frG g).enums⟩).msgs = firstI (fun m => decide (m.name = s)) g.msgs := fun s => firstI_names MI.name s _ _ hnames
      have fe : ∀ s, firstI (fun m => decide (m.name = s)) (toG ⟨(frG g).msgs.map numM, (frG g).enums⟩).enums = firstI (fun m => decide (m.name = s)) g.enums := fun s => by
        show firstI _ ((frG g).enums.map toE) = _
        rw [hbe]
      rcases (rt_word hr hm hx).2.2.2.2 with ⟨k5, k10, ht⟩ | ⟨hk, ht⟩
      · rw [ht, n1, n3]
        simp only [n2]
        unfold linkF
        rw [if_neg (fun q => k10 q.1)]
        rfl
      · rw [ht, n1, n3]
        unfold linkF
        rcases hk with hk | hk
        · have hte := (rt_type hr hm hx).2 hk
          rw [if_pos]
          · show (⟨x.name, x.number, 5, x.type, x.many, x.choice⟩ : FI) = x
            rw [← hk]
          · refine ⟨rfl, ?_, ?_⟩
            · show firstI (fun m : MI => decide (m.name = x.type)) _ < 0
              rw [fm]
              refine firstI_no fun a ha => ?_
              simp only [decide_eq_false_iff_not]
              intro e
              exact rt_apart hr (List.mem_map.2 ⟨a, ha, e⟩) hte
            · show 0 ≤ firstI (fun m : EI => decide (m.name = x.type)) _
              rw [fe]
              rcases Int.lt_or_le (firstI (fun m : EI => decide (m.name = x.type)) g.enums) 0 with q | q
              · obtain ⟨a, ha, e⟩ := List.mem_map.1 hte
                have := firstI_lt q a ha
                simp [e] at this
              · exact q
        · have htm := (rt_type hr hm hx).1 hk
          rw [if_neg]
          · show (⟨x.name, x.number, ((10 : Nat) : Int), x.type, x.many, x.choice⟩ : FI) = x
            have : ((10 : Nat) : Int) = x.kind := by rw [hk]; rfl
            rw [this]
          · rintro ⟨_, q, _⟩
            have q : firstI (fun m => decide (m.name = x.type)) (toG ⟨(frG g).msgs.map numM, (frG g).enums⟩).msgs < 0 := q
            rw [fm] at q
            obtain ⟨a, ha, e⟩ := List.mem_map.1 htm
            have := firstI_lt q a ha
            simp [e] at this
    unfold toM linkM
    simp only [e1, e2]
  have e3 : ((((frG g).msgs.map numM).map toM).map (linkM (toG ⟨(frG g).msgs.map numM, (frG g).enums⟩))) = g.msgs := by
    show ((((g.msgs.map frM).map numM).map toM).map (linkM (toG ⟨(frG g).msgs.map numM, (frG g).enums⟩))) = g.msgs
    simp only [List.map_map]
    exact (List.map_congr_left (g := id) fun m hm => hF m hm).trans (List.map_id _)
  show (⟨(((frG g).msgs.map numM).map toM).map (linkM (toG ⟨(frG g).msgs.map numM, (frG g).enums⟩)), (frG g).enums.map toE⟩ : GI) = g
  rw [e3, hbe]
theorem rt_few : (frG g).msgs.length + (frG g).enums.length ≤ 10 := by
  have := (right_inv hr).1
  simp only [frG, List.length_map]
  omega
end
theorem message_le2 {m : Msg} (h : MsgOk m) : (messageP m).length ≤ 3000 := by
  have h1 := fields_le m.fields 0 fun f hf => (h.2.1 f hf).1
  have h2 := nums_le h.2.2.1
  have h3 := h.1.2.1
  have h5 := h.2.2.2.1
  have h6 := h.2.2.2.2
  have h4 : (barP m.barred).length ≤ 600 := by
    unfold barP
    split
    · simp
    · simp only [lineP, resHead, List.length_append, List.flatten_cons, List.flatten_nil, List.length_nil, List.length_cons]; omega
  simp only [messageP, List.length_append, lineP, List.flatten_cons, List.flatten_nil, List.length_nil, List.length_cons, msgHead, braceP]
  omega
theorem print_le2 {ms : List Msg} {es : List Enm} (hm : ∀ m ∈ ms, MsgOk m) (he : ∀ e ∈ es, EnmOk e) (hl : ms.length + es.length ≤ 10) : (printP ms es).length ≤ 1000000 := by
  have h1 := flat_le messageP 3000 ms fun m h => message_le2 (hm m h)
  have h2 := flat_le enumP 1000 es fun e h => enum_le (he e h)
  rw [printP, List.length_append]
  omega

end Go.Proofs.YtenlijgnmhdopaaGreatDoor

