import Derived.Test.YtelmjekjohbmjaaGreatDoorBWrongq
import Derived.Test.YtelmjekjohbmjaaGreatDoorM13
import Derived.Test.YtelmjekjohbmjaaGreatDoorM28
import Derived.Test.YtelmjekjohbmjaaGreatDoorLBarPq
import Derived.Lib.ConvBytes
import Derived.Lib.SmallJoins
/- What a right body is like, and what two make: plain. -/
namespace Go.Proofs.YtelmjekjohbmjaaGreatDoor
namespace L
open Go.RowKit
set_option linter.unusedVariables false

theorem firstE_zero {α : Type} {f : α → Int} : ∀ {l : List α}, firstE f l = 0 → ∀ a ∈ l, f a = 0
  | b :: l, h, a, ha => by
    unfold firstE at h
    split at h
    · rename_i hb
      rcases List.mem_cons.1 ha with rfl | ha
      · exact hb
      · exact firstE_zero h a ha
    · rename_i hb
      exact absurd h hb
theorem firstN_zero {e : Nat → Int} : ∀ {m k : Nat}, firstN e k m = 0 → ∀ i, k ≤ i → i < k + m → e i = 0
  | 0, k, _, i, h1, h2 => by omega
  | m + 1, k, h, i, h1, h2 => by
    unfold firstN at h
    split at h
    · rename_i hb
      by_cases e : i = k
      · rw [e]; exact hb
      · exact firstN_zero h i (by omega) (by omega)
    · rename_i hb
      exact absurd h hb
/-- A value that is right but for its place. -/
structure RtV {β : Type} (fs : List FI) (f : List UInt8 → β → Int) (x : FI) (v : VI β) : Prop where
  fld : fs.find? (isF v.number) = some x
  others : othersB x v = false
  misc : miscB x v = false
  without : withoutB x v = false
  bits : ∀ n ∈ v.bits, fitsI x.kind n = 0
  bytes : ∀ l ∈ v.bytes, bytesE x.kind l = 0
  subs : ∀ s ∈ v.subs, f x.type s = 0
theorem valE_inv {β : Type} {fs : List FI} {f : List UInt8 → β → Int} {v : VI β} {s : Int × List Int} (h : valE fs f v s = 0) : ∃ x, RtV fs f x v ∧ s.1 < v.number ∧ (0 < x.choice → x.choice ∉ s.2) ∧ nextS fs v s = (v.number, takeS x s.2) := by
  unfold valE at h
  split at h
  · cases h
  · rename_i x hx
    have e := firstN_zero h
    have e0 : (if decide (v.number ≤ s.1) then (2 : Int) else 0) = 0 := e 0 (by omega) (by omega)
    have e1 : (if othersB x v then (8 : Int) else 0) = 0 := e 1 (by omega) (by omega)
    have e2 : (if miscB x v then (5 : Int) else 0) = 0 := e 2 (by omega) (by omega)
    have e3 : (if withoutB x v then (2 : Int) else 0) = 0 := e 3 (by omega) (by omega)
    have e4 : firstE (fitsI x.kind) v.bits = 0 := e 4 (by omega) (by omega)
    have e5 : firstE (bytesE x.kind) v.bytes = 0 := e 5 (by omega) (by omega)
    have e6 : firstE (f x.type) v.subs = 0 := e 6 (by omega) (by omega)
    have e7 : (if decide (0 < x.choice ∧ x.choice ∈ s.2) then (8 : Int) else 0) = 0 := e 7 (by omega) (by omega)
    refine ⟨x, ⟨hx, ?_, ?_, ?_, firstE_zero e4, firstE_zero e5, firstE_zero e6⟩, ?_, ?_, ?_⟩
    · cases ho : othersB x v with
      | false => rfl
      | true => rw [ho] at e1; simp at e1
    · cases ho : miscB x v with
      | false => rfl
      | true => rw [ho] at e2; simp at e2
    · cases ho : withoutB x v with
      | false => rfl
      | true => rw [ho] at e3; simp at e3
    · by_cases hn : v.number ≤ s.1
      · rw [if_pos (by simpa using hn)] at e0; cases e0
      · omega
    · intro hc hm
      rw [if_pos (by simpa using ⟨hc, hm⟩)] at e7
      cases e7
    · unfold nextS
      have hx' : fs.find? (fun y => decide (y.number = v.number)) = some x := hx
      rw [hx']
/-- Right values: each right, rising, no choice twice. -/
structure RtL {β : Type} (fs : List FI) (f : List UInt8 → β → Int) (l : List (VI β)) : Prop where
  each : ∀ v ∈ l, ∃ x, RtV fs f x v
  rise : l.Pairwise fun a b => a.number < b.number
  apart : l.Pairwise fun a b => choiceF fs a.number ≤ 0 ∨ choiceF fs a.number ≠ choiceF fs b.number
theorem choice_of {β : Type} {fs : List FI} {f : List UInt8 → β → Int} {x : FI} {v : VI β} (h : RtV fs f x v) : choiceF fs v.number = x.choice := by
  have hx' : fs.find? (fun y => decide (y.number = v.number)) = some x := h.fld
  unfold choiceF
  rw [hx']
theorem valsE_inv {β : Type} {fs : List FI} {f : List UInt8 → β → Int} : ∀ {l : List (VI β)} {s : Int × List Int}, valsE fs f l s = 0 → RtL fs f l ∧ (∀ v ∈ l, s.1 < v.number) ∧ ∀ v ∈ l, 0 < choiceF fs v.number → choiceF fs v.number ∉ s.2
  | [], _, _ => ⟨⟨fun _ h => by simp at h, .nil, .nil⟩, fun _ h => by simp at h, fun _ h => by simp at h⟩
  | v :: l, s, h => by
    unfold valsE at h
    split at h
    · rename_i hv
      obtain ⟨x, hx, h1, h2, h3⟩ := valE_inv hv
      rw [h3] at h
      obtain ⟨⟨g1, g2, g3⟩, g4, g5⟩ := valsE_inv h
      have hc := choice_of hx
      refine ⟨⟨fun a ha => ?_, .cons (fun a ha => ?_) g2, .cons (fun a ha => ?_) g3⟩, fun a ha => ?_, fun a ha hp => ?_⟩
      · rcases List.mem_cons.1 ha with rfl | ha
        · exact ⟨x, hx⟩
        · exact g1 a ha
      · exact g4 a ha
      · by_cases hp : choiceF fs v.number ≤ 0
        · exact .inl hp
        · refine .inr fun e => ?_
          have h6 := g5 a ha (by omega)
          rw [← e, hc] at h6
          rw [hc] at hp
          unfold takeS at h6
          rw [if_pos (by omega)] at h6
          simp at h6
      · rcases List.mem_cons.1 ha with rfl | ha
        · exact h1
        · have := g4 a ha
          dsimp only at this
          omega
      · rcases List.mem_cons.1 ha with rfl | ha
        · rw [hc] at hp ⊢
          exact h2 hp
        · have h6 := g5 a ha hp
          unfold takeS at h6
          split at h6
          · simp only [List.mem_append, not_or] at h6
            exact h6.1
          · exact h6
    · rename_i hv
      exact absurd h hv
theorem bodyE_inv {g : GI} {d : Nat} {k : Int} {fs : List FI} {b : BI (d + 1)} (h : bodyE g (d + 1) k fs b = 0) : k ≤ 12 ∧ RtL fs (fun name s => bodyE g d (k + 1) (fieldsOf g name) s) (BO.vals b) ∧ ∀ r ∈ BO.unk b, unkE fs r = 0 := by
  rw [bodyE_succ] at h
  split at h
  · cases h
  · split at h
    · rename_i h1 h2
      exact ⟨by omega, (valsE_inv h2).1, firstE_zero h⟩
    · rename_i h1 h2
      exact absurd h h2
theorem one_sub {β : Type} {x : FI} {v : VI β} (h1 : othersB x v = false) (h2 : miscB x v = false) (hm : x.many = false) (hk : x.kind = 10) : ∃ s, v.subs = [s] := by
  unfold othersB at h1
  rw [if_neg (by omega), if_pos hk] at h1
  unfold miscB manyN at h2
  rw [hm] at h2
  simp only [decide_eq_false_iff_not, Bool.or_eq_false_iff, Bool.not_false, Bool.and_true] at h1 h2
  exact List.length_eq_one_iff.1 (by omega)
/-- A right body's values have their fields, its subs their messages. -/
theorem right_sh {g : GI} (hsub : Subs g) : ∀ (d : Nat) (k : Int) (m : MI) (b : BI d), m ∈ g.msgs → BOk d b → bodyE g d k m.fields b = 0 → ShB g.msgs d m b
  | 0, _, _, b, _, _, _ => nomatch (b : Empty)
  | d + 1, k, m, b, hm, hok, h => by
    obtain ⟨_, hr, _⟩ := bodyE_inv h
    intro v hv
    obtain ⟨x, hx⟩ := hr.each v hv
    refine ⟨(hok.1 v hv).1, x, hx.fld, fun h1 h2 => ?_⟩
    obtain ⟨s, hs⟩ := one_sub hx.others hx.misc h1 h2
    obtain ⟨m', hm'⟩ := hsub m hm x (List.mem_of_find?_eq_some hx.fld) h2
    have hmm : m' ∈ g.msgs := List.mem_of_find?_eq_some hm'
    have hz := hx.subs s (by rw [hs]; exact List.mem_singleton.2 rfl)
    unfold fieldsOf at hz
    rw [hm'] at hz
    exact ⟨m', s, hm', hs, right_sh hsub d (k + 1) m' s hmm ((hok.1 v hv).2.2.2.2.2.1 s (by rw [hs]; exact List.mem_singleton.2 rfl)) hz⟩

/-- How great the entries are, whatever the lists' lengths. -/
def VQk {β : Type} (Q : β → Prop) (v : VI β) : Prop := I64 v.number ∧ (∀ n ∈ v.bits, n < 18446744073709551616) ∧ (∀ l ∈ v.bytes, l.length * 1 ≤ reachBytes) ∧ ∀ s ∈ v.subs, Q s
def BQk : (d : Nat) → BI d → Prop
  | 0 => fun _ => False
  | d + 1 => fun b => (∀ v ∈ BO.vals b, VQk (BQk d) v) ∧ ∀ r ∈ BO.unk b, RecOk r
theorem qk_of : ∀ (d : Nat) (b : BI d), BOk d b → BQk d b
  | 0, _, h => h
  | d + 1, b, h => ⟨fun v hv => ⟨(h.1 v hv).1, (h.1 v hv).2.1, (h.1 v hv).2.2.2.1, fun s hs => qk_of d s ((h.1 v hv).2.2.2.2.2.1 s hs)⟩, h.2.2.1⟩
theorem sum_one {α : Type} (f : α → Nat) {l : List α} {a : α} (h : a ∈ l) : f a ≤ (l.map f).sum := by
  induction l with
  | nil => cases h
  | cons b l ih =>
    simp only [List.map_cons, List.sum_cons]
    rcases List.mem_cons.1 h with rfl | h
    · omega
    · have := ih h; omega
theorem ok_of : ∀ (d : Nat) (b : BI d), BQk d b → jWB d b ≤ 1000000000 → BOk d b
  | 0, _, h, _ => h
  | d + 1, b, h, hw => by
    have hw' : ((BO.vals b).map (jW (jWB d))).sum + (BO.unk b).length ≤ 1000000000 := hw
    have hl := len_sum (jW (jWB d)) (fun v => by unfold jW; omega) (BO.vals b)
    refine ⟨fun v hv => ?_, by unfold reachBytes; omega, h.2, by unfold reachBytes; omega⟩
    have h1 : 1 + v.bits.length + v.bytes.length + (v.subs.map fun s => 1 + jWB d s).sum ≤ ((BO.vals b).map (jW (jWB d))).sum := sum_one (jW (jWB d)) hv
    have h2 := len_sum (fun s => 1 + jWB d s) (fun _ => by omega) v.subs
    obtain ⟨q1, q2, q3, q4⟩ := h.1 v hv
    refine ⟨q1, q2, by unfold reachBytes; omega, q3, by unfold reachBytes; omega, fun s hs => ok_of d s (q4 s hs) ?_, by unfold reachBytes; omega⟩
    have := sum_one (fun s => 1 + jWB d s) hs
    omega
theorem met_qk {β : Type} {Q : β → Prop} {J : MI → β → β → β} (hJ : ∀ M s t, Q s → Q t → Q (J M s t)) {ms : List MI} {x : FI} {a b : VI β} (ha : VQk Q a) (hb : VQk Q b) : VQk Q (metN J ms x a b) := by
  unfold metN
  split
  · refine ⟨ha.1, fun n hn => ?_, fun n hn => ?_, fun n hn => ?_⟩
    · rcases List.mem_append.1 hn with h | h
      · exact ha.2.1 n h
      · exact hb.2.1 n h
    · rcases List.mem_append.1 hn with h | h
      · exact ha.2.2.1 n h
      · exact hb.2.2.1 n h
    · rcases List.mem_append.1 hn with h | h
      · exact ha.2.2.2 n h
      · exact hb.2.2.2 n h
  · split
    · split
      · rename_i M s l t m h1 h2 h3
        refine ⟨ha.1, ha.2.1, ha.2.2.1, fun n hn => ?_⟩
        rw [List.mem_singleton.1 hn]
        exact hJ M s t (ha.2.2.2 s (by rw [h2]; exact List.mem_cons_self ..)) (hb.2.2.2 t (by rw [h3]; exact List.mem_cons_self ..))
      · exact ha
    · exact hb
theorem step_qk {β : Type} {Q : β → Prop} {J : MI → β → β → β} (hJ : ∀ M s t, Q s → Q t → Q (J M s t)) {ms : List MI} {fs : List FI} {l : List (VI β)} {v : VI β} (hl : ∀ a ∈ l, VQk Q a) (hv : VQk Q v) : ∀ a ∈ jstep J ms fs l v, VQk Q a := by
  intro a ha
  unfold jstep at ha
  split at ha
  · exact hl a ha
  · split at ha
    · rcases mem_put ha with rfl | h
      · exact hv
      · exact hl a h
    · rename_i u hu
      rcases mem_put ha with rfl | h
      · exact met_qk hJ (hl u (List.mem_of_find?_eq_some hu)) hv
      · exact hl a h
theorem fold_qk {β : Type} {Q : β → Prop} {J : MI → β → β → β} (hJ : ∀ M s t, Q s → Q t → Q (J M s t)) {ms : List MI} {fs : List FI} : ∀ (m l : List (VI β)), (∀ a ∈ l, VQk Q a) → (∀ a ∈ m, VQk Q a) → ∀ a ∈ m.foldl (jstep J ms fs) l, VQk Q a
  | [], _, hl, _ => hl
  | v :: m, l, hl, hm => fold_qk hJ m _ (step_qk hJ hl (hm v (List.mem_cons_self ..))) fun a ha => hm a (List.mem_cons_of_mem _ ha)
theorem join_qk (ms : List MI) : ∀ (d : Nat) (M : MI) (a b : BI d), BQk d a → BQk d b → BQk d (jnB ms d M a b)
  | 0, _, _, _, h, _ => h
  | d + 1, M, a, b, ha, hb => ⟨fold_qk (fun M s t => join_qk ms d M s t) _ _ ha.1 hb.1, fun r hr => by
    have hr' : r ∈ BO.unk a ++ BO.unk b := hr
    rcases List.mem_append.1 hr' with h | h
    · exact ha.2 r h
    · exact hb.2 r h⟩
theorem join_ok {ms : List MI} {d : Nat} {M : MI} {a b : BI d} (ha : BOk d a) (hb : BOk d b) (hw : jWB d a + jWB d b ≤ 1000000000) : BOk d (jnB ms d M a b) :=
  ok_of d _ (join_qk ms d M a b (qk_of d a ha) (qk_of d b hb)) (Nat.le_trans (join_w ms d M a b) hw)

end L
end Go.Proofs.YtelmjekjohbmjaaGreatDoor

/- What two bodies are put together to, number by number: plain. -/
namespace Go.Proofs.YtelmjekjohbmjaaGreatDoor
namespace L
open Go.RowKit
set_option linter.unusedVariables false

theorem find_filter {β : Type} (q : Int → Bool) (n : Int) : ∀ l : List (VI β), (l.filter fun a => q a.number).find? (isV n) = if q n then l.find? (isV n) else none
  | [] => by simp
  | a :: l => by
    have ih := find_filter q n l
    by_cases ha : a.number = n
    · cases hq : q n with
      | true =>
        rw [List.filter_cons_of_pos (by rw [ha]; exact hq), List.find?_cons_of_pos (by simp [isV, ha]), if_pos rfl, List.find?_cons_of_pos (by simp [isV, ha])]
      | false =>
        rw [List.filter_cons_of_neg (by rw [ha, hq]; simp), ih, hq]
        rfl
    · rw [List.find?_cons_of_neg (l := l) (by simp [isV, ha])]
      by_cases hq : q a.number = true
      · rw [List.filter_cons_of_pos (p := fun a : VI β => q a.number) hq, List.find?_cons_of_neg (by simp [isV, ha]), ih]
      · rw [List.filter_cons_of_neg (p := fun a : VI β => q a.number) hq, ih]
theorem look_put {β : Type} {fs : List FI} {x : FI} {l : List (VI β)} {y : VI β} (hx : fs.find? (isF y.number) = some x) (n : Int) :
    (putN fs x l y).find? (isV n) = if n = y.number then (if withoutB x y then none else some y) else if oustB fs x n then none else l.find? (isV n) := by
  have hf := find_filter (fun n => !oustB fs x n) n l
  have hs := oust_self hx
  unfold putN
  by_cases hn : n = y.number
  · rw [if_pos hn]
    subst hn
    rw [hs] at hf
    simp only [Bool.not_true, Bool.false_eq_true, if_false] at hf
    split
    · exact hf
    · have h1 : ∀ k, ((l.filter fun a => !oustB fs x a.number).take k).find? (isV y.number) = none := fun k => by
        rw [List.find?_eq_none] at hf ⊢
        exact fun a ha => hf a (List.mem_of_mem_take ha)
      rw [List.append_assoc, List.find?_append, h1, Option.none_or, List.singleton_append, List.find?_cons_of_pos (by simp [isV])]
  · rw [if_neg hn]
    have e : (if (!oustB fs x n) = true then l.find? (isV n) else none) = if oustB fs x n then none else l.find? (isV n) := by cases oustB fs x n <;> rfl
    rw [e] at hf
    split
    · exact hf
    · rw [← hf, List.append_assoc, List.find?_append, List.singleton_append, List.find?_cons_of_neg (by simp [isV]; exact fun h => hn h.symm), ← List.find?_append, List.take_append_drop]
/-- A value of number m puts one of number n out. -/
def ouB (fs : List FI) (m n : Int) : Bool := decide (0 < choiceF fs m ∧ choiceF fs n = choiceF fs m)
theorem choiceF_of {fs : List FI} {m : Int} {x : FI} (hx : fs.find? (isF m) = some x) : choiceF fs m = x.choice := by
  have hx' : fs.find? (fun y => decide (y.number = m)) = some x := hx
  unfold choiceF
  rw [hx']
theorem oust_ne {fs : List FI} {m n : Int} {x : FI} (hx : fs.find? (isF m) = some x) (hn : n ≠ m) : oustB fs x n = ouB fs m n := by
  have hm := find_num hx
  have hc := choiceF_of hx
  unfold oustB ouB
  rw [hc, hm]
  by_cases h : x.choice ≤ 0
  · rw [if_pos h, decide_eq_false hn, decide_eq_false (by omega)]
  · rw [if_neg h]
    by_cases e : choiceF fs n = x.choice
    · rw [decide_eq_true e, decide_eq_true ⟨by omega, e⟩]
    · rw [decide_eq_false e, decide_eq_false (fun h => e h.2)]
/-- What comes of a value and one that may be there. -/
def orN {β : Type} (J : MI → β → β → β) (ms : List MI) (x : FI) (u : Option (VI β)) (v : VI β) : VI β := match u with
  | some u => metN J ms x u v
  | none => v
theorem look_step {β : Type} {J : MI → β → β → β} {ms : List MI} {fs : List FI} {x : FI} {l : List (VI β)} {v : VI β} (hx : fs.find? (isF v.number) = some x) (hw : withoutB x v = false) (n : Int) :
    (jstep J ms fs l v).find? (isV n) = if n = v.number then some (orN J ms x (l.find? (isV n)) v) else if ouB fs v.number n then none else l.find? (isV n) := by
  have hww : ∀ u : VI β, withoutB x (metN J ms x u v) = false := fun u => by
    unfold metN
    by_cases hm : x.many = true
    · rw [if_pos hm]; unfold withoutB; rw [if_pos (.inl hm)]
    · rw [if_neg hm]
      by_cases hk : x.kind = 10
      · rw [if_pos hk]; unfold withoutB; rw [if_pos (.inr (.inr hk))]
      · rw [if_neg hk]; exact hw
  unfold jstep
  rw [hx]
  cases hu : l.find? (isV v.number) with
  | none =>
    show (putN fs x l v).find? (isV n) = _
    rw [look_put hx n, hw]
    by_cases hn : n = v.number
    · rw [if_pos hn, if_pos hn, hn, hu]; rfl
    · rw [if_neg hn, if_neg hn, oust_ne hx hn]
  | some u =>
    have hun : u.number = v.number := by have := List.find?_some hu; simpa [isV] using this
    have hyn : (metN J ms x u v).number = v.number := met_num hun
    show (putN fs x l (metN J ms x u v)).find? (isV n) = _
    rw [look_put (by rw [hyn]; exact hx) n, hww, hyn]
    by_cases hn : n = v.number
    · rw [if_pos hn, if_pos hn, hn, hu]; rfl
    · rw [if_neg hn, if_neg hn, oust_ne hx hn]
/-- What there is of number n, of a list, where another comes onto it. -/
def lookN {β : Type} (J : MI → β → β → β) (ms : List MI) (fs : List FI) (n : Int) (l m : List (VI β)) : Option (VI β) := match m.find? (isV n) with
  | some v => some (orN J ms ((fs.find? (isF n)).getD ⟨[], 0, 0, [], false, 0⟩) (l.find? (isV n)) v)
  | none => if m.any (fun v => ouB fs v.number n) then none else l.find? (isV n)
/-- Number by number. -/
theorem look_fold {β : Type} {J : MI → β → β → β} {ms : List MI} {fs : List FI} {f : List UInt8 → β → Int} (n : Int) : ∀ (m l : List (VI β)), RtL fs f m →
    (m.foldl (jstep J ms fs) l).find? (isV n) = lookN J ms fs n l m
  | [], l, _ => by simp [lookN]
  | v :: m, l, h => by
    obtain ⟨x, hx⟩ := h.each v (List.mem_cons_self ..)
    have h' : RtL fs f m := ⟨fun a ha => h.each a (List.mem_cons_of_mem _ ha), (List.pairwise_cons.1 h.rise).2, (List.pairwise_cons.1 h.apart).2⟩
    have hr := (List.pairwise_cons.1 h.rise).1
    have hap := (List.pairwise_cons.1 h.apart).1
    rw [List.foldl_cons, look_fold n m _ h']
    unfold lookN
    rw [look_step hx.fld hx.without n]
    by_cases hn : n = v.number
    · have e1 : m.find? (isV n) = none := List.find?_eq_none.2 fun a ha => by
        have := hr a ha
        simp [isV]
        omega
      have e2 : m.any (fun a => ouB fs a.number n) = false := List.any_eq_false.2 fun a ha => by
        have h3 := hap a ha
        unfold ouB
        rw [hn]
        simp only [decide_eq_true_eq, not_and]
        intro h4 h5
        rcases h3 with h3 | h3
        · omega
        · exact h3 h5
      rw [e1, List.find?_cons_of_pos (by simp [isV, hn]), if_pos hn]
      simp only [e2, Bool.false_eq_true, if_false]
      rw [hn, hx.fld]
      rfl
    · rw [if_neg hn, List.find?_cons_of_neg (by simp [isV]; exact fun h => hn h.symm)]
      cases hf : m.find? (isV n) with
      | none =>
        simp only [List.any_cons]
        by_cases h1 : ouB fs v.number n = true <;> by_cases h2 : (m.any fun v => ouB fs v.number n) = true <;> simp only [h1, h2, if_true, if_false, Bool.or_true, Bool.false_eq_true, Bool.or_false]
      | some v2 =>
        have h2m := List.mem_of_find?_eq_some hf
        have h2n : v2.number = n := by have := List.find?_some hf; simpa [isV] using this
        have e3 : ouB fs v.number n = false := by
          have h3 := hap v2 h2m
          unfold ouB
          rw [← h2n]
          refine decide_eq_false fun h4 => ?_
          rcases h3 with h3 | h3
          · omega
          · exact h3 h4.2.symm
        rw [e3]
        rfl
/-- .. of bodies. -/
theorem look_join {g : GI} {d : Nat} {M : MI} {a b : BI (d + 1)} {f : List UInt8 → BI d → Int} (hb : RtL M.fields f (BO.vals b)) (n : Int) :
    (BO.vals (jnB g.msgs (d + 1) M a b)).find? (isV n) = lookN (jnB g.msgs d) g.msgs M.fields n (BO.vals a) (BO.vals b) :=
  look_fold (J := jnB g.msgs d) (ms := g.msgs) n (BO.vals b) (BO.vals a) hb

end L
end Go.Proofs.YtelmjekjohbmjaaGreatDoor

/- The last one counts: plain. -/
namespace Go.Proofs.YtelmjekjohbmjaaGreatDoor
namespace L
open Go.RowKit
set_option linter.unusedVariables false

theorem addL_in {α : Type} [DecidableEq α] (x : α) (l : List α) : x ∈ addL x l ∧ ∀ y ∈ l, y ∈ addL x l := by
  unfold addL
  split
  · rename_i h; exact ⟨h, fun _ hy => hy⟩
  · exact ⟨by simp, fun y hy => by simp [hy]⟩
theorem passed_num {g : GI} {bar : List Int} : ∀ (l : List FI) (i : Nat) (s : Mem), (firstGo (stepF g bar) errsF i l s).1 = 0 → (l.Pairwise fun a b => a.number ≠ b.number) ∧ ∀ x ∈ l, x.number ∉ s.nums ∧ (x.many = true → x.choice ≤ 0)
  | [], _, _, _ => ⟨.nil, fun _ h => by simp at h⟩
  | x :: l, i, s, h => by
    obtain ⟨h1, h2⟩ := first_cons h
    obtain ⟨g1, g2⟩ := passed_num l _ _ h2
    simp only [passB, Bool.and_eq_true, Bool.not_eq_true', Bool.or_eq_false_iff, decide_eq_false_iff_not] at h1
    have hn : x.number ∉ s.nums := h1.2.2.1.2
    have hm : x.many = true → x.choice ≤ 0 := fun hm => by
      have h3 := h1.2.2.2.2.2.1.2
      rw [hm, Bool.and_true, decide_eq_false_iff_not] at h3
      omega
    obtain ⟨a1, a2⟩ := addL_in x.number s.nums
    refine ⟨.cons (fun a ha e => (g2 a ha).1 (by rw [← e]; exact a1)) g1, fun a ha => ?_⟩
    rcases List.mem_cons.1 ha with rfl | ha
    · exact ⟨hn, hm⟩
    · exact ⟨fun hh => (g2 a ha).1 (a2 _ hh), (g2 a ha).2⟩
theorem find_self : ∀ {l : List FI}, (l.Pairwise fun a b => a.number ≠ b.number) → ∀ x ∈ l, l.find? (isF x.number) = some x
  | y :: l, h, x, hx => by
    rcases List.mem_cons.1 hx with rfl | hx
    · exact List.find?_cons_of_pos (by simp [isF])
    · have := (List.pairwise_cons.1 h).1 x hx
      rw [List.find?_cons_of_neg (by simp [isF]; exact this)]
      exact find_self (List.pairwise_cons.1 h).2 x hx
/-- A right message's fields. -/
structure RtM (fs : List FI) : Prop where
  self : ∀ x ∈ fs, fs.find? (isF x.number) = some x
  many : ∀ x ∈ fs, x.many = true → x.choice ≤ 0
theorem right_m {g : GI} (h : (wrongL g).1 = 0) {m : MI} (hm : m ∈ g.msgs) : RtM m.fields := by
  obtain ⟨h1, h2⟩ := passed_num _ _ _ (rightM ((right_inv h).2.2 m hm)).2.2.2
  exact ⟨find_self h1, fun x hx => (h2 x hx).2⟩

def zeroV {β : Type} : VI β := ⟨0, [], [], []⟩
section
variable {β : Type} {J : MI → β → β → β} {ms : List MI} {fs : List FI} {a b : List (VI β)} {x : FI}
theorem last_many (hr : RtM fs) (hx : x ∈ fs) (hm : x.many = true) : manyN ((lookN J ms fs x.number a b).getD zeroV) = manyN ((a.find? (isV x.number)).getD zeroV) + manyN ((b.find? (isV x.number)).getD zeroV) := by
  have hc := choiceF_of (hr.self x hx)
  have hc0 := hr.many x hx hm
  unfold lookN
  rw [hr.self x hx]
  cases hb : b.find? (isV x.number) with
  | some v =>
    cases ha : a.find? (isV x.number) with
    | some u =>
      show manyN (metN J ms x u v) = _
      unfold metN
      rw [if_pos hm]
      simp only [manyN, List.length_append, Option.getD_some]
      omega
    | none => simp [orN, manyN, zeroV]
  | none =>
    have e : (b.any fun v => ouB fs v.number x.number) = false := List.any_eq_false.2 fun v hv => by
      unfold ouB
      rw [hc]
      simp only [decide_eq_true_eq, not_and]
      intro h1 h2
      omega
    simp only [e, Bool.false_eq_true, if_false]
    simp [manyN, zeroV]
theorem last_has (hr : RtM fs) (hx : x ∈ fs) (hm : x.many = false) {v : VI β} (hb : b.find? (isV x.number) = some v) (hk : a.find? (isV x.number) = none ∨ x.kind ≠ 10) : lookN J ms fs x.number a b = some v := by
  unfold lookN
  rw [hr.self x hx, hb]
  cases ha : a.find? (isV x.number) with
  | none => rfl
  | some u =>
    show some (metN J ms x u v) = _
    unfold metN
    rcases hk with hk | hk
    · rw [ha] at hk; cases hk
    · rw [hm, if_neg (by simp), if_neg hk]
/-- One of x's choice came. -/
def goneB (fs : List FI) (b : List (VI β)) (x : FI) : Bool := fs.any fun y => (b.find? (isV y.number)).isSome && (decide (0 < x.choice) && decide (y.choice = x.choice))
theorem last_had {f : List UInt8 → β → Int} (hr : RtM fs) (hx : x ∈ fs) (hB : RtL fs f b) (hb : b.find? (isV x.number) = none) : lookN J ms fs x.number a b = if goneB fs b x then none else a.find? (isV x.number) := by
  have hc := choiceF_of (hr.self x hx)
  have e : (b.any fun v => ouB fs v.number x.number) = goneB fs b x := by
    rw [Bool.eq_iff_iff, List.any_eq_true]
    unfold goneB
    rw [List.any_eq_true]
    constructor
    · rintro ⟨v, hv, ho⟩
      obtain ⟨y, hy⟩ := hB.each v hv
      have hyn := find_num hy.fld
      have hyc := choiceF_of hy.fld
      unfold ouB at ho
      rw [hc, hyc] at ho
      simp only [decide_eq_true_eq] at ho
      refine ⟨y, List.mem_of_find?_eq_some hy.fld, ?_⟩
      have hs : (b.find? (isV y.number)).isSome = true := by
        rw [List.find?_isSome]
        exact ⟨v, hv, by simp [isV, hyn]⟩
      rw [hs, decide_eq_true (by omega : 0 < x.choice), decide_eq_true ho.2.symm]
      rfl
    · rintro ⟨y, hy, ho⟩
      simp only [Bool.and_eq_true, decide_eq_true_eq] at ho
      obtain ⟨v, hv⟩ := Option.isSome_iff_exists.1 ho.1
      have hvn : v.number = y.number := by have := List.find?_some hv; simpa [isV] using this
      refine ⟨v, List.mem_of_find?_eq_some hv, ?_⟩
      unfold ouB
      rw [hc, hvn, choiceF_of (hr.self y hy)]
      exact decide_eq_true ⟨by omega, by omega⟩
  unfold lookN
  rw [hb]
  show (if (b.any fun v => ouB fs v.number x.number) = true then none else a.find? (isV x.number)) = _
  rw [e]
end

end L
end Go.Proofs.YtelmjekjohbmjaaGreatDoor

/- However put together: plain. -/
namespace Go.Proofs.YtelmjekjohbmjaaGreatDoor
namespace L
open Go.RowKit
set_option linter.unusedVariables false

/-- Rising lists in which the same is found are the same. -/
theorem rise_ext {β : Type} : ∀ {l m : List (VI β)}, (l.Pairwise fun a b => a.number < b.number) → (m.Pairwise fun a b => a.number < b.number) → (∀ n, l.find? (isV n) = m.find? (isV n)) → l = m
  | [], [], _, _, _ => rfl
  | [], b :: m, _, _, h => by
    have := h b.number
    rw [List.find?_cons_of_pos (by simp [isV])] at this
    cases this
  | a :: l, [], _, _, h => by
    have := h a.number
    rw [List.find?_cons_of_pos (by simp [isV])] at this
    cases this
  | a :: l, b :: m, hl, hm, h => by
    have ha := h a.number
    have hb := h b.number
    rw [List.find?_cons_of_pos (by simp [isV])] at ha
    rw [List.find?_cons_of_pos (l := m) (by simp [isV])] at hb
    have ma := List.mem_of_find?_eq_some ha.symm
    have mb := List.mem_of_find?_eq_some hb
    have hl1 := (List.pairwise_cons.1 hl).1
    have hm1 := (List.pairwise_cons.1 hm).1
    have hab : a = b := by
      rcases List.mem_cons.1 ma with e | ma'
      · exact e
      · rcases List.mem_cons.1 mb with e | mb'
        · exact e.symm
        · have h1 := hm1 a ma'
          have h2 := hl1 b mb'
          omega
    subst hab
    congr 1
    refine rise_ext (List.pairwise_cons.1 hl).2 (List.pairwise_cons.1 hm).2 fun n => ?_
    by_cases hn : a.number = n
    · have e1 : l.find? (isV n) = none := List.find?_eq_none.2 fun c hc => by
        have := hl1 c hc
        simp [isV]
        omega
      have e2 : m.find? (isV n) = none := List.find?_eq_none.2 fun c hc => by
        have := hm1 c hc
        simp [isV]
        omega
      rw [e1, e2]
    · have := h n
      rwa [List.find?_cons_of_neg (by simp [isV, hn]), List.find?_cons_of_neg (by simp [isV, hn])] at this

section
variable {β : Type}
/-- The values that come in are put in their place. -/
theorem place_rise {y : VI β} : ∀ {l : List (VI β)}, (l.Pairwise fun a b => a.number < b.number) → (∀ a ∈ l, a.number ≠ y.number) → ((l.take (placeI y.number l) ++ [y] ++ l.drop (placeI y.number l)).Pairwise fun a b => a.number < b.number)
  | [], _, _ => by simp [placeI]
  | a :: l, h, hn => by
    have h1 := (List.pairwise_cons.1 h).1
    have h2 := (List.pairwise_cons.1 h).2
    have ha := hn a (List.mem_cons_self ..)
    by_cases hlt : y.number < a.number
    · have e : placeI y.number (a :: l) = 0 := by
        unfold placeI
        rw [List.findIdx?_cons, if_pos (by simpa using hlt)]
        rfl
      rw [e]
      simp only [List.take_zero, List.nil_append, List.drop_zero, List.singleton_append]
      refine .cons (fun b hb => ?_) h
      rcases List.mem_cons.1 hb with rfl | hb
      · exact hlt
      · have := h1 b hb; omega
    · have e : placeI y.number (a :: l) = placeI y.number l + 1 := by
        unfold placeI
        rw [List.findIdx?_cons, if_neg (by simpa using hlt)]
        cases l.findIdx? fun v => decide (y.number < v.number) with
        | none => rfl
        | some k => rfl
      rw [e]
      simp only [List.take_succ_cons, List.drop_succ_cons, List.cons_append]
      refine .cons (fun b hb => ?_) (place_rise h2 fun b hb => hn b (List.mem_cons_of_mem _ hb))
      rcases List.mem_append.1 hb with hb | hb
      · rcases List.mem_append.1 hb with hb | hb
        · exact h1 b (List.mem_of_mem_take hb)
        · rw [List.mem_singleton.1 hb]; omega
      · exact h1 b (List.mem_of_mem_drop hb)
theorem put_rise {fs : List FI} {x : FI} {l : List (VI β)} {y : VI β} (hx : fs.find? (isF y.number) = some x) (h : l.Pairwise fun a b => a.number < b.number) : (putN fs x l y).Pairwise fun a b => a.number < b.number := by
  have hf := h.filter (fun a => !oustB fs x a.number)
  unfold putN
  split
  · exact hf
  · refine place_rise hf fun a ha e => ?_
    have := (List.mem_filter.1 ha).2
    rw [e, oust_self hx] at this
    cases this
theorem step_rise {J : MI → β → β → β} {ms : List MI} {fs : List FI} {l : List (VI β)} {v : VI β} (h : l.Pairwise fun a b => a.number < b.number) : (jstep J ms fs l v).Pairwise fun a b => a.number < b.number := by
  unfold jstep
  split
  · exact h
  · rename_i x hx
    split
    · exact put_rise hx h
    · rename_i u hu
      have hun : u.number = v.number := by have := List.find?_some hu; simpa [isV] using this
      exact put_rise (by rw [met_num hun]; exact hx) h
theorem fold_rise {J : MI → β → β → β} {ms : List MI} {fs : List FI} : ∀ (m l : List (VI β)), (l.Pairwise fun a b => a.number < b.number) → ((m.foldl (jstep J ms fs) l).Pairwise fun a b => a.number < b.number)
  | [], _, h => h
  | v :: m, _, h => fold_rise m _ (step_rise h)
theorem find_rise {l : List (VI β)} (h : l.Pairwise fun a b => a.number < b.number) {a : VI β} (ha : a ∈ l) : l.find? (isV a.number) = some a := by
  induction l with
  | nil => cases ha
  | cons b l ih =>
    rcases List.mem_cons.1 ha with rfl | ha'
    · exact List.find?_cons_of_pos (by simp [isV])
    · have := (List.pairwise_cons.1 h).1 a ha'
      rw [List.find?_cons_of_neg (by simp [isV]; omega)]
      exact ih (List.pairwise_cons.1 h).2 ha'
/-- What is there twice of a choice. -/
def Apart (fs : List FI) (l : List (VI β)) : Prop := ∀ a ∈ l, ∀ b ∈ l, a.number ≠ b.number → 0 < choiceF fs a.number → choiceF fs a.number ≠ choiceF fs b.number
theorem apart_of {fs : List FI} {l : List (VI β)} (h : l.Pairwise fun a b => choiceF fs a.number ≤ 0 ∨ choiceF fs a.number ≠ choiceF fs b.number) : Apart fs l := by
  induction l with
  | nil => intro a ha; cases ha
  | cons c l ih =>
    have h1 := (List.pairwise_cons.1 h).1
    have h2 := ih (List.pairwise_cons.1 h).2
    intro a ha b hb hne hp e
    rcases List.mem_cons.1 ha with ea | ha'
    · rcases List.mem_cons.1 hb with eb | hb'
      · exact hne (by rw [ea, eb])
      · subst ea
        rcases h1 b hb' with h | h
        · omega
        · exact h e
    · rcases List.mem_cons.1 hb with eb | hb'
      · subst eb
        rcases h1 a ha' with h | h
        · omega
        · exact h e.symm
      · exact h2 a ha' b hb' hne hp e
theorem step_apart {J : MI → β → β → β} {ms : List MI} {fs : List FI} {l : List (VI β)} {v : VI β} (h : Apart fs l) : Apart fs (jstep J ms fs l v) := by
  have key : ∀ {x : FI} {y : VI β}, fs.find? (isF y.number) = some x → Apart fs (putN fs x l y) := by
    intro x y hx a ha b hb hne hp
    have hmem : ∀ c ∈ putN fs x l y, c = y ∨ (c ∈ l ∧ oustB fs x c.number = false) := fun c hc => by
      unfold putN at hc
      split at hc
      · exact .inr ⟨(List.mem_filter.1 hc).1, by simpa using (List.mem_filter.1 hc).2⟩
      · rcases List.mem_append.1 hc with hc | hc
        · rcases List.mem_append.1 hc with hc | hc
          · have := List.mem_filter.1 (List.mem_of_mem_take hc)
            exact .inr ⟨this.1, by simpa using this.2⟩
          · exact .inl (List.mem_singleton.1 hc)
        · have := List.mem_filter.1 (List.mem_of_mem_drop hc)
          exact .inr ⟨this.1, by simpa using this.2⟩
    rcases hmem a ha with rfl | ⟨ha, hoa⟩
    · rcases hmem b hb with rfl | ⟨hb, hob⟩
      · exact absurd rfl hne
      · rw [oust_ne hx (fun e => hne e.symm)] at hob
        intro e
        unfold ouB at hob
        exact (of_decide_eq_false hob) ⟨hp, e.symm⟩
    · rcases hmem b hb with rfl | ⟨hb, hob⟩
      · rw [oust_ne hx hne] at hoa
        intro e
        unfold ouB at hoa
        exact (of_decide_eq_false hoa) ⟨by omega, e⟩
      · exact h a ha b hb hne hp
  unfold jstep
  split
  · exact h
  · rename_i x hx
    split
    · exact key hx
    · rename_i u hu
      have hun : u.number = v.number := by have := List.find?_some hu; simpa [isV] using this
      exact key (by rw [met_num hun]; exact hx)
theorem fold_apart {J : MI → β → β → β} {ms : List MI} {fs : List FI} : ∀ (m l : List (VI β)), Apart fs l → Apart fs (m.foldl (jstep J ms fs) l)
  | [], _, h => h
  | v :: m, _, h => fold_apart m _ (step_apart h)
end

end L
end Go.Proofs.YtelmjekjohbmjaaGreatDoor

/- The document's own answer: Both, Plus: plain. -/
namespace Go.Proofs.YtelmjekjohbmjaaGreatDoor
namespace L
open Go.RowKit
set_option linter.unusedVariables false

/-- A value that can be joined: its field is there; what is there once is one, a Sub that is there once is of a message that is there. -/
def GdV {β : Type} (R : MI → β → Prop) (ms : List MI) (fs : List FI) (v : VI β) : Prop :=
  ∃ x, fs.find? (isF v.number) = some x ∧ (x.many = false → manyN v = 1 ∧ (x.kind = 10 → v.bits = [] ∧ v.bytes = [] ∧ ∃ M s, ms.find? (isN x.type) = some M ∧ v.subs = [s] ∧ R M s))
def GdB (ms : List MI) : (d : Nat) → MI → BI d → Prop
  | 0 => fun _ _ => False
  | d + 1 => fun M b => ((BO.vals b).Pairwise fun u v => u.number < v.number) ∧ ∀ v ∈ BO.vals b, GdV (GdB ms d) ms M.fields v
section
variable {β : Type} {R : MI → β → Prop} {J : MI → β → β → β} {ms : List MI} {fs : List FI} {x : FI}
theorem GdV.fld {v : VI β} (h : GdV R ms fs v) (hx : fs.find? (isF v.number) = some x) : x.many = false → manyN v = 1 ∧ (x.kind = 10 → v.bits = [] ∧ v.bytes = [] ∧ ∃ M s, ms.find? (isN x.type) = some M ∧ v.subs = [s] ∧ R M s) := by
  obtain ⟨y, hy, h1⟩ := h
  rw [hx] at hy
  cases hy
  exact h1
/-- Both's answer, where a Sub that is there once is put together. -/
theorem met_one {a b : VI β} (hn : a.number = b.number) (hm : x.many = false) (hk : x.kind = 10) (ha : a.bits = []) (hb : a.bytes = []) {M : MI} {s t : β} (hM : ms.find? (isN x.type) = some M) (hs : a.subs = [s]) (ht : b.subs = [t]) : metN J ms x a b = ⟨b.number, [], [], [J M s t]⟩ := by
  unfold metN
  rw [hm, if_neg (by simp), if_pos hk, hM, hs, ht]
  show (⟨a.number, a.bits, a.bytes, [J M s t]⟩ : VI β) = _
  rw [ha, hb, hn]
theorem met_gd (hJ : ∀ M s t, R M s → R M t → R M (J M s t)) {a b : VI β} (hn : a.number = b.number) (hx : fs.find? (isF b.number) = some x) (ha : GdV R ms fs a) (hb : GdV R ms fs b) : GdV R ms fs (metN J ms x a b) := by
  refine ⟨x, by rw [met_num hn]; exact hx, fun hm => ?_⟩
  have h1 := ha.fld (by rw [hn]; exact hx) hm
  have h2 := hb.fld hx hm
  by_cases hk : x.kind = 10
  · obtain ⟨p1, p2, M, s, p3, p4, p5⟩ := h1.2 hk
    obtain ⟨q1, q2, M', t, q3, q4, q5⟩ := h2.2 hk
    rw [p3] at q3
    cases q3
    rw [met_one hn hm hk p1 p2 p3 p4 q4]
    exact ⟨rfl, fun _ => ⟨rfl, rfl, M, J M s t, p3, rfl, hJ M s t p5 q5⟩⟩
  · have e : metN J ms x a b = b := by
      unfold metN
      rw [hm, if_neg (by simp), if_neg hk]
    rw [e]
    exact h2
theorem step_gd (hJ : ∀ M s t, R M s → R M t → R M (J M s t)) {l : List (VI β)} {v : VI β} (hl : ∀ a ∈ l, GdV R ms fs a) (hv : GdV R ms fs v) : ∀ a ∈ jstep J ms fs l v, GdV R ms fs a := by
  obtain ⟨x, hx, _⟩ := id hv
  unfold jstep
  rw [hx]
  intro a ha
  cases hu : l.find? (isV v.number) with
  | none =>
    rw [hu] at ha
    rcases mem_put ha with rfl | h
    · exact hv
    · exact hl a h
  | some u =>
    rw [hu] at ha
    have hun : u.number = v.number := by have := List.find?_some hu; simpa [isV] using this
    rcases mem_put ha with rfl | h
    · exact met_gd hJ hun hx (hl u (List.mem_of_find?_eq_some hu)) hv
    · exact hl a h
theorem fold_gd (hJ : ∀ M s t, R M s → R M t → R M (J M s t)) : ∀ (m l : List (VI β)), (∀ a ∈ l, GdV R ms fs a) → (∀ a ∈ m, GdV R ms fs a) → ∀ a ∈ m.foldl (jstep J ms fs) l, GdV R ms fs a
  | [], _, hl, _ => hl
  | v :: m, l, hl, hm => fold_gd hJ m _ (step_gd hJ hl (hm v (List.mem_cons_self ..))) fun a ha => hm a (List.mem_cons_of_mem _ ha)
/-- Set, of a value that can be joined, is put. -/
theorem set_put {l : List (VI β)} (hr : l.Pairwise fun u v => u.number < v.number) {v : VI β} (hv : GdV R ms fs v) (hx : fs.find? (isF v.number) = some x) : setGo fs x v (!emptyB x v) l = putN fs x l v := by
  rw [empty_without (fun hm => (hv.fld hx hm).1)]
  exact setGo_put hr
end
theorem join_gd (ms : List MI) : ∀ (d : Nat) (M : MI) (a b : BI d), GdB ms d M a → GdB ms d M b → GdB ms d M (jnB ms d M a b)
  | 0, _, _, _, h, _ => h
  | d + 1, _, _, _, ha, hb => ⟨fold_rise _ _ ha.1, fold_gd (fun M s t => join_gd ms d M s t) _ _ ha.2 hb.2⟩
/-- A right body's values can be joined. -/
theorem right_gd {g : GI} (hsub : Subs g) : ∀ (d : Nat) (k : Int) (m : MI) (b : BI d), m ∈ g.msgs → bodyE g d k m.fields b = 0 → GdB g.msgs d m b
  | 0, _, _, b, _, _ => nomatch (b : Empty)
  | d + 1, k, m, b, hm, h => by
    obtain ⟨_, hr, _⟩ := bodyE_inv h
    refine ⟨hr.rise, fun v hv => ?_⟩
    obtain ⟨x, hx⟩ := hr.each v hv
    refine ⟨x, hx.fld, fun h1 => ⟨?_, fun h2 => ?_⟩⟩
    · have h3 := hx.misc
      unfold miscB at h3
      rw [h1] at h3
      simp only [Bool.not_false, Bool.and_true, Bool.or_eq_false_iff, decide_eq_false_iff_not] at h3
      omega
    · obtain ⟨s, hs⟩ := one_sub hx.others hx.misc h1 h2
      obtain ⟨m', hm'⟩ := hsub m hm x (List.mem_of_find?_eq_some hx.fld) h2
      have hmm : m' ∈ g.msgs := List.mem_of_find?_eq_some hm'
      have hz := hx.subs s (by rw [hs]; exact List.mem_singleton.2 rfl)
      unfold fieldsOf at hz
      rw [hm'] at hz
      have ho := hx.others
      unfold othersB at ho
      rw [if_neg (by omega), if_pos h2] at ho
      simp only [decide_eq_false_iff_not] at ho
      refine ⟨List.eq_nil_of_length_eq_zero (by omega), List.eq_nil_of_length_eq_zero (by omega), m', s, hm', hs, right_gd hsub d (k + 1) m' s hmm hz⟩

end L
end Go.Proofs.YtelmjekjohbmjaaGreatDoor

/- Plain: what is wrong with a file, field by field, item by item, each one looked at by itself. -/
namespace Go.Proofs.YtelmjekjohbmjaaGreatDoor
namespace L

def kindE (g : GI) (x : FI) : Int :=
  if x.kind = 5 then (if firstI (fun m => decide (m.name = x.type)) g.enums < 0 then 6 else 0)
  else if x.kind = 10 then (if firstI (fun m => decide (m.name = x.type)) g.msgs < 0 then 6 else 0)
  else if 1 ≤ x.kind ∧ x.kind ≤ 9 then (if x.type = [] then 0 else 8)
  else 1
/-- How many choices began, and the last one. -/
def chGo : List FI → Int × Int → Int × Int
  | [], s => s
  | y :: l, s => chGo l (if y.choice ≠ 0 ∧ y.choice ≠ s.2 then s.1 + 1 else s.1, y.choice)
theorem chGo_snoc (l : List FI) (y : FI) (s : Int × Int) : chGo (l ++ [y]) s = (if y.choice ≠ 0 ∧ y.choice ≠ (chGo l s).2 then (chGo l s).1 + 1 else (chGo l s).1, y.choice) := by
  induction l generalizing s with
  | nil => rfl
  | cons x l ih => rw [List.cons_append, chGo, ih]; rfl
def refF (g : GI) (bar : List Int) (ahead : List FI) (x : FI) : Int :=
  if namedB x.name = false then 7
  else if x.name ∈ ahead.map FI.name then 7
  else if canB x.number = false then 3
  else if x.number ∈ bar then 8
  else if x.number ∈ ahead.map FI.number then 8
  else if kindE g x ≠ 0 then kindE g x
  else if x.many = true ∧ 0 < x.choice then 8
  else if misB (chGo ahead (0, 0)).2 (chGo ahead (0, 0)).1 x.choice = true then 2 else 0
def refGo (g : GI) (bar : List Int) : List FI → List FI → Int
  | _, [] => 0
  | pre, x :: l => if refF g bar pre x ≠ 0 then refF g bar pre x else refGo g bar (pre ++ [x]) l

theorem addL_iff {α : Type} [DecidableEq α] (x y : α) (l : List α) : y ∈ addL x l ↔ y ∈ l ∨ y = x := by
  unfold addL
  split
  · rename_i h; constructor
    · exact fun h => .inl h
    · rintro (h1 | rfl)
      · exact h1
      · exact h
  · simp
structure Agr (pre : List FI) (s : Mem) : Prop where
  nm : ∀ y, y ∈ s.names ↔ y ∈ pre.map FI.name
  nu : ∀ y, y ∈ s.nums ↔ y ∈ pre.map FI.number
  ch : chGo pre (0, 0) = (s.begun, s.last)
  b0 : 0 ≤ s.begun
  lb : s.last ≤ s.begun
theorem Agr.next {g : GI} {bar : List Int} {pre : List FI} {s : Mem} {x : FI} (h : Agr pre s) (hp : passB g bar x s = true) : Agr (pre ++ [x]) (nextM x s) := by
  have hm : misB s.last s.begun x.choice = false := by
    simp only [passB, Bool.and_eq_true, Bool.not_eq_true'] at hp
    exact hp.2.2.2.2.2.2
  have hb := h.b0
  have hl := h.lb
  have hc : x.choice = 0 ∨ x.choice = s.last ∨ x.choice = s.begun + 1 := by
    simp only [misB, Bool.and_eq_false_iff, decide_eq_false_iff_not, ne_eq, Decidable.not_not] at hm
    exact hm
  refine ⟨?_, ?_, ?_, ?_, ?_⟩
  · intro y
    simp only [nextM, List.map_append, List.map_cons, List.map_nil, List.mem_append, List.mem_singleton]
    rw [addL_iff, h.nm]
  · intro y
    simp only [nextM, List.map_append, List.map_cons, List.map_nil, List.mem_append, List.mem_singleton]
    rw [addL_iff, h.nu]
  · rw [chGo_snoc, h.ch]
    simp only [nextM, Prod.mk.injEq, and_true]
    split <;> omega
  · simp only [nextM]; omega
  · simp only [nextM]; omega
theorem rules_ref {g : GI} {bar : List Int} {pre : List FI} {s : Mem} (x : FI) (h : Agr pre s) :
    (passB g bar x s = true ∧ refF g bar pre x = 0) ∨ ∃ s', rulesGo (stepF g bar) 0 errsF x s = (some (refF g bar pre x), s') ∧ refF g bar pre x ≠ 0 := by
  have e1 : decide (x.name ∈ s.names) = decide (x.name ∈ pre.map FI.name) := by rw [Bool.eq_iff_iff]; simp only [decide_eq_true_eq]; exact h.nm _
  have e2 : decide (x.number ∈ s.nums) = decide (x.number ∈ pre.map FI.number) := by rw [Bool.eq_iff_iff]; simp only [decide_eq_true_eq]; exact h.nu _
  have e3 := h.ch
  cases h0 : namedB x.name with
  | false => exact .inr ⟨_, by simp only [errsF, rulesGo, stepF, refF]; rw [h0]; rfl, by simp [refF, h0]⟩
  | true =>
    by_cases hn : x.name ∈ pre.map FI.name
    · have : decide (x.name ∈ s.names) = true := by rw [e1]; simpa using hn
      have hr : refF g bar pre x = 7 := by simp only [refF]; rw [h0, if_neg (by simp), if_pos hn]
      rw [hr]
      exact .inr ⟨_, by simp only [errsF, rulesGo, stepF]; rw [h0, this]; rfl, by decide⟩
    · have t1 : decide (x.name ∈ s.names) = false := by rw [e1]; simpa using hn
      cases h1 : canB x.number with
      | false =>
        have hr : refF g bar pre x = 3 := by simp only [refF]; rw [h0, h1, if_neg (by simp), if_neg hn]; rfl
        rw [hr]
        exact .inr ⟨_, by simp only [errsF, rulesGo, stepF]; rw [h0, t1, h1]; rfl, by decide⟩
      | true =>
        by_cases hb : x.number ∈ bar
        · have : decide (x.number ∈ bar) = true := by simpa using hb
          have hr : refF g bar pre x = 8 := by simp only [refF]; rw [h0, h1, if_neg (by simp), if_neg hn, if_neg (by simp), if_pos hb]
          rw [hr]
          exact .inr ⟨_, by simp only [errsF, rulesGo, stepF]; rw [h0, t1, h1, this]; rfl, by decide⟩
        · have t2 : decide (x.number ∈ bar) = false := by simpa using hb
          by_cases hu : x.number ∈ pre.map FI.number
          · have : decide (x.number ∈ s.nums) = true := by rw [e2]; simpa using hu
            have hr : refF g bar pre x = 8 := by simp only [refF]; rw [h0, h1, if_neg (by simp), if_neg hn, if_neg (by simp), if_neg hb, if_pos hu]
            rw [hr]
            exact .inr ⟨_, by simp only [errsF, rulesGo, stepF]; rw [h0, t1, h1, t2, this]; rfl, by decide⟩
          · have t3 : decide (x.number ∈ s.nums) = false := by rw [e2]; simpa using hu
            have hR : refF g bar pre x = if kindE g x ≠ 0 then kindE g x else if x.many = true ∧ 0 < x.choice then 8 else if misB s.last s.begun x.choice = true then 2 else 0 := by
              simp only [refF]; rw [h0, h1, if_neg (by simp), if_neg hn, if_neg (by simp), if_neg hb, if_neg hu, e3]
            rw [hR]
            have hK : (kindE g x = 1 ∧ (decide (x.kind < 1) || decide (10 < x.kind)) = true) ∨ (kindE g x = 6 ∧ (decide (x.kind < 1) || decide (10 < x.kind)) = false ∧ hasB g x = false) ∨ (kindE g x = 8 ∧ (decide (x.kind < 1) || decide (10 < x.kind)) = false ∧ hasB g x = true ∧ needB x = true) ∨ (kindE g x = 0 ∧ (decide (x.kind < 1) || decide (10 < x.kind)) = false ∧ hasB g x = true ∧ needB x = false) := by
              unfold kindE hasB needB
              by_cases k5 : x.kind = 5
              · by_cases q : firstI (fun m => decide (m.name = x.type)) g.enums < 0
                · simp [k5, q] <;> (try omega)
                · simp [k5, q] <;> (try omega)
              · by_cases k10 : x.kind = 10
                · by_cases q : firstI (fun m => decide (m.name = x.type)) g.msgs < 0
                  · simp [k10, q] <;> (try omega)
                  · simp [k10, q] <;> (try omega)
                · by_cases k9 : 1 ≤ x.kind ∧ x.kind ≤ 9
                  · have a1 : ¬ x.kind < 1 := by omega
                    have a2 : ¬ 10 < x.kind := by omega
                    by_cases q : x.type = []
                    · simp [k5, k10, k9, q, a1, a2]
                    · simp [k5, k10, k9, q, a1, a2]
                  · have : x.kind < 1 ∨ 10 < x.kind := by omega
                    simp [k5, k10, k9, this]
            rcases hK with ⟨k1, k2⟩ | ⟨k1, k2, k3⟩ | ⟨k1, k2, k3, k4⟩ | ⟨k1, k2, k3, k4⟩
            · rw [k1, if_pos (by decide)]; exact .inr ⟨_, by simp only [errsF, rulesGo, stepF]; rw [h0, t1, h1, t2, t3, k2]; rfl, by decide⟩
            · rw [k1, if_pos (by decide)]; exact .inr ⟨_, by simp only [errsF, rulesGo, stepF]; rw [h0, t1, h1, t2, t3, k2, k3]; rfl, by decide⟩
            · rw [k1, if_pos (by decide)]; exact .inr ⟨_, by simp only [errsF, rulesGo, stepF]; rw [h0, t1, h1, t2, t3, k2, k3, k4]; rfl, by decide⟩
            · rw [k1, if_neg (by decide)]
              by_cases hm : x.many = true ∧ 0 < x.choice
              · have tm : (needB x || (decide (0 < x.choice) && x.many)) = true := by simp [hm.1, hm.2]
                rw [if_pos hm]
                exact .inr ⟨_, by simp only [errsF, rulesGo, stepF]; rw [h0, t1, h1, t2, t3, k2, k3, tm]; rfl, by decide⟩
              · have tm : (needB x || (decide (0 < x.choice) && x.many)) = false := by
                  rw [k4, Bool.false_or, Bool.and_eq_false_iff]
                  by_cases q : 0 < x.choice
                  · right; cases e : x.many with
                    | true => exact absurd ⟨e, q⟩ hm
                    | false => rfl
                  · left; simpa using q
                rw [if_neg hm]
                cases h6 : misB s.last s.begun x.choice with
                | true =>
                  exact .inr ⟨_, by simp only [errsF, rulesGo, stepF]; rw [h0, t1, h1, t2, t3, k2, k3, tm, h6]; rfl, by decide⟩
                | false =>
                  refine .inl ⟨?_, rfl⟩
                  unfold passB
                  rw [h0, t1, h1, t2, t3, k2, k3, tm, h6]; rfl
theorem first_ref {g : GI} {bar : List Int} : ∀ (l : List FI) (i : Nat) (pre : List FI) (s : Mem), Agr pre s → (firstGo (stepF g bar) errsF i l s).1 = refGo g bar pre l
  | [], _, _, _, _ => rfl
  | x :: l, i, pre, s, h => by
    rcases rules_ref (g := g) (bar := bar) x h with ⟨h1, h2⟩ | ⟨s', h1, h2⟩
    · rw [firstGo, rules_pass h1, refGo, if_neg (by simp [h2])]
      exact first_ref l (i + 1) _ _ (h.next h1)
    · rw [firstGo, h1, refGo, if_pos h2]
theorem wrongM_ref (g : GI) (m : MI) : wrongM g m = if 16 < m.fields.length ∨ 16 < m.barred.length then 5 else if m.barred.any barB then 3 else refGo g m.barred [] m.fields := by
  unfold wrongM
  rw [first_ref m.fields 0 [] mem0 ⟨fun _ => by simp [mem0], fun _ => by simp [mem0], rfl, by simp [mem0], by simp [mem0]⟩]

/-- Items. -/
def refI (ahead : List II) (x : II) : Int :=
  if x.name ∈ ahead.map II.name then 7
  else if namedB x.name = false then 7
  else if x.value < -2147483648 ∨ 2147483647 < x.value then 3
  else if x.value ∈ ahead.map II.value ∨ (ahead = [] ∧ x.value ≠ 0) then 8 else 0
def refIGo : List II → List II → Int
  | _, [] => 0
  | pre, x :: l => if refI pre x ≠ 0 then refI pre x else refIGo (pre ++ [x]) l
theorem first_refI : ∀ (l : List II) (n : Int) (i : Nat) (pre : List II) (s : List (List UInt8) × List Int), (∀ y, y ∈ s.1 ↔ y ∈ pre.map II.name) → (∀ y, y ∈ s.2 ↔ y ∈ pre.map II.value) → (pre = [] → ∀ x, l.head? = some x → n = x.value) → (pre ≠ [] → n = 0) → (firstGo (stepI n) [7, 3, 8] i l s).1 = refIGo pre l
  | [], _, _, _, _, _, _, _, _ => rfl
  | x :: l, n, i, pre, s, hn, hv, h0, h1 => by
    have e1 : decide (x.name ∈ s.1) = decide (x.name ∈ pre.map II.name) := by rw [Bool.eq_iff_iff]; simp only [decide_eq_true_eq]; exact hn _
    have e2 : decide (x.value ∈ s.2) = decide (x.value ∈ pre.map II.value) := by rw [Bool.eq_iff_iff]; simp only [decide_eq_true_eq]; exact hv _
    have hnz : decide (n ≠ 0) = decide (pre = [] ∧ x.value ≠ 0) := by
      rw [Bool.eq_iff_iff]; simp only [decide_eq_true_eq]
      by_cases hp : pre = []
      · rw [h0 hp x rfl]; simp [hp]
      · rw [h1 hp]; simp [hp]
    rw [refIGo, firstGo]
    by_cases q1 : x.name ∈ pre.map II.name
    · have t1 : decide (x.name ∈ s.1) = true := by rw [e1]; simpa using q1
      have hr : refI pre x = 7 := by rw [refI, if_pos q1]
      rw [hr, if_pos (by decide)]
      simp only [rulesGo, stepI, t1, Bool.or_true, if_true]
    · have t1 : decide (x.name ∈ s.1) = false := by rw [e1]; simpa using q1
      cases q2 : namedB x.name with
      | false =>
        have hr : refI pre x = 7 := by rw [refI, if_neg q1, if_pos q2]
        rw [hr, if_pos (by decide)]
        simp only [rulesGo, stepI, q2, Bool.not_false, Bool.true_or, if_true]
      | true =>
        by_cases q3 : x.value < -2147483648 ∨ 2147483647 < x.value
        · have hr : refI pre x = 3 := by rw [refI, if_neg q1, if_neg (by rw [q2]; simp), if_pos q3]
          have t3 : (decide (x.value < -2147483648) || decide (2147483647 < x.value)) = true := by simpa using q3
          rw [hr, if_pos (by decide)]
          simp only [rulesGo, stepI, q2, t1, t3, Bool.not_true, Bool.or_false, if_true]
          rfl
        · have t3 : (decide (x.value < -2147483648) || decide (2147483647 < x.value)) = false := by simpa using q3
          by_cases q4 : x.value ∈ pre.map II.value ∨ (pre = [] ∧ x.value ≠ 0)
          · have hr : refI pre x = 8 := by rw [refI, if_neg q1, if_neg (by rw [q2]; simp), if_neg q3, if_pos q4]
            have t4 : (decide (n ≠ 0) || decide (x.value ∈ s.2)) = true := by
              rw [hnz, e2]; simp only [Bool.or_eq_true, decide_eq_true_eq]; exact q4.symm
            rw [hr, if_pos (by decide)]
            simp only [rulesGo, stepI, q2, t1, t3, t4, Bool.not_true, Bool.or_false, if_true]
            rfl
          · have hr : refI pre x = 0 := by rw [refI, if_neg q1, if_neg (by rw [q2]; simp), if_neg q3, if_neg q4]
            have t4 : (decide (n ≠ 0) || decide (x.value ∈ s.2)) = false := by
              rw [hnz, e2, Bool.or_eq_false_iff]; simp only [decide_eq_false_iff_not]
              exact ⟨fun h => q4 (.inr h), fun h => q4 (.inl h)⟩
            rw [hr, if_neg (by decide)]
            have hgo : rulesGo (stepI n) 0 [7, 3, 8] x s = (none, (addL x.name s.1, addL x.value s.2)) := by
              simp only [rulesGo, stepI, q2, t1, t3, t4, Bool.not_true, Bool.or_false]
              rfl
            rw [hgo]
            refine first_refI l n (i + 1) (pre ++ [x]) _ ?_ ?_ (fun h => by simp at h) (fun _ => ?_)
            · intro y
              simp only [List.map_append, List.map_cons, List.map_nil, List.mem_append, List.mem_singleton]
              rw [addL_iff, hn]
            · intro y
              simp only [List.map_append, List.map_cons, List.map_nil, List.mem_append, List.mem_singleton]
              rw [addL_iff, hv]
            · have := (Bool.or_eq_false_iff.1 t4).1
              simpa using this
theorem wrongE_ref (e : EI) : wrongE e = if e.items.length < 1 ∨ 16 < e.items.length then 5 else refIGo [] e.items := by
  unfold wrongE
  split
  · rfl
  · rename_i h
    refine first_refI e.items _ 0 [] ([], []) (fun _ => by simp) (fun _ => by simp) (fun _ x hx => ?_) (fun h => by simp at h)
    cases hi : e.items with
    | nil => rw [hi] at hx; cases hx
    | cons y r => rw [hi] at hx; cases hx; rfl

/-- Names. -/
def freeB (s : List UInt8) : Bool := !keptB s && namedB s
def refNGo : Nat → List (List UInt8) → List (List UInt8) → Int × Nat
  | _, _, [] => (0, 0)
  | i, pre, s :: l => if freeB s = false ∨ s ∈ pre then (7, i) else refNGo (i + 1) (pre ++ [s]) l
theorem first_refN : ∀ (l : List (List UInt8)) (i : Nat) (pre s : List (List UInt8)), (∀ y, y ∈ s ↔ y ∈ pre) → firstGo stepS [7] i l s = refNGo i pre l
  | [], _, _, _, _ => rfl
  | x :: l, i, pre, s, h => by
    have e : nameB x s = decide (freeB x = false ∨ x ∈ pre) := by
      rw [Bool.eq_iff_iff]
      simp only [nameB, freeB, Bool.or_eq_true, Bool.not_eq_true', decide_eq_true_eq, Bool.and_eq_false_iff, Bool.not_eq_false', h]
      constructor
      · rintro (h | h | h)
        · exact .inl (.inr h)
        · exact .inl (.inl h)
        · exact .inr h
      · rintro ((h | h) | h)
        · exact .inr (.inl h)
        · exact .inl h
        · exact .inr (.inr h)
    rw [firstGo, refNGo]
    by_cases q : freeB x = false ∨ x ∈ pre
    · rw [if_pos q]
      simp only [rulesGo, stepS, e, q, decide_true, if_true]
    · rw [if_neg q]
      have hgo : rulesGo stepS 0 [7] x s = (none, addL x s) := by
        simp only [rulesGo, stepS, e, q, decide_false]
        rfl
      rw [hgo]
      refine first_refN l (i + 1) _ _ ?_
      intro y
      rw [addL_iff, h]; simp

end L
end Go.Proofs.YtelmjekjohbmjaaGreatDoor

/- The document's own answer: the contracts of Letter, More, Named, Words, Free. -/
namespace Go.Proofs.YtelmjekjohbmjaaGreatDoor
namespace L
open Go.RowKit

set_option maxHeartbeats 1000000 in
theorem rletter_any (c : UInt8) (w : World) : Calls Tryz.prog 109 #[.int .u8 (c.toNat : Int)] w fun e w' => e = .returned (.bool (letB c)) ∧ w = w' := by
  obtain ⟨X, HX⟩ : ∃ X : Nat, Hid (X = c.toNat) := ⟨_, rfl⟩
  have HL : Hid (letB c = ((decide (97 ≤ X) && decide (X ≤ 122)) || (decide (65 ≤ X) && decide (X ≤ 90)))) := by show _ = _; rw [HX.out]; rfl
  have hX : X < 256 := by rw [HX.out]; exact UInt8.toNat_lt _
  rw [← HX.out, HL.out]
  clear HX HL
  by_cases h1 : 97 ≤ X
  · by_cases h2 : X ≤ 122
    · go_enter Tryz.func109, Tryz.ntmps109
      go_wp2
      all_goals (go_ret; refine ⟨ret_bool ?_, rfl⟩; (try rw [Bool.eq_iff_iff]); (try simp); (try omega))
    · go_enter Tryz.func109, Tryz.ntmps109
      go_wp2
      all_goals (go_ret; refine ⟨ret_bool ?_, rfl⟩; (try rw [Bool.eq_iff_iff]); (try simp); (try omega))
  · go_enter Tryz.func109, Tryz.ntmps109
    go_wp2
    all_goals (go_ret; refine ⟨ret_bool ?_, rfl⟩; (try rw [Bool.eq_iff_iff]); (try simp); (try omega))

set_option maxHeartbeats 1000000 in
theorem rmore_any (c : UInt8) (w : World) : Calls Tryz.prog 108 #[.int .u8 (c.toNat : Int)] w fun e w' => e = .returned (.bool (moreB c)) ∧ w = w' := by
  have hcall := rletter_any c w
  obtain ⟨X, HX⟩ : ∃ X : Nat, Hid (X = c.toNat) := ⟨_, rfl⟩
  have HL : Hid (moreB c = (letB c || (decide (48 ≤ X) && decide (X ≤ 57)) || (X == 95))) := by show _ = _; rw [HX.out]; rfl
  have hX : X < 256 := by rw [HX.out]; exact UInt8.toNat_lt _
  rw [← HX.out] at hcall
  rw [← HX.out, HL.out]
  clear HX HL
  generalize letB c = q at hcall ⊢
  cases q with
  | true =>
    go_enter Tryz.func108, Tryz.ntmps108
    go_wp2_with fail
    refine hcall.mono ?_
    rintro e w1 ⟨rfl, rfl⟩
    go_wp2
    go_ret
    exact ⟨rfl, rfl⟩
  | false =>
    by_cases h1 : 48 ≤ X
    · by_cases h2 : X ≤ 57
      · go_enter Tryz.func108, Tryz.ntmps108
        go_wp2_with fail
        refine hcall.mono ?_
        rintro e w1 ⟨rfl, rfl⟩
        go_wp2
        all_goals (go_ret; refine ⟨ret_bool ?_, rfl⟩; (try rw [Bool.eq_iff_iff]); (try simp); (try omega))
      · go_enter Tryz.func108, Tryz.ntmps108
        go_wp2_with fail
        refine hcall.mono ?_
        rintro e w1 ⟨rfl, rfl⟩
        go_wp2
        all_goals (go_ret; refine ⟨ret_bool ?_, rfl⟩; (try rw [Bool.eq_iff_iff]); (try simp); (try omega))
    · go_enter Tryz.func108, Tryz.ntmps108
      go_wp2_with fail
      refine hcall.mono ?_
      rintro e w1 ⟨rfl, rfl⟩
      go_wp2
      all_goals (go_ret; refine ⟨ret_bool ?_, rfl⟩; (try rw [Bool.eq_iff_iff]); (try simp); (try omega))

theorem tw_all {p : UInt8 → Bool} : ∀ {r : List UInt8}, (∀ x ∈ r, p x = true) → r.takeWhile p = r
  | [], _ => rfl
  | c :: r, h => by rw [List.takeWhile_cons, if_pos (h c (by simp)), tw_all fun x hx => h x (by simp [hx])]
theorem tw_self {p : UInt8 → Bool} : ∀ {r : List UInt8}, r.takeWhile p = r → ∀ x ∈ r, p x = true
  | [], _, _, hx => by simp at hx
  | c :: r, h, x, hx => by
    rw [List.takeWhile_cons] at h
    split at h
    · rename_i hc
      rcases List.mem_cons.1 hx with rfl | hx
      · exact hc
      · exact tw_self (List.cons.inj h).2 x hx
    · cases h
/-- A name, byte by byte. -/
def okAt (l : List UInt8) (k : Nat) : Bool := moreB (l.getD k 0) && (decide (k ≠ 0) || letB (l.getD k 0))
theorem word_all : ∀ (l : List UInt8), (∀ k, k < l.length → okAt l k = true) → wordLenL l = l.length
  | [], _ => rfl
  | c :: r, h => by
    have h0 := h 0 (by simp)
    simp [okAt] at h0
    have hr : ∀ x ∈ r, moreB x = true := by
      intro x hx
      obtain ⟨k, hk, rfl⟩ := List.getElem_of_mem hx
      have := h (k + 1) (by simp; omega)
      simp [okAt, hk] at this
      exact this
    rw [wordLenL, if_pos h0.2, tw_all hr]
    simp; omega
theorem word_not {l : List UInt8} {k : Nat} (hk : k < l.length) (h : okAt l k = false) : wordLenL l ≠ l.length := by
  cases l with
  | nil => simp at hk
  | cons c r =>
    cases k with
    | zero =>
      simp [okAt] at h
      rw [wordLenL]
      split
      · rename_i hl
        have : moreB c = true := by simp [moreB, hl]
        rw [h this] at hl; cases hl
      · simp
    | succ k =>
      simp at hk
      simp [okAt, hk] at h
      rw [wordLenL]
      split
      · have : (r.takeWhile moreB).length < r.length := by
          rcases Nat.lt_or_ge (r.takeWhile moreB).length r.length with h1 | h1
          · exact h1
          · have e := (List.takeWhile_prefix moreB (l := r)).eq_of_length_le h1
            have := tw_self e _ (List.getElem_mem hk)
            rw [this] at h; cases h
        simp; omega
      · simp

set_option maxHeartbeats 1000000 in
set_option maxRecDepth 100000 in
theorem rnamed_any (l : List UInt8) (hl : l.length ≤ 9223372036854775807) (w : World) :
    Calls Tryz.prog 61 #[.string (S l)] w fun e w' => e = .returned (.bool (namedB l)) ∧ Below w.heap.size w w' := by
  have hconv : ∀ W, (convert 9 68 (.string (S l))).run Tryz.prog W = .ok (.slice (some ⟨W.heap.size, 0, none⟩) (S l).size (grownCap W (S l).size 0 5)) (Lib.bytesWorld W 5 (S l)) := fun W => Lib.run_convert_string_bytes W _ _ _ _ Tryz.underlying9 Tryz.underlying68 Tryz.underlying5
  have hsz := S_size l
  obtain ⟨Wc, HWc⟩ : ∃ Wc, Hid (Wc = Lib.bytesWorld w 5 (S l)) := ⟨_, rfl⟩
  have hBc : Below w.heap.size w Wc := by rw [HWc.out]; exact ⟨rfl, rfl, rfl, by rw [Lib.bytesWorld_size]; omega, fun k hk => Lib.bytesWorld_at_old _ _ _ k hk⟩
  have hcc : ∀ j, j < l.length → Wc.cell? ⟨w.heap.size, j, none⟩ = some (.int .u8 ((l.getD j 0).toNat : Int)) := by
    intro j hj
    rw [HWc.out, Lib.bytesWorld_cell _ _ _ j (by rw [S_size]; exact hj)]
    simp [S]
  have hcap : l.length ≤ grownCap w l.length 0 5 := grownCap_ge _ _ _ _
  obtain ⟨n, Hn⟩ : ∃ n, Hid (n = l.length) := ⟨_, rfl⟩
  rw [← Hn.out] at hsz hl hcap hcc
  go_enter Tryz.func61, Tryz.ntmps61
  go_wp2_with fail
  rw [← HWc.out]
  clear hconv
  go_loopg [8] n (fun m i wr => ∃ k : Nat, k + m = n ∧ i = .int .i64 k ∧ Hid (∀ j, j < k → okAt l j = true) ∧ Wc = wr)
  case atStart => exact ⟨0, by omega, rfl, fun j hj => by omega, rfl⟩
  case round =>
    obtain ⟨k, hk, rfl, HK, rfl⟩ := hrel
    by_cases hlt : k < n
    · have hcell := hcc k hlt
      have hki : (k : Int) < (n : Int) := by omega
      obtain ⟨c, Hc⟩ : ∃ c, Hid (c = l.getD k 0) := ⟨_, rfl⟩
      rw [← Hc.out] at hcell
      have hm := rmore_any c Wc
      have ht := rletter_any c Wc
      have HO : Hid (okAt l k = (moreB c && (decide (k ≠ 0) || letB c))) := by show _ = _; rw [Hc.out]; rfl
      cases q1 : moreB c with
      | false =>
        have HN : Hid (namedB l = false) := by
          show _ = _
          have := word_not (show k < l.length by rw [← Hn.out]; exact hlt) (by rw [HO.out, q1]; rfl)
          simp [namedB, this]
        rw [q1] at hm
        clear hcc q1 HO
        go_wp2_with fail
        refine hm.mono ?_
        rintro e w1 ⟨rfl, rfl⟩
        go_wp2
        go_ret
        exact ⟨ret_bool HN.out.symm, hBc⟩
      | true =>
        rw [q1] at hm
        by_cases hk0 : k = 0
        · subst hk0
          cases q2 : letB c with
          | false =>
            have HN : Hid (namedB l = false) := by
              show _ = _
              have := word_not (show 0 < l.length by rw [← Hn.out]; exact hlt) (by rw [HO.out, q1, q2]; rfl)
              simp [namedB, this]
            rw [q2] at ht
            clear hcc q1 q2 HO
            go_wp2_with fail
            refine hm.mono ?_
            rintro e w1 ⟨rfl, rfl⟩
            go_wp2_with fail
            refine ht.mono ?_
            rintro e w1 ⟨rfl, rfl⟩
            go_wp2
            go_ret
            exact ⟨ret_bool HN.out.symm, hBc⟩
          | true =>
            have HN : Hid (∀ j, j < 1 → okAt l j = true) := by
              intro j hj
              obtain rfl : j = 0 := by omega
              rw [HO.out, q1, q2]; rfl
            rw [q2] at ht
            clear hcc q1 q2 HO
            go_wp2_with fail
            refine hm.mono ?_
            rintro e w1 ⟨rfl, rfl⟩
            go_wp2_with fail
            refine ht.mono ?_
            rintro e w1 ⟨rfl, rfl⟩
            go_wp2_with fail
            go_roundg (n - 1)
            case measure => omega
            case rel => exact ⟨1, by omega, rfl, HN, rfl⟩
        · have HN : Hid (∀ j, j < k + 1 → okAt l j = true) := by
            intro j hj
            by_cases e : j = k
            · rw [e, HO.out, q1]; simp [hk0]
            · exact HK.out j (by omega)
          have hkb : ((k : Int) == 0) = false := by simp; omega
          clear hcc q1 HO hk0
          go_wp2_with fail
          refine hm.mono ?_
          rintro e w1 ⟨rfl, rfl⟩
          go_wp2_with fail
          go_roundg (n - (k + 1))
          case measure => omega
          case rel => exact ⟨k + 1, by omega, by go_num, HN, rfl⟩
    · have HW : Hid (wordLenL l = l.length) := word_all l fun j hj => HK.out j (by rw [← Hn.out] at hj; omega)
      have HN : Hid (namedB l = (decide (0 < n) && decide (n ≤ 16))) := by
        show _ = _
        rw [Hn.out]
        simp only [namedB, HW.out]
        cases l <;> simp
      clear hcc HW
      by_cases h0 : 0 < n
      · by_cases h16 : n ≤ 16
        · go_wp2
          go_ret
          exact ⟨ret_bool (by rw [HN.out]; simp [h0, h16]; omega), hBc⟩
        · go_wp2
          go_ret
          exact ⟨ret_bool (by rw [HN.out]; simp [h16]; omega), hBc⟩
      · go_wp2
        go_ret
        exact ⟨ret_bool (by rw [HN.out]; simp [h0]), hBc⟩

theorem rwords_any (w : World) : Calls Tryz.prog 106 #[] w fun e w' => e = .returned (.slice (some ⟨w.heap.size, 0, none⟩) 9 9) ∧ w.alloc (.cells wordCells 9) = w' := by
  go_enter Tryz.func106, Tryz.ntmps106
  go_wp2
  go_ret
  exact ⟨rfl, rfl⟩
/-- A block that was made whole. -/
theorem Row.blk {α : Type} (E : EK α) {w : World} {base g : Nat} (l : List α) {fr : Nat × Nat} (hb : base ≤ g) (h : w.heap[g]? = some (.cells (E.flat l).toArray E.elem fr)) (hfr : fr = (0, 0)) (hl : l.length ≤ maxLen) : Row E w base (.slice (some ⟨g, 0, none⟩) l.length l.length) l := by
  subst hfr
  refine ⟨E.flat_len l, .inr ⟨g, l.length, _, rfl, hb, h, Nat.le_refl _, hl, by simp [E.flat_len], ?_⟩⟩
  rw [← E.flat_len l]
  simp
theorem kept_mem (s : List UInt8) : keptB s = decide (s ∈ wordsL ++ [kwRepeated, kwReserved, kwOneof]) := by
  rw [Bool.eq_iff_iff]
  simp only [keptB, Bool.or_eq_true, decide_eq_true_eq, List.mem_append, List.mem_cons, List.mem_nil_iff, or_false]
  constructor
  · rintro (h | h | h | h)
    · exact .inr (.inl h)
    · exact .inr (.inr (.inl h))
    · exact .inr (.inr (.inr h))
    · exact .inl h
  · rintro (h | h | h | h)
    · exact .inr (.inr (.inr h))
    · exact .inl h
    · exact .inr (.inl h)
    · exact .inr (.inr (.inl h))
set_option maxHeartbeats 1000000 in
set_option maxRecDepth 100000 in
theorem rfree_any (s : List UInt8) (hs : s.length ≤ 9223372036854775807) (w : World) : Calls Tryz.prog 58 #[.string (S s)] w fun e w' => e = .returned (.bool (freeB s)) ∧ Below w.heap.size w w' := by
  have hws := rwords_any w
  obtain ⟨W2, HW2⟩ : ∃ W2, Hid (W2 = (w.alloc (.cells wordCells 9)).alloc (.cells #[.string (S kwRepeated), .string (S kwReserved), .string (S kwOneof)] 9)) := ⟨_, rfl⟩
  have hB2 : Below w.heap.size w W2 := by rw [HW2.out]; exact ((Below.refl _ _).alloc (Nat.le_refl _) _).alloc (by simp) _
  have r1 : Row ekS W2 w.heap.size (.slice (some ⟨w.heap.size, 0, none⟩) 9 9) wordsL := Row.blk ekS wordsL (Nat.le_refl _) (by rw [HW2.out]; exact alloc2_old _ _ _) rfl (by decide)
  have r2 : Row ekS W2 w.heap.size (.slice (some ⟨w.heap.size + 1, 0, none⟩) 3 3) [kwRepeated, kwReserved, kwOneof] := Row.blk ekS [kwRepeated, kwReserved, kwOneof] (Nat.le_add_right _ _) (by rw [HW2.out]; exact alloc2_new _ _ _) rfl (by decide)
  have hls := S_list s
  go_enter Tryz.func58, Tryz.ntmps58
  go_wp2_with fail
  refine hws.mono ?_
  rintro e w1 ⟨rfl, hw1⟩
  subst hw1
  go_wp2_with (at_builtin; refine wpList_app rfl ekS _ _ rfl w.heap.size _ wordsL [kwRepeated, kwReserved, kwOneof] rfl (by rw [HW2.out] at r1; exact r1) w.heap.size _ rfl (by rw [HW2.out] at r2; exact r2) ?e1 ?e2 ?_)
  case e1 => decide
  case e2 => simp; omega
  intro v5 w5 hr5 hg5
  obtain ⟨a5, n5, c5, rfl, H5⟩ := hr5.shape'
  obtain rfl : n5 = 12 := H5.out
  have hB5 : Below w.heap.size w w5 := by
    rw [HW2.out] at hB2
    exact hB2.grown hg5 (by simp; omega) (fun k hk => by simp [Value.ownBlock] at hk; omega)
  have HK0 : Hid (keptB s = decide (s ∈ wordsL ++ [kwRepeated, kwReserved, kwOneof])) := kept_mem s
  obtain ⟨L, HLL⟩ : ∃ L, Hid (L = wordsL ++ [kwRepeated, kwReserved, kwOneof]) := ⟨_, rfl⟩
  have hLn : L.length = 12 := by rw [HLL.out]; rfl
  rw [← HLL.out] at hr5 HK0
  clear r1 r2 hg5 hws H5 HW2 hB2
  have hnm := rnamed_any s hs w5
  go_wp2_with fail
  go_loopg [9] 12 (fun m i wr => ∃ k : Nat, k + m = 12 ∧ i = .int .i64 k ∧ Hid (s ∉ L.take k) ∧ w5 = wr)
  case atStart => exact ⟨0, by omega, rfl, by show ¬ _; simp, rfl⟩
  case round =>
    obtain ⟨k, hk, rfl, HK, rfl⟩ := hrel
    by_cases hlt : k < 12
    · obtain ⟨x, Hx⟩ : ∃ x, Hid (L[k]? = some x) := ⟨L[k]'(by rw [hLn]; exact hlt), List.getElem?_eq_getElem (by rw [hLn]; exact hlt)⟩
      obtain ⟨gb, rfl, hcx⟩ := hr5.get Hx.out
      have hc : w5.cell? ⟨gb, k, none⟩ = some (.string (S x)) := by
        have := hcx 0 _ rfl
        have e : ekS.size = 1 := rfl
        rw [e, Nat.mul_one, Nat.add_zero] at this
        exact this
      have hki : (k : Int) < 12 := by omega
      have hlx := S_list x
      clear hcx
      by_cases hsx : s = x
      · have HM : Hid (freeB s = false) := by
          show _ = _
          have : s ∈ L := by rw [hsx]; exact mem_at Hx.out
          simp [freeB, HK0.out, this]
        have hb : (s == x) = true := by simp [hsx]
        clear hsx
        go_wp2
        go_ret
        exact ⟨ret_bool HM.out.symm, hB5⟩
      · have hb : (s == x) = false := by simp [hsx]
        have HX : Hid (s ∉ L.take (k + 1)) := by
          show ¬ _; rw [take_snoc Hx.out]; simp [hsx]; exact HK.out
        clear hsx
        go_wp2_with fail
        go_roundg (12 - (k + 1))
        case measure => omega
        case rel => exact ⟨k + 1, by omega, by go_num, HX, rfl⟩
    · have HX : Hid (freeB s = namedB s) := by
        show _ = _
        have h2 := HK.out
        rw [List.take_of_length_le (by rw [hLn]; omega)] at h2
        simp [freeB, HK0.out, h2]
      clear HK HK0
      go_wp2_with fail
      refine hnm.mono ?_
      rintro e w6 ⟨rfl, hb6⟩
      go_wp2
      go_ret
      exact ⟨ret_bool HX.out.symm, hB5.trans (hb6.mono hB5.size)⟩

end L
end Go.Proofs.YtelmjekjohbmjaaGreatDoor

/- The document's own answer: the contracts of Message and Enum. -/
namespace Go.Proofs.YtelmjekjohbmjaaGreatDoor
namespace L
open Go.RowKit

set_option maxHeartbeats 1000000 in
set_option maxRecDepth 100000 in
theorem rmessage_any {vm ve : Value} {l : List MI} {w : World} (h : RdL 3 MAt w vm l) (hve : ∃ ao n cap, ve = .slice ao n cap) (x : List UInt8) :
    Calls Tryz.prog 42 #[.agg #[vm, ve], .string (S x)] w fun e w' => e = .returned (.int .i64 (firstI (fun m => decide (m.name = x)) l)) ∧ Below w.heap.size w w' := by
  obtain ⟨ao, n, cap, rfl, Hn, hcap⟩ := h.shape
  obtain ⟨ae, ne, ce, rfl⟩ := hve
  obtain ⟨W0, HW0⟩ : ∃ W0, Hid (W0 = w.alloc (.cells #[.slice ao n cap, .slice ae ne ce] 25)) := ⟨_, rfl⟩
  have hb0 : Below w.heap.size w W0 := by rw [HW0.out]; exact (Below.refl _ _).alloc (Nat.le_refl _) _
  have hlx := S_list x
  go_enter Tryz.func42, Tryz.ntmps42
  go_wp2_with fail
  rw [← HW0.out]
  go_loopg [10] n (fun m i wr => ∃ k : Nat, k + m = n ∧ i = .int .i64 k ∧ Hid (∀ a ∈ l.take k, decide (a.name = x) = false) ∧ Below w.heap.size w wr)
  case atStart => exact ⟨0, by omega, rfl, by show ∀ a ∈ _, _; simp, hb0⟩
  case round =>
    obtain ⟨k, hk, rfl, HK, hb⟩ := hrel
    by_cases hlt : k < n
    · obtain ⟨a, Ha⟩ : ∃ a, Hid (l[k]? = some a) := ⟨l[k]'(by rw [← Hn.out]; exact hlt), List.getElem?_eq_getElem (by rw [← Hn.out]; exact hlt)⟩
      obtain ⟨b, off, rfl, hat⟩ := (h.below MAt.stays hb).get MAt.plain Ha.out
      obtain ⟨vf, vb, s0, s1, s2, hrf, hrb⟩ := hat.at
      obtain ⟨af, nf, cf, rfl, _, _⟩ := hrf.shape
      obtain ⟨ab, nb, cb, rfl, _, _⟩ := hrb.shape
      have hki : (k : Int) < (n : Int) := by omega
      have hla := S_list a.name
      have hb1 : Below w.heap.size w (wr.alloc (.cells #[.string (S a.name), .slice af nf cf, .slice ab nb cb] 48)) := hb.alloc hb.size _
      clear hat
      cases hq : decide (a.name = x) with
      | true =>
        have HF : Hid (firstI (fun m => decide (m.name = x)) l = (k : Int)) := first_at Ha.out HK.out hq
        have hqb : (a.name == x) = true := by simpa using hq
        clear hq
        go_wp2
        go_ret
        exact ⟨by rw [HF.out]; rfl, hb1⟩
      | false =>
        have HX : Hid (∀ a ∈ l.take (k + 1), decide (a.name = x) = false) := by
          show ∀ a ∈ _, _
          rw [take_snoc Ha.out]
          intro y hy
          rcases List.mem_append.1 hy with hy | hy
          · exact HK.out y hy
          · rw [List.mem_singleton] at hy; rw [hy]; exact hq
        have hqb : (a.name == x) = false := by simpa using hq
        clear hq
        go_wp2_with fail
        go_roundg (n - (k + 1))
        case measure => omega
        case rel => exact ⟨k + 1, by omega, by go_num, HX, hb1⟩
    · have HF : Hid (firstI (fun m => decide (m.name = x)) l = -1) := by
        have := HK.out
        rw [List.take_of_length_le (by rw [← Hn.out]; omega)] at this
        exact first_none this
      go_wp2
      go_ret
      exact ⟨by rw [HF.out]; rfl, hb⟩
set_option maxHeartbeats 1000000 in
set_option maxRecDepth 100000 in
theorem renum_any {vm ve : Value} {l : List EI} {w : World} (h : RdL 2 EAt w ve l) (hve : ∃ ao n cap, vm = .slice ao n cap) (x : List UInt8) :
    Calls Tryz.prog 107 #[.agg #[vm, ve], .string (S x)] w fun e w' => e = .returned (.int .i64 (firstI (fun m => decide (m.name = x)) l)) ∧ Below w.heap.size w w' := by
  obtain ⟨ao, n, cap, rfl, Hn, hcap⟩ := h.shape
  obtain ⟨ae, ne, ce, rfl⟩ := hve
  obtain ⟨W0, HW0⟩ : ∃ W0, Hid (W0 = w.alloc (.cells #[.slice ae ne ce, .slice ao n cap] 25)) := ⟨_, rfl⟩
  have hb0 : Below w.heap.size w W0 := by rw [HW0.out]; exact (Below.refl _ _).alloc (Nat.le_refl _) _
  have hlx := S_list x
  go_enter Tryz.func107, Tryz.ntmps107
  go_wp2_with fail
  rw [← HW0.out]
  go_loopg [10] n (fun m i wr => ∃ k : Nat, k + m = n ∧ i = .int .i64 k ∧ Hid (∀ a ∈ l.take k, decide (a.name = x) = false) ∧ Below w.heap.size w wr)
  case atStart => exact ⟨0, by omega, rfl, by show ∀ a ∈ _, _; simp, hb0⟩
  case round =>
    obtain ⟨k, hk, rfl, HK, hb⟩ := hrel
    by_cases hlt : k < n
    · obtain ⟨a, Ha⟩ : ∃ a, Hid (l[k]? = some a) := ⟨l[k]'(by rw [← Hn.out]; exact hlt), List.getElem?_eq_getElem (by rw [← Hn.out]; exact hlt)⟩
      obtain ⟨b, off, rfl, hat⟩ := (h.below EAt.stays hb).get EAt.plain Ha.out
      obtain ⟨vi, s0, s1, hri⟩ := hat.at
      obtain ⟨ai, ni, ci, rfl, _, _⟩ := hri.shape
      have hki : (k : Int) < (n : Int) := by omega
      have hla := S_list a.name
      have hb1 : Below w.heap.size w (wr.alloc (.cells #[.string (S a.name), .slice ai ni ci] 94)) := hb.alloc hb.size _
      clear hat
      cases hq : decide (a.name = x) with
      | true =>
        have HF : Hid (firstI (fun m => decide (m.name = x)) l = (k : Int)) := first_at Ha.out HK.out hq
        have hqb : (a.name == x) = true := by simpa using hq
        clear hq
        go_wp2
        go_ret
        exact ⟨by rw [HF.out]; rfl, hb1⟩
      | false =>
        have HX : Hid (∀ a ∈ l.take (k + 1), decide (a.name = x) = false) := by
          show ∀ a ∈ _, _
          rw [take_snoc Ha.out]
          intro y hy
          rcases List.mem_append.1 hy with hy | hy
          · exact HK.out y hy
          · rw [List.mem_singleton] at hy; rw [hy]; exact hq
        have hqb : (a.name == x) = false := by simpa using hq
        clear hq
        go_wp2_with fail
        go_roundg (n - (k + 1))
        case measure => omega
        case rel => exact ⟨k + 1, by omega, by go_num, HX, hb1⟩
    · have HF : Hid (firstI (fun m => decide (m.name = x)) l = -1) := by
        have := HK.out
        rw [List.take_of_length_le (by rw [← Hn.out]; omega)] at this
        exact first_none this
      go_wp2
      go_ret
      exact ⟨by rw [HF.out]; rfl, hb⟩

end L
end Go.Proofs.YtelmjekjohbmjaaGreatDoor

