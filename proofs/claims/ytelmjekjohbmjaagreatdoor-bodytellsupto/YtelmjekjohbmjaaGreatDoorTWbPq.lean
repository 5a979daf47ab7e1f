import Derived.Test.YtelmjekjohbmjaaGreatDoorTWvq
import Derived.Test.YtelmjekjohbmjaaGreatDoorM28
import Derived.Test.YtelmjekjohbmjaaGreatDoorRWrecq
import Derived.Maps.OwnOps
import Derived.Maps.Views
import Derived.Maps.OwnSet
import Derived.BigQuiet
import Derived.Deep.QuietTactic
import Derived.Deep.LoopGhost
import Derived.Deep.CutRange
import Derived.Deep.DeepCutAuto
/- The document's own answer, WrongBody: the plain part. -/
namespace Go.Proofs.YtelmjekjohbmjaaGreatDoor
namespace L
open Go.RowKit Go.WideMaps Go.Maps
set_option linter.unusedVariables false

theorem boolEl_inv {P : Program} {e : TypeId} (he : P.underlying e = some .bool) {v : Value} {z : DataW Unit × List MemPlace} (h : plainElem (H := Unit) P e v = some z) : ∃ b, v = .bool b ∧ z = (.lit (.bool b), []) := by
  unfold plainElem at h
  rw [he] at h
  cases v <;> simp at h
  exact ⟨_, rfl, h.symm⟩
theorem keyedH : Keyed Tryz.prog 3 := int_keyed Tryz.underlying3
theorem zeroH (w : World) : (zeroValue 4).run Tryz.prog w = .ok (.bool false) w := by kernel_rfl
/-- A map of numbers to truths. -/
abbrev OwnH (w : World) (b n : Nat) (D : DataW Unit) : Prop := w.ownsMap Tryz.prog 3 (plainElem (H := Unit) Tryz.prog 4) b n D
theorem OwnH.below {w w' : World} {b n : Nat} {D : DataW Unit} (h : OwnH w b n D) (hb : Below w.heap.size w w') : OwnH w' b n D := by
  have hlt := h.lt
  obtain ⟨es, clock, h1, F, hs, hD⟩ := h
  exact ⟨es, clock, (hb.block b hlt).trans h1, F, hs, hD⟩
/-- The map tells which choices there were. -/
def HdD (D : DataW Unit) (l : List Int) : Prop := ∀ c : Int, 0 < c → D.atKey (.int .i64 c) (.lit (.bool false)) = .lit (.bool (decide (c ∈ l)))
theorem HdD.nil : HdD (.map []) [] := fun c _ => by simp; rfl
theorem HdD.put {D : DataW Unit} {l : List Int} (h : HdD D l) (hD : IsMap D) (x : FI) : HdD (D.put (.int .i64 x.choice) (.lit (.bool true))) (takeS x l) := by
  intro c hc
  by_cases e : c = x.choice
  · subst e
    rw [atKey_put_same hD (show WideAt.IsKeyLit (.int .i64 x.choice) from trivial)]
    unfold takeS
    rw [if_pos hc]
    simp
  · rw [atKey_put_other (by simpa using e), h c hc]
    unfold takeS
    split
    · simp [e]
    · rfl
theorem find_split {α : Type} {p : α → Bool} {l : List α} {x : α} (h : l.find? p = some x) : ∃ j, l[j]? = some x ∧ p x = true ∧ ∀ a ∈ l.take j, p a = false := by
  obtain ⟨h1, la, lb, e, h2⟩ := List.find?_eq_some_iff_append.1 h
  refine ⟨la.length, by rw [e]; simp, h1, fun a ha => ?_⟩
  rw [e, List.take_left'] at ha
  · simpa using h2 a ha
  · rfl
theorem valE_none {β : Type} {fs : List FI} {f : List UInt8 → β → Int} {v : VI β} {s : Int × List Int} (hx : fs.find? (fun y => decide (y.number = v.number)) = none) : valE fs f v s = 6 := by
  unfold valE
  rw [hx]
theorem valE_some {β : Type} {fs : List FI} {f : List UInt8 → β → Int} {v : VI β} {s : Int × List Int} {x : FI} (hx : fs.find? (fun y => decide (y.number = v.number)) = some x) :
    valE fs f v s = if v.number ≤ s.1 then 2 else if wvE x v f ≠ 0 then wvE x v f else if 0 < x.choice ∧ x.choice ∈ s.2 then 8 else 0 := by
  unfold valE
  rw [hx]
  show firstN (eAt x v f s) 0 8 = _
  unfold wvE
  simp only [firstN, eAt, decide_eq_true_eq]
  by_cases h0 : v.number ≤ s.1
  · simp [h0]
  by_cases h1 : othersB x v = true
  · simp [h0, h1]
  by_cases h2 : miscB x v = true
  · simp [h0, h1, h2]
  by_cases h3 : withoutB x v = true
  · simp [h0, h1, h2, h3]
  by_cases h4 : firstE (fitsI x.kind) v.bits = 0
  · by_cases h5 : firstE (bytesE x.kind) v.bytes = 0
    · by_cases h6 : firstE (f x.type) v.subs = 0
      · simp [h0, h1, h2, h3, h4, h5, h6]
      · simp [h0, h1, h2, h3, h4, h5, h6]
    · simp [h0, h1, h2, h3, h4, h5]
  · simp [h0, h1, h2, h3, h4]
theorem nextS_some {β : Type} {fs : List FI} {v : VI β} {s : Int × List Int} {x : FI} (hx : fs.find? (fun y => decide (y.number = v.number)) = some x) : nextS fs v s = (v.number, takeS x s.2) := by
  unfold nextS
  rw [hx]

end L
end Go.Proofs.YtelmjekjohbmjaaGreatDoor

