import Derived.Test.YtelmjekjohbmjaaGreatDoorM28
/- A part of the world: what a caller handed over, and what was made behind, but for some blocks. -/
namespace Go.Proofs.YtelmjekjohbmjaaGreatDoor
namespace L
open Go.RowKit
set_option linter.unusedVariables false

/-- u' has what u had, and what w' has besides w but for the blocks F. -/
structure OverF (F : List Nat) (u w w' u' : World) : Prop where
  sub : Sub u u'
  new : ∀ k, w.heap.size ≤ k → k < w'.heap.size → k ∉ F → u'.heap[k]? = w'.heap[k]?
theorem OverF.of {F : List Nat} {u w w' u' : World} (h : Over u w w' u') : OverF F u w w' u' := ⟨h.sub, fun k h1 h2 _ => h.new k h1 h2⟩
theorem OverF.back {F G : List Nat} {u w w' u' v : World} (h : OverF G u w w' u') (hs : v.heap.size ≤ w'.heap.size) (hb : ∀ k, w.heap.size ≤ k → k < v.heap.size → k ∉ F → k ∉ G ∧ w'.heap[k]? = v.heap[k]?) : OverF F u w v u' :=
  ⟨h.sub, fun k h1 h2 h3 => (h.new k h1 (by omega) (hb k h1 h2 h3).1).trans (hb k h1 h2 h3).2⟩
def part (u w : World) (F : List Nat) (V : World) : World := { V with heap := V.heap.mapIdx fun k o => if k < w.heap.size then (u.heap[k]?).getD (.cells #[] 0 (0, 0)) else if k ∈ F then .cells #[] 0 (0, 0) else o }
theorem part_size (u w : World) (F : List Nat) (V : World) : (part u w F V).heap.size = V.heap.size := by simp [part]
theorem part_new {u w : World} {F : List Nat} {V : World} {k : Nat} (h : w.heap.size ≤ k) (hF : k ∉ F) : (part u w F V).heap[k]? = V.heap[k]? := by
  unfold part
  rw [Array.getElem?_mapIdx]
  cases V.heap[k]? with
  | none => rfl
  | some o => simp [hF, Nat.not_lt.2 h]
theorem part_old {u w : World} {F : List Nat} {V : World} {k : Nat} (h : k < w.heap.size) (hV : k < V.heap.size) : (part u w F V).heap[k]? = some ((u.heap[k]?).getD (.cells #[] 0 (0, 0))) := by
  unfold part
  rw [Array.getElem?_mapIdx, Array.getElem?_eq_getElem hV]
  simp [h]
theorem part_out {u w : World} {F : List Nat} {V : World} {k : Nat} (h : w.heap.size ≤ k) (hF : k ∈ F) {x : Addr} (hx : x.block = k) : (part u w F V).cell? x = none := by
  unfold World.cell? part
  rw [hx, Array.getElem?_mapIdx]
  cases V.heap[k]? with
  | none => rfl
  | some o => simp [hF, Nat.not_lt.2 h]
/-- What lies in a part: u's cells, and those of V behind w but for F. -/
theorem part_cell {u w : World} {F : List Nat} {V : World} (hV : w.heap.size ≤ V.heap.size) {x : Addr} {v : Value} (h : (part u w F V).cell? x = some v) : u.cell? x = some v ∨ (w.heap.size ≤ x.block ∧ x.block < V.heap.size ∧ x.block ∉ F ∧ V.cell? x = some v) := by
  by_cases h1 : x.block < w.heap.size
  · left
    unfold World.cell? at h ⊢
    rw [part_old h1 (by omega)] at h
    cases e : u.heap[x.block]? with
    | none => rw [e] at h; simp at h
    | some o => rw [e] at h; exact h
  · right
    by_cases h2 : x.block ∈ F
    · rw [part_out (by omega) h2 rfl] at h; cases h
    · have h3 : (part u w F V).heap[x.block]? = V.heap[x.block]? := part_new (by omega) h2
      have h4 : V.cell? x = some v := by
        unfold World.cell? at h ⊢
        rw [h3] at h
        exact h
      exact ⟨by omega, World.block_lt_of_cell? V x h4, h2, h4⟩
theorem cell_of_heapT {a b : World} {x : Addr} {v : Value} (e : b.heap[x.block]? = a.heap[x.block]?) (h : a.cell? x = some v) : b.cell? x = some v := by
  unfold World.cell? at h ⊢
  rw [e]
  exact h
theorem part_sub {u w : World} {F : List Nat} {V : World} (hu : Sub u w) (hV : Below w.heap.size w V) : Sub (part u w F V) V := by
  intro x v h
  rcases part_cell hV.size h with h | ⟨_, _, _, h⟩
  · exact cell_below hV (hu _ _ h)
  · exact h
theorem part_over {u w : World} {F : List Nat} {V : World} (hu : Sub u w) (hV : w.heap.size ≤ V.heap.size) : OverF F u w V (part u w F V) := by
  refine ⟨fun x v h => ?_, fun k h1 _ h3 => part_new h1 h3⟩
  have hb := World.block_lt_of_cell? w x (hu _ _ h)
  unfold World.cell? at h ⊢
  rw [part_old hb (by omega)]
  cases e : u.heap[x.block]? with
  | none => rw [e] at h; simp at h
  | some o => rw [e] at h; exact h
theorem part_in {F G : List Nat} {u w w' u' V : World} (h : OverF G u w w' u') (hw : w.heap.size ≤ V.heap.size) (hs : V.heap.size ≤ w'.heap.size) (hb : ∀ k, w.heap.size ≤ k → k < V.heap.size → k ∉ F → k ∉ G ∧ w'.heap[k]? = V.heap[k]?) : Sub (part u w F V) u' := by
  intro x v hx
  rcases part_cell hw hx with hx | ⟨h1, h2, h3, hx⟩
  · exact h.sub _ _ hx
  · exact cell_of_heapT ((h.new _ h1 (by omega) (hb _ h1 h2 h3).1).trans (hb _ h1 h2 h3).2) hx

end L
end Go.Proofs.YtelmjekjohbmjaaGreatDoor

