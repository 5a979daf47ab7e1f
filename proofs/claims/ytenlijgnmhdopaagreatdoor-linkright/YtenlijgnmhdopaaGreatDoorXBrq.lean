import Derived.Test.YtenlijgnmhdopaaGreatDoorSParse
import Derived.Test.YtenlijgnmhdopaaGreatDoorLLinkq
/- Files that a text tells, as package link reads them. -/
namespace Go.Proofs.YtenlijgnmhdopaaGreatDoor
open Go.RowKit

def toF (f : Fld) : L.FI := ⟨f.name, f.number, f.kind, f.type, f.many, f.choice⟩
def toM (m : Msg) : L.MI := ⟨m.name, m.fields.map toF, m.barred.map fun n : Nat => (n : Int)⟩
def toI (i : Itm) : L.II := ⟨i.name, i.value⟩
def toE (e : Enm) : L.EI := ⟨e.name, e.items.map toI⟩
def toG (f : Fil) : L.GI := ⟨f.msgs.map toM, f.enums.map toE⟩

theorem row_conv {α β : Type} {E : EK α} {F : L.EK β} {w : World} {base : Nat} {v : Value} {l : List α} (t : α → β) (h : Row E w base v l) (he : E.elem = F.elem) (hs : E.size = F.size) (henc : ∀ a, F.enc (t a) = E.enc a) : L.Row F w base v (l.map t) := by
  have hf : F.flat (l.map t) = E.flat l := by
    unfold L.EK.flat EK.flat
    rw [List.flatMap_map]
    exact congrArg (fun f => l.flatMap f) (funext henc)
  unfold Row at h
  unfold L.Row
  rw [hf, List.length_map, ← he, ← hs]
  exact h
theorem FilR.ownG {w : World} {base : Nat} {vm ve : Value} {lm : List (Msg × SV × SV)} {le : List (Enm × SV)} (h : FilR w base vm ve lm le) : L.OwnG w base vm ve (lm.map fun p => (toM p.1, p.2)) (le.map fun p => (toE p.1, p.2)) := by
  refine ⟨row_conv _ h.rowm rfl rfl (fun _ => rfl), row_conv _ h.rowe rfl rfl (fun _ => rfl), ?_, ?_⟩
  · intro p hp
    obtain ⟨q, hq, rfl⟩ := List.mem_map.1 hp
    exact ⟨row_conv toF (h.ms q hq).1 rfl rfl (fun _ => rfl), row_conv (fun n : Nat => (n : Int)) (h.ms q hq).2 rfl rfl (fun _ => rfl)⟩
  · intro p hp
    obtain ⟨q, hq, rfl⟩ := List.mem_map.1 hp
    exact row_conv toI (h.es q hq) rfl rfl (fun _ => rfl)
theorem FilR.grd {w : World} {base : Nat} {vm ve : Value} {lm : List (Msg × SV × SV)} {le : List (Enm × SV)} (h : FilR w base vm ve lm le) {f : Fil} (hm : lm.map Prod.fst = f.msgs) (he : le.map Prod.fst = f.enums) : L.GRd w vm ve (toG f) := by
  have := h.ownG.rd
  have e1 : (lm.map fun p => (toM p.1, p.2)).map Prod.fst = f.msgs.map toM := by rw [← hm, List.map_map, List.map_map]; rfl
  have e2 : (le.map fun p => (toE p.1, p.2)).map Prod.fst = f.enums.map toE := by rw [← he, List.map_map, List.map_map]; rfl
  rw [e1, e2] at this
  exact this

end Go.Proofs.YtenlijgnmhdopaaGreatDoor

