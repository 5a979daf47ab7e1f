import Derived.Test.YtenlijgnmhdopaaGreatDoorMLa
import Derived.Test.YtenlijgnmhdopaaGreatDoorLCopyq
/- A file's lists that the call made: messages, fields, numbers, enums, items. -/
namespace Go.Proofs.YtenlijgnmhdopaaGreatDoor
namespace L
open Go.RowKit

def encF (f : FI) : List Value := [.string (S f.name), .int .i64 f.number, .int .i64 f.kind, .string (S f.type), .bool f.many, .int .i64 f.choice]
def ekF : EK FI where
  elem := 39
  slice := 34
  size := 6
  bytes := 64
  zero := .agg #[.string ⟨#[]⟩, .int .i64 0, .int .i64 0, .string ⟨#[]⟩, .bool false, .int .i64 0]
  enc := encF
  under := Tryz.underlying34
  info := by kernel_rfl
  zs := rfl
  pos := by decide
  small := by decide
  len := fun _ => rfl
  one := by intro a u hu; simp only [encF, List.mem_cons, List.mem_nil_iff, or_false] at hu; rcases hu with rfl | rfl | rfl | rfl | rfl | rfl <;> rfl
def encT (f : II) : List Value := [.string (S f.name), .int .i64 f.value]
def ekT : EK II where
  elem := 52
  slice := 48
  size := 2
  bytes := 24
  zero := .agg #[.string ⟨#[]⟩, .int .i64 0]
  enc := encT
  under := Tryz.underlying48
  info := by kernel_rfl
  zs := rfl
  pos := by decide
  small := by decide
  len := fun _ => rfl
  one := by intro a u hu; simp only [encT, List.mem_cons, List.mem_nil_iff, or_false] at hu; rcases hu with rfl | rfl <;> rfl
/-- Where a list lies. -/
abbrev LV := Option Addr × Nat × Nat
def LV.v (p : LV) : Value := .slice p.1 p.2.1 p.2.2
def encM (p : MI × LV × LV) : List Value := [.string (S p.1.name), p.2.1.v, p.2.2.v]
def ekM : EK (MI × LV × LV) where
  elem := 37
  slice := 22
  size := 3
  bytes := 64
  zero := .agg #[.string ⟨#[]⟩, .slice none 0 0, .slice none 0 0]
  enc := encM
  under := Tryz.underlying22
  info := by kernel_rfl
  zs := rfl
  pos := by decide
  small := by decide
  len := fun _ => rfl
  one := by intro a u hu; simp only [encM, List.mem_cons, List.mem_nil_iff, or_false] at hu; rcases hu with rfl | rfl | rfl <;> rfl
def encE (p : EI × LV) : List Value := [.string (S p.1.name), p.2.v]
def ekE : EK (EI × LV) where
  elem := 50
  slice := 23
  size := 2
  bytes := 40
  zero := .agg #[.string ⟨#[]⟩, .slice none 0 0]
  enc := encE
  under := Tryz.underlying23
  info := by kernel_rfl
  zs := rfl
  pos := by decide
  small := by decide
  len := fun _ => rfl
  one := by intro a u hu; simp only [encE, List.mem_cons, List.mem_nil_iff, or_false] at hu; rcases hu with rfl | rfl <;> rfl

/-- A file's lists that the call made. -/
structure OwnG (w : World) (base : Nat) (vm ve : Value) (lm : List (MI × LV × LV)) (le : List (EI × LV)) : Prop where
  rowm : Row ekM w base vm lm
  rowe : Row ekE w base ve le
  ms : ∀ p ∈ lm, Row ekF w base p.2.1.v p.1.fields ∧ Row ekN w base p.2.2.v p.1.barred
  es : ∀ p ∈ le, Row ekT w base p.2.v p.1.items
theorem Row.rdF {w : World} {base : Nat} {v : Value} {l : List FI} (h : Row ekF w base v l) : RdL 6 FAt w v l := h.rd FAt fun g i a hc => by
  have h0 := hc 0 _ rfl
  refine ⟨by simpa using h0, ?_, ?_, ?_, ?_, ?_⟩
  · rw [add_plain]; exact hc 1 _ rfl
  · rw [add_plain]; exact hc 2 _ rfl
  · rw [add_plain]; exact hc 3 _ rfl
  · rw [add_plain]; exact hc 4 _ rfl
  · rw [add_plain]; exact hc 5 _ rfl
theorem Row.rdT {w : World} {base : Nat} {v : Value} {l : List II} (h : Row ekT w base v l) : RdL 2 TAt w v l := h.rd TAt fun g i a hc => by
  have h0 := hc 0 _ rfl
  refine ⟨by simpa using h0, ?_⟩
  rw [add_plain]; exact hc 1 _ rfl
theorem RdL.map {α β : Type} {sz : Nat} {P : World → Addr → α → Prop} {R : World → Addr → β → Prop} {w : World} {v : Value} {l : List α} (f : α → β) (h : RdL sz P w v l) (hf : ∀ x a, a ∈ l → P w x a → R w x (f a)) : RdL sz R w v (l.map f) := by
  obtain ⟨ao, n, cap, e, h1, h2, h3, h4, h5⟩ := h
  refine ⟨ao, n, cap, e, by simpa using h1, h2, h3, h4, fun x hx k b hb => ?_⟩
  rw [List.getElem?_map] at hb
  cases ha : l[k]? with
  | none => rw [ha] at hb; simp at hb
  | some a =>
    rw [ha] at hb
    simp at hb
    subst hb
    exact hf _ a (List.mem_of_getElem? ha) (h5 x hx k a ha)
/-- Such a file can be read. -/
theorem OwnG.rd {w : World} {base : Nat} {vm ve : Value} {lm : List (MI × LV × LV)} {le : List (EI × LV)} (h : OwnG w base vm ve lm le) : GRd w vm ve ⟨lm.map Prod.fst, le.map Prod.fst⟩ := by
  refine ⟨?_, ?_⟩
  · refine RdL.map (P := fun w x (p : MI × LV × LV) => w.cell? x = some (.string (S p.1.name)) ∧ w.cell? (x.add 1) = some p.2.1.v ∧ w.cell? (x.add 2) = some p.2.2.v) Prod.fst (h.rowm.rd _ fun g i a hc => ?_) ?_
    · refine ⟨by simpa using hc 0 _ rfl, ?_, ?_⟩
      · rw [add_plain]; exact hc 1 _ rfl
      · rw [add_plain]; exact hc 2 _ rfl
    · rintro x p hp ⟨h0, h1, h2⟩
      exact ⟨p.2.1.v, p.2.2.v, h0, h1, h2, (h.ms p hp).1.rdF, (h.ms p hp).2.rdN⟩
  · refine RdL.map (P := fun w x (p : EI × LV) => w.cell? x = some (.string (S p.1.name)) ∧ w.cell? (x.add 1) = some p.2.v) Prod.fst (h.rowe.rd _ fun g i a hc => ?_) ?_
    · refine ⟨by simpa using hc 0 _ rfl, ?_⟩
      rw [add_plain]; exact hc 1 _ rfl
    · rintro x p hp ⟨h0, h1⟩
      exact ⟨p.2.v, h0, h1, (h.es p hp).rdT⟩

end L
end Go.Proofs.YtenlijgnmhdopaaGreatDoor

