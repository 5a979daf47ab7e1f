/- Bodies as they come in: plain data, by how deep they are, and where they lie. -/
import Derived.Test.YthgbiflfinddiaaGreatLFind
namespace Go.Proofs.YthgbiflfinddiaaGreat
namespace L
open Go.RowKit

structure RI where
  number : Int
  how : Int
  bits : Nat
  bytes : List UInt8
deriving DecidableEq
/-- A value whose subs are β. -/
structure VI (β : Type) where
  number : Int
  bits : List Nat
  bytes : List (List UInt8)
  subs : List β
structure BO (β : Type) where
  vals : List (VI β)
  unk : List RI
/-- A body that is at most that deep. -/
def BI : Nat → Type
  | 0 => Empty
  | d + 1 => BO (BI d)

def UAt (w : World) (x : Addr) (n : Nat) : Prop := w.cell? x = some (.int .u64 (n : Int))
def YAt (w : World) (x : Addr) (b : UInt8) : Prop := w.cell? x = some (.int .u8 (b.toNat : Int))
def ZAt (w : World) (x : Addr) (l : List UInt8) : Prop := ∃ v, w.cell? x = some v ∧ RdL 1 YAt w v l
def RAt (w : World) (x : Addr) (r : RI) : Prop := ∃ v, w.cell? x = some (.int .i64 r.number) ∧ w.cell? (x.add 1) = some (.int .i64 r.how) ∧ w.cell? (x.add 2) = some (.int .u64 (r.bits : Int)) ∧ w.cell? (x.add 3) = some v ∧ RdL 1 YAt w v r.bytes
def VAt {β : Type} (P : World → Addr → β → Prop) (w : World) (x : Addr) (v : VI β) : Prop := ∃ v1 v2 v3, w.cell? x = some (.int .i64 v.number) ∧ w.cell? (x.add 1) = some v1 ∧ w.cell? (x.add 2) = some v2 ∧ w.cell? (x.add 3) = some v3 ∧ RdL 1 UAt w v1 v.bits ∧ RdL 1 ZAt w v2 v.bytes ∧ RdL 2 P w v3 v.subs
def BAt : (d : Nat) → World → Addr → BI d → Prop
  | 0 => fun _ _ _ => False
  | d + 1 => fun w x b => ∃ v0 v1, w.cell? x = some v0 ∧ w.cell? (x.add 1) = some v1 ∧ RdL 4 (VAt (BAt d)) w v0 (BO.vals b) ∧ RdL 4 RAt w v1 (BO.unk b)
/-- A body that was handed over, and can be read. -/
def BRd (d : Nat) (w : World) (v0 v1 : Value) (b : BO (BI d)) : Prop := RdL 4 (VAt (BAt d)) w v0 b.vals ∧ RdL 4 RAt w v1 b.unk
theorem UAt.stays : Stays UAt := fun _ _ _ _ hb h => cell_below hb h
theorem YAt.stays : Stays YAt := fun _ _ _ _ hb h => cell_below hb h
theorem ZAt.stays : Stays ZAt := fun _ _ _ _ hb ⟨v, h1, h2⟩ => ⟨v, cell_below hb h1, h2.below YAt.stays hb⟩
theorem RAt.stays : Stays RAt := fun _ _ _ _ hb ⟨v, h1, h2, h3, h4, h5⟩ => ⟨v, cell_below hb h1, cell_below hb h2, cell_below hb h3, cell_below hb h4, h5.below YAt.stays hb⟩
theorem VAt.stays {β : Type} {P : World → Addr → β → Prop} (hP : Stays P) : Stays (VAt P) := fun _ _ _ _ hb ⟨v1, v2, v3, h1, h2, h3, h4, h5, h6, h7⟩ => ⟨v1, v2, v3, cell_below hb h1, cell_below hb h2, cell_below hb h3, cell_below hb h4, h5.below UAt.stays hb, h6.below ZAt.stays hb, h7.below hP hb⟩
theorem BAt.stays : ∀ d, Stays (BAt d)
  | 0 => fun _ _ _ _ _ h => h
  | d + 1 => fun _ _ _ _ hb ⟨v0, v1, h1, h2, h3, h4⟩ => ⟨v0, v1, cell_below hb h1, cell_below hb h2, h3.below (VAt.stays (BAt.stays d)) hb, h4.below RAt.stays hb⟩
theorem BRd.below {d : Nat} {w w' : World} {v0 v1 : Value} {b : BO (BI d)} (h : BRd d w v0 v1 b) (hb : Below w.heap.size w w') : BRd d w' v0 v1 b := ⟨h.1.below (VAt.stays (BAt.stays d)) hb, h.2.below RAt.stays hb⟩
theorem UAt.plain : Plain UAt := fun _ _ _ _ _ h => plain_cell h
theorem YAt.plain : Plain YAt := fun _ _ _ _ _ h => plain_cell h
theorem ZAt.plain : Plain ZAt := fun _ _ _ _ _ ⟨_, h, _⟩ => plain_cell h
theorem RAt.plain : Plain RAt := fun _ _ _ _ _ ⟨_, h, _⟩ => plain_cell h
theorem VAt.plain {β : Type} {P : World → Addr → β → Prop} : Plain (VAt P) := fun _ _ _ _ _ ⟨_, _, _, h, _⟩ => plain_cell h
theorem BAt.plain : ∀ d, Plain (BAt d)
  | 0 => fun _ _ _ _ _ h => h.elim
  | _ + 1 => fun _ _ _ _ _ ⟨_, _, h, _⟩ => plain_cell h
theorem ZAt.at {w : World} {b o : Nat} {l : List UInt8} (h : ZAt w ⟨b, o, none⟩ l) : ∃ v, w.cell? ⟨b, o, none⟩ = some v ∧ RdL 1 YAt w v l := h
theorem RAt.at {w : World} {b o : Nat} {r : RI} (h : RAt w ⟨b, o, none⟩ r) : ∃ v, w.cell? ⟨b, o, none⟩ = some (.int .i64 r.number) ∧ w.cell? ⟨b, o + 1, none⟩ = some (.int .i64 r.how) ∧ w.cell? ⟨b, o + 2, none⟩ = some (.int .u64 (r.bits : Int)) ∧ w.cell? ⟨b, o + 3, none⟩ = some v ∧ RdL 1 YAt w v r.bytes := by
  simp only [RAt, add_plain] at h; exact h
theorem VAt.at {β : Type} {P : World → Addr → β → Prop} {w : World} {b o : Nat} {v : VI β} (h : VAt P w ⟨b, o, none⟩ v) : ∃ v1 v2 v3, w.cell? ⟨b, o, none⟩ = some (.int .i64 v.number) ∧ w.cell? ⟨b, o + 1, none⟩ = some v1 ∧ w.cell? ⟨b, o + 2, none⟩ = some v2 ∧ w.cell? ⟨b, o + 3, none⟩ = some v3 ∧ RdL 1 UAt w v1 v.bits ∧ RdL 1 ZAt w v2 v.bytes ∧ RdL 2 P w v3 v.subs := by
  simp only [VAt, add_plain] at h; exact h
theorem BAt.at {d : Nat} {w : World} {b o : Nat} {x : BI (d + 1)} (h : BAt (d + 1) w ⟨b, o, none⟩ x) : ∃ v0 v1, w.cell? ⟨b, o, none⟩ = some v0 ∧ w.cell? ⟨b, o + 1, none⟩ = some v1 ∧ BRd d w v0 v1 x := by
  simp only [BAt, add_plain] at h; exact h

end L
end Go.Proofs.YthgbiflfinddiaaGreat
