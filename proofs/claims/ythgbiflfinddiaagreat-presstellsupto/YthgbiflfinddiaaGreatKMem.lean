/- Steps and programs in memory. -/
import Derived.Test.YthgbiflfinddiaaGreatKDef
import Derived.Test.YthgbiflfinddiaaGreatLRules
import Derived.Test.YthgbiflfinddiaaGreatLApp
namespace Go.Proofs.YthgbiflfinddiaaGreat
namespace L
open Go.RowKit

theorem blk5 {w : World} {g : Nat} {a0 a1 a2 a3 a4 : Value} {t : TypeId} (h : w.heap[g]? = some (.cells #[a0, a1, a2, a3, a4] t (0, 0))) :
    w.cell? ⟨g, 0, none⟩ = some a0 ∧ w.cell? ⟨g, 1, none⟩ = some a1 ∧ w.cell? ⟨g, 2, none⟩ = some a2 ∧ w.cell? ⟨g, 3, none⟩ = some a3 ∧ w.cell? ⟨g, 4, none⟩ = some a4 :=
  ⟨cell_of_blk h 0 _ rfl, cell_of_blk h 1 _ rfl, cell_of_blk h 2 _ rfl, cell_of_blk h 3 _ rfl, cell_of_blk h 4 _ rfl⟩
theorem KBT {A V V' : World} (h : Below A.heap.size A V) (k : Below V.heap.size V V') : Below A.heap.size A V' := h.trans (k.mono h.size)
theorem KB_alloc {W V : World} {B : Nat} (h : Below B W V) (hB : B ≤ W.heap.size) (o : Obj) : Below B W (V.alloc o) := h.alloc (Nat.le_trans hB h.size) o
theorem kB_app {W V V' : World} {B : Nat} {r : Option Nat} (h : Below B W V) (hB : B ≤ W.heap.size) (hg : V.grownBy V' r) (hr : ∀ k, r = some k → B ≤ k) : Below B W V' := h.grown hg (Nat.le_trans hB h.size) hr
theorem KB_set5 {W V : World} {B g : Nat} {x0 x1 x2 x3 x4 : Value} (h : Below B W V) (hg : B ≤ g) : Below B W (((((V.setCell ⟨g, 0, none⟩ x0).setCell ⟨g, 1, none⟩ x1).setCell ⟨g, 2, none⟩ x2).setCell ⟨g, 3, none⟩ x3).setCell ⟨g, 4, none⟩ x4) :=
  ((((h.setCell (p := ⟨g, 0, none⟩) hg x0).setCell (p := ⟨g, 1, none⟩) hg x1).setCell (p := ⟨g, 2, none⟩) hg x2).setCell (p := ⟨g, 3, none⟩) hg x3).setCell (p := ⟨g, 4, none⟩) hg x4
theorem set5_at {V : World} {g : Nat} {t : TypeId} {a0 a1 a2 a3 a4 x0 x1 x2 x3 x4 : Value} (h : V.heap[g]? = some (.cells #[a0, a1, a2, a3, a4] t (0, 0))) : (((((V.setCell ⟨g, 0, none⟩ x0).setCell ⟨g, 1, none⟩ x1).setCell ⟨g, 2, none⟩ x2).setCell ⟨g, 3, none⟩ x3).setCell ⟨g, 4, none⟩ x4).heap[g]? = some (.cells #[x0, x1, x2, x3, x4] t (0, 0)) :=
  heap_setCell_same _ _ 4 _ _ x4 (heap_setCell_same _ _ 3 _ _ x3 (heap_setCell_same _ _ 2 _ _ x2 (heap_setCell_same _ _ 1 _ _ x1 (heap_setCell_same _ _ 0 _ _ x0 h))))
theorem kind4 (x : FI) : kindN x = 4 ↔ x.kind = 10 := by
  unfold kindN
  constructor
  · intro h
    split at h
    · assumption
    · split at h
      · cases h
      · split at h <;> cases h
  · intro h
    rw [if_pos h]
def tv (s : TI) : Value := .agg #[.int .i64 s.kind, .int .i64 s.number, .int .i64 s.how, .int .i64 s.field, .int .i64 s.next]

theorem kone_src {α : Type} (E : EK α) (w : World) (y : α) : ∀ ad, some (⟨w.heap.size, 0, none⟩ : Addr) = some ad → ∀ k z, [y][k]? = some z → ∀ j u, (E.enc z)[j]? = some u → (w.alloc (.cells (E.enc y).toArray E.elem)).cell? (ad.add (k * E.size + j)) = some u := by
  intro ad had k z hz j u hu
  cases had
  cases k with
  | succ k => simp at hz
  | zero =>
    have hz : y = z := by simpa using hz
    subst hz
    rw [add_plain, Nat.zero_mul, Nat.zero_add, Nat.zero_add]
    exact cell_of_blk (heap_alloc_new w _) j u (by simpa using hu)
def encP (s : TI) : List Value := [.int .i64 s.kind, .int .i64 s.number, .int .i64 s.how, .int .i64 s.field, .int .i64 s.next]
def ekP : EK TI where
  elem := 51
  slice := 45
  size := 5
  bytes := 40
  zero := .agg #[.int .i64 0, .int .i64 0, .int .i64 0, .int .i64 0, .int .i64 0]
  enc := encP
  under := Tryz.underlying45
  info := by kernel_rfl
  zs := rfl
  pos := by decide
  small := by decide
  len := fun _ => rfl
  one := by intro a u hu; simp only [encP, List.mem_cons, List.mem_nil_iff, or_false] at hu; rcases hu with rfl | rfl | rfl | rfl | rfl <;> rfl
/-- Where a program lies. -/
abbrev KV := Option Addr × Nat × Nat
def KV.v (p : KV) : Value := .slice p.1 p.2.1 p.2.2
def encQ (p : List TI × KV) : List Value := [p.2.v]
def ekQ : EK (List TI × KV) where
  elem := 45
  slice := 26
  size := 1
  bytes := 24
  zero := .slice none 0 0
  enc := encQ
  under := Tryz.underlying26
  info := by kernel_rfl
  zs := rfl
  pos := by decide
  small := by decide
  len := fun _ => rfl
  one := by intro a u hu; simp only [encQ, List.mem_singleton] at hu; subst hu; rfl
def StAt (w : World) (x : Addr) (s : TI) : Prop := w.cell? x = some (.int .i64 s.kind) ∧ w.cell? (x.add 1) = some (.int .i64 s.number) ∧ w.cell? (x.add 2) = some (.int .i64 s.how) ∧ w.cell? (x.add 3) = some (.int .i64 s.field) ∧ w.cell? (x.add 4) = some (.int .i64 s.next)
def PrAt (w : World) (x : Addr) (p : List TI) : Prop := ∃ v, w.cell? x = some v ∧ RdL 5 StAt w v p
theorem StAt.stays : Stays StAt := fun _ _ _ _ hb h => ⟨cell_below hb h.1, cell_below hb h.2.1, cell_below hb h.2.2.1, cell_below hb h.2.2.2.1, cell_below hb h.2.2.2.2⟩
theorem PrAt.stays : Stays PrAt := fun _ _ _ _ hb ⟨v, h, r⟩ => ⟨v, cell_below hb h, r.below StAt.stays hb⟩
theorem StAt.plain : Plain StAt := fun _ _ _ _ _ h => plain_cell h.1
theorem PrAt.plain : Plain PrAt := fun _ _ _ _ _ ⟨_, h, _⟩ => plain_cell h
theorem StAt.at {w : World} {b o : Nat} {s : TI} (h : StAt w ⟨b, o, none⟩ s) : w.cell? ⟨b, o, none⟩ = some (.int .i64 s.kind) ∧ w.cell? ⟨b, o + 1, none⟩ = some (.int .i64 s.number) ∧ w.cell? ⟨b, o + 2, none⟩ = some (.int .i64 s.how) ∧ w.cell? ⟨b, o + 3, none⟩ = some (.int .i64 s.field) ∧ w.cell? ⟨b, o + 4, none⟩ = some (.int .i64 s.next) := by
  simp only [StAt, add_plain] at h; exact h
theorem Row.rdP {w : World} {base : Nat} {v : Value} {l : List TI} (h : Row ekP w base v l) : RdL 5 StAt w v l := h.rd StAt fun g i a hc => by
  have h0 := hc 0 _ rfl
  refine ⟨by simpa using h0, ?_, ?_, ?_, ?_⟩
  · rw [add_plain]; exact hc 1 _ rfl
  · rw [add_plain]; exact hc 2 _ rfl
  · rw [add_plain]; exact hc 3 _ rfl
  · rw [add_plain]; exact hc 4 _ rfl
/-- Programs that the call made. -/
structure OwnQ (w : World) (base : Nat) (v : Value) (l : List (List TI × KV)) : Prop where
  row : Row ekQ w base v l
  each : ∀ p ∈ l, Row ekP w base p.2.v p.1
theorem OwnQ.below {w w' : World} {base : Nat} {v : Value} {l : List (List TI × KV)} (h : OwnQ w base v l) (hb : Below w.heap.size w w') : OwnQ w' base v l := ⟨h.row.below hb, fun p hp => (h.each p hp).below hb⟩
theorem OwnQ.mono {w : World} {base base' : Nat} {v : Value} {l : List (List TI × KV)} (h : OwnQ w base v l) (hb : base' ≤ base) : OwnQ w base' v l := ⟨h.row.mono hb, fun p hp => (h.each p hp).mono hb⟩
theorem rdl_map {α β : Type} {sz : Nat} {P : World → Addr → α → Prop} {R : World → Addr → β → Prop} {w : World} {v : Value} {l : List α} (f : α → β) (h : RdL sz P w v l) (hf : ∀ x a, a ∈ l → P w x a → R w x (f a)) : RdL sz R w v (l.map f) := by
  obtain ⟨ao, n, cap, e, h1, h2, h3, h4, h5⟩ := h
  refine ⟨ao, n, cap, e, by simpa using h1, h2, h3, h4, fun x hx k b hb => ?_⟩
  rw [List.getElem?_map] at hb
  cases ha : l[k]? with
  | none => rw [ha] at hb; simp at hb
  | some a =>
    rw [ha] at hb
    simp at hb
    subst hb
    exact hf _ a (List.mem_of_getElem? ha) (h5 x hx k a ha)
theorem OwnQ.rd {w : World} {base : Nat} {v : Value} {l : List (List TI × KV)} (h : OwnQ w base v l) : RdL 1 PrAt w v (l.map Prod.fst) := by
  refine rdl_map (P := fun w x (p : List TI × KV) => w.cell? x = some p.2.v) Prod.fst (h.row.rd _ fun g i a hc => ?_) ?_
  · have := hc 0 _ rfl
    simpa using this
  · intro x p hp h0
    exact ⟨p.2.v, h0, (h.each p hp).rdP⟩
theorem Row.low {α : Type} {E : EK α} {w : World} {base g : Nat} {v : Value} {l : List α} (h : Row E w base v l) (hg : g < base) (i : Nat) (x : Value) : Row E (w.setCell ⟨g, i, none⟩ x) base v l :=
  h.other (fun e => by have := (h.own g e).1; omega) i x
theorem OwnQ.low {w : World} {base g : Nat} {v : Value} {l : List (List TI × KV)} (h : OwnQ w base v l) (hg : g < base) (i : Nat) (x : Value) : OwnQ (w.setCell ⟨g, i, none⟩ x) base v l := ⟨h.row.low hg i x, fun p hp => (h.each p hp).low hg i x⟩
theorem KB_set {W V : World} {B g i : Nat} {x : Value} (h : Below B W V) (hg : B ≤ g) : Below B W (V.setCell ⟨g, i, none⟩ x) := h.setCell (p := ⟨g, i, none⟩) hg x

end L
end Go.Proofs.YthgbiflfinddiaaGreat
