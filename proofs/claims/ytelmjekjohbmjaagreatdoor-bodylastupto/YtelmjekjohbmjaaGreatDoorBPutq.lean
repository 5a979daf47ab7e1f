import Derived.Test.YtelmjekjohbmjaaGreatDoorM34
import Derived.Test.YtelmjekjohbmjaaGreatDoorM21
import Derived.Test.YtelmjekjohbmjaaGreatDoorBWithq
import Derived.Deep.RegionHeld3
/- put: a value comes into a body of the call's own. -/
namespace Go.Proofs.YtelmjekjohbmjaaGreatDoor
namespace L
open Go.RowKit

theorem alloc4 (w : World) (o1 o2 o3 o4 : Obj) : ((((w.alloc o1).alloc o2).alloc o3).alloc o4).heap[w.heap.size]? = some o1 ∧ ((((w.alloc o1).alloc o2).alloc o3).alloc o4).heap[w.heap.size + 1]? = some o2 ∧ ((((w.alloc o1).alloc o2).alloc o3).alloc o4).heap[w.heap.size + 2]? = some o3 ∧ ((((w.alloc o1).alloc o2).alloc o3).alloc o4).heap[w.heap.size + 3]? = some o4 ∧ ((((w.alloc o1).alloc o2).alloc o3).alloc o4).heap.size = w.heap.size + 4 := by
  have z1 : (w.alloc o1).heap.size = w.heap.size + 1 := by simp
  have z2 : ((w.alloc o1).alloc o2).heap.size = w.heap.size + 2 := by simp
  have z3 : (((w.alloc o1).alloc o2).alloc o3).heap.size = w.heap.size + 3 := by simp
  refine ⟨?_, ?_, ?_, ?_, by simp⟩
  · rw [Below.heap_alloc _ _ _ (by omega), Below.heap_alloc _ _ _ (by omega), Below.heap_alloc _ _ _ (by omega)]; exact heap_alloc_new w o1
  · rw [Below.heap_alloc _ _ _ (by omega), Below.heap_alloc _ _ _ (by omega), ← z1]; exact heap_alloc_new _ o2
  · rw [Below.heap_alloc _ _ _ (by omega), ← z2]; exact heap_alloc_new _ o3
  · rw [← z3]; exact heap_alloc_new _ o4
/-- The values behind put. -/
def putL {β : Type} (fs : List FI) (l : List (VL β)) (w : VL β → Bool) (p : List (VL β) → Nat) (y : VL β) : List (VL β) :=
  match fs.find? fun f => decide (f.number = y.number) with
  | none => l
  | some x =>
    let r := l.filter fun a => !oustB fs x a.number
    if w y then r else r.take (p r) ++ [y] ++ r.drop (p r)
/-- Nothing is said of what lies in subs. -/
abbrev OT (d : Nat) : World → LB d → Prop := fun _ _ => True
abbrev fT (d : Nat) : LB d → List Nat := fun _ => []
def PT (d : Nat) : World → Addr → BI d → Prop := fun _ _ _ => True
theorem PT.stays (d : Nat) : Stays (PT d) := fun _ _ _ _ _ _ => trivial
theorem OT.fr (d : Nat) : ∀ (F : List Nat) (w w' : World) (b : LB d), OT d w b → FrB F w w' → (∀ k ∈ fT d b, k ∉ F) → OT d w' b := fun _ _ _ _ _ _ _ => trivial
theorem OwnV.shy {d : Nat} {O : World → LB d → Prop} {w : World} {base : Nat} {y : VL (LB d)} (h : OwnV (ekB d) O w base y) : OwnV (ekB d) (OT d) w base y := ⟨h.r1, h.r2, h.r2y, h.r3, fun _ _ => trivial⟩
theorem OwnL.shy {d : Nat} {O : World → LB d → Prop} {w : World} {base : Nat} {b : BL (LB d)} (h : OwnL (ekB d) O w base b) : OwnL (ekB d) (OT d) w base b := ⟨h.r0, fun v hv => (h.r0v v hv).shy, h.r1, h.r1y⟩
theorem OwnV.belowT {d : Nat} {w w' : World} {base : Nat} {y : VL (LB d)} (h : OwnV (ekB d) (OT d) w base y) (hb : Below w.heap.size w w') : OwnV (ekB d) (OT d) w' base y := OwnV.fr (F := []) (OT.fr d) h (.of_below hb) (fun _ _ => List.not_mem_nil)
theorem OwnL.belowT {d : Nat} {w w' : World} {base : Nat} {b : BL (LB d)} (h : OwnL (ekB d) (OT d) w base b) (hb : Below w.heap.size w w') : OwnL (ekB d) (OT d) w' base b := OwnL.fr (F := []) (OT.fr d) h (.of_below hb) (fun _ _ => List.not_mem_nil)
theorem OwnV.rdT {d : Nat} {O : World → LB d → Prop} {w : World} {base : Nat} {y : VL (LB d)} (h : OwnV (ekB d) O w base y) : RdL 2 (PT d) w y.p3.v (y.subs.map (LB.pl d)) :=
  RdL.mapB (P := fun _ (_ : Addr) (_ : LB d) => True) _ (h.r3.rd _ fun _ _ _ _ => trivial) fun _ _ _ _ => trivial
theorem OwnL.rdT {d : Nat} {O : World → LB d → Prop} {w : World} {base : Nat} {b : BL (LB d)} (h : OwnL (ekB d) O w base b) : RdL 4 (VAt (PT d)) w b.q0.v (b.vals.map (VL.pl (LB.pl d))) := by
  refine RdL.mapB _ (h.r0.rd (fun w x (v : VL (LB d)) => w.cell? x = some (.int .i64 v.number) ∧ w.cell? (x.add 1) = some v.p1.v ∧ w.cell? (x.add 2) = some v.p2.v ∧ w.cell? (x.add 3) = some v.p3.v) fun g i a hc => ?_) ?_
  · refine ⟨by simpa using hc 0 _ rfl, ?_, ?_, ?_⟩ <;> rw [add_plain]
    · exact hc 1 _ rfl
    · exact hc 2 _ rfl
    · exact hc 3 _ rfl
  · rintro x v hv ⟨h0, h1, h2, h3⟩
    have ho := h.r0v v hv
    exact ⟨v.p1.v, v.p2.v, v.p3.v, h0, h1, h2, h3, ho.r1.rdU, ho.r2.rdZ ho.r2y, ho.rdT⟩
/-- What put is given (nothing is said of what lies in subs): a message's fields, an own body, an own value apart from it. -/
structure PutIn (d : Nat) (w : World) (base : Nat) (fs : List FI) (vf : Value) (b : BL (LB d)) (y : VL (LB d)) : Prop where
  hf : RdL 6 FAt w vf fs
  fok : ∀ f ∈ fs, I64 f.number ∧ I64 f.choice
  fl : fs.length ≤ 140737488355328
  hb : OwnL (ekB d) (OT d) w base b
  hy : OwnV (ekB d) (OT d) w base y
  apart : ∀ k ∈ own1 b.q0, k ∉ own1 b.q1 ∧ (∀ a ∈ b.vals, k ∉ VL.fp (fT d) a) ∧ k ∉ VL.fp (fT d) y
  num : ∀ a ∈ b.vals, I64 a.number
  len : (b.vals.length + 1) * 80 ≤ 140737488355328
  base : base ≤ w.heap.size

set_option maxHeartbeats 4000000 in
set_option maxRecDepth 100000 in
theorem put_none {d : Nat} {w : World} {base : Nat} {fs : List FI} {vf vb nm : Value} {b : BL (LB d)} {y : VL (LB d)} (h : PutIn d w base fs vf b y) (hvb : ∃ ao n cap, vb = .slice ao n cap) (hnm : ∃ s : List UInt8, nm = .string (S s)) (hno : fs.find? (fun f => decide (f.number = y.number)) = none) :
    Calls Tryz.prog 43 #[.agg #[nm, vf, vb], .agg #[b.q0.v, b.q1.v], .agg #[.int .i64 y.number, y.p1.v, y.p2.v, y.p3.v]] w fun e w' => e = .returned (.agg #[b.q0.v, b.q1.v]) ∧ Below w.heap.size w w' := by
  obtain ⟨af, nf, cf, rfl, Hn, hcap⟩ := h.hf.shape
  obtain ⟨ab, nb, cb, rfl⟩ := hvb
  obtain ⟨s, rfl⟩ := hnm
  obtain ⟨vals, unk, ⟨a0, n0, c0⟩, ⟨a1, n1, c1⟩⟩ := b
  obtain ⟨nu, bi, by', su, ⟨a2, n2, c2⟩, ⟨a3, n3, c3⟩, ⟨a4, n4, c4⟩⟩ := y
  obtain ⟨W4, HW4⟩ : ∃ W4, Hid (W4 = (((w.alloc (.cells #[.string (S s), .slice af nf cf, .slice ab nb cb] 48)).alloc (.cells #[.slice a0 n0 c0, .slice a1 n1 c1] 29)).alloc (.cells #[.int .i64 nu, .slice a2 n2 c2, .slice a3 n3 c3, .slice a4 n4 c4] 34)).alloc (.cells #[.slice none 0 0, .slice none 0 0] 29)) := ⟨_, rfl⟩
  obtain ⟨b1, b2, b3, b4, bz⟩ := alloc4 w (.cells #[.string (S s), .slice af nf cf, .slice ab nb cb] 48) (.cells #[.slice a0 n0 c0, .slice a1 n1 c1] 29) (.cells #[.int .i64 nu, .slice a2 n2 c2, .slice a3 n3 c3, .slice a4 n4 c4] 34) (.cells #[.slice none 0 0, .slice none 0 0] 29)
  have hb4 : Below w.heap.size w W4 := by rw [HW4.out]; exact ((((Below.refl _ _).alloc (Nat.le_refl _) _).alloc (by simp) _).alloc (by simp; omega) _).alloc (by simp; omega) _
  rw [← HW4.out] at b1 b2 b3 b4 bz
  have bz' := Nat.le_of_eq bz
  have bz'' := Nat.le_of_eq bz.symm
  have hfld := field_any (h.hf.below FAt.stays hb4) ⟨ab, nb, cb, rfl⟩ ⟨s, rfl⟩ nu
  have e1 : firstI (fun f : FI => decide (f.number = nu)) fs = -1 := first_none fun f hf => by
    have := List.find?_eq_none.1 hno f hf
    simpa using this
  rw [e1] at hfld
  unfold PV.v
  clear bz e1 hno h
  go_enter Tryz.func43, Tryz.ntmps43
  go_wp2_with fail
  rw [← HW4.out]
  refine hfld.mono ?_
  rintro e w1 ⟨rfl, hb1⟩
  obtain ⟨t0, t1⟩ := blk2 ((hb1.block _ (by omega)).trans b2)
  have y4 := (hb1.block _ (by omega)).trans b4
  obtain ⟨u0, u1⟩ := blk2 y4
  have f0 := fr_of_blk y4 0
  have f1 := fr_of_blk y4 1
  clear b1 b2 b3 b4 y4 hfld
  go_wp2_with fail
  refine bodyPost_ret (v := .agg #[.slice a0 n0 c0, .slice a1 n1 c1]) (by simp [results, Tryz.results43, go_sem, *]) rfl ?_
  exact ⟨rfl, b4set (b4set (BTr hb4 hb1) (by omega)) (by omega)⟩

end L
end Go.Proofs.YtelmjekjohbmjaaGreatDoor

