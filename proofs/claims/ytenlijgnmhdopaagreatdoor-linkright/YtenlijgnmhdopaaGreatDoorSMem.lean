/- A scanner in memory; what of the world stays; lineLength, skip. -/
import Derived.Test.YtenlijgnmhdopaaGreatDoorSLeaf
import Derived.Test.YtenlijgnmhdopaaGreatDoorSShelf
import Derived.Lib.IndexLaws
import Derived.Laws.Rows
import Derived.Deep.LoopGhost
namespace Go.Proofs.YtenlijgnmhdopaaGreatDoor
open Go.RowKit

/-- Of what was there nothing but block b has turned. -/
structure Kp (b : Nat) (w w' : World) : Prop where
  os : w'.os = w.os
  tape : w'.tape = w.tape
  output : w'.output = w.output
  size : w.heap.size ≤ w'.heap.size
  block : ∀ k, k < w.heap.size → k ≠ b → w'.heap[k]? = w.heap[k]?

theorem Kp.refl (b : Nat) (w : World) : Kp b w w := ⟨rfl, rfl, rfl, Nat.le_refl _, fun _ _ _ => rfl⟩
theorem Kp.trans {b : Nat} {x y z : World} (h : Kp b x y) (k : Kp b y z) : Kp b x z :=
  ⟨k.os.trans h.os, k.tape.trans h.tape, k.output.trans h.output, Nat.le_trans h.size k.size, fun i hi hb => (k.block i (Nat.lt_of_lt_of_le hi h.size) hb).trans (h.block i hi hb)⟩
theorem Kp.of_below {b : Nat} {w w' : World} (h : Below w.heap.size w w') : Kp b w w' := ⟨h.os, h.tape, h.output, h.size, fun i hi _ => h.block i hi⟩
theorem Kp.drew {b : Nat} {x w : World} (h : Kp b x w) : Kp b x w.drew := ⟨h.os, h.tape, h.output, h.size, h.block⟩
theorem Kp.set {b : Nat} {x w : World} (h : Kp b x w) (i : Nat) (v : Value) : Kp b x (w.setCell ⟨b, i, none⟩ v) :=
  h.trans ⟨rfl, rfl, rfl, by simp [World.setCell], fun k _ hb => Below.heap_setCell _ _ _ _ hb⟩
theorem Kp.below {b B : Nat} {w w' : World} (h : Kp b w w') (hB : B ≤ b) (hs : B ≤ w.heap.size) : Below B w w' :=
  ⟨h.os, h.tape, h.output, h.size, fun k hk => h.block k (by omega) (by omega)⟩
theorem Kp.cell {b : Nat} {w w' : World} (h : Kp b w w') {p : Addr} (hp : p.block < w.heap.size) (hb : p.block ≠ b) : w'.cell? p = w.cell? p := World.cell?_of_block (w := w) (h.block p.block hp hb)

theorem Kp.drewN {b : Nat} {x w : World} (h : Kp b x w) (n : Nat) : Kp b x (w.drewN n) := ⟨h.os, h.tape, h.output, h.size, h.block⟩

/-- A scanner (with what of a parser lies behind it) at block b: the text, and what of it is still to be read. -/
def St (w : World) (b : Nat) (txt r : List UInt8) (m e : Value) : Prop :=
  txt.length ≤ 3000 ∧ r.length ≤ txt.length ∧ r = txt.drop (txt.length - r.length) ∧
    w.heap[b]? = some (.cells #[.string (S txt), .int .i64 ((txt.length - r.length : Nat) : Int), m, e] 88 (0, 0))

theorem St.lt {w : World} {b : Nat} {txt r : List UInt8} {m e : Value} (h : St w b txt r m e) : b < w.heap.size := (Array.getElem?_eq_some_iff.1 h.2.2.2).1
theorem St.c0 {w : World} {b : Nat} {txt r : List UInt8} {m e : Value} (h : St w b txt r m e) : w.cell? ⟨b, 0, none⟩ = some (.string (S txt)) := by
  simp [World.cell?, h.2.2.2]
theorem St.c1 {w : World} {b : Nat} {txt r : List UInt8} {m e : Value} (h : St w b txt r m e) : w.cell? ⟨b, 1, none⟩ = some (.int .i64 ((txt.length - r.length : Nat) : Int)) := by
  simp [World.cell?, h.2.2.2]
theorem St.f1 {w : World} {b : Nat} {txt r : List UInt8} {m e : Value} (h : St w b txt r m e) : w.frozen? ⟨b, 1, none⟩ = false := by
  simp [World.frozen?, h.2.2.2]
theorem St.kept {w w' : World} {b : Nat} {txt r : List UInt8} {m e : Value} (h : St w b txt r m e) (hb : Below w.heap.size w w') : St w' b txt r m e :=
  ⟨h.1, h.2.1, h.2.2.1, by rw [hb.block b h.lt]; exact h.2.2.2⟩
theorem St.drew {w : World} {b : Nat} {txt r : List UInt8} {m e : Value} (h : St w b txt r m e) : St w.drew b txt r m e := ⟨h.1, h.2.1, h.2.2.1, h.2.2.2⟩
theorem St.drewN {w : World} {b : Nat} {txt r : List UInt8} {m e : Value} (h : St w b txt r m e) (n : Nat) : St (w.drewN n) b txt r m e := ⟨h.1, h.2.1, h.2.2.1, h.2.2.2⟩
theorem St.set {w : World} {b : Nat} {txt r r' : List UInt8} {m e : Value} (h : St w b txt r m e) (h1 : r'.length ≤ r.length) (h2 : r' = r.drop (r.length - r'.length)) {v : Int} (hv : v = ((txt.length - r'.length : Nat) : Int)) :
    St (w.setCell ⟨b, 1, none⟩ (.int .i64 v)) b txt r' m e := by
  obtain ⟨a1, a2, a3, a4⟩ := h
  refine ⟨a1, by omega, ?_, ?_⟩
  · rw [h2, a3, List.drop_drop]
    congr 1
    simp
    omega
  · subst hv
    rw [heap_setCell_same _ _ _ _ _ _ a4]
    rfl

/-- How many bytes are ahead of the first line feed. -/
def lineL (l : List UInt8) : Nat := (l.takeWhile (fun c => c != 10)).length
theorem lineL_le (l : List UInt8) : lineL l ≤ l.length := (List.takeWhile_sublist _).length_le
theorem line_idx (l : List UInt8) : (Lib.indexByte l 10 = -1 ∧ lineL l = l.length) ∨ Lib.indexByte l 10 = (lineL l : Int) := by
  induction l with
  | nil => exact .inl ⟨rfl, rfl⟩
  | cons c r ih =>
    by_cases h : c = 10
    · subst h; exact .inr (by simp [Lib.indexByte, lineL])
    · have hb : (c == 10) = false := by simp [h]
      have e : lineL (c :: r) = lineL r + 1 := by simp [lineL, h]
      rcases ih with ⟨h1, h2⟩ | h1
      · exact .inl ⟨by simp [Lib.indexByte, hb, h1], by rw [e, h2]; simp⟩
      · refine .inr ?_
        have : ((lineL r : Int) == -1) = false := by rw [beq_eq_false_iff_ne]; omega
        simp only [Lib.indexByte, hb, h1, this, e]
        simp

set_option maxHeartbeats 1000000 in
theorem lineLength_any (l : List UInt8) (w : World) : Calls Tryz.prog 96 #[.string (S l)] w fun e w' => e = .returned (.int .i64 (lineL l : Int)) ∧ w = w' := by
  have hsz := S_size l
  go_enter Tryz.func96, Tryz.ntmps96
  go_wp2_with fail
  refine (Tryz.strings_IndexByte _ _ _).mono ?_
  rintro e w1 ⟨rfl, hw1⟩
  subst hw1
  have hd : (S l).data.toList = l := by simp [S]
  have h10 : (10 : Int).toNat.toUInt8 = 10 := rfl
  rw [hd, h10]
  rcases line_idx l with ⟨h1, h2⟩ | h1
  · rw [h1]
    have H2 : Hid (lineL l = l.length) := h2
    clear h1 h2 hd
    go_wp2
    go_ret
    exact ⟨ret_int (by rw [H2.out]), rfl⟩
  · rw [h1]
    clear h1 hd
    go_wp2
    go_ret
    exact ⟨rfl, rfl⟩

end Go.Proofs.YtenlijgnmhdopaaGreatDoor
