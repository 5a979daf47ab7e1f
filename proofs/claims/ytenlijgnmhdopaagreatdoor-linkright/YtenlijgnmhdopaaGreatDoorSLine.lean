/- The contracts of line, turn, wordOf. -/
import Derived.Test.YtenlijgnmhdopaaGreatDoorSBld
namespace Go.Proofs.YtenlijgnmhdopaaGreatDoor
open Go.RowKit

def encStr (l : List UInt8) : List Value := [.string (S l)]
def ekStr : EK (List UInt8) where
  elem := 9
  slice := 54
  size := 1
  bytes := 16
  zero := .string ⟨#[]⟩
  enc := encStr
  under := Tryz.underlying54
  info := by kernel_rfl
  zs := rfl
  pos := by decide
  small := by decide
  len := fun _ => rfl
  one := by intro a u hu; simp only [encStr, List.mem_singleton] at hu; subst hu; rfl

/-- A line: its parts, and a line feed. -/
def lineP (ps : List (List UInt8)) : List UInt8 := ps.flatten ++ [10]

/-- Texts in a row that can be read. -/
def RdS (w : World) (g : Nat) (ps : List (List UInt8)) : Prop := ∃ (cs : Array Value) (fr : Nat × Nat), w.heap[g]? = some (.cells cs 9 fr) ∧ ∀ (i : Nat) (x : List UInt8), ps[i]? = some x → (cs[i]? : Option Value) = some (Value.string (S x))
theorem RdS.ko {w w' : World} {B b g : Nat} {ps : List (List UInt8)} (h : RdS w g ps) (hk : Ko B b w w') (hb : g ≠ b) : RdS w' g ps := by
  obtain ⟨cs, fr, h1, h2⟩ := h
  refine ⟨cs, fr, ?_, h2⟩
  rw [hk.block g (Array.getElem?_eq_some_iff.1 h1).1 hb (.inr (by intro cs' fr' e; rw [h1] at e; simp at e))]
  exact h1
theorem RdS.cell {w : World} {g : Nat} {ps : List (List UInt8)} (h : RdS w g ps) {i : Nat} {x : List UInt8} (hx : ps[i]? = some x) : w.cell? ⟨g, i, none⟩ = some (.string (S x)) := by
  obtain ⟨cs, fr, h1, h2⟩ := h
  exact cell_of_blk h1 i _ (h2 i x hx)

theorem flatten_snoc {ps : List (List UInt8)} {k : Nat} {x : List UInt8} (h : ps[k]? = some x) : (ps.take (k + 1)).flatten = (ps.take k).flatten ++ x := by
  rw [List.take_add_one, h]; simp

set_option maxHeartbeats 2000000 in
set_option maxRecDepth 100000 in
theorem line_any {B b : Nat} {l : List UInt8} {w : World} (h : Bl w B b l) (hBw : B ≤ w.heap.size) (g n cap : Nat) (ps : List (List UInt8)) (hn : ps.length = n) (hr : RdS w g ps) (hgb : g ≠ b) (hcm : n ≤ 1000)
    (hlen : l.length + (lineP ps).length ≤ 100000000) :
    Calls Tryz.prog 42 #[.pointer (some ⟨b, 0, none⟩), .slice (some ⟨g, 0, none⟩) n cap] w fun e w' => e = .returned (.tuple #[]) ∧ Bl w' B b (l ++ lineP ps) ∧ Ko B b w w' := by
  have HL : Hid ((lineP ps).length = ps.flatten.length + 1) := by show _ = _; simp [lineP]
  have hlen' : l.length + ps.flatten.length + 1 ≤ 100000000 := by have := HL.out; omega
  go_enter Tryz.func42, Tryz.ntmps42
  go_wp2
  go_loopg [8] n (fun m i wr => ∃ k : Nat, k + m = n ∧ i = .int .i64 k ∧ Bl wr B b (l ++ (ps.take k).flatten) ∧ Ko B b w wr)
  case atStart => exact ⟨0, by omega, rfl, by simpa using h, Ko.refl _ _ _⟩
  case round =>
    obtain ⟨k, hk, rfl, hb, hko⟩ := hrel
    by_cases hlt : k < n
    · obtain ⟨x, Hx⟩ : ∃ x, Hid (ps[k]? = some x) := ⟨ps[k]'(by omega), List.getElem?_eq_getElem (by omega)⟩
      have hcell := (hr.ko hko hgb).cell Hx.out
      have HF := flatten_snoc Hx.out
      have hle : (ps.take (k + 1)).flatten.length ≤ ps.flatten.length := by
        have e : ps.flatten = (ps.take (k + 1)).flatten ++ (ps.drop (k + 1)).flatten := by rw [← List.flatten_append, List.take_append_drop]
        rw [e]; simp
      rw [HF] at hle
      simp only [List.length_append] at hle
      have HF' : Hid ((ps.take (k + 1)).flatten = (ps.take k).flatten ++ x) := HF
      clear HF
      go_wp2_with fail
      refine (writeString_any hb (Nat.le_trans hBw hko.size) x (by rw [List.length_append]; omega)).mono ?_
      rintro en w1 ⟨⟨v, rfl⟩, hb1, hk1⟩
      go_wp2_with fail
      go_roundg (n - (k + 1))
      case measure => omega
      case rel => exact ⟨k + 1, by omega, by go_num, by rw [HF'.out, ← List.append_assoc]; exact hb1, hko.trans hk1⟩
    · have hkn : k = n := by omega
      have HT : Hid ((ps.take k).flatten = ps.flatten) := by show _ = _; rw [List.take_of_length_le (by omega)]
      rw [HT.out] at hb
      go_wp2_with fail
      refine (writeByte_any hb (Nat.le_trans hBw hko.size) 10 (by rw [List.length_append]; omega)).mono ?_
      rintro en w1 ⟨⟨v, rfl⟩, hb1, hk1⟩
      go_wp2
      go_end0
      exact ⟨rfl, by rw [lineP, ← List.append_assoc]; exact hb1, hko.trans hk1⟩

/-- 'line' of texts that were just laid in a block of their own. -/
theorem line_new {B b : Nat} {l : List UInt8} {w : World} (h : Bl w B b l) (hBw : B ≤ w.heap.size) (hb : b < w.heap.size) (ps : List (List UInt8)) (hcm : ps.length ≤ 1000) (hlen : l.length + (lineP ps).length ≤ 100000000) :
    Calls Tryz.prog 42 #[.pointer (some ⟨b, 0, none⟩), .slice (some ⟨w.heap.size, 0, none⟩) ps.length ps.length] (w.alloc (.cells (ps.map fun x => Value.string (S x)).toArray 9)) fun e w' => e = .returned (.tuple #[]) ∧ Bl w' B b (l ++ lineP ps) ∧ Ko B b w w' := by
  have hbel := (Below.refl w.heap.size w).alloc (Nat.le_refl _) (.cells (ps.map fun x => Value.string (S x)).toArray 9)
  have h' : Bl (w.alloc (.cells (ps.map fun x => Value.string (S x)).toArray 9)) B b l := by
    have keep : ∀ p, Lib.BuilderAt 69 5 B b p (Lib.byteCells l) w → Lib.BuilderAt 69 5 B b p (Lib.byteCells l) (w.alloc (.cells (ps.map fun x => Value.string (S x)).toArray 9)) := by
      rintro p ⟨h1, v, h2, h3, h4⟩
      exact ⟨h1, v, by rw [Below.heap_alloc _ _ _ hb]; exact h2, h3.alloc _, h4⟩
    rcases h with h | h
    · exact .inl (keep _ h)
    · exact .inr (keep _ h)
  have hr : RdS (w.alloc (.cells (ps.map fun x => Value.string (S x)).toArray 9)) w.heap.size ps := ⟨_, _, heap_alloc_new w _, fun i x hx => by simp [hx]⟩
  refine (line_any h' (by simp; omega) w.heap.size ps.length ps.length ps rfl hr (by omega) hcm hlen).mono ?_
  rintro e w' ⟨rfl, h1, h2⟩
  exact ⟨rfl, h1, (Ko.of_below hbel).trans h2⟩

def clP : List UInt8 := [32, 32, 125]
def opP : List UInt8 := [32, 32, 111, 110, 101, 111, 102, 32, 123]
def turnP (a b : Nat) : List UInt8 := if a = b then [] else (if a = 0 then [] else lineP [clP]) ++ (if b = 0 then [] else lineP [opP])

theorem Bl.base {w : World} {B b : Nat} {l : List UInt8} (h : Bl w B b l) : B ≤ b := by
  rcases h with h | h
  · exact h.1
  · exact h.1
theorem Bl.lt {w : World} {B b : Nat} {l : List UInt8} (h : Bl w B b l) : b < w.heap.size := by
  rcases h with h | h
  · exact h.lt
  · exact h.lt

set_option maxHeartbeats 2000000 in
set_option maxRecDepth 100000 in
theorem turn_any {B b : Nat} {l : List UInt8} {w : World} (h : Bl w B b l) (hBw : B ≤ w.heap.size) (x y : Nat) (hlen : l.length ≤ 10000000) :
    Calls Tryz.prog 45 #[.pointer (some ⟨b, 0, none⟩), .int .i64 (x : Int), .int .i64 (y : Int)] w fun e w' => e = .returned (.tuple #[]) ∧ Bl w' B b (l ++ turnP x y) ∧ Ko B b w w' := by
  have hbw := h.lt
  by_cases hxy : x = y
  · have HT : Hid (turnP x y = []) := by show _ = _; rw [turnP, if_pos hxy]
    subst hxy
    go_enter Tryz.func45, Tryz.ntmps45
    go_wp2
    first | go_end0 | refine bodyPost_ret (results_none rfl _ _ _) rfl ?_
    exact ⟨rfl, by rw [HT.out, List.append_nil]; exact h, Ko.refl _ _ _⟩
  · have e1 : ((x : Int) == (y : Int)) = false := beq_eq_false_iff_ne.2 (by omega)
    by_cases hx : x = 0
    · have hy : y ≠ 0 := by omega
      have HT : Hid (turnP x y = lineP [opP]) := by show _ = _; rw [turnP, if_neg hxy, if_pos hx, if_neg hy]; rfl
      have e2 : ((y : Int) != 0) = true := by rw [bne_iff_ne]; omega
      have e3 : ((x : Int) != 0) = false := by simp [hx]
      clear hxy hx hy
      go_enter Tryz.func45, Tryz.ntmps45
      go_wp2_with fail
      refine (line_new h hBw hbw [opP] (by decide) (by simp [lineP, opP]; omega)).mono ?_
      rintro e w1 ⟨rfl, h1, hk1⟩
      go_wp2
      go_end0
      exact ⟨rfl, by rw [HT.out]; exact h1, hk1⟩
    · have e3 : ((x : Int) != 0) = true := by rw [bne_iff_ne]; omega
      by_cases hy : y = 0
      · have HT : Hid (turnP x y = lineP [clP]) := by show _ = _; rw [turnP, if_neg hxy, if_neg hx, if_pos hy, List.append_nil]
        have e2 : ((y : Int) != 0) = false := by simp [hy]
        clear hxy hx hy
        go_enter Tryz.func45, Tryz.ntmps45
        go_wp2_with fail
        refine (line_new h hBw hbw [clP] (by decide) (by simp [lineP, clP]; omega)).mono ?_
        rintro e w1 ⟨rfl, h1, hk1⟩
        go_wp2
        go_end0
        exact ⟨rfl, by rw [HT.out]; exact h1, hk1⟩
      · have HT : Hid (turnP x y = lineP [clP] ++ lineP [opP]) := by show _ = _; rw [turnP, if_neg hxy, if_neg hx, if_neg hy]
        have e2 : ((y : Int) != 0) = true := by rw [bne_iff_ne]; omega
        clear hxy hx hy
        go_enter Tryz.func45, Tryz.ntmps45
        go_wp2_with fail
        refine (line_new h hBw hbw [clP] (by decide) (by simp [lineP, clP]; omega)).mono ?_
        rintro e w1 ⟨rfl, h1, hk1⟩
        go_wp2_with fail
        refine (line_new h1 (Nat.le_trans hBw hk1.size) h1.lt [opP] (by decide) (by simp [lineP, opP, clP]; omega)).mono ?_
        rintro e w2 ⟨rfl, h2, hk2⟩
        go_wp2
        go_end0
        exact ⟨rfl, by rw [HT.out, ← List.append_assoc]; exact h2, hk1.trans hk2⟩

end Go.Proofs.YtenlijgnmhdopaaGreatDoor
