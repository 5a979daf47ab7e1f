/- The contract of the printer's field. -/
import Derived.Test.YtenlijgnmhdopaaGreatDoorSNum
namespace Go.Proofs.YtenlijgnmhdopaaGreatDoor
open Go.RowKit

def b2 : List UInt8 := [32, 32]
def b4 : List UInt8 := [32, 32, 32, 32]
def repP : List UInt8 := [114, 101, 112, 101, 97, 116, 101, 100, 32]
def fieldP (f : Fld) : List UInt8 := lineP [if f.choice = 0 then b2 else b4, if f.many then repP else [], wordP f, [32], f.name, [32, 61, 32], Lib.itoa (f.number : Int), [59]]

set_option maxHeartbeats 8000000 in
set_option maxRecDepth 100000 in
theorem fieldP_any {B0 B b : Nat} {l : List UInt8} {w : World} (h : Bl w B b l) (hBw : B ≤ w.heap.size) (hg : Gl B0 w) (hB0 : B0 ≤ w.heap.size) (f : Fld) (hnum : f.number ≤ 4294967296) (hlen : l.length + (fieldP f).length ≤ 100000000) :
    Calls Tryz.prog 46 #[.pointer (some ⟨b, 0, none⟩), .agg (encFld f).toArray] w fun e w' => e = .returned (.tuple #[]) ∧ Bl w' B b (l ++ fieldP f) ∧ Ko B b w w' := by
  have hbel := (Below.refl w.heap.size w).alloc (Nat.le_refl _) (.cells (encFld f).toArray 39)
  have hS : FS w B0 B b w.heap.size l (.cells (encFld f).toArray 39) (w.alloc (.cells (encFld f).toArray 39)) :=
    ⟨h.below hbel, hg.later (hbel.mono hB0), Ko.of_below hbel, heap_alloc_new w _, Nat.le_trans hB0 hbel.size, Nat.le_trans hBw hbel.size⟩
  replace hS := hS.drew
  clear hbel hg h
  obtain ⟨nm, num, kd, ty, mn, ch⟩ := f
  have hnum' : num ≤ 4294967296 := hnum
  clear hnum
  obtain ⟨A, HA⟩ : ∃ A, Hid (A = if ch = 0 then b2 else b4) := ⟨_, rfl⟩
  obtain ⟨M, HM⟩ : ∃ M, Hid (M = if mn then repP else []) := ⟨_, rfl⟩
  have HP : Hid (fieldP ⟨nm, num, kd, ty, mn, ch⟩ = lineP [A, M, wordP ⟨nm, num, kd, ty, mn, ch⟩, [32], nm, [32, 61, 32], Lib.itoa (num : Int), [59]]) := by show _ = _; rw [HA.out, HM.out]; rfl
  have hlen' : l.length + (lineP [A, M, wordP ⟨nm, num, kd, ty, mn, ch⟩, [32], nm, [32, 61, 32], Lib.itoa (num : Int), [59]]).length ≤ 100000000 := by rw [← HP.out]; exact hlen
  have hw : ∀ W, Calls Tryz.prog 77 #[.agg #[.string (S nm), .int .i64 (num : Int), .int .i64 (kd : Int), .string (S ty), .bool mn, .int .i64 (ch : Int)]] W fun e w' => e = .returned (.string (S (wordP ⟨nm, num, kd, ty, mn, ch⟩))) ∧ Below W.heap.size W w' := fun W => wordOf_any ⟨nm, num, kd, ty, mn, ch⟩ W
  have hline : ∀ W o, FS w B0 B b w.heap.size l o W → Calls Tryz.prog 42 #[.pointer (some ⟨b, 0, none⟩), .slice (some ⟨W.heap.size, 0, none⟩) 8 8] (W.alloc (.cells #[.string (S A), .string (S M), .string (S (wordP ⟨nm, num, kd, ty, mn, ch⟩)), .string ⟨#[32]⟩, .string (S nm), .string ⟨#[32, 61, 32]⟩, .string (S (Lib.itoa (num : Int))), .string ⟨#[59]⟩] 9)) fun e w' => e = .returned (.tuple #[]) ∧ Bl w' B b (l ++ fieldP ⟨nm, num, kd, ty, mn, ch⟩) ∧ Ko B b W w' := by
    intro W o hW
    rw [HP.out]
    exact line_new hW.bl hW.sb hW.bl.lt [A, M, wordP ⟨nm, num, kd, ty, mn, ch⟩, [32], nm, [32, 61, 32], Lib.itoa (num : Int), [59]] (by simp) hlen'
  have hit : ∀ W o, FS w B0 B b w.heap.size l o W → Calls Tryz.prog 43 #[.int .i64 (num : Int)] W fun e w' => e = .returned (.string (S (Lib.itoa (num : Int)))) ∧ Below W.heap.size W w' := fun W o hW => itoaN_any (num : Int) (by omega) (by omega) hW.gl
  clear hlen hlen' HP
  generalize wordP ⟨nm, num, kd, ty, mn, ch⟩ = wp at *
  generalize Lib.itoa (num : Int) = ip at *
  generalize fieldP ⟨nm, num, kd, ty, mn, ch⟩ = fp at *
  unfold encFld at hS ⊢
  go_enter Tryz.func46, Tryz.ntmps46
  go_upto_if 8 with (fail)
  go_cut [4] from 6 (fun s4 wc => s4 = .string (S A) ∧ wc = w.alloc (.cells #[.string (S nm), .int .i64 (num : Int), .int .i64 (kd : Int), .string (S ty), .bool mn, .int .i64 (ch : Int)] 39))
  case first =>
    by_cases hch : ch = 0
    · have hA : Hid (A = b2) := by show _ = _; rw [HA.out, if_pos hch]
      have e1 : ((ch : Int) != 0) = false := by simp [hch]
      clear hch
      go_wp2
      go_meet
      case rel => exact ⟨by rw [hA.out]; rfl, rfl⟩
    · have hA : Hid (A = b4) := by show _ = _; rw [HA.out, if_neg hch]
      have e1 : ((ch : Int) != 0) = true := by rw [bne_iff_ne]; omega
      clear hch
      go_wp2
      go_meet
      case rel => exact ⟨by rw [hA.out]; rfl, rfl⟩
  case rest =>
    obtain ⟨rfl, rfl⟩ := hcut
    go_upto_if 10 with (fail)
    go_cut [5] from 6 (fun s5 wc => s5 = .string (S M) ∧ wc = w.alloc (.cells #[.string (S nm), .int .i64 (num : Int), .int .i64 (kd : Int), .string (S ty), .bool mn, .int .i64 (ch : Int)] 39))
    case first =>
      cases mn with
      | false =>
        go_wp2
        go_meet
        case rel => exact ⟨by rw [HM.out]; rfl, rfl⟩
      | true =>
        go_wp2
        go_meet
        case rel => exact ⟨by rw [HM.out]; rfl, rfl⟩
    case rest =>
      obtain ⟨rfl, rfl⟩ := hcut
      go_wp2_with fail
      go_region_with (first
        | (go_at_call 77; refine (hw _).mono ?_; rintro e w1 ⟨rfl, hb1⟩; replace hS := hS.below hb1; obtain ⟨c0, c1, c2, c3, c4, c5⟩ := blk6 hS.blk; clear hb1)
        | (go_at_call 43; refine (hit _ _ hS).mono ?_; rintro e w1 ⟨rfl, hb1⟩; replace hS := hS.below hb1; obtain ⟨c0, c1, c2, c3, c4, c5⟩ := blk6 hS.blk; clear hb1)
        | (go_at_call 42; refine (hline _ _ hS).mono ?_; rintro e w1 ⟨rfl, hl1, hk1⟩))
      all_goals
        go_wp2
        go_end0
        exact ⟨rfl, hl1, hS.ko.trans hk1⟩

end Go.Proofs.YtenlijgnmhdopaaGreatDoor
