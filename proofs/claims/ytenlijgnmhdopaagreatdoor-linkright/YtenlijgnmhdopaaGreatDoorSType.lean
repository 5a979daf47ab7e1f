/- The contracts of Words, typeOf; what shortens a text. -/
import Derived.Test.YtenlijgnmhdopaaGreatDoorSRow
namespace Go.Proofs.YtenlijgnmhdopaaGreatDoor
open Go.RowKit

theorem typeFrom_bd (i : Nat) (ws : List (List UInt8)) (l : List UInt8) : (typeFrom i ws l).1 ≤ max 10 (i + ws.length) := by
  induction ws generalizing i with
  | nil => simp [typeFrom]; omega
  | cons x xs ih =>
    simp only [typeFrom]
    split
    · simp; omega
    · have := ih (i + 1); simp at this ⊢; omega
theorem typeL_bd (l : List UInt8) : (typeL l).1 ≤ 10 := by have := typeFrom_bd 1 wordsL l; simpa [typeL, wordsL] using this

def wordCells : Array Value := (wordsL.map fun l => Value.string (S l)).toArray
set_option maxHeartbeats 1000000 in
theorem words_any (w : World) : Calls Tryz.prog 50 #[] w fun e w' => e = .returned (.slice (some ⟨w.heap.size, 0, none⟩) 9 9) ∧ w.alloc (.cells wordCells 9) = w' := by
  go_enter Tryz.func50, Tryz.ntmps50
  go_wp2
  go_ret
  exact ⟨rfl, rfl⟩

theorem wordCells_at (k : Nat) (hk : k < 9) : wordCells[k]? = some (.string (S (wordsL.getD k []))) := by
  have : k < wordsL.length := hk
  simp [wordCells, this]
theorem typeFrom_step {i : Nat} {ws : List (List UInt8)} {k : Nat} {l : List UInt8} (hk : k < ws.length) : typeFrom i (ws.drop k) l = if ws.getD k [] = l then (i, []) else typeFrom (i + 1) (ws.drop (k + 1)) l := by
  rw [List.drop_eq_getElem_cons hk, typeFrom]
  simp [hk]
theorem cell_of_blk {w : World} {g : Nat} {cs : Array Value} {t : TypeId} {fr : Nat × Nat} (h : w.heap[g]? = some (.cells cs t fr)) (i : Nat) (v : Value) (hi : cs[i]? = some v) : w.cell? ⟨g, i, none⟩ = some v := by
  simp [World.cell?, h, hi]

set_option maxHeartbeats 1000000 in
set_option maxRecDepth 100000 in
theorem typeOf_any (l : List UInt8) (w : World) : Calls Tryz.prog 99 #[.string (S l)] w fun e w' => e = .returned (.tuple #[.int .i64 ((typeL l).1 : Int), .string (S (typeL l).2)]) ∧ Below w.heap.size w w' := by
  have hl := S_list l
  go_enter Tryz.func99, Tryz.ntmps99
  go_wp2_with fail
  refine (words_any w).mono ?_
  rintro e w1 ⟨rfl, hw1⟩
  have hblk : w1.heap[w.heap.size]? = some (.cells wordCells 9 (0, 0)) := by rw [← hw1]; exact heap_alloc_new w _
  have hbel : Below w.heap.size w w1 := by rw [← hw1]; exact (Below.refl _ _).alloc (Nat.le_refl _) _
  obtain ⟨g, Hg⟩ : ∃ g, Hid (g = w.heap.size) := ⟨_, rfl⟩
  rw [← Hg.out] at hblk ⊢
  clear hw1
  go_wp2
  go_loop [8] (fun i => ∃ k : Nat, k ≤ 9 ∧ i = .int .i64 k ∧ Hid (typeL l = typeFrom (1 + k) (wordsL.drop k) l)) (fun i => 9 - (intOf i).toNat)
  case atStart => exact ⟨0, by omega, rfl, rfl⟩
  case round =>
    obtain ⟨k, hk, rfl, HR⟩ := hrel
    by_cases hlt : k < 9
    · have hc := cell_of_blk hblk k _ (wordCells_at k hlt)
      obtain ⟨x, Hx⟩ : ∃ x, Hid (x = wordsL.getD k []) := ⟨_, rfl⟩
      have HS := typeFrom_step (i := 1 + k) (ws := wordsL) (l := l) hlt
      have HS' : Hid (typeL l = if x = l then (1 + k, []) else typeFrom (1 + k + 1) (wordsL.drop (k + 1)) l) := by show _ = _; rw [HR.out, HS, Hx.out]
      rw [← Hx.out] at hc
      have hlx := S_list x
      clear HS hblk
      by_cases hx : x = l
      · have HE : Hid (typeL l = (1 + k, [])) := by show _ = _; rw [HS'.out, if_pos hx]
        have hb : (x == l) = true := by simpa using hx
        clear hx
        go_wp2
        go_ret2
        rw [HE.out]
        refine ⟨?_, hbel⟩
        show Ending.returned (.tuple #[.int .i64 (1 + (k : Int)), .string (S [])]) = .returned (.tuple #[.int .i64 ((1 + k : Nat) : Int), .string (S [])])
        rw [Int.natCast_add]
        rfl
      · have HE : Hid (typeL l = typeFrom (1 + (k + 1)) (wordsL.drop (k + 1)) l) := by show _ = _; rw [HS'.out, if_neg hx]; rfl
        have hb : (x == l) = false := by simpa using hx
        clear hx
        go_wp2
        go_round
        case rel => exact ⟨k + 1, by omega, by go_num, HE⟩
        case measure => simp [intOf]; omega
    · have hk9 : k = 9 := by omega
      have HE : Hid (typeL l = (10, l)) := by show _ = _; rw [HR.out, hk9]; rfl
      clear HR
      go_wp2
      go_ret2
      rw [HE.out]
      exact ⟨rfl, hbel⟩

end Go.Proofs.YtenlijgnmhdopaaGreatDoor
