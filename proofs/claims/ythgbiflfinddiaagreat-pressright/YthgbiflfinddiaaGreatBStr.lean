/- Bytes as a string. -/
import Derived.Test.YthgbiflfinddiaaGreatBData
import Derived.Laws.BytesArg
namespace Go.Proofs.YthgbiflfinddiaaGreat
namespace L
open Go.RowKit

theorem bytes_str {w : World} {ao : Option Addr} {len cap : Nat} {l : List UInt8} (h : RdL 1 YAt w (.slice ao len cap) l) : (convert 39 9 (.slice ao len cap)).run Tryz.prog w = .ok (.string ⟨l.toArray⟩) w := by
  obtain ⟨ao', n', cap', e, h1, h2, h3, h4, h5⟩ := h
  cases e
  cases ao with
  | none =>
    have hc0 := (h4 rfl).1
    have hm : l = [] := List.eq_nil_of_length_eq_zero (by omega)
    subst hm
    rw [run_convert_bytes_nil w 39 5 Tryz.underlying39 Tryz.underlying5 len cap 9 Tryz.underlying9]
    rfl
  | some x =>
    have hl : (loadCells x len).run Tryz.prog w = .ok ((l.map fun c => ((c.toNat : Nat) : Int)).map (Value.int .u8)).toArray w := by
      have := run_loadCells_list (P := Tryz.prog) w x ((l.map fun c => ((c.toNat : Nat) : Int)).map (Value.int .u8)) (fun j v hj => by
        rw [List.getElem?_map, List.getElem?_map] at hj
        cases hc : l[j]? with
        | none => rw [hc] at hj; cases hj
        | some c =>
          rw [hc] at hj
          have := h5 x rfl j c hc
          rw [Nat.mul_one] at this
          rw [show w.cell? (x.add j) = _ from this]
          exact hj)
      simpa [h1] using this
    rw [run_convert_bytes_string w 39 9 5 _ len cap Tryz.underlying39 Tryz.underlying5 Tryz.underlying9, run_bytesToString w _ len cap _ hl, foldl_push_bytes]
    have e : ∀ l : List UInt8, (l.map fun c => ((c.toNat : Nat) : Int)).map (fun n : Int => UInt8.ofNat n.toNat) = l := by
      intro l
      rw [List.map_map]
      conv => rhs; rw [← List.map_id l]
      apply List.map_congr_left
      intro c _
      simp
    rw [e]
    simp [ByteArray.empty, ByteArray.emptyWithCapacity]
    rfl

end L
end Go.Proofs.YthgbiflfinddiaaGreat
