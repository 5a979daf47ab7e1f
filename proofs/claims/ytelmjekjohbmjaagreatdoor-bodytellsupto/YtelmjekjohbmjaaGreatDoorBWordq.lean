import Derived.Test.YtelmjekjohbmjaaGreatDoorM00
import Derived.Lib.ValidAsc
import Derived.Lib.Endian
import Derived.Lib.EndianBits
import Derived.Deep.DeepBigQuietO
/- utf8.word: the number that the first eight bytes of a list spell. -/
namespace Go.Proofs.YtelmjekjohbmjaaGreatDoor
namespace L
open Go.RowKit

/-- Bytes that lie there. -/
def YCells (w : World) (b o : Nat) (l : List UInt8) : Prop := ∀ (i : Nat) (x : UInt8), l[i]? = some x → w.cell? ⟨b, o + i, none⟩ = some (.int .u8 (x.toNat : Int))
theorem YCells.drop {w : World} {b o : Nat} {l : List UInt8} (h : YCells w b o l) (k : Nat) : YCells w b (o + k) (l.drop k) := by
  intro i x hx
  rw [List.getElem?_drop] at hx
  have := h (k + i) x hx
  rwa [← Nat.add_assoc] at this
theorem YCells.below {w w' : World} {b o : Nat} {l : List UInt8} (h : YCells w b o l) (hb : Below w.heap.size w w') : YCells w' b o l := fun i x hx => cell_below hb (h i x hx)

set_option maxHeartbeats 4000000 in
set_option maxRecDepth 100000 in
theorem word8_any {w : World} {b o n cap : Nat} {x0 x1 x2 x3 x4 x5 x6 x7 : UInt8} {r : List UInt8} (h : YCells w b o (x0 :: x1 :: x2 :: x3 :: x4 :: x5 :: x6 :: x7 :: r)) (hn : 8 ≤ n) (hnm : n ≤ 9223372036854775807) :
    Calls Tryz.prog 150 #[.slice (some ⟨b, o, none⟩) n cap] w fun e w' => e = .returned (.int .u64 (Lib.leNat [x0, x1, x2, x3, x4, x5, x6, x7] : Nat)) ∧ ∃ q, w' = w.drewN q := by
  have h0 := x0.toNat_lt; have h1 := x1.toNat_lt; have h2 := x2.toNat_lt; have h3 := x3.toNat_lt
  have h4 := x4.toNat_lt; have h5 := x5.toNat_lt; have h6 := x6.toNat_lt; have h7 := x7.toNat_lt
  have hv : ((Lib.leNat [x0, x1, x2, x3, x4, x5, x6, x7] : Nat) : Int) = (x0.toNat : Int) + (x1.toNat : Int) * 256 + (x2.toNat : Int) * 65536 + (x3.toNat : Int) * 16777216 + (x4.toNat : Int) * 4294967296 + (x5.toNat : Int) * 1099511627776 + (x6.toNat : Int) * 281474976710656 + (x7.toNat : Int) * 72057594037927936 := by
    simp only [Lib.leNat]
    push_cast
    omega
  have c0 : w.cell? ⟨b, o, none⟩ = some (.int .u8 (x0.toNat : Int)) := h 0 x0 rfl
  have c1 := h 1 x1 rfl
  have c2 := h 2 x2 rfl
  have c3 := h 3 x3 rfl
  have c4 := h 4 x4 rfl
  have c5 := h 5 x5 rfl
  have c6 := h 6 x6 rfl
  have c7 := h 7 x7 rfl
  clear h
  have q0 : (0 : Int) < (n : Int) := by omega
  have q1 : (1 : Int) < (n : Int) := by omega
  have q2 : (2 : Int) < (n : Int) := by omega
  have q3 : (3 : Int) < (n : Int) := by omega
  have q4 : (4 : Int) < (n : Int) := by omega
  have q5 : (5 : Int) < (n : Int) := by omega
  have q6 : (6 : Int) < (n : Int) := by omega
  have q7 : (7 : Int) < (n : Int) := by omega
  have mixed : Tryz.prog.follows Departure.mixedOrders = true := by kernel_rfl
  go_enter Tryz.func150, Tryz.ntmps150
  go_wp2
  go_big_quiet_o (fail)
  go_wp2
  go_ret
  refine ⟨?_, _, rfl⟩
  simp (disch := omega) only [u64_or8, u64_or16, u64_or24, u64_or32, u64_or40, u64_or48, u64_or56]
  rw [hv]
  rfl
theorem word_any {w : World} {b o n cap : Nat} {l : List UInt8} (h : YCells w b o l) (hl : 8 ≤ l.length) (hn : 8 ≤ n) (hnm : n ≤ 9223372036854775807) :
    Calls Tryz.prog 150 #[.slice (some ⟨b, o, none⟩) n cap] w fun e w' => e = .returned (.int .u64 (Lib.leNat (l.take 8) : Nat)) ∧ ∃ q, w' = w.drewN q := by
  match l, hl, h with
  | x0 :: x1 :: x2 :: x3 :: x4 :: x5 :: x6 :: x7 :: r, _, h => exact word8_any h hn hnm
theorem word_mask {l : List UInt8} (hl : 8 ≤ l.length) : Lib.leNat (l.take 8) &&& 9259542123273814144 = 0 ↔ ∀ b ∈ l.take 8, b.toNat < 128 := by
  have := Lib.leNat_mask (l.take 8)
  rwa [List.length_take, Nat.min_eq_left hl, Lib.maskN8] at this
theorem word_lt8 (l : List UInt8) : Lib.leNat (l.take 8) < 18446744073709551616 := by
  have h := Lib.leNat_lt (l.take 8)
  have : 256 ^ (l.take 8).length ≤ 256 ^ 8 := Nat.pow_le_pow_right (by decide) (by rw [List.length_take]; omega)
  exact Nat.lt_of_lt_of_le h (by simpa using this)
theorem asc_more {l : List UInt8} {a c : Nat} (ha : ∀ b ∈ l.take a, b.toNat < 128) (hc : ∀ b ∈ (l.drop a).take c, b.toNat < 128) : ∀ b ∈ l.take (a + c), b.toNat < 128 := by
  rw [List.take_add]
  intro x hx
  rcases List.mem_append.1 hx with h | h
  · exact ha x h
  · exact hc x h

end L
end Go.Proofs.YtelmjekjohbmjaaGreatDoor

