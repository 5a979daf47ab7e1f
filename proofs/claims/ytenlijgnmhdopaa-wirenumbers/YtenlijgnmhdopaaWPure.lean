/- Plain lists and numbers: a number's bytes, records' bytes, what bytes tell. Nothing of the program. -/
import Derived.Laws.BitsAllLaws
import Derived.Laws.BitsLemmas
namespace Go.Proofs.Ytenlijgnmhdopaa

theorem wr_u64 (n : Int) (h₀ : 0 ≤ n) (h₁ : n < 2 ^ 64) : IntKind.u64.wrap n = n := by rw [IntKind.wrap_u64]; omega
theorem not_pos (a : Nat) (ha : a < 9223372036854775808) : bits .xor .i64 (-1) (a : Int) = -1 - (a : Int) := by
  have e : (BitVec.ofInt 64 (-1) ^^^ BitVec.ofInt 64 (a : Int)).toNat = 18446744073709551615 - a := by
    rw [show BitVec.ofInt 64 (-1) = BitVec.allOnes 64 by decide, BitVec.ofInt_natCast, BitVec.allOnes_xor, BitVec.toNat_not, BitVec.toNat_ofNat, Nat.mod_eq_of_lt (by omega)]
  refine (congrArg (fun n : Nat => IntKind.i64.wrap (n : Int)) e).trans ?_
  rw [IntKind.wrap_i64]
  omega

/-- The bytes of n, by sevens, with fuel. -/
def putF : Nat → Nat → List UInt8
  | 0, _ => []
  | f + 1, n => if n < 128 then [UInt8.ofNat n] else UInt8.ofNat (n % 128 + 128) :: putF f (n / 128)
def putN (n : Nat) : List UInt8 := putF 10 n

/-- The number that stands first: it, how many bytes, what is wrong. -/
def getR : Nat → Nat → List UInt8 → Nat × Nat × Nat
  | _, _, [] => (0, 0, 2)
  | i, acc, x :: r =>
    if i = 9 ∧ 1 < x.toNat then (0, 0, 3)
    else if x.toNat < 128 then (acc + x.toNat % 128 * 2 ^ (7 * i), i + 1, 0)
    else getR (i + 1) (acc + x.toNat % 128 * 2 ^ (7 * i)) r

def openN (n : Int) : Int := if n % 2 = 1 then -(n / 2) - 1 else n / 2
def foldN (n : Int) : Int := if n < 0 then -2 * n - 1 else 2 * n

theorem openN_odd {n : Int} (h : n % 2 = 1) : openN n = -(n / 2) - 1 := by unfold openN; rw [if_pos h]
theorem openN_even {n : Int} (h : n % 2 ≠ 1) : openN n = n / 2 := by unfold openN; rw [if_neg h]
theorem foldN_neg {n : Int} (h : n < 0) : foldN n = -2 * n - 1 := by unfold foldN; rw [if_pos h]
theorem foldN_pos {n : Int} (h : 0 ≤ n) : foldN n = 2 * n := by unfold foldN; rw [if_neg (by omega)]
theorem open_fold (s : Int) : openN (foldN s) = s := by
  unfold openN foldN; split <;> split <;> omega
theorem fold_open (n : Int) (h : 0 ≤ n) : foldN (openN n) = n := by
  unfold openN foldN; split <;> split <;> omega
theorem fold_bd (s : Int) (h0 : -9223372036854775808 ≤ s) (h1 : s ≤ 9223372036854775807) : 0 ≤ foldN s ∧ foldN s ≤ 18446744073709551615 := by
  unfold foldN; split <;> omega
theorem open_bd (n : Int) (h0 : 0 ≤ n) (h1 : n ≤ 18446744073709551615) : -9223372036854775808 ≤ openN n ∧ openN n ≤ 9223372036854775807 := by
  unfold openN; split <;> omega

/-- the walk's own forms -/
theorem open_walk_odd (n : Int) (h0 : 0 ≤ n) (h1 : n ≤ 18446744073709551615) (h : (bits BinOp.and IntKind.u64 n 1 == 1) = true) :
    bits BinOp.xor IntKind.i64 (-1) (n / 2) = openN n := by
  obtain ⟨a, rfl⟩ := Int.eq_ofNat_of_zero_le h0
  have e1 := (bits_nat .u64 64 (by decide) wr_u64 a 1 (by omega) (by decide)).1
  rw [show ((1 : Nat) : Int) = 1 from rfl] at e1
  rw [e1, Nat.and_one_is_mod] at h
  have h2 : (a : Int) % 2 = 1 := by have := beq_iff_eq.1 h; omega
  rw [openN_odd h2, show ((a : Int) / 2) = ((a / 2 : Nat) : Int) by omega, not_pos _ (by omega)]
  omega
theorem open_walk_even (n : Int) (h0 : 0 ≤ n) (h1 : n ≤ 18446744073709551615) (h : (bits BinOp.and IntKind.u64 n 1 == 1) = false) :
    n / 2 = openN n := by
  obtain ⟨a, rfl⟩ := Int.eq_ofNat_of_zero_le h0
  have e1 := (bits_nat .u64 64 (by decide) wr_u64 a 1 (by omega) (by decide)).1
  rw [show ((1 : Nat) : Int) = 1 from rfl] at e1
  rw [e1, Nat.and_one_is_mod] at h
  have h2 : (a : Int) % 2 ≠ 1 := by have := beq_eq_false_iff_ne.1 h; omega
  rw [openN_even h2]

theorem i64_not_neg (n : Int) (h0 : -9223372036854775808 ≤ n) (h1 : n < 0) : bits BinOp.xor IntKind.i64 (-1) n = -1 - n := by
  obtain ⟨a, ha⟩ := Int.eq_ofNat_of_zero_le (show 0 ≤ -1 - n by omega)
  have h2 : BitVec.ofInt 64 n = ~~~ (BitVec.ofNat 64 a) := by
    apply BitVec.eq_of_toNat_eq
    rw [BitVec.toNat_not, BitVec.toNat_ofInt, BitVec.toNat_ofNat]
    have : n = -1 - (a : Int) := by omega
    subst this
    omega
  show IntKind.i64.wrap ((BitVec.ofInt 64 (-1) ^^^ BitVec.ofInt 64 n).toNat : Int) = _
  have h3 : BitVec.ofInt 64 (-1) = BitVec.allOnes 64 := by decide
  rw [h3, h2, BitVec.allOnes_xor, BitVec.not_not, BitVec.toNat_ofNat]
  rw [show a % 2 ^ 64 = a from Nat.mod_eq_of_lt (by omega), IntKind.wrap_i64]
  omega

theorem fold_walk_neg (n : Int) (h0 : -9223372036854775808 ≤ n) (h1 : n < 0) :
    bits BinOp.or IntKind.u64 (IntKind.u64.wrap (IntKind.u64.wrap (bits BinOp.xor IntKind.i64 (-1) n) * 2)) 1 = foldN n := by
  rw [i64_not_neg n h0 h1, foldN_neg h1]
  obtain ⟨a, ha⟩ := Int.eq_ofNat_of_zero_le (show 0 ≤ -1 - n by omega)
  rw [ha, IntKind.wrap_u64, IntKind.wrap_u64]
  rw [show ((a : Int) % 18446744073709551616 * 2 % 18446744073709551616) = ((2 * a : Nat) : Int) by omega]
  have := bits_join .u64 64 (by decide) wr_u64 1 ((2 * a : Nat) : Int) 1 (by omega) (by omega) (by omega) (by omega) (by omega) (by omega)
  rw [this]
  omega

theorem andNot128 (x : Int) (h₀ : 0 ≤ x) (h₁ : x < 256) : bits .andNot .u8 x 128 = x % 128 := by
  have e : bits .andNot .u8 x 128 = bits .and .u8 x 127 := by
    show IntKind.u8.wrap ((BitVec.ofInt 8 x &&& ~~~ BitVec.ofInt 8 128).toNat : Int) = IntKind.u8.wrap ((BitVec.ofInt 8 x &&& BitVec.ofInt 8 127).toNat : Int)
    rw [show ~~~ BitVec.ofInt 8 128 = BitVec.ofInt 8 127 by decide]
  rw [e]
  exact bits_mask .u8 8 (by decide) wraps_u8 7 (by decide) x h₀ h₁

theorem or_low (i a b : Nat) (ha : a < 2 ^ i) (ha' : a < 2 ^ 64) (hb : b % 2 ^ i = 0) (hb' : b < 2 ^ 64) : bits .or .u64 (a : Int) (b : Int) = ((a + b : Nat) : Int) := by
  rw [(bits_nat .u64 64 (by decide) wr_u64 a b ha' hb').2, Nat.or_comm]
  have hq : b = 2 ^ i * (b / 2 ^ i) := by have := Nat.div_add_mod b (2 ^ i); omega
  rw [hq, ← Nat.two_pow_add_eq_or_of_lt ha (b / 2 ^ i), ← hq, Nat.add_comm]

theorem pow7 {k : Nat} (h : k ≤ 8) : 2 ^ (7 * k) ≤ 72057594037927936 := by
  have := Nat.pow_le_pow_right (show 0 < 2 by decide) (show 7 * k ≤ 56 by omega)
  exact this

theorem step_bd {k acc X : Nat} (hacc : acc < 2 ^ (7 * k)) : acc + X % 128 * 2 ^ (7 * k) < 2 ^ (7 * (k + 1)) := by
  have e : 2 ^ (7 * (k + 1)) = 128 * 2 ^ (7 * k) := by rw [show 7 * (k + 1) = 7 + 7 * k by omega, Nat.pow_add]
  have h : X % 128 * 2 ^ (7 * k) ≤ 127 * 2 ^ (7 * k) := Nat.mul_le_mul_right _ (by omega)
  omega

theorem step_or {k acc X : Nat} (hk : k ≤ 9) (hacc : acc < 2 ^ (7 * k)) (hX : X < 256) (h9 : k = 9 → X ≤ 1) :
    bits BinOp.or IntKind.u64 (acc : Int) (IntKind.u64.wrap (IntKind.u64.wrap (bits BinOp.andNot IntKind.u8 (X : Int) 128) * 2 ^ (7 * k))) = ((acc + X % 128 * 2 ^ (7 * k) : Nat) : Int) := by
  have hb : X % 128 * 2 ^ (7 * k) < 2 ^ 64 := by
    by_cases h : k ≤ 8
    · have h1 := pow7 h
      have h2 : X % 128 * 2 ^ (7 * k) ≤ 127 * 2 ^ (7 * k) := Nat.mul_le_mul_right _ (by omega)
      omega
    · have hk9 : k = 9 := by omega
      subst hk9
      have := h9 rfl
      rw [show 2 ^ (7 * 9) = 9223372036854775808 from rfl]
      omega
  have ha : acc < 2 ^ 64 := by
    have := Nat.pow_le_pow_right (show 0 < 2 by decide) (show 7 * k ≤ 64 by omega)
    omega
  rw [andNot128 _ (by omega) (by omega), wr_u64 ((X : Int) % 128) (by omega) (by omega)]
  have e : ((X : Int) % 128 * 2 ^ (7 * k)) = ((X % 128 * 2 ^ (7 * k) : Nat) : Int) := by simp
  rw [e, wr_u64 _ (by omega) (by exact_mod_cast hb)]
  exact or_low (7 * k) acc _ hacc ha (Nat.mul_mod_left _ _) hb

theorem put_more (m : Nat) : bits BinOp.or IntKind.u8 (IntKind.u8.wrap (m : Int)) 128 = ((UInt8.ofNat (m % 128 + 128)).toNat : Int) := by
  rw [IntKind.wrap_u8]
  have e : ((m : Int) % 256) = ((m % 256 : Nat) : Int) := by omega
  rw [e]
  have h := (bits_nat .u8 8 (by decide) wraps_u8 (m % 256) 128 (by omega) (by decide)).2
  rw [show ((128 : Nat) : Int) = 128 from rfl] at h
  rw [h]
  have g : ∀ x : Nat, x < 256 → (x ||| 128) = x % 128 + 128 := by decide +kernel
  rw [g _ (by omega), UInt8.toNat_ofNat']
  omega
theorem put_last (m : Nat) : IntKind.u8.wrap (m : Int) = ((UInt8.ofNat m).toNat : Int) := by
  rw [IntKind.wrap_u8, UInt8.toNat_ofNat']
  omega
theorem putF_go {f m : Nat} (h : ¬ m < 128) : putF (f + 1) m = UInt8.ofNat (m % 128 + 128) :: putF f (m / 128) := by rw [putF, if_neg h]
theorem putF_end {f m : Nat} (h : m < 128) : putF (f + 1) m = [UInt8.ofNat m] := by rw [putF, if_pos h]
theorem putF_len (f m : Nat) : (putF f m).length ≤ f := by
  induction f generalizing m with
  | zero => simp [putF]
  | succ f ih =>
    rw [putF]
    split
    · simp
    · have := ih (m / 128)
      simp
      omega

theorem drop_at {l : List UInt8} {k X : Nat} (hk : k < l.length) (hX : X = (l.getD k 0).toNat) : ∃ c : UInt8, l.drop k = c :: l.drop (k + 1) ∧ c.toNat = X := by
  refine ⟨l[k], List.drop_eq_getElem_cons hk, ?_⟩
  rw [hX, List.getD_eq_getElem?_getD, List.getElem?_eq_getElem hk]
  rfl

theorem getR_err {l : List UInt8} {k acc X : Nat} (hk : k < l.length) (hX : X = (l.getD k 0).toNat) (h9 : k = 9) (h1 : 1 < X) : getR k acc (l.drop k) = (0, 0, 3) := by
  obtain ⟨c, e, hc⟩ := drop_at hk hX
  rw [e, getR, if_pos ⟨h9, by omega⟩]
theorem getR_end {l : List UInt8} {k acc X : Nat} (hk : k < l.length) (hX : X = (l.getD k 0).toNat) (h9 : k = 9 → X ≤ 1) (h1 : X < 128) :
    getR k acc (l.drop k) = (acc + X % 128 * 2 ^ (7 * k), k + 1, 0) := by
  obtain ⟨c, e, hc⟩ := drop_at hk hX
  rw [e, getR, if_neg (by rintro ⟨a, b⟩; have := h9 a; omega), if_pos (by omega), hc]
theorem getR_go {l : List UInt8} {k acc X : Nat} (hk : k < l.length) (hX : X = (l.getD k 0).toNat) (h9 : k ≠ 9) (h1 : ¬ X < 128) :
    getR k acc (l.drop k) = getR (k + 1) (acc + X % 128 * 2 ^ (7 * k)) (l.drop (k + 1)) := by
  obtain ⟨c, e, hc⟩ := drop_at hk hX
  rw [e, getR, if_neg (by rintro ⟨a, b⟩; exact h9 a), if_neg (by omega), hc]
theorem getR_nil {l : List UInt8} {k acc : Nat} (hk : l.length ≤ k) : getR k acc (l.drop k) = (0, 0, 2) := by
  rw [List.drop_eq_nil_of_le hk, getR]

end Go.Proofs.Ytenlijgnmhdopaa
