/- A number comes back: the law's walk. -/
import Derived.Test.YtenlijgnmhdopaaWParse2
namespace Go.Proofs.Ytenlijgnmhdopaa
open Go.RowKit

theorem getR_put : ∀ (f i acc m : Nat) (more : List UInt8), f + i = 10 → 1 ≤ f → m < 2 ^ (7 * f) → m * 2 ^ (7 * i) ≤ 18446744073709551615 →
    getR i acc (putF f m ++ more) = (acc + m * 2 ^ (7 * i), i + (putF f m).length, 0) := by
  intro f
  induction f with
  | zero => intro i acc m more _ h; omega
  | succ f ih =>
    intro i acc m more hfi _ hm hb
    have h9 : i = 9 → m ≤ 1 := by
      intro e
      subst e
      rw [show 2 ^ (7 * 9) = 9223372036854775808 from rfl] at hb
      omega
    by_cases hs : m < 128
    · rw [putF_end hs]
      have e : (UInt8.ofNat m).toNat = m := by rw [UInt8.toNat_ofNat']; omega
      rw [List.cons_append, getR, e, if_neg (by rintro ⟨a, b⟩; have := h9 a; omega), if_pos hs, Nat.mod_eq_of_lt hs]
      rfl
    · rw [putF_go hs]
      have e : (UInt8.ofNat (m % 128 + 128)).toNat = m % 128 + 128 := by rw [UInt8.toNat_ofNat']; omega
      have hi : i ≠ 9 := fun a => by have := h9 a; omega
      have hp : 2 ^ (7 * (i + 1)) = 128 * 2 ^ (7 * i) := by rw [show 7 * (i + 1) = 7 + 7 * i by omega, Nat.pow_add]
      have hf2 := put_f2 hm hs
      have hsum : m % 128 * 2 ^ (7 * i) + m / 128 * 2 ^ (7 * (i + 1)) = m * 2 ^ (7 * i) := by
        rw [hp, ← Nat.mul_assoc, ← Nat.add_mul]
        congr 1
        omega
      rw [List.cons_append, getR, e, if_neg (by rintro ⟨a, _⟩; exact hi a), if_neg (by omega),
        ih (i + 1) _ (m / 128) more (by omega) (by omega) (put_down hm) (by omega)]
      rw [show (m % 128 + 128) % 128 = m % 128 by omega, List.length_cons]
      refine Prod.ext ?_ (Prod.ext ?_ rfl)
      · show acc + m % 128 * 2 ^ (7 * i) + m / 128 * 2 ^ (7 * (i + 1)) = _
        omega
      · show i + 1 + (putF f (m / 128)).length = i + ((putF f (m / 128)).length + 1)
        omega

theorem getR_putN (n : Nat) (more : List UInt8) (hn : n ≤ 18446744073709551615) : getR 0 0 (putN n ++ more) = (n, (putN n).length, 0) := by
  have := getR_put 10 0 0 n more rfl (by omega) (by omega) (by simpa using hn)
  rw [putN, this]
  simp

theorem putF_last : ∀ (f m : Nat), 1 ≤ f → m < 2 ^ (7 * f) → 1 ≤ m → (putF f m).getD ((putF f m).length - 1) 0 ≠ 0 ∧ 1 ≤ (putF f m).length := by
  intro f
  induction f with
  | zero => intro m h; omega
  | succ f ih =>
    intro m _ hm h1
    by_cases hs : m < 128
    · rw [putF_end hs]
      refine ⟨?_, by simp⟩
      simp
      intro e
      have := congrArg UInt8.toNat e
      rw [UInt8.toNat_ofNat'] at this
      simp at this
      omega
    · rw [putF_go hs]
      have hf2 := put_f2 hm hs
      obtain ⟨a, b⟩ := ih (m / 128) (by omega) (put_down hm) (by omega)
      refine ⟨?_, by simp⟩
      obtain ⟨k, hk⟩ : ∃ k, (putF f (m / 128)).length = k + 1 := ⟨(putF f (m / 128)).length - 1, by omega⟩
      rw [hk] at a
      rw [List.length_cons, hk]
      simpa using a

theorem putN_one {n : Nat} (h : n < 128) : (putN n).length = 1 := by
  rw [putN, putF_end h]; rfl
theorem putN_pos (n : Nat) : 1 ≤ (putN n).length := by
  rw [putN, putF]; split <;> simp
theorem putN_last {n : Nat} (hn : n ≤ 18446744073709551615) (h : 1 < (putN n).length) : ((putN n).getD ((putN n).length - 1) 0).toNat ≠ 0 := by
  have h1 : 1 ≤ n := by
    by_cases h0 : n < 128
    · rw [putN_one h0] at h; omega
    · omega
  have := (putF_last 10 n (by omega) (by omega) h1).1
  intro e
  apply this
  exact UInt8.toNat_inj.1 e

theorem wrap64_bd (n : Int) : -9223372036854775808 ≤ wrap64 n ∧ wrap64 n ≤ 9223372036854775807 := by unfold wrap64; omega

end Go.Proofs.Ytenlijgnmhdopaa
