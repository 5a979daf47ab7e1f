/- Records: what is wrong with one, its bytes; the contracts of Tag, putBits, Wrong, recordBytes, Add. -/
import Derived.Test.YtenlijgnmhdopaaWPut
namespace Go.Proofs.Ytenlijgnmhdopaa
open Go.RowKit

structure Rcd where
  num : Int
  how : Int
  bits : Nat
  bytes : List UInt8

/-- The low bytes of a number, the lowest one first. -/
def lowN : Nat → Nat → List UInt8
  | 0, _ => []
  | k + 1, n => UInt8.ofNat n :: lowN k (n / 256)

theorem lowN_len (k n : Nat) : (lowN k n).length = k := by
  induction k generalizing n with
  | zero => rfl
  | succ k ih => rw [lowN, List.length_cons, ih]

set_option maxHeartbeats 400000 in
theorem tag_any (base : Nat) (v : Value) (l : List UInt8) (num how : Int) (w : World) (hv : OwnB w base v l) (hb : base ≤ w.heap.size) (h1 : 0 ≤ num) (h2 : num ≤ 536870912) (h3 : 0 ≤ how) (h4 : how ≤ 7) (hl : l.length ≤ 1000000) :
    Calls Try.prog 61 #[v, .int .i64 num, .int .i64 how] w fun e w' => ∃ v', e = .returned v' ∧ OwnB w' base v' (l ++ putN (num.toNat * 8 + how.toNat)) ∧ Below base w w' := by
  go_enter Try.func61, Try.ntmps61
  go_wp2_with fail
  rw [show num * 8 + how = ((num.toNat * 8 + how.toNat : Nat) : Int) by omega]
  refine (put_any base v l _ _ hv hb (by omega) hl).mono ?_
  rintro e w1 ⟨v1, rfl, ho, hbl⟩
  go_wp2
  go_ret
  exact ⟨v1, rfl, ho, hbl⟩

set_option maxHeartbeats 1000000 in
set_option maxRecDepth 100000 in
theorem putBits_any (base : Nat) (v : Value) (l : List UInt8) (how : Int) (n : Nat) (w : World) (hv : OwnB w base v l) (hb : base ≤ w.heap.size) (hn : n ≤ 18446744073709551615) (hl : l.length ≤ 900000) :
    Calls Try.prog 62 #[v, .int .i64 how, .int .u64 (n : Int)] w fun e w' => ∃ v', e = .returned v' ∧ OwnB w' base v' (l ++ (if how = 0 then putN n else lowN (widthN how) n)) ∧ Below base w w' := by
  by_cases h0 : how = 0
  · rw [if_pos h0]
    subst h0
    go_enter Try.func62, Try.ntmps62
    go_wp2_with (go_at_call 8; refine (put_any base v l n _ hv hb hn (by omega)).mono ?_; rintro e w1 ⟨v1, rfl, ho, hbl⟩)
    go_ret
    exact ⟨v1, rfl, ho, hbl⟩
  · rw [if_neg h0]
    have b0 : (how == 0) = false := beq_eq_false_iff_ne.2 h0
    obtain ⟨W, HW⟩ : ∃ W, Hid (W = widthN how) := ⟨_, rfl⟩
    have hW8 : W ≤ 8 := by rw [HW.out]; unfold widthN; split <;> (try split) <;> omega
    clear h0
    rw [← HW.out]
    go_enter Try.func62, Try.ntmps62
    go_wp2_with (go_at_call 64; refine (width_any how _).mono ?_; rintro e w1 ⟨rfl, rfl⟩; rw [← HW.out])
    go_loopw [0, 2, 14] (fun u n' i wr => ∃ (k m : Nat) (l' : List UInt8), i = .int .i64 (k : Int) ∧ k ≤ W ∧ n' = .int .u64 (m : Int) ∧ m ≤ 18446744073709551615 ∧ l'.length = l.length + k ∧ OwnB wr base u l' ∧ Below base w wr ∧ base ≤ wr.heap.size ∧ Hid (l' ++ lowN (W - k) m = l ++ lowN W n))
      (fun _ _ i _ => W - (intOf i).toNat)
    case atStart => exact ⟨0, n, l, rfl, by omega, rfl, hn, rfl, hv, Below.refl _ _, hb, rfl⟩
    case round =>
      obtain ⟨k, m, l', rfl, hk, rfl, hm, hlen, hown, hnx, hbs, HR⟩ := hrel
      by_cases hlt : k < W
      · obtain ⟨c, Hc⟩ : ∃ c, Hid (c = UInt8.ofNat m) := ⟨_, rfl⟩
        go_wp2_with (at_builtin; refine wpList_app1 rfl _ _ rfl base _ l' c rfl (hown.alloc _) ⟨wr.heap.size, 0, none⟩ rfl ?d1 ?d2 ?d3 ?_)
        case d1 =>
          rw [Hc.out, UInt8.toNat_ofNat']
          simp
        case d2 => omega
        case d3 => simp; omega
        intro v' w2 h1 h2
        go_wp2
        go_roundw
        case rel =>
          refine ⟨k + 1, m / 256, l' ++ [c], by go_num, by omega, by go_num, by omega, by simp; omega, h1, (hnx.alloc hbs _).trans h2, by have := h2.size; simp at this; omega, ?_⟩
          show _ = _
          rw [← HR.out, show W - k = W - (k + 1) + 1 by omega, lowN, List.append_assoc, Hc.out]
          rfl
        case measure => simp [intOf]; omega
      · go_wp2
        go_ret
        refine ⟨_, rfl, ?_, hnx⟩
        rw [← HR.out, show W - k = 0 by omega, lowN, List.append_nil]
        exact hown

end Go.Proofs.Ytenlijgnmhdopaa
