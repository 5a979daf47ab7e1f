/- Tag, putBits, Packed; Fold, Bits; sized. -/
import Derived.Test.YthgbiflfinddiaaGreatKWire
import Derived.Test.YthgbiflfinddiaaGreatBWire
namespace Go.Proofs.YthgbiflfinddiaaGreat
namespace L
open Go.RowKit

def kwidth (h : Int) : Nat := if h = 1 then 8 else if h = 5 then 4 else 0
set_option maxHeartbeats 400000 in
theorem kwidth_any (h : Int) (w : World) :
    Calls Tryz.prog 145 #[.int .i64 h] w fun e w' => e = .returned (.int .i64 (kwidth h)) ∧ w = w' := by
  by_cases k : h = 1 ∨ h = 5
  · rcases k with rfl | rfl
    all_goals
      go_enter Tryz.func145, Tryz.ntmps145
      go_wp2
      go_ret
      exact ⟨rfl, rfl⟩
  · have e : kwidth h = 0 := by unfold kwidth; rw [if_neg (by omega), if_neg (by omega)]
    rw [e]
    have b1 : (h == 1) = false := beq_eq_false_iff_ne.2 (by omega)
    have b5 : (h == 5) = false := beq_eq_false_iff_ne.2 (by omega)
    clear e
    go_enter Tryz.func145, Tryz.ntmps145
    go_wp2
    go_ret
    exact ⟨rfl, rfl⟩
set_option maxHeartbeats 400000 in
theorem kfold_any (n : Int) (w : World) (hl : -9223372036854775808 ≤ n) (hu : n ≤ 9223372036854775807) :
    Calls Tryz.prog 147 #[.int .i64 n] w fun e w' => e = .returned (.int .u64 (foldN n)) ∧ w = w' := by
  go_enter Tryz.func147, Tryz.ntmps147
  go_wp2
  · go_ret
    exact ⟨kret_int (fold_walk_neg n hl ‹_›), rfl⟩
  · go_ret
    exact ⟨kret_int (by rw [foldN_pos ‹_›]; omega), rfl⟩
/-- The low bytes of a number, the lowest one first. -/
def klow : Nat → Nat → List UInt8
  | 0, _ => []
  | k + 1, n => UInt8.ofNat n :: klow k (n / 256)
theorem klow_len (k n : Nat) : (klow k n).length = k := by
  induction k generalizing n with
  | zero => rfl
  | succ k ih => rw [klow, List.length_cons, ih]
def ktagN (num how : Int) : List UInt8 := putN (num.toNat * 8 + how.toNat)
def kputB (how : Int) (n : Nat) : List UInt8 := if how = 0 then putN n else klow (kwidth how) n
theorem kputN_len (n : Nat) : (putN n).length ≤ 10 := putF_len 10 n
theorem kputB_len (how : Int) (n : Nat) : (kputB how n).length ≤ 10 := by
  unfold kputB
  split
  · exact kputN_len n
  · rw [klow_len]; unfold kwidth; split
    · omega
    · split <;> omega
set_option maxHeartbeats 400000 in
theorem ktag_any (base : Nat) (v : Value) (l : List UInt8) (num how : Int) (w : World) (hv : Row ekY w base v l) (hb : base ≤ w.heap.size) (h1 : 0 ≤ num) (h2 : num ≤ 536870912) (h3 : 0 ≤ how) (h4 : how ≤ 7) (hl : l.length ≤ 10000000000000) :
    Calls Tryz.prog 131 #[v, .int .i64 num, .int .i64 how] w fun e w' => ∃ v', e = .returned v' ∧ Row ekY w' base v' (l ++ ktagN num how) ∧ Below base w w' := by
  go_enter Tryz.func131, Tryz.ntmps131
  go_wp2_with fail
  rw [show num * 8 + how = ((num.toNat * 8 + how.toNat : Nat) : Int) by omega]
  refine (kput_any base v l _ _ hv hb (by omega) hl).mono ?_
  rintro e w1 ⟨v1, rfl, ho, hbl⟩
  go_wp2
  go_ret
  exact ⟨v1, rfl, ho, hbl⟩
set_option maxHeartbeats 1000000 in
set_option maxRecDepth 100000 in
theorem kputBits_any (base : Nat) (v : Value) (l : List UInt8) (how : Int) (n : Nat) (w : World) (hv : Row ekY w base v l) (hb : base ≤ w.heap.size) (hn : n ≤ 18446744073709551615) (hl : l.length ≤ 10000000000000) :
    Calls Tryz.prog 134 #[v, .int .i64 how, .int .u64 (n : Int)] w fun e w' => ∃ v', e = .returned v' ∧ Row ekY w' base v' (l ++ kputB how n) ∧ Below base w w' := by
  by_cases h0 : how = 0
  · unfold kputB
    rw [if_pos h0]
    subst h0
    go_enter Tryz.func134, Tryz.ntmps134
    go_wp2_with (go_at_call 132; refine (kput_any base v l n _ hv hb hn (by omega)).mono ?_; rintro e w1 ⟨v1, rfl, ho, hbl⟩)
    go_ret
    exact ⟨v1, rfl, ho, hbl⟩
  · unfold kputB
    rw [if_neg h0]
    have b0 : (how == 0) = false := beq_eq_false_iff_ne.2 h0
    obtain ⟨W, HW⟩ : ∃ W, Hid (W = kwidth how) := ⟨_, rfl⟩
    have hW8 : W ≤ 8 := by rw [HW.out]; unfold kwidth; split <;> (try split) <;> omega
    clear h0
    rw [← HW.out]
    go_enter Tryz.func134, Tryz.ntmps134
    go_wp2_with (go_at_call 145; refine (kwidth_any how _).mono ?_; rintro e w1 ⟨rfl, rfl⟩; rw [← HW.out])
    go_loopw [0, 2, 14] (fun u n' i wr => ∃ (k m : Nat) (l' : List UInt8), i = .int .i64 (k : Int) ∧ k ≤ W ∧ n' = .int .u64 (m : Int) ∧ m ≤ 18446744073709551615 ∧ l'.length = l.length + k ∧ Row ekY wr base u l' ∧ Below base w wr ∧ base ≤ wr.heap.size ∧ Hid (l' ++ klow (W - k) m = l ++ klow W n))
      (fun _ _ i _ => W - (intOf i).toNat)
    case atStart => exact ⟨0, n, l, rfl, by omega, rfl, hn, rfl, hv, Below.refl _ _, hb, rfl⟩
    case round =>
      obtain ⟨k, m, l', rfl, hk, rfl, hm, hlen, hown, hnx, hbs, HR⟩ := hrel
      have hbk : ∀ k, u0.ownBlock = some k → base ≤ k := fun k hk => (hown.own k hk).1
      by_cases hlt : k < W
      · obtain ⟨c, Hc⟩ : ∃ c, Hid (c = UInt8.ofNat m) := ⟨_, rfl⟩
        go_wp2_with (at_builtin; refine wpList_appG (by rfl) ekY _ _ (by rfl) base _ l' [c] (by rfl) (kY_alloc hown _) (some ⟨wr.heap.size, 0, none⟩) 1 1 (by rfl) (by rfl) (by intro e; cases e) ?d1 (by decide) ?d2 ?d3 ?_)
        case d1 =>
          refine kbyte_src wr _ _ ?_
          rw [Hc.out, UInt8.toNat_ofNat']
          simp
        case d2 => simp [ekY]; omega
        case d3 => simp; omega
        intro v' w2 h1 h2
        have hB1 : Below base w w2 := (hnx.alloc hbs _).grown h2 (by simp; omega) hbk
        go_wp2
        go_roundw
        case rel =>
          refine ⟨k + 1, m / 256, l' ++ [c], by go_num, by omega, by go_num, by omega, by simp; omega, h1, hB1, Nat.le_trans hb hB1.size, ?_⟩
          show _ = _
          rw [← HR.out, show W - k = W - (k + 1) + 1 by omega, klow, List.append_assoc, Hc.out]
          rfl
        case measure => simp [intOf]; omega
      · go_wp2
        go_ret
        refine ⟨_, rfl, ?_, hnx⟩
        rw [← HR.out, show W - k = 0 by omega, klow, List.append_nil]
        exact hown

def khasB (how : Int) : Bool := isHowB how && decide (how ≠ 2)
set_option maxHeartbeats 400000 in
theorem khas_any (h : Int) (w : World) : Calls Tryz.prog 133 #[.int .i64 h] w fun e w' => e = .returned (.bool (khasB h)) ∧ w = w' := by
  have hi := isHow_any h w
  cases hq : isHowB h with
  | false =>
    have HN : Hid (khasB h = false) := by show _ = _; unfold khasB; rw [hq]; rfl
    rw [hq] at hi
    clear hq
    go_enter Tryz.func133, Tryz.ntmps133
    go_wp2_with fail
    refine hi.mono ?_
    rintro e w1 ⟨rfl, rfl⟩
    go_wp2
    go_ret
    exact ⟨by rw [HN.out]; rfl, rfl⟩
  | true =>
    obtain ⟨q, hq2⟩ : ∃ q, (h != 2) = q := ⟨_, rfl⟩
    have HN : Hid (khasB h = q) := by show _ = _; unfold khasB; rw [hq, ← hq2, Bool.eq_iff_iff]; simp
    rw [hq] at hi
    clear hq
    cases q
    all_goals
      go_enter Tryz.func133, Tryz.ntmps133
      go_wp2_with fail
      refine hi.mono ?_
      rintro e w1 ⟨rfl, rfl⟩
      go_wp2
      go_ret
      exact ⟨by rw [HN.out]; rfl, rfl⟩

end L
end Go.Proofs.YthgbiflfinddiaaGreat
