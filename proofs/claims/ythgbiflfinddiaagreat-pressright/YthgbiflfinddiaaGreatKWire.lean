/- Package wire, for package press: Put, Tag, putBits, Packed, onto a list of bytes that the call made. -/
import Derived.Test.YthgbiflfinddiaaGreatKMem
import Derived.Test.YthgbiflfinddiaaGreatBMem
import Derived.Test.YthgbiflfinddiaaGreatWPure
namespace Go.Proofs.YthgbiflfinddiaaGreat
namespace L
open Go.RowKit

theorem kret_int {k : IntKind} {a b : Int} (h : a = b) : Ending.returned (.int k a) = .returned (.int k b) := by rw [h]
theorem kbyte_src (w : World) (c : UInt8) (x : Int) (hx : x = (c.toNat : Int)) : ∀ ad, some (⟨w.heap.size, 0, none⟩ : Addr) = some ad → ∀ k y, [c][k]? = some y → ∀ j u, (ekY.enc y)[j]? = some u → (w.alloc (.cells #[.int .u8 x] 5)).cell? (ad.add (k * ekY.size + j)) = some u := by
  subst hx
  exact kone_src ekY w c
theorem kput_f2 {f m : Nat} (hf : m < 2 ^ (7 * f)) (hs : ¬ m < 128) : 2 ≤ f := by
  rcases Nat.lt_or_ge f 2 with h | h
  · have h1 : 2 ^ (7 * f) ≤ 2 ^ 7 := Nat.pow_le_pow_right (by decide) (by omega)
    have h2 : (2 : Nat) ^ 7 = 128 := rfl
    omega
  · exact h
theorem kput_down {f m : Nat} (hf : m < 2 ^ (7 * (f + 1))) : m / 128 < 2 ^ (7 * f) := by
  rw [show 7 * (f + 1) = 7 * f + 7 by omega, Nat.pow_add] at hf
  have h2 : (2 : Nat) ^ 7 = 128 := rfl
  rw [h2] at hf
  omega
theorem kY_alloc {w : World} {base : Nat} {v : Value} {l : List UInt8} (h : Row ekY w base v l) (o : Obj) : Row ekY (w.alloc o) base v l := h.below ((Below.refl _ _).alloc (Nat.le_refl _) _)

set_option maxHeartbeats 1000000 in
set_option maxRecDepth 100000 in
theorem kput_any (base : Nat) (v : Value) (l : List UInt8) (n : Nat) (w : World) (hv : Row ekY w base v l) (hb : base ≤ w.heap.size) (hn : n ≤ 18446744073709551615) (hl : l.length ≤ 10000000000000) :
    Calls Tryz.prog 132 #[v, .int .u64 (n : Int)] w fun e w' => ∃ v', e = .returned v' ∧ Row ekY w' base v' (l ++ putN n) ∧ Below base w w' := by
  have H0 : Hid (l ++ putF 10 n = l ++ putN n) := rfl
  go_enter Tryz.func132, Tryz.ntmps132
  go_wp2
  go_loopw [0, 1] (fun u i wr => ∃ (f m : Nat) (l' : List UInt8), i = .int .u64 (m : Int) ∧ m ≤ 18446744073709551615 ∧ Hid (m < 2 ^ (7 * (f + 1))) ∧ f ≤ 9 ∧ l'.length + f ≤ l.length + 10 ∧ Row ekY wr base u l' ∧ Below base w wr ∧ base ≤ wr.heap.size ∧ Hid (l' ++ putF (f + 1) m = l ++ putN n))
    (fun _ i _ => (intOf i).toNat)
  case atStart => exact ⟨9, n, l, rfl, hn, by show n < 2 ^ (7 * 10); omega, Nat.le_refl _, by omega, hv, Below.refl _ _, hb, H0⟩
  case round =>
    obtain ⟨f, m, l', rfl, hm, hf, hf10, hlen, hown, hnx, hbs, HR⟩ := hrel
    have hbk : ∀ k, u0.ownBlock = some k → base ≤ k := fun k hk => (hown.own k hk).1
    by_cases hs : m < 128
    · go_wp2_with (at_builtin; refine wpList_appG (by rfl) ekY _ _ (by rfl) base _ l' [UInt8.ofNat m] (by rfl) (kY_alloc hown _) (some ⟨wr.heap.size, 0, none⟩) 1 1 (by rfl) (by rfl) (by intro e; cases e) ?c1 (by decide) ?c2 ?c3 ?_)
      case c1 =>
        refine kbyte_src wr _ _ ?_
        simp
        omega
      case c2 => simp [ekY]; omega
      case c3 => simp; omega
      intro v' w1 h1 h2
      go_wp2
      go_ret
      refine ⟨v', rfl, ?_, (hnx.alloc hbs _).grown h2 (by simp; omega) hbk⟩
      rw [← HR.out, putF_end hs]
      exact h1
    · obtain ⟨c, Hc⟩ : ∃ c, Hid (c = UInt8.ofNat (m % 128 + 128)) := ⟨_, rfl⟩
      go_wp2_with (at_builtin; refine wpList_appG (by rfl) ekY _ _ (by rfl) base _ l' [c] (by rfl) (kY_alloc hown _) (some ⟨wr.heap.size, 0, none⟩) 1 1 (by rfl) (by rfl) (by intro e; cases e) ?d1 (by decide) ?d2 ?d3 ?_)
      case d1 =>
        refine kbyte_src wr _ _ ?_
        rw [Hc.out, ← put_more, IntKind.wrap_u8]
      case d2 => simp [ekY]; omega
      case d3 => simp; omega
      intro v' w1 h1 h2
      have hB1 : Below base w w1 := (hnx.alloc hbs _).grown h2 (by simp; omega) hbk
      go_wp2
      go_roundw
      case rel =>
        have hf2 := kput_f2 hf.out hs
        obtain ⟨g, rfl⟩ : ∃ g, f = g + 1 := ⟨f - 1, by omega⟩
        refine ⟨g, m / 128, l' ++ [c], by go_num, by omega, kput_down hf.out, by omega, by simp; omega, h1, hB1, Nat.le_trans hb hB1.size, ?_⟩
        show _ = _
        rw [← HR.out, putF_go hs, List.append_assoc, Hc.out]
        rfl
      case measure => simp [intOf]; omega

end L
end Go.Proofs.YthgbiflfinddiaaGreat
