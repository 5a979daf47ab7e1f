/- Slices of bytes in memory: what can be read, and what the call itself has made. -/
import Derived.Test.YtenlijgnmhdopaaWLeaf
namespace Go.Proofs.Ytenlijgnmhdopaa
open Go.RowKit

/-- A slice of bytes that can be read in the world w: the bytes l. -/
def RdA (w : World) (ao : Option Addr) (len cap : Nat) (l : List UInt8) : Prop :=
  l.length = len ∧ len ≤ cap ∧ cap ≤ maxLen ∧ (ao = none → cap = 0) ∧
    ∀ x, ao = some x → ∀ i, i < len → w.cell? (x.add i) = some (.int .u8 ((l.getD i 0).toNat : Int))

theorem RdA.at {w : World} {ao : Option Addr} {len cap : Nat} {l : List UInt8} (h : RdA w ao len cap l) (hp : 0 < len) :
    ∃ b off, ao = some ⟨b, off, none⟩ ∧ b < w.heap.size ∧ ∀ i, i < len → w.cell? ⟨b, off + i, none⟩ = some (.int .u8 ((l.getD i 0).toNat : Int)) := by
  obtain ⟨h1, h2, h3, h4, h5⟩ := h
  cases ao with
  | none => have := h4 rfl; omega
  | some x =>
    obtain ⟨b, off, spot⟩ := x
    have hc := h5 _ rfl 0 hp
    have hspot : spot = none := by simpa [Addr.add] using World.cell?_spot hc
    subst hspot
    refine ⟨b, off, rfl, ?_, ?_⟩
    · have := World.block_lt_of_cell? w _ hc
      simpa [Addr.add] using this
    · intro i hi
      have := h5 _ rfl i hi
      have e : (⟨b, off, none⟩ : Addr).add i = ⟨b, off + i, none⟩ := by unfold Addr.add; split <;> simp_all
      rw [e] at this
      exact this

theorem RdA.later {w w' : World} {ao : Option Addr} {len cap : Nat} {l : List UInt8} (h : RdA w ao len cap l) (hb : Below w.heap.size w w') : RdA w' ao len cap l := by
  obtain ⟨h1, h2, h3, h4, h5⟩ := h
  refine ⟨h1, h2, h3, h4, fun x hx i hi => ?_⟩
  have hc := h5 x hx i hi
  rw [hb.cell (World.block_lt_of_cell? w _ hc)]
  exact hc

theorem RdA.nil (w : World) : RdA w none 0 0 [] := ⟨rfl, Nat.le_refl _, by unfold maxLen; omega, fun _ => rfl, fun _ _ i hi => absurd hi (by omega)⟩

/-- A slice of bytes that the call itself made. -/
def OwnB (w : World) (base : Nat) (v : Value) (l : List UInt8) : Prop :=
  w.ownsRow base 5 1 v l.length (l.map fun c => Value.int .u8 (c.toNat : Int))

theorem OwnB.nil (w : World) (base : Nat) : OwnB w base (.slice none 0 0) [] := World.ownsRow_nil _ _ _ _

theorem OwnB.rd {w : World} {base : Nat} {v : Value} {l : List UInt8} (h : OwnB w base v l) : ∃ ao len cap, v = .slice ao len cap ∧ RdA w ao len cap l := by
  have hl := h.1
  rcases h.2 with ⟨hv, hn⟩ | ⟨g, cap, cur, hv, hb, hg, hn, hm, hs, ht⟩
  · have : l = [] := List.eq_nil_of_length_eq_zero hn
    subst this
    exact ⟨none, 0, 0, hv, RdA.nil w⟩
  · refine ⟨some ⟨g, 0, none⟩, l.length, cap, hv, rfl, hn, hm, by simp, ?_⟩
    intro x hx i hi
    cases hx
    have := World.ownsRow.cells h (g := g) (by rw [hv]; rfl) i (.int .u8 ((l.getD i 0).toNat : Int)) (by
      rw [List.getElem?_map, List.getElem?_eq_getElem hi]
      simp [List.getD_eq_getElem?_getD, List.getElem?_eq_getElem hi])
    exact this

theorem OwnB.keptB {w w' : World} {base : Nat} {v : Value} {l : List UInt8} (h : OwnB w base v l) (hb : Below w.heap.size w w') : OwnB w' base v l := by
  refine ⟨h.1, ?_⟩
  rcases h.2 with hn | ⟨g, cap, cur, hv, hbg, hg, r⟩
  · exact .inl hn
  · exact .inr ⟨g, cap, cur, hv, hbg, by rw [hb.block g (Array.getElem?_eq_some_iff.1 hg).1]; exact hg, r⟩

theorem ret3 {k1 k2 k3 : IntKind} {a b c a' b' c' : Int} (h1 : a = a') (h2 : b = b') (h3 : c = c') :
    Ending.returned (.tuple #[.int k1 a, .int k2 b, .int k3 c]) = .returned (.tuple #[.int k1 a', .int k2 b', .int k3 c']) := by rw [h1, h2, h3]

set_option maxHeartbeats 1000000 in
set_option maxRecDepth 100000 in
theorem get_any (ao : Option Addr) (len cap : Nat) (l : List UInt8) (w : World) (hr : RdA w ao len cap l) :
    Calls Try.prog 9 #[.slice ao len cap] w fun e w' => e = .returned (.tuple #[.int .u64 (getR 0 0 l).1, .int .i64 (getR 0 0 l).2.1, .int .i64 (getR 0 0 l).2.2]) ∧ w = w' := by
  have hlm : len ≤ 9223372036854775807 := by have := hr.2.1; have := hr.2.2.1; unfold maxLen at this; omega
  have H0 : Hid (getR 0 0 l = getR 0 0 (l.drop 0)) := by show _ = _; rw [List.drop_zero]
  have Hl : Hid (l.length = len) := hr.1
  by_cases hp : 0 < len
  · obtain ⟨b, off, rfl, hbw, hcell⟩ := hr.at hp
    clear hr
    go_enter Try.func9, Try.ntmps9
    go_wp2
    go_loop [5, 10] (fun a i => ∃ k acc : Nat, k ≤ len ∧ k ≤ 9 ∧ Hid (acc < 2 ^ (7 * k)) ∧ i = .int .i64 k ∧ a = .int .u64 acc ∧ Hid (getR 0 0 l = getR k acc (l.drop k))) (fun _ i => len - (intOf i).toNat)
    case atStart => exact ⟨0, 0, Nat.zero_le _, Nat.zero_le _, by show (0 : Nat) < 1; decide, rfl, rfl, H0⟩
    case round =>
      obtain ⟨k, acc, hk, hk9, hacc, rfl, rfl, HR⟩ := hrel
      by_cases hlt : k < len
      · obtain ⟨X, HX⟩ : ∃ X : Nat, Hid (X = (l.getD k 0).toNat) := ⟨_, rfl⟩
        have hc : w.cell? ⟨b, off + k, none⟩ = some (.int .u8 (X : Int)) := by rw [HX.out]; exact hcell k hlt
        have hX : X < 256 := by rw [HX.out]; exact UInt8.toNat_lt _
        clear hcell
        by_cases h9 : k = 9
        · have h9' : ((k : Int) == 9) = true := beq_iff_eq.2 (by omega)
          have h9l : 9 ≤ k := by omega
          clear h9
          by_cases h1 : 1 < X
          · go_wp2
            go_ret3
            have e := getR_err (acc := acc) (by rw [Hl.out]; exact hlt) HX.out (by omega) h1
            rw [HR.out, e]
            exact ⟨rfl, rfl⟩
          · have hs : X < 128 := by omega
            go_wp2
            go_ret3
            have e := getR_end (acc := acc) (by rw [Hl.out]; exact hlt) HX.out (by omega) hs
            rw [HR.out, e]
            exact ⟨ret3 (step_or hk9 hacc.out hX (by omega)) (by show (k : Int) + 1 = ((k + 1 : Nat) : Int); omega) rfl, rfl⟩
        · have h9' : ((k : Int) == 9) = false := beq_eq_false_iff_ne.2 (by omega)
          by_cases hs : X < 128
          · go_wp2
            go_ret3
            have e := getR_end (acc := acc) (by rw [Hl.out]; exact hlt) HX.out (by omega) hs
            rw [HR.out, e]
            exact ⟨ret3 (step_or hk9 hacc.out hX (by omega)) (by show (k : Int) + 1 = ((k + 1 : Nat) : Int); omega) rfl, rfl⟩
          · go_wp2
            go_round
            case rel => exact ⟨k + 1, _, by omega, by omega, step_bd hacc.out, by go_num, congrArg (Value.int .u64) (step_or hk9 hacc.out hX (by omega)), HR.out.trans (getR_go (by rw [Hl.out]; exact hlt) HX.out h9 hs)⟩
            case measure => simp [intOf]; omega
      · go_wp2
        go_ret3
        have e := getR_nil (l := l) (k := k) (acc := acc) (by rw [Hl.out]; omega)
        rw [HR.out, e]
        exact ⟨rfl, rfl⟩
  · go_enter Try.func9, Try.ntmps9
    have h0 : len = 0 := by omega
    subst h0
    have hn : l = [] := List.eq_nil_of_length_eq_zero Hl.out
    clear hr H0 Hl
    subst hn
    go_wp2
    refine wp_loop_rounds 1 ?_
    rw [rounds_succ]
    go_wp2
    go_ret3
    exact ⟨rfl, rfl⟩

end Go.Proofs.Ytenlijgnmhdopaa
