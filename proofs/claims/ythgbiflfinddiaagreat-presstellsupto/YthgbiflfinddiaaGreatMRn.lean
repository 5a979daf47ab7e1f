import Derived.Test.YthgbiflfinddiaaGreatMKa
import Derived.Test.YthgbiflfinddiaaGreatKLeaf
import Derived.Maps.OwnOps
import Derived.Maps.Views
import Derived.Maps.OwnSet
import Derived.Deep.RegionHeld3
import Derived.Deep.CutRange
import Derived.Deep.DrawnRows
import Derived.Deep.RegionLaw
/- The document's own answer (pressref1): Num, Low, Fold; pressref3's Told. -/
namespace Go.Proofs.YthgbiflfinddiaaGreat
namespace L
open Go.RowKit
set_option linter.unusedVariables false

set_option maxHeartbeats 1000000 in
set_option maxRecDepth 100000 in
theorem rnum_any (n : Nat) (w : World) (hn : n ≤ 18446744073709551615) :
    Calls Tryz.prog 46 #[.int .u64 (n : Int)] w fun e w' => ∃ ao m cap, e = .returned (.slice ao m cap) ∧ Row ekY w' w.heap.size (.slice ao m cap) (putN n) ∧ Below w.heap.size w w' := by
  have H0 : Hid (([] : List UInt8) ++ putF 10 n = putN n) := rfl
  go_enter Tryz.func46, Tryz.ntmps46
  go_wp2
  go_loopw [0, 3] (fun i u wr => ∃ (f m : Nat) (l' : List UInt8), i = .int .u64 (m : Int) ∧ m ≤ 18446744073709551615 ∧ Hid (m < 2 ^ (7 * (f + 1))) ∧ f ≤ 9 ∧ l'.length + f ≤ 10 ∧ Row ekY wr w.heap.size u l' ∧ Below w.heap.size w wr ∧ Hid (l' ++ putF (f + 1) m = putN n))
    (fun i _ _ => (intOf i).toNat)
  case atStart => exact ⟨9, n, [], rfl, hn, by show n < 2 ^ (7 * 10); omega, Nat.le_refl _, by simp, Row.nil _ _ _, Below.refl _ _, H0⟩
  case round =>
    obtain ⟨f, m, l', rfl, hm, hf, hf10, hlen, hown, hnx, HR⟩ := hrel
    have hbs := hnx.size
    have hbk : ∀ k, u3.ownBlock = some k → w.heap.size ≤ k := fun k hk => (hown.own k hk).1
    by_cases hs : m < 128
    · go_wp2_with (at_builtin; refine wpList_appG (by rfl) ekY _ _ (by rfl) w.heap.size _ l' [UInt8.ofNat m] (by rfl) (kY_alloc hown _) (some ⟨wr.heap.size, 0, none⟩) 1 1 (by rfl) (by rfl) (by intro e; cases e) ?c1 (by decide) ?c2 ?c3 ?_)
      case c1 =>
        refine kbyte_src wr _ _ ?_
        simp
        omega
      case c2 => simp [ekY]; omega
      case c3 => simp; omega
      intro v' w1 h1 h2
      obtain ⟨a5, n5, c5, rfl, _⟩ := h1.shape'
      go_wp2
      go_ret
      refine ⟨a5, n5, c5, rfl, ?_, (hnx.alloc hbs _).grown h2 (by simp; omega) hbk⟩
      rw [← HR.out, putF_end hs]
      exact h1
    · obtain ⟨c, Hc⟩ : ∃ c, Hid (c = UInt8.ofNat (m % 128 + 128)) := ⟨_, rfl⟩
      go_wp2_with (at_builtin; refine wpList_appG (by rfl) ekY _ _ (by rfl) w.heap.size _ l' [c] (by rfl) (kY_alloc hown _) (some ⟨wr.heap.size, 0, none⟩) 1 1 (by rfl) (by rfl) (by intro e; cases e) ?d1 (by decide) ?d2 ?d3 ?_)
      case d1 =>
        refine kbyte_src wr _ _ ?_
        rw [Hc.out]
        simp
        omega
      case d2 => simp [ekY]; omega
      case d3 => simp; omega
      intro v' w1 h1 h2
      have hB1 : Below w.heap.size w w1 := (hnx.alloc hbs _).grown h2 (by simp; omega) hbk
      go_wp2
      go_roundw
      case rel =>
        have hf2 := kput_f2 hf.out hs
        obtain ⟨g, rfl⟩ : ∃ g, f = g + 1 := ⟨f - 1, by omega⟩
        refine ⟨g, m / 128, l' ++ [c], by go_num, by omega, kput_down hf.out, by omega, by simp; omega, h1, hB1, ?_⟩
        show _ = _
        rw [← HR.out, putF_go hs, List.append_assoc, Hc.out]
        rfl
      case measure => simp [intOf]; omega
theorem klow_snoc (k n : Nat) : klow (k + 1) n = klow k n ++ [UInt8.ofNat (n / 256 ^ k)] := by
  induction k generalizing n with
  | zero => simp [klow]
  | succ k ih =>
    rw [klow, ih, klow, List.cons_append, Nat.div_div_eq_div_mul, Nat.pow_succ, Nat.mul_comm (256 ^ k)]
set_option maxHeartbeats 1000000 in
set_option maxRecDepth 100000 in
theorem rlow_any (n W : Nat) (w : World) (hn : n ≤ 18446744073709551615) (hW : W ≤ 8) :
    Calls Tryz.prog 50 #[.int .u64 (n : Int), .int .i64 (W : Int)] w fun e w' => ∃ ao m cap, e = .returned (.slice ao m cap) ∧ Row ekY w' w.heap.size (.slice ao m cap) (klow W n) ∧ Below w.heap.size w w' := by
  go_enter Tryz.func50, Tryz.ntmps50
  go_wp2
  go_loopw [5, 6] (fun u i wr => ∃ (k : Nat), i = .int .i64 (k : Int) ∧ k ≤ W ∧ Row ekY wr w.heap.size u (klow k n) ∧ Below w.heap.size w wr)
    (fun _ i _ => W - (intOf i).toNat)
  case atStart => exact ⟨0, rfl, by omega, Row.nil _ _ _, Below.refl _ _⟩
  case round =>
    obtain ⟨k, rfl, hk, hown, hnx⟩ := hrel
    have hbs := hnx.size
    have hlen := klow_len k n
    have hbk : ∀ k, u5.ownBlock = some k → w.heap.size ≤ k := fun k hk => (hown.own k hk).1
    by_cases hlt : k < W
    · obtain ⟨c, Hc⟩ : ∃ c, Hid (c = UInt8.ofNat (n / 256 ^ k)) := ⟨_, rfl⟩
      go_wp2_with (at_builtin; refine wpList_appG (by rfl) ekY _ _ (by rfl) w.heap.size _ (klow k n) [c] (by rfl) (kY_alloc hown _) (some ⟨wr.heap.size, 0, none⟩) 1 1 (by rfl) (by rfl) (by intro e; cases e) ?d1 (by decide) ?d2 ?d3 ?_)
      case d1 =>
        refine kbyte_src wr _ _ ?_
        rw [Hc.out, UInt8.toNat_ofNat', show (256 : Nat) = 2 ^ 8 from rfl, ← Nat.pow_mul]
        simp
      case d2 => simp [ekY]; omega
      case d3 => simp; omega
      intro v' w2 h1 h2
      have hB1 : Below w.heap.size w w2 := (hnx.alloc hbs _).grown h2 (by simp; omega) hbk
      go_wp2
      go_roundw
      case rel =>
        refine ⟨k + 1, by go_num, by omega, ?_, hB1⟩
        rw [klow_snoc, ← Hc.out]
        exact h1
      case measure => simp [intOf]; omega
    · obtain ⟨a5, n5, c5, rfl, _⟩ := hown.shape'
      have hkW : k = W := by omega
      subst hkW
      go_wp2
      go_ret
      exact ⟨a5, n5, c5, rfl, hown, hnx⟩
set_option maxHeartbeats 400000 in
theorem rfold_any (n : Int) (w : World) (hl : -9223372036854775808 ≤ n) (hu : n ≤ 9223372036854775807) :
    Calls Tryz.prog 78 #[.int .i64 n] w fun e w' => e = .returned (.int .u64 (foldN n)) ∧ w = w' := by
  by_cases h : n < 0
  · have e : foldN n = -2 * n - 1 := foldN_neg h
    rw [e]
    go_enter Tryz.func78, Tryz.ntmps78
    go_wp2
    go_ret
    exact ⟨kret_int (by omega), rfl⟩
  · rw [foldN_pos (by omega)]
    go_enter Tryz.func78, Tryz.ntmps78
    go_wp2
    go_ret
    exact ⟨kret_int (by omega), rfl⟩
set_option maxHeartbeats 400000 in
set_option maxRecDepth 100000 in
theorem rtold_any (kind : Int) (n : Nat) (w : World) (hn : n ≤ 18446744073709551615) :
    Calls Tryz.prog 49 #[.int .i64 kind, .int .u64 (n : Int)] w fun e w' => e = .returned (.int .u64 ((bitK kind n : Nat) : Int)) ∧ w = w' := by
  by_cases h2 : kind = 2
  · subst h2
    have hw : -9223372036854775808 ≤ IntKind.i64.wrap (n : Int) ∧ IntKind.i64.wrap (n : Int) ≤ 9223372036854775807 := by rw [IntKind.wrap_i64]; omega
    have hf := rfold_any (IntKind.i64.wrap (n : Int)) w hw.1 hw.2
    have h0 := (fold_bd _ hw.1 hw.2).1
    have HN : Hid (((bitK 2 n : Nat) : Int) = foldN (IntKind.i64.wrap (n : Int))) := by
      show _ = _; unfold bitK; rw [if_pos rfl]; omega
    clear h0
    have hwe : wrap64 (n : Int) = IntKind.i64.wrap (n : Int) := by rw [IntKind.wrap_i64, wrap64]
    rw [← hwe] at hf HN
    clear hw hwe
    go_enter Tryz.func49, Tryz.ntmps49
    go_wp2_with fail
    refine hf.mono ?_
    rintro e w1 ⟨rfl, rfl⟩
    go_wp2
    go_ret
    exact ⟨by rw [HN.out]; rfl, rfl⟩
  · have b2 : (kind == 2) = false := beq_eq_false_iff_ne.2 h2
    have e : bitK kind n = n := by unfold bitK; rw [if_neg h2]
    rw [e]
    clear h2
    go_enter Tryz.func49, Tryz.ntmps49
    go_wp2
    go_ret
    exact ⟨rfl, rfl⟩

end L
end Go.Proofs.YthgbiflfinddiaaGreat

/- The document's own answer: How (a map of numbers). -/
namespace Go.Proofs.YthgbiflfinddiaaGreat
namespace L
open Go.RowKit Go.WideMaps Go.Maps
set_option linter.unusedVariables false

theorem rkeyed : Keyed Tryz.prog 3 := int_keyed Tryz.underlying3
theorem rzero (w : World) : (zeroValue 3).run Tryz.prog w = .ok (.int .i64 0) w := by kernel_rfl
abbrev RMap (w : World) (b n : Nat) (D : DataW Unit) : Prop := w.ownsMap Tryz.prog 3 (plainElem (H := Unit) Tryz.prog 3) b n D
/-- An entry of a map that is written out. -/
theorem wpList_entry {w : World} {ops : Array Oper} {rest : List Oper} {o : Oper} {a : Act} {Q : Exit → Act → World → Prop} (hg : o.guard = none) (m x v : Operand) (hop : o.op = Op.insert 90 m x v) (b n : Nat) (D : DataW Unit)
    (hm : a.eval m = .map (some b)) (hown : RMap w b n D) (hn : n < 100) (k c : Int) (hk : -1000 ≤ k ∧ k ≤ 1000) (hc : -1000 ≤ c ∧ c ≤ 1000) (hx : a.eval x = .int .i64 k) (hv : a.eval v = .int .i64 c)
    (hK : ∀ w', RMap w' b (n + 1) (D.put (.int .i64 k) (.lit (.int .i64 c))) → w.grownBy w' (some b) → wpList Tryz.prog ops Q rest (a.put o.dst undef) w') : wpList Tryz.prog ops Q (o :: rest) a w := by
  refine wpList_plain hg fun K' hK' => ?_
  obtain ⟨w', hrun, r1, r2⟩ := hown.update (val := .int .i64 c) rkeyed Tryz.underlying90 (by unfold maxLen; omega) (keyOf_int_mk Tryz.underlying3 (WalkArith.wf_i64 (by omega)) : keyOf Tryz.prog 3 (.int .i64 k) = some (.int .i64 k)) (plainElem_int Tryz.underlying3 (WalkArith.wf_i64 (by omega)))
  unfold Oper.wp
  simp [execOp, hop, hm, hx, hv, hrun, Result.andThen]
  exact hK' _ _ (hK w' r1 r2)
def putD (D : DataW Unit) (k c : Int) : DataW Unit := D.put (.int .i64 k) (.lit (.int .i64 c))
def atD (D : DataW Unit) (k : Int) : DataW Unit := D.atKey (.int .i64 k) (.lit (.int .i64 0))
theorem putD_map {D : DataW Unit} (h : IsMap D) (k c : Int) : IsMap (putD D k c) := by obtain ⟨es, rfl⟩ := h; exact ⟨_, rfl⟩
theorem atD_put {D : DataW Unit} (h : IsMap D) (k c x : Int) : atD (putD D k c) x = if x = k then .lit (.int .i64 c) else atD D x := by
  unfold atD putD
  split
  · rename_i e; subst e; exact atKey_put_same h (show WideAt.IsKeyLit (.int .i64 x) from trivial) _ _
  · rename_i e; exact atKey_put_other (by simpa using e) _ _
theorem hasD_put {D : DataW Unit} (h : IsMap D) (k c x : Int) : Maps.has (putD D k c) (.int .i64 x) = if x = k then true else Maps.has D (.int .i64 x) := by
  unfold putD
  split
  · rename_i e; subst e; exact has_put_same h (show WideAt.IsKeyLit (.int .i64 x) from trivial) _
  · rename_i e; exact has_put_other (by simpa using e) _
def howD : DataW Unit := putD (putD (putD (putD (putD (.map []) 6 1) 7 5) 8 2) 9 2) 10 2
theorem isD0 : IsMap (DataW.map [] : DataW Unit) := ⟨_, rfl⟩
theorem howD_at (x : Int) : atD howD x = .lit (.int .i64 (howN x)) := by
  unfold howD
  rw [atD_put (putD_map (putD_map (putD_map (putD_map isD0 _ _) _ _) _ _) _ _), atD_put (putD_map (putD_map (putD_map isD0 _ _) _ _) _ _), atD_put (putD_map (putD_map isD0 _ _) _ _), atD_put (putD_map isD0 _ _), atD_put isD0]
  unfold howN
  by_cases h6 : x = 6
  · subst h6; rfl
  · by_cases h7 : x = 7
    · subst h7; rfl
    · by_cases h8 : x = 8
      · subst h8; rfl
      · by_cases h9 : x = 9
        · subst h9; rfl
        · by_cases h10 : x = 10
          · subst h10; rfl
          · simp only [h6, h7, h8, h9, h10, if_false, or_self]; rfl
theorem howD_no {x : Int} (h : Maps.has howD (.int .i64 x) = false) : howN x = 0 := by
  unfold howD at h
  rw [hasD_put (putD_map (putD_map (putD_map (putD_map isD0 _ _) _ _) _ _) _ _), hasD_put (putD_map (putD_map (putD_map isD0 _ _) _ _) _ _), hasD_put (putD_map (putD_map isD0 _ _) _ _), hasD_put (putD_map isD0 _ _), hasD_put isD0] at h
  unfold howN
  by_cases h6 : x = 6
  · subst h6; simp at h
  · by_cases h7 : x = 7
    · subst h7; simp at h
    · by_cases h8 : x = 8
      · subst h8; simp at h
      · by_cases h9 : x = 9
        · subst h9; simp at h
        · by_cases h10 : x = 10
          · subst h10; simp at h
          · simp only [h6, h7, h8, h9, h10, if_false, or_self]
def widD : DataW Unit := putD (putD (.map []) 1 8) 5 4
theorem widD_at (x : Int) : atD widD x = .lit (.int .i64 (kwidth x : Nat)) := by
  unfold widD
  rw [atD_put (putD_map isD0 _ _), atD_put isD0]
  unfold kwidth
  by_cases h6 : x = 1
  · subst h6; rfl
  · by_cases h7 : x = 5
    · subst h7; rfl
    · simp only [h6, h7, if_false]; rfl
theorem lit_inj {a b : Int} (h : (DataW.lit (.int .i64 a) : DataW Unit) = .lit (.int .i64 b)) : a = b := by injection h with h1; injection h1
theorem key_i64 (k : Int) (h : -9223372036854775808 ≤ k ∧ k ≤ 9223372036854775807) : keyOf Tryz.prog 3 (.int .i64 k) = some (.int .i64 k) := keyOf_int_mk Tryz.underlying3 (WalkArith.wf_i64 h)
set_option maxHeartbeats 1000000 in
set_option maxRecDepth 100000 in
theorem rhow_any (k : Int) (w : World) (hk : -9223372036854775808 ≤ k ∧ k ≤ 9223372036854775807) : Calls Tryz.prog 19 #[.int .i64 k] w fun e w' => e = .returned (.int .i64 (howN k)) ∧ Below w.heap.size w w' := by
  have hmm := @run_makeMap Tryz.prog
  have hkey := key_i64 k hk
  have hM0 : RMap (w.alloc (.map #[] 0)) w.heap.size 0 (.map []) := World.ownsMap_made w Tryz.prog 3 (plainElem (H := Unit) Tryz.prog 3)
  have hb0 : Below w.heap.size w (w.alloc (.map #[] 0)) := (Below.refl _ _).alloc (Nat.le_refl _) _
  have hs0 : w.heap.size + 1 ≤ (w.alloc (.map #[] 0)).heap.size := by simp
  have hgr : ∀ {V V' : World}, Below w.heap.size w V → V.grownBy V' (some w.heap.size) → Below w.heap.size w V' := fun hV hg => hV.grown hg hV.size (fun j hj => by cases hj; exact Nat.le_refl _)
  go_enter Tryz.func19, Tryz.ntmps19
  go_wp2_with (first | (refine wpList_entry rfl _ _ _ rfl w.heap.size 0 _ rfl hM0 (by omega) 6 1 (by omega) (by omega) rfl rfl ?_; intro w1 h1 g1) | (refine wpList_entry rfl _ _ _ rfl w.heap.size 1 _ rfl h1 (by omega) 7 5 (by omega) (by omega) rfl rfl ?_; intro w2 h2 g2) | (refine wpList_entry rfl _ _ _ rfl w.heap.size 2 _ rfl h2 (by omega) 8 2 (by omega) (by omega) rfl rfl ?_; intro w3 h3 g3) | (refine wpList_entry rfl _ _ _ rfl w.heap.size 3 _ rfl h3 (by omega) 9 2 (by omega) (by omega) rfl rfl ?_; intro w4 h4 g4) | (refine wpList_entry rfl _ _ _ rfl w.heap.size 4 _ rfl h4 (by omega) 10 2 (by omega) (by omega) rfl rfl ?_; intro w5 h5 g5) | (at_lookup; refine wpList_lookup_own_ok_int _ rfl _ _ 90 rfl 3 3 .i64 rkeyed Tryz.underlying90 Tryz.underlying3 (rzero _) w.heap.size 5 howD rfl h5 _ _ rfl hkey ?_; intro c hat hwc))

  · have hb5 : Below w.heap.size w w5 := hgr (hgr (hgr (hgr (hgr hb0 g1) g2) g3) g4) g5
    rename_i hn
    have h0 : howN k = 0 := howD_no (by simpa using hn)
    clear h1 h2 h3 h4 h5 g1 g2 g3 g4 g5 hgr hM0 hb0 hs0
    go_ret
    exact ⟨ret_int h0.symm, hb5⟩
  · have hb5 : Below w.heap.size w w5 := hgr (hgr (hgr (hgr (hgr hb0 g1) g2) g3) g4) g5
    have hc : c = howN k := lit_inj (hat.symm.trans (howD_at k))
    clear h1 h2 h3 h4 h5 g1 g2 g3 g4 g5 hgr hM0 hb0 hs0
    go_ret
    exact ⟨ret_int hc, hb5⟩

end L
end Go.Proofs.YthgbiflfinddiaaGreat

/- The document's own answer: One, of what is not Sized. -/
namespace Go.Proofs.YthgbiflfinddiaaGreat
namespace L
open Go.RowKit
set_option linter.unusedVariables false

set_option maxHeartbeats 4000000 in
set_option maxRecDepth 100000 in
theorem roneX_any {w : World} {v : Value} {l : List UInt8} (h : RdL 1 YAt w v l) (num how : Int) (bits : Nat) (hb : bits ≤ 18446744073709551615) (hl : l.length ≤ 1000000000000) (h1 : 0 ≤ num) (h2 : num ≤ 536870912) (hh : how = 0 ∨ how = 1 ∨ how = 2 ∨ how = 5) (e2 : ¬ how = 2) :
    Calls Tryz.prog 52 #[.agg #[.int .i64 num, .int .i64 how, .int .u64 (bits : Int), v]] w fun e w' => ∃ ao n cap, e = .returned (.slice ao n cap) ∧ Row ekY w' w.heap.size (.slice ao n cap) (recN num how bits l) ∧ Below w.heap.size w w' := by
  obtain ⟨a1, n1, c1, rfl, H1, hn1⟩ := h.shape
  obtain ⟨W0, HW0⟩ : ∃ W0, Hid (W0 = w.alloc (.cells #[.int .i64 num, .int .i64 how, .int .u64 (bits : Int), .slice a1 n1 c1] 104)) := ⟨_, rfl⟩
  have hb0 : Below w.heap.size w W0 := by rw [HW0.out]; exact (Below.refl _ _).alloc (Nat.le_refl _) _
  have hz0 : w.heap.size + 1 ≤ W0.heap.size := by rw [HW0.out]; simp
  have x0 : W0.heap[w.heap.size]? = some (.cells #[.int .i64 num, .int .i64 how, .int .u64 (bits : Int), .slice a1 n1 c1] 104 (0, 0)) := by rw [HW0.out]; exact heap_alloc_new _ _
  have hT := ktagN_len num how
  have hh1 : 0 ≤ how := by omega
  have hh2 : how ≤ 7 := by omega
  have htg := rnum_any (num.toNat * 8 + how.toNat) W0 (by omega)
  rw [show (((num.toNat * 8 + how.toNat : Nat)) : Int) = 8 * num + how by omega] at htg
  have htg : Calls Tryz.prog 46 #[.int .u64 (8 * num + how)] W0 fun e w' => ∃ ao m cap, e = .returned (.slice ao m cap) ∧ Row ekY w' W0.heap.size (.slice ao m cap) (ktagN num how) ∧ Below W0.heap.size W0 w' := htg
  obtain ⟨X, HX⟩ : ∃ X, Hid (X = kputB how bits) := ⟨_, rfl⟩
  have HN : Hid (recN num how bits l = ktagN num how ++ X) := by show _ = _; unfold recN; rw [if_neg e2, HX.out]
  have hXl : X.length ≤ 10 := by rw [HX.out]; exact kputB_len _ _
  rcases hh with e0 | e0 | e0 | e0
  · have b0 : (how == 0) = true := by simp [e0]
    have hq : ∀ V, Calls Tryz.prog 46 #[.int .u64 (bits : Int)] V fun e w' => ∃ ao m cap, e = .returned (.slice ao m cap) ∧ Row ekY w' V.heap.size (.slice ao m cap) X ∧ Below V.heap.size V w' := fun V => by rw [HX.out, e0]; exact rnum_any bits V hb
    clear HX e2 e0
    go_enter Tryz.func52, Tryz.ntmps52
    go_wp2_with fail
    rw [← HW0.out]
    refine htg.mono ?_
    rintro e w1 ⟨a2, n2, c2, rfl, hr1, hB1⟩
    obtain ⟨t0, t1, t2, t3⟩ := blk4 ((hB1.block _ (by omega)).trans x0)
    have hq1 := hq w1
    clear htg hq
    go_wp2_with fail
    refine hq1.mono ?_
    rintro e w3 ⟨a3, n3, c3, rfl, hr3, hb3⟩
    have hB3 := KBT hB1 hb3
    have hr13 := hr1.below hb3
    obtain ⟨q1, q2, q3⟩ := ksrcY hr3.rdY
    clear hq1
    go_wp2_with (at_builtin; refine wpList_appG (by rfl) ekY _ _ (by rfl) W0.heap.size (.slice a2 n2 c2) _ X (by rfl) hr13 a3 n3 c3 (by rfl) q1 q2 q3 (by decide) ?d2 hB3.size ?_)
    case d2 =>
      rw [show ekY.bytes = 1 from rfl, Nat.mul_one]
      omega
    intro v' w5 hr5 hg5
    obtain ⟨a5, n5, c5, rfl, _⟩ := hr5.shape'
    have hB5 : Below W0.heap.size W0 w5 := hB3.grown hg5 hB3.size (fun k hk => (hr13.own k hk).1)
    go_wp2
    go_ret
    exact ⟨a5, n5, c5, rfl, by rw [HN.out]; exact hr5.mono (by omega), KBT hb0 hB5⟩
  · have b0 : (how == 0) = false := by simp [e0]
    have b1 : (how == 1) = true := by simp [e0]
    have hq : ∀ V, Calls Tryz.prog 50 #[.int .u64 (bits : Int), .int .i64 8] V fun e w' => ∃ ao m cap, e = .returned (.slice ao m cap) ∧ Row ekY w' V.heap.size (.slice ao m cap) X ∧ Below V.heap.size V w' := fun V => by rw [HX.out, e0]; exact rlow_any bits 8 V hb (by omega)
    clear HX e2 e0
    go_enter Tryz.func52, Tryz.ntmps52
    go_wp2_with fail
    rw [← HW0.out]
    refine htg.mono ?_
    rintro e w1 ⟨a2, n2, c2, rfl, hr1, hB1⟩
    obtain ⟨t0, t1, t2, t3⟩ := blk4 ((hB1.block _ (by omega)).trans x0)
    have hq1 := hq w1
    clear htg hq
    go_wp2_with fail
    refine hq1.mono ?_
    rintro e w3 ⟨a3, n3, c3, rfl, hr3, hb3⟩
    have hB3 := KBT hB1 hb3
    have hr13 := hr1.below hb3
    obtain ⟨q1, q2, q3⟩ := ksrcY hr3.rdY
    clear hq1
    go_wp2_with (at_builtin; refine wpList_appG (by rfl) ekY _ _ (by rfl) W0.heap.size (.slice a2 n2 c2) _ X (by rfl) hr13 a3 n3 c3 (by rfl) q1 q2 q3 (by decide) ?d2 hB3.size ?_)
    case d2 =>
      rw [show ekY.bytes = 1 from rfl, Nat.mul_one]
      omega
    intro v' w5 hr5 hg5
    obtain ⟨a5, n5, c5, rfl, _⟩ := hr5.shape'
    have hB5 : Below W0.heap.size W0 w5 := hB3.grown hg5 hB3.size (fun k hk => (hr13.own k hk).1)
    go_wp2
    go_ret
    exact ⟨a5, n5, c5, rfl, by rw [HN.out]; exact hr5.mono (by omega), KBT hb0 hB5⟩
  · exact absurd e0 e2
  · have b0 : (how == 0) = false := by simp [e0]
    have b1 : (how == 1) = false := by simp [e0]
    have b5 : (how == 5) = true := by simp [e0]
    have hq : ∀ V, Calls Tryz.prog 50 #[.int .u64 (bits : Int), .int .i64 4] V fun e w' => ∃ ao m cap, e = .returned (.slice ao m cap) ∧ Row ekY w' V.heap.size (.slice ao m cap) X ∧ Below V.heap.size V w' := fun V => by rw [HX.out, e0]; exact rlow_any bits 4 V hb (by omega)
    clear HX e2 e0
    go_enter Tryz.func52, Tryz.ntmps52
    go_wp2_with fail
    rw [← HW0.out]
    refine htg.mono ?_
    rintro e w1 ⟨a2, n2, c2, rfl, hr1, hB1⟩
    obtain ⟨t0, t1, t2, t3⟩ := blk4 ((hB1.block _ (by omega)).trans x0)
    have hq1 := hq w1
    clear htg hq
    go_wp2_with fail
    refine hq1.mono ?_
    rintro e w3 ⟨a3, n3, c3, rfl, hr3, hb3⟩
    have hB3 := KBT hB1 hb3
    have hr13 := hr1.below hb3
    obtain ⟨q1, q2, q3⟩ := ksrcY hr3.rdY
    clear hq1
    go_wp2_with (at_builtin; refine wpList_appG (by rfl) ekY _ _ (by rfl) W0.heap.size (.slice a2 n2 c2) _ X (by rfl) hr13 a3 n3 c3 (by rfl) q1 q2 q3 (by decide) ?d2 hB3.size ?_)
    case d2 =>
      rw [show ekY.bytes = 1 from rfl, Nat.mul_one]
      omega
    intro v' w5 hr5 hg5
    obtain ⟨a5, n5, c5, rfl, _⟩ := hr5.shape'
    have hB5 : Below W0.heap.size W0 w5 := hB3.grown hg5 hB3.size (fun k hk => (hr13.own k hk).1)
    go_wp2
    go_ret
    exact ⟨a5, n5, c5, rfl, by rw [HN.out]; exact hr5.mono (by omega), KBT hb0 hB5⟩

end L
end Go.Proofs.YthgbiflfinddiaaGreat

/- The document's own answer: One, a record's bytes. -/
namespace Go.Proofs.YthgbiflfinddiaaGreat
namespace L
open Go.RowKit
set_option linter.unusedVariables false

set_option maxHeartbeats 1000000 in
set_option maxRecDepth 100000 in
theorem rone2_any {w : World} {v : Value} {l : List UInt8} (h : RdL 1 YAt w v l) (num how : Int) (bits : Nat) (hb : bits ≤ 18446744073709551615) (hl : l.length ≤ 1000000000000) (h1 : 0 ≤ num) (h2 : num ≤ 536870912) (e2 : how = 2) :
    Calls Tryz.prog 52 #[.agg #[.int .i64 num, .int .i64 how, .int .u64 (bits : Int), v]] w fun e w' => ∃ ao n cap, e = .returned (.slice ao n cap) ∧ Row ekY w' w.heap.size (.slice ao n cap) (recN num how bits l) ∧ Below w.heap.size w w' := by
  obtain ⟨a1, n1, c1, rfl, H1, hn1⟩ := h.shape
  obtain ⟨W0, HW0⟩ : ∃ W0, Hid (W0 = w.alloc (.cells #[.int .i64 num, .int .i64 how, .int .u64 (bits : Int), .slice a1 n1 c1] 104)) := ⟨_, rfl⟩
  have hb0 : Below w.heap.size w W0 := by rw [HW0.out]; exact (Below.refl _ _).alloc (Nat.le_refl _) _
  have hz0 : w.heap.size + 1 ≤ W0.heap.size := by rw [HW0.out]; simp
  have x0 : W0.heap[w.heap.size]? = some (.cells #[.int .i64 num, .int .i64 how, .int .u64 (bits : Int), .slice a1 n1 c1] 104 (0, 0)) := by rw [HW0.out]; exact heap_alloc_new _ _
  have hT := ktagN_len num how
  have hh1 : 0 ≤ how := by omega
  have hh2 : how ≤ 7 := by omega
  have htg0 := rnum_any (num.toNat * 8 + how.toNat) W0 (by omega)
  rw [show (((num.toNat * 8 + how.toNat : Nat)) : Int) = 8 * num + how by omega] at htg0
  have htg : Calls Tryz.prog 46 #[.int .u64 (8 * num + how)] W0 fun e w' => ∃ ao m cap, e = .returned (.slice ao m cap) ∧ Row ekY w' W0.heap.size (.slice ao m cap) (ktagN num how) ∧ Below W0.heap.size W0 w' := htg0
  clear htg0
  have HN : Hid (recN num how bits l = ktagN num how ++ putN l.length ++ l) := by show _ = _; unfold recN; rw [if_pos e2, List.append_assoc]
  have b0 : (how == 0) = false := by simp [e2]
  have b1 : (how == 1) = false := by simp [e2]
  have b5 : (how == 5) = false := by simp [e2]
  have hP := kputN_len l.length
  clear e2
  go_enter Tryz.func52, Tryz.ntmps52
  go_wp2_with fail
  rw [← HW0.out]
  refine htg.mono ?_
  rintro e w1 ⟨a2, n2, c2, rfl, hr1, hB1⟩
  obtain ⟨t0, t1, t2, t3⟩ := blk4 ((hB1.block _ (by omega)).trans x0)
  have hbw1 : Below w.heap.size w w1 := KBT hb0 hB1
  have hsz1 := hB1.size
  have hpu : ∀ V, Below w1.heap.size w1 V → Calls Tryz.prog 46 #[.int .u64 (IntKind.u64.wrap (n1 : Int))] V fun e w' => ∃ ao m cap, e = .returned (.slice ao m cap) ∧ Row ekY w' V.heap.size (.slice ao m cap) (putN l.length) ∧ Below V.heap.size V w' := fun V hV => by
    have := rnum_any l.length V (by rw [← H1.out]; omega)
    rw [show IntKind.u64.wrap (n1 : Int) = (n1 : Int) by rw [IntKind.wrap_u64]; omega]
    rw [← H1.out] at this ⊢
    exact this
  have hcl : ∀ V, Below W0.heap.size W0 V → Below W0.heap.size W0 V ∧ V.cell? ⟨w.heap.size, 3, none⟩ = some (.slice a1 n1 c1) := fun V hV => ⟨hV, (blk4 ((hV.block _ (by omega)).trans x0)).2.2.2⟩
  have hd : Below w1.heap.size w1 w1.drew := (Below.refl _ _).drew
  have hd' : Below W0.heap.size W0 w1.drew := hB1.drew
  have hpd := hpu w1.drew hd
  have hsrc : ∀ V, Below w.heap.size w V → a1 = none ∨ True → l.length = n1 ∧ (a1 = none → n1 = 0 ∧ c1 = 0) ∧ ∀ ad, a1 = some ad → ∀ k y, l[k]? = some y → ∀ j u, (ekY.enc y)[j]? = some u → V.cell? (ad.add (k * ekY.size + j)) = some u := fun V hV _ => ksrcY (h.below YAt.stays hV)
  clear htg hpu
  go_wp2_with fail
  go_region_held3 (fun V => Below W0.heap.size W0 V ∧ V.cell? ⟨w.heap.size, 3, none⟩ = some (.slice a1 n1 c1)) ((with_reducible refine hcl _ ?_; with_reducible (first | exact hd' | exact hB3 | exact hB4 | exact hB5))) ((first | (go_at_call 46; refine hpd.mono ?_; rintro e w3 ⟨a3, n3, c3, rfl, hr3, hb3⟩; have hB3 := KBT hd' hb3; have hr13 := (hr1.below hd).below hb3; have hs3 := ksrcY hr3.rdY) | (refine step_appG (by rfl) ekY _ _ (by rfl) W0.heap.size (.slice a2 n2 c2) (ktagN num how) (putN l.length) (by rfl) hr13 a3 n3 c3 (by rfl) hs3.1 hs3.2.1 hs3.2.2 (by decide) (by rw [show ekY.bytes = 1 from rfl, Nat.mul_one]; omega) hB3.size ?_; intro v4 w4 hr4 hg4; obtain ⟨a4, n4, c4, rfl, H4⟩ := hr4.shape'; have hB4 : Below W0.heap.size W0 w4 := hB3.grown hg4 hB3.size (fun k hk => (hr13.own k hk).1); have hs4 := hsrc w4 (KBT hb0 hB4) (.inr trivial)) | (refine step_appG (by rfl) ekY _ _ (by rfl) W0.heap.size (.slice a4 n4 c4) (ktagN num how ++ putN l.length) l (by rfl) hr4 a1 n1 c1 (by rfl) hs4.1 hs4.2.1 hs4.2.2 (by decide) (by rw [show ekY.bytes = 1 from rfl, Nat.mul_one, List.length_append]; omega) hB4.size ?_; intro v5 w5 hr5 hg5; obtain ⟨a5, n5, c5, rfl, H5⟩ := hr5.shape'; have hB5 : Below W0.heap.size W0 w5 := hB4.grown hg5 hB4.size (fun k hk => (hr4.own k hk).1))))
  all_goals
    have hr5' : Row ekY w5 w.heap.size (.slice a5 n5 c5) (recN num how bits l) := by rw [HN.out]; exact hr5.mono (by omega)
    clear hr5 hr4 hr3 hr1 hr13
    go_wp2
    go_ret
    exact ⟨a5, n5, c5, rfl, hr5', KBT hb0 hB5⟩
theorem rone_any {w : World} {v : Value} {l : List UInt8} (h : RdL 1 YAt w v l) (num how : Int) (bits : Nat) (hb : bits ≤ 18446744073709551615) (hl : l.length ≤ 1000000000000) (h1 : 0 ≤ num) (h2 : num ≤ 536870912) (hh : how = 0 ∨ how = 1 ∨ how = 2 ∨ how = 5) :
    Calls Tryz.prog 52 #[.agg #[.int .i64 num, .int .i64 how, .int .u64 (bits : Int), v]] w fun e w' => ∃ ao n cap, e = .returned (.slice ao n cap) ∧ Row ekY w' w.heap.size (.slice ao n cap) (recN num how bits l) ∧ Below w.heap.size w w' := by
  by_cases e2 : how = 2
  · exact rone2_any h num how bits hb hl h1 h2 e2
  · exact roneX_any h num how bits hb hl h1 h2 hh e2

end L
end Go.Proofs.YthgbiflfinddiaaGreat

