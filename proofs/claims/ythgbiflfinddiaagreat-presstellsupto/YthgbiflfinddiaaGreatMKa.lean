import Derived.Test.YthgbiflfinddiaaGreatKMem
import Derived.Test.YthgbiflfinddiaaGreatBMem
import Derived.Test.YthgbiflfinddiaaGreatWPure
import Derived.Test.YthgbiflfinddiaaGreatBWire
/- Package wire, for package press: Put, Tag, putBits, Packed, onto a list of bytes that the call made. -/
namespace Go.Proofs.YthgbiflfinddiaaGreat
namespace L
open Go.RowKit

theorem kret_int {k : IntKind} {a b : Int} (h : a = b) : Ending.returned (.int k a) = .returned (.int k b) := by rw [h]
theorem kbyte_src (w : World) (c : UInt8) (x : Int) (hx : x = (c.toNat : Int)) : ∀ ad, some (⟨w.heap.size, 0, none⟩ : Addr) = some ad → ∀ k y, [c][k]? = some y → ∀ j u, (ekY.enc y)[j]? = some u → (w.alloc (.cells #[.int .u8 x] 5)).cell? (ad.add (k * ekY.size + j)) = some u := by
  subst hx
  exact kone_src ekY w c
theorem kput_f2 {f m : Nat} (hf : m < 2 ^ (7 * f)) (hs : ¬ m < 128) : 2 ≤ f := by
  rcases Nat.lt_or_ge f 2 with h | h
  · have h1 : 2 ^ (7 * f) ≤ 2 ^ 7 := Nat.pow_le_pow_right (by decide) (by omega)
    have h2 : (2 : Nat) ^ 7 = 128 := rfl
    omega
  · exact h
theorem kput_down {f m : Nat} (hf : m < 2 ^ (7 * (f + 1))) : m / 128 < 2 ^ (7 * f) := by
  rw [show 7 * (f + 1) = 7 * f + 7 by omega, Nat.pow_add] at hf
  have h2 : (2 : Nat) ^ 7 = 128 := rfl
  rw [h2] at hf
  omega
theorem kY_alloc {w : World} {base : Nat} {v : Value} {l : List UInt8} (h : Row ekY w base v l) (o : Obj) : Row ekY (w.alloc o) base v l := h.below ((Below.refl _ _).alloc (Nat.le_refl _) _)

set_option maxHeartbeats 1000000 in
set_option maxRecDepth 100000 in
theorem kput_any (base : Nat) (v : Value) (l : List UInt8) (n : Nat) (w : World) (hv : Row ekY w base v l) (hb : base ≤ w.heap.size) (hn : n ≤ 18446744073709551615) (hl : l.length ≤ 10000000000000) :
    Calls Tryz.prog 132 #[v, .int .u64 (n : Int)] w fun e w' => ∃ v', e = .returned v' ∧ Row ekY w' base v' (l ++ putN n) ∧ Below base w w' := by
  have H0 : Hid (l ++ putF 10 n = l ++ putN n) := rfl
  go_enter Tryz.func132, Tryz.ntmps132
  go_wp2
  go_loopw [0, 1] (fun u i wr => ∃ (f m : Nat) (l' : List UInt8), i = .int .u64 (m : Int) ∧ m ≤ 18446744073709551615 ∧ Hid (m < 2 ^ (7 * (f + 1))) ∧ f ≤ 9 ∧ l'.length + f ≤ l.length + 10 ∧ Row ekY wr base u l' ∧ Below base w wr ∧ base ≤ wr.heap.size ∧ Hid (l' ++ putF (f + 1) m = l ++ putN n))
    (fun _ i _ => (intOf i).toNat)
  case atStart => exact ⟨9, n, l, rfl, hn, by show n < 2 ^ (7 * 10); omega, Nat.le_refl _, by omega, hv, Below.refl _ _, hb, H0⟩
  case round =>
    obtain ⟨f, m, l', rfl, hm, hf, hf10, hlen, hown, hnx, hbs, HR⟩ := hrel
    have hbk : ∀ k, u0.ownBlock = some k → base ≤ k := fun k hk => (hown.own k hk).1
    by_cases hs : m < 128
    · go_wp2_with (at_builtin; refine wpList_appG (by rfl) ekY _ _ (by rfl) base _ l' [UInt8.ofNat m] (by rfl) (kY_alloc hown _) (some ⟨wr.heap.size, 0, none⟩) 1 1 (by rfl) (by rfl) (by intro e; cases e) ?c1 (by decide) ?c2 ?c3 ?_)
      case c1 =>
        refine kbyte_src wr _ _ ?_
        simp
        omega
      case c2 => simp [ekY]; omega
      case c3 => simp; omega
      intro v' w1 h1 h2
      go_wp2
      go_ret
      refine ⟨v', rfl, ?_, (hnx.alloc hbs _).grown h2 (by simp; omega) hbk⟩
      rw [← HR.out, putF_end hs]
      exact h1
    · obtain ⟨c, Hc⟩ : ∃ c, Hid (c = UInt8.ofNat (m % 128 + 128)) := ⟨_, rfl⟩
      go_wp2_with (at_builtin; refine wpList_appG (by rfl) ekY _ _ (by rfl) base _ l' [c] (by rfl) (kY_alloc hown _) (some ⟨wr.heap.size, 0, none⟩) 1 1 (by rfl) (by rfl) (by intro e; cases e) ?d1 (by decide) ?d2 ?d3 ?_)
      case d1 =>
        refine kbyte_src wr _ _ ?_
        rw [Hc.out, ← put_more, IntKind.wrap_u8]
      case d2 => simp [ekY]; omega
      case d3 => simp; omega
      intro v' w1 h1 h2
      have hB1 : Below base w w1 := (hnx.alloc hbs _).grown h2 (by simp; omega) hbk
      go_wp2
      go_roundw
      case rel =>
        have hf2 := kput_f2 hf.out hs
        obtain ⟨g, rfl⟩ : ∃ g, f = g + 1 := ⟨f - 1, by omega⟩
        refine ⟨g, m / 128, l' ++ [c], by go_num, by omega, kput_down hf.out, by omega, by simp; omega, h1, hB1, Nat.le_trans hb hB1.size, ?_⟩
        show _ = _
        rw [← HR.out, putF_go hs, List.append_assoc, Hc.out]
        rfl
      case measure => simp [intOf]; omega

end L
end Go.Proofs.YthgbiflfinddiaaGreat

/- Tag, putBits, Packed; Fold, Bits; sized. -/
namespace Go.Proofs.YthgbiflfinddiaaGreat
namespace L
open Go.RowKit

def kwidth (h : Int) : Nat := if h = 1 then 8 else if h = 5 then 4 else 0
set_option maxHeartbeats 400000 in
theorem kwidth_any (h : Int) (w : World) :
    Calls Tryz.prog 145 #[.int .i64 h] w fun e w' => e = .returned (.int .i64 (kwidth h)) ∧ w = w' := by
  by_cases k : h = 1 ∨ h = 5
  · rcases k with rfl | rfl
    all_goals
      go_enter Tryz.func145, Tryz.ntmps145
      go_wp2
      go_ret
      exact ⟨rfl, rfl⟩
  · have e : kwidth h = 0 := by unfold kwidth; rw [if_neg (by omega), if_neg (by omega)]
    rw [e]
    have b1 : (h == 1) = false := beq_eq_false_iff_ne.2 (by omega)
    have b5 : (h == 5) = false := beq_eq_false_iff_ne.2 (by omega)
    clear e
    go_enter Tryz.func145, Tryz.ntmps145
    go_wp2
    go_ret
    exact ⟨rfl, rfl⟩
set_option maxHeartbeats 400000 in
theorem kfold_any (n : Int) (w : World) (hl : -9223372036854775808 ≤ n) (hu : n ≤ 9223372036854775807) :
    Calls Tryz.prog 147 #[.int .i64 n] w fun e w' => e = .returned (.int .u64 (foldN n)) ∧ w = w' := by
  go_enter Tryz.func147, Tryz.ntmps147
  go_wp2
  · go_ret
    exact ⟨kret_int (fold_walk_neg n hl ‹_›), rfl⟩
  · go_ret
    exact ⟨kret_int (by rw [foldN_pos ‹_›]; omega), rfl⟩
/-- The low bytes of a number, the lowest one first. -/
def klow : Nat → Nat → List UInt8
  | 0, _ => []
  | k + 1, n => UInt8.ofNat n :: klow k (n / 256)
theorem klow_len (k n : Nat) : (klow k n).length = k := by
  induction k generalizing n with
  | zero => rfl
  | succ k ih => rw [klow, List.length_cons, ih]
def ktagN (num how : Int) : List UInt8 := putN (num.toNat * 8 + how.toNat)
def kputB (how : Int) (n : Nat) : List UInt8 := if how = 0 then putN n else klow (kwidth how) n
theorem kputN_len (n : Nat) : (putN n).length ≤ 10 := putF_len 10 n
theorem kputB_len (how : Int) (n : Nat) : (kputB how n).length ≤ 10 := by
  unfold kputB
  split
  · exact kputN_len n
  · rw [klow_len]; unfold kwidth; split
    · omega
    · split <;> omega
set_option maxHeartbeats 400000 in
theorem ktag_any (base : Nat) (v : Value) (l : List UInt8) (num how : Int) (w : World) (hv : Row ekY w base v l) (hb : base ≤ w.heap.size) (h1 : 0 ≤ num) (h2 : num ≤ 536870912) (h3 : 0 ≤ how) (h4 : how ≤ 7) (hl : l.length ≤ 10000000000000) :
    Calls Tryz.prog 131 #[v, .int .i64 num, .int .i64 how] w fun e w' => ∃ v', e = .returned v' ∧ Row ekY w' base v' (l ++ ktagN num how) ∧ Below base w w' := by
  go_enter Tryz.func131, Tryz.ntmps131
  go_wp2_with fail
  rw [show num * 8 + how = ((num.toNat * 8 + how.toNat : Nat) : Int) by omega]
  refine (kput_any base v l _ _ hv hb (by omega) hl).mono ?_
  rintro e w1 ⟨v1, rfl, ho, hbl⟩
  go_wp2
  go_ret
  exact ⟨v1, rfl, ho, hbl⟩
set_option maxHeartbeats 1000000 in
set_option maxRecDepth 100000 in
theorem kputBits_any (base : Nat) (v : Value) (l : List UInt8) (how : Int) (n : Nat) (w : World) (hv : Row ekY w base v l) (hb : base ≤ w.heap.size) (hn : n ≤ 18446744073709551615) (hl : l.length ≤ 10000000000000) :
    Calls Tryz.prog 134 #[v, .int .i64 how, .int .u64 (n : Int)] w fun e w' => ∃ v', e = .returned v' ∧ Row ekY w' base v' (l ++ kputB how n) ∧ Below base w w' := by
  by_cases h0 : how = 0
  · unfold kputB
    rw [if_pos h0]
    subst h0
    go_enter Tryz.func134, Tryz.ntmps134
    go_wp2_with (go_at_call 132; refine (kput_any base v l n _ hv hb hn (by omega)).mono ?_; rintro e w1 ⟨v1, rfl, ho, hbl⟩)
    go_ret
    exact ⟨v1, rfl, ho, hbl⟩
  · unfold kputB
    rw [if_neg h0]
    have b0 : (how == 0) = false := beq_eq_false_iff_ne.2 h0
    obtain ⟨W, HW⟩ : ∃ W, Hid (W = kwidth how) := ⟨_, rfl⟩
    have hW8 : W ≤ 8 := by rw [HW.out]; unfold kwidth; split <;> (try split) <;> omega
    clear h0
    rw [← HW.out]
    go_enter Tryz.func134, Tryz.ntmps134
    go_wp2_with (go_at_call 145; refine (kwidth_any how _).mono ?_; rintro e w1 ⟨rfl, rfl⟩; rw [← HW.out])
    go_loopw [0, 2, 14] (fun u n' i wr => ∃ (k m : Nat) (l' : List UInt8), i = .int .i64 (k : Int) ∧ k ≤ W ∧ n' = .int .u64 (m : Int) ∧ m ≤ 18446744073709551615 ∧ l'.length = l.length + k ∧ Row ekY wr base u l' ∧ Below base w wr ∧ base ≤ wr.heap.size ∧ Hid (l' ++ klow (W - k) m = l ++ klow W n))
      (fun _ _ i _ => W - (intOf i).toNat)
    case atStart => exact ⟨0, n, l, rfl, by omega, rfl, hn, rfl, hv, Below.refl _ _, hb, rfl⟩
    case round =>
      obtain ⟨k, m, l', rfl, hk, rfl, hm, hlen, hown, hnx, hbs, HR⟩ := hrel
      have hbk : ∀ k, u0.ownBlock = some k → base ≤ k := fun k hk => (hown.own k hk).1
      by_cases hlt : k < W
      · obtain ⟨c, Hc⟩ : ∃ c, Hid (c = UInt8.ofNat m) := ⟨_, rfl⟩
        go_wp2_with (at_builtin; refine wpList_appG (by rfl) ekY _ _ (by rfl) base _ l' [c] (by rfl) (kY_alloc hown _) (some ⟨wr.heap.size, 0, none⟩) 1 1 (by rfl) (by rfl) (by intro e; cases e) ?d1 (by decide) ?d2 ?d3 ?_)
        case d1 =>
          refine kbyte_src wr _ _ ?_
          rw [Hc.out, UInt8.toNat_ofNat']
          simp
        case d2 => simp [ekY]; omega
        case d3 => simp; omega
        intro v' w2 h1 h2
        have hB1 : Below base w w2 := (hnx.alloc hbs _).grown h2 (by simp; omega) hbk
        go_wp2
        go_roundw
        case rel =>
          refine ⟨k + 1, m / 256, l' ++ [c], by go_num, by omega, by go_num, by omega, by simp; omega, h1, hB1, Nat.le_trans hb hB1.size, ?_⟩
          show _ = _
          rw [← HR.out, show W - k = W - (k + 1) + 1 by omega, klow, List.append_assoc, Hc.out]
          rfl
        case measure => simp [intOf]; omega
      · go_wp2
        go_ret
        refine ⟨_, rfl, ?_, hnx⟩
        rw [← HR.out, show W - k = 0 by omega, klow, List.append_nil]
        exact hown

def khasB (how : Int) : Bool := isHowB how && decide (how ≠ 2)
set_option maxHeartbeats 400000 in
theorem khas_any (h : Int) (w : World) : Calls Tryz.prog 133 #[.int .i64 h] w fun e w' => e = .returned (.bool (khasB h)) ∧ w = w' := by
  have hi := isHow_any h w
  cases hq : isHowB h with
  | false =>
    have HN : Hid (khasB h = false) := by show _ = _; unfold khasB; rw [hq]; rfl
    rw [hq] at hi
    clear hq
    go_enter Tryz.func133, Tryz.ntmps133
    go_wp2_with fail
    refine hi.mono ?_
    rintro e w1 ⟨rfl, rfl⟩
    go_wp2
    go_ret
    exact ⟨by rw [HN.out]; rfl, rfl⟩
  | true =>
    obtain ⟨q, hq2⟩ : ∃ q, (h != 2) = q := ⟨_, rfl⟩
    have HN : Hid (khasB h = q) := by show _ = _; unfold khasB; rw [hq, ← hq2, Bool.eq_iff_iff]; simp
    rw [hq] at hi
    clear hq
    cases q
    all_goals
      go_enter Tryz.func133, Tryz.ntmps133
      go_wp2_with fail
      refine hi.mono ?_
      rintro e w1 ⟨rfl, rfl⟩
      go_wp2
      go_ret
      exact ⟨by rw [HN.out]; rfl, rfl⟩

end L
end Go.Proofs.YthgbiflfinddiaaGreat

/- Packed, Bits, sized. -/
namespace Go.Proofs.YthgbiflfinddiaaGreat
namespace L
open Go.RowKit

def packedN (how : Int) (l : List Nat) : List UInt8 := if khasB how = true then l.flatMap (kputB how) else []
def bitK (kind : Int) (n : Nat) : Nat := if kind = 2 then (foldN (IntKind.i64.wrap (n : Int))).toNat else n
def sizedN (num : Int) (ls : List (List UInt8)) : List UInt8 := ls.flatMap fun b => ktagN num 2 ++ putN b.length ++ b
theorem flat_snoc {α β : Type} {f : α → List β} {l : List α} {k : Nat} {a : α} (h : l[k]? = some a) : (l.take (k + 1)).flatMap f = (l.take k).flatMap f ++ f a := by
  rw [take_snoc h, List.flatMap_append]; simp
theorem flat_le {α β : Type} {f : α → List β} {l : List α} {c : Nat} (h : ∀ a ∈ l, (f a).length ≤ c) : (l.flatMap f).length ≤ l.length * c := by
  induction l with
  | nil => simp
  | cons a r ih =>
    rw [List.flatMap_cons, List.length_append, List.length_cons, Nat.succ_mul]
    have h1 := h a (by simp)
    have h2 := ih fun b hb => h b (List.mem_cons_of_mem _ hb)
    omega
theorem flat_take_le {α β : Type} (f : α → List β) (l : List α) (k : Nat) : ((l.take k).flatMap f).length ≤ (l.flatMap f).length := by
  conv => rhs; rw [← List.take_append_drop k l, List.flatMap_append, List.length_append]
  omega
theorem ksrcY {w : World} {ao : Option Addr} {n cap : Nat} {l : List UInt8} (h : RdL 1 YAt w (.slice ao n cap) l) : l.length = n ∧ (ao = none → n = 0 ∧ cap = 0) ∧ ∀ ad, ao = some ad → ∀ k y, l[k]? = some y → ∀ j u, (ekY.enc y)[j]? = some u → w.cell? (ad.add (k * ekY.size + j)) = some u := by
  obtain ⟨ao', n', cap', e, h1, _, _, h4, h5⟩ := h
  cases e
  refine ⟨h1, h4, fun ad had k y hy j u hu => ?_⟩
  have hj : j = 0 := by
    cases j with
    | zero => rfl
    | succ j => simp [ekY, encY] at hu
  subst hj
  have hu : u = .int .u8 (y.toNat : Int) := by simpa [ekY, encY] using hu.symm
  subst hu
  have := h5 ad had k y hy
  simpa [YAt, ekY] using this

set_option maxHeartbeats 1000000 in
set_option maxRecDepth 100000 in
theorem packed_any {w : World} {v : Value} {l : List Nat} (h : RdL 1 UAt w v l) (hm : ∀ n ∈ l, n ≤ 18446744073709551615) (hl : l.length ≤ 100000000000) (how : Int) :
    Calls Tryz.prog 108 #[.int .i64 how, v] w fun e w' => ∃ ao n cap, e = .returned (.slice ao n cap) ∧ Row ekY w' w.heap.size (.slice ao n cap) (packedN how l) ∧ Below w.heap.size w w' := by
  obtain ⟨a1, n1, c1, rfl, H1, _⟩ := h.shape
  have hn1 : n1 ≤ 100000000000 := by rw [H1.out]; exact hl
  have hhb := khas_any how w
  cases hq : khasB how with
  | false =>
    have HN : Hid (packedN how l = []) := by show _ = _; unfold packedN; rw [hq]; rfl
    rw [hq] at hhb
    clear hq
    go_enter Tryz.func108, Tryz.ntmps108
    go_wp2_with fail
    refine hhb.mono ?_
    rintro e w1 ⟨rfl, rfl⟩
    go_wp2
    go_ret
    exact ⟨none, 0, 0, rfl, by rw [HN.out]; exact Row.nil _ _ _, Below.refl _ _⟩
  | true =>
    have HN : Hid (packedN how l = l.flatMap (kputB how)) := by show _ = _; unfold packedN; rw [hq]; rfl
    rw [hq] at hhb
    clear hq
    go_enter Tryz.func108, Tryz.ntmps108
    go_wp2_with fail
    refine hhb.mono ?_
    rintro e w1 ⟨rfl, rfl⟩
    go_wp2_with fail
    go_loopg [5, 14] n1 (fun m u i wr => ∃ (k : Nat) (ao : Option Addr) (no co : Nat), k + m = n1 ∧ i = .int .i64 k ∧ u = .slice ao no co ∧ Row ekY wr w.heap.size (.slice ao no co) ((l.take k).flatMap (kputB how)) ∧ Below w.heap.size w wr)
    case atStart => exact ⟨0, none, 0, 0, by omega, rfl, rfl, by rw [List.take_zero]; exact Row.nil _ _ _, Below.refl _ _⟩
    case round =>
      obtain ⟨k, ao, no, co, hk, rfl, rfl, hr, hb⟩ := hrel
      by_cases hlt : k < n1
      · obtain ⟨x, Hx⟩ : ∃ x, Hid (l[k]? = some x) := ⟨l[k]'(by rw [← H1.out]; exact hlt), List.getElem?_eq_getElem (by rw [← H1.out]; exact hlt)⟩
        obtain ⟨b, off, rfl, hat⟩ := (h.below UAt.stays hb).get UAt.plain Hx.out
        have s0 : wr.cell? ⟨b, off + k, none⟩ = some (.int .u64 (x : Int)) := by simpa [UAt] using hat
        have hki : (k : Int) < (n1 : Int) := by omega
        have hlk : ((l.take k).flatMap (kputB how)).length ≤ 10000000000000 := by
          have := flat_le (l := l.take k) (f := kputB how) (c := 10) fun a _ => kputB_len how a
          rw [List.length_take] at this
          omega
        have hpb := kputBits_any w.heap.size _ _ how x wr hr hb.size (hm x (List.mem_of_getElem? Hx.out)) hlk
        clear hat
        go_wp2_with fail
        refine hpb.mono ?_
        rintro e w2 ⟨v2, rfl, hr2, hb2⟩
        obtain ⟨a2, n2, c2, rfl, _⟩ := hr2.shape'
        have hr2' : Row ekY w2 w.heap.size (.slice a2 n2 c2) ((l.take (k + 1)).flatMap (kputB how)) := by rw [flat_snoc Hx.out]; exact hr2
        clear hr2
        go_wp2_with fail
        go_roundg (n1 - (k + 1))
        case measure => omega
        case rel => exact ⟨k + 1, a2, n2, c2, by omega, by go_num, rfl, hr2', hb.trans hb2⟩
      · have hr1 : Row ekY wr w.heap.size (.slice ao no co) (packedN how l) := by
          rw [List.take_of_length_le (by rw [← H1.out]; omega)] at hr; rw [HN.out]; exact hr
        clear hr
        go_wp2
        go_ret
        exact ⟨ao, no, co, rfl, hr1, hb⟩

theorem ku_src (w : World) (n : Nat) : ∀ ad, some (⟨w.heap.size, 0, none⟩ : Addr) = some ad → ∀ k y, [n][k]? = some y → ∀ j u, (ekU.enc y)[j]? = some u → (w.alloc (.cells #[.int .u64 (n : Int)] 66)).cell? (ad.add (k * ekU.size + j)) = some u := kone_src ekU w n
set_option maxHeartbeats 1000000 in
set_option maxRecDepth 100000 in
theorem each_any {w : World} {v : Value} {l : List Nat} (h : RdL 1 UAt w v l) (hm : ∀ n ∈ l, n ≤ 18446744073709551615) (hl : l.length ≤ 100000000000) {fn : Nat} (hent : ∀ (args : Array Value) (w : World), (callFunc fn args).run Tryz.prog w = .ok (.enter fn args) w)
    {one : Nat → Nat} (hone : ∀ (n : Nat) (W : World), n ≤ 18446744073709551615 → Calls Tryz.prog fn #[.int .u64 (n : Int)] W fun e w' => e = .returned (.int .u64 ((one n : Nat) : Int)) ∧ W = w') :
    Calls Tryz.prog 135 #[v, .func (.func fn) #[] #[]] w fun e w' => ∃ ao n cap, e = .returned (.slice ao n cap) ∧ Row ekU w' w.heap.size (.slice ao n cap) (l.map one) ∧ Below w.heap.size w w' := by
  obtain ⟨a1, n1, c1, rfl, H1, _⟩ := h.shape
  have hn1 : n1 ≤ 100000000000 := by rw [H1.out]; exact hl
  go_enter Tryz.func135, Tryz.ntmps135
  go_wp2_with fail
  go_loopg [5, 10] n1 (fun m u i wr => ∃ (k : Nat) (ao : Option Addr) (no co : Nat), k + m = n1 ∧ i = .int .i64 k ∧ u = .slice ao no co ∧ Row ekU wr w.heap.size (.slice ao no co) ((l.map one).take k) ∧ Below w.heap.size w wr)
  case atStart => exact ⟨0, none, 0, 0, by omega, rfl, rfl, by rw [List.take_zero]; exact Row.nil _ _ _, Below.refl _ _⟩
  case round =>
    obtain ⟨k, ao, no, co, hk, rfl, rfl, hr, hb⟩ := hrel
    by_cases hlt : k < n1
    · obtain ⟨x, Hx⟩ : ∃ x, Hid (l[k]? = some x) := ⟨l[k]'(by rw [← H1.out]; exact hlt), List.getElem?_eq_getElem (by rw [← H1.out]; exact hlt)⟩
      obtain ⟨b, off, rfl, hat⟩ := (h.below UAt.stays hb).get UAt.plain Hx.out
      have s0 : wr.cell? ⟨b, off + k, none⟩ = some (.int .u64 (x : Int)) := by simpa [UAt] using hat
      have hki : (k : Int) < (n1 : Int) := by omega
      have hcall := hone x wr (hm x (List.mem_of_getElem? Hx.out))
      obtain ⟨y, Hy⟩ : ∃ y, Hid (one x = y) := ⟨_, rfl⟩
      rw [Hy.out] at hcall
      have hbk : ∀ k, (Value.slice ao no co).ownBlock = some k → w.heap.size ≤ k := fun k hk => (hr.own k hk).1
      have hlk : ((l.map one).take k).length ≤ 100000000000 := by rw [List.length_take]; omega
      clear hat
      go_wp2_with fail
      refine hcall.mono ?_
      rintro e w2 ⟨rfl, rfl⟩
      go_wp2_with (at_builtin; refine wpList_appG (by rfl) ekU _ _ (by rfl) w.heap.size (.slice ao no co) ((l.map one).take k) [y] (by rfl) (hr.below ((Below.refl _ _).alloc (Nat.le_refl _) _)) (some ⟨wr.heap.size, 0, none⟩) 1 1 (by rfl) (by rfl) (by intro e; cases e) (ku_src wr y) (by decide) ?d2 ?d3 ?_)
      case d2 => simp [ekU]; omega
      case d3 => simp; have := hb.size; omega
      intro v' w3 hr3 hg3
      obtain ⟨a2, n2, c2, rfl, _⟩ := hr3.shape'
      have hB3 : Below w.heap.size w w3 := (hb.alloc hb.size _).grown hg3 (by simp; have := hb.size; omega) hbk
      have hr3' : Row ekU w3 w.heap.size (.slice a2 n2 c2) ((l.map one).take (k + 1)) := by
        rw [take_snoc (a := y) (by rw [List.getElem?_map, Hx.out, ← Hy.out]; rfl)]; exact hr3
      clear hr3
      go_wp2_with fail
      go_roundg (n1 - (k + 1))
      case measure => omega
      case rel => exact ⟨k + 1, a2, n2, c2, by omega, by go_num, rfl, hr3', hB3⟩
    · have hr1 : Row ekU wr w.heap.size (.slice ao no co) (l.map one) := by
        rw [List.take_of_length_le (by rw [List.length_map, ← H1.out]; omega)] at hr; exact hr
      clear hr
      go_wp2
      go_ret
      exact ⟨ao, no, co, rfl, hr1, hb⟩

end L
end Go.Proofs.YthgbiflfinddiaaGreat

/- Bits, sized, single. -/
namespace Go.Proofs.YthgbiflfinddiaaGreat
namespace L
open Go.RowKit

set_option maxHeartbeats 400000 in
set_option maxRecDepth 100000 in
theorem bit1_any (n : Nat) (w : World) : Calls Tryz.prog 146 #[.int .u64 (n : Int)] w fun e w' => e = .returned (.int .u64 ((bitK 2 n : Nat) : Int)) ∧ w = w' := by
  have hw : -9223372036854775808 ≤ IntKind.i64.wrap (n : Int) ∧ IntKind.i64.wrap (n : Int) ≤ 9223372036854775807 := by rw [IntKind.wrap_i64]; omega
  have hf := kfold_any (IntKind.i64.wrap (n : Int)) w hw.1 hw.2
  have h0 := (fold_bd _ hw.1 hw.2).1
  have HN : Hid (((bitK 2 n : Nat) : Int) = foldN (IntKind.i64.wrap (n : Int))) := by
    show _ = _; unfold bitK; rw [if_pos rfl]; omega
  clear h0
  have hwe : wrap64 (n : Int) = IntKind.i64.wrap (n : Int) := by rw [IntKind.wrap_i64, wrap64]
  rw [← hwe] at hf HN
  clear hw hwe
  go_enter Tryz.func146, Tryz.ntmps146
  go_wp2_with fail
  refine hf.mono ?_
  rintro e w1 ⟨rfl, rfl⟩
  go_wp2
  go_ret
  exact ⟨by rw [HN.out]; rfl, rfl⟩
set_option maxHeartbeats 400000 in
theorem bit2_any (n : Nat) (w : World) : Calls Tryz.prog 148 #[.int .u64 (n : Int)] w fun e w' => e = .returned (.int .u64 (n : Int)) ∧ w = w' := by
  go_enter Tryz.func148, Tryz.ntmps148
  go_wp2
  go_ret
  exact ⟨rfl, rfl⟩
set_option maxHeartbeats 1000000 in
set_option maxRecDepth 100000 in
theorem bits_any {w : World} {v : Value} {l : List Nat} (h : RdL 1 UAt w v l) (hm : ∀ n ∈ l, n ≤ 18446744073709551615) (hl : l.length ≤ 100000000000) (kind : Int) :
    Calls Tryz.prog 109 #[.int .i64 kind, v] w fun e w' => ∃ ao n cap, e = .returned (.slice ao n cap) ∧ Row ekU w' w.heap.size (.slice ao n cap) (l.map (bitK kind)) ∧ Below w.heap.size w w' := by
  obtain ⟨a1, n1, c1, rfl, H1, _⟩ := h.shape
  by_cases hk : kind = 2
  · subst hk
    have he := each_any h hm hl (enters_of Tryz.func146 (by kernel_rfl) rfl) (one := bitK 2) (fun n W _ => bit1_any n W)
    have hb : ∀ W, Calls Tryz.prog 136 #[.int .i64 2] W fun e w' => e = .returned (.func (.func 146) #[] #[]) ∧ W = w' := fun W => by
      go_enter Tryz.func136, Tryz.ntmps136
      go_wp2
      go_ret
      exact ⟨rfl, rfl⟩
    have hbw := hb w
    go_enter Tryz.func109, Tryz.ntmps109
    go_wp2_with fail
    refine hbw.mono ?_
    rintro e w1 ⟨rfl, rfl⟩
    go_wp2_with fail
    refine he.mono ?_
    rintro e w2 ⟨ao, n, cap, rfl, hr, hb2⟩
    go_wp2
    go_ret
    exact ⟨ao, n, cap, rfl, hr, hb2⟩
  · have hk2 : (kind == 2) = false := by simp [hk]
    have he := each_any h hm hl (enters_of Tryz.func148 (by kernel_rfl) rfl) (one := bitK kind) (fun n W _ => by
      have e : bitK kind n = n := by unfold bitK; rw [if_neg hk]
      rw [e]; exact bit2_any n W)
    have hb : ∀ W, Calls Tryz.prog 136 #[.int .i64 kind] W fun e w' => e = .returned (.func (.func 148) #[] #[]) ∧ W = w' := fun W => by
      clear he
      go_enter Tryz.func136, Tryz.ntmps136
      go_wp2
      go_ret
      exact ⟨rfl, rfl⟩
    have hbw := hb w
    clear hk2 hk
    go_enter Tryz.func109, Tryz.ntmps109
    go_wp2_with fail
    refine hbw.mono ?_
    rintro e w1 ⟨rfl, rfl⟩
    go_wp2_with fail
    refine he.mono ?_
    rintro e w2 ⟨ao, n, cap, rfl, hr, hb2⟩
    go_wp2
    go_ret
    exact ⟨ao, n, cap, rfl, hr, hb2⟩

set_option maxHeartbeats 2000000 in
set_option maxRecDepth 100000 in
theorem sized_any {w : World} {v : Value} {ls : List (List UInt8)} (h : RdL 1 ZAt w v ls) (num : Int) (hn1 : 0 ≤ num) (hn2 : num ≤ 536870912) (hl : (sizedN num ls).length ≤ 5000000000000) :
    Calls Tryz.prog 107 #[.int .i64 num, v] w fun e w' => ∃ ao n cap, e = .returned (.slice ao n cap) ∧ Row ekY w' w.heap.size (.slice ao n cap) (sizedN num ls) ∧ Below w.heap.size w w' := by
  obtain ⟨a1, n1, c1, rfl, H1, _⟩ := h.shape
  obtain ⟨f, Hf⟩ : ∃ f : List UInt8 → List UInt8, Hid (f = fun b => ktagN num 2 ++ putN b.length ++ b) := ⟨_, rfl⟩
  have HS : Hid (sizedN num ls = ls.flatMap f) := by show _ = _; rw [Hf.out]; rfl
  have htot : (ls.flatMap f).length ≤ 5000000000000 := by rw [← HS.out]; exact hl
  go_enter Tryz.func107, Tryz.ntmps107
  go_wp2_with fail
  go_loopg [5, 10] n1 (fun m u i wr => ∃ (k : Nat) (ao : Option Addr) (no co : Nat), k + m = n1 ∧ i = .int .i64 k ∧ u = .slice ao no co ∧ Row ekY wr w.heap.size (.slice ao no co) ((ls.take k).flatMap f) ∧ Below w.heap.size w wr)
  case atStart => exact ⟨0, none, 0, 0, by omega, rfl, rfl, by rw [List.take_zero]; exact Row.nil _ _ _, Below.refl _ _⟩
  case round =>
    obtain ⟨k, ao, no, co, hk, rfl, rfl, hr, hb⟩ := hrel
    by_cases hlt : k < n1
    · obtain ⟨x, Hx⟩ : ∃ x, Hid (ls[k]? = some x) := ⟨ls[k]'(by rw [← H1.out]; exact hlt), List.getElem?_eq_getElem (by rw [← H1.out]; exact hlt)⟩
      obtain ⟨b, off, rfl, hat⟩ := h.get ZAt.plain Hx.out
      obtain ⟨vx, s00, hrx0⟩ := hat.at
      have s0 := cell_below hb s00
      obtain ⟨ax, nx, cx, rfl, Hnx, hnx⟩ := hrx0.shape
      have s0' : wr.cell? ⟨b, off + k, none⟩ = some (.slice ax nx cx) := by simpa using s0
      have hki : (k : Int) < (n1 : Int) := by omega
      have htk := flat_take_le f ls k
      have htk1 := flat_take_le f ls (k + 1)
      rw [flat_snoc Hx.out, List.length_append] at htk1
      have hfx : (f x).length = (ktagN num 2).length + (putN x.length).length + x.length := by rw [Hf.out]; simp [Nat.add_assoc]
      have htg := ktag_any w.heap.size _ _ num 2 wr hr hb.size hn1 hn2 (by decide) (by decide) (by omega)
      clear s0 hat s00
      go_wp2_with fail
      refine htg.mono ?_
      rintro e w2 ⟨v2, rfl, hr2, hb2⟩
      obtain ⟨a2, n2, c2, rfl, _⟩ := hr2.shape'
      have hbw2 : Below w.heap.size w w2 := hb.trans hb2
      have hput := kput_any w.heap.size _ _ x.length w2 hr2 hbw2.size (by rw [← Hnx.out]; omega) (by rw [List.length_append]; omega)
      rw [← Hnx.out] at hput
      clear htg hr
      go_wp2_with fail
      refine hput.mono ?_
      rintro e w3 ⟨v3, rfl, hr3, hb3⟩
      obtain ⟨a3, n3, c3, rfl, _⟩ := hr3.shape'
      have hbw3 : Below w.heap.size w w3 := hbw2.trans hb3
      obtain ⟨q1, q2, q3⟩ := ksrcY (hrx0.below YAt.stays hbw3)
      clear hput hr2
      go_wp2_with (at_builtin; refine wpList_appG (by rfl) ekY _ _ (by rfl) w.heap.size (.slice a3 n3 c3) _ x (by rfl) hr3 ax nx cx (by rfl) q1 q2 q3 (by decide) ?d2 hbw3.size ?_)
      case d2 =>
        rw [show ekY.bytes = 1 from rfl, Nat.mul_one, Hnx.out]
        simp only [List.length_append]
        omega
      intro v' w4 hr4 hg4
      obtain ⟨a4, n4, c4, rfl, _⟩ := hr4.shape'
      have hB4 : Below w.heap.size w w4 := hbw3.grown hg4 hbw3.size (fun k hk => (hr3.own k hk).1)
      have hr4' : Row ekY w4 w.heap.size (.slice a4 n4 c4) ((ls.take (k + 1)).flatMap f) := by
        rw [flat_snoc Hx.out, Hf.out]
        rw [Hf.out] at hr4
        simp only [List.append_assoc] at hr4 ⊢
        rw [Hnx.out] at hr4
        exact hr4
      clear hr4
      go_wp2_with fail
      go_roundg (n1 - (k + 1))
      case measure => omega
      case rel => exact ⟨k + 1, a4, n4, c4, by omega, by go_num, rfl, hr4', hB4⟩
    · have hr1 : Row ekY wr w.heap.size (.slice ao no co) (sizedN num ls) := by
        rw [List.take_of_length_le (by rw [← H1.out]; omega)] at hr; rw [HS.out]; exact hr
      clear hr
      go_wp2
      go_ret
      exact ⟨ao, no, co, rfl, hr1, hb⟩

def singleN (s : TI) (l : List Nat) : List UInt8 := l.flatMap fun n => ktagN s.number s.how ++ packedN s.how [bitK s.field n]
theorem ktagN_len (a b : Int) : (ktagN a b).length ≤ 10 := kputN_len _
theorem bitK_le (kind : Int) (n : Nat) (hn : n ≤ 18446744073709551615) : bitK kind n ≤ 18446744073709551615 := by
  unfold bitK
  split
  · have hw : -9223372036854775808 ≤ IntKind.i64.wrap (n : Int) ∧ IntKind.i64.wrap (n : Int) ≤ 9223372036854775807 := by rw [IntKind.wrap_i64]; omega
    have := fold_bd _ hw.1 hw.2
    omega
  · exact hn
theorem packed1_len (how : Int) (n : Nat) : (packedN how [n]).length ≤ 10 := by
  unfold packedN
  split
  · simp only [List.flatMap_cons, List.flatMap_nil, List.append_nil]; exact kputB_len how n
  · simp
theorem single_len (s : TI) (l : List Nat) : (singleN s l).length ≤ l.length * 20 := flat_le fun n _ => by
  rw [List.length_append]
  have := ktagN_len s.number s.how
  have := packed1_len s.how (bitK s.field n)
  omega
theorem ku1_rd (w : World) (n : Nat) : RdL 1 UAt (w.alloc (.cells #[.int .u64 (n : Int)] 66)) (.slice (some ⟨w.heap.size, 0, none⟩) 1 1) [n] := by
  refine ⟨_, 1, 1, rfl, rfl, Nat.le_refl _, by unfold maxLen; omega, (fun e => by cases e), fun x hx k a ha => ?_⟩
  cases hx
  cases k with
  | succ k => simp at ha
  | zero =>
    have ha : n = a := by simpa using ha
    subst ha
    rw [add_plain]
    exact cell_of_blk (heap_alloc_new w _) 0 _ rfl
set_option maxHeartbeats 2000000 in
set_option maxRecDepth 100000 in
theorem single_any {w : World} {v : Value} {l : List Nat} (h : RdL 1 UAt w v l) (hm : ∀ n ∈ l, n ≤ 18446744073709551615) (hl : l.length ≤ 10000000000) (s : TI) (hn1 : 0 ≤ s.number) (hn2 : s.number ≤ 536870912) (hh1 : 0 ≤ s.how) (hh2 : s.how ≤ 7) :
    Calls Tryz.prog 106 #[tv s, v] w fun e w' => ∃ ao n cap, e = .returned (.slice ao n cap) ∧ Row ekY w' w.heap.size (.slice ao n cap) (singleN s l) ∧ Below w.heap.size w w' := by
  obtain ⟨a1, n1, c1, rfl, H1, _⟩ := h.shape
  obtain ⟨W0, HW0⟩ : ∃ W0, Hid (W0 = w.alloc (.cells #[.int .i64 s.kind, .int .i64 s.number, .int .i64 s.how, .int .i64 s.field, .int .i64 s.next] 51)) := ⟨_, rfl⟩
  have hb0 : Below w.heap.size w W0 := by rw [HW0.out]; exact (Below.refl _ _).alloc (Nat.le_refl _) _
  have hz0 : w.heap.size + 1 ≤ W0.heap.size := by rw [HW0.out]; simp
  have x0 : W0.heap[w.heap.size]? = some (.cells #[.int .i64 s.kind, .int .i64 s.number, .int .i64 s.how, .int .i64 s.field, .int .i64 s.next] 51 (0, 0)) := by rw [HW0.out]; exact heap_alloc_new _ _
  have hbt := bits_any (h.below UAt.stays hb0) hm (by omega) s.field
  obtain ⟨f, Hf⟩ : ∃ f : Nat → List UInt8, Hid (f = fun y => ktagN s.number s.how ++ packedN s.how [y]) := ⟨_, rfl⟩
  have HS : Hid (singleN s l = (l.map (bitK s.field)).flatMap f) := by
    show _ = _; rw [Hf.out, List.flatMap_map]; rfl
  have hfl : ∀ y, (f y).length ≤ 20 := fun y => by
    rw [Hf.out, List.length_append]
    have := ktagN_len s.number s.how
    have := packed1_len s.how y
    omega
  unfold tv
  go_enter Tryz.func106, Tryz.ntmps106
  go_wp2_with fail
  rw [← HW0.out]
  refine hbt.mono ?_
  rintro e W1 ⟨ab, nb, cb, rfl, hrb, hb1⟩
  have Hnb : Hid (nb = (l.map (bitK s.field)).length) := hrb.len
  have hnb : nb ≤ 10000000000 := by rw [Hnb.out, List.length_map]; exact hl
  have hbw1 : Below w.heap.size w W1 := KBT hb0 hb1
  have hz1 := hb1.size
  have x1 := (hb1.block _ (by omega)).trans x0
  have hle : ∀ y ∈ l.map (bitK s.field), y ≤ 18446744073709551615 := fun y hy => by
    obtain ⟨n, hn, rfl⟩ := List.mem_map.1 hy
    exact bitK_le _ _ (hm n hn)
  obtain ⟨L, HL⟩ : ∃ L, Hid (L = l.map (bitK s.field)) := ⟨_, rfl⟩
  rw [← HL.out] at hrb Hnb hle HS
  have hrd := hrb.rdU
  clear hbt hrb
  go_wp2_with fail
  go_loopg [5, 13] nb (fun m u i wr => ∃ (k : Nat) (ao : Option Addr) (no co : Nat), k + m = nb ∧ i = .int .i64 k ∧ u = .slice ao no co ∧ Row ekY wr W1.heap.size (.slice ao no co) ((L.take k).flatMap f) ∧ Below W1.heap.size W1 wr)
  case atStart => exact ⟨0, none, 0, 0, by omega, rfl, rfl, by rw [List.take_zero]; exact Row.nil _ _ _, Below.refl _ _⟩
  case round =>
    obtain ⟨k, ao, no, co, hk, rfl, rfl, hr, hb⟩ := hrel
    by_cases hlt : k < nb
    · obtain ⟨x, Hx⟩ : ∃ x, Hid (L[k]? = some x) := ⟨L[k]'(by rw [← Hnb.out]; exact hlt), List.getElem?_eq_getElem (by rw [← Hnb.out]; exact hlt)⟩
      obtain ⟨b, off, rfl, hat⟩ := (hrd.below UAt.stays hb).get UAt.plain Hx.out
      have s0 : wr.cell? ⟨b, off + k, none⟩ = some (.int .u64 (x : Int)) := by simpa [UAt] using hat
      have hki : (k : Int) < (nb : Int) := by omega
      have hlk : ((L.take k).flatMap f).length ≤ 200000000000 := by
        have := flat_le (l := L.take k) (f := f) (c := 20) fun a _ => hfl a
        rw [List.length_take] at this
        omega
      obtain ⟨t0, t1, t2, t3, t4⟩ := blk5 ((hb.block _ (by omega)).trans x1)
      have htg := ktag_any W1.heap.size _ _ s.number s.how wr hr hb.size hn1 hn2 hh1 hh2 (by omega)
      clear hat
      go_wp2_with fail
      refine htg.mono ?_
      rintro e w2 ⟨v2, rfl, hr2, hb2⟩
      obtain ⟨a2, n2, c2, rfl, _⟩ := hr2.shape'
      have hB2 : Below W1.heap.size W1 w2 := hb.trans hb2
      obtain ⟨p0, p1, p2, p3, p4⟩ := blk5 ((hB2.block _ (by omega)).trans x1)
      obtain ⟨W3, HW3⟩ : ∃ W3, Hid (W3 = w2.alloc (.cells #[.int .u64 (x : Int)] 66)) := ⟨_, rfl⟩
      have hb3 : Below w2.heap.size w2 W3 := by rw [HW3.out]; exact (Below.refl _ _).alloc (Nat.le_refl _) _
      have hpk := packed_any (w := W3) (l := [x]) (by rw [HW3.out]; exact ku1_rd w2 x) (fun n hn => by rw [List.mem_singleton] at hn; subst hn; exact hle _ (List.mem_of_getElem? Hx.out)) (by simp) s.how
      have hlt2 : ((L.take k).flatMap f ++ ktagN s.number s.how).length ≤ 200000000010 := by rw [List.length_append]; have := ktagN_len s.number s.how; omega
      clear htg hr t0 t1 t2 t3 t4
      go_wp2_with fail
      rw [← HW3.out]
      refine hpk.mono ?_
      rintro e w4 ⟨a4, n4, c4, rfl, hr4, hb4⟩
      have hB4 : Below W1.heap.size W1 w4 := KBT (KBT hB2 hb3) hb4
      have hr24 : Row ekY w4 W1.heap.size (.slice a2 n2 c2) ((L.take k).flatMap f ++ ktagN s.number s.how) := (hr2.below hb3).below hb4
      obtain ⟨q1, q2, q3⟩ := ksrcY hr4.rdY
      have hp1 := packed1_len s.how x
      clear hpk hr2
      go_wp2_with (at_builtin; refine wpList_appG (by rfl) ekY _ _ (by rfl) W1.heap.size (.slice a2 n2 c2) _ (packedN s.how [x]) (by rfl) hr24 a4 n4 c4 (by rfl) q1 q2 q3 (by decide) ?d2 hB4.size ?_)
      case d2 =>
        rw [show ekY.bytes = 1 from rfl, Nat.mul_one]
        omega
      intro v' w5 hr5 hg5
      obtain ⟨a5, n5, c5, rfl, _⟩ := hr5.shape'
      have hB5 : Below W1.heap.size W1 w5 := hB4.grown hg5 hB4.size (fun k hk => (hr24.own k hk).1)
      have hr5' : Row ekY w5 W1.heap.size (.slice a5 n5 c5) ((L.take (k + 1)).flatMap f) := by
        rw [flat_snoc Hx.out]
        have e : f x = ktagN s.number s.how ++ packedN s.how [x] := by rw [Hf.out]
        rw [e]
        exact hr5
      clear hr5
      go_wp2_with fail
      go_roundg (nb - (k + 1))
      case measure => omega
      case rel => exact ⟨k + 1, a5, n5, c5, by omega, by go_num, rfl, hr5', hB5⟩
    · have hr1 : Row ekY wr W1.heap.size (.slice ao no co) (singleN s l) := by
        rw [List.take_of_length_le (by rw [← Hnb.out]; omega)] at hr; rw [HS.out]; exact hr
      clear hr
      go_wp2
      go_ret
      exact ⟨ao, no, co, rfl, hr1.mono (by omega), KBT hbw1 (by exact hb)⟩

end L
end Go.Proofs.YthgbiflfinddiaaGreat

/- recordBytes, Add, unknown. -/
namespace Go.Proofs.YthgbiflfinddiaaGreat
namespace L
open Go.RowKit

def recN (num how : Int) (bits : Nat) (l : List UInt8) : List UInt8 := ktagN num how ++ (if how = 2 then putN l.length ++ l else kputB how bits)
theorem recN_len (num how : Int) (bits : Nat) (l : List UInt8) : (recN num how bits l).length ≤ 20 + l.length := by
  unfold recN
  rw [List.length_append]
  have h1 := ktagN_len num how
  split
  · rw [List.length_append]
    have := kputN_len l.length
    omega
  · have := kputB_len how bits
    omega
theorem blk4 {w : World} {g : Nat} {a0 a1 a2 a3 : Value} {t : TypeId} (h : w.heap[g]? = some (.cells #[a0, a1, a2, a3] t (0, 0))) :
    w.cell? ⟨g, 0, none⟩ = some a0 ∧ w.cell? ⟨g, 1, none⟩ = some a1 ∧ w.cell? ⟨g, 2, none⟩ = some a2 ∧ w.cell? ⟨g, 3, none⟩ = some a3 :=
  ⟨cell_of_blk h 0 _ rfl, cell_of_blk h 1 _ rfl, cell_of_blk h 2 _ rfl, cell_of_blk h 3 _ rfl⟩
set_option maxHeartbeats 2000000 in
set_option maxRecDepth 100000 in
theorem recordBytes_any {w : World} {v : Value} {l : List UInt8} (h : RdL 1 YAt w v l) (num how : Int) (bits : Nat) (hb : bits ≤ 18446744073709551615) (hl : l.length ≤ 1000000000000) (h1 : 0 ≤ num) (h2 : num ≤ 536870912) (h3 : 0 ≤ how) (h4 : how ≤ 7) :
    Calls Tryz.prog 112 #[.agg #[.int .i64 num, .int .i64 how, .int .u64 (bits : Int), v]] w fun e w' => ∃ ao n cap, e = .returned (.slice ao n cap) ∧ Row ekY w' w.heap.size (.slice ao n cap) (recN num how bits l) ∧ Below w.heap.size w w' := by
  obtain ⟨a1, n1, c1, rfl, H1, hn1⟩ := h.shape
  obtain ⟨W0, HW0⟩ : ∃ W0, Hid (W0 = w.alloc (.cells #[.int .i64 num, .int .i64 how, .int .u64 (bits : Int), .slice a1 n1 c1] 104)) := ⟨_, rfl⟩
  have hb0 : Below w.heap.size w W0 := by rw [HW0.out]; exact (Below.refl _ _).alloc (Nat.le_refl _) _
  have hz0 : w.heap.size + 1 ≤ W0.heap.size := by rw [HW0.out]; simp
  have x0 : W0.heap[w.heap.size]? = some (.cells #[.int .i64 num, .int .i64 how, .int .u64 (bits : Int), .slice a1 n1 c1] 104 (0, 0)) := by rw [HW0.out]; exact heap_alloc_new _ _
  have htg := ktag_any W0.heap.size (.slice none 0 0) [] num how W0 (Row.nil _ _ _) (Nat.le_refl _) h1 h2 h3 h4 (by simp)
  have hT := ktagN_len num how
  go_enter Tryz.func112, Tryz.ntmps112
  go_wp2_with fail
  rw [← HW0.out]
  refine htg.mono ?_
  rintro e w1 ⟨v1, rfl, hr1, hb1⟩
  rw [List.nil_append] at hr1
  obtain ⟨a2, n2, c2, rfl, _⟩ := hr1.shape'
  obtain ⟨t0, t1, t2, t3⟩ := blk4 ((hb1.block _ (by omega)).trans x0)
  have hbw1 : Below w.heap.size w w1 := KBT hb0 hb1
  clear htg
  by_cases hh : how = 2
  · have hq : (how == 2) = true := by simp [hh]
    have HN : Hid (recN num how bits l = ktagN num how ++ putN l.length ++ l) := by show _ = _; unfold recN; rw [if_pos hh, List.append_assoc]
    have hput := kput_any W0.heap.size _ _ l.length w1 hr1 hb1.size (by rw [← H1.out]; omega) (by omega)
    rw [← H1.out] at hput
    have hP := kputN_len n1
    clear hh
    go_wp2_with fail
    refine hput.mono ?_
    rintro e w2 ⟨v2, rfl, hr2, hb2⟩
    obtain ⟨a3, n3, c3, rfl, _⟩ := hr2.shape'
    have hB2 : Below W0.heap.size W0 w2 := hb1.trans hb2
    obtain ⟨p0, p1, p2, p3⟩ := blk4 ((hB2.block _ (by omega)).trans x0)
    have hbw2 : Below w.heap.size w w2 := KBT hb0 hB2
    obtain ⟨q1, q2, q3⟩ := ksrcY (h.below YAt.stays hbw2)
    clear hput t0 t1 t2 t3 hr1
    go_wp2_with (at_builtin; refine wpList_appG (by rfl) ekY _ _ (by rfl) W0.heap.size (.slice a3 n3 c3) _ l (by rfl) hr2 a1 n1 c1 (by rfl) q1 q2 q3 (by decide) ?d2 hB2.size ?_)
    case d2 =>
      rw [show ekY.bytes = 1 from rfl, Nat.mul_one]
      simp only [List.length_append]
      omega
    intro v' w3 hr3 hg3
    obtain ⟨a4, n4, c4, rfl, _⟩ := hr3.shape'
    have hB3 : Below W0.heap.size W0 w3 := hB2.grown hg3 hB2.size (fun k hk => (hr2.own k hk).1)
    have hr3' : Row ekY w3 w.heap.size (.slice a4 n4 c4) (recN num how bits l) := by
      rw [HN.out, ← H1.out, List.append_assoc]; exact hr3.mono (by omega)
    clear hr3
    go_wp2
    go_ret
    exact ⟨a4, n4, c4, rfl, hr3', KBT hb0 hB3⟩
  · have hq : (how == 2) = false := by simp [hh]
    have HN : Hid (recN num how bits l = ktagN num how ++ kputB how bits) := by show _ = _; unfold recN; rw [if_neg hh]
    have hput := kputBits_any W0.heap.size _ _ how bits w1 hr1 hb1.size hb (by omega)
    clear hh
    go_wp2_with fail
    refine hput.mono ?_
    rintro e w2 ⟨v2, rfl, hr2, hb2⟩
    obtain ⟨a3, n3, c3, rfl, _⟩ := hr2.shape'
    have hB2 : Below W0.heap.size W0 w2 := hb1.trans hb2
    have hr3' : Row ekY w2 w.heap.size (.slice a3 n3 c3) (recN num how bits l) := by
      rw [HN.out]; exact hr2.mono (by omega)
    clear hr2 hput
    go_wp2
    go_ret
    exact ⟨a3, n3, c3, rfl, hr3', KBT hb0 hB2⟩
set_option maxHeartbeats 2000000 in
set_option maxRecDepth 100000 in
theorem kadd_any {w : World} {v : Value} {l : List UInt8} (h : RdL 1 YAt w v l) (num how : Int) (bits : Nat) (hb : bits ≤ 18446744073709551615) (hl : l.length ≤ 1000000000000) (h1 : 0 ≤ num) (h2 : num ≤ 536870912) (h3 : 0 ≤ how) (h4 : how ≤ 7)
    {base : Nat} {ao : Option Addr} {no co : Nat} {acc : List UInt8} (hacc : Row ekY w base (.slice ao no co) acc) (hbs : base ≤ w.heap.size) (hal : acc.length ≤ 10000000000000) :
    Calls Tryz.prog 77 #[.slice ao no co, .agg #[.int .i64 num, .int .i64 how, .int .u64 (bits : Int), v]] w fun e w' => ∃ a n c, e = .returned (.slice a n c) ∧ Row ekY w' base (.slice a n c) (acc ++ recN num how bits l) ∧ Below base w w' := by
  obtain ⟨a1, n1, c1, rfl, H1, hn1⟩ := h.shape
  obtain ⟨W0, HW0⟩ : ∃ W0, Hid (W0 = w.alloc (.cells #[.int .i64 num, .int .i64 how, .int .u64 (bits : Int), .slice a1 n1 c1] 104)) := ⟨_, rfl⟩
  have hb0 : Below w.heap.size w W0 := by rw [HW0.out]; exact (Below.refl _ _).alloc (Nat.le_refl _) _
  have hz0 : w.heap.size + 1 ≤ W0.heap.size := by rw [HW0.out]; simp
  have hrb := recordBytes_any (h.below YAt.stays hb0) num how bits hb hl h1 h2 h3 h4
  have hL := recN_len num how bits l
  go_enter Tryz.func77, Tryz.ntmps77
  go_wp2_with fail
  rw [← HW0.out]
  refine hrb.mono ?_
  rintro e w1 ⟨a2, n2, c2, rfl, hr1, hb1⟩
  have hB1 : Below w.heap.size w w1 := KBT hb0 hb1
  obtain ⟨q1, q2, q3⟩ := ksrcY hr1.rdY
  have ha1 := hacc.below hB1
  clear hrb
  go_wp2_with (at_builtin; refine wpList_appG (by rfl) ekY _ _ (by rfl) base (.slice ao no co) _ (recN num how bits l) (by rfl) ha1 a2 n2 c2 (by rfl) q1 q2 q3 (by decide) ?d2 (Nat.le_trans hbs hB1.size) ?_)
  case d2 =>
    rw [show ekY.bytes = 1 from rfl, Nat.mul_one]
    omega
  intro v' w3 hr3 hg3
  obtain ⟨a4, n4, c4, rfl, _⟩ := hr3.shape'
  have hB3 : Below base w w3 := (hB1.mono hbs).grown hg3 (Nat.le_trans hbs hB1.size) (fun k hk => (ha1.own k hk).1)
  go_wp2
  go_ret
  exact ⟨a4, n4, c4, rfl, hr3, hB3⟩

def unkGo : List UInt8 → List RI → List UInt8 × Int
  | acc, [] => (acc, 0)
  | acc, r :: rs => if wrongR r.number r.how r.bits r.bytes.length ≠ 0 then ([], wrongR r.number r.how r.bits r.bytes.length) else unkGo (acc ++ recN r.number r.how r.bits r.bytes) rs
theorem unk_step {l : List RI} {k : Nat} {r : RI} (h : l[k]? = some r) (acc : List UInt8) : unkGo acc (l.drop k) = if wrongR r.number r.how r.bits r.bytes.length ≠ 0 then ([], wrongR r.number r.how r.bits r.bytes.length) else unkGo (acc ++ recN r.number r.how r.bits r.bytes) (l.drop (k + 1)) := by
  obtain ⟨hk, rfl⟩ := List.getElem?_eq_some_iff.1 h
  rw [List.drop_eq_getElem_cons hk]
  rfl
theorem wrongR_ok {num how : Int} {bits len : Nat} (h : wrongR num how bits len = 0) : (how = 0 ∨ how = 1 ∨ how = 2 ∨ how = 5) ∧ 1 ≤ num ∧ num < 536870912 := by
  unfold wrongR at h
  split at h
  · cases h
  · rename_i hh
    have hh' : how = 0 ∨ how = 1 ∨ how = 2 ∨ how = 5 := by
      unfold isHowB at hh
      have := of_decide_eq_true (Bool.of_not_eq_false hh)
      exact this
    split at h
    · cases h
    · split at h
      · cases h
      · exact ⟨hh', by omega, by omega⟩
set_option maxHeartbeats 2000000 in
set_option maxRecDepth 100000 in
theorem unknown_run {w : World} {v : Value} {l : List RI} (h : RdL 4 RAt w v l) (hl : l.length ≤ 1048576) (hs : ∀ r ∈ l, r.bits ≤ 18446744073709551615 ∧ r.bytes.length ≤ 1048576) :
    Calls Tryz.prog 42 #[v] w fun e w' => ∃ ao n cap, e = .returned (.tuple #[.slice ao n cap, .int .i64 (unkGo [] l).2]) ∧ Row ekY w' w.heap.size (.slice ao n cap) (unkGo [] l).1 ∧ Below w.heap.size w w' := by
  obtain ⟨a1, n1, c1, rfl, H1, _⟩ := h.shape
  have hn1 : n1 ≤ 1048576 := by rw [H1.out]; exact hl
  obtain ⟨q, Hq⟩ : ∃ q, Hid (unkGo [] l = q) := ⟨_, rfl⟩
  rw [Hq.out]
  go_enter Tryz.func42, Tryz.ntmps42
  go_wp2_with fail
  go_loopg [4, 10] n1 (fun m u i wr => ∃ (k : Nat) (ao : Option Addr) (no co : Nat) (acc : List UInt8), k + m = n1 ∧ i = .int .i64 k ∧ u = .slice ao no co ∧ Row ekY wr w.heap.size (.slice ao no co) acc ∧ acc.length ≤ k * 1048600 ∧ Hid (unkGo acc (l.drop k) = q) ∧ Below w.heap.size w wr)
  case atStart => exact ⟨0, none, 0, 0, [], by omega, rfl, rfl, Row.nil _ _ _, by simp, Hq, Below.refl _ _⟩
  case round =>
    obtain ⟨k, ao, no, co, acc, hk, rfl, rfl, hr, hacc, HK, hb⟩ := hrel
    by_cases hlt : k < n1
    · obtain ⟨x, Hx⟩ : ∃ x, Hid (l[k]? = some x) := ⟨l[k]'(by rw [← H1.out]; exact hlt), List.getElem?_eq_getElem (by rw [← H1.out]; exact hlt)⟩
      obtain ⟨b, off, rfl, hat⟩ := (h.below RAt.stays hb).get RAt.plain Hx.out
      obtain ⟨vx, s0, s1, s2, s3, hrx⟩ := hat.at
      obtain ⟨ax, nx, cx, rfl, Hnx, hnx⟩ := hrx.shape
      have hki : (k : Int) < (n1 : Int) := by omega
      obtain ⟨hbx, hlx⟩ := hs x (List.mem_of_getElem? Hx.out)
      obtain ⟨W1, HW1⟩ : ∃ W1, Hid (W1 = wr.alloc (.cells #[.int .i64 x.number, .int .i64 x.how, .int .u64 (x.bits : Int), .slice ax nx cx] 104)) := ⟨_, rfl⟩
      have hb1 : Below wr.heap.size wr W1 := by rw [HW1.out]; exact (Below.refl _ _).alloc (Nat.le_refl _) _
      have hz1 : wr.heap.size + 1 ≤ W1.heap.size := by rw [HW1.out]; simp
      have x1 : W1.heap[wr.heap.size]? = some (.cells #[.int .i64 x.number, .int .i64 x.how, .int .u64 (x.bits : Int), .slice ax nx cx] 104 (0, 0)) := by rw [HW1.out]; exact heap_alloc_new _ _
      have hwr := wireWrong_any x.number x.how x.bits ax nx cx W1 hnx
      rw [Hnx.out] at hwr
      have HS := unk_step Hx.out acc
      obtain ⟨E, HE⟩ : ∃ E, Hid (wrongR x.number x.how x.bits x.bytes.length = E) := ⟨_, rfl⟩
      rw [HE.out] at hwr HS
      rw [← Hnx.out] at hwr
      clear hat
      by_cases hE : E = 0
      · have hEb : (E != 0) = false := by simp [hE]
        obtain ⟨hhow, hn1', hn2'⟩ := wrongR_ok (HE.out.trans hE)
        have HK' : Hid (unkGo (acc ++ recN x.number x.how x.bits x.bytes) (l.drop (k + 1)) = q) := by
          show _ = _; rw [← HK.out, HS, if_neg (by simp [hE])]
        have hLn := recN_len x.number x.how x.bits x.bytes
        clear hE HS
        go_wp2_with fail
        rw [← HW1.out]
        refine hwr.mono ?_
        rintro e w2 ⟨rfl, hb2⟩
        obtain ⟨t0, t1, t2, t3⟩ := blk4 ((hb2.block _ (by omega)).trans x1)
        have hB2 : Below wr.heap.size wr w2 := KBT hb1 hb2
        have had := kadd_any (hrx.below YAt.stays hB2) x.number x.how x.bits hbx (by omega) (by omega) (by omega) (by omega) (by omega) (hr.below hB2) (Nat.le_trans hb.size hB2.size) (by omega)
        clear hwr hr
        go_wp2_with fail
        refine had.mono ?_
        rintro e w3 ⟨a3, n3, c3, rfl, hr3, hb3⟩
        have hB3 : Below w.heap.size w w3 := (KBT hb hB2).trans hb3
        go_wp2_with fail
        go_roundg (n1 - (k + 1))
        case measure => omega
        case rel => exact ⟨k + 1, a3, n3, c3, _, by omega, by go_num, rfl, hr3, by rw [List.length_append]; omega, HK', hB3⟩
      · have hEb : (E != 0) = true := by simpa using hE
        have HK' : Hid (q = ([], E)) := by
          show _ = _; rw [← HK.out, HS, if_pos hE]
        clear hE HS
        go_wp2_with fail
        rw [← HW1.out]
        refine hwr.mono ?_
        rintro e w2 ⟨rfl, hb2⟩
        have hB2 : Below w.heap.size w w2 := KBT hb (KBT hb1 hb2)
        go_wp2
        go_ret2
        exact ⟨none, 0, 0, by rw [HK'.out]; rfl, by rw [HK'.out]; exact Row.nil _ _ _, hB2⟩
    · have HK' : Hid (q = (acc, 0)) := by
        show _ = _; rw [← HK.out, List.drop_of_length_le (by rw [← H1.out]; omega)]; rfl
      go_wp2
      go_ret2
      exact ⟨ao, no, co, by rw [HK'.out]; rfl, by rw [HK'.out]; exact hr, hb⟩

end L
end Go.Proofs.YthgbiflfinddiaaGreat

