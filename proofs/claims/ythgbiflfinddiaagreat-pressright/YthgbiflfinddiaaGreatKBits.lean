/- Packed, Bits, sized. -/
import Derived.Test.YthgbiflfinddiaaGreatKPack
namespace Go.Proofs.YthgbiflfinddiaaGreat
namespace L
open Go.RowKit

def packedN (how : Int) (l : List Nat) : List UInt8 := if khasB how = true then l.flatMap (kputB how) else []
def bitK (kind : Int) (n : Nat) : Nat := if kind = 2 then (foldN (IntKind.i64.wrap (n : Int))).toNat else n
def sizedN (num : Int) (ls : List (List UInt8)) : List UInt8 := ls.flatMap fun b => ktagN num 2 ++ putN b.length ++ b
theorem flat_snoc {α β : Type} {f : α → List β} {l : List α} {k : Nat} {a : α} (h : l[k]? = some a) : (l.take (k + 1)).flatMap f = (l.take k).flatMap f ++ f a := by
  rw [take_snoc h, List.flatMap_append]; simp
theorem flat_le {α β : Type} {f : α → List β} {l : List α} {c : Nat} (h : ∀ a ∈ l, (f a).length ≤ c) : (l.flatMap f).length ≤ l.length * c := by
  induction l with
  | nil => simp
  | cons a r ih =>
    rw [List.flatMap_cons, List.length_append, List.length_cons, Nat.succ_mul]
    have h1 := h a (by simp)
    have h2 := ih fun b hb => h b (List.mem_cons_of_mem _ hb)
    omega
theorem flat_take_le {α β : Type} (f : α → List β) (l : List α) (k : Nat) : ((l.take k).flatMap f).length ≤ (l.flatMap f).length := by
  conv => rhs; rw [← List.take_append_drop k l, List.flatMap_append, List.length_append]
  omega
theorem ksrcY {w : World} {ao : Option Addr} {n cap : Nat} {l : List UInt8} (h : RdL 1 YAt w (.slice ao n cap) l) : l.length = n ∧ (ao = none → n = 0 ∧ cap = 0) ∧ ∀ ad, ao = some ad → ∀ k y, l[k]? = some y → ∀ j u, (ekY.enc y)[j]? = some u → w.cell? (ad.add (k * ekY.size + j)) = some u := by
  obtain ⟨ao', n', cap', e, h1, _, _, h4, h5⟩ := h
  cases e
  refine ⟨h1, h4, fun ad had k y hy j u hu => ?_⟩
  have hj : j = 0 := by
    cases j with
    | zero => rfl
    | succ j => simp [ekY, encY] at hu
  subst hj
  have hu : u = .int .u8 (y.toNat : Int) := by simpa [ekY, encY] using hu.symm
  subst hu
  have := h5 ad had k y hy
  simpa [YAt, ekY] using this

set_option maxHeartbeats 1000000 in
set_option maxRecDepth 100000 in
theorem packed_any {w : World} {v : Value} {l : List Nat} (h : RdL 1 UAt w v l) (hm : ∀ n ∈ l, n ≤ 18446744073709551615) (hl : l.length ≤ 100000000000) (how : Int) :
    Calls Tryz.prog 108 #[.int .i64 how, v] w fun e w' => ∃ ao n cap, e = .returned (.slice ao n cap) ∧ Row ekY w' w.heap.size (.slice ao n cap) (packedN how l) ∧ Below w.heap.size w w' := by
  obtain ⟨a1, n1, c1, rfl, H1, _⟩ := h.shape
  have hn1 : n1 ≤ 100000000000 := by rw [H1.out]; exact hl
  have hhb := khas_any how w
  cases hq : khasB how with
  | false =>
    have HN : Hid (packedN how l = []) := by show _ = _; unfold packedN; rw [hq]; rfl
    rw [hq] at hhb
    clear hq
    go_enter Tryz.func108, Tryz.ntmps108
    go_wp2_with fail
    refine hhb.mono ?_
    rintro e w1 ⟨rfl, rfl⟩
    go_wp2
    go_ret
    exact ⟨none, 0, 0, rfl, by rw [HN.out]; exact Row.nil _ _ _, Below.refl _ _⟩
  | true =>
    have HN : Hid (packedN how l = l.flatMap (kputB how)) := by show _ = _; unfold packedN; rw [hq]; rfl
    rw [hq] at hhb
    clear hq
    go_enter Tryz.func108, Tryz.ntmps108
    go_wp2_with fail
    refine hhb.mono ?_
    rintro e w1 ⟨rfl, rfl⟩
    go_wp2_with fail
    go_loopg [5, 14] n1 (fun m u i wr => ∃ (k : Nat) (ao : Option Addr) (no co : Nat), k + m = n1 ∧ i = .int .i64 k ∧ u = .slice ao no co ∧ Row ekY wr w.heap.size (.slice ao no co) ((l.take k).flatMap (kputB how)) ∧ Below w.heap.size w wr)
    case atStart => exact ⟨0, none, 0, 0, by omega, rfl, rfl, by rw [List.take_zero]; exact Row.nil _ _ _, Below.refl _ _⟩
    case round =>
      obtain ⟨k, ao, no, co, hk, rfl, rfl, hr, hb⟩ := hrel
      by_cases hlt : k < n1
      · obtain ⟨x, Hx⟩ : ∃ x, Hid (l[k]? = some x) := ⟨l[k]'(by rw [← H1.out]; exact hlt), List.getElem?_eq_getElem (by rw [← H1.out]; exact hlt)⟩
        obtain ⟨b, off, rfl, hat⟩ := (h.below UAt.stays hb).get UAt.plain Hx.out
        have s0 : wr.cell? ⟨b, off + k, none⟩ = some (.int .u64 (x : Int)) := by simpa [UAt] using hat
        have hki : (k : Int) < (n1 : Int) := by omega
        have hlk : ((l.take k).flatMap (kputB how)).length ≤ 10000000000000 := by
          have := flat_le (l := l.take k) (f := kputB how) (c := 10) fun a _ => kputB_len how a
          rw [List.length_take] at this
          omega
        have hpb := kputBits_any w.heap.size _ _ how x wr hr hb.size (hm x (List.mem_of_getElem? Hx.out)) hlk
        clear hat
        go_wp2_with fail
        refine hpb.mono ?_
        rintro e w2 ⟨v2, rfl, hr2, hb2⟩
        obtain ⟨a2, n2, c2, rfl, _⟩ := hr2.shape'
        have hr2' : Row ekY w2 w.heap.size (.slice a2 n2 c2) ((l.take (k + 1)).flatMap (kputB how)) := by rw [flat_snoc Hx.out]; exact hr2
        clear hr2
        go_wp2_with fail
        go_roundg (n1 - (k + 1))
        case measure => omega
        case rel => exact ⟨k + 1, a2, n2, c2, by omega, by go_num, rfl, hr2', hb.trans hb2⟩
      · have hr1 : Row ekY wr w.heap.size (.slice ao no co) (packedN how l) := by
          rw [List.take_of_length_le (by rw [← H1.out]; omega)] at hr; rw [HN.out]; exact hr
        clear hr
        go_wp2
        go_ret
        exact ⟨ao, no, co, rfl, hr1, hb⟩

theorem ku_src (w : World) (n : Nat) : ∀ ad, some (⟨w.heap.size, 0, none⟩ : Addr) = some ad → ∀ k y, [n][k]? = some y → ∀ j u, (ekU.enc y)[j]? = some u → (w.alloc (.cells #[.int .u64 (n : Int)] 66)).cell? (ad.add (k * ekU.size + j)) = some u := kone_src ekU w n
set_option maxHeartbeats 1000000 in
set_option maxRecDepth 100000 in
theorem each_any {w : World} {v : Value} {l : List Nat} (h : RdL 1 UAt w v l) (hm : ∀ n ∈ l, n ≤ 18446744073709551615) (hl : l.length ≤ 100000000000) {fn : Nat} (hent : ∀ (args : Array Value) (w : World), (callFunc fn args).run Tryz.prog w = .ok (.enter fn args) w)
    {one : Nat → Nat} (hone : ∀ (n : Nat) (W : World), n ≤ 18446744073709551615 → Calls Tryz.prog fn #[.int .u64 (n : Int)] W fun e w' => e = .returned (.int .u64 ((one n : Nat) : Int)) ∧ W = w') :
    Calls Tryz.prog 135 #[v, .func (.func fn) #[] #[]] w fun e w' => ∃ ao n cap, e = .returned (.slice ao n cap) ∧ Row ekU w' w.heap.size (.slice ao n cap) (l.map one) ∧ Below w.heap.size w w' := by
  obtain ⟨a1, n1, c1, rfl, H1, _⟩ := h.shape
  have hn1 : n1 ≤ 100000000000 := by rw [H1.out]; exact hl
  go_enter Tryz.func135, Tryz.ntmps135
  go_wp2_with fail
  go_loopg [5, 10] n1 (fun m u i wr => ∃ (k : Nat) (ao : Option Addr) (no co : Nat), k + m = n1 ∧ i = .int .i64 k ∧ u = .slice ao no co ∧ Row ekU wr w.heap.size (.slice ao no co) ((l.map one).take k) ∧ Below w.heap.size w wr)
  case atStart => exact ⟨0, none, 0, 0, by omega, rfl, rfl, by rw [List.take_zero]; exact Row.nil _ _ _, Below.refl _ _⟩
  case round =>
    obtain ⟨k, ao, no, co, hk, rfl, rfl, hr, hb⟩ := hrel
    by_cases hlt : k < n1
    · obtain ⟨x, Hx⟩ : ∃ x, Hid (l[k]? = some x) := ⟨l[k]'(by rw [← H1.out]; exact hlt), List.getElem?_eq_getElem (by rw [← H1.out]; exact hlt)⟩
      obtain ⟨b, off, rfl, hat⟩ := (h.below UAt.stays hb).get UAt.plain Hx.out
      have s0 : wr.cell? ⟨b, off + k, none⟩ = some (.int .u64 (x : Int)) := by simpa [UAt] using hat
      have hki : (k : Int) < (n1 : Int) := by omega
      have hcall := hone x wr (hm x (List.mem_of_getElem? Hx.out))
      obtain ⟨y, Hy⟩ : ∃ y, Hid (one x = y) := ⟨_, rfl⟩
      rw [Hy.out] at hcall
      have hbk : ∀ k, (Value.slice ao no co).ownBlock = some k → w.heap.size ≤ k := fun k hk => (hr.own k hk).1
      have hlk : ((l.map one).take k).length ≤ 100000000000 := by rw [List.length_take]; omega
      clear hat
      go_wp2_with fail
      refine hcall.mono ?_
      rintro e w2 ⟨rfl, rfl⟩
      go_wp2_with (at_builtin; refine wpList_appG (by rfl) ekU _ _ (by rfl) w.heap.size (.slice ao no co) ((l.map one).take k) [y] (by rfl) (hr.below ((Below.refl _ _).alloc (Nat.le_refl _) _)) (some ⟨wr.heap.size, 0, none⟩) 1 1 (by rfl) (by rfl) (by intro e; cases e) (ku_src wr y) (by decide) ?d2 ?d3 ?_)
      case d2 => simp [ekU]; omega
      case d3 => simp; have := hb.size; omega
      intro v' w3 hr3 hg3
      obtain ⟨a2, n2, c2, rfl, _⟩ := hr3.shape'
      have hB3 : Below w.heap.size w w3 := (hb.alloc hb.size _).grown hg3 (by simp; have := hb.size; omega) hbk
      have hr3' : Row ekU w3 w.heap.size (.slice a2 n2 c2) ((l.map one).take (k + 1)) := by
        rw [take_snoc (a := y) (by rw [List.getElem?_map, Hx.out, ← Hy.out]; rfl)]; exact hr3
      clear hr3
      go_wp2_with fail
      go_roundg (n1 - (k + 1))
      case measure => omega
      case rel => exact ⟨k + 1, a2, n2, c2, by omega, by go_num, rfl, hr3', hB3⟩
    · have hr1 : Row ekU wr w.heap.size (.slice ao no co) (l.map one) := by
        rw [List.take_of_length_le (by rw [List.length_map, ← H1.out]; omega)] at hr; exact hr
      clear hr
      go_wp2
      go_ret
      exact ⟨ao, no, co, rfl, hr1, hb⟩

end L
end Go.Proofs.YthgbiflfinddiaaGreat
