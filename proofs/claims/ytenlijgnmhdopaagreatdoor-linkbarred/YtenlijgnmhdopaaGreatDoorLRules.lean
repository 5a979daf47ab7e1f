/- The contracts of nameRules and of its function. -/
import Derived.Test.YtenlijgnmhdopaaGreatDoorLBroken
import Derived.Shelf.Abstract
namespace Go.Proofs.YtenlijgnmhdopaaGreatDoor
namespace L
open Go.RowKit

def tFS : TypeId := 73
set_option maxHeartbeats 1000000 in
set_option maxRecDepth 100000 in
theorem nameRules_new (w : World) : Calls Tryz.prog 19 #[] w fun e w' => e = .returned (.slice (some ⟨w.heap.size + 2, 0, none⟩) 1 1) ∧ ((w.alloc (.cells #[.slice none 0 0] 54)).alloc (.cells #[.func (.func 47) #[] #[.pointer (some ⟨w.heap.size, 0, none⟩)]] 73)).alloc (.cells #[.int .i64 7, .func (.func 31) #[] #[.pointer (some ⟨w.heap.size + 1, 0, none⟩)]] 75) = w' := by
  have hmf := makeF
  go_enter Tryz.func19, Tryz.ntmps19
  go_wp2_with fail
  refine (againS_new w).mono ?_
  rintro e w1 ⟨rfl, rfl⟩
  go_wp2
  go_ret
  exact ⟨rfl, rfl⟩

theorem alloc3 (w : World) (o1 o2 o3 : Obj) : (((w.alloc o1).alloc o2).alloc o3).heap[w.heap.size + 2]? = some o3 ∧ (((w.alloc o1).alloc o2).alloc o3).heap[w.heap.size + 1]? = some o2 ∧ (((w.alloc o1).alloc o2).alloc o3).heap[w.heap.size]? = some o1 := by
  refine ⟨?_, ?_, ?_⟩
  · have := heap_alloc_new ((w.alloc o1).alloc o2) o3
    rwa [show ((w.alloc o1).alloc o2).heap.size = w.heap.size + 2 by simp] at this
  · rw [Below.heap_alloc _ _ _ (by simp)]; exact alloc2_new _ _ _
  · rw [Below.heap_alloc _ _ _ (by simp; omega)]; exact alloc2_old _ _ _

/-- What is remembered of names: where, and which. -/
structure SSt (W : World) (B c p : Nat) (l : List (List UInt8)) : Prop where
  row : ∃ v, W.heap[c]? = some (.cells #[v] 54 (0, 0)) ∧ Row ekS W B v l
  fn : W.heap[p]? = some (.cells #[.func (.func 47) #[] #[.pointer (some ⟨c, 0, none⟩)]] 73 (0, 0))
  lt : c < B
theorem SSt.below {W W' : World} {B c p : Nat} {l : List (List UInt8)} (h : SSt W B c p l) (hb : Below W.heap.size W W') : SSt W' B c p l := by
  obtain ⟨⟨v, h1, h2⟩, h3, h4⟩ := h
  exact ⟨⟨v, (hb.block c (Array.getElem?_eq_some_iff.1 h1).1).trans h1, h2.below hb⟩, (hb.block p (Array.getElem?_eq_some_iff.1 h3).1).trans h3, h4⟩

/-- The call of such a function. -/
theorem SSt.call {W : World} {B c p : Nat} {l : List (List UInt8)} (h : SSt W B c p l) (hB : B ≤ W.heap.size) (hl : l.length ≤ 1000) (cs : List Nat) (hc : c ∈ cs) (hp : p ∉ cs) (x : List UInt8) :
    Calls Tryz.prog 47 #[.string (S x), .pointer (some ⟨c, 0, none⟩)] W fun e W' => e = .returned (.bool (decide (x ∈ l))) ∧ SSt W' B c p (addL x l) ∧ Fr B cs W W' := by
  obtain ⟨⟨v, h1, h2⟩, h3, h4⟩ := h
  refine (againS_call h1 h2 h4 hB hl x).mono ?_
  rintro e W' ⟨rfl, v', k1, k2, hu⟩
  have hF : Fr B cs W W' := by
    refine ⟨hu.os, hu.tape, hu.output, hu.size, fun k hk hkc hq => hu.block k hk (fun e => hkc (e ▸ hc)) ?_⟩
    intro e
    have hown := h2.own k e
    rcases h2.2 with ⟨hv, _⟩ | ⟨g, cap, cur, hv, _, hg, _⟩
    · rw [hv] at e; simp [Value.ownBlock] at e
    · rw [hv] at e
      have e : g = k := by simpa [Value.ownBlock] using e
      subst e
      rcases hq with hq | hq
      · omega
      · exact (hq cur (0, 0)).1 hg
  exact ⟨rfl, ⟨⟨v', k1, k2⟩, hF.keep h3 hp (by decide), h4⟩, hF⟩

def nameB (s : List UInt8) (l : List (List UInt8)) : Bool := !namedB s || (keptB s || decide (s ∈ l))
set_option maxHeartbeats 1000000 in
set_option maxRecDepth 100000 in
theorem nameRule_call {W : World} {B c p : Nat} {l : List (List UInt8)} (h : SSt W B c p l) (hB : B ≤ W.heap.size) (hl : l.length ≤ 1000) (hp : p ≠ c) (s : List UInt8) (hs : s.length ≤ 9223372036854775807) :
    Calls Tryz.prog 31 #[.string (S s), .pointer (some ⟨p, 0, none⟩)] W fun e W' => e = .returned (.bool (nameB s l)) ∧ (nameB s l = false → SSt W' B c p (addL s l)) ∧ Fr B [c] W W' := by
  have c0 : W.cell? ⟨p, 0, none⟩ = some (.func (.func 47) #[] #[.pointer (some ⟨c, 0, none⟩)]) := cell_of_blk h.fn 0 _ rfl
  have hnm := named_any s hs W
  have hkp := isKept_any s W
  go_enter Tryz.func31, Tryz.ntmps31
  go_wp2_with fail
  refine hnm.mono ?_
  rintro e w1 ⟨rfl, rfl⟩
  cases hq : namedB s with
  | false =>
    have HN : Hid (nameB s l = true) := by show _ = _; rw [nameB, hq]; rfl
    clear hq hnm hkp
    go_wp2
    go_ret
    refine ⟨by rw [HN.out]; rfl, fun e => ?_, Fr.refl _ _ _⟩
    rw [HN.out] at e; cases e
  | true =>
    go_wp2_with fail
    refine hkp.mono ?_
    rintro e w2 ⟨rfl, hb2⟩
    cases hk : keptB s with
    | true =>
      have HN : Hid (nameB s l = true) := by show _ = _; rw [nameB, hq, hk]; rfl
      clear hq hnm hkp hk
      go_wp2
      go_ret
      refine ⟨by rw [HN.out]; rfl, fun e => ?_, Fr.of_below hb2⟩
      rw [HN.out] at e; cases e
    | false =>
      have HN : Hid (nameB s l = decide (s ∈ l)) := by show _ = _; rw [nameB, hq, hk]; rfl
      have h2 := h.below hb2
      have c2 : w2.cell? ⟨p, 0, none⟩ = some (.func (.func 47) #[] #[.pointer (some ⟨c, 0, none⟩)]) := cell_of_blk h2.fn 0 _ rfl
      have hcc := h2.call (Nat.le_trans hB hb2.size) hl [c] (by simp) (by simpa using hp) s
      clear hq hnm hkp hk c0
      go_wp2_with fail
      refine hcc.mono ?_
      rintro e w3 ⟨rfl, h3, hF3⟩
      go_wp2
      go_ret
      exact ⟨by rw [HN.out]; rfl, fun _ => h3, (Fr.of_below hb2).trans hF3⟩

/-- Of names the first one that is wrong. -/
def stepS : Nat → List UInt8 → List (List UInt8) → Bool × List (List UInt8) := fun _ s l => (nameB s l, addL s l)
theorem rd_len {sz : Nat} {α : Type} {P : World → Addr → α → Prop} {w : World} {v : Value} {l : List α} (h : RdL sz P w v l) : l.length ≤ 9223372036854775807 := by
  obtain ⟨ao, n, cap, _, h1, h2, h3, _⟩ := h
  unfold maxLen at h3; omega
theorem names_broken {w : World} {vl : Value} {l : List (List UInt8)} (hl : RdL 1 SAt w vl l) (hn : l.length ≤ 1000) (hs : ∀ s ∈ l, s.length ≤ 9223372036854775807) :
    Calls Tryz.prog 17 #[vl, .slice (some ⟨w.heap.size + 2, 0, none⟩) 1 1] (((w.alloc (.cells #[.slice none 0 0] 54)).alloc (.cells #[.func (.func 47) #[] #[.pointer (some ⟨w.heap.size, 0, none⟩)]] 73)).alloc (.cells #[.int .i64 7, .func (.func 31) #[] #[.pointer (some ⟨w.heap.size + 1, 0, none⟩)]] 75)) fun e w' => e = .returned (.agg #[.int .i64 (firstGo stepS [7] 0 l []).1, .int .i64 (((firstGo stepS [7] 0 l []).2 : Nat) : Int)]) ∧ Below w.heap.size w w' := by
  obtain ⟨W3, HW3⟩ : ∃ W3, Hid (W3 = ((w.alloc (.cells #[.slice none 0 0] 54)).alloc (.cells #[.func (.func 47) #[] #[.pointer (some ⟨w.heap.size, 0, none⟩)]] 73)).alloc (.cells #[.int .i64 7, .func (.func 31) #[] #[.pointer (some ⟨w.heap.size + 1, 0, none⟩)]] 75)) := ⟨_, rfl⟩
  have hz : W3.heap.size = w.heap.size + 3 := by rw [HW3.out]; simp
  have hb : Below w.heap.size w W3 := by rw [HW3.out]; exact (((Below.refl _ _).alloc (Nat.le_refl _) _).alloc (by simp) _).alloc (by simp; omega) _
  obtain ⟨a3, a2, a1⟩ := alloc3 w (.cells #[.slice none 0 0] 54) (.cells #[.func (.func 47) #[] #[.pointer (some ⟨w.heap.size, 0, none⟩)]] 73) (.cells #[.int .i64 7, .func (.func 31) #[] #[.pointer (some ⟨w.heap.size + 1, 0, none⟩)]] 75)
  rw [← HW3.out] at a1 a2 a3 ⊢
  have hB := brokenS_any (B := W3.heap.size) (B0 := w.heap.size) (cs := [w.heap.size]) (w := W3) (l := l) (rs := [⟨7, 31, #[.pointer (some ⟨w.heap.size + 1, 0, none⟩)]⟩]) (g := w.heap.size + 2) stepS (fun k j s W => SSt W W3.heap.size w.heap.size (w.heap.size + 1) s ∧ s.length ≤ k + j) []
    (fun W hW => hl.below SAt.stays (hb.trans hW)) a3 (by simp) (by omega) (Nat.le_refl _) (by simp) (by simp; omega) (by simp) ?_ ⟨⟨⟨_, a1, Row.nil _ _ _⟩, a2, by omega⟩, by simp⟩ (fun k j s W W' hW hI hb' => ⟨hI.1.below hb', hI.2⟩) (fun k s W _ hI => ⟨hI.1, hI.2⟩) ?_
  · refine hB.mono ?_
    rintro e w' ⟨rfl, hF⟩
    exact ⟨rfl, hb.trans (hF.below (by omega) (by omega) (by simp))⟩
  · intro r hr args w'
    rw [List.mem_singleton] at hr
    subst hr
    exact enters_of Tryz.func31 (by kernel_rfl) rfl args w'
  · intro k j r f s W hf hr hBW _ hI
    have hj : j = 0 := by
      cases j with
      | zero => rfl
      | succ j => simp at hr
    subst hj
    have hr : r = ⟨7, 31, #[.pointer (some ⟨w.heap.size + 1, 0, none⟩)]⟩ := by simpa using hr.symm
    subst hr
    have hk := (List.getElem?_eq_some_iff.1 hf).1
    refine (nameRule_call hI.1 hBW (by have := hI.2; omega) (by omega) f (hs f (mem_at hf))).mono ?_
    rintro e W' ⟨rfl, h1, h2⟩
    refine ⟨rfl, fun e => ⟨h1 e, ?_⟩, h2⟩
    have : (addL f s).length ≤ s.length + 1 := by unfold addL; split <;> simp
    have h3 := hI.2
    show (addL f s).length ≤ k + (0 + 1)
    omega

end L
end Go.Proofs.YtenlijgnmhdopaaGreatDoor
