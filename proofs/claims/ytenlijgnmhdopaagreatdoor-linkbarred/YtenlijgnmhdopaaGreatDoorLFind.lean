/- The contracts of Message and Enum. -/
import Derived.Test.YtenlijgnmhdopaaGreatDoorLAgain
namespace Go.Proofs.YtenlijgnmhdopaaGreatDoor
namespace L
open Go.RowKit

/-- Which entry is such first; -1, if none is. -/
def firstI {α : Type} (p : α → Bool) (l : List α) : Int := match l.findIdx? p with | some k => (k : Int) | none => -1
theorem first_at {α : Type} {p : α → Bool} {l : List α} {k : Nat} {a : α} (ha : l[k]? = some a) (h : ∀ b ∈ l.take k, p b = false) (hp : p a = true) : firstI p l = (k : Int) := by
  have e : l.findIdx? p = some k := by
    rw [List.findIdx?_eq_some_iff_getElem]
    obtain ⟨hk, e⟩ := List.getElem?_eq_some_iff.1 ha
    refine ⟨hk, by rw [e]; exact hp, ?_⟩
    intro j hj
    rw [h _ (List.mem_take_iff_getElem.2 ⟨j, by omega, rfl⟩)]
    simp
  unfold firstI
  rw [e]
theorem first_none {α : Type} {p : α → Bool} {l : List α} (h : ∀ b ∈ l, p b = false) : firstI p l = -1 := by
  have e : l.findIdx? p = none := by rw [List.findIdx?_eq_none_iff]; exact h
  unfold firstI
  rw [e]

set_option maxHeartbeats 1000000 in
set_option maxRecDepth 100000 in
theorem msg1_call {w : World} {c : Nat} {x : List UInt8} (hc : w.heap[c]? = some (.cells #[.string (S x)] 9 (0, 0))) (a : List UInt8) (a1 : Option Addr) (n1 c1 : Nat) (a2 : Option Addr) (n2 c2 : Nat) :
    Calls Tryz.prog 23 #[.agg #[.string (S a), .slice a1 n1 c1, .slice a2 n2 c2], .pointer (some ⟨c, 0, none⟩)] w fun e w' => e = .returned (.bool (decide (a = x))) ∧ Below w.heap.size w w' := by
  have c0 : w.cell? ⟨c, 0, none⟩ = some (.string (S x)) := cell_of_blk hc 0 _ rfl
  have hcl : c < w.heap.size := (Array.getElem?_eq_some_iff.1 hc).1
  have hla := S_list a
  have hlx := S_list x
  have hba := (Below.refl w.heap.size w).alloc (Nat.le_refl _) (.cells #[.string (S a), .slice a1 n1 c1, .slice a2 n2 c2] 37)
  obtain ⟨q, Hq⟩ : ∃ q, Hid (q = decide (a = x)) := ⟨_, rfl⟩
  have hq : (a == x) = q := by rw [Hq.out, Bool.eq_iff_iff]; simp
  rw [← Hq.out]
  go_enter Tryz.func23, Tryz.ntmps23
  go_wp2
  go_ret
  exact ⟨rfl, hba⟩
set_option maxHeartbeats 1000000 in
set_option maxRecDepth 100000 in
theorem msgIdx_any {v : Value} {l : List MI} {w : World} {c : Nat} {x : List UInt8} (h : RdL 3 MAt w v l) (hc : w.heap[c]? = some (.cells #[.string (S x)] 9 (0, 0))) :
    Calls Tryz.prog 22 #[v, .func (.func 23) #[] #[.pointer (some ⟨c, 0, none⟩)]] w fun e w' => e = .returned (.int .i64 (firstI (fun m => decide (m.name = x)) l)) ∧ Below w.heap.size w w' := by
  obtain ⟨ao, n, cap, rfl, Hn, hcap⟩ := h.shape
  go_enter Tryz.func22, Tryz.ntmps22
  go_wp2_with fail
  go_loopg [8] n (fun m i wr => ∃ k : Nat, k + m = n ∧ i = .int .i64 k ∧ Hid (∀ a ∈ l.take k, decide (a.name = x) = false) ∧ Below w.heap.size w wr)
  case atStart => exact ⟨0, by omega, rfl, by show ∀ a ∈ _, _; simp, Below.refl _ _⟩
  case round =>
    obtain ⟨k, hk, rfl, HK, hb⟩ := hrel
    have hcr := (hb.block c (Array.getElem?_eq_some_iff.1 hc).1).trans hc
    by_cases hlt : k < n
    · obtain ⟨a, Ha⟩ : ∃ a, Hid (l[k]? = some a) := ⟨l[k]'(by rw [← Hn.out]; exact hlt), List.getElem?_eq_getElem (by rw [← Hn.out]; exact hlt)⟩
      obtain ⟨b, off, rfl, hat⟩ := (h.below MAt.stays hb).get MAt.plain Ha.out
      obtain ⟨vf, vb, s0, s1, s2, hrf, hrb⟩ := hat.at
      obtain ⟨af, nf, cf, rfl, _, _⟩ := hrf.shape
      obtain ⟨ab, nb, cb, rfl, _, _⟩ := hrb.shape
      have hki : (k : Int) < (n : Int) := by omega
      have hcall := msg1_call hcr a.name af nf cf ab nb cb
      cases hq : decide (a.name = x) with
      | true =>
        have HF : Hid (firstI (fun m => decide (m.name = x)) l = (k : Int)) := first_at Ha.out HK.out hq
        rw [hq] at hcall
        clear hq
        go_wp2_with fail
        refine hcall.mono ?_
        rintro e w1 ⟨rfl, hb1⟩
        go_wp2
        go_ret
        exact ⟨by rw [HF.out]; rfl, hb.trans (hb1.mono hb.size)⟩
      | false =>
        have HX : Hid (∀ a ∈ l.take (k + 1), decide (a.name = x) = false) := by
          show ∀ a ∈ _, _
          rw [take_snoc Ha.out]
          intro y hy
          rcases List.mem_append.1 hy with hy | hy
          · exact HK.out y hy
          · rw [List.mem_singleton] at hy; rw [hy]; exact hq
        rw [hq] at hcall
        clear hq
        go_wp2_with fail
        refine hcall.mono ?_
        rintro e w1 ⟨rfl, hb1⟩
        go_wp2_with fail
        go_roundg (n - (k + 1))
        case measure => omega
        case rel => exact ⟨k + 1, by omega, by go_num, HX, hb.trans (hb1.mono hb.size)⟩
    · have HF : Hid (firstI (fun m => decide (m.name = x)) l = -1) := by
        have := HK.out
        rw [List.take_of_length_le (by rw [← Hn.out]; omega)] at this
        exact first_none this
      go_wp2
      go_ret
      exact ⟨by rw [HF.out]; rfl, hb⟩
set_option maxHeartbeats 1000000 in
set_option maxRecDepth 100000 in
theorem message_any {vm ve : Value} {l : List MI} {w : World} (h : RdL 3 MAt w vm l) (hve : ∃ ao n cap, ve = .slice ao n cap) (x : List UInt8) :
    Calls Tryz.prog 9 #[.agg #[vm, ve], .string (S x)] w fun e w' => e = .returned (.int .i64 (firstI (fun m => decide (m.name = x)) l)) ∧ Below w.heap.size w w' := by
  obtain ⟨ao, n, cap, rfl, Hn, hcap⟩ := h.shape
  obtain ⟨ae, ne, ce, rfl⟩ := hve
  have hmf := makeF
  have hb2 : Below w.heap.size w ((w.alloc (.cells #[.slice ao n cap, .slice ae ne ce] 25)).alloc (.cells #[.string (S x)] 9)) := ((Below.refl _ _).alloc (Nat.le_refl _) _).alloc (by simp) _
  have hi := msgIdx_any (h.below MAt.stays hb2) (alloc2_new w _ _)
  go_enter Tryz.func9, Tryz.ntmps9
  go_wp2_with fail
  refine hi.mono ?_
  rintro e w1 ⟨rfl, hb1⟩
  go_wp2
  go_ret
  exact ⟨rfl, hb2.trans (hb1.mono hb2.size)⟩

set_option maxHeartbeats 1000000 in
set_option maxRecDepth 100000 in
theorem enm1_call {w : World} {c : Nat} {x : List UInt8} (hc : w.heap[c]? = some (.cells #[.string (S x)] 9 (0, 0))) (a : List UInt8) (a1 : Option Addr) (n1 c1 : Nat) :
    Calls Tryz.prog 25 #[.agg #[.string (S a), .slice a1 n1 c1], .pointer (some ⟨c, 0, none⟩)] w fun e w' => e = .returned (.bool (decide (a = x))) ∧ Below w.heap.size w w' := by
  have c0 : w.cell? ⟨c, 0, none⟩ = some (.string (S x)) := cell_of_blk hc 0 _ rfl
  have hcl : c < w.heap.size := (Array.getElem?_eq_some_iff.1 hc).1
  have hla := S_list a
  have hlx := S_list x
  have hba := (Below.refl w.heap.size w).alloc (Nat.le_refl _) (.cells #[.string (S a), .slice a1 n1 c1] 50)
  obtain ⟨q, Hq⟩ : ∃ q, Hid (q = decide (a = x)) := ⟨_, rfl⟩
  have hq : (a == x) = q := by rw [Hq.out, Bool.eq_iff_iff]; simp
  rw [← Hq.out]
  go_enter Tryz.func25, Tryz.ntmps25
  go_wp2
  go_ret
  exact ⟨rfl, hba⟩
set_option maxHeartbeats 1000000 in
set_option maxRecDepth 100000 in
theorem enmIdx_any {v : Value} {l : List EI} {w : World} {c : Nat} {x : List UInt8} (h : RdL 2 EAt w v l) (hc : w.heap[c]? = some (.cells #[.string (S x)] 9 (0, 0))) :
    Calls Tryz.prog 24 #[v, .func (.func 25) #[] #[.pointer (some ⟨c, 0, none⟩)]] w fun e w' => e = .returned (.int .i64 (firstI (fun m => decide (m.name = x)) l)) ∧ Below w.heap.size w w' := by
  obtain ⟨ao, n, cap, rfl, Hn, hcap⟩ := h.shape
  go_enter Tryz.func24, Tryz.ntmps24
  go_wp2_with fail
  go_loopg [8] n (fun m i wr => ∃ k : Nat, k + m = n ∧ i = .int .i64 k ∧ Hid (∀ a ∈ l.take k, decide (a.name = x) = false) ∧ Below w.heap.size w wr)
  case atStart => exact ⟨0, by omega, rfl, by show ∀ a ∈ _, _; simp, Below.refl _ _⟩
  case round =>
    obtain ⟨k, hk, rfl, HK, hb⟩ := hrel
    have hcr := (hb.block c (Array.getElem?_eq_some_iff.1 hc).1).trans hc
    by_cases hlt : k < n
    · obtain ⟨a, Ha⟩ : ∃ a, Hid (l[k]? = some a) := ⟨l[k]'(by rw [← Hn.out]; exact hlt), List.getElem?_eq_getElem (by rw [← Hn.out]; exact hlt)⟩
      obtain ⟨b, off, rfl, hat⟩ := (h.below EAt.stays hb).get EAt.plain Ha.out
      obtain ⟨vi, s0, s1, hri⟩ := hat.at
      obtain ⟨ai, ni, ci, rfl, _, _⟩ := hri.shape
      have hki : (k : Int) < (n : Int) := by omega
      have hcall := enm1_call hcr a.name ai ni ci
      cases hq : decide (a.name = x) with
      | true =>
        have HF : Hid (firstI (fun m => decide (m.name = x)) l = (k : Int)) := first_at Ha.out HK.out hq
        rw [hq] at hcall
        clear hq
        go_wp2_with fail
        refine hcall.mono ?_
        rintro e w1 ⟨rfl, hb1⟩
        go_wp2
        go_ret
        exact ⟨by rw [HF.out]; rfl, hb.trans (hb1.mono hb.size)⟩
      | false =>
        have HX : Hid (∀ a ∈ l.take (k + 1), decide (a.name = x) = false) := by
          show ∀ a ∈ _, _
          rw [take_snoc Ha.out]
          intro y hy
          rcases List.mem_append.1 hy with hy | hy
          · exact HK.out y hy
          · rw [List.mem_singleton] at hy; rw [hy]; exact hq
        rw [hq] at hcall
        clear hq
        go_wp2_with fail
        refine hcall.mono ?_
        rintro e w1 ⟨rfl, hb1⟩
        go_wp2_with fail
        go_roundg (n - (k + 1))
        case measure => omega
        case rel => exact ⟨k + 1, by omega, by go_num, HX, hb.trans (hb1.mono hb.size)⟩
    · have HF : Hid (firstI (fun m => decide (m.name = x)) l = -1) := by
        have := HK.out
        rw [List.take_of_length_le (by rw [← Hn.out]; omega)] at this
        exact first_none this
      go_wp2
      go_ret
      exact ⟨by rw [HF.out]; rfl, hb⟩
set_option maxHeartbeats 1000000 in
set_option maxRecDepth 100000 in
theorem enum_any {vm ve : Value} {l : List EI} {w : World} (h : RdL 2 EAt w ve l) (hve : ∃ ao n cap, vm = .slice ao n cap) (x : List UInt8) :
    Calls Tryz.prog 10 #[.agg #[vm, ve], .string (S x)] w fun e w' => e = .returned (.int .i64 (firstI (fun m => decide (m.name = x)) l)) ∧ Below w.heap.size w w' := by
  obtain ⟨ao, n, cap, rfl, Hn, hcap⟩ := h.shape
  obtain ⟨ae, ne, ce, rfl⟩ := hve
  have hmf := makeF
  have hb2 : Below w.heap.size w ((w.alloc (.cells #[.slice ae ne ce, .slice ao n cap] 25)).alloc (.cells #[.string (S x)] 9)) := ((Below.refl _ _).alloc (Nat.le_refl _) _).alloc (by simp) _
  have hi := enmIdx_any (h.below EAt.stays hb2) (alloc2_new w _ _)
  go_enter Tryz.func10, Tryz.ntmps10
  go_wp2_with fail
  refine hi.mono ?_
  rintro e w1 ⟨rfl, hb1⟩
  go_wp2
  go_ret
  exact ⟨rfl, hb2.trans (hb1.mono hb2.size)⟩

end L
end Go.Proofs.YtenlijgnmhdopaaGreatDoor
