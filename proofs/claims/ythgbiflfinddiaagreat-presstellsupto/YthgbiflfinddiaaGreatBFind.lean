/- The contracts of Field, valueAt, placeOf and Fits. -/
import Derived.Test.YthgbiflfinddiaaGreatBData
namespace Go.Proofs.YthgbiflfinddiaaGreat
namespace L
open Go.RowKit

set_option maxHeartbeats 1000000 in
set_option maxRecDepth 100000 in
theorem fld1_call {w : World} {c : Nat} {x : Int} (hc : w.heap[c]? = some (.cells #[.int .i64 x] 3 (0, 0))) (f : FI) :
    Calls Tryz.prog 67 #[.agg #[.string (S f.name), .int .i64 f.number, .int .i64 f.kind, .string (S f.type), .bool f.many, .int .i64 f.choice], .pointer (some ⟨c, 0, none⟩)] w fun e w' => e = .returned (.bool (decide (f.number = x))) ∧ Below w.heap.size w w' := by
  have c0 : w.cell? ⟨c, 0, none⟩ = some (.int .i64 x) := cell_of_blk hc 0 _ rfl
  have hcl : c < w.heap.size := (Array.getElem?_eq_some_iff.1 hc).1
  have hba := (Below.refl w.heap.size w).alloc (Nat.le_refl _) (.cells #[.string (S f.name), .int .i64 f.number, .int .i64 f.kind, .string (S f.type), .bool f.many, .int .i64 f.choice] 53)
  obtain ⟨q, Hq⟩ : ∃ q, Hid (q = decide (f.number = x)) := ⟨_, rfl⟩
  have hq : (f.number == x) = q := by rw [Hq.out, Bool.eq_iff_iff]; simp
  rw [← Hq.out]
  go_enter Tryz.func67, Tryz.ntmps67
  go_wp2
  go_ret
  exact ⟨rfl, hba⟩
set_option maxHeartbeats 1000000 in
set_option maxRecDepth 100000 in
theorem fldIdx_any {v : Value} {l : List FI} {w : World} {c : Nat} {x : Int} (h : RdL 6 FAt w v l) (hc : w.heap[c]? = some (.cells #[.int .i64 x] 3 (0, 0))) :
    Calls Tryz.prog 66 #[v, .func (.func 67) #[] #[.pointer (some ⟨c, 0, none⟩)]] w fun e w' => e = .returned (.int .i64 (firstI (fun f => decide (f.number = x)) l)) ∧ Below w.heap.size w w' := by
  obtain ⟨ao, n, cap, rfl, Hn, hcap⟩ := h.shape
  go_enter Tryz.func66, Tryz.ntmps66
  go_wp2_with fail
  go_loopg [8] n (fun m i wr => ∃ k : Nat, k + m = n ∧ i = .int .i64 k ∧ Hid (∀ a ∈ l.take k, decide (a.number = x) = false) ∧ Below w.heap.size w wr)
  case atStart => exact ⟨0, by omega, rfl, by show ∀ a ∈ _, _; simp, Below.refl _ _⟩
  case round =>
    obtain ⟨k, hk, rfl, HK, hb⟩ := hrel
    have hcr := (hb.block c (Array.getElem?_eq_some_iff.1 hc).1).trans hc
    by_cases hlt : k < n
    · obtain ⟨a, Ha⟩ : ∃ a, Hid (l[k]? = some a) := ⟨l[k]'(by rw [← Hn.out]; exact hlt), List.getElem?_eq_getElem (by rw [← Hn.out]; exact hlt)⟩
      obtain ⟨b, off, rfl, hat⟩ := (h.below FAt.stays hb).get FAt.plain Ha.out
      obtain ⟨s0, s1, s2, s3, s4, s5⟩ := hat.at
      have hki : (k : Int) < (n : Int) := by omega
      have hcall := fld1_call hcr a
      cases hq : decide (a.number = x) with
      | true =>
        have HF : Hid (firstI (fun f => decide (f.number = x)) l = (k : Int)) := first_at Ha.out HK.out hq
        rw [hq] at hcall
        clear hq hat
        go_wp2_with fail
        refine hcall.mono ?_
        rintro e w1 ⟨rfl, hb1⟩
        go_wp2
        go_ret
        exact ⟨by rw [HF.out]; rfl, hb.trans (hb1.mono hb.size)⟩
      | false =>
        have HX : Hid (∀ a ∈ l.take (k + 1), decide (a.number = x) = false) := by
          show ∀ a ∈ _, _
          rw [take_snoc Ha.out]
          intro y hy
          rcases List.mem_append.1 hy with hy | hy
          · exact HK.out y hy
          · rw [List.mem_singleton] at hy; rw [hy]; exact hq
        rw [hq] at hcall
        clear hq hat
        go_wp2_with fail
        refine hcall.mono ?_
        rintro e w1 ⟨rfl, hb1⟩
        go_wp2_with fail
        go_roundg (n - (k + 1))
        case measure => omega
        case rel => exact ⟨k + 1, by omega, by go_num, HX, hb.trans (hb1.mono hb.size)⟩
    · have HF : Hid (firstI (fun f => decide (f.number = x)) l = -1) := by
        have := HK.out
        rw [List.take_of_length_le (by rw [← Hn.out]; omega)] at this
        exact first_none this
      go_wp2
      go_ret
      exact ⟨by rw [HF.out]; rfl, hb⟩
set_option maxHeartbeats 1000000 in
set_option maxRecDepth 100000 in
theorem field_any {nm vf vb : Value} {l : List FI} {w : World} (h : RdL 6 FAt w vf l) (hvb : ∃ ao n cap, vb = .slice ao n cap) (hnm : ∃ s : List UInt8, nm = .string (S s)) (x : Int) :
    Calls Tryz.prog 34 #[.agg #[nm, vf, vb], .int .i64 x] w fun e w' => e = .returned (.int .i64 (firstI (fun f => decide (f.number = x)) l)) ∧ Below w.heap.size w w' := by
  obtain ⟨ao, n, cap, rfl, Hn, hcap⟩ := h.shape
  obtain ⟨ae, ne, ce, rfl⟩ := hvb
  obtain ⟨s, rfl⟩ := hnm
  have hb2 : Below w.heap.size w ((w.alloc (.cells #[.string (S s), .slice ao n cap, .slice ae ne ce] 49)).alloc (.cells #[.int .i64 x] 3)) := ((Below.refl _ _).alloc (Nat.le_refl _) _).alloc (by simp) _
  have hi := fldIdx_any (h.below FAt.stays hb2) (alloc2_new w _ _)
  have hmf := makeF
  go_enter Tryz.func34, Tryz.ntmps34
  go_wp2_with fail
  refine hi.mono ?_
  rintro e w1 ⟨rfl, hb1⟩
  go_wp2
  go_ret
  exact ⟨rfl, hb2.trans (hb1.mono hb2.size)⟩

set_option maxHeartbeats 1000000 in
set_option maxRecDepth 100000 in
theorem val1_call {β : Type} {w : World} {c : Nat} {x : Int} (hc : w.heap[c]? = some (.cells #[.int .i64 x] 3 (0, 0))) (v : VI β) (a1 : Option Addr) (n1 c1 : Nat) (a2 : Option Addr) (n2 c2 : Nat) (a3 : Option Addr) (n3 c3 : Nat) :
    Calls Tryz.prog 105 #[.agg #[.int .i64 v.number, .slice a1 n1 c1, .slice a2 n2 c2, .slice a3 n3 c3], .pointer (some ⟨c, 0, none⟩)] w fun e w' => e = .returned (.bool (decide (v.number = x))) ∧ Below w.heap.size w w' := by
  have c0 : w.cell? ⟨c, 0, none⟩ = some (.int .i64 x) := cell_of_blk hc 0 _ rfl
  have hcl : c < w.heap.size := (Array.getElem?_eq_some_iff.1 hc).1
  have hba := (Below.refl w.heap.size w).alloc (Nat.le_refl _) (.cells #[.int .i64 v.number, .slice a1 n1 c1, .slice a2 n2 c2, .slice a3 n3 c3] 71)
  obtain ⟨q, Hq⟩ : ∃ q, Hid (q = decide (v.number = x)) := ⟨_, rfl⟩
  have hq : (v.number == x) = q := by rw [Hq.out, Bool.eq_iff_iff]; simp
  rw [← Hq.out]
  go_enter Tryz.func105, Tryz.ntmps105
  go_wp2
  go_ret
  exact ⟨rfl, hba⟩
set_option maxHeartbeats 1000000 in
set_option maxRecDepth 100000 in
theorem valIdx_any {β : Type} {P : World → Addr → β → Prop} (hP : Stays P) {v : Value} {l : List (VI β)} {w : World} {c : Nat} {x : Int} (h : RdL 4 (VAt P) w v l) (hc : w.heap[c]? = some (.cells #[.int .i64 x] 3 (0, 0))) :
    Calls Tryz.prog 104 #[v, .func (.func 105) #[] #[.pointer (some ⟨c, 0, none⟩)]] w fun e w' => e = .returned (.int .i64 (firstI (fun v => decide (v.number = x)) l)) ∧ Below w.heap.size w w' := by
  obtain ⟨ao, n, cap, rfl, Hn, hcap⟩ := h.shape
  go_enter Tryz.func104, Tryz.ntmps104
  go_wp2_with fail
  go_loopg [8] n (fun m i wr => ∃ k : Nat, k + m = n ∧ i = .int .i64 k ∧ Hid (∀ a ∈ l.take k, decide (a.number = x) = false) ∧ Below w.heap.size w wr)
  case atStart => exact ⟨0, by omega, rfl, by show ∀ a ∈ _, _; simp, Below.refl _ _⟩
  case round =>
    obtain ⟨k, hk, rfl, HK, hb⟩ := hrel
    have hcr := (hb.block c (Array.getElem?_eq_some_iff.1 hc).1).trans hc
    by_cases hlt : k < n
    · obtain ⟨a, Ha⟩ : ∃ a, Hid (l[k]? = some a) := ⟨l[k]'(by rw [← Hn.out]; exact hlt), List.getElem?_eq_getElem (by rw [← Hn.out]; exact hlt)⟩
      obtain ⟨b, off, rfl, hat⟩ := (h.below (VAt.stays hP) hb).get VAt.plain Ha.out
      obtain ⟨v1, v2, v3, s0, s1, s2, s3, r1, r2, r3⟩ := hat.at
      obtain ⟨a1, n1, c1, rfl, _, _⟩ := r1.shape
      obtain ⟨a2, n2, c2, rfl, _, _⟩ := r2.shape
      obtain ⟨a3, n3, c3, rfl, _, _⟩ := r3.shape
      have hki : (k : Int) < (n : Int) := by omega
      have hcall := val1_call hcr a a1 n1 c1 a2 n2 c2 a3 n3 c3
      cases hq : decide (a.number = x) with
      | true =>
        have HF : Hid (firstI (fun v => decide (v.number = x)) l = (k : Int)) := first_at Ha.out HK.out hq
        rw [hq] at hcall
        clear hq hat r1 r2 r3
        go_wp2_with fail
        refine hcall.mono ?_
        rintro e w1 ⟨rfl, hb1⟩
        go_wp2
        go_ret
        exact ⟨by rw [HF.out]; rfl, hb.trans (hb1.mono hb.size)⟩
      | false =>
        have HX : Hid (∀ a ∈ l.take (k + 1), decide (a.number = x) = false) := by
          show ∀ a ∈ _, _
          rw [take_snoc Ha.out]
          intro y hy
          rcases List.mem_append.1 hy with hy | hy
          · exact HK.out y hy
          · rw [List.mem_singleton] at hy; rw [hy]; exact hq
        rw [hq] at hcall
        clear hq hat r1 r2 r3
        go_wp2_with fail
        refine hcall.mono ?_
        rintro e w1 ⟨rfl, hb1⟩
        go_wp2_with fail
        go_roundg (n - (k + 1))
        case measure => omega
        case rel => exact ⟨k + 1, by omega, by go_num, HX, hb.trans (hb1.mono hb.size)⟩
    · have HF : Hid (firstI (fun v => decide (v.number = x)) l = -1) := by
        have := HK.out
        rw [List.take_of_length_le (by rw [← Hn.out]; omega)] at this
        exact first_none this
      go_wp2
      go_ret
      exact ⟨by rw [HF.out]; rfl, hb⟩
set_option maxHeartbeats 1000000 in
set_option maxRecDepth 100000 in
theorem valueAt_any {β : Type} {P : World → Addr → β → Prop} (hP : Stays P) {v0 v1 : Value} {l : List (VI β)} {w : World} (h : RdL 4 (VAt P) w v0 l) (hv1 : ∃ ao n cap, v1 = .slice ao n cap) (x : Int) :
    Calls Tryz.prog 74 #[.agg #[v0, v1], .int .i64 x] w fun e w' => e = .returned (.int .i64 (firstI (fun v => decide (v.number = x)) l)) ∧ Below w.heap.size w w' := by
  obtain ⟨ao, n, cap, rfl, Hn, hcap⟩ := h.shape
  obtain ⟨ae, ne, ce, rfl⟩ := hv1
  have hb2 : Below w.heap.size w ((w.alloc (.cells #[.slice ao n cap, .slice ae ne ce] 30)).alloc (.cells #[.int .i64 x] 3)) := ((Below.refl _ _).alloc (Nat.le_refl _) _).alloc (by simp) _
  have hi := valIdx_any hP (h.below (VAt.stays hP) hb2) (alloc2_new w _ _)
  have hmf := makeF
  go_enter Tryz.func74, Tryz.ntmps74
  go_wp2_with fail
  refine hi.mono ?_
  rintro e w1 ⟨rfl, hb1⟩
  go_wp2
  go_ret
  exact ⟨rfl, hb2.trans (hb1.mono hb2.size)⟩

end L
end Go.Proofs.YthgbiflfinddiaaGreat
