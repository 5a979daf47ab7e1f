/- What is written is read: the law's walk. -/
import Derived.Test.YtenlijgnmhdopaaWAlive
import Derived.Test.YtenlijgnmhdopaaWBack
namespace Go.Proofs.Ytenlijgnmhdopaa
open Go.RowKit

theorem bytes_eq {ao : Option Addr} {len cap : Nat} {rs : List Rcd} {w : World} (hr : RdR w ao len cap rs) {B : List UInt8} {E : Int} {A : Nat} (h : bytesGo 0 [] rs = (B, E, A)) :
    Calls Try.prog 12 #[.slice ao len cap] w fun e w' => ∃ v', e = .returned (.tuple #[v', .agg #[.int .i64 E, .int .i64 (A : Int)]]) ∧ OwnB w' w.heap.size v' B ∧ Below w.heap.size w w' := by
  have := bytes_any ao len cap rs w hr
  rw [h] at this
  exact this

theorem RdR.drewN {w : World} {ao : Option Addr} {len cap : Nat} {rs : List Rcd} (h : RdR w ao len cap rs) (n : Nat) : RdR (w.drewN n) ao len cap rs := h
theorem below_new (w : World) (o : Obj) : Below w.heap.size w (w.alloc o) := (Below.refl _ _).alloc (Nat.le_refl _) o
theorem drewN_size (w : World) (n : Nat) : (w.drewN n).heap.size = w.heap.size := rfl

set_option maxHeartbeats 2000000 in
set_option maxRecDepth 100000 in
theorem turns_yy (ao : Option Addr) (la ca : Nat) (rs : List Rcd) (bo : Option Addr) (lb cb : Nat) (l : List UInt8) (w : World) (hr : RdR w ao la ca rs) (hb : RdA w bo lb cb l)
    {B : List UInt8} {E1 : Int} {A : Nat} (h1 : bytesGo 0 [] rs = (B, E1, A)) (hE1 : E1 = 0) {ms : List Rcd} {E2 A2 : Nat} (h2 : parseR l = (ms, E2, A2)) (hE2 : E2 = 0) :
    Calls Try.prog 4 #[.slice ao la ca, .slice bo lb cb] w fun e w' => e = .returned (.bool true) ∧ Below w.heap.size w w' := by
  subst hE1
  have H3 : Hid (parseR B = (rs, 0, 0)) := (parse_of_bytes (fun r hr' => (hr.2.2.2.2.1 r hr').2.2.2.2) h1).2
  have H1 : Hid (bytesGo 0 [] rs = (B, 0, A)) := h1
  subst hE2
  obtain ⟨P, hP1, hP2, hP3, hP4⟩ := parseR_good h2
  have HP1 : Hid (bytesGo 0 [] ms = (P, 0, 0)) := hP1
  have HP3 : Hid (parseR P = (ms, 0, 0)) := hP3
  have H2 : Hid (parseR l = (ms, 0, A2)) := h2
  have HLb : Hid (l.length = lb) := hb.1
  clear hP1 hP3
  clear h1 h2
  go_enter Try.func4, Try.ntmps4
  go_wp2_with fail
  refine (alive_any w).mono ?_
  rintro e w1 ⟨rfl, hb1⟩
  go_wp2_with fail
  refine (bytes_eq (hr.later hb1) H1.out).mono ?_
  rintro e w2 ⟨v2, rfl, ho2, hb2⟩
  obtain ⟨ao2, len2, cap2, hv2, hr2⟩ := ho2.rd
  rw [hv2]
  have hw2 : Below w.heap.size w w2 := hb1.trans (hb2.mono hb1.size)
  have hr2' := hr2.later (below_new w2 (.cells #[.int .i64 0, .int .i64 (A : Int)] 34))
  clear ho2 hv2 hr2
  go_wp2_with fail
  refine (parse_eq hr2' H3.out).mono ?_
  rintro e w3 ⟨v3, ps, rfl, ho3, hps, hb3⟩
  obtain ⟨ao3, len3, cap3, hv3, hr3⟩ := ho3.rd
  rw [hps] at hr3
  rw [hv3]
  have hw3 : Below w.heap.size w w3 := (hw2.alloc hw2.size _).trans (hb3.mono (by have := hw2.size; simp; omega))
  have hr3' := hr3.later (below_new w3 (.cells #[.int .i64 0, .int .i64 0] 34))
  have hr' := hr.later (hw3.alloc hw3.size (.cells #[.int .i64 0, .int .i64 0] 34))
  clear ho3 hv3 hps hr3
  go_wp2_with fail
  refine (same_yes hr3' hr').mono ?_
  rintro e w4 ⟨rfl, nq, rfl⟩
  have hX : Below w.heap.size w ((w3.alloc (.cells #[.int .i64 0, .int .i64 0] 34)).drewN nq) := below_drewN (hw3.alloc hw3.size _) nq
  have hbX := hb.later hX
  have hXs := hX.size
  go_wp2_with fail
  refine (parse_eq hbX H2.out).mono ?_
  rintro e w5 ⟨v5, ps5, rfl, ho5, hps5, hb5⟩
  obtain ⟨ao5, len5, cap5, hv5, hr5⟩ := ho5.rd
  rw [hps5] at hr5
  rw [hv5]
  have hw5 : Below w.heap.size w w5 := hX.trans (hb5.mono hXs)
  have hr5' := hr5.later (below_new w5 (.cells #[.int .i64 0, .int .i64 (A2 : Int)] 34))
  clear hv5 ho5 hps5
  go_wp2_with fail
  refine (bytes_eq hr5' HP1.out).mono ?_
  rintro e w6 ⟨v6, rfl, ho6, hb6⟩
  obtain ⟨g0, g1, g2, g3⟩ := cells2 (g := w5.heap.size) (t := 34) (a := .int .i64 0) (b := .int .i64 (A2 : Int)) (by exact heap_alloc_new w5 _) hb6 (by simp)
  have hw6 : Below w5.heap.size w5 w6 := (below_new w5 _).trans (hb6.mono (by simp))
  have hs6 : w5.heap.size < w6.heap.size := by have := hb6.size; simp at this; omega
  have ho6' : OwnB ((w6.setCell ⟨w5.heap.size, 0, none⟩ (.int .i64 0)).setCell ⟨w5.heap.size, 1, none⟩ (.int .i64 0)) (w5.heap.size + 1) v6 P := by
    have := ownsRow_setCell_below (ownsRow_setCell_below ho6 (a := ⟨w5.heap.size, 0, none⟩) (by simp) (.int .i64 0)) (a := ⟨w5.heap.size, 1, none⟩) (by simp) (.int .i64 0)
    exact OwnB.mono this (by simp)
  have hw6' : Below w5.heap.size w5 ((w6.setCell ⟨w5.heap.size, 0, none⟩ (.int .i64 0)).setCell ⟨w5.heap.size, 1, none⟩ (.int .i64 0)) := (hw6.setCell (Nat.le_refl _) _).setCell (Nat.le_refl _) _
  obtain ⟨ao6, len6, cap6, hv6, hr6⟩ := ho6'.rd
  rw [hv6]
  have HL6 : Hid (P.length = len6) := hr6.1
  have q6 : len6 ≤ lb := by rw [← HL6.out, ← HLb.out]; exact hP2
  have q7 : len6 ≤ 4000 := by rw [← HL6.out]; exact hP4
  have hlbm : lb ≤ 9223372036854775807 := by have := hb.2.1; have := hb.2.2.1; unfold maxLen at this; omega
  have d6 : decide (len6 ≤ lb) = true := by simp; omega
  clear ho6 ho6' hv6
  go_wp2_with fail
  refine (parse_eq hr6 HP3.out).mono ?_
  rintro e w7 ⟨v7, ps7, rfl, ho7, hps7, hb7⟩
  obtain ⟨ao7, len7, cap7, hv7, hr7⟩ := ho7.rd
  rw [hps7] at hr7
  rw [hv7]
  have hw7 : Below w5.heap.size w5 w7 := hw6'.trans (hb7.mono (by have := hw6'.size; omega))
  have hr7' := hr7.later (below_new w7 (.cells #[.int .i64 0, .int .i64 0] 34))
  have hr5'' := hr5.later (hw7.alloc hw7.size (.cells #[.int .i64 0, .int .i64 0] 34))
  have e6 : ((w6.setCell ⟨w5.heap.size, 0, none⟩ (.int .i64 0)).setCell ⟨w5.heap.size, 1, none⟩ (.int .i64 0)).heap.size = w6.heap.size := by simp [World.setCell]
  have k0 : w7.cell? ⟨w5.heap.size, 0, none⟩ = some (.int .i64 0) := (hb7.cell (p := ⟨w5.heap.size, 0, none⟩) (by rw [e6]; exact hs6)).trans (by simp [go_sem, g0])
  have hs7 : w5.heap.size < w7.heap.size := by have := hb7.size; rw [e6] at this; omega
  have hfin : Below w.heap.size w (w7.alloc (.cells #[.int .i64 0, .int .i64 0] 34)) := (hw5.trans (hw7.mono hw5.size)).alloc (by have := (hw5.trans (hw7.mono hw5.size)).size; exact this) _
  clear e6 ho7 hv7 hps7 hr7 g0 g1 g2 g3 q7 hP2 hP4
  go_wp2_with (go_at_call 14; refine (same_yes hr5'' hr7').mono ?_; rintro e w8 ⟨rfl, nr, rfl⟩)
  go_ret
  exact ⟨rfl, below_drewN hfin nr⟩

set_option maxHeartbeats 2000000 in
set_option maxRecDepth 100000 in
theorem turns_yn (ao : Option Addr) (la ca : Nat) (rs : List Rcd) (bo : Option Addr) (lb cb : Nat) (l : List UInt8) (w : World) (hr : RdR w ao la ca rs) (hb : RdA w bo lb cb l)
    {B : List UInt8} {E1 : Int} {A : Nat} (h1 : bytesGo 0 [] rs = (B, E1, A)) (hE1 : E1 = 0) {ms : List Rcd} {E2 A2 : Nat} (h2 : parseR l = (ms, E2, A2)) (hE2 : E2 ≠ 0) :
    Calls Try.prog 4 #[.slice ao la ca, .slice bo lb cb] w fun e w' => e = .returned (.bool true) ∧ Below w.heap.size w w' := by
  subst hE1
  have H3 : Hid (parseR B = (rs, 0, 0)) := (parse_of_bytes (fun r hr' => (hr.2.2.2.2.1 r hr').2.2.2.2) h1).2
  have H1 : Hid (bytesGo 0 [] rs = (B, 0, A)) := h1
  have H4 : Hid (ms = []) := parseR_bad h2 hE2
  have e2 : ((E2 : Int) != 0) = true := by rw [bne_iff_ne]; omega
  have H2 : Hid (parseR l = (ms, E2, A2)) := h2
  clear hE2
  clear h1 h2
  go_enter Try.func4, Try.ntmps4
  go_wp2_with fail
  refine (alive_any w).mono ?_
  rintro e w1 ⟨rfl, hb1⟩
  go_wp2_with fail
  refine (bytes_eq (hr.later hb1) H1.out).mono ?_
  rintro e w2 ⟨v2, rfl, ho2, hb2⟩
  obtain ⟨ao2, len2, cap2, hv2, hr2⟩ := ho2.rd
  rw [hv2]
  have hw2 : Below w.heap.size w w2 := hb1.trans (hb2.mono hb1.size)
  have hr2' := hr2.later (below_new w2 (.cells #[.int .i64 0, .int .i64 (A : Int)] 34))
  clear ho2 hv2 hr2
  go_wp2_with fail
  refine (parse_eq hr2' H3.out).mono ?_
  rintro e w3 ⟨v3, ps, rfl, ho3, hps, hb3⟩
  obtain ⟨ao3, len3, cap3, hv3, hr3⟩ := ho3.rd
  rw [hps] at hr3
  rw [hv3]
  have hw3 : Below w.heap.size w w3 := (hw2.alloc hw2.size _).trans (hb3.mono (by have := hw2.size; simp; omega))
  have hr3' := hr3.later (below_new w3 (.cells #[.int .i64 0, .int .i64 0] 34))
  have hr' := hr.later (hw3.alloc hw3.size (.cells #[.int .i64 0, .int .i64 0] 34))
  clear ho3 hv3 hps hr3
  go_wp2_with fail
  refine (same_yes hr3' hr').mono ?_
  rintro e w4 ⟨rfl, nq, rfl⟩
  have hX : Below w.heap.size w ((w3.alloc (.cells #[.int .i64 0, .int .i64 0] 34)).drewN nq) := below_drewN (hw3.alloc hw3.size _) nq
  have hbX := hb.later hX
  have hXs := hX.size
  go_wp2_with fail
  refine (parse_eq hbX H2.out).mono ?_
  rintro e w5 ⟨v5, ps5, rfl, ho5, hps5, hb5⟩
  obtain ⟨ao5, len5, cap5, hv5, hr5⟩ := ho5.rd
  rw [hps5] at hr5
  rw [hv5]
  have hw5 : Below w.heap.size w w5 := hX.trans (hb5.mono hXs)
  have hl5 : len5 = 0 := by have := hr5.1; rw [H4.out] at this; exact this.symm
  subst hl5
  clear hr5 hv5 ho5 hps5
  go_wp2
  go_ret
  exact ⟨rfl, hw5.alloc hw5.size _⟩

set_option maxHeartbeats 2000000 in
set_option maxRecDepth 100000 in
theorem turns_ny (ao : Option Addr) (la ca : Nat) (rs : List Rcd) (bo : Option Addr) (lb cb : Nat) (l : List UInt8) (w : World) (hr : RdR w ao la ca rs) (hb : RdA w bo lb cb l)
    {B : List UInt8} {E1 : Int} {A : Nat} (h1 : bytesGo 0 [] rs = (B, E1, A)) (hE1 : E1 ≠ 0) {ms : List Rcd} {E2 A2 : Nat} (h2 : parseR l = (ms, E2, A2)) (hE2 : E2 = 0) :
    Calls Try.prog 4 #[.slice ao la ca, .slice bo lb cb] w fun e w' => e = .returned (.bool true) ∧ Below w.heap.size w w' := by
  have e1 : (E1 == 0) = false := beq_eq_false_iff_ne.2 hE1
  have H1 : Hid (bytesGo 0 [] rs = (B, E1, A)) := h1
  clear hE1
  subst hE2
  obtain ⟨P, hP1, hP2, hP3, hP4⟩ := parseR_good h2
  have HP1 : Hid (bytesGo 0 [] ms = (P, 0, 0)) := hP1
  have HP3 : Hid (parseR P = (ms, 0, 0)) := hP3
  have H2 : Hid (parseR l = (ms, 0, A2)) := h2
  have HLb : Hid (l.length = lb) := hb.1
  clear hP1 hP3
  clear h1 h2
  go_enter Try.func4, Try.ntmps4
  go_wp2_with fail
  refine (alive_any w).mono ?_
  rintro e w1 ⟨rfl, hb1⟩
  go_wp2_with fail
  refine (bytes_eq (hr.later hb1) H1.out).mono ?_
  rintro e w2 ⟨v2, rfl, ho2, hb2⟩
  obtain ⟨ao2, len2, cap2, hv2, hr2⟩ := ho2.rd
  rw [hv2]
  have hw2 : Below w.heap.size w w2 := hb1.trans (hb2.mono hb1.size)
  have hX : Below w.heap.size w (w2.alloc (.cells #[.int .i64 E1, .int .i64 (A : Int)] 34)) := hw2.alloc hw2.size _
  clear ho2 hv2
  have hbX := hb.later hX
  have hXs := hX.size
  go_wp2_with fail
  refine (parse_eq hbX H2.out).mono ?_
  rintro e w5 ⟨v5, ps5, rfl, ho5, hps5, hb5⟩
  obtain ⟨ao5, len5, cap5, hv5, hr5⟩ := ho5.rd
  rw [hps5] at hr5
  rw [hv5]
  have hw5 : Below w.heap.size w w5 := hX.trans (hb5.mono hXs)
  have hr5' := hr5.later (below_new w5 (.cells #[.int .i64 0, .int .i64 (A2 : Int)] 34))
  clear hv5 ho5 hps5
  go_wp2_with fail
  refine (bytes_eq hr5' HP1.out).mono ?_
  rintro e w6 ⟨v6, rfl, ho6, hb6⟩
  obtain ⟨g0, g1, g2, g3⟩ := cells2 (g := w5.heap.size) (t := 34) (a := .int .i64 0) (b := .int .i64 (A2 : Int)) (by exact heap_alloc_new w5 _) hb6 (by simp)
  have hw6 : Below w5.heap.size w5 w6 := (below_new w5 _).trans (hb6.mono (by simp))
  have hs6 : w5.heap.size < w6.heap.size := by have := hb6.size; simp at this; omega
  have ho6' : OwnB ((w6.setCell ⟨w5.heap.size, 0, none⟩ (.int .i64 0)).setCell ⟨w5.heap.size, 1, none⟩ (.int .i64 0)) (w5.heap.size + 1) v6 P := by
    have := ownsRow_setCell_below (ownsRow_setCell_below ho6 (a := ⟨w5.heap.size, 0, none⟩) (by simp) (.int .i64 0)) (a := ⟨w5.heap.size, 1, none⟩) (by simp) (.int .i64 0)
    exact OwnB.mono this (by simp)
  have hw6' : Below w5.heap.size w5 ((w6.setCell ⟨w5.heap.size, 0, none⟩ (.int .i64 0)).setCell ⟨w5.heap.size, 1, none⟩ (.int .i64 0)) := (hw6.setCell (Nat.le_refl _) _).setCell (Nat.le_refl _) _
  obtain ⟨ao6, len6, cap6, hv6, hr6⟩ := ho6'.rd
  rw [hv6]
  have HL6 : Hid (P.length = len6) := hr6.1
  have q6 : len6 ≤ lb := by rw [← HL6.out, ← HLb.out]; exact hP2
  have q7 : len6 ≤ 4000 := by rw [← HL6.out]; exact hP4
  have hlbm : lb ≤ 9223372036854775807 := by have := hb.2.1; have := hb.2.2.1; unfold maxLen at this; omega
  have d6 : decide (len6 ≤ lb) = true := by simp; omega
  clear ho6 ho6' hv6
  go_wp2_with fail
  refine (parse_eq hr6 HP3.out).mono ?_
  rintro e w7 ⟨v7, ps7, rfl, ho7, hps7, hb7⟩
  obtain ⟨ao7, len7, cap7, hv7, hr7⟩ := ho7.rd
  rw [hps7] at hr7
  rw [hv7]
  have hw7 : Below w5.heap.size w5 w7 := hw6'.trans (hb7.mono (by have := hw6'.size; omega))
  have hr7' := hr7.later (below_new w7 (.cells #[.int .i64 0, .int .i64 0] 34))
  have hr5'' := hr5.later (hw7.alloc hw7.size (.cells #[.int .i64 0, .int .i64 0] 34))
  have e6 : ((w6.setCell ⟨w5.heap.size, 0, none⟩ (.int .i64 0)).setCell ⟨w5.heap.size, 1, none⟩ (.int .i64 0)).heap.size = w6.heap.size := by simp [World.setCell]
  have k0 : w7.cell? ⟨w5.heap.size, 0, none⟩ = some (.int .i64 0) := (hb7.cell (p := ⟨w5.heap.size, 0, none⟩) (by rw [e6]; exact hs6)).trans (by simp [go_sem, g0])
  have hs7 : w5.heap.size < w7.heap.size := by have := hb7.size; rw [e6] at this; omega
  have hfin : Below w.heap.size w (w7.alloc (.cells #[.int .i64 0, .int .i64 0] 34)) := (hw5.trans (hw7.mono hw5.size)).alloc (by have := (hw5.trans (hw7.mono hw5.size)).size; exact this) _
  clear e6 ho7 hv7 hps7 hr7 g0 g1 g2 g3 q7 hP2 hP4
  go_wp2_with (go_at_call 14; refine (same_yes hr5'' hr7').mono ?_; rintro e w8 ⟨rfl, nr, rfl⟩)
  go_ret
  exact ⟨rfl, below_drewN hfin nr⟩

set_option maxHeartbeats 2000000 in
set_option maxRecDepth 100000 in
theorem turns_nn (ao : Option Addr) (la ca : Nat) (rs : List Rcd) (bo : Option Addr) (lb cb : Nat) (l : List UInt8) (w : World) (hr : RdR w ao la ca rs) (hb : RdA w bo lb cb l)
    {B : List UInt8} {E1 : Int} {A : Nat} (h1 : bytesGo 0 [] rs = (B, E1, A)) (hE1 : E1 ≠ 0) {ms : List Rcd} {E2 A2 : Nat} (h2 : parseR l = (ms, E2, A2)) (hE2 : E2 ≠ 0) :
    Calls Try.prog 4 #[.slice ao la ca, .slice bo lb cb] w fun e w' => e = .returned (.bool true) ∧ Below w.heap.size w w' := by
  have e1 : (E1 == 0) = false := beq_eq_false_iff_ne.2 hE1
  have H1 : Hid (bytesGo 0 [] rs = (B, E1, A)) := h1
  clear hE1
  have H4 : Hid (ms = []) := parseR_bad h2 hE2
  have e2 : ((E2 : Int) != 0) = true := by rw [bne_iff_ne]; omega
  have H2 : Hid (parseR l = (ms, E2, A2)) := h2
  clear hE2
  clear h1 h2
  go_enter Try.func4, Try.ntmps4
  go_wp2_with fail
  refine (alive_any w).mono ?_
  rintro e w1 ⟨rfl, hb1⟩
  go_wp2_with fail
  refine (bytes_eq (hr.later hb1) H1.out).mono ?_
  rintro e w2 ⟨v2, rfl, ho2, hb2⟩
  obtain ⟨ao2, len2, cap2, hv2, hr2⟩ := ho2.rd
  rw [hv2]
  have hw2 : Below w.heap.size w w2 := hb1.trans (hb2.mono hb1.size)
  have hX : Below w.heap.size w (w2.alloc (.cells #[.int .i64 E1, .int .i64 (A : Int)] 34)) := hw2.alloc hw2.size _
  clear ho2 hv2
  have hbX := hb.later hX
  have hXs := hX.size
  go_wp2_with fail
  refine (parse_eq hbX H2.out).mono ?_
  rintro e w5 ⟨v5, ps5, rfl, ho5, hps5, hb5⟩
  obtain ⟨ao5, len5, cap5, hv5, hr5⟩ := ho5.rd
  rw [hps5] at hr5
  rw [hv5]
  have hw5 : Below w.heap.size w w5 := hX.trans (hb5.mono hXs)
  have hl5 : len5 = 0 := by have := hr5.1; rw [H4.out] at this; exact this.symm
  subst hl5
  clear hr5 hv5 ho5 hps5
  go_wp2
  go_ret
  exact ⟨rfl, hw5.alloc hw5.size _⟩

theorem turns_walk (ao : Option Addr) (la ca : Nat) (rs : List Rcd) (bo : Option Addr) (lb cb : Nat) (l : List UInt8) (w : World) (hr : RdR w ao la ca rs) (hb : RdA w bo lb cb l) :
    Calls Try.prog 4 #[.slice ao la ca, .slice bo lb cb] w fun e w' => e = .returned (.bool true) ∧ Below w.heap.size w w' := by
  obtain ⟨B, E1, A, h1⟩ : ∃ B E1 A, bytesGo 0 [] rs = (B, E1, A) := ⟨_, _, _, rfl⟩
  obtain ⟨ms, E2, A2, h2⟩ : ∃ ms E2 A2, parseR l = (ms, E2, A2) := ⟨_, _, _, rfl⟩
  by_cases k1 : E1 = 0
  · by_cases k2 : E2 = 0
    · exact turns_yy ao la ca rs bo lb cb l w hr hb h1 k1 h2 k2
    · exact turns_yn ao la ca rs bo lb cb l w hr hb h1 k1 h2 k2
  · by_cases k2 : E2 = 0
    · exact turns_ny ao la ca rs bo lb cb l w hr hb h1 k1 h2 k2
    · exact turns_nn ao la ca rs bo lb cb l w hr hb h1 k1 h2 k2

end Go.Proofs.Ytenlijgnmhdopaa
