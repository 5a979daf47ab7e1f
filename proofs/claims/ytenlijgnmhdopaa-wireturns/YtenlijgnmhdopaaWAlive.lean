/- alive() answers true. -/
import Derived.Test.YtenlijgnmhdopaaWSame
namespace Go.Proofs.Ytenlijgnmhdopaa
open Go.RowKit

def aliveRs : List Rcd := [⟨1, 0, 300, []⟩, ⟨2, 2, 0, [7]⟩]
theorem alive_bytes : bytesGo 0 [] aliveRs = ([8, 172, 2, 18, 1, 7], 0, 0) := by decide +kernel
theorem alive_parse : ∃ rs, parseR [8, 172, 2, 18, 1, 7] = (rs, 0, 0) ∧ rs.length = 2 := ⟨_, rfl, by decide +kernel⟩

theorem alive_rd (w : World) : RdR ((w.alloc (.cells #[.int .u8 7] 5)).alloc (.cells #[.int .i64 1, .int .i64 0, .int .u64 300, .slice none 0 0, .int .i64 2, .int .i64 2, .int .u64 0, .slice (some ⟨w.heap.size, 0, none⟩) 1 1] 53))
    (some ⟨w.heap.size + 1, 0, none⟩) 2 2 aliveRs := by
  have e : (w.alloc (.cells #[.int .u8 7] 5)).heap.size = w.heap.size + 1 := by simp
  refine ⟨rfl, Nat.le_refl _, by unfold maxLen; omega, by simp, ?_, ?_⟩
  · intro r hr
    simp only [aliveRs, List.mem_cons, List.mem_nil_iff, or_false] at hr
    rcases hr with rfl | rfl <;> simp [Rcd.wf]
  · intro x hx i r hr
    cases hx
    match i, hr with
    | 0, hr =>
      simp [aliveRs] at hr
      subst hr
      refine ⟨none, 0, 0, ?_, ?_, ?_, ?_, RdA.nil _⟩ <;> rw [← e] <;> simp [Addr.add]
    | 1, hr =>
      simp [aliveRs] at hr
      subst hr
      refine ⟨some ⟨w.heap.size, 0, none⟩, 1, 1, ?_, ?_, ?_, ?_, ?_⟩
      · rw [← e]; simp [Addr.add]
      · rw [← e]; simp [Addr.add]
      · rw [← e]; simp [Addr.add]
      · rw [← e]; simp [Addr.add]
      · refine ⟨rfl, Nat.le_refl _, by unfold maxLen; omega, by simp, ?_⟩
        intro x hx i hi
        cases hx
        have : i = 0 := by omega
        subst this
        simp [Addr.add]
    | i + 2, hr => simp [aliveRs] at hr

theorem six_rd (W : World) (g : Nat) (hg : W.heap.size = g) : RdA (W.alloc (.cells #[.int .u8 8, .int .u8 172, .int .u8 2, .int .u8 18, .int .u8 1, .int .u8 7] 5)) (some ⟨g, 0, none⟩) 6 6 [8, 172, 2, 18, 1, 7] := by
  subst hg
  refine ⟨rfl, Nat.le_refl _, by unfold maxLen; omega, by simp, ?_⟩
  intro x hx i hi
  cases hx
  rw [e_add]
  match i, hi with
  | 0, _ => simp
  | 1, _ => simp
  | 2, _ => simp
  | 3, _ => simp
  | 4, _ => simp
  | 5, _ => simp
  | i + 6, hi => exact absurd hi (by omega)

set_option maxHeartbeats 1000000 in
set_option maxRecDepth 100000 in
theorem alive_any (w : World) : Calls Try.prog 7 #[] w fun e w' => e = .returned (.bool true) ∧ Below w.heap.size w w' := by
  obtain ⟨rs, Hp0, Hp1⟩ := alive_parse
  have HP : Hid (parseR [8, 172, 2, 18, 1, 7] = (rs, 0, 0)) := Hp0
  have HQ : Hid (rs.length = 2) := Hp1
  clear Hp0 Hp1
  go_enter Try.func7, Try.ntmps7
  go_wp2_with fail
  refine (bytes_any _ _ _ aliveRs _ (alive_rd w)).mono ?_
  rintro e w1 ⟨v1, rfl, ho1, hb1⟩
  rw [alive_bytes] at ho1 ⊢
  obtain ⟨ao1, len1, cap1, hv1, hr1⟩ := ho1.rd
  have hbw1 : Below w.heap.size w w1 := (((Below.refl _ _).alloc (Nat.le_refl _) _).alloc (by simp) _).trans (hb1.mono (by simp; omega))
  rw [hv1]
  have hl1 : len1 = 6 := hr1.1.symm
  subst hl1
  clear ho1 hv1 hb1
  have hr2 := hr1.later ((Below.refl w1.heap.size w1).alloc (Nat.le_refl _) (.cells #[.int .i64 0, .int .i64 0] 34))
  go_wp2_with fail
  refine (parse_eq hr2 HP.out).mono ?_
  rintro e w2 ⟨v2, ps, rfl, ho2, hps, hb2⟩
  obtain ⟨ao2, len2, cap2, hv2, hrr2⟩ := ho2.rd
  have hl2 : len2 = 2 := by have := hrr2.1; rw [hps, HQ.out] at this; exact this.symm
  rw [hv2]
  subst hl2
  have hr3 := (hr2.later hb2).later ((Below.refl w2.heap.size w2).alloc (Nat.le_refl _) (.cells #[.int .i64 0, .int .i64 0] 34))
  have s1 := hr3.str
  have c0 : w2.cell? ⟨w1.heap.size, 0, none⟩ = some (.int .i64 0) := (hb2.cell (p := ⟨w1.heap.size, 0, none⟩) (by simp)).trans (by simp)
  have hbw2 : Below w.heap.size w w2 := (hbw1.alloc hbw1.size _).trans (hb2.mono (by have := hbw1.size; simp; omega))
  have hlt2 : w1.heap.size < w2.heap.size := by have := hb2.size; simp at this; omega
  have s2 := (six_rd (w2.alloc (.cells #[.int .i64 0, .int .i64 0] 34)) (w2.heap.size + 1) (by simp)).str
  have hf : foldN (-3) = 5 := by decide
  have ho : openN 5 = -3 := by decide
  clear hps hv2 ho2 hrr2 hr1 hr2 hr3 HP HQ
  go_wp2_with (first | (go_at_call 11; refine (fold_any _ _ (by decide) (by decide)).mono ?_; rintro e w3 ⟨rfl, rfl⟩; rw [hf]) | (go_at_call 10; refine (open_any _ _ (by decide) (by decide)).mono ?_; rintro e w3 ⟨rfl, rfl⟩; rw [ho]))
  go_ret
  refine ⟨rfl, ?_⟩
  exact ((hbw2.alloc hbw2.size _).alloc (by have := hbw2.size; simp; omega) _)

end Go.Proofs.Ytenlijgnmhdopaa
