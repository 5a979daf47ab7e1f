/- The contracts of wrongMessage, names, crowded. -/
import Derived.Test.YtenlijgnmhdopaaGreatDoorLMsg
namespace Go.Proofs.YtenlijgnmhdopaaGreatDoor
namespace L
open Go.RowKit

set_option maxHeartbeats 2000000 in
set_option maxRecDepth 100000 in
theorem wrongMessage_any {w : World} {vm ve vf vb : Value} {g : GI} (m : MI) (hg : GRd w vm ve g) (hl : RdL 6 FAt w vf m.fields) (hbar : RdL 1 NAt w vb m.barred) (hs : ∀ s ∈ m.fields, s.name.length ≤ 9223372036854775807) :
    Calls Tryz.prog 20 #[.agg #[vm, ve], .agg #[.string (S m.name), vf, vb]] w fun en w' => en = .returned (.int .i64 (wrongM g m)) ∧ Below w.heap.size w w' := by
  obtain ⟨a1, n1, c1, rfl, _, _⟩ := hg.1.shape
  obtain ⟨a2, n2, c2, rfl, _, _⟩ := hg.2.shape
  obtain ⟨a3, n3, c3, rfl, H3, hc3⟩ := hl.shape
  obtain ⟨a4, n4, c4, rfl, H4, hc4⟩ := hbar.shape
  have hmf := makeF
  obtain ⟨W2, HW2⟩ : ∃ W2, Hid (W2 = (w.alloc (.cells #[.slice a1 n1 c1, .slice a2 n2 c2] 25)).alloc (.cells #[.string (S m.name), .slice a3 n3 c3, .slice a4 n4 c4] 37)) := ⟨_, rfl⟩
  have hb2 : Below w.heap.size w W2 := by rw [HW2.out]; exact ((Below.refl _ _).alloc (Nat.le_refl _) _).alloc (by simp) _
  have hx1 : W2.heap[w.heap.size]? = some (.cells #[.slice a1 n1 c1, .slice a2 n2 c2] 25 (0, 0)) := by rw [HW2.out]; exact alloc2_old _ _ _
  have hx2 : W2.heap[w.heap.size + 1]? = some (.cells #[.string (S m.name), .slice a3 n3 c3, .slice a4 n4 c4] 37 (0, 0)) := by rw [HW2.out]; exact alloc2_new _ _ _
  by_cases h1 : 16 < n3
  · have HE : Hid (wrongM g m = 5) := by show _ = _; rw [wrongM, if_pos (.inl (by rw [← H3.out]; exact h1))]
    have hi : (16 : Int) < (n3 : Int) := by omega
    go_enter Tryz.func20, Tryz.ntmps20
    go_wp2
    rw [← HW2.out]
    go_ret
    exact ⟨by rw [HE.out]; rfl, hb2⟩
  · have hi : ¬ (16 : Int) < (n3 : Int) := by omega
    by_cases h2 : 16 < n4
    · have HE : Hid (wrongM g m = 5) := by show _ = _; rw [wrongM, if_pos (.inr (by rw [← H4.out]; exact h2))]
      have hj : (16 : Int) < (n4 : Int) := by omega
      go_enter Tryz.func20, Tryz.ntmps20
      go_wp2
      rw [← HW2.out]
      go_ret
      exact ⟨by rw [HE.out]; rfl, hb2⟩
    · have hj : ¬ (16 : Int) < (n4 : Int) := by omega
      have hno : ¬ (16 < m.fields.length ∨ 16 < m.barred.length) := by rw [← H3.out, ← H4.out]; omega
      have hct := barCont_any (hbar.below NAt.stays hb2)
      cases hq : m.barred.any barB with
      | true =>
        have HE : Hid (wrongM g m = 3) := by show _ = _; rw [wrongM, if_neg hno, hq]; rfl
        rw [hq] at hct
        clear hq hno
        go_enter Tryz.func20, Tryz.ntmps20
        go_wp2_with fail
        rw [← HW2.out]
        refine hct.mono ?_
        rintro en w1 ⟨rfl, rfl⟩
        go_wp2
        go_ret
        exact ⟨by rw [HE.out]; rfl, hb2⟩
      | false =>
        have HE : Hid (wrongM g m = (firstGo (stepF g m.barred) errsF 0 m.fields mem0).1) := by show _ = _; rw [wrongM, if_neg hno, hq]; rfl
        rw [hq] at hct
        have hd : Below W2.heap.size W2 W2.drew := (Below.refl _ _).drew
        have hwd : Below w.heap.size w W2.drew := hb2.drew
        have hnew := fieldRules_new a1 a2 a3 a4 n1 n2 n3 n4 c1 c2 c3 c4 m.name W2.drew
        have hbr := fields_broken (nm := m.name) (hg.below hwd) (hl.below FAt.stays hwd) (hbar.below NAt.stays hwd) (by rw [← H3.out]; omega) hs
        have hcl : ∀ W, Below W2.heap.size W2 W → W.heap[w.heap.size]? = some (.cells #[.slice a1 n1 c1, .slice a2 n2 c2] 25 (0, 0)) ∧ W.heap[w.heap.size + 1]? = some (.cells #[.string (S m.name), .slice a3 n3 c3, .slice a4 n4 c4] 37 (0, 0)) := fun W hW => ⟨(hW.block _ (Array.getElem?_eq_some_iff.1 hx1).1).trans hx1, (hW.block _ (Array.getElem?_eq_some_iff.1 hx2).1).trans hx2⟩
        obtain ⟨y1, y2⟩ := hcl W2.drew hd
        obtain ⟨z0, z1⟩ := blk2 y1
        obtain ⟨z2, z3, z4⟩ := blk3 y2
        have hfl := field0
        clear hq hno
        go_enter Tryz.func20, Tryz.ntmps20
        go_wp2_with fail
        rw [← HW2.out]
        refine hct.mono ?_
        rintro en w1 ⟨rfl, rfl⟩
        go_wp2_with fail
        go_region_with (first
          | (go_at_call 37; refine hnew.mono ?_; rintro en w1 ⟨rfl, hw1⟩; obtain ⟨y3, y4⟩ := hcl w1 (by rw [← hw1]; exact hd.trans (allocL_below (flObjs W2.drew.heap.size (.slice a1 n1 c1) (.slice a2 n2 c2) (.string (S m.name)) (.slice a3 n3 c3) (.slice a4 n4 c4)) W2.drew)); obtain ⟨z5, z6, z7⟩ := blk3 y4)
          | (go_at_call 36; rw [← hw1]; refine hbr.mono ?_; rintro en w2 ⟨rfl, hb3⟩))
        all_goals
          go_wp2
          go_ret
          exact ⟨by rw [HE.out]; rfl, hb2.trans ((hd.trans hb3).mono hb2.size)⟩

theorem crowded_any {w : World} {a1 a2 : Option Addr} {n1 c1 n2 c2 : Nat} (h1 : n1 ≤ 140737488355328) (h2 : n2 ≤ 140737488355328) : Calls Tryz.prog 14 #[.agg #[.slice a1 n1 c1, .slice a2 n2 c2]] w fun e w' => e = .returned (.bool (decide (10 < n1 + n2))) ∧ Below w.heap.size w w' := by
  have hba := (Below.refl w.heap.size w).alloc (Nat.le_refl _) (.cells #[.slice a1 n1 c1, .slice a2 n2 c2] 25)
  have HE : Hid (decide ((10 : Int) < (n1 : Int) + (n2 : Int)) = decide (10 < n1 + n2)) := by show _ = _; rw [Bool.eq_iff_iff]; simp; omega
  go_enter Tryz.func14, Tryz.ntmps14
  go_wp2
  go_ret
  exact ⟨by rw [← HE.out]; rfl, hba⟩

end L
end Go.Proofs.YtenlijgnmhdopaaGreatDoor
