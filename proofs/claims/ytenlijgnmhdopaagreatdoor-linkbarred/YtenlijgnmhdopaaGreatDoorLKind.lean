/- The contracts of canBeNumber, hasType, needlessType. -/
import Derived.Test.YtenlijgnmhdopaaGreatDoorLItem
namespace Go.Proofs.YtenlijgnmhdopaaGreatDoor
namespace L
open Go.RowKit

def canB (n : Int) : Bool := decide (1 ≤ n) && (decide (n < 536870912) && (decide (n < 19000) || decide (19999 < n)))
set_option maxHeartbeats 1000000 in
set_option maxRecDepth 100000 in
theorem can_any (n : Int) (w : World) : Calls Tryz.prog 56 #[.int .i64 n] w fun e w' => e = .returned (.bool (canB n)) ∧ w = w' := by
  obtain ⟨q1, hq1⟩ : ∃ q, decide (1 ≤ n) = q := ⟨_, rfl⟩
  obtain ⟨q2, hq2⟩ : ∃ q, decide (n < 536870912) = q := ⟨_, rfl⟩
  obtain ⟨q3, hq3⟩ : ∃ q, decide (n < 19000) = q := ⟨_, rfl⟩
  obtain ⟨q4, hq4⟩ : ∃ q, decide (19999 < n) = q := ⟨_, rfl⟩
  have HN : Hid (canB n = (q1 && (q2 && (q3 || q4)))) := by show _ = _; rw [canB, hq1, hq2, hq3, hq4]
  cases q1 <;> cases q2 <;> cases q3 <;> cases q4
  all_goals simp only [decide_eq_true_eq, decide_eq_false_iff_not] at hq1 hq2 hq3 hq4
  all_goals first | (exfalso; omega) | skip
  all_goals go_enter Tryz.func56, Tryz.ntmps56
  all_goals go_wp2
  all_goals go_ret
  all_goals exact ⟨by rw [HN.out]; rfl, rfl⟩

def hasB (g : GI) (x : FI) : Bool := if x.kind = 10 then decide (0 ≤ firstI (fun m => decide (m.name = x.type)) g.msgs) else if x.kind = 5 then decide (0 ≤ firstI (fun m => decide (m.name = x.type)) g.enums) else true
set_option maxHeartbeats 1000000 in
set_option maxRecDepth 100000 in
theorem hasType_any {w : World} {vm ve : Value} {g : GI} (h : GRd w vm ve g) (x : FI) : Calls Tryz.prog 61 #[.agg #[vm, ve], fv x] w fun e w' => e = .returned (.bool (hasB g x)) ∧ Below w.heap.size w w' := by
  obtain ⟨am, nm, cm, rfl, Hnm, hcm⟩ := h.1.shape
  obtain ⟨ae, ne, ce, rfl, Hne, hce⟩ := h.2.shape
  have hb2 : Below w.heap.size w ((w.alloc (.cells #[.slice am nm cm, .slice ae ne ce] 25)).alloc (.cells #[.string (S x.name), .int .i64 x.number, .int .i64 x.kind, .string (S x.type), .bool x.many, .int .i64 x.choice] 39)) := ((Below.refl _ _).alloc (Nat.le_refl _) _).alloc (by simp) _
  have h2 := h.below hb2
  have hms := message_any h2.1 ⟨ae, ne, ce, rfl⟩ x.type
  have hen := enum_any h2.2 ⟨am, nm, cm, rfl⟩ x.type
  unfold fv
  by_cases h10 : x.kind = 10
  · have HN : Hid (hasB g x = decide (0 ≤ firstI (fun m => decide (m.name = x.type)) g.msgs)) := by show _ = _; rw [hasB, if_pos h10]
    have hk : (x.kind == 10) = true := by simp [h10]
    generalize firstI (fun m => decide (m.name = x.type)) g.msgs = r at hms HN
    clear h10 hen
    go_enter Tryz.func61, Tryz.ntmps61
    go_wp2_with fail
    refine hms.mono ?_
    rintro e w1 ⟨rfl, hb1⟩
    go_wp2
    go_ret
    exact ⟨by rw [HN.out]; rfl, hb2.trans (hb1.mono hb2.size)⟩
  · have hk : (x.kind == 10) = false := by simp [h10]
    by_cases h5 : x.kind = 5
    · have HN : Hid (hasB g x = decide (0 ≤ firstI (fun m => decide (m.name = x.type)) g.enums)) := by show _ = _; rw [hasB, if_neg h10, if_pos h5]
      have hk5 : (x.kind == 5) = true := by simp [h5]
      generalize firstI (fun m => decide (m.name = x.type)) g.enums = r at hen HN
      clear h10 h5 hms
      go_enter Tryz.func61, Tryz.ntmps61
      go_wp2_with fail
      refine hen.mono ?_
      rintro e w1 ⟨rfl, hb1⟩
      go_wp2
      go_ret
      exact ⟨by rw [HN.out]; rfl, hb2.trans (hb1.mono hb2.size)⟩
    · have HN : Hid (hasB g x = true) := by show _ = _; rw [hasB, if_neg h10, if_neg h5]
      have hk5 : (x.kind == 5) = false := by simp [h5]
      clear h10 h5 hms hen
      go_enter Tryz.func61, Tryz.ntmps61
      go_wp2
      go_ret
      exact ⟨by rw [HN.out]; rfl, hb2⟩

def needB (x : FI) : Bool := decide (x.kind ≠ 10) && (decide (x.kind ≠ 5) && !x.type.isEmpty)
set_option maxHeartbeats 1000000 in
set_option maxRecDepth 100000 in
theorem needless_any (x : FI) (w : World) : Calls Tryz.prog 63 #[fv x] w fun e w' => e = .returned (.bool (needB x)) ∧ Below w.heap.size w w' := by
  have hba := (Below.refl w.heap.size w).alloc (Nat.le_refl _) (.cells #[.string (S x.name), .int .i64 x.number, .int .i64 x.kind, .string (S x.type), .bool x.many, .int .i64 x.choice] 39)
  obtain ⟨q1, hq1⟩ : ∃ q, (x.kind != 10) = q := ⟨_, rfl⟩
  obtain ⟨q2, hq2⟩ : ∃ q, (x.kind != 5) = q := ⟨_, rfl⟩
  obtain ⟨q3, hq3⟩ : ∃ q, (S x.type).toList.isEmpty = q := ⟨_, rfl⟩
  have HN : Hid (needB x = (q1 && (q2 && !q3))) := by
    have e1 : decide (x.kind ≠ 10) = (x.kind != 10) := by rw [Bool.eq_iff_iff]; simp
    have e2 : decide (x.kind ≠ 5) = (x.kind != 5) := by rw [Bool.eq_iff_iff]; simp
    show _ = _; rw [needB, e1, e2, hq1, hq2, ← hq3, S_list]
  unfold fv
  cases q1 <;> cases q2 <;> cases q3
  all_goals go_enter Tryz.func63, Tryz.ntmps63
  all_goals go_wp2
  all_goals go_ret
  all_goals exact ⟨by rw [HN.out]; rfl, hba⟩

end L
end Go.Proofs.YtenlijgnmhdopaaGreatDoor
