import Derived.Test.YtenlijgnmhdopaaGreatDoorMLe
/- The contract of what Link makes of fields; appends of whatever can be read. -/
namespace Go.Proofs.YtenlijgnmhdopaaGreatDoor
namespace L
open Go.RowKit

theorem set6 {w x : World} (h : Below w.heap.size w x) (a b c d e f : Value) : Below w.heap.size w ((((((x.setCell ⟨w.heap.size + 1, 0, none⟩ a).setCell ⟨w.heap.size + 1, 1, none⟩ b).setCell ⟨w.heap.size + 1, 2, none⟩ c).setCell ⟨w.heap.size + 1, 3, none⟩ d).setCell ⟨w.heap.size + 1, 4, none⟩ e).setCell ⟨w.heap.size + 1, 5, none⟩ f) := by
  have k : ∀ {y : World} (_ : Below w.heap.size w y) (i : Nat) (v : Value), Below w.heap.size w (y.setCell ⟨w.heap.size + 1, i, none⟩ v) := fun hy i v => hy.setCell (p := ⟨w.heap.size + 1, i, none⟩) (show w.heap.size ≤ w.heap.size + 1 by omega) v
  exact k (k (k (k (k (k h 0 a) 1 b) 2 c) 3 d) 4 e) 5 f

def linkF (g : GI) (x : FI) : FI := if x.kind = 10 ∧ firstI (fun m => decide (m.name = x.type)) g.msgs < 0 ∧ 0 ≤ firstI (fun m => decide (m.name = x.type)) g.enums then ⟨x.name, x.number, 5, x.type, x.many, x.choice⟩ else x
set_option maxHeartbeats 2000000 in
set_option maxRecDepth 100000 in
theorem link1_call {W : World} {p : Nat} {vm ve : Value} {g : GI} (hp : W.heap[p]? = some (.cells #[vm, ve] 25 (0, 0))) (hg : GRd W vm ve g) (x : FI) :
    Calls Tryz.prog 16 #[fv x, .pointer (some ⟨p, 0, none⟩)] W fun e W' => e = .returned (fv (linkF g x)) ∧ Below W.heap.size W W' := by
  obtain ⟨a1, n1, c1, rfl, _, _⟩ := hg.1.shape
  obtain ⟨a2, n2, c2, rfl, _, _⟩ := hg.2.shape
  obtain ⟨W2, HW2⟩ : ∃ W2, Hid (W2 = (W.alloc (.cells #[.string (S x.name), .int .i64 x.number, .int .i64 x.kind, .string (S x.type), .bool x.many, .int .i64 x.choice] 39)).alloc (.cells #[.string ⟨#[]⟩, .int .i64 0, .int .i64 0, .string ⟨#[]⟩, .bool false, .int .i64 0] 39)) := ⟨_, rfl⟩
  have hb2 : Below W.heap.size W W2 := by rw [HW2.out]; exact ((Below.refl _ _).alloc (Nat.le_refl _) _).alloc (by simp) _
  have hb2' : Below W.heap.size W ((W.alloc (.cells #[.string (S x.name), .int .i64 x.number, .int .i64 x.kind, .string (S x.type), .bool x.many, .int .i64 x.choice] 39)).alloc (.cells #[.string (S x.name), .int .i64 x.number, .int .i64 x.kind, .string (S x.type), .bool x.many, .int .i64 x.choice] 39)) := ((Below.refl _ _).alloc (Nat.le_refl _) _).alloc (by simp) _
  have hpl : p < W.heap.size := (Array.getElem?_eq_some_iff.1 hp).1
  have hx1 : W2.heap[W.heap.size]? = some (.cells #[.string (S x.name), .int .i64 x.number, .int .i64 x.kind, .string (S x.type), .bool x.many, .int .i64 x.choice] 39 (0, 0)) := by rw [HW2.out]; exact alloc2_old _ _ _
  have hx2 : W2.heap[W.heap.size + 1]? = some (.cells #[.string ⟨#[]⟩, .int .i64 0, .int .i64 0, .string ⟨#[]⟩, .bool false, .int .i64 0] 39 (0, 0)) := by rw [HW2.out]; exact alloc2_new _ _ _
  have hz2 : W2.heap.size = W.heap.size + 2 := by rw [HW2.out]; simp
  have hcl : ∀ V, Below W2.heap.size W2 V → V.heap[W.heap.size]? = some (.cells #[.string (S x.name), .int .i64 x.number, .int .i64 x.kind, .string (S x.type), .bool x.many, .int .i64 x.choice] 39 (0, 0)) ∧ V.heap[W.heap.size + 1]? = some (.cells #[.string ⟨#[]⟩, .int .i64 0, .int .i64 0, .string ⟨#[]⟩, .bool false, .int .i64 0] 39 (0, 0)) ∧ V.heap[p]? = some (.cells #[.slice a1 n1 c1, .slice a2 n2 c2] 25 (0, 0)) ∧ Below W.heap.size W V := fun V hV => ⟨(hV.block _ (by omega)).trans hx1, (hV.block _ (by omega)).trans hx2, (hV.block _ (by omega)).trans ((hb2.block _ hpl).trans hp), hb2.trans (hV.mono (by omega))⟩
  unfold fv
  by_cases h10 : x.kind = 10
  · have hk : (x.kind == 10) = true := by simp [h10]
    have H10 : Hid (x.kind = 10) := h10
    clear h10
    obtain ⟨_, _, p2, _⟩ := hcl W2 (Below.refl _ _)
    obtain ⟨f0, f1⟩ := blk2 p2
    rw [HW2.out] at f0 f1
    have hms := message_any (hg.below hb2).1 ⟨a2, n2, c2, rfl⟩ x.type
    obtain ⟨r1, H1⟩ : ∃ r1, Hid (r1 = firstI (fun m => decide (m.name = x.type)) g.msgs) := ⟨_, rfl⟩
    obtain ⟨r2, H2⟩ : ∃ r2, Hid (r2 = firstI (fun m => decide (m.name = x.type)) g.enums) := ⟨_, rfl⟩
    rw [← H1.out] at hms
    by_cases q1 : r1 < 0
    · go_enter Tryz.func16, Tryz.ntmps16
      go_wp2_with fail
      rw [← HW2.out]
      refine hms.mono ?_
      rintro e w3 ⟨rfl, hb3⟩
      obtain ⟨y1, y2, y3, hbw3⟩ := hcl w3 hb3
      obtain ⟨x0, x1, x2, x3, x4, x5⟩ := blk6 y1
      obtain ⟨g0, g1⟩ := blk2 y3
      have hen := enum_any (hg.below hbw3).2 ⟨a1, n1, c1, rfl⟩ x.type
      rw [← H2.out] at hen
      clear f0 f1 hms
      go_wp2_with fail
      refine hen.mono ?_
      rintro e w4 ⟨rfl, hb4⟩
      have hB4 : Below W2.heap.size W2 w4 := hb3.trans (hb4.mono hb3.size)
      obtain ⟨y4, y5, _, hbw4⟩ := hcl w4 hB4
      obtain ⟨u0, u1, u2, u3, u4, u5⟩ := blk6 y4
      obtain ⟨v0, v1, v2, v3, v4, v5⟩ := blk6 y5
      have e2 := fr_of_blk y4 2
      have e3 := fr_of_blk y5
      have e30 := e3 0
      have e31 := e3 1
      have e32 := e3 2
      have e33 := e3 3
      have e34 := e3 4
      have e35 := e3 5
      clear e3 x0 x1 x2 x3 x4 x5 g0 g1 hen hcl
      by_cases q2 : 0 ≤ r2
      · have HL : Hid (linkF g x = ⟨x.name, x.number, 5, x.type, x.many, x.choice⟩) := by show _ = _; rw [linkF, if_pos ⟨H10.out, by rw [← H1.out]; exact q1, by rw [← H2.out]; exact q2⟩]
        go_wp2
        refine bodyPost_ret (v := .agg #[.string (S x.name), .int .i64 x.number, .int .i64 5, .string (S x.type), .bool x.many, .int .i64 x.choice]) (by simp [results, Tryz.results16, go_sem, *]) rfl ?_
        exact ⟨by rw [HL.out], set6 (hbw4.setCell (p := ⟨W.heap.size, 2, none⟩) (show W.heap.size ≤ W.heap.size from Nat.le_refl _) _) _ _ _ _ _ _⟩
      · have HL : Hid (linkF g x = x) := by show _ = _; rw [linkF, if_neg (fun h => q2 (by rw [H2.out]; exact h.2.2))]
        go_wp2
        refine bodyPost_ret (v := .agg #[.string (S x.name), .int .i64 x.number, .int .i64 x.kind, .string (S x.type), .bool x.many, .int .i64 x.choice]) (by simp [results, Tryz.results16, go_sem, *]) rfl ?_
        exact ⟨by rw [HL.out], set6 hbw4 _ _ _ _ _ _⟩
    · have HL : Hid (linkF g x = x) := by show _ = _; rw [linkF, if_neg (fun h => q1 (by rw [H1.out]; exact h.2.1))]
      rw [HL.out]
      go_enter Tryz.func16, Tryz.ntmps16
      go_wp2_with fail
      rw [← HW2.out]
      refine hms.mono ?_
      rintro e w3 ⟨rfl, hb3⟩
      obtain ⟨y4, y5, _, hbw4⟩ := hcl w3 hb3
      obtain ⟨u0, u1, u2, u3, u4, u5⟩ := blk6 y4
      obtain ⟨v0, v1, v2, v3, v4, v5⟩ := blk6 y5
      have e3 := fr_of_blk y5
      have e30 := e3 0
      have e31 := e3 1
      have e32 := e3 2
      have e33 := e3 3
      have e34 := e3 4
      have e35 := e3 5
      clear e3 f0 f1 hms hcl
      go_wp2
      refine bodyPost_ret (v := .agg #[.string (S x.name), .int .i64 x.number, .int .i64 x.kind, .string (S x.type), .bool x.many, .int .i64 x.choice]) (by simp [results, Tryz.results16, go_sem, *]) rfl ?_
      exact ⟨rfl, set6 hbw4 _ _ _ _ _ _⟩
  · have HL : Hid (linkF g x = x) := by show _ = _; rw [linkF, if_neg (fun h => h10 h.1)]
    have hk : (x.kind == 10) = false := by simp [h10]
    clear h10 hcl
    rw [HL.out]
    go_enter Tryz.func16, Tryz.ntmps16
    go_wp2
    refine bodyPost_ret (v := .agg #[.string (S x.name), .int .i64 x.number, .int .i64 x.kind, .string (S x.type), .bool x.many, .int .i64 x.choice]) (by simp [results, Tryz.results16, go_sem, *]) rfl ?_
    exact ⟨rfl, hb2'⟩

end L
end Go.Proofs.YtenlijgnmhdopaaGreatDoor

