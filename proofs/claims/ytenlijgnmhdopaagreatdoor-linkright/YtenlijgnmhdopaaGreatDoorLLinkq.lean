import Derived.Test.YtenlijgnmhdopaaGreatDoorLCopq
/- The contract of Link. -/
namespace Go.Proofs.YtenlijgnmhdopaaGreatDoor
namespace L
open Go.RowKit

def linkL (g : GI) : GI := ⟨g.msgs.map (linkM g), g.enums⟩
theorem linkF_name (g : GI) (x : FI) : (linkF g x).name = x.name := by unfold linkF; split <;> rfl
theorem GOk.fitsL {g : GI} (h : GOk g) : Fits (linkL g) := by
  obtain ⟨h1, h2⟩ := h.fits
  refine ⟨fun m hm => ?_, h2⟩
  obtain ⟨m0, hm0, rfl⟩ := List.mem_map.1 hm
  refine ⟨(h1 m0 hm0).1, fun f hf => ?_⟩
  obtain ⟨f0, hf0, rfl⟩ := List.mem_map.1 hf
  rw [linkF_name]
  exact (h1 m0 hm0).2 f0 hf0
theorem OwnG.keep {w w' : World} {base : Nat} {vm ve : Value} {lm : List (MI × LV × LV)} {le : List (EI × LV)} (h : OwnG w base vm ve lm le) (hb : ∀ k, base ≤ k → k < w.heap.size → w'.heap[k]? = w.heap[k]?) : OwnG w' base vm ve lm le :=
  ⟨h.rowm.keep hb, h.rowe.keep hb, fun p hp => ⟨(h.ms p hp).1.keep hb, (h.ms p hp).2.keep hb⟩, fun p hp => (h.es p hp).keep hb⟩
theorem OwnG.mono {w : World} {base base' : Nat} {vm ve : Value} {lm : List (MI × LV × LV)} {le : List (EI × LV)} (h : OwnG w base vm ve lm le) (hb : base' ≤ base) : OwnG w base' vm ve lm le :=
  ⟨h.rowm.mono hb, h.rowe.mono hb, fun p hp => ⟨(h.ms p hp).1.mono hb, (h.ms p hp).2.mono hb⟩, fun p hp => (h.es p hp).mono hb⟩

set_option maxHeartbeats 2000000 in
set_option maxRecDepth 100000 in
theorem link_any {w : World} {vm ve : Value} {g : GI} (hg : GRd w vm ve g) (hok : GOk g) :
    Calls Tryz.prog 6 #[.agg #[vm, ve]] w fun e w' => Below w.heap.size w w' ∧
      (((wrongL (linkL g)).1 = 0 ∧ ∃ vm' ve' lm le, e = .returned (.tuple #[.agg #[vm', ve'], .agg #[.int .i64 0, .int .i64 0]]) ∧ OwnG w' w.heap.size vm' ve' lm le ∧ lm.map Prod.fst = (linkL g).msgs ∧ le.map Prod.fst = g.enums) ∨
       ((wrongL (linkL g)).1 ≠ 0 ∧ e = .returned (.tuple #[.agg #[.slice none 0 0, .slice none 0 0], .agg #[.int .i64 (wrongL (linkL g)).1, .int .i64 (((wrongL (linkL g)).2 : Nat) : Int)]]))) := by
  obtain ⟨a1, n1, c1, rfl, H1, _⟩ := hg.1.shape
  obtain ⟨a2, n2, c2, rfl, H2, _⟩ := hg.2.shape
  have hr : reachBytes ≤ 140737488355328 := by unfold reachBytes; omega
  have h1 : n1 ≤ 140737488355328 := by have := hok.2.2.1; rw [H1.out]; omega
  have h2 : n2 ≤ 140737488355328 := by have := hok.2.2.2; rw [H2.out]; omega
  obtain ⟨W0, HW0⟩ : ∃ W0, Hid (W0 = ((w.alloc (.cells #[.slice a1 n1 c1, .slice a2 n2 c2] 25)).alloc (.cells #[.slice none 0 0, .slice none 0 0] 25)).alloc (.cells #[.int .i64 0, .int .i64 0] 29)) := ⟨_, rfl⟩
  have hb0 : Below w.heap.size w W0 := by rw [HW0.out]; exact (((Below.refl _ _).alloc (Nat.le_refl _) _).alloc (by simp) _).alloc (by simp; omega) _
  have hz0 : w.heap.size + 3 ≤ W0.heap.size := by rw [HW0.out]; simp
  have x1 : W0.heap[w.heap.size]? = some (.cells #[.slice a1 n1 c1, .slice a2 n2 c2] 25 (0, 0)) := by
    rw [HW0.out, Below.heap_alloc _ _ _ (by simp; omega)]; exact alloc2_old _ _ _
  have x2 : W0.heap[w.heap.size + 1]? = some (.cells #[.slice none 0 0, .slice none 0 0] 25 (0, 0)) := by
    rw [HW0.out, Below.heap_alloc _ _ _ (by simp)]; exact alloc2_new _ _ _
  obtain ⟨E, HE⟩ : ∃ E, Hid (E = w.heap.size + 1 + 1) := ⟨_, rfl⟩
  have hE1 : E ≤ w.heap.size + 2 := Nat.le_of_eq HE.out
  have hE2 : w.heap.size + 2 ≤ E := Nat.le_of_eq HE.out.symm
  have x3 : W0.heap[E]? = some (.cells #[.int .i64 0, .int .i64 0] 29 (0, 0)) := by
    have := heap_alloc_new ((w.alloc (.cells #[.slice a1 n1 c1, .slice a2 n2 c2] 25)).alloc (.cells #[.slice none 0 0, .slice none 0 0] 25)) (.cells #[.int .i64 0, .int .i64 0] 29)
    rw [← HW0.out] at this
    rw [HE.out]; simpa using this
  have hcl : ∀ V, Below W0.heap.size W0 V → V.heap[w.heap.size]? = some (.cells #[.slice a1 n1 c1, .slice a2 n2 c2] 25 (0, 0)) ∧ V.heap[w.heap.size + 1]? = some (.cells #[.slice none 0 0, .slice none 0 0] 25 (0, 0)) ∧ V.heap[E]? = some (.cells #[.int .i64 0, .int .i64 0] 29 (0, 0)) ∧ Below w.heap.size w V := fun V hV => ⟨(hV.block _ (by omega)).trans x1, (hV.block _ (by omega)).trans x2, (hV.block _ (by omega)).trans x3, hb0.trans (hV.mono (by omega))⟩
  have hcr := crowded_any (w := W0) (a1 := a1) (a2 := a2) (c1 := c1) (c2 := c2) h1 h2
  by_cases hbig : 10 < n1 + n2
  · have HW : Hid (wrongL (linkL g) = (5, 0)) := by show _ = _; rw [wrongL, if_pos (by simp only [linkL, List.length_map]; rw [← H1.out, ← H2.out]; exact hbig)]
    rw [show decide (10 < n1 + n2) = true by simp; omega] at hcr
    go_enter Tryz.func6, Tryz.ntmps6
    go_wp2_with fail
    rw [← HW0.out, ← HE.out]
    refine hcr.mono ?_
    rintro e w1 ⟨rfl, hb1⟩
    obtain ⟨_, y2, y3, hbw⟩ := hcl w1 hb1
    obtain ⟨z0, z1⟩ := blk2 y2
    obtain ⟨z2, z3⟩ := blk2 y3
    have f0 := fr_of_blk y2 0
    have f1 := fr_of_blk y2 1
    have f2 := fr_of_blk y3 0
    have f3 := fr_of_blk y3 1
    clear hcl hcr
    go_wp2
    refine bodyPost_ret (v := .tuple #[.agg #[.slice none 0 0, .slice none 0 0], .agg #[.int .i64 5, .int .i64 0]]) (by simp [results, Tryz.results6, go_sem, *]) rfl ?_
    refine ⟨?_, .inr ⟨by rw [HW.out]; decide, by rw [HW.out]; rfl⟩⟩
    exact B_set (B_set (B_set (B_set hbw (by omega)) (by omega)) (by omega)) (by omega)
  · rw [show decide (10 < n1 + n2) = false by simp; omega] at hcr
    go_enter Tryz.func6, Tryz.ntmps6
    go_wp2_with fail
    rw [← HW0.out, ← HE.out]
    refine hcr.mono ?_
    rintro e w1 ⟨rfl, hb1⟩
    obtain ⟨y1, y2, y3, hbw⟩ := hcl w1 hb1
    obtain ⟨u0, u1⟩ := blk2 y1
    have hcp := copyOf_any (hg.below hbw) (by rw [← H1.out]; omega) (by rw [← H2.out]; omega) hok y1 (hg.below hbw)
    clear hcr
    go_wp2_with fail
    refine hcp.mono ?_
    rintro e w2 ⟨vm2, ve2, lm, le, rfl, hog, hlm, hle, hb2⟩
    obtain ⟨am, nm, cm, rfl, Hm⟩ := hog.rowm.shape'
    obtain ⟨ae, ne, ce, rfl, He⟩ := hog.rowe.shape'
    have HLM : Hid (lm.map Prod.fst = (linkL g).msgs) := hlm
    have HLE : Hid (le.map Prod.fst = g.enums) := hle
    have hll : lm.length ≤ 10 := by have := congrArg List.length hlm; simp at this; rw [this, ← H1.out]; omega
    have hll2 : le.length ≤ 10 := by have := congrArg List.length hle; simp at this; rw [this, ← H2.out]; omega
    have hB2 : Below W0.heap.size W0 w2 := hb1.trans (hb2.mono hb1.size)
    obtain ⟨W3, HW3⟩ : ∃ W3, Hid (W3 = w2.alloc (.cells #[.slice am nm cm, .slice ae ne ce] 25)) := ⟨_, rfl⟩
    have hb3 : Below w2.heap.size w2 W3 := by rw [HW3.out]; exact (Below.refl _ _).alloc (Nat.le_refl _) _
    have hX3 : W3.heap[w2.heap.size]? = some (.cells #[.slice am nm cm, .slice ae ne ce] 25 (0, 0)) := by rw [HW3.out]; exact heap_alloc_new _ _
    have hz3 : w2.heap.size + 1 ≤ W3.heap.size := by rw [HW3.out]; simp
    have hog3 := hog.below hb3
    have hgr : GRd W3 (.slice am nm cm) (.slice ae ne ce) (linkL g) := by
      have := hog3.rd
      rw [HLM.out, HLE.out] at this
      exact this
    have hwr := Wrong_any hgr (by simp only [linkL, List.length_map]; rw [← H1.out]; omega) (by simp only [linkL]; rw [← H2.out]; omega) hok.fitsL
    obtain ⟨q0, q1⟩ := blk2 hX3
    rw [HW3.out] at q0 q1
    clear hcp hlm hle u0 u1
    go_wp2_with fail
    rw [← HW3.out]
    refine hwr.mono ?_
    rintro e w4 ⟨rfl, hb4⟩
    have hB4 : Below W0.heap.size W0 w4 := (hB2.trans (hb3.mono hB2.size)).trans (hb4.mono (by have := hB2.size; omega))
    have hog4 := hog3.below hb4
    have hX4 := (hb4.block w2.heap.size (by omega)).trans hX3
    generalize hq : wrongL (linkL g) = q
    obtain ⟨qe, qi⟩ := q
    obtain ⟨W5, HW5⟩ : ∃ W5, Hid (W5 = w4.alloc (.cells #[.int .i64 qe, .int .i64 (qi : Int)] 29)) := ⟨_, rfl⟩
    have hb5 : Below w4.heap.size w4 W5 := by rw [HW5.out]; exact (Below.refl _ _).alloc (Nat.le_refl _) _
    have hB5 : Below W0.heap.size W0 W5 := hB4.trans (hb5.mono hB4.size)
    have hX5 : W5.heap[w4.heap.size]? = some (.cells #[.int .i64 qe, .int .i64 (qi : Int)] 29 (0, 0)) := by rw [HW5.out]; exact heap_alloc_new _ _
    have hX6 := (hb5.block w2.heap.size (Array.getElem?_eq_some_iff.1 hX4).1).trans hX4
    have hog5 := hog4.below hb5
    obtain ⟨y1, y2, y3, hbw5⟩ := hcl W5 hB5
    obtain ⟨z0, z1⟩ := blk2 y2
    obtain ⟨z2, z3⟩ := blk2 y3
    obtain ⟨z4, z5⟩ := blk2 hX5
    obtain ⟨z6, z7⟩ := blk2 hX6
    have f0 := fr_of_blk y2 0
    have f1 := fr_of_blk y2 1
    have f2 := fr_of_blk y3 0
    have f3 := fr_of_blk y3 1
    clear hcl hwr q0 q1
    by_cases hqe : qe = 0
    · have HQ : Hid (qe = 0) := hqe
      have HQE : Hid (wrongL (linkL g) = (qe, qi)) := hq
      have hqb : (qe != 0) = false := by simp [hqe]
      clear hqe hq
      rw [HW5.out] at z0 z1 z2 z3 z4 z5 z6 z7 f0 f1 f2 f3
      go_wp2
      refine bodyPost_ret (v := .tuple #[.agg #[.slice am nm cm, .slice ae ne ce], .agg #[.int .i64 0, .int .i64 0]]) (by simp [results, Tryz.results6, go_sem, *]) rfl ?_
      rw [← HW5.out]
      refine ⟨?_, .inl ⟨by rw [HQE.out]; exact HQ.out, _, _, lm, le, rfl, ?_, HLM.out, HLE.out⟩⟩
      · exact B_set (B_set (B_set (B_set hbw5 (by omega)) (by omega)) (by omega)) (by omega)
      · have h6 : OwnG W5 w1.heap.size (.slice am nm cm) (.slice ae ne ce) lm le := hog5
        refine (h6.keep (w' := _) ?_).mono (by have := hbw.size; omega)
        intro k hk hkl
        have e1 := hb1.size
        rw [Below.heap_setCell _ _ _ _ (show k ≠ E by omega), Below.heap_setCell _ _ _ _ (show k ≠ E by omega), Below.heap_setCell _ _ _ _ (show k ≠ w.heap.size + 1 by omega), Below.heap_setCell _ _ _ _ (show k ≠ w.heap.size + 1 by omega)]
    · have HQ : Hid (qe ≠ 0) := hqe
      have HQE : Hid (wrongL (linkL g) = (qe, qi)) := hq
      have hqb : (qe != 0) = true := by simp [hqe]
      clear hqe hq
      rw [HW5.out] at z0 z1 z2 z3 z4 z5 z6 z7 f0 f1 f2 f3
      go_wp2_with fail
      rw [← HW5.out]
      rw [← HW5.out] at z0 z1 z2 z3 z4 z5 z6 z7 f0 f1 f2 f3
      have ne1 : ¬ w4.heap.size = w.heap.size + 1 := by have := hB4.size; omega
      have ne2 : ¬ w4.heap.size = E := by have := hB4.size; omega
      have ne3 : ¬ E = w.heap.size + 1 := by omega
      have ne4 : ¬ w.heap.size + 1 = w4.heap.size := by omega
      have ne5 : ¬ E = w4.heap.size := by omega
      have ne6 : ¬ w.heap.size + 1 = E := by omega
      go_region
      all_goals go_wp2
      all_goals refine bodyPost_ret (v := .tuple #[.agg #[.slice none 0 0, .slice none 0 0], .agg #[.int .i64 qe, .int .i64 (qi : Int)]]) (by simp [results, Tryz.results6, go_sem, *]) rfl ?_
      all_goals refine ⟨?_, .inr ⟨by rw [HQE.out]; exact HQ.out, by rw [HQE.out]⟩⟩
      all_goals exact B_set (B_set (B_set (B_set hbw5.drew (by omega)) (by omega)) (by omega)) (by omega)

end L
end Go.Proofs.YtenlijgnmhdopaaGreatDoor

