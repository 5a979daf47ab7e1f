/- The contract of wrongEnum. -/
import Derived.Test.YtenlijgnmhdopaaGreatDoorLItem
namespace Go.Proofs.YtenlijgnmhdopaaGreatDoor
namespace L
open Go.RowKit

theorem addL_len {α : Type} [DecidableEq α] (x : α) (l : List α) : (addL x l).length ≤ l.length + 1 := by unfold addL; split <;> simp
theorem items_broken {w : World} {vl : Value} {l : List II} {n : Int} (hl : RdL 2 TAt w vl l) (hn : l.length ≤ 900) (hs : ∀ s ∈ l, s.name.length ≤ 9223372036854775807) :
    Calls Tryz.prog 38 #[vl, .slice (some ⟨w.heap.size + 5, 0, none⟩) 3 3] (allocL w (itObjs w.heap.size n)) fun e w' => e = .returned (.agg #[.int .i64 (firstGo (stepI n) [7, 3, 8] 0 l ([], [])).1, .int .i64 (((firstGo (stepI n) [7, 3, 8] 0 l ([], [])).2 : Nat) : Int)]) ∧ Below w.heap.size w w' := by
  obtain ⟨b, Hb⟩ : ∃ b, Hid (b = w.heap.size) := ⟨_, rfl⟩
  obtain ⟨W6, HW⟩ : ∃ W6, Hid (W6 = allocL w (itObjs w.heap.size n)) := ⟨_, rfl⟩
  have hz : W6.heap.size = w.heap.size + 6 := by rw [HW.out, allocL_size]; rfl
  have hb : Below w.heap.size w W6 := by rw [HW.out]; exact allocL_below _ _
  have ha : ∀ i o, (itObjs w.heap.size n)[i]? = some o → W6.heap[w.heap.size + i]? = some o := fun i o h => by rw [HW.out]; exact allocL_at _ _ i o h
  rw [← HW.out]
  have hB := brokenI_any (B := W6.heap.size) (B0 := w.heap.size) (cs := [w.heap.size + 1, w.heap.size + 2]) (w := W6) (l := l) (rs := itRs w.heap.size) (g := w.heap.size + 5) (stepI n) (fun k j s W => ISt W W6.heap.size w.heap.size n s ∧ s.1.length ≤ (if j = 0 then k else k + 1) ∧ s.2.length ≤ (if j ≤ 2 then k else k + 1)) ([], [])
    (fun W hW => hl.below TAt.stays (hb.trans hW)) (ha 5 _ rfl) (by simp) (by omega) (Nat.le_refl _) (by simp) (by simp; omega) (by simp [itRs]) ?_ ?_ (fun k j s W W' _ hI hb' => ⟨hI.1.below hb', hI.2⟩) (fun k s W _ hI => ⟨hI.1, by simpa [itRs] using hI.2⟩) ?_
  · refine hB.mono ?_
    rintro e w' ⟨rfl, hF⟩
    exact ⟨rfl, hb.trans (hF.below (by omega) (by omega) (by simp))⟩
  · intro r hr args w'
    simp only [itRs, List.mem_cons, List.mem_nil_iff, or_false] at hr
    rcases hr with rfl | rfl | rfl
    · exact enters_of Tryz.func65 (by kernel_rfl) rfl args w'
    · exact enters_of Tryz.func66 (by kernel_rfl) rfl args w'
    · exact enters_of Tryz.func67 (by kernel_rfl) rfl args w'
  · exact ⟨⟨⟨⟨_, ha 1 _ rfl, Row.nil _ _ _⟩, ha 3 _ rfl, by omega⟩, ⟨⟨_, ha 2 _ rfl, Row.nil _ _ _⟩, ha 4 _ rfl, by omega⟩, ha 0 _ rfl, by omega⟩, by simp, by simp⟩
  · intro k j r f s W hf hr hBW _ hI
    obtain ⟨h1, h2, h3⟩ := hI
    have hk := (List.getElem?_eq_some_iff.1 hf).1
    have hjl : j < 3 := (List.getElem?_eq_some_iff.1 hr).1
    match j, hjl, hr with
    | 0, _, hr =>
      cases hr
      refine (itemRule1 h1 hBW (by simp at h2; omega) f (hs f (mem_at hf))).mono ?_
      rintro e W' ⟨rfl, k1, k2⟩
      refine ⟨rfl, fun e => ⟨k1 e, ?_, ?_⟩, k2⟩
      · have := addL_len f.name s.1; simp at h2; show (addL f.name s.1).length ≤ k + 1; omega
      · show s.2.length ≤ k; simpa using h3
    | 1, _, hr =>
      cases hr
      refine (itemRule2 h1 f).mono ?_
      rintro e W' ⟨rfl, k1, k2⟩
      exact ⟨rfl, fun e => ⟨k1 e, by show s.1.length ≤ k + 1; simpa using h2, by show s.2.length ≤ k; simpa using h3⟩, k2⟩
    | 2, _, hr =>
      cases hr
      refine (itemRule3 h1 hBW (by simp at h3; omega) f).mono ?_
      rintro e W' ⟨rfl, k1, k2⟩
      refine ⟨rfl, fun e => ⟨k1 e, by show s.1.length ≤ k + 1; simpa using h2, ?_⟩, k2⟩
      have := addL_len f.value s.2; simp at h3; show (addL f.value s.2).length ≤ k + 1; omega

set_option maxRecDepth 100000 in
theorem field0 (a b : Int) (w : World) : (Instr.field 29 (.agg #[.int .i64 a, .int .i64 b]) 0).run Tryz.prog w = .ok (.int .i64 a) w := by rfl
/-- What is wrong with an enum. -/
def wrongE (e : EI) : Int := if e.items.length < 1 ∨ 16 < e.items.length then 5 else (firstGo (stepI ((e.items.getD 0 ⟨[], 0⟩).value)) [7, 3, 8] 0 e.items ([], [])).1
set_option maxHeartbeats 1000000 in
set_option maxRecDepth 100000 in
theorem wrongEnum_any {w : World} {vi : Value} (e : EI) (hl : RdL 2 TAt w vi e.items) (hs : ∀ s ∈ e.items, s.name.length ≤ 9223372036854775807) :
    Calls Tryz.prog 21 #[.agg #[.string (S e.name), vi]] w fun en w' => en = .returned (.int .i64 (wrongE e)) ∧ Below w.heap.size w w' := by
  obtain ⟨ao, n, cap, rfl, Hn, hcap⟩ := hl.shape
  have hba := (Below.refl w.heap.size w).alloc (Nat.le_refl _) (.cells #[.string (S e.name), .slice ao n cap] 50)
  by_cases h1 : n < 1
  · have HE : Hid (wrongE e = 5) := by show _ = _; rw [wrongE, if_pos (.inl (by rw [← Hn.out]; exact h1))]
    have hi : (n : Int) < 1 := by omega
    go_enter Tryz.func21, Tryz.ntmps21
    go_wp2
    go_ret
    exact ⟨by rw [HE.out]; rfl, hba⟩
  · by_cases h2 : 16 < n
    · have HE : Hid (wrongE e = 5) := by show _ = _; rw [wrongE, if_pos (.inr (by rw [← Hn.out]; exact h2))]
      have hi : ¬ (n : Int) < 1 := by omega
      have hj : (16 : Int) < (n : Int) := by omega
      go_enter Tryz.func21, Tryz.ntmps21
      go_wp2
      go_ret
      exact ⟨by rw [HE.out]; rfl, hba⟩
    · obtain ⟨i0, Hi⟩ : ∃ i0, Hid (e.items[0]? = some i0) := ⟨e.items[0]'(by rw [← Hn.out]; omega), List.getElem?_eq_getElem (by rw [← Hn.out]; omega)⟩
      have HE : Hid (wrongE e = (firstGo (stepI i0.value) [7, 3, 8] 0 e.items ([], [])).1) := by
        show _ = _
        rw [wrongE, if_neg (by rw [← Hn.out]; omega), List.getD_eq_getElem?_getD, Hi.out]
        rfl
      have hi : ¬ (n : Int) < 1 := by omega
      have hj : ¬ (16 : Int) < (n : Int) := by omega
      have hn0 : (0 : Int) < (n : Int) := by omega
      have hl1 := hl.below TAt.stays hba
      obtain ⟨b, off, rfl, hat⟩ := hl1.get TAt.plain Hi.out
      obtain ⟨t0, t1⟩ := hat.at
      simp only [Nat.zero_mul, Nat.add_zero] at t0 t1
      obtain ⟨W1, HW1⟩ : ∃ W1, Hid (W1 = w.alloc (.cells #[.string (S e.name), .slice (some ⟨b, off, none⟩) n cap] 50)) := ⟨_, rfl⟩
      have hx1 : W1.heap[w.heap.size]? = some (.cells #[.string (S e.name), .slice (some ⟨b, off, none⟩) n cap] 50 (0, 0)) := by rw [HW1.out]; exact heap_alloc_new _ _
      rw [← HW1.out] at hl1 hba t0 t1
      have hd : Below W1.heap.size W1 W1.drew := (Below.refl _ _).drew
      have hnew := itemRules_new i0.value W1.drew
      have hbr := items_broken (n := i0.value) (hl1.below TAt.stays hd) (by rw [← Hn.out]; omega) hs
      have hcl : ∀ W, Below W1.heap.size W1 W → W.cell? ⟨w.heap.size, 1, none⟩ = some (.slice (some ⟨b, off, none⟩) n cap) ∧ W.cell? ⟨b, off + 1, none⟩ = some (.int .i64 i0.value) := fun W hW => ⟨cell_below hW (cell_of_blk hx1 1 _ rfl), cell_below hW t1⟩
      obtain ⟨z0, z1⟩ := hcl W1.drew hd
      have hfl := field0
      clear hat t0 t1 hl1
      go_enter Tryz.func21, Tryz.ntmps21
      go_wp2_with fail
      rw [← HW1.out]
      go_region_with (first
        | (go_at_call 39; refine hnew.mono ?_; rintro en w1 ⟨rfl, hw1⟩; obtain ⟨z2, z3⟩ := hcl w1 (by rw [← hw1]; exact hd.trans (allocL_below (itObjs W1.drew.heap.size i0.value) W1.drew)))
        | (go_at_call 38; rw [← hw1]; refine hbr.mono ?_; rintro en w2 ⟨rfl, hb2⟩))
      all_goals
        go_wp2
        go_ret
        exact ⟨by rw [HE.out]; rfl, hba.trans ((hd.trans hb2).mono hba.size)⟩

end L
end Go.Proofs.YtenlijgnmhdopaaGreatDoor
