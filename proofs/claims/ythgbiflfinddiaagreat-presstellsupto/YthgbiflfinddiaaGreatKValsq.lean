import Derived.Test.YthgbiflfinddiaaGreatKWritq
/- values: what the steps make of a body's values. -/
namespace Go.Proofs.YthgbiflfinddiaaGreat
namespace L
open Go.RowKit

theorem find_first {β : Type} {x : List (VI β)} {n : Int} : (x.find? (fun v => decide (v.number = n)) = none ∧ firstI (fun v : VI β => decide (v.number = n)) x = -1) ∨ (∃ (j : Nat) (v : VI β), x.find? (fun v => decide (v.number = n)) = some v ∧ firstI (fun v : VI β => decide (v.number = n)) x = (j : Int) ∧ x[j]? = some v) := by
  induction x with
  | nil => left; exact ⟨rfl, rfl⟩
  | cons a r ih =>
    by_cases ha : a.number = n
    · right
      exact ⟨0, a, by simp [ha], by simp [firstI, List.findIdx?_cons, ha], rfl⟩
    · have e : (a :: r).find? (fun v => decide (v.number = n)) = r.find? fun v => decide (v.number = n) := by simp [ha]
      rw [e]
      rcases ih with ⟨h1, h2⟩ | ⟨j, v, h1, h2, h3⟩
      · left
        refine ⟨h1, ?_⟩
        unfold firstI at h2 ⊢
        rw [List.findIdx?_cons]
        simp only [ha, decide_false, Bool.false_eq_true, if_false]
        cases hx : r.findIdx? (fun f : VI β => decide (f.number = n)) with
        | none => rfl
        | some j => rw [hx] at h2; simp at h2
      · right
        refine ⟨j + 1, v, h1, ?_, by simpa using h3⟩
        unfold firstI at h2 ⊢
        rw [List.findIdx?_cons]
        simp only [ha, decide_false, Bool.false_eq_true, if_false]
        cases hx : r.findIdx? (fun f : VI β => decide (f.number = n)) with
        | none => rw [hx] at h2; simp at h2
        | some i => rw [hx] at h2; simp at h2 ⊢; omega
theorem acc_le {acc B : List UInt8} {k c : Nat} (h : acc.length ≤ k * c) (hB : B.length ≤ c) : (acc ++ B).length ≤ (k + 1) * c := by
  rw [List.length_append, Nat.succ_mul]; omega
theorem acc_all {acc B : List UInt8} {k c n : Nat} (h : acc.length ≤ k * c) (hB : B.length ≤ c) (hk : k < n) : acc.length + B.length ≤ n * c := by
  have : (k + 1) * c ≤ n * c := Nat.mul_le_mul_right _ hk
  rw [Nat.succ_mul] at this
  omega
set_option maxHeartbeats 4000000 in
set_option maxRecDepth 100000 in
theorem values_any {d n : Nat} {w : World} {vp v0 v1 : Value} {p : List TI} {b : BO (BI d)} {Q : BI d → Prop} (hp : RdL 5 StAt w vp p) (hpl : p.length ≤ 16) (hb' : BRd d w v0 v1 b) (hv : ∀ v ∈ b.vals, VSm Q v) (hs : ∀ s ∈ p, StOk n s) {fn : Nat} {cap : Array Value} (hent : ∀ (args : Array Value) (w : World), (callFunc fn args).run Tryz.prog w = .ok (.enter fn args) w)
    {deep : TI → BI d → List UInt8 × Int} (hdeep : ∀ s ∈ p, s.kind = 4 → ∀ v ∈ b.vals, ∀ x ∈ v.subs, KDeep d w fn cap s.next (deep s) x) (hlen : ∀ s x, (deep s x).1.length ≤ 4001) :
    Calls Tryz.prog 41 #[vp, .agg #[v0, v1], .func (.func fn) #[] cap] w fun e w' => ∃ ao n c, e = .returned (.tuple #[.slice ao n c, .int .i64 (valsN deep b.vals [] p).2]) ∧ Row ekY w' w.heap.size (.slice ao n c) (valsN deep b.vals [] p).1 ∧ Below w.heap.size w w' := by
  obtain ⟨ap, np, cp, rfl, Hnp, _⟩ := hp.shape
  obtain ⟨a0, n0, c0, rfl, H0, hn0⟩ := hb'.1.shape
  obtain ⟨a1, n1, c1, rfl, H1, _⟩ := hb'.2.shape
  have hnp : np ≤ 16 := by rw [Hnp.out]; exact hpl
  obtain ⟨q, Hq⟩ : ∃ q, Hid (valsN deep b.vals [] p = q) := ⟨_, rfl⟩
  rw [Hq.out]
  obtain ⟨W0, HW0⟩ : ∃ W0, Hid (W0 = w.alloc (.cells #[.slice a0 n0 c0, .slice a1 n1 c1] 30)) := ⟨_, rfl⟩
  have hb0 : Below w.heap.size w W0 := by rw [HW0.out]; exact (Below.refl _ _).alloc (Nat.le_refl _) _
  have hz0 : w.heap.size + 1 ≤ W0.heap.size := by rw [HW0.out]; simp
  have x0 : W0.heap[w.heap.size]? = some (.cells #[.slice a0 n0 c0, .slice a1 n1 c1] 30 (0, 0)) := by rw [HW0.out]; exact heap_alloc_new _ _
  go_enter Tryz.func41, Tryz.ntmps41
  go_wp2_with fail
  rw [← HW0.out]
  go_loopg [8, 16] np (fun m u i wr => ∃ (k : Nat) (ao : Option Addr) (no co : Nat) (acc : List UInt8), k + m = np ∧ i = .int .i64 k ∧ u = .slice ao no co ∧ Row ekY wr W0.heap.size (.slice ao no co) acc ∧ acc.length ≤ k * 5000000000000 ∧ Hid (valsN deep b.vals acc (p.drop k) = q) ∧ Below W0.heap.size W0 wr)
  case atStart => exact ⟨0, none, 0, 0, [], by omega, rfl, rfl, Row.nil _ _ _, by simp, Hq, Below.refl _ _⟩
  case round =>
    obtain ⟨k, ao, no, co, acc, hk, rfl, rfl, hr, hacc, HK, hb⟩ := hrel
    have hbw : Below w.heap.size w wr := KBT hb0 hb
    have hzr := hb.size
    by_cases hlt : k < np
    · obtain ⟨s, Hs⟩ : ∃ s, Hid (p[k]? = some s) := ⟨p[k]'(by rw [← Hnp.out]; exact hlt), List.getElem?_eq_getElem (by rw [← Hnp.out]; exact hlt)⟩
      have hsm := List.mem_of_getElem? Hs.out
      obtain ⟨g, off, rfl, hat⟩ := (hp.below StAt.stays hbw).get StAt.plain Hs.out
      obtain ⟨s0, s1, s2, s3, s4⟩ := hat.at
      have hki : (k : Int) < (np : Int) := by omega
      obtain ⟨W1, HW1⟩ : ∃ W1, Hid (W1 = wr.alloc (.cells #[.int .i64 s.kind, .int .i64 s.number, .int .i64 s.how, .int .i64 s.field, .int .i64 s.next] 51)) := ⟨_, rfl⟩
      have hb1 : Below wr.heap.size wr W1 := by rw [HW1.out]; exact (Below.refl _ _).alloc (Nat.le_refl _) _
      have hz1 : wr.heap.size + 1 ≤ W1.heap.size := by rw [HW1.out]; simp
      have x1 : W1.heap[wr.heap.size]? = some (.cells #[.int .i64 s.kind, .int .i64 s.number, .int .i64 s.how, .int .i64 s.field, .int .i64 s.next] 51 (0, 0)) := by rw [HW1.out]; exact heap_alloc_new _ _
      have hbw1 : Below w.heap.size w W1 := KBT hbw hb1
      obtain ⟨t0, t1⟩ := blk2 ((hb.block _ (by omega)).trans x0)
      obtain ⟨t2, t3⟩ := blk2 ((hb1.block _ (by omega)).trans ((hb.block _ (by omega)).trans x0))
      rw [HW1.out] at t2 t3
      have hfi := valueAt_any (BAt.stays d) (hb'.below hbw1).1 ⟨a1, n1, c1, rfl⟩ s.number
      have HS := vals_step (deep := deep) (x := b.vals) Hs.out acc
      clear hat
      rcases find_first (x := b.vals) (n := s.number) with ⟨hf1, hf2⟩ | ⟨j, v, hf1, hf2, hf3⟩
      · rw [hf2] at hfi
        have HK' : Hid (valsN deep b.vals acc (p.drop (k + 1)) = q) := by
          show _ = _; rw [← HK.out, HS, hf1]
        clear HS hf1 hf2
        go_wp2_with fail
        rw [← HW1.out]
        refine hfi.mono ?_
        rintro e w2 ⟨rfl, hb2⟩
        go_wp2_with fail
        go_roundg (np - (k + 1))
        case measure => omega
        case rel => exact ⟨k + 1, ao, no, co, acc, by omega, by go_num, rfl, (hr.below hb1).below hb2, Nat.le_trans hacc (Nat.mul_le_mul_right _ (Nat.le_succ _)), HK', KBT (KBT hb hb1) hb2⟩
      · rw [hf2] at hfi
        obtain ⟨gv, ov, rfl, hav⟩ := hb'.1.get VAt.plain hf3
        obtain ⟨y1, y2, y3, z0, z1, z2, z3, r1, r2, r3⟩ := hav.at
        obtain ⟨b1, m1, d1, rfl, _, _⟩ := r1.shape
        obtain ⟨b2, m2, d2, rfl, _, _⟩ := r2.shape
        obtain ⟨b3, m3, d3, rfl, _, _⟩ := r3.shape
        have hvm := List.mem_of_getElem? hf3
        have hjl : j < n0 := by rw [H0.out]; exact (List.getElem?_eq_some_iff.1 hf3).1
        have hji : (j : Int) < (n0 : Int) := by omega
        have hj0 : ¬ (j : Int) < 0 := by omega
        obtain ⟨B, E, HE⟩ : ∃ B E, Hid (stepB deep s v = (B, E)) := ⟨_, _, rfl⟩
        have HS' : Hid (valsN deep b.vals acc (p.drop k) = if E ≠ 0 then ([], E) else valsN deep b.vals (acc ++ B) (p.drop (k + 1))) := by
          show _ = _; rw [HS, hf1]; simp only [HE.out]
        have hBl : B.length ≤ 5000000000000 := by have := stepB_len deep hlen s v (hv v hvm); rw [HE.out] at this; exact this
        clear HS hf1 hf2 hf3 hav
        have hwr : ∀ V, Below w.heap.size w V → Calls Tryz.prog 75 #[.agg #[.int .i64 s.kind, .int .i64 s.number, .int .i64 s.how, .int .i64 s.field, .int .i64 s.next], .agg #[.int .i64 v.number, .slice b1 m1 d1, .slice b2 m2 d2, .slice b3 m3 d3], .func (.func fn) #[] cap] V fun e w' => ∃ ao n c, e = .returned (.tuple #[.slice ao n c, .int .i64 E]) ∧ Row ekY w' V.heap.size (.slice ao n c) B ∧ Below V.heap.size V w' := fun V hV => by
          have := written_any (r1.below UAt.stays hV) (r2.below ZAt.stays hV) (r3.below (BAt.stays d) hV) (hv v hvm) s (hs s hsm) hent (cap := cap) (deep := deep) (fun e4 x hx => (hdeep s hsm e4 v hvm x hx).below hV) (hlen s)
          rw [HE.out] at this
          exact this
        go_wp2_with fail
        rw [← HW1.out]
        refine hfi.mono ?_
        rintro e w2 ⟨rfl, hb2⟩
        have hB2 : Below wr.heap.size wr w2 := KBT hb1 hb2
        have hbw2 : Below w.heap.size w w2 := KBT hbw1 hb2
        have hr2 : Row ekY w2 W0.heap.size (.slice ao no co) acc := (hr.below hb1).below hb2
        have hcl : ∀ V, Below w2.heap.size w2 V → Below w2.heap.size w2 V ∧ (V.cell? ⟨wr.heap.size, 0, none⟩ = some (.int .i64 s.kind) ∧ V.cell? ⟨wr.heap.size, 1, none⟩ = some (.int .i64 s.number) ∧ V.cell? ⟨wr.heap.size, 2, none⟩ = some (.int .i64 s.how) ∧ V.cell? ⟨wr.heap.size, 3, none⟩ = some (.int .i64 s.field) ∧ V.cell? ⟨wr.heap.size, 4, none⟩ = some (.int .i64 s.next)) ∧ (V.cell? ⟨w.heap.size, 0, none⟩ = some (.slice (some ⟨gv, ov, none⟩) n0 c0) ∧ V.cell? ⟨w.heap.size, 1, none⟩ = some (.slice a1 n1 c1)) ∧ V.cell? ⟨gv, ov + j * 4, none⟩ = some (.int .i64 v.number) ∧ V.cell? ⟨gv, ov + j * 4 + 1, none⟩ = some (.slice b1 m1 d1) ∧ V.cell? ⟨gv, ov + j * 4 + 2, none⟩ = some (.slice b2 m2 d2) ∧ V.cell? ⟨gv, ov + j * 4 + 3, none⟩ = some (.slice b3 m3 d3) := fun V hV => by
          have hV1 : Below w.heap.size w V := KBT hbw2 hV
          have hz2 := hb2.size
          exact ⟨hV, blk5 ((hV.block _ (by omega)).trans ((hb2.block _ (by omega)).trans x1)), blk2 ((hV.block _ (by omega)).trans ((hB2.block _ (by omega)).trans ((hb.block _ (by omega)).trans x0))), cell_below hV1 z0, cell_below hV1 z1, cell_below hV1 z2, cell_below hV1 z3⟩
        have hd : Below w2.heap.size w2 w2.drew := (Below.refl _ _).drew
        have hwd := hwr w2.drew (KBT hbw2 hd)
        obtain ⟨_, ⟨g0, g1, g2, g3, g4⟩, ⟨g5, g6⟩, g7⟩ := hcl w2 (Below.refl _ _)
        clear hfi hr hwr s0 s1 s2 s3 s4 t0 t1 t2 t3 z0 z1 z2 z3 r1 r2 r3
        go_wp2_with fail
        go_cut [12, 13] from 26 to 43 (fun s12 s13 wc => ∃ (a5 : Option Addr) (n5 c5 : Nat), s12 = .slice a5 n5 c5 ∧ s13 = .int .i64 E ∧ Row ekY wc w2.heap.size (.slice a5 n5 c5) B ∧ Below w2.heap.size w2 wc)
        case first =>
          go_region_held3 (fun V => Below w2.heap.size w2 V ∧ (V.cell? ⟨wr.heap.size, 0, none⟩ = some (.int .i64 s.kind) ∧ V.cell? ⟨wr.heap.size, 1, none⟩ = some (.int .i64 s.number) ∧ V.cell? ⟨wr.heap.size, 2, none⟩ = some (.int .i64 s.how) ∧ V.cell? ⟨wr.heap.size, 3, none⟩ = some (.int .i64 s.field) ∧ V.cell? ⟨wr.heap.size, 4, none⟩ = some (.int .i64 s.next)) ∧ (V.cell? ⟨w.heap.size, 0, none⟩ = some (.slice (some ⟨gv, ov, none⟩) n0 c0) ∧ V.cell? ⟨w.heap.size, 1, none⟩ = some (.slice a1 n1 c1)) ∧ V.cell? ⟨gv, ov + j * 4, none⟩ = some (.int .i64 v.number) ∧ V.cell? ⟨gv, ov + j * 4 + 1, none⟩ = some (.slice b1 m1 d1) ∧ V.cell? ⟨gv, ov + j * 4 + 2, none⟩ = some (.slice b2 m2 d2) ∧ V.cell? ⟨gv, ov + j * 4 + 3, none⟩ = some (.slice b3 m3 d3)) ((with_reducible refine hcl _ ?_; with_reducible (first | exact hd | exact hB3))) ((go_at_call 75; refine hwd.mono ?_; rintro e w3 ⟨a5, n5, c5, rfl, hr5, hb5⟩; have hB3 := KBT hd hb5))
          all_goals
            go_wp2_with fail
            go_meet
          all_goals exact ⟨a5, n5, c5, rfl, rfl, hr5, hB3⟩
        case rest =>
          obtain ⟨a5, n5, c5, rfl, rfl, hr5, hB3⟩ := hcut
          have hBW : Below W0.heap.size W0 wc := KBT (KBT hb hB2) hB3
          by_cases hE : E = 0
          · have hEb : (E != 0) = false := by simp [hE]
            have HK' : Hid (valsN deep b.vals (acc ++ B) (p.drop (k + 1)) = q) := by
              show _ = _; rw [← HK.out, HS'.out, if_neg (by simp [hE])]
            have hr3 := hr2.below hB3
            obtain ⟨q1, q2, q3⟩ := ksrcY hr5.rdY
            clear hE hr2
            go_wp2_with (at_builtin; refine wpList_appG (by rfl) ekY _ _ (by rfl) W0.heap.size (.slice ao no co) _ B (by rfl) hr3 a5 n5 c5 (by rfl) q1 q2 q3 (by decide) ?d2 hBW.size ?_)
            case d2 =>
              rw [show ekY.bytes = 1 from rfl, Nat.mul_one]
              exact Nat.le_trans (acc_all hacc hBl (Nat.lt_of_lt_of_le hlt hnp)) (by decide)
            intro v' w6 hr6 hg6
            obtain ⟨a6, n6, c6, rfl, _⟩ := hr6.shape'
            have hB6 : Below W0.heap.size W0 w6 := hBW.grown hg6 hBW.size (fun k hk => (hr3.own k hk).1)
            go_wp2_with fail
            go_roundg (np - (k + 1))
            case measure => omega
            case rel => exact ⟨k + 1, a6, n6, c6, _, by omega, by go_num, rfl, hr6, acc_le hacc hBl, HK', hB6⟩
          · have hEb : (E != 0) = true := by simpa using hE
            have HK' : Hid (q = ([], E)) := by
              show _ = _; rw [← HK.out, HS'.out, if_pos hE]
            clear hE
            go_wp2
            go_ret2
            exact ⟨none, 0, 0, by rw [HK'.out]; rfl, by rw [HK'.out]; exact Row.nil _ _ _, KBT hb0 hBW⟩
    · have HK' : Hid (q = (acc, 0)) := by
        show _ = _; rw [← HK.out, List.drop_of_length_le (by rw [← Hnp.out]; omega)]; rfl
      go_wp2
      go_ret2
      exact ⟨ao, no, co, by rw [HK'.out]; rfl, by rw [HK'.out]; exact hr.mono (by omega), hbw⟩

end L
end Go.Proofs.YthgbiflfinddiaaGreat

