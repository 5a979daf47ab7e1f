import Derived.Test.YthgbiflfinddiaaGreatKLeaf
import Derived.Deep.RegionHeld3
import Derived.Deep.CutRange
import Derived.Deep.DrawnRows
import Derived.Test.YthgbiflfinddiaaGreatKNums
/- The contract of stepOf. -/
namespace Go.Proofs.YthgbiflfinddiaaGreat
namespace L
open Go.RowKit

set_option maxHeartbeats 2000000 in
set_option maxRecDepth 100000 in
theorem stepOf_any {w : World} {vm ve : Value} {g : GI} (hg : GRd w vm ve g) (x : FI) : Calls Tryz.prog 33 #[.agg #[vm, ve], fv x] w fun e w' => e = .returned (tv (stepN g x)) ∧ Below w.heap.size w w' := by
  obtain ⟨a1, n1, c1, rfl, H1, _⟩ := hg.1.shape
  obtain ⟨a2, n2, c2, rfl, H2, _⟩ := hg.2.shape
  obtain ⟨W0, HW0⟩ : ∃ W0, Hid (W0 = ((w.alloc (.cells #[.slice a1 n1 c1, .slice a2 n2 c2] 25)).alloc (.cells #[.string (S x.name), .int .i64 x.number, .int .i64 x.kind, .string (S x.type), .bool x.many, .int .i64 x.choice] 53)).alloc (.cells #[.int .i64 0, .int .i64 0, .int .i64 0, .int .i64 0, .int .i64 0] 51)) := ⟨_, rfl⟩
  have hb0 : Below w.heap.size w W0 := by rw [HW0.out]; exact (((Below.refl _ _).alloc (Nat.le_refl _) _).alloc (by simp) _).alloc (by simp; omega) _
  have hz0 : w.heap.size + 3 ≤ W0.heap.size := by rw [HW0.out]; simp
  obtain ⟨x3, x2, x1⟩ := alloc3 w (.cells #[.slice a1 n1 c1, .slice a2 n2 c2] 25) (.cells #[.string (S x.name), .int .i64 x.number, .int .i64 x.kind, .string (S x.type), .bool x.many, .int .i64 x.choice] 53) (.cells #[.int .i64 0, .int .i64 0, .int .i64 0, .int .i64 0, .int .i64 0] 51)
  rw [← HW0.out] at x1 x2 x3
  have hcl : ∀ V, Below W0.heap.size W0 V → V.heap[w.heap.size]? = some (.cells #[.slice a1 n1 c1, .slice a2 n2 c2] 25 (0, 0)) ∧ V.heap[w.heap.size + 1]? = some (.cells #[.string (S x.name), .int .i64 x.number, .int .i64 x.kind, .string (S x.type), .bool x.many, .int .i64 x.choice] 53 (0, 0)) ∧ V.heap[w.heap.size + 2]? = some (.cells #[.int .i64 0, .int .i64 0, .int .i64 0, .int .i64 0, .int .i64 0] 51 (0, 0)) := fun V hV => ⟨(hV.block _ (by omega)).trans x1, (hV.block _ (by omega)).trans x2, (hV.block _ (by omega)).trans x3⟩
  have hkd := kindOf_any x
  have hhw := how_any x.kind
  unfold fv at hkd ⊢
  have hd : Below W0.heap.size W0 W0.drew := (Below.refl _ _).drew
  obtain ⟨K, HK⟩ : ∃ K, Hid (K = kindN x) := ⟨_, rfl⟩
  obtain ⟨Hw, HHw⟩ : ∃ Hw, Hid (Hw = howN x.kind) := ⟨_, rfl⟩
  rw [← HK.out] at hkd
  rw [← HHw.out] at hhw
  have hcl5 : ∀ V, Below W0.heap.size W0 V → Below W0.heap.size W0 V ∧ V.cell? ⟨w.heap.size + 1, 0, none⟩ = some (.string (S x.name)) ∧ V.cell? ⟨w.heap.size + 1, 1, none⟩ = some (.int .i64 x.number) ∧ V.cell? ⟨w.heap.size + 1, 2, none⟩ = some (.int .i64 x.kind) ∧ V.cell? ⟨w.heap.size + 1, 3, none⟩ = some (.string (S x.type)) ∧ V.cell? ⟨w.heap.size + 1, 4, none⟩ = some (.bool x.many) ∧ V.cell? ⟨w.heap.size + 1, 5, none⟩ = some (.int .i64 x.choice) := fun V hV => ⟨hV, blk6 (hcl V hV).2.1⟩
  have hAl : ∀ V, Below (W0.alloc (.cells #[.int .i64 0, .int .i64 0, .int .i64 0, .int .i64 0, .int .i64 0] 51)).drew.heap.size (W0.alloc (.cells #[.int .i64 0, .int .i64 0, .int .i64 0, .int .i64 0, .int .i64 0] 51)).drew V → V.heap[W0.heap.size]? = some (.cells #[.int .i64 0, .int .i64 0, .int .i64 0, .int .i64 0, .int .i64 0] 51 (0, 0)) := fun V hV => (hV.block W0.heap.size (by show _ < (W0.alloc _).heap.size; simp)).trans (heap_alloc_new W0 _)
  have hdA : Below W0.heap.size W0 (W0.alloc (.cells #[.int .i64 0, .int .i64 0, .int .i64 0, .int .i64 0, .int .i64 0] 51)).drew := (KB_alloc (Below.refl _ _) (Nat.le_refl _) _).drew
  go_enter Tryz.func33, Tryz.ntmps33
  go_wp2_with fail
  rw [← HW0.out]
  go_cut [5] from 16 to 25 (fun s5 wc => ∃ (C : Nat), s5 = .pointer (some ⟨C, 0, none⟩) ∧ W0.heap.size ≤ C ∧ wc.heap[C]? = some (.cells #[.int .i64 K, .int .i64 x.number, .int .i64 Hw, .int .i64 x.kind, .int .i64 (-1)] 51 (0, 0)) ∧ Below W0.heap.size W0 wc)
  case first =>
    go_region_held3 (fun V => Below W0.heap.size W0 V ∧ V.cell? ⟨w.heap.size + 1, 0, none⟩ = some (.string (S x.name)) ∧ V.cell? ⟨w.heap.size + 1, 1, none⟩ = some (.int .i64 x.number) ∧ V.cell? ⟨w.heap.size + 1, 2, none⟩ = some (.int .i64 x.kind) ∧ V.cell? ⟨w.heap.size + 1, 3, none⟩ = some (.string (S x.type)) ∧ V.cell? ⟨w.heap.size + 1, 4, none⟩ = some (.bool x.many) ∧ V.cell? ⟨w.heap.size + 1, 5, none⟩ = some (.int .i64 x.choice)) ((with_reducible refine hcl5 _ ?_; with_reducible (first | exact hd | exact hdA | exact hBn | exact KB_alloc hBn (Nat.le_refl _) _ | exact KB_alloc hd (Nat.le_refl _) _ | exact KB_set5 hBn (Nat.le_refl _)))) ((first | (go_at_call 64; go_split_ands; refine (hkd _).mono ?_; rintro e wn ⟨rfl, hbn⟩; have hBn := KBT (by with_reducible assumption) hbn; try (have hc5 := hAl _ hbn; obtain ⟨q0, q1, q2, q3, q4⟩ := blk5 hc5; have r0 := fr_of_blk hc5 0; have r1 := fr_of_blk hc5 1; have r2 := fr_of_blk hc5 2; have r3 := fr_of_blk hc5 3; have r4 := fr_of_blk hc5 4)) | (go_at_call 13; refine (hhw _).mono ?_; rintro e wm ⟨rfl, rfl⟩)))
    all_goals
      go_wp2_with fail
      go_meet
    case rel => exact ⟨wn.heap.size, rfl, hBn.size, heap_alloc_new _ _, KB_alloc hBn (Nat.le_refl _) _⟩
    case rel => exact ⟨wn.heap.size, rfl, hBn.size, heap_alloc_new _ _, KB_alloc hBn (Nat.le_refl _) _⟩
    case rel => exact ⟨W0.heap.size, rfl, Nat.le_refl _, set5_at hc5, KB_set5 hBn (Nat.le_refl _)⟩
  case rest =>
    obtain ⟨C, rfl, hC, hc, hb1⟩ := hcut
    obtain ⟨t0, t1, t2, t3, t4⟩ := blk5 hc
    obtain ⟨y1, y2, y3⟩ := hcl wc hb1
    obtain ⟨u0, u1⟩ := blk2 y1
    obtain ⟨v0, v1, v2, v3, v4, v5⟩ := blk6 y2
    have hbw : Below w.heap.size w wc := KBT hb0 hb1
    have hz1 : W0.heap.size ≤ wc.heap.size := hb1.size
    clear hkd hhw hcl5 hAl hdA hd
    have hkk : K = 4 ↔ x.kind = 10 := by rw [HK.out]; exact kind4 x
    have hz2 : w.heap.size + 3 ≤ wc.heap.size := Nat.le_trans hz0 hz1
    have hCw : w.heap.size + 3 ≤ C := Nat.le_trans hz0 hC
    have hfr := fr_of_blk hc
    have hfr3 := fr_of_blk (g := w.heap.size + 1 + 1) y3
    obtain ⟨p0, p1, p2, p3, p4⟩ := blk5 (g := w.heap.size + 1 + 1) y3
    by_cases h4 : K = 4
    · have hk4 : (K == 4) = true := by simp [h4]
      have HN : Hid (tv (stepN g x) = .agg #[.int .i64 K, .int .i64 x.number, .int .i64 Hw, .int .i64 x.kind, .int .i64 (firstI (fun m => decide (m.name = x.type)) g.msgs)]) := by
        show _ = _; unfold tv stepN msgI; rw [if_pos (hkk.1 h4), ← HK.out, ← HHw.out]
      have hms := message_any (hg.below hbw).1 ⟨a2, n2, c2, rfl⟩ x.type
      generalize firstI (fun m => decide (m.name = x.type)) g.msgs = N at hms HN
      clear h4 hkk y1 y2 hcl
      go_wp2_with fail
      refine hms.mono ?_
      rintro e w2 ⟨rfl, hb2⟩
      have hc2 := (hb2.block C (by have := (Array.getElem?_eq_some_iff.1 hc).1; exact this)).trans hc
      have hy2 : w2.heap[w.heap.size + 1 + 1]? = _ := (hb2.block (w.heap.size + 2) (by omega)).trans y3
      obtain ⟨q0, q1, q2, q3, q4⟩ := blk5 hc2
      obtain ⟨r0, r1, r2, r3, r4⟩ := blk5 hy2
      have f0 := fr_of_blk hc2
      have f2 := fr_of_blk hy2
      have hne : ¬ C = w.heap.size + 1 + 1 := by omega
      have hne' : ¬ w.heap.size + 1 + 1 = C := by omega
      clear t0 t1 t2 t3 t4 u0 u1 v0 v1 v2 v3 v4 v5 p0 p1 p2 p3 p4 hfr hfr3 hms
      go_wp2_with fail
      refine bodyPost_ret (v := .agg #[.int .i64 K, .int .i64 x.number, .int .i64 Hw, .int .i64 x.kind, .int .i64 N]) (by simp [results, Tryz.results33, go_sem, *]) rfl ?_
      exact ⟨by rw [HN.out], KB_set5 ((KBT hbw hb2).setCell (p := ⟨C, 4, none⟩) (by show w.heap.size ≤ C; omega) _) (by omega)⟩
    · have hk4 : (K == 4) = false := by simp [h4]
      have HN : Hid (tv (stepN g x) = .agg #[.int .i64 K, .int .i64 x.number, .int .i64 Hw, .int .i64 x.kind, .int .i64 (-1)]) := by
        show _ = _; unfold tv stepN; rw [if_neg (fun h => h4 (hkk.2 h)), ← HK.out, ← HHw.out]
      clear h4 hkk y1 y2 hcl
      go_wp2_with fail
      refine bodyPost_ret (v := .agg #[.int .i64 K, .int .i64 x.number, .int .i64 Hw, .int .i64 x.kind, .int .i64 (-1)]) (by simp [results, Tryz.results33, go_sem, *]) rfl ?_
      exact ⟨by rw [HN.out], KB_set5 hbw (by omega)⟩

end L
end Go.Proofs.YthgbiflfinddiaaGreat

/- The contract of programOf. -/
namespace Go.Proofs.YthgbiflfinddiaaGreat
namespace L
open Go.RowKit

set_option maxHeartbeats 4000000 in
set_option maxRecDepth 100000 in
theorem programOf_any {w : World} {vm ve vf vb : Value} {g : GI} {m : MI} (hg : GRd w vm ve g) (h : RdL 6 FAt w vf m.fields) (hvb : ∃ ao n cap, vb = .slice ao n cap) (hl : m.fields.length ≤ 1000000000000) :
    Calls Tryz.prog 15 #[.agg #[vm, ve], .agg #[.string (S m.name), vf, vb]] w fun e w' => ∃ ao n cap, e = .returned (.slice ao n cap) ∧ Row ekP w' w.heap.size (.slice ao n cap) (progN g m) ∧ Below w.heap.size w w' := by
  obtain ⟨a1, n1, c1, rfl, H1, _⟩ := hg.1.shape
  obtain ⟨a2, n2, c2, rfl, H2, _⟩ := hg.2.shape
  obtain ⟨a3, n3, c3, rfl, H3, _⟩ := h.shape
  obtain ⟨a4, n4, c4, rfl⟩ := hvb
  obtain ⟨W0, HW0⟩ : ∃ W0, Hid (W0 = (w.alloc (.cells #[.slice a1 n1 c1, .slice a2 n2 c2] 25)).alloc (.cells #[.string (S m.name), .slice a3 n3 c3, .slice a4 n4 c4] 49)) := ⟨_, rfl⟩
  have hb0 : Below w.heap.size w W0 := by rw [HW0.out]; exact ((Below.refl _ _).alloc (Nat.le_refl _) _).alloc (by simp) _
  have hz0 : w.heap.size + 2 ≤ W0.heap.size := by rw [HW0.out]; simp
  have x1 : W0.heap[w.heap.size]? = some (.cells #[.slice a1 n1 c1, .slice a2 n2 c2] 25 (0, 0)) := by rw [HW0.out]; exact alloc2_old _ _ _
  have x2 : W0.heap[w.heap.size + 1]? = some (.cells #[.string (S m.name), .slice a3 n3 c3, .slice a4 n4 c4] 49 (0, 0)) := by rw [HW0.out]; exact alloc2_new _ _ _
  have hnum := numbers_any (nm := m.name) (h.below FAt.stays hb0) ⟨a4, n4, c4, rfl⟩ hl
  go_enter Tryz.func15, Tryz.ntmps15
  go_wp2_with fail
  rw [← HW0.out]
  refine hnum.mono ?_
  rintro e W2 ⟨av, nv, cv, rfl, hrv, hb2⟩
  have hbw2 : Below w.heap.size w W2 := KBT hb0 hb2
  have hz2 := hb2.size
  have Hnv := hrv.len
  have HNV : Hid (nv = (numsN m).length) := Hnv
  have hnvl : nv ≤ 1000000000000 := by rw [Hnv]; unfold numsN; rw [List.length_mergeSort, List.length_map]; exact hl
  have y1 := (hb2.block _ (by omega)).trans x1
  have y2 := (hb2.block _ (by omega)).trans x2
  have hfld : ∀ V x, Below W2.heap.size W2 V → Calls Tryz.prog 34 #[.agg #[.string (S m.name), .slice a3 n3 c3, .slice a4 n4 c4], .int .i64 x] V fun e w' => e = .returned (.int .i64 (firstI (fun f => decide (f.number = x)) m.fields)) ∧ Below V.heap.size V w' := fun V x hV => field_any (h.below FAt.stays (KBT hbw2 hV)) ⟨a4, n4, c4, rfl⟩ ⟨m.name, rfl⟩ x
  have hstp : ∀ V x, Below W2.heap.size W2 V → Calls Tryz.prog 33 #[.agg #[.slice a1 n1 c1, .slice a2 n2 c2], fv x] V fun e w' => e = .returned (tv (stepN g x)) ∧ Below V.heap.size V w' := fun V x hV => stepOf_any (hg.below (KBT hbw2 hV)) x
  clear hnum Hnv
  go_wp2_with fail
  go_loopg [5, 11] nv (fun m' v i wr => ∃ (k : Nat) (ao : Option Addr) (no co : Nat), k + m' = nv ∧ i = .int .i64 k ∧ v = .slice ao no co ∧ Row ekP wr W2.heap.size (.slice ao no co) ((progN g m).take k) ∧ Below W2.heap.size W2 wr)
  case atStart => exact ⟨0, none, 0, 0, by omega, rfl, rfl, by rw [List.take_zero]; exact Row.nil _ _ _, Below.refl _ _⟩
  case round =>
    obtain ⟨k, ao, no, co, hk, rfl, rfl, hr, hb⟩ := hrel
    have hzr := hb.size
    by_cases hlt : k < nv
    · obtain ⟨x, Hx⟩ : ∃ x, Hid ((numsN m)[k]? = some x) := ⟨(numsN m)[k]'(by rw [← HNV.out]; exact hlt), List.getElem?_eq_getElem (by rw [← HNV.out]; exact hlt)⟩
      obtain ⟨gv, rfl, hcv⟩ := (hrv.below hb).get Hx.out
      have s0 : wr.cell? ⟨gv, k, none⟩ = some (.int .i64 x) := by simpa [ekN] using hcv 0 _ rfl
      obtain ⟨j, hj, hjx, _, _⟩ := field_of (nums_mem (List.mem_of_getElem? Hx.out))
      obtain ⟨f, Hf⟩ : ∃ f, Hid (f = fieldN m.fields x) := ⟨_, rfl⟩
      rw [← Hf.out] at hjx
      have hjl : j < n3 := by rw [H3.out]; exact (List.getElem?_eq_some_iff.1 hjx).1
      obtain ⟨b, off, rfl, hat⟩ := (h.below FAt.stays hbw2).get FAt.plain hjx
      have hpk : (progN g m)[k]? = some (stepN g f) := by unfold progN; rw [List.getElem?_map, Hx.out, Hf.out]; rfl
      obtain ⟨st, Hst⟩ : ∃ st, Hid (st = stepN g f) := ⟨_, rfl⟩
      have hcl : ∀ V, Below W2.heap.size W2 V → Below W2.heap.size W2 V ∧ (V.cell? ⟨w.heap.size, 0, none⟩ = some (.slice a1 n1 c1) ∧ V.cell? ⟨w.heap.size, 1, none⟩ = some (.slice a2 n2 c2)) ∧ (V.cell? ⟨w.heap.size + 1, 0, none⟩ = some (.string (S m.name)) ∧ V.cell? ⟨w.heap.size + 1, 1, none⟩ = some (.slice (some ⟨b, off, none⟩) n3 c3) ∧ V.cell? ⟨w.heap.size + 1, 2, none⟩ = some (.slice a4 n4 c4)) ∧ V.cell? ⟨b, off + j * 6, none⟩ = some (.string (S f.name)) ∧ V.cell? ⟨b, off + j * 6 + 1, none⟩ = some (.int .i64 f.number) ∧ V.cell? ⟨b, off + j * 6 + 2, none⟩ = some (.int .i64 f.kind) ∧ V.cell? ⟨b, off + j * 6 + 3, none⟩ = some (.string (S f.type)) ∧ V.cell? ⟨b, off + j * 6 + 4, none⟩ = some (.bool f.many) ∧ V.cell? ⟨b, off + j * 6 + 5, none⟩ = some (.int .i64 f.choice) :=
        fun V hV => ⟨hV, blk2 ((hV.block _ (by omega)).trans y1), blk3 ((hV.block _ (by omega)).trans y2), (FAt.stays _ _ _ _ hV hat).at⟩
      have hfx : ∀ V, Below W2.heap.size W2 V → Calls Tryz.prog 34 #[.agg #[.string (S m.name), .slice (some ⟨b, off, none⟩) n3 c3, .slice a4 n4 c4], .int .i64 x] V fun e w' => e = .returned (.int .i64 (j : Int)) ∧ Below V.heap.size V w' := fun V hV => by have := hfld V x hV; rw [hj] at this; exact this
      have hsx : ∀ V, Below W2.heap.size W2 V → Calls Tryz.prog 33 #[.agg #[.slice a1 n1 c1, .slice a2 n2 c2], .agg #[.string (S f.name), .int .i64 f.number, .int .i64 f.kind, .string (S f.type), .bool f.many, .int .i64 f.choice]] V fun e w' => e = .returned (.agg #[.int .i64 st.kind, .int .i64 st.number, .int .i64 st.how, .int .i64 st.field, .int .i64 st.next]) ∧ Below V.heap.size V w' := fun V hV => by have := hstp V f hV; rw [← Hst.out] at this; exact this
      have hki : (k : Int) < (nv : Int) := by omega
      have hji : (j : Int) < (n3 : Int) := by omega
      have hbytes : (((progN g m).take k).length + [st].length) * ekP.bytes ≤ 140737488355328 := by
        rw [List.length_take]; simp [ekP]; omega
      have hrd : Row ekP wr.drew W2.heap.size (.slice ao no co) ((progN g m).take k) := hr.keep fun _ _ _ => rfl
      have hd : Below W2.heap.size W2 wr.drew := hb.drew
      have hsrc : ∀ V : World, ∀ ad, some (⟨V.heap.size, 0, none⟩ : Addr) = some ad → ∀ k z, [st][k]? = some z → ∀ j u, (ekP.enc z)[j]? = some u → (V.alloc (.cells #[.int .i64 st.kind, .int .i64 st.number, .int .i64 st.how, .int .i64 st.field, .int .i64 st.next] 51)).cell? (ad.add (k * ekP.size + j)) = some u := fun V => kone_src ekP V st
      have hal : ∀ V : World, Row ekP V W2.heap.size (.slice ao no co) ((progN g m).take k) → Row ekP (V.alloc (.cells #[.int .i64 st.kind, .int .i64 st.number, .int .i64 st.how, .int .i64 st.field, .int .i64 st.next] 51)) W2.heap.size (.slice ao no co) ((progN g m).take k) := fun V hV => hV.below ((Below.refl _ _).alloc (Nat.le_refl _) _)
      have hown : ∀ k, (Value.slice ao no co).ownBlock = some k → W2.heap.size ≤ k := fun k hk => (hr.own k hk).1
      obtain ⟨hb', ⟨t0, t1⟩, ⟨t2, t3, t4⟩, t5⟩ := hcl wr hb
      clear hat hfld hstp hcv y1 y2 x1 x2 hj hjx hb'
      go_wp2_with fail
      go_region_held3 (fun V => Below W2.heap.size W2 V ∧ (V.cell? ⟨w.heap.size, 0, none⟩ = some (.slice a1 n1 c1) ∧ V.cell? ⟨w.heap.size, 1, none⟩ = some (.slice a2 n2 c2)) ∧ (V.cell? ⟨w.heap.size + 1, 0, none⟩ = some (.string (S m.name)) ∧ V.cell? ⟨w.heap.size + 1, 1, none⟩ = some (.slice (some ⟨b, off, none⟩) n3 c3) ∧ V.cell? ⟨w.heap.size + 1, 2, none⟩ = some (.slice a4 n4 c4)) ∧ V.cell? ⟨b, off + j * 6, none⟩ = some (.string (S f.name)) ∧ V.cell? ⟨b, off + j * 6 + 1, none⟩ = some (.int .i64 f.number) ∧ V.cell? ⟨b, off + j * 6 + 2, none⟩ = some (.int .i64 f.kind) ∧ V.cell? ⟨b, off + j * 6 + 3, none⟩ = some (.string (S f.type)) ∧ V.cell? ⟨b, off + j * 6 + 4, none⟩ = some (.bool f.many) ∧ V.cell? ⟨b, off + j * 6 + 5, none⟩ = some (.int .i64 f.choice)) ((with_reducible refine hcl _ ?_; with_reducible (first | exact hd | exact hB3 | exact hB4 | exact KB_alloc hB4 (Nat.le_refl _) _ | exact hB5))) ((first | (go_at_call 34; refine (hfx _ (by with_reducible exact hd)).mono ?_; rintro e w3 ⟨rfl, hb3⟩; have hB3 := KBT hd hb3; have hr3 := hrd.below hb3) | (go_at_call 33; refine (hsx _ (by with_reducible exact hB3)).mono ?_; rintro e w4 ⟨rfl, hb4⟩; have hB4 := KBT hB3 hb4; have hr4 := hr3.below hb4) | (refine step_appG (by rfl) ekP _ _ (by rfl) W2.heap.size (.slice ao no co) ((progN g m).take k) [st] (by rfl) (hal _ hr4) (some ⟨w4.heap.size, 0, none⟩) 1 1 (by rfl) (by rfl) (by intro e; cases e) (hsrc w4) (by decide) hbytes (KB_alloc hB4 (Nat.le_refl _) _).size ?_; intro v5 w5 hr5 hg5; obtain ⟨a5, n5, c5, rfl, _⟩ := hr5.shape'; have hB5 := kB_app (KB_alloc hB4 (Nat.le_refl _) _) (Nat.le_refl _) hg5 hown)))
      all_goals
        have hr5' : Row ekP w5 W2.heap.size (.slice a5 n5 c5) ((progN g m).take (k + 1)) := by
          rw [take_snoc hpk, ← Hst.out]; exact hr5
        clear hr5
        go_wp2_with fail
        go_roundg (nv - (k + 1))
        case measure => omega
        case rel => exact ⟨k + 1, a5, n5, c5, by omega, by go_num, rfl, hr5', hB5⟩
    · have hr1 : Row ekP wr W2.heap.size (.slice ao no co) (progN g m) := by
        rw [List.take_of_length_le (by rw [show (progN g m).length = (numsN m).length by simp [progN], ← HNV.out]; omega)] at hr; exact hr
      clear hr
      go_wp2
      go_ret
      exact ⟨ao, no, co, rfl, hr1.mono (by omega), hbw2.trans (hb.mono (by omega))⟩

end L
end Go.Proofs.YthgbiflfinddiaaGreat

