/- The contract of enum. -/
import Derived.Test.YtenlijgnmhdopaaGreatDoorSChoice
import Derived.Deep.CutRange
namespace Go.Proofs.YtenlijgnmhdopaaGreatDoor
open Go.RowKit

theorem Row.other {α : Type} {E : EK α} {w : World} {base g : Nat} {v : Value} {l : List α} (h : Row E w base v l) (hne : v.ownBlock ≠ some g) (i : Nat) (x : Value) : Row E (w.setCell ⟨g, i, none⟩ x) base v l := by
  refine ⟨h.1, ?_⟩
  rcases h.2 with hn | ⟨g', cap, cur, hv, hbg, hg, r⟩
  · exact .inl hn
  · refine .inr ⟨g', cap, cur, hv, hbg, ?_, r⟩
    rw [Below.heap_setCell _ _ _ _ (by intro e; apply hne; rw [hv]; simp [Value.ownBlock]; exact e)]
    exact hg

theorem Row.ne_blk {α : Type} {E : EK α} {w : World} {base g : Nat} {v : Value} {l : List α} (h : Row E w base v l) {cs : Array Value} {t : TypeId} {fr : Nat × Nat} (hb : w.heap[g]? = some (.cells cs t fr)) (ht : t ≠ E.elem) : v.ownBlock ≠ some g := by
  rcases h.2 with ⟨hv, _⟩ | ⟨g', cap, cur, hv, _, hg, _⟩
  · rw [hv]; simp [Value.ownBlock]
  · rw [hv]
    simp only [Value.ownBlock, ne_eq, Option.some.injEq]
    intro e
    rw [e, hb] at hg
    simp at hg
    exact ht hg.2.1
theorem Row.drew' {α : Type} {E : EK α} {w : World} {base : Nat} {v : Value} {l : List α} (h : Row E w base v l) : Row E w.drew base v l := h
theorem Gl.drew' {B : Nat} {w : World} (h : Gl B w) : Gl B w.drew := h.later ((Below.refl _ _).drew)

theorem Row.shape' {α : Type} {E : EK α} {w : World} {base : Nat} {v : Value} {l : List α} (h : Row E w base v l) : ∃ ao n cap, v = .slice ao n cap ∧ Hid (n = l.length) := by
  obtain ⟨ao, cap, hv⟩ := h.shape
  exact ⟨ao, _, cap, hv, rfl⟩

/-- An enum as the call answers it. -/
def EnmV (w : World) (base : Nat) (x : Enm) (v : Value) : Prop := ∃ vi, v = .agg #[.string (S x.name), vi] ∧ Row ekItm w base vi x.items

set_option maxHeartbeats 4000000 in
set_option maxRecDepth 100000 in
theorem enum_any {B b : Nat} {txt r : List UInt8} {m e : Value} {w : World} (h : St w b txt r m e) (hg : Gl B w) (hB : B ≤ b) (K : Nat) (hN : enumL K r ≠ .error none) :
    Calls Tryz.prog 71 #[.pointer (some ⟨b, 0, none⟩)] w (Post b txt m e w (fun x v w' => EnmV w' w.heap.size x v) (enumL K r)) := by
  have hbw := h.lt
  have HN : Hid (enumL K r ≠ .error none) := hN
  have HX : Hid (enumL K r = R.thn (nameL r) fun nm u => R.thn (mustL 123 u) fun _ u => enumGo K ⟨nm, []⟩ u) := rfl
  clear hN
  go_enter Tryz.func71, Tryz.ntmps71
  go_wp2_with fail
  refine (name_any (h.alloc _)).mono ?_
  rintro en w1 ⟨hk1, hx⟩
  have hR : w1.heap[w.heap.size]? = some (.cells #[.string ⟨#[]⟩, .slice none 0 0] 50 (0, 0)) := blk_kp (heap_alloc_new w _) hk1 (by omega)
  have hz1 : w.heap.size + 1 ≤ w1.heap.size := by have := hk1.size; simpa using this
  have hkw : Kp b w w1 := ((Kp.refl b w).alloc _).trans hk1
  clear hk1
  cases hn : nameL r with
  | error E =>
    rw [hn] at hx
    match E, hx with
    | none, hx => exact hx.elim
    | some (c, t), hx =>
      obtain ⟨ht, rfl⟩ := hx
      have HY : Hid (enumL K r = .error (some (c, t))) := by show _ = _; rw [HX.out, hn]; rfl
      clear hn HX
      go_wp2
      exact ⟨rfl, post_err hkw HY.out ht⟩
  | ok p =>
    obtain ⟨nm, t1⟩ := p
    rw [hn] at hx
    obtain ⟨hs1, _, rfl, rfl⟩ := hx
    have HX2 : Hid (enumL K r = R.thn (mustL 123 t1) fun _ u => enumGo K ⟨nm, []⟩ u) := by show _ = _; rw [HX.out, hn]; rfl
    clear hn HX
    have hF2 := heap_alloc_new w1 (.cells #[.string (S nm), .slice none 0 0] 50)
    have hR2 := (Below.heap_alloc w1 (.cells #[.string (S nm), .slice none 0 0] 50) w.heap.size (by omega)).trans hR
    have hs2 := hs1.alloc (.cells #[.string (S nm), .slice none 0 0] 50)
    have hk2 := hkw.alloc (.cells #[.string (S nm), .slice none 0 0] 50)
    clear hkw hR hs1
    go_wp2_with fail
    generalize w1.alloc (.cells #[.string (S nm), .slice none 0 0] 50) = W2 at *
    obtain ⟨F, HFF⟩ : ∃ F, Hid (F = w1.heap.size) := ⟨_, rfl⟩
    have hFz : w.heap.size + 1 ≤ F := by rw [HFF.out]; exact hz1
    rw [← HFF.out] at hF2 ⊢
    clear hz1
    refine (must_any hs2 123).mono ?_
    rintro en w3 ⟨hk3, hx⟩
    have hF3 := blk_kp hF2 hk3 (by omega)
    have hR3 := blk_kp hR2 hk3 (by omega)
    have hkw := hk2.trans hk3
    clear hF2 hR2 hs2 hk2 hk3
    cases hn : mustL 123 t1 with
    | error E =>
      rw [hn] at hx
      match E, hx with
      | none, hx => exact hx.elim
      | some (c, t), hx =>
        obtain ⟨ht, rfl⟩ := hx
        have HY : Hid (enumL K r = .error (some (c, t))) := by show _ = _; rw [HX2.out, hn]; rfl
        clear hn HX2
        go_wp2
        exact ⟨rfl, post_err hkw HY.out ht⟩
    | ok p =>
      obtain ⟨_, t2⟩ := p
      rw [hn] at hx
      obtain ⟨hs3, _, rfl, rfl⟩ := hx
      have HX3 : Hid (enumL K r = enumGo K ⟨nm, []⟩ t2) := by show _ = _; rw [HX2.out, hn]; rfl
      clear hn HX2
      go_wp2_with fail
      go_loopg [] K (fun k wr => ∃ acc q v, Row ekItm wr w.heap.size v acc ∧ wr.heap[F]? = some (.cells #[.string (S nm), v] 50 (0, 0)) ∧ wr.heap[w.heap.size]? = some (.cells #[.string ⟨#[]⟩, .slice none 0 0] 50 (0, 0)) ∧ St wr b txt q m e ∧ Kp b w wr ∧ acc.length ≤ 16 ∧ Hid (enumL K r = enumGo k ⟨nm, acc⟩ q))
      case atStart => exact ⟨[], t2, .slice none 0 0, Row.nil _ _ _, hF3, hR3, hs3, hkw, by simp, HX3⟩
      case round =>
        clear hF3 hR3 hs3 hkw HX3
        obtain ⟨acc, q, v, hrow, hF, hR, hs, hk, hlen, HR⟩ := hrel
        cases gk with
        | zero => exact absurd HR.out HN.out
        | succ k =>
          go_wp2_with fail
          refine (mark_any hs 125).mono ?_
          rintro en w4 ⟨rfl, hs4, hk4⟩
          have hrow4 := hrow.kp hk4 hbw
          have hF4 := blk_kp hF hk4 (by omega)
          have hR4 := blk_kp hR hk4 (by omega)
          have hkw := hk.trans hk4
          clear hrow hs hk hF hR hk4
          generalize hq : markL 125 q = mq at hs4 ⊢
          obtain ⟨ok, t3⟩ := mq
          cases ok with
          | true =>
            have HX4 : Hid (enumL K r = .ok (⟨nm, acc⟩, t3)) := by show _ = _; rw [HR.out, enumGo, hq]
            clear hq HR
            obtain ⟨c0, c1⟩ := blk2 hF4
            obtain ⟨d0, d1⟩ := blk2 hR4
            have g0 := fr_of_blk hR4 0
            have g1 := fr_of_blk hR4 1
            obtain ⟨ao, cap, rfl⟩ := hrow4.shape
            go_wp2
            refine bodyPost_ret (v := .agg #[.string (S nm), .slice ao acc.length cap]) (by simp [results, Tryz.results71, go_sem, *]) rfl ?_
            have hk5 := (hkw.setNew (F := w.heap.size) (by omega) 0 (.string (S nm))).setNew (F := w.heap.size) (by omega) 1 (.slice ao acc.length cap)
            refine post_ok hk5 HX4.out ((hs4.other (by omega) _ _).other (by omega) _ _) ⟨_, rfl, ?_⟩
            exact (hrow4.other (hrow4.ne_blk hR4 (by decide)) _ _).other (hrow4.ne_blk hR4 (by decide)) _ _
          | false =>
            have HX4 : Hid (enumL K r = R.thn (itemL t3) fun i u => if 16 < (acc ++ [i]).length then .error (some (5, u)) else enumGo k ⟨nm, acc ++ [i]⟩ u) := by show _ = _; rw [HR.out, enumGo, hq]
            clear hq HR
            obtain ⟨c0, c1⟩ := blk2 hF4
            have hg4 : Gl B w4 := hg.kp hB hbw hkw
            clear c0 c1
            go_wp2_with fail
            have c1 := (blk2 hF4).2
            go_cut [] from 13 to 32 (fun wc => ∃ i t4 v5, Hid (itemL t3 = .ok (i, t4)) ∧ Row ekItm wc w.heap.size v5 (acc ++ [i]) ∧ wc.heap[F]? = some (.cells #[.string (S nm), v5] 50 (0, 0)) ∧ wc.heap[w.heap.size]? = some (.cells #[.string ⟨#[]⟩, .slice none 0 0] 50 (0, 0)) ∧ St wc b txt t4 m e ∧ Kp b w wc)
            case first =>
              refine wp_region_any (by kernel_rfl) ?_
              change wpAny _ _ _ _ _ _ _ (World.drew _)
              refine wpAny_take (i := 0) (v := .pointer (some ⟨F, 1, none⟩)) rfl (by kernel_rfl) (by kernel_rfl) (by kernel_rfl) (fun _ _ _ h => h) (Or.inl ⟨by rfl, by intro w; go_simp⟩) ?_
              refine wpAny_take (i := 2) (v := .pointer (some ⟨b, 0, none⟩)) rfl (by kernel_rfl) (by kernel_rfl) (by kernel_rfl) (fun _ _ _ h => h) (Or.inl ⟨by rfl, by intro w; go_simp⟩) ?_
              refine wpAny_ready (rs := [1, 3]) (by kernel_rfl) (by simp) ?_
              refine AllReady.cons rfl (fun Kc hK => ?_) (AllReady.cons rfl (fun Kc hK => ?_) AllReady.nil)
              · go_simp
                refine hK _ _ ?_
                clear hK
                refine wpAny_ready (rs := [3]) (by kernel_rfl) (by simp) ?_
                refine AllReady.cons rfl (fun Kc hK => ?_) AllReady.nil
                go_simp
                refine (item_any hs4.drew hg4.drew' hB).mono ?_
                rintro en w5 ⟨hk5, hx⟩
                have hrow5 := (hrow4.drew').kp hk5 hbw
                have hF5 := blk_kp (w := w4.drew) hF4 hk5 (by omega)
                have hR5 := blk_kp (w := w4.drew) hR4 hk5 (by omega)
                have hkw5 := hkw.drew.trans hk5
                cases hn : itemL t3 with
                | error E =>
                  rw [hn] at hx
                  match E, hx with
                  | none, hx => exact hx.elim
                  | some (c, t), hx =>
                    obtain ⟨ht, rfl⟩ := hx
                    have HY : Hid (enumL K r = .error (some (c, t))) := by show _ = _; rw [HX4.out, hn]; rfl
                    clear hn HX4 hK
                    go_wp2
                    exact ⟨rfl, post_err hkw5 HY.out ht⟩
                | ok p =>
                  obtain ⟨i, t4⟩ := p
                  rw [hn] at hx
                  obtain ⟨hs5, _, rfl, rfl⟩ := hx
                  have HI : Hid (itemL t3 = .ok (i, t4)) := hn
                  clear hn
                  obtain ⟨c0, c1⟩ := blk2 hF5
                  have f1 := fr_of_blk hF5 1
                  have hz5 : w.heap.size ≤ w5.heap.size := hkw5.size
                  have hFl : F < w5.heap.size := (Array.getElem?_eq_some_iff.1 hF5).1
                  refine hK _ _ ?_
                  clear hK
                  refine wpAny_ready (rs := [4]) (by kernel_rfl) (by simp) ?_
                  refine AllReady.cons rfl (fun Kc hK => ?_) AllReady.nil
                  unfold encItm
                  go_simp
                  refine hK _ _ ?_
                  clear hK
                  refine wpAny_ready (rs := [5]) (by kernel_rfl) (by simp) ?_
                  refine AllReady.cons rfl (fun Kc hK => ?_) AllReady.nil
                  simp only [Region.wanted]
                  have hone : Row ekItm (w5.alloc (.cells (encItm i).toArray 52)) w.heap.size (.slice (some ⟨w5.heap.size, 0, none⟩) 1 1) [i] := Row.one ekItm w5 i hz5
                  have hrow6 : Row ekItm (w5.alloc (.cells (encItm i).toArray 52)) w.heap.size v acc := hrow5.below ((Below.refl _ _).alloc (Nat.le_refl _) _)
                  have hF6 := (Below.heap_alloc w5 (.cells (encItm i).toArray 52) F hFl).trans hF5
                  have hR6 := (Below.heap_alloc w5 (.cells (encItm i).toArray 52) w.heap.size (by omega)).trans hR5
                  have hs6 := hs5.alloc (.cells (encItm i).toArray 52)
                  have hk6 := hkw5.alloc (.cells (encItm i).toArray 52)
                  refine wp_app ekItm _ _ rfl w.heap.size _ acc [i] rfl hrow6 w.heap.size _ rfl hone (by simp; omega) (by simp; omega) ?_
                  intro v7 w7 hrow7 hgr7
                  obtain ⟨ao7, n7, cap7, rfl, _⟩ := hrow7.shape'
                  have hown := hrow6.own
                  have hs7 := hs6.grown hgr7 (fun k hk => by have := (hown k hk).1; omega)
                  have hk7 := hk6.grown hgr7 (fun k hk => (hown k hk).1)
                  have hF7 := (hgr7.block F (Array.getElem?_eq_some_iff.1 hF6).1 (fun hh => hrow6.ne_blk hF6 (by decide) hh.symm)).trans hF6
                  have hR7 := (hgr7.block w.heap.size (Array.getElem?_eq_some_iff.1 hR6).1 (fun hh => hrow6.ne_blk hR6 (by decide) hh.symm)).trans hR6
                  have k1 := (blk2 hF7).2
                  have g1 := fr_of_blk hF7 1
                  clear c0 c1 f1
                  refine hK _ _ ?_
                  clear hK
                  refine wpAny_take (i := 6) (v := .pointer (some ⟨F, 1, none⟩)) rfl (by kernel_rfl) (by kernel_rfl) (by kernel_rfl) (fun _ _ _ h => h) (Or.inl ⟨by rfl, by intro w; go_simp⟩) ?_
                  refine wpAny_ready (rs := [7]) (by kernel_rfl) (by simp) ?_
                  refine AllReady.cons rfl (fun Kc hK => ?_) AllReady.nil
                  go_simp
                  refine hK _ _ ?_
                  clear hK
                  refine wpAny_done (by kernel_rfl) ?_ _
                  have hF8 := heap_setCell_same _ _ 1 _ _ (.slice ao7 n7 cap7) hF7
                  have hR8 := (heap_setCell_other w7 ⟨F, 1, none⟩ w.heap.size (.slice ao7 n7 cap7) (by simp; omega)).trans hR7
                  have hs8 := hs7.other (F := F) (by omega) 1 (.slice ao7 n7 cap7)
                  have hk8 := hk7.setNew (F := F) (by omega) 1 (.slice ao7 n7 cap7)
                  have hrow8 := hrow7.other (hrow7.ne_blk hF7 (by decide)) 1 (.slice ao7 n7 cap7)
                  go_wp2
                  go_meet
                  case rel => exact ⟨i, t4, _, HI, hrow8, hF8, hR8, hs8, hk8⟩

              · go_simp
                refine (item_any hs4.drew hg4.drew' hB).mono ?_
                rintro en w5 ⟨hk5, hx⟩
                have hrow5 := (hrow4.drew').kp hk5 hbw
                have hF5 := blk_kp (w := w4.drew) hF4 hk5 (by omega)
                have hR5 := blk_kp (w := w4.drew) hR4 hk5 (by omega)
                have hkw5 := hkw.drew.trans hk5
                cases hn : itemL t3 with
                | error E =>
                  rw [hn] at hx
                  match E, hx with
                  | none, hx => exact hx.elim
                  | some (c, t), hx =>
                    obtain ⟨ht, rfl⟩ := hx
                    have HY : Hid (enumL K r = .error (some (c, t))) := by show _ = _; rw [HX4.out, hn]; rfl
                    clear hn HX4 hK
                    go_wp2
                    exact ⟨rfl, post_err hkw5 HY.out ht⟩
                | ok p =>
                  obtain ⟨i, t4⟩ := p
                  rw [hn] at hx
                  obtain ⟨hs5, _, rfl, rfl⟩ := hx
                  have HI : Hid (itemL t3 = .ok (i, t4)) := hn
                  clear hn
                  obtain ⟨c0, c1⟩ := blk2 hF5
                  have f1 := fr_of_blk hF5 1
                  have hz5 : w.heap.size ≤ w5.heap.size := hkw5.size
                  have hFl : F < w5.heap.size := (Array.getElem?_eq_some_iff.1 hF5).1
                  refine hK _ _ ?_
                  clear hK
                  refine wpAny_ready (rs := [1, 4]) (by kernel_rfl) (by simp) ?_
                  refine AllReady.cons rfl (fun Kc hK => ?_) (AllReady.cons rfl (fun Kc hK => ?_) AllReady.nil)
                  · go_simp
                    refine hK _ _ ?_
                    clear hK
                    refine wpAny_ready (rs := [4]) (by kernel_rfl) (by simp) ?_
                    refine AllReady.cons rfl (fun Kc hK => ?_) AllReady.nil
                    unfold encItm
                    go_simp
                    refine hK _ _ ?_
                    clear hK
                    refine wpAny_ready (rs := [5]) (by kernel_rfl) (by simp) ?_
                    refine AllReady.cons rfl (fun Kc hK => ?_) AllReady.nil
                    simp only [Region.wanted]
                    have hone : Row ekItm (w5.alloc (.cells (encItm i).toArray 52)) w.heap.size (.slice (some ⟨w5.heap.size, 0, none⟩) 1 1) [i] := Row.one ekItm w5 i hz5
                    have hrow6 : Row ekItm (w5.alloc (.cells (encItm i).toArray 52)) w.heap.size v acc := hrow5.below ((Below.refl _ _).alloc (Nat.le_refl _) _)
                    have hF6 := (Below.heap_alloc w5 (.cells (encItm i).toArray 52) F hFl).trans hF5
                    have hR6 := (Below.heap_alloc w5 (.cells (encItm i).toArray 52) w.heap.size (by omega)).trans hR5
                    have hs6 := hs5.alloc (.cells (encItm i).toArray 52)
                    have hk6 := hkw5.alloc (.cells (encItm i).toArray 52)
                    refine wp_app ekItm _ _ rfl w.heap.size _ acc [i] rfl hrow6 w.heap.size _ rfl hone (by simp; omega) (by simp; omega) ?_
                    intro v7 w7 hrow7 hgr7
                    obtain ⟨ao7, n7, cap7, rfl, _⟩ := hrow7.shape'
                    have hown := hrow6.own
                    have hs7 := hs6.grown hgr7 (fun k hk => by have := (hown k hk).1; omega)
                    have hk7 := hk6.grown hgr7 (fun k hk => (hown k hk).1)
                    have hF7 := (hgr7.block F (Array.getElem?_eq_some_iff.1 hF6).1 (fun hh => hrow6.ne_blk hF6 (by decide) hh.symm)).trans hF6
                    have hR7 := (hgr7.block w.heap.size (Array.getElem?_eq_some_iff.1 hR6).1 (fun hh => hrow6.ne_blk hR6 (by decide) hh.symm)).trans hR6
                    have k1 := (blk2 hF7).2
                    have g1 := fr_of_blk hF7 1
                    clear c0 c1 f1
                    refine hK _ _ ?_
                    clear hK
                    refine wpAny_take (i := 6) (v := .pointer (some ⟨F, 1, none⟩)) rfl (by kernel_rfl) (by kernel_rfl) (by kernel_rfl) (fun _ _ _ h => h) (Or.inl ⟨by rfl, by intro w; go_simp⟩) ?_
                    refine wpAny_ready (rs := [7]) (by kernel_rfl) (by simp) ?_
                    refine AllReady.cons rfl (fun Kc hK => ?_) AllReady.nil
                    go_simp
                    refine hK _ _ ?_
                    clear hK
                    refine wpAny_done (by kernel_rfl) ?_ _
                    have hF8 := heap_setCell_same _ _ 1 _ _ (.slice ao7 n7 cap7) hF7
                    have hR8 := (heap_setCell_other w7 ⟨F, 1, none⟩ w.heap.size (.slice ao7 n7 cap7) (by simp; omega)).trans hR7
                    have hs8 := hs7.other (F := F) (by omega) 1 (.slice ao7 n7 cap7)
                    have hk8 := hk7.setNew (F := F) (by omega) 1 (.slice ao7 n7 cap7)
                    have hrow8 := hrow7.other (hrow7.ne_blk hF7 (by decide)) 1 (.slice ao7 n7 cap7)
                    go_wp2
                    go_meet
                    case rel => exact ⟨i, t4, _, HI, hrow8, hF8, hR8, hs8, hk8⟩

                  · unfold encItm
                    go_simp
                    refine hK _ _ ?_
                    clear hK
                    refine wpAny_ready (rs := [1]) (by kernel_rfl) (by simp) ?_
                    refine AllReady.cons rfl (fun Kc hK => ?_) AllReady.nil
                    go_simp
                    refine hK _ _ ?_
                    clear hK
                    refine wpAny_ready (rs := [5]) (by kernel_rfl) (by simp) ?_
                    refine AllReady.cons rfl (fun Kc hK => ?_) AllReady.nil
                    simp only [Region.wanted]
                    have hone : Row ekItm (w5.alloc (.cells (encItm i).toArray 52)) w.heap.size (.slice (some ⟨w5.heap.size, 0, none⟩) 1 1) [i] := Row.one ekItm w5 i hz5
                    have hrow6 : Row ekItm (w5.alloc (.cells (encItm i).toArray 52)) w.heap.size v acc := hrow5.below ((Below.refl _ _).alloc (Nat.le_refl _) _)
                    have hF6 := (Below.heap_alloc w5 (.cells (encItm i).toArray 52) F hFl).trans hF5
                    have hR6 := (Below.heap_alloc w5 (.cells (encItm i).toArray 52) w.heap.size (by omega)).trans hR5
                    have hs6 := hs5.alloc (.cells (encItm i).toArray 52)
                    have hk6 := hkw5.alloc (.cells (encItm i).toArray 52)
                    refine wp_app ekItm _ _ rfl w.heap.size _ acc [i] rfl hrow6 w.heap.size _ rfl hone (by simp; omega) (by simp; omega) ?_
                    intro v7 w7 hrow7 hgr7
                    obtain ⟨ao7, n7, cap7, rfl, _⟩ := hrow7.shape'
                    have hown := hrow6.own
                    have hs7 := hs6.grown hgr7 (fun k hk => by have := (hown k hk).1; omega)
                    have hk7 := hk6.grown hgr7 (fun k hk => (hown k hk).1)
                    have hF7 := (hgr7.block F (Array.getElem?_eq_some_iff.1 hF6).1 (fun hh => hrow6.ne_blk hF6 (by decide) hh.symm)).trans hF6
                    have hR7 := (hgr7.block w.heap.size (Array.getElem?_eq_some_iff.1 hR6).1 (fun hh => hrow6.ne_blk hR6 (by decide) hh.symm)).trans hR6
                    have k1 := (blk2 hF7).2
                    have g1 := fr_of_blk hF7 1
                    clear c0 c1 f1
                    refine hK _ _ ?_
                    clear hK
                    refine wpAny_take (i := 6) (v := .pointer (some ⟨F, 1, none⟩)) rfl (by kernel_rfl) (by kernel_rfl) (by kernel_rfl) (fun _ _ _ h => h) (Or.inl ⟨by rfl, by intro w; go_simp⟩) ?_
                    refine wpAny_ready (rs := [7]) (by kernel_rfl) (by simp) ?_
                    refine AllReady.cons rfl (fun Kc hK => ?_) AllReady.nil
                    go_simp
                    refine hK _ _ ?_
                    clear hK
                    refine wpAny_done (by kernel_rfl) ?_ _
                    have hF8 := heap_setCell_same _ _ 1 _ _ (.slice ao7 n7 cap7) hF7
                    have hR8 := (heap_setCell_other w7 ⟨F, 1, none⟩ w.heap.size (.slice ao7 n7 cap7) (by simp; omega)).trans hR7
                    have hs8 := hs7.other (F := F) (by omega) 1 (.slice ao7 n7 cap7)
                    have hk8 := hk7.setNew (F := F) (by omega) 1 (.slice ao7 n7 cap7)
                    have hrow8 := hrow7.other (hrow7.ne_blk hF7 (by decide)) 1 (.slice ao7 n7 cap7)
                    go_wp2
                    go_meet
                    case rel => exact ⟨i, t4, _, HI, hrow8, hF8, hR8, hs8, hk8⟩

            case rest =>
              obtain ⟨i, t4, v5, HI, hrow5, hF5, hR5, hs5, hk5⟩ := hcut
              obtain ⟨ao5, cap5, rfl⟩ := hrow5.shape
              have c1 := (blk2 hF5).2
              have hl5 : (acc ++ [i]).length = acc.length + 1 := by simp
              by_cases h16 : 16 < acc.length + 1
              · have HY : Hid (enumL K r = .error (some (5, t4))) := by show _ = _; rw [HX4.out, HI.out]; show (if _ then _ else _) = _; rw [if_pos (by omega)]
                go_wp2_with fail
                refine (throw_any hs5 5).mono ?_
                rintro en w6 ⟨rfl, rfl⟩
                go_wp2
                exact ⟨rfl, post_err hk5 HY.out hs5.2.1⟩
              · have HY : Hid (enumL K r = enumGo k ⟨nm, acc ++ [i]⟩ t4) := by show _ = _; rw [HX4.out, HI.out]; show (if _ then _ else _) = _; rw [if_neg (by omega)]
                go_wp2_with fail
                go_roundg k
                case measure => omega
                case rel => exact ⟨acc ++ [i], t4, _, hrow5, hF5, hR5, hs5, hk5, by simp; omega, HY⟩

end Go.Proofs.YtenlijgnmhdopaaGreatDoor
