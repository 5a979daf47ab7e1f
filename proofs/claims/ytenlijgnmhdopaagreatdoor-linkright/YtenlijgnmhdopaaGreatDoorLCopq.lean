import Derived.Test.YtenlijgnmhdopaaGreatDoorLKindsq
import Derived.Deep.RegionHeld3
import Derived.Deep.DrawnRows
import Derived.Deep.CutRange
/- The contract of copyOf. -/
namespace Go.Proofs.YtenlijgnmhdopaaGreatDoor
namespace L
open Go.RowKit
attribute [local go_sem ↓] Go.wp_at_zero Go.wp_at_succ

theorem B_alloc {W V : World} {B : Nat} (h : Below B W V) (hB : B ≤ W.heap.size) (o : Obj) : Below B W (V.alloc o) := h.alloc (Nat.le_trans hB h.size) o
theorem B_set {W V : World} {B g i : Nat} {x : Value} (h : Below B W V) (hg : B ≤ g) : Below B W (V.setCell ⟨g, i, none⟩ x) := h.setCell (p := ⟨g, i, none⟩) hg x
theorem B_app {W V V' : World} {B : Nat} {r : Option Nat} (h : Below B W V) (hB : B ≤ W.heap.size) (hg : V.grownBy V' r) (hr : ∀ k, r = some k → B ≤ k) : Below B W V' := h.grown hg (Nat.le_trans hB h.size) hr
/-- An entry that lies in a block of its own. -/
theorem one_src {α : Type} (E : EK α) (w : World) (y : α) : ∀ ad, some (⟨w.heap.size, 0, none⟩ : Addr) = some ad → ∀ k z, [y][k]? = some z → ∀ j u, (E.enc z)[j]? = some u → (w.alloc (.cells (E.enc y).toArray E.elem)).cell? (ad.add (k * E.size + j)) = some u := by
  intro ad had k z hz j u hu
  cases had
  cases k with
  | succ k => simp at hz
  | zero =>
    have hz : y = z := by simpa using hz
    subst hz
    rw [add_plain, Nat.zero_mul, Nat.zero_add, Nat.zero_add]
    exact cell_of_blk (heap_alloc_new w _) j u (by simpa using hu)
theorem S6_of {W V : World} {B g : Nat} {a0 a1 a2 a3 a4 a5 : Value} {t : TypeId} (h : Below B W V) (hb : V.heap[g]? = some (.cells #[a0, a1, a2, a3, a4, a5] t (0, 0))) :
    Below B W V ∧ V.cell? ⟨g, 0, none⟩ = some a0 ∧ V.cell? ⟨g, 1, none⟩ = some a1 ∧ V.cell? ⟨g, 2, none⟩ = some a2 ∧ V.cell? ⟨g, 3, none⟩ = some a3 ∧ V.cell? ⟨g, 4, none⟩ = some a4 ∧ V.cell? ⟨g, 5, none⟩ = some a5 := ⟨h, blk6 hb⟩
/-- A file's lists stay where a file's own cells are written. -/
theorem OwnG.set2 {w : World} {base base' h : Nat} {vm ve : Value} {lm : List (MI × LV × LV)} {le : List (EI × LV)} (hg : OwnG w base vm ve lm le) (hb : base' ≤ base) {cs : Array Value} {fr : Nat × Nat} (hh : w.heap[h]? = some (.cells cs 25 fr)) {x y : Value} {i j : Nat} : OwnG ((w.setCell ⟨h, i, none⟩ x).setCell ⟨h, j, none⟩ y) base' vm ve lm le := by
  have k : ∀ {α : Type} {E : EK α} {v : Value} {l : List α}, Row E w base v l → 25 ≠ E.elem → Row E ((w.setCell ⟨h, i, none⟩ x).setCell ⟨h, j, none⟩ y) base' v l := fun hr hne => (((hr.other (hr.ne_blk hh hne) i x).other (hr.ne_blk hh hne) j y)).mono hb
  exact ⟨k hg.rowm (by decide), k hg.rowe (by decide), fun p hp => ⟨k (hg.ms p hp).1 (by decide), k (hg.ms p hp).2 (by decide)⟩, fun p hp => k (hg.es p hp) (by decide)⟩
theorem OwnG.below {w w' : World} {base : Nat} {vm ve : Value} {lm : List (MI × LV × LV)} {le : List (EI × LV)} (h : OwnG w base vm ve lm le) (hb : Below w.heap.size w w') : OwnG w' base vm ve lm le :=
  ⟨h.rowm.below hb, h.rowe.below hb, fun p hp => ⟨(h.ms p hp).1.below hb, (h.ms p hp).2.below hb⟩, fun p hp => (h.es p hp).below hb⟩
theorem RdL.srcT {w : World} {ao : Option Addr} {n cap : Nat} {l : List II} (h : RdL 2 TAt w (.slice ao n cap) l) : l.length = n ∧ (ao = none → n = 0 ∧ cap = 0) ∧ ∀ ad, ao = some ad → ∀ k y, l[k]? = some y → ∀ j u, (ekT.enc y)[j]? = some u → w.cell? (ad.add (k * ekT.size + j)) = some u := by
  have hl := h.len
  have hn : ao = none → n = 0 ∧ cap = 0 := by obtain ⟨ao', n', cap', e, _, _, _, h4, _⟩ := h; cases e; exact h4
  refine ⟨hl.1.symm, hn, fun ad had k y hy j u hu => ?_⟩
  obtain ⟨b, o, e, h6⟩ := h.get TAt.plain hy
  rw [e] at had
  cases had
  rw [add_plain]
  obtain ⟨t0, t1⟩ := h6.at
  show w.cell? ⟨b, o + (k * 2 + j), none⟩ = some u
  match j, hu with
  | 0, hu =>
    have hu : Value.string (S y.name) = u := by simpa [ekT, encT] using hu
    rw [← hu]; simpa using t0
  | 1, hu =>
    have hu : Value.int .i64 y.value = u := by simpa [ekT, encT] using hu
    rw [← hu, ← Nat.add_assoc]; exact t1
  | j + 2, hu => simp [ekT, encT] at hu
section
variable {w3 w5 w7 : World} {base G : Nat} {vx : Value} {le : List (EI × LV)} {o : Obj}
theorem row_drew {α : Type} {E : EK α} {w : World} {base : Nat} {v : Value} {l : List α} (h : Row E w base v l) : Row E w.drew base v l := h.keep fun _ _ _ => rfl
theorem row_none {α : Type} {E : EK α} {v : Value} {l : List α} (h : Row E w3 base v l) (hg5 : w3.drew.grownBy w5 (Value.slice none 0 0).ownBlock) : Row E w5 base v l := (row_drew h).grown hg5 (by
  cases hv : v.ownBlock with
  | none => exact .inl rfl
  | some k => right; simp [Value.ownBlock])
theorem rowE2 {α : Type} {E : EK α} {v : Value} {l : List α} (h : Row E w3 base v l) (hg5 : w3.drew.grownBy w5 (Value.slice none 0 0).ownBlock) (o : Obj) : Row E (w5.alloc o) base v l := (row_none h hg5).below ((Below.refl _ _).alloc (Nat.le_refl _) _)
theorem keepE (hx : Row ekE w3 base vx le) (hg5 : w3.drew.grownBy w5 (Value.slice none 0 0).ownBlock) (hg7 : (w5.alloc o).grownBy w7 vx.ownBlock) {cs : Array Value} {fr : Nat × Nat} (hG : w7.heap[G]? = some (.cells cs 25 fr)) {i : Nat} {x : Value} {α : Type} {E : EK α} {v : Value} {l : List α} (h : Row E w3 base v l) (hne : E.elem ≠ ekE.elem) (hf : 25 ≠ E.elem) : Row E (w7.setCell ⟨G, i, none⟩ x) base v l := by
  have h3 := (rowE2 h hg5 o).grown hg7 (h.ne hx hne)
  exact h3.other (h3.ne_blk hG hf) i x
theorem OwnG.appE {vm v7 : Value} {lm : List (MI × LV × LV)} (hg : OwnG w3 base vm vx lm le) {e : EI} {p5 : LV} (hr5 : Row ekT w5 base p5.v ([] ++ e.items)) (hg5 : w3.drew.grownBy w5 (Value.slice none 0 0).ownBlock) (hg7 : (w5.alloc o).grownBy w7 vx.ownBlock) (hr7 : Row ekE w7 base v7 (le ++ [(e, p5)])) {cs : Array Value} {fr : Nat × Nat} (hG : w7.heap[G]? = some (.cells cs 25 fr)) {i : Nat} {x : Value} : OwnG (w7.setCell ⟨G, i, none⟩ x) base vm v7 lm (le ++ [(e, p5)]) := by
  have hx5 := row_none hg.rowe hg5
  refine ⟨keepE hg.rowe hg5 hg7 hG hg.rowm (by decide) (by decide), hr7.other (hr7.ne_blk hG (by decide)) i x, fun p hp => ⟨keepE hg.rowe hg5 hg7 hG (hg.ms p hp).1 (by decide) (by decide), keepE hg.rowe hg5 hg7 hG (hg.ms p hp).2 (by decide) (by decide)⟩, fun p hp => ?_⟩
  rcases List.mem_append.1 hp with hp | hp
  · exact keepE hg.rowe hg5 hg7 hG (hg.es p hp) (by decide) (by decide)
  · rw [List.mem_singleton] at hp
    subst hp
    have h3 := (hr5.below ((Below.refl _ _).alloc (Nat.le_refl _) o)).grown hg7 (hr5.ne hx5 (by decide))
    exact h3.other (h3.ne_blk hG (by decide)) i x
end
def linkM (g : GI) (m : MI) : MI := ⟨m.name, m.fields.map (linkF g), m.barred⟩

set_option maxHeartbeats 2000000 in
set_option maxRecDepth 100000 in
theorem copyOf_any {w : World} {vm ve : Value} {g g0 : GI} {p : Nat} {vm0 ve0 : Value} (hg : GRd w vm ve g) (hn1 : g.msgs.length ≤ 10) (hn2 : g.enums.length ≤ 10) (hok : GOk g) (hp : w.heap[p]? = some (.cells #[vm0, ve0] 25 (0, 0))) (hg0 : GRd w vm0 ve0 g0) :
    Calls Tryz.prog 15 #[.agg #[vm, ve], .func (.func 16) #[] #[.pointer (some ⟨p, 0, none⟩)]] w fun e w' => ∃ vm' ve' lm le, e = .returned (.agg #[vm', ve']) ∧ OwnG w' w.heap.size vm' ve' lm le ∧ lm.map Prod.fst = g.msgs.map (linkM g0) ∧ le.map Prod.fst = g.enums ∧ Below w.heap.size w w' := by
  obtain ⟨a1, n1, c1, rfl, H1, _⟩ := hg.1.shape
  obtain ⟨a2, n2, c2, rfl, H2, _⟩ := hg.2.shape
  have h1 : n1 ≤ 10 := by rw [H1.out]; exact hn1
  have h2 : n2 ≤ 10 := by rw [H2.out]; exact hn2
  obtain ⟨W0, HW0⟩ : ∃ W0, Hid (W0 = ((w.alloc (.cells #[.slice a1 n1 c1, .slice a2 n2 c2] 25)).alloc (.cells #[.slice none 0 0, .slice none 0 0] 25)).alloc (.cells #[.slice none 0 0, .slice none 0 0] 25)) := ⟨_, rfl⟩
  have hb0 : Below w.heap.size w W0 := by rw [HW0.out]; exact (((Below.refl _ _).alloc (Nat.le_refl _) _).alloc (by simp) _).alloc (by simp; omega) _
  obtain ⟨G, HG⟩ : ∃ G, Hid (G = w.heap.size + 1 + 1) := ⟨_, rfl⟩
  have hG1 : G ≤ w.heap.size + 2 := Nat.le_of_eq HG.out
  have hG2 : w.heap.size + 2 ≤ G := Nat.le_of_eq HG.out.symm
  have hz0 : W0.heap.size ≤ w.heap.size + 3 := by rw [HW0.out]; simp
  have hz0' : w.heap.size + 3 ≤ W0.heap.size := by rw [HW0.out]; simp
  have x1 : W0.heap[w.heap.size]? = some (.cells #[.slice a1 n1 c1, .slice a2 n2 c2] 25 (0, 0)) := by
    rw [HW0.out, Below.heap_alloc _ _ _ (by simp; omega)]; exact alloc2_old _ _ _
  have x2 : W0.heap[w.heap.size + 1]? = some (.cells #[.slice none 0 0, .slice none 0 0] 25 (0, 0)) := by
    rw [HW0.out, Below.heap_alloc _ _ _ (by simp)]; exact alloc2_new _ _ _
  have x3 : W0.heap[G]? = some (.cells #[.slice none 0 0, .slice none 0 0] 25 (0, 0)) := by
    have := heap_alloc_new ((w.alloc (.cells #[.slice a1 n1 c1, .slice a2 n2 c2] 25)).alloc (.cells #[.slice none 0 0, .slice none 0 0] 25)) (.cells #[.slice none 0 0, .slice none 0 0] 25)
    rw [← HW0.out] at this
    rw [HG.out]; simpa using this
  go_enter Tryz.func15, Tryz.ntmps15
  go_wp2_with fail
  rw [← HW0.out, ← HG.out]
  go_loopg [16] n1 (fun m i wr => ∃ (k : Nat) (lo : List (MI × LV × LV)) (vo : Value), k + m = n1 ∧ i = .int .i64 k ∧ Row ekM wr (G + 1) vo lo ∧ (∀ p ∈ lo, Row ekF wr (G + 1) p.2.1.v p.1.fields ∧ Row ekN wr (G + 1) p.2.2.v p.1.barred) ∧ wr.heap[G]? = some (.cells #[vo, .slice none 0 0] 25 (0, 0)) ∧ Hid (lo.map Prod.fst = (g.msgs.take k).map (linkM g0)) ∧ lo.length = k ∧ Below G W0 wr)
  case atStart => exact ⟨0, [], .slice none 0 0, by omega, rfl, Row.nil _ _ _, fun _ hp => (List.not_mem_nil hp).elim, x3, by show _ = _; simp, rfl, Below.refl _ _⟩
  case round =>
    obtain ⟨k, lo, vo, hk, rfl, hro, hrs, hO3, HL, hlo, hbr⟩ := hrel
    obtain ⟨wo, Hwo⟩ : ∃ wo, wo = wr := ⟨_, rfl⟩
    subst Hwo
    have hBw : Below w.heap.size w wo := hb0.trans (hbr.mono (by omega))
    have hzr : w.heap.size + 3 ≤ wo.heap.size := by have := hbr.size; omega
    have hGl : G < wo.heap.size := by omega
    obtain ⟨ao, no, co, rfl, Hno⟩ := hro.shape'
    by_cases hlt : k < n1
    · obtain ⟨a, Ha⟩ : ∃ a, Hid (g.msgs[k]? = some a) := ⟨g.msgs[k]'(by rw [← H1.out]; exact hlt), List.getElem?_eq_getElem (by rw [← H1.out]; exact hlt)⟩
      obtain ⟨b, off, rfl, hat⟩ := (hg.below hBw).1.get MAt.plain Ha.out
      obtain ⟨vf, vb, s0, s1, s2, hrf, hrb⟩ := hat.at
      obtain ⟨af, nf, cf, rfl, Hf, _⟩ := hrf.shape
      obtain ⟨ab, nb, cb, rfl, Hb, _⟩ := hrb.shape
      have hki : (k : Int) < (n1 : Int) := by omega
      have hmo := hok.1 a (mem_at Ha.out)
      have hbytes : Hid ((([] : List Int).length + a.barred.length) * ekN.bytes ≤ 140737488355328) := by
        show _ ≤ _; have := hmo.2.2.2.2; unfold reachBytes at this; simp [ekN]; omega
      obtain ⟨W1, HW1⟩ : ∃ W1, Hid (W1 = wo.alloc (.cells #[.string (S a.name), .slice af nf cf, .slice ab nb cb] 37)) := ⟨_, rfl⟩
      have hbm : Below wo.heap.size wo W1 := by rw [HW1.out]; exact (Below.refl _ _).alloc (Nat.le_refl _) _
      have hz1 : W1.heap.size ≤ wo.heap.size + 1 := by rw [HW1.out]; simp
      have hz1' : wo.heap.size + 1 ≤ W1.heap.size := by rw [HW1.out]; simp
      have hx1 : W1.heap[wo.heap.size]? = some (.cells #[.string (S a.name), .slice af nf cf, .slice ab nb cb] 37 (0, 0)) := by rw [HW1.out]; exact heap_alloc_new _ _
      have hsrc : ∀ V, Below W1.heap.size W1 V → ∀ ad, ab = some ad → ∀ k y, a.barred[k]? = some y → ∀ j u, (ekN.enc y)[j]? = some u → V.cell? (ad.add (k * ekN.size + j)) = some u := fun V hV => ((hrb.below NAt.stays hbm).below NAt.stays hV).srcN.2.2
      have hnil : ab = none → nb = 0 ∧ cb = 0 := hrb.srcN.2.1
      have hcl : ∀ V, Below W1.heap.size W1 V → Below W1.heap.size W1 V ∧ V.cell? ⟨wo.heap.size, 0, none⟩ = some (.string (S a.name)) ∧ V.cell? ⟨wo.heap.size, 2, none⟩ = some (.slice ab nb cb) := fun V hV => ⟨hV, cell_below hV (cell_of_blk hx1 0 _ rfl), cell_below hV (cell_of_blk hx1 2 _ rfl)⟩
      have hAl : ∀ V, (W1.alloc (.cells #[.string ⟨#[]⟩, .slice none 0 0, .slice none 0 0] 37)).drew.grownBy V (Value.slice none 0 0).ownBlock → V.heap[W1.heap.size]? = some (.cells #[.string ⟨#[]⟩, .slice none 0 0, .slice none 0 0] 37 (0, 0)) := fun V hV => (hV.block W1.heap.size (by show _ < (W1.alloc _).heap.size; simp) (by simp [Value.ownBlock])).trans (heap_alloc_new W1 _)
      clear hat
      go_wp2_with fail
      rw [← HW1.out]
      go_cut [8, 16] from 16 to 48 (fun s8 s16 wc => s16 = .int .i64 k ∧ ∃ (C : Nat) (a5 : Option Addr) (n5 c5 : Nat), s8 = .pointer (some ⟨C, 0, none⟩) ∧ W1.heap.size ≤ C ∧ wc.heap[C]? = some (.cells #[.string (S a.name), .slice none 0 0, .slice a5 n5 c5] 37 (0, 0)) ∧ Row ekN wc W1.heap.size (.slice a5 n5 c5) a.barred ∧ Below W1.heap.size W1 wc)
      case first =>
        go_region_held3 (fun V => Below W1.heap.size W1 V ∧ V.cell? ⟨wo.heap.size, 0, none⟩ = some (.string (S a.name)) ∧ V.cell? ⟨wo.heap.size, 2, none⟩ = some (.slice ab nb cb)) ((refine hcl _ ?_; first | exact (Below.refl _ _).drew | exact hB5 | exact B_alloc hB5 (Nat.le_refl _) _ | exact B_alloc (Below.refl _ _).drew (Nat.le_refl _) _ | exact B_set (B_set (B_set hB5 (Nat.le_refl _)) (Nat.le_refl _)) (Nat.le_refl _))) ((go_split_ands; refine step_appG (by rfl) ekN _ _ (by rfl) W1.heap.size (.slice none 0 0) [] a.barred (by rfl) (Row.nil _ _ _) ab nb cb (by rfl) Hb.out.symm hnil (hsrc _ (by assumption)) (by decide) hbytes.out (Below.size (by assumption)) ?_; intro v5 w5 hr5 hg5; obtain ⟨a5, n5, c5, rfl, H5⟩ := hr5.shape'; have hB5 : Below W1.heap.size W1 w5 := B_app (by assumption) (Nat.le_refl _) hg5 (fun k hk => by simp [Value.ownBlock] at hk); try (have hc5 := hAl _ hg5; obtain ⟨q0, q1, q2⟩ := blk3 hc5; have r0 := fr_of_blk hc5 0; have r1 := fr_of_blk hc5 1; have r2 := fr_of_blk hc5 2)))
        · have hk5 : (w5.alloc (.cells #[.string (S a.name), .slice none 0 0, .slice a5 n5 c5] 37)).heap[w5.heap.size]? = some (.cells #[.string (S a.name), .slice none 0 0, .slice a5 n5 c5] 37 (0, 0)) := heap_alloc_new _ _
          have hr6 := hr5.below ((Below.refl _ _).alloc (Nat.le_refl _) (.cells #[.string (S a.name), .slice none 0 0, .slice a5 n5 c5] 37))
          go_wp2_with fail
          go_meet
          case rel => exact ⟨rfl, w5.heap.size, a5, n5, c5, rfl, hB5.size, hk5, hr6, B_alloc hB5 (Nat.le_refl _) _⟩
        · have hne := hr5.ne_blk hc5 (by decide)
          have hk5 := heap_setCell_same _ _ 2 _ _ (.slice a5 n5 c5) (heap_setCell_same _ _ 1 _ _ (.slice none 0 0) (heap_setCell_same _ _ 0 _ _ (.string (S a.name)) hc5))
          have hr6 := ((hr5.other hne 0 (.string (S a.name))).other hne 1 (.slice none 0 0)).other hne 2 (.slice a5 n5 c5)
          have hB6 : Below W1.heap.size W1 (((w5.setCell ⟨W1.heap.size, 0, none⟩ (.string (S a.name))).setCell ⟨W1.heap.size, 1, none⟩ (.slice none 0 0)).setCell ⟨W1.heap.size, 2, none⟩ (.slice a5 n5 c5)) := B_set (B_set (B_set hB5 (Nat.le_refl _)) (Nat.le_refl _)) (Nat.le_refl _)
          go_wp2_with fail
          go_meet
          case rel => exact ⟨rfl, W1.heap.size, a5, n5, c5, rfl, Nat.le_refl _, hk5, hr6, hB6⟩
      case rest =>
        obtain ⟨rfl, C, a5, n5, c5, rfl, hC, hkC, hrN, hBc⟩ := hcut
        obtain ⟨m0, m1, m2⟩ := blk3 ((hBc.block wo.heap.size (by omega)).trans hx1)
        clear hsrc hnil hcl hAl hbytes
        go_wp2_with fail
        go_loopg [29] nf (fun m i wi => ∃ (j : Nat) (fs : List FI) (vf : Value), j + m = nf ∧ i = .int .i64 j ∧ Row ekF wi W1.heap.size vf fs ∧ Row ekN wi W1.heap.size (.slice a5 n5 c5) a.barred ∧ wi.heap[C]? = some (.cells #[.string (S a.name), vf, .slice a5 n5 c5] 37 (0, 0)) ∧ Hid (fs = (a.fields.take j).map (linkF g0)) ∧ fs.length = j ∧ Below W1.heap.size W1 wi)
        case atStart => exact ⟨0, [], .slice none 0 0, by omega, rfl, Row.nil _ _ _, hrN, hkC, by show _ = _; simp, rfl, hBc⟩
        case round =>
          clear m0 m1 m2 hkC hrN hBc
          obtain ⟨j, fs, vf, hj, rfl, hrow, hrN, hkC, HJ, hfl, hbi⟩ := hrel
          obtain ⟨wi, Hwi⟩ : ∃ wi, wi = wr := ⟨_, rfl⟩
          subst Hwi
          have hBi : Below wo.heap.size wo wi := hbm.trans (hbi.mono (by omega))
          have hCl : C < wi.heap.size := (Array.getElem?_eq_some_iff.1 hkC).1
          by_cases hjl : j < nf
          · obtain ⟨f, Hf2⟩ : ∃ f, Hid (a.fields[j]? = some f) := ⟨a.fields[j]'(by rw [← Hf.out]; exact hjl), List.getElem?_eq_getElem (by rw [← Hf.out]; exact hjl)⟩
            obtain ⟨bf, of, rfl, hfa⟩ := (hrf.below FAt.stays hBi).get FAt.plain Hf2.out
            obtain ⟨y0, y1, y2, y3, y4, y5⟩ := hfa.at
            have hji : (j : Int) < (nf : Int) := by omega
            obtain ⟨W2, HW2⟩ : ∃ W2, Hid (W2 = wi.alloc (.cells #[.string (S f.name), .int .i64 f.number, .int .i64 f.kind, .string (S f.type), .bool f.many, .int .i64 f.choice] 39)) := ⟨_, rfl⟩
            have hb2 : Below wi.heap.size wi W2 := by rw [HW2.out]; exact (Below.refl _ _).alloc (Nat.le_refl _) _
            have hz2 : wi.heap.size + 1 ≤ W2.heap.size := by rw [HW2.out]; simp
            have hX2 : W2.heap[wi.heap.size]? = some (.cells #[.string (S f.name), .int .i64 f.number, .int .i64 f.kind, .string (S f.type), .bool f.many, .int .i64 f.choice] 39 (0, 0)) := by rw [HW2.out]; exact heap_alloc_new _ _
            have hB2 : Below W1.heap.size W1 W2 := hbi.trans (hb2.mono (by have := hbi.size; omega))
            have hk2 := (hb2.block C hCl).trans hkC
            have hrow2 := hrow.below hb2
            have hrN2 := hrN.below hb2
            obtain ⟨av, nv, cv, rfl, Hnv⟩ := hrow.shape'
            have hBw2 : Below w.heap.size w W2 := (hBw.trans (hBi.mono (by omega))).trans (hb2.mono (by have := hBi.size; omega))
            obtain ⟨f2, HF2⟩ : ∃ f2, Hid (f2 = linkF g0 f) := ⟨_, rfl⟩
            have hlk : ∀ V, Below W2.heap.size W2 V → Calls Tryz.prog 16 #[.agg #[.string (S f.name), .int .i64 f.number, .int .i64 f.kind, .string (S f.type), .bool f.many, .int .i64 f.choice], .pointer (some ⟨p, 0, none⟩)] V fun e V' => e = .returned (.agg #[.string (S f2.name), .int .i64 f2.number, .int .i64 f2.kind, .string (S f2.type), .bool f2.many, .int .i64 f2.choice]) ∧ Below V.heap.size V V' := by
              intro V hV
              have hBV : Below w.heap.size w V := hBw2.trans (hV.mono hBw2.size)
              have := link1_call ((hBV.block p (Array.getElem?_eq_some_iff.1 hp).1).trans hp) (hg0.below hBV) f
              rw [← HF2.out] at this
              exact this
            have hcl2 : ∀ V, Below W2.heap.size W2 V → Below W1.heap.size W1 V ∧ V.cell? ⟨wi.heap.size, 0, none⟩ = some (.string (S f.name)) ∧ V.cell? ⟨wi.heap.size, 1, none⟩ = some (.int .i64 f.number) ∧ V.cell? ⟨wi.heap.size, 2, none⟩ = some (.int .i64 f.kind) ∧ V.cell? ⟨wi.heap.size, 3, none⟩ = some (.string (S f.type)) ∧ V.cell? ⟨wi.heap.size, 4, none⟩ = some (.bool f.many) ∧ V.cell? ⟨wi.heap.size, 5, none⟩ = some (.int .i64 f.choice) := fun V hV => ⟨hB2.trans (hV.mono hB2.size), cell_below hV (cell_of_blk hX2 0 _ rfl), cell_below hV (cell_of_blk hX2 1 _ rfl), cell_below hV (cell_of_blk hX2 2 _ rfl), cell_below hV (cell_of_blk hX2 3 _ rfl), cell_below hV (cell_of_blk hX2 4 _ rfl), cell_below hV (cell_of_blk hX2 5 _ rfl)⟩
            have hby4 : Hid ((fs.length + [f2].length) * ekF.bytes ≤ 140737488355328) := by
              show _ ≤ _
              have := hmo.2.2.2.1
              unfold reachBytes at this
              rw [← Hf.out] at this
              simp [ekF]; omega
            have hc1 := cell_of_blk hk2 1 _ rfl
            clear hfa
            go_wp2_with fail
            rw [← HW2.out]
            obtain ⟨_, d0, d1, d2, d3, d4, d5⟩ := hcl2 W2.drew (Below.refl _ _).drew
            clear hcl2
            go_region_law (first | (rw [if_pos (by rfl)]; go_simp; refine (hlk _ (Below.refl _ _).drew).mono ?_; rintro e w3 ⟨rfl, hb3⟩; have hB3 : Below W2.heap.size W2 w3 := (Below.refl _ _).drew.trans hb3; have hk3 := (hB3.block C (by omega)).trans hk2; have hc3 := cell_of_blk hk3 1 _ rfl; have hc4 := fun o => cell_of_blk ((Below.heap_alloc w3 o C (Array.getElem?_eq_some_iff.1 hk3).1).trans hk3) 1 _ rfl) | (refine step_appG (by rfl) ekF _ _ (by rfl) W1.heap.size (.slice av nv cv) fs [f2] (by rfl) ((hrow2.below hB3).below ((Below.refl _ _).alloc (Nat.le_refl _) _)) (some ⟨w3.heap.size, 0, none⟩) 1 1 (by rfl) rfl (fun h => by cases h) (one_src ekF w3 f2) (by decide) hby4.out (by have := hB3.size; have := hB2.size; simp; omega) ?_; intro v5 w5 hr5 hg5; obtain ⟨a6, n6, c6, rfl, H6⟩ := hr5.shape'; have hB5 : Below W1.heap.size W1 w5 := B_app (B_alloc (hB2.trans (hB3.mono hB2.size)) (Nat.le_refl _) _) (Nat.le_refl _) hg5 (fun k hk => ((hrow2.below hB3).own k hk).1); have hk5 : w5.heap[C]? = some (.cells #[.string (S a.name), .slice av nv cv, .slice a5 n5 c5] 37 (0, 0)) := (hg5.block C (by have := hB3.size; simp; omega) (fun hh => hrow2.ne_blk hk2 (by decide) hh.symm)).trans ((Below.heap_alloc w3 _ C (by have := hB3.size; omega)).trans hk3); obtain ⟨e0, e1, e2⟩ := blk3 hk5; have e3 := fr_of_blk hk5 1))
            all_goals
              have hrN5 := ((hrN2.below hB3).below ((Below.refl _ _).alloc (Nat.le_refl _) (.cells #[.string (S f2.name), .int .i64 f2.number, .int .i64 f2.kind, .string (S f2.type), .bool f2.many, .int .i64 f2.choice] 39))).grown hg5 (hrN2.ne hrow2 (by decide))
              have q1 := hr5.other (hr5.ne_blk hk5 (by decide)) 1 (.slice a6 n6 c6)
              have q2 := hrN5.other (hrN5.ne_blk hk5 (by decide)) 1 (.slice a6 n6 c6)
              have q3 := heap_setCell_same _ _ 1 _ _ (.slice a6 n6 c6) hk5
              have q4 := B_set (i := 1) (x := .slice a6 n6 c6) hB5 hC
              clear hk5 hrN5 hr5 hg5 e0 e1 e2 e3 d0 d1 d2 d3 d4 d5 hc3 hc4 hk3 hlk hc1 hrow2 hrN2 hk2
              go_wp2_with fail
              go_roundg (nf - (j + 1))
              case measure => omega
              case rel =>
                refine ⟨j + 1, fs ++ [f2], .slice a6 n6 c6, by omega, by go_num, q1, q2, q3, ?_, by simp; omega, q4⟩
                show _ = _
                rw [take_snoc Hf2.out, List.map_append, ← HJ.out, HF2.out]; rfl
          · obtain ⟨av, nv, cv, rfl, Hnv⟩ := hrow.shape'
            obtain ⟨e0, e1, e2⟩ := blk3 hkC
            have hoi := (hBi.block G hGl).trans hO3
            obtain ⟨p0, p1⟩ := blk2 hoi
            have HF : Hid (fs = a.fields.map (linkF g0)) := by
              show _ = _; rw [HJ.out, List.take_of_length_le (by rw [← Hf.out]; omega)]
            have hroi := hro.below hBi
            have hone : Row ekM (wi.alloc (.cells #[.string (S a.name), .slice av nv cv, .slice a5 n5 c5] 37)) (G + 1) (.slice (some ⟨wi.heap.size, 0, none⟩) 1 1) [(⟨a.name, fs, a.barred⟩, (av, nv, cv), (a5, n5, c5))] := Row.one ekM wi (⟨a.name, fs, a.barred⟩, (av, nv, cv), (a5, n5, c5)) (by have := hBi.size; omega)
            have hba := (Below.refl wi.heap.size wi).alloc (Nat.le_refl _) (.cells #[.string (S a.name), .slice av nv cv, .slice a5 n5 c5] 37)
            have hroa := hroi.below hba
            have hoa := (hba.block G (by have := hBi.size; omega)).trans hoi
            have hrfa := (hrow.mono (show G + 1 ≤ W1.heap.size by omega)).below hba
            have hrba := (hrN.mono (show G + 1 ≤ W1.heap.size by omega)).below hba
            have hrsa : ∀ p ∈ lo, Row ekF (wi.alloc (.cells #[.string (S a.name), .slice av nv cv, .slice a5 n5 c5] 37)) (G + 1) p.2.1.v p.1.fields ∧ Row ekN (wi.alloc (.cells #[.string (S a.name), .slice av nv cv, .slice a5 n5 c5] 37)) (G + 1) p.2.2.v p.1.barred := fun p hp => ⟨((hrs p hp).1.below hBi).below hba, ((hrs p hp).2.below hBi).below hba⟩
            have hBa : Below G W0 (wi.alloc (.cells #[.string (S a.name), .slice av nv cv, .slice a5 n5 c5] 37)) := (hbr.trans (hBi.mono (by omega))).trans (hba.mono (by have := hBi.size; omega))
            have hzi : G + 1 ≤ wi.heap.size := by have := hBi.size; omega
            clear hrs hkC hrow hrN hO3
            go_wp2_with (at_builtin; refine wpList_app rfl ekM _ _ rfl (G + 1) _ lo [(⟨a.name, fs, a.barred⟩, (av, nv, cv), (a5, n5, c5))] rfl hroa (G + 1) _ rfl hone ?e1 ?e2 ?_)
            case e1 => (try simp); omega
            case e2 => (try simp); omega
            intro v6 w6 hrow6 hgr6
            have hown := hroa.own
            have hB6 : Below G W0 w6 := hBa.grown hgr6 (by (try simp); omega) (fun k hk => by have := (hown k hk).1; omega)
            have hO6 := (hgr6.block G (Array.getElem?_eq_some_iff.1 hoa).1 (fun hh => by have := (hown G hh.symm).1; omega)).trans hoa
            have g1 := fr_of_blk hO6 0
            obtain ⟨k0, k1⟩ := blk2 hO6
            obtain ⟨a6, n6, c6, rfl, Hn6⟩ := hrow6.shape'
            have hrf6 := hrfa.grown hgr6 (hrfa.ne hroa (by decide))
            have hrb6 := hrba.grown hgr6 (hrba.ne hroa (by decide))
            have hrs6 : ∀ p ∈ lo, Row ekF w6 (G + 1) p.2.1.v p.1.fields ∧ Row ekN w6 (G + 1) p.2.2.v p.1.barred := fun p hp => ⟨(hrsa p hp).1.grown hgr6 ((hrsa p hp).1.ne hroa (by decide)), (hrsa p hp).2.grown hgr6 ((hrsa p hp).2.ne hroa (by decide))⟩
            clear hown hone hroa hoa hBa hrsa p0 p1 e0 e1 e2
            go_wp2_with fail
            go_roundg (n1 - (k + 1))
            case measure => omega
            case rel =>
              refine ⟨k + 1, lo ++ [(⟨a.name, fs, a.barred⟩, (av, nv, cv), (a5, n5, c5))], .slice a6 n6 c6, by omega, by go_num, hrow6.other (fun hh => by have := (hrow6.own G hh).1; omega) 0 _, ?_, heap_setCell_same _ _ 0 _ _ _ hO6, ?_, by simp; omega, hB6.setCell (p := ⟨G, 0, none⟩) (show G ≤ (⟨G, 0, none⟩ : Addr).block from Nat.le_refl _) _⟩
              · intro p hp
                rw [List.mem_append, List.mem_singleton] at hp
                rcases hp with hp | rfl
                · exact ⟨(hrs6 p hp).1.other ((hrs6 p hp).1.ne_blk hO6 (by decide)) 0 _, (hrs6 p hp).2.other ((hrs6 p hp).2.ne_blk hO6 (by decide)) 0 _⟩
                · exact ⟨hrf6.other (hrf6.ne_blk hO6 (by decide)) 0 _, hrb6.other (hrb6.ne_blk hO6 (by decide)) 0 _⟩
              · show _ = _
                rw [take_snoc Ha.out, List.map_append, List.map_append, HL.out]
                simp [linkM, HF.out]
    · have HL2 : Hid (lo.map Prod.fst = g.msgs.map (linkM g0)) := by
        show _ = _; rw [HL.out, List.take_of_length_le (by rw [← H1.out]; omega)]
      have x1o := (hbr.block w.heap.size (by omega)).trans x1
      obtain ⟨z0, z1⟩ := blk2 x1o
      go_wp2_with fail
      go_loopg [52] n2 (fun m i wr => ∃ (k : Nat) (le : List (EI × LV)) (vx : Value), k + m = n2 ∧ i = .int .i64 k ∧ OwnG wr (G + 1) (.slice ao no co) vx lo le ∧ wr.heap[G]? = some (.cells #[.slice ao no co, vx] 25 (0, 0)) ∧ Hid (le.map Prod.fst = g.enums.take k) ∧ le.length = k ∧ Below G W0 wr)
      case atStart => exact ⟨0, [], .slice none 0 0, by omega, rfl, ⟨hro, Row.nil _ _ _, hrs, fun _ hp => (List.not_mem_nil hp).elim⟩, hO3, by show _ = _; simp, rfl, hbr⟩
      case round =>
        clear x1o z0 z1 hro hrs hO3 hbr hBw hzr hGl
        obtain ⟨k2, le, vx, hk2, rfl, hog, hO3, HE, hle, hbr⟩ := hrel
        obtain ⟨wq, Hwq⟩ : ∃ wq, wq = wr := ⟨_, rfl⟩
        subst Hwq
        have hBw : Below w.heap.size w wq := hb0.trans (hbr.mono (by omega))
        have hzr : w.heap.size + 3 ≤ wq.heap.size := by have := hbr.size; omega
        obtain ⟨ax, nx, cx, rfl, Hnx⟩ := hog.rowe.shape'
        by_cases hlt2 : k2 < n2
        · obtain ⟨e, Hee⟩ : ∃ e, Hid (g.enums[k2]? = some e) := ⟨g.enums[k2]'(by rw [← H2.out]; exact hlt2), List.getElem?_eq_getElem (by rw [← H2.out]; exact hlt2)⟩
          obtain ⟨be, oe, rfl, hat⟩ := (hg.below hBw).2.get EAt.plain Hee.out
          obtain ⟨vi, s0, s1, hri⟩ := hat.at
          obtain ⟨ai, ni, ci, rfl, Hi, _⟩ := hri.shape
          have hki : (k2 : Int) < (n2 : Int) := by omega
          have hby1 : Hid ((([] : List II).length + e.items.length) * ekT.bytes ≤ 140737488355328) := by
            show _ ≤ _; have := (hok.2.1 e (mem_at Hee.out)).2.2; unfold reachBytes at this; simp [ekT]; omega
          obtain ⟨W3, HW3⟩ : ∃ W3, Hid (W3 = wq.alloc (.cells #[.string (S e.name), .slice ai ni ci] 50)) := ⟨_, rfl⟩
          have hb3 : Below wq.heap.size wq W3 := by rw [HW3.out]; exact (Below.refl _ _).alloc (Nat.le_refl _) _
          have hz3 : wq.heap.size + 1 ≤ W3.heap.size := by rw [HW3.out]; simp
          have hX3 : W3.heap[wq.heap.size]? = some (.cells #[.string (S e.name), .slice ai ni ci] 50 (0, 0)) := by rw [HW3.out]; exact heap_alloc_new _ _
          have hG3 := (hb3.block G (by omega)).trans hO3
          have hsrcT := ((hri.below TAt.stays hb3).below TAt.stays (Below.refl W3.heap.size W3).drew).srcT
          have hog3 := hog.below hb3
          have hlx : (le.length + [(e, ((none, 0, 0) : LV))].length) * ekE.bytes ≤ 140737488355328 := by simp [ekE]; omega
          obtain ⟨d0, d1⟩ := blk2 (w := W3.drew) hX3
          have d2 := (blk2 (w := W3.drew) hG3).2
          have hB3 : Below G W0 W3 := hbr.trans (hb3.mono (by omega))
          clear hat hO3 hbr hog
          go_wp2_with fail
          rw [← HW3.out]
          clear s0 s1 hg hg0 hp hok hn1 hn2 HL HL2 x1 x2 x3 hb0 HW0 hBw H1 H2 hri hb3 HW3 hki hlo HG
          go_region_law (first | (refine step_appG (by rfl) ekT _ _ (by rfl) (G + 1) (.slice none 0 0) [] e.items (by rfl) (Row.nil _ _ _) ai ni ci (by rfl) Hi.out.symm hsrcT.2.1 hsrcT.2.2 (by decide) hby1.out (by show G + 1 ≤ W3.heap.size; omega) ?_; intro v5 w5 hr5 hg5; obtain ⟨a5, n5, c5, rfl, H5⟩ := hr5.shape'; have hX5 : w5.heap[wq.heap.size]? = some (.cells #[.string (S e.name), .slice ai ni ci] 50 (0, 0)) := (hg5.block wq.heap.size (by show _ < W3.heap.size; omega) (by simp [Value.ownBlock])).trans hX3; have hG5 : w5.heap[G]? = some (.cells #[.slice ao no co, .slice ax nx cx] 25 (0, 0)) := (hg5.block G (by show _ < W3.heap.size; omega) (by simp [Value.ownBlock])).trans hG3; have t0 := cell_of_blk hX5 0 _ rfl; have t1 := cell_of_blk hG5 1 _ rfl; have t2 := fun o => cell_of_blk ((Below.heap_alloc w5 o G (Array.getElem?_eq_some_iff.1 hG5).1).trans hG5) 1 _ rfl) | (refine step_appG (by rfl) ekE _ _ (by rfl) (G + 1) (.slice ax nx cx) le [(e, (a5, n5, c5))] (by rfl) (rowE2 hog3.rowe hg5 _) (some ⟨w5.heap.size, 0, none⟩) 1 1 (by rfl) rfl (fun h => by cases h) (one_src ekE w5 (e, (a5, n5, c5))) (by decide) hlx (by have := (Array.getElem?_eq_some_iff.1 hG5).1; simp; omega) ?_; intro v7 w7 hr7 hg7; obtain ⟨a7, n7, c7, rfl, H7⟩ := hr7.shape'; have hG7 : w7.heap[G]? = some (.cells #[.slice ao no co, .slice ax nx cx] 25 (0, 0)) := (hg7.block G (by have := (Array.getElem?_eq_some_iff.1 hG5).1; simp; omega) (fun hh => hog3.rowe.ne_blk hG3 (by decide) hh.symm)).trans ((Below.heap_alloc w5 _ G (Array.getElem?_eq_some_iff.1 hG5).1).trans hG5); have e1 := cell_of_blk hG7 1 _ rfl; have e3 := fr_of_blk hG7 1))
          all_goals
            have hB7 : Below G W0 w7 := B_app (B_alloc (B_app (hB3.drew) (by omega) hg5 (fun k hk => by simp [Value.ownBlock] at hk)) (by omega) _) (by omega) hg7 (fun k hk => by have := (hog3.rowe.own k hk).1; omega)
            have hq := hog3.appE (e := e) hr5 hg5 hg7 hr7 hG7 (i := 1) (x := .slice a7 n7 c7)
            have q3 := heap_setCell_same _ _ 1 _ _ (.slice a7 n7 c7) hG7
            have q4 := B_set (i := 1) (x := .slice a7 n7 c7) hB7 (Nat.le_refl _)
            clear hr5 hg5 hg7 hr7 hG7 e1 e3 t0 t1 t2 hX5 hG5 hB7 hog3 hsrcT d0 d1 d2
            go_wp2_with fail
            go_roundg (n2 - (k2 + 1))
            case measure => omega
            case rel =>
              refine ⟨k2 + 1, le ++ [(e, (a5, n5, c5))], .slice a7 n7 c7, by omega, by go_num, hq, q3, ?_, by simp; omega, q4⟩
              show _ = _
              rw [take_snoc Hee.out, List.map_append, HE.out]; rfl
        · have HE2 : Hid (le.map Prod.fst = g.enums) := by
            show _ = _; rw [HE.out, List.take_of_length_le (by rw [← H2.out]; omega)]
          have hR := (hbr.block (w.heap.size + 1) (by omega)).trans x2
          obtain ⟨q0, q1⟩ := blk2 hR
          have f0 := fr_of_blk hR 0
          have f1 := fr_of_blk hR 1
          obtain ⟨o0, o1⟩ := blk2 hO3
          go_wp2
          refine bodyPost_ret (v := .agg #[.slice ao no co, .slice ax nx cx]) (by simp [results, Tryz.results15, go_sem, *]) rfl ?_
          refine ⟨_, _, lo, le, rfl, ?_, HL2.out, HE2.out, ?_⟩
          · exact hog.set2 (by omega) hR
          · exact setR hBw _ _

end L
end Go.Proofs.YtenlijgnmhdopaaGreatDoor

