import Derived.Test.YtenlijgnmhdopaaGreatDoorXAliveq
import Derived.Test.YtenlijgnmhdopaaGreatDoorXRgtLq
import Derived.Test.YtenlijgnmhdopaaGreatDoorLSameq
import Derived.Deep.DeepCutAuto
/- The walk of LinkRight. -/
namespace Go.Proofs.YtenlijgnmhdopaaGreatDoor
open Go.RowKit
attribute [local go_sem ↓] Go.wp_at_zero Go.wp_at_succ

theorem BT {W V V' : World} (h : Below W.heap.size W V) (k : Below V.heap.size V V') : Below W.heap.size W V' := h.trans (k.mono h.size)
theorem BK {B : Nat} {W V V' : World} (h : Below B W V) (hB : B ≤ W.heap.size) (k : Below V.heap.size V V') : Below B W V' := h.trans (k.mono (Nat.le_trans hB h.size))

theorem st_step {W V : World} {F : Nat} {t : TypeId} {x y : Value} (c d : Value) (o : Obj) (h : Below F W V) (hF : F + 1 ≤ W.heap.size) (hv : V.heap[F]? = some (.cells #[x, y] t (0, 0))) :
    Below F W (((V.setCell ⟨F, 0, none⟩ c).setCell ⟨F, 1, none⟩ d).alloc o) ∧ (((V.setCell ⟨F, 0, none⟩ c).setCell ⟨F, 1, none⟩ d).alloc o).heap[F]? = some (.cells #[c, d] t (0, 0)) ∧ (((V.setCell ⟨F, 0, none⟩ c).setCell ⟨F, 1, none⟩ d).alloc o).heap[V.heap.size]? = some o ∧ V.heap.size + 1 ≤ (((V.setCell ⟨F, 0, none⟩ c).setCell ⟨F, 1, none⟩ d).alloc o).heap.size := by
  have hsz : ((V.setCell ⟨F, 0, none⟩ c).setCell ⟨F, 1, none⟩ d).heap.size = V.heap.size := by simp
  have hb := (h.setCell (p := ⟨F, 0, none⟩) (Nat.le_refl F) c).setCell (p := ⟨F, 1, none⟩) (Nat.le_refl F) d
  have hs := h.size
  have hFV : F < V.heap.size := by omega
  refine ⟨hb.alloc (by rw [hsz]; omega) o, ?_, ?_, by simp⟩
  · rw [Below.heap_alloc _ _ _ (by rw [hsz]; exact hFV)]
    exact heap_setCell_same _ _ 1 _ _ d (heap_setCell_same _ _ 0 _ _ c hv)
  · have := heap_alloc_new ((V.setCell ⟨F, 0, none⟩ c).setCell ⟨F, 1, none⟩ d) o
    rw [hsz] at this
    exact this
theorem back_fil {w : World} {base : Nat} {vm ve : Value} {lm : List (L.MI × L.LV × L.LV)} {le : List (L.EI × L.LV)} {g : L.GI} (h : L.OwnG w base vm ve lm le) (hm : lm.map Prod.fst = g.msgs) (he : le.map Prod.fst = g.enums) (hr : (L.wrongL g).1 = 0) :
    ∃ la lb, FilR w base vm ve la lb ∧ la.map Prod.fst = (frG g).msgs ∧ lb.map Prod.fst = (frG g).enums :=
  ⟨_, _, ownG_back h hm he hr, by rw [back_fst, hm]; rfl, by rw [back_fst, he]; rfl⟩
theorem fil_set {w : World} {base F : Nat} {vm ve : Value} {la : List (Msg × SV × SV)} {lb : List (Enm × SV)} (h : FilR w base vm ve la lb) (hF : F < base) (c d : Value) (o : Obj) : FilR (((w.setCell ⟨F, 0, none⟩ c).setCell ⟨F, 1, none⟩ d).alloc o) base vm ve la lb :=
  FilR.below ((h.set hF _ _).set hF _ _) ((Below.refl _ _).alloc (Nat.le_refl _) _)
theorem fil_grd {w : World} {base : Nat} {vm ve : Value} {la : List (Msg × SV × SV)} {lb : List (Enm × SV)} {g : L.GI} (h : FilR w base vm ve la lb) (hm : la.map Prod.fst = (frG g).msgs) (he : lb.map Prod.fst = (frG g).enums) (hr : (L.wrongL g).1 = 0) : L.GRd w vm ve g := by
  have := h.grd hm he
  rw [rt_back hr] at this
  exact this
theorem fil_print {B base : Nat} {w : World} {vm ve : Value} {la : List (Msg × SV × SV)} {lb : List (Enm × SV)} {g : L.GI} (h : FilR w base vm ve la lb) (hm : la.map Prod.fst = (frG g).msgs) (he : lb.map Prod.fst = (frG g).enums) (hr : (L.wrongL g).1 = 0) (hg : Gl B w) (hB : B ≤ w.heap.size) :
    Calls Tryz.prog 12 #[.agg #[vm, ve]] w fun e w' => e = .returned (.string (S (printP (frG g).msgs (frG g).enums))) ∧ Below w.heap.size w w' := by
  have l1 : la.length = (frG g).msgs.length := by rw [← hm]; simp
  have l2 : lb.length = (frG g).enums.length := by rw [← he]; simp
  have hn := rt_few hr
  obtain ⟨q1, q2⟩ := print_ok hr
  have hp := print_any h hg hB (by omega) (by omega) (fun p hp => q1 p.1 (by rw [← hm]; exact List.mem_map_of_mem hp)) (fun p hp => q2 p.1 (by rw [← he]; exact List.mem_map_of_mem hp)) (by rw [hm, he]; exact print_le2 (rt_msgok hr) (rt_enmok hr) hn)
  rw [hm, he] at hp
  exact hp
theorem fil_num {base : Nat} {w : World} {vm ve : Value} {la : List (Msg × SV × SV)} {lb : List (Enm × SV)} {g : L.GI} (h : FilR w base vm ve la lb) (hm : la.map Prod.fst = (frG g).msgs) (he : lb.map Prod.fst = (frG g).enums) (hr : (L.wrongL g).1 = 0) (hB : base ≤ w.heap.size) :
    Calls Tryz.prog 13 #[.agg #[vm, ve]] w fun e w' => ∃ vm', e = .returned (.agg #[vm', ve]) ∧ L.GRd w' vm' ve g ∧ Below w.heap.size w w' := by
  have l1 : la.length = (frG g).msgs.length := by rw [← hm]; simp
  have hn := rt_few hr
  obtain ⟨q1, _⟩ := print_ok hr
  refine (numbered_any h hB (by omega) fun p hp => by have := (q1 p.1 (by rw [← hm]; exact List.mem_map_of_mem hp)).1; omega).mono ?_
  rintro e w' ⟨vm', lm', rfl, hf, hl, hb⟩
  rw [hm, numb_id hr] at hl
  exact ⟨vm', rfl, fil_grd hf hl he hr, hb⟩

set_option maxHeartbeats 4000000 in
set_option maxRecDepth 100000 in
theorem right_walk {B : Nat} {w : World} {vm ve : Value} {g : L.GI} (hgl : Gl B w) (hB : B ≤ w.heap.size) (hg : L.GRd w vm ve g) (hok : L.GOk g) :
    Calls Tryz.prog 3 #[.agg #[vm, ve]] w fun e w' => e = .returned (.bool true) ∧ Below w.heap.size w w' := by
  obtain ⟨a1, n1, c1, rfl, H1, _⟩ := hg.1.shape
  obtain ⟨a2, n2, c2, rfl, H2, _⟩ := hg.2.shape
  obtain ⟨W0, HW0⟩ : ∃ W0, Hid (W0 = w.alloc (.cells #[.slice a1 n1 c1, .slice a2 n2 c2] 25)) := ⟨_, rfl⟩
  have hb0 : Below w.heap.size w W0 := by rw [HW0.out]; exact (Below.refl _ _).alloc (Nat.le_refl _) _
  have hz0 : w.heap.size + 1 ≤ W0.heap.size := by rw [HW0.out]; simp
  have x1 : W0.heap[w.heap.size]? = some (.cells #[.slice a1 n1 c1, .slice a2 n2 c2] 25 (0, 0)) := by rw [HW0.out]; exact heap_alloc_new _ _
  have hal := alive3_any (w := W0) (hgl.later (hb0.mono hB)) (Nat.le_trans hB hb0.size)
  go_enter Tryz.func3, Tryz.ntmps3
  go_wp2_with fail
  rw [← HW0.out]
  refine hal.mono ?_
  rintro e w1 ⟨rfl, hb1⟩
  have hbw1 : Below w.heap.size w w1 := BT hb0 hb1
  obtain ⟨u0, u1⟩ := blk2 ((hb1.block w.heap.size (by omega)).trans x1)
  have hlk := L.link_any (hg.below hbw1) hok
  clear hal
  go_wp2_with fail
  refine hlk.mono ?_
  rintro e w2 ⟨hb2, hx⟩
  have hbw2 : Below w.heap.size w w2 := BT hbw1 hb2
  clear hlk u0 u1
  rcases hx with ⟨hz, vm2, ve2, lm, le, rfl, hog, hm2, he2⟩ | ⟨hz, rfl⟩
  rotate_left
  · generalize hq : L.wrongL (L.linkL g) = q at hz
    obtain ⟨ze, zi⟩ := q
    have hqb : (ze != 0) = true := by simpa using hz
    obtain ⟨W3, HW3⟩ : ∃ W3, Hid (W3 = (w2.alloc (.cells #[.slice none 0 0, .slice none 0 0] 25)).alloc (.cells #[.int .i64 ze, .int .i64 (zi : Int)] 29)) := ⟨_, rfl⟩
    have hb3 : Below w2.heap.size w2 W3 := by rw [HW3.out]; exact ((Below.refl _ _).alloc (Nat.le_refl _) _).alloc (by simp) _
    have hsm := L.rsame_any (w := W3) (vm1 := .slice none 0 0) (ve1 := .slice none 0 0) (vm2 := .slice none 0 0) (ve2 := .slice none 0 0) (g := ⟨[], []⟩) ⟨L.RdL.nil _ _ _, L.RdL.nil _ _ _⟩ ⟨L.RdL.nil _ _ _, L.RdL.nil _ _ _⟩
    clear hq hz
    go_wp2_with fail
    rw [← HW3.out]
    refine hsm.mono ?_
    rintro e w4 ⟨rfl, hb4⟩
    have hbf : Below w.heap.size w w4 := BT (BT hbw2 hb3) hb4
    go_wp2
    go_ret
    exact ⟨rfl, hbf⟩
  obtain ⟨G, HG⟩ : ∃ G, Hid (G = L.linkL g) := ⟨_, rfl⟩
  have hr : (L.wrongL G).1 = 0 := by rw [HG.out]; exact hz
  have hm2 : lm.map Prod.fst = G.msgs := by rw [HG.out]; exact hm2
  have he2 : le.map Prod.fst = G.enums := by rw [HG.out]; exact he2
  have hokG : L.GOk G := by rw [HG.out]; exact gok_link hok
  have hfew : G.msgs.length + G.enums.length ≤ 10 := by have := (L.right_inv hr).1; omega
  have HR : Hid ((L.wrongL G).1 = 0) := hr
  have hgr2 : L.GRd w2 vm2 ve2 G := by
    have := hog.rd
    rw [hm2, he2] at this
    exact this
  obtain ⟨am, nm, cm, rfl, Hnm, _⟩ := hgr2.1.shape
  obtain ⟨ae, ne, ce, rfl, Hne, _⟩ := hgr2.2.shape
  have HM2 : Hid (lm.map Prod.fst = G.msgs) := hm2
  have HE2 : Hid (le.map Prod.fst = G.enums) := he2
  clear hm2 he2 hz hr
  obtain ⟨W3, HW3⟩ : ∃ W3, Hid (W3 = (w2.alloc (.cells #[.slice am nm cm, .slice ae ne ce] 25)).alloc (.cells #[.int .i64 0, .int .i64 0] 29)) := ⟨_, rfl⟩
  have hb3 : Below w2.heap.size w2 W3 := by rw [HW3.out]; exact ((Below.refl _ _).alloc (Nat.le_refl _) _).alloc (by simp) _
  have hz3 : w2.heap.size + 2 ≤ W3.heap.size := by rw [HW3.out]; simp
  have hA3 : W3.heap[w2.heap.size]? = some (.cells #[.slice am nm cm, .slice ae ne ce] 25 (0, 0)) := by rw [HW3.out]; exact alloc2_old _ _ _
  have hV3 : W3.heap[w2.heap.size + 1]? = some (.cells #[.int .i64 0, .int .i64 0] 29 (0, 0)) := by rw [HW3.out]; exact alloc2_new _ _ _
  have hcl : ∀ V, Below (w2.heap.size + 1) W3 V → V.heap[w2.heap.size]? = some (.cells #[.slice am nm cm, .slice ae ne ce] 25 (0, 0)) ∧ Below w.heap.size w V ∧ Below w2.heap.size w2 V ∧ L.GRd V (.slice am nm cm) (.slice ae ne ce) G := fun V hV => ⟨(hV.block _ (by omega)).trans hA3, BT hbw2 (hb3.trans (hV.mono (by omega))), hb3.trans (hV.mono (by omega)), hgr2.below (hb3.trans (hV.mono (by omega)))⟩
  obtain ⟨_, hbw3, _, hgr3⟩ := hcl W3 (Below.refl _ _)
  obtain ⟨u0, u1⟩ := blk2 hA3
  obtain ⟨u2, u3⟩ := blk2 hV3
  have hwr := L.Wrong_any hgr3 (by omega) (by omega) hokG.fits
  rw [HR.out] at hwr
  generalize hqi : (L.wrongL G).2 = qi at hwr
  have hf0 := L.field0 0 (qi : Int)
  rw [HW3.out] at u0 u1 u2 u3
  clear hqi
  go_wp2_with fail
  rw [← HW3.out]
  refine hwr.mono ?_
  rintro e w4 ⟨rfl, hb4⟩
  have hB4 : Below W3.heap.size W3 w4 := hb4
  obtain ⟨k1, hbw4, _, hgr4⟩ := hcl w4 (hB4.mono (by omega))
  obtain ⟨v0, v1⟩ := blk2 k1
  clear hwr u0 u1 u2 u3
  go_wp2_with fail
  go_loopg [32] nm (fun gm i wr => ∃ k : Nat, k + gm = nm ∧ i = .int .i64 k ∧ Below W3.heap.size W3 wr)
  case atStart => exact ⟨0, by omega, rfl, hB4⟩
  case round =>
    clear v0 v1 k1 hbw4 hgr4 hB4 hb4
    obtain ⟨k, hk, rfl, hB4⟩ := hrel
    obtain ⟨wk, Hwk⟩ : ∃ wk, wk = wr := ⟨_, rfl⟩
    subst Hwk
    obtain ⟨k1, hbwk, _, hgrk⟩ := hcl wk (hB4.mono (by omega))
    by_cases hlt : k < nm
    · obtain ⟨m, Hm⟩ : ∃ m, Hid (G.msgs[k]? = some m) := ⟨G.msgs[k]'(by rw [← Hnm.out]; exact hlt), List.getElem?_eq_getElem (by rw [← Hnm.out]; exact hlt)⟩
      obtain ⟨b, off, rfl, hat⟩ := hgrk.1.get L.MAt.plain Hm.out
      obtain ⟨vf, vb, s0, s1, s2, hrf, hrb⟩ := hat.at
      obtain ⟨af, nf, cf, rfl, Hf, _⟩ := hrf.shape
      obtain ⟨ab, nb, cb, rfl, _, _⟩ := hrb.shape
      have hki : (k : Int) < (nm : Int) := by omega
      obtain ⟨Wm, HWm⟩ : ∃ Wm, Hid (Wm = wk.alloc (.cells #[.string (L.S m.name), .slice af nf cf, .slice ab nb cb] 37)) := ⟨_, rfl⟩
      have hbm : Below wk.heap.size wk Wm := by rw [HWm.out]; exact (Below.refl _ _).alloc (Nat.le_refl _) _
      have hBm : Below W3.heap.size W3 Wm := BT hB4 hbm
      clear hat
      go_wp2_with fail
      rw [← HWm.out]
      go_loopg [39] nf (fun gm i wr => ∃ j : Nat, j + gm = nf ∧ i = .int .i64 j ∧ Below Wm.heap.size Wm wr)
      case atStart => exact ⟨0, by omega, rfl, Below.refl _ _⟩
      case round =>
        clear s0 s1 s2
        obtain ⟨j, hj, rfl, hbj⟩ := hrel
        obtain ⟨wj, Hwj⟩ : ∃ wj, wj = wr := ⟨_, rfl⟩
        subst Hwj
        have hBj : Below W3.heap.size W3 wj := BT hBm hbj
        by_cases hlt2 : j < nf
        · obtain ⟨x, Hx⟩ : ∃ x, Hid (m.fields[j]? = some x) := ⟨m.fields[j]'(by rw [← Hf.out]; exact hlt2), List.getElem?_eq_getElem (by rw [← Hf.out]; exact hlt2)⟩
          obtain ⟨bf, of, rfl, hfa⟩ := (hrf.below L.FAt.stays (BT hbm hbj)).get L.FAt.plain Hx.out
          obtain ⟨y0, y1, y2, y3, y4, y5⟩ := hfa.at
          have hji : (j : Int) < (nf : Int) := by omega
          obtain ⟨Wx, HWx⟩ : ∃ Wx, Hid (Wx = wj.alloc (.cells #[.string (L.S x.name), .int .i64 x.number, .int .i64 x.kind, .string (L.S x.type), .bool x.many, .int .i64 x.choice] 39)) := ⟨_, rfl⟩
          have hbx : Below wj.heap.size wj Wx := by rw [HWx.out]; exact (Below.refl _ _).alloc (Nat.le_refl _) _
          have hBx : Below W3.heap.size W3 Wx := BT hBj hbx
          obtain ⟨k2, _, _, hgrx⟩ := hcl Wx (hBx.mono (by omega))
          have hXx : Wx.heap[wj.heap.size]? = some (.cells #[.string (L.S x.name), .int .i64 x.number, .int .i64 x.kind, .string (L.S x.type), .bool x.many, .int .i64 x.choice] 39 (0, 0)) := by rw [HWx.out]; exact heap_alloc_new _ _
          obtain ⟨t0, t1⟩ := blk2 k2
          obtain ⟨d0, d1, d2, d3, d4, d5⟩ := L.blk6 hXx
          have hmg := L.message_any hgrx.1 ⟨ae, ne, ce, rfl⟩ x.type
          have heg := L.enum_any hgrx.2 ⟨some ⟨b, off, none⟩, nm, cm, rfl⟩ x.type
          obtain ⟨r1, Hr1⟩ : ∃ r1, Hid (r1 = L.firstI (fun m => decide (m.name = x.type)) G.msgs) := ⟨_, rfl⟩
          obtain ⟨r2, Hr2⟩ : ∃ r2, Hid (r2 = L.firstI (fun m => decide (m.name = x.type)) G.enums) := ⟨_, rfl⟩
          rw [← Hr1.out] at hmg
          rw [← Hr2.out] at heg
          have hhas := (rt_rf HR.out (L.mem_at Hm.out) (L.mem_at Hx.out)).has
          have hq1 : x.kind = 10 → 0 ≤ r1 := by
            intro hk; unfold L.hasB at hhas; rw [if_pos hk, ← Hr1.out] at hhas; simpa using hhas
          have hq2 : x.kind = 5 → 0 ≤ r2 := by
            intro hk; unfold L.hasB at hhas; rw [if_neg (by omega), if_pos hk, ← Hr2.out] at hhas; simpa using hhas
          rw [HWx.out] at t0 t1 d0 d1 d2 d3 d4 d5
          clear hfa hhas hcl
          by_cases h10 : x.kind = 10
          · have e10 : (x.kind == 10) = true := by simp [h10]
            have e5 : (x.kind == 5) = false := by simp [h10]
            have hr1 := hq1 h10
            have hnr : ¬ r1 < 0 := by omega
            clear h10 hq1 hq2
            go_wp2_with fail
            rw [← HWx.out]
            refine hmg.mono ?_
            rintro e w6 ⟨rfl, hb6⟩
            have hX6 := (hb6.block wj.heap.size (Array.getElem?_eq_some_iff.1 hXx).1).trans hXx
            obtain ⟨p0, p1, p2, p3, p4, p5⟩ := L.blk6 hX6
            have hB6 : Below Wm.heap.size Wm w6 := BT (BT hbj hbx) hb6
            clear t0 t1 d0 d1 d2 d3 d4 d5
            go_wp2_with fail
            go_roundg (nf - (j + 1))
            case measure => omega
            case rel => exact ⟨j + 1, by omega, by go_num, hB6⟩
          · have e10 : (x.kind == 10) = false := by simp [h10]
            by_cases h5 : x.kind = 5
            · have e5 : (x.kind == 5) = true := by simp [h5]
              have hr2 := hq2 h5
              have hnr : ¬ r2 < 0 := by omega
              clear h10 h5 hq1 hq2
              go_wp2_with fail
              rw [← HWx.out]
              refine heg.mono ?_
              rintro e w6 ⟨rfl, hb6⟩
              have hB6 : Below Wm.heap.size Wm w6 := BT (BT hbj hbx) hb6
              clear t0 t1 d0 d1 d2 d3 d4 d5
              go_wp2_with fail
              go_roundg (nf - (j + 1))
              case measure => omega
              case rel => exact ⟨j + 1, by omega, by go_num, hB6⟩
            · have e5 : (x.kind == 5) = false := by simp [h5]
              have hB6 : Below Wm.heap.size Wm Wx := BT hbj hbx
              rw [HWx.out] at hB6
              clear h10 h5 hq1 hq2
              go_wp2_with fail
              go_roundg (nf - (j + 1))
              case measure => omega
              case rel => exact ⟨j + 1, by omega, by go_num, hB6⟩
        · clear hcl
          go_wp2_with fail
          go_roundg (nm - (k + 1))
          case measure => omega
          case rel => exact ⟨k + 1, by omega, by go_num, hBj⟩
    · have hsk := hB4.size
      have hFk : Below (w2.heap.size + 1) W3 wk := hB4.mono (by omega)
      have hVk := (hB4.block (w2.heap.size + 1) (by omega)).trans hV3
      obtain ⟨la, lb, fa, fam, fae⟩ := back_fil hog HM2.out HE2.out HR.out
      have hprt : ∀ V, Below (w2.heap.size + 1) W3 V → Calls Tryz.prog 12 #[.agg #[.slice am nm cm, .slice ae ne ce]] V fun e w' => e = .returned (.string (S (printP (frG G).msgs (frG G).enums))) ∧ Below V.heap.size V w' := fun V hV => by
        obtain ⟨_, q1, q2, _⟩ := hcl V hV
        exact fil_print (fa.below q2) fam fae HR.out (hgl.later (q1.mono hB)) (Nat.le_trans hB q1.size)
      have hlk := L.link_any hgrk hokG
      rw [rt_link HR.out] at hlk
      obtain ⟨v0, v1⟩ := blk2 k1
      go_wp2_with fail
      refine hlk.mono ?_
      rintro e w5 ⟨hb5, hx⟩
      rcases hx with ⟨_, vm5, ve5, lm5, le5, rfl, hog5, hm5, he5⟩ | ⟨hz5, rfl⟩
      rotate_left
      · exact absurd HR.out hz5
      obtain ⟨la5, lb5, f5, f5m, f5e⟩ := back_fil hog5 hm5 he5 HR.out
      clear hog5 hm5 he5 hlk v0 v1
      obtain ⟨am5, nm5, cm5, rfl, _⟩ := f5.rowm.shape'
      obtain ⟨ae5, ne5, ce5, rfl, _⟩ := f5.rowe.shape'
      have hF5 : Below (w2.heap.size + 1) W3 w5 := BK hFk (by omega) hb5
      have hV5 := (hb5.block (w2.heap.size + 1) (by omega)).trans hVk
      have hs5 := hb5.size
      obtain ⟨k5, _, _, _⟩ := hcl w5 hF5
      obtain ⟨W6, HW6⟩ : ∃ W6, Hid (W6 = ((w5.setCell ⟨w2.heap.size + 1, 0, none⟩ (.int .i64 0)).setCell ⟨w2.heap.size + 1, 1, none⟩ (.int .i64 0)).alloc (.cells #[.slice am5 nm5 cm5, .slice ae5 ne5 ce5] 25)) := ⟨_, rfl⟩
      obtain ⟨hF6, hV6, _, hz6⟩ := st_step (.int .i64 0) (.int .i64 0) (.cells #[.slice am5 nm5 cm5, .slice ae5 ne5 ce5] 25) hF5 (by omega) hV5
      have f6 := fil_set f5 (F := w2.heap.size + 1) (by omega) (.int .i64 0) (.int .i64 0) (.cells #[.slice am5 nm5 cm5, .slice ae5 ne5 ce5] 25)
      rw [← HW6.out] at hF6 hV6 hz6 f6
      obtain ⟨_, _, _, hgr6⟩ := hcl W6 hF6
      have hsm := L.rsame_any hgr6 (fil_grd f6 f5m f5e HR.out)
      obtain ⟨x10, x11⟩ := blk2 k5
      obtain ⟨x20, x21⟩ := blk2 hV5
      have f20 := fr_of_blk hV5 0
      have f21 := fr_of_blk hV5 1
      have g1 : w2.heap.size + 1 < w5.heap.size := by omega
      have g0 : w2.heap.size < w5.heap.size := by omega
      clear f5 f6
      go_wp2_with fail
      rw [← HW6.out]
      refine hsm.mono ?_
      rintro e w7 ⟨rfl, hb7⟩
      clear x10 x11 x20 x21 f20 f21 g1 g0 hsm hgr6
      have hF7 : Below (w2.heap.size + 1) W3 w7 := BK hF6 (by omega) hb7
      have hV7 := (hb7.block (w2.heap.size + 1) (by omega)).trans hV6
      have hs7 := hb7.size
      obtain ⟨k7, _, _, _⟩ := hcl w7 hF7
      obtain ⟨v0, v1⟩ := blk2 k7
      obtain ⟨T, HT⟩ : ∃ T, Hid (T = printP (frG G).msgs (frG G).enums) := ⟨_, rfl⟩
      have hTl : T.length ≤ 1000000 := by rw [HT.out]; exact print_le2 (rt_msgok HR.out) (rt_enmok HR.out) (rt_few HR.out)
      have hpr := hprt w7 hF7
      rw [← HT.out] at hpr
      have hsT := S_size T
      clear hprt
      go_wp2_with fail
      refine hpr.mono ?_
      rintro e w8 ⟨rfl, hb8⟩
      have hF8 : Below (w2.heap.size + 1) W3 w8 := BK hF7 (by omega) hb8
      have hV8 := (hb8.block (w2.heap.size + 1) (by omega)).trans hV7
      have hs8 := hb8.size
      clear hpr v0 v1
      by_cases hT3 : 3000 < T.length
      · have hmuch := Parse_much (S T) (by rw [S_size]; exact hT3) (by rw [S_size]; omega) w8
        go_wp2_with fail
        refine hmuch.mono ?_
        rintro e w9 ⟨rfl, hb9⟩
        have hF9 : Below (w2.heap.size + 1) W3 w9 := BK hF8 (by omega) hb9
        have hV9 := (hb9.block (w2.heap.size + 1) (by omega)).trans hV8
        have hs9 := hb9.size
        obtain ⟨hF10, _, _, _⟩ := st_step (.int .i64 4) (.int .i64 0) (.cells #[.slice none 0 0, .slice none 0 0] 25) hF9 (by omega) hV9
        obtain ⟨_, hbf, _, _⟩ := hcl _ hF10
        obtain ⟨x20, x21⟩ := blk2 hV9
        have f20 := fr_of_blk hV9 0
        have f21 := fr_of_blk hV9 1
        have g1 : w2.heap.size + 1 < w9.heap.size := by omega
        clear hmuch
        go_wp2
        go_ret
        exact ⟨rfl, hbf⟩
      · have hpp := parse_print (rt_msgok HR.out) (rt_enmok HR.out) (rt_few HR.out)
        rw [← HT.out] at hpp
        obtain ⟨_, hbw8, _, _⟩ := hcl w8 hF8
        have hpar := Parse_any T (by omega) (hgl.later (hbw8.mono hB)) (Nat.le_trans hB hbw8.size) 100 (by omega) (by rw [hpp]; simp)
        rw [hpp] at hpar
        go_wp2_with fail
        refine hpar.mono ?_
        rintro e w9 ⟨hb9, vm9, ve9, lm9, le9, rfl, f9, hm9, he9, _⟩
        obtain ⟨am9, nm9, cm9, rfl, _⟩ := f9.rowm.shape'
        obtain ⟨ae9, ne9, ce9, rfl, _⟩ := f9.rowe.shape'
        have hF9 : Below (w2.heap.size + 1) W3 w9 := BK hF8 (by omega) hb9
        have hV9 := (hb9.block (w2.heap.size + 1) (by omega)).trans hV8
        have hs9 := hb9.size
        obtain ⟨W10, HW10⟩ : ∃ W10, Hid (W10 = ((w9.setCell ⟨w2.heap.size + 1, 0, none⟩ (.int .i64 0)).setCell ⟨w2.heap.size + 1, 1, none⟩ (.int .i64 0)).alloc (.cells #[.slice am9 nm9 cm9, .slice ae9 ne9 ce9] 25)) := ⟨_, rfl⟩
        obtain ⟨hF10, hV10, _, hz10⟩ := st_step (.int .i64 0) (.int .i64 0) (.cells #[.slice am9 nm9 cm9, .slice ae9 ne9 ce9] 25) hF9 (by omega) hV9
        have f10 := fil_set f9 (F := w2.heap.size + 1) (by omega) (.int .i64 0) (.int .i64 0) (.cells #[.slice am9 nm9 cm9, .slice ae9 ne9 ce9] 25)
        rw [← HW10.out] at hF10 hV10 hz10 f10
        have hlk := L.link_any (f10.grd (f := ⟨(frG G).msgs.map numM, (frG G).enums⟩) hm9 he9) (gok_again hokG HR.out)
        rw [rt_again HR.out] at hlk
        have hen : (toG ⟨(frG G).msgs.map numM, (frG G).enums⟩).enums = G.enums := by
          have := congrArg L.GI.enums (rt_back HR.out)
          exact this
        rw [hen] at hlk
        obtain ⟨x20, x21⟩ := blk2 hV9
        have f20 := fr_of_blk hV9 0
        have f21 := fr_of_blk hV9 1
        have g1 : w2.heap.size + 1 < w9.heap.size := by omega
        clear hpp hpar f9 f10 hm9 he9 hen
        go_wp2_with fail
        rw [← HW10.out]
        refine hlk.mono ?_
        rintro e w11 ⟨hb11, hx⟩
        rcases hx with ⟨_, vm11, ve11, lm11, le11, rfl, hog11, hm11, he11⟩ | ⟨hz11, rfl⟩
        rotate_left
        · exact absurd HR.out hz11
        obtain ⟨la11, lb11, f11, f11m, f11e⟩ := back_fil hog11 hm11 he11 HR.out
        clear hog11 hm11 he11 hlk x20 x21 f20 f21 g1
        obtain ⟨am11, nm11, cm11, rfl, _⟩ := f11.rowm.shape'
        obtain ⟨ae11, ne11, ce11, rfl, _⟩ := f11.rowe.shape'
        have hF11 : Below (w2.heap.size + 1) W3 w11 := BK hF10 (by omega) hb11
        have hV11 := (hb11.block (w2.heap.size + 1) (by omega)).trans hV10
        have hs11 := hb11.size
        obtain ⟨W12, HW12⟩ : ∃ W12, Hid (W12 = ((w11.setCell ⟨w2.heap.size + 1, 0, none⟩ (.int .i64 0)).setCell ⟨w2.heap.size + 1, 1, none⟩ (.int .i64 0)).alloc (.cells #[.slice am11 nm11 cm11, .slice ae11 ne11 ce11] 25)) := ⟨_, rfl⟩
        obtain ⟨hF12, hV12, hC12, hz12⟩ := st_step (.int .i64 0) (.int .i64 0) (.cells #[.slice am11 nm11 cm11, .slice ae11 ne11 ce11] 25) hF11 (by omega) hV11
        have f12 := fil_set f11 (F := w2.heap.size + 1) (by omega) (.int .i64 0) (.int .i64 0) (.cells #[.slice am11 nm11 cm11, .slice ae11 ne11 ce11] 25)
        rw [← HW12.out] at hF12 hV12 hC12 hz12 f12
        obtain ⟨k12, hbw12, hb212, _⟩ := hcl W12 hF12
        have hgc12 := fil_grd f12 f11m f11e HR.out
        have fa12 := fa.below hb212
        have hb112 : w1.heap.size ≤ W12.heap.size := Nat.le_trans hb2.size hb212.size
        have cn : ∀ V, Below W12.heap.size W12 V → Calls Tryz.prog 13 #[.agg #[.slice am nm cm, .slice ae ne ce]] V fun e w' => ∃ vm', e = .returned (.agg #[vm', .slice ae ne ce]) ∧ L.GRd w' vm' (.slice ae ne ce) G ∧ Below V.heap.size V w' := fun V hV => fil_num (fa12.below hV) fam fae HR.out (Nat.le_trans hb112 hV.size)
        have cs : ∀ V vm', Below W12.heap.size W12 V → L.GRd V vm' (.slice ae ne ce) G → Calls Tryz.prog 7 #[.agg #[vm', .slice ae ne ce], .agg #[.slice am11 nm11 cm11, .slice ae11 ne11 ce11]] V fun e w' => e = .returned (.bool true) ∧ Below V.heap.size V w' := fun V vm' hV hg => L.rsame_any hg (hgc12.below hV)
        have hcell : ∀ V, Below W12.heap.size W12 V → V.cell? ⟨w2.heap.size, 0, none⟩ = some (.slice am nm cm) ∧ V.cell? ⟨w2.heap.size, 1, none⟩ = some (.slice ae ne ce) ∧ V.cell? ⟨w11.heap.size, 0, none⟩ = some (.slice am11 nm11 cm11) ∧ V.cell? ⟨w11.heap.size, 1, none⟩ = some (.slice ae11 ne11 ce11) ∧ V.cell? ⟨w2.heap.size + 1, 0, none⟩ = some (.int .i64 0) := fun V hV => ⟨L.cell_below hV (cell_of_blk k12 0 _ rfl), L.cell_below hV (cell_of_blk k12 1 _ rfl), L.cell_below hV (cell_of_blk hC12 0 _ rfl), L.cell_below hV (cell_of_blk hC12 1 _ rfl), L.cell_below hV (cell_of_blk hV12 0 _ rfl)⟩
        have hfin : ∀ V, Below W12.heap.size W12 V → Below w.heap.size w V := fun V hV => BT hbw12 hV
        obtain ⟨x20, x21⟩ := blk2 hV11
        have f20 := fr_of_blk hV11 0
        have f21 := fr_of_blk hV11 1
        have g1 : w2.heap.size + 1 < w11.heap.size := by omega
        clear f11 f12 fa12 hgc12
        go_wp2_with fail
        rw [← HW12.out]
        clear x20 x21 f20 f21 g1
        have hS : Below W12.heap.size W12 W12.drew := (Below.refl _ _).drew
        obtain ⟨z0, z1, z2, z3, z4⟩ := hcell _ hS
        clear hcl fa
        go_region_with (first
          | (go_at_call 13; refine (cn _ hS).mono ?_; rintro e w13 ⟨vm', rfl, hN, hb13⟩; replace hS := BT hS hb13; obtain ⟨z0, z1, z2, z3, z4⟩ := hcell _ hS; clear hb13)
          | (go_at_call 7; refine (cs _ _ hS hN).mono ?_; rintro e w14 ⟨rfl, hb14⟩; replace hS := BT hS hb14; clear hb14))
        all_goals
          go_wp2
          go_ret
          exact ⟨rfl, hfin _ hS⟩

end Go.Proofs.YtenlijgnmhdopaaGreatDoor

