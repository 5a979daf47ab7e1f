/- The walk of LinkBarred. -/
import Derived.Test.YtenlijgnmhdopaaGreatDoorXAlive
import Derived.Test.YtenlijgnmhdopaaGreatDoorXBarL
import Derived.Test.YtenlijgnmhdopaaGreatDoorLBarP
import Derived.Deep.DeepCutAuto
namespace Go.Proofs.YtenlijgnmhdopaaGreatDoor
namespace L
open Go.RowKit
attribute [local go_sem ↓] Go.wp_at_zero Go.wp_at_succ

set_option maxHeartbeats 4000000 in
set_option maxRecDepth 100000 in
theorem barred_walk {B : Nat} {w : World} {vm ve : Value} {g : GI} (hgl : Gl B w) (hB : B ≤ w.heap.size) (hg : GRd w vm ve g) (hok : GOk g) (msg at' : Int) :
    Calls Tryz.prog 4 #[.agg #[vm, ve], .int .i64 msg, .int .i64 at'] w fun e w' => e = .returned (.bool true) ∧ Below w.heap.size w w' := by
  obtain ⟨a1, n1, c1, rfl, H1, _⟩ := hg.1.shape
  obtain ⟨a2, n2, c2, rfl, H2, _⟩ := hg.2.shape
  have hr : reachBytes ≤ 140737488355328 := by unfold reachBytes; omega
  have h1 : n1 ≤ 140737488355328 := by have := hok.2.2.1; rw [H1.out]; omega
  have h2 : n2 ≤ 140737488355328 := by have := hok.2.2.2; rw [H2.out]; omega
  obtain ⟨W0, HW0⟩ : ∃ W0, Hid (W0 = w.alloc (.cells #[.slice a1 n1 c1, .slice a2 n2 c2] 25)) := ⟨_, rfl⟩
  have hb0 : Below w.heap.size w W0 := by rw [HW0.out]; exact (Below.refl _ _).alloc (Nat.le_refl _) _
  have hz0 : w.heap.size + 1 ≤ W0.heap.size := by rw [HW0.out]; simp
  have x1 : W0.heap[w.heap.size]? = some (.cells #[.slice a1 n1 c1, .slice a2 n2 c2] 25 (0, 0)) := by rw [HW0.out]; exact heap_alloc_new _ _
  have hcl : ∀ V, Below W0.heap.size W0 V → V.heap[w.heap.size]? = some (.cells #[.slice a1 n1 c1, .slice a2 n2 c2] 25 (0, 0)) ∧ Below w.heap.size w V := fun V hV => ⟨(hV.block _ (by omega)).trans x1, hb0.trans (hV.mono (by omega))⟩
  have hal := alive3_any (w := W0) (hgl.later (hb0.mono hB)) (Nat.le_trans hB hb0.size)
  go_enter Tryz.func4, Tryz.ntmps4
  go_wp2_with fail
  rw [← HW0.out]
  refine hal.mono ?_
  rintro e w1 ⟨rfl, hb1⟩
  obtain ⟨y1, hbw1⟩ := hcl w1 hb1
  obtain ⟨u0, u1⟩ := blk2 y1
  have hwr := Wrong_any (hg.below hbw1) (by rw [← H1.out]; exact h1) (by rw [← H2.out]; exact h2) hok.fits
  clear hal
  go_wp2_with fail
  refine hwr.mono ?_
  rintro e w2 ⟨rfl, hb2⟩
  have hB2 : Below W0.heap.size W0 w2 := hb1.trans (hb2.mono hb1.size)
  obtain ⟨y2, hbw2⟩ := hcl w2 hB2
  obtain ⟨u2, u3⟩ := blk2 y2
  generalize hq : wrongL g = q
  obtain ⟨qe, qi⟩ := q
  have HQ : Hid (wrongL g = (qe, qi)) := hq
  have hf0 := field0 qe (qi : Int)
  clear hq hwr u0 u1 y1
  by_cases hqe : qe = 0
  rotate_left
  · have hqb : (qe != 0) = true := by simp [hqe]
    clear hcl hqe
    go_wp2
    go_ret
    exact ⟨rfl, hbw2⟩
  have hqb : (qe != 0) = false := by simp [hqe]
  have HR : Hid ((wrongL g).1 = 0) := by show _ = _; rw [HQ.out]; exact hqe
  clear hqe HQ
  by_cases hm0 : msg < 0
  · clear hcl
    go_wp2
    go_ret
    exact ⟨rfl, hbw2⟩
  obtain ⟨k, rfl⟩ : ∃ k : Nat, msg = (k : Int) := ⟨msg.toNat, by omega⟩
  by_cases hkn : n1 ≤ k
  · have hki : (n1 : Int) ≤ (k : Int) := by omega
    clear hcl
    go_wp2
    go_ret
    exact ⟨rfl, hbw2⟩
  have hki : ¬ (n1 : Int) ≤ (k : Int) := by omega
  have hki2 : (k : Int) < (n1 : Int) := by omega
  have hklt : k < n1 := by omega
  obtain ⟨m, Hm⟩ : ∃ m, Hid (g.msgs[k]? = some m) := ⟨g.msgs[k]'(by rw [← H1.out]; exact hklt), List.getElem?_eq_getElem (by rw [← H1.out]; exact hklt)⟩
  obtain ⟨b, off, rfl, hat⟩ := (hg.below hbw2).1.get MAt.plain Hm.out
  obtain ⟨vf, vb, s0, s1, s2, hrf, hrb⟩ := hat.at
  obtain ⟨af, nf, cf, rfl, Hf, _⟩ := hrf.shape
  obtain ⟨ab, nb, cb, rfl, Hb, _⟩ := hrb.shape
  obtain ⟨W3, HW3⟩ : ∃ W3, Hid (W3 = w2.alloc (.cells #[.string (S m.name), .slice af nf cf, .slice ab nb cb] 37)) := ⟨_, rfl⟩
  have hb3 : Below w2.heap.size w2 W3 := by rw [HW3.out]; exact (Below.refl _ _).alloc (Nat.le_refl _) _
  have hz3 : w2.heap.size + 1 ≤ W3.heap.size := by rw [HW3.out]; simp
  have hX3 : W3.heap[w2.heap.size]? = some (.cells #[.string (S m.name), .slice af nf cf, .slice ab nb cb] 37 (0, 0)) := by rw [HW3.out]; exact heap_alloc_new _ _
  have hB3 : Below W0.heap.size W0 W3 := hB2.trans (hb3.mono hB2.size)
  have hz2 : W0.heap.size ≤ w2.heap.size := hB2.size
  clear hat
  go_wp2_with fail
  rw [← HW3.out]
  clear s0 s1 s2 u2 u3 y2
  go_loopg [39] nb (fun gm j wr => ∃ i : Nat, i + gm = nb ∧ j = .int .i64 i ∧ Below W3.heap.size W3 wr)
  case atStart => exact ⟨0, by omega, rfl, Below.refl _ _⟩
  case round =>
    obtain ⟨i, hi, rfl, hbi⟩ := hrel
    obtain ⟨wi, Hwi⟩ : ∃ wi, wi = wr := ⟨_, rfl⟩
    subst Hwi
    have hXi := (hbi.block w2.heap.size (by omega)).trans hX3
    obtain ⟨m0, m1, m2⟩ := blk3 hXi
    have hb2i : Below w2.heap.size w2 wi := hb3.trans (hbi.mono hb3.size)
    by_cases hlt : i < nb
    · obtain ⟨n, Hn⟩ : ∃ n, Hid (m.barred[i]? = some n) := ⟨m.barred[i]'(by rw [← Hb.out]; exact hlt), List.getElem?_eq_getElem (by rw [← Hb.out]; exact hlt)⟩
      obtain ⟨bb, ob, rfl, hcn⟩ := (hrb.below NAt.stays hb2i).get NAt.plain Hn.out
      have hcn : wi.cell? ⟨bb, ob + i * 1, none⟩ = some (.int .i64 n) := hcn
      rw [Nat.mul_one] at hcn
      have hii : (i : Int) < (nb : Int) := by omega
      have hfree : ∀ f ∈ m.fields, ¬ f.number = n := fun f hf => barred_free HR.out (mem_at Hm.out) (mem_at Hn.out) hf
      go_wp2_with fail
      go_loopg [46] nf (fun gm j wr => ∃ l : Nat, l + gm = nf ∧ j = .int .i64 l ∧ Below W3.heap.size W3 wr)
      case atStart => exact ⟨0, by omega, rfl, hbi⟩
      case round =>
        clear hXi m0 m1 m2 hcn hbi hb2i
        obtain ⟨l, hl, rfl, hbi⟩ := hrel
        obtain ⟨wl, Hwl⟩ : ∃ wl, wl = wr := ⟨_, rfl⟩
        subst Hwl
        have hb2i : Below w2.heap.size w2 wl := hb3.trans (hbi.mono hb3.size)
        by_cases hlt2 : l < nf
        · obtain ⟨f, Hf2⟩ : ∃ f, Hid (m.fields[l]? = some f) := ⟨m.fields[l]'(by rw [← Hf.out]; exact hlt2), List.getElem?_eq_getElem (by rw [← Hf.out]; exact hlt2)⟩
          obtain ⟨bf, of, rfl, hfa⟩ := (hrf.below FAt.stays hb2i).get FAt.plain Hf2.out
          obtain ⟨y0, y1, y2, y3, y4, y5⟩ := hfa.at
          have hli : (l : Int) < (nf : Int) := by omega
          have hqn : (f.number == n) = false := by simpa using hfree f (mem_at Hf2.out)
          have hbn : Below W3.heap.size W3 (wl.alloc (.cells #[.string (S f.name), .int .i64 f.number, .int .i64 f.kind, .string (S f.type), .bool f.many, .int .i64 f.choice] 39)) := hbi.alloc hbi.size _
          clear hfa hfree
          go_wp2_with fail
          go_roundg (nf - (l + 1))
          case measure => omega
          case rel => exact ⟨l + 1, by omega, by go_num, hbn⟩
        · clear hfree
          go_wp2_with fail
          go_roundg (nb - (i + 1))
          case measure => omega
          case rel => exact ⟨i + 1, by omega, by go_num, hbi⟩
    · have hBf : Below w.heap.size w wi := hbw2.trans (hb2i.mono hbw2.size)
      by_cases ha0 : at' < 0
      · go_wp2
        go_ret
        exact ⟨rfl, hBf⟩
      obtain ⟨j, rfl⟩ : ∃ j : Nat, at' = (j : Int) := ⟨at'.toNat, by omega⟩
      by_cases hjn : nf ≤ j
      · have hji : (nf : Int) ≤ (j : Int) := by omega
        go_wp2
        go_ret
        exact ⟨rfl, hBf⟩
      have hji : ¬ (nf : Int) ≤ (j : Int) := by omega
      have hji2 : (j : Int) < (nf : Int) := by omega
      by_cases hb16 : 16 ≤ nb
      · have hbi6 : (16 : Int) ≤ (nb : Int) := by omega
        go_wp2
        go_ret
        exact ⟨rfl, hBf⟩
      have hbi6 : ¬ (16 : Int) ≤ (nb : Int) := by omega
      obtain ⟨f, Hf2⟩ : ∃ f, Hid (m.fields[j]? = some f) := ⟨m.fields[j]'(by rw [← Hf.out]; omega), List.getElem?_eq_getElem (by rw [← Hf.out]; omega)⟩
      obtain ⟨bf, of, rfl, hfa⟩ := (hrf.below FAt.stays hb2i).get FAt.plain Hf2.out
      obtain ⟨_, y1, _, _, _, _⟩ := hfa.at
      clear hfa
      have hMl : w2.heap.size < wi.heap.size := (Array.getElem?_eq_some_iff.1 hXi).1
      have hbfl : bf < wi.heap.size := World.block_lt_of_cell? wi _ y1
      have hd1 : ∀ o, Below wi.heap.size wi (wi.alloc o).drew := fun o => ((Below.refl _ _).alloc (Nat.le_refl _) o).drew
      have hd2 : ∀ o o', Below wi.heap.size wi ((wi.alloc o).alloc o').drew := fun o o' => (((Below.refl _ _).alloc (Nat.le_refl _) o).alloc (by simp) o').drew
      have hsrc : ∀ V, Below wi.heap.size wi V → ∀ ad, ab = some ad → ∀ k y, m.barred[k]? = some y → ∀ j u, (ekN.enc y)[j]? = some u → V.cell? (ad.add (k * ekN.size + j)) = some u := fun V hV => ((hrb.below NAt.stays hb2i).below NAt.stays hV).srcN.2.2
      have hnil : ab = none → nb = 0 ∧ cb = 0 := hrb.srcN.2.1
      have hby1 : (([] : List Int).length + m.barred.length) * ekN.bytes ≤ 140737488355328 := by simp [ekN]; rw [← Hb.out]; omega
      have hby2 : ((([] : List Int) ++ m.barred).length + [f.number].length) * ekN.bytes ≤ 140737488355328 := by simp [ekN]; rw [← Hb.out]; omega
      have hEB : ∀ (V : World) (o : Obj) (n c : Nat), ((wi.alloc o).alloc (.cells #[.int .i64 f.number] 3)).drew.grownBy V (Value.slice (some ⟨wi.heap.size, 0, none⟩) n c).ownBlock → V.heap[wi.heap.size + 1]? = some (.cells #[.int .i64 f.number] 3 (0, 0)) := fun V o n c hV => (hV.block (wi.heap.size + 1) (by show _ < ((wi.alloc o).alloc _).heap.size; simp) (by simp [Value.ownBlock])).trans (alloc2_new wi o _)
      have hEC : ∀ (V : World) (o : Obj) (n c : Nat), ((wi.alloc (.cells #[.int .i64 f.number] 3)).alloc o).drew.grownBy V (Value.slice (some ⟨wi.heap.size + 1, 0, none⟩) n c).ownBlock → V.heap[wi.heap.size]? = some (.cells #[.int .i64 f.number] 3 (0, 0)) := fun V o n c hV => (hV.block wi.heap.size (by show _ < ((wi.alloc _).alloc o).heap.size; simp; omega) (by simp [Value.ownBlock])).trans (alloc2_old wi _ o)
      have hc5 : ∀ V, Below wi.heap.size wi V → V.cell? ⟨w2.heap.size, 1, none⟩ = some (.slice (some ⟨bf, of, none⟩) nf cf) ∧ V.cell? ⟨bf, of + j * 6 + 1, none⟩ = some (.int .i64 f.number) ∧ V.heap[w2.heap.size]? = some (.cells #[.string (S m.name), .slice (some ⟨bf, of, none⟩) nf cf, .slice ab nb cb] 37 (0, 0)) := fun V hV => ⟨cell_below hV m1, cell_below hV y1, (hV.block _ hMl).trans hXi⟩
      have HRR := HR
      go_upto_region 18 with fail
      go_cut [] (fun wc => ∃ (a8 : Option Addr) (n8 c8 : Nat), wc.heap[w2.heap.size]? = some (.cells #[.string (S m.name), .slice (some ⟨bf, of, none⟩) nf cf, .slice a8 n8 c8] 37 (0, 0)) ∧ Row ekN wc wi.heap.size (.slice a8 n8 c8) (m.barred ++ [f.number]) ∧ Below w2.heap.size w2 wc ∧ wi.heap.size ≤ wc.heap.size)
      case first =>
        clear hgl hok hg h1 h2 HW0 hb0 hz0 x1 hcl HW3 hX3 HR HRR hbw2 hBf hB2 hB3 hb2 hb1 hbw1 hrf hkn hklt hm0 H1 H2 hf0 hi hlt
        go_region_law (first | (refine step_appG (by rfl) ekN _ _ (by rfl) wi.heap.size (.slice (some ⟨wi.heap.size, 0, none⟩) 0 0) [] m.barred (by rfl) (Row.emp ekN (Nat.le_refl _) (by first | exact heap_alloc_new wi _ | exact alloc2_old wi _ _)) ab nb cb (by rfl) Hb.out.symm hnil (hsrc _ (by first | exact hd1 _ | exact hd2 _ _)) (by decide) hby1 (Below.size (by first | exact hd1 _ | exact hd2 _ _)) ?_; intro v5 w5 hr5 hg5; obtain ⟨a5, n5, c5, rfl, H5⟩ := hr5.shape'; have hB5 : Below wi.heap.size wi w5 := B_app (by first | exact hd1 _ | exact hd2 _ _) (Nat.le_refl _) hg5 (fun k hk => by simp [Value.ownBlock] at hk; omega); obtain ⟨p1, p2, p3⟩ := hc5 w5 hB5; first | have hE5 := hEB _ _ _ _ hg5 | skip) | (refine step_appG (by rfl) ekN _ _ (by rfl) wi.heap.size (.slice (some ⟨wi.heap.size + 1, 0, none⟩) 0 0) [] m.barred (by rfl) (Row.emp ekN (Nat.le_succ _) (alloc2_new wi _ _)) ab nb cb (by rfl) Hb.out.symm hnil (hsrc _ (hd2 _ _)) (by decide) hby1 (Below.size (hd2 _ _)) ?_; intro v5 w5 hr5 hg5; obtain ⟨a5, n5, c5, rfl, H5⟩ := hr5.shape'; have hB5 : Below wi.heap.size wi w5 := B_app (hd2 _ _) (Nat.le_refl _) hg5 (fun k hk => by simp [Value.ownBlock] at hk; omega); obtain ⟨p1, p2, p3⟩ := hc5 w5 hB5; have hE5 := hEC _ _ _ _ hg5) | (refine step_appG (by rfl) ekN _ _ (by rfl) wi.heap.size (.slice a5 n5 c5) ([] ++ m.barred) [f.number] (by rfl) (hr5.below ((Below.refl _ _).alloc (Nat.le_refl _) _)) (some ⟨w5.heap.size, 0, none⟩) 1 1 (by rfl) rfl (fun h => by cases h) (one_src ekN w5 f.number) (by decide) hby2 (by have := hB5.size; simp; omega) ?_; intro v7 w7 hr7 hg7; obtain ⟨a7, n7, c7, rfl, H7⟩ := hr7.shape'; have hB7 : Below wi.heap.size wi w7 := B_app (B_alloc hB5 (Nat.le_refl _) _) (Nat.le_refl _) hg7 (fun k hk => (hr5.own k hk).1); have p4 := (hc5 w7 hB7).2.2; have p5 := cell_of_blk p4 2 _ rfl; have p6 := fr_of_blk p4 2) | (refine step_appG (by rfl) ekN _ _ (by rfl) wi.heap.size (.slice a5 n5 c5) ([] ++ m.barred) [f.number] (by rfl) hr5 (some ⟨_, 0, none⟩) 1 1 (by rfl) rfl (fun h => by cases h) (blk_src ekN hE5) (by decide) hby2 hB5.size ?_; intro v7 w7 hr7 hg7; obtain ⟨a7, n7, c7, rfl, H7⟩ := hr7.shape'; have hB7 : Below wi.heap.size wi w7 := B_app hB5 (Nat.le_refl _) hg7 (fun k hk => (hr5.own k hk).1); have p4 := (hc5 w7 hB7).2.2; have p5 := cell_of_blk p4 2 _ rfl; have p6 := fr_of_blk p4 2))
        all_goals
          have q1 := heap_setCell_same _ _ 2 _ _ (.slice a7 n7 c7) p4
          have q2 := hr7.other (hr7.ne_blk p4 (by decide)) 2 (.slice a7 n7 c7)
          have q3 : Below w2.heap.size w2 (w7.setCell ⟨w2.heap.size, 2, none⟩ (.slice a7 n7 c7)) := B_set (hb2i.trans (hB7.mono hb2i.size)) (Nat.le_refl _)
          have q4 : wi.heap.size ≤ (w7.setCell ⟨w2.heap.size, 2, none⟩ (.slice a7 n7 c7)).heap.size := by simp; exact hB7.size
          go_wp2_with fail
          go_meet
          case rel => exact ⟨a7, n7, c7, q1, q2, q3, q4⟩
      case rest =>
        obtain ⟨a8, n8, c8, hM8, hr8, hb8, hz8⟩ := hcut
        obtain ⟨lm, hlm, hCm, hLm⟩ := msgs_split hg.1
        have HLM : Hid (lm.map Prod.fst = g.msgs) := hlm
        have hll : lm.length = n1 := by rw [H1.out, ← HLM.out]; simp
        have hBw8 : Below w.heap.size w wc := hbw2.trans (hb8.mono hbw2.size)
        have y8 : wc.heap[w.heap.size]? = some (.cells #[.slice (some ⟨b, off, none⟩) n1 c1, .slice a2 n2 c2] 25 (0, 0)) := (hb8.block _ (by omega)).trans ((hcl w2 hB2).1)
        obtain ⟨u0, u1⟩ := blk2 y8
        have hwl : w.heap.size < wc.heap.size := by omega
        have hMl8 : w2.heap.size < wc.heap.size := by omega
        obtain ⟨W9, HW9⟩ : ∃ W9, Hid (W9 = wc.alloc (.cells #[.slice (some ⟨b, off, none⟩) n1 c1, .slice a2 n2 c2] 25)) := ⟨_, rfl⟩
        obtain ⟨W10, HW10⟩ : ∃ W10, Hid (W10 = W9.alloc (.cells #[] 37)) := ⟨_, rfl⟩
        have HW10' : Hid (W10 = (wc.alloc (.cells #[.slice (some ⟨b, off, none⟩) n1 c1, .slice a2 n2 c2] 25)).alloc (.cells #[] 37)) := by show _ = _; rw [HW10.out, HW9.out]
        have hb10 : Below wc.heap.size wc W10 := by rw [HW10'.out]; exact ((Below.refl _ _).alloc (Nat.le_refl _) _).alloc (by simp) _
        have hz10 : W10.heap.size = wc.heap.size + 2 := by rw [HW10'.out]; simp
        have hz10a : wc.heap.size + 2 ≤ W10.heap.size := Nat.le_of_eq hz10.symm
        have hG10 : W10.heap[wc.heap.size]? = some (.cells #[.slice (some ⟨b, off, none⟩) n1 c1, .slice a2 n2 c2] 25 (0, 0)) := by rw [HW10'.out]; exact alloc2_old _ _ _
        have hE10 : W10.heap[wc.heap.size + 1]? = some (.cells #[] 37 (0, 0)) := by rw [HW10'.out]; exact alloc2_new _ _ _
        have hBw10 : Below w.heap.size w W10 := hBw8.trans (hb10.mono (by omega))
        have hsM := (hCm.below CAt.stays hBw10).srcM
        have hbyM : (([] : List (MI × LV × LV)).length + lm.length) * ekM.bytes ≤ 140737488355328 := by
          have := hok.2.2.1
          unfold reachBytes at this
          rw [← H1.out] at this
          simp [ekM]; rw [hll]; omega
        have hre : Row ekM W10 (wc.heap.size + 1) (.slice (some ⟨wc.heap.size + 1, 0, none⟩) 0 0) [] := Row.emp ekM (Nat.le_refl _) hE10
        rw [HW10'.out] at hsM hre
        clear hsrc hnil hEB hEC hc5 hd1 hd2 m0 m1 m2 y1 hz10
        go_wp2_with (at_builtin; refine wpList_appG rfl ekM _ _ rfl (wc.heap.size + 1) _ [] lm rfl hre (some ⟨b, off, none⟩) n1 c1 rfl hll hsM.2.1 hsM.2.2 (by decide) hbyM ?e2 ?_)
        intro v11 w11 hr11 hg11
        rw [← HW10'.out] at hg11
        have hr11 : Row ekM w11 (wc.heap.size + 1) v11 lm := hr11
        have hB11 : Below (wc.heap.size + 1) W10 w11 := (Below.refl _ _).grown hg11 (by omega) (fun k hk => by simp [Value.ownBlock] at hk; omega)
        have hG11 := (hB11.block wc.heap.size (by omega)).trans hG10
        have f0 := fr_of_blk hG11 0
        obtain ⟨d0, d1⟩ := blk2 hG11
        have hbc11 : Below wc.heap.size wc w11 := hb10.trans (hB11.mono (by omega))
        have hM11 := (hbc11.block w2.heap.size hMl8).trans hM8
        obtain ⟨a11, n11, c11, rfl, H11⟩ := hr11.shape'
        have hn11 : n1 = n11 := by rw [H11.out, hll]
        subst hn11
        obtain ⟨g11, rfl, _⟩ := hr11.get (k := k) (List.getElem?_eq_getElem (by rw [hll]; exact hklt))
        obtain ⟨hg11b, cur, hcur⟩ := hr11.fr
        have hne1 : ¬ g11 = wc.heap.size := by omega
        have hne2 : ¬ g11 = w2.heap.size := by omega
        obtain ⟨W12, HW12⟩ : ∃ W12, Hid (W12 = w11.setCell ⟨wc.heap.size, 0, none⟩ (.slice (some ⟨g11, 0, none⟩) n1 c11)) := ⟨_, rfl⟩
        have hr12 : Row ekM W12 (wc.heap.size + 1) (.slice (some ⟨g11, 0, none⟩) n1 c11) lm := by rw [HW12.out]; exact hr11.other (fun hh => by simp [Value.ownBlock] at hh; omega) 0 _
        have hG12 : W12.heap[wc.heap.size]? = some (.cells #[.slice (some ⟨g11, 0, none⟩) n1 c11, .slice a2 n2 c2] 25 (0, 0)) := by rw [HW12.out]; exact heap_setCell_same _ _ 0 _ _ _ hG11
        have hM12 : W12.heap[w2.heap.size]? = some (.cells #[.string (S m.name), .slice (some ⟨bf, of, none⟩) nf cf, .slice a8 n8 c8] 37 (0, 0)) := by rw [HW12.out, Below.heap_setCell _ _ _ _ (show w2.heap.size ≠ wc.heap.size by omega)]; exact hM11
        have hcur12 : W12.heap[g11]? = some (.cells cur ekM.elem (0, 0)) := by rw [HW12.out, Below.heap_setCell _ _ _ _ (show g11 ≠ wc.heap.size by omega)]; exact hcur
        have hbc12 : Below wc.heap.size wc W12 := by rw [HW12.out]; exact B_set hbc11 (Nat.le_refl _)
        obtain ⟨g12, e12, hcc⟩ := hr12.get (k := k) (List.getElem?_eq_getElem (by rw [hll]; exact hklt))
        cases e12
        have k0 : W12.cell? ⟨g11, k * 3, none⟩ = _ := hcc 0 _ rfl
        have k1 : W12.cell? ⟨g11, k * 3 + 1, none⟩ = _ := hcc 1 _ rfl
        have k2 : W12.cell? ⟨g11, k * 3 + 2, none⟩ = _ := hcc 2 _ rfl
        have r0 := fr_of_blk hcur12 (k * 3)
        have r1 := fr_of_blk hcur12 (k * 3 + 1)
        have r2 := fr_of_blk hcur12 (k * 3 + 2)
        obtain ⟨m0, m1, m2⟩ := blk3 hM12
        obtain ⟨e0, e1⟩ := blk2 hG12
        clear hcc hsM hre u0 u1
        rw [HW12.out] at k0 k1 k2 r0 r1 r2 m0 m1 m2 e0 e1
        obtain ⟨W13, HW13⟩ : ∃ W13, Hid (W13 = ((W12.setCell ⟨g11, k * 3, none⟩ (.string (S m.name))).setCell ⟨g11, k * 3 + 1, none⟩ (.slice (some ⟨bf, of, none⟩) nf cf)).setCell ⟨g11, k * 3 + 2, none⟩ (.slice a8 n8 c8)) := ⟨_, rfl⟩
        have HW13' : Hid (W13 = (((w11.setCell ⟨wc.heap.size, 0, none⟩ (.slice (some ⟨g11, 0, none⟩) n1 c11)).setCell ⟨g11, k * 3, none⟩ (.string (S m.name))).setCell ⟨g11, k * 3 + 1, none⟩ (.slice (some ⟨bf, of, none⟩) nf cf)).setCell ⟨g11, k * 3 + 2, none⟩ (.slice a8 n8 c8)) := by show _ = _; rw [HW13.out, HW12.out]
        have hbc13 : Below wc.heap.size wc W13 := by rw [HW13.out]; exact B_set (B_set (B_set hbc12 (by omega)) (by omega)) (by omega)
        have hG13 : W13.heap[wc.heap.size]? = some (.cells #[.slice (some ⟨g11, 0, none⟩) n1 c11, .slice a2 n2 c2] 25 (0, 0)) := by
          rw [HW13.out, Below.heap_setCell _ _ _ _ (show wc.heap.size ≠ g11 by omega), Below.heap_setCell _ _ _ _ (show wc.heap.size ≠ g11 by omega), Below.heap_setCell _ _ _ _ (show wc.heap.size ≠ g11 by omega)]; exact hG12
        have hBw13 : Below w.heap.size w W13 := hBw8.trans (hbc13.mono (by omega))
        have hb213 : Below w2.heap.size w2 W13 := hb8.trans (hbc13.mono (by omega))
        have hne8 : (Value.slice a8 n8 c8).ownBlock ≠ some g11 := (hr8.below hbc12).ne_blk hcur12 (by decide)
        have hr13 : Row ekN W13 wi.heap.size (.slice a8 n8 c8) (m.barred ++ [f.number]) := by
          rw [HW13.out]; exact (((hr8.below hbc12).other hne8 _ _).other hne8 _ _).other hne8 _ _
        have hset : (lm.set k (⟨m.name, m.fields, m.barred ++ [f.number]⟩, (some ⟨bf, of, none⟩, nf, cf), (a8, n8, c8))).map Prod.fst = g.msgs.set k ⟨m.name, m.fields, m.barred ++ [f.number]⟩ := by rw [List.map_set, HLM.out]
        have hrd : RdL 3 MAt W13 (.slice (some ⟨g11, 0, none⟩) n1 c11) (g.msgs.set k ⟨m.name, m.fields, m.barred ++ [f.number]⟩) := by
          rw [← hset, HW13.out]
          refine msgs_set (p := (⟨m.name, m.fields, m.barred ++ [f.number]⟩, (some ⟨bf, of, none⟩, nf, cf), (a8, n8, c8))) hr12 (by rw [hll]; exact hklt) ?_
          intro q hq
          have e : ((W12.setCell ⟨g11, k * 3, none⟩ (.string (S m.name))).setCell ⟨g11, k * 3 + 1, none⟩ (.slice (some ⟨bf, of, none⟩) nf cf)).setCell ⟨g11, k * 3 + 2, none⟩ (.slice a8 n8 c8) = W13 := HW13.out.symm
          show RdL 6 FAt (((W12.setCell ⟨g11, k * 3, none⟩ (.string (S m.name))).setCell ⟨g11, k * 3 + 1, none⟩ (.slice (some ⟨bf, of, none⟩) nf cf)).setCell ⟨g11, k * 3 + 2, none⟩ (.slice a8 n8 c8)) q.2.1.v q.1.fields ∧ RdL 1 NAt (((W12.setCell ⟨g11, k * 3, none⟩ (.string (S m.name))).setCell ⟨g11, k * 3 + 1, none⟩ (.slice (some ⟨bf, of, none⟩) nf cf)).setCell ⟨g11, k * 3 + 2, none⟩ (.slice a8 n8 c8)) q.2.2.v q.1.barred
          rw [e]
          rcases List.mem_or_eq_of_mem_set hq with hq | rfl
          · exact ⟨(hLm q hq).1.below FAt.stays hBw13, (hLm q hq).2.below NAt.stays hBw13⟩
          · exact ⟨hrf.below FAt.stays hb213, hr13.rdN⟩
        have hmm : m ∈ g.msgs := mem_at Hm.out
        have hfit : Fits ⟨g.msgs.set k ⟨m.name, m.fields, m.barred ++ [f.number]⟩, g.enums⟩ := by
          obtain ⟨p1, p2⟩ := hok.fits
          refine ⟨fun x hx => ?_, p2⟩
          rcases List.mem_or_eq_of_mem_set hx with hx | rfl
          · exact p1 x hx
          · exact p1 m hmm
        have hwr2 := Wrong_any (g := ⟨g.msgs.set k ⟨m.name, m.fields, m.barred ++ [f.number]⟩, g.enums⟩) ⟨hrd, (hg.below hBw13).2⟩ (by simp only [List.length_set]; rw [← H1.out]; exact h1) (by simp only; rw [← H2.out]; exact h2) hfit
        rw [barred_wrong HR.out Hm.out Hf2.out (by rw [← Hb.out]; omega)] at hwr2
        obtain ⟨e2, e3⟩ := blk2 hG13
        rw [HW13'.out] at e2 e3
        have hkk : ((k : Int) == (k : Int)) = true := by simp
        clear hcl hgl
        go_wp2_with fail
        rw [← HW13'.out]
        refine hwr2.mono ?_
        rintro e w14 ⟨rfl, hb14⟩
        have hBf14 : Below w.heap.size w (w14.alloc (.cells #[.int .i64 8, .int .i64 (k : Int)] 29)) := (hBw13.trans (hb14.mono hBw13.size)).alloc (Nat.le_trans hBw13.size hb14.size) _
        go_wp2
        go_ret
        exact ⟨rfl, hBf14⟩

end L
end Go.Proofs.YtenlijgnmhdopaaGreatDoor
