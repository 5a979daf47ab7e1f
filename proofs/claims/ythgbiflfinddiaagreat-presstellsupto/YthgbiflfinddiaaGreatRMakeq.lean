import Derived.Test.YthgbiflfinddiaaGreatMRb
import Derived.Test.YthgbiflfinddiaaGreatRFndq
import Derived.Test.YthgbiflfinddiaaGreatMRn
import Derived.Test.YthgbiflfinddiaaGreatMK2
import Derived.Test.YthgbiflfinddiaaGreatKRunDq
import Derived.Test.YthgbiflfinddiaaGreatLRWrg
/- The document's own answer: Make. -/
namespace Go.Proofs.YthgbiflfinddiaaGreat
namespace L
open Go.RowKit
set_option linter.unusedVariables false

/-- The kind of a step ahead of what a message is. -/
def kind0 (x : FI) : Int := if howN x.kind = 2 then 3 else if x.many = true then 2 else 1
theorem kind0_10 {x : FI} (h : ¬ x.kind = 10) : kindN x = kind0 x := by unfold kindN kind0; rw [if_neg h]
theorem step_10 {g : GI} {x : FI} (h : x.kind = 10) : stepN g x = ⟨4, x.number, howN x.kind, x.kind, msgI g x.type⟩ := by unfold stepN kindN; rw [if_pos h, if_pos h]
theorem step_no {g : GI} {x : FI} (h : ¬ x.kind = 10) : stepN g x = ⟨kind0 x, x.number, howN x.kind, x.kind, -1⟩ := by unfold stepN; rw [if_neg h, kind0_10 h]
theorem set1_at {V : World} {g : Nat} {t : TypeId} {a0 a1 a2 a3 a4 x0 : Value} (h : V.heap[g]? = some (.cells #[a0, a1, a2, a3, a4] t (0, 0))) : (V.setCell ⟨g, 0, none⟩ x0).heap[g]? = some (.cells #[x0, a1, a2, a3, a4] t (0, 0)) := by
  have := heap_setCell_same V g 0 _ _ x0 h
  simpa using this
theorem set4_at {V : World} {g : Nat} {t : TypeId} {a0 a1 a2 a3 a4 x4 : Value} (h : V.heap[g]? = some (.cells #[a0, a1, a2, a3, a4] t (0, 0))) : (V.setCell ⟨g, 4, none⟩ x4).heap[g]? = some (.cells #[a0, a1, a2, a3, x4] t (0, 0)) := by
  have := heap_setCell_same V g 4 _ _ x4 h
  simpa using this
theorem kone_srcN {α : Type} (E : EK α) (w : World) (y : α) {n : Nat} (hn : n = w.heap.size) : ∀ ad, some (⟨n, 0, none⟩ : Addr) = some ad → ∀ k z, [y][k]? = some z → ∀ j u, (E.enc z)[j]? = some u → (w.alloc (.cells (E.enc y).toArray E.elem)).cell? (ad.add (k * E.size + j)) = some u := by
  subst hn
  exact kone_src E w y
theorem progs_step {g : GI} {m : MI} {k : Nat} {n : Int} (h : (numsN m)[k]? = some n) : (progN g m).take (k + 1) = (progN g m).take k ++ [stepN g (fieldN m.fields n)] := by
  have : (progN g m)[k]? = some (stepN g (fieldN m.fields n)) := by unfold progN; rw [List.getElem?_map, h]; rfl
  exact take_snoc this
theorem first_take {l : List FI} {n : Int} {j : Nat} (h : firstI (fun f => decide (f.number = n)) l = (j : Int)) : ∀ a ∈ l.take j, decide (a.number = n) = false := by
  intro a ha
  unfold firstI at h
  cases hx : l.findIdx? (fun f => decide (f.number = n)) with
  | none => rw [hx] at h; simp at h
  | some i =>
    rw [hx] at h
    have hij : i = j := by
      have h' : (i : Int) = (j : Int) := by simpa using h
      omega
    subst hij
    obtain ⟨k, hk⟩ := List.getElem?_of_mem ha
    rw [List.getElem?_take] at hk
    split at hk
    · rename_i hki
      obtain ⟨hlt, hp, hno⟩ := List.findIdx?_eq_some_iff_getElem.1 hx
      obtain ⟨hk1, hk2⟩ := List.getElem?_eq_some_iff.1 hk
      have := hno k hki
      rw [hk2] at this
      simpa using this
    · cases hk

theorem kind_ok {g : GI} (h : (wrongL g).1 = 0) {m : MI} (hm : m ∈ g.msgs) {n : Int} (hn : n ∈ numsN m) : 1 ≤ (fieldN m.fields n).kind ∧ (fieldN m.fields n).kind ≤ 10 := by
  have h1 := prog_right ((right_inv h).2.2 m hm)
  unfold wrongQ at h1
  split at h1
  · cases h1
  · obtain ⟨a, ha⟩ := wrongTs_ok _ _ h1 (stepN g (fieldN m.fields n)) (by unfold progN; exact List.mem_map.2 ⟨n, hn, rfl⟩)
    unfold wrongT at ha
    split at ha
    · cases ha
    · split at ha
      · cases ha
      · rename_i _ h2
        have e : (stepN g (fieldN m.fields n)).field = (fieldN m.fields n).kind := rfl
        omega
set_option maxHeartbeats 8000000 in
set_option maxRecDepth 100000 in
theorem rmake_any {w : World} {vm ve : Value} {g : GI} (hg : GRd w vm ve g) (hn1 : g.msgs.length ≤ 140737488355328) (hn2 : g.enums.length ≤ 140737488355328) (hf : Fits g) :
    Calls Tryz.prog 6 #[.agg #[vm, ve]] w fun e w' => Below w.heap.size w w' ∧
      (((wrongL g).1 ≠ 0 ∧ e = .returned (.tuple #[.slice none 0 0, .agg #[.int .i64 (wrongL g).1, .int .i64 (((wrongL g).2 : Nat) : Int)]])) ∨
       ((wrongL g).1 = 0 ∧ ∃ ao n cap l, e = .returned (.tuple #[.slice ao n cap, .agg #[.int .i64 0, .int .i64 0]]) ∧ OwnQ w' w.heap.size (.slice ao n cap) l ∧ l.map Prod.fst = makeN g)) := by
  obtain ⟨a1, n1, c1, rfl, H1, _⟩ := hg.1.shape
  obtain ⟨a2, n2, c2, rfl, H2, _⟩ := hg.2.shape
  obtain ⟨W0, HW0⟩ : ∃ W0, Hid (W0 = (w.alloc (.cells #[.slice a1 n1 c1, .slice a2 n2 c2] 25)).alloc (.cells #[.int .i64 0, .int .i64 0] 33)) := ⟨_, rfl⟩
  have hb0 : Below w.heap.size w W0 := by rw [HW0.out]; exact ((Below.refl _ _).alloc (Nat.le_refl _) _).alloc (by simp) _
  have hz0 : w.heap.size + 2 ≤ W0.heap.size := by rw [HW0.out]; simp
  have x1 : W0.heap[w.heap.size]? = some (.cells #[.slice a1 n1 c1, .slice a2 n2 c2] 25 (0, 0)) := by rw [HW0.out]; exact alloc2_old _ _ _
  have x2 : W0.heap[w.heap.size + 1]? = some (.cells #[.int .i64 0, .int .i64 0] 33 (0, 0)) := by rw [HW0.out]; exact alloc2_new _ _ _
  have hwr := rwrong_any (hg.below hb0) hn1 hn2 hf
  obtain ⟨ze, zi, Hq⟩ : ∃ ze zi, Hid (wrongL g = (ze, zi)) := ⟨_, _, rfl⟩
  rw [Hq.out] at hwr ⊢
  go_enter Tryz.func6, Tryz.ntmps6
  go_wp2_with fail
  rw [← HW0.out]
  refine hwr.mono ?_
  rintro e w1 ⟨rfl, hb1⟩
  have hbw1 : Below w.heap.size w w1 := KBT hb0 hb1
  have hz1 := hb1.size
  have y1 := (hb1.block _ (by omega)).trans x1
  have y2 := (hb1.block _ (by omega)).trans x2
  clear hwr
  obtain ⟨W2, HW2⟩ : ∃ W2, Hid (W2 = w1.alloc (.cells #[.int .i64 ze, .int .i64 (zi : Int)] 33)) := ⟨_, rfl⟩
  have hb2 : Below w1.heap.size w1 W2 := by rw [HW2.out]; exact (Below.refl _ _).alloc (Nat.le_refl _) _
  have hz2 : w1.heap.size + 1 ≤ W2.heap.size := by rw [HW2.out]; simp
  have hbw2 : Below w.heap.size w W2 := KBT hbw1 hb2
  have y3 := (hb2.block _ (by omega)).trans y1
  have y4 := (hb2.block _ (by omega)).trans y2
  have y5 : W2.heap[w1.heap.size]? = some (.cells #[.int .i64 ze, .int .i64 (zi : Int)] 33 (0, 0)) := by rw [HW2.out]; exact heap_alloc_new _ _
  obtain ⟨u0, u1⟩ := blk2 y4
  have f0 := fr_of_blk y4
  obtain ⟨u2, u3⟩ := blk2 y5
  obtain ⟨u4, u5⟩ := blk2 y3
  have u6 := u4
  rw [HW2.out] at u6
  clear y1 y2
  by_cases h0 : ze = 0
  · subst h0
    go_wp2_with fail
    rw [← HW2.out]
    have hr0 := right_inv (g := g) (by rw [Hq.out])
    have hfew : n1 ≤ 10 := by rw [H1.out]; omega
    have hfl : ∀ m ∈ g.msgs, m.fields.length ≤ 16 := fun m hm => (msg_right (hr0.2.2 m hm)).1
    have hlm : (makeN g).length = g.msgs.length := make_len g
    have hkd : ∀ m ∈ g.msgs, ∀ n ∈ numsN m, 1 ≤ (fieldN m.fields n).kind ∧ (fieldN m.fields n).kind ≤ 10 := fun m hm n hn => kind_ok (by rw [Hq.out]) hm hn
    clear hr0
    go_loopg [5, 22] n1 (fun m' v i wr => ∃ (k : Nat) (ao : Option Addr) (no co : Nat) (lo : List (List TI × KV)), k + m' = n1 ∧ i = .int .i64 k ∧ v = .slice ao no co ∧ OwnQ wr W2.heap.size (.slice ao no co) lo ∧ Hid (lo.map Prod.fst = (makeN g).take k) ∧ lo.length ≤ k ∧ Below W2.heap.size W2 wr)
    case atStart => exact ⟨0, none, 0, 0, [], by omega, rfl, rfl, ⟨Row.nil _ _ _, fun _ hp => (List.not_mem_nil hp).elim⟩, by show _ = _; simp, Nat.le_refl _, Below.refl _ _⟩
    case round =>
      obtain ⟨k, ao, no, co, lo, hk, rfl, rfl, hr, HL, hlo, hb⟩ := hrel
      obtain ⟨wo, Hwo⟩ : ∃ wo, wo = wr := ⟨_, rfl⟩
      subst Hwo
      have hzr := hb.size
      have hbwr : Below w.heap.size w wo := KBT hbw2 hb
      by_cases hlt : k < n1
      · obtain ⟨a, Ha⟩ : ∃ a, Hid (g.msgs[k]? = some a) := ⟨g.msgs[k]'(by rw [← H1.out]; exact hlt), List.getElem?_eq_getElem (by rw [← H1.out]; exact hlt)⟩
        obtain ⟨b, off, rfl, hat⟩ := (hg.below hbwr).1.get MAt.plain Ha.out
        obtain ⟨vf, vb, s0, s1, s2, hrf, hrb⟩ := hat.at
        obtain ⟨af, nf, cf, rfl, Hf, _⟩ := hrf.shape
        obtain ⟨ab, nb, cb, rfl, Hb, _⟩ := hrb.shape
        have hki : (k : Int) < (n1 : Int) := by omega
        have hpk : (makeN g)[k]? = some (progN g a) := by unfold makeN; rw [List.getElem?_map, Ha.out]; rfl
        obtain ⟨W3, HW3⟩ : ∃ W3, Hid (W3 = wo.alloc (.cells #[.string (S a.name), .slice af nf cf, .slice ab nb cb] 49)) := ⟨_, rfl⟩
        have hb3 : Below wo.heap.size wo W3 := by rw [HW3.out]; exact (Below.refl _ _).alloc (Nat.le_refl _) _
        have hz3 : wo.heap.size + 1 ≤ W3.heap.size := by rw [HW3.out]; simp
        obtain ⟨p0, p1⟩ := blk2 ((hb.block _ (by omega)).trans y3)
        obtain ⟨q0, q1⟩ := blk2 ((hb3.block _ (by omega)).trans ((hb.block _ (by omega)).trans y3))
        rw [HW3.out] at q0 q1
        have X3 : W3.heap[wo.heap.size]? = some (.cells #[.string (S a.name), .slice af nf cf, .slice ab nb cb] 49 (0, 0)) := by rw [HW3.out]; exact heap_alloc_new _ _
        have ham := List.mem_of_getElem? Ha.out
        have hnu := rnumbers_any (nm := a.name) (m := a) (hrf.below FAt.stays hb3) ⟨ab, nb, cb, rfl⟩ (by have := hfl a ham; omega)
        have hfl16 := hfl a ham
        have hkda := hkd a ham
        have HPL : Hid ((progN g a).length = a.fields.length) := prog_len g a
        have HNL : Hid ((numsN a).length = a.fields.length) := by show _ = _; simp [numsN]
        clear hat
        go_wp2_with fail
        rw [← HW3.out]
        refine hnu.mono ?_
        rintro e w4 ⟨a4, n4, c4, rfl, hr4n, hb4⟩
        have Hn4 : Hid (n4 = (numsN a).length) := hr4n.len
        have hn4 : n4 ≤ 16 := by rw [Hn4.out, HNL.out]; exact hfl16
        have hrd4 := hr4n.rdN
        have hB4 : Below W2.heap.size W2 w4 := KBT (KBT hb hb3) hb4
        have X4 := (hb4.block _ (by omega)).trans X3
        have hz4 := hb4.size
        have hr4 : OwnQ w4 W2.heap.size (.slice ao no co) lo := (hr.below hb3).below hb4
        have hbw4 : Below w.heap.size w w4 := KBT (KBT hbwr hb3) hb4
        have hrf4 := (hrf.below FAt.stays hb3).below FAt.stays hb4
        clear hnu hr q0 q1 p0 p1
        go_wp2_with fail
        go_loopg [8, 29] n4 (fun m' u i wi => ∃ (j : Nat) (ap : Option Addr) (npp cpp : Nat), j + m' = n4 ∧ i = .int .i64 j ∧ u = .slice ap npp cpp ∧ Row ekP wi w4.heap.size (.slice ap npp cpp) ((progN g a).take j) ∧ Below w4.heap.size w4 wi)
        case atStart => exact ⟨0, none, 0, 0, by omega, rfl, rfl, by rw [List.take_zero]; exact Row.nil _ _ _, Below.refl _ _⟩
        case round =>
          obtain ⟨j, ap, npp, cpp, hj, rfl, rfl, hrp, hbi⟩ := hrel
          have hzi := hbi.size
          by_cases hjl : j < n4
          · obtain ⟨n, Hn⟩ : ∃ n, Hid ((numsN a)[j]? = some n) := ⟨(numsN a)[j]'(by rw [← Hn4.out]; exact hjl), List.getElem?_eq_getElem (by rw [← Hn4.out]; exact hjl)⟩
            have hnm := List.mem_of_getElem? Hn.out
            obtain ⟨gn, on, rfl, hatn⟩ := (hrd4.below NAt.stays hbi).get NAt.plain Hn.out
            have u7 : wr.cell? ⟨gn, on + j, none⟩ = some (.int .i64 n) := by simpa [NAt] using hatn
            obtain ⟨kf, hk1, hk2, hk3, hk4⟩ := field_of (nums_mem hnm)
            obtain ⟨x, Hx⟩ : ∃ x, Hid (fieldN a.fields n = x) := ⟨_, rfl⟩
            have hxk := hkda n hnm
            have Hpt : Hid ((progN g a).take (j + 1) = (progN g a).take j ++ [stepN g x]) := by show _ = _; rw [progs_step Hn.out, Hx.out]
            rw [Hx.out] at hk2 hk3 hxk
            have hfd := rfield_any (nm := .string (S a.name)) (vb := .slice ab nb cb) (hrf4.below FAt.stays hbi) ⟨ab, nb, cb, rfl⟩ ⟨a.name, rfl⟩ n hk2 hk3 (first_take hk1)
            obtain ⟨m0, m1, m2⟩ := blk3 ((hbi.block _ (by omega)).trans X4)
            have HK2 : Hid (a.fields[kf]? = some x) := hk2
            have HK3 : Hid (x.number = n) := hk3
            clear hk1 hk2 hk3 hk4
            have hji : (j : Int) < (n4 : Int) := by omega
            have hpj : ((progN g a).take j).length ≤ 16 := by rw [List.length_take]; omega
            clear hatn hkda hnm
            go_wp2_with fail
            refine hfd.mono ?_
            rintro e w5 ⟨⟨bf, of, rfl, rfl⟩, hb5⟩
            have hB5 : Below w4.heap.size w4 w5 := KBT hbi hb5
            have hrp5 := hrp.below hb5
            obtain ⟨_, _, ebf, hatx⟩ := (hrf4.below FAt.stays hB5).get FAt.plain HK2.out
            cases ebf
            obtain ⟨s0', s1', s2', s3', s4', s5'⟩ := hatx.at
            have hcl : ∀ V, Below w5.heap.size w5 V → Below w5.heap.size w5 V ∧ V.cell? ⟨bf, of + kf * 6 + 2, none⟩ = some (.int .i64 x.kind) ∧ V.cell? ⟨bf, of + kf * 6 + 3, none⟩ = some (.string (S x.type)) ∧ V.cell? ⟨bf, of + kf * 6 + 4, none⟩ = some (.bool x.many) := fun V hV => ⟨hV, cell_below hV s2', cell_below hV s3', cell_below hV s4'⟩
            have hd : Below w5.heap.size w5 w5.drew := (Below.refl _ _).drew
            obtain ⟨Hw, HHw⟩ : ∃ Hw, Hid (Hw = howN x.kind) := ⟨_, rfl⟩
            have hhw : ∀ V, Calls Tryz.prog 19 #[.int .i64 x.kind] V fun e w' => e = .returned (.int .i64 Hw) ∧ Below V.heap.size V w' := fun V => by rw [HHw.out]; exact rhow_any x.kind V (by omega)
            have hAl : ∀ V, Below (w5.alloc (.cells #[.int .i64 0, .int .i64 0, .int .i64 0, .int .i64 0, .int .i64 0] 51)).drew.heap.size (w5.alloc (.cells #[.int .i64 0, .int .i64 0, .int .i64 0, .int .i64 0, .int .i64 0] 51)).drew V → V.heap[w5.heap.size]? = some (.cells #[.int .i64 0, .int .i64 0, .int .i64 0, .int .i64 0, .int .i64 0] 51 (0, 0)) := fun V hV => (hV.block _ (by show _ < (w5.alloc _).heap.size; simp)).trans (heap_alloc_new w5 _)
            have hdA : Below w5.heap.size w5 (w5.alloc (.cells #[.int .i64 0, .int .i64 0, .int .i64 0, .int .i64 0, .int .i64 0] 51)).drew := (KB_alloc (Below.refl _ _) (Nat.le_refl _) _).drew
            have hbw5 : Below w.heap.size w w5 := KBT hbw4 hB5
            have hz5 := hB5.size
            have hbW5 : Below W2.heap.size W2 w5 := KBT hB4 hB5
            have yf5 := (hbW5.block _ (by omega)).trans y3
            clear hfd hrp u7 m0 m1 m2 s0' s1' s5' hatx
            go_wp2_with fail
            go_cut [12] from 36 to 73 (fun s12 wc => ∃ (C : Nat), s12 = .pointer (some ⟨C, 0, none⟩) ∧ w5.heap.size ≤ C ∧ wc.heap[C]? = some (.cells #[.int .i64 1, .int .i64 n, .int .i64 Hw, .int .i64 x.kind, .int .i64 (-1)] 51 (0, 0)) ∧ Below w5.heap.size w5 wc)
            case first =>
              go_region_held3 (fun V => Below w5.heap.size w5 V ∧ V.cell? ⟨bf, of + kf * 6 + 2, none⟩ = some (.int .i64 x.kind) ∧ V.cell? ⟨bf, of + kf * 6 + 3, none⟩ = some (.string (S x.type)) ∧ V.cell? ⟨bf, of + kf * 6 + 4, none⟩ = some (.bool x.many)) ((with_reducible refine hcl _ ?_; with_reducible (first | exact hd | exact hdA | exact hBn | exact KB_alloc hBn (Nat.le_refl _) _ | exact KB_alloc hd (Nat.le_refl _) _ | exact KB_set5 hBn (Nat.le_refl _)))) ((go_at_call 19; go_split_ands; refine (hhw _).mono ?_; rintro e wn ⟨rfl, hbn⟩; have hBn := KBT (by with_reducible assumption) hbn; try (have hc5 := hAl _ hbn; obtain ⟨q0, q1, q2, q3, q4⟩ := blk5 hc5; have r0 := fr_of_blk hc5 0; have r1 := fr_of_blk hc5 1; have r2 := fr_of_blk hc5 2; have r3 := fr_of_blk hc5 3; have r4 := fr_of_blk hc5 4)))
              all_goals
                go_wp2_with fail
                go_meet
              case rel => exact ⟨wn.heap.size, rfl, hBn.size, heap_alloc_new _ _, KB_alloc hBn (Nat.le_refl _) _⟩
              case rel => exact ⟨w5.heap.size, rfl, Nat.le_refl _, set5_at hc5, KB_set5 hBn (Nat.le_refl _)⟩
            case rest =>
              obtain ⟨C, rfl, hC, hc, hbc⟩ := hcut
              obtain ⟨_, xk, xt, xm⟩ := hcl wc hbc
              obtain ⟨t0, t1, t2, t3, t4⟩ := blk5 hc
              have hfr := fr_of_blk hc
              clear hhw hAl hdA hd s2' s3' s4'
              by_cases k10 : x.kind = 10
              · have bk : (x.kind == 10) = true := by simp [k10]
                have hw2 : Hw = 2 := by rw [HHw.out, k10]; rfl
                have b2 : (Hw == 2) = true := by simp [hw2]
                obtain ⟨N, HN⟩ : ∃ N, Hid (N = firstI (fun m => decide (m.name = x.type)) g.msgs) := ⟨_, rfl⟩
                have HSt : Hid (stepN g x = ⟨4, n, Hw, x.kind, N⟩) := by show _ = _; rw [step_10 k10, HHw.out, HK3.out, HN.out]; rfl
                have hclF : ∀ V, Below w5.heap.size w5 V → Below w5.heap.size w5 V ∧ V.cell? ⟨w.heap.size, 0, none⟩ = some (.slice (some ⟨b, off, none⟩) n1 c1) ∧ V.cell? ⟨w.heap.size, 1, none⟩ = some (.slice a2 n2 c2) ∧ V.cell? ⟨bf, of + kf * 6 + 3, none⟩ = some (.string (S x.type)) := fun V hV => ⟨hV, (blk2 ((hV.block _ (by omega)).trans yf5)).1, (blk2 ((hV.block _ (by omega)).trans yf5)).2, (hcl V hV).2.2.1⟩
                have hmsg : ∀ V, Below w5.heap.size w5 V → Calls Tryz.prog 20 #[.agg #[.slice (some ⟨b, off, none⟩) n1 c1, .slice a2 n2 c2], .string (S x.type)] V fun e w' => e = .returned (.int .i64 N) ∧ Below V.heap.size V w' := fun V hV => by rw [HN.out]; exact rmessage_any (hg.below (KBT hbw5 hV)).1 ⟨a2, n2, c2, rfl⟩ x.type
                clear k10 hw2
                cases hmany : x.many with
                | true =>
                  have hm : x.many = true := hmany
                  obtain ⟨W7, HW7⟩ : ∃ W7, Hid (W7 = ((wc.setCell ⟨C, 0, none⟩ (.int .i64 2)).setCell ⟨C, 0, none⟩ (.int .i64 3))) := ⟨_, rfl⟩
                  have hc7 : W7.heap[C]? = some (.cells #[.int .i64 3, .int .i64 n, .int .i64 Hw, .int .i64 x.kind, .int .i64 (-1)] 51 (0, 0)) := by rw [HW7.out]; exact set1_at (set1_at hc)
                  have hB7 : Below w5.heap.size w5 W7 := by rw [HW7.out]; exact KB_set (KB_set hbc hC) hC
                  have hms := hmsg W7.drew hB7.drew
                  have hC7 := (Array.getElem?_eq_some_iff.1 hc7).1
                  rw [hm] at xm
                  clear hmany
                  go_upto_region 19 with fail
                  rw [← HW7.out]
                  go_cut [] from 61 to 73 (fun wd => wd.heap[C]? = some (.cells #[.int .i64 4, .int .i64 n, .int .i64 Hw, .int .i64 x.kind, .int .i64 N] 51 (0, 0)) ∧ Below w5.heap.size w5 wd)
                  case first =>
                    clear t0 t1 t2 t3 t4 hfr xk xt xm
                    have hd7 := hB7.drew
                    go_region_held3 (fun V => Below w5.heap.size w5 V ∧ V.cell? ⟨w.heap.size, 0, none⟩ = some (.slice (some ⟨b, off, none⟩) n1 c1) ∧ V.cell? ⟨w.heap.size, 1, none⟩ = some (.slice a2 n2 c2) ∧ V.cell? ⟨bf, of + kf * 6 + 3, none⟩ = some (.string (S x.type))) ((with_reducible refine hclF _ ?_; with_reducible (first | exact hd7 | exact hBn | exact KB_set hBn hC | exact KB_set (KB_set hBn hC) hC))) ((go_at_call 20; refine hms.mono ?_; rintro e wn ⟨rfl, hbn⟩; have hBn := KBT hd7 hbn; have hcn := (hbn.block C hC7).trans hc7; obtain ⟨q0, q1, q2, q3, q4⟩ := blk5 hcn; have r0 := fr_of_blk hcn 0; have r4 := fr_of_blk hcn 4))
                    all_goals
                      go_wp2_with fail
                      go_meet
                    all_goals exact ⟨set4_at (set1_at hcn), KB_set (KB_set hBn hC) hC⟩
                  case rest =>
                    obtain ⟨hcd, hbd⟩ := hcut
                    clear t0 t1 t2 t3 t4 hfr xk xt xm hms
                    have hCz := hcd
                    have hBz : Below w5.heap.size w5 wc := hbd
                    obtain ⟨z0, z1, z2, z3, z4⟩ := blk5 hCz
                    have hrz := hrp5.below hBz
                    have hBw : Below w4.heap.size w4 wc := KBT hB5 hBz
                    go_wp2_with (at_builtin; refine wpList_appG (by rfl) ekP _ _ (by rfl) w4.heap.size (.slice ap npp cpp) ((progN g a).take j) [stepN g x] (by rfl) ?a1 (some ⟨_, 0, none⟩) 1 1 (by rfl) (by rfl) ?a2 ?a3 (by decide) ?a4 ?a5 ?_)
                    case a1 => exact hrz.below ((Below.refl _ _).alloc (Nat.le_refl _) _)
                    case a2 => intro e; cases e
                    case a3 =>
                      rw [HSt.out]
                      refine kone_srcN ekP _ ⟨_, _, _, _, _⟩ ?_
                      simp
                    case a4 => simp only [List.length_cons, List.length_nil, show ekP.bytes = 40 from rfl]; omega
                    case a5 => exact (KB_alloc hBw (Nat.le_refl _) _).size
                    intro v' w9 hr9 hg9
                    obtain ⟨a9, n9, c9, rfl, _⟩ := hr9.shape'
                    have hB9 : Below w4.heap.size w4 w9 := kB_app (KB_alloc hBw (Nat.le_refl _) _) (Nat.le_refl _) hg9 (fun k hk => (hrz.own k hk).1)
                    rw [← Hpt.out] at hr9
                    go_wp2_with fail
                    go_roundg (n4 - (j + 1))
                    case measure => omega
                    case rel => exact ⟨j + 1, a9, n9, c9, by omega, by go_num, rfl, hr9, hB9⟩
                | false =>
                  have hm : x.many = false := hmany
                  obtain ⟨W7, HW7⟩ : ∃ W7, Hid (W7 = (wc.setCell ⟨C, 0, none⟩ (.int .i64 3))) := ⟨_, rfl⟩
                  have hc7 : W7.heap[C]? = some (.cells #[.int .i64 3, .int .i64 n, .int .i64 Hw, .int .i64 x.kind, .int .i64 (-1)] 51 (0, 0)) := by rw [HW7.out]; exact set1_at hc
                  have hB7 : Below w5.heap.size w5 W7 := by rw [HW7.out]; exact KB_set hbc hC
                  have hms := hmsg W7.drew hB7.drew
                  have hC7 := (Array.getElem?_eq_some_iff.1 hc7).1
                  rw [hm] at xm
                  clear hmany
                  go_upto_region 19 with fail
                  rw [← HW7.out]
                  go_cut [] from 61 to 73 (fun wd => wd.heap[C]? = some (.cells #[.int .i64 4, .int .i64 n, .int .i64 Hw, .int .i64 x.kind, .int .i64 N] 51 (0, 0)) ∧ Below w5.heap.size w5 wd)
                  case first =>
                    clear t0 t1 t2 t3 t4 hfr xk xt xm
                    have hd7 := hB7.drew
                    go_region_held3 (fun V => Below w5.heap.size w5 V ∧ V.cell? ⟨w.heap.size, 0, none⟩ = some (.slice (some ⟨b, off, none⟩) n1 c1) ∧ V.cell? ⟨w.heap.size, 1, none⟩ = some (.slice a2 n2 c2) ∧ V.cell? ⟨bf, of + kf * 6 + 3, none⟩ = some (.string (S x.type))) ((with_reducible refine hclF _ ?_; with_reducible (first | exact hd7 | exact hBn | exact KB_set hBn hC | exact KB_set (KB_set hBn hC) hC))) ((go_at_call 20; refine hms.mono ?_; rintro e wn ⟨rfl, hbn⟩; have hBn := KBT hd7 hbn; have hcn := (hbn.block C hC7).trans hc7; obtain ⟨q0, q1, q2, q3, q4⟩ := blk5 hcn; have r0 := fr_of_blk hcn 0; have r4 := fr_of_blk hcn 4))
                    all_goals
                      go_wp2_with fail
                      go_meet
                    all_goals exact ⟨set4_at (set1_at hcn), KB_set (KB_set hBn hC) hC⟩
                  case rest =>
                    obtain ⟨hcd, hbd⟩ := hcut
                    clear t0 t1 t2 t3 t4 hfr xk xt xm hms
                    have hCz := hcd
                    have hBz : Below w5.heap.size w5 wc := hbd
                    obtain ⟨z0, z1, z2, z3, z4⟩ := blk5 hCz
                    have hrz := hrp5.below hBz
                    have hBw : Below w4.heap.size w4 wc := KBT hB5 hBz
                    go_wp2_with (at_builtin; refine wpList_appG (by rfl) ekP _ _ (by rfl) w4.heap.size (.slice ap npp cpp) ((progN g a).take j) [stepN g x] (by rfl) ?a1 (some ⟨_, 0, none⟩) 1 1 (by rfl) (by rfl) ?a2 ?a3 (by decide) ?a4 ?a5 ?_)
                    case a1 => exact hrz.below ((Below.refl _ _).alloc (Nat.le_refl _) _)
                    case a2 => intro e; cases e
                    case a3 =>
                      rw [HSt.out]
                      refine kone_srcN ekP _ ⟨_, _, _, _, _⟩ ?_
                      simp
                    case a4 => simp only [List.length_cons, List.length_nil, show ekP.bytes = 40 from rfl]; omega
                    case a5 => exact (KB_alloc hBw (Nat.le_refl _) _).size
                    intro v' w9 hr9 hg9
                    obtain ⟨a9, n9, c9, rfl, _⟩ := hr9.shape'
                    have hB9 : Below w4.heap.size w4 w9 := kB_app (KB_alloc hBw (Nat.le_refl _) _) (Nat.le_refl _) hg9 (fun k hk => (hrz.own k hk).1)
                    rw [← Hpt.out] at hr9
                    go_wp2_with fail
                    go_roundg (n4 - (j + 1))
                    case measure => omega
                    case rel => exact ⟨j + 1, a9, n9, c9, by omega, by go_num, rfl, hr9, hB9⟩
              · have bk : (x.kind == 10) = false := by simp [k10]
                by_cases hw2 : Hw = 2
                · have b2 : (Hw == 2) = true := by simp [hw2]
                  have hw3 : howN x.kind = 2 := by rw [← HHw.out]; exact hw2
                  clear hw2
                  cases hmany : x.many with
                  | true =>
                    rw [hmany] at xm
                    have HSt : Hid (stepN g x = ⟨3, n, Hw, x.kind, -1⟩) := by show _ = _; rw [step_no k10, HHw.out, HK3.out]; unfold kind0; rw [if_pos hw3]
                    clear k10
                    have hCz := set1_at (x0 := .int .i64 3) (set1_at (x0 := .int .i64 2) hc)
                    have hBz : Below w5.heap.size w5 ((wc.setCell ⟨C, 0, none⟩ (.int .i64 2)).setCell ⟨C, 0, none⟩ (.int .i64 3)) := KB_set (KB_set hbc hC) hC
                    obtain ⟨z0, z1, z2, z3, z4⟩ := blk5 hCz
                    have hrz := hrp5.below hBz
                    have hBw : Below w4.heap.size w4 ((wc.setCell ⟨C, 0, none⟩ (.int .i64 2)).setCell ⟨C, 0, none⟩ (.int .i64 3)) := KBT hB5 hBz
                    go_wp2_with (at_builtin; refine wpList_appG (by rfl) ekP _ _ (by rfl) w4.heap.size (.slice ap npp cpp) ((progN g a).take j) [stepN g x] (by rfl) ?a1 (some ⟨_, 0, none⟩) 1 1 (by rfl) (by rfl) ?a2 ?a3 (by decide) ?a4 ?a5 ?_)
                    case a1 => exact hrz.below ((Below.refl _ _).alloc (Nat.le_refl _) _)
                    case a2 => intro e; cases e
                    case a3 =>
                      rw [HSt.out]
                      refine kone_srcN ekP _ ⟨_, _, _, _, _⟩ ?_
                      simp
                    case a4 => simp only [List.length_cons, List.length_nil, show ekP.bytes = 40 from rfl]; omega
                    case a5 => exact (KB_alloc hBw (Nat.le_refl _) _).size
                    intro v' w9 hr9 hg9
                    obtain ⟨a9, n9, c9, rfl, _⟩ := hr9.shape'
                    have hB9 : Below w4.heap.size w4 w9 := kB_app (KB_alloc hBw (Nat.le_refl _) _) (Nat.le_refl _) hg9 (fun k hk => (hrz.own k hk).1)
                    rw [← Hpt.out] at hr9
                    go_wp2_with fail
                    go_roundg (n4 - (j + 1))
                    case measure => omega
                    case rel => exact ⟨j + 1, a9, n9, c9, by omega, by go_num, rfl, hr9, hB9⟩
                  | false =>
                    rw [hmany] at xm
                    have HSt : Hid (stepN g x = ⟨3, n, Hw, x.kind, -1⟩) := by show _ = _; rw [step_no k10, HHw.out, HK3.out]; unfold kind0; rw [if_pos hw3]
                    clear k10
                    have hCz := set1_at (x0 := .int .i64 3) hc
                    have hBz : Below w5.heap.size w5 (wc.setCell ⟨C, 0, none⟩ (.int .i64 3)) := KB_set hbc hC
                    obtain ⟨z0, z1, z2, z3, z4⟩ := blk5 hCz
                    have hrz := hrp5.below hBz
                    have hBw : Below w4.heap.size w4 (wc.setCell ⟨C, 0, none⟩ (.int .i64 3)) := KBT hB5 hBz
                    go_wp2_with (at_builtin; refine wpList_appG (by rfl) ekP _ _ (by rfl) w4.heap.size (.slice ap npp cpp) ((progN g a).take j) [stepN g x] (by rfl) ?a1 (some ⟨_, 0, none⟩) 1 1 (by rfl) (by rfl) ?a2 ?a3 (by decide) ?a4 ?a5 ?_)
                    case a1 => exact hrz.below ((Below.refl _ _).alloc (Nat.le_refl _) _)
                    case a2 => intro e; cases e
                    case a3 =>
                      rw [HSt.out]
                      refine kone_srcN ekP _ ⟨_, _, _, _, _⟩ ?_
                      simp
                    case a4 => simp only [List.length_cons, List.length_nil, show ekP.bytes = 40 from rfl]; omega
                    case a5 => exact (KB_alloc hBw (Nat.le_refl _) _).size
                    intro v' w9 hr9 hg9
                    obtain ⟨a9, n9, c9, rfl, _⟩ := hr9.shape'
                    have hB9 : Below w4.heap.size w4 w9 := kB_app (KB_alloc hBw (Nat.le_refl _) _) (Nat.le_refl _) hg9 (fun k hk => (hrz.own k hk).1)
                    rw [← Hpt.out] at hr9
                    go_wp2_with fail
                    go_roundg (n4 - (j + 1))
                    case measure => omega
                    case rel => exact ⟨j + 1, a9, n9, c9, by omega, by go_num, rfl, hr9, hB9⟩
                · have b2 : (Hw == 2) = false := by simp [hw2]
                  have hw3 : ¬ howN x.kind = 2 := by rw [← HHw.out]; exact hw2
                  clear hw2
                  cases hmany : x.many with
                  | true =>
                    rw [hmany] at xm
                    have HSt : Hid (stepN g x = ⟨2, n, Hw, x.kind, -1⟩) := by show _ = _; rw [step_no k10, HHw.out, HK3.out]; unfold kind0; rw [if_neg hw3, if_pos hmany]
                    clear k10
                    have hCz := set1_at (x0 := .int .i64 2) hc
                    have hBz : Below w5.heap.size w5 (wc.setCell ⟨C, 0, none⟩ (.int .i64 2)) := KB_set hbc hC
                    obtain ⟨z0, z1, z2, z3, z4⟩ := blk5 hCz
                    have hrz := hrp5.below hBz
                    have hBw : Below w4.heap.size w4 (wc.setCell ⟨C, 0, none⟩ (.int .i64 2)) := KBT hB5 hBz
                    go_wp2_with (at_builtin; refine wpList_appG (by rfl) ekP _ _ (by rfl) w4.heap.size (.slice ap npp cpp) ((progN g a).take j) [stepN g x] (by rfl) ?a1 (some ⟨_, 0, none⟩) 1 1 (by rfl) (by rfl) ?a2 ?a3 (by decide) ?a4 ?a5 ?_)
                    case a1 => exact hrz.below ((Below.refl _ _).alloc (Nat.le_refl _) _)
                    case a2 => intro e; cases e
                    case a3 =>
                      rw [HSt.out]
                      refine kone_srcN ekP _ ⟨_, _, _, _, _⟩ ?_
                      simp
                    case a4 => simp only [List.length_cons, List.length_nil, show ekP.bytes = 40 from rfl]; omega
                    case a5 => exact (KB_alloc hBw (Nat.le_refl _) _).size
                    intro v' w9 hr9 hg9
                    obtain ⟨a9, n9, c9, rfl, _⟩ := hr9.shape'
                    have hB9 : Below w4.heap.size w4 w9 := kB_app (KB_alloc hBw (Nat.le_refl _) _) (Nat.le_refl _) hg9 (fun k hk => (hrz.own k hk).1)
                    rw [← Hpt.out] at hr9
                    go_wp2_with fail
                    go_roundg (n4 - (j + 1))
                    case measure => omega
                    case rel => exact ⟨j + 1, a9, n9, c9, by omega, by go_num, rfl, hr9, hB9⟩
                  | false =>
                    rw [hmany] at xm
                    have HSt : Hid (stepN g x = ⟨1, n, Hw, x.kind, -1⟩) := by show _ = _; rw [step_no k10, HHw.out, HK3.out]; unfold kind0; rw [if_neg hw3, if_neg (by rw [hmany]; decide)]
                    clear k10
                    have hCz := hc
                    have hBz : Below w5.heap.size w5 wc := hbc
                    obtain ⟨z0, z1, z2, z3, z4⟩ := blk5 hCz
                    have hrz := hrp5.below hBz
                    have hBw : Below w4.heap.size w4 wc := KBT hB5 hBz
                    go_wp2_with (at_builtin; refine wpList_appG (by rfl) ekP _ _ (by rfl) w4.heap.size (.slice ap npp cpp) ((progN g a).take j) [stepN g x] (by rfl) ?a1 (some ⟨_, 0, none⟩) 1 1 (by rfl) (by rfl) ?a2 ?a3 (by decide) ?a4 ?a5 ?_)
                    case a1 => exact hrz.below ((Below.refl _ _).alloc (Nat.le_refl _) _)
                    case a2 => intro e; cases e
                    case a3 =>
                      rw [HSt.out]
                      refine kone_srcN ekP _ ⟨_, _, _, _, _⟩ ?_
                      simp
                    case a4 => simp only [List.length_cons, List.length_nil, show ekP.bytes = 40 from rfl]; omega
                    case a5 => exact (KB_alloc hBw (Nat.le_refl _) _).size
                    intro v' w9 hr9 hg9
                    obtain ⟨a9, n9, c9, rfl, _⟩ := hr9.shape'
                    have hB9 : Below w4.heap.size w4 w9 := kB_app (KB_alloc hBw (Nat.le_refl _) _) (Nat.le_refl _) hg9 (fun k hk => (hrz.own k hk).1)
                    rw [← Hpt.out] at hr9
                    go_wp2_with fail
                    go_roundg (n4 - (j + 1))
                    case measure => omega
                    case rel => exact ⟨j + 1, a9, n9, c9, by omega, by go_num, rfl, hr9, hB9⟩
          · have hrp' : Row ekP wr w4.heap.size (.slice ap npp cpp) (progN g a) := by
              rw [List.take_of_length_le (by rw [HPL.out, ← HNL.out, ← Hn4.out]; omega)] at hrp; exact hrp
            have hB5 : Below W2.heap.size W2 wr := KBT hB4 hbi
            have hr5' : Row ekP wr W2.heap.size (KV.v (ap, npp, cpp)) (progN g a) := hrp'.mono (by omega)
            have hr4' := hr4.below hbi
            clear hrp hrp'
            go_wp2_with (at_builtin; refine wpList_appG (by rfl) ekQ _ _ (by rfl) W2.heap.size (.slice ao no co) lo [(progN g a, (ap, npp, cpp))] (by rfl) ?a1 (some ⟨wr.heap.size, 0, none⟩) 1 1 (by rfl) (by rfl) ?a2 ?a3 (by decide) ?a4 ?a5 ?_)
            case a1 => exact hr4'.row.below ((Below.refl _ _).alloc (Nat.le_refl _) _)
            case a2 => intro e; cases e
            case a3 => exact kone_src ekQ wr (progN g a, (ap, npp, cpp))
            case a4 => simp [ekQ]; omega
            case a5 => exact (KB_alloc hB5 (Nat.le_refl _) _).size
            intro v' w6 hr6 hg6
            obtain ⟨a6, n6, c6, rfl, _⟩ := hr6.shape'
            have hB6 : Below W2.heap.size W2 w6 := kB_app (KB_alloc hB5 (Nat.le_refl _) _) (Nat.le_refl _) hg6 (fun k hk => (hr4'.row.own k hk).1)
            have hq6 : OwnQ w6 W2.heap.size (.slice a6 n6 c6) (lo ++ [(progN g a, (ap, npp, cpp))]) := ownQ_app hr4' hr5' hr6 hg6
            have HL' : Hid ((lo ++ [(progN g a, ((ap, npp, cpp) : KV))]).map Prod.fst = (makeN g).take (k + 1)) := by
              show _ = _
              rw [List.map_append, HL.out, take_snoc hpk]; rfl
            clear hr6
            go_wp2_with fail
            go_roundg (n1 - (k + 1))
            case measure => omega
            case rel => exact ⟨k + 1, a6, n6, c6, _, by omega, by go_num, rfl, hq6, HL', by simp; omega, hB6⟩
      · have HL' : Hid (lo.map Prod.fst = makeN g) := by
          have := HL.out
          rw [List.take_of_length_le (by rw [hlm, ← H1.out]; omega)] at this
          exact this
        obtain ⟨q0, q1⟩ := blk2 ((hb.block _ (by omega)).trans y4)
        have f1 := fr_of_blk ((hb.block _ (by omega)).trans y4)
        clear u0 u1 f0 u2 u3 u4 u5 u6
        go_wp2_with fail
        refine bodyPost_ret (v := .tuple #[.slice ao no co, .agg #[.int .i64 0, .int .i64 0]]) (by simp [results, Tryz.results6, go_sem, *]) rfl ?_
        exact ⟨KB_set (KB_set hbwr (by omega)) (by omega), ao, no, co, rfl, lo, (((hr.low (by omega) 0 _).low (by omega) 1 _)).mono (by omega), HL'.out⟩
  · have hne : (ze != 0) = true := by simpa using h0
    go_wp2_with fail
    rw [← HW2.out]
    go_region
    all_goals
      go_wp2_with fail
      refine bodyPost_ret (v := .tuple #[.slice none 0 0, .agg #[.int .i64 ze, .int .i64 (zi : Int)]]) (by simp [results, Tryz.results6, go_sem, *]) rfl ?_
      exact ⟨(KB_set (KB_set hbw2 (by omega)) (by omega)).drew, .inl ⟨h0, rfl⟩⟩

end L
end Go.Proofs.YthgbiflfinddiaaGreat

