/- The walk of PressRight. -/
import Derived.Test.YthgbiflfinddiaaGreatKAlive
import Derived.Test.YthgbiflfinddiaaGreatKMis
import Derived.Deep.QuietTactic
import Derived.BigQuiet
namespace Go.Proofs.YthgbiflfinddiaaGreat
namespace L
open Go.RowKit

/-- A field that a step writes. -/
def matB (s : TI) (x : FI) : Bool := decide (x.number = s.number) && (decide (x.kind = s.field) && (decide (s.kind = 2) == (x.many && decide (howN x.kind ≠ 2))))
theorem mat_step (g : GI) (x : FI) : matB (stepN g x) x = true := by
  unfold matB stepN kindN
  by_cases k10 : x.kind = 10
  · simp [k10, howN]
  · by_cases k2 : howN x.kind = 2
    · simp [k10, k2]
    · by_cases hmy : x.many = true <;> simp [k10, k2, hmy]
theorem mat_any {g : GI} {m : MI} {s : TI} (h : s ∈ progN g m) : m.fields.any (matB s) = true := by
  obtain ⟨x, hx, rfl⟩ := prog_mem h
  rw [List.any_eq_true]
  exact ⟨x, hx, mat_step g x⟩
theorem any_snoc {α : Type} {p : α → Bool} {l : List α} {k : Nat} {a : α} (h : l[k]? = some a) : (l.take (k + 1)).any p = ((l.take k).any p || p a) := by
  rw [take_snoc h, List.any_append]; simp

theorem len_le {g : GI} (h : GOk g) : g.msgs.length ≤ 140737488355328 ∧ g.enums.length ≤ 140737488355328 := by
  obtain ⟨_, _, h3, h4⟩ := h
  unfold reachBytes at h3 h4
  omega
set_option maxHeartbeats 8000000 in
set_option maxRecDepth 100000 in
theorem pressRight_walk {w : World} {vm ve : Value} {g : GI} (hg : GRd w vm ve g) (hok : GOk g) :
    Calls Tryz.prog 4 #[.agg #[vm, ve]] w fun e w' => e = .returned (.bool true) ∧ Below w.heap.size w w' := by
  obtain ⟨a1, n1, c1, rfl, H1, _⟩ := hg.1.shape
  obtain ⟨a2, n2, c2, rfl, H2, _⟩ := hg.2.shape
  obtain ⟨W0, HW0⟩ : ∃ W0, Hid (W0 = w.alloc (.cells #[.slice a1 n1 c1, .slice a2 n2 c2] 25)) := ⟨_, rfl⟩
  have hb0 : Below w.heap.size w W0 := by rw [HW0.out]; exact (Below.refl _ _).alloc (Nat.le_refl _) _
  have hz0 : w.heap.size + 1 ≤ W0.heap.size := by rw [HW0.out]; simp
  have x0 : W0.heap[w.heap.size]? = some (.cells #[.slice a1 n1 c1, .slice a2 n2 c2] 25 (0, 0)) := by rw [HW0.out]; exact heap_alloc_new _ _
  have hal := alive6_any W0
  go_enter Tryz.func4, Tryz.ntmps4
  go_wp2_with fail
  rw [← HW0.out]
  refine hal.mono ?_
  rintro e w1 ⟨rfl, hb1⟩
  have hbw1 : Below w.heap.size w w1 := KBT hb0 hb1
  have hz1 := hb1.size
  obtain ⟨u0, u1⟩ := blk2 ((hb1.block _ (by omega)).trans x0)
  have hmk := make_any (hg.below hbw1) (len_le hok).1 (len_le hok).2 hok.fits
  obtain ⟨ze, zi, Hq⟩ : ∃ ze zi, Hid (wrongL g = (ze, zi)) := ⟨_, _, rfl⟩
  rw [Hq.out] at hmk
  clear hal
  go_wp2_with fail
  refine hmk.mono ?_
  rintro e w2 ⟨hb2, hx⟩
  have hbw2 : Below w.heap.size w w2 := KBT hbw1 hb2
  have hz2 := hb2.size
  clear hmk u0 u1
  rcases hx with ⟨hze, rfl⟩ | ⟨hze, al, nl, cl, l, rfl, hq, hl⟩
  · have hzb : (ze != 0) = true := by simpa using hze
    have hb3 : Below w.heap.size w (w2.alloc (.cells #[.int .i64 ze, .int .i64 (zi : Int)] 33)) := KBT hbw2 ((Below.refl _ _).alloc (Nat.le_refl _) _)
    clear hze
    go_wp2
    go_ret
    exact ⟨rfl, hb3⟩
  have hr0 : (wrongL g).1 = 0 := by rw [Hq.out]; exact hze
  have hinv := right_inv hr0
  have hmr := make_right hr0
  have hrd := hq.rd
  rw [hl] at hrd
  have Hnl : Hid (nl = n1) := by show _ = _; rw [hrd.len.1, make_len, H1.out]
  have hnl : nl = n1 := Hnl.out
  subst hnl
  obtain ⟨W3, HW3⟩ : ∃ W3, Hid (W3 = w2.alloc (.cells #[.int .i64 0, .int .i64 0] 33)) := ⟨_, rfl⟩
  have hb3 : Below w2.heap.size w2 W3 := by rw [HW3.out]; exact (Below.refl _ _).alloc (Nat.le_refl _) _
  have hbw3 : Below w.heap.size w W3 := KBT hbw2 hb3
  have hz3 := hb3.size
  have hpw := pressWrong_any (hrd.below PrAt.stays hb3)
  rw [hmr] at hpw
  clear hze hr0 hmr
  go_wp2_with fail
  rw [← HW3.out]
  refine hpw.mono ?_
  rintro e W4 ⟨rfl, hb4⟩
  have hB4 : Below w2.heap.size w2 W4 := KBT hb3 hb4
  have hbw4 : Below w.heap.size w W4 := KBT hbw2 hB4
  have hz4 := hb4.size
  have y0 : W4.heap[w.heap.size]? = some (.cells #[.slice a1 nl c1, .slice a2 n2 c2] 25 (0, 0)) := ((KBT (KBT hb1 hb2) hB4).block _ (by omega)).trans x0
  obtain ⟨u0, u1⟩ := blk2 y0
  have hfl := field0
  have hrd4 := hrd.below PrAt.stays hB4
  have hg4 := hg.below hbw4
  clear hpw hrd
  go_wp2_with fail
  go_loopg [36] nl (fun m i wr => ∃ (k : Nat), k + m = nl ∧ i = .int .i64 k ∧ Below W4.heap.size W4 wr)
  case atStart => exact ⟨0, by omega, rfl, Below.refl _ _⟩
  case round =>
    obtain ⟨k, hk, rfl, hb⟩ := hrel
    obtain ⟨wo, Hwo⟩ : ∃ wo, wo = wr := ⟨_, rfl⟩
    subst Hwo
    have hzo := hb.size
    by_cases hlt : k < nl
    · obtain ⟨a, Ha⟩ : ∃ a, Hid (g.msgs[k]? = some a) := ⟨g.msgs[k]'(by rw [← H1.out]; exact hlt), List.getElem?_eq_getElem (by rw [← H1.out]; exact hlt)⟩
      obtain ⟨bm, om, rfl, hat⟩ := hg4.1.get MAt.plain Ha.out
      obtain ⟨vf, vb, s0, s1, s2, hrf, hrb⟩ := hat.at
      obtain ⟨af, nf, cf, rfl, Hf, hnf⟩ := hrf.shape
      have hpk : (makeN g)[k]? = some (progN g a) := by unfold makeN; rw [List.getElem?_map, Ha.out]; rfl
      obtain ⟨bp, op, rfl, hpt⟩ := hrd4.get PrAt.plain hpk
      obtain ⟨vp, p0, hrp⟩ := hpt
      obtain ⟨ap, np, cp, rfl, Hp, _⟩ := hrp.shape
      have hnp : np = nf := by rw [Hp.out, Hf.out]; exact prog_len g a
      subst hnp
      have hki : (k : Int) < (nl : Int) := by omega
      have hcl : ∀ V, Below W4.heap.size W4 V → V.cell? ⟨w.heap.size, 0, none⟩ = some (.slice (some ⟨bm, om, none⟩) nl c1) ∧ V.cell? ⟨bm, om + k * 3 + 1, none⟩ = some (.slice af np cf) := fun V hV => ⟨cell_of_blk ((hV.block _ (by omega)).trans y0) 0 _ rfl, cell_below hV s1⟩
      have p1 : wo.cell? ⟨bp, op + k, none⟩ = some (.slice ap np cp) := cell_below hb (by simpa using p0)
      obtain ⟨v0, v1⟩ := hcl wo hb
      clear hat
      go_wp2_with fail
      go_loopg [53] np (fun m i wr => ∃ (j : Nat), j + m = np ∧ i = .int .i64 j ∧ Below W4.heap.size W4 wr)
      case atStart => exact ⟨0, by omega, rfl, hb⟩
      case round =>
        obtain ⟨j, hj, rfl, hb5⟩ := hrel
        obtain ⟨wp, Hwp⟩ : ∃ wp, wp = wr := ⟨_, rfl⟩
        subst Hwp
        by_cases hjl : j < np
        · obtain ⟨s, Hs⟩ : ∃ s, Hid ((progN g a)[j]? = some s) := ⟨(progN g a)[j]'(by rw [← Hp.out]; exact hjl), List.getElem?_eq_getElem (by rw [← Hp.out]; exact hjl)⟩
          obtain ⟨bs, os, rfl, hst⟩ := (hrp.below StAt.stays hb5).get StAt.plain Hs.out
          obtain ⟨t0, t1, t2, t3, t4⟩ := hst.at
          have hji : (j : Int) < (np : Int) := by omega
          obtain ⟨W6, HW6⟩ : ∃ W6, Hid (W6 = wp.alloc (.cells #[.int .i64 s.kind, .int .i64 s.number, .int .i64 s.how, .int .i64 s.field, .int .i64 s.next] 51)) := ⟨_, rfl⟩
          have hb6 : Below wp.heap.size wp W6 := by rw [HW6.out]; exact (Below.refl _ _).alloc (Nat.le_refl _) _
          have hz6 : wp.heap.size + 1 ≤ W6.heap.size := by rw [HW6.out]; simp
          have x6 : W6.heap[wp.heap.size]? = some (.cells #[.int .i64 s.kind, .int .i64 s.number, .int .i64 s.how, .int .i64 s.field, .int .i64 s.next] 51 (0, 0)) := by rw [HW6.out]; exact heap_alloc_new _ _
          have hB6 : Below W4.heap.size W4 W6 := KBT hb5 hb6
          obtain ⟨v2, v3⟩ := hcl W6 hB6
          rw [HW6.out] at v2 v3
          have hmat := mat_any (List.mem_of_getElem? Hs.out)
          clear hst
          go_wp2_with fail
          rw [← HW6.out]
          go_loopg [9, 64] np (fun m u i wr => ∃ (q : Nat), q + m = np ∧ i = .int .i64 q ∧ u = .bool ((a.fields.take q).any (matB s)) ∧ Below W6.heap.size W6 wr)
          case atStart => exact ⟨0, by omega, rfl, by simp, Below.refl _ _⟩
          case round =>
            obtain ⟨q, hq', rfl, rfl, hb7⟩ := hrel
            by_cases hql : q < np
            · obtain ⟨x, Hx⟩ : ∃ x, Hid (a.fields[q]? = some x) := ⟨a.fields[q]'(by rw [← Hf.out]; exact hql), List.getElem?_eq_getElem (by rw [← Hf.out]; exact hql)⟩
              have hB7 : Below W4.heap.size W4 wr := KBT hB6 hb7
              obtain ⟨bx, ox, rfl, hxt⟩ := (hrf.below FAt.stays hB7).get FAt.plain Hx.out
              obtain ⟨f0, f1, f2, f3, f4, f5⟩ := hxt.at
              have hqi : (q : Int) < (np : Int) := by omega
              have x7 := (hb7.block _ (by omega)).trans x6
              obtain ⟨W8, HW8⟩ : ∃ W8, Hid (W8 = wr.alloc (.cells #[.string (S x.name), .int .i64 x.number, .int .i64 x.kind, .string (S x.type), .bool x.many, .int .i64 x.choice] 53)) := ⟨_, rfl⟩
              have hb8 : Below wr.heap.size wr W8 := by rw [HW8.out]; exact (Below.refl _ _).alloc (Nat.le_refl _) _
              have x8 : W8.heap[wr.heap.size]? = some (.cells #[.string (S x.name), .int .i64 x.number, .int .i64 x.kind, .string (S x.type), .bool x.many, .int .i64 x.choice] 53 (0, 0)) := by rw [HW8.out]; exact heap_alloc_new _ _
              have hz7 := hb7.size
              obtain ⟨g0, g1, g2, g3, g4⟩ := blk5 ((hb8.block _ (by omega)).trans x7)
              obtain ⟨d0, d1, d2, d3, d4, d5⟩ := blk6 x8
              have hB8 : Below W6.heap.size W6 W8 := KBT hb7 hb8
              obtain ⟨T, HT⟩ : ∃ T, Hid ((a.fields.take q).any (matB s) = T) := ⟨_, rfl⟩
              have HT' : Hid ((a.fields.take (q + 1)).any (matB s) = (T || matB s x)) := by show _ = _; rw [any_snoc Hx.out, HT.out]
              rw [HT.out]
              have hqt : ∀ W, Calls Tryz.prog 13 #[.int .i64 x.kind] W fun e w' => e = .returned (.int .i64 (howN x.kind)) ∧ w' = W := fun W => (how_any x.kind W).mono fun _ _ ⟨a, b⟩ => ⟨a, b.symm⟩
              clear hxt
              go_wp2_with fail
              rw [← HW8.out]
              cases T with
              | true =>
                go_quiet (fail)
                go_wp2_with fail
                go_roundg (np - (q + 1))
                case measure => omega
                case rel => exact ⟨q + 1, by omega, by go_num, by rw [HT'.out]; rfl, KBT hB8 (kB_drewN (Below.refl _ _) _)⟩
              | false =>
                cases hn : (x.number == s.number) with
                | false =>
                  have HM : Hid (matB s x = false) := by
                    show _ = _; unfold matB
                    have : decide (x.number = s.number) = false := by simpa using hn
                    rw [this]; rfl
                  go_quiet (fail)
                  go_wp2_with fail
                  go_roundg (np - (q + 1))
                  case measure => omega
                  case rel => exact ⟨q + 1, by omega, by go_num, by rw [HT'.out, HM.out]; rfl, KBT hB8 (kB_drewN (Below.refl _ _) _)⟩
                | true =>
                  cases hkd : (x.kind == s.field) with
                  | false =>
                    have HM : Hid (matB s x = false) := by
                      show _ = _; unfold matB
                      have : decide (x.kind = s.field) = false := by simpa using hkd
                      rw [this]; simp
                    go_quiet (fail)
                    go_wp2_with fail
                    go_roundg (np - (q + 1))
                    case measure => omega
                    case rel => exact ⟨q + 1, by omega, by go_num, by rw [HT'.out, HM.out]; rfl, KBT hB8 (kB_drewN (Below.refl _ _) _)⟩
                  | true =>
                    obtain ⟨Q2, hQ2⟩ : ∃ Q2, (s.kind == 2) = Q2 := ⟨_, rfl⟩
                    have e1 : decide (x.number = s.number) = true := by simpa using hn
                    have e2 : decide (x.kind = s.field) = true := by simpa using hkd
                    have e3 : decide (s.kind = 2) = Q2 := by rw [← hQ2, Bool.eq_iff_iff]; simp
                    cases hmy : x.many with
                    | false =>
                      have HM : Hid (matB s x = (Q2 == false)) := by
                        show _ = _; unfold matB
                        rw [e1, e2, e3, hmy]; rfl
                      rw [hmy] at d4
                      clear e1 e2 e3
                      go_quiet (fail)
                      go_wp2_with fail
                      go_roundg (np - (q + 1))
                      case measure => omega
                      case rel => exact ⟨q + 1, by omega, by go_num, by rw [HT'.out, HM.out]; cases Q2 <;> rfl, KBT hB8 (kB_drewN (Below.refl _ _) _)⟩
                    | true =>
                      obtain ⟨y, Hy⟩ : ∃ y, Hid (howN x.kind = y) := ⟨_, rfl⟩
                      rw [Hy.out] at hqt
                      obtain ⟨Q3, hQ3⟩ : ∃ Q3, (y != 2) = Q3 := ⟨_, rfl⟩
                      have HM : Hid (matB s x = (Q2 == Q3)) := by
                        show _ = _; unfold matB
                        have e4 : decide (howN x.kind ≠ 2) = Q3 := by rw [← hQ3, Hy.out, Bool.eq_iff_iff]; simp
                        rw [e1, e2, e3, hmy, e4]; simp
                      rw [hmy] at d4
                      clear e1 e2 e3
                      go_quiet (exact Calls.quiet_of_same (hqt _))
                      go_wp2_with fail
                      go_roundg (np - (q + 1))
                      case measure => omega
                      case rel => exact ⟨q + 1, by omega, by go_num, by rw [HT'.out, HM.out]; rfl, KBT hB8 (kB_drewN (Below.refl _ _) _)⟩
            · have hall : (a.fields.take q).any (matB s) = true := by
                rw [List.take_of_length_le (by rw [← Hf.out]; omega)]; exact hmat
              rw [hall]
              have hB7 : Below W4.heap.size W4 wr := KBT hB6 hb7
              go_wp2_with fail
              go_roundg (np - (j + 1))
              case measure => omega
              case rel => exact ⟨j + 1, by omega, by go_num, hB7⟩
        · go_wp2_with fail
          go_roundg (nl - (k + 1))
          case measure => omega
          case rel => exact ⟨k + 1, by omega, by go_num, hb5⟩
    · go_wp2
      go_ret
      exact ⟨rfl, KBT hbw4 hb⟩

end L
end Go.Proofs.YthgbiflfinddiaaGreat
