import Derived.Test.YthgbiflfinddiaaGreatMRn
import Derived.Test.YthgbiflfinddiaaGreatKWrong
import Derived.Deep.RegionHeld3
import Derived.Deep.CutRange
import Derived.Deep.DrawnRows
/- The document's own answer: WrongPrograms. -/
namespace Go.Proofs.YthgbiflfinddiaaGreat
namespace L
open Go.RowKit
set_option linter.unusedVariables false

theorem region_cls {ops : List Oper} {C : World → Prop} {id : Nat} {Q : Exit → Act → World → Prop} {a : Act} {w : World} (hm : Tryz.prog.follows .mixedOrders = true) (hB : Region.lexB .any ops.toArray = true) (hC : C w.drew)
    (h : wpQuiet Tryz.prog ops.toArray C (fun a' => ∀ w', C w' → Q .normal a' w') ops a) : (Code.region id ops.toArray true).wp Tryz.prog Q a w :=
  wp_region_quiet (C := C) hm hB hC (by simpa using h)
theorem cls_val {ops : Array Oper} {rest : List Oper} {C : World → Prop} {Q : Act → Prop} {a : Act} {o : Oper} (v : Value) (hw : Region.wanted o (yielded ops a.tmps) = true) (h : ∀ w, C w → (execOp a.eval o).run Tryz.prog w = .ok (.value v) w) (hk : wpQuiet Tryz.prog ops C Q rest (a.put o.dst v)) : wpQuiet Tryz.prog ops C Q (o :: rest) a :=
  BigFrame.wpQuiet_want hw fun _ hK => ⟨v, fun w hc => by unfold Oper.quietAt; rw [h w hc]; exact ⟨rfl, rfl⟩, hK _ hk⟩
theorem cls_call {ops : Array Oper} {rest : List Oper} {C : World → Prop} {Q : Act → Prop} {a : Act} {o : Oper} (v : Value) {f : FuncId} {args : Array Value} (hw : Region.wanted o (yielded ops a.tmps) = true) (h : ∀ w, C w → (execOp a.eval o).run Tryz.prog w = .ok (.enter f args) w) (hc : ∀ w, C w → Calls Tryz.prog f args w fun e w' => e = .returned v ∧ C w') (hk : wpQuiet Tryz.prog ops C Q rest (a.put o.dst v)) : wpQuiet Tryz.prog ops C Q (o :: rest) a :=
  BigFrame.wpQuiet_want hw fun _ hK => ⟨v, fun w hcw => by unfold Oper.quietAt; rw [h w hcw]; exact ⟨rfl, hc w hcw⟩, hK _ hk⟩

set_option maxHeartbeats 400000 in
theorem rbad_any {V : World} {c : Nat} {i : Nat} (x : V.heap[c]? = some (.cells #[.int .i64 (i : Int)] 3 (0, 0))) (e : Int) :
    Calls Tryz.prog 22 #[.int .i64 e, .pointer (some ⟨c, 0, none⟩)] V fun r w' => r = .returned (.agg #[.int .i64 e, .int .i64 (i : Int)]) ∧ Below V.heap.size V w' := by
  have t0 : V.cell? ⟨c, 0, none⟩ = some (.int .i64 (i : Int)) := cell_of_blk x 0 _ rfl
  have hc := (Array.getElem?_eq_some_iff.1 x).1
  have hb : Below V.heap.size V (V.alloc (.cells #[.int .i64 e, .int .i64 (i : Int)] 33)) := (Below.refl _ _).alloc (Nat.le_refl _) _
  have t1 := fun o => cell_of_blk ((Below.heap_alloc V o c hc).trans x) 0 _ rfl
  go_enter Tryz.func22, Tryz.ntmps22
  go_wp2_with fail
  refine bodyPost_ret (v := .agg #[.int .i64 e, .int .i64 (i : Int)]) (by simp [results, Tryz.results22, go_sem]) rfl ?_
  exact ⟨rfl, hb⟩
/-- The number of the step ahead. -/
def prevT (p : List TI) : Nat → Int
  | 0 => 0
  | j + 1 => (p[j]?.map TI.number).getD 0
theorem prevT_succ {p : List TI} {j : Nat} {s : TI} (h : p[j]? = some s) : prevT p (j + 1) = s.number := by simp [prevT, h]
theorem wrongT_1 {s : TI} {a : Int} {n : Nat} (h : s.kind < 1 ∨ 4 < s.kind ∨ s.field < 1 ∨ 10 < s.field) : wrongT s a n = 1 := by
  unfold wrongT
  by_cases h1 : s.kind < 1 ∨ 4 < s.kind
  · rw [if_pos h1]
  · rw [if_neg h1, if_pos (by omega)]
theorem wrongT_3 {s : TI} {a : Int} {n : Nat} (h : ¬ (s.kind < 1 ∨ 4 < s.kind ∨ s.field < 1 ∨ 10 < s.field)) (h3 : s.number < 1 ∨ 536870912 ≤ s.number ∨ s.number ≤ a) : wrongT s a n = 3 := by
  unfold wrongT; rw [if_neg (by omega), if_neg (by omega), if_pos h3]
theorem wrongT_8 {s : TI} {a : Int} {n : Nat} (h : ¬ (s.kind < 1 ∨ 4 < s.kind ∨ s.field < 1 ∨ 10 < s.field)) (h3 : ¬ (s.number < 1 ∨ 536870912 ≤ s.number ∨ s.number ≤ a)) (h8 : misN s = true) : wrongT s a n = 8 := by
  unfold wrongT; rw [if_neg (by omega), if_neg (by omega), if_neg h3, if_pos h8]
theorem wrongT_6 {s : TI} {a : Int} {n : Nat} (h : ¬ (s.kind < 1 ∨ 4 < s.kind ∨ s.field < 1 ∨ 10 < s.field)) (h3 : ¬ (s.number < 1 ∨ 536870912 ≤ s.number ∨ s.number ≤ a)) (h8 : ¬ misN s = true) : wrongT s a n = if nowN s n = true then 6 else 0 := by
  unfold wrongT; rw [if_neg (by omega), if_neg (by omega), if_neg h3, if_neg h8]
theorem mis_bool (s : TI) : misN s = ((s.how != howN s.field) || ((((s.kind == 3) || (s.kind == 4)) != (s.how == 2)) || ((s.kind == 4) != (s.field == 10)))) := by
  have e3 : decide (s.kind = 3) = (s.kind == 3) := by rw [Bool.eq_iff_iff]; simp
  have e4 : decide (s.kind = 4) = (s.kind == 4) := by rw [Bool.eq_iff_iff]; simp
  have e2 : decide (s.how = 2) = (s.how == 2) := by rw [Bool.eq_iff_iff]; simp
  have e1 : decide (s.field = 10) = (s.field == 10) := by rw [Bool.eq_iff_iff]; simp
  have e0 : decide (s.how ≠ howN s.field) = (s.how != howN s.field) := by rw [Bool.eq_iff_iff]; simp
  unfold misN; rw [e3, e4, e2, e1, e0]
set_option maxHeartbeats 8000000 in
set_option maxRecDepth 100000 in
theorem rwrongP_any {w : World} {v : Value} {l : List (List TI)} (h : RdL 1 PrAt w v l) (hf : ∀ p ∈ l, ∀ s ∈ p, -9223372036854775808 ≤ s.field ∧ s.field ≤ 9223372036854775807) : Calls Tryz.prog 9 #[v] w fun e w' => e = .returned (.agg #[.int .i64 (wrongP l).1, .int .i64 (((wrongP l).2 : Nat) : Int)]) ∧ Below w.heap.size w w' := by
  obtain ⟨ao, n, cap, rfl, Hn, hcap⟩ := h.shape
  obtain ⟨W0, HW0⟩ : ∃ W0, Hid (W0 = w.alloc (.cells #[.int .i64 0, .int .i64 0] 33)) := ⟨_, rfl⟩
  have hb0 : Below w.heap.size w W0 := by rw [HW0.out]; exact (Below.refl _ _).alloc (Nat.le_refl _) _
  have hz0 : w.heap.size + 1 ≤ W0.heap.size := by rw [HW0.out]; simp
  have x0 : W0.heap[w.heap.size]? = some (.cells #[.int .i64 0, .int .i64 0] 33 (0, 0)) := by rw [HW0.out]; exact heap_alloc_new _ _
  have hmf := makeF
  have hent : ∀ (args : Array Value) (w : World), (callFunc 22 args).run Tryz.prog w = .ok (.enter 22 args) w := enters_of Tryz.func22 (by kernel_rfl) rfl
  by_cases h10 : 10 < n
  · have HN : Hid (wrongP l = (5, 0)) := by show _ = _; unfold wrongP; rw [if_pos (by rw [← Hn.out]; exact h10)]
    have hi : (10 : Int) < (n : Int) := by omega
    have hbs : Below w.heap.size w (w.alloc (.cells #[.int .i64 5, .int .i64 0] 33)) := (Below.refl _ _).alloc (Nat.le_refl _) _
    go_enter Tryz.func9, Tryz.ntmps9
    go_wp2_with fail
    refine bodyPost_ret (v := .agg #[.int .i64 5, .int .i64 0]) (by simp [results, Tryz.results9, go_sem]) rfl ?_
    exact ⟨by rw [HN.out]; rfl, hbs⟩
  · have HN : Hid (wrongP l = wrongQs n 0 (l.drop 0)) := by show _ = _; unfold wrongP; rw [if_neg (by rw [← Hn.out]; exact h10), Hn.out]; rfl
    have hi : ¬ (10 : Int) < (n : Int) := by omega
    go_enter Tryz.func9, Tryz.ntmps9
    go_wp2_with fail
    rw [← HW0.out]
    go_loopg [15] n (fun m i wr => ∃ (k : Nat), k + m = n ∧ i = .int .i64 k ∧ Hid (wrongP l = wrongQs n k (l.drop k)) ∧ Below W0.heap.size W0 wr)
    case atStart => exact ⟨0, by omega, rfl, HN, Below.refl _ _⟩
    case round =>
      obtain ⟨k, hk, rfl, HK, hb⟩ := hrel
      obtain ⟨wo, Hwo⟩ : ∃ wo, wo = wr := ⟨_, rfl⟩
      subst Hwo
      have hbw : Below w.heap.size w wo := KBT hb0 hb
      have hzr := hb.size
      by_cases hlt : k < n
      · obtain ⟨p, Hp⟩ : ∃ p, Hid (l[k]? = some p) := ⟨l[k]'(by rw [← Hn.out]; exact hlt), List.getElem?_eq_getElem (by rw [← Hn.out]; exact hlt)⟩
        have hfp := hf p (List.mem_of_getElem? Hp.out)
        obtain ⟨b, off, rfl, hat⟩ := (h.below PrAt.stays hbw).get PrAt.plain Hp.out
        obtain ⟨vp, s0, hrp⟩ := hat
        obtain ⟨ap, np, cp, rfl, Hnp, hcp⟩ := hrp.shape
        have s0' : wo.cell? ⟨b, off + k, none⟩ = some (.slice ap np cp) := by simpa using s0
        have hki : (k : Int) < (n : Int) := by omega
        have HS := wrongQs_step (n := n) Hp.out
        obtain ⟨W1, HW1⟩ : ∃ W1, Hid (W1 = wo.alloc (.cells #[.int .i64 (k : Int)] 3)) := ⟨_, rfl⟩
        have hb1 : Below wo.heap.size wo W1 := by rw [HW1.out]; exact (Below.refl _ _).alloc (Nat.le_refl _) _
        have hz1 : wo.heap.size + 1 ≤ W1.heap.size := by rw [HW1.out]; simp
        have x1 : W1.heap[wo.heap.size]? = some (.cells #[.int .i64 (k : Int)] 3 (0, 0)) := by rw [HW1.out]; exact heap_alloc_new _ _
        have hB1 : Below W0.heap.size W0 W1 := KBT hb hb1
        have hbadc : ∀ V, Below W1.heap.size W1 V → ∀ e : Int, Calls Tryz.prog 22 #[.int .i64 e, .pointer (some ⟨wo.heap.size, 0, none⟩)] V fun r w' => r = .returned (.agg #[.int .i64 e, .int .i64 (k : Int)]) ∧ Below V.heap.size V w' := fun V hV e => rbad_any ((hV.block _ (by omega)).trans x1) e
        have hres : ∀ V, Below W1.heap.size W1 V → V.heap[w.heap.size]? = some (.cells #[.int .i64 0, .int .i64 0] 33 (0, 0)) := fun V hV => (hV.block _ (by omega)).trans ((hB1.block _ (by omega)).trans x0)
        clear s0
        by_cases h16 : 16 < np
        · have HQ : Hid (wrongQ p n = 5) := by show _ = _; unfold wrongQ; rw [if_pos (by rw [← Hnp.out]; exact h16)]
          have HK' : Hid (wrongP l = (5, k)) := by show _ = _; rw [HK.out, HS, HQ.out, if_pos (by decide)]
          have hi16 : (16 : Int) < (np : Int) := by omega
          have hbd := hbadc W1 (Below.refl _ _) 5
          clear HS
          go_wp2_with fail
          rw [← HW1.out]
          refine hbd.mono ?_
          rintro e w5 ⟨rfl, hb5⟩
          have x5 := hres w5 hb5
          obtain ⟨q0, q1⟩ := blk2 x5
          have f0 := fr_of_blk x5
          go_wp2_with fail
          refine bodyPost_ret (v := .agg #[.int .i64 5, .int .i64 (k : Int)]) (by simp [results, Tryz.results9, go_sem, *]) rfl ?_
          exact ⟨by rw [HK'.out], KB_set (KB_set (KBT (KBT hbw hb1) hb5) (Nat.le_refl _)) (Nat.le_refl _)⟩
        · have hi16 : ¬ (16 : Int) < (np : Int) := by omega
          obtain ⟨Q, HQ0⟩ : ∃ Q, Hid (wrongTs n p 0 = Q) := ⟨_, rfl⟩
          have HQ : Hid (wrongP l = if Q ≠ 0 then (Q, k) else wrongQs n (k + 1) (l.drop (k + 1))) := by
            show _ = _; rw [HK.out, HS]
            have e : wrongQ p n = Q := by unfold wrongQ; rw [if_neg (by rw [← Hnp.out]; exact h16), HQ0.out]
            rw [e]
          clear HS
          go_wp2_with fail
          rw [← HW1.out]
          go_loopg [28] np (fun m i wi => ∃ (j : Nat), j + m = np ∧ i = .int .i64 j ∧ Hid (wrongTs n (p.drop j) (prevT p j) = Q) ∧ Below W1.heap.size W1 wi)
          case atStart => exact ⟨0, by omega, rfl, HQ0, Below.refl _ _⟩
          case round =>
            obtain ⟨j, hj, rfl, HJ, hbj⟩ := hrel
            have hbwj : Below w.heap.size w wr := KBT (KBT hbw hb1) hbj
            have hzj := hbj.size
            by_cases hjlt : j < np
            · obtain ⟨s, Hs⟩ : ∃ s, Hid (p[j]? = some s) := ⟨p[j]'(by rw [← Hnp.out]; exact hjlt), List.getElem?_eq_getElem (by rw [← Hnp.out]; exact hjlt)⟩
              have hfs := hfp s (List.mem_of_getElem? Hs.out)
              have hrpj := hrp.below StAt.stays (KBT hb1 hbj)
              obtain ⟨bp, op, rfl, hat⟩ := hrpj.get StAt.plain Hs.out
              obtain ⟨s0, s1, s2, s3, s4⟩ := hat.at
              have hji : (j : Int) < (np : Int) := by omega
              obtain ⟨W2, HW2⟩ : ∃ W2, Hid (W2 = wr.alloc (.cells #[.int .i64 s.kind, .int .i64 s.number, .int .i64 s.how, .int .i64 s.field, .int .i64 s.next] 51)) := ⟨_, rfl⟩
              have hb2 : Below wr.heap.size wr W2 := by rw [HW2.out]; exact (Below.refl _ _).alloc (Nat.le_refl _) _
              have hz2 : wr.heap.size + 1 ≤ W2.heap.size := by rw [HW2.out]; simp
              have x2 : W2.heap[wr.heap.size]? = some (.cells #[.int .i64 s.kind, .int .i64 s.number, .int .i64 s.how, .int .i64 s.field, .int .i64 s.next] 51 (0, 0)) := by rw [HW2.out]; exact heap_alloc_new _ _
              have hB2 : Below W1.heap.size W1 W2 := KBT hbj hb2
              clear hat
              by_cases hk1 : s.kind < 1 ∨ 4 < s.kind ∨ s.field < 1 ∨ 10 < s.field
              · have HT : Hid (wrongT s (prevT p j) n = 1) := wrongT_1 hk1
                have HP : Hid (wrongP l = (1, k)) := by
                  have hq : Q = 1 := by rw [← HJ.out, wrongTs_step Hs.out, HT.out, if_pos (by decide)]
                  show _ = _; rw [HQ.out, hq, if_pos (by decide)]
                have hbd := hbadc W2 hB2 1
                by_cases c1 : s.kind < 1
                · clear hk1
                  go_wp2_with fail
                  rw [← HW2.out]
                  refine hbd.mono ?_
                  rintro e w5 ⟨rfl, hb5⟩
                  have hB5 := KBT hB2 hb5
                  have x5 := hres w5 hB5
                  obtain ⟨q0, q1⟩ := blk2 x5
                  have f0 := fr_of_blk x5
                  clear HT hbd hres hbadc
                  go_wp2_with fail
                  refine bodyPost_ret (v := .agg #[.int .i64 1, .int .i64 (k : Int)]) (by simp [results, Tryz.results9, go_sem, *]) rfl ?_
                  exact ⟨by rw [HP.out], KB_set (KB_set (KBT (KBT hbw hb1) hB5) (Nat.le_refl _)) (Nat.le_refl _)⟩
                · by_cases c2 : 4 < s.kind
                  · clear hk1
                    go_wp2_with fail
                    rw [← HW2.out]
                    refine hbd.mono ?_
                    rintro e w5 ⟨rfl, hb5⟩
                    have hB5 := KBT hB2 hb5
                    have x5 := hres w5 hB5
                    obtain ⟨q0, q1⟩ := blk2 x5
                    have f0 := fr_of_blk x5
                    clear HT hbd hres hbadc
                    go_wp2_with fail
                    refine bodyPost_ret (v := .agg #[.int .i64 1, .int .i64 (k : Int)]) (by simp [results, Tryz.results9, go_sem, *]) rfl ?_
                    exact ⟨by rw [HP.out], KB_set (KB_set (KBT (KBT hbw hb1) hB5) (Nat.le_refl _)) (Nat.le_refl _)⟩
                  · by_cases c3 : s.field < 1
                    · clear hk1
                      go_wp2_with fail
                      rw [← HW2.out]
                      refine hbd.mono ?_
                      rintro e w5 ⟨rfl, hb5⟩
                      have hB5 := KBT hB2 hb5
                      have x5 := hres w5 hB5
                      obtain ⟨q0, q1⟩ := blk2 x5
                      have f0 := fr_of_blk x5
                      clear HT hbd hres hbadc
                      go_wp2_with fail
                      refine bodyPost_ret (v := .agg #[.int .i64 1, .int .i64 (k : Int)]) (by simp [results, Tryz.results9, go_sem, *]) rfl ?_
                      exact ⟨by rw [HP.out], KB_set (KB_set (KBT (KBT hbw hb1) hB5) (Nat.le_refl _)) (Nat.le_refl _)⟩
                    · have c4 : 10 < s.field := by omega
                      clear hk1
                      go_wp2_with fail
                      rw [← HW2.out]
                      refine hbd.mono ?_
                      rintro e w5 ⟨rfl, hb5⟩
                      have hB5 := KBT hB2 hb5
                      have x5 := hres w5 hB5
                      obtain ⟨q0, q1⟩ := blk2 x5
                      have f0 := fr_of_blk x5
                      clear HT hbd hres hbadc
                      go_wp2_with fail
                      refine bodyPost_ret (v := .agg #[.int .i64 1, .int .i64 (k : Int)]) (by simp [results, Tryz.results9, go_sem, *]) rfl ?_
                      exact ⟨by rw [HP.out], KB_set (KB_set (KBT (KBT hbw hb1) hB5) (Nat.le_refl _)) (Nat.le_refl _)⟩
              · have c1 : ¬ s.kind < 1 := by omega
                have c2 : ¬ 4 < s.kind := by omega
                have c3 : ¬ s.field < 1 := by omega
                have c4 : ¬ 10 < s.field := by omega
                obtain ⟨t0, t1, t2, t3, t4⟩ := blk5 x2
                obtain ⟨A, HA⟩ : ∃ A, Hid (prevT p j = A) := ⟨_, rfl⟩
                have hprev : 0 < j → W2.cell? ⟨bp, op + (j - 1) * 5 + 1, none⟩ = some (.int .i64 A) := fun h0 => by
                  obtain ⟨i, rfl⟩ : ∃ i, j = i + 1 := ⟨j - 1, by omega⟩
                  obtain ⟨s', hs'⟩ : ∃ s', p[i]? = some s' := ⟨p[i]'(by rw [← Hnp.out]; omega), List.getElem?_eq_getElem (by rw [← Hnp.out]; omega)⟩
                  obtain ⟨_, _, e', hat'⟩ := (hrpj.below StAt.stays hb2).get StAt.plain hs'
                  cases e'
                  have := hat'.at.2.1
                  rw [← HA.out, prevT_succ hs']
                  exact this
                go_wp2_with fail
                rw [← HW2.out]
                go_cut [75] from 53 to 130 (fun c wc => ∃ q : Bool, c = .bool q ∧ Hid (q = decide (s.number < 1 ∨ 536870912 ≤ s.number ∨ s.number ≤ A)) ∧ Below W2.heap.size W2 wc)
                case first =>
                  clear HQ HJ HK hbadc hres hent hmf hf hfp
                  by_cases d1 : s.number < 1
                  · go_quiet (fail)
                    go_wp2_with fail
                    go_meet
                    exact ⟨_, rfl, (decide_eq_true (by omega)).symm, kB_drewN (Below.refl _ _) _⟩
                  · by_cases d2 : 536870912 ≤ s.number
                    · have d2' : 536870911 < s.number := by omega
                      go_quiet (fail)
                      go_wp2_with fail
                      go_meet
                      exact ⟨_, rfl, (decide_eq_true (by omega)).symm, kB_drewN (Below.refl _ _) _⟩
                    · have d2' : ¬ 536870911 < s.number := by omega
                      by_cases d3 : j = 0
                      · have hA0 : A = 0 := by rw [← HA.out, d3]; rfl
                        clear hprev HA
                        subst d3
                        go_quiet (fail)
                        go_wp2_with fail
                        go_meet
                        exact ⟨_, rfl, (decide_eq_false (by omega)).symm, kB_drewN (Below.refl _ _) _⟩
                      · have d4 : (0 : Int) < (j : Int) := by omega
                        have hp0 := hprev (by omega)
                        have hj1 : (j : Int) - 1 < (np : Int) := by omega
                        have hj0 : (0 : Int) ≤ (j : Int) - 1 := by omega
                        have hj2 : ((j : Int) - 1).toNat = j - 1 := by omega
                        have d6 : 0 < j := by omega
                        clear d3 hprev
                        by_cases d5 : s.number ≤ A
                        · go_quiet (fail)
                          go_wp2_with fail
                          go_meet
                          exact ⟨_, rfl, (decide_eq_true (by omega)).symm, kB_drewN (Below.refl _ _) _⟩
                        · go_quiet (fail)
                          go_wp2_with fail
                          go_meet
                          exact ⟨_, rfl, (decide_eq_false (by omega)).symm, kB_drewN (Below.refl _ _) _⟩
                case rest =>
                  obtain ⟨q, rfl, Hq3, hbc⟩ := hcut
                  obtain ⟨wA, HwA⟩ : ∃ wA, wA = wc := ⟨_, rfl⟩
                  subst HwA
                  have hBc : Below W1.heap.size W1 wA := KBT hB2 hbc
                  have hzc := hbc.size
                  have xc := (hbc.block _ (by omega)).trans x2
                  obtain ⟨g0, g1, g2, g3, g4⟩ := blk5 xc
                  cases q with
                  | true =>
                      have HT : Hid (wrongT s (prevT p j) n = 3) := by show _ = _; rw [HA.out]; exact wrongT_3 hk1 (of_decide_eq_true Hq3.out.symm)
                      have HP : Hid (wrongP l = (3, k)) := by
                        have hq : Q = 3 := by rw [← HJ.out, wrongTs_step Hs.out, HT.out, if_pos (by decide)]
                        show _ = _; rw [HQ.out, hq, if_pos (by decide)]
                      have hbd := hbadc wA hBc 3
                      go_wp2_with fail
                      refine hbd.mono ?_
                      rintro e w5 ⟨rfl, hb5⟩
                      have hB5 := KBT hBc hb5
                      have x5 := hres w5 hB5
                      obtain ⟨q0, q1⟩ := blk2 x5
                      have f0 := fr_of_blk x5
                      clear HT hbd hres hbadc
                      go_wp2_with fail
                      refine bodyPost_ret (v := .agg #[.int .i64 3, .int .i64 (k : Int)]) (by simp [results, Tryz.results9, go_sem, *]) rfl ?_
                      exact ⟨by rw [HP.out], KB_set (KB_set (KBT (KBT hbw hb1) hB5) (Nat.le_refl _)) (Nat.le_refl _)⟩
                  | false =>
                    have h3 := of_decide_eq_false Hq3.out.symm
                    have hhd := rhow_any s.field wA.drew hfs
                    obtain ⟨y, Hy⟩ : ∃ y, Hid (howN s.field = y) := ⟨_, rfl⟩
                    rw [Hy.out] at hhd
                    have rhow_y : ∀ W, Calls Tryz.prog 19 #[.int .i64 s.field] W fun e w' => e = .returned (.int .i64 y) ∧ Below W.heap.size W w' := fun W => by have := rhow_any s.field W hfs; rw [Hy.out] at this; exact this
                    have HM : Hid (misN s = ((s.how != y) || ((((s.kind == 3) || (s.kind == 4)) != (s.how == 2)) || ((s.kind == 4) != (s.field == 10))))) := by show _ = _; rw [mis_bool, Hy.out]
                    have hcl : ∀ V, Below wA.heap.size wA V → Below wA.heap.size wA V ∧ (V.cell? ⟨wr.heap.size, 0, none⟩ = some (.int .i64 s.kind) ∧ V.cell? ⟨wr.heap.size, 1, none⟩ = some (.int .i64 s.number) ∧ V.cell? ⟨wr.heap.size, 2, none⟩ = some (.int .i64 s.how) ∧ V.cell? ⟨wr.heap.size, 3, none⟩ = some (.int .i64 s.field) ∧ V.cell? ⟨wr.heap.size, 4, none⟩ = some (.int .i64 s.next)) := fun V hV => ⟨hV, blk5 ((hV.block _ (by omega)).trans xc)⟩
                    have hd : Below wA.heap.size wA wA.drew := (Below.refl _ _).drew
                    go_upto_region 16 with fail
                    go_cut [8] from 78 to 130 (fun s8 wd => ∃ z : Bool, s8 = .bool z ∧ Hid (z = ((s.kind == 3) || (s.kind == 4))) ∧ wA = wd)
                    case first =>
                      obtain ⟨q3, hq3⟩ : ∃ q, (s.kind == 3) = q := ⟨_, rfl⟩
                      obtain ⟨q4, hq4⟩ : ∃ q, (s.kind == 4) = q := ⟨_, rfl⟩
                      clear HM
                      cases q3
                      · cases q4
                        all_goals
                          go_wp2_with fail
                          go_meet
                          exact ⟨_, rfl, by show _ = _; rw [hq3, hq4]; rfl, rfl⟩
                      · go_wp2_with fail
                        go_meet
                        exact ⟨_, rfl, by show _ = _; rw [hq3]; rfl, rfl⟩
                    case rest =>
                      obtain ⟨z, rfl, Hz, rfl⟩ := hcut
                      go_upto_region 17 with fail
                      go_cut [107] from 86 to 130 (fun c wd => ∃ q : Bool, c = .bool q ∧ Hid (q = misN s) ∧ Below wA.heap.size wA wd)
                      case first =>
                        clear HQ HJ HK hbadc hres hent hmf hf hfp HA hprev h3
                        obtain ⟨q3, hq3⟩ : ∃ q, (s.kind == 3) = q := ⟨_, rfl⟩
                        obtain ⟨q4, hq4⟩ : ∃ q, (s.kind == 4) = q := ⟨_, rfl⟩
                        obtain ⟨q2, hq2⟩ : ∃ q, (s.how == 2) = q := ⟨_, rfl⟩
                        obtain ⟨q1, hq1⟩ : ∃ q, (s.field == 10) = q := ⟨_, rfl⟩
                        obtain ⟨q0, hq0⟩ : ∃ q, (s.how != y) = q := ⟨_, rfl⟩
                        have HM : Hid (misN s = (q0 || (((q3 || q4) != q2) || (q4 != q1)))) := by show _ = _; rw [HM.out, hq3, hq4, hq2, hq1, hq0]
                        rw [hq3, hq4] at Hz
                        cases q3
                        · cases q4
                          · cases q0
                            · cases q2
                              · have Hz := Hz.out
                                subst Hz
                                go_upto_region 17 with fail
                                refine region_cls (C := fun V => Below wA.heap.size wA V ∧ (V.cell? ⟨wr.heap.size, 0, none⟩ = some (.int .i64 s.kind) ∧ V.cell? ⟨wr.heap.size, 1, none⟩ = some (.int .i64 s.number) ∧ V.cell? ⟨wr.heap.size, 2, none⟩ = some (.int .i64 s.how) ∧ V.cell? ⟨wr.heap.size, 3, none⟩ = some (.int .i64 s.field) ∧ V.cell? ⟨wr.heap.size, 4, none⟩ = some (.int .i64 s.next))) (by kernel_rfl) (by kernel_rfl) (hcl _ hd) ?_
                                refine cls_val (.pointer (some ⟨wr.heap.size, 2, none⟩)) rfl (fun w hw => by simp [go_sem]) ?_
                                simp only [Act.put, List.setIfInBounds_toArray, List.set_cons_zero, List.set_cons_succ]
                                refine cls_val (.int .i64 s.how) rfl (fun w hw => by obtain ⟨_, c0, c1, c2, c3, c4⟩ := hw; simp [go_sem, c2]) ?_
                                simp only [Act.put, List.setIfInBounds_toArray, List.set_cons_zero, List.set_cons_succ]
                                refine cls_val (.pointer (some ⟨wr.heap.size, 3, none⟩)) rfl (fun w hw => by simp [go_sem]) ?_
                                simp only [Act.put, List.setIfInBounds_toArray, List.set_cons_zero, List.set_cons_succ]
                                refine cls_val (.int .i64 s.field) rfl (fun w hw => by obtain ⟨_, c0, c1, c2, c3, c4⟩ := hw; simp [go_sem, c3]) ?_
                                simp only [Act.put, List.setIfInBounds_toArray, List.set_cons_zero, List.set_cons_succ]
                                refine cls_call (.int .i64 y) rfl (fun w hw => by simp [go_sem]) (fun w hw => (rhow_y w).mono fun e w' ⟨he, hb'⟩ => ⟨he, hcl _ (KBT hw.1 hb')⟩) ?_
                                simp only [Act.put, List.setIfInBounds_toArray, List.set_cons_zero, List.set_cons_succ]
                                refine cls_val (.bool false) rfl (fun w hw => by simp [go_sem, hq0]) ?_
                                simp only [Act.put, List.setIfInBounds_toArray, List.set_cons_zero, List.set_cons_succ]
                                refine cls_val (.bool false) rfl (fun w hw => by simp [go_sem]) ?_
                                simp only [Act.put, List.setIfInBounds_toArray, List.set_cons_zero, List.set_cons_succ]
                                refine cls_val (.bool false) rfl (fun w hw => by simp [go_sem]) ?_
                                simp only [Act.put, List.setIfInBounds_toArray, List.set_cons_zero, List.set_cons_succ]
                                refine cls_val (.pointer (some ⟨wr.heap.size, 2, none⟩)) rfl (fun w hw => by simp [go_sem]) ?_
                                simp only [Act.put, List.setIfInBounds_toArray, List.set_cons_zero, List.set_cons_succ]
                                refine cls_val (.int .i64 s.how) rfl (fun w hw => by obtain ⟨_, c0, c1, c2, c3, c4⟩ := hw; simp [go_sem, c2]) ?_
                                simp only [Act.put, List.setIfInBounds_toArray, List.set_cons_zero, List.set_cons_succ]
                                refine cls_val (.bool false) rfl (fun w hw => by simp [go_sem, hq2]) ?_
                                simp only [Act.put, List.setIfInBounds_toArray, List.set_cons_zero, List.set_cons_succ]
                                refine cls_val (.bool false) rfl (fun w hw => by simp [go_sem]) ?_
                                simp only [Act.put, List.setIfInBounds_toArray, List.set_cons_zero, List.set_cons_succ]
                                refine cls_val (.bool false) rfl (fun w hw => by simp [go_sem]) ?_
                                simp only [Act.put, List.setIfInBounds_toArray, List.set_cons_zero, List.set_cons_succ]
                                refine cls_val (.bool false) rfl (fun w hw => by simp [go_sem]) ?_
                                simp only [Act.put, List.setIfInBounds_toArray, List.set_cons_zero, List.set_cons_succ]
                                refine cls_val (.pointer (some ⟨wr.heap.size, 0, none⟩)) rfl (fun w hw => by simp [go_sem]) ?_
                                simp only [Act.put, List.setIfInBounds_toArray, List.set_cons_zero, List.set_cons_succ]
                                refine cls_val (.int .i64 s.kind) rfl (fun w hw => by obtain ⟨_, c0, c1, c2, c3, c4⟩ := hw; simp [go_sem, c0]) ?_
                                simp only [Act.put, List.setIfInBounds_toArray, List.set_cons_zero, List.set_cons_succ]
                                refine cls_val (.bool false) rfl (fun w hw => by simp [go_sem, hq4]) ?_
                                simp only [Act.put, List.setIfInBounds_toArray, List.set_cons_zero, List.set_cons_succ]
                                refine cls_val (.pointer (some ⟨wr.heap.size, 3, none⟩)) rfl (fun w hw => by simp [go_sem]) ?_
                                simp only [Act.put, List.setIfInBounds_toArray, List.set_cons_zero, List.set_cons_succ]
                                refine cls_val (.int .i64 s.field) rfl (fun w hw => by obtain ⟨_, c0, c1, c2, c3, c4⟩ := hw; simp [go_sem, c3]) ?_
                                simp only [Act.put, List.setIfInBounds_toArray, List.set_cons_zero, List.set_cons_succ]
                                refine cls_val (.bool q1) rfl (fun w hw => by simp [go_sem, hq1]) ?_
                                simp only [Act.put, List.setIfInBounds_toArray, List.set_cons_zero, List.set_cons_succ]
                                refine cls_val (.bool (false != q1)) rfl (fun w hw => by simp [go_sem]) ?_
                                simp only [Act.put, List.setIfInBounds_toArray, List.set_cons_zero, List.set_cons_succ]
                                refine cls_val (.bool (false != q1)) rfl (fun w hw => by simp [go_sem]) ?_
                                simp only [Act.put, List.setIfInBounds_toArray, List.set_cons_zero, List.set_cons_succ]
                                refine wpQuiet_nil ?_
                                intro w3 hw3
                                go_wp2_with fail
                                go_meet
                                exact ⟨_, rfl, by show _ = _; rw [HM.out]; cases q1 <;> rfl, hw3.1⟩
                              · have Hz := Hz.out
                                subst Hz
                                go_upto_region 17 with fail
                                refine region_cls (C := fun V => Below wA.heap.size wA V ∧ (V.cell? ⟨wr.heap.size, 0, none⟩ = some (.int .i64 s.kind) ∧ V.cell? ⟨wr.heap.size, 1, none⟩ = some (.int .i64 s.number) ∧ V.cell? ⟨wr.heap.size, 2, none⟩ = some (.int .i64 s.how) ∧ V.cell? ⟨wr.heap.size, 3, none⟩ = some (.int .i64 s.field) ∧ V.cell? ⟨wr.heap.size, 4, none⟩ = some (.int .i64 s.next))) (by kernel_rfl) (by kernel_rfl) (hcl _ hd) ?_
                                refine cls_val (.pointer (some ⟨wr.heap.size, 2, none⟩)) rfl (fun w hw => by simp [go_sem]) ?_
                                simp only [Act.put, List.setIfInBounds_toArray, List.set_cons_zero, List.set_cons_succ]
                                refine cls_val (.int .i64 s.how) rfl (fun w hw => by obtain ⟨_, c0, c1, c2, c3, c4⟩ := hw; simp [go_sem, c2]) ?_
                                simp only [Act.put, List.setIfInBounds_toArray, List.set_cons_zero, List.set_cons_succ]
                                refine cls_val (.pointer (some ⟨wr.heap.size, 3, none⟩)) rfl (fun w hw => by simp [go_sem]) ?_
                                simp only [Act.put, List.setIfInBounds_toArray, List.set_cons_zero, List.set_cons_succ]
                                refine cls_val (.int .i64 s.field) rfl (fun w hw => by obtain ⟨_, c0, c1, c2, c3, c4⟩ := hw; simp [go_sem, c3]) ?_
                                simp only [Act.put, List.setIfInBounds_toArray, List.set_cons_zero, List.set_cons_succ]
                                refine cls_call (.int .i64 y) rfl (fun w hw => by simp [go_sem]) (fun w hw => (rhow_y w).mono fun e w' ⟨he, hb'⟩ => ⟨he, hcl _ (KBT hw.1 hb')⟩) ?_
                                simp only [Act.put, List.setIfInBounds_toArray, List.set_cons_zero, List.set_cons_succ]
                                refine cls_val (.bool false) rfl (fun w hw => by simp [go_sem, hq0]) ?_
                                simp only [Act.put, List.setIfInBounds_toArray, List.set_cons_zero, List.set_cons_succ]
                                refine cls_val (.bool false) rfl (fun w hw => by simp [go_sem]) ?_
                                simp only [Act.put, List.setIfInBounds_toArray, List.set_cons_zero, List.set_cons_succ]
                                refine cls_val (.bool false) rfl (fun w hw => by simp [go_sem]) ?_
                                simp only [Act.put, List.setIfInBounds_toArray, List.set_cons_zero, List.set_cons_succ]
                                refine cls_val (.pointer (some ⟨wr.heap.size, 2, none⟩)) rfl (fun w hw => by simp [go_sem]) ?_
                                simp only [Act.put, List.setIfInBounds_toArray, List.set_cons_zero, List.set_cons_succ]
                                refine cls_val (.int .i64 s.how) rfl (fun w hw => by obtain ⟨_, c0, c1, c2, c3, c4⟩ := hw; simp [go_sem, c2]) ?_
                                simp only [Act.put, List.setIfInBounds_toArray, List.set_cons_zero, List.set_cons_succ]
                                refine cls_val (.bool true) rfl (fun w hw => by simp [go_sem, hq2]) ?_
                                simp only [Act.put, List.setIfInBounds_toArray, List.set_cons_zero, List.set_cons_succ]
                                refine cls_val (.bool true) rfl (fun w hw => by simp [go_sem]) ?_
                                simp only [Act.put, List.setIfInBounds_toArray, List.set_cons_zero, List.set_cons_succ]
                                refine cls_val (.bool true) rfl (fun w hw => by simp [go_sem]) ?_
                                simp only [Act.put, List.setIfInBounds_toArray, List.set_cons_zero, List.set_cons_succ]
                                refine cls_val (.bool true) rfl (fun w hw => by simp [go_sem]) ?_
                                simp only [Act.put, List.setIfInBounds_toArray, List.set_cons_zero, List.set_cons_succ]
                                go_big_quiet_skip
                                go_big_quiet_skip
                                go_big_quiet_skip
                                go_big_quiet_skip
                                go_big_quiet_skip
                                go_big_quiet_skip
                                go_big_quiet_skip
                                refine cls_val (.bool true) rfl (fun w hw => by simp [go_sem]) ?_
                                simp only [Act.put, List.setIfInBounds_toArray, List.set_cons_zero, List.set_cons_succ]
                                refine wpQuiet_nil ?_
                                intro w3 hw3
                                go_wp2_with fail
                                go_meet
                                exact ⟨_, rfl, by show _ = _; rw [HM.out]; cases q1 <;> rfl, hw3.1⟩
                            · have Hz := Hz.out
                              subst Hz
                              go_upto_region 17 with fail
                              refine region_cls (C := fun V => Below wA.heap.size wA V ∧ (V.cell? ⟨wr.heap.size, 0, none⟩ = some (.int .i64 s.kind) ∧ V.cell? ⟨wr.heap.size, 1, none⟩ = some (.int .i64 s.number) ∧ V.cell? ⟨wr.heap.size, 2, none⟩ = some (.int .i64 s.how) ∧ V.cell? ⟨wr.heap.size, 3, none⟩ = some (.int .i64 s.field) ∧ V.cell? ⟨wr.heap.size, 4, none⟩ = some (.int .i64 s.next))) (by kernel_rfl) (by kernel_rfl) (hcl _ hd) ?_
                              refine cls_val (.pointer (some ⟨wr.heap.size, 2, none⟩)) rfl (fun w hw => by simp [go_sem]) ?_
                              simp only [Act.put, List.setIfInBounds_toArray, List.set_cons_zero, List.set_cons_succ]
                              refine cls_val (.int .i64 s.how) rfl (fun w hw => by obtain ⟨_, c0, c1, c2, c3, c4⟩ := hw; simp [go_sem, c2]) ?_
                              simp only [Act.put, List.setIfInBounds_toArray, List.set_cons_zero, List.set_cons_succ]
                              refine cls_val (.pointer (some ⟨wr.heap.size, 3, none⟩)) rfl (fun w hw => by simp [go_sem]) ?_
                              simp only [Act.put, List.setIfInBounds_toArray, List.set_cons_zero, List.set_cons_succ]
                              refine cls_val (.int .i64 s.field) rfl (fun w hw => by obtain ⟨_, c0, c1, c2, c3, c4⟩ := hw; simp [go_sem, c3]) ?_
                              simp only [Act.put, List.setIfInBounds_toArray, List.set_cons_zero, List.set_cons_succ]
                              refine cls_call (.int .i64 y) rfl (fun w hw => by simp [go_sem]) (fun w hw => (rhow_y w).mono fun e w' ⟨he, hb'⟩ => ⟨he, hcl _ (KBT hw.1 hb')⟩) ?_
                              simp only [Act.put, List.setIfInBounds_toArray, List.set_cons_zero, List.set_cons_succ]
                              refine cls_val (.bool true) rfl (fun w hw => by simp [go_sem, hq0]) ?_
                              simp only [Act.put, List.setIfInBounds_toArray, List.set_cons_zero, List.set_cons_succ]
                              refine cls_val (.bool true) rfl (fun w hw => by simp [go_sem]) ?_
                              simp only [Act.put, List.setIfInBounds_toArray, List.set_cons_zero, List.set_cons_succ]
                              go_big_quiet_skip
                              go_big_quiet_skip
                              go_big_quiet_skip
                              go_big_quiet_skip
                              go_big_quiet_skip
                              refine cls_val (.bool true) rfl (fun w hw => by simp [go_sem]) ?_
                              simp only [Act.put, List.setIfInBounds_toArray, List.set_cons_zero, List.set_cons_succ]
                              refine cls_val (.bool true) rfl (fun w hw => by simp [go_sem]) ?_
                              simp only [Act.put, List.setIfInBounds_toArray, List.set_cons_zero, List.set_cons_succ]
                              go_big_quiet_skip
                              go_big_quiet_skip
                              go_big_quiet_skip
                              go_big_quiet_skip
                              go_big_quiet_skip
                              go_big_quiet_skip
                              go_big_quiet_skip
                              refine cls_val (.bool true) rfl (fun w hw => by simp [go_sem]) ?_
                              simp only [Act.put, List.setIfInBounds_toArray, List.set_cons_zero, List.set_cons_succ]
                              refine wpQuiet_nil ?_
                              intro w3 hw3
                              go_wp2_with fail
                              go_meet
                              exact ⟨_, rfl, by show _ = _; rw [HM.out]; cases q1 <;> rfl, hw3.1⟩
                          · cases q0
                            · cases q2
                              · have Hz := Hz.out
                                subst Hz
                                go_upto_region 17 with fail
                                refine region_cls (C := fun V => Below wA.heap.size wA V ∧ (V.cell? ⟨wr.heap.size, 0, none⟩ = some (.int .i64 s.kind) ∧ V.cell? ⟨wr.heap.size, 1, none⟩ = some (.int .i64 s.number) ∧ V.cell? ⟨wr.heap.size, 2, none⟩ = some (.int .i64 s.how) ∧ V.cell? ⟨wr.heap.size, 3, none⟩ = some (.int .i64 s.field) ∧ V.cell? ⟨wr.heap.size, 4, none⟩ = some (.int .i64 s.next))) (by kernel_rfl) (by kernel_rfl) (hcl _ hd) ?_
                                refine cls_val (.pointer (some ⟨wr.heap.size, 2, none⟩)) rfl (fun w hw => by simp [go_sem]) ?_
                                simp only [Act.put, List.setIfInBounds_toArray, List.set_cons_zero, List.set_cons_succ]
                                refine cls_val (.int .i64 s.how) rfl (fun w hw => by obtain ⟨_, c0, c1, c2, c3, c4⟩ := hw; simp [go_sem, c2]) ?_
                                simp only [Act.put, List.setIfInBounds_toArray, List.set_cons_zero, List.set_cons_succ]
                                refine cls_val (.pointer (some ⟨wr.heap.size, 3, none⟩)) rfl (fun w hw => by simp [go_sem]) ?_
                                simp only [Act.put, List.setIfInBounds_toArray, List.set_cons_zero, List.set_cons_succ]
                                refine cls_val (.int .i64 s.field) rfl (fun w hw => by obtain ⟨_, c0, c1, c2, c3, c4⟩ := hw; simp [go_sem, c3]) ?_
                                simp only [Act.put, List.setIfInBounds_toArray, List.set_cons_zero, List.set_cons_succ]
                                refine cls_call (.int .i64 y) rfl (fun w hw => by simp [go_sem]) (fun w hw => (rhow_y w).mono fun e w' ⟨he, hb'⟩ => ⟨he, hcl _ (KBT hw.1 hb')⟩) ?_
                                simp only [Act.put, List.setIfInBounds_toArray, List.set_cons_zero, List.set_cons_succ]
                                refine cls_val (.bool false) rfl (fun w hw => by simp [go_sem, hq0]) ?_
                                simp only [Act.put, List.setIfInBounds_toArray, List.set_cons_zero, List.set_cons_succ]
                                refine cls_val (.bool false) rfl (fun w hw => by simp [go_sem]) ?_
                                simp only [Act.put, List.setIfInBounds_toArray, List.set_cons_zero, List.set_cons_succ]
                                refine cls_val (.bool true) rfl (fun w hw => by simp [go_sem]) ?_
                                simp only [Act.put, List.setIfInBounds_toArray, List.set_cons_zero, List.set_cons_succ]
                                refine cls_val (.pointer (some ⟨wr.heap.size, 2, none⟩)) rfl (fun w hw => by simp [go_sem]) ?_
                                simp only [Act.put, List.setIfInBounds_toArray, List.set_cons_zero, List.set_cons_succ]
                                refine cls_val (.int .i64 s.how) rfl (fun w hw => by obtain ⟨_, c0, c1, c2, c3, c4⟩ := hw; simp [go_sem, c2]) ?_
                                simp only [Act.put, List.setIfInBounds_toArray, List.set_cons_zero, List.set_cons_succ]
                                refine cls_val (.bool false) rfl (fun w hw => by simp [go_sem, hq2]) ?_
                                simp only [Act.put, List.setIfInBounds_toArray, List.set_cons_zero, List.set_cons_succ]
                                refine cls_val (.bool true) rfl (fun w hw => by simp [go_sem]) ?_
                                simp only [Act.put, List.setIfInBounds_toArray, List.set_cons_zero, List.set_cons_succ]
                                refine cls_val (.bool true) rfl (fun w hw => by simp [go_sem]) ?_
                                simp only [Act.put, List.setIfInBounds_toArray, List.set_cons_zero, List.set_cons_succ]
                                refine cls_val (.bool true) rfl (fun w hw => by simp [go_sem]) ?_
                                simp only [Act.put, List.setIfInBounds_toArray, List.set_cons_zero, List.set_cons_succ]
                                go_big_quiet_skip
                                go_big_quiet_skip
                                go_big_quiet_skip
                                go_big_quiet_skip
                                go_big_quiet_skip
                                go_big_quiet_skip
                                go_big_quiet_skip
                                refine cls_val (.bool true) rfl (fun w hw => by simp [go_sem]) ?_
                                simp only [Act.put, List.setIfInBounds_toArray, List.set_cons_zero, List.set_cons_succ]
                                refine wpQuiet_nil ?_
                                intro w3 hw3
                                go_wp2_with fail
                                go_meet
                                exact ⟨_, rfl, by show _ = _; rw [HM.out]; cases q1 <;> rfl, hw3.1⟩
                              · have Hz := Hz.out
                                subst Hz
                                go_upto_region 17 with fail
                                refine region_cls (C := fun V => Below wA.heap.size wA V ∧ (V.cell? ⟨wr.heap.size, 0, none⟩ = some (.int .i64 s.kind) ∧ V.cell? ⟨wr.heap.size, 1, none⟩ = some (.int .i64 s.number) ∧ V.cell? ⟨wr.heap.size, 2, none⟩ = some (.int .i64 s.how) ∧ V.cell? ⟨wr.heap.size, 3, none⟩ = some (.int .i64 s.field) ∧ V.cell? ⟨wr.heap.size, 4, none⟩ = some (.int .i64 s.next))) (by kernel_rfl) (by kernel_rfl) (hcl _ hd) ?_
                                refine cls_val (.pointer (some ⟨wr.heap.size, 2, none⟩)) rfl (fun w hw => by simp [go_sem]) ?_
                                simp only [Act.put, List.setIfInBounds_toArray, List.set_cons_zero, List.set_cons_succ]
                                refine cls_val (.int .i64 s.how) rfl (fun w hw => by obtain ⟨_, c0, c1, c2, c3, c4⟩ := hw; simp [go_sem, c2]) ?_
                                simp only [Act.put, List.setIfInBounds_toArray, List.set_cons_zero, List.set_cons_succ]
                                refine cls_val (.pointer (some ⟨wr.heap.size, 3, none⟩)) rfl (fun w hw => by simp [go_sem]) ?_
                                simp only [Act.put, List.setIfInBounds_toArray, List.set_cons_zero, List.set_cons_succ]
                                refine cls_val (.int .i64 s.field) rfl (fun w hw => by obtain ⟨_, c0, c1, c2, c3, c4⟩ := hw; simp [go_sem, c3]) ?_
                                simp only [Act.put, List.setIfInBounds_toArray, List.set_cons_zero, List.set_cons_succ]
                                refine cls_call (.int .i64 y) rfl (fun w hw => by simp [go_sem]) (fun w hw => (rhow_y w).mono fun e w' ⟨he, hb'⟩ => ⟨he, hcl _ (KBT hw.1 hb')⟩) ?_
                                simp only [Act.put, List.setIfInBounds_toArray, List.set_cons_zero, List.set_cons_succ]
                                refine cls_val (.bool false) rfl (fun w hw => by simp [go_sem, hq0]) ?_
                                simp only [Act.put, List.setIfInBounds_toArray, List.set_cons_zero, List.set_cons_succ]
                                refine cls_val (.bool false) rfl (fun w hw => by simp [go_sem]) ?_
                                simp only [Act.put, List.setIfInBounds_toArray, List.set_cons_zero, List.set_cons_succ]
                                refine cls_val (.bool true) rfl (fun w hw => by simp [go_sem]) ?_
                                simp only [Act.put, List.setIfInBounds_toArray, List.set_cons_zero, List.set_cons_succ]
                                refine cls_val (.pointer (some ⟨wr.heap.size, 2, none⟩)) rfl (fun w hw => by simp [go_sem]) ?_
                                simp only [Act.put, List.setIfInBounds_toArray, List.set_cons_zero, List.set_cons_succ]
                                refine cls_val (.int .i64 s.how) rfl (fun w hw => by obtain ⟨_, c0, c1, c2, c3, c4⟩ := hw; simp [go_sem, c2]) ?_
                                simp only [Act.put, List.setIfInBounds_toArray, List.set_cons_zero, List.set_cons_succ]
                                refine cls_val (.bool true) rfl (fun w hw => by simp [go_sem, hq2]) ?_
                                simp only [Act.put, List.setIfInBounds_toArray, List.set_cons_zero, List.set_cons_succ]
                                refine cls_val (.bool false) rfl (fun w hw => by simp [go_sem]) ?_
                                simp only [Act.put, List.setIfInBounds_toArray, List.set_cons_zero, List.set_cons_succ]
                                refine cls_val (.bool false) rfl (fun w hw => by simp [go_sem]) ?_
                                simp only [Act.put, List.setIfInBounds_toArray, List.set_cons_zero, List.set_cons_succ]
                                refine cls_val (.bool false) rfl (fun w hw => by simp [go_sem]) ?_
                                simp only [Act.put, List.setIfInBounds_toArray, List.set_cons_zero, List.set_cons_succ]
                                refine cls_val (.pointer (some ⟨wr.heap.size, 0, none⟩)) rfl (fun w hw => by simp [go_sem]) ?_
                                simp only [Act.put, List.setIfInBounds_toArray, List.set_cons_zero, List.set_cons_succ]
                                refine cls_val (.int .i64 s.kind) rfl (fun w hw => by obtain ⟨_, c0, c1, c2, c3, c4⟩ := hw; simp [go_sem, c0]) ?_
                                simp only [Act.put, List.setIfInBounds_toArray, List.set_cons_zero, List.set_cons_succ]
                                refine cls_val (.bool true) rfl (fun w hw => by simp [go_sem, hq4]) ?_
                                simp only [Act.put, List.setIfInBounds_toArray, List.set_cons_zero, List.set_cons_succ]
                                refine cls_val (.pointer (some ⟨wr.heap.size, 3, none⟩)) rfl (fun w hw => by simp [go_sem]) ?_
                                simp only [Act.put, List.setIfInBounds_toArray, List.set_cons_zero, List.set_cons_succ]
                                refine cls_val (.int .i64 s.field) rfl (fun w hw => by obtain ⟨_, c0, c1, c2, c3, c4⟩ := hw; simp [go_sem, c3]) ?_
                                simp only [Act.put, List.setIfInBounds_toArray, List.set_cons_zero, List.set_cons_succ]
                                refine cls_val (.bool q1) rfl (fun w hw => by simp [go_sem, hq1]) ?_
                                simp only [Act.put, List.setIfInBounds_toArray, List.set_cons_zero, List.set_cons_succ]
                                refine cls_val (.bool (true != q1)) rfl (fun w hw => by simp [go_sem]) ?_
                                simp only [Act.put, List.setIfInBounds_toArray, List.set_cons_zero, List.set_cons_succ]
                                refine cls_val (.bool (true != q1)) rfl (fun w hw => by simp [go_sem]) ?_
                                simp only [Act.put, List.setIfInBounds_toArray, List.set_cons_zero, List.set_cons_succ]
                                refine wpQuiet_nil ?_
                                intro w3 hw3
                                go_wp2_with fail
                                go_meet
                                exact ⟨_, rfl, by show _ = _; rw [HM.out]; cases q1 <;> rfl, hw3.1⟩
                            · have Hz := Hz.out
                              subst Hz
                              go_upto_region 17 with fail
                              refine region_cls (C := fun V => Below wA.heap.size wA V ∧ (V.cell? ⟨wr.heap.size, 0, none⟩ = some (.int .i64 s.kind) ∧ V.cell? ⟨wr.heap.size, 1, none⟩ = some (.int .i64 s.number) ∧ V.cell? ⟨wr.heap.size, 2, none⟩ = some (.int .i64 s.how) ∧ V.cell? ⟨wr.heap.size, 3, none⟩ = some (.int .i64 s.field) ∧ V.cell? ⟨wr.heap.size, 4, none⟩ = some (.int .i64 s.next))) (by kernel_rfl) (by kernel_rfl) (hcl _ hd) ?_
                              refine cls_val (.pointer (some ⟨wr.heap.size, 2, none⟩)) rfl (fun w hw => by simp [go_sem]) ?_
                              simp only [Act.put, List.setIfInBounds_toArray, List.set_cons_zero, List.set_cons_succ]
                              refine cls_val (.int .i64 s.how) rfl (fun w hw => by obtain ⟨_, c0, c1, c2, c3, c4⟩ := hw; simp [go_sem, c2]) ?_
                              simp only [Act.put, List.setIfInBounds_toArray, List.set_cons_zero, List.set_cons_succ]
                              refine cls_val (.pointer (some ⟨wr.heap.size, 3, none⟩)) rfl (fun w hw => by simp [go_sem]) ?_
                              simp only [Act.put, List.setIfInBounds_toArray, List.set_cons_zero, List.set_cons_succ]
                              refine cls_val (.int .i64 s.field) rfl (fun w hw => by obtain ⟨_, c0, c1, c2, c3, c4⟩ := hw; simp [go_sem, c3]) ?_
                              simp only [Act.put, List.setIfInBounds_toArray, List.set_cons_zero, List.set_cons_succ]
                              refine cls_call (.int .i64 y) rfl (fun w hw => by simp [go_sem]) (fun w hw => (rhow_y w).mono fun e w' ⟨he, hb'⟩ => ⟨he, hcl _ (KBT hw.1 hb')⟩) ?_
                              simp only [Act.put, List.setIfInBounds_toArray, List.set_cons_zero, List.set_cons_succ]
                              refine cls_val (.bool true) rfl (fun w hw => by simp [go_sem, hq0]) ?_
                              simp only [Act.put, List.setIfInBounds_toArray, List.set_cons_zero, List.set_cons_succ]
                              refine cls_val (.bool true) rfl (fun w hw => by simp [go_sem]) ?_
                              simp only [Act.put, List.setIfInBounds_toArray, List.set_cons_zero, List.set_cons_succ]
                              go_big_quiet_skip
                              go_big_quiet_skip
                              go_big_quiet_skip
                              go_big_quiet_skip
                              go_big_quiet_skip
                              refine cls_val (.bool true) rfl (fun w hw => by simp [go_sem]) ?_
                              simp only [Act.put, List.setIfInBounds_toArray, List.set_cons_zero, List.set_cons_succ]
                              refine cls_val (.bool true) rfl (fun w hw => by simp [go_sem]) ?_
                              simp only [Act.put, List.setIfInBounds_toArray, List.set_cons_zero, List.set_cons_succ]
                              go_big_quiet_skip
                              go_big_quiet_skip
                              go_big_quiet_skip
                              go_big_quiet_skip
                              go_big_quiet_skip
                              go_big_quiet_skip
                              go_big_quiet_skip
                              refine cls_val (.bool true) rfl (fun w hw => by simp [go_sem]) ?_
                              simp only [Act.put, List.setIfInBounds_toArray, List.set_cons_zero, List.set_cons_succ]
                              refine wpQuiet_nil ?_
                              intro w3 hw3
                              go_wp2_with fail
                              go_meet
                              exact ⟨_, rfl, by show _ = _; rw [HM.out]; cases q1 <;> rfl, hw3.1⟩
                        · have h4 : (s.kind == 4) = false := by have := eq_of_beq hq3; simp; omega
                          rw [h4] at hq4
                          subst hq4
                          have hq4 := h4
                          cases q0
                          · cases q2
                            · have Hz := Hz.out
                              subst Hz
                              go_upto_region 17 with fail
                              refine region_cls (C := fun V => Below wA.heap.size wA V ∧ (V.cell? ⟨wr.heap.size, 0, none⟩ = some (.int .i64 s.kind) ∧ V.cell? ⟨wr.heap.size, 1, none⟩ = some (.int .i64 s.number) ∧ V.cell? ⟨wr.heap.size, 2, none⟩ = some (.int .i64 s.how) ∧ V.cell? ⟨wr.heap.size, 3, none⟩ = some (.int .i64 s.field) ∧ V.cell? ⟨wr.heap.size, 4, none⟩ = some (.int .i64 s.next))) (by kernel_rfl) (by kernel_rfl) (hcl _ hd) ?_
                              refine cls_val (.pointer (some ⟨wr.heap.size, 2, none⟩)) rfl (fun w hw => by simp [go_sem]) ?_
                              simp only [Act.put, List.setIfInBounds_toArray, List.set_cons_zero, List.set_cons_succ]
                              refine cls_val (.int .i64 s.how) rfl (fun w hw => by obtain ⟨_, c0, c1, c2, c3, c4⟩ := hw; simp [go_sem, c2]) ?_
                              simp only [Act.put, List.setIfInBounds_toArray, List.set_cons_zero, List.set_cons_succ]
                              refine cls_val (.pointer (some ⟨wr.heap.size, 3, none⟩)) rfl (fun w hw => by simp [go_sem]) ?_
                              simp only [Act.put, List.setIfInBounds_toArray, List.set_cons_zero, List.set_cons_succ]
                              refine cls_val (.int .i64 s.field) rfl (fun w hw => by obtain ⟨_, c0, c1, c2, c3, c4⟩ := hw; simp [go_sem, c3]) ?_
                              simp only [Act.put, List.setIfInBounds_toArray, List.set_cons_zero, List.set_cons_succ]
                              refine cls_call (.int .i64 y) rfl (fun w hw => by simp [go_sem]) (fun w hw => (rhow_y w).mono fun e w' ⟨he, hb'⟩ => ⟨he, hcl _ (KBT hw.1 hb')⟩) ?_
                              simp only [Act.put, List.setIfInBounds_toArray, List.set_cons_zero, List.set_cons_succ]
                              refine cls_val (.bool false) rfl (fun w hw => by simp [go_sem, hq0]) ?_
                              simp only [Act.put, List.setIfInBounds_toArray, List.set_cons_zero, List.set_cons_succ]
                              refine cls_val (.bool false) rfl (fun w hw => by simp [go_sem]) ?_
                              simp only [Act.put, List.setIfInBounds_toArray, List.set_cons_zero, List.set_cons_succ]
                              refine cls_val (.bool true) rfl (fun w hw => by simp [go_sem]) ?_
                              simp only [Act.put, List.setIfInBounds_toArray, List.set_cons_zero, List.set_cons_succ]
                              refine cls_val (.pointer (some ⟨wr.heap.size, 2, none⟩)) rfl (fun w hw => by simp [go_sem]) ?_
                              simp only [Act.put, List.setIfInBounds_toArray, List.set_cons_zero, List.set_cons_succ]
                              refine cls_val (.int .i64 s.how) rfl (fun w hw => by obtain ⟨_, c0, c1, c2, c3, c4⟩ := hw; simp [go_sem, c2]) ?_
                              simp only [Act.put, List.setIfInBounds_toArray, List.set_cons_zero, List.set_cons_succ]
                              refine cls_val (.bool false) rfl (fun w hw => by simp [go_sem, hq2]) ?_
                              simp only [Act.put, List.setIfInBounds_toArray, List.set_cons_zero, List.set_cons_succ]
                              refine cls_val (.bool true) rfl (fun w hw => by simp [go_sem]) ?_
                              simp only [Act.put, List.setIfInBounds_toArray, List.set_cons_zero, List.set_cons_succ]
                              refine cls_val (.bool true) rfl (fun w hw => by simp [go_sem]) ?_
                              simp only [Act.put, List.setIfInBounds_toArray, List.set_cons_zero, List.set_cons_succ]
                              refine cls_val (.bool true) rfl (fun w hw => by simp [go_sem]) ?_
                              simp only [Act.put, List.setIfInBounds_toArray, List.set_cons_zero, List.set_cons_succ]
                              go_big_quiet_skip
                              go_big_quiet_skip
                              go_big_quiet_skip
                              go_big_quiet_skip
                              go_big_quiet_skip
                              go_big_quiet_skip
                              go_big_quiet_skip
                              refine cls_val (.bool true) rfl (fun w hw => by simp [go_sem]) ?_
                              simp only [Act.put, List.setIfInBounds_toArray, List.set_cons_zero, List.set_cons_succ]
                              refine wpQuiet_nil ?_
                              intro w3 hw3
                              go_wp2_with fail
                              go_meet
                              exact ⟨_, rfl, by show _ = _; rw [HM.out]; cases q1 <;> rfl, hw3.1⟩
                            · have Hz := Hz.out
                              subst Hz
                              go_upto_region 17 with fail
                              refine region_cls (C := fun V => Below wA.heap.size wA V ∧ (V.cell? ⟨wr.heap.size, 0, none⟩ = some (.int .i64 s.kind) ∧ V.cell? ⟨wr.heap.size, 1, none⟩ = some (.int .i64 s.number) ∧ V.cell? ⟨wr.heap.size, 2, none⟩ = some (.int .i64 s.how) ∧ V.cell? ⟨wr.heap.size, 3, none⟩ = some (.int .i64 s.field) ∧ V.cell? ⟨wr.heap.size, 4, none⟩ = some (.int .i64 s.next))) (by kernel_rfl) (by kernel_rfl) (hcl _ hd) ?_
                              refine cls_val (.pointer (some ⟨wr.heap.size, 2, none⟩)) rfl (fun w hw => by simp [go_sem]) ?_
                              simp only [Act.put, List.setIfInBounds_toArray, List.set_cons_zero, List.set_cons_succ]
                              refine cls_val (.int .i64 s.how) rfl (fun w hw => by obtain ⟨_, c0, c1, c2, c3, c4⟩ := hw; simp [go_sem, c2]) ?_
                              simp only [Act.put, List.setIfInBounds_toArray, List.set_cons_zero, List.set_cons_succ]
                              refine cls_val (.pointer (some ⟨wr.heap.size, 3, none⟩)) rfl (fun w hw => by simp [go_sem]) ?_
                              simp only [Act.put, List.setIfInBounds_toArray, List.set_cons_zero, List.set_cons_succ]
                              refine cls_val (.int .i64 s.field) rfl (fun w hw => by obtain ⟨_, c0, c1, c2, c3, c4⟩ := hw; simp [go_sem, c3]) ?_
                              simp only [Act.put, List.setIfInBounds_toArray, List.set_cons_zero, List.set_cons_succ]
                              refine cls_call (.int .i64 y) rfl (fun w hw => by simp [go_sem]) (fun w hw => (rhow_y w).mono fun e w' ⟨he, hb'⟩ => ⟨he, hcl _ (KBT hw.1 hb')⟩) ?_
                              simp only [Act.put, List.setIfInBounds_toArray, List.set_cons_zero, List.set_cons_succ]
                              refine cls_val (.bool false) rfl (fun w hw => by simp [go_sem, hq0]) ?_
                              simp only [Act.put, List.setIfInBounds_toArray, List.set_cons_zero, List.set_cons_succ]
                              refine cls_val (.bool false) rfl (fun w hw => by simp [go_sem]) ?_
                              simp only [Act.put, List.setIfInBounds_toArray, List.set_cons_zero, List.set_cons_succ]
                              refine cls_val (.bool true) rfl (fun w hw => by simp [go_sem]) ?_
                              simp only [Act.put, List.setIfInBounds_toArray, List.set_cons_zero, List.set_cons_succ]
                              refine cls_val (.pointer (some ⟨wr.heap.size, 2, none⟩)) rfl (fun w hw => by simp [go_sem]) ?_
                              simp only [Act.put, List.setIfInBounds_toArray, List.set_cons_zero, List.set_cons_succ]
                              refine cls_val (.int .i64 s.how) rfl (fun w hw => by obtain ⟨_, c0, c1, c2, c3, c4⟩ := hw; simp [go_sem, c2]) ?_
                              simp only [Act.put, List.setIfInBounds_toArray, List.set_cons_zero, List.set_cons_succ]
                              refine cls_val (.bool true) rfl (fun w hw => by simp [go_sem, hq2]) ?_
                              simp only [Act.put, List.setIfInBounds_toArray, List.set_cons_zero, List.set_cons_succ]
                              refine cls_val (.bool false) rfl (fun w hw => by simp [go_sem]) ?_
                              simp only [Act.put, List.setIfInBounds_toArray, List.set_cons_zero, List.set_cons_succ]
                              refine cls_val (.bool false) rfl (fun w hw => by simp [go_sem]) ?_
                              simp only [Act.put, List.setIfInBounds_toArray, List.set_cons_zero, List.set_cons_succ]
                              refine cls_val (.bool false) rfl (fun w hw => by simp [go_sem]) ?_
                              simp only [Act.put, List.setIfInBounds_toArray, List.set_cons_zero, List.set_cons_succ]
                              refine cls_val (.pointer (some ⟨wr.heap.size, 0, none⟩)) rfl (fun w hw => by simp [go_sem]) ?_
                              simp only [Act.put, List.setIfInBounds_toArray, List.set_cons_zero, List.set_cons_succ]
                              refine cls_val (.int .i64 s.kind) rfl (fun w hw => by obtain ⟨_, c0, c1, c2, c3, c4⟩ := hw; simp [go_sem, c0]) ?_
                              simp only [Act.put, List.setIfInBounds_toArray, List.set_cons_zero, List.set_cons_succ]
                              refine cls_val (.bool false) rfl (fun w hw => by simp [go_sem, hq4]) ?_
                              simp only [Act.put, List.setIfInBounds_toArray, List.set_cons_zero, List.set_cons_succ]
                              refine cls_val (.pointer (some ⟨wr.heap.size, 3, none⟩)) rfl (fun w hw => by simp [go_sem]) ?_
                              simp only [Act.put, List.setIfInBounds_toArray, List.set_cons_zero, List.set_cons_succ]
                              refine cls_val (.int .i64 s.field) rfl (fun w hw => by obtain ⟨_, c0, c1, c2, c3, c4⟩ := hw; simp [go_sem, c3]) ?_
                              simp only [Act.put, List.setIfInBounds_toArray, List.set_cons_zero, List.set_cons_succ]
                              refine cls_val (.bool q1) rfl (fun w hw => by simp [go_sem, hq1]) ?_
                              simp only [Act.put, List.setIfInBounds_toArray, List.set_cons_zero, List.set_cons_succ]
                              refine cls_val (.bool (false != q1)) rfl (fun w hw => by simp [go_sem]) ?_
                              simp only [Act.put, List.setIfInBounds_toArray, List.set_cons_zero, List.set_cons_succ]
                              refine cls_val (.bool (false != q1)) rfl (fun w hw => by simp [go_sem]) ?_
                              simp only [Act.put, List.setIfInBounds_toArray, List.set_cons_zero, List.set_cons_succ]
                              refine wpQuiet_nil ?_
                              intro w3 hw3
                              go_wp2_with fail
                              go_meet
                              exact ⟨_, rfl, by show _ = _; rw [HM.out]; cases q1 <;> rfl, hw3.1⟩
                          · have Hz := Hz.out
                            subst Hz
                            go_upto_region 17 with fail
                            refine region_cls (C := fun V => Below wA.heap.size wA V ∧ (V.cell? ⟨wr.heap.size, 0, none⟩ = some (.int .i64 s.kind) ∧ V.cell? ⟨wr.heap.size, 1, none⟩ = some (.int .i64 s.number) ∧ V.cell? ⟨wr.heap.size, 2, none⟩ = some (.int .i64 s.how) ∧ V.cell? ⟨wr.heap.size, 3, none⟩ = some (.int .i64 s.field) ∧ V.cell? ⟨wr.heap.size, 4, none⟩ = some (.int .i64 s.next))) (by kernel_rfl) (by kernel_rfl) (hcl _ hd) ?_
                            refine cls_val (.pointer (some ⟨wr.heap.size, 2, none⟩)) rfl (fun w hw => by simp [go_sem]) ?_
                            simp only [Act.put, List.setIfInBounds_toArray, List.set_cons_zero, List.set_cons_succ]
                            refine cls_val (.int .i64 s.how) rfl (fun w hw => by obtain ⟨_, c0, c1, c2, c3, c4⟩ := hw; simp [go_sem, c2]) ?_
                            simp only [Act.put, List.setIfInBounds_toArray, List.set_cons_zero, List.set_cons_succ]
                            refine cls_val (.pointer (some ⟨wr.heap.size, 3, none⟩)) rfl (fun w hw => by simp [go_sem]) ?_
                            simp only [Act.put, List.setIfInBounds_toArray, List.set_cons_zero, List.set_cons_succ]
                            refine cls_val (.int .i64 s.field) rfl (fun w hw => by obtain ⟨_, c0, c1, c2, c3, c4⟩ := hw; simp [go_sem, c3]) ?_
                            simp only [Act.put, List.setIfInBounds_toArray, List.set_cons_zero, List.set_cons_succ]
                            refine cls_call (.int .i64 y) rfl (fun w hw => by simp [go_sem]) (fun w hw => (rhow_y w).mono fun e w' ⟨he, hb'⟩ => ⟨he, hcl _ (KBT hw.1 hb')⟩) ?_
                            simp only [Act.put, List.setIfInBounds_toArray, List.set_cons_zero, List.set_cons_succ]
                            refine cls_val (.bool true) rfl (fun w hw => by simp [go_sem, hq0]) ?_
                            simp only [Act.put, List.setIfInBounds_toArray, List.set_cons_zero, List.set_cons_succ]
                            refine cls_val (.bool true) rfl (fun w hw => by simp [go_sem]) ?_
                            simp only [Act.put, List.setIfInBounds_toArray, List.set_cons_zero, List.set_cons_succ]
                            go_big_quiet_skip
                            go_big_quiet_skip
                            go_big_quiet_skip
                            go_big_quiet_skip
                            go_big_quiet_skip
                            refine cls_val (.bool true) rfl (fun w hw => by simp [go_sem]) ?_
                            simp only [Act.put, List.setIfInBounds_toArray, List.set_cons_zero, List.set_cons_succ]
                            refine cls_val (.bool true) rfl (fun w hw => by simp [go_sem]) ?_
                            simp only [Act.put, List.setIfInBounds_toArray, List.set_cons_zero, List.set_cons_succ]
                            go_big_quiet_skip
                            go_big_quiet_skip
                            go_big_quiet_skip
                            go_big_quiet_skip
                            go_big_quiet_skip
                            go_big_quiet_skip
                            go_big_quiet_skip
                            refine cls_val (.bool true) rfl (fun w hw => by simp [go_sem]) ?_
                            simp only [Act.put, List.setIfInBounds_toArray, List.set_cons_zero, List.set_cons_succ]
                            refine wpQuiet_nil ?_
                            intro w3 hw3
                            go_wp2_with fail
                            go_meet
                            exact ⟨_, rfl, by show _ = _; rw [HM.out]; cases q1 <;> rfl, hw3.1⟩
                      case rest =>
                        obtain ⟨q, rfl, Hq8, hbe⟩ := hcut
                        have hBe : Below W1.heap.size W1 wc := KBT hBc hbe
                        have xe := (hbe.block _ (by omega)).trans xc
                        obtain ⟨e0, e1, e2, e3, e4⟩ := blk5 xe
                        have h3' : ¬ (s.number < 1 ∨ 536870912 ≤ s.number ∨ s.number ≤ prevT p j) := by rw [HA.out]; exact h3
                        clear g0 g1 g2 g3 g4 t0 t1 t2 t3 t4 s0 s1 s2 s3 s4 hcl hhd hprev
                        cases q with
                        | true =>
                            have HT : Hid (wrongT s (prevT p j) n = 8) := by show _ = _; exact wrongT_8 hk1 h3' Hq8.out.symm
                            have HP : Hid (wrongP l = (8, k)) := by
                              have hq : Q = 8 := by rw [← HJ.out, wrongTs_step Hs.out, HT.out, if_pos (by decide)]
                              show _ = _; rw [HQ.out, hq, if_pos (by decide)]
                            have hbd := hbadc wc hBe 8
                            go_wp2_with fail
                            refine hbd.mono ?_
                            rintro e w5 ⟨rfl, hb5⟩
                            have hB5 := KBT hBe hb5
                            have x5 := hres w5 hB5
                            obtain ⟨q0, q1⟩ := blk2 x5
                            have f0 := fr_of_blk x5
                            clear HT hbd hres hbadc
                            go_wp2_with fail
                            refine bodyPost_ret (v := .agg #[.int .i64 8, .int .i64 (k : Int)]) (by simp [results, Tryz.results9, go_sem, *]) rfl ?_
                            exact ⟨by rw [HP.out], KB_set (KB_set (KBT (KBT hbw hb1) hB5) (Nat.le_refl _)) (Nat.le_refl _)⟩
                        | false =>
                          have h8 : ¬ misN s = true := by rw [← Hq8.out]; decide
                          have HT0 := wrongT_6 (n := n) hk1 h3' h8
                          by_cases e4k : s.kind = 4
                          · have b4 : (s.kind == 4) = true := by simp [e4k]
                            by_cases n1 : s.next < 0
                            · have hnow : nowN s n = true := by simp [nowN, e4k, n1]
                              have HT : Hid (wrongT s (prevT p j) n = 6) := by show _ = _; rw [HT0, if_pos hnow]
                              have HP : Hid (wrongP l = (6, k)) := by
                                have hq : Q = 6 := by rw [← HJ.out, wrongTs_step Hs.out, HT.out, if_pos (by decide)]
                                show _ = _; rw [HQ.out, hq, if_pos (by decide)]
                              have hbd := hbadc wc hBe 6
                              clear HT0 hnow e4k
                              go_wp2_with fail
                              refine hbd.mono ?_
                              rintro e w5 ⟨rfl, hb5⟩
                              have hB5 := KBT hBe hb5
                              have x5 := hres w5 hB5
                              obtain ⟨q0, q1⟩ := blk2 x5
                              have f0 := fr_of_blk x5
                              clear HT hbd hres hbadc
                              go_wp2_with fail
                              refine bodyPost_ret (v := .agg #[.int .i64 6, .int .i64 (k : Int)]) (by simp [results, Tryz.results9, go_sem, *]) rfl ?_
                              exact ⟨by rw [HP.out], KB_set (KB_set (KBT (KBT hbw hb1) hB5) (Nat.le_refl _)) (Nat.le_refl _)⟩
                            · by_cases n2 : (n : Int) ≤ s.next
                              · have hnow : nowN s n = true := by simp [nowN, e4k, n2]
                                have HT : Hid (wrongT s (prevT p j) n = 6) := by show _ = _; rw [HT0, if_pos hnow]
                                have HP : Hid (wrongP l = (6, k)) := by
                                  have hq : Q = 6 := by rw [← HJ.out, wrongTs_step Hs.out, HT.out, if_pos (by decide)]
                                  show _ = _; rw [HQ.out, hq, if_pos (by decide)]
                                have hbd := hbadc wc hBe 6
                                clear HT0 hnow e4k
                                go_wp2_with fail
                                refine hbd.mono ?_
                                rintro e w5 ⟨rfl, hb5⟩
                                have hB5 := KBT hBe hb5
                                have x5 := hres w5 hB5
                                obtain ⟨q0, q1⟩ := blk2 x5
                                have f0 := fr_of_blk x5
                                clear HT hbd hres hbadc
                                go_wp2_with fail
                                refine bodyPost_ret (v := .agg #[.int .i64 6, .int .i64 (k : Int)]) (by simp [results, Tryz.results9, go_sem, *]) rfl ?_
                                exact ⟨by rw [HP.out], KB_set (KB_set (KBT (KBT hbw hb1) hB5) (Nat.le_refl _)) (Nat.le_refl _)⟩
                              · have hnow : ¬ nowN s n = true := by simp [nowN, e4k]; omega
                                clear e4k
                                have HJ' : Hid (wrongTs n (p.drop (j + 1)) (prevT p (j + 1)) = Q) := by
                                  show _ = _; rw [← HJ.out, wrongTs_step Hs.out, HT0, if_neg hnow, if_neg (by decide), prevT_succ Hs.out]
                                have hBr : Below W1.heap.size W1 wc := hBe
                                clear HT0 hnow HJ HQ hbadc hres
                                go_wp2_with fail
                                go_roundg (np - (j + 1))
                                case measure => omega
                                case rel => exact ⟨j + 1, by omega, by go_num, HJ', hBr⟩
                          · have b4 : (s.kind == 4) = false := by simp [e4k]
                            by_cases n1 : s.next = -1
                            · have bn : (s.next != -1) = false := by simp [n1]
                              have hnow : ¬ nowN s n = true := by simp [nowN, e4k, n1]
                              clear e4k n1
                              have HJ' : Hid (wrongTs n (p.drop (j + 1)) (prevT p (j + 1)) = Q) := by
                                show _ = _; rw [← HJ.out, wrongTs_step Hs.out, HT0, if_neg hnow, if_neg (by decide), prevT_succ Hs.out]
                              have hBr : Below W1.heap.size W1 wc := hBe
                              clear HT0 hnow HJ HQ hbadc hres
                              go_wp2_with fail
                              go_roundg (np - (j + 1))
                              case measure => omega
                              case rel => exact ⟨j + 1, by omega, by go_num, HJ', hBr⟩
                            · have bn : (s.next != -1) = true := by simpa using n1
                              have hnow : nowN s n = true := by simp [nowN, e4k, n1]
                              clear n1
                              have HT : Hid (wrongT s (prevT p j) n = 6) := by show _ = _; rw [HT0, if_pos hnow]
                              have HP : Hid (wrongP l = (6, k)) := by
                                have hq : Q = 6 := by rw [← HJ.out, wrongTs_step Hs.out, HT.out, if_pos (by decide)]
                                show _ = _; rw [HQ.out, hq, if_pos (by decide)]
                              have hbd := hbadc wc hBe 6
                              clear HT0 hnow e4k
                              go_wp2_with fail
                              refine hbd.mono ?_
                              rintro e w5 ⟨rfl, hb5⟩
                              have hB5 := KBT hBe hb5
                              have x5 := hres w5 hB5
                              obtain ⟨q0, q1⟩ := blk2 x5
                              have f0 := fr_of_blk x5
                              clear HT hbd hres hbadc
                              go_wp2_with fail
                              refine bodyPost_ret (v := .agg #[.int .i64 6, .int .i64 (k : Int)]) (by simp [results, Tryz.results9, go_sem, *]) rfl ?_
                              exact ⟨by rw [HP.out], KB_set (KB_set (KBT (KBT hbw hb1) hB5) (Nat.le_refl _)) (Nat.le_refl _)⟩
            · have hq : Q = 0 := by rw [← HJ.out, List.drop_of_length_le (by rw [← Hnp.out]; omega)]; rfl
              have HK' : Hid (wrongP l = wrongQs n (k + 1) (l.drop (k + 1))) := by show _ = _; rw [HQ.out, hq, if_neg (by decide)]
              clear HQ HJ hq
              go_wp2_with fail
              go_roundg (n - (k + 1))
              case measure => omega
              case rel => exact ⟨k + 1, by omega, by go_num, HK', KBT hB1 hbj⟩
      · have HK' : Hid (wrongP l = (0, 0)) := by
          show _ = _; rw [HK.out, List.drop_of_length_le (by rw [← Hn.out]; omega)]; rfl
        have x2 := (hb.block _ (by omega)).trans x0
        obtain ⟨t0, t1⟩ := blk2 x2
        have f0 := fr_of_blk x2
        go_wp2_with fail
        refine bodyPost_ret (v := .agg #[.int .i64 0, .int .i64 0]) (by simp [results, Tryz.results9, go_sem, *]) rfl ?_
        exact ⟨by rw [HK'.out]; rfl, KB_set (KB_set hbw (Nat.le_refl _)) (Nat.le_refl _)⟩

end L
end Go.Proofs.YthgbiflfinddiaaGreat

