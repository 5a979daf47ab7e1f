/- The contract of wrongStep. -/
import Derived.Test.YthgbiflfinddiaaGreatKMis
import Derived.Test.YthgbiflfinddiaaGreatKNow
namespace Go.Proofs.YthgbiflfinddiaaGreat
namespace L
open Go.RowKit

set_option maxHeartbeats 4000000 in
set_option maxRecDepth 100000 in
theorem wrongStep_any (s : TI) (a : Int) (n : Nat) (w : World) (hn : n ≤ 9223372036854775807) : Calls Tryz.prog 39 #[tv s, .int .i64 a, .int .i64 (n : Int)] w fun e w' => e = .returned (.int .i64 (wrongT s a n)) ∧ Below w.heap.size w w' := by
  have hba := (Below.refl w.heap.size w).alloc (Nat.le_refl _) (.cells #[.int .i64 s.kind, .int .i64 s.number, .int .i64 s.how, .int .i64 s.field, .int .i64 s.next] 51)
  have x1 := heap_alloc_new w (.cells #[.int .i64 s.kind, .int .i64 s.number, .int .i64 s.how, .int .i64 s.field, .int .i64 s.next] 51)
  by_cases h1 : s.kind < 1 ∨ 4 < s.kind
  · have HN : Hid (wrongT s a n = 1) := by show _ = _; unfold wrongT; rw [if_pos h1]
    unfold tv
    by_cases h2 : s.kind < 1
    · clear h1
      go_enter Tryz.func39, Tryz.ntmps39
      go_wp2
      go_ret
      exact ⟨by rw [HN.out]; rfl, hba⟩
    · have h3 : 4 < s.kind := by omega
      clear h1
      go_enter Tryz.func39, Tryz.ntmps39
      go_wp2
      go_ret
      exact ⟨by rw [HN.out]; rfl, hba⟩
  have k1 : ¬ s.kind < 1 := by omega
  have k2 : ¬ 4 < s.kind := by omega
  by_cases h2 : s.field < 1 ∨ 10 < s.field
  · have HN : Hid (wrongT s a n = 1) := by show _ = _; unfold wrongT; rw [if_neg h1, if_pos h2]
    unfold tv
    by_cases h3 : s.field < 1
    · clear h1 h2
      go_enter Tryz.func39, Tryz.ntmps39
      go_wp2
      go_ret
      exact ⟨by rw [HN.out]; rfl, hba⟩
    · have h4 : 10 < s.field := by omega
      clear h1 h2
      go_enter Tryz.func39, Tryz.ntmps39
      go_wp2
      go_ret
      exact ⟨by rw [HN.out]; rfl, hba⟩
  have k3 : ¬ s.field < 1 := by omega
  have k4 : ¬ 10 < s.field := by omega
  by_cases h3 : s.number < 1 ∨ 536870912 ≤ s.number ∨ s.number ≤ a
  · have HN : Hid (wrongT s a n = 3) := by show _ = _; unfold wrongT; rw [if_neg h1, if_neg h2, if_pos h3]
    unfold tv
    by_cases h4 : s.number < 1
    · clear h1 h2 h3
      go_enter Tryz.func39, Tryz.ntmps39
      go_wp2
      go_ret
      exact ⟨by rw [HN.out]; rfl, hba⟩
    · by_cases h5 : 536870912 ≤ s.number
      · clear h1 h2 h3
        go_enter Tryz.func39, Tryz.ntmps39
        go_wp2
        go_ret
        exact ⟨by rw [HN.out]; rfl, hba⟩
      · have h6 : s.number ≤ a := by omega
        clear h1 h2 h3
        go_enter Tryz.func39, Tryz.ntmps39
        go_wp2
        go_ret
        exact ⟨by rw [HN.out]; rfl, hba⟩
  have k5 : ¬ s.number < 1 := by omega
  have k6 : ¬ 536870912 ≤ s.number := by omega
  have k7 : ¬ s.number ≤ a := by omega
  have hmf := misfits_any s (w.alloc (.cells #[.int .i64 s.kind, .int .i64 s.number, .int .i64 s.how, .int .i64 s.field, .int .i64 s.next] 51))
  cases hm : misN s with
  | true =>
    have HN : Hid (wrongT s a n = 8) := by show _ = _; unfold wrongT; rw [if_neg h1, if_neg h2, if_neg h3, hm]; rfl
    rw [hm] at hmf
    unfold tv at hmf ⊢
    clear h1 h2 h3 hm
    go_enter Tryz.func39, Tryz.ntmps39
    go_wp2_with fail
    refine hmf.mono ?_
    rintro e w1 ⟨rfl, hb1⟩
    go_wp2
    go_ret
    exact ⟨by rw [HN.out]; rfl, KBT hba hb1⟩
  | false =>
    have HN : Hid (wrongT s a n = if nowN s n = true then 6 else 0) := by show _ = _; unfold wrongT; rw [if_neg h1, if_neg h2, if_neg h3, hm]; rfl
    rw [hm] at hmf
    obtain ⟨q, Hq⟩ : ∃ q, Hid (nowN s n = q) := ⟨_, rfl⟩
    have hnw : ∀ V, Calls Tryz.prog 73 #[tv s, .int .i64 (n : Int)] V fun e w' => e = .returned (.bool q) ∧ Below V.heap.size V w' := fun V => by have := nowhere_any s n V hn; rw [Hq.out] at this; exact this
    rw [Hq.out] at HN
    unfold tv at hmf hnw ⊢
    clear h1 h2 h3 hm
    cases q
    all_goals
      go_enter Tryz.func39, Tryz.ntmps39
      go_wp2_with fail
      refine hmf.mono ?_
      rintro e w1 ⟨rfl, hb1⟩
      obtain ⟨t0, t1, t2, t3, t4⟩ := blk5 ((hb1.block _ (by simp)).trans x1)
      go_wp2_with fail
      refine (hnw _).mono ?_
      rintro e w2 ⟨rfl, hb2⟩
      go_wp2
      go_ret
      exact ⟨by rw [HN.out]; rfl, KBT (KBT hba hb1) hb2⟩

theorem wrongTs_step {l : List TI} {k n : Nat} {s : TI} (h : l[k]? = some s) (a : Int) : wrongTs n (l.drop k) a = if wrongT s a n ≠ 0 then wrongT s a n else wrongTs n (l.drop (k + 1)) s.number := by
  obtain ⟨hk, rfl⟩ := List.getElem?_eq_some_iff.1 h
  rw [List.drop_eq_getElem_cons hk]
  rfl
theorem wrongQs_step {l : List (List TI)} {k n : Nat} {p : List TI} (h : l[k]? = some p) : wrongQs n k (l.drop k) = if wrongQ p n ≠ 0 then (wrongQ p n, k) else wrongQs n (k + 1) (l.drop (k + 1)) := by
  obtain ⟨hk, rfl⟩ := List.getElem?_eq_some_iff.1 h
  rw [List.drop_eq_getElem_cons hk]
  rfl
set_option maxHeartbeats 4000000 in
set_option maxRecDepth 100000 in
theorem wrongProgram_any {w : World} {v : Value} {p : List TI} (h : RdL 5 StAt w v p) (n : Nat) (hn : n ≤ 9223372036854775807) : Calls Tryz.prog 21 #[v, .int .i64 (n : Int)] w fun e w' => e = .returned (.int .i64 (wrongQ p n)) ∧ Below w.heap.size w w' := by
  obtain ⟨ao, np, cap, rfl, Hn, hcap⟩ := h.shape
  by_cases h16 : 16 < np
  · have HN : Hid (wrongQ p n = 5) := by show _ = _; unfold wrongQ; rw [if_pos (by rw [← Hn.out]; exact h16)]
    have hi : (16 : Int) < (np : Int) := by omega
    go_enter Tryz.func21, Tryz.ntmps21
    go_wp2
    go_ret
    exact ⟨by rw [HN.out]; rfl, Below.refl _ _⟩
  · have HN : Hid (wrongQ p n = wrongTs n (p.drop 0) 0) := by show _ = _; unfold wrongQ; rw [if_neg (by rw [← Hn.out]; exact h16)]; rfl
    have hi : ¬ (16 : Int) < (np : Int) := by omega
    go_enter Tryz.func21, Tryz.ntmps21
    go_wp2_with fail
    go_loopg [5, 14] np (fun m a i wr => ∃ (k : Nat) (x : Int), k + m = np ∧ i = .int .i64 k ∧ a = .int .i64 x ∧ Hid (wrongQ p n = wrongTs n (p.drop k) x) ∧ Below w.heap.size w wr)
    case atStart => exact ⟨0, 0, by omega, rfl, rfl, HN, Below.refl _ _⟩
    case round =>
      obtain ⟨k, x, hk, rfl, rfl, HK, hb⟩ := hrel
      by_cases hlt : k < np
      · obtain ⟨s, Hs⟩ : ∃ s, Hid (p[k]? = some s) := ⟨p[k]'(by rw [← Hn.out]; exact hlt), List.getElem?_eq_getElem (by rw [← Hn.out]; exact hlt)⟩
        obtain ⟨b, off, rfl, hat⟩ := (h.below StAt.stays hb).get StAt.plain Hs.out
        obtain ⟨s0, s1, s2, s3, s4⟩ := hat.at
        have hki : (k : Int) < (np : Int) := by omega
        obtain ⟨W1, HW1⟩ : ∃ W1, Hid (W1 = wr.alloc (.cells #[.int .i64 s.kind, .int .i64 s.number, .int .i64 s.how, .int .i64 s.field, .int .i64 s.next] 51)) := ⟨_, rfl⟩
        have hb1 : Below wr.heap.size wr W1 := by rw [HW1.out]; exact (Below.refl _ _).alloc (Nat.le_refl _) _
        have x1 : W1.heap[wr.heap.size]? = some (.cells #[.int .i64 s.kind, .int .i64 s.number, .int .i64 s.how, .int .i64 s.field, .int .i64 s.next] 51 (0, 0)) := by rw [HW1.out]; exact heap_alloc_new _ _
        have hz1 : wr.heap.size + 1 ≤ W1.heap.size := by rw [HW1.out]; simp
        have hws := wrongStep_any s x n W1 hn
        obtain ⟨E, HE⟩ : ∃ E, Hid (wrongT s x n = E) := ⟨_, rfl⟩
        rw [HE.out] at hws
        unfold tv at hws
        have HS := wrongTs_step (n := n) Hs.out x
        rw [HE.out] at HS
        clear hat
        by_cases hE : E = 0
        · have hEb : (E != 0) = false := by simp [hE]
          have HK' : Hid (wrongQ p n = wrongTs n (p.drop (k + 1)) s.number) := by
            show _ = _; rw [HK.out, HS, if_neg (by simp [hE])]
          clear hE HS
          go_wp2_with fail
          rw [← HW1.out]
          refine hws.mono ?_
          rintro e w2 ⟨rfl, hb2⟩
          obtain ⟨t0, t1, t2, t3, t4⟩ := blk5 ((hb2.block _ (by omega)).trans x1)
          go_wp2_with fail
          go_roundg (np - (k + 1))
          case measure => omega
          case rel => exact ⟨k + 1, s.number, by omega, by go_num, rfl, HK', KBT (KBT hb hb1) hb2⟩
        · have hEb : (E != 0) = true := by simpa using hE
          have HK' : Hid (wrongQ p n = E) := by
            show _ = _; rw [HK.out, HS, if_pos hE]
          clear hE HS
          go_wp2_with fail
          rw [← HW1.out]
          refine hws.mono ?_
          rintro e w2 ⟨rfl, hb2⟩
          go_wp2
          go_ret
          exact ⟨by rw [HK'.out]; rfl, KBT (KBT hb hb1) hb2⟩
      · have HK' : Hid (wrongQ p n = 0) := by
          show _ = _; rw [HK.out, List.drop_of_length_le (by rw [← Hn.out]; omega)]; rfl
        go_wp2
        go_ret
        exact ⟨by rw [HK'.out]; rfl, hb⟩
set_option maxHeartbeats 4000000 in
set_option maxRecDepth 100000 in
theorem pressWrong_any {w : World} {v : Value} {l : List (List TI)} (h : RdL 1 PrAt w v l) : Calls Tryz.prog 8 #[v] w fun e w' => e = .returned (.agg #[.int .i64 (wrongP l).1, .int .i64 (((wrongP l).2 : Nat) : Int)]) ∧ Below w.heap.size w w' := by
  obtain ⟨ao, n, cap, rfl, Hn, hcap⟩ := h.shape
  obtain ⟨W0, HW0⟩ : ∃ W0, Hid (W0 = w.alloc (.cells #[.int .i64 0, .int .i64 0] 33)) := ⟨_, rfl⟩
  have hb0 : Below w.heap.size w W0 := by rw [HW0.out]; exact (Below.refl _ _).alloc (Nat.le_refl _) _
  have hz0 : w.heap.size + 1 ≤ W0.heap.size := by rw [HW0.out]; simp
  have x0 : W0.heap[w.heap.size]? = some (.cells #[.int .i64 0, .int .i64 0] 33 (0, 0)) := by rw [HW0.out]; exact heap_alloc_new _ _
  by_cases h10 : 10 < n
  · have HN : Hid (wrongP l = (5, 0)) := by show _ = _; unfold wrongP; rw [if_pos (by rw [← Hn.out]; exact h10)]
    have hi : (10 : Int) < (n : Int) := by omega
    have hbs : Below w.heap.size w (w.alloc (.cells #[.int .i64 5, .int .i64 0] 33)) := (Below.refl _ _).alloc (Nat.le_refl _) _
    go_enter Tryz.func8, Tryz.ntmps8
    go_wp2_with fail
    refine bodyPost_ret (v := .agg #[.int .i64 5, .int .i64 0]) (by simp [results, Tryz.results8, go_sem]) rfl ?_
    exact ⟨by rw [HN.out]; rfl, hbs⟩
  · have HN : Hid (wrongP l = wrongQs n 0 (l.drop 0)) := by show _ = _; unfold wrongP; rw [if_neg (by rw [← Hn.out]; exact h10), Hn.out]; rfl
    have hi : ¬ (10 : Int) < (n : Int) := by omega
    go_enter Tryz.func8, Tryz.ntmps8
    go_wp2_with fail
    rw [← HW0.out]
    go_loopg [12] n (fun m i wr => ∃ (k : Nat), k + m = n ∧ i = .int .i64 k ∧ Hid (wrongP l = wrongQs n k (l.drop k)) ∧ Below W0.heap.size W0 wr)
    case atStart => exact ⟨0, by omega, rfl, HN, Below.refl _ _⟩
    case round =>
      obtain ⟨k, hk, rfl, HK, hb⟩ := hrel
      have hbw : Below w.heap.size w wr := KBT hb0 hb
      have hzr := hb.size
      by_cases hlt : k < n
      · obtain ⟨p, Hp⟩ : ∃ p, Hid (l[k]? = some p) := ⟨l[k]'(by rw [← Hn.out]; exact hlt), List.getElem?_eq_getElem (by rw [← Hn.out]; exact hlt)⟩
        obtain ⟨b, off, rfl, hat⟩ := (h.below PrAt.stays hbw).get PrAt.plain Hp.out
        obtain ⟨vp, s0, hrp⟩ := hat
        obtain ⟨ap, np, cp, rfl, Hnp, _⟩ := hrp.shape
        have s0' : wr.cell? ⟨b, off + k, none⟩ = some (.slice ap np cp) := by simpa using s0
        have hki : (k : Int) < (n : Int) := by omega
        have hws := wrongProgram_any hrp n (by omega)
        obtain ⟨E, HE⟩ : ∃ E, Hid (wrongQ p n = E) := ⟨_, rfl⟩
        rw [HE.out] at hws
        have HS := wrongQs_step (n := n) Hp.out
        rw [HE.out] at HS
        clear s0
        by_cases hE : E = 0
        · have hEb : (E != 0) = false := by simp [hE]
          have HK' : Hid (wrongP l = wrongQs n (k + 1) (l.drop (k + 1))) := by
            show _ = _; rw [HK.out, HS, if_neg (by simp [hE])]
          clear hE HS
          go_wp2_with fail
          refine hws.mono ?_
          rintro e w2 ⟨rfl, hb2⟩
          go_wp2_with fail
          go_roundg (n - (k + 1))
          case measure => omega
          case rel => exact ⟨k + 1, by omega, by go_num, HK', KBT hb hb2⟩
        · have hEb : (E != 0) = true := by simpa using hE
          have HK' : Hid (wrongP l = (E, k)) := by
            show _ = _; rw [HK.out, HS, if_pos hE]
          clear hE HS
          go_wp2_with fail
          refine hws.mono ?_
          rintro e w2 ⟨rfl, hb2⟩
          have x2 := ((hb2.block _ (by omega)).trans ((hb.block _ (by omega)).trans x0))
          obtain ⟨t0, t1⟩ := blk2 x2
          have f0 := fr_of_blk x2
          go_wp2_with fail
          refine bodyPost_ret (v := .agg #[.int .i64 E, .int .i64 (k : Int)]) (by simp [results, Tryz.results8, go_sem, *]) rfl ?_
          exact ⟨by rw [HK'.out], KB_set (KB_set (KBT hbw hb2) (Nat.le_refl _)) (Nat.le_refl _)⟩
      · have HK' : Hid (wrongP l = (0, 0)) := by
          show _ = _; rw [HK.out, List.drop_of_length_le (by rw [← Hn.out]; omega)]; rfl
        have x2 := (hb.block _ (by omega)).trans x0
        obtain ⟨t0, t1⟩ := blk2 x2
        have f0 := fr_of_blk x2
        go_wp2_with fail
        refine bodyPost_ret (v := .agg #[.int .i64 0, .int .i64 0]) (by simp [results, Tryz.results8, go_sem, *]) rfl ?_
        exact ⟨by rw [HK'.out]; rfl, KB_set (KB_set hbw (Nat.le_refl _)) (Nat.le_refl _)⟩

end L
end Go.Proofs.YthgbiflfinddiaaGreat
