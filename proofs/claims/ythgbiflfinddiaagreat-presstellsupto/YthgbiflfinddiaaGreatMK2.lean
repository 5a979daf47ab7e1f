import Derived.Test.YthgbiflfinddiaaGreatLBarP
import Derived.Test.YthgbiflfinddiaaGreatKDef
import Derived.Test.YthgbiflfinddiaaGreatMK1
/- Package press, plain: a right file's programs are right. -/
namespace Go.Proofs.YthgbiflfinddiaaGreat
namespace L

theorem first_nums {g : GI} {bar : List Int} : ∀ (l : List FI) (i : Nat) (s : Mem), (firstGo (stepF g bar) errsF i l s).1 = 0 → (l.map FI.number).Pairwise fun a b => a ≠ b
  | [], _, _, _ => List.Pairwise.nil
  | x :: l, i, s, h => by
    obtain ⟨h1, h2⟩ := first_cons h
    rw [List.map_cons, List.pairwise_cons]
    refine ⟨fun b hb => ?_, first_nums l _ _ h2⟩
    obtain ⟨y, hy, rfl⟩ := List.mem_map.1 hb
    intro e
    exact (first_all l _ _ h2 y hy).2.2 (by rw [← e]; exact (addL_mem x.number s.nums).1)
theorem pass_each {g : GI} {bar : List Int} : ∀ (l : List FI) (i : Nat) (s : Mem), (firstGo (stepF g bar) errsF i l s).1 = 0 → ∀ y ∈ l, ∃ s, passB g bar y s = true
  | [], _, _, _, _, hy => by cases hy
  | x :: l, i, s, h, y, hy => by
    obtain ⟨h1, h2⟩ := first_cons h
    rcases List.mem_cons.1 hy with rfl | hy
    · exact ⟨s, h1⟩
    · exact pass_each l _ _ h2 y hy
theorem msg_right {g : GI} {m : MI} (h : wrongM g m = 0) : m.fields.length ≤ 16 ∧ (firstGo (stepF g m.barred) errsF 0 m.fields mem0).1 = 0 := by
  unfold wrongM at h
  split at h
  · cases h
  · rename_i h1
    split at h
    · cases h
    · exact ⟨by omega, h⟩
theorem firstI_bd {α : Type} (p : α → Bool) (l : List α) (h : 0 ≤ firstI p l) : firstI p l < (l.length : Int) := by
  unfold firstI at h ⊢
  cases hx : l.findIdx? p with
  | none => rw [hx] at h; simp at h
  | some k =>
    have := List.findIdx?_eq_some_iff_getElem.1 hx
    obtain ⟨h1, _⟩ := this
    simp
    exact h1
theorem how_cases (k : Int) : howN k = 0 ∨ howN k = 1 ∨ howN k = 2 ∨ howN k = 5 := by
  unfold howN; split
  · exact .inr (.inl rfl)
  · split
    · exact .inr (.inr (.inr rfl))
    · split
      · exact .inr (.inr (.inl rfl))
      · exact .inl rfl
theorem step_right {g : GI} {bar : List Int} {x : FI} {s : Mem} (h : passB g bar x s = true) (a : Int) (ha : a < x.number) : wrongT (stepN g x) a g.msgs.length = 0 := by
  simp only [passB, Bool.and_eq_true, Bool.not_eq_true', Bool.or_eq_false_iff, decide_eq_false_iff_not] at h
  obtain ⟨_, h1, _, ⟨h3, h4⟩, h5, _⟩ := h
  simp only [canB, Bool.and_eq_true, decide_eq_true_eq] at h1
  obtain ⟨c1, c2, _⟩ := h1
  have hk : kindN x = 1 ∨ kindN x = 2 ∨ kindN x = 3 ∨ kindN x = 4 := by
    unfold kindN; split
    · exact .inr (.inr (.inr rfl))
    · split
      · exact .inr (.inr (.inl rfl))
      · split
        · exact .inr (.inl rfl)
        · exact .inl rfl
  have hm : misN (stepN g x) = false := by
    unfold misN stepN kindN
    by_cases k10 : x.kind = 10
    · simp [k10, howN]
    · by_cases k2 : howN x.kind = 2
      · simp [k10, k2]
      · by_cases hmy : x.many = true <;> simp [k10, k2, hmy]
  have hn : nowN (stepN g x) g.msgs.length = false := by
    unfold nowN stepN
    by_cases k10 : x.kind = 10
    · have hk4 : kindN x = 4 := by unfold kindN; rw [if_pos k10]
      simp only [hasB, k10, if_true] at h5
      have h6 : 0 ≤ msgI g x.type := by simpa [msgI] using h5
      have h7 : msgI g x.type < (g.msgs.length : Int) := firstI_bd _ _ h6
      simp only [hk4, k10, if_true]
      rw [Bool.or_eq_false_iff]
      exact ⟨decide_eq_false (by omega), decide_eq_false (by omega)⟩
    · have hk4 : kindN x ≠ 4 := by
        unfold kindN; rw [if_neg k10]; split
        · decide
        · split <;> decide
      simp only [hk4, k10, if_false]
      simp
  unfold wrongT
  rw [hm, hn]
  have e1 : (stepN g x).kind = kindN x := rfl
  have e2 : (stepN g x).field = x.kind := rfl
  have e3 : (stepN g x).number = x.number := rfl
  rw [e1, e2, e3, if_neg (by omega), if_neg (by omega), if_neg (by omega)]
  rfl
theorem steps_right {g : GI} {l : List FI} {bar : List Int} (hl : ∀ y ∈ l, ∃ s, passB g bar y s = true) : ∀ (ns : List Int) (a : Int), (∀ n ∈ ns, ∃ f ∈ l, f.number = n) → (a :: ns).Pairwise (fun x y => x < y) → wrongTs g.msgs.length (ns.map fun n => stepN g (fieldN l n)) a = 0
  | [], _, _, _ => rfl
  | n :: ns, a, hm, hp => by
    obtain ⟨k, _, _, h3, h4⟩ := field_of (hm n (by simp))
    obtain ⟨s, hs⟩ := hl _ h4
    rw [List.pairwise_cons] at hp
    have hw : wrongT (stepN g (fieldN l n)) a g.msgs.length = 0 := step_right hs a (by rw [h3]; exact hp.1 n (by simp))
    rw [List.map_cons, wrongTs, hw]
    have e : (stepN g (fieldN l n)).number = n := h3
    rw [e]
    simp only [ne_eq, not_true_eq_false, if_false]
    exact steps_right hl ns n (fun y hy => hm y (List.mem_cons_of_mem _ hy)) hp.2
theorem nums_rise {m : MI} (h : (m.fields.map FI.number).Pairwise fun a b => a ≠ b) : (numsN m).Pairwise fun a b => a < b := by
  have h1 : (numsN m).Pairwise fun a b => decide (a ≤ b) = true := List.pairwise_mergeSort (fun a b c h1 h2 => by simp at *; omega) (fun a b => by simp; omega) _
  have h2 : (numsN m).Pairwise fun a b => a ≠ b := (List.mergeSort_perm (m.fields.map FI.number) _).symm.pairwise h (fun h => h.symm)
  refine (h1.and h2).imp ?_
  rintro a b ⟨h3, h4⟩
  have h3 := of_decide_eq_true h3
  omega
theorem prog_right {g : GI} {m : MI} (h : wrongM g m = 0) : wrongQ (progN g m) g.msgs.length = 0 := by
  obtain ⟨h1, h2⟩ := msg_right h
  unfold wrongQ
  rw [prog_len, if_neg (by omega)]
  refine steps_right (pass_each _ _ _ h2) (numsN m) 0 (fun n hn => nums_mem hn) ?_
  rw [List.pairwise_cons]
  refine ⟨fun n hn => ?_, nums_rise (first_nums _ _ _ h2)⟩
  obtain ⟨f, hf, rfl⟩ := nums_mem hn
  have := (first_all _ _ _ h2 f hf).1
  simp only [canB, Bool.and_eq_true, decide_eq_true_eq] at this
  omega
theorem progs_right {n : Nat} : ∀ (l : List (List TI)) (i : Nat), (∀ p ∈ l, wrongQ p n = 0) → wrongQs n i l = (0, 0)
  | [], _, _ => rfl
  | p :: l, i, h => by
    rw [wrongQs, h p (by simp)]
    simp only [ne_eq, not_true_eq_false, if_false]
    exact progs_right l _ fun q hq => h q (List.mem_cons_of_mem _ hq)
/-- A right file's programs are right. -/
theorem make_right {g : GI} (h : (wrongL g).1 = 0) : wrongP (makeN g) = (0, 0) := by
  obtain ⟨h1, _, h3⟩ := right_inv h
  unfold wrongP
  rw [make_len, if_neg (by omega)]
  refine progs_right _ _ fun p hp => ?_
  unfold makeN at hp
  obtain ⟨m, hm, rfl⟩ := List.mem_map.1 hp
  exact prog_right (h3 m hm)

end L
end Go.Proofs.YthgbiflfinddiaaGreat

/- The contract of Make. -/
namespace Go.Proofs.YthgbiflfinddiaaGreat
namespace L
open Go.RowKit

theorem ownQ_app {w4 w6 : World} {base : Nat} {v v' : Value} {lo : List (List TI × KV)} {p : List TI} {q : KV} {o : Obj} (h : OwnQ w4 base v lo) (hp : Row ekP w4 base q.v p) (hr : Row ekQ w6 base v' (lo ++ [(p, q)])) (hg : (w4.alloc o).grownBy w6 v.ownBlock) : OwnQ w6 base v' (lo ++ [(p, q)]) := by
  refine ⟨hr, fun y hy => ?_⟩
  have hb : Below w4.heap.size w4 (w4.alloc o) := (Below.refl _ _).alloc (Nat.le_refl _) _
  have hq := h.row
  rcases List.mem_append.1 hy with hy | hy
  · exact ((h.each y hy).below hb).grown hg ((h.each y hy).ne hq (by decide))
  · rw [List.mem_singleton] at hy
    subst hy
    exact (hp.below hb).grown hg (hp.ne hq (by decide))
set_option maxHeartbeats 4000000 in
set_option maxRecDepth 100000 in
theorem make_any {w : World} {vm ve : Value} {g : GI} (hg : GRd w vm ve g) (hn1 : g.msgs.length ≤ 140737488355328) (hn2 : g.enums.length ≤ 140737488355328) (hf : Fits g) :
    Calls Tryz.prog 5 #[.agg #[vm, ve]] w fun e w' => Below w.heap.size w w' ∧
      (((wrongL g).1 ≠ 0 ∧ e = .returned (.tuple #[.slice none 0 0, .agg #[.int .i64 (wrongL g).1, .int .i64 (((wrongL g).2 : Nat) : Int)]])) ∨
       ((wrongL g).1 = 0 ∧ ∃ ao n cap l, e = .returned (.tuple #[.slice ao n cap, .agg #[.int .i64 0, .int .i64 0]]) ∧ OwnQ w' w.heap.size (.slice ao n cap) l ∧ l.map Prod.fst = makeN g)) := by
  obtain ⟨a1, n1, c1, rfl, H1, _⟩ := hg.1.shape
  obtain ⟨a2, n2, c2, rfl, H2, _⟩ := hg.2.shape
  obtain ⟨W0, HW0⟩ : ∃ W0, Hid (W0 = (w.alloc (.cells #[.slice a1 n1 c1, .slice a2 n2 c2] 25)).alloc (.cells #[.int .i64 0, .int .i64 0] 33)) := ⟨_, rfl⟩
  have hb0 : Below w.heap.size w W0 := by rw [HW0.out]; exact ((Below.refl _ _).alloc (Nat.le_refl _) _).alloc (by simp) _
  have hz0 : w.heap.size + 2 ≤ W0.heap.size := by rw [HW0.out]; simp
  have x1 : W0.heap[w.heap.size]? = some (.cells #[.slice a1 n1 c1, .slice a2 n2 c2] 25 (0, 0)) := by rw [HW0.out]; exact alloc2_old _ _ _
  have x2 : W0.heap[w.heap.size + 1]? = some (.cells #[.int .i64 0, .int .i64 0] 33 (0, 0)) := by rw [HW0.out]; exact alloc2_new _ _ _
  have hwr := Wrong_any (hg.below hb0) hn1 hn2 hf
  obtain ⟨ze, zi, Hq⟩ : ∃ ze zi, Hid (wrongL g = (ze, zi)) := ⟨_, _, rfl⟩
  rw [Hq.out] at hwr ⊢
  go_enter Tryz.func5, Tryz.ntmps5
  go_wp2_with fail
  rw [← HW0.out]
  refine hwr.mono ?_
  rintro e w1 ⟨rfl, hb1⟩
  have hbw1 : Below w.heap.size w w1 := KBT hb0 hb1
  have hz1 := hb1.size
  have y1 := (hb1.block _ (by omega)).trans x1
  have y2 := (hb1.block _ (by omega)).trans x2
  clear hwr
  obtain ⟨W2, HW2⟩ : ∃ W2, Hid (W2 = w1.alloc (.cells #[.int .i64 ze, .int .i64 (zi : Int)] 33)) := ⟨_, rfl⟩
  have hb2 : Below w1.heap.size w1 W2 := by rw [HW2.out]; exact (Below.refl _ _).alloc (Nat.le_refl _) _
  have hz2 : w1.heap.size + 1 ≤ W2.heap.size := by rw [HW2.out]; simp
  have hbw2 : Below w.heap.size w W2 := KBT hbw1 hb2
  have y3 := (hb2.block _ (by omega)).trans y1
  have y4 := (hb2.block _ (by omega)).trans y2
  have y5 : W2.heap[w1.heap.size]? = some (.cells #[.int .i64 ze, .int .i64 (zi : Int)] 33 (0, 0)) := by rw [HW2.out]; exact heap_alloc_new _ _
  obtain ⟨u0, u1⟩ := blk2 y4
  have f0 := fr_of_blk y4
  obtain ⟨u2, u3⟩ := blk2 y5
  obtain ⟨u4, u5⟩ := blk2 y3
  have u6 := u4
  rw [HW2.out] at u6
  clear y1 y2
  by_cases h0 : ze = 0
  · subst h0
    go_wp2_with fail
    rw [← HW2.out]
    have hr0 := right_inv (g := g) (by rw [Hq.out])
    have hfew : n1 ≤ 10 := by rw [H1.out]; omega
    have hfl : ∀ m ∈ g.msgs, m.fields.length ≤ 16 := fun m hm => (msg_right (hr0.2.2 m hm)).1
    have hlm : (makeN g).length = g.msgs.length := make_len g
    clear hr0
    go_loopg [5, 17] n1 (fun m' v i wr => ∃ (k : Nat) (ao : Option Addr) (no co : Nat) (lo : List (List TI × KV)), k + m' = n1 ∧ i = .int .i64 k ∧ v = .slice ao no co ∧ OwnQ wr W2.heap.size (.slice ao no co) lo ∧ Hid (lo.map Prod.fst = (makeN g).take k) ∧ lo.length ≤ k ∧ Below W2.heap.size W2 wr)
    case atStart => exact ⟨0, none, 0, 0, [], by omega, rfl, rfl, ⟨Row.nil _ _ _, fun _ hp => (List.not_mem_nil hp).elim⟩, by show _ = _; simp, Nat.le_refl _, Below.refl _ _⟩
    case round =>
      obtain ⟨k, ao, no, co, lo, hk, rfl, rfl, hr, HL, hlo, hb⟩ := hrel
      have hzr := hb.size
      have hbwr : Below w.heap.size w wr := KBT hbw2 hb
      by_cases hlt : k < n1
      · obtain ⟨a, Ha⟩ : ∃ a, Hid (g.msgs[k]? = some a) := ⟨g.msgs[k]'(by rw [← H1.out]; exact hlt), List.getElem?_eq_getElem (by rw [← H1.out]; exact hlt)⟩
        obtain ⟨b, off, rfl, hat⟩ := (hg.below hbwr).1.get MAt.plain Ha.out
        obtain ⟨vf, vb, s0, s1, s2, hrf, hrb⟩ := hat.at
        obtain ⟨af, nf, cf, rfl, Hf, _⟩ := hrf.shape
        obtain ⟨ab, nb, cb, rfl, Hb, _⟩ := hrb.shape
        have hki : (k : Int) < (n1 : Int) := by omega
        have hpk : (makeN g)[k]? = some (progN g a) := by unfold makeN; rw [List.getElem?_map, Ha.out]; rfl
        obtain ⟨W3, HW3⟩ : ∃ W3, Hid (W3 = wr.alloc (.cells #[.string (S a.name), .slice af nf cf, .slice ab nb cb] 49)) := ⟨_, rfl⟩
        have hb3 : Below wr.heap.size wr W3 := by rw [HW3.out]; exact (Below.refl _ _).alloc (Nat.le_refl _) _
        have hz3 : wr.heap.size + 1 ≤ W3.heap.size := by rw [HW3.out]; simp
        obtain ⟨p0, p1⟩ := blk2 ((hb.block _ (by omega)).trans y3)
        obtain ⟨q0, q1⟩ := blk2 ((hb3.block _ (by omega)).trans ((hb.block _ (by omega)).trans y3))
        rw [HW3.out] at q0 q1
        have hpg := programOf_any (m := a) (hg.below (KBT hbwr hb3)) ((hrf.below FAt.stays hb3)) ⟨ab, nb, cb, rfl⟩ (by have := hfl a (List.mem_of_getElem? Ha.out); omega)
        clear hat
        go_wp2_with fail
        rw [← HW3.out]
        refine hpg.mono ?_
        rintro e w4 ⟨a5, n5, c5, rfl, hr5, hb5⟩
        have hB4 : Below W2.heap.size W2 w4 := KBT (KBT hb hb3) hb5
        have hr4 : OwnQ w4 W2.heap.size (.slice ao no co) lo := (hr.below hb3).below hb5
        have hr5' : Row ekP w4 W2.heap.size (KV.v (a5, n5, c5)) (progN g a) := hr5.mono (by have := hb.size; omega)
        clear hr hr5 hpg
        go_wp2_with (at_builtin; refine wpList_appG (by rfl) ekQ _ _ (by rfl) W2.heap.size (.slice ao no co) lo [(progN g a, (a5, n5, c5))] (by rfl) ?a1 (some ⟨w4.heap.size, 0, none⟩) 1 1 (by rfl) (by rfl) ?a2 ?a3 (by decide) ?a4 ?a5 ?_)
        case a1 => exact hr4.row.below ((Below.refl _ _).alloc (Nat.le_refl _) _)
        case a2 => intro e; cases e
        case a3 => exact kone_src ekQ w4 (progN g a, (a5, n5, c5))
        case a4 => simp [ekQ]; omega
        case a5 => exact (KB_alloc hB4 (Nat.le_refl _) _).size
        intro v' w6 hr6 hg6
        obtain ⟨a6, n6, c6, rfl, _⟩ := hr6.shape'
        have hB6 : Below W2.heap.size W2 w6 := kB_app (KB_alloc hB4 (Nat.le_refl _) _) (Nat.le_refl _) hg6 (fun k hk => (hr4.row.own k hk).1)
        have hq6 : OwnQ w6 W2.heap.size (.slice a6 n6 c6) (lo ++ [(progN g a, (a5, n5, c5))]) := ownQ_app hr4 hr5' hr6 hg6
        have HL' : Hid ((lo ++ [(progN g a, ((a5, n5, c5) : KV))]).map Prod.fst = (makeN g).take (k + 1)) := by
          show _ = _
          rw [List.map_append, HL.out, take_snoc hpk]; rfl
        clear hr6
        go_wp2_with fail
        go_roundg (n1 - (k + 1))
        case measure => omega
        case rel => exact ⟨k + 1, a6, n6, c6, _, by omega, by go_num, rfl, hq6, HL', by simp; omega, hB6⟩
      · have HL' : Hid (lo.map Prod.fst = makeN g) := by
          have := HL.out
          rw [List.take_of_length_le (by rw [hlm, ← H1.out]; omega)] at this
          exact this
        obtain ⟨q0, q1⟩ := blk2 ((hb.block _ (by omega)).trans y4)
        have f1 := fr_of_blk ((hb.block _ (by omega)).trans y4)
        clear u0 u1 f0 u2 u3 u4 u5 u6
        go_wp2_with fail
        refine bodyPost_ret (v := .tuple #[.slice ao no co, .agg #[.int .i64 0, .int .i64 0]]) (by simp [results, Tryz.results5, go_sem, *]) rfl ?_
        exact ⟨KB_set (KB_set hbwr (by omega)) (by omega), ao, no, co, rfl, lo, (((hr.low (by omega) 0 _).low (by omega) 1 _)).mono (by omega), HL'.out⟩
  · have hne : (ze != 0) = true := by simpa using h0
    go_wp2_with fail
    rw [← HW2.out]
    go_region
    all_goals
      go_wp2_with fail
      refine bodyPost_ret (v := .tuple #[.slice none 0 0, .agg #[.int .i64 ze, .int .i64 (zi : Int)]]) (by simp [results, Tryz.results5, go_sem, *]) rfl ?_
      exact ⟨(KB_set (KB_set hbw2 (by omega)) (by omega)).drew, .inl ⟨h0, rfl⟩⟩

end L
end Go.Proofs.YthgbiflfinddiaaGreat

