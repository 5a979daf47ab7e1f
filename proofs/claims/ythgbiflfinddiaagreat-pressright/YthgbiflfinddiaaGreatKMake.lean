/- The contract of Make. -/
import Derived.Test.YthgbiflfinddiaaGreatKProg
import Derived.Test.YthgbiflfinddiaaGreatKPure
namespace Go.Proofs.YthgbiflfinddiaaGreat
namespace L
open Go.RowKit

theorem ownQ_app {w4 w6 : World} {base : Nat} {v v' : Value} {lo : List (List TI × KV)} {p : List TI} {q : KV} {o : Obj} (h : OwnQ w4 base v lo) (hp : Row ekP w4 base q.v p) (hr : Row ekQ w6 base v' (lo ++ [(p, q)])) (hg : (w4.alloc o).grownBy w6 v.ownBlock) : OwnQ w6 base v' (lo ++ [(p, q)]) := by
  refine ⟨hr, fun y hy => ?_⟩
  have hb : Below w4.heap.size w4 (w4.alloc o) := (Below.refl _ _).alloc (Nat.le_refl _) _
  have hq := h.row
  rcases List.mem_append.1 hy with hy | hy
  · exact ((h.each y hy).below hb).grown hg ((h.each y hy).ne hq (by decide))
  · rw [List.mem_singleton] at hy
    subst hy
    exact (hp.below hb).grown hg (hp.ne hq (by decide))
set_option maxHeartbeats 4000000 in
set_option maxRecDepth 100000 in
theorem make_any {w : World} {vm ve : Value} {g : GI} (hg : GRd w vm ve g) (hn1 : g.msgs.length ≤ 140737488355328) (hn2 : g.enums.length ≤ 140737488355328) (hf : Fits g) :
    Calls Tryz.prog 5 #[.agg #[vm, ve]] w fun e w' => Below w.heap.size w w' ∧
      (((wrongL g).1 ≠ 0 ∧ e = .returned (.tuple #[.slice none 0 0, .agg #[.int .i64 (wrongL g).1, .int .i64 (((wrongL g).2 : Nat) : Int)]])) ∨
       ((wrongL g).1 = 0 ∧ ∃ ao n cap l, e = .returned (.tuple #[.slice ao n cap, .agg #[.int .i64 0, .int .i64 0]]) ∧ OwnQ w' w.heap.size (.slice ao n cap) l ∧ l.map Prod.fst = makeN g)) := by
  obtain ⟨a1, n1, c1, rfl, H1, _⟩ := hg.1.shape
  obtain ⟨a2, n2, c2, rfl, H2, _⟩ := hg.2.shape
  obtain ⟨W0, HW0⟩ : ∃ W0, Hid (W0 = (w.alloc (.cells #[.slice a1 n1 c1, .slice a2 n2 c2] 25)).alloc (.cells #[.int .i64 0, .int .i64 0] 33)) := ⟨_, rfl⟩
  have hb0 : Below w.heap.size w W0 := by rw [HW0.out]; exact ((Below.refl _ _).alloc (Nat.le_refl _) _).alloc (by simp) _
  have hz0 : w.heap.size + 2 ≤ W0.heap.size := by rw [HW0.out]; simp
  have x1 : W0.heap[w.heap.size]? = some (.cells #[.slice a1 n1 c1, .slice a2 n2 c2] 25 (0, 0)) := by rw [HW0.out]; exact alloc2_old _ _ _
  have x2 : W0.heap[w.heap.size + 1]? = some (.cells #[.int .i64 0, .int .i64 0] 33 (0, 0)) := by rw [HW0.out]; exact alloc2_new _ _ _
  have hwr := Wrong_any (hg.below hb0) hn1 hn2 hf
  obtain ⟨ze, zi, Hq⟩ : ∃ ze zi, Hid (wrongL g = (ze, zi)) := ⟨_, _, rfl⟩
  rw [Hq.out] at hwr ⊢
  go_enter Tryz.func5, Tryz.ntmps5
  go_wp2_with fail
  rw [← HW0.out]
  refine hwr.mono ?_
  rintro e w1 ⟨rfl, hb1⟩
  have hbw1 : Below w.heap.size w w1 := KBT hb0 hb1
  have hz1 := hb1.size
  have y1 := (hb1.block _ (by omega)).trans x1
  have y2 := (hb1.block _ (by omega)).trans x2
  clear hwr
  obtain ⟨W2, HW2⟩ : ∃ W2, Hid (W2 = w1.alloc (.cells #[.int .i64 ze, .int .i64 (zi : Int)] 33)) := ⟨_, rfl⟩
  have hb2 : Below w1.heap.size w1 W2 := by rw [HW2.out]; exact (Below.refl _ _).alloc (Nat.le_refl _) _
  have hz2 : w1.heap.size + 1 ≤ W2.heap.size := by rw [HW2.out]; simp
  have hbw2 : Below w.heap.size w W2 := KBT hbw1 hb2
  have y3 := (hb2.block _ (by omega)).trans y1
  have y4 := (hb2.block _ (by omega)).trans y2
  have y5 : W2.heap[w1.heap.size]? = some (.cells #[.int .i64 ze, .int .i64 (zi : Int)] 33 (0, 0)) := by rw [HW2.out]; exact heap_alloc_new _ _
  obtain ⟨u0, u1⟩ := blk2 y4
  have f0 := fr_of_blk y4
  obtain ⟨u2, u3⟩ := blk2 y5
  obtain ⟨u4, u5⟩ := blk2 y3
  have u6 := u4
  rw [HW2.out] at u6
  clear y1 y2
  by_cases h0 : ze = 0
  · subst h0
    go_wp2_with fail
    rw [← HW2.out]
    have hr0 := right_inv (g := g) (by rw [Hq.out])
    have hfew : n1 ≤ 10 := by rw [H1.out]; omega
    have hfl : ∀ m ∈ g.msgs, m.fields.length ≤ 16 := fun m hm => (msg_right (hr0.2.2 m hm)).1
    have hlm : (makeN g).length = g.msgs.length := make_len g
    clear hr0
    go_loopg [5, 17] n1 (fun m' v i wr => ∃ (k : Nat) (ao : Option Addr) (no co : Nat) (lo : List (List TI × KV)), k + m' = n1 ∧ i = .int .i64 k ∧ v = .slice ao no co ∧ OwnQ wr W2.heap.size (.slice ao no co) lo ∧ Hid (lo.map Prod.fst = (makeN g).take k) ∧ lo.length ≤ k ∧ Below W2.heap.size W2 wr)
    case atStart => exact ⟨0, none, 0, 0, [], by omega, rfl, rfl, ⟨Row.nil _ _ _, fun _ hp => (List.not_mem_nil hp).elim⟩, by show _ = _; simp, Nat.le_refl _, Below.refl _ _⟩
    case round =>
      obtain ⟨k, ao, no, co, lo, hk, rfl, rfl, hr, HL, hlo, hb⟩ := hrel
      have hzr := hb.size
      have hbwr : Below w.heap.size w wr := KBT hbw2 hb
      by_cases hlt : k < n1
      · obtain ⟨a, Ha⟩ : ∃ a, Hid (g.msgs[k]? = some a) := ⟨g.msgs[k]'(by rw [← H1.out]; exact hlt), List.getElem?_eq_getElem (by rw [← H1.out]; exact hlt)⟩
        obtain ⟨b, off, rfl, hat⟩ := (hg.below hbwr).1.get MAt.plain Ha.out
        obtain ⟨vf, vb, s0, s1, s2, hrf, hrb⟩ := hat.at
        obtain ⟨af, nf, cf, rfl, Hf, _⟩ := hrf.shape
        obtain ⟨ab, nb, cb, rfl, Hb, _⟩ := hrb.shape
        have hki : (k : Int) < (n1 : Int) := by omega
        have hpk : (makeN g)[k]? = some (progN g a) := by unfold makeN; rw [List.getElem?_map, Ha.out]; rfl
        obtain ⟨W3, HW3⟩ : ∃ W3, Hid (W3 = wr.alloc (.cells #[.string (S a.name), .slice af nf cf, .slice ab nb cb] 49)) := ⟨_, rfl⟩
        have hb3 : Below wr.heap.size wr W3 := by rw [HW3.out]; exact (Below.refl _ _).alloc (Nat.le_refl _) _
        have hz3 : wr.heap.size + 1 ≤ W3.heap.size := by rw [HW3.out]; simp
        obtain ⟨p0, p1⟩ := blk2 ((hb.block _ (by omega)).trans y3)
        obtain ⟨q0, q1⟩ := blk2 ((hb3.block _ (by omega)).trans ((hb.block _ (by omega)).trans y3))
        rw [HW3.out] at q0 q1
        have hpg := programOf_any (m := a) (hg.below (KBT hbwr hb3)) ((hrf.below FAt.stays hb3)) ⟨ab, nb, cb, rfl⟩ (by have := hfl a (List.mem_of_getElem? Ha.out); omega)
        clear hat
        go_wp2_with fail
        rw [← HW3.out]
        refine hpg.mono ?_
        rintro e w4 ⟨a5, n5, c5, rfl, hr5, hb5⟩
        have hB4 : Below W2.heap.size W2 w4 := KBT (KBT hb hb3) hb5
        have hr4 : OwnQ w4 W2.heap.size (.slice ao no co) lo := (hr.below hb3).below hb5
        have hr5' : Row ekP w4 W2.heap.size (KV.v (a5, n5, c5)) (progN g a) := hr5.mono (by have := hb.size; omega)
        clear hr hr5 hpg
        go_wp2_with (at_builtin; refine wpList_appG (by rfl) ekQ _ _ (by rfl) W2.heap.size (.slice ao no co) lo [(progN g a, (a5, n5, c5))] (by rfl) ?a1 (some ⟨w4.heap.size, 0, none⟩) 1 1 (by rfl) (by rfl) ?a2 ?a3 (by decide) ?a4 ?a5 ?_)
        case a1 => exact hr4.row.below ((Below.refl _ _).alloc (Nat.le_refl _) _)
        case a2 => intro e; cases e
        case a3 => exact kone_src ekQ w4 (progN g a, (a5, n5, c5))
        case a4 => simp [ekQ]; omega
        case a5 => exact (KB_alloc hB4 (Nat.le_refl _) _).size
        intro v' w6 hr6 hg6
        obtain ⟨a6, n6, c6, rfl, _⟩ := hr6.shape'
        have hB6 : Below W2.heap.size W2 w6 := kB_app (KB_alloc hB4 (Nat.le_refl _) _) (Nat.le_refl _) hg6 (fun k hk => (hr4.row.own k hk).1)
        have hq6 : OwnQ w6 W2.heap.size (.slice a6 n6 c6) (lo ++ [(progN g a, (a5, n5, c5))]) := ownQ_app hr4 hr5' hr6 hg6
        have HL' : Hid ((lo ++ [(progN g a, ((a5, n5, c5) : KV))]).map Prod.fst = (makeN g).take (k + 1)) := by
          show _ = _
          rw [List.map_append, HL.out, take_snoc hpk]; rfl
        clear hr6
        go_wp2_with fail
        go_roundg (n1 - (k + 1))
        case measure => omega
        case rel => exact ⟨k + 1, a6, n6, c6, _, by omega, by go_num, rfl, hq6, HL', by simp; omega, hB6⟩
      · have HL' : Hid (lo.map Prod.fst = makeN g) := by
          have := HL.out
          rw [List.take_of_length_le (by rw [hlm, ← H1.out]; omega)] at this
          exact this
        obtain ⟨q0, q1⟩ := blk2 ((hb.block _ (by omega)).trans y4)
        have f1 := fr_of_blk ((hb.block _ (by omega)).trans y4)
        clear u0 u1 f0 u2 u3 u4 u5 u6
        go_wp2_with fail
        refine bodyPost_ret (v := .tuple #[.slice ao no co, .agg #[.int .i64 0, .int .i64 0]]) (by simp [results, Tryz.results5, go_sem, *]) rfl ?_
        exact ⟨KB_set (KB_set hbwr (by omega)) (by omega), ao, no, co, rfl, lo, (((hr.low (by omega) 0 _).low (by omega) 1 _)).mono (by omega), HL'.out⟩
  · have hne : (ze != 0) = true := by simpa using h0
    go_wp2_with fail
    rw [← HW2.out]
    go_region
    all_goals
      go_wp2_with fail
      refine bodyPost_ret (v := .tuple #[.slice none 0 0, .agg #[.int .i64 ze, .int .i64 (zi : Int)]]) (by simp [results, Tryz.results5, go_sem, *]) rfl ?_
      exact ⟨(KB_set (KB_set hbw2 (by omega)) (by omega)).drew, .inl ⟨h0, rfl⟩⟩

end L
end Go.Proofs.YthgbiflfinddiaaGreat
