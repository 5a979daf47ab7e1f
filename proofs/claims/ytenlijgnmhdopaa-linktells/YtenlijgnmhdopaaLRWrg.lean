/- The document's own answer: the contract of Wrong. -/
import Derived.Test.YtenlijgnmhdopaaLRFld
import Derived.Maps.OwnOps
import Derived.Maps.Views
import Derived.Maps.OwnSet
namespace Go.Proofs.Ytenlijgnmhdopaa
namespace L
open Go.RowKit Go.WideMaps Go.Maps

theorem keyed : Keyed Try.prog 9 := string_keyed Try.underlying9
theorem zeroI (w : World) : (zeroValue 3).run Try.prog w = .ok (.int .i64 0) w := by kernel_rfl
theorem own_below {w w' : World} {b n : Nat} {D : DataW Unit} (h : w.ownsMap Try.prog 9 (plainElem Try.prog 3) b n D) (hb : Below w.heap.size w w') : w'.ownsMap Try.prog 9 (plainElem Try.prog 3) b n D := by
  have hlt := h.lt
  obtain ⟨es, clock, h1, F, hs, hD⟩ := h
  exact ⟨es, clock, (hb.block b hlt).trans h1, F, hs, hD⟩
/-- How often each name was there. -/
def CntD (D : DataW Unit) (pre : List (List UInt8)) : Prop := ∀ s : List UInt8, D.atKey (.string s) (.lit (.int .i64 0)) = .lit (.int .i64 ((pre.count s : Nat) : Int))
theorem CntD.nil : CntD (.map []) [] := fun _ => rfl
theorem CntD.put {D : DataW Unit} {pre : List (List UInt8)} {s : List UInt8} {c : Int} (h : CntD D pre) (hD : IsMap D) (hc : c = (pre.count s : Nat)) : CntD (D.put (.string s) (.lit (.int .i64 (c + 1)))) (pre ++ [s]) := by
  intro t
  by_cases e : t = s
  · subst e
    rw [atKey_put_same hD (show WideAt.IsKeyLit (.string t) from trivial), hc]
    simp
  · rw [atKey_put_other (by simpa using e), h t]
    have : ([s] : List (List UInt8)).count t = 0 := by simp [List.count_cons]; exact fun h => e h.symm
    rw [List.count_append, this, Nat.add_zero]
theorem CntD.get {D : DataW Unit} {pre : List (List UInt8)} {s : List UInt8} {c : Int} (h : CntD D pre) (hc : D.atKey (.string s) (.lit (.int .i64 0)) = .lit (.int .i64 c)) : c = (pre.count s : Nat) := by
  have := (h s).symm.trans hc
  injection this with h1
  injection h1 with _ h2
  exact h2.symm
theorem refN_step {l : List (List UInt8)} {k : Nat} {s : List UInt8} (h : l[k]? = some s) : refNGo k (l.take k) (l.drop k) = if freeB s = false ∨ s ∈ l.take k then (7, k) else refNGo (k + 1) (l.take (k + 1)) (l.drop (k + 1)) := by
  obtain ⟨hk, e⟩ := List.getElem?_eq_some_iff.1 h
  rw [List.drop_eq_getElem_cons hk, e, refNGo, take_snoc h]

set_option maxHeartbeats 1000000 in
set_option maxRecDepth 100000 in
theorem bad_call {W : World} {p q : Nat} {a1 : Option Addr} {n1 c1 : Nat} {ve : Value} {k : Nat} (hp : W.heap[p]? = some (.cells #[.slice a1 n1 c1, ve] 45 (0, 0))) (hq : W.heap[q]? = some (.cells #[.int .i64 (k : Int)] 3 (0, 0))) (h1 : n1 ≤ 1000) (h2 : k ≤ 1000) (e : Int) :
    Calls Try.prog 35 #[.int .i64 e, .pointer (some ⟨p, 0, none⟩), .pointer (some ⟨q, 0, none⟩)] W fun r W' => r = .returned (.agg #[.int .i64 e, .int .i64 ((n1 : Int) + (k : Int))]) ∧ Below W.heap.size W W' := by
  have c0 := cell_of_blk hp 0 _ rfl
  have c1 := cell_of_blk hq 0 _ rfl
  have l0 : p < W.heap.size := (Array.getElem?_eq_some_iff.1 hp).1
  have l1 : q < W.heap.size := (Array.getElem?_eq_some_iff.1 hq).1
  have hs : (n1 : Int) + (k : Int) ≤ 2000 := by omega
  go_enter Try.func35, Try.ntmps35
  go_wp2
  refine bodyPost_ret (v := .agg #[.int .i64 e, .int .i64 ((n1 : Int) + (k : Int))]) (by simp [results, Try.results35, go_sem, *]) rfl ?_
  exact ⟨rfl, (Below.refl _ _).alloc (Nat.le_refl _) _⟩
set_option maxRecDepth 100000 in
theorem sliceT {ao : Option Addr} {len cap : Nat} {k : Nat} (hk : k ≤ len) (hc : len ≤ cap) (w : World) :
    (Instr.slice 70 (.slice ao len cap) none (some (.int .i64 (k : Int))) none).run Try.prog w = .ok (.slice ao k cap) w := by
  have := run_slice_h (P := Try.prog) (w := w) 70 ao len cap Try.underlying70 .i64 (k : Int) (by omega) (by omega)
  rw [this]
  have e1 : (sizeOf (Try.prog.elem 70)).run Try.prog w = .ok 2 w := by rfl
  rw [e1]
  have e2 : ao.map (fun x => x.add 0) = ao := by cases ao <;> rfl
  simp [Result.andThen, sliced, e2]
theorem msg_name {g : GI} {k : Nat} {a : MI} (h : g.msgs[k]? = some a) : (namesL g)[k]? = some a.name := by
  have hk : k < g.msgs.length := (List.getElem?_eq_some_iff.1 h).1
  unfold namesL
  rw [List.getElem?_append_left (by simpa using hk), List.getElem?_map, h]; rfl
theorem enm_name {g : GI} {n k : Nat} {a : EI} (hn : n = g.msgs.length) (h : g.enums[k]? = some a) : (namesL g)[n + k]? = some a.name := by
  unfold namesL
  rw [List.getElem?_append_right (by simp; omega), List.length_map, hn, Nat.add_sub_cancel_left, List.getElem?_map, h]; rfl

set_option maxHeartbeats 4000000 in
set_option maxRecDepth 100000 in
theorem rwrong_any {w : World} {vm ve : Value} {g : GI} (hg : GRd w vm ve g) (hn1 : g.msgs.length ≤ 140737488355328) (hn2 : g.enums.length ≤ 140737488355328) (hf : Fits g) :
    Calls Try.prog 16 #[.agg #[vm, ve]] w fun e w' => e = .returned (.agg #[.int .i64 (wrongL g).1, .int .i64 (((wrongL g).2 : Nat) : Int)]) ∧ Below w.heap.size w w' := by
  obtain ⟨a1, n1, c1, rfl, H1, _⟩ := hg.1.shape
  obtain ⟨a2, n2, c2, rfl, H2, _⟩ := hg.2.shape
  have h1 : n1 ≤ 140737488355328 := by rw [H1.out]; exact hn1
  have h2 : n2 ≤ 140737488355328 := by rw [H2.out]; exact hn2
  have hmm := @run_makeMap Try.prog
  obtain ⟨W2, HW2⟩ : ∃ W2, Hid (W2 = (w.alloc (.cells #[.slice a1 n1 c1, .slice a2 n2 c2] 45)).alloc (.cells #[.int .i64 0, .int .i64 0] 34)) := ⟨_, rfl⟩
  have hb2 : Below w.heap.size w W2 := by rw [HW2.out]; exact ((Below.refl _ _).alloc (Nat.le_refl _) _).alloc (by simp) _
  have hx1 : W2.heap[w.heap.size]? = some (.cells #[.slice a1 n1 c1, .slice a2 n2 c2] 45 (0, 0)) := by rw [HW2.out]; exact alloc2_old _ _ _
  have hx2 : W2.heap[w.heap.size + 1]? = some (.cells #[.int .i64 0, .int .i64 0] 34 (0, 0)) := by rw [HW2.out]; exact alloc2_new _ _ _
  have hz2 : W2.heap.size = w.heap.size + 1 + 1 := by rw [HW2.out]; simp
  obtain ⟨B, HB⟩ : ∃ B, Hid (B = w.heap.size + 1 + 1) := ⟨_, rfl⟩
  have hB1 : B ≤ w.heap.size + 2 := Nat.le_of_eq HB.out
  have hB2 : w.heap.size + 2 ≤ B := Nat.le_of_eq HB.out.symm
  have hcl : ∀ V, Below B W2 V → V.heap[w.heap.size]? = some (.cells #[.slice a1 n1 c1, .slice a2 n2 c2] 45 (0, 0)) ∧ V.heap[w.heap.size + 1]? = some (.cells #[.int .i64 0, .int .i64 0] 34 (0, 0)) ∧ Below w.heap.size w V := fun V hV => ⟨(hV.block _ (by omega)).trans hx1, (hV.block _ (by omega)).trans hx2, hb2.trans (hV.mono (by omega))⟩
  by_cases hbig : 10 < n1 + n2
  · have HE : Hid (wrongL g = (5, 0)) := by show _ = _; rw [wrongL, if_pos (by rw [← H1.out, ← H2.out]; exact hbig)]
    have hbi : (10 : Int) < (n1 : Int) + (n2 : Int) := by omega
    clear hcl hz2
    go_enter Try.func16, Try.ntmps16
    go_wp2
    refine bodyPost_ret (v := .agg #[.int .i64 5, .int .i64 0]) (by simp [results, Try.results16, go_sem, *]) rfl ?_
    exact ⟨by rw [HE.out]; rfl, ((Below.refl _ _).alloc (Nat.le_refl _) _).alloc (by simp) _⟩
  · have hbi : ¬ (10 : Int) < (n1 : Int) + (n2 : Int) := by omega
    have hM0 : (W2.alloc (.map #[] 0)).ownsMap Try.prog 9 (plainElem (H := Unit) Try.prog 3) B 0 (.map []) := by
      have := World.ownsMap_made W2 Try.prog 9 (plainElem (H := Unit) Try.prog 3)
      rw [hz2, ← HB.out] at this
      exact this
    have hb3 : Below B W2 (W2.alloc (.map #[] 0)) := (Below.refl _ _).alloc (by omega) _
    obtain ⟨W3, HW3⟩ : ∃ W3, Hid (W3 = W2.alloc (.map #[] 0)) := ⟨_, rfl⟩
    rw [← HW3.out] at hM0 hb3
    have hz2' := Nat.le_of_eq hz2
    have hz2'' := Nat.le_of_eq hz2.symm
    clear hz2
    go_enter Try.func16, Try.ntmps16
    go_wp2_with fail
    rw [← HW2.out, ← HW3.out, ← HB.out]
    obtain ⟨N, HN⟩ : ∃ N, Hid (N = namesL g) := ⟨_, rfl⟩
    have hNl : N.length ≤ 10 := by rw [HN.out]; simp [namesL]; rw [← H1.out, ← H2.out]; omega
    obtain ⟨NR, HNR⟩ : ∃ NR, Hid (NR = refNGo 0 [] N) := ⟨_, rfl⟩
    have hno : ¬ 10 < g.msgs.length + g.enums.length := by rw [← H1.out, ← H2.out]; exact hbig
    have hFN : firstGo stepS [7] 0 (namesL g) [] = NR := by rw [HNR.out, HN.out]; exact first_refN _ _ _ _ (fun _ => Iff.rfl)
    have HWN : ∀ (e : Int) (j : Nat), NR = (e, j) → e ≠ 0 → Hid (wrongL g = (e, j)) := by
      intro e j h1 h2
      show _ = _
      rw [wrongL, if_neg hno, hFN, h1, if_pos h2]
    have HW0 : Hid (NR.1 = 0 → wrongL g = match msgsGo g 0 (g.msgs.drop 0) with | some q => q | none => match enumsGo 0 g.enums with | some q => (q.1, g.msgs.length + q.2) | none => (0, 0)) := by
      show _ → _
      intro h
      rw [wrongL, if_neg hno, hFN, if_neg (by simp [h])]; rfl
    clear hFN hno
    go_loopg [4, 36] n1 (fun gm at' i wr => ∃ (k : Nat) (D : DataW Unit), k + gm = n1 ∧ at' = .int .i64 (k : Nat) ∧ i = .int .i64 k ∧ wr.ownsMap Try.prog 9 (plainElem Try.prog 3) B k D ∧ CntD D (N.take k) ∧ Hid (NR = refNGo k (N.take k) (N.drop k)) ∧ Below B W2 wr)
    case atStart => exact ⟨0, .map [], by omega, rfl, rfl, hM0, by rw [List.take_zero]; exact CntD.nil, by show _ = _; rw [HNR.out]; rfl, hb3⟩
    case round =>
      obtain ⟨k, D, hk, rfl, rfl, hown, hcnt, HK, hbr⟩ := hrel
      obtain ⟨wo, Hwo⟩ : ∃ wo, wo = wr := ⟨_, rfl⟩
      subst Hwo
      obtain ⟨y1, y2, hbw⟩ := hcl wo hbr
      have hzr : w.heap.size + 3 ≤ wo.heap.size := by have := hown.lt; omega
      by_cases hlt : k < n1
      · obtain ⟨a, Ha⟩ : ∃ a, Hid (g.msgs[k]? = some a) := ⟨g.msgs[k]'(by rw [← H1.out]; exact hlt), List.getElem?_eq_getElem (by rw [← H1.out]; exact hlt)⟩
        obtain ⟨b, off, rfl, hat⟩ := (hg.below hbw).1.get MAt.plain Ha.out
        obtain ⟨vf, vb, s0, s1, s2, hrf, hrb⟩ := hat.at
        obtain ⟨af, nf, cf, rfl, _, _⟩ := hrf.shape
        obtain ⟨ab, nb, cb, rfl, _, _⟩ := hrb.shape
        have hki : (k : Int) < (n1 : Int) := by omega
        have hNk : N[k]? = some a.name := by rw [HN.out]; exact msg_name Ha.out
        have hfit := (hf.1 a (mem_at Ha.out)).1
        have hkey : keyOf Try.prog 9 (.string (S a.name)) = some (.string a.name) := by
          have := keyOf_string_mk (P := Try.prog) Try.underlying9 (s := S a.name) (by rw [S_size]; unfold maxLen; omega)
          rw [this]; simp [S]
        obtain ⟨Wm, HWm⟩ : ∃ Wm, Hid (Wm = wo.alloc (.cells #[.string (S a.name), .slice af nf cf, .slice ab nb cb] 68)) := ⟨_, rfl⟩
        have hbm : Below wo.heap.size wo Wm := by rw [HWm.out]; exact (Below.refl _ _).alloc (Nat.le_refl _) _
        have hownm := own_below hown hbm
        have hXm : Wm.heap[wo.heap.size]? = some (.cells #[.string (S a.name), .slice af nf cf, .slice ab nb cb] 68 (0, 0)) := by rw [HWm.out]; exact heap_alloc_new _ _
        have hbrm : Below B W2 Wm := hbr.trans (hbm.mono (by omega))
        obtain ⟨c, hrun, hatc, _⟩ := hownm.lookup_int keyed Try.underlying74 Try.underlying3 (zeroI _) hkey
        have hc := hcnt.get hatc
        have hcl10 : (N.take k).count a.name ≤ 10 := by have h1 := List.count_le_length (a := a.name) (l := N.take k); have h2 := List.length_take_le (k) N; omega
        have hc0 : 0 ≤ c := by rw [hc]; omega
        have hc1 : c ≤ 10 := by rw [hc]; omega
        have HC : Hid (c = ((N.take k).count a.name : Nat)) := hc
        have hm1 := hownm.isMap
        have hcnt2 := hcnt.put (s := a.name) (c := c) hm1 hc
        rw [HWm.out] at hownm hrun
        clear hat hc hcl10 hatc hcnt hown
        go_wp2_with (at_mapUpdate; refine wpList_mapUpdate_own _ rfl _ _ _ 74 rfl 9 3 keyed Try.underlying74 _ B k _ rfl hownm (by unfold maxLen; omega) _ _ _ rfl rfl hkey _ [] (plainElem_int Try.underlying3 (WalkArith.wf_i64 (by omega))) ?_)
        intro w1 hown1 hg1
        rw [← HWm.out] at hg1
        have hB1w : Below B W2 w1 := hbrm.grown hg1 (by have := hbrm.size; omega) (fun j hj => by cases hj; exact Nat.le_refl _)
        have hX1 := (hg1.block wo.heap.size (Array.getElem?_eq_some_iff.1 hXm).1 (fun hh => by cases hh; omega)).trans hXm
        obtain ⟨t0, _, _⟩ := blk3 hX1
        have hfr := rfree_any a.name hfit w1
        clear hrun hownm
        cases hq : freeB a.name with
        | false =>
          have HE : Hid (wrongL g = (7, k)) := HWN _ _ (by rw [HK.out, refN_step hNk, if_pos (.inl hq)]) (by decide)
          rw [hq] at hfr
          clear hq
          go_wp2_with fail
          refine hfr.mono ?_
          rintro e w2 ⟨rfl, hb2'⟩
          obtain ⟨_, y3, hbw3⟩ := hcl w2 (hB1w.trans (hb2'.mono (by have := hB1w.size; omega)))
          obtain ⟨z0, z1⟩ := blk2 y3
          have f0 := fr_of_blk y3 0
          have f1 := fr_of_blk y3 1
          clear hcl
          go_wp2
          refine bodyPost_ret (v := .agg #[.int .i64 7, .int .i64 (k : Nat)]) (by simp [results, Try.results16, go_sem, *]) rfl ?_
          exact ⟨by rw [HE.out], setR hbw3 _ _⟩
        | true =>
          rw [hq] at hfr
          go_wp2_with fail
          refine hfr.mono ?_
          rintro e w2 ⟨rfl, hb2'⟩
          have hB2w : Below B W2 w2 := hB1w.trans (hb2'.mono (by have := hB1w.size; omega))
          have hown2 := own_below hown1 hb2'
          have hX2 := (hb2'.block wo.heap.size (Array.getElem?_eq_some_iff.1 hX1).1).trans hX1
          obtain ⟨t1, _, _⟩ := blk3 hX2
          obtain ⟨c2, hrun2, hat2, _⟩ := hown2.lookup_int keyed Try.underlying74 Try.underlying3 (zeroI _) hkey
          have hc2 : c2 = c + 1 := by
            have := hcnt2.get hat2
            rw [this, HC.out]; simp
          subst hc2
          have hT : N.take (k + 1) = N.take k ++ [a.name] := take_snoc hNk
          obtain ⟨_, y3, hbw3⟩ := hcl w2 hB2w
          obtain ⟨z0, z1⟩ := blk2 y3
          have f0 := fr_of_blk y3 0
          have f1 := fr_of_blk y3 1
          by_cases hz : c = 0
          · have HK2 : Hid (NR = refNGo (k + 1) (N.take (k + 1)) (N.drop (k + 1))) := by
              show _ = _
              rw [HK.out, refN_step hNk, if_neg]
              rintro (h | h)
              · rw [hq] at h; cases h
              · have := List.count_pos_iff.2 h
                have := HC.out
                omega
            have hcnt3 : CntD (D.put (.string a.name) (.lit (.int .i64 (c + 1)))) (N.take (k + 1)) := by rw [hT]; exact hcnt2
            have hng : ¬ (1 : Int) < c + 1 := by omega
            clear hq hz hcl hT hcnt2 hat2
            go_wp2_with fail
            go_roundg (n1 - (k + 1))
            case measure => omega
            case rel => exact ⟨k + 1, _, by omega, by go_num, by go_num, hown2, hcnt3, HK2, hB2w⟩
          · have HE : Hid (wrongL g = (7, k)) := HWN _ _ (by
              rw [HK.out, refN_step hNk, if_pos (.inr (List.count_pos_iff.1 (by have := HC.out; omega)))]) (by decide)
            have hng : (1 : Int) < c + 1 := by omega
            clear hq hz hcl hT hcnt2 hat2
            go_wp2
            refine bodyPost_ret (v := .agg #[.int .i64 7, .int .i64 (k : Nat)]) (by simp [results, Try.results16, go_sem, *]) rfl ?_
            exact ⟨by rw [HE.out], setR hbw3 _ _⟩
      · obtain ⟨z0, z1⟩ := blk2 y1
        have HKN : Hid (n1 = k) := by show _ = _; omega
        go_wp2_with fail
        go_loopg [4, 64] n2 (fun gm at' i wr => ∃ (k : Nat) (D : DataW Unit), k + gm = n2 ∧ at' = .int .i64 ((n1 + k) : Nat) ∧ i = .int .i64 k ∧ wr.ownsMap Try.prog 9 (plainElem Try.prog 3) B (n1 + k) D ∧ CntD D (N.take (n1 + k)) ∧ Hid (NR = refNGo (n1 + k) (N.take (n1 + k)) (N.drop (n1 + k))) ∧ Below B W2 wr)
        case atStart => exact ⟨0, D, by omega, by rw [Nat.add_zero, HKN.out], rfl, by rw [Nat.add_zero, HKN.out]; exact hown, by rw [Nat.add_zero, HKN.out]; exact hcnt, by rw [Nat.add_zero, HKN.out]; exact HK, hbr⟩
        case round =>
          clear hown hcnt HK hbr y1 y2 hbw hzr z0 z1 HKN hlt hk
          obtain ⟨k, D, hk, rfl, rfl, hown, hcnt, HK, hbr⟩ := hrel
          obtain ⟨wo, Hwo⟩ : ∃ wo, wo = wr := ⟨_, rfl⟩
          subst Hwo
          obtain ⟨y1, y2, hbw⟩ := hcl wo hbr
          have hzr : w.heap.size + 3 ≤ wo.heap.size := by have := hown.lt; omega
          by_cases hlt : k < n2
          · obtain ⟨a, Ha⟩ : ∃ a, Hid (g.enums[k]? = some a) := ⟨g.enums[k]'(by rw [← H2.out]; exact hlt), List.getElem?_eq_getElem (by rw [← H2.out]; exact hlt)⟩
            obtain ⟨b, off, rfl, hat⟩ := (hg.below hbw).2.get EAt.plain Ha.out
            obtain ⟨vi, s0, s1, hri⟩ := hat.at
            obtain ⟨ai, ni, ci, rfl, _, _⟩ := hri.shape
            have hki : (k : Int) < (n2 : Int) := by omega
            have hNk : N[(n1 + k)]? = some a.name := by rw [HN.out]; exact enm_name H1.out Ha.out
            have hfit := (hf.2 a (mem_at Ha.out)).1
            have hkey : keyOf Try.prog 9 (.string (S a.name)) = some (.string a.name) := by
              have := keyOf_string_mk (P := Try.prog) Try.underlying9 (s := S a.name) (by rw [S_size]; unfold maxLen; omega)
              rw [this]; simp [S]
            obtain ⟨Wm, HWm⟩ : ∃ Wm, Hid (Wm = wo.alloc (.cells #[.string (S a.name), .slice ai ni ci] 72)) := ⟨_, rfl⟩
            have hbm : Below wo.heap.size wo Wm := by rw [HWm.out]; exact (Below.refl _ _).alloc (Nat.le_refl _) _
            have hownm := own_below hown hbm
            have hXm : Wm.heap[wo.heap.size]? = some (.cells #[.string (S a.name), .slice ai ni ci] 72 (0, 0)) := by rw [HWm.out]; exact heap_alloc_new _ _
            have hbrm : Below B W2 Wm := hbr.trans (hbm.mono (by omega))
            obtain ⟨c, hrun, hatc, _⟩ := hownm.lookup_int keyed Try.underlying74 Try.underlying3 (zeroI _) hkey
            have hc := hcnt.get hatc
            have hcl10 : (N.take (n1 + k)).count a.name ≤ 10 := by have h1 := List.count_le_length (a := a.name) (l := N.take (n1 + k)); have h2 := List.length_take_le (n1 + k) N; omega
            have hc0 : 0 ≤ c := by rw [hc]; omega
            have hc1 : c ≤ 10 := by rw [hc]; omega
            have HC : Hid (c = ((N.take (n1 + k)).count a.name : Nat)) := hc
            have hm1 := hownm.isMap
            have hcnt2 := hcnt.put (s := a.name) (c := c) hm1 hc
            rw [HWm.out] at hownm hrun
            clear hat hc hcl10 hatc hcnt hown
            go_wp2_with (at_mapUpdate; refine wpList_mapUpdate_own _ rfl _ _ _ 74 rfl 9 3 keyed Try.underlying74 _ B (n1 + k) _ rfl hownm (by unfold maxLen; omega) _ _ _ rfl rfl hkey _ [] (plainElem_int Try.underlying3 (WalkArith.wf_i64 (by omega))) ?_)
            intro w1 hown1 hg1
            rw [← HWm.out] at hg1
            have hB1w : Below B W2 w1 := hbrm.grown hg1 (by have := hbrm.size; omega) (fun j hj => by cases hj; exact Nat.le_refl _)
            have hX1 := (hg1.block wo.heap.size (Array.getElem?_eq_some_iff.1 hXm).1 (fun hh => by cases hh; omega)).trans hXm
            obtain ⟨t0, _⟩ := blk2 hX1
            have hfr := rfree_any a.name hfit w1
            clear hrun hownm
            cases hq : freeB a.name with
            | false =>
              have HE : Hid (wrongL g = (7, n1 + k)) := HWN _ _ (by rw [HK.out, refN_step hNk, if_pos (.inl hq)]) (by decide)
              rw [hq] at hfr
              clear hq
              go_wp2_with fail
              refine hfr.mono ?_
              rintro e w2 ⟨rfl, hb2'⟩
              obtain ⟨_, y3, hbw3⟩ := hcl w2 (hB1w.trans (hb2'.mono (by have := hB1w.size; omega)))
              obtain ⟨z0, z1⟩ := blk2 y3
              have f0 := fr_of_blk y3 0
              have f1 := fr_of_blk y3 1
              clear hcl
              go_wp2
              refine bodyPost_ret (v := .agg #[.int .i64 7, .int .i64 ((n1 + k) : Nat)]) (by simp [results, Try.results16, go_sem, *]) rfl ?_
              exact ⟨by rw [HE.out], setR hbw3 _ _⟩
            | true =>
              rw [hq] at hfr
              go_wp2_with fail
              refine hfr.mono ?_
              rintro e w2 ⟨rfl, hb2'⟩
              have hB2w : Below B W2 w2 := hB1w.trans (hb2'.mono (by have := hB1w.size; omega))
              have hown2 := own_below hown1 hb2'
              have hX2 := (hb2'.block wo.heap.size (Array.getElem?_eq_some_iff.1 hX1).1).trans hX1
              obtain ⟨t1, _⟩ := blk2 hX2
              obtain ⟨c2, hrun2, hat2, _⟩ := hown2.lookup_int keyed Try.underlying74 Try.underlying3 (zeroI _) hkey
              have hc2 : c2 = c + 1 := by
                have := hcnt2.get hat2
                rw [this, HC.out]; simp
              subst hc2
              have hT : N.take (n1 + k + 1) = N.take (n1 + k) ++ [a.name] := take_snoc hNk
              obtain ⟨_, y3, hbw3⟩ := hcl w2 hB2w
              obtain ⟨z0, z1⟩ := blk2 y3
              have f0 := fr_of_blk y3 0
              have f1 := fr_of_blk y3 1
              by_cases hz : c = 0
              · have HK2 : Hid (NR = refNGo (n1 + k + 1) (N.take (n1 + k + 1)) (N.drop (n1 + k + 1))) := by
                  show _ = _
                  rw [HK.out, refN_step hNk, if_neg]
                  rintro (h | h)
                  · rw [hq] at h; cases h
                  · have := List.count_pos_iff.2 h
                    have := HC.out
                    omega
                have hcnt3 : CntD (D.put (.string a.name) (.lit (.int .i64 (c + 1)))) (N.take (n1 + k + 1)) := by rw [hT]; exact hcnt2
                have hng : ¬ (1 : Int) < c + 1 := by omega
                clear hq hz hcl hT hcnt2 hat2
                go_wp2_with fail
                go_roundg (n2 - (k + 1))
                case measure => omega
                case rel => exact ⟨k + 1, _, by omega, by go_num, by go_num, hown2, hcnt3, HK2, hB2w⟩
              · have HE : Hid (wrongL g = (7, n1 + k)) := HWN _ _ (by
                  rw [HK.out, refN_step hNk, if_pos (.inr (List.count_pos_iff.1 (by have := HC.out; omega)))]) (by decide)
                have hng : (1 : Int) < c + 1 := by omega
                clear hq hz hcl hT hcnt2 hat2
                go_wp2
                refine bodyPost_ret (v := .agg #[.int .i64 7, .int .i64 ((n1 + k) : Nat)]) (by simp [results, Try.results16, go_sem, *]) rfl ?_
                exact ⟨by rw [HE.out], setR hbw3 _ _⟩
          · have HZ : Hid (wrongL g = match msgsGo g 0 (g.msgs.drop 0) with | some q => q | none => match enumsGo 0 g.enums with | some q => (q.1, g.msgs.length + q.2) | none => (0, 0)) := by
              refine HW0.out ?_
              have e : N.drop (n1 + k) = [] := List.drop_eq_nil_of_le (by rw [HN.out]; simp [namesL]; rw [← H1.out, ← H2.out]; omega)
              rw [HK.out, e]; rfl
            have hb3r := hbr
            obtain ⟨z0, z1⟩ := blk2 y1
            clear HW0 HWN HK hcnt hown HNR HN hNl hmm hM0
            go_wp2_with fail
            go_loopg [92] n1 (fun gm i wr => ∃ k : Nat, k + gm = n1 ∧ i = .int .i64 k ∧ Hid (wrongL g = match msgsGo g k (g.msgs.drop k) with | some q => q | none => match enumsGo 0 g.enums with | some q => (q.1, g.msgs.length + q.2) | none => (0, 0)) ∧ Below B W2 wr ∧ B + 1 ≤ wr.heap.size)
            case atStart => exact ⟨0, by omega, rfl, HZ, hbr, by omega⟩
            case round =>
              clear z0 z1 y1 y2 hbw hzr HZ hbr hb3r hlt hk
              obtain ⟨k, hk, rfl, HK, hbr, hzr⟩ := hrel
              obtain ⟨wq, Hwq⟩ : ∃ wq, wq = wr := ⟨_, rfl⟩
              subst Hwq
              obtain ⟨y1, y2, hbw⟩ := hcl wq hbr
              by_cases hlt : k < n1
              · obtain ⟨a, Ha⟩ : ∃ a, Hid (g.msgs[k]? = some a) := ⟨g.msgs[k]'(by rw [← H1.out]; exact hlt), List.getElem?_eq_getElem (by rw [← H1.out]; exact hlt)⟩
                obtain ⟨b, off, rfl, hat⟩ := (hg.below hbw).1.get MAt.plain Ha.out
                obtain ⟨vf, vb, s0, s1, s2, hrf, hrb⟩ := hat.at
                obtain ⟨af, nf, cf, rfl, Hf, _⟩ := hrf.shape
                obtain ⟨ab, nb, cb, rfl, Hb, _⟩ := hrb.shape
                have hki : (k : Int) < (n1 : Int) := by omega
                obtain ⟨Wm, HWm⟩ : ∃ Wm, Hid (Wm = wq.alloc (.cells #[.string (S a.name), .slice af nf cf, .slice ab nb cb] 68)) := ⟨_, rfl⟩
                have hbm : Below wq.heap.size wq Wm := by rw [HWm.out]; exact (Below.refl _ _).alloc (Nat.le_refl _) _
                have hzm : wq.heap.size + 1 ≤ Wm.heap.size := by rw [HWm.out]; simp
                have hXm : Wm.heap[wq.heap.size]? = some (.cells #[.string (S a.name), .slice af nf cf, .slice ab nb cb] 68 (0, 0)) := by rw [HWm.out]; exact heap_alloc_new _ _
                have hbrm : Below B W2 Wm := hbr.trans (hbm.mono (by omega))
                obtain ⟨y3, y4, hbwm⟩ := hcl Wm hbrm
                obtain ⟨z0, z1⟩ := blk2 y4
                have f0 := fr_of_blk y4 0
                have f1 := fr_of_blk y4 1
                have HS := HK.out
                rw [msgs_step Ha.out, wrongM_ref] at HS
                have hfa := hf.1 a (mem_at Ha.out)
                clear hat HK
                by_cases hnf : 16 < nf
                · have HE : Hid (wrongL g = (5, k)) := by show _ = _; rw [HS, if_pos (c := 16 < a.fields.length ∨ 16 < a.barred.length) (.inl (by rw [← Hf.out]; exact hnf))]; rfl
                  have hni : (16 : Int) < (nf : Int) := by omega
                  rw [HWm.out] at z0 z1 f0 f1
                  clear hcl HS
                  go_wp2
                  refine bodyPost_ret (v := .agg #[.int .i64 5, .int .i64 (k : Int)]) (by simp [results, Try.results16, go_sem, *]) rfl ?_
                  rw [← HWm.out]
                  exact ⟨by rw [HE.out], setR hbwm _ _⟩
                · have hni : ¬ (16 : Int) < (nf : Int) := by omega
                  by_cases hnb : 16 < nb
                  · have HE : Hid (wrongL g = (5, k)) := by show _ = _; rw [HS, if_pos (c := 16 < a.fields.length ∨ 16 < a.barred.length) (.inr (by rw [← Hb.out]; exact hnb))]; rfl
                    have hni2 : (16 : Int) < (nb : Int) := by omega
                    rw [HWm.out] at z0 z1 f0 f1
                    clear hcl HS
                    go_wp2
                    refine bodyPost_ret (v := .agg #[.int .i64 5, .int .i64 (k : Int)]) (by simp [results, Try.results16, go_sem, *]) rfl ?_
                    rw [← HWm.out]
                    exact ⟨by rw [HE.out], setR hbwm _ _⟩
                  · have hni2 : ¬ (16 : Int) < (nb : Int) := by omega
                    have HS2 : Hid (wrongL g = match (if (if a.barred.any barB = true then (3 : Int) else refGo g a.barred [] a.fields) ≠ 0 then some ((if a.barred.any barB = true then (3 : Int) else refGo g a.barred [] a.fields), k) else msgsGo g (k + 1) (g.msgs.drop (k + 1))) with | some q => q | none => match enumsGo 0 g.enums with | some q => (q.1, g.msgs.length + q.2) | none => (0, 0)) := by
                      show _ = _; rw [HS, if_neg (c := 16 < a.fields.length ∨ 16 < a.barred.length) (by rw [← Hf.out, ← Hb.out]; omega)]
                    clear HS
                    rw [HWm.out] at z0 z1 f0 f1
                    go_wp2_with fail
                    rw [← HWm.out]
                    rw [← HWm.out] at z0 z1 f0 f1
                    go_loopg [112] nb (fun gm j wr => ∃ i : Nat, i + gm = nb ∧ j = .int .i64 i ∧ Hid (∀ n ∈ a.barred.take i, barB n = false) ∧ Wm = wr)
                    case atStart => exact ⟨0, by omega, rfl, by show ∀ n ∈ _, _; simp, rfl⟩
                    case round =>
                      obtain ⟨i, hi, rfl, HI, rfl⟩ := hrel
                      by_cases hlt2 : i < nb
                      · obtain ⟨n, Hn⟩ : ∃ n, Hid (a.barred[i]? = some n) := ⟨a.barred[i]'(by rw [← Hb.out]; exact hlt2), List.getElem?_eq_getElem (by rw [← Hb.out]; exact hlt2)⟩
                        obtain ⟨bb, ob, rfl, hcn⟩ := (hrb.below NAt.stays hbm).get NAt.plain Hn.out
                        have hcn : Wm.cell? ⟨bb, ob + i * 1, none⟩ = some (.int .i64 n) := hcn
                        rw [Nat.mul_one] at hcn
                        have hii : (i : Int) < (nb : Int) := by omega
                        by_cases hbn : barB n = true
                        · have HE : Hid (wrongL g = (3, k)) := by
                            have : a.barred.any barB = true := List.any_eq_true.2 ⟨n, mem_at Hn.out, hbn⟩
                            show _ = _; rw [HS2.out, this]; rfl
                          have hor : n < 0 ∨ 536870911 < n := by simp [barB] at hbn; omega
                          clear hcl HS2 hbn
                          by_cases hn0 : n < 0
                          · go_wp2
                            refine bodyPost_ret (v := .agg #[.int .i64 3, .int .i64 (k : Int)]) (by simp [results, Try.results16, go_sem, *]) rfl ?_
                            exact ⟨by rw [HE.out], setR hbwm _ _⟩
                          · have hn5 : 536870911 < n := by omega
                            go_wp2
                            refine bodyPost_ret (v := .agg #[.int .i64 3, .int .i64 (k : Int)]) (by simp [results, Try.results16, go_sem, *]) rfl ?_
                            exact ⟨by rw [HE.out], setR hbwm _ _⟩
                        · have hn0 : ¬ n < 0 := by simp [barB] at hbn; omega
                          have hn5 : ¬ 536870911 < n := by simp [barB] at hbn; omega
                          have HI2 : Hid (∀ n ∈ a.barred.take (i + 1), barB n = false) := by
                            show ∀ n ∈ _, _
                            rw [take_snoc Hn.out]
                            intro y hy
                            rcases List.mem_append.1 hy with hy | hy
                            · exact HI.out y hy
                            · rw [List.mem_singleton] at hy; rw [hy]; exact Bool.eq_false_iff.2 hbn
                          clear hcl HS2 hbn
                          go_wp2_with fail
                          go_roundg (nb - (i + 1))
                          case measure => omega
                          case rel => exact ⟨i + 1, by omega, by go_num, HI2, rfl⟩
                      · have HS3 : Hid (wrongL g = match (if refGo g a.barred (a.fields.take 0) (a.fields.drop 0) ≠ 0 then some (refGo g a.barred (a.fields.take 0) (a.fields.drop 0), k) else msgsGo g (k + 1) (g.msgs.drop (k + 1))) with | some q => q | none => match enumsGo 0 g.enums with | some q => (q.1, g.msgs.length + q.2) | none => (0, 0)) := by
                          have : a.barred.any barB = false := by
                            rw [List.any_eq_false]
                            have h2 := HI.out
                            rw [List.take_of_length_le (by rw [← Hb.out]; omega)] at h2
                            intro x hx; rw [h2 x hx]; simp
                          show _ = _; rw [HS2.out, this]; rfl
                        clear HS2 HI
                        obtain ⟨v0, v1, v2⟩ := blk3 hXm
                        go_wp2_with fail
                        go_loopg [128] nf (fun gm j wr => ∃ i : Nat, i + gm = nf ∧ j = .int .i64 i ∧ Hid (wrongL g = match (if refGo g a.barred (a.fields.take i) (a.fields.drop i) ≠ 0 then some (refGo g a.barred (a.fields.take i) (a.fields.drop i), k) else msgsGo g (k + 1) (g.msgs.drop (k + 1))) with | some q => q | none => match enumsGo 0 g.enums with | some q => (q.1, g.msgs.length + q.2) | none => (0, 0)) ∧ Below Wm.heap.size Wm wr)
                        case atStart => exact ⟨0, by omega, rfl, HS3, Below.refl _ _⟩
                        case round =>
                          clear v0 v1 v2 z0 z1 f0 f1 y3 y4 HS3
                          obtain ⟨i, hi, rfl, HI, hbi⟩ := hrel
                          obtain ⟨wi, Hwi⟩ : ∃ wi, wi = wr := ⟨_, rfl⟩
                          subst Hwi
                          have hBi : Below B W2 wi := hbrm.trans (hbi.mono (by have := hbrm.size; omega))
                          have hbqi : Below wq.heap.size wq wi := hbm.trans (hbi.mono (by omega))
                          by_cases hlt2 : i < nf
                          · obtain ⟨x, Hx⟩ : ∃ x, Hid (a.fields[i]? = some x) := ⟨a.fields[i]'(by rw [← Hf.out]; exact hlt2), List.getElem?_eq_getElem (by rw [← Hf.out]; exact hlt2)⟩
                            obtain ⟨y3, y4, hbwi⟩ := hcl wi hBi
                            obtain ⟨v0, v1, v2⟩ := blk3 ((hbi.block wq.heap.size (by omega)).trans hXm)
                            obtain ⟨v3, v4⟩ := blk2 y3
                            have hii : (i : Int) < (nf : Int) := by omega
                            have hwf := wrongField_any a Hx.out (hg.below hbwi) (hrf.below FAt.stays hbqi) (hrb.below NAt.stays hbqi) (by rw [← Hf.out]; omega) (hfa.2 x (mem_at Hx.out))
                            obtain ⟨q, HQ⟩ : ∃ q, Hid (q = refF g a.barred (a.fields.take i) x) := ⟨_, rfl⟩
                            rw [← HQ.out] at hwf
                            have HI2 : Hid (refGo g a.barred (a.fields.take i) (a.fields.drop i) = if q ≠ 0 then q else refGo g a.barred (a.fields.take (i + 1)) (a.fields.drop (i + 1))) := by
                              show _ = _
                              obtain ⟨hkl, e⟩ := List.getElem?_eq_some_iff.1 Hx.out
                              rw [List.drop_eq_getElem_cons hkl, e, refGo, ← HQ.out, take_snoc Hx.out]
                            by_cases hq : q = 0
                            · have HI3 : Hid (wrongL g = match (if refGo g a.barred (a.fields.take (i + 1)) (a.fields.drop (i + 1)) ≠ 0 then some (refGo g a.barred (a.fields.take (i + 1)) (a.fields.drop (i + 1)), k) else msgsGo g (k + 1) (g.msgs.drop (k + 1))) with | some q => q | none => match enumsGo 0 g.enums with | some q => (q.1, g.msgs.length + q.2) | none => (0, 0)) := by
                                have e2 := HI2.out
                                rw [if_neg (by simp [hq])] at e2
                                show _ = _; rw [HI.out, e2]
                              have hqb : (q != 0) = false := by simp [hq]
                              clear hq HI HI2 hcl
                              go_wp2_with fail
                              refine hwf.mono ?_
                              rintro e w5 ⟨rfl, hb5⟩
                              go_wp2_with fail
                              go_roundg (nf - (i + 1))
                              case measure => omega
                              case rel => exact ⟨i + 1, by omega, by go_num, HI3, hbi.trans (hb5.mono hbi.size)⟩
                            · have HE : Hid (wrongL g = (q, k)) := by
                                show _ = _; rw [HI.out, HI2.out, if_pos hq, if_pos hq]
                              have hqb : (q != 0) = true := by simp [hq]
                              have hcl2 := hcl
                              clear hq HI HI2 hcl
                              go_wp2_with fail
                              refine hwf.mono ?_
                              rintro e w5 ⟨rfl, hb5⟩
                              obtain ⟨_, y5, hbw5⟩ := hcl2 w5 (hBi.trans (hb5.mono (by have := hBi.size; omega)))
                              obtain ⟨z0, z1⟩ := blk2 y5
                              have f0 := fr_of_blk y5 0
                              have f1 := fr_of_blk y5 1
                              clear hcl2
                              go_wp2
                              refine bodyPost_ret (v := .agg #[.int .i64 q, .int .i64 (k : Int)]) (by simp [results, Try.results16, go_sem, *]) rfl ?_
                              exact ⟨by rw [HE.out], setR hbw5 _ _⟩
                          · have HK2 : Hid (wrongL g = match msgsGo g (k + 1) (g.msgs.drop (k + 1)) with | some q => q | none => match enumsGo 0 g.enums with | some q => (q.1, g.msgs.length + q.2) | none => (0, 0)) := by
                              have e : a.fields.drop i = [] := List.drop_eq_nil_of_le (by rw [← Hf.out]; omega)
                              show _ = _; rw [HI.out, e]; rfl
                            clear HI hcl
                            go_wp2_with fail
                            go_roundg (n1 - (k + 1))
                            case measure => omega
                            case rel => exact ⟨k + 1, by omega, by go_num, HK2, hBi, by have := hbqi.size; omega⟩
              · have HZ : Hid (wrongL g = match enumsGo 0 (g.enums.drop 0) with | some q => (q.1, n1 + q.2) | none => (0, 0)) := by
                  have e : g.msgs.drop k = [] := List.drop_eq_nil_of_le (by rw [← H1.out]; omega)
                  show _ = _; rw [HK.out, e, ← H1.out]; rfl
                obtain ⟨z0, z1⟩ := blk2 y1
                clear HK
                go_wp2_with fail
                go_loopg [145] n2 (fun gm i wr => ∃ k : Nat, k + gm = n2 ∧ i = .int .i64 k ∧ Hid (wrongL g = match enumsGo k (g.enums.drop k) with | some q => (q.1, n1 + q.2) | none => (0, 0)) ∧ Below B W2 wr ∧ B + 1 ≤ wr.heap.size)
                case atStart => exact ⟨0, by omega, rfl, HZ, hbr, by omega⟩
                case round =>
                  clear z0 z1 y1 y2 hbw hzr HZ hbr hlt hk
                  obtain ⟨k, hk, rfl, HK, hbr, hzr⟩ := hrel
                  obtain ⟨wq, Hwq⟩ : ∃ wq, wq = wr := ⟨_, rfl⟩
                  subst Hwq
                  obtain ⟨y1, y2, hbw⟩ := hcl wq hbr
                  by_cases hlt : k < n2
                  · obtain ⟨a, Ha⟩ : ∃ a, Hid (g.enums[k]? = some a) := ⟨g.enums[k]'(by rw [← H2.out]; exact hlt), List.getElem?_eq_getElem (by rw [← H2.out]; exact hlt)⟩
                    obtain ⟨b, off, rfl, hat⟩ := (hg.below hbw).2.get EAt.plain Ha.out
                    obtain ⟨vi, s0, s1, hri⟩ := hat.at
                    obtain ⟨ai, ni, ci, rfl, Hi, _⟩ := hri.shape
                    have hci : ni ≤ ci := (hri.len).2.1
                    have hbl : b < wq.heap.size := World.block_lt_of_cell? wq _ s0
                    have hki : (k : Int) < (n2 : Int) := by omega
                    obtain ⟨Wm, HWm⟩ : ∃ Wm, Hid (Wm = (wq.alloc (.cells #[.int .i64 (k : Int)] 3)).alloc (.cells #[.string (S a.name), .slice ai ni ci] 72)) := ⟨_, rfl⟩
                    have hbm : Below wq.heap.size wq Wm := by rw [HWm.out]; exact ((Below.refl _ _).alloc (Nat.le_refl _) _).alloc (by simp) _
                    have hzm : wq.heap.size + 2 ≤ Wm.heap.size := by rw [HWm.out]; simp
                    have hXi : Wm.heap[wq.heap.size]? = some (.cells #[.int .i64 (k : Int)] 3 (0, 0)) := by rw [HWm.out]; exact alloc2_old _ _ _
                    have hXm : Wm.heap[wq.heap.size + 1]? = some (.cells #[.string (S a.name), .slice ai ni ci] 72 (0, 0)) := by rw [HWm.out]; exact alloc2_new _ _ _
                    have hbrm : Below B W2 Wm := hbr.trans (hbm.mono (by omega))
                    have hbad : ∀ (V : World) (e : Int), Below Wm.heap.size Wm V → Calls Try.prog 35 #[.int .i64 e, .pointer (some ⟨w.heap.size, 0, none⟩), .pointer (some ⟨wq.heap.size, 0, none⟩)] V fun r V' => r = .returned (.agg #[.int .i64 e, .int .i64 ((n1 : Int) + (k : Int))]) ∧ Below V.heap.size V V' := by
                      intro V e hV
                      exact bad_call ((hV.block w.heap.size (by omega)).trans (hcl Wm hbrm).1) ((hV.block wq.heap.size (by omega)).trans hXi) (by omega) (by omega) e
                    have hmf := makeF
                    obtain ⟨v0, v1⟩ := blk2 hXm
                    have HS := HK.out
                    rw [enums_step Ha.out, wrongE_ref] at HS
                    have hfa := hf.2 a (mem_at Ha.out)
                    clear hat HK
                    have hcl2 : ∀ V, Below Wm.heap.size Wm V → V.heap[w.heap.size + 1]? = some (.cells #[.int .i64 0, .int .i64 0] 34 (0, 0)) ∧ V.heap[wq.heap.size + 1]? = some (.cells #[.string (S a.name), .slice ai ni ci] 72 (0, 0)) ∧ Below w.heap.size w V ∧ Below wq.heap.size wq V := fun V hV => ⟨(hcl V (hbrm.trans (hV.mono (by have := hbrm.size; omega)))).2.1, (hV.block _ (by omega)).trans hXm, (hcl V (hbrm.trans (hV.mono (by have := hbrm.size; omega)))).2.2, hbm.trans (hV.mono hbm.size)⟩
                    have hsl : ∀ (j : Nat), j ≤ ni → ∀ V, (Instr.slice 70 (.slice ai ni ci) none (some (.int .i64 (j : Int))) none).run Try.prog V = .ok (.slice ai j ci) V := fun j hj V => sliceT hj hci V
                    obtain ⟨_, _, hbwm, _⟩ := hcl2 Wm (Below.refl _ _)
                    obtain ⟨NI, HNI⟩ : ∃ NI, Hid (NI = ni) := ⟨_, rfl⟩
                    by_cases hbadn : ni < 1 ∨ 16 < ni
                    · have HE : Hid (wrongL g = (5, n1 + k)) := by show _ = _; rw [HS, if_pos (c := a.items.length < 1 ∨ 16 < a.items.length) (by rw [← Hi.out]; exact hbadn)]; rfl
                      have hb5 := hbad Wm 5 (Below.refl _ _)
                      rw [HWm.out] at v0 v1
                      clear hcl HS hbad hsl
                      by_cases h0 : ni = 0
                      · have hq0 : ((ni : Int) == 0) = true := by simp [h0]
                        clear h0 hbadn
                        go_wp2_with fail
                        rw [← HWm.out]
                        refine hb5.mono ?_
                        rintro e w5 ⟨rfl, hb5'⟩
                        obtain ⟨g1, _, hbw5, _⟩ := hcl2 w5 hb5'
                        obtain ⟨z0, z1⟩ := blk2 g1
                        have f0 := fr_of_blk g1 0
                        have f1 := fr_of_blk g1 1
                        clear hcl2
                        go_wp2
                        refine bodyPost_ret (v := .agg #[.int .i64 5, .int .i64 ((n1 : Int) + (k : Int))]) (by simp [results, Try.results16, go_sem, *]) rfl ?_
                        exact ⟨by rw [HE.out]; simp, setR hbw5 _ _⟩
                      · have hq0 : ((ni : Int) == 0) = false := by simp [h0]
                        have hq1 : (16 : Int) < (ni : Int) := by omega
                        clear h0 hbadn
                        go_wp2_with fail
                        rw [← HWm.out]
                        refine hb5.mono ?_
                        rintro e w5 ⟨rfl, hb5'⟩
                        obtain ⟨g1, _, hbw5, _⟩ := hcl2 w5 hb5'
                        obtain ⟨z0, z1⟩ := blk2 g1
                        have f0 := fr_of_blk g1 0
                        have f1 := fr_of_blk g1 1
                        clear hcl2
                        go_wp2
                        refine bodyPost_ret (v := .agg #[.int .i64 5, .int .i64 ((n1 : Int) + (k : Int))]) (by simp [results, Try.results16, go_sem, *]) rfl ?_
                        exact ⟨by rw [HE.out]; simp, setR hbw5 _ _⟩
                    · have hq0 : ((ni : Int) == 0) = false := by simp; omega
                      have hq1 : ¬ (16 : Int) < (ni : Int) := by omega
                      have HS2 : Hid (wrongL g = match (if refIGo (a.items.take 0) (a.items.drop 0) ≠ 0 then some (refIGo (a.items.take 0) (a.items.drop 0), k) else enumsGo (k + 1) (g.enums.drop (k + 1))) with | some q => (q.1, n1 + q.2) | none => (0, 0)) := by
                        show _ = _; rw [HS, if_neg (c := a.items.length < 1 ∨ 16 < a.items.length) (by rw [← Hi.out]; exact hbadn)]; rfl
                      have hn16 : ni ≤ 16 := by omega
                      rw [HWm.out] at v0 v1
                      clear hcl HS hbadn
                      go_wp2_with fail
                      rw [← HWm.out]
                      clear v0 v1
                      go_loopg [166] ni (fun gm j wr => ∃ i : Nat, i + gm = ni ∧ j = .int .i64 i ∧ Hid (wrongL g = match (if refIGo (a.items.take i) (a.items.drop i) ≠ 0 then some (refIGo (a.items.take i) (a.items.drop i), k) else enumsGo (k + 1) (g.enums.drop (k + 1))) with | some q => (q.1, n1 + q.2) | none => (0, 0)) ∧ Below Wm.heap.size Wm wr)
                      case atStart => exact ⟨0, by omega, rfl, HS2, Below.refl _ _⟩
                      case round =>
                        clear HS2
                        obtain ⟨i, hi, rfl, HI, hbi⟩ := hrel
                        obtain ⟨wi, Hwi⟩ : ∃ wi, wi = wr := ⟨_, rfl⟩
                        subst Hwi
                        obtain ⟨_, k2, _, hbqi⟩ := hcl2 wi hbi
                        by_cases hlt2 : i < ni
                        · obtain ⟨x, Hx⟩ : ∃ x, Hid (a.items[i]? = some x) := ⟨a.items[i]'(by rw [← Hi.out]; exact hlt2), List.getElem?_eq_getElem (by rw [← Hi.out]; exact hlt2)⟩
                          obtain ⟨b2, o2, rfl, htx⟩ := (hri.below TAt.stays hbqi).get TAt.plain Hx.out
                          obtain ⟨x0, x1⟩ := htx.at
                          have hii : (i : Int) < (ni : Int) := by omega
                          obtain ⟨Wx, HWx⟩ : ∃ Wx, Hid (Wx = wi.alloc (.cells #[.string (S x.name), .int .i64 x.value] 79)) := ⟨_, rfl⟩
                          have hbx : Below wi.heap.size wi Wx := by rw [HWx.out]; exact (Below.refl _ _).alloc (Nat.le_refl _) _
                          have hzx : wi.heap.size + 1 ≤ Wx.heap.size := by rw [HWx.out]; simp
                          have hXx : Wx.heap[wi.heap.size]? = some (.cells #[.string (S x.name), .int .i64 x.value] 79 (0, 0)) := by rw [HWx.out]; exact heap_alloc_new _ _
                          have hbix : Below Wm.heap.size Wm Wx := hbi.trans (hbx.mono hbi.size)
                          obtain ⟨v0, v1⟩ := blk2 ((hbx.block (wq.heap.size + 1) (Array.getElem?_eq_some_iff.1 k2).1).trans k2)
                          rw [HWx.out] at v0 v1
                          have hsli := hsl i (by omega)
                          obtain ⟨q, HQ⟩ : ∃ q, Hid (q = refI (a.items.take i) x) := ⟨_, rfl⟩
                          have HI2 : Hid (refIGo (a.items.take i) (a.items.drop i) = if q ≠ 0 then q else refIGo (a.items.take (i + 1)) (a.items.drop (i + 1))) := by
                            show _ = _
                            obtain ⟨hkl, e⟩ := List.getElem?_eq_some_iff.1 Hx.out
                            rw [List.drop_eq_getElem_cons hkl, e, refIGo, ← HQ.out, take_snoc Hx.out]
                          have HEQ : ∀ (r : Int), q = r → r ≠ 0 → Hid (wrongL g = (r, n1 + k)) := by
                            intro r h1 h2
                            have e2 := HI2.out
                            rw [if_pos (by rw [h1]; exact h2), h1] at e2
                            show _ = _; rw [HI.out, e2, if_pos h2]
                          have HQ0 : Hid (q = 0 → wrongL g = match (if refIGo (a.items.take (i + 1)) (a.items.drop (i + 1)) ≠ 0 then some (refIGo (a.items.take (i + 1)) (a.items.drop (i + 1)), k) else enumsGo (k + 1) (g.enums.drop (k + 1))) with | some q => (q.1, n1 + q.2) | none => (0, 0)) := by
                            show _ → _
                            intro h1
                            have e2 := HI2.out
                            rw [if_neg (by simp [h1])] at e2
                            rw [HI.out, e2]
                          obtain ⟨A, HA⟩ : ∃ A, Hid (A = a.items.take i) := ⟨_, rfl⟩
                          have hAl : A.length = i := by rw [HA.out, List.length_take]; rw [← Hi.out]; omega
                          have hAg : ∀ (k : Nat) (y : II), A[k]? = some y → a.items[k]? = some y := by
                            intro k y h; rw [HA.out, List.getElem?_take] at h; split at h
                            · exact h
                            · cases h
                          rw [← HA.out] at HQ
                          have hxn := hfa.2 x (mem_at Hx.out)
                          clear htx HI HI2 k2 hsl
                          go_wp2_with fail
                          rw [← HWx.out]
                          clear v0 v1
                          go_loopg [20, 176] i (fun gm sm j wr => ∃ (l : Nat) (sb : Bool), l + gm = i ∧ j = .int .i64 l ∧ sm = .bool sb ∧ Hid (x.name ∉ (A.take l).map II.name) ∧ Hid (sb = decide (x.value ∈ (A.take l).map II.value)) ∧ Below Wx.heap.size Wx wr)
                          case atStart => exact ⟨0, false, by omega, rfl, rfl, by show ¬ _; simp, by show _ = _; simp, Below.refl _ _⟩
                          case round =>
                            obtain ⟨l, sb, hl, rfl, rfl, HL1, HL2, hbl2⟩ := hrel
                            obtain ⟨wl, Hwl⟩ : ∃ wl, wl = wr := ⟨_, rfl⟩
                            subst Hwl
                            have hBl : Below Wm.heap.size Wm wl := hbix.trans (hbl2.mono hbix.size)
                            have hXl := (hbl2.block wi.heap.size (by omega)).trans hXx
                            have hXll : wi.heap.size < wl.heap.size := (Array.getElem?_eq_some_iff.1 hXl).1
                            obtain ⟨u0, u1⟩ := blk2 hXl
                            by_cases hlt3 : l < i
                            · obtain ⟨y, Hy⟩ : ∃ y, Hid (A[l]? = some y) := ⟨A[l]'(by rw [hAl]; exact hlt3), List.getElem?_eq_getElem (by rw [hAl]; exact hlt3)⟩
                              obtain ⟨b3, o3, e, hty⟩ := (hri.below TAt.stays (hcl2 wl hBl).2.2.2).get TAt.plain (hAg _ _ Hy.out)
                              cases e
                              obtain ⟨y0, y1⟩ := hty.at
                              have hli : (l : Int) < (i : Int) := by omega
                              have hl1 := S_list y.name
                              have hl2 := S_list x.name
                              have hbly : Below wl.heap.size wl (wl.alloc (.cells #[.string (S y.name), .int .i64 y.value] 79)) := (Below.refl _ _).alloc (Nat.le_refl _) _
                              by_cases hxy : y.name = x.name
                              · have HE : Hid (wrongL g = (7, n1 + k)) := HEQ 7 (by rw [HQ.out, refI, if_pos (by rw [← hxy]; exact List.mem_map.2 ⟨y, mem_at Hy.out, rfl⟩)]) (by decide)
                                have hqn : (y.name == x.name) = true := by simp [hxy]
                                have hB3 := hBl.trans (hbly.mono hBl.size)
                                have hb5 := hbad _ 7 hB3
                                clear hxy hty HEQ HQ0 hbad
                                go_wp2_with fail
                                refine hb5.mono ?_
                                rintro e w5 ⟨rfl, hb5'⟩
                                obtain ⟨g1, _, hbw5, _⟩ := hcl2 w5 (hB3.trans (hb5'.mono hB3.size))
                                obtain ⟨z0, z1⟩ := blk2 g1
                                have f0 := fr_of_blk g1 0
                                have f1 := fr_of_blk g1 1
                                clear hcl2
                                go_wp2
                                refine bodyPost_ret (v := .agg #[.int .i64 7, .int .i64 ((n1 : Int) + (k : Int))]) (by simp [results, Try.results16, go_sem, *]) rfl ?_
                                exact ⟨by rw [HE.out]; simp, setR hbw5 _ _⟩
                              · have hqn : (y.name == x.name) = false := by simp [hxy]
                                have HL3 : Hid (x.name ∉ (A.take (l + 1)).map II.name) := by
                                  show ¬ _
                                  rw [take_snoc Hy.out, List.map_append]
                                  intro hm
                                  rcases List.mem_append.1 hm with hm | hm
                                  · exact HL1.out hm
                                  · simp at hm; exact hxy hm.symm
                                have HL4 : Hid (decide (x.value ∈ (A.take (l + 1)).map II.value) = (sb || decide (y.value = x.value))) := by
                                  show _ = _
                                  rw [take_snoc Hy.out, List.map_append, HL2.out, Bool.eq_iff_iff]
                                  simp only [Bool.or_eq_true, decide_eq_true_eq, List.mem_append, List.map_cons, List.map_nil, List.mem_singleton]
                                  exact or_congr Iff.rfl eq_comm
                                have hB3 := hbl2.trans (hbly.mono hbl2.size)
                                clear hxy hty HEQ HQ0 hbad hcl2
                                cases sb with
                                | true =>
                                  go_wp2_with fail
                                  go_roundg (i - (l + 1))
                                  case measure => omega
                                  case rel => exact ⟨l + 1, true, by omega, by go_num, rfl, HL3, by show _ = _; rw [HL4.out]; rfl, hB3⟩
                                | false =>
                                  cases hv : decide (y.value = x.value) with
                                  | true =>
                                    have hvb : (y.value == x.value) = true := by simpa using hv
                                    have HL5 : Hid (true = decide (x.value ∈ (A.take (l + 1)).map II.value)) := by show _ = _; rw [HL4.out, hv]; rfl
                                    clear hv
                                    go_wp2_with fail
                                    go_roundg (i - (l + 1))
                                    case measure => omega
                                    case rel => exact ⟨l + 1, true, by omega, by go_num, rfl, HL3, HL5, hB3⟩
                                  | false =>
                                    have hvb : (y.value == x.value) = false := by simpa using hv
                                    have HL5 : Hid (false = decide (x.value ∈ (A.take (l + 1)).map II.value)) := by show _ = _; rw [HL4.out, hv]; rfl
                                    clear hv
                                    go_wp2_with fail
                                    go_roundg (i - (l + 1))
                                    case measure => omega
                                    case rel => exact ⟨l + 1, false, by omega, by go_num, rfl, HL3, HL5, hB3⟩
                            · have h2 := HL1.out
                              have h3 := HL2.out
                              rw [List.take_of_length_le (by rw [hAl]; omega)] at h2 h3
                              have HQ1 : Hid (q = if namedB x.name = false then 7 else if x.value < -2147483648 ∨ 2147483647 < x.value then 3 else if sb = true ∨ (i = 0 ∧ x.value ≠ 0) then 8 else 0) := by
                                show _ = _
                                have e0 : A = [] ↔ i = 0 := by rw [← hAl]; exact List.length_eq_zero_iff.symm
                                have e1 : (x.value ∈ A.map II.value ∨ (A = [] ∧ x.value ≠ 0)) ↔ (sb = true ∨ (i = 0 ∧ x.value ≠ 0)) := by rw [h3, decide_eq_true_eq, e0]
                                rw [HQ.out, refI, if_neg h2]
                                simp only [e1]
                              clear h2 h3 HL1 HL2 HQ
                              have hnd := rnamed_any x.name hxn wl
                              cases hq : namedB x.name with
                              | false =>
                                have HE : Hid (wrongL g = (7, n1 + k)) := HEQ 7 (by rw [HQ1.out, if_pos hq]) (by decide)
                                rw [hq] at hnd
                                clear hq HQ1 HEQ HQ0
                                go_wp2_with fail
                                refine hnd.mono ?_
                                rintro e w4 ⟨rfl, hb4⟩
                                have hB4 : Below Wm.heap.size Wm w4 := hBl.trans (hb4.mono hBl.size)
                                go_wp2_with fail
                                refine (hbad w4 7 hB4).mono ?_
                                rintro e w5 ⟨rfl, hb5'⟩
                                obtain ⟨g1, _, hbw5, _⟩ := hcl2 w5 (hB4.trans (hb5'.mono hB4.size))
                                obtain ⟨z0, z1⟩ := blk2 g1
                                have f0 := fr_of_blk g1 0
                                have f1 := fr_of_blk g1 1
                                clear hcl2 hbad
                                go_wp2
                                refine bodyPost_ret (v := .agg #[.int .i64 7, .int .i64 ((n1 : Int) + (k : Int))]) (by simp [results, Try.results16, go_sem, *]) rfl ?_
                                exact ⟨by rw [HE.out]; simp, setR hbw5 _ _⟩
                              | true =>
                                rw [hq] at hnd
                                have HQ2 : Hid (q = if x.value < -2147483648 ∨ 2147483647 < x.value then 3 else if sb = true ∨ (i = 0 ∧ x.value ≠ 0) then 8 else 0) := by show _ = _; rw [HQ1.out, if_neg (by rw [hq]; simp)]
                                clear hq HQ1
                                go_wp2_with fail
                                refine hnd.mono ?_
                                rintro e w4 ⟨rfl, hb4⟩
                                have hB4 : Below Wm.heap.size Wm w4 := hBl.trans (hb4.mono hBl.size)
                                obtain ⟨u2, u3⟩ := blk2 ((hb4.block wi.heap.size hXll).trans hXl)
                                clear u0 u1
                                by_cases hr : x.value < -2147483648 ∨ 2147483647 < x.value
                                · have HE : Hid (wrongL g = (3, n1 + k)) := HEQ 3 (by rw [HQ2.out, if_pos hr]) (by decide)
                                  have hb5 := hbad w4 3 hB4
                                  clear HQ2 HEQ HQ0 hbad
                                  by_cases hr1 : 2147483647 < x.value
                                  · clear hr
                                    go_wp2_with fail
                                    refine hb5.mono ?_
                                    rintro e w5 ⟨rfl, hb5'⟩
                                    obtain ⟨g1, _, hbw5, _⟩ := hcl2 w5 (hB4.trans (hb5'.mono hB4.size))
                                    obtain ⟨z0, z1⟩ := blk2 g1
                                    have f0 := fr_of_blk g1 0
                                    have f1 := fr_of_blk g1 1
                                    clear hcl2
                                    go_wp2
                                    refine bodyPost_ret (v := .agg #[.int .i64 3, .int .i64 ((n1 : Int) + (k : Int))]) (by simp [results, Try.results16, go_sem, *]) rfl ?_
                                    exact ⟨by rw [HE.out]; simp, setR hbw5 _ _⟩
                                  · have hr2 : x.value < -2147483648 := by omega
                                    clear hr
                                    go_wp2_with fail
                                    refine hb5.mono ?_
                                    rintro e w5 ⟨rfl, hb5'⟩
                                    obtain ⟨g1, _, hbw5, _⟩ := hcl2 w5 (hB4.trans (hb5'.mono hB4.size))
                                    obtain ⟨z0, z1⟩ := blk2 g1
                                    have f0 := fr_of_blk g1 0
                                    have f1 := fr_of_blk g1 1
                                    clear hcl2
                                    go_wp2
                                    refine bodyPost_ret (v := .agg #[.int .i64 3, .int .i64 ((n1 : Int) + (k : Int))]) (by simp [results, Try.results16, go_sem, *]) rfl ?_
                                    exact ⟨by rw [HE.out]; simp, setR hbw5 _ _⟩
                                · have hr1 : ¬ 2147483647 < x.value := by omega
                                  have hr2 : ¬ x.value < -2147483648 := by omega
                                  have HQ3 : Hid (q = if sb = true ∨ (i = 0 ∧ x.value ≠ 0) then 8 else 0) := by show _ = _; rw [HQ2.out, if_neg hr]
                                  clear hr HQ2
                                  go_upto_region 61 with fail
                                  go_cut [166, 221] from 166 to 224 (fun s166 c wx => s166 = .int .i64 i ∧ c = .bool (decide (sb = true ∨ (i = 0 ∧ x.value ≠ 0))) ∧ w4 = wx)
                                  case first =>
                                    clear hcl2 hbad HEQ HQ0 HQ3
                                    cases sb with
                                    | true =>
                                      go_wp2
                                      go_meet
                                      case rel => exact ⟨rfl, by simp, rfl⟩
                                    | false =>
                                      by_cases hi0 : i = 0
                                      · have hib : ((i : Int) == 0) = true := by simp [hi0]
                                        have HI0 : Hid (i = 0) := hi0
                                        clear hi0
                                        by_cases hv0 : x.value = 0
                                        · have hvb : (x.value != 0) = false := by simp [hv0]
                                          have HV : Hid (x.value = 0) := hv0
                                          clear hv0
                                          go_wp2
                                          go_meet
                                          case rel => exact ⟨rfl, by simp [HV.out], rfl⟩
                                        · have hvb : (x.value != 0) = true := by simp [hv0]
                                          have HV : Hid (x.value ≠ 0) := hv0
                                          clear hv0
                                          go_wp2
                                          go_meet
                                          case rel => exact ⟨rfl, by simp [HV.out, HI0.out], rfl⟩
                                      · have hib : ((i : Int) == 0) = false := by simp [hi0]
                                        have HI0 : Hid (¬ i = 0) := hi0
                                        clear hi0
                                        go_wp2
                                        go_meet
                                        case rel => exact ⟨rfl, by simp [HI0.out], rfl⟩
                                  case rest =>
                                    obtain ⟨rfl, rfl, rfl⟩ := hcut
                                    by_cases hx8 : sb = true ∨ (i = 0 ∧ x.value ≠ 0)
                                    · have HE : Hid (wrongL g = (8, n1 + k)) := HEQ 8 (by rw [HQ3.out, if_pos hx8]) (by decide)
                                      rw [show decide (sb = true ∨ (i = 0 ∧ x.value ≠ 0)) = true from by simpa using hx8]
                                      have hb5 := hbad w4 8 hB4
                                      clear hx8 HQ3 HEQ HQ0 hbad
                                      go_wp2_with fail
                                      refine hb5.mono ?_
                                      rintro e w5 ⟨rfl, hb5'⟩
                                      obtain ⟨g1, _, hbw5, _⟩ := hcl2 w5 (hB4.trans (hb5'.mono hB4.size))
                                      obtain ⟨z0, z1⟩ := blk2 g1
                                      have f0 := fr_of_blk g1 0
                                      have f1 := fr_of_blk g1 1
                                      clear hcl2
                                      go_wp2
                                      refine bodyPost_ret (v := .agg #[.int .i64 8, .int .i64 ((n1 : Int) + (k : Int))]) (by simp [results, Try.results16, go_sem, *]) rfl ?_
                                      exact ⟨by rw [HE.out]; simp, setR hbw5 _ _⟩
                                    · have HZ2 := HQ0.out (by rw [HQ3.out, if_neg hx8])
                                      have HZ3 : Hid (wrongL g = match (if refIGo (a.items.take (i + 1)) (a.items.drop (i + 1)) ≠ 0 then some (refIGo (a.items.take (i + 1)) (a.items.drop (i + 1)), k) else enumsGo (k + 1) (g.enums.drop (k + 1))) with | some q => (q.1, n1 + q.2) | none => (0, 0)) := HZ2
                                      rw [show decide (sb = true ∨ (i = 0 ∧ x.value ≠ 0)) = false from decide_eq_false hx8]
                                      clear hx8 HQ3 HEQ HQ0 hbad HZ2 hcl2
                                      go_wp2_with fail
                                      go_roundg (ni - (i + 1))
                                      case measure => omega
                                      case rel => exact ⟨i + 1, by omega, by go_num, HZ3, hB4⟩
                        · have HK2 : Hid (wrongL g = match enumsGo (k + 1) (g.enums.drop (k + 1)) with | some q => (q.1, n1 + q.2) | none => (0, 0)) := by
                            have e : a.items.drop i = [] := List.drop_eq_nil_of_le (by rw [← Hi.out]; omega)
                            show _ = _; rw [HI.out, e]; rfl
                          have hBz : Below B W2 wi := hbrm.trans (hbi.mono (by have := hbrm.size; omega))
                          clear HI hcl2 hbad hsl
                          go_wp2_with fail
                          go_roundg (n2 - (k + 1))
                          case measure => omega
                          case rel => exact ⟨k + 1, by omega, by go_num, HK2, hBz, by have := hbqi.size; omega⟩
                  · have HE : Hid (wrongL g = (0, 0)) := by
                      have e : g.enums.drop k = [] := List.drop_eq_nil_of_le (by rw [← H2.out]; omega)
                      show _ = _; rw [HK.out, e]; rfl
                    obtain ⟨z0, z1⟩ := blk2 y2
                    have f0 := fr_of_blk y2 0
                    have f1 := fr_of_blk y2 1
                    clear HK hcl
                    go_wp2
                    refine bodyPost_ret (v := .agg #[.int .i64 0, .int .i64 0]) (by simp [results, Try.results16, go_sem, *]) rfl ?_
                    exact ⟨by rw [HE.out]; rfl, setR hbw _ _⟩

end L
end Go.Proofs.Ytenlijgnmhdopaa
