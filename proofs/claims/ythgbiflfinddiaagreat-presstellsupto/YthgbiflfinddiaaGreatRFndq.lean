import Derived.Test.YthgbiflfinddiaaGreatKValsq
/- The document's own answer: Find (a body's value of a number), Field (where a message's field of a number lies). -/
namespace Go.Proofs.YthgbiflfinddiaaGreat
namespace L
open Go.RowKit
set_option linter.unusedVariables false

theorem find_step {β : Type} {x : List (VI β)} {n : Int} {k : Nat} {v : VI β} (h : x[k]? = some v) : (x.drop k).find? (fun v => decide (v.number = n)) = if v.number = n then some v else (x.drop (k + 1)).find? fun v => decide (v.number = n) := by
  obtain ⟨hk, rfl⟩ := List.getElem?_eq_some_iff.1 h
  rw [List.drop_eq_getElem_cons hk, List.find?_cons]
  by_cases e : (x[k]).number = n <;> simp [e]
/-- A value that was found, or none. -/
def FoundV (d : Nat) (w : World) (r : Option (VI (BI d))) (e : Ending) : Prop :=
  match r with
  | none => ∃ v, e = .returned (.tuple #[v, .bool false]) ∧ v = .agg #[.int .i64 0, .slice none 0 0, .slice none 0 0, .slice none 0 0]
  | some v => ∃ a1 n1 c1 a2 n2 c2 a3 n3 c3, e = .returned (.tuple #[.agg #[.int .i64 v.number, .slice a1 n1 c1, .slice a2 n2 c2, .slice a3 n3 c3], .bool true]) ∧ RdL 1 UAt w (.slice a1 n1 c1) v.bits ∧ RdL 1 ZAt w (.slice a2 n2 c2) v.bytes ∧ RdL 2 (BAt d) w (.slice a3 n3 c3) v.subs
set_option maxHeartbeats 2000000 in
set_option maxRecDepth 100000 in
theorem rfind_any {d : Nat} {u w : World} {v0 v1 : Value} {x : List (VI (BI d))} (h : RdL 4 (VAt (BAt d)) u v0 x) (hu : Below u.heap.size u w) (hv1 : ∃ ao n cap, v1 = .slice ao n cap) (num : Int) :
    Calls Tryz.prog 44 #[.agg #[v0, v1], .int .i64 num] w fun e w' => FoundV d u (x.find? fun v => decide (v.number = num)) e ∧ Below w.heap.size w w' := by
  obtain ⟨ao, n, cap, rfl, Hn, hcap⟩ := h.shape
  obtain ⟨ae, ne, ce, rfl⟩ := hv1
  obtain ⟨R, HR⟩ : ∃ R, Hid (x.find? (fun v => decide (v.number = num)) = R) := ⟨_, rfl⟩
  rw [HR.out]
  obtain ⟨W0, HW0⟩ : ∃ W0, Hid (W0 = (w.alloc (.cells #[.slice ao n cap, .slice ae ne ce] 30)).alloc (.cells #[.int .i64 0, .slice none 0 0, .slice none 0 0, .slice none 0 0] 71)) := ⟨_, rfl⟩
  have hb0 : Below w.heap.size w W0 := by rw [HW0.out]; exact cells_alloc2 _ _ _
  have hz0 : w.heap.size + 2 ≤ W0.heap.size := by rw [HW0.out]; simp
  have x1 : W0.heap[w.heap.size + 1]? = some (.cells #[.int .i64 0, .slice none 0 0, .slice none 0 0, .slice none 0 0] 71 (0, 0)) := by rw [HW0.out]; exact alloc2_new _ _ _
  go_enter Tryz.func44, Tryz.ntmps44
  go_wp2_with fail
  rw [← HW0.out]
  go_loopg [11] n (fun m i wr => ∃ k : Nat, k + m = n ∧ i = .int .i64 k ∧ Hid ((x.drop k).find? (fun v => decide (v.number = num)) = R) ∧ Below W0.heap.size W0 wr)
  case atStart => exact ⟨0, by omega, rfl, HR, Below.refl _ _⟩
  case round =>
    obtain ⟨k, hk, rfl, HK, hb⟩ := hrel
    have hbw : Below w.heap.size w wr := KBT hb0 hb
    have hzr := hb.size
    have x2 := (hb.block _ (by omega)).trans x1
    by_cases hlt : k < n
    · obtain ⟨v, Hv⟩ : ∃ v, Hid (x[k]? = some v) := ⟨x[k]'(by rw [← Hn.out]; exact hlt), List.getElem?_eq_getElem (by rw [← Hn.out]; exact hlt)⟩
      obtain ⟨b, off, rfl, hat⟩ := h.get VAt.plain Hv.out
      obtain ⟨y1, y2, y3, z0, z1, z2, z3, r1, r2, r3⟩ := hat.at
      obtain ⟨b1, m1, d1, rfl, _, _⟩ := r1.shape
      obtain ⟨b2, m2, d2, rfl, _, _⟩ := r2.shape
      obtain ⟨b3, m3, d3, rfl, _, _⟩ := r3.shape
      have z0 := cell_below (KBT hu hbw) z0
      have z1 := cell_below (KBT hu hbw) z1
      have z2 := cell_below (KBT hu hbw) z2
      have z3 := cell_below (KBT hu hbw) z3
      have hki : (k : Int) < (n : Int) := by omega
      have HS := find_step (n := num) Hv.out
      have hb1 : Below wr.heap.size wr (wr.alloc (.cells #[.int .i64 v.number, .slice b1 m1 d1, .slice b2 m2 d2, .slice b3 m3 d3] 71)) := (Below.refl _ _).alloc (Nat.le_refl _) _
      clear hat
      by_cases hq : v.number = num
      · have hqb : (v.number == num) = true := by simpa using hq
        have HF : Hid (R = some v) := by show _ = _; rw [← HK.out, HS, if_pos hq]
        have x3 := (hb1.block _ (by omega)).trans x2
        have f0 := fr_of_blk x3
        obtain ⟨q0, q1, q2, q3⟩ := blk4 x3
        clear hq HS
        go_wp2_with fail
        refine bodyPost_ret (v := .tuple #[.agg #[.int .i64 v.number, .slice b1 m1 d1, .slice b2 m2 d2, .slice b3 m3 d3], .bool true]) (by simp [results, Tryz.results44, go_sem, *]) rfl ?_
        refine ⟨?_, KB_set (KB_set (KB_set (KB_set (KBT hbw hb1) (Nat.le_succ _)) (Nat.le_succ _)) (Nat.le_succ _)) (Nat.le_succ _)⟩
        rw [HF.out]
        exact ⟨_, _, _, _, _, _, _, _, _, rfl, r1, r2, r3⟩
      · have hqb : (v.number == num) = false := by simpa using hq
        have HK' : Hid ((x.drop (k + 1)).find? (fun v => decide (v.number = num)) = R) := by show _ = _; rw [← HK.out, HS, if_neg hq]
        clear hq HS
        go_wp2_with fail
        go_roundg (n - (k + 1))
        case measure => omega
        case rel => exact ⟨k + 1, by omega, by go_num, HK', KBT hb hb1⟩
    · have HF : Hid (R = none) := by
        show _ = _; rw [← HK.out, List.drop_of_length_le (by rw [← Hn.out]; omega)]; rfl
      have f0 := fr_of_blk x2
      obtain ⟨q0, q1, q2, q3⟩ := blk4 x2
      go_wp2_with fail
      refine bodyPost_ret (v := .tuple #[.agg #[.int .i64 0, .slice none 0 0, .slice none 0 0, .slice none 0 0], .bool false]) (by simp [results, Tryz.results44, go_sem, *]) rfl ?_
      refine ⟨?_, KB_set (KB_set (KB_set (KB_set hbw (Nat.le_succ _)) (Nat.le_succ _)) (Nat.le_succ _)) (Nat.le_succ _)⟩
      rw [HF.out]
      exact ⟨_, rfl, rfl⟩
set_option maxHeartbeats 1000000 in
set_option maxRecDepth 100000 in
/-- Field: the first field of that number, where it lies. -/
theorem rfield_any {nm vb : Value} {ao : Option Addr} {n cap : Nat} {l : List FI} {w : World} (h : RdL 6 FAt w (.slice ao n cap) l) (hvb : ∃ ao n cap, vb = .slice ao n cap) (hnm : ∃ s : List UInt8, nm = .string (S s)) (num : Int) {j : Nat} {f : FI} (hj : l[j]? = some f) (hf : f.number = num) (hno : ∀ a ∈ l.take j, decide (a.number = num) = false) :
    Calls Tryz.prog 18 #[.agg #[nm, .slice ao n cap, vb], .int .i64 num] w fun e w' => (∃ b off, ao = some ⟨b, off, none⟩ ∧ e = .returned (.pointer (some ⟨b, off + j * 6, none⟩))) ∧ Below w.heap.size w w' := by
  obtain ⟨_, _, _, e0, Hn, hcap⟩ := h.shape
  cases e0
  obtain ⟨ae, ne, ce, rfl⟩ := hvb
  obtain ⟨s, rfl⟩ := hnm
  have hjl : j < n := by rw [Hn.out]; exact (List.getElem?_eq_some_iff.1 hj).1
  obtain ⟨b, off, rfl, _⟩ := h.get FAt.plain hj
  obtain ⟨W0, HW0⟩ : ∃ W0, Hid (W0 = w.alloc (.cells #[.string (S s), .slice (some ⟨b, off, none⟩) n cap, .slice ae ne ce] 49)) := ⟨_, rfl⟩
  have hb0 : Below w.heap.size w W0 := by rw [HW0.out]; exact (Below.refl _ _).alloc (Nat.le_refl _) _
  have x0 : W0.heap[w.heap.size]? = some (.cells #[.string (S s), .slice (some ⟨b, off, none⟩) n cap, .slice ae ne ce] 49 (0, 0)) := by rw [HW0.out]; exact heap_alloc_new _ _
  obtain ⟨t0, t1, t2⟩ := blk3 x0
  go_enter Tryz.func18, Tryz.ntmps18
  go_wp2_with fail
  rw [← HW0.out]
  go_loopg [9] n (fun m i wr => ∃ k : Nat, k + m = n ∧ i = .int .i64 k ∧ k ≤ j ∧ W0 = wr)
  case atStart => exact ⟨0, by omega, rfl, by omega, rfl⟩
  case round =>
    obtain ⟨k, hk, rfl, hkj, rfl⟩ := hrel
    have hlt : k < n := by omega
    obtain ⟨a, Ha⟩ : ∃ a, Hid (l[k]? = some a) := ⟨l[k]'(by rw [← Hn.out]; exact hlt), List.getElem?_eq_getElem (by rw [← Hn.out]; exact hlt)⟩
    obtain ⟨b', off', e', hat⟩ := (h.below FAt.stays hb0).get FAt.plain Ha.out
    cases e'
    obtain ⟨s0, s1, s2, s3, s4, s5⟩ := hat.at
    have hki : (k : Int) < (n : Int) := by omega
    clear hat
    by_cases hkj' : k = j
    · subst hkj'
      have hfa : a = f := by have := Ha.out.symm.trans hj; simpa using this
      have hqb : (a.number == num) = true := by rw [hfa]; simpa using hf
      clear hfa
      go_wp2
      go_ret
      exact ⟨⟨b, off, rfl, rfl⟩, hb0⟩
    · have hq := hno a (List.mem_of_getElem? (i := k) (by rw [List.getElem?_take, if_pos (by omega)]; exact Ha.out))
      have hqb : (a.number == num) = false := by simpa using hq
      clear hq
      go_wp2_with fail
      go_roundg (n - (k + 1))
      case measure => omega
      case rel => exact ⟨k + 1, by omega, by go_num, by omega, rfl⟩

end L
end Go.Proofs.YthgbiflfinddiaaGreat

