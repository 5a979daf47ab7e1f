import Derived.Test.YtenlijgnmhdopaaGreatDoorMLc
/- The contract of wrongEnum. -/
namespace Go.Proofs.YtenlijgnmhdopaaGreatDoor
namespace L
open Go.RowKit

theorem addL_len {α : Type} [DecidableEq α] (x : α) (l : List α) : (addL x l).length ≤ l.length + 1 := by unfold addL; split <;> simp
theorem items_broken {w : World} {vl : Value} {l : List II} {n : Int} (hl : RdL 2 TAt w vl l) (hn : l.length ≤ 900) (hs : ∀ s ∈ l, s.name.length ≤ 9223372036854775807) :
    Calls Tryz.prog 38 #[vl, .slice (some ⟨w.heap.size + 5, 0, none⟩) 3 3] (allocL w (itObjs w.heap.size n)) fun e w' => e = .returned (.agg #[.int .i64 (firstGo (stepI n) [7, 3, 8] 0 l ([], [])).1, .int .i64 (((firstGo (stepI n) [7, 3, 8] 0 l ([], [])).2 : Nat) : Int)]) ∧ Below w.heap.size w w' := by
  obtain ⟨b, Hb⟩ : ∃ b, Hid (b = w.heap.size) := ⟨_, rfl⟩
  obtain ⟨W6, HW⟩ : ∃ W6, Hid (W6 = allocL w (itObjs w.heap.size n)) := ⟨_, rfl⟩
  have hz : W6.heap.size = w.heap.size + 6 := by rw [HW.out, allocL_size]; rfl
  have hb : Below w.heap.size w W6 := by rw [HW.out]; exact allocL_below _ _
  have ha : ∀ i o, (itObjs w.heap.size n)[i]? = some o → W6.heap[w.heap.size + i]? = some o := fun i o h => by rw [HW.out]; exact allocL_at _ _ i o h
  rw [← HW.out]
  have hB := brokenI_any (B := W6.heap.size) (B0 := w.heap.size) (cs := [w.heap.size + 1, w.heap.size + 2]) (w := W6) (l := l) (rs := itRs w.heap.size) (g := w.heap.size + 5) (stepI n) (fun k j s W => ISt W W6.heap.size w.heap.size n s ∧ s.1.length ≤ (if j = 0 then k else k + 1) ∧ s.2.length ≤ (if j ≤ 2 then k else k + 1)) ([], [])
    (fun W hW => hl.below TAt.stays (hb.trans hW)) (ha 5 _ rfl) (by simp) (by omega) (Nat.le_refl _) (by simp) (by simp; omega) (by simp [itRs]) ?_ ?_ (fun k j s W W' _ hI hb' => ⟨hI.1.below hb', hI.2⟩) (fun k s W _ hI => ⟨hI.1, by simpa [itRs] using hI.2⟩) ?_
  · refine hB.mono ?_
    rintro e w' ⟨rfl, hF⟩
    exact ⟨rfl, hb.trans (hF.below (by omega) (by omega) (by simp))⟩
  · intro r hr args w'
    simp only [itRs, List.mem_cons, List.mem_nil_iff, or_false] at hr
    rcases hr with rfl | rfl | rfl
    · exact enters_of Tryz.func65 (by kernel_rfl) rfl args w'
    · exact enters_of Tryz.func66 (by kernel_rfl) rfl args w'
    · exact enters_of Tryz.func67 (by kernel_rfl) rfl args w'
  · exact ⟨⟨⟨⟨_, ha 1 _ rfl, Row.nil _ _ _⟩, ha 3 _ rfl, by omega⟩, ⟨⟨_, ha 2 _ rfl, Row.nil _ _ _⟩, ha 4 _ rfl, by omega⟩, ha 0 _ rfl, by omega⟩, by simp, by simp⟩
  · intro k j r f s W hf hr hBW _ hI
    obtain ⟨h1, h2, h3⟩ := hI
    have hk := (List.getElem?_eq_some_iff.1 hf).1
    have hjl : j < 3 := (List.getElem?_eq_some_iff.1 hr).1
    match j, hjl, hr with
    | 0, _, hr =>
      cases hr
      refine (itemRule1 h1 hBW (by simp at h2; omega) f (hs f (mem_at hf))).mono ?_
      rintro e W' ⟨rfl, k1, k2⟩
      refine ⟨rfl, fun e => ⟨k1 e, ?_, ?_⟩, k2⟩
      · have := addL_len f.name s.1; simp at h2; show (addL f.name s.1).length ≤ k + 1; omega
      · show s.2.length ≤ k; simpa using h3
    | 1, _, hr =>
      cases hr
      refine (itemRule2 h1 f).mono ?_
      rintro e W' ⟨rfl, k1, k2⟩
      exact ⟨rfl, fun e => ⟨k1 e, by show s.1.length ≤ k + 1; simpa using h2, by show s.2.length ≤ k; simpa using h3⟩, k2⟩
    | 2, _, hr =>
      cases hr
      refine (itemRule3 h1 hBW (by simp at h3; omega) f).mono ?_
      rintro e W' ⟨rfl, k1, k2⟩
      refine ⟨rfl, fun e => ⟨k1 e, by show s.1.length ≤ k + 1; simpa using h2, ?_⟩, k2⟩
      have := addL_len f.value s.2; simp at h3; show (addL f.value s.2).length ≤ k + 1; omega

set_option maxRecDepth 100000 in
theorem field0 (a b : Int) (w : World) : (Instr.field 29 (.agg #[.int .i64 a, .int .i64 b]) 0).run Tryz.prog w = .ok (.int .i64 a) w := by rfl
/-- What is wrong with an enum. -/
def wrongE (e : EI) : Int := if e.items.length < 1 ∨ 16 < e.items.length then 5 else (firstGo (stepI ((e.items.getD 0 ⟨[], 0⟩).value)) [7, 3, 8] 0 e.items ([], [])).1
set_option maxHeartbeats 1000000 in
set_option maxRecDepth 100000 in
theorem wrongEnum_any {w : World} {vi : Value} (e : EI) (hl : RdL 2 TAt w vi e.items) (hs : ∀ s ∈ e.items, s.name.length ≤ 9223372036854775807) :
    Calls Tryz.prog 21 #[.agg #[.string (S e.name), vi]] w fun en w' => en = .returned (.int .i64 (wrongE e)) ∧ Below w.heap.size w w' := by
  obtain ⟨ao, n, cap, rfl, Hn, hcap⟩ := hl.shape
  have hba := (Below.refl w.heap.size w).alloc (Nat.le_refl _) (.cells #[.string (S e.name), .slice ao n cap] 50)
  by_cases h1 : n < 1
  · have HE : Hid (wrongE e = 5) := by show _ = _; rw [wrongE, if_pos (.inl (by rw [← Hn.out]; exact h1))]
    have hi : (n : Int) < 1 := by omega
    go_enter Tryz.func21, Tryz.ntmps21
    go_wp2
    go_ret
    exact ⟨by rw [HE.out]; rfl, hba⟩
  · by_cases h2 : 16 < n
    · have HE : Hid (wrongE e = 5) := by show _ = _; rw [wrongE, if_pos (.inr (by rw [← Hn.out]; exact h2))]
      have hi : ¬ (n : Int) < 1 := by omega
      have hj : (16 : Int) < (n : Int) := by omega
      go_enter Tryz.func21, Tryz.ntmps21
      go_wp2
      go_ret
      exact ⟨by rw [HE.out]; rfl, hba⟩
    · obtain ⟨i0, Hi⟩ : ∃ i0, Hid (e.items[0]? = some i0) := ⟨e.items[0]'(by rw [← Hn.out]; omega), List.getElem?_eq_getElem (by rw [← Hn.out]; omega)⟩
      have HE : Hid (wrongE e = (firstGo (stepI i0.value) [7, 3, 8] 0 e.items ([], [])).1) := by
        show _ = _
        rw [wrongE, if_neg (by rw [← Hn.out]; omega), List.getD_eq_getElem?_getD, Hi.out]
        rfl
      have hi : ¬ (n : Int) < 1 := by omega
      have hj : ¬ (16 : Int) < (n : Int) := by omega
      have hn0 : (0 : Int) < (n : Int) := by omega
      have hl1 := hl.below TAt.stays hba
      obtain ⟨b, off, rfl, hat⟩ := hl1.get TAt.plain Hi.out
      obtain ⟨t0, t1⟩ := hat.at
      simp only [Nat.zero_mul, Nat.add_zero] at t0 t1
      obtain ⟨W1, HW1⟩ : ∃ W1, Hid (W1 = w.alloc (.cells #[.string (S e.name), .slice (some ⟨b, off, none⟩) n cap] 50)) := ⟨_, rfl⟩
      have hx1 : W1.heap[w.heap.size]? = some (.cells #[.string (S e.name), .slice (some ⟨b, off, none⟩) n cap] 50 (0, 0)) := by rw [HW1.out]; exact heap_alloc_new _ _
      rw [← HW1.out] at hl1 hba t0 t1
      have hd : Below W1.heap.size W1 W1.drew := (Below.refl _ _).drew
      have hnew := itemRules_new i0.value W1.drew
      have hbr := items_broken (n := i0.value) (hl1.below TAt.stays hd) (by rw [← Hn.out]; omega) hs
      have hcl : ∀ W, Below W1.heap.size W1 W → W.cell? ⟨w.heap.size, 1, none⟩ = some (.slice (some ⟨b, off, none⟩) n cap) ∧ W.cell? ⟨b, off + 1, none⟩ = some (.int .i64 i0.value) := fun W hW => ⟨cell_below hW (cell_of_blk hx1 1 _ rfl), cell_below hW t1⟩
      obtain ⟨z0, z1⟩ := hcl W1.drew hd
      have hfl := field0
      clear hat t0 t1 hl1
      go_enter Tryz.func21, Tryz.ntmps21
      go_wp2_with fail
      rw [← HW1.out]
      go_region_with (first
        | (go_at_call 39; refine hnew.mono ?_; rintro en w1 ⟨rfl, hw1⟩; obtain ⟨z2, z3⟩ := hcl w1 (by rw [← hw1]; exact hd.trans (allocL_below (itObjs W1.drew.heap.size i0.value) W1.drew)))
        | (go_at_call 38; rw [← hw1]; refine hbr.mono ?_; rintro en w2 ⟨rfl, hb2⟩))
      all_goals
        go_wp2
        go_ret
        exact ⟨by rw [HE.out]; rfl, hba.trans ((hd.trans hb2).mono hba.size)⟩

end L
end Go.Proofs.YtenlijgnmhdopaaGreatDoor

/- The contract of wrongMessage. -/
namespace Go.Proofs.YtenlijgnmhdopaaGreatDoor
namespace L
open Go.RowKit

def barB (n : Int) : Bool := decide (n < 0) || decide (536870912 ≤ n)
set_option maxHeartbeats 1000000 in
set_option maxRecDepth 100000 in
theorem bar1_call (n : Int) (w : World) : Calls Tryz.prog 35 #[.int .i64 n] w fun e w' => e = .returned (.bool (barB n)) ∧ w = w' := by
  obtain ⟨q1, hq1⟩ : ∃ q, decide (n < 0) = q := ⟨_, rfl⟩
  obtain ⟨q2, hq2⟩ : ∃ q, decide (536870912 ≤ n) = q := ⟨_, rfl⟩
  have HN : Hid (barB n = (q1 || q2)) := by show _ = _; rw [barB, hq1, hq2]
  cases q1 <;> cases q2
  all_goals simp only [decide_eq_true_eq, decide_eq_false_iff_not] at hq1 hq2
  all_goals first | (exfalso; omega) | skip
  all_goals go_enter Tryz.func35, Tryz.ntmps35
  all_goals go_wp2
  all_goals go_ret
  all_goals exact ⟨by rw [HN.out]; rfl, rfl⟩
set_option maxHeartbeats 1000000 in
set_option maxRecDepth 100000 in
theorem barIdx_any {v : Value} {l : List Int} {w : World} (h : RdL 1 NAt w v l) :
    Calls Tryz.prog 51 #[v, .func (.func 35) #[] #[]] w fun e w' => ∃ r : Int, e = .returned (.int .i64 r) ∧ decide (0 ≤ r) = l.any barB ∧ w = w' := by
  obtain ⟨ao, n, cap, rfl, Hn, hcap⟩ := h.shape
  go_enter Tryz.func51, Tryz.ntmps51
  go_wp2_with fail
  go_loopg [8] n (fun m i wr => ∃ k : Nat, k + m = n ∧ i = .int .i64 k ∧ Hid (l.any barB = (l.drop k).any barB) ∧ w = wr)
  case atStart => exact ⟨0, by omega, rfl, rfl, rfl⟩
  case round =>
    obtain ⟨k, hk, rfl, HK, rfl⟩ := hrel
    by_cases hlt : k < n
    · obtain ⟨a, Ha⟩ : ∃ a, Hid (l[k]? = some a) := ⟨l[k]'(by rw [← Hn.out]; exact hlt), List.getElem?_eq_getElem (by rw [← Hn.out]; exact hlt)⟩
      have HK2 : Hid (l.any barB = (barB a || (l.drop (k + 1)).any barB)) := by
        obtain ⟨hk, e⟩ := List.getElem?_eq_some_iff.1 Ha.out
        show _ = _; rw [HK.out, List.drop_eq_getElem_cons hk, e]; simp
      obtain ⟨b, off, rfl, hc⟩ := h.get NAt.plain Ha.out
      have hc : w.cell? ⟨b, off + k * 1, none⟩ = some (.int .i64 a) := hc
      rw [Nat.mul_one] at hc
      have hki : (k : Int) < (n : Int) := by omega
      have hcall := bar1_call a w
      cases hq : barB a with
      | true =>
        have HR : Hid (l.any barB = true) := by show _ = _; rw [HK2.out, hq]; rfl
        rw [hq] at hcall
        clear hq
        go_wp2_with fail
        refine hcall.mono ?_
        rintro e w1 ⟨rfl, rfl⟩
        go_wp2
        go_ret
        exact ⟨_, rfl, by rw [HR.out]; simp, rfl⟩
      | false =>
        have HR : Hid (l.any barB = (l.drop (k + 1)).any barB) := by show _ = _; rw [HK2.out, hq]; rfl
        rw [hq] at hcall
        clear hq
        go_wp2_with fail
        refine hcall.mono ?_
        rintro e w1 ⟨rfl, rfl⟩
        go_wp2_with fail
        go_roundg (n - (k + 1))
        case measure => omega
        case rel => exact ⟨k + 1, by omega, by go_num, HR, rfl⟩
    · have HX : Hid (l.any barB = false) := by show _ = _; rw [HK.out, List.drop_eq_nil_of_le (by rw [← Hn.out]; omega)]; rfl
      go_wp2
      go_ret
      exact ⟨_, rfl, by rw [HX.out]; simp, rfl⟩
theorem barCont_any {v : Value} {l : List Int} {w : World} (h : RdL 1 NAt w v l) :
    Calls Tryz.prog 34 #[v, .func (.func 35) #[] #[]] w fun e w' => e = .returned (.bool (l.any barB)) ∧ w = w' := by
  have hi := barIdx_any h
  go_enter Tryz.func34, Tryz.ntmps34
  go_wp2_with fail
  refine hi.mono ?_
  rintro e w1 ⟨r, rfl, hr, rfl⟩
  have HR : Hid (decide (0 ≤ r) = l.any barB) := hr
  clear hr hi
  go_wp2
  go_ret
  exact ⟨ret_bool HR.out, rfl⟩

def errsF : List Int := [7, 3, 8, 1, 6, 8, 2]
def mem0 : Mem := ⟨[], [], 0, 0⟩
theorem fields_broken {w : World} {a1 a2 a3 a4 : Option Addr} {n1 n2 n3 n4 c1 c2 c3 c4 : Nat} {nm : List UInt8} {g : GI} {l : List FI} {bar : List Int} (hg : GRd w (.slice a1 n1 c1) (.slice a2 n2 c2) g) (hl : RdL 6 FAt w (.slice a3 n3 c3) l) (hbar : RdL 1 NAt w (.slice a4 n4 c4) bar) (hn : l.length ≤ 900) (hs : ∀ s ∈ l, s.name.length ≤ 9223372036854775807) :
    Calls Tryz.prog 36 #[.slice a3 n3 c3, .slice (some ⟨w.heap.size + 9, 0, none⟩) 7 7] (allocL w (flObjs w.heap.size (.slice a1 n1 c1) (.slice a2 n2 c2) (.string (S nm)) (.slice a3 n3 c3) (.slice a4 n4 c4))) fun e w' => e = .returned (.agg #[.int .i64 (firstGo (stepF g bar) errsF 0 l mem0).1, .int .i64 (((firstGo (stepF g bar) errsF 0 l mem0).2 : Nat) : Int)]) ∧ Below w.heap.size w w' := by
  obtain ⟨W9, HW⟩ : ∃ W9, Hid (W9 = allocL w (flObjs w.heap.size (.slice a1 n1 c1) (.slice a2 n2 c2) (.string (S nm)) (.slice a3 n3 c3) (.slice a4 n4 c4))) := ⟨_, rfl⟩
  have hz : W9.heap.size = w.heap.size + 10 := by rw [HW.out, allocL_size]; rfl
  have hb : Below w.heap.size w W9 := by rw [HW.out]; exact allocL_below _ _
  have ha : ∀ i o, (flObjs w.heap.size (.slice a1 n1 c1) (.slice a2 n2 c2) (.string (S nm)) (.slice a3 n3 c3) (.slice a4 n4 c4))[i]? = some o → W9.heap[w.heap.size + i]? = some o := fun i o h => by rw [HW.out]; exact allocL_at _ _ i o h
  rw [← HW.out]
  have hB := brokenF_any (B := W9.heap.size) (B0 := w.heap.size) (cs := [w.heap.size + 2, w.heap.size + 3, w.heap.size + 4, w.heap.size + 5]) (w := W9) (l := l) (rs := flRs w.heap.size) (g := w.heap.size + 9) (stepF g bar) (fun k j s W => KSt w W W9.heap.size w.heap.size a1 a2 a3 a4 n1 n2 n3 n4 c1 c2 c3 c4 nm s ∧ s.names.length ≤ (if j = 0 then k else k + 1) ∧ s.nums.length ≤ (if j ≤ 2 then k else k + 1) ∧ 0 ≤ s.begun ∧ s.begun ≤ (if j ≤ 6 then (k : Int) else (k : Int) + 1) ∧ s.last ≤ s.begun) mem0
    (fun W hW => hl.below FAt.stays (hb.trans hW)) (ha 9 _ rfl) (by simp) (by omega) (Nat.le_refl _) (by simp) (by simp; omega) (by simp [flRs]) ?_ ?_ (fun k j s W W' _ hI hb' => ⟨hI.1.below hb', hI.2⟩) (fun k s W _ hI => ⟨hI.1, by simpa [flRs] using hI.2⟩) ?_
  · refine hB.mono ?_
    rintro e w' ⟨rfl, hF⟩
    exact ⟨rfl, hb.trans (hF.below (by omega) (by omega) (by simp))⟩
  · intro r hr args w'
    simp only [flRs, List.mem_cons, List.mem_nil_iff, or_false] at hr
    rcases hr with rfl | rfl | rfl | rfl | rfl | rfl | rfl
    · exact enters_of Tryz.func54 (by kernel_rfl) rfl args w'
    · exact enters_of Tryz.func55 (by kernel_rfl) rfl args w'
    · exact enters_of Tryz.func57 (by kernel_rfl) rfl args w'
    · exact enters_of Tryz.func59 (by kernel_rfl) rfl args w'
    · exact enters_of Tryz.func60 (by kernel_rfl) rfl args w'
    · exact enters_of Tryz.func62 (by kernel_rfl) rfl args w'
    · exact enters_of Tryz.func64 (by kernel_rfl) rfl args w'
  · exact ⟨⟨⟨⟨_, ha 2 _ rfl, Row.nil _ _ _⟩, ha 6 _ rfl, by omega⟩, ⟨⟨_, ha 3 _ rfl, Row.nil _ _ _⟩, ha 7 _ rfl, by omega⟩, ha 4 _ rfl, ha 5 _ rfl, ha 8 _ rfl, ha 0 _ rfl, ha 1 _ rfl, by omega, Nat.le_refl _, rfl, hb⟩, by simp [mem0], by simp [mem0], by simp [mem0], by simp [mem0], by simp [mem0]⟩
  · intro k j r f s W hf hr hBW _ hI
    obtain ⟨h1, h2, h3, h4, h5, h6⟩ := hI
    have hk := (List.getElem?_eq_some_iff.1 hf).1
    have hjl : j < 7 := (List.getElem?_eq_some_iff.1 hr).1
    match j, hjl, hr with
    | 0, _, hr =>
      cases hr
      refine (fieldRule1 g bar h1 (by simp at h2; omega) f (hs f (mem_at hf))).mono ?_
      rintro e W' ⟨rfl, k1, k2⟩
      refine ⟨rfl, fun e => ⟨k1 e, ?_, ?_, h4, ?_, h6⟩, k2⟩
      · have := addL_len f.name s.names; simp at h2; show (addL f.name s.names).length ≤ k + 1; omega
      · show s.nums.length ≤ k; simpa using h3
      · show s.begun ≤ (k : Int); simpa using h5
    | 1, _, hr =>
      cases hr
      refine (fieldRule2 g bar h1 f).mono ?_
      rintro e W' ⟨rfl, k1, k2⟩
      exact ⟨rfl, fun e => ⟨k1 e, by show s.names.length ≤ k + 1; simpa using h2, by show s.nums.length ≤ k; simpa using h3, h4, by show s.begun ≤ (k : Int); simpa using h5, h6⟩, k2⟩
    | 2, _, hr =>
      cases hr
      refine (fieldRule3 g bar h1 (by simp at h3; omega) hbar f).mono ?_
      rintro e W' ⟨rfl, k1, k2⟩
      refine ⟨rfl, fun e => ⟨k1 e, by show s.names.length ≤ k + 1; simpa using h2, ?_, h4, by show s.begun ≤ (k : Int); simpa using h5, h6⟩, k2⟩
      have := addL_len f.number s.nums; simp at h3; show (addL f.number s.nums).length ≤ k + 1; omega
    | 3, _, hr =>
      cases hr
      refine (fieldRule4 g bar h1 f).mono ?_
      rintro e W' ⟨rfl, k1, k2⟩
      exact ⟨rfl, fun e => ⟨k1 e, by show s.names.length ≤ k + 1; simpa using h2, by show s.nums.length ≤ k + 1; simpa using h3, h4, by show s.begun ≤ (k : Int); simpa using h5, h6⟩, k2⟩
    | 4, _, hr =>
      cases hr
      refine (fieldRule5 g bar h1 hg f).mono ?_
      rintro e W' ⟨rfl, k1, k2⟩
      exact ⟨rfl, fun e => ⟨k1 e, by show s.names.length ≤ k + 1; simpa using h2, by show s.nums.length ≤ k + 1; simpa using h3, h4, by show s.begun ≤ (k : Int); simpa using h5, h6⟩, k2⟩
    | 5, _, hr =>
      cases hr
      refine (fieldRule6 g bar h1 f).mono ?_
      rintro e W' ⟨rfl, k1, k2⟩
      exact ⟨rfl, fun e => ⟨k1 e, by show s.names.length ≤ k + 1; simpa using h2, by show s.nums.length ≤ k + 1; simpa using h3, h4, by show s.begun ≤ (k : Int); simpa using h5, h6⟩, k2⟩
    | 6, _, hr =>
      cases hr
      simp at h5
      refine (fieldRule7 g bar h1 h4 (by omega) f).mono ?_
      rintro e W' ⟨rfl, k1, k2⟩
      refine ⟨rfl, fun e => ?_, k2⟩
      have e' : misB s.last s.begun f.choice = false := e
      have hm : f.choice = 0 ∨ f.choice = s.last ∨ f.choice = s.begun + 1 := by
        simp [misB] at e'
        by_cases q1 : f.choice = 0
        · exact .inl q1
        · by_cases q2 : f.choice = s.last
          · exact .inr (.inl q2)
          · exact .inr (.inr (e' q1 q2))
      refine ⟨k1 e, by show s.names.length ≤ k + 1; simpa using h2, by show s.nums.length ≤ k + 1; simpa using h3, ?_, ?_, ?_⟩
      · show 0 ≤ max s.begun f.choice; omega
      · show max s.begun f.choice ≤ (k : Int) + 1; omega
      · show f.choice ≤ max s.begun f.choice; omega

/-- What is wrong with a message. -/
def wrongM (g : GI) (m : MI) : Int := if 16 < m.fields.length ∨ 16 < m.barred.length then 5 else if m.barred.any barB then 3 else (firstGo (stepF g m.barred) errsF 0 m.fields mem0).1

end L
end Go.Proofs.YtenlijgnmhdopaaGreatDoor

/- The contracts of wrongMessage, names, crowded. -/
namespace Go.Proofs.YtenlijgnmhdopaaGreatDoor
namespace L
open Go.RowKit

set_option maxHeartbeats 2000000 in
set_option maxRecDepth 100000 in
theorem wrongMessage_any {w : World} {vm ve vf vb : Value} {g : GI} (m : MI) (hg : GRd w vm ve g) (hl : RdL 6 FAt w vf m.fields) (hbar : RdL 1 NAt w vb m.barred) (hs : ∀ s ∈ m.fields, s.name.length ≤ 9223372036854775807) :
    Calls Tryz.prog 20 #[.agg #[vm, ve], .agg #[.string (S m.name), vf, vb]] w fun en w' => en = .returned (.int .i64 (wrongM g m)) ∧ Below w.heap.size w w' := by
  obtain ⟨a1, n1, c1, rfl, _, _⟩ := hg.1.shape
  obtain ⟨a2, n2, c2, rfl, _, _⟩ := hg.2.shape
  obtain ⟨a3, n3, c3, rfl, H3, hc3⟩ := hl.shape
  obtain ⟨a4, n4, c4, rfl, H4, hc4⟩ := hbar.shape
  have hmf := makeF
  obtain ⟨W2, HW2⟩ : ∃ W2, Hid (W2 = (w.alloc (.cells #[.slice a1 n1 c1, .slice a2 n2 c2] 25)).alloc (.cells #[.string (S m.name), .slice a3 n3 c3, .slice a4 n4 c4] 37)) := ⟨_, rfl⟩
  have hb2 : Below w.heap.size w W2 := by rw [HW2.out]; exact ((Below.refl _ _).alloc (Nat.le_refl _) _).alloc (by simp) _
  have hx1 : W2.heap[w.heap.size]? = some (.cells #[.slice a1 n1 c1, .slice a2 n2 c2] 25 (0, 0)) := by rw [HW2.out]; exact alloc2_old _ _ _
  have hx2 : W2.heap[w.heap.size + 1]? = some (.cells #[.string (S m.name), .slice a3 n3 c3, .slice a4 n4 c4] 37 (0, 0)) := by rw [HW2.out]; exact alloc2_new _ _ _
  by_cases h1 : 16 < n3
  · have HE : Hid (wrongM g m = 5) := by show _ = _; rw [wrongM, if_pos (.inl (by rw [← H3.out]; exact h1))]
    have hi : (16 : Int) < (n3 : Int) := by omega
    go_enter Tryz.func20, Tryz.ntmps20
    go_wp2
    rw [← HW2.out]
    go_ret
    exact ⟨by rw [HE.out]; rfl, hb2⟩
  · have hi : ¬ (16 : Int) < (n3 : Int) := by omega
    by_cases h2 : 16 < n4
    · have HE : Hid (wrongM g m = 5) := by show _ = _; rw [wrongM, if_pos (.inr (by rw [← H4.out]; exact h2))]
      have hj : (16 : Int) < (n4 : Int) := by omega
      go_enter Tryz.func20, Tryz.ntmps20
      go_wp2
      rw [← HW2.out]
      go_ret
      exact ⟨by rw [HE.out]; rfl, hb2⟩
    · have hj : ¬ (16 : Int) < (n4 : Int) := by omega
      have hno : ¬ (16 < m.fields.length ∨ 16 < m.barred.length) := by rw [← H3.out, ← H4.out]; omega
      have hct := barCont_any (hbar.below NAt.stays hb2)
      cases hq : m.barred.any barB with
      | true =>
        have HE : Hid (wrongM g m = 3) := by show _ = _; rw [wrongM, if_neg hno, hq]; rfl
        rw [hq] at hct
        clear hq hno
        go_enter Tryz.func20, Tryz.ntmps20
        go_wp2_with fail
        rw [← HW2.out]
        refine hct.mono ?_
        rintro en w1 ⟨rfl, rfl⟩
        go_wp2
        go_ret
        exact ⟨by rw [HE.out]; rfl, hb2⟩
      | false =>
        have HE : Hid (wrongM g m = (firstGo (stepF g m.barred) errsF 0 m.fields mem0).1) := by show _ = _; rw [wrongM, if_neg hno, hq]; rfl
        rw [hq] at hct
        have hd : Below W2.heap.size W2 W2.drew := (Below.refl _ _).drew
        have hwd : Below w.heap.size w W2.drew := hb2.drew
        have hnew := fieldRules_new a1 a2 a3 a4 n1 n2 n3 n4 c1 c2 c3 c4 m.name W2.drew
        have hbr := fields_broken (nm := m.name) (hg.below hwd) (hl.below FAt.stays hwd) (hbar.below NAt.stays hwd) (by rw [← H3.out]; omega) hs
        have hcl : ∀ W, Below W2.heap.size W2 W → W.heap[w.heap.size]? = some (.cells #[.slice a1 n1 c1, .slice a2 n2 c2] 25 (0, 0)) ∧ W.heap[w.heap.size + 1]? = some (.cells #[.string (S m.name), .slice a3 n3 c3, .slice a4 n4 c4] 37 (0, 0)) := fun W hW => ⟨(hW.block _ (Array.getElem?_eq_some_iff.1 hx1).1).trans hx1, (hW.block _ (Array.getElem?_eq_some_iff.1 hx2).1).trans hx2⟩
        obtain ⟨y1, y2⟩ := hcl W2.drew hd
        obtain ⟨z0, z1⟩ := blk2 y1
        obtain ⟨z2, z3, z4⟩ := blk3 y2
        have hfl := field0
        clear hq hno
        go_enter Tryz.func20, Tryz.ntmps20
        go_wp2_with fail
        rw [← HW2.out]
        refine hct.mono ?_
        rintro en w1 ⟨rfl, rfl⟩
        go_wp2_with fail
        go_region_with (first
          | (go_at_call 37; refine hnew.mono ?_; rintro en w1 ⟨rfl, hw1⟩; obtain ⟨y3, y4⟩ := hcl w1 (by rw [← hw1]; exact hd.trans (allocL_below (flObjs W2.drew.heap.size (.slice a1 n1 c1) (.slice a2 n2 c2) (.string (S m.name)) (.slice a3 n3 c3) (.slice a4 n4 c4)) W2.drew)); obtain ⟨z5, z6, z7⟩ := blk3 y4)
          | (go_at_call 36; rw [← hw1]; refine hbr.mono ?_; rintro en w2 ⟨rfl, hb3⟩))
        all_goals
          go_wp2
          go_ret
          exact ⟨by rw [HE.out]; rfl, hb2.trans ((hd.trans hb3).mono hb2.size)⟩

theorem crowded_any {w : World} {a1 a2 : Option Addr} {n1 c1 n2 c2 : Nat} (h1 : n1 ≤ 140737488355328) (h2 : n2 ≤ 140737488355328) : Calls Tryz.prog 14 #[.agg #[.slice a1 n1 c1, .slice a2 n2 c2]] w fun e w' => e = .returned (.bool (decide (10 < n1 + n2))) ∧ Below w.heap.size w w' := by
  have hba := (Below.refl w.heap.size w).alloc (Nat.le_refl _) (.cells #[.slice a1 n1 c1, .slice a2 n2 c2] 25)
  have HE : Hid (decide ((10 : Int) < (n1 : Int) + (n2 : Int)) = decide (10 < n1 + n2)) := by show _ = _; rw [Bool.eq_iff_iff]; simp; omega
  go_enter Tryz.func14, Tryz.ntmps14
  go_wp2
  go_ret
  exact ⟨by rw [← HE.out]; rfl, hba⟩

end L
end Go.Proofs.YtenlijgnmhdopaaGreatDoor

/- The contract of names. -/
namespace Go.Proofs.YtenlijgnmhdopaaGreatDoor
namespace L
open Go.RowKit

def namesL (g : GI) : List (List UInt8) := g.msgs.map MI.name ++ g.enums.map EI.name
set_option maxHeartbeats 2000000 in
set_option maxRecDepth 100000 in
theorem names_any {w : World} {vm ve : Value} {g : GI} (hg : GRd w vm ve g) (hn1 : g.msgs.length ≤ 1000) (hn2 : g.enums.length ≤ 1000) :
    Calls Tryz.prog 18 #[.agg #[vm, ve]] w fun e w' => ∃ ao n cap, e = .returned (.slice ao n cap) ∧ RdL 1 SAt w' (.slice ao n cap) (namesL g) ∧ Below w.heap.size w w' := by
  obtain ⟨a1, n1, c1, rfl, H1, _⟩ := hg.1.shape
  obtain ⟨a2, n2, c2, rfl, H2, _⟩ := hg.2.shape
  have h1 : n1 ≤ 1000 := by rw [H1.out]; exact hn1
  have h2 : n2 ≤ 1000 := by rw [H2.out]; exact hn2
  obtain ⟨W0, HW0⟩ : ∃ W0, Hid (W0 = w.alloc (.cells #[.slice a1 n1 c1, .slice a2 n2 c2] 25)) := ⟨_, rfl⟩
  have hb0 : Below w.heap.size w W0 := by rw [HW0.out]; exact (Below.refl _ _).alloc (Nat.le_refl _) _
  have hx0 : W0.heap[w.heap.size]? = some (.cells #[.slice a1 n1 c1, .slice a2 n2 c2] 25 (0, 0)) := by rw [HW0.out]; exact heap_alloc_new _ _
  have hz0 : W0.heap.size = w.heap.size + 1 := by rw [HW0.out]; simp
  go_enter Tryz.func18, Tryz.ntmps18
  go_wp2_with fail
  rw [← HW0.out]
  go_loopg [3, 11] n1 (fun m lv i wr => ∃ (k : Nat) (l : List (List UInt8)), k + m = n1 ∧ i = .int .i64 k ∧ Row ekS wr (w.heap.size + 1) lv l ∧ Hid (l = (g.msgs.take k).map MI.name) ∧ Below (w.heap.size + 1) W0 wr)
  case atStart => exact ⟨0, [], by omega, rfl, Row.nil _ _ _, by show _ = _; simp, Below.refl _ _⟩
  case round =>
    obtain ⟨k, l, hk, rfl, hrow, HL, hbr⟩ := hrel
    have hBw : Below w.heap.size w wr := hb0.trans (hbr.mono (by omega))
    have hzr : w.heap.size + 1 ≤ wr.heap.size := by have := hbr.size; omega
    have hll : l.length ≤ k := by rw [HL.out]; simp; omega
    obtain ⟨al, nl, cl, rfl, Hnl⟩ := hrow.shape'
    by_cases hlt : k < n1
    · obtain ⟨a, Ha⟩ : ∃ a, Hid (g.msgs[k]? = some a) := ⟨g.msgs[k]'(by rw [← H1.out]; exact hlt), List.getElem?_eq_getElem (by rw [← H1.out]; exact hlt)⟩
      obtain ⟨b, off, rfl, hat⟩ := (hg.below hBw).1.get MAt.plain Ha.out
      obtain ⟨vf, vb, s0, s1, s2, hrf, hrb⟩ := hat.at
      obtain ⟨af, nf, cf, rfl, _, _⟩ := hrf.shape
      obtain ⟨ab, nb, cb, rfl, _, _⟩ := hrb.shape
      have hki : (k : Int) < (n1 : Int) := by omega
      have hbm := (Below.refl wr.heap.size wr).alloc (Nat.le_refl _) (.cells #[.string (S a.name), .slice af nf cf, .slice ab nb cb] 37)
      have hzm : (wr.alloc (.cells #[.string (S a.name), .slice af nf cf, .slice ab nb cb] 37)).heap.size = wr.heap.size + 1 := by simp
      have hone := Row.one (base := w.heap.size + 1) ekS (wr.alloc (.cells #[.string (S a.name), .slice af nf cf, .slice ab nb cb] 37)) a.name (by omega)
      rw [hzm] at hone
      have hba := (Below.refl _ _).alloc (Nat.le_refl _) (.cells #[.string (S a.name)] 9) (w := wr.alloc (.cells #[.string (S a.name), .slice af nf cf, .slice ab nb cb] 37))
      have hrow4 := (hrow.below hbm).below hba
      have hB4 : Below (w.heap.size + 1) W0 _ := (hbr.trans (hbm.mono hzr)).trans (hba.mono (by omega))
      have hone : Row ekS ((wr.alloc (.cells #[.string (S a.name), .slice af nf cf, .slice ab nb cb] 37)).alloc (.cells #[.string (S a.name)] 9)) (w.heap.size + 1) (.slice (some ⟨wr.heap.size + 1, 0, none⟩) 1 1) [a.name] := hone
      clear hat
      go_wp2_with (at_builtin; refine wpList_app rfl ekS _ _ rfl (w.heap.size + 1) _ l [a.name] rfl hrow4 (w.heap.size + 1) _ rfl hone ?e1 ?e2 ?_)
      case e1 => (try simp); omega
      case e2 => (try simp); omega
      intro v5 w5 hr5 hg5
      have hown := hrow4.own
      have hB5 : Below (w.heap.size + 1) W0 w5 := hB4.grown hg5 (by (try simp); omega) (fun k hk => (hown k hk).1)
      have HL5 : Hid (l ++ [a.name] = (g.msgs.take (k + 1)).map MI.name) := by show _ = _; rw [HL.out, take_snoc Ha.out]; simp
      clear hown hone hrow4 hB4
      go_wp2_with fail
      go_roundg (n1 - (k + 1))
      case measure => omega
      case rel => exact ⟨k + 1, l ++ [a.name], by omega, by go_num, hr5, HL5, hB5⟩
    · have y0 := (hbr.block w.heap.size (by omega)).trans hx0
      obtain ⟨x0, x1⟩ := blk2 y0
      have HL0 : Hid (l = g.msgs.map MI.name ++ (g.enums.take 0).map EI.name) := by show _ = _; rw [HL.out, List.take_of_length_le (by rw [← H1.out]; omega)]; simp
      go_wp2_with fail
      go_loopg [3, 24] n2 (fun m lv i wr => ∃ (k : Nat) (l : List (List UInt8)), k + m = n2 ∧ i = .int .i64 k ∧ Row ekS wr (w.heap.size + 1) lv l ∧ Hid (l = g.msgs.map MI.name ++ (g.enums.take k).map EI.name) ∧ Below (w.heap.size + 1) W0 wr)
      case atStart => exact ⟨0, l, by omega, rfl, hrow, HL0, hbr⟩
      case round =>
        clear hBw hzr hll x0 x1 y0 HL0 hbr hrow HL Hnl
        obtain ⟨k2, l2, hk2, rfl, hrow, HL, hbr⟩ := hrel
        have hBw : Below w.heap.size w wr := hb0.trans (hbr.mono (by omega))
        have hzr : w.heap.size + 1 ≤ wr.heap.size := by have := hbr.size; omega
        have hll : l2.length ≤ n1 + k2 := by rw [HL.out, H1.out]; simp; omega
        obtain ⟨al2, nl2, cl2, rfl, Hnl2⟩ := hrow.shape'
        by_cases hlt2 : k2 < n2
        · obtain ⟨a, Ha⟩ : ∃ a, Hid (g.enums[k2]? = some a) := ⟨g.enums[k2]'(by rw [← H2.out]; exact hlt2), List.getElem?_eq_getElem (by rw [← H2.out]; exact hlt2)⟩
          obtain ⟨b, off, rfl, hat⟩ := (hg.below hBw).2.get EAt.plain Ha.out
          obtain ⟨vi, s0, s1, hri⟩ := hat.at
          obtain ⟨ai, ni, ci, rfl, _, _⟩ := hri.shape
          have hki : (k2 : Int) < (n2 : Int) := by omega
          have hbm := (Below.refl wr.heap.size wr).alloc (Nat.le_refl _) (.cells #[.string (S a.name), .slice ai ni ci] 50)
          have hzm : (wr.alloc (.cells #[.string (S a.name), .slice ai ni ci] 50)).heap.size = wr.heap.size + 1 := by simp
          have hone := Row.one (base := w.heap.size + 1) ekS (wr.alloc (.cells #[.string (S a.name), .slice ai ni ci] 50)) a.name (by omega)
          rw [hzm] at hone
          have hba := (Below.refl _ _).alloc (Nat.le_refl _) (.cells #[.string (S a.name)] 9) (w := wr.alloc (.cells #[.string (S a.name), .slice ai ni ci] 50))
          have hrow4 := (hrow.below hbm).below hba
          have hB4 : Below (w.heap.size + 1) W0 _ := (hbr.trans (hbm.mono hzr)).trans (hba.mono (by omega))
          have hone : Row ekS ((wr.alloc (.cells #[.string (S a.name), .slice ai ni ci] 50)).alloc (.cells #[.string (S a.name)] 9)) (w.heap.size + 1) (.slice (some ⟨wr.heap.size + 1, 0, none⟩) 1 1) [a.name] := hone
          clear hat
          go_wp2_with (at_builtin; refine wpList_app rfl ekS _ _ rfl (w.heap.size + 1) _ l2 [a.name] rfl hrow4 (w.heap.size + 1) _ rfl hone ?e1 ?e2 ?_)
          case e1 => (try simp); omega
          case e2 => (try simp); omega
          intro v5 w5 hr5 hg5
          have hown := hrow4.own
          have hB5 : Below (w.heap.size + 1) W0 w5 := hB4.grown hg5 (by (try simp); omega) (fun k hk => (hown k hk).1)
          have HL5 : Hid (l2 ++ [a.name] = g.msgs.map MI.name ++ (g.enums.take (k2 + 1)).map EI.name) := by show _ = _; rw [HL.out, take_snoc Ha.out]; simp
          clear hown hone hrow4 hB4
          go_wp2_with fail
          go_roundg (n2 - (k2 + 1))
          case measure => omega
          case rel => exact ⟨k2 + 1, l2 ++ [a.name], by omega, by go_num, hr5, HL5, hB5⟩
        · have HL9 : Hid (l2 = namesL g) := by show _ = _; rw [HL.out, List.take_of_length_le (by rw [← H2.out]; omega)]; rfl
          go_wp2
          go_ret
          exact ⟨_, _, _, rfl, by rw [← HL9.out]; exact hrow.rdS, hBw⟩

end L
end Go.Proofs.YtenlijgnmhdopaaGreatDoor

