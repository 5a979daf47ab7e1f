/- The contract of wrongMessage. -/
import Derived.Test.YtenlijgnmhdopaaGreatDoorLField
import Derived.Test.YtenlijgnmhdopaaGreatDoorLEnum
namespace Go.Proofs.YtenlijgnmhdopaaGreatDoor
namespace L
open Go.RowKit

def barB (n : Int) : Bool := decide (n < 0) || decide (536870912 ≤ n)
set_option maxHeartbeats 1000000 in
set_option maxRecDepth 100000 in
theorem bar1_call (n : Int) (w : World) : Calls Tryz.prog 35 #[.int .i64 n] w fun e w' => e = .returned (.bool (barB n)) ∧ w = w' := by
  obtain ⟨q1, hq1⟩ : ∃ q, decide (n < 0) = q := ⟨_, rfl⟩
  obtain ⟨q2, hq2⟩ : ∃ q, decide (536870912 ≤ n) = q := ⟨_, rfl⟩
  have HN : Hid (barB n = (q1 || q2)) := by show _ = _; rw [barB, hq1, hq2]
  cases q1 <;> cases q2
  all_goals simp only [decide_eq_true_eq, decide_eq_false_iff_not] at hq1 hq2
  all_goals first | (exfalso; omega) | skip
  all_goals go_enter Tryz.func35, Tryz.ntmps35
  all_goals go_wp2
  all_goals go_ret
  all_goals exact ⟨by rw [HN.out]; rfl, rfl⟩
set_option maxHeartbeats 1000000 in
set_option maxRecDepth 100000 in
theorem barIdx_any {v : Value} {l : List Int} {w : World} (h : RdL 1 NAt w v l) :
    Calls Tryz.prog 51 #[v, .func (.func 35) #[] #[]] w fun e w' => ∃ r : Int, e = .returned (.int .i64 r) ∧ decide (0 ≤ r) = l.any barB ∧ w = w' := by
  obtain ⟨ao, n, cap, rfl, Hn, hcap⟩ := h.shape
  go_enter Tryz.func51, Tryz.ntmps51
  go_wp2_with fail
  go_loopg [8] n (fun m i wr => ∃ k : Nat, k + m = n ∧ i = .int .i64 k ∧ Hid (l.any barB = (l.drop k).any barB) ∧ w = wr)
  case atStart => exact ⟨0, by omega, rfl, rfl, rfl⟩
  case round =>
    obtain ⟨k, hk, rfl, HK, rfl⟩ := hrel
    by_cases hlt : k < n
    · obtain ⟨a, Ha⟩ : ∃ a, Hid (l[k]? = some a) := ⟨l[k]'(by rw [← Hn.out]; exact hlt), List.getElem?_eq_getElem (by rw [← Hn.out]; exact hlt)⟩
      have HK2 : Hid (l.any barB = (barB a || (l.drop (k + 1)).any barB)) := by
        obtain ⟨hk, e⟩ := List.getElem?_eq_some_iff.1 Ha.out
        show _ = _; rw [HK.out, List.drop_eq_getElem_cons hk, e]; simp
      obtain ⟨b, off, rfl, hc⟩ := h.get NAt.plain Ha.out
      have hc : w.cell? ⟨b, off + k * 1, none⟩ = some (.int .i64 a) := hc
      rw [Nat.mul_one] at hc
      have hki : (k : Int) < (n : Int) := by omega
      have hcall := bar1_call a w
      cases hq : barB a with
      | true =>
        have HR : Hid (l.any barB = true) := by show _ = _; rw [HK2.out, hq]; rfl
        rw [hq] at hcall
        clear hq
        go_wp2_with fail
        refine hcall.mono ?_
        rintro e w1 ⟨rfl, rfl⟩
        go_wp2
        go_ret
        exact ⟨_, rfl, by rw [HR.out]; simp, rfl⟩
      | false =>
        have HR : Hid (l.any barB = (l.drop (k + 1)).any barB) := by show _ = _; rw [HK2.out, hq]; rfl
        rw [hq] at hcall
        clear hq
        go_wp2_with fail
        refine hcall.mono ?_
        rintro e w1 ⟨rfl, rfl⟩
        go_wp2_with fail
        go_roundg (n - (k + 1))
        case measure => omega
        case rel => exact ⟨k + 1, by omega, by go_num, HR, rfl⟩
    · have HX : Hid (l.any barB = false) := by show _ = _; rw [HK.out, List.drop_eq_nil_of_le (by rw [← Hn.out]; omega)]; rfl
      go_wp2
      go_ret
      exact ⟨_, rfl, by rw [HX.out]; simp, rfl⟩
theorem barCont_any {v : Value} {l : List Int} {w : World} (h : RdL 1 NAt w v l) :
    Calls Tryz.prog 34 #[v, .func (.func 35) #[] #[]] w fun e w' => e = .returned (.bool (l.any barB)) ∧ w = w' := by
  have hi := barIdx_any h
  go_enter Tryz.func34, Tryz.ntmps34
  go_wp2_with fail
  refine hi.mono ?_
  rintro e w1 ⟨r, rfl, hr, rfl⟩
  have HR : Hid (decide (0 ≤ r) = l.any barB) := hr
  clear hr hi
  go_wp2
  go_ret
  exact ⟨ret_bool HR.out, rfl⟩

def errsF : List Int := [7, 3, 8, 1, 6, 8, 2]
def mem0 : Mem := ⟨[], [], 0, 0⟩
theorem fields_broken {w : World} {a1 a2 a3 a4 : Option Addr} {n1 n2 n3 n4 c1 c2 c3 c4 : Nat} {nm : List UInt8} {g : GI} {l : List FI} {bar : List Int} (hg : GRd w (.slice a1 n1 c1) (.slice a2 n2 c2) g) (hl : RdL 6 FAt w (.slice a3 n3 c3) l) (hbar : RdL 1 NAt w (.slice a4 n4 c4) bar) (hn : l.length ≤ 900) (hs : ∀ s ∈ l, s.name.length ≤ 9223372036854775807) :
    Calls Tryz.prog 36 #[.slice a3 n3 c3, .slice (some ⟨w.heap.size + 9, 0, none⟩) 7 7] (allocL w (flObjs w.heap.size (.slice a1 n1 c1) (.slice a2 n2 c2) (.string (S nm)) (.slice a3 n3 c3) (.slice a4 n4 c4))) fun e w' => e = .returned (.agg #[.int .i64 (firstGo (stepF g bar) errsF 0 l mem0).1, .int .i64 (((firstGo (stepF g bar) errsF 0 l mem0).2 : Nat) : Int)]) ∧ Below w.heap.size w w' := by
  obtain ⟨W9, HW⟩ : ∃ W9, Hid (W9 = allocL w (flObjs w.heap.size (.slice a1 n1 c1) (.slice a2 n2 c2) (.string (S nm)) (.slice a3 n3 c3) (.slice a4 n4 c4))) := ⟨_, rfl⟩
  have hz : W9.heap.size = w.heap.size + 10 := by rw [HW.out, allocL_size]; rfl
  have hb : Below w.heap.size w W9 := by rw [HW.out]; exact allocL_below _ _
  have ha : ∀ i o, (flObjs w.heap.size (.slice a1 n1 c1) (.slice a2 n2 c2) (.string (S nm)) (.slice a3 n3 c3) (.slice a4 n4 c4))[i]? = some o → W9.heap[w.heap.size + i]? = some o := fun i o h => by rw [HW.out]; exact allocL_at _ _ i o h
  rw [← HW.out]
  have hB := brokenF_any (B := W9.heap.size) (B0 := w.heap.size) (cs := [w.heap.size + 2, w.heap.size + 3, w.heap.size + 4, w.heap.size + 5]) (w := W9) (l := l) (rs := flRs w.heap.size) (g := w.heap.size + 9) (stepF g bar) (fun k j s W => KSt w W W9.heap.size w.heap.size a1 a2 a3 a4 n1 n2 n3 n4 c1 c2 c3 c4 nm s ∧ s.names.length ≤ (if j = 0 then k else k + 1) ∧ s.nums.length ≤ (if j ≤ 2 then k else k + 1) ∧ 0 ≤ s.begun ∧ s.begun ≤ (if j ≤ 6 then (k : Int) else (k : Int) + 1) ∧ s.last ≤ s.begun) mem0
    (fun W hW => hl.below FAt.stays (hb.trans hW)) (ha 9 _ rfl) (by simp) (by omega) (Nat.le_refl _) (by simp) (by simp; omega) (by simp [flRs]) ?_ ?_ (fun k j s W W' _ hI hb' => ⟨hI.1.below hb', hI.2⟩) (fun k s W _ hI => ⟨hI.1, by simpa [flRs] using hI.2⟩) ?_
  · refine hB.mono ?_
    rintro e w' ⟨rfl, hF⟩
    exact ⟨rfl, hb.trans (hF.below (by omega) (by omega) (by simp))⟩
  · intro r hr args w'
    simp only [flRs, List.mem_cons, List.mem_nil_iff, or_false] at hr
    rcases hr with rfl | rfl | rfl | rfl | rfl | rfl | rfl
    · exact enters_of Tryz.func54 (by kernel_rfl) rfl args w'
    · exact enters_of Tryz.func55 (by kernel_rfl) rfl args w'
    · exact enters_of Tryz.func57 (by kernel_rfl) rfl args w'
    · exact enters_of Tryz.func59 (by kernel_rfl) rfl args w'
    · exact enters_of Tryz.func60 (by kernel_rfl) rfl args w'
    · exact enters_of Tryz.func62 (by kernel_rfl) rfl args w'
    · exact enters_of Tryz.func64 (by kernel_rfl) rfl args w'
  · exact ⟨⟨⟨⟨_, ha 2 _ rfl, Row.nil _ _ _⟩, ha 6 _ rfl, by omega⟩, ⟨⟨_, ha 3 _ rfl, Row.nil _ _ _⟩, ha 7 _ rfl, by omega⟩, ha 4 _ rfl, ha 5 _ rfl, ha 8 _ rfl, ha 0 _ rfl, ha 1 _ rfl, by omega, Nat.le_refl _, rfl, hb⟩, by simp [mem0], by simp [mem0], by simp [mem0], by simp [mem0], by simp [mem0]⟩
  · intro k j r f s W hf hr hBW _ hI
    obtain ⟨h1, h2, h3, h4, h5, h6⟩ := hI
    have hk := (List.getElem?_eq_some_iff.1 hf).1
    have hjl : j < 7 := (List.getElem?_eq_some_iff.1 hr).1
    match j, hjl, hr with
    | 0, _, hr =>
      cases hr
      refine (fieldRule1 g bar h1 (by simp at h2; omega) f (hs f (mem_at hf))).mono ?_
      rintro e W' ⟨rfl, k1, k2⟩
      refine ⟨rfl, fun e => ⟨k1 e, ?_, ?_, h4, ?_, h6⟩, k2⟩
      · have := addL_len f.name s.names; simp at h2; show (addL f.name s.names).length ≤ k + 1; omega
      · show s.nums.length ≤ k; simpa using h3
      · show s.begun ≤ (k : Int); simpa using h5
    | 1, _, hr =>
      cases hr
      refine (fieldRule2 g bar h1 f).mono ?_
      rintro e W' ⟨rfl, k1, k2⟩
      exact ⟨rfl, fun e => ⟨k1 e, by show s.names.length ≤ k + 1; simpa using h2, by show s.nums.length ≤ k; simpa using h3, h4, by show s.begun ≤ (k : Int); simpa using h5, h6⟩, k2⟩
    | 2, _, hr =>
      cases hr
      refine (fieldRule3 g bar h1 (by simp at h3; omega) hbar f).mono ?_
      rintro e W' ⟨rfl, k1, k2⟩
      refine ⟨rfl, fun e => ⟨k1 e, by show s.names.length ≤ k + 1; simpa using h2, ?_, h4, by show s.begun ≤ (k : Int); simpa using h5, h6⟩, k2⟩
      have := addL_len f.number s.nums; simp at h3; show (addL f.number s.nums).length ≤ k + 1; omega
    | 3, _, hr =>
      cases hr
      refine (fieldRule4 g bar h1 f).mono ?_
      rintro e W' ⟨rfl, k1, k2⟩
      exact ⟨rfl, fun e => ⟨k1 e, by show s.names.length ≤ k + 1; simpa using h2, by show s.nums.length ≤ k + 1; simpa using h3, h4, by show s.begun ≤ (k : Int); simpa using h5, h6⟩, k2⟩
    | 4, _, hr =>
      cases hr
      refine (fieldRule5 g bar h1 hg f).mono ?_
      rintro e W' ⟨rfl, k1, k2⟩
      exact ⟨rfl, fun e => ⟨k1 e, by show s.names.length ≤ k + 1; simpa using h2, by show s.nums.length ≤ k + 1; simpa using h3, h4, by show s.begun ≤ (k : Int); simpa using h5, h6⟩, k2⟩
    | 5, _, hr =>
      cases hr
      refine (fieldRule6 g bar h1 f).mono ?_
      rintro e W' ⟨rfl, k1, k2⟩
      exact ⟨rfl, fun e => ⟨k1 e, by show s.names.length ≤ k + 1; simpa using h2, by show s.nums.length ≤ k + 1; simpa using h3, h4, by show s.begun ≤ (k : Int); simpa using h5, h6⟩, k2⟩
    | 6, _, hr =>
      cases hr
      simp at h5
      refine (fieldRule7 g bar h1 h4 (by omega) f).mono ?_
      rintro e W' ⟨rfl, k1, k2⟩
      refine ⟨rfl, fun e => ?_, k2⟩
      have e' : misB s.last s.begun f.choice = false := e
      have hm : f.choice = 0 ∨ f.choice = s.last ∨ f.choice = s.begun + 1 := by
        simp [misB] at e'
        by_cases q1 : f.choice = 0
        · exact .inl q1
        · by_cases q2 : f.choice = s.last
          · exact .inr (.inl q2)
          · exact .inr (.inr (e' q1 q2))
      refine ⟨k1 e, by show s.names.length ≤ k + 1; simpa using h2, by show s.nums.length ≤ k + 1; simpa using h3, ?_, ?_, ?_⟩
      · show 0 ≤ max s.begun f.choice; omega
      · show max s.begun f.choice ≤ (k : Int) + 1; omega
      · show f.choice ≤ max s.begun f.choice; omega

/-- What is wrong with a message. -/
def wrongM (g : GI) (m : MI) : Int := if 16 < m.fields.length ∨ 16 < m.barred.length then 5 else if m.barred.any barB then 3 else (firstGo (stepF g m.barred) errsF 0 m.fields mem0).1

end L
end Go.Proofs.YtenlijgnmhdopaaGreatDoor
