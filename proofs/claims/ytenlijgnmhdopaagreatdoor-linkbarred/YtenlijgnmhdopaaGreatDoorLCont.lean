/- The contracts of Contains, Named, isKept, and of what 'again' makes. -/
import Derived.Test.YtenlijgnmhdopaaGreatDoorLData
namespace Go.Proofs.YtenlijgnmhdopaaGreatDoor
namespace L
open Go.RowKit

set_option maxHeartbeats 1000000 in
set_option maxRecDepth 100000 in
theorem indexN_any {v : Value} {l : List Int} {w : World} (h : RdL 1 NAt w v l) (x : Int) :
    Calls Tryz.prog 83 #[v, .int .i64 x] w fun e w' => ∃ r : Int, e = .returned (.int .i64 r) ∧ decide (0 ≤ r) = decide (x ∈ l) ∧ w = w' := by
  obtain ⟨ao, n, cap, rfl, Hn, hcap⟩ := h.shape
  go_enter Tryz.func83, Tryz.ntmps83
  go_wp2_with fail
  go_loopg [8] n (fun m i wr => ∃ k : Nat, k + m = n ∧ i = .int .i64 k ∧ Hid (x ∉ l.take k) ∧ w = wr)
  case atStart => exact ⟨0, by omega, rfl, by show ¬ _; simp, rfl⟩
  case round =>
    obtain ⟨k, hk, rfl, HK, rfl⟩ := hrel
    by_cases hlt : k < n
    · obtain ⟨a, Ha⟩ : ∃ a, Hid (l[k]? = some a) := ⟨l[k]'(by rw [← Hn.out]; exact hlt), List.getElem?_eq_getElem (by rw [← Hn.out]; exact hlt)⟩
      obtain ⟨b, off, rfl, hc⟩ := h.get NAt.plain Ha.out
      have hc : w.cell? ⟨b, off + k * 1, none⟩ = some (.int .i64 a) := hc
      rw [Nat.mul_one] at hc
      have hki : (k : Int) < (n : Int) := by omega
      by_cases hxa : x = a
      · have HM : Hid (x ∈ l) := by show _ ∈ _; rw [hxa]; exact mem_at Ha.out
        have hb : (x == a) = true := by simp [hxa]
        clear hxa
        go_wp2
        go_ret
        exact ⟨_, rfl, by simp [HM.out], rfl⟩
      · have hb : (x == a) = false := by simp [hxa]
        have HX : Hid (x ∉ l.take (k + 1)) := by
          show ¬ _; rw [take_snoc Ha.out]; simp [hxa]; exact HK.out
        clear hxa
        go_wp2_with fail
        go_roundg (n - (k + 1))
        case measure => omega
        case rel => exact ⟨k + 1, by omega, by go_num, HX, rfl⟩
    · have HX : Hid (x ∉ l) := by show ¬ _; have := HK.out; rwa [List.take_of_length_le (by rw [← Hn.out]; omega)] at this
      go_wp2
      go_ret
      exact ⟨_, rfl, by simp [HX.out], rfl⟩

theorem containsS_any {v : Value} {l : List (List UInt8)} {w : World} (h : RdL 1 SAt w v l) (x : List UInt8) :
    Calls Tryz.prog 48 #[v, .string (S x)] w fun e w' => e = .returned (.bool (decide (x ∈ l))) ∧ w = w' := by
  have hi := indexS_any h x
  go_enter Tryz.func48, Tryz.ntmps48
  go_wp2_with fail
  refine hi.mono ?_
  rintro e w1 ⟨r, rfl, hr, rfl⟩
  have HR : Hid (decide (0 ≤ r) = decide (x ∈ l)) := hr
  clear hr hi
  go_wp2
  go_ret
  exact ⟨ret_bool HR.out, rfl⟩
theorem containsN_any {v : Value} {l : List Int} {w : World} (h : RdL 1 NAt w v l) (x : Int) :
    Calls Tryz.prog 58 #[v, .int .i64 x] w fun e w' => e = .returned (.bool (decide (x ∈ l))) ∧ w = w' := by
  have hi := indexN_any h x
  go_enter Tryz.func58, Tryz.ntmps58
  go_wp2_with fail
  refine hi.mono ?_
  rintro e w1 ⟨r, rfl, hr, rfl⟩
  have HR : Hid (decide (0 ≤ r) = decide (x ∈ l)) := hr
  clear hr hi
  go_wp2
  go_ret
  exact ⟨ret_bool HR.out, rfl⟩

def namedB (l : List UInt8) : Bool := !l.isEmpty && (decide (l.length ≤ 16) && decide (wordLenL l = l.length))
set_option maxHeartbeats 1000000 in
set_option maxRecDepth 100000 in
theorem named_any (l : List UInt8) (hl : l.length ≤ 9223372036854775807) (w : World) :
    Calls Tryz.prog 32 #[.string (S l)] w fun e w' => e = .returned (.bool (namedB l)) ∧ w = w' := by
  have hsz := S_size l
  obtain ⟨E, hE⟩ : ∃ E, (S l).toList.isEmpty = E := ⟨_, rfl⟩
  obtain ⟨Q, HQ⟩ : ∃ Q, Hid (Q = decide (wordLenL l = l.length)) := ⟨_, rfl⟩
  have HR : Hid (namedB l = (!E && (decide (l.length ≤ 16) && Q))) := by show _ = _; rw [namedB, ← hE, HQ.out, S_list]
  have hwl := wordLength_any l hl w
  have HB : Hid (((wordLenL l : Int) == (l.length : Int)) = Q) := by show _ = _; rw [HQ.out, Bool.eq_iff_iff]; simp; omega
  generalize wordLenL l = W at hwl HB
  have hB := HB.out
  cases E with
  | true =>
    go_enter Tryz.func32, Tryz.ntmps32
    go_wp2
    go_ret
    exact ⟨by rw [HR.out]; rfl, rfl⟩
  | false =>
    by_cases h16 : l.length ≤ 16
    · have hli : ((l.length : Nat) : Int) ≤ 16 := by omega
      go_enter Tryz.func32, Tryz.ntmps32
      go_wp2_with fail
      refine hwl.mono ?_
      rintro e w1 ⟨rfl, rfl⟩
      cases Q
      all_goals go_wp2
      all_goals go_ret
      all_goals exact ⟨by rw [HR.out]; simp [h16], rfl⟩
    · have hli : ¬ ((l.length : Nat) : Int) ≤ 16 := by omega
      go_enter Tryz.func32, Tryz.ntmps32
      go_wp2
      go_ret
      exact ⟨by rw [HR.out]; simp [h16], rfl⟩

theorem wordsRd (w : World) : RdL 1 SAt (w.alloc (.cells wordCells 9)) (.slice (some ⟨w.heap.size, 0, none⟩) 9 9) wordsL := by
  refine ⟨_, 9, 9, rfl, rfl, Nat.le_refl _, by unfold maxLen; omega, fun h => (by cases h), ?_⟩
  intro x hx k a ha
  cases hx
  have hk : k < 9 := (List.getElem?_eq_some_iff.1 ha).1
  rw [add_plain, Nat.zero_add, Nat.mul_one]
  have e : wordsL.getD k [] = a := by rw [List.getD_eq_getElem?_getD, ha]; rfl
  exact cell_of_blk (heap_alloc_new w _) k _ (by rw [wordCells_at k hk, e])

def keptB (s : List UInt8) : Bool := decide (s = kwRepeated) || (decide (s = kwReserved) || (decide (s = kwOneof) || decide (s ∈ wordsL)))
set_option maxHeartbeats 1000000 in
set_option maxRecDepth 100000 in
theorem isKept_any (s : List UInt8) (w : World) : Calls Tryz.prog 33 #[.string (S s)] w fun e w' => e = .returned (.bool (keptB s)) ∧ Below w.heap.size w w' := by
  obtain ⟨q1, hq1⟩ : ∃ q, ((S s).toList == [114, 101, 112, 101, 97, 116, 101, 100]) = q := ⟨_, rfl⟩
  obtain ⟨q2, hq2⟩ : ∃ q, ((S s).toList == [114, 101, 115, 101, 114, 118, 101, 100]) = q := ⟨_, rfl⟩
  obtain ⟨q3, hq3⟩ : ∃ q, ((S s).toList == [111, 110, 101, 111, 102]) = q := ⟨_, rfl⟩
  have HC : Hid (keptB s = (q1 || (q2 || (q3 || decide (s ∈ wordsL))))) := by
    show _ = _
    rw [← hq1, ← hq2, ← hq3, S_list, Bool.eq_iff_iff]
    simp [keptB, kwRepeated, kwReserved, kwOneof]
    exact or_congr decide_eq_true_iff (or_congr decide_eq_true_iff (or_congr decide_eq_true_iff Iff.rfl))
  have hct := containsS_any (wordsRd w) s
  have hbw : Below w.heap.size w (w.alloc (.cells wordCells 9)) := (Below.refl _ _).alloc (Nat.le_refl _) _
  have hws := words_any w
  by_cases h : (q1 || (q2 || q3)) = true
  · have HR : Hid (keptB s = true) := by show _ = _; rw [HC.out]; revert h; cases q1 <;> cases q2 <;> cases q3 <;> simp
    cases q1 <;> cases q2 <;> cases q3 <;> first | (exfalso; revert h; decide) | skip
    all_goals clear h HC hct hws
    all_goals go_enter Tryz.func33, Tryz.ntmps33
    all_goals go_wp2
    all_goals go_ret
    all_goals exact ⟨by rw [HR.out]; rfl, Below.refl _ _⟩
  · have HR : Hid (keptB s = decide (s ∈ wordsL)) := by show _ = _; rw [HC.out]; revert h; cases q1 <;> cases q2 <;> cases q3 <;> simp
    cases q1 <;> cases q2 <;> cases q3 <;> first | (exfalso; revert h; decide) | skip
    clear h HC
    go_enter Tryz.func33, Tryz.ntmps33
    go_wp2_with fail
    refine hws.mono ?_
    rintro e w1 ⟨rfl, rfl⟩
    go_wp2_with fail
    refine hct.mono ?_
    rintro e w2 ⟨rfl, rfl⟩
    go_wp2
    go_ret
    exact ⟨by rw [HR.out]; rfl, hbw⟩

end L
end Go.Proofs.YtenlijgnmhdopaaGreatDoor
