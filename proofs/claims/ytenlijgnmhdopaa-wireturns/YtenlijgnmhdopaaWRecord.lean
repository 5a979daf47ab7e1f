/- The contract of getRecord. -/
import Derived.Test.YtenlijgnmhdopaaWSized
namespace Go.Proofs.Ytenlijgnmhdopaa
open Go.RowKit

def recTail (A B C : Nat) (rest : List UInt8) : Rcd × Nat × Nat :=
  if B = 2 then
    if (sizedR rest).2.2 ≠ 0 then (⟨0, 0, 0, []⟩, 0, (sizedR rest).2.2)
    else (⟨(A : Int), (B : Int), 0, (sizedR rest).1⟩, C + (sizedR rest).2.1, 0)
  else
    if (bitsR rest (B : Int)).2.2 ≠ 0 then (⟨0, 0, 0, []⟩, 0, (bitsR rest (B : Int)).2.2)
    else (⟨(A : Int), (B : Int), (bitsR rest (B : Int)).1, []⟩, C + (bitsR rest (B : Int)).2.1, 0)
def recOf (l : List UInt8) : Rcd × Nat × Nat :=
  if (tagR l).2.2.2 ≠ 0 then (⟨0, 0, 0, []⟩, 0, (tagR l).2.2.2)
  else recTail (tagR l).1 (tagR l).2.1 (tagR l).2.2.1 (l.drop (tagR l).2.2.1)

theorem tagR_bd {l : List UInt8} {A B C D : Nat} (h : tagR l = (A, B, C, D)) : A < 536870912 ∧ B < 8 ∧ C ≤ l.length ∧ C ≤ 10 ∧ D ≤ 3 ∧ (D = 0 → 1 ≤ C ∧ 1 ≤ A ∧ isHowB (B : Int) = true) := by
  obtain ⟨N, K, E, hg⟩ : ∃ N K E, getR 0 0 l = (N, K, E) := ⟨_, _, _, rfl⟩
  obtain ⟨b1, b2, b3, b4, b5⟩ := getR_bd0 hg
  rw [tagR, hg] at h
  dsimp only at h
  unfold tagOf at h
  split at h
  · obtain ⟨rfl, rfl, rfl, rfl⟩ := four_eq h; omega
  · split at h
    · obtain ⟨rfl, rfl, rfl, rfl⟩ := four_eq h; omega
    · split at h
      · obtain ⟨rfl, rfl, rfl, rfl⟩ := four_eq h; omega
      · rename_i h3
        obtain ⟨rfl, rfl, rfl, rfl⟩ := four_eq h
        refine ⟨by omega, by omega, by omega, by omega, by omega, fun _ => ⟨b5 (by omega), by omega, ?_⟩⟩
        simpa using h3

theorem sizedR_bd {l : List UInt8} {A : List UInt8} {B C : Nat} (h : sizedR l = (A, B, C)) : A.length ≤ l.length ∧ B ≤ l.length ∧ C ≤ 3 ∧ (C = 0 → 1 ≤ B) ∧ A.length ≤ B := by
  obtain ⟨N, K, E, hg⟩ : ∃ N K E, getR 0 0 l = (N, K, E) := ⟨_, _, _, rfl⟩
  obtain ⟨b1, b2, b3, b4, b5⟩ := getR_bd0 hg
  rw [sizedR, hg] at h
  dsimp only at h
  unfold sizedOf at h
  split at h
  · obtain ⟨rfl, rfl, rfl⟩ := three_eq h; simp; omega
  · split at h
    · obtain ⟨rfl, rfl, rfl⟩ := three_eq h; simp
    · obtain ⟨rfl, rfl, rfl⟩ := three_eq h; simp; omega

theorem bitsR_bd {l : List UInt8} {how : Int} {A B C : Nat} (h : bitsR l how = (A, B, C)) : A ≤ 18446744073709551615 ∧ B ≤ l.length ∧ B ≤ 10 ∧ C ≤ 3 := by
  unfold bitsR at h
  split at h
  · obtain ⟨b1, b2, b3, b4, b5⟩ := getR_bd0 h
    omega
  · split at h
    · obtain ⟨rfl, rfl, rfl⟩ := three_eq h; omega
    · obtain ⟨rfl, rfl, rfl⟩ := three_eq h
      have hw : widthN how ≤ 8 := by unfold widthN; split <;> (try split) <;> omega
      have := highN_lt (l.take (widthN how))
      have hp : 2 ^ (8 * (l.take (widthN how)).length) ≤ 2 ^ 64 := Nat.pow_le_pow_right (by decide) (by simp; omega)
      omega

theorem cells4 {w w' : World} {B g t : Nat} {a b c d : Value} (h : w.heap[g]? = some (.cells #[a, b, c, d] t (0, 0))) (hb : Below B w w') (hg : g < B) :
    (w'.cell? ⟨g, 0, none⟩ = some a ∧ w'.cell? ⟨g, 1, none⟩ = some b ∧ w'.cell? ⟨g, 2, none⟩ = some c ∧ w'.cell? ⟨g, 3, none⟩ = some d) ∧
    (w'.frozen? ⟨g, 0, none⟩ = false ∧ w'.frozen? ⟨g, 1, none⟩ = false ∧ w'.frozen? ⟨g, 2, none⟩ = false ∧ w'.frozen? ⟨g, 3, none⟩ = false) := by
  have h' : w'.heap[g]? = some (.cells #[a, b, c, d] t (0, 0)) := by rw [hb.block g hg]; exact h
  simp [World.cell?, World.frozen?, h']

set_option maxHeartbeats 2000000 in
set_option maxRecDepth 100000 in
theorem getRecord_eq {ao : Option Addr} {len cap : Nat} {l : List UInt8} {w : World} (hr : RdA w ao len cap l) (hlen : len ≤ 4000) {r : Rcd} {n E : Nat} (h : recOf l = (r, n, E)) :
    Calls Try.prog 26 #[.slice ao len cap] w fun e w' => ∃ v', e = .returned (.tuple #[.agg #[.int .i64 r.num, .int .i64 r.how, .int .u64 (r.bits : Int), v'], .int .i64 (n : Int), .int .i64 (E : Int)]) ∧ OwnB w' w.heap.size v' r.bytes ∧ Below w.heap.size w w' := by
  have HL : Hid (l.length = len) := hr.1
  obtain ⟨A, B, C, D, HT⟩ : ∃ A B C D, Hid (tagR l = (A, B, C, D)) := ⟨_, _, _, _, rfl⟩
  obtain ⟨t1, t2, t3, t4, t5, t6⟩ := tagR_bd HT.out
  rw [recOf, HT.out] at h
  dsimp only at h
  have hCl : C ≤ len := by rw [← HL.out]; exact t3
  have hb0 : Below w.heap.size w (w.alloc (.cells #[.int .i64 0, .int .i64 0, .int .u64 0, .slice none 0 0] 53)) := (Below.refl _ _).alloc (Nat.le_refl _) _
  go_enter Try.func26, Try.ntmps26
  have Hh : Hid _ := h
  clear h t3
  go_wp2_with fail
  refine (getTag_eq (hr.later hb0) HT.out).mono ?_
  rintro e w1 ⟨rfl, rfl⟩
  by_cases h0 : D = 0
  · have hE0 : ((D : Int) != 0) = false := by simp [h0]
    obtain ⟨c1, c2, c3⟩ := t6 h0
    have H2 : Hid (recTail A B C (l.drop C) = (r, n, E)) := by show _ = _; rw [← Hh.out, if_neg (by omega)]
    clear Hh h0 t6 c3
    obtain ⟨ao2, hsl, hrk⟩ := slice_from hr hCl .i64
    have hb2 : Below w.heap.size w ((w.alloc (.cells #[.int .i64 0, .int .i64 0, .int .u64 0, .slice none 0 0] 53)).alloc (.cells #[.int .i64 (A : Int), .int .i64 (B : Int), .int .u64 0, .slice none 0 0] 53)) := hb0.alloc (by simp) _
    have hrk2 := hrk.later hb2
    by_cases hB : B = 2
    · have hB' : ((B : Int) == 2) = true := by simp [hB]
      obtain ⟨S, T, U, Hs⟩ : ∃ S T U, Hid (sizedR (l.drop C) = (S, T, U)) := ⟨_, _, _, rfl⟩
      obtain ⟨s1, s2, s3, s4, s5⟩ := sizedR_bd Hs.out
      have H3 : Hid ((if U ≠ 0 then (⟨0, 0, 0, []⟩, 0, U) else (⟨(A : Int), (B : Int), 0, S⟩, C + T, 0)) = (r, n, E)) := by
        show _ = _
        rw [← H2.out, recTail, if_pos hB, Hs.out]
      have hT : T ≤ 4000 := by have := HL.out; simp at s2; omega
      clear H2 hB s1 s2 s4 s5
      go_wp2_with fail
      refine (getSized_eq hrk2 (by omega) Hs.out).mono ?_
      rintro e w2 ⟨v2, rfl, ho, hbl⟩
      obtain ⟨⟨p0, p1, p2, p3⟩, p4, p5, p6, p7⟩ := cells4 (g := w.heap.size) (t := 53) (a := .int .i64 0) (b := .int .i64 0) (c := .int .u64 0) (d := .slice none 0 0) (by rw [Below.heap_alloc _ _ _ (by simp)]; exact heap_alloc_new w _) hbl (by simp; omega)
      obtain ⟨⟨q0, q1, q2, q3⟩, q4, q5, q6, q7⟩ := cells4 (g := w.heap.size + 1) (t := 53) (a := .int .i64 (A : Int)) (b := .int .i64 (B : Int)) (c := .int .u64 0) (d := .slice none 0 0) (by have := heap_alloc_new (w.alloc (.cells #[.int .i64 0, .int .i64 0, .int .u64 0, .slice none 0 0] 53)) (.cells #[.int .i64 (A : Int), .int .i64 (B : Int), .int .u64 0, .slice none 0 0] 53); simpa using this) hbl (by simp)
      have hbw : Below w.heap.size w w2 := hb2.trans (hbl.mono (by simp; omega))
      obtain ⟨ao3, len3, cap3, hv3, hr3⟩ := ho.rd
      have HV : Hid (v2 = .slice ao3 len3 cap3) := hv3
      rw [hv3]
      clear hv3
      by_cases hU : U = 0
      · have hU0 : ((U : Int) != 0) = false := by simp [hU]
        obtain ⟨rfl, rfl, rfl⟩ := three_eq (show (⟨(A : Int), (B : Int), 0, S⟩, C + T, 0) = (r, n, E) by rw [← H3.out, if_neg (by omega)])
        clear hU H3
        go_wp2
        refine bodyPost_ret (v := .tuple #[.agg #[.int .i64 (A : Int), .int .i64 (B : Int), .int .u64 0, .slice ao3 len3 cap3], .int .i64 ((C + T : Nat) : Int), .int .i64 0]) (by simp [results, Try.results26, go_sem, p0, p1, p2, p3]) rfl ⟨_, rfl, ?_, ?_⟩
        · have ho' := ho
          rw [HV.out] at ho'
          have := ownsRow_setCell_below (ownsRow_setCell_below (ownsRow_setCell_below (ownsRow_setCell_below (ownsRow_setCell_below ho' (a := ⟨w.heap.size + 1, 3, none⟩) (by simp) (.slice ao3 len3 cap3)) (a := ⟨w.heap.size, 0, none⟩) (by simp; omega) (.int .i64 (A : Int))) (a := ⟨w.heap.size, 1, none⟩) (by simp; omega) (.int .i64 (B : Int))) (a := ⟨w.heap.size, 2, none⟩) (by simp; omega) (.int .u64 0)) (a := ⟨w.heap.size, 3, none⟩) (by simp; omega) (.slice ao3 len3 cap3)
          exact OwnB.mono this (by simp; omega)
        · exact ((((hbw.setCell (by simp) _).setCell (Nat.le_refl _) _).setCell (Nat.le_refl _) _).setCell (Nat.le_refl _) _).setCell (Nat.le_refl _) _
      · have hU0 : ((U : Int) != 0) = true := by rw [bne_iff_ne]; omega
        obtain ⟨rfl, rfl, rfl⟩ := three_eq (show (⟨0, 0, 0, []⟩, 0, U) = (r, n, E) by rw [← H3.out, if_pos hU])
        clear hU H3
        go_wp2
        refine bodyPost_ret (v := .tuple #[.agg #[.int .i64 0, .int .i64 0, .int .u64 0, .slice none 0 0], .int .i64 0, .int .i64 (U : Int)]) (by simp [results, Try.results26, go_sem, p0, p1, p2, p3]) rfl ⟨_, rfl, OwnB.nil _ _, ?_⟩
        exact ((((hbw.setCell (by simp) _).setCell (Nat.le_refl _) _).setCell (Nat.le_refl _) _).setCell (Nat.le_refl _) _).setCell (Nat.le_refl _) _
    · have hB' : ((B : Int) == 2) = false := by simp; omega
      obtain ⟨S, T, U, Hs⟩ : ∃ S T U, Hid (bitsR (l.drop C) (B : Int) = (S, T, U)) := ⟨_, _, _, rfl⟩
      obtain ⟨s1, s2, s3, s4⟩ := bitsR_bd Hs.out
      have H3 : Hid ((if U ≠ 0 then (⟨0, 0, 0, []⟩, 0, U) else (⟨(A : Int), (B : Int), S, []⟩, C + T, 0)) = (r, n, E)) := by
        show _ = _
        rw [← H2.out, recTail, if_neg hB, Hs.out]
      clear H2 hB s2
      go_wp2_with fail
      refine (getBits_eq hrk2 (B : Int) Hs.out).mono ?_
      rintro e w2 ⟨rfl, rfl⟩
      by_cases hU : U = 0
      · have hU0 : ((U : Int) != 0) = false := by simp [hU]
        obtain ⟨rfl, rfl, rfl⟩ := three_eq (show (⟨(A : Int), (B : Int), S, []⟩, C + T, 0) = (r, n, E) by rw [← H3.out, if_neg (by omega)])
        clear hU H3
        go_wp2
        refine bodyPost_ret (v := .tuple #[.agg #[.int .i64 (A : Int), .int .i64 (B : Int), .int .u64 (S : Int), .slice none 0 0], .int .i64 ((C + T : Nat) : Int), .int .i64 0]) (by simp [results, Try.results26, go_sem]) rfl ⟨_, rfl, OwnB.nil _ _, ?_⟩
        exact ((Below.refl _ _).alloc (Nat.le_refl _) _).alloc (by simp) _
      · have hU0 : ((U : Int) != 0) = true := by rw [bne_iff_ne]; omega
        obtain ⟨rfl, rfl, rfl⟩ := three_eq (show (⟨0, 0, 0, []⟩, 0, U) = (r, n, E) by rw [← H3.out, if_pos hU])
        clear hU H3
        go_wp2
        refine bodyPost_ret (v := .tuple #[.agg #[.int .i64 0, .int .i64 0, .int .u64 0, .slice none 0 0], .int .i64 0, .int .i64 (U : Int)]) (by simp [results, Try.results26, go_sem]) rfl ⟨_, rfl, OwnB.nil _ _, ?_⟩
        exact ((Below.refl _ _).alloc (Nat.le_refl _) _).alloc (by simp) _
  · have hE0 : ((D : Int) != 0) = true := by rw [bne_iff_ne]; omega
    obtain ⟨rfl, rfl, rfl⟩ := three_eq (show (⟨0, 0, 0, []⟩, 0, D) = (r, n, E) by rw [← Hh.out, if_pos h0])
    clear Hh h0
    go_wp2
    refine bodyPost_ret (v := .tuple #[.agg #[.int .i64 0, .int .i64 0, .int .u64 0, .slice none 0 0], .int .i64 0, .int .i64 (D : Int)]) (by simp [results, Try.results26, go_sem]) rfl ⟨_, rfl, OwnB.nil _ _, ?_⟩
    exact hb0

end Go.Proofs.Ytenlijgnmhdopaa
