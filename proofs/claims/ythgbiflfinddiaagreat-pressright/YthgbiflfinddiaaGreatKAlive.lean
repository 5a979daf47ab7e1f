/- The contract of alive (chapter 6). -/
import Derived.Test.YthgbiflfinddiaaGreatKRunD
import Derived.Test.YthgbiflfinddiaaGreatKMake
import Derived.Test.YthgbiflfinddiaaGreatLOpen
import Derived.Test.YthgbiflfinddiaaGreatBStr
namespace Go.Proofs.YthgbiflfinddiaaGreat
namespace L
open Go.RowKit

def aliveG : GI := ⟨[⟨[65], [⟨[120], 1, 2, [], true, 0⟩, ⟨[121], 2, 10, [65], false, 0⟩], []⟩], []⟩
def aliveP : List (List TI) := [[⟨2, 1, 0, 2, -1⟩, ⟨4, 2, 2, 10, 0⟩]]
def aliveB : BO (BI 0) := ⟨[⟨1, [1, 2], [], []⟩], []⟩
theorem alive_wrong : wrongL aliveG = (0, 0) := by decide +kernel
theorem alive_make : makeN aliveG = aliveP := by
  have e : numsN ⟨[65], [⟨[120], 1, 2, [], true, 0⟩, ⟨[121], 2, 10, [65], false, 0⟩], []⟩ = [1, 2] := by
    show List.mergeSort [(1 : Int), 2] (fun x y => decide (x ≤ y)) = [1, 2]
    exact List.mergeSort_of_pairwise (by simp)
  unfold makeN aliveG progN
  simp only [List.map_cons, List.map_nil, e]
  decide +kernel
theorem alive_run : RunN aliveP 0 0 aliveB = ([10, 2, 2, 4], 0) := by decide +kernel
theorem alive_fits : Fits aliveG := by
  refine ⟨fun m hm => ?_, fun e he => by cases he⟩
  simp only [aliveG, List.mem_singleton] at hm
  subst hm
  refine ⟨by decide, fun f hf => ?_⟩
  simp only [List.mem_cons, List.mem_nil_iff, or_false] at hf
  rcases hf with rfl | rfl <;> decide
theorem rdl_blk {α : Type} {sz n : Nat} {P : World → Addr → α → Prop} {w : World} {g : Nat} {l : List α} (hl : l.length = n) (hn : n ≤ 1000000) (hat : ∀ k a, l[k]? = some a → P w ⟨g, k * sz, none⟩ a) : RdL sz P w (.slice (some ⟨g, 0, none⟩) n n) l :=
  ⟨_, n, n, rfl, hl, Nat.le_refl _, by unfold maxLen; omega, (fun e => by cases e), fun x hx k a ha => by cases hx; rw [add_plain, Nat.zero_add]; exact hat k a ha⟩
set_option maxHeartbeats 2000000 in
set_option maxRecDepth 100000 in
theorem afile_any (w : World) : Calls Tryz.prog 25 #[] w fun e w' => ∃ a n c, e = .returned (.agg #[.slice a n c, .slice none 0 0]) ∧ GRd w' (.slice a n c) (.slice none 0 0) aliveG ∧ Below w.heap.size w w' := by
  obtain ⟨X, HX⟩ : ∃ X, Hid (X = ((w.alloc (.cells #[.slice (some ⟨w.heap.size + 1 + 1, 0, none⟩) 1 1, .slice none 0 0] 25)).alloc (.cells #[.string ⟨#[120]⟩, .int .i64 1, .int .i64 2, .string ⟨#[]⟩, .bool true, .int .i64 0, .string ⟨#[121]⟩, .int .i64 2, .int .i64 10, .string ⟨#[65]⟩, .bool false, .int .i64 0] 53)).alloc (.cells #[.string ⟨#[65]⟩, .slice (some ⟨w.heap.size + 1, 0, none⟩) 2 2, .slice none 0 0] 49)) := ⟨_, rfl⟩
  obtain ⟨x3, x2, x1⟩ := alloc3 w (.cells #[.slice (some ⟨w.heap.size + 1 + 1, 0, none⟩) 1 1, .slice none 0 0] 25) (.cells #[.string ⟨#[120]⟩, .int .i64 1, .int .i64 2, .string ⟨#[]⟩, .bool true, .int .i64 0, .string ⟨#[121]⟩, .int .i64 2, .int .i64 10, .string ⟨#[65]⟩, .bool false, .int .i64 0] 53) (.cells #[.string ⟨#[65]⟩, .slice (some ⟨w.heap.size + 1, 0, none⟩) 2 2, .slice none 0 0] 49)
  rw [← HX.out] at x1 x2 x3
  have hb : Below w.heap.size w X := by rw [HX.out]; exact (((Below.refl _ _).alloc (Nat.le_refl _) _).alloc (by simp) _).alloc (by simp; omega) _
  have hrf : RdL 6 FAt X (.slice (some ⟨w.heap.size + 1, 0, none⟩) 2 2) [⟨[120], 1, 2, [], true, 0⟩, ⟨[121], 2, 10, [65], false, 0⟩] := by
    refine rdl_blk rfl (by decide) fun k a ha => ?_
    match k, ha with
    | 0, ha =>
      have ha : (⟨[120], 1, 2, [], true, 0⟩ : FI) = a := by simpa using ha
      subst ha
      refine ⟨cell_of_blk x2 0 _ rfl, ?_, ?_, ?_, ?_, ?_⟩ <;> rw [add_plain]
      · exact cell_of_blk x2 1 _ rfl
      · exact cell_of_blk x2 2 _ rfl
      · exact cell_of_blk x2 3 _ rfl
      · exact cell_of_blk x2 4 _ rfl
      · exact cell_of_blk x2 5 _ rfl
    | 1, ha =>
      have ha : (⟨[121], 2, 10, [65], false, 0⟩ : FI) = a := by simpa using ha
      subst ha
      refine ⟨cell_of_blk x2 6 _ rfl, ?_, ?_, ?_, ?_, ?_⟩ <;> rw [add_plain]
      · exact cell_of_blk x2 7 _ rfl
      · exact cell_of_blk x2 8 _ rfl
      · exact cell_of_blk x2 9 _ rfl
      · exact cell_of_blk x2 10 _ rfl
      · exact cell_of_blk x2 11 _ rfl
    | k + 2, ha => simp at ha
  have hrm : RdL 3 MAt X (.slice (some ⟨w.heap.size + 1 + 1, 0, none⟩) 1 1) aliveG.msgs := by
    refine rdl_blk rfl (by decide) fun k a ha => ?_
    match k, ha with
    | 0, ha =>
      have ha : (⟨[65], [⟨[120], 1, 2, [], true, 0⟩, ⟨[121], 2, 10, [65], false, 0⟩], []⟩ : MI) = a := by simpa [aliveG] using ha
      subst ha
      refine ⟨_, _, cell_of_blk x3 0 _ rfl, ?_, ?_, hrf, RdL.nil _ _ _⟩ <;> rw [add_plain]
      · exact cell_of_blk x3 1 _ rfl
      · exact cell_of_blk x3 2 _ rfl
    | k + 1, ha => simp [aliveG] at ha
  have y0 : X.cell? ⟨w.heap.size, 0, none⟩ = some (.slice (some ⟨w.heap.size + 1 + 1, 0, none⟩) 1 1) := cell_of_blk x1 0 _ rfl
  have y1 : X.cell? ⟨w.heap.size, 1, none⟩ = some (.slice none 0 0) := cell_of_blk x1 1 _ rfl
  go_enter Tryz.func25, Tryz.ntmps25
  go_wp2_with fail
  rw [← HX.out]
  refine bodyPost_ret (v := .agg #[.slice (some ⟨w.heap.size + 1 + 1, 0, none⟩) 1 1, .slice none 0 0]) (by simp [results, Tryz.results25, go_sem, y0, y1]) rfl ?_
  exact ⟨_, _, _, rfl, ⟨hrm, RdL.nil _ _ _⟩, hb⟩
set_option maxHeartbeats 4000000 in
set_option maxRecDepth 100000 in
theorem alive6_any (w : World) : Calls Tryz.prog 12 #[] w fun e w' => e = .returned (.bool true) ∧ Below w.heap.size w w' := by
  have hf := afile_any w
  go_enter Tryz.func12, Tryz.ntmps12
  go_wp2_with fail
  refine hf.mono ?_
  rintro e w1 ⟨am, nm, cm, rfl, hg, hb1⟩
  have hmk := make_any hg (by decide) (by decide) alive_fits
  clear hf
  go_wp2_with fail
  refine hmk.mono ?_
  rintro e w2 ⟨hb2, hx⟩
  rw [alive_wrong] at hx
  rcases hx with ⟨hne, _⟩ | ⟨_, al, nl, cl, l, rfl, hq, hl⟩
  · exact absurd rfl hne
  rw [alive_make] at hl
  have hrd := hq.rd
  rw [hl] at hrd
  have hbw2 : Below w.heap.size w w2 := KBT hb1 hb2
  obtain ⟨W3, HW3⟩ : ∃ W3, Hid (W3 = ((w2.alloc (.cells #[.int .i64 0, .int .i64 0] 33)).alloc (.cells #[.int .u64 1, .int .u64 2] 66)).alloc (.cells #[.int .i64 1, .slice (some ⟨w2.heap.size + 1, 0, none⟩) 2 2, .slice none 0 0, .slice none 0 0] 71)) := ⟨_, rfl⟩
  obtain ⟨x3, x2, x1⟩ := alloc3 w2 (.cells #[.int .i64 0, .int .i64 0] 33) (.cells #[.int .u64 1, .int .u64 2] 66) (.cells #[.int .i64 1, .slice (some ⟨w2.heap.size + 1, 0, none⟩) 2 2, .slice none 0 0, .slice none 0 0] 71)
  rw [← HW3.out] at x1 x2 x3
  have hb3 : Below w2.heap.size w2 W3 := by rw [HW3.out]; exact (((Below.refl _ _).alloc (Nat.le_refl _) _).alloc (by simp) _).alloc (by simp; omega) _
  have hz3 : w2.heap.size + 3 ≤ W3.heap.size := by rw [HW3.out]; simp
  have hru : RdL 1 UAt W3 (.slice (some ⟨w2.heap.size + 1, 0, none⟩) 2 2) [1, 2] := by
    refine rdl_blk rfl (by decide) fun k a ha => ?_
    match k, ha with
    | 0, ha =>
      have ha : 1 = a := by simpa using ha
      subst ha
      exact cell_of_blk x2 0 _ rfl
    | 1, ha =>
      have ha : 2 = a := by simpa using ha
      subst ha
      exact cell_of_blk x2 1 _ rfl
    | k + 2, ha => simp at ha
  have hrv : BRd 0 W3 (.slice (some ⟨w2.heap.size + 1 + 1, 0, none⟩) 1 1) (.slice none 0 0) aliveB := by
    refine ⟨rdl_blk rfl (by decide) fun k a ha => ?_, RdL.nil _ _ _⟩
    match k, ha with
    | 0, ha =>
      have ha : (⟨1, [1, 2], [], []⟩ : VI (BI 0)) = a := by simpa [aliveB] using ha
      subst ha
      refine ⟨_, _, _, cell_of_blk x3 0 _ rfl, ?_, ?_, ?_, hru, RdL.nil _ _ _, RdL.nil _ _ _⟩ <;> rw [add_plain]
      · exact cell_of_blk x3 1 _ rfl
      · exact cell_of_blk x3 2 _ rfl
      · exact cell_of_blk x3 3 _ rfl
    | k + 1, ha => simp [aliveB] at ha
  have hsm : OSm (BSm 0) aliveB := by
    refine ⟨fun v hv => ?_, by decide, fun r hr => by cases hr⟩
    simp only [aliveB, List.mem_singleton] at hv
    subst hv
    exact ⟨by decide, by decide, by decide, by simp, by decide, by simp⟩
  have hrun := Run_any (p := 0) (hrd.below PrAt.stays hb3) hrv hsm
  rw [alive_run] at hrun
  have hnl : nl = 1 := by have := hrd.len.1; exact this
  subst hnl
  clear hmk
  go_wp2_with fail
  rw [← HW3.out]
  refine hrun.mono ?_
  rintro e w4 ⟨a4, n4, c4, rfl, hr4, hb4⟩
  have hB4 : Below w2.heap.size w2 w4 := KBT hb3 hb4
  obtain ⟨bl, ol, rfl, hat⟩ := (hrd.below PrAt.stays hB4).get PrAt.plain (k := 0) rfl
  obtain ⟨vp, hc0, hrp⟩ := hat
  obtain ⟨ap, np, cp, rfl, hnp, _⟩ := hrp.shape
  have hnp2 : np = 2 := hnp.out
  subst hnp2
  obtain ⟨bs, os, rfl, hst⟩ := hrp.get StAt.plain (k := 1) rfl
  obtain ⟨_, _, _, _, g4⟩ := hst.at
  have g4 : w4.cell? ⟨bs, os + 5 + 4, none⟩ = some (.int .i64 0) := by simpa using g4
  have hc0 : w4.cell? ⟨bl, ol, none⟩ = some (.slice (some ⟨bs, os, none⟩) 2 cp) := by simpa using hc0
  obtain ⟨t0, t1⟩ := blk2 ((hb4.block _ (by omega)).trans x1)
  have s1 := bytes_str hr4.rdY
  have hrl : RdL 1 YAt (w4.alloc (.cells #[.int .u8 10, .int .u8 2, .int .u8 2, .int .u8 4] 5)) (.slice (some ⟨w4.heap.size, 0, none⟩) 4 4) [10, 2, 2, 4] := by
    have y := heap_alloc_new w4 (.cells #[.int .u8 10, .int .u8 2, .int .u8 2, .int .u8 4] 5)
    refine rdl_blk rfl (by decide) fun k a ha => ?_
    match k, ha with
    | 0, ha => have ha : (10 : UInt8) = a := by simpa using ha
               subst ha; exact cell_of_blk y 0 _ rfl
    | 1, ha => have ha : (2 : UInt8) = a := by simpa using ha
               subst ha; exact cell_of_blk y 1 _ rfl
    | 2, ha => have ha : (2 : UInt8) = a := by simpa using ha
               subst ha; exact cell_of_blk y 2 _ rfl
    | 3, ha => have ha : (4 : UInt8) = a := by simpa using ha
               subst ha; exact cell_of_blk y 3 _ rfl
    | k + 4, ha => simp at ha
  have s2 := bytes_str hrl
  have hBf : Below w.heap.size w (w4.alloc (.cells #[.int .u8 10, .int .u8 2, .int .u8 2, .int .u8 4] 5)) := KBT (KBT hbw2 hB4) ((Below.refl _ _).alloc (Nat.le_refl _) _)
  clear hrun hst
  go_wp2
  go_ret
  exact ⟨rfl, hBf⟩

end L
end Go.Proofs.YthgbiflfinddiaaGreat
