import Derived.Test.YtenlijgnmhdopaaGreatDoorXBrq
/- The contract of alive (chapter 3). -/
namespace Go.Proofs.YtenlijgnmhdopaaGreatDoor
open Go.RowKit

theorem map_one3 {α β : Type} {l : List (α × β)} {a : α} (h : l.map Prod.fst = [a]) : ∃ b, l = [(a, b)] := by
  match l, h with
  | [(x, y)], h => simp at h; subst h; exact ⟨y, rfl⟩
def alive3Txt : List UInt8 := [101, 110, 117, 109, 32, 69, 32, 123, 32, 122, 101, 114, 111, 32, 61, 32, 48, 59, 32, 125, 32, 109, 101, 115, 115, 97, 103, 101, 32, 65, 32, 123, 32, 69, 32, 101, 32, 61, 32, 49, 59, 32, 65, 32, 97, 32, 61, 32, 50, 59, 32, 125]
def alive3F : Fil := ⟨[⟨[65], [⟨[101], 1, 10, [69], false, 0⟩, ⟨[97], 2, 10, [65], false, 0⟩], []⟩], [⟨[69], [⟨[122, 101, 114, 111], 0⟩]⟩]⟩
theorem alive3_parse : parseL 100 alive3Txt = .ok (alive3F, []) := by kernel_rfl
theorem alive3_link : L.wrongL (L.linkL (toG alive3F)) = (0, 0) := by decide +kernel
theorem alive3_wrong : L.wrongL (toG alive3F) = (6, 0) := by decide +kernel
theorem alive3_msgs : (L.linkL (toG alive3F)).msgs = [⟨[65], [⟨[101], 1, 5, [69], false, 0⟩, ⟨[97], 2, 10, [65], false, 0⟩], []⟩] := by decide +kernel
theorem alive3_enums : (toG alive3F).enums = [⟨[69], [⟨[122, 101, 114, 111], 0⟩]⟩] := rfl
theorem alive3_ok : L.GOk (toG alive3F) := by
  have hr : reachBytes = 140737488351232 := rfl
  refine ⟨?_, ?_, ?_, ?_⟩
  · intro m hm
    simp [toG, alive3F, toM, toF] at hm
    subst hm
    refine ⟨?_, ?_, ?_, ?_, ?_⟩
    · simp [maxLen]
    · intro f hf
      simp at hf
      rcases hf with rfl | rfl <;> simp [L.FOk, L.I64, maxLen]
    · intro n hn; simp at hn
    · simp [hr]
    · simp [hr]
  · intro e he
    simp [toG, alive3F, toE, toI] at he
    subst he
    refine ⟨by simp [maxLen], ?_, by simp [hr]⟩
    intro f hf
    simp at hf
    subst hf
    simp [L.TOk, L.I64, maxLen]
  · simp [toG, alive3F, hr]
  · simp [toG, alive3F, hr]
theorem alive3_fits : L.Fits (toG alive3F) := alive3_ok.fits

set_option maxHeartbeats 2000000 in
set_option maxRecDepth 100000 in
theorem alive3_any {B : Nat} {w : World} (hg : Gl B w) (hB : B ≤ w.heap.size) :
    Calls Tryz.prog 5 #[] w fun e w' => e = .returned (.bool true) ∧ Below w.heap.size w w' := by
  have hp := Parse_any alive3Txt (by decide) hg hB 100 (by decide) (by rw [alive3_parse]; intro h; cases h)
  rw [alive3_parse] at hp
  go_enter Tryz.func5, Tryz.ntmps5
  go_wp2_with fail
  refine hp.mono ?_
  rintro e w1 ⟨hb, vm, ve, lm, le, rfl, hF, hm, he, hlen⟩
  have hgr := hF.grd hm he
  obtain ⟨am, nm, cm, rfl, Hnm⟩ := hF.rowm.shape'
  obtain ⟨ae, ne, ce, rfl, Hne⟩ := hF.rowe.shape'
  clear hp hm he hlen hF
  obtain ⟨W2, HW2⟩ : ∃ W2, Hid (W2 = (w1.alloc (.cells #[.slice am nm cm, .slice ae ne ce] 25)).alloc (.cells #[.int .i64 0, .int .i64 0] 29)) := ⟨_, rfl⟩
  have hB2 : Below w1.heap.size w1 W2 := by rw [HW2.out]; exact ((Below.refl _ _).alloc (Nat.le_refl _) _).alloc (by simp) _
  have hx1 : W2.heap[w1.heap.size]? = some (.cells #[.slice am nm cm, .slice ae ne ce] 25 (0, 0)) := by rw [HW2.out]; exact alloc2_old _ _ _
  have hx2 : W2.heap[w1.heap.size + 1]? = some (.cells #[.int .i64 0, .int .i64 0] 29 (0, 0)) := by rw [HW2.out]; exact alloc2_new _ _ _
  have hz2 : w1.heap.size + 2 ≤ W2.heap.size := by rw [HW2.out]; simp
  have hlk := L.link_any (hgr.below hB2) alive3_ok
  go_wp2_with fail
  rw [← HW2.out]
  refine hlk.mono ?_
  rintro e w3 ⟨hb3, hx⟩
  rcases hx with ⟨_, vm3, ve3, lm3, le3, rfl, hog, hm3, he3⟩ | ⟨hne, _⟩
  rotate_left
  · rw [alive3_link] at hne; exact absurd rfl hne
  obtain ⟨am3, nm3, cm3, rfl, Hnm3⟩ := hog.rowm.shape'
  obtain ⟨ae3, ne3, ce3, rfl, Hne3⟩ := hog.rowe.shape'
  have hgr3 := hog.rd
  rw [hm3, he3] at hgr3
  rw [alive3_msgs] at hm3
  obtain ⟨⟨⟨af, nf, cf⟩, ⟨ab, nb, cb⟩⟩, rfl⟩ := map_one3 hm3
  obtain rfl : nm3 = 1 := Hnm3.out
  obtain ⟨gm, rfl, hcm⟩ := hog.rowm.get (k := 0) rfl
  obtain ⟨rf, rb⟩ := hog.ms _ (List.mem_singleton.2 rfl)
  simp only [L.LV.v] at rf rb
  obtain rfl : nf = 2 := rf.len
  obtain ⟨gf, rfl, hcf⟩ := rf.get (k := 0) rfl
  have e1 := hcm 1 _ rfl
  have f2 := hcf 2 _ rfl
  simp only [Nat.zero_mul, Nat.zero_add] at e1 f2
  have e1 : w3.cell? ⟨gm, 1, none⟩ = some (.slice (some ⟨gf, 0, none⟩) 2 cf) := e1
  have f2 : w3.cell? ⟨gf, 2, none⟩ = some (.int .i64 5) := f2
  have zg : gm < w3.heap.size := World.block_lt_of_cell? w3 _ e1
  have zf : gf < w3.heap.size := World.block_lt_of_cell? w3 _ f2
  have hx3 := (hb3.block w1.heap.size (by omega)).trans hx1
  have hx4 := (hb3.block (w1.heap.size + 1) (by omega)).trans hx2
  clear hcm hcf hlk hm3 he3 hog rf rb
  obtain ⟨W4, HW4⟩ : ∃ W4, Hid (W4 = (w3.alloc (.cells #[.slice (some ⟨gm, 0, none⟩) 1 cm3, .slice ae3 ne3 ce3] 25)).alloc (.cells #[.int .i64 0, .int .i64 0] 29)) := ⟨_, rfl⟩
  have hB4 : Below w3.heap.size w3 W4 := by rw [HW4.out]; exact ((Below.refl _ _).alloc (Nat.le_refl _) _).alloc (by simp) _
  have hy1 : W4.heap[w3.heap.size]? = some (.cells #[.slice (some ⟨gm, 0, none⟩) 1 cm3, .slice ae3 ne3 ce3] 25 (0, 0)) := by rw [HW4.out]; exact alloc2_old _ _ _
  have hy2 : W4.heap[w3.heap.size + 1]? = some (.cells #[.int .i64 0, .int .i64 0] 29 (0, 0)) := by rw [HW4.out]; exact alloc2_new _ _ _
  have hz4 : w3.heap.size + 2 ≤ W4.heap.size := by rw [HW4.out]; simp
  have hz3 : w1.heap.size + 2 ≤ w3.heap.size := by have := hb3.size; omega
  have hx5 := (hB4.block (w1.heap.size + 1) (by omega)).trans hx4
  have hx6 := (hB4.block w1.heap.size (by omega)).trans hx3
  have hcl : ∀ V, Below W4.heap.size W4 V → V.heap[w1.heap.size]? = some (.cells #[.slice am nm cm, .slice ae ne ce] 25 (0, 0)) ∧ V.heap[w3.heap.size]? = some (.cells #[.slice (some ⟨gm, 0, none⟩) 1 cm3, .slice ae3 ne3 ce3] 25 (0, 0)) ∧ Below w.heap.size w V := fun V hV => ⟨(hV.block _ (by omega)).trans hx6, (hV.block _ (by omega)).trans hy1, hb.trans (((hB2.trans (hb3.mono hB2.size)).mono hb.size).trans ((hB4.trans (hV.mono hB4.size)).mono (by have := hb.size; omega)))⟩
  obtain ⟨c0, c1⟩ := blk2 hx5
  obtain ⟨d0, d1⟩ := blk2 hy1
  obtain ⟨d2, d3⟩ := blk2 hy2
  have e4 := L.cell_below hB4 e1
  have f4 := L.cell_below hB4 f2
  rw [HW4.out] at c0 d0 d1 d2 e4 f4
  have hmg := L.message_any (hgr3.below hB4).1 ⟨ae3, ne3, ce3, rfl⟩ [65]
  have hm0 : L.firstI (fun m => decide (m.name = [65])) (L.linkL (toG alive3F)).msgs = 0 := by rw [alive3_msgs]; decide +kernel
  rw [show (⟨(L.linkL (toG alive3F)).msgs, (toG alive3F).enums⟩ : L.GI).msgs = (L.linkL (toG alive3F)).msgs from rfl, hm0] at hmg
  have he0 : L.firstI (fun m => decide (m.name = [69])) (toG alive3F).enums = 0 := by decide +kernel
  clear e1 f2 hx3 hx4 hx5 c1 d3
  go_wp2_with fail
  rw [← HW4.out]
  refine hmg.mono ?_
  rintro e w5 ⟨rfl, hb5⟩
  obtain ⟨_, g2, hbw5⟩ := hcl w5 hb5
  obtain ⟨d4, d5⟩ := blk2 g2
  have hen := L.enum_any ((hgr3.below hB4).below hb5).2 ⟨some ⟨gm, 0, none⟩, 1, cm3, rfl⟩ [69]
  rw [show (⟨(L.linkL (toG alive3F)).msgs, (toG alive3F).enums⟩ : L.GI).enums = (toG alive3F).enums from rfl, he0] at hen
  clear c0 d0 d1 d2 e4 f4 hmg
  go_wp2_with fail
  refine hen.mono ?_
  rintro e w6 ⟨rfl, hb6⟩
  have hB6 : Below W4.heap.size W4 w6 := hb5.trans (hb6.mono hb5.size)
  obtain ⟨g3, _, hbw6⟩ := hcl w6 hB6
  obtain ⟨d6, d7⟩ := blk2 g3
  have hwr := L.Wrong_any ((((hgr.below hB2).below hb3).below hB4).below hB6) (by decide) (by decide) alive3_fits
  rw [alive3_wrong] at hwr
  clear d4 d5 hen
  go_wp2_with fail
  refine hwr.mono ?_
  rintro e w7 ⟨rfl, hb7⟩
  have hf0 := L.field0 6 0
  go_wp2
  go_ret
  exact ⟨rfl, hbw6.trans (hb7.mono hbw6.size)⟩

end Go.Proofs.YtenlijgnmhdopaaGreatDoor

