import Derived.Test.YtelmjekjohbmjaaGreatDoorM15
import Derived.Deep.RegionHeld3
/- What looks deeper: the message of that name, one deeper. -/
namespace Go.Proofs.YtelmjekjohbmjaaGreatDoor
namespace L
open Go.RowKit

theorem BTd {A V V' : World} (h : Below A.heap.size A V) (k : Below V.heap.size V V') : Below A.heap.size A V' := h.trans (k.mono h.size)

set_option maxHeartbeats 2000000 in
set_option maxRecDepth 100000 in
theorem deep_call {W : World} {cf cd : Nat} {am ae : Option Addr} {nm' cm' ne ce : Nat} {g : GI} {k R : Int} {name : List UInt8} {i : Nat} {m : MI} {a0 a1 : Option Addr} {n0 c0 n1 c1 : Nat} (hcf : W.heap[cf]? = some (.cells #[.slice am nm' cm', .slice ae ne ce] 25 (0, 0))) (hcd : W.heap[cd]? = some (.cells #[.int .i64 k] 3 (0, 0))) (hg : GRd W (.slice am nm' cm') (.slice ae ne ce) g) (hfi : firstI (fun m => decide (m.name = name)) g.msgs = (i : Int)) (hi : g.msgs[i]? = some m) (hk : 0 ≤ k) (hk2 : k ≤ 1000)
    (hrec : ∀ vf vb, RdL 6 FAt W vf m.fields → RdL 1 NAt W vb m.barred → ∀ V, Below W.heap.size W V → Calls Tryz.prog 25 #[.agg #[.slice am nm' cm', .slice ae ne ce], .agg #[.string (S m.name), vf, vb], .agg #[.slice a0 n0 c0, .slice a1 n1 c1], .int .i64 (k + 1)] V fun e V' => e = .returned (.int .i64 R) ∧ Below V.heap.size V V') :
    Calls Tryz.prog 51 #[.string (S name), .agg #[.slice a0 n0 c0, .slice a1 n1 c1], .pointer (some ⟨cf, 0, none⟩), .pointer (some ⟨cd, 0, none⟩)] W fun e W' => e = .returned (.int .i64 R) ∧ Below W.heap.size W W' := by
  obtain ⟨W1, HW1⟩ : ∃ W1, Hid (W1 = W.alloc (.cells #[.slice a0 n0 c0, .slice a1 n1 c1] 29)) := ⟨_, rfl⟩
  have hb1 : Below W.heap.size W W1 := by rw [HW1.out]; exact (Below.refl _ _).alloc (Nat.le_refl _) _
  have x1 : W1.heap[W.heap.size]? = some (.cells #[.slice a0 n0 c0, .slice a1 n1 c1] 29 (0, 0)) := by rw [HW1.out]; exact heap_alloc_new _ _
  obtain ⟨b, off, rfl, hat⟩ := hg.1.get MAt.plain hi
  obtain ⟨vf, vb, t0, t1, t2, hf, hbr⟩ := hat.at
  obtain ⟨af, nf, cf', rfl, _, _⟩ := hf.shape
  obtain ⟨ab, nb, cb, rfl, _, _⟩ := hbr.shape
  have hlen := hg.1.len.1
  have hin : i < nm' := by rw [hlen]; exact (List.getElem?_eq_some_iff.1 hi).1
  have hiz : (i : Int) < (nm' : Int) := by omega
  have hcl : ∀ V, Below W1.heap.size W1 V → Below W1.heap.size W1 V ∧ V.cell? ⟨cf, 0, none⟩ = some (.slice (some ⟨b, off, none⟩) nm' cm') ∧ V.cell? ⟨cf, 1, none⟩ = some (.slice ae ne ce) ∧ V.cell? ⟨cd, 0, none⟩ = some (.int .i64 k) ∧ V.cell? ⟨W.heap.size, 0, none⟩ = some (.slice a0 n0 c0) ∧ V.cell? ⟨W.heap.size, 1, none⟩ = some (.slice a1 n1 c1) ∧ V.cell? ⟨b, off + i * 3, none⟩ = some (.string (S m.name)) ∧ V.cell? ⟨b, off + i * 3 + 1, none⟩ = some (.slice af nf cf') ∧ V.cell? ⟨b, off + i * 3 + 2, none⟩ = some (.slice ab nb cb) := fun V hV =>
    have hWV : Below W.heap.size W V := BTd hb1 hV
    ⟨hV, cell_below hWV (cell_of_blk hcf 0 _ rfl), cell_below hWV (cell_of_blk hcf 1 _ rfl), cell_below hWV (cell_of_blk hcd 0 _ rfl), cell_below hV (cell_of_blk x1 0 _ rfl), cell_below hV (cell_of_blk x1 1 _ rfl), cell_below hWV t0, cell_below hWV t1, cell_below hWV t2⟩
  have hms : ∀ V, Below W1.heap.size W1 V → Calls Tryz.prog 52 #[.agg #[.slice (some ⟨b, off, none⟩) nm' cm', .slice ae ne ce], .string (S name)] V fun e V' => e = .returned (.int .i64 (i : Int)) ∧ Below V.heap.size V V' := by
    intro V hV
    rw [← hfi]
    exact message_any (hg.below (BTd hb1 hV)).1 ⟨ae, ne, ce, rfl⟩ name
  have hrc : ∀ V, Below W1.heap.size W1 V → Calls Tryz.prog 25 #[.agg #[.slice (some ⟨b, off, none⟩) nm' cm', .slice ae ne ce], .agg #[.string (S m.name), .slice af nf cf', .slice ab nb cb], .agg #[.slice a0 n0 c0, .slice a1 n1 c1], .int .i64 (k + 1)] V fun e V' => e = .returned (.int .i64 R) ∧ Below V.heap.size V V' := fun V hV => hrec _ _ hf hbr V (BTd hb1 hV)
  have hwr : IntKind.i64.wrap (k + 1) = k + 1 := by rw [IntKind.wrap_i64]; omega
  clear hrec hg hfi hat t0 t1 t2 hf hbr hcf hcd x1 hlen hi
  go_enter Tryz.func51, Tryz.ntmps51
  go_wp2_with fail
  rw [← HW1.out]
  go_region_held3 (fun V => Below W1.heap.size W1 V ∧ V.cell? ⟨cf, 0, none⟩ = some (.slice (some ⟨b, off, none⟩) nm' cm') ∧ V.cell? ⟨cf, 1, none⟩ = some (.slice ae ne ce) ∧ V.cell? ⟨cd, 0, none⟩ = some (.int .i64 k) ∧ V.cell? ⟨W.heap.size, 0, none⟩ = some (.slice a0 n0 c0) ∧ V.cell? ⟨W.heap.size, 1, none⟩ = some (.slice a1 n1 c1) ∧ V.cell? ⟨b, off + i * 3, none⟩ = some (.string (S m.name)) ∧ V.cell? ⟨b, off + i * 3 + 1, none⟩ = some (.slice af nf cf') ∧ V.cell? ⟨b, off + i * 3 + 2, none⟩ = some (.slice ab nb cb)) ((refine hcl _ ?_; first | exact (Below.refl _ _).drew | exact hBn)) ((first | (go_at_call 52; go_split_ands; refine (hms _ (by assumption)).mono ?_; rintro e wn ⟨rfl, hbn⟩; have hBn := BTd (by assumption) hbn) | (go_at_call 25; go_split_ands; refine (hrc _ (by assumption)).mono ?_; rintro e wn ⟨rfl, hbn⟩; have hBn := BTd (by assumption) hbn)))
  all_goals go_wp2
  all_goals go_ret
  all_goals exact ⟨rfl, BTd hb1 hBn⟩

end L
end Go.Proofs.YtelmjekjohbmjaaGreatDoor

