/- The contract of names. -/
import Derived.Test.YtenlijgnmhdopaaGreatDoorLWrong
namespace Go.Proofs.YtenlijgnmhdopaaGreatDoor
namespace L
open Go.RowKit

def namesL (g : GI) : List (List UInt8) := g.msgs.map MI.name ++ g.enums.map EI.name
set_option maxHeartbeats 2000000 in
set_option maxRecDepth 100000 in
theorem names_any {w : World} {vm ve : Value} {g : GI} (hg : GRd w vm ve g) (hn1 : g.msgs.length ≤ 1000) (hn2 : g.enums.length ≤ 1000) :
    Calls Tryz.prog 18 #[.agg #[vm, ve]] w fun e w' => ∃ ao n cap, e = .returned (.slice ao n cap) ∧ RdL 1 SAt w' (.slice ao n cap) (namesL g) ∧ Below w.heap.size w w' := by
  obtain ⟨a1, n1, c1, rfl, H1, _⟩ := hg.1.shape
  obtain ⟨a2, n2, c2, rfl, H2, _⟩ := hg.2.shape
  have h1 : n1 ≤ 1000 := by rw [H1.out]; exact hn1
  have h2 : n2 ≤ 1000 := by rw [H2.out]; exact hn2
  obtain ⟨W0, HW0⟩ : ∃ W0, Hid (W0 = w.alloc (.cells #[.slice a1 n1 c1, .slice a2 n2 c2] 25)) := ⟨_, rfl⟩
  have hb0 : Below w.heap.size w W0 := by rw [HW0.out]; exact (Below.refl _ _).alloc (Nat.le_refl _) _
  have hx0 : W0.heap[w.heap.size]? = some (.cells #[.slice a1 n1 c1, .slice a2 n2 c2] 25 (0, 0)) := by rw [HW0.out]; exact heap_alloc_new _ _
  have hz0 : W0.heap.size = w.heap.size + 1 := by rw [HW0.out]; simp
  go_enter Tryz.func18, Tryz.ntmps18
  go_wp2_with fail
  rw [← HW0.out]
  go_loopg [3, 11] n1 (fun m lv i wr => ∃ (k : Nat) (l : List (List UInt8)), k + m = n1 ∧ i = .int .i64 k ∧ Row ekS wr (w.heap.size + 1) lv l ∧ Hid (l = (g.msgs.take k).map MI.name) ∧ Below (w.heap.size + 1) W0 wr)
  case atStart => exact ⟨0, [], by omega, rfl, Row.nil _ _ _, by show _ = _; simp, Below.refl _ _⟩
  case round =>
    obtain ⟨k, l, hk, rfl, hrow, HL, hbr⟩ := hrel
    have hBw : Below w.heap.size w wr := hb0.trans (hbr.mono (by omega))
    have hzr : w.heap.size + 1 ≤ wr.heap.size := by have := hbr.size; omega
    have hll : l.length ≤ k := by rw [HL.out]; simp; omega
    obtain ⟨al, nl, cl, rfl, Hnl⟩ := hrow.shape'
    by_cases hlt : k < n1
    · obtain ⟨a, Ha⟩ : ∃ a, Hid (g.msgs[k]? = some a) := ⟨g.msgs[k]'(by rw [← H1.out]; exact hlt), List.getElem?_eq_getElem (by rw [← H1.out]; exact hlt)⟩
      obtain ⟨b, off, rfl, hat⟩ := (hg.below hBw).1.get MAt.plain Ha.out
      obtain ⟨vf, vb, s0, s1, s2, hrf, hrb⟩ := hat.at
      obtain ⟨af, nf, cf, rfl, _, _⟩ := hrf.shape
      obtain ⟨ab, nb, cb, rfl, _, _⟩ := hrb.shape
      have hki : (k : Int) < (n1 : Int) := by omega
      have hbm := (Below.refl wr.heap.size wr).alloc (Nat.le_refl _) (.cells #[.string (S a.name), .slice af nf cf, .slice ab nb cb] 37)
      have hzm : (wr.alloc (.cells #[.string (S a.name), .slice af nf cf, .slice ab nb cb] 37)).heap.size = wr.heap.size + 1 := by simp
      have hone := Row.one (base := w.heap.size + 1) ekS (wr.alloc (.cells #[.string (S a.name), .slice af nf cf, .slice ab nb cb] 37)) a.name (by omega)
      rw [hzm] at hone
      have hba := (Below.refl _ _).alloc (Nat.le_refl _) (.cells #[.string (S a.name)] 9) (w := wr.alloc (.cells #[.string (S a.name), .slice af nf cf, .slice ab nb cb] 37))
      have hrow4 := (hrow.below hbm).below hba
      have hB4 : Below (w.heap.size + 1) W0 _ := (hbr.trans (hbm.mono hzr)).trans (hba.mono (by omega))
      have hone : Row ekS ((wr.alloc (.cells #[.string (S a.name), .slice af nf cf, .slice ab nb cb] 37)).alloc (.cells #[.string (S a.name)] 9)) (w.heap.size + 1) (.slice (some ⟨wr.heap.size + 1, 0, none⟩) 1 1) [a.name] := hone
      clear hat
      go_wp2_with (at_builtin; refine wpList_app rfl ekS _ _ rfl (w.heap.size + 1) _ l [a.name] rfl hrow4 (w.heap.size + 1) _ rfl hone ?e1 ?e2 ?_)
      case e1 => (try simp); omega
      case e2 => (try simp); omega
      intro v5 w5 hr5 hg5
      have hown := hrow4.own
      have hB5 : Below (w.heap.size + 1) W0 w5 := hB4.grown hg5 (by (try simp); omega) (fun k hk => (hown k hk).1)
      have HL5 : Hid (l ++ [a.name] = (g.msgs.take (k + 1)).map MI.name) := by show _ = _; rw [HL.out, take_snoc Ha.out]; simp
      clear hown hone hrow4 hB4
      go_wp2_with fail
      go_roundg (n1 - (k + 1))
      case measure => omega
      case rel => exact ⟨k + 1, l ++ [a.name], by omega, by go_num, hr5, HL5, hB5⟩
    · have y0 := (hbr.block w.heap.size (by omega)).trans hx0
      obtain ⟨x0, x1⟩ := blk2 y0
      have HL0 : Hid (l = g.msgs.map MI.name ++ (g.enums.take 0).map EI.name) := by show _ = _; rw [HL.out, List.take_of_length_le (by rw [← H1.out]; omega)]; simp
      go_wp2_with fail
      go_loopg [3, 24] n2 (fun m lv i wr => ∃ (k : Nat) (l : List (List UInt8)), k + m = n2 ∧ i = .int .i64 k ∧ Row ekS wr (w.heap.size + 1) lv l ∧ Hid (l = g.msgs.map MI.name ++ (g.enums.take k).map EI.name) ∧ Below (w.heap.size + 1) W0 wr)
      case atStart => exact ⟨0, l, by omega, rfl, hrow, HL0, hbr⟩
      case round =>
        clear hBw hzr hll x0 x1 y0 HL0 hbr hrow HL Hnl
        obtain ⟨k2, l2, hk2, rfl, hrow, HL, hbr⟩ := hrel
        have hBw : Below w.heap.size w wr := hb0.trans (hbr.mono (by omega))
        have hzr : w.heap.size + 1 ≤ wr.heap.size := by have := hbr.size; omega
        have hll : l2.length ≤ n1 + k2 := by rw [HL.out, H1.out]; simp; omega
        obtain ⟨al2, nl2, cl2, rfl, Hnl2⟩ := hrow.shape'
        by_cases hlt2 : k2 < n2
        · obtain ⟨a, Ha⟩ : ∃ a, Hid (g.enums[k2]? = some a) := ⟨g.enums[k2]'(by rw [← H2.out]; exact hlt2), List.getElem?_eq_getElem (by rw [← H2.out]; exact hlt2)⟩
          obtain ⟨b, off, rfl, hat⟩ := (hg.below hBw).2.get EAt.plain Ha.out
          obtain ⟨vi, s0, s1, hri⟩ := hat.at
          obtain ⟨ai, ni, ci, rfl, _, _⟩ := hri.shape
          have hki : (k2 : Int) < (n2 : Int) := by omega
          have hbm := (Below.refl wr.heap.size wr).alloc (Nat.le_refl _) (.cells #[.string (S a.name), .slice ai ni ci] 50)
          have hzm : (wr.alloc (.cells #[.string (S a.name), .slice ai ni ci] 50)).heap.size = wr.heap.size + 1 := by simp
          have hone := Row.one (base := w.heap.size + 1) ekS (wr.alloc (.cells #[.string (S a.name), .slice ai ni ci] 50)) a.name (by omega)
          rw [hzm] at hone
          have hba := (Below.refl _ _).alloc (Nat.le_refl _) (.cells #[.string (S a.name)] 9) (w := wr.alloc (.cells #[.string (S a.name), .slice ai ni ci] 50))
          have hrow4 := (hrow.below hbm).below hba
          have hB4 : Below (w.heap.size + 1) W0 _ := (hbr.trans (hbm.mono hzr)).trans (hba.mono (by omega))
          have hone : Row ekS ((wr.alloc (.cells #[.string (S a.name), .slice ai ni ci] 50)).alloc (.cells #[.string (S a.name)] 9)) (w.heap.size + 1) (.slice (some ⟨wr.heap.size + 1, 0, none⟩) 1 1) [a.name] := hone
          clear hat
          go_wp2_with (at_builtin; refine wpList_app rfl ekS _ _ rfl (w.heap.size + 1) _ l2 [a.name] rfl hrow4 (w.heap.size + 1) _ rfl hone ?e1 ?e2 ?_)
          case e1 => (try simp); omega
          case e2 => (try simp); omega
          intro v5 w5 hr5 hg5
          have hown := hrow4.own
          have hB5 : Below (w.heap.size + 1) W0 w5 := hB4.grown hg5 (by (try simp); omega) (fun k hk => (hown k hk).1)
          have HL5 : Hid (l2 ++ [a.name] = g.msgs.map MI.name ++ (g.enums.take (k2 + 1)).map EI.name) := by show _ = _; rw [HL.out, take_snoc Ha.out]; simp
          clear hown hone hrow4 hB4
          go_wp2_with fail
          go_roundg (n2 - (k2 + 1))
          case measure => omega
          case rel => exact ⟨k2 + 1, l2 ++ [a.name], by omega, by go_num, hr5, HL5, hB5⟩
        · have HL9 : Hid (l2 = namesL g) := by show _ = _; rw [HL.out, List.take_of_length_le (by rw [← H2.out]; omega)]; rfl
          go_wp2
          go_ret
          exact ⟨_, _, _, rfl, by rw [← HL9.out]; exact hrow.rdS, hBw⟩

end L
end Go.Proofs.YtenlijgnmhdopaaGreatDoor
