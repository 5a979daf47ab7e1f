import Derived.Test.YtenlijgnmhdopaaGreatDoorSMPq
/- The contract of Print. -/
namespace Go.Proofs.YtenlijgnmhdopaaGreatDoor
open Go.RowKit

def printP (ms : List Msg) (es : List Enm) : List UInt8 := (es.map enumP).flatten ++ (ms.map messageP).flatten

theorem enumP_ne (e : Enm) : enumP e ≠ [] := by intro h; have := congrArg List.length h; simp [enumP, lineP] at this
theorem messageP_ne (m : Msg) : messageP m ≠ [] := by intro h; have := congrArg List.length h; simp [messageP, lineP] at this

set_option maxHeartbeats 2000000 in
set_option maxRecDepth 100000 in
theorem print_any {B0 base : Nat} {w : World} {vm ve : Value} {lm : List (Msg × SV × SV)} {le : List (Enm × SV)} (h : FilR w base vm ve lm le) (hg : Gl B0 w) (hB0 : B0 ≤ w.heap.size) (hn : lm.length ≤ 1000) (hne : le.length ≤ 1000)
    (hm : ∀ p ∈ lm, p.1.fields.length ≤ 1000 ∧ p.1.barred.length ≤ 1000 ∧ (∀ f ∈ p.1.fields, f.number ≤ 4294967296) ∧ ∀ n ∈ p.1.barred, n ≤ 4294967296)
    (he : ∀ p ∈ le, p.1.items.length ≤ 1000 ∧ ∀ i ∈ p.1.items, -9223372036854775808 ≤ i.value ∧ i.value ≤ 9223372036854775807)
    (hlen : (printP (lm.map Prod.fst) (le.map Prod.fst)).length ≤ 1000000) :
    Calls Tryz.prog 12 #[.agg #[vm, ve]] w fun e w' => e = .returned (.string (S (printP (lm.map Prod.fst) (le.map Prod.fst)))) ∧ Below w.heap.size w w' := by
  obtain ⟨P, HP⟩ : ∃ P, Hid (P = printP (lm.map Prod.fst) (le.map Prod.fst)) := ⟨_, rfl⟩
  rw [← HP.out] at hlen ⊢
  obtain ⟨am, n, cm, rfl, Hn⟩ := h.rowm.shape'
  obtain ⟨ae, ne, ce, rfl, Hne⟩ := h.rowe.shape'
  have hn' : n ≤ 1000 := by rw [Hn.out]; exact hn
  have hne' : ne ≤ 1000 := by rw [Hne.out]; exact hne
  obtain ⟨W0, HW0⟩ : ∃ W0, Hid (W0 = (w.alloc (.cells #[.slice am n cm, .slice ae ne ce] 25)).alloc (.cells #[.pointer none, .slice none 0 0] 69)) := ⟨_, rfl⟩
  have hB : Below w.heap.size w W0 := by rw [HW0.out]; exact ((Below.refl _ _).alloc (Nat.le_refl _) _).alloc (by simp) _
  have hx1 : W0.heap[w.heap.size]? = some (.cells #[.slice am n cm, .slice ae ne ce] 25 (0, 0)) := by rw [HW0.out]; exact alloc2_old _ _ _
  have hx2 : W0.heap[w.heap.size + 1]? = some (.cells #[.pointer none, .slice none 0 0] 69 (0, 0)) := by rw [HW0.out]; exact alloc2_new _ _ _
  have hz0 : W0.heap.size = w.heap.size + 2 := by rw [HW0.out]; simp
  have hbl0 : Bl W0 (w.heap.size + 1) (w.heap.size + 1) [] := .inl ⟨Nat.le_refl _, .slice none 0 0, hx2, World.ownsRow_nil _ _ _ _, by simp [Value.ownBlock]⟩
  have hgW : ∀ W, Ko (w.heap.size + 1) (w.heap.size + 1) W0 W → Gl B0 W := fun W hW => hg.later ((hB.trans ((hW.below (Nat.le_refl _) (by omega)).mono (by omega))).mono hB0)
  go_enter Tryz.func12, Tryz.ntmps12
  go_wp2_with fail
  rw [← HW0.out]
  go_loopg [11] ne (fun m i wr => ∃ k : Nat, k + m = ne ∧ i = .int .i64 k ∧ (∃ q, Hid (q ++ ((le.drop k).map fun p => enumP p.1).flatten ++ (lm.map fun p => messageP p.1).flatten = P) ∧ Bl wr (w.heap.size + 1) (w.heap.size + 1) q ∧ (q = [] → wr.heap[w.heap.size + 1]? = some (.cells #[.pointer none, .slice none 0 0] 69 (0, 0)))) ∧ Ko (w.heap.size + 1) (w.heap.size + 1) W0 wr)
  case atStart =>
    refine ⟨0, by omega, rfl, ⟨[], ?_, hbl0, fun _ => hx2⟩, Ko.refl _ _ _⟩
    show _ = _
    rw [HP.out, printP]
    simp [List.map_map, Function.comp_def]
  case round =>
    obtain ⟨k, hk, rfl, ⟨q, Hq, hbq, hq0⟩, hkr⟩ := hrel
    have hBr : Below (w.heap.size + 1) W0 wr := hkr.below (Nat.le_refl _) (by omega)
    have hBw : Below w.heap.size w wr := hB.trans (hBr.mono (by omega))
    have hzr : w.heap.size + 2 ≤ wr.heap.size := by have := hkr.size; omega
    have y1 : wr.heap[w.heap.size]? = some (.cells #[.slice am n cm, .slice ae ne ce] 25 (0, 0)) := by rw [hBr.block _ (by omega)]; exact hx1
    obtain ⟨x0, x1⟩ := blk2 y1
    by_cases hlt : k < ne
    · obtain ⟨p, Hp⟩ : ∃ p, Hid (le[k]? = some p) := ⟨le[k]'(by rw [← Hne.out]; exact hlt), List.getElem?_eq_getElem (by rw [← Hne.out]; exact hlt)⟩
      have hmem := List.mem_of_getElem? Hp.out
      have HQ : Hid (q ++ enumP p.1 ++ ((le.drop (k + 1)).map fun p => enumP p.1).flatten ++ (lm.map fun p => messageP p.1).flatten = P) := by
        show _ = _; rw [← Hq.out, drop_at Hp.out]; simp
      have hlq : q.length + (enumP p.1).length ≤ 100000000 := by
        have e5 := congrArg List.length HQ.out
        simp only [List.length_append] at e5
        omega
      obtain ⟨hi1, hi2⟩ := he p hmem
      have hf := h.below hBw
      have hrp := hf.es p hmem
      have hrw := h.es p hmem
      obtain ⟨g1, rfl, hc1⟩ := hf.rowe.get Hp.out
      obtain ⟨mm, ⟨af, nf, cf⟩⟩ := p
      have e0 := hc1 0 _ rfl
      have e1 := hc1 1 _ rfl
      have esz : ekEnm.size = 2 := rfl
      rw [esz] at e0 e1
      simp only [SV.v] at e0 e1 hrp hrw hi1 hi2 hlq
      simp only [Nat.add_zero] at e0
      have hob : (Value.slice af nf cf).ownBlock ≠ some (w.heap.size + 1) := by intro e; have := (hrw.own _ e).2; omega
      have hba := (Below.refl wr.heap.size wr).alloc (Nat.le_refl _) (.cells #[.string (S mm.name), .slice af nf cf] 50)
      have hko2 : Ko (w.heap.size + 1) (w.heap.size + 1) W0 (wr.alloc (.cells #[.string (S mm.name), .slice af nf cf] 50)) := hkr.trans (Ko.of_below hba)
      have hen := enumP_any (hbq.below hba) (by simp; omega) (hgW _ hko2) (by omega) mm (.slice af nf cf) (hrp.below hba) hob hi1 hi2 hlq
      clear hc1 esz hf hrp hrw hi2 hlq he hm
      go_wp2_with fail
      refine hen.mono ?_
      rintro e w5 ⟨rfl, hl5, hk5⟩
      go_wp2_with fail
      go_roundg (ne - (k + 1))
      case measure => omega
      case rel => exact ⟨k + 1, by omega, by go_num, ⟨_, HQ, hl5, fun e => absurd (List.append_eq_nil_iff.1 e).2 (enumP_ne _)⟩, hko2.trans hk5⟩
    · have HQ0 : Hid (q ++ ((lm.drop 0).map fun p => messageP p.1).flatten = P) := by
        have e : le.drop k = [] := List.drop_eq_nil_of_le (by rw [← Hne.out]; omega)
        show _ = _; rw [← Hq.out, e]; simp
      go_wp2_with fail
      go_loopg [21] n (fun m i wr => ∃ k : Nat, k + m = n ∧ i = .int .i64 k ∧ (∃ q, Hid (q ++ ((lm.drop k).map fun p => messageP p.1).flatten = P) ∧ Bl wr (w.heap.size + 1) (w.heap.size + 1) q ∧ (q = [] → wr.heap[w.heap.size + 1]? = some (.cells #[.pointer none, .slice none 0 0] 69 (0, 0)))) ∧ Ko (w.heap.size + 1) (w.heap.size + 1) W0 wr)
      case atStart => exact ⟨0, by omega, rfl, ⟨q, HQ0, hbq, hq0⟩, hkr⟩
      case round =>
        clear hq0 hbq Hq HQ0 hBr hBw hzr y1 x0 x1 hkr
        obtain ⟨k2, hk2, rfl, ⟨q, Hq, hbq, hq0⟩, hkr⟩ := hrel
        have hBr : Below (w.heap.size + 1) W0 wr := hkr.below (Nat.le_refl _) (by omega)
        have hBw : Below w.heap.size w wr := hB.trans (hBr.mono (by omega))
        have hzr : w.heap.size + 2 ≤ wr.heap.size := by have := hkr.size; omega
        by_cases hlt2 : k2 < n
        · obtain ⟨p, Hp⟩ : ∃ p, Hid (lm[k2]? = some p) := ⟨lm[k2]'(by rw [← Hn.out]; exact hlt2), List.getElem?_eq_getElem (by rw [← Hn.out]; exact hlt2)⟩
          have hmem := List.mem_of_getElem? Hp.out
          have HQ : Hid (q ++ messageP p.1 ++ ((lm.drop (k2 + 1)).map fun p => messageP p.1).flatten = P) := by
            show _ = _; rw [← Hq.out, drop_at Hp.out]; simp
          have hlq : q.length + (messageP p.1).length ≤ 1000000 := by
            have e5 := congrArg List.length HQ.out
            simp only [List.length_append] at e5
            omega
          obtain ⟨hi1, hi2, hi3, hi4⟩ := hm p hmem
          have hf := h.below hBw
          obtain ⟨hrp, hrq⟩ := hf.ms p hmem
          obtain ⟨hrw, hrv⟩ := h.ms p hmem
          obtain ⟨g1, rfl, hc1⟩ := hf.rowm.get Hp.out
          obtain ⟨mm, ⟨af, nf, cf⟩, ⟨ab, nb, cb⟩⟩ := p
          have e0 := hc1 0 _ rfl
          have e1 := hc1 1 _ rfl
          have e2 := hc1 2 _ rfl
          have esz : ekMsg.size = 3 := rfl
          rw [esz] at e0 e1 e2
          simp only [SV.v] at e0 e1 e2 hrp hrq hrw hrv hi1 hi2 hi3 hi4 hlq
          simp only [Nat.add_zero] at e0
          have hob : (Value.slice af nf cf).ownBlock ≠ some (w.heap.size + 1) := by intro e; have := (hrw.own _ e).2; omega
          have hob2 : (Value.slice ab nb cb).ownBlock ≠ some (w.heap.size + 1) := by intro e; have := (hrv.own _ e).2; omega
          have hba := (Below.refl wr.heap.size wr).alloc (Nat.le_refl _) (.cells #[.string (S mm.name), .slice af nf cf, .slice ab nb cb] 37)
          have hko2 : Ko (w.heap.size + 1) (w.heap.size + 1) W0 (wr.alloc (.cells #[.string (S mm.name), .slice af nf cf, .slice ab nb cb] 37)) := hkr.trans (Ko.of_below hba)
          have hen := messageP_any (hbq.below hba) (by simp; omega) (hgW _ hko2) (by omega) mm (.slice af nf cf) (.slice ab nb cb) (hrp.below hba) (hrq.below hba) hob hob2 hi1 hi2 hi3 hi4 hlq
          clear hc1 esz hf hrp hrq hrw hrv hi3 hi4 hlq he hm
          go_wp2_with fail
          refine hen.mono ?_
          rintro e w5 ⟨rfl, hl5, hk5⟩
          go_wp2_with fail
          go_roundg (n - (k2 + 1))
          case measure => omega
          case rel => exact ⟨k2 + 1, by omega, by go_num, ⟨_, HQ, hl5, fun e => absurd (List.append_eq_nil_iff.1 e).2 (messageP_ne _)⟩, hko2.trans hk5⟩
        · have HPq : Hid (q = P) := by show _ = _; rw [← Hq.out, List.drop_eq_nil_of_le (by rw [← Hn.out]; omega)]; simp
          by_cases hqe : q = []
          · have hstr := string_none (hq0 hqe)
            subst hqe
            clear hq0 he hm
            go_wp2_with fail
            refine hstr.mono ?_
            rintro e w5 ⟨rfl, hb5⟩
            go_wp2
            go_ret
            exact ⟨by rw [← HPq.out]; rfl, hBw.trans (hb5.mono hBw.size)⟩
          · have hstr := string_some hbq hqe
            clear hq0 he hm
            go_wp2_with fail
            refine hstr.mono ?_
            rintro e w5 ⟨rfl, hb5⟩
            go_wp2
            go_ret
            exact ⟨by rw [← HPq.out]; rfl, hBw.trans (hb5.mono (by omega))⟩

end Go.Proofs.YtenlijgnmhdopaaGreatDoor

