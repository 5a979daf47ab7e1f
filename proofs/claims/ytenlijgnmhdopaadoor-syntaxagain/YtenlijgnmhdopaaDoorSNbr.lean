/- The contracts of clash and Numbered. -/
import Derived.Test.YtenlijgnmhdopaaDoorSSame
import Derived.Test.YtenlijgnmhdopaaDoorSNg
namespace Go.Proofs.YtenlijgnmhdopaaDoor
open Go.RowKit

theorem clash_cons {α : Type} (lm : List (Msg × α)) (k : Nat) (p : Msg × α) (h : lm[k]? = some p) : clashL ((lm.drop k).map Prod.fst) = (p.1.fields.any clashF || clashL ((lm.drop (k + 1)).map Prod.fst)) := by
  obtain ⟨hk, e⟩ := List.getElem?_eq_some_iff.1 h
  rw [List.drop_eq_getElem_cons hk, e]; simp [clashL]
set_option maxHeartbeats 2000000 in
set_option maxRecDepth 100000 in
theorem clash_any {w : World} {base : Nat} {vm ve : Value} {lm : List (Msg × SV × SV)} {le : List (Enm × SV)} (h : FilR w base vm ve lm le) (hn : lm.length ≤ 1000) (hin : ∀ p ∈ lm, p.1.fields.length ≤ 100000) :
    Calls Tryd.prog 9 #[.agg #[vm, ve]] w fun e w' => e = .returned (.bool (clashL (lm.map Prod.fst))) ∧ Below w.heap.size w w' := by
  obtain ⟨am, n, cm, rfl, Hn⟩ := h.rowm.shape'
  obtain ⟨ae, ne, ce, rfl, He⟩ := h.rowe.shape'
  have hn' : n ≤ 1000 := by rw [Hn.out]; exact hn
  obtain ⟨W0, HW0⟩ : ∃ W0, Hid (W0 = w.alloc (.cells #[.slice am n cm, .slice ae ne ce] 26)) := ⟨_, rfl⟩
  have hB0 : Below w.heap.size w W0 := by rw [HW0.out]; exact (Below.refl _ _).alloc (Nat.le_refl _) _
  have hx1 : W0.heap[w.heap.size]? = some (.cells #[.slice am n cm, .slice ae ne ce] 26 (0, 0)) := by rw [HW0.out]; exact heap_alloc_new _ _
  have hz0 : W0.heap.size = w.heap.size + 1 := by rw [HW0.out]; simp
  go_enter Tryd.func9, Tryd.ntmps9
  go_wp2_with fail
  rw [← HW0.out]
  go_loopg [10] n (fun m i wr => ∃ k : Nat, k + m = n ∧ i = .int .i64 k ∧ Hid (clashL (lm.map Prod.fst) = clashL ((lm.drop k).map Prod.fst)) ∧ Below (w.heap.size + 1) W0 wr)
  case atStart => exact ⟨0, by omega, rfl, rfl, Below.refl _ _⟩
  case round =>
    obtain ⟨k, hk, rfl, HK, hb⟩ := hrel
    obtain ⟨wo, Hwo⟩ : ∃ wo, wo = wr := ⟨_, rfl⟩
    subst Hwo
    have hBw : Below w.heap.size w wo := hB0.trans (hb.mono (by omega))
    have hf1 := h.below hBw
    have hzr : w.heap.size + 1 ≤ wo.heap.size := by have := hb.size; omega
    by_cases hlt : k < n
    · obtain ⟨p, Hp⟩ : ∃ p, Hid (lm[k]? = some p) := ⟨lm[k]'(by rw [← Hn.out]; exact hlt), List.getElem?_eq_getElem (by rw [← Hn.out]; exact hlt)⟩
      have HK2 : Hid (clashL (lm.map Prod.fst) = (p.1.fields.any clashF || clashL ((lm.drop (k + 1)).map Prod.fst))) := by show _ = _; rw [HK.out, clash_cons lm k p Hp.out]
      obtain ⟨g1, rfl, hc1⟩ := hf1.rowm.get Hp.out
      obtain ⟨r1f, _⟩ := hf1.ms p (List.mem_of_getElem? Hp.out)
      have i1 := hin p (List.mem_of_getElem? Hp.out)
      obtain ⟨mm, ⟨af, nf, cf⟩, ⟨ab, nb, cb⟩⟩ := p
      have e0 := hc1 0 _ rfl
      have e1 := hc1 1 _ rfl
      have e2 := hc1 2 _ rfl
      have esz : ekMsg.size = 3 := rfl
      rw [esz] at e0 e1 e2
      simp only [SV.v] at e0 e1 e2 r1f i1 HK2
      simp only [Nat.add_zero] at e0
      have hnf : nf ≤ 100000 := by rw [r1f.len]; exact i1
      have hki : (k : Int) < (n : Int) := by omega
      clear hc1 esz hf1 hx1 hin
      obtain ⟨W1, HW1⟩ : ∃ W1, Hid (W1 = wo.alloc (.cells #[.string (S mm.name), .slice af nf cf, .slice ab nb cb] 42)) := ⟨_, rfl⟩
      have hB1 : Below wo.heap.size wo W1 := by rw [HW1.out]; exact (Below.refl _ _).alloc (Nat.le_refl _) _
      have hz1 : W1.heap.size = wo.heap.size + 1 := by rw [HW1.out]; simp
      go_wp2_with fail
      rw [← HW1.out]
      go_loopg [17] nf (fun m i wi => ∃ j : Nat, j + m = nf ∧ i = .int .i64 j ∧ Hid (mm.fields.any clashF = (mm.fields.drop j).any clashF) ∧ Below (wo.heap.size + 1) W1 wi)
      case atStart => exact ⟨0, by omega, rfl, rfl, Below.refl _ _⟩
      case round =>
        obtain ⟨j, hj, rfl, HJ, hbi⟩ := hrel
        have hBi : Below wo.heap.size wo wr := hB1.trans (hbi.mono (by omega))
        have hBr : Below w.heap.size w wr := hBw.trans (hBi.mono (by omega))
        clear e0 e1 e2
        by_cases hjl : j < nf
        · obtain ⟨f, Hf⟩ : ∃ f, Hid (mm.fields[j]? = some f) := ⟨mm.fields[j]'(by rw [← r1f.len]; exact hjl), List.getElem?_eq_getElem (by rw [← r1f.len]; exact hjl)⟩
          have HJ2 : Hid (mm.fields.any clashF = (clashF f || (mm.fields.drop (j + 1)).any clashF)) := by
            obtain ⟨hk, e⟩ := List.getElem?_eq_some_iff.1 Hf.out
            show _ = _; rw [HJ.out, List.drop_eq_getElem_cons hk, e]; simp
          obtain ⟨gf, rfl, u1⟩ := (r1f.below hBi).get Hf.out
          have s0 := u1 0 _ rfl
          have s1 := u1 1 _ rfl
          have s2 := u1 2 _ rfl
          have s3 := u1 3 _ rfl
          have s4 := u1 4 _ rfl
          have s5 := u1 5 _ rfl
          have esz : ekFld.size = 6 := rfl
          rw [esz] at s0 s1 s2 s3 s4 s5
          simp only [Nat.add_zero] at s0
          have hji : (j : Int) < (nf : Int) := by omega
          have hba := (Below.refl wr.heap.size wr).alloc (Nat.le_refl _) (.cells (encFld f).toArray 44)
          clear u1 esz
          obtain ⟨q1, hq1⟩ : ∃ q, ((S f.type).toList == [114, 101, 112, 101, 97, 116, 101, 100]) = q := ⟨_, rfl⟩
          obtain ⟨q2, hq2⟩ : ∃ q, ((S f.type).toList == [114, 101, 115, 101, 114, 118, 101, 100]) = q := ⟨_, rfl⟩
          obtain ⟨q3, hq3⟩ : ∃ q, ((S f.type).toList == [111, 110, 101, 111, 102]) = q := ⟨_, rfl⟩
          have HC : Hid (clashF f = (q1 || (q2 || q3))) := by
            show _ = _
            rw [← hq1, ← hq2, ← hq3, S_list, Bool.eq_iff_iff]
            simp [clashF, kwRepeated, kwReserved, kwOneof]
            exact or_congr decide_eq_true_iff (or_congr decide_eq_true_iff decide_eq_true_iff)
          unfold encFld at hba
          by_cases hcl : (q1 || (q2 || q3)) = true
          · have HR : Hid (clashL (lm.map Prod.fst) = true) := by show _ = _; rw [HK2.out, HJ2.out, HC.out, hcl]; rfl
            cases q1 <;> cases q2 <;> cases q3 <;> first | (exfalso; revert hcl; decide) | skip
            all_goals clear hcl HC
            all_goals go_wp2
            all_goals go_ret
            all_goals exact ⟨by rw [HR.out]; rfl, hBr.trans (hba.mono hBr.size)⟩
          · have HR : Hid (mm.fields.any clashF = (mm.fields.drop (j + 1)).any clashF) := by
              have : (q1 || (q2 || q3)) = false := by simpa using hcl
              show _ = _; rw [HJ2.out, HC.out, this]; rfl
            cases q1 <;> cases q2 <;> cases q3 <;> first | (exfalso; revert hcl; decide) | skip
            clear hcl HC
            go_wp2_with fail
            go_roundg (nf - (j + 1))
            case measure => omega
            case rel => exact ⟨j + 1, by omega, by go_num, HR, hbi.trans (hba.mono (by have := hbi.size; omega))⟩
        · go_wp2_with fail
          go_roundg (n - (k + 1))
          case measure => omega
          case rel =>
            refine ⟨k + 1, by omega, by go_num, ?_, hb.trans ((hB1.mono hzr).trans (hbi.mono (by omega)))⟩
            have e : mm.fields.drop j = [] := List.drop_eq_nil_of_le (by rw [← r1f.len]; omega)
            show _ = _; rw [HK2.out, HJ.out, e]; rfl
    · have HK2 : Hid (clashL (lm.map Prod.fst) = false) := by
        have e : lm.drop k = [] := List.drop_eq_nil_of_le (by rw [← Hn.out]; omega)
        show _ = _; rw [HK.out, e]; rfl
      go_wp2
      go_ret
      exact ⟨by rw [HK2.out]; rfl, hBw⟩

end Go.Proofs.YtenlijgnmhdopaaDoor
