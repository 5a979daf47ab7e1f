/- The document's own answer: the contract of Link. -/
import Derived.Test.YtenlijgnmhdopaaLRWrg
import Derived.Test.YtenlijgnmhdopaaLLink
namespace Go.Proofs.Ytenlijgnmhdopaa
namespace L
open Go.RowKit

def linkB (g : GI) (x : FI) : Bool := decide (x.kind = 10) && (decide (firstI (fun m => decide (m.name = x.type)) g.msgs < 0) && decide (0 ≤ firstI (fun m => decide (m.name = x.type)) g.enums))
theorem linkF_B (g : GI) (x : FI) : linkF g x = if linkB g x = true then ⟨x.name, x.number, 5, x.type, x.many, x.choice⟩ else x := by
  unfold linkF linkB
  simp only [Bool.and_eq_true, decide_eq_true_eq]
/-- A file that was linked by the document's answer: its messages are new, their numbers that are barred not. -/
theorem linked_rd {w : World} {base : Nat} {vm : Value} {lm : List (MI × LV × LV)} (h : Row ekM w base vm lm) (hs : ∀ p ∈ lm, Row ekF w base p.2.1.v p.1.fields ∧ RdL 1 NAt w p.2.2.v p.1.barred) : RdL 3 MAt w vm (lm.map Prod.fst) := by
  refine RdL.map (P := fun w x (p : MI × LV × LV) => w.cell? x = some (.string (S p.1.name)) ∧ w.cell? (x.add 1) = some p.2.1.v ∧ w.cell? (x.add 2) = some p.2.2.v) Prod.fst (h.rd _ fun g i a hc => ?_) ?_
  · refine ⟨by simpa using hc 0 _ rfl, ?_, ?_⟩
    · rw [add_plain]; exact hc 1 _ rfl
    · rw [add_plain]; exact hc 2 _ rfl
  · rintro x p hp ⟨h0, h1, h2⟩
    exact ⟨p.2.1.v, p.2.2.v, h0, h1, h2, (hs p hp).1.rdF, (hs p hp).2⟩

set_option maxHeartbeats 4000000 in
set_option maxRecDepth 100000 in
theorem rlink_any {w : World} {vm ve : Value} {g : GI} (hg : GRd w vm ve g) (hok : GOk g) :
    Calls Try.prog 22 #[.agg #[vm, ve]] w fun e w' => Below w.heap.size w w' ∧
      (((wrongL (linkL g)).1 = 0 ∧ ∃ vm', e = .returned (.tuple #[.agg #[vm', ve], .agg #[.int .i64 0, .int .i64 0]]) ∧ RdL 3 MAt w' vm' (linkL g).msgs) ∨
       ((wrongL (linkL g)).1 ≠ 0 ∧ e = .returned (.tuple #[.agg #[.slice none 0 0, .slice none 0 0], .agg #[.int .i64 (wrongL (linkL g)).1, .int .i64 (((wrongL (linkL g)).2 : Nat) : Int)]]))) := by
  obtain ⟨a1, n1, c1, rfl, H1, _⟩ := hg.1.shape
  obtain ⟨a2, n2, c2, rfl, H2, _⟩ := hg.2.shape
  have h1 : n1 * 64 ≤ 140737488351232 := by have := hok.2.2.1; unfold reachBytes at this; rw [H1.out]; omega
  have h2 : n2 * 40 ≤ 140737488351232 := by have := hok.2.2.2; unfold reachBytes at this; rw [H2.out]; omega
  obtain ⟨W0, HW0⟩ : ∃ W0, Hid (W0 = (((w.alloc (.cells #[.slice a1 n1 c1, .slice a2 n2 c2] 45)).alloc (.cells #[.slice none 0 0, .slice none 0 0] 45)).alloc (.cells #[.int .i64 0, .int .i64 0] 34)).alloc (.cells #[.slice none 0 0, .slice a2 n2 c2] 45)) := ⟨_, rfl⟩
  have hb0 : Below w.heap.size w W0 := by rw [HW0.out]; exact ((((Below.refl _ _).alloc (Nat.le_refl _) _).alloc (by simp) _).alloc (by simp; omega) _).alloc (by simp; omega) _
  have hz0 : w.heap.size + 4 ≤ W0.heap.size := by rw [HW0.out]; simp
  have hz0' : W0.heap.size ≤ w.heap.size + 4 := by rw [HW0.out]; simp
  have x1 : W0.heap[w.heap.size]? = some (.cells #[.slice a1 n1 c1, .slice a2 n2 c2] 45 (0, 0)) := by
    rw [HW0.out, Below.heap_alloc _ _ _ (by simp; omega), Below.heap_alloc _ _ _ (by simp; omega)]; exact alloc2_old _ _ _
  have x2 : W0.heap[w.heap.size + 1]? = some (.cells #[.slice none 0 0, .slice none 0 0] 45 (0, 0)) := by
    rw [HW0.out, Below.heap_alloc _ _ _ (by simp), Below.heap_alloc _ _ _ (by simp)]; exact alloc2_new _ _ _
  obtain ⟨E, HE⟩ : ∃ E, Hid (E = w.heap.size + 1 + 1) := ⟨_, rfl⟩
  have hE1 : E ≤ w.heap.size + 2 := Nat.le_of_eq HE.out
  have hE2 : w.heap.size + 2 ≤ E := Nat.le_of_eq HE.out.symm
  obtain ⟨G, HG⟩ : ∃ G, Hid (G = w.heap.size + 1 + 1 + 1) := ⟨_, rfl⟩
  have hG1 : G ≤ w.heap.size + 3 := Nat.le_of_eq HG.out
  have hG2 : w.heap.size + 3 ≤ G := Nat.le_of_eq HG.out.symm
  have x3 : W0.heap[E]? = some (.cells #[.int .i64 0, .int .i64 0] 34 (0, 0)) := by
    have := heap_alloc_new ((w.alloc (.cells #[.slice a1 n1 c1, .slice a2 n2 c2] 45)).alloc (.cells #[.slice none 0 0, .slice none 0 0] 45)) (.cells #[.int .i64 0, .int .i64 0] 34)
    rw [HW0.out, HE.out, Below.heap_alloc _ _ _ (by simp)]; simpa using this
  have x4 : W0.heap[G]? = some (.cells #[.slice none 0 0, .slice a2 n2 c2] 45 (0, 0)) := by
    have := heap_alloc_new (((w.alloc (.cells #[.slice a1 n1 c1, .slice a2 n2 c2] 45)).alloc (.cells #[.slice none 0 0, .slice none 0 0] 45)).alloc (.cells #[.int .i64 0, .int .i64 0] 34)) (.cells #[.slice none 0 0, .slice a2 n2 c2] 45)
    rw [HW0.out, HG.out]; simpa using this
  have hcl : ∀ V, Below G W0 V → V.heap[w.heap.size]? = some (.cells #[.slice a1 n1 c1, .slice a2 n2 c2] 45 (0, 0)) ∧ V.heap[w.heap.size + 1]? = some (.cells #[.slice none 0 0, .slice none 0 0] 45 (0, 0)) ∧ V.heap[E]? = some (.cells #[.int .i64 0, .int .i64 0] 34 (0, 0)) ∧ Below w.heap.size w V := fun V hV => ⟨(hV.block _ (by omega)).trans x1, (hV.block _ (by omega)).trans x2, (hV.block _ (by omega)).trans x3, hb0.trans (hV.mono (by omega))⟩
  go_enter Try.func22, Try.ntmps22
  go_wp2_with fail
  rw [← HW0.out, ← HG.out, ← HE.out]
  go_loopg [17] n1 (fun gm i wr => ∃ (k : Nat) (lo : List (MI × LV × LV)) (vo : Value), k + gm = n1 ∧ i = .int .i64 k ∧ Row ekM wr (G + 1) vo lo ∧ (∀ p ∈ lo, Row ekF wr (G + 1) p.2.1.v p.1.fields ∧ RdL 1 NAt w p.2.2.v p.1.barred) ∧ wr.heap[G]? = some (.cells #[vo, .slice a2 n2 c2] 45 (0, 0)) ∧ Hid (lo.map Prod.fst = (g.msgs.take k).map (linkM g)) ∧ lo.length = k ∧ Below G W0 wr ∧ G + 1 ≤ wr.heap.size)
  case atStart => exact ⟨0, [], .slice none 0 0, by omega, rfl, Row.nil _ _ _, fun _ hp => (List.not_mem_nil hp).elim, x4, by show _ = _; simp, rfl, Below.refl _ _, by omega⟩
  case round =>
    obtain ⟨k, lo, vo, hk, rfl, hro, hrs, hO3, HL, hlo, hbr, hzr⟩ := hrel
    obtain ⟨wo, Hwo⟩ : ∃ wo, wo = wr := ⟨_, rfl⟩
    subst Hwo
    obtain ⟨_, _, _, hBw⟩ := hcl wo hbr
    have hGl : G < wo.heap.size := by omega
    obtain ⟨ao, no, co, rfl, Hno⟩ := hro.shape'
    by_cases hlt : k < n1
    · obtain ⟨a, Ha⟩ : ∃ a, Hid (g.msgs[k]? = some a) := ⟨g.msgs[k]'(by rw [← H1.out]; exact hlt), List.getElem?_eq_getElem (by rw [← H1.out]; exact hlt)⟩
      obtain ⟨b0, off0, vf0, vb0, hrb0, hrf0, hcells⟩ : ∃ b0 off0 vf0 vb0, RdL 1 NAt w vb0 a.barred ∧ RdL 6 FAt w vf0 a.fields ∧ a1 = some ⟨b0, off0, none⟩ ∧ w.cell? ⟨b0, off0 + k * 3, none⟩ = some (.string (S a.name)) ∧ w.cell? ⟨b0, off0 + k * 3 + 1, none⟩ = some vf0 ∧ w.cell? ⟨b0, off0 + k * 3 + 2, none⟩ = some vb0 := by
        obtain ⟨b, off, e, hat⟩ := hg.1.get MAt.plain Ha.out
        obtain ⟨vf, vb, s0, s1, s2, hrf, hrb⟩ := hat.at
        exact ⟨b, off, vf, vb, hrb, hrf, e, s0, s1, s2⟩
      obtain ⟨rfl, s0, s1, s2⟩ := hcells
      obtain ⟨af, nf, cf, rfl, Hf, _⟩ := hrf0.shape
      obtain ⟨ab, nb, cb, rfl, Hb, _⟩ := hrb0.shape
      have s0 := cell_below hBw s0
      have s1 := cell_below hBw s1
      have s2 := cell_below hBw s2
      have hki : (k : Int) < (n1 : Int) := by omega
      have hmo := hok.1 a (mem_at Ha.out)
      obtain ⟨W1, HW1⟩ : ∃ W1, Hid (W1 = (wo.alloc (.cells #[.string (S a.name), .slice af nf cf, .slice ab nb cb] 68)).alloc (.cells #[.string (S a.name), .slice none 0 0, .slice ab nb cb] 68)) := ⟨_, rfl⟩
      have hbm : Below wo.heap.size wo W1 := by rw [HW1.out]; exact ((Below.refl _ _).alloc (Nat.le_refl _) _).alloc (by simp) _
      have hz1 : wo.heap.size + 2 ≤ W1.heap.size := by rw [HW1.out]; simp
      have hx1 : W1.heap[wo.heap.size]? = some (.cells #[.string (S a.name), .slice af nf cf, .slice ab nb cb] 68 (0, 0)) := by rw [HW1.out]; exact alloc2_old _ _ _
      have hx2 : W1.heap[wo.heap.size + 1]? = some (.cells #[.string (S a.name), .slice none 0 0, .slice ab nb cb] 68 (0, 0)) := by rw [HW1.out]; exact alloc2_new _ _ _
      obtain ⟨C, HC⟩ : ∃ C, Hid (C = wo.heap.size + 1) := ⟨_, rfl⟩
      have hC1 : C ≤ wo.heap.size + 1 := Nat.le_of_eq HC.out
      have hC2 : wo.heap.size + 1 ≤ C := Nat.le_of_eq HC.out.symm
      rw [← HC.out] at hx2
      go_wp2_with fail
      rw [← HW1.out, ← HC.out]
      go_loopg [29] nf (fun gm i wi => ∃ (j : Nat) (fs : List FI) (vf : Value), j + gm = nf ∧ i = .int .i64 j ∧ Row ekF wi (C + 1) vf fs ∧ wi.heap[C]? = some (.cells #[.string (S a.name), vf, .slice ab nb cb] 68 (0, 0)) ∧ Hid (fs = (a.fields.take j).map (linkF g)) ∧ fs.length = j ∧ Below C W1 wi)
      case atStart => exact ⟨0, [], .slice none 0 0, by omega, rfl, Row.nil _ _ _, hx2, by show _ = _; simp, rfl, Below.refl _ _⟩
      case round =>
        obtain ⟨j, fs, vf, hj, rfl, hrow, hkC, HJ, hfl, hbi⟩ := hrel
        obtain ⟨wi, Hwi⟩ : ∃ wi, wi = wr := ⟨_, rfl⟩
        subst Hwi
        have hBi : Below wo.heap.size wo wi := hbm.trans (hbi.mono (by omega))
        have hCl : C < wi.heap.size := (Array.getElem?_eq_some_iff.1 hkC).1
        have hBwi : Below w.heap.size w wi := hBw.trans (hBi.mono hBw.size)
        have hBGi : Below G W0 wi := hbr.trans (hBi.mono (by omega))
        by_cases hjl : j < nf
        · obtain ⟨f, Hf2⟩ : ∃ f, Hid (a.fields[j]? = some f) := ⟨a.fields[j]'(by rw [← Hf.out]; exact hjl), List.getElem?_eq_getElem (by rw [← Hf.out]; exact hjl)⟩
          obtain ⟨bf, of, rfl, hfa⟩ := (hrf0.below FAt.stays hBwi).get FAt.plain Hf2.out
          obtain ⟨y0, y1, y2, y3, y4, y5⟩ := hfa.at
          have hji : (j : Int) < (nf : Int) := by omega
          obtain ⟨W2, HW2⟩ : ∃ W2, Hid (W2 = wi.alloc (.cells #[.string (S f.name), .int .i64 f.number, .int .i64 f.kind, .string (S f.type), .bool f.many, .int .i64 f.choice] 86)) := ⟨_, rfl⟩
          have hb2 : Below wi.heap.size wi W2 := by rw [HW2.out]; exact (Below.refl _ _).alloc (Nat.le_refl _) _
          have hz2 : wi.heap.size + 1 ≤ W2.heap.size := by rw [HW2.out]; simp
          have hX2 : W2.heap[wi.heap.size]? = some (.cells #[.string (S f.name), .int .i64 f.number, .int .i64 f.kind, .string (S f.type), .bool f.many, .int .i64 f.choice] 86 (0, 0)) := by rw [HW2.out]; exact heap_alloc_new _ _
          have hf2 : (hcl W2 (hBGi.trans (hb2.mono (by omega)))).1 = (hcl W2 (hBGi.trans (hb2.mono (by omega)))).1 := rfl
          have g2 := (hcl W2 (hBGi.trans (hb2.mono (by omega)))).1
          obtain ⟨u0, u1⟩ := blk2 g2
          obtain ⟨d0, d1, d2, d3, d4, d5⟩ := blk6 hX2
          have hmsW : ∀ V, Below W2.heap.size W2 V → Calls Try.prog 18 #[.agg #[.slice (some ⟨b0, off0, none⟩) n1 c1, .slice a2 n2 c2], .string (S f.type)] V fun e V' => e = .returned (.int .i64 (firstI (fun m => decide (m.name = f.type)) g.msgs)) ∧ Below V.heap.size V V' := fun V hV => rmessage_any (hg.below ((hBwi.trans (hb2.mono hBwi.size)).trans (hV.mono (by have := hBwi.size; omega)))).1 ⟨a2, n2, c2, rfl⟩ f.type
          have henW : ∀ V, Below W2.heap.size W2 V → Calls Try.prog 20 #[.agg #[.slice (some ⟨b0, off0, none⟩) n1 c1, .slice a2 n2 c2], .string (S f.type)] V fun e V' => e = .returned (.int .i64 (firstI (fun m => decide (m.name = f.type)) g.enums)) ∧ Below V.heap.size V V' := fun V hV => renum_any (hg.below ((hBwi.trans (hb2.mono hBwi.size)).trans (hV.mono (by have := hBwi.size; omega)))).2 ⟨some ⟨b0, off0, none⟩, n1, c1, rfl⟩ f.type
          have hclx : ∀ V, Below W2.heap.size W2 V → V.heap[w.heap.size]? = some (.cells #[.slice (some ⟨b0, off0, none⟩) n1 c1, .slice a2 n2 c2] 45 (0, 0)) ∧ V.heap[wi.heap.size]? = some (.cells #[.string (S f.name), .int .i64 f.number, .int .i64 f.kind, .string (S f.type), .bool f.many, .int .i64 f.choice] 86 (0, 0)) := fun V hV => ⟨(hV.block _ (by omega)).trans g2, (hV.block _ (by omega)).trans hX2⟩
          obtain ⟨r1, Hr1⟩ : ∃ r1, Hid (r1 = firstI (fun m => decide (m.name = f.type)) g.msgs) := ⟨_, rfl⟩
          obtain ⟨r2, Hr2⟩ : ∃ r2, Hid (r2 = firstI (fun m => decide (m.name = f.type)) g.enums) := ⟨_, rfl⟩
          rw [← Hr1.out] at hmsW
          rw [← Hr2.out] at henW
          have HLB : Hid (linkB g f = (decide (f.kind = 10) && (decide (r1 < 0) && decide (0 ≤ r2)))) := by show _ = _; rw [Hr1.out, Hr2.out]; rfl
          rw [HW2.out] at u0 u1 d0 d1 d2 d3 d4 d5
          clear hf2 hfa
          go_upto_region 10 with fail
          rw [← HW2.out]
          rw [← HW2.out] at u0 u1 d0 d1 d2 d3 d4 d5
          go_cut [29, 49] from 29 to 57 (fun s29 s49 wc => s29 = .int .i64 j ∧ s49 = .bool (linkB g f) ∧ Below W2.heap.size W2 wc)
          case first =>
            have hms := hmsW W2 (Below.refl _ _)
            clear hcl
            by_cases h10 : f.kind = 10
            · have hk : (f.kind == 10) = true := by simp [h10]
              have H10 : Hid (f.kind = 10) := h10
              clear h10
              by_cases q1 : r1 < 0
              · go_wp2_with fail
                refine hms.mono ?_
                rintro e w3 ⟨rfl, hb3⟩
                obtain ⟨t1, t2⟩ := hclx w3 hb3
                obtain ⟨t3, t4⟩ := blk2 t1
                obtain ⟨t5, t6, t7, t8, t9, t10⟩ := blk6 t2
                have hen := henW w3 hb3
                clear hclx u0 u1 d0 d1 d2 d3 d4 d5
                go_wp2_with fail
                refine hen.mono ?_
                rintro e w4 ⟨rfl, hb4⟩
                have hB4 : Below W2.heap.size W2 w4 := hb3.trans (hb4.mono hb3.size)
                by_cases q2 : 0 ≤ r2
                · go_wp2
                  go_meet
                  case rel => exact ⟨rfl, by rw [HLB.out]; simp [H10.out, q1, q2], hB4⟩
                · go_wp2
                  go_meet
                  case rel => exact ⟨rfl, by rw [HLB.out]; congr 1; rw [Bool.eq_iff_iff]; simp; omega, hB4⟩
              · go_wp2_with fail
                refine hms.mono ?_
                rintro e w3 ⟨rfl, hb3⟩
                clear hclx u0 u1 d0 d1 d2 d3 d4 d5
                go_wp2
                go_meet
                case rel => exact ⟨rfl, by rw [HLB.out]; congr 1; rw [Bool.eq_iff_iff]; simp; omega, hb3⟩
            · have hk : (f.kind == 10) = false := by simp [h10]
              have H10 : Hid (¬ f.kind = 10) := h10
              clear h10
              go_wp2
              go_meet
              case rel => exact ⟨rfl, by rw [HLB.out]; simp [H10.out], Below.refl _ _⟩
          case rest =>
            obtain ⟨rfl, rfl, hbc⟩ := hcut
            obtain ⟨av, nv, cv, rfl, Hnv⟩ := hrow.shape'
            have hXc := (hclx wc hbc).2
            have hbwc : Below wi.heap.size wi wc := hb2.trans (hbc.mono hb2.size)
            have hkCc := (hbwc.block C hCl).trans hkC
            have hrowc := hrow.below hbwc
            have hzc : wi.heap.size + 1 ≤ wc.heap.size := by have := hbc.size; omega
            have hby4 : (fs.length + 1) * 64 ≤ 140737488355328 := by
              have := hmo.2.2.2.1
              unfold reachBytes at this
              rw [← Hf.out] at this
              omega
            clear hmsW henW hclx u0 u1 d0 d1 d2 d3 d4 d5 y0 y1 y2 y3 y4 y5 HLB
            cases hlb : linkB g f with
            | true =>
              have HF2 : Hid (linkF g f = ⟨f.name, f.number, 5, f.type, f.many, f.choice⟩) := by show _ = _; rw [linkF_B, if_pos hlb]
              clear hlb
              obtain ⟨V, HV⟩ : ∃ V, Hid (V = wc.setCell ⟨wi.heap.size, 2, none⟩ (.int .i64 5)) := ⟨_, rfl⟩
              have hXV : V.heap[wi.heap.size]? = some (.cells #[.string (S f.name), .int .i64 f.number, .int .i64 5, .string (S f.type), .bool f.many, .int .i64 f.choice] 86 (0, 0)) := by rw [HV.out]; exact heap_setCell_same _ _ 2 _ _ _ hXc
              have hbV : Below wi.heap.size wi V := by rw [HV.out]; exact B_set hbwc (Nat.le_refl _)
              have hzV : wi.heap.size + 1 ≤ V.heap.size := by rw [HV.out]; simpa using hzc
              have t2 := cell_of_blk hXc 2 _ rfl
              have t3 := fr_of_blk hXc 2
              have hkV := (hbV.block C hCl).trans hkC
              have hrowV := hrow.below hbV
              have hrowA : Row ekF (V.alloc (.cells #[.string (S f.name), .int .i64 f.number, .int .i64 5, .string (S f.type), .bool f.many, .int .i64 f.choice] 86)) (C + 1) (.slice av nv cv) fs := hrowV.below ((Below.refl _ _).alloc (Nat.le_refl _) _)
              obtain ⟨v0, v1, v2⟩ := blk3 hkV
              obtain ⟨d0, d1, d2, d3, d4, d5⟩ := blk6 hXV
              have hCV : C < V.heap.size := by omega
              have hVs : V.heap.size = wc.heap.size := by rw [HV.out]; try simp
              have hos := one_src ekF V ⟨f.name, f.number, 5, f.type, f.many, f.choice⟩
              have hCA : C + 1 ≤ (V.alloc (.cells #[.string (S f.name), .int .i64 f.number, .int .i64 5, .string (S f.type), .bool f.many, .int .i64 f.choice] 86)).heap.size := by simp; omega
              rw [hVs] at hos
              rw [HV.out] at hrowA v0 v1 v2 d0 d1 d2 d3 d4 d5 hos hCV hCA
              clear hVs
              go_wp2_with (at_builtin; refine wpList_appG rfl ekF _ _ rfl (C + 1) _ fs [⟨f.name, f.number, 5, f.type, f.many, f.choice⟩] rfl hrowA (some ⟨wc.heap.size, 0, none⟩) 1 1 rfl rfl (fun h => by cases h) hos (by decide) hby4 hCA ?_)
              intro v5 w5 hr5 hg5
              rw [← HV.out] at hg5
              have hown := hrowV.own
              have hB5 : Below C W1 w5 := (hbi.trans (hbV.mono (by have := hbi.size; omega))).alloc (by have := hbi.size; omega) _ |>.grown hg5 (by simp; omega) (fun k hk => by have := (hown k hk).1; omega)
              have hk5 := (hg5.block C (by simp; omega) (fun hh => by have := (hown C hh.symm).1; omega)).trans ((Below.heap_alloc V _ C (by omega)).trans hkV)
              obtain ⟨a6, n6, c6, rfl, H6⟩ := hr5.shape'
              obtain ⟨e0, e1, e2⟩ := blk3 hk5
              have e3 := fr_of_blk hk5 1
              clear hown v0 v1 v2 d0 d1 d2 d3 d4 d5 hrowA hos hCA
              go_wp2_with fail
              go_roundg (nf - (j + 1))
              case measure => omega
              case rel =>
                refine ⟨j + 1, fs ++ [⟨f.name, f.number, 5, f.type, f.many, f.choice⟩], .slice a6 n6 c6, by omega, by go_num, hr5.other (fun hh => by have := (hr5.own C hh).1; omega) 1 _, heap_setCell_same _ _ 1 _ _ _ hk5, ?_, by simp; omega, B_set hB5 (Nat.le_refl _)⟩
                show _ = _
                rw [take_snoc Hf2.out, List.map_append, ← HJ.out, List.map_singleton, HF2.out]
            | false =>
              have HF2 : Hid (linkF g f = f) := by show _ = _; rw [linkF_B, if_neg (by rw [hlb]; simp)]
              clear hlb
              obtain ⟨V, HV⟩ : ∃ V, Hid (V = wc) := ⟨_, rfl⟩
              have hXV : V.heap[wi.heap.size]? = some (.cells #[.string (S f.name), .int .i64 f.number, .int .i64 f.kind, .string (S f.type), .bool f.many, .int .i64 f.choice] 86 (0, 0)) := by rw [HV.out]; exact hXc
              have hbV : Below wi.heap.size wi V := by rw [HV.out]; exact hbwc
              have hzV : wi.heap.size + 1 ≤ V.heap.size := by rw [HV.out]; exact hzc
              have hkV := (hbV.block C hCl).trans hkC
              have hrowV := hrow.below hbV
              have hrowA : Row ekF (V.alloc (.cells #[.string (S f.name), .int .i64 f.number, .int .i64 f.kind, .string (S f.type), .bool f.many, .int .i64 f.choice] 86)) (C + 1) (.slice av nv cv) fs := hrowV.below ((Below.refl _ _).alloc (Nat.le_refl _) _)
              obtain ⟨v0, v1, v2⟩ := blk3 hkV
              obtain ⟨d0, d1, d2, d3, d4, d5⟩ := blk6 hXV
              have hCV : C < V.heap.size := by omega
              have hVs : V.heap.size = wc.heap.size := by rw [HV.out]; try simp
              have hos := one_src ekF V f
              have hCA : C + 1 ≤ (V.alloc (.cells #[.string (S f.name), .int .i64 f.number, .int .i64 f.kind, .string (S f.type), .bool f.many, .int .i64 f.choice] 86)).heap.size := by simp; omega
              rw [hVs] at hos
              rw [HV.out] at hrowA v0 v1 v2 d0 d1 d2 d3 d4 d5 hos hCV hCA
              clear hVs
              go_wp2_with (at_builtin; refine wpList_appG rfl ekF _ _ rfl (C + 1) _ fs [f] rfl hrowA (some ⟨wc.heap.size, 0, none⟩) 1 1 rfl rfl (fun h => by cases h) hos (by decide) hby4 hCA ?_)
              intro v5 w5 hr5 hg5
              rw [← HV.out] at hg5
              have hown := hrowV.own
              have hB5 : Below C W1 w5 := (hbi.trans (hbV.mono (by have := hbi.size; omega))).alloc (by have := hbi.size; omega) _ |>.grown hg5 (by simp; omega) (fun k hk => by have := (hown k hk).1; omega)
              have hk5 := (hg5.block C (by simp; omega) (fun hh => by have := (hown C hh.symm).1; omega)).trans ((Below.heap_alloc V _ C (by omega)).trans hkV)
              obtain ⟨a6, n6, c6, rfl, H6⟩ := hr5.shape'
              obtain ⟨e0, e1, e2⟩ := blk3 hk5
              have e3 := fr_of_blk hk5 1
              clear hown v0 v1 v2 d0 d1 d2 d3 d4 d5 hrowA hos hCA
              go_wp2_with fail
              go_roundg (nf - (j + 1))
              case measure => omega
              case rel =>
                refine ⟨j + 1, fs ++ [f], .slice a6 n6 c6, by omega, by go_num, hr5.other (fun hh => by have := (hr5.own C hh).1; omega) 1 _, heap_setCell_same _ _ 1 _ _ _ hk5, ?_, by simp; omega, B_set hB5 (Nat.le_refl _)⟩
                show _ = _
                rw [take_snoc Hf2.out, List.map_append, ← HJ.out, List.map_singleton, HF2.out]
        · obtain ⟨av, nv, cv, rfl, Hnv⟩ := hrow.shape'
          obtain ⟨e0, e1, e2⟩ := blk3 hkC
          have hoi := (hBi.block G hGl).trans hO3
          obtain ⟨p0, p1⟩ := blk2 hoi
          have HF : Hid (fs = a.fields.map (linkF g)) := by
            show _ = _; rw [HJ.out, List.take_of_length_le (by rw [← Hf.out]; omega)]
          have hroi := hro.below hBi
          have hba := (Below.refl wi.heap.size wi).alloc (Nat.le_refl _) (.cells #[.string (S a.name), .slice av nv cv, .slice ab nb cb] 68)
          have hroa := hroi.below hba
          have hoa := (hba.block G (by have := hBi.size; omega)).trans hoi
          have hrfa := (hrow.mono (show G + 1 ≤ C + 1 by omega)).below hba
          have hrsa : ∀ p ∈ lo, Row ekF (wi.alloc (.cells #[.string (S a.name), .slice av nv cv, .slice ab nb cb] 68)) (G + 1) p.2.1.v p.1.fields := fun p hp => ((hrs p hp).1.below hBi).below hba
          have hBa : Below G W0 (wi.alloc (.cells #[.string (S a.name), .slice av nv cv, .slice ab nb cb] 68)) := hBGi.trans (hba.mono (by have := hBi.size; omega))
          have hzi : G + 1 ≤ wi.heap.size := by have := hBi.size; omega
          have hbyM : (lo.length + ([(⟨a.name, fs, a.barred⟩, (av, nv, cv), (ab, nb, cb))] : List (MI × LV × LV)).length) * ekM.bytes ≤ 140737488355328 := by simp [ekM]; omega
          have hos := one_src ekM wi (⟨a.name, fs, a.barred⟩, (av, nv, cv), (ab, nb, cb))
          have hrbar := fun p hp => (hrs p hp).2
          clear hrs hkC hrow hO3
          go_wp2_with (at_builtin; refine wpList_appG rfl ekM _ _ rfl (G + 1) _ lo [(⟨a.name, fs, a.barred⟩, (av, nv, cv), (ab, nb, cb))] rfl hroa (some ⟨wi.heap.size, 0, none⟩) 1 1 rfl rfl (fun h => by cases h) hos (by decide) hbyM (by simp; omega) ?_)
          intro v6 w6 hrow6 hgr6
          have hown := hroa.own
          have hB6 : Below G W0 w6 := hBa.grown hgr6 (by (try simp); omega) (fun k hk => by have := (hown k hk).1; omega)
          have hO6 := (hgr6.block G (Array.getElem?_eq_some_iff.1 hoa).1 (fun hh => by have := (hown G hh.symm).1; omega)).trans hoa
          have g1 := fr_of_blk hO6 0
          obtain ⟨k0, k1⟩ := blk2 hO6
          obtain ⟨a6, n6, c6, rfl, Hn6⟩ := hrow6.shape'
          have hrf6 := hrfa.grown hgr6 (hrfa.ne hroa (by decide))
          have hrs6 : ∀ p ∈ lo, Row ekF w6 (G + 1) p.2.1.v p.1.fields := fun p hp => (hrsa p hp).grown hgr6 ((hrsa p hp).ne hroa (by decide))
          have hz6 : G + 1 ≤ w6.heap.size := by have := hgr6.size; simp at this; omega
          clear hown hos hroa hoa hBa hrsa p0 p1 e0 e1 e2
          go_wp2_with fail
          go_roundg (n1 - (k + 1))
          case measure => omega
          case rel =>
            refine ⟨k + 1, lo ++ [(⟨a.name, fs, a.barred⟩, (av, nv, cv), (ab, nb, cb))], .slice a6 n6 c6, by omega, by go_num, hrow6.other (fun hh => by have := (hrow6.own G hh).1; omega) 0 _, ?_, heap_setCell_same _ _ 0 _ _ _ hO6, ?_, by simp; omega, B_set hB6 (Nat.le_refl _), by simp; exact hz6⟩
            · intro p hp
              rw [List.mem_append, List.mem_singleton] at hp
              rcases hp with hp | rfl
              · exact ⟨(hrs6 p hp).other ((hrs6 p hp).ne_blk hO6 (by decide)) 0 _, hrbar p hp⟩
              · exact ⟨hrf6.other (hrf6.ne_blk hO6 (by decide)) 0 _, hrb0⟩
            · show _ = _
              rw [take_snoc Ha.out, List.map_append, List.map_append, HL.out]
              simp [linkM, HF.out]
    · have HL2 : Hid (lo.map Prod.fst = (linkL g).msgs) := by
        show _ = _; rw [HL.out, List.take_of_length_le (by rw [← H1.out]; omega)]; rfl
      obtain ⟨_, y2, y3, _⟩ := hcl wo hbr
      have hrd : RdL 3 MAt wo (.slice ao no co) (linkL g).msgs := by
        have := linked_rd hro (fun p hp => ⟨(hrs p hp).1, (hrs p hp).2.below NAt.stays hBw⟩)
        rw [HL2.out] at this
        exact this
      have hgr : GRd wo (.slice ao no co) (.slice a2 n2 c2) (linkL g) := ⟨hrd, (hg.below hBw).2⟩
      have hwr := rwrong_any hgr (by simp only [linkL, List.length_map]; rw [← H1.out]; omega) (by simp only [linkL]; rw [← H2.out]; omega) hok.fitsL
      obtain ⟨q0, q1⟩ := blk2 hO3
      go_wp2_with fail
      refine hwr.mono ?_
      rintro e w4 ⟨rfl, hb4⟩
      have hB4 : Below G W0 w4 := hbr.trans (hb4.mono (by omega))
      have hO4 := (hb4.block G hGl).trans hO3
      generalize hq : wrongL (linkL g) = q
      obtain ⟨qe, qi⟩ := q
      obtain ⟨W5, HW5⟩ : ∃ W5, Hid (W5 = w4.alloc (.cells #[.int .i64 qe, .int .i64 (qi : Int)] 34)) := ⟨_, rfl⟩
      have hb5 : Below w4.heap.size w4 W5 := by rw [HW5.out]; exact (Below.refl _ _).alloc (Nat.le_refl _) _
      have hz4 : G + 1 ≤ w4.heap.size := by have := hb4.size; omega
      have hB5 : Below G W0 W5 := hB4.trans (hb5.mono (by omega))
      have hX5 : W5.heap[w4.heap.size]? = some (.cells #[.int .i64 qe, .int .i64 (qi : Int)] 34 (0, 0)) := by rw [HW5.out]; exact heap_alloc_new _ _
      have hX6 := (hb5.block G (by omega)).trans hO4
      obtain ⟨_, g2, g3, hbw5⟩ := hcl W5 hB5
      obtain ⟨z0, z1⟩ := blk2 g2
      obtain ⟨z2, z3⟩ := blk2 g3
      obtain ⟨z4, z5⟩ := blk2 hX5
      obtain ⟨z6, z7⟩ := blk2 hX6
      have f0 := fr_of_blk g2 0
      have f1 := fr_of_blk g2 1
      have f2 := fr_of_blk g3 0
      have f3 := fr_of_blk g3 1
      have hro5 := (hro.below hb4).below hb5
      have hrs5 : ∀ p ∈ lo, Row ekF W5 (G + 1) p.2.1.v p.1.fields ∧ RdL 1 NAt w p.2.2.v p.1.barred := fun p hp => ⟨((hrs p hp).1.below hb4).below hb5, (hrs p hp).2⟩
      clear hcl hwr q0 q1 hrs
      by_cases hqe : qe = 0
      · have HQ : Hid (qe = 0) := hqe
        have HQE : Hid (wrongL (linkL g) = (qe, qi)) := hq
        have hqb : (qe != 0) = false := by simp [hqe]
        clear hqe hq
        rw [HW5.out] at z0 z1 z2 z3 z4 z5 z6 z7 f0 f1 f2 f3
        go_wp2
        refine bodyPost_ret (v := .tuple #[.agg #[.slice ao no co, .slice a2 n2 c2], .agg #[.int .i64 0, .int .i64 0]]) (by simp [results, Try.results22, go_sem, *]) rfl ?_
        rw [← HW5.out]
        have hBx := B_set (i := 1) (x := .int .i64 0) (B_set (i := 0) (x := .int .i64 0) (B_set (i := 1) (x := .slice a2 n2 c2) (B_set (i := 0) (x := .slice ao no co) hbw5 (show w.heap.size ≤ w.heap.size + 1 by omega)) (show w.heap.size ≤ w.heap.size + 1 by omega)) (show w.heap.size ≤ E by omega)) (show w.heap.size ≤ E by omega)
        refine ⟨hBx, .inl ⟨by rw [HQE.out]; exact HQ.out, _, rfl, ?_⟩⟩
        have hkeep : ∀ {α : Type} {F : EK α} {v : Value} {l : List α}, Row F W5 (G + 1) v l → Row F ((((W5.setCell ⟨w.heap.size + 1, 0, none⟩ (.slice ao no co)).setCell ⟨w.heap.size + 1, 1, none⟩ (.slice a2 n2 c2)).setCell ⟨E, 0, none⟩ (.int .i64 0)).setCell ⟨E, 1, none⟩ (.int .i64 0)) (G + 1) v l := by
          intro α F v l hr
          refine hr.keep fun k hk _ => ?_
          rw [Below.heap_setCell _ _ _ _ (show k ≠ E by omega), Below.heap_setCell _ _ _ _ (show k ≠ E by omega), Below.heap_setCell _ _ _ _ (show k ≠ w.heap.size + 1 by omega), Below.heap_setCell _ _ _ _ (show k ≠ w.heap.size + 1 by omega)]
        have := linked_rd (hkeep hro5) (fun p hp => ⟨hkeep (hrs5 p hp).1, (hrs5 p hp).2.below NAt.stays hBx⟩)
        rw [HL2.out] at this
        exact this
      · have HQ : Hid (qe ≠ 0) := hqe
        have HQE : Hid (wrongL (linkL g) = (qe, qi)) := hq
        have hqb : (qe != 0) = true := by simp [hqe]
        clear hqe hq
        rw [HW5.out] at z0 z1 z2 z3 z4 z5 z6 z7 f0 f1 f2 f3
        go_wp2_with fail
        rw [← HW5.out]
        rw [← HW5.out] at z0 z1 z2 z3 z4 z5 z6 z7 f0 f1 f2 f3
        have ne1 : ¬ w4.heap.size = w.heap.size + 1 := by omega
        have ne2 : ¬ w4.heap.size = E := by omega
        have ne3 : ¬ E = w.heap.size + 1 := by omega
        have ne4 : ¬ w.heap.size + 1 = w4.heap.size := by omega
        have ne5 : ¬ E = w4.heap.size := by omega
        have ne6 : ¬ w.heap.size + 1 = E := by omega
        go_region
        all_goals go_wp2
        all_goals refine bodyPost_ret (v := .tuple #[.agg #[.slice none 0 0, .slice none 0 0], .agg #[.int .i64 qe, .int .i64 (qi : Int)]]) (by simp [results, Try.results22, go_sem, *]) rfl ?_
        all_goals refine ⟨?_, .inr ⟨by rw [HQE.out]; exact HQ.out, by rw [HQE.out]⟩⟩
        all_goals exact B_set (B_set (B_set (B_set hbw5.drew (by omega)) (by omega)) (by omega)) (by omega)

end L
end Go.Proofs.Ytenlijgnmhdopaa
