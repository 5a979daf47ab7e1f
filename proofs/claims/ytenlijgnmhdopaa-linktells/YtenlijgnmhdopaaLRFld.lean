/- The document's own answer: the contract of WrongField. -/
import Derived.Test.YtenlijgnmhdopaaLRFnd
import Derived.Deep.CutRange
import Derived.Deep.DeepCutAuto
import Derived.Deep.CutBlock
namespace Go.Proofs.Ytenlijgnmhdopaa
namespace L
open Go.RowKit

set_option maxRecDepth 100000 in
theorem sliceF {ao : Option Addr} {len cap : Nat} {k : Nat} (hk : k ≤ len) (hc : len ≤ cap) (w : World) :
    (Instr.slice 65 (.slice ao len cap) none (some (.int .i64 (k : Int))) none).run Try.prog w = .ok (.slice ao k cap) w := by
  have := run_slice_h (P := Try.prog) (w := w) 65 ao len cap Try.underlying65 .i64 (k : Int) (by omega) (by omega)
  rw [this]
  have e1 : (sizeOf (Try.prog.elem 65)).run Try.prog w = .ok 6 w := by rfl
  rw [e1]
  have e2 : ao.map (fun x => x.add 0) = ao := by cases ao <;> rfl
  simp [Result.andThen, sliced, e2]
theorem ch_le : ∀ (l : List FI) (s : Int × Int), 0 ≤ s.1 → 0 ≤ (chGo l s).1 ∧ (chGo l s).1 ≤ s.1 + l.length
  | [], s, h => by simp [chGo]; exact h
  | y :: l, s, h => by
    have := ch_le l (if y.choice ≠ 0 ∧ y.choice ≠ s.2 then s.1 + 1 else s.1, y.choice) (by simp only; split <;> omega)
    rw [chGo]
    simp only [List.length_cons]
    refine ⟨this.1, Int.le_trans this.2 ?_⟩
    simp only
    split <;> omega

set_option maxHeartbeats 4000000 in
set_option maxRecDepth 100000 in
theorem wrongField_any {w : World} {vm ve vf vb : Value} {g : GI} (m : MI) {i : Nat} {x : FI} (hx : m.fields[i]? = some x) (hg : GRd w vm ve g) (hl : RdL 6 FAt w vf m.fields) (hbar : RdL 1 NAt w vb m.barred) (hn : m.fields.length ≤ 16) (hnm : x.name.length ≤ 9223372036854775807) :
    Calls Try.prog 34 #[.agg #[vm, ve], .agg #[.string (S m.name), vf, vb], .int .i64 (i : Int)] w fun e w' => e = .returned (.int .i64 (refF g m.barred (m.fields.take i) x)) ∧ Below w.heap.size w w' := by
  obtain ⟨a1, n1, c1, rfl, _, _⟩ := hg.1.shape
  obtain ⟨a2, n2, c2, rfl, _, _⟩ := hg.2.shape
  obtain ⟨af, nf, cf, rfl, Hf, _⟩ := hl.shape
  obtain ⟨ab, nb, cb, rfl, Hb, hbc⟩ := hbar.shape
  have hi : i < nf := by rw [Hf.out]; exact (List.getElem?_eq_some_iff.1 hx).1
  have hnf : nf ≤ 16 := by rw [Hf.out]; exact hn
  have hcf : nf ≤ cf := (hl.len).2.1
  have hii : (i : Int) < (nf : Int) := by omega
  have hsl : ∀ V, (Instr.slice 65 (.slice af nf cf) none (some (.int .i64 (i : Int))) none).run Try.prog V = .ok (.slice af i cf) V := fun V => sliceF (by omega) hcf V
  obtain ⟨bf, of, rfl, hfx⟩ := hl.get FAt.plain hx
  obtain ⟨y0, y1, y2, y3, y4, y5⟩ := hfx.at
  have hbf : bf < w.heap.size := World.block_lt_of_cell? w _ y0
  have HX : Hid (m.fields[i]? = some x) := hx
  clear hx hfx
  obtain ⟨W1, HW1⟩ : ∃ W1, Hid (W1 = ((w.alloc (.cells #[.slice a1 n1 c1, .slice a2 n2 c2] 45)).alloc (.cells #[.string (S m.name), .slice (some ⟨bf, of, none⟩) nf cf, .slice ab nb cb] 68)).alloc (.cells #[.string (S x.name), .int .i64 x.number, .int .i64 x.kind, .string (S x.type), .bool x.many, .int .i64 x.choice] 86)) := ⟨_, rfl⟩
  have hb1 : Below w.heap.size w W1 := by rw [HW1.out]; exact (((Below.refl _ _).alloc (Nat.le_refl _) _).alloc (by simp) _).alloc (by simp; omega) _
  have hz1 : w.heap.size + 3 ≤ W1.heap.size := by rw [HW1.out]; simp
  have x1 : W1.heap[w.heap.size]? = some (.cells #[.slice a1 n1 c1, .slice a2 n2 c2] 45 (0, 0)) := by rw [HW1.out, Below.heap_alloc _ _ _ (by simp; omega)]; exact alloc2_old _ _ _
  have x2 : W1.heap[w.heap.size + 1]? = some (.cells #[.string (S m.name), .slice (some ⟨bf, of, none⟩) nf cf, .slice ab nb cb] 68 (0, 0)) := by rw [HW1.out, Below.heap_alloc _ _ _ (by simp)]; exact alloc2_new _ _ _
  have x3 : W1.heap[w.heap.size + 1 + 1]? = some (.cells #[.string (S x.name), .int .i64 x.number, .int .i64 x.kind, .string (S x.type), .bool x.many, .int .i64 x.choice] 86 (0, 0)) := by
    have := heap_alloc_new ((w.alloc (.cells #[.slice a1 n1 c1, .slice a2 n2 c2] 45)).alloc (.cells #[.string (S m.name), .slice (some ⟨bf, of, none⟩) nf cf, .slice ab nb cb] 68)) (.cells #[.string (S x.name), .int .i64 x.number, .int .i64 x.kind, .string (S x.type), .bool x.many, .int .i64 x.choice] 86)
    rw [← HW1.out] at this
    simpa using this
  obtain ⟨X, HXX⟩ : ∃ X, Hid (X = w.heap.size + 1 + 1) := ⟨_, rfl⟩
  have hX1 : X ≤ w.heap.size + 2 := Nat.le_of_eq HXX.out
  have hX2 : w.heap.size + 2 ≤ X := Nat.le_of_eq HXX.out.symm
  rw [← HXX.out] at x3
  have hcl : ∀ V, Below W1.heap.size W1 V → V.heap[w.heap.size]? = some (.cells #[.slice a1 n1 c1, .slice a2 n2 c2] 45 (0, 0)) ∧ V.heap[w.heap.size + 1]? = some (.cells #[.string (S m.name), .slice (some ⟨bf, of, none⟩) nf cf, .slice ab nb cb] 68 (0, 0)) ∧ V.heap[X]? = some (.cells #[.string (S x.name), .int .i64 x.number, .int .i64 x.kind, .string (S x.type), .bool x.many, .int .i64 x.choice] 86 (0, 0)) ∧ Below w.heap.size w V := fun V hV => ⟨(hV.block _ (by omega)).trans x1, (hV.block _ (by omega)).trans x2, (hV.block _ (by omega)).trans x3, hb1.trans (hV.mono (by omega))⟩
  have hnd := rnamed_any x.name hnm W1
  obtain ⟨R, HR⟩ : ∃ R, Hid (R = refF g m.barred (m.fields.take i) x) := ⟨_, rfl⟩
  rw [← HR.out]
  have z0 := (blk6 x3).1
  rw [HW1.out] at z0
  go_enter Try.func34, Try.ntmps34
  go_wp2_with fail
  rw [← HW1.out, ← HXX.out]
  refine hnd.mono ?_
  rintro e w2 ⟨rfl, hb2⟩
  obtain ⟨k1, k2, k3, hBw2⟩ := hcl w2 hb2
  obtain ⟨u0, u1, u2⟩ := blk3 k2
  clear z0 hnd y0 y1 y2 y3 y4 y5
  cases q0 : namedB x.name with
  | false =>
    have HE : Hid (R = 7) := by show _ = _; rw [HR.out, refF, if_pos q0]
    clear q0
    go_wp2
    go_ret
    exact ⟨ret_int HE.out.symm, hBw2⟩
  | true =>
    have HR1 : Hid (R = if x.name ∈ (m.fields.take i).map FI.name then 7 else if canB x.number = false then 3 else if x.number ∈ m.barred then 8 else if x.number ∈ (m.fields.take i).map FI.number then 8 else if kindE g x ≠ 0 then kindE g x else if x.many = true ∧ 0 < x.choice then 8 else if misB (chGo (m.fields.take i) (0, 0)).2 (chGo (m.fields.take i) (0, 0)).1 x.choice = true then 2 else 0) := by
      show _ = _; rw [HR.out, refF, if_neg (by rw [q0]; simp)]
    obtain ⟨A, HA⟩ : ∃ A, Hid (A = m.fields.take i) := ⟨_, rfl⟩
    have hAl : A.length = i := by rw [HA.out, List.length_take]; rw [← Hf.out]; omega
    have hAg : ∀ (k : Nat) (y : FI), A[k]? = some y → m.fields[k]? = some y := by
      intro k y h; rw [HA.out, List.getElem?_take] at h; split at h
      · exact h
      · cases h
    rw [← HA.out] at HR1
    clear q0 HR
    go_wp2_with fail
    go_loopg [32] i (fun gm j wr => ∃ k : Nat, k + gm = i ∧ j = .int .i64 k ∧ Hid (x.name ∉ (A.take k).map FI.name) ∧ Below W1.heap.size W1 wr)
    case atStart => exact ⟨0, by omega, rfl, by show ¬ _; simp, hb2⟩
    case round =>
      clear k1 k2 k3 hBw2 u0 u1 u2 hb2
      obtain ⟨k, hk, rfl, HK, hb2⟩ := hrel
      obtain ⟨k1, k2, k3, hBw2⟩ := hcl wr hb2
      have hXl : X < wr.heap.size := (Array.getElem?_eq_some_iff.1 k3).1
      obtain ⟨t0, t1, t2, t3, t4, t5⟩ := blk6 k3
      by_cases hlt : k < i
      · obtain ⟨y, Hy⟩ : ∃ y, Hid (A[k]? = some y) := ⟨A[k]'(by rw [hAl]; exact hlt), List.getElem?_eq_getElem (by rw [hAl]; exact hlt)⟩
        obtain ⟨b', o', e, hfy⟩ := (hl.below FAt.stays hBw2).get FAt.plain (hAg _ _ Hy.out)
        cases e
        obtain ⟨y0, y1, y2, y3, y4, y5⟩ := hfy.at
        have hki : (k : Int) < (i : Int) := by omega
        have hl1 := S_list y.name
        have hl2 := S_list x.name
        have hb3 : Below W1.heap.size W1 (wr.alloc (.cells #[.string (S y.name), .int .i64 y.number, .int .i64 y.kind, .string (S y.type), .bool y.many, .int .i64 y.choice] 86)) := hb2.alloc hb2.size _
        clear hfy
        by_cases hxy : y.name = x.name
        · have HE : Hid (R = 7) := by
            show _ = _
            rw [HR1.out, if_pos (by rw [← hxy]; exact List.mem_map.2 ⟨y, mem_at Hy.out, rfl⟩)]
          have hq : (y.name == x.name) = true := by simp [hxy]
          have hBf := (hcl _ hb3).2.2.2
          clear hxy HR1 hcl
          go_wp2
          go_ret
          exact ⟨ret_int HE.out.symm, hBf⟩
        · have hq : (y.name == x.name) = false := by simp [hxy]
          have HX2 : Hid (x.name ∉ (A.take (k + 1)).map FI.name) := by
            show ¬ _
            rw [take_snoc Hy.out, List.map_append]
            intro hm
            rcases List.mem_append.1 hm with hm | hm
            · exact HK.out hm
            · simp at hm; exact hxy hm.symm
          clear hxy HR1 hcl
          go_wp2_with fail
          go_roundg (i - (k + 1))
          case measure => omega
          case rel => exact ⟨k + 1, by omega, by go_num, HX2, hb3⟩
      · have HR2 : Hid (R = if canB x.number = false then 3 else if x.number ∈ m.barred then 8 else if x.number ∈ A.map FI.number then 8 else if kindE g x ≠ 0 then kindE g x else if x.many = true ∧ 0 < x.choice then 8 else if misB (chGo A (0, 0)).2 (chGo A (0, 0)).1 x.choice = true then 2 else 0) := by
          have h2 := HK.out
          rw [List.take_of_length_le (by rw [hAl]; omega)] at h2
          show _ = _; rw [HR1.out, if_neg h2]
        clear HK HR1
        go_upto_region 10 with fail
        go_cut [59] (fun c wx => c = .bool (!canB x.number) ∧ wr = wx)
        case first =>
          have e : canB x.number = (decide (1 ≤ x.number) && (decide (x.number < 536870912) && (decide (x.number < 19000) || decide (19999 < x.number)))) := rfl
          have HC : Hid (canB x.number = (decide (1 ≤ x.number) && (decide (x.number < 536870912) && (decide (x.number < 19000) || decide (19999 < x.number))))) := e
          clear e
          by_cases c1 : x.number < 1
          · go_wp2
            go_meet
            case rel => exact ⟨by rw [HC.out]; congr 1; simp; omega, rfl⟩
          · by_cases c2 : 536870911 < x.number
            · go_wp2
              go_meet
              case rel => exact ⟨by rw [HC.out]; congr 1; simp; omega, rfl⟩
            · by_cases c3 : 19000 ≤ x.number
              · by_cases c4 : x.number ≤ 19999
                · go_wp2
                  go_meet
                  case rel => exact ⟨by rw [HC.out]; congr 1; simp; omega, rfl⟩
                · go_wp2
                  go_meet
                  case rel => exact ⟨by rw [HC.out]; congr 1; simp; omega, rfl⟩
              · go_wp2
                go_meet
                case rel => exact ⟨by rw [HC.out]; congr 1; simp; omega, rfl⟩
        case rest =>
          obtain ⟨rfl, rfl⟩ := hcut
          obtain ⟨u0, u1, u2⟩ := blk3 k2
          cases q1 : canB x.number with
          | false =>
            have HE : Hid (R = 3) := by show _ = _; rw [HR2.out, if_pos q1]
            clear q1 hcl HR2
            go_wp2
            go_ret
            exact ⟨ret_int HE.out.symm, hBw2⟩
          | true =>
            have HR3 : Hid (R = if x.number ∈ m.barred then 8 else if x.number ∈ A.map FI.number then 8 else if kindE g x ≠ 0 then kindE g x else if x.many = true ∧ 0 < x.choice then 8 else if misB (chGo A (0, 0)).2 (chGo A (0, 0)).1 x.choice = true then 2 else 0) := by
              show _ = _; rw [HR2.out, if_neg (by rw [q1]; simp)]
            clear q1 HR2
            go_wp2_with fail
            go_loopg [63] nb (fun gm j wq => ∃ k : Nat, k + gm = nb ∧ j = .int .i64 k ∧ Hid (x.number ∉ m.barred.take k) ∧ wr = wq)
            case atStart => exact ⟨0, by omega, rfl, by show ¬ _; simp, rfl⟩
            case round =>
              obtain ⟨k, hk, rfl, HK, rfl⟩ := hrel
              by_cases hlt : k < nb
              · obtain ⟨n, Hn⟩ : ∃ n, Hid (m.barred[k]? = some n) := ⟨m.barred[k]'(by rw [← Hb.out]; exact hlt), List.getElem?_eq_getElem (by rw [← Hb.out]; exact hlt)⟩
                obtain ⟨bb, ob, rfl, hcn⟩ := (hbar.below NAt.stays hBw2).get NAt.plain Hn.out
                have hcn : wr.cell? ⟨bb, ob + k * 1, none⟩ = some (.int .i64 n) := hcn
                rw [Nat.mul_one] at hcn
                have hki : (k : Int) < (nb : Int) := by omega
                by_cases hxn : n = x.number
                · have HE : Hid (R = 8) := by
                    show _ = _
                    rw [HR3.out, if_pos (by rw [← hxn]; exact mem_at Hn.out)]
                  have hq : (n == x.number) = true := by simp [hxn]
                  clear hxn HR3 hcl
                  go_wp2
                  go_ret
                  exact ⟨ret_int HE.out.symm, hBw2⟩
                · have hq : (n == x.number) = false := by simp [hxn]
                  have HX2 : Hid (x.number ∉ m.barred.take (k + 1)) := by
                    show ¬ _; rw [take_snoc Hn.out]; simp [Ne.symm hxn]; exact HK.out
                  clear hxn HR3 hcl
                  go_wp2_with fail
                  go_roundg (nb - (k + 1))
                  case measure => omega
                  case rel => exact ⟨k + 1, by omega, by go_num, HX2, rfl⟩
              · have HR4 : Hid (R = if x.number ∈ A.map FI.number then 8 else if kindE g x ≠ 0 then kindE g x else if x.many = true ∧ 0 < x.choice then 8 else if misB (chGo A (0, 0)).2 (chGo A (0, 0)).1 x.choice = true then 2 else 0) := by
                  have h2 := HK.out
                  rw [List.take_of_length_le (by rw [← Hb.out]; omega)] at h2
                  show _ = _; rw [HR3.out, if_neg h2]
                clear HK HR3
                go_wp2_with fail
                go_loopg [77] i (fun gm j wq => ∃ k : Nat, k + gm = i ∧ j = .int .i64 k ∧ Hid (x.number ∉ (A.take k).map FI.number) ∧ Below W1.heap.size W1 wq)
                case atStart => exact ⟨0, by omega, rfl, by show ¬ _; simp, hb2⟩
                case round =>
                  clear k1 k2 k3 hBw2 u0 u1 u2 t0 t1 t2 t3 t4 t5 hb2 hXl
                  obtain ⟨k, hk, rfl, HK, hb2⟩ := hrel
                  obtain ⟨wq, Hwq⟩ : ∃ wq, wq = wr := ⟨_, rfl⟩
                  subst Hwq
                  obtain ⟨k1, k2, k3, hBw2⟩ := hcl wq hb2
                  have hXl : X < wq.heap.size := (Array.getElem?_eq_some_iff.1 k3).1
                  obtain ⟨t0, t1, t2, t3, t4, t5⟩ := blk6 k3
                  by_cases hlt : k < i
                  · obtain ⟨y, Hy⟩ : ∃ y, Hid (A[k]? = some y) := ⟨A[k]'(by rw [hAl]; exact hlt), List.getElem?_eq_getElem (by rw [hAl]; exact hlt)⟩
                    obtain ⟨b', o', e, hfy⟩ := (hl.below FAt.stays hBw2).get FAt.plain (hAg _ _ Hy.out)
                    cases e
                    obtain ⟨y0, y1, y2, y3, y4, y5⟩ := hfy.at
                    have hki : (k : Int) < (i : Int) := by omega
                    have hb3 : Below W1.heap.size W1 (wq.alloc (.cells #[.string (S y.name), .int .i64 y.number, .int .i64 y.kind, .string (S y.type), .bool y.many, .int .i64 y.choice] 86)) := hb2.alloc hb2.size _
                    clear hfy
                    by_cases hxy : y.number = x.number
                    · have HE : Hid (R = 8) := by
                        show _ = _
                        rw [HR4.out, if_pos (by rw [← hxy]; exact List.mem_map.2 ⟨y, mem_at Hy.out, rfl⟩)]
                      have hq : (y.number == x.number) = true := by simp [hxy]
                      have hBf := (hcl _ hb3).2.2.2
                      clear hxy HR4 hcl
                      go_wp2
                      go_ret
                      exact ⟨ret_int HE.out.symm, hBf⟩
                    · have hq : (y.number == x.number) = false := by simp [hxy]
                      have HX2 : Hid (x.number ∉ (A.take (k + 1)).map FI.number) := by
                        show ¬ _
                        rw [take_snoc Hy.out, List.map_append]
                        intro hm
                        rcases List.mem_append.1 hm with hm | hm
                        · exact HK.out hm
                        · simp at hm; exact hxy hm.symm
                      clear hxy HR4 hcl
                      go_wp2_with fail
                      go_roundg (i - (k + 1))
                      case measure => omega
                      case rel => exact ⟨k + 1, by omega, by go_num, HX2, hb3⟩
                  · have HR5 : Hid (R = if kindE g x ≠ 0 then kindE g x else if x.many = true ∧ 0 < x.choice then 8 else if misB (chGo A (0, 0)).2 (chGo A (0, 0)).1 x.choice = true then 2 else 0) := by
                      have h2 := HK.out
                      rw [List.take_of_length_le (by rw [hAl]; omega)] at h2
                      show _ = _; rw [HR4.out, if_neg h2]
                    clear HK HR4
                    go_upto_block 6 with fail
                    go_cut [] (fun wc => Hid (kindE g x = 0) ∧ Below W1.heap.size W1 wc)
                    case first =>
                      obtain ⟨f0, f1⟩ := blk2 k1
                      have hen := renum_any (hg.below hBw2).2 ⟨a1, n1, c1, rfl⟩ x.type
                      have hms := rmessage_any (hg.below hBw2).1 ⟨a2, n2, c2, rfl⟩ x.type
                      obtain ⟨re, He⟩ : ∃ re, Hid (re = firstI (fun m => decide (m.name = x.type)) g.enums) := ⟨_, rfl⟩
                      obtain ⟨rm, Hm⟩ : ∃ rm, Hid (rm = firstI (fun m => decide (m.name = x.type)) g.msgs) := ⟨_, rfl⟩
                      rw [← He.out] at hen
                      rw [← Hm.out] at hms
                      have hl2 := S_list x.type
                      by_cases k5 : x.kind = 5
                      · have HK : Hid (kindE g x = if re < 0 then 6 else 0) := by show _ = _; rw [kindE, if_pos k5, He.out]
                        have q1 : (x.kind == 5) = true := by simp [k5]
                        clear k5 hms
                        by_cases hr : re < 0
                        · have HE : Hid (R = 6) := by show _ = _; rw [HR5.out, HK.out, if_pos hr]; rfl
                          have hcl2 := hcl
                          clear HR5 HK hcl
                          go_wp2_with fail
                          refine hen.mono ?_
                          rintro e w3 ⟨rfl, hb3⟩
                          have hBf := (hcl2 w3 (hb2.trans (hb3.mono hb2.size))).2.2.2
                          clear hcl2
                          go_wp2
                          go_ret
                          exact ⟨ret_int HE.out.symm, hBf⟩
                        · have HE : Hid (kindE g x = 0) := by show _ = _; rw [HK.out, if_neg hr]
                          clear HR5 HK hcl
                          go_wp2_with fail
                          refine hen.mono ?_
                          rintro e w3 ⟨rfl, hb3⟩
                          have hB3 : Below W1.heap.size W1 w3 := hb2.trans (hb3.mono hb2.size)
                          go_wp2
                          go_meet
                          case rel => exact ⟨HE, hB3⟩
                      · by_cases k10 : x.kind = 10
                        · have HK : Hid (kindE g x = if rm < 0 then 6 else 0) := by show _ = _; rw [kindE, if_neg k5, if_pos k10, Hm.out]
                          have q0 : (x.kind == 5) = false := by simp [k5]
                          have q1 : (x.kind == 10) = true := by simp [k10]
                          clear k5 k10 hen
                          by_cases hr : rm < 0
                          · have HE : Hid (R = 6) := by show _ = _; rw [HR5.out, HK.out, if_pos hr]; rfl
                            have hcl2 := hcl
                            clear HR5 HK hcl
                            go_wp2_with fail
                            refine hms.mono ?_
                            rintro e w3 ⟨rfl, hb3⟩
                            have hBf := (hcl2 w3 (hb2.trans (hb3.mono hb2.size))).2.2.2
                            clear hcl2
                            go_wp2
                            go_ret
                            exact ⟨ret_int HE.out.symm, hBf⟩
                          · have HE : Hid (kindE g x = 0) := by show _ = _; rw [HK.out, if_neg hr]
                            clear HR5 HK hcl
                            go_wp2_with fail
                            refine hms.mono ?_
                            rintro e w3 ⟨rfl, hb3⟩
                            have hB3 : Below W1.heap.size W1 w3 := hb2.trans (hb3.mono hb2.size)
                            go_wp2
                            go_meet
                            case rel => exact ⟨HE, hB3⟩
                        · have q5 : (x.kind == 5) = false := by simp [k5]
                          have q10 : (x.kind == 10) = false := by simp [k10]
                          clear hen hms
                          by_cases k9 : 1 ≤ x.kind ∧ x.kind ≤ 9
                          · have HK : Hid (kindE g x = if x.type = [] then 0 else 8) := by show _ = _; rw [kindE, if_neg k5, if_neg k10, if_pos k9]
                            have hk : x.kind = 1 ∨ x.kind = 2 ∨ x.kind = 3 ∨ x.kind = 4 ∨ x.kind = 6 ∨ x.kind = 7 ∨ x.kind = 8 ∨ x.kind = 9 := by omega
                            clear k5 k10 k9
                            by_cases ht : x.type = []
                            · have HE : Hid (kindE g x = 0) := by show _ = _; rw [HK.out, if_pos ht]
                              have hte : (x.type == []) = true := by simp [ht]
                              clear HK ht HR5 hcl
                              rcases hk with hk | hk | hk | hk | hk | hk | hk | hk
                              all_goals go_wp2
                              all_goals go_meet
                              all_goals exact ⟨HE, hb2⟩
                            · have HE : Hid (R = 8) := by show _ = _; rw [HR5.out, HK.out, if_neg ht]; rfl
                              have hte : (x.type == []) = false := by cases hx : x.type with | nil => exact absurd hx ht | cons a b => rfl
                              clear HK ht HR5 hcl
                              rcases hk with hk | hk | hk | hk | hk | hk | hk | hk
                              all_goals go_wp2
                              all_goals go_ret
                              all_goals exact ⟨ret_int HE.out.symm, hBw2⟩
                          · have HE : Hid (R = 1) := by show _ = _; rw [HR5.out, kindE, if_neg k5, if_neg k10, if_neg k9]; rfl
                            have r1 : (x.kind == 1) = false := by simp; omega
                            have r2 : (x.kind == 2) = false := by simp; omega
                            have r3 : (x.kind == 3) = false := by simp; omega
                            have r4 : (x.kind == 4) = false := by simp; omega
                            have r6 : (x.kind == 6) = false := by simp; omega
                            have r7 : (x.kind == 7) = false := by simp; omega
                            have r8 : (x.kind == 8) = false := by simp; omega
                            have r9 : (x.kind == 9) = false := by simp; omega
                            clear k5 k10 k9 HR5 hcl
                            go_wp2
                            go_ret
                            exact ⟨ret_int HE.out.symm, hBw2⟩
                    case rest =>
                      clear k1 k2 k3 hBw2 t0 t1 t2 t3 t4 t5 hXl hb2
                      obtain ⟨HK0, hb2⟩ := hcut
                      obtain ⟨k1, k2, k3, hBw2⟩ := hcl wc hb2
                      obtain ⟨t0, t1, t2, t3, t4, t5⟩ := blk6 k3
                      obtain ⟨u0, u1, u2⟩ := blk3 k2
                      have HR6 : Hid (R = if x.many = true ∧ 0 < x.choice then 8 else if misB (chGo A (0, 0)).2 (chGo A (0, 0)).1 x.choice = true then 2 else 0) := by
                        show _ = _; rw [HR5.out, if_neg (by rw [HK0.out]; simp)]
                      clear HR5 HK0
                      go_upto_region 42 with fail
                      go_cut [121] (fun c wx => c = .bool (decide (x.many = true ∧ 0 < x.choice)) ∧ wc = wx)
                      case first =>
                        clear hcl HR6
                        obtain ⟨mn, HMN⟩ : ∃ mn, Hid (mn = x.many) := ⟨_, rfl⟩
                        rw [← HMN.out] at t4
                        cases mn with
                        | false =>
                          go_wp2
                          go_meet
                          case rel => exact ⟨by rw [← HMN.out]; simp, rfl⟩
                        | true =>
                          by_cases hc : 0 < x.choice
                          · go_wp2
                            go_meet
                            case rel => exact ⟨by rw [← HMN.out]; simp [hc], rfl⟩
                          · go_wp2
                            go_meet
                            case rel => exact ⟨by rw [← HMN.out]; simp [hc], rfl⟩
                      case rest =>
                        obtain ⟨rfl, rfl⟩ := hcut
                        by_cases hmc : x.many = true ∧ 0 < x.choice
                        · have HE : Hid (R = 8) := by show _ = _; rw [HR6.out, if_pos hmc]
                          have hd : decide (x.many = true ∧ 0 < x.choice) = true := by simpa using hmc
                          rw [hd]
                          clear hmc HR6 hcl hd
                          go_wp2
                          go_ret
                          exact ⟨ret_int HE.out.symm, hBw2⟩
                        · have HR7 : Hid (R = if misB (chGo A (0, 0)).2 (chGo A (0, 0)).1 x.choice = true then 2 else 0) := by show _ = _; rw [HR6.out, if_neg hmc]
                          have hd : decide (x.many = true ∧ 0 < x.choice) = false := by simpa using hmc
                          rw [hd]
                          clear hmc HR6 hd
                          go_wp2_with fail
                          go_loopg [14, 15, 127] i (fun gm s14 s15 j wq => ∃ (k : Nat) (cn cl : Int), k + gm = i ∧ j = .int .i64 k ∧ s14 = .int .i64 cn ∧ s15 = .int .i64 cl ∧ 0 ≤ cn ∧ cn ≤ (k : Int) ∧ Hid (chGo A (0, 0) = chGo (A.drop k) (cn, cl)) ∧ Below W1.heap.size W1 wq)
                          case atStart => exact ⟨0, 0, 0, by omega, rfl, rfl, rfl, by omega, by omega, rfl, hb2⟩
                          case round =>
                            clear k1 k2 k3 hBw2 u0 u1 u2 t0 t1 t2 t3 t4 t5 hb2
                            obtain ⟨k, cn, cl, hk, rfl, rfl, rfl, hc0, hck, HK, hb2⟩ := hrel
                            obtain ⟨wq, Hwq⟩ : ∃ wq, wq = wr := ⟨_, rfl⟩
                            subst Hwq
                            obtain ⟨k1, k2, k3, hBw2⟩ := hcl wq hb2
                            obtain ⟨t0, t1, t2, t3, t4, t5⟩ := blk6 k3
                            by_cases hlt : k < i
                            · obtain ⟨y, Hy⟩ : ∃ y, Hid (A[k]? = some y) := ⟨A[k]'(by rw [hAl]; exact hlt), List.getElem?_eq_getElem (by rw [hAl]; exact hlt)⟩
                              obtain ⟨b', o', e, hfy⟩ := (hl.below FAt.stays hBw2).get FAt.plain (hAg _ _ Hy.out)
                              cases e
                              obtain ⟨y0, y1, y2, y3, y4, y5⟩ := hfy.at
                              have hki : (k : Int) < (i : Int) := by omega
                              have hb3 : Below W1.heap.size W1 (wq.alloc (.cells #[.string (S y.name), .int .i64 y.number, .int .i64 y.kind, .string (S y.type), .bool y.many, .int .i64 y.choice] 86)) := hb2.alloc hb2.size _
                              have hdr : A.drop k = y :: A.drop (k + 1) := by
                                obtain ⟨hkl, e⟩ := List.getElem?_eq_some_iff.1 Hy.out
                                rw [List.drop_eq_getElem_cons hkl, e]
                              have HK2 : Hid (chGo A (0, 0) = chGo (A.drop (k + 1)) (if y.choice ≠ 0 ∧ y.choice ≠ cl then cn + 1 else cn, y.choice)) := by show _ = _; rw [HK.out, hdr]; rfl
                              clear hfy hdr HK HR7 hcl
                              by_cases h1 : y.choice = 0
                              · have q1 : (y.choice != 0) = false := by simp [h1]
                                have HK3 : Hid (chGo A (0, 0) = chGo (A.drop (k + 1)) (cn, y.choice)) := by show _ = _; rw [HK2.out, if_neg (by simp [h1])]
                                clear h1 HK2
                                go_wp2_with fail
                                go_roundg (i - (k + 1))
                                case measure => omega
                                case rel => exact ⟨k + 1, cn, y.choice, by omega, by go_num, rfl, rfl, by omega, by omega, HK3, hb3⟩
                              · have q1 : (y.choice != 0) = true := by simp [h1]
                                by_cases h2 : y.choice = cl
                                · have q2 : (y.choice != cl) = false := by simp [h2]
                                  have HK3 : Hid (chGo A (0, 0) = chGo (A.drop (k + 1)) (cn, y.choice)) := by show _ = _; rw [HK2.out, if_neg (by simp [h2])]
                                  clear h1 h2 HK2
                                  go_wp2_with fail
                                  go_roundg (i - (k + 1))
                                  case measure => omega
                                  case rel => exact ⟨k + 1, cn, y.choice, by omega, by go_num, rfl, rfl, by omega, by omega, HK3, hb3⟩
                                · have q2 : (y.choice != cl) = true := by simp [h2]
                                  have HK3 : Hid (chGo A (0, 0) = chGo (A.drop (k + 1)) (cn + 1, y.choice)) := by show _ = _; rw [HK2.out, if_pos ⟨h1, h2⟩]
                                  have hcb : cn + 1 ≤ 1000 := by omega
                                  clear h1 h2 HK2
                                  go_wp2_with fail
                                  go_roundg (i - (k + 1))
                                  case measure => omega
                                  case rel => exact ⟨k + 1, cn + 1, y.choice, by omega, by go_num, by go_num, rfl, by omega, by omega, HK3, hb3⟩
                            · have HC : Hid (chGo A (0, 0) = (cn, cl)) := by
                                have e : A.drop k = [] := List.drop_eq_nil_of_le (by rw [hAl]; omega)
                                show _ = _; rw [HK.out, e]; rfl
                              have HR8 : Hid (R = if misB cl cn x.choice = true then 2 else 0) := by show _ = _; rw [HR7.out, HC.out]
                              have hcb : cn + 1 ≤ 1000 := by omega
                              clear HC HK HR7 hcl
                              by_cases h1 : x.choice = 0
                              · have q1 : (x.choice != 0) = false := by simp [h1]
                                have HE : Hid (R = 0) := by show _ = _; rw [HR8.out, if_neg (by simp [misB, h1])]
                                clear h1 HR8
                                go_wp2
                                go_ret
                                exact ⟨ret_int HE.out.symm, hBw2⟩
                              · have q1 : (x.choice != 0) = true := by simp [h1]
                                by_cases h2 : x.choice = cl
                                · have q2 : (x.choice != cl) = false := by simp [h2]
                                  have HE : Hid (R = 0) := by show _ = _; rw [HR8.out, if_neg (by simp [misB, h2])]
                                  clear h1 h2 HR8
                                  go_wp2
                                  go_ret
                                  exact ⟨ret_int HE.out.symm, hBw2⟩
                                · have q2 : (x.choice != cl) = true := by simp [h2]
                                  by_cases h3 : x.choice = cn + 1
                                  · have q3 : (x.choice != cn + 1) = false := by simp [h3]
                                    have HE : Hid (R = 0) := by show _ = _; rw [HR8.out, if_neg (by simp [misB, h3])]
                                    clear h1 h2 h3 HR8
                                    go_wp2
                                    go_ret
                                    exact ⟨ret_int HE.out.symm, hBw2⟩
                                  · have q3 : (x.choice != cn + 1) = true := by simp [h3]
                                    have HE : Hid (R = 2) := by show _ = _; rw [HR8.out, if_pos (by simp [misB, h1, h2, h3])]
                                    clear h1 h2 h3 HR8
                                    go_wp2
                                    go_ret
                                    exact ⟨ret_int HE.out.symm, hBw2⟩

end L
end Go.Proofs.Ytenlijgnmhdopaa
