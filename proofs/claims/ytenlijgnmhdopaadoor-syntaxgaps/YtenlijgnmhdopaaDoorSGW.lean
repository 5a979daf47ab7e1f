/- The walk of SyntaxGaps. -/
import Derived.Test.YtenlijgnmhdopaaDoorSAlive
import Derived.Test.YtenlijgnmhdopaaDoorSGap
import Derived.Test.YtenlijgnmhdopaaDoorSBnd
import Derived.Test.YtenlijgnmhdopaaDoorSSame
import Derived.Laws.Concat
import Derived.Lib.ConvBytes
namespace Go.Proofs.YtenlijgnmhdopaaDoor
open Go.RowKit

theorem S_append (a b : List UInt8) : S a ++ S b = S (a ++ b) := by
  apply ByteArray.ext
  simp [S]
theorem gap_append (note a b : List UInt8) : gapL note (a ++ b) = gapL note a ++ gapL note b := by
  induction a with
  | nil => rfl
  | cons c r ih =>
    rw [List.cons_append]
    by_cases hc : c = 10
    · rw [gapL, if_pos hc, gapL, if_pos hc, ih]; simp
    · rw [gapL, if_neg hc, gapL, if_neg hc, ih]; simp
theorem gap_len (note l : List UInt8) : (gapL note l).length ≤ l.length * (note.length + 5) := by
  induction l with
  | nil => simp [gapL]
  | cons c r ih =>
    rw [gapL]
    simp only [List.length_cons, Nat.succ_mul]
    split
    · simp [insL]; omega
    · simp; omega
theorem gap_take_succ (note : List UInt8) {l : List UInt8} {k : Nat} {x : UInt8} (hx : l[k]? = some x) : gapL note (l.take (k + 1)) = gapL note (l.take k) ++ gapL note [x] := by
  rw [List.take_add_one, hx, gap_append]; rfl
theorem mid_S (l : List UInt8) (k : Nat) {x : UInt8} (hx : l[k]? = some x) (hk : k < l.length) (w : World) : (Instr.slice 9 (.string (S l)) (some (.int .i64 (k : Int))) (some (.int .i64 ((k : Int) + 1))) none).run Tryd.prog w = .ok (.string (S [x])) w := by
  rw [run_slice_string (h := Tryd.underlying9) (h0 := by omega) (h1 := by omega) (h2 := by rw [S_size]; omega)]
  rw [Lib.extract_eq]
  have e1 : ((k : Int)).toNat = k := by omega
  have e2 : ((k : Int) + 1).toNat = k + 1 := by omega
  rw [e1, e2, S_data, Nat.add_sub_cancel_left, List.drop_eq_getElem_cons hk]
  have : l[k] = x := by rw [List.getElem?_eq_getElem hk] at hx; exact Option.some.inj hx
  rw [this]
  rfl

set_option maxHeartbeats 2000000 in
set_option maxRecDepth 100000 in
theorem gaps_walk {B : Nat} {w : World} (l nt : List UInt8) (hl : l.length ≤ 140737488351232) (hnt : nt.length ≤ 140737488351232) (hg : Gl B w) (hB : B ≤ w.heap.size) :
    Calls Tryd.prog 4 #[.string (S l), .string (S nt)] w fun e w' => e = .returned (.bool true) ∧ Below w.heap.size w w' := by
  go_enter Tryd.func4, Tryd.ntmps4
  go_wp2_with fail
  refine (alive_any hg hB).mono ?_
  rintro e w1 ⟨rfl, hb1⟩
  by_cases hbig : 3000 < l.length
  · have hmuch := Parse_much (S l) (by rw [S_size]; exact hbig) (by rw [S_size]; omega) w1
    go_wp2_with fail
    refine hmuch.mono ?_
    rintro e w2 ⟨rfl, hb2⟩
    go_wp2
    go_ret
    exact ⟨rfl, (hb1.trans (hb2.mono hb1.size)).alloc (Nat.le_trans hb1.size hb2.size) _ |>.alloc (by simp; have := hb1.size; have := hb2.size; omega) _⟩
  · have hg1 : Gl B w1 := hg.later (hb1.mono hB)
    have hpar := Parse_any l (by omega) hg1 (Nat.le_trans hB hb1.size) (l.length + 1) (by omega) (parse_tot l)
    go_wp2_with fail
    refine hpar.mono ?_
    rintro e w2 ⟨hb2, hx⟩
    have hbw2 : Below w.heap.size w w2 := hb1.trans (hb2.mono hb1.size)
    cases hp : parseL (l.length + 1) l with
    | error E =>
      rw [hp] at hx
      match E, hx with
      | none, hx => exact hx.elim
      | some (c, t), hx =>
        obtain ⟨ht, rfl⟩ := hx
        have hc0 : ((c : Int) != 0) = true := by rw [bne_iff_ne]; have := parse_pos _ _ c t hp; omega
        clear hp hpar
        go_wp2
        go_ret
        exact ⟨rfl, hbw2.alloc hbw2.size _ |>.alloc (by simp; have := hbw2.size; omega) _⟩
    | ok p =>
      obtain ⟨f, u⟩ := p
      rw [hp] at hx
      obtain ⟨vm, ve, lm, le, rfl, hF, hm, he, hlen⟩ := hx
      obtain ⟨am, nm, cm, rfl, _⟩ := hF.rowm.shape'
      obtain ⟨ae, ne, ce, rfl, _⟩ := hF.rowe.shape'
      obtain ⟨hs1, hs2⟩ := parse_small hp
      have HP : Hid (parseL (l.length + 1) l = .ok (f, u)) := hp
      clear hp hpar
      have hconv : ∀ W, (convert 9 37 (.string (S nt))).run Tryd.prog W = .ok (.slice (some ⟨W.heap.size, 0, none⟩) (S nt).size (grownCap W (S nt).size 0 5)) (Lib.bytesWorld W 5 (S nt)) := fun W => Lib.run_convert_string_bytes W _ _ _ _ Tryd.underlying9 Tryd.underlying37 Tryd.underlying5
      have hsz := S_size nt
      obtain ⟨W2, HW2⟩ : ∃ W2, Hid (W2 = (w2.alloc (.cells #[.slice am nm cm, .slice ae ne ce] 26)).alloc (.cells #[.int .i64 0, .int .i64 0] 29)) := ⟨_, rfl⟩
      have hB2 : Below w2.heap.size w2 W2 := by rw [HW2.out]; exact ((Below.refl _ _).alloc (Nat.le_refl _) _).alloc (by simp) _
      have hx1 : W2.heap[w2.heap.size]? = some (.cells #[.slice am nm cm, .slice ae ne ce] 26 (0, 0)) := by rw [HW2.out]; exact alloc2_old _ _ _
      have hx2 : W2.heap[w2.heap.size + 1]? = some (.cells #[.int .i64 0, .int .i64 0] 29 (0, 0)) := by rw [HW2.out]; exact alloc2_new _ _ _
      have hz2 : W2.heap.size = w2.heap.size + 2 := by rw [HW2.out]; simp
      obtain ⟨Wc, HWc⟩ : ∃ Wc, Hid (Wc = Lib.bytesWorld W2 5 (S nt)) := ⟨_, rfl⟩
      have hBc : Below W2.heap.size W2 Wc := by rw [HWc.out]; exact bytesWorld_below _ _ _
      have hcc : ∀ j, j < nt.length → Wc.cell? ⟨w2.heap.size + 1 + 1, j, none⟩ = some (.int .u8 ((nt.getD j 0).toNat : Int)) := by
        intro j hj
        have hz2' : w2.heap.size + 1 + 1 = W2.heap.size := by omega
        rw [HWc.out, hz2', Lib.bytesWorld_cell _ _ _ j (by rw [S_size]; exact hj), S_data]
      have hcap : nt.length ≤ grownCap W2 nt.length 0 5 := grownCap_ge _ _ _ _
      have hsl := S_size l
      go_wp2_with fail
      rw [← HW2.out, ← HWc.out]
      go_loopg [25] nt.length (fun m i wr => ∃ k : Nat, k + m = nt.length ∧ i = .int .i64 k ∧ (∀ c ∈ nt.take k, c ≠ 10) ∧ Wc = wr)
      case atStart => exact ⟨0, by omega, rfl, by simp, rfl⟩
      case round =>
        obtain ⟨k, hk, rfl, hno, rfl⟩ := hrel
        by_cases hlt : k < nt.length
        · obtain ⟨c, Hc⟩ : ∃ c, Hid (nt[k]? = some c) := ⟨nt[k], List.getElem?_eq_getElem hlt⟩
          have hcell := hcc k hlt
          have hgd : nt.getD k 0 = c := by rw [List.getD_eq_getElem?_getD, Hc.out]; rfl
          rw [hgd] at hcell
          clear hgd hcc
          have hki : (k : Int) < (nt.length : Int) := by omega
          by_cases h10 : c = 10
          · have hb10 : (((c.toNat : Nat) : Int) == 10) = true := by subst h10; rfl
            go_wp2
            go_ret
            exact ⟨rfl, (hbw2.trans (hB2.mono hbw2.size)).trans (hBc.mono (by have := hbw2.size; omega))⟩
          · have hb10 : (((c.toNat : Nat) : Int) == 10) = false := by
              rw [beq_eq_false_iff_ne]; intro h; apply h10; apply UInt8.toNat_inj.mp; have : c.toNat = 10 := by omega
              rw [this]; rfl
            go_wp2_with fail
            go_roundg (nt.length - (k + 1))
            case measure => omega
            case rel =>
              refine ⟨k + 1, by omega, by go_num, ?_, rfl⟩
              intro d hd
              rw [List.take_add_one, Hc.out] at hd
              rcases List.mem_append.mp hd with h | h
              · exact hno d h
              · simp at h; rw [h]; exact h10
        · have HN : Hid (∀ c ∈ nt, c ≠ 10) := by
            show ∀ c ∈ nt, c ≠ 10
            rw [List.take_of_length_le (by omega)] at hno; exact hno
          clear hno hcc
          go_wp2_with fail
          go_loopg [9, 34] l.length (fun m t i wr => ∃ j : Nat, j + m = l.length ∧ i = .int .i64 j ∧ t = .string (S (gapL nt (l.take j))) ∧ Wc = wr)
          case atStart => exact ⟨0, by omega, rfl, by simp [gapL]; rfl, rfl⟩
          case round =>
            obtain ⟨j, hj, rfl, rfl, rfl⟩ := hrel
            obtain ⟨T, HT⟩ : ∃ T, Hid (T = gapL nt (l.take j)) := ⟨_, rfl⟩
            rw [← HT.out]
            have hTl : T.length ≤ 422212465053711000 := by
              rw [HT.out]
              rw [show 422212465053711000 = 3000 * 140737488351237 from rfl]
              refine Nat.le_trans (gap_len nt (l.take j)) (Nat.mul_le_mul ?_ (by omega))
              rw [List.length_take]; omega
            by_cases hjl : j < l.length
            · obtain ⟨c, Hc⟩ : ∃ c, Hid (l[j]? = some c) := ⟨l[j], List.getElem?_eq_getElem hjl⟩
              have hji : (j : Int) < (l.length : Int) := by omega
              have hmid := mid_S l j Hc.out hjl
              have hsj := S_get l j (by rw [S_size]; exact hjl)
              have hgd : l.getD j 0 = c := by rw [List.getD_eq_getElem?_getD, Hc.out]; rfl
              rw [hgd] at hsj
              clear hgd
              have z1 := S_size T
              have z2 : (S [c]).size = 1 := S_size [c]
              have z3 : (S [10]).size = 1 := rfl
              by_cases h10 : c = 10
              · have hb10 : (((c.toNat : Nat) : Int) == 10) = true := by subst h10; rfl
                go_wp2_with fail
                go_roundg (l.length - (j + 1))
                case measure => omega
                case rel =>
                  refine ⟨j + 1, by omega, by go_num, ?_, rfl⟩
                  rw [gap_take_succ nt Hc.out, ← HT.out, h10]
                  show Value.string (S T ++ S [32, 32, 47, 47] ++ S nt ++ S [10]) = _
                  rw [S_append, S_append, S_append, gapL, if_pos rfl]
                  simp [insL, gapL]
              · have hb10 : (((c.toNat : Nat) : Int) == 10) = false := by
                  rw [beq_eq_false_iff_ne]; intro h; apply h10; apply UInt8.toNat_inj.mp; have : c.toNat = 10 := by omega
                  rw [this]; rfl
                go_wp2_with fail
                go_roundg (l.length - (j + 1))
                case measure => omega
                case rel =>
                  refine ⟨j + 1, by omega, by go_num, ?_, rfl⟩
                  rw [gap_take_succ nt Hc.out, ← HT.out, S_append, gapL, if_neg h10]
                  rfl
            · have HT2 : Hid (T = gapL nt l) := by show _ = _; rw [HT.out, List.take_of_length_le (by omega)]
              have hsT := S_size T
              have hwc : Below w.heap.size w Wc := (hbw2.trans (hB2.mono hbw2.size)).trans (hBc.mono (by have := hbw2.size; omega))
              by_cases hT3 : 3000 < T.length
              · go_wp2
                go_ret
                exact ⟨rfl, hwc⟩
              · have hgc : Gl B Wc := hg.later (hwc.mono hB)
                have hPT : Hid (parseL (l.length + 1) T = .ok (f, gapL nt u)) := by show _ = _; rw [HT2.out]; exact parse_gap HN.out HP.out
                have hpar := Parse_any T (by omega) hgc (Nat.le_trans hB hwc.size) (l.length + 1) (by omega) (by rw [hPT.out]; simp)
                rw [hPT.out] at hpar
                go_wp2_with fail
                refine hpar.mono ?_
                rintro e w3 ⟨hb3, vm3, ve3, lm3, le3, rfl, hF3, hm3, he3, hlen3⟩
                obtain ⟨am3, nm3, cm3, rfl, _⟩ := hF3.rowm.shape'
                obtain ⟨ae3, ne3, ce3, rfl, _⟩ := hF3.rowe.shape'
                have hb23 : Below (w2.heap.size + 2) W2 w3 := by
                  have q1 := hBc
                  rw [hz2] at q1
                  exact q1.trans (hb3.mono (by have := hBc.size; omega))
                have y1 : w3.heap[w2.heap.size]? = some (.cells #[.slice am nm cm, .slice ae ne ce] 26 (0, 0)) := by rw [hb23.block _ (by omega)]; exact hx1
                have y2 : w3.heap[w2.heap.size + 1]? = some (.cells #[.int .i64 0, .int .i64 0] 29 (0, 0)) := by rw [hb23.block _ (by omega)]; exact hx2
                obtain ⟨x10, x11⟩ := blk2 y1
                obtain ⟨x20, x21⟩ := blk2 y2
                have hz3 : w2.heap.size + 2 ≤ w3.heap.size := by have := hb23.size; omega
                have f20 := fr_of_blk y2 0
                have f21 := fr_of_blk y2 1
                have g1 : w2.heap.size + 1 < w3.heap.size := by omega
                have g0 : w2.heap.size < w3.heap.size := by omega
                go_wp2_with fail
                obtain ⟨Ws, HWs⟩ : ∃ Ws, Hid (Ws = (w3.setCell ⟨w2.heap.size + 1, 0, none⟩ (.int .i64 0)).setCell ⟨w2.heap.size + 1, 1, none⟩ (.int .i64 0)) := ⟨_, rfl⟩
                rw [← HWs.out]
                have hs3 : Below (w2.heap.size + 1) w3 Ws := by rw [HWs.out]; exact ((Below.refl (w2.heap.size + 1) w3).setCell (show w2.heap.size + 1 ≤ (⟨w2.heap.size + 1, 0, none⟩ : Addr).block from Nat.le_refl _) _).setCell (show w2.heap.size + 1 ≤ (⟨w2.heap.size + 1, 1, none⟩ : Addr).block from Nat.le_refl _) _
                have hsl : Below (w2.heap.size + 1) w3 (Ws.alloc (.cells #[.slice am3 nm3 cm3, .slice ae3 ne3 ce3] 26)) := hs3.alloc (by have := hs3.size; omega) _
                have h2l : Below w2.heap.size w2 (Ws.alloc (.cells #[.slice am3 nm3 cm3, .slice ae3 ne3 ce3] 26)) := (hB2.trans (hb23.mono (by omega))).trans (hsl.mono (by omega))
                have hA := hF.below h2l
                have hC : FilR (Ws.alloc (.cells #[.slice am3 nm3 cm3, .slice ae3 ne3 ce3] 26)) Wc.heap.size (.slice am3 nm3 cm3) (.slice ae3 ne3 ce3) lm3 le3 := by
                  refine FilR.below (w := Ws) ?_ ((Below.refl _ _).alloc (Nat.le_refl _) _)
                  rw [HWs.out]
                  exact (hF3.set (by have := hBc.size; omega) _ _).set (by have := hBc.size; omega) _ _
                refine (same_file hA hC (hm.trans hm3.symm) (he.trans he3.symm) (by omega) (by omega) (fun p hp => ?_) (fun p hp => ?_)).mono ?_
                · have q := hs1 p.1 (by rw [← hm]; exact List.mem_map_of_mem hp)
                  exact ⟨by omega, by omega⟩
                · have q := hs2 p.1 (by rw [← he]; exact List.mem_map_of_mem hp)
                  omega
                · rintro e w4 ⟨rfl, hb4⟩
                  go_wp2
                  go_ret
                  exact ⟨rfl, hbw2.trans (((h2l.trans (hb4.mono h2l.size))).mono hbw2.size)⟩

end Go.Proofs.YtenlijgnmhdopaaDoor
