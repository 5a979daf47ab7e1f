/- Bits, sized, single. -/
import Derived.Test.YthgbiflfinddiaaGreatKBits
namespace Go.Proofs.YthgbiflfinddiaaGreat
namespace L
open Go.RowKit

set_option maxHeartbeats 400000 in
set_option maxRecDepth 100000 in
theorem bit1_any (n : Nat) (w : World) : Calls Tryz.prog 146 #[.int .u64 (n : Int)] w fun e w' => e = .returned (.int .u64 ((bitK 2 n : Nat) : Int)) ∧ w = w' := by
  have hw : -9223372036854775808 ≤ IntKind.i64.wrap (n : Int) ∧ IntKind.i64.wrap (n : Int) ≤ 9223372036854775807 := by rw [IntKind.wrap_i64]; omega
  have hf := kfold_any (IntKind.i64.wrap (n : Int)) w hw.1 hw.2
  have h0 := (fold_bd _ hw.1 hw.2).1
  have HN : Hid (((bitK 2 n : Nat) : Int) = foldN (IntKind.i64.wrap (n : Int))) := by
    show _ = _; unfold bitK; rw [if_pos rfl]; omega
  clear h0
  have hwe : wrap64 (n : Int) = IntKind.i64.wrap (n : Int) := by rw [IntKind.wrap_i64, wrap64]
  rw [← hwe] at hf HN
  clear hw hwe
  go_enter Tryz.func146, Tryz.ntmps146
  go_wp2_with fail
  refine hf.mono ?_
  rintro e w1 ⟨rfl, rfl⟩
  go_wp2
  go_ret
  exact ⟨by rw [HN.out]; rfl, rfl⟩
set_option maxHeartbeats 400000 in
theorem bit2_any (n : Nat) (w : World) : Calls Tryz.prog 148 #[.int .u64 (n : Int)] w fun e w' => e = .returned (.int .u64 (n : Int)) ∧ w = w' := by
  go_enter Tryz.func148, Tryz.ntmps148
  go_wp2
  go_ret
  exact ⟨rfl, rfl⟩
set_option maxHeartbeats 1000000 in
set_option maxRecDepth 100000 in
theorem bits_any {w : World} {v : Value} {l : List Nat} (h : RdL 1 UAt w v l) (hm : ∀ n ∈ l, n ≤ 18446744073709551615) (hl : l.length ≤ 100000000000) (kind : Int) :
    Calls Tryz.prog 109 #[.int .i64 kind, v] w fun e w' => ∃ ao n cap, e = .returned (.slice ao n cap) ∧ Row ekU w' w.heap.size (.slice ao n cap) (l.map (bitK kind)) ∧ Below w.heap.size w w' := by
  obtain ⟨a1, n1, c1, rfl, H1, _⟩ := h.shape
  by_cases hk : kind = 2
  · subst hk
    have he := each_any h hm hl (enters_of Tryz.func146 (by kernel_rfl) rfl) (one := bitK 2) (fun n W _ => bit1_any n W)
    have hb : ∀ W, Calls Tryz.prog 136 #[.int .i64 2] W fun e w' => e = .returned (.func (.func 146) #[] #[]) ∧ W = w' := fun W => by
      go_enter Tryz.func136, Tryz.ntmps136
      go_wp2
      go_ret
      exact ⟨rfl, rfl⟩
    have hbw := hb w
    go_enter Tryz.func109, Tryz.ntmps109
    go_wp2_with fail
    refine hbw.mono ?_
    rintro e w1 ⟨rfl, rfl⟩
    go_wp2_with fail
    refine he.mono ?_
    rintro e w2 ⟨ao, n, cap, rfl, hr, hb2⟩
    go_wp2
    go_ret
    exact ⟨ao, n, cap, rfl, hr, hb2⟩
  · have hk2 : (kind == 2) = false := by simp [hk]
    have he := each_any h hm hl (enters_of Tryz.func148 (by kernel_rfl) rfl) (one := bitK kind) (fun n W _ => by
      have e : bitK kind n = n := by unfold bitK; rw [if_neg hk]
      rw [e]; exact bit2_any n W)
    have hb : ∀ W, Calls Tryz.prog 136 #[.int .i64 kind] W fun e w' => e = .returned (.func (.func 148) #[] #[]) ∧ W = w' := fun W => by
      clear he
      go_enter Tryz.func136, Tryz.ntmps136
      go_wp2
      go_ret
      exact ⟨rfl, rfl⟩
    have hbw := hb w
    clear hk2 hk
    go_enter Tryz.func109, Tryz.ntmps109
    go_wp2_with fail
    refine hbw.mono ?_
    rintro e w1 ⟨rfl, rfl⟩
    go_wp2_with fail
    refine he.mono ?_
    rintro e w2 ⟨ao, n, cap, rfl, hr, hb2⟩
    go_wp2
    go_ret
    exact ⟨ao, n, cap, rfl, hr, hb2⟩

set_option maxHeartbeats 2000000 in
set_option maxRecDepth 100000 in
theorem sized_any {w : World} {v : Value} {ls : List (List UInt8)} (h : RdL 1 ZAt w v ls) (num : Int) (hn1 : 0 ≤ num) (hn2 : num ≤ 536870912) (hl : (sizedN num ls).length ≤ 5000000000000) :
    Calls Tryz.prog 107 #[.int .i64 num, v] w fun e w' => ∃ ao n cap, e = .returned (.slice ao n cap) ∧ Row ekY w' w.heap.size (.slice ao n cap) (sizedN num ls) ∧ Below w.heap.size w w' := by
  obtain ⟨a1, n1, c1, rfl, H1, _⟩ := h.shape
  obtain ⟨f, Hf⟩ : ∃ f : List UInt8 → List UInt8, Hid (f = fun b => ktagN num 2 ++ putN b.length ++ b) := ⟨_, rfl⟩
  have HS : Hid (sizedN num ls = ls.flatMap f) := by show _ = _; rw [Hf.out]; rfl
  have htot : (ls.flatMap f).length ≤ 5000000000000 := by rw [← HS.out]; exact hl
  go_enter Tryz.func107, Tryz.ntmps107
  go_wp2_with fail
  go_loopg [5, 10] n1 (fun m u i wr => ∃ (k : Nat) (ao : Option Addr) (no co : Nat), k + m = n1 ∧ i = .int .i64 k ∧ u = .slice ao no co ∧ Row ekY wr w.heap.size (.slice ao no co) ((ls.take k).flatMap f) ∧ Below w.heap.size w wr)
  case atStart => exact ⟨0, none, 0, 0, by omega, rfl, rfl, by rw [List.take_zero]; exact Row.nil _ _ _, Below.refl _ _⟩
  case round =>
    obtain ⟨k, ao, no, co, hk, rfl, rfl, hr, hb⟩ := hrel
    by_cases hlt : k < n1
    · obtain ⟨x, Hx⟩ : ∃ x, Hid (ls[k]? = some x) := ⟨ls[k]'(by rw [← H1.out]; exact hlt), List.getElem?_eq_getElem (by rw [← H1.out]; exact hlt)⟩
      obtain ⟨b, off, rfl, hat⟩ := h.get ZAt.plain Hx.out
      obtain ⟨vx, s00, hrx0⟩ := hat.at
      have s0 := cell_below hb s00
      obtain ⟨ax, nx, cx, rfl, Hnx, hnx⟩ := hrx0.shape
      have s0' : wr.cell? ⟨b, off + k, none⟩ = some (.slice ax nx cx) := by simpa using s0
      have hki : (k : Int) < (n1 : Int) := by omega
      have htk := flat_take_le f ls k
      have htk1 := flat_take_le f ls (k + 1)
      rw [flat_snoc Hx.out, List.length_append] at htk1
      have hfx : (f x).length = (ktagN num 2).length + (putN x.length).length + x.length := by rw [Hf.out]; simp [Nat.add_assoc]
      have htg := ktag_any w.heap.size _ _ num 2 wr hr hb.size hn1 hn2 (by decide) (by decide) (by omega)
      clear s0 hat s00
      go_wp2_with fail
      refine htg.mono ?_
      rintro e w2 ⟨v2, rfl, hr2, hb2⟩
      obtain ⟨a2, n2, c2, rfl, _⟩ := hr2.shape'
      have hbw2 : Below w.heap.size w w2 := hb.trans hb2
      have hput := kput_any w.heap.size _ _ x.length w2 hr2 hbw2.size (by rw [← Hnx.out]; omega) (by rw [List.length_append]; omega)
      rw [← Hnx.out] at hput
      clear htg hr
      go_wp2_with fail
      refine hput.mono ?_
      rintro e w3 ⟨v3, rfl, hr3, hb3⟩
      obtain ⟨a3, n3, c3, rfl, _⟩ := hr3.shape'
      have hbw3 : Below w.heap.size w w3 := hbw2.trans hb3
      obtain ⟨q1, q2, q3⟩ := ksrcY (hrx0.below YAt.stays hbw3)
      clear hput hr2
      go_wp2_with (at_builtin; refine wpList_appG (by rfl) ekY _ _ (by rfl) w.heap.size (.slice a3 n3 c3) _ x (by rfl) hr3 ax nx cx (by rfl) q1 q2 q3 (by decide) ?d2 hbw3.size ?_)
      case d2 =>
        rw [show ekY.bytes = 1 from rfl, Nat.mul_one, Hnx.out]
        simp only [List.length_append]
        omega
      intro v' w4 hr4 hg4
      obtain ⟨a4, n4, c4, rfl, _⟩ := hr4.shape'
      have hB4 : Below w.heap.size w w4 := hbw3.grown hg4 hbw3.size (fun k hk => (hr3.own k hk).1)
      have hr4' : Row ekY w4 w.heap.size (.slice a4 n4 c4) ((ls.take (k + 1)).flatMap f) := by
        rw [flat_snoc Hx.out, Hf.out]
        rw [Hf.out] at hr4
        simp only [List.append_assoc] at hr4 ⊢
        rw [Hnx.out] at hr4
        exact hr4
      clear hr4
      go_wp2_with fail
      go_roundg (n1 - (k + 1))
      case measure => omega
      case rel => exact ⟨k + 1, a4, n4, c4, by omega, by go_num, rfl, hr4', hB4⟩
    · have hr1 : Row ekY wr w.heap.size (.slice ao no co) (sizedN num ls) := by
        rw [List.take_of_length_le (by rw [← H1.out]; omega)] at hr; rw [HS.out]; exact hr
      clear hr
      go_wp2
      go_ret
      exact ⟨ao, no, co, rfl, hr1, hb⟩

def singleN (s : TI) (l : List Nat) : List UInt8 := l.flatMap fun n => ktagN s.number s.how ++ packedN s.how [bitK s.field n]
theorem ktagN_len (a b : Int) : (ktagN a b).length ≤ 10 := kputN_len _
theorem bitK_le (kind : Int) (n : Nat) (hn : n ≤ 18446744073709551615) : bitK kind n ≤ 18446744073709551615 := by
  unfold bitK
  split
  · have hw : -9223372036854775808 ≤ IntKind.i64.wrap (n : Int) ∧ IntKind.i64.wrap (n : Int) ≤ 9223372036854775807 := by rw [IntKind.wrap_i64]; omega
    have := fold_bd _ hw.1 hw.2
    omega
  · exact hn
theorem packed1_len (how : Int) (n : Nat) : (packedN how [n]).length ≤ 10 := by
  unfold packedN
  split
  · simp only [List.flatMap_cons, List.flatMap_nil, List.append_nil]; exact kputB_len how n
  · simp
theorem single_len (s : TI) (l : List Nat) : (singleN s l).length ≤ l.length * 20 := flat_le fun n _ => by
  rw [List.length_append]
  have := ktagN_len s.number s.how
  have := packed1_len s.how (bitK s.field n)
  omega
theorem ku1_rd (w : World) (n : Nat) : RdL 1 UAt (w.alloc (.cells #[.int .u64 (n : Int)] 66)) (.slice (some ⟨w.heap.size, 0, none⟩) 1 1) [n] := by
  refine ⟨_, 1, 1, rfl, rfl, Nat.le_refl _, by unfold maxLen; omega, (fun e => by cases e), fun x hx k a ha => ?_⟩
  cases hx
  cases k with
  | succ k => simp at ha
  | zero =>
    have ha : n = a := by simpa using ha
    subst ha
    rw [add_plain]
    exact cell_of_blk (heap_alloc_new w _) 0 _ rfl
set_option maxHeartbeats 2000000 in
set_option maxRecDepth 100000 in
theorem single_any {w : World} {v : Value} {l : List Nat} (h : RdL 1 UAt w v l) (hm : ∀ n ∈ l, n ≤ 18446744073709551615) (hl : l.length ≤ 10000000000) (s : TI) (hn1 : 0 ≤ s.number) (hn2 : s.number ≤ 536870912) (hh1 : 0 ≤ s.how) (hh2 : s.how ≤ 7) :
    Calls Tryz.prog 106 #[tv s, v] w fun e w' => ∃ ao n cap, e = .returned (.slice ao n cap) ∧ Row ekY w' w.heap.size (.slice ao n cap) (singleN s l) ∧ Below w.heap.size w w' := by
  obtain ⟨a1, n1, c1, rfl, H1, _⟩ := h.shape
  obtain ⟨W0, HW0⟩ : ∃ W0, Hid (W0 = w.alloc (.cells #[.int .i64 s.kind, .int .i64 s.number, .int .i64 s.how, .int .i64 s.field, .int .i64 s.next] 51)) := ⟨_, rfl⟩
  have hb0 : Below w.heap.size w W0 := by rw [HW0.out]; exact (Below.refl _ _).alloc (Nat.le_refl _) _
  have hz0 : w.heap.size + 1 ≤ W0.heap.size := by rw [HW0.out]; simp
  have x0 : W0.heap[w.heap.size]? = some (.cells #[.int .i64 s.kind, .int .i64 s.number, .int .i64 s.how, .int .i64 s.field, .int .i64 s.next] 51 (0, 0)) := by rw [HW0.out]; exact heap_alloc_new _ _
  have hbt := bits_any (h.below UAt.stays hb0) hm (by omega) s.field
  obtain ⟨f, Hf⟩ : ∃ f : Nat → List UInt8, Hid (f = fun y => ktagN s.number s.how ++ packedN s.how [y]) := ⟨_, rfl⟩
  have HS : Hid (singleN s l = (l.map (bitK s.field)).flatMap f) := by
    show _ = _; rw [Hf.out, List.flatMap_map]; rfl
  have hfl : ∀ y, (f y).length ≤ 20 := fun y => by
    rw [Hf.out, List.length_append]
    have := ktagN_len s.number s.how
    have := packed1_len s.how y
    omega
  unfold tv
  go_enter Tryz.func106, Tryz.ntmps106
  go_wp2_with fail
  rw [← HW0.out]
  refine hbt.mono ?_
  rintro e W1 ⟨ab, nb, cb, rfl, hrb, hb1⟩
  have Hnb : Hid (nb = (l.map (bitK s.field)).length) := hrb.len
  have hnb : nb ≤ 10000000000 := by rw [Hnb.out, List.length_map]; exact hl
  have hbw1 : Below w.heap.size w W1 := KBT hb0 hb1
  have hz1 := hb1.size
  have x1 := (hb1.block _ (by omega)).trans x0
  have hle : ∀ y ∈ l.map (bitK s.field), y ≤ 18446744073709551615 := fun y hy => by
    obtain ⟨n, hn, rfl⟩ := List.mem_map.1 hy
    exact bitK_le _ _ (hm n hn)
  obtain ⟨L, HL⟩ : ∃ L, Hid (L = l.map (bitK s.field)) := ⟨_, rfl⟩
  rw [← HL.out] at hrb Hnb hle HS
  have hrd := hrb.rdU
  clear hbt hrb
  go_wp2_with fail
  go_loopg [5, 13] nb (fun m u i wr => ∃ (k : Nat) (ao : Option Addr) (no co : Nat), k + m = nb ∧ i = .int .i64 k ∧ u = .slice ao no co ∧ Row ekY wr W1.heap.size (.slice ao no co) ((L.take k).flatMap f) ∧ Below W1.heap.size W1 wr)
  case atStart => exact ⟨0, none, 0, 0, by omega, rfl, rfl, by rw [List.take_zero]; exact Row.nil _ _ _, Below.refl _ _⟩
  case round =>
    obtain ⟨k, ao, no, co, hk, rfl, rfl, hr, hb⟩ := hrel
    by_cases hlt : k < nb
    · obtain ⟨x, Hx⟩ : ∃ x, Hid (L[k]? = some x) := ⟨L[k]'(by rw [← Hnb.out]; exact hlt), List.getElem?_eq_getElem (by rw [← Hnb.out]; exact hlt)⟩
      obtain ⟨b, off, rfl, hat⟩ := (hrd.below UAt.stays hb).get UAt.plain Hx.out
      have s0 : wr.cell? ⟨b, off + k, none⟩ = some (.int .u64 (x : Int)) := by simpa [UAt] using hat
      have hki : (k : Int) < (nb : Int) := by omega
      have hlk : ((L.take k).flatMap f).length ≤ 200000000000 := by
        have := flat_le (l := L.take k) (f := f) (c := 20) fun a _ => hfl a
        rw [List.length_take] at this
        omega
      obtain ⟨t0, t1, t2, t3, t4⟩ := blk5 ((hb.block _ (by omega)).trans x1)
      have htg := ktag_any W1.heap.size _ _ s.number s.how wr hr hb.size hn1 hn2 hh1 hh2 (by omega)
      clear hat
      go_wp2_with fail
      refine htg.mono ?_
      rintro e w2 ⟨v2, rfl, hr2, hb2⟩
      obtain ⟨a2, n2, c2, rfl, _⟩ := hr2.shape'
      have hB2 : Below W1.heap.size W1 w2 := hb.trans hb2
      obtain ⟨p0, p1, p2, p3, p4⟩ := blk5 ((hB2.block _ (by omega)).trans x1)
      obtain ⟨W3, HW3⟩ : ∃ W3, Hid (W3 = w2.alloc (.cells #[.int .u64 (x : Int)] 66)) := ⟨_, rfl⟩
      have hb3 : Below w2.heap.size w2 W3 := by rw [HW3.out]; exact (Below.refl _ _).alloc (Nat.le_refl _) _
      have hpk := packed_any (w := W3) (l := [x]) (by rw [HW3.out]; exact ku1_rd w2 x) (fun n hn => by rw [List.mem_singleton] at hn; subst hn; exact hle _ (List.mem_of_getElem? Hx.out)) (by simp) s.how
      have hlt2 : ((L.take k).flatMap f ++ ktagN s.number s.how).length ≤ 200000000010 := by rw [List.length_append]; have := ktagN_len s.number s.how; omega
      clear htg hr t0 t1 t2 t3 t4
      go_wp2_with fail
      rw [← HW3.out]
      refine hpk.mono ?_
      rintro e w4 ⟨a4, n4, c4, rfl, hr4, hb4⟩
      have hB4 : Below W1.heap.size W1 w4 := KBT (KBT hB2 hb3) hb4
      have hr24 : Row ekY w4 W1.heap.size (.slice a2 n2 c2) ((L.take k).flatMap f ++ ktagN s.number s.how) := (hr2.below hb3).below hb4
      obtain ⟨q1, q2, q3⟩ := ksrcY hr4.rdY
      have hp1 := packed1_len s.how x
      clear hpk hr2
      go_wp2_with (at_builtin; refine wpList_appG (by rfl) ekY _ _ (by rfl) W1.heap.size (.slice a2 n2 c2) _ (packedN s.how [x]) (by rfl) hr24 a4 n4 c4 (by rfl) q1 q2 q3 (by decide) ?d2 hB4.size ?_)
      case d2 =>
        rw [show ekY.bytes = 1 from rfl, Nat.mul_one]
        omega
      intro v' w5 hr5 hg5
      obtain ⟨a5, n5, c5, rfl, _⟩ := hr5.shape'
      have hB5 : Below W1.heap.size W1 w5 := hB4.grown hg5 hB4.size (fun k hk => (hr24.own k hk).1)
      have hr5' : Row ekY w5 W1.heap.size (.slice a5 n5 c5) ((L.take (k + 1)).flatMap f) := by
        rw [flat_snoc Hx.out]
        have e : f x = ktagN s.number s.how ++ packedN s.how [x] := by rw [Hf.out]
        rw [e]
        exact hr5
      clear hr5
      go_wp2_with fail
      go_roundg (nb - (k + 1))
      case measure => omega
      case rel => exact ⟨k + 1, a5, n5, c5, by omega, by go_num, rfl, hr5', hB5⟩
    · have hr1 : Row ekY wr W1.heap.size (.slice ao no co) (singleN s l) := by
        rw [List.take_of_length_le (by rw [← Hnb.out]; omega)] at hr; rw [HS.out]; exact hr
      clear hr
      go_wp2
      go_ret
      exact ⟨ao, no, co, rfl, hr1.mono (by omega), KBT hbw1 (by exact hb)⟩

end L
end Go.Proofs.YthgbiflfinddiaaGreat
