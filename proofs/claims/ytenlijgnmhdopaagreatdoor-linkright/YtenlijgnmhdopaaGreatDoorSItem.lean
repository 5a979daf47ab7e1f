/- The contract of item. -/
import Derived.Test.YtenlijgnmhdopaaGreatDoorSField
namespace Go.Proofs.YtenlijgnmhdopaaGreatDoor
open Go.RowKit

theorem blk2 {w : World} {g : Nat} {a0 a1 : Value} {t : TypeId} (h : w.heap[g]? = some (.cells #[a0, a1] t (0, 0))) :
    w.cell? ⟨g, 0, none⟩ = some a0 ∧ w.cell? ⟨g, 1, none⟩ = some a1 := ⟨cell_of_blk h 0 _ rfl, cell_of_blk h 1 _ rfl⟩

set_option maxHeartbeats 2000000 in
set_option maxRecDepth 100000 in
theorem item_any {B b : Nat} {txt r : List UInt8} {m e : Value} {w : World} (h : St w b txt r m e) (hg : Gl B w) (hB : B ≤ b) :
    Calls Tryz.prog 91 #[.pointer (some ⟨b, 0, none⟩)] w (Post b txt m e w (fun f v _ => v = .agg (encItm f).toArray) (itemL r)) := by
  have hbw := h.lt
  have hg0 := hg
  clear hg
  have HX : Hid (itemL r = R.thn (nameL r) fun nm u => R.thn (mustL 61 u) fun _ u => match markL 45 u with
    | (true, t) => R.thn (numL 2147483648 t) fun n u => R.thn (mustL 59 u) fun _ u => .ok (⟨nm, -(n : Int)⟩, u)
    | (false, t) => R.thn (numL 2147483647 t) fun n u => R.thn (mustL 59 u) fun _ u => .ok (⟨nm, (n : Int)⟩, u)) := rfl
  go_enter Tryz.func91, Tryz.ntmps91
  go_wp2_with fail
  refine (name_any (h.alloc _)).mono ?_
  rintro en w1 ⟨hk1, hx⟩
  have hR : w1.heap[w.heap.size]? = some (.cells #[.string ⟨#[]⟩, .int .i64 0] 52 (0, 0)) := blk_kp (heap_alloc_new w _) hk1 (by omega)
  have hz1 : w.heap.size + 1 ≤ w1.heap.size := by have := hk1.size; simpa using this
  have hkw : Kp b w w1 := ((Kp.refl b w).alloc _).trans hk1
  clear hk1
  cases hn : nameL r with
  | error E =>
    rw [hn] at hx
    match E, hx with
    | none, hx => exact hx.elim
    | some (c, t), hx =>
      obtain ⟨ht, rfl⟩ := hx
      have HY : Hid (itemL r = .error (some (c, t))) := by show _ = _; rw [HX.out, hn]; rfl
      clear hn HX
      go_wp2
      exact ⟨rfl, post_err hkw HY.out ht⟩
  | ok p =>
    obtain ⟨nm, u1⟩ := p
    rw [hn] at hx
    obtain ⟨hs1, _, rfl, rfl⟩ := hx
    have HX2 : Hid (itemL r = R.thn (mustL 61 u1) fun _ u => match markL 45 u with
      | (true, t) => R.thn (numL 2147483648 t) fun n u => R.thn (mustL 59 u) fun _ u => .ok (⟨nm, -(n : Int)⟩, u)
      | (false, t) => R.thn (numL 2147483647 t) fun n u => R.thn (mustL 59 u) fun _ u => .ok (⟨nm, (n : Int)⟩, u)) := by show _ = _; rw [HX.out, hn]; rfl
    clear hn HX
    have hF2 := heap_alloc_new w1 (.cells #[.string (S nm), .int .i64 0] 52)
    have hR2 := (Below.heap_alloc w1 (.cells #[.string (S nm), .int .i64 0] 52) w.heap.size (by omega)).trans hR
    have hs2 := hs1.alloc (.cells #[.string (S nm), .int .i64 0] 52)
    have hk2 := hkw.alloc (.cells #[.string (S nm), .int .i64 0] 52)
    clear hkw hR hs1
    go_wp2_with fail
    generalize w1.alloc (.cells #[.string (S nm), .int .i64 0] 52) = W2 at *
    obtain ⟨F, HFF⟩ : ∃ F, Hid (F = w1.heap.size) := ⟨_, rfl⟩
    have hFz : w.heap.size + 1 ≤ F := by rw [HFF.out]; exact hz1
    rw [← HFF.out] at hF2 ⊢
    refine (must_any hs2 61).mono ?_
    rintro en w3 ⟨hk3, hx⟩
    have hF3 := blk_kp hF2 hk3 (by omega)
    have hR3 := blk_kp hR2 hk3 (by omega)
    have hkw := hk2.trans hk3
    clear hF2 hR2 hs2 hk2 hk3
    cases hn : mustL 61 u1 with
    | error E =>
      rw [hn] at hx
      match E, hx with
      | none, hx => exact hx.elim
      | some (c, t), hx =>
        obtain ⟨ht, rfl⟩ := hx
        have HY : Hid (itemL r = .error (some (c, t))) := by show _ = _; rw [HX2.out, hn]; rfl
        clear hn HX2
        go_wp2
        exact ⟨rfl, post_err hkw HY.out ht⟩
    | ok p =>
      obtain ⟨_, u2⟩ := p
      rw [hn] at hx
      obtain ⟨hs3, _, rfl, rfl⟩ := hx
      have HX2b : Hid (itemL r = match markL 45 u2 with
        | (true, t) => R.thn (numL 2147483648 t) fun n u => R.thn (mustL 59 u) fun _ u => .ok (⟨nm, -(n : Int)⟩, u)
        | (false, t) => R.thn (numL 2147483647 t) fun n u => R.thn (mustL 59 u) fun _ u => .ok (⟨nm, (n : Int)⟩, u)) := by show _ = _; rw [HX2.out, hn]; rfl
      clear hn HX2
      go_wp2_with fail
      refine (mark_any hs3 45).mono ?_
      rintro en w6 ⟨rfl, hs6, hk6⟩
      have hF6 := blk_kp hF3 hk6 (by omega)
      have hR6 := blk_kp hR3 hk6 (by omega)
      replace hkw := hkw.trans hk6
      clear hF3 hR3 hs3 hk6
      generalize hq : markL 45 u2 = q at hs6 ⊢
      obtain ⟨ok, u3⟩ := q
      cases ok with
      | true =>
        have HX3 : Hid (itemL r = R.thn (numL 2147483648 u3) fun n u => R.thn (mustL 59 u) fun _ u => .ok (⟨nm, -(n : Int)⟩, u)) := by show _ = _; rw [HX2b.out, hq]
        clear hq HX2b
        have hg6 : Gl B w6 := hg0.kp hB hbw hkw
        go_wp2_with fail
        refine (number_any hs6 hg6 hB 2147483648 (by decide)).mono ?_
        rintro en w7 ⟨hk7, hx⟩
        have hF7 := blk_kp hF6 hk7 (by omega)
        have hR7 := blk_kp hR6 hk7 (by omega)
        replace hkw := hkw.trans hk7
        clear hF6 hR6 hs6 hk7
        cases hn : numL 2147483648 u3 with
        | error E =>
          rw [hn] at hx
          match E, hx with
          | none, hx => exact hx.elim
          | some (c, t), hx =>
            obtain ⟨ht, rfl⟩ := hx
            have HY : Hid (itemL r = .error (some (c, t))) := by show _ = _; rw [HX3.out, hn]; rfl
            clear hn HX3
            go_wp2
            exact ⟨rfl, post_err hkw HY.out ht⟩
        | ok p =>
          obtain ⟨n, u4⟩ := p
          rw [hn] at hx
          obtain ⟨hs7, _, rfl, rfl, hn7⟩ := hx
          have HX4 : Hid (itemL r = R.thn (mustL 59 u4) fun _ u => .ok (⟨nm, (-(n : Int))⟩, u)) := by show _ = _; rw [HX3.out, hn]; rfl
          clear hn HX3
          obtain ⟨c0, c1⟩ := blk2 (a0 := .string (S nm)) (a1 := .int .i64 0) hF7
          have f1 := fr_of_blk hF7 1
          have hF8 := heap_setCell_same _ _ 1 _ _ (.int .i64 (-(n : Int))) hF7
          have hR8 := (heap_setCell_other w7 ⟨F, 1, none⟩ w.heap.size (.int .i64 (-(n : Int))) (by simp; omega)).trans hR7
          have hs8 := hs7.other (F := F) (by omega) 1 (.int .i64 (-(n : Int)))
          have hk8 := hkw.setNew (F := F) (by omega) 1 (.int .i64 (-(n : Int)))
          clear hkw hs7 hF7 hR7
          go_wp2_with fail
          clear c0 c1 f1
          generalize w7.setCell ⟨F, 1, none⟩ (.int .i64 (-(n : Int))) = W8 at *
          refine (must_any hs8 59).mono ?_
          rintro en w9 ⟨hk9, hx⟩
          have hF9 := blk_kp hF8 hk9 (by omega)
          have hR9 := blk_kp hR8 hk9 (by omega)
          have hkw := hk8.trans hk9
          clear hF8 hR8 hs8 hk8 hk9
          cases hn : mustL 59 u4 with
          | error E =>
            rw [hn] at hx
            match E, hx with
            | none, hx => exact hx.elim
            | some (c, t), hx =>
              obtain ⟨ht, rfl⟩ := hx
              have HY : Hid (itemL r = .error (some (c, t))) := by show _ = _; rw [HX4.out, hn]; rfl
              clear hn HX4
              go_wp2
              exact ⟨rfl, post_err hkw HY.out ht⟩
          | ok p =>
            obtain ⟨_, u5⟩ := p
            rw [hn] at hx
            obtain ⟨hs9, _, rfl, rfl⟩ := hx
            have HX5 : Hid (itemL r = .ok (⟨nm, (-(n : Int))⟩, u5)) := by show _ = _; rw [HX4.out, hn]; rfl
            clear hn HX4
            obtain ⟨c0, c1⟩ := blk2 (a0 := .string (S nm)) (a1 := .int .i64 (-(n : Int))) hF9
            obtain ⟨d0, d1⟩ := blk2 hR9
            have g0 := fr_of_blk hR9 0
            have g1 := fr_of_blk hR9 1
            clear hF9 hR9
            go_wp2
            refine bodyPost_ret (v := .agg (encItm ⟨nm, (-(n : Int))⟩).toArray) (by simp [results, Tryz.results91, go_sem, encItm, *]) rfl ?_
            refine post_ok ?_ HX5.out ?_ rfl
            · exact (hkw.setNew (by omega) _ _).setNew (by omega) _ _
            · exact (hs9.other (by omega) _ _).other (by omega) _ _

      | false =>
        have HX3 : Hid (itemL r = R.thn (numL 2147483647 u3) fun n u => R.thn (mustL 59 u) fun _ u => .ok (⟨nm, (n : Int)⟩, u)) := by show _ = _; rw [HX2b.out, hq]
        clear hq HX2b
        have hg6 : Gl B w6 := hg0.kp hB hbw hkw
        go_wp2_with fail
        refine (number_any hs6 hg6 hB 2147483647 (by decide)).mono ?_
        rintro en w7 ⟨hk7, hx⟩
        have hF7 := blk_kp hF6 hk7 (by omega)
        have hR7 := blk_kp hR6 hk7 (by omega)
        replace hkw := hkw.trans hk7
        clear hF6 hR6 hs6 hk7
        cases hn : numL 2147483647 u3 with
        | error E =>
          rw [hn] at hx
          match E, hx with
          | none, hx => exact hx.elim
          | some (c, t), hx =>
            obtain ⟨ht, rfl⟩ := hx
            have HY : Hid (itemL r = .error (some (c, t))) := by show _ = _; rw [HX3.out, hn]; rfl
            clear hn HX3
            go_wp2
            exact ⟨rfl, post_err hkw HY.out ht⟩
        | ok p =>
          obtain ⟨n, u4⟩ := p
          rw [hn] at hx
          obtain ⟨hs7, _, rfl, rfl, hn7⟩ := hx
          have HX4 : Hid (itemL r = R.thn (mustL 59 u4) fun _ u => .ok (⟨nm, (n : Int)⟩, u)) := by show _ = _; rw [HX3.out, hn]; rfl
          clear hn HX3
          obtain ⟨c0, c1⟩ := blk2 (a0 := .string (S nm)) (a1 := .int .i64 0) hF7
          have f1 := fr_of_blk hF7 1
          have hF8 := heap_setCell_same _ _ 1 _ _ (.int .i64 (n : Int)) hF7
          have hR8 := (heap_setCell_other w7 ⟨F, 1, none⟩ w.heap.size (.int .i64 (n : Int)) (by simp; omega)).trans hR7
          have hs8 := hs7.other (F := F) (by omega) 1 (.int .i64 (n : Int))
          have hk8 := hkw.setNew (F := F) (by omega) 1 (.int .i64 (n : Int))
          clear hkw hs7 hF7 hR7
          go_wp2_with fail
          clear c0 c1 f1
          generalize w7.setCell ⟨F, 1, none⟩ (.int .i64 (n : Int)) = W8 at *
          refine (must_any hs8 59).mono ?_
          rintro en w9 ⟨hk9, hx⟩
          have hF9 := blk_kp hF8 hk9 (by omega)
          have hR9 := blk_kp hR8 hk9 (by omega)
          have hkw := hk8.trans hk9
          clear hF8 hR8 hs8 hk8 hk9
          cases hn : mustL 59 u4 with
          | error E =>
            rw [hn] at hx
            match E, hx with
            | none, hx => exact hx.elim
            | some (c, t), hx =>
              obtain ⟨ht, rfl⟩ := hx
              have HY : Hid (itemL r = .error (some (c, t))) := by show _ = _; rw [HX4.out, hn]; rfl
              clear hn HX4
              go_wp2
              exact ⟨rfl, post_err hkw HY.out ht⟩
          | ok p =>
            obtain ⟨_, u5⟩ := p
            rw [hn] at hx
            obtain ⟨hs9, _, rfl, rfl⟩ := hx
            have HX5 : Hid (itemL r = .ok (⟨nm, (n : Int)⟩, u5)) := by show _ = _; rw [HX4.out, hn]; rfl
            clear hn HX4
            obtain ⟨c0, c1⟩ := blk2 (a0 := .string (S nm)) (a1 := .int .i64 (n : Int)) hF9
            obtain ⟨d0, d1⟩ := blk2 hR9
            have g0 := fr_of_blk hR9 0
            have g1 := fr_of_blk hR9 1
            clear hF9 hR9
            go_wp2
            refine bodyPost_ret (v := .agg (encItm ⟨nm, (n : Int)⟩).toArray) (by simp [results, Tryz.results91, go_sem, encItm, *]) rfl ?_
            refine post_ok ?_ HX5.out ?_ rfl
            · exact (hkw.setNew (by omega) _ _).setNew (by omega) _ _
            · exact (hs9.other (by omega) _ _).other (by omega) _ _

end Go.Proofs.YtenlijgnmhdopaaGreatDoor
