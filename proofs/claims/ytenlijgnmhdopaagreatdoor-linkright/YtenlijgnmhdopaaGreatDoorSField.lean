/- The contracts of field, item. -/
import Derived.Test.YtenlijgnmhdopaaGreatDoorSType
namespace Go.Proofs.YtenlijgnmhdopaaGreatDoor
open Go.RowKit

theorem Kp.setNew {b : Nat} {x w : World} (h : Kp b x w) {F : Nat} (hF : x.heap.size ≤ F) (i : Nat) (v : Value) : Kp b x (w.setCell ⟨F, i, none⟩ v) :=
  ⟨h.os, h.tape, h.output, by have := h.size; simpa [World.setCell] using this, fun k hk hb => (Below.heap_setCell _ _ _ _ (by show k ≠ F; omega)).trans (h.block k hk hb)⟩
theorem Kp.alloc {b : Nat} {x w : World} (h : Kp b x w) (o : Obj) : Kp b x (w.alloc o) :=
  h.trans (Kp.of_below ((Below.refl _ _).alloc (Nat.le_refl _) _))
theorem St.other {w : World} {b : Nat} {txt r : List UInt8} {m e : Value} (h : St w b txt r m e) {F : Nat} (hF : b ≠ F) (i : Nat) (v : Value) : St (w.setCell ⟨F, i, none⟩ v) b txt r m e :=
  ⟨h.1, h.2.1, h.2.2.1, by rw [Below.heap_setCell _ _ _ _ hF]; exact h.2.2.2⟩
theorem St.alloc {w : World} {b : Nat} {txt r : List UInt8} {m e : Value} (h : St w b txt r m e) (o : Obj) : St (w.alloc o) b txt r m e := h.kept ((Below.refl _ _).alloc (Nat.le_refl _) _)
theorem blk_kp {w w' : World} {b F : Nat} {o : Obj} (h : w.heap[F]? = some o) (hk : Kp b w w') (hF : F ≠ b) : w'.heap[F]? = some o := by
  rw [hk.block F (Array.getElem?_eq_some_iff.1 h).1 hF]; exact h
theorem blk_below {w w' : World} {F : Nat} {o : Obj} (h : w.heap[F]? = some o) (hk : Below w.heap.size w w') : w'.heap[F]? = some o := by
  rw [hk.block F (Array.getElem?_eq_some_iff.1 h).1]; exact h
theorem fr_of_blk {w : World} {g : Nat} {cs : Array Value} {t : TypeId} (h : w.heap[g]? = some (.cells cs t (0, 0))) (i : Nat) : w.frozen? ⟨g, i, none⟩ = false := by
  simp [World.frozen?, h]

theorem alloc2_new (w : World) (o o' : Obj) : ((w.alloc o).alloc o').heap[w.heap.size + 1]? = some o' := by
  have := heap_alloc_new (w.alloc o) o'
  rwa [show (w.alloc o).heap.size = w.heap.size + 1 by simp] at this
theorem alloc2_old (w : World) (o o' : Obj) : ((w.alloc o).alloc o').heap[w.heap.size]? = some o := by
  rw [Below.heap_alloc _ _ _ (by simp)]; exact heap_alloc_new w o

theorem blk6 {w : World} {g : Nat} {a0 a1 a2 a3 a4 a5 : Value} {t : TypeId} (h : w.heap[g]? = some (.cells #[a0, a1, a2, a3, a4, a5] t (0, 0))) :
    w.cell? ⟨g, 0, none⟩ = some a0 ∧ w.cell? ⟨g, 1, none⟩ = some a1 ∧ w.cell? ⟨g, 2, none⟩ = some a2 ∧ w.cell? ⟨g, 3, none⟩ = some a3 ∧ w.cell? ⟨g, 4, none⟩ = some a4 ∧ w.cell? ⟨g, 5, none⟩ = some a5 :=
  ⟨cell_of_blk h 0 _ rfl, cell_of_blk h 1 _ rfl, cell_of_blk h 2 _ rfl, cell_of_blk h 3 _ rfl, cell_of_blk h 4 _ rfl, cell_of_blk h 5 _ rfl⟩

set_option maxHeartbeats 2000000 in
set_option maxRecDepth 100000 in
theorem field_any {B b : Nat} {txt r : List UInt8} {m e : Value} {w : World} (h : St w b txt r m e) (hg : Gl B w) (hB : B ≤ b) (many : Bool) (ch : Nat) :
    Calls Tryz.prog 90 #[.pointer (some ⟨b, 0, none⟩), .bool many, .int .i64 (ch : Int)] w (Post b txt m e w (fun f v _ => v = .agg (encFld f).toArray) (fieldL many ch r)) := by
  have hbw := h.lt
  go_enter Tryz.func90, Tryz.ntmps90
  go_wp2_with fail
  refine (name_any ((h.alloc _).alloc _)).mono ?_
  rintro en w1 ⟨hk1, hx⟩
  have hF : w1.heap[w.heap.size + 1]? = some (.cells #[.string ⟨#[]⟩, .int .i64 0, .int .i64 0, .string ⟨#[]⟩, .bool many, .int .i64 (ch : Int)] 39 (0, 0)) := by
    exact blk_kp (alloc2_new _ _ _) hk1 (by omega)
  have hR : w1.heap[w.heap.size]? = some (.cells #[.string ⟨#[]⟩, .int .i64 0, .int .i64 0, .string ⟨#[]⟩, .bool false, .int .i64 0] 39 (0, 0)) := by
    exact blk_kp (alloc2_old _ _ _) hk1 (by omega)
  have hkw : Kp b w w1 := (((Kp.refl b w).alloc _).alloc _).trans hk1
  have hg1 : Gl B w1 := hg.kp hB hbw hkw
  have hg0 := hg
  clear hk1 hg
  cases hn : nameL r with
  | error E =>
    rw [hn] at hx
    match E, hx with
    | none, hx => exact hx.elim
    | some (c, t), hx =>
      obtain ⟨ht, rfl⟩ := hx
      have HX : Hid (fieldL many ch r = .error (some (c, t))) := by show _ = _; rw [fieldL, hn]; rfl
      clear hn
      go_wp2
      exact ⟨rfl, post_err hkw HX.out ht⟩
  | ok p =>
    obtain ⟨ty, u1⟩ := p
    rw [hn] at hx
    obtain ⟨hs1, _, rfl, rfl⟩ := hx
    have HX : Hid (fieldL many ch r = R.thn (nameL u1) fun nm u => R.thn (mustL 61 u) fun _ u => R.thn (numL mostN u) fun n u => R.thn (mustL 59 u) fun _ u => .ok (⟨nm, n, (typeL ty).1, (typeL ty).2, many, ch⟩, u)) := by
      show _ = _; rw [fieldL, hn]; rfl
    clear hn
    go_wp2_with fail
    refine (typeOf_any ty w1).mono ?_
    rintro en w2 ⟨rfl, hb2⟩
    have hs2 := hs1.kept hb2
    have hF2 := blk_below hF hb2
    have hR2 := blk_below hR hb2
    obtain ⟨c0, c1, c2, c3, c4, c5⟩ := blk6 hF2
    have f2 := fr_of_blk hF2 2
    have f3 := fr_of_blk hF2 3
    have hkw2 := hkw.trans (Kp.of_below (b := b) hb2)
    clear hF hR hkw hb2
    have hF3 := heap_setCell_same _ _ 3 _ _ (.string (S (typeL ty).2)) (heap_setCell_same _ _ 2 _ _ (.int .i64 ((typeL ty).1 : Int)) hF2)
    have hR3 := ((heap_setCell_other (w2.setCell ⟨w.heap.size + 1, 2, none⟩ (.int .i64 ((typeL ty).1 : Int))) ⟨w.heap.size + 1, 3, none⟩ w.heap.size (.string (S (typeL ty).2)) (by simp)).trans (heap_setCell_other w2 ⟨w.heap.size + 1, 2, none⟩ w.heap.size (.int .i64 ((typeL ty).1 : Int)) (by simp))).trans hR2
    have hs3 := (hs2.other (F := w.heap.size + 1) (by omega) 2 (.int .i64 ((typeL ty).1 : Int))).other (F := w.heap.size + 1) (by omega) 3 (.string (S (typeL ty).2))
    have hk3 := (hkw2.setNew (F := w.heap.size + 1) (by omega) 2 (.int .i64 ((typeL ty).1 : Int))).setNew (F := w.heap.size + 1) (by omega) 3 (.string (S (typeL ty).2))
    clear hkw2 hs2 hF2 hR2
    go_wp2_with fail
    clear c0 c1 c2 c3 c4 c5 f2 f3
    generalize (w2.setCell ⟨w.heap.size + 1, 2, none⟩ (.int .i64 ((typeL ty).1 : Int))).setCell ⟨w.heap.size + 1, 3, none⟩ (.string (S (typeL ty).2)) = W3 at *
    refine (name_any hs3).mono ?_
    rintro en w4 ⟨hk4, hx⟩
    have hF4 := blk_kp hF3 hk4 (by omega)
    have hR4 := blk_kp hR3 hk4 (by omega)
    have hkw := hk3.trans hk4
    clear hF3 hR3 hs3 hk3 hk4
    cases hn : nameL u1 with
    | error E =>
      rw [hn] at hx
      match E, hx with
      | none, hx => exact hx.elim
      | some (c, t), hx =>
        obtain ⟨ht, rfl⟩ := hx
        have HY : Hid (fieldL many ch r = .error (some (c, t))) := by show _ = _; rw [HX.out, hn]; rfl
        clear hn HX
        go_wp2
        exact ⟨rfl, post_err hkw HY.out ht⟩
    | ok p =>
      obtain ⟨nm, u2⟩ := p
      rw [hn] at hx
      obtain ⟨hs4, _, rfl, rfl⟩ := hx
      have HX2 : Hid (fieldL many ch r = R.thn (mustL 61 u2) fun _ u => R.thn (numL mostN u) fun n u => R.thn (mustL 59 u) fun _ u => .ok (⟨nm, n, (typeL ty).1, (typeL ty).2, many, ch⟩, u)) := by show _ = _; rw [HX.out, hn]; rfl
      clear hn HX
      obtain ⟨c0, c1, c2, c3, c4, c5⟩ := blk6 (a0 := .string ⟨#[]⟩) (a1 := .int .i64 0) (a2 := .int .i64 ((typeL ty).1 : Int)) (a3 := .string (S (typeL ty).2)) (a4 := .bool many) (a5 := .int .i64 (ch : Int)) hF4
      have f0 := fr_of_blk hF4 0
      have hF5 := heap_setCell_same _ _ 0 _ _ (.string (S nm)) hF4
      have hR5 := (heap_setCell_other w4 ⟨w.heap.size + 1, 0, none⟩ w.heap.size (.string (S nm)) (by simp)).trans hR4
      have hs5 := hs4.other (F := w.heap.size + 1) (by omega) 0 (.string (S nm))
      have hk5 := hkw.setNew (F := w.heap.size + 1) (by omega) 0 (.string (S nm))
      clear hkw hs4 hF4 hR4
      go_wp2_with fail
      clear c0 c1 c2 c3 c4 c5 f0
      generalize w4.setCell ⟨w.heap.size + 1, 0, none⟩ (.string (S nm)) = W5 at *
      refine (must_any hs5 61).mono ?_
      rintro en w6 ⟨hk6, hx⟩
      have hF6 := blk_kp hF5 hk6 (by omega)
      have hR6 := blk_kp hR5 hk6 (by omega)
      have hkw := hk5.trans hk6
      clear hF5 hR5 hs5 hk5 hk6
      cases hn : mustL 61 u2 with
      | error E =>
        rw [hn] at hx
        match E, hx with
        | none, hx => exact hx.elim
        | some (c, t), hx =>
          obtain ⟨ht, rfl⟩ := hx
          have HY : Hid (fieldL many ch r = .error (some (c, t))) := by show _ = _; rw [HX2.out, hn]; rfl
          clear hn HX2
          go_wp2
          exact ⟨rfl, post_err hkw HY.out ht⟩
      | ok p =>
        obtain ⟨_, u3⟩ := p
        rw [hn] at hx
        obtain ⟨hs6, _, rfl, rfl⟩ := hx
        have HX3 : Hid (fieldL many ch r = R.thn (numL mostN u3) fun n u => R.thn (mustL 59 u) fun _ u => .ok (⟨nm, n, (typeL ty).1, (typeL ty).2, many, ch⟩, u)) := by show _ = _; rw [HX2.out, hn]; rfl
        clear hn HX2
        have hg6 : Gl B w6 := hg0.kp hB hbw hkw
        go_wp2_with fail
        refine (number_any hs6 hg6 hB mostN (by decide)).mono ?_
        rintro en w7 ⟨hk7, hx⟩
        have hF7 := blk_kp hF6 hk7 (by omega)
        have hR7 := blk_kp hR6 hk7 (by omega)
        replace hkw := hkw.trans hk7
        clear hF6 hR6 hs6 hk7
        cases hn : numL mostN u3 with
        | error E =>
          rw [hn] at hx
          match E, hx with
          | none, hx => exact hx.elim
          | some (c, t), hx =>
            obtain ⟨ht, rfl⟩ := hx
            have HY : Hid (fieldL many ch r = .error (some (c, t))) := by show _ = _; rw [HX3.out, hn]; rfl
            clear hn HX3
            go_wp2
            exact ⟨rfl, post_err hkw HY.out ht⟩
        | ok p =>
          obtain ⟨n, u4⟩ := p
          rw [hn] at hx
          obtain ⟨hs7, _, rfl, rfl, hn7⟩ := hx
          have HX4 : Hid (fieldL many ch r = R.thn (mustL 59 u4) fun _ u => .ok (⟨nm, n, (typeL ty).1, (typeL ty).2, many, ch⟩, u)) := by show _ = _; rw [HX3.out, hn]; rfl
          clear hn HX3
          obtain ⟨c0, c1, c2, c3, c4, c5⟩ := blk6 (a0 := .string (S nm)) (a1 := .int .i64 0) (a2 := .int .i64 ((typeL ty).1 : Int)) (a3 := .string (S (typeL ty).2)) (a4 := .bool many) (a5 := .int .i64 (ch : Int)) hF7
          have f1 := fr_of_blk hF7 1
          have hF8 := heap_setCell_same _ _ 1 _ _ (.int .i64 (n : Int)) hF7
          have hR8 := (heap_setCell_other w7 ⟨w.heap.size + 1, 1, none⟩ w.heap.size (.int .i64 (n : Int)) (by simp)).trans hR7
          have hs8 := hs7.other (F := w.heap.size + 1) (by omega) 1 (.int .i64 (n : Int))
          have hk8 := hkw.setNew (F := w.heap.size + 1) (by omega) 1 (.int .i64 (n : Int))
          clear hkw hs7 hF7 hR7
          go_wp2_with fail
          clear c0 c1 c2 c3 c4 c5 f1
          generalize w7.setCell ⟨w.heap.size + 1, 1, none⟩ (.int .i64 (n : Int)) = W8 at *
          refine (must_any hs8 59).mono ?_
          rintro en w9 ⟨hk9, hx⟩
          have hF9 := blk_kp hF8 hk9 (by omega)
          have hR9 := blk_kp hR8 hk9 (by omega)
          have hkw := hk8.trans hk9
          clear hF8 hR8 hs8 hk8 hk9
          cases hn : mustL 59 u4 with
          | error E =>
            rw [hn] at hx
            match E, hx with
            | none, hx => exact hx.elim
            | some (c, t), hx =>
              obtain ⟨ht, rfl⟩ := hx
              have HY : Hid (fieldL many ch r = .error (some (c, t))) := by show _ = _; rw [HX4.out, hn]; rfl
              clear hn HX4
              go_wp2
              exact ⟨rfl, post_err hkw HY.out ht⟩
          | ok p =>
            obtain ⟨_, u5⟩ := p
            rw [hn] at hx
            obtain ⟨hs9, _, rfl, rfl⟩ := hx
            have HX5 : Hid (fieldL many ch r = .ok (⟨nm, n, (typeL ty).1, (typeL ty).2, many, ch⟩, u5)) := by show _ = _; rw [HX4.out, hn]; rfl
            clear hn HX4
            obtain ⟨c0, c1, c2, c3, c4, c5⟩ := blk6 (a0 := .string (S nm)) (a1 := .int .i64 (n : Int)) (a2 := .int .i64 ((typeL ty).1 : Int)) (a3 := .string (S (typeL ty).2)) (a4 := .bool many) (a5 := .int .i64 (ch : Int)) hF9
            obtain ⟨d0, d1, d2, d3, d4, d5⟩ := blk6 hR9
            have g0 := fr_of_blk hR9 0
            have g1 := fr_of_blk hR9 1
            have g2 := fr_of_blk hR9 2
            have g3 := fr_of_blk hR9 3
            have g4 := fr_of_blk hR9 4
            have g5 := fr_of_blk hR9 5
            clear hF9 hR9
            go_wp2
            refine bodyPost_ret (v := .agg (encFld ⟨nm, n, (typeL ty).1, (typeL ty).2, many, ch⟩).toArray) (by simp [results, Tryz.results90, go_sem, encFld, *]) rfl ?_
            refine post_ok ?_ HX5.out ?_ rfl
            · exact (((((hkw.setNew (by omega) _ _).setNew (by omega) _ _).setNew (by omega) _ _).setNew (by omega) _ _).setNew (by omega) _ _).setNew (by omega) _ _
            · exact (((((hs9.other (by omega) _ _).other (by omega) _ _).other (by omega) _ _).other (by omega) _ _).other (by omega) _ _).other (by omega) _ _

end Go.Proofs.YtenlijgnmhdopaaGreatDoor
