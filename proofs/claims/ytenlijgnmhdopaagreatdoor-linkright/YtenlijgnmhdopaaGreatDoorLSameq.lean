import Derived.Test.YtenlijgnmhdopaaGreatDoorLKindsq
import Derived.Laws.StructEq
import Derived.BigQuiet
import Derived.Deep.QuietTactic
import Derived.Deep.CutRange
/- The document's own answer: the contract of SameFile at two files that are the same, whoever made them. -/
namespace Go.Proofs.YtenlijgnmhdopaaGreatDoor
namespace L
open Go.RowKit

theorem fields_fld : Tryz.prog.underlying 39 = some (.struct (Tryz.prog.fieldsOf 39)) := by kernel_rfl
theorem held_fld : Tryz.prog.stoodInHeld 39 = false := by kernel_rfl
theorem fields_itm : Tryz.prog.underlying 52 = some (.struct (Tryz.prog.fieldsOf 52)) := by kernel_rfl
theorem held_itm : Tryz.prog.stoodInHeld 52 = false := by kernel_rfl
set_option maxHeartbeats 1000000 in
theorem neq_fld (f : FI) (w : World) : (binOp .neq 39 (.agg #[.string (S f.name), .int .i64 f.number, .int .i64 f.kind, .string (S f.type), .bool f.many, .int .i64 f.choice]) (.agg #[.string (S f.name), .int .i64 f.number, .int .i64 f.kind, .string (S f.type), .bool f.many, .int .i64 f.choice])).run Tryz.prog w = .ok (.bool false) w := by
  have u1 := Tryz.underlying3; have a1 := Tryz.isAgg3; have z1 := Tryz.sizeOf3
  have u2 := Tryz.underlying9; have a2 := Tryz.isAgg9; have z2 := Tryz.sizeOf9
  have u3 := Tryz.underlying4; have a3 := Tryz.isAgg4; have z3 := Tryz.sizeOf4
  rw [run_neq_struct, show (10000 : Nat) = 9999 + 1 from rfl, run_equalIn_agg w 9999 39 _ _ fields_fld held_fld]
  simp only [Program.fieldsOf, Tryz.underlying39]
  go_simp
set_option maxHeartbeats 1000000 in
theorem neq_itm (f : II) (w : World) : (binOp .neq 52 (.agg #[.string (S f.name), .int .i64 f.value]) (.agg #[.string (S f.name), .int .i64 f.value])).run Tryz.prog w = .ok (.bool false) w := by
  have u1 := Tryz.underlying3; have a1 := Tryz.isAgg3; have z1 := Tryz.sizeOf3
  have u2 := Tryz.underlying9; have a2 := Tryz.isAgg9; have z2 := Tryz.sizeOf9
  rw [run_neq_struct, show (10000 : Nat) = 9999 + 1 from rfl, run_equalIn_agg w 9999 52 _ _ fields_itm held_itm]
  simp only [Program.fieldsOf, Tryz.underlying52]
  go_simp
theorem below_drewN (B : Nat) (w : World) {n : Nat} : Below B w (w.drewN n) := ⟨rfl, rfl, rfl, Nat.le_refl _, fun _ _ => rfl⟩

set_option maxHeartbeats 4000000 in
set_option maxRecDepth 100000 in
theorem rsame_any {w : World} {vm1 ve1 vm2 ve2 : Value} {g : GI} (h1 : GRd w vm1 ve1 g) (h2 : GRd w vm2 ve2 g) :
    Calls Tryz.prog 7 #[.agg #[vm1, ve1], .agg #[vm2, ve2]] w fun e w' => e = .returned (.bool true) ∧ Below w.heap.size w w' := by
  obtain ⟨am1, n, cm1, rfl, Hn1, hnm⟩ := h1.1.shape
  obtain ⟨am2, n', cm2, rfl, Hn2, _⟩ := h2.1.shape
  obtain ⟨ae1, ne, ce1, rfl, He1, hnem⟩ := h1.2.shape
  obtain ⟨ae2, ne', ce2, rfl, He2, _⟩ := h2.2.shape
  obtain rfl : n = n' := by rw [Hn1.out, Hn2.out]
  obtain rfl : ne = ne' := by rw [He1.out, He2.out]
  obtain ⟨W0, HW0⟩ : ∃ W0, Hid (W0 = (w.alloc (.cells #[.slice am1 n cm1, .slice ae1 ne ce1] 25)).alloc (.cells #[.slice am2 n cm2, .slice ae2 ne ce2] 25)) := ⟨_, rfl⟩
  have hB0 : Below w.heap.size w W0 := by rw [HW0.out]; exact ((Below.refl _ _).alloc (Nat.le_refl _) _).alloc (by simp) _
  have hx1 : W0.heap[w.heap.size]? = some (.cells #[.slice am1 n cm1, .slice ae1 ne ce1] 25 (0, 0)) := by rw [HW0.out]; exact alloc2_old _ _ _
  have hx2 : W0.heap[w.heap.size + 1]? = some (.cells #[.slice am2 n cm2, .slice ae2 ne ce2] 25 (0, 0)) := by rw [HW0.out]; exact alloc2_new _ _ _
  have hz0 : w.heap.size + 2 ≤ W0.heap.size := by rw [HW0.out]; simp
  go_enter Tryz.func7, Tryz.ntmps7
  go_wp2_with fail
  rw [← HW0.out]
  go_loopg [33] n (fun m i wr => ∃ k : Nat, k + m = n ∧ i = .int .i64 k ∧ Below (w.heap.size + 2) W0 wr)
  case atStart => exact ⟨0, by omega, rfl, Below.refl _ _⟩
  case round =>
    obtain ⟨k, hk, rfl, hb⟩ := hrel
    obtain ⟨wo, Hwo⟩ : ∃ wo, wo = wr := ⟨_, rfl⟩
    subst Hwo
    have hBw : Below w.heap.size w wo := hB0.trans (hb.mono (by omega))
    have hf1 := h1.below hBw
    have hf2 := h2.below hBw
    have y1 := (hb.block w.heap.size (by omega)).trans hx1
    have y2 := (hb.block (w.heap.size + 1) (by omega)).trans hx2
    obtain ⟨x10, x11⟩ := blk2 y1
    obtain ⟨x20, x21⟩ := blk2 y2
    have hzr : w.heap.size + 2 ≤ wo.heap.size := by have := hb.size; omega
    by_cases hlt : k < n
    · obtain ⟨mm, Hp⟩ : ∃ p, Hid (g.msgs[k]? = some p) := ⟨g.msgs[k]'(by rw [← Hn1.out]; exact hlt), List.getElem?_eq_getElem (by rw [← Hn1.out]; exact hlt)⟩
      obtain ⟨g1, o1, rfl, hat1⟩ := hf1.1.get MAt.plain Hp.out
      obtain ⟨g2, o2, rfl, hat2⟩ := hf2.1.get MAt.plain Hp.out
      obtain ⟨vf1, vb1, e0, e1, e2, r1f, r1b⟩ := hat1.at
      obtain ⟨vf2, vb2, t0, t1, t2, r2f, r2b⟩ := hat2.at
      obtain ⟨af1, nf, cf1, rfl, Hf1, hnf⟩ := r1f.shape
      obtain ⟨af2, nf', cf2, rfl, Hf2, _⟩ := r2f.shape
      obtain ⟨ab1, nb, cb1, rfl, Hb1, hnb⟩ := r1b.shape
      obtain ⟨ab2, nb', cb2, rfl, Hb2, _⟩ := r2b.shape
      obtain rfl : nf = nf' := by rw [Hf1.out, Hf2.out]
      obtain rfl : nb = nb' := by rw [Hb1.out, Hb2.out]
      have hki : (k : Int) < (n : Int) := by omega
      have hsl := S_list mm.name
      have z0 : w.heap.size < wo.heap.size := by omega
      have z1 : w.heap.size + 1 < wo.heap.size := by omega
      have z2 : g2 < wo.heap.size := World.block_lt_of_cell? wo _ t0
      clear hat1 hat2 hf1 hf2 y1 y2
      obtain ⟨W1, HW1⟩ : ∃ W1, Hid (W1 = (wo.alloc (.cells #[.string (S mm.name), .slice af1 nf cf1, .slice ab1 nb cb1] 37)).alloc (.cells #[.string (S mm.name), .slice af2 nf cf2, .slice ab2 nb cb2] 37)) := ⟨_, rfl⟩
      have hB1 : Below wo.heap.size wo W1 := by rw [HW1.out]; exact ((Below.refl _ _).alloc (Nat.le_refl _) _).alloc (by simp) _
      have v1 : W1.heap[wo.heap.size]? = some (.cells #[.string (S mm.name), .slice af1 nf cf1, .slice ab1 nb cb1] 37 (0, 0)) := by rw [HW1.out]; exact alloc2_old _ _ _
      have v2 : W1.heap[wo.heap.size + 1]? = some (.cells #[.string (S mm.name), .slice af2 nf cf2, .slice ab2 nb cb2] 37 (0, 0)) := by rw [HW1.out]; exact alloc2_new _ _ _
      have hz1 : wo.heap.size + 2 ≤ W1.heap.size := by rw [HW1.out]; simp
      go_wp2_with fail
      rw [← HW1.out]
      go_loopg [69] nf (fun m i wi => ∃ j : Nat, j + m = nf ∧ i = .int .i64 j ∧ Below (wo.heap.size + 2) W1 wi)
      case atStart => exact ⟨0, by omega, rfl, Below.refl _ _⟩
      case round =>
        obtain ⟨j, hj, rfl, hbi⟩ := hrel
        have hBi : Below wo.heap.size wo wr := hB1.trans (hbi.mono (by omega))
        have q1 := (hbi.block wo.heap.size (by omega)).trans v1
        have q2 := (hbi.block (wo.heap.size + 1) (by omega)).trans v2
        obtain ⟨_, m11, m12⟩ := blk3 q1
        obtain ⟨_, m21, m22⟩ := blk3 q2
        clear x10 x11 x20 x21 e0 e1 e2 t0 t1 t2
        by_cases hjl : j < nf
        · obtain ⟨f, Hf⟩ : ∃ f, Hid (mm.fields[j]? = some f) := ⟨mm.fields[j]'(by rw [← Hf1.out]; exact hjl), List.getElem?_eq_getElem (by rw [← Hf1.out]; exact hjl)⟩
          obtain ⟨gf1, of1, rfl, u1⟩ := (r1f.below FAt.stays hBi).get FAt.plain Hf.out
          obtain ⟨gf2, of2, rfl, u2⟩ := (r2f.below FAt.stays hBi).get FAt.plain Hf.out
          obtain ⟨s0, s1, s2, s3, s4, s5⟩ := u1.at
          obtain ⟨p0, p1, p2, p3, p4, p5⟩ := u2.at
          have hneq := neq_fld f
          have hji : (j : Int) < (nf : Int) := by omega
          clear u1 u2
          go_wp2_with fail
          go_quiet (fail)
          go_wp2_with fail
          go_roundg (nf - (j + 1))
          case measure => omega
          case rel => exact ⟨j + 1, by omega, by go_num, hbi.trans (below_drewN _ _)⟩
        · go_wp2_with fail
          obtain ⟨wi, Hwi⟩ : ∃ wi, wi = wr := ⟨_, rfl⟩
          subst Hwi
          go_loopg [87] nb (fun m i wj => ∃ j : Nat, j + m = nb ∧ i = .int .i64 j ∧ Below (wo.heap.size + 2) W1 wj)
          case atStart => exact ⟨0, by omega, rfl, hbi⟩
          case round =>
            clear m11 m12 m21 m22 q1 q2 hBi hbi
            obtain ⟨j2, hj2, rfl, hbj⟩ := hrel
            have hBj : Below wo.heap.size wo wr := hB1.trans (hbj.mono (by omega))
            have q1 := (hbj.block wo.heap.size (by omega)).trans v1
            have q2 := (hbj.block (wo.heap.size + 1) (by omega)).trans v2
            obtain ⟨_, m11, m12⟩ := blk3 q1
            obtain ⟨_, m21, m22⟩ := blk3 q2
            by_cases hjl2 : j2 < nb
            · obtain ⟨y, Hy⟩ : ∃ y, Hid (mm.barred[j2]? = some y) := ⟨mm.barred[j2]'(by rw [← Hb1.out]; exact hjl2), List.getElem?_eq_getElem (by rw [← Hb1.out]; exact hjl2)⟩
              obtain ⟨gb1, ob1, rfl, u1⟩ := (r1b.below NAt.stays hBj).get NAt.plain Hy.out
              obtain ⟨gb2, ob2, rfl, u2⟩ := (r2b.below NAt.stays hBj).get NAt.plain Hy.out
              have s0 : wr.cell? ⟨gb1, ob1 + j2 * 1, none⟩ = some (.int .i64 y) := u1
              have p0 : wr.cell? ⟨gb2, ob2 + j2 * 1, none⟩ = some (.int .i64 y) := u2
              rw [Nat.mul_one] at s0 p0
              have hji : (j2 : Int) < (nb : Int) := by omega
              clear u1 u2
              go_wp2_with fail
              go_quiet (fail)
              go_wp2_with fail
              go_roundg (nb - (j2 + 1))
              case measure => omega
              case rel => exact ⟨j2 + 1, by omega, by go_num, hbj.trans (below_drewN _ _)⟩
            · go_wp2_with fail
              go_roundg (n - (k + 1))
              case measure => omega
              case rel => exact ⟨k + 1, by omega, by go_num, hb.trans ((hB1.mono hzr).trans (hbj.mono (by omega)))⟩
    · go_wp2_with fail
      clear x10 x20
      go_loopg [106] ne (fun m i wj => ∃ k2 : Nat, k2 + m = ne ∧ i = .int .i64 k2 ∧ Below (w.heap.size + 2) W0 wj)
      case atStart => exact ⟨0, by omega, rfl, hb⟩
      case round =>
        clear hBw hf1 hf2 y1 y2 x11 x21 hzr hb
        obtain ⟨k2, hk2, rfl, hb⟩ := hrel
        obtain ⟨wo, Hwo⟩ : ∃ wo, wo = wr := ⟨_, rfl⟩
        subst Hwo
        have hBw : Below w.heap.size w wo := hB0.trans (hb.mono (by omega))
        have hf1 := h1.below hBw
        have hf2 := h2.below hBw
        have y1 := (hb.block w.heap.size (by omega)).trans hx1
        have y2 := (hb.block (w.heap.size + 1) (by omega)).trans hx2
        obtain ⟨_, x11⟩ := blk2 y1
        obtain ⟨_, x21⟩ := blk2 y2
        have hzr : w.heap.size + 2 ≤ wo.heap.size := by have := hb.size; omega
        by_cases hlt2 : k2 < ne
        · obtain ⟨mm, Hp⟩ : ∃ p, Hid (g.enums[k2]? = some p) := ⟨g.enums[k2]'(by rw [← He1.out]; exact hlt2), List.getElem?_eq_getElem (by rw [← He1.out]; exact hlt2)⟩
          obtain ⟨g1, o1, rfl, hat1⟩ := hf1.2.get EAt.plain Hp.out
          obtain ⟨g2, o2, rfl, hat2⟩ := hf2.2.get EAt.plain Hp.out
          obtain ⟨vf1, e0, e1, r1f⟩ := hat1.at
          obtain ⟨vf2, t0, t1, r2f⟩ := hat2.at
          obtain ⟨af1, nf, cf1, rfl, Hf1, hnf⟩ := r1f.shape
          obtain ⟨af2, nf', cf2, rfl, Hf2, _⟩ := r2f.shape
          obtain rfl : nf = nf' := by rw [Hf1.out, Hf2.out]
          have hki : (k2 : Int) < (ne : Int) := by omega
          have hsl := S_list mm.name
          have z0 : w.heap.size < wo.heap.size := by omega
          have z1 : w.heap.size + 1 < wo.heap.size := by omega
          have z2 : g2 < wo.heap.size := World.block_lt_of_cell? wo _ t0
          clear hat1 hat2 hf1 hf2 y1 y2
          obtain ⟨W1, HW1⟩ : ∃ W1, Hid (W1 = (wo.alloc (.cells #[.string (S mm.name), .slice af1 nf cf1] 50)).alloc (.cells #[.string (S mm.name), .slice af2 nf cf2] 50)) := ⟨_, rfl⟩
          have hB1 : Below wo.heap.size wo W1 := by rw [HW1.out]; exact ((Below.refl _ _).alloc (Nat.le_refl _) _).alloc (by simp) _
          have v1 : W1.heap[wo.heap.size]? = some (.cells #[.string (S mm.name), .slice af1 nf cf1] 50 (0, 0)) := by rw [HW1.out]; exact alloc2_old _ _ _
          have v2 : W1.heap[wo.heap.size + 1]? = some (.cells #[.string (S mm.name), .slice af2 nf cf2] 50 (0, 0)) := by rw [HW1.out]; exact alloc2_new _ _ _
          have hz1 : wo.heap.size + 2 ≤ W1.heap.size := by rw [HW1.out]; simp
          go_wp2_with fail
          rw [← HW1.out]
          go_loopg [133] nf (fun m i wi => ∃ j : Nat, j + m = nf ∧ i = .int .i64 j ∧ Below (wo.heap.size + 2) W1 wi)
          case atStart => exact ⟨0, by omega, rfl, Below.refl _ _⟩
          case round =>
            obtain ⟨j, hj, rfl, hbi⟩ := hrel
            have hBi : Below wo.heap.size wo wr := hB1.trans (hbi.mono (by omega))
            have q1 := (hbi.block wo.heap.size (by omega)).trans v1
            have q2 := (hbi.block (wo.heap.size + 1) (by omega)).trans v2
            obtain ⟨_, m11⟩ := blk2 q1
            obtain ⟨_, m21⟩ := blk2 q2
            clear x11 x21 e0 e1 t0 t1
            by_cases hjl : j < nf
            · obtain ⟨f, Hf⟩ : ∃ f, Hid (mm.items[j]? = some f) := ⟨mm.items[j]'(by rw [← Hf1.out]; exact hjl), List.getElem?_eq_getElem (by rw [← Hf1.out]; exact hjl)⟩
              obtain ⟨gf1, of1, rfl, u1⟩ := (r1f.below TAt.stays hBi).get TAt.plain Hf.out
              obtain ⟨gf2, of2, rfl, u2⟩ := (r2f.below TAt.stays hBi).get TAt.plain Hf.out
              obtain ⟨s0, s1⟩ := u1.at
              obtain ⟨p0, p1⟩ := u2.at
              have hneq := neq_itm f
              have hji : (j : Int) < (nf : Int) := by omega
              clear u1 u2
              go_wp2_with fail
              go_quiet (fail)
              go_wp2_with fail
              go_roundg (nf - (j + 1))
              case measure => omega
              case rel => exact ⟨j + 1, by omega, by go_num, hbi.trans (below_drewN _ _)⟩
            · go_wp2_with fail
              go_roundg (ne - (k2 + 1))
              case measure => omega
              case rel => exact ⟨k2 + 1, by omega, by go_num, hb.trans ((hB1.mono hzr).trans (hbi.mono (by omega)))⟩
        · go_wp2
          go_ret
          exact ⟨rfl, hBw⟩

end L
end Go.Proofs.YtenlijgnmhdopaaGreatDoor

