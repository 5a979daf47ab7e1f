import Derived.Test.YtenlijgnmhdopaaGreatDoorSAll
import Derived.Laws.StructEq
import Derived.Deep.CutRange
/- Structs held against each other: the same ones. -/
namespace Go.Proofs.YtenlijgnmhdopaaGreatDoor
open Go.RowKit

theorem fields_fld : Tryz.prog.underlying 39 = some (.struct (Tryz.prog.fieldsOf 39)) := by kernel_rfl
theorem held_fld : Tryz.prog.stoodInHeld 39 = false := by kernel_rfl
theorem fields_itm : Tryz.prog.underlying 52 = some (.struct (Tryz.prog.fieldsOf 52)) := by kernel_rfl
theorem held_itm : Tryz.prog.stoodInHeld 52 = false := by kernel_rfl

set_option maxHeartbeats 1000000 in
theorem neq_fld (f : Fld) (w : World) : (binOp .neq 39 (.agg #[.string (S f.name), .int .i64 (f.number : Int), .int .i64 (f.kind : Int), .string (S f.type), .bool f.many, .int .i64 (f.choice : Int)]) (.agg #[.string (S f.name), .int .i64 (f.number : Int), .int .i64 (f.kind : Int), .string (S f.type), .bool f.many, .int .i64 (f.choice : Int)])).run Tryz.prog w = .ok (.bool false) w := by
  have u1 := Tryz.underlying3; have a1 := Tryz.isAgg3; have z1 := Tryz.sizeOf3
  have u2 := Tryz.underlying9; have a2 := Tryz.isAgg9; have z2 := Tryz.sizeOf9
  have u3 := Tryz.underlying4; have a3 := Tryz.isAgg4; have z3 := Tryz.sizeOf4
  rw [run_neq_struct, show (10000 : Nat) = 9999 + 1 from rfl, run_equalIn_agg w 9999 39 _ _ fields_fld held_fld]
  simp only [Program.fieldsOf, Tryz.underlying39]
  go_simp

set_option maxHeartbeats 1000000 in
theorem neq_itm (f : Itm) (w : World) : (binOp .neq 52 (.agg #[.string (S f.name), .int .i64 f.value]) (.agg #[.string (S f.name), .int .i64 f.value])).run Tryz.prog w = .ok (.bool false) w := by
  have u1 := Tryz.underlying3; have a1 := Tryz.isAgg3; have z1 := Tryz.sizeOf3
  have u2 := Tryz.underlying9; have a2 := Tryz.isAgg9; have z2 := Tryz.sizeOf9
  rw [run_neq_struct, show (10000 : Nat) = 9999 + 1 from rfl, run_equalIn_agg w 9999 52 _ _ fields_itm held_itm]
  simp only [Program.fieldsOf, Tryz.underlying52]
  go_simp

end Go.Proofs.YtenlijgnmhdopaaGreatDoor

/- The contract of SameFile at two files that are the same. -/
namespace Go.Proofs.YtenlijgnmhdopaaGreatDoor
open Go.RowKit

theorem add_plain (b o i : Nat) : (⟨b, o, none⟩ : Addr).add i = ⟨b, o + i, none⟩ := by unfold Addr.add; split <;> simp_all

/-- An entry of a list: where it lies, and its cells. -/
theorem Row.get {α : Type} {E : EK α} {w : World} {base : Nat} {ao : Option Addr} {n cap : Nat} {l : List α} (h : Row E w base (.slice ao n cap) l) {k : Nat} {a : α} (ha : l[k]? = some a) :
    ∃ g, ao = some ⟨g, 0, none⟩ ∧ ∀ j u, (E.enc a)[j]? = some u → w.cell? ⟨g, k * E.size + j, none⟩ = some u := by
  rcases h.2 with ⟨hv, hn⟩ | ⟨g, cap', cur, hv, hbg, hg, r⟩
  · rw [List.eq_nil_of_length_eq_zero hn] at ha; simp at ha
  · simp at hv
    obtain ⟨rfl, rfl, rfl⟩ := hv
    refine ⟨g, rfl, ?_⟩
    intro j u hu
    have hj : j < E.size := by
      rw [← E.len a]
      rcases Nat.lt_or_ge j (E.enc a).length with h1 | h1
      · exact h1
      · rw [List.getElem?_eq_none h1] at hu; cases hu
    have := World.ownsRow.cells h (g := g) rfl (k * E.size + j) u (by rw [E.flat_at l k j a ha hj]; exact hu)
    rw [add_plain, Nat.zero_add] at this
    exact this

theorem map_fst_get {α β : Type} {l m : List (α × β)} (h : l.map Prod.fst = m.map Prod.fst) {k : Nat} {p : α × β} (hp : l[k]? = some p) : ∃ q, m[k]? = some q ∧ q.1 = p.1 := by
  have e := congrArg (fun x => x[k]?) h
  simp only [List.getElem?_map, hp, Option.map_some] at e
  cases hq : m[k]? with
  | none => rw [hq] at e; cases e
  | some q => rw [hq] at e; simp at e; exact ⟨q, rfl, e.symm⟩

theorem below_drewN' (B : Nat) (w : World) {n : Nat} : Below B w (w.drewN n) := ⟨rfl, rfl, rfl, Nat.le_refl _, fun _ _ => rfl⟩
theorem Row.len {α : Type} {E : EK α} {w : World} {base : Nat} {ao : Option Addr} {n cap : Nat} {l : List α} (h : Row E w base (.slice ao n cap) l) : n = l.length := by
  obtain ⟨ao', cap', e⟩ := h.shape
  simp at e
  exact e.2.1

set_option maxHeartbeats 4000000 in
set_option maxRecDepth 100000 in
theorem same_file {w : World} {b1 b2 : Nat} {vm1 ve1 vm2 ve2 : Value} {lm1 lm2 : List (Msg × SV × SV)} {le1 le2 : List (Enm × SV)} (h1 : FilR w b1 vm1 ve1 lm1 le1) (h2 : FilR w b2 vm2 ve2 lm2 le2)
    (hm : lm1.map Prod.fst = lm2.map Prod.fst) (he : le1.map Prod.fst = le2.map Prod.fst) (hn : lm1.length ≤ 1000) (hne : le1.length ≤ 1000)
    (hin : ∀ p ∈ lm1, p.1.fields.length ≤ 100000 ∧ p.1.barred.length ≤ 100000) (hie : ∀ p ∈ le1, p.1.items.length ≤ 100000) :
    Calls Tryz.prog 7 #[.agg #[vm1, ve1], .agg #[vm2, ve2]] w fun e w' => e = .returned (.bool true) ∧ Below w.heap.size w w' := by
  have hlm : lm1.length = lm2.length := by have := congrArg List.length hm; simpa using this
  have hle : le1.length = le2.length := by have := congrArg List.length he; simpa using this
  obtain ⟨am1, n, cm1, rfl, Hn1⟩ := h1.rowm.shape'
  obtain ⟨am2, n2, cm2, rfl, Hn2⟩ := h2.rowm.shape'
  obtain ⟨ae1, ne, ce1, rfl, He1⟩ := h1.rowe.shape'
  obtain ⟨ae2, ne2, ce2, rfl, He2⟩ := h2.rowe.shape'
  obtain rfl : n = n2 := by rw [Hn1.out, Hn2.out, hlm]
  obtain rfl : ne = ne2 := by rw [He1.out, He2.out, hle]
  have hn' : n ≤ 1000 := by rw [Hn1.out]; exact hn
  have hne' : ne ≤ 1000 := by rw [He1.out]; exact hne
  obtain ⟨W0, HW0⟩ : ∃ W0, Hid (W0 = (w.alloc (.cells #[.slice am1 n cm1, .slice ae1 ne ce1] 25)).alloc (.cells #[.slice am2 n cm2, .slice ae2 ne ce2] 25)) := ⟨_, rfl⟩
  have hB0 : Below w.heap.size w W0 := by rw [HW0.out]; exact ((Below.refl _ _).alloc (Nat.le_refl _) _).alloc (by simp) _
  have hx1 : W0.heap[w.heap.size]? = some (.cells #[.slice am1 n cm1, .slice ae1 ne ce1] 25 (0, 0)) := by rw [HW0.out]; exact alloc2_old _ _ _
  have hx2 : W0.heap[w.heap.size + 1]? = some (.cells #[.slice am2 n cm2, .slice ae2 ne ce2] 25 (0, 0)) := by rw [HW0.out]; exact alloc2_new _ _ _
  have hz0 : W0.heap.size = w.heap.size + 2 := by rw [HW0.out]; simp
  go_enter Tryz.func7, Tryz.ntmps7
  go_wp2_with fail
  rw [← HW0.out]
  go_loopg [33] n (fun m i wr => ∃ k : Nat, k + m = n ∧ i = .int .i64 k ∧ Below (w.heap.size + 2) W0 wr)
  case atStart => exact ⟨0, by omega, rfl, Below.refl _ _⟩
  case round =>
    obtain ⟨k, hk, rfl, hb⟩ := hrel
    obtain ⟨wo, Hwo⟩ : ∃ wo, wo = wr := ⟨_, rfl⟩
    subst Hwo
    have hBw : Below w.heap.size w wo := hB0.trans (hb.mono (by omega))
    have hf1 := h1.below hBw
    have hf2 := h2.below hBw
    have y1 : wo.heap[w.heap.size]? = some (.cells #[.slice am1 n cm1, .slice ae1 ne ce1] 25 (0, 0)) := by rw [hb.block _ (by omega)]; exact hx1
    have y2 : wo.heap[w.heap.size + 1]? = some (.cells #[.slice am2 n cm2, .slice ae2 ne ce2] 25 (0, 0)) := by rw [hb.block _ (by omega)]; exact hx2
    obtain ⟨x10, x11⟩ := blk2 y1
    obtain ⟨x20, x21⟩ := blk2 y2
    have hzr : w.heap.size + 2 ≤ wo.heap.size := by have := hb.size; omega
    by_cases hlt : k < n
    · obtain ⟨p, Hp⟩ : ∃ p, Hid (lm1[k]? = some p) := ⟨lm1[k]'(by rw [← Hn1.out]; exact hlt), List.getElem?_eq_getElem (by rw [← Hn1.out]; exact hlt)⟩
      obtain ⟨q, Hq, hpq⟩ := map_fst_get hm Hp.out
      obtain ⟨g1, rfl, hc1⟩ := hf1.rowm.get Hp.out
      obtain ⟨g2, rfl, hc2⟩ := hf2.rowm.get Hq
      obtain ⟨r1f, r1b⟩ := hf1.ms p (List.mem_of_getElem? Hp.out)
      obtain ⟨r2f, r2b⟩ := hf2.ms q (List.mem_of_getElem? Hq)
      obtain ⟨i1, i2⟩ := hin p (List.mem_of_getElem? Hp.out)
      obtain ⟨mm, ⟨af1, nf, cf1⟩, ⟨ab1, nb, cb1⟩⟩ := p
      obtain ⟨mm2, ⟨af2, nf2, cf2⟩, ⟨ab2, nb2, cb2⟩⟩ := q
      simp only at hpq
      subst hpq
      have e0 := hc1 0 _ rfl
      have e1 := hc1 1 _ rfl
      have e2 := hc1 2 _ rfl
      have t0 := hc2 0 _ rfl
      have t1 := hc2 1 _ rfl
      have t2 := hc2 2 _ rfl
      have esz : ekMsg.size = 3 := rfl
      rw [esz] at e0 e1 e2 t0 t1 t2
      simp only [SV.v] at e0 e1 e2 t0 t1 t2 r1f r1b r2f r2b i1 i2
      simp only [Nat.add_zero] at e0 t0
      obtain rfl : nf = nf2 := by rw [r1f.len, r2f.len]
      obtain rfl : nb = nb2 := by rw [r1b.len, r2b.len]
      have hnf : nf ≤ 100000 := by rw [r1f.len]; exact i1
      have hnb : nb ≤ 100000 := by rw [r1b.len]; exact i2
      have hsl := S_list mm2.name
      have z0 : w.heap.size < wo.heap.size := by omega
      have z1 : w.heap.size + 1 < wo.heap.size := by omega
      have z2 : g2 < wo.heap.size := World.block_lt_of_cell? wo _ t0
      clear hc1 hc2 esz hf1 hf2 y1 y2 hx1 hx2
      obtain ⟨W1, HW1⟩ : ∃ W1, Hid (W1 = (wo.alloc (.cells #[.string (S mm2.name), .slice af1 nf cf1, .slice ab1 nb cb1] 37)).alloc (.cells #[.string (S mm2.name), .slice af2 nf cf2, .slice ab2 nb cb2] 37)) := ⟨_, rfl⟩
      have hB1 : Below wo.heap.size wo W1 := by rw [HW1.out]; exact ((Below.refl _ _).alloc (Nat.le_refl _) _).alloc (by simp) _
      have v1 : W1.heap[wo.heap.size]? = some (.cells #[.string (S mm2.name), .slice af1 nf cf1, .slice ab1 nb cb1] 37 (0, 0)) := by rw [HW1.out]; exact alloc2_old _ _ _
      have v2 : W1.heap[wo.heap.size + 1]? = some (.cells #[.string (S mm2.name), .slice af2 nf cf2, .slice ab2 nb cb2] 37 (0, 0)) := by rw [HW1.out]; exact alloc2_new _ _ _
      have hz1 : W1.heap.size = wo.heap.size + 2 := by rw [HW1.out]; simp
      go_wp2_with fail
      rw [← HW1.out]
      go_loopg [69] nf (fun m i wi => ∃ j : Nat, j + m = nf ∧ i = .int .i64 j ∧ Below (wo.heap.size + 2) W1 wi)
      case atStart => exact ⟨0, by omega, rfl, Below.refl _ _⟩
      case round =>
        obtain ⟨j, hj, rfl, hbi⟩ := hrel
        have hBi : Below wo.heap.size wo wr := hB1.trans (hbi.mono (by omega))
        have q1 : wr.heap[wo.heap.size]? = some (.cells #[.string (S mm2.name), .slice af1 nf cf1, .slice ab1 nb cb1] 37 (0, 0)) := by rw [hbi.block _ (by omega)]; exact v1
        have q2 : wr.heap[wo.heap.size + 1]? = some (.cells #[.string (S mm2.name), .slice af2 nf cf2, .slice ab2 nb cb2] 37 (0, 0)) := by rw [hbi.block _ (by omega)]; exact v2
        obtain ⟨_, m11, m12⟩ := blk3 q1
        obtain ⟨_, m21, m22⟩ := blk3 q2
        clear x10 x11 x20 x21 e0 e1 e2 t0 t1 t2
        by_cases hjl : j < nf
        · obtain ⟨f, Hf⟩ : ∃ f, Hid (mm2.fields[j]? = some f) := ⟨mm2.fields[j]'(by rw [← r1f.len]; exact hjl), List.getElem?_eq_getElem (by rw [← r1f.len]; exact hjl)⟩
          obtain ⟨gf1, rfl, u1⟩ := (r1f.below hBi).get Hf.out
          obtain ⟨gf2, rfl, u2⟩ := (r2f.below hBi).get Hf.out
          have s0 := u1 0 _ rfl
          have s1 := u1 1 _ rfl
          have s2 := u1 2 _ rfl
          have s3 := u1 3 _ rfl
          have s4 := u1 4 _ rfl
          have s5 := u1 5 _ rfl
          have p0 := u2 0 _ rfl
          have p1 := u2 1 _ rfl
          have p2 := u2 2 _ rfl
          have p3 := u2 3 _ rfl
          have p4 := u2 4 _ rfl
          have p5 := u2 5 _ rfl
          have esz : ekFld.size = 6 := rfl
          rw [esz] at s0 s1 s2 s3 s4 s5 p0 p1 p2 p3 p4 p5
          simp only [Nat.add_zero] at s0 p0
          have hneq := neq_fld f
          have hji : (j : Int) < (nf : Int) := by omega
          clear u1 u2 esz
          go_wp2_with fail
          go_quiet (fail)
          go_wp2_with fail
          go_roundg (nf - (j + 1))
          case measure => omega
          case rel => exact ⟨j + 1, by omega, by go_num, hbi.trans (below_drewN' _ _)⟩
        · go_wp2_with fail
          obtain ⟨wi, Hwi⟩ : ∃ wi, wi = wr := ⟨_, rfl⟩
          subst Hwi
          go_loopg [87] nb (fun m i wj => ∃ j : Nat, j + m = nb ∧ i = .int .i64 j ∧ Below (wo.heap.size + 2) W1 wj)
          case atStart => exact ⟨0, by omega, rfl, hbi⟩
          case round =>
            clear m11 m12 m21 m22 q1 q2 hBi hbi
            obtain ⟨j2, hj2, rfl, hbj⟩ := hrel
            have hBj : Below wo.heap.size wo wr := hB1.trans (hbj.mono (by omega))
            have q1 : wr.heap[wo.heap.size]? = some (.cells #[.string (S mm2.name), .slice af1 nf cf1, .slice ab1 nb cb1] 37 (0, 0)) := by rw [hbj.block _ (by omega)]; exact v1
            have q2 : wr.heap[wo.heap.size + 1]? = some (.cells #[.string (S mm2.name), .slice af2 nf cf2, .slice ab2 nb cb2] 37 (0, 0)) := by rw [hbj.block _ (by omega)]; exact v2
            obtain ⟨_, m11, m12⟩ := blk3 q1
            obtain ⟨_, m21, m22⟩ := blk3 q2
            by_cases hjl2 : j2 < nb
            · obtain ⟨y, Hy⟩ : ∃ y, Hid (mm2.barred[j2]? = some y) := ⟨mm2.barred[j2]'(by rw [← r1b.len]; exact hjl2), List.getElem?_eq_getElem (by rw [← r1b.len]; exact hjl2)⟩
              obtain ⟨gb1, rfl, u1⟩ := (r1b.below hBj).get Hy.out
              obtain ⟨gb2, rfl, u2⟩ := (r2b.below hBj).get Hy.out
              have s0 := u1 0 _ rfl
              have p0 := u2 0 _ rfl
              have esz : ekInt.size = 1 := rfl
              rw [esz] at s0 p0
              simp only [Nat.add_zero, Nat.mul_one] at s0 p0
              have hji : (j2 : Int) < (nb : Int) := by omega
              clear u1 u2 esz
              go_wp2_with fail
              go_quiet (fail)
              go_wp2_with fail
              go_roundg (nb - (j2 + 1))
              case measure => omega
              case rel => exact ⟨j2 + 1, by omega, by go_num, hbj.trans (below_drewN' _ _)⟩
            · go_wp2_with fail
              go_roundg (n - (k + 1))
              case measure => omega
              case rel => exact ⟨k + 1, by omega, by go_num, hb.trans ((hB1.mono hzr).trans (hbj.mono (by omega)))⟩
    · go_wp2_with fail
      clear x10 x20
      go_loopg [106] ne (fun m i wj => ∃ k2 : Nat, k2 + m = ne ∧ i = .int .i64 k2 ∧ Below (w.heap.size + 2) W0 wj)
      case atStart => exact ⟨0, by omega, rfl, hb⟩
      case round =>
        clear hBw hf1 hf2 y1 y2 x11 x21 hzr hb
        obtain ⟨k2, hk2, rfl, hb⟩ := hrel
        obtain ⟨wo, Hwo⟩ : ∃ wo, wo = wr := ⟨_, rfl⟩
        subst Hwo
        have hBw : Below w.heap.size w wo := hB0.trans (hb.mono (by omega))
        have hf1 := h1.below hBw
        have hf2 := h2.below hBw
        have y1 : wo.heap[w.heap.size]? = some (.cells #[.slice am1 n cm1, .slice ae1 ne ce1] 25 (0, 0)) := by rw [hb.block _ (by omega)]; exact hx1
        have y2 : wo.heap[w.heap.size + 1]? = some (.cells #[.slice am2 n cm2, .slice ae2 ne ce2] 25 (0, 0)) := by rw [hb.block _ (by omega)]; exact hx2
        obtain ⟨_, x11⟩ := blk2 y1
        obtain ⟨_, x21⟩ := blk2 y2
        have hzr : w.heap.size + 2 ≤ wo.heap.size := by have := hb.size; omega
        by_cases hlt2 : k2 < ne
        · obtain ⟨p, Hp⟩ : ∃ p, Hid (le1[k2]? = some p) := ⟨le1[k2]'(by rw [← He1.out]; exact hlt2), List.getElem?_eq_getElem (by rw [← He1.out]; exact hlt2)⟩
          obtain ⟨q, Hq, hpq⟩ := map_fst_get he Hp.out
          obtain ⟨g1, rfl, hc1⟩ := hf1.rowe.get Hp.out
          obtain ⟨g2, rfl, hc2⟩ := hf2.rowe.get Hq
          have r1f := hf1.es p (List.mem_of_getElem? Hp.out)
          have r2f := hf2.es q (List.mem_of_getElem? Hq)
          have i1 := hie p (List.mem_of_getElem? Hp.out)
          obtain ⟨mm, ⟨af1, nf, cf1⟩⟩ := p
          obtain ⟨mm2, ⟨af2, nf2, cf2⟩⟩ := q
          simp only at hpq
          subst hpq
          have e0 := hc1 0 _ rfl
          have e1 := hc1 1 _ rfl
          have t0 := hc2 0 _ rfl
          have t1 := hc2 1 _ rfl
          have esz : ekEnm.size = 2 := rfl
          rw [esz] at e0 e1 t0 t1
          simp only [SV.v] at e0 e1 t0 t1 r1f r2f i1
          simp only [Nat.add_zero] at e0 t0
          obtain rfl : nf = nf2 := by rw [r1f.len, r2f.len]
          have hnf : nf ≤ 100000 := by rw [r1f.len]; exact i1
          have hsl := S_list mm2.name
          have z0 : w.heap.size < wo.heap.size := by omega
          have z1 : w.heap.size + 1 < wo.heap.size := by omega
          have z2 : g2 < wo.heap.size := World.block_lt_of_cell? wo _ t0
          clear hc1 hc2 esz hf1 hf2 y1 y2 hx1 hx2
          obtain ⟨W1, HW1⟩ : ∃ W1, Hid (W1 = (wo.alloc (.cells #[.string (S mm2.name), .slice af1 nf cf1] 50)).alloc (.cells #[.string (S mm2.name), .slice af2 nf cf2] 50)) := ⟨_, rfl⟩
          have hB1 : Below wo.heap.size wo W1 := by rw [HW1.out]; exact ((Below.refl _ _).alloc (Nat.le_refl _) _).alloc (by simp) _
          have v1 : W1.heap[wo.heap.size]? = some (.cells #[.string (S mm2.name), .slice af1 nf cf1] 50 (0, 0)) := by rw [HW1.out]; exact alloc2_old _ _ _
          have v2 : W1.heap[wo.heap.size + 1]? = some (.cells #[.string (S mm2.name), .slice af2 nf cf2] 50 (0, 0)) := by rw [HW1.out]; exact alloc2_new _ _ _
          have hz1 : W1.heap.size = wo.heap.size + 2 := by rw [HW1.out]; simp
          go_wp2_with fail
          rw [← HW1.out]
          go_loopg [133] nf (fun m i wi => ∃ j : Nat, j + m = nf ∧ i = .int .i64 j ∧ Below (wo.heap.size + 2) W1 wi)
          case atStart => exact ⟨0, by omega, rfl, Below.refl _ _⟩
          case round =>
            obtain ⟨j, hj, rfl, hbi⟩ := hrel
            have hBi : Below wo.heap.size wo wr := hB1.trans (hbi.mono (by omega))
            have q1 : wr.heap[wo.heap.size]? = some (.cells #[.string (S mm2.name), .slice af1 nf cf1] 50 (0, 0)) := by rw [hbi.block _ (by omega)]; exact v1
            have q2 : wr.heap[wo.heap.size + 1]? = some (.cells #[.string (S mm2.name), .slice af2 nf cf2] 50 (0, 0)) := by rw [hbi.block _ (by omega)]; exact v2
            obtain ⟨_, m11⟩ := blk2 q1
            obtain ⟨_, m21⟩ := blk2 q2
            clear x11 x21 e0 e1 t0 t1
            by_cases hjl : j < nf
            · obtain ⟨f, Hf⟩ : ∃ f, Hid (mm2.items[j]? = some f) := ⟨mm2.items[j]'(by rw [← r1f.len]; exact hjl), List.getElem?_eq_getElem (by rw [← r1f.len]; exact hjl)⟩
              obtain ⟨gf1, rfl, u1⟩ := (r1f.below hBi).get Hf.out
              obtain ⟨gf2, rfl, u2⟩ := (r2f.below hBi).get Hf.out
              have s0 := u1 0 _ rfl
              have s1 := u1 1 _ rfl
              have p0 := u2 0 _ rfl
              have p1 := u2 1 _ rfl
              have esz : ekItm.size = 2 := rfl
              rw [esz] at s0 s1 p0 p1
              simp only [Nat.add_zero] at s0 p0
              have hneq := neq_itm f
              have hji : (j : Int) < (nf : Int) := by omega
              clear u1 u2 esz
              go_wp2_with fail
              go_quiet (fail)
              go_wp2_with fail
              go_roundg (nf - (j + 1))
              case measure => omega
              case rel => exact ⟨j + 1, by omega, by go_num, hbi.trans (below_drewN' _ _)⟩
            · go_wp2_with fail
              go_roundg (ne - (k2 + 1))
              case measure => omega
              case rel => exact ⟨k2 + 1, by omega, by go_num, hb.trans ((hB1.mono hzr).trans (hbi.mono (by omega)))⟩
        · go_wp2
          go_ret
          exact ⟨rfl, hBw⟩

end Go.Proofs.YtenlijgnmhdopaaGreatDoor

