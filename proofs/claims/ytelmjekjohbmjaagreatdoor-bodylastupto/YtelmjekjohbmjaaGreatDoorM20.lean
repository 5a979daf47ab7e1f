import Derived.Test.YtelmjekjohbmjaaGreatDoorBCopyq
import Derived.Test.YtelmjekjohbmjaaGreatDoorM14
import Derived.Deep.RegionHeld3
import Derived.Shelf.Abstract
/- Own, ownValue: a body's own copy. -/
namespace Go.Proofs.YtelmjekjohbmjaaGreatDoor
namespace L
open Go.RowKit

/-- What Own tells of bodies that are at most that deep. -/
def OwnTold (d : Nat) : Prop := ∀ (w : World) (B0 : Nat) (a0 : Option Addr) (n0 c0 : Nat) (a1 : Option Addr) (n1 c1 : Nat) (x : BI d), B0 ≤ w.heap.size → BQ d w (.slice a0 n0 c0) (.slice a1 n1 c1) x → BOk d x →
  Calls Tryz.prog 11 #[.agg #[.slice a0 n0 c0, .slice a1 n1 c1]] w fun e w' => ∃ (y : LB d) (x0 : Option Addr) (y0 z0 : Nat) (x1 : Option Addr) (y1 z1 : Nat), (ekB d).enc y = [.slice x0 y0 z0, .slice x1 y1 z1] ∧ e = .returned (.agg #[.slice x0 y0 z0, .slice x1 y1 z1]) ∧ LB.pl d y = x ∧ OwnB B0 d w' y ∧ (∀ k ∈ LB.fp d y, w.heap.size ≤ k) ∧ (LB.fp d y).Nodup ∧ Below w.heap.size w w'
/-- .. ownValue, of values whose subs are. -/
def OwnVTold (d : Nat) : Prop := ∀ (w : World) (B0 : Nat) (v : VI (BI d)) (a1 : Option Addr) (n1 c1 : Nat) (a2 : Option Addr) (n2 c2 : Nat) (a3 : Option Addr) (n3 c3 : Nat), B0 ≤ w.heap.size → RdL 1 UAt w (.slice a1 n1 c1) v.bits → RdL 1 ZAt w (.slice a2 n2 c2) v.bytes → RdL 2 (BAt d) w (.slice a3 n3 c3) v.subs → VOk (BOk d) v →
  Calls Tryz.prog 30 #[.agg #[.int .i64 v.number, .slice a1 n1 c1, .slice a2 n2 c2, .slice a3 n3 c3]] w fun e w' => ∃ (y : VL (LB d)) (q0 : Int) (x1 : Option Addr) (y1 z1 : Nat) (x2 : Option Addr) (y2 z2 : Nat) (x3 : Option Addr) (y3 z3 : Nat), (ekV (LB d)).enc y = [.int .i64 q0, .slice x1 y1 z1, .slice x2 y2 z2, .slice x3 y3 z3] ∧ e = .returned (.agg #[.int .i64 q0, .slice x1 y1 z1, .slice x2 y2 z2, .slice x3 y3 z3]) ∧ VL.pl (LB.pl d) y = v ∧ OwnV (ekB d) (OwnB B0 d) w' B0 y ∧ (∀ k ∈ VL.fp (LB.fp d) y, w.heap.size ≤ k) ∧ (VL.fp (LB.fp d) y).Nodup ∧ Below w.heap.size w w'

theorem frB_set {w : World} {g i : Nat} {cs : Array Value} {t : TypeId} {fr : Nat × Nat} {x : Value} (h : w.heap[g]? = some (.cells cs t fr)) (ht : t ≠ 5) : FrB [g] w (w.setCell ⟨g, i, none⟩ x) := by
  refine ⟨rfl, rfl, rfl, by simp, fun k _ hc => Below.heap_setCell w ⟨g, i, none⟩ x k (show k ≠ g from fun e => ?_)⟩
  rcases hc with hc | ⟨cs', fr', hc⟩
  · exact hc (by simp [e])
  · rw [e, h] at hc
    simp only [Option.some.injEq, Obj.cells.injEq] at hc
    exact ht hc.2.1
/-- An append onto nothing only adds. -/
theorem grown_below {V V' : World} (h : V.grownBy V' (Value.slice none 0 0).ownBlock) : Below V.heap.size V V' := ⟨h.os, h.tape, h.output, h.size, fun k hk => h.block k hk (by simp [Value.ownBlock])⟩

theorem frB_trans1 {g : Nat} {a b c : World} (h : FrB [g] a b) (k : FrB [g] b c) : FrB [g] a c := h.trans k (fun _ hi => hi) (fun _ hi => .inl hi)
theorem fr4 {w : World} {g : Nat} {cs : Array Value} {x0 x1 x2 x3 : Value} (h : w.heap[g]? = some (.cells cs 34 (0, 0))) : FrB [g] w ((((w.setCell ⟨g, 0, none⟩ x0).setCell ⟨g, 1, none⟩ x1).setCell ⟨g, 2, none⟩ x2).setCell ⟨g, 3, none⟩ x3) := by
  have h1 := heap_setCell_same _ _ 0 _ _ x0 h
  have h2 := heap_setCell_same _ _ 1 _ _ x1 h1
  have h3 := heap_setCell_same _ _ 2 _ _ x2 h2
  exact frB_trans1 (frB_trans1 (frB_trans1 (frB_set h (by decide)) (frB_set h1 (by decide))) (frB_set h2 (by decide))) (frB_set h3 (by decide))
theorem OwnV.mono {β : Type} {E : EK β} {O O' : World → β → Prop} {w : World} {base base' : Nat} {v : VL β} (h : OwnV E O w base v) (hb : base' ≤ base) (hO : ∀ s, O w s → O' w s) : OwnV E O' w base' v := ⟨h.r1.mono hb, h.r2.mono hb, fun z hz => (h.r2y z hz).mono hb, h.r3.mono hb, fun s hs => hO s (h.r3s s hs)⟩
theorem OwnB.mono : ∀ (d : Nat) {w : World} {base base' : Nat} {b : LB d}, OwnB base d w b → base' ≤ base → OwnB base' d w b
  | 0, _, _, _, _, h, _ => h
  | d + 1, _, _, _, _, h, hb => ⟨h.r0.mono hb, fun v hv => (h.r0v v hv).mono hb fun _ hs => OwnB.mono d hs hb, h.r1.mono hb, fun r hr => (h.r1y r hr).mono hb⟩
/-- Three lists, each made in its own stretch of memory. -/
theorem nodup3 {a b c : List Nat} {la ha lb hb lc hc : Nat} (na : a.Nodup) (nb : b.Nodup) (nc : c.Nodup) (ia : ∀ k ∈ a, la ≤ k ∧ k < ha) (ib : ∀ k ∈ b, lb ≤ k ∧ k < hb) (ic : ∀ k ∈ c, lc ≤ k ∧ k < hc) (dab : ha ≤ lb ∨ hb ≤ la) (dac : ha ≤ lc ∨ hc ≤ la) (dbc : hb ≤ lc ∨ hc ≤ lb) : (a ++ b ++ c).Nodup := by
  refine List.nodup_append.2 ⟨List.nodup_append.2 ⟨na, nb, fun x hx y hy e => ?_⟩, nc, fun x hx y hy e => ?_⟩
  · subst e
    have := ia x hx; have := ib x hy
    omega
  · subst e
    have := ic x hy
    rcases List.mem_append.1 hx with hx | hx
    · have := ia x hx; omega
    · have := ib x hx; omega
theorem own1_nd (p : PV) : (own1 p).Nodup := by
  unfold own1
  cases p.v.ownBlock <;> simp
set_option maxHeartbeats 4000000 in
set_option maxRecDepth 100000 in
theorem ownV_step {d : Nat} (ih : OwnTold d) : OwnVTold d := by
  intro w B0 v a1 n1 c1 a2 n2 c2 a3 n3 c3 hB r1 r2 r3 hok
  obtain ⟨_, hu, hl1, hz, hl2, hQ, hl3⟩ := hok
  obtain ⟨W2, HW2⟩ : ∃ W2, Hid (W2 = (w.alloc (.cells #[.int .i64 v.number, .slice a1 n1 c1, .slice a2 n2 c2, .slice a3 n3 c3] 34)).alloc (.cells #[.int .i64 0, .slice none 0 0, .slice none 0 0, .slice none 0 0] 34)) := ⟨_, rfl⟩
  have hb2 : Below w.heap.size w W2 := by rw [HW2.out]; exact ((Below.refl _ _).alloc (Nat.le_refl _) _).alloc (by simp) _
  have z2 : w.heap.size + 2 ≤ W2.heap.size := by rw [HW2.out]; simp
  have x1 : W2.heap[w.heap.size]? = some (.cells #[.int .i64 v.number, .slice a1 n1 c1, .slice a2 n2 c2, .slice a3 n3 c3] 34 (0, 0)) := by rw [HW2.out]; exact alloc2_old _ _ _
  have x2 : W2.heap[w.heap.size + 1]? = some (.cells #[.int .i64 0, .slice none 0 0, .slice none 0 0, .slice none 0 0] 34 (0, 0)) := by rw [HW2.out]; exact alloc2_new _ _ _
  have hcz : ∀ V, Below W2.heap.size W2 V → Calls Tryz.prog 63 #[.slice a2 n2 c2, .func (.func 64) #[] #[]] V fun e w' => ∃ (a : Option Addr) (n c : Nat) (l' : List (List UInt8 × PV)), e = .returned (.slice a n c) ∧ Cop ekZ Prod.fst (fun w (z : List UInt8 × PV) => Row ekY w W2.heap.size z.2.v z.1) (fun _ => []) V W2.heap.size v.bytes w' (a, n, c) l' := fun V hV => (copZ_any hV.size (r2.below ZAt.stays (BTr hb2 hV)) hl2 hz).mono fun _ _ ⟨⟨a, n, c⟩, l', h1, h2⟩ => ⟨a, n, c, l', h1, h2⟩
  have hcb : ∀ V, Below W2.heap.size W2 V → Calls Tryz.prog 65 #[.slice a3 n3 c3, .func (.func 11) #[] #[]] V fun e w' => ∃ (a : Option Addr) (n c : Nat) (l' : List (LB d)), e = .returned (.slice a n c) ∧ Cop (ekB d) (LB.pl d) (OwnB W2.heap.size d) (LB.fp d) V W2.heap.size v.subs w' (a, n, c) l' := fun V hV => (copB_any hV.size (r3.below (BAt.stays d) (BTr hb2 hV)) hl3 (enters_of Tryz.func11 (by kernel_rfl) rfl) fun W hW a ha a0 n0 c0 a1 n1 c1 hq => ih W W2.heap.size a0 n0 c0 a1 n1 c1 a (Nat.le_trans hV.size hW.size) hq (hQ a ha)).mono fun _ _ ⟨⟨a, n, c⟩, l', h1, h2⟩ => ⟨a, n, c, l', h1, h2⟩
  have hcl : ∀ V, Below W2.heap.size W2 V → (V.cell? ⟨w.heap.size, 0, none⟩ = some (.int .i64 v.number) ∧ V.cell? ⟨w.heap.size, 1, none⟩ = some (.slice a1 n1 c1) ∧ V.cell? ⟨w.heap.size, 2, none⟩ = some (.slice a2 n2 c2) ∧ V.cell? ⟨w.heap.size, 3, none⟩ = some (.slice a3 n3 c3)) ∧ V.cell? ⟨w.heap.size + 1, 0, none⟩ = some (.int .i64 0) ∧ V.cell? ⟨w.heap.size + 1, 1, none⟩ = some (.slice none 0 0) ∧ V.cell? ⟨w.heap.size + 1, 2, none⟩ = some (.slice none 0 0) ∧ V.cell? ⟨w.heap.size + 1, 3, none⟩ = some (.slice none 0 0) ∧ V.frozen? ⟨w.heap.size + 1, 0, none⟩ = false ∧ V.frozen? ⟨w.heap.size + 1, 1, none⟩ = false ∧ V.frozen? ⟨w.heap.size + 1, 2, none⟩ = false ∧ V.frozen? ⟨w.heap.size + 1, 3, none⟩ = false := fun V hV => by
    have y1 := (hV.block _ (by omega)).trans x1
    have y2 := (hV.block _ (by omega)).trans x2
    exact ⟨⟨cell_of_blk y1 0 _ rfl, cell_of_blk y1 1 _ rfl, cell_of_blk y1 2 _ rfl, cell_of_blk y1 3 _ rfl⟩, cell_of_blk y2 0 _ rfl, cell_of_blk y2 1 _ rfl, cell_of_blk y2 2 _ rfl, cell_of_blk y2 3 _ rfl, fr_of_blk y2 0, fr_of_blk y2 1, fr_of_blk y2 2, fr_of_blk y2 3⟩
  have hsU : ∀ V, Below W2.heap.size W2 V → Src ekU V a1 n1 c1 v.bits := fun V hV => (r1.below UAt.stays (BTr hb2 hV)).srcU
  have hby : (([] : List Nat).length + v.bits.length) * ekU.bytes ≤ 140737488355328 := by
    unfold reachBytes at hl1
    show (0 + v.bits.length) * 8 ≤ _
    omega
  have hD : Below W2.heap.size W2 W2.drew := (Below.refl _ _).drew
  obtain ⟨⟨d0, d1, d2, d3⟩, e0, e1, e2, e3, e4, e5, e6, e7⟩ := hcl _ hD
  have ne1 : ¬ w.heap.size = w.heap.size + 1 := by omega
  have ne2 : ¬ w.heap.size + 1 = w.heap.size := by omega
  have hS : ∀ V, Below W2.heap.size W2 V → Below w.heap.size w V ∧ V.cell? ⟨w.heap.size, 0, none⟩ = some (.int .i64 v.number) ∧ V.cell? ⟨w.heap.size, 1, none⟩ = some (.slice a1 n1 c1) ∧ V.cell? ⟨w.heap.size, 2, none⟩ = some (.slice a2 n2 c2) ∧ V.cell? ⟨w.heap.size, 3, none⟩ = some (.slice a3 n3 c3) := fun V hV => ⟨BTr hb2 hV, (hcl V hV).1⟩
  have far : ∀ (V : World) (i j : Nat) (x : Value), (V.setCell ⟨w.heap.size + 1, i, none⟩ x).cell? ⟨w.heap.size, j, none⟩ = V.cell? ⟨w.heap.size, j, none⟩ := fun V i j x => World.cell?_setCell_far V _ _ _ (by simp)
  have hS4 : ∀ V, Below W2.heap.size W2 V → ∀ x0 x1 x2 x3 : Value, Below w.heap.size w ((((V.setCell ⟨w.heap.size + 1, 0, none⟩ x0).setCell ⟨w.heap.size + 1, 1, none⟩ x1).setCell ⟨w.heap.size + 1, 2, none⟩ x2).setCell ⟨w.heap.size + 1, 3, none⟩ x3) ∧ ((((V.setCell ⟨w.heap.size + 1, 0, none⟩ x0).setCell ⟨w.heap.size + 1, 1, none⟩ x1).setCell ⟨w.heap.size + 1, 2, none⟩ x2).setCell ⟨w.heap.size + 1, 3, none⟩ x3).cell? ⟨w.heap.size, 0, none⟩ = some (.int .i64 v.number) ∧ ((((V.setCell ⟨w.heap.size + 1, 0, none⟩ x0).setCell ⟨w.heap.size + 1, 1, none⟩ x1).setCell ⟨w.heap.size + 1, 2, none⟩ x2).setCell ⟨w.heap.size + 1, 3, none⟩ x3).cell? ⟨w.heap.size, 1, none⟩ = some (.slice a1 n1 c1) ∧ ((((V.setCell ⟨w.heap.size + 1, 0, none⟩ x0).setCell ⟨w.heap.size + 1, 1, none⟩ x1).setCell ⟨w.heap.size + 1, 2, none⟩ x2).setCell ⟨w.heap.size + 1, 3, none⟩ x3).cell? ⟨w.heap.size, 2, none⟩ = some (.slice a2 n2 c2) ∧ ((((V.setCell ⟨w.heap.size + 1, 0, none⟩ x0).setCell ⟨w.heap.size + 1, 1, none⟩ x1).setCell ⟨w.heap.size + 1, 2, none⟩ x2).setCell ⟨w.heap.size + 1, 3, none⟩ x3).cell? ⟨w.heap.size, 3, none⟩ = some (.slice a3 n3 c3) := fun V hV x0 x1 x2 x3 => by
    simp only [far]
    exact ⟨b4set (b4set (b4set (b4set (BTr hb2 hV) (by omega)) (by omega)) (by omega)) (by omega), (hcl V hV).1⟩
  clear ih r1 r2 r3 hl1 hl2 hl3 hz hQ hu x1 far
  go_enter Tryz.func30, Tryz.ntmps30
  go_wp2_with fail
  rw [← HW2.out]
  go_region_held3 (fun V => Below w.heap.size w V ∧ V.cell? ⟨w.heap.size, 0, none⟩ = some (.int .i64 v.number) ∧ V.cell? ⟨w.heap.size, 1, none⟩ = some (.slice a1 n1 c1) ∧ V.cell? ⟨w.heap.size, 2, none⟩ = some (.slice a2 n2 c2) ∧ V.cell? ⟨w.heap.size, 3, none⟩ = some (.slice a3 n3 c3)) ((first | (with_reducible refine hS _ ?_; with_reducible (first | exact hD | exact hA | exact hZ | exact hY)) | (with_reducible refine hS4 _ ?_ _ _ _ _; with_reducible (first | exact hA | exact hY)))) ((first | (refine step_appB (by rfl) ekU _ _ (by rfl) W2.heap.size (.slice none 0 0) [] v.bits (by rfl) (Row.nil _ _ _) a1 n1 c1 (by rfl) (hsU _ hD).1 (hsU _ hD).2.1 (hsU _ (by with_reducible (first | exact hD | exact hZ | exact hY))).2.2 (by decide) hby (by with_reducible (first | exact hD.size | exact hZ.size | exact hY.size)) ?_; intro vA wA hrA hgA hkA; obtain ⟨aA, nA, cA, rfl, HnA⟩ := hrA.shape'; have hA : Below W2.heap.size W2 wA := BTr (by with_reducible (first | exact hD | exact hZ | exact hY)) (grown_below hgA); obtain ⟨⟨tA0, tA1, tA2, tA3⟩, sA0, sA1, sA2, sA3, sA4, sA5, sA6, sA7⟩ := hcl _ hA) | (go_at_call 63; refine (hcz _ (by with_reducible (first | exact hD | exact hA))).mono ?_; rintro e wZ ⟨aZ, nZ, cZ, lZ, rfl, hcZ⟩; have hZ : Below W2.heap.size W2 wZ := BTr (by with_reducible (first | exact hD | exact hA)) hcZ.below; obtain ⟨⟨tZ0, tZ1, tZ2, tZ3⟩, sZ0, sZ1, sZ2, sZ3, sZ4, sZ5, sZ6, sZ7⟩ := hcl _ hZ) | (go_at_call 65; refine (hcb _ (by with_reducible (first | exact hZ | exact hA))).mono ?_; rintro e wY ⟨aY, nY, cY, lY, rfl, hcY⟩; have hY : Below W2.heap.size W2 wY := BTr (by with_reducible (first | exact hZ | exact hA)) hcY.below; obtain ⟨⟨tY0, tY1, tY2, tY3⟩, sY0, sY1, sY2, sY3, sY4, sY5, sY6, sY7⟩ := hcl _ hY)))
  have hzA : W2.heap.size ≤ wA.heap.size := hA.size
  have hzZ : wA.heap.size ≤ wZ.heap.size := hcZ.below.size
  have hzY : wZ.heap.size ≤ wY.heap.size := hcY.below.size
  have iA : ∀ k ∈ own1 ((aA, nA, cA) : PV), W2.heap.size ≤ k ∧ k < wA.heap.size := fun k hk => by
    have hk' : (Value.slice aA nA cA).ownBlock = some k := mem_own1.1 hk
    exact ⟨(hrA.own k hk').1, (hrA.own k hk').2⟩
  have iZ : ∀ k ∈ own1 ((aZ, nZ, cZ) : PV), wA.heap.size ≤ k ∧ k < wZ.heap.size := fun k hk => ⟨hcZ.ge k (List.mem_append_left _ hk), (hcZ.row.own1 k hk).2⟩
  have iY : ∀ k ∈ own1 ((aY, nY, cY) : PV) ++ lY.flatMap (LB.fp d), wZ.heap.size ≤ k ∧ k < wY.heap.size := fun k hk => ⟨hcY.ge k hk, by
    rcases List.mem_append.1 hk with hk | hk
    · exact (hcY.row.own1 k hk).2
    · obtain ⟨s, hs, hk⟩ := List.mem_flatMap.1 hk
      exact (OwnB.inB d (hcY.own s hs) k hk).2⟩
  have hx2 : wY.heap[w.heap.size + 1]? = some (.cells #[.int .i64 0, .slice none 0 0, .slice none 0 0, .slice none 0 0] 34 (0, 0)) := (hY.block _ (by omega)).trans x2
  have hf := fr4 hx2 (x0 := .int .i64 v.number) (x1 := .slice aA nA cA) (x2 := .slice aZ nZ cZ) (x3 := .slice aY nY cY)
  have rA : Row ekU wY W2.heap.size (PV.v (aA, nA, cA)) v.bits := by
    have := (hrA.below hcZ.below).below hcY.below
    rw [List.nil_append] at this
    exact this
  have hys : ∀ s ∈ lY, OwnB W2.heap.size d wY s := fun s hs => hcY.own s hs
  go_wp2_with fail
  refine bodyPost_ret (v := .agg #[.int .i64 v.number, .slice aA nA cA, .slice aZ nZ cZ, .slice aY nY cY]) (by simp [results, Tryz.results30, go_sem, *]) rfl ?_
  refine ⟨⟨v.number, v.bits, lZ, lY, (aA, nA, cA), (aZ, nZ, cZ), (aY, nY, cY)⟩, v.number, aA, nA, cA, aZ, nZ, cZ, aY, nY, cY, rfl, rfl, ?_, ?_, ?_, ?_, ?_⟩
  · simp only [VL.pl, hcZ.map, hcY.map]
  · refine ⟨?_, ?_, fun z hz => ?_, ?_, fun s hs => ?_⟩
    · exact ((((rA.set4 (by omega)).set4 (by omega)).set4 (by omega)).set4 (by omega)).mono (by omega)
    · exact (((((hcZ.row.below hcY.below).set4 (by omega)).set4 (by omega)).set4 (by omega)).set4 (by omega)).mono (by omega)
    · have hz' : Row ekY wZ W2.heap.size z.2.v z.1 := hcZ.own z hz
      exact (((((hz'.below hcY.below).set4 (by omega)).set4 (by omega)).set4 (by omega)).set4 (by omega)).mono (by omega)
    · exact ((((hcY.row.set4 (by omega)).set4 (by omega)).set4 (by omega)).set4 (by omega)).mono (by omega)
    · refine OwnB.mono d (OwnB.fr d [w.heap.size + 1] wY _ s (hys s hs) hf fun k hk hm => ?_) (by omega)
      rw [List.mem_singleton] at hm
      have := iY k (List.mem_append_right _ (List.mem_flatMap.2 ⟨s, hs, hk⟩))
      omega
  · intro k hk
    simp only [VL.fp] at hk
    rw [List.append_assoc] at hk
    rcases List.mem_append.1 hk with hk | hk
    · rcases List.mem_append.1 hk with hk | hk
      · have := iA k hk; omega
      · have := iZ k hk; omega
    · have := iY k hk; omega
  · simp only [VL.fp]
    rw [List.append_assoc]
    exact nodup3 (own1_nd _) (own1_nd _) hcY.nd iA iZ iY (.inl (Nat.le_refl _)) (.inl hzZ) (.inl (Nat.le_refl _))
  · exact b4set (b4set (b4set (b4set (BTr hb2 hY) (by omega)) (by omega)) (by omega)) (by omega)

end L
end Go.Proofs.YtelmjekjohbmjaaGreatDoor

/- Own: a body's own copy. -/
namespace Go.Proofs.YtelmjekjohbmjaaGreatDoor
namespace L
open Go.RowKit

theorem nodup2 {a b : List Nat} {la ha lb hb : Nat} (na : a.Nodup) (nb : b.Nodup) (ia : ∀ k ∈ a, la ≤ k ∧ k < ha) (ib : ∀ k ∈ b, lb ≤ k ∧ k < hb) (dab : ha ≤ lb ∨ hb ≤ la) : (a ++ b).Nodup := by
  refine List.nodup_append.2 ⟨na, nb, fun x hx y hy e => ?_⟩
  subst e
  have := ia x hx; have := ib x hy
  omega
theorem fr2 {w : World} {g : Nat} {cs : Array Value} {x0 x1 : Value} (h : w.heap[g]? = some (.cells cs 29 (0, 0))) : FrB [g] w ((w.setCell ⟨g, 0, none⟩ x0).setCell ⟨g, 1, none⟩ x1) :=
  frB_trans1 (frB_set h (by decide)) (frB_set (heap_setCell_same _ _ 0 _ _ x0 h) (by decide))
set_option maxHeartbeats 4000000 in
set_option maxRecDepth 100000 in
theorem own_step {d : Nat} (ih : OwnVTold d) : OwnTold (d + 1) := by
  intro w B0 a0 n0 c0 a1 n1 c1 x hB hq hok
  have hq : BRd d w (.slice a0 n0 c0) (.slice a1 n1 c1) x := hq
  obtain ⟨hv, hl0, hr, hl1⟩ : (∀ v ∈ BO.vals x, VOk (BOk d) v) ∧ (BO.vals x).length * 80 ≤ reachBytes ∧ (∀ r ∈ BO.unk x, RecOk r) ∧ (BO.unk x).length * 48 ≤ reachBytes := hok
  obtain ⟨W2, HW2⟩ : ∃ W2, Hid (W2 = (w.alloc (.cells #[.slice a0 n0 c0, .slice a1 n1 c1] 29)).alloc (.cells #[.slice none 0 0, .slice none 0 0] 29)) := ⟨_, rfl⟩
  have hb2 : Below w.heap.size w W2 := by rw [HW2.out]; exact ((Below.refl _ _).alloc (Nat.le_refl _) _).alloc (by simp) _
  have z2 : w.heap.size + 2 ≤ W2.heap.size := by rw [HW2.out]; simp
  have x1 : W2.heap[w.heap.size]? = some (.cells #[.slice a0 n0 c0, .slice a1 n1 c1] 29 (0, 0)) := by rw [HW2.out]; exact alloc2_old _ _ _
  have x2 : W2.heap[w.heap.size + 1]? = some (.cells #[.slice none 0 0, .slice none 0 0] 29 (0, 0)) := by rw [HW2.out]; exact alloc2_new _ _ _
  have hcv : ∀ V, Below W2.heap.size W2 V → Calls Tryz.prog 29 #[.slice a0 n0 c0, .func (.func 30) #[] #[]] V fun e w' => ∃ (a : Option Addr) (n c : Nat) (l' : List (VL (LB d))), e = .returned (.slice a n c) ∧ Cop (ekV (LB d)) (VL.pl (LB.pl d)) (fun w (v : VL (LB d)) => OwnV (ekB d) (OwnB W2.heap.size d) w W2.heap.size v) (VL.fp (LB.fp d)) V W2.heap.size (BO.vals x) w' (a, n, c) l' := fun V hV =>
    (copV_any hV.size (hq.1.below (VAt.stays (BAt.stays d)) (BTr hb2 hV)) hl0 (enters_of Tryz.func30 (by kernel_rfl) rfl) (fun U hU a ha a1 n1 c1 a2 n2 c2 a3 n3 c3 r1 r2 r3 => ih U W2.heap.size a a1 n1 c1 a2 n2 c2 a3 n3 c3 (Nat.le_trans hV.size hU.size) r1 r2 r3 (hv a ha))).mono fun e w' ⟨⟨a, n, c⟩, l', he, hc⟩ => ⟨a, n, c, l', he, hc⟩
  have hcr : ∀ V, Below W2.heap.size W2 V → Calls Tryz.prog 31 #[.slice a1 n1 c1, .func (.func 32) #[] #[]] V fun e w' => ∃ (a : Option Addr) (n c : Nat) (l' : List (RI × PV)), e = .returned (.slice a n c) ∧ Cop ekR Prod.fst (fun w (r : RI × PV) => Row ekY w W2.heap.size r.2.v r.1.bytes) (fun (_ : RI × PV) => ([] : List Nat)) V W2.heap.size (BO.unk x) w' (a, n, c) l' := fun V hV =>
    (copR_any hV.size (hq.2.below RAt.stays (BTr hb2 hV)) hl1 (enters_of Tryz.func32 (by kernel_rfl) rfl) (fun U hU a ha ay ny cy hy => (ownRec_any (B0 := W2.heap.size) (Nat.le_trans hV.size hU.size) a hy (by have := (hr a ha).2.2.2; unfold reachBytes at this; omega)).mono fun e w' ⟨ax, nx, cx, he, hrw, hbl⟩ => ⟨(a, (ax, nx, cx)), a.number, a.how, (a.bits : Int), ax, nx, cx, rfl, he, rfl, hrw, fun k hk => by simp at hk, by simp, hbl⟩)).mono fun e w' ⟨⟨a, n, c⟩, l', he, hc⟩ => ⟨a, n, c, l', he, hc⟩
  have hcl : ∀ V, Below W2.heap.size W2 V → Below w.heap.size w V ∧ V.cell? ⟨w.heap.size, 0, none⟩ = some (.slice a0 n0 c0) ∧ V.cell? ⟨w.heap.size, 1, none⟩ = some (.slice a1 n1 c1) := fun V hV => ⟨BTr hb2 hV, blk2 ((hV.block _ (by omega)).trans x1)⟩
  have hcl2 : ∀ V, Below W2.heap.size W2 V → V.heap[w.heap.size + 1]? = some (.cells #[.slice none 0 0, .slice none 0 0] 29 (0, 0)) := fun V hV => (hV.block _ (by omega)).trans x2
  have hD : Below W2.heap.size W2 W2.drew := (Below.refl _ _).drew
  have far : ∀ (V : World) (i j : Nat) (x : Value), (V.setCell ⟨w.heap.size + 1, i, none⟩ x).cell? ⟨w.heap.size, j, none⟩ = V.cell? ⟨w.heap.size, j, none⟩ := fun V i j x => World.cell?_setCell_far V _ _ _ (by simp)
  have hS2 : ∀ V, Below W2.heap.size W2 V → ∀ y0 y1 : Value, Below w.heap.size w ((V.setCell ⟨w.heap.size + 1, 0, none⟩ y0).setCell ⟨w.heap.size + 1, 1, none⟩ y1) ∧ ((V.setCell ⟨w.heap.size + 1, 0, none⟩ y0).setCell ⟨w.heap.size + 1, 1, none⟩ y1).cell? ⟨w.heap.size, 0, none⟩ = some (.slice a0 n0 c0) ∧ ((V.setCell ⟨w.heap.size + 1, 0, none⟩ y0).setCell ⟨w.heap.size + 1, 1, none⟩ y1).cell? ⟨w.heap.size, 1, none⟩ = some (.slice a1 n1 c1) := fun V hV y0 y1 => by
    simp only [far]
    exact ⟨b4set (b4set (BTr hb2 hV) (by omega)) (by omega), (hcl V hV).2⟩
  have ne1 : ¬ w.heap.size = w.heap.size + 1 := by omega
  have ne2 : ¬ w.heap.size + 1 = w.heap.size := by omega
  clear ih hv hr hl0 hl1 hq x1 far
  go_enter Tryz.func11, Tryz.ntmps11
  go_wp2_with fail
  rw [← HW2.out]
  go_region_held3 (fun V => Below w.heap.size w V ∧ V.cell? ⟨w.heap.size, 0, none⟩ = some (.slice a0 n0 c0) ∧ V.cell? ⟨w.heap.size, 1, none⟩ = some (.slice a1 n1 c1)) ((first | (with_reducible refine hcl _ ?_; with_reducible (first | exact hD | exact hZ | exact hY)) | (with_reducible refine hS2 _ ?_ _ _; with_reducible exact hY))) ((first | (go_at_call 29; refine (hcv _ (by with_reducible exact hD)).mono ?_; rintro e wZ ⟨aZ, nZ, cZ, lZ, rfl, hcZ⟩; have hZ : Below W2.heap.size W2 wZ := BTr hD hcZ.below) | (go_at_call 31; refine (hcr _ (by with_reducible exact hZ)).mono ?_; rintro e wY ⟨aY, nY, cY, lY, rfl, hcY⟩; have hY : Below W2.heap.size W2 wY := BTr hZ hcY.below; have hx2 := hcl2 _ hY; obtain ⟨sY0, sY1⟩ := blk2 hx2; have sY2 := fr_of_blk hx2 0; have sY3 := fr_of_blk hx2 1)))
  have hzZ : W2.heap.size ≤ wZ.heap.size := hZ.size
  have hzY : wZ.heap.size ≤ wY.heap.size := hcY.below.size
  have iZ : ∀ k ∈ own1 ((aZ, nZ, cZ) : PV) ++ lZ.flatMap (VL.fp (LB.fp d)), W2.heap.size ≤ k ∧ k < wZ.heap.size := fun k hk => ⟨hcZ.ge k hk, by
    rcases List.mem_append.1 hk with hk | hk
    · exact (hcZ.row.own1 k hk).2
    · obtain ⟨s, hs, hk⟩ := List.mem_flatMap.1 hk
      exact (entV W2.heap.size d).inB wZ s (hcZ.own s hs) k hk⟩
  have iY : ∀ k ∈ own1 ((aY, nY, cY) : PV), wZ.heap.size ≤ k ∧ k < wY.heap.size := fun k hk => ⟨hcY.ge k (List.mem_append_left _ hk), (hcY.row.own1 k hk).2⟩
  have hf := fr2 hx2 (x0 := .slice aZ nZ cZ) (x1 := .slice aY nY cY)
  go_wp2_with fail
  refine bodyPost_ret (v := .agg #[.slice aZ nZ cZ, .slice aY nY cY]) (by simp [results, Tryz.results11, go_sem, *]) rfl ?_
  refine ⟨(⟨lZ, lY, (aZ, nZ, cZ), (aY, nY, cY)⟩ : BL (LB d)), aZ, nZ, cZ, aY, nY, cY, rfl, rfl, ?_, ?_, ?_, ?_, ?_⟩
  · show (⟨lZ.map (VL.pl (LB.pl d)), lY.map Prod.fst⟩ : BO (BI d)) = x
    rw [hcZ.map, hcY.map]
    rfl
  · refine ⟨?_, fun v hv => ?_, ?_, fun r hr => ?_⟩
    · exact (((hcZ.row.below hcY.below).set4 (by omega)).set4 (by omega)).mono (by omega)
    · have h1 := (entV W2.heap.size d).below (hcZ.own v hv) hcY.below
      have h2 := (entV W2.heap.size d).fr [w.heap.size + 1] wY _ v h1 hf fun k hk hm => by
        rw [List.mem_singleton] at hm
        have := iZ k (List.mem_append_right _ (List.mem_flatMap.2 ⟨v, hv, hk⟩))
        omega
      exact OwnV.mono h2 (by omega) fun s hs => OwnB.mono d hs (by omega)
    · exact ((hcY.row.set4 (by omega)).set4 (by omega)).mono (by omega)
    · have hr' : Row ekY wY W2.heap.size r.2.v r.1.bytes := hcY.own r hr
      exact ((hr'.set4 (by omega)).set4 (by omega)).mono (by omega)
  · intro k hk
    have hk : k ∈ own1 ((aZ, nZ, cZ) : PV) ++ own1 ((aY, nY, cY) : PV) ++ lZ.flatMap (VL.fp (LB.fp d)) := hk
    rcases List.mem_append.1 hk with hk | hk
    · rcases List.mem_append.1 hk with hk | hk
      · have := iZ k (List.mem_append_left _ hk); omega
      · have := iY k hk; omega
    · have := iZ k (List.mem_append_right _ hk); omega
  · show (own1 ((aZ, nZ, cZ) : PV) ++ own1 ((aY, nY, cY) : PV) ++ lZ.flatMap (VL.fp (LB.fp d))).Nodup
    have hp : (own1 ((aZ, nZ, cZ) : PV) ++ lZ.flatMap (VL.fp (LB.fp d)) ++ own1 ((aY, nY, cY) : PV)).Perm (own1 ((aZ, nZ, cZ) : PV) ++ own1 ((aY, nY, cY) : PV) ++ lZ.flatMap (VL.fp (LB.fp d))) := by
      rw [List.append_assoc, List.append_assoc]
      exact List.Perm.append_left _ List.perm_append_comm
    exact hp.nodup_iff.1 (nodup2 hcZ.nd (own1_nd _) iZ iY (.inl (Nat.le_refl _)))
  · exact b4set (b4set (BTr hb2 hY) (by omega)) (by omega)
theorem ownTold : ∀ d, OwnTold d
  | 0 => fun _ _ _ _ _ _ _ _ _ _ hq _ => hq.elim
  | d + 1 => own_step (ownV_step (ownTold d))
theorem ownVTold (d : Nat) : OwnVTold d := ownV_step (ownTold d)

end L
end Go.Proofs.YtelmjekjohbmjaaGreatDoor

