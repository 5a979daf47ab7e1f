import Derived.Test.YtelmjekjohbmjaaGreatDoorRows
import Derived.Test.YtelmjekjohbmjaaGreatDoorM14
import Derived.Test.YtelmjekjohbmjaaGreatDoorM21
/- A body that came in, opened, where what came in is not too much: how much there is of it. -/
namespace Go.Proofs.YtelmjekjohbmjaaGreatDoor
namespace L
open Go.ChangeShapes Go.WideShapes Go.ChangeAt Go.RowKit
set_option linter.unusedVariables false

section
variable {H : Type} {enc : TypeId × Value → H} {w : World} {base : Nat} {spare : Nat → Bool} {held : Bool}

theorem bulk_one (d : DataW H) : 1 ≤ Rows.uptoBulk d := by
  cases d with
  | lit l => cases l <;> simp [Rows.uptoBulk]
  | nil => simp [Rows.uptoBulk]
  | ptr d => simp [Rows.uptoBulk]
  | slice elems spare => simp [Rows.uptoBulk]
  | agg parts => simp [Rows.uptoBulk]
  | iface t d => simp [Rows.uptoBulk]
  | map entries => simp [Rows.uptoBulk]
  | held h => simp [Rows.uptoBulk]
theorem bulk_app (l r : List (DataW H)) : Rows.uptoBulkAll (l ++ r) = Rows.uptoBulkAll l + Rows.uptoBulkAll r := by
  induction l with
  | nil => simp [Rows.uptoBulkAll]
  | cons x l ih => simp only [List.cons_append, Rows.uptoBulkAll, ih]; omega
theorem bulk_mem {d : DataW H} {l : List (DataW H)} (h : d ∈ l) : Rows.uptoBulk d ≤ Rows.uptoBulkAll l := by
  induction l with
  | nil => cases h
  | cons x r ih =>
    simp only [Rows.uptoBulkAll]
    cases List.mem_cons.1 h with
    | inl e => subst e; omega
    | inr e => have := ih e; omega
theorem list_of {α : Type} {R : Nat → α → Prop} {f : α → Nat} {D : Nat → DataW H} : ∀ len : Nat, (∀ i, i < len → ∃ y, R i y ∧ f y ≤ 60 * Rows.uptoBulk (D i)) → ∃ l : List α, l.length = len ∧ (∀ k y, l[k]? = some y → R k y) ∧ (l.map f).sum ≤ 60 * Rows.uptoBulkAll ((List.range len).map D) ∧ len ≤ Rows.uptoBulkAll ((List.range len).map D)
  | 0, _ => ⟨[], rfl, fun k y h => by simp at h, by simp [Rows.uptoBulkAll], by simp⟩
  | len + 1, h => by
    obtain ⟨l, h1, h2, h3, h4⟩ := list_of len fun i hi => h i (by omega)
    obtain ⟨y, hy, hf⟩ := h len (by omega)
    have hb := bulk_one (D len)
    refine ⟨l ++ [y], by simp [h1], fun k z hz => ?_, ?_, ?_⟩
    · by_cases hk : k < l.length
      · rw [List.getElem?_append_left hk] at hz; exact h2 k z hz
      · have hk' : k = l.length := by
          have := (List.getElem?_eq_some_iff.1 hz).1
          rw [List.length_append, List.length_singleton] at this
          omega
        subst hk'
        rw [List.getElem?_append_right (Nat.le_refl _), Nat.sub_self] at hz
        have : y = z := by simpa using hz
        subst this
        rw [h1]
        exact hy
    · rw [List.range_succ, List.map_append, List.map_append, bulk_app, List.sum_append]
      simp only [List.map_cons, List.map_nil, List.sum_cons, List.sum_nil, Rows.uptoBulkAll]
      omega
    · rw [List.range_succ, List.map_append, bulk_app]
      simp only [List.map_cons, List.map_nil, Rows.uptoBulkAll]
      omega
/-- A list that came in: what each entry can be at most, together. -/
theorem open_listU {α : Type} {P : World → Addr → α → Prop} {Q : α → Prop} {f : α → Nat} {sz : Nat} {t e : TypeId} (ht : Tryz.prog.underlying t = some (.slice e)) (hc : Tryz.prog.cellsOf e = sz)
    {fuel : Nat} {cs : List Value} {d : DataW H} {pl : List MemPlace} (h : DataW.trod enc Tryz.prog w base spare held fuel t cs = some (d, pl)) (hB : Rows.uptoBulk d ≤ 1048576)
    (hel : ∀ (fuel : Nat) (a : Addr) (cs : List Value) (d' : DataW H) (pl : List MemPlace), SizeOf.sizeOf d' < SizeOf.sizeOf d → w.cells? base a sz = some cs → DataW.trod enc Tryz.prog w base spare held fuel e cs = some (d', pl) → Rows.uptoBulk d' ≤ 1048576 → ∃ y, P w a y ∧ Q y ∧ f y ≤ 60 * Rows.uptoBulk d') :
    ∃ v l, cs = [v] ∧ RdL sz P w v l ∧ (∀ y ∈ l, Q y) ∧ (l.map f).sum + 60 ≤ 60 * Rows.uptoBulk d ∧ l.length + 1 ≤ Rows.uptoBulk d := by
  rcases Go.Deep.open_slice ht h with ⟨hcs, hx⟩ | ⟨a, len, cap, m, n, D, Pl, hcs, _, hl, hm, hmm, hx, hels⟩
  · have hb := bulk_one d
    exact ⟨_, [], hcs, RdL.nil _ _ _, fun y hy => by simp at hy, by simp; omega, by simpa using hb⟩
  · rw [hc] at hels
    have hd := (Prod.mk.inj hx).1
    have hm' : len ≤ m := by rw [hmm]; split <;> omega
    have hbd : Rows.uptoBulkAll ((List.range len).map D) + 1 ≤ Rows.uptoBulk d := by rw [hd]; simp only [Rows.uptoBulk]; omega
    obtain ⟨l, h1, h2, h3, h4⟩ := list_of (R := fun i y => P w (a.add (i * sz)) y ∧ Q y) (f := f) (D := D) len fun i hi => by
      obtain ⟨cs', g1, g2⟩ := hels i (by omega)
      have hmem : D i ∈ (List.range len).map D := List.mem_map.2 ⟨i, List.mem_range.2 hi, rfl⟩
      obtain ⟨y, q1, q2, q3⟩ := hel n _ cs' (D i) (Pl i) (by
        have := List.sizeOf_lt_of_mem hmem
        rw [hd, DataW.slice.sizeOf_spec]
        omega) g1 g2 (by have := bulk_mem hmem; omega)
      exact ⟨y, ⟨q1, q2⟩, q3⟩
    refine ⟨_, l, hcs, ⟨some a, len, cap, rfl, h1, hl, hm, fun h => (by cases h), fun x hx' k y hy => ?_⟩, fun y hy => ?_, by omega, by omega⟩
    · cases hx'
      exact (h2 k y hy).1
    · obtain ⟨k, hk⟩ := List.getElem?_of_mem hy
      exact (h2 k y hk).2

theorem open_u64U {fuel : Nat} {c : Value} {x : DataW H × List MemPlace} (h : DataW.trod enc Tryz.prog w base spare held fuel 35 [c] = some x) : ∃ n : Nat, c = .int .u64 (n : Int) ∧ n ≤ 18446744073709551615 := by
  obtain ⟨n, h1, _, h2⟩ := DataW.trod_int Tryz.underlying35 h
  simp at h1
  have := bounds_u64 h2
  exact ⟨n.toNat, by rw [h1, Int.toNat_of_nonneg (by omega)], by omega⟩
theorem open_bitU (fuel : Nat) (a : Addr) (cs : List Value) (d : DataW H) (pl : List MemPlace) (hc : w.cells? base a 1 = some cs) (h : DataW.trod enc Tryz.prog w base spare held fuel 35 cs = some (d, pl)) : ∃ y, UAt w a y ∧ y ≤ 18446744073709551615 ∧ 0 ≤ 60 * Rows.uptoBulk d := by
  obtain ⟨_, hlen, hcell⟩ := World.cells?_some hc
  match cs, hlen with
  | [v0], _ =>
    obtain ⟨n1, rfl, z1⟩ := open_u64U h
    refine ⟨n1, ?_, z1, Nat.zero_le _⟩
    have := hcell 0 (by omega)
    simpa [Addr.add, UAt] using this
theorem open_byteU (fuel : Nat) (a : Addr) (cs : List Value) (d : DataW H) (pl : List MemPlace) (hc : w.cells? base a 1 = some cs) (h : DataW.trod enc Tryz.prog w base spare held fuel 5 cs = some (d, pl)) : ∃ y, YAt w a y ∧ True ∧ 0 ≤ 60 * Rows.uptoBulk d := by
  obtain ⟨_, hlen, hcell⟩ := World.cells?_some hc
  match cs, hlen with
  | [v0], _ =>
    obtain ⟨n, h1, _, h2⟩ := DataW.trod_int Tryz.underlying5 h
    simp at h1
    subst h1
    have hb := bounds_u8 h2
    refine ⟨UInt8.ofNat n.toNat, ?_, trivial, Nat.zero_le _⟩
    have := hcell 0 (by omega)
    have e : (((UInt8.ofNat n.toNat).toNat : Nat) : Int) = n := by
      rw [UInt8.toNat_ofNat', Nat.mod_eq_of_lt (by omega), Int.toNat_of_nonneg (by omega)]
    show w.cell? a = some (.int .u8 (((UInt8.ofNat n.toNat).toNat : Nat) : Int))
    rw [e]
    simpa [Addr.add] using this
theorem open_rawU {fuel : Nat} {cs : List Value} {d : DataW H} {pl : List MemPlace} (h : DataW.trod enc Tryz.prog w base spare held fuel 68 cs = some (d, pl)) (hB : Rows.uptoBulk d ≤ 1048576) : ∃ v l, cs = [v] ∧ RdL 1 YAt w v l ∧ l.length + 1 ≤ Rows.uptoBulk d := by
  obtain ⟨v, l, e, r, _, _, b⟩ := open_listU (P := YAt) (Q := fun _ => True) (f := fun _ => 0) (sz := 1) Tryz.underlying68 (by kernel_rfl) h hB fun fuel a cs d' pl _ hc h' _ => open_byteU fuel a cs d' pl hc h'
  exact ⟨v, l, e, r, b⟩
theorem open_rawsU (fuel : Nat) (a : Addr) (cs : List Value) (d : DataW H) (pl : List MemPlace) (hc : w.cells? base a 1 = some cs) (h : DataW.trod enc Tryz.prog w base spare held fuel 68 cs = some (d, pl)) (hB : Rows.uptoBulk d ≤ 1048576) : ∃ y, ZAt w a y ∧ y.length * 1 ≤ reachBytes ∧ 1 ≤ 60 * Rows.uptoBulk d := by
  obtain ⟨_, hlen, hcell⟩ := World.cells?_some hc
  obtain ⟨v, l, e, r, b⟩ := open_rawU h hB
  subst e
  refine ⟨l, ⟨v, ?_, r⟩, by unfold reachBytes; omega, by omega⟩
  have := hcell 0 (by omega)
  simpa [Addr.add] using this
theorem part_bulk {xs : List (DataW H × List MemPlace)} {i : Nat} (hi : i < xs.length) : Rows.uptoBulk (xs[i]'hi).1 + 1 ≤ Rows.uptoBulk (DataW.agg (xs.map (·.1))) := by
  have hm : (xs[i]'hi).1 ∈ xs.map (·.1) := List.mem_map.2 ⟨_, List.getElem_mem hi, rfl⟩
  have := bulk_mem hm
  simp only [Rows.uptoBulk]
  omega
theorem part_ltU {xs : List (DataW H × List MemPlace)} {i : Nat} (hi : i < xs.length) : SizeOf.sizeOf (xs[i]'hi).1 < SizeOf.sizeOf (DataW.agg (xs.map (·.1))) := by
  have : (xs[i]'hi).1 ∈ xs.map (·.1) := List.mem_map.2 ⟨_, List.getElem_mem hi, rfl⟩
  have := List.sizeOf_lt_of_mem this
  rw [DataW.agg.sizeOf_spec]
  omega
theorem bulk4 {xs : List (DataW H × List MemPlace)} (h : xs.length = 4) : Rows.uptoBulk (DataW.agg (xs.map (·.1))) = Rows.uptoBulk (xs[0]'(by omega)).1 + Rows.uptoBulk (xs[1]'(by omega)).1 + Rows.uptoBulk (xs[2]'(by omega)).1 + Rows.uptoBulk (xs[3]'(by omega)).1 + 1 := by
  match xs, h with
  | [a, b, c, d], _ => simp [Rows.uptoBulk, Rows.uptoBulkAll]; omega
theorem bulk2 {xs : List (DataW H × List MemPlace)} (h : xs.length = 2) : Rows.uptoBulk (DataW.agg (xs.map (·.1))) = Rows.uptoBulk (xs[0]'(by omega)).1 + Rows.uptoBulk (xs[1]'(by omega)).1 + 1 := by
  match xs, h with
  | [a, b], _ => simp [Rows.uptoBulk, Rows.uptoBulkAll]
set_option maxRecDepth 100000 in
theorem open_recU (fuel : Nat) (a : Addr) (cs : List Value) (d : DataW H) (pl : List MemPlace) (hc : w.cells? base a 4 = some cs) (h : DataW.trod enc Tryz.prog w base spare held fuel 73 cs = some (d, pl)) (hB : Rows.uptoBulk d ≤ 1048576) : ∃ y, RAt w a y ∧ RecOk y ∧ 1 ≤ 60 * Rows.uptoBulk d := by
  obtain ⟨_, hlen, hcell⟩ := World.cells?_some hc
  obtain ⟨xs, n, _, hx, _, hxl, hf⟩ := DataW.trod_struct Tryz.underlying73 h
  have hd := (Prod.mk.inj hx).1
  match cs, hlen with
  | [v0, v1, v2, v3], _ =>
    have hxs : xs.length = 4 := hxl
    have f0 : DataW.trod enc Tryz.prog w base spare held n 3 [v0] = xs[0]? := hf 0 _ rfl
    have f1 : DataW.trod enc Tryz.prog w base spare held n 3 [v1] = xs[1]? := hf 1 _ rfl
    have f2 : DataW.trod enc Tryz.prog w base spare held n 35 [v2] = xs[2]? := hf 2 _ rfl
    have f3 : DataW.trod enc Tryz.prog w base spare held n 68 [v3] = xs[3]? := hf 3 _ rfl
    rw [List.getElem?_eq_getElem (by omega)] at f0 f1 f2 f3
    have g3 := part_bulk (xs := xs) (i := 3) (by omega)
    rw [← hd] at g3
    obtain ⟨n0, rfl, z0⟩ := open_num f0
    obtain ⟨n1, rfl, z1⟩ := open_num f1
    obtain ⟨n2, rfl, z2⟩ := open_u64U f2
    obtain ⟨u3, l3, e3, r3, b3⟩ := open_rawU (d := (xs[3]'(by omega)).1) (pl := (xs[3]'(by omega)).2) f3 (by omega)
    simp at e3
    subst e3
    refine ⟨⟨n0, n1, n2, l3⟩, ⟨v3, ?_, hcell 1 (by omega), hcell 2 (by omega), hcell 3 (by omega), r3⟩, ⟨z0, z1, by show n2 < 18446744073709551616; omega, by show l3.length * 1 ≤ reachBytes; unfold reachBytes; omega⟩, by have := bulk_one d; omega⟩
    have := hcell 0 (by omega)
    simpa [Addr.add] using this
set_option maxRecDepth 100000 in
theorem open_valU {β : Type} {P : World → Addr → β → Prop} {Q : β → Prop} {f : β → Nat} (fuel : Nat) (a : Addr) (cs : List Value) (d : DataW H) (pl : List MemPlace) (hc : w.cells? base a 4 = some cs) (h : DataW.trod enc Tryz.prog w base spare held fuel 34 cs = some (d, pl)) (hB : Rows.uptoBulk d ≤ 1048576)
    (hel : ∀ (fuel : Nat) (a : Addr) (cs : List Value) (d' : DataW H) (pl : List MemPlace), SizeOf.sizeOf d' < SizeOf.sizeOf d → w.cells? base a 2 = some cs → DataW.trod enc Tryz.prog w base spare held fuel 29 cs = some (d', pl) → Rows.uptoBulk d' ≤ 1048576 → ∃ y, P w a y ∧ Q y ∧ 1 + f y ≤ 60 * Rows.uptoBulk d') : ∃ y, VAt P w a y ∧ VOk Q y ∧ jW f y ≤ 60 * Rows.uptoBulk d := by
  obtain ⟨_, hlen, hcell⟩ := World.cells?_some hc
  obtain ⟨xs, n, _, hx, _, hxl, hf⟩ := DataW.trod_struct Tryz.underlying34 h
  have hd := (Prod.mk.inj hx).1
  match cs, hlen with
  | [v0, v1, v2, v3], _ =>
    have hxs : xs.length = 4 := hxl
    have f0 : DataW.trod enc Tryz.prog w base spare held n 3 [v0] = xs[0]? := hf 0 _ rfl
    have f1 : DataW.trod enc Tryz.prog w base spare held n 30 [v1] = xs[1]? := hf 1 _ rfl
    have f2 : DataW.trod enc Tryz.prog w base spare held n 31 [v2] = xs[2]? := hf 2 _ rfl
    have f3 : DataW.trod enc Tryz.prog w base spare held n 32 [v3] = xs[3]? := hf 3 _ rfl
    rw [List.getElem?_eq_getElem (by omega)] at f0 f1 f2 f3
    have hb4 := bulk4 hxs
    rw [← hd] at hb4
    have g0 := bulk_one (xs[0]'(by omega)).1
    have g3 := part_ltU (xs := xs) (i := 3) (by omega)
    rw [← hd] at g3
    obtain ⟨n0, rfl, z0⟩ := open_num f0
    obtain ⟨u1, l1, e1, r1, k1, _, b1⟩ := open_listU (P := UAt) (Q := fun n => n ≤ 18446744073709551615) (f := fun _ => 0) (sz := 1) Tryz.underlying30 (by kernel_rfl) (d := (xs[1]'(by omega)).1) (pl := (xs[1]'(by omega)).2) f1 (by omega) fun fuel a cs d' pl _ hc h' _ => open_bitU fuel a cs d' pl hc h'
    obtain ⟨u2, l2, e2, r2, k2, w2, b2⟩ := open_listU (P := ZAt) (Q := fun l => l.length * 1 ≤ reachBytes) (f := fun _ => 1) (sz := 1) Tryz.underlying31 (by kernel_rfl) (d := (xs[2]'(by omega)).1) (pl := (xs[2]'(by omega)).2) f2 (by omega) fun fuel a cs d' pl _ hc h' hs => open_rawsU fuel a cs d' pl hc h' hs
    obtain ⟨u3, l3, e3, r3, k3, w3, b3⟩ := open_listU (P := P) (Q := Q) (f := fun s => 1 + f s) (sz := 2) Tryz.underlying32 (by kernel_rfl) (d := (xs[3]'(by omega)).1) (pl := (xs[3]'(by omega)).2) f3 (by omega) fun fuel a cs d' pl hlt hc h' hs => hel fuel a cs d' pl (Nat.lt_trans hlt g3) hc h' hs
    simp at e1 e2 e3
    subst e1 e2 e3
    refine ⟨⟨n0, l1, l2, l3⟩, ⟨v1, v2, v3, ?_, hcell 1 (by omega), hcell 2 (by omega), hcell 3 (by omega), r1, r2, r3⟩, ⟨z0, fun n hn => by have := k1 n hn; omega, by show l1.length * 8 ≤ reachBytes; unfold reachBytes; omega, k2, by show l2.length * 24 ≤ reachBytes; unfold reachBytes; omega, k3, by show l3.length * 48 ≤ reachBytes; unfold reachBytes; omega⟩, ?_⟩
    · have := hcell 0 (by omega)
      simpa [Addr.add] using this
    · show 1 + l1.length + l2.length + (l3.map fun s => 1 + f s).sum ≤ _
      omega
set_option maxRecDepth 100000 in
theorem open_partsU {N : Nat} (hel : ∀ (fuel : Nat) (a : Addr) (cs : List Value) (d' : DataW H) (pl : List MemPlace), SizeOf.sizeOf d' < N → w.cells? base a 2 = some cs → DataW.trod enc Tryz.prog w base spare held fuel 29 cs = some (d', pl) → Rows.uptoBulk d' ≤ 1048576 → ∃ y, BAt N w a y ∧ BOk N y ∧ 1 + jWB N y ≤ 60 * Rows.uptoBulk d')
    {fuel : Nat} {cs : List Value} {d : DataW H} {pl : List MemPlace} (hN : SizeOf.sizeOf d ≤ N) (h : DataW.trod enc Tryz.prog w base spare held fuel 29 cs = some (d, pl)) (hl : cs.length = 2) (hB : Rows.uptoBulk d ≤ 1048576) : ∃ v0 v1 y, cs = [v0, v1] ∧ BRd N w v0 v1 y ∧ BOk (N + 1) y ∧ 1 + jWB (N + 1) y ≤ 60 * Rows.uptoBulk d := by
  obtain ⟨xs, n, _, hx, _, hxl, hf⟩ := DataW.trod_struct Tryz.underlying29 h
  have hd := (Prod.mk.inj hx).1
  match cs, hl with
  | [v0, v1], _ =>
    have hxs : xs.length = 2 := hxl
    have f0 : DataW.trod enc Tryz.prog w base spare held n 26 [v0] = xs[0]? := hf 0 _ rfl
    have f1 : DataW.trod enc Tryz.prog w base spare held n 27 [v1] = xs[1]? := hf 1 _ rfl
    rw [List.getElem?_eq_getElem (by omega)] at f0 f1
    have hb2 := bulk2 hxs
    have g0 := part_ltU (xs := xs) (i := 0) (by omega)
    rw [← hd] at hb2 g0
    obtain ⟨u0, l0, e0, r0, k0, w0, b0⟩ := open_listU (P := VAt (BAt N)) (Q := VOk (BOk N)) (f := jW (jWB N)) (sz := 4) Tryz.underlying26 (by kernel_rfl) (d := (xs[0]'(by omega)).1) (pl := (xs[0]'(by omega)).2) f0 (by omega) fun fuel a cs d' pl hlt hc h' hs => open_valU fuel a cs d' pl hc h' hs fun fuel a cs d'' pl hlt2 hc h'' hs2 => hel fuel a cs d'' pl (Nat.lt_of_lt_of_le (Nat.lt_trans hlt2 (Nat.lt_trans hlt g0)) hN) hc h'' hs2
    obtain ⟨u1, l1, e1, r1, k1, w1, b1⟩ := open_listU (P := RAt) (Q := RecOk) (f := fun _ => 1) (sz := 4) Tryz.underlying27 (by kernel_rfl) (d := (xs[1]'(by omega)).1) (pl := (xs[1]'(by omega)).2) f1 (by omega) fun fuel a cs d' pl _ hc h' hs => open_recU fuel a cs d' pl hc h' hs
    simp at e0 e1
    subst e0 e1
    refine ⟨v0, v1, ⟨l0, l1⟩, rfl, ⟨r0, r1⟩, ⟨k0, by show l0.length * 80 ≤ reachBytes; unfold reachBytes; omega, k1, by show l1.length * 48 ≤ reachBytes; unfold reachBytes; omega⟩, ?_⟩
    show 1 + ((l0.map (jW (jWB N))).sum + l1.length) ≤ _
    omega
theorem open_subU : ∀ (N fuel : Nat) (a : Addr) (cs : List Value) (d' : DataW H) (pl : List MemPlace), SizeOf.sizeOf d' < N → w.cells? base a 2 = some cs → DataW.trod enc Tryz.prog w base spare held fuel 29 cs = some (d', pl) → Rows.uptoBulk d' ≤ 1048576 → ∃ y, BAt N w a y ∧ BOk N y ∧ 1 + jWB N y ≤ 60 * Rows.uptoBulk d'
  | 0, _, _, _, _, _, h, _, _, _ => by omega
  | N + 1, fuel, a, cs, d', pl, hN, hc, h, hs => by
    obtain ⟨_, hlen, hcell⟩ := World.cells?_some hc
    obtain ⟨v0, v1, y, rfl, hr, hk, hw⟩ := open_partsU (open_subU N) (by omega) h hlen hs
    refine ⟨y, ⟨v0, v1, ?_, hcell 1 (by omega), hr⟩, hk, hw⟩
    have := hcell 0 (by omega)
    simpa [Addr.add] using this
set_option maxRecDepth 100000 in
/-- A body that came in: how deep it is at most, what can be read, how much it can become. -/
theorem open_bodyU {v : Value} {fuel : Nat} {d : DataW H} {pl : List MemPlace} (N : Nat) (hN : SizeOf.sizeOf d ≤ N) (h : DataW.trod enc Tryz.prog w base spare held fuel 29 v.cells.toList = some (d, pl)) (hB : Rows.uptoBulk d ≤ 1048576) : ∃ v0 v1 y, v = .agg #[v0, v1] ∧ BRd N w v0 v1 y ∧ BOk (N + 1) y ∧ jWB (N + 1) y ≤ 60 * Rows.uptoBulk d := by
  have hlen : v.cells.toList.length = 2 := by
    obtain ⟨xs, n, _, _, hlen, _, _⟩ := DataW.trod_struct Tryz.underlying29 h
    exact hlen
  obtain ⟨v0, v1, y, hcs, hr, hk, hw⟩ := open_partsU (open_subU N) hN h hlen hB
  clear h hlen
  refine ⟨v0, v1, y, ?_, hr, hk, by omega⟩
  cases v <;> simp [Value.cells] at hcs
  rename_i cs
  have : cs = #[v0, v1] := by cases cs; simp_all
  rw [this]
end

end L
end Go.Proofs.YtelmjekjohbmjaaGreatDoor

