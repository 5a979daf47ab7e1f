/- A file that came in, opened: what can be read, and how great it is. -/
import Derived.Test.YtenlijgnmhdopaaGreatDoorLFile
import Derived.ProofKit
import Derived.OpenShut
import Derived.Deep.Slices
import Derived.SizedLaws
namespace Go.Proofs.YtenlijgnmhdopaaGreatDoor
namespace L
open Go.ChangeShapes Go.WideShapes Go.ChangeAt Go.RowKit

section
variable {H : Type} {enc : TypeId × Value → H} {w : World} {base : Nat} {spare : Nat → Bool} {held : Bool}

/-- No string, no list of it is greater than one may be. -/
def Sz (t : TypeId) (d : DataW H) : Prop := ∀ n ∈ d.weights Tryz.prog t, n ≤ reachBytes
theorem all_mem {e : TypeId} : ∀ {l : List (DataW H)} {d : DataW H}, d ∈ l → ∀ n ∈ d.weights Tryz.prog e, n ∈ DataW.weightsAll Tryz.prog e l
  | [], _, h, _, _ => by simp at h
  | x :: l, d, h, n, hn => by
    simp only [DataW.weightsAll, List.mem_append]
    rcases List.mem_cons.1 h with rfl | h
    · exact .inl hn
    · exact .inr (all_mem h n hn)

theorem open_list {α : Type} {P : World → Addr → α → Prop} {Q : α → Prop} {sz bytes : Nat} {t e : TypeId} (ht : Tryz.prog.underlying t = some (.slice e)) (hc : Tryz.prog.cellsOf e = sz) (hby : Tryz.prog.bytesOf e = bytes) (dflt : α)
    (hel : ∀ (fuel : Nat) (a : Addr) (cs : List Value) (d : DataW H) (pl : List MemPlace), w.cells? base a sz = some cs → DataW.trod enc Tryz.prog w base spare held fuel e cs = some (d, pl) → Sz e d → ∃ y, P w a y ∧ Q y)
    {fuel : Nat} {cs : List Value} {d : DataW H} {pl : List MemPlace} (h : DataW.trod enc Tryz.prog w base spare held fuel t cs = some (d, pl)) (hsz : Sz t d) :
    ∃ v l, cs = [v] ∧ RdL sz P w v l ∧ (∀ y ∈ l, Q y) ∧ l.length * bytes ≤ reachBytes := by
  rcases Go.Deep.open_slice ht h with ⟨hcs, _⟩ | ⟨a, len, cap, m, n, D, Pl, hcs, _, hl, hm, hmm, hx, hels⟩
  · exact ⟨_, [], hcs, RdL.nil _ _ _, fun y hy => by simp at hy, by simp⟩
  · rw [hc] at hels
    have hd := (Prod.mk.inj hx).1
    have hm' : len ≤ m := by rw [hmm]; split <;> omega
    have hw : (len + (m - len)) * bytes ≤ reachBytes := by
      refine hsz _ ?_
      rw [hd, DataW.weights, ht]
      simp [hby]
    have hex : ∀ i, i < len → ∃ y, P w (a.add (i * sz)) y ∧ Q y := by
      intro i hi
      obtain ⟨cs', h1, h2⟩ := hels i (by omega)
      refine hel n _ cs' (D i) (Pl i) h1 h2 ?_
      intro q hq
      refine hsz q ?_
      rw [hd, DataW.weights, ht]
      simp only [List.mem_cons, List.mem_append]
      exact .inr (.inl (all_mem (List.mem_map.2 ⟨i, List.mem_range.2 hi, rfl⟩) q hq))
    obtain ⟨f, hf⟩ : ∃ f : Nat → α, ∀ i, i < len → P w (a.add (i * sz)) (f i) ∧ Q (f i) := by
      refine ⟨fun i => if hi : i < len then Classical.choose (hex i hi) else dflt, fun i hi => ?_⟩
      simp only [dif_pos hi]
      exact Classical.choose_spec (hex i hi)
    refine ⟨_, (List.range len).map f, hcs, ⟨some a, len, cap, rfl, by simp, hl, hm, fun h => (by cases h), ?_⟩, ?_, ?_⟩
    · intro x hx' k y hy
      cases hx'
      rw [List.getElem?_map] at hy
      by_cases hk : k < len
      · rw [List.getElem?_range hk] at hy
        cases hy
        exact (hf k hk).1
      · rw [List.getElem?_eq_none (by simp; omega)] at hy
        cases hy
    · intro y hy
      obtain ⟨i, hi, rfl⟩ := List.mem_map.1 hy
      exact (hf i (List.mem_range.1 hi)).2
    · simp only [List.length_map, List.length_range]
      exact Nat.le_trans (Nat.mul_le_mul_right _ (Nat.le_add_right _ _)) hw

theorem open_str {fuel : Nat} {c : Value} {x : DataW H × List MemPlace} (h : DataW.trod enc Tryz.prog w base spare held fuel 9 [c] = some x) : ∃ s : List UInt8, c = .string (S s) ∧ s.length ≤ maxLen := by
  obtain ⟨s, h1, _, h2⟩ := DataW.trod_string Tryz.underlying9 h
  simp at h1
  refine ⟨s.data.toList, by rw [h1]; simp [S], ?_⟩
  rw [Array.length_toList]
  exact h2
theorem open_num {fuel : Nat} {c : Value} {x : DataW H × List MemPlace} (h : DataW.trod enc Tryz.prog w base spare held fuel 3 [c] = some x) : ∃ n : Int, c = .int .i64 n ∧ I64 n := by
  obtain ⟨n, h1, _, h2⟩ := DataW.trod_int Tryz.underlying3 h
  simp at h1
  exact ⟨n, h1, by have := bounds_i64 h2; unfold I64; omega⟩
theorem open_bool {fuel : Nat} {c : Value} {x : DataW H × List MemPlace} (h : DataW.trod enc Tryz.prog w base spare held fuel 4 [c] = some x) : ∃ b : Bool, c = .bool b := by
  obtain ⟨b, h1, _⟩ := DataW.trod_bool Tryz.underlying4 h
  simp at h1
  exact ⟨b, h1⟩
theorem part_sz {t : TypeId} {fs : Array Field} {xs : List (DataW H × List MemPlace)} (ht : Tryz.prog.underlying t = some (.struct fs)) (h : Sz t (.agg (xs.map (·.1)))) {i : Nat} {f : Field} {y : DataW H × List MemPlace} (hf : fs[i]? = some f) (hy : xs[i]? = some y) : Sz f.type y.1 := by
  intro n hn
  refine h n ?_
  rw [DataW.weights, ht]
  refine DataW.weights_mem_each (j := i) ?_ ?_ n hn
  · rw [List.getElem?_map, Array.getElem?_toList, hf]; rfl
  · rw [List.getElem?_map, hy]; rfl

/-- Of a field: numbers of 64 bits, texts that are not too long. -/
def FOk (f : FI) : Prop := f.name.length ≤ maxLen ∧ f.type.length ≤ maxLen ∧ I64 f.number ∧ I64 f.kind ∧ I64 f.choice
set_option maxRecDepth 100000 in
theorem open_fld (fuel : Nat) (a : Addr) (cs : List Value) (d : DataW H) (pl : List MemPlace) (hc : w.cells? base a 6 = some cs) (h : DataW.trod enc Tryz.prog w base spare held fuel 39 cs = some (d, pl)) (_ : Sz 39 d) : ∃ y, FAt w a y ∧ FOk y := by
  obtain ⟨_, hlen, hcell⟩ := World.cells?_some hc
  obtain ⟨xs, n, _, _, _, hxl, hf⟩ := DataW.trod_struct Tryz.underlying39 h
  match cs, hlen with
  | [v0, v1, v2, v3, v4, v5], _ =>
    have hxs : xs.length = 6 := hxl
    have f0 : DataW.trod enc Tryz.prog w base spare held n 9 [v0] = xs[0]? := hf 0 _ rfl
    have f1 : DataW.trod enc Tryz.prog w base spare held n 3 [v1] = xs[1]? := hf 1 _ rfl
    have f2 : DataW.trod enc Tryz.prog w base spare held n 3 [v2] = xs[2]? := hf 2 _ rfl
    have f3 : DataW.trod enc Tryz.prog w base spare held n 9 [v3] = xs[3]? := hf 3 _ rfl
    have f4 : DataW.trod enc Tryz.prog w base spare held n 4 [v4] = xs[4]? := hf 4 _ rfl
    have f5 : DataW.trod enc Tryz.prog w base spare held n 3 [v5] = xs[5]? := hf 5 _ rfl
    rw [List.getElem?_eq_getElem (by omega)] at f0 f1 f2 f3 f4 f5
    obtain ⟨s0, rfl, z0⟩ := open_str f0
    obtain ⟨n1, rfl, z1⟩ := open_num f1
    obtain ⟨n2, rfl, z2⟩ := open_num f2
    obtain ⟨s3, rfl, z3⟩ := open_str f3
    obtain ⟨b4, rfl⟩ := open_bool f4
    obtain ⟨n5, rfl, z5⟩ := open_num f5
    refine ⟨⟨s0, n1, n2, s3, b4, n5⟩, ⟨?_, hcell 1 (by omega), hcell 2 (by omega), hcell 3 (by omega), hcell 4 (by omega), hcell 5 (by omega)⟩, z0, z3, z1, z2, z5⟩
    have := hcell 0 (by omega)
    simpa [Addr.add] using this
def TOk (i : II) : Prop := i.name.length ≤ maxLen ∧ I64 i.value
set_option maxRecDepth 100000 in
theorem open_itm (fuel : Nat) (a : Addr) (cs : List Value) (d : DataW H) (pl : List MemPlace) (hc : w.cells? base a 2 = some cs) (h : DataW.trod enc Tryz.prog w base spare held fuel 52 cs = some (d, pl)) (_ : Sz 52 d) : ∃ y, TAt w a y ∧ TOk y := by
  obtain ⟨_, hlen, hcell⟩ := World.cells?_some hc
  obtain ⟨xs, n, _, _, _, hxl, hf⟩ := DataW.trod_struct Tryz.underlying52 h
  match cs, hlen with
  | [v0, v1], _ =>
    have hxs : xs.length = 2 := hxl
    have f0 : DataW.trod enc Tryz.prog w base spare held n 9 [v0] = xs[0]? := hf 0 _ rfl
    have f1 : DataW.trod enc Tryz.prog w base spare held n 3 [v1] = xs[1]? := hf 1 _ rfl
    rw [List.getElem?_eq_getElem (by omega)] at f0 f1
    obtain ⟨s0, rfl, z0⟩ := open_str f0
    obtain ⟨n1, rfl, z1⟩ := open_num f1
    refine ⟨⟨s0, n1⟩, ⟨?_, hcell 1 (by omega)⟩, z0, z1⟩
    have := hcell 0 (by omega)
    simpa [Addr.add] using this
theorem open_int (fuel : Nat) (a : Addr) (cs : List Value) (d : DataW H) (pl : List MemPlace) (hc : w.cells? base a 1 = some cs) (h : DataW.trod enc Tryz.prog w base spare held fuel 3 cs = some (d, pl)) (_ : Sz 3 d) : ∃ y, NAt w a y ∧ I64 y := by
  obtain ⟨_, hlen, hcell⟩ := World.cells?_some hc
  match cs, hlen with
  | [v0], _ =>
    obtain ⟨n1, rfl, z1⟩ := open_num h
    refine ⟨n1, ?_, z1⟩
    have := hcell 0 (by omega)
    simpa [Addr.add, NAt] using this
def MOk (m : MI) : Prop := m.name.length ≤ maxLen ∧ (∀ f ∈ m.fields, FOk f) ∧ (∀ n ∈ m.barred, I64 n) ∧ m.fields.length * 64 ≤ reachBytes ∧ m.barred.length * 8 ≤ reachBytes
set_option maxRecDepth 100000 in
theorem open_msg (fuel : Nat) (a : Addr) (cs : List Value) (d : DataW H) (pl : List MemPlace) (hc : w.cells? base a 3 = some cs) (h : DataW.trod enc Tryz.prog w base spare held fuel 37 cs = some (d, pl)) (hsz : Sz 37 d) : ∃ y, MAt w a y ∧ MOk y := by
  obtain ⟨_, hlen, hcell⟩ := World.cells?_some hc
  obtain ⟨xs, n, _, hx, _, hxl, hf⟩ := DataW.trod_struct Tryz.underlying37 h
  have hd := (Prod.mk.inj hx).1
  rw [hd] at hsz
  match cs, hlen with
  | [v0, v1, v2], _ =>
    have hxs : xs.length = 3 := hxl
    have f0 : DataW.trod enc Tryz.prog w base spare held n 9 [v0] = xs[0]? := hf 0 _ rfl
    have f1 : DataW.trod enc Tryz.prog w base spare held n 34 [v1] = xs[1]? := hf 1 _ rfl
    have f2 : DataW.trod enc Tryz.prog w base spare held n 35 [v2] = xs[2]? := hf 2 _ rfl
    rw [List.getElem?_eq_getElem (by omega)] at f0 f1 f2
    have q1 : Sz 34 (xs[1]'(by omega)).1 := part_sz (i := 1) Tryz.underlying37 hsz rfl (List.getElem?_eq_getElem (by omega))
    have q2 : Sz 35 (xs[2]'(by omega)).1 := part_sz (i := 2) Tryz.underlying37 hsz rfl (List.getElem?_eq_getElem (by omega))
    obtain ⟨s0, rfl, z0⟩ := open_str f0
    obtain ⟨u1, l1, e1, r1, k1, b1⟩ := open_list (P := FAt) (Q := FOk) (sz := 6) (bytes := 64) Tryz.underlying34 (by kernel_rfl) (by kernel_rfl) ⟨[], 0, 0, [], false, 0⟩ open_fld f1 q1
    obtain ⟨u2, l2, e2, r2, k2, b2⟩ := open_list (P := NAt) (Q := I64) (sz := 1) (bytes := 8) Tryz.underlying35 (by kernel_rfl) (by kernel_rfl) 0 open_int f2 q2
    simp at e1 e2
    subst e1 e2
    refine ⟨⟨s0, l1, l2⟩, ⟨v1, v2, ?_, hcell 1 (by omega), hcell 2 (by omega), r1, r2⟩, z0, k1, k2, b1, b2⟩
    have := hcell 0 (by omega)
    simpa [Addr.add] using this
def EOk (e : EI) : Prop := e.name.length ≤ maxLen ∧ (∀ f ∈ e.items, TOk f) ∧ e.items.length * 24 ≤ reachBytes
set_option maxRecDepth 100000 in
theorem open_enm (fuel : Nat) (a : Addr) (cs : List Value) (d : DataW H) (pl : List MemPlace) (hc : w.cells? base a 2 = some cs) (h : DataW.trod enc Tryz.prog w base spare held fuel 50 cs = some (d, pl)) (hsz : Sz 50 d) : ∃ y, EAt w a y ∧ EOk y := by
  obtain ⟨_, hlen, hcell⟩ := World.cells?_some hc
  obtain ⟨xs, n, _, hx, _, hxl, hf⟩ := DataW.trod_struct Tryz.underlying50 h
  have hd := (Prod.mk.inj hx).1
  rw [hd] at hsz
  match cs, hlen with
  | [v0, v1], _ =>
    have hxs : xs.length = 2 := hxl
    have f0 : DataW.trod enc Tryz.prog w base spare held n 9 [v0] = xs[0]? := hf 0 _ rfl
    have f1 : DataW.trod enc Tryz.prog w base spare held n 48 [v1] = xs[1]? := hf 1 _ rfl
    rw [List.getElem?_eq_getElem (by omega)] at f0 f1
    have q1 : Sz 48 (xs[1]'(by omega)).1 := part_sz (i := 1) Tryz.underlying50 hsz rfl (List.getElem?_eq_getElem (by omega))
    obtain ⟨s0, rfl, z0⟩ := open_str f0
    obtain ⟨u1, l1, e1, r1, k1, b1⟩ := open_list (P := TAt) (Q := TOk) (sz := 2) (bytes := 24) Tryz.underlying48 (by kernel_rfl) (by kernel_rfl) ⟨[], 0⟩ open_itm f1 q1
    simp at e1
    subst e1
    refine ⟨⟨s0, l1⟩, ⟨v1, ?_, hcell 1 (by omega), r1⟩, z0, k1, b1⟩
    have := hcell 0 (by omega)
    simpa [Addr.add] using this
def GOk (g : GI) : Prop := (∀ m ∈ g.msgs, MOk m) ∧ (∀ e ∈ g.enums, EOk e) ∧ g.msgs.length * 64 ≤ reachBytes ∧ g.enums.length * 40 ≤ reachBytes
set_option maxRecDepth 100000 in
/-- A file that came in. -/
theorem open_file {v : Value} {fuel : Nat} {d : DataW H} {pl : List MemPlace} (h : DataW.trod enc Tryz.prog w base spare held fuel 25 v.cells.toList = some (d, pl)) (hsz : Sz 25 d) : ∃ vm ve g, v = .agg #[vm, ve] ∧ GRd w vm ve g ∧ GOk g := by
  obtain ⟨xs, n, _, hx, hlen, hxl, hf⟩ := DataW.trod_struct Tryz.underlying25 h
  have hd := (Prod.mk.inj hx).1
  rw [hd] at hsz
  have hl2 : v.cells.toList.length = 2 := hlen
  generalize hcs : v.cells.toList = cs at hl2 hf
  match cs, hl2 with
  | [v0, v1], _ =>
    have hxs : xs.length = 2 := hxl
    have f0 : DataW.trod enc Tryz.prog w base spare held n 22 [v0] = xs[0]? := hf 0 _ rfl
    have f1 : DataW.trod enc Tryz.prog w base spare held n 23 [v1] = xs[1]? := hf 1 _ rfl
    rw [List.getElem?_eq_getElem (by omega)] at f0 f1
    have q0 : Sz 22 (xs[0]'(by omega)).1 := part_sz (i := 0) Tryz.underlying25 hsz rfl (List.getElem?_eq_getElem (by omega))
    have q1 : Sz 23 (xs[1]'(by omega)).1 := part_sz (i := 1) Tryz.underlying25 hsz rfl (List.getElem?_eq_getElem (by omega))
    obtain ⟨u0, l0, e0, r0, k0, b0⟩ := open_list (P := MAt) (Q := MOk) (sz := 3) (bytes := 64) Tryz.underlying22 (by kernel_rfl) (by kernel_rfl) ⟨[], [], []⟩ open_msg f0 q0
    obtain ⟨u1, l1, e1, r1, k1, b1⟩ := open_list (P := EAt) (Q := EOk) (sz := 2) (bytes := 40) Tryz.underlying23 (by kernel_rfl) (by kernel_rfl) ⟨[], []⟩ open_enm f1 q1
    simp at e0 e1
    subst e0 e1
    refine ⟨v0, v1, ⟨l0, l1⟩, ?_, ⟨r0, r1⟩, k0, k1, b0, b1⟩
    cases v <;> simp [Value.cells] at hcs
    rename_i cs
    have : cs = #[v0, v1] := by cases cs; simp_all
    rw [this]
theorem GOk.fits {g : GI} (h : GOk g) : Fits g := by
  have hm : maxLen ≤ 9223372036854775807 := by unfold maxLen; omega
  exact ⟨fun m hm' => ⟨Nat.le_trans (h.1 m hm').1 hm, fun f hf => Nat.le_trans ((h.1 m hm').2.1 f hf).1 hm⟩, fun e he => ⟨Nat.le_trans (h.2.1 e he).1 hm, fun i hi => Nat.le_trans ((h.2.1 e he).2.1 i hi).1 hm⟩⟩
end

end L
end Go.Proofs.YtenlijgnmhdopaaGreatDoor
