import Derived.Test.YthgbiflfinddiaaGreatRRanq
import Derived.Test.YthgbiflfinddiaaGreatRWrgPq
import Derived.Test.YthgbiflfinddiaaGreatKMis
import Derived.Deep.CutRange
import Derived.Test.YthgbiflfinddiaaGreatLFile
import Derived.ProofKit
import Derived.OpenShut
import Derived.Deep.Slices
import Derived.SizedLaws
import Derived.Test.YthgbiflfinddiaaGreatRows
import Derived.Test.YthgbiflfinddiaaGreatMRr
import Derived.Test.YthgbiflfinddiaaGreatBData
import Derived.Laws.BytesArg
import Derived.Test.YthgbiflfinddiaaGreatRMakeq
/- The document's own answer: Run. -/
namespace Go.Proofs.YthgbiflfinddiaaGreat
namespace L
open Go.RowKit
set_option linter.unusedVariables false

set_option maxHeartbeats 4000000 in
set_option maxRecDepth 100000 in
theorem rRun_any {ps : List (List TI)} {d : Nat} {w : World} {vl v0 v1 : Value} {p : Int} {b : BO (BI d)} (hl : RdL 1 PrAt w vl ps) (hfd : ∀ p ∈ ps, ∀ s ∈ p, -9223372036854775808 ≤ s.field ∧ s.field ≤ 9223372036854775807) (hq : BRd d w v0 v1 b) (hsm : OSm (BSm d) b) (hbw : oW (bW d) b ≤ 1000000000) :
    Calls Tryz.prog 11 #[vl, .int .i64 p, .agg #[v0, v1]] w fun e w' => ∃ ao n c, e = .returned (.tuple #[.slice ao n c, .int .i64 (RanR ps p d b).2]) ∧ Row ekY w' w.heap.size (.slice ao n c) (RanR ps p d b).1 ∧ Below w.heap.size w w' := by
  obtain ⟨al, nl, cl, rfl, Hnl, hnl⟩ := hl.shape
  obtain ⟨a0, n0, c0, rfl, H0, _⟩ := hq.1.shape
  obtain ⟨a1, n1, c1, rfl, H1, _⟩ := hq.2.shape
  obtain ⟨R, HR⟩ : ∃ R, Hid (RanR ps p d b = R) := ⟨_, rfl⟩
  rw [HR.out]
  obtain ⟨W0, HW0⟩ : ∃ W0, Hid (W0 = w.alloc (.cells #[.slice a0 n0 c0, .slice a1 n1 c1] 30)) := ⟨_, rfl⟩
  have hb0 : Below w.heap.size w W0 := by rw [HW0.out]; exact (Below.refl _ _).alloc (Nat.le_refl _) _
  have hz0 : w.heap.size + 1 ≤ W0.heap.size := by rw [HW0.out]; simp
  have x0 : W0.heap[w.heap.size]? = some (.cells #[.slice a0 n0 c0, .slice a1 n1 c1] 30 (0, 0)) := by rw [HW0.out]; exact heap_alloc_new _ _
  have hwr := rwrongP_any (hl.below PrAt.stays hb0) hfd
  obtain ⟨E, I, HE⟩ : ∃ E I, Hid (wrongP ps = (E, I)) := ⟨_, _, rfl⟩
  rw [HE.out] at hwr
  go_enter Tryz.func11, Tryz.ntmps11
  go_wp2_with fail
  rw [← HW0.out]
  refine hwr.mono ?_
  rintro e w1 ⟨rfl, hb1⟩
  obtain ⟨W2, HW2⟩ : ∃ W2, Hid (W2 = w1.alloc (.cells #[.int .i64 E, .int .i64 (I : Int)] 33)) := ⟨_, rfl⟩
  have hb2 : Below w1.heap.size w1 W2 := by rw [HW2.out]; exact (Below.refl _ _).alloc (Nat.le_refl _) _
  have hz1 := hb1.size
  have hbw2 : Below w.heap.size w W2 := KBT (KBT hb0 hb1) hb2
  have x2 : W2.heap[w1.heap.size]? = some (.cells #[.int .i64 E, .int .i64 (I : Int)] 33 (0, 0)) := by rw [HW2.out]; exact heap_alloc_new _ _
  obtain ⟨t0, t1⟩ := blk2 x2
  clear hwr
  by_cases hE : E = 0
  · subst hE
    obtain ⟨u0, u1⟩ := blk2 ((hb2.block _ (by omega)).trans ((hb1.block _ (by omega)).trans x0))
    rw [HW2.out] at u0 u1
    have hok : PsOk ps := wrongP_ok (by rw [HE.out])
    have hnd : PsNd ps := wrongP_nd (by rw [HE.out])
    have hbt : PsBits ps := wrongP_bits (by rw [HE.out])
    by_cases hp : p < 0 ∨ (ps.length : Int) ≤ p
    · have HF : Hid (R = ([], 6)) := by
        show _ = _; rw [← HR.out, RanR, HE.out, if_neg (by simp), if_pos hp]
      by_cases hp0 : p < 0
      · clear hp
        go_wp2_with fail
        rw [← HW2.out]
        go_ret2
        exact ⟨none, 0, 0, by rw [HF.out]; rfl, by rw [HF.out]; exact Row.nil _ _ _, hbw2⟩
      · have hp1 : (nl : Int) ≤ p := by rw [Hnl.out]; omega
        clear hp
        go_wp2_with fail
        rw [← HW2.out]
        go_ret2
        exact ⟨none, 0, 0, by rw [HF.out]; rfl, by rw [HF.out]; exact Row.nil _ _ _, hbw2⟩
    · have HF : Hid (R = muchN (ranN ps (d + 1) p 1 b)) := by
        show _ = _; rw [← HR.out, RanR, HE.out, if_neg (by simp), if_neg hp]
      have hp0 : ¬ p < 0 := by omega
      have hp1 : ¬ (nl : Int) ≤ p := by rw [Hnl.out]; omega
      have hc := ranTold hok hnd hbt (d + 1) W2 _ _ _ p 1 b (hl.below PrAt.stays hbw2) (by omega) (by omega) (by omega) (by omega) (hq.below hbw2) hsm hbw
      have hrl : (ranN ps (d + 1) p 1 b).1.length ≤ 1000000000 := Nat.le_trans (ranN_len hnd (d + 1) p 1 b) hbw
      obtain ⟨L, E, HL⟩ : ∃ L E, Hid (ranN ps (d + 1) p 1 b = (L, E)) := ⟨_, _, rfl⟩
      rw [HL.out] at hc hrl
      have HF : Hid (R = if E ≠ 0 then ([], E) else if 4000 < L.length then ([], 4) else (L, 0)) := by
        show _ = _; rw [HF.out, HL.out]; rfl
      clear hp
      go_wp2_with fail
      rw [← HW2.out]
      refine hc.mono ?_
      rintro e w3 ⟨a, m, c, rfl, hr, hb3⟩
      have hm : m = L.length := hr.len
      have Hm : Hid (m = L.length) := hm
      have hm' : m ≤ 1000000000 := by rw [hm]; exact hrl
      have hB := KBT hbw2 hb3
      clear hm hc
      by_cases hE : E = 0
      · have hEb : (E != 0) = false := by simp [hE]
        have hEe : (E == 0) = true := by simp [hE]
        by_cases h4 : 4000 < m
        · have HF : Hid (R = ([], 4)) := by show _ = _; rw [HF.out, if_neg (by simp [hE]), if_pos (by rw [← Hm.out]; exact h4)]
          have hi : (4000 : Int) < (m : Int) := by omega
          clear hE
          go_wp2
          go_ret2
          exact ⟨none, 0, 0, by rw [HF.out]; rfl, by rw [HF.out]; exact Row.nil _ _ _, hB⟩
        · have HF : Hid (R = (L, 0)) := by show _ = _; rw [HF.out, if_neg (by simp [hE]), if_neg (by rw [← Hm.out]; exact h4)]
          have hi : ¬ (4000 : Int) < (m : Int) := by omega
          clear hE
          go_wp2
          go_ret2
          exact ⟨a, m, c, by rw [HF.out]; rfl, by rw [HF.out]; exact hr.mono hbw2.size, hB⟩
      · have hEb : (E != 0) = true := by simpa using hE
        have hEe : (E == 0) = false := by simpa using hE
        have HF : Hid (R = ([], E)) := by show _ = _; rw [HF.out, if_pos hE]
        clear hE
        go_wp2
        go_ret2
        exact ⟨none, 0, 0, by rw [HF.out]; rfl, by rw [HF.out]; exact Row.nil _ _ _, hB⟩
  · have hEb : (E != 0) = true := by simpa using hE
    have HF : Hid (R = ([], E)) := by
      show _ = _; rw [← HR.out, RanR, HE.out, if_pos hE]
    have hd : Below w.heap.size w W2.drew := hbw2.drew
    clear hE
    go_wp2_with fail
    rw [← HW2.out]
    go_region
    all_goals
      go_wp2_with fail
      go_ret2
      exact ⟨none, 0, 0, by rw [HF.out]; rfl, by rw [HF.out]; exact Row.nil _ _ _, hd⟩

end L
end Go.Proofs.YthgbiflfinddiaaGreat

/- The document's own answer: SamePrograms, of programs that are the same. -/
namespace Go.Proofs.YthgbiflfinddiaaGreat
namespace L
open Go.RowKit
set_option linter.unusedVariables false

set_option maxHeartbeats 2000000 in
set_option maxRecDepth 100000 in
theorem samePrograms_any {w : World} {va vb : Value} {l : List (List TI)} (ha : RdL 1 PrAt w va l) (hb : RdL 1 PrAt w vb l) : Calls Tryz.prog 7 #[va, vb] w fun e w' => e = .returned (.bool true) ∧ Below w.heap.size w w' := by
  obtain ⟨aa, n, ca, rfl, Hn, hcap⟩ := ha.shape
  obtain ⟨ab, n', cb, rfl, Hn', hcap'⟩ := hb.shape
  have hnn : n' = n := by rw [Hn.out, Hn'.out]
  subst hnn
  go_enter Tryz.func7, Tryz.ntmps7
  go_wp2_with fail
  go_loopg [14] n' (fun m i wr => ∃ (k : Nat), k + m = n' ∧ i = .int .i64 k ∧ Below w.heap.size w wr)
  case atStart => exact ⟨0, by omega, rfl, Below.refl _ _⟩
  case round =>
    obtain ⟨k, hk, rfl, hbr⟩ := hrel
    obtain ⟨wo, Hwo⟩ : ∃ wo, wo = wr := ⟨_, rfl⟩
    subst Hwo
    by_cases hlt : k < n'
    · obtain ⟨p, Hp⟩ : ∃ p, Hid (l[k]? = some p) := ⟨l[k]'(by rw [← Hn.out]; exact hlt), List.getElem?_eq_getElem (by rw [← Hn.out]; exact hlt)⟩
      obtain ⟨b1, o1, rfl, hat1⟩ := (ha.below PrAt.stays hbr).get PrAt.plain Hp.out
      obtain ⟨b2, o2, rfl, hat2⟩ := (hb.below PrAt.stays hbr).get PrAt.plain Hp.out
      obtain ⟨v1, s1, r1⟩ := hat1
      obtain ⟨v2, s2, r2⟩ := hat2
      obtain ⟨a1, m, c1, rfl, H1, hc1⟩ := r1.shape
      obtain ⟨a2, m', c2, rfl, H2, hc2⟩ := r2.shape
      have hmm : m' = m := by rw [H1.out, H2.out]
      subst hmm
      have s1' : wo.cell? ⟨b1, o1 + k, none⟩ = some (.slice a1 m' c1) := by simpa using s1
      have s2' : wo.cell? ⟨b2, o2 + k, none⟩ = some (.slice a2 m' c2) := by simpa using s2
      have hki : (k : Int) < (n' : Int) := by omega
      clear s1 s2
      go_wp2_with fail
      go_quiet (fail)
      go_wp2_with fail
      go_loopg [33] m' (fun m i wi => ∃ (j : Nat), j + m = m' ∧ i = .int .i64 j ∧ Below wo.heap.size wo wi)
      case atStart => exact ⟨0, by omega, rfl, kB_drewN (Below.refl _ _) _⟩
      case round =>
        obtain ⟨j, hj, rfl, hbj⟩ := hrel
        by_cases hjlt : j < m'
        · obtain ⟨s, Hs⟩ : ∃ s, Hid (p[j]? = some s) := ⟨p[j]'(by rw [← H1.out]; exact hjlt), List.getElem?_eq_getElem (by rw [← H1.out]; exact hjlt)⟩
          obtain ⟨e1, f1, rfl, at1⟩ := (r1.below StAt.stays hbj).get StAt.plain Hs.out
          obtain ⟨e2, f2, rfl, at2⟩ := (r2.below StAt.stays hbj).get StAt.plain Hs.out
          obtain ⟨p0, p1, p2, p3, p4⟩ := at1.at
          obtain ⟨q0, q1, q2, q3, q4⟩ := at2.at
          have t1 := cell_below hbj s1'
          have t2 := cell_below hbj s2'
          have hji : (j : Int) < (m' : Int) := by omega
          clear at1 at2
          go_wp2_with fail
          go_quiet (fail)
          go_wp2_with fail
          go_roundg (m' - (j + 1))
          case measure => omega
          case rel => exact ⟨j + 1, by omega, by go_num, kB_drewN hbj _⟩
        · go_wp2_with fail
          go_roundg (n' - (k + 1))
          case measure => omega
          case rel => exact ⟨k + 1, by omega, by go_num, KBT hbr hbj⟩
    · go_wp2
      go_ret
      exact ⟨rfl, hbr⟩

end L
end Go.Proofs.YthgbiflfinddiaaGreat

/- A file that came in, opened: what can be read, and how great it is. -/
namespace Go.Proofs.YthgbiflfinddiaaGreat
namespace L
open Go.ChangeShapes Go.WideShapes Go.ChangeAt Go.RowKit

section
variable {H : Type} {enc : TypeId × Value → H} {w : World} {base : Nat} {spare : Nat → Bool} {held : Bool}

/-- No string, no list of it is greater than one may be. -/
def Sz (t : TypeId) (d : DataW H) : Prop := ∀ n ∈ d.weights Tryz.prog t, n ≤ reachBytes
theorem all_mem {e : TypeId} : ∀ {l : List (DataW H)} {d : DataW H}, d ∈ l → ∀ n ∈ d.weights Tryz.prog e, n ∈ DataW.weightsAll Tryz.prog e l
  | [], _, h, _, _ => by simp at h
  | x :: l, d, h, n, hn => by
    simp only [DataW.weightsAll, List.mem_append]
    rcases List.mem_cons.1 h with rfl | h
    · exact .inl hn
    · exact .inr (all_mem h n hn)

theorem open_list {α : Type} {P : World → Addr → α → Prop} {Q : α → Prop} {sz bytes : Nat} {t e : TypeId} (ht : Tryz.prog.underlying t = some (.slice e)) (hc : Tryz.prog.cellsOf e = sz) (hby : Tryz.prog.bytesOf e = bytes) (dflt : α)
    (hel : ∀ (fuel : Nat) (a : Addr) (cs : List Value) (d : DataW H) (pl : List MemPlace), w.cells? base a sz = some cs → DataW.trod enc Tryz.prog w base spare held fuel e cs = some (d, pl) → Sz e d → ∃ y, P w a y ∧ Q y)
    {fuel : Nat} {cs : List Value} {d : DataW H} {pl : List MemPlace} (h : DataW.trod enc Tryz.prog w base spare held fuel t cs = some (d, pl)) (hsz : Sz t d) :
    ∃ v l, cs = [v] ∧ RdL sz P w v l ∧ (∀ y ∈ l, Q y) ∧ l.length * bytes ≤ reachBytes := by
  rcases Go.Deep.open_slice ht h with ⟨hcs, _⟩ | ⟨a, len, cap, m, n, D, Pl, hcs, _, hl, hm, hmm, hx, hels⟩
  · exact ⟨_, [], hcs, RdL.nil _ _ _, fun y hy => by simp at hy, by simp⟩
  · rw [hc] at hels
    have hd := (Prod.mk.inj hx).1
    have hm' : len ≤ m := by rw [hmm]; split <;> omega
    have hw : (len + (m - len)) * bytes ≤ reachBytes := by
      refine hsz _ ?_
      rw [hd, DataW.weights, ht]
      simp [hby]
    have hex : ∀ i, i < len → ∃ y, P w (a.add (i * sz)) y ∧ Q y := by
      intro i hi
      obtain ⟨cs', h1, h2⟩ := hels i (by omega)
      refine hel n _ cs' (D i) (Pl i) h1 h2 ?_
      intro q hq
      refine hsz q ?_
      rw [hd, DataW.weights, ht]
      simp only [List.mem_cons, List.mem_append]
      exact .inr (.inl (all_mem (List.mem_map.2 ⟨i, List.mem_range.2 hi, rfl⟩) q hq))
    obtain ⟨f, hf⟩ : ∃ f : Nat → α, ∀ i, i < len → P w (a.add (i * sz)) (f i) ∧ Q (f i) := by
      refine ⟨fun i => if hi : i < len then Classical.choose (hex i hi) else dflt, fun i hi => ?_⟩
      simp only [dif_pos hi]
      exact Classical.choose_spec (hex i hi)
    refine ⟨_, (List.range len).map f, hcs, ⟨some a, len, cap, rfl, by simp, hl, hm, fun h => (by cases h), ?_⟩, ?_, ?_⟩
    · intro x hx' k y hy
      cases hx'
      rw [List.getElem?_map] at hy
      by_cases hk : k < len
      · rw [List.getElem?_range hk] at hy
        cases hy
        exact (hf k hk).1
      · rw [List.getElem?_eq_none (by simp; omega)] at hy
        cases hy
    · intro y hy
      obtain ⟨i, hi, rfl⟩ := List.mem_map.1 hy
      exact (hf i (List.mem_range.1 hi)).2
    · simp only [List.length_map, List.length_range]
      exact Nat.le_trans (Nat.mul_le_mul_right _ (Nat.le_add_right _ _)) hw

theorem open_str {fuel : Nat} {c : Value} {x : DataW H × List MemPlace} (h : DataW.trod enc Tryz.prog w base spare held fuel 9 [c] = some x) : ∃ s : List UInt8, c = .string (S s) ∧ s.length ≤ maxLen := by
  obtain ⟨s, h1, _, h2⟩ := DataW.trod_string Tryz.underlying9 h
  simp at h1
  refine ⟨s.data.toList, by rw [h1]; simp [S], ?_⟩
  rw [Array.length_toList]
  exact h2
theorem open_num {fuel : Nat} {c : Value} {x : DataW H × List MemPlace} (h : DataW.trod enc Tryz.prog w base spare held fuel 3 [c] = some x) : ∃ n : Int, c = .int .i64 n ∧ I64 n := by
  obtain ⟨n, h1, _, h2⟩ := DataW.trod_int Tryz.underlying3 h
  simp at h1
  exact ⟨n, h1, by have := bounds_i64 h2; unfold I64; omega⟩
theorem open_bool {fuel : Nat} {c : Value} {x : DataW H × List MemPlace} (h : DataW.trod enc Tryz.prog w base spare held fuel 4 [c] = some x) : ∃ b : Bool, c = .bool b := by
  obtain ⟨b, h1, _⟩ := DataW.trod_bool Tryz.underlying4 h
  simp at h1
  exact ⟨b, h1⟩
theorem part_sz {t : TypeId} {fs : Array Field} {xs : List (DataW H × List MemPlace)} (ht : Tryz.prog.underlying t = some (.struct fs)) (h : Sz t (.agg (xs.map (·.1)))) {i : Nat} {f : Field} {y : DataW H × List MemPlace} (hf : fs[i]? = some f) (hy : xs[i]? = some y) : Sz f.type y.1 := by
  intro n hn
  refine h n ?_
  rw [DataW.weights, ht]
  refine DataW.weights_mem_each (j := i) ?_ ?_ n hn
  · rw [List.getElem?_map, Array.getElem?_toList, hf]; rfl
  · rw [List.getElem?_map, hy]; rfl

/-- Of a field: numbers of 64 bits, texts that are not too long. -/
def FOk (f : FI) : Prop := f.name.length ≤ maxLen ∧ f.type.length ≤ maxLen ∧ I64 f.number ∧ I64 f.kind ∧ I64 f.choice
set_option maxRecDepth 100000 in
theorem open_fld (fuel : Nat) (a : Addr) (cs : List Value) (d : DataW H) (pl : List MemPlace) (hc : w.cells? base a 6 = some cs) (h : DataW.trod enc Tryz.prog w base spare held fuel 53 cs = some (d, pl)) (_ : Sz 53 d) : ∃ y, FAt w a y ∧ FOk y := by
  obtain ⟨_, hlen, hcell⟩ := World.cells?_some hc
  obtain ⟨xs, n, _, _, _, hxl, hf⟩ := DataW.trod_struct Tryz.underlying53 h
  match cs, hlen with
  | [v0, v1, v2, v3, v4, v5], _ =>
    have hxs : xs.length = 6 := hxl
    have f0 : DataW.trod enc Tryz.prog w base spare held n 9 [v0] = xs[0]? := hf 0 _ rfl
    have f1 : DataW.trod enc Tryz.prog w base spare held n 3 [v1] = xs[1]? := hf 1 _ rfl
    have f2 : DataW.trod enc Tryz.prog w base spare held n 3 [v2] = xs[2]? := hf 2 _ rfl
    have f3 : DataW.trod enc Tryz.prog w base spare held n 9 [v3] = xs[3]? := hf 3 _ rfl
    have f4 : DataW.trod enc Tryz.prog w base spare held n 4 [v4] = xs[4]? := hf 4 _ rfl
    have f5 : DataW.trod enc Tryz.prog w base spare held n 3 [v5] = xs[5]? := hf 5 _ rfl
    rw [List.getElem?_eq_getElem (by omega)] at f0 f1 f2 f3 f4 f5
    obtain ⟨s0, rfl, z0⟩ := open_str f0
    obtain ⟨n1, rfl, z1⟩ := open_num f1
    obtain ⟨n2, rfl, z2⟩ := open_num f2
    obtain ⟨s3, rfl, z3⟩ := open_str f3
    obtain ⟨b4, rfl⟩ := open_bool f4
    obtain ⟨n5, rfl, z5⟩ := open_num f5
    refine ⟨⟨s0, n1, n2, s3, b4, n5⟩, ⟨?_, hcell 1 (by omega), hcell 2 (by omega), hcell 3 (by omega), hcell 4 (by omega), hcell 5 (by omega)⟩, z0, z3, z1, z2, z5⟩
    have := hcell 0 (by omega)
    simpa [Addr.add] using this
def TOk (i : II) : Prop := i.name.length ≤ maxLen ∧ I64 i.value
set_option maxRecDepth 100000 in
theorem open_itm (fuel : Nat) (a : Addr) (cs : List Value) (d : DataW H) (pl : List MemPlace) (hc : w.cells? base a 2 = some cs) (h : DataW.trod enc Tryz.prog w base spare held fuel 88 cs = some (d, pl)) (_ : Sz 88 d) : ∃ y, TAt w a y ∧ TOk y := by
  obtain ⟨_, hlen, hcell⟩ := World.cells?_some hc
  obtain ⟨xs, n, _, _, _, hxl, hf⟩ := DataW.trod_struct Tryz.underlying88 h
  match cs, hlen with
  | [v0, v1], _ =>
    have hxs : xs.length = 2 := hxl
    have f0 : DataW.trod enc Tryz.prog w base spare held n 9 [v0] = xs[0]? := hf 0 _ rfl
    have f1 : DataW.trod enc Tryz.prog w base spare held n 3 [v1] = xs[1]? := hf 1 _ rfl
    rw [List.getElem?_eq_getElem (by omega)] at f0 f1
    obtain ⟨s0, rfl, z0⟩ := open_str f0
    obtain ⟨n1, rfl, z1⟩ := open_num f1
    refine ⟨⟨s0, n1⟩, ⟨?_, hcell 1 (by omega)⟩, z0, z1⟩
    have := hcell 0 (by omega)
    simpa [Addr.add] using this
theorem open_int (fuel : Nat) (a : Addr) (cs : List Value) (d : DataW H) (pl : List MemPlace) (hc : w.cells? base a 1 = some cs) (h : DataW.trod enc Tryz.prog w base spare held fuel 3 cs = some (d, pl)) (_ : Sz 3 d) : ∃ y, NAt w a y ∧ I64 y := by
  obtain ⟨_, hlen, hcell⟩ := World.cells?_some hc
  match cs, hlen with
  | [v0], _ =>
    obtain ⟨n1, rfl, z1⟩ := open_num h
    refine ⟨n1, ?_, z1⟩
    have := hcell 0 (by omega)
    simpa [Addr.add, NAt] using this
def MOk (m : MI) : Prop := m.name.length ≤ maxLen ∧ (∀ f ∈ m.fields, FOk f) ∧ (∀ n ∈ m.barred, I64 n) ∧ m.fields.length * 64 ≤ reachBytes ∧ m.barred.length * 8 ≤ reachBytes
set_option maxRecDepth 100000 in
theorem open_msg (fuel : Nat) (a : Addr) (cs : List Value) (d : DataW H) (pl : List MemPlace) (hc : w.cells? base a 3 = some cs) (h : DataW.trod enc Tryz.prog w base spare held fuel 49 cs = some (d, pl)) (hsz : Sz 49 d) : ∃ y, MAt w a y ∧ MOk y := by
  obtain ⟨_, hlen, hcell⟩ := World.cells?_some hc
  obtain ⟨xs, n, _, hx, _, hxl, hf⟩ := DataW.trod_struct Tryz.underlying49 h
  have hd := (Prod.mk.inj hx).1
  rw [hd] at hsz
  match cs, hlen with
  | [v0, v1, v2], _ =>
    have hxs : xs.length = 3 := hxl
    have f0 : DataW.trod enc Tryz.prog w base spare held n 9 [v0] = xs[0]? := hf 0 _ rfl
    have f1 : DataW.trod enc Tryz.prog w base spare held n 46 [v1] = xs[1]? := hf 1 _ rfl
    have f2 : DataW.trod enc Tryz.prog w base spare held n 47 [v2] = xs[2]? := hf 2 _ rfl
    rw [List.getElem?_eq_getElem (by omega)] at f0 f1 f2
    have q1 : Sz 46 (xs[1]'(by omega)).1 := part_sz (i := 1) Tryz.underlying49 hsz rfl (List.getElem?_eq_getElem (by omega))
    have q2 : Sz 47 (xs[2]'(by omega)).1 := part_sz (i := 2) Tryz.underlying49 hsz rfl (List.getElem?_eq_getElem (by omega))
    obtain ⟨s0, rfl, z0⟩ := open_str f0
    obtain ⟨u1, l1, e1, r1, k1, b1⟩ := open_list (P := FAt) (Q := FOk) (sz := 6) (bytes := 64) Tryz.underlying46 (by kernel_rfl) (by kernel_rfl) ⟨[], 0, 0, [], false, 0⟩ open_fld f1 q1
    obtain ⟨u2, l2, e2, r2, k2, b2⟩ := open_list (P := NAt) (Q := I64) (sz := 1) (bytes := 8) Tryz.underlying47 (by kernel_rfl) (by kernel_rfl) 0 open_int f2 q2
    simp at e1 e2
    subst e1 e2
    refine ⟨⟨s0, l1, l2⟩, ⟨v1, v2, ?_, hcell 1 (by omega), hcell 2 (by omega), r1, r2⟩, z0, k1, k2, b1, b2⟩
    have := hcell 0 (by omega)
    simpa [Addr.add] using this
def EOk (e : EI) : Prop := e.name.length ≤ maxLen ∧ (∀ f ∈ e.items, TOk f) ∧ e.items.length * 24 ≤ reachBytes
set_option maxRecDepth 100000 in
theorem open_enm (fuel : Nat) (a : Addr) (cs : List Value) (d : DataW H) (pl : List MemPlace) (hc : w.cells? base a 2 = some cs) (h : DataW.trod enc Tryz.prog w base spare held fuel 80 cs = some (d, pl)) (hsz : Sz 80 d) : ∃ y, EAt w a y ∧ EOk y := by
  obtain ⟨_, hlen, hcell⟩ := World.cells?_some hc
  obtain ⟨xs, n, _, hx, _, hxl, hf⟩ := DataW.trod_struct Tryz.underlying80 h
  have hd := (Prod.mk.inj hx).1
  rw [hd] at hsz
  match cs, hlen with
  | [v0, v1], _ =>
    have hxs : xs.length = 2 := hxl
    have f0 : DataW.trod enc Tryz.prog w base spare held n 9 [v0] = xs[0]? := hf 0 _ rfl
    have f1 : DataW.trod enc Tryz.prog w base spare held n 78 [v1] = xs[1]? := hf 1 _ rfl
    rw [List.getElem?_eq_getElem (by omega)] at f0 f1
    have q1 : Sz 78 (xs[1]'(by omega)).1 := part_sz (i := 1) Tryz.underlying80 hsz rfl (List.getElem?_eq_getElem (by omega))
    obtain ⟨s0, rfl, z0⟩ := open_str f0
    obtain ⟨u1, l1, e1, r1, k1, b1⟩ := open_list (P := TAt) (Q := TOk) (sz := 2) (bytes := 24) Tryz.underlying78 (by kernel_rfl) (by kernel_rfl) ⟨[], 0⟩ open_itm f1 q1
    simp at e1
    subst e1
    refine ⟨⟨s0, l1⟩, ⟨v1, ?_, hcell 1 (by omega), r1⟩, z0, k1, b1⟩
    have := hcell 0 (by omega)
    simpa [Addr.add] using this
def GOk (g : GI) : Prop := (∀ m ∈ g.msgs, MOk m) ∧ (∀ e ∈ g.enums, EOk e) ∧ g.msgs.length * 64 ≤ reachBytes ∧ g.enums.length * 40 ≤ reachBytes
set_option maxRecDepth 100000 in
/-- A file that came in. -/
theorem open_file {v : Value} {fuel : Nat} {d : DataW H} {pl : List MemPlace} (h : DataW.trod enc Tryz.prog w base spare held fuel 25 v.cells.toList = some (d, pl)) (hsz : Sz 25 d) : ∃ vm ve g, v = .agg #[vm, ve] ∧ GRd w vm ve g ∧ GOk g := by
  obtain ⟨xs, n, _, hx, hlen, hxl, hf⟩ := DataW.trod_struct Tryz.underlying25 h
  have hd := (Prod.mk.inj hx).1
  rw [hd] at hsz
  have hl2 : v.cells.toList.length = 2 := hlen
  generalize hcs : v.cells.toList = cs at hl2 hf
  match cs, hl2 with
  | [v0, v1], _ =>
    have hxs : xs.length = 2 := hxl
    have f0 : DataW.trod enc Tryz.prog w base spare held n 22 [v0] = xs[0]? := hf 0 _ rfl
    have f1 : DataW.trod enc Tryz.prog w base spare held n 23 [v1] = xs[1]? := hf 1 _ rfl
    rw [List.getElem?_eq_getElem (by omega)] at f0 f1
    have q0 : Sz 22 (xs[0]'(by omega)).1 := part_sz (i := 0) Tryz.underlying25 hsz rfl (List.getElem?_eq_getElem (by omega))
    have q1 : Sz 23 (xs[1]'(by omega)).1 := part_sz (i := 1) Tryz.underlying25 hsz rfl (List.getElem?_eq_getElem (by omega))
    obtain ⟨u0, l0, e0, r0, k0, b0⟩ := open_list (P := MAt) (Q := MOk) (sz := 3) (bytes := 64) Tryz.underlying22 (by kernel_rfl) (by kernel_rfl) ⟨[], [], []⟩ open_msg f0 q0
    obtain ⟨u1, l1, e1, r1, k1, b1⟩ := open_list (P := EAt) (Q := EOk) (sz := 2) (bytes := 40) Tryz.underlying23 (by kernel_rfl) (by kernel_rfl) ⟨[], []⟩ open_enm f1 q1
    simp at e0 e1
    subst e0 e1
    refine ⟨v0, v1, ⟨l0, l1⟩, ?_, ⟨r0, r1⟩, k0, k1, b0, b1⟩
    cases v <;> simp [Value.cells] at hcs
    rename_i cs
    have : cs = #[v0, v1] := by cases cs; simp_all
    rw [this]
theorem GOk.fits {g : GI} (h : GOk g) : Fits g := by
  have hm : maxLen ≤ 9223372036854775807 := by unfold maxLen; omega
  exact ⟨fun m hm' => ⟨Nat.le_trans (h.1 m hm').1 hm, fun f hf => Nat.le_trans ((h.1 m hm').2.1 f hf).1 hm⟩, fun e he => ⟨Nat.le_trans (h.2.1 e he).1 hm, fun i hi => Nat.le_trans ((h.2.1 e he).2.1 i hi).1 hm⟩⟩
end

end L
end Go.Proofs.YthgbiflfinddiaaGreat

/- A body and programs that came in, opened, where what came in is not too much. -/
namespace Go.Proofs.YthgbiflfinddiaaGreat
namespace L
open Go.ChangeShapes Go.WideShapes Go.ChangeAt Go.RowKit
set_option linter.unusedVariables false

section
variable {H : Type} {enc : TypeId × Value → H} {w : World} {base : Nat} {spare : Nat → Bool} {held : Bool}

theorem bulk_one (d : DataW H) : 1 ≤ Rows.uptoBulk d := by
  cases d with
  | lit l => cases l <;> simp [Rows.uptoBulk]
  | nil => simp [Rows.uptoBulk]
  | ptr d => simp [Rows.uptoBulk]
  | slice elems spare => simp [Rows.uptoBulk]
  | agg parts => simp [Rows.uptoBulk]
  | iface t d => simp [Rows.uptoBulk]
  | map entries => simp [Rows.uptoBulk]
  | held h => simp [Rows.uptoBulk]
theorem bulk_app (l r : List (DataW H)) : Rows.uptoBulkAll (l ++ r) = Rows.uptoBulkAll l + Rows.uptoBulkAll r := by
  induction l with
  | nil => simp [Rows.uptoBulkAll]
  | cons x l ih => simp only [List.cons_append, Rows.uptoBulkAll, ih]; omega
theorem bulk_mem {d : DataW H} {l : List (DataW H)} (h : d ∈ l) : Rows.uptoBulk d ≤ Rows.uptoBulkAll l := by
  induction l with
  | nil => cases h
  | cons x r ih =>
    simp only [Rows.uptoBulkAll]
    cases List.mem_cons.1 h with
    | inl e => subst e; omega
    | inr e => have := ih e; omega
theorem list_of {α : Type} {R : Nat → α → Prop} {f : α → Nat} {D : Nat → DataW H} : ∀ len : Nat, (∀ i, i < len → ∃ y, R i y ∧ f y ≤ 60 * Rows.uptoBulk (D i)) → ∃ l : List α, l.length = len ∧ (∀ k y, l[k]? = some y → R k y) ∧ (l.map f).sum ≤ 60 * Rows.uptoBulkAll ((List.range len).map D) ∧ len ≤ Rows.uptoBulkAll ((List.range len).map D)
  | 0, _ => ⟨[], rfl, fun k y h => by simp at h, by simp [Rows.uptoBulkAll], by simp⟩
  | len + 1, h => by
    obtain ⟨l, h1, h2, h3, h4⟩ := list_of len fun i hi => h i (by omega)
    obtain ⟨y, hy, hf⟩ := h len (by omega)
    have hb := bulk_one (D len)
    refine ⟨l ++ [y], by simp [h1], fun k z hz => ?_, ?_, ?_⟩
    · by_cases hk : k < l.length
      · rw [List.getElem?_append_left hk] at hz; exact h2 k z hz
      · have hk' : k = l.length := by
          have := (List.getElem?_eq_some_iff.1 hz).1
          rw [List.length_append, List.length_singleton] at this
          omega
        subst hk'
        rw [List.getElem?_append_right (Nat.le_refl _), Nat.sub_self] at hz
        have : y = z := by simpa using hz
        subst this
        rw [h1]
        exact hy
    · rw [List.range_succ, List.map_append, List.map_append, bulk_app, List.sum_append]
      simp only [List.map_cons, List.map_nil, List.sum_cons, List.sum_nil, Rows.uptoBulkAll]
      omega
    · rw [List.range_succ, List.map_append, bulk_app]
      simp only [List.map_cons, List.map_nil, Rows.uptoBulkAll]
      omega
/-- A list that came in: what each entry can be at most, together. -/
theorem open_listU {α : Type} {P : World → Addr → α → Prop} {Q : α → Prop} {f : α → Nat} {sz : Nat} {t e : TypeId} (ht : Tryz.prog.underlying t = some (.slice e)) (hc : Tryz.prog.cellsOf e = sz)
    {fuel : Nat} {cs : List Value} {d : DataW H} {pl : List MemPlace} (h : DataW.trod enc Tryz.prog w base spare held fuel t cs = some (d, pl)) (hB : Rows.uptoBulk d ≤ 1048576)
    (hel : ∀ (fuel : Nat) (a : Addr) (cs : List Value) (d' : DataW H) (pl : List MemPlace), SizeOf.sizeOf d' < SizeOf.sizeOf d → w.cells? base a sz = some cs → DataW.trod enc Tryz.prog w base spare held fuel e cs = some (d', pl) → Rows.uptoBulk d' ≤ 1048576 → ∃ y, P w a y ∧ Q y ∧ f y ≤ 60 * Rows.uptoBulk d') :
    ∃ v l, cs = [v] ∧ RdL sz P w v l ∧ (∀ y ∈ l, Q y) ∧ (l.map f).sum + 60 ≤ 60 * Rows.uptoBulk d ∧ l.length + 1 ≤ Rows.uptoBulk d := by
  rcases Go.Deep.open_slice ht h with ⟨hcs, hx⟩ | ⟨a, len, cap, m, n, D, Pl, hcs, _, hl, hm, hmm, hx, hels⟩
  · have hb := bulk_one d
    exact ⟨_, [], hcs, RdL.nil _ _ _, fun y hy => by simp at hy, by simp; omega, by simpa using hb⟩
  · rw [hc] at hels
    have hd := (Prod.mk.inj hx).1
    have hm' : len ≤ m := by rw [hmm]; split <;> omega
    have hbd : Rows.uptoBulkAll ((List.range len).map D) + 1 ≤ Rows.uptoBulk d := by rw [hd]; simp only [Rows.uptoBulk]; omega
    obtain ⟨l, h1, h2, h3, h4⟩ := list_of (R := fun i y => P w (a.add (i * sz)) y ∧ Q y) (f := f) (D := D) len fun i hi => by
      obtain ⟨cs', g1, g2⟩ := hels i (by omega)
      have hmem : D i ∈ (List.range len).map D := List.mem_map.2 ⟨i, List.mem_range.2 hi, rfl⟩
      obtain ⟨y, q1, q2, q3⟩ := hel n _ cs' (D i) (Pl i) (by
        have := List.sizeOf_lt_of_mem hmem
        rw [hd, DataW.slice.sizeOf_spec]
        omega) g1 g2 (by have := bulk_mem hmem; omega)
      exact ⟨y, ⟨q1, q2⟩, q3⟩
    refine ⟨_, l, hcs, ⟨some a, len, cap, rfl, h1, hl, hm, fun h => (by cases h), fun x hx' k y hy => ?_⟩, fun y hy => ?_, by omega, by omega⟩
    · cases hx'
      exact (h2 k y hy).1
    · obtain ⟨k, hk⟩ := List.getElem?_of_mem hy
      exact (h2 k y hk).2

theorem open_u64U {fuel : Nat} {c : Value} {x : DataW H × List MemPlace} (h : DataW.trod enc Tryz.prog w base spare held fuel 66 [c] = some x) : ∃ n : Nat, c = .int .u64 (n : Int) ∧ n ≤ 18446744073709551615 := by
  obtain ⟨n, h1, _, h2⟩ := DataW.trod_int Tryz.underlying66 h
  simp at h1
  have := bounds_u64 h2
  exact ⟨n.toNat, by rw [h1, Int.toNat_of_nonneg (by omega)], by omega⟩
theorem open_bitU (fuel : Nat) (a : Addr) (cs : List Value) (d : DataW H) (pl : List MemPlace) (hc : w.cells? base a 1 = some cs) (h : DataW.trod enc Tryz.prog w base spare held fuel 66 cs = some (d, pl)) : ∃ y, UAt w a y ∧ y ≤ 18446744073709551615 ∧ 0 ≤ 60 * Rows.uptoBulk d := by
  obtain ⟨_, hlen, hcell⟩ := World.cells?_some hc
  match cs, hlen with
  | [v0], _ =>
    obtain ⟨n1, rfl, z1⟩ := open_u64U h
    refine ⟨n1, ?_, z1, Nat.zero_le _⟩
    have := hcell 0 (by omega)
    simpa [Addr.add, UAt] using this
theorem open_byteU (fuel : Nat) (a : Addr) (cs : List Value) (d : DataW H) (pl : List MemPlace) (hc : w.cells? base a 1 = some cs) (h : DataW.trod enc Tryz.prog w base spare held fuel 5 cs = some (d, pl)) : ∃ y, YAt w a y ∧ True ∧ 0 ≤ 60 * Rows.uptoBulk d := by
  obtain ⟨_, hlen, hcell⟩ := World.cells?_some hc
  match cs, hlen with
  | [v0], _ =>
    obtain ⟨n, h1, _, h2⟩ := DataW.trod_int Tryz.underlying5 h
    simp at h1
    subst h1
    have hb := bounds_u8 h2
    refine ⟨UInt8.ofNat n.toNat, ?_, trivial, Nat.zero_le _⟩
    have := hcell 0 (by omega)
    have e : (((UInt8.ofNat n.toNat).toNat : Nat) : Int) = n := by
      rw [UInt8.toNat_ofNat', Nat.mod_eq_of_lt (by omega), Int.toNat_of_nonneg (by omega)]
    show w.cell? a = some (.int .u8 (((UInt8.ofNat n.toNat).toNat : Nat) : Int))
    rw [e]
    simpa [Addr.add] using this
theorem open_rawU {fuel : Nat} {cs : List Value} {d : DataW H} {pl : List MemPlace} (h : DataW.trod enc Tryz.prog w base spare held fuel 39 cs = some (d, pl)) (hB : Rows.uptoBulk d ≤ 1048576) : ∃ v l, cs = [v] ∧ RdL 1 YAt w v l ∧ l.length + 1 ≤ Rows.uptoBulk d := by
  obtain ⟨v, l, e, r, _, _, b⟩ := open_listU (P := YAt) (Q := fun _ => True) (f := fun _ => 0) (sz := 1) Tryz.underlying39 (by kernel_rfl) h hB fun fuel a cs d' pl _ hc h' _ => open_byteU fuel a cs d' pl hc h'
  exact ⟨v, l, e, r, b⟩
theorem open_rawsU (fuel : Nat) (a : Addr) (cs : List Value) (d : DataW H) (pl : List MemPlace) (hc : w.cells? base a 1 = some cs) (h : DataW.trod enc Tryz.prog w base spare held fuel 39 cs = some (d, pl)) (hB : Rows.uptoBulk d ≤ 1048576) : ∃ y, ZAt w a y ∧ y.length ≤ 1048576 ∧ 20 + y.length ≤ 60 * Rows.uptoBulk d := by
  obtain ⟨_, hlen, hcell⟩ := World.cells?_some hc
  obtain ⟨v, l, e, r, b⟩ := open_rawU h hB
  subst e
  refine ⟨l, ⟨v, ?_, r⟩, by omega, by omega⟩
  have := hcell 0 (by omega)
  simpa [Addr.add] using this
theorem part_bulk {xs : List (DataW H × List MemPlace)} {i : Nat} (hi : i < xs.length) : Rows.uptoBulk (xs[i]'hi).1 + 1 ≤ Rows.uptoBulk (DataW.agg (xs.map (·.1))) := by
  have hm : (xs[i]'hi).1 ∈ xs.map (·.1) := List.mem_map.2 ⟨_, List.getElem_mem hi, rfl⟩
  have := bulk_mem hm
  simp only [Rows.uptoBulk]
  omega
theorem part_ltU {xs : List (DataW H × List MemPlace)} {i : Nat} (hi : i < xs.length) : SizeOf.sizeOf (xs[i]'hi).1 < SizeOf.sizeOf (DataW.agg (xs.map (·.1))) := by
  have : (xs[i]'hi).1 ∈ xs.map (·.1) := List.mem_map.2 ⟨_, List.getElem_mem hi, rfl⟩
  have := List.sizeOf_lt_of_mem this
  rw [DataW.agg.sizeOf_spec]
  omega
theorem bulk4 {xs : List (DataW H × List MemPlace)} (h : xs.length = 4) : Rows.uptoBulk (DataW.agg (xs.map (·.1))) = Rows.uptoBulk (xs[0]'(by omega)).1 + Rows.uptoBulk (xs[1]'(by omega)).1 + Rows.uptoBulk (xs[2]'(by omega)).1 + Rows.uptoBulk (xs[3]'(by omega)).1 + 1 := by
  match xs, h with
  | [a, b, c, d], _ => simp [Rows.uptoBulk, Rows.uptoBulkAll]; omega
theorem bulk2 {xs : List (DataW H × List MemPlace)} (h : xs.length = 2) : Rows.uptoBulk (DataW.agg (xs.map (·.1))) = Rows.uptoBulk (xs[0]'(by omega)).1 + Rows.uptoBulk (xs[1]'(by omega)).1 + 1 := by
  match xs, h with
  | [a, b], _ => simp [Rows.uptoBulk, Rows.uptoBulkAll]
set_option maxRecDepth 100000 in
theorem open_recU (fuel : Nat) (a : Addr) (cs : List Value) (d : DataW H) (pl : List MemPlace) (hc : w.cells? base a 4 = some cs) (h : DataW.trod enc Tryz.prog w base spare held fuel 104 cs = some (d, pl)) (hB : Rows.uptoBulk d ≤ 1048576) : ∃ y, RAt w a y ∧ (y.bits ≤ 18446744073709551615 ∧ y.bytes.length ≤ 1048576) ∧ 20 + y.bytes.length ≤ 60 * Rows.uptoBulk d := by
  obtain ⟨_, hlen, hcell⟩ := World.cells?_some hc
  obtain ⟨xs, n, _, hx, _, hxl, hf⟩ := DataW.trod_struct Tryz.underlying104 h
  have hd := (Prod.mk.inj hx).1
  match cs, hlen with
  | [v0, v1, v2, v3], _ =>
    have hxs : xs.length = 4 := hxl
    have f0 : DataW.trod enc Tryz.prog w base spare held n 3 [v0] = xs[0]? := hf 0 _ rfl
    have f1 : DataW.trod enc Tryz.prog w base spare held n 3 [v1] = xs[1]? := hf 1 _ rfl
    have f2 : DataW.trod enc Tryz.prog w base spare held n 66 [v2] = xs[2]? := hf 2 _ rfl
    have f3 : DataW.trod enc Tryz.prog w base spare held n 39 [v3] = xs[3]? := hf 3 _ rfl
    rw [List.getElem?_eq_getElem (by omega)] at f0 f1 f2 f3
    have g3 := part_bulk (xs := xs) (i := 3) (by omega)
    rw [← hd] at g3
    obtain ⟨n0, rfl, z0⟩ := open_num f0
    obtain ⟨n1, rfl, z1⟩ := open_num f1
    obtain ⟨n2, rfl, z2⟩ := open_u64U f2
    obtain ⟨u3, l3, e3, r3, b3⟩ := open_rawU (d := (xs[3]'(by omega)).1) (pl := (xs[3]'(by omega)).2) f3 (by omega)
    simp at e3
    subst e3
    refine ⟨⟨n0, n1, n2, l3⟩, ⟨v3, ?_, hcell 1 (by omega), hcell 2 (by omega), hcell 3 (by omega), r3⟩, ⟨z2, by show l3.length ≤ _; omega⟩, by show 20 + l3.length ≤ _; omega⟩
    have := hcell 0 (by omega)
    simpa [Addr.add] using this
set_option maxRecDepth 100000 in
theorem open_valU {β : Type} {P : World → Addr → β → Prop} {Q : β → Prop} {f : β → Nat} (fuel : Nat) (a : Addr) (cs : List Value) (d : DataW H) (pl : List MemPlace) (hc : w.cells? base a 4 = some cs) (h : DataW.trod enc Tryz.prog w base spare held fuel 71 cs = some (d, pl)) (hB : Rows.uptoBulk d ≤ 1048576)
    (hel : ∀ (fuel : Nat) (a : Addr) (cs : List Value) (d' : DataW H) (pl : List MemPlace), SizeOf.sizeOf d' < SizeOf.sizeOf d → w.cells? base a 2 = some cs → DataW.trod enc Tryz.prog w base spare held fuel 30 cs = some (d', pl) → Rows.uptoBulk d' ≤ 1048576 → ∃ y, P w a y ∧ Q y ∧ 20 + f y ≤ 60 * Rows.uptoBulk d') : ∃ y, VAt P w a y ∧ VSm Q y ∧ vW f y ≤ 60 * Rows.uptoBulk d := by
  obtain ⟨_, hlen, hcell⟩ := World.cells?_some hc
  obtain ⟨xs, n, _, hx, _, hxl, hf⟩ := DataW.trod_struct Tryz.underlying71 h
  have hd := (Prod.mk.inj hx).1
  match cs, hlen with
  | [v0, v1, v2, v3], _ =>
    have hxs : xs.length = 4 := hxl
    have f0 : DataW.trod enc Tryz.prog w base spare held n 3 [v0] = xs[0]? := hf 0 _ rfl
    have f1 : DataW.trod enc Tryz.prog w base spare held n 67 [v1] = xs[1]? := hf 1 _ rfl
    have f2 : DataW.trod enc Tryz.prog w base spare held n 68 [v2] = xs[2]? := hf 2 _ rfl
    have f3 : DataW.trod enc Tryz.prog w base spare held n 69 [v3] = xs[3]? := hf 3 _ rfl
    rw [List.getElem?_eq_getElem (by omega)] at f0 f1 f2 f3
    have hb4 := bulk4 hxs
    rw [← hd] at hb4
    have g0 := bulk_one (xs[0]'(by omega)).1
    have g3 := part_ltU (xs := xs) (i := 3) (by omega)
    rw [← hd] at g3
    obtain ⟨n0, rfl, z0⟩ := open_num f0
    obtain ⟨u1, l1, e1, r1, k1, _, b1⟩ := open_listU (P := UAt) (Q := fun n => n ≤ 18446744073709551615) (f := fun _ => 0) (sz := 1) Tryz.underlying67 (by kernel_rfl) (d := (xs[1]'(by omega)).1) (pl := (xs[1]'(by omega)).2) f1 (by omega) fun fuel a cs d' pl _ hc h' _ => open_bitU fuel a cs d' pl hc h'
    obtain ⟨u2, l2, e2, r2, k2, w2, b2⟩ := open_listU (P := ZAt) (Q := fun l => l.length ≤ 1048576) (f := fun z => 20 + z.length) (sz := 1) Tryz.underlying68 (by kernel_rfl) (d := (xs[2]'(by omega)).1) (pl := (xs[2]'(by omega)).2) f2 (by omega) fun fuel a cs d' pl _ hc h' hs => open_rawsU fuel a cs d' pl hc h' hs
    obtain ⟨u3, l3, e3, r3, k3, w3, b3⟩ := open_listU (P := P) (Q := Q) (f := fun s => 20 + f s) (sz := 2) Tryz.underlying69 (by kernel_rfl) (d := (xs[3]'(by omega)).1) (pl := (xs[3]'(by omega)).2) f3 (by omega) fun fuel a cs d' pl hlt hc h' hs => hel fuel a cs d' pl (Nat.lt_trans hlt g3) hc h' hs
    simp at e1 e2 e3
    subst e1 e2 e3
    refine ⟨⟨n0, l1, l2, l3⟩, ⟨v1, v2, v3, ?_, hcell 1 (by omega), hcell 2 (by omega), hcell 3 (by omega), r1, r2, r3⟩, ⟨by show l1.length ≤ _; omega, k1, by show l2.length ≤ _; omega, k2, by show l3.length ≤ _; omega, k3⟩, ?_⟩
    · have := hcell 0 (by omega)
      simpa [Addr.add] using this
    · show 30 + 30 * l1.length + (l2.map fun z => 20 + z.length).sum + (l3.map fun s => 20 + f s).sum ≤ _
      omega
set_option maxRecDepth 100000 in
theorem open_partsU {N : Nat} (hel : ∀ (fuel : Nat) (a : Addr) (cs : List Value) (d' : DataW H) (pl : List MemPlace), SizeOf.sizeOf d' < N → w.cells? base a 2 = some cs → DataW.trod enc Tryz.prog w base spare held fuel 30 cs = some (d', pl) → Rows.uptoBulk d' ≤ 1048576 → ∃ y, BAt N w a y ∧ BSm N y ∧ 20 + bW N y ≤ 60 * Rows.uptoBulk d')
    {fuel : Nat} {cs : List Value} {d : DataW H} {pl : List MemPlace} (hN : SizeOf.sizeOf d ≤ N) (h : DataW.trod enc Tryz.prog w base spare held fuel 30 cs = some (d, pl)) (hl : cs.length = 2) (hB : Rows.uptoBulk d ≤ 1048576) : ∃ v0 v1 y, cs = [v0, v1] ∧ BRd N w v0 v1 y ∧ OSm (BSm N) y ∧ 20 + oW (bW N) y ≤ 60 * Rows.uptoBulk d := by
  obtain ⟨xs, n, _, hx, _, hxl, hf⟩ := DataW.trod_struct Tryz.underlying30 h
  have hd := (Prod.mk.inj hx).1
  match cs, hl with
  | [v0, v1], _ =>
    have hxs : xs.length = 2 := hxl
    have f0 : DataW.trod enc Tryz.prog w base spare held n 27 [v0] = xs[0]? := hf 0 _ rfl
    have f1 : DataW.trod enc Tryz.prog w base spare held n 28 [v1] = xs[1]? := hf 1 _ rfl
    rw [List.getElem?_eq_getElem (by omega)] at f0 f1
    have hb2 := bulk2 hxs
    have g0 := part_ltU (xs := xs) (i := 0) (by omega)
    rw [← hd] at hb2 g0
    obtain ⟨u0, l0, e0, r0, k0, w0, b0⟩ := open_listU (P := VAt (BAt N)) (Q := VSm (BSm N)) (f := vW (bW N)) (sz := 4) Tryz.underlying27 (by kernel_rfl) (d := (xs[0]'(by omega)).1) (pl := (xs[0]'(by omega)).2) f0 (by omega) fun fuel a cs d' pl hlt hc h' hs => open_valU fuel a cs d' pl hc h' hs fun fuel a cs d'' pl hlt2 hc h'' hs2 => hel fuel a cs d'' pl (Nat.lt_of_lt_of_le (Nat.lt_trans hlt2 (Nat.lt_trans hlt g0)) hN) hc h'' hs2
    obtain ⟨u1, l1, e1, r1, k1, w1, b1⟩ := open_listU (P := RAt) (Q := fun r => r.bits ≤ 18446744073709551615 ∧ r.bytes.length ≤ 1048576) (f := fun r => 20 + r.bytes.length) (sz := 4) Tryz.underlying28 (by kernel_rfl) (d := (xs[1]'(by omega)).1) (pl := (xs[1]'(by omega)).2) f1 (by omega) fun fuel a cs d' pl _ hc h' hs => open_recU fuel a cs d' pl hc h' hs
    simp at e0 e1
    subst e0 e1
    refine ⟨v0, v1, ⟨l0, l1⟩, rfl, ⟨r0, r1⟩, ⟨k0, by show l1.length ≤ _; omega, k1⟩, ?_⟩
    show 20 + ((l0.map (vW (bW N))).sum + (l1.map fun r => 20 + r.bytes.length).sum) ≤ _
    omega
theorem open_subU : ∀ (N fuel : Nat) (a : Addr) (cs : List Value) (d' : DataW H) (pl : List MemPlace), SizeOf.sizeOf d' < N → w.cells? base a 2 = some cs → DataW.trod enc Tryz.prog w base spare held fuel 30 cs = some (d', pl) → Rows.uptoBulk d' ≤ 1048576 → ∃ y, BAt N w a y ∧ BSm N y ∧ 20 + bW N y ≤ 60 * Rows.uptoBulk d'
  | 0, _, _, _, _, _, h, _, _, _ => by omega
  | N + 1, fuel, a, cs, d', pl, hN, hc, h, hs => by
    obtain ⟨_, hlen, hcell⟩ := World.cells?_some hc
    obtain ⟨v0, v1, y, rfl, hr, hk, hw⟩ := open_partsU (open_subU N) (by omega) h hlen hs
    refine ⟨y, ⟨v0, v1, ?_, hcell 1 (by omega), hr⟩, hk, hw⟩
    have := hcell 0 (by omega)
    simpa [Addr.add] using this
set_option maxRecDepth 100000 in
/-- A body that came in: how deep it is at most, what can be read, how much it can become. -/
theorem open_bodyU {v : Value} {fuel : Nat} {d : DataW H} {pl : List MemPlace} (N : Nat) (hN : SizeOf.sizeOf d ≤ N) (h : DataW.trod enc Tryz.prog w base spare held fuel 30 v.cells.toList = some (d, pl)) (hB : Rows.uptoBulk d ≤ 1048576) : ∃ v0 v1 y, v = .agg #[v0, v1] ∧ BRd N w v0 v1 y ∧ OSm (BSm N) y ∧ oW (bW N) y ≤ 1000000000 := by
  have hlen : v.cells.toList.length = 2 := by
    obtain ⟨xs, n, _, _, hlen, _, _⟩ := DataW.trod_struct Tryz.underlying30 h
    exact hlen
  obtain ⟨v0, v1, y, hcs, hr, hk, hw⟩ := open_partsU (open_subU N) hN h hlen hB
  clear h hlen
  refine ⟨v0, v1, y, ?_, hr, hk, by omega⟩
  cases v <;> simp [Value.cells] at hcs
  rename_i cs
  have : cs = #[v0, v1] := by cases cs; simp_all
  rw [this]
/-- A step's numbers are numbers. -/
def SI64 (s : TI) : Prop := -9223372036854775808 ≤ s.field ∧ s.field ≤ 9223372036854775807
set_option maxRecDepth 100000 in
theorem open_stepU (fuel : Nat) (a : Addr) (cs : List Value) (d : DataW H) (pl : List MemPlace) (hc : w.cells? base a 5 = some cs) (h : DataW.trod enc Tryz.prog w base spare held fuel 51 cs = some (d, pl)) : ∃ y, StAt w a y ∧ SI64 y ∧ 0 ≤ 60 * Rows.uptoBulk d := by
  obtain ⟨_, hlen, hcell⟩ := World.cells?_some hc
  obtain ⟨xs, n, _, hx, _, hxl, hf⟩ := DataW.trod_struct Tryz.underlying51 h
  match cs, hlen with
  | [v0, v1, v2, v3, v4], _ =>
    have hxs : xs.length = 5 := hxl
    have f0 : DataW.trod enc Tryz.prog w base spare held n 3 [v0] = xs[0]? := hf 0 _ rfl
    have f1 : DataW.trod enc Tryz.prog w base spare held n 3 [v1] = xs[1]? := hf 1 _ rfl
    have f2 : DataW.trod enc Tryz.prog w base spare held n 3 [v2] = xs[2]? := hf 2 _ rfl
    have f3 : DataW.trod enc Tryz.prog w base spare held n 3 [v3] = xs[3]? := hf 3 _ rfl
    have f4 : DataW.trod enc Tryz.prog w base spare held n 3 [v4] = xs[4]? := hf 4 _ rfl
    rw [List.getElem?_eq_getElem (by omega)] at f0 f1 f2 f3 f4
    obtain ⟨n0, rfl, z0⟩ := open_num f0
    obtain ⟨n1, rfl, z1⟩ := open_num f1
    obtain ⟨n2, rfl, z2⟩ := open_num f2
    obtain ⟨n3, rfl, z3⟩ := open_num f3
    obtain ⟨n4, rfl, z4⟩ := open_num f4
    refine ⟨⟨n0, n1, n2, n3, n4⟩, ⟨?_, hcell 1 (by omega), hcell 2 (by omega), hcell 3 (by omega), hcell 4 (by omega)⟩, by unfold I64 at z3; unfold SI64; exact ⟨by show _ ≤ n3; omega, by show n3 ≤ _; omega⟩, Nat.zero_le _⟩
    have := hcell 0 (by omega)
    simpa [Addr.add] using this
theorem open_progU (fuel : Nat) (a : Addr) (cs : List Value) (d : DataW H) (pl : List MemPlace) (hc : w.cells? base a 1 = some cs) (h : DataW.trod enc Tryz.prog w base spare held fuel 45 cs = some (d, pl)) (hB : Rows.uptoBulk d ≤ 1048576) : ∃ y, PrAt w a y ∧ (∀ s ∈ y, SI64 s) ∧ 0 ≤ 60 * Rows.uptoBulk d := by
  obtain ⟨_, hlen, hcell⟩ := World.cells?_some hc
  obtain ⟨v, l, e, r, k, _, _⟩ := open_listU (P := StAt) (Q := SI64) (f := fun _ => 0) (sz := 5) Tryz.underlying45 (by kernel_rfl) h hB fun fuel a cs d' pl _ hc h' _ => open_stepU fuel a cs d' pl hc h'
  subst e
  refine ⟨l, ⟨v, ?_, r⟩, k, Nat.zero_le _⟩
  have := hcell 0 (by omega)
  simpa [Addr.add] using this
/-- Programs that came in. -/
theorem open_progsU {fuel : Nat} {cs : List Value} {d : DataW H} {pl : List MemPlace} (h : DataW.trod enc Tryz.prog w base spare held fuel 26 cs = some (d, pl)) (hB : Rows.uptoBulk d ≤ 1048576) : ∃ v l, cs = [v] ∧ RdL 1 PrAt w v l ∧ ∀ p ∈ l, ∀ s ∈ p, SI64 s := by
  obtain ⟨v, l, e, r, k, _, _⟩ := open_listU (P := PrAt) (Q := fun p => ∀ s ∈ p, SI64 s) (f := fun _ => 0) (sz := 1) Tryz.underlying26 (by kernel_rfl) h hB fun fuel a cs d' pl _ hc h' hs => open_progU fuel a cs d' pl hc h' hs
  exact ⟨v, l, e, r, k⟩

end
end L
end Go.Proofs.YthgbiflfinddiaaGreat

/- Bytes as a string. -/
namespace Go.Proofs.YthgbiflfinddiaaGreat
namespace L
open Go.RowKit

theorem bytes_str {w : World} {ao : Option Addr} {len cap : Nat} {l : List UInt8} (h : RdL 1 YAt w (.slice ao len cap) l) : (convert 39 9 (.slice ao len cap)).run Tryz.prog w = .ok (.string ⟨l.toArray⟩) w := by
  obtain ⟨ao', n', cap', e, h1, h2, h3, h4, h5⟩ := h
  cases e
  cases ao with
  | none =>
    have hc0 := (h4 rfl).1
    have hm : l = [] := List.eq_nil_of_length_eq_zero (by omega)
    subst hm
    rw [run_convert_bytes_nil w 39 5 Tryz.underlying39 Tryz.underlying5 len cap 9 Tryz.underlying9]
    rfl
  | some x =>
    have hl : (loadCells x len).run Tryz.prog w = .ok ((l.map fun c => ((c.toNat : Nat) : Int)).map (Value.int .u8)).toArray w := by
      have := run_loadCells_list (P := Tryz.prog) w x ((l.map fun c => ((c.toNat : Nat) : Int)).map (Value.int .u8)) (fun j v hj => by
        rw [List.getElem?_map, List.getElem?_map] at hj
        cases hc : l[j]? with
        | none => rw [hc] at hj; cases hj
        | some c =>
          rw [hc] at hj
          have := h5 x rfl j c hc
          rw [Nat.mul_one] at this
          rw [show w.cell? (x.add j) = _ from this]
          exact hj)
      simpa [h1] using this
    rw [run_convert_bytes_string w 39 9 5 _ len cap Tryz.underlying39 Tryz.underlying5 Tryz.underlying9, run_bytesToString w _ len cap _ hl, foldl_push_bytes]
    have e : ∀ l : List UInt8, (l.map fun c => ((c.toNat : Nat) : Int)).map (fun n : Int => UInt8.ofNat n.toNat) = l := by
      intro l
      rw [List.map_map]
      conv => rhs; rw [← List.map_id l]
      apply List.map_congr_left
      intro c _
      simp
    rw [e]
    simp [ByteArray.empty, ByteArray.emptyWithCapacity]
    rfl

end L
end Go.Proofs.YthgbiflfinddiaaGreat

/- PressTells: what Make, Wrong and Run tell is what the document's own answer tells. -/
namespace Go.Proofs.YthgbiflfinddiaaGreat
namespace L
open Go.RowKit
set_option linter.unusedVariables false

theorem rlen_le {g : GI} (h : GOk g) : g.msgs.length ≤ 140737488355328 ∧ g.enums.length ≤ 140737488355328 := by
  obtain ⟨_, _, h3, h4⟩ := h
  unfold reachBytes at h3 h4
  omega
def makeP (g : GI) : List (List TI) := if (wrongL g).1 ≠ 0 then [] else makeN g
def faultP (g : GI) : Int := if (wrongL g).1 ≠ 0 then (((wrongL g).2 : Nat) : Int) else 0
theorem makeP_si (g : GI) : ∀ p ∈ makeP g, ∀ s ∈ p, SI64 s := by
  intro p hp s hs
  unfold makeP at hp
  split at hp
  · cases hp
  · rename_i h0
    unfold makeN at hp
    obtain ⟨m, hm, rfl⟩ := List.mem_map.1 hp
    unfold progN at hs
    obtain ⟨n, hn, rfl⟩ := List.mem_map.1 hs
    have := kind_ok (by simpa using h0) hm hn
    have e : (stepN g (fieldN m.fields n)).field = (fieldN m.fields n).kind := rfl
    unfold SI64
    rw [e]
    omega
theorem makeT {w : World} {vm ve : Value} {g : GI} (hg : GRd w vm ve g) (hn1 : g.msgs.length ≤ 140737488355328) (hn2 : g.enums.length ≤ 140737488355328) (hf : Fits g) :
    Calls Tryz.prog 5 #[.agg #[vm, ve]] w fun e w' => ∃ ao n c, e = .returned (.tuple #[.slice ao n c, .agg #[.int .i64 (wrongL g).1, .int .i64 (faultP g)]]) ∧ RdL 1 PrAt w' (.slice ao n c) (makeP g) ∧ Below w.heap.size w w' := by
  refine (make_any hg hn1 hn2 hf).mono ?_
  rintro e w' ⟨hb, h⟩
  rcases h with ⟨h0, rfl⟩ | ⟨h0, ao, n, cap, l, rfl, hq, hl⟩
  · exact ⟨none, 0, 0, by unfold faultP; rw [if_pos h0], by unfold makeP; rw [if_pos h0]; exact RdL.nil _ _ _, hb⟩
  · refine ⟨ao, n, cap, by unfold faultP; rw [if_neg (by simp [h0]), h0], ?_, hb⟩
    have := hq.rd
    rw [hl] at this
    unfold makeP
    rw [if_neg (by simp [h0])]
    exact this
theorem rmakeT {w : World} {vm ve : Value} {g : GI} (hg : GRd w vm ve g) (hn1 : g.msgs.length ≤ 140737488355328) (hn2 : g.enums.length ≤ 140737488355328) (hf : Fits g) :
    Calls Tryz.prog 6 #[.agg #[vm, ve]] w fun e w' => ∃ ao n c, e = .returned (.tuple #[.slice ao n c, .agg #[.int .i64 (wrongL g).1, .int .i64 (faultP g)]]) ∧ RdL 1 PrAt w' (.slice ao n c) (makeP g) ∧ Below w.heap.size w w' := by
  refine (rmake_any hg hn1 hn2 hf).mono ?_
  rintro e w' ⟨hb, h⟩
  rcases h with ⟨h0, rfl⟩ | ⟨h0, ao, n, cap, l, rfl, hq, hl⟩
  · exact ⟨none, 0, 0, by unfold faultP; rw [if_pos h0], by unfold makeP; rw [if_pos h0]; exact RdL.nil _ _ _, hb⟩
  · refine ⟨ao, n, cap, by unfold faultP; rw [if_neg (by simp [h0]), h0], ?_, hb⟩
    have := hq.rd
    rw [hl] at this
    unfold makeP
    rw [if_neg (by simp [h0])]
    exact this
set_option maxHeartbeats 4000000 in
set_option maxRecDepth 100000 in
theorem pressTells_walk {w : World} {vm ve vl v0 v1 : Value} {p : Int} {g : GI} {ps : List (List TI)} {d : Nat} {b : BO (BI d)} (hg : GRd w vm ve g) (hn1 : g.msgs.length ≤ 140737488355328) (hn2 : g.enums.length ≤ 140737488355328) (hf : Fits g) (hl : RdL 1 PrAt w vl ps) (hsi : ∀ p ∈ ps, ∀ s ∈ p, SI64 s) (hq : BRd d w v0 v1 b) (hsm : OSm (BSm d) b) (hbw : oW (bW d) b ≤ 1000000000) :
    Calls Tryz.prog 3 #[.agg #[vm, ve], vl, .int .i64 p, .agg #[v0, v1]] w fun e w' => e = .returned (.bool true) ∧ Below w.heap.size w w' := by
  obtain ⟨a1, n1, c1, rfl, H1, _⟩ := hg.1.shape
  obtain ⟨a2, n2, c2, rfl, H2, _⟩ := hg.2.shape
  obtain ⟨al, nl, cl, rfl, Hnl, _⟩ := hl.shape
  obtain ⟨b0, m0, d0, rfl, _, _⟩ := hq.1.shape
  obtain ⟨b1, m1, d1, rfl, _, _⟩ := hq.2.shape
  obtain ⟨W0, HW0⟩ : ∃ W0, Hid (W0 = (w.alloc (.cells #[.slice a1 n1 c1, .slice a2 n2 c2] 25)).alloc (.cells #[.slice b0 m0 d0, .slice b1 m1 d1] 30)) := ⟨_, rfl⟩
  have hb0 : Below w.heap.size w W0 := by rw [HW0.out]; exact cells_alloc2 _ _ _
  have hz0 : w.heap.size + 2 ≤ W0.heap.size := by rw [HW0.out]; simp
  have x1 : W0.heap[w.heap.size]? = some (.cells #[.slice a1 n1 c1, .slice a2 n2 c2] 25 (0, 0)) := by rw [HW0.out]; exact alloc2_old _ _ _
  have x2 : W0.heap[w.heap.size + 1]? = some (.cells #[.slice b0 m0 d0, .slice b1 m1 d1] 30 (0, 0)) := by rw [HW0.out]; exact alloc2_new _ _ _
  have hmk := makeT (hg.below hb0) hn1 hn2 hf
  obtain ⟨E, HE⟩ : ∃ E, Hid ((wrongL g).1 = E) := ⟨_, rfl⟩
  obtain ⟨I, HI⟩ : ∃ I, Hid (faultP g = I) := ⟨_, rfl⟩
  obtain ⟨Q, HQ⟩ : ∃ Q, Hid (makeP g = Q) := ⟨_, rfl⟩
  have hQs := makeP_si g
  rw [HE.out, HI.out, HQ.out] at hmk
  rw [HQ.out] at hQs
  go_enter Tryz.func3, Tryz.ntmps3
  go_wp2_with fail
  rw [← HW0.out]
  refine hmk.mono ?_
  rintro e w1 ⟨aa, na, ca, rfl, hra, hb1⟩
  obtain ⟨W2, HW2⟩ : ∃ W2, Hid (W2 = w1.alloc (.cells #[.int .i64 E, .int .i64 I] 33)) := ⟨_, rfl⟩
  have hb2 : Below w1.heap.size w1 W2 := by rw [HW2.out]; exact (Below.refl _ _).alloc (Nat.le_refl _) _
  have hz2 : w1.heap.size + 1 ≤ W2.heap.size := by rw [HW2.out]; simp
  have x3 : W2.heap[w1.heap.size]? = some (.cells #[.int .i64 E, .int .i64 I] 33 (0, 0)) := by rw [HW2.out]; exact heap_alloc_new _ _
  have hbw2 : Below w.heap.size w W2 := KBT (KBT hb0 hb1) hb2
  have hB02 : Below W0.heap.size W0 W2 := KBT hb1 hb2
  have hz1 := hb1.size
  obtain ⟨t0, t1⟩ := blk2 ((hB02.block _ (by omega)).trans x1)
  have hrm := rmakeT (hg.below hbw2) hn1 hn2 hf
  rw [HE.out, HI.out, HQ.out] at hrm
  rw [HW2.out] at t0 t1
  clear hmk
  go_wp2_with fail
  rw [← HW2.out]
  refine hrm.mono ?_
  rintro e w3 ⟨ab, nb, cb, rfl, hrb, hb3⟩
  obtain ⟨W4, HW4⟩ : ∃ W4, Hid (W4 = w3.alloc (.cells #[.int .i64 E, .int .i64 I] 33)) := ⟨_, rfl⟩
  have hb4 : Below w3.heap.size w3 W4 := by rw [HW4.out]; exact (Below.refl _ _).alloc (Nat.le_refl _) _
  have hz4 : w3.heap.size + 1 ≤ W4.heap.size := by rw [HW4.out]; simp
  have x4 : W4.heap[w3.heap.size]? = some (.cells #[.int .i64 E, .int .i64 I] 33 (0, 0)) := by rw [HW4.out]; exact heap_alloc_new _ _
  have hB24 : Below W2.heap.size W2 W4 := KBT hb3 hb4
  have hz3 := hb3.size
  have hbw4 : Below w.heap.size w W4 := KBT hbw2 hB24
  obtain ⟨u0, u1⟩ := blk2 x4
  obtain ⟨u2, u3⟩ := blk2 ((hB24.block _ (by omega)).trans x3)
  have hra4 := (hra.below PrAt.stays hb2).below PrAt.stays hB24
  have hrb4 := hrb.below PrAt.stays hb4
  have hsame := samePrograms_any hra4 hrb4
  rw [HW4.out] at u0 u1 u2 u3
  clear hrm t0 t1
  go_wp2_with fail
  rw [← HW4.out]
  refine hsame.mono ?_
  rintro e w5 ⟨rfl, hb5⟩
  have hbw5 : Below w.heap.size w w5 := KBT hbw4 hb5
  have hwp := pressWrong_any (hl.below PrAt.stays hbw5)
  obtain ⟨F, J, HF⟩ : ∃ F J, Hid (wrongP ps = (F, J)) := ⟨_, _, rfl⟩
  rw [HF.out] at hwp
  clear hsame u0 u1 u2 u3
  go_wp2_with fail
  refine hwp.mono ?_
  rintro e w6 ⟨rfl, hb6⟩
  have hbw6 : Below w.heap.size w w6 := KBT hbw5 hb6
  have hrw := rwrongP_any (hl.below PrAt.stays hbw6) hsi
  rw [HF.out] at hrw
  clear hwp
  go_wp2_with fail
  refine hrw.mono ?_
  rintro e w7 ⟨rfl, hb7⟩
  have hbw7 : Below w.heap.size w w7 := KBT hbw6 hb7
  have hB47 : Below W4.heap.size W4 w7 := KBT (KBT hb5 hb6) hb7
  obtain ⟨W8, HW8⟩ : ∃ W8, Hid (W8 = w7.alloc (.cells #[.slice al nl cl, .slice ab nb cb] 26)) := ⟨_, rfl⟩
  have hb8 : Below w7.heap.size w7 W8 := by rw [HW8.out]; exact (Below.refl _ _).alloc (Nat.le_refl _) _
  have hz8 : w7.heap.size + 1 ≤ W8.heap.size := by rw [HW8.out]; simp
  have x8 : W8.heap[w7.heap.size]? = some (.cells #[.slice al nl cl, .slice ab nb cb] 26 (0, 0)) := by rw [HW8.out]; exact heap_alloc_new _ _
  have hbw8 : Below w.heap.size w W8 := KBT hbw7 hb8
  have hB08 : Below W0.heap.size W0 W8 := KBT (KBT hB02 hB24) (KBT hB47 hb8)
  have hrb8 := hrb4.below PrAt.stays (KBT hB47 hb8)
  have xb8 := (hB08.block _ (by omega)).trans x2
  have hz78 : w.heap.size + 2 ≤ W8.heap.size := by have := hB08.size; omega
  clear hrw
  go_wp2_with fail
  rw [← HW8.out]
  go_loopg [49] 2 (fun m i wr => ∃ (k : Nat), k + m = 2 ∧ i = .int .i64 k ∧ Below W8.heap.size W8 wr)
  case atStart => exact ⟨0, by omega, rfl, Below.refl _ _⟩
  case round =>
    obtain ⟨k, hk, rfl, hb⟩ := hrel
    have hbw' : Below w.heap.size w wr := KBT hbw8 hb
    by_cases hlt : k < 2
    · obtain ⟨ax, nx, cx, R, hcell, hrx, hRs⟩ : ∃ ax nx cx R, W8.cell? ⟨w7.heap.size, k, none⟩ = some (.slice ax nx cx) ∧ RdL 1 PrAt W8 (.slice ax nx cx) R ∧ ∀ p ∈ R, ∀ s ∈ p, SI64 s := by
        match k, hlt with
        | 0, _ => exact ⟨al, nl, cl, ps, cell_of_blk x8 0 _ rfl, hl.below PrAt.stays hbw8, hsi⟩
        | 1, _ => exact ⟨ab, nb, cb, Q, cell_of_blk x8 1 _ rfl, hrb8, hQs⟩
      have hcr := cell_below hb hcell
      have hki : (k : Int) < 2 := by omega
      obtain ⟨t0, t1⟩ := blk2 ((hb.block _ (by omega)).trans xb8)
      have hrun := Run_any (p := p) (hrx.below PrAt.stays hb) (hq.below hbw') hsm
      rw [ran_run] at hrun
      obtain ⟨B, F2, HB⟩ : ∃ B F2, Hid (RanR R p d b = (B, F2)) := ⟨_, _, rfl⟩
      rw [HB.out] at hrun
      clear hcell
      go_wp2_with fail
      refine hrun.mono ?_
      rintro e y1 ⟨a5, n5, c5, rfl, hr5, hb5'⟩
      have hby1 := KBT hb hb5'
      obtain ⟨s0, s1⟩ := blk2 ((hby1.block _ (by omega)).trans xb8)
      have hran := rRun_any (p := p) (hrx.below PrAt.stays hby1) hRs (hq.below (KBT hbw8 hby1)) hsm hbw
      rw [HB.out] at hran
      clear hrun t0 t1
      go_wp2_with fail
      refine hran.mono ?_
      rintro e y2 ⟨a6, n6, c6, rfl, hr6, hb6'⟩
      have g1 := bytes_str (hr5.rdY.below YAt.stays hb6')
      have g2 := bytes_str hr6.rdY
      have hby2 := KBT hby1 hb6'
      clear hran s0 s1
      go_wp2_with fail
      go_roundg (2 - (k + 1))
      case measure => omega
      case rel => exact ⟨k + 1, by omega, by go_num, hby2⟩
    · go_wp2
      go_ret
      exact ⟨rfl, hbw'⟩

end L
end Go.Proofs.YthgbiflfinddiaaGreat

