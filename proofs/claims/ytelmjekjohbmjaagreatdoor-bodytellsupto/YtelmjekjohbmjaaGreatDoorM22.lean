import Derived.Test.YtelmjekjohbmjaaGreatDoorM12
import Derived.Test.YtelmjekjohbmjaaGreatDoorM10
import Derived.Laws.IdiomCopy
import Derived.Lib.SliceRun
import Derived.Test.YtelmjekjohbmjaaGreatDoorM09
import Derived.Shelf.Spec.SlicesInsert
import Derived.Lib.AppendZerosOnto
import Derived.Laws.NewBlocks
import Derived.Shelf.Spec.SlicesInsertGrow
import Derived.Test.YtelmjekjohbmjaaGreatDoorBWithq
import Derived.Deep.RegionHeld3
/- slices.IndexFunc over values, by whatever function looks at their numbers. -/
namespace Go.Proofs.YtelmjekjohbmjaaGreatDoor
namespace L
open Go.RowKit

theorem PredK.at {fn : Nat} {cap : Array Value} {K : List Nat} {W V : World} {p : Int → Bool} (h : PredK fn cap K W p) (hs : W.heap.size ≤ V.heap.size) (hK : ∀ k ∈ K, V.heap[k]? = W.heap[k]?) : PredK fn cap K V p :=
  fun U hU hk => h U (Nat.le_trans hs hU) fun k hm => (hk k hm).trans (hK k hm)
set_option maxHeartbeats 1000000 in
set_option maxRecDepth 100000 in
theorem idxK_any {β : Type} {P : World → Addr → β → Prop} (hP : Stays P) {v : Value} {l : List (VI β)} {w : World} {fn : Nat} {cap0 : Array Value} {K : List Nat} {p : Int → Bool} (h : RdL 4 (VAt P) w v l)
    (hent : ∀ (args : Array Value) (w : World), (callFunc fn args).run Tryz.prog w = .ok (.enter fn args) w) (hp : PredK fn cap0 K w p) (hK : ∀ k ∈ K, k < w.heap.size) (hI : ∀ a ∈ l, I64 a.number) :
    Calls Tryz.prog 68 #[v, .func (.func fn) #[] cap0] w fun e w' => e = .returned (.int .i64 (firstI (fun v => p v.number) l)) ∧ Below w.heap.size w w' := by
  obtain ⟨ao, n, cap, rfl, Hn, hcap⟩ := h.shape
  go_enter Tryz.func68, Tryz.ntmps68
  go_wp2_with fail
  go_loopg [8] n (fun m i wr => ∃ k : Nat, k + m = n ∧ i = .int .i64 k ∧ Hid (∀ a ∈ l.take k, p a.number = false) ∧ Below w.heap.size w wr)
  case atStart => exact ⟨0, by omega, rfl, by show ∀ a ∈ _, _; simp, Below.refl _ _⟩
  case round =>
    obtain ⟨k, hk, rfl, HK, hb⟩ := hrel
    by_cases hlt : k < n
    · obtain ⟨a, Ha⟩ : ∃ a, Hid (l[k]? = some a) := ⟨l[k]'(by rw [← Hn.out]; exact hlt), List.getElem?_eq_getElem (by rw [← Hn.out]; exact hlt)⟩
      obtain ⟨b, off, rfl, hat⟩ := (h.below (VAt.stays hP) hb).get VAt.plain Ha.out
      obtain ⟨v1, v2, v3, s0, s1, s2, s3, r1, r2, r3⟩ := hat.at
      obtain ⟨a1, n1, c1, rfl, _, _⟩ := r1.shape
      obtain ⟨a2, n2, c2, rfl, _, _⟩ := r2.shape
      obtain ⟨a3, n3, c3, rfl, _, _⟩ := r3.shape
      have hki : (k : Int) < (n : Int) := by omega
      have hcall := hp wr hb.size (fun k hk => hb.block k (hK k hk)) a.number (hI a (mem_at Ha.out)) a1 n1 c1 a2 n2 c2 a3 n3 c3
      cases hq : p a.number with
      | true =>
        have HF : Hid (firstI (fun v : VI β => p v.number) l = (k : Int)) := first_at Ha.out HK.out hq
        rw [hq] at hcall
        clear hq hat r1 r2 r3 hp hI
        go_wp2_with fail
        refine hcall.mono ?_
        rintro e w1 ⟨rfl, hb1⟩
        go_wp2
        go_ret
        exact ⟨by rw [HF.out]; rfl, hb.trans (hb1.mono hb.size)⟩
      | false =>
        have HX : Hid (∀ a ∈ l.take (k + 1), p a.number = false) := by
          show ∀ a ∈ _, _
          rw [take_snoc Ha.out]
          intro y hy
          rcases List.mem_append.1 hy with hy | hy
          · exact HK.out y hy
          · rw [List.mem_singleton] at hy; rw [hy]; exact hq
        rw [hq] at hcall
        clear hq hat r1 r2 r3 hp hI
        go_wp2_with fail
        refine hcall.mono ?_
        rintro e w1 ⟨rfl, hb1⟩
        go_wp2_with fail
        go_roundg (n - (k + 1))
        case measure => omega
        case rel => exact ⟨k + 1, by omega, by go_num, HX, hb.trans (hb1.mono hb.size)⟩
    · have HF : Hid (firstI (fun v : VI β => p v.number) l = -1) := by
        have := HK.out
        rw [List.take_of_length_le (by rw [← Hn.out]; omega)] at this
        exact first_none this
      go_wp2
      go_ret
      exact ⟨by rw [HF.out]; rfl, hb⟩

end L
end Go.Proofs.YtelmjekjohbmjaaGreatDoor

/- A list of the call's own: an entry in another's place, cells cleared behind its end. -/
namespace Go.Proofs.YtelmjekjohbmjaaGreatDoor
namespace L
open Go.RowKit

theorem blk_of_cell {w : World} {g i : Nat} {cs : Array Value} {t : TypeId} {fr : Nat × Nat} {u : Value} (h : w.heap[g]? = some (.cells cs t fr)) (hc : w.cell? ⟨g, i, none⟩ = some u) : cs[i]? = some u := by
  simpa [World.cell?, h] using hc
section
variable {α : Type} {E : EK α} {w w' : World} {base g n cap : Nat} {l : List α}
/-- The block of a list of the call's own. -/
theorem Row.cur (h : Row E w base (.slice (some ⟨g, 0, none⟩) n cap) l) : l.length = n ∧ base ≤ g ∧ n ≤ cap ∧ cap ≤ maxLen ∧ ∃ cur, w.heap[g]? = some (.cells cur E.elem (0, 0)) ∧ cur.size = cap * E.size := by
  rcases h.2 with ⟨hv, _⟩ | ⟨g', cap', cur, hv, hb, hg, h1, h2, h3, _⟩
  · cases hv
  · cases hv; exact ⟨rfl, hb, h1, h2, cur, hg, h3⟩
theorem Row.cells (h : Row E w base (.slice (some ⟨g, 0, none⟩) n cap) l) {k : Nat} {y : α} (hy : l[k]? = some y) {j : Nat} {u : Value} (hu : (E.enc y)[j]? = some u) : w.cell? ⟨g, k * E.size + j, none⟩ = some u := by
  have hj : j < E.size := by have := (List.getElem?_eq_some_iff.1 hu).1; rw [E.len] at this; exact this
  have := World.ownsRow.cells h (g := g) rfl (k * E.size + j) u (by rw [E.flat_at l k j y hy hj]; exact hu)
  simpa [add_plain] using this
/-- A list is there, where its cells are. -/
theorem Row.of_cells {cur : Array Value} (hb : base ≤ g) (hg : w.heap[g]? = some (.cells cur E.elem (0, 0))) (hsz : cur.size = cap * E.size) (hn : l.length = n) (h1 : n ≤ cap) (h2 : cap ≤ maxLen) (hc : ∀ k y, l[k]? = some y → ∀ j u, (E.enc y)[j]? = some u → w.cell? ⟨g, k * E.size + j, none⟩ = some u) : Row E w base (.slice (some ⟨g, 0, none⟩) n cap) l := by
  subst hn
  refine ⟨E.flat_len l, .inr ⟨g, cap, cur, rfl, hb, hg, h1, h2, hsz, ?_⟩⟩
  apply List.ext_getElem?
  intro i
  by_cases hi : i < l.length * E.size
  · rw [List.getElem?_take, if_pos hi]
    have hk : i / E.size < l.length := by rw [Nat.div_lt_iff_lt_mul E.pos]; exact hi
    have hj := Nat.mod_lt i E.pos
    have e : i / E.size * E.size + i % E.size = i := by rw [Nat.mul_comm]; exact Nat.div_add_mod i E.size
    have h3 := E.flat_at l (i / E.size) (i % E.size) _ (List.getElem?_eq_getElem hk) hj
    rw [e] at h3
    obtain ⟨u, hu⟩ : ∃ u, (E.enc (l[i / E.size]'hk))[i % E.size]? = some u := ⟨(E.enc (l[i / E.size]'hk))[i % E.size]'(by rw [E.len]; exact hj), List.getElem?_eq_getElem _⟩
    rw [h3, hu]
    have h4 := hc _ _ (List.getElem?_eq_getElem hk) _ _ hu
    rw [e] at h4
    rw [Array.getElem?_toList]
    exact blk_of_cell hg h4
  · rw [List.getElem?_take, if_neg hi, List.getElem?_eq_none (by rw [E.flat_len]; omega)]
end
section
variable {β : Type} {w : World} {base g n cap : Nat} {l : List (VL β)}
/-- One value in another's place. -/
theorem Row.setV (h : Row (ekV β) w base (.slice (some ⟨g, 0, none⟩) n cap) l) {i : Nat} {a : VL β} {x0 x1 x2 x3 : Value} (he : (ekV β).enc a = [x0, x1, x2, x3]) (hi : i < n) :
    Row (ekV β) ((((w.setCell ⟨g, i * 4, none⟩ x0).setCell ⟨g, i * 4 + 1, none⟩ x1).setCell ⟨g, i * 4 + 2, none⟩ x2).setCell ⟨g, i * 4 + 3, none⟩ x3) base (.slice (some ⟨g, 0, none⟩) n cap) (l.set i a) := by
  obtain ⟨hl, hb, h1, h2, cur, hg, hsz⟩ := h.cur
  have hs : ∀ (V : World) (c : Array Value) (j : Nat) (v : Value), V.heap[g]? = some (.cells c (ekV β).elem (0, 0)) → (V.setCell ⟨g, j, none⟩ v).heap[g]? = some (.cells (c.setIfInBounds j v) (ekV β).elem (0, 0)) := fun V c j v hh => heap_setCell_same V g j c _ v hh
  have e4 : (ekV β).size = 4 := rfl
  have hg4 := hs _ _ (i * 4 + 3) x3 (hs _ _ (i * 4 + 2) x2 (hs _ _ (i * 4 + 1) x1 (hs _ _ (i * 4) x0 hg)))
  have hsz' : i * 4 + 3 < cur.size := by rw [hsz, e4]; omega
  refine Row.of_cells hb hg4 (by simp [hsz]) (by rw [List.length_set]; exact hl) h1 h2 fun k y hy j u hu => ?_
  rw [e4]
  have hj : j < 4 := by have := (List.getElem?_eq_some_iff.1 hu).1; rw [(ekV β).len] at this; exact this
  refine cell_of_blk hg4 _ _ ?_
  by_cases hk : k = i
  · subst hk
    rw [List.getElem?_set_self (by omega)] at hy
    cases hy
    rw [he] at hu
    match j, hj, hu with
    | 0, _, hu => simp at hu; subst hu; rw [Array.getElem?_setIfInBounds_ne (by omega), Array.getElem?_setIfInBounds_ne (by omega), Array.getElem?_setIfInBounds_ne (by omega)]; exact Array.getElem?_setIfInBounds_self_of_lt (by omega)
    | 1, _, hu => simp at hu; subst hu; rw [Array.getElem?_setIfInBounds_ne (by omega), Array.getElem?_setIfInBounds_ne (by omega), Array.getElem?_setIfInBounds_self_of_lt (by simp; omega)]
    | 2, _, hu => simp at hu; subst hu; rw [Array.getElem?_setIfInBounds_ne (by omega), Array.getElem?_setIfInBounds_self_of_lt (by simp; omega)]
    | 3, _, hu => simp at hu; subst hu; rw [Array.getElem?_setIfInBounds_self_of_lt (by simp; omega)]
  · rw [List.getElem?_set_ne (fun e => hk e.symm)] at hy
    have := h.cells hy hu
    rw [e4] at this
    have := blk_of_cell hg this
    rw [Array.getElem?_setIfInBounds_ne (by omega), Array.getElem?_setIfInBounds_ne (by omega), Array.getElem?_setIfInBounds_ne (by omega), Array.getElem?_setIfInBounds_ne (by omega)]
    exact this
end
section
variable {α : Type} {E : EK α} {w : World} {base g n cap : Nat} {l : List α}
theorem block_setCells {g : Nat} {t : TypeId} : ∀ (vs : List Value) (o : Nat) (w : World) (cs : Array Value), w.heap[g]? = some (.cells cs t (0, 0)) → ∃ cs', (w.setCells g o vs).heap[g]? = some (.cells cs' t (0, 0)) ∧ cs'.size = cs.size
  | [], _, _, cs, h => ⟨cs, h, rfl⟩
  | v :: r, o, w, cs, h => by
    obtain ⟨cs', h1, h2⟩ := block_setCells r (o + 1) (w.setCell ⟨g, o, none⟩ v) _ (heap_setCell_same w g o cs t v h)
    exact ⟨cs', h1, by simpa using h2⟩
/-- A shorter list, whatever is laid behind its end. -/
theorem Row.cut (h : Row E w base (.slice (some ⟨g, 0, none⟩) n cap) l) {m o : Nat} (hm : m ≤ n) (vs : List Value) (ho : m * E.size ≤ o) : Row E (w.setCells g o vs) base (.slice (some ⟨g, 0, none⟩) m cap) (l.take m) := by
  obtain ⟨hl, hb, h1, h2, cur, hg, hsz⟩ := h.cur
  obtain ⟨cs', h3, h4⟩ := block_setCells vs o w cur hg
  refine Row.of_cells hb h3 (by rw [h4, hsz]) (by rw [List.length_take]; omega) (by omega) h2 fun k y hy j u hu => ?_
  have hk : k < m := by have := (List.getElem?_eq_some_iff.1 hy).1; rw [List.length_take] at this; omega
  rw [List.getElem?_take, if_pos hk] at hy
  have hj : j < E.size := by have := (List.getElem?_eq_some_iff.1 hu).1; rw [E.len] at this; exact this
  rw [World.cell?_setCells_out]
  · exact h.cells hy hu
  · intro _ _
    left
    show k * E.size + j < o
    have : (k + 1) * E.size ≤ m * E.size := Nat.mul_le_mul_right _ hk
    rw [Nat.succ_mul] at this
    omega
end

end L
end Go.Proofs.YtelmjekjohbmjaaGreatDoor

/- slices.DeleteFunc over values of the call's own, by whatever function looks at their numbers. -/
namespace Go.Proofs.YtelmjekjohbmjaaGreatDoor
namespace L
open Go.RowKit
set_option linter.unusedVariables false

/-- 'clear(s)', s of values. -/
theorem run_clearV {w : World} {g o n c : Nat} (hn : 0 < n) (hc : ∀ j, j < n * 4 → (w.cell? ⟨g, o + j, none⟩).isSome = true) (hf : ∀ j, j < n * 4 → w.frozen? ⟨g, o + j, none⟩ = false) :
    ∃ vs : List Value, ∀ ty, (Builtin.clear_ #[26] ty #[.slice (some ⟨g, o, none⟩) n c]).run Tryz.prog w = .ok (.tuple #[]) (w.setCells g o vs) := by
  have hz : ∀ w, (zeroValue 34).run Tryz.prog w = .ok (.agg #[.int .i64 0, .slice none 0 0, .slice none 0 0, .slice none 0 0]) w := fun w => by kernel_rfl
  refine ⟨(Builtin.zeroCells (Value.agg #[.int .i64 0, .slice none 0 0, .slice none 0 0, .slice none 0 0]).cells n).toList, fun ty => ?_⟩
  have hlen : (Builtin.zeroCells (Value.agg #[.int .i64 0, .slice none 0 0, .slice none 0 0, .slice none 0 0]).cells n).toList.length = n * 4 := by
    simp [Builtin.zeroCells, Value.cells]
  have hone : ∀ v ∈ (Builtin.zeroCells (Value.agg #[.int .i64 0, .slice none 0 0, .slice none 0 0, .slice none 0 0]).cells n).toList, v.oneCell' = true := by
    intro v hv
    simp [Builtin.zeroCells, Value.cells] at hv
    obtain ⟨i, _, rfl⟩ := hv
    rcases (by omega : i % 4 = 0 ∨ i % 4 = 1 ∨ i % 4 = 2 ∨ i % 4 = 3) with h | h | h | h <;> rw [h] <;> rfl
  have hst := run_storeCells_cells (P := Tryz.prog) g o _ 0 w (by rw [hlen]; simpa using hc) (by rw [hlen]; simpa using hf) hone
  simp only [Nat.add_zero] at hst
  obtain ⟨m, rfl⟩ : ∃ m, n = m + 1 := ⟨n - 1, by omega⟩
  simp [Builtin.clear_, run_underlying Tryz.underlying26, hz, hst]

theorem FrB.setCells {g o : Nat} {t : TypeId} : ∀ (vs : List Value) (o : Nat) {w V : World} {cs : Array Value}, FrB [g] w V → V.heap[g]? = some (.cells cs t (0, 0)) → t ≠ 5 → FrB [g] w (V.setCells g o vs)
  | [], _, _, _, _, h, _, _ => h
  | v :: r, o, _, V, cs, h, hg, ht => FrB.setCells (o := o) r (o + 1) (frB_trans1 h (frB_set (i := o) (x := v) hg ht)) (heap_setCell_same V g o cs t v hg) ht
theorem fr4at {w : World} {g i : Nat} {cs : Array Value} {x0 x1 x2 x3 : Value} (h : w.heap[g]? = some (.cells cs 34 (0, 0))) : FrB [g] w ((((w.setCell ⟨g, i, none⟩ x0).setCell ⟨g, i + 1, none⟩ x1).setCell ⟨g, i + 2, none⟩ x2).setCell ⟨g, i + 3, none⟩ x3) := by
  have h1 := heap_setCell_same _ _ i _ _ x0 h
  have h2 := heap_setCell_same _ _ (i + 1) _ _ x1 h1
  have h3 := heap_setCell_same _ _ (i + 2) _ _ x2 h2
  exact frB_trans1 (frB_trans1 (frB_trans1 (frB_set h (by decide)) (frB_set h1 (by decide))) (frB_set h2 (by decide))) (frB_set h3 (by decide))
/-- What is kept so far: m entries in front, and the rest as it was. -/
structure Kept {α : Type} (q : α → Bool) (l : List α) (k m : Nat) (l' : List α) : Prop where
  lt : m < k
  le : k ≤ l.length
  len : l'.length = l.length
  front : l'.take m = (l.take k).filter q
  rest : l'.drop k = l.drop k
theorem Kept.at {α : Type} {q : α → Bool} {l l' : List α} {k m : Nat} (h : Kept q l k m l') : l'[k]? = l[k]? := by
  have := congrArg (·[0]?) h.rest
  simpa using this
theorem Kept.skip {α : Type} {q : α → Bool} {l l' : List α} {k m : Nat} {a : α} (h : Kept q l k m l') (ha : l[k]? = some a) (hq : q a = false) : Kept q l (k + 1) m l' := by
  refine ⟨by have := h.lt; omega, (List.getElem?_eq_some_iff.1 ha).1, h.len, ?_, ?_⟩
  · rw [take_snoc ha, List.filter_append, h.front]; simp [hq]
  · have := congrArg (List.drop 1) h.rest
    simpa [List.drop_drop] using this
theorem Kept.keep {α : Type} {q : α → Bool} {l l' : List α} {k m : Nat} {a : α} (h : Kept q l k m l') (ha : l[k]? = some a) (hq : q a = true) : Kept q l (k + 1) (m + 1) (l'.set m a) := by
  have hlt := h.lt
  have hk := (List.getElem?_eq_some_iff.1 ha).1
  have hl := h.len
  refine ⟨by omega, hk, by rw [List.length_set]; exact hl, ?_, ?_⟩
  · have e : (l'.set m a)[m]? = some a := List.getElem?_set_self (by omega)
    rw [take_snoc e, List.take_set_of_le (Nat.le_refl _), h.front, take_snoc ha, List.filter_append]
    simp [hq]
  · rw [List.drop_set_of_lt (by omega)]
    have := congrArg (List.drop 1) h.rest
    simpa [List.drop_drop] using this
theorem Kept.start {α : Type} {q : α → Bool} {l : List α} {k : Nat} {a : α} (ha : l[k]? = some a) (hq : q a = false) (h : ∀ b ∈ l.take k, q b = true) : Kept q l (k + 1) k l := by
  refine ⟨by omega, (List.getElem?_eq_some_iff.1 ha).1, rfl, ?_, rfl⟩
  rw [take_snoc ha, List.filter_append, List.filter_eq_self.2 h]
  simp [hq]

end L
end Go.Proofs.YtelmjekjohbmjaaGreatDoor

/- Get: a value's own copy. -/
namespace Go.Proofs.YtelmjekjohbmjaaGreatDoor
namespace L
open Go.RowKit

/-- What Get answers of the values l, asked for number x: none, or an own copy of the first that has it. -/
def GotV (d : Nat) (w : World) (B0 : Nat) (l : List (VI (BI d))) (x : Int) (e : Ending) (w' : World) : Prop :=
  ((∀ v ∈ l, decide (v.number = x) = false) ∧ e = .returned (.tuple #[.agg #[.int .i64 0, .slice none 0 0, .slice none 0 0, .slice none 0 0], .bool false])) ∨
  ∃ (k : Nat) (v : VI (BI d)), firstI (fun v : VI (BI d) => decide (v.number = x)) l = (k : Int) ∧ l[k]? = some v ∧ v.number = x ∧
    ∃ (y : VL (LB d)) (q0 : Int) (x1 : Option Addr) (y1 z1 : Nat) (x2 : Option Addr) (y2 z2 : Nat) (x3 : Option Addr) (y3 z3 : Nat), (ekV (LB d)).enc y = [.int .i64 q0, .slice x1 y1 z1, .slice x2 y2 z2, .slice x3 y3 z3] ∧ e = .returned (.tuple #[.agg #[.int .i64 q0, .slice x1 y1 z1, .slice x2 y2 z2, .slice x3 y3 z3], .bool true]) ∧ VL.pl (LB.pl d) y = v ∧ OwnV (ekB d) (OwnB B0 d) w' B0 y ∧ (∀ k ∈ VL.fp (LB.fp d) y, w.heap.size ≤ k) ∧ (VL.fp (LB.fp d) y).Nodup
theorem first_none' {α : Type} {p : α → Bool} {l : List α} (h : l.findIdx? p = none) : ∀ v ∈ l, p v = false := by
  rw [List.findIdx?_eq_none_iff] at h
  exact h
theorem first_some' {α : Type} {p : α → Bool} {l : List α} {k : Nat} (h : l.findIdx? p = some k) : ∃ a, l[k]? = some a ∧ p a = true := by
  rw [List.findIdx?_eq_some_iff_getElem] at h
  obtain ⟨hk, hp, _⟩ := h
  exact ⟨_, List.getElem?_eq_getElem hk, hp⟩
set_option maxHeartbeats 4000000 in
set_option maxRecDepth 100000 in
theorem get_any {d : Nat} {w : World} {B0 : Nat} {v0 v1 : Value} {b : BO (BI d)} (hB : B0 ≤ w.heap.size) (h : BRd d w v0 v1 b) (hok : ∀ v ∈ b.vals, VOk (BOk d) v) (x : Int) :
    Calls Tryz.prog 14 #[.agg #[v0, v1], .int .i64 x] w fun e w' => GotV d w B0 b.vals x e w' ∧ Below w.heap.size w w' := by
  obtain ⟨a0, n0, c0, rfl, Hn, hcap⟩ := h.1.shape
  obtain ⟨a1, n1, c1, rfl, _, _⟩ := h.2.shape
  obtain ⟨W2, HW2⟩ : ∃ W2, Hid (W2 = (w.alloc (.cells #[.slice a0 n0 c0, .slice a1 n1 c1] 29)).alloc (.cells #[.int .i64 0, .slice none 0 0, .slice none 0 0, .slice none 0 0] 34)) := ⟨_, rfl⟩
  have hb2 : Below w.heap.size w W2 := by rw [HW2.out]; exact ((Below.refl _ _).alloc (Nat.le_refl _) _).alloc (by simp) _
  have z2 : w.heap.size + 2 ≤ W2.heap.size := by rw [HW2.out]; simp
  have x1 : W2.heap[w.heap.size]? = some (.cells #[.slice a0 n0 c0, .slice a1 n1 c1] 29 (0, 0)) := by rw [HW2.out]; exact alloc2_old _ _ _
  have x2 : W2.heap[w.heap.size + 1]? = some (.cells #[.int .i64 0, .slice none 0 0, .slice none 0 0, .slice none 0 0] 34 (0, 0)) := by rw [HW2.out]; exact alloc2_new _ _ _
  have hi := valueAt_any (BAt.stays d) (h.1.below (VAt.stays (BAt.stays d)) hb2) ⟨a1, n1, c1, rfl⟩ x
  cases hp : b.vals.findIdx? (fun v => decide (v.number = x)) with
  | none =>
    have e1 : firstI (fun v : VI (BI d) => decide (v.number = x)) b.vals = -1 := by unfold firstI; rw [hp]
    have HP : Hid (∀ v ∈ b.vals, decide (v.number = x) = false) := first_none' hp
    rw [e1] at hi
    clear hp e1 hok
    go_enter Tryz.func14, Tryz.ntmps14
    go_wp2_with fail
    rw [← HW2.out]
    refine hi.mono ?_
    rintro e w1 ⟨rfl, hb1⟩
    have y2 := (hb1.block _ (by omega)).trans x2
    have s0 := cell_of_blk y2 0 _ rfl
    have s1 := cell_of_blk y2 1 _ rfl
    have s2 := cell_of_blk y2 2 _ rfl
    have s3 := cell_of_blk y2 3 _ rfl
    have f0 := fr_of_blk y2 0
    have f1 := fr_of_blk y2 1
    have f2 := fr_of_blk y2 2
    have f3 := fr_of_blk y2 3
    go_wp2_with fail
    refine bodyPost_ret (v := .tuple #[.agg #[.int .i64 0, .slice none 0 0, .slice none 0 0, .slice none 0 0], .bool false]) (by simp [results, Tryz.results14, go_sem, *]) rfl ?_
    exact ⟨.inl ⟨HP.out, rfl⟩, b4set (b4set (b4set (b4set (BTr hb2 hb1) (by omega)) (by omega)) (by omega)) (by omega)⟩
  | some k =>
    have e1 : firstI (fun v : VI (BI d) => decide (v.number = x)) b.vals = (k : Int) := by unfold firstI; rw [hp]
    obtain ⟨v, Hv, hx⟩ := first_some' hp
    have HX : Hid (v.number = x) := (show v.number = x from of_decide_eq_true hx)
    have HF : Hid (firstI (fun v : VI (BI d) => decide (v.number = x)) b.vals = (k : Int)) := e1
    have HV : Hid (b.vals[k]? = some v) := Hv
    have hkn : (k : Int) < (n0 : Int) := by have := (List.getElem?_eq_some_iff.1 Hv).1; have := Hn.out; omega
    have hk0 : ¬ (k : Int) < 0 := by omega
    have hvok := hok v (List.mem_of_getElem? Hv)
    rw [e1] at hi
    clear hp e1 hok hx Hv
    go_enter Tryz.func14, Tryz.ntmps14
    go_wp2_with fail
    rw [← HW2.out]
    refine hi.mono ?_
    rintro e w1 ⟨rfl, hb1⟩
    have hbw := BTr hb2 hb1
    have hz1 := hb1.size
    obtain ⟨b0, off, rfl, hat⟩ := (h.1.below (VAt.stays (BAt.stays d)) hbw).get VAt.plain HV.out
    obtain ⟨u1, u2, u3, s0, s1, s2, s3, r1, r2, r3⟩ := hat.at
    obtain ⟨a4, n4, c4, rfl, _, _⟩ := r1.shape
    obtain ⟨a2, n2, c2, rfl, _, _⟩ := r2.shape
    obtain ⟨a3, n3, c3, rfl, _, _⟩ := r3.shape
    obtain ⟨t0, t1⟩ := blk2 ((hb1.block _ (by omega)).trans x1)
    have hc := ownVTold d w1 B0 v a4 n4 c4 a2 n2 c2 a3 n3 c3 (by omega) r1 r2 r3 hvok
    have y2 := (hb1.block _ (by omega)).trans x2
    clear hat r1 r2 r3 hvok h x1 x2 hi
    go_wp2_with fail
    refine hc.mono ?_
    rintro e w2 ⟨y, q0, x1, y1, z1, x2, y2', z2', x3, y3, z3, HE, rfl, hpl, hov, hfp, hnd, hb3⟩
    have HE : Hid ((ekV (LB d)).enc y = [.int .i64 q0, .slice x1 y1 z1, .slice x2 y2' z2', .slice x3 y3 z3]) := HE
    have g2 := (hb3.block _ (by omega)).trans y2
    have s0' := cell_of_blk g2 0 _ rfl
    have s1' := cell_of_blk g2 1 _ rfl
    have s2' := cell_of_blk g2 2 _ rfl
    have s3' := cell_of_blk g2 3 _ rfl
    have f0 := fr_of_blk g2 0
    have f1 := fr_of_blk g2 1
    have f2 := fr_of_blk g2 2
    have f3 := fr_of_blk g2 3
    have hf := fr4 g2 (x0 := .int .i64 q0) (x1 := .slice x1 y1 z1) (x2 := .slice x2 y2' z2') (x3 := .slice x3 y3 z3)
    have hov' := OwnV.fr (OwnB.fr d) hov hf fun k hk hm => by
      rw [List.mem_singleton] at hm
      have := hfp k hk
      omega
    clear hov hf hc
    go_wp2_with fail
    refine bodyPost_ret (v := .tuple #[.agg #[.int .i64 q0, .slice x1 y1 z1, .slice x2 y2' z2', .slice x3 y3 z3], .bool true]) (by simp [results, Tryz.results14, go_sem, *]) rfl ?_
    exact ⟨.inr ⟨k, v, HF.out, HV.out, HX.out, y, q0, x1, y1, z1, x2, y2', z2', x3, y3, z3, HE.out, rfl, hpl, hov', fun k hk => by have := hfp k hk; omega, hnd⟩, b4set (b4set (b4set (b4set (BTr hbw hb3) (by omega)) (by omega)) (by omega)) (by omega)⟩

end L
end Go.Proofs.YtelmjekjohbmjaaGreatDoor

/- slices.DeleteFunc over values of the call's own: the walk. -/
namespace Go.Proofs.YtelmjekjohbmjaaGreatDoor
namespace L
open Go.RowKit

theorem FrB.blk {F : List Nat} {w w' : World} (h : FrB F w w') {k : Nat} (hk : k < w.heap.size) (hF : k ∉ F) : w'.heap[k]? = w.heap[k]? := h.block k hk (.inl hF)
theorem FrB.on {F : List Nat} {a b c : World} (h : FrB F a b) (hb : Below b.heap.size b c) : FrB F a c := h.trans (.of_below hb : FrB [] _ _) (fun _ hi => hi) (fun _ hi => by simp at hi)
set_option maxHeartbeats 4000000 in
set_option maxRecDepth 100000 in
theorem delK_any {d : Nat} {P : World → Addr → BI d → Prop} (hP : Stays P) {w : World} {base : Nat} {v : Value} {l : List (VL (LB d))} {fn : Nat} {cap0 : Array Value} {K : List Nat} {p : Int → Bool} (h : Row (ekV (LB d)) w base v l) (hrd : RdL 4 (VAt P) w v (l.map (VL.pl (LB.pl d))))
    (hent : ∀ (args : Array Value) (w : World), (callFunc fn args).run Tryz.prog w = .ok (.enter fn args) w) (hp : PredK fn cap0 K w p) (hK : ∀ k ∈ K, k < w.heap.size) (hKb : ∀ k ∈ K, v.ownBlock ≠ some k) (hI : ∀ a ∈ l, I64 a.number) :
    Calls Tryz.prog 70 #[v, .func (.func fn) #[] cap0] w fun e w' => ∃ q : PV, e = .returned q.v ∧ q.v.ownBlock = v.ownBlock ∧ Row (ekV (LB d)) w' base q.v (l.filter fun a => !p a.number) ∧ FrB v.ownBlock.toList w w' := by
  have hidx := idxK_any hP hrd hent hp hK (fun a ha => by
    obtain ⟨b, hb, rfl⟩ := List.mem_map.1 ha
    exact hI b hb)
  rw [show firstI (fun v : VI (BI d) => p v.number) (l.map (VL.pl (LB.pl d))) = firstI (fun v : VL (LB d) => p v.number) l by
    unfold firstI; rw [List.findIdx?_map]; rfl] at hidx
  obtain ⟨ao, n, cap, rfl, Hn⟩ := h.shape'
  cases hf : l.findIdx? (fun v : VL (LB d) => p v.number) with
  | none =>
    have e1 : firstI (fun v : VL (LB d) => p v.number) l = -1 := by unfold firstI; rw [hf]
    have HA : Hid (l.filter (fun a => !p a.number) = l) := by
      show _ = _
      refine List.filter_eq_self.2 fun a ha => ?_
      have := first_none' hf a ha
      simp [this]
    rw [e1] at hidx
    clear hf e1 hrd hp hI
    go_enter Tryz.func70, Tryz.ntmps70
    go_wp2_with fail
    refine hidx.mono ?_
    rintro e w1 ⟨rfl, hb1⟩
    go_wp2
    go_ret
    exact ⟨(ao, n, cap), rfl, rfl, by rw [HA.out]; exact h.below hb1, .of_below hb1⟩
  | some k0 =>
    have e1 : firstI (fun v : VL (LB d) => p v.number) l = (k0 : Int) := by unfold firstI; rw [hf]
    obtain ⟨a0, ha0, hq0⟩ := first_some' hf
    have hst : Kept (fun a : VL (LB d) => !p a.number) l (k0 + 1) k0 l := Kept.start ha0 (by simp [hq0]) fun b hb => by
      rw [List.findIdx?_eq_some_iff_getElem] at hf
      obtain ⟨hk, _, hall⟩ := hf
      obtain ⟨i, hi, rfl⟩ := List.mem_iff_getElem.1 hb
      rw [List.getElem_take]
      have := hall i (by rw [List.length_take] at hi; omega)
      simp at this
      simp [this]
    have hk0 : k0 < n := by rw [Hn.out]; exact (List.getElem?_eq_some_iff.1 ha0).1
    obtain ⟨g, rfl⟩ : ∃ g, ao = some ⟨g, 0, none⟩ := by
      rcases h.2 with ⟨hv, hn⟩ | ⟨g, cap', cur, hv, _⟩
      · have := Hn.out; omega
      · cases hv; exact ⟨g, rfl⟩
    obtain ⟨_, hbg, hnc, hcm, cur0, hg0, _⟩ := h.cur
    have hgl : g < w.heap.size := (Array.getElem?_eq_some_iff.1 hg0).1
    have hKg : ∀ k ∈ K, k ∉ [g] := fun k hk hm => by
      rw [List.mem_singleton] at hm
      exact hKb k hk (by rw [hm]; rfl)
    have hne1 : ((k0 : Int) == -1) = false := beq_eq_false_iff_ne.2 (by omega)
    unfold maxLen at hcm
    rw [e1] at hidx
    have HR : Hid (Row (ekV (LB d)) w base (.slice (some ⟨g, 0, none⟩) n cap) l) := h
    clear hf e1 hrd ha0 hq0 hg0 h
    go_enter Tryz.func70, Tryz.ntmps70
    go_wp2_with fail
    refine hidx.mono ?_
    rintro e w1 ⟨rfl, hb1⟩
    go_wp2_with fail
    go_loopg [5, 6, 7] n (fun gm s5 s6 _ wr => ∃ (k m : Nat) (l' : List (VL (LB d))), k ≤ n ∧ n - k ≤ gm ∧ s5 = .int .i64 (m : Int) ∧ s6 = .int .i64 (k : Int) ∧ Hid (Row (ekV (LB d)) wr base (.slice (some ⟨g, 0, none⟩) n cap) l') ∧ Kept (fun a : VL (LB d) => !p a.number) l k m l' ∧ FrB [g] w wr)
    case atStart => exact ⟨k0 + 1, k0, l, by omega, by omega, rfl, by go_num, HR.out.below hb1, hst, .of_below hb1⟩
    case round =>
      obtain ⟨k, m, l', hkn, hk, rfl, rfl, HL, hkp, hfr⟩ := hrel
      have hmk := hkp.lt
      have hzr := hfr.size
      by_cases hlt : k < n
      · obtain ⟨a, Ha⟩ : ∃ a, Hid (l[k]? = some a) := ⟨l[k]'(by rw [← Hn.out]; exact hlt), List.getElem?_eq_getElem (by rw [← Hn.out]; exact hlt)⟩
        have hIa := hI a (mem_at Ha.out)
        have Ha' : Hid (l'[k]? = some a) := by show _ = _; rw [hkp.at]; exact Ha.out
        obtain ⟨am, Hm⟩ : ∃ am, Hid (l'[m]? = some am) := by
          have := hkp.len
          have hm : m < l'.length := by rw [this, ← Hn.out]; omega
          exact ⟨l'[m], List.getElem?_eq_getElem hm⟩
        obtain ⟨nu, bi, by', su, ⟨a1, n1, c1⟩, ⟨a2, n2, c2⟩, ⟨a3, n3, c3⟩⟩ := a
        have s0 : wr.cell? ⟨g, k * 4, none⟩ = some (.int .i64 nu) := HL.out.cells Ha'.out (j := 0) rfl
        have s1 : wr.cell? ⟨g, k * 4 + 1, none⟩ = some (.slice a1 n1 c1) := HL.out.cells Ha'.out (j := 1) rfl
        have s2 : wr.cell? ⟨g, k * 4 + 2, none⟩ = some (.slice a2 n2 c2) := HL.out.cells Ha'.out (j := 2) rfl
        have s3 : wr.cell? ⟨g, k * 4 + 3, none⟩ = some (.slice a3 n3 c3) := HL.out.cells Ha'.out (j := 3) rfl
        have hki : (k : Int) < (n : Int) := by omega
        have hmi : (m : Int) < (n : Int) := by omega
        obtain ⟨W1, HW1⟩ : ∃ W1, Hid (W1 = wr.alloc (.cells #[.int .i64 nu, .slice a1 n1 c1, .slice a2 n2 c2, .slice a3 n3 c3] 34)) := ⟨_, rfl⟩
        have hbW : Below wr.heap.size wr W1 := by rw [HW1.out]; exact (Below.refl _ _).alloc (Nat.le_refl _) _
        have xW : W1.heap[wr.heap.size]? = some (.cells #[.int .i64 nu, .slice a1 n1 c1, .slice a2 n2 c2, .slice a3 n3 c3] 34 (0, 0)) := by rw [HW1.out]; exact heap_alloc_new _ _
        have zW : wr.heap.size + 1 ≤ W1.heap.size := by rw [HW1.out]; simp
        have hcall := hp W1 (Nat.le_trans hzr hbW.size) (fun k hk => (hbW.block k (Nat.lt_of_lt_of_le (hK k hk) hzr)).trans (hfr.blk (hK k hk) (hKg k hk))) nu hIa a1 n1 c1 a2 n2 c2 a3 n3 c3
        cases hq : p nu with
        | true =>
          have hkp2 : Kept (fun a : VL (LB d) => !p a.number) l (k + 1) m l' := hkp.skip Ha.out (by simp [hq])
          rw [hq] at hcall
          clear hq hp hI hidx hKg hkp
          go_wp2_with fail
          rw [← HW1.out]
          refine hcall.mono ?_
          rintro e w2 ⟨rfl, hb2⟩
          have hb02 : Below wr.heap.size wr w2 := BTr hbW hb2
          go_wp2_with fail
          go_roundg (n - (k + 1))
          case measure => omega
          case rel => exact ⟨k + 1, m, l', by omega, by omega, rfl, by go_num, HL.out.below hb02, hkp2, hfr.on hb02⟩
        | false =>
          have hkp2 := hkp.keep Ha.out (by simp [hq])
          rw [hq] at hcall
          clear hq hp hI hidx hKg hkp
          go_wp2_with fail
          rw [← HW1.out]
          refine hcall.mono ?_
          rintro e w2 ⟨rfl, hb2⟩
          have hb02 : Below wr.heap.size wr w2 := BTr hbW hb2
          have HL2 : Hid (Row (ekV (LB d)) w2 base (.slice (some ⟨g, 0, none⟩) n cap) l') := HL.out.below hb02
          obtain ⟨_, _, _, _, cur2, hg2, _⟩ := HL2.out.cur
          have y2 := (hb2.block _ (by omega)).trans xW
          have t0 := cell_of_blk y2 0 _ rfl
          have t1 := cell_of_blk y2 1 _ rfl
          have t2 := cell_of_blk y2 2 _ rfl
          have t3 := cell_of_blk y2 3 _ rfl
          obtain ⟨mu, mi, my, ms, ⟨b1, d1, f1⟩, ⟨b2, d2, f2⟩, ⟨b3, d3, f3⟩⟩ := am
          have u0 : w2.cell? ⟨g, m * 4, none⟩ = some (.int .i64 mu) := HL2.out.cells Hm.out (j := 0) rfl
          have u1 : w2.cell? ⟨g, m * 4 + 1, none⟩ = some (.slice b1 d1 f1) := HL2.out.cells Hm.out (j := 1) rfl
          have u2 : w2.cell? ⟨g, m * 4 + 2, none⟩ = some (.slice b2 d2 f2) := HL2.out.cells Hm.out (j := 2) rfl
          have u3 : w2.cell? ⟨g, m * 4 + 3, none⟩ = some (.slice b3 d3 f3) := HL2.out.cells Hm.out (j := 3) rfl
          have q0 := fr_of_blk hg2 (m * 4)
          have q1 := fr_of_blk hg2 (m * 4 + 1)
          have q2 := fr_of_blk hg2 (m * 4 + 2)
          have q3 := fr_of_blk hg2 (m * 4 + 3)
          have hfin := HL2.out.setV (i := m) (a := ⟨nu, bi, by', su, (a1, n1, c1), (a2, n2, c2), (a3, n3, c3)⟩) rfl (by omega)
          have HFIN : Hid _ := hfin
          have hfr2 := fr4at hg2 (i := m * 4) (x0 := .int .i64 nu) (x1 := .slice a1 n1 c1) (x2 := .slice a2 n2 c2) (x3 := .slice a3 n3 c3)
          have hfr3 := frB_trans1 (hfr.on hb02) hfr2
          have HFR : Hid _ := hfr3
          clear hfin hfr2 hfr3 hcall y2 xW hg2
          go_wp2_with fail
          go_roundg (n - (k + 1))
          case measure => omega
          case rel => exact ⟨k + 1, m + 1, _, by omega, by omega, by go_num, by go_num, HFIN.out, hkp2, HFR.out⟩
      · obtain rfl : k = n := by omega
        have hml : m ≤ k := by omega
        obtain ⟨_, _, _, _, curR, hgR, hszR⟩ := HL.out.cur
        have hszR' : curR.size = cap * 4 := hszR
        obtain ⟨vs, hcl⟩ := run_clearV (w := wr) (g := g) (o := m * 4) (n := k - m) (c := cap - m) (by omega) (fun j hj => by
          have : m * 4 + j < curR.size := by omega
          rw [cell_of_blk hgR (m * 4 + j) _ (Array.getElem?_eq_getElem this)]; rfl) (fun j _ => fr_of_blk hgR (m * 4 + j))
        have HF : Hid (Row (ekV (LB d)) (wr.setCells g (m * 4) vs) base (.slice (some ⟨g, 0, none⟩) m cap) (l'.take m)) := HL.out.cut hml vs (Nat.le_refl _)
        have HG : Hid (FrB [g] w (wr.setCells g (m * 4) vs)) := FrB.setCells (o := m * 4) vs (m * 4) hfr hgR (by show (34 : TypeId) ≠ 5; decide)
        have HE : Hid (l'.take m = l.filter fun a => !p a.number) := by
          show _ = _
          rw [hkp.front, List.take_of_length_le (by rw [← Hn.out]; exact Nat.le_refl _)]
        have hltz : ¬ (k : Int) < (k : Int) := by omega
        clear hszR hszR' hgR hidx hp hI hKg hkp
        go_wp2
        go_ret
        exact ⟨some ⟨g, 0, none⟩, m, cap, rfl, rfl, by rw [← HE.out]; exact HF.out, HG.out⟩

end L
end Go.Proofs.YtelmjekjohbmjaaGreatDoor

/- slices.Insert of one value into a list of the call's own: what lies where. -/
namespace Go.Proofs.YtelmjekjohbmjaaGreatDoor
namespace L
open Go.RowKit

/-- 'copy' of values. -/
theorem run_copyV {w : World} {ty : TypeId} {g o dLen dCap : Nat} {a : Addr} {sLen sCap m : Nat} {cs : List Value} (hm : Nat.min sLen dLen = m) (hl : cs.length = m * 4)
    (hsrc : ∀ j v, cs[j]? = some v → w.cell? (a.add j) = some v) (hc : ∀ j, j < cs.length → (w.cell? ⟨g, o + j, none⟩).isSome = true) (hf : ∀ j, j < cs.length → w.frozen? ⟨g, o + j, none⟩ = false) (h1 : ∀ v ∈ cs, v.oneCell' = true) :
    (Builtin.copy_ #[26, 26] ty #[.slice (some ⟨g, o, none⟩) dLen dCap, .slice (some a) sLen sCap]).run Tryz.prog w = .ok (goInt m) (w.setCells g o cs) := by
  have hld := run_loadCells_list (P := Tryz.prog) w a cs hsrc
  have hst := run_storeCells_cells (P := Tryz.prog) g o cs 0 w (by simpa using hc) (by simpa using hf) h1
  obtain ⟨i, hi, _, hz1, _⟩ := info_parts (ekV Unit).info
  have hz1 : i.size = 4 := hz1
  have hi : Tryz.prog.info? 34 = some i := hi
  rw [hl] at hld
  simp only [Nat.add_zero] at hst
  simp [Builtin.copy_, run_underlying Tryz.underlying26, Builtin.lenOf, Builtin.firstCells, sizeOf, typeInfo, hi, hz1, hm, hld, hst]
section
variable {α : Type} {E : EK α} {V : World} {base g n cap i : Nat} {l : List α} {a : α}
/-- What lies there behind an insertion. -/
theorem row_ins {cur : Array Value} (hb : base ≤ g) (hg : V.heap[g]? = some (.cells cur E.elem (0, 0))) (hsz : cur.size = cap * E.size) (hn : l.length = n) (hi : i ≤ n) (h1 : n + 1 ≤ cap) (h2 : cap ≤ maxLen)
    (hA : ∀ k y, k < i → l[k]? = some y → ∀ j u, (E.enc y)[j]? = some u → V.cell? ⟨g, k * E.size + j, none⟩ = some u) (hB : ∀ j u, (E.enc a)[j]? = some u → V.cell? ⟨g, i * E.size + j, none⟩ = some u)
    (hC : ∀ j u, (E.flat (l.drop i))[j]? = some u → V.cell? ⟨g, (i + 1) * E.size + j, none⟩ = some u) : Row E V base (.slice (some ⟨g, 0, none⟩) (n + 1) cap) (l.take i ++ [a] ++ l.drop i) := by
  have hti : (l.take i).length = i := by rw [List.length_take]; omega
  refine Row.of_cells hb hg hsz (by simp; omega) h1 h2 fun k y hy j u hu => ?_
  have hj : j < E.size := by have := (List.getElem?_eq_some_iff.1 hu).1; rw [E.len] at this; exact this
  rw [List.append_assoc] at hy
  by_cases h3 : k < i
  · rw [List.getElem?_append_left (by omega), List.getElem?_take, if_pos h3] at hy
    exact hA k y h3 hy j u hu
  · rw [List.getElem?_append_right (by omega), hti] at hy
    by_cases h4 : k = i
    · subst h4
      rw [Nat.sub_self] at hy
      simp at hy
      subst hy
      exact hB j u hu
    · rw [List.getElem?_append_right (by simp; omega)] at hy
      simp only [List.length_singleton] at hy
      have := hC ((k - i - 1) * E.size + j) u (by rw [E.flat_at _ _ j y hy hj]; exact hu)
      rw [← Nat.add_assoc, ← Nat.add_mul, show i + 1 + (k - i - 1) = k by omega] at this
      exact this
end
theorem grow_frB {w w' : World} {v : Value} {F : List Nat} (h : w.grownBy w' v.ownBlock) {t : TypeId} (ht : t ≠ 5) (hv : ∀ g, v.ownBlock = some g → ∃ cs fr, w.heap[g]? = some (.cells cs t fr)) (hF : ∀ g, v.ownBlock = some g → g ∈ F) : FrB F w w' :=
  ⟨h.os, h.tape, h.output, h.size, fun k hk hc => h.block k hk fun e => by
    rcases hc with hc | ⟨cs', fr', hc⟩
    · exact hc (hF k e.symm)
    · obtain ⟨cs, fr, hg⟩ := hv k e.symm
      rw [hg] at hc
      simp only [Option.some.injEq, Obj.cells.injEq] at hc
      exact ht hc.2.1⟩

set_option maxHeartbeats 4000000 in
set_option maxRecDepth 100000 in
/-- At the end. -/
theorem insEnd_any {β : Type} {w : World} {base : Nat} {ao : Option Addr} {n cap vb : Nat} {l : List (VL β)} {a : VL β} {x0 x1 x2 x3 : Value} (h : Row (ekV β) w base (.slice ao n cap) l) (he : (ekV β).enc a = [x0, x1, x2, x3]) (hv : w.heap[vb]? = some (.cells #[x0, x1, x2, x3] 34 (0, 0)))
    (hlen : (n + 1) * 80 ≤ 140737488355328) (hb : base ≤ w.heap.size) :
    Calls Tryz.prog 73 #[.slice ao n cap, .int .i64 (n : Int), .slice (some ⟨vb, 0, none⟩) 1 1] w fun e w' => ∃ q : PV, e = .returned q.v ∧ (∀ k, q.v.ownBlock = some k → (Value.slice ao n cap).ownBlock = some k ∨ w.heap.size ≤ k) ∧ Row (ekV β) w' base q.v (l ++ [a]) ∧ FrB (Value.slice ao n cap).ownBlock.toList w w' := by
  have hn : l.length = n := by
    obtain ⟨ao', cap', e⟩ := h.shape
    cases e; rfl
  have Hsrc : ∀ ad, (some ⟨vb, 0, none⟩ : Option Addr) = some ad → ∀ k y, [a][k]? = some y → ∀ j u, ((ekV β).enc y)[j]? = some u → w.cell? (ad.add (k * (ekV β).size + j)) = some u := src_one hv (by rw [he])
  have hl2 : (l.length + [a].length) * (ekV β).bytes ≤ 140737488355328 := by rw [hn]; exact hlen
  have hcap : n ≤ cap := by
    rcases h.2 with ⟨e, hn0⟩ | ⟨g, cap', cur, e, _, _, h1, _⟩
    · cases e; omega
    · cases e; exact h1
  have hty : ∀ g, (Value.slice ao n cap).ownBlock = some g → ∃ cs fr, w.heap[g]? = some (.cells cs 34 fr) := fun g hg => by
    rcases h.2 with ⟨e, _⟩ | ⟨g', cap', cur, e, _, hg', _⟩
    · rw [e] at hg; simp [Value.ownBlock] at hg
    · rw [e] at hg; simp [Value.ownBlock] at hg; subst hg; exact ⟨_, _, hg'⟩
  have HN : Hid (l.length = n) := hn
  clear hn
  go_enter Tryz.func73, Tryz.ntmps73
  go_wp2_with (at_builtin; refine wpList_appB rfl (ekV β) _ _ rfl base _ l [a] rfl h (some ⟨vb, 0, none⟩) 1 1 rfl rfl (fun h => by cases h) Hsrc (show 1 ≤ 80 by omega) hl2 hb ?_)
  all_goals (
    try subst h
    intro v4 w4 hr4 hg4 hk4
    obtain ⟨a4, n4, c4, rfl, Hn4⟩ := hr4.shape'
    go_wp2
    go_ret
    exact ⟨(a4, n4, c4), rfl, hk4, hr4, grow_frB (t := 34) hg4 (by decide) hty fun g hg => by rw [hg]; simp⟩)

end L
end Go.Proofs.YtelmjekjohbmjaaGreatDoor

/- append of an own list behind an own list: what was there stays, as far as it was one's own. -/
namespace Go.Proofs.YtelmjekjohbmjaaGreatDoor
namespace L
open Go.RowKit

section
variable {α : Type} {w : World}
theorem Row.src {E : EK α} {base : Nat} {ao : Option Addr} {n cap : Nat} {m : List α} (h : Row E w base (.slice ao n cap) m) : m.length = n ∧ (ao = none → n = 0 ∧ cap = 0) ∧ ∀ ad, ao = some ad → ∀ k y, m[k]? = some y → ∀ j u, (E.enc y)[j]? = some u → w.cell? (ad.add (k * E.size + j)) = some u := by
  refine ⟨h.len.symm, ?_, ?_⟩
  · intro e
    subst e
    rcases h.2 with ⟨hv, hn⟩ | ⟨g, cap', cur, hv, _⟩
    · cases hv; exact ⟨rfl, rfl⟩
    · cases hv
  · intro ad e k y hy j u hu
    subst e
    rcases h.2 with ⟨hv, hn⟩ | ⟨g, cap', cur, hv, hbg, hg, hnc, hcm, hcs, htake⟩
    · cases hv
    · cases hv
      rw [add_plain, Nat.zero_add]
      exact h.cells hy hu
theorem Row.front {E : EK α} {base g n cap : Nat} {l m : List α} {w' : World} (h : Row E w' base (.slice (some ⟨g, 0, none⟩) (l.length + n) cap) (l ++ m)) : Row E w' base (.slice (some ⟨g, 0, none⟩) l.length cap) l := by
  obtain ⟨_, h1, h2, h3, cur, h4, h5⟩ := h.cur
  refine Row.of_cells h1 h4 h5 rfl (by omega) h3 fun k y hy j u hu => ?_
  exact h.cells (by rw [List.getElem?_append_left (List.getElem?_eq_some_iff.1 hy).1]; exact hy) hu
theorem run_appO (E : EK α) (ty : TypeId) (base : Nat) (p q : PV) (l m : List α) (hY : E.elem ≠ 5) (hown : Row E w base p.v l) (hq : Row E w base q.v m) (hby : 1 ≤ E.bytes) (hlen : (l.length + m.length) * E.bytes ≤ 140737488355328) (hb : base ≤ w.heap.size) :
    ∃ (a' : Option Addr) (n' c' : Nat) (w' : World), (Builtin.append_ #[E.slice, E.slice] ty #[p.v, q.v]).run Tryz.prog w = .ok (.slice a' n' c') w' ∧ Row E w' base (.slice a' n' c') (l ++ m) ∧ Row E w' base p.v l ∧ FrB (own1 p) w w' ∧ ∀ k ∈ own1 (a', n', c'), k ∈ own1 p ∨ w.heap.size ≤ k := by
  obtain ⟨ao, n, cap⟩ := q
  have hq' : Row E w base (.slice ao n cap) m := hq
  obtain ⟨hm, hnil, hcell⟩ := hq'.src
  obtain ⟨v', w', hr, h1, h2, h3⟩ := run_appB E ty base p.v l m hown ao n cap hm hnil hcell hby hlen hb
  obtain ⟨a', c', rfl⟩ := h1.shape
  have hfr : FrB (own1 p) w w' := grow_frB h2 hY (fun g hg => by
    rcases hown.2 with ⟨hv, hn⟩ | ⟨g', cap', cur, hv, hbg, hgg, _⟩
    · rw [hv] at hg; simp [Value.ownBlock] at hg
    · rw [hv] at hg
      simp only [Value.ownBlock, Option.some.injEq] at hg
      subst hg
      exact ⟨cur, _, hgg⟩) (fun g hg => mem_own1.2 hg)
  refine ⟨a', _, c', w', hr, h1, ?_, hfr, fun k hk => (h3 k (mem_own1.1 hk)).imp mem_own1.2 id⟩
  obtain ⟨i0, hi, hz0, hz1, hz2⟩ := info_parts E.info
  have h63 : l.length + m.length ≤ maxLen := by
    have : l.length + m.length ≤ (l.length + m.length) * E.bytes := Nat.le_mul_of_pos_right _ hby
    unfold maxLen; omega
  rcases hown.2 with ⟨hv, hn⟩ | ⟨g, cap', cur, hv, hbg, hg, hnc, hcm, hcs, htake⟩
  · have hl0 : l = [] := List.eq_nil_of_length_eq_zero hn
    rw [hv, hl0]
    exact Row.nil _ _ _
  · cases ao with
    | none =>
      obtain ⟨rfl, rfl⟩ := hnil rfl
      have hrun := run_append_owned_none (P := Tryz.prog) (w := w) base E.slice ty E.elem i0 E.size E.under hi p.v l.length (E.flat l) hown
      have : (Builtin.append_ #[E.slice, E.slice] ty #[p.v, .slice none 0 0]).run Tryz.prog w = .ok (.slice a' (l ++ m).length c') w' := hr
      rw [hrun] at this
      simp only [Result.ok.injEq] at this
      rw [← this.2]
      exact hown
    | some ad =>
      have hl : (E.flat m).length = n * E.size := by rw [E.flat_len, hm]
      have hnews : ∀ j u, (E.flat m)[j]? = some u → w.cell? (ad.add j) = some u := by
        intro j u hu
        obtain ⟨y, h1, h2⟩ := E.flat_get hu
        have := hcell ad rfl _ y h1 _ u h2
        rwa [Nat.mul_comm, Nat.div_add_mod] at this
      have h1c : ∀ u ∈ E.flat m, u.oneCell' = true := by
        intro y hy
        simp only [EK.flat, List.mem_flatMap] at hy
        obtain ⟨p, hp, hy⟩ := hy
        exact E.one p y hy
      have hr' : (Builtin.append_ #[E.slice, E.slice] ty #[.slice (some ⟨g, 0, none⟩) l.length cap', .slice (some ad) n cap]).run Tryz.prog w = .ok (.slice a' (l ++ m).length c') w' := by rw [← hv]; exact hr
      by_cases hroom : l.length + n ≤ cap'
      · have hfit : l.length * i0.size + (E.flat m).length ≤ cur.size := by rw [hl, hcs, hz1, ← Nat.add_mul]; exact Nat.mul_le_mul_right _ hroom
        have hr2 := run_append_room (P := Tryz.prog) w E.slice ty E.elem i0 E.under hi g l.length cap' cur hg ad n cap (E.flat m) (by rw [hl, hz1]) hnews h1c hroom hfit
        rw [hr2] at hr'
        simp only [Result.ok.injEq, Value.slice.injEq] at hr'
        obtain ⟨⟨rfl, _, rfl⟩, _⟩ := hr'
        have h1' : Row E w' base (.slice (some ⟨g, 0, none⟩) (l.length + m.length) cap') (l ++ m) := by
          have := h1
          rwa [List.length_append] at this
        rw [hv]
        exact h1'.front
      · have holds := World.ownsRow.cells (show w.ownsRow base E.elem E.size (.slice (some ⟨g, 0, none⟩) l.length cap') l.length (E.flat l) by rw [← hv]; exact hown) (g := g) rfl
        have hr2 := run_append_grow (P := Tryz.prog) w E.slice ty E.elem i0 _ E.under hi hz0 ⟨g, 0, none⟩ l.length cap' (E.flat l) (by rw [hz1]; exact hown.1) holds ad n cap (E.flat m) (by rw [hl, hz1]) hnews (by omega) (by unfold maxLen at h63; omega) (growslice_fits (by omega) (by rw [hz2, ← hm]; exact hlen))
        rw [hr2] at hr'
        simp only [Result.ok.injEq] at hr'
        rw [← hr'.2]
        exact hown.keep fun k _ hk => by
          rw [Below.heap_alloc _ _ _ (show k < w.drew.heap.size from hk)]
          rfl
end

end L
end Go.Proofs.YtelmjekjohbmjaaGreatDoor

/- Blocks, each met once; and of which blocks others were made. -/
namespace Go.Proofs.YtelmjekjohbmjaaGreatDoor
namespace L
open Go.RowKit

/-- Each of L' is there once; what was there ahead of w is of L. -/
def From (w : World) (L L' : List Nat) : Prop := ∀ k, L'.count k ≤ 1 ∧ (k < w.heap.size → L'.count k ≤ L.count k)
theorem From.refl {w : World} {L : List Nat} (h : L.Nodup) : From w L L := fun k => ⟨List.nodup_iff_count.1 h k, fun _ => Nat.le_refl _⟩
theorem From.nodup {w : World} {L L' : List Nat} (h : From w L L') : L'.Nodup := List.nodup_iff_count.2 fun k => (h k).1
theorem From.trans {w w' : World} {A B C : List Nat} (h : From w A B) (k : From w' B C) (hs : w.heap.size ≤ w'.heap.size) : From w A C := fun i => ⟨(k i).1, fun hi => Nat.le_trans ((k i).2 (by omega)) ((h i).2 hi)⟩
theorem From.mem {w : World} {L L' : List Nat} (h : From w L L') {k : Nat} (hk : k ∈ L') : k ∈ L ∨ w.heap.size ≤ k := by
  by_cases hs : k < w.heap.size
  · left
    have := (h k).2 hs
    have h1 := List.count_pos_iff.2 hk
    exact List.count_pos_iff.1 (by omega)
  · right; omega
theorem From.of {w : World} {L L' : List Nat} (hn : L'.Nodup) (hm : ∀ k ∈ L', k ∈ L ∨ w.heap.size ≤ k) : From w L L' := fun k => ⟨List.nodup_iff_count.1 hn k, fun hk => by
  by_cases h : k ∈ L'
  · have h1 := List.nodup_iff_count.1 hn k
    rcases hm k h with h2 | h2
    · have := List.count_pos_iff.2 h2; omega
    · omega
  · rw [List.count_eq_zero_of_not_mem h]; omega⟩
theorem apart2 {A B : List Nat} {k : Nat} (h : A.count k + B.count k ≤ 1) (ha : k ∈ A) : k ∉ B := fun hb => by
  have := List.count_pos_iff.2 ha
  have := List.count_pos_iff.2 hb
  omega
theorem count_lt {A : List Nat} {n k : Nat} (h : ∀ i ∈ A, i < n) (hk : n ≤ k) : A.count k = 0 := List.count_eq_zero_of_not_mem fun hm => by have := h k hm; omega
section
variable {α : Type} (f : α → List Nat)
theorem count_flat_append (l m : List α) (k : Nat) : ((l ++ m).flatMap f).count k = (l.flatMap f).count k + (m.flatMap f).count k := by rw [List.flatMap_append, List.count_append]
theorem count_flat_cons (a : α) (l : List α) (k : Nat) : ((a :: l).flatMap f).count k = (f a).count k + (l.flatMap f).count k := by rw [List.flatMap_cons, List.count_append]
theorem count_flat_filter (p : α → Bool) (k : Nat) : ∀ l : List α, ((l.filter p).flatMap f).count k ≤ (l.flatMap f).count k
  | [] => Nat.le_refl _
  | a :: l => by
    have := count_flat_filter p k l
    rw [List.filter_cons, count_flat_cons]
    split
    · rw [count_flat_cons]; omega
    · omega
/-- One that goes is counted beside those that stay. -/
theorem count_flat_out {p : α → Bool} {a : α} (hp : p a = false) (k : Nat) : ∀ {l : List α}, a ∈ l → (f a).count k + ((l.filter p).flatMap f).count k ≤ (l.flatMap f).count k
  | b :: l, h => by
    rw [List.filter_cons, count_flat_cons]
    rcases List.mem_cons.1 h with rfl | h
    · have := count_flat_filter f p k l
      rw [hp]
      simp only [Bool.false_eq_true, if_false]
      omega
    · have := count_flat_out hp k h
      split
      · rw [count_flat_cons]; omega
      · omega
theorem count_flat_mem {a : α} (k : Nat) : ∀ {l : List α}, a ∈ l → (f a).count k ≤ (l.flatMap f).count k
  | b :: l, h => by
    rw [count_flat_cons]
    rcases List.mem_cons.1 h with rfl | h
    · omega
    · have := count_flat_mem k h
      omega
theorem count_flat_ins (l : List α) (i : Nat) (a : α) (k : Nat) : ((l.take i ++ [a] ++ l.drop i).flatMap f).count k = (f a).count k + (l.flatMap f).count k := by
  rw [count_flat_append, count_flat_append, count_flat_cons]
  have := count_flat_append f (l.take i) (l.drop i) k
  rw [List.take_append_drop] at this
  simp only [List.flatMap_nil, List.count_nil]
  omega
end
theorem count_fp {β : Type} (f : β → List Nat) (v : VL β) (k : Nat) : (VL.fp f v).count k = (own1 v.p1).count k + (own1 v.p2).count k + (own1 v.p3).count k + (v.subs.flatMap f).count k := by
  unfold VL.fp; rw [List.count_append, List.count_append, List.count_append]
theorem count_bfp {β : Type} (f : β → List Nat) (b : BL β) (k : Nat) : (BL.fp f b).count k = (own1 b.q0).count k + (own1 b.q1).count k + (b.vals.flatMap (VL.fp f)).count k := by
  unfold BL.fp; rw [List.count_append, List.count_append]
theorem own1_once (p : PV) (k : Nat) : (own1 p).count k ≤ 1 := by
  unfold own1
  cases p.v.ownBlock with
  | none => simp
  | some b => simp [List.count_cons]; split <;> omega

end L
end Go.Proofs.YtelmjekjohbmjaaGreatDoor

/- slices.Insert of one value: there is room. -/
namespace Go.Proofs.YtelmjekjohbmjaaGreatDoor
namespace L
open Go.RowKit

theorem flat_one {α : Type} (E : EK α) (l : List α) : ∀ u ∈ E.flat l, u.oneCell' = true := by
  intro y hy
  simp only [EK.flat, List.mem_flatMap] at hy
  obtain ⟨p, _, hy⟩ := hy
  exact E.one p y hy
theorem cell_in {w : World} {g o j : Nat} {vs : List Value} {u : Value} (hc : ∀ j, j < vs.length → (w.cell? ⟨g, o + j, none⟩).isSome = true) (hu : vs[j]? = some u) : (w.setCells g o vs).cell? ⟨g, o + j, none⟩ = some u := by
  obtain ⟨hj, e⟩ := List.getElem?_eq_some_iff.1 hu
  rw [World.cell?_setCells_in g vs o w hc j hj, e]
set_option maxHeartbeats 4000000 in
set_option maxRecDepth 100000 in
theorem insShift_any {β : Type} {w : World} {base : Nat} {g n cap vb i : Nat} {l : List (VL β)} {a : VL β} {x0 x1 x2 x3 : Value} (h : Row (ekV β) w base (.slice (some ⟨g, 0, none⟩) n cap) l) (he : (ekV β).enc a = [x0, x1, x2, x3]) (hv : w.heap[vb]? = some (.cells #[x0, x1, x2, x3] 34 (0, 0)))
    (hvb : vb ≠ g) (hi : i < n) (hroom : n + 1 ≤ cap) :
    Calls Tryz.prog 73 #[.slice (some ⟨g, 0, none⟩) n cap, .int .i64 (i : Int), .slice (some ⟨vb, 0, none⟩) 1 1] w fun e w' => e = .returned (.slice (some ⟨g, 0, none⟩) (n + 1) cap) ∧ Row (ekV β) w' base (.slice (some ⟨g, 0, none⟩) (n + 1) cap) (l.take i ++ [a] ++ l.drop i) ∧ FrB [g] w w' := by
  obtain ⟨hl, hbg, hnc, hcm, cur, hg, hsz⟩ := h.cur
  replace hsz : cur.size = cap * 4 := hsz
  have hsp : ∀ j, j < (n + 1) * 4 → (w.cell? ⟨g, j, none⟩).isSome = true := fun j hj => by
    have : j < cur.size := by omega
    rw [cell_of_blk hg j _ (Array.getElem?_eq_getElem this)]; rfl
  have hfz : ∀ j, w.frozen? ⟨g, j, none⟩ = false := fun j => fr_of_blk hg j
  have hdl : ((ekV β).flat (l.drop i)).length = (n - i) * 4 := by rw [(ekV β).flat_len, List.length_drop, hl]; rfl
  have hsa : w.shape? vb = some (34, 4) := by simp [World.shape?, hv]
  have hsb : w.shape? g = some (34, cur.size) := by simp only [World.shape?, hg]; rfl
  have hov : ∀ lb cb o, (callFunc 113 #[.slice (some ⟨vb, 0, none⟩) 1 1, .slice (some ⟨g, o, none⟩) lb cb]).run Tryz.prog w = .ok (.value (.bool false)) w := fun lb cb o => by
    rw [run_callFunc_extern Tryz.func113 (by kernel_rfl) (by kernel_rfl) (by kernel_rfl) (e := Extern.SlicesOverlaps.overlaps #[26, 26] #[4]) (by kernel_rfl),
      Lib.run_overlaps_apart w 26 4 34 Tryz.underlying26 4 (fun w => by kernel_rfl) ⟨vb, 0, none⟩ ⟨g, o, none⟩ 1 1 lb cb hvb _ _ _ _ hsa hsb (by omega) (fr_of_blk hv 0) (fr_of_blk hv _)]
    rfl
  have hcs : ∀ j v, ((ekV β).flat (l.drop i))[j]? = some v → w.cell? ⟨g, i * 4 + j, none⟩ = some v := fun j v hj => by
    obtain ⟨y, h1, h2⟩ := (ekV β).flat_get hj
    rw [List.getElem?_drop] at h1
    have := h.cells h1 h2
    have e4 : (ekV β).size = 4 := rfl
    rw [e4] at this
    rw [show i * 4 + j = (i + j / 4) * 4 + j % 4 by omega]
    exact this
  have hcp1 : ∀ ty dc sc, (Builtin.copy_ #[26, 26] ty #[.slice (some ⟨g, (i + 1) * 4, none⟩) (n - i) dc, .slice (some ⟨g, i * 4, none⟩) (n + 1 - i) sc]).run Tryz.prog w.drew = .ok (goInt ((n - i : Nat) : Int)) (w.drew.setCells g ((i + 1) * 4) ((ekV β).flat (l.drop i))) := fun ty dc sc =>
    run_copyV (w := w.drew) (g := g) (o := (i + 1) * 4) (dLen := n - i) (sLen := n + 1 - i) (m := n - i) (by simp only [Nat.min_def]; split <;> omega) hdl (fun j v hj => by rw [add_plain]; exact hcs j v hj) (fun j hj => hsp _ (by omega)) (fun j _ => hfz _) (flat_one _ _)
  obtain ⟨W1, hW1⟩ : ∃ W1, W1 = w.drew.setCells g ((i + 1) * 4) ((ekV β).flat (l.drop i)) := ⟨_, rfl⟩
  obtain ⟨cur1, hg1, hsz1⟩ := block_setCells ((ekV β).flat (l.drop i)) ((i + 1) * 4) w.drew cur hg
  rw [← hW1] at hg1
  have hvs : ∀ j v, ([x0, x1, x2, x3] : List Value)[j]? = some v → W1.cell? ⟨vb, j, none⟩ = some v := fun j v hj => by
    rw [hW1, World.cell?_setCells_out g _ _ _ _ (fun h _ => absurd h hvb)]
    exact cell_of_blk (w := w) hv j v (by simpa using hj)
  have hcp2 : ∀ (W : World), (∀ x, W.cell? x = W1.cell? x) → (∀ x, W.frozen? x = W1.frozen? x) → ∀ ty dc, (Builtin.copy_ #[26, 26] ty #[.slice (some ⟨g, i * 4, none⟩) (n + 1 - i) dc, .slice (some ⟨vb, 0, none⟩) 1 1]).run Tryz.prog W = .ok (goInt 1) (W.setCells g (i * 4) [x0, x1, x2, x3]) := fun W hWc hWf ty dc =>
    run_copyV (g := g) (o := i * 4) (dLen := n + 1 - i) (sLen := 1) (m := 1) (by simp only [Nat.min_def]; split <;> omega) rfl (fun j v hj => by rw [add_plain, Nat.zero_add, hWc]; exact hvs j v hj)
      (fun j hj => by
        have hj : j < 4 := hj
        have : i * 4 + j < cur1.size := by omega
        rw [hWc, cell_of_blk hg1 _ _ (Array.getElem?_eq_getElem this)]; rfl) (fun j _ => by rw [hWf]; exact fr_of_blk hg1 _)
      (fun v hv => by rw [← he] at hv; exact (ekV β).one a v hv)
  have HFIN : ∀ W : World, (∀ x, W.cell? x = W1.cell? x) → W.heap = W1.heap → Hid (Row (ekV β) (W.setCells g (i * 4) [x0, x1, x2, x3]) base (.slice (some ⟨g, 0, none⟩) (n + 1) cap) (l.take i ++ [a] ++ l.drop i)) := fun W hWc hWh => by
    obtain ⟨cur2, hg2, hsz2⟩ := block_setCells [x0, x1, x2, x3] (i * 4) W cur1 (by rw [hWh]; exact hg1)
    have e4 : (ekV β).size = 4 := rfl
    refine row_ins hbg hg2 (by rw [hsz2, hsz1, hsz, e4]) hl (by omega) hroom hcm ?_ ?_ ?_
    · intro k y hk hy j u hu
      have hj : j < 4 := by have := (List.getElem?_eq_some_iff.1 hu).1; rw [(ekV β).len] at this; exact this
      rw [e4, World.cell?_setCells_out g _ _ _ _ (fun _ _ => by left; show k * 4 + j < i * 4; omega), hWc, hW1, World.cell?_setCells_out g _ _ _ _ (fun _ _ => by left; show k * 4 + j < (i + 1) * 4; omega)]
      exact h.cells hy hu
    · intro j u hu
      rw [he] at hu
      rw [e4]
      refine cell_in (w := W) (g := g) (o := i * 4) (vs := [x0, x1, x2, x3]) (fun j hj => ?_) hu
      have hj : j < 4 := hj
      have : i * 4 + j < cur1.size := by omega
      rw [hWc, cell_of_blk hg1 _ _ (Array.getElem?_eq_getElem this)]; rfl
    · intro j u hu
      rw [e4, World.cell?_setCells_out g _ _ _ _ (fun _ _ => by right; show i * 4 + 4 ≤ (i + 1) * 4 + j; omega), hWc, hW1]
      exact cell_in (w := w.drew) (g := g) (o := (i + 1) * 4) (fun j hj => hsp _ (by omega)) hu
  have HFR : ∀ W : World, W.heap = W1.heap → W.os = W1.os → W.tape = W1.tape → W.output = W1.output → Hid (FrB [g] w (W.setCells g (i * 4) [x0, x1, x2, x3])) := fun W e1 e2 e3 e4 => by
    have f0 : FrB [g] w w.drew := .of_below (Below.refl _ _).drew
    have f1 : FrB [g] w W1 := by rw [hW1]; exact FrB.setCells (o := 0) _ _ f0 hg (by show (34 : TypeId) ≠ 5; decide)
    have f2 : FrB [g] w W := ⟨e2.trans f1.os, e3.trans f1.tape, e4.trans f1.output, by rw [e1]; exact f1.size, fun k hk hc => by rw [e1]; exact f1.block k hk hc⟩
    exact FrB.setCells (o := 0) _ _ f2 (by rw [e1]; exact hg1) (by show (34 : TypeId) ≠ 5; decide)
  have mixed : Tryz.prog.follows Departure.mixedOrders = true := by kernel_rfl
  have hz2 : ¬ ((i : Int) = (n : Int)) := by omega
  unfold maxLen at hcm
  have hw1 : IntKind.i64.wrap ((i : Int) + 1) = (i : Int) + 1 := by rw [IntKind.wrap_i64]; omega
  have hb1 : (0 : Int) ≤ (i : Int) + 1 := by omega
  have hin : i ≤ n := by omega
  have htn : ((i : Int) + 1).toNat = i + 1 := by omega
  have hb2 : ¬ (cap = i + 1) := by omega
  have hb3 : (i : Int) ≤ (n : Int) + 1 := by omega
  have hb4 : ¬ (cap = i) := by omega
  rw [← hW1] at hcp1
  clear hsa hsb hsz hsp hfz hdl hg hcs hvs hg1 hsz1 h hl hbg he hv hW1 hvb cur cur1
  go_enter Tryz.func73, Tryz.ntmps73
  go_wp2_with (simp only [hov])
  go_region_law_o (refine step_copy_runI rfl _ _ 26 26 rfl _ _ (by simp [Act.eval, Act.put]) (by simp [Act.eval, Act.put]) (hcp1 _ _ _) ?_)
  go_wp2_with (at_builtin; refine wpList_copy_runI _ rfl _ _ 26 26 rfl _ _ rfl rfl (hcp2 _ (fun _ => rfl) (fun _ => rfl) _ _) ?_)
  go_ret
  exact ⟨rfl, (HFIN _ (fun _ => rfl) rfl).out, (HFR _ rfl rfl rfl rfl).out⟩

end L
end Go.Proofs.YtelmjekjohbmjaaGreatDoor

/- slices.Insert of one value: there is no room. -/
namespace Go.Proofs.YtelmjekjohbmjaaGreatDoor
namespace L
open Go.RowKit

theorem below_set {B b : Nat} (hb : B ≤ b) : ∀ (vs : List Value) (o : Nat) {a w : World}, Below B a w → Below B a (w.setCells b o vs)
  | [], _, _, _, h => h
  | _ :: r, o, _, _, h => below_set hb r (o + 1) (b4set h hb)
theorem zeroV_len (n : Nat) : (Builtin.zeroCells (Value.agg #[.int .i64 0, .slice none 0 0, .slice none 0 0, .slice none 0 0]).cells n).size = n * 4 := by
  simp [Builtin.zeroCells, Value.cells]
set_option maxHeartbeats 4000000 in
set_option maxRecDepth 100000 in
theorem insGrow_any {β : Type} {w : World} {base : Nat} {g n cap vb i : Nat} {l : List (VL β)} {a : VL β} {x0 x1 x2 x3 : Value} (h : Row (ekV β) w base (.slice (some ⟨g, 0, none⟩) n cap) l) (he : (ekV β).enc a = [x0, x1, x2, x3]) (hv : w.heap[vb]? = some (.cells #[x0, x1, x2, x3] 34 (0, 0)))
    (hi : i < n) (hroom : cap < n + 1) (hbig : (n + 1) * 80 ≤ 140737488355328) (hB : base ≤ w.heap.size) :
    Calls Tryz.prog 73 #[.slice (some ⟨g, 0, none⟩) n cap, .int .i64 (i : Int), .slice (some ⟨vb, 0, none⟩) 1 1] w fun e w' => ∃ G, e = .returned (.slice (some ⟨w.heap.size, 0, none⟩) (n + 1) G) ∧ Row (ekV β) w' base (.slice (some ⟨w.heap.size, 0, none⟩) (n + 1) G) (l.take i ++ [a] ++ l.drop i) ∧ Below w.heap.size w w' := by
  obtain ⟨hl, hbg, hnc, hcm, cur, hg, hsz⟩ := h.cur
  have hgw : g < w.heap.size := (Array.getElem?_eq_some_iff.1 hg).1
  have hvw : vb < w.heap.size := (Array.getElem?_eq_some_iff.1 hv).1
  obtain ⟨i0, hi0, hz0, hzs, hzb⟩ := info_parts (ekV β).info
  replace hzs : i0.size = 4 := hzs
  replace hzb : i0.bytes = 80 := hzb
  have e4 : (ekV β).size = 4 := rfl
  have htl : ((ekV β).flat (l.take i)).length = i * 4 := by rw [(ekV β).flat_len, List.length_take, hl, e4]; omega
  have hdl : ((ekV β).flat (l.drop i)).length = (n - i) * 4 := by rw [(ekV β).flat_len, List.length_drop, hl]; rfl
  have hfl : ∀ j v, ((ekV β).flat l)[j]? = some v → w.cell? ⟨g, j, none⟩ = some v := fun j v hj => by
    obtain ⟨y, h1, h2⟩ := (ekV β).flat_get hj
    have := h.cells h1 h2
    rw [Nat.mul_comm, Nat.div_add_mod] at this
    exact this
  have hsp : (ekV β).flat l = (ekV β).flat (l.take i) ++ (ekV β).flat (l.drop i) := by rw [← (ekV β).flat_append, List.take_append_drop]
  have hct : ∀ j v, ((ekV β).flat (l.take i))[j]? = some v → w.cell? ⟨g, j, none⟩ = some v := fun j v hj => hfl j v (by
    rw [hsp, List.getElem?_append_left (List.getElem?_eq_some_iff.1 hj).1]; exact hj)
  have hcs : ∀ j v, ((ekV β).flat (l.drop i))[j]? = some v → w.cell? ⟨g, i * 4 + j, none⟩ = some v := fun j v hj => hfl _ v (by
    rw [hsp, List.getElem?_append_right (by omega), htl, Nat.add_sub_cancel_left]; exact hj)
  have hkk : (n : Int) + 1 - (i : Int) = ((n + 1 - i : Nat) : Int) := by omega
  have hik : i + (n + 1 - i) = n + 1 := by omega
  have hold : (Builtin.firstCells i0.size i (.slice (some ⟨g, 0, none⟩) i cap)).run Tryz.prog w.drew = .ok ((ekV β).flat (l.take i)).toArray w.drew := by
    rw [hzs]
    exact run_firstCells_some w.drew 4 i ⟨g, 0, none⟩ i cap ((ekV β).flat (l.take i)) htl (fun j v hj => by rw [add_plain, Nat.zero_add]; exact hct j v hj)
  obtain ⟨G, hG⟩ : ∃ G, G = grownCap w (n + 1) cap 34 := ⟨_, rfl⟩
  obtain ⟨ROW, hROW⟩ : ∃ ROW : Array Value, ROW = ((ekV β).flat (l.take i)).toArray ++ Builtin.zeroCells (Value.agg #[.int .i64 0, .slice none 0 0, .slice none 0 0, .slice none 0 0]).cells (n + 1 - i) ++ Builtin.zeroCells (Value.agg #[.int .i64 0, .slice none 0 0, .slice none 0 0, .slice none 0 0]).cells (G - (n + 1)) := ⟨_, rfl⟩
  have hrz : ∀ ty, (Builtin.append_ #[26, 3] ty #[.slice (some ⟨g, 0, none⟩) i cap, .int .i64 ((n : Int) + 1 - (i : Int))]).run Tryz.prog w = .ok (.slice (some ⟨w.heap.size, 0, none⟩) (n + 1) G) (w.drew.alloc (.cells ROW 34)) := fun ty => by
    have h := Lib.run_append_grow_zeros w 26 3 ty 34 i0 _ .i64 .i64 Tryz.underlying26 Tryz.underlying3 hi0 hz0 (some ⟨g, 0, none⟩) i cap ((ekV β).flat (l.take i)) hold (n + 1 - i) (by omega) (by omega) (by omega) (by omega) (by rw [hzb]; omega) (by rw [hzb, hik]; exact growslice_fits hroom hbig)
    rw [hik] at h
    rw [hkk, hROW, hG]
    exact h
  have hGn : n + 1 ≤ G := by rw [hG]; exact grownCap_ge w _ _ _
  have hG63 : G ≤ maxLen := by rw [hG]; exact grownCap_le_maxLen w (n + 1) cap _ (by unfold maxLen; omega)
  have hRl : ROW.size = G * 4 := by
    rw [hROW, Array.size_append, Array.size_append, zeroV_len, zeroV_len, List.size_toArray, htl]
    omega
  have hRf : ∀ j v, ((ekV β).flat (l.take i))[j]? = some v → ROW[j]? = some v := fun j v hj => by
    have hjl := (List.getElem?_eq_some_iff.1 hj).1
    rw [hROW, Array.getElem?_append_left (by rw [Array.size_append, List.size_toArray]; omega), Array.getElem?_append_left (by rw [List.size_toArray]; exact hjl)]
    simpa using hj
  obtain ⟨W1, hW1⟩ : ∃ W1, W1 = w.drew.alloc (.cells ROW 34) := ⟨_, rfl⟩
  have hN1 : W1.heap[w.heap.size]? = some (.cells ROW 34 (0, 0)) := by rw [hW1]; exact heap_alloc_new w.drew _
  have hb1 : Below w.heap.size w W1 := by rw [hW1]; exact ((Below.refl _ _).drew).alloc (Nat.le_refl _) _
  have hR1 : ∀ j, j < G * 4 → (W1.cell? ⟨w.heap.size, j, none⟩).isSome = true := fun j hj => by
    rw [cell_of_blk hN1 j _ (Array.getElem?_eq_getElem (by omega))]; rfl
  have hOb : ∀ j v, w.cell? ⟨g, j, none⟩ = some v → W1.cell? ⟨g, j, none⟩ = some v := fun j v h => cell_below hb1 h
  have hvs : ∀ j v, ([x0, x1, x2, x3] : List Value)[j]? = some v → W1.cell? ⟨vb, j, none⟩ = some v := fun j v hj => cell_below hb1 (cell_of_blk hv j v (by simpa using hj))
  have hcpA : ∀ (W : World), (∀ x, W.cell? x = W1.cell? x) → (∀ x, W.frozen? x = W1.frozen? x) → ∀ ty dc, (Builtin.copy_ #[26, 26] ty #[.slice (some ⟨w.heap.size, i * 4, none⟩) (n + 1 - i) dc, .slice (some ⟨vb, 0, none⟩) 1 1]).run Tryz.prog W = .ok (goInt 1) (W.setCells w.heap.size (i * 4) [x0, x1, x2, x3]) := fun W hWc hWf ty dc =>
    run_copyV (g := w.heap.size) (o := i * 4) (dLen := n + 1 - i) (sLen := 1) (m := 1) (by simp only [Nat.min_def]; split <;> omega) rfl (fun j v hj => by rw [add_plain, Nat.zero_add, hWc]; exact hvs j v hj)
      (fun j hj => by have hj : j < 4 := hj; rw [hWc]; exact hR1 _ (by omega)) (fun j _ => by rw [hWf]; exact fr_of_blk hN1 _)
      (fun v hv => by rw [← he] at hv; exact (ekV β).one a v hv)
  obtain ⟨W2, hW2⟩ : ∃ W2, W2 = W1.setCells w.heap.size (i * 4) [x0, x1, x2, x3] := ⟨_, rfl⟩
  obtain ⟨cur2, hN2, hsz2⟩ := block_setCells [x0, x1, x2, x3] (i * 4) W1 ROW hN1
  rw [← hW2] at hN2
  have hb2 : Below w.heap.size w W2 := by rw [hW2]; exact below_set (Nat.le_refl _) _ _ hb1
  have hR2 : ∀ j, j < G * 4 → (W2.cell? ⟨w.heap.size, j, none⟩).isSome = true := fun j hj => by
    rw [cell_of_blk hN2 j _ (Array.getElem?_eq_getElem (by omega))]; rfl
  have hcpB : ∀ (W : World), (∀ x, W.cell? x = W2.cell? x) → (∀ x, W.frozen? x = W2.frozen? x) → ∀ ty dc sc, (Builtin.copy_ #[26, 26] ty #[.slice (some ⟨w.heap.size, (i + 1) * 4, none⟩) (n - i) dc, .slice (some ⟨g, i * 4, none⟩) (n - i) sc]).run Tryz.prog W = .ok (goInt ((n - i : Nat) : Int)) (W.setCells w.heap.size ((i + 1) * 4) ((ekV β).flat (l.drop i))) := fun W hWc hWf ty dc sc =>
    run_copyV (g := w.heap.size) (o := (i + 1) * 4) (dLen := n - i) (sLen := n - i) (m := n - i) (by simp only [Nat.min_def]; split <;> omega) hdl (fun j v hj => by rw [add_plain, hWc]; exact cell_below hb2 (hcs j v hj))
      (fun j hj => by rw [hWc]; exact hR2 _ (by omega)) (fun j _ => by rw [hWf]; exact fr_of_blk hN2 _) (flat_one _ _)
  have HFIN : ∀ W : World, (∀ x, W.cell? x = W2.cell? x) → W.heap = W2.heap → Hid (Row (ekV β) (W.setCells w.heap.size ((i + 1) * 4) ((ekV β).flat (l.drop i))) base (.slice (some ⟨w.heap.size, 0, none⟩) (n + 1) G) (l.take i ++ [a] ++ l.drop i)) := fun W hWc hWh => by
    obtain ⟨cur3, hN3, hsz3⟩ := block_setCells ((ekV β).flat (l.drop i)) ((i + 1) * 4) W cur2 (by rw [hWh]; exact hN2)
    refine row_ins hB hN3 (by rw [hsz3, hsz2, hRl, e4]) hl (by omega) hGn hG63 ?_ ?_ ?_
    · intro k y hk hy j u hu
      have hj : j < 4 := by have := (List.getElem?_eq_some_iff.1 hu).1; rw [(ekV β).len] at this; exact this
      rw [e4, World.cell?_setCells_out _ _ _ _ _ (fun _ _ => by left; show k * 4 + j < (i + 1) * 4; omega), hWc, hW2, World.cell?_setCells_out _ _ _ _ _ (fun _ _ => by left; show k * 4 + j < i * 4; omega)]
      refine cell_of_blk hN1 _ _ (hRf _ _ ?_)
      have := (ekV β).flat_at (l.take i) k j y (by rw [List.getElem?_take, if_pos hk]; exact hy) hj
      rw [e4] at this
      rw [this]; exact hu
    · intro j u hu
      rw [he] at hu
      have hj : j < 4 := (List.getElem?_eq_some_iff.1 hu).1
      rw [e4, World.cell?_setCells_out _ _ _ _ _ (fun _ _ => by left; show i * 4 + j < (i + 1) * 4; omega), hWc, hW2]
      exact cell_in (w := W1) (g := w.heap.size) (o := i * 4) (vs := [x0, x1, x2, x3]) (fun j hj => hR1 _ (by have hj : j < 4 := hj; omega)) hu
    · intro j u hu
      rw [e4]
      exact cell_in (w := W) (g := w.heap.size) (o := (i + 1) * 4) (fun j hj => by rw [hWc]; exact hR2 _ (by omega)) hu
  have HFR : ∀ W : World, W.heap = W2.heap → W.os = W2.os → W.tape = W2.tape → W.output = W2.output → Hid (Below w.heap.size w (W.setCells w.heap.size ((i + 1) * 4) ((ekV β).flat (l.drop i)))) := fun W e1 e2 e3 e4 =>
    below_set (Nat.le_refl _) _ _ ⟨e2.trans hb2.os, e3.trans hb2.tape, e4.trans hb2.output, by rw [e1]; exact hb2.size, fun k hk => by rw [e1]; exact hb2.block k hk⟩
  have mixed : Tryz.prog.follows Departure.mixedOrders = true := by kernel_rfl
  have hz2 : ¬ ((i : Int) = (n : Int)) := by omega
  have hz3 : (cap : Int) < (n : Int) + 1 := by omega
  unfold maxLen at hcm hG63
  have hw1 : IntKind.i64.wrap ((i : Int) + 1) = (i : Int) + 1 := by rw [IntKind.wrap_i64]; omega
  have hb1' : (0 : Int) ≤ (i : Int) + 1 := by omega
  have hin : i ≤ n := by omega
  have htn : ((i : Int) + 1).toNat = i + 1 := by omega
  have hb3 : (i : Int) ≤ (n : Int) := by omega
  have hGi : ¬ (G = i) := by omega
  have hGim : ¬ (G = i + 1) := by omega
  have hci : ¬ (cap = i) := by omega
  have hA : ∀ ty dc, (Builtin.copy_ #[26, 26] ty #[.slice (some ⟨w.heap.size, i * 4, none⟩) (n + 1 - i) dc, .slice (some ⟨vb, 0, none⟩) 1 1]).run Tryz.prog W1 = .ok (goInt 1) W2 := fun ty dc => by rw [hW2]; exact hcpA W1 (fun _ => rfl) (fun _ => rfl) ty dc
  have hBc : ∀ ty dc sc, (Builtin.copy_ #[26, 26] ty #[.slice (some ⟨w.heap.size, (i + 1) * 4, none⟩) (n - i) dc, .slice (some ⟨g, i * 4, none⟩) (n - i) sc]).run Tryz.prog W2.drew = .ok (goInt ((n - i : Nat) : Int)) (W2.drew.setCells w.heap.size ((i + 1) * 4) ((ekV β).flat (l.drop i))) := hcpB W2.drew (fun _ => rfl) (fun _ => rfl)
  have HF1 := HFIN W2.drew (fun _ => rfl) rfl
  have HF2 := HFR W2.drew rfl rfl rfl rfl
  rw [← hW1] at hrz
  clear HFIN HFR hcpA hcpB hW1 hW2
  clear hsz hg hold hROW hG hRl hRf hN1 hN2 hR1 hR2 hOb hvs hb1 hb2 hct hcs hfl hsp htl hdl h hl hbg he hv hkk hik hi0 hz0 hzs hzb hsz2 e4 hgw hvw cur cur2 ROW
  go_enter Tryz.func73, Tryz.ntmps73
  go_wp2_with (first
    | (at_builtin; refine Lib.wpList_append_run _ rfl _ _ _ _ rfl _ _ rfl rfl _ _ (hrz _) ?_)
    | (at_builtin; refine wpList_copy_runI _ rfl _ _ 26 26 rfl _ _ rfl rfl (hA _ _) ?_))
  go_region_law_o (refine step_copy_runI rfl _ _ 26 26 rfl _ _ (by simp [Act.eval, Act.put]) (by simp [Act.eval, Act.put]) (hBc _ _ _) ?_)
  go_wp2
  go_ret
  exact ⟨G, rfl, HF1.out, HF2.out⟩

end L
end Go.Proofs.YtelmjekjohbmjaaGreatDoor

/- slices.Insert of one value into a list of the call's own. -/
namespace Go.Proofs.YtelmjekjohbmjaaGreatDoor
namespace L
open Go.RowKit

theorem ins_any {β : Type} {w : World} {base : Nat} {ao : Option Addr} {n cap vb i : Nat} {l : List (VL β)} {a : VL β} {x0 x1 x2 x3 : Value} (h : Row (ekV β) w base (.slice ao n cap) l) (he : (ekV β).enc a = [x0, x1, x2, x3]) (hv : w.heap[vb]? = some (.cells #[x0, x1, x2, x3] 34 (0, 0)))
    (hvb : (Value.slice ao n cap).ownBlock ≠ some vb) (hi : i ≤ l.length) (hlen : (l.length + 1) * 80 ≤ 140737488355328) (hb : base ≤ w.heap.size) :
    Calls Tryz.prog 73 #[.slice ao n cap, .int .i64 (i : Int), .slice (some ⟨vb, 0, none⟩) 1 1] w fun e w' => ∃ q : PV, e = .returned q.v ∧ (∀ k, q.v.ownBlock = some k → (Value.slice ao n cap).ownBlock = some k ∨ w.heap.size ≤ k) ∧ Row (ekV β) w' base q.v (l.take i ++ [a] ++ l.drop i) ∧ FrB (Value.slice ao n cap).ownBlock.toList w w' := by
  have hn : l.length = n := by
    obtain ⟨ao', cap', e⟩ := h.shape
    cases e; rfl
  rw [hn] at hi hlen
  by_cases he1 : i = n
  · subst he1
    refine (insEnd_any h he hv hlen hb).mono fun e w' ⟨q, h1, h2, h3, h4⟩ => ⟨q, h1, h2, ?_, h4⟩
    rw [List.take_of_length_le (by omega), List.drop_of_length_le (by omega), List.append_nil]
    exact h3
  · have hi' : i < n := by omega
    obtain ⟨g, rfl⟩ : ∃ g, ao = some ⟨g, 0, none⟩ := by
      rcases h.2 with ⟨e, hn0⟩ | ⟨g, cap', cur, e, _⟩
      · omega
      · cases e; exact ⟨g, rfl⟩
    by_cases hr : n + 1 ≤ cap
    · exact (insShift_any h he hv (fun e => hvb (by rw [e]; rfl)) hi' hr).mono fun e w' ⟨h1, h2, h3⟩ => ⟨(some ⟨g, 0, none⟩, n + 1, cap), h1, fun k hk => .inl hk, h2, h3⟩
    · refine (insGrow_any h he hv hi' (by omega) hlen hb).mono fun e w' ⟨G, h1, h2, h3⟩ => ⟨(some ⟨w.heap.size, 0, none⟩, n + 1, G), h1, fun k hk => .inr ?_, h2, .of_below h3⟩
      have hk : w.heap.size = k := by simpa [PV.v, Value.ownBlock] using hk
      omega

end L
end Go.Proofs.YtelmjekjohbmjaaGreatDoor

/- put: a value comes into a body of the call's own. -/
namespace Go.Proofs.YtelmjekjohbmjaaGreatDoor
namespace L
open Go.RowKit

theorem alloc4 (w : World) (o1 o2 o3 o4 : Obj) : ((((w.alloc o1).alloc o2).alloc o3).alloc o4).heap[w.heap.size]? = some o1 ∧ ((((w.alloc o1).alloc o2).alloc o3).alloc o4).heap[w.heap.size + 1]? = some o2 ∧ ((((w.alloc o1).alloc o2).alloc o3).alloc o4).heap[w.heap.size + 2]? = some o3 ∧ ((((w.alloc o1).alloc o2).alloc o3).alloc o4).heap[w.heap.size + 3]? = some o4 ∧ ((((w.alloc o1).alloc o2).alloc o3).alloc o4).heap.size = w.heap.size + 4 := by
  have z1 : (w.alloc o1).heap.size = w.heap.size + 1 := by simp
  have z2 : ((w.alloc o1).alloc o2).heap.size = w.heap.size + 2 := by simp
  have z3 : (((w.alloc o1).alloc o2).alloc o3).heap.size = w.heap.size + 3 := by simp
  refine ⟨?_, ?_, ?_, ?_, by simp⟩
  · rw [Below.heap_alloc _ _ _ (by omega), Below.heap_alloc _ _ _ (by omega), Below.heap_alloc _ _ _ (by omega)]; exact heap_alloc_new w o1
  · rw [Below.heap_alloc _ _ _ (by omega), Below.heap_alloc _ _ _ (by omega), ← z1]; exact heap_alloc_new _ o2
  · rw [Below.heap_alloc _ _ _ (by omega), ← z2]; exact heap_alloc_new _ o3
  · rw [← z3]; exact heap_alloc_new _ o4
/-- The values behind put. -/
def putL {β : Type} (fs : List FI) (l : List (VL β)) (w : VL β → Bool) (p : List (VL β) → Nat) (y : VL β) : List (VL β) :=
  match fs.find? fun f => decide (f.number = y.number) with
  | none => l
  | some x =>
    let r := l.filter fun a => !oustB fs x a.number
    if w y then r else r.take (p r) ++ [y] ++ r.drop (p r)
/-- Nothing is said of what lies in subs. -/
abbrev OT (d : Nat) : World → LB d → Prop := fun _ _ => True
abbrev fT (d : Nat) : LB d → List Nat := fun _ => []
def PT (d : Nat) : World → Addr → BI d → Prop := fun _ _ _ => True
theorem PT.stays (d : Nat) : Stays (PT d) := fun _ _ _ _ _ _ => trivial
theorem OT.fr (d : Nat) : ∀ (F : List Nat) (w w' : World) (b : LB d), OT d w b → FrB F w w' → (∀ k ∈ fT d b, k ∉ F) → OT d w' b := fun _ _ _ _ _ _ _ => trivial
theorem OwnV.shy {d : Nat} {O : World → LB d → Prop} {w : World} {base : Nat} {y : VL (LB d)} (h : OwnV (ekB d) O w base y) : OwnV (ekB d) (OT d) w base y := ⟨h.r1, h.r2, h.r2y, h.r3, fun _ _ => trivial⟩
theorem OwnL.shy {d : Nat} {O : World → LB d → Prop} {w : World} {base : Nat} {b : BL (LB d)} (h : OwnL (ekB d) O w base b) : OwnL (ekB d) (OT d) w base b := ⟨h.r0, fun v hv => (h.r0v v hv).shy, h.r1, h.r1y⟩
theorem OwnV.belowT {d : Nat} {w w' : World} {base : Nat} {y : VL (LB d)} (h : OwnV (ekB d) (OT d) w base y) (hb : Below w.heap.size w w') : OwnV (ekB d) (OT d) w' base y := OwnV.fr (F := []) (OT.fr d) h (.of_below hb) (fun _ _ => List.not_mem_nil)
theorem OwnL.belowT {d : Nat} {w w' : World} {base : Nat} {b : BL (LB d)} (h : OwnL (ekB d) (OT d) w base b) (hb : Below w.heap.size w w') : OwnL (ekB d) (OT d) w' base b := OwnL.fr (F := []) (OT.fr d) h (.of_below hb) (fun _ _ => List.not_mem_nil)
theorem OwnV.rdT {d : Nat} {O : World → LB d → Prop} {w : World} {base : Nat} {y : VL (LB d)} (h : OwnV (ekB d) O w base y) : RdL 2 (PT d) w y.p3.v (y.subs.map (LB.pl d)) :=
  RdL.mapB (P := fun _ (_ : Addr) (_ : LB d) => True) _ (h.r3.rd _ fun _ _ _ _ => trivial) fun _ _ _ _ => trivial
theorem OwnL.rdT {d : Nat} {O : World → LB d → Prop} {w : World} {base : Nat} {b : BL (LB d)} (h : OwnL (ekB d) O w base b) : RdL 4 (VAt (PT d)) w b.q0.v (b.vals.map (VL.pl (LB.pl d))) := by
  refine RdL.mapB _ (h.r0.rd (fun w x (v : VL (LB d)) => w.cell? x = some (.int .i64 v.number) ∧ w.cell? (x.add 1) = some v.p1.v ∧ w.cell? (x.add 2) = some v.p2.v ∧ w.cell? (x.add 3) = some v.p3.v) fun g i a hc => ?_) ?_
  · refine ⟨by simpa using hc 0 _ rfl, ?_, ?_, ?_⟩ <;> rw [add_plain]
    · exact hc 1 _ rfl
    · exact hc 2 _ rfl
    · exact hc 3 _ rfl
  · rintro x v hv ⟨h0, h1, h2, h3⟩
    have ho := h.r0v v hv
    exact ⟨v.p1.v, v.p2.v, v.p3.v, h0, h1, h2, h3, ho.r1.rdU, ho.r2.rdZ ho.r2y, ho.rdT⟩
/-- What put is given (nothing is said of what lies in subs): a message's fields, an own body, an own value apart from it. -/
structure PutIn (d : Nat) (w : World) (base : Nat) (fs : List FI) (vf : Value) (b : BL (LB d)) (y : VL (LB d)) : Prop where
  hf : RdL 6 FAt w vf fs
  fok : ∀ f ∈ fs, I64 f.number ∧ I64 f.choice
  fl : fs.length ≤ 140737488355328
  hb : OwnL (ekB d) (OT d) w base b
  hy : OwnV (ekB d) (OT d) w base y
  apart : ∀ k ∈ own1 b.q0, k ∉ own1 b.q1 ∧ (∀ a ∈ b.vals, k ∉ VL.fp (fT d) a) ∧ k ∉ VL.fp (fT d) y
  num : ∀ a ∈ b.vals, I64 a.number
  len : (b.vals.length + 1) * 80 ≤ 140737488355328
  base : base ≤ w.heap.size

set_option maxHeartbeats 4000000 in
set_option maxRecDepth 100000 in
theorem put_none {d : Nat} {w : World} {base : Nat} {fs : List FI} {vf vb nm : Value} {b : BL (LB d)} {y : VL (LB d)} (h : PutIn d w base fs vf b y) (hvb : ∃ ao n cap, vb = .slice ao n cap) (hnm : ∃ s : List UInt8, nm = .string (S s)) (hno : fs.find? (fun f => decide (f.number = y.number)) = none) :
    Calls Tryz.prog 43 #[.agg #[nm, vf, vb], .agg #[b.q0.v, b.q1.v], .agg #[.int .i64 y.number, y.p1.v, y.p2.v, y.p3.v]] w fun e w' => e = .returned (.agg #[b.q0.v, b.q1.v]) ∧ Below w.heap.size w w' := by
  obtain ⟨af, nf, cf, rfl, Hn, hcap⟩ := h.hf.shape
  obtain ⟨ab, nb, cb, rfl⟩ := hvb
  obtain ⟨s, rfl⟩ := hnm
  obtain ⟨vals, unk, ⟨a0, n0, c0⟩, ⟨a1, n1, c1⟩⟩ := b
  obtain ⟨nu, bi, by', su, ⟨a2, n2, c2⟩, ⟨a3, n3, c3⟩, ⟨a4, n4, c4⟩⟩ := y
  obtain ⟨W4, HW4⟩ : ∃ W4, Hid (W4 = (((w.alloc (.cells #[.string (S s), .slice af nf cf, .slice ab nb cb] 48)).alloc (.cells #[.slice a0 n0 c0, .slice a1 n1 c1] 29)).alloc (.cells #[.int .i64 nu, .slice a2 n2 c2, .slice a3 n3 c3, .slice a4 n4 c4] 34)).alloc (.cells #[.slice none 0 0, .slice none 0 0] 29)) := ⟨_, rfl⟩
  obtain ⟨b1, b2, b3, b4, bz⟩ := alloc4 w (.cells #[.string (S s), .slice af nf cf, .slice ab nb cb] 48) (.cells #[.slice a0 n0 c0, .slice a1 n1 c1] 29) (.cells #[.int .i64 nu, .slice a2 n2 c2, .slice a3 n3 c3, .slice a4 n4 c4] 34) (.cells #[.slice none 0 0, .slice none 0 0] 29)
  have hb4 : Below w.heap.size w W4 := by rw [HW4.out]; exact ((((Below.refl _ _).alloc (Nat.le_refl _) _).alloc (by simp) _).alloc (by simp; omega) _).alloc (by simp; omega) _
  rw [← HW4.out] at b1 b2 b3 b4 bz
  have bz' := Nat.le_of_eq bz
  have bz'' := Nat.le_of_eq bz.symm
  have hfld := field_any (h.hf.below FAt.stays hb4) ⟨ab, nb, cb, rfl⟩ ⟨s, rfl⟩ nu
  have e1 : firstI (fun f : FI => decide (f.number = nu)) fs = -1 := first_none fun f hf => by
    have := List.find?_eq_none.1 hno f hf
    simpa using this
  rw [e1] at hfld
  unfold PV.v
  clear bz e1 hno h
  go_enter Tryz.func43, Tryz.ntmps43
  go_wp2_with fail
  rw [← HW4.out]
  refine hfld.mono ?_
  rintro e w1 ⟨rfl, hb1⟩
  obtain ⟨t0, t1⟩ := blk2 ((hb1.block _ (by omega)).trans b2)
  have y4 := (hb1.block _ (by omega)).trans b4
  obtain ⟨u0, u1⟩ := blk2 y4
  have f0 := fr_of_blk y4 0
  have f1 := fr_of_blk y4 1
  clear b1 b2 b3 b4 y4 hfld
  go_wp2_with fail
  refine bodyPost_ret (v := .agg #[.slice a0 n0 c0, .slice a1 n1 c1]) (by simp [results, Tryz.results43, go_sem, *]) rfl ?_
  exact ⟨rfl, b4set (b4set (BTr hb4 hb1) (by omega)) (by omega)⟩

end L
end Go.Proofs.YtelmjekjohbmjaaGreatDoor

