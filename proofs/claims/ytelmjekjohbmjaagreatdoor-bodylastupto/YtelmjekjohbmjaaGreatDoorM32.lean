import Derived.Test.YtelmjekjohbmjaaGreatDoorM21
import Derived.Test.YtelmjekjohbmjaaGreatDoorM16
import Derived.Laws.IdiomCopy
import Derived.Lib.SliceRun
import Derived.Test.YtelmjekjohbmjaaGreatDoorM20
import Derived.Test.YtelmjekjohbmjaaGreatDoorM14
/- slices.IndexFunc over values, by whatever function looks at their numbers. -/
namespace Go.Proofs.YtelmjekjohbmjaaGreatDoor
namespace L
open Go.RowKit

theorem PredK.at {fn : Nat} {cap : Array Value} {K : List Nat} {W V : World} {p : Int → Bool} (h : PredK fn cap K W p) (hs : W.heap.size ≤ V.heap.size) (hK : ∀ k ∈ K, V.heap[k]? = W.heap[k]?) : PredK fn cap K V p :=
  fun U hU hk => h U (Nat.le_trans hs hU) fun k hm => (hk k hm).trans (hK k hm)
set_option maxHeartbeats 1000000 in
set_option maxRecDepth 100000 in
theorem idxK_any {β : Type} {P : World → Addr → β → Prop} (hP : Stays P) {v : Value} {l : List (VI β)} {w : World} {fn : Nat} {cap0 : Array Value} {K : List Nat} {p : Int → Bool} (h : RdL 4 (VAt P) w v l)
    (hent : ∀ (args : Array Value) (w : World), (callFunc fn args).run Tryz.prog w = .ok (.enter fn args) w) (hp : PredK fn cap0 K w p) (hK : ∀ k ∈ K, k < w.heap.size) (hI : ∀ a ∈ l, I64 a.number) :
    Calls Tryz.prog 68 #[v, .func (.func fn) #[] cap0] w fun e w' => e = .returned (.int .i64 (firstI (fun v => p v.number) l)) ∧ Below w.heap.size w w' := by
  obtain ⟨ao, n, cap, rfl, Hn, hcap⟩ := h.shape
  go_enter Tryz.func68, Tryz.ntmps68
  go_wp2_with fail
  go_loopg [8] n (fun m i wr => ∃ k : Nat, k + m = n ∧ i = .int .i64 k ∧ Hid (∀ a ∈ l.take k, p a.number = false) ∧ Below w.heap.size w wr)
  case atStart => exact ⟨0, by omega, rfl, by show ∀ a ∈ _, _; simp, Below.refl _ _⟩
  case round =>
    obtain ⟨k, hk, rfl, HK, hb⟩ := hrel
    by_cases hlt : k < n
    · obtain ⟨a, Ha⟩ : ∃ a, Hid (l[k]? = some a) := ⟨l[k]'(by rw [← Hn.out]; exact hlt), List.getElem?_eq_getElem (by rw [← Hn.out]; exact hlt)⟩
      obtain ⟨b, off, rfl, hat⟩ := (h.below (VAt.stays hP) hb).get VAt.plain Ha.out
      obtain ⟨v1, v2, v3, s0, s1, s2, s3, r1, r2, r3⟩ := hat.at
      obtain ⟨a1, n1, c1, rfl, _, _⟩ := r1.shape
      obtain ⟨a2, n2, c2, rfl, _, _⟩ := r2.shape
      obtain ⟨a3, n3, c3, rfl, _, _⟩ := r3.shape
      have hki : (k : Int) < (n : Int) := by omega
      have hcall := hp wr hb.size (fun k hk => hb.block k (hK k hk)) a.number (hI a (mem_at Ha.out)) a1 n1 c1 a2 n2 c2 a3 n3 c3
      cases hq : p a.number with
      | true =>
        have HF : Hid (firstI (fun v : VI β => p v.number) l = (k : Int)) := first_at Ha.out HK.out hq
        rw [hq] at hcall
        clear hq hat r1 r2 r3 hp hI
        go_wp2_with fail
        refine hcall.mono ?_
        rintro e w1 ⟨rfl, hb1⟩
        go_wp2
        go_ret
        exact ⟨by rw [HF.out]; rfl, hb.trans (hb1.mono hb.size)⟩
      | false =>
        have HX : Hid (∀ a ∈ l.take (k + 1), p a.number = false) := by
          show ∀ a ∈ _, _
          rw [take_snoc Ha.out]
          intro y hy
          rcases List.mem_append.1 hy with hy | hy
          · exact HK.out y hy
          · rw [List.mem_singleton] at hy; rw [hy]; exact hq
        rw [hq] at hcall
        clear hq hat r1 r2 r3 hp hI
        go_wp2_with fail
        refine hcall.mono ?_
        rintro e w1 ⟨rfl, hb1⟩
        go_wp2_with fail
        go_roundg (n - (k + 1))
        case measure => omega
        case rel => exact ⟨k + 1, by omega, by go_num, HX, hb.trans (hb1.mono hb.size)⟩
    · have HF : Hid (firstI (fun v : VI β => p v.number) l = -1) := by
        have := HK.out
        rw [List.take_of_length_le (by rw [← Hn.out]; omega)] at this
        exact first_none this
      go_wp2
      go_ret
      exact ⟨by rw [HF.out]; rfl, hb⟩

end L
end Go.Proofs.YtelmjekjohbmjaaGreatDoor

/- A list of the call's own: an entry in another's place, cells cleared behind its end. -/
namespace Go.Proofs.YtelmjekjohbmjaaGreatDoor
namespace L
open Go.RowKit

theorem blk_of_cell {w : World} {g i : Nat} {cs : Array Value} {t : TypeId} {fr : Nat × Nat} {u : Value} (h : w.heap[g]? = some (.cells cs t fr)) (hc : w.cell? ⟨g, i, none⟩ = some u) : cs[i]? = some u := by
  simpa [World.cell?, h] using hc
section
variable {α : Type} {E : EK α} {w w' : World} {base g n cap : Nat} {l : List α}
/-- The block of a list of the call's own. -/
theorem Row.cur (h : Row E w base (.slice (some ⟨g, 0, none⟩) n cap) l) : l.length = n ∧ base ≤ g ∧ n ≤ cap ∧ cap ≤ maxLen ∧ ∃ cur, w.heap[g]? = some (.cells cur E.elem (0, 0)) ∧ cur.size = cap * E.size := by
  rcases h.2 with ⟨hv, _⟩ | ⟨g', cap', cur, hv, hb, hg, h1, h2, h3, _⟩
  · cases hv
  · cases hv; exact ⟨rfl, hb, h1, h2, cur, hg, h3⟩
theorem Row.cells (h : Row E w base (.slice (some ⟨g, 0, none⟩) n cap) l) {k : Nat} {y : α} (hy : l[k]? = some y) {j : Nat} {u : Value} (hu : (E.enc y)[j]? = some u) : w.cell? ⟨g, k * E.size + j, none⟩ = some u := by
  have hj : j < E.size := by have := (List.getElem?_eq_some_iff.1 hu).1; rw [E.len] at this; exact this
  have := World.ownsRow.cells h (g := g) rfl (k * E.size + j) u (by rw [E.flat_at l k j y hy hj]; exact hu)
  simpa [add_plain] using this
/-- A list is there, where its cells are. -/
theorem Row.of_cells {cur : Array Value} (hb : base ≤ g) (hg : w.heap[g]? = some (.cells cur E.elem (0, 0))) (hsz : cur.size = cap * E.size) (hn : l.length = n) (h1 : n ≤ cap) (h2 : cap ≤ maxLen) (hc : ∀ k y, l[k]? = some y → ∀ j u, (E.enc y)[j]? = some u → w.cell? ⟨g, k * E.size + j, none⟩ = some u) : Row E w base (.slice (some ⟨g, 0, none⟩) n cap) l := by
  subst hn
  refine ⟨E.flat_len l, .inr ⟨g, cap, cur, rfl, hb, hg, h1, h2, hsz, ?_⟩⟩
  apply List.ext_getElem?
  intro i
  by_cases hi : i < l.length * E.size
  · rw [List.getElem?_take, if_pos hi]
    have hk : i / E.size < l.length := by rw [Nat.div_lt_iff_lt_mul E.pos]; exact hi
    have hj := Nat.mod_lt i E.pos
    have e : i / E.size * E.size + i % E.size = i := by rw [Nat.mul_comm]; exact Nat.div_add_mod i E.size
    have h3 := E.flat_at l (i / E.size) (i % E.size) _ (List.getElem?_eq_getElem hk) hj
    rw [e] at h3
    obtain ⟨u, hu⟩ : ∃ u, (E.enc (l[i / E.size]'hk))[i % E.size]? = some u := ⟨(E.enc (l[i / E.size]'hk))[i % E.size]'(by rw [E.len]; exact hj), List.getElem?_eq_getElem _⟩
    rw [h3, hu]
    have h4 := hc _ _ (List.getElem?_eq_getElem hk) _ _ hu
    rw [e] at h4
    rw [Array.getElem?_toList]
    exact blk_of_cell hg h4
  · rw [List.getElem?_take, if_neg hi, List.getElem?_eq_none (by rw [E.flat_len]; omega)]
end
section
variable {β : Type} {w : World} {base g n cap : Nat} {l : List (VL β)}
/-- One value in another's place. -/
theorem Row.setV (h : Row (ekV β) w base (.slice (some ⟨g, 0, none⟩) n cap) l) {i : Nat} {a : VL β} {x0 x1 x2 x3 : Value} (he : (ekV β).enc a = [x0, x1, x2, x3]) (hi : i < n) :
    Row (ekV β) ((((w.setCell ⟨g, i * 4, none⟩ x0).setCell ⟨g, i * 4 + 1, none⟩ x1).setCell ⟨g, i * 4 + 2, none⟩ x2).setCell ⟨g, i * 4 + 3, none⟩ x3) base (.slice (some ⟨g, 0, none⟩) n cap) (l.set i a) := by
  obtain ⟨hl, hb, h1, h2, cur, hg, hsz⟩ := h.cur
  have hs : ∀ (V : World) (c : Array Value) (j : Nat) (v : Value), V.heap[g]? = some (.cells c (ekV β).elem (0, 0)) → (V.setCell ⟨g, j, none⟩ v).heap[g]? = some (.cells (c.setIfInBounds j v) (ekV β).elem (0, 0)) := fun V c j v hh => heap_setCell_same V g j c _ v hh
  have e4 : (ekV β).size = 4 := rfl
  have hg4 := hs _ _ (i * 4 + 3) x3 (hs _ _ (i * 4 + 2) x2 (hs _ _ (i * 4 + 1) x1 (hs _ _ (i * 4) x0 hg)))
  have hsz' : i * 4 + 3 < cur.size := by rw [hsz, e4]; omega
  refine Row.of_cells hb hg4 (by simp [hsz]) (by rw [List.length_set]; exact hl) h1 h2 fun k y hy j u hu => ?_
  rw [e4]
  have hj : j < 4 := by have := (List.getElem?_eq_some_iff.1 hu).1; rw [(ekV β).len] at this; exact this
  refine cell_of_blk hg4 _ _ ?_
  by_cases hk : k = i
  · subst hk
    rw [List.getElem?_set_self (by omega)] at hy
    cases hy
    rw [he] at hu
    match j, hj, hu with
    | 0, _, hu => simp at hu; subst hu; rw [Array.getElem?_setIfInBounds_ne (by omega), Array.getElem?_setIfInBounds_ne (by omega), Array.getElem?_setIfInBounds_ne (by omega)]; exact Array.getElem?_setIfInBounds_self_of_lt (by omega)
    | 1, _, hu => simp at hu; subst hu; rw [Array.getElem?_setIfInBounds_ne (by omega), Array.getElem?_setIfInBounds_ne (by omega), Array.getElem?_setIfInBounds_self_of_lt (by simp; omega)]
    | 2, _, hu => simp at hu; subst hu; rw [Array.getElem?_setIfInBounds_ne (by omega), Array.getElem?_setIfInBounds_self_of_lt (by simp; omega)]
    | 3, _, hu => simp at hu; subst hu; rw [Array.getElem?_setIfInBounds_self_of_lt (by simp; omega)]
  · rw [List.getElem?_set_ne (fun e => hk e.symm)] at hy
    have := h.cells hy hu
    rw [e4] at this
    have := blk_of_cell hg this
    rw [Array.getElem?_setIfInBounds_ne (by omega), Array.getElem?_setIfInBounds_ne (by omega), Array.getElem?_setIfInBounds_ne (by omega), Array.getElem?_setIfInBounds_ne (by omega)]
    exact this
end
section
variable {α : Type} {E : EK α} {w : World} {base g n cap : Nat} {l : List α}
theorem block_setCells {g : Nat} {t : TypeId} : ∀ (vs : List Value) (o : Nat) (w : World) (cs : Array Value), w.heap[g]? = some (.cells cs t (0, 0)) → ∃ cs', (w.setCells g o vs).heap[g]? = some (.cells cs' t (0, 0)) ∧ cs'.size = cs.size
  | [], _, _, cs, h => ⟨cs, h, rfl⟩
  | v :: r, o, w, cs, h => by
    obtain ⟨cs', h1, h2⟩ := block_setCells r (o + 1) (w.setCell ⟨g, o, none⟩ v) _ (heap_setCell_same w g o cs t v h)
    exact ⟨cs', h1, by simpa using h2⟩
/-- A shorter list, whatever is laid behind its end. -/
theorem Row.cut (h : Row E w base (.slice (some ⟨g, 0, none⟩) n cap) l) {m o : Nat} (hm : m ≤ n) (vs : List Value) (ho : m * E.size ≤ o) : Row E (w.setCells g o vs) base (.slice (some ⟨g, 0, none⟩) m cap) (l.take m) := by
  obtain ⟨hl, hb, h1, h2, cur, hg, hsz⟩ := h.cur
  obtain ⟨cs', h3, h4⟩ := block_setCells vs o w cur hg
  refine Row.of_cells hb h3 (by rw [h4, hsz]) (by rw [List.length_take]; omega) (by omega) h2 fun k y hy j u hu => ?_
  have hk : k < m := by have := (List.getElem?_eq_some_iff.1 hy).1; rw [List.length_take] at this; omega
  rw [List.getElem?_take, if_pos hk] at hy
  have hj : j < E.size := by have := (List.getElem?_eq_some_iff.1 hu).1; rw [E.len] at this; exact this
  rw [World.cell?_setCells_out]
  · exact h.cells hy hu
  · intro _ _
    left
    show k * E.size + j < o
    have : (k + 1) * E.size ≤ m * E.size := Nat.mul_le_mul_right _ hk
    rw [Nat.succ_mul] at this
    omega
end

end L
end Go.Proofs.YtelmjekjohbmjaaGreatDoor

/- slices.DeleteFunc over values of the call's own, by whatever function looks at their numbers. -/
namespace Go.Proofs.YtelmjekjohbmjaaGreatDoor
namespace L
open Go.RowKit
set_option linter.unusedVariables false

/-- 'clear(s)', s of values. -/
theorem run_clearV {w : World} {g o n c : Nat} (hn : 0 < n) (hc : ∀ j, j < n * 4 → (w.cell? ⟨g, o + j, none⟩).isSome = true) (hf : ∀ j, j < n * 4 → w.frozen? ⟨g, o + j, none⟩ = false) :
    ∃ vs : List Value, ∀ ty, (Builtin.clear_ #[26] ty #[.slice (some ⟨g, o, none⟩) n c]).run Tryz.prog w = .ok (.tuple #[]) (w.setCells g o vs) := by
  have hz : ∀ w, (zeroValue 34).run Tryz.prog w = .ok (.agg #[.int .i64 0, .slice none 0 0, .slice none 0 0, .slice none 0 0]) w := fun w => by kernel_rfl
  refine ⟨(Builtin.zeroCells (Value.agg #[.int .i64 0, .slice none 0 0, .slice none 0 0, .slice none 0 0]).cells n).toList, fun ty => ?_⟩
  have hlen : (Builtin.zeroCells (Value.agg #[.int .i64 0, .slice none 0 0, .slice none 0 0, .slice none 0 0]).cells n).toList.length = n * 4 := by
    simp [Builtin.zeroCells, Value.cells]
  have hone : ∀ v ∈ (Builtin.zeroCells (Value.agg #[.int .i64 0, .slice none 0 0, .slice none 0 0, .slice none 0 0]).cells n).toList, v.oneCell' = true := by
    intro v hv
    simp [Builtin.zeroCells, Value.cells] at hv
    obtain ⟨i, _, rfl⟩ := hv
    rcases (by omega : i % 4 = 0 ∨ i % 4 = 1 ∨ i % 4 = 2 ∨ i % 4 = 3) with h | h | h | h <;> rw [h] <;> rfl
  have hst := run_storeCells_cells (P := Tryz.prog) g o _ 0 w (by rw [hlen]; simpa using hc) (by rw [hlen]; simpa using hf) hone
  simp only [Nat.add_zero] at hst
  obtain ⟨m, rfl⟩ : ∃ m, n = m + 1 := ⟨n - 1, by omega⟩
  simp [Builtin.clear_, run_underlying Tryz.underlying26, hz, hst]

theorem FrB.setCells {g o : Nat} {t : TypeId} : ∀ (vs : List Value) (o : Nat) {w V : World} {cs : Array Value}, FrB [g] w V → V.heap[g]? = some (.cells cs t (0, 0)) → t ≠ 5 → FrB [g] w (V.setCells g o vs)
  | [], _, _, _, _, h, _, _ => h
  | v :: r, o, _, V, cs, h, hg, ht => FrB.setCells (o := o) r (o + 1) (frB_trans1 h (frB_set (i := o) (x := v) hg ht)) (heap_setCell_same V g o cs t v hg) ht
theorem fr4at {w : World} {g i : Nat} {cs : Array Value} {x0 x1 x2 x3 : Value} (h : w.heap[g]? = some (.cells cs 34 (0, 0))) : FrB [g] w ((((w.setCell ⟨g, i, none⟩ x0).setCell ⟨g, i + 1, none⟩ x1).setCell ⟨g, i + 2, none⟩ x2).setCell ⟨g, i + 3, none⟩ x3) := by
  have h1 := heap_setCell_same _ _ i _ _ x0 h
  have h2 := heap_setCell_same _ _ (i + 1) _ _ x1 h1
  have h3 := heap_setCell_same _ _ (i + 2) _ _ x2 h2
  exact frB_trans1 (frB_trans1 (frB_trans1 (frB_set h (by decide)) (frB_set h1 (by decide))) (frB_set h2 (by decide))) (frB_set h3 (by decide))
/-- What is kept so far: m entries in front, and the rest as it was. -/
structure Kept {α : Type} (q : α → Bool) (l : List α) (k m : Nat) (l' : List α) : Prop where
  lt : m < k
  le : k ≤ l.length
  len : l'.length = l.length
  front : l'.take m = (l.take k).filter q
  rest : l'.drop k = l.drop k
theorem Kept.at {α : Type} {q : α → Bool} {l l' : List α} {k m : Nat} (h : Kept q l k m l') : l'[k]? = l[k]? := by
  have := congrArg (·[0]?) h.rest
  simpa using this
theorem Kept.skip {α : Type} {q : α → Bool} {l l' : List α} {k m : Nat} {a : α} (h : Kept q l k m l') (ha : l[k]? = some a) (hq : q a = false) : Kept q l (k + 1) m l' := by
  refine ⟨by have := h.lt; omega, (List.getElem?_eq_some_iff.1 ha).1, h.len, ?_, ?_⟩
  · rw [take_snoc ha, List.filter_append, h.front]; simp [hq]
  · have := congrArg (List.drop 1) h.rest
    simpa [List.drop_drop] using this
theorem Kept.keep {α : Type} {q : α → Bool} {l l' : List α} {k m : Nat} {a : α} (h : Kept q l k m l') (ha : l[k]? = some a) (hq : q a = true) : Kept q l (k + 1) (m + 1) (l'.set m a) := by
  have hlt := h.lt
  have hk := (List.getElem?_eq_some_iff.1 ha).1
  have hl := h.len
  refine ⟨by omega, hk, by rw [List.length_set]; exact hl, ?_, ?_⟩
  · have e : (l'.set m a)[m]? = some a := List.getElem?_set_self (by omega)
    rw [take_snoc e, List.take_set_of_le (Nat.le_refl _), h.front, take_snoc ha, List.filter_append]
    simp [hq]
  · rw [List.drop_set_of_lt (by omega)]
    have := congrArg (List.drop 1) h.rest
    simpa [List.drop_drop] using this
theorem Kept.start {α : Type} {q : α → Bool} {l : List α} {k : Nat} {a : α} (ha : l[k]? = some a) (hq : q a = false) (h : ∀ b ∈ l.take k, q b = true) : Kept q l (k + 1) k l := by
  refine ⟨by omega, (List.getElem?_eq_some_iff.1 ha).1, rfl, ?_, rfl⟩
  rw [take_snoc ha, List.filter_append, List.filter_eq_self.2 h]
  simp [hq]

end L
end Go.Proofs.YtelmjekjohbmjaaGreatDoor

/- Get: a value's own copy. -/
namespace Go.Proofs.YtelmjekjohbmjaaGreatDoor
namespace L
open Go.RowKit

/-- What Get answers of the values l, asked for number x: none, or an own copy of the first that has it. -/
def GotV (d : Nat) (w : World) (B0 : Nat) (l : List (VI (BI d))) (x : Int) (e : Ending) (w' : World) : Prop :=
  ((∀ v ∈ l, decide (v.number = x) = false) ∧ e = .returned (.tuple #[.agg #[.int .i64 0, .slice none 0 0, .slice none 0 0, .slice none 0 0], .bool false])) ∨
  ∃ (k : Nat) (v : VI (BI d)), firstI (fun v : VI (BI d) => decide (v.number = x)) l = (k : Int) ∧ l[k]? = some v ∧ v.number = x ∧
    ∃ (y : VL (LB d)) (q0 : Int) (x1 : Option Addr) (y1 z1 : Nat) (x2 : Option Addr) (y2 z2 : Nat) (x3 : Option Addr) (y3 z3 : Nat), (ekV (LB d)).enc y = [.int .i64 q0, .slice x1 y1 z1, .slice x2 y2 z2, .slice x3 y3 z3] ∧ e = .returned (.tuple #[.agg #[.int .i64 q0, .slice x1 y1 z1, .slice x2 y2 z2, .slice x3 y3 z3], .bool true]) ∧ VL.pl (LB.pl d) y = v ∧ OwnV (ekB d) (OwnB B0 d) w' B0 y ∧ (∀ k ∈ VL.fp (LB.fp d) y, w.heap.size ≤ k) ∧ (VL.fp (LB.fp d) y).Nodup
theorem first_none' {α : Type} {p : α → Bool} {l : List α} (h : l.findIdx? p = none) : ∀ v ∈ l, p v = false := by
  rw [List.findIdx?_eq_none_iff] at h
  exact h
theorem first_some' {α : Type} {p : α → Bool} {l : List α} {k : Nat} (h : l.findIdx? p = some k) : ∃ a, l[k]? = some a ∧ p a = true := by
  rw [List.findIdx?_eq_some_iff_getElem] at h
  obtain ⟨hk, hp, _⟩ := h
  exact ⟨_, List.getElem?_eq_getElem hk, hp⟩
set_option maxHeartbeats 4000000 in
set_option maxRecDepth 100000 in
theorem get_any {d : Nat} {w : World} {B0 : Nat} {v0 v1 : Value} {b : BO (BI d)} (hB : B0 ≤ w.heap.size) (h : BRd d w v0 v1 b) (hok : ∀ v ∈ b.vals, VOk (BOk d) v) (x : Int) :
    Calls Tryz.prog 14 #[.agg #[v0, v1], .int .i64 x] w fun e w' => GotV d w B0 b.vals x e w' ∧ Below w.heap.size w w' := by
  obtain ⟨a0, n0, c0, rfl, Hn, hcap⟩ := h.1.shape
  obtain ⟨a1, n1, c1, rfl, _, _⟩ := h.2.shape
  obtain ⟨W2, HW2⟩ : ∃ W2, Hid (W2 = (w.alloc (.cells #[.slice a0 n0 c0, .slice a1 n1 c1] 29)).alloc (.cells #[.int .i64 0, .slice none 0 0, .slice none 0 0, .slice none 0 0] 34)) := ⟨_, rfl⟩
  have hb2 : Below w.heap.size w W2 := by rw [HW2.out]; exact ((Below.refl _ _).alloc (Nat.le_refl _) _).alloc (by simp) _
  have z2 : w.heap.size + 2 ≤ W2.heap.size := by rw [HW2.out]; simp
  have x1 : W2.heap[w.heap.size]? = some (.cells #[.slice a0 n0 c0, .slice a1 n1 c1] 29 (0, 0)) := by rw [HW2.out]; exact alloc2_old _ _ _
  have x2 : W2.heap[w.heap.size + 1]? = some (.cells #[.int .i64 0, .slice none 0 0, .slice none 0 0, .slice none 0 0] 34 (0, 0)) := by rw [HW2.out]; exact alloc2_new _ _ _
  have hi := valueAt_any (BAt.stays d) (h.1.below (VAt.stays (BAt.stays d)) hb2) ⟨a1, n1, c1, rfl⟩ x
  cases hp : b.vals.findIdx? (fun v => decide (v.number = x)) with
  | none =>
    have e1 : firstI (fun v : VI (BI d) => decide (v.number = x)) b.vals = -1 := by unfold firstI; rw [hp]
    have HP : Hid (∀ v ∈ b.vals, decide (v.number = x) = false) := first_none' hp
    rw [e1] at hi
    clear hp e1 hok
    go_enter Tryz.func14, Tryz.ntmps14
    go_wp2_with fail
    rw [← HW2.out]
    refine hi.mono ?_
    rintro e w1 ⟨rfl, hb1⟩
    have y2 := (hb1.block _ (by omega)).trans x2
    have s0 := cell_of_blk y2 0 _ rfl
    have s1 := cell_of_blk y2 1 _ rfl
    have s2 := cell_of_blk y2 2 _ rfl
    have s3 := cell_of_blk y2 3 _ rfl
    have f0 := fr_of_blk y2 0
    have f1 := fr_of_blk y2 1
    have f2 := fr_of_blk y2 2
    have f3 := fr_of_blk y2 3
    go_wp2_with fail
    refine bodyPost_ret (v := .tuple #[.agg #[.int .i64 0, .slice none 0 0, .slice none 0 0, .slice none 0 0], .bool false]) (by simp [results, Tryz.results14, go_sem, *]) rfl ?_
    exact ⟨.inl ⟨HP.out, rfl⟩, b4set (b4set (b4set (b4set (BTr hb2 hb1) (by omega)) (by omega)) (by omega)) (by omega)⟩
  | some k =>
    have e1 : firstI (fun v : VI (BI d) => decide (v.number = x)) b.vals = (k : Int) := by unfold firstI; rw [hp]
    obtain ⟨v, Hv, hx⟩ := first_some' hp
    have HX : Hid (v.number = x) := (show v.number = x from of_decide_eq_true hx)
    have HF : Hid (firstI (fun v : VI (BI d) => decide (v.number = x)) b.vals = (k : Int)) := e1
    have HV : Hid (b.vals[k]? = some v) := Hv
    have hkn : (k : Int) < (n0 : Int) := by have := (List.getElem?_eq_some_iff.1 Hv).1; have := Hn.out; omega
    have hk0 : ¬ (k : Int) < 0 := by omega
    have hvok := hok v (List.mem_of_getElem? Hv)
    rw [e1] at hi
    clear hp e1 hok hx Hv
    go_enter Tryz.func14, Tryz.ntmps14
    go_wp2_with fail
    rw [← HW2.out]
    refine hi.mono ?_
    rintro e w1 ⟨rfl, hb1⟩
    have hbw := BTr hb2 hb1
    have hz1 := hb1.size
    obtain ⟨b0, off, rfl, hat⟩ := (h.1.below (VAt.stays (BAt.stays d)) hbw).get VAt.plain HV.out
    obtain ⟨u1, u2, u3, s0, s1, s2, s3, r1, r2, r3⟩ := hat.at
    obtain ⟨a4, n4, c4, rfl, _, _⟩ := r1.shape
    obtain ⟨a2, n2, c2, rfl, _, _⟩ := r2.shape
    obtain ⟨a3, n3, c3, rfl, _, _⟩ := r3.shape
    obtain ⟨t0, t1⟩ := blk2 ((hb1.block _ (by omega)).trans x1)
    have hc := ownVTold d w1 B0 v a4 n4 c4 a2 n2 c2 a3 n3 c3 (by omega) r1 r2 r3 hvok
    have y2 := (hb1.block _ (by omega)).trans x2
    clear hat r1 r2 r3 hvok h x1 x2 hi
    go_wp2_with fail
    refine hc.mono ?_
    rintro e w2 ⟨y, q0, x1, y1, z1, x2, y2', z2', x3, y3, z3, HE, rfl, hpl, hov, hfp, hnd, hb3⟩
    have HE : Hid ((ekV (LB d)).enc y = [.int .i64 q0, .slice x1 y1 z1, .slice x2 y2' z2', .slice x3 y3 z3]) := HE
    have g2 := (hb3.block _ (by omega)).trans y2
    have s0' := cell_of_blk g2 0 _ rfl
    have s1' := cell_of_blk g2 1 _ rfl
    have s2' := cell_of_blk g2 2 _ rfl
    have s3' := cell_of_blk g2 3 _ rfl
    have f0 := fr_of_blk g2 0
    have f1 := fr_of_blk g2 1
    have f2 := fr_of_blk g2 2
    have f3 := fr_of_blk g2 3
    have hf := fr4 g2 (x0 := .int .i64 q0) (x1 := .slice x1 y1 z1) (x2 := .slice x2 y2' z2') (x3 := .slice x3 y3 z3)
    have hov' := OwnV.fr (OwnB.fr d) hov hf fun k hk hm => by
      rw [List.mem_singleton] at hm
      have := hfp k hk
      omega
    clear hov hf hc
    go_wp2_with fail
    refine bodyPost_ret (v := .tuple #[.agg #[.int .i64 q0, .slice x1 y1 z1, .slice x2 y2' z2', .slice x3 y3 z3], .bool true]) (by simp [results, Tryz.results14, go_sem, *]) rfl ?_
    exact ⟨.inr ⟨k, v, HF.out, HV.out, HX.out, y, q0, x1, y1, z1, x2, y2', z2', x3, y3, z3, HE.out, rfl, hpl, hov', fun k hk => by have := hfp k hk; omega, hnd⟩, b4set (b4set (b4set (b4set (BTr hbw hb3) (by omega)) (by omega)) (by omega)) (by omega)⟩

end L
end Go.Proofs.YtelmjekjohbmjaaGreatDoor

