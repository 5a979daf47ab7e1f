/- Lists that a call makes: what they hold, what keeps them, append. -/
import Derived.Test.YtenlijgnmhdopaaGreatDoorSName
import Derived.OwnWalk
import Derived.Laws.OwnMore
namespace Go.Proofs.YtenlijgnmhdopaaGreatDoor
open Go.RowKit

/-- A kind of list: its element's type, how an entry lies in memory. -/
structure EK (α : Type) where
  elem : TypeId
  slice : TypeId
  size : Nat
  bytes : Nat
  zero : Value
  enc : α → List Value
  under : Tryz.prog.underlying slice = some (.slice elem)
  info : (Tryz.prog.info? elem).map (fun i => (i.zero, i.size, i.bytes)) = some (some zero, size, bytes)
  zs : zero.cells.size = size
  pos : 0 < size
  small : bytes ≤ 1000
  len : ∀ a, (enc a).length = size
  one : ∀ a, ∀ u ∈ enc a, u.oneCell' = true

def EK.flat {α : Type} (E : EK α) (l : List α) : List Value := l.flatMap E.enc
theorem EK.flat_len {α : Type} (E : EK α) (l : List α) : (E.flat l).length = l.length * E.size := by
  unfold EK.flat
  induction l with
  | nil => simp
  | cons a r ih => rw [List.flatMap_cons, List.length_append, ih, E.len, List.length_cons, Nat.succ_mul, Nat.add_comm]
theorem EK.flat_append {α : Type} (E : EK α) (l m : List α) : E.flat (l ++ m) = E.flat l ++ E.flat m := by simp [EK.flat]
theorem EK.flat_at {α : Type} (E : EK α) (l : List α) (i j : Nat) (a : α) (h : l[i]? = some a) (hj : j < E.size) : (E.flat l)[i * E.size + j]? = (E.enc a)[j]? := by
  unfold EK.flat
  induction l generalizing i with
  | nil => simp at h
  | cons q r ih =>
    rw [List.flatMap_cons]
    cases i with
    | zero =>
      simp at h
      subst h
      rw [Nat.zero_mul, Nat.zero_add, List.getElem?_append_left (by rw [E.len]; exact hj)]
    | succ i =>
      have h' : r[i]? = some a := by simpa using h
      rw [← ih i h', show (i + 1) * E.size + j = (E.enc q).length + (i * E.size + j) by rw [E.len, Nat.succ_mul]; omega,
        List.getElem?_append_right (Nat.le_add_right _ _), Nat.add_sub_cancel_left]

/-- A list that the call itself made, from block base on. -/
def Row {α : Type} (E : EK α) (w : World) (base : Nat) (v : Value) (l : List α) : Prop := w.ownsRow base E.elem E.size v l.length (E.flat l)

section
variable {α : Type} {E : EK α} {w w' : World} {base b : Nat} {v : Value} {l : List α}
theorem Row.nil (E : EK α) (w : World) (base : Nat) : Row E w base (.slice none 0 0) [] := World.ownsRow_nil _ _ _ _
theorem Row.keep (h : Row E w base v l) (hb : ∀ k, base ≤ k → k < w.heap.size → w'.heap[k]? = w.heap[k]?) : Row E w' base v l := by
  refine ⟨h.1, ?_⟩
  rcases h.2 with hn | ⟨g, cap, cur, hv, hbg, hg, r⟩
  · exact .inl hn
  · exact .inr ⟨g, cap, cur, hv, hbg, by rw [hb g hbg (Array.getElem?_eq_some_iff.1 hg).1]; exact hg, r⟩
theorem Row.kp (h : Row E w base v l) (hk : Kp b w w') (hb : b < base) : Row E w' base v l := h.keep fun k h1 h2 => hk.block k h2 (by omega)
theorem Row.below (h : Row E w base v l) (hk : Below w.heap.size w w') : Row E w' base v l := h.keep fun k _ h2 => hk.block k h2
theorem Row.mono {base' : Nat} (h : Row E w base v l) (hb : base' ≤ base) : Row E w base' v l := by
  refine ⟨h.1, ?_⟩
  rcases h.2 with hn | ⟨g, cap, cur, hv, hbg, r⟩
  · exact .inl hn
  · exact .inr ⟨g, cap, cur, hv, Nat.le_trans hb hbg, r⟩
theorem Row.own (h : Row E w base v l) : ∀ k, v.ownBlock = some k → base ≤ k ∧ k < w.heap.size := World.ownsRow.lt h
theorem Row.ne {β : Type} {F : EK β} {base' : Nat} {v' : Value} {l' : List β} (h : Row E w base v l) (h' : Row F w base' v' l') (hne : E.elem ≠ F.elem) : v.ownBlock = none ∨ v.ownBlock ≠ v'.ownBlock := by
  rcases h.2 with ⟨hv, _⟩ | ⟨g, cap, cur, hv, _, hg, _⟩
  · left; rw [hv]; rfl
  · rcases h'.2 with ⟨hv', _⟩ | ⟨g', cap', cur', hv', _, hg', _⟩
    · right; rw [hv, hv']; simp [Value.ownBlock]
    · right
      rw [hv, hv']
      simp only [Value.ownBlock, ne_eq, Option.some.injEq]
      intro e
      rw [e, hg'] at hg
      simp at hg
      exact hne hg.2.symm
theorem Row.grown {row : Option Nat} (h : Row E w base v l) (hg : w.grownBy w' row) (hne : v.ownBlock = none ∨ v.ownBlock ≠ row) : Row E w' base v l := World.ownsRow.kept h hg hne
theorem Row.shape (h : Row E w base v l) : ∃ ao cap, v = .slice ao l.length cap := by
  rcases h.2 with ⟨hv, hn⟩ | ⟨g, cap, cur, hv, _⟩
  · exact ⟨none, 0, by rw [hv, hn]⟩
  · exact ⟨_, cap, hv⟩
theorem Row.one (E : EK α) (w : World) (a : α) (hb : base ≤ w.heap.size) : Row E (w.alloc (.cells (E.enc a).toArray E.elem)) base (.slice (some ⟨w.heap.size, 0, none⟩) 1 1) [a] := by
  refine ⟨E.flat_len [a], .inr ⟨w.heap.size, 1, _, rfl, hb, heap_alloc_new w _, Nat.le_refl _, by unfold maxLen; omega, by simp [E.len], ?_⟩⟩
  have : (E.enc a).length = ([a] : List α).length * E.size := by rw [E.len]; simp
  simp only [EK.flat, List.flatMap_cons, List.flatMap_nil, List.append_nil]
  rw [← this]
  simp

theorem Kp.grown {x : World} {row : Option Nat} (h : Kp b x w) (hg : w.grownBy w' row) (hr : ∀ k, row = some k → x.heap.size ≤ k) : Kp b x w' :=
  ⟨hg.os.trans h.os, hg.tape.trans h.tape, hg.output.trans h.output, Nat.le_trans h.size hg.size, fun k hk hb =>
    (hg.block k (Nat.lt_of_lt_of_le hk h.size) (fun e => by have := hr k e.symm; omega)).trans (h.block k hk hb)⟩
theorem St.grown {txt r : List UInt8} {m e : Value} {row : Option Nat} (h : St w b txt r m e) (hg : w.grownBy w' row) (hr : ∀ k, row = some k → k ≠ b) : St w' b txt r m e :=
  ⟨h.1, h.2.1, h.2.2.1, by rw [hg.block b h.lt (fun e => hr b e.symm rfl)]; exact h.2.2.2⟩

/-- 'append(v, u...)', v the call's own, u a list that some call made. -/
theorem wp_app {o : Oper} {a : Act} {K : Act → World → Prop} {Q : Exit → Act → World → Prop} (E : EK α) (s x : Operand)
    (ho : o.op = .call { callee := .builtin .append, args := #[s, x], argTypes := #[E.slice, E.slice] })
    (base : Nat) (v : Value) (l m : List α) (hs : a.eval s = v) (hown : Row E w base v l) (base' : Nat) (u : Value) (hx : a.eval x = u) (hsrc : Row E w base' u m)
    (hlen : l.length + m.length ≤ 1000000) (hb : base ≤ w.heap.size)
    (h : ∀ v' w', Row E w' base v' (l ++ m) → w.grownBy w' v.ownBlock → K (a.put o.dst v') w') : o.wp Tryz.prog a w K Q := by
  obtain ⟨i0, hi, hz0, hz1, hz2⟩ := info_parts E.info
  rcases hsrc.2 with ⟨hu, hn⟩ | ⟨g, cap, cur, hu, hbg, hg, hn, hm, hsz, ht⟩
  · have hqs : m = [] := List.eq_nil_of_length_eq_zero hn
    subst hqs
    have hrun := run_append_owned_none (P := Tryz.prog) (w := w) base E.slice o.type E.elem i0 E.size E.under hi v l.length (E.flat l) hown
    rw [hu] at hx
    unfold Oper.wp
    simp [execOp, ho, resolve, invoke, builtin, hs, hx, hrun, Result.andThen]
    exact h v w (by rw [List.append_nil]; exact hown) ⟨rfl, rfl, rfl, Nat.le_refl _, fun _ _ _ => rfl⟩
  · rw [hu] at hx
    refine wp_append_own w s x E.slice ho base E.elem i0 _ E.size E.bytes E.under hi hz0 hz1 hz2 E.zs E.pos v l.length _ hs hown ⟨g, 0, none⟩ m.length cap
      (E.flat m) hx (E.flat_len m) (World.ownsRow.cells hsrc (g := g) (by rw [hu]; rfl)) ?_ (by unfold maxLen; omega) ?_ hb ?_
    · intro y hy
      simp only [EK.flat, List.mem_flatMap] at hy
      obtain ⟨p, hp, hy⟩ := hy
      exact E.one p y hy
    · exact Nat.le_trans (Nat.mul_le_mul hlen E.small) (by decide)
    · intro v' w' h1 h2 _
      refine h v' w' ?_ h2
      show w'.ownsRow base E.elem E.size v' (l ++ m).length (E.flat (l ++ m))
      rw [List.length_append, E.flat_append]
      exact h1
theorem wpList_app {ops : Array Oper} {rest : List Oper} {o : Oper} {a : Act} {Q : Exit → Act → World → Prop} (hgd : o.guard = none) (E : EK α) (s x : Operand)
    (ho : o.op = .call { callee := .builtin .append, args := #[s, x], argTypes := #[E.slice, E.slice] })
    (base : Nat) (v : Value) (l m : List α) (hs : a.eval s = v) (hown : Row E w base v l) (base' : Nat) (u : Value) (hx : a.eval x = u) (hsrc : Row E w base' u m)
    (hlen : l.length + m.length ≤ 1000000) (hb : base ≤ w.heap.size)
    (h : ∀ v' w', Row E w' base v' (l ++ m) → w.grownBy w' v.ownBlock → wpList Tryz.prog ops Q rest (a.put o.dst v') w') : wpList Tryz.prog ops Q (o :: rest) a w :=
  wpList_plain hgd fun _ hK => wp_app E s x ho base v l m hs hown base' u hx hsrc hlen hb fun v' w' h2 h3 => hK _ _ (h v' w' h2 h3)
end

def encInt (n : Nat) : List Value := [.int .i64 (n : Int)]
def ekInt : EK Nat where
  elem := 3
  slice := 35
  size := 1
  bytes := 8
  zero := .int .i64 0
  enc := encInt
  under := Tryz.underlying35
  info := by kernel_rfl
  zs := rfl
  pos := by decide
  small := by decide
  len := fun _ => rfl
  one := by intro a u hu; simp only [encInt, List.mem_singleton] at hu; subst hu; rfl
def encFld (f : Fld) : List Value := [.string (S f.name), .int .i64 (f.number : Int), .int .i64 (f.kind : Int), .string (S f.type), .bool f.many, .int .i64 (f.choice : Int)]
def ekFld : EK Fld where
  elem := 39
  slice := 34
  size := 6
  bytes := 64
  zero := .agg #[.string ⟨#[]⟩, .int .i64 0, .int .i64 0, .string ⟨#[]⟩, .bool false, .int .i64 0]
  enc := encFld
  under := Tryz.underlying34
  info := by kernel_rfl
  zs := rfl
  pos := by decide
  small := by decide
  len := fun _ => rfl
  one := by intro a u hu; simp only [encFld, List.mem_cons, List.mem_nil_iff, or_false] at hu; rcases hu with rfl | rfl | rfl | rfl | rfl | rfl <;> rfl
def encItm (f : Itm) : List Value := [.string (S f.name), .int .i64 f.value]
def ekItm : EK Itm where
  elem := 52
  slice := 48
  size := 2
  bytes := 24
  zero := .agg #[.string ⟨#[]⟩, .int .i64 0]
  enc := encItm
  under := Tryz.underlying48
  info := by kernel_rfl
  zs := rfl
  pos := by decide
  small := by decide
  len := fun _ => rfl
  one := by intro a u hu; simp only [encItm, List.mem_cons, List.mem_nil_iff, or_false] at hu; rcases hu with rfl | rfl <;> rfl

end Go.Proofs.YtenlijgnmhdopaaGreatDoor
