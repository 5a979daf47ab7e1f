/- Appends onto a list of the call's own, of whatever can be read, as long as it may be. -/
import Derived.Test.YtenlijgnmhdopaaGreatDoorLData
import Derived.Deep.RegionLaw
namespace Go.Proofs.YtenlijgnmhdopaaGreatDoor
namespace L
open Go.RowKit

section
variable {α : Type} {w : World}
theorem EK.flat_get (E : EK α) {m : List α} {i : Nat} {u : Value} (h : (E.flat m)[i]? = some u) : ∃ y, m[i / E.size]? = some y ∧ (E.enc y)[i % E.size]? = some u := by
  have hi : i < (E.flat m).length := (List.getElem?_eq_some_iff.1 h).1
  rw [E.flat_len] at hi
  have hk : i / E.size < m.length := by rw [Nat.div_lt_iff_lt_mul E.pos]; exact hi
  refine ⟨m[i / E.size], List.getElem?_eq_getElem hk, ?_⟩
  have := E.flat_at m (i / E.size) (i % E.size) _ (List.getElem?_eq_getElem hk) (Nat.mod_lt _ E.pos)
  rw [← this, Nat.mul_comm, Nat.div_add_mod]
  exact h
theorem wp_appG {o : Oper} {a : Act} {K : Act → World → Prop} {Q : Exit → Act → World → Prop} (E : EK α) (s x : Operand)
    (ho : o.op = .call { callee := .builtin .append, args := #[s, x], argTypes := #[E.slice, E.slice] })
    (base : Nat) (v : Value) (l m : List α) (hs : a.eval s = v) (hown : Row E w base v l) (ao : Option Addr) (n cap : Nat) (hx : a.eval x = .slice ao n cap) (hm : m.length = n) (hnil : ao = none → n = 0 ∧ cap = 0)
    (hcell : ∀ ad, ao = some ad → ∀ k y, m[k]? = some y → ∀ j u, (E.enc y)[j]? = some u → w.cell? (ad.add (k * E.size + j)) = some u)
    (hby : 1 ≤ E.bytes) (hlen : (l.length + m.length) * E.bytes ≤ 140737488355328) (hb : base ≤ w.heap.size)
    (h : ∀ v' w', Row E w' base v' (l ++ m) → w.grownBy w' v.ownBlock → K (a.put o.dst v') w') : o.wp Tryz.prog a w K Q := by
  obtain ⟨i0, hi, hz0, hz1, hz2⟩ := info_parts E.info
  have h63 : l.length + m.length ≤ maxLen := by
    have : l.length + m.length ≤ (l.length + m.length) * E.bytes := Nat.le_mul_of_pos_right _ hby
    unfold maxLen; omega
  cases ao with
  | none =>
    obtain ⟨rfl, rfl⟩ := hnil rfl
    have hqs : m = [] := List.eq_nil_of_length_eq_zero hm
    subst hqs
    have hrun := run_append_owned_none (P := Tryz.prog) (w := w) base E.slice o.type E.elem i0 E.size E.under hi v l.length (E.flat l) hown
    unfold Oper.wp
    simp [execOp, ho, resolve, invoke, builtin, hs, hx, hrun, Result.andThen]
    exact h v w (by rw [List.append_nil]; exact hown) ⟨rfl, rfl, rfl, Nat.le_refl _, fun _ _ _ => rfl⟩
  | some ad =>
    refine wp_append_own w s x E.slice ho base E.elem i0 _ E.size E.bytes E.under hi hz0 hz1 hz2 E.zs E.pos v l.length _ hs hown ad n cap
      (E.flat m) hx (by rw [E.flat_len, hm]) ?_ ?_ (by rw [← hm]; exact h63) (by rw [← hm]; exact hlen) hb ?_
    · intro j u hu
      obtain ⟨y, h1, h2⟩ := E.flat_get hu
      have := hcell ad rfl _ y h1 _ u h2
      rwa [Nat.mul_comm, Nat.div_add_mod] at this
    · intro y hy
      simp only [EK.flat, List.mem_flatMap] at hy
      obtain ⟨p, hp, hy⟩ := hy
      exact E.one p y hy
    · intro v' w' h1 h2 _
      refine h v' w' ?_ h2
      show w'.ownsRow base E.elem E.size v' (l ++ m).length (E.flat (l ++ m))
      rw [List.length_append, E.flat_append, hm]
      exact h1
/-- .. as one step of a region that draws. -/
theorem step_appG {ops : Array Oper} {o : Oper} {a : Act} {K : Act → World → Prop} {Q : Exit → Act → World → Prop} {X : Prop} (hgd : o.guard = none) (E : EK α) (s x : Operand)
    (ho : o.op = .call { callee := .builtin .append, args := #[s, x], argTypes := #[E.slice, E.slice] })
    (base : Nat) (v : Value) (l m : List α) (hs : a.eval s = v) (hown : Row E w base v l) (ao : Option Addr) (n cap : Nat) (hx : a.eval x = .slice ao n cap) (hm : m.length = n) (hnil : ao = none → n = 0 ∧ cap = 0)
    (hcell : ∀ ad, ao = some ad → ∀ k y, m[k]? = some y → ∀ j u, (E.enc y)[j]? = some u → w.cell? (ad.add (k * E.size + j)) = some u)
    (hby : 1 ≤ E.bytes) (hlen : (l.length + m.length) * E.bytes ≤ 140737488355328) (hb : base ≤ w.heap.size)
    (h : ∀ v' w', Row E w' base v' (l ++ m) → w.grownBy w' v.ownBlock → K (a.put o.dst v') w') :
    if Region.wanted o (yielded ops a.tmps) = true then Oper.wp Tryz.prog o a w K Q else X := by
  have hw : Region.wanted o (yielded ops a.tmps) = true := by simp [Region.wanted, hgd]
  rw [if_pos hw]
  exact wp_appG E s x ho base v l m hs hown ao n cap hx hm hnil hcell hby hlen hb h
theorem wpList_appG {ops : Array Oper} {rest : List Oper} {o : Oper} {a : Act} {Q : Exit → Act → World → Prop} (hgd : o.guard = none) (E : EK α) (s x : Operand)
    (ho : o.op = .call { callee := .builtin .append, args := #[s, x], argTypes := #[E.slice, E.slice] })
    (base : Nat) (v : Value) (l m : List α) (hs : a.eval s = v) (hown : Row E w base v l) (ao : Option Addr) (n cap : Nat) (hx : a.eval x = .slice ao n cap) (hm : m.length = n) (hnil : ao = none → n = 0 ∧ cap = 0)
    (hcell : ∀ ad, ao = some ad → ∀ k y, m[k]? = some y → ∀ j u, (E.enc y)[j]? = some u → w.cell? (ad.add (k * E.size + j)) = some u)
    (hby : 1 ≤ E.bytes) (hlen : (l.length + m.length) * E.bytes ≤ 140737488355328) (hb : base ≤ w.heap.size)
    (h : ∀ v' w', Row E w' base v' (l ++ m) → w.grownBy w' v.ownBlock → wpList Tryz.prog ops Q rest (a.put o.dst v') w') : wpList Tryz.prog ops Q (o :: rest) a w :=
  wpList_plain hgd fun _ hK => wp_appG E s x ho base v l m hs hown ao n cap hx hm hnil hcell hby hlen hb fun v' w' h2 h3 => hK _ _ (h v' w' h2 h3)
end

/-- A copy of numbers: 'append([]int(nil), ..)': what is wanted of the list that is read. -/
theorem RdL.srcN {w : World} {ao : Option Addr} {n cap : Nat} {l : List Int} (h : RdL 1 NAt w (.slice ao n cap) l) : l.length = n ∧ (ao = none → n = 0 ∧ cap = 0) ∧ ∀ ad, ao = some ad → ∀ k y, l[k]? = some y → ∀ j u, (ekN.enc y)[j]? = some u → w.cell? (ad.add (k * ekN.size + j)) = some u := by
  obtain ⟨ao', n', cap', e, h1, _, _, h4, h5⟩ := h
  cases e
  refine ⟨h1, h4, fun ad had k y hy j u hu => ?_⟩
  have hj : j = 0 := by
    cases j with
    | zero => rfl
    | succ j => simp [ekN, encN] at hu
  subst hj
  have hu : u = .int .i64 y := by simpa [ekN, encN] using hu.symm
  subst hu
  have := h5 ad had k y hy
  simpa [NAt, ekN] using this

end L
end Go.Proofs.YtenlijgnmhdopaaGreatDoor
