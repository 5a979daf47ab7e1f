/- The contract of Parse. -/
import Derived.Test.YtenlijgnmhdopaaWRecord
namespace Go.Proofs.Ytenlijgnmhdopaa
open Go.RowKit

def recCells (p : Rcd × Value) : List Value := [.int .i64 p.1.num, .int .i64 p.1.how, .int .u64 (p.1.bits : Int), p.2]
def flat (ps : List (Rcd × Value)) : List Value := ps.flatMap recCells

/-- A slice of records that the call itself made. -/
def OwnR (w : World) (base : Nat) (v : Value) (ps : List (Rcd × Value)) : Prop :=
  w.ownsRow base 53 4 v ps.length (flat ps) ∧ ∀ p ∈ ps, OwnB w base p.2 p.1.bytes ∧ p.1.wf

theorem OwnR.nil (w : World) (base : Nat) : OwnR w base (.slice none 0 0) [] := ⟨World.ownsRow_nil _ _ _ _, fun p hp => by cases hp⟩

theorem flat_len (ps : List (Rcd × Value)) : (flat ps).length = ps.length * 4 := by
  unfold flat
  induction ps with
  | nil => rfl
  | cons p r ih => rw [List.flatMap_cons, List.length_append, ih, List.length_cons]; simp [recCells]; omega

theorem flat_at (ps : List (Rcd × Value)) (i : Nat) (p : Rcd × Value) (h : ps[i]? = some p) :
    (flat ps)[i * 4]? = some (.int .i64 p.1.num) ∧ (flat ps)[i * 4 + 1]? = some (.int .i64 p.1.how) ∧ (flat ps)[i * 4 + 2]? = some (.int .u64 (p.1.bits : Int)) ∧ (flat ps)[i * 4 + 3]? = some p.2 := by
  unfold flat
  induction ps generalizing i with
  | nil => simp at h
  | cons q r ih =>
    rw [List.flatMap_cons]
    cases i with
    | zero =>
      simp at h
      subst h
      simp [recCells]
    | succ i =>
      have h' : r[i]? = some p := by simpa using h
      have := ih i h'
      rw [show (i + 1) * 4 = (recCells q).length + i * 4 by simp [recCells]; omega]
      simp only [Nat.add_assoc, List.getElem?_append_right (Nat.le_add_right _ _), Nat.add_sub_cancel_left]
      exact this

theorem OwnB.ne_row {w : World} {base base' : Nat} {sv v : Value} {l : List UInt8} {n : Nat} {xs : List Value} (h : OwnB w base sv l) (h' : w.ownsRow base' 53 4 v n xs) : sv.ownBlock = none ∨ sv.ownBlock ≠ v.ownBlock := by
  rcases h.2 with ⟨hv, _⟩ | ⟨g, cap, cur, hv, _, hg, _⟩
  · left; rw [hv]; rfl
  · rcases h'.2 with ⟨hv', _⟩ | ⟨g', cap', cur', hv', _, hg', _⟩
    · right; rw [hv, hv']; simp [Value.ownBlock]
    · right
      rw [hv, hv']
      simp only [Value.ownBlock, ne_eq, Option.some.injEq]
      intro e
      rw [e, hg'] at hg
      simp at hg

theorem OwnR.keptB {w w' : World} {base : Nat} {v : Value} {ps : List (Rcd × Value)} (h : OwnR w base v ps) (hb : Below w.heap.size w w') : OwnR w' base v ps := by
  refine ⟨⟨h.1.1, ?_⟩, fun p hp => ⟨(h.2 p hp).1.keptB hb, (h.2 p hp).2⟩⟩
  rcases h.1.2 with hn | ⟨g, cap, cur, hv, hbg, hg, r⟩
  · exact .inl hn
  · exact .inr ⟨g, cap, cur, hv, hbg, by rw [hb.block g (Array.getElem?_eq_some_iff.1 hg).1]; exact hg, r⟩

theorem e_add (b o i : Nat) : (⟨b, o, none⟩ : Addr).add i = ⟨b, o + i, none⟩ := by unfold Addr.add; split <;> simp_all

theorem OwnR.rd {w : World} {base : Nat} {v : Value} {ps : List (Rcd × Value)} (h : OwnR w base v ps) : ∃ ao len cap, v = .slice ao len cap ∧ RdR w ao len cap (ps.map Prod.fst) := by
  obtain ⟨h1, h2⟩ := h
  have hwf : ∀ r ∈ ps.map Prod.fst, r.wf := by
    intro r hr
    rw [List.mem_map] at hr
    obtain ⟨p, hp, rfl⟩ := hr
    exact (h2 p hp).2
  rcases h1.2 with ⟨hv, hn⟩ | ⟨g, cap, cur, hv, hb, hg, hn, hm, hs, ht⟩
  · have : ps = [] := List.eq_nil_of_length_eq_zero hn
    subst this
    exact ⟨none, 0, 0, hv, rfl, Nat.le_refl _, by unfold maxLen; omega, fun _ => rfl, fun r hr => by simp at hr, fun x hx => by cases hx⟩
  · refine ⟨some ⟨g, 0, none⟩, ps.length, cap, hv, by simp, hn, hm, by simp, hwf, ?_⟩
    intro x hx i r hr
    cases hx
    rw [List.getElem?_map] at hr
    cases hp : ps[i]? with
    | none => rw [hp] at hr; cases hr
    | some p =>
      rw [hp] at hr
      cases hr
      obtain ⟨ao, len, cap', hsv, hrd⟩ := (h2 p (List.mem_of_getElem? hp)).1.rd
      obtain ⟨f0, f1, f2, f3⟩ := flat_at ps i p hp
      have hc := World.ownsRow.cells h1 (g := g) (by rw [hv]; rfl)
      refine ⟨ao, len, cap', hc _ _ f0, ?_, ?_, ?_, hrd⟩
      · rw [add_add]; exact hc _ _ f1
      · rw [add_add]; exact hc _ _ f2
      · rw [add_add, ← hsv]; exact hc _ _ f3

theorem info_rec : (Try.prog.info? 53).map (fun i => (i.zero, i.size, i.bytes)) = some (some (.agg #[.int .i64 0, .int .i64 0, .int .u64 0, .slice none 0 0]), 4, 48) := by kernel_rfl

theorem flat_snoc (ps : List (Rcd × Value)) (p : Rcd × Value) : flat (ps ++ [p]) = flat ps ++ recCells p := by simp [flat]

/-- 'append(v, r)': one record, laid in a block of its own. -/
theorem wpList_appR {w : World} {ops : Array Oper} {rest : List Oper} {o : Oper} {a : Act} {Q : Exit → Act → World → Prop} (hgd : o.guard = none) (s x : Operand)
    (ho : o.op = .call { callee := .builtin .append, args := #[s, x], argTypes := #[32, 32] })
    (base : Nat) (v : Value) (ps : List (Rcd × Value)) (p : Rcd × Value) (hs : a.eval s = v) (hown : OwnR w base v ps) (hp : OwnB w base p.2 p.1.bytes) (hwf : p.1.wf) (g : Nat) (hx : a.eval x = .slice (some ⟨g, 0, none⟩) 1 1)
    (hc : w.cell? ⟨g, 0, none⟩ = some (.int .i64 p.1.num) ∧ w.cell? ⟨g, 1, none⟩ = some (.int .i64 p.1.how) ∧ w.cell? ⟨g, 2, none⟩ = some (.int .u64 (p.1.bits : Int)) ∧ w.cell? ⟨g, 3, none⟩ = some p.2)
    (hlen : ps.length + 1 ≤ 1000000) (hb : base ≤ w.heap.size)
    (h : ∀ v' w', OwnR w' base v' (ps ++ [p]) → Below base w w' → wpList Try.prog ops Q rest (a.put o.dst v') w') : wpList Try.prog ops Q (o :: rest) a w := by
  obtain ⟨i0, hi, hz0, hz1, hz2⟩ := info_parts info_rec
  obtain ⟨c0, c1, c2, c3⟩ := hc
  obtain ⟨ao, len, cap, hsv, _⟩ := hp.rd
  refine wpList_append_own w hgd s x 32 ho base 53 i0 _ 4 48 Try.underlying32 hi hz0 hz1 hz2 rfl (by decide) v ps.length _ hs hown.1 ⟨g, 0, none⟩ 1 1
    (recCells p) hx rfl ?_ ?_ (by unfold maxLen; omega) (by omega) hb ?_
  · intro j u hj
    rw [e_add]
    match j, hj with
    | 0, hj => simp [recCells] at hj; subst hj; exact c0
    | 1, hj => simp [recCells] at hj; subst hj; exact c1
    | 2, hj => simp [recCells] at hj; subst hj; exact c2
    | 3, hj => simp [recCells] at hj; subst hj; exact c3
    | j + 4, hj => simp [recCells] at hj
  · intro u hu
    simp only [recCells, List.mem_cons, List.mem_nil_iff, or_false] at hu
    rcases hu with rfl | rfl | rfl | rfl
    · rfl
    · rfl
    · rfl
    · rw [hsv]; rfl
  · intro v' w' h1 h2 _
    refine h v' w' ⟨?_, ?_⟩ ((Below.refl base w).grown h2 hb (fun k hk => (World.ownsRow.lt hown.1 k hk).1))
    · rw [List.length_append, flat_snoc]; exact h1
    · intro q hq
      rw [List.mem_append, List.mem_singleton] at hq
      rcases hq with hq | rfl
      · exact ⟨World.ownsRow.kept (hown.2 q hq).1 h2 ((hown.2 q hq).1.ne_row hown.1), (hown.2 q hq).2⟩
      · exact ⟨World.ownsRow.kept hp h2 (hp.ne_row hown.1), hwf⟩

end Go.Proofs.Ytenlijgnmhdopaa
