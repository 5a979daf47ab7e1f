/- Appending to a slice of bytes that the call made; the contract of Put. -/
import Derived.Test.YtenlijgnmhdopaaWMem
import Derived.Laws.AppendOwnNone
namespace Go.Proofs.Ytenlijgnmhdopaa
open Go.RowKit

theorem info_u8 : (Try.prog.info? 5).map (fun i => (i.zero, i.size, i.bytes)) = some (some (.int .u8 0), 1, 1) := by kernel_rfl

theorem OwnB.base {w : World} {base : Nat} {v : Value} {l : List UInt8} (h : OwnB w base v l) : ∀ k, v.ownBlock = some k → base ≤ k := fun k hk => (World.ownsRow.lt h k hk).1

/-- 'append(v, x...)', v the call's own, x whatever can be read. -/
theorem wpList_appB {w : World} {ops : Array Oper} {rest : List Oper} {o : Oper} {a : Act} {Q : Exit → Act → World → Prop} (hgd : o.guard = none) (s x : Operand)
    (ho : o.op = .call { callee := .builtin .append, args := #[s, x], argTypes := #[23, 23] })
    (base : Nat) (v : Value) (l m : List UInt8) (hs : a.eval s = v) (hown : OwnB w base v l) (ao : Option Addr) (len cap : Nat) (hx : a.eval x = .slice ao len cap) (hr : RdA w ao len cap m)
    (hlen : l.length + m.length ≤ 140737488355328) (hb : base ≤ w.heap.size)
    (h : ∀ v' w', OwnB w' base v' (l ++ m) → Below base w w' → wpList Try.prog ops Q rest (a.put o.dst v') w') : wpList Try.prog ops Q (o :: rest) a w := by
  obtain ⟨i0, hi, hz0, hz1, hz2⟩ := info_parts info_u8
  obtain ⟨r1, r2, r3, r4, r5⟩ := hr
  cases ao with
  | none =>
    have hc0 := r4 rfl
    have hl0 : len = 0 := by omega
    subst hc0 hl0
    have hm : m = [] := List.eq_nil_of_length_eq_zero r1
    subst hm
    refine wpList_append_own_none hgd s x 23 ho base 5 i0 1 Try.underlying23 hi v l.length _ hs hown hx ?_
    exact h v w (by rw [List.append_nil]; exact hown) (Below.refl _ _)
  | some ad =>
    refine wpList_append_own w hgd s x 23 ho base 5 i0 (.int .u8 0) 1 1 Try.underlying23 hi hz0 hz1 hz2 rfl (by decide) v l.length _ hs hown ad len cap
      (m.map fun c => Value.int .u8 (c.toNat : Int)) hx (by simp [r1]) ?_ ?_ (by unfold maxLen; omega) (by omega) hb ?_
    · intro j u hj
      rw [List.getElem?_map] at hj
      cases hmj : m[j]? with
      | none => rw [hmj] at hj; cases hj
      | some c =>
        rw [hmj] at hj
        have hjl : j < m.length := by
          rcases Nat.lt_or_ge j m.length with h1 | h1
          · exact h1
          · rw [List.getElem?_eq_none h1] at hmj; cases hmj
        have := r5 ad rfl j (by omega)
        rw [this, List.getD_eq_getElem?_getD, hmj]
        exact hj
    · intro u hu
      rw [List.mem_map] at hu
      obtain ⟨c, _, rfl⟩ := hu
      rfl
    · intro v' w' h1 h2 _
      refine h v' w' ?_ ((Below.refl base w).grown h2 hb hown.base)
      show w'.ownsRow base _ 1 v' _ _
      rw [List.length_append, List.map_append, r1]
      exact h1

/-- 'append(v, c)': one byte, laid in a block of its own. -/
theorem wpList_app1 {w : World} {ops : Array Oper} {rest : List Oper} {o : Oper} {a : Act} {Q : Exit → Act → World → Prop} (hgd : o.guard = none) (s x : Operand)
    (ho : o.op = .call { callee := .builtin .append, args := #[s, x], argTypes := #[23, 23] })
    (base : Nat) (v : Value) (l : List UInt8) (c : UInt8) (hs : a.eval s = v) (hown : OwnB w base v l) (ad : Addr) (hx : a.eval x = .slice (some ad) 1 1) (hc : w.cell? ad = some (.int .u8 (c.toNat : Int)))
    (hlen : l.length + 1 ≤ 140737488355328) (hb : base ≤ w.heap.size)
    (h : ∀ v' w', OwnB w' base v' (l ++ [c]) → Below base w w' → wpList Try.prog ops Q rest (a.put o.dst v') w') : wpList Try.prog ops Q (o :: rest) a w := by
  refine wpList_appB hgd s x ho base v l [c] hs hown (some ad) 1 1 hx ⟨rfl, Nat.le_refl _, by unfold maxLen; omega, by simp, ?_⟩ (by simpa using hlen) hb h
  intro y hy i hi
  cases hy
  have : i = 0 := by omega
  subst this
  simpa [Addr.add] using hc

theorem OwnB.alloc {w : World} {base : Nat} {v : Value} {l : List UInt8} (h : OwnB w base v l) (o : Obj) : OwnB (w.alloc o) base v l := World.ownsRow.alloc h o

/-- what a round of Put does, outside the walk -/
theorem put_f2 {f m : Nat} (hf : m < 2 ^ (7 * f)) (hs : ¬ m < 128) : 2 ≤ f := by
  rcases Nat.lt_or_ge f 2 with h | h
  · have h1 : 2 ^ (7 * f) ≤ 2 ^ 7 := Nat.pow_le_pow_right (by decide) (by omega)
    have h2 : (2 : Nat) ^ 7 = 128 := rfl
    omega
  · exact h
theorem put_down {f m : Nat} (hf : m < 2 ^ (7 * (f + 1))) : m / 128 < 2 ^ (7 * f) := by
  rw [show 7 * (f + 1) = 7 * f + 7 by omega, Nat.pow_add] at hf
  have h2 : (2 : Nat) ^ 7 = 128 := rfl
  rw [h2] at hf
  omega

set_option maxHeartbeats 1000000 in
set_option maxRecDepth 100000 in
theorem put_any (base : Nat) (v : Value) (l : List UInt8) (n : Nat) (w : World) (hv : OwnB w base v l) (hb : base ≤ w.heap.size) (hn : n ≤ 18446744073709551615) (hl : l.length ≤ 1000000) :
    Calls Try.prog 8 #[v, .int .u64 (n : Int)] w fun e w' => ∃ v', e = .returned v' ∧ OwnB w' base v' (l ++ putN n) ∧ Below base w w' := by
  have H0 : Hid (l ++ putF 10 n = l ++ putN n) := rfl
  go_enter Try.func8, Try.ntmps8
  go_wp2
  go_loopw [0, 1] (fun u i wr => ∃ (f m : Nat) (l' : List UInt8), i = .int .u64 (m : Int) ∧ m ≤ 18446744073709551615 ∧ Hid (m < 2 ^ (7 * (f + 1))) ∧ f ≤ 9 ∧ l'.length + f ≤ l.length + 10 ∧ OwnB wr base u l' ∧ Below base w wr ∧ base ≤ wr.heap.size ∧ Hid (l' ++ putF (f + 1) m = l ++ putN n))
    (fun _ i _ => (intOf i).toNat)
  case atStart => exact ⟨9, n, l, rfl, hn, by show n < 2 ^ (7 * 10); omega, Nat.le_refl _, by omega, hv, Below.refl _ _, hb, H0⟩
  case round =>
    obtain ⟨f, m, l', rfl, hm, hf, hf10, hlen, hown, hnx, hbs, HR⟩ := hrel
    by_cases hs : m < 128
    · go_wp2_with (at_builtin; refine wpList_app1 rfl _ _ rfl base _ l' (UInt8.ofNat m) rfl (hown.alloc _) ⟨wr.heap.size, 0, none⟩ rfl ?c1 ?c2 ?c3 ?_)
      case c1 =>
        simp
        omega
      case c2 => omega
      case c3 => simp; omega
      intro v' w1 h1 h2
      go_wp2
      go_ret
      refine ⟨v', rfl, ?_, (hnx.alloc hbs _).trans h2⟩
      rw [← HR.out, putF_end hs]
      exact h1
    · obtain ⟨c, Hc⟩ : ∃ c, Hid (c = UInt8.ofNat (m % 128 + 128)) := ⟨_, rfl⟩
      go_wp2_with (at_builtin; refine wpList_app1 rfl _ _ rfl base _ l' c rfl (hown.alloc _) ⟨wr.heap.size, 0, none⟩ rfl ?d1 ?d2 ?d3 ?_)
      case d1 =>
        rw [Hc.out, ← put_more, IntKind.wrap_u8]
        simp
      case d2 => omega
      case d3 => simp; omega
      intro v' w1 h1 h2
      go_wp2
      go_roundw
      case rel =>
        have hf2 := put_f2 hf.out hs
        obtain ⟨g, rfl⟩ : ∃ g, f = g + 1 := ⟨f - 1, by omega⟩
        refine ⟨g, m / 128, l' ++ [c], by go_num, by omega, put_down hf.out, by omega, by simp; omega, h1, (hnx.alloc hbs _).trans h2, by have := h2.size; simp at this; omega, ?_⟩
        show _ = _
        rw [← HR.out, putF_go hs, List.append_assoc, Hc.out]
        rfl
      case measure => simp [intOf]; omega

end Go.Proofs.Ytenlijgnmhdopaa
