import Derived.Test.YtenlijgnmhdopaaGreatDoorProg
import Derived.RowKit
import Derived.Test.YtenlijgnmhdopaaGreatDoorSPure
import Derived.WalkKit
import Derived.WalkSpells
import Derived.WalkLawsBesides
import Derived.Lib.Strings
import Derived.BigQuiet
import Derived.Deep.QuietTactic
import Derived.Deep.RegionWith
import Derived.OwnWalk
import Derived.Laws.OwnMore
import Derived.Laws.Rows
import Derived.Deep.LoopGhost
import Derived.Deep.RegionLaw
/- For package link: the contracts of the small functions of package syntax that look at bytes. -/
namespace Go.Proofs.YtenlijgnmhdopaaGreatDoor
namespace L
open Go.RowKit

theorem ret_int {k : IntKind} {a b : Int} (h : a = b) : Ending.returned (.int k a) = .returned (.int k b) := by rw [h]
theorem ret_bool {a b : Bool} (h : a = b) : Ending.returned (.bool a) = .returned (.bool b) := by rw [h]

/-- A text of these bytes. -/
def S (l : List UInt8) : ByteArray := ⟨l.toArray⟩
theorem S_size (l : List UInt8) : (S l).size = l.length := by simp [S, ByteArray.size]
theorem S_list (l : List UInt8) : (S l).toList = l := by
  rw [ByteArray.toList_eq]; simp [S]
theorem S_inj {a b : List UInt8} (h : S a = S b) : a = b := by
  have := congrArg (fun x => x.data.toList) h; simpa [S] using this

set_option maxHeartbeats 1000000 in
theorem isLetter_any (c : UInt8) (w : World) : Calls Tryz.prog 79 #[.int .u8 (c.toNat : Int)] w fun e w' => e = .returned (.bool (letB c)) ∧ w = w' := by
  obtain ⟨X, HX⟩ : ∃ X : Nat, Hid (X = c.toNat) := ⟨_, rfl⟩
  have HL : Hid (letB c = ((decide (97 ≤ X) && decide (X ≤ 122)) || (decide (65 ≤ X) && decide (X ≤ 90)))) := by show _ = _; rw [HX.out]; rfl
  have hX : X < 256 := by rw [HX.out]; exact UInt8.toNat_lt _
  rw [← HX.out, HL.out]
  clear HX HL
  by_cases h1 : 97 ≤ X
  · by_cases h2 : X ≤ 122
    · go_enter Tryz.func79, Tryz.ntmps79
      go_wp2
      all_goals (go_ret; refine ⟨ret_bool ?_, rfl⟩; (try rw [Bool.eq_iff_iff]); (try simp); (try omega))
    · go_enter Tryz.func79, Tryz.ntmps79
      go_wp2
      all_goals (go_ret; refine ⟨ret_bool ?_, rfl⟩; (try rw [Bool.eq_iff_iff]); (try simp); (try omega))
  · go_enter Tryz.func79, Tryz.ntmps79
    go_wp2
    all_goals (go_ret; refine ⟨ret_bool ?_, rfl⟩; (try rw [Bool.eq_iff_iff]); (try simp); (try omega))

set_option maxHeartbeats 1000000 in
theorem isDigit_any (c : UInt8) (w : World) : Calls Tryz.prog 80 #[.int .u8 (c.toNat : Int)] w fun e w' => e = .returned (.bool (digB c)) ∧ w = w' := by
  obtain ⟨X, HX⟩ : ∃ X : Nat, Hid (X = c.toNat) := ⟨_, rfl⟩
  have HL : Hid (digB c = (decide (48 ≤ X) && decide (X ≤ 57))) := by show _ = _; rw [HX.out]; rfl
  have hX : X < 256 := by rw [HX.out]; exact UInt8.toNat_lt _
  rw [← HX.out, HL.out]
  clear HX HL
  by_cases h1 : 48 ≤ X
  · go_enter Tryz.func80, Tryz.ntmps80
    go_wp2
    all_goals (go_ret; refine ⟨ret_bool ?_, rfl⟩; (try rw [Bool.eq_iff_iff]); (try simp); (try omega))
  · go_enter Tryz.func80, Tryz.ntmps80
    go_wp2
    all_goals (go_ret; refine ⟨ret_bool ?_, rfl⟩; (try rw [Bool.eq_iff_iff]); (try simp); (try omega))

theorem S_get (l : List UInt8) (k : Nat) (h : k < (S l).size) : (S l)[k]'h = l.getD k 0 := by
  have hk : k < l.length := by rw [← S_size]; exact h
  have e : (S l)[k]'h = l[k]'hk := rfl
  rw [e]; simp [hk]
theorem to_S (l : List UInt8) (k : Nat) (hk : k ≤ l.length) (w : World) : (Instr.slice 9 (.string (S l)) none (some (.int .i64 (k : Int))) none).run Tryz.prog w = .ok (.string (S (l.take k))) w := by
  rw [run_slice_string_h (ht := Tryz.underlying9) (h0 := by omega) (h2 := by rw [S_size]; omega)]
  rw [Lib.extract_eq]; simp [S]
theorem from_S (l : List UInt8) (k : Nat) (hk : k ≤ l.length) (w : World) : (Instr.slice 9 (.string (S l)) (some (.int .i64 (k : Int))) none none).run Tryz.prog w = .ok (.string (S (l.drop k))) w := by
  rw [run_slice_string_l (ht := Tryz.underlying9) (h0 := by omega) (h1 := by rw [S_size]; omega)]
  rw [Lib.extract_eq]; simp [S, ByteArray.size]; exact List.take_of_length_le (by simp)
theorem tw_step {p : UInt8 → Bool} {l : List UInt8} {k : Nat} (hlt : k < l.length) (h : p (l.getD k 0) = true) : ((l.drop k).takeWhile p).length = 1 + ((l.drop (k + 1)).takeWhile p).length := by
  have e : l.getD k 0 = l[k] := by simp [hlt]
  rw [List.drop_eq_getElem_cons hlt, List.takeWhile_cons, if_pos (by rw [← e]; exact h)]; simp; omega
theorem tw_stop {p : UInt8 → Bool} {l : List UInt8} {k : Nat} (hlt : k < l.length) (h : p (l.getD k 0) = false) : ((l.drop k).takeWhile p).length = 0 := by
  have e : l.getD k 0 = l[k] := by simp [hlt]
  rw [List.drop_eq_getElem_cons hlt, List.takeWhile_cons, if_neg (by rw [← e, h]; simp)]; rfl
theorem S_nil : S [] = { data := #[] } := rfl

set_option maxHeartbeats 1000000 in
set_option maxRecDepth 100000 in
theorem wordLength_any (l : List UInt8) (hl : l.length ≤ 9223372036854775807) (w : World) : Calls Tryz.prog 49 #[.string (S l)] w fun e w' => e = .returned (.int .i64 (wordLenL l : Int)) ∧ w = w' := by
  have hsz := S_size l
  have hli := S_list l
  cases l with
  | nil =>
    go_enter Tryz.func49, Tryz.ntmps49
    go_wp2
    go_ret
    exact ⟨rfl, rfl⟩
  | cons c r =>
    have hem : (S (c :: r)).toList.isEmpty = false := by rw [S_list]; rfl
    by_cases h0 : letB c = true
    · have HW : Hid (wordLenL (c :: r) = 1 + ((c :: r).drop 1 |>.takeWhile moreB).length) := by show _ = _; simp [wordLenL, h0]
      have hL : ∀ h, letB ((S (c :: r))[0]'h) = true := by intro h; rw [S_get]; exact h0
      obtain ⟨l, Hl⟩ : ∃ l, Hid (l = c :: r) := ⟨_, rfl⟩
      rw [← Hl.out] at HW hL hem hli hsz hl ⊢
      have hlen : 1 ≤ l.length := by rw [Hl.out]; simp
      clear Hl h0 hli
      go_enter Tryz.func49, Tryz.ntmps49
      go_wp2_with fail
      refine (isLetter_any _ _).mono ?_
      rintro e w1 ⟨rfl, rfl⟩
      rw [hL]
      clear hL
      go_wp2
      go_loop [3] (fun n => ∃ k : Nat, 1 ≤ k ∧ k ≤ l.length ∧ n = .int .i64 k ∧ Hid (wordLenL l = k + ((l.drop k).takeWhile moreB).length)) (fun n => l.length - (intOf n).toNat)
      case atStart => exact ⟨1, Nat.le_refl _, hlen, rfl, HW⟩
      case round =>
        obtain ⟨k, hk1, hk, rfl, HR⟩ := hrel
        by_cases hlt : k < l.length
        · have hx : ∀ h, (S l)[k]'h = l.getD k 0 := S_get l k
          obtain ⟨x, Hx⟩ : ∃ x, Hid (x = l.getD k 0) := ⟨_, rfl⟩
          have hx' : ∀ h, (S l)[k]'h = x := by intro h; rw [S_get, Hx.out]
          clear hx
          go_wp2_with fail
          refine (isLetter_any _ _).mono ?_
          rintro e w1 ⟨rfl, rfl⟩
          by_cases h1 : letB x = true
          · rw [h1]
            go_wp2
            go_round
            case rel => exact ⟨k + 1, by omega, by omega, by go_num, by show _ = _; rw [HR.out, tw_step hlt (by rw [← Hx.out]; simp [moreB, h1])]; omega⟩
            case measure => simp [intOf]; omega
          · rw [Bool.eq_false_iff.2 h1]
            go_wp2_with fail
            refine (isDigit_any _ _).mono ?_
            rintro e w1 ⟨rfl, rfl⟩
            by_cases h2 : digB x = true
            · rw [h2]
              go_wp2
              go_round
              case rel => exact ⟨k + 1, by omega, by omega, by go_num, by show _ = _; rw [HR.out, tw_step hlt (by rw [← Hx.out]; simp [moreB, h2])]; omega⟩
              case measure => simp [intOf]; omega
            · rw [Bool.eq_false_iff.2 h2]
              by_cases h3 : x.toNat = 95
              · have h3' : ((x.toNat : Int) == 95) = true := beq_iff_eq.2 (by omega)
                go_wp2
                go_round
                case rel => exact ⟨k + 1, by omega, by omega, by go_num, by show _ = _; rw [HR.out, tw_step hlt (by rw [← Hx.out]; simp [moreB, h3])]; omega⟩
                case measure => simp [intOf]; omega
              · have h3' : ((x.toNat : Int) == 95) = false := beq_eq_false_iff_ne.2 (by omega)
                have h4 : moreB x = false := by simp [moreB, Bool.eq_false_iff.2 h1, Bool.eq_false_iff.2 h2, h3]
                go_wp2
                go_ret
                refine ⟨ret_int ?_, rfl⟩
                rw [HR.out, tw_stop hlt (by rw [← Hx.out]; exact h4)]
                simp
        · go_wp2
          go_ret
          refine ⟨ret_int ?_, rfl⟩
          rw [HR.out, List.drop_eq_nil_of_le (by omega)]
          simp
    · have hL : ∀ h, letB ((S (c :: r))[0]'h) = false := by intro h; rw [S_get]; exact Bool.eq_false_iff.2 h0
      have HW : Hid (wordLenL (c :: r) = 0) := by show _ = _; simp [wordLenL, h0]
      go_enter Tryz.func49, Tryz.ntmps49
      go_wp2_with fail
      refine (isLetter_any _ _).mono ?_
      rintro e w1 ⟨rfl, rfl⟩
      rw [hL]
      clear hL
      go_wp2
      go_ret
      exact ⟨ret_int (by rw [HW.out]; rfl), rfl⟩


end L
end Go.Proofs.YtenlijgnmhdopaaGreatDoor

/- For package link: lists that a call makes; what lies in a block. -/
namespace Go.Proofs.YtenlijgnmhdopaaGreatDoor
namespace L
open Go.RowKit

/-- A kind of list: its element's type, how an entry lies in memory. -/
structure EK (α : Type) where
  elem : TypeId
  slice : TypeId
  size : Nat
  bytes : Nat
  zero : Value
  enc : α → List Value
  under : Tryz.prog.underlying slice = some (.slice elem)
  info : (Tryz.prog.info? elem).map (fun i => (i.zero, i.size, i.bytes)) = some (some zero, size, bytes)
  zs : zero.cells.size = size
  pos : 0 < size
  small : bytes ≤ 1000
  len : ∀ a, (enc a).length = size
  one : ∀ a, ∀ u ∈ enc a, u.oneCell' = true

def EK.flat {α : Type} (E : EK α) (l : List α) : List Value := l.flatMap E.enc
theorem EK.flat_len {α : Type} (E : EK α) (l : List α) : (E.flat l).length = l.length * E.size := by
  unfold EK.flat
  induction l with
  | nil => simp
  | cons a r ih => rw [List.flatMap_cons, List.length_append, ih, E.len, List.length_cons, Nat.succ_mul, Nat.add_comm]
theorem EK.flat_append {α : Type} (E : EK α) (l m : List α) : E.flat (l ++ m) = E.flat l ++ E.flat m := by simp [EK.flat]
theorem EK.flat_at {α : Type} (E : EK α) (l : List α) (i j : Nat) (a : α) (h : l[i]? = some a) (hj : j < E.size) : (E.flat l)[i * E.size + j]? = (E.enc a)[j]? := by
  unfold EK.flat
  induction l generalizing i with
  | nil => simp at h
  | cons q r ih =>
    rw [List.flatMap_cons]
    cases i with
    | zero =>
      simp at h
      subst h
      rw [Nat.zero_mul, Nat.zero_add, List.getElem?_append_left (by rw [E.len]; exact hj)]
    | succ i =>
      have h' : r[i]? = some a := by simpa using h
      rw [← ih i h', show (i + 1) * E.size + j = (E.enc q).length + (i * E.size + j) by rw [E.len, Nat.succ_mul]; omega,
        List.getElem?_append_right (Nat.le_add_right _ _), Nat.add_sub_cancel_left]

/-- A list that the call itself made, from block base on. -/
def Row {α : Type} (E : EK α) (w : World) (base : Nat) (v : Value) (l : List α) : Prop := w.ownsRow base E.elem E.size v l.length (E.flat l)

section
variable {α : Type} {E : EK α} {w w' : World} {base b : Nat} {v : Value} {l : List α}
theorem Row.nil (E : EK α) (w : World) (base : Nat) : Row E w base (.slice none 0 0) [] := World.ownsRow_nil _ _ _ _
theorem Row.keep (h : Row E w base v l) (hb : ∀ k, base ≤ k → k < w.heap.size → w'.heap[k]? = w.heap[k]?) : Row E w' base v l := by
  refine ⟨h.1, ?_⟩
  rcases h.2 with hn | ⟨g, cap, cur, hv, hbg, hg, r⟩
  · exact .inl hn
  · exact .inr ⟨g, cap, cur, hv, hbg, by rw [hb g hbg (Array.getElem?_eq_some_iff.1 hg).1]; exact hg, r⟩
theorem Row.below (h : Row E w base v l) (hk : Below w.heap.size w w') : Row E w' base v l := h.keep fun k _ h2 => hk.block k h2
theorem Row.mono {base' : Nat} (h : Row E w base v l) (hb : base' ≤ base) : Row E w base' v l := by
  refine ⟨h.1, ?_⟩
  rcases h.2 with hn | ⟨g, cap, cur, hv, hbg, r⟩
  · exact .inl hn
  · exact .inr ⟨g, cap, cur, hv, Nat.le_trans hb hbg, r⟩
theorem Row.own (h : Row E w base v l) : ∀ k, v.ownBlock = some k → base ≤ k ∧ k < w.heap.size := World.ownsRow.lt h
theorem Row.ne {β : Type} {F : EK β} {base' : Nat} {v' : Value} {l' : List β} (h : Row E w base v l) (h' : Row F w base' v' l') (hne : E.elem ≠ F.elem) : v.ownBlock = none ∨ v.ownBlock ≠ v'.ownBlock := by
  rcases h.2 with ⟨hv, _⟩ | ⟨g, cap, cur, hv, _, hg, _⟩
  · left; rw [hv]; rfl
  · rcases h'.2 with ⟨hv', _⟩ | ⟨g', cap', cur', hv', _, hg', _⟩
    · right; rw [hv, hv']; simp [Value.ownBlock]
    · right
      rw [hv, hv']
      simp only [Value.ownBlock, ne_eq, Option.some.injEq]
      intro e
      rw [e, hg'] at hg
      simp at hg
      exact hne hg.2.symm
theorem Row.grown {row : Option Nat} (h : Row E w base v l) (hg : w.grownBy w' row) (hne : v.ownBlock = none ∨ v.ownBlock ≠ row) : Row E w' base v l := World.ownsRow.kept h hg hne
theorem Row.shape (h : Row E w base v l) : ∃ ao cap, v = .slice ao l.length cap := by
  rcases h.2 with ⟨hv, hn⟩ | ⟨g, cap, cur, hv, _⟩
  · exact ⟨none, 0, by rw [hv, hn]⟩
  · exact ⟨_, cap, hv⟩
theorem Row.one (E : EK α) (w : World) (a : α) (hb : base ≤ w.heap.size) : Row E (w.alloc (.cells (E.enc a).toArray E.elem)) base (.slice (some ⟨w.heap.size, 0, none⟩) 1 1) [a] := by
  refine ⟨E.flat_len [a], .inr ⟨w.heap.size, 1, _, rfl, hb, heap_alloc_new w _, Nat.le_refl _, by unfold maxLen; omega, by simp [E.len], ?_⟩⟩
  have : (E.enc a).length = ([a] : List α).length * E.size := by rw [E.len]; simp
  simp only [EK.flat, List.flatMap_cons, List.flatMap_nil, List.append_nil]
  rw [← this]
  simp

/-- 'append(v, u...)', v the call's own, u a list that some call made. -/
theorem wp_app {o : Oper} {a : Act} {K : Act → World → Prop} {Q : Exit → Act → World → Prop} (E : EK α) (s x : Operand)
    (ho : o.op = .call { callee := .builtin .append, args := #[s, x], argTypes := #[E.slice, E.slice] })
    (base : Nat) (v : Value) (l m : List α) (hs : a.eval s = v) (hown : Row E w base v l) (base' : Nat) (u : Value) (hx : a.eval x = u) (hsrc : Row E w base' u m)
    (hlen : l.length + m.length ≤ 1000000) (hb : base ≤ w.heap.size)
    (h : ∀ v' w', Row E w' base v' (l ++ m) → w.grownBy w' v.ownBlock → K (a.put o.dst v') w') : o.wp Tryz.prog a w K Q := by
  obtain ⟨i0, hi, hz0, hz1, hz2⟩ := info_parts E.info
  rcases hsrc.2 with ⟨hu, hn⟩ | ⟨g, cap, cur, hu, hbg, hg, hn, hm, hsz, ht⟩
  · have hqs : m = [] := List.eq_nil_of_length_eq_zero hn
    subst hqs
    have hrun := run_append_owned_none (P := Tryz.prog) (w := w) base E.slice o.type E.elem i0 E.size E.under hi v l.length (E.flat l) hown
    rw [hu] at hx
    unfold Oper.wp
    simp [execOp, ho, resolve, invoke, builtin, hs, hx, hrun, Result.andThen]
    exact h v w (by rw [List.append_nil]; exact hown) ⟨rfl, rfl, rfl, Nat.le_refl _, fun _ _ _ => rfl⟩
  · rw [hu] at hx
    refine wp_append_own w s x E.slice ho base E.elem i0 _ E.size E.bytes E.under hi hz0 hz1 hz2 E.zs E.pos v l.length _ hs hown ⟨g, 0, none⟩ m.length cap
      (E.flat m) hx (E.flat_len m) (World.ownsRow.cells hsrc (g := g) (by rw [hu]; rfl)) ?_ (by unfold maxLen; omega) ?_ hb ?_
    · intro y hy
      simp only [EK.flat, List.mem_flatMap] at hy
      obtain ⟨p, hp, hy⟩ := hy
      exact E.one p y hy
    · exact Nat.le_trans (Nat.mul_le_mul hlen E.small) (by decide)
    · intro v' w' h1 h2 _
      refine h v' w' ?_ h2
      show w'.ownsRow base E.elem E.size v' (l ++ m).length (E.flat (l ++ m))
      rw [List.length_append, E.flat_append]
      exact h1
theorem wpList_app {ops : Array Oper} {rest : List Oper} {o : Oper} {a : Act} {Q : Exit → Act → World → Prop} (hgd : o.guard = none) (E : EK α) (s x : Operand)
    (ho : o.op = .call { callee := .builtin .append, args := #[s, x], argTypes := #[E.slice, E.slice] })
    (base : Nat) (v : Value) (l m : List α) (hs : a.eval s = v) (hown : Row E w base v l) (base' : Nat) (u : Value) (hx : a.eval x = u) (hsrc : Row E w base' u m)
    (hlen : l.length + m.length ≤ 1000000) (hb : base ≤ w.heap.size)
    (h : ∀ v' w', Row E w' base v' (l ++ m) → w.grownBy w' v.ownBlock → wpList Tryz.prog ops Q rest (a.put o.dst v') w') : wpList Tryz.prog ops Q (o :: rest) a w :=
  wpList_plain hgd fun _ hK => wp_app E s x ho base v l m hs hown base' u hx hsrc hlen hb fun v' w' h2 h3 => hK _ _ (h v' w' h2 h3)
end

def wordCells : Array Value := (wordsL.map fun l => Value.string (S l)).toArray
set_option maxHeartbeats 1000000 in
theorem words_any (w : World) : Calls Tryz.prog 50 #[] w fun e w' => e = .returned (.slice (some ⟨w.heap.size, 0, none⟩) 9 9) ∧ w.alloc (.cells wordCells 9) = w' := by
  go_enter Tryz.func50, Tryz.ntmps50
  go_wp2
  go_ret
  exact ⟨rfl, rfl⟩
theorem wordCells_at (k : Nat) (hk : k < 9) : wordCells[k]? = some (.string (S (wordsL.getD k []))) := by
  have : k < wordsL.length := hk
  simp [wordCells, this]
theorem cell_of_blk {w : World} {g : Nat} {cs : Array Value} {t : TypeId} {fr : Nat × Nat} (h : w.heap[g]? = some (.cells cs t fr)) (i : Nat) (v : Value) (hi : cs[i]? = some v) : w.cell? ⟨g, i, none⟩ = some v := by
  simp [World.cell?, h, hi]
theorem fr_of_blk {w : World} {g : Nat} {cs : Array Value} {t : TypeId} (h : w.heap[g]? = some (.cells cs t (0, 0))) (i : Nat) : w.frozen? ⟨g, i, none⟩ = false := by
  simp [World.frozen?, h]
theorem alloc2_new (w : World) (o o' : Obj) : ((w.alloc o).alloc o').heap[w.heap.size + 1]? = some o' := by
  have := heap_alloc_new (w.alloc o) o'
  rwa [show (w.alloc o).heap.size = w.heap.size + 1 by simp] at this
theorem alloc2_old (w : World) (o o' : Obj) : ((w.alloc o).alloc o').heap[w.heap.size]? = some o := by
  rw [Below.heap_alloc _ _ _ (by simp)]; exact heap_alloc_new w o
theorem blk6 {w : World} {g : Nat} {a0 a1 a2 a3 a4 a5 : Value} {t : TypeId} (h : w.heap[g]? = some (.cells #[a0, a1, a2, a3, a4, a5] t (0, 0))) :
    w.cell? ⟨g, 0, none⟩ = some a0 ∧ w.cell? ⟨g, 1, none⟩ = some a1 ∧ w.cell? ⟨g, 2, none⟩ = some a2 ∧ w.cell? ⟨g, 3, none⟩ = some a3 ∧ w.cell? ⟨g, 4, none⟩ = some a4 ∧ w.cell? ⟨g, 5, none⟩ = some a5 :=
  ⟨cell_of_blk h 0 _ rfl, cell_of_blk h 1 _ rfl, cell_of_blk h 2 _ rfl, cell_of_blk h 3 _ rfl, cell_of_blk h 4 _ rfl, cell_of_blk h 5 _ rfl⟩
theorem blk2 {w : World} {g : Nat} {a0 a1 : Value} {t : TypeId} (h : w.heap[g]? = some (.cells #[a0, a1] t (0, 0))) :
    w.cell? ⟨g, 0, none⟩ = some a0 ∧ w.cell? ⟨g, 1, none⟩ = some a1 := ⟨cell_of_blk h 0 _ rfl, cell_of_blk h 1 _ rfl⟩
theorem blk3 {w : World} {g : Nat} {a0 a1 a2 : Value} {t : TypeId} (h : w.heap[g]? = some (.cells #[a0, a1, a2] t (0, 0))) :
    w.cell? ⟨g, 0, none⟩ = some a0 ∧ w.cell? ⟨g, 1, none⟩ = some a1 ∧ w.cell? ⟨g, 2, none⟩ = some a2 := ⟨cell_of_blk h 0 _ rfl, cell_of_blk h 1 _ rfl, cell_of_blk h 2 _ rfl⟩
theorem Row.other {α : Type} {E : EK α} {w : World} {base g : Nat} {v : Value} {l : List α} (h : Row E w base v l) (hne : v.ownBlock ≠ some g) (i : Nat) (x : Value) : Row E (w.setCell ⟨g, i, none⟩ x) base v l := by
  refine ⟨h.1, ?_⟩
  rcases h.2 with hn | ⟨g', cap, cur, hv, hbg, hg, r⟩
  · exact .inl hn
  · refine .inr ⟨g', cap, cur, hv, hbg, ?_, r⟩
    rw [Below.heap_setCell _ _ _ _ (by intro e; apply hne; rw [hv]; simp [Value.ownBlock]; exact e)]
    exact hg
theorem Row.ne_blk {α : Type} {E : EK α} {w : World} {base g : Nat} {v : Value} {l : List α} (h : Row E w base v l) {cs : Array Value} {t : TypeId} {fr : Nat × Nat} (hb : w.heap[g]? = some (.cells cs t fr)) (ht : t ≠ E.elem) : v.ownBlock ≠ some g := by
  rcases h.2 with ⟨hv, _⟩ | ⟨g', cap, cur, hv, _, hg, _⟩
  · rw [hv]; simp [Value.ownBlock]
  · rw [hv]
    simp only [Value.ownBlock, ne_eq, Option.some.injEq]
    intro e
    rw [e, hb] at hg
    simp at hg
    exact ht hg.2.1
theorem add_plain (b o i : Nat) : (⟨b, o, none⟩ : Addr).add i = ⟨b, o + i, none⟩ := by unfold Addr.add; split <;> simp_all
/-- An entry of a list: where it lies, and its cells. -/
theorem Row.get {α : Type} {E : EK α} {w : World} {base : Nat} {ao : Option Addr} {n cap : Nat} {l : List α} (h : Row E w base (.slice ao n cap) l) {k : Nat} {a : α} (ha : l[k]? = some a) :
    ∃ g, ao = some ⟨g, 0, none⟩ ∧ ∀ j u, (E.enc a)[j]? = some u → w.cell? ⟨g, k * E.size + j, none⟩ = some u := by
  rcases h.2 with ⟨hv, hn⟩ | ⟨g, cap', cur, hv, hbg, hg, r⟩
  · rw [List.eq_nil_of_length_eq_zero hn] at ha; simp at ha
  · simp at hv
    obtain ⟨rfl, rfl, rfl⟩ := hv
    refine ⟨g, rfl, ?_⟩
    intro j u hu
    have hj : j < E.size := by
      rw [← E.len a]
      rcases Nat.lt_or_ge j (E.enc a).length with h1 | h1
      · exact h1
      · rw [List.getElem?_eq_none h1] at hu; cases hu
    have := World.ownsRow.cells h (g := g) rfl (k * E.size + j) u (by rw [E.flat_at l k j a ha hj]; exact hu)
    rw [add_plain, Nat.zero_add] at this
    exact this
theorem Row.len {α : Type} {E : EK α} {w : World} {base : Nat} {ao : Option Addr} {n cap : Nat} {l : List α} (h : Row E w base (.slice ao n cap) l) : n = l.length := by
  obtain ⟨ao', cap', e⟩ := h.shape
  simp at e
  exact e.2.1

end L
end Go.Proofs.YtenlijgnmhdopaaGreatDoor

/- Files as they come in: plain data, and where they lie. -/
namespace Go.Proofs.YtenlijgnmhdopaaGreatDoor
namespace L
open Go.RowKit

structure FI where
  name : List UInt8
  number : Int
  kind : Int
  type : List UInt8
  many : Bool
  choice : Int
deriving DecidableEq
structure MI where
  name : List UInt8
  fields : List FI
  barred : List Int
deriving DecidableEq
structure II where
  name : List UInt8
  value : Int
deriving DecidableEq
structure EI where
  name : List UInt8
  items : List II
deriving DecidableEq
structure GI where
  msgs : List MI
  enums : List EI
deriving DecidableEq

/-- A list that can be read: entry k lies sz cells behind entry k - 1. -/
def RdL {α : Type} (sz : Nat) (P : World → Addr → α → Prop) (w : World) (v : Value) (l : List α) : Prop :=
  ∃ ao n cap, v = .slice ao n cap ∧ l.length = n ∧ n ≤ cap ∧ cap ≤ maxLen ∧ (ao = none → n = 0 ∧ cap = 0) ∧ ∀ x, ao = some x → ∀ k a, l[k]? = some a → P w (x.add (k * sz)) a
def Stays {α : Type} (P : World → Addr → α → Prop) : Prop := ∀ (w w' : World) (x : Addr) (a : α), Below w.heap.size w w' → P w x a → P w' x a
theorem cell_below {w w' : World} {x : Addr} {v : Value} (hb : Below w.heap.size w w') (h : w.cell? x = some v) : w'.cell? x = some v := by
  rw [hb.cell (World.block_lt_of_cell? w x h)]; exact h
theorem RdL.below {α : Type} {sz : Nat} {P : World → Addr → α → Prop} (hP : Stays P) {w w' : World} {v : Value} {l : List α} (h : RdL sz P w v l) (hb : Below w.heap.size w w') : RdL sz P w' v l := by
  obtain ⟨ao, n, cap, rfl, h1, h2, h3, h4, h5⟩ := h
  exact ⟨ao, n, cap, rfl, h1, h2, h3, h4, fun x hx k a ha => hP w w' _ a hb (h5 x hx k a ha)⟩
theorem RdL.nil {α : Type} (sz : Nat) (P : World → Addr → α → Prop) (w : World) : RdL sz P w (.slice none 0 0) [] := ⟨none, 0, 0, rfl, rfl, Nat.le_refl _, by unfold maxLen; omega, fun _ => ⟨rfl, rfl⟩, fun x hx => by cases hx⟩

def SAt (w : World) (x : Addr) (s : List UInt8) : Prop := w.cell? x = some (.string (S s))
def NAt (w : World) (x : Addr) (n : Int) : Prop := w.cell? x = some (.int .i64 n)
def FAt (w : World) (x : Addr) (f : FI) : Prop := w.cell? x = some (.string (S f.name)) ∧ w.cell? (x.add 1) = some (.int .i64 f.number) ∧ w.cell? (x.add 2) = some (.int .i64 f.kind) ∧ w.cell? (x.add 3) = some (.string (S f.type)) ∧ w.cell? (x.add 4) = some (.bool f.many) ∧ w.cell? (x.add 5) = some (.int .i64 f.choice)
def TAt (w : World) (x : Addr) (i : II) : Prop := w.cell? x = some (.string (S i.name)) ∧ w.cell? (x.add 1) = some (.int .i64 i.value)
theorem SAt.stays : Stays SAt := fun _ _ _ _ hb h => cell_below hb h
theorem NAt.stays : Stays NAt := fun _ _ _ _ hb h => cell_below hb h
theorem FAt.stays : Stays FAt := fun _ _ _ _ hb h => ⟨cell_below hb h.1, cell_below hb h.2.1, cell_below hb h.2.2.1, cell_below hb h.2.2.2.1, cell_below hb h.2.2.2.2.1, cell_below hb h.2.2.2.2.2⟩
theorem TAt.stays : Stays TAt := fun _ _ _ _ hb h => ⟨cell_below hb h.1, cell_below hb h.2⟩
def MAt (w : World) (x : Addr) (m : MI) : Prop := ∃ vf vb, w.cell? x = some (.string (S m.name)) ∧ w.cell? (x.add 1) = some vf ∧ w.cell? (x.add 2) = some vb ∧ RdL 6 FAt w vf m.fields ∧ RdL 1 NAt w vb m.barred
def EAt (w : World) (x : Addr) (e : EI) : Prop := ∃ vi, w.cell? x = some (.string (S e.name)) ∧ w.cell? (x.add 1) = some vi ∧ RdL 2 TAt w vi e.items
theorem MAt.stays : Stays MAt := fun _ _ _ _ hb ⟨vf, vb, h1, h2, h3, h4, h5⟩ => ⟨vf, vb, cell_below hb h1, cell_below hb h2, cell_below hb h3, h4.below FAt.stays hb, h5.below NAt.stays hb⟩
theorem EAt.stays : Stays EAt := fun _ _ _ _ hb ⟨vi, h1, h2, h3⟩ => ⟨vi, cell_below hb h1, cell_below hb h2, h3.below TAt.stays hb⟩
def GRd (w : World) (vm ve : Value) (g : GI) : Prop := RdL 3 MAt w vm g.msgs ∧ RdL 2 EAt w ve g.enums
theorem GRd.below {w w' : World} {vm ve : Value} {g : GI} (h : GRd w vm ve g) (hb : Below w.heap.size w w') : GRd w' vm ve g := ⟨h.1.below MAt.stays hb, h.2.below EAt.stays hb⟩

/-- The list of a call's own, of strings, of numbers. -/
def encS (l : List UInt8) : List Value := [.string (S l)]
def ekS : EK (List UInt8) where
  elem := 9
  slice := 54
  size := 1
  bytes := 16
  zero := .string ⟨#[]⟩
  enc := encS
  under := Tryz.underlying54
  info := by kernel_rfl
  zs := rfl
  pos := by decide
  small := by decide
  len := fun _ => rfl
  one := by intro a u hu; simp only [encS, List.mem_singleton] at hu; subst hu; rfl
def encN (n : Int) : List Value := [.int .i64 n]
def ekN : EK Int where
  elem := 3
  slice := 35
  size := 1
  bytes := 8
  zero := .int .i64 0
  enc := encN
  under := Tryz.underlying35
  info := by kernel_rfl
  zs := rfl
  pos := by decide
  small := by decide
  len := fun _ => rfl
  one := by intro a u hu; simp only [encN, List.mem_singleton] at hu; subst hu; rfl
theorem Row.rd {α : Type} {E : EK α} {w : World} {base : Nat} {v : Value} {l : List α} (h : Row E w base v l) (P : World → Addr → α → Prop) (hP : ∀ g i a, (∀ j u, (E.enc a)[j]? = some u → w.cell? ⟨g, i + j, none⟩ = some u) → P w ⟨g, i, none⟩ a) : RdL E.size P w v l := by
  obtain ⟨ao, cap, rfl⟩ := h.shape
  refine ⟨ao, l.length, cap, rfl, rfl, ?_, ?_, ?_, ?_⟩
  · rcases h.2 with ⟨hv, hn⟩ | ⟨g, cap', cur, hv, _, _, hc, _⟩
    · simp at hv; omega
    · simp at hv; omega
  · rcases h.2 with ⟨hv, hn⟩ | ⟨g, cap', cur, hv, _, _, _, hm, _⟩
    · simp at hv; unfold maxLen; omega
    · simp at hv; rw [hv.2]; exact hm
  · intro e
    subst e
    rcases h.2 with ⟨hv, hn⟩ | ⟨g, cap', cur, hv, _⟩
    · simp at hv; exact ⟨hn, hv.2⟩
    · simp at hv
  · intro x hx k a ha
    obtain ⟨g, hg, hc⟩ := h.get ha
    rw [hx] at hg
    cases hg
    rw [add_plain, Nat.zero_add]
    exact hP g _ a hc
theorem Row.rdS {w : World} {base : Nat} {v : Value} {l : List (List UInt8)} (h : Row ekS w base v l) : RdL 1 SAt w v l := h.rd SAt fun g i a hc => by have := hc 0 _ rfl; simpa [SAt] using this
theorem Row.rdN {w : World} {base : Nat} {v : Value} {l : List Int} (h : Row ekN w base v l) : RdL 1 NAt w v l := h.rd NAt fun g i a hc => by have := hc 0 _ rfl; simpa [NAt] using this

/-- An entry's place. -/
def Plain {α : Type} (P : World → Addr → α → Prop) : Prop := ∀ (w : World) (b off : Nat) (spot : _) (a : α), P w ⟨b, off, spot⟩ a → spot = none
theorem RdL.get {α : Type} {sz : Nat} {P : World → Addr → α → Prop} (hP : Plain P) {w : World} {ao : Option Addr} {n cap : Nat} {l : List α} (h : RdL sz P w (.slice ao n cap) l) {k : Nat} {a : α} (ha : l[k]? = some a) :
    ∃ b off, ao = some ⟨b, off, none⟩ ∧ P w ⟨b, off + k * sz, none⟩ a := by
  obtain ⟨ao', n', cap', e, h1, h2, h3, h4, h5⟩ := h
  cases e
  cases ao with
  | none =>
    have h0 := (h4 rfl).1
    rw [List.eq_nil_of_length_eq_zero (h1.trans h0)] at ha
    simp at ha
  | some x =>
    obtain ⟨b, off, spot⟩ := x
    have hl : 0 < l.length := Nat.lt_of_le_of_lt (Nat.zero_le k) (List.getElem?_eq_some_iff.1 ha).1
    have hp0 := h5 _ rfl 0 _ (List.getElem?_eq_getElem hl)
    have e0 : (⟨b, off, spot⟩ : Addr).add (0 * sz) = ⟨b, off, spot⟩ := by simp [Addr.add]
    rw [e0] at hp0
    have hs := hP _ _ _ _ _ hp0
    subst hs
    have hp := h5 _ rfl k a ha
    rw [add_plain] at hp
    exact ⟨b, off, rfl, hp⟩
theorem RdL.len {α : Type} {sz : Nat} {P : World → Addr → α → Prop} {w : World} {ao : Option Addr} {n cap : Nat} {l : List α} (h : RdL sz P w (.slice ao n cap) l) : n = l.length ∧ n ≤ cap ∧ cap ≤ maxLen := by
  obtain ⟨ao', n', cap', e, h1, h2, h3, _⟩ := h
  cases e
  exact ⟨h1.symm, h2, h3⟩
theorem RdL.shape {α : Type} {sz : Nat} {P : World → Addr → α → Prop} {w : World} {v : Value} {l : List α} (h : RdL sz P w v l) : ∃ ao n cap, v = .slice ao n cap ∧ Hid (n = l.length) ∧ n ≤ 9223372036854775807 := by
  obtain ⟨ao, n, cap, e, h1, h2, h3, _⟩ := h
  exact ⟨ao, n, cap, e, h1.symm, by unfold maxLen at h3; omega⟩
theorem plain_cell {w : World} {b off : Nat} {spot : _} {v : Value} (h : w.cell? ⟨b, off, spot⟩ = some v) : spot = none := World.cell?_spot h
theorem SAt.plain : Plain SAt := fun _ _ _ _ _ h => plain_cell h
theorem NAt.plain : Plain NAt := fun _ _ _ _ _ h => plain_cell h
theorem FAt.plain : Plain FAt := fun _ _ _ _ _ h => plain_cell h.1
theorem TAt.plain : Plain TAt := fun _ _ _ _ _ h => plain_cell h.1
theorem MAt.plain : Plain MAt := fun _ _ _ _ _ ⟨_, _, h, _⟩ => plain_cell h
theorem EAt.plain : Plain EAt := fun _ _ _ _ _ ⟨_, h, _⟩ => plain_cell h
theorem FAt.at {w : World} {b o : Nat} {f : FI} (h : FAt w ⟨b, o, none⟩ f) : w.cell? ⟨b, o, none⟩ = some (.string (S f.name)) ∧ w.cell? ⟨b, o + 1, none⟩ = some (.int .i64 f.number) ∧ w.cell? ⟨b, o + 2, none⟩ = some (.int .i64 f.kind) ∧ w.cell? ⟨b, o + 3, none⟩ = some (.string (S f.type)) ∧ w.cell? ⟨b, o + 4, none⟩ = some (.bool f.many) ∧ w.cell? ⟨b, o + 5, none⟩ = some (.int .i64 f.choice) := by
  simp only [FAt, add_plain] at h; exact h
theorem TAt.at {w : World} {b o : Nat} {f : II} (h : TAt w ⟨b, o, none⟩ f) : w.cell? ⟨b, o, none⟩ = some (.string (S f.name)) ∧ w.cell? ⟨b, o + 1, none⟩ = some (.int .i64 f.value) := by
  simp only [TAt, add_plain] at h; exact h
theorem MAt.at {w : World} {b o : Nat} {m : MI} (h : MAt w ⟨b, o, none⟩ m) : ∃ vf vb, w.cell? ⟨b, o, none⟩ = some (.string (S m.name)) ∧ w.cell? ⟨b, o + 1, none⟩ = some vf ∧ w.cell? ⟨b, o + 2, none⟩ = some vb ∧ RdL 6 FAt w vf m.fields ∧ RdL 1 NAt w vb m.barred := by
  simp only [MAt, add_plain] at h; exact h
theorem EAt.at {w : World} {b o : Nat} {m : EI} (h : EAt w ⟨b, o, none⟩ m) : ∃ vi, w.cell? ⟨b, o, none⟩ = some (.string (S m.name)) ∧ w.cell? ⟨b, o + 1, none⟩ = some vi ∧ RdL 2 TAt w vi m.items := by
  simp only [EAt, add_plain] at h; exact h

theorem take_snoc {α : Type} {l : List α} {k : Nat} {a : α} (h : l[k]? = some a) : l.take (k + 1) = l.take k ++ [a] := by rw [List.take_add_one, h]; rfl
theorem mem_at {α : Type} {l : List α} {k : Nat} {a : α} (h : l[k]? = some a) : a ∈ l := List.mem_of_getElem? h

set_option maxHeartbeats 1000000 in
set_option maxRecDepth 100000 in
theorem indexS_any {v : Value} {l : List (List UInt8)} {w : World} (h : RdL 1 SAt w v l) (x : List UInt8) :
    Calls Tryz.prog 78 #[v, .string (S x)] w fun e w' => ∃ r : Int, e = .returned (.int .i64 r) ∧ decide (0 ≤ r) = decide (x ∈ l) ∧ w = w' := by
  obtain ⟨ao, n, cap, rfl, Hn, hcap⟩ := h.shape
  have hl := S_list x
  go_enter Tryz.func78, Tryz.ntmps78
  go_wp2_with fail
  go_loopg [8] n (fun m i wr => ∃ k : Nat, k + m = n ∧ i = .int .i64 k ∧ Hid (x ∉ l.take k) ∧ w = wr)
  case atStart => exact ⟨0, by omega, rfl, by show ¬ _; simp, rfl⟩
  case round =>
    obtain ⟨k, hk, rfl, HK, rfl⟩ := hrel
    by_cases hlt : k < n
    · obtain ⟨a, Ha⟩ : ∃ a, Hid (l[k]? = some a) := ⟨l[k]'(by rw [← Hn.out]; exact hlt), List.getElem?_eq_getElem (by rw [← Hn.out]; exact hlt)⟩
      obtain ⟨b, off, rfl, hc⟩ := h.get SAt.plain Ha.out
      have hc : w.cell? ⟨b, off + k * 1, none⟩ = some (.string (S a)) := hc
      rw [Nat.mul_one] at hc
      have hla := S_list a
      have hki : (k : Int) < (n : Int) := by omega
      by_cases hxa : x = a
      · have HM : Hid (x ∈ l) := by show _ ∈ _; rw [hxa]; exact mem_at Ha.out
        have hb : (x == a) = true := by simp [hxa]
        clear hxa
        go_wp2
        go_ret
        exact ⟨_, rfl, by simp [HM.out], rfl⟩
      · have hb : (x == a) = false := by simp [hxa]
        have HX : Hid (x ∉ l.take (k + 1)) := by
          show ¬ _; rw [take_snoc Ha.out]; simp [hxa]; exact HK.out
        clear hxa
        go_wp2_with fail
        go_roundg (n - (k + 1))
        case measure => omega
        case rel => exact ⟨k + 1, by omega, by go_num, HX, rfl⟩
    · have HX : Hid (x ∉ l) := by show ¬ _; have := HK.out; rwa [List.take_of_length_le (by rw [← Hn.out]; omega)] at this
      go_wp2
      go_ret
      exact ⟨_, rfl, by simp [HX.out], rfl⟩

def I64 (n : Int) : Prop := -9223372036854775808 ≤ n ∧ n ≤ 9223372036854775807
end L
end Go.Proofs.YtenlijgnmhdopaaGreatDoor

/- Appends onto a list of the call's own, of whatever can be read, as long as it may be. -/
namespace Go.Proofs.YtenlijgnmhdopaaGreatDoor
namespace L
open Go.RowKit

section
variable {α : Type} {w : World}
theorem EK.flat_get (E : EK α) {m : List α} {i : Nat} {u : Value} (h : (E.flat m)[i]? = some u) : ∃ y, m[i / E.size]? = some y ∧ (E.enc y)[i % E.size]? = some u := by
  have hi : i < (E.flat m).length := (List.getElem?_eq_some_iff.1 h).1
  rw [E.flat_len] at hi
  have hk : i / E.size < m.length := by rw [Nat.div_lt_iff_lt_mul E.pos]; exact hi
  refine ⟨m[i / E.size], List.getElem?_eq_getElem hk, ?_⟩
  have := E.flat_at m (i / E.size) (i % E.size) _ (List.getElem?_eq_getElem hk) (Nat.mod_lt _ E.pos)
  rw [← this, Nat.mul_comm, Nat.div_add_mod]
  exact h
theorem wp_appG {o : Oper} {a : Act} {K : Act → World → Prop} {Q : Exit → Act → World → Prop} (E : EK α) (s x : Operand)
    (ho : o.op = .call { callee := .builtin .append, args := #[s, x], argTypes := #[E.slice, E.slice] })
    (base : Nat) (v : Value) (l m : List α) (hs : a.eval s = v) (hown : Row E w base v l) (ao : Option Addr) (n cap : Nat) (hx : a.eval x = .slice ao n cap) (hm : m.length = n) (hnil : ao = none → n = 0 ∧ cap = 0)
    (hcell : ∀ ad, ao = some ad → ∀ k y, m[k]? = some y → ∀ j u, (E.enc y)[j]? = some u → w.cell? (ad.add (k * E.size + j)) = some u)
    (hby : 1 ≤ E.bytes) (hlen : (l.length + m.length) * E.bytes ≤ 140737488355328) (hb : base ≤ w.heap.size)
    (h : ∀ v' w', Row E w' base v' (l ++ m) → w.grownBy w' v.ownBlock → K (a.put o.dst v') w') : o.wp Tryz.prog a w K Q := by
  obtain ⟨i0, hi, hz0, hz1, hz2⟩ := info_parts E.info
  have h63 : l.length + m.length ≤ maxLen := by
    have : l.length + m.length ≤ (l.length + m.length) * E.bytes := Nat.le_mul_of_pos_right _ hby
    unfold maxLen; omega
  cases ao with
  | none =>
    obtain ⟨rfl, rfl⟩ := hnil rfl
    have hqs : m = [] := List.eq_nil_of_length_eq_zero hm
    subst hqs
    have hrun := run_append_owned_none (P := Tryz.prog) (w := w) base E.slice o.type E.elem i0 E.size E.under hi v l.length (E.flat l) hown
    unfold Oper.wp
    simp [execOp, ho, resolve, invoke, builtin, hs, hx, hrun, Result.andThen]
    exact h v w (by rw [List.append_nil]; exact hown) ⟨rfl, rfl, rfl, Nat.le_refl _, fun _ _ _ => rfl⟩
  | some ad =>
    refine wp_append_own w s x E.slice ho base E.elem i0 _ E.size E.bytes E.under hi hz0 hz1 hz2 E.zs E.pos v l.length _ hs hown ad n cap
      (E.flat m) hx (by rw [E.flat_len, hm]) ?_ ?_ (by rw [← hm]; exact h63) (by rw [← hm]; exact hlen) hb ?_
    · intro j u hu
      obtain ⟨y, h1, h2⟩ := E.flat_get hu
      have := hcell ad rfl _ y h1 _ u h2
      rwa [Nat.mul_comm, Nat.div_add_mod] at this
    · intro y hy
      simp only [EK.flat, List.mem_flatMap] at hy
      obtain ⟨p, hp, hy⟩ := hy
      exact E.one p y hy
    · intro v' w' h1 h2 _
      refine h v' w' ?_ h2
      show w'.ownsRow base E.elem E.size v' (l ++ m).length (E.flat (l ++ m))
      rw [List.length_append, E.flat_append, hm]
      exact h1
/-- .. as one step of a region that draws. -/
theorem step_appG {ops : Array Oper} {o : Oper} {a : Act} {K : Act → World → Prop} {Q : Exit → Act → World → Prop} {X : Prop} (hgd : o.guard = none) (E : EK α) (s x : Operand)
    (ho : o.op = .call { callee := .builtin .append, args := #[s, x], argTypes := #[E.slice, E.slice] })
    (base : Nat) (v : Value) (l m : List α) (hs : a.eval s = v) (hown : Row E w base v l) (ao : Option Addr) (n cap : Nat) (hx : a.eval x = .slice ao n cap) (hm : m.length = n) (hnil : ao = none → n = 0 ∧ cap = 0)
    (hcell : ∀ ad, ao = some ad → ∀ k y, m[k]? = some y → ∀ j u, (E.enc y)[j]? = some u → w.cell? (ad.add (k * E.size + j)) = some u)
    (hby : 1 ≤ E.bytes) (hlen : (l.length + m.length) * E.bytes ≤ 140737488355328) (hb : base ≤ w.heap.size)
    (h : ∀ v' w', Row E w' base v' (l ++ m) → w.grownBy w' v.ownBlock → K (a.put o.dst v') w') :
    if Region.wanted o (yielded ops a.tmps) = true then Oper.wp Tryz.prog o a w K Q else X := by
  have hw : Region.wanted o (yielded ops a.tmps) = true := by simp [Region.wanted, hgd]
  rw [if_pos hw]
  exact wp_appG E s x ho base v l m hs hown ao n cap hx hm hnil hcell hby hlen hb h
theorem wpList_appG {ops : Array Oper} {rest : List Oper} {o : Oper} {a : Act} {Q : Exit → Act → World → Prop} (hgd : o.guard = none) (E : EK α) (s x : Operand)
    (ho : o.op = .call { callee := .builtin .append, args := #[s, x], argTypes := #[E.slice, E.slice] })
    (base : Nat) (v : Value) (l m : List α) (hs : a.eval s = v) (hown : Row E w base v l) (ao : Option Addr) (n cap : Nat) (hx : a.eval x = .slice ao n cap) (hm : m.length = n) (hnil : ao = none → n = 0 ∧ cap = 0)
    (hcell : ∀ ad, ao = some ad → ∀ k y, m[k]? = some y → ∀ j u, (E.enc y)[j]? = some u → w.cell? (ad.add (k * E.size + j)) = some u)
    (hby : 1 ≤ E.bytes) (hlen : (l.length + m.length) * E.bytes ≤ 140737488355328) (hb : base ≤ w.heap.size)
    (h : ∀ v' w', Row E w' base v' (l ++ m) → w.grownBy w' v.ownBlock → wpList Tryz.prog ops Q rest (a.put o.dst v') w') : wpList Tryz.prog ops Q (o :: rest) a w :=
  wpList_plain hgd fun _ hK => wp_appG E s x ho base v l m hs hown ao n cap hx hm hnil hcell hby hlen hb fun v' w' h2 h3 => hK _ _ (h v' w' h2 h3)
end

/-- A copy of numbers: 'append([]int(nil), ..)': what is wanted of the list that is read. -/
theorem RdL.srcN {w : World} {ao : Option Addr} {n cap : Nat} {l : List Int} (h : RdL 1 NAt w (.slice ao n cap) l) : l.length = n ∧ (ao = none → n = 0 ∧ cap = 0) ∧ ∀ ad, ao = some ad → ∀ k y, l[k]? = some y → ∀ j u, (ekN.enc y)[j]? = some u → w.cell? (ad.add (k * ekN.size + j)) = some u := by
  obtain ⟨ao', n', cap', e, h1, _, _, h4, h5⟩ := h
  cases e
  refine ⟨h1, h4, fun ad had k y hy j u hu => ?_⟩
  have hj : j = 0 := by
    cases j with
    | zero => rfl
    | succ j => simp [ekN, encN] at hu
  subst hj
  have hu : u = .int .i64 y := by simpa [ekN, encN] using hu.symm
  subst hu
  have := h5 ad had k y hy
  simpa [NAt, ekN] using this

end L
end Go.Proofs.YtenlijgnmhdopaaGreatDoor

