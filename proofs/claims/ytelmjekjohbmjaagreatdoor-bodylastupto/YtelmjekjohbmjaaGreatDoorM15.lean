import Derived.Test.YtelmjekjohbmjaaGreatDoorM14
import Derived.Test.YtelmjekjohbmjaaGreatDoorM02
import Derived.Maps.OwnOps
import Derived.Maps.Views
import Derived.Maps.OwnSet
import Derived.Test.YtelmjekjohbmjaaGreatDoorM01
import Derived.Deep.RegionLaw
/- choicesOf: for each number the choice of the field that has it first. -/
namespace Go.Proofs.YtelmjekjohbmjaaGreatDoor
namespace L
open Go.RowKit Go.WideMaps Go.Maps

theorem keyedN : Keyed Tryz.prog 3 := int_keyed Tryz.underlying3
theorem zeroN (w : World) : (zeroValue 3).run Tryz.prog w = .ok (.int .i64 0) w := by kernel_rfl
/-- A map of numbers. -/
abbrev OwnM (w : World) (b n : Nat) (D : DataW Unit) : Prop := w.ownsMap Tryz.prog 3 (plainElem (H := Unit) Tryz.prog 3) b n D
theorem OwnM.below {w w' : World} {b n : Nat} {D : DataW Unit} (h : OwnM w b n D) (hb : Below w.heap.size w w') : OwnM w' b n D := by
  have hlt := h.lt
  obtain ⟨es, clock, h1, F, hs, hD⟩ := h
  exact ⟨es, clock, (hb.block b hlt).trans h1, F, hs, hD⟩
theorem OwnM.block {w w' : World} {b n : Nat} {D : DataW Unit} (h : OwnM w b n D) (hb : w'.heap[b]? = w.heap[b]?) : OwnM w' b n D := by
  obtain ⟨es, clock, h1, F, hs, hD⟩ := h
  exact ⟨es, clock, hb.trans h1, F, hs, hD⟩
def choiceF (l : List FI) (x : Int) : Int := match l.find? (fun f => decide (f.number = x)) with | some f => f.choice | none => 0
/-- The map tells the choice of the first field of each number. -/
def ChD (D : DataW Unit) (l : List FI) : Prop := ∀ x : Int, D.atKey (.int .i64 x) (.lit (.int .i64 0)) = .lit (.int .i64 (choiceF l x)) ∧ Maps.has D (.int .i64 x) = l.any fun f => decide (f.number = x)
theorem ChD.nil : ChD (.map []) [] := fun _ => ⟨rfl, rfl⟩
theorem ChD.put {D : DataW Unit} {l : List FI} {f : FI} (h : ChD D l) (hD : IsMap D) (hf : (l.any fun g => decide (g.number = f.number)) = false) : ChD (D.put (.int .i64 f.number) (.lit (.int .i64 f.choice))) (l ++ [f]) := by
  intro x
  by_cases e : x = f.number
  · subst e
    rw [atKey_put_same hD (show WideAt.IsKeyLit (.int .i64 f.number) from trivial), has_put_same hD (show WideAt.IsKeyLit (.int .i64 f.number) from trivial)]
    have h1 : l.find? (fun g => decide (g.number = f.number)) = none := by
      rw [List.find?_eq_none]
      intro y hy
      rw [List.any_eq_false] at hf
      exact hf y hy
    refine ⟨?_, by simp⟩
    unfold choiceF
    rw [List.find?_append, h1]
    simp
  · have e' : ¬ f.number = x := fun h => e h.symm
    rw [atKey_put_other (by simpa using e), has_put_other (by simpa using e), (h x).1, (h x).2]
    unfold choiceF
    rw [List.find?_append, List.any_append]
    simp [e']
theorem ChD.skip {D : DataW Unit} {l : List FI} {f : FI} (h : ChD D l) (hf : (l.any fun g => decide (g.number = f.number)) = true) : ChD D (l ++ [f]) := by
  intro x
  rw [(h x).1, (h x).2]
  unfold choiceF
  rw [List.find?_append, List.any_append]
  by_cases e : f.number = x
  · subst e
    rw [List.any_eq_true] at hf
    obtain ⟨y, hy, hq⟩ := hf
    cases h1 : l.find? (fun g => decide (g.number = f.number)) with
    | none => rw [List.find?_eq_none] at h1; exact absurd hq (h1 y hy)
    | some z => exact ⟨by simp, by simp; exact ⟨y, hy, of_decide_eq_true hq⟩⟩
  · simp [e]
theorem ChD.get {D : DataW Unit} {l : List FI} {x c : Int} (h : ChD D l) (hc : D.atKey (.int .i64 x) (.lit (.int .i64 0)) = .lit (.int .i64 c)) : c = choiceF l x := by
  have := (h x).1.symm.trans hc
  injection this with h1
  injection h1 with _ h2
  exact h2.symm

set_option maxHeartbeats 4000000 in
set_option maxRecDepth 100000 in
theorem choicesOf_any {nm vf vb : Value} {l : List FI} {w : World} (h : RdL 6 FAt w vf l) (hvb : ∃ ao n cap, vb = .slice ao n cap) (hnm : ∃ s : List UInt8, nm = .string (S s)) (hok : ∀ f ∈ l, I64 f.number ∧ I64 f.choice) (hl : l.length ≤ 140737488355328) :
    Calls Tryz.prog 111 #[.agg #[nm, vf, vb]] w fun e w' => ∃ b D, e = .returned (.map (some b)) ∧ w.heap.size ≤ b ∧ OwnM w' b l.length D ∧ ChD D l ∧ Below w.heap.size w w' := by
  obtain ⟨ao, n, cap, rfl, Hn, hcap⟩ := h.shape
  obtain ⟨ae, ne, ce, rfl⟩ := hvb
  obtain ⟨s, rfl⟩ := hnm
  have hmm := @run_makeMap Tryz.prog
  have hn : n ≤ 140737488355328 := by rw [Hn.out]; exact hl
  obtain ⟨W2, HW2⟩ : ∃ W2, Hid (W2 = w.alloc (.cells #[.string (S s), .slice ao n cap, .slice ae ne ce] 48)) := ⟨_, rfl⟩
  have hb2 : Below w.heap.size w W2 := by rw [HW2.out]; exact (Below.refl _ _).alloc (Nat.le_refl _) _
  have hz2 : W2.heap.size = w.heap.size + 1 := by rw [HW2.out]; simp
  obtain ⟨B, HB⟩ : ∃ B, Hid (B = w.heap.size + 1) := ⟨_, rfl⟩
  have hB1 : B ≤ w.heap.size + 1 := Nat.le_of_eq HB.out
  have hB2 : w.heap.size + 1 ≤ B := Nat.le_of_eq HB.out.symm
  have hM0 : OwnM (W2.alloc (.map #[] 0)) B 0 (.map []) := by
    have := World.ownsMap_made W2 Tryz.prog 3 (plainElem (H := Unit) Tryz.prog 3)
    rw [hz2, ← HB.out] at this
    exact this
  have hb3 : Below B W2 (W2.alloc (.map #[] 0)) := (Below.refl _ _).alloc (by omega) _
  obtain ⟨W3, HW3⟩ : ∃ W3, Hid (W3 = W2.alloc (.map #[] 0)) := ⟨_, rfl⟩
  rw [← HW3.out] at hM0 hb3
  have hcl : ∀ V, Below B W2 V → Below w.heap.size w V := fun V hV => hb2.trans (hV.mono (by omega))
  have hz2' := Nat.le_of_eq hz2
  clear hz2
  go_enter Tryz.func111, Tryz.ntmps111
  go_wp2_with fail
  rw [← HW2.out, ← HW3.out, ← HB.out]
  go_loopg [12] n (fun gm i wr => ∃ (k : Nat) (D : DataW Unit), k + gm = n ∧ i = .int .i64 k ∧ OwnM wr B k D ∧ ChD D (l.take k) ∧ Below B W2 wr)
  case atStart => exact ⟨0, .map [], by omega, rfl, hM0, by rw [List.take_zero]; exact ChD.nil, hb3⟩
  case round =>
    obtain ⟨k, D, hk, rfl, hown, hch, hbr⟩ := hrel
    by_cases hlt : k < n
    · obtain ⟨a, Ha⟩ : ∃ a, Hid (l[k]? = some a) := ⟨l[k]'(by rw [← Hn.out]; exact hlt), List.getElem?_eq_getElem (by rw [← Hn.out]; exact hlt)⟩
      obtain ⟨b, off, rfl, hat⟩ := (h.below FAt.stays (hcl wr hbr)).get FAt.plain Ha.out
      obtain ⟨s0, s1, s2, s3, s4, s5⟩ := hat.at
      have hki : (k : Int) < (n : Int) := by omega
      obtain ⟨i1, i2⟩ := hok a (List.mem_of_getElem? Ha.out)
      have hkey : keyOf Tryz.prog 3 (.int .i64 a.number) = some (.int .i64 a.number) := keyOf_int_mk Tryz.underlying3 (WalkArith.wf_i64 i1)
      have hval : plainElem (H := Unit) Tryz.prog 3 (.int .i64 a.choice) = some (.lit (.int .i64 a.choice), []) := plainElem_int Tryz.underlying3 (WalkArith.wf_i64 i2)
      obtain ⟨Wm, HWm⟩ : ∃ Wm, Hid (Wm = wr.alloc (.cells #[.string (S a.name), .int .i64 a.number, .int .i64 a.kind, .string (S a.type), .bool a.many, .int .i64 a.choice] 53)) := ⟨_, rfl⟩
      have hbm : Below wr.heap.size wr Wm := by rw [HWm.out]; exact (Below.refl _ _).alloc (Nat.le_refl _) _
      have hzB := hown.lt
      have hbrm : Below B W2 Wm := hbr.trans (hbm.mono (by omega))
      have hownm := hown.below hbm
      have hm1 := hownm.isMap
      obtain ⟨v, ps, hrun, hv⟩ := hownm.look_ok keyedN Tryz.underlying150 (zeroN _) (plainElem_int Tryz.underlying3 (WalkArith.wf_i64 (by omega))) hkey
      obtain ⟨c, rfl, _, _⟩ := plainElem_int_inv Tryz.underlying3 hv
      rw [(hch a.number).2] at hrun
      cases hq : (l.take k).any (fun f => decide (f.number = a.number)) with
      | true =>
        have HX : ChD D (l.take (k + 1)) := by rw [take_snoc Ha.out]; exact hch.skip hq
        rw [hq, HWm.out] at hrun
        clear hq hat hch hv hown
        go_wp2_with fail
        rw [← HWm.out]
        go_roundg (n - (k + 1))
        case measure => omega
        case rel => exact ⟨k + 1, D, by omega, by go_num, hownm.mono (by omega), HX, hbrm⟩
      | false =>
        have HX : ChD (D.put (.int .i64 a.number) (.lit (.int .i64 a.choice))) (l.take (k + 1)) := by rw [take_snoc Ha.out]; exact hch.put hm1 hq
        rw [hq, HWm.out] at hrun
        clear hq hat hch hv hown
        rw [HWm.out] at hownm
        go_wp2_with (at_mapUpdate; refine wpList_mapUpdate_own _ rfl _ _ _ 150 rfl 3 3 keyedN Tryz.underlying150 _ B k _ rfl hownm (by unfold maxLen; omega) _ _ _ rfl rfl hkey _ [] hval ?_)
        intro w1 hown1 hg1
        rw [← HWm.out] at hg1
        have hB1w : Below B W2 w1 := hbrm.grown hg1 (by have := hbm.size; omega) (fun j hj => by cases hj; exact Nat.le_refl _)
        clear hrun hownm
        go_wp2_with fail
        go_roundg (n - (k + 1))
        case measure => omega
        case rel => exact ⟨k + 1, _, by omega, by go_num, hown1, HX, hB1w⟩
    · have HT : Hid (l.take k = l) := List.take_of_length_le (by rw [← Hn.out]; omega)
      have hkl : Hid (k = l.length) := (show k = l.length by rw [← Hn.out]; omega)
      go_wp2
      go_ret
      exact ⟨B, D, rfl, by omega, by rw [← hkl.out]; exact hown, by rw [HT.out] at hch; exact hch, hcl _ hbr⟩

end L
end Go.Proofs.YtelmjekjohbmjaaGreatDoor

/- The contracts of Fits, asWithout, hasOthers, miscounted. -/
namespace Go.Proofs.YtelmjekjohbmjaaGreatDoor
namespace L
open Go.RowKit

/-- A number of 32 bits with a sign, as 64 bits. -/
def enumB (n : Nat) : Bool := decide (n < 2147483648) || decide (18446744071562067968 ≤ n)
def fitsI (kind : Int) (n : Nat) : Int :=
  if kind = 1 ∨ kind = 2 ∨ kind = 3 ∨ kind = 6 then 0
  else if kind = 4 then (if n ≤ 1 then 0 else 3)
  else if kind = 5 then (if enumB n then 0 else 3)
  else if kind = 7 then (if n ≤ 4294967295 then 0 else 3)
  else 1
theorem enum_wrap (n : Nat) (hn : n < 18446744073709551616) : (IntKind.u64.wrap (wrap32 (n : Int)) == (n : Int)) = enumB n := by
  have e : IntKind.u64.wrap (wrap32 (n : Int)) = wrap32 (n : Int) % 18446744073709551616 := by simp [IntKind.wrap, IntKind.bits, IntKind.signed]
  rw [e, Bool.eq_iff_iff]
  unfold wrap32 enumB
  simp
  omega

set_option maxHeartbeats 1000000 in
set_option maxRecDepth 100000 in
theorem fits_any {w : World} (kind : Int) (n : Nat) (hn : n < 18446744073709551616) :
    Calls Tryz.prog 6 #[.int .i64 kind, .int .u64 (n : Int)] w fun e w' => e = .returned (.int .i64 (fitsI kind n)) ∧ w = w' := by
  have hw := enum_wrap n hn
  by_cases h5 : kind = 5
  · subst h5
    cases hq : enumB n with
    | true =>
      have HR : Hid (fitsI 5 n = 0) := by show _ = _; unfold fitsI; simp [hq]
      rw [hq] at hw
      clear hq
      go_enter Tryz.func6, Tryz.ntmps6
      go_wp2
      go_ret
      exact ⟨by rw [HR.out]; rfl, rfl⟩
    | false =>
      have HR : Hid (fitsI 5 n = 3) := by show _ = _; unfold fitsI; simp [hq]
      rw [hq] at hw
      clear hq
      go_enter Tryz.func6, Tryz.ntmps6
      go_wp2
      go_ret
      exact ⟨by rw [HR.out]; rfl, rfl⟩
  clear hw
  by_cases h4 : kind = 4
  · subst h4
    by_cases hq : n ≤ 1
    · have HR : Hid (fitsI 4 n = 0) := by show _ = _; unfold fitsI; simp [hq]
      have hq' : decide ((n : Int) ≤ 1) = true := by simp; omega
      clear hq
      go_enter Tryz.func6, Tryz.ntmps6
      go_wp2
      go_ret
      exact ⟨by rw [HR.out]; rfl, rfl⟩
    · have HR : Hid (fitsI 4 n = 3) := by show _ = _; unfold fitsI; simp [hq]
      have hq' : decide ((n : Int) ≤ 1) = false := by simp; omega
      clear hq
      go_enter Tryz.func6, Tryz.ntmps6
      go_wp2
      go_ret
      exact ⟨by rw [HR.out]; rfl, rfl⟩
  by_cases h7 : kind = 7
  · subst h7
    by_cases hq : n ≤ 4294967295
    · have HR : Hid (fitsI 7 n = 0) := by show _ = _; unfold fitsI; simp [hq]
      have hq' : decide ((n : Int) ≤ 4294967295) = true := by simp; omega
      clear hq
      go_enter Tryz.func6, Tryz.ntmps6
      go_wp2
      go_ret
      exact ⟨by rw [HR.out]; rfl, rfl⟩
    · have HR : Hid (fitsI 7 n = 3) := by show _ = _; unfold fitsI; simp [hq]
      have hq' : decide ((n : Int) ≤ 4294967295) = false := by simp; omega
      clear hq
      go_enter Tryz.func6, Tryz.ntmps6
      go_wp2
      go_ret
      exact ⟨by rw [HR.out]; rfl, rfl⟩
  by_cases h0 : kind = 1 ∨ kind = 2 ∨ kind = 3 ∨ kind = 6
  · have HR : Hid (fitsI kind n = 0) := by show _ = _; unfold fitsI; rw [if_pos h0]
    clear h5 h4 h7
    rcases h0 with rfl | rfl | rfl | rfl
    all_goals
      go_enter Tryz.func6, Tryz.ntmps6
      go_wp2
      go_ret
      exact ⟨by rw [HR.out]; rfl, rfl⟩
  · have HR : Hid (fitsI kind n = 1) := by show _ = _; unfold fitsI; rw [if_neg h0, if_neg h4, if_neg h5, if_neg h7]
    have e1 : (kind == 1) = false := by simp; omega
    have e2 : (kind == 2) = false := by simp; omega
    have e3 : (kind == 3) = false := by simp; omega
    have e4 : (kind == 4) = false := by simpa using h4
    have e5 : (kind == 5) = false := by simpa using h5
    have e6 : (kind == 6) = false := by simp; omega
    have e7 : (kind == 7) = false := by simpa using h7
    clear h0 h4 h5 h7
    go_enter Tryz.func6, Tryz.ntmps6
    go_wp2
    go_ret
    exact ⟨by rw [HR.out]; rfl, rfl⟩

/-- How many there are of all. -/
def manyN {β : Type} (v : VI β) : Nat := v.bits.length + v.bytes.length + v.subs.length
def othersB {β : Type} (x : FI) (v : VI β) : Bool :=
  if x.kind = 8 ∨ x.kind = 9 then decide (0 < v.bits.length + v.subs.length)
  else if x.kind = 10 then decide (0 < v.bits.length + v.bytes.length)
  else decide (0 < v.bytes.length + v.subs.length)
def miscB {β : Type} (x : FI) (v : VI β) : Bool := decide (manyN v < 1) || (decide (60 < manyN v) || (decide (1 < manyN v) && !x.many))

end L
end Go.Proofs.YtelmjekjohbmjaaGreatDoor

/- The contracts of hasOthers and miscounted. -/
namespace Go.Proofs.YtelmjekjohbmjaaGreatDoor
namespace L
open Go.RowKit

def vFI (x : FI) : Value := .agg #[.string (S x.name), .int .i64 x.number, .int .i64 x.kind, .string (S x.type), .bool x.many, .int .i64 x.choice]

set_option maxHeartbeats 1000000 in
set_option maxRecDepth 100000 in
theorem others_any {β : Type} {w : World} (x : FI) (v : VI β) {a1 a2 a3 : Option Addr} {n1 n2 n3 c1 c2 c3 : Nat} (H1 : Hid (n1 = v.bits.length)) (H2 : Hid (n2 = v.bytes.length)) (H3 : Hid (n3 = v.subs.length)) (b1 : n1 ≤ 140737488355328) (b2 : n2 ≤ 140737488355328) (b3 : n3 ≤ 140737488355328) :
    Calls Tryz.prog 93 #[vFI x, .agg #[.int .i64 v.number, .slice a1 n1 c1, .slice a2 n2 c2, .slice a3 n3 c3]] w fun e w' => e = .returned (.bool (othersB x v)) ∧ Below w.heap.size w w' := by
  have hb2 : Below w.heap.size w ((w.alloc (.cells #[.string (S x.name), .int .i64 x.number, .int .i64 x.kind, .string (S x.type), .bool x.many, .int .i64 x.choice] 53)).alloc (.cells #[.int .i64 v.number, .slice a1 n1 c1, .slice a2 n2 c2, .slice a3 n3 c3] 34)) := ((Below.refl _ _).alloc (Nat.le_refl _) _).alloc (by simp) _
  unfold vFI
  by_cases h8 : x.kind = 8
  · have HR : Hid (othersB x v = decide ((0 : Int) < (n1 : Int) + (n3 : Int))) := by
      show _ = _; unfold othersB; rw [if_pos (Or.inl h8), H1.out, H3.out]; exact decide_eq_decide.2 (by omega)
    have e8 : (x.kind == 8) = true := by simp [h8]
    clear h8
    go_enter Tryz.func93, Tryz.ntmps93
    go_wp2
    go_ret
    exact ⟨by rw [HR.out]; rfl, hb2⟩
  have e8 : (x.kind == 8) = false := by simpa using h8
  by_cases h9 : x.kind = 9
  · have HR : Hid (othersB x v = decide ((0 : Int) < (n1 : Int) + (n3 : Int))) := by
      show _ = _; unfold othersB; rw [if_pos (Or.inr h9), H1.out, H3.out]; exact decide_eq_decide.2 (by omega)
    have e9 : (x.kind == 9) = true := by simp [h9]
    clear h8 h9
    go_enter Tryz.func93, Tryz.ntmps93
    go_wp2
    go_ret
    exact ⟨by rw [HR.out]; rfl, hb2⟩
  have e9 : (x.kind == 9) = false := by simpa using h9
  by_cases h10 : x.kind = 10
  · have HR : Hid (othersB x v = decide ((0 : Int) < (n1 : Int) + (n2 : Int))) := by
      show _ = _; unfold othersB; rw [if_neg (by omega), if_pos h10, H1.out, H2.out]; exact decide_eq_decide.2 (by omega)
    have e10 : (x.kind == 10) = true := by simp [h10]
    clear h8 h9 h10
    go_enter Tryz.func93, Tryz.ntmps93
    go_wp2
    go_ret
    exact ⟨by rw [HR.out]; rfl, hb2⟩
  · have HR : Hid (othersB x v = decide ((0 : Int) < (n2 : Int) + (n3 : Int))) := by
      show _ = _; unfold othersB; rw [if_neg (by omega), if_neg h10, H2.out, H3.out]; exact decide_eq_decide.2 (by omega)
    have e10 : (x.kind == 10) = false := by simpa using h10
    clear h8 h9 h10
    go_enter Tryz.func93, Tryz.ntmps93
    go_wp2
    go_ret
    exact ⟨by rw [HR.out]; rfl, hb2⟩

set_option maxHeartbeats 1000000 in
set_option maxRecDepth 100000 in
theorem misc_any {β : Type} {w : World} (x : FI) (v : VI β) {a1 a2 a3 : Option Addr} {n1 n2 n3 c1 c2 c3 : Nat} (H1 : Hid (n1 = v.bits.length)) (H2 : Hid (n2 = v.bytes.length)) (H3 : Hid (n3 = v.subs.length)) (b1 : n1 ≤ 140737488355328) (b2 : n2 ≤ 140737488355328) (b3 : n3 ≤ 140737488355328) :
    Calls Tryz.prog 94 #[vFI x, .agg #[.int .i64 v.number, .slice a1 n1 c1, .slice a2 n2 c2, .slice a3 n3 c3]] w fun e w' => e = .returned (.bool (miscB x v)) ∧ Below w.heap.size w w' := by
  have hb2 : Below w.heap.size w ((w.alloc (.cells #[.string (S x.name), .int .i64 x.number, .int .i64 x.kind, .string (S x.type), .bool x.many, .int .i64 x.choice] 53)).alloc (.cells #[.int .i64 v.number, .slice a1 n1 c1, .slice a2 n2 c2, .slice a3 n3 c3] 34)) := ((Below.refl _ _).alloc (Nat.le_refl _) _).alloc (by simp) _
  have hm : manyN v = n1 + n2 + n3 := by unfold manyN; rw [H1.out, H2.out, H3.out]
  unfold vFI
  by_cases h1 : n1 + n2 + n3 < 1
  · have HR : Hid (miscB x v = true) := by show _ = _; unfold miscB; rw [hm]; simp; omega
    have d1 : decide ((n1 : Int) + (n2 : Int) + (n3 : Int) < 1) = true := by simp; omega
    clear hm h1
    go_enter Tryz.func94, Tryz.ntmps94
    go_wp2
    go_ret
    exact ⟨by rw [HR.out]; rfl, hb2⟩
  have d1 : decide ((n1 : Int) + (n2 : Int) + (n3 : Int) < 1) = false := by simp; omega
  by_cases h2 : 60 < n1 + n2 + n3
  · have HR : Hid (miscB x v = true) := by show _ = _; unfold miscB; rw [hm]; simp [h2]
    have d2 : decide ((60 : Int) < (n1 : Int) + (n2 : Int) + (n3 : Int)) = true := by simp; omega
    clear hm h1 h2
    go_enter Tryz.func94, Tryz.ntmps94
    go_wp2
    go_ret
    exact ⟨by rw [HR.out]; rfl, hb2⟩
  have d2 : decide ((60 : Int) < (n1 : Int) + (n2 : Int) + (n3 : Int)) = false := by simp; omega
  by_cases h3 : 1 < n1 + n2 + n3
  · have d3 : decide ((1 : Int) < (n1 : Int) + (n2 : Int) + (n3 : Int)) = true := by simp; omega
    have HR : Hid (miscB x v = !x.many) := by
      show _ = _; unfold miscB; rw [hm, decide_eq_false h1, decide_eq_false h2, decide_eq_true h3]; simp
    clear hm h1 h2 h3
    go_enter Tryz.func94, Tryz.ntmps94
    go_wp2
    go_ret
    exact ⟨by rw [HR.out]; rfl, hb2⟩
  · have d3 : decide ((1 : Int) < (n1 : Int) + (n2 : Int) + (n3 : Int)) = false := by simp; omega
    have HR : Hid (miscB x v = false) := by
      show _ = _; unfold miscB; rw [hm, decide_eq_false h1, decide_eq_false h2, decide_eq_false h3]; simp
    clear hm h1 h2 h3
    go_enter Tryz.func94, Tryz.ntmps94
    go_wp2
    go_ret
    exact ⟨by rw [HR.out]; rfl, hb2⟩

end L
end Go.Proofs.YtelmjekjohbmjaaGreatDoor

/- Appends onto a list of the call's own, of whatever can be read, as long as it may be. -/
namespace Go.Proofs.YtelmjekjohbmjaaGreatDoor
namespace L
open Go.RowKit

section
variable {α : Type} {w : World}
theorem EK.flat_get (E : EK α) {m : List α} {i : Nat} {u : Value} (h : (E.flat m)[i]? = some u) : ∃ y, m[i / E.size]? = some y ∧ (E.enc y)[i % E.size]? = some u := by
  have hi : i < (E.flat m).length := (List.getElem?_eq_some_iff.1 h).1
  rw [E.flat_len] at hi
  have hk : i / E.size < m.length := by rw [Nat.div_lt_iff_lt_mul E.pos]; exact hi
  refine ⟨m[i / E.size], List.getElem?_eq_getElem hk, ?_⟩
  have := E.flat_at m (i / E.size) (i % E.size) _ (List.getElem?_eq_getElem hk) (Nat.mod_lt _ E.pos)
  rw [← this, Nat.mul_comm, Nat.div_add_mod]
  exact h
theorem wp_appG {o : Oper} {a : Act} {K : Act → World → Prop} {Q : Exit → Act → World → Prop} (E : EK α) (s x : Operand)
    (ho : o.op = .call { callee := .builtin .append, args := #[s, x], argTypes := #[E.slice, E.slice] })
    (base : Nat) (v : Value) (l m : List α) (hs : a.eval s = v) (hown : Row E w base v l) (ao : Option Addr) (n cap : Nat) (hx : a.eval x = .slice ao n cap) (hm : m.length = n) (hnil : ao = none → n = 0 ∧ cap = 0)
    (hcell : ∀ ad, ao = some ad → ∀ k y, m[k]? = some y → ∀ j u, (E.enc y)[j]? = some u → w.cell? (ad.add (k * E.size + j)) = some u)
    (hby : 1 ≤ E.bytes) (hlen : (l.length + m.length) * E.bytes ≤ 140737488355328) (hb : base ≤ w.heap.size)
    (h : ∀ v' w', Row E w' base v' (l ++ m) → w.grownBy w' v.ownBlock → K (a.put o.dst v') w') : o.wp Tryz.prog a w K Q := by
  obtain ⟨i0, hi, hz0, hz1, hz2⟩ := info_parts E.info
  have h63 : l.length + m.length ≤ maxLen := by
    have : l.length + m.length ≤ (l.length + m.length) * E.bytes := Nat.le_mul_of_pos_right _ hby
    unfold maxLen; omega
  cases ao with
  | none =>
    obtain ⟨rfl, rfl⟩ := hnil rfl
    have hqs : m = [] := List.eq_nil_of_length_eq_zero hm
    subst hqs
    have hrun := run_append_owned_none (P := Tryz.prog) (w := w) base E.slice o.type E.elem i0 E.size E.under hi v l.length (E.flat l) hown
    unfold Oper.wp
    simp [execOp, ho, resolve, invoke, builtin, hs, hx, hrun, Result.andThen]
    exact h v w (by rw [List.append_nil]; exact hown) ⟨rfl, rfl, rfl, Nat.le_refl _, fun _ _ _ => rfl⟩
  | some ad =>
    refine wp_append_own w s x E.slice ho base E.elem i0 _ E.size E.bytes E.under hi hz0 hz1 hz2 E.zs E.pos v l.length _ hs hown ad n cap
      (E.flat m) hx (by rw [E.flat_len, hm]) ?_ ?_ (by rw [← hm]; exact h63) (by rw [← hm]; exact hlen) hb ?_
    · intro j u hu
      obtain ⟨y, h1, h2⟩ := E.flat_get hu
      have := hcell ad rfl _ y h1 _ u h2
      rwa [Nat.mul_comm, Nat.div_add_mod] at this
    · intro y hy
      simp only [EK.flat, List.mem_flatMap] at hy
      obtain ⟨p, hp, hy⟩ := hy
      exact E.one p y hy
    · intro v' w' h1 h2 _
      refine h v' w' ?_ h2
      show w'.ownsRow base E.elem E.size v' (l ++ m).length (E.flat (l ++ m))
      rw [List.length_append, E.flat_append, hm]
      exact h1
/-- .. as one step of a region that draws. -/
theorem step_appG {ops : Array Oper} {o : Oper} {a : Act} {K : Act → World → Prop} {Q : Exit → Act → World → Prop} {X : Prop} (hgd : o.guard = none) (E : EK α) (s x : Operand)
    (ho : o.op = .call { callee := .builtin .append, args := #[s, x], argTypes := #[E.slice, E.slice] })
    (base : Nat) (v : Value) (l m : List α) (hs : a.eval s = v) (hown : Row E w base v l) (ao : Option Addr) (n cap : Nat) (hx : a.eval x = .slice ao n cap) (hm : m.length = n) (hnil : ao = none → n = 0 ∧ cap = 0)
    (hcell : ∀ ad, ao = some ad → ∀ k y, m[k]? = some y → ∀ j u, (E.enc y)[j]? = some u → w.cell? (ad.add (k * E.size + j)) = some u)
    (hby : 1 ≤ E.bytes) (hlen : (l.length + m.length) * E.bytes ≤ 140737488355328) (hb : base ≤ w.heap.size)
    (h : ∀ v' w', Row E w' base v' (l ++ m) → w.grownBy w' v.ownBlock → K (a.put o.dst v') w') :
    if Region.wanted o (yielded ops a.tmps) = true then Oper.wp Tryz.prog o a w K Q else X := by
  have hw : Region.wanted o (yielded ops a.tmps) = true := by simp [Region.wanted, hgd]
  rw [if_pos hw]
  exact wp_appG E s x ho base v l m hs hown ao n cap hx hm hnil hcell hby hlen hb h
theorem wpList_appG {ops : Array Oper} {rest : List Oper} {o : Oper} {a : Act} {Q : Exit → Act → World → Prop} (hgd : o.guard = none) (E : EK α) (s x : Operand)
    (ho : o.op = .call { callee := .builtin .append, args := #[s, x], argTypes := #[E.slice, E.slice] })
    (base : Nat) (v : Value) (l m : List α) (hs : a.eval s = v) (hown : Row E w base v l) (ao : Option Addr) (n cap : Nat) (hx : a.eval x = .slice ao n cap) (hm : m.length = n) (hnil : ao = none → n = 0 ∧ cap = 0)
    (hcell : ∀ ad, ao = some ad → ∀ k y, m[k]? = some y → ∀ j u, (E.enc y)[j]? = some u → w.cell? (ad.add (k * E.size + j)) = some u)
    (hby : 1 ≤ E.bytes) (hlen : (l.length + m.length) * E.bytes ≤ 140737488355328) (hb : base ≤ w.heap.size)
    (h : ∀ v' w', Row E w' base v' (l ++ m) → w.grownBy w' v.ownBlock → wpList Tryz.prog ops Q rest (a.put o.dst v') w') : wpList Tryz.prog ops Q (o :: rest) a w :=
  wpList_plain hgd fun _ hK => wp_appG E s x ho base v l m hs hown ao n cap hx hm hnil hcell hby hlen hb fun v' w' h2 h3 => hK _ _ (h v' w' h2 h3)
end

/-- A copy of numbers: 'append([]int(nil), ..)': what is wanted of the list that is read. -/
theorem RdL.srcN {w : World} {ao : Option Addr} {n cap : Nat} {l : List Int} (h : RdL 1 NAt w (.slice ao n cap) l) : l.length = n ∧ (ao = none → n = 0 ∧ cap = 0) ∧ ∀ ad, ao = some ad → ∀ k y, l[k]? = some y → ∀ j u, (ekN.enc y)[j]? = some u → w.cell? (ad.add (k * ekN.size + j)) = some u := by
  obtain ⟨ao', n', cap', e, h1, _, _, h4, h5⟩ := h
  cases e
  refine ⟨h1, h4, fun ad had k y hy j u hu => ?_⟩
  have hj : j = 0 := by
    cases j with
    | zero => rfl
    | succ j => simp [ekN, encN] at hu
  subst hj
  have hu : u = .int .i64 y := by simpa [ekN, encN] using hu.symm
  subst hu
  have := h5 ad had k y hy
  simpa [NAt, ekN] using this

end L
end Go.Proofs.YtelmjekjohbmjaaGreatDoor

