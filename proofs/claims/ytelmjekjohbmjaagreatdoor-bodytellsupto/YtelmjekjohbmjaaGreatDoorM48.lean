import Derived.Test.YtelmjekjohbmjaaGreatDoorM22
import Derived.Test.YtelmjekjohbmjaaGreatDoorM32
import Derived.Test.YtelmjekjohbmjaaGreatDoorM46
import Derived.Test.YtelmjekjohbmjaaGreatDoorBAliveq
/- Get, by what there is of a number; a body of one value. -/
namespace Go.Proofs.YtelmjekjohbmjaaGreatDoor
namespace L
open Go.RowKit
set_option linter.unusedVariables false

/-- A value that can be read. -/
def VLs (d : Nat) (w : World) (a1 : Option Addr) (n1 c1 : Nat) (a2 : Option Addr) (n2 c2 : Nat) (a3 : Option Addr) (n3 c3 : Nat) (v : VI (BI d)) : Prop := RdL 1 UAt w (.slice a1 n1 c1) v.bits ∧ RdL 1 ZAt w (.slice a2 n2 c2) v.bytes ∧ RdL 2 (BAt d) w (.slice a3 n3 c3) v.subs
theorem VLs.below {d : Nat} {w w' : World} {a1 : Option Addr} {n1 c1 : Nat} {a2 : Option Addr} {n2 c2 : Nat} {a3 : Option Addr} {n3 c3 : Nat} {v : VI (BI d)} (h : VLs d w a1 n1 c1 a2 n2 c2 a3 n3 c3 v) (hb : Below w.heap.size w w') : VLs d w' a1 n1 c1 a2 n2 c2 a3 n3 c3 v := ⟨h.1.below UAt.stays hb, h.2.1.below ZAt.stays hb, h.2.2.below (BAt.stays d) hb⟩
theorem get_look {β : Type} {l : List (VI β)} {x : Int} {k : Nat} {v : VI β} (h1 : firstI (fun v : VI β => decide (v.number = x)) l = (k : Int)) (h2 : l[k]? = some v) : l.find? (isV x) = some v := by
  cases hf : l.find? (isV x) with
  | none =>
    have := first_none (p := fun v : VI β => decide (v.number = x)) (l := l) fun b hb => by
      have := List.find?_eq_none.1 hf b hb
      simpa [isV] using this
    rw [this] at h1
    omega
  | some u =>
    obtain ⟨j, g1, g2⟩ := find_idx (show l.find? (fun v : VI β => decide (v.number = x)) = some u from hf)
    rw [g1] at h1
    obtain rfl : j = k := by omega
    rw [h2] at g2
    exact g2.symm
theorem get_is {d : Nat} {w : World} {v0 v1 : Value} {b : BO (BI d)} (h : BRd d w v0 v1 b) (hok : ∀ v ∈ b.vals, VOk (BOk d) v) (x : Int) {r : Option (VI (BI d))} (hr : b.vals.find? (isV x) = r) :
    Calls Tryz.prog 14 #[.agg #[v0, v1], .int .i64 x] w fun e w' => ∃ (a1 : Option Addr) (n1 c1 : Nat) (a2 : Option Addr) (n2 c2 : Nat) (a3 : Option Addr) (n3 c3 : Nat), e = .returned (.tuple #[.agg #[.int .i64 (r.getD zeroV).number, .slice a1 n1 c1, .slice a2 n2 c2, .slice a3 n3 c3], .bool r.isSome]) ∧ Hid (VLs d w' a1 n1 c1 a2 n2 c2 a3 n3 c3 (r.getD zeroV)) ∧ Below w.heap.size w w' := by
  refine (get_any (B0 := 0) (Nat.zero_le _) h hok x).mono ?_
  rintro e w' ⟨⟨hno, rfl⟩ | ⟨k, v, hk1, hk2, hk3, y, q0, u1, v1, z1, u2, v2, z2, u3, v3, z3, henc, rfl, hpl, hov, _, _⟩, hb⟩
  · have : r = none := by
      rw [← hr, List.find?_eq_none]
      exact fun a ha => by have := hno a ha; simpa [isV] using this
    subst this
    exact ⟨_, _, _, _, _, _, _, _, _, rfl, ⟨RdL.nil _ _ _, RdL.nil _ _ _, RdL.nil _ _ _⟩, hb⟩
  · have hv := get_look hk1 hk2
    rw [hr] at hv
    subst hv
    have h0 : [Value.int .i64 y.number, y.p1.v, y.p2.v, y.p3.v] = [.int .i64 q0, .slice u1 v1 z1, .slice u2 v2 z2, .slice u3 v3 z3] := henc
    simp only [List.cons.injEq, and_true, Value.int.injEq, true_and] at h0
    obtain ⟨e0, e1, e2, e3⟩ := h0
    have e0' : q0 = v.number := by rw [← e0, ← hpl]; rfl
    subst e0'
    refine ⟨u1, v1, z1, u2, v2, z2, u3, v3, z3, rfl, ?_, hb⟩
    show VLs d w' u1 v1 z1 u2 v2 z2 u3 v3 z3 v
    rw [← hpl, VLs, ← e1, ← e2, ← e3]
    refine ⟨hov.r1.rdU, hov.r2.rdZ hov.r2y, ?_⟩
    exact RdL.mapB (P := fun w (x : Addr) (s : LB d) => ∃ g i, x = ⟨g, i, none⟩ ∧ ∀ j u, (encB d s)[j]? = some u → w.cell? ⟨g, i + j, none⟩ = some u) _ (hov.r3.rd _ fun g i a hc => ⟨g, i, rfl, hc⟩) fun _ s hs' ⟨g, i, e, hc⟩ => by rw [e]; exact OwnB.at d s g i (hov.r3s s hs') hc
set_option maxHeartbeats 2000000 in
set_option maxRecDepth 100000 in
theorem one_any {d : Nat} {w : World} {a1 : Option Addr} {n1 c1 : Nat} {a2 : Option Addr} {n2 c2 : Nat} {a3 : Option Addr} {n3 c3 : Nat} {v : VI (BI d)} (h : VLs d w a1 n1 c1 a2 n2 c2 a3 n3 c3 v) :
    Calls Tryz.prog 23 #[.agg #[.int .i64 v.number, .slice a1 n1 c1, .slice a2 n2 c2, .slice a3 n3 c3]] w fun e w' => ∃ k : Nat, e = .returned (.agg #[.slice (some ⟨k, 0, none⟩) 1 1, .slice none 0 0]) ∧ Hid (BRd d w' (.slice (some ⟨k, 0, none⟩) 1 1) (.slice none 0 0) ⟨[v], []⟩) ∧ Below w.heap.size w w' := by
  obtain ⟨X, HX⟩ : ∃ X, Hid (X = ((w.alloc (.cells #[.int .i64 v.number, .slice a1 n1 c1, .slice a2 n2 c2, .slice a3 n3 c3] 34)).alloc (.cells #[.slice (some ⟨w.heap.size + 1 + 1, 0, none⟩) 1 1, .slice none 0 0] 29)).alloc (.cells #[.int .i64 v.number, .slice a1 n1 c1, .slice a2 n2 c2, .slice a3 n3 c3] 34)) := ⟨_, rfl⟩
  obtain ⟨x3, x2, x1⟩ := alloc3 w (.cells #[.int .i64 v.number, .slice a1 n1 c1, .slice a2 n2 c2, .slice a3 n3 c3] 34) (.cells #[.slice (some ⟨w.heap.size + 1 + 1, 0, none⟩) 1 1, .slice none 0 0] 29) (.cells #[.int .i64 v.number, .slice a1 n1 c1, .slice a2 n2 c2, .slice a3 n3 c3] 34)
  rw [← HX.out] at x1 x2 x3
  have hb : Below w.heap.size w X := by rw [HX.out]; exact (((Below.refl _ _).alloc (Nat.le_refl _) _).alloc (by simp) _).alloc (by simp; omega) _
  have hrd : BRd d X (.slice (some ⟨w.heap.size + 1 + 1, 0, none⟩) 1 1) (.slice none 0 0) ⟨[v], []⟩ := by
    have hX := h.below hb
    refine ⟨rdl_blk rfl (by decide) fun k a ha => ?_, RdL.nil _ _ _⟩
    match k, ha with
    | 0, ha =>
      obtain rfl : v = a := by simpa using ha
      refine ⟨_, _, _, cell_of_blk x3 0 _ rfl, ?_, ?_, ?_, hX.1, hX.2.1, hX.2.2⟩ <;> rw [add_plain]
      · exact cell_of_blk x3 1 _ rfl
      · exact cell_of_blk x3 2 _ rfl
      · exact cell_of_blk x3 3 _ rfl
    | k + 1, ha => simp at ha
  obtain ⟨y0, y1⟩ := blk2 x2
  have HRD : Hid _ := hrd
  clear hrd x1 x2 x3
  go_enter Tryz.func23, Tryz.ntmps23
  go_wp2_with fail
  rw [← HX.out]
  refine bodyPost_ret (v := .agg #[.slice (some ⟨w.heap.size + 1 + 1, 0, none⟩) 1 1, .slice none 0 0]) (by simp [results, Tryz.results23, go_sem, y0, y1]) rfl ?_
  exact ⟨_, rfl, HRD.out, hb⟩

end L
end Go.Proofs.YtelmjekjohbmjaaGreatDoor

/- For BodyTells: what the calls answer, in one form on both sides. -/
namespace Go.Proofs.YtelmjekjohbmjaaGreatDoor
namespace L
open Go.RowKit
set_option linter.unusedVariables false

/-- What Join makes: nothing where there is an error. -/
def jcN (g : GI) (d : Nat) (msg : Int) (a b : BI (d + 1)) : BO (BI d) :=
  if jerrN g d msg a b = 0 then match g.msgs[msg.toNat]? with
    | some M => jnB g.msgs (d + 1) M a b
    | none => ⟨[], []⟩
  else ⟨[], []⟩
theorem jc_some {g : GI} {d : Nat} {msg : Int} {a b : BI (d + 1)} {M : MI} (h : jerrN g d msg a b = 0) (hM : g.msgs[msg.toNat]? = some M) : jcN g d msg a b = jnB g.msgs (d + 1) M a b := by
  unfold jcN
  rw [if_pos h, hM]
theorem jc_none {g : GI} {d : Nat} {msg : Int} {a b : BI (d + 1)} (h : jerrN g d msg a b ≠ 0) : jcN g d msg a b = ⟨[], []⟩ := by
  unfold jcN
  rw [if_neg h]
def JIs (d : Nat) (w : World) (E : Int) (C : BO (BI d)) (e : Ending) (w' : World) : Prop := ∃ (e0 : Option Addr) (f0 g0 : Nat) (e1 : Option Addr) (f1 g1 : Nat), e = .returned (.tuple #[.agg #[.slice e0 f0 g0, .slice e1 f1 g1], .int .i64 E]) ∧ Hid (BRd d w' (.slice e0 f0 g0) (.slice e1 f1 g1) C) ∧ Below w.heap.size w w'
theorem join_isT {g : GI} {am : Option Addr} {nm cm : Nat} {ae : Option Addr} {ne ce : Nat} {msg : Int} {w : World} (hI : WIn g am nm cm ae ne ce msg w) {d : Nat} {v0 v1 u0 u1 : Value} {a b : BI (d + 1)} (ha : BRd d w v0 v1 a) (hoka : BOk (d + 1) a) (hb : BRd d w u0 u1 b) (hokb : BOk (d + 1) b) (hW : jWB (d + 1) a + jWB (d + 1) b ≤ 1000000000) :
    Calls Tryz.prog 12 #[.agg #[.slice am nm cm, .slice ae ne ce], .int .i64 msg, .agg #[v0, v1], .agg #[u0, u1]] w fun e w' => JIs d w (jerrN g d msg a b) (jcN g d msg a b) e w' := by
  refine (join_any hI ha hoka hb hokb hW).mono ?_
  rintro e w' ⟨hb, ⟨hne, rfl⟩ | ⟨hz, M, e0, f0, g0, e1, f1, g1, _, _, hM, _, rfl, c, h1, h2, h3⟩⟩
  · exact ⟨_, _, _, _, _, _, rfl, by rw [jc_none hne]; exact ⟨RdL.nil _ _ _, RdL.nil _ _ _⟩, hb⟩
  · exact ⟨e0, f0, g0, e1, f1, g1, by rw [hz], by rw [jc_some hz hM]; exact own_rd h1 h2 h3, hb⟩
theorem rjoin_isT {g : GI} {am : Option Addr} {nm cm : Nat} {ae : Option Addr} {ne ce : Nat} {msg : Int} {w : World} (hI : WIn g am nm cm ae ne ce msg w) {d : Nat} {v0 v1 u0 u1 : Value} {a b : BI (d + 1)} (ha : BRd d w v0 v1 a) (hoka : BOk (d + 1) a) (hb : BRd d w u0 u1 b) (hokb : BOk (d + 1) b) (hW : jWB (d + 1) a + jWB (d + 1) b ≤ 1000000000) :
    Calls Tryz.prog 13 #[.agg #[.slice am nm cm, .slice ae ne ce], .int .i64 msg, .agg #[v0, v1], .agg #[u0, u1]] w fun e w' => JIs d w (jerrN g d msg a b) (jcN g d msg a b) e w' := by
  refine (rjoin_any hI ha hoka hb hokb hW).mono ?_
  rintro e w' ⟨hb, ⟨hne, rfl⟩ | ⟨hz, M, e0, f0, g0, e1, f1, g1, hM, rfl, h3⟩⟩
  · exact ⟨_, _, _, _, _, _, rfl, by rw [jc_none hne]; exact ⟨RdL.nil _ _ _, RdL.nil _ _ _⟩, hb⟩
  · exact ⟨e0, f0, g0, e1, f1, g1, by rw [hz], by rw [jc_some hz hM]; exact h3, hb⟩
theorem rfind_is {d : Nat} {w : World} {v0 v1 : Value} {b : BO (BI d)} (h : BRd d w v0 v1 b) (x : Int) {r : Option (VI (BI d))} (hr : b.vals.find? (isV x) = r) :
    Calls Tryz.prog 15 #[.agg #[v0, v1], .int .i64 x] w fun e w' => ∃ (a1 : Option Addr) (n1 c1 : Nat) (a2 : Option Addr) (n2 c2 : Nat) (a3 : Option Addr) (n3 c3 : Nat), e = .returned (.tuple #[.agg #[.int .i64 (r.getD zeroV).number, .slice a1 n1 c1, .slice a2 n2 c2, .slice a3 n3 c3], .bool r.isSome]) ∧ Hid (VLs d w' a1 n1 c1 a2 n2 c2 a3 n3 c3 (r.getD zeroV)) ∧ Below w.heap.size w w' := by
  obtain ⟨_, _, _, rfl, _, _⟩ := h.2.shape
  refine (rfind_any h.1 (Sub.refl _) ⟨_, _, _, rfl⟩ x).mono ?_
  rintro e w' ⟨hf, hb⟩
  have hr' : b.vals.find? (fun v => decide (v.number = x)) = r := hr
  rw [hr'] at hf
  cases r with
  | none =>
    obtain ⟨v, rfl, rfl⟩ := hf
    exact ⟨none, 0, 0, none, 0, 0, none, 0, 0, rfl, ⟨RdL.nil _ _ _, RdL.nil _ _ _, RdL.nil _ _ _⟩, hb⟩
  | some v =>
    obtain ⟨a1, n1, c1, a2, n2, c2, a3, n3, c3, rfl, h1, h2, h3⟩ := hf
    exact ⟨a1, n1, c1, a2, n2, c2, a3, n3, c3, rfl, ⟨h1.below UAt.stays hb, h2.below ZAt.stays hb, h3.below (BAt.stays d) hb⟩, hb⟩
theorem one_rd {d : Nat} {w : World} {k : Nat} {a1 : Option Addr} {n1 c1 : Nat} {a2 : Option Addr} {n2 c2 : Nat} {a3 : Option Addr} {n3 c3 : Nat} {v : VI (BI d)} {t : TypeId} (hk : w.heap[k]? = some (.cells #[.int .i64 v.number, .slice a1 n1 c1, .slice a2 n2 c2, .slice a3 n3 c3] t (0, 0))) (h : VLs d w a1 n1 c1 a2 n2 c2 a3 n3 c3 v) : BRd d w (.slice (some ⟨k, 0, none⟩) 1 1) (.slice none 0 0) ⟨[v], []⟩ := by
  refine ⟨rdl_blk rfl (by decide) fun i a ha => ?_, RdL.nil _ _ _⟩
  match i, ha with
  | 0, ha =>
    obtain rfl : v = a := by simpa using ha
    refine ⟨_, _, _, cell_of_blk hk 0 _ rfl, ?_, ?_, ?_, h.1, h.2.1, h.2.2⟩ <;> rw [add_plain]
    · exact cell_of_blk hk 1 _ rfl
    · exact cell_of_blk hk 2 _ rfl
    · exact cell_of_blk hk 3 _ rfl
  | k + 1, ha => simp at ha
theorem wv_one {β : Type} {x : FI} {v : VI β} {f : List UInt8 → β → Int} (h : wvE x v f = 0 ∨ wvE x v f = 2) : x.many = false → manyN v = 1 := by
  intro hm
  unfold wvE at h
  split at h
  · omega
  · split at h
    · omega
    · rename_i h2
      have h2 : miscB x v = false := by simpa using h2
      unfold miscB at h2
      rw [hm] at h2
      simp only [Bool.not_false, Bool.and_true, Bool.or_eq_false_iff, decide_eq_false_iff_not] at h2
      omega
/-- Both Sets, of a value that WrongValue calls right or as if it were not there. -/
theorem set_same {β : Type} {fs : List FI} {x : FI} {l : List (VI β)} {y : VI β} {f : List UInt8 → β → Int} (hr : l.Pairwise fun u v => u.number < v.number) (h : wvE x y f = 0 ∨ wvE x y f = 2) : setGo fs x y (!emptyB x y) l = putN fs x l y := by
  rw [empty_without (wv_one h)]
  exact setGo_put hr

end L
end Go.Proofs.YtelmjekjohbmjaaGreatDoor

