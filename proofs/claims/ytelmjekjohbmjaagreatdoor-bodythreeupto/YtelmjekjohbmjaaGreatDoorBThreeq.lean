import Derived.Test.YtelmjekjohbmjaaGreatDoorM44
import Derived.Test.YtelmjekjohbmjaaGreatDoorBSameBq
import Derived.Test.YtelmjekjohbmjaaGreatDoorBAliveq
/- However put together. -/
namespace Go.Proofs.YtelmjekjohbmjaaGreatDoor
namespace L
open Go.RowKit
set_option linter.unusedVariables false

/-- Join, whatever comes of it. -/
def JnIs (g : GI) (d : Nat) (msg : Int) (a b : BI (d + 1)) (E : Int) (w : World) (e : Ending) (w' : World) : Prop := ∃ (e0 : Option Addr) (f0 g0 : Nat) (e1 : Option Addr) (f1 g1 : Nat), e = .returned (.tuple #[.agg #[.slice e0 f0 g0, .slice e1 f1 g1], .int .i64 E]) ∧ Hid (E = 0 → ∃ M, g.msgs[msg.toNat]? = some M ∧ BRd d w' (.slice e0 f0 g0) (.slice e1 f1 g1) (jnB g.msgs (d + 1) M a b)) ∧ Below w.heap.size w w'
theorem join_is {g : GI} {am : Option Addr} {nm cm : Nat} {ae : Option Addr} {ne ce : Nat} {msg : Int} {w : World} (hI : WIn g am nm cm ae ne ce msg w) {d : Nat} {v0 v1 u0 u1 : Value} {a b : BI (d + 1)} (ha : BRd d w v0 v1 a) (hoka : BOk (d + 1) a) (hb : BRd d w u0 u1 b) (hokb : BOk (d + 1) b) (hW : jWB (d + 1) a + jWB (d + 1) b ≤ 1000000000) {E : Int} (hE : jerrN g d msg a b = E) :
    Calls Tryz.prog 12 #[.agg #[.slice am nm cm, .slice ae ne ce], .int .i64 msg, .agg #[v0, v1], .agg #[u0, u1]] w fun e w' => JnIs g d msg a b E w e w' := by
  subst hE
  refine (join_any hI ha hoka hb hokb hW).mono ?_
  rintro e w' ⟨hb, ⟨hne, rfl⟩ | ⟨hz, M, e0, f0, g0, e1, f1, g1, _, _, hM, _, rfl, c, h1, h2, h3⟩⟩
  · exact ⟨_, _, _, _, _, _, rfl, fun h => absurd h hne, hb⟩
  · exact ⟨e0, f0, g0, e1, f1, g1, by rw [hz], fun _ => ⟨M, hM, own_rd h1 h2 h3⟩, hb⟩
theorem jerr_zero {g : GI} {d : Nat} {msg : Int} {a b : BI (d + 1)} (h : jerrN g d msg a b = 0) : wrongB g d msg a = 0 ∧ wrongB g d msg b = 0 ∧ ∃ M, g.msgs[msg.toNat]? = some M ∧ wrongB g d msg (jnB g.msgs (d + 1) M a b) = 0 := by
  unfold jerrN at h
  split at h
  · rename_i h1; exact absurd h h1
  · rename_i h1
    have h2 : firstE (wrongB g d msg) [a, b] = 0 := by simpa using h1
    obtain ⟨h3, h4⟩ := two_zero h2
    obtain ⟨_, _, _, M, hM, _⟩ := wrongB_inv h3
    rw [hM] at h
    exact ⟨h3, h4, M, hM, h⟩
theorem jerr_of {g : GI} {d : Nat} {msg : Int} {a b : BI (d + 1)} {M : MI} (h1 : wrongB g d msg a = 0) (h2 : wrongB g d msg b = 0) (hM : g.msgs[msg.toNat]? = some M) : jerrN g d msg a b = wrongB g d msg (jnB g.msgs (d + 1) M a b) := by
  unfold jerrN
  have h3 : firstE (wrongB g d msg) [a, b] = 0 := firstE_0 fun c hc => by
    rcases List.mem_cons.1 hc with rfl | hc
    · exact h1
    · rw [List.mem_singleton.1 hc]; exact h2
  rw [h3, if_neg (by simp), hM]
theorem wrong_of {g : GI} {d : Nat} {msg : Int} {x : BI (d + 1)} {M : MI} (h1 : (wrongL g).1 = 0) (h2 : 0 ≤ msg) (h3 : msg < (g.msgs.length : Int)) (hM : g.msgs[msg.toNat]? = some M) : wrongB g d msg x = bodyE g (d + 1) 1 M.fields x := by
  unfold wrongB
  rw [if_neg (by simpa using h1), if_neg (by omega), hM]
/-- What Join tells of right bodies. -/
theorem jerr_z5 {g : GI} {d : Nat} {msg : Int} {a b : BI (d + 1)} (h1 : wrongB g d msg a = 0) (h2 : wrongB g d msg b = 0) : Z5 (jerrN g d msg a b) := by
  obtain ⟨hrl, hm0, hm1, M, hM, ha⟩ := wrongB_inv h1
  rw [jerr_of h1 h2 hM, wrong_of hrl hm0 hm1 hM]
  rw [wrong_of hrl hm0 hm1 hM] at h2
  exact join_z5 hrl (d + 1) 1 M a b (List.mem_of_getElem? hM) ha h2
theorem mix_no {g : GI} (h : mixB g = false) : ∀ m ∈ g.msgs, ∀ x ∈ m.fields, x.kind = 10 → x.choice ≤ 0 := fun m hm x hx hk => by
  have h1 := List.any_eq_false.1 h m hm
  have h2 := List.any_eq_false.1 (by simpa [mixM] using h1 : m.fields.any mixF = false) x hx
  unfold mixF at h2
  rw [decide_eq_true hk, Bool.true_and] at h2
  have : ¬ 0 < x.choice := by simpa using h2
  omega
theorem ok_none {d : Nat} : BOk (d + 1) (nilB d) := ⟨(fun _ h => by cases h), by show 0 * 80 ≤ reachBytes; omega, (fun _ h => by cases h), by show 0 * 48 ≤ reachBytes; omega⟩

set_option maxHeartbeats 8000000 in
set_option maxRecDepth 100000 in
theorem three_walk {g : GI} {am : Option Addr} {nm cm : Nat} {ae : Option Addr} {ne ce : Nat} {msg : Int} {w : World} (hI : WIn g am nm cm ae ne ce msg w) {d : Nat} {v0 v1 u0 u1 w0 w1 : Value} {a b c : BI (d + 1)} (ha : BRd d w v0 v1 a) (hoka : BOk (d + 1) a) (hb : BRd d w u0 u1 b) (hokb : BOk (d + 1) b) (hc : BRd d w w0 w1 c) (hokc : BOk (d + 1) c) (hW : jWB (d + 1) a + jWB (d + 1) b + jWB (d + 1) c ≤ 1000000000) :
    Calls Tryz.prog 4 #[.agg #[.slice am nm cm, .slice ae ne ce], .int .i64 msg, .agg #[v0, v1], .agg #[u0, u1], .agg #[w0, w1]] w fun e w' => e = .returned (.bool true) ∧ Below w.heap.size w w' := by
  obtain ⟨a0, o0, c0, a1, o1, c1, rfl, rfl⟩ := ha.shape
  obtain ⟨b0, m0, d0, b1, m1, d1, rfl, rfl⟩ := hb.shape
  obtain ⟨h0, i0, j0, h1, i1, j1, rfl, rfl⟩ := hc.shape
  obtain ⟨W4, HW4⟩ : ∃ W4, Hid (W4 = (((w.alloc (.cells #[.slice am nm cm, .slice ae ne ce] 25)).alloc (.cells #[.slice a0 o0 c0, .slice a1 o1 c1] 29)).alloc (.cells #[.slice b0 m0 d0, .slice b1 m1 d1] 29)).alloc (.cells #[.slice h0 i0 j0, .slice h1 i1 j1] 29)) := ⟨_, rfl⟩
  obtain ⟨x0, x1, x2, x3, xz⟩ := alloc4 w (.cells #[.slice am nm cm, .slice ae ne ce] 25) (.cells #[.slice a0 o0 c0, .slice a1 o1 c1] 29) (.cells #[.slice b0 m0 d0, .slice b1 m1 d1] 29) (.cells #[.slice h0 i0 j0, .slice h1 i1 j1] 29)
  rw [← HW4.out] at x0 x1 x2 x3 xz
  have hb4 : Below w.heap.size w W4 := by rw [HW4.out]; exact ((((Below.refl _ _).alloc (Nat.le_refl _) _).alloc (by simp) _).alloc (by simp; omega) _).alloc (by simp; omega) _
  have z4 := Nat.le_of_eq xz.symm
  have hal := alive4_any W4 (hI.tabs.below hb4)
  have hbox : ∀ V, Below W4.heap.size W4 V → (V.cell? ⟨w.heap.size, 0, none⟩ = some (.slice am nm cm) ∧ V.cell? ⟨w.heap.size, 1, none⟩ = some (.slice ae ne ce) ∧ V.cell? ⟨w.heap.size + 1, 0, none⟩ = some (.slice a0 o0 c0) ∧ V.cell? ⟨w.heap.size + 1, 1, none⟩ = some (.slice a1 o1 c1)) ∧ (V.cell? ⟨w.heap.size + 2, 0, none⟩ = some (.slice b0 m0 d0) ∧ V.cell? ⟨w.heap.size + 2, 1, none⟩ = some (.slice b1 m1 d1)) ∧ V.cell? ⟨w.heap.size + 3, 0, none⟩ = some (.slice h0 i0 j0) ∧ V.cell? ⟨w.heap.size + 3, 1, none⟩ = some (.slice h1 i1 j1) := fun V hV => by
    obtain ⟨q0, q1⟩ := blk2 ((hV.block _ (by omega)).trans x0)
    obtain ⟨q2, q3⟩ := blk2 ((hV.block _ (by omega)).trans x1)
    exact ⟨⟨q0, q1, q2, q3⟩, blk2 ((hV.block _ (by omega)).trans x2), blk2 ((hV.block _ (by omega)).trans x3)⟩
  have HI : Hid _ := hI
  have HA : Hid (BRd d w (.slice a0 o0 c0) (.slice a1 o1 c1) a) := ha
  have HB : Hid (BRd d w (.slice b0 m0 d0) (.slice b1 m1 d1) b) := hb
  have HC : Hid (BRd d w (.slice h0 i0 j0) (.slice h1 i1 j1) c) := hc
  have HO : Hid (BOk (d + 1) a ∧ BOk (d + 1) b ∧ BOk (d + 1) c) := ⟨hoka, hokb, hokc⟩
  have HWt : Hid (jWB (d + 1) a + jWB (d + 1) b + jWB (d + 1) c ≤ 1000000000) := hW
  obtain ⟨E1, HE1⟩ : ∃ E1, Hid (jerrN g d msg a b = E1) := ⟨_, rfl⟩
  obtain ⟨E2, HE2⟩ : ∃ E2, Hid (jerrN g d msg b c = E2) := ⟨_, rfl⟩
  obtain ⟨EA, HEA⟩ : ∃ EA, Hid (wrongB g d msg a = EA) := ⟨_, rfl⟩
  have hj1 : ∀ V, Below W4.heap.size W4 V → Calls Tryz.prog 12 #[.agg #[.slice am nm cm, .slice ae ne ce], .int .i64 msg, .agg #[.slice a0 o0 c0, .slice a1 o1 c1], .agg #[.slice b0 m0 d0, .slice b1 m1 d1]] V fun e w' => JnIs g d msg a b E1 V e w' := fun V hV => by
    have hwV : Below w.heap.size w V := BTr hb4 hV
    exact join_is (HI.out.below hwV) (HA.out.below hwV) HO.out.1 (HB.out.below hwV) HO.out.2.1 (by have := HWt.out; omega) HE1.out
  have hj2 : ∀ V, Below W4.heap.size W4 V → Calls Tryz.prog 12 #[.agg #[.slice am nm cm, .slice ae ne ce], .int .i64 msg, .agg #[.slice b0 m0 d0, .slice b1 m1 d1], .agg #[.slice h0 i0 j0, .slice h1 i1 j1]] V fun e w' => JnIs g d msg b c E2 V e w' := fun V hV => by
    have hwV : Below w.heap.size w V := BTr hb4 hV
    exact join_is (HI.out.below hwV) (HB.out.below hwV) HO.out.2.1 (HC.out.below hwV) HO.out.2.2 (by have := HWt.out; omega) HE2.out
  have hwr : ∀ V, Below W4.heap.size W4 V → Calls Tryz.prog 8 #[.agg #[.slice am nm cm, .slice ae ne ce], .int .i64 msg, .agg #[.slice a0 o0 c0, .slice a1 o1 c1]] V fun e w' => e = .returned (.int .i64 EA) ∧ Below V.heap.size V w' := fun V hV => by
    have hwV : Below w.heap.size w V := BTr hb4 hV
    have := (HI.out.below hwV).wrong (HA.out.below hwV) HO.out.1
    rw [HEA.out] at this
    exact this
  clear hI ha hb hc hoka hokb hokc hW x0 x1 x2 x3 xz
  go_enter Tryz.func4, Tryz.ntmps4
  go_wp2_with fail
  rw [← HW4.out]
  refine hal.mono ?_
  rintro e V1 ⟨rfl, hb41⟩
  obtain ⟨⟨q1, q2, q3, q4⟩, ⟨q5, q6⟩, q7, q8⟩ := hbox V1 hb41
  clear hal
  go_wp2_with fail
  refine (hj1 V1 hb41).mono ?_
  rintro e V2 ⟨r0, s0, t0, r1, s1, t1, rfl, HX, hb12⟩
  obtain ⟨U2, HU2⟩ : ∃ U2, Hid (U2 = V2.alloc (.cells #[.slice r0 s0 t0, .slice r1 s1 t1] 29)) := ⟨_, rfl⟩
  have hbU2 : Below V2.heap.size V2 U2 := by rw [HU2.out]; exact (Below.refl _ _).alloc (Nat.le_refl _) _
  have xU2 : U2.heap[V2.heap.size]? = some (.cells #[.slice r0 s0 t0, .slice r1 s1 t1] 29 (0, 0)) := by rw [HU2.out]; exact heap_alloc_new _ _
  have hb42 : Below W4.heap.size W4 U2 := BTr hb41 (BTr hb12 hbU2)
  have lU2 := (Array.getElem?_eq_some_iff.1 xU2).1
  clear q1 q2 q3 q4 q5 q6 q7 q8
  obtain ⟨⟨q1, q2, q3, q4⟩, ⟨q5, q6⟩, q7, q8⟩ := hbox (V2.alloc (.cells #[.slice r0 s0 t0, .slice r1 s1 t1] 29)) (by rw [← HU2.out]; exact hb42)
  go_wp2_with fail
  rw [← HU2.out]
  refine (hj2 U2 hb42).mono ?_
  rintro e V3 ⟨r2, s2, t2, r3, s3, t3, rfl, HY, hb23⟩
  obtain ⟨U3, HU3⟩ : ∃ U3, Hid (U3 = V3.alloc (.cells #[.slice r2 s2 t2, .slice r3 s3 t3] 29)) := ⟨_, rfl⟩
  have hbU3 : Below V3.heap.size V3 U3 := by rw [HU3.out]; exact (Below.refl _ _).alloc (Nat.le_refl _) _
  have xU3 : U3.heap[V3.heap.size]? = some (.cells #[.slice r2 s2 t2, .slice r3 s3 t3] 29 (0, 0)) := by rw [HU3.out]; exact heap_alloc_new _ _
  have hb2U3 : Below U2.heap.size U2 U3 := BTr hb23 hbU3
  have hb43 : Below W4.heap.size W4 U3 := BTr hb42 hb2U3
  have lU3 := (Array.getElem?_eq_some_iff.1 xU3).1
  clear q1 q2 q3 q4 q5 q6 q7 q8
  obtain ⟨⟨q1, q2, q3, q4⟩, ⟨q5, q6⟩, q7, q8⟩ := hbox (V3.alloc (.cells #[.slice r2 s2 t2, .slice r3 s3 t3] 29)) (by rw [← HU3.out]; exact hb43)
  go_wp2_with fail
  rw [← HU3.out]
  refine (hwr U3 hb43).mono ?_
  rintro e V4 ⟨rfl, hb34⟩
  have hb44 : Below W4.heap.size W4 V4 := BTr hb43 hb34
  have HXB : Hid (E1 = 0 → ∃ M, g.msgs[msg.toNat]? = some M ∧ BRd d V4 (.slice r0 s0 t0) (.slice r1 s1 t1) (jnB g.msgs (d + 1) M a b)) := fun hz => by
    obtain ⟨M, h1, h2⟩ := HX.out hz
    exact ⟨M, h1, h2.below (BTr hbU2 (BTr hb2U3 hb34))⟩
  have HYB : Hid (E2 = 0 → ∃ M, g.msgs[msg.toNat]? = some M ∧ BRd d V4 (.slice r2 s2 t2) (.slice r3 s3 t3) (jnB g.msgs (d + 1) M b c)) := fun hz => by
    obtain ⟨M, h1, h2⟩ := HY.out hz
    exact ⟨M, h1, h2.below (BTr hbU3 hb34)⟩
  have hxy : ∀ V, Below V4.heap.size V4 V → (V.cell? ⟨V2.heap.size, 0, none⟩ = some (.slice r0 s0 t0) ∧ V.cell? ⟨V2.heap.size, 1, none⟩ = some (.slice r1 s1 t1)) ∧ V.cell? ⟨V3.heap.size, 0, none⟩ = some (.slice r2 s2 t2) ∧ V.cell? ⟨V3.heap.size, 1, none⟩ = some (.slice r3 s3 t3) := fun V hV => by
    have h3V : Below U3.heap.size U3 V := BTr hb34 hV
    exact ⟨blk2 (((h3V.block _ (Nat.lt_of_lt_of_le lU2 hb2U3.size)).trans (hb2U3.block _ lU2)).trans xU2), blk2 ((h3V.block _ lU3).trans xU3)⟩
  clear q1 q2 q3 q4 q5 q6 q7 q8 hj1 hj2 hwr
  by_cases hEA : EA = 0
  · have eA : (EA == 0) = true := beq_iff_eq.2 hEA
    have hwa : wrongB g d msg a = 0 := HEA.out.trans hEA
    obtain ⟨hrl, hm0, hm1, M, hM, hbea⟩ := wrongB_inv hwa
    have hnil : BRd d V4 (.slice none 0 0) (.slice none 0 0) (nilB d) := ⟨RdL.nil _ _ _, RdL.nil _ _ _⟩
    have hwn : wrongB g d msg (nilB d) = 0 := by
      rw [wrong_of hrl hm0 hm1 hM]
      rfl
    have hE3 : jerrN g d msg a (nilB d) = 0 := by rw [jerr_of hwa hwn hM, join_none]; exact hwa
    have hE4 : jerrN g d msg (nilB d) a = 0 := by rw [jerr_of hwn hwa hM, none_join hbea]; exact hwa
    have hw4 : Below w.heap.size w V4 := BTr hb4 hb44
    have hj3 := join_is (HI.out.below hw4) (HA.out.below hw4) HO.out.1 hnil ok_none (by have := HWt.out; show jWB (d + 1) a + 0 ≤ _; omega) hE3
    have hj4 : ∀ V, Below V4.heap.size V4 V → Calls Tryz.prog 12 #[.agg #[.slice am nm cm, .slice ae ne ce], .int .i64 msg, .agg #[.slice none 0 0, .slice none 0 0], .agg #[.slice a0 o0 c0, .slice a1 o1 c1]] V fun e w' => JnIs g d msg (nilB d) a 0 V e w' := fun V hV => by
      have hwV : Below w.heap.size w V := BTr hw4 hV
      exact join_is (HI.out.below hwV) (hnil.below hV) ok_none (HA.out.below hwV) HO.out.1 (by have := HWt.out; show 0 + jWB (d + 1) a ≤ _; omega) hE4
    have HPL : Hid ((wrongL g).1 = 0 ∧ 0 ≤ msg ∧ msg < (g.msgs.length : Int) ∧ g.msgs[msg.toNat]? = some M ∧ bodyE g (d + 1) 1 M.fields a = 0) := ⟨hrl, hm0, hm1, hM, hbea⟩
    obtain ⟨⟨q1, q2, q3, q4⟩, ⟨q5, q6⟩, q7, q8⟩ := hbox V4 hb44
    clear hwa hrl hm0 hm1 hM hbea hnil hwn hE3 hE4 hEA
    go_wp2_with fail
    refine hj3.mono ?_
    rintro e V5 ⟨p0, y0, z0, p1, y1, z1, rfl, HP, hb45⟩
    obtain ⟨U5, HU5⟩ : ∃ U5, Hid (U5 = V5.alloc (.cells #[.slice p0 y0 z0, .slice p1 y1 z1] 29)) := ⟨_, rfl⟩
    have hbU5 : Below V5.heap.size V5 U5 := by rw [HU5.out]; exact (Below.refl _ _).alloc (Nat.le_refl _) _
    have xU5 : U5.heap[V5.heap.size]? = some (.cells #[.slice p0 y0 z0, .slice p1 y1 z1] 29 (0, 0)) := by rw [HU5.out]; exact heap_alloc_new _ _
    have hb4U5 : Below V4.heap.size V4 U5 := BTr hb45 hbU5
    have lU5 := (Array.getElem?_eq_some_iff.1 xU5).1
    clear q1 q2 q3 q4 q5 q6 q7 q8 hj3
    obtain ⟨⟨q1, q2, q3, q4⟩, ⟨q5, q6⟩, q7, q8⟩ := hbox (V5.alloc (.cells #[.slice p0 y0 z0, .slice p1 y1 z1] 29)) (by rw [← HU5.out]; exact BTr hb44 hb4U5)
    go_wp2_with fail
    rw [← HU5.out]
    refine (hj4 U5 hb4U5).mono ?_
    rintro e V6 ⟨p2, y2, z2, p3, y3, z3, rfl, HQ, hb56⟩
    obtain ⟨U6, HU6⟩ : ∃ U6, Hid (U6 = V6.alloc (.cells #[.slice p2 y2 z2, .slice p3 y3 z3] 29)) := ⟨_, rfl⟩
    have hbU6 : Below V6.heap.size V6 U6 := by rw [HU6.out]; exact (Below.refl _ _).alloc (Nat.le_refl _) _
    have xU6 : U6.heap[V6.heap.size]? = some (.cells #[.slice p2 y2 z2, .slice p3 y3 z3] 29 (0, 0)) := by rw [HU6.out]; exact heap_alloc_new _ _
    have hb5U6 : Below U5.heap.size U5 U6 := BTr hb56 hbU6
    have hb4U6 : Below V4.heap.size V4 U6 := BTr hb4U5 hb5U6
    have lU6 := (Array.getElem?_eq_some_iff.1 xU6).1
    have hpq : ∀ V, Below U6.heap.size U6 V → ((V.cell? ⟨V5.heap.size, 0, none⟩ = some (.slice p0 y0 z0) ∧ V.cell? ⟨V5.heap.size, 1, none⟩ = some (.slice p1 y1 z1)) ∧ V.cell? ⟨V6.heap.size, 0, none⟩ = some (.slice p2 y2 z2) ∧ V.cell? ⟨V6.heap.size, 1, none⟩ = some (.slice p3 y3 z3)) ∧ V.cell? ⟨w.heap.size + 1, 0, none⟩ = some (.slice a0 o0 c0) ∧ V.cell? ⟨w.heap.size + 1, 1, none⟩ = some (.slice a1 o1 c1) ∧ V.cell? ⟨w.heap.size, 0, none⟩ = some (.slice am nm cm) ∧ V.cell? ⟨w.heap.size, 1, none⟩ = some (.slice ae ne ce) := fun V hV => by
      obtain ⟨⟨n1, n2, n3, n4⟩, _, _⟩ := hbox V (BTr hb44 (BTr hb4U6 hV))
      exact ⟨⟨blk2 (((hV.block _ (Nat.lt_of_lt_of_le lU5 hb5U6.size)).trans (hb5U6.block _ lU5)).trans xU5), blk2 ((hV.block _ lU6).trans xU6)⟩, n3, n4, n1, n2⟩
    have hs1 : ∀ V, Below U6.heap.size U6 V → Calls Tryz.prog 10 #[.agg #[.slice p0 y0 z0, .slice p1 y1 z1], .agg #[.slice a0 o0 c0, .slice a1 o1 c1]] V fun e w' => e = .returned (.bool true) ∧ Below U6.heap.size U6 w' := fun V hV => by
      obtain ⟨M', _, h2⟩ := HP.out (by trivial)
      rw [join_none] at h2
      exact (body_same (h2.below (BTr hbU5 (BTr hb5U6 hV))) (HA.out.below (BTr hw4 (BTr hb4U6 hV)))).mono fun e w' ⟨h1, h2⟩ => ⟨h1, BTr hV h2⟩
    have hs2 : ∀ V, Below U6.heap.size U6 V → Calls Tryz.prog 10 #[.agg #[.slice p2 y2 z2, .slice p3 y3 z3], .agg #[.slice a0 o0 c0, .slice a1 o1 c1]] V fun e w' => e = .returned (.bool true) ∧ Below U6.heap.size U6 w' := fun V hV => by
      obtain ⟨M', hM', h2⟩ := HQ.out (by trivial)
      obtain ⟨_, _, _, hM, hbea⟩ := HPL.out
      obtain rfl : M = M' := by rw [hM] at hM'; exact Option.some.inj hM'
      rw [none_join hbea] at h2
      exact (body_same (h2.below (BTr hbU6 hV)) (HA.out.below (BTr hw4 (BTr hb4U6 hV)))).mono fun e w' ⟨h1, h2⟩ => ⟨h1, BTr hV h2⟩
    have hmx : ∀ V, Below U6.heap.size U6 V → Calls Tryz.prog 22 #[.agg #[.slice am nm cm, .slice ae ne ce]] V fun e w' => e = .returned (.bool (mixB g)) ∧ Below U6.heap.size U6 w' := fun V hV => (mixed_any (HI.out.hg.below (BTr hw4 (BTr hb4U6 hV)))).mono fun e w' ⟨h1, h2⟩ => ⟨h1, BTr hV h2⟩
    clear q1 q2 q3 q4 q5 q6 q7 q8 hj4
    obtain ⟨⟨⟨g1, g2⟩, g3, g4⟩, g5, g6, g7, g8⟩ := hpq (V6.alloc (.cells #[.slice p2 y2 z2, .slice p3 y3 z3] 29)) (by rw [← HU6.out]; exact Below.refl _ _)
    go_wp2_with fail
    rw [← HU6.out]
    refine (hs1 U6 (Below.refl _ _)).mono ?_
    rintro e V7 ⟨rfl, hb67⟩
    clear g1 g2 g3 g4 g5 g6 g7 g8
    obtain ⟨⟨⟨g1, g2⟩, g3, g4⟩, g5, g6, g7, g8⟩ := hpq V7 hb67
    go_wp2_with fail
    refine (hs2 V7 hb67).mono ?_
    rintro e V8 ⟨rfl, hb68⟩
    clear g1 g2 g3 g4 g5 g6 g7 g8 hs1 hs2
    obtain ⟨⟨⟨g1, g2⟩, g3, g4⟩, g5, g6, g7, g8⟩ := hpq V8 hb68
    have hfin : Below w.heap.size w V8 := BTr hw4 (BTr hb4U6 hb68)
    by_cases hz1 : E1 = 0
    · by_cases hz2 : E2 = 0
      · subst hz1 hz2
        have e1 : ((0 : Int) != 0) = false := rfl
        obtain ⟨mx, Hmx⟩ : ∃ mx, Hid (mixB g = mx) := ⟨_, rfl⟩
        have hm := hmx V8 hb68
        rw [Hmx.out] at hm
        cases mx with
        | true =>
          go_wp2_with fail
          refine hm.mono ?_
          rintro e V9 ⟨rfl, hb69⟩
          go_wp2
          go_ret
          exact ⟨rfl, BTr hw4 (BTr hb4U6 hb69)⟩
        | false =>
          -- all is right
          obtain ⟨hrl, hm0, hm1, hM, hbea⟩ := HPL.out
          have hMm : M ∈ g.msgs := List.mem_of_getElem? hM
          obtain ⟨k1, k2, M1, hM1, k3⟩ := jerr_zero HE1.out
          obtain rfl : M = M1 := by rw [hM] at hM1; exact Option.some.inj hM1
          obtain ⟨k4, k5, M2, hM2, k6⟩ := jerr_zero HE2.out
          obtain rfl : M = M2 := by rw [hM] at hM2; exact Option.some.inj hM2
          have z5 := jerr_z5 k3 k5
          have z6 := jerr_z5 k1 k6
          have HAS : Hid (jnB g.msgs (d + 1) M (jnB g.msgs (d + 1) M a b) c = jnB g.msgs (d + 1) M a (jnB g.msgs (d + 1) M b c)) := by
            have l2 := k2
            have l5 := k5
            have l6 := k6
            rw [wrong_of hrl hm0 hm1 hM] at l2 l5 l6
            exact join_assoc hrl (mix_no Hmx.out) (d + 1) 1 M a b c hMm hbea l2 l5 l6
          obtain ⟨M3, hM3, hXr⟩ := HXB.out (by trivial)
          obtain rfl : M = M3 := by rw [hM] at hM3; exact Option.some.inj hM3
          obtain ⟨M4, hM4, hYr⟩ := HYB.out (by trivial)
          obtain rfl : M = M4 := by rw [hM] at hM4; exact Option.some.inj hM4
          have hokX : BOk (d + 1) (jnB g.msgs (d + 1) M a b) := join_ok HO.out.1 HO.out.2.1 (by have := HWt.out; omega)
          have hokY : BOk (d + 1) (jnB g.msgs (d + 1) M b c) := join_ok HO.out.2.1 HO.out.2.2 (by have := HWt.out; omega)
          have hwX := join_w g.msgs (d + 1) M a b
          have hwY := join_w g.msgs (d + 1) M b c
          obtain ⟨E5, HE5⟩ : ∃ E5, Hid (jerrN g d msg (jnB g.msgs (d + 1) M a b) c = E5) := ⟨_, rfl⟩
          obtain ⟨E6, HE6⟩ : ∃ E6, Hid (jerrN g d msg a (jnB g.msgs (d + 1) M b c) = E6) := ⟨_, rfl⟩
          rw [HE5.out] at z5
          rw [HE6.out] at z6
          have hj5 : ∀ V, Below V4.heap.size V4 V → Calls Tryz.prog 12 #[.agg #[.slice am nm cm, .slice ae ne ce], .int .i64 msg, .agg #[.slice r0 s0 t0, .slice r1 s1 t1], .agg #[.slice h0 i0 j0, .slice h1 i1 j1]] V fun e w' => JnIs g d msg (jnB g.msgs (d + 1) M a b) c E5 V e w' := fun V hV => by
            have hwV : Below w.heap.size w V := BTr hw4 hV
            exact join_is (HI.out.below hwV) (hXr.below hV) hokX (HC.out.below hwV) HO.out.2.2 (by have := HWt.out; omega) HE5.out
          have hj6 : ∀ V, Below V4.heap.size V4 V → Calls Tryz.prog 12 #[.agg #[.slice am nm cm, .slice ae ne ce], .int .i64 msg, .agg #[.slice a0 o0 c0, .slice a1 o1 c1], .agg #[.slice r2 s2 t2, .slice r3 s3 t3]] V fun e w' => JnIs g d msg a (jnB g.msgs (d + 1) M b c) E6 V e w' := fun V hV => by
            have hwV : Below w.heap.size w V := BTr hw4 hV
            exact join_is (HI.out.below hwV) (HA.out.below hwV) HO.out.1 (hYr.below hV) hokY (by have := HWt.out; omega) HE6.out
          have HM : Hid (g.msgs[msg.toNat]? = some M) := hM
          clear hrl hm0 hm1 hM hbea hMm k1 k2 k3 k4 k5 k6 hM1 hM2 hM3 hM4 hXr hYr hokX hokY hwX hwY
          go_wp2_with fail
          refine hm.mono ?_
          rintro e V9 ⟨rfl, hb69⟩
          have hb49 : Below V4.heap.size V4 V9 := BTr hb4U6 hb69
          clear g1 g2 g3 g4 g5 g6 g7 g8 hm hmx hpq
          obtain ⟨⟨q1, q2, q3, q4⟩, ⟨q5, q6⟩, q7, q8⟩ := hbox V9 (BTr hb44 hb49)
          obtain ⟨⟨w1', w2'⟩, w3', w4'⟩ := hxy V9 hb49
          go_wp2_with fail
          refine (hj5 V9 hb49).mono ?_
          rintro e Va ⟨k0, l0, n0, k1, l1, n1, rfl, HP5, hb9a⟩
          obtain ⟨Ua, HUa⟩ : ∃ Ua, Hid (Ua = Va.alloc (.cells #[.slice k0 l0 n0, .slice k1 l1 n1] 29)) := ⟨_, rfl⟩
          have hbUa : Below Va.heap.size Va Ua := by rw [HUa.out]; exact (Below.refl _ _).alloc (Nat.le_refl _) _
          have xUa : Ua.heap[Va.heap.size]? = some (.cells #[.slice k0 l0 n0, .slice k1 l1 n1] 29 (0, 0)) := by rw [HUa.out]; exact heap_alloc_new _ _
          have hb4a : Below V4.heap.size V4 Ua := BTr hb49 (BTr hb9a hbUa)
          have lUa := (Array.getElem?_eq_some_iff.1 xUa).1
          clear q1 q2 q3 q4 q5 q6 q7 q8 w1' w2' w3' w4'
          obtain ⟨⟨q1, q2, q3, q4⟩, ⟨q5, q6⟩, q7, q8⟩ := hbox (Va.alloc (.cells #[.slice k0 l0 n0, .slice k1 l1 n1] 29)) (by rw [← HUa.out]; exact BTr hb44 hb4a)
          obtain ⟨⟨w1', w2'⟩, w3', w4'⟩ := hxy (Va.alloc (.cells #[.slice k0 l0 n0, .slice k1 l1 n1] 29)) (by rw [← HUa.out]; exact hb4a)
          go_wp2_with fail
          rw [← HUa.out]
          refine (hj6 Ua hb4a).mono ?_
          rintro e Vb ⟨k2, l2, n2, k3, l3, n3, rfl, HP6, hbab⟩
          obtain ⟨Ub, HUb⟩ : ∃ Ub, Hid (Ub = Vb.alloc (.cells #[.slice k2 l2 n2, .slice k3 l3 n3] 29)) := ⟨_, rfl⟩
          have hbUb : Below Vb.heap.size Vb Ub := by rw [HUb.out]; exact (Below.refl _ _).alloc (Nat.le_refl _) _
          have hbaUb : Below Ua.heap.size Ua Ub := BTr hbab hbUb
          have hwb : Below w.heap.size w Ub := BTr hw4 (BTr hb4a hbaUb)
          have xUab := (hbaUb.block _ lUa).trans xUa
          obtain ⟨f1, f2⟩ := blk2 (show (Vb.alloc (.cells #[.slice k2 l2 n2, .slice k3 l3 n3] 29)).heap[Va.heap.size]? = _ by rw [← HUb.out]; exact xUab)
          clear q1 q2 q3 q4 q5 q6 q7 q8 w1' w2' w3' w4' hj5 hj6 hbox hxy
          rcases z5 with rfl | rfl
          · rcases z6 with rfl | rfl
            · have e5 : ((0 : Int) == 5) = false := rfl
              have e6 : ((0 : Int) == 0) = true := rfl
              have hsm : Calls Tryz.prog 10 #[.agg #[.slice k0 l0 n0, .slice k1 l1 n1], .agg #[.slice k2 l2 n2, .slice k3 l3 n3]] Ub fun e w' => e = .returned (.bool true) ∧ Below Ub.heap.size Ub w' := by
                obtain ⟨M5, hM5, h5⟩ := HP5.out (by trivial)
                obtain rfl : M = M5 := by have := HM.out; rw [this] at hM5; exact Option.some.inj hM5
                obtain ⟨M6, hM6, h6⟩ := HP6.out (by trivial)
                obtain rfl : M = M6 := by have := HM.out; rw [this] at hM6; exact Option.some.inj hM6
                rw [HAS.out] at h5
                exact body_same (h5.below (BTr hbUa hbaUb)) (h6.below hbUb)
              go_wp2_with fail
              rw [← HUb.out]
              refine hsm.mono ?_
              rintro e Vc ⟨rfl, hbbc⟩
              go_wp2
              go_ret
              exact ⟨rfl, BTr hwb hbbc⟩
            · have e5 : ((0 : Int) == 5) = false := rfl
              have e6 : ((5 : Int) == 5) = true := rfl
              go_wp2_with fail
              rw [← HUb.out]
              go_ret
              exact ⟨rfl, hwb⟩
          · have e5 : ((5 : Int) == 5) = true := rfl
            go_wp2_with fail
            rw [← HUb.out]
            go_ret
            exact ⟨rfl, hwb⟩
      · have e1 : (E1 != 0) = false := by simp [hz1]
        have e2 : (E2 != 0) = true := by simpa using hz2
        go_wp2
        go_ret
        exact ⟨rfl, hfin⟩
    · have e1 : (E1 != 0) = true := by simpa using hz1
      go_wp2
      go_ret
      exact ⟨rfl, hfin⟩
  · have eA : (EA == 0) = false := beq_eq_false_iff_ne.2 hEA
    have hE1 : E1 ≠ 0 := fun h => hEA (by rw [← HEA.out]; exact (jerr_zero (HE1.out.trans h)).1)
    have e1 : (E1 != 0) = true := by simpa using hE1
    go_wp2
    go_ret
    exact ⟨rfl, BTr hb4 hb44⟩

end L
end Go.Proofs.YtelmjekjohbmjaaGreatDoor

