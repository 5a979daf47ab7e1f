import Derived.Test.YtelmjekjohbmjaaGreatDoorTPlusq
import Derived.Test.YtelmjekjohbmjaaGreatDoorTWaq
import Derived.Test.YtelmjekjohbmjaaGreatDoorBJoinq
import Derived.Test.YtelmjekjohbmjaaGreatDoorBJoinLq
import Derived.Test.YtelmjekjohbmjaaGreatDoorM12
import Derived.Test.YtelmjekjohbmjaaGreatDoorM28
import Derived.Deep.RegionHeld3
import Derived.Deep.CutRange
import Derived.Deep.DeepCutAuto
import Derived.Test.YtelmjekjohbmjaaGreatDoorM18
import Derived.Test.YtelmjekjohbmjaaGreatDoorM36
import Derived.Laws.StructEq
import Derived.Deep.QuietTactic
import Derived.BigQuiet
/- The document's own answer: Join. -/
namespace Go.Proofs.YtelmjekjohbmjaaGreatDoor
namespace L
open Go.RowKit
set_option linter.unusedVariables false

def RJoinOut (g : GI) (d : Nat) (msg : Int) (a b : BI (d + 1)) (e : Ending) (w' : World) : Prop :=
  (jerrN g d msg a b ≠ 0 ∧ e = .returned (.tuple #[.agg #[.slice none 0 0, .slice none 0 0], .int .i64 (jerrN g d msg a b)])) ∨
  (jerrN g d msg a b = 0 ∧ ∃ (M : MI) (e0 : Option Addr) (f0 g0 : Nat) (e1 : Option Addr) (f1 g1 : Nat), g.msgs[msg.toNat]? = some M ∧ e = .returned (.tuple #[.agg #[.slice e0 f0 g0, .slice e1 f1 g1], .int .i64 0]) ∧ BRd d w' (.slice e0 f0 g0) (.slice e1 f1 g1) (jnB g.msgs (d + 1) M a b))
set_option maxHeartbeats 8000000 in
set_option maxRecDepth 100000 in
theorem rjoin_any {g : GI} {am : Option Addr} {nm cm : Nat} {ae : Option Addr} {ne ce : Nat} {msg : Int} {w : World} (hI : WIn g am nm cm ae ne ce msg w) {d : Nat} {v0 v1 u0 u1 : Value} {a b : BI (d + 1)} (ha : BRd d w v0 v1 a) (hoka : BOk (d + 1) a) (hb : BRd d w u0 u1 b) (hokb : BOk (d + 1) b) (hW : jWB (d + 1) a + jWB (d + 1) b ≤ 1000000000) :
    Calls Tryz.prog 13 #[.agg #[.slice am nm cm, .slice ae ne ce], .int .i64 msg, .agg #[v0, v1], .agg #[u0, u1]] w fun e w' => Below w.heap.size w w' ∧ RJoinOut g d msg a b e w' := by
  obtain ⟨a0, n0, c0, a1, n1, c1, rfl, rfl⟩ := ha.shape
  obtain ⟨b0, m0, d0, b1, m1, d1, rfl, rfl⟩ := hb.shape
  obtain ⟨W1, HW1⟩ : ∃ W1, Hid (W1 = (((w.alloc (.cells #[.slice am nm cm, .slice ae ne ce] 25)).alloc (.cells #[.slice a0 n0 c0, .slice a1 n1 c1] 29)).alloc (.cells #[.slice b0 m0 d0, .slice b1 m1 d1] 29)).alloc (.cells #[.slice none 0 0, .slice none 0 0] 29)) := ⟨_, rfl⟩
  obtain ⟨xf, xa, xb, xr, z0⟩ := alloc4T w (.cells #[.slice am nm cm, .slice ae ne ce] 25) (.cells #[.slice a0 n0 c0, .slice a1 n1 c1] 29) (.cells #[.slice b0 m0 d0, .slice b1 m1 d1] 29) (.cells #[.slice none 0 0, .slice none 0 0] 29)
  rw [← HW1.out] at xf xa xb xr z0
  have hb1 : Below w.heap.size w W1 := by rw [HW1.out]; exact ((((Below.refl _ _).alloc (Nat.le_refl _) _).alloc (by simp) _).alloc (by simp; omega) _).alloc (by simp; omega) _
  have hz1 : w.heap.size + 4 ≤ W1.heap.size := Nat.le_of_eq z0.symm
  have hcl : ∀ V, Below W1.heap.size W1 V → (V.cell? ⟨w.heap.size, 0, none⟩ = some (.slice am nm cm) ∧ V.cell? ⟨w.heap.size, 1, none⟩ = some (.slice ae ne ce)) ∧ (V.cell? ⟨w.heap.size + 1, 0, none⟩ = some (.slice a0 n0 c0) ∧ V.cell? ⟨w.heap.size + 1, 1, none⟩ = some (.slice a1 n1 c1)) ∧ (V.cell? ⟨w.heap.size + 2, 0, none⟩ = some (.slice b0 m0 d0) ∧ V.cell? ⟨w.heap.size + 2, 1, none⟩ = some (.slice b1 m1 d1)) ∧ (V.cell? ⟨w.heap.size + 3, 0, none⟩ = some (.slice none 0 0) ∧ V.cell? ⟨w.heap.size + 3, 1, none⟩ = some (.slice none 0 0)) ∧ ∀ i, V.frozen? ⟨w.heap.size + 3, i, none⟩ = false := fun V hV =>
    ⟨blk2 ((hV.block _ (by omega)).trans xf), blk2 ((hV.block _ (by omega)).trans xa), blk2 ((hV.block _ (by omega)).trans xb), blk2 ((hV.block _ (by omega)).trans xr), fr_of_blk ((hV.block _ (by omega)).trans xr)⟩
  have hwrong : ∀ V (x : BI (d + 1)) q0 q1, Below w.heap.size w V → BRd d V q0 q1 x → BOk (d + 1) x → Calls Tryz.prog 9 #[.agg #[.slice am nm cm, .slice ae ne ce], .int .i64 msg, .agg #[q0, q1]] V fun r w' => r = .returned (.int .i64 (wrongB g d msg x)) ∧ Below V.heap.size V w' := fun V x q0 q1 hV hx hok => by
    have hI' := hI.below hV
    exact rwrongAll_any hI'.hg hI'.n1 hI'.n2 hI'.fit hx hok (fun m hm y hy => ((hI'.fok m hm).1 y hy).2) hI'.m1 hI'.m2
  have hwa := hwrong W1 a _ _ hb1 (ha.below hb1) hoka
  obtain ⟨⟨q0, q1⟩, ⟨q2, q3⟩, ⟨q4, q5⟩, ⟨q6, q7⟩, f0⟩ := hcl W1 (Below.refl _ _)
  obtain ⟨E, HE⟩ : ∃ E, Hid (jerrN g d msg a b = E) := ⟨_, rfl⟩
  unfold RJoinOut
  rw [HE.out]
  by_cases hA : wrongB g d msg a = 0
  · rw [hA] at hwa
    by_cases hB : wrongB g d msg b = 0
    · obtain ⟨hr, hm1, hm2, M, hM, hra⟩ := wrongB_inv hA
      obtain ⟨_, _, _, M', hM', hrb⟩ := wrongB_inv hB
      rw [hM] at hM'
      cases hM'
      obtain ⟨j, rfl⟩ : ∃ j : Nat, msg = (j : Int) := ⟨msg.toNat, by omega⟩
      have hj : g.msgs[j]? = some M := by simpa using hM
      have hmm : M ∈ g.msgs := List.mem_of_getElem? hj
      have HEC : Hid (E = wrongB g d (j : Int) (jnB g.msgs (d + 1) M a b)) := by
        show _ = _
        rw [← HE.out]
        unfold jerrN
        have h0 : firstE (wrongB g d (j : Int)) [a, b] = 0 := by unfold firstE; rw [if_pos hA]; unfold firstE; rw [if_pos hB]; rfl
        rw [if_neg (by rw [h0]; simp), hM]
      have hplus : ∀ V, Below w.heap.size w V → Calls Tryz.prog 36 #[.agg #[.slice am nm cm, .slice ae ne ce], .int .i64 (j : Int), .agg #[.slice a0 n0 c0, .slice a1 n1 c1], .agg #[.slice b0 m0 d0, .slice b1 m1 d1]] V fun e w' => ∃ (a0 : Option Addr) (n0 c0 : Nat) (a1 : Option Addr) (n1 c1 : Nat), e = .returned (.agg #[.slice a0 n0 c0, .slice a1 n1 c1]) ∧ (∀ u', Over w V w' u' → BRd d u' (.slice a0 n0 c0) (.slice a1 n1 c1) (jnB g.msgs (d + 1) M a b)) ∧ Below V.heap.size V w' := fun V hV => by
        refine (rplusTold hI.hg (d + 1) w V j M _ _ _ _ a b (Sub.of hV) hV hj ha hb (right_gd (right_subs hr) (d + 1) 1 M a hmm hra) (right_gd (right_subs hr) (d + 1) 1 M b hmm hrb) hW).mono ?_
        rintro e w' ⟨i0, i1, i2, i3, i4, i5, rfl, ho, hbw⟩
        exact ⟨i0, i1, i2, i3, i4, i5, rfl, ho, hbw⟩
      have hokc : BOk (d + 1) (jnB g.msgs (d + 1) M a b) := join_ok hoka hokb hW
      obtain ⟨C, HC⟩ : ∃ C, Hid (jnB g.msgs (d + 1) M a b = C) := ⟨_, rfl⟩
      rw [HC.out] at hplus hokc HEC
      have HM : Hid (g.msgs[((j : Nat) : Int).toNat]? = some M) := hM
      have hwb : ∀ V, Below w.heap.size w V → Calls Tryz.prog 9 #[.agg #[.slice am nm cm, .slice ae ne ce], .int .i64 (j : Int), .agg #[.slice b0 m0 d0, .slice b1 m1 d1]] V fun r w' => r = .returned (.int .i64 0) ∧ Below V.heap.size V w' := fun V hV => by
        have := hwrong V b _ _ hV (hb.below hV) hokb
        rw [hB] at this
        exact this
      clear hA hB hra hrb hM hj hmm hr hm1 hm2 ha hb hI hoka hokb hW xf xa xb xr z0
      go_enter Tryz.func13, Tryz.ntmps13
      go_upto_region 1 with fail
      rw [← HW1.out]
      go_wp2_with fail
      refine hwa.mono ?_
      rintro r w2 ⟨rfl, hb2⟩
      clear q0 q1 q2 q3 q4 q5 q6 q7 f0
      obtain ⟨⟨q0, q1⟩, ⟨q2, q3⟩, ⟨q4, q5⟩, ⟨q6, q7⟩, f0⟩ := hcl w2 hb2
      have hwb2 := hwb w2 (BTr hb1 hb2)
      go_wp2_with fail
      refine hwb2.mono ?_
      rintro r w3 ⟨rfl, hb3⟩
      have hB3 := BTr hb2 hb3
      clear q0 q1 q2 q3 q4 q5 q6 q7 f0
      obtain ⟨⟨q0, q1⟩, ⟨q2, q3⟩, ⟨q4, q5⟩, ⟨q6, q7⟩, f0⟩ := hcl w3 hB3
      have hpl := hplus w3 (BTr hb1 hB3)
      go_wp2_with fail
      refine hpl.mono ?_
      rintro r w4 ⟨i0, i1, i2, i3, i4, i5, rfl, hov, hb4⟩
      have hrd := hov w4 ⟨Sub.of (BTr (BTr hb1 hB3) hb4), fun _ _ _ => rfl⟩
      have hB4 := BTr hB3 hb4
      obtain ⟨W5, HW5⟩ : ∃ W5, Hid (W5 = w4.alloc (.cells #[.slice i0 i1 i2, .slice i3 i4 i5] 29)) := ⟨_, rfl⟩
      have hb5 : Below w4.heap.size w4 W5 := by rw [HW5.out]; exact (Below.refl _ _).alloc (Nat.le_refl _) _
      have x5 : W5.heap[w4.heap.size]? = some (.cells #[.slice i0 i1 i2, .slice i3 i4 i5] 29 (0, 0)) := by rw [HW5.out]; exact heap_alloc_new _ _
      have hz5 : w4.heap.size < W5.heap.size := (Array.getElem?_eq_some_iff.1 x5).1
      have hB5 := BTr hB4 hb5
      have hwc := hwrong W5 C _ _ (BTr hb1 hB5) (hrd.below hb5) hokc
      rw [← HEC.out] at hwc
      clear q0 q1 q2 q3 q4 q5 q6 q7 f0
      go_upto_region 8 with fail
      rw [← HW5.out]
      obtain ⟨⟨q0, q1⟩, ⟨q2, q3⟩, ⟨q4, q5⟩, ⟨q6, q7⟩, f0⟩ := hcl W5 hB5
      obtain ⟨y0, y1⟩ := blk2 x5
      go_wp2_with fail
      refine hwc.mono ?_
      rintro r w6 ⟨rfl, hb6⟩
      have hB6 := BTr hB5 hb6
      clear q0 q1 q2 q3 q4 q5 q6 q7 f0 y0 y1
      obtain ⟨⟨q0, q1⟩, ⟨q2, q3⟩, ⟨q4, q5⟩, ⟨q6, q7⟩, f0⟩ := hcl w6 hB6
      obtain ⟨y0, y1⟩ := blk2 ((hb6.block _ hz5).trans x5)
      have hBF := BTr hb1 hB6
      have hzw := hB6.size
      by_cases hE : E = 0
      · have ez : (E != 0) = false := by simp [hE]
        have HEZ : Hid (E = 0) := hE
        have hne : ¬ w4.heap.size = w.heap.size + 3 := by have := hB4.size; omega
        have HOV : Hid (∀ u', Over w w3 w4 u' → BRd d u' (.slice i0 i1 i2) (.slice i3 i4 i5) C) := hov
        have hz3 := hB3.size
        have hz4 := hb4.size
        clear hE hrd hov
        go_wp2_with fail
        refine bodyPost_ret (v := .tuple #[.agg #[.slice i0 i1 i2, .slice i3 i4 i5], .int .i64 0]) (by simp [results, Tryz.results13, go_sem, *]) rfl ?_
        refine ⟨b4set (b4set hBF (by omega)) (by omega), .inr ⟨HEZ.out, M, i0, i1, i2, i3, i4, i5, HM.out, rfl, ?_⟩⟩
        rw [HC.out]
        refine HOV.out _ ⟨Sub.of ?_, fun k h1 h2 => ?_⟩
        · exact b4set (b4set hBF (by omega)) (by omega)
        rw [Below.heap_setCell _ _ _ k (by show k ≠ w.heap.size + 3; omega), Below.heap_setCell _ _ _ k (by show k ≠ w.heap.size + 3; omega), hb6.block k (by omega), hb5.block k h2]
      · have ez : (E != 0) = true := by simpa using hE
        have HEZ : Hid (E ≠ 0) := hE
        clear hE
        go_wp2_with fail
        refine bodyPost_ret (v := .tuple #[.agg #[.slice none 0 0, .slice none 0 0], .int .i64 E]) (by simp [results, Tryz.results13, go_sem, *]) rfl ?_
        exact ⟨b4set (b4set hBF (by omega)) (by omega), .inl ⟨HEZ.out, rfl⟩⟩
    · have HEB : Hid (wrongB g d msg b = E) := by
        show _ = _
        rw [← HE.out]
        unfold jerrN
        have h0 : firstE (wrongB g d msg) [a, b] = wrongB g d msg b := by unfold firstE; rw [if_pos hA]; unfold firstE; rw [if_neg hB]
        rw [h0, if_pos hB]
      have hE : E ≠ 0 := by rw [← HEB.out]; exact hB
      have ez : (E != 0) = true := by simpa using hE
      have HEZ : Hid (E ≠ 0) := hE
      have hwb : ∀ V, Below w.heap.size w V → Calls Tryz.prog 9 #[.agg #[.slice am nm cm, .slice ae ne ce], .int .i64 msg, .agg #[.slice b0 m0 d0, .slice b1 m1 d1]] V fun r w' => r = .returned (.int .i64 E) ∧ Below V.heap.size V w' := fun V hV => by
        have := hwrong V b _ _ hV (hb.below hV) hokb
        rw [HEB.out] at this
        exact this
      clear hA hB hE ha hb hI hoka hokb hW xf xa xb xr z0
      go_enter Tryz.func13, Tryz.ntmps13
      go_upto_region 1 with fail
      rw [← HW1.out]
      go_wp2_with fail
      refine hwa.mono ?_
      rintro r w2 ⟨rfl, hb2⟩
      clear q0 q1 q2 q3 q4 q5 q6 q7 f0
      obtain ⟨⟨q0, q1⟩, ⟨q2, q3⟩, ⟨q4, q5⟩, ⟨q6, q7⟩, f0⟩ := hcl w2 hb2
      have hwb2 := hwb w2 (BTr hb1 hb2)
      go_wp2_with fail
      refine hwb2.mono ?_
      rintro r w3 ⟨rfl, hb3⟩
      have hB3 := BTr hb2 hb3
      clear q0 q1 q2 q3 q4 q5 q6 q7 f0
      obtain ⟨⟨q0, q1⟩, ⟨q2, q3⟩, ⟨q4, q5⟩, ⟨q6, q7⟩, f0⟩ := hcl w3 hB3
      have hBF := BTr hb1 hB3
      go_wp2_with fail
      refine bodyPost_ret (v := .tuple #[.agg #[.slice none 0 0, .slice none 0 0], .int .i64 E]) (by simp [results, Tryz.results13, go_sem, *]) rfl ?_
      exact ⟨b4set (b4set hBF (by omega)) (by omega), .inl ⟨HEZ.out, rfl⟩⟩
  · have HEA : Hid (wrongB g d msg a = E) := by
      show _ = _
      rw [← HE.out]
      unfold jerrN
      have h0 : firstE (wrongB g d msg) [a, b] = wrongB g d msg a := by unfold firstE; rw [if_neg hA]
      rw [h0, if_pos hA]
    have hE : E ≠ 0 := by rw [← HEA.out]; exact hA
    have ez : (E != 0) = true := by simpa using hE
    have HEZ : Hid (E ≠ 0) := hE
    rw [HEA.out] at hwa
    clear hA hE ha hb hI hoka hokb hW xf xa xb xr z0
    go_enter Tryz.func13, Tryz.ntmps13
    go_upto_region 1 with fail
    rw [← HW1.out]
    go_wp2_with fail
    refine hwa.mono ?_
    rintro r w2 ⟨rfl, hb2⟩
    clear q0 q1 q2 q3 q4 q5 q6 q7 f0
    obtain ⟨⟨q0, q1⟩, ⟨q2, q3⟩, ⟨q4, q5⟩, ⟨q6, q7⟩, f0⟩ := hcl w2 hb2
    have hBF := BTr hb1 hb2
    go_wp2_with fail
    refine bodyPost_ret (v := .tuple #[.agg #[.slice none 0 0, .slice none 0 0], .int .i64 E]) (by simp [results, Tryz.results13, go_sem, *]) rfl ?_
    exact ⟨b4set (b4set hBF (by omega)) (by omega), .inl ⟨HEZ.out, rfl⟩⟩

end L
end Go.Proofs.YtelmjekjohbmjaaGreatDoor

/- body.Set: a value put into a body, both copied first. -/
namespace Go.Proofs.YtelmjekjohbmjaaGreatDoor
namespace L
open Go.RowKit
set_option linter.unusedVariables false

/-- put, onto a body of the call's own, of a value of the call's own. -/
theorem bput_own {d : Nat} {w : World} {base : Nat} {fs : List FI} {vf vb nm : Value} {b : BL (LB d)} {y : VL (LB d)} {x : FI} (hf : RdL 6 FAt w vf fs) (fok : ∀ f ∈ fs, I64 f.number ∧ I64 f.choice) (fl : fs.length ≤ 140737488355328) (hvb : ∃ ao n cap, vb = .slice ao n cap) (hnm : ∃ s : List UInt8, nm = .string (S s)) (hb : OwnL (ekB d) (OwnB base d) w base b) (hnd : (LB.fp (d + 1) b).Nodup) (hy : OwnV (ekB d) (OwnB base d) w base y) (hap : ∀ k ∈ LB.fp (d + 1) b, k ∉ VL.fp (LB.fp d) y) (hnum : ∀ a ∈ b.vals, I64 a.number) (hlen : (b.vals.length + 1) * 80 ≤ 140737488355328) (hB : base ≤ w.heap.size) (hx : fs.find? (isF y.number) = some x) (hl1 : y.bits.length ≤ 140737488355328) (hl2 : y.bytes.length ≤ 140737488355328) (hl3 : y.subs.length ≤ 140737488355328) (hnu : I64 y.number) :
    Calls Tryz.prog 43 #[.agg #[nm, vf, vb], .agg #[b.q0.v, b.q1.v], .agg #[.int .i64 y.number, y.p1.v, y.p2.v, y.p3.v]] w fun e w' =>
      ∃ (l : List (VL (LB d))) (a' : Option Addr) (n' c' : Nat), e = .returned (.agg #[.slice a' n' c', b.q1.v]) ∧ l.map (VL.pl (LB.pl d)) = putN fs x (b.vals.map (VL.pl (LB.pl d))) (VL.pl (LB.pl d) y) ∧ OwnL (ekB d) (OwnB base d) w' base ⟨l, b.unk, (a', n', c'), b.q1⟩ ∧ FrB (own1 b.q0) w w' := by
  have on : ∀ k, (own1 b.q0).count k + (own1 b.q1).count k + (b.vals.flatMap (VL.fp (LB.fp d))).count k ≤ 1 := fun k => by
    have h := List.nodup_iff_count.1 hnd k
    have e : LB.fp (d + 1) b = own1 b.q0 ++ own1 b.q1 ++ b.vals.flatMap (VL.fp (LB.fp d)) := rfl
    rw [e, List.count_append, List.count_append] at h
    exact h
  have inb : ∀ k, k ∈ own1 b.q0 → k ∈ LB.fp (d + 1) b := fun k hk => by
    show k ∈ own1 b.q0 ++ own1 b.q1 ++ b.vals.flatMap (VL.fp (LB.fp d))
    exact List.mem_append_left _ (List.mem_append_left _ hk)
  have hin : PutIn d w base fs vf b y := ⟨hf, fok, fl, hb.shy, hy.shy, fun k hk => ⟨fun hm => ?_, fun a ha hm => ?_, fun hm => hap k (inb k hk) (fp_T hm)⟩, hnum, hlen, hB⟩
  · have hk' : ∃ k, fs.findIdx? (fun f => decide (f.number = y.number)) = some k ∧ fs[k]? = some x := by
      have hx' : fs.find? (fun f => decide (f.number = y.number)) = some x := hx
      rw [List.find?_eq_getElem?_findIdx] at hx'
      have hlt : fs.findIdx (fun f => decide (f.number = y.number)) < fs.length := (List.getElem?_eq_some_iff.1 hx').1
      exact ⟨_, List.findIdx?_eq_some_iff_findIdx_eq.2 ⟨hlt, rfl⟩, hx'⟩
    obtain ⟨k, hk1, hk2⟩ := hk'
    refine (put_some hin hvb hnm hk1 hk2 hl1 hl2 hl3 hnu).mono ?_
    rintro e w' ⟨⟨a', n', c'⟩, rfl, hq, hrow, hfr⟩
    refine ⟨_, a', n', c', rfl, putN_pl fs x b.vals y, ⟨hrow, fun a ha => ?_, Row.frB (p := b.q1) hb.r1 hfr fun k hk hm => ?_, fun r hr => (hb.r1y r hr).frY hfr⟩, hfr⟩
    · rcases mem_putL ha with rfl | ⟨ha, ho⟩
      · exact OwnV.fr (OwnB.fr d) hy hfr fun k hk hm => hap k (inb k hm) hk
      · refine OwnV.fr (OwnB.fr d) (hb.r0v a ha) hfr fun k hk hm => ?_
        have h1 := List.count_pos_iff.2 hm
        have h2 := List.count_pos_iff.2 (List.mem_flatMap.2 ⟨a, ha, hk⟩)
        have := on k
        omega
    · have h1 := List.count_pos_iff.2 hm
      have h2 := List.count_pos_iff.2 hk
      have := on k
      omega
  · have h1 := List.count_pos_iff.2 hm
    have h2 := List.count_pos_iff.2 hk
    have := on k
    omega
  · have h1 := List.count_pos_iff.2 hk
    have h2 := List.count_pos_iff.2 (List.mem_flatMap.2 ⟨a, ha, fp_T hm⟩)
    have := on k
    omega

set_option maxHeartbeats 8000000 in
set_option maxRecDepth 100000 in
theorem bset_any {d : Nat} {w : World} {fs : List FI} {s : List UInt8} {af ab : Option Addr} {nf cf nb cb : Nat} (hf : RdL 6 FAt w (.slice af nf cf) fs) (fok : ∀ f ∈ fs, I64 f.number ∧ I64 f.choice) (fl : fs.length ≤ 140737488355328) {a0 a1 : Option Addr} {n0 c0 n1 c1 : Nat} {b : BI (d + 1)} (hq : BRd d w (.slice a0 n0 c0) (.slice a1 n1 c1) b) (hok : BOk (d + 1) b) {y : VI (BI d)} {x : FI} (hx : fs.find? (isF y.number) = some x) {b1 b2 b3 : Option Addr} {m1 d1 m2 d2 m3 d3 : Nat} (r1 : RdL 1 UAt w (.slice b1 m1 d1) y.bits) (r2 : RdL 1 ZAt w (.slice b2 m2 d2) y.bytes) (r3 : RdL 2 (BAt d) w (.slice b3 m3 d3) y.subs) (hy : VOk (BOk d) y) (hlen : ((BO.vals b).length + 1) * 80 ≤ 140737488355328) :
    Calls Tryz.prog 19 #[.agg #[.string (S s), .slice af nf cf, .slice ab nb cb], .agg #[.slice a0 n0 c0, .slice a1 n1 c1], .agg #[.int .i64 y.number, .slice b1 m1 d1, .slice b2 m2 d2, .slice b3 m3 d3]] w fun e w' => ∃ (i0 : Option Addr) (j0 l0 : Nat) (i1 : Option Addr) (j1 l1 : Nat), e = .returned (.agg #[.slice i0 j0 l0, .slice i1 j1 l1]) ∧ BRd d w' (.slice i0 j0 l0) (.slice i1 j1 l1) ⟨putN fs x (BO.vals b) y, BO.unk b⟩ ∧ Below w.heap.size w w' := by
  obtain ⟨W1, HW1⟩ : ∃ W1, Hid (W1 = (((w.alloc (.cells #[.string (S s), .slice af nf cf, .slice ab nb cb] 48)).alloc (.cells #[.slice a0 n0 c0, .slice a1 n1 c1] 29)).alloc (.cells #[.int .i64 y.number, .slice b1 m1 d1, .slice b2 m2 d2, .slice b3 m3 d3] 34)).alloc (.cells #[.slice none 0 0, .slice none 0 0] 29)) := ⟨_, rfl⟩
  obtain ⟨xm, xa, xv, xr, z0⟩ := alloc4 w (.cells #[.string (S s), .slice af nf cf, .slice ab nb cb] 48) (.cells #[.slice a0 n0 c0, .slice a1 n1 c1] 29) (.cells #[.int .i64 y.number, .slice b1 m1 d1, .slice b2 m2 d2, .slice b3 m3 d3] 34) (.cells #[.slice none 0 0, .slice none 0 0] 29)
  rw [← HW1.out] at xm xa xv xr z0
  have hb1 : Below w.heap.size w W1 := by rw [HW1.out]; exact ((((Below.refl _ _).alloc (Nat.le_refl _) _).alloc (by simp) _).alloc (by simp; omega) _).alloc (by simp; omega) _
  have hz1 : w.heap.size + 4 ≤ W1.heap.size := Nat.le_of_eq z0.symm
  obtain ⟨C, HC⟩ : ∃ C, Hid (C = w.heap.size + 3) := ⟨_, rfl⟩
  have hC1 : C ≤ w.heap.size + 3 := Nat.le_of_eq HC.out
  have hC2 : w.heap.size + 3 ≤ C := Nat.le_of_eq HC.out.symm
  have hcl : ∀ V, Below C W1 V → (V.cell? ⟨w.heap.size, 0, none⟩ = some (.string (S s)) ∧ V.cell? ⟨w.heap.size, 1, none⟩ = some (.slice af nf cf) ∧ V.cell? ⟨w.heap.size, 2, none⟩ = some (.slice ab nb cb)) ∧ (V.cell? ⟨w.heap.size + 1, 0, none⟩ = some (.slice a0 n0 c0) ∧ V.cell? ⟨w.heap.size + 1, 1, none⟩ = some (.slice a1 n1 c1)) ∧ (V.cell? ⟨w.heap.size + 2, 0, none⟩ = some (.int .i64 y.number) ∧ V.cell? ⟨w.heap.size + 2, 1, none⟩ = some (.slice b1 m1 d1) ∧ V.cell? ⟨w.heap.size + 2, 2, none⟩ = some (.slice b2 m2 d2) ∧ V.cell? ⟨w.heap.size + 2, 3, none⟩ = some (.slice b3 m3 d3)) := fun V hV =>
    ⟨blk3 ((hV.block _ (by omega)).trans xm), blk2 ((hV.block _ (by omega)).trans xa), blk4' ((hV.block _ (by omega)).trans xv)⟩
  have hD : Below C W1 W1.drew := (Below.refl _ _).drew
  have hDD : Below W1.heap.size W1 W1.drew := (Below.refl _ _).drew
  have hwD : Below w.heap.size w W1.drew := BTr hb1 hDD
  have hown := ownTold (d + 1) W1.drew W1.heap.size a0 n0 c0 a1 n1 c1 b (Nat.le_refl _) (hq.below hwD) hok
  have hov : ∀ V, Below W1.heap.size W1 V → Calls Tryz.prog 30 #[.agg #[.int .i64 y.number, .slice b1 m1 d1, .slice b2 m2 d2, .slice b3 m3 d3]] V fun e w' => ∃ (yv : VL (LB d)) (q0 : Int) (x1 : Option Addr) (y1 z1 : Nat) (x2 : Option Addr) (y2 z2 : Nat) (x3 : Option Addr) (y3 z3 : Nat), (ekV (LB d)).enc yv = [.int .i64 q0, .slice x1 y1 z1, .slice x2 y2 z2, .slice x3 y3 z3] ∧ e = .returned (.agg #[.int .i64 q0, .slice x1 y1 z1, .slice x2 y2 z2, .slice x3 y3 z3]) ∧ VL.pl (LB.pl d) yv = y ∧ OwnV (ekB d) (OwnB W1.heap.size d) w' W1.heap.size yv ∧ (∀ k ∈ VL.fp (LB.fp d) yv, V.heap.size ≤ k) ∧ (VL.fp (LB.fp d) yv).Nodup ∧ Below V.heap.size V w' := fun V hV => ownVTold d V W1.heap.size y b1 m1 d1 b2 m2 d2 b3 m3 d3 hV.size (r1.below UAt.stays (BTr hb1 hV)) (r2.below ZAt.stays (BTr hb1 hV)) (r3.below (BAt.stays d) (BTr hb1 hV)) hy
  have hput : ∀ (V2 V3 : World) (yb : BL (LB d)) (yv : VL (LB d)), Below W1.heap.size W1 V2 → Below V2.heap.size V2 V3 → LB.pl (d + 1) yb = b → OwnB W1.heap.size (d + 1) V2 yb → (LB.fp (d + 1) yb).Nodup → VL.pl (LB.pl d) yv = y → OwnV (ekB d) (OwnB W1.heap.size d) V3 W1.heap.size yv → (∀ k ∈ VL.fp (LB.fp d) yv, V2.heap.size ≤ k) →
      Calls Tryz.prog 43 #[.agg #[.string (S s), .slice af nf cf, .slice ab nb cb], .agg #[yb.q0.v, yb.q1.v], .agg #[.int .i64 yv.number, yv.p1.v, yv.p2.v, yv.p3.v]] V3 fun e w' => ∃ (a' : Option Addr) (n' c' : Nat), e = .returned (.agg #[.slice a' n' c', yb.q1.v]) ∧ (∀ V', FrB [w.heap.size + 3] w' V' → BRd d V' (.slice a' n' c') yb.q1.v ⟨putN fs x (BO.vals b) y, BO.unk b⟩) ∧ Below W1.heap.size W1 w' := by
    intro V2 V3 yb yv h2 h3 hpl hob hnd hplv hoy hge
    have hB3 : Below W1.heap.size W1 V3 := BTr h2 h3
    have hob3 : OwnL (ekB d) (OwnB W1.heap.size d) V3 W1.heap.size yb := OwnB.below hob h3
    have hinb := OwnB.inB (d + 1) hob
    have hpn : yv.number = y.number := by rw [← hplv]; rfl
    have hpv : yb.vals.map (VL.pl (LB.pl d)) = BO.vals b := congrArg BO.vals hpl
    have hpu : yb.unk.map Prod.fst = BO.unk b := congrArg BO.unk hpl
    obtain ⟨y1, y2, y3, y4, y5, y6, y7⟩ := hy
    unfold reachBytes at y3 y5 y7
    have e1 : yv.bits = y.bits := by rw [← hplv]; rfl
    have e2 : yv.bytes.length = y.bytes.length := by rw [← hplv]; simp [VL.pl]
    have e3 : yv.subs.length = y.subs.length := by rw [← hplv]; simp [VL.pl]
    refine (bput_own (x := x) (hf.below FAt.stays (BTr hb1 hB3)) fok fl ⟨_, _, _, rfl⟩ ⟨_, rfl⟩ hob3 hnd hoy (fun k hk hm => ?_) (fun a ha => ?_) ?_ hB3.size (by rw [hpn]; exact hx) (by rw [e1]; omega) (by rw [e2]; omega) (by rw [e3]; omega) (by rw [hpn]; exact y1)).mono ?_
    · have := (hinb k hk).2
      have := hge k hm
      omega
    · have : VL.pl (LB.pl d) a ∈ BO.vals b := by rw [← hpv]; exact List.mem_map_of_mem ha
      exact (hok.1 _ this).1
    · have : yb.vals.length = (BO.vals b).length := by rw [← hpv, List.length_map]
      rw [this]; exact hlen
    · rintro e w' ⟨l, a', n', c', rfl, hmap, hol, hfr⟩
      refine ⟨a', n', c', rfl, fun V' hV' => ?_, ?_⟩
      · have hlo : ∀ k ∈ LB.fp (d + 1) (⟨l, yb.unk, (a', n', c'), yb.q1⟩ : BL (LB d)), W1.heap.size ≤ k := fun k hk => (OwnB.inB (d + 1) (w := w') (b := (⟨l, yb.unk, (a', n', c'), yb.q1⟩ : BL (LB d))) hol k hk).1
        have h4 := OwnB.fr (d + 1) [w.heap.size + 3] w' V' (⟨l, yb.unk, (a', n', c'), yb.q1⟩ : BL (LB d)) hol hV' (fun k hk hm => by have := hlo k hk; rw [List.mem_singleton.1 hm] at this; omega)
        have h5 := OwnB.rd h4
        have h6 : LB.pl (d + 1) (⟨l, yb.unk, (a', n', c'), yb.q1⟩ : BL (LB d)) = (⟨putN fs x (BO.vals b) y, BO.unk b⟩ : BO (BI d)) := by
          show (⟨l.map (VL.pl (LB.pl d)), yb.unk.map Prod.fst⟩ : BO (BI d)) = _
          rw [hmap, hpu, hpv, hplv]
        rw [h6] at h5
        exact h5
      · exact hB3.trans (hfr.below hB3.size (fun k hk => (hob3.r0.own1 k hk).1))
  obtain ⟨⟨q0, q1, q2⟩, ⟨q3, q4⟩, ⟨q5, q6, q7, q8⟩⟩ := hcl W1.drew hD
  clear hf fok fl hq hok hx r1 r2 r3 hy hlen xm xa xv z0
  go_enter Tryz.func19, Tryz.ntmps19
  go_upto_region 1 with fail
  rw [← HW1.out]
  refine wp_region_held_drew (S := fun V => Below C W1 V) (by kernel_rfl) hD (fun hHeld => ?_)
  refine wpAnyH_take (i := 0) (v := ?vo1) rfl (by kernel_rfl) (by kernel_rfl) (by kernel_rfl) (fun _ _ _ h => h) (Or.inl ⟨by rfl, ?hyo1⟩) (by assumption) ?_
  case hyo1 => (intro W hSw; obtain ⟨⟨o1, o2, o3⟩, ⟨o4, o5⟩, ⟨o6, o7, o8, o9⟩⟩ := hcl W hSw; go_simp; first | done | with_reducible rfl)
  try simp only [List.getElem_toArray, List.getElem_cons_zero, Act.put, List.setIfInBounds_toArray, List.set_cons_zero, List.set_cons_succ]
  refine wpAnyH_take (i := 1) (v := ?vo2) rfl (by kernel_rfl) (by kernel_rfl) (by kernel_rfl) (fun _ _ _ h => h) (Or.inl ⟨by rfl, ?hyo2⟩) (by assumption) ?_
  case hyo2 => (intro W hSw; obtain ⟨⟨o1, o2, o3⟩, ⟨o4, o5⟩, ⟨o6, o7, o8, o9⟩⟩ := hcl W hSw; go_simp; first | done | with_reducible rfl)
  try simp only [List.getElem_toArray, List.getElem_cons_succ, List.getElem_cons_zero, Act.put, List.setIfInBounds_toArray, List.set_cons_zero, List.set_cons_succ]
  refine wpAnyH_take (i := 3) (v := ?vo3) rfl (by kernel_rfl) (by kernel_rfl) (by kernel_rfl) (fun _ _ _ h => h) (Or.inl ⟨by rfl, ?hyo3⟩) (by assumption) ?_
  case hyo3 => (intro W hSw; obtain ⟨⟨o1, o2, o3⟩, ⟨o4, o5⟩, ⟨o6, o7, o8, o9⟩⟩ := hcl W hSw; go_simp; first | done | with_reducible rfl)
  try simp only [List.getElem_toArray, List.getElem_cons_succ, List.getElem_cons_zero, Act.put, List.setIfInBounds_toArray, List.set_cons_zero, List.set_cons_succ]
  refine wpAnyH_ready (rs := [2]) (by kernel_rfl) (by simp) ?_
  refine AllReadyH.cons rfl (fun K hK => ?_) AllReadyH.nil
  go_simp
  refine hown.mono ?_
  rintro r w2 ⟨yb, i0, j0, l0, i1, j1, l1, henc, rfl, hpl, hob, hge2, hnd, hb2⟩
  have hB2 : Below W1.heap.size W1 w2 := BTr hDD hb2
  have hS2 : Below C W1 w2 := hB2.mono (by omega)
  have hov2 := hov w2 hB2
  refine hK.out _ _ ?_ (fun hHeld => ?_)
  · (try dsimp only); first | with_reducible exact hD | with_reducible exact hS2 | with_reducible exact hS3 | with_reducible exact hS4 | exact b4set (b4set hS4 (by omega)) (by omega)
  clear hK K
  try simp only [List.getElem_toArray, List.getElem_cons_succ, List.getElem_cons_zero, Act.put, List.setIfInBounds_toArray, List.set_cons_zero, List.set_cons_succ]
  refine wpAnyH_ready (rs := [4]) (by kernel_rfl) (by simp) ?_
  refine AllReadyH.cons rfl (fun K hK => ?_) AllReadyH.nil
  go_simp
  refine hov2.mono ?_
  rintro r w3 ⟨yv, t0, i2, j2, l2, i3, j3, l3, i4, j4, l4, henv, rfl, hplv, hoy, hge3, hnd3, hb3⟩
  have hB3 : Below W1.heap.size W1 w3 := BTr hB2 hb3
  have hS3 : Below C W1 w3 := hB3.mono (by omega)
  have hput3 := hput w2 w3 yb yv hB2 hb3 hpl hob hnd hplv hoy hge3
  obtain ⟨e0, e1⟩ : (BL.q0 yb).v = .slice i0 j0 l0 ∧ (BL.q1 yb).v = .slice i1 j1 l1 := by
    have h8 : [(BL.q0 yb).v, (BL.q1 yb).v] = [.slice i0 j0 l0, .slice i1 j1 l1] := henc
    simpa using h8
  obtain ⟨e2, e3, e4, e5⟩ : yv.number = t0 ∧ yv.p1.v = .slice i2 j2 l2 ∧ yv.p2.v = .slice i3 j3 l3 ∧ yv.p3.v = .slice i4 j4 l4 := by
    have h8 : [Value.int .i64 yv.number, yv.p1.v, yv.p2.v, yv.p3.v] = [.int .i64 t0, .slice i2 j2 l2, .slice i3 j3 l3, .slice i4 j4 l4] := henv
    simpa using h8
  rw [e0, e1, e2, e3, e4, e5] at hput3
  clear e0 e1 e2 e3 e4 e5 henc henv hpl hob hge2 hnd hplv hoy hge3 hnd3
  refine hK.out _ _ ?_ (fun hHeld => ?_)
  · (try dsimp only); first | with_reducible exact hD | with_reducible exact hS2 | with_reducible exact hS3 | with_reducible exact hS4 | exact b4set (b4set hS4 (by omega)) (by omega)
  clear hK K
  try simp only [List.getElem_toArray, List.getElem_cons_succ, List.getElem_cons_zero, Act.put, List.setIfInBounds_toArray, List.set_cons_zero, List.set_cons_succ]
  refine wpAnyH_ready (rs := [5]) (by kernel_rfl) (by simp) ?_
  refine AllReadyH.cons rfl (fun K hK => ?_) AllReadyH.nil
  go_simp
  refine hput3.mono ?_
  rintro r w4 ⟨a', n', c', rfl, hR4, hB4⟩
  have hS4 : Below C W1 w4 := hB4.mono (by omega)
  have x4 := (hB4.block _ (by omega)).trans xr
  obtain ⟨g0, g1⟩ := blk2 x4
  have fr4 := fr_of_blk x4
  refine hK.out _ _ ?_ (fun hHeld => ?_)
  · (try dsimp only); first | with_reducible exact hD | with_reducible exact hS2 | with_reducible exact hS3 | with_reducible exact hS4 | exact b4set (b4set hS4 (by omega)) (by omega)
  clear hK K
  try simp only [List.getElem_toArray, List.getElem_cons_succ, List.getElem_cons_zero, Act.put, List.setIfInBounds_toArray, List.set_cons_zero, List.set_cons_succ]
  refine wpAnyH_ready (rs := [6]) (by kernel_rfl) (by simp) ?_
  refine AllReadyH.cons rfl (fun K hK => ?_) AllReadyH.nil
  go_simp
  refine hK.out _ _ ?_ (fun hHeld => ?_)
  · (try dsimp only); first | with_reducible exact hD | with_reducible exact hS2 | with_reducible exact hS3 | with_reducible exact hS4 | exact b4set (b4set hS4 (by omega)) (by omega)
  clear hK K
  try simp only [List.getElem_toArray, List.getElem_cons_succ, List.getElem_cons_zero, Act.put, List.setIfInBounds_toArray, List.set_cons_zero, List.set_cons_succ]
  refine wpAnyH_done (by kernel_rfl) ?_ _
  go_wp2_with fail
  refine bodyPost_ret (v := .agg #[.slice a' n' c', .slice i1 j1 l1]) (by simp [results, Tryz.results19, go_sem, *]) rfl ?_
  exact ⟨a', n', c', i1, j1, l1, rfl, hR4 _ (fr2 x4), b4set (b4set (BTr hb1 hB4) (by omega)) (by omega)⟩

end L
end Go.Proofs.YtelmjekjohbmjaaGreatDoor

/- The statement's own answer: SameRecords of the same records is true; bytes as a string. -/
namespace Go.Proofs.YtelmjekjohbmjaaGreatDoor
namespace L
open Go.RowKit

theorem below_drewM (B : Nat) (w : World) {n : Nat} : Below B w (w.drewN n) := ⟨rfl, rfl, rfl, Nat.le_refl _, fun _ _ => rfl⟩

theorem bytes_drewN {w : World} {v : Value} {l : List UInt8} (h : RdL 1 YAt w v l) (n : Nat) : RdL 1 YAt (w.drewN n) v l := h

set_option maxHeartbeats 2000000 in
set_option maxRecDepth 100000 in
theorem recs_same {va vb : Value} {rs : List RI} {w : World} (ha : RdL 4 RAt w va rs) (hb : RdL 4 RAt w vb rs) :
    Calls Tryz.prog 28 #[va, vb] w fun e w' => e = .returned (.bool true) ∧ Below w.heap.size w w' := by
  obtain ⟨ao, n, ca, rfl, Ha, hlm⟩ := ha.shape
  obtain ⟨bo, n', cb, rfl, Hb, _⟩ := hb.shape
  obtain rfl : n = n' := by rw [Ha.out, Hb.out]
  go_enter Tryz.func28, Tryz.ntmps28
  go_wp2_with fail
  go_loopg [13] n (fun m i wr => ∃ (k d : Nat), k + m = n ∧ i = .int .i64 (k : Int) ∧ wr = w.drewN d)
  case atStart => exact ⟨0, 0, by omega, rfl, rfl⟩
  case round =>
    obtain ⟨k, d, hk, rfl, rfl⟩ := hrel
    by_cases hlt : k < n
    · obtain ⟨r, Hr⟩ : ∃ r, Hid (rs[k]? = some r) := ⟨rs[k]'(by rw [← Ha.out]; exact hlt), List.getElem?_eq_getElem (by rw [← Ha.out]; exact hlt)⟩
      obtain ⟨b, off, rfl, hat⟩ := ha.get RAt.plain Hr.out
      obtain ⟨b', off', rfl, hat'⟩ := hb.get RAt.plain Hr.out
      obtain ⟨v1, c0, c1, c2, c3, hrd⟩ := hat.at
      obtain ⟨v2, d0, d1, d2, d3, hrd'⟩ := hat'.at
      obtain ⟨ao1, len1, cap1, rfl, _, _⟩ := hrd.shape
      obtain ⟨ao2, len2, cap2, rfl, _, _⟩ := hrd'.shape
      have s1 : ∀ n, (convert 68 9 (.slice ao1 len1 cap1)).run Tryz.prog (w.drewN n) = .ok (.string ⟨r.bytes.toArray⟩) (w.drewN n) := fun n => bytes_str (bytes_drewN hrd n)
      have s2 : ∀ n, (convert 68 9 (.slice ao2 len2 cap2)).run Tryz.prog (w.drewN n) = .ok (.string ⟨r.bytes.toArray⟩) (w.drewN n) := fun n => bytes_str (bytes_drewN hrd' n)
      have hlt' : (k : Int) < (n : Int) := by omega
      clear hrd hrd' ha hb hat hat'
      go_wp2_with fail
      go_quiet (fail)
      go_wp2_with fail
      go_roundg (n - (k + 1))
      case measure => omega
      case rel => exact ⟨k + 1, _, by omega, by go_num, rfl⟩
    · go_wp2
      go_ret
      exact ⟨rfl, below_drewM _ _⟩

end L
end Go.Proofs.YtelmjekjohbmjaaGreatDoor

/- The statement's own answer: Same of two bodies that are the same, whoever made them, is true. -/
namespace Go.Proofs.YtelmjekjohbmjaaGreatDoor
namespace L
open Go.RowKit

theorem blk4S {w : World} {g : Nat} {a0 a1 a2 a3 : Value} {t : TypeId} (h : w.heap[g]? = some (.cells #[a0, a1, a2, a3] t (0, 0))) :
    w.cell? ⟨g, 0, none⟩ = some a0 ∧ w.cell? ⟨g, 1, none⟩ = some a1 ∧ w.cell? ⟨g, 2, none⟩ = some a2 ∧ w.cell? ⟨g, 3, none⟩ = some a3 :=
  ⟨cell_of_blk h 0 _ rfl, cell_of_blk h 1 _ rfl, cell_of_blk h 2 _ rfl, cell_of_blk h 3 _ rfl⟩
theorem BTrS {W V V' : World} (h : Below W.heap.size W V) (k : Below V.heap.size V V') : Below W.heap.size W V' := h.trans (k.mono h.size)

/-- What is asked of the bodies within: two places where the same one lies, and the call on what lies there. -/
def SubSame (d : Nat) : Prop := ∀ (s : BI d) (w : World) (b1 o1 b2 o2 : Nat), BAt d w ⟨b1, o1, none⟩ s → BAt d w ⟨b2, o2, none⟩ s →
  ∃ (x0 x1 y0 y1 : Option Addr) (n0 n1 m0 m1 c0 c1 e0 e1 : Nat), w.cell? ⟨b1, o1, none⟩ = some (.slice x0 n0 c0) ∧ w.cell? ⟨b1, o1 + 1, none⟩ = some (.slice x1 n1 c1) ∧ w.cell? ⟨b2, o2, none⟩ = some (.slice y0 m0 e0) ∧ w.cell? ⟨b2, o2 + 1, none⟩ = some (.slice y1 m1 e1) ∧
    ∀ V, Below w.heap.size w V → Calls Tryz.prog 10 #[.agg #[.slice x0 n0 c0, .slice x1 n1 c1], .agg #[.slice y0 m0 e0, .slice y1 m1 e1]] V fun e w' => e = .returned (.bool true) ∧ Below V.heap.size V w'

set_option maxHeartbeats 4000000 in
set_option maxRecDepth 100000 in
theorem same_step {d : Nat} (hrec : SubSame d) {w : World} {va ua vb ub : Value} {b : BO (BI d)} (h1 : BRd d w va ua b) (h2 : BRd d w vb ub b) :
    Calls Tryz.prog 10 #[.agg #[va, ua], .agg #[vb, ub]] w fun e w' => e = .returned (.bool true) ∧ Below w.heap.size w w' := by
  obtain ⟨aa, n, ca, rfl, Hn1, hnm⟩ := h1.1.shape
  obtain ⟨ab, n', cb, rfl, Hn2, _⟩ := h2.1.shape
  obtain ⟨ea, ne, ga, rfl, He1, hnem⟩ := h1.2.shape
  obtain ⟨eb, ne', gb, rfl, He2, _⟩ := h2.2.shape
  obtain rfl : n = n' := by rw [Hn1.out, Hn2.out]
  obtain rfl : ne = ne' := by rw [He1.out, He2.out]
  obtain ⟨W0, HW0⟩ : ∃ W0, Hid (W0 = (w.alloc (.cells #[.slice aa n ca, .slice ea ne ga] 29)).alloc (.cells #[.slice ab n cb, .slice eb ne gb] 29)) := ⟨_, rfl⟩
  have hB0 : Below w.heap.size w W0 := by rw [HW0.out]; exact ((Below.refl _ _).alloc (Nat.le_refl _) _).alloc (by simp) _
  have hx1 : W0.heap[w.heap.size]? = some (.cells #[.slice aa n ca, .slice ea ne ga] 29 (0, 0)) := by rw [HW0.out]; exact alloc2_old _ _ _
  have hx2 : W0.heap[w.heap.size + 1]? = some (.cells #[.slice ab n cb, .slice eb ne gb] 29 (0, 0)) := by rw [HW0.out]; exact alloc2_new _ _ _
  have hz0 : w.heap.size + 2 ≤ W0.heap.size := by rw [HW0.out]; simp
  have hsr := recs_same (h1.2.below RAt.stays hB0) (h2.2.below RAt.stays hB0)
  go_enter Tryz.func10, Tryz.ntmps10
  go_wp2_with fail
  rw [← HW0.out]
  refine hsr.mono ?_
  rintro e w1 ⟨rfl, hb1⟩
  clear hsr
  have y1 := (hb1.block w.heap.size (by omega)).trans hx1
  have y2 := (hb1.block (w.heap.size + 1) (by omega)).trans hx2
  obtain ⟨x10, x11⟩ := blk2 y1
  obtain ⟨x20, x21⟩ := blk2 y2
  go_wp2_with fail
  clear x10 x11 x20 x21 y1 y2
  go_loopg [29] n (fun m i wr => ∃ k : Nat, k + m = n ∧ i = .int .i64 k ∧ Below (w.heap.size + 2) W0 wr)
  case atStart => exact ⟨0, by omega, rfl, hb1.mono (by omega)⟩
  case round =>
    clear hb1
    obtain ⟨k, hk, rfl, hb⟩ := hrel
    obtain ⟨wo, Hwo⟩ : ∃ wo, wo = wr := ⟨_, rfl⟩
    subst Hwo
    have hBw : Below w.heap.size w wo := hB0.trans (hb.mono (by omega))
    have hf1 := h1.below hBw
    have hf2 := h2.below hBw
    have y1 := (hb.block w.heap.size (by omega)).trans hx1
    have y2 := (hb.block (w.heap.size + 1) (by omega)).trans hx2
    obtain ⟨x10, x11⟩ := blk2 y1
    obtain ⟨x20, x21⟩ := blk2 y2
    have hzr : w.heap.size + 2 ≤ wo.heap.size := by have := hb.size; omega
    by_cases hlt : k < n
    · obtain ⟨vv, Hp⟩ : ∃ p, Hid (b.vals[k]? = some p) := ⟨b.vals[k]'(by rw [← Hn1.out]; exact hlt), List.getElem?_eq_getElem (by rw [← Hn1.out]; exact hlt)⟩
      obtain ⟨g1, o1, rfl, hat1⟩ := hf1.1.get VAt.plain Hp.out
      obtain ⟨g2, o2, rfl, hat2⟩ := hf2.1.get VAt.plain Hp.out
      obtain ⟨p1, p2, p3, e0, e1, e2, e3, r11, r12, r13⟩ := hat1.at
      obtain ⟨q1, q2, q3, t0, t1, t2, t3, r21, r22, r23⟩ := hat2.at
      obtain ⟨a11, m1, c11, rfl, K11, hm1⟩ := r11.shape
      obtain ⟨a12, m2, c12, rfl, K12, hm2⟩ := r12.shape
      obtain ⟨a13, m3, c13, rfl, K13, hm3⟩ := r13.shape
      obtain ⟨a21, m1', c21, rfl, K21, _⟩ := r21.shape
      obtain ⟨a22, m2', c22, rfl, K22, _⟩ := r22.shape
      obtain ⟨a23, m3', c23, rfl, K23, _⟩ := r23.shape
      obtain rfl : m1 = m1' := by rw [K11.out, K21.out]
      obtain rfl : m2 = m2' := by rw [K12.out, K22.out]
      obtain rfl : m3 = m3' := by rw [K13.out, K23.out]
      have hki : (k : Int) < (n : Int) := by omega
      have z0 : w.heap.size < wo.heap.size := by omega
      have z1 : w.heap.size + 1 < wo.heap.size := by omega
      have z2 : g2 < wo.heap.size := World.block_lt_of_cell? wo _ t0
      clear hat1 hat2 hf1 hf2 y1 y2
      obtain ⟨W1, HW1⟩ : ∃ W1, Hid (W1 = (wo.alloc (.cells #[.int .i64 vv.number, .slice a11 m1 c11, .slice a12 m2 c12, .slice a13 m3 c13] 34)).alloc (.cells #[.int .i64 vv.number, .slice a21 m1 c21, .slice a22 m2 c22, .slice a23 m3 c23] 34)) := ⟨_, rfl⟩
      have hB1 : Below wo.heap.size wo W1 := by rw [HW1.out]; exact ((Below.refl _ _).alloc (Nat.le_refl _) _).alloc (by simp) _
      have v1 : W1.heap[wo.heap.size]? = some (.cells #[.int .i64 vv.number, .slice a11 m1 c11, .slice a12 m2 c12, .slice a13 m3 c13] 34 (0, 0)) := by rw [HW1.out]; exact alloc2_old _ _ _
      have v2 : W1.heap[wo.heap.size + 1]? = some (.cells #[.int .i64 vv.number, .slice a21 m1 c21, .slice a22 m2 c22, .slice a23 m3 c23] 34 (0, 0)) := by rw [HW1.out]; exact alloc2_new _ _ _
      have hz1 : wo.heap.size + 2 ≤ W1.heap.size := by rw [HW1.out]; simp
      go_wp2_with fail
      rw [← HW1.out]
      clear x10 x11 x20 x21 e0 e1 e2 e3 t0 t1 t2 t3
      go_loopg [74] m1 (fun m i wi => ∃ j : Nat, j + m = m1 ∧ i = .int .i64 j ∧ Below (wo.heap.size + 2) W1 wi)
      case atStart => exact ⟨0, by omega, rfl, Below.refl _ _⟩
      case round =>
        obtain ⟨j, hj, rfl, hbi⟩ := hrel
        have hBi : Below wo.heap.size wo wr := hB1.trans (hbi.mono (by omega))
        obtain ⟨_, m11, m12, m13⟩ := blk4S ((hbi.block wo.heap.size (by omega)).trans v1)
        obtain ⟨_, m21, m22, m23⟩ := blk4S ((hbi.block (wo.heap.size + 1) (by omega)).trans v2)
        by_cases hjl : j < m1
        · obtain ⟨f, Hf⟩ : ∃ f, Hid (vv.bits[j]? = some f) := ⟨vv.bits[j]'(by rw [← K11.out]; exact hjl), List.getElem?_eq_getElem (by rw [← K11.out]; exact hjl)⟩
          obtain ⟨gf1, of1, rfl, u1⟩ := (r11.below UAt.stays hBi).get UAt.plain Hf.out
          obtain ⟨gf2, of2, rfl, u2⟩ := (r21.below UAt.stays hBi).get UAt.plain Hf.out
          have s0 : wr.cell? ⟨gf1, of1 + j, none⟩ = some (.int .u64 (f : Int)) := by simpa [UAt] using u1
          have p0 : wr.cell? ⟨gf2, of2 + j, none⟩ = some (.int .u64 (f : Int)) := by simpa [UAt] using u2
          have hji : (j : Int) < (m1 : Int) := by omega
          clear u1 u2
          go_wp2_with fail
          go_quiet (fail)
          go_wp2_with fail
          go_roundg (m1 - (j + 1))
          case measure => omega
          case rel => exact ⟨j + 1, by omega, by go_num, hbi.trans (below_drewM _ _)⟩
        · go_wp2_with fail
          obtain ⟨wi, Hwi⟩ : ∃ wi, wi = wr := ⟨_, rfl⟩
          subst Hwi
          clear m11 m12 m13 m21 m22 m23 hBi
          go_loopg [92] m2 (fun m i wj => ∃ j : Nat, j + m = m2 ∧ i = .int .i64 j ∧ Below (wo.heap.size + 2) W1 wj)
          case atStart => exact ⟨0, by omega, rfl, hbi⟩
          case round =>
            clear hbi
            obtain ⟨j2, hj2, rfl, hbj⟩ := hrel
            have hBj : Below wo.heap.size wo wr := hB1.trans (hbj.mono (by omega))
            obtain ⟨_, m11, m12, m13⟩ := blk4S ((hbj.block wo.heap.size (by omega)).trans v1)
            obtain ⟨_, m21, m22, m23⟩ := blk4S ((hbj.block (wo.heap.size + 1) (by omega)).trans v2)
            by_cases hjl2 : j2 < m2
            · obtain ⟨y, Hy⟩ : ∃ y, Hid (vv.bytes[j2]? = some y) := ⟨vv.bytes[j2]'(by rw [← K12.out]; exact hjl2), List.getElem?_eq_getElem (by rw [← K12.out]; exact hjl2)⟩
              obtain ⟨gb1, ob1, rfl, u1⟩ := (r12.below ZAt.stays hBj).get ZAt.plain Hy.out
              obtain ⟨gb2, ob2, rfl, u2⟩ := (r22.below ZAt.stays hBj).get ZAt.plain Hy.out
              obtain ⟨f1, u1, rd1⟩ := u1.at
              obtain ⟨f2, u2, rd2⟩ := u2.at
              obtain ⟨af1, nf1, cf1, rfl, _, _⟩ := rd1.shape
              obtain ⟨af2, nf2, cf2, rfl, _, _⟩ := rd2.shape
              rw [Nat.mul_one] at u1 u2
              have s1 : ∀ n, (convert 68 9 (.slice af1 nf1 cf1)).run Tryz.prog (wr.drewN n) = .ok (.string ⟨y.toArray⟩) (wr.drewN n) := fun n => bytes_str (bytes_drewN rd1 n)
              have s2 : ∀ n, (convert 68 9 (.slice af2 nf2 cf2)).run Tryz.prog (wr.drewN n) = .ok (.string ⟨y.toArray⟩) (wr.drewN n) := fun n => bytes_str (bytes_drewN rd2 n)
              have hji : (j2 : Int) < (m2 : Int) := by omega
              clear rd1 rd2
              go_wp2_with fail
              go_quiet (fail)
              go_wp2_with fail
              go_roundg (m2 - (j2 + 1))
              case measure => omega
              case rel => exact ⟨j2 + 1, by omega, by go_num, hbj.trans (below_drewM _ _)⟩
            · go_wp2_with fail
              obtain ⟨wj, Hwj⟩ : ∃ wj, wj = wr := ⟨_, rfl⟩
              subst Hwj
              clear m11 m12 m13 m21 m22 m23 hBj
              go_loopg [112] m3 (fun m i wj => ∃ j : Nat, j + m = m3 ∧ i = .int .i64 j ∧ Below (wo.heap.size + 2) W1 wj)
              case atStart => exact ⟨0, by omega, rfl, hbj⟩
              case round =>
                clear hbj
                obtain ⟨j3, hj3, rfl, hbl⟩ := hrel
                obtain ⟨wl, Hwl⟩ : ∃ wl, wl = wr := ⟨_, rfl⟩
                subst Hwl
                have hBl : Below wo.heap.size wo wl := hB1.trans (hbl.mono (by omega))
                obtain ⟨_, m11, m12, m13⟩ := blk4S ((hbl.block wo.heap.size (by omega)).trans v1)
                obtain ⟨_, m21, m22, m23⟩ := blk4S ((hbl.block (wo.heap.size + 1) (by omega)).trans v2)
                by_cases hjl3 : j3 < m3
                · obtain ⟨s, Hs⟩ : ∃ s, Hid (vv.subs[j3]? = some s) := ⟨vv.subs[j3]'(by rw [← K13.out]; exact hjl3), List.getElem?_eq_getElem (by rw [← K13.out]; exact hjl3)⟩
                  obtain ⟨gs1, os1, rfl, u1⟩ := (r13.below (BAt.stays d) hBl).get (BAt.plain d) Hs.out
                  obtain ⟨gs2, os2, rfl, u2⟩ := (r23.below (BAt.stays d) hBl).get (BAt.plain d) Hs.out
                  obtain ⟨i0, i1, l0, l1, n0, n1, q0, q1, c0, c1, f0, f1, s0, s1, p0, p1, hcall⟩ := hrec s wl _ _ _ _ u1 u2
                  have hji : (j3 : Int) < (m3 : Int) := by omega
                  have hcl : ∀ V, Below wl.heap.size wl V → Below wl.heap.size wl V ∧ V.cell? ⟨wo.heap.size, 3, none⟩ = some (.slice (some ⟨gs1, os1, none⟩) m3 c13) ∧ V.cell? ⟨wo.heap.size + 1, 3, none⟩ = some (.slice (some ⟨gs2, os2, none⟩) m3 c23) ∧ V.cell? ⟨gs1, os1 + j3 * 2, none⟩ = some (.slice i0 n0 c0) ∧ V.cell? ⟨gs1, os1 + j3 * 2 + 1, none⟩ = some (.slice i1 n1 c1) ∧ V.cell? ⟨gs2, os2 + j3 * 2, none⟩ = some (.slice l0 q0 f0) ∧ V.cell? ⟨gs2, os2 + j3 * 2 + 1, none⟩ = some (.slice l1 q1 f1) := fun V hV => ⟨hV, cell_below hV m13, cell_below hV m23, cell_below hV s0, cell_below hV s1, cell_below hV p0, cell_below hV p1⟩
                  clear u1 u2 m11 m12 m21 m22
                  go_wp2_with fail
                  go_cut [112, 126] from 112 to 127 (fun s112 s126 wc => s112 = .int .i64 j3 ∧ s126 = .bool false ∧ Below wl.heap.size wl wc)
                  case first =>
                    clear h1 h2 HW0 hB0 hx1 hx2 HW1 hB1 v1 v2 r11 r12 r13 r21 r22 r23 hBl hBw hb hbl m13 m23 s0 s1 p0 p1
                    go_region_held3 (fun V => Below wl.heap.size wl V ∧ V.cell? ⟨wo.heap.size, 3, none⟩ = some (.slice (some ⟨gs1, os1, none⟩) m3 c13) ∧ V.cell? ⟨wo.heap.size + 1, 3, none⟩ = some (.slice (some ⟨gs2, os2, none⟩) m3 c23) ∧ V.cell? ⟨gs1, os1 + j3 * 2, none⟩ = some (.slice i0 n0 c0) ∧ V.cell? ⟨gs1, os1 + j3 * 2 + 1, none⟩ = some (.slice i1 n1 c1) ∧ V.cell? ⟨gs2, os2 + j3 * 2, none⟩ = some (.slice l0 q0 f0) ∧ V.cell? ⟨gs2, os2 + j3 * 2 + 1, none⟩ = some (.slice l1 q1 f1)) ((refine hcl _ ?_; first | exact (Below.refl _ _).drew | exact hBn)) ((go_at_call 10; go_split_ands; refine (hcall _ (by assumption)).mono ?_; rintro e wn ⟨rfl, hbn⟩; have hBn := BTrS (by assumption) hbn))
                    all_goals go_wp2_with fail
                    all_goals go_meet
                    all_goals exact ⟨rfl, rfl, hBn⟩
                  case rest =>
                    obtain ⟨rfl, rfl, hbc⟩ := hcut
                    have hsl := hbl.size
                    clear hcl hcall s0 s1 p0 p1 m13 m23
                    go_wp2_with fail
                    go_roundg (m3 - (j3 + 1))
                    case measure => omega
                    case rel => exact ⟨j3 + 1, by omega, by go_num, hbl.trans (hbc.mono (by omega))⟩
                · go_wp2_with fail
                  go_roundg (n - (k + 1))
                  case measure => omega
                  case rel => exact ⟨k + 1, by omega, by go_num, hb.trans ((hB1.mono hzr).trans (hbl.mono (by omega)))⟩
    · go_wp2
      go_ret
      exact ⟨rfl, hBw⟩

theorem subSame : ∀ d, SubSame d
  | 0 => fun s => s.elim
  | d + 1 => fun s w b1 o1 b2 o2 h1 h2 => by
    obtain ⟨v0, v1, e0, e1, r1⟩ := BAt.at h1
    obtain ⟨u0, u1, t0, t1, r2⟩ := BAt.at h2
    obtain ⟨x0, n0, c0, rfl, _, _⟩ := r1.1.shape
    obtain ⟨x1, n1, c1, rfl, _, _⟩ := r1.2.shape
    obtain ⟨y0, m0, f0, rfl, _, _⟩ := r2.1.shape
    obtain ⟨y1, m1, f1, rfl, _, _⟩ := r2.2.shape
    exact ⟨x0, x1, y0, y1, n0, n1, m0, m1, c0, c1, f0, f1, e0, e1, t0, t1, fun V hV => same_step (subSame d) (r1.below hV) (r2.below hV)⟩
theorem body_same {d : Nat} {w : World} {va ua vb ub : Value} {b : BO (BI d)} (h1 : BRd d w va ua b) (h2 : BRd d w vb ub b) :
    Calls Tryz.prog 10 #[.agg #[va, ua], .agg #[vb, ub]] w fun e w' => e = .returned (.bool true) ∧ Below w.heap.size w w' := same_step (subSame d) h1 h2

end L
end Go.Proofs.YtelmjekjohbmjaaGreatDoor

