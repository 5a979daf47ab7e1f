import Derived.Test.YtelmjekjohbmjaaGreatDoorBBodyq
import Derived.Test.YtelmjekjohbmjaaGreatDoorLBarPq
/- body.Wrong: what is wrong first with a file, or with a body. -/
namespace Go.Proofs.YtelmjekjohbmjaaGreatDoor
namespace L
open Go.RowKit

theorem passed_all {g : GI} {bar : List Int} : ∀ (l : List FI) (i : Nat) (s : Mem), (firstGo (stepF g bar) errsF i l s).1 = 0 → ∀ y ∈ l, ∃ s, passB g bar y s = true
  | [], _, _, _, _, hy => by simp at hy
  | x :: l, i, s, h, y, hy => by
    obtain ⟨h1, h2⟩ := first_cons h
    rcases List.mem_cons.1 hy with rfl | hy
    · exact ⟨s, h1⟩
    · exact passed_all l _ _ h2 y hy
theorem right_subs {g : GI} (hr : (wrongL g).1 = 0) : Subs g := by
  intro m hm x hx hk
  obtain ⟨s, hs⟩ := passed_all _ _ _ (rightM ((right_inv hr).2.2 m hm)).2.2.2 x hx
  simp only [passB, Bool.and_eq_true] at hs
  have hh : hasB g x = true := hs.2.2.2.2.1
  unfold hasB at hh
  rw [if_pos hk] at hh
  rcases firstI_cases (fun m : MI => decide (m.name = x.type)) g.msgs with ⟨h1, _⟩ | ⟨_, m', _, _, h3, _⟩
  · rw [h1] at hh; simp at hh
  · exact ⟨m', h3⟩

/-- What is wrong first with a file, or with a body of message msg. -/
def wrongB (g : GI) (d : Nat) (msg : Int) (x : BI (d + 1)) : Int :=
  if (wrongL g).1 ≠ 0 then (wrongL g).1
  else if msg < 0 ∨ (g.msgs.length : Int) ≤ msg then 6
  else match g.msgs[msg.toNat]? with
    | some m => bodyE g (d + 1) 1 m.fields x
    | none => 6

set_option maxHeartbeats 2000000 in
set_option maxRecDepth 100000 in
theorem bodyWrong_any {w : World} {g : GI} {d : Nat} {vm ve v0 v1 : Value} {msg : Int} {x : BI (d + 1)} (hg : GRd w vm ve g) (hn1 : g.msgs.length ≤ 140737488355328) (hn2 : g.enums.length ≤ 140737488355328) (hfit : Fits g) (hq : BRd d w v0 v1 x) (hok : BOk (d + 1) x) (hT : Tabs w) (hm1 : -9223372036854775808 ≤ msg) (hm2 : msg ≤ 9223372036854775807) :
    Calls Tryz.prog 8 #[.agg #[vm, ve], .int .i64 msg, .agg #[v0, v1]] w fun r w' => r = .returned (.int .i64 (wrongB g d msg x)) ∧ Below w.heap.size w w' := by
  obtain ⟨am, nm, cm, rfl, Hnm, _⟩ := hg.1.shape
  obtain ⟨ae, ne, ce, rfl, _, _⟩ := hg.2.shape
  obtain ⟨a0, n0, c0, a1, n1, c1, rfl, rfl⟩ := hq.shape
  obtain ⟨W2, HW2⟩ : ∃ W2, Hid (W2 = (w.alloc (.cells #[.slice am nm cm, .slice ae ne ce] 25)).alloc (.cells #[.slice a0 n0 c0, .slice a1 n1 c1] 29)) := ⟨_, rfl⟩
  have hb2 : Below w.heap.size w W2 := by rw [HW2.out]; exact ((Below.refl _ _).alloc (Nat.le_refl _) _).alloc (by simp) _
  have z2 : w.heap.size + 2 ≤ W2.heap.size := by rw [HW2.out]; simp
  have x1 : W2.heap[w.heap.size]? = some (.cells #[.slice am nm cm, .slice ae ne ce] 25 (0, 0)) := by rw [HW2.out]; exact alloc2_old _ _ _
  have x2 : W2.heap[w.heap.size + 1]? = some (.cells #[.slice a0 n0 c0, .slice a1 n1 c1] 29 (0, 0)) := by rw [HW2.out]; exact alloc2_new _ _ _
  have hwr := Wrong_any (hg.below hb2) hn1 hn2 hfit
  obtain ⟨Q, HQ⟩ : ∃ Q, Hid (Q = (wrongL g).1) := ⟨_, rfl⟩
  obtain ⟨QI, HQI⟩ : ∃ QI, Hid (QI = (((wrongL g).2 : Nat) : Int)) := ⟨_, rfl⟩
  rw [← HQ.out, ← HQI.out] at hwr
  have hcl : ∀ V, Below W2.heap.size W2 V → V.cell? ⟨w.heap.size, 0, none⟩ = some (.slice am nm cm) ∧ V.cell? ⟨w.heap.size, 1, none⟩ = some (.slice ae ne ce) ∧ V.cell? ⟨w.heap.size + 1, 0, none⟩ = some (.slice a0 n0 c0) ∧ V.cell? ⟨w.heap.size + 1, 1, none⟩ = some (.slice a1 n1 c1) := fun V hV => ⟨cell_below hV (cell_of_blk x1 0 _ rfl), cell_below hV (cell_of_blk x1 1 _ rfl), cell_below hV (cell_of_blk x2 0 _ rfl), cell_below hV (cell_of_blk x2 1 _ rfl)⟩
  obtain ⟨ANS, HANS⟩ : ∃ ANS, Hid (ANS = wrongB g d msg x) := ⟨_, rfl⟩
  rw [← HANS.out]
  by_cases hQ0 : Q = 0
  · have ez : (Q != 0) = false := by simp [hQ0]
    have hr : (wrongL g).1 = 0 := by rw [← HQ.out]; exact hQ0
    have HZ : Hid (Q = 0) := hQ0
    clear hQ0
    by_cases hlo : msg < 0
    · have HA : Hid (ANS = 6) := by show _ = _; rw [HANS.out, wrongB, if_neg (by rw [hr]; simp), if_pos (.inl hlo)]
      go_enter Tryz.func8, Tryz.ntmps8
      go_wp2_with fail
      rw [← HW2.out]
      refine hwr.mono ?_
      rintro r w3 ⟨rfl, hb3⟩
      go_wp2
      go_ret
      exact ⟨by rw [HA.out]; rfl, (BTd hb2 hb3).alloc (BTd hb2 hb3).size _⟩
    · have hlo' : ¬ (msg < 0) := hlo
      by_cases hhi : (nm : Int) ≤ msg
      · have HA : Hid (ANS = 6) := by show _ = _; rw [HANS.out, wrongB, if_neg (by rw [hr]; simp), if_pos (.inr (by rw [← Hnm.out]; exact hhi))]
        go_enter Tryz.func8, Tryz.ntmps8
        go_wp2_with fail
        rw [← HW2.out]
        refine hwr.mono ?_
        rintro r w3 ⟨rfl, hb3⟩
        obtain ⟨t0, t1, t2, t3⟩ := hcl w3 hb3
        have hs3 : w.heap.size < w3.heap.size := Nat.lt_of_lt_of_le (by omega) hb3.size
        go_wp2
        go_ret
        exact ⟨by rw [HA.out]; rfl, (BTd hb2 hb3).alloc (BTd hb2 hb3).size _⟩
      · have hin : msg.toNat < g.msgs.length := by rw [← Hnm.out]; omega
        obtain ⟨i, rfl⟩ : ∃ i : Nat, msg = (i : Int) := ⟨msg.toNat, by omega⟩
        have hin : i < g.msgs.length := hin
        obtain ⟨m, hm⟩ : ∃ m, g.msgs[i]? = some m := ⟨g.msgs[i], List.getElem?_eq_getElem hin⟩
        obtain ⟨b, off, rfl, hat⟩ := hg.1.get MAt.plain hm
        obtain ⟨vf, vb, t0, t1, t2, hf, hbr⟩ := hat.at
        obtain ⟨af, nf, cf', rfl, _, _⟩ := hf.shape
        obtain ⟨ab, nb, cb, rfl, _, _⟩ := hbr.shape
        have HA : Hid (ANS = bodyE g (d + 1) 1 m.fields x) := by
          show _ = _
          rw [HANS.out, wrongB, if_neg (by rw [hr]; simp), if_neg (by omega)]
          show (match g.msgs[((i : Nat) : Int).toNat]? with | some m => bodyE g (d + 1) 1 m.fields x | none => 6) = _
          rw [Int.toNat_natCast, hm]
        have hbody : ∀ V, Below W2.heap.size W2 V → Calls Tryz.prog 25 #[.agg #[.slice (some ⟨b, off, none⟩) nm cm, .slice ae ne ce], .agg #[.string (S m.name), .slice af nf cf', .slice ab nb cb], .agg #[.slice a0 n0 c0, .slice a1 n1 c1], .int .i64 1] V fun r w' => r = .returned (.int .i64 ANS) ∧ Below V.heap.size V w' := by
          intro V hV
          have hWV := BTd hb2 hV
          rw [HA.out]
          exact bodyTold (right_subs hr) (d + 1) V 1 _ _ m _ _ _ _ x (by omega) (by omega) (hg.below hWV) (List.mem_of_getElem? hm) (hf.below FAt.stays hWV) (hbr.below NAt.stays hWV) (hq.below hWV) hok (hT.below hWV)
        have hcm : ∀ V, Below W2.heap.size W2 V → V.cell? ⟨b, off + i * 3, none⟩ = some (.string (S m.name)) ∧ V.cell? ⟨b, off + i * 3 + 1, none⟩ = some (.slice af nf cf') ∧ V.cell? ⟨b, off + i * 3 + 2, none⟩ = some (.slice ab nb cb) := fun V hV =>
          have hWV := BTd hb2 hV
          ⟨cell_below hWV t0, cell_below hWV t1, cell_below hWV t2⟩
        have hiz : (i : Int) < (nm : Int) := by omega
        clear hg hq hf hbr hat t0 t1 t2 hT hok hm hlo hr hin hlo' hhi
        have hlo' : ¬ ((i : Int) < 0) := by omega
        have hhi : ¬ ((nm : Int) ≤ (i : Int)) := by omega
        go_enter Tryz.func8, Tryz.ntmps8
        go_wp2_with fail
        rw [← HW2.out]
        refine hwr.mono ?_
        rintro r w3 ⟨rfl, hb3⟩
        obtain ⟨W4, HW4⟩ : ∃ W4, Hid (W4 = w3.alloc (.cells #[.int .i64 Q, .int .i64 QI] 63)) := ⟨_, rfl⟩
        have hb34 : Below w3.heap.size w3 W4 := by rw [HW4.out]; exact (Below.refl _ _).alloc (Nat.le_refl _) _
        have hb4 : Below W2.heap.size W2 W4 := BTd hb3 hb34
        have hs3 : w.heap.size < w3.heap.size := Nat.lt_of_lt_of_le (by omega) hb3.size
        obtain ⟨t0, t1, t2, t3⟩ := hcl w3 hb3
        have hD := BTd hb4 ((Below.refl W4.heap.size W4).drew)
        obtain ⟨s0, s1, s2, s3⟩ := hcl _ hD
        obtain ⟨p0, p1, p2⟩ := hcm _ hD
        have hbd := hbody _ hD
        go_wp2_with fail
        rw [← HW4.out]
        go_region_with (refine hbd.mono ?_; rintro r w5 ⟨rfl, hb5⟩)
        all_goals
          go_wp2
          go_ret
          exact ⟨rfl, BTd hb2 (BTd hD hb5)⟩
  · have ez : (Q != 0) = true := by simpa using hQ0
    have HA : Hid (ANS = Q) := by show _ = _; rw [HANS.out, wrongB, if_pos (by rw [← HQ.out]; exact hQ0), HQ.out]
    clear hQ0
    go_enter Tryz.func8, Tryz.ntmps8
    go_wp2_with fail
    rw [← HW2.out]
    refine hwr.mono ?_
    rintro r w3 ⟨rfl, hb3⟩
    go_wp2
    go_ret
    exact ⟨by rw [HA.out]; rfl, (BTd hb2 hb3).alloc (BTd hb2 hb3).size _⟩

end L
end Go.Proofs.YtelmjekjohbmjaaGreatDoor

