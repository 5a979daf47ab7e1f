import Derived.Test.YthgbiflfinddiaaGreatKRunq
/- written: what one step makes of its value. -/
namespace Go.Proofs.YthgbiflfinddiaaGreat
namespace L
open Go.RowKit

theorem flatY_le {num : Int} {ls : List (List UInt8)} (hl : ls.length ≤ 1048576) (hs : ∀ z ∈ ls, z.length ≤ 1048576) : (sizedN num ls).length ≤ 5000000000000 := by
  have := flat_le (l := ls) (f := fun b => ktagN num 2 ++ putN b.length ++ b) (c := 1048596) fun b hb => by
    have h1 := ktagN_len num 2
    have h2 := kputN_len b.length
    have h3 := hs b hb
    simp only [List.length_append]
    omega
  unfold sizedN
  have h4 : ls.length * 1048596 ≤ 1048576 * 1048596 := Nat.mul_le_mul_right _ hl
  omega
theorem packed_len (how : Int) (l : List Nat) : (packedN how l).length ≤ l.length * 10 := by
  unfold packedN
  split
  · exact flat_le fun n _ => kputB_len how n
  · simp
theorem nest_len {β : Type} (num : Int) (f : β → List UInt8 × Int) (hf : ∀ x, (f x).1.length ≤ 4001) : ∀ (l : List β) (acc : List UInt8), (nestGo num f acc l).1.length ≤ acc.length + l.length * 4021
  | [], acc => by simp [nestGo]
  | b :: r, acc => by
    rw [nestGo]
    split
    · simp
    · have := nest_len num f hf r (acc ++ sizedN num [(f b).1])
      rw [List.length_append] at this
      have h2 := sized1_len num (f b).1
      have h3 := hf b
      rw [List.length_cons, Nat.succ_mul]
      omega
theorem stepB_len {β : Type} {Q : β → Prop} (deep : TI → β → List UInt8 × Int) (hf : ∀ s x, (deep s x).1.length ≤ 4001) (s : TI) (v : VI β) (hv : VSm Q v) : (stepB deep s v).1.length ≤ 5000000000000 := by
  obtain ⟨h1, _, h3, h4, h5, _⟩ := hv
  unfold stepB
  split
  · have := single_len s v.bits
    simp only
    omega
  · split
    · have := sized1_len s.number (packedN s.how (v.bits.map (bitK s.field)))
      have h7 := packed_len s.how (v.bits.map (bitK s.field))
      rw [List.length_map] at h7
      simp only
      omega
    · split
      · exact flatY_le h3 h4
      · have := nest_len s.number (deep s) (hf s) v.subs []
        simp only [List.length_nil, Nat.zero_add] at this
        omega
theorem cells_alloc2 (w : World) (o o' : Obj) : Below w.heap.size w ((w.alloc o).alloc o') := ((Below.refl _ _).alloc (Nat.le_refl _) _).alloc (by simp) _
set_option maxHeartbeats 4000000 in
set_option maxRecDepth 100000 in
theorem written_any {d n : Nat} {w : World} {v1 v2 v3 : Value} {v : VI (BI d)} {Q : BI d → Prop} (h1 : RdL 1 UAt w v1 v.bits) (h2 : RdL 1 ZAt w v2 v.bytes) (h3 : RdL 2 (BAt d) w v3 v.subs) (hv : VSm Q v) (s : TI) (hs : StOk n s) {fn : Nat} {cap : Array Value} (hent : ∀ (args : Array Value) (w : World), (callFunc fn args).run Tryz.prog w = .ok (.enter fn args) w)
    {deep : TI → BI d → List UInt8 × Int} (hdeep : s.kind = 4 → ∀ x ∈ v.subs, KDeep d w fn cap s.next (deep s) x) (hlen : ∀ x, (deep s x).1.length ≤ 4001) :
    Calls Tryz.prog 75 #[tv s, .agg #[.int .i64 v.number, v1, v2, v3], .func (.func fn) #[] cap] w fun e w' => ∃ ao n c, e = .returned (.tuple #[.slice ao n c, .int .i64 (stepB deep s v).2]) ∧ Row ekY w' w.heap.size (.slice ao n c) (stepB deep s v).1 ∧ Below w.heap.size w w' := by
  obtain ⟨hv1, hv2, hv3, hv4, hv5, hv6⟩ := hv
  obtain ⟨k1, k2, k3, k4, k5, k6, k7⟩ := hs
  obtain ⟨a1, n1, c1, rfl, H1, _⟩ := h1.shape
  obtain ⟨a2, n2, c2, rfl, H2, _⟩ := h2.shape
  obtain ⟨a3, n3, c3, rfl, H3, _⟩ := h3.shape
  obtain ⟨q, Hq⟩ : ∃ q, Hid (stepB deep s v = q) := ⟨_, rfl⟩
  rw [Hq.out]
  obtain ⟨W0, HW0⟩ : ∃ W0, Hid (W0 = (w.alloc (.cells #[.int .i64 s.kind, .int .i64 s.number, .int .i64 s.how, .int .i64 s.field, .int .i64 s.next] 51)).alloc (.cells #[.int .i64 v.number, .slice a1 n1 c1, .slice a2 n2 c2, .slice a3 n3 c3] 71)) := ⟨_, rfl⟩
  have hb0 : Below w.heap.size w W0 := by rw [HW0.out]; exact cells_alloc2 _ _ _
  have hz0 : w.heap.size + 2 ≤ W0.heap.size := by rw [HW0.out]; simp
  have x0 : W0.heap[w.heap.size]? = some (.cells #[.int .i64 s.kind, .int .i64 s.number, .int .i64 s.how, .int .i64 s.field, .int .i64 s.next] 51 (0, 0)) := by rw [HW0.out]; exact alloc2_old _ _ _
  have x1 : W0.heap[w.heap.size + 1]? = some (.cells #[.int .i64 v.number, .slice a1 n1 c1, .slice a2 n2 c2, .slice a3 n3 c3] 71 (0, 0)) := by rw [HW0.out]; exact alloc2_new _ _ _
  unfold tv
  by_cases e1 : s.kind = 1
  · have b1 : (s.kind == 1) = true := by simp [e1]
    have HN : Hid (q = (singleN s v.bits, 0)) := by show _ = _; rw [← Hq.out, stepB, if_pos e1]
    have hc := single_any (h1.below UAt.stays hb0) hv2 (by omega) s (by omega) (by omega) k5 k6
    unfold tv at hc
    clear e1 k7
    go_enter Tryz.func75, Tryz.ntmps75
    go_wp2_with fail
    rw [← HW0.out]
    refine hc.mono ?_
    rintro e w1 ⟨a, m, c, rfl, hr, hb⟩
    go_wp2
    go_ret2
    exact ⟨a, m, c, by rw [HN.out]; rfl, by rw [HN.out]; exact hr.mono (by omega), KBT hb0 hb⟩
  · have b1 : (s.kind == 1) = false := by simp [e1]
    by_cases e2 : s.kind = 2
    · have b2 : (s.kind == 2) = true := by simp [e2]
      have HN : Hid (q = (sizedN s.number [packedN s.how (v.bits.map (bitK s.field))], 0)) := by show _ = _; rw [← Hq.out, stepB, if_neg e1, if_pos e2]
      have hcb : ∀ V, Below W0.heap.size W0 V → Calls Tryz.prog 109 #[.int .i64 s.field, .slice a1 n1 c1] V fun e w' => ∃ ao n cap, e = .returned (.slice ao n cap) ∧ Row ekU w' V.heap.size (.slice ao n cap) (v.bits.map (bitK s.field)) ∧ Below V.heap.size V w' := fun V hV => bits_any (h1.below UAt.stays (KBT hb0 hV)) hv2 (by omega) s.field
      have hle : ∀ y ∈ v.bits.map (bitK s.field), y ≤ 18446744073709551615 := fun y hy => by
        obtain ⟨n, hn, rfl⟩ := List.mem_map.1 hy
        exact bitK_le _ _ (hv2 n hn)
      have hll : (v.bits.map (bitK s.field)).length ≤ 1048576 := by rw [List.length_map]; exact hv1
      obtain ⟨L, HL⟩ : ∃ L, Hid (L = v.bits.map (bitK s.field)) := ⟨_, rfl⟩
      rw [← HL.out] at hcb hle hll HN
      have hpl : (sizedN s.number [packedN s.how L]).length ≤ 5000000000000 := by
        have := sized1_len s.number (packedN s.how L)
        have := packed_len s.how L
        omega
      have hcl : ∀ V, Below W0.heap.size W0 V → Below W0.heap.size W0 V ∧ (V.cell? ⟨w.heap.size, 0, none⟩ = some (.int .i64 s.kind) ∧ V.cell? ⟨w.heap.size, 1, none⟩ = some (.int .i64 s.number) ∧ V.cell? ⟨w.heap.size, 2, none⟩ = some (.int .i64 s.how) ∧ V.cell? ⟨w.heap.size, 3, none⟩ = some (.int .i64 s.field) ∧ V.cell? ⟨w.heap.size, 4, none⟩ = some (.int .i64 s.next)) ∧ V.cell? ⟨w.heap.size + 1, 0, none⟩ = some (.int .i64 v.number) ∧ V.cell? ⟨w.heap.size + 1, 1, none⟩ = some (.slice a1 n1 c1) ∧ V.cell? ⟨w.heap.size + 1, 2, none⟩ = some (.slice a2 n2 c2) ∧ V.cell? ⟨w.heap.size + 1, 3, none⟩ = some (.slice a3 n3 c3) := fun V hV => ⟨hV, blk5 ((hV.block _ (by omega)).trans x0), blk4 ((hV.block _ (by omega)).trans x1)⟩
      have hd : Below W0.heap.size W0 W0.drew := (Below.refl _ _).drew
      have hpk : ∀ (V : World) (a : Option Addr) (m c : Nat) (B : Nat), Row ekU V B (.slice a m c) L → Calls Tryz.prog 108 #[.int .i64 s.how, .slice a m c] V fun e w' => ∃ ao n cap, e = .returned (.slice ao n cap) ∧ Row ekY w' V.heap.size (.slice ao n cap) (packedN s.how L) ∧ Below V.heap.size V w' := fun V a m c B hr => packed_any hr.rdU hle (by omega) s.how
      have hsz : ∀ (V : World) (a : Option Addr) (m c B : Nat), Row ekY V B (.slice a m c) (packedN s.how L) → Calls Tryz.prog 107 #[.int .i64 s.number, .slice (some ⟨V.heap.size, 0, none⟩) 1 1] (V.alloc (.cells #[.slice a m c] 39)) fun e w' => ∃ ao n cap, e = .returned (.slice ao n cap) ∧ Row ekY w' (V.alloc (.cells #[.slice a m c] 39)).heap.size (.slice ao n cap) (sizedN s.number [packedN s.how L]) ∧ Below (V.alloc (.cells #[.slice a m c] 39)).heap.size (V.alloc (.cells #[.slice a m c] 39)) w' := fun V a m c B hr => sized_any (kz1_rd V hr.rdY) s.number (by omega) (by omega) hpl
      obtain ⟨_, ⟨t0, t1, t2, t3, t4⟩, t5, t6, t7, t8⟩ := hcl W0 (Below.refl _ _)
      clear e1 e2 k7 hdeep hlen h1 h2 h3
      go_enter Tryz.func75, Tryz.ntmps75
      go_wp2_with fail
      rw [← HW0.out]
      go_region_held3 (fun V => Below W0.heap.size W0 V ∧ (V.cell? ⟨w.heap.size, 0, none⟩ = some (.int .i64 s.kind) ∧ V.cell? ⟨w.heap.size, 1, none⟩ = some (.int .i64 s.number) ∧ V.cell? ⟨w.heap.size, 2, none⟩ = some (.int .i64 s.how) ∧ V.cell? ⟨w.heap.size, 3, none⟩ = some (.int .i64 s.field) ∧ V.cell? ⟨w.heap.size, 4, none⟩ = some (.int .i64 s.next)) ∧ V.cell? ⟨w.heap.size + 1, 0, none⟩ = some (.int .i64 v.number) ∧ V.cell? ⟨w.heap.size + 1, 1, none⟩ = some (.slice a1 n1 c1) ∧ V.cell? ⟨w.heap.size + 1, 2, none⟩ = some (.slice a2 n2 c2) ∧ V.cell? ⟨w.heap.size + 1, 3, none⟩ = some (.slice a3 n3 c3)) ((with_reducible refine hcl _ ?_; with_reducible (first | exact hd | exact hB1 | exact hB2 | exact KB_alloc hB2 (Nat.le_refl _) _ | exact hB3))) ((first | (go_at_call 109; refine (hcb _ (by with_reducible exact hd)).mono ?_; rintro e w1 ⟨ab, nb, cb, rfl, hr1, hb1⟩; have hB1 := KBT hd hb1) | (go_at_call 108; refine (hpk _ ab nb cb _ hr1).mono ?_; rintro e w2 ⟨ap, np, cp, rfl, hr2, hb2⟩; have hB2 := KBT hB1 hb2) | (go_at_call 107; refine (hsz w2 ap np cp _ hr2).mono ?_; rintro e w3 ⟨az, nz, cz, rfl, hr3, hb3⟩; have hB3 := KBT (KB_alloc hB2 (Nat.le_refl _) _) hb3)))
      all_goals
        have hr3' : Row ekY w3 w.heap.size (.slice az nz cz) (sizedN s.number [packedN s.how L]) := hr3.mono (Nat.le_trans (Nat.le_trans (by omega) hB2.size) (by simp))
        clear hr3 hr2 hr1
        go_wp2
        go_ret2
        exact ⟨az, nz, cz, by rw [HN.out]; rfl, by rw [HN.out]; exact hr3', KBT hb0 hB3⟩
    · have b2 : (s.kind == 2) = false := by simp [e2]
      by_cases e3 : s.kind = 3
      · have b3 : (s.kind == 3) = true := by simp [e3]
        have HN : Hid (q = (sizedN s.number v.bytes, 0)) := by show _ = _; rw [← Hq.out, stepB, if_neg e1, if_neg e2, if_pos e3]
        have hc := sized_any (h2.below ZAt.stays hb0) s.number (by omega) (by omega) (flatY_le hv3 hv4)
        clear e1 e2 e3 k7
        go_enter Tryz.func75, Tryz.ntmps75
        go_wp2_with fail
        rw [← HW0.out]
        refine hc.mono ?_
        rintro e w1 ⟨a, m, c, rfl, hr, hb⟩
        go_wp2
        go_ret2
        exact ⟨a, m, c, by rw [HN.out]; rfl, by rw [HN.out]; exact hr.mono (by omega), KBT hb0 hb⟩
      · have b3 : (s.kind == 3) = false := by simp [e3]
        have e4 : s.kind = 4 := by omega
        have HN : Hid (q = nestGo s.number (deep s) [] v.subs) := by show _ = _; rw [← Hq.out, stepB, if_neg e1, if_neg e2, if_neg e3]
        have hc := nested_any (h3.below (BAt.stays d) hb0) hv5 s (by omega) (by omega) hent (cap := cap) (f := deep s) (fun x hx => (hdeep e4 x hx).below hb0) (fun x _ => hlen x)
        rw [← HN.out] at hc
        unfold tv at hc
        clear e1 e2 e3 e4 k7 hdeep
        go_enter Tryz.func75, Tryz.ntmps75
        go_wp2_with fail
        rw [← HW0.out]
        refine hc.mono ?_
        rintro e w1 ⟨a, m, c, rfl, hr, hb⟩
        go_wp2
        go_ret2
        exact ⟨a, m, c, rfl, hr.mono (by omega), KBT hb0 hb⟩

end L
end Go.Proofs.YthgbiflfinddiaaGreat

