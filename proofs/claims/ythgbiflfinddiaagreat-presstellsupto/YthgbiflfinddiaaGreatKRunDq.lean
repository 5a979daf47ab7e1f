import Derived.Test.YthgbiflfinddiaaGreatKValsq
import Derived.Test.YthgbiflfinddiaaGreatKEnough
/- run, Run: what a program makes of a body, however deep. -/
namespace Go.Proofs.YthgbiflfinddiaaGreat
namespace L
open Go.RowKit

def runO {β : Type} (deep : TI → β → List UInt8 × Int) (p : List TI) (k : Int) (b : BO β) : List UInt8 × Int :=
  if 12 < k then ([], 10) else if (valsN deep b.vals [] p).2 ≠ 0 then ([], (valsN deep b.vals [] p).2) else if (unkGo [] b.unk).2 ≠ 0 then ([], (unkGo [] b.unk).2)
  else (((valsN deep b.vals [] p).1 ++ (unkGo [] b.unk).1).take 4001, 0)
def runN (ps : List (List TI)) : (d : Nat) → Int → Int → BI d → List UInt8 × Int
  | 0, _, _, _ => ([], 0)
  | d + 1, p, k, b => runO (fun s x => runN ps d s.next (k + 1) x) (ps.getD p.toNat []) k b
theorem runO_len {β : Type} (deep : TI → β → List UInt8 × Int) (p : List TI) (k : Int) (b : BO β) : (runO deep p k b).1.length ≤ 4001 := by
  unfold runO
  split
  · simp
  · split
    · simp
    · split
      · simp
      · rw [List.length_take]; omega
theorem runO_deep {β : Type} (deep : TI → β → List UInt8 × Int) (p : List TI) (b : BO β) {k : Int} (h : 12 < k) : runO deep p k b = ([], 10) := by unfold runO; rw [if_pos h]
theorem runO_else {β : Type} (deep : TI → β → List UInt8 × Int) (p : List TI) (b : BO β) {k : Int} (h : ¬ 12 < k) : runO deep p k b = if (valsN deep b.vals [] p).2 ≠ 0 then ([], (valsN deep b.vals [] p).2) else if (unkGo [] b.unk).2 ≠ 0 then ([], (unkGo [] b.unk).2)
  else (((valsN deep b.vals [] p).1 ++ (unkGo [] b.unk).1).take 4001, 0) := by unfold runO; rw [if_neg h]
theorem vals_len {β : Type} {Q : β → Prop} (deep : TI → β → List UInt8 × Int) (hf : ∀ s x, (deep s x).1.length ≤ 4001) (x : List (VI β)) (hx : ∀ v ∈ x, VSm Q v) : ∀ (p : List TI) (acc : List UInt8), (valsN deep x acc p).1.length ≤ acc.length + p.length * 5000000000000
  | [], acc => by simp [valsN]
  | s :: r, acc => by
    rw [valsN, List.length_cons, Nat.succ_mul]
    cases hfd : x.find? (fun v => decide (v.number = s.number)) with
    | none =>
      have := vals_len deep hf x hx r acc
      exact Nat.le_trans this (by omega)
    | some v =>
      simp only
      split
      · exact Nat.zero_le _
      · have h1 := vals_len deep hf x hx r (acc ++ (stepB deep s v).1)
        have h2 := stepB_len deep hf s v (hx v (List.mem_of_find?_eq_some hfd))
        rw [List.length_append] at h1
        omega
theorem unk_len : ∀ (l : List RI) (acc : List UInt8), (∀ r ∈ l, r.bytes.length ≤ 1048576) → (unkGo acc l).1.length ≤ acc.length + l.length * 1048596
  | [], acc, _ => by simp [unkGo]
  | r :: l, acc, h => by
    rw [unkGo, List.length_cons, Nat.succ_mul]
    split
    · simp
    · have h1 := unk_len l (acc ++ recN r.number r.how r.bits r.bytes) fun x hx => h x (List.mem_cons_of_mem _ hx)
      have h2 := recN_len r.number r.how r.bits r.bytes
      have h3 := h r (by simp)
      rw [List.length_append] at h1
      omega
theorem runN_len (ps : List (List TI)) : ∀ (d : Nat) (p k : Int) (b : BI d), (runN ps d p k b).1.length ≤ 4001
  | 0, _, _, _ => by simp [runN]
  | _ + 1, _, _, _ => runO_len _ _ _ _
/-- Programs that can be run. -/
def PsOk (ps : List (List TI)) : Prop := ps.length ≤ 10 ∧ ∀ p ∈ ps, p.length ≤ 16 ∧ ∀ s ∈ p, StOk ps.length s
def RunTold (ps : List (List TI)) (d : Nat) : Prop := ∀ (w : World) (vl v0 v1 : Value) (p k : Int) (b : BI d), RdL 1 PrAt w vl ps → 0 ≤ p → p < ps.length → 1 ≤ k → k ≤ 13 → KQ d w v0 v1 b → BSm d b →
  Calls Tryz.prog 23 #[vl, .int .i64 p, .agg #[v0, v1], .int .i64 k] w fun e w' => ∃ ao n c, e = .returned (.tuple #[.slice ao n c, .int .i64 (runN ps d p k b).2]) ∧ Row ekY w' w.heap.size (.slice ao n c) (runN ps d p k b).1 ∧ Below w.heap.size w w'
set_option maxHeartbeats 1000000 in
set_option maxRecDepth 100000 in
theorem run1_any {ps : List (List TI)} {d : Nat} (ih : RunTold ps d) {W : World} {vl : Value} {cl ck : Nat} {k : Int} (hl : RdL 1 PrAt W vl ps) (xl : W.heap[cl]? = some (.cells #[vl] 26 (0, 0))) (xk : W.heap[ck]? = some (.cells #[.int .i64 k] 3 (0, 0))) (hk1 : 0 ≤ k) (hk2 : k ≤ 12) {next : Int} (hn1 : 0 ≤ next) (hn2 : next < ps.length) {x : BI d} (hx : BSm d x) :
    KDeep d W 40 #[.pointer (some ⟨cl, 0, none⟩), .pointer (some ⟨ck, 0, none⟩)] next (fun y => runN ps d next (k + 1) y) x := by
  intro V v0 v1 hV hq
  show Calls Tryz.prog 40 #[.int .i64 next, .agg #[v0, v1], .pointer (some ⟨cl, 0, none⟩), .pointer (some ⟨ck, 0, none⟩)] V _
  obtain ⟨e0, m0, p0, e1, m1, p1, rfl, rfl⟩ := hq.shape
  obtain ⟨al, nl, kl, rfl, _, _⟩ := hl.shape
  have hcl := (Array.getElem?_eq_some_iff.1 xl).1
  have hck := (Array.getElem?_eq_some_iff.1 xk).1
  have t0 : V.cell? ⟨cl, 0, none⟩ = some (.slice al nl kl) := cell_of_blk ((hV.block _ hcl).trans xl) 0 _ rfl
  have t1 : V.cell? ⟨ck, 0, none⟩ = some (.int .i64 k) := cell_of_blk ((hV.block _ hck).trans xk) 0 _ rfl
  have hb1 : Below V.heap.size V (V.alloc (.cells #[.slice e0 m0 p0, .slice e1 m1 p1] 30)) := (Below.refl _ _).alloc (Nat.le_refl _) _
  have u0 := cell_below hb1 t0
  have u1 := cell_below hb1 t1
  have hc := ih (V.alloc (.cells #[.slice e0 m0 p0, .slice e1 m1 p1] 30)) _ _ _ next (k + 1) x ((hl.below PrAt.stays hV).below PrAt.stays hb1) hn1 hn2 (by omega) (by omega) (hq.below hb1) hx
  clear t0 t1 hq
  go_enter Tryz.func40, Tryz.ntmps40
  go_wp2_with fail
  refine hc.mono ?_
  rintro e w1 ⟨a, m, c, rfl, hr, hb⟩
  go_wp2
  go_ret2
  exact ⟨a, m, c, rfl, hr.mono (by simp), KBT hb1 hb⟩
theorem getD_at {ps : List (List TI)} {p : Int} (h0 : 0 ≤ p) (h1 : p < ps.length) : ps[p.toNat]? = some (ps.getD p.toNat []) := by
  have : p.toNat < ps.length := by omega
  simp [List.getD, this]
set_option maxHeartbeats 4000000 in
set_option maxRecDepth 100000 in
theorem run_step {ps : List (List TI)} (hps : PsOk ps) {d : Nat} (ih : RunTold ps d) : RunTold ps (d + 1) := by
  intro w vl v0 v1 p k b hl hp0 hp1 hk1 hk2 hq hsm
  have hq : BRd d w v0 v1 b := hq
  obtain ⟨hv, hun', hus⟩ : OSm (BSm d) b := hsm
  obtain ⟨al, nl, cl, rfl, Hnl, _⟩ := hl.shape
  obtain ⟨a0, n0, c0, rfl, H0, _⟩ := hq.1.shape
  obtain ⟨a1, n1, c1, rfl, H1, _⟩ := hq.2.shape
  obtain ⟨pn, rfl⟩ := Int.eq_ofNat_of_zero_le hp0
  have hpn : pn < nl := by rw [Hnl.out]; omega
  obtain ⟨R, HR⟩ : ∃ R, Hid (runN ps (d + 1) (pn : Int) k b = R) := ⟨_, rfl⟩
  rw [HR.out]
  obtain ⟨W0, HW0⟩ : ∃ W0, Hid (W0 = ((w.alloc (.cells #[.slice al nl cl] 26)).alloc (.cells #[.slice a0 n0 c0, .slice a1 n1 c1] 30)).alloc (.cells #[.int .i64 k] 3)) := ⟨_, rfl⟩
  have hb0 : Below w.heap.size w W0 := by rw [HW0.out]; exact (((Below.refl _ _).alloc (Nat.le_refl _) _).alloc (by simp) _).alloc (by simp; omega) _
  have hz0 : w.heap.size + 3 ≤ W0.heap.size := by rw [HW0.out]; simp
  obtain ⟨x3, x2, x1⟩ := alloc3 w (.cells #[.slice al nl cl] 26) (.cells #[.slice a0 n0 c0, .slice a1 n1 c1] 30) (.cells #[.int .i64 k] 3)
  rw [← HW0.out] at x1 x2 x3
  by_cases h12 : 12 < k
  · have HN : Hid (R = ([], 10)) := by show _ = _; rw [← HR.out]; exact runO_deep _ _ _ h12
    go_enter Tryz.func23, Tryz.ntmps23
    go_wp2_with fail
    rw [← HW0.out]
    go_ret2
    exact ⟨none, 0, 0, by rw [HN.out]; rfl, by rw [HN.out]; exact Row.nil _ _ _, hb0⟩
  obtain ⟨P, HP⟩ : ∃ P, Hid (P = ps.getD ((pn : Int)).toNat []) := ⟨_, rfl⟩
  have hP := getD_at hp0 hp1
  rw [← HP.out] at hP
  obtain ⟨hP16, hPst⟩ := hps.2 P (List.mem_of_getElem? hP)
  obtain ⟨V0, HV0⟩ : ∃ q, Hid (valsN (fun s x => runN ps d s.next (k + 1) x) b.vals [] P = q) := ⟨_, rfl⟩
  obtain ⟨U0, HU0⟩ : ∃ q, Hid (unkGo [] b.unk = q) := ⟨_, rfl⟩
  have HRR : Hid (R = if V0.2 ≠ 0 then ([], V0.2) else if U0.2 ≠ 0 then ([], U0.2) else ((V0.1 ++ U0.1).take 4001, 0)) := by
    show _ = _
    rw [← HR.out]
    refine (runO_else (β := BI d) (fun s x => runN ps d s.next (k + 1) x) (ps.getD ((pn : Int)).toNat []) b h12).trans ?_
    rw [← HP.out, HV0.out, HU0.out]
  obtain ⟨bl, ol, rfl, hat⟩ := hl.get PrAt.plain hP
  obtain ⟨vp, hc0, hrp⟩ := hat
  obtain ⟨ap, np, cp, rfl, Hnp, _⟩ := hrp.shape
  have hc0' : w.cell? ⟨bl, ol + pn, none⟩ = some (.slice ap np cp) := by simpa using hc0
  have hpi : (pn : Int) < (nl : Int) := by omega
  have hmf := makeF
  have hvl : ∀ V, Below W0.heap.size W0 V → Calls Tryz.prog 41 #[.slice ap np cp, .agg #[.slice a0 n0 c0, .slice a1 n1 c1], .func (.func 40) #[] #[.pointer (some ⟨w.heap.size, 0, none⟩), .pointer (some ⟨w.heap.size + 1 + 1, 0, none⟩)]] V fun e w' => ∃ ao n c, e = .returned (.tuple #[.slice ao n c, .int .i64 V0.2]) ∧ Row ekY w' V.heap.size (.slice ao n c) V0.1 ∧ Below V.heap.size V w' := fun V hV => by
    have hVw := KBT hb0 hV
    have := values_any (n := ps.length) (hrp.below StAt.stays hVw) hP16 (hq.below hVw) hv hPst (enters_of Tryz.func40 (by kernel_rfl) rfl) (deep := fun s x => runN ps d s.next (k + 1) x) (fun s hs h4 v hvm x hx => (run1_any ih (hl.below PrAt.stays hb0) x1 x3 (by omega) (by omega) ((hPst s hs).2.2.2.2.2.2 h4).1 ((hPst s hs).2.2.2.2.2.2 h4).2 ((hv v hvm).2.2.2.2.2 x hx)).below hV) (fun s x => runN_len ps d _ _ x)
    rw [HV0.out] at this
    exact this
  have hunk : ∀ V, Below W0.heap.size W0 V → Calls Tryz.prog 42 #[.slice a1 n1 c1] V fun e w' => ∃ ao n cap, e = .returned (.tuple #[.slice ao n cap, .int .i64 U0.2]) ∧ Row ekY w' V.heap.size (.slice ao n cap) U0.1 ∧ Below V.heap.size V w' := fun V hV => by
    have := unknown_run ((hq.below (KBT hb0 hV)).2) hun' hus
    rw [HU0.out] at this
    exact this
  have hcl : ∀ V, Below W0.heap.size W0 V → Below W0.heap.size W0 V ∧ V.cell? ⟨w.heap.size, 0, none⟩ = some (.slice (some ⟨bl, ol, none⟩) nl cl) ∧ (V.cell? ⟨w.heap.size + 1, 0, none⟩ = some (.slice a0 n0 c0) ∧ V.cell? ⟨w.heap.size + 1, 1, none⟩ = some (.slice a1 n1 c1)) ∧ V.cell? ⟨bl, ol + pn, none⟩ = some (.slice ap np cp) := fun V hV => ⟨hV, cell_of_blk ((hV.block _ (by omega)).trans x1) 0 _ rfl, blk2 ((hV.block _ (by omega)).trans x2), cell_below (KBT hb0 hV) hc0'⟩
  have hd : Below W0.heap.size W0 W0.drew := (Below.refl _ _).drew
  obtain ⟨_, g1, ⟨g2, g3⟩, g4⟩ := hcl W0 (Below.refl _ _)
  have hwd := hvl W0.drew hd
  clear hc0 ih hvl
  go_enter Tryz.func23, Tryz.ntmps23
  go_wp2_with fail
  rw [← HW0.out]
  go_cut [11, 12] from 17 to 30 (fun s11 s12 wc => ∃ (a5 : Option Addr) (n5 c5 : Nat), s11 = .slice a5 n5 c5 ∧ s12 = .int .i64 V0.2 ∧ Row ekY wc W0.heap.size (.slice a5 n5 c5) V0.1 ∧ Below W0.heap.size W0 wc)
  case first =>
    go_region_held3 (fun V => Below W0.heap.size W0 V ∧ V.cell? ⟨w.heap.size, 0, none⟩ = some (.slice (some ⟨bl, ol, none⟩) nl cl) ∧ (V.cell? ⟨w.heap.size + 1, 0, none⟩ = some (.slice a0 n0 c0) ∧ V.cell? ⟨w.heap.size + 1, 1, none⟩ = some (.slice a1 n1 c1)) ∧ V.cell? ⟨bl, ol + pn, none⟩ = some (.slice ap np cp)) ((with_reducible refine hcl _ ?_; with_reducible (first | exact hd | exact hB3))) ((go_at_call 41; refine hwd.mono ?_; rintro e w3 ⟨a5, n5, c5, rfl, hr5, hb5⟩; have hB3 := KBT hd hb5))
    all_goals
      go_wp2_with fail
      go_meet
    all_goals exact ⟨a5, n5, c5, rfl, rfl, hr5, hB3⟩
  case rest =>
    obtain ⟨a5, n5, c5, rfl, rfl, hr5, hB3⟩ := hcut
    obtain ⟨E1, HE1⟩ : ∃ E1, Hid (V0.2 = E1) := ⟨_, rfl⟩
    obtain ⟨E2, HE2⟩ : ∃ E2, Hid (U0.2 = E2) := ⟨_, rfl⟩
    have HRR := HRR.out
    rw [HE1.out, HE2.out] at HRR
    have hun := hunk wc hB3
    rw [HE2.out] at hun
    rw [HE1.out]
    obtain ⟨_, g1, ⟨g2, g3⟩, g4⟩ := hcl wc hB3
    by_cases hE : E1 = 0
    · have hEb : (E1 != 0) = false := by simp [hE]
      rw [if_neg (by simp [hE])] at HRR
      have HRR : Hid (R = if E2 ≠ 0 then ([], E2) else ((V0.1 ++ U0.1).take 4001, 0)) := HRR
      have hL1 : V0.1.length ≤ 80000000000000 := by
        have := vals_len (fun s x => runN ps d s.next (k + 1) x) (fun s x => runN_len ps d _ _ x) b.vals hv P []
        rw [HV0.out] at this
        simp only [List.length_nil, Nat.zero_add] at this
        have h5 : P.length * 5000000000000 ≤ 16 * 5000000000000 := Nat.mul_le_mul_right _ hP16
        exact Nat.le_trans this (Nat.le_trans h5 (by decide))
      have hL2 : U0.1.length ≤ 1099532599296 := by
        have := unk_len b.unk [] fun r hr => (hus r hr).2
        rw [HU0.out] at this
        simp only [List.length_nil, Nat.zero_add] at this
        have h5 : (BO.unk b).length * 1048596 ≤ 1048576 * 1048596 := Nat.mul_le_mul_right _ hun'
        exact Nat.le_trans this (Nat.le_trans h5 (by decide))
      have hn5 : n5 = V0.1.length := hr5.len
      have HN5 : Hid (n5 = V0.1.length) := hn5
      have hn5b : n5 ≤ 80000000000000 := by rw [hn5]; exact hL1
      clear hE hn5
      go_wp2_with fail
      refine hun.mono ?_
      rintro e w4 ⟨a6, n6, c6, rfl, hr6, hb6⟩
      have hB4 : Below W0.heap.size W0 w4 := KBT hB3 hb6
      have hn6 : n6 = U0.1.length := hr6.len
      have HN6 : Hid (n6 = U0.1.length) := hn6
      have hn6b : n6 ≤ 1099532599296 := by rw [hn6]; exact hL2
      clear hn6 hun
      by_cases hE2 : E2 = 0
      · have hE2b : (E2 != 0) = false := by simp [hE2]
        have HF : Hid (R = ((V0.1 ++ U0.1).take 4001, 0)) := by
          show _ = _; rw [HRR.out, if_neg (by simp [hE2])]
        have hr54 := hr5.below hb6
        obtain ⟨q1, q2, q3⟩ := ksrcY hr6.rdY
        clear hE2 hr5
        go_wp2_with (at_builtin; refine wpList_appG (by rfl) ekY _ _ (by rfl) W0.heap.size (.slice a5 n5 c5) _ U0.1 (by rfl) hr54 a6 n6 c6 (by rfl) q1 q2 q3 (by decide) ?d2 hB4.size ?_)
        case d2 =>
          rw [show ekY.bytes = 1 from rfl, Nat.mul_one]
          omega
        intro v' w7 hr7 hg7
        obtain ⟨a7, n7, c7, rfl, _⟩ := hr7.shape'
        have hB7 : Below W0.heap.size W0 w7 := hB4.grown hg7 hB4.size (fun k hk => (hr54.own k hk).1)
        have hen := enough_any hr7
        clear hr7 hr54 hr6
        go_wp2_with fail
        refine hen.mono ?_
        rintro e w8 ⟨m, rfl, hr8, rfl⟩
        go_wp2
        go_ret2
        exact ⟨a7, m, c7, by rw [HF.out]; rfl, by rw [HF.out]; exact hr8.mono (by omega), KBT hb0 hB7⟩
      · have hE2b : (E2 != 0) = true := by simpa using hE2
        have HF : Hid (R = ([], E2)) := by
          show _ = _; rw [HRR.out, if_pos hE2]
        clear hE2
        go_wp2
        go_ret2
        exact ⟨none, 0, 0, by rw [HF.out]; rfl, by rw [HF.out]; exact Row.nil _ _ _, KBT hb0 hB4⟩
    · have hEb : (E1 != 0) = true := by simpa using hE
      rw [if_pos hE] at HRR
      have HRR : Hid (R = ([], E1)) := HRR
      clear hE
      go_wp2
      go_ret2
      exact ⟨none, 0, 0, by rw [HRR.out]; rfl, by rw [HRR.out]; exact Row.nil _ _ _, KBT hb0 hB3⟩
theorem runTold {ps : List (List TI)} (hps : PsOk ps) : ∀ d, RunTold ps d
  | 0 => fun _ _ _ _ _ _ _ _ _ _ _ _ hq _ => hq.elim
  | d + 1 => run_step hps (runTold hps d)
theorem wrongQs_ok {n : Nat} : ∀ (l : List (List TI)) (i : Nat), (wrongQs n i l).1 = 0 → ∀ p ∈ l, wrongQ p n = 0
  | [], _, _, _, hp => by cases hp
  | q :: l, i, h, p, hp => by
    rw [wrongQs] at h
    split at h
    · rename_i h0; exact absurd h h0
    · rename_i h0
      rcases List.mem_cons.1 hp with rfl | hp
      · simpa using h0
      · exact wrongQs_ok l _ h p hp
theorem wrongTs_ok {n : Nat} : ∀ (l : List TI) (a : Int), wrongTs n l a = 0 → ∀ s ∈ l, ∃ a, wrongT s a n = 0
  | [], _, _, _, hp => by cases hp
  | q :: l, a, h, s, hs => by
    rw [wrongTs] at h
    split at h
    · rename_i h0; exact absurd h h0
    · rename_i h0
      rcases List.mem_cons.1 hs with rfl | hs
      · exact ⟨a, by simpa using h0⟩
      · exact wrongTs_ok l _ h s hs
theorem khow_bd (k : Int) : 0 ≤ howN k ∧ howN k ≤ 7 := by
  unfold howN; split
  · omega
  · split
    · omega
    · split <;> omega
theorem wrongT_ok {s : TI} {a : Int} {n : Nat} (h : wrongT s a n = 0) : StOk n s := by
  unfold wrongT at h
  split at h
  · cases h
  · split at h
    · cases h
    · split at h
      · cases h
      · split at h
        · cases h
        · split at h
          · cases h
          · rename_i h1 h2 h3 h4 h5
            have h6 : s.how = howN s.field := by
              simp only [misN, Bool.not_eq_true, Bool.or_eq_false_iff, decide_eq_false_iff_not, ne_eq, Decidable.not_not] at h4
              exact h4.1
            have hb := khow_bd s.field
            refine ⟨by omega, by omega, by omega, by omega, by omega, by omega, fun e4 => ?_⟩
            simp only [nowN, e4, if_true, Bool.not_eq_true, Bool.or_eq_false_iff, decide_eq_false_iff_not] at h5
            omega
theorem wrongP_ok {l : List (List TI)} (h : (wrongP l).1 = 0) : PsOk l := by
  unfold wrongP at h
  split at h
  · cases h
  · rename_i h1
    refine ⟨by omega, fun p hp => ?_⟩
    have h2 := wrongQs_ok l _ h p hp
    unfold wrongQ at h2
    split at h2
    · cases h2
    · refine ⟨by omega, fun s hs => ?_⟩
      obtain ⟨a, ha⟩ := wrongTs_ok p _ h2 s hs
      exact wrongT_ok ha
/-- Run. -/
def muchN (r : List UInt8 × Int) : List UInt8 × Int := if r.2 ≠ 0 then ([], r.2) else if 4000 < r.1.length then ([], 4) else (r.1, 0)
def RunN (ps : List (List TI)) (p : Int) (d : Nat) (b : BO (BI d)) : List UInt8 × Int :=
  if (wrongP ps).1 ≠ 0 then ([], (wrongP ps).1) else if p < 0 ∨ (ps.length : Int) ≤ p then ([], 6) else muchN (runN ps (d + 1) p 1 b)
set_option maxHeartbeats 4000000 in
set_option maxRecDepth 100000 in
theorem Run_any {ps : List (List TI)} {d : Nat} {w : World} {vl v0 v1 : Value} {p : Int} {b : BO (BI d)} (hl : RdL 1 PrAt w vl ps) (hq : BRd d w v0 v1 b) (hsm : OSm (BSm d) b) :
    Calls Tryz.prog 10 #[vl, .int .i64 p, .agg #[v0, v1]] w fun e w' => ∃ ao n c, e = .returned (.tuple #[.slice ao n c, .int .i64 (RunN ps p d b).2]) ∧ Row ekY w' w.heap.size (.slice ao n c) (RunN ps p d b).1 ∧ Below w.heap.size w w' := by
  obtain ⟨al, nl, cl, rfl, Hnl, hnl⟩ := hl.shape
  obtain ⟨a0, n0, c0, rfl, H0, _⟩ := hq.1.shape
  obtain ⟨a1, n1, c1, rfl, H1, _⟩ := hq.2.shape
  obtain ⟨R, HR⟩ : ∃ R, Hid (RunN ps p d b = R) := ⟨_, rfl⟩
  rw [HR.out]
  obtain ⟨W0, HW0⟩ : ∃ W0, Hid (W0 = w.alloc (.cells #[.slice a0 n0 c0, .slice a1 n1 c1] 30)) := ⟨_, rfl⟩
  have hb0 : Below w.heap.size w W0 := by rw [HW0.out]; exact (Below.refl _ _).alloc (Nat.le_refl _) _
  have hz0 : w.heap.size + 1 ≤ W0.heap.size := by rw [HW0.out]; simp
  have x0 : W0.heap[w.heap.size]? = some (.cells #[.slice a0 n0 c0, .slice a1 n1 c1] 30 (0, 0)) := by rw [HW0.out]; exact heap_alloc_new _ _
  have hwr := pressWrong_any (hl.below PrAt.stays hb0)
  obtain ⟨E, I, HE⟩ : ∃ E I, Hid (wrongP ps = (E, I)) := ⟨_, _, rfl⟩
  rw [HE.out] at hwr
  go_enter Tryz.func10, Tryz.ntmps10
  go_wp2_with fail
  rw [← HW0.out]
  refine hwr.mono ?_
  rintro e w1 ⟨rfl, hb1⟩
  obtain ⟨W2, HW2⟩ : ∃ W2, Hid (W2 = w1.alloc (.cells #[.int .i64 E, .int .i64 (I : Int)] 33)) := ⟨_, rfl⟩
  have hb2 : Below w1.heap.size w1 W2 := by rw [HW2.out]; exact (Below.refl _ _).alloc (Nat.le_refl _) _
  have hz1 := hb1.size
  have hbw2 : Below w.heap.size w W2 := KBT (KBT hb0 hb1) hb2
  have x2 : W2.heap[w1.heap.size]? = some (.cells #[.int .i64 E, .int .i64 (I : Int)] 33 (0, 0)) := by rw [HW2.out]; exact heap_alloc_new _ _
  obtain ⟨t0, t1⟩ := blk2 x2
  clear hwr
  by_cases hE : E = 0
  · subst hE
    obtain ⟨u0, u1⟩ := blk2 ((hb2.block _ (by omega)).trans ((hb1.block _ (by omega)).trans x0))
    rw [HW2.out] at u0 u1
    have hok : PsOk ps := wrongP_ok (by rw [HE.out])
    by_cases hp : p < 0 ∨ (ps.length : Int) ≤ p
    · have HF : Hid (R = ([], 6)) := by
        show _ = _; rw [← HR.out, RunN, HE.out, if_neg (by simp), if_pos hp]
      by_cases hp0 : p < 0
      · clear hp
        go_wp2_with fail
        rw [← HW2.out]
        go_ret2
        exact ⟨none, 0, 0, by rw [HF.out]; rfl, by rw [HF.out]; exact Row.nil _ _ _, hbw2⟩
      · have hp1 : (nl : Int) ≤ p := by rw [Hnl.out]; omega
        clear hp
        go_wp2_with fail
        rw [← HW2.out]
        go_ret2
        exact ⟨none, 0, 0, by rw [HF.out]; rfl, by rw [HF.out]; exact Row.nil _ _ _, hbw2⟩
    · have HF : Hid (R = muchN (runN ps (d + 1) p 1 b)) := by
        show _ = _; rw [← HR.out, RunN, HE.out, if_neg (by simp), if_neg hp]
      have hp0 : ¬ p < 0 := by omega
      have hp1 : ¬ (nl : Int) ≤ p := by rw [Hnl.out]; omega
      have hc := runTold hok (d + 1) W2 _ _ _ p 1 b (hl.below PrAt.stays hbw2) (by omega) (by omega) (by omega) (by omega) (hq.below hbw2) hsm
      have hrl := runN_len ps (d + 1) p 1 b
      obtain ⟨L, E, HL⟩ : ∃ L E, Hid (runN ps (d + 1) p 1 b = (L, E)) := ⟨_, _, rfl⟩
      rw [HL.out] at hc hrl
      have HF : Hid (R = if E ≠ 0 then ([], E) else if 4000 < L.length then ([], 4) else (L, 0)) := by
        show _ = _; rw [HF.out, HL.out]; rfl
      clear hp
      go_wp2_with fail
      rw [← HW2.out]
      refine hc.mono ?_
      rintro e w3 ⟨a, m, c, rfl, hr, hb3⟩
      have hm : m = L.length := hr.len
      have Hm : Hid (m = L.length) := hm
      have hm' : m ≤ 4001 := by rw [hm]; exact hrl
      have hB := KBT hbw2 hb3
      clear hm hc
      by_cases hE : E = 0
      · have hEb : (E != 0) = false := by simp [hE]
        by_cases h4 : 4000 < m
        · have HF : Hid (R = ([], 4)) := by show _ = _; rw [HF.out, if_neg (by simp [hE]), if_pos (by rw [← Hm.out]; exact h4)]
          have hi : (4000 : Int) < (m : Int) := by omega
          clear hE
          go_wp2
          go_ret2
          exact ⟨none, 0, 0, by rw [HF.out]; rfl, by rw [HF.out]; exact Row.nil _ _ _, hB⟩
        · have HF : Hid (R = (L, 0)) := by show _ = _; rw [HF.out, if_neg (by simp [hE]), if_neg (by rw [← Hm.out]; exact h4)]
          have hi : ¬ (4000 : Int) < (m : Int) := by omega
          clear hE
          go_wp2
          go_ret2
          exact ⟨a, m, c, by rw [HF.out]; rfl, by rw [HF.out]; exact hr.mono hbw2.size, hB⟩
      · have hEb : (E != 0) = true := by simpa using hE
        have HF : Hid (R = ([], E)) := by show _ = _; rw [HF.out, if_pos hE]
        clear hE
        go_wp2
        go_ret2
        exact ⟨none, 0, 0, by rw [HF.out]; rfl, by rw [HF.out]; exact Row.nil _ _ _, hB⟩
  · have hEb : (E != 0) = true := by simpa using hE
    have HF : Hid (R = ([], E)) := by
      show _ = _; rw [← HR.out, RunN, HE.out, if_pos hE]
    have hd : Below w.heap.size w W2.drew := hbw2.drew
    clear hE
    go_wp2_with fail
    rw [← HW2.out]
    go_region
    all_goals
      go_wp2_with fail
      go_ret2
      exact ⟨none, 0, 0, by rw [HF.out]; rfl, by rw [HF.out]; exact Row.nil _ _ _, hd⟩

end L
end Go.Proofs.YthgbiflfinddiaaGreat

