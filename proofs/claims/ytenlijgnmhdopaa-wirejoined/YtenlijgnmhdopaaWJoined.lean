/- One behind the other: appending records; the law's walk. -/
import Derived.Test.YtenlijgnmhdopaaWTurns
namespace Go.Proofs.Ytenlijgnmhdopaa
open Go.RowKit

/-- A slice of records that the call itself put together of records that lay in the world W0. -/
def RowR (W0 w : World) (v : Value) (ps : List (Rcd × Value)) : Prop :=
  w.ownsRow W0.heap.size 53 4 v ps.length (flat ps) ∧ (∀ p ∈ ps, OwnB W0 0 p.2 p.1.bytes ∧ p.1.wf) ∧ Below W0.heap.size W0 w

theorem RowR.made (W0 : World) : RowR W0 (W0.alloc (.cells #[] 53)) (.slice (some ⟨W0.heap.size, 0, none⟩) 0 0) [] :=
  ⟨World.ownsRow_made W0 #[] 0 (Nat.le_refl _) (by unfold maxLen; omega) rfl, (fun p hp => by simp at hp), below_new _ _⟩

theorem RowR.rd {W0 w : World} {v : Value} {ps : List (Rcd × Value)} (h : RowR W0 w v ps) : ∃ ao len cap, v = .slice ao len cap ∧ RdR w ao len cap (ps.map Prod.fst) := by
  have : OwnR w 0 v ps := by
    refine ⟨⟨h.1.1, ?_⟩, fun p hp => ⟨(h.2.1 p hp).1.keptB h.2.2, (h.2.1 p hp).2⟩⟩
    rcases h.1.2 with hn | ⟨g, cap, cur, hv, hbg, r⟩
    · exact .inl hn
    · exact .inr ⟨g, cap, cur, hv, Nat.zero_le _, r⟩
  exact this.rd

theorem flat_app (ps qs : List (Rcd × Value)) : flat (ps ++ qs) = flat ps ++ flat qs := by simp [flat]

/-- 'append(v, x...)', v the call's own, x records that lay in W0. -/
theorem wpList_appRR {W0 w : World} {ops : Array Oper} {rest : List Oper} {o : Oper} {a : Act} {Q : Exit → Act → World → Prop} (hw : Region.wanted o (yielded ops a.tmps) = true) (s x : Operand)
    (ho : o.op = .call { callee := .builtin .append, args := #[s, x], argTypes := #[32, 32] })
    (v : Value) (ps qs : List (Rcd × Value)) (hs : a.eval s = v) (hown : RowR W0 w v ps) (u : Value) (hx : a.eval x = u) (hq : OwnR W0 0 u qs)
    (hlen : ps.length + qs.length ≤ 1000000)
    (h : ∀ v' w', RowR W0 w' v' (ps ++ qs) → wpList Try.prog ops Q rest (a.put o.dst v') w') : wpList Try.prog ops Q (o :: rest) a w := by
  obtain ⟨i0, hi, hz0, hz1, hz2⟩ := info_parts info_rec
  refine BigFrame.wpList_want hw fun K hK => ?_
  have hq' := hq.keptB hown.2.2
  rcases hq'.1.2 with ⟨hu, hn⟩ | ⟨g, cap, cur, hu, hb, hg, hn, hm, hsz, ht⟩
  · have hqs : qs = [] := List.eq_nil_of_length_eq_zero hn
    subst hqs
    have hrun := run_append_owned_none (P := Try.prog) (w := w) W0.heap.size 32 o.type 53 i0 4 Try.underlying32 hi v ps.length (flat ps) hown.1
    rw [hu] at hx
    unfold Oper.wp
    simp [execOp, ho, resolve, invoke, builtin, hs, hx, hrun, Result.andThen]
    exact hK _ _ (h v w (by rw [List.append_nil]; exact hown))
  · rw [hu] at hx
    refine wp_append_own w s x 32 ho W0.heap.size 53 i0 _ 4 48 Try.underlying32 hi hz0 hz1 hz2 rfl (by decide) v ps.length _ hs hown.1 ⟨g, 0, none⟩ qs.length cap
      (flat qs) hx (flat_len qs) (World.ownsRow.cells hq'.1 (g := g) (by rw [hu]; rfl)) ?_ (by unfold maxLen; omega) (by omega) hown.2.2.size ?_
    · intro y hy
      simp only [flat, List.mem_flatMap] at hy
      obtain ⟨p, hp, hy⟩ := hy
      obtain ⟨ao, len, cap, hsv, _⟩ := (hq.2 p hp).1.rd
      simp only [recCells, List.mem_cons, List.mem_nil_iff, or_false] at hy
      rcases hy with rfl | rfl | rfl | rfl
      · rfl
      · rfl
      · rfl
      · rw [hsv]; rfl
    · intro v' w' h1 h2 _
      refine hK _ _ (h v' w' ⟨?_, ?_, ?_⟩)
      · rw [List.length_append, flat_app]; exact h1
      · intro p hp
        rw [List.mem_append] at hp
        rcases hp with hp | hp
        · exact hown.2.1 p hp
        · exact hq.2 p hp
      · exact hown.2.2.grown h2 hown.2.2.size (fun k hk => (World.ownsRow.lt hown.1 k hk).1)

/-! ### The walk -/

set_option linter.unusedVariables false

theorem parseGo_at : ∀ (f k : Nat) (acc : List Rcd) (l : List UInt8) (m : List Rcd) (E a : Nat), parseGo f k acc l = (m, E, a) → a ≤ k + l.length := by
  intro f
  induction f with
  | zero =>
    intro k acc l m E a h
    rw [parseGo] at h
    obtain ⟨_, _, e⟩ := three_eq h
    omega
  | succ f ih =>
    intro k acc l m E a h
    by_cases h0 : l.length = 0
    · rw [parseGo_end h0] at h
      obtain ⟨_, _, e⟩ := three_eq h
      omega
    · obtain ⟨r, n, F, hr⟩ : ∃ r n F, recOf l = (r, n, F) := ⟨_, _, _, rfl⟩
      obtain ⟨r1, r2, r3, r4⟩ := recOf_bd hr
      by_cases hF : F = 0
      · subst hF
        rw [parseGo_go h0 hr] at h
        have := ih _ _ _ _ _ _ h
        rw [List.length_drop] at this
        omega
      · rw [parseGo_err h0 hr hF] at h
        obtain ⟨_, _, e⟩ := three_eq h
        omega
theorem parseGo_len : ∀ (f k : Nat) (acc : List Rcd) (l : List UInt8) (m : List Rcd) (E a : Nat), parseGo f k acc l = (m, E, a) → m.length ≤ acc.length + l.length := by
  intro f
  induction f with
  | zero =>
    intro k acc l m E a h
    rw [parseGo] at h
    obtain ⟨e, _, _⟩ := three_eq h
    rw [← e]
    omega
  | succ f ih =>
    intro k acc l m E a h
    by_cases h0 : l.length = 0
    · rw [parseGo_end h0] at h
      obtain ⟨e, _, _⟩ := three_eq h
      rw [← e]
      omega
    · obtain ⟨r, n, F, hr⟩ : ∃ r n F, recOf l = (r, n, F) := ⟨_, _, _, rfl⟩
      obtain ⟨r1, r2, r3, r4⟩ := recOf_bd hr
      by_cases hF : F = 0
      · subst hF
        have := (r3 rfl).1
        rw [parseGo_go h0 hr] at h
        have := ih _ _ _ _ _ _ h
        rw [List.length_drop, List.length_append] at this
        simp at this
        omega
      · rw [parseGo_err h0 hr hF] at h
        obtain ⟨e, _, _⟩ := three_eq h
        rw [← e]
        simp
theorem parseR_len {l : List UInt8} {m : List Rcd} {E a : Nat} (h : parseR l = (m, E, a)) : m.length ≤ l.length := by
  unfold parseR at h
  split at h
  · obtain ⟨e, _, _⟩ := three_eq h; rw [← e]; simp
  · have := parseGo_len _ _ _ _ _ _ _ h; simpa using this
theorem parseR_at {l : List UInt8} {m : List Rcd} {E a : Nat} (h : parseR l = (m, E, a)) : a ≤ l.length := by
  unfold parseR at h
  split at h
  · obtain ⟨_, _, e⟩ := three_eq h; omega
  · have := parseGo_at _ _ _ _ _ _ _ h; omega

set_option maxHeartbeats 2000000 in
set_option maxRecDepth 100000 in
theorem joined_bad (ao : Option Addr) (la ca : Nat) (l : List UInt8) (bo : Option Addr) (lb cb : Nat) (m : List UInt8) (w : World) (ha : RdA w ao la ca l) (hb : RdA w bo lb cb m) (hla : la ≤ 140737488351232) (hlb : lb ≤ 140737488351232)
    {x : List Rcd} {E1 A1 : Nat} (h1 : parseR l = (x, E1, A1)) {y : List Rcd} {E2 A2 : Nat} (h2 : parseR m = (y, E2, A2)) (hE1 : E1 ≠ 0) :
    Calls Try.prog 5 #[.slice ao la ca, .slice bo lb cb] w fun e w' => e = .returned (.bool true) ∧ Below w.heap.size w w' := by
  have HLa : Hid (l.length = la) := ha.1
  have HLb : Hid (m.length = lb) := hb.1
  have e1 : ((E1 : Int) != 0) = true := by rw [bne_iff_ne]; omega
  clear hE1
  have H1 : Hid (parseR l = (x, E1, A1)) := h1
  have H2 : Hid (parseR m = (y, E2, A2)) := h2
  clear h1 h2
  go_enter Try.func5, Try.ntmps5
  go_wp2_with fail
  refine (alive_any w).mono ?_
  rintro e w1 ⟨rfl, hb1⟩
  go_wp2_with fail
  refine (parse_eq (ha.later hb1) H1.out).mono ?_
  rintro e w2 ⟨v2, ps2, rfl, ho2, hps2, hb2⟩
  obtain ⟨ao2, len2, cap2, hv2, hr2⟩ := ho2.rd
  rw [hv2]
  rw [hv2] at ho2
  have HS2 : Hid (ps2.map Prod.fst = x) := hps2
  have hw2 : Below w.heap.size w w2 := hb1.trans (hb2.mono hb1.size)
  have hw2' : Below w.heap.size w (w2.alloc (.cells #[.int .i64 (E1 : Int), .int .i64 (A1 : Int)] 34)) := hw2.alloc hw2.size _
  clear hv2 hps2 hr2
  go_wp2_with fail
  refine (parse_eq (hb.later hw2') H2.out).mono ?_
  rintro e w3 ⟨v3, ps3, rfl, ho3, hps3, hb3⟩
  obtain ⟨ao3, len3, cap3, hv3, hr3⟩ := ho3.rd
  rw [hv3]
  rw [hv3] at ho3
  have HS3 : Hid (ps3.map Prod.fst = y) := hps3
  have hw3 : Below w.heap.size w w3 := hw2'.trans (hb3.mono hw2'.size)
  have c1 : w3.cell? ⟨w2.heap.size, 0, none⟩ = some (.int .i64 (E1 : Int)) := (hb3.cell (p := ⟨w2.heap.size, 0, none⟩) (by simp)).trans (by simp)
  have hlt1 : w2.heap.size < w3.heap.size := by have := hb3.size; simp at this; omega
  clear hv3 hps3 hr3
  go_wp2
  go_ret
  exact ⟨rfl, hw3.alloc hw3.size _⟩

set_option maxHeartbeats 2000000 in
set_option maxRecDepth 100000 in
theorem joined_much (ao : Option Addr) (la ca : Nat) (l : List UInt8) (bo : Option Addr) (lb cb : Nat) (m : List UInt8) (w : World) (ha : RdA w ao la ca l) (hb : RdA w bo lb cb m) (hla : la ≤ 140737488351232) (hlb : lb ≤ 140737488351232)
    {x : List Rcd} {E1 A1 : Nat} (h1 : parseR l = (x, E1, A1)) {y : List Rcd} {E2 A2 : Nat} (h2 : parseR m = (y, E2, A2)) (hE1 : E1 = 0) (hm : 4000 < la + lb) :
    Calls Try.prog 5 #[.slice ao la ca, .slice bo lb cb] w fun e w' => e = .returned (.bool true) ∧ Below w.heap.size w w' := by
  have HLa : Hid (l.length = la) := ha.1
  have HLb : Hid (m.length = lb) := hb.1
  subst hE1
  have d1 : decide ((4000 : Int) < (la : Int) + (lb : Int)) = true := by simp; omega
  have H1 : Hid (parseR l = (x, 0, A1)) := h1
  have H2 : Hid (parseR m = (y, E2, A2)) := h2
  clear h1 h2
  go_enter Try.func5, Try.ntmps5
  go_wp2_with fail
  refine (alive_any w).mono ?_
  rintro e w1 ⟨rfl, hb1⟩
  go_wp2_with fail
  refine (parse_eq (ha.later hb1) H1.out).mono ?_
  rintro e w2 ⟨v2, ps2, rfl, ho2, hps2, hb2⟩
  obtain ⟨ao2, len2, cap2, hv2, hr2⟩ := ho2.rd
  rw [hv2]
  rw [hv2] at ho2
  have HS2 : Hid (ps2.map Prod.fst = x) := hps2
  have hw2 : Below w.heap.size w w2 := hb1.trans (hb2.mono hb1.size)
  have hw2' : Below w.heap.size w (w2.alloc (.cells #[.int .i64 (0 : Int), .int .i64 (A1 : Int)] 34)) := hw2.alloc hw2.size _
  clear hv2 hps2 hr2
  go_wp2_with fail
  refine (parse_eq (hb.later hw2') H2.out).mono ?_
  rintro e w3 ⟨v3, ps3, rfl, ho3, hps3, hb3⟩
  obtain ⟨ao3, len3, cap3, hv3, hr3⟩ := ho3.rd
  rw [hv3]
  rw [hv3] at ho3
  have HS3 : Hid (ps3.map Prod.fst = y) := hps3
  have hw3 : Below w.heap.size w w3 := hw2'.trans (hb3.mono hw2'.size)
  have c1 : w3.cell? ⟨w2.heap.size, 0, none⟩ = some (.int .i64 (0 : Int)) := (hb3.cell (p := ⟨w2.heap.size, 0, none⟩) (by simp)).trans (by simp)
  have hlt1 : w2.heap.size < w3.heap.size := by have := hb3.size; simp at this; omega
  clear hv3 hps3 hr3
  go_wp2
  go_ret
  exact ⟨rfl, hw3.alloc hw3.size _⟩

set_option maxHeartbeats 2000000 in
set_option maxRecDepth 100000 in
theorem joined_err (ao : Option Addr) (la ca : Nat) (l : List UInt8) (bo : Option Addr) (lb cb : Nat) (m : List UInt8) (w : World) (ha : RdA w ao la ca l) (hb : RdA w bo lb cb m) (hla : la ≤ 140737488351232) (hlb : lb ≤ 140737488351232)
    {x : List Rcd} {E1 A1 : Nat} (h1 : parseR l = (x, E1, A1)) {y : List Rcd} {E2 A2 : Nat} (h2 : parseR m = (y, E2, A2)) (hE1 : E1 = 0) (hm : la + lb ≤ 4000) (hE2 : E2 ≠ 0) :
    Calls Try.prog 5 #[.slice ao la ca, .slice bo lb cb] w fun e w' => e = .returned (.bool true) ∧ Below w.heap.size w w' := by
  have HLa : Hid (l.length = la) := ha.1
  have HLb : Hid (m.length = lb) := hb.1
  subst hE1
  have hj := parseR_join (a := l) (b := m) (by rw [ha.1, hb.1]; exact hm) h1
  rw [h2, shiftR, if_neg hE2] at hj
  dsimp only at hj
  have HJ : Hid (parseR (l ++ m) = ([], E2, A2 + l.length)) := hj
  have d1 : decide ((4000 : Int) < (la : Int) + (lb : Int)) = false := by simp; omega
  have e2 : ((E2 : Int) != 0) = true := by rw [bne_iff_ne]; omega
  have hA2 : A2 ≤ 4000 := by have := parseR_at h2; rw [hb.1] at this; omega
  clear hE2 hj
  have H1 : Hid (parseR l = (x, 0, A1)) := h1
  have H2 : Hid (parseR m = (y, E2, A2)) := h2
  clear h1 h2
  go_enter Try.func5, Try.ntmps5
  go_wp2_with fail
  refine (alive_any w).mono ?_
  rintro e w1 ⟨rfl, hb1⟩
  go_wp2_with fail
  refine (parse_eq (ha.later hb1) H1.out).mono ?_
  rintro e w2 ⟨v2, ps2, rfl, ho2, hps2, hb2⟩
  obtain ⟨ao2, len2, cap2, hv2, hr2⟩ := ho2.rd
  rw [hv2]
  rw [hv2] at ho2
  have HS2 : Hid (ps2.map Prod.fst = x) := hps2
  have hw2 : Below w.heap.size w w2 := hb1.trans (hb2.mono hb1.size)
  have hw2' : Below w.heap.size w (w2.alloc (.cells #[.int .i64 (0 : Int), .int .i64 (A1 : Int)] 34)) := hw2.alloc hw2.size _
  clear hv2 hps2 hr2
  go_wp2_with fail
  refine (parse_eq (hb.later hw2') H2.out).mono ?_
  rintro e w3 ⟨v3, ps3, rfl, ho3, hps3, hb3⟩
  obtain ⟨ao3, len3, cap3, hv3, hr3⟩ := ho3.rd
  rw [hv3]
  rw [hv3] at ho3
  have HS3 : Hid (ps3.map Prod.fst = y) := hps3
  have hw3 : Below w.heap.size w w3 := hw2'.trans (hb3.mono hw2'.size)
  have c1 : w3.cell? ⟨w2.heap.size, 0, none⟩ = some (.int .i64 (0 : Int)) := (hb3.cell (p := ⟨w2.heap.size, 0, none⟩) (by simp)).trans (by simp)
  have hlt1 : w2.heap.size < w3.heap.size := by have := hb3.size; simp at this; omega
  clear hv3 hps3 hr3
  have hr1 := ha.later ((hw3.alloc hw3.size (.cells #[.int .i64 (E2 : Int), .int .i64 (A2 : Int)] 34)).alloc (by have := hw3.size; simp; omega) (.cells #[] 5))
  have hom : OwnB ((w3.alloc (.cells #[.int .i64 (E2 : Int), .int .i64 (A2 : Int)] 34)).alloc (.cells #[] 5)) (w3.heap.size + 1) (.slice (some ⟨w3.heap.size + 1, 0, none⟩) 0 0) [] := by
    have := OwnB.made (w3.alloc (.cells #[.int .i64 (E2 : Int), .int .i64 (A2 : Int)] 34)) (base := w3.heap.size + 1) (by simp)
    simpa using this
  go_wp2_with (at_builtin; refine wpList_appB rfl (.tmp 35) (.tmp 36) rfl (w3.heap.size + 1) _ [] l rfl hom ao la ca rfl hr1 ?p1 ?p2 ?_)
  case p1 => have := HLa.out; simp; omega
  case p2 => simp
  intro v4 w4 ho4 hb4
  have hw4 : Below (w3.heap.size + 1) (w3.alloc (.cells #[.int .i64 (E2 : Int), .int .i64 (A2 : Int)] 34)) w4 := ((Below.refl _ _).alloc (by simp) _).trans hb4
  have hw4' : Below w.heap.size w w4 := (hw3.alloc hw3.size _).trans (hw4.mono (by have := hw3.size; omega))
  go_wp2_with (at_builtin; refine wpList_appB rfl (.tmp 37) (.tmp 38) rfl (w3.heap.size + 1) _ l m rfl ho4 bo lb cb rfl (hb.later hw4') ?p3 ?p4 ?_)
  case p3 => have := HLa.out; have := HLb.out; omega
  case p4 => have := hw4.size; simpa using this
  intro v5 w5 ho5 hb5
  have hw5 : Below (w3.heap.size + 1) (w3.alloc (.cells #[.int .i64 (E2 : Int), .int .i64 (A2 : Int)] 34)) w5 := hw4.trans hb5
  obtain ⟨ao5, len5, cap5, hv5, hr5⟩ := ho5.rd
  rw [hv5]
  clear ho5 hv5 ho4 hr1 hom
  go_wp2_with fail
  refine (parse_eq hr5 HJ.out).mono ?_
  rintro e w6 ⟨v6, ps6, rfl, ho6, hps6, hb6⟩
  obtain ⟨ao6, len6, cap6, hv6, hr6⟩ := ho6.rd
  rw [hv6]
  have HS6 : Hid (ps6.map Prod.fst = []) := hps6
  have hs5 : w3.heap.size + 1 ≤ w5.heap.size := by have := hw5.size; simpa using this
  have hw6 : Below (w3.heap.size + 1) (w3.alloc (.cells #[.int .i64 (E2 : Int), .int .i64 (A2 : Int)] 34)) w6 := hw5.trans (hb6.mono hs5)
  have hw6' : Below w.heap.size w w6 := (hw3.alloc hw3.size _).trans (hw6.mono (by have := hw3.size; omega))
  obtain ⟨g0, g1, _, _⟩ := cells2 (g := w3.heap.size) (t := 34) (a := .int .i64 (E2 : Int)) (b := .int .i64 (A2 : Int)) (by exact heap_alloc_new w3 _) hw6 (by omega)
  have hlt6 : w3.heap.size < w6.heap.size := by have := hw6.size; simp at this; omega
  have e6 : (((A2 + l.length : Nat) : Int) == (A2 : Int) + (la : Int)) = true := by have := HLa.out; rw [beq_iff_eq]; omega
  obtain ⟨N6, HN6⟩ : ∃ N, Hid (A2 + l.length = N) := ⟨_, rfl⟩
  rw [HN6.out] at e6 ⊢
  clear hv6 hps6 ho6
  go_wp2
  go_ret
  exact ⟨rfl, hw6'.alloc hw6'.size _⟩

set_option maxHeartbeats 2000000 in
set_option maxRecDepth 100000 in
theorem joined_ok (ao : Option Addr) (la ca : Nat) (l : List UInt8) (bo : Option Addr) (lb cb : Nat) (m : List UInt8) (w : World) (ha : RdA w ao la ca l) (hb : RdA w bo lb cb m) (hla : la ≤ 140737488351232) (hlb : lb ≤ 140737488351232)
    {x : List Rcd} {E1 A1 : Nat} (h1 : parseR l = (x, E1, A1)) {y : List Rcd} {E2 A2 : Nat} (h2 : parseR m = (y, E2, A2)) (hE1 : E1 = 0) (hm : la + lb ≤ 4000) (hE2 : E2 = 0) :
    Calls Try.prog 5 #[.slice ao la ca, .slice bo lb cb] w fun e w' => e = .returned (.bool true) ∧ Below w.heap.size w w' := by
  have HLa : Hid (l.length = la) := ha.1
  have HLb : Hid (m.length = lb) := hb.1
  subst hE1 hE2
  have hj := parseR_join (a := l) (b := m) (by rw [ha.1, hb.1]; exact hm) h1
  rw [h2, shiftR, if_pos rfl] at hj
  dsimp only at hj
  have HJ : Hid (parseR (l ++ m) = (x ++ y, 0, 0)) := hj
  have d1 : decide ((4000 : Int) < (la : Int) + (lb : Int)) = false := by simp; omega
  clear hj
  have H1 : Hid (parseR l = (x, 0, A1)) := h1
  have H2 : Hid (parseR m = (y, 0, A2)) := h2
  clear h1 h2
  go_enter Try.func5, Try.ntmps5
  go_wp2_with fail
  refine (alive_any w).mono ?_
  rintro e w1 ⟨rfl, hb1⟩
  go_wp2_with fail
  refine (parse_eq (ha.later hb1) H1.out).mono ?_
  rintro e w2 ⟨v2, ps2, rfl, ho2, hps2, hb2⟩
  obtain ⟨ao2, len2, cap2, hv2, hr2⟩ := ho2.rd
  rw [hv2]
  rw [hv2] at ho2
  have HS2 : Hid (ps2.map Prod.fst = x) := hps2
  have hw2 : Below w.heap.size w w2 := hb1.trans (hb2.mono hb1.size)
  have hw2' : Below w.heap.size w (w2.alloc (.cells #[.int .i64 (0 : Int), .int .i64 (A1 : Int)] 34)) := hw2.alloc hw2.size _
  clear hv2 hps2 hr2
  go_wp2_with fail
  refine (parse_eq (hb.later hw2') H2.out).mono ?_
  rintro e w3 ⟨v3, ps3, rfl, ho3, hps3, hb3⟩
  obtain ⟨ao3, len3, cap3, hv3, hr3⟩ := ho3.rd
  rw [hv3]
  rw [hv3] at ho3
  have HS3 : Hid (ps3.map Prod.fst = y) := hps3
  have hw3 : Below w.heap.size w w3 := hw2'.trans (hb3.mono hw2'.size)
  have c1 : w3.cell? ⟨w2.heap.size, 0, none⟩ = some (.int .i64 (0 : Int)) := (hb3.cell (p := ⟨w2.heap.size, 0, none⟩) (by simp)).trans (by simp)
  have hlt1 : w2.heap.size < w3.heap.size := by have := hb3.size; simp at this; omega
  clear hv3 hps3 hr3
  have hr1 := ha.later ((hw3.alloc hw3.size (.cells #[.int .i64 (0 : Int), .int .i64 (A2 : Int)] 34)).alloc (by have := hw3.size; simp; omega) (.cells #[] 5))
  have hom : OwnB ((w3.alloc (.cells #[.int .i64 (0 : Int), .int .i64 (A2 : Int)] 34)).alloc (.cells #[] 5)) (w3.heap.size + 1) (.slice (some ⟨w3.heap.size + 1, 0, none⟩) 0 0) [] := by
    have := OwnB.made (w3.alloc (.cells #[.int .i64 (0 : Int), .int .i64 (A2 : Int)] 34)) (base := w3.heap.size + 1) (by simp)
    simpa using this
  go_wp2_with (at_builtin; refine wpList_appB rfl (.tmp 35) (.tmp 36) rfl (w3.heap.size + 1) _ [] l rfl hom ao la ca rfl hr1 ?p1 ?p2 ?_)
  case p1 => have := HLa.out; simp; omega
  case p2 => simp
  intro v4 w4 ho4 hb4
  have hw4 : Below (w3.heap.size + 1) (w3.alloc (.cells #[.int .i64 (0 : Int), .int .i64 (A2 : Int)] 34)) w4 := ((Below.refl _ _).alloc (by simp) _).trans hb4
  have hw4' : Below w.heap.size w w4 := (hw3.alloc hw3.size _).trans (hw4.mono (by have := hw3.size; omega))
  go_wp2_with (at_builtin; refine wpList_appB rfl (.tmp 37) (.tmp 38) rfl (w3.heap.size + 1) _ l m rfl ho4 bo lb cb rfl (hb.later hw4') ?p3 ?p4 ?_)
  case p3 => have := HLa.out; have := HLb.out; omega
  case p4 => have := hw4.size; simpa using this
  intro v5 w5 ho5 hb5
  have hw5 : Below (w3.heap.size + 1) (w3.alloc (.cells #[.int .i64 (0 : Int), .int .i64 (A2 : Int)] 34)) w5 := hw4.trans hb5
  obtain ⟨ao5, len5, cap5, hv5, hr5⟩ := ho5.rd
  rw [hv5]
  clear ho5 hv5 ho4 hr1 hom
  go_wp2_with fail
  refine (parse_eq hr5 HJ.out).mono ?_
  rintro e w6 ⟨v6, ps6, rfl, ho6, hps6, hb6⟩
  obtain ⟨ao6, len6, cap6, hv6, hr6⟩ := ho6.rd
  rw [hv6]
  have HS6 : Hid (ps6.map Prod.fst = x ++ y) := hps6
  have hs5 : w3.heap.size + 1 ≤ w5.heap.size := by have := hw5.size; simpa using this
  have hw6 : Below (w3.heap.size + 1) (w3.alloc (.cells #[.int .i64 (0 : Int), .int .i64 (A2 : Int)] 34)) w6 := hw5.trans (hb6.mono hs5)
  have hw6' : Below w.heap.size w w6 := (hw3.alloc hw3.size _).trans (hw6.mono (by have := hw3.size; omega))
  obtain ⟨g0, g1, _, _⟩ := cells2 (g := w3.heap.size) (t := 34) (a := .int .i64 (0 : Int)) (b := .int .i64 (A2 : Int)) (by exact heap_alloc_new w3 _) hw6 (by omega)
  have hlt6 : w3.heap.size < w6.heap.size := by have := hw6.size; simp at this; omega
  have hz6 := hr6.later (below_new w6 (.cells #[.int .i64 0, .int .i64 0] 34))
  have hx6 : OwnR (w6.alloc (.cells #[.int .i64 0, .int .i64 0] 34)) 0 (.slice ao2 len2 cap2) ps2 := by
    have k1 : Below w2.heap.size w2 w3 := (below_new w2 _).trans (hb3.mono (by simp))
    have k2 : Below w2.heap.size w2 w6 := k1.trans ((below_new w3 _).trans (hw6.mono (by omega)) |>.mono (by omega))
    exact (ho2.keptB (k2.alloc k2.size _)).mono (Nat.zero_le _)
  have hy6 : OwnR (w6.alloc (.cells #[.int .i64 0, .int .i64 0] 34)) 0 (.slice ao3 len3 cap3) ps3 := by
    have k2 : Below w3.heap.size w3 w6 := (below_new w3 _).trans (hw6.mono (by omega))
    exact (ho3.keptB (k2.alloc k2.size _)).mono (Nat.zero_le _)
  rw [HS6.out] at hz6
  have hrow : RowR (w6.alloc (.cells #[.int .i64 0, .int .i64 0] 34)) ((w6.alloc (.cells #[.int .i64 0, .int .i64 0] 34)).alloc (.cells #[] 53)) (.slice (some ⟨w6.heap.size + 1, 0, none⟩) 0 0) [] := by
    have e : (w6.alloc (.cells #[.int .i64 0, .int .i64 0] 34)).heap.size = w6.heap.size + 1 := by simp
    have := RowR.made (w6.alloc (.cells #[.int .i64 0, .int .i64 0] 34))
    rw [e] at this
    exact this
  have hl2 : ps2.length ≤ 4000 := by have := parseR_len H1.out; rw [← HS2.out, List.length_map, HLa.out] at this; omega
  have hl3 : ps3.length ≤ 4000 := by have := parseR_len H2.out; rw [← HS3.out, List.length_map, HLb.out] at this; omega
  clear hv6 hps6 ho6 hr6
  go_wp2_with (at_builtin; refine wpList_appRR (W0 := w6.alloc (.cells #[.int .i64 0, .int .i64 0] 34)) rfl (.tmp 66) (.tmp 67) rfl _ [] ps2 rfl hrow _ rfl hx6 ?r1 ?_)
  case r1 => simp; omega
  intro v7 w7 hrow7
  go_wp2_with (at_builtin; refine wpList_appRR (W0 := w6.alloc (.cells #[.int .i64 0, .int .i64 0] 34)) rfl (.tmp 68) (.tmp 69) rfl _ ps2 ps3 rfl hrow7 _ rfl hy6 ?r2 ?_)
  case r2 => omega
  intro v8 w8 hrow8
  obtain ⟨ao8, len8, cap8, hv8, hr8⟩ := hrow8.rd
  rw [hv8]
  rw [List.map_append, HS2.out, HS3.out] at hr8
  have hz8 := hz6.later hrow8.2.2
  have hfin : Below w.heap.size w w8 := (hw6'.alloc hw6'.size _).trans (hrow8.2.2.mono (by have := hw6'.size; simp; omega))
  clear hv8 hrow hrow7
  go_wp2_with fail
  refine (same_yes hz8 hr8).mono ?_
  rintro e w9 ⟨rfl, nr, rfl⟩
  go_wp2
  go_ret
  exact ⟨rfl, below_drewN hfin nr⟩

theorem joined_walk (ao : Option Addr) (la ca : Nat) (l : List UInt8) (bo : Option Addr) (lb cb : Nat) (m : List UInt8) (w : World) (ha : RdA w ao la ca l) (hb : RdA w bo lb cb m) (hla : la ≤ 140737488351232) (hlb : lb ≤ 140737488351232) :
    Calls Try.prog 5 #[.slice ao la ca, .slice bo lb cb] w fun e w' => e = .returned (.bool true) ∧ Below w.heap.size w w' := by
  obtain ⟨x, E1, A1, h1⟩ : ∃ x E1 A1, parseR l = (x, E1, A1) := ⟨_, _, _, rfl⟩
  obtain ⟨y, E2, A2, h2⟩ : ∃ y E2 A2, parseR m = (y, E2, A2) := ⟨_, _, _, rfl⟩
  by_cases k1 : E1 = 0
  · by_cases hm : la + lb ≤ 4000
    · by_cases k2 : E2 = 0
      · exact joined_ok ao la ca l bo lb cb m w ha hb hla hlb h1 h2 k1 hm k2
      · exact joined_err ao la ca l bo lb cb m w ha hb hla hlb h1 h2 k1 hm k2
    · exact joined_much ao la ca l bo lb cb m w ha hb hla hlb h1 h2 k1 (by omega)
  · exact joined_bad ao la ca l bo lb cb m w ha hb hla hlb h1 h2 k1

end Go.Proofs.Ytenlijgnmhdopaa
