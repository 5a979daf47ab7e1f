import Derived.Test.YthgbiflfinddiaaGreatMRr
import Derived.Test.YthgbiflfinddiaaGreatRFndq
import Derived.Test.YthgbiflfinddiaaGreatRWrec
/- The document's own answer: Ran: what a program makes of a body, however much. -/
namespace Go.Proofs.YthgbiflfinddiaaGreat
namespace L
open Go.RowKit
set_option linter.unusedVariables false

def RanTold (ps : List (List TI)) (d : Nat) : Prop := ∀ (w : World) (vl v0 v1 : Value) (p k : Int) (b : BI d), RdL 1 PrAt w vl ps → 0 ≤ p → p < ps.length → 1 ≤ k → k ≤ 13 → KQ d w v0 v1 b → BSm d b → bW d b ≤ 1000000000 →
  Calls Tryz.prog 24 #[vl, .int .i64 p, .agg #[v0, v1], .int .i64 k] w fun e w' => ∃ ao n c, e = .returned (.tuple #[.slice ao n c, .int .i64 (ranN ps d p k b).2]) ∧ Row ekY w' w.heap.size (.slice ao n c) (ranN ps d p k b).1 ∧ Below w.heap.size w w'
theorem sum_mem {α : Type} {f : α → Nat} {a : α} : ∀ {l : List α}, a ∈ l → f a ≤ (l.map f).sum
  | x :: r, h => by
    rw [List.map_cons, List.sum_cons]
    rcases List.mem_cons.1 h with rfl | h
    · omega
    · have := sum_mem (f := f) h; omega
theorem sum_take {α : Type} (f : α → Nat) (l : List α) (k : Nat) : ((l.take k).map f).sum ≤ (l.map f).sum := by
  induction l generalizing k with
  | nil => simp
  | cons a r ih =>
    cases k with
    | zero => simp
    | succ k => have := ih k; simp only [List.take_succ_cons, List.map_cons, List.sum_cons]; omega
theorem ranO_deep {β : Type} (deep : TI → β → List UInt8 × Int) (p : List TI) (b : BO β) {k : Int} (h : 12 < k) : ranO deep p k b = ([], 10) := by unfold ranO; rw [if_pos h]
theorem ranO_else {β : Type} (deep : TI → β → List UInt8 × Int) (p : List TI) (b : BO β) {k : Int} (h : ¬ 12 < k) : ranO deep p k b = if (valsN deep b.vals [] p).2 ≠ 0 then ([], (valsN deep b.vals [] p).2) else if (unkGo [] b.unk).2 ≠ 0 then ([], (unkGo [] b.unk).2)
  else ((valsN deep b.vals [] p).1 ++ (unkGo [] b.unk).1, 0) := by unfold ranO; rw [if_neg h]
theorem unk_acc (acc : List UInt8) : ∀ l : List RI, unkGo acc l = if (unkGo [] l).2 ≠ 0 then ([], (unkGo [] l).2) else (acc ++ (unkGo [] l).1, 0) := by
  have key : ∀ (l : List RI) (a b : List UInt8), unkGo (a ++ b) l = if (unkGo b l).2 ≠ 0 then ([], (unkGo b l).2) else (a ++ (unkGo b l).1, 0) := by
    intro l
    induction l with
    | nil => intro a b; simp [unkGo]
    | cons r l ih =>
      intro a b
      have e1 : ∀ c, unkGo c (r :: l) = if wrongR r.number r.how r.bits r.bytes.length ≠ 0 then ([], wrongR r.number r.how r.bits r.bytes.length) else unkGo (c ++ recN r.number r.how r.bits r.bytes) l := fun _ => rfl
      by_cases h : wrongR r.number r.how r.bits r.bytes.length ≠ 0
      · have e2 : ∀ c, unkGo c (r :: l) = ([], wrongR r.number r.how r.bits r.bytes.length) := fun c => by rw [e1, if_pos h]
        rw [e2, e2, if_pos h]
      · have e2 : ∀ c, unkGo c (r :: l) = unkGo (c ++ recN r.number r.how r.bits r.bytes) l := fun c => by rw [e1, if_neg h]
        rw [e2, e2, List.append_assoc, ih]
  intro l
  have := key l acc []
  rw [List.append_nil] at this
  exact this
theorem nest_err {β : Type} {num : Int} {f : β → List UInt8 × Int} {l : List β} {acc : List UInt8} (h : (nestGo num f acc l).2 = 0) : ∃ m, nestGo num f acc l = (acc ++ m, 0) := by
  induction l generalizing acc with
  | nil => exact ⟨[], by simp [nestGo]⟩
  | cons x r ih =>
    rw [nestGo] at h ⊢
    split at h
    · rename_i h0; exact absurd h h0
    · rename_i h0
      rw [if_neg h0]
      obtain ⟨m, hm⟩ := ih h
      exact ⟨_, by rw [hm, List.append_assoc]⟩
theorem nest_acc {β : Type} (num : Int) (f : β → List UInt8 × Int) (acc : List UInt8) : ∀ l : List β, nestGo num f acc l = if (nestGo num f [] l).2 ≠ 0 then ([], (nestGo num f [] l).2) else (acc ++ (nestGo num f [] l).1, 0) := by
  have key : ∀ (l : List β) (a b : List UInt8), nestGo num f (a ++ b) l = if (nestGo num f b l).2 ≠ 0 then ([], (nestGo num f b l).2) else (a ++ (nestGo num f b l).1, 0) := by
    intro l
    induction l with
    | nil => intro a b; simp [nestGo]
    | cons r l ih =>
      intro a b
      have e1 : ∀ c, nestGo num f c (r :: l) = if (f r).2 ≠ 0 then ([], (f r).2) else nestGo num f (c ++ sizedN num [(f r).1]) l := fun _ => rfl
      by_cases h : (f r).2 ≠ 0
      · have e2 : ∀ c, nestGo num f c (r :: l) = ([], (f r).2) := fun c => by rw [e1, if_pos h]
        rw [e2, e2, if_pos h]
      · have e2 : ∀ c, nestGo num f c (r :: l) = nestGo num f (c ++ sizedN num [(f r).1]) l := fun c => by rw [e1, if_neg h]
        rw [e2, e2, List.append_assoc, ih]
  intro l
  have := key l acc []
  rw [List.append_nil] at this
  exact this
theorem alloc_out {w : World} {o o' : Obj} {v : Value} (h : o' = .cells #[v] 39) : ((w.alloc o).alloc o').heap[w.heap.size + 1]? = some (.cells #[v] 39 (0, 0)) := by rw [h]; exact alloc2_new _ _ _
set_option maxHeartbeats 16000000 in
set_option maxRecDepth 100000 in
theorem ran_step {ps : List (List TI)} (hps : PsOk ps) (hnd : PsNd ps) (hbt : PsBits ps) {d : Nat} (ih : RanTold ps d) : RanTold ps (d + 1) := by
  intro w vl v0 v1 p k b hl hp0 hp1 hk1 hk2 hq hsm hbw
  have hq : BRd d w v0 v1 b := hq
  have hbw : oW (bW d) b ≤ 1000000000 := hbw
  obtain ⟨hv, hun', hus⟩ : OSm (BSm d) b := hsm
  obtain ⟨al, nl, cl, rfl, Hnl, _⟩ := hl.shape
  obtain ⟨a0, n0, c0, rfl, H0, _⟩ := hq.1.shape
  obtain ⟨a1, n1, c1, rfl, H1, _⟩ := hq.2.shape
  obtain ⟨pn, rfl⟩ := Int.eq_ofNat_of_zero_le hp0
  have hpn : pn < nl := by rw [Hnl.out]; omega
  obtain ⟨R, HR⟩ : ∃ R, Hid (ranN ps (d + 1) (pn : Int) k b = R) := ⟨_, rfl⟩
  rw [HR.out]
  obtain ⟨W0, HW0⟩ : ∃ W0, Hid (W0 = w.alloc (.cells #[.slice a0 n0 c0, .slice a1 n1 c1] 30)) := ⟨_, rfl⟩
  have hb0 : Below w.heap.size w W0 := by rw [HW0.out]; exact (Below.refl _ _).alloc (Nat.le_refl _) _
  by_cases h12 : 12 < k
  · have HN : Hid (R = ([], 10)) := by show _ = _; rw [← HR.out]; exact ranO_deep _ _ _ h12
    go_enter Tryz.func24, Tryz.ntmps24
    go_wp2_with fail
    rw [← HW0.out]
    go_ret2
    exact ⟨none, 0, 0, by rw [HN.out]; rfl, by rw [HN.out]; exact Row.nil _ _ _, hb0⟩
  obtain ⟨P, HP⟩ : ∃ P, Hid (P = ps.getD ((pn : Int)).toNat []) := ⟨_, rfl⟩
  have hP := getD_at hp0 hp1
  rw [← HP.out] at hP
  have hPm := List.mem_of_getElem? hP
  obtain ⟨hP16, hPst⟩ := hps.2 P hPm
  have hPb := hbt P hPm
  obtain ⟨V0, HV0⟩ : ∃ q, Hid (valsN (fun s x => ranN ps d s.next (k + 1) x) b.vals [] P = q) := ⟨_, rfl⟩
  have HRR : Hid (R = if V0.2 ≠ 0 then ([], V0.2) else unkGo V0.1 b.unk) := by
    show _ = _
    rw [← HR.out]
    refine (ranO_else (β := BI d) (fun s x => ranN ps d s.next (k + 1) x) (ps.getD ((pn : Int)).toNat []) b h12).trans ?_
    rw [← HP.out, HV0.out, unk_acc V0.1]
  obtain ⟨bl, ol, rfl, hat⟩ := hl.get PrAt.plain hP
  obtain ⟨vp, hc0, hrp⟩ := hat
  obtain ⟨ap, np, cp, rfl, Hnp, _⟩ := hrp.shape
  have hnp : np ≤ 16 := by rw [Hnp.out]; exact hP16
  have hc0' : w.cell? ⟨bl, ol + pn, none⟩ = some (.slice ap np cp) := by simpa using hc0
  have hpi : (pn : Int) < (nl : Int) := by omega
  have hmf := makeF
  have hent1 : ∀ (args : Array Value) (w : World), (callFunc 45 args).run Tryz.prog w = .ok (.enter 45 args) w := enters_of Tryz.func45 (by kernel_rfl) rfl
  have hent2 : ∀ (args : Array Value) (w : World), (callFunc 47 args).run Tryz.prog w = .ok (.enter 47 args) w := enters_of Tryz.func47 (by kernel_rfl) rfl
  have hent3 : ∀ (args : Array Value) (w : World), (callFunc 48 args).run Tryz.prog w = .ok (.enter 48 args) w := enters_of Tryz.func48 (by kernel_rfl) rfl
  obtain ⟨co, Hco⟩ : ∃ co, Hid (co = w.heap.size + 1) := ⟨_, rfl⟩
  have hco1 : w.heap.size + 1 ≤ co := Nat.le_of_eq Hco.out.symm
  have hco2 : co ≤ w.heap.size + 1 := Nat.le_of_eq Hco.out
  obtain ⟨Wb, HWb⟩ : ∃ Wb, Hid (Wb = (w.alloc (.cells #[.slice a0 n0 c0, .slice a1 n1 c1] 30)).alloc (.cells #[.slice none 0 0] 39)) := ⟨_, rfl⟩
  have hbB : Below w.heap.size w Wb := by rw [HWb.out]; exact cells_alloc2 _ _ _
  have hzB : co + 1 ≤ Wb.heap.size := by rw [HWb.out]; simp; omega
  have xb0 : Wb.heap[w.heap.size]? = some (.cells #[.slice a0 n0 c0, .slice a1 n1 c1] 30 (0, 0)) := by rw [HWb.out]; exact alloc2_old _ _ _
  have xb1 : Wb.heap[co]? = some (.cells #[.slice none 0 0] 39 (0, 0)) := by rw [HWb.out, Hco.out]; exact alloc2_new _ _ _
  have hO0 : OutAt Wb co [] := ⟨_, _, _, xb1, Row.nil _ _ _⟩
  -- what holds in every world behind
  have hin : ∀ V, Below co Wb V → Below w.heap.size w V := fun V hV => hbB.trans (hV.mono (by omega))
  have hbody : ∀ V, Below co Wb V → V.cell? ⟨w.heap.size, 0, none⟩ = some (.slice a0 n0 c0) ∧ V.cell? ⟨w.heap.size, 1, none⟩ = some (.slice a1 n1 c1) := fun V hV => blk2 ((hV.block _ (by omega)).trans xb0)
  have hvM : ∀ v ∈ b.vals, vW (bW d) v ≤ 1000000000 := fun v hvm => Nat.le_trans (sum_mem hvm) (by unfold oW at hbw; omega)
  have g0 := cell_below hb0 hc0'
  have hc1 := cell_below hbB hc0'
  rw [HWb.out] at hc1
  go_enter Tryz.func24, Tryz.ntmps24
  go_wp2_with fail
  rw [← HWb.out, ← Hco.out]
  go_loopg [39] np (fun m i wr => ∃ (j : Nat) (acc : List UInt8), j + m = np ∧ i = .int .i64 j ∧ OutAt wr co acc ∧ acc.length ≤ j * 1000000000 ∧ Hid (valsN (fun s x => ranN ps d s.next (k + 1) x) b.vals acc (P.drop j) = V0) ∧ Below co Wb wr)
  case atStart => exact ⟨0, [], by omega, rfl, hO0, by simp, HV0, Below.refl _ _⟩
  case round =>
    obtain ⟨j, acc, hj, rfl, hO, hacc, HK, hb⟩ := hrel
    obtain ⟨wo, Hwo⟩ : ∃ wo, wo = wr := ⟨_, rfl⟩
    subst Hwo
    have hzo : co + 1 ≤ wo.heap.size := Nat.le_trans hzB hb.size
    have hbw0 : Below w.heap.size w wo := hin _ hb
    by_cases hlt : j < np
    · obtain ⟨s, Hs⟩ : ∃ s, Hid (P[j]? = some s) := ⟨P[j]'(by rw [← Hnp.out]; exact hlt), List.getElem?_eq_getElem (by rw [← Hnp.out]; exact hlt)⟩
      have hsm := List.mem_of_getElem? Hs.out
      obtain ⟨k1, k2, k3, k4, k5, k6, k7⟩ := hPst s hsm
      have hPbs := hPb s hsm
      obtain ⟨gp, op, rfl, hats⟩ := (hrp.below StAt.stays hbw0).get StAt.plain Hs.out
      obtain ⟨s0, s1, s2, s3, s4⟩ := hats.at
      have hji : (j : Int) < (np : Int) := by omega
      have HS := vals_step (deep := fun s x => ranN ps d s.next (k + 1) x) (x := b.vals) Hs.out acc
      obtain ⟨W1, HW1⟩ : ∃ W1, Hid (W1 = wo.alloc (.cells #[.int .i64 s.kind, .int .i64 s.number, .int .i64 s.how, .int .i64 s.field, .int .i64 s.next] 51)) := ⟨_, rfl⟩
      have hb1 : Below wo.heap.size wo W1 := by rw [HW1.out]; exact (Below.refl _ _).alloc (Nat.le_refl _) _
      have hz1 : wo.heap.size + 1 ≤ W1.heap.size := by rw [HW1.out]; simp
      have hSt : StepAt W1 wo.heap.size s := by rw [HW1.out]; exact heap_alloc_new _ _
      have hB1 : Below co Wb W1 := hb.trans (hb1.mono (by omega))
      obtain ⟨t0, t1⟩ := hbody W1 hB1
      have hfi := rfind_any hq.1 (hin W1 hB1) ⟨a1, n1, c1, rfl⟩ s.number
      have hSt' := hSt.at
      rw [HW1.out] at t0 t1 hSt'
      obtain ⟨q0, q1, q2, q3, q4⟩ := hSt'
      clear hats
      cases hfd : b.vals.find? (fun v => decide (v.number = s.number)) with
      | none =>
        rw [hfd] at hfi HS
        have HK' : Hid (valsN (fun s x => ranN ps d s.next (k + 1) x) b.vals acc (P.drop (j + 1)) = V0) := by show _ = _; rw [← HK.out, HS]
        clear HS hfd
        go_wp2_with fail
        rw [← HW1.out]
        refine hfi.mono ?_
        rintro e w2 ⟨⟨vv, rfl, rfl⟩, hb2⟩
        have hB2 : Below wo.heap.size wo (w2.alloc (.cells #[.int .i64 0, .slice none 0 0, .slice none 0 0, .slice none 0 0] 71)) := KBT (KBT hb1 hb2) ((Below.refl _ _).alloc (Nat.le_refl _) _)
        go_wp2_with fail
        go_roundg (np - (j + 1))
        case measure => omega
        case rel => exact ⟨j + 1, acc, by omega, by go_num, hO.below hB2, Nat.le_trans hacc (Nat.mul_le_mul_right _ (Nat.le_succ _)), HK', hb.trans (hB2.mono (by omega))⟩
      | some v =>
        have hvm := List.mem_of_find?_eq_some hfd
        rw [hfd] at hfi HS
        obtain ⟨hv1, hv2, hv3, hv4, hv5, hv6⟩ := hv v hvm
        have hvw := hvM v hvm
        clear hfd
        go_wp2_with fail
        rw [← HW1.out]
        refine hfi.mono ?_
        rintro e w2 ⟨⟨b1, m1, d1, b2, m2, d2, b3, m3, d3, rfl, r1, r2, r3⟩, hb2⟩
        obtain ⟨W4, HW4⟩ : ∃ W4, Hid (W4 = (w2.alloc (.cells #[.int .i64 v.number, .slice b1 m1 d1, .slice b2 m2 d2, .slice b3 m3 d3] 71)).alloc (.cells #[.func (.func 45) #[] #[.pointer (some ⟨wo.heap.size, 0, none⟩)]] 99)) := ⟨_, rfl⟩
        have hb4 : Below w2.heap.size w2 W4 := by rw [HW4.out]; exact cells_alloc2 _ _ _
        have hz4 : w2.heap.size + 2 ≤ W4.heap.size := by rw [HW4.out]; simp
        have hTg : TagAt W4 (w2.heap.size + 1) wo.heap.size := by rw [HW4.out]; exact alloc2_new _ _ _
        have hVl : W4.heap[w2.heap.size]? = some (.cells #[.int .i64 v.number, .slice b1 m1 d1, .slice b2 m2 d2, .slice b3 m3 d3] 71 (0, 0)) := by rw [HW4.out]; exact alloc2_old _ _ _
        have hS4 : StepAt W4 wo.heap.size s := (hSt.below hb2).below hb4
        have hz2 := hb2.size
        have hBo4 : Below wo.heap.size wo W4 := KBT (KBT hb1 hb2) hb4
        have hB4 : Below co Wb W4 := hb.trans (hBo4.mono (by omega))
        have hO4 : OutAt W4 co acc := hO.below hBo4
        clear hfi s0 s1 s2 s3 s4 t0 t1 q0 q1 q2 q3 q4 hO
        obtain ⟨q0, q1, q2, q3, q4⟩ := hS4.at
        obtain ⟨z0, z1, z2, z3⟩ := blk4 hVl
        rw [HW4.out] at q0 q1 q2 q3 q4 z0 z1 z2 z3
        obtain ⟨cs, Hcs⟩ : ∃ cs, Hid (cs = wo.heap.size) := ⟨_, rfl⟩
        obtain ⟨ct, Hct⟩ : ∃ ct, Hid (ct = w2.heap.size + 1) := ⟨_, rfl⟩
        have hcsn : cs ≠ co := by rw [Hcs.out]; omega
        have hctn : ct ≠ co := by rw [Hct.out]; omega
        have hS5 : StepAt W4 cs s := by rw [Hcs.out]; exact hS4
        have hT5 : TagAt W4 ct cs := by rw [Hct.out, Hcs.out]; exact hTg
        by_cases e1 : s.kind = 1
        · have b1 : (s.kind == 1) = true := by simp [e1]
          have hhw := hPbs (.inl e1)
          obtain ⟨g, Hg⟩ : ∃ g : Nat → List UInt8, Hid (g = fun n => ktagN s.number s.how ++ kputB s.how (bitK s.field n)) := ⟨_, rfl⟩
          have hst : stepB (fun (s : TI) (x : BI d) => ranN ps d s.next (k + 1) x) s v = (v.bits.flatMap g, 0) := by
            unfold stepB
            rw [if_pos e1, Hg.out]
            unfold singleN
            congr 2
            funext n
            rw [packed_bits hhw]
            simp
          have hgl : ∀ n, (g n).length ≤ 20 := fun n => by
            rw [Hg.out, List.length_append]
            have := ktagN_len s.number s.how
            have := kputB_len s.how (bitK s.field n)
            omega
          have HK' : Hid (valsN (fun s x => ranN ps d s.next (k + 1) x) b.vals (acc ++ v.bits.flatMap g) (P.drop (j + 1)) = V0) := by
            show _ = _; rw [← HK.out, HS]; simp only [hst]; simp
          obtain ⟨_, _, _, er, Hm1, hm1⟩ := r1.shape
          cases er
          have hm1' : m1 ≤ 1048576 := by rw [Hm1.out]; exact hv1
          clear e1 hst
          go_wp2_with fail
          rw [← HW4.out, ← Hcs.out, ← Hct.out]
          clear q0 q1 q2 q3 q4 z0 z1 z2 z3 HS
          go_loopg [86] m1 (fun m i wi => ∃ (t : Nat), t + m = m1 ∧ i = .int .i64 t ∧ OutAt wi co (acc ++ (v.bits.take t).flatMap g) ∧ StepAt wi cs s ∧ TagAt wi ct cs ∧ Below co Wb wi)
          case atStart => exact ⟨0, by omega, rfl, by simpa using hO4, hS5, hT5, hB4⟩
          case round =>
            obtain ⟨t, ht, rfl, hOt, hSt, hTt, hbt⟩ := hrel
            by_cases htl : t < m1
            · obtain ⟨n, Hn⟩ : ∃ n, Hid (v.bits[t]? = some n) := ⟨v.bits[t]'(by rw [← Hm1.out]; exact htl), List.getElem?_eq_getElem (by rw [← Hm1.out]; exact htl)⟩
              obtain ⟨bb, ob, rfl, hat⟩ := r1.get UAt.plain Hn.out
              have u0 : w.cell? ⟨bb, ob + t, none⟩ = some (.int .u64 (n : Int)) := by simpa [UAt] using hat
              have u1 := cell_below (hin _ hbt) u0
              have hti : (t : Int) < (m1 : Int) := by omega
              obtain ⟨ao, no, cc, x0, hr0⟩ := hOt
              have hcol := (Array.getElem?_eq_some_iff.1 x0).1
              have hctl := (Array.getElem?_eq_some_iff.1 hTt).1
              have hdr : Below wr.heap.size wr wr.drew := (Below.refl _ _).drew
              have hlen : (acc ++ (v.bits.take t).flatMap g).length ≤ 100000000000 := by
                have := flat_le (l := v.bits.take t) (f := g) (c := 20) fun a _ => hgl a
                rw [List.length_take] at this
                rw [List.length_append]
                have h16 : acc.length ≤ 16 * 1000000000 := Nat.le_trans hacc (Nat.mul_le_mul_right _ (by omega))
                omega
              have hT1 := ktagN_len s.number s.how
              have hT2 := kputB_len s.how (bitK s.field n)
              have htag := rtag_any (V := wr.drew) (hSt.below hdr) s.how (by omega) (by omega) k5 k6
              have hcl : ∀ W, Below wr.heap.size wr W → W.heap[co]? = some (.cells #[.slice ao no cc] 39 (0, 0)) ∧ W.cell? ⟨co, 0, none⟩ = some (.slice ao no cc) ∧ Row ekY W (co + 1) (.slice ao no cc) (acc ++ (v.bits.take t).flatMap g) ∧ StepAt W cs s ∧ TagAt W ct cs := fun W hW => ⟨(hW.block _ hcol).trans x0, cell_of_blk ((hW.block _ hcol).trans x0) 0 _ rfl, hr0.below hW, hSt.below hW, hTt.below hW⟩
              obtain ⟨_, c0, _, cS, cT⟩ := hcl wr.drew hdr
              have c1 : wr.drew.cell? ⟨ct, 0, none⟩ = some (.func (.func 45) #[] #[.pointer (some ⟨cs, 0, none⟩)]) := cell_of_blk cT 0 _ rfl
              have c2 := cS.at.2.2.1
              have hnum : ∀ W, StepAt W cs s → Calls Tryz.prog 48 #[.int .u64 (n : Int), .pointer (some ⟨cs, 0, none⟩)] W fun e w' => ∃ ao m cap, e = .returned (.slice ao m cap) ∧ Row ekY w' W.heap.size (.slice ao m cap) (kputB s.how (bitK s.field n)) ∧ Below W.heap.size W w' := fun W hW => rnumb_any hW n (hv2 n (List.mem_of_getElem? Hn.out)) hhw
              have HA : Hid (acc ++ (v.bits.take (t + 1)).flatMap g = acc ++ (v.bits.take t).flatMap g ++ ktagN s.number s.how ++ kputB s.how (bitK s.field n)) := by
                show _ = _; rw [flat_snoc Hn.out, Hg.out]; simp [List.append_assoc]
              obtain ⟨A, HA0⟩ : ∃ A, Hid (A = acc ++ (v.bits.take t).flatMap g) := ⟨_, rfl⟩
              rw [← HA0.out] at hlen hr0 hcl HA
              clear hat u0 cS cT
              go_wp2_with fail
              go_region_law (first
                | (rw [if_pos (by rfl)]; go_simp; refine htag.mono ?_; rintro e y1 ⟨a5, n5, c5, rfl, hr5, hb5⟩; have hB5 := KBT hdr hb5; obtain ⟨x5, d5, hr05, hS5', hT5'⟩ := hcl y1 hB5; have hs5 := ksrcY hr5.rdY)
                | (refine step_appG (by rfl) ekY _ _ (by rfl) (co + 1) (.slice ao no cc) A (ktagN s.number s.how) (by rfl) hr05 a5 n5 c5 (by rfl) hs5.1 hs5.2.1 hs5.2.2 (by decide) (by rw [show ekY.bytes = 1 from rfl, Nat.mul_one]; omega) (Nat.le_trans hcol hB5.size) ?_; intro v6 y2 hr6 hg6; obtain ⟨a6, n6, c6, rfl, H6⟩ := hr6.shape'; have x6 := grown_co hr05 hg6 x5; have hS6 := (KeepB.grown (co := co) hr05 hg6).step hS5' hcsn; have hz6 := hg6.size)
                | (rw [if_pos (by rfl)]; go_simp; refine (hnum y2 hS6).mono ?_; rintro e y3 ⟨a7, n7, c7, rfl, hr7, hb7⟩; have hr67 := hr6.below hb7; have hs7 := ksrcY hr7.rdY; have x7 := (hb7.block co (Array.getElem?_eq_some_iff.1 x6).1).trans x6; have hz7 := hb7.size)
                | (refine step_appG (by rfl) ekY _ _ (by rfl) (co + 1) (.slice a6 n6 c6) (A ++ ktagN s.number s.how) (kputB s.how (bitK s.field n)) (by rfl) hr67 a7 n7 c7 (by rfl) hs7.1 hs7.2.1 hs7.2.2 (by decide) (by rw [show ekY.bytes = 1 from rfl, Nat.mul_one, List.length_append]; omega) (by have := hB5.size; omega) ?_; intro v8 y4 hr8 hg8; obtain ⟨a8, n8, c8, rfl, H8⟩ := hr8.shape'; have x8 := grown_co hr67 hg8 x7; have e8 := cell_of_blk x8 0 _ rfl; have f8 := fr_of_blk x8 0))
              all_goals
                have hBl : Below co wr y4 := ((((hB5.mono (Nat.le_of_lt hcol)).grown hg6 (Nat.le_trans (Nat.le_of_lt hcol) hB5.size) (fun k hk => by have := (hr05.own k hk).1; omega)).trans (hb7.mono (by have := hB5.size; omega))).grown hg8 (by have := hB5.size; omega) (fun k hk => by have := (hr67.own k hk).1; omega))
                have hKp : KeepB co wr y4 := (((KeepB.of_below hB5).trans (KeepB.grown hr05 hg6)).trans (KeepB.of_below hb7)).trans (KeepB.grown hr67 hg8)
                have hOt := out_set x8 hr8
                rw [← HA.out] at hOt
                have hKs := hKp.trans (KeepB.set (i := 0) (v := .slice a8 n8 c8))
                have hSf := hKs.step hSt hcsn
                have hTf := hKs.tag hTt hctn
                have hBf : Below co Wb (y4.setCell ⟨co, 0, none⟩ (.slice a8 n8 c8)) := KB_set (hbt.trans hBl) (Nat.le_refl _)
                clear hg6 hg8 hr05 hr67 hr8 hr5 hr6 hr7 hs5 hs7 hb5 hb7 hKp hKs hBl
                go_wp2_with fail
                go_roundg (m1 - (t + 1))
                case measure => omega
                case rel => exact ⟨t + 1, by omega, by go_num, hOt, hSf, hTf, hBf⟩
            · have hO9 : OutAt wr co (acc ++ v.bits.flatMap g) := by
                rw [List.take_of_length_le (by rw [← Hm1.out]; omega)] at hOt; exact hOt
              have hl9 : (acc ++ v.bits.flatMap g).length ≤ (j + 1) * 1000000000 := acc_le hacc (by
                have := flat_le (l := v.bits) (f := g) (c := 20) fun a _ => hgl a
                omega)
              clear hOt
              go_wp2_with fail
              go_roundg (np - (j + 1))
              case measure => omega
              case rel => exact ⟨j + 1, _, by omega, by go_num, hO9, hl9, HK', hbt⟩
        · have b1 : (s.kind == 1) = false := by simp [e1]
          by_cases e2 : s.kind = 2
          · have b2 : (s.kind == 2) = true := by simp [e2]
            have hhw := hPbs (.inr e2)
            obtain ⟨g, Hg⟩ : ∃ g : Nat → List UInt8, Hid (g = fun n => kputB s.how (bitK s.field n)) := ⟨_, rfl⟩
            have hst : stepB (fun (s : TI) (x : BI d) => ranN ps d s.next (k + 1) x) s v = (sizedN s.number [v.bits.flatMap g], 0) := by
              unfold stepB
              rw [if_neg e1, if_pos e2, packed_bits hhw, Hg.out, List.flatMap_map]
            have hgl : ∀ n, (g n).length ≤ 10 := fun n => by rw [Hg.out]; exact kputB_len _ _
            have HK' : Hid (valsN (fun s x => ranN ps d s.next (k + 1) x) b.vals (acc ++ sizedN s.number [v.bits.flatMap g]) (P.drop (j + 1)) = V0) := by
              show _ = _; rw [← HK.out, HS]; simp only [hst]; simp
            obtain ⟨_, _, _, er, Hm1, hm1⟩ := r1.shape
            cases er
            have hm1' : m1 ≤ 1048576 := by rw [Hm1.out]; exact hv1
            clear e1 e2 hst
            go_wp2_with fail
            rw [← HW4.out, ← Hcs.out, ← Hct.out]
            clear q0 q1 q2 q3 q4 z0 z1 z2 z3 HS
            go_loopg [20, 106] m1 (fun m u i wi => ∃ (t : Nat) (ao : Option Addr) (no cc : Nat), t + m = m1 ∧ i = .int .i64 t ∧ u = .slice ao no cc ∧ Row ekY wi W4.heap.size (.slice ao no cc) ((v.bits.take t).flatMap g) ∧ Below W4.heap.size W4 wi)
            case atStart => exact ⟨0, none, 0, 0, by omega, rfl, rfl, by simpa using Row.nil ekY W4 W4.heap.size, Below.refl _ _⟩
            case round =>
              obtain ⟨t, ao, no, cc, ht, rfl, rfl, hr, hbt0⟩ := hrel
              have hbt : Below co Wb wr := hB4.trans (hbt0.mono (by have := hb4.size; omega))
              have hlt0 : ((v.bits.take t).flatMap g).length ≤ 10485760 := by
                have := flat_le (l := v.bits.take t) (f := g) (c := 10) fun a _ => hgl a
                rw [List.length_take] at this
                omega
              by_cases htl : t < m1
              · obtain ⟨n, Hn⟩ : ∃ n, Hid (v.bits[t]? = some n) := ⟨v.bits[t]'(by rw [← Hm1.out]; exact htl), List.getElem?_eq_getElem (by rw [← Hm1.out]; exact htl)⟩
                obtain ⟨bb, ob, rfl, hat⟩ := r1.get UAt.plain Hn.out
                have u0 : w.cell? ⟨bb, ob + t, none⟩ = some (.int .u64 (n : Int)) := by simpa [UAt] using hat
                have u1 := cell_below (hin _ hbt) u0
                have hti : (t : Int) < (m1 : Int) := by omega
                have hnum := rnumb_any (V := wr) (hS5.below hbt0) n (hv2 n (List.mem_of_getElem? Hn.out)) hhw
                have hgn := hgl n
                have HA : Hid ((v.bits.take (t + 1)).flatMap g = (v.bits.take t).flatMap g ++ kputB s.how (bitK s.field n)) := by
                  show _ = _; rw [flat_snoc Hn.out, Hg.out]
                have hgn' : (kputB s.how (bitK s.field n)).length ≤ 10 := kputB_len _ _
                clear hat u0
                go_wp2_with fail
                refine hnum.mono ?_
                rintro e y1 ⟨a5, n5, c5, rfl, hr5, hb5⟩
                have hr15 := hr.below hb5
                obtain ⟨p1, p2, p3⟩ := ksrcY hr5.rdY
                have hB5 := KBT hbt0 hb5
                clear hnum hr
                go_wp2_with (at_builtin; refine wpList_appG (by rfl) ekY _ _ (by rfl) W4.heap.size (.slice ao no cc) _ (kputB s.how (bitK s.field n)) (by rfl) hr15 a5 n5 c5 (by rfl) p1 p2 p3 (by decide) ?d2 hB5.size ?_)
                case d2 =>
                  rw [show ekY.bytes = 1 from rfl, Nat.mul_one]
                  omega
                intro v' y2 hr6 hg6
                obtain ⟨a6, n6, c6, rfl, _⟩ := hr6.shape'
                have hB6 : Below W4.heap.size W4 y2 := hB5.grown hg6 hB5.size (fun k hk => (hr15.own k hk).1)
                rw [← HA.out] at hr6
                go_wp2_with fail
                go_roundg (m1 - (t + 1))
                case measure => omega
                case rel => exact ⟨t + 1, a6, n6, c6, by omega, by go_num, rfl, hr6, hB6⟩
              · rw [List.take_of_length_le (by rw [← Hm1.out]; omega)] at hr hlt0
                obtain ⟨B, HB⟩ : ∃ B, Hid (v.bits.flatMap g = B) := ⟨_, rfl⟩
                rw [HB.out] at hr hlt0 HK'
                obtain ⟨a9, n9, c9, x09, hr09⟩ := hO4
                have hzc4 := (Array.getElem?_eq_some_iff.1 x09).1
                have x0 := (hbt0.block _ hzc4).trans x09
                have hr0 := hr09.below hbt0
                have hSt := hS5.below hbt0
                have hTt := hT5.below hbt0
                have h16 : acc.length ≤ 16 * 1000000000 := Nat.le_trans hacc (Nat.mul_le_mul_right _ (by omega))
                have hne : B ≠ [] → ∀ a, ao = some a → ∀ q, (Value.slice a9 n9 c9).ownBlock = some q → q ≠ a.block := fun _ a ha q hq e => by
                  have h1 := (hr.own a.block (by rw [ha]; rfl)).1
                  have h2 := (hr09.own q hq).2
                  omega
                have hbl := rblob_any (acc := acc) (l := B) (ad := ao) (nd := no) (cd := cc) x0 hr0 hne hTt hSt hr.rdY hctn hcsn (by omega) (by omega) (by omega) (by omega)
                have hl9 : (acc ++ sizedN s.number [B]).length ≤ (j + 1) * 1000000000 := acc_le hacc (by
                  have := sized1_len s.number B
                  omega)
                clear hr0 x0 hne hr x09 hr09
                go_wp2_with fail
                refine hbl.mono ?_
                rintro e y1 ⟨rfl, hOt', hKp, hBl⟩
                have hSf := hKp.step hSt hcsn
                have hTf := hKp.tag hTt hctn
                have hBf : Below co Wb y1 := hbt.trans hBl
                clear hbl
                go_wp2_with fail
                go_roundg (np - (j + 1))
                case measure => omega
                case rel => exact ⟨j + 1, _, by omega, by go_num, hOt', hl9, HK', hBf⟩
          · have b2 : (s.kind == 2) = false := by simp [e2]
            by_cases e3 : s.kind = 3
            · have b3 : (s.kind == 3) = true := by simp [e3]
              have hst : stepB (fun (s : TI) (x : BI d) => ranN ps d s.next (k + 1) x) s v = (sizedN s.number v.bytes, 0) := by
                unfold stepB
                rw [if_neg e1, if_neg e2, if_pos e3]
              have HK' : Hid (valsN (fun s x => ranN ps d s.next (k + 1) x) b.vals (acc ++ sizedN s.number v.bytes) (P.drop (j + 1)) = V0) := by
                show _ = _; rw [← HK.out, HS]; simp only [hst]; simp
              obtain ⟨f, Hf⟩ : ∃ f : List UInt8 → List UInt8, Hid (f = fun z => sizedN s.number [z]) := ⟨_, rfl⟩
              have hsz : ∀ l : List (List UInt8), sizedN s.number l = l.flatMap f := fun l => by rw [Hf.out]; unfold sizedN; congr 1; funext z; simp
              have htot : (v.bytes.flatMap f).length ≤ 1000000000 := by
                have h1 := sized_sum s.number v.bytes
                rw [hsz] at h1
                unfold vW at hvw
                omega
              obtain ⟨_, _, _, er, Hm2, hm2⟩ := r2.shape
              cases er
              clear e1 e2 e3 hst
              go_wp2_with fail
              rw [← HW4.out, ← Hcs.out, ← Hct.out]
              clear q0 q1 q2 q3 q4 z0 z1 z2 z3 HS
              go_loopg [124] m2 (fun m i wi => ∃ (t : Nat), t + m = m2 ∧ i = .int .i64 t ∧ OutAt wi co (acc ++ (v.bytes.take t).flatMap f) ∧ StepAt wi cs s ∧ TagAt wi ct cs ∧ Below co Wb wi)
              case atStart => exact ⟨0, by omega, rfl, by simpa using hO4, hS5, hT5, hB4⟩
              case round =>
                obtain ⟨t, ht, rfl, hOt, hSt, hTt, hbt⟩ := hrel
                by_cases htl : t < m2
                · obtain ⟨z, Hz⟩ : ∃ z, Hid (v.bytes[t]? = some z) := ⟨v.bytes[t]'(by rw [← Hm2.out]; exact htl), List.getElem?_eq_getElem (by rw [← Hm2.out]; exact htl)⟩
                  obtain ⟨bb, ob, rfl, hat⟩ := r2.get ZAt.plain Hz.out
                  obtain ⟨vz, u0, hrz⟩ := hat.at
                  obtain ⟨az, nz, cz, rfl, Hnz, hnz⟩ := hrz.shape
                  have u0' : w.cell? ⟨bb, ob + t, none⟩ = some (.slice az nz cz) := by simpa using u0
                  have u1 := cell_below (hin _ hbt) u0'
                  have hti : (t : Int) < (m2 : Int) := by omega
                  have hz20 := hv4 z (List.mem_of_getElem? Hz.out)
                  obtain ⟨ao, no, cc, x0, hr0⟩ := hOt
                  have hlen : (acc ++ (v.bytes.take t).flatMap f).length ≤ 100000000000 := by
                    have := flat_take_le f v.bytes t
                    rw [List.length_append]
                    have h16 : acc.length ≤ 16 * 1000000000 := Nat.le_trans hacc (Nat.mul_le_mul_right _ (by omega))
                    omega
                  have hne : z ≠ [] → ∀ a, az = some a → ∀ q, (Value.slice ao no cc).ownBlock = some q → q ≠ a.block := fun hz0 a ha q hq e => by
                    have h1 := rdY_blk hrz hz0 a ha
                    have h2 := (hr0.own q hq).1
                    omega
                  have hbl := rblob_any (acc := acc ++ (v.bytes.take t).flatMap f) (l := z) (ad := az) (nd := nz) (cd := cz) x0 hr0 hne hTt hSt (hrz.below YAt.stays (hin _ hbt)) hctn hcsn (by omega) (by omega) (by omega) (by omega)
                  rw [show acc ++ (v.bytes.take t).flatMap f ++ sizedN s.number [z] = acc ++ (v.bytes.take (t + 1)).flatMap f by rw [flat_snoc Hz.out, Hf.out, List.append_assoc]] at hbl
                  clear hat u0 u0' hr0 x0 hrz hne
                  go_wp2_with fail
                  refine hbl.mono ?_
                  rintro e y1 ⟨rfl, hOt', hKp, hBl⟩
                  have hSf := hKp.step hSt hcsn
                  have hTf := hKp.tag hTt hctn
                  have hBf : Below co Wb y1 := hbt.trans hBl
                  clear hbl
                  go_wp2_with fail
                  go_roundg (m2 - (t + 1))
                  case measure => omega
                  case rel => exact ⟨t + 1, by omega, by go_num, hOt', hSf, hTf, hBf⟩
                · have hO9 : OutAt wr co (acc ++ sizedN s.number v.bytes) := by
                    rw [hsz]; rw [List.take_of_length_le (by rw [← Hm2.out]; omega)] at hOt; exact hOt
                  have hl9 : (acc ++ sizedN s.number v.bytes).length ≤ (j + 1) * 1000000000 := acc_le hacc (by rw [hsz]; exact htot)
                  clear hOt
                  go_wp2_with fail
                  go_roundg (np - (j + 1))
                  case measure => omega
                  case rel => exact ⟨j + 1, _, by omega, by go_num, hO9, hl9, HK', hbt⟩
            · have b3 : (s.kind == 3) = false := by simp [e3]
              have e4 : s.kind = 4 := by omega
              obtain ⟨hnx1, hnx2⟩ := k7 e4
              obtain ⟨f, Hf⟩ : ∃ f : BI d → List UInt8 × Int, Hid (f = fun x => ranN ps d s.next (k + 1) x) := ⟨_, rfl⟩
              have hst : stepB (fun (s : TI) (x : BI d) => ranN ps d s.next (k + 1) x) s v = nestGo s.number f [] v.subs := by
                unfold stepB
                rw [if_neg e1, if_neg e2, if_neg e3, Hf.out]
              obtain ⟨Q, HQ⟩ : ∃ Q, Hid (nestGo s.number f acc v.subs = Q) := ⟨_, rfl⟩
              have HV : Hid (V0 = if Q.2 ≠ 0 then ([], Q.2) else valsN (fun s x => ranN ps d s.next (k + 1) x) b.vals Q.1 (P.drop (j + 1))) := by
                show _ = _
                rw [← HK.out, HS, ← HQ.out, nest_acc s.number f acc]
                simp only [hst]
                by_cases h0 : (nestGo s.number f [] v.subs).2 ≠ 0
                · rw [if_pos h0, if_pos h0, if_pos h0]
                · rw [if_neg h0, if_neg h0, if_neg (by simp)]
              have hfl : ∀ x, (f x).1.length ≤ bW d x := fun x => by rw [Hf.out]; exact ranN_len hnd d _ _ x
              obtain ⟨_, _, _, er, Hm3, hm3⟩ := r3.shape
              cases er
              have h16 : acc.length ≤ 16 * 1000000000 := Nat.le_trans hacc (Nat.mul_le_mul_right _ (by omega))
              have hsub : (v.subs.map fun x => 20 + bW d x).sum ≤ 1000000000 := by unfold vW at hvw; omega
              clear e1 e2 e3 e4 hst
              go_wp2_with fail
              rw [← HW4.out, ← Hcs.out, ← Hct.out]
              clear q0 q1 q2 q3 q4 z0 z1 z2 z3 HS
              go_loopg [60] m3 (fun m i wi => ∃ (t : Nat) (A : List UInt8), t + m = m3 ∧ i = .int .i64 t ∧ OutAt wi co A ∧ StepAt wi cs s ∧ TagAt wi ct cs ∧ Hid (nestGo s.number f A (v.subs.drop t) = Q) ∧ A.length ≤ acc.length + ((v.subs.take t).map fun x => 20 + bW d x).sum ∧ Below co Wb wi)
              case atStart => exact ⟨0, acc, by omega, rfl, hO4, hS5, hT5, HQ, by simp, hB4⟩
              case round =>
                obtain ⟨t, A, ht, rfl, hOt, hSt, hTt, HA, hAl, hbt⟩ := hrel
                have hst1 := sum_take (fun x => 20 + bW d x) v.subs t
                by_cases htl : t < m3
                · obtain ⟨x, Hx⟩ : ∃ x, Hid (v.subs[t]? = some x) := ⟨v.subs[t]'(by rw [← Hm3.out]; exact htl), List.getElem?_eq_getElem (by rw [← Hm3.out]; exact htl)⟩
                  have hxm := List.mem_of_getElem? Hx.out
                  obtain ⟨bb, ob, rfl, hat⟩ := r3.get (BAt.plain d) Hx.out
                  obtain ⟨y0, y1, u0, u1, hkq⟩ := hat.kq
                  obtain ⟨f0, g0', h0', f1, g1', h1', rfl, rfl⟩ := hkq.shape
                  have u0 := cell_below (hin _ hbt) u0
                  have u1 := cell_below (hin _ hbt) u1
                  have hti : (t : Int) < (m3 : Int) := by omega
                  obtain ⟨W6, HW6⟩ : ∃ W6, Hid (W6 = wr.alloc (.cells #[.slice f0 g0' h0', .slice f1 g1' h1'] 30)) := ⟨_, rfl⟩
                  have hb6 : Below wr.heap.size wr W6 := by rw [HW6.out]; exact (Below.refl _ _).alloc (Nat.le_refl _) _
                  have hzr : co ≤ wr.heap.size := Nat.le_trans (by omega) hbt.size
                  have hB6 : Below co Wb W6 := hbt.trans (hb6.mono hzr)
                  have hxw : bW d x ≤ 1000000000 := by
                    have := sum_mem (f := fun x => 20 + bW d x) hxm
                    omega
                  have hcall := ih W6 _ _ _ s.next (k + 1) x (hl.below PrAt.stays (hin _ hB6)) hnx1 hnx2 (by omega) (by omega) (hkq.below (hin _ hB6)) (hv6 x hxm) hxw
                  have hfx : f x = ranN ps d s.next (k + 1) x := by rw [Hf.out]
                  rw [← hfx] at hcall
                  have hflx := hfl x
                  have HN := nest_step (num := s.number) (deep := f) Hx.out A
                  obtain ⟨B, E, HE⟩ : ∃ B E, Hid (f x = (B, E)) := ⟨_, _, rfl⟩
                  rw [HE.out] at hcall HN hflx
                  have q4 := (hSt.below hb6).at.2.2.2.2
                  rw [HW6.out] at q4
                  clear hat hfx
                  by_cases hE : E = 0
                  · have hEb : (E != 0) = false := by simp [hE]
                    have HA' : Hid (nestGo s.number f (A ++ sizedN s.number [B]) (v.subs.drop (t + 1)) = Q) := by
                      show _ = _; rw [← HA.out, HN, if_neg (by simp [hE])]
                    have hAl' : (A ++ sizedN s.number [B]).length ≤ acc.length + ((v.subs.take (t + 1)).map fun x => 20 + bW d x).sum := by
                      have h1 := sized1_len s.number B
                      have h2 : B.length ≤ bW d x := hflx
                      rw [take_snoc Hx.out, List.map_append, List.sum_append, List.length_append]
                      simp only [List.map_cons, List.map_nil, List.sum_cons, List.sum_nil]
                      omega
                    have hBl0 : B.length ≤ 1000000000 := Nat.le_trans hflx hxw
                    clear hE HN
                    go_wp2_with fail
                    rw [← HW6.out]
                    refine hcall.mono ?_
                    rintro e y2 ⟨a7, n7, c7, rfl, hr7, hb7⟩
                    obtain ⟨ao, no, cc, x00, hr00⟩ := hOt
                    have hb67 := KBT hb6 hb7
                    have hzc := (Array.getElem?_eq_some_iff.1 x00).1
                    have x0 := (hb67.block _ hzc).trans x00
                    have hr0 := hr00.below hb67
                    have hSt := hSt.below hb67
                    have hTt := hTt.below hb67
                    have hbt : Below co Wb y2 := hbt.trans (hb67.mono hzr)
                    have hne : B ≠ [] → ∀ a, a7 = some a → ∀ q, (Value.slice ao no cc).ownBlock = some q → q ≠ a.block := fun _ a ha q hq e => by
                      have h1 := (hr7.own a.block (by rw [ha]; rfl)).1
                      have h2 := (hr00.own q hq).2
                      have h3 := hb6.size
                      omega
                    have hbl := rblob_any (acc := A) (l := B) (ad := a7) (nd := n7) (cd := c7) x0 hr0 hne hTt hSt hr7.rdY hctn hcsn (by omega) (by omega) (by omega) (by omega)
                    clear hcall hr0 x0 x00 hr00 hne hr7
                    go_wp2_with fail
                    refine hbl.mono ?_
                    rintro e y1 ⟨rfl, hOt', hKp, hBl⟩
                    have hSf := hKp.step hSt hcsn
                    have hTf := hKp.tag hTt hctn
                    have hBf : Below co Wb y1 := hbt.trans hBl
                    clear hbl
                    go_wp2_with fail
                    go_roundg (m3 - (t + 1))
                    case measure => omega
                    case rel => exact ⟨t + 1, _, by omega, by go_num, hOt', hSf, hTf, HA', hAl', hBf⟩
                  · have hEb : (E != 0) = true := by simpa using hE
                    have HF : Hid (R = ([], E)) := by
                      have hq : Q = ([], E) := by rw [← HA.out, HN, if_pos hE]
                      have hv0 : V0 = ([], E) := by rw [HV.out, hq, if_pos hE]
                      show _ = _; rw [HRR.out, hv0, if_pos hE]
                    clear hE HN
                    go_wp2_with fail
                    rw [← HW6.out]
                    refine hcall.mono ?_
                    rintro e y2 ⟨a7, n7, c7, rfl, hr7, hb7⟩
                    have hBw := KBT (hin _ hB6) hb7
                    go_wp2
                    go_ret2
                    exact ⟨none, 0, 0, by rw [HF.out]; rfl, by rw [HF.out]; exact Row.nil _ _ _, hBw⟩
                · have hQ : Q = (A, 0) := by rw [← HA.out, List.drop_of_length_le (by rw [← Hm3.out]; omega)]; rfl
                  have HK' : Hid (valsN (fun s x => ranN ps d s.next (k + 1) x) b.vals A (P.drop (j + 1)) = V0) := by show _ = _; rw [HV.out, hQ, if_neg (by simp)]
                  have hl9 : A.length ≤ (j + 1) * 1000000000 := by rw [Nat.succ_mul]; omega
                  clear hQ
                  go_wp2_with fail
                  go_roundg (np - (j + 1))
                  case measure => omega
                  case rel => exact ⟨j + 1, _, by omega, by go_num, hOt, hl9, HK', hbt⟩
    · have hV0 : V0 = (acc, 0) := by rw [← HK.out, List.drop_of_length_le (by rw [← Hnp.out]; omega)]; rfl
      have HU : Hid (unkGo acc (b.unk.drop 0) = R) := by show _ = _; rw [HRR.out, hV0, if_neg (by simp)]; rfl
      obtain ⟨t0, t1⟩ := hbody wo hb
      have h16 : acc.length ≤ 16 * 1000000000 := Nat.le_trans hacc (Nat.mul_le_mul_right _ (by omega))
      have hn1 : n1 ≤ 1048576 := by rw [H1.out]; exact hun'
      clear hV0 HRR HK
      go_wp2_with fail
      go_loopg [136] n1 (fun m i wi => ∃ (t : Nat) (A : List UInt8), t + m = n1 ∧ i = .int .i64 t ∧ OutAt wi co A ∧ Hid (unkGo A (b.unk.drop t) = R) ∧ A.length ≤ acc.length + t * 1048596 ∧ Below co Wb wi)
      case atStart => exact ⟨0, acc, by omega, rfl, hO, HU, by omega, hb⟩
      case round =>
        clear hO HU
        obtain ⟨t, A, ht, rfl, hOt, HA, hAl, hbt⟩ := hrel
        have hzr : co + 1 ≤ wr.heap.size := Nat.le_trans hzB hbt.size
        by_cases htl : t < n1
        · obtain ⟨r, Hr⟩ : ∃ r, Hid (b.unk[t]? = some r) := ⟨b.unk[t]'(by rw [← H1.out]; exact htl), List.getElem?_eq_getElem (by rw [← H1.out]; exact htl)⟩
          obtain ⟨hus1, hus2⟩ := hus r (List.mem_of_getElem? Hr.out)
          obtain ⟨bb, ob, rfl, hat⟩ := hq.2.get RAt.plain Hr.out
          obtain ⟨vb, u0, u1, u2, u3, hrb⟩ := hat.at
          obtain ⟨ab, nb, cb, rfl, Hnb, hnb⟩ := hrb.shape
          have u0 := cell_below (hin _ hbt) u0
          have u1 := cell_below (hin _ hbt) u1
          have u2 := cell_below (hin _ hbt) u2
          have u3 := cell_below (hin _ hbt) u3
          have hti : (t : Int) < (n1 : Int) := by omega
          obtain ⟨W6, HW6⟩ : ∃ W6, Hid (W6 = wr.alloc (.cells #[.int .i64 r.number, .int .i64 r.how, .int .u64 (r.bits : Int), .slice ab nb cb] 104)) := ⟨_, rfl⟩
          have hb6 : Below wr.heap.size wr W6 := by rw [HW6.out]; exact (Below.refl _ _).alloc (Nat.le_refl _) _
          have hz6 : wr.heap.size + 1 ≤ W6.heap.size := by rw [HW6.out]; simp
          have x6 : W6.heap[wr.heap.size]? = some (.cells #[.int .i64 r.number, .int .i64 r.how, .int .u64 (r.bits : Int), .slice ab nb cb] 104 (0, 0)) := by rw [HW6.out]; exact heap_alloc_new _ _
          have hwr := rwrongRec_any r.number r.how r.bits ab nb cb W6 hnb
          have HN := unk_step Hr.out A
          rw [← Hnb.out] at HN
          obtain ⟨E, HE⟩ : ∃ E, Hid (wrongR r.number r.how r.bits nb = E) := ⟨_, rfl⟩
          rw [HE.out] at hwr HN
          clear hat
          by_cases hE : E = 0
          · have hEb : (E != 0) = false := by simp [hE]
            have HA' : Hid (unkGo (A ++ recN r.number r.how r.bits r.bytes) (b.unk.drop (t + 1)) = R) := by show _ = _; rw [← HA.out, HN, if_neg (by simp [hE])]
            obtain ⟨j1, j2, j3⟩ := wrongR_ok (HE.out.trans hE)
            have hRl := recN_len r.number r.how r.bits r.bytes
            have hAl' : (A ++ recN r.number r.how r.bits r.bytes).length ≤ acc.length + (t + 1) * 1048596 := by rw [List.length_append, Nat.succ_mul]; omega
            have htn : t * 1048596 ≤ 1048576 * 1048596 := Nat.mul_le_mul_right _ (by omega)
            have hlen : A.length + (recN r.number r.how r.bits r.bytes).length ≤ 140737488355328 := by omega
            clear hE HN
            go_wp2_with fail
            rw [← HW6.out]
            refine hwr.mono ?_
            rintro e y1 ⟨rfl, hb7⟩
            have hb67 := KBT hb6 hb7
            obtain ⟨ao, no, cc, x00, hr00⟩ := hOt
            have hzc := (Array.getElem?_eq_some_iff.1 x00).1
            have hdr : Below y1.heap.size y1 y1.drew := (Below.refl _ _).drew
            have hcl : ∀ W, Below y1.heap.size y1 W → W.heap[co]? = some (.cells #[.slice ao no cc] 39 (0, 0)) ∧ W.cell? ⟨co, 0, none⟩ = some (.slice ao no cc) ∧ Row ekY W (co + 1) (.slice ao no cc) A := fun W hW => ⟨((KBT hb67 hW).block _ hzc).trans x00, cell_of_blk (((KBT hb67 hW).block _ hzc).trans x00) 0 _ rfl, hr00.below (KBT hb67 hW)⟩
            have x7 := (hdr.block _ (by have := hb7.size; omega)).trans ((hb7.block _ (by omega)).trans x6)
            obtain ⟨c0, c1', c2, c3⟩ := blk4 x7
            obtain ⟨_, d0, _⟩ := hcl y1.drew hdr
            have hone := rone_any (w := y1.drew) (hrb.below YAt.stays (KBT (KBT (hin _ hbt) hb67) hdr)) r.number r.how r.bits hus1 (by omega) (by omega) (by omega) j1
            obtain ⟨X, HX⟩ : ∃ X, Hid (recN r.number r.how r.bits r.bytes = X) := ⟨_, rfl⟩
            rw [HX.out] at hone hlen HA' hAl'
            clear hwr
            go_wp2_with fail
            go_region_law (first
              | (rw [if_pos (by rfl)]; go_simp; refine hone.mono ?_; rintro e y2 ⟨a5, n5, c5, rfl, hr5, hb5⟩; have hB5 := KBT hdr hb5; obtain ⟨x5, d5, hr05⟩ := hcl y2 hB5; have hs5 := ksrcY hr5.rdY)
              | (refine step_appG (by rfl) ekY _ _ (by rfl) (co + 1) (.slice ao no cc) A X (by rfl) hr05 a5 n5 c5 (by rfl) hs5.1 hs5.2.1 hs5.2.2 (by decide) (by rw [show ekY.bytes = 1 from rfl, Nat.mul_one]; exact hlen) (by have := hB5.size; have := hb67.size; omega) ?_; intro v8 y4 hr8 hg8; obtain ⟨a8, n8, c8, rfl, H8⟩ := hr8.shape'; have x8 := grown_co hr05 hg8 x5; have e8 := cell_of_blk x8 0 _ rfl; have f8 := fr_of_blk x8 0))
            all_goals
              have hOt := out_set x8 hr8
              have hBf : Below co Wb (y4.setCell ⟨co, 0, none⟩ (.slice a8 n8 c8)) := KB_set ((hbt.trans ((KBT hb67 hB5).mono (by omega))).grown hg8 (by have := hB5.size; have := hb67.size; omega) (fun k hk => by have := (hr05.own k hk).1; omega)) (Nat.le_refl _)
              clear hg8 hr05 hr8 hr5 hs5 hb5
              go_wp2_with fail
              go_roundg (n1 - (t + 1))
              case measure => omega
              case rel => exact ⟨t + 1, _, by omega, by go_num, hOt, HA', hAl', hBf⟩
          · have hEb : (E != 0) = true := by simpa using hE
            have HF : Hid (R = ([], E)) := by show _ = _; rw [← HA.out, HN, if_pos hE]
            clear hE HN
            go_wp2_with fail
            rw [← HW6.out]
            refine hwr.mono ?_
            rintro e y1 ⟨rfl, hb7⟩
            have hBw := KBT (KBT (hin _ hbt) hb6) hb7
            go_wp2
            go_ret2
            exact ⟨none, 0, 0, by rw [HF.out]; rfl, by rw [HF.out]; exact Row.nil _ _ _, hBw⟩
        · have HF : Hid (R = (A, 0)) := by show _ = _; rw [← HA.out, List.drop_of_length_le (by rw [← H1.out]; omega)]; rfl
          obtain ⟨ao, no, cc, x00, hr00⟩ := hOt
          have d0 : wr.cell? ⟨co, 0, none⟩ = some (.slice ao no cc) := cell_of_blk x00 0 _ rfl
          have hBw := hin _ hbt
          go_wp2
          go_ret2
          exact ⟨ao, no, cc, by rw [HF.out]; rfl, by rw [HF.out]; exact hr00.mono (by omega), hBw⟩
theorem ranTold {ps : List (List TI)} (hps : PsOk ps) (hnd : PsNd ps) (hbt : PsBits ps) : ∀ d, RanTold ps d
  | 0 => fun _ _ _ _ _ _ _ _ _ _ _ _ hq _ _ => hq.elim
  | d + 1 => ran_step hps hnd hbt (ranTold hps hnd hbt d)

end L
end Go.Proofs.YthgbiflfinddiaaGreat

