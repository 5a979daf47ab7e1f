/- The contract of firstBroken, whatever the rules are. -/
import Derived.Test.YtenlijgnmhdopaaGreatDoorLFind
import Derived.Laws.EntriesVeiled
namespace Go.Proofs.YtenlijgnmhdopaaGreatDoor
namespace L
open Go.RowKit

/-- Of what was there nothing but the blocks cs, and lists of strings and of numbers from block B on, has turned. -/
structure Fr (B : Nat) (cs : List Nat) (w w' : World) : Prop where
  os : w'.os = w.os
  tape : w'.tape = w.tape
  output : w'.output = w.output
  size : w.heap.size ≤ w'.heap.size
  block : ∀ k, k < w.heap.size → k ∉ cs → (k < B ∨ ∀ xs fr, w.heap[k]? ≠ some (.cells xs 9 fr) ∧ w.heap[k]? ≠ some (.cells xs 3 fr)) → w'.heap[k]? = w.heap[k]?
theorem Fr.refl (B : Nat) (cs : List Nat) (w : World) : Fr B cs w w := ⟨rfl, rfl, rfl, Nat.le_refl _, fun _ _ _ _ => rfl⟩
theorem Fr.trans {B : Nat} {cs : List Nat} {a b c : World} (h : Fr B cs a b) (k : Fr B cs b c) : Fr B cs a c :=
  ⟨k.os.trans h.os, k.tape.trans h.tape, k.output.trans h.output, Nat.le_trans h.size k.size, fun i hi hc hk => by
    have e := h.block i hi hc hk
    rw [k.block i (Nat.lt_of_lt_of_le hi h.size) hc ?_, e]
    rcases hk with hk | hk
    · exact .inl hk
    · right; intro xs fr; rw [e]; exact hk xs fr⟩
theorem Fr.of_below {B : Nat} {cs : List Nat} {w w' : World} (h : Below w.heap.size w w') : Fr B cs w w' := ⟨h.os, h.tape, h.output, h.size, fun k hk _ _ => h.block k hk⟩
theorem Fr.below {B B0 : Nat} {cs : List Nat} {w w' : World} (h : Fr B cs w w') (hB : B0 ≤ B) (hw : B0 ≤ w.heap.size) (hc : ∀ c ∈ cs, B0 ≤ c) : Below B0 w w' :=
  ⟨h.os, h.tape, h.output, h.size, fun k hk => h.block k (by omega) (fun e => by have := hc k e; omega) (.inl (by omega))⟩

theorem Fr.setNew {B : Nat} {cs : List Nat} {w x : World} (h : Fr B cs w x) (i : Nat) (v : Value) : Fr B cs w (x.setCell ⟨w.heap.size, i, none⟩ v) :=
  ⟨h.os, h.tape, h.output, by simpa using h.size, fun k hk hc hq => (Below.heap_setCell x ⟨w.heap.size, i, none⟩ v k (show k ≠ w.heap.size by omega)).trans (h.block k hk hc hq)⟩

/-- Rule by rule: the first one that is broken, and what is remembered. -/
def rulesGo {α σ : Type} (step : Nat → α → σ → Bool × σ) : Nat → List Int → α → σ → Option Int × σ
  | _, [], _, s => (none, s)
  | j, e :: r, x, s => if (step j x s).1 then (some e, (step j x s).2) else rulesGo step (j + 1) r x (step j x s).2
def firstGo {α σ : Type} (step : Nat → α → σ → Bool × σ) (errs : List Int) : Nat → List α → σ → Int × Nat
  | _, [], _ => (0, 0)
  | i, x :: l, s => match rulesGo step 0 errs x s with
    | (some e, _) => (e, i)
    | (none, s') => firstGo step errs (i + 1) l s'

def fv (f : FI) : Value := .agg #[.string (S f.name), .int .i64 f.number, .int .i64 f.kind, .string (S f.type), .bool f.many, .int .i64 f.choice]
/-- A rule: its error, the function, what that has captured. -/
structure Ru where
  err : Int
  fn : Nat
  cap : Array Value
def ruCells (rs : List Ru) : Array Value := (rs.flatMap fun r => [.int .i64 r.err, .func (.func r.fn) #[] r.cap]).toArray
theorem rules_step {α σ : Type} {step : Nat → α → σ → Bool × σ} {errs : List Int} {j : Nat} {e : Int} (he : errs[j]? = some e) (x : α) (s : σ) : rulesGo step j (errs.drop j) x s = if (step j x s).1 then (some e, (step j x s).2) else rulesGo step (j + 1) (errs.drop (j + 1)) x (step j x s).2 := by
  obtain ⟨hk, e1⟩ := List.getElem?_eq_some_iff.1 he
  rw [List.drop_eq_getElem_cons hk, e1, rulesGo]
theorem first_step {α σ : Type} {step : Nat → α → σ → Bool × σ} {errs : List Int} {l : List α} {k : Nat} {a : α} (ha : l[k]? = some a) (s : σ) : firstGo step errs k (l.drop k) s = match rulesGo step 0 errs a s with | (some e, _) => (e, k) | (none, s') => firstGo step errs (k + 1) (l.drop (k + 1)) s' := by
  obtain ⟨hk, e1⟩ := List.getElem?_eq_some_iff.1 ha
  rw [List.drop_eq_getElem_cons hk, e1, firstGo]
theorem Fr.keep {B : Nat} {cs : List Nat} {w w' : World} (h : Fr B cs w w') {k : Nat} {xs : Array Value} {t : TypeId} {fr : Nat × Nat} (hk : w.heap[k]? = some (.cells xs t fr)) (hc : k ∉ cs) (ht : t ≠ 9 ∧ t ≠ 3) : w'.heap[k]? = some (.cells xs t fr) := by
  rw [h.block k (Array.getElem?_eq_some_iff.1 hk).1 hc ?_]
  · exact hk
  · right
    intro ys f
    rw [hk]
    simp
    exact ⟨fun _ e => absurd e ht.1, fun _ e => absurd e ht.2⟩
theorem ru_at {rs : List Ru} {j : Nat} {r : Ru} (h : rs[j]? = some r) : (ruCells rs)[j * 2]? = some (.int .i64 r.err) ∧ (ruCells rs)[j * 2 + 1]? = some (.func (.func r.fn) #[] r.cap) := by
  unfold ruCells
  rw [List.getElem?_toArray, List.getElem?_toArray]
  induction rs generalizing j with
  | nil => simp at h
  | cons q rs ih =>
    cases j with
    | zero => simp at h; subst h; simp
    | succ j =>
      have h' : rs[j]? = some r := by simpa using h
      have := ih h'
      rw [List.flatMap_cons]
      rw [show (j + 1) * 2 = (j * 2) + 2 by omega, show (j * 2) + 2 + 1 = (j * 2 + 1) + 2 by omega]
      simpa using this

set_option maxHeartbeats 2000000 in
set_option maxRecDepth 100000 in
theorem brokenF_any {σ : Type} {B B0 : Nat} {cs : List Nat} {w : World} {vl : Value} {l : List FI} {rs : List Ru} {g : Nat} (step : Nat → FI → σ → Bool × σ) (Inv : Nat → Nat → σ → World → Prop) (s0 : σ)
    (hl : ∀ W, Below B0 w W → RdL 6 FAt W vl l) (hg : w.heap[g]? = some (.cells (ruCells rs) 102 (0, 0))) (hgc : g ∉ cs) (hB0 : B0 ≤ B) (hBw : B ≤ w.heap.size) (hcs : ∀ c ∈ cs, B0 ≤ c) (hcsB : ∀ c ∈ cs, c < B) (hrs : rs.length ≤ 100)
    (hent : ∀ r ∈ rs, ∀ (args : Array Value) (w : World), (callFunc r.fn args).run Tryz.prog w = .ok (.enter r.fn args) w) (hI : Inv 0 0 s0 w) (hIb : ∀ k j s W W', B ≤ W.heap.size → Inv k j s W → Below W.heap.size W W' → Inv k j s W') (hnx : ∀ k s W, k < l.length → Inv k rs.length s W → Inv (k + 1) 0 s W)
    (hcall : ∀ k j r f s W, l[k]? = some f → rs[j]? = some r → B ≤ W.heap.size → Fr B cs w W → Inv k j s W → Calls Tryz.prog r.fn (#[fv f] ++ r.cap) W fun e W' => e = .returned (.bool (step j f s).1) ∧ ((step j f s).1 = false → Inv k (j + 1) (step j f s).2 W') ∧ Fr B cs W W') :
    Calls Tryz.prog 36 #[vl, .slice (some ⟨g, 0, none⟩) rs.length rs.length] w fun e w' => e = .returned (.agg #[.int .i64 (firstGo step (rs.map Ru.err) 0 l s0).1, .int .i64 (((firstGo step (rs.map Ru.err) 0 l s0).2 : Nat) : Int)]) ∧ Fr B cs w w' := by
  obtain ⟨ao, n, cap, rfl, Hn, hcap⟩ := (hl w (Below.refl _ _)).shape
  obtain ⟨m, Hm⟩ : ∃ m, Hid (m = rs.length) := ⟨_, rfl⟩
  have hm : m ≤ 100 := by rw [Hm.out]; exact hrs
  rw [← Hm.out]
  obtain ⟨errs, Herr⟩ : ∃ errs, Hid (errs = rs.map Ru.err) := ⟨_, rfl⟩
  rw [← Herr.out]
  obtain ⟨W0, HW0⟩ : ∃ W0, Hid (W0 = w.alloc (.cells #[.int .i64 0, .int .i64 0] 29)) := ⟨_, rfl⟩
  have hb0 : Below w.heap.size w W0 := by rw [HW0.out]; exact (Below.refl _ _).alloc (Nat.le_refl _) _
  have hR0 : W0.heap[w.heap.size]? = some (.cells #[.int .i64 0, .int .i64 0] 29 (0, 0)) := by rw [HW0.out]; exact heap_alloc_new _ _
  have hz0 : w.heap.size + 1 ≤ W0.heap.size := by rw [HW0.out]; simp
  have hRc : w.heap.size ∉ cs := fun e => by have := hcsB _ e; omega
  have hF0 : Fr B cs w W0 := Fr.of_below hb0
  go_enter Tryz.func36, Tryz.ntmps36
  go_wp2_with fail
  rw [← HW0.out]
  go_loopg [11] n (fun gm i wr => ∃ (k : Nat) (s : σ), k + gm = n ∧ i = .int .i64 k ∧ Inv k 0 s wr ∧ Fr B cs W0 wr ∧ Hid (firstGo step errs 0 l s0 = firstGo step errs k (l.drop k) s))
  case atStart => exact ⟨0, s0, by omega, rfl, hIb _ _ _ _ _ hBw hI hb0, Fr.refl _ _ _, rfl⟩
  case round =>
    obtain ⟨k, s, hk, rfl, hIs, hFr, HK⟩ := hrel
    obtain ⟨wo, Hwo⟩ : ∃ wo, wo = wr := ⟨_, rfl⟩
    subst Hwo
    have hFw := hF0.trans hFr
    have hRo := hFr.keep hR0 hRc (by decide)
    have hzo : w.heap.size + 1 ≤ wo.heap.size := Nat.le_trans hz0 hFr.size
    by_cases hlt : k < n
    · obtain ⟨f, Hf⟩ : ∃ f, Hid (l[k]? = some f) := ⟨l[k]'(by rw [← Hn.out]; exact hlt), List.getElem?_eq_getElem (by rw [← Hn.out]; exact hlt)⟩
      have HK2 : Hid (firstGo step errs 0 l s0 = match rulesGo step 0 errs f s with | (some e, _) => (e, k) | (none, s') => firstGo step errs (k + 1) (l.drop (k + 1)) s') := by show _ = _; rw [HK.out, first_step Hf.out]
      obtain ⟨b, off, rfl, hat⟩ := (hl wo (hFw.below hB0 (by omega) hcs)).get FAt.plain Hf.out
      obtain ⟨t0, t1, t2, t3, t4, t5⟩ := hat.at
      have hki : (k : Int) < (n : Int) := by omega
      obtain ⟨W1, HW1⟩ : ∃ W1, Hid (W1 = wo.alloc (.cells #[.string (S f.name), .int .i64 f.number, .int .i64 f.kind, .string (S f.type), .bool f.many, .int .i64 f.choice] 39)) := ⟨_, rfl⟩
      have hb1 : Below wo.heap.size wo W1 := by rw [HW1.out]; exact (Below.refl _ _).alloc (Nat.le_refl _) _
      have hX1 : W1.heap[wo.heap.size]? = some (.cells #[.string (S f.name), .int .i64 f.number, .int .i64 f.kind, .string (S f.type), .bool f.many, .int .i64 f.choice] 39 (0, 0)) := by rw [HW1.out]; exact heap_alloc_new _ _
      have hz1 : wo.heap.size + 1 ≤ W1.heap.size := by rw [HW1.out]; simp
      have hF1 : Fr B cs wo W1 := Fr.of_below hb1
      have hXc : wo.heap.size ∉ cs := fun e => by have := hcsB _ e; omega
      have hI1 := hIb _ _ _ _ _ (by omega) hIs hb1
      clear hat
      go_wp2_with fail
      rw [← HW1.out]
      go_loopg [18] m (fun gm i wi => ∃ (j : Nat) (s' : σ), j + gm = m ∧ i = .int .i64 j ∧ Inv k j s' wi ∧ Fr B cs W1 wi ∧ Hid (rulesGo step 0 errs f s = rulesGo step j (errs.drop j) f s'))
      case atStart => exact ⟨0, s, by omega, rfl, hI1, Fr.refl _ _ _, rfl⟩
      case round =>
        clear t0 t1 t2 t3 t4 t5
        obtain ⟨j, s', hj, rfl, hIi, hFi, HJ⟩ := hrel
        obtain ⟨wi, Hwi⟩ : ∃ wi, wi = wr := ⟨_, rfl⟩
        subst Hwi
        have hFwi := hFw.trans (hF1.trans hFi)
        have hzi : wo.heap.size + 1 ≤ wi.heap.size := Nat.le_trans hz1 hFi.size
        by_cases hjl : j < m
        · obtain ⟨r, Hr⟩ : ∃ r, Hid (rs[j]? = some r) := ⟨rs[j]'(by rw [← Hm.out]; exact hjl), List.getElem?_eq_getElem (by rw [← Hm.out]; exact hjl)⟩
          have He : Hid (errs[j]? = some r.err) := by show _ = _; rw [Herr.out, List.getElem?_map, Hr.out]; rfl
          have HJ2 : Hid (rulesGo step 0 errs f s = if (step j f s').1 then (some r.err, (step j f s').2) else rulesGo step (j + 1) (errs.drop (j + 1)) f (step j f s').2) := by show _ = _; rw [HJ.out, rules_step He.out]
          have hgi := hFwi.keep hg hgc (by decide)
          obtain ⟨ra, rb⟩ := ru_at Hr.out
          have g0 := cell_of_blk hgi _ _ ra
          have g1 := cell_of_blk hgi _ _ rb
          have hji : (j : Int) < (m : Int) := by omega
          obtain ⟨W2, HW2⟩ : ∃ W2, Hid (W2 = wi.alloc (.cells #[.int .i64 r.err, .func (.func r.fn) #[] r.cap] 102)) := ⟨_, rfl⟩
          have hb2 : Below wi.heap.size wi W2 := by rw [HW2.out]; exact (Below.refl _ _).alloc (Nat.le_refl _) _
          have hQ2 : W2.heap[wi.heap.size]? = some (.cells #[.int .i64 r.err, .func (.func r.fn) #[] r.cap] 102 (0, 0)) := by rw [HW2.out]; exact heap_alloc_new _ _
          have hF2 : Fr B cs wi W2 := Fr.of_below hb2
          have hQc : wi.heap.size ∉ cs := fun e => by have := hcsB _ e; omega
          have hXi := (hFi.trans hF2).keep hX1 hXc (by decide)
          have hc := hcall k j r f s' W2 Hf.out Hr.out (by have := hb2.size; omega) (hFwi.trans hF2) (hIb _ _ _ _ _ (by omega) hIi hb2)
          rw [HW2.out] at hc hXi
          obtain ⟨x0, x1, x2, x3, x4, x5⟩ := blk6 hXi
          unfold fv at hc
          have hen := hent r (List.mem_of_getElem? Hr.out)
          have hbk := (hb2.block w.heap.size (by omega)).trans ((hFi.keep ((hb1.block w.heap.size (by omega)).trans hRo) hRc (by decide)))
          rw [HW2.out] at hbk hQ2
          have hFq : Fr B cs W0 (wi.alloc (.cells #[.int .i64 r.err, .func (.func r.fn) #[] r.cap] 102)) := by rw [← HW2.out]; exact hFr.trans (hF1.trans (hFi.trans hF2))
          have hFp : Fr B cs W1 (wi.alloc (.cells #[.int .i64 r.err, .func (.func r.fn) #[] r.cap] 102)) := by rw [← HW2.out]; exact hFi.trans hF2
          obtain ⟨q, Hq⟩ : ∃ q, Hid (q = (step j f s').1) := ⟨_, rfl⟩
          rw [← Hq.out] at hc
          clear ra rb hcall hl hIb hent hnx
          cases q with
          | true =>
            have HE : Hid (firstGo step errs 0 l s0 = (r.err, k)) := by show _ = _; rw [HK2.out, HJ2.out, ← Hq.out]; rfl
            go_wp2_with fail
            refine hc.mono ?_
            rintro e w3 ⟨rfl, _, hF3⟩
            have hQ3 := hF3.keep hQ2 hQc (by decide)
            have hR3 := hF3.keep hbk hRc (by decide)
            obtain ⟨y0, y1⟩ := blk2 hQ3
            obtain ⟨z0, z1⟩ := blk2 hR3
            have f0 := fr_of_blk hR3 0
            have f1 := fr_of_blk hR3 1
            clear hen
            go_wp2
            refine bodyPost_ret (v := .agg #[.int .i64 r.err, .int .i64 (k : Int)]) (by simp [results, Tryz.results36, go_sem, *]) rfl ?_
            exact ⟨by rw [HE.out], (((hF0.trans hFq).trans hF3).setNew 0 _).setNew 1 _⟩
          | false =>
            have HJ3 : Hid (rulesGo step 0 errs f s = rulesGo step (j + 1) (errs.drop (j + 1)) f (step j f s').2) := by show _ = _; rw [HJ2.out, ← Hq.out]; rfl
            go_wp2_with fail
            refine hc.mono ?_
            rintro e w3 ⟨rfl, hI3, hF3⟩
            clear hen
            go_wp2_with fail
            go_roundg (m - (j + 1))
            case measure => omega
            case rel => exact ⟨j + 1, _, by omega, by go_num, hI3 trivial, hFp.trans hF3, HJ3⟩
        · have HE : Hid (firstGo step errs 0 l s0 = firstGo step errs (k + 1) (l.drop (k + 1)) s') := by
            have e : errs.drop j = [] := List.drop_eq_nil_of_le (by rw [Herr.out, List.length_map, ← Hm.out]; omega)
            show _ = _; rw [HK2.out, HJ.out, e]; rfl
          have hI9 : Inv (k + 1) 0 s' wi := by
            have hjm : j = rs.length := by rw [← Hm.out]; omega
            rw [hjm] at hIi
            exact hnx k s' wi (by rw [← Hn.out]; exact hlt) hIi
          clear hcall hl hIb hent hnx
          go_wp2_with fail
          go_roundg (n - (k + 1))
          case measure => omega
          case rel => exact ⟨k + 1, s', by omega, by go_num, hI9, hFr.trans (hF1.trans hFi), HE⟩
    · have HE : Hid (firstGo step errs 0 l s0 = (0, 0)) := by
        have e : l.drop k = [] := List.drop_eq_nil_of_le (by rw [← Hn.out]; omega)
        show _ = _; rw [HK.out, e]; rfl
      obtain ⟨z0, z1⟩ := blk2 hRo
      have f0 := fr_of_blk hRo 0
      have f1 := fr_of_blk hRo 1
      clear hcall hl hIb hent hnx
      go_wp2
      refine bodyPost_ret (v := .agg #[.int .i64 0, .int .i64 0]) (by simp [results, Tryz.results36, go_sem, *]) rfl ?_
      exact ⟨by rw [HE.out]; rfl, (hFw.setNew 0 _).setNew 1 _⟩

def iv (i : II) : Value := .agg #[.string (S i.name), .int .i64 i.value]
set_option maxHeartbeats 2000000 in
set_option maxRecDepth 100000 in
theorem brokenI_any {σ : Type} {B B0 : Nat} {cs : List Nat} {w : World} {vl : Value} {l : List II} {rs : List Ru} {g : Nat} (step : Nat → II → σ → Bool × σ) (Inv : Nat → Nat → σ → World → Prop) (s0 : σ)
    (hl : ∀ W, Below B0 w W → RdL 2 TAt W vl l) (hg : w.heap[g]? = some (.cells (ruCells rs) 108 (0, 0))) (hgc : g ∉ cs) (hB0 : B0 ≤ B) (hBw : B ≤ w.heap.size) (hcs : ∀ c ∈ cs, B0 ≤ c) (hcsB : ∀ c ∈ cs, c < B) (hrs : rs.length ≤ 100)
    (hent : ∀ r ∈ rs, ∀ (args : Array Value) (w : World), (callFunc r.fn args).run Tryz.prog w = .ok (.enter r.fn args) w) (hI : Inv 0 0 s0 w) (hIb : ∀ k j s W W', B ≤ W.heap.size → Inv k j s W → Below W.heap.size W W' → Inv k j s W') (hnx : ∀ k s W, k < l.length → Inv k rs.length s W → Inv (k + 1) 0 s W)
    (hcall : ∀ k j r f s W, l[k]? = some f → rs[j]? = some r → B ≤ W.heap.size → Fr B cs w W → Inv k j s W → Calls Tryz.prog r.fn (#[iv f] ++ r.cap) W fun e W' => e = .returned (.bool (step j f s).1) ∧ ((step j f s).1 = false → Inv k (j + 1) (step j f s).2 W') ∧ Fr B cs W W') :
    Calls Tryz.prog 38 #[vl, .slice (some ⟨g, 0, none⟩) rs.length rs.length] w fun e w' => e = .returned (.agg #[.int .i64 (firstGo step (rs.map Ru.err) 0 l s0).1, .int .i64 (((firstGo step (rs.map Ru.err) 0 l s0).2 : Nat) : Int)]) ∧ Fr B cs w w' := by
  obtain ⟨ao, n, cap, rfl, Hn, hcap⟩ := (hl w (Below.refl _ _)).shape
  obtain ⟨m, Hm⟩ : ∃ m, Hid (m = rs.length) := ⟨_, rfl⟩
  have hm : m ≤ 100 := by rw [Hm.out]; exact hrs
  rw [← Hm.out]
  obtain ⟨errs, Herr⟩ : ∃ errs, Hid (errs = rs.map Ru.err) := ⟨_, rfl⟩
  rw [← Herr.out]
  obtain ⟨W0, HW0⟩ : ∃ W0, Hid (W0 = w.alloc (.cells #[.int .i64 0, .int .i64 0] 29)) := ⟨_, rfl⟩
  have hb0 : Below w.heap.size w W0 := by rw [HW0.out]; exact (Below.refl _ _).alloc (Nat.le_refl _) _
  have hR0 : W0.heap[w.heap.size]? = some (.cells #[.int .i64 0, .int .i64 0] 29 (0, 0)) := by rw [HW0.out]; exact heap_alloc_new _ _
  have hz0 : w.heap.size + 1 ≤ W0.heap.size := by rw [HW0.out]; simp
  have hRc : w.heap.size ∉ cs := fun e => by have := hcsB _ e; omega
  have hF0 : Fr B cs w W0 := Fr.of_below hb0
  go_enter Tryz.func38, Tryz.ntmps38
  go_wp2_with fail
  rw [← HW0.out]
  go_loopg [11] n (fun gm i wr => ∃ (k : Nat) (s : σ), k + gm = n ∧ i = .int .i64 k ∧ Inv k 0 s wr ∧ Fr B cs W0 wr ∧ Hid (firstGo step errs 0 l s0 = firstGo step errs k (l.drop k) s))
  case atStart => exact ⟨0, s0, by omega, rfl, hIb _ _ _ _ _ hBw hI hb0, Fr.refl _ _ _, rfl⟩
  case round =>
    obtain ⟨k, s, hk, rfl, hIs, hFr, HK⟩ := hrel
    obtain ⟨wo, Hwo⟩ : ∃ wo, wo = wr := ⟨_, rfl⟩
    subst Hwo
    have hFw := hF0.trans hFr
    have hRo := hFr.keep hR0 hRc (by decide)
    have hzo : w.heap.size + 1 ≤ wo.heap.size := Nat.le_trans hz0 hFr.size
    by_cases hlt : k < n
    · obtain ⟨f, Hf⟩ : ∃ f, Hid (l[k]? = some f) := ⟨l[k]'(by rw [← Hn.out]; exact hlt), List.getElem?_eq_getElem (by rw [← Hn.out]; exact hlt)⟩
      have HK2 : Hid (firstGo step errs 0 l s0 = match rulesGo step 0 errs f s with | (some e, _) => (e, k) | (none, s') => firstGo step errs (k + 1) (l.drop (k + 1)) s') := by show _ = _; rw [HK.out, first_step Hf.out]
      obtain ⟨b, off, rfl, hat⟩ := (hl wo (hFw.below hB0 (by omega) hcs)).get TAt.plain Hf.out
      obtain ⟨t0, t1⟩ := hat.at
      have hki : (k : Int) < (n : Int) := by omega
      obtain ⟨W1, HW1⟩ : ∃ W1, Hid (W1 = wo.alloc (.cells #[.string (S f.name), .int .i64 f.value] 52)) := ⟨_, rfl⟩
      have hb1 : Below wo.heap.size wo W1 := by rw [HW1.out]; exact (Below.refl _ _).alloc (Nat.le_refl _) _
      have hX1 : W1.heap[wo.heap.size]? = some (.cells #[.string (S f.name), .int .i64 f.value] 52 (0, 0)) := by rw [HW1.out]; exact heap_alloc_new _ _
      have hz1 : wo.heap.size + 1 ≤ W1.heap.size := by rw [HW1.out]; simp
      have hF1 : Fr B cs wo W1 := Fr.of_below hb1
      have hXc : wo.heap.size ∉ cs := fun e => by have := hcsB _ e; omega
      have hI1 := hIb _ _ _ _ _ (by omega) hIs hb1
      clear hat
      go_wp2_with fail
      rw [← HW1.out]
      go_loopg [18] m (fun gm i wi => ∃ (j : Nat) (s' : σ), j + gm = m ∧ i = .int .i64 j ∧ Inv k j s' wi ∧ Fr B cs W1 wi ∧ Hid (rulesGo step 0 errs f s = rulesGo step j (errs.drop j) f s'))
      case atStart => exact ⟨0, s, by omega, rfl, hI1, Fr.refl _ _ _, rfl⟩
      case round =>
        clear t0 t1
        obtain ⟨j, s', hj, rfl, hIi, hFi, HJ⟩ := hrel
        obtain ⟨wi, Hwi⟩ : ∃ wi, wi = wr := ⟨_, rfl⟩
        subst Hwi
        have hFwi := hFw.trans (hF1.trans hFi)
        have hzi : wo.heap.size + 1 ≤ wi.heap.size := Nat.le_trans hz1 hFi.size
        by_cases hjl : j < m
        · obtain ⟨r, Hr⟩ : ∃ r, Hid (rs[j]? = some r) := ⟨rs[j]'(by rw [← Hm.out]; exact hjl), List.getElem?_eq_getElem (by rw [← Hm.out]; exact hjl)⟩
          have He : Hid (errs[j]? = some r.err) := by show _ = _; rw [Herr.out, List.getElem?_map, Hr.out]; rfl
          have HJ2 : Hid (rulesGo step 0 errs f s = if (step j f s').1 then (some r.err, (step j f s').2) else rulesGo step (j + 1) (errs.drop (j + 1)) f (step j f s').2) := by show _ = _; rw [HJ.out, rules_step He.out]
          have hgi := hFwi.keep hg hgc (by decide)
          obtain ⟨ra, rb⟩ := ru_at Hr.out
          have g0 := cell_of_blk hgi _ _ ra
          have g1 := cell_of_blk hgi _ _ rb
          have hji : (j : Int) < (m : Int) := by omega
          obtain ⟨W2, HW2⟩ : ∃ W2, Hid (W2 = wi.alloc (.cells #[.int .i64 r.err, .func (.func r.fn) #[] r.cap] 108)) := ⟨_, rfl⟩
          have hb2 : Below wi.heap.size wi W2 := by rw [HW2.out]; exact (Below.refl _ _).alloc (Nat.le_refl _) _
          have hQ2 : W2.heap[wi.heap.size]? = some (.cells #[.int .i64 r.err, .func (.func r.fn) #[] r.cap] 108 (0, 0)) := by rw [HW2.out]; exact heap_alloc_new _ _
          have hF2 : Fr B cs wi W2 := Fr.of_below hb2
          have hQc : wi.heap.size ∉ cs := fun e => by have := hcsB _ e; omega
          have hXi := (hFi.trans hF2).keep hX1 hXc (by decide)
          have hc := hcall k j r f s' W2 Hf.out Hr.out (by have := hb2.size; omega) (hFwi.trans hF2) (hIb _ _ _ _ _ (by omega) hIi hb2)
          rw [HW2.out] at hc hXi
          obtain ⟨x0, x1⟩ := blk2 hXi
          unfold iv at hc
          have hen := hent r (List.mem_of_getElem? Hr.out)
          have hbk := (hb2.block w.heap.size (by omega)).trans ((hFi.keep ((hb1.block w.heap.size (by omega)).trans hRo) hRc (by decide)))
          rw [HW2.out] at hbk hQ2
          have hFq : Fr B cs W0 (wi.alloc (.cells #[.int .i64 r.err, .func (.func r.fn) #[] r.cap] 108)) := by rw [← HW2.out]; exact hFr.trans (hF1.trans (hFi.trans hF2))
          have hFp : Fr B cs W1 (wi.alloc (.cells #[.int .i64 r.err, .func (.func r.fn) #[] r.cap] 108)) := by rw [← HW2.out]; exact hFi.trans hF2
          obtain ⟨q, Hq⟩ : ∃ q, Hid (q = (step j f s').1) := ⟨_, rfl⟩
          rw [← Hq.out] at hc
          clear ra rb hcall hl hIb hent hnx
          cases q with
          | true =>
            have HE : Hid (firstGo step errs 0 l s0 = (r.err, k)) := by show _ = _; rw [HK2.out, HJ2.out, ← Hq.out]; rfl
            go_wp2_with fail
            refine hc.mono ?_
            rintro e w3 ⟨rfl, _, hF3⟩
            have hQ3 := hF3.keep hQ2 hQc (by decide)
            have hR3 := hF3.keep hbk hRc (by decide)
            obtain ⟨y0, y1⟩ := blk2 hQ3
            obtain ⟨z0, z1⟩ := blk2 hR3
            have f0 := fr_of_blk hR3 0
            have f1 := fr_of_blk hR3 1
            clear hen
            go_wp2
            refine bodyPost_ret (v := .agg #[.int .i64 r.err, .int .i64 (k : Int)]) (by simp [results, Tryz.results38, go_sem, *]) rfl ?_
            exact ⟨by rw [HE.out], (((hF0.trans hFq).trans hF3).setNew 0 _).setNew 1 _⟩
          | false =>
            have HJ3 : Hid (rulesGo step 0 errs f s = rulesGo step (j + 1) (errs.drop (j + 1)) f (step j f s').2) := by show _ = _; rw [HJ2.out, ← Hq.out]; rfl
            go_wp2_with fail
            refine hc.mono ?_
            rintro e w3 ⟨rfl, hI3, hF3⟩
            clear hen
            go_wp2_with fail
            go_roundg (m - (j + 1))
            case measure => omega
            case rel => exact ⟨j + 1, _, by omega, by go_num, hI3 trivial, hFp.trans hF3, HJ3⟩
        · have HE : Hid (firstGo step errs 0 l s0 = firstGo step errs (k + 1) (l.drop (k + 1)) s') := by
            have e : errs.drop j = [] := List.drop_eq_nil_of_le (by rw [Herr.out, List.length_map, ← Hm.out]; omega)
            show _ = _; rw [HK2.out, HJ.out, e]; rfl
          have hI9 : Inv (k + 1) 0 s' wi := by
            have hjm : j = rs.length := by rw [← Hm.out]; omega
            rw [hjm] at hIi
            exact hnx k s' wi (by rw [← Hn.out]; exact hlt) hIi
          clear hcall hl hIb hent hnx
          go_wp2_with fail
          go_roundg (n - (k + 1))
          case measure => omega
          case rel => exact ⟨k + 1, s', by omega, by go_num, hI9, hFr.trans (hF1.trans hFi), HE⟩
    · have HE : Hid (firstGo step errs 0 l s0 = (0, 0)) := by
        have e : l.drop k = [] := List.drop_eq_nil_of_le (by rw [← Hn.out]; omega)
        show _ = _; rw [HK.out, e]; rfl
      obtain ⟨z0, z1⟩ := blk2 hRo
      have f0 := fr_of_blk hRo 0
      have f1 := fr_of_blk hRo 1
      clear hcall hl hIb hent hnx
      go_wp2
      refine bodyPost_ret (v := .agg #[.int .i64 0, .int .i64 0]) (by simp [results, Tryz.results38, go_sem, *]) rfl ?_
      exact ⟨by rw [HE.out]; rfl, (hFw.setNew 0 _).setNew 1 _⟩

set_option maxHeartbeats 2000000 in
set_option maxRecDepth 100000 in
theorem brokenS_any {σ : Type} {B B0 : Nat} {cs : List Nat} {w : World} {vl : Value} {l : List (List UInt8)} {rs : List Ru} {g : Nat} (step : Nat → List UInt8 → σ → Bool × σ) (Inv : Nat → Nat → σ → World → Prop) (s0 : σ)
    (hl : ∀ W, Below B0 w W → RdL 1 SAt W vl l) (hg : w.heap[g]? = some (.cells (ruCells rs) 75 (0, 0))) (hgc : g ∉ cs) (hB0 : B0 ≤ B) (hBw : B ≤ w.heap.size) (hcs : ∀ c ∈ cs, B0 ≤ c) (hcsB : ∀ c ∈ cs, c < B) (hrs : rs.length ≤ 100)
    (hent : ∀ r ∈ rs, ∀ (args : Array Value) (w : World), (callFunc r.fn args).run Tryz.prog w = .ok (.enter r.fn args) w) (hI : Inv 0 0 s0 w) (hIb : ∀ k j s W W', B ≤ W.heap.size → Inv k j s W → Below W.heap.size W W' → Inv k j s W') (hnx : ∀ k s W, k < l.length → Inv k rs.length s W → Inv (k + 1) 0 s W)
    (hcall : ∀ k j r f s W, l[k]? = some f → rs[j]? = some r → B ≤ W.heap.size → Fr B cs w W → Inv k j s W → Calls Tryz.prog r.fn (#[.string (S f)] ++ r.cap) W fun e W' => e = .returned (.bool (step j f s).1) ∧ ((step j f s).1 = false → Inv k (j + 1) (step j f s).2 W') ∧ Fr B cs W W') :
    Calls Tryz.prog 17 #[vl, .slice (some ⟨g, 0, none⟩) rs.length rs.length] w fun e w' => e = .returned (.agg #[.int .i64 (firstGo step (rs.map Ru.err) 0 l s0).1, .int .i64 (((firstGo step (rs.map Ru.err) 0 l s0).2 : Nat) : Int)]) ∧ Fr B cs w w' := by
  obtain ⟨ao, n, cap, rfl, Hn, hcap⟩ := (hl w (Below.refl _ _)).shape
  obtain ⟨m, Hm⟩ : ∃ m, Hid (m = rs.length) := ⟨_, rfl⟩
  have hm : m ≤ 100 := by rw [Hm.out]; exact hrs
  rw [← Hm.out]
  obtain ⟨errs, Herr⟩ : ∃ errs, Hid (errs = rs.map Ru.err) := ⟨_, rfl⟩
  rw [← Herr.out]
  obtain ⟨W0, HW0⟩ : ∃ W0, Hid (W0 = w.alloc (.cells #[.int .i64 0, .int .i64 0] 29)) := ⟨_, rfl⟩
  have hb0 : Below w.heap.size w W0 := by rw [HW0.out]; exact (Below.refl _ _).alloc (Nat.le_refl _) _
  have hR0 : W0.heap[w.heap.size]? = some (.cells #[.int .i64 0, .int .i64 0] 29 (0, 0)) := by rw [HW0.out]; exact heap_alloc_new _ _
  have hz0 : w.heap.size + 1 ≤ W0.heap.size := by rw [HW0.out]; simp
  have hRc : w.heap.size ∉ cs := fun e => by have := hcsB _ e; omega
  have hF0 : Fr B cs w W0 := Fr.of_below hb0
  go_enter Tryz.func17, Tryz.ntmps17
  go_wp2_with fail
  rw [← HW0.out]
  go_loopg [11] n (fun gm i wr => ∃ (k : Nat) (s : σ), k + gm = n ∧ i = .int .i64 k ∧ Inv k 0 s wr ∧ Fr B cs W0 wr ∧ Hid (firstGo step errs 0 l s0 = firstGo step errs k (l.drop k) s))
  case atStart => exact ⟨0, s0, by omega, rfl, hIb _ _ _ _ _ hBw hI hb0, Fr.refl _ _ _, rfl⟩
  case round =>
    obtain ⟨k, s, hk, rfl, hIs, hFr, HK⟩ := hrel
    obtain ⟨wo, Hwo⟩ : ∃ wo, wo = wr := ⟨_, rfl⟩
    subst Hwo
    have hFw := hF0.trans hFr
    have hRo := hFr.keep hR0 hRc (by decide)
    have hzo : w.heap.size + 1 ≤ wo.heap.size := Nat.le_trans hz0 hFr.size
    by_cases hlt : k < n
    · obtain ⟨f, Hf⟩ : ∃ f, Hid (l[k]? = some f) := ⟨l[k]'(by rw [← Hn.out]; exact hlt), List.getElem?_eq_getElem (by rw [← Hn.out]; exact hlt)⟩
      have HK2 : Hid (firstGo step errs 0 l s0 = match rulesGo step 0 errs f s with | (some e, _) => (e, k) | (none, s') => firstGo step errs (k + 1) (l.drop (k + 1)) s') := by show _ = _; rw [HK.out, first_step Hf.out]
      obtain ⟨b, off, rfl, hat⟩ := (hl wo (hFw.below hB0 (by omega) hcs)).get SAt.plain Hf.out
      have hat : wo.cell? ⟨b, off + k * 1, none⟩ = some (.string (S f)) := hat
      rw [Nat.mul_one] at hat
      have hki : (k : Int) < (n : Int) := by omega
      go_wp2_with fail
      go_loopg [18] m (fun gm i wi => ∃ (j : Nat) (s' : σ), j + gm = m ∧ i = .int .i64 j ∧ Inv k j s' wi ∧ Fr B cs wo wi ∧ Hid (rulesGo step 0 errs f s = rulesGo step j (errs.drop j) f s'))
      case atStart => exact ⟨0, s, by omega, rfl, hIs, Fr.refl _ _ _, rfl⟩
      case round =>
        clear hat
        obtain ⟨j, s', hj, rfl, hIi, hFi, HJ⟩ := hrel
        obtain ⟨wi, Hwi⟩ : ∃ wi, wi = wr := ⟨_, rfl⟩
        subst Hwi
        have hFwi := hFw.trans hFi
        have hzi : wo.heap.size ≤ wi.heap.size := hFi.size
        by_cases hjl : j < m
        · obtain ⟨r, Hr⟩ : ∃ r, Hid (rs[j]? = some r) := ⟨rs[j]'(by rw [← Hm.out]; exact hjl), List.getElem?_eq_getElem (by rw [← Hm.out]; exact hjl)⟩
          have He : Hid (errs[j]? = some r.err) := by show _ = _; rw [Herr.out, List.getElem?_map, Hr.out]; rfl
          have HJ2 : Hid (rulesGo step 0 errs f s = if (step j f s').1 then (some r.err, (step j f s').2) else rulesGo step (j + 1) (errs.drop (j + 1)) f (step j f s').2) := by show _ = _; rw [HJ.out, rules_step He.out]
          have hgi := hFwi.keep hg hgc (by decide)
          obtain ⟨ra, rb⟩ := ru_at Hr.out
          have g0 := cell_of_blk hgi _ _ ra
          have g1 := cell_of_blk hgi _ _ rb
          have hji : (j : Int) < (m : Int) := by omega
          obtain ⟨W2, HW2⟩ : ∃ W2, Hid (W2 = wi.alloc (.cells #[.int .i64 r.err, .func (.func r.fn) #[] r.cap] 75)) := ⟨_, rfl⟩
          have hb2 : Below wi.heap.size wi W2 := by rw [HW2.out]; exact (Below.refl _ _).alloc (Nat.le_refl _) _
          have hQ2 : W2.heap[wi.heap.size]? = some (.cells #[.int .i64 r.err, .func (.func r.fn) #[] r.cap] 75 (0, 0)) := by rw [HW2.out]; exact heap_alloc_new _ _
          have hF2 : Fr B cs wi W2 := Fr.of_below hb2
          have hQc : wi.heap.size ∉ cs := fun e => by have := hcsB _ e; omega
          have hc := hcall k j r f s' W2 Hf.out Hr.out (by have := hb2.size; omega) (hFwi.trans hF2) (hIb _ _ _ _ _ (by omega) hIi hb2)
          rw [HW2.out] at hc
          have hen := hent r (List.mem_of_getElem? Hr.out)
          have hbk := (hb2.block w.heap.size (by omega)).trans ((hFi.keep hRo hRc (by decide)))
          rw [HW2.out] at hbk hQ2
          have hFq : Fr B cs W0 (wi.alloc (.cells #[.int .i64 r.err, .func (.func r.fn) #[] r.cap] 75)) := by rw [← HW2.out]; exact hFr.trans (hFi.trans hF2)
          have hFp : Fr B cs wo (wi.alloc (.cells #[.int .i64 r.err, .func (.func r.fn) #[] r.cap] 75)) := by rw [← HW2.out]; exact hFi.trans hF2
          obtain ⟨q, Hq⟩ : ∃ q, Hid (q = (step j f s').1) := ⟨_, rfl⟩
          rw [← Hq.out] at hc
          clear ra rb hcall hl hIb hent hnx
          cases q with
          | true =>
            have HE : Hid (firstGo step errs 0 l s0 = (r.err, k)) := by show _ = _; rw [HK2.out, HJ2.out, ← Hq.out]; rfl
            go_wp2_with fail
            refine hc.mono ?_
            rintro e w3 ⟨rfl, _, hF3⟩
            have hQ3 := hF3.keep hQ2 hQc (by decide)
            have hR3 := hF3.keep hbk hRc (by decide)
            obtain ⟨y0, y1⟩ := blk2 hQ3
            obtain ⟨z0, z1⟩ := blk2 hR3
            have f0 := fr_of_blk hR3 0
            have f1 := fr_of_blk hR3 1
            clear hen
            go_wp2
            refine bodyPost_ret (v := .agg #[.int .i64 r.err, .int .i64 (k : Int)]) (by simp [results, Tryz.results17, go_sem, *]) rfl ?_
            exact ⟨by rw [HE.out], (((hF0.trans hFq).trans hF3).setNew 0 _).setNew 1 _⟩
          | false =>
            have HJ3 : Hid (rulesGo step 0 errs f s = rulesGo step (j + 1) (errs.drop (j + 1)) f (step j f s').2) := by show _ = _; rw [HJ2.out, ← Hq.out]; rfl
            go_wp2_with fail
            refine hc.mono ?_
            rintro e w3 ⟨rfl, hI3, hF3⟩
            clear hen
            go_wp2_with fail
            go_roundg (m - (j + 1))
            case measure => omega
            case rel => exact ⟨j + 1, _, by omega, by go_num, hI3 trivial, hFp.trans hF3, HJ3⟩
        · have HE : Hid (firstGo step errs 0 l s0 = firstGo step errs (k + 1) (l.drop (k + 1)) s') := by
            have e : errs.drop j = [] := List.drop_eq_nil_of_le (by rw [Herr.out, List.length_map, ← Hm.out]; omega)
            show _ = _; rw [HK2.out, HJ.out, e]; rfl
          have hI9 : Inv (k + 1) 0 s' wi := by
            have hjm : j = rs.length := by rw [← Hm.out]; omega
            rw [hjm] at hIi
            exact hnx k s' wi (by rw [← Hn.out]; exact hlt) hIi
          clear hcall hl hIb hent hnx
          go_wp2_with fail
          go_roundg (n - (k + 1))
          case measure => omega
          case rel => exact ⟨k + 1, s', by omega, by go_num, hI9, hFr.trans hFi, HE⟩
    · have HE : Hid (firstGo step errs 0 l s0 = (0, 0)) := by
        have e : l.drop k = [] := List.drop_eq_nil_of_le (by rw [← Hn.out]; omega)
        show _ = _; rw [HK.out, e]; rfl
      obtain ⟨z0, z1⟩ := blk2 hRo
      have f0 := fr_of_blk hRo 0
      have f1 := fr_of_blk hRo 1
      clear hcall hl hIb hent hnx
      go_wp2
      refine bodyPost_ret (v := .agg #[.int .i64 0, .int .i64 0]) (by simp [results, Tryz.results17, go_sem, *]) rfl ?_
      exact ⟨by rw [HE.out]; rfl, (hFw.setNew 0 _).setNew 1 _⟩

end L
end Go.Proofs.YtenlijgnmhdopaaGreatDoor
