import Derived.Test.YthgbiflfinddiaaGreatKRunDq
import Derived.Test.YthgbiflfinddiaaGreatMRn
import Derived.Test.YthgbiflfinddiaaGreatLApp
import Derived.Deep.RegionLaw
import Derived.Handy
/- Plain: what a program makes of a body, however much that is; how much that can be; and that to cut off what is too much tells nothing else. -/
namespace Go.Proofs.YthgbiflfinddiaaGreat
namespace L
set_option linter.unusedVariables false

def ranO {β : Type} (deep : TI → β → List UInt8 × Int) (p : List TI) (k : Int) (b : BO β) : List UInt8 × Int :=
  if 12 < k then ([], 10) else if (valsN deep b.vals [] p).2 ≠ 0 then ([], (valsN deep b.vals [] p).2) else if (unkGo [] b.unk).2 ≠ 0 then ([], (unkGo [] b.unk).2)
  else ((valsN deep b.vals [] p).1 ++ (unkGo [] b.unk).1, 0)
def ranN (ps : List (List TI)) : (d : Nat) → Int → Int → BI d → List UInt8 × Int
  | 0, _, _, _ => ([], 0)
  | d + 1, p, k, b => ranO (fun s x => ranN ps d s.next (k + 1) x) (ps.getD p.toNat []) k b

/-- How much a value can be at most. -/
def vW {β : Type} (f : β → Nat) (v : VI β) : Nat := 30 + 30 * v.bits.length + (v.bytes.map fun z => 20 + z.length).sum + (v.subs.map fun s => 20 + f s).sum
def oW {β : Type} (f : β → Nat) (b : BO β) : Nat := (b.vals.map (vW f)).sum + (b.unk.map fun r => 20 + r.bytes.length).sum
def bW : (d : Nat) → BI d → Nat
  | 0 => fun _ => 0
  | d + 1 => fun b => oW (bW d) b

theorem sum_flat {α : Type} {f : α → List UInt8} {g : α → Nat} : ∀ {l : List α}, (∀ a ∈ l, (f a).length ≤ g a) → (l.flatMap f).length ≤ (l.map g).sum
  | [], _ => by simp
  | a :: r, h => by
    rw [List.flatMap_cons, List.length_append, List.map_cons, List.sum_cons]
    have h1 := h a (by simp)
    have h2 := sum_flat (l := r) fun x hx => h x (List.mem_cons_of_mem _ hx)
    omega
theorem sized_sum (num : Int) (ls : List (List UInt8)) : (sizedN num ls).length ≤ (ls.map fun z => 20 + z.length).sum := sum_flat fun b _ => by
  have h1 := ktagN_len num 2
  have h2 := kputN_len b.length
  simp only [List.length_append]
  omega
theorem nest_sum {β : Type} (num : Int) (f : β → List UInt8 × Int) (g : β → Nat) : ∀ (l : List β) (acc : List UInt8), (∀ x ∈ l, (f x).1.length ≤ g x) → (nestGo num f acc l).1.length ≤ acc.length + (l.map fun s => 20 + g s).sum
  | [], acc, _ => by simp [nestGo]
  | b :: r, acc, h => by
    rw [nestGo, List.map_cons, List.sum_cons]
    split
    · simp
    · have h1 := nest_sum num f g r (acc ++ sizedN num [(f b).1]) fun x hx => h x (List.mem_cons_of_mem _ hx)
      rw [List.length_append] at h1
      have h2 := sized1_len num (f b).1
      have h3 := h b (by simp)
      omega
theorem step_sum {β : Type} (deep : TI → β → List UInt8 × Int) (g : β → Nat) (s : TI) (v : VI β) (h : ∀ x ∈ v.subs, (deep s x).1.length ≤ g x) : (stepB deep s v).1.length ≤ vW g v := by
  unfold stepB vW
  split
  · have := single_len s v.bits
    simp only
    omega
  · split
    · have h1 := sized1_len s.number (packedN s.how (v.bits.map (bitK s.field)))
      have h7 := packed_len s.how (v.bits.map (bitK s.field))
      rw [List.length_map] at h7
      simp only
      omega
    · split
      · have := sized_sum s.number v.bytes
        simp only
        omega
      · have := nest_sum s.number (deep s) g v.subs [] h
        simp only [List.length_nil, Nat.zero_add] at this
        omega
/-- What the value that a step finds can be. -/
def fW {β : Type} (g : β → Nat) (x : List (VI β)) (s : TI) : Nat := match x.find? fun v => decide (v.number = s.number) with | none => 0 | some v => vW g v
theorem vals_sum {β : Type} (deep : TI → β → List UInt8 × Int) (g : β → Nat) (x : List (VI β)) : ∀ (p : List TI) (acc : List UInt8), (∀ s ∈ p, ∀ v ∈ x, ∀ y ∈ v.subs, (deep s y).1.length ≤ g y) → (valsN deep x acc p).1.length ≤ acc.length + (p.map (fW g x)).sum
  | [], acc, _ => by simp [valsN]
  | s :: r, acc, h => by
    rw [valsN, List.map_cons, List.sum_cons]
    have hf : fW g x s = match x.find? fun v => decide (v.number = s.number) with | none => 0 | some v => vW g v := rfl
    cases hfd : x.find? (fun v => decide (v.number = s.number)) with
    | none =>
      have := vals_sum deep g x r acc fun s hs => h s (List.mem_cons_of_mem _ hs)
      simp only
      omega
    | some v =>
      rw [hfd] at hf
      simp only at hf ⊢
      split
      · exact Nat.zero_le _
      · have h1 := vals_sum deep g x r (acc ++ (stepB deep s v).1) fun s hs => h s (List.mem_cons_of_mem _ hs)
        have h2 := step_sum deep g s v (h s (by simp) v (List.mem_of_find?_eq_some hfd))
        rw [List.length_append] at h1
        omega
theorem fW_cons {β : Type} (g : β → Nat) (v : VI β) (x : List (VI β)) (s : TI) : fW g (v :: x) s = if v.number = s.number then vW g v else fW g x s := by
  unfold fW
  rw [List.find?_cons]
  by_cases e : v.number = s.number <;> simp [e]
theorem fW_one {β : Type} (g : β → Nat) (v : VI β) (x : List (VI β)) : ∀ p : List TI, (p.map TI.number).Nodup → (p.map (fW g (v :: x))).sum ≤ vW g v + (p.map (fW g x)).sum
  | [], _ => by simp
  | s :: r, h => by
    rw [List.map_cons, List.nodup_cons] at h
    rw [List.map_cons, List.sum_cons, List.map_cons, List.sum_cons, fW_cons]
    split
    · rename_i e
      have : r.map (fW g (v :: x)) = r.map (fW g x) := List.map_congr_left fun t ht => by
        rw [fW_cons, if_neg (fun e' => h.1 (List.mem_map.2 ⟨t, ht, by rw [← e', e]⟩))]
      rw [this]
      omega
    · have := fW_one g v x r h.2
      omega
theorem fW_all {β : Type} (g : β → Nat) (p : List TI) (hp : (p.map TI.number).Nodup) : ∀ x : List (VI β), (p.map (fW g x)).sum ≤ (x.map (vW g)).sum
  | [] => by
    have : p.map (fW g ([] : List (VI β))) = p.map fun _ => 0 := List.map_congr_left fun _ _ => rfl
    rw [this]
    clear hp this
    induction p with
    | nil => simp
    | cons a r ih => simpa using ih
  | v :: x => by
    have h1 := fW_one g v x p hp
    have h2 := fW_all g p hp x
    rw [List.map_cons, List.sum_cons]
    omega
theorem unk_sum : ∀ (l : List RI) (acc : List UInt8), (unkGo acc l).1.length ≤ acc.length + (l.map fun r => 20 + r.bytes.length).sum
  | [], acc => by simp [unkGo]
  | r :: l, acc => by
    rw [unkGo, List.map_cons, List.sum_cons]
    split
    · simp
    · have h1 := unk_sum l (acc ++ recN r.number r.how r.bits r.bytes)
      have h2 := recN_len r.number r.how r.bits r.bytes
      rw [List.length_append] at h1
      omega
/-- Programs in which no number stands twice. -/
def PsNd (ps : List (List TI)) : Prop := ∀ p ∈ ps, (p.map TI.number).Nodup
theorem getD_nd {ps : List (List TI)} (h : PsNd ps) (i : Nat) : ((ps.getD i []).map TI.number).Nodup := by
  rw [List.getD_eq_getElem?_getD]
  cases hi : ps[i]? with
  | none => simp
  | some p => exact h p (List.mem_of_getElem? hi)
theorem ranN_len {ps : List (List TI)} (h : PsNd ps) : ∀ (d : Nat) (p k : Int) (b : BI d), (ranN ps d p k b).1.length ≤ bW d b
  | 0, _, _, _ => by simp [ranN]
  | d + 1, p, k, b => by
    show (ranO (fun s x => ranN ps d s.next (k + 1) x) (ps.getD p.toNat []) k b).1.length ≤ oW (bW d) b
    unfold ranO
    split
    · simp
    · split
      · simp
      · split
        · simp
        · rw [List.length_append]
          have h1 := vals_sum (fun s x => ranN ps d s.next (k + 1) x) (bW d) (BO.vals b) (ps.getD p.toNat []) [] fun s _ v _ y _ => ranN_len h d s.next (k + 1) y
          have h2 := fW_all (bW d) _ (getD_nd h p.toNat) (BO.vals b)
          have h3 := unk_sum (BO.unk b) []
          simp only [List.length_nil, Nat.zero_add] at h1 h3
          show _ ≤ (List.map (vW (bW d)) (BO.vals b)).sum + (List.map (fun r => 20 + r.bytes.length) (BO.unk b)).sum
          omega

/-- The same, but that what is too much may be cut. -/
def Tc (a b : List UInt8 × Int) : Prop := a.2 = b.2 ∧ (a.2 = 0 → a.1 = b.1 ∨ (4000 < a.1.length ∧ 4000 < b.1.length))
def Tl (a b : List UInt8) : Prop := a = b ∨ (4000 < a.length ∧ 4000 < b.length)
theorem Tl.app {a b a' b' : List UInt8} (h : Tl a b) (h' : Tl a' b') : Tl (a ++ a') (b ++ b') := by
  rcases h with rfl | ⟨h1, h2⟩
  · rcases h' with rfl | ⟨h1, h2⟩
    · exact .inl rfl
    · right; simp only [List.length_append]; omega
  · right; simp only [List.length_append]; omega
theorem Tl.sized {a b : List UInt8} (num : Int) (h : Tl a b) : Tl (sizedN num [a]) (sizedN num [b]) := by
  rcases h with rfl | ⟨h1, h2⟩
  · exact .inl rfl
  · right
    simp only [sizedN, List.flatMap_cons, List.flatMap_nil, List.append_nil, List.length_append]
    omega
theorem nest_tc {β : Type} (num : Int) (f g : β → List UInt8 × Int) : ∀ (l : List β) (a b : List UInt8), (∀ x ∈ l, Tc (f x) (g x)) → Tl a b → Tc (nestGo num f a l) (nestGo num g b l)
  | [], a, b, _, h => ⟨rfl, fun _ => h⟩
  | x :: r, a, b, hx, h => by
    obtain ⟨h1, h2⟩ := hx x (by simp)
    rw [nestGo, nestGo, ← h1]
    split
    · exact ⟨rfl, fun _ => .inl rfl⟩
    · rename_i h0
      exact nest_tc num f g r _ _ (fun y hy => hx y (List.mem_cons_of_mem _ hy)) (h.app (Tl.sized num (h2 (by simpa using h0))))
theorem step_tc {β : Type} (f g : TI → β → List UInt8 × Int) (s : TI) (v : VI β) (h : ∀ x ∈ v.subs, Tc (f s x) (g s x)) : Tc (stepB f s v) (stepB g s v) := by
  unfold stepB
  split
  · exact ⟨rfl, fun _ => .inl rfl⟩
  · split
    · exact ⟨rfl, fun _ => .inl rfl⟩
    · split
      · exact ⟨rfl, fun _ => .inl rfl⟩
      · exact nest_tc _ _ _ _ _ _ h (.inl rfl)
theorem vals_tc {β : Type} (f g : TI → β → List UInt8 × Int) (x : List (VI β)) : ∀ (p : List TI) (a b : List UInt8), (∀ s ∈ p, ∀ v ∈ x, ∀ y ∈ v.subs, Tc (f s y) (g s y)) → Tl a b → Tc (valsN f x a p) (valsN g x b p)
  | [], a, b, _, h => ⟨rfl, fun _ => h⟩
  | s :: r, a, b, hx, h => by
    rw [valsN, valsN]
    cases hfd : x.find? (fun v => decide (v.number = s.number)) with
    | none => exact vals_tc f g x r a b (fun s hs => hx s (List.mem_cons_of_mem _ hs)) h
    | some v =>
      obtain ⟨h1, h2⟩ := step_tc f g s v (hx s (by simp) v (List.mem_of_find?_eq_some hfd))
      simp only
      rw [← h1]
      split
      · exact ⟨rfl, fun _ => .inl rfl⟩
      · rename_i h0
        exact vals_tc f g x r _ _ (fun s hs => hx s (List.mem_cons_of_mem _ hs)) (h.app (h2 (by simpa using h0)))
theorem Tl.cut {a b : List UInt8} (h : Tl a b) : Tl (a.take 4001) b := by
  rcases h with rfl | ⟨h1, h2⟩
  · by_cases hl : a.length ≤ 4001
    · left; exact List.take_of_length_le hl
    · right; rw [List.length_take]; omega
  · right; rw [List.length_take]; omega
theorem runO_tc {β : Type} (f g : TI → β → List UInt8 × Int) (p : List TI) (k : Int) (b : BO β) (h : ∀ s ∈ p, ∀ v ∈ b.vals, ∀ y ∈ v.subs, Tc (f s y) (g s y)) : Tc (runO f p k b) (ranO g p k b) := by
  unfold runO ranO
  split
  · exact ⟨rfl, fun _ => .inl rfl⟩
  · obtain ⟨h1, h2⟩ := vals_tc f g b.vals p [] [] h (.inl rfl)
    rw [← h1]
    split
    · exact ⟨rfl, fun _ => .inl rfl⟩
    · rename_i h0
      split
      · exact ⟨rfl, fun _ => .inl rfl⟩
      · exact ⟨rfl, fun _ => Tl.cut (Tl.app (h2 (by simpa using h0)) (.inl rfl))⟩
theorem run_tc (ps : List (List TI)) : ∀ (d : Nat) (p k : Int) (b : BI d), Tc (runN ps d p k b) (ranN ps d p k b)
  | 0, _, _, _ => ⟨rfl, fun _ => .inl rfl⟩
  | d + 1, p, k, b => runO_tc (β := BI d) _ _ _ _ _ fun s _ _ _ y _ => run_tc ps d s.next (k + 1) y
theorem much_tc {a b : List UInt8 × Int} (h : Tc a b) : muchN a = muchN b := by
  obtain ⟨h1, h2⟩ := h
  unfold muchN
  rw [← h1]
  split
  · rfl
  · rename_i h0
    rcases h2 (by simpa using h0) with h | ⟨h3, h4⟩
    · rw [h]
    · rw [if_pos h3, if_pos h4]
/-- Run, as the document tells it. -/
def RanR (ps : List (List TI)) (p : Int) (d : Nat) (b : BO (BI d)) : List UInt8 × Int :=
  if (wrongP ps).1 ≠ 0 then ([], (wrongP ps).1) else if p < 0 ∨ (ps.length : Int) ≤ p then ([], 6) else muchN (ranN ps (d + 1) p 1 b)
theorem ran_run (ps : List (List TI)) (p : Int) (d : Nat) (b : BO (BI d)) : RunN ps p d b = RanR ps p d b := by
  unfold RunN RanR
  rw [much_tc (run_tc ps (d + 1) p 1 b)]

theorem wrongTs_rise {n : Nat} : ∀ (l : List TI) (a : Int), wrongTs n l a = 0 → (l.map TI.number).Pairwise (· < ·) ∧ ∀ s ∈ l, a < s.number
  | [], _, _ => ⟨by simp, fun _ h => by cases h⟩
  | q :: l, a, h => by
    rw [wrongTs] at h
    split at h
    · rename_i h0; exact absurd h h0
    · rename_i h0
      have h0 : wrongT q a n = 0 := by simpa using h0
      obtain ⟨h1, h2⟩ := wrongTs_rise l q.number h
      have ha : a < q.number := by
        unfold wrongT at h0
        split at h0
        · cases h0
        · split at h0
          · cases h0
          · split at h0
            · cases h0
            · omega
      refine ⟨?_, fun s hs => ?_⟩
      · rw [List.map_cons, List.pairwise_cons]
        refine ⟨fun y hy => ?_, h1⟩
        obtain ⟨s, hs, rfl⟩ := List.mem_map.1 hy
        exact h2 s hs
      · rcases List.mem_cons.1 hs with rfl | hs
        · exact ha
        · have := h2 s hs; omega
theorem wrongP_nd {l : List (List TI)} (h : (wrongP l).1 = 0) : PsNd l := by
  unfold wrongP at h
  split at h
  · cases h
  · intro p hp
    have h2 := wrongQs_ok l _ h p hp
    unfold wrongQ at h2
    split at h2
    · cases h2
    · exact (wrongTs_rise p 0 h2).1.imp fun h => by omega
/-- In right programs numbers that are not Sized have a way that has bits. -/
def PsBits (ps : List (List TI)) : Prop := ∀ p ∈ ps, ∀ s ∈ p, (s.kind = 1 ∨ s.kind = 2) → s.how = 0 ∨ s.how = 1 ∨ s.how = 5
theorem wrongT_bits {s : TI} {a : Int} {n : Nat} (h : wrongT s a n = 0) (hk : s.kind = 1 ∨ s.kind = 2) : s.how = 0 ∨ s.how = 1 ∨ s.how = 5 := by
  unfold wrongT at h
  split at h
  · cases h
  · split at h
    · cases h
    · split at h
      · cases h
      · split at h
        · cases h
        · rename_i _ _ _ h4
          simp only [misN, Bool.not_eq_true, Bool.or_eq_false_iff, decide_eq_false_iff_not, ne_eq, Decidable.not_not, bne_eq_false_iff_eq] at h4
          have h5 : ¬ s.how = 2 := fun e => by
            have := h4.2.1
            rw [e] at this
            simp at this
            omega
          have h6 := h4.1
          unfold howN at h6
          split at h6
          · omega
          · split at h6
            · omega
            · split at h6
              · omega
              · omega
theorem wrongP_bits {l : List (List TI)} (h : (wrongP l).1 = 0) : PsBits l := by
  unfold wrongP at h
  split at h
  · cases h
  · intro p hp s hs hk
    have h2 := wrongQs_ok l _ h p hp
    unfold wrongQ at h2
    split at h2
    · cases h2
    · obtain ⟨a, ha⟩ := wrongTs_ok p _ h2 s hs
      exact wrongT_bits ha hk
theorem packed_bits {how : Int} (h : how = 0 ∨ how = 1 ∨ how = 5) (l : List Nat) : packedN how l = l.flatMap (kputB how) := by
  unfold packedN
  rw [if_pos (by rcases h with rfl | rfl | rfl <;> rfl)]

end L
end Go.Proofs.YthgbiflfinddiaaGreat

/- The document's own answer: what Ran's three functions do: tag, num, blob. -/
namespace Go.Proofs.YthgbiflfinddiaaGreat
namespace L
open Go.RowKit Go.WideMaps Go.Maps
set_option linter.unusedVariables false

/-- Where a step lies. -/
def StepAt (w : World) (cs : Nat) (s : TI) : Prop := w.heap[cs]? = some (.cells #[.int .i64 s.kind, .int .i64 s.number, .int .i64 s.how, .int .i64 s.field, .int .i64 s.next] 51 (0, 0))
theorem StepAt.at {w : World} {cs : Nat} {s : TI} (h : StepAt w cs s) : w.cell? ⟨cs, 0, none⟩ = some (.int .i64 s.kind) ∧ w.cell? ⟨cs, 1, none⟩ = some (.int .i64 s.number) ∧ w.cell? ⟨cs, 2, none⟩ = some (.int .i64 s.how) ∧ w.cell? ⟨cs, 3, none⟩ = some (.int .i64 s.field) ∧ w.cell? ⟨cs, 4, none⟩ = some (.int .i64 s.next) := blk5 h
theorem StepAt.lt {w : World} {cs : Nat} {s : TI} (h : StepAt w cs s) : cs < w.heap.size := (Array.getElem?_eq_some_iff.1 h).1
theorem StepAt.below {w w' : World} {cs : Nat} {s : TI} (h : StepAt w cs s) (hb : Below w.heap.size w w') : StepAt w' cs s := (hb.block _ h.lt).trans h
set_option maxHeartbeats 1000000 in
set_option maxRecDepth 100000 in
theorem rtag_any {V : World} {cs : Nat} {s : TI} (h : StepAt V cs s) (how : Int) (h1 : 0 ≤ s.number) (h2 : s.number ≤ 536870912) (h3 : 0 ≤ how) (h4 : how ≤ 7) :
    Calls Tryz.prog 45 #[.int .i64 how, .pointer (some ⟨cs, 0, none⟩)] V fun e w' => ∃ ao m cap, e = .returned (.slice ao m cap) ∧ Row ekY w' V.heap.size (.slice ao m cap) (ktagN s.number how) ∧ Below V.heap.size V w' := by
  obtain ⟨t0, t1, t2, t3, t4⟩ := h.at
  have htg := rnum_any (s.number.toNat * 8 + how.toNat) V (by omega)
  rw [show (((s.number.toNat * 8 + how.toNat : Nat)) : Int) = 8 * s.number + how by omega] at htg
  clear h
  go_enter Tryz.func45, Tryz.ntmps45
  go_wp2_with fail
  refine htg.mono ?_
  rintro e w1 ⟨a, m, c, rfl, hr, hb⟩
  go_wp2
  go_ret
  exact ⟨a, m, c, rfl, hr, hb⟩
set_option maxHeartbeats 1000000 in
set_option maxRecDepth 100000 in
theorem rnumb_any {V : World} {cs : Nat} {s : TI} (h : StepAt V cs s) (n : Nat) (hn : n ≤ 18446744073709551615) (hh : s.how = 0 ∨ s.how = 1 ∨ s.how = 5) :
    Calls Tryz.prog 48 #[.int .u64 (n : Int), .pointer (some ⟨cs, 0, none⟩)] V fun e w' => ∃ ao m cap, e = .returned (.slice ao m cap) ∧ Row ekY w' V.heap.size (.slice ao m cap) (kputB s.how (bitK s.field n)) ∧ Below V.heap.size V w' := by
  obtain ⟨t0, t1, t2, t3, t4⟩ := h.at
  have hto := rtold_any s.field n V hn
  have hle := bitK_le s.field n hn
  obtain ⟨m, Hm⟩ : ∃ m, Hid (bitK s.field n = m) := ⟨_, rfl⟩
  rw [Hm.out] at hto hle ⊢
  by_cases h0 : s.how = 0
  · have b0 : (s.how == 0) = true := by simp [h0]
    have e : kputB s.how m = putN m := by unfold kputB; rw [if_pos h0]
    rw [e]
    have hnu := rnum_any m V hle
    clear h0 e hh
    go_enter Tryz.func48, Tryz.ntmps48
    go_wp2_with fail
    refine hto.mono ?_
    rintro e w1 ⟨rfl, rfl⟩
    go_wp2_with fail
    refine hnu.mono ?_
    rintro e w2 ⟨a, k, c, rfl, hr, hb⟩
    go_wp2
    go_ret
    exact ⟨a, k, c, rfl, hr, hb⟩
  · have b0 : (s.how == 0) = false := by simp [h0]
    have e : kputB s.how m = klow (kwidth s.how) m := by unfold kputB; rw [if_neg h0]
    rw [e]
    have hw8 : kwidth s.how ≤ 8 := by unfold kwidth; split <;> (try split) <;> omega
    have hki : -9223372036854775808 ≤ s.how ∧ s.how ≤ 9223372036854775807 := by omega
    have hkey := key_i64 s.how hki
    have hmm := @run_makeMap Tryz.prog
    have hM0 : RMap (V.alloc (.map #[] 0)) V.heap.size 0 (.map []) := World.ownsMap_made V Tryz.prog 3 (plainElem (H := Unit) Tryz.prog 3)
    have hb0 : Below V.heap.size V (V.alloc (.map #[] 0)) := (Below.refl _ _).alloc (Nat.le_refl _) _
    have hgr : ∀ {A A' : World}, Below V.heap.size V A → A.grownBy A' (some V.heap.size) → Below V.heap.size V A' := fun hV hg => hV.grown hg hV.size (fun j hj => by cases hj; exact Nat.le_refl _)
    have hlo := fun A => rlow_any m (kwidth s.how) A hle hw8
    obtain ⟨Wd, HWd⟩ : ∃ Wd, Hid (kwidth s.how = Wd) := ⟨_, rfl⟩
    rw [HWd.out] at hlo ⊢
    clear h0 e hh hw8 hki h
    go_enter Tryz.func48, Tryz.ntmps48
    go_wp2_with fail
    refine hto.mono ?_
    rintro e w1 ⟨rfl, rfl⟩
    go_wp2_with (first | (refine wpList_entry rfl _ _ _ rfl V.heap.size 0 _ rfl hM0 (by omega) 1 8 (by omega) (by omega) rfl rfl ?_; intro w1 h1 g1) | (refine wpList_entry rfl _ _ _ rfl V.heap.size 1 _ rfl h1 (by omega) 5 4 (by omega) (by omega) rfl rfl ?_; intro w2 h2 g2; have hb2 : Below V.heap.size V w2 := hgr (hgr hb0 g1) g2; have u2 := cell_below hb2 t2) | (at_lookup; refine wpList_lookup_own_int _ rfl _ _ 90 rfl 3 3 .i64 rkeyed Tryz.underlying90 Tryz.underlying3 (rzero _) V.heap.size 2 widD rfl h2 _ _ rfl hkey ?_; intro c hat hwc))
    have hc : c = (Wd : Int) := by rw [← HWd.out]; exact lit_inj (hat.symm.trans (widD_at s.how))
    rw [hc]
    refine (hlo w2).mono ?_
    rintro e w3 ⟨a, k, c, rfl, hr, hb⟩
    have hB := KBT hb2 hb
    have hr' := hr.mono hb2.size
    clear h1 h2 g1 g2 hM0 hat hr
    go_wp2
    go_ret
    exact ⟨a, k, c, rfl, hr', hB⟩

end L
end Go.Proofs.YthgbiflfinddiaaGreat

/- Appends onto a list of the call's own: which block the answer lies in. -/
namespace Go.Proofs.YthgbiflfinddiaaGreat
namespace L
open Go.RowKit

section
variable {α : Type} {w : World}
theorem run_appB (E : EK α) (ty : TypeId) (base : Nat) (v : Value) (l m : List α) (hown : Row E w base v l) (ao : Option Addr) (n cap : Nat) (hm : m.length = n) (hnil : ao = none → n = 0 ∧ cap = 0)
    (hcell : ∀ ad, ao = some ad → ∀ k y, m[k]? = some y → ∀ j u, (E.enc y)[j]? = some u → w.cell? (ad.add (k * E.size + j)) = some u)
    (hby : 1 ≤ E.bytes) (hlen : (l.length + m.length) * E.bytes ≤ 140737488355328) (hb : base ≤ w.heap.size) :
    ∃ v' w', (Builtin.append_ #[E.slice, E.slice] ty #[v, .slice ao n cap]).run Tryz.prog w = .ok v' w' ∧ Row E w' base v' (l ++ m) ∧ w.grownBy w' v.ownBlock ∧ ∀ k, v'.ownBlock = some k → v.ownBlock = some k ∨ w.heap.size ≤ k := by
  obtain ⟨i0, hi, hz0, hz1, hz2⟩ := info_parts E.info
  have h63 : l.length + m.length ≤ maxLen := by
    have : l.length + m.length ≤ (l.length + m.length) * E.bytes := Nat.le_mul_of_pos_right _ hby
    unfold maxLen; omega
  cases ao with
  | none =>
    obtain ⟨rfl, rfl⟩ := hnil rfl
    have hqs : m = [] := List.eq_nil_of_length_eq_zero hm
    subst hqs
    have hrun := run_append_owned_none (P := Tryz.prog) (w := w) base E.slice ty E.elem i0 E.size E.under hi v l.length (E.flat l) hown
    exact ⟨v, w, hrun, by rw [List.append_nil]; exact hown, ⟨rfl, rfl, rfl, Nat.le_refl _, fun _ _ _ => rfl⟩, fun k hk => .inl hk⟩
  | some ad =>
    have hl : (E.flat m).length = n * E.size := by rw [E.flat_len, hm]
    have hnews : ∀ j u, (E.flat m)[j]? = some u → w.cell? (ad.add j) = some u := by
      intro j u hu
      obtain ⟨y, h1, h2⟩ := E.flat_get hu
      have := hcell ad rfl _ y h1 _ u h2
      rwa [Nat.mul_comm, Nat.div_add_mod] at this
    have h1c : ∀ u ∈ E.flat m, u.oneCell' = true := by
      intro y hy
      simp only [EK.flat, List.mem_flatMap] at hy
      obtain ⟨p, hp, hy⟩ := hy
      exact E.one p y hy
    obtain ⟨v', w', hr, h1, h2, h3⟩ := run_append_own (P := Tryz.prog) w base E.slice ty E.elem i0 _ E.size E.bytes E.under hi hz0 hz1 hz2 E.zs E.pos v l.length (E.flat l) hown ad n cap (E.flat m) hl hnews h1c (by rw [← hm]; exact h63) (by rw [← hm]; exact hlen) hb
    refine ⟨v', w', hr, ?_, h2, ?_⟩
    · show w'.ownsRow base E.elem E.size v' (l ++ m).length (E.flat (l ++ m))
      rw [List.length_append, E.flat_append, hm]
      exact h1
    · rcases hown.2 with ⟨hv, hn⟩ | ⟨g, cap', cur, hv, hbg, hg, hnc, hcm, hcs, htake⟩
      · subst hv
        have hl0 : l = [] := List.eq_nil_of_length_eq_zero hn
        subst hl0
        obtain ⟨v2, w2, hr2, h12, _, _⟩ := run_append_own (P := Tryz.prog) w w.heap.size E.slice ty E.elem i0 _ E.size E.bytes E.under hi hz0 hz1 hz2 E.zs E.pos (.slice none 0 0) 0 [] (World.ownsRow_nil _ _ _ _) ad n cap (E.flat m) hl hnews h1c (by rw [← hm]; simpa using h63) (by rw [← hm]; simpa using hlen) (Nat.le_refl _)
        rw [hr2] at hr
        cases hr
        exact fun k hk => .inr (World.ownsRow.lt h12 k hk).1
      · subst hv
        by_cases hroom : l.length + n ≤ cap'
        · have hfit : l.length * i0.size + (E.flat m).length ≤ cur.size := by rw [hl, hcs, hz1, ← Nat.add_mul]; exact Nat.mul_le_mul_right _ hroom
          have hr2 := run_append_room (P := Tryz.prog) w E.slice ty E.elem i0 E.under hi g l.length cap' cur hg ad n cap (E.flat m) (by rw [hl, hz1]) hnews h1c hroom hfit
          rw [hr2] at hr
          cases hr
          exact fun k hk => .inl hk
        · have holds := World.ownsRow.cells hown (g := g) rfl
          have hr2 := run_append_grow (P := Tryz.prog) w E.slice ty E.elem i0 _ E.under hi hz0 ⟨g, 0, none⟩ l.length cap' (E.flat l) (by rw [hz1]; exact hown.1) holds ad n cap (E.flat m) (by rw [hl, hz1]) hnews (by omega) (by unfold maxLen at h63; omega) (growslice_fits (by omega) (by rw [hz2, ← hm]; exact hlen))
          rw [hr2] at hr
          cases hr
          intro k hk
          simp only [Value.ownBlock, Option.some.injEq] at hk
          exact .inr (by omega)
theorem wp_appB {o : Oper} {a : Act} {K : Act → World → Prop} {Q : Exit → Act → World → Prop} (E : EK α) (s x : Operand)
    (ho : o.op = .call { callee := .builtin .append, args := #[s, x], argTypes := #[E.slice, E.slice] })
    (base : Nat) (v : Value) (l m : List α) (hs : a.eval s = v) (hown : Row E w base v l) (ao : Option Addr) (n cap : Nat) (hx : a.eval x = .slice ao n cap) (hm : m.length = n) (hnil : ao = none → n = 0 ∧ cap = 0)
    (hcell : ∀ ad, ao = some ad → ∀ k y, m[k]? = some y → ∀ j u, (E.enc y)[j]? = some u → w.cell? (ad.add (k * E.size + j)) = some u)
    (hby : 1 ≤ E.bytes) (hlen : (l.length + m.length) * E.bytes ≤ 140737488355328) (hb : base ≤ w.heap.size)
    (h : ∀ v' w', Row E w' base v' (l ++ m) → w.grownBy w' v.ownBlock → (∀ k, v'.ownBlock = some k → v.ownBlock = some k ∨ w.heap.size ≤ k) → K (a.put o.dst v') w') : o.wp Tryz.prog a w K Q := by
  obtain ⟨v', w', hr, h1, h2, h3⟩ := run_appB E o.type base v l m hown ao n cap hm hnil hcell hby hlen hb
  unfold Oper.wp execOp
  simp only [ho, resolve, invoke, builtin, Sem.run_bind, Sem.run_pure, Result.andThen_ok, List.map_toArray, List.map_cons, List.map_nil, hs, hx, hr]
  exact h v' w' h1 h2 h3
theorem step_appB {ops : Array Oper} {o : Oper} {a : Act} {K : Act → World → Prop} {Q : Exit → Act → World → Prop} {X : Prop} (hgd : o.guard = none) (E : EK α) (s x : Operand)
    (ho : o.op = .call { callee := .builtin .append, args := #[s, x], argTypes := #[E.slice, E.slice] })
    (base : Nat) (v : Value) (l m : List α) (hs : a.eval s = v) (hown : Row E w base v l) (ao : Option Addr) (n cap : Nat) (hx : a.eval x = .slice ao n cap) (hm : m.length = n) (hnil : ao = none → n = 0 ∧ cap = 0)
    (hcell : ∀ ad, ao = some ad → ∀ k y, m[k]? = some y → ∀ j u, (E.enc y)[j]? = some u → w.cell? (ad.add (k * E.size + j)) = some u)
    (hby : 1 ≤ E.bytes) (hlen : (l.length + m.length) * E.bytes ≤ 140737488355328) (hb : base ≤ w.heap.size)
    (h : ∀ v' w', Row E w' base v' (l ++ m) → w.grownBy w' v.ownBlock → (∀ k, v'.ownBlock = some k → v.ownBlock = some k ∨ w.heap.size ≤ k) → K (a.put o.dst v') w') :
    if Region.wanted o (yielded ops a.tmps) = true then Oper.wp Tryz.prog o a w K Q else X := by
  have hw : Region.wanted o (yielded ops a.tmps) = true := by simp [Region.wanted, hgd]
  rw [if_pos hw]
  exact wp_appB E s x ho base v l m hs hown ao n cap hx hm hnil hcell hby hlen hb h
theorem wpList_appB {ops : Array Oper} {rest : List Oper} {o : Oper} {a : Act} {Q : Exit → Act → World → Prop} (hgd : o.guard = none) (E : EK α) (s x : Operand)
    (ho : o.op = .call { callee := .builtin .append, args := #[s, x], argTypes := #[E.slice, E.slice] })
    (base : Nat) (v : Value) (l m : List α) (hs : a.eval s = v) (hown : Row E w base v l) (ao : Option Addr) (n cap : Nat) (hx : a.eval x = .slice ao n cap) (hm : m.length = n) (hnil : ao = none → n = 0 ∧ cap = 0)
    (hcell : ∀ ad, ao = some ad → ∀ k y, m[k]? = some y → ∀ j u, (E.enc y)[j]? = some u → w.cell? (ad.add (k * E.size + j)) = some u)
    (hby : 1 ≤ E.bytes) (hlen : (l.length + m.length) * E.bytes ≤ 140737488355328) (hb : base ≤ w.heap.size)
    (h : ∀ v' w', Row E w' base v' (l ++ m) → w.grownBy w' v.ownBlock → (∀ k, v'.ownBlock = some k → v.ownBlock = some k ∨ w.heap.size ≤ k) → wpList Tryz.prog ops Q rest (a.put o.dst v') w') : wpList Tryz.prog ops Q (o :: rest) a w :=
  wpList_plain hgd fun _ hK => wp_appB E s x ho base v l m hs hown ao n cap hx hm hnil hcell hby hlen hb fun v' w' h2 h3 h4 => hK _ _ (h v' w' h2 h3 h4)
end

end L
end Go.Proofs.YthgbiflfinddiaaGreat

/- The document's own answer: blob: bytes with their tag and how many they are, onto what was made so far. -/
namespace Go.Proofs.YthgbiflfinddiaaGreat
namespace L
open Go.RowKit
set_option linter.unusedVariables false

/-- Nothing turns but what holds bytes, and one block. -/
def KeepB (co : Nat) (V V' : World) : Prop := ∀ k cs t f, V.heap[k]? = some (.cells cs t f) → t ≠ 5 → k ≠ co → V'.heap[k]? = some (.cells cs t f)
theorem KeepB.refl (co : Nat) (V : World) : KeepB co V V := fun _ _ _ _ h _ _ => h
theorem KeepB.trans {co : Nat} {A B C : World} (h : KeepB co A B) (h' : KeepB co B C) : KeepB co A C := fun k cs t f x ht hk => h' k cs t f (h k cs t f x ht hk) ht hk
theorem KeepB.of_below {co : Nat} {A B : World} (h : Below A.heap.size A B) : KeepB co A B := fun k _ _ _ x _ _ => (h.block k (Array.getElem?_eq_some_iff.1 x).1).trans x
theorem KeepB.grown {co : Nat} {A B : World} {base : Nat} {v : Value} {l : List UInt8} (hr : Row ekY A base v l) (hg : A.grownBy B v.ownBlock) : KeepB co A B := fun k cs t f x ht _ => by
  refine (hg.block k (Array.getElem?_eq_some_iff.1 x).1 fun e => ?_).trans x
  rcases hr.2 with ⟨hv, _⟩ | ⟨g, cap, cur, hv, _, hgx, _⟩
  · rw [hv] at e; cases e
  · rw [hv] at e
    simp only [Value.ownBlock, Option.some.injEq] at e
    subst e
    rw [x] at hgx
    injection hgx with h1
    injection h1 with _ h2 _
    exact ht h2
theorem KeepB.set {co i : Nat} {A : World} {v : Value} : KeepB co A (A.setCell ⟨co, i, none⟩ v) := fun k cs t f x _ hk => by
  rw [← x]
  exact heap_setCell_other A ⟨co, i, none⟩ k v hk
theorem KeepB.step {co cs : Nat} {A B : World} {s : TI} (h : KeepB co A B) (x : StepAt A cs s) (hc : cs ≠ co) : StepAt B cs s := h _ _ _ _ x (by decide) hc
/-- What was made so far, and where. -/
def OutAt (V : World) (co : Nat) (acc : List UInt8) : Prop := ∃ ao n c, V.heap[co]? = some (.cells #[.slice ao n c] 39 (0, 0)) ∧ Row ekY V (co + 1) (.slice ao n c) acc
theorem OutAt.below {V V' : World} {co : Nat} {acc : List UInt8} (h : OutAt V co acc) (hb : Below V.heap.size V V') : OutAt V' co acc := by
  obtain ⟨ao, n, c, x, hr⟩ := h
  exact ⟨ao, n, c, (hb.block _ (Array.getElem?_eq_some_iff.1 x).1).trans x, hr.below hb⟩
/-- Where the function that makes tags lies. -/
def TagAt (V : World) (ct cs : Nat) : Prop := V.heap[ct]? = some (.cells #[.func (.func 45) #[] #[.pointer (some ⟨cs, 0, none⟩)]] 99 (0, 0))
theorem KeepB.tag {co ct cs : Nat} {A B : World} (h : KeepB co A B) (x : TagAt A ct cs) (hc : ct ≠ co) : TagAt B ct cs := h _ _ _ _ x (by decide) hc
theorem TagAt.below {ct cs : Nat} {A B : World} (x : TagAt A ct cs) (h : Below A.heap.size A B) : TagAt B ct cs := (h.block _ (Array.getElem?_eq_some_iff.1 x).1).trans x
theorem out_set {V : World} {co : Nat} {ao' : Option Addr} {n' c' : Nat} {v0 : Value} {acc : List UInt8} (x : V.heap[co]? = some (.cells #[v0] 39 (0, 0))) (hr : Row ekY V (co + 1) (.slice ao' n' c') acc) : OutAt (V.setCell ⟨co, 0, none⟩ (.slice ao' n' c')) co acc := by
  refine ⟨ao', n', c', ?_, ?_⟩
  · have := heap_setCell_same V co 0 _ _ (.slice ao' n' c') x
    simpa using this
  · refine hr.keep fun k hk _ => heap_setCell_other V ⟨co, 0, none⟩ k _ (fun e => ?_)
    have : k = co := e
    omega
theorem grown_co {A B : World} {co : Nat} {v : Value} {l : List UInt8} {o : Obj} (hr : Row ekY A (co + 1) v l) (hg : A.grownBy B v.ownBlock) (x : A.heap[co]? = some o) : B.heap[co]? = some o :=
  (hg.block co (Array.getElem?_eq_some_iff.1 x).1 fun e => by have := (hr.own co e.symm).1; omega).trans x
theorem rdY_keep {V W : World} {ad : Option Addr} {nd cd : Nat} {l : List UInt8} (h : RdL 1 YAt V (.slice ad nd cd) l) (hk : l ≠ [] → ∀ a, ad = some a → a.block < V.heap.size → W.heap[a.block]? = V.heap[a.block]?) : RdL 1 YAt W (.slice ad nd cd) l := by
  obtain ⟨_, _, _, e, h1, h2, h3, h4, h5⟩ := h
  cases e
  refine ⟨_, _, _, rfl, h1, h2, h3, h4, fun x hx k a ha => ?_⟩
  have hc : V.cell? (x.add (k * 1)) = some _ := h5 x hx k a ha
  have hb := World.block_lt_of_cell? V _ hc
  have hbk : (x.add (k * 1)).block = x.block := by simp only [Addr.add]; split <;> rfl
  show W.cell? (x.add (k * 1)) = _
  have e := World.cell?_of_block (w := V) (w' := W) (a := x.add (k * 1)) (by rw [hbk]; exact hk (fun e => by rw [e] at ha; simp at ha) x hx (hbk ▸ hb))
  rw [e]
  exact hc
theorem rdY_blk {V : World} {ad : Option Addr} {nd cd : Nat} {l : List UInt8} (h : RdL 1 YAt V (.slice ad nd cd) l) (hl : l ≠ []) : ∀ a, ad = some a → a.block < V.heap.size := by
  intro a ha
  obtain ⟨_, _, _, e, h1, h2, h3, h4, h5⟩ := h
  cases e
  cases l with
  | nil => exact absurd rfl hl
  | cons c r =>
    have hc : V.cell? (a.add (0 * 1)) = some _ := h5 a ha 0 c rfl
    have hb := World.block_lt_of_cell? V _ hc
    have hbk : (a.add (0 * 1)).block = a.block := by simp only [Addr.add]; split <;> rfl
    rw [hbk] at hb
    exact hb
set_option maxHeartbeats 4000000 in
set_option maxRecDepth 100000 in
theorem rblob_any {V : World} {co ct cs : Nat} {s : TI} {acc l : List UInt8} {ad : Option Addr} {nd cd : Nat} {ao : Option Addr} {no cc : Nat} (x0 : V.heap[co]? = some (.cells #[.slice ao no cc] 39 (0, 0))) (hr0 : Row ekY V (co + 1) (.slice ao no cc) acc) (hne : l ≠ [] → ∀ a, ad = some a → ∀ k, (Value.slice ao no cc).ownBlock = some k → k ≠ a.block) (hT : TagAt V ct cs) (hS : StepAt V cs s) (hd : RdL 1 YAt V (.slice ad nd cd) l) (hct : ct ≠ co) (hcs : cs ≠ co) (h1 : 0 ≤ s.number) (h2 : s.number ≤ 536870912) (hl : l.length ≤ 1000000000000) (ha : acc.length ≤ 10000000000000) :
    Calls Tryz.prog 47 #[.slice ad nd cd, .pointer (some ⟨co, 0, none⟩), .pointer (some ⟨ct, 0, none⟩)] V fun e w' => e = .returned (.tuple #[]) ∧ OutAt w' co (acc ++ sizedN s.number [l]) ∧ KeepB co V w' ∧ Below co V w' := by
  obtain ⟨_, _, _, e0, Hnd, hnd⟩ := hd.shape
  cases e0
  have hcol := (Array.getElem?_eq_some_iff.1 x0).1
  have hctl := (Array.getElem?_eq_some_iff.1 hT).1
  have HN : Hid (acc ++ sizedN s.number [l] = acc ++ ktagN s.number 2 ++ putN l.length ++ l) := by show _ = _; simp [sizedN]
  have hent : ∀ (args : Array Value) (w : World), (callFunc 45 args).run Tryz.prog w = .ok (.enter 45 args) w := enters_of Tryz.func45 (by kernel_rfl) rfl
  have hT2 := ktagN_len s.number 2
  have hP2 := kputN_len l.length
  have hdr : Below V.heap.size V V.drew := (Below.refl _ _).drew
  have c0 : V.drew.cell? ⟨co, 0, none⟩ = some (.slice ao no cc) := cell_of_blk (w := V.drew) x0 0 _ rfl
  have c1 : V.drew.cell? ⟨ct, 0, none⟩ = some (.func (.func 45) #[] #[.pointer (some ⟨cs, 0, none⟩)]) := cell_of_blk (w := V.drew) hT 0 _ rfl
  have htag := rtag_any (V := V.drew) (hS.below hdr) 2 h1 h2 (by decide) (by decide)
  have hcl : ∀ W, Below V.heap.size V W → W.heap[co]? = some (.cells #[.slice ao no cc] 39 (0, 0)) ∧ W.cell? ⟨co, 0, none⟩ = some (.slice ao no cc) ∧ W.frozen? ⟨co, 0, none⟩ = false ∧ W.cell? ⟨ct, 0, none⟩ = some (.func (.func 45) #[] #[.pointer (some ⟨cs, 0, none⟩)]) ∧ Row ekY W (co + 1) (.slice ao no cc) acc := fun W hW => ⟨(hW.block _ hcol).trans x0, cell_of_blk ((hW.block _ hcol).trans x0) 0 _ rfl, fr_of_blk ((hW.block _ hcol).trans x0) 0, cell_of_blk ((hW.block _ hctl).trans hT) 0 _ rfl, hr0.below hW⟩
  go_enter Tryz.func47, Tryz.ntmps47
  go_wp2_with fail
  have hpu : ∀ W, Calls Tryz.prog 46 #[.int .u64 (IntKind.u64.wrap (nd : Int))] W fun e w' => ∃ ao m cap, e = .returned (.slice ao m cap) ∧ Row ekY w' W.heap.size (.slice ao m cap) (putN l.length) ∧ Below W.heap.size W w' := fun W => by
    have := rnum_any l.length W (by rw [← Hnd.out]; omega)
    rw [show IntKind.u64.wrap (nd : Int) = (nd : Int) by rw [IntKind.wrap_u64]; omega]
    rw [← Hnd.out] at this ⊢
    exact this
  have hsd4 : ∀ (w1 w2 w3 w4 : World) (v2 : Value), Below V.heap.size V w1 → w1.grownBy w2 (Value.slice ao no cc).ownBlock → (∀ k, v2.ownBlock = some k → (Value.slice ao no cc).ownBlock = some k ∨ w1.heap.size ≤ k) → Below w2.heap.size w2 w3 → w3.grownBy w4 v2.ownBlock → l.length = nd ∧ (ad = none → nd = 0 ∧ cd = 0) ∧ ∀ a, ad = some a → ∀ k y, l[k]? = some y → ∀ j u, (ekY.enc y)[j]? = some u → w4.cell? (a.add (k * ekY.size + j)) = some u := fun w1 w2 w3 w4 v2 k1 k2 k3 k4 k5 => ksrcY (rdY_keep hd fun hl0 a ha hlt => by
    have s1 := k1.size
    have s2 := k2.size
    have s3 := k4.size
    rw [k5.block a.block (by omega) (fun e => ?_), k4.block a.block (by omega), k2.block a.block (by omega) (fun e => hne hl0 a ha _ e.symm rfl), k1.block a.block hlt]
    rcases k3 a.block e.symm with h | h
    · exact hne hl0 a ha _ h rfl
    · omega)
  clear hT hS
  go_region_law (first
    | (rw [if_pos (by rfl)]; go_simp; refine htag.mono ?_; rintro e w1 ⟨a1, n1, c1', rfl, hr1, hb1⟩; have hB1 := KBT hdr hb1; obtain ⟨x1, d0, d1, d2, hr01⟩ := hcl w1 hB1; have hs1 := ksrcY hr1.rdY)
    | (refine step_appB (by rfl) ekY _ _ (by rfl) (co + 1) (.slice ao no cc) acc (ktagN s.number 2) (by rfl) hr01 a1 n1 c1' (by rfl) hs1.1 hs1.2.1 hs1.2.2 (by decide) (by rw [show ekY.bytes = 1 from rfl, Nat.mul_one]; omega) (Nat.le_trans hcol hB1.size) ?_; intro v2 w2 hr2 hg2 hk2; obtain ⟨a2, n2, c2, rfl, H2⟩ := hr2.shape'; have x2 := grown_co hr01 hg2 x1; have hz2 := hg2.size)
    | (rw [if_pos (by rfl)]; go_simp; refine (hpu w2).mono ?_; rintro e w3 ⟨a3, n3, c3, rfl, hr3, hb3⟩; have hr23 := hr2.below hb3; have hs3 := ksrcY hr3.rdY; have x3 := (hb3.block co (Array.getElem?_eq_some_iff.1 x2).1).trans x2; have hz3 := hb3.size)
    | (refine step_appG (by rfl) ekY _ _ (by rfl) (co + 1) (.slice a2 n2 c2) (acc ++ ktagN s.number 2) (putN l.length) (by rfl) hr23 a3 n3 c3 (by rfl) hs3.1 hs3.2.1 hs3.2.2 (by decide) (by rw [show ekY.bytes = 1 from rfl, Nat.mul_one, List.length_append]; omega) (by have := hB1.size; omega) ?_; intro v4 w4 hr4 hg4; obtain ⟨a4, n4, c4, rfl, H4⟩ := hr4.shape'; have x4 := grown_co hr23 hg4 x3; have hz4 := hg4.size; have hs4 := hsd4 w1 w2 w3 w4 _ hB1 hg2 hk2 hb3 hg4)
    | (refine step_appG (by rfl) ekY _ _ (by rfl) (co + 1) (.slice a4 n4 c4) (acc ++ ktagN s.number 2 ++ putN l.length) l (by rfl) hr4 ad nd cd (by rfl) hs4.1 hs4.2.1 hs4.2.2 (by decide) (by rw [show ekY.bytes = 1 from rfl, Nat.mul_one, List.length_append, List.length_append]; omega) (by have := hB1.size; omega) ?_; intro v5 w5 hr5 hg5; obtain ⟨a5, n5, c5, rfl, H5⟩ := hr5.shape'; have x5 := grown_co hr4 hg5 x4; have e5 := cell_of_blk x5 0 _ rfl; have f5 := fr_of_blk x5 0))
  all_goals
    have hBl : Below co V w5 := (((((hB1.mono (Nat.le_of_lt hcol)).grown hg2 (Nat.le_trans (Nat.le_of_lt hcol) hB1.size) (fun k hk => by have := (hr01.own k hk).1; omega)).trans (hb3.mono (by have := hB1.size; omega))).grown hg4 (by have := hB1.size; omega) (fun k hk => by have := (hr23.own k hk).1; omega)).grown hg5 (by have := hB1.size; omega) (fun k hk => by have := (hr4.own k hk).1; omega))
    have hKp : KeepB co V w5 := ((((KeepB.of_below hB1).trans (KeepB.grown hr01 hg2)).trans (KeepB.of_below hb3)).trans (KeepB.grown hr23 hg4)).trans (KeepB.grown hr4 hg5)
    have hOt := out_set x5 hr5
    clear hg2 hg4 hg5 hr01 hr23 hr4 hr5 hr2 hr3 hr1 hs1 hs3 hs4 hk2 hb1 hb3
    go_wp2_with fail
    go_returns
    exact ⟨rfl, by rw [HN.out]; exact hOt, hKp.trans KeepB.set, KB_set hBl (Nat.le_refl _)⟩

end L
end Go.Proofs.YthgbiflfinddiaaGreat

