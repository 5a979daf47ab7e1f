/- The contracts of itemRules, its functions, and wrongEnum. -/
import Derived.Test.YtenlijgnmhdopaaGreatDoorLRules
namespace Go.Proofs.YtenlijgnmhdopaaGreatDoor
namespace L
open Go.RowKit

/-- Blocks, one behind the other. -/
def allocL (w : World) : List Obj → World
  | [] => w
  | o :: os => allocL (w.alloc o) os
theorem allocL_size : ∀ (os : List Obj) (w : World), (allocL w os).heap.size = w.heap.size + os.length
  | [], w => rfl
  | o :: os, w => by rw [allocL, allocL_size os]; simp; omega
theorem allocL_below : ∀ (os : List Obj) (w : World), Below w.heap.size w (allocL w os)
  | [], w => Below.refl _ _
  | o :: os, w => by
    rw [allocL]
    exact ((Below.refl _ _).alloc (Nat.le_refl _) o).trans ((allocL_below os (w.alloc o)).mono (by simp))
theorem allocL_at : ∀ (os : List Obj) (w : World) (i : Nat) (o : Obj), os[i]? = some o → (allocL w os).heap[w.heap.size + i]? = some o
  | [], _, _, _, h => by simp at h
  | p :: os, w, i, o, h => by
    rw [allocL]
    cases i with
    | zero =>
      simp at h
      subst h
      rw [(allocL_below os (w.alloc p)).block _ (by simp)]
      exact heap_alloc_new w p
    | succ i =>
      have h' : os[i]? = some o := by simpa using h
      have := allocL_at os (w.alloc p) i o h'
      rw [show w.heap.size + (i + 1) = (w.alloc p).heap.size + i by simp; omega]
      exact this

/-- Of what was there nothing but block c, and lists of T from block B on, has turned. -/
structure FrT (T : TypeId) (B c : Nat) (w w' : World) : Prop where
  os : w'.os = w.os
  tape : w'.tape = w.tape
  output : w'.output = w.output
  size : w.heap.size ≤ w'.heap.size
  block : ∀ k, k < w.heap.size → k ≠ c → (k < B ∨ ∀ xs fr, w.heap[k]? ≠ some (.cells xs T fr)) → w'.heap[k]? = w.heap[k]?
theorem FrT.fr {T : TypeId} {B c : Nat} {cs : List Nat} {w w' : World} (h : FrT T B c w w') (hT : T = 9 ∨ T = 3) (hc : c ∈ cs) : Fr B cs w w' :=
  ⟨h.os, h.tape, h.output, h.size, fun k hk hkc hq => h.block k hk (fun e => hkc (e ▸ hc)) (by
    rcases hq with hq | hq
    · exact .inl hq
    · right
      intro xs fr
      rcases hT with rfl | rfl
      · exact (hq xs fr).1
      · exact (hq xs fr).2)⟩
theorem FrT.of_upd {α : Type} {E : EK α} {B c : Nat} {v : Value} {l : List α} {w w' : World} (hr : Row E w B v l) (hu : Upd c v.ownBlock w w') : FrT E.elem B c w w' := by
  refine ⟨hu.os, hu.tape, hu.output, hu.size, fun k hk hkc hq => hu.block k hk hkc ?_⟩
  intro e
  have hown := hr.own k e
  rcases hr.2 with ⟨hv, _⟩ | ⟨g, cap, cur, hv, _, hg, _⟩
  · rw [hv] at e; simp [Value.ownBlock] at e
  · rw [hv] at e
    have e : g = k := by simpa [Value.ownBlock] using e
    subst e
    rcases hq with hq | hq
    · omega
    · exact hq cur (0, 0) hg
theorem Row.frt {α : Type} {E : EK α} {w w' : World} {B c : Nat} {T : TypeId} {v : Value} {l : List α} (h : Row E w B v l) (hF : FrT T B c w w') (hc : c < B) (hT : E.elem ≠ T) : Row E w' B v l := by
  refine ⟨h.1, ?_⟩
  rcases h.2 with hn | ⟨g, cap, cur, hv, hbg, hg, r⟩
  · exact .inl hn
  · refine .inr ⟨g, cap, cur, hv, hbg, ?_, r⟩
    rw [hF.block g (Array.getElem?_eq_some_iff.1 hg).1 (by omega) ?_]
    · exact hg
    · right
      intro xs fr
      rw [hg]
      simp
      intro _ e
      exact absurd e hT

/-- What is remembered of numbers: where, and which. -/
structure NSt (W : World) (B c p : Nat) (l : List Int) : Prop where
  row : ∃ v, W.heap[c]? = some (.cells #[v] 35 (0, 0)) ∧ Row ekN W B v l
  fn : W.heap[p]? = some (.cells #[.func (.func 81) #[] #[.pointer (some ⟨c, 0, none⟩)]] 78 (0, 0))
  lt : c < B
theorem NSt.below {W W' : World} {B c p : Nat} {l : List Int} (h : NSt W B c p l) (hb : Below W.heap.size W W') : NSt W' B c p l := by
  obtain ⟨⟨v, h1, h2⟩, h3, h4⟩ := h
  exact ⟨⟨v, (hb.block c (Array.getElem?_eq_some_iff.1 h1).1).trans h1, h2.below hb⟩, (hb.block p (Array.getElem?_eq_some_iff.1 h3).1).trans h3, h4⟩
theorem blk_frt {T : TypeId} {B c k : Nat} {w w' : World} {o : Obj} (hF : FrT T B c w w') (hk : w.heap[k]? = some o) (hc : k ≠ c) (hB : k < B) : w'.heap[k]? = some o :=
  (hF.block k (Array.getElem?_eq_some_iff.1 hk).1 hc (.inl hB)).trans hk
theorem NSt.frt {W W' : World} {B c p d : Nat} {l : List Int} (h : NSt W B c p l) (hF : FrT 9 B d W W') (hd : d < B) (hc : c ≠ d) (hp : p ≠ d) (hpB : p < B) : NSt W' B c p l := by
  obtain ⟨⟨v, h1, h2⟩, h3, h4⟩ := h
  exact ⟨⟨v, blk_frt hF h1 hc h4, h2.frt hF hd (by decide)⟩, blk_frt hF h3 hp hpB, h4⟩
theorem SSt.frt {W W' : World} {B c p d : Nat} {l : List (List UInt8)} (h : SSt W B c p l) (hF : FrT 3 B d W W') (hd : d < B) (hc : c ≠ d) (hp : p ≠ d) (hpB : p < B) : SSt W' B c p l := by
  obtain ⟨⟨v, h1, h2⟩, h3, h4⟩ := h
  exact ⟨⟨v, blk_frt hF h1 hc h4, h2.frt hF hd (by decide)⟩, blk_frt hF h3 hp hpB, h4⟩
theorem SSt.call2 {W : World} {B c p : Nat} {l : List (List UInt8)} (h : SSt W B c p l) (hB : B ≤ W.heap.size) (hl : l.length ≤ 1000) (hp : p ≠ c) (hpB : p < B) (x : List UInt8) :
    Calls Tryz.prog 47 #[.string (S x), .pointer (some ⟨c, 0, none⟩)] W fun e W' => e = .returned (.bool (decide (x ∈ l))) ∧ SSt W' B c p (addL x l) ∧ FrT 9 B c W W' := by
  obtain ⟨⟨v, h1, h2⟩, h3, h4⟩ := h
  refine (againS_call h1 h2 h4 hB hl x).mono ?_
  rintro e W' ⟨rfl, v', k1, k2, hu⟩
  have hF : FrT 9 B c W W' := FrT.of_upd h2 hu
  exact ⟨rfl, ⟨⟨v', k1, k2⟩, blk_frt hF h3 hp hpB, h4⟩, hF⟩
theorem NSt.call2 {W : World} {B c p : Nat} {l : List Int} (h : NSt W B c p l) (hB : B ≤ W.heap.size) (hl : l.length ≤ 1000) (hp : p ≠ c) (hpB : p < B) (x : Int) :
    Calls Tryz.prog 81 #[.int .i64 x, .pointer (some ⟨c, 0, none⟩)] W fun e W' => e = .returned (.bool (decide (x ∈ l))) ∧ NSt W' B c p (addL x l) ∧ FrT 3 B c W W' := by
  obtain ⟨⟨v, h1, h2⟩, h3, h4⟩ := h
  refine (againN_call h1 h2 h4 hB hl x).mono ?_
  rintro e W' ⟨rfl, v', k1, k2, hu⟩
  have hF : FrT 3 B c W W' := FrT.of_upd h2 hu
  exact ⟨rfl, ⟨⟨v', k1, k2⟩, blk_frt hF h3 hp hpB, h4⟩, hF⟩

def itRs (b : Nat) : List Ru := [⟨7, 65, #[.pointer (some ⟨b + 3, 0, none⟩)]⟩, ⟨3, 66, #[]⟩, ⟨8, 67, #[.pointer (some ⟨b, 0, none⟩), .pointer (some ⟨b + 4, 0, none⟩)]⟩]
def itObjs (b : Nat) (n : Int) : List Obj := [.cells #[.int .i64 n] 3, .cells #[.slice none 0 0] 54, .cells #[.slice none 0 0] 35, .cells #[.func (.func 47) #[] #[.pointer (some ⟨b + 1, 0, none⟩)]] 73, .cells #[.func (.func 81) #[] #[.pointer (some ⟨b + 2, 0, none⟩)]] 78, .cells (ruCells (itRs b)) 108]
set_option maxHeartbeats 1000000 in
set_option maxRecDepth 100000 in
theorem itemRules_new (n : Int) (w : World) : Calls Tryz.prog 39 #[.int .i64 n] w fun e w' => e = .returned (.slice (some ⟨w.heap.size + 5, 0, none⟩) 3 3) ∧ allocL w (itObjs w.heap.size n) = w' := by
  have hmf := makeF
  go_enter Tryz.func39, Tryz.ntmps39
  go_wp2_with fail
  refine (againS_new _).mono ?_
  rintro e w1 ⟨rfl, rfl⟩
  go_wp2_with fail
  refine (againN_new _).mono ?_
  rintro e w1 ⟨rfl, rfl⟩
  go_wp2
  go_ret
  exact ⟨rfl, rfl⟩

/-- What the item rules remember. -/
structure ISt (W : World) (B b : Nat) (n : Int) (s : List (List UInt8) × List Int) : Prop where
  names : SSt W B (b + 1) (b + 3) s.1
  vals : NSt W B (b + 2) (b + 4) s.2
  first : W.heap[b]? = some (.cells #[.int .i64 n] 3 (0, 0))
  lt : b + 5 < B
theorem ISt.below {W W' : World} {B b : Nat} {n : Int} {s : List (List UInt8) × List Int} (h : ISt W B b n s) (hb : Below W.heap.size W W') : ISt W' B b n s :=
  ⟨h.names.below hb, h.vals.below hb, (hb.block b (Array.getElem?_eq_some_iff.1 h.first).1).trans h.first, h.lt⟩
def stepI (n : Int) : Nat → II → List (List UInt8) × List Int → Bool × (List (List UInt8) × List Int)
  | 0, x, s => (!namedB x.name || decide (x.name ∈ s.1), (addL x.name s.1, s.2))
  | 1, x, s => (decide (x.value < -2147483648) || decide (2147483647 < x.value), s)
  | _, x, s => (decide (n ≠ 0) || decide (x.value ∈ s.2), (s.1, addL x.value s.2))

set_option maxHeartbeats 1000000 in
set_option maxRecDepth 100000 in
theorem itemRule1 {W : World} {B b : Nat} {n : Int} {s : List (List UInt8) × List Int} (h : ISt W B b n s) (hB : B ≤ W.heap.size) (hl : s.1.length ≤ 1000) (x : II) (hx : x.name.length ≤ 9223372036854775807) :
    Calls Tryz.prog 65 #[iv x, .pointer (some ⟨b + 3, 0, none⟩)] W fun e W' => e = .returned (.bool (stepI n 0 x s).1) ∧ ((stepI n 0 x s).1 = false → ISt W' B b n (stepI n 0 x s).2) ∧ Fr B [b + 1, b + 2] W W' := by
  have hba := (Below.refl W.heap.size W).alloc (Nat.le_refl _) (.cells #[.string (S x.name), .int .i64 x.value] 52)
  have h1 := h.below hba
  have c0 : (W.alloc (.cells #[.string (S x.name), .int .i64 x.value] 52)).cell? ⟨b + 3, 0, none⟩ = some (.func (.func 47) #[] #[.pointer (some ⟨b + 1, 0, none⟩)]) := cell_of_blk h1.names.fn 0 _ rfl
  have hnm := named_any x.name hx (W.alloc (.cells #[.string (S x.name), .int .i64 x.value] 52))
  have hlt := h.lt
  have hcc := h1.names.call2 (Nat.le_trans hB hba.size) hl (by omega) (by omega) x.name
  unfold iv
  cases hq : namedB x.name with
  | false =>
    have HN : Hid ((stepI n 0 x s).1 = true) := by show _ = _; rw [stepI, hq]; rfl
    rw [hq] at hnm
    clear hq hcc
    go_enter Tryz.func65, Tryz.ntmps65
    go_wp2_with fail
    refine hnm.mono ?_
    rintro e w1 ⟨rfl, rfl⟩
    go_wp2
    go_ret
    refine ⟨by rw [HN.out]; rfl, fun e => ?_, Fr.of_below hba⟩
    rw [HN.out] at e; cases e
  | true =>
    have HN : Hid ((stepI n 0 x s).1 = decide (x.name ∈ s.1)) := by show _ = _; rw [stepI, hq]; rfl
    rw [hq] at hnm
    clear hq
    go_enter Tryz.func65, Tryz.ntmps65
    go_wp2_with fail
    refine hnm.mono ?_
    rintro e w1 ⟨rfl, rfl⟩
    go_wp2_with fail
    refine hcc.mono ?_
    rintro e w2 ⟨rfl, h2, hF⟩
    go_wp2
    go_ret
    refine ⟨by rw [HN.out]; rfl, fun _ => ⟨h2, h1.vals.frt hF (by omega) (by omega) (by omega) (by omega), blk_frt hF h1.first (by omega) (by omega), hlt⟩, (Fr.of_below hba).trans (hF.fr (.inl rfl) (by simp))⟩

set_option maxHeartbeats 1000000 in
set_option maxRecDepth 100000 in
theorem itemRule2 {W : World} {B b : Nat} {n : Int} {s : List (List UInt8) × List Int} (h : ISt W B b n s) (x : II) :
    Calls Tryz.prog 66 #[iv x] W fun e W' => e = .returned (.bool (stepI n 1 x s).1) ∧ ((stepI n 1 x s).1 = false → ISt W' B b n (stepI n 1 x s).2) ∧ Fr B [b + 1, b + 2] W W' := by
  have hba := (Below.refl W.heap.size W).alloc (Nat.le_refl _) (.cells #[.string (S x.name), .int .i64 x.value] 52)
  have h1 := h.below hba
  unfold iv
  obtain ⟨q1, hq1⟩ : ∃ q, decide (x.value < -2147483648) = q := ⟨_, rfl⟩
  obtain ⟨q2, hq2⟩ : ∃ q, decide (2147483647 < x.value) = q := ⟨_, rfl⟩
  have HN : Hid ((stepI n 1 x s).1 = (q1 || q2)) := by show _ = _; rw [stepI, hq1, hq2]
  cases q1 <;> cases q2
  all_goals simp only [decide_eq_true_eq, decide_eq_false_iff_not] at hq1 hq2
  all_goals first | (exfalso; omega) | skip
  all_goals go_enter Tryz.func66, Tryz.ntmps66
  all_goals go_wp2
  all_goals go_ret
  all_goals exact ⟨by rw [HN.out]; rfl, fun _ => h1, Fr.of_below hba⟩

set_option maxHeartbeats 1000000 in
set_option maxRecDepth 100000 in
theorem itemRule3 {W : World} {B b : Nat} {n : Int} {s : List (List UInt8) × List Int} (h : ISt W B b n s) (hB : B ≤ W.heap.size) (hl : s.2.length ≤ 1000) (x : II) :
    Calls Tryz.prog 67 #[iv x, .pointer (some ⟨b, 0, none⟩), .pointer (some ⟨b + 4, 0, none⟩)] W fun e W' => e = .returned (.bool (stepI n 2 x s).1) ∧ ((stepI n 2 x s).1 = false → ISt W' B b n (stepI n 2 x s).2) ∧ Fr B [b + 1, b + 2] W W' := by
  have hba := (Below.refl W.heap.size W).alloc (Nat.le_refl _) (.cells #[.string (S x.name), .int .i64 x.value] 52)
  have h1 := h.below hba
  have c0 : (W.alloc (.cells #[.string (S x.name), .int .i64 x.value] 52)).cell? ⟨b + 4, 0, none⟩ = some (.func (.func 81) #[] #[.pointer (some ⟨b + 2, 0, none⟩)]) := cell_of_blk h1.vals.fn 0 _ rfl
  have c1 : (W.alloc (.cells #[.string (S x.name), .int .i64 x.value] 52)).cell? ⟨b, 0, none⟩ = some (.int .i64 n) := cell_of_blk h1.first 0 _ rfl
  have hlt := h.lt
  have hcc := h1.vals.call2 (Nat.le_trans hB hba.size) hl (by omega) (by omega) x.value
  unfold iv
  obtain ⟨q1, hq1⟩ : ∃ q, (n != 0) = q := ⟨_, rfl⟩
  have HN : Hid ((stepI n 2 x s).1 = (q1 || decide (x.value ∈ s.2))) := by
    have e : decide (n ≠ 0) = (n != 0) := by rw [Bool.eq_iff_iff]; simp
    show (decide (n ≠ 0) || decide (x.value ∈ s.2)) = _
    rw [e, hq1]
  cases q1 with
  | true =>
    clear hcc
    go_enter Tryz.func67, Tryz.ntmps67
    go_wp2
    go_ret
    refine ⟨by rw [HN.out]; rfl, fun e => ?_, Fr.of_below hba⟩
    rw [HN.out] at e; cases e
  | false =>
    go_enter Tryz.func67, Tryz.ntmps67
    go_wp2_with fail
    refine hcc.mono ?_
    rintro e w2 ⟨rfl, h2, hF⟩
    go_wp2
    go_ret
    refine ⟨by rw [HN.out]; rfl, fun _ => ⟨h1.names.frt hF (by omega) (by omega) (by omega) (by omega), h2, blk_frt hF h1.first (by omega) (by omega), hlt⟩, (Fr.of_below hba).trans (hF.fr (.inr rfl) (by simp))⟩

end L
end Go.Proofs.YtenlijgnmhdopaaGreatDoor
