import Derived.Test.YtenlijgnmhdopaaGreatDoorMLb
import Derived.Shelf.Abstract
/- The contracts of nameRules and of its function. -/
namespace Go.Proofs.YtenlijgnmhdopaaGreatDoor
namespace L
open Go.RowKit

def tFS : TypeId := 73
set_option maxHeartbeats 1000000 in
set_option maxRecDepth 100000 in
theorem nameRules_new (w : World) : Calls Tryz.prog 19 #[] w fun e w' => e = .returned (.slice (some ⟨w.heap.size + 2, 0, none⟩) 1 1) ∧ ((w.alloc (.cells #[.slice none 0 0] 54)).alloc (.cells #[.func (.func 47) #[] #[.pointer (some ⟨w.heap.size, 0, none⟩)]] 73)).alloc (.cells #[.int .i64 7, .func (.func 31) #[] #[.pointer (some ⟨w.heap.size + 1, 0, none⟩)]] 75) = w' := by
  have hmf := makeF
  go_enter Tryz.func19, Tryz.ntmps19
  go_wp2_with fail
  refine (againS_new w).mono ?_
  rintro e w1 ⟨rfl, rfl⟩
  go_wp2
  go_ret
  exact ⟨rfl, rfl⟩

theorem alloc3 (w : World) (o1 o2 o3 : Obj) : (((w.alloc o1).alloc o2).alloc o3).heap[w.heap.size + 2]? = some o3 ∧ (((w.alloc o1).alloc o2).alloc o3).heap[w.heap.size + 1]? = some o2 ∧ (((w.alloc o1).alloc o2).alloc o3).heap[w.heap.size]? = some o1 := by
  refine ⟨?_, ?_, ?_⟩
  · have := heap_alloc_new ((w.alloc o1).alloc o2) o3
    rwa [show ((w.alloc o1).alloc o2).heap.size = w.heap.size + 2 by simp] at this
  · rw [Below.heap_alloc _ _ _ (by simp)]; exact alloc2_new _ _ _
  · rw [Below.heap_alloc _ _ _ (by simp; omega)]; exact alloc2_old _ _ _

/-- What is remembered of names: where, and which. -/
structure SSt (W : World) (B c p : Nat) (l : List (List UInt8)) : Prop where
  row : ∃ v, W.heap[c]? = some (.cells #[v] 54 (0, 0)) ∧ Row ekS W B v l
  fn : W.heap[p]? = some (.cells #[.func (.func 47) #[] #[.pointer (some ⟨c, 0, none⟩)]] 73 (0, 0))
  lt : c < B
theorem SSt.below {W W' : World} {B c p : Nat} {l : List (List UInt8)} (h : SSt W B c p l) (hb : Below W.heap.size W W') : SSt W' B c p l := by
  obtain ⟨⟨v, h1, h2⟩, h3, h4⟩ := h
  exact ⟨⟨v, (hb.block c (Array.getElem?_eq_some_iff.1 h1).1).trans h1, h2.below hb⟩, (hb.block p (Array.getElem?_eq_some_iff.1 h3).1).trans h3, h4⟩

/-- The call of such a function. -/
theorem SSt.call {W : World} {B c p : Nat} {l : List (List UInt8)} (h : SSt W B c p l) (hB : B ≤ W.heap.size) (hl : l.length ≤ 1000) (cs : List Nat) (hc : c ∈ cs) (hp : p ∉ cs) (x : List UInt8) :
    Calls Tryz.prog 47 #[.string (S x), .pointer (some ⟨c, 0, none⟩)] W fun e W' => e = .returned (.bool (decide (x ∈ l))) ∧ SSt W' B c p (addL x l) ∧ Fr B cs W W' := by
  obtain ⟨⟨v, h1, h2⟩, h3, h4⟩ := h
  refine (againS_call h1 h2 h4 hB hl x).mono ?_
  rintro e W' ⟨rfl, v', k1, k2, hu⟩
  have hF : Fr B cs W W' := by
    refine ⟨hu.os, hu.tape, hu.output, hu.size, fun k hk hkc hq => hu.block k hk (fun e => hkc (e ▸ hc)) ?_⟩
    intro e
    have hown := h2.own k e
    rcases h2.2 with ⟨hv, _⟩ | ⟨g, cap, cur, hv, _, hg, _⟩
    · rw [hv] at e; simp [Value.ownBlock] at e
    · rw [hv] at e
      have e : g = k := by simpa [Value.ownBlock] using e
      subst e
      rcases hq with hq | hq
      · omega
      · exact (hq cur (0, 0)).1 hg
  exact ⟨rfl, ⟨⟨v', k1, k2⟩, hF.keep h3 hp (by decide), h4⟩, hF⟩

def nameB (s : List UInt8) (l : List (List UInt8)) : Bool := !namedB s || (keptB s || decide (s ∈ l))
set_option maxHeartbeats 1000000 in
set_option maxRecDepth 100000 in
theorem nameRule_call {W : World} {B c p : Nat} {l : List (List UInt8)} (h : SSt W B c p l) (hB : B ≤ W.heap.size) (hl : l.length ≤ 1000) (hp : p ≠ c) (s : List UInt8) (hs : s.length ≤ 9223372036854775807) :
    Calls Tryz.prog 31 #[.string (S s), .pointer (some ⟨p, 0, none⟩)] W fun e W' => e = .returned (.bool (nameB s l)) ∧ (nameB s l = false → SSt W' B c p (addL s l)) ∧ Fr B [c] W W' := by
  have c0 : W.cell? ⟨p, 0, none⟩ = some (.func (.func 47) #[] #[.pointer (some ⟨c, 0, none⟩)]) := cell_of_blk h.fn 0 _ rfl
  have hnm := named_any s hs W
  have hkp := isKept_any s W
  go_enter Tryz.func31, Tryz.ntmps31
  go_wp2_with fail
  refine hnm.mono ?_
  rintro e w1 ⟨rfl, rfl⟩
  cases hq : namedB s with
  | false =>
    have HN : Hid (nameB s l = true) := by show _ = _; rw [nameB, hq]; rfl
    clear hq hnm hkp
    go_wp2
    go_ret
    refine ⟨by rw [HN.out]; rfl, fun e => ?_, Fr.refl _ _ _⟩
    rw [HN.out] at e; cases e
  | true =>
    go_wp2_with fail
    refine hkp.mono ?_
    rintro e w2 ⟨rfl, hb2⟩
    cases hk : keptB s with
    | true =>
      have HN : Hid (nameB s l = true) := by show _ = _; rw [nameB, hq, hk]; rfl
      clear hq hnm hkp hk
      go_wp2
      go_ret
      refine ⟨by rw [HN.out]; rfl, fun e => ?_, Fr.of_below hb2⟩
      rw [HN.out] at e; cases e
    | false =>
      have HN : Hid (nameB s l = decide (s ∈ l)) := by show _ = _; rw [nameB, hq, hk]; rfl
      have h2 := h.below hb2
      have c2 : w2.cell? ⟨p, 0, none⟩ = some (.func (.func 47) #[] #[.pointer (some ⟨c, 0, none⟩)]) := cell_of_blk h2.fn 0 _ rfl
      have hcc := h2.call (Nat.le_trans hB hb2.size) hl [c] (by simp) (by simpa using hp) s
      clear hq hnm hkp hk c0
      go_wp2_with fail
      refine hcc.mono ?_
      rintro e w3 ⟨rfl, h3, hF3⟩
      go_wp2
      go_ret
      exact ⟨by rw [HN.out]; rfl, fun _ => h3, (Fr.of_below hb2).trans hF3⟩

/-- Of names the first one that is wrong. -/
def stepS : Nat → List UInt8 → List (List UInt8) → Bool × List (List UInt8) := fun _ s l => (nameB s l, addL s l)
theorem rd_len {sz : Nat} {α : Type} {P : World → Addr → α → Prop} {w : World} {v : Value} {l : List α} (h : RdL sz P w v l) : l.length ≤ 9223372036854775807 := by
  obtain ⟨ao, n, cap, _, h1, h2, h3, _⟩ := h
  unfold maxLen at h3; omega
theorem names_broken {w : World} {vl : Value} {l : List (List UInt8)} (hl : RdL 1 SAt w vl l) (hn : l.length ≤ 1000) (hs : ∀ s ∈ l, s.length ≤ 9223372036854775807) :
    Calls Tryz.prog 17 #[vl, .slice (some ⟨w.heap.size + 2, 0, none⟩) 1 1] (((w.alloc (.cells #[.slice none 0 0] 54)).alloc (.cells #[.func (.func 47) #[] #[.pointer (some ⟨w.heap.size, 0, none⟩)]] 73)).alloc (.cells #[.int .i64 7, .func (.func 31) #[] #[.pointer (some ⟨w.heap.size + 1, 0, none⟩)]] 75)) fun e w' => e = .returned (.agg #[.int .i64 (firstGo stepS [7] 0 l []).1, .int .i64 (((firstGo stepS [7] 0 l []).2 : Nat) : Int)]) ∧ Below w.heap.size w w' := by
  obtain ⟨W3, HW3⟩ : ∃ W3, Hid (W3 = ((w.alloc (.cells #[.slice none 0 0] 54)).alloc (.cells #[.func (.func 47) #[] #[.pointer (some ⟨w.heap.size, 0, none⟩)]] 73)).alloc (.cells #[.int .i64 7, .func (.func 31) #[] #[.pointer (some ⟨w.heap.size + 1, 0, none⟩)]] 75)) := ⟨_, rfl⟩
  have hz : W3.heap.size = w.heap.size + 3 := by rw [HW3.out]; simp
  have hb : Below w.heap.size w W3 := by rw [HW3.out]; exact (((Below.refl _ _).alloc (Nat.le_refl _) _).alloc (by simp) _).alloc (by simp; omega) _
  obtain ⟨a3, a2, a1⟩ := alloc3 w (.cells #[.slice none 0 0] 54) (.cells #[.func (.func 47) #[] #[.pointer (some ⟨w.heap.size, 0, none⟩)]] 73) (.cells #[.int .i64 7, .func (.func 31) #[] #[.pointer (some ⟨w.heap.size + 1, 0, none⟩)]] 75)
  rw [← HW3.out] at a1 a2 a3 ⊢
  have hB := brokenS_any (B := W3.heap.size) (B0 := w.heap.size) (cs := [w.heap.size]) (w := W3) (l := l) (rs := [⟨7, 31, #[.pointer (some ⟨w.heap.size + 1, 0, none⟩)]⟩]) (g := w.heap.size + 2) stepS (fun k j s W => SSt W W3.heap.size w.heap.size (w.heap.size + 1) s ∧ s.length ≤ k + j) []
    (fun W hW => hl.below SAt.stays (hb.trans hW)) a3 (by simp) (by omega) (Nat.le_refl _) (by simp) (by simp; omega) (by simp) ?_ ⟨⟨⟨_, a1, Row.nil _ _ _⟩, a2, by omega⟩, by simp⟩ (fun k j s W W' hW hI hb' => ⟨hI.1.below hb', hI.2⟩) (fun k s W _ hI => ⟨hI.1, hI.2⟩) ?_
  · refine hB.mono ?_
    rintro e w' ⟨rfl, hF⟩
    exact ⟨rfl, hb.trans (hF.below (by omega) (by omega) (by simp))⟩
  · intro r hr args w'
    rw [List.mem_singleton] at hr
    subst hr
    exact enters_of Tryz.func31 (by kernel_rfl) rfl args w'
  · intro k j r f s W hf hr hBW _ hI
    have hj : j = 0 := by
      cases j with
      | zero => rfl
      | succ j => simp at hr
    subst hj
    have hr : r = ⟨7, 31, #[.pointer (some ⟨w.heap.size + 1, 0, none⟩)]⟩ := by simpa using hr.symm
    subst hr
    have hk := (List.getElem?_eq_some_iff.1 hf).1
    refine (nameRule_call hI.1 hBW (by have := hI.2; omega) (by omega) f (hs f (mem_at hf))).mono ?_
    rintro e W' ⟨rfl, h1, h2⟩
    refine ⟨rfl, fun e => ⟨h1 e, ?_⟩, h2⟩
    have : (addL f s).length ≤ s.length + 1 := by unfold addL; split <;> simp
    have h3 := hI.2
    show (addL f s).length ≤ k + (0 + 1)
    omega

end L
end Go.Proofs.YtenlijgnmhdopaaGreatDoor

/- The contracts of itemRules, its functions, and wrongEnum. -/
namespace Go.Proofs.YtenlijgnmhdopaaGreatDoor
namespace L
open Go.RowKit

/-- Blocks, one behind the other. -/
def allocL (w : World) : List Obj → World
  | [] => w
  | o :: os => allocL (w.alloc o) os
theorem allocL_size : ∀ (os : List Obj) (w : World), (allocL w os).heap.size = w.heap.size + os.length
  | [], w => rfl
  | o :: os, w => by rw [allocL, allocL_size os]; simp; omega
theorem allocL_below : ∀ (os : List Obj) (w : World), Below w.heap.size w (allocL w os)
  | [], w => Below.refl _ _
  | o :: os, w => by
    rw [allocL]
    exact ((Below.refl _ _).alloc (Nat.le_refl _) o).trans ((allocL_below os (w.alloc o)).mono (by simp))
theorem allocL_at : ∀ (os : List Obj) (w : World) (i : Nat) (o : Obj), os[i]? = some o → (allocL w os).heap[w.heap.size + i]? = some o
  | [], _, _, _, h => by simp at h
  | p :: os, w, i, o, h => by
    rw [allocL]
    cases i with
    | zero =>
      simp at h
      subst h
      rw [(allocL_below os (w.alloc p)).block _ (by simp)]
      exact heap_alloc_new w p
    | succ i =>
      have h' : os[i]? = some o := by simpa using h
      have := allocL_at os (w.alloc p) i o h'
      rw [show w.heap.size + (i + 1) = (w.alloc p).heap.size + i by simp; omega]
      exact this

/-- Of what was there nothing but block c, and lists of T from block B on, has turned. -/
structure FrT (T : TypeId) (B c : Nat) (w w' : World) : Prop where
  os : w'.os = w.os
  tape : w'.tape = w.tape
  output : w'.output = w.output
  size : w.heap.size ≤ w'.heap.size
  block : ∀ k, k < w.heap.size → k ≠ c → (k < B ∨ ∀ xs fr, w.heap[k]? ≠ some (.cells xs T fr)) → w'.heap[k]? = w.heap[k]?
theorem FrT.fr {T : TypeId} {B c : Nat} {cs : List Nat} {w w' : World} (h : FrT T B c w w') (hT : T = 9 ∨ T = 3) (hc : c ∈ cs) : Fr B cs w w' :=
  ⟨h.os, h.tape, h.output, h.size, fun k hk hkc hq => h.block k hk (fun e => hkc (e ▸ hc)) (by
    rcases hq with hq | hq
    · exact .inl hq
    · right
      intro xs fr
      rcases hT with rfl | rfl
      · exact (hq xs fr).1
      · exact (hq xs fr).2)⟩
theorem FrT.of_upd {α : Type} {E : EK α} {B c : Nat} {v : Value} {l : List α} {w w' : World} (hr : Row E w B v l) (hu : Upd c v.ownBlock w w') : FrT E.elem B c w w' := by
  refine ⟨hu.os, hu.tape, hu.output, hu.size, fun k hk hkc hq => hu.block k hk hkc ?_⟩
  intro e
  have hown := hr.own k e
  rcases hr.2 with ⟨hv, _⟩ | ⟨g, cap, cur, hv, _, hg, _⟩
  · rw [hv] at e; simp [Value.ownBlock] at e
  · rw [hv] at e
    have e : g = k := by simpa [Value.ownBlock] using e
    subst e
    rcases hq with hq | hq
    · omega
    · exact hq cur (0, 0) hg
theorem Row.frt {α : Type} {E : EK α} {w w' : World} {B c : Nat} {T : TypeId} {v : Value} {l : List α} (h : Row E w B v l) (hF : FrT T B c w w') (hc : c < B) (hT : E.elem ≠ T) : Row E w' B v l := by
  refine ⟨h.1, ?_⟩
  rcases h.2 with hn | ⟨g, cap, cur, hv, hbg, hg, r⟩
  · exact .inl hn
  · refine .inr ⟨g, cap, cur, hv, hbg, ?_, r⟩
    rw [hF.block g (Array.getElem?_eq_some_iff.1 hg).1 (by omega) ?_]
    · exact hg
    · right
      intro xs fr
      rw [hg]
      simp
      intro _ e
      exact absurd e hT

/-- What is remembered of numbers: where, and which. -/
structure NSt (W : World) (B c p : Nat) (l : List Int) : Prop where
  row : ∃ v, W.heap[c]? = some (.cells #[v] 35 (0, 0)) ∧ Row ekN W B v l
  fn : W.heap[p]? = some (.cells #[.func (.func 81) #[] #[.pointer (some ⟨c, 0, none⟩)]] 78 (0, 0))
  lt : c < B
theorem NSt.below {W W' : World} {B c p : Nat} {l : List Int} (h : NSt W B c p l) (hb : Below W.heap.size W W') : NSt W' B c p l := by
  obtain ⟨⟨v, h1, h2⟩, h3, h4⟩ := h
  exact ⟨⟨v, (hb.block c (Array.getElem?_eq_some_iff.1 h1).1).trans h1, h2.below hb⟩, (hb.block p (Array.getElem?_eq_some_iff.1 h3).1).trans h3, h4⟩
theorem blk_frt {T : TypeId} {B c k : Nat} {w w' : World} {o : Obj} (hF : FrT T B c w w') (hk : w.heap[k]? = some o) (hc : k ≠ c) (hB : k < B) : w'.heap[k]? = some o :=
  (hF.block k (Array.getElem?_eq_some_iff.1 hk).1 hc (.inl hB)).trans hk
theorem NSt.frt {W W' : World} {B c p d : Nat} {l : List Int} (h : NSt W B c p l) (hF : FrT 9 B d W W') (hd : d < B) (hc : c ≠ d) (hp : p ≠ d) (hpB : p < B) : NSt W' B c p l := by
  obtain ⟨⟨v, h1, h2⟩, h3, h4⟩ := h
  exact ⟨⟨v, blk_frt hF h1 hc h4, h2.frt hF hd (by decide)⟩, blk_frt hF h3 hp hpB, h4⟩
theorem SSt.frt {W W' : World} {B c p d : Nat} {l : List (List UInt8)} (h : SSt W B c p l) (hF : FrT 3 B d W W') (hd : d < B) (hc : c ≠ d) (hp : p ≠ d) (hpB : p < B) : SSt W' B c p l := by
  obtain ⟨⟨v, h1, h2⟩, h3, h4⟩ := h
  exact ⟨⟨v, blk_frt hF h1 hc h4, h2.frt hF hd (by decide)⟩, blk_frt hF h3 hp hpB, h4⟩
theorem SSt.call2 {W : World} {B c p : Nat} {l : List (List UInt8)} (h : SSt W B c p l) (hB : B ≤ W.heap.size) (hl : l.length ≤ 1000) (hp : p ≠ c) (hpB : p < B) (x : List UInt8) :
    Calls Tryz.prog 47 #[.string (S x), .pointer (some ⟨c, 0, none⟩)] W fun e W' => e = .returned (.bool (decide (x ∈ l))) ∧ SSt W' B c p (addL x l) ∧ FrT 9 B c W W' := by
  obtain ⟨⟨v, h1, h2⟩, h3, h4⟩ := h
  refine (againS_call h1 h2 h4 hB hl x).mono ?_
  rintro e W' ⟨rfl, v', k1, k2, hu⟩
  have hF : FrT 9 B c W W' := FrT.of_upd h2 hu
  exact ⟨rfl, ⟨⟨v', k1, k2⟩, blk_frt hF h3 hp hpB, h4⟩, hF⟩
theorem NSt.call2 {W : World} {B c p : Nat} {l : List Int} (h : NSt W B c p l) (hB : B ≤ W.heap.size) (hl : l.length ≤ 1000) (hp : p ≠ c) (hpB : p < B) (x : Int) :
    Calls Tryz.prog 81 #[.int .i64 x, .pointer (some ⟨c, 0, none⟩)] W fun e W' => e = .returned (.bool (decide (x ∈ l))) ∧ NSt W' B c p (addL x l) ∧ FrT 3 B c W W' := by
  obtain ⟨⟨v, h1, h2⟩, h3, h4⟩ := h
  refine (againN_call h1 h2 h4 hB hl x).mono ?_
  rintro e W' ⟨rfl, v', k1, k2, hu⟩
  have hF : FrT 3 B c W W' := FrT.of_upd h2 hu
  exact ⟨rfl, ⟨⟨v', k1, k2⟩, blk_frt hF h3 hp hpB, h4⟩, hF⟩

def itRs (b : Nat) : List Ru := [⟨7, 65, #[.pointer (some ⟨b + 3, 0, none⟩)]⟩, ⟨3, 66, #[]⟩, ⟨8, 67, #[.pointer (some ⟨b, 0, none⟩), .pointer (some ⟨b + 4, 0, none⟩)]⟩]
def itObjs (b : Nat) (n : Int) : List Obj := [.cells #[.int .i64 n] 3, .cells #[.slice none 0 0] 54, .cells #[.slice none 0 0] 35, .cells #[.func (.func 47) #[] #[.pointer (some ⟨b + 1, 0, none⟩)]] 73, .cells #[.func (.func 81) #[] #[.pointer (some ⟨b + 2, 0, none⟩)]] 78, .cells (ruCells (itRs b)) 108]
set_option maxHeartbeats 1000000 in
set_option maxRecDepth 100000 in
theorem itemRules_new (n : Int) (w : World) : Calls Tryz.prog 39 #[.int .i64 n] w fun e w' => e = .returned (.slice (some ⟨w.heap.size + 5, 0, none⟩) 3 3) ∧ allocL w (itObjs w.heap.size n) = w' := by
  have hmf := makeF
  go_enter Tryz.func39, Tryz.ntmps39
  go_wp2_with fail
  refine (againS_new _).mono ?_
  rintro e w1 ⟨rfl, rfl⟩
  go_wp2_with fail
  refine (againN_new _).mono ?_
  rintro e w1 ⟨rfl, rfl⟩
  go_wp2
  go_ret
  exact ⟨rfl, rfl⟩

/-- What the item rules remember. -/
structure ISt (W : World) (B b : Nat) (n : Int) (s : List (List UInt8) × List Int) : Prop where
  names : SSt W B (b + 1) (b + 3) s.1
  vals : NSt W B (b + 2) (b + 4) s.2
  first : W.heap[b]? = some (.cells #[.int .i64 n] 3 (0, 0))
  lt : b + 5 < B
theorem ISt.below {W W' : World} {B b : Nat} {n : Int} {s : List (List UInt8) × List Int} (h : ISt W B b n s) (hb : Below W.heap.size W W') : ISt W' B b n s :=
  ⟨h.names.below hb, h.vals.below hb, (hb.block b (Array.getElem?_eq_some_iff.1 h.first).1).trans h.first, h.lt⟩
def stepI (n : Int) : Nat → II → List (List UInt8) × List Int → Bool × (List (List UInt8) × List Int)
  | 0, x, s => (!namedB x.name || decide (x.name ∈ s.1), (addL x.name s.1, s.2))
  | 1, x, s => (decide (x.value < -2147483648) || decide (2147483647 < x.value), s)
  | _, x, s => (decide (n ≠ 0) || decide (x.value ∈ s.2), (s.1, addL x.value s.2))

set_option maxHeartbeats 1000000 in
set_option maxRecDepth 100000 in
theorem itemRule1 {W : World} {B b : Nat} {n : Int} {s : List (List UInt8) × List Int} (h : ISt W B b n s) (hB : B ≤ W.heap.size) (hl : s.1.length ≤ 1000) (x : II) (hx : x.name.length ≤ 9223372036854775807) :
    Calls Tryz.prog 65 #[iv x, .pointer (some ⟨b + 3, 0, none⟩)] W fun e W' => e = .returned (.bool (stepI n 0 x s).1) ∧ ((stepI n 0 x s).1 = false → ISt W' B b n (stepI n 0 x s).2) ∧ Fr B [b + 1, b + 2] W W' := by
  have hba := (Below.refl W.heap.size W).alloc (Nat.le_refl _) (.cells #[.string (S x.name), .int .i64 x.value] 52)
  have h1 := h.below hba
  have c0 : (W.alloc (.cells #[.string (S x.name), .int .i64 x.value] 52)).cell? ⟨b + 3, 0, none⟩ = some (.func (.func 47) #[] #[.pointer (some ⟨b + 1, 0, none⟩)]) := cell_of_blk h1.names.fn 0 _ rfl
  have hnm := named_any x.name hx (W.alloc (.cells #[.string (S x.name), .int .i64 x.value] 52))
  have hlt := h.lt
  have hcc := h1.names.call2 (Nat.le_trans hB hba.size) hl (by omega) (by omega) x.name
  unfold iv
  cases hq : namedB x.name with
  | false =>
    have HN : Hid ((stepI n 0 x s).1 = true) := by show _ = _; rw [stepI, hq]; rfl
    rw [hq] at hnm
    clear hq hcc
    go_enter Tryz.func65, Tryz.ntmps65
    go_wp2_with fail
    refine hnm.mono ?_
    rintro e w1 ⟨rfl, rfl⟩
    go_wp2
    go_ret
    refine ⟨by rw [HN.out]; rfl, fun e => ?_, Fr.of_below hba⟩
    rw [HN.out] at e; cases e
  | true =>
    have HN : Hid ((stepI n 0 x s).1 = decide (x.name ∈ s.1)) := by show _ = _; rw [stepI, hq]; rfl
    rw [hq] at hnm
    clear hq
    go_enter Tryz.func65, Tryz.ntmps65
    go_wp2_with fail
    refine hnm.mono ?_
    rintro e w1 ⟨rfl, rfl⟩
    go_wp2_with fail
    refine hcc.mono ?_
    rintro e w2 ⟨rfl, h2, hF⟩
    go_wp2
    go_ret
    refine ⟨by rw [HN.out]; rfl, fun _ => ⟨h2, h1.vals.frt hF (by omega) (by omega) (by omega) (by omega), blk_frt hF h1.first (by omega) (by omega), hlt⟩, (Fr.of_below hba).trans (hF.fr (.inl rfl) (by simp))⟩

set_option maxHeartbeats 1000000 in
set_option maxRecDepth 100000 in
theorem itemRule2 {W : World} {B b : Nat} {n : Int} {s : List (List UInt8) × List Int} (h : ISt W B b n s) (x : II) :
    Calls Tryz.prog 66 #[iv x] W fun e W' => e = .returned (.bool (stepI n 1 x s).1) ∧ ((stepI n 1 x s).1 = false → ISt W' B b n (stepI n 1 x s).2) ∧ Fr B [b + 1, b + 2] W W' := by
  have hba := (Below.refl W.heap.size W).alloc (Nat.le_refl _) (.cells #[.string (S x.name), .int .i64 x.value] 52)
  have h1 := h.below hba
  unfold iv
  obtain ⟨q1, hq1⟩ : ∃ q, decide (x.value < -2147483648) = q := ⟨_, rfl⟩
  obtain ⟨q2, hq2⟩ : ∃ q, decide (2147483647 < x.value) = q := ⟨_, rfl⟩
  have HN : Hid ((stepI n 1 x s).1 = (q1 || q2)) := by show _ = _; rw [stepI, hq1, hq2]
  cases q1 <;> cases q2
  all_goals simp only [decide_eq_true_eq, decide_eq_false_iff_not] at hq1 hq2
  all_goals first | (exfalso; omega) | skip
  all_goals go_enter Tryz.func66, Tryz.ntmps66
  all_goals go_wp2
  all_goals go_ret
  all_goals exact ⟨by rw [HN.out]; rfl, fun _ => h1, Fr.of_below hba⟩

set_option maxHeartbeats 1000000 in
set_option maxRecDepth 100000 in
theorem itemRule3 {W : World} {B b : Nat} {n : Int} {s : List (List UInt8) × List Int} (h : ISt W B b n s) (hB : B ≤ W.heap.size) (hl : s.2.length ≤ 1000) (x : II) :
    Calls Tryz.prog 67 #[iv x, .pointer (some ⟨b, 0, none⟩), .pointer (some ⟨b + 4, 0, none⟩)] W fun e W' => e = .returned (.bool (stepI n 2 x s).1) ∧ ((stepI n 2 x s).1 = false → ISt W' B b n (stepI n 2 x s).2) ∧ Fr B [b + 1, b + 2] W W' := by
  have hba := (Below.refl W.heap.size W).alloc (Nat.le_refl _) (.cells #[.string (S x.name), .int .i64 x.value] 52)
  have h1 := h.below hba
  have c0 : (W.alloc (.cells #[.string (S x.name), .int .i64 x.value] 52)).cell? ⟨b + 4, 0, none⟩ = some (.func (.func 81) #[] #[.pointer (some ⟨b + 2, 0, none⟩)]) := cell_of_blk h1.vals.fn 0 _ rfl
  have c1 : (W.alloc (.cells #[.string (S x.name), .int .i64 x.value] 52)).cell? ⟨b, 0, none⟩ = some (.int .i64 n) := cell_of_blk h1.first 0 _ rfl
  have hlt := h.lt
  have hcc := h1.vals.call2 (Nat.le_trans hB hba.size) hl (by omega) (by omega) x.value
  unfold iv
  obtain ⟨q1, hq1⟩ : ∃ q, (n != 0) = q := ⟨_, rfl⟩
  have HN : Hid ((stepI n 2 x s).1 = (q1 || decide (x.value ∈ s.2))) := by
    have e : decide (n ≠ 0) = (n != 0) := by rw [Bool.eq_iff_iff]; simp
    show (decide (n ≠ 0) || decide (x.value ∈ s.2)) = _
    rw [e, hq1]
  cases q1 with
  | true =>
    clear hcc
    go_enter Tryz.func67, Tryz.ntmps67
    go_wp2
    go_ret
    refine ⟨by rw [HN.out]; rfl, fun e => ?_, Fr.of_below hba⟩
    rw [HN.out] at e; cases e
  | false =>
    go_enter Tryz.func67, Tryz.ntmps67
    go_wp2_with fail
    refine hcc.mono ?_
    rintro e w2 ⟨rfl, h2, hF⟩
    go_wp2
    go_ret
    refine ⟨by rw [HN.out]; rfl, fun _ => ⟨h1.names.frt hF (by omega) (by omega) (by omega) (by omega), h2, blk_frt hF h1.first (by omega) (by omega), hlt⟩, (Fr.of_below hba).trans (hF.fr (.inr rfl) (by simp))⟩

end L
end Go.Proofs.YtenlijgnmhdopaaGreatDoor

/- The contracts of canBeNumber, hasType, needlessType. -/
namespace Go.Proofs.YtenlijgnmhdopaaGreatDoor
namespace L
open Go.RowKit

def canB (n : Int) : Bool := decide (1 ≤ n) && (decide (n < 536870912) && (decide (n < 19000) || decide (19999 < n)))
set_option maxHeartbeats 1000000 in
set_option maxRecDepth 100000 in
theorem can_any (n : Int) (w : World) : Calls Tryz.prog 56 #[.int .i64 n] w fun e w' => e = .returned (.bool (canB n)) ∧ w = w' := by
  obtain ⟨q1, hq1⟩ : ∃ q, decide (1 ≤ n) = q := ⟨_, rfl⟩
  obtain ⟨q2, hq2⟩ : ∃ q, decide (n < 536870912) = q := ⟨_, rfl⟩
  obtain ⟨q3, hq3⟩ : ∃ q, decide (n < 19000) = q := ⟨_, rfl⟩
  obtain ⟨q4, hq4⟩ : ∃ q, decide (19999 < n) = q := ⟨_, rfl⟩
  have HN : Hid (canB n = (q1 && (q2 && (q3 || q4)))) := by show _ = _; rw [canB, hq1, hq2, hq3, hq4]
  cases q1 <;> cases q2 <;> cases q3 <;> cases q4
  all_goals simp only [decide_eq_true_eq, decide_eq_false_iff_not] at hq1 hq2 hq3 hq4
  all_goals first | (exfalso; omega) | skip
  all_goals go_enter Tryz.func56, Tryz.ntmps56
  all_goals go_wp2
  all_goals go_ret
  all_goals exact ⟨by rw [HN.out]; rfl, rfl⟩

def hasB (g : GI) (x : FI) : Bool := if x.kind = 10 then decide (0 ≤ firstI (fun m => decide (m.name = x.type)) g.msgs) else if x.kind = 5 then decide (0 ≤ firstI (fun m => decide (m.name = x.type)) g.enums) else true
set_option maxHeartbeats 1000000 in
set_option maxRecDepth 100000 in
theorem hasType_any {w : World} {vm ve : Value} {g : GI} (h : GRd w vm ve g) (x : FI) : Calls Tryz.prog 61 #[.agg #[vm, ve], fv x] w fun e w' => e = .returned (.bool (hasB g x)) ∧ Below w.heap.size w w' := by
  obtain ⟨am, nm, cm, rfl, Hnm, hcm⟩ := h.1.shape
  obtain ⟨ae, ne, ce, rfl, Hne, hce⟩ := h.2.shape
  have hb2 : Below w.heap.size w ((w.alloc (.cells #[.slice am nm cm, .slice ae ne ce] 25)).alloc (.cells #[.string (S x.name), .int .i64 x.number, .int .i64 x.kind, .string (S x.type), .bool x.many, .int .i64 x.choice] 39)) := ((Below.refl _ _).alloc (Nat.le_refl _) _).alloc (by simp) _
  have h2 := h.below hb2
  have hms := message_any h2.1 ⟨ae, ne, ce, rfl⟩ x.type
  have hen := enum_any h2.2 ⟨am, nm, cm, rfl⟩ x.type
  unfold fv
  by_cases h10 : x.kind = 10
  · have HN : Hid (hasB g x = decide (0 ≤ firstI (fun m => decide (m.name = x.type)) g.msgs)) := by show _ = _; rw [hasB, if_pos h10]
    have hk : (x.kind == 10) = true := by simp [h10]
    generalize firstI (fun m => decide (m.name = x.type)) g.msgs = r at hms HN
    clear h10 hen
    go_enter Tryz.func61, Tryz.ntmps61
    go_wp2_with fail
    refine hms.mono ?_
    rintro e w1 ⟨rfl, hb1⟩
    go_wp2
    go_ret
    exact ⟨by rw [HN.out]; rfl, hb2.trans (hb1.mono hb2.size)⟩
  · have hk : (x.kind == 10) = false := by simp [h10]
    by_cases h5 : x.kind = 5
    · have HN : Hid (hasB g x = decide (0 ≤ firstI (fun m => decide (m.name = x.type)) g.enums)) := by show _ = _; rw [hasB, if_neg h10, if_pos h5]
      have hk5 : (x.kind == 5) = true := by simp [h5]
      generalize firstI (fun m => decide (m.name = x.type)) g.enums = r at hen HN
      clear h10 h5 hms
      go_enter Tryz.func61, Tryz.ntmps61
      go_wp2_with fail
      refine hen.mono ?_
      rintro e w1 ⟨rfl, hb1⟩
      go_wp2
      go_ret
      exact ⟨by rw [HN.out]; rfl, hb2.trans (hb1.mono hb2.size)⟩
    · have HN : Hid (hasB g x = true) := by show _ = _; rw [hasB, if_neg h10, if_neg h5]
      have hk5 : (x.kind == 5) = false := by simp [h5]
      clear h10 h5 hms hen
      go_enter Tryz.func61, Tryz.ntmps61
      go_wp2
      go_ret
      exact ⟨by rw [HN.out]; rfl, hb2⟩

def needB (x : FI) : Bool := decide (x.kind ≠ 10) && (decide (x.kind ≠ 5) && !x.type.isEmpty)
set_option maxHeartbeats 1000000 in
set_option maxRecDepth 100000 in
theorem needless_any (x : FI) (w : World) : Calls Tryz.prog 63 #[fv x] w fun e w' => e = .returned (.bool (needB x)) ∧ Below w.heap.size w w' := by
  have hba := (Below.refl w.heap.size w).alloc (Nat.le_refl _) (.cells #[.string (S x.name), .int .i64 x.number, .int .i64 x.kind, .string (S x.type), .bool x.many, .int .i64 x.choice] 39)
  obtain ⟨q1, hq1⟩ : ∃ q, (x.kind != 10) = q := ⟨_, rfl⟩
  obtain ⟨q2, hq2⟩ : ∃ q, (x.kind != 5) = q := ⟨_, rfl⟩
  obtain ⟨q3, hq3⟩ : ∃ q, (S x.type).toList.isEmpty = q := ⟨_, rfl⟩
  have HN : Hid (needB x = (q1 && (q2 && !q3))) := by
    have e1 : decide (x.kind ≠ 10) = (x.kind != 10) := by rw [Bool.eq_iff_iff]; simp
    have e2 : decide (x.kind ≠ 5) = (x.kind != 5) := by rw [Bool.eq_iff_iff]; simp
    show _ = _; rw [needB, e1, e2, hq1, hq2, ← hq3, S_list]
  unfold fv
  cases q1 <;> cases q2 <;> cases q3
  all_goals go_enter Tryz.func63, Tryz.ntmps63
  all_goals go_wp2
  all_goals go_ret
  all_goals exact ⟨by rw [HN.out]; rfl, hba⟩

end L
end Go.Proofs.YtenlijgnmhdopaaGreatDoor

/- The contracts of fieldRules and of its functions. -/
namespace Go.Proofs.YtenlijgnmhdopaaGreatDoor
namespace L
open Go.RowKit

def flRs (b : Nat) : List Ru := [⟨7, 54, #[.pointer (some ⟨b + 6, 0, none⟩)]⟩, ⟨3, 55, #[]⟩, ⟨8, 57, #[.pointer (some ⟨b + 1, 0, none⟩), .pointer (some ⟨b + 7, 0, none⟩)]⟩, ⟨1, 59, #[]⟩, ⟨6, 60, #[.pointer (some ⟨b, 0, none⟩)]⟩, ⟨8, 62, #[]⟩, ⟨2, 64, #[.pointer (some ⟨b + 8, 0, none⟩)]⟩]
def misF (b : Nat) : Value := .func (.func 82) #[] #[.pointer (some ⟨b + 4, 0, none⟩), .pointer (some ⟨b + 5, 0, none⟩)]
def flObjs (b : Nat) (vm ve nm vf vb : Value) : List Obj := [.cells #[vm, ve] 25, .cells #[nm, vf, vb] 37, .cells #[.slice none 0 0] 54, .cells #[.slice none 0 0] 35, .cells #[.int .i64 0] 3, .cells #[.int .i64 0] 3, .cells #[.func (.func 47) #[] #[.pointer (some ⟨b + 2, 0, none⟩)]] 73, .cells #[.func (.func 81) #[] #[.pointer (some ⟨b + 3, 0, none⟩)]] 78, .cells #[misF b] 78, .cells (ruCells (flRs b)) 102]
set_option maxHeartbeats 1000000 in
set_option maxRecDepth 100000 in
theorem fieldRules_new (a1 a2 a3 a4 : Option Addr) (n1 n2 n3 n4 c1 c2 c3 c4 : Nat) (s : List UInt8) (w : World) : Calls Tryz.prog 37 #[.agg #[.slice a1 n1 c1, .slice a2 n2 c2], .agg #[.string (S s), .slice a3 n3 c3, .slice a4 n4 c4]] w fun e w' => e = .returned (.slice (some ⟨w.heap.size + 9, 0, none⟩) 7 7) ∧ allocL w (flObjs w.heap.size (.slice a1 n1 c1) (.slice a2 n2 c2) (.string (S s)) (.slice a3 n3 c3) (.slice a4 n4 c4)) = w' := by
  have hmf := makeF
  go_enter Tryz.func37, Tryz.ntmps37
  go_wp2_with fail
  refine (againS_new _).mono ?_
  rintro e w1 ⟨rfl, rfl⟩
  go_wp2_with fail
  refine (againN_new _).mono ?_
  rintro e w1 ⟨rfl, rfl⟩
  go_wp2_with fail
  refine (mis_new _).mono ?_
  rintro e w1 ⟨rfl, rfl⟩
  go_wp2
  go_ret
  exact ⟨rfl, rfl⟩

/-- What the field rules remember: names, numbers, the last choice, how many there were. -/
structure Mem where
  names : List (List UInt8)
  nums : List Int
  last : Int
  begun : Int
structure KSt (w0 W : World) (B b : Nat) (a1 a2 a3 a4 : Option Addr) (n1 n2 n3 n4 c1 c2 c3 c4 : Nat) (nm : List UInt8) (s : Mem) : Prop where
  names : SSt W B (b + 2) (b + 6) s.names
  nums : NSt W B (b + 3) (b + 7) s.nums
  last : W.heap[b + 4]? = some (.cells #[.int .i64 s.last] 3 (0, 0))
  begun : W.heap[b + 5]? = some (.cells #[.int .i64 s.begun] 3 (0, 0))
  mis : W.heap[b + 8]? = some (.cells #[misF b] 78 (0, 0))
  file : W.heap[b]? = some (.cells #[.slice a1 n1 c1, .slice a2 n2 c2] 25 (0, 0))
  msg : W.heap[b + 1]? = some (.cells #[.string (S nm), .slice a3 n3 c3, .slice a4 n4 c4] 37 (0, 0))
  lt : b + 9 < B
  size : B ≤ W.heap.size
  base : b = w0.heap.size
  bel : Below b w0 W
section
variable {w0 W W' : World} {B b : Nat} {a1 a2 a3 a4 : Option Addr} {n1 n2 n3 n4 c1 c2 c3 c4 : Nat} {nm : List UInt8} {s : Mem}
theorem KSt.below (h : KSt w0 W B b a1 a2 a3 a4 n1 n2 n3 n4 c1 c2 c3 c4 nm s) (hb : Below W.heap.size W W') : KSt w0 W' B b a1 a2 a3 a4 n1 n2 n3 n4 c1 c2 c3 c4 nm s := by
  have k : ∀ {i o}, W.heap[i]? = some o → W'.heap[i]? = some o := fun {i o} hi => (hb.block i (Array.getElem?_eq_some_iff.1 hi).1).trans hi
  have hl := h.lt
  have hs := h.size
  exact ⟨h.names.below hb, h.nums.below hb, k h.last, k h.begun, k h.mis, k h.file, k h.msg, h.lt, Nat.le_trans h.size hb.size, h.base, h.bel.trans (hb.mono (by omega))⟩
theorem KSt.setS {l : List (List UInt8)} (h : KSt w0 W B b a1 a2 a3 a4 n1 n2 n3 n4 c1 c2 c3 c4 nm s) (hS : SSt W' B (b + 2) (b + 6) l) (hF : FrT 9 B (b + 2) W W') : KSt w0 W' B b a1 a2 a3 a4 n1 n2 n3 n4 c1 c2 c3 c4 nm ⟨l, s.nums, s.last, s.begun⟩ := by
  have hl := h.lt
  have hs := h.size
  exact ⟨hS, h.nums.frt hF (by omega) (by omega) (by omega) (by omega), blk_frt hF h.last (by omega) (by omega), blk_frt hF h.begun (by omega) (by omega), blk_frt hF h.mis (by omega) (by omega), blk_frt hF h.file (by omega) (by omega), blk_frt hF h.msg (by omega) (by omega), hl, Nat.le_trans hs hF.size, h.base, h.bel.trans ⟨hF.os, hF.tape, hF.output, hF.size, fun k hk => hF.block k (by omega) (by omega) (.inl (by omega))⟩⟩
theorem KSt.setN {l : List Int} (h : KSt w0 W B b a1 a2 a3 a4 n1 n2 n3 n4 c1 c2 c3 c4 nm s) (hS : NSt W' B (b + 3) (b + 7) l) (hF : FrT 3 B (b + 3) W W') : KSt w0 W' B b a1 a2 a3 a4 n1 n2 n3 n4 c1 c2 c3 c4 nm ⟨s.names, l, s.last, s.begun⟩ := by
  have hl := h.lt
  have hs := h.size
  exact ⟨h.names.frt hF (by omega) (by omega) (by omega) (by omega), hS, blk_frt hF h.last (by omega) (by omega), blk_frt hF h.begun (by omega) (by omega), blk_frt hF h.mis (by omega) (by omega), blk_frt hF h.file (by omega) (by omega), blk_frt hF h.msg (by omega) (by omega), hl, Nat.le_trans hs hF.size, h.base, h.bel.trans ⟨hF.os, hF.tape, hF.output, hF.size, fun k hk => hF.block k (by omega) (by omega) (.inl (by omega))⟩⟩
theorem Row.same {α : Type} {E : EK α} {v : Value} {l : List α} (h : Row E W B v l) (hk : ∀ k, B ≤ k → W'.heap[k]? = W.heap[k]?) : Row E W' B v l := by
  refine ⟨h.1, ?_⟩
  rcases h.2 with hn | ⟨g, cap, cur, hv, hbg, hg, r⟩
  · exact .inl hn
  · exact .inr ⟨g, cap, cur, hv, hbg, by rw [hk g hbg]; exact hg, r⟩
theorem KSt.setM {x y : Int} (h : KSt w0 W B b a1 a2 a3 a4 n1 n2 n3 n4 c1 c2 c3 c4 nm s) (h1 : W'.heap[b + 4]? = some (.cells #[.int .i64 x] 3 (0, 0))) (h2 : W'.heap[b + 5]? = some (.cells #[.int .i64 y] 3 (0, 0))) (hk : ∀ k, ¬ k = b + 4 → ¬ k = b + 5 → W'.heap[k]? = W.heap[k]?) (hz : W'.heap.size = W.heap.size) (ho : W'.os = W.os) (ht : W'.tape = W.tape) (hu : W'.output = W.output) : KSt w0 W' B b a1 a2 a3 a4 n1 n2 n3 n4 c1 c2 c3 c4 nm ⟨s.names, s.nums, x, y⟩ := by
  have hl := h.lt
  have hs := h.size
  obtain ⟨⟨v1, r1, r2⟩, r3, r4⟩ := h.names
  obtain ⟨⟨v2, q1, q2⟩, q3, q4⟩ := h.nums
  refine ⟨⟨⟨v1, (hk _ (by omega) (by omega)).trans r1, r2.same fun k hb => hk k (by omega) (by omega)⟩, (hk _ (by omega) (by omega)).trans r3, r4⟩, ⟨⟨v2, (hk _ (by omega) (by omega)).trans q1, q2.same fun k hb => hk k (by omega) (by omega)⟩, (hk _ (by omega) (by omega)).trans q3, q4⟩, h1, h2, (hk _ (by omega) (by omega)).trans h.mis, (hk _ (by omega) (by omega)).trans h.file, (hk _ (by omega) (by omega)).trans h.msg, hl, by omega, h.base, h.bel.trans ⟨ho, ht, hu, by omega, fun k hb => hk k (by omega) (by omega)⟩⟩
end
/-- The rules of fields, as chapter 3 tells them. -/
def stepF (g : GI) (bar : List Int) : Nat → FI → Mem → Bool × Mem
  | 0, x, s => (!namedB x.name || decide (x.name ∈ s.names), ⟨addL x.name s.names, s.nums, s.last, s.begun⟩)
  | 1, x, s => (!canB x.number, s)
  | 2, x, s => (decide (x.number ∈ bar) || decide (x.number ∈ s.nums), ⟨s.names, addL x.number s.nums, s.last, s.begun⟩)
  | 3, x, s => (decide (x.kind < 1) || decide (10 < x.kind), s)
  | 4, x, s => (!hasB g x, s)
  | 5, x, s => (needB x || (decide (0 < x.choice) && x.many), s)
  | _, x, s => (misB s.last s.begun x.choice, ⟨s.names, s.nums, x.choice, max s.begun x.choice⟩)

set_option maxHeartbeats 1000000 in
set_option maxRecDepth 100000 in
theorem fieldRule1 {w0 W : World} {B b : Nat} {a1 a2 a3 a4 : Option Addr} {n1 n2 n3 n4 c1 c2 c3 c4 : Nat} {nm : List UInt8} {s : Mem} (g : GI) (bar : List Int) (h : KSt w0 W B b a1 a2 a3 a4 n1 n2 n3 n4 c1 c2 c3 c4 nm s) (hl : s.names.length ≤ 1000) (x : FI) (hx : x.name.length ≤ 9223372036854775807) :
    Calls Tryz.prog 54 #[fv x, .pointer (some ⟨b + 6, 0, none⟩)] W fun e W' => e = .returned (.bool (stepF g bar 0 x s).1) ∧ ((stepF g bar 0 x s).1 = false → KSt w0 W' B b a1 a2 a3 a4 n1 n2 n3 n4 c1 c2 c3 c4 nm (stepF g bar 0 x s).2) ∧ Fr B [b + 2, b + 3, b + 4, b + 5] W W' := by
  obtain ⟨W1, HW1⟩ : ∃ W1, Hid (W1 = W.alloc (.cells #[.string (S x.name), .int .i64 x.number, .int .i64 x.kind, .string (S x.type), .bool x.many, .int .i64 x.choice] 39)) := ⟨_, rfl⟩
  have hba : Below W.heap.size W W1 := by rw [HW1.out]; exact (Below.refl _ _).alloc (Nat.le_refl _) _
  have hX1 : W1.heap[W.heap.size]? = some (.cells #[.string (S x.name), .int .i64 x.number, .int .i64 x.kind, .string (S x.type), .bool x.many, .int .i64 x.choice] 39 (0, 0)) := by rw [HW1.out]; exact heap_alloc_new _ _
  obtain ⟨x0, x1, x2, x3, x4, x5⟩ := blk6 hX1
  have h1 := h.below hba
  have hlt := h.lt
  have hsz := h1.size
  have hF0 : Fr B [b + 2, b + 3, b + 4, b + 5] W W1 := Fr.of_below hba
  have c0 : W1.cell? ⟨b + 6, 0, none⟩ = some (.func (.func 47) #[] #[.pointer (some ⟨b + 2, 0, none⟩)]) := cell_of_blk h1.names.fn 0 _ rfl
  have hnm := named_any x.name hx W1
  have hcc := h1.names.call2 hsz hl (by omega) (by omega) x.name
  unfold fv
  cases hq : namedB x.name with
  | false =>
    have HN : Hid ((stepF g bar 0 x s).1 = true) := by show _ = _; rw [stepF, hq]; rfl
    rw [hq] at hnm
    clear hq hcc
    go_enter Tryz.func54, Tryz.ntmps54
    go_wp2_with fail
    rw [← HW1.out]
    refine hnm.mono ?_
    rintro e w1 ⟨rfl, rfl⟩
    go_wp2
    go_ret
    refine ⟨by rw [HN.out]; rfl, fun e => ?_, hF0⟩
    rw [HN.out] at e; cases e
  | true =>
    have HN : Hid ((stepF g bar 0 x s).1 = decide (x.name ∈ s.names)) := by show _ = _; rw [stepF, hq]; rfl
    rw [hq] at hnm
    clear hq
    go_enter Tryz.func54, Tryz.ntmps54
    go_wp2_with fail
    rw [← HW1.out]
    refine hnm.mono ?_
    rintro e w1 ⟨rfl, rfl⟩
    go_wp2_with fail
    refine hcc.mono ?_
    rintro e w2 ⟨rfl, h2, hF⟩
    go_wp2
    go_ret
    exact ⟨by rw [HN.out]; rfl, fun _ => h1.setS h2 hF, hF0.trans (hF.fr (.inl rfl) (by simp))⟩

set_option maxHeartbeats 1000000 in
set_option maxRecDepth 100000 in
theorem fieldRule2 {w0 W : World} {B b : Nat} {a1 a2 a3 a4 : Option Addr} {n1 n2 n3 n4 c1 c2 c3 c4 : Nat} {nm : List UInt8} {s : Mem} (g : GI) (bar : List Int) (h : KSt w0 W B b a1 a2 a3 a4 n1 n2 n3 n4 c1 c2 c3 c4 nm s) (x : FI) :
    Calls Tryz.prog 55 #[fv x] W fun e W' => e = .returned (.bool (stepF g bar 1 x s).1) ∧ ((stepF g bar 1 x s).1 = false → KSt w0 W' B b a1 a2 a3 a4 n1 n2 n3 n4 c1 c2 c3 c4 nm (stepF g bar 1 x s).2) ∧ Fr B [b + 2, b + 3, b + 4, b + 5] W W' := by
  obtain ⟨W1, HW1⟩ : ∃ W1, Hid (W1 = W.alloc (.cells #[.string (S x.name), .int .i64 x.number, .int .i64 x.kind, .string (S x.type), .bool x.many, .int .i64 x.choice] 39)) := ⟨_, rfl⟩
  have hba : Below W.heap.size W W1 := by rw [HW1.out]; exact (Below.refl _ _).alloc (Nat.le_refl _) _
  have hX1 : W1.heap[W.heap.size]? = some (.cells #[.string (S x.name), .int .i64 x.number, .int .i64 x.kind, .string (S x.type), .bool x.many, .int .i64 x.choice] 39 (0, 0)) := by rw [HW1.out]; exact heap_alloc_new _ _
  obtain ⟨x0, x1, x2, x3, x4, x5⟩ := blk6 hX1
  have h1 := h.below hba
  have hlt := h.lt
  have hsz := h1.size
  have hF0 : Fr B [b + 2, b + 3, b + 4, b + 5] W W1 := Fr.of_below hba
  have hcb := can_any x.number W1
  unfold fv
  have HN : Hid ((stepF g bar 1 x s).1 = !canB x.number) := rfl
  generalize canB x.number = q at hcb HN
  go_enter Tryz.func55, Tryz.ntmps55
  go_wp2_with fail
  rw [← HW1.out]
  refine hcb.mono ?_
  rintro e w1 ⟨rfl, rfl⟩
  go_wp2
  go_ret
  exact ⟨by rw [HN.out]; rfl, fun _ => h1, hF0⟩

set_option maxHeartbeats 1000000 in
set_option maxRecDepth 100000 in
theorem fieldRule3 {w0 W : World} {B b : Nat} {a1 a2 a3 a4 : Option Addr} {n1 n2 n3 n4 c1 c2 c3 c4 : Nat} {nm : List UInt8} {s : Mem} (g : GI) (bar : List Int) (h : KSt w0 W B b a1 a2 a3 a4 n1 n2 n3 n4 c1 c2 c3 c4 nm s) (hl : s.nums.length ≤ 1000) (hbar : RdL 1 NAt w0 (.slice a4 n4 c4) bar) (x : FI) :
    Calls Tryz.prog 57 #[fv x, .pointer (some ⟨b + 1, 0, none⟩), .pointer (some ⟨b + 7, 0, none⟩)] W fun e W' => e = .returned (.bool (stepF g bar 2 x s).1) ∧ ((stepF g bar 2 x s).1 = false → KSt w0 W' B b a1 a2 a3 a4 n1 n2 n3 n4 c1 c2 c3 c4 nm (stepF g bar 2 x s).2) ∧ Fr B [b + 2, b + 3, b + 4, b + 5] W W' := by
  obtain ⟨W1, HW1⟩ : ∃ W1, Hid (W1 = W.alloc (.cells #[.string (S x.name), .int .i64 x.number, .int .i64 x.kind, .string (S x.type), .bool x.many, .int .i64 x.choice] 39)) := ⟨_, rfl⟩
  have hba : Below W.heap.size W W1 := by rw [HW1.out]; exact (Below.refl _ _).alloc (Nat.le_refl _) _
  have hX1 : W1.heap[W.heap.size]? = some (.cells #[.string (S x.name), .int .i64 x.number, .int .i64 x.kind, .string (S x.type), .bool x.many, .int .i64 x.choice] 39 (0, 0)) := by rw [HW1.out]; exact heap_alloc_new _ _
  obtain ⟨x0, x1, x2, x3, x4, x5⟩ := blk6 hX1
  have h1 := h.below hba
  have hlt := h.lt
  have hsz := h1.size
  have hF0 : Fr B [b + 2, b + 3, b + 4, b + 5] W W1 := Fr.of_below hba
  have c0 : W1.cell? ⟨b + 7, 0, none⟩ = some (.func (.func 81) #[] #[.pointer (some ⟨b + 3, 0, none⟩)]) := cell_of_blk h1.nums.fn 0 _ rfl
  obtain ⟨_, _, m2⟩ := blk3 h1.msg
  rw [HW1.out] at m2
  have hct := containsN_any (hbar.below NAt.stays (h.base ▸ h1.bel)) x.number
  have hcc := h1.nums.call2 hsz hl (by omega) (by omega) x.number
  unfold fv
  cases hq : decide (x.number ∈ bar) with
  | true =>
    have HN : Hid ((stepF g bar 2 x s).1 = true) := by show _ = _; rw [stepF, hq]; rfl
    rw [hq] at hct
    clear hq hcc
    go_enter Tryz.func57, Tryz.ntmps57
    go_wp2_with fail
    rw [← HW1.out]
    refine hct.mono ?_
    rintro e w1 ⟨rfl, rfl⟩
    go_wp2
    go_ret
    refine ⟨by rw [HN.out]; rfl, fun e => ?_, hF0⟩
    rw [HN.out] at e; cases e
  | false =>
    have HN : Hid ((stepF g bar 2 x s).1 = decide (x.number ∈ s.nums)) := by show _ = _; rw [stepF, hq]; rfl
    rw [hq] at hct
    clear hq
    go_enter Tryz.func57, Tryz.ntmps57
    go_wp2_with fail
    rw [← HW1.out]
    refine hct.mono ?_
    rintro e w1 ⟨rfl, rfl⟩
    go_wp2_with fail
    refine hcc.mono ?_
    rintro e w2 ⟨rfl, h2, hF⟩
    go_wp2
    go_ret
    exact ⟨by rw [HN.out]; rfl, fun _ => h1.setN h2 hF, hF0.trans (hF.fr (.inr rfl) (by simp))⟩

set_option maxHeartbeats 1000000 in
set_option maxRecDepth 100000 in
theorem fieldRule4 {w0 W : World} {B b : Nat} {a1 a2 a3 a4 : Option Addr} {n1 n2 n3 n4 c1 c2 c3 c4 : Nat} {nm : List UInt8} {s : Mem} (g : GI) (bar : List Int) (h : KSt w0 W B b a1 a2 a3 a4 n1 n2 n3 n4 c1 c2 c3 c4 nm s) (x : FI) :
    Calls Tryz.prog 59 #[fv x] W fun e W' => e = .returned (.bool (stepF g bar 3 x s).1) ∧ ((stepF g bar 3 x s).1 = false → KSt w0 W' B b a1 a2 a3 a4 n1 n2 n3 n4 c1 c2 c3 c4 nm (stepF g bar 3 x s).2) ∧ Fr B [b + 2, b + 3, b + 4, b + 5] W W' := by
  obtain ⟨W1, HW1⟩ : ∃ W1, Hid (W1 = W.alloc (.cells #[.string (S x.name), .int .i64 x.number, .int .i64 x.kind, .string (S x.type), .bool x.many, .int .i64 x.choice] 39)) := ⟨_, rfl⟩
  have hba : Below W.heap.size W W1 := by rw [HW1.out]; exact (Below.refl _ _).alloc (Nat.le_refl _) _
  have hX1 : W1.heap[W.heap.size]? = some (.cells #[.string (S x.name), .int .i64 x.number, .int .i64 x.kind, .string (S x.type), .bool x.many, .int .i64 x.choice] 39 (0, 0)) := by rw [HW1.out]; exact heap_alloc_new _ _
  obtain ⟨x0, x1, x2, x3, x4, x5⟩ := blk6 hX1
  have h1 := h.below hba
  have hlt := h.lt
  have hsz := h1.size
  have hF0 : Fr B [b + 2, b + 3, b + 4, b + 5] W W1 := Fr.of_below hba
  unfold fv
  obtain ⟨q1, hq1⟩ : ∃ q, decide (x.kind < 1) = q := ⟨_, rfl⟩
  obtain ⟨q2, hq2⟩ : ∃ q, decide (10 < x.kind) = q := ⟨_, rfl⟩
  have HN : Hid ((stepF g bar 3 x s).1 = (q1 || q2)) := by show _ = _; rw [stepF, hq1, hq2]
  cases q1 <;> cases q2
  all_goals simp only [decide_eq_true_eq, decide_eq_false_iff_not] at hq1 hq2
  all_goals first | (exfalso; omega) | skip
  all_goals go_enter Tryz.func59, Tryz.ntmps59
  all_goals go_wp2
  all_goals rw [← HW1.out]
  all_goals go_ret
  all_goals exact ⟨by rw [HN.out]; rfl, fun _ => h1, hF0⟩

set_option maxHeartbeats 1000000 in
set_option maxRecDepth 100000 in
theorem fieldRule5 {w0 W : World} {B b : Nat} {a1 a2 a3 a4 : Option Addr} {n1 n2 n3 n4 c1 c2 c3 c4 : Nat} {nm : List UInt8} {s : Mem} (g : GI) (bar : List Int) (h : KSt w0 W B b a1 a2 a3 a4 n1 n2 n3 n4 c1 c2 c3 c4 nm s) (hg : GRd w0 (.slice a1 n1 c1) (.slice a2 n2 c2) g) (x : FI) :
    Calls Tryz.prog 60 #[fv x, .pointer (some ⟨b, 0, none⟩)] W fun e W' => e = .returned (.bool (stepF g bar 4 x s).1) ∧ ((stepF g bar 4 x s).1 = false → KSt w0 W' B b a1 a2 a3 a4 n1 n2 n3 n4 c1 c2 c3 c4 nm (stepF g bar 4 x s).2) ∧ Fr B [b + 2, b + 3, b + 4, b + 5] W W' := by
  obtain ⟨W1, HW1⟩ : ∃ W1, Hid (W1 = W.alloc (.cells #[.string (S x.name), .int .i64 x.number, .int .i64 x.kind, .string (S x.type), .bool x.many, .int .i64 x.choice] 39)) := ⟨_, rfl⟩
  have hba : Below W.heap.size W W1 := by rw [HW1.out]; exact (Below.refl _ _).alloc (Nat.le_refl _) _
  have hX1 : W1.heap[W.heap.size]? = some (.cells #[.string (S x.name), .int .i64 x.number, .int .i64 x.kind, .string (S x.type), .bool x.many, .int .i64 x.choice] 39 (0, 0)) := by rw [HW1.out]; exact heap_alloc_new _ _
  obtain ⟨x0, x1, x2, x3, x4, x5⟩ := blk6 hX1
  have h1 := h.below hba
  have hlt := h.lt
  have hsz := h1.size
  have hF0 : Fr B [b + 2, b + 3, b + 4, b + 5] W W1 := Fr.of_below hba
  obtain ⟨f0, f1⟩ := blk2 h1.file
  rw [HW1.out] at f0 f1
  have hht := hasType_any (hg.below (h.base ▸ h1.bel)) x
  unfold fv at hht
  unfold fv
  have HN : Hid ((stepF g bar 4 x s).1 = !hasB g x) := rfl
  generalize hasB g x = q at hht HN
  go_enter Tryz.func60, Tryz.ntmps60
  go_wp2_with fail
  rw [← HW1.out]
  refine hht.mono ?_
  rintro e w1 ⟨rfl, hb1⟩
  go_wp2
  go_ret
  exact ⟨by rw [HN.out]; rfl, fun _ => h1.below hb1, hF0.trans (Fr.of_below hb1)⟩

set_option maxHeartbeats 1000000 in
set_option maxRecDepth 100000 in
theorem fieldRule6 {w0 W : World} {B b : Nat} {a1 a2 a3 a4 : Option Addr} {n1 n2 n3 n4 c1 c2 c3 c4 : Nat} {nm : List UInt8} {s : Mem} (g : GI) (bar : List Int) (h : KSt w0 W B b a1 a2 a3 a4 n1 n2 n3 n4 c1 c2 c3 c4 nm s) (x : FI) :
    Calls Tryz.prog 62 #[fv x] W fun e W' => e = .returned (.bool (stepF g bar 5 x s).1) ∧ ((stepF g bar 5 x s).1 = false → KSt w0 W' B b a1 a2 a3 a4 n1 n2 n3 n4 c1 c2 c3 c4 nm (stepF g bar 5 x s).2) ∧ Fr B [b + 2, b + 3, b + 4, b + 5] W W' := by
  obtain ⟨W1, HW1⟩ : ∃ W1, Hid (W1 = W.alloc (.cells #[.string (S x.name), .int .i64 x.number, .int .i64 x.kind, .string (S x.type), .bool x.many, .int .i64 x.choice] 39)) := ⟨_, rfl⟩
  have hba : Below W.heap.size W W1 := by rw [HW1.out]; exact (Below.refl _ _).alloc (Nat.le_refl _) _
  have hX1 : W1.heap[W.heap.size]? = some (.cells #[.string (S x.name), .int .i64 x.number, .int .i64 x.kind, .string (S x.type), .bool x.many, .int .i64 x.choice] 39 (0, 0)) := by rw [HW1.out]; exact heap_alloc_new _ _
  obtain ⟨x0, x1, x2, x3, x4, x5⟩ := blk6 hX1
  have h1 := h.below hba
  have hlt := h.lt
  have hsz := h1.size
  have hF0 : Fr B [b + 2, b + 3, b + 4, b + 5] W W1 := Fr.of_below hba
  have hnd := needless_any x W1
  unfold fv at hnd
  unfold fv
  have HN : Hid ((stepF g bar 5 x s).1 = (needB x || (decide (0 < x.choice) && x.many))) := rfl
  generalize needB x = q at hnd HN
  cases q with
  | true =>
    go_enter Tryz.func62, Tryz.ntmps62
    go_wp2_with fail
    rw [← HW1.out]
    refine hnd.mono ?_
    rintro e w1 ⟨rfl, hb1⟩
    go_wp2
    go_ret
    exact ⟨by rw [HN.out]; rfl, fun _ => h1.below hb1, hF0.trans (Fr.of_below hb1)⟩
  | false =>
    obtain ⟨q1, hq1⟩ : ∃ q, decide (0 < x.choice) = q := ⟨_, rfl⟩
    rw [hq1] at HN
    have hXb : ∀ w1, Below W1.heap.size W1 w1 → w1.heap[W.heap.size]? = some (.cells #[.string (S x.name), .int .i64 x.number, .int .i64 x.kind, .string (S x.type), .bool x.many, .int .i64 x.choice] 39 (0, 0)) := fun w1 hb => (hb.block _ (Array.getElem?_eq_some_iff.1 hX1).1).trans hX1
    cases q1
    all_goals simp only [decide_eq_true_eq, decide_eq_false_iff_not] at hq1
    all_goals go_enter Tryz.func62, Tryz.ntmps62
    all_goals go_wp2_with fail
    all_goals rw [← HW1.out]
    all_goals refine hnd.mono ?_
    all_goals rintro e w1 ⟨rfl, hb1⟩
    all_goals obtain ⟨y0, y1, y2, y3, y4, y5⟩ := blk6 (hXb w1 hb1)
    all_goals clear hXb
    all_goals go_wp2
    all_goals go_ret
    all_goals exact ⟨by rw [HN.out]; rfl, fun _ => h1.below hb1, hF0.trans (Fr.of_below hb1)⟩

set_option maxHeartbeats 1000000 in
set_option maxRecDepth 100000 in
theorem fieldRule7 {w0 W : World} {B b : Nat} {a1 a2 a3 a4 : Option Addr} {n1 n2 n3 n4 c1 c2 c3 c4 : Nat} {nm : List UInt8} {s : Mem} (g : GI) (bar : List Int) (h : KSt w0 W B b a1 a2 a3 a4 n1 n2 n3 n4 c1 c2 c3 c4 nm s) (hb0 : 0 ≤ s.begun) (hb1 : s.begun ≤ 1000000) (x : FI) :
    Calls Tryz.prog 64 #[fv x, .pointer (some ⟨b + 8, 0, none⟩)] W fun e W' => e = .returned (.bool (stepF g bar 6 x s).1) ∧ ((stepF g bar 6 x s).1 = false → KSt w0 W' B b a1 a2 a3 a4 n1 n2 n3 n4 c1 c2 c3 c4 nm (stepF g bar 6 x s).2) ∧ Fr B [b + 2, b + 3, b + 4, b + 5] W W' := by
  obtain ⟨W1, HW1⟩ : ∃ W1, Hid (W1 = W.alloc (.cells #[.string (S x.name), .int .i64 x.number, .int .i64 x.kind, .string (S x.type), .bool x.many, .int .i64 x.choice] 39)) := ⟨_, rfl⟩
  have hba : Below W.heap.size W W1 := by rw [HW1.out]; exact (Below.refl _ _).alloc (Nat.le_refl _) _
  have hX1 : W1.heap[W.heap.size]? = some (.cells #[.string (S x.name), .int .i64 x.number, .int .i64 x.kind, .string (S x.type), .bool x.many, .int .i64 x.choice] 39 (0, 0)) := by rw [HW1.out]; exact heap_alloc_new _ _
  obtain ⟨x0, x1, x2, x3, x4, x5⟩ := blk6 hX1
  have h1 := h.below hba
  have hlt := h.lt
  have hsz := h1.size
  have hF0 : Fr B [b + 2, b + 3, b + 4, b + 5] W W1 := Fr.of_below hba
  have c0 : W1.cell? ⟨b + 8, 0, none⟩ = some (misF b) := cell_of_blk h1.mis 0 _ rfl
  have hcc := mis_call h1.last h1.begun (by omega) hb0 hb1 x.choice
  unfold misF at c0
  rw [HW1.out] at c0
  unfold fv
  have HN : Hid ((stepF g bar 6 x s).1 = misB s.last s.begun x.choice) := rfl
  go_enter Tryz.func64, Tryz.ntmps64
  go_wp2_with fail
  rw [← HW1.out]
  refine hcc.mono ?_
  rintro e w2 ⟨rfl, k1, k2, k3, k4, k5, k6, k7⟩
  have hF2 : Fr B [b + 2, b + 3, b + 4, b + 5] W1 w2 := ⟨k5, k6, k7, by omega, fun k hk hc _ => k3 k (fun e => hc (by simp [e])) (fun e => hc (by simp [e]))⟩
  have HK : Hid ((stepF g bar 6 x s).1 = false → KSt w0 w2 B b a1 a2 a3 a4 n1 n2 n3 n4 c1 c2 c3 c4 nm (stepF g bar 6 x s).2) := by
    intro e
    have e' : misB s.last s.begun x.choice = false := e
    rw [e'] at k1 k2
    exact h1.setM k1 k2 k3 k4 k5 k6 k7
  clear k1 k2 k3 k4 k5 k6 k7
  go_wp2
  go_ret
  exact ⟨by rw [HN.out]; rfl, HK.out, hF0.trans hF2⟩

end L
end Go.Proofs.YtenlijgnmhdopaaGreatDoor

