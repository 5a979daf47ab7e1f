/- The contracts of fieldRules and of its functions. -/
import Derived.Test.YtenlijgnmhdopaaGreatDoorLKind
namespace Go.Proofs.YtenlijgnmhdopaaGreatDoor
namespace L
open Go.RowKit

def flRs (b : Nat) : List Ru := [⟨7, 54, #[.pointer (some ⟨b + 6, 0, none⟩)]⟩, ⟨3, 55, #[]⟩, ⟨8, 57, #[.pointer (some ⟨b + 1, 0, none⟩), .pointer (some ⟨b + 7, 0, none⟩)]⟩, ⟨1, 59, #[]⟩, ⟨6, 60, #[.pointer (some ⟨b, 0, none⟩)]⟩, ⟨8, 62, #[]⟩, ⟨2, 64, #[.pointer (some ⟨b + 8, 0, none⟩)]⟩]
def misF (b : Nat) : Value := .func (.func 82) #[] #[.pointer (some ⟨b + 4, 0, none⟩), .pointer (some ⟨b + 5, 0, none⟩)]
def flObjs (b : Nat) (vm ve nm vf vb : Value) : List Obj := [.cells #[vm, ve] 25, .cells #[nm, vf, vb] 37, .cells #[.slice none 0 0] 54, .cells #[.slice none 0 0] 35, .cells #[.int .i64 0] 3, .cells #[.int .i64 0] 3, .cells #[.func (.func 47) #[] #[.pointer (some ⟨b + 2, 0, none⟩)]] 73, .cells #[.func (.func 81) #[] #[.pointer (some ⟨b + 3, 0, none⟩)]] 78, .cells #[misF b] 78, .cells (ruCells (flRs b)) 102]
set_option maxHeartbeats 1000000 in
set_option maxRecDepth 100000 in
theorem fieldRules_new (a1 a2 a3 a4 : Option Addr) (n1 n2 n3 n4 c1 c2 c3 c4 : Nat) (s : List UInt8) (w : World) : Calls Tryz.prog 37 #[.agg #[.slice a1 n1 c1, .slice a2 n2 c2], .agg #[.string (S s), .slice a3 n3 c3, .slice a4 n4 c4]] w fun e w' => e = .returned (.slice (some ⟨w.heap.size + 9, 0, none⟩) 7 7) ∧ allocL w (flObjs w.heap.size (.slice a1 n1 c1) (.slice a2 n2 c2) (.string (S s)) (.slice a3 n3 c3) (.slice a4 n4 c4)) = w' := by
  have hmf := makeF
  go_enter Tryz.func37, Tryz.ntmps37
  go_wp2_with fail
  refine (againS_new _).mono ?_
  rintro e w1 ⟨rfl, rfl⟩
  go_wp2_with fail
  refine (againN_new _).mono ?_
  rintro e w1 ⟨rfl, rfl⟩
  go_wp2_with fail
  refine (mis_new _).mono ?_
  rintro e w1 ⟨rfl, rfl⟩
  go_wp2
  go_ret
  exact ⟨rfl, rfl⟩

/-- What the field rules remember: names, numbers, the last choice, how many there were. -/
structure Mem where
  names : List (List UInt8)
  nums : List Int
  last : Int
  begun : Int
structure KSt (w0 W : World) (B b : Nat) (a1 a2 a3 a4 : Option Addr) (n1 n2 n3 n4 c1 c2 c3 c4 : Nat) (nm : List UInt8) (s : Mem) : Prop where
  names : SSt W B (b + 2) (b + 6) s.names
  nums : NSt W B (b + 3) (b + 7) s.nums
  last : W.heap[b + 4]? = some (.cells #[.int .i64 s.last] 3 (0, 0))
  begun : W.heap[b + 5]? = some (.cells #[.int .i64 s.begun] 3 (0, 0))
  mis : W.heap[b + 8]? = some (.cells #[misF b] 78 (0, 0))
  file : W.heap[b]? = some (.cells #[.slice a1 n1 c1, .slice a2 n2 c2] 25 (0, 0))
  msg : W.heap[b + 1]? = some (.cells #[.string (S nm), .slice a3 n3 c3, .slice a4 n4 c4] 37 (0, 0))
  lt : b + 9 < B
  size : B ≤ W.heap.size
  base : b = w0.heap.size
  bel : Below b w0 W
section
variable {w0 W W' : World} {B b : Nat} {a1 a2 a3 a4 : Option Addr} {n1 n2 n3 n4 c1 c2 c3 c4 : Nat} {nm : List UInt8} {s : Mem}
theorem KSt.below (h : KSt w0 W B b a1 a2 a3 a4 n1 n2 n3 n4 c1 c2 c3 c4 nm s) (hb : Below W.heap.size W W') : KSt w0 W' B b a1 a2 a3 a4 n1 n2 n3 n4 c1 c2 c3 c4 nm s := by
  have k : ∀ {i o}, W.heap[i]? = some o → W'.heap[i]? = some o := fun {i o} hi => (hb.block i (Array.getElem?_eq_some_iff.1 hi).1).trans hi
  have hl := h.lt
  have hs := h.size
  exact ⟨h.names.below hb, h.nums.below hb, k h.last, k h.begun, k h.mis, k h.file, k h.msg, h.lt, Nat.le_trans h.size hb.size, h.base, h.bel.trans (hb.mono (by omega))⟩
theorem KSt.setS {l : List (List UInt8)} (h : KSt w0 W B b a1 a2 a3 a4 n1 n2 n3 n4 c1 c2 c3 c4 nm s) (hS : SSt W' B (b + 2) (b + 6) l) (hF : FrT 9 B (b + 2) W W') : KSt w0 W' B b a1 a2 a3 a4 n1 n2 n3 n4 c1 c2 c3 c4 nm ⟨l, s.nums, s.last, s.begun⟩ := by
  have hl := h.lt
  have hs := h.size
  exact ⟨hS, h.nums.frt hF (by omega) (by omega) (by omega) (by omega), blk_frt hF h.last (by omega) (by omega), blk_frt hF h.begun (by omega) (by omega), blk_frt hF h.mis (by omega) (by omega), blk_frt hF h.file (by omega) (by omega), blk_frt hF h.msg (by omega) (by omega), hl, Nat.le_trans hs hF.size, h.base, h.bel.trans ⟨hF.os, hF.tape, hF.output, hF.size, fun k hk => hF.block k (by omega) (by omega) (.inl (by omega))⟩⟩
theorem KSt.setN {l : List Int} (h : KSt w0 W B b a1 a2 a3 a4 n1 n2 n3 n4 c1 c2 c3 c4 nm s) (hS : NSt W' B (b + 3) (b + 7) l) (hF : FrT 3 B (b + 3) W W') : KSt w0 W' B b a1 a2 a3 a4 n1 n2 n3 n4 c1 c2 c3 c4 nm ⟨s.names, l, s.last, s.begun⟩ := by
  have hl := h.lt
  have hs := h.size
  exact ⟨h.names.frt hF (by omega) (by omega) (by omega) (by omega), hS, blk_frt hF h.last (by omega) (by omega), blk_frt hF h.begun (by omega) (by omega), blk_frt hF h.mis (by omega) (by omega), blk_frt hF h.file (by omega) (by omega), blk_frt hF h.msg (by omega) (by omega), hl, Nat.le_trans hs hF.size, h.base, h.bel.trans ⟨hF.os, hF.tape, hF.output, hF.size, fun k hk => hF.block k (by omega) (by omega) (.inl (by omega))⟩⟩
theorem Row.same {α : Type} {E : EK α} {v : Value} {l : List α} (h : Row E W B v l) (hk : ∀ k, B ≤ k → W'.heap[k]? = W.heap[k]?) : Row E W' B v l := by
  refine ⟨h.1, ?_⟩
  rcases h.2 with hn | ⟨g, cap, cur, hv, hbg, hg, r⟩
  · exact .inl hn
  · exact .inr ⟨g, cap, cur, hv, hbg, by rw [hk g hbg]; exact hg, r⟩
theorem KSt.setM {x y : Int} (h : KSt w0 W B b a1 a2 a3 a4 n1 n2 n3 n4 c1 c2 c3 c4 nm s) (h1 : W'.heap[b + 4]? = some (.cells #[.int .i64 x] 3 (0, 0))) (h2 : W'.heap[b + 5]? = some (.cells #[.int .i64 y] 3 (0, 0))) (hk : ∀ k, ¬ k = b + 4 → ¬ k = b + 5 → W'.heap[k]? = W.heap[k]?) (hz : W'.heap.size = W.heap.size) (ho : W'.os = W.os) (ht : W'.tape = W.tape) (hu : W'.output = W.output) : KSt w0 W' B b a1 a2 a3 a4 n1 n2 n3 n4 c1 c2 c3 c4 nm ⟨s.names, s.nums, x, y⟩ := by
  have hl := h.lt
  have hs := h.size
  obtain ⟨⟨v1, r1, r2⟩, r3, r4⟩ := h.names
  obtain ⟨⟨v2, q1, q2⟩, q3, q4⟩ := h.nums
  refine ⟨⟨⟨v1, (hk _ (by omega) (by omega)).trans r1, r2.same fun k hb => hk k (by omega) (by omega)⟩, (hk _ (by omega) (by omega)).trans r3, r4⟩, ⟨⟨v2, (hk _ (by omega) (by omega)).trans q1, q2.same fun k hb => hk k (by omega) (by omega)⟩, (hk _ (by omega) (by omega)).trans q3, q4⟩, h1, h2, (hk _ (by omega) (by omega)).trans h.mis, (hk _ (by omega) (by omega)).trans h.file, (hk _ (by omega) (by omega)).trans h.msg, hl, by omega, h.base, h.bel.trans ⟨ho, ht, hu, by omega, fun k hb => hk k (by omega) (by omega)⟩⟩
end
/-- The rules of fields, as chapter 3 tells them. -/
def stepF (g : GI) (bar : List Int) : Nat → FI → Mem → Bool × Mem
  | 0, x, s => (!namedB x.name || decide (x.name ∈ s.names), ⟨addL x.name s.names, s.nums, s.last, s.begun⟩)
  | 1, x, s => (!canB x.number, s)
  | 2, x, s => (decide (x.number ∈ bar) || decide (x.number ∈ s.nums), ⟨s.names, addL x.number s.nums, s.last, s.begun⟩)
  | 3, x, s => (decide (x.kind < 1) || decide (10 < x.kind), s)
  | 4, x, s => (!hasB g x, s)
  | 5, x, s => (needB x || (decide (0 < x.choice) && x.many), s)
  | _, x, s => (misB s.last s.begun x.choice, ⟨s.names, s.nums, x.choice, max s.begun x.choice⟩)

set_option maxHeartbeats 1000000 in
set_option maxRecDepth 100000 in
theorem fieldRule1 {w0 W : World} {B b : Nat} {a1 a2 a3 a4 : Option Addr} {n1 n2 n3 n4 c1 c2 c3 c4 : Nat} {nm : List UInt8} {s : Mem} (g : GI) (bar : List Int) (h : KSt w0 W B b a1 a2 a3 a4 n1 n2 n3 n4 c1 c2 c3 c4 nm s) (hl : s.names.length ≤ 1000) (x : FI) (hx : x.name.length ≤ 9223372036854775807) :
    Calls Tryz.prog 54 #[fv x, .pointer (some ⟨b + 6, 0, none⟩)] W fun e W' => e = .returned (.bool (stepF g bar 0 x s).1) ∧ ((stepF g bar 0 x s).1 = false → KSt w0 W' B b a1 a2 a3 a4 n1 n2 n3 n4 c1 c2 c3 c4 nm (stepF g bar 0 x s).2) ∧ Fr B [b + 2, b + 3, b + 4, b + 5] W W' := by
  obtain ⟨W1, HW1⟩ : ∃ W1, Hid (W1 = W.alloc (.cells #[.string (S x.name), .int .i64 x.number, .int .i64 x.kind, .string (S x.type), .bool x.many, .int .i64 x.choice] 39)) := ⟨_, rfl⟩
  have hba : Below W.heap.size W W1 := by rw [HW1.out]; exact (Below.refl _ _).alloc (Nat.le_refl _) _
  have hX1 : W1.heap[W.heap.size]? = some (.cells #[.string (S x.name), .int .i64 x.number, .int .i64 x.kind, .string (S x.type), .bool x.many, .int .i64 x.choice] 39 (0, 0)) := by rw [HW1.out]; exact heap_alloc_new _ _
  obtain ⟨x0, x1, x2, x3, x4, x5⟩ := blk6 hX1
  have h1 := h.below hba
  have hlt := h.lt
  have hsz := h1.size
  have hF0 : Fr B [b + 2, b + 3, b + 4, b + 5] W W1 := Fr.of_below hba
  have c0 : W1.cell? ⟨b + 6, 0, none⟩ = some (.func (.func 47) #[] #[.pointer (some ⟨b + 2, 0, none⟩)]) := cell_of_blk h1.names.fn 0 _ rfl
  have hnm := named_any x.name hx W1
  have hcc := h1.names.call2 hsz hl (by omega) (by omega) x.name
  unfold fv
  cases hq : namedB x.name with
  | false =>
    have HN : Hid ((stepF g bar 0 x s).1 = true) := by show _ = _; rw [stepF, hq]; rfl
    rw [hq] at hnm
    clear hq hcc
    go_enter Tryz.func54, Tryz.ntmps54
    go_wp2_with fail
    rw [← HW1.out]
    refine hnm.mono ?_
    rintro e w1 ⟨rfl, rfl⟩
    go_wp2
    go_ret
    refine ⟨by rw [HN.out]; rfl, fun e => ?_, hF0⟩
    rw [HN.out] at e; cases e
  | true =>
    have HN : Hid ((stepF g bar 0 x s).1 = decide (x.name ∈ s.names)) := by show _ = _; rw [stepF, hq]; rfl
    rw [hq] at hnm
    clear hq
    go_enter Tryz.func54, Tryz.ntmps54
    go_wp2_with fail
    rw [← HW1.out]
    refine hnm.mono ?_
    rintro e w1 ⟨rfl, rfl⟩
    go_wp2_with fail
    refine hcc.mono ?_
    rintro e w2 ⟨rfl, h2, hF⟩
    go_wp2
    go_ret
    exact ⟨by rw [HN.out]; rfl, fun _ => h1.setS h2 hF, hF0.trans (hF.fr (.inl rfl) (by simp))⟩

set_option maxHeartbeats 1000000 in
set_option maxRecDepth 100000 in
theorem fieldRule2 {w0 W : World} {B b : Nat} {a1 a2 a3 a4 : Option Addr} {n1 n2 n3 n4 c1 c2 c3 c4 : Nat} {nm : List UInt8} {s : Mem} (g : GI) (bar : List Int) (h : KSt w0 W B b a1 a2 a3 a4 n1 n2 n3 n4 c1 c2 c3 c4 nm s) (x : FI) :
    Calls Tryz.prog 55 #[fv x] W fun e W' => e = .returned (.bool (stepF g bar 1 x s).1) ∧ ((stepF g bar 1 x s).1 = false → KSt w0 W' B b a1 a2 a3 a4 n1 n2 n3 n4 c1 c2 c3 c4 nm (stepF g bar 1 x s).2) ∧ Fr B [b + 2, b + 3, b + 4, b + 5] W W' := by
  obtain ⟨W1, HW1⟩ : ∃ W1, Hid (W1 = W.alloc (.cells #[.string (S x.name), .int .i64 x.number, .int .i64 x.kind, .string (S x.type), .bool x.many, .int .i64 x.choice] 39)) := ⟨_, rfl⟩
  have hba : Below W.heap.size W W1 := by rw [HW1.out]; exact (Below.refl _ _).alloc (Nat.le_refl _) _
  have hX1 : W1.heap[W.heap.size]? = some (.cells #[.string (S x.name), .int .i64 x.number, .int .i64 x.kind, .string (S x.type), .bool x.many, .int .i64 x.choice] 39 (0, 0)) := by rw [HW1.out]; exact heap_alloc_new _ _
  obtain ⟨x0, x1, x2, x3, x4, x5⟩ := blk6 hX1
  have h1 := h.below hba
  have hlt := h.lt
  have hsz := h1.size
  have hF0 : Fr B [b + 2, b + 3, b + 4, b + 5] W W1 := Fr.of_below hba
  have hcb := can_any x.number W1
  unfold fv
  have HN : Hid ((stepF g bar 1 x s).1 = !canB x.number) := rfl
  generalize canB x.number = q at hcb HN
  go_enter Tryz.func55, Tryz.ntmps55
  go_wp2_with fail
  rw [← HW1.out]
  refine hcb.mono ?_
  rintro e w1 ⟨rfl, rfl⟩
  go_wp2
  go_ret
  exact ⟨by rw [HN.out]; rfl, fun _ => h1, hF0⟩

set_option maxHeartbeats 1000000 in
set_option maxRecDepth 100000 in
theorem fieldRule3 {w0 W : World} {B b : Nat} {a1 a2 a3 a4 : Option Addr} {n1 n2 n3 n4 c1 c2 c3 c4 : Nat} {nm : List UInt8} {s : Mem} (g : GI) (bar : List Int) (h : KSt w0 W B b a1 a2 a3 a4 n1 n2 n3 n4 c1 c2 c3 c4 nm s) (hl : s.nums.length ≤ 1000) (hbar : RdL 1 NAt w0 (.slice a4 n4 c4) bar) (x : FI) :
    Calls Tryz.prog 57 #[fv x, .pointer (some ⟨b + 1, 0, none⟩), .pointer (some ⟨b + 7, 0, none⟩)] W fun e W' => e = .returned (.bool (stepF g bar 2 x s).1) ∧ ((stepF g bar 2 x s).1 = false → KSt w0 W' B b a1 a2 a3 a4 n1 n2 n3 n4 c1 c2 c3 c4 nm (stepF g bar 2 x s).2) ∧ Fr B [b + 2, b + 3, b + 4, b + 5] W W' := by
  obtain ⟨W1, HW1⟩ : ∃ W1, Hid (W1 = W.alloc (.cells #[.string (S x.name), .int .i64 x.number, .int .i64 x.kind, .string (S x.type), .bool x.many, .int .i64 x.choice] 39)) := ⟨_, rfl⟩
  have hba : Below W.heap.size W W1 := by rw [HW1.out]; exact (Below.refl _ _).alloc (Nat.le_refl _) _
  have hX1 : W1.heap[W.heap.size]? = some (.cells #[.string (S x.name), .int .i64 x.number, .int .i64 x.kind, .string (S x.type), .bool x.many, .int .i64 x.choice] 39 (0, 0)) := by rw [HW1.out]; exact heap_alloc_new _ _
  obtain ⟨x0, x1, x2, x3, x4, x5⟩ := blk6 hX1
  have h1 := h.below hba
  have hlt := h.lt
  have hsz := h1.size
  have hF0 : Fr B [b + 2, b + 3, b + 4, b + 5] W W1 := Fr.of_below hba
  have c0 : W1.cell? ⟨b + 7, 0, none⟩ = some (.func (.func 81) #[] #[.pointer (some ⟨b + 3, 0, none⟩)]) := cell_of_blk h1.nums.fn 0 _ rfl
  obtain ⟨_, _, m2⟩ := blk3 h1.msg
  rw [HW1.out] at m2
  have hct := containsN_any (hbar.below NAt.stays (h.base ▸ h1.bel)) x.number
  have hcc := h1.nums.call2 hsz hl (by omega) (by omega) x.number
  unfold fv
  cases hq : decide (x.number ∈ bar) with
  | true =>
    have HN : Hid ((stepF g bar 2 x s).1 = true) := by show _ = _; rw [stepF, hq]; rfl
    rw [hq] at hct
    clear hq hcc
    go_enter Tryz.func57, Tryz.ntmps57
    go_wp2_with fail
    rw [← HW1.out]
    refine hct.mono ?_
    rintro e w1 ⟨rfl, rfl⟩
    go_wp2
    go_ret
    refine ⟨by rw [HN.out]; rfl, fun e => ?_, hF0⟩
    rw [HN.out] at e; cases e
  | false =>
    have HN : Hid ((stepF g bar 2 x s).1 = decide (x.number ∈ s.nums)) := by show _ = _; rw [stepF, hq]; rfl
    rw [hq] at hct
    clear hq
    go_enter Tryz.func57, Tryz.ntmps57
    go_wp2_with fail
    rw [← HW1.out]
    refine hct.mono ?_
    rintro e w1 ⟨rfl, rfl⟩
    go_wp2_with fail
    refine hcc.mono ?_
    rintro e w2 ⟨rfl, h2, hF⟩
    go_wp2
    go_ret
    exact ⟨by rw [HN.out]; rfl, fun _ => h1.setN h2 hF, hF0.trans (hF.fr (.inr rfl) (by simp))⟩

set_option maxHeartbeats 1000000 in
set_option maxRecDepth 100000 in
theorem fieldRule4 {w0 W : World} {B b : Nat} {a1 a2 a3 a4 : Option Addr} {n1 n2 n3 n4 c1 c2 c3 c4 : Nat} {nm : List UInt8} {s : Mem} (g : GI) (bar : List Int) (h : KSt w0 W B b a1 a2 a3 a4 n1 n2 n3 n4 c1 c2 c3 c4 nm s) (x : FI) :
    Calls Tryz.prog 59 #[fv x] W fun e W' => e = .returned (.bool (stepF g bar 3 x s).1) ∧ ((stepF g bar 3 x s).1 = false → KSt w0 W' B b a1 a2 a3 a4 n1 n2 n3 n4 c1 c2 c3 c4 nm (stepF g bar 3 x s).2) ∧ Fr B [b + 2, b + 3, b + 4, b + 5] W W' := by
  obtain ⟨W1, HW1⟩ : ∃ W1, Hid (W1 = W.alloc (.cells #[.string (S x.name), .int .i64 x.number, .int .i64 x.kind, .string (S x.type), .bool x.many, .int .i64 x.choice] 39)) := ⟨_, rfl⟩
  have hba : Below W.heap.size W W1 := by rw [HW1.out]; exact (Below.refl _ _).alloc (Nat.le_refl _) _
  have hX1 : W1.heap[W.heap.size]? = some (.cells #[.string (S x.name), .int .i64 x.number, .int .i64 x.kind, .string (S x.type), .bool x.many, .int .i64 x.choice] 39 (0, 0)) := by rw [HW1.out]; exact heap_alloc_new _ _
  obtain ⟨x0, x1, x2, x3, x4, x5⟩ := blk6 hX1
  have h1 := h.below hba
  have hlt := h.lt
  have hsz := h1.size
  have hF0 : Fr B [b + 2, b + 3, b + 4, b + 5] W W1 := Fr.of_below hba
  unfold fv
  obtain ⟨q1, hq1⟩ : ∃ q, decide (x.kind < 1) = q := ⟨_, rfl⟩
  obtain ⟨q2, hq2⟩ : ∃ q, decide (10 < x.kind) = q := ⟨_, rfl⟩
  have HN : Hid ((stepF g bar 3 x s).1 = (q1 || q2)) := by show _ = _; rw [stepF, hq1, hq2]
  cases q1 <;> cases q2
  all_goals simp only [decide_eq_true_eq, decide_eq_false_iff_not] at hq1 hq2
  all_goals first | (exfalso; omega) | skip
  all_goals go_enter Tryz.func59, Tryz.ntmps59
  all_goals go_wp2
  all_goals rw [← HW1.out]
  all_goals go_ret
  all_goals exact ⟨by rw [HN.out]; rfl, fun _ => h1, hF0⟩

set_option maxHeartbeats 1000000 in
set_option maxRecDepth 100000 in
theorem fieldRule5 {w0 W : World} {B b : Nat} {a1 a2 a3 a4 : Option Addr} {n1 n2 n3 n4 c1 c2 c3 c4 : Nat} {nm : List UInt8} {s : Mem} (g : GI) (bar : List Int) (h : KSt w0 W B b a1 a2 a3 a4 n1 n2 n3 n4 c1 c2 c3 c4 nm s) (hg : GRd w0 (.slice a1 n1 c1) (.slice a2 n2 c2) g) (x : FI) :
    Calls Tryz.prog 60 #[fv x, .pointer (some ⟨b, 0, none⟩)] W fun e W' => e = .returned (.bool (stepF g bar 4 x s).1) ∧ ((stepF g bar 4 x s).1 = false → KSt w0 W' B b a1 a2 a3 a4 n1 n2 n3 n4 c1 c2 c3 c4 nm (stepF g bar 4 x s).2) ∧ Fr B [b + 2, b + 3, b + 4, b + 5] W W' := by
  obtain ⟨W1, HW1⟩ : ∃ W1, Hid (W1 = W.alloc (.cells #[.string (S x.name), .int .i64 x.number, .int .i64 x.kind, .string (S x.type), .bool x.many, .int .i64 x.choice] 39)) := ⟨_, rfl⟩
  have hba : Below W.heap.size W W1 := by rw [HW1.out]; exact (Below.refl _ _).alloc (Nat.le_refl _) _
  have hX1 : W1.heap[W.heap.size]? = some (.cells #[.string (S x.name), .int .i64 x.number, .int .i64 x.kind, .string (S x.type), .bool x.many, .int .i64 x.choice] 39 (0, 0)) := by rw [HW1.out]; exact heap_alloc_new _ _
  obtain ⟨x0, x1, x2, x3, x4, x5⟩ := blk6 hX1
  have h1 := h.below hba
  have hlt := h.lt
  have hsz := h1.size
  have hF0 : Fr B [b + 2, b + 3, b + 4, b + 5] W W1 := Fr.of_below hba
  obtain ⟨f0, f1⟩ := blk2 h1.file
  rw [HW1.out] at f0 f1
  have hht := hasType_any (hg.below (h.base ▸ h1.bel)) x
  unfold fv at hht
  unfold fv
  have HN : Hid ((stepF g bar 4 x s).1 = !hasB g x) := rfl
  generalize hasB g x = q at hht HN
  go_enter Tryz.func60, Tryz.ntmps60
  go_wp2_with fail
  rw [← HW1.out]
  refine hht.mono ?_
  rintro e w1 ⟨rfl, hb1⟩
  go_wp2
  go_ret
  exact ⟨by rw [HN.out]; rfl, fun _ => h1.below hb1, hF0.trans (Fr.of_below hb1)⟩

set_option maxHeartbeats 1000000 in
set_option maxRecDepth 100000 in
theorem fieldRule6 {w0 W : World} {B b : Nat} {a1 a2 a3 a4 : Option Addr} {n1 n2 n3 n4 c1 c2 c3 c4 : Nat} {nm : List UInt8} {s : Mem} (g : GI) (bar : List Int) (h : KSt w0 W B b a1 a2 a3 a4 n1 n2 n3 n4 c1 c2 c3 c4 nm s) (x : FI) :
    Calls Tryz.prog 62 #[fv x] W fun e W' => e = .returned (.bool (stepF g bar 5 x s).1) ∧ ((stepF g bar 5 x s).1 = false → KSt w0 W' B b a1 a2 a3 a4 n1 n2 n3 n4 c1 c2 c3 c4 nm (stepF g bar 5 x s).2) ∧ Fr B [b + 2, b + 3, b + 4, b + 5] W W' := by
  obtain ⟨W1, HW1⟩ : ∃ W1, Hid (W1 = W.alloc (.cells #[.string (S x.name), .int .i64 x.number, .int .i64 x.kind, .string (S x.type), .bool x.many, .int .i64 x.choice] 39)) := ⟨_, rfl⟩
  have hba : Below W.heap.size W W1 := by rw [HW1.out]; exact (Below.refl _ _).alloc (Nat.le_refl _) _
  have hX1 : W1.heap[W.heap.size]? = some (.cells #[.string (S x.name), .int .i64 x.number, .int .i64 x.kind, .string (S x.type), .bool x.many, .int .i64 x.choice] 39 (0, 0)) := by rw [HW1.out]; exact heap_alloc_new _ _
  obtain ⟨x0, x1, x2, x3, x4, x5⟩ := blk6 hX1
  have h1 := h.below hba
  have hlt := h.lt
  have hsz := h1.size
  have hF0 : Fr B [b + 2, b + 3, b + 4, b + 5] W W1 := Fr.of_below hba
  have hnd := needless_any x W1
  unfold fv at hnd
  unfold fv
  have HN : Hid ((stepF g bar 5 x s).1 = (needB x || (decide (0 < x.choice) && x.many))) := rfl
  generalize needB x = q at hnd HN
  cases q with
  | true =>
    go_enter Tryz.func62, Tryz.ntmps62
    go_wp2_with fail
    rw [← HW1.out]
    refine hnd.mono ?_
    rintro e w1 ⟨rfl, hb1⟩
    go_wp2
    go_ret
    exact ⟨by rw [HN.out]; rfl, fun _ => h1.below hb1, hF0.trans (Fr.of_below hb1)⟩
  | false =>
    obtain ⟨q1, hq1⟩ : ∃ q, decide (0 < x.choice) = q := ⟨_, rfl⟩
    rw [hq1] at HN
    have hXb : ∀ w1, Below W1.heap.size W1 w1 → w1.heap[W.heap.size]? = some (.cells #[.string (S x.name), .int .i64 x.number, .int .i64 x.kind, .string (S x.type), .bool x.many, .int .i64 x.choice] 39 (0, 0)) := fun w1 hb => (hb.block _ (Array.getElem?_eq_some_iff.1 hX1).1).trans hX1
    cases q1
    all_goals simp only [decide_eq_true_eq, decide_eq_false_iff_not] at hq1
    all_goals go_enter Tryz.func62, Tryz.ntmps62
    all_goals go_wp2_with fail
    all_goals rw [← HW1.out]
    all_goals refine hnd.mono ?_
    all_goals rintro e w1 ⟨rfl, hb1⟩
    all_goals obtain ⟨y0, y1, y2, y3, y4, y5⟩ := blk6 (hXb w1 hb1)
    all_goals clear hXb
    all_goals go_wp2
    all_goals go_ret
    all_goals exact ⟨by rw [HN.out]; rfl, fun _ => h1.below hb1, hF0.trans (Fr.of_below hb1)⟩

set_option maxHeartbeats 1000000 in
set_option maxRecDepth 100000 in
theorem fieldRule7 {w0 W : World} {B b : Nat} {a1 a2 a3 a4 : Option Addr} {n1 n2 n3 n4 c1 c2 c3 c4 : Nat} {nm : List UInt8} {s : Mem} (g : GI) (bar : List Int) (h : KSt w0 W B b a1 a2 a3 a4 n1 n2 n3 n4 c1 c2 c3 c4 nm s) (hb0 : 0 ≤ s.begun) (hb1 : s.begun ≤ 1000000) (x : FI) :
    Calls Tryz.prog 64 #[fv x, .pointer (some ⟨b + 8, 0, none⟩)] W fun e W' => e = .returned (.bool (stepF g bar 6 x s).1) ∧ ((stepF g bar 6 x s).1 = false → KSt w0 W' B b a1 a2 a3 a4 n1 n2 n3 n4 c1 c2 c3 c4 nm (stepF g bar 6 x s).2) ∧ Fr B [b + 2, b + 3, b + 4, b + 5] W W' := by
  obtain ⟨W1, HW1⟩ : ∃ W1, Hid (W1 = W.alloc (.cells #[.string (S x.name), .int .i64 x.number, .int .i64 x.kind, .string (S x.type), .bool x.many, .int .i64 x.choice] 39)) := ⟨_, rfl⟩
  have hba : Below W.heap.size W W1 := by rw [HW1.out]; exact (Below.refl _ _).alloc (Nat.le_refl _) _
  have hX1 : W1.heap[W.heap.size]? = some (.cells #[.string (S x.name), .int .i64 x.number, .int .i64 x.kind, .string (S x.type), .bool x.many, .int .i64 x.choice] 39 (0, 0)) := by rw [HW1.out]; exact heap_alloc_new _ _
  obtain ⟨x0, x1, x2, x3, x4, x5⟩ := blk6 hX1
  have h1 := h.below hba
  have hlt := h.lt
  have hsz := h1.size
  have hF0 : Fr B [b + 2, b + 3, b + 4, b + 5] W W1 := Fr.of_below hba
  have c0 : W1.cell? ⟨b + 8, 0, none⟩ = some (misF b) := cell_of_blk h1.mis 0 _ rfl
  have hcc := mis_call h1.last h1.begun (by omega) hb0 hb1 x.choice
  unfold misF at c0
  rw [HW1.out] at c0
  unfold fv
  have HN : Hid ((stepF g bar 6 x s).1 = misB s.last s.begun x.choice) := rfl
  go_enter Tryz.func64, Tryz.ntmps64
  go_wp2_with fail
  rw [← HW1.out]
  refine hcc.mono ?_
  rintro e w2 ⟨rfl, k1, k2, k3, k4, k5, k6, k7⟩
  have hF2 : Fr B [b + 2, b + 3, b + 4, b + 5] W1 w2 := ⟨k5, k6, k7, by omega, fun k hk hc _ => k3 k (fun e => hc (by simp [e])) (fun e => hc (by simp [e]))⟩
  have HK : Hid ((stepF g bar 6 x s).1 = false → KSt w0 w2 B b a1 a2 a3 a4 n1 n2 n3 n4 c1 c2 c3 c4 nm (stepF g bar 6 x s).2) := by
    intro e
    have e' : misB s.last s.begun x.choice = false := e
    rw [e'] at k1 k2
    exact h1.setM k1 k2 k3 k4 k5 k6 k7
  clear k1 k2 k3 k4 k5 k6 k7
  go_wp2
  go_ret
  exact ⟨by rw [HN.out]; rfl, HK.out, hF0.trans hF2⟩

end L
end Go.Proofs.YtenlijgnmhdopaaGreatDoor
