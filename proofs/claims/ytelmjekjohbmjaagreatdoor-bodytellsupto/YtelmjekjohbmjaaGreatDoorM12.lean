import Derived.Test.YtelmjekjohbmjaaGreatDoorBWithq
import Derived.Test.YtelmjekjohbmjaaGreatDoorM10
import Derived.Lib.LazyBuf
import Derived.Test.YtelmjekjohbmjaaGreatDoorM00
import Derived.Test.YtelmjekjohbmjaaGreatDoorM09
import Derived.Deep.RegionHeld3
import Derived.Shelf.Abstract
/- What is wrong first with a value's numbers: the contract of checks' function on Bits. -/
namespace Go.Proofs.YtelmjekjohbmjaaGreatDoor
namespace L
open Go.RowKit

/-- The first error of a list's entries. -/
def firstE {α : Type} (f : α → Int) : List α → Int
  | [] => 0
  | a :: l => if f a = 0 then firstE f l else f a
theorem firstE_at {α : Type} {f : α → Int} {l : List α} {k : Nat} {a : α} (ha : l[k]? = some a) : firstE f (l.drop k) = if f a = 0 then firstE f (l.drop (k + 1)) else f a := by
  obtain ⟨hk, e⟩ := List.getElem?_eq_some_iff.1 ha
  rw [List.drop_eq_getElem_cons hk, e, firstE]
theorem firstE_end {α : Type} {f : α → Int} {l : List α} {k : Nat} (h : l.length ≤ k) : firstE f (l.drop k) = 0 := by
  rw [List.drop_of_length_le h]; rfl
def cFI (x : FI) : Array Value := #[.string (S x.name), .int .i64 x.number, .int .i64 x.kind, .string (S x.type), .bool x.many, .int .i64 x.choice]

set_option maxHeartbeats 1000000 in
set_option maxRecDepth 100000 in
theorem fit1_call {w : World} {c : Nat} {x : FI} (hc : w.heap[c]? = some (.cells (cFI x) 53 (0, 0))) (n : Nat) (hn : n < 18446744073709551616) :
    Calls Tryz.prog 97 #[.int .u64 (n : Int), .pointer (some ⟨c, 0, none⟩)] w fun e w' => e = .returned (.int .i64 (fitsI x.kind n)) ∧ Below w.heap.size w w' := by
  have c2 : w.cell? ⟨c, 2, none⟩ = some (.int .i64 x.kind) := cell_of_blk hc 2 _ rfl
  have hcl : c < w.heap.size := (Array.getElem?_eq_some_iff.1 hc).1
  have hf := fits_any (w := w) x.kind n hn
  go_enter Tryz.func97, Tryz.ntmps97
  go_wp2_with fail
  refine hf.mono ?_
  rintro e w1 ⟨rfl, rfl⟩
  go_wp2
  go_ret
  exact ⟨rfl, Below.refl _ _⟩

set_option maxHeartbeats 1000000 in
set_option maxRecDepth 100000 in
theorem fitE_any {v : Value} {l : List Nat} {w : World} {c : Nat} {x : FI} (h : RdL 1 UAt w v l) (hu : ∀ n ∈ l, n < 18446744073709551616) (hc : w.heap[c]? = some (.cells (cFI x) 53 (0, 0))) :
    Calls Tryz.prog 96 #[v, .func (.func 97) #[] #[.pointer (some ⟨c, 0, none⟩)]] w fun e w' => e = .returned (.int .i64 (firstE (fitsI x.kind) l)) ∧ Below w.heap.size w w' := by
  obtain ⟨ao, n, cap, rfl, Hn, hcap⟩ := h.shape
  obtain ⟨R, HR⟩ : ∃ R, Hid (R = firstE (fitsI x.kind) l) := ⟨_, rfl⟩
  rw [← HR.out]
  go_enter Tryz.func96, Tryz.ntmps96
  go_wp2_with fail
  go_loopg [10] n (fun m i wr => ∃ k : Nat, k + m = n ∧ i = .int .i64 k ∧ Hid (R = firstE (fitsI x.kind) (l.drop k)) ∧ Below w.heap.size w wr)
  case atStart => exact ⟨0, by omega, rfl, HR, Below.refl _ _⟩
  case round =>
    obtain ⟨k, hk, rfl, HK, hb⟩ := hrel
    have hcr := (hb.block c (Array.getElem?_eq_some_iff.1 hc).1).trans hc
    by_cases hlt : k < n
    · obtain ⟨a, Ha⟩ : ∃ a, Hid (l[k]? = some a) := ⟨l[k]'(by rw [← Hn.out]; exact hlt), List.getElem?_eq_getElem (by rw [← Hn.out]; exact hlt)⟩
      obtain ⟨b, off, rfl, hat⟩ := (h.below UAt.stays hb).get UAt.plain Ha.out
      have hat : wr.cell? ⟨b, off + k, none⟩ = some (.int .u64 (a : Int)) := by simpa [UAt] using hat
      have hki : (k : Int) < (n : Int) := by omega
      have hcall := fit1_call hcr a (hu a (mem_at Ha.out))
      have hst := firstE_at (f := fitsI x.kind) Ha.out
      generalize hF : fitsI x.kind a = F at hcall hst
      by_cases hz : F = 0
      · have HX : Hid (R = firstE (fitsI x.kind) (l.drop (k + 1))) := by
          show _ = _
          rw [HK.out, hst, if_pos hz]
        have ez : (F != 0) = false := by simp [hz]
        clear hst hF hz
        go_wp2_with fail
        refine hcall.mono ?_
        rintro e w1 ⟨rfl, hb1⟩
        go_wp2_with fail
        go_roundg (n - (k + 1))
        case measure => omega
        case rel => exact ⟨k + 1, by omega, by go_num, HX, hb.trans (hb1.mono hb.size)⟩
      · have HX : Hid (R = F) := by
          show _ = _
          rw [HK.out, hst, if_neg hz]
        have ez : (F != 0) = true := by simpa using hz
        clear hst hF hz
        go_wp2_with fail
        refine hcall.mono ?_
        rintro e w1 ⟨rfl, hb1⟩
        go_wp2
        go_ret
        exact ⟨by rw [HX.out]; rfl, hb.trans (hb1.mono hb.size)⟩
    · have HX : Hid (R = 0) := by
        show _ = _
        rw [HK.out]
        exact firstE_end (by rw [← Hn.out]; omega)
      go_wp2
      go_ret
      exact ⟨by rw [HX.out]; rfl, hb⟩

set_option maxHeartbeats 1000000 in
set_option maxRecDepth 100000 in
theorem check1_any {β : Type} {w : World} (x : FI) (v : VI β) {a1 a2 a3 : Option Addr} {n1 n2 n3 c1 c2 c3 : Nat} (h1 : RdL 1 UAt w (.slice a1 n1 c1) v.bits) (hu : ∀ n ∈ v.bits, n < 18446744073709551616) :
    Calls Tryz.prog 95 #[vFI x, .agg #[.int .i64 v.number, .slice a1 n1 c1, .slice a2 n2 c2, .slice a3 n3 c3]] w fun e w' => e = .returned (.int .i64 (firstE (fitsI x.kind) v.bits)) ∧ Below w.heap.size w w' := by
  have hb2 : Below w.heap.size w ((w.alloc (.cells (cFI x) 53)).alloc (.cells #[.int .i64 v.number, .slice a1 n1 c1, .slice a2 n2 c2, .slice a3 n3 c3] 34)) := ((Below.refl _ _).alloc (Nat.le_refl _) _).alloc (by simp) _
  have hi := fitE_any (x := x) (h1.below UAt.stays hb2) hu (alloc2_old w _ _)
  have hmf := makeF
  unfold cFI at hb2 hi
  unfold vFI
  go_enter Tryz.func95, Tryz.ntmps95
  go_wp2_with fail
  refine hi.mono ?_
  rintro e w1 ⟨rfl, hb1⟩
  go_wp2
  go_ret
  exact ⟨rfl, hb2.trans (hb1.mono hb2.size)⟩

end L
end Go.Proofs.YtelmjekjohbmjaaGreatDoor

/- Copies of bytes, and of lists of them. -/
namespace Go.Proofs.YtelmjekjohbmjaaGreatDoor
namespace L
open Go.RowKit

theorem Row.empB {α : Type} (E : EK α) {w : World} {base g : Nat} (hb : base ≤ g) (h : w.heap[g]? = some (.cells #[] E.elem (0, 0))) : Row E w base (.slice (some ⟨g, 0, none⟩) 0 0) [] :=
  ⟨by simp [EK.flat], .inr ⟨g, 0, #[], rfl, hb, h, Nat.le_refl _, by unfold maxLen; omega, by simp, by simp [EK.flat]⟩⟩
/-- What an append wants of a list that is read. -/
def Src {α : Type} (E : EK α) (w : World) (ao : Option Addr) (n cap : Nat) (l : List α) : Prop := l.length = n ∧ (ao = none → n = 0 ∧ cap = 0) ∧ ∀ ad, ao = some ad → ∀ k y, l[k]? = some y → ∀ j u, (E.enc y)[j]? = some u → w.cell? (ad.add (k * E.size + j)) = some u
/-- .. whose entries have one cell. -/
theorem RdL.src1 {α : Type} {P : World → Addr → α → Prop} {E : EK α} (v : α → Value) (hs : E.size = 1) (hE : ∀ a, E.enc a = [v a]) {w : World} (hP : ∀ x a, P w x a → w.cell? x = some (v a)) {ao : Option Addr} {n cap : Nat} {l : List α} (h : RdL 1 P w (.slice ao n cap) l) : Src E w ao n cap l := by
  obtain ⟨ao', n', cap', e, h1, _, _, h4, h5⟩ := h
  cases e
  refine ⟨h1, h4, fun ad had k y hy j u hu => ?_⟩
  rw [hE] at hu
  have hj : j = 0 := by
    cases j with
    | zero => rfl
    | succ j => simp at hu
  subst hj
  simp at hu
  subst hu
  rw [hs]
  exact hP _ y (h5 ad had k y hy)
theorem RdL.srcY {w : World} {ao : Option Addr} {n cap : Nat} {l : List UInt8} (h : RdL 1 YAt w (.slice ao n cap) l) : Src ekY w ao n cap l := RdL.src1 (E := ekY) (fun b => .int .u8 (b.toNat : Int)) rfl (fun _ => rfl) (fun _ _ h => h) h
theorem RdL.srcU {w : World} {ao : Option Addr} {n cap : Nat} {l : List Nat} (h : RdL 1 UAt w (.slice ao n cap) l) : Src ekU w ao n cap l := RdL.src1 (E := ekU) (fun n => .int .u64 (n : Int)) rfl (fun _ => rfl) (fun _ _ h => h) h

theorem eql_nilY (w : World) (a : Option Addr) (l c : Nat) : (binOp .eql 68 (.slice a l c) (.slice none 0 0)).run Tryz.prog w = .ok (.bool a.isNone) w :=
  run_eql_slice_nil w 68 5 a l c Tryz.underlying68
set_option maxHeartbeats 1000000 in
set_option maxRecDepth 100000 in
theorem clone_any {w : World} {B0 : Nat} (hB : B0 ≤ w.heap.size) {ao : Option Addr} {n cap : Nat} {l : List UInt8} (h : RdL 1 YAt w (.slice ao n cap) l) (hl : l.length ≤ 140737488355328) :
    Calls Tryz.prog 64 #[.slice ao n cap] w fun e w' => ∃ p : PV, e = .returned p.v ∧ Row ekY w' B0 p.v l ∧ Below w.heap.size w w' := by
  obtain ⟨h1, h2, h3⟩ := h.srcY
  have hnil := eql_nilY
  cases ao with
  | none =>
    obtain ⟨rfl, rfl⟩ := h2 rfl
    obtain rfl : l = [] := List.eq_nil_of_length_eq_zero h1
    go_enter Tryz.func64, Tryz.ntmps64
    go_wp2
    go_ret
    exact ⟨none, 0, 0, rfl, Row.nil _ _ _, Below.refl _ _⟩
  | some x =>
    obtain ⟨W1, HW1⟩ : ∃ W1, Hid (W1 = w.alloc (.cells #[] 5)) := ⟨_, rfl⟩
    have hb1 : Below w.heap.size w W1 := by rw [HW1.out]; exact (Below.refl _ _).alloc (Nat.le_refl _) _
    have z1 : w.heap.size + 1 ≤ W1.heap.size := by rw [HW1.out]; simp
    have x1 : W1.heap[w.heap.size]? = some (.cells #[] 5 (0, 0)) := by rw [HW1.out]; exact heap_alloc_new _ _
    have hr1 : Row ekY W1 B0 (.slice (some ⟨w.heap.size, 0, none⟩) 0 0) [] := Row.empB ekY hB x1
    obtain ⟨_, _, hc⟩ := (h.below YAt.stays hb1).srcY
    have hlen : (([] : List UInt8).length + l.length) * ekY.bytes ≤ 140737488355328 := by show (0 + l.length) * 1 ≤ _; omega
    clear h h3
    go_enter Tryz.func64, Tryz.ntmps64
    go_wp2_with (at_builtin; rw [← HW1.out]; refine wpList_appB rfl ekY _ _ rfl B0 _ [] l rfl hr1 (some x) n cap rfl h1 h2 hc (by decide) hlen (by omega) ?_)
    intro v2 w2 hr2 hg2 hk2
    obtain ⟨a2, n2, cap2, rfl, Hn2⟩ := hr2.shape'
    go_wp2
    go_ret
    refine ⟨(a2, n2, cap2), rfl, hr2, ⟨hg2.os.trans hb1.os, hg2.tape.trans hb1.tape, hg2.output.trans hb1.output, Nat.le_trans hb1.size hg2.size, fun k hk => ?_⟩⟩
    rw [hg2.block k (by omega) (fun e => by simp [Value.ownBlock] at e; omega), hb1.block k hk]

/-- A list of one entry that lies in a block of its own. -/
theorem src_one {α : Type} {E : EK α} {w : World} {g : Nat} {cs : Array Value} {t : TypeId} {y0 : α} (h : w.heap[g]? = some (.cells cs t (0, 0))) (hE : cs = (E.enc y0).toArray) : ∀ ad, (some ⟨g, 0, none⟩ : Option Addr) = some ad → ∀ k y, [y0][k]? = some y → ∀ j u, (E.enc y)[j]? = some u → w.cell? (ad.add (k * E.size + j)) = some u := by
  intro ad had k y hy j u hu
  cases had
  have hk : k = 0 := by
    cases k with
    | zero => rfl
    | succ k => simp at hy
  subst hk
  simp at hy
  subst hy
  rw [add_plain]
  refine cell_of_blk h _ u ?_
  rw [hE, List.getElem?_toArray, Nat.zero_mul, Nat.zero_add, Nat.zero_add]
  exact hu
theorem entZ (B0 : Nat) : Ent (fun w (z : List UInt8 × PV) => Row ekY w B0 z.2.v z.1) (fun _ => []) := ⟨fun _ _ _ _ h hf _ => h.frY hf, fun _ _ _ k hk => by simp at hk⟩

set_option maxHeartbeats 2000000 in
set_option maxRecDepth 100000 in
theorem copZ_any {w : World} {B0 : Nat} (hB : B0 ≤ w.heap.size) {vl : Value} {l : List (List UInt8)} (h : RdL 1 ZAt w vl l) (hl : l.length * 24 ≤ reachBytes) (hz : ∀ z ∈ l, z.length * 1 ≤ reachBytes) :
    Calls Tryz.prog 63 #[vl, .func (.func 64) #[] #[]] w fun e w' => ∃ (p : PV) (l' : List (List UInt8 × PV)), e = .returned p.v ∧ Cop ekZ Prod.fst (fun w (z : List UInt8 × PV) => Row ekY w B0 z.2.v z.1) (fun _ => []) w B0 l w' p l' := by
  obtain ⟨ao, n, cap, rfl, Hn, hcap⟩ := h.shape
  have hn : n * 24 ≤ reachBytes := by rw [Hn.out]; exact hl
  unfold reachBytes at hn hz
  go_enter Tryz.func63, Tryz.ntmps63
  go_wp2_with fail
  go_loopg [5, 10] n (fun m s5 i wr => ∃ (k : Nat) (p : PV) (l' : List (List UInt8 × PV)), k + m = n ∧ i = .int .i64 k ∧ s5 = p.v ∧ Cop ekZ Prod.fst (fun w (z : List UInt8 × PV) => Row ekY w B0 z.2.v z.1) (fun _ => []) w B0 (l.take k) wr p l')
  case atStart => exact ⟨0, (none, 0, 0), [], by omega, rfl, rfl, Cop.nil w B0⟩
  case round =>
    obtain ⟨k, p, l', hk, rfl, rfl, hc⟩ := hrel
    by_cases hlt : k < n
    · obtain ⟨z, Hz⟩ : ∃ z, Hid (l[k]? = some z) := ⟨l[k]'(by rw [← Hn.out]; exact hlt), List.getElem?_eq_getElem (by rw [← Hn.out]; exact hlt)⟩
      obtain ⟨b, off, rfl, hat⟩ := (h.below ZAt.stays hc.below).get ZAt.plain Hz.out
      obtain ⟨vz, hz0, hz1⟩ := hat
      rw [Nat.mul_one] at hz0
      obtain ⟨az, nz, cz, rfl, _, _⟩ := hz1.shape
      have hki : (k : Int) < (n : Int) := by omega
      have hone := clone_any (B0 := B0) (Nat.le_trans hB hc.below.size) hz1 (by have := hz z (mem_at Hz.out); omega)
      have HT : Hid (l.take (k + 1) = l.take k ++ [z]) := by show _ = _; rw [List.take_add_one, Hz.out]; rfl
      have Hlen : Hid (l'.length = k) := by show _ = _; rw [← List.length_map (f := Prod.fst), hc.map, List.length_take, ← Hn.out]; omega
      obtain ⟨ap, np, cp⟩ := p
      clear h hz hz1
      unfold PV.v at *
      go_wp2_with fail
      refine hone.mono ?_
      rintro e w1 ⟨pz, rfl, hrz, hb1⟩
      obtain ⟨aq, nq, cq⟩ := pz
      unfold PV.v at *
      obtain ⟨W2, HW2⟩ : ∃ W2, Hid (W2 = w1.alloc (.cells #[.slice aq nq cq] 68)) := ⟨_, rfl⟩
      have hb2 : Below w1.heap.size w1 W2 := by rw [HW2.out]; exact (Below.refl _ _).alloc (Nat.le_refl _) _
      have x2 : W2.heap[w1.heap.size]? = some (.cells #[.slice aq nq cq] 68 (0, 0)) := by rw [HW2.out]; exact heap_alloc_new _ _
      have hb12 : Below wr.heap.size wr W2 := hb1.trans (hb2.mono hb1.size)
      have hrow2 : Row ekZ W2 B0 (.slice ap np cp) l' := hc.row.below hb12
      have hsrc : ∀ ad, (some ⟨w1.heap.size, 0, none⟩ : Option Addr) = some ad → ∀ k y, [((z, (aq, nq, cq)) : List UInt8 × PV)][k]? = some y → ∀ j u, (ekZ.enc y)[j]? = some u → W2.cell? (ad.add (k * ekZ.size + j)) = some u := src_one x2 rfl
      have hlen : (l'.length + [((z, (aq, nq, cq)) : List UInt8 × PV)].length) * ekZ.bytes ≤ 140737488355328 := by rw [Hlen.out]; show (k + 1) * 24 ≤ _; omega
      have hB2 : B0 ≤ W2.heap.size := Nat.le_trans hB (Nat.le_trans hc.below.size hb12.size)
      go_wp2_with (at_builtin; rw [← HW2.out]; refine wpList_appB rfl ekZ _ _ rfl B0 _ l' [(z, (aq, nq, cq))] rfl hrow2 (some ⟨w1.heap.size, 0, none⟩) 1 1 rfl rfl (fun h => by cases h) hsrc (by decide) hlen hB2 ?_)
      intro v3 w3 hr3 hg3 hk3
      obtain ⟨a3, n3, c3, rfl, Hn3⟩ := hr3.shape'
      go_wp2_with fail
      go_roundg (n - (k + 1))
      case measure => omega
      case rel =>
        refine ⟨k + 1, (a3, n3, c3), l' ++ [(z, (aq, nq, cq))], by omega, by go_num, rfl, ?_⟩
        rw [HT.out]
        exact hc.step (entZ B0) (by decide) rfl hrz (fun _ h => by simp at h) List.nodup_nil hb1 hb2 (p3 := (a3, n3, c3)) hr3 hg3 hk3
    · obtain rfl : k = n := by omega
      have HT : Hid (l.take k = l) := by show _ = _; exact List.take_of_length_le (by rw [← Hn.out]; exact Nat.le_refl _)
      obtain ⟨ap, np, cp⟩ := p
      rw [HT.out] at hc
      unfold PV.v
      go_wp2
      go_ret
      exact ⟨(ap, np, cp), l', rfl, hc⟩

end L
end Go.Proofs.YtelmjekjohbmjaaGreatDoor

/- A record's own copy, and a list of them. -/
namespace Go.Proofs.YtelmjekjohbmjaaGreatDoor
namespace L
open Go.RowKit

theorem BTr {A V V' : World} (h : Below A.heap.size A V) (k : Below V.heap.size V V') : Below A.heap.size A V' := h.trans (k.mono h.size)
theorem b4set {B : Nat} {w x : World} {g i : Nat} {v : Value} (h : Below B w x) (hg : B ≤ g) : Below B w (x.setCell ⟨g, i, none⟩ v) :=
  ⟨h.os, h.tape, h.output, by simpa using h.size, fun k hk => (Below.heap_setCell x ⟨g, i, none⟩ v k (show k ≠ g by omega)).trans (h.block k hk)⟩
theorem Row.set4 {α : Type} {E : EK α} {w : World} {base g i : Nat} {v : Value} {l : List α} {x : Value} (h : Row E w base v l) (hg : g < base) : Row E (w.setCell ⟨g, i, none⟩ x) base v l := h.other (fun e => by have := (h.own g e).1; omega) i x

set_option maxHeartbeats 1000000 in
set_option maxRecDepth 100000 in
theorem ownRec_any {w : World} {B0 : Nat} (hB : B0 ≤ w.heap.size) (r : RI) {ao : Option Addr} {n cap : Nat} (h : RdL 1 YAt w (.slice ao n cap) r.bytes) (hl : r.bytes.length ≤ 140737488355328) :
    Calls Tryz.prog 32 #[.agg #[.int .i64 r.number, .int .i64 r.how, .int .u64 (r.bits : Int), .slice ao n cap]] w fun e w' => ∃ (a : Option Addr) (m c : Nat), e = .returned (.agg #[.int .i64 r.number, .int .i64 r.how, .int .u64 (r.bits : Int), .slice a m c]) ∧ Row ekY w' B0 (.slice a m c) r.bytes ∧ Below w.heap.size w w' := by
  obtain ⟨W2, HW2⟩ : ∃ W2, Hid (W2 = (w.alloc (.cells #[.int .i64 r.number, .int .i64 r.how, .int .u64 (r.bits : Int), .slice ao n cap] 73)).alloc (.cells #[.int .i64 0, .int .i64 0, .int .u64 0, .slice none 0 0] 73)) := ⟨_, rfl⟩
  have hb2 : Below w.heap.size w W2 := by rw [HW2.out]; exact ((Below.refl _ _).alloc (Nat.le_refl _) _).alloc (by simp) _
  have z2 : w.heap.size + 2 ≤ W2.heap.size := by rw [HW2.out]; simp
  have x1 : W2.heap[w.heap.size]? = some (.cells #[.int .i64 r.number, .int .i64 r.how, .int .u64 (r.bits : Int), .slice ao n cap] 73 (0, 0)) := by rw [HW2.out]; exact alloc2_old _ _ _
  have x2 : W2.heap[w.heap.size + 1]? = some (.cells #[.int .i64 0, .int .i64 0, .int .u64 0, .slice none 0 0] 73 (0, 0)) := by rw [HW2.out]; exact alloc2_new _ _ _
  have hone := clone_any (B0 := W2.heap.size) (Nat.le_refl _) (h.below YAt.stays hb2) hl
  clear h
  go_enter Tryz.func32, Tryz.ntmps32
  go_wp2_with fail
  rw [← HW2.out]
  refine hone.mono ?_
  rintro e w3 ⟨⟨a, m, c⟩, rfl, hr3, hb3⟩
  unfold PV.v at *
  have hz3 := hb3.size
  have y1 := (hb3.block _ (by omega)).trans x1
  have y2 := (hb3.block _ (by omega)).trans x2
  have u0 : w3.cell? ⟨w.heap.size, 0, none⟩ = some (.int .i64 r.number) := cell_of_blk y1 0 _ rfl
  have u1 : w3.cell? ⟨w.heap.size, 1, none⟩ = some (.int .i64 r.how) := cell_of_blk y1 1 _ rfl
  have u2 : w3.cell? ⟨w.heap.size, 2, none⟩ = some (.int .u64 (r.bits : Int)) := cell_of_blk y1 2 _ rfl
  have u3 : w3.cell? ⟨w.heap.size, 3, none⟩ = some (.slice ao n cap) := cell_of_blk y1 3 _ rfl
  have f3 := fr_of_blk y1 3
  have q0 : w3.cell? ⟨w.heap.size + 1, 0, none⟩ = some (.int .i64 0) := cell_of_blk y2 0 _ rfl
  have q1 : w3.cell? ⟨w.heap.size + 1, 1, none⟩ = some (.int .i64 0) := cell_of_blk y2 1 _ rfl
  have q2 : w3.cell? ⟨w.heap.size + 1, 2, none⟩ = some (.int .u64 0) := cell_of_blk y2 2 _ rfl
  have q3 : w3.cell? ⟨w.heap.size + 1, 3, none⟩ = some (.slice none 0 0) := cell_of_blk y2 3 _ rfl
  have g0 := fr_of_blk y2 0
  have g1 := fr_of_blk y2 1
  have g2 := fr_of_blk y2 2
  have g3 := fr_of_blk y2 3
  have ne1 : ¬ w.heap.size = w.heap.size + 1 := by omega
  have ne2 : ¬ w.heap.size + 1 = w.heap.size := by omega
  go_wp2
  refine bodyPost_ret (v := .agg #[.int .i64 r.number, .int .i64 r.how, .int .u64 (r.bits : Int), .slice a m c]) (by simp [results, Tryz.results32, go_sem, *]) rfl ?_
  refine ⟨a, m, c, rfl, ?_, ?_⟩
  · exact (((((hr3.set4 (by omega)).set4 (by omega)).set4 (by omega)).set4 (by omega)).set4 (by omega)).mono (by omega)
  · exact b4set (b4set (b4set (b4set (b4set (BTr hb2 hb3) (by omega)) (by omega)) (by omega)) (by omega)) (by omega)

end L
end Go.Proofs.YtelmjekjohbmjaaGreatDoor

/- A body one level down, whoever made it. -/
namespace Go.Proofs.YtelmjekjohbmjaaGreatDoor
namespace L
open Go.RowKit

def BQ : (d : Nat) → World → Value → Value → BI d → Prop
  | 0 => fun _ _ _ _ => False
  | d + 1 => fun w v0 v1 b => BRd d w v0 v1 b
theorem BQ.of : ∀ (d : Nat) {w : World} {b o : Nat} {x : BI d}, BAt d w ⟨b, o, none⟩ x → ∃ v0 v1, w.cell? ⟨b, o, none⟩ = some v0 ∧ w.cell? ⟨b, o + 1, none⟩ = some v1 ∧ BQ d w v0 v1 x
  | 0, _, _, _, _, h => h.elim
  | _ + 1, _, _, _, _, h => BAt.at h
theorem BRd.shape {d : Nat} {w : World} {v0 v1 : Value} {b : BO (BI d)} (h : BRd d w v0 v1 b) : ∃ a0 n0 c0 a1 n1 c1, v0 = .slice a0 n0 c0 ∧ v1 = .slice a1 n1 c1 := by
  obtain ⟨a0, n0, c0, e0, _, _⟩ := h.1.shape
  obtain ⟨a1, n1, c1, e1, _, _⟩ := h.2.shape
  exact ⟨a0, n0, c0, a1, n1, c1, e0, e1⟩
theorem BQ.shape {d : Nat} {w : World} {v0 v1 : Value} {b : BI d} (h : BQ d w v0 v1 b) : ∃ a0 n0 c0 a1 n1 c1, v0 = .slice a0 n0 c0 ∧ v1 = .slice a1 n1 c1 := by
  cases d with
  | zero => exact h.elim
  | succ d => exact BRd.shape h
theorem BQ.below {d : Nat} {w w' : World} {v0 v1 : Value} {b : BI d} (h : BQ d w v0 v1 b) (hb : Below w.heap.size w w') : BQ d w' v0 v1 b := by
  cases d with
  | zero => exact h.elim
  | succ d => exact BRd.below h hb

end L
end Go.Proofs.YtelmjekjohbmjaaGreatDoor

/- Lists of records, of bodies and of values, copied entry by entry, whatever copies one. -/
namespace Go.Proofs.YtelmjekjohbmjaaGreatDoor
namespace L
open Go.RowKit

theorem entR (B0 : Nat) : Ent (fun w (r : RI × PV) => Row ekY w B0 r.2.v r.1.bytes) (fun _ => []) := ⟨fun _ _ _ _ h hf _ => h.frY hf, fun _ _ _ k hk => by simp at hk⟩
theorem entB (B0 d : Nat) : Ent (OwnB B0 d) (LB.fp d) := ⟨fun F w w' a => OwnB.fr d F w w' a, fun _ _ h k hk => (OwnB.inB d h k hk).2⟩
theorem entV (B0 d : Nat) : Ent (fun w (v : VL (LB d)) => OwnV (ekB d) (OwnB B0 d) w B0 v) (VL.fp (LB.fp d)) := ⟨fun _ _ _ _ h hf hd => h.fr (OwnB.fr d) hf hd, fun _ _ h k hk => (h.inB (fun _ _ hs => OwnB.inB d hs) k hk).2⟩

set_option maxHeartbeats 2000000 in
set_option maxRecDepth 100000 in
theorem copR_any {w : World} {B0 : Nat} (hB : B0 ≤ w.heap.size) {vl : Value} {l : List (RI)} (h : RdL 4 RAt w vl l) (hl : l.length * 48 ≤ reachBytes) {fn : Nat} (hent : ∀ (args : Array Value) (w : World), (callFunc fn args).run Tryz.prog w = .ok (.enter fn args) w)
    (hone : ∀ W, Below w.heap.size w W → ∀ a ∈ l, ∀ (ay : Option Addr) (ny cy : Nat), RdL 1 YAt W (.slice ay ny cy) a.bytes → Calls Tryz.prog fn #[.agg #[.int .i64 a.number, .int .i64 a.how, .int .u64 (a.bits : Int), .slice ay ny cy]] W fun e W' => ∃ (a' : RI × PV) (q0 q1 q2 : Int) (ax : Option Addr) (nx cx : Nat), ekR.enc a' = [.int .i64 q0, .int .i64 q1, .int .u64 q2, .slice ax nx cx] ∧ e = .returned (.agg #[.int .i64 q0, .int .i64 q1, .int .u64 q2, .slice ax nx cx]) ∧ Prod.fst a' = a ∧ (fun w (r : RI × PV) => Row ekY w B0 r.2.v r.1.bytes) W' a' ∧ (∀ k ∈ (fun (_ : RI × PV) => ([] : List Nat)) a', W.heap.size ≤ k) ∧ ((fun (_ : RI × PV) => ([] : List Nat)) a').Nodup ∧ Below W.heap.size W W') :
    Calls Tryz.prog 31 #[vl, .func (.func fn) #[] #[]] w fun e w' => ∃ (p : PV) (l' : List (RI × PV)), e = .returned p.v ∧ Cop (ekR) (Prod.fst) ((fun w (r : RI × PV) => Row ekY w B0 r.2.v r.1.bytes)) ((fun (_ : RI × PV) => ([] : List Nat))) w B0 l w' p l' := by
  obtain ⟨ao, n, cap, rfl, Hn, hcap⟩ := h.shape
  have hn : n * 48 ≤ reachBytes := by rw [Hn.out]; exact hl
  unfold reachBytes at hn
  go_enter Tryz.func31, Tryz.ntmps31
  go_wp2_with fail
  go_loopg [5, 10] n (fun m s5 i wr => ∃ (k : Nat) (p : PV) (l' : List (RI × PV)), k + m = n ∧ i = .int .i64 k ∧ s5 = p.v ∧ Cop (ekR) (Prod.fst) ((fun w (r : RI × PV) => Row ekY w B0 r.2.v r.1.bytes)) ((fun (_ : RI × PV) => ([] : List Nat))) w B0 (l.take k) wr p l')
  case atStart => exact ⟨0, (none, 0, 0), [], by omega, rfl, rfl, Cop.nil w B0⟩
  case round =>
    obtain ⟨k, p, l', hk, rfl, rfl, hc⟩ := hrel
    by_cases hlt : k < n
    · obtain ⟨z, Hz⟩ : ∃ z, Hid (l[k]? = some z) := ⟨l[k]'(by rw [← Hn.out]; exact hlt), List.getElem?_eq_getElem (by rw [← Hn.out]; exact hlt)⟩
      obtain ⟨b, off, rfl, hat⟩ := (h.below RAt.stays hc.below).get RAt.plain Hz.out
      obtain ⟨vy, s0, s1, s2, s3, hry⟩ := hat.at
      obtain ⟨ay, ny, cy, rfl, _, _⟩ := hry.shape
      have hki : (k : Int) < (n : Int) := by omega
      have HT : Hid (l.take (k + 1) = l.take k ++ [z]) := by show _ = _; rw [List.take_add_one, Hz.out]; rfl
      have Hlen : Hid (l'.length = k) := by show _ = _; rw [← List.length_map (f := Prod.fst), hc.map, List.length_take, ← Hn.out]; omega
      obtain ⟨ap, np, cp⟩ := p
      obtain ⟨W1, HW1⟩ : ∃ W1, Hid (W1 = wr.alloc (.cells #[.int .i64 z.number, .int .i64 z.how, .int .u64 (z.bits : Int), .slice ay ny cy] 73)) := ⟨_, rfl⟩
      have hb1 : Below wr.heap.size wr W1 := by rw [HW1.out]; exact (Below.refl _ _).alloc (Nat.le_refl _) _
      have hcall := hone W1 (BTr hc.below hb1) z (mem_at Hz.out) ay ny cy (hry.below YAt.stays hb1)
      clear h hone
      unfold PV.v at *
      go_wp2_with fail
      rw [← HW1.out]
      refine hcall.mono ?_
      rintro e w2 ⟨a', q0, q1, q2, ax, nx, cx, henc, rfl, her, hO, hge, hnd, hb2⟩
      obtain ⟨W3, HW3⟩ : ∃ W3, Hid (W3 = w2.alloc (.cells #[.int .i64 q0, .int .i64 q1, .int .u64 q2, .slice ax nx cx] 73)) := ⟨_, rfl⟩
      have hb3 : Below w2.heap.size w2 W3 := by rw [HW3.out]; exact (Below.refl _ _).alloc (Nat.le_refl _) _
      have x3 : W3.heap[w2.heap.size]? = some (.cells #[.int .i64 q0, .int .i64 q1, .int .u64 q2, .slice ax nx cx] 73 (0, 0)) := by rw [HW3.out]; exact heap_alloc_new _ _
      have hb02 : Below wr.heap.size wr w2 := BTr hb1 hb2
      have hb03 : Below wr.heap.size wr W3 := BTr hb02 hb3
      have hrow3 : Row (ekR) W3 B0 (.slice ap np cp) l' := hc.row.below hb03
      have hsrc : ∀ ad, (some ⟨w2.heap.size, 0, none⟩ : Option Addr) = some ad → ∀ k y, [a'][k]? = some y → ∀ j u, ((ekR).enc y)[j]? = some u → W3.cell? (ad.add (k * (ekR).size + j)) = some u := src_one x3 (by rw [henc])
      have hlen : (l'.length + [a'].length) * (ekR).bytes ≤ 140737488355328 := by rw [Hlen.out]; show (k + 1) * 48 ≤ _; omega
      have hB3 : B0 ≤ W3.heap.size := Nat.le_trans hB (Nat.le_trans hc.below.size hb03.size)
      have hge' : ∀ k ∈ ((fun (_ : RI × PV) => ([] : List Nat))) a', wr.heap.size ≤ k := fun k hk => Nat.le_trans hb1.size (hge k hk)
      clear hcall x3 hge
      go_wp2_with (at_builtin; rw [← HW3.out]; refine wpList_appB rfl (ekR) _ _ rfl B0 _ l' [a'] rfl hrow3 (some ⟨w2.heap.size, 0, none⟩) 1 1 rfl rfl (fun h => by cases h) hsrc (show 1 ≤ 48 by omega) hlen hB3 ?_)
      intro v4 w4 hr4 hg4 hk4
      obtain ⟨a4, n4, c4, rfl, Hn4⟩ := hr4.shape'
      go_wp2_with fail
      go_roundg (n - (k + 1))
      case measure => omega
      case rel =>
        refine ⟨k + 1, (a4, n4, c4), l' ++ [a'], by omega, by go_num, rfl, ?_⟩
        rw [HT.out]
        exact hc.step (entR B0) (by show (73 : TypeId) ≠ 5; decide) her hO hge' hnd hb02 hb3 (p3 := (a4, n4, c4)) hr4 hg4 hk4
    · obtain rfl : k = n := by omega
      have HT : Hid (l.take k = l) := by show _ = _; exact List.take_of_length_le (by rw [← Hn.out]; exact Nat.le_refl _)
      obtain ⟨ap, np, cp⟩ := p
      rw [HT.out] at hc
      unfold PV.v
      go_wp2
      go_ret
      exact ⟨(ap, np, cp), l', rfl, hc⟩

set_option maxHeartbeats 2000000 in
set_option maxRecDepth 100000 in
theorem copB_any {d : Nat} {w : World} {B0 : Nat} (hB : B0 ≤ w.heap.size) {vl : Value} {l : List (BI d)} (h : RdL 2 (BAt d) w vl l) (hl : l.length * 48 ≤ reachBytes) {fn : Nat} (hent : ∀ (args : Array Value) (w : World), (callFunc fn args).run Tryz.prog w = .ok (.enter fn args) w)
    (hone : ∀ W, Below w.heap.size w W → ∀ a ∈ l, ∀ (a0 : Option Addr) (n0 c0 : Nat) (a1 : Option Addr) (n1 c1 : Nat), BQ d W (.slice a0 n0 c0) (.slice a1 n1 c1) a → Calls Tryz.prog fn #[.agg #[.slice a0 n0 c0, .slice a1 n1 c1]] W fun e W' => ∃ (a' : LB d) (x0 : Option Addr) (y0 z0 : Nat) (x1 : Option Addr) (y1 z1 : Nat), (ekB d).enc a' = [.slice x0 y0 z0, .slice x1 y1 z1] ∧ e = .returned (.agg #[.slice x0 y0 z0, .slice x1 y1 z1]) ∧ (LB.pl d) a' = a ∧ (OwnB B0 d) W' a' ∧ (∀ k ∈ (LB.fp d) a', W.heap.size ≤ k) ∧ ((LB.fp d) a').Nodup ∧ Below W.heap.size W W') :
    Calls Tryz.prog 65 #[vl, .func (.func fn) #[] #[]] w fun e w' => ∃ (p : PV) (l' : List (LB d)), e = .returned p.v ∧ Cop ((ekB d)) ((LB.pl d)) ((OwnB B0 d)) ((LB.fp d)) w B0 l w' p l' := by
  obtain ⟨ao, n, cap, rfl, Hn, hcap⟩ := h.shape
  have hn : n * 48 ≤ reachBytes := by rw [Hn.out]; exact hl
  unfold reachBytes at hn
  go_enter Tryz.func65, Tryz.ntmps65
  go_wp2_with fail
  go_loopg [5, 10] n (fun m s5 i wr => ∃ (k : Nat) (p : PV) (l' : List (LB d)), k + m = n ∧ i = .int .i64 k ∧ s5 = p.v ∧ Cop ((ekB d)) ((LB.pl d)) ((OwnB B0 d)) ((LB.fp d)) w B0 (l.take k) wr p l')
  case atStart => exact ⟨0, (none, 0, 0), [], by omega, rfl, rfl, Cop.nil w B0⟩
  case round =>
    obtain ⟨k, p, l', hk, rfl, rfl, hc⟩ := hrel
    by_cases hlt : k < n
    · obtain ⟨z, Hz⟩ : ∃ z, Hid (l[k]? = some z) := ⟨l[k]'(by rw [← Hn.out]; exact hlt), List.getElem?_eq_getElem (by rw [← Hn.out]; exact hlt)⟩
      obtain ⟨b, off, rfl, hat⟩ := (h.below (BAt.stays d) hc.below).get (BAt.plain d) Hz.out
      obtain ⟨v0, v1, s0, s1, hq⟩ := BQ.of d hat
      obtain ⟨a0, n0, c0, a1, n1, c1, rfl, rfl⟩ := hq.shape
      have hki : (k : Int) < (n : Int) := by omega
      have HT : Hid (l.take (k + 1) = l.take k ++ [z]) := by show _ = _; rw [List.take_add_one, Hz.out]; rfl
      have Hlen : Hid (l'.length = k) := by show _ = _; rw [← List.length_map (f := (LB.pl d)), hc.map, List.length_take, ← Hn.out]; omega
      obtain ⟨ap, np, cp⟩ := p
      obtain ⟨W1, HW1⟩ : ∃ W1, Hid (W1 = wr.alloc (.cells #[.slice a0 n0 c0, .slice a1 n1 c1] 29)) := ⟨_, rfl⟩
      have hb1 : Below wr.heap.size wr W1 := by rw [HW1.out]; exact (Below.refl _ _).alloc (Nat.le_refl _) _
      have hcall := hone W1 (BTr hc.below hb1) z (mem_at Hz.out) a0 n0 c0 a1 n1 c1 (hq.below hb1)
      clear h hone
      unfold PV.v at *
      go_wp2_with fail
      rw [← HW1.out]
      refine hcall.mono ?_
      rintro e w2 ⟨a', x0, y0, z0, x1, y1, z1, henc, rfl, her, hO, hge, hnd, hb2⟩
      obtain ⟨W3, HW3⟩ : ∃ W3, Hid (W3 = w2.alloc (.cells #[.slice x0 y0 z0, .slice x1 y1 z1] 29)) := ⟨_, rfl⟩
      have hb3 : Below w2.heap.size w2 W3 := by rw [HW3.out]; exact (Below.refl _ _).alloc (Nat.le_refl _) _
      have x3 : W3.heap[w2.heap.size]? = some (.cells #[.slice x0 y0 z0, .slice x1 y1 z1] 29 (0, 0)) := by rw [HW3.out]; exact heap_alloc_new _ _
      have hb02 : Below wr.heap.size wr w2 := BTr hb1 hb2
      have hb03 : Below wr.heap.size wr W3 := BTr hb02 hb3
      have hrow3 : Row ((ekB d)) W3 B0 (.slice ap np cp) l' := hc.row.below hb03
      have hsrc : ∀ ad, (some ⟨w2.heap.size, 0, none⟩ : Option Addr) = some ad → ∀ k y, [a'][k]? = some y → ∀ j u, (((ekB d)).enc y)[j]? = some u → W3.cell? (ad.add (k * ((ekB d)).size + j)) = some u := src_one x3 (by rw [henc])
      have hlen : (l'.length + [a'].length) * ((ekB d)).bytes ≤ 140737488355328 := by rw [Hlen.out]; show (k + 1) * 48 ≤ _; omega
      have hB3 : B0 ≤ W3.heap.size := Nat.le_trans hB (Nat.le_trans hc.below.size hb03.size)
      have hge' : ∀ k ∈ ((LB.fp d)) a', wr.heap.size ≤ k := fun k hk => Nat.le_trans hb1.size (hge k hk)
      clear hcall x3 hge
      go_wp2_with (at_builtin; rw [← HW3.out]; refine wpList_appB rfl ((ekB d)) _ _ rfl B0 _ l' [a'] rfl hrow3 (some ⟨w2.heap.size, 0, none⟩) 1 1 rfl rfl (fun h => by cases h) hsrc (show 1 ≤ 48 by omega) hlen hB3 ?_)
      intro v4 w4 hr4 hg4 hk4
      obtain ⟨a4, n4, c4, rfl, Hn4⟩ := hr4.shape'
      go_wp2_with fail
      go_roundg (n - (k + 1))
      case measure => omega
      case rel =>
        refine ⟨k + 1, (a4, n4, c4), l' ++ [a'], by omega, by go_num, rfl, ?_⟩
        rw [HT.out]
        exact hc.step (entB B0 d) (by show (29 : TypeId) ≠ 5; decide) her hO hge' hnd hb02 hb3 (p3 := (a4, n4, c4)) hr4 hg4 hk4
    · obtain rfl : k = n := by omega
      have HT : Hid (l.take k = l) := by show _ = _; exact List.take_of_length_le (by rw [← Hn.out]; exact Nat.le_refl _)
      obtain ⟨ap, np, cp⟩ := p
      rw [HT.out] at hc
      unfold PV.v
      go_wp2
      go_ret
      exact ⟨(ap, np, cp), l', rfl, hc⟩

set_option maxHeartbeats 2000000 in
set_option maxRecDepth 100000 in
theorem copV_any {d : Nat} {w : World} {B0 : Nat} (hB : B0 ≤ w.heap.size) {vl : Value} {l : List (VI (BI d))} (h : RdL 4 (VAt (BAt d)) w vl l) (hl : l.length * 80 ≤ reachBytes) {fn : Nat} (hent : ∀ (args : Array Value) (w : World), (callFunc fn args).run Tryz.prog w = .ok (.enter fn args) w)
    (hone : ∀ W, Below w.heap.size w W → ∀ a ∈ l, ∀ (a1 : Option Addr) (n1 c1 : Nat) (a2 : Option Addr) (n2 c2 : Nat) (a3 : Option Addr) (n3 c3 : Nat), RdL 1 UAt W (.slice a1 n1 c1) a.bits → RdL 1 ZAt W (.slice a2 n2 c2) a.bytes → RdL 2 (BAt d) W (.slice a3 n3 c3) a.subs → Calls Tryz.prog fn #[.agg #[.int .i64 a.number, .slice a1 n1 c1, .slice a2 n2 c2, .slice a3 n3 c3]] W fun e W' => ∃ (a' : VL (LB d)) (q0 : Int) (x1 : Option Addr) (y1 z1 : Nat) (x2 : Option Addr) (y2 z2 : Nat) (x3 : Option Addr) (y3 z3 : Nat), (ekV (LB d)).enc a' = [.int .i64 q0, .slice x1 y1 z1, .slice x2 y2 z2, .slice x3 y3 z3] ∧ e = .returned (.agg #[.int .i64 q0, .slice x1 y1 z1, .slice x2 y2 z2, .slice x3 y3 z3]) ∧ (VL.pl (LB.pl d)) a' = a ∧ (fun w (v : VL (LB d)) => OwnV (ekB d) (OwnB B0 d) w B0 v) W' a' ∧ (∀ k ∈ (VL.fp (LB.fp d)) a', W.heap.size ≤ k) ∧ ((VL.fp (LB.fp d)) a').Nodup ∧ Below W.heap.size W W') :
    Calls Tryz.prog 29 #[vl, .func (.func fn) #[] #[]] w fun e w' => ∃ (p : PV) (l' : List (VL (LB d))), e = .returned p.v ∧ Cop ((ekV (LB d))) ((VL.pl (LB.pl d))) ((fun w (v : VL (LB d)) => OwnV (ekB d) (OwnB B0 d) w B0 v)) ((VL.fp (LB.fp d))) w B0 l w' p l' := by
  obtain ⟨ao, n, cap, rfl, Hn, hcap⟩ := h.shape
  have hn : n * 80 ≤ reachBytes := by rw [Hn.out]; exact hl
  unfold reachBytes at hn
  go_enter Tryz.func29, Tryz.ntmps29
  go_wp2_with fail
  go_loopg [5, 10] n (fun m s5 i wr => ∃ (k : Nat) (p : PV) (l' : List (VL (LB d))), k + m = n ∧ i = .int .i64 k ∧ s5 = p.v ∧ Cop ((ekV (LB d))) ((VL.pl (LB.pl d))) ((fun w (v : VL (LB d)) => OwnV (ekB d) (OwnB B0 d) w B0 v)) ((VL.fp (LB.fp d))) w B0 (l.take k) wr p l')
  case atStart => exact ⟨0, (none, 0, 0), [], by omega, rfl, rfl, Cop.nil w B0⟩
  case round =>
    obtain ⟨k, p, l', hk, rfl, rfl, hc⟩ := hrel
    by_cases hlt : k < n
    · obtain ⟨z, Hz⟩ : ∃ z, Hid (l[k]? = some z) := ⟨l[k]'(by rw [← Hn.out]; exact hlt), List.getElem?_eq_getElem (by rw [← Hn.out]; exact hlt)⟩
      obtain ⟨b, off, rfl, hat⟩ := (h.below (VAt.stays (BAt.stays d)) hc.below).get VAt.plain Hz.out
      obtain ⟨v1, v2, v3, t0, t1, t2, t3, r1, r2, r3⟩ := hat.at
      obtain ⟨a1, n1, c1, rfl, _, _⟩ := r1.shape
      obtain ⟨a2, n2, c2, rfl, _, _⟩ := r2.shape
      obtain ⟨a3, n3, c3, rfl, _, _⟩ := r3.shape
      have hki : (k : Int) < (n : Int) := by omega
      have HT : Hid (l.take (k + 1) = l.take k ++ [z]) := by show _ = _; rw [List.take_add_one, Hz.out]; rfl
      have Hlen : Hid (l'.length = k) := by show _ = _; rw [← List.length_map (f := (VL.pl (LB.pl d))), hc.map, List.length_take, ← Hn.out]; omega
      obtain ⟨ap, np, cp⟩ := p
      obtain ⟨W1, HW1⟩ : ∃ W1, Hid (W1 = wr.alloc (.cells #[.int .i64 z.number, .slice a1 n1 c1, .slice a2 n2 c2, .slice a3 n3 c3] 34)) := ⟨_, rfl⟩
      have hb1 : Below wr.heap.size wr W1 := by rw [HW1.out]; exact (Below.refl _ _).alloc (Nat.le_refl _) _
      have hcall := hone W1 (BTr hc.below hb1) z (mem_at Hz.out) a1 n1 c1 a2 n2 c2 a3 n3 c3 (r1.below UAt.stays hb1) (r2.below ZAt.stays hb1) (r3.below (BAt.stays d) hb1)
      clear h hone
      unfold PV.v at *
      go_wp2_with fail
      rw [← HW1.out]
      refine hcall.mono ?_
      rintro e w2 ⟨a', q0, x1, y1, z1, x2, y2, z2, x3, y3, z3, henc, rfl, her, hO, hge, hnd, hb2⟩
      obtain ⟨W3, HW3⟩ : ∃ W3, Hid (W3 = w2.alloc (.cells #[.int .i64 q0, .slice x1 y1 z1, .slice x2 y2 z2, .slice x3 y3 z3] 34)) := ⟨_, rfl⟩
      have hb3 : Below w2.heap.size w2 W3 := by rw [HW3.out]; exact (Below.refl _ _).alloc (Nat.le_refl _) _
      have x3 : W3.heap[w2.heap.size]? = some (.cells #[.int .i64 q0, .slice x1 y1 z1, .slice x2 y2 z2, .slice x3 y3 z3] 34 (0, 0)) := by rw [HW3.out]; exact heap_alloc_new _ _
      have hb02 : Below wr.heap.size wr w2 := BTr hb1 hb2
      have hb03 : Below wr.heap.size wr W3 := BTr hb02 hb3
      have hrow3 : Row ((ekV (LB d))) W3 B0 (.slice ap np cp) l' := hc.row.below hb03
      have hsrc : ∀ ad, (some ⟨w2.heap.size, 0, none⟩ : Option Addr) = some ad → ∀ k y, [a'][k]? = some y → ∀ j u, (((ekV (LB d))).enc y)[j]? = some u → W3.cell? (ad.add (k * ((ekV (LB d))).size + j)) = some u := src_one x3 (by rw [henc])
      have hlen : (l'.length + [a'].length) * ((ekV (LB d))).bytes ≤ 140737488355328 := by rw [Hlen.out]; show (k + 1) * 80 ≤ _; omega
      have hB3 : B0 ≤ W3.heap.size := Nat.le_trans hB (Nat.le_trans hc.below.size hb03.size)
      have hge' : ∀ k ∈ ((VL.fp (LB.fp d))) a', wr.heap.size ≤ k := fun k hk => Nat.le_trans hb1.size (hge k hk)
      clear hcall x3 hge
      go_wp2_with (at_builtin; rw [← HW3.out]; refine wpList_appB rfl ((ekV (LB d))) _ _ rfl B0 _ l' [a'] rfl hrow3 (some ⟨w2.heap.size, 0, none⟩) 1 1 rfl rfl (fun h => by cases h) hsrc (show 1 ≤ 80 by omega) hlen hB3 ?_)
      intro v4 w4 hr4 hg4 hk4
      obtain ⟨a4, n4, c4, rfl, Hn4⟩ := hr4.shape'
      go_wp2_with fail
      go_roundg (n - (k + 1))
      case measure => omega
      case rel =>
        refine ⟨k + 1, (a4, n4, c4), l' ++ [a'], by omega, by go_num, rfl, ?_⟩
        rw [HT.out]
        exact hc.step (entV B0 d) (by show (34 : TypeId) ≠ 5; decide) her hO hge' hnd hb02 hb3 (p3 := (a4, n4, c4)) hr4 hg4 hk4
    · obtain rfl : k = n := by omega
      have HT : Hid (l.take k = l) := by show _ = _; exact List.take_of_length_le (by rw [← Hn.out]; exact Nat.le_refl _)
      obtain ⟨ap, np, cp⟩ := p
      rw [HT.out] at hc
      unfold PV.v
      go_wp2
      go_ret
      exact ⟨(ap, np, cp), l', rfl, hc⟩

end L
end Go.Proofs.YtelmjekjohbmjaaGreatDoor

/- Own, ownValue: a body's own copy. -/
namespace Go.Proofs.YtelmjekjohbmjaaGreatDoor
namespace L
open Go.RowKit

/-- What Own tells of bodies that are at most that deep. -/
def OwnTold (d : Nat) : Prop := ∀ (w : World) (B0 : Nat) (a0 : Option Addr) (n0 c0 : Nat) (a1 : Option Addr) (n1 c1 : Nat) (x : BI d), B0 ≤ w.heap.size → BQ d w (.slice a0 n0 c0) (.slice a1 n1 c1) x → BOk d x →
  Calls Tryz.prog 11 #[.agg #[.slice a0 n0 c0, .slice a1 n1 c1]] w fun e w' => ∃ (y : LB d) (x0 : Option Addr) (y0 z0 : Nat) (x1 : Option Addr) (y1 z1 : Nat), (ekB d).enc y = [.slice x0 y0 z0, .slice x1 y1 z1] ∧ e = .returned (.agg #[.slice x0 y0 z0, .slice x1 y1 z1]) ∧ LB.pl d y = x ∧ OwnB B0 d w' y ∧ (∀ k ∈ LB.fp d y, w.heap.size ≤ k) ∧ (LB.fp d y).Nodup ∧ Below w.heap.size w w'
/-- .. ownValue, of values whose subs are. -/
def OwnVTold (d : Nat) : Prop := ∀ (w : World) (B0 : Nat) (v : VI (BI d)) (a1 : Option Addr) (n1 c1 : Nat) (a2 : Option Addr) (n2 c2 : Nat) (a3 : Option Addr) (n3 c3 : Nat), B0 ≤ w.heap.size → RdL 1 UAt w (.slice a1 n1 c1) v.bits → RdL 1 ZAt w (.slice a2 n2 c2) v.bytes → RdL 2 (BAt d) w (.slice a3 n3 c3) v.subs → VOk (BOk d) v →
  Calls Tryz.prog 30 #[.agg #[.int .i64 v.number, .slice a1 n1 c1, .slice a2 n2 c2, .slice a3 n3 c3]] w fun e w' => ∃ (y : VL (LB d)) (q0 : Int) (x1 : Option Addr) (y1 z1 : Nat) (x2 : Option Addr) (y2 z2 : Nat) (x3 : Option Addr) (y3 z3 : Nat), (ekV (LB d)).enc y = [.int .i64 q0, .slice x1 y1 z1, .slice x2 y2 z2, .slice x3 y3 z3] ∧ e = .returned (.agg #[.int .i64 q0, .slice x1 y1 z1, .slice x2 y2 z2, .slice x3 y3 z3]) ∧ VL.pl (LB.pl d) y = v ∧ OwnV (ekB d) (OwnB B0 d) w' B0 y ∧ (∀ k ∈ VL.fp (LB.fp d) y, w.heap.size ≤ k) ∧ (VL.fp (LB.fp d) y).Nodup ∧ Below w.heap.size w w'

theorem frB_set {w : World} {g i : Nat} {cs : Array Value} {t : TypeId} {fr : Nat × Nat} {x : Value} (h : w.heap[g]? = some (.cells cs t fr)) (ht : t ≠ 5) : FrB [g] w (w.setCell ⟨g, i, none⟩ x) := by
  refine ⟨rfl, rfl, rfl, by simp, fun k _ hc => Below.heap_setCell w ⟨g, i, none⟩ x k (show k ≠ g from fun e => ?_)⟩
  rcases hc with hc | ⟨cs', fr', hc⟩
  · exact hc (by simp [e])
  · rw [e, h] at hc
    simp only [Option.some.injEq, Obj.cells.injEq] at hc
    exact ht hc.2.1
/-- An append onto nothing only adds. -/
theorem grown_below {V V' : World} (h : V.grownBy V' (Value.slice none 0 0).ownBlock) : Below V.heap.size V V' := ⟨h.os, h.tape, h.output, h.size, fun k hk => h.block k hk (by simp [Value.ownBlock])⟩

theorem frB_trans1 {g : Nat} {a b c : World} (h : FrB [g] a b) (k : FrB [g] b c) : FrB [g] a c := h.trans k (fun _ hi => hi) (fun _ hi => .inl hi)
theorem fr4 {w : World} {g : Nat} {cs : Array Value} {x0 x1 x2 x3 : Value} (h : w.heap[g]? = some (.cells cs 34 (0, 0))) : FrB [g] w ((((w.setCell ⟨g, 0, none⟩ x0).setCell ⟨g, 1, none⟩ x1).setCell ⟨g, 2, none⟩ x2).setCell ⟨g, 3, none⟩ x3) := by
  have h1 := heap_setCell_same _ _ 0 _ _ x0 h
  have h2 := heap_setCell_same _ _ 1 _ _ x1 h1
  have h3 := heap_setCell_same _ _ 2 _ _ x2 h2
  exact frB_trans1 (frB_trans1 (frB_trans1 (frB_set h (by decide)) (frB_set h1 (by decide))) (frB_set h2 (by decide))) (frB_set h3 (by decide))
theorem OwnV.mono {β : Type} {E : EK β} {O O' : World → β → Prop} {w : World} {base base' : Nat} {v : VL β} (h : OwnV E O w base v) (hb : base' ≤ base) (hO : ∀ s, O w s → O' w s) : OwnV E O' w base' v := ⟨h.r1.mono hb, h.r2.mono hb, fun z hz => (h.r2y z hz).mono hb, h.r3.mono hb, fun s hs => hO s (h.r3s s hs)⟩
theorem OwnB.mono : ∀ (d : Nat) {w : World} {base base' : Nat} {b : LB d}, OwnB base d w b → base' ≤ base → OwnB base' d w b
  | 0, _, _, _, _, h, _ => h
  | d + 1, _, _, _, _, h, hb => ⟨h.r0.mono hb, fun v hv => (h.r0v v hv).mono hb fun _ hs => OwnB.mono d hs hb, h.r1.mono hb, fun r hr => (h.r1y r hr).mono hb⟩
/-- Three lists, each made in its own stretch of memory. -/
theorem nodup3 {a b c : List Nat} {la ha lb hb lc hc : Nat} (na : a.Nodup) (nb : b.Nodup) (nc : c.Nodup) (ia : ∀ k ∈ a, la ≤ k ∧ k < ha) (ib : ∀ k ∈ b, lb ≤ k ∧ k < hb) (ic : ∀ k ∈ c, lc ≤ k ∧ k < hc) (dab : ha ≤ lb ∨ hb ≤ la) (dac : ha ≤ lc ∨ hc ≤ la) (dbc : hb ≤ lc ∨ hc ≤ lb) : (a ++ b ++ c).Nodup := by
  refine List.nodup_append.2 ⟨List.nodup_append.2 ⟨na, nb, fun x hx y hy e => ?_⟩, nc, fun x hx y hy e => ?_⟩
  · subst e
    have := ia x hx; have := ib x hy
    omega
  · subst e
    have := ic x hy
    rcases List.mem_append.1 hx with hx | hx
    · have := ia x hx; omega
    · have := ib x hx; omega
theorem own1_nd (p : PV) : (own1 p).Nodup := by
  unfold own1
  cases p.v.ownBlock <;> simp
set_option maxHeartbeats 4000000 in
set_option maxRecDepth 100000 in
theorem ownV_step {d : Nat} (ih : OwnTold d) : OwnVTold d := by
  intro w B0 v a1 n1 c1 a2 n2 c2 a3 n3 c3 hB r1 r2 r3 hok
  obtain ⟨_, hu, hl1, hz, hl2, hQ, hl3⟩ := hok
  obtain ⟨W2, HW2⟩ : ∃ W2, Hid (W2 = (w.alloc (.cells #[.int .i64 v.number, .slice a1 n1 c1, .slice a2 n2 c2, .slice a3 n3 c3] 34)).alloc (.cells #[.int .i64 0, .slice none 0 0, .slice none 0 0, .slice none 0 0] 34)) := ⟨_, rfl⟩
  have hb2 : Below w.heap.size w W2 := by rw [HW2.out]; exact ((Below.refl _ _).alloc (Nat.le_refl _) _).alloc (by simp) _
  have z2 : w.heap.size + 2 ≤ W2.heap.size := by rw [HW2.out]; simp
  have x1 : W2.heap[w.heap.size]? = some (.cells #[.int .i64 v.number, .slice a1 n1 c1, .slice a2 n2 c2, .slice a3 n3 c3] 34 (0, 0)) := by rw [HW2.out]; exact alloc2_old _ _ _
  have x2 : W2.heap[w.heap.size + 1]? = some (.cells #[.int .i64 0, .slice none 0 0, .slice none 0 0, .slice none 0 0] 34 (0, 0)) := by rw [HW2.out]; exact alloc2_new _ _ _
  have hcz : ∀ V, Below W2.heap.size W2 V → Calls Tryz.prog 63 #[.slice a2 n2 c2, .func (.func 64) #[] #[]] V fun e w' => ∃ (a : Option Addr) (n c : Nat) (l' : List (List UInt8 × PV)), e = .returned (.slice a n c) ∧ Cop ekZ Prod.fst (fun w (z : List UInt8 × PV) => Row ekY w W2.heap.size z.2.v z.1) (fun _ => []) V W2.heap.size v.bytes w' (a, n, c) l' := fun V hV => (copZ_any hV.size (r2.below ZAt.stays (BTr hb2 hV)) hl2 hz).mono fun _ _ ⟨⟨a, n, c⟩, l', h1, h2⟩ => ⟨a, n, c, l', h1, h2⟩
  have hcb : ∀ V, Below W2.heap.size W2 V → Calls Tryz.prog 65 #[.slice a3 n3 c3, .func (.func 11) #[] #[]] V fun e w' => ∃ (a : Option Addr) (n c : Nat) (l' : List (LB d)), e = .returned (.slice a n c) ∧ Cop (ekB d) (LB.pl d) (OwnB W2.heap.size d) (LB.fp d) V W2.heap.size v.subs w' (a, n, c) l' := fun V hV => (copB_any hV.size (r3.below (BAt.stays d) (BTr hb2 hV)) hl3 (enters_of Tryz.func11 (by kernel_rfl) rfl) fun W hW a ha a0 n0 c0 a1 n1 c1 hq => ih W W2.heap.size a0 n0 c0 a1 n1 c1 a (Nat.le_trans hV.size hW.size) hq (hQ a ha)).mono fun _ _ ⟨⟨a, n, c⟩, l', h1, h2⟩ => ⟨a, n, c, l', h1, h2⟩
  have hcl : ∀ V, Below W2.heap.size W2 V → (V.cell? ⟨w.heap.size, 0, none⟩ = some (.int .i64 v.number) ∧ V.cell? ⟨w.heap.size, 1, none⟩ = some (.slice a1 n1 c1) ∧ V.cell? ⟨w.heap.size, 2, none⟩ = some (.slice a2 n2 c2) ∧ V.cell? ⟨w.heap.size, 3, none⟩ = some (.slice a3 n3 c3)) ∧ V.cell? ⟨w.heap.size + 1, 0, none⟩ = some (.int .i64 0) ∧ V.cell? ⟨w.heap.size + 1, 1, none⟩ = some (.slice none 0 0) ∧ V.cell? ⟨w.heap.size + 1, 2, none⟩ = some (.slice none 0 0) ∧ V.cell? ⟨w.heap.size + 1, 3, none⟩ = some (.slice none 0 0) ∧ V.frozen? ⟨w.heap.size + 1, 0, none⟩ = false ∧ V.frozen? ⟨w.heap.size + 1, 1, none⟩ = false ∧ V.frozen? ⟨w.heap.size + 1, 2, none⟩ = false ∧ V.frozen? ⟨w.heap.size + 1, 3, none⟩ = false := fun V hV => by
    have y1 := (hV.block _ (by omega)).trans x1
    have y2 := (hV.block _ (by omega)).trans x2
    exact ⟨⟨cell_of_blk y1 0 _ rfl, cell_of_blk y1 1 _ rfl, cell_of_blk y1 2 _ rfl, cell_of_blk y1 3 _ rfl⟩, cell_of_blk y2 0 _ rfl, cell_of_blk y2 1 _ rfl, cell_of_blk y2 2 _ rfl, cell_of_blk y2 3 _ rfl, fr_of_blk y2 0, fr_of_blk y2 1, fr_of_blk y2 2, fr_of_blk y2 3⟩
  have hsU : ∀ V, Below W2.heap.size W2 V → Src ekU V a1 n1 c1 v.bits := fun V hV => (r1.below UAt.stays (BTr hb2 hV)).srcU
  have hby : (([] : List Nat).length + v.bits.length) * ekU.bytes ≤ 140737488355328 := by
    unfold reachBytes at hl1
    show (0 + v.bits.length) * 8 ≤ _
    omega
  have hD : Below W2.heap.size W2 W2.drew := (Below.refl _ _).drew
  obtain ⟨⟨d0, d1, d2, d3⟩, e0, e1, e2, e3, e4, e5, e6, e7⟩ := hcl _ hD
  have ne1 : ¬ w.heap.size = w.heap.size + 1 := by omega
  have ne2 : ¬ w.heap.size + 1 = w.heap.size := by omega
  have hS : ∀ V, Below W2.heap.size W2 V → Below w.heap.size w V ∧ V.cell? ⟨w.heap.size, 0, none⟩ = some (.int .i64 v.number) ∧ V.cell? ⟨w.heap.size, 1, none⟩ = some (.slice a1 n1 c1) ∧ V.cell? ⟨w.heap.size, 2, none⟩ = some (.slice a2 n2 c2) ∧ V.cell? ⟨w.heap.size, 3, none⟩ = some (.slice a3 n3 c3) := fun V hV => ⟨BTr hb2 hV, (hcl V hV).1⟩
  have far : ∀ (V : World) (i j : Nat) (x : Value), (V.setCell ⟨w.heap.size + 1, i, none⟩ x).cell? ⟨w.heap.size, j, none⟩ = V.cell? ⟨w.heap.size, j, none⟩ := fun V i j x => World.cell?_setCell_far V _ _ _ (by simp)
  have hS4 : ∀ V, Below W2.heap.size W2 V → ∀ x0 x1 x2 x3 : Value, Below w.heap.size w ((((V.setCell ⟨w.heap.size + 1, 0, none⟩ x0).setCell ⟨w.heap.size + 1, 1, none⟩ x1).setCell ⟨w.heap.size + 1, 2, none⟩ x2).setCell ⟨w.heap.size + 1, 3, none⟩ x3) ∧ ((((V.setCell ⟨w.heap.size + 1, 0, none⟩ x0).setCell ⟨w.heap.size + 1, 1, none⟩ x1).setCell ⟨w.heap.size + 1, 2, none⟩ x2).setCell ⟨w.heap.size + 1, 3, none⟩ x3).cell? ⟨w.heap.size, 0, none⟩ = some (.int .i64 v.number) ∧ ((((V.setCell ⟨w.heap.size + 1, 0, none⟩ x0).setCell ⟨w.heap.size + 1, 1, none⟩ x1).setCell ⟨w.heap.size + 1, 2, none⟩ x2).setCell ⟨w.heap.size + 1, 3, none⟩ x3).cell? ⟨w.heap.size, 1, none⟩ = some (.slice a1 n1 c1) ∧ ((((V.setCell ⟨w.heap.size + 1, 0, none⟩ x0).setCell ⟨w.heap.size + 1, 1, none⟩ x1).setCell ⟨w.heap.size + 1, 2, none⟩ x2).setCell ⟨w.heap.size + 1, 3, none⟩ x3).cell? ⟨w.heap.size, 2, none⟩ = some (.slice a2 n2 c2) ∧ ((((V.setCell ⟨w.heap.size + 1, 0, none⟩ x0).setCell ⟨w.heap.size + 1, 1, none⟩ x1).setCell ⟨w.heap.size + 1, 2, none⟩ x2).setCell ⟨w.heap.size + 1, 3, none⟩ x3).cell? ⟨w.heap.size, 3, none⟩ = some (.slice a3 n3 c3) := fun V hV x0 x1 x2 x3 => by
    simp only [far]
    exact ⟨b4set (b4set (b4set (b4set (BTr hb2 hV) (by omega)) (by omega)) (by omega)) (by omega), (hcl V hV).1⟩
  clear ih r1 r2 r3 hl1 hl2 hl3 hz hQ hu x1 far
  go_enter Tryz.func30, Tryz.ntmps30
  go_wp2_with fail
  rw [← HW2.out]
  go_region_held3 (fun V => Below w.heap.size w V ∧ V.cell? ⟨w.heap.size, 0, none⟩ = some (.int .i64 v.number) ∧ V.cell? ⟨w.heap.size, 1, none⟩ = some (.slice a1 n1 c1) ∧ V.cell? ⟨w.heap.size, 2, none⟩ = some (.slice a2 n2 c2) ∧ V.cell? ⟨w.heap.size, 3, none⟩ = some (.slice a3 n3 c3)) ((first | (with_reducible refine hS _ ?_; with_reducible (first | exact hD | exact hA | exact hZ | exact hY)) | (with_reducible refine hS4 _ ?_ _ _ _ _; with_reducible (first | exact hA | exact hY)))) ((first | (refine step_appB (by rfl) ekU _ _ (by rfl) W2.heap.size (.slice none 0 0) [] v.bits (by rfl) (Row.nil _ _ _) a1 n1 c1 (by rfl) (hsU _ hD).1 (hsU _ hD).2.1 (hsU _ (by with_reducible (first | exact hD | exact hZ | exact hY))).2.2 (by decide) hby (by with_reducible (first | exact hD.size | exact hZ.size | exact hY.size)) ?_; intro vA wA hrA hgA hkA; obtain ⟨aA, nA, cA, rfl, HnA⟩ := hrA.shape'; have hA : Below W2.heap.size W2 wA := BTr (by with_reducible (first | exact hD | exact hZ | exact hY)) (grown_below hgA); obtain ⟨⟨tA0, tA1, tA2, tA3⟩, sA0, sA1, sA2, sA3, sA4, sA5, sA6, sA7⟩ := hcl _ hA) | (go_at_call 63; refine (hcz _ (by with_reducible (first | exact hD | exact hA))).mono ?_; rintro e wZ ⟨aZ, nZ, cZ, lZ, rfl, hcZ⟩; have hZ : Below W2.heap.size W2 wZ := BTr (by with_reducible (first | exact hD | exact hA)) hcZ.below; obtain ⟨⟨tZ0, tZ1, tZ2, tZ3⟩, sZ0, sZ1, sZ2, sZ3, sZ4, sZ5, sZ6, sZ7⟩ := hcl _ hZ) | (go_at_call 65; refine (hcb _ (by with_reducible (first | exact hZ | exact hA))).mono ?_; rintro e wY ⟨aY, nY, cY, lY, rfl, hcY⟩; have hY : Below W2.heap.size W2 wY := BTr (by with_reducible (first | exact hZ | exact hA)) hcY.below; obtain ⟨⟨tY0, tY1, tY2, tY3⟩, sY0, sY1, sY2, sY3, sY4, sY5, sY6, sY7⟩ := hcl _ hY)))
  have hzA : W2.heap.size ≤ wA.heap.size := hA.size
  have hzZ : wA.heap.size ≤ wZ.heap.size := hcZ.below.size
  have hzY : wZ.heap.size ≤ wY.heap.size := hcY.below.size
  have iA : ∀ k ∈ own1 ((aA, nA, cA) : PV), W2.heap.size ≤ k ∧ k < wA.heap.size := fun k hk => by
    have hk' : (Value.slice aA nA cA).ownBlock = some k := mem_own1.1 hk
    exact ⟨(hrA.own k hk').1, (hrA.own k hk').2⟩
  have iZ : ∀ k ∈ own1 ((aZ, nZ, cZ) : PV), wA.heap.size ≤ k ∧ k < wZ.heap.size := fun k hk => ⟨hcZ.ge k (List.mem_append_left _ hk), (hcZ.row.own1 k hk).2⟩
  have iY : ∀ k ∈ own1 ((aY, nY, cY) : PV) ++ lY.flatMap (LB.fp d), wZ.heap.size ≤ k ∧ k < wY.heap.size := fun k hk => ⟨hcY.ge k hk, by
    rcases List.mem_append.1 hk with hk | hk
    · exact (hcY.row.own1 k hk).2
    · obtain ⟨s, hs, hk⟩ := List.mem_flatMap.1 hk
      exact (OwnB.inB d (hcY.own s hs) k hk).2⟩
  have hx2 : wY.heap[w.heap.size + 1]? = some (.cells #[.int .i64 0, .slice none 0 0, .slice none 0 0, .slice none 0 0] 34 (0, 0)) := (hY.block _ (by omega)).trans x2
  have hf := fr4 hx2 (x0 := .int .i64 v.number) (x1 := .slice aA nA cA) (x2 := .slice aZ nZ cZ) (x3 := .slice aY nY cY)
  have rA : Row ekU wY W2.heap.size (PV.v (aA, nA, cA)) v.bits := by
    have := (hrA.below hcZ.below).below hcY.below
    rw [List.nil_append] at this
    exact this
  have hys : ∀ s ∈ lY, OwnB W2.heap.size d wY s := fun s hs => hcY.own s hs
  go_wp2_with fail
  refine bodyPost_ret (v := .agg #[.int .i64 v.number, .slice aA nA cA, .slice aZ nZ cZ, .slice aY nY cY]) (by simp [results, Tryz.results30, go_sem, *]) rfl ?_
  refine ⟨⟨v.number, v.bits, lZ, lY, (aA, nA, cA), (aZ, nZ, cZ), (aY, nY, cY)⟩, v.number, aA, nA, cA, aZ, nZ, cZ, aY, nY, cY, rfl, rfl, ?_, ?_, ?_, ?_, ?_⟩
  · simp only [VL.pl, hcZ.map, hcY.map]
  · refine ⟨?_, ?_, fun z hz => ?_, ?_, fun s hs => ?_⟩
    · exact ((((rA.set4 (by omega)).set4 (by omega)).set4 (by omega)).set4 (by omega)).mono (by omega)
    · exact (((((hcZ.row.below hcY.below).set4 (by omega)).set4 (by omega)).set4 (by omega)).set4 (by omega)).mono (by omega)
    · have hz' : Row ekY wZ W2.heap.size z.2.v z.1 := hcZ.own z hz
      exact (((((hz'.below hcY.below).set4 (by omega)).set4 (by omega)).set4 (by omega)).set4 (by omega)).mono (by omega)
    · exact ((((hcY.row.set4 (by omega)).set4 (by omega)).set4 (by omega)).set4 (by omega)).mono (by omega)
    · refine OwnB.mono d (OwnB.fr d [w.heap.size + 1] wY _ s (hys s hs) hf fun k hk hm => ?_) (by omega)
      rw [List.mem_singleton] at hm
      have := iY k (List.mem_append_right _ (List.mem_flatMap.2 ⟨s, hs, hk⟩))
      omega
  · intro k hk
    simp only [VL.fp] at hk
    rw [List.append_assoc] at hk
    rcases List.mem_append.1 hk with hk | hk
    · rcases List.mem_append.1 hk with hk | hk
      · have := iA k hk; omega
      · have := iZ k hk; omega
    · have := iY k hk; omega
  · simp only [VL.fp]
    rw [List.append_assoc]
    exact nodup3 (own1_nd _) (own1_nd _) hcY.nd iA iZ iY (.inl (Nat.le_refl _)) (.inl hzZ) (.inl (Nat.le_refl _))
  · exact b4set (b4set (b4set (b4set (BTr hb2 hY) (by omega)) (by omega)) (by omega)) (by omega)

end L
end Go.Proofs.YtelmjekjohbmjaaGreatDoor

/- Own: a body's own copy. -/
namespace Go.Proofs.YtelmjekjohbmjaaGreatDoor
namespace L
open Go.RowKit

theorem nodup2 {a b : List Nat} {la ha lb hb : Nat} (na : a.Nodup) (nb : b.Nodup) (ia : ∀ k ∈ a, la ≤ k ∧ k < ha) (ib : ∀ k ∈ b, lb ≤ k ∧ k < hb) (dab : ha ≤ lb ∨ hb ≤ la) : (a ++ b).Nodup := by
  refine List.nodup_append.2 ⟨na, nb, fun x hx y hy e => ?_⟩
  subst e
  have := ia x hx; have := ib x hy
  omega
theorem fr2 {w : World} {g : Nat} {cs : Array Value} {x0 x1 : Value} (h : w.heap[g]? = some (.cells cs 29 (0, 0))) : FrB [g] w ((w.setCell ⟨g, 0, none⟩ x0).setCell ⟨g, 1, none⟩ x1) :=
  frB_trans1 (frB_set h (by decide)) (frB_set (heap_setCell_same _ _ 0 _ _ x0 h) (by decide))
set_option maxHeartbeats 4000000 in
set_option maxRecDepth 100000 in
theorem own_step {d : Nat} (ih : OwnVTold d) : OwnTold (d + 1) := by
  intro w B0 a0 n0 c0 a1 n1 c1 x hB hq hok
  have hq : BRd d w (.slice a0 n0 c0) (.slice a1 n1 c1) x := hq
  obtain ⟨hv, hl0, hr, hl1⟩ : (∀ v ∈ BO.vals x, VOk (BOk d) v) ∧ (BO.vals x).length * 80 ≤ reachBytes ∧ (∀ r ∈ BO.unk x, RecOk r) ∧ (BO.unk x).length * 48 ≤ reachBytes := hok
  obtain ⟨W2, HW2⟩ : ∃ W2, Hid (W2 = (w.alloc (.cells #[.slice a0 n0 c0, .slice a1 n1 c1] 29)).alloc (.cells #[.slice none 0 0, .slice none 0 0] 29)) := ⟨_, rfl⟩
  have hb2 : Below w.heap.size w W2 := by rw [HW2.out]; exact ((Below.refl _ _).alloc (Nat.le_refl _) _).alloc (by simp) _
  have z2 : w.heap.size + 2 ≤ W2.heap.size := by rw [HW2.out]; simp
  have x1 : W2.heap[w.heap.size]? = some (.cells #[.slice a0 n0 c0, .slice a1 n1 c1] 29 (0, 0)) := by rw [HW2.out]; exact alloc2_old _ _ _
  have x2 : W2.heap[w.heap.size + 1]? = some (.cells #[.slice none 0 0, .slice none 0 0] 29 (0, 0)) := by rw [HW2.out]; exact alloc2_new _ _ _
  have hcv : ∀ V, Below W2.heap.size W2 V → Calls Tryz.prog 29 #[.slice a0 n0 c0, .func (.func 30) #[] #[]] V fun e w' => ∃ (a : Option Addr) (n c : Nat) (l' : List (VL (LB d))), e = .returned (.slice a n c) ∧ Cop (ekV (LB d)) (VL.pl (LB.pl d)) (fun w (v : VL (LB d)) => OwnV (ekB d) (OwnB W2.heap.size d) w W2.heap.size v) (VL.fp (LB.fp d)) V W2.heap.size (BO.vals x) w' (a, n, c) l' := fun V hV =>
    (copV_any hV.size (hq.1.below (VAt.stays (BAt.stays d)) (BTr hb2 hV)) hl0 (enters_of Tryz.func30 (by kernel_rfl) rfl) (fun U hU a ha a1 n1 c1 a2 n2 c2 a3 n3 c3 r1 r2 r3 => ih U W2.heap.size a a1 n1 c1 a2 n2 c2 a3 n3 c3 (Nat.le_trans hV.size hU.size) r1 r2 r3 (hv a ha))).mono fun e w' ⟨⟨a, n, c⟩, l', he, hc⟩ => ⟨a, n, c, l', he, hc⟩
  have hcr : ∀ V, Below W2.heap.size W2 V → Calls Tryz.prog 31 #[.slice a1 n1 c1, .func (.func 32) #[] #[]] V fun e w' => ∃ (a : Option Addr) (n c : Nat) (l' : List (RI × PV)), e = .returned (.slice a n c) ∧ Cop ekR Prod.fst (fun w (r : RI × PV) => Row ekY w W2.heap.size r.2.v r.1.bytes) (fun (_ : RI × PV) => ([] : List Nat)) V W2.heap.size (BO.unk x) w' (a, n, c) l' := fun V hV =>
    (copR_any hV.size (hq.2.below RAt.stays (BTr hb2 hV)) hl1 (enters_of Tryz.func32 (by kernel_rfl) rfl) (fun U hU a ha ay ny cy hy => (ownRec_any (B0 := W2.heap.size) (Nat.le_trans hV.size hU.size) a hy (by have := (hr a ha).2.2.2; unfold reachBytes at this; omega)).mono fun e w' ⟨ax, nx, cx, he, hrw, hbl⟩ => ⟨(a, (ax, nx, cx)), a.number, a.how, (a.bits : Int), ax, nx, cx, rfl, he, rfl, hrw, fun k hk => by simp at hk, by simp, hbl⟩)).mono fun e w' ⟨⟨a, n, c⟩, l', he, hc⟩ => ⟨a, n, c, l', he, hc⟩
  have hcl : ∀ V, Below W2.heap.size W2 V → Below w.heap.size w V ∧ V.cell? ⟨w.heap.size, 0, none⟩ = some (.slice a0 n0 c0) ∧ V.cell? ⟨w.heap.size, 1, none⟩ = some (.slice a1 n1 c1) := fun V hV => ⟨BTr hb2 hV, blk2 ((hV.block _ (by omega)).trans x1)⟩
  have hcl2 : ∀ V, Below W2.heap.size W2 V → V.heap[w.heap.size + 1]? = some (.cells #[.slice none 0 0, .slice none 0 0] 29 (0, 0)) := fun V hV => (hV.block _ (by omega)).trans x2
  have hD : Below W2.heap.size W2 W2.drew := (Below.refl _ _).drew
  have far : ∀ (V : World) (i j : Nat) (x : Value), (V.setCell ⟨w.heap.size + 1, i, none⟩ x).cell? ⟨w.heap.size, j, none⟩ = V.cell? ⟨w.heap.size, j, none⟩ := fun V i j x => World.cell?_setCell_far V _ _ _ (by simp)
  have hS2 : ∀ V, Below W2.heap.size W2 V → ∀ y0 y1 : Value, Below w.heap.size w ((V.setCell ⟨w.heap.size + 1, 0, none⟩ y0).setCell ⟨w.heap.size + 1, 1, none⟩ y1) ∧ ((V.setCell ⟨w.heap.size + 1, 0, none⟩ y0).setCell ⟨w.heap.size + 1, 1, none⟩ y1).cell? ⟨w.heap.size, 0, none⟩ = some (.slice a0 n0 c0) ∧ ((V.setCell ⟨w.heap.size + 1, 0, none⟩ y0).setCell ⟨w.heap.size + 1, 1, none⟩ y1).cell? ⟨w.heap.size, 1, none⟩ = some (.slice a1 n1 c1) := fun V hV y0 y1 => by
    simp only [far]
    exact ⟨b4set (b4set (BTr hb2 hV) (by omega)) (by omega), (hcl V hV).2⟩
  have ne1 : ¬ w.heap.size = w.heap.size + 1 := by omega
  have ne2 : ¬ w.heap.size + 1 = w.heap.size := by omega
  clear ih hv hr hl0 hl1 hq x1 far
  go_enter Tryz.func11, Tryz.ntmps11
  go_wp2_with fail
  rw [← HW2.out]
  go_region_held3 (fun V => Below w.heap.size w V ∧ V.cell? ⟨w.heap.size, 0, none⟩ = some (.slice a0 n0 c0) ∧ V.cell? ⟨w.heap.size, 1, none⟩ = some (.slice a1 n1 c1)) ((first | (with_reducible refine hcl _ ?_; with_reducible (first | exact hD | exact hZ | exact hY)) | (with_reducible refine hS2 _ ?_ _ _; with_reducible exact hY))) ((first | (go_at_call 29; refine (hcv _ (by with_reducible exact hD)).mono ?_; rintro e wZ ⟨aZ, nZ, cZ, lZ, rfl, hcZ⟩; have hZ : Below W2.heap.size W2 wZ := BTr hD hcZ.below) | (go_at_call 31; refine (hcr _ (by with_reducible exact hZ)).mono ?_; rintro e wY ⟨aY, nY, cY, lY, rfl, hcY⟩; have hY : Below W2.heap.size W2 wY := BTr hZ hcY.below; have hx2 := hcl2 _ hY; obtain ⟨sY0, sY1⟩ := blk2 hx2; have sY2 := fr_of_blk hx2 0; have sY3 := fr_of_blk hx2 1)))
  have hzZ : W2.heap.size ≤ wZ.heap.size := hZ.size
  have hzY : wZ.heap.size ≤ wY.heap.size := hcY.below.size
  have iZ : ∀ k ∈ own1 ((aZ, nZ, cZ) : PV) ++ lZ.flatMap (VL.fp (LB.fp d)), W2.heap.size ≤ k ∧ k < wZ.heap.size := fun k hk => ⟨hcZ.ge k hk, by
    rcases List.mem_append.1 hk with hk | hk
    · exact (hcZ.row.own1 k hk).2
    · obtain ⟨s, hs, hk⟩ := List.mem_flatMap.1 hk
      exact (entV W2.heap.size d).inB wZ s (hcZ.own s hs) k hk⟩
  have iY : ∀ k ∈ own1 ((aY, nY, cY) : PV), wZ.heap.size ≤ k ∧ k < wY.heap.size := fun k hk => ⟨hcY.ge k (List.mem_append_left _ hk), (hcY.row.own1 k hk).2⟩
  have hf := fr2 hx2 (x0 := .slice aZ nZ cZ) (x1 := .slice aY nY cY)
  go_wp2_with fail
  refine bodyPost_ret (v := .agg #[.slice aZ nZ cZ, .slice aY nY cY]) (by simp [results, Tryz.results11, go_sem, *]) rfl ?_
  refine ⟨(⟨lZ, lY, (aZ, nZ, cZ), (aY, nY, cY)⟩ : BL (LB d)), aZ, nZ, cZ, aY, nY, cY, rfl, rfl, ?_, ?_, ?_, ?_, ?_⟩
  · show (⟨lZ.map (VL.pl (LB.pl d)), lY.map Prod.fst⟩ : BO (BI d)) = x
    rw [hcZ.map, hcY.map]
    rfl
  · refine ⟨?_, fun v hv => ?_, ?_, fun r hr => ?_⟩
    · exact (((hcZ.row.below hcY.below).set4 (by omega)).set4 (by omega)).mono (by omega)
    · have h1 := (entV W2.heap.size d).below (hcZ.own v hv) hcY.below
      have h2 := (entV W2.heap.size d).fr [w.heap.size + 1] wY _ v h1 hf fun k hk hm => by
        rw [List.mem_singleton] at hm
        have := iZ k (List.mem_append_right _ (List.mem_flatMap.2 ⟨v, hv, hk⟩))
        omega
      exact OwnV.mono h2 (by omega) fun s hs => OwnB.mono d hs (by omega)
    · exact ((hcY.row.set4 (by omega)).set4 (by omega)).mono (by omega)
    · have hr' : Row ekY wY W2.heap.size r.2.v r.1.bytes := hcY.own r hr
      exact ((hr'.set4 (by omega)).set4 (by omega)).mono (by omega)
  · intro k hk
    have hk : k ∈ own1 ((aZ, nZ, cZ) : PV) ++ own1 ((aY, nY, cY) : PV) ++ lZ.flatMap (VL.fp (LB.fp d)) := hk
    rcases List.mem_append.1 hk with hk | hk
    · rcases List.mem_append.1 hk with hk | hk
      · have := iZ k (List.mem_append_left _ hk); omega
      · have := iY k hk; omega
    · have := iZ k (List.mem_append_right _ hk); omega
  · show (own1 ((aZ, nZ, cZ) : PV) ++ own1 ((aY, nY, cY) : PV) ++ lZ.flatMap (VL.fp (LB.fp d))).Nodup
    have hp : (own1 ((aZ, nZ, cZ) : PV) ++ lZ.flatMap (VL.fp (LB.fp d)) ++ own1 ((aY, nY, cY) : PV)).Perm (own1 ((aZ, nZ, cZ) : PV) ++ own1 ((aY, nY, cY) : PV) ++ lZ.flatMap (VL.fp (LB.fp d))) := by
      rw [List.append_assoc, List.append_assoc]
      exact List.Perm.append_left _ List.perm_append_comm
    exact hp.nodup_iff.1 (nodup2 hcZ.nd (own1_nd _) iZ iY (.inl (Nat.le_refl _)))
  · exact b4set (b4set (BTr hb2 hY) (by omega)) (by omega)
theorem ownTold : ∀ d, OwnTold d
  | 0 => fun _ _ _ _ _ _ _ _ _ _ hq _ => hq.elim
  | d + 1 => own_step (ownV_step (ownTold d))
theorem ownVTold (d : Nat) : OwnVTold d := ownV_step (ownTold d)

end L
end Go.Proofs.YtelmjekjohbmjaaGreatDoor

/- ousted: which values go, as one of field x comes. -/
namespace Go.Proofs.YtelmjekjohbmjaaGreatDoor
namespace L
open Go.RowKit Go.WideMaps Go.Maps

def oustB (l : List FI) (x : FI) (n : Int) : Bool := if x.choice ≤ 0 then decide (n = x.number) else decide (choiceF l n = x.choice)
/-- A function value that answers p of a value's number, wherever the blocks K are as they were. -/
def PredK (fn : Nat) (cap : Array Value) (K : List Nat) (W : World) (p : Int → Bool) : Prop :=
  ∀ V, W.heap.size ≤ V.heap.size → (∀ k ∈ K, V.heap[k]? = W.heap[k]?) → ∀ n, I64 n → ∀ (a1 : Option Addr) (n1 c1 : Nat) (a2 : Option Addr) (n2 c2 : Nat) (a3 : Option Addr) (n3 c3 : Nat),
    Calls Tryz.prog fn (#[.agg #[.int .i64 n, .slice a1 n1 c1, .slice a2 n2 c2, .slice a3 n3 c3]] ++ cap) V fun e w' => e = .returned (.bool (p n)) ∧ Below V.heap.size V w'

set_option maxHeartbeats 1000000 in
set_option maxRecDepth 100000 in
theorem oust1_call {w : World} {c : Nat} {x : FI} (hc : w.heap[c]? = some (.cells #[.string (S x.name), .int .i64 x.number, .int .i64 x.kind, .string (S x.type), .bool x.many, .int .i64 x.choice] 53 (0, 0))) (n : Int) (a1 : Option Addr) (n1 c1 : Nat) (a2 : Option Addr) (n2 c2 : Nat) (a3 : Option Addr) (n3 c3 : Nat) :
    Calls Tryz.prog 110 #[.agg #[.int .i64 n, .slice a1 n1 c1, .slice a2 n2 c2, .slice a3 n3 c3], .pointer (some ⟨c, 0, none⟩)] w fun e w' => e = .returned (.bool (decide (n = x.number))) ∧ Below w.heap.size w w' := by
  have c1' : w.cell? ⟨c, 1, none⟩ = some (.int .i64 x.number) := cell_of_blk hc 1 _ rfl
  have hcl : c < w.heap.size := (Array.getElem?_eq_some_iff.1 hc).1
  have hba := (Below.refl w.heap.size w).alloc (Nat.le_refl _) (.cells #[.int .i64 n, .slice a1 n1 c1, .slice a2 n2 c2, .slice a3 n3 c3] 34)
  obtain ⟨q, Hq⟩ : ∃ q, Hid (q = decide (n = x.number)) := ⟨_, rfl⟩
  have hq : (n == x.number) = q := by rw [Hq.out, Bool.eq_iff_iff]; simp
  rw [← Hq.out]
  go_enter Tryz.func110, Tryz.ntmps110
  go_wp2
  go_ret
  exact ⟨rfl, hba⟩
set_option maxHeartbeats 1000000 in
set_option maxRecDepth 100000 in
theorem oust2_call {w : World} {c cm b N : Nat} {D : DataW Unit} {l : List FI} {x : FI} (hm : w.heap[cm]? = some (.cells #[.map (some b)] 150 (0, 0))) (ho : OwnM w b N D) (hch : ChD D l) (hc : w.heap[c]? = some (.cells #[.string (S x.name), .int .i64 x.number, .int .i64 x.kind, .string (S x.type), .bool x.many, .int .i64 x.choice] 53 (0, 0))) (n : Int) (hn : I64 n) (a1 : Option Addr) (n1 c1 : Nat) (a2 : Option Addr) (n2 c2 : Nat) (a3 : Option Addr) (n3 c3 : Nat) :
    Calls Tryz.prog 112 #[.agg #[.int .i64 n, .slice a1 n1 c1, .slice a2 n2 c2, .slice a3 n3 c3], .pointer (some ⟨cm, 0, none⟩), .pointer (some ⟨c, 0, none⟩)] w fun e w' => e = .returned (.bool (decide (choiceF l n = x.choice))) ∧ Below w.heap.size w w' := by
  have c5 : w.cell? ⟨c, 5, none⟩ = some (.int .i64 x.choice) := cell_of_blk hc 5 _ rfl
  have hcl : c < w.heap.size := (Array.getElem?_eq_some_iff.1 hc).1
  have m0 : w.cell? ⟨cm, 0, none⟩ = some (.map (some b)) := cell_of_blk hm 0 _ rfl
  have hml : cm < w.heap.size := (Array.getElem?_eq_some_iff.1 hm).1
  have hba := (Below.refl w.heap.size w).alloc (Nat.le_refl _) (.cells #[.int .i64 n, .slice a1 n1 c1, .slice a2 n2 c2, .slice a3 n3 c3] 34)
  have hkey : keyOf Tryz.prog 3 (.int .i64 n) = some (.int .i64 n) := keyOf_int_mk Tryz.underlying3 (WalkArith.wf_i64 hn)
  obtain ⟨z, hrun, hat, _⟩ := (ho.below hba).lookup_int keyedN Tryz.underlying150 Tryz.underlying3 (zeroN _) hkey
  have hz := hch.get hat
  obtain ⟨q, Hq⟩ : ∃ q, Hid (q = decide (choiceF l n = x.choice)) := ⟨_, rfl⟩
  have hq : (z == x.choice) = q := by rw [Hq.out, hz, Bool.eq_iff_iff]; simp
  rw [← Hq.out]
  clear hz hat hkey ho hch
  go_enter Tryz.func112, Tryz.ntmps112
  go_wp2
  go_ret
  exact ⟨rfl, hba⟩
set_option maxHeartbeats 2000000 in
set_option maxRecDepth 100000 in
theorem ousted_any {nm vf vb : Value} {l : List FI} {w : World} (h : RdL 6 FAt w vf l) (hvb : ∃ ao n cap, vb = .slice ao n cap) (hnm : ∃ s : List UInt8, nm = .string (S s)) (hok : ∀ f ∈ l, I64 f.number ∧ I64 f.choice) (hl : l.length ≤ 140737488355328) (x : FI) :
    Calls Tryz.prog 71 #[.agg #[nm, vf, vb], vFI x] w fun e w' => ∃ fn cap K, e = .returned (.func (.func fn) #[] cap) ∧ (∀ (args : Array Value) (w : World), (callFunc fn args).run Tryz.prog w = .ok (.enter fn args) w) ∧ (∀ k ∈ K, w.heap.size ≤ k ∧ k < w'.heap.size) ∧ PredK fn cap K w' (oustB l x) ∧ Below w.heap.size w w' := by
  obtain ⟨ao, n, cap, rfl, Hn, hcap⟩ := h.shape
  obtain ⟨ae, ne, ce, rfl⟩ := hvb
  obtain ⟨s, rfl⟩ := hnm
  have hmf := makeF
  obtain ⟨W2, HW2⟩ : ∃ W2, Hid (W2 = (w.alloc (.cells #[.string (S s), .slice ao n cap, .slice ae ne ce] 48)).alloc (.cells #[.string (S x.name), .int .i64 x.number, .int .i64 x.kind, .string (S x.type), .bool x.many, .int .i64 x.choice] 53)) := ⟨_, rfl⟩
  have hb2 : Below w.heap.size w W2 := by rw [HW2.out]; exact ((Below.refl _ _).alloc (Nat.le_refl _) _).alloc (by simp) _
  have z2 : w.heap.size + 2 ≤ W2.heap.size := by rw [HW2.out]; simp
  have x2 : W2.heap[w.heap.size + 1]? = some (.cells #[.string (S x.name), .int .i64 x.number, .int .i64 x.kind, .string (S x.type), .bool x.many, .int .i64 x.choice] 53 (0, 0)) := by rw [HW2.out]; exact alloc2_new _ _ _
  by_cases hx : x.choice ≤ 0
  · have HP : Hid (∀ n, oustB l x n = decide (n = x.number)) := fun n => by unfold oustB; rw [if_pos hx]
    unfold vFI
    clear hok hl h
    go_enter Tryz.func71, Tryz.ntmps71
    go_wp2
    go_ret
    rw [← HW2.out]
    refine ⟨_, _, [w.heap.size + 1], rfl, enters_of Tryz.func110 (by kernel_rfl) rfl, fun k hk => by rw [List.mem_singleton] at hk; omega, ?_, hb2⟩
    intro V hV hK n hn a1 n1 c1 a2 n2 c2 a3 n3 c3
    rw [HP.out n]
    exact oust1_call ((hK _ (by simp)).trans x2) n a1 n1 c1 a2 n2 c2 a3 n3 c3
  · have HP : Hid (∀ n, oustB l x n = decide (choiceF l n = x.choice)) := fun n => by unfold oustB; rw [if_neg hx]
    have hc := choicesOf_any (h.below FAt.stays hb2) ⟨ae, ne, ce, rfl⟩ ⟨s, rfl⟩ hok hl
    unfold vFI
    clear hok hl h
    go_enter Tryz.func71, Tryz.ntmps71
    go_wp2_with fail
    rw [← HW2.out]
    refine hc.mono ?_
    rintro e w1 ⟨b, D, rfl, hb, hown, hch, hbw⟩
    obtain ⟨W4, HW4⟩ : ∃ W4, Hid (W4 = w1.alloc (.cells #[.map (some b)] 150)) := ⟨_, rfl⟩
    have hb4 : Below w1.heap.size w1 W4 := by rw [HW4.out]; exact (Below.refl _ _).alloc (Nat.le_refl _) _
    have z4 : w1.heap.size + 1 ≤ W4.heap.size := by rw [HW4.out]; simp
    have x4 : W4.heap[w1.heap.size]? = some (.cells #[.map (some b)] 150 (0, 0)) := by rw [HW4.out]; exact heap_alloc_new _ _
    have y2 := ((BTr hbw hb4).block _ (by omega)).trans x2
    have hz1 := hbw.size
    have hbl := hown.lt
    have ho4 := hown.below hb4
    clear hc hown
    go_wp2
    go_ret
    rw [← HW4.out]
    refine ⟨_, _, [w1.heap.size, w.heap.size + 1, b], rfl, enters_of Tryz.func112 (by kernel_rfl) rfl, fun k hk => ?_, ?_, BTr hb2 (BTr hbw hb4)⟩
    · simp only [List.mem_cons, List.mem_nil_iff, or_false] at hk
      rcases hk with rfl | rfl | rfl <;> omega
    · intro V hV hK n hn a1 n1 c1 a2 n2 c2 a3 n3 c3
      rw [HP.out n]
      exact oust2_call ((hK _ (by simp)).trans x4) (ho4.block (hK _ (by simp))) hch ((hK _ (by simp)).trans y2) n hn a1 n1 c1 a2 n2 c2 a3 n3 c3

end L
end Go.Proofs.YtelmjekjohbmjaaGreatDoor

/- The contract of placeOf. -/
namespace Go.Proofs.YtelmjekjohbmjaaGreatDoor
namespace L
open Go.RowKit

set_option maxHeartbeats 1000000 in
set_option maxRecDepth 100000 in
theorem plc1_call {β : Type} {w : World} {c : Nat} {x : Int} (hc : w.heap[c]? = some (.cells #[.int .i64 x] 3 (0, 0))) (v : VI β) (a1 : Option Addr) (n1 c1 : Nat) (a2 : Option Addr) (n2 c2 : Nat) (a3 : Option Addr) (n3 c3 : Nat) :
    Calls Tryz.prog 115 #[.agg #[.int .i64 v.number, .slice a1 n1 c1, .slice a2 n2 c2, .slice a3 n3 c3], .pointer (some ⟨c, 0, none⟩)] w fun e w' => e = .returned (.bool (decide (x < v.number))) ∧ Below w.heap.size w w' := by
  have c0 : w.cell? ⟨c, 0, none⟩ = some (.int .i64 x) := cell_of_blk hc 0 _ rfl
  have hcl : c < w.heap.size := (Array.getElem?_eq_some_iff.1 hc).1
  have hba := (Below.refl w.heap.size w).alloc (Nat.le_refl _) (.cells #[.int .i64 v.number, .slice a1 n1 c1, .slice a2 n2 c2, .slice a3 n3 c3] 34)
  obtain ⟨q, Hq⟩ : ∃ q, Hid (q = decide (x < v.number)) := ⟨_, rfl⟩
  have hq : decide (x < v.number) = q := Hq.out.symm
  rw [← Hq.out]
  go_enter Tryz.func115, Tryz.ntmps115
  go_wp2
  go_ret
  exact ⟨rfl, hba⟩
set_option maxHeartbeats 1000000 in
set_option maxRecDepth 100000 in
theorem plcIdx_any {β : Type} {P : World → Addr → β → Prop} (hP : Stays P) {v : Value} {l : List (VI β)} {w : World} {c : Nat} {x : Int} (h : RdL 4 (VAt P) w v l) (hc : w.heap[c]? = some (.cells #[.int .i64 x] 3 (0, 0))) :
    Calls Tryz.prog 68 #[v, .func (.func 115) #[] #[.pointer (some ⟨c, 0, none⟩)]] w fun e w' => e = .returned (.int .i64 (firstI (fun v => decide (x < v.number)) l)) ∧ Below w.heap.size w w' := by
  obtain ⟨ao, n, cap, rfl, Hn, hcap⟩ := h.shape
  go_enter Tryz.func68, Tryz.ntmps68
  go_wp2_with fail
  go_loopg [8] n (fun m i wr => ∃ k : Nat, k + m = n ∧ i = .int .i64 k ∧ Hid (∀ a ∈ l.take k, decide (x < a.number) = false) ∧ Below w.heap.size w wr)
  case atStart => exact ⟨0, by omega, rfl, by show ∀ a ∈ _, _; simp, Below.refl _ _⟩
  case round =>
    obtain ⟨k, hk, rfl, HK, hb⟩ := hrel
    have hcr := (hb.block c (Array.getElem?_eq_some_iff.1 hc).1).trans hc
    by_cases hlt : k < n
    · obtain ⟨a, Ha⟩ : ∃ a, Hid (l[k]? = some a) := ⟨l[k]'(by rw [← Hn.out]; exact hlt), List.getElem?_eq_getElem (by rw [← Hn.out]; exact hlt)⟩
      obtain ⟨b, off, rfl, hat⟩ := (h.below (VAt.stays hP) hb).get VAt.plain Ha.out
      obtain ⟨v1, v2, v3, s0, s1, s2, s3, r1, r2, r3⟩ := hat.at
      obtain ⟨a1, n1, c1, rfl, _, _⟩ := r1.shape
      obtain ⟨a2, n2, c2, rfl, _, _⟩ := r2.shape
      obtain ⟨a3, n3, c3, rfl, _, _⟩ := r3.shape
      have hki : (k : Int) < (n : Int) := by omega
      have hcall := plc1_call hcr a a1 n1 c1 a2 n2 c2 a3 n3 c3
      cases hq : decide (x < a.number) with
      | true =>
        have HF : Hid (firstI (fun v => decide (x < v.number)) l = (k : Int)) := first_at Ha.out HK.out hq
        rw [hq] at hcall
        clear hq hat r1 r2 r3
        go_wp2_with fail
        refine hcall.mono ?_
        rintro e w1 ⟨rfl, hb1⟩
        go_wp2
        go_ret
        exact ⟨by rw [HF.out]; rfl, hb.trans (hb1.mono hb.size)⟩
      | false =>
        have HX : Hid (∀ a ∈ l.take (k + 1), decide (x < a.number) = false) := by
          show ∀ a ∈ _, _
          rw [take_snoc Ha.out]
          intro y hy
          rcases List.mem_append.1 hy with hy | hy
          · exact HK.out y hy
          · rw [List.mem_singleton] at hy; rw [hy]; exact hq
        rw [hq] at hcall
        clear hq hat r1 r2 r3
        go_wp2_with fail
        refine hcall.mono ?_
        rintro e w1 ⟨rfl, hb1⟩
        go_wp2_with fail
        go_roundg (n - (k + 1))
        case measure => omega
        case rel => exact ⟨k + 1, by omega, by go_num, HX, hb.trans (hb1.mono hb.size)⟩
    · have HF : Hid (firstI (fun v => decide (x < v.number)) l = -1) := by
        have := HK.out
        rw [List.take_of_length_le (by rw [← Hn.out]; omega)] at this
        exact first_none this
      go_wp2
      go_ret
      exact ⟨by rw [HF.out]; rfl, hb⟩

/-- Where a value of that number comes to stand. -/
def placeI {β : Type} (x : Int) (l : List (VI β)) : Nat := (l.findIdx? fun v => decide (x < v.number)).getD l.length
set_option maxHeartbeats 1000000 in
set_option maxRecDepth 100000 in
theorem placeOf_any {β : Type} {P : World → Addr → β → Prop} (hP : Stays P) {v0 : Value} {l : List (VI β)} {w : World} (h : RdL 4 (VAt P) w v0 l) (x : Int) :
    Calls Tryz.prog 74 #[.int .i64 x, v0] w fun e w' => e = .returned (.int .i64 ((placeI x l : Nat) : Int)) ∧ Below w.heap.size w w' := by
  obtain ⟨ao, n, cap, rfl, Hn, hcap⟩ := h.shape
  have hb2 : Below w.heap.size w (w.alloc (.cells #[.int .i64 x] 3)) := (Below.refl _ _).alloc (Nat.le_refl _) _
  have hi := plcIdx_any hP (h.below (VAt.stays hP) hb2) (heap_alloc_new w _)
  have hmf := makeF
  cases hp : l.findIdx? (fun v => decide (x < v.number)) with
  | some k =>
    have e1 : firstI (fun v : VI β => decide (x < v.number)) l = (k : Int) := by unfold firstI; rw [hp]
    have HP : Hid (placeI x l = k) := by show _ = _; unfold placeI; rw [hp]; rfl
    have hk : ¬ (k : Int) < 0 := by omega
    rw [e1] at hi
    clear hp e1
    go_enter Tryz.func74, Tryz.ntmps74
    go_wp2_with fail
    refine hi.mono ?_
    rintro e w1 ⟨rfl, hb1⟩
    go_wp2
    go_ret
    exact ⟨by rw [HP.out]; rfl, hb2.trans (hb1.mono hb2.size)⟩
  | none =>
    have e1 : firstI (fun v : VI β => decide (x < v.number)) l = -1 := by unfold firstI; rw [hp]
    have HP : Hid (placeI x l = n) := by show _ = _; unfold placeI; rw [hp, Hn.out]; rfl
    rw [e1] at hi
    clear hp e1
    go_enter Tryz.func74, Tryz.ntmps74
    go_wp2_with fail
    refine hi.mono ?_
    rintro e w1 ⟨rfl, hb1⟩
    go_wp2
    go_ret
    exact ⟨by rw [HP.out]; rfl, hb2.trans (hb1.mono hb2.size)⟩

end L
end Go.Proofs.YtelmjekjohbmjaaGreatDoor

