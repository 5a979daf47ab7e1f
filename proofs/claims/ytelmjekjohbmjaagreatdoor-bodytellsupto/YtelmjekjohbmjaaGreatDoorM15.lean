import Derived.Test.YtelmjekjohbmjaaGreatDoorBTextq
import Derived.Test.YtelmjekjohbmjaaGreatDoorLBrokenq
import Derived.Test.YtelmjekjohbmjaaGreatDoorM12
import Derived.Test.YtelmjekjohbmjaaGreatDoorBWithq
import Derived.Test.YtelmjekjohbmjaaGreatDoorM10
import Derived.Test.YtelmjekjohbmjaaGreatDoorM09
/- What is wrong first with a value's subs: the contract of checks' function on Subs, given one of what looks deeper. -/
namespace Go.Proofs.YtelmjekjohbmjaaGreatDoor
namespace L
open Go.RowKit

/-- What looks deeper tells f of each. -/
def Deeper (d fn : Nat) (cap : Array Value) (name : List UInt8) (f : BI d → Int) (l : List (BI d)) (w : World) : Prop :=
  ∀ W, Below w.heap.size w W → ∀ s ∈ l, ∀ v0 v1, BQ d W v0 v1 s → Calls Tryz.prog fn (#[.string (S name), .agg #[v0, v1]] ++ cap) W fun e W' => e = .returned (.int .i64 (f s)) ∧ Below W.heap.size W W'
theorem Deeper.below {d fn : Nat} {cap : Array Value} {name : List UInt8} {f : BI d → Int} {l : List (BI d)} {w w' : World} (h : Deeper d fn cap name f l w) (hb : Below w.heap.size w w') : Deeper d fn cap name f l w' :=
  fun W hW => h W (hb.trans (hW.mono hb.size))

set_option maxHeartbeats 1000000 in
set_option maxRecDepth 100000 in
theorem subs1_call {d : Nat} {w : World} {c cx : Nat} {cap0 : Array Value} {fn : Nat} {x : FI} {f : BI d → Int} {l : List (BI d)} (hc : w.heap[c]? = some (.cells #[.func (.func fn) #[] cap0] 96 (0, 0))) (hx : w.heap[cx]? = some (.cells (cFI x) 53 (0, 0))) (hent : ∀ (args : Array Value) (w : World), (callFunc fn args).run Tryz.prog w = .ok (.enter fn args) w) {s : BI d} (hs : s ∈ l) {a0 a1 : Option Addr} {n0 c0 n1 c1 : Nat} (hq : BQ d w (.slice a0 n0 c0) (.slice a1 n1 c1) s) (hdeep : Deeper d fn cap0 x.type f l w) :
    Calls Tryz.prog 103 #[.agg #[.slice a0 n0 c0, .slice a1 n1 c1], .pointer (some ⟨c, 0, none⟩), .pointer (some ⟨cx, 0, none⟩)] w fun e w' => e = .returned (.int .i64 (f s)) ∧ Below w.heap.size w w' := by
  have k0 : w.cell? ⟨c, 0, none⟩ = some (.func (.func fn) #[] cap0) := cell_of_blk hc 0 _ rfl
  have k3 : w.cell? ⟨cx, 3, none⟩ = some (.string (S x.type)) := cell_of_blk hx 3 _ rfl
  have hcl := (Array.getElem?_eq_some_iff.1 hc).1
  have hxl := (Array.getElem?_eq_some_iff.1 hx).1
  have hb1 : Below w.heap.size w (w.alloc (.cells #[.slice a0 n0 c0, .slice a1 n1 c1] 29)) := (Below.refl _ _).alloc (Nat.le_refl _) _
  have hd := hdeep _ hb1 s hs _ _ (hq.below hb1)
  clear hdeep hq
  go_enter Tryz.func103, Tryz.ntmps103
  go_wp2_with fail
  refine hd.mono ?_
  rintro e w1 ⟨rfl, hb2⟩
  go_wp2
  go_ret
  exact ⟨rfl, hb1.trans (hb2.mono hb1.size)⟩

set_option maxHeartbeats 1000000 in
set_option maxRecDepth 100000 in
theorem subs_any {d : Nat} {v : Value} {l : List (BI d)} {w : World} {c cx : Nat} {cap0 : Array Value} {fn : Nat} {x : FI} {f : BI d → Int} (h : RdL 2 (BAt d) w v l) (hc : w.heap[c]? = some (.cells #[.func (.func fn) #[] cap0] 96 (0, 0))) (hx : w.heap[cx]? = some (.cells (cFI x) 53 (0, 0))) (hent : ∀ (args : Array Value) (w : World), (callFunc fn args).run Tryz.prog w = .ok (.enter fn args) w) (hdeep : Deeper d fn cap0 x.type f l w) :
    Calls Tryz.prog 34 #[v, .func (.func 103) #[] #[.pointer (some ⟨c, 0, none⟩), .pointer (some ⟨cx, 0, none⟩)]] w fun e w' => e = .returned (.int .i64 (firstE (f) l)) ∧ Below w.heap.size w w' := by
  obtain ⟨ao, n, cap, rfl, Hn, hcap⟩ := h.shape
  obtain ⟨R, HR⟩ : ∃ R, Hid (R = firstE (f) l) := ⟨_, rfl⟩
  rw [← HR.out]
  go_enter Tryz.func34, Tryz.ntmps34
  go_wp2_with fail
  go_loopg [10] n (fun m i wr => ∃ k : Nat, k + m = n ∧ i = .int .i64 k ∧ Hid (R = firstE (f) (l.drop k)) ∧ Below w.heap.size w wr)
  case atStart => exact ⟨0, by omega, rfl, HR, Below.refl _ _⟩
  case round =>
    obtain ⟨k, hk, rfl, HK, hb⟩ := hrel
    have hcr := (hb.block c (Array.getElem?_eq_some_iff.1 hc).1).trans hc
    have hxr := (hb.block cx (Array.getElem?_eq_some_iff.1 hx).1).trans hx
    by_cases hlt : k < n
    · obtain ⟨a, Ha⟩ : ∃ a, Hid (l[k]? = some a) := ⟨l[k]'(by rw [← Hn.out]; exact hlt), List.getElem?_eq_getElem (by rw [← Hn.out]; exact hlt)⟩
      obtain ⟨b, off, rfl, hat⟩ := (h.below (BAt.stays d) hb).get (BAt.plain d) Ha.out
      obtain ⟨v0, v1, s0, s1, hq⟩ := BQ.of d hat
      obtain ⟨a0, n0, c0, a1, n1, c1, rfl, rfl⟩ := hq.shape
      have hki : (k : Int) < (n : Int) := by omega
      obtain ⟨W1, HW1⟩ : ∃ W1, Hid (W1 = wr.alloc (.cells #[.slice a0 n0 c0, .slice a1 n1 c1] 29)) := ⟨_, rfl⟩
      have hb1 : Below wr.heap.size wr W1 := by rw [HW1.out]; exact (Below.refl _ _).alloc (Nat.le_refl _) _
      have hbw1 : Below w.heap.size w W1 := hb.trans (hb1.mono hb.size)
      have hcall := subs1_call ((hb1.block c (Array.getElem?_eq_some_iff.1 hcr).1).trans hcr) ((hb1.block cx (Array.getElem?_eq_some_iff.1 hxr).1).trans hxr) hent (mem_at Ha.out) (hq.below hb1) (hdeep.below hbw1)
      have hst := firstE_at (f := f) Ha.out
      generalize hF : f a = F at hcall hst
      clear hq
      by_cases hz : F = 0
      · have HX : Hid (R = firstE (f) (l.drop (k + 1))) := by
          show _ = _
          rw [HK.out, hst, if_pos hz]
        have ez : (F != 0) = false := by simp [hz]
        clear hst hF hz hat
        go_wp2_with fail
        rw [← HW1.out]
        refine hcall.mono ?_
        rintro e w1 ⟨rfl, hb2⟩
        go_wp2_with fail
        go_roundg (n - (k + 1))
        case measure => omega
        case rel => exact ⟨k + 1, by omega, by go_num, HX, hbw1.trans (hb2.mono hbw1.size)⟩
      · have HX : Hid (R = F) := by
          show _ = _
          rw [HK.out, hst, if_neg hz]
        have ez : (F != 0) = true := by simpa using hz
        clear hst hF hz hat
        go_wp2_with fail
        rw [← HW1.out]
        refine hcall.mono ?_
        rintro e w1 ⟨rfl, hb2⟩
        go_wp2
        go_ret
        exact ⟨by rw [HX.out]; rfl, hbw1.trans (hb2.mono hbw1.size)⟩
    · have HX : Hid (R = 0) := by
        show _ = _
        rw [HK.out]
        exact firstE_end (by rw [← Hn.out]; omega)
      go_wp2
      go_ret
      exact ⟨by rw [HX.out]; rfl, hb⟩

set_option maxHeartbeats 1000000 in
set_option maxRecDepth 100000 in
theorem check3_any {d : Nat} {w : World} (x : FI) (v : VI (BI d)) {gd : Nat} {cap0 : Array Value} {fn : Nat} {f : BI d → Int} {a1 a2 a3 : Option Addr} {n1 n2 n3 c1 c2 c3 : Nat} (h3 : RdL 2 (BAt d) w (.slice a3 n3 c3) v.subs) (hc : w.heap[gd]? = some (.cells #[.func (.func fn) #[] cap0] 96 (0, 0))) (hent : ∀ (args : Array Value) (w : World), (callFunc fn args).run Tryz.prog w = .ok (.enter fn args) w) (hdeep : Deeper d fn cap0 x.type f v.subs w) :
    Calls Tryz.prog 102 #[vFI x, .agg #[.int .i64 v.number, .slice a1 n1 c1, .slice a2 n2 c2, .slice a3 n3 c3], .pointer (some ⟨gd, 0, none⟩)] w fun e w' => e = .returned (.int .i64 (firstE f v.subs)) ∧ Below w.heap.size w w' := by
  have hb2 : Below w.heap.size w ((w.alloc (.cells (cFI x) 53)).alloc (.cells #[.int .i64 v.number, .slice a1 n1 c1, .slice a2 n2 c2, .slice a3 n3 c3] 34)) := ((Below.refl _ _).alloc (Nat.le_refl _) _).alloc (by simp) _
  have hi := subs_any (x := x) (h3.below (BAt.stays d) hb2) ((hb2.block gd (Array.getElem?_eq_some_iff.1 hc).1).trans hc) (alloc2_old w _ _) hent (hdeep.below hb2)
  have hmf := makeF
  clear hdeep
  unfold cFI at hb2 hi
  unfold vFI
  go_enter Tryz.func102, Tryz.ntmps102
  go_wp2_with fail
  refine hi.mono ?_
  rintro e w1 ⟨rfl, hb1⟩
  go_wp2
  go_ret
  exact ⟨rfl, hb2.trans (hb1.mono hb2.size)⟩

end L
end Go.Proofs.YtelmjekjohbmjaaGreatDoor

/- The function with memory that tells whether numbers rise. -/
namespace Go.Proofs.YtelmjekjohbmjaaGreatDoor
namespace L
open Go.RowKit

set_option maxHeartbeats 1000000 in
set_option maxRecDepth 100000 in
theorem rise_call {β : Type} {w : World} {c : Nat} {last : Int} (hc : w.heap[c]? = some (.cells #[.int .i64 last] 3 (0, 0))) (x : FI) (v : VI β) {a1 a2 a3 : Option Addr} {n1 n2 n3 c1 c2 c3 : Nat} :
    Calls Tryz.prog 138 #[vFI x, .agg #[.int .i64 v.number, .slice a1 n1 c1, .slice a2 n2 c2, .slice a3 n3 c3], .pointer (some ⟨c, 0, none⟩)] w fun e w' => e = .returned (.bool (decide (v.number ≤ last))) ∧ w'.heap[c]? = some (.cells #[.int .i64 v.number] 3 (0, 0)) ∧ Fr w.heap.size [c] w w' := by
  have hcl : c < w.heap.size := (Array.getElem?_eq_some_iff.1 hc).1
  have c0 : w.cell? ⟨c, 0, none⟩ = some (.int .i64 last) := cell_of_blk hc 0 _ rfl
  have f0 := fr_of_blk hc 0
  have hX : (w.setCell ⟨c, 0, none⟩ (.int .i64 v.number)).heap[c]? = some (.cells #[.int .i64 v.number] 3 (0, 0)) := heap_setCell_same _ _ 0 _ _ _ hc
  have hb2 : ∀ o o', Below w.heap.size (w.setCell ⟨c, 0, none⟩ (.int .i64 v.number)) (((w.setCell ⟨c, 0, none⟩ (.int .i64 v.number)).alloc o).alloc o') := fun o o' => ((Below.refl _ _).alloc (by simp) _).alloc (by simp) _
  have hfin : ∀ o o', (((w.setCell ⟨c, 0, none⟩ (.int .i64 v.number)).alloc o).alloc o').heap[c]? = some (.cells #[.int .i64 v.number] 3 (0, 0)) := fun o o' => ((hb2 o o').block c hcl).trans hX
  have hfr : ∀ o o', Fr w.heap.size [c] w (((w.setCell ⟨c, 0, none⟩ (.int .i64 v.number)).alloc o).alloc o') := fun o o' => ⟨(hb2 o o').os, (hb2 o o').tape, (hb2 o o').output, by simpa using (hb2 o o').size, fun k hk hkc _ => ((hb2 o o').block k hk).trans (Below.heap_setCell w ⟨c, 0, none⟩ _ k (show k ≠ c from fun e => hkc (by simp [e])))⟩
  unfold vFI
  go_enter Tryz.func138, Tryz.ntmps138
  go_wp2
  go_ret
  exact ⟨rfl, hfin _ _, hfr _ _⟩

end L
end Go.Proofs.YtelmjekjohbmjaaGreatDoor

/- What the checks remember, and what of the memory they change. -/
namespace Go.Proofs.YtelmjekjohbmjaaGreatDoor
namespace L
open Go.RowKit

/-- The last number, in block c0; the choices so far, whose list block ca has, and which lies from block B on. -/
structure Mm (c0 ca B : Nat) (s : Int × List Int) (w : World) : Prop where
  last : w.heap[c0]? = some (.cells #[.int .i64 s.1] 3 (0, 0))
  row : ∃ v, w.heap[ca]? = some (.cells #[v] 46 (0, 0)) ∧ Row ekN w B v s.2
  size : B ≤ w.heap.size
  lt0 : c0 < B
  lta : ca < B
/-- From w to w': the checks' memory is s now; nothing else has turned. -/
structure Stp (c0 ca B : Nat) (w : World) (s : Int × List Int) (w' : World) : Prop where
  mm : Mm c0 ca B s w'
  os : w'.os = w.os
  tape : w'.tape = w.tape
  output : w'.output = w.output
  size : w.heap.size ≤ w'.heap.size
  own : ∃ v v', w.heap[ca]? = some (.cells #[v] 46 (0, 0)) ∧ w'.heap[ca]? = some (.cells #[v'] 46 (0, 0)) ∧ (∀ k, v.ownBlock = some k → B ≤ k) ∧ (∀ k, v'.ownBlock = some k → v.ownBlock = some k ∨ w.heap.size ≤ k) ∧ ∀ k, k < w.heap.size → k ≠ c0 → k ≠ ca → v.ownBlock ≠ some k → w'.heap[k]? = w.heap[k]?
theorem Mm.below {c0 ca B : Nat} {s : Int × List Int} {w w' : World} (h : Mm c0 ca B s w) (hb : Below w.heap.size w w') : Mm c0 ca B s w' := by
  obtain ⟨v, h1, h2⟩ := h.row
  have hs := h.size; have h0 := h.lt0; have ha := h.lta
  exact ⟨(hb.block c0 (by omega)).trans h.last, ⟨v, (hb.block ca (by omega)).trans h1, h2.below hb⟩, Nat.le_trans hs hb.size, h0, ha⟩
theorem Stp.of_below {c0 ca B : Nat} {s : Int × List Int} {w w' : World} (h : Mm c0 ca B s w) (hb : Below w.heap.size w w') : Stp c0 ca B w s w' := by
  obtain ⟨v, h1, h2⟩ := h.row
  have hs := h.size; have ha := h.lta
  exact ⟨h.below hb, hb.os, hb.tape, hb.output, hb.size, v, v, h1, (hb.block ca (by omega)).trans h1, fun k hk => (h2.own k hk).1, fun k hk => .inl hk, fun k hk _ _ _ => hb.block k hk⟩
theorem Stp.refl {c0 ca B : Nat} {s : Int × List Int} {w : World} (h : Mm c0 ca B s w) : Stp c0 ca B w s w := .of_below h (Below.refl _ _)
theorem Stp.trans {c0 ca B : Nat} {s1 s2 : Int × List Int} {w w1 w2 : World} (h : Stp c0 ca B w s1 w1) (k : Stp c0 ca B w1 s2 w2) : Stp c0 ca B w s2 w2 := by
  obtain ⟨v, v1, a1, a2, a3, a4, a5⟩ := h.own
  obtain ⟨u, u2, b1, b2, b3, b4, b5⟩ := k.own
  rw [a2] at b1
  simp only [Option.some.injEq, Obj.cells.injEq, Array.mk.injEq, List.cons.injEq, and_true] at b1
  subst b1
  have hsz := h.size
  refine ⟨k.mm, k.os.trans h.os, k.tape.trans h.tape, k.output.trans h.output, Nat.le_trans h.size k.size, v, u2, a1, b2, a3, ?_, ?_⟩
  · intro i hi
    rcases b4 i hi with h1 | h1
    · exact a4 i h1
    · exact .inr (by omega)
  · intro i hi h0 ha hv
    rw [b5 i (by omega) h0 ha ?_, a5 i hi h0 ha hv]
    intro e
    rcases a4 i e with h1 | h1
    · exact hv h1
    · omega
theorem Stp.below {c0 ca B B0 : Nat} {s : Int × List Int} {w w' : World} (h : Stp c0 ca B w s w') (h0 : B0 ≤ c0) (ha : B0 ≤ ca) : Below B0 w w' := by
  obtain ⟨v, v1, a1, a2, a3, a4, a5⟩ := h.own
  have hl := h.mm.lt0
  have hca : ca < w.heap.size := (Array.getElem?_eq_some_iff.1 a1).1
  exact ⟨h.os, h.tape, h.output, h.size, fun k hk => a5 k (by omega) (by omega) (by omega) (fun e => by have := a3 k e; omega)⟩
/-- A block of another's stays. -/
theorem Stp.block {c0 ca B : Nat} {s : Int × List Int} {w w' : World} (h : Stp c0 ca B w s w') {k : Nat} {xs : Array Value} {t : TypeId} {fr : Nat × Nat} (hk : w.heap[k]? = some (.cells xs t fr)) (h0 : k ≠ c0) (ha : k ≠ ca) (hB : k < B) : w'.heap[k]? = some (.cells xs t fr) := by
  obtain ⟨v, v1, a1, a2, a3, a4, a5⟩ := h.own
  rw [a5 k (Array.getElem?_eq_some_iff.1 hk).1 h0 ha (fun e => by have := a3 k e; omega)]
  exact hk
/-- .. and one that was made since. -/
theorem Stp.block' {c0 ca B : Nat} {s s1 : Int × List Int} {w0 w w' : World} (h0 : Mm c0 ca B s w0) (hb : Below w0.heap.size w0 w) (h : Stp c0 ca B w s1 w') {k : Nat} {xs : Array Value} {t : TypeId} {fr : Nat × Nat} (hk : w.heap[k]? = some (.cells xs t fr)) (hlt : w0.heap.size ≤ k) : w'.heap[k]? = some (.cells xs t fr) := by
  obtain ⟨v, v1, a1, a2, a3, a4, a5⟩ := h.own
  obtain ⟨u, b1, b2⟩ := h0.row
  have hs := h0.size; have hl0 := h0.lt0; have hla := h0.lta
  have e := (hb.block ca (by omega)).trans b1
  rw [a1] at e
  simp only [Option.some.injEq, Obj.cells.injEq, Array.mk.injEq, List.cons.injEq, and_true] at e
  subst e
  rw [a5 k (Array.getElem?_eq_some_iff.1 hk).1 (by omega) (by omega) (fun e => by have := (b2.own k e).2; omega)]
  exact hk

set_option maxHeartbeats 1000000 in
set_option maxRecDepth 100000 in
theorem rise_stp {β : Type} {w : World} {c0 ca B : Nat} {s : Int × List Int} (hm : Mm c0 ca B s w) (x : FI) (v : VI β) {a1 a2 a3 : Option Addr} {n1 n2 n3 c1 c2 c3 : Nat} :
    Calls Tryz.prog 138 #[vFI x, .agg #[.int .i64 v.number, .slice a1 n1 c1, .slice a2 n2 c2, .slice a3 n3 c3], .pointer (some ⟨c0, 0, none⟩)] w fun e w' => e = .returned (.bool (decide (v.number ≤ s.1))) ∧ Stp c0 ca B w (v.number, s.2) w' := by
  obtain ⟨u, h1, h2⟩ := hm.row
  have hs := hm.size; have hl0 := hm.lt0; have hla := hm.lta
  have hcl : c0 < w.heap.size := by omega
  have c0' : w.cell? ⟨c0, 0, none⟩ = some (.int .i64 s.1) := cell_of_blk hm.last 0 _ rfl
  have f0 := fr_of_blk hm.last 0
  have hne : c0 ≠ ca := fun e => by have := hm.last; rw [e, h1] at this; simp at this
  have hX : (w.setCell ⟨c0, 0, none⟩ (.int .i64 v.number)).heap[c0]? = some (.cells #[.int .i64 v.number] 3 (0, 0)) := heap_setCell_same _ _ 0 _ _ _ hm.last
  have hfin : ∀ o o', Stp c0 ca B w (v.number, s.2) (((w.setCell ⟨c0, 0, none⟩ (.int .i64 v.number)).alloc o).alloc o') := by
    intro o o'
    have hb2 : Below w.heap.size (w.setCell ⟨c0, 0, none⟩ (.int .i64 v.number)) (((w.setCell ⟨c0, 0, none⟩ (.int .i64 v.number)).alloc o).alloc o') := ((Below.refl _ _).alloc (by simp) _).alloc (by simp) _
    have hset : ∀ k, k ≠ c0 → (w.setCell ⟨c0, 0, none⟩ (.int .i64 v.number)).heap[k]? = w.heap[k]? := fun k hk => Below.heap_setCell w ⟨c0, 0, none⟩ _ k (show k ≠ c0 from hk)
    have hca := (hb2.block ca (by omega)).trans ((hset ca (Ne.symm hne)).trans h1)
    have hown : ∀ k, u.ownBlock = some k → B ≤ k ∧ k < w.heap.size := h2.own
    refine ⟨⟨(hb2.block c0 hcl).trans hX, ⟨u, hca, ?_⟩, ?_, hl0, hla⟩, hb2.os, hb2.tape, hb2.output, by simpa using hb2.size, u, u, h1, hca, fun k hk => (hown k hk).1, fun k hk => .inl hk, fun k hk h0 _ _ => (hb2.block k hk).trans (hset k h0)⟩
    · exact (h2.other (fun e => by have := (hown c0 e).1; omega) 0 _).keep fun k _ hk => hb2.block k (by simpa using hk)
    · have := hb2.size; simp at this ⊢; omega
  unfold vFI
  go_enter Tryz.func138, Tryz.ntmps138
  go_wp2
  go_ret
  exact ⟨rfl, hfin _ _⟩

end L
end Go.Proofs.YtelmjekjohbmjaaGreatDoor

/- The function with memory that tells whether a choice is taken; a check that tells an error where a function holds. -/
namespace Go.Proofs.YtelmjekjohbmjaaGreatDoor
namespace L
open Go.RowKit

def takeS (x : FI) (l : List Int) : List Int := if 0 < x.choice then l ++ [x.choice] else l

set_option maxHeartbeats 1000000 in
set_option maxRecDepth 100000 in
theorem taken_stp {β : Type} {w : World} {c0 ca B : Nat} {s : Int × List Int} (hm : Mm c0 ca B s w) (hl : s.2.length ≤ 17592186044415) (x : FI) (y : VI β) {a1 a2 a3 : Option Addr} {n1 n2 n3 c1 c2 c3 : Nat} :
    Calls Tryz.prog 140 #[vFI x, .agg #[.int .i64 y.number, .slice a1 n1 c1, .slice a2 n2 c2, .slice a3 n3 c3], .pointer (some ⟨ca, 0, none⟩)] w fun e w' => e = .returned (.bool (decide (0 < x.choice ∧ x.choice ∈ s.2))) ∧ Stp c0 ca B w (s.1, takeS x s.2) w' := by
  obtain ⟨v, hc, hr⟩ := hm.row
  obtain ⟨last, l⟩ := s
  have hr : Row ekN w B v l := hr
  have hl : l.length ≤ 17592186044415 := hl
  have hB := hm.size; have hl0 := hm.lt0; have hla := hm.lta
  obtain ⟨ao, n, cap, rfl, Hn⟩ := hr.shape'
  have hcl : ca < w.heap.size := by omega
  obtain ⟨W2, HW2⟩ : ∃ W2, Hid (W2 = (w.alloc (.cells #[.string (S x.name), .int .i64 x.number, .int .i64 x.kind, .string (S x.type), .bool x.many, .int .i64 x.choice] 53)).alloc (.cells #[.int .i64 y.number, .slice a1 n1 c1, .slice a2 n2 c2, .slice a3 n3 c3] 34)) := ⟨_, rfl⟩
  have hb2 : Below w.heap.size w W2 := by rw [HW2.out]; exact ((Below.refl _ _).alloc (Nat.le_refl _) _).alloc (by simp) _
  have hz2 : w.heap.size + 2 ≤ W2.heap.size := by rw [HW2.out]; simp
  have x1 : W2.heap[w.heap.size]? = some (.cells #[.string (S x.name), .int .i64 x.number, .int .i64 x.kind, .string (S x.type), .bool x.many, .int .i64 x.choice] 53 (0, 0)) := by rw [HW2.out]; exact alloc2_old _ _ _
  have hc2 := (hb2.block ca hcl).trans hc
  have hr2 := hr.below hb2
  have c0' : w.cell? ⟨ca, 0, none⟩ = some (.slice ao n cap) := cell_of_blk hc 0 _ rfl
  unfold vFI
  by_cases h0 : 0 < x.choice
  · have HD : Hid (decide (0 < x.choice ∧ x.choice ∈ l) = decide (x.choice ∈ l)) := by show _ = _; simp [h0]
    have d0 : decide (x.choice ≤ 0) = false := by simp; omega
    have HT : Hid (takeS x l = l ++ [x.choice]) := by show _ = _; unfold takeS; rw [if_pos h0]
    show Calls _ _ _ _ fun e w' => e = .returned (.bool (decide (0 < x.choice ∧ x.choice ∈ l))) ∧ Stp c0 ca B w (last, takeS x l) w'
    rw [HD.out, HT.out]
    clear h0
    have hct := containsN_any hr2.rdN x.choice
    obtain ⟨q, Hq⟩ : ∃ q, Hid (q = decide (x.choice ∈ l)) := ⟨_, rfl⟩
    rw [← Hq.out] at hct ⊢
    obtain ⟨W4, HW4⟩ : ∃ W4, Hid (W4 = W2.alloc (.cells #[.int .i64 x.choice] 3)) := ⟨_, rfl⟩
    have hba : Below W2.heap.size W2 W4 := by rw [HW4.out]; exact (Below.refl _ _).alloc (Nat.le_refl _) _
    have hsrc : W4.cell? ⟨W2.heap.size, 0, none⟩ = some (.int .i64 x.choice) := by rw [HW4.out]; exact cell_of_blk (heap_alloc_new W2 _) 0 _ rfl
    have hr4 : Row ekN W4 B (.slice ao n cap) l := hr2.below hba
    have hb24 : Below w.heap.size w W4 := hb2.trans (hba.mono hb2.size)
    have hc4 := (hb24.block ca hcl).trans hc
    have hlen : (l.length + [x.choice].length) * ekN.bytes ≤ 140737488355328 := by
      show (l.length + 1) * 8 ≤ _
      omega
    have hcell : ∀ ad, (some ⟨W2.heap.size, 0, none⟩ : Option Addr) = some ad → ∀ k y, [x.choice][k]? = some y → ∀ j u, (ekN.enc y)[j]? = some u → W4.cell? (ad.add (k * ekN.size + j)) = some u := by
      intro ad had k y hy j u hu
      cases had
      have hk : k = 0 := by
        cases k with
        | zero => rfl
        | succ k => simp at hy
      subst hk
      simp at hy
      subst hy
      have hj : j = 0 := by
        cases j with
        | zero => rfl
        | succ j => simp [ekN, encN] at hu
      subst hj
      have hu : u = .int .i64 x.choice := by simpa [ekN, encN] using hu.symm
      subst hu
      rw [add_plain]
      simpa using hsrc
    obtain ⟨_, _, _, _, _, d5⟩ := blk6 x1
    have e0 : W2.cell? ⟨ca, 0, none⟩ = some (.slice ao n cap) := cell_of_blk hc2 0 _ rfl
    have hB4 : B ≤ W4.heap.size := Nat.le_trans hB hb24.size
    go_enter Tryz.func140, Tryz.ntmps140
    go_wp2_with fail
    rw [← HW2.out]
    refine hct.mono ?_
    rintro e w1 ⟨rfl, rfl⟩
    go_wp2_with (at_builtin; rw [← HW4.out]; refine wpList_appB rfl ekN _ _ rfl B _ l [x.choice] rfl hr4 (some ⟨W2.heap.size, 0, none⟩) 1 1 rfl rfl (fun h => by cases h) hcell (by decide) hlen hB4 ?_)
    intro v5 w5 hr5 hg5 ho5
    have hown := hr4.own
    have hca5 : (Value.slice ao n cap).ownBlock ≠ some ca := fun hh => by have := (hown ca hh).1; omega
    have hc5 := (hg5.block ca (by omega) (fun hh => hca5 hh.symm)).trans hc4
    have k0 := cell_of_blk hc5 0 _ rfl
    have k1 := fr_of_blk hc5 0
    obtain ⟨a5, n5, cap5, rfl, Hn5⟩ := hr5.shape'
    go_wp2
    go_ret
    have hsz5 := hg5.size
    have hz4 := hb24.size
    have hset : ∀ k, k ≠ ca → (w5.setCell ⟨ca, 0, none⟩ (.slice a5 n5 cap5)).heap[k]? = w5.heap[k]? := fun k hk => Below.heap_setCell w5 ⟨ca, 0, none⟩ _ k (show k ≠ ca from hk)
    have hfin : (w5.setCell ⟨ca, 0, none⟩ (.slice a5 n5 cap5)).heap[ca]? = some (.cells #[.slice a5 n5 cap5] 46 (0, 0)) := heap_setCell_same _ _ 0 _ _ _ hc5
    have hne : c0 ≠ ca := fun e => by have := hm.last; rw [e, hc] at this; simp at this
    have hblk : ∀ k, k < w.heap.size → k ≠ ca → (Value.slice ao n cap).ownBlock ≠ some k → (w5.setCell ⟨ca, 0, none⟩ (.slice a5 n5 cap5)).heap[k]? = w.heap[k]? := fun k hk hkc hkr => by
      rw [hset k hkc, hg5.block k (by omega) (fun e => hkr e.symm), hb24.block k hk]
    refine ⟨rfl, ⟨⟨?_, ⟨_, hfin, ?_⟩, ?_, hl0, hla⟩, ?_, ?_, ?_, ?_, _, _, hc, hfin, fun k hk => (hr.own k hk).1, ?_, fun k hk _ hkc hkr => hblk k hk hkc hkr⟩⟩
    · rw [hblk c0 (by omega) hne (fun hh => by have := (hown c0 hh).1; omega)]; exact hm.last
    · exact hr5.other (fun hh => by have := (hr5.own ca hh).1; omega) 0 _
    · simp; omega
    · exact hg5.os.trans hb24.os
    · exact hg5.tape.trans hb24.tape
    · exact hg5.output.trans hb24.output
    · simp; omega
    · intro k hk
      rcases ho5 k hk with h1 | h1
      · exact .inl h1
      · exact .inr (by omega)
  · have HD : Hid (decide (0 < x.choice ∧ x.choice ∈ l) = false) := by show _ = _; simp [h0]
    have d0 : decide (x.choice ≤ 0) = true := by simp; omega
    have HT : Hid (takeS x l = l) := by show _ = _; unfold takeS; rw [if_neg h0]
    show Calls _ _ _ _ fun e w' => e = .returned (.bool (decide (0 < x.choice ∧ x.choice ∈ l))) ∧ Stp c0 ca B w (last, takeS x l) w'
    rw [HD.out, HT.out]
    clear h0 c0'
    go_enter Tryz.func140, Tryz.ntmps140
    go_wp2
    go_ret
    rw [← HW2.out]
    exact ⟨rfl, Stp.of_below hm hb2⟩

set_option maxHeartbeats 1000000 in
set_option maxRecDepth 100000 in
/-- A check that tells err where a function holds. -/
theorem when_stp {β : Type} {w : World} {c0 ca B : Nat} {s s' : Int × List Int} (hm : Mm c0 ca B s w) {fn cb ce : Nat} {cap : Array Value} {err : Int} {r : Bool} (hent : ∀ (args : Array Value) (w : World), (callFunc fn args).run Tryz.prog w = .ok (.enter fn args) w)
    (hcb : w.heap[cb]? = some (.cells #[.func (.func fn) #[] cap] 119 (0, 0))) (hce : w.heap[ce]? = some (.cells #[.int .i64 err] 36 (0, 0))) (heB : ce < B) (he0 : ce ≠ c0) (hea : ce ≠ ca) (x : FI) (v : VI β) {a1 a2 a3 : Option Addr} {n1 n2 n3 c1 c2 c3 : Nat}
    (hcall : ∀ W, Below w.heap.size w W → Calls Tryz.prog fn (#[vFI x, .agg #[.int .i64 v.number, .slice a1 n1 c1, .slice a2 n2 c2, .slice a3 n3 c3]] ++ cap) W fun e w' => e = .returned (.bool r) ∧ Stp c0 ca B W s' w') :
    Calls Tryz.prog 137 #[vFI x, .agg #[.int .i64 v.number, .slice a1 n1 c1, .slice a2 n2 c2, .slice a3 n3 c3], .pointer (some ⟨cb, 0, none⟩), .pointer (some ⟨ce, 0, none⟩)] w fun e w' => e = .returned (.int .i64 (if r then err else 0)) ∧ Stp c0 ca B w s' w' := by
  obtain ⟨W2, HW2⟩ : ∃ W2, Hid (W2 = (w.alloc (.cells #[.string (S x.name), .int .i64 x.number, .int .i64 x.kind, .string (S x.type), .bool x.many, .int .i64 x.choice] 53)).alloc (.cells #[.int .i64 v.number, .slice a1 n1 c1, .slice a2 n2 c2, .slice a3 n3 c3] 34)) := ⟨_, rfl⟩
  have hb2 : Below w.heap.size w W2 := by rw [HW2.out]; exact ((Below.refl _ _).alloc (Nat.le_refl _) _).alloc (by simp) _
  have k0 : w.cell? ⟨cb, 0, none⟩ = some (.func (.func fn) #[] cap) := cell_of_blk hcb 0 _ rfl
  have hc := hcall W2 hb2
  have hce2 := (hb2.block ce (Array.getElem?_eq_some_iff.1 hce).1).trans hce
  have hcbl := (Array.getElem?_eq_some_iff.1 hcb).1
  clear hcall
  unfold vFI at hc ⊢
  go_enter Tryz.func137, Tryz.ntmps137
  go_wp2_with fail
  rw [← HW2.out]
  refine hc.mono ?_
  rintro e w3 ⟨rfl, hs3⟩
  have hce3 := hs3.block hce2 he0 hea heB
  have k1 : w3.cell? ⟨ce, 0, none⟩ = some (.int .i64 err) := cell_of_blk hce3 0 _ rfl
  have hst := (Stp.of_below hm hb2).trans hs3
  cases r with
  | true =>
    go_wp2
    go_ret
    exact ⟨rfl, hst⟩
  | false =>
    go_wp2
    go_ret
    exact ⟨rfl, hst⟩

end L
end Go.Proofs.YtelmjekjohbmjaaGreatDoor

/- The function that hands a check its field and its value. -/
namespace Go.Proofs.YtelmjekjohbmjaaGreatDoor
namespace L
open Go.RowKit

set_option maxHeartbeats 1000000 in
set_option maxRecDepth 100000 in
/-- The function that hands a check its field and its value. -/
theorem hand_call {R : Int} {post : World → Prop} {W : World} {cm ct cv k fn : Nat} {cap : Array Value} {nm : List UInt8} {af ab : Option Addr} {nf cf nb cb : Nat} {fs : List FI} {x : FI} {number : Int} {a1 a2 a3 : Option Addr} {n1 n2 n3 c1 c2 c3 : Nat}
    (hcm : W.heap[cm]? = some (.cells #[.string (S nm), .slice af nf cf, .slice ab nb cb] 48 (0, 0))) (hct : W.heap[ct]? = some (.cells #[.int .i64 (k : Int)] 3 (0, 0))) (hcv : W.heap[cv]? = some (.cells #[.int .i64 number, .slice a1 n1 c1, .slice a2 n2 c2, .slice a3 n3 c3] 34 (0, 0)))
    (hf : RdL 6 FAt W (.slice af nf cf) fs) (hk : fs[k]? = some x) (hent : ∀ (args : Array Value) (w : World), (callFunc fn args).run Tryz.prog w = .ok (.enter fn args) w)
    (hcall : Calls Tryz.prog fn (#[vFI x, .agg #[.int .i64 number, .slice a1 n1 c1, .slice a2 n2 c2, .slice a3 n3 c3]] ++ cap) W.drew fun e w' => e = .returned (.int .i64 R) ∧ post w') :
    Calls Tryz.prog 90 #[.func (.func fn) #[] cap, .pointer (some ⟨cm, 0, none⟩), .pointer (some ⟨ct, 0, none⟩), .pointer (some ⟨cv, 0, none⟩)] W fun e w' => e = .returned (.int .i64 R) ∧ post w' := by
  have hb : Below W.heap.size W W.drew := (Below.refl _ _).drew
  obtain ⟨b, o, rfl, hat⟩ := hf.get FAt.plain hk
  have hln := hf.len.1
  have hkn : k < nf := by rw [hln]; exact (List.getElem?_eq_some_iff.1 hk).1
  have hkz : (k : Int) < (nf : Int) := by omega
  have hat' := FAt.stays _ _ _ _ hb hat
  simp only [FAt, add_plain] at hat'
  obtain ⟨f0, f1, f2, f3, f4, f5⟩ := hat'
  have m1 : W.drew.cell? ⟨cm, 1, none⟩ = some (.slice (some ⟨b, o, none⟩) nf cf) := cell_below hb (cell_of_blk hcm 1 _ rfl)
  have t0 : W.drew.cell? ⟨ct, 0, none⟩ = some (.int .i64 (k : Int)) := cell_below hb (cell_of_blk hct 0 _ rfl)
  have v0 : W.drew.cell? ⟨cv, 0, none⟩ = some (.int .i64 number) := cell_below hb (cell_of_blk hcv 0 _ rfl)
  have v1 : W.drew.cell? ⟨cv, 1, none⟩ = some (.slice a1 n1 c1) := cell_below hb (cell_of_blk hcv 1 _ rfl)
  have v2 : W.drew.cell? ⟨cv, 2, none⟩ = some (.slice a2 n2 c2) := cell_below hb (cell_of_blk hcv 2 _ rfl)
  have v3 : W.drew.cell? ⟨cv, 3, none⟩ = some (.slice a3 n3 c3) := cell_below hb (cell_of_blk hcv 3 _ rfl)
  clear hf hcm hct hcv hat
  unfold vFI at hcall
  go_enter Tryz.func90, Tryz.ntmps90
  go_wp2
  go_region_with (refine hcall.mono ?_; rintro e w1 ⟨rfl, hp⟩)
  all_goals
    go_wp2
    go_ret
    exact ⟨rfl, hp⟩

end L
end Go.Proofs.YtelmjekjohbmjaaGreatDoor

/- The checks in turn, whatever they are. -/
namespace Go.Proofs.YtelmjekjohbmjaaGreatDoor
namespace L
open Go.RowKit

/-- The first error of m, from the k-th on. -/
def firstN (e : Nat → Int) : Nat → Nat → Int
  | _, 0 => 0
  | k, m + 1 => if e k = 0 then firstN e (k + 1) m else e k

set_option maxHeartbeats 1000000 in
set_option maxRecDepth 100000 in
theorem checks_loop {c0 ca B g cm ct cv : Nat} {w : World} (L : List (Nat × Array Value)) (sAt : Nat → Int × List Int) (eAt : Nat → Int) (hn : L.length ≤ 1000) (hm : Mm c0 ca B (sAt 0) w)
    (hgs : ∀ s' W, Stp c0 ca B w s' W → ∀ (j : Nat) (p : Nat × Array Value), L[j]? = some p → W.cell? ⟨g, j, none⟩ = some (.func (.func p.1) #[] p.2))
    (hstep : ∀ (j : Nat) (p : Nat × Array Value) (W : World), L[j]? = some p → Stp c0 ca B w (sAt j) W → (∀ i, i < j → eAt i = 0) → Calls Tryz.prog 90 #[.func (.func p.1) #[] p.2, .pointer (some ⟨cm, 0, none⟩), .pointer (some ⟨ct, 0, none⟩), .pointer (some ⟨cv, 0, none⟩)] W fun e W' => e = .returned (.int .i64 (eAt j)) ∧ Stp c0 ca B W (sAt (j + 1)) W') :
    Calls Tryz.prog 89 #[.slice (some ⟨g, 0, none⟩) L.length L.length, .func (.func 90) #[] #[.pointer (some ⟨cm, 0, none⟩), .pointer (some ⟨ct, 0, none⟩), .pointer (some ⟨cv, 0, none⟩)]] w
      fun e w' => e = .returned (.int .i64 (firstN eAt 0 L.length)) ∧ ∃ s', Stp c0 ca B w s' w' ∧ (firstN eAt 0 L.length = 0 → s' = sAt L.length) := by
  obtain ⟨n, Hn⟩ : ∃ n, Hid (n = L.length) := ⟨_, rfl⟩
  obtain ⟨R, HR⟩ : ∃ R, Hid (R = firstN eAt 0 n) := ⟨_, rfl⟩
  rw [← Hn.out] at hn ⊢
  rw [← HR.out]
  go_enter Tryz.func89, Tryz.ntmps89
  go_wp2_with fail
  go_loopg [10] n (fun m i wr => ∃ k : Nat, k + m = n ∧ i = .int .i64 k ∧ Hid (R = firstN eAt k m) ∧ Hid (∀ i, i < k → eAt i = 0) ∧ Stp c0 ca B w (sAt k) wr)
  case atStart => exact ⟨0, by omega, rfl, HR, (show Hid _ from fun i hi => absurd hi (Nat.not_lt_zero i)), Stp.refl hm⟩
  case round =>
    obtain ⟨k, hk, rfl, HK, HZ, hs⟩ := hrel
    by_cases hlt : k < n
    · obtain ⟨p, Hp⟩ : ∃ p, Hid (L[k]? = some p) := ⟨L[k]'(by rw [← Hn.out]; exact hlt), List.getElem?_eq_getElem (by rw [← Hn.out]; exact hlt)⟩
      obtain ⟨fn, cap⟩ := p
      have hat : wr.cell? ⟨g, k, none⟩ = some (.func (.func fn) #[] cap) := hgs _ wr hs k (fn, cap) Hp.out
      have hki : (k : Int) < (n : Int) := by omega
      have hcall := hstep k (fn, cap) wr Hp.out hs HZ.out
      obtain ⟨m, rfl⟩ : ∃ m, gk = m + 1 := ⟨gk - 1, by omega⟩
      have hst : firstN eAt k (m + 1) = if eAt k = 0 then firstN eAt (k + 1) m else eAt k := rfl
      obtain ⟨F, HF⟩ : ∃ F, Hid (F = eAt k) := ⟨_, rfl⟩
      rw [← HF.out] at hcall hst
      by_cases hz : F = 0
      · have HX : Hid (R = firstN eAt (k + 1) m) := by
          show _ = _
          rw [HK.out, hst, if_pos hz]
        have HZ' : Hid (∀ i, i < k + 1 → eAt i = 0) := by
          show ∀ i, i < k + 1 → eAt i = 0
          intro i hi
          rcases Nat.lt_succ_iff_lt_or_eq.1 hi with h | h
          · exact HZ.out i h
          · rw [h, ← HF.out, hz]
        have ez : (F != 0) = false := by simp [hz]
        clear hst hz hstep hgs
        go_wp2_with fail
        refine hcall.mono ?_
        rintro e w1 ⟨rfl, hs1⟩
        go_wp2_with fail
        go_roundg m
        case measure => omega
        case rel => exact ⟨k + 1, by omega, by go_num, HX, HZ', hs.trans hs1⟩
      · have HX : Hid (R = F) := by
          show _ = _
          rw [HK.out, hst, if_neg hz]
        have HY : Hid (R ≠ 0) := by show R ≠ 0; rw [HX.out]; exact hz
        have ez : (F != 0) = true := by simpa using hz
        clear hst hz hstep hgs
        go_wp2_with fail
        refine hcall.mono ?_
        rintro e w1 ⟨rfl, hs1⟩
        go_wp2
        go_ret
        exact ⟨by rw [HX.out]; rfl, _, hs.trans hs1, fun e => absurd e HY.out⟩
    · obtain rfl : k = n := by omega
      obtain rfl : gk = 0 := by omega
      have HX : Hid (R = 0) := HK
      go_wp2
      go_ret
      exact ⟨by rw [HX.out]; rfl, _, hs, fun _ => rfl⟩

end L
end Go.Proofs.YtelmjekjohbmjaaGreatDoor

/- A body that came in, opened: what can be read, and how great it is. -/
namespace Go.Proofs.YtelmjekjohbmjaaGreatDoor
namespace L
open Go.ChangeShapes Go.WideShapes Go.ChangeAt Go.RowKit

section
variable {H : Type} {enc : TypeId × Value → H} {w : World} {base : Nat} {spare : Nat → Bool} {held : Bool}

theorem open_listN {α : Type} {P : World → Addr → α → Prop} {Q : α → Prop} {sz bytes : Nat} {t e : TypeId} (ht : Tryz.prog.underlying t = some (.slice e)) (hc : Tryz.prog.cellsOf e = sz) (hby : Tryz.prog.bytesOf e = bytes)
    {fuel : Nat} {cs : List Value} {d : DataW H} {pl : List MemPlace} (h : DataW.trod enc Tryz.prog w base spare held fuel t cs = some (d, pl)) (hsz : Sz t d)
    (hel : ∀ (fuel : Nat) (a : Addr) (cs : List Value) (d' : DataW H) (pl : List MemPlace), SizeOf.sizeOf d' < SizeOf.sizeOf d → w.cells? base a sz = some cs → DataW.trod enc Tryz.prog w base spare held fuel e cs = some (d', pl) → Sz e d' → ∃ y, P w a y ∧ Q y) :
    ∃ v l, cs = [v] ∧ RdL sz P w v l ∧ (∀ y ∈ l, Q y) ∧ l.length * bytes ≤ reachBytes := by
  rcases Go.Deep.open_slice ht h with ⟨hcs, _⟩ | ⟨a, len, cap, m, n, D, Pl, hcs, _, hl, hm, hmm, hx, hels⟩
  · exact ⟨_, [], hcs, RdL.nil _ _ _, fun y hy => by simp at hy, by simp⟩
  · rw [hc] at hels
    have hd := (Prod.mk.inj hx).1
    have hm' : len ≤ m := by rw [hmm]; split <;> omega
    have hw : (len + (m - len)) * bytes ≤ reachBytes := by
      refine hsz _ ?_
      rw [hd, DataW.weights, ht]
      simp [hby]
    have hex : ∀ i, i < len → ∃ y, P w (a.add (i * sz)) y ∧ Q y := by
      intro i hi
      obtain ⟨cs', h1, h2⟩ := hels i (by omega)
      have hmem : D i ∈ (List.range len).map D := List.mem_map.2 ⟨i, List.mem_range.2 hi, rfl⟩
      refine hel n _ cs' (D i) (Pl i) ?_ h1 h2 ?_
      · have := List.sizeOf_lt_of_mem hmem
        rw [hd, DataW.slice.sizeOf_spec]
        omega
      · intro q hq
        refine hsz q ?_
        rw [hd, DataW.weights, ht]
        simp only [List.mem_cons, List.mem_append]
        exact .inr (.inl (all_mem hmem q hq))
    obtain ⟨f, hf⟩ : ∃ f : Fin len → α, ∀ i, P w (a.add (i.1 * sz)) (f i) ∧ Q (f i) := ⟨fun i => Classical.choose (hex i.1 i.2), fun i => Classical.choose_spec (hex i.1 i.2)⟩
    refine ⟨_, List.ofFn f, hcs, ⟨some a, len, cap, rfl, by simp, hl, hm, fun h => (by cases h), ?_⟩, ?_, ?_⟩
    · intro x hx' k y hy
      cases hx'
      rw [List.getElem?_ofFn] at hy
      by_cases hk : k < len
      · rw [dif_pos hk] at hy
        cases hy
        exact (hf ⟨k, hk⟩).1
      · rw [dif_neg hk] at hy
        cases hy
    · intro y hy
      obtain ⟨i, rfl⟩ := List.mem_ofFn.1 hy
      exact (hf i).2
    · simp only [List.length_ofFn]
      exact Nat.le_trans (Nat.mul_le_mul_right _ (Nat.le_add_right _ _)) hw

theorem open_u64 {fuel : Nat} {c : Value} {x : DataW H × List MemPlace} (h : DataW.trod enc Tryz.prog w base spare held fuel 35 [c] = some x) : ∃ n : Nat, c = .int .u64 (n : Int) ∧ n < 18446744073709551616 := by
  obtain ⟨n, h1, _, h2⟩ := DataW.trod_int Tryz.underlying35 h
  simp at h1
  have := bounds_u64 h2
  exact ⟨n.toNat, by rw [h1, Int.toNat_of_nonneg (by omega)], by omega⟩
theorem open_bit (fuel : Nat) (a : Addr) (cs : List Value) (d : DataW H) (pl : List MemPlace) (hc : w.cells? base a 1 = some cs) (h : DataW.trod enc Tryz.prog w base spare held fuel 35 cs = some (d, pl)) : ∃ y, UAt w a y ∧ y < 18446744073709551616 := by
  obtain ⟨_, hlen, hcell⟩ := World.cells?_some hc
  match cs, hlen with
  | [v0], _ =>
    obtain ⟨n1, rfl, z1⟩ := open_u64 h
    refine ⟨n1, ?_, z1⟩
    have := hcell 0 (by omega)
    simpa [Addr.add, UAt] using this
theorem open_byte (fuel : Nat) (a : Addr) (cs : List Value) (d : DataW H) (pl : List MemPlace) (hc : w.cells? base a 1 = some cs) (h : DataW.trod enc Tryz.prog w base spare held fuel 5 cs = some (d, pl)) : ∃ y, YAt w a y ∧ True := by
  obtain ⟨_, hlen, hcell⟩ := World.cells?_some hc
  match cs, hlen with
  | [v0], _ =>
    obtain ⟨n, h1, _, h2⟩ := DataW.trod_int Tryz.underlying5 h
    simp at h1
    subst h1
    have hb := bounds_u8 h2
    refine ⟨UInt8.ofNat n.toNat, ?_, trivial⟩
    have := hcell 0 (by omega)
    have e : (((UInt8.ofNat n.toNat).toNat : Nat) : Int) = n := by
      rw [UInt8.toNat_ofNat', Nat.mod_eq_of_lt (by omega), Int.toNat_of_nonneg (by omega)]
    show w.cell? a = some (.int .u8 (((UInt8.ofNat n.toNat).toNat : Nat) : Int))
    rw [e]
    simpa [Addr.add] using this

theorem open_raw {fuel : Nat} {cs : List Value} {d : DataW H} {pl : List MemPlace} (h : DataW.trod enc Tryz.prog w base spare held fuel 68 cs = some (d, pl)) (hsz : Sz 68 d) : ∃ v l, cs = [v] ∧ RdL 1 YAt w v l ∧ l.length * 1 ≤ reachBytes := by
  obtain ⟨v, l, e, r, _, b⟩ := open_listN (P := YAt) (Q := fun _ => True) (sz := 1) (bytes := 1) Tryz.underlying68 (by kernel_rfl) (by kernel_rfl) h hsz fun fuel a cs d' pl _ hc h' _ => open_byte fuel a cs d' pl hc h'
  exact ⟨v, l, e, r, b⟩
theorem open_raws (fuel : Nat) (a : Addr) (cs : List Value) (d : DataW H) (pl : List MemPlace) (hc : w.cells? base a 1 = some cs) (h : DataW.trod enc Tryz.prog w base spare held fuel 68 cs = some (d, pl)) (hsz : Sz 68 d) : ∃ y, ZAt w a y ∧ y.length * 1 ≤ reachBytes := by
  obtain ⟨_, hlen, hcell⟩ := World.cells?_some hc
  obtain ⟨v, l, e, r, b⟩ := open_raw h hsz
  subst e
  refine ⟨l, ⟨v, ?_, r⟩, b⟩
  have := hcell 0 (by omega)
  simpa [Addr.add] using this
set_option maxRecDepth 100000 in
theorem open_rec (fuel : Nat) (a : Addr) (cs : List Value) (d : DataW H) (pl : List MemPlace) (hc : w.cells? base a 4 = some cs) (h : DataW.trod enc Tryz.prog w base spare held fuel 73 cs = some (d, pl)) (hsz : Sz 73 d) : ∃ y, RAt w a y ∧ RecOk y := by
  obtain ⟨_, hlen, hcell⟩ := World.cells?_some hc
  obtain ⟨xs, n, _, hx, _, hxl, hf⟩ := DataW.trod_struct Tryz.underlying73 h
  have hd := (Prod.mk.inj hx).1
  rw [hd] at hsz
  match cs, hlen with
  | [v0, v1, v2, v3], _ =>
    have hxs : xs.length = 4 := hxl
    have f0 : DataW.trod enc Tryz.prog w base spare held n 3 [v0] = xs[0]? := hf 0 _ rfl
    have f1 : DataW.trod enc Tryz.prog w base spare held n 3 [v1] = xs[1]? := hf 1 _ rfl
    have f2 : DataW.trod enc Tryz.prog w base spare held n 35 [v2] = xs[2]? := hf 2 _ rfl
    have f3 : DataW.trod enc Tryz.prog w base spare held n 68 [v3] = xs[3]? := hf 3 _ rfl
    rw [List.getElem?_eq_getElem (by omega)] at f0 f1 f2 f3
    have q3 : Sz 68 (xs[3]'(by omega)).1 := part_sz (i := 3) Tryz.underlying73 hsz rfl (List.getElem?_eq_getElem (by omega))
    obtain ⟨n0, rfl, z0⟩ := open_num f0
    obtain ⟨n1, rfl, z1⟩ := open_num f1
    obtain ⟨n2, rfl, z2⟩ := open_u64 f2
    obtain ⟨u3, l3, e3, r3, b3⟩ := open_raw f3 q3
    simp at e3
    subst e3
    refine ⟨⟨n0, n1, n2, l3⟩, ⟨v3, ?_, hcell 1 (by omega), hcell 2 (by omega), hcell 3 (by omega), r3⟩, z0, z1, z2, b3⟩
    have := hcell 0 (by omega)
    simpa [Addr.add] using this
theorem part_lt {xs : List (DataW H × List MemPlace)} {i : Nat} (hi : i < xs.length) : SizeOf.sizeOf (xs[i]'hi).1 < SizeOf.sizeOf (DataW.agg (xs.map (·.1))) := by
  have : (xs[i]'hi).1 ∈ xs.map (·.1) := List.mem_map.2 ⟨_, List.getElem_mem hi, rfl⟩
  have := List.sizeOf_lt_of_mem this
  rw [DataW.agg.sizeOf_spec]
  omega
set_option maxRecDepth 100000 in
theorem open_val {β : Type} {P : World → Addr → β → Prop} {Q : β → Prop} (fuel : Nat) (a : Addr) (cs : List Value) (d : DataW H) (pl : List MemPlace) (hc : w.cells? base a 4 = some cs) (h : DataW.trod enc Tryz.prog w base spare held fuel 34 cs = some (d, pl)) (hsz : Sz 34 d)
    (hel : ∀ (fuel : Nat) (a : Addr) (cs : List Value) (d' : DataW H) (pl : List MemPlace), SizeOf.sizeOf d' < SizeOf.sizeOf d → w.cells? base a 2 = some cs → DataW.trod enc Tryz.prog w base spare held fuel 29 cs = some (d', pl) → Sz 29 d' → ∃ y, P w a y ∧ Q y) : ∃ y, VAt P w a y ∧ VOk Q y := by
  obtain ⟨_, hlen, hcell⟩ := World.cells?_some hc
  obtain ⟨xs, n, _, hx, _, hxl, hf⟩ := DataW.trod_struct Tryz.underlying34 h
  have hd := (Prod.mk.inj hx).1
  rw [hd] at hsz hel
  match cs, hlen with
  | [v0, v1, v2, v3], _ =>
    have hxs : xs.length = 4 := hxl
    have f0 : DataW.trod enc Tryz.prog w base spare held n 3 [v0] = xs[0]? := hf 0 _ rfl
    have f1 : DataW.trod enc Tryz.prog w base spare held n 30 [v1] = xs[1]? := hf 1 _ rfl
    have f2 : DataW.trod enc Tryz.prog w base spare held n 31 [v2] = xs[2]? := hf 2 _ rfl
    have f3 : DataW.trod enc Tryz.prog w base spare held n 32 [v3] = xs[3]? := hf 3 _ rfl
    rw [List.getElem?_eq_getElem (by omega)] at f0 f1 f2 f3
    have q1 : Sz 30 (xs[1]'(by omega)).1 := part_sz (i := 1) Tryz.underlying34 hsz rfl (List.getElem?_eq_getElem (by omega))
    have q2 : Sz 31 (xs[2]'(by omega)).1 := part_sz (i := 2) Tryz.underlying34 hsz rfl (List.getElem?_eq_getElem (by omega))
    have q3 : Sz 32 (xs[3]'(by omega)).1 := part_sz (i := 3) Tryz.underlying34 hsz rfl (List.getElem?_eq_getElem (by omega))
    have g3 := part_lt (xs := xs) (i := 3) (by omega)
    obtain ⟨n0, rfl, z0⟩ := open_num f0
    obtain ⟨u1, l1, e1, r1, k1, b1⟩ := open_listN (P := UAt) (Q := fun n => n < 18446744073709551616) (sz := 1) (bytes := 8) Tryz.underlying30 (by kernel_rfl) (by kernel_rfl) f1 q1 fun fuel a cs d' pl _ hc h' _ => open_bit fuel a cs d' pl hc h'
    obtain ⟨u2, l2, e2, r2, k2, b2⟩ := open_listN (P := ZAt) (Q := fun l => l.length * 1 ≤ reachBytes) (sz := 1) (bytes := 24) Tryz.underlying31 (by kernel_rfl) (by kernel_rfl) f2 q2 fun fuel a cs d' pl _ hc h' hs => open_raws fuel a cs d' pl hc h' hs
    obtain ⟨u3, l3, e3, r3, k3, b3⟩ := open_listN (P := P) (Q := Q) (sz := 2) (bytes := 48) Tryz.underlying32 (by kernel_rfl) (by kernel_rfl) f3 q3 fun fuel a cs d' pl hlt hc h' hs => hel fuel a cs d' pl (Nat.lt_trans hlt g3) hc h' hs
    simp at e1 e2 e3
    subst e1 e2 e3
    refine ⟨⟨n0, l1, l2, l3⟩, ⟨v1, v2, v3, ?_, hcell 1 (by omega), hcell 2 (by omega), hcell 3 (by omega), r1, r2, r3⟩, z0, k1, b1, k2, b2, k3, b3⟩
    have := hcell 0 (by omega)
    simpa [Addr.add] using this
set_option maxRecDepth 100000 in
theorem open_parts {N : Nat} (hel : ∀ (fuel : Nat) (a : Addr) (cs : List Value) (d' : DataW H) (pl : List MemPlace), SizeOf.sizeOf d' < N → w.cells? base a 2 = some cs → DataW.trod enc Tryz.prog w base spare held fuel 29 cs = some (d', pl) → Sz 29 d' → ∃ y, BAt N w a y ∧ BOk N y)
    {fuel : Nat} {cs : List Value} {d : DataW H} {pl : List MemPlace} (hN : SizeOf.sizeOf d ≤ N) (h : DataW.trod enc Tryz.prog w base spare held fuel 29 cs = some (d, pl)) (hl : cs.length = 2) (hsz : Sz 29 d) : ∃ v0 v1 y, cs = [v0, v1] ∧ BRd N w v0 v1 y ∧ BOk (N + 1) y := by
  obtain ⟨xs, n, _, hx, _, hxl, hf⟩ := DataW.trod_struct Tryz.underlying29 h
  have hd := (Prod.mk.inj hx).1
  rw [hd] at hsz hN
  match cs, hl with
  | [v0, v1], _ =>
    have hxs : xs.length = 2 := hxl
    have f0 : DataW.trod enc Tryz.prog w base spare held n 26 [v0] = xs[0]? := hf 0 _ rfl
    have f1 : DataW.trod enc Tryz.prog w base spare held n 27 [v1] = xs[1]? := hf 1 _ rfl
    rw [List.getElem?_eq_getElem (by omega)] at f0 f1
    have q0 : Sz 26 (xs[0]'(by omega)).1 := part_sz (i := 0) Tryz.underlying29 hsz rfl (List.getElem?_eq_getElem (by omega))
    have q1 : Sz 27 (xs[1]'(by omega)).1 := part_sz (i := 1) Tryz.underlying29 hsz rfl (List.getElem?_eq_getElem (by omega))
    have g0 := part_lt (xs := xs) (i := 0) (by omega)
    obtain ⟨u0, l0, e0, r0, k0, b0⟩ := open_listN (P := VAt (BAt N)) (Q := VOk (BOk N)) (sz := 4) (bytes := 80) Tryz.underlying26 (by kernel_rfl) (by kernel_rfl) f0 q0 fun fuel a cs d' pl hlt hc h' hs => open_val fuel a cs d' pl hc h' hs fun fuel a cs d'' pl hlt2 hc h'' hs2 => hel fuel a cs d'' pl (Nat.lt_of_lt_of_le (Nat.lt_trans hlt2 (Nat.lt_trans hlt g0)) hN) hc h'' hs2
    obtain ⟨u1, l1, e1, r1, k1, b1⟩ := open_listN (P := RAt) (Q := RecOk) (sz := 4) (bytes := 48) Tryz.underlying27 (by kernel_rfl) (by kernel_rfl) f1 q1 fun fuel a cs d' pl _ hc h' hs => open_rec fuel a cs d' pl hc h' hs
    simp at e0 e1
    subst e0 e1
    exact ⟨v0, v1, ⟨l0, l1⟩, rfl, ⟨r0, r1⟩, k0, b0, k1, b1⟩
theorem open_sub : ∀ (N fuel : Nat) (a : Addr) (cs : List Value) (d' : DataW H) (pl : List MemPlace), SizeOf.sizeOf d' < N → w.cells? base a 2 = some cs → DataW.trod enc Tryz.prog w base spare held fuel 29 cs = some (d', pl) → Sz 29 d' → ∃ y, BAt N w a y ∧ BOk N y
  | 0, _, _, _, _, _, h, _, _, _ => by omega
  | N + 1, fuel, a, cs, d', pl, hN, hc, h, hs => by
    obtain ⟨_, hlen, hcell⟩ := World.cells?_some hc
    obtain ⟨v0, v1, y, rfl, hr, hk⟩ := open_parts (open_sub N) (by omega) h hlen hs
    refine ⟨y, ⟨v0, v1, ?_, hcell 1 (by omega), hr⟩, hk⟩
    have := hcell 0 (by omega)
    simpa [Addr.add] using this
set_option maxRecDepth 100000 in
/-- A body that came in: how deep it is at most, what can be read, how great it is. -/
theorem open_body {v : Value} {fuel : Nat} {d : DataW H} {pl : List MemPlace} (N : Nat) (hN : SizeOf.sizeOf d ≤ N) (h : DataW.trod enc Tryz.prog w base spare held fuel 29 v.cells.toList = some (d, pl)) (hsz : Sz 29 d) : ∃ v0 v1 y, v = .agg #[v0, v1] ∧ BRd N w v0 v1 y ∧ BOk (N + 1) y := by
  have hlen : v.cells.toList.length = 2 := by
    obtain ⟨xs, n, _, _, hlen, _, _⟩ := DataW.trod_struct Tryz.underlying29 h
    exact hlen
  obtain ⟨v0, v1, y, hcs, hr, hk⟩ := open_parts (open_sub N) hN h hlen hsz
  clear h hlen
  refine ⟨v0, v1, y, ?_, hr, hk⟩
  cases v <;> simp [Value.cells] at hcs
  rename_i cs
  have : cs = #[v0, v1] := by cases cs; simp_all
  rw [this]

end
end L
end Go.Proofs.YtelmjekjohbmjaaGreatDoor

/- The eight checks of a value: their memory, and what each tells. -/
namespace Go.Proofs.YtelmjekjohbmjaaGreatDoor
namespace L
open Go.RowKit

theorem firstI_cases {α : Type} (p : α → Bool) : ∀ l : List α, (firstI p l = -1 ∧ l.find? p = none) ∨ ∃ (k : Nat) (x : α), firstI p l = (k : Int) ∧ l[k]? = some x ∧ l.find? p = some x ∧ p x = true
  | [] => .inl ⟨rfl, rfl⟩
  | a :: l => by
    cases hp : p a with
    | true => exact .inr ⟨0, a, by simp [firstI, List.findIdx?_cons, hp], rfl, by simp [hp], hp⟩
    | false =>
      rcases firstI_cases p l with ⟨h1, h2⟩ | ⟨k, x, h1, h2, h3, h4⟩
      · refine .inl ⟨?_, by simp [hp, h2]⟩
        unfold firstI at h1 ⊢
        rw [List.findIdx?_cons, hp]
        cases h : l.findIdx? p with
        | none => simp
        | some k => rw [h] at h1; simp at h1
      · refine .inr ⟨k + 1, x, ?_, by simpa using h2, by simp [hp, h3], h4⟩
        unfold firstI at h1 ⊢
        rw [List.findIdx?_cons, hp]
        cases h : l.findIdx? p with
        | none => rw [h] at h1; simp at h1
        | some k' => rw [h] at h1; simp at h1 ⊢; omega

/-- What check j tells of a value of field x. -/
def eAt {β : Type} (x : FI) (v : VI β) (f : List UInt8 → β → Int) (s : Int × List Int) : Nat → Int
  | 0 => if decide (v.number ≤ s.1) then 2 else 0
  | 1 => if othersB x v then 8 else 0
  | 2 => if miscB x v then 5 else 0
  | 3 => if withoutB x v then 2 else 0
  | 4 => firstE (fitsI x.kind) v.bits
  | 5 => firstE (bytesE x.kind) v.bytes
  | 6 => firstE (f x.type) v.subs
  | 7 => if decide (0 < x.choice ∧ x.choice ∈ s.2) then 8 else 0
  | _ => 0
def sAt {β : Type} (x : FI) (v : VI β) (s : Int × List Int) : Nat → Int × List Int
  | 0 => s
  | j + 1 => (v.number, if j = 7 then takeS x s.2 else s.2)

/-- A block that stays. -/
structure Fx (c0 ca B : Nat) (w : World) (k : Nat) (xs : Array Value) (t : TypeId) : Prop where
  at_ : w.heap[k]? = some (.cells xs t (0, 0))
  lt : k < B
  n0 : k ≠ c0
  na : k ≠ ca
theorem Fx.stp {c0 ca B : Nat} {w w' : World} {k : Nat} {xs : Array Value} {t : TypeId} {s : Int × List Int} (h : Fx c0 ca B w k xs t) (hs : Stp c0 ca B w s w') : Fx c0 ca B w' k xs t := ⟨hs.block h.at_ h.n0 h.na h.lt, h.lt, h.n0, h.na⟩
theorem Fx.below {c0 ca B : Nat} {w w' : World} {k : Nat} {xs : Array Value} {t : TypeId} (h : Fx c0 ca B w k xs t) (hb : Below w.heap.size w w') : Fx c0 ca B w' k xs t := ⟨(hb.block k (Array.getElem?_eq_some_iff.1 h.at_).1).trans h.at_, h.lt, h.n0, h.na⟩
def pt (k : Nat) : Value := .pointer (some ⟨k, 0, none⟩)
/-- The checks: their functions, and what those have captured. -/
def ckL (gd : Nat) (b e : Nat → Nat) : List (Nat × Array Value) := [(137, #[pt (b 0), pt (e 0)]), (137, #[pt (b 1), pt (e 1)]), (137, #[pt (b 2), pt (e 2)]), (137, #[pt (b 3), pt (e 3)]), (95, #[]), (98, #[]), (102, #[pt gd]), (137, #[pt (b 7), pt (e 7)])]
def ckV (p : Nat × Array Value) : Value := .func (.func p.1) #[] p.2
structure CkM (c0 ca B fnD : Nat) (capD : Array Value) (g gd : Nat) (b e : Nat → Nat) (w : World) : Prop where
  arr : Fx c0 ca B w g ((ckL gd b e).map ckV).toArray 138
  deep : Fx c0 ca B w gd #[.func (.func fnD) #[] capD] 96
  f0 : Fx c0 ca B w (b 0) #[.func (.func 138) #[] #[pt c0]] 119
  f1 : Fx c0 ca B w (b 1) #[.func (.func 93) #[] #[]] 119
  f2 : Fx c0 ca B w (b 2) #[.func (.func 94) #[] #[]] 119
  f3 : Fx c0 ca B w (b 3) #[.func (.func 72) #[] #[]] 119
  f7 : Fx c0 ca B w (b 7) #[.func (.func 140) #[] #[pt ca]] 119
  x0 : Fx c0 ca B w (e 0) #[.int .i64 2] 36
  x1 : Fx c0 ca B w (e 1) #[.int .i64 8] 36
  x2 : Fx c0 ca B w (e 2) #[.int .i64 5] 36
  x3 : Fx c0 ca B w (e 3) #[.int .i64 2] 36
  x7 : Fx c0 ca B w (e 7) #[.int .i64 8] 36
theorem CkM.stp {c0 ca B fnD : Nat} {capD : Array Value} {g gd : Nat} {b e : Nat → Nat} {w w' : World} {s : Int × List Int} (h : CkM c0 ca B fnD capD g gd b e w) (k : Stp c0 ca B w s w') : CkM c0 ca B fnD capD g gd b e w' :=
  ⟨h.arr.stp k, h.deep.stp k, h.f0.stp k, h.f1.stp k, h.f2.stp k, h.f3.stp k, h.f7.stp k, h.x0.stp k, h.x1.stp k, h.x2.stp k, h.x3.stp k, h.x7.stp k⟩
theorem CkM.below {c0 ca B fnD : Nat} {capD : Array Value} {g gd : Nat} {b e : Nat → Nat} {w w' : World} (h : CkM c0 ca B fnD capD g gd b e w) (k : Below w.heap.size w w') : CkM c0 ca B fnD capD g gd b e w' :=
  ⟨h.arr.below k, h.deep.below k, h.f0.below k, h.f1.below k, h.f2.below k, h.f3.below k, h.f7.below k, h.x0.below k, h.x1.below k, h.x2.below k, h.x3.below k, h.x7.below k⟩

/-- A value that can be read, and is not too great. -/
structure VRd {d : Nat} (w : World) (v : VI (BI d)) (a1 : Option Addr) (n1 c1 : Nat) (a2 : Option Addr) (n2 c2 : Nat) (a3 : Option Addr) (n3 c3 : Nat) : Prop where
  r1 : RdL 1 UAt w (.slice a1 n1 c1) v.bits
  r2 : RdL 1 ZAt w (.slice a2 n2 c2) v.bytes
  r3 : RdL 2 (BAt d) w (.slice a3 n3 c3) v.subs
  u : ∀ n ∈ v.bits, n < 18446744073709551616
  b1 : n1 ≤ 140737488355328
  b2 : n2 ≤ 140737488355328
  b3 : n3 ≤ 140737488355328
theorem VRd.below {d : Nat} {w w' : World} {v : VI (BI d)} {a1 a2 a3 : Option Addr} {n1 c1 n2 c2 n3 c3 : Nat} (h : VRd w v a1 n1 c1 a2 n2 c2 a3 n3 c3) (hb : Below w.heap.size w w') : VRd w' v a1 n1 c1 a2 n2 c2 a3 n3 c3 :=
  ⟨h.r1.below UAt.stays hb, h.r2.below ZAt.stays hb, h.r3.below (BAt.stays d) hb, h.u, h.b1, h.b2, h.b3⟩

set_option maxHeartbeats 2000000 in
set_option maxRecDepth 100000 in
/-- Each check's contract. -/
theorem check_call {d : Nat} {c0 ca B fnD : Nat} {capD : Array Value} {g gd : Nat} {b e : Nat → Nat} {V : World} {s : Int × List Int} {x : FI} {v : VI (BI d)} {f : List UInt8 → BI d → Int} {a1 a2 a3 : Option Addr} {n1 c1 n2 c2 n3 c3 : Nat} (hck : CkM c0 ca B fnD capD g gd b e V) (hv : VRd V v a1 n1 c1 a2 n2 c2 a3 n3 c3) (hT : Tabs V) (hl : s.2.length ≤ 17592186044415)
    (hentD : ∀ (args : Array Value) (w : World), (callFunc fnD args).run Tryz.prog w = .ok (.enter fnD args) w) (hdeep : othersB x v = false → Deeper d fnD capD x.type (f x.type) v.subs V)
    (j : Nat) (p : Nat × Array Value) (hp : (ckL gd b e)[j]? = some p) (hm : Mm c0 ca B (sAt x v s j) V) (hz : ∀ i, i < j → eAt x v f s i = 0) :
    (∀ (args : Array Value) (w : World), (callFunc p.1 args).run Tryz.prog w = .ok (.enter p.1 args) w) ∧ Calls Tryz.prog p.1 (#[vFI x, .agg #[.int .i64 v.number, .slice a1 n1 c1, .slice a2 n2 c2, .slice a3 n3 c3]] ++ p.2) V fun r W' => r = .returned (.int .i64 (eAt x v f s j)) ∧ Stp c0 ca B V (sAt x v s (j + 1)) W' := by
  have H1 : Hid (n1 = v.bits.length) := hv.r1.len.1
  have H2 : Hid (n2 = v.bytes.length) := hv.r2.len.1
  have H3 : Hid (n3 = v.subs.length) := hv.r3.len.1
  have hw : ∀ (args : Array Value) (w : World), (callFunc 137 args).run Tryz.prog w = .ok (.enter 137 args) w := enters_of Tryz.func137 (by kernel_rfl) rfl
  match j, hp, hm, hz with
  | 0, hp, hm, _ =>
    cases hp
    refine ⟨hw, when_stp (s' := (v.number, s.2)) (r := decide (v.number ≤ s.1)) hm (enters_of Tryz.func138 (by kernel_rfl) rfl) hck.f0.at_ hck.x0.at_ hck.x0.lt hck.x0.n0 hck.x0.na x v fun W hW => ?_⟩
    exact rise_stp (hm.below hW) x v
  | 1, hp, hm, _ =>
    cases hp
    refine ⟨hw, when_stp (s' := (v.number, s.2)) (r := othersB x v) hm (enters_of Tryz.func93 (by kernel_rfl) rfl) hck.f1.at_ hck.x1.at_ hck.x1.lt hck.x1.n0 hck.x1.na x v fun W hW => ?_⟩
    exact (others_any x v H1 H2 H3 hv.b1 hv.b2 hv.b3).mono fun _ _ h => ⟨h.1, Stp.of_below (hm.below hW) h.2⟩
  | 2, hp, hm, _ =>
    cases hp
    refine ⟨hw, when_stp (s' := (v.number, s.2)) (r := miscB x v) hm (enters_of Tryz.func94 (by kernel_rfl) rfl) hck.f2.at_ hck.x2.at_ hck.x2.lt hck.x2.n0 hck.x2.na x v fun W hW => ?_⟩
    exact (misc_any x v H1 H2 H3 hv.b1 hv.b2 hv.b3).mono fun _ _ h => ⟨h.1, Stp.of_below (hm.below hW) h.2⟩
  | 3, hp, hm, _ =>
    cases hp
    refine ⟨hw, when_stp (s' := (v.number, s.2)) (r := withoutB x v) hm (enters_of Tryz.func72 (by kernel_rfl) rfl) hck.f3.at_ hck.x3.at_ hck.x3.lt hck.x3.n0 hck.x3.na x v fun W hW => ?_⟩
    have hv' := hv.below hW
    exact (without_any x v hv'.r1 hv'.r2 hv'.r3 hv.b1 hv.b2 hv.b3).mono fun _ _ h => ⟨h.1, Stp.of_below (hm.below hW) h.2⟩
  | 4, hp, hm, _ =>
    cases hp
    exact ⟨enters_of Tryz.func95 (by kernel_rfl) rfl, (check1_any x v hv.r1 hv.u).mono fun _ _ h => ⟨h.1, Stp.of_below hm h.2⟩⟩
  | 5, hp, hm, _ =>
    cases hp
    exact ⟨enters_of Tryz.func98 (by kernel_rfl) rfl, (check2_any x v hv.r2 hT).mono fun _ _ h => ⟨h.1, Stp.of_below hm h.2⟩⟩
  | 6, hp, hm, hz =>
    cases hp
    have ho : othersB x v = false := by
      have := hz 1 (by omega)
      cases h : othersB x v with
      | false => rfl
      | true => simp [eAt, h] at this
    exact ⟨enters_of Tryz.func102 (by kernel_rfl) rfl, (check3_any x v hv.r3 hck.deep.at_ hentD (hdeep ho)).mono fun _ _ h => ⟨h.1, Stp.of_below hm h.2⟩⟩
  | 7, hp, hm, _ =>
    cases hp
    refine ⟨hw, when_stp (s' := (v.number, takeS x s.2)) (r := decide (0 < x.choice ∧ x.choice ∈ s.2)) hm (enters_of Tryz.func140 (by kernel_rfl) rfl) hck.f7.at_ hck.x7.at_ hck.x7.lt hck.x7.n0 hck.x7.na x v fun W hW => ?_⟩
    exact taken_stp (s := (v.number, s.2)) (hm.below hW) hl x v
  | j + 8, hp, _, _ =>
    rw [List.getElem?_eq_none (by simp [ckL])] at hp
    cases hp

end L
end Go.Proofs.YtelmjekjohbmjaaGreatDoor

/- What is wrong with a value of a body, and what is remembered of it. -/
namespace Go.Proofs.YtelmjekjohbmjaaGreatDoor
namespace L
open Go.RowKit

/-- What is wrong with a value of a message that has these fields. -/
def valE {β : Type} (fs : List FI) (f : List UInt8 → β → Int) (v : VI β) (s : Int × List Int) : Int :=
  match fs.find? (fun y => decide (y.number = v.number)) with
  | none => 6
  | some x => firstN (eAt x v f s) 0 8
def nextS {β : Type} (fs : List FI) (v : VI β) (s : Int × List Int) : Int × List Int :=
  match fs.find? (fun y => decide (y.number = v.number)) with
  | none => s
  | some x => (v.number, takeS x s.2)

/-- What all of this leans on: what was there ahead of the checks. -/
structure Ctx {d : Nat} (wE : World) (c0 ca B fnD : Nat) (capD : Array Value) (g gd : Nat) (b e : Nat → Nat) (cm cl : Nat) (nm : List UInt8) (af : Option Addr) (nf cf : Nat) (ab : Option Addr) (nb cb : Nat) (fs : List FI) (f : List UInt8 → BI d → Int) (Q : BI d → Prop) (w : World) : Prop where
  below : Below wE.heap.size wE w
  e0 : wE.heap.size ≤ c0
  ea : wE.heap.size ≤ ca
  ck : CkM c0 ca B fnD capD g gd b e w
  m : Fx c0 ca B w cm #[.string (S nm), .slice af nf cf, .slice ab nb cb] 48
  l : Fx c0 ca B w cl #[.slice (some ⟨g, 0, none⟩) 8 8] 98
  fields : RdL 6 FAt wE (.slice af nf cf) fs
  tabs : Tabs wE
  entD : ∀ (args : Array Value) (w : World), (callFunc fnD args).run Tryz.prog w = .ok (.enter fnD args) w
  deeper : ∀ x ∈ fs, ∀ v : VI (BI d), (∀ s ∈ v.subs, Q s) → othersB x v = false → Deeper d fnD capD x.type (f x.type) v.subs wE
theorem Ctx.stp {d : Nat} {wE : World} {c0 ca B fnD : Nat} {capD : Array Value} {g gd : Nat} {b e : Nat → Nat} {cm cl : Nat} {nm : List UInt8} {af : Option Addr} {nf cf : Nat} {ab : Option Addr} {nb cb : Nat} {fs : List FI} {f : List UInt8 → BI d → Int} {Q : BI d → Prop} {w w' : World} {s : Int × List Int} (h : Ctx wE c0 ca B fnD capD g gd b e cm cl nm af nf cf ab nb cb fs f Q w) (k : Stp c0 ca B w s w') : Ctx wE c0 ca B fnD capD g gd b e cm cl nm af nf cf ab nb cb fs f Q w' :=
  ⟨h.below.trans (k.below h.e0 h.ea), h.e0, h.ea, h.ck.stp k, h.m.stp k, h.l.stp k, h.fields, h.tabs, h.entD, h.deeper⟩

set_option maxHeartbeats 2000000 in
set_option maxRecDepth 100000 in
theorem value_call {d : Nat} {wE : World} {c0 ca B fnD : Nat} {capD : Array Value} {g gd : Nat} {b e : Nat → Nat} {cm cl : Nat} {nm : List UInt8} {af : Option Addr} {nf cf : Nat} {ab : Option Addr} {nb cb : Nat} {fs : List FI} {f : List UInt8 → BI d → Int} {Q : BI d → Prop} {w : World} {s : Int × List Int} (hC : Ctx wE c0 ca B fnD capD g gd b e cm cl nm af nf cf ab nb cb fs f Q w) (hm : Mm c0 ca B s w) (hl : s.2.length ≤ 17592186044415)
    {v : VI (BI d)} {a1 a2 a3 : Option Addr} {n1 c1 n2 c2 n3 c3 : Nat} (hv : VRd wE v a1 n1 c1 a2 n2 c2 a3 n3 c3) (hQ : ∀ s ∈ v.subs, Q s) :
    Calls Tryz.prog 88 #[.agg #[.int .i64 v.number, .slice a1 n1 c1, .slice a2 n2 c2, .slice a3 n3 c3], .pointer (some ⟨cm, 0, none⟩), .pointer (some ⟨cl, 0, none⟩)] w
      fun r w' => r = .returned (.int .i64 (valE fs f v s)) ∧ ∃ s', Stp c0 ca B w s' w' ∧ (valE fs f v s = 0 → s' = nextS fs v s) := by
  obtain ⟨W1, HW1⟩ : ∃ W1, Hid (W1 = w.alloc (.cells #[.int .i64 v.number, .slice a1 n1 c1, .slice a2 n2 c2, .slice a3 n3 c3] 34)) := ⟨_, rfl⟩
  have hb1 : Below w.heap.size w W1 := by rw [HW1.out]; exact (Below.refl _ _).alloc (Nat.le_refl _) _
  have x1 : W1.heap[w.heap.size]? = some (.cells #[.int .i64 v.number, .slice a1 n1 c1, .slice a2 n2 c2, .slice a3 n3 c3] 34 (0, 0)) := by rw [HW1.out]; exact heap_alloc_new _ _
  have hz1 : w.heap.size + 1 ≤ W1.heap.size := by rw [HW1.out]; simp
  have hE1 : Below wE.heap.size wE W1 := hC.below.trans (hb1.mono hC.below.size)
  have hfd := field_any (hC.fields.below FAt.stays hE1) ⟨ab, nb, cb, rfl⟩ ⟨nm, rfl⟩ v.number
  have m0 : w.cell? ⟨cm, 0, none⟩ = some (.string (S nm)) := cell_of_blk hC.m.at_ 0 _ rfl
  have m1 : w.cell? ⟨cm, 1, none⟩ = some (.slice af nf cf) := cell_of_blk hC.m.at_ 1 _ rfl
  have m2 : w.cell? ⟨cm, 2, none⟩ = some (.slice ab nb cb) := cell_of_blk hC.m.at_ 2 _ rfl
  have hcml := (Array.getElem?_eq_some_iff.1 hC.m.at_).1
  have hcll := (Array.getElem?_eq_some_iff.1 hC.l.at_).1
  rcases firstI_cases (fun y : FI => decide (y.number = v.number)) fs with ⟨h1, h2⟩ | ⟨k, x, h1, h2, h3, h4⟩
  · have HR : Hid (valE fs f v s = 6) := by show _ = _; unfold valE; rw [h2]
    rw [HR.out]
    rw [h1] at hfd
    clear h1 h2
    go_enter Tryz.func88, Tryz.ntmps88
    go_wp2_with fail
    rw [← HW1.out]
    refine hfd.mono ?_
    rintro r w2 ⟨rfl, hb2⟩
    go_wp2
    go_ret
    refine ⟨rfl, s, Stp.of_below hm (hb1.trans ((hb2.mono hb1.size).alloc (Nat.le_trans hb1.size hb2.size) _)), fun h => by cases h⟩
  · have HR : Hid (valE fs f v s = firstN (eAt x v f s) 0 8) := by show _ = _; unfold valE; rw [h3]
    have HN : Hid (nextS fs v s = sAt x v s 8) := by show _ = _; unfold nextS; rw [h3]; rfl
    rw [HR.out, HN.out]
    rw [h1] at hfd
    have hx : x ∈ fs := List.mem_of_getElem? h2
    have HK : Hid (fs[k]? = some x) := h2
    clear h1 h2 h3 h4
    go_enter Tryz.func88, Tryz.ntmps88
    go_wp2_with fail
    rw [← HW1.out]
    refine hfd.mono ?_
    rintro r w2 ⟨rfl, hb2⟩
    obtain ⟨W3, HW3⟩ : ∃ W3, Hid (W3 = w2.alloc (.cells #[.int .i64 (k : Int)] 3)) := ⟨_, rfl⟩
    have hb23 : Below w2.heap.size w2 W3 := by rw [HW3.out]; exact (Below.refl _ _).alloc (Nat.le_refl _) _
    have hb13 : Below W1.heap.size W1 W3 := hb2.trans (hb23.mono hb2.size)
    have hb3 : Below w.heap.size w W3 := hb1.trans (hb13.mono hb1.size)
    have x3 : W3.heap[w2.heap.size]? = some (.cells #[.int .i64 (k : Int)] 3 (0, 0)) := by rw [HW3.out]; exact heap_alloc_new _ _
    have y3 : W3.heap[w.heap.size]? = some (.cells #[.int .i64 v.number, .slice a1 n1 c1, .slice a2 n2 c2, .slice a3 n3 c3] 34 (0, 0)) := (hb13.block _ (by omega)).trans x1
    have hs3 := Stp.of_below hm hb3
    have hC3 := hC.stp hs3
    have hw2 : w.heap.size ≤ w2.heap.size := Nat.le_trans hb1.size hb2.size
    have hloop := checks_loop (g := g) (cm := cm) (ct := w2.heap.size) (cv := w.heap.size) (ckL gd b e) (sAt x v s) (eAt x v f s) (by simp [ckL]) hs3.mm (w := W3)
      (fun s' W hS j p hp => by
        have := (hC3.stp hS).ck.arr.at_
        refine cell_of_blk this j _ ?_
        rw [List.getElem?_toArray, List.getElem?_map, hp]
        rfl)
      (fun j p W hp hS hz => by
        have hCW := hC3.stp hS
        have hD : Below W.heap.size W W.drew := (Below.refl _ _).drew
        have hSD := Stp.of_below hS.mm hD
        have hEW : Below wE.heap.size wE W.drew := hCW.below.trans (hD.mono hCW.below.size)
        obtain ⟨hent, hcall⟩ := check_call (hCW.ck.below hD) (hv.below hEW) (hC.tabs.below hEW) hl hC.entD (fun ho => (hC.deeper x hx v hQ ho).below hEW) j p hp hSD.mm hz
        exact hand_call (post := fun w' => Stp c0 ca B W (sAt x v s (j + 1)) w') hCW.m.at_ (Stp.block' hm hb3 hS x3 hw2) (Stp.block' hm hb3 hS y3 (Nat.le_refl _)) (hC.fields.below FAt.stays hCW.below) HK.out hent (hcall.mono fun _ _ h => ⟨h.1, hSD.trans h.2⟩))
    have k3 : W3.cell? ⟨cl, 0, none⟩ = some (.slice (some ⟨g, 0, none⟩) 8 8) := cell_of_blk hC3.l.at_ 0 _ rfl
    have q3 : W3.cell? ⟨w2.heap.size, 0, none⟩ = some (.int .i64 (k : Int)) := cell_of_blk x3 0 _ rfl
    have hlen : (ckL gd b e).length = 8 := rfl
    rw [hlen] at hloop
    have hk0 : ¬ ((k : Int) < 0) := by omega
    have hmf := makeF
    rw [HW3.out] at k3 q3
    clear hfd hC hC3 hv x1 x3 y3
    go_wp2_with fail
    rw [← HW3.out]
    refine hloop.mono ?_
    rintro r w4 ⟨rfl, s', hS4, hN4⟩
    go_wp2
    go_ret
    exact ⟨rfl, s', hs3.trans hS4, hN4⟩

end L
end Go.Proofs.YtelmjekjohbmjaaGreatDoor

/- What is wrong first with the values of a body. -/
namespace Go.Proofs.YtelmjekjohbmjaaGreatDoor
namespace L
open Go.RowKit

def valsE {β : Type} (fs : List FI) (f : List UInt8 → β → Int) : List (VI β) → Int × List Int → Int
  | [], _ => 0
  | v :: l, s => if valE fs f v s = 0 then valsE fs f l (nextS fs v s) else valE fs f v s
theorem valsE_at {β : Type} {fs : List FI} {f : List UInt8 → β → Int} {l : List (VI β)} {k : Nat} {v : VI β} (h : l[k]? = some v) (s : Int × List Int) : valsE fs f (l.drop k) s = if valE fs f v s = 0 then valsE fs f (l.drop (k + 1)) (nextS fs v s) else valE fs f v s := by
  obtain ⟨hk, e⟩ := List.getElem?_eq_some_iff.1 h
  rw [List.drop_eq_getElem_cons hk, e, valsE]
theorem nextS_len {β : Type} (fs : List FI) (v : VI β) (s : Int × List Int) : (nextS fs v s).2.length ≤ s.2.length + 1 := by
  unfold nextS
  split
  · omega
  · unfold takeS
    split <;> simp

set_option maxHeartbeats 2000000 in
set_option maxRecDepth 100000 in
theorem vals_any {d : Nat} {wE : World} {c0 ca B fnD : Nat} {capD : Array Value} {g gd : Nat} {b e : Nat → Nat} {cm cl : Nat} {nm : List UInt8} {af : Option Addr} {nf cf : Nat} {ab : Option Addr} {nb cb : Nat} {fs : List FI} {f : List UInt8 → BI d → Int} {Q : BI d → Prop} {w : World} {s : Int × List Int} (hC : Ctx wE c0 ca B fnD capD g gd b e cm cl nm af nf cf ab nb cb fs f Q w) (hm : Mm c0 ca B s w) (hs0 : s.2 = [])
    {l : List (VI (BI d))} {vl : Value} (h : RdL 4 (VAt (BAt d)) wE vl l) (hV : ∀ v ∈ l, VOk Q v) (hlen : l.length * 80 ≤ reachBytes) :
    Calls Tryz.prog 87 #[vl, .func (.func 88) #[] #[.pointer (some ⟨cm, 0, none⟩), .pointer (some ⟨cl, 0, none⟩)]] w
      fun r w' => r = .returned (.int .i64 (valsE fs f l s)) ∧ ∃ s', Stp c0 ca B w s' w' := by
  obtain ⟨ao, n, cap, rfl, Hn, hcap⟩ := h.shape
  have hn : n * 80 ≤ reachBytes := by rw [Hn.out]; exact hlen
  unfold reachBytes at hn
  obtain ⟨R, HR⟩ : ∃ R, Hid (R = valsE fs f l s) := ⟨_, rfl⟩
  rw [← HR.out]
  have hS0 : s.2.length ≤ 0 := by rw [hs0]; simp
  go_enter Tryz.func87, Tryz.ntmps87
  go_wp2_with fail
  go_loopg [10] n (fun m i wr => ∃ (k : Nat) (s' : Int × List Int), k + m = n ∧ i = .int .i64 k ∧ Hid (R = valsE fs f (l.drop k) s') ∧ s'.2.length ≤ k ∧ Stp c0 ca B w s' wr)
  case atStart => exact ⟨0, s, by omega, rfl, HR, hS0, Stp.refl hm⟩
  case round =>
    obtain ⟨k, s', hk, rfl, HK, hsk, hS⟩ := hrel
    have hCr := hC.stp hS
    by_cases hlt : k < n
    · obtain ⟨v, Ha⟩ : ∃ v, Hid (l[k]? = some v) := ⟨l[k]'(by rw [← Hn.out]; exact hlt), List.getElem?_eq_getElem (by rw [← Hn.out]; exact hlt)⟩
      obtain ⟨bb, off, rfl, hat⟩ := h.get VAt.plain Ha.out
      obtain ⟨v1, v2, v3, t0, t1, t2, t3, r1, r2, r3⟩ := hat.at
      obtain ⟨a1, n1, c1, rfl, H1, _⟩ := r1.shape
      obtain ⟨a2, n2, c2, rfl, H2, _⟩ := r2.shape
      obtain ⟨a3, n3, c3, rfl, H3, _⟩ := r3.shape
      obtain ⟨_, hu, hb1, _, hb2, hq, hb3⟩ := hV v (mem_at Ha.out)
      unfold reachBytes at hb1 hb2 hb3
      have hv : VRd wE v a1 n1 c1 a2 n2 c2 a3 n3 c3 := ⟨r1, r2, r3, hu, by rw [H1.out]; omega, by rw [H2.out]; omega, by rw [H3.out]; omega⟩
      have u0 := cell_below hCr.below t0
      have u1 := cell_below hCr.below t1
      have u2 := cell_below hCr.below t2
      have u3 := cell_below hCr.below t3
      have hki : (k : Int) < (n : Int) := by omega
      obtain ⟨W1, HW1⟩ : ∃ W1, Hid (W1 = wr.alloc (.cells #[.int .i64 v.number, .slice a1 n1 c1, .slice a2 n2 c2, .slice a3 n3 c3] 34)) := ⟨_, rfl⟩
      have hb1' : Below wr.heap.size wr W1 := by rw [HW1.out]; exact (Below.refl _ _).alloc (Nat.le_refl _) _
      have hS1 := Stp.of_below hS.mm hb1'
      have hcall := value_call (hCr.stp hS1) hS1.mm (by omega) hv hq
      have hst := valsE_at (fs := fs) (f := f) Ha.out s'
      have hnx := nextS_len fs v s'
      obtain ⟨F, HF⟩ : ∃ F, Hid (F = valE fs f v s') := ⟨_, rfl⟩
      rw [← HF.out] at hcall hst
      clear hC hCr hv r1 r2 r3 t0 t1 t2 t3 hat h hV hu hq
      by_cases hz : F = 0
      · have HX : Hid (R = valsE fs f (l.drop (k + 1)) (nextS fs v s')) := by
          show _ = _
          rw [HK.out, hst, if_pos hz]
        have ez : (F != 0) = false := by simp [hz]
        have HZ : Hid (F = 0) := hz
        clear hst hz
        go_wp2_with fail
        rw [← HW1.out]
        refine hcall.mono ?_
        rintro r w2 ⟨rfl, s2, hS2, hN2⟩
        go_wp2_with fail
        go_roundg (n - (k + 1))
        case measure => omega
        case rel =>
          obtain rfl := hN2 HZ.out
          exact ⟨k + 1, _, by omega, by go_num, HX, by omega, (hS.trans hS1).trans hS2⟩
      · have HX : Hid (R = F) := by
          show _ = _
          rw [HK.out, hst, if_neg hz]
        have ez : (F != 0) = true := by simpa using hz
        clear hst hz
        go_wp2_with fail
        rw [← HW1.out]
        refine hcall.mono ?_
        rintro r w2 ⟨rfl, s2, hS2, hN2⟩
        go_wp2
        go_ret
        exact ⟨by rw [HX.out]; rfl, _, (hS.trans hS1).trans hS2⟩
    · have HX : Hid (R = 0) := by
        show _ = _
        rw [HK.out, List.drop_of_length_le (by rw [← Hn.out]; omega)]
        rfl
      go_wp2
      go_ret
      exact ⟨by rw [HX.out]; rfl, _, hS⟩

end L
end Go.Proofs.YtelmjekjohbmjaaGreatDoor

/- The checks as they are made: their memory. -/
namespace Go.Proofs.YtelmjekjohbmjaaGreatDoor
namespace L
open Go.RowKit

set_option maxHeartbeats 400000 in
set_option maxRecDepth 100000 in
theorem when_new (err : Int) (fn : Nat) (cap : Array Value) (w : World) :
    Calls Tryz.prog 91 #[.int .i64 err, .func (.func fn) #[] cap] w fun r w' => r = .returned (.func (.func 137) #[] #[pt (w.heap.size + 1), pt w.heap.size]) ∧ Below w.heap.size w w' ∧ Hid (w'.heap.size = w.heap.size + 2) ∧ w'.heap[w.heap.size]? = some (.cells #[.int .i64 err] 36 (0, 0)) ∧ w'.heap[w.heap.size + 1]? = some (.cells #[.func (.func fn) #[] cap] 119 (0, 0)) := by
  have hmf := makeF
  go_enter Tryz.func91, Tryz.ntmps91
  go_wp2
  go_ret
  exact ⟨by simp [pt], ((Below.refl _ _).alloc (Nat.le_refl _) _).alloc (by simp) _, (show Hid _ by show _ = _; simp), alloc2_old _ _ _, alloc2_new _ _ _⟩
set_option maxHeartbeats 400000 in
set_option maxRecDepth 100000 in
theorem rise_new (w : World) :
    Calls Tryz.prog 92 #[] w fun r w' => r = .returned (.func (.func 138) #[] #[pt w.heap.size]) ∧ Below w.heap.size w w' ∧ Hid (w'.heap.size = w.heap.size + 1) ∧ w'.heap[w.heap.size]? = some (.cells #[.int .i64 0] 3 (0, 0)) := by
  have hmf := makeF
  go_enter Tryz.func92, Tryz.ntmps92
  go_wp2
  go_ret
  exact ⟨by simp [pt], (Below.refl _ _).alloc (Nat.le_refl _) _, (show Hid _ by show _ = _; simp), heap_alloc_new _ _⟩
set_option maxHeartbeats 400000 in
set_option maxRecDepth 100000 in
theorem taken_new (w : World) :
    Calls Tryz.prog 104 #[] w fun r w' => r = .returned (.func (.func 140) #[] #[pt w.heap.size]) ∧ Below w.heap.size w w' ∧ Hid (w'.heap.size = w.heap.size + 1) ∧ w'.heap[w.heap.size]? = some (.cells #[.slice none 0 0] 46 (0, 0)) := by
  have hmf := makeF
  go_enter Tryz.func104, Tryz.ntmps104
  go_wp2
  go_ret
  exact ⟨by simp [pt], (Below.refl _ _).alloc (Nat.le_refl _) _, (show Hid _ by show _ = _; simp), heap_alloc_new _ _⟩

/-- Where the checks' functions, and their errors, lie: behind block N. -/
def bF (N : Nat) : Nat → Nat
  | 0 => N + 3
  | 1 => N + 5
  | 2 => N + 7
  | 3 => N + 9
  | _ => N + 12
def eF (N : Nat) : Nat → Nat
  | 0 => N + 2
  | 1 => N + 4
  | 2 => N + 6
  | 3 => N + 8
  | _ => N + 11
theorem Fx.mono {c0 ca B B' : Nat} {w : World} {k : Nat} {xs : Array Value} {t : TypeId} (h : Fx c0 ca B w k xs t) (hB : B ≤ B') : Fx c0 ca B' w k xs t := ⟨h.at_, Nat.lt_of_lt_of_le h.lt hB, h.n0, h.na⟩
theorem CkM.mono {c0 ca B B' fnD : Nat} {capD : Array Value} {g gd : Nat} {b e : Nat → Nat} {w : World} (h : CkM c0 ca B fnD capD g gd b e w) (k : B ≤ B') : CkM c0 ca B' fnD capD g gd b e w :=
  ⟨h.arr.mono k, h.deep.mono k, h.f0.mono k, h.f1.mono k, h.f2.mono k, h.f3.mono k, h.f7.mono k, h.x0.mono k, h.x1.mono k, h.x2.mono k, h.x3.mono k, h.x7.mono k⟩

set_option maxHeartbeats 2000000 in
set_option maxRecDepth 100000 in
theorem checks_any (fnD : Nat) (capD : Array Value) (w : World) :
    Calls Tryz.prog 54 #[.func (.func fnD) #[] capD] w fun r w' => r = .returned (.slice (some ⟨w.heap.size + 13, 0, none⟩) 8 8) ∧ Below w.heap.size w w' ∧ Hid (w'.heap.size = w.heap.size + 14) ∧ CkM (w.heap.size + 1) (w.heap.size + 10) (w.heap.size + 14) fnD capD (w.heap.size + 13) w.heap.size (bF w.heap.size) (eF w.heap.size) w' ∧ w'.heap[w.heap.size + 1]? = some (.cells #[.int .i64 0] 3 (0, 0)) ∧ w'.heap[w.heap.size + 10]? = some (.cells #[.slice none 0 0] 46 (0, 0)) := by
  obtain ⟨N, HN⟩ : ∃ N, Hid (N = w.heap.size) := ⟨_, rfl⟩
  obtain ⟨W0, HW0⟩ : ∃ W0, Hid (W0 = w.alloc (.cells #[.func (.func fnD) #[] capD] 96)) := ⟨_, rfl⟩
  have B0 : Below w.heap.size w W0 := by rw [HW0.out]; exact (Below.refl _ _).alloc (Nat.le_refl _) _
  have Z0 : Hid (W0.heap.size = N + 1) := by show _ = _; rw [HW0.out, HN.out]; simp
  have y0 : W0.heap[N]? = some (.cells #[.func (.func fnD) #[] capD] 96 (0, 0)) := by rw [HW0.out, HN.out]; exact heap_alloc_new _ _
  have hmf := makeF
  rw [← HN.out]
  have k1 := rise_new W0
  rw [Z0.out] at k1
  go_enter Tryz.func54, Tryz.ntmps54
  go_wp2_with fail
  rw [← HW0.out]
  refine k1.mono ?_
  rintro r W1 ⟨rfl, B1, Z1, y1⟩
  have k2 := when_new 2 138 #[pt (N + 1)] W1
  rw [Z1.out] at k2
  go_wp2_with fail
  refine k2.mono ?_
  rintro r W2 ⟨rfl, B2, Z2, y2, y3⟩
  have k3 := when_new 8 93 #[] W2
  rw [Z2.out] at k3
  go_wp2_with fail
  refine k3.mono ?_
  rintro r W3 ⟨rfl, B3, Z3, y4, y5⟩
  have k4 := when_new 5 94 #[] W3
  rw [Z3.out] at k4
  go_wp2_with fail
  refine k4.mono ?_
  rintro r W4 ⟨rfl, B4, Z4, y6, y7⟩
  have k5 := when_new 2 72 #[] W4
  rw [Z4.out] at k5
  go_wp2_with fail
  refine k5.mono ?_
  rintro r W5 ⟨rfl, B5, Z5, y8, y9⟩
  have k6 := taken_new W5
  rw [Z5.out] at k6
  go_wp2_with fail
  refine k6.mono ?_
  rintro r W6 ⟨rfl, B6, Z6, y10⟩
  have k7 := when_new 8 140 #[pt (N + 10)] W6
  rw [Z6.out] at k7
  go_wp2_with fail
  refine k7.mono ?_
  rintro r W7 ⟨rfl, B7, Z7, y11, y12⟩
  obtain ⟨W8, HW8⟩ : ∃ W8, Hid (W8 = W7.alloc (.cells ((ckL N (bF N) (eF N)).map ckV).toArray 138)) := ⟨_, rfl⟩
  have B8 : Below W7.heap.size W7 W8 := by rw [HW8.out]; exact (Below.refl _ _).alloc (Nat.le_refl _) _
  have y13 : W8.heap[N + 13]? = some (.cells ((ckL N (bF N) (eF N)).map ckV).toArray 138 (0, 0)) := by rw [HW8.out, show N + 13 = W7.heap.size by rw [Z7.out]]; exact heap_alloc_new _ _
  have Z8 : Hid (W8.heap.size = N + 14) := by show _ = _; rw [HW8.out]; simp [Z7.out]
  go_wp2
  go_ret
  have z1 := Z1.out; have z2 := Z2.out; have z3 := Z3.out; have z4 := Z4.out; have z5 := Z5.out; have z6 := Z6.out; have z7 := Z7.out; have z8 := Z8.out; have z0 := Z0.out; have hn := HN.out
  have A8 : Below (N + 13) W7 W8 := B8.mono (by omega)
  have A7 : Below (N + 11) W6 W8 := (B7.mono (by omega)).trans (A8.mono (by omega))
  have A6 : Below (N + 10) W5 W8 := (B6.mono (by omega)).trans (A7.mono (by omega))
  have A5 : Below (N + 8) W4 W8 := (B5.mono (by omega)).trans (A6.mono (by omega))
  have A4 : Below (N + 6) W3 W8 := (B4.mono (by omega)).trans (A5.mono (by omega))
  have A3 : Below (N + 4) W2 W8 := (B3.mono (by omega)).trans (A4.mono (by omega))
  have A2 : Below (N + 2) W1 W8 := (B2.mono (by omega)).trans (A3.mono (by omega))
  have A1 : Below (N + 1) W0 W8 := (B1.mono (by omega)).trans (A2.mono (by omega))
  have A0 : Below N w W8 := (B0.mono (by omega)).trans (A1.mono (by omega))
  have fin : ∀ W, W = W8 → Below N w W ∧ Hid (W.heap.size = N + 14) ∧ CkM (N + 1) (N + 10) (N + 14) fnD capD (N + 13) N (bF N) (eF N) W ∧ W.heap[N + 1]? = some (.cells #[.int .i64 0] 3 (0, 0)) ∧ W.heap[N + 10]? = some (.cells #[.slice none 0 0] 46 (0, 0)) := by
    rintro W rfl
    refine ⟨A0, Z8, ⟨⟨y13, by omega, by omega, by omega⟩, ⟨(A1.block N (by omega)).trans y0, by omega, by omega, by omega⟩, ⟨(A3.block (N + 3) (by omega)).trans y3, ?_, ?_, ?_⟩, ⟨(A4.block (N + 5) (by omega)).trans y5, ?_, ?_, ?_⟩, ⟨(A5.block (N + 7) (by omega)).trans y7, ?_, ?_, ?_⟩, ⟨(A6.block (N + 9) (by omega)).trans y9, ?_, ?_, ?_⟩, ⟨(A8.block (N + 12) (by omega)).trans y12, ?_, ?_, ?_⟩, ⟨(A3.block (N + 2) (by omega)).trans y2, ?_, ?_, ?_⟩, ⟨(A4.block (N + 4) (by omega)).trans y4, ?_, ?_, ?_⟩, ⟨(A5.block (N + 6) (by omega)).trans y6, ?_, ?_, ?_⟩, ⟨(A6.block (N + 8) (by omega)).trans y8, ?_, ?_, ?_⟩, ⟨(A8.block (N + 11) (by omega)).trans y11, ?_, ?_, ?_⟩⟩, (A2.block (N + 1) (by omega)).trans y1, (A7.block (N + 10) (by omega)).trans y10⟩
    all_goals (simp only [bF, eF]; omega)
  exact ⟨by rw [z7]; rfl, fin _ (by rw [HW8.out, ← HN.out]; rfl)⟩

end L
end Go.Proofs.YtelmjekjohbmjaaGreatDoor

