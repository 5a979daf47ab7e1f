/- The contracts of again and of the functions that it makes. -/
import Derived.Test.YtenlijgnmhdopaaGreatDoorLCont
namespace Go.Proofs.YtenlijgnmhdopaaGreatDoor
namespace L
open Go.RowKit

/-- Of what was there nothing but block c, and the list of that block, has turned. -/
structure Upd (c : Nat) (row : Option Nat) (w w' : World) : Prop where
  os : w'.os = w.os
  tape : w'.tape = w.tape
  output : w'.output = w.output
  size : w.heap.size ≤ w'.heap.size
  block : ∀ k, k < w.heap.size → k ≠ c → row ≠ some k → w'.heap[k]? = w.heap[k]?
theorem Upd.refl (c : Nat) (row : Option Nat) (w : World) : Upd c row w w := ⟨rfl, rfl, rfl, Nat.le_refl _, fun _ _ _ _ => rfl⟩
theorem Upd.below {c B : Nat} {row : Option Nat} {w w' : World} (h : Upd c row w w') (hc : B ≤ c) (hr : ∀ k, row = some k → B ≤ k) (hB : B ≤ w.heap.size) : Below B w w' :=
  ⟨h.os, h.tape, h.output, h.size, fun k hk => h.block k (by omega) (by omega) (fun e => by have := hr k e; omega)⟩
theorem Upd.of_below {c : Nat} {row : Option Nat} {w w' : World} (h : Below w.heap.size w w') : Upd c row w w' := ⟨h.os, h.tape, h.output, h.size, fun k hk _ _ => h.block k hk⟩
theorem Row.upd {α : Type} {E : EK α} {w w' : World} {B c : Nat} {row : Option Nat} {v : Value} {l : List α} (h : Row E w B v l) (hu : Upd c row w w') (hc : c < B) (hr : v.ownBlock = none ∨ v.ownBlock ≠ row) : Row E w' B v l := by
  refine ⟨h.1, ?_⟩
  rcases h.2 with hn | ⟨g, cap, cur, hv, hbg, hg, r⟩
  · exact .inl hn
  · refine .inr ⟨g, cap, cur, hv, hbg, ?_, r⟩
    have hgl := (Array.getElem?_eq_some_iff.1 hg).1
    rw [hu.block g hgl (by omega) ?_]
    · exact hg
    · intro e
      rcases hr with hr | hr
      · rw [hv] at hr; simp [Value.ownBlock] at hr
      · apply hr; rw [hv, e]; rfl

theorem Row.shape' {α : Type} {E : EK α} {w : World} {B : Nat} {v : Value} {l : List α} (h : Row E w B v l) : ∃ ao n cap, v = .slice ao n cap ∧ Hid (n = l.length) := by
  obtain ⟨ao, cap, e⟩ := h.shape
  exact ⟨ao, l.length, cap, e, rfl⟩

theorem makeF (fn : Fn) (first cap : Array Value) (w : World) : (Instr.makeFunc fn first cap).run Tryz.prog w = .ok (.func fn first cap) w := rfl

theorem againS_new (w : World) : Calls Tryz.prog 30 #[] w fun e w' => e = .returned (.func (.func 47) #[] #[.pointer (some ⟨w.heap.size, 0, none⟩)]) ∧ w.alloc (.cells #[.slice none 0 0] 54) = w' := by
  have hmf := makeF
  go_enter Tryz.func30, Tryz.ntmps30
  go_wp2
  go_ret
  exact ⟨rfl, rfl⟩
theorem againN_new (w : World) : Calls Tryz.prog 52 #[] w fun e w' => e = .returned (.func (.func 81) #[] #[.pointer (some ⟨w.heap.size, 0, none⟩)]) ∧ w.alloc (.cells #[.slice none 0 0] 35) = w' := by
  have hmf := makeF
  go_enter Tryz.func52, Tryz.ntmps52
  go_wp2
  go_ret
  exact ⟨rfl, rfl⟩

def addL {α : Type} [DecidableEq α] (x : α) (l : List α) : List α := if x ∈ l then l else l ++ [x]

set_option maxHeartbeats 1000000 in
set_option maxRecDepth 100000 in
theorem againS_call {w : World} {c B : Nat} {v : Value} {l : List (List UInt8)} (hc : w.heap[c]? = some (.cells #[v] 54 (0, 0))) (hr : Row ekS w B v l) (hcB : c < B) (hB : B ≤ w.heap.size) (hl : l.length ≤ 1000) (x : List UInt8) :
    Calls Tryz.prog 47 #[.string (S x), .pointer (some ⟨c, 0, none⟩)] w fun e w' => e = .returned (.bool (decide (x ∈ l))) ∧ ∃ v', w'.heap[c]? = some (.cells #[v'] 54 (0, 0)) ∧ Row ekS w' B v' (addL x l) ∧ Upd c v.ownBlock w w' := by
  obtain ⟨ao, n, cap, rfl, Hn⟩ := hr.shape'
  have c0 := cell_of_blk hc 0 _ rfl
  have f0 := fr_of_blk hc 0
  have hct := containsS_any hr.rdS x
  obtain ⟨q, Hq⟩ : ∃ q, Hid (q = decide (x ∈ l)) := ⟨_, rfl⟩
  rw [← Hq.out] at hct ⊢
  cases q with
  | true =>
    have HA : Hid (addL x l = l) := by show _ = _; have := Hq.out; simp at this; simp [addL, this]
    go_enter Tryz.func47, Tryz.ntmps47
    go_wp2_with fail
    refine hct.mono ?_
    rintro e w1 ⟨rfl, rfl⟩
    go_wp2
    go_ret
    exact ⟨rfl, _, hc, by rw [HA.out]; exact hr, Upd.refl _ _ _⟩
  | false =>
    have HA : Hid (addL x l = l ++ [x]) := by show _ = _; have := Hq.out; simp at this; simp [addL, this]
    have hone : Row ekS (w.alloc (.cells #[.string (S x)] 9)) B (.slice (some ⟨w.heap.size, 0, none⟩) 1 1) [x] := Row.one ekS w x hB
    have hba := (Below.refl w.heap.size w).alloc (Nat.le_refl _) (.cells #[.string (S x)] 9)
    have hr4 := hr.below hba
    have hc4 := (hba.block c (by omega)).trans hc
    go_enter Tryz.func47, Tryz.ntmps47
    go_wp2_with fail
    refine hct.mono ?_
    rintro e w1 ⟨rfl, rfl⟩
    go_wp2_with (at_builtin; refine wpList_app rfl ekS _ _ rfl B _ l [x] rfl hr4 B _ rfl hone ?e1 ?e2 ?_)
    case e1 => simp; omega
    case e2 => simp; omega
    intro v5 w5 hr5 hg5
    have hown := hr4.own
    have hc5 := (hg5.block c (Array.getElem?_eq_some_iff.1 hc4).1 (fun hh => by have := (hown c hh.symm).1; omega)).trans hc4
    have k0 := cell_of_blk hc5 0 _ rfl
    have k1 := fr_of_blk hc5 0
    obtain ⟨a5, n5, cap5, rfl, Hn5⟩ := hr5.shape'
    go_wp2
    go_ret
    refine ⟨rfl, _, heap_setCell_same _ _ 0 _ _ _ hc5, ?_, ?_⟩
    · rw [HA.out]
      exact hr5.other (fun hh => by have := (hr5.own c hh).1; omega) 0 _
    · refine ⟨hg5.os.trans hba.os, hg5.tape.trans hba.tape, hg5.output.trans hba.output, Nat.le_trans hba.size (Nat.le_trans hg5.size (by simp [World.setCell])), fun k hk hkc hkr => ?_⟩
      rw [Below.heap_setCell _ _ _ _ (show k ≠ c from hkc), hg5.block k (by simp; omega) (fun e => hkr e.symm), hba.block k hk]

set_option maxHeartbeats 1000000 in
set_option maxRecDepth 100000 in
theorem againN_call {w : World} {c B : Nat} {v : Value} {l : List Int} (hc : w.heap[c]? = some (.cells #[v] 35 (0, 0))) (hr : Row ekN w B v l) (hcB : c < B) (hB : B ≤ w.heap.size) (hl : l.length ≤ 1000) (x : Int) :
    Calls Tryz.prog 81 #[.int .i64 x, .pointer (some ⟨c, 0, none⟩)] w fun e w' => e = .returned (.bool (decide (x ∈ l))) ∧ ∃ v', w'.heap[c]? = some (.cells #[v'] 35 (0, 0)) ∧ Row ekN w' B v' (addL x l) ∧ Upd c v.ownBlock w w' := by
  obtain ⟨ao, n, cap, rfl, Hn⟩ := hr.shape'
  have c0 := cell_of_blk hc 0 _ rfl
  have f0 := fr_of_blk hc 0
  have hct := containsN_any hr.rdN x
  obtain ⟨q, Hq⟩ : ∃ q, Hid (q = decide (x ∈ l)) := ⟨_, rfl⟩
  rw [← Hq.out] at hct ⊢
  cases q with
  | true =>
    have HA : Hid (addL x l = l) := by show _ = _; have := Hq.out; simp at this; simp [addL, this]
    go_enter Tryz.func81, Tryz.ntmps81
    go_wp2_with fail
    refine hct.mono ?_
    rintro e w1 ⟨rfl, rfl⟩
    go_wp2
    go_ret
    exact ⟨rfl, _, hc, by rw [HA.out]; exact hr, Upd.refl _ _ _⟩
  | false =>
    have HA : Hid (addL x l = l ++ [x]) := by show _ = _; have := Hq.out; simp at this; simp [addL, this]
    have hone : Row ekN (w.alloc (.cells #[.int .i64 x] 3)) B (.slice (some ⟨w.heap.size, 0, none⟩) 1 1) [x] := Row.one ekN w x hB
    have hba := (Below.refl w.heap.size w).alloc (Nat.le_refl _) (.cells #[.int .i64 x] 3)
    have hr4 := hr.below hba
    have hc4 := (hba.block c (by omega)).trans hc
    go_enter Tryz.func81, Tryz.ntmps81
    go_wp2_with fail
    refine hct.mono ?_
    rintro e w1 ⟨rfl, rfl⟩
    go_wp2_with (at_builtin; refine wpList_app rfl ekN _ _ rfl B _ l [x] rfl hr4 B _ rfl hone ?e1 ?e2 ?_)
    case e1 => simp; omega
    case e2 => simp; omega
    intro v5 w5 hr5 hg5
    have hown := hr4.own
    have hc5 := (hg5.block c (Array.getElem?_eq_some_iff.1 hc4).1 (fun hh => by have := (hown c hh.symm).1; omega)).trans hc4
    have k0 := cell_of_blk hc5 0 _ rfl
    have k1 := fr_of_blk hc5 0
    obtain ⟨a5, n5, cap5, rfl, Hn5⟩ := hr5.shape'
    go_wp2
    go_ret
    refine ⟨rfl, _, heap_setCell_same _ _ 0 _ _ _ hc5, ?_, ?_⟩
    · rw [HA.out]
      exact hr5.other (fun hh => by have := (hr5.own c hh).1; omega) 0 _
    · refine ⟨hg5.os.trans hba.os, hg5.tape.trans hba.tape, hg5.output.trans hba.output, Nat.le_trans hba.size (Nat.le_trans hg5.size (by simp [World.setCell])), fun k hk hkc hkr => ?_⟩
      rw [Below.heap_setCell _ _ _ _ (show k ≠ c from hkc), hg5.block k (by simp; omega) (fun e => hkr e.symm), hba.block k hk]

/-- A choice that can't stand there; what is remembered. -/
def misB (last begun ch : Int) : Bool := decide (ch ≠ 0) && (decide (ch ≠ last) && decide (ch ≠ begun + 1))
theorem mis_new (w : World) : Calls Tryz.prog 53 #[] w fun e w' => e = .returned (.func (.func 82) #[] #[.pointer (some ⟨w.heap.size, 0, none⟩), .pointer (some ⟨w.heap.size + 1, 0, none⟩)]) ∧ (w.alloc (.cells #[.int .i64 0] 3)).alloc (.cells #[.int .i64 0] 3) = w' := by
  have hmf := makeF
  go_enter Tryz.func53, Tryz.ntmps53
  go_wp2
  go_ret
  exact ⟨rfl, rfl⟩
theorem mis_fin {w : World} {c d : Nat} {a b : Value} {t : TypeId} (hc : w.heap[c]? = some (.cells #[a] t (0, 0))) (hd : w.heap[d]? = some (.cells #[b] t (0, 0))) (hcd : c ≠ d) (x y : Value) :
    ((w.setCell ⟨c, 0, none⟩ x).setCell ⟨d, 0, none⟩ y).drew.heap[c]? = some (.cells #[x] t (0, 0)) ∧ ((w.setCell ⟨c, 0, none⟩ x).setCell ⟨d, 0, none⟩ y).drew.heap[d]? = some (.cells #[y] t (0, 0)) ∧ (∀ k, ¬ k = c → ¬ k = d → ((w.setCell ⟨c, 0, none⟩ x).setCell ⟨d, 0, none⟩ y).drew.heap[k]? = w.heap[k]?) ∧ ((w.setCell ⟨c, 0, none⟩ x).setCell ⟨d, 0, none⟩ y).drew.heap.size = w.heap.size ∧ ((w.setCell ⟨c, 0, none⟩ x).setCell ⟨d, 0, none⟩ y).drew.os = w.os ∧ ((w.setCell ⟨c, 0, none⟩ x).setCell ⟨d, 0, none⟩ y).drew.tape = w.tape ∧ ((w.setCell ⟨c, 0, none⟩ x).setCell ⟨d, 0, none⟩ y).drew.output = w.output := by
  refine ⟨?_, ?_, ?_, ?_, rfl, rfl, rfl⟩
  · show ((w.setCell ⟨c, 0, none⟩ x).setCell ⟨d, 0, none⟩ y).heap[c]? = _
    rw [Below.heap_setCell _ _ _ _ (show c ≠ d from hcd)]
    exact heap_setCell_same _ _ 0 _ _ _ hc
  · show ((w.setCell ⟨c, 0, none⟩ x).setCell ⟨d, 0, none⟩ y).heap[d]? = _
    exact heap_setCell_same _ _ 0 _ _ _ ((Below.heap_setCell w ⟨c, 0, none⟩ x d (show d ≠ c from fun h => hcd h.symm)).trans hd)
  · intro k k1 k2
    show ((w.setCell ⟨c, 0, none⟩ x).setCell ⟨d, 0, none⟩ y).heap[k]? = _
    rw [Below.heap_setCell _ _ _ _ (show k ≠ d from k2), Below.heap_setCell _ _ _ _ (show k ≠ c from k1)]
  · show ((w.setCell ⟨c, 0, none⟩ x).setCell ⟨d, 0, none⟩ y).heap.size = _
    simp
set_option maxHeartbeats 1000000 in
set_option maxRecDepth 100000 in
theorem mis_call {w : World} {c d : Nat} {last begun : Int} (hc : w.heap[c]? = some (.cells #[.int .i64 last] 3 (0, 0))) (hd : w.heap[d]? = some (.cells #[.int .i64 begun] 3 (0, 0))) (hcd : c ≠ d) (hb0 : 0 ≤ begun) (hb1 : begun ≤ 1000000) (ch : Int) :
    Calls Tryz.prog 82 #[.int .i64 ch, .pointer (some ⟨c, 0, none⟩), .pointer (some ⟨d, 0, none⟩)] w fun e w' => e = .returned (.bool (misB last begun ch)) ∧ w'.heap[c]? = some (.cells #[.int .i64 (if misB last begun ch then last else ch)] 3 (0, 0)) ∧ w'.heap[d]? = some (.cells #[.int .i64 (if misB last begun ch then begun else max begun ch)] 3 (0, 0)) ∧ (∀ k, k ≠ c → k ≠ d → w'.heap[k]? = w.heap[k]?) ∧ w'.heap.size = w.heap.size ∧ w'.os = w.os ∧ w'.tape = w.tape ∧ w'.output = w.output := by
  have c0 := cell_of_blk hc 0 _ rfl
  have f0 := fr_of_blk hc 0
  have d0 := cell_of_blk hd 0 _ rfl
  have f1 := fr_of_blk hd 0
  obtain ⟨q1, hq1⟩ : ∃ q, (ch != 0) = q := ⟨_, rfl⟩
  obtain ⟨q2, hq2⟩ : ∃ q, (ch != last) = q := ⟨_, rfl⟩
  obtain ⟨q3, hq3⟩ : ∃ q, (ch != begun + 1) = q := ⟨_, rfl⟩
  have HC : Hid (misB last begun ch = (q1 && (q2 && q3))) := by
    show _ = _
    rw [← hq1, ← hq2, ← hq3, Bool.eq_iff_iff]
    simp [misB]
  have c0 : w.cell? ⟨c, 0, none⟩ = some (.int .i64 last) := c0
  have d0 : w.cell? ⟨d, 0, none⟩ = some (.int .i64 begun) := d0
  by_cases hm : (q1 && (q2 && q3)) = true
  · have HM : Hid (misB last begun ch = true) := by show _ = _; rw [HC.out]; exact hm
    cases q1 <;> cases q2 <;> cases q3 <;> first | (exfalso; revert hm; decide) | skip
    clear hm HC
    go_enter Tryz.func82, Tryz.ntmps82
    go_wp2
    go_ret
    exact ⟨rfl, hc, hd, fun _ _ _ => rfl, rfl, rfl, rfl, rfl⟩
  · have HM : Hid (misB last begun ch = false) := by show _ = _; rw [HC.out]; simpa using hm
    have hcl : c < w.heap.size := (Array.getElem?_eq_some_iff.1 hc).1
    have hdl : d < w.heap.size := (Array.getElem?_eq_some_iff.1 hd).1
    rw [HM.out]
    clear HC
    cases q1 <;> cases q2 <;> cases q3 <;> first | (exfalso; revert hm; decide) | skip
    all_goals clear hm
    all_goals go_enter Tryz.func82, Tryz.ntmps82
    all_goals go_wp2_with fail
    all_goals go_region
    all_goals go_wp2
    all_goals go_ret
    all_goals first
      | (rw [show max begun ch = ch by omega]; exact ⟨rfl, mis_fin hc hd hcd _ _⟩)
      | (rw [show max begun ch = begun by omega]; exact ⟨rfl, mis_fin hc hd hcd _ _⟩)

end L
end Go.Proofs.YtenlijgnmhdopaaGreatDoor
