import Derived.Test.YtenlijgnmhdopaaGreatDoorMLa
import Derived.Laws.EntriesVeiled
/- The contracts of Contains, Named, isKept, and of what 'again' makes. -/
namespace Go.Proofs.YtenlijgnmhdopaaGreatDoor
namespace L
open Go.RowKit

set_option maxHeartbeats 1000000 in
set_option maxRecDepth 100000 in
theorem indexN_any {v : Value} {l : List Int} {w : World} (h : RdL 1 NAt w v l) (x : Int) :
    Calls Tryz.prog 83 #[v, .int .i64 x] w fun e w' => ∃ r : Int, e = .returned (.int .i64 r) ∧ decide (0 ≤ r) = decide (x ∈ l) ∧ w = w' := by
  obtain ⟨ao, n, cap, rfl, Hn, hcap⟩ := h.shape
  go_enter Tryz.func83, Tryz.ntmps83
  go_wp2_with fail
  go_loopg [8] n (fun m i wr => ∃ k : Nat, k + m = n ∧ i = .int .i64 k ∧ Hid (x ∉ l.take k) ∧ w = wr)
  case atStart => exact ⟨0, by omega, rfl, by show ¬ _; simp, rfl⟩
  case round =>
    obtain ⟨k, hk, rfl, HK, rfl⟩ := hrel
    by_cases hlt : k < n
    · obtain ⟨a, Ha⟩ : ∃ a, Hid (l[k]? = some a) := ⟨l[k]'(by rw [← Hn.out]; exact hlt), List.getElem?_eq_getElem (by rw [← Hn.out]; exact hlt)⟩
      obtain ⟨b, off, rfl, hc⟩ := h.get NAt.plain Ha.out
      have hc : w.cell? ⟨b, off + k * 1, none⟩ = some (.int .i64 a) := hc
      rw [Nat.mul_one] at hc
      have hki : (k : Int) < (n : Int) := by omega
      by_cases hxa : x = a
      · have HM : Hid (x ∈ l) := by show _ ∈ _; rw [hxa]; exact mem_at Ha.out
        have hb : (x == a) = true := by simp [hxa]
        clear hxa
        go_wp2
        go_ret
        exact ⟨_, rfl, by simp [HM.out], rfl⟩
      · have hb : (x == a) = false := by simp [hxa]
        have HX : Hid (x ∉ l.take (k + 1)) := by
          show ¬ _; rw [take_snoc Ha.out]; simp [hxa]; exact HK.out
        clear hxa
        go_wp2_with fail
        go_roundg (n - (k + 1))
        case measure => omega
        case rel => exact ⟨k + 1, by omega, by go_num, HX, rfl⟩
    · have HX : Hid (x ∉ l) := by show ¬ _; have := HK.out; rwa [List.take_of_length_le (by rw [← Hn.out]; omega)] at this
      go_wp2
      go_ret
      exact ⟨_, rfl, by simp [HX.out], rfl⟩

theorem containsS_any {v : Value} {l : List (List UInt8)} {w : World} (h : RdL 1 SAt w v l) (x : List UInt8) :
    Calls Tryz.prog 48 #[v, .string (S x)] w fun e w' => e = .returned (.bool (decide (x ∈ l))) ∧ w = w' := by
  have hi := indexS_any h x
  go_enter Tryz.func48, Tryz.ntmps48
  go_wp2_with fail
  refine hi.mono ?_
  rintro e w1 ⟨r, rfl, hr, rfl⟩
  have HR : Hid (decide (0 ≤ r) = decide (x ∈ l)) := hr
  clear hr hi
  go_wp2
  go_ret
  exact ⟨ret_bool HR.out, rfl⟩
theorem containsN_any {v : Value} {l : List Int} {w : World} (h : RdL 1 NAt w v l) (x : Int) :
    Calls Tryz.prog 58 #[v, .int .i64 x] w fun e w' => e = .returned (.bool (decide (x ∈ l))) ∧ w = w' := by
  have hi := indexN_any h x
  go_enter Tryz.func58, Tryz.ntmps58
  go_wp2_with fail
  refine hi.mono ?_
  rintro e w1 ⟨r, rfl, hr, rfl⟩
  have HR : Hid (decide (0 ≤ r) = decide (x ∈ l)) := hr
  clear hr hi
  go_wp2
  go_ret
  exact ⟨ret_bool HR.out, rfl⟩

def namedB (l : List UInt8) : Bool := !l.isEmpty && (decide (l.length ≤ 16) && decide (wordLenL l = l.length))
set_option maxHeartbeats 1000000 in
set_option maxRecDepth 100000 in
theorem named_any (l : List UInt8) (hl : l.length ≤ 9223372036854775807) (w : World) :
    Calls Tryz.prog 32 #[.string (S l)] w fun e w' => e = .returned (.bool (namedB l)) ∧ w = w' := by
  have hsz := S_size l
  obtain ⟨E, hE⟩ : ∃ E, (S l).toList.isEmpty = E := ⟨_, rfl⟩
  obtain ⟨Q, HQ⟩ : ∃ Q, Hid (Q = decide (wordLenL l = l.length)) := ⟨_, rfl⟩
  have HR : Hid (namedB l = (!E && (decide (l.length ≤ 16) && Q))) := by show _ = _; rw [namedB, ← hE, HQ.out, S_list]
  have hwl := wordLength_any l hl w
  have HB : Hid (((wordLenL l : Int) == (l.length : Int)) = Q) := by show _ = _; rw [HQ.out, Bool.eq_iff_iff]; simp; omega
  generalize wordLenL l = W at hwl HB
  have hB := HB.out
  cases E with
  | true =>
    go_enter Tryz.func32, Tryz.ntmps32
    go_wp2
    go_ret
    exact ⟨by rw [HR.out]; rfl, rfl⟩
  | false =>
    by_cases h16 : l.length ≤ 16
    · have hli : ((l.length : Nat) : Int) ≤ 16 := by omega
      go_enter Tryz.func32, Tryz.ntmps32
      go_wp2_with fail
      refine hwl.mono ?_
      rintro e w1 ⟨rfl, rfl⟩
      cases Q
      all_goals go_wp2
      all_goals go_ret
      all_goals exact ⟨by rw [HR.out]; simp [h16], rfl⟩
    · have hli : ¬ ((l.length : Nat) : Int) ≤ 16 := by omega
      go_enter Tryz.func32, Tryz.ntmps32
      go_wp2
      go_ret
      exact ⟨by rw [HR.out]; simp [h16], rfl⟩

theorem wordsRd (w : World) : RdL 1 SAt (w.alloc (.cells wordCells 9)) (.slice (some ⟨w.heap.size, 0, none⟩) 9 9) wordsL := by
  refine ⟨_, 9, 9, rfl, rfl, Nat.le_refl _, by unfold maxLen; omega, fun h => (by cases h), ?_⟩
  intro x hx k a ha
  cases hx
  have hk : k < 9 := (List.getElem?_eq_some_iff.1 ha).1
  rw [add_plain, Nat.zero_add, Nat.mul_one]
  have e : wordsL.getD k [] = a := by rw [List.getD_eq_getElem?_getD, ha]; rfl
  exact cell_of_blk (heap_alloc_new w _) k _ (by rw [wordCells_at k hk, e])

def keptB (s : List UInt8) : Bool := decide (s = kwRepeated) || (decide (s = kwReserved) || (decide (s = kwOneof) || decide (s ∈ wordsL)))
set_option maxHeartbeats 1000000 in
set_option maxRecDepth 100000 in
theorem isKept_any (s : List UInt8) (w : World) : Calls Tryz.prog 33 #[.string (S s)] w fun e w' => e = .returned (.bool (keptB s)) ∧ Below w.heap.size w w' := by
  obtain ⟨q1, hq1⟩ : ∃ q, ((S s).toList == [114, 101, 112, 101, 97, 116, 101, 100]) = q := ⟨_, rfl⟩
  obtain ⟨q2, hq2⟩ : ∃ q, ((S s).toList == [114, 101, 115, 101, 114, 118, 101, 100]) = q := ⟨_, rfl⟩
  obtain ⟨q3, hq3⟩ : ∃ q, ((S s).toList == [111, 110, 101, 111, 102]) = q := ⟨_, rfl⟩
  have HC : Hid (keptB s = (q1 || (q2 || (q3 || decide (s ∈ wordsL))))) := by
    show _ = _
    rw [← hq1, ← hq2, ← hq3, S_list, Bool.eq_iff_iff]
    simp [keptB, kwRepeated, kwReserved, kwOneof]
    exact or_congr decide_eq_true_iff (or_congr decide_eq_true_iff (or_congr decide_eq_true_iff Iff.rfl))
  have hct := containsS_any (wordsRd w) s
  have hbw : Below w.heap.size w (w.alloc (.cells wordCells 9)) := (Below.refl _ _).alloc (Nat.le_refl _) _
  have hws := words_any w
  by_cases h : (q1 || (q2 || q3)) = true
  · have HR : Hid (keptB s = true) := by show _ = _; rw [HC.out]; revert h; cases q1 <;> cases q2 <;> cases q3 <;> simp
    cases q1 <;> cases q2 <;> cases q3 <;> first | (exfalso; revert h; decide) | skip
    all_goals clear h HC hct hws
    all_goals go_enter Tryz.func33, Tryz.ntmps33
    all_goals go_wp2
    all_goals go_ret
    all_goals exact ⟨by rw [HR.out]; rfl, Below.refl _ _⟩
  · have HR : Hid (keptB s = decide (s ∈ wordsL)) := by show _ = _; rw [HC.out]; revert h; cases q1 <;> cases q2 <;> cases q3 <;> simp
    cases q1 <;> cases q2 <;> cases q3 <;> first | (exfalso; revert h; decide) | skip
    clear h HC
    go_enter Tryz.func33, Tryz.ntmps33
    go_wp2_with fail
    refine hws.mono ?_
    rintro e w1 ⟨rfl, rfl⟩
    go_wp2_with fail
    refine hct.mono ?_
    rintro e w2 ⟨rfl, rfl⟩
    go_wp2
    go_ret
    exact ⟨by rw [HR.out]; rfl, hbw⟩

end L
end Go.Proofs.YtenlijgnmhdopaaGreatDoor

/- The contracts of again and of the functions that it makes. -/
namespace Go.Proofs.YtenlijgnmhdopaaGreatDoor
namespace L
open Go.RowKit

/-- Of what was there nothing but block c, and the list of that block, has turned. -/
structure Upd (c : Nat) (row : Option Nat) (w w' : World) : Prop where
  os : w'.os = w.os
  tape : w'.tape = w.tape
  output : w'.output = w.output
  size : w.heap.size ≤ w'.heap.size
  block : ∀ k, k < w.heap.size → k ≠ c → row ≠ some k → w'.heap[k]? = w.heap[k]?
theorem Upd.refl (c : Nat) (row : Option Nat) (w : World) : Upd c row w w := ⟨rfl, rfl, rfl, Nat.le_refl _, fun _ _ _ _ => rfl⟩
theorem Upd.below {c B : Nat} {row : Option Nat} {w w' : World} (h : Upd c row w w') (hc : B ≤ c) (hr : ∀ k, row = some k → B ≤ k) (hB : B ≤ w.heap.size) : Below B w w' :=
  ⟨h.os, h.tape, h.output, h.size, fun k hk => h.block k (by omega) (by omega) (fun e => by have := hr k e; omega)⟩
theorem Upd.of_below {c : Nat} {row : Option Nat} {w w' : World} (h : Below w.heap.size w w') : Upd c row w w' := ⟨h.os, h.tape, h.output, h.size, fun k hk _ _ => h.block k hk⟩
theorem Row.upd {α : Type} {E : EK α} {w w' : World} {B c : Nat} {row : Option Nat} {v : Value} {l : List α} (h : Row E w B v l) (hu : Upd c row w w') (hc : c < B) (hr : v.ownBlock = none ∨ v.ownBlock ≠ row) : Row E w' B v l := by
  refine ⟨h.1, ?_⟩
  rcases h.2 with hn | ⟨g, cap, cur, hv, hbg, hg, r⟩
  · exact .inl hn
  · refine .inr ⟨g, cap, cur, hv, hbg, ?_, r⟩
    have hgl := (Array.getElem?_eq_some_iff.1 hg).1
    rw [hu.block g hgl (by omega) ?_]
    · exact hg
    · intro e
      rcases hr with hr | hr
      · rw [hv] at hr; simp [Value.ownBlock] at hr
      · apply hr; rw [hv, e]; rfl

theorem Row.shape' {α : Type} {E : EK α} {w : World} {B : Nat} {v : Value} {l : List α} (h : Row E w B v l) : ∃ ao n cap, v = .slice ao n cap ∧ Hid (n = l.length) := by
  obtain ⟨ao, cap, e⟩ := h.shape
  exact ⟨ao, l.length, cap, e, rfl⟩

theorem makeF (fn : Fn) (first cap : Array Value) (w : World) : (Instr.makeFunc fn first cap).run Tryz.prog w = .ok (.func fn first cap) w := rfl

theorem againS_new (w : World) : Calls Tryz.prog 30 #[] w fun e w' => e = .returned (.func (.func 47) #[] #[.pointer (some ⟨w.heap.size, 0, none⟩)]) ∧ w.alloc (.cells #[.slice none 0 0] 54) = w' := by
  have hmf := makeF
  go_enter Tryz.func30, Tryz.ntmps30
  go_wp2
  go_ret
  exact ⟨rfl, rfl⟩
theorem againN_new (w : World) : Calls Tryz.prog 52 #[] w fun e w' => e = .returned (.func (.func 81) #[] #[.pointer (some ⟨w.heap.size, 0, none⟩)]) ∧ w.alloc (.cells #[.slice none 0 0] 35) = w' := by
  have hmf := makeF
  go_enter Tryz.func52, Tryz.ntmps52
  go_wp2
  go_ret
  exact ⟨rfl, rfl⟩

def addL {α : Type} [DecidableEq α] (x : α) (l : List α) : List α := if x ∈ l then l else l ++ [x]

set_option maxHeartbeats 1000000 in
set_option maxRecDepth 100000 in
theorem againS_call {w : World} {c B : Nat} {v : Value} {l : List (List UInt8)} (hc : w.heap[c]? = some (.cells #[v] 54 (0, 0))) (hr : Row ekS w B v l) (hcB : c < B) (hB : B ≤ w.heap.size) (hl : l.length ≤ 1000) (x : List UInt8) :
    Calls Tryz.prog 47 #[.string (S x), .pointer (some ⟨c, 0, none⟩)] w fun e w' => e = .returned (.bool (decide (x ∈ l))) ∧ ∃ v', w'.heap[c]? = some (.cells #[v'] 54 (0, 0)) ∧ Row ekS w' B v' (addL x l) ∧ Upd c v.ownBlock w w' := by
  obtain ⟨ao, n, cap, rfl, Hn⟩ := hr.shape'
  have c0 := cell_of_blk hc 0 _ rfl
  have f0 := fr_of_blk hc 0
  have hct := containsS_any hr.rdS x
  obtain ⟨q, Hq⟩ : ∃ q, Hid (q = decide (x ∈ l)) := ⟨_, rfl⟩
  rw [← Hq.out] at hct ⊢
  cases q with
  | true =>
    have HA : Hid (addL x l = l) := by show _ = _; have := Hq.out; simp at this; simp [addL, this]
    go_enter Tryz.func47, Tryz.ntmps47
    go_wp2_with fail
    refine hct.mono ?_
    rintro e w1 ⟨rfl, rfl⟩
    go_wp2
    go_ret
    exact ⟨rfl, _, hc, by rw [HA.out]; exact hr, Upd.refl _ _ _⟩
  | false =>
    have HA : Hid (addL x l = l ++ [x]) := by show _ = _; have := Hq.out; simp at this; simp [addL, this]
    have hone : Row ekS (w.alloc (.cells #[.string (S x)] 9)) B (.slice (some ⟨w.heap.size, 0, none⟩) 1 1) [x] := Row.one ekS w x hB
    have hba := (Below.refl w.heap.size w).alloc (Nat.le_refl _) (.cells #[.string (S x)] 9)
    have hr4 := hr.below hba
    have hc4 := (hba.block c (by omega)).trans hc
    go_enter Tryz.func47, Tryz.ntmps47
    go_wp2_with fail
    refine hct.mono ?_
    rintro e w1 ⟨rfl, rfl⟩
    go_wp2_with (at_builtin; refine wpList_app rfl ekS _ _ rfl B _ l [x] rfl hr4 B _ rfl hone ?e1 ?e2 ?_)
    case e1 => simp; omega
    case e2 => simp; omega
    intro v5 w5 hr5 hg5
    have hown := hr4.own
    have hc5 := (hg5.block c (Array.getElem?_eq_some_iff.1 hc4).1 (fun hh => by have := (hown c hh.symm).1; omega)).trans hc4
    have k0 := cell_of_blk hc5 0 _ rfl
    have k1 := fr_of_blk hc5 0
    obtain ⟨a5, n5, cap5, rfl, Hn5⟩ := hr5.shape'
    go_wp2
    go_ret
    refine ⟨rfl, _, heap_setCell_same _ _ 0 _ _ _ hc5, ?_, ?_⟩
    · rw [HA.out]
      exact hr5.other (fun hh => by have := (hr5.own c hh).1; omega) 0 _
    · refine ⟨hg5.os.trans hba.os, hg5.tape.trans hba.tape, hg5.output.trans hba.output, Nat.le_trans hba.size (Nat.le_trans hg5.size (by simp [World.setCell])), fun k hk hkc hkr => ?_⟩
      rw [Below.heap_setCell _ _ _ _ (show k ≠ c from hkc), hg5.block k (by simp; omega) (fun e => hkr e.symm), hba.block k hk]

set_option maxHeartbeats 1000000 in
set_option maxRecDepth 100000 in
theorem againN_call {w : World} {c B : Nat} {v : Value} {l : List Int} (hc : w.heap[c]? = some (.cells #[v] 35 (0, 0))) (hr : Row ekN w B v l) (hcB : c < B) (hB : B ≤ w.heap.size) (hl : l.length ≤ 1000) (x : Int) :
    Calls Tryz.prog 81 #[.int .i64 x, .pointer (some ⟨c, 0, none⟩)] w fun e w' => e = .returned (.bool (decide (x ∈ l))) ∧ ∃ v', w'.heap[c]? = some (.cells #[v'] 35 (0, 0)) ∧ Row ekN w' B v' (addL x l) ∧ Upd c v.ownBlock w w' := by
  obtain ⟨ao, n, cap, rfl, Hn⟩ := hr.shape'
  have c0 := cell_of_blk hc 0 _ rfl
  have f0 := fr_of_blk hc 0
  have hct := containsN_any hr.rdN x
  obtain ⟨q, Hq⟩ : ∃ q, Hid (q = decide (x ∈ l)) := ⟨_, rfl⟩
  rw [← Hq.out] at hct ⊢
  cases q with
  | true =>
    have HA : Hid (addL x l = l) := by show _ = _; have := Hq.out; simp at this; simp [addL, this]
    go_enter Tryz.func81, Tryz.ntmps81
    go_wp2_with fail
    refine hct.mono ?_
    rintro e w1 ⟨rfl, rfl⟩
    go_wp2
    go_ret
    exact ⟨rfl, _, hc, by rw [HA.out]; exact hr, Upd.refl _ _ _⟩
  | false =>
    have HA : Hid (addL x l = l ++ [x]) := by show _ = _; have := Hq.out; simp at this; simp [addL, this]
    have hone : Row ekN (w.alloc (.cells #[.int .i64 x] 3)) B (.slice (some ⟨w.heap.size, 0, none⟩) 1 1) [x] := Row.one ekN w x hB
    have hba := (Below.refl w.heap.size w).alloc (Nat.le_refl _) (.cells #[.int .i64 x] 3)
    have hr4 := hr.below hba
    have hc4 := (hba.block c (by omega)).trans hc
    go_enter Tryz.func81, Tryz.ntmps81
    go_wp2_with fail
    refine hct.mono ?_
    rintro e w1 ⟨rfl, rfl⟩
    go_wp2_with (at_builtin; refine wpList_app rfl ekN _ _ rfl B _ l [x] rfl hr4 B _ rfl hone ?e1 ?e2 ?_)
    case e1 => simp; omega
    case e2 => simp; omega
    intro v5 w5 hr5 hg5
    have hown := hr4.own
    have hc5 := (hg5.block c (Array.getElem?_eq_some_iff.1 hc4).1 (fun hh => by have := (hown c hh.symm).1; omega)).trans hc4
    have k0 := cell_of_blk hc5 0 _ rfl
    have k1 := fr_of_blk hc5 0
    obtain ⟨a5, n5, cap5, rfl, Hn5⟩ := hr5.shape'
    go_wp2
    go_ret
    refine ⟨rfl, _, heap_setCell_same _ _ 0 _ _ _ hc5, ?_, ?_⟩
    · rw [HA.out]
      exact hr5.other (fun hh => by have := (hr5.own c hh).1; omega) 0 _
    · refine ⟨hg5.os.trans hba.os, hg5.tape.trans hba.tape, hg5.output.trans hba.output, Nat.le_trans hba.size (Nat.le_trans hg5.size (by simp [World.setCell])), fun k hk hkc hkr => ?_⟩
      rw [Below.heap_setCell _ _ _ _ (show k ≠ c from hkc), hg5.block k (by simp; omega) (fun e => hkr e.symm), hba.block k hk]

/-- A choice that can't stand there; what is remembered. -/
def misB (last begun ch : Int) : Bool := decide (ch ≠ 0) && (decide (ch ≠ last) && decide (ch ≠ begun + 1))
theorem mis_new (w : World) : Calls Tryz.prog 53 #[] w fun e w' => e = .returned (.func (.func 82) #[] #[.pointer (some ⟨w.heap.size, 0, none⟩), .pointer (some ⟨w.heap.size + 1, 0, none⟩)]) ∧ (w.alloc (.cells #[.int .i64 0] 3)).alloc (.cells #[.int .i64 0] 3) = w' := by
  have hmf := makeF
  go_enter Tryz.func53, Tryz.ntmps53
  go_wp2
  go_ret
  exact ⟨rfl, rfl⟩
theorem mis_fin {w : World} {c d : Nat} {a b : Value} {t : TypeId} (hc : w.heap[c]? = some (.cells #[a] t (0, 0))) (hd : w.heap[d]? = some (.cells #[b] t (0, 0))) (hcd : c ≠ d) (x y : Value) :
    ((w.setCell ⟨c, 0, none⟩ x).setCell ⟨d, 0, none⟩ y).drew.heap[c]? = some (.cells #[x] t (0, 0)) ∧ ((w.setCell ⟨c, 0, none⟩ x).setCell ⟨d, 0, none⟩ y).drew.heap[d]? = some (.cells #[y] t (0, 0)) ∧ (∀ k, ¬ k = c → ¬ k = d → ((w.setCell ⟨c, 0, none⟩ x).setCell ⟨d, 0, none⟩ y).drew.heap[k]? = w.heap[k]?) ∧ ((w.setCell ⟨c, 0, none⟩ x).setCell ⟨d, 0, none⟩ y).drew.heap.size = w.heap.size ∧ ((w.setCell ⟨c, 0, none⟩ x).setCell ⟨d, 0, none⟩ y).drew.os = w.os ∧ ((w.setCell ⟨c, 0, none⟩ x).setCell ⟨d, 0, none⟩ y).drew.tape = w.tape ∧ ((w.setCell ⟨c, 0, none⟩ x).setCell ⟨d, 0, none⟩ y).drew.output = w.output := by
  refine ⟨?_, ?_, ?_, ?_, rfl, rfl, rfl⟩
  · show ((w.setCell ⟨c, 0, none⟩ x).setCell ⟨d, 0, none⟩ y).heap[c]? = _
    rw [Below.heap_setCell _ _ _ _ (show c ≠ d from hcd)]
    exact heap_setCell_same _ _ 0 _ _ _ hc
  · show ((w.setCell ⟨c, 0, none⟩ x).setCell ⟨d, 0, none⟩ y).heap[d]? = _
    exact heap_setCell_same _ _ 0 _ _ _ ((Below.heap_setCell w ⟨c, 0, none⟩ x d (show d ≠ c from fun h => hcd h.symm)).trans hd)
  · intro k k1 k2
    show ((w.setCell ⟨c, 0, none⟩ x).setCell ⟨d, 0, none⟩ y).heap[k]? = _
    rw [Below.heap_setCell _ _ _ _ (show k ≠ d from k2), Below.heap_setCell _ _ _ _ (show k ≠ c from k1)]
  · show ((w.setCell ⟨c, 0, none⟩ x).setCell ⟨d, 0, none⟩ y).heap.size = _
    simp
set_option maxHeartbeats 1000000 in
set_option maxRecDepth 100000 in
theorem mis_call {w : World} {c d : Nat} {last begun : Int} (hc : w.heap[c]? = some (.cells #[.int .i64 last] 3 (0, 0))) (hd : w.heap[d]? = some (.cells #[.int .i64 begun] 3 (0, 0))) (hcd : c ≠ d) (hb0 : 0 ≤ begun) (hb1 : begun ≤ 1000000) (ch : Int) :
    Calls Tryz.prog 82 #[.int .i64 ch, .pointer (some ⟨c, 0, none⟩), .pointer (some ⟨d, 0, none⟩)] w fun e w' => e = .returned (.bool (misB last begun ch)) ∧ w'.heap[c]? = some (.cells #[.int .i64 (if misB last begun ch then last else ch)] 3 (0, 0)) ∧ w'.heap[d]? = some (.cells #[.int .i64 (if misB last begun ch then begun else max begun ch)] 3 (0, 0)) ∧ (∀ k, k ≠ c → k ≠ d → w'.heap[k]? = w.heap[k]?) ∧ w'.heap.size = w.heap.size ∧ w'.os = w.os ∧ w'.tape = w.tape ∧ w'.output = w.output := by
  have c0 := cell_of_blk hc 0 _ rfl
  have f0 := fr_of_blk hc 0
  have d0 := cell_of_blk hd 0 _ rfl
  have f1 := fr_of_blk hd 0
  obtain ⟨q1, hq1⟩ : ∃ q, (ch != 0) = q := ⟨_, rfl⟩
  obtain ⟨q2, hq2⟩ : ∃ q, (ch != last) = q := ⟨_, rfl⟩
  obtain ⟨q3, hq3⟩ : ∃ q, (ch != begun + 1) = q := ⟨_, rfl⟩
  have HC : Hid (misB last begun ch = (q1 && (q2 && q3))) := by
    show _ = _
    rw [← hq1, ← hq2, ← hq3, Bool.eq_iff_iff]
    simp [misB]
  have c0 : w.cell? ⟨c, 0, none⟩ = some (.int .i64 last) := c0
  have d0 : w.cell? ⟨d, 0, none⟩ = some (.int .i64 begun) := d0
  by_cases hm : (q1 && (q2 && q3)) = true
  · have HM : Hid (misB last begun ch = true) := by show _ = _; rw [HC.out]; exact hm
    cases q1 <;> cases q2 <;> cases q3 <;> first | (exfalso; revert hm; decide) | skip
    clear hm HC
    go_enter Tryz.func82, Tryz.ntmps82
    go_wp2
    go_ret
    exact ⟨rfl, hc, hd, fun _ _ _ => rfl, rfl, rfl, rfl, rfl⟩
  · have HM : Hid (misB last begun ch = false) := by show _ = _; rw [HC.out]; simpa using hm
    have hcl : c < w.heap.size := (Array.getElem?_eq_some_iff.1 hc).1
    have hdl : d < w.heap.size := (Array.getElem?_eq_some_iff.1 hd).1
    rw [HM.out]
    clear HC
    cases q1 <;> cases q2 <;> cases q3 <;> first | (exfalso; revert hm; decide) | skip
    all_goals clear hm
    all_goals go_enter Tryz.func82, Tryz.ntmps82
    all_goals go_wp2_with fail
    all_goals go_region
    all_goals go_wp2
    all_goals go_ret
    all_goals first
      | (rw [show max begun ch = ch by omega]; exact ⟨rfl, mis_fin hc hd hcd _ _⟩)
      | (rw [show max begun ch = begun by omega]; exact ⟨rfl, mis_fin hc hd hcd _ _⟩)

end L
end Go.Proofs.YtenlijgnmhdopaaGreatDoor

/- The contracts of Message and Enum. -/
namespace Go.Proofs.YtenlijgnmhdopaaGreatDoor
namespace L
open Go.RowKit

/-- Which entry is such first; -1, if none is. -/
def firstI {α : Type} (p : α → Bool) (l : List α) : Int := match l.findIdx? p with | some k => (k : Int) | none => -1
theorem first_at {α : Type} {p : α → Bool} {l : List α} {k : Nat} {a : α} (ha : l[k]? = some a) (h : ∀ b ∈ l.take k, p b = false) (hp : p a = true) : firstI p l = (k : Int) := by
  have e : l.findIdx? p = some k := by
    rw [List.findIdx?_eq_some_iff_getElem]
    obtain ⟨hk, e⟩ := List.getElem?_eq_some_iff.1 ha
    refine ⟨hk, by rw [e]; exact hp, ?_⟩
    intro j hj
    rw [h _ (List.mem_take_iff_getElem.2 ⟨j, by omega, rfl⟩)]
    simp
  unfold firstI
  rw [e]
theorem first_none {α : Type} {p : α → Bool} {l : List α} (h : ∀ b ∈ l, p b = false) : firstI p l = -1 := by
  have e : l.findIdx? p = none := by rw [List.findIdx?_eq_none_iff]; exact h
  unfold firstI
  rw [e]

set_option maxHeartbeats 1000000 in
set_option maxRecDepth 100000 in
theorem msg1_call {w : World} {c : Nat} {x : List UInt8} (hc : w.heap[c]? = some (.cells #[.string (S x)] 9 (0, 0))) (a : List UInt8) (a1 : Option Addr) (n1 c1 : Nat) (a2 : Option Addr) (n2 c2 : Nat) :
    Calls Tryz.prog 23 #[.agg #[.string (S a), .slice a1 n1 c1, .slice a2 n2 c2], .pointer (some ⟨c, 0, none⟩)] w fun e w' => e = .returned (.bool (decide (a = x))) ∧ Below w.heap.size w w' := by
  have c0 : w.cell? ⟨c, 0, none⟩ = some (.string (S x)) := cell_of_blk hc 0 _ rfl
  have hcl : c < w.heap.size := (Array.getElem?_eq_some_iff.1 hc).1
  have hla := S_list a
  have hlx := S_list x
  have hba := (Below.refl w.heap.size w).alloc (Nat.le_refl _) (.cells #[.string (S a), .slice a1 n1 c1, .slice a2 n2 c2] 37)
  obtain ⟨q, Hq⟩ : ∃ q, Hid (q = decide (a = x)) := ⟨_, rfl⟩
  have hq : (a == x) = q := by rw [Hq.out, Bool.eq_iff_iff]; simp
  rw [← Hq.out]
  go_enter Tryz.func23, Tryz.ntmps23
  go_wp2
  go_ret
  exact ⟨rfl, hba⟩
set_option maxHeartbeats 1000000 in
set_option maxRecDepth 100000 in
theorem msgIdx_any {v : Value} {l : List MI} {w : World} {c : Nat} {x : List UInt8} (h : RdL 3 MAt w v l) (hc : w.heap[c]? = some (.cells #[.string (S x)] 9 (0, 0))) :
    Calls Tryz.prog 22 #[v, .func (.func 23) #[] #[.pointer (some ⟨c, 0, none⟩)]] w fun e w' => e = .returned (.int .i64 (firstI (fun m => decide (m.name = x)) l)) ∧ Below w.heap.size w w' := by
  obtain ⟨ao, n, cap, rfl, Hn, hcap⟩ := h.shape
  go_enter Tryz.func22, Tryz.ntmps22
  go_wp2_with fail
  go_loopg [8] n (fun m i wr => ∃ k : Nat, k + m = n ∧ i = .int .i64 k ∧ Hid (∀ a ∈ l.take k, decide (a.name = x) = false) ∧ Below w.heap.size w wr)
  case atStart => exact ⟨0, by omega, rfl, by show ∀ a ∈ _, _; simp, Below.refl _ _⟩
  case round =>
    obtain ⟨k, hk, rfl, HK, hb⟩ := hrel
    have hcr := (hb.block c (Array.getElem?_eq_some_iff.1 hc).1).trans hc
    by_cases hlt : k < n
    · obtain ⟨a, Ha⟩ : ∃ a, Hid (l[k]? = some a) := ⟨l[k]'(by rw [← Hn.out]; exact hlt), List.getElem?_eq_getElem (by rw [← Hn.out]; exact hlt)⟩
      obtain ⟨b, off, rfl, hat⟩ := (h.below MAt.stays hb).get MAt.plain Ha.out
      obtain ⟨vf, vb, s0, s1, s2, hrf, hrb⟩ := hat.at
      obtain ⟨af, nf, cf, rfl, _, _⟩ := hrf.shape
      obtain ⟨ab, nb, cb, rfl, _, _⟩ := hrb.shape
      have hki : (k : Int) < (n : Int) := by omega
      have hcall := msg1_call hcr a.name af nf cf ab nb cb
      cases hq : decide (a.name = x) with
      | true =>
        have HF : Hid (firstI (fun m => decide (m.name = x)) l = (k : Int)) := first_at Ha.out HK.out hq
        rw [hq] at hcall
        clear hq
        go_wp2_with fail
        refine hcall.mono ?_
        rintro e w1 ⟨rfl, hb1⟩
        go_wp2
        go_ret
        exact ⟨by rw [HF.out]; rfl, hb.trans (hb1.mono hb.size)⟩
      | false =>
        have HX : Hid (∀ a ∈ l.take (k + 1), decide (a.name = x) = false) := by
          show ∀ a ∈ _, _
          rw [take_snoc Ha.out]
          intro y hy
          rcases List.mem_append.1 hy with hy | hy
          · exact HK.out y hy
          · rw [List.mem_singleton] at hy; rw [hy]; exact hq
        rw [hq] at hcall
        clear hq
        go_wp2_with fail
        refine hcall.mono ?_
        rintro e w1 ⟨rfl, hb1⟩
        go_wp2_with fail
        go_roundg (n - (k + 1))
        case measure => omega
        case rel => exact ⟨k + 1, by omega, by go_num, HX, hb.trans (hb1.mono hb.size)⟩
    · have HF : Hid (firstI (fun m => decide (m.name = x)) l = -1) := by
        have := HK.out
        rw [List.take_of_length_le (by rw [← Hn.out]; omega)] at this
        exact first_none this
      go_wp2
      go_ret
      exact ⟨by rw [HF.out]; rfl, hb⟩
set_option maxHeartbeats 1000000 in
set_option maxRecDepth 100000 in
theorem message_any {vm ve : Value} {l : List MI} {w : World} (h : RdL 3 MAt w vm l) (hve : ∃ ao n cap, ve = .slice ao n cap) (x : List UInt8) :
    Calls Tryz.prog 9 #[.agg #[vm, ve], .string (S x)] w fun e w' => e = .returned (.int .i64 (firstI (fun m => decide (m.name = x)) l)) ∧ Below w.heap.size w w' := by
  obtain ⟨ao, n, cap, rfl, Hn, hcap⟩ := h.shape
  obtain ⟨ae, ne, ce, rfl⟩ := hve
  have hmf := makeF
  have hb2 : Below w.heap.size w ((w.alloc (.cells #[.slice ao n cap, .slice ae ne ce] 25)).alloc (.cells #[.string (S x)] 9)) := ((Below.refl _ _).alloc (Nat.le_refl _) _).alloc (by simp) _
  have hi := msgIdx_any (h.below MAt.stays hb2) (alloc2_new w _ _)
  go_enter Tryz.func9, Tryz.ntmps9
  go_wp2_with fail
  refine hi.mono ?_
  rintro e w1 ⟨rfl, hb1⟩
  go_wp2
  go_ret
  exact ⟨rfl, hb2.trans (hb1.mono hb2.size)⟩

set_option maxHeartbeats 1000000 in
set_option maxRecDepth 100000 in
theorem enm1_call {w : World} {c : Nat} {x : List UInt8} (hc : w.heap[c]? = some (.cells #[.string (S x)] 9 (0, 0))) (a : List UInt8) (a1 : Option Addr) (n1 c1 : Nat) :
    Calls Tryz.prog 25 #[.agg #[.string (S a), .slice a1 n1 c1], .pointer (some ⟨c, 0, none⟩)] w fun e w' => e = .returned (.bool (decide (a = x))) ∧ Below w.heap.size w w' := by
  have c0 : w.cell? ⟨c, 0, none⟩ = some (.string (S x)) := cell_of_blk hc 0 _ rfl
  have hcl : c < w.heap.size := (Array.getElem?_eq_some_iff.1 hc).1
  have hla := S_list a
  have hlx := S_list x
  have hba := (Below.refl w.heap.size w).alloc (Nat.le_refl _) (.cells #[.string (S a), .slice a1 n1 c1] 50)
  obtain ⟨q, Hq⟩ : ∃ q, Hid (q = decide (a = x)) := ⟨_, rfl⟩
  have hq : (a == x) = q := by rw [Hq.out, Bool.eq_iff_iff]; simp
  rw [← Hq.out]
  go_enter Tryz.func25, Tryz.ntmps25
  go_wp2
  go_ret
  exact ⟨rfl, hba⟩
set_option maxHeartbeats 1000000 in
set_option maxRecDepth 100000 in
theorem enmIdx_any {v : Value} {l : List EI} {w : World} {c : Nat} {x : List UInt8} (h : RdL 2 EAt w v l) (hc : w.heap[c]? = some (.cells #[.string (S x)] 9 (0, 0))) :
    Calls Tryz.prog 24 #[v, .func (.func 25) #[] #[.pointer (some ⟨c, 0, none⟩)]] w fun e w' => e = .returned (.int .i64 (firstI (fun m => decide (m.name = x)) l)) ∧ Below w.heap.size w w' := by
  obtain ⟨ao, n, cap, rfl, Hn, hcap⟩ := h.shape
  go_enter Tryz.func24, Tryz.ntmps24
  go_wp2_with fail
  go_loopg [8] n (fun m i wr => ∃ k : Nat, k + m = n ∧ i = .int .i64 k ∧ Hid (∀ a ∈ l.take k, decide (a.name = x) = false) ∧ Below w.heap.size w wr)
  case atStart => exact ⟨0, by omega, rfl, by show ∀ a ∈ _, _; simp, Below.refl _ _⟩
  case round =>
    obtain ⟨k, hk, rfl, HK, hb⟩ := hrel
    have hcr := (hb.block c (Array.getElem?_eq_some_iff.1 hc).1).trans hc
    by_cases hlt : k < n
    · obtain ⟨a, Ha⟩ : ∃ a, Hid (l[k]? = some a) := ⟨l[k]'(by rw [← Hn.out]; exact hlt), List.getElem?_eq_getElem (by rw [← Hn.out]; exact hlt)⟩
      obtain ⟨b, off, rfl, hat⟩ := (h.below EAt.stays hb).get EAt.plain Ha.out
      obtain ⟨vi, s0, s1, hri⟩ := hat.at
      obtain ⟨ai, ni, ci, rfl, _, _⟩ := hri.shape
      have hki : (k : Int) < (n : Int) := by omega
      have hcall := enm1_call hcr a.name ai ni ci
      cases hq : decide (a.name = x) with
      | true =>
        have HF : Hid (firstI (fun m => decide (m.name = x)) l = (k : Int)) := first_at Ha.out HK.out hq
        rw [hq] at hcall
        clear hq
        go_wp2_with fail
        refine hcall.mono ?_
        rintro e w1 ⟨rfl, hb1⟩
        go_wp2
        go_ret
        exact ⟨by rw [HF.out]; rfl, hb.trans (hb1.mono hb.size)⟩
      | false =>
        have HX : Hid (∀ a ∈ l.take (k + 1), decide (a.name = x) = false) := by
          show ∀ a ∈ _, _
          rw [take_snoc Ha.out]
          intro y hy
          rcases List.mem_append.1 hy with hy | hy
          · exact HK.out y hy
          · rw [List.mem_singleton] at hy; rw [hy]; exact hq
        rw [hq] at hcall
        clear hq
        go_wp2_with fail
        refine hcall.mono ?_
        rintro e w1 ⟨rfl, hb1⟩
        go_wp2_with fail
        go_roundg (n - (k + 1))
        case measure => omega
        case rel => exact ⟨k + 1, by omega, by go_num, HX, hb.trans (hb1.mono hb.size)⟩
    · have HF : Hid (firstI (fun m => decide (m.name = x)) l = -1) := by
        have := HK.out
        rw [List.take_of_length_le (by rw [← Hn.out]; omega)] at this
        exact first_none this
      go_wp2
      go_ret
      exact ⟨by rw [HF.out]; rfl, hb⟩
set_option maxHeartbeats 1000000 in
set_option maxRecDepth 100000 in
theorem enum_any {vm ve : Value} {l : List EI} {w : World} (h : RdL 2 EAt w ve l) (hve : ∃ ao n cap, vm = .slice ao n cap) (x : List UInt8) :
    Calls Tryz.prog 10 #[.agg #[vm, ve], .string (S x)] w fun e w' => e = .returned (.int .i64 (firstI (fun m => decide (m.name = x)) l)) ∧ Below w.heap.size w w' := by
  obtain ⟨ao, n, cap, rfl, Hn, hcap⟩ := h.shape
  obtain ⟨ae, ne, ce, rfl⟩ := hve
  have hmf := makeF
  have hb2 : Below w.heap.size w ((w.alloc (.cells #[.slice ae ne ce, .slice ao n cap] 25)).alloc (.cells #[.string (S x)] 9)) := ((Below.refl _ _).alloc (Nat.le_refl _) _).alloc (by simp) _
  have hi := enmIdx_any (h.below EAt.stays hb2) (alloc2_new w _ _)
  go_enter Tryz.func10, Tryz.ntmps10
  go_wp2_with fail
  refine hi.mono ?_
  rintro e w1 ⟨rfl, hb1⟩
  go_wp2
  go_ret
  exact ⟨rfl, hb2.trans (hb1.mono hb2.size)⟩

end L
end Go.Proofs.YtenlijgnmhdopaaGreatDoor

/- The contract of firstBroken, whatever the rules are. -/
namespace Go.Proofs.YtenlijgnmhdopaaGreatDoor
namespace L
open Go.RowKit

/-- Of what was there nothing but the blocks cs, and lists of strings and of numbers from block B on, has turned. -/
structure Fr (B : Nat) (cs : List Nat) (w w' : World) : Prop where
  os : w'.os = w.os
  tape : w'.tape = w.tape
  output : w'.output = w.output
  size : w.heap.size ≤ w'.heap.size
  block : ∀ k, k < w.heap.size → k ∉ cs → (k < B ∨ ∀ xs fr, w.heap[k]? ≠ some (.cells xs 9 fr) ∧ w.heap[k]? ≠ some (.cells xs 3 fr)) → w'.heap[k]? = w.heap[k]?
theorem Fr.refl (B : Nat) (cs : List Nat) (w : World) : Fr B cs w w := ⟨rfl, rfl, rfl, Nat.le_refl _, fun _ _ _ _ => rfl⟩
theorem Fr.trans {B : Nat} {cs : List Nat} {a b c : World} (h : Fr B cs a b) (k : Fr B cs b c) : Fr B cs a c :=
  ⟨k.os.trans h.os, k.tape.trans h.tape, k.output.trans h.output, Nat.le_trans h.size k.size, fun i hi hc hk => by
    have e := h.block i hi hc hk
    rw [k.block i (Nat.lt_of_lt_of_le hi h.size) hc ?_, e]
    rcases hk with hk | hk
    · exact .inl hk
    · right; intro xs fr; rw [e]; exact hk xs fr⟩
theorem Fr.of_below {B : Nat} {cs : List Nat} {w w' : World} (h : Below w.heap.size w w') : Fr B cs w w' := ⟨h.os, h.tape, h.output, h.size, fun k hk _ _ => h.block k hk⟩
theorem Fr.below {B B0 : Nat} {cs : List Nat} {w w' : World} (h : Fr B cs w w') (hB : B0 ≤ B) (hw : B0 ≤ w.heap.size) (hc : ∀ c ∈ cs, B0 ≤ c) : Below B0 w w' :=
  ⟨h.os, h.tape, h.output, h.size, fun k hk => h.block k (by omega) (fun e => by have := hc k e; omega) (.inl (by omega))⟩

theorem Fr.setNew {B : Nat} {cs : List Nat} {w x : World} (h : Fr B cs w x) (i : Nat) (v : Value) : Fr B cs w (x.setCell ⟨w.heap.size, i, none⟩ v) :=
  ⟨h.os, h.tape, h.output, by simpa using h.size, fun k hk hc hq => (Below.heap_setCell x ⟨w.heap.size, i, none⟩ v k (show k ≠ w.heap.size by omega)).trans (h.block k hk hc hq)⟩

/-- Rule by rule: the first one that is broken, and what is remembered. -/
def rulesGo {α σ : Type} (step : Nat → α → σ → Bool × σ) : Nat → List Int → α → σ → Option Int × σ
  | _, [], _, s => (none, s)
  | j, e :: r, x, s => if (step j x s).1 then (some e, (step j x s).2) else rulesGo step (j + 1) r x (step j x s).2
def firstGo {α σ : Type} (step : Nat → α → σ → Bool × σ) (errs : List Int) : Nat → List α → σ → Int × Nat
  | _, [], _ => (0, 0)
  | i, x :: l, s => match rulesGo step 0 errs x s with
    | (some e, _) => (e, i)
    | (none, s') => firstGo step errs (i + 1) l s'

def fv (f : FI) : Value := .agg #[.string (S f.name), .int .i64 f.number, .int .i64 f.kind, .string (S f.type), .bool f.many, .int .i64 f.choice]
/-- A rule: its error, the function, what that has captured. -/
structure Ru where
  err : Int
  fn : Nat
  cap : Array Value
def ruCells (rs : List Ru) : Array Value := (rs.flatMap fun r => [.int .i64 r.err, .func (.func r.fn) #[] r.cap]).toArray
theorem rules_step {α σ : Type} {step : Nat → α → σ → Bool × σ} {errs : List Int} {j : Nat} {e : Int} (he : errs[j]? = some e) (x : α) (s : σ) : rulesGo step j (errs.drop j) x s = if (step j x s).1 then (some e, (step j x s).2) else rulesGo step (j + 1) (errs.drop (j + 1)) x (step j x s).2 := by
  obtain ⟨hk, e1⟩ := List.getElem?_eq_some_iff.1 he
  rw [List.drop_eq_getElem_cons hk, e1, rulesGo]
theorem first_step {α σ : Type} {step : Nat → α → σ → Bool × σ} {errs : List Int} {l : List α} {k : Nat} {a : α} (ha : l[k]? = some a) (s : σ) : firstGo step errs k (l.drop k) s = match rulesGo step 0 errs a s with | (some e, _) => (e, k) | (none, s') => firstGo step errs (k + 1) (l.drop (k + 1)) s' := by
  obtain ⟨hk, e1⟩ := List.getElem?_eq_some_iff.1 ha
  rw [List.drop_eq_getElem_cons hk, e1, firstGo]
theorem Fr.keep {B : Nat} {cs : List Nat} {w w' : World} (h : Fr B cs w w') {k : Nat} {xs : Array Value} {t : TypeId} {fr : Nat × Nat} (hk : w.heap[k]? = some (.cells xs t fr)) (hc : k ∉ cs) (ht : t ≠ 9 ∧ t ≠ 3) : w'.heap[k]? = some (.cells xs t fr) := by
  rw [h.block k (Array.getElem?_eq_some_iff.1 hk).1 hc ?_]
  · exact hk
  · right
    intro ys f
    rw [hk]
    simp
    exact ⟨fun _ e => absurd e ht.1, fun _ e => absurd e ht.2⟩
theorem ru_at {rs : List Ru} {j : Nat} {r : Ru} (h : rs[j]? = some r) : (ruCells rs)[j * 2]? = some (.int .i64 r.err) ∧ (ruCells rs)[j * 2 + 1]? = some (.func (.func r.fn) #[] r.cap) := by
  unfold ruCells
  rw [List.getElem?_toArray, List.getElem?_toArray]
  induction rs generalizing j with
  | nil => simp at h
  | cons q rs ih =>
    cases j with
    | zero => simp at h; subst h; simp
    | succ j =>
      have h' : rs[j]? = some r := by simpa using h
      have := ih h'
      rw [List.flatMap_cons]
      rw [show (j + 1) * 2 = (j * 2) + 2 by omega, show (j * 2) + 2 + 1 = (j * 2 + 1) + 2 by omega]
      simpa using this

set_option maxHeartbeats 2000000 in
set_option maxRecDepth 100000 in
theorem brokenF_any {σ : Type} {B B0 : Nat} {cs : List Nat} {w : World} {vl : Value} {l : List FI} {rs : List Ru} {g : Nat} (step : Nat → FI → σ → Bool × σ) (Inv : Nat → Nat → σ → World → Prop) (s0 : σ)
    (hl : ∀ W, Below B0 w W → RdL 6 FAt W vl l) (hg : w.heap[g]? = some (.cells (ruCells rs) 102 (0, 0))) (hgc : g ∉ cs) (hB0 : B0 ≤ B) (hBw : B ≤ w.heap.size) (hcs : ∀ c ∈ cs, B0 ≤ c) (hcsB : ∀ c ∈ cs, c < B) (hrs : rs.length ≤ 100)
    (hent : ∀ r ∈ rs, ∀ (args : Array Value) (w : World), (callFunc r.fn args).run Tryz.prog w = .ok (.enter r.fn args) w) (hI : Inv 0 0 s0 w) (hIb : ∀ k j s W W', B ≤ W.heap.size → Inv k j s W → Below W.heap.size W W' → Inv k j s W') (hnx : ∀ k s W, k < l.length → Inv k rs.length s W → Inv (k + 1) 0 s W)
    (hcall : ∀ k j r f s W, l[k]? = some f → rs[j]? = some r → B ≤ W.heap.size → Fr B cs w W → Inv k j s W → Calls Tryz.prog r.fn (#[fv f] ++ r.cap) W fun e W' => e = .returned (.bool (step j f s).1) ∧ ((step j f s).1 = false → Inv k (j + 1) (step j f s).2 W') ∧ Fr B cs W W') :
    Calls Tryz.prog 36 #[vl, .slice (some ⟨g, 0, none⟩) rs.length rs.length] w fun e w' => e = .returned (.agg #[.int .i64 (firstGo step (rs.map Ru.err) 0 l s0).1, .int .i64 (((firstGo step (rs.map Ru.err) 0 l s0).2 : Nat) : Int)]) ∧ Fr B cs w w' := by
  obtain ⟨ao, n, cap, rfl, Hn, hcap⟩ := (hl w (Below.refl _ _)).shape
  obtain ⟨m, Hm⟩ : ∃ m, Hid (m = rs.length) := ⟨_, rfl⟩
  have hm : m ≤ 100 := by rw [Hm.out]; exact hrs
  rw [← Hm.out]
  obtain ⟨errs, Herr⟩ : ∃ errs, Hid (errs = rs.map Ru.err) := ⟨_, rfl⟩
  rw [← Herr.out]
  obtain ⟨W0, HW0⟩ : ∃ W0, Hid (W0 = w.alloc (.cells #[.int .i64 0, .int .i64 0] 29)) := ⟨_, rfl⟩
  have hb0 : Below w.heap.size w W0 := by rw [HW0.out]; exact (Below.refl _ _).alloc (Nat.le_refl _) _
  have hR0 : W0.heap[w.heap.size]? = some (.cells #[.int .i64 0, .int .i64 0] 29 (0, 0)) := by rw [HW0.out]; exact heap_alloc_new _ _
  have hz0 : w.heap.size + 1 ≤ W0.heap.size := by rw [HW0.out]; simp
  have hRc : w.heap.size ∉ cs := fun e => by have := hcsB _ e; omega
  have hF0 : Fr B cs w W0 := Fr.of_below hb0
  go_enter Tryz.func36, Tryz.ntmps36
  go_wp2_with fail
  rw [← HW0.out]
  go_loopg [11] n (fun gm i wr => ∃ (k : Nat) (s : σ), k + gm = n ∧ i = .int .i64 k ∧ Inv k 0 s wr ∧ Fr B cs W0 wr ∧ Hid (firstGo step errs 0 l s0 = firstGo step errs k (l.drop k) s))
  case atStart => exact ⟨0, s0, by omega, rfl, hIb _ _ _ _ _ hBw hI hb0, Fr.refl _ _ _, rfl⟩
  case round =>
    obtain ⟨k, s, hk, rfl, hIs, hFr, HK⟩ := hrel
    obtain ⟨wo, Hwo⟩ : ∃ wo, wo = wr := ⟨_, rfl⟩
    subst Hwo
    have hFw := hF0.trans hFr
    have hRo := hFr.keep hR0 hRc (by decide)
    have hzo : w.heap.size + 1 ≤ wo.heap.size := Nat.le_trans hz0 hFr.size
    by_cases hlt : k < n
    · obtain ⟨f, Hf⟩ : ∃ f, Hid (l[k]? = some f) := ⟨l[k]'(by rw [← Hn.out]; exact hlt), List.getElem?_eq_getElem (by rw [← Hn.out]; exact hlt)⟩
      have HK2 : Hid (firstGo step errs 0 l s0 = match rulesGo step 0 errs f s with | (some e, _) => (e, k) | (none, s') => firstGo step errs (k + 1) (l.drop (k + 1)) s') := by show _ = _; rw [HK.out, first_step Hf.out]
      obtain ⟨b, off, rfl, hat⟩ := (hl wo (hFw.below hB0 (by omega) hcs)).get FAt.plain Hf.out
      obtain ⟨t0, t1, t2, t3, t4, t5⟩ := hat.at
      have hki : (k : Int) < (n : Int) := by omega
      obtain ⟨W1, HW1⟩ : ∃ W1, Hid (W1 = wo.alloc (.cells #[.string (S f.name), .int .i64 f.number, .int .i64 f.kind, .string (S f.type), .bool f.many, .int .i64 f.choice] 39)) := ⟨_, rfl⟩
      have hb1 : Below wo.heap.size wo W1 := by rw [HW1.out]; exact (Below.refl _ _).alloc (Nat.le_refl _) _
      have hX1 : W1.heap[wo.heap.size]? = some (.cells #[.string (S f.name), .int .i64 f.number, .int .i64 f.kind, .string (S f.type), .bool f.many, .int .i64 f.choice] 39 (0, 0)) := by rw [HW1.out]; exact heap_alloc_new _ _
      have hz1 : wo.heap.size + 1 ≤ W1.heap.size := by rw [HW1.out]; simp
      have hF1 : Fr B cs wo W1 := Fr.of_below hb1
      have hXc : wo.heap.size ∉ cs := fun e => by have := hcsB _ e; omega
      have hI1 := hIb _ _ _ _ _ (by omega) hIs hb1
      clear hat
      go_wp2_with fail
      rw [← HW1.out]
      go_loopg [18] m (fun gm i wi => ∃ (j : Nat) (s' : σ), j + gm = m ∧ i = .int .i64 j ∧ Inv k j s' wi ∧ Fr B cs W1 wi ∧ Hid (rulesGo step 0 errs f s = rulesGo step j (errs.drop j) f s'))
      case atStart => exact ⟨0, s, by omega, rfl, hI1, Fr.refl _ _ _, rfl⟩
      case round =>
        clear t0 t1 t2 t3 t4 t5
        obtain ⟨j, s', hj, rfl, hIi, hFi, HJ⟩ := hrel
        obtain ⟨wi, Hwi⟩ : ∃ wi, wi = wr := ⟨_, rfl⟩
        subst Hwi
        have hFwi := hFw.trans (hF1.trans hFi)
        have hzi : wo.heap.size + 1 ≤ wi.heap.size := Nat.le_trans hz1 hFi.size
        by_cases hjl : j < m
        · obtain ⟨r, Hr⟩ : ∃ r, Hid (rs[j]? = some r) := ⟨rs[j]'(by rw [← Hm.out]; exact hjl), List.getElem?_eq_getElem (by rw [← Hm.out]; exact hjl)⟩
          have He : Hid (errs[j]? = some r.err) := by show _ = _; rw [Herr.out, List.getElem?_map, Hr.out]; rfl
          have HJ2 : Hid (rulesGo step 0 errs f s = if (step j f s').1 then (some r.err, (step j f s').2) else rulesGo step (j + 1) (errs.drop (j + 1)) f (step j f s').2) := by show _ = _; rw [HJ.out, rules_step He.out]
          have hgi := hFwi.keep hg hgc (by decide)
          obtain ⟨ra, rb⟩ := ru_at Hr.out
          have g0 := cell_of_blk hgi _ _ ra
          have g1 := cell_of_blk hgi _ _ rb
          have hji : (j : Int) < (m : Int) := by omega
          obtain ⟨W2, HW2⟩ : ∃ W2, Hid (W2 = wi.alloc (.cells #[.int .i64 r.err, .func (.func r.fn) #[] r.cap] 102)) := ⟨_, rfl⟩
          have hb2 : Below wi.heap.size wi W2 := by rw [HW2.out]; exact (Below.refl _ _).alloc (Nat.le_refl _) _
          have hQ2 : W2.heap[wi.heap.size]? = some (.cells #[.int .i64 r.err, .func (.func r.fn) #[] r.cap] 102 (0, 0)) := by rw [HW2.out]; exact heap_alloc_new _ _
          have hF2 : Fr B cs wi W2 := Fr.of_below hb2
          have hQc : wi.heap.size ∉ cs := fun e => by have := hcsB _ e; omega
          have hXi := (hFi.trans hF2).keep hX1 hXc (by decide)
          have hc := hcall k j r f s' W2 Hf.out Hr.out (by have := hb2.size; omega) (hFwi.trans hF2) (hIb _ _ _ _ _ (by omega) hIi hb2)
          rw [HW2.out] at hc hXi
          obtain ⟨x0, x1, x2, x3, x4, x5⟩ := blk6 hXi
          unfold fv at hc
          have hen := hent r (List.mem_of_getElem? Hr.out)
          have hbk := (hb2.block w.heap.size (by omega)).trans ((hFi.keep ((hb1.block w.heap.size (by omega)).trans hRo) hRc (by decide)))
          rw [HW2.out] at hbk hQ2
          have hFq : Fr B cs W0 (wi.alloc (.cells #[.int .i64 r.err, .func (.func r.fn) #[] r.cap] 102)) := by rw [← HW2.out]; exact hFr.trans (hF1.trans (hFi.trans hF2))
          have hFp : Fr B cs W1 (wi.alloc (.cells #[.int .i64 r.err, .func (.func r.fn) #[] r.cap] 102)) := by rw [← HW2.out]; exact hFi.trans hF2
          obtain ⟨q, Hq⟩ : ∃ q, Hid (q = (step j f s').1) := ⟨_, rfl⟩
          rw [← Hq.out] at hc
          clear ra rb hcall hl hIb hent hnx
          cases q with
          | true =>
            have HE : Hid (firstGo step errs 0 l s0 = (r.err, k)) := by show _ = _; rw [HK2.out, HJ2.out, ← Hq.out]; rfl
            go_wp2_with fail
            refine hc.mono ?_
            rintro e w3 ⟨rfl, _, hF3⟩
            have hQ3 := hF3.keep hQ2 hQc (by decide)
            have hR3 := hF3.keep hbk hRc (by decide)
            obtain ⟨y0, y1⟩ := blk2 hQ3
            obtain ⟨z0, z1⟩ := blk2 hR3
            have f0 := fr_of_blk hR3 0
            have f1 := fr_of_blk hR3 1
            clear hen
            go_wp2
            refine bodyPost_ret (v := .agg #[.int .i64 r.err, .int .i64 (k : Int)]) (by simp [results, Tryz.results36, go_sem, *]) rfl ?_
            exact ⟨by rw [HE.out], (((hF0.trans hFq).trans hF3).setNew 0 _).setNew 1 _⟩
          | false =>
            have HJ3 : Hid (rulesGo step 0 errs f s = rulesGo step (j + 1) (errs.drop (j + 1)) f (step j f s').2) := by show _ = _; rw [HJ2.out, ← Hq.out]; rfl
            go_wp2_with fail
            refine hc.mono ?_
            rintro e w3 ⟨rfl, hI3, hF3⟩
            clear hen
            go_wp2_with fail
            go_roundg (m - (j + 1))
            case measure => omega
            case rel => exact ⟨j + 1, _, by omega, by go_num, hI3 trivial, hFp.trans hF3, HJ3⟩
        · have HE : Hid (firstGo step errs 0 l s0 = firstGo step errs (k + 1) (l.drop (k + 1)) s') := by
            have e : errs.drop j = [] := List.drop_eq_nil_of_le (by rw [Herr.out, List.length_map, ← Hm.out]; omega)
            show _ = _; rw [HK2.out, HJ.out, e]; rfl
          have hI9 : Inv (k + 1) 0 s' wi := by
            have hjm : j = rs.length := by rw [← Hm.out]; omega
            rw [hjm] at hIi
            exact hnx k s' wi (by rw [← Hn.out]; exact hlt) hIi
          clear hcall hl hIb hent hnx
          go_wp2_with fail
          go_roundg (n - (k + 1))
          case measure => omega
          case rel => exact ⟨k + 1, s', by omega, by go_num, hI9, hFr.trans (hF1.trans hFi), HE⟩
    · have HE : Hid (firstGo step errs 0 l s0 = (0, 0)) := by
        have e : l.drop k = [] := List.drop_eq_nil_of_le (by rw [← Hn.out]; omega)
        show _ = _; rw [HK.out, e]; rfl
      obtain ⟨z0, z1⟩ := blk2 hRo
      have f0 := fr_of_blk hRo 0
      have f1 := fr_of_blk hRo 1
      clear hcall hl hIb hent hnx
      go_wp2
      refine bodyPost_ret (v := .agg #[.int .i64 0, .int .i64 0]) (by simp [results, Tryz.results36, go_sem, *]) rfl ?_
      exact ⟨by rw [HE.out]; rfl, (hFw.setNew 0 _).setNew 1 _⟩

def iv (i : II) : Value := .agg #[.string (S i.name), .int .i64 i.value]
set_option maxHeartbeats 2000000 in
set_option maxRecDepth 100000 in
theorem brokenI_any {σ : Type} {B B0 : Nat} {cs : List Nat} {w : World} {vl : Value} {l : List II} {rs : List Ru} {g : Nat} (step : Nat → II → σ → Bool × σ) (Inv : Nat → Nat → σ → World → Prop) (s0 : σ)
    (hl : ∀ W, Below B0 w W → RdL 2 TAt W vl l) (hg : w.heap[g]? = some (.cells (ruCells rs) 108 (0, 0))) (hgc : g ∉ cs) (hB0 : B0 ≤ B) (hBw : B ≤ w.heap.size) (hcs : ∀ c ∈ cs, B0 ≤ c) (hcsB : ∀ c ∈ cs, c < B) (hrs : rs.length ≤ 100)
    (hent : ∀ r ∈ rs, ∀ (args : Array Value) (w : World), (callFunc r.fn args).run Tryz.prog w = .ok (.enter r.fn args) w) (hI : Inv 0 0 s0 w) (hIb : ∀ k j s W W', B ≤ W.heap.size → Inv k j s W → Below W.heap.size W W' → Inv k j s W') (hnx : ∀ k s W, k < l.length → Inv k rs.length s W → Inv (k + 1) 0 s W)
    (hcall : ∀ k j r f s W, l[k]? = some f → rs[j]? = some r → B ≤ W.heap.size → Fr B cs w W → Inv k j s W → Calls Tryz.prog r.fn (#[iv f] ++ r.cap) W fun e W' => e = .returned (.bool (step j f s).1) ∧ ((step j f s).1 = false → Inv k (j + 1) (step j f s).2 W') ∧ Fr B cs W W') :
    Calls Tryz.prog 38 #[vl, .slice (some ⟨g, 0, none⟩) rs.length rs.length] w fun e w' => e = .returned (.agg #[.int .i64 (firstGo step (rs.map Ru.err) 0 l s0).1, .int .i64 (((firstGo step (rs.map Ru.err) 0 l s0).2 : Nat) : Int)]) ∧ Fr B cs w w' := by
  obtain ⟨ao, n, cap, rfl, Hn, hcap⟩ := (hl w (Below.refl _ _)).shape
  obtain ⟨m, Hm⟩ : ∃ m, Hid (m = rs.length) := ⟨_, rfl⟩
  have hm : m ≤ 100 := by rw [Hm.out]; exact hrs
  rw [← Hm.out]
  obtain ⟨errs, Herr⟩ : ∃ errs, Hid (errs = rs.map Ru.err) := ⟨_, rfl⟩
  rw [← Herr.out]
  obtain ⟨W0, HW0⟩ : ∃ W0, Hid (W0 = w.alloc (.cells #[.int .i64 0, .int .i64 0] 29)) := ⟨_, rfl⟩
  have hb0 : Below w.heap.size w W0 := by rw [HW0.out]; exact (Below.refl _ _).alloc (Nat.le_refl _) _
  have hR0 : W0.heap[w.heap.size]? = some (.cells #[.int .i64 0, .int .i64 0] 29 (0, 0)) := by rw [HW0.out]; exact heap_alloc_new _ _
  have hz0 : w.heap.size + 1 ≤ W0.heap.size := by rw [HW0.out]; simp
  have hRc : w.heap.size ∉ cs := fun e => by have := hcsB _ e; omega
  have hF0 : Fr B cs w W0 := Fr.of_below hb0
  go_enter Tryz.func38, Tryz.ntmps38
  go_wp2_with fail
  rw [← HW0.out]
  go_loopg [11] n (fun gm i wr => ∃ (k : Nat) (s : σ), k + gm = n ∧ i = .int .i64 k ∧ Inv k 0 s wr ∧ Fr B cs W0 wr ∧ Hid (firstGo step errs 0 l s0 = firstGo step errs k (l.drop k) s))
  case atStart => exact ⟨0, s0, by omega, rfl, hIb _ _ _ _ _ hBw hI hb0, Fr.refl _ _ _, rfl⟩
  case round =>
    obtain ⟨k, s, hk, rfl, hIs, hFr, HK⟩ := hrel
    obtain ⟨wo, Hwo⟩ : ∃ wo, wo = wr := ⟨_, rfl⟩
    subst Hwo
    have hFw := hF0.trans hFr
    have hRo := hFr.keep hR0 hRc (by decide)
    have hzo : w.heap.size + 1 ≤ wo.heap.size := Nat.le_trans hz0 hFr.size
    by_cases hlt : k < n
    · obtain ⟨f, Hf⟩ : ∃ f, Hid (l[k]? = some f) := ⟨l[k]'(by rw [← Hn.out]; exact hlt), List.getElem?_eq_getElem (by rw [← Hn.out]; exact hlt)⟩
      have HK2 : Hid (firstGo step errs 0 l s0 = match rulesGo step 0 errs f s with | (some e, _) => (e, k) | (none, s') => firstGo step errs (k + 1) (l.drop (k + 1)) s') := by show _ = _; rw [HK.out, first_step Hf.out]
      obtain ⟨b, off, rfl, hat⟩ := (hl wo (hFw.below hB0 (by omega) hcs)).get TAt.plain Hf.out
      obtain ⟨t0, t1⟩ := hat.at
      have hki : (k : Int) < (n : Int) := by omega
      obtain ⟨W1, HW1⟩ : ∃ W1, Hid (W1 = wo.alloc (.cells #[.string (S f.name), .int .i64 f.value] 52)) := ⟨_, rfl⟩
      have hb1 : Below wo.heap.size wo W1 := by rw [HW1.out]; exact (Below.refl _ _).alloc (Nat.le_refl _) _
      have hX1 : W1.heap[wo.heap.size]? = some (.cells #[.string (S f.name), .int .i64 f.value] 52 (0, 0)) := by rw [HW1.out]; exact heap_alloc_new _ _
      have hz1 : wo.heap.size + 1 ≤ W1.heap.size := by rw [HW1.out]; simp
      have hF1 : Fr B cs wo W1 := Fr.of_below hb1
      have hXc : wo.heap.size ∉ cs := fun e => by have := hcsB _ e; omega
      have hI1 := hIb _ _ _ _ _ (by omega) hIs hb1
      clear hat
      go_wp2_with fail
      rw [← HW1.out]
      go_loopg [18] m (fun gm i wi => ∃ (j : Nat) (s' : σ), j + gm = m ∧ i = .int .i64 j ∧ Inv k j s' wi ∧ Fr B cs W1 wi ∧ Hid (rulesGo step 0 errs f s = rulesGo step j (errs.drop j) f s'))
      case atStart => exact ⟨0, s, by omega, rfl, hI1, Fr.refl _ _ _, rfl⟩
      case round =>
        clear t0 t1
        obtain ⟨j, s', hj, rfl, hIi, hFi, HJ⟩ := hrel
        obtain ⟨wi, Hwi⟩ : ∃ wi, wi = wr := ⟨_, rfl⟩
        subst Hwi
        have hFwi := hFw.trans (hF1.trans hFi)
        have hzi : wo.heap.size + 1 ≤ wi.heap.size := Nat.le_trans hz1 hFi.size
        by_cases hjl : j < m
        · obtain ⟨r, Hr⟩ : ∃ r, Hid (rs[j]? = some r) := ⟨rs[j]'(by rw [← Hm.out]; exact hjl), List.getElem?_eq_getElem (by rw [← Hm.out]; exact hjl)⟩
          have He : Hid (errs[j]? = some r.err) := by show _ = _; rw [Herr.out, List.getElem?_map, Hr.out]; rfl
          have HJ2 : Hid (rulesGo step 0 errs f s = if (step j f s').1 then (some r.err, (step j f s').2) else rulesGo step (j + 1) (errs.drop (j + 1)) f (step j f s').2) := by show _ = _; rw [HJ.out, rules_step He.out]
          have hgi := hFwi.keep hg hgc (by decide)
          obtain ⟨ra, rb⟩ := ru_at Hr.out
          have g0 := cell_of_blk hgi _ _ ra
          have g1 := cell_of_blk hgi _ _ rb
          have hji : (j : Int) < (m : Int) := by omega
          obtain ⟨W2, HW2⟩ : ∃ W2, Hid (W2 = wi.alloc (.cells #[.int .i64 r.err, .func (.func r.fn) #[] r.cap] 108)) := ⟨_, rfl⟩
          have hb2 : Below wi.heap.size wi W2 := by rw [HW2.out]; exact (Below.refl _ _).alloc (Nat.le_refl _) _
          have hQ2 : W2.heap[wi.heap.size]? = some (.cells #[.int .i64 r.err, .func (.func r.fn) #[] r.cap] 108 (0, 0)) := by rw [HW2.out]; exact heap_alloc_new _ _
          have hF2 : Fr B cs wi W2 := Fr.of_below hb2
          have hQc : wi.heap.size ∉ cs := fun e => by have := hcsB _ e; omega
          have hXi := (hFi.trans hF2).keep hX1 hXc (by decide)
          have hc := hcall k j r f s' W2 Hf.out Hr.out (by have := hb2.size; omega) (hFwi.trans hF2) (hIb _ _ _ _ _ (by omega) hIi hb2)
          rw [HW2.out] at hc hXi
          obtain ⟨x0, x1⟩ := blk2 hXi
          unfold iv at hc
          have hen := hent r (List.mem_of_getElem? Hr.out)
          have hbk := (hb2.block w.heap.size (by omega)).trans ((hFi.keep ((hb1.block w.heap.size (by omega)).trans hRo) hRc (by decide)))
          rw [HW2.out] at hbk hQ2
          have hFq : Fr B cs W0 (wi.alloc (.cells #[.int .i64 r.err, .func (.func r.fn) #[] r.cap] 108)) := by rw [← HW2.out]; exact hFr.trans (hF1.trans (hFi.trans hF2))
          have hFp : Fr B cs W1 (wi.alloc (.cells #[.int .i64 r.err, .func (.func r.fn) #[] r.cap] 108)) := by rw [← HW2.out]; exact hFi.trans hF2
          obtain ⟨q, Hq⟩ : ∃ q, Hid (q = (step j f s').1) := ⟨_, rfl⟩
          rw [← Hq.out] at hc
          clear ra rb hcall hl hIb hent hnx
          cases q with
          | true =>
            have HE : Hid (firstGo step errs 0 l s0 = (r.err, k)) := by show _ = _; rw [HK2.out, HJ2.out, ← Hq.out]; rfl
            go_wp2_with fail
            refine hc.mono ?_
            rintro e w3 ⟨rfl, _, hF3⟩
            have hQ3 := hF3.keep hQ2 hQc (by decide)
            have hR3 := hF3.keep hbk hRc (by decide)
            obtain ⟨y0, y1⟩ := blk2 hQ3
            obtain ⟨z0, z1⟩ := blk2 hR3
            have f0 := fr_of_blk hR3 0
            have f1 := fr_of_blk hR3 1
            clear hen
            go_wp2
            refine bodyPost_ret (v := .agg #[.int .i64 r.err, .int .i64 (k : Int)]) (by simp [results, Tryz.results38, go_sem, *]) rfl ?_
            exact ⟨by rw [HE.out], (((hF0.trans hFq).trans hF3).setNew 0 _).setNew 1 _⟩
          | false =>
            have HJ3 : Hid (rulesGo step 0 errs f s = rulesGo step (j + 1) (errs.drop (j + 1)) f (step j f s').2) := by show _ = _; rw [HJ2.out, ← Hq.out]; rfl
            go_wp2_with fail
            refine hc.mono ?_
            rintro e w3 ⟨rfl, hI3, hF3⟩
            clear hen
            go_wp2_with fail
            go_roundg (m - (j + 1))
            case measure => omega
            case rel => exact ⟨j + 1, _, by omega, by go_num, hI3 trivial, hFp.trans hF3, HJ3⟩
        · have HE : Hid (firstGo step errs 0 l s0 = firstGo step errs (k + 1) (l.drop (k + 1)) s') := by
            have e : errs.drop j = [] := List.drop_eq_nil_of_le (by rw [Herr.out, List.length_map, ← Hm.out]; omega)
            show _ = _; rw [HK2.out, HJ.out, e]; rfl
          have hI9 : Inv (k + 1) 0 s' wi := by
            have hjm : j = rs.length := by rw [← Hm.out]; omega
            rw [hjm] at hIi
            exact hnx k s' wi (by rw [← Hn.out]; exact hlt) hIi
          clear hcall hl hIb hent hnx
          go_wp2_with fail
          go_roundg (n - (k + 1))
          case measure => omega
          case rel => exact ⟨k + 1, s', by omega, by go_num, hI9, hFr.trans (hF1.trans hFi), HE⟩
    · have HE : Hid (firstGo step errs 0 l s0 = (0, 0)) := by
        have e : l.drop k = [] := List.drop_eq_nil_of_le (by rw [← Hn.out]; omega)
        show _ = _; rw [HK.out, e]; rfl
      obtain ⟨z0, z1⟩ := blk2 hRo
      have f0 := fr_of_blk hRo 0
      have f1 := fr_of_blk hRo 1
      clear hcall hl hIb hent hnx
      go_wp2
      refine bodyPost_ret (v := .agg #[.int .i64 0, .int .i64 0]) (by simp [results, Tryz.results38, go_sem, *]) rfl ?_
      exact ⟨by rw [HE.out]; rfl, (hFw.setNew 0 _).setNew 1 _⟩

set_option maxHeartbeats 2000000 in
set_option maxRecDepth 100000 in
theorem brokenS_any {σ : Type} {B B0 : Nat} {cs : List Nat} {w : World} {vl : Value} {l : List (List UInt8)} {rs : List Ru} {g : Nat} (step : Nat → List UInt8 → σ → Bool × σ) (Inv : Nat → Nat → σ → World → Prop) (s0 : σ)
    (hl : ∀ W, Below B0 w W → RdL 1 SAt W vl l) (hg : w.heap[g]? = some (.cells (ruCells rs) 75 (0, 0))) (hgc : g ∉ cs) (hB0 : B0 ≤ B) (hBw : B ≤ w.heap.size) (hcs : ∀ c ∈ cs, B0 ≤ c) (hcsB : ∀ c ∈ cs, c < B) (hrs : rs.length ≤ 100)
    (hent : ∀ r ∈ rs, ∀ (args : Array Value) (w : World), (callFunc r.fn args).run Tryz.prog w = .ok (.enter r.fn args) w) (hI : Inv 0 0 s0 w) (hIb : ∀ k j s W W', B ≤ W.heap.size → Inv k j s W → Below W.heap.size W W' → Inv k j s W') (hnx : ∀ k s W, k < l.length → Inv k rs.length s W → Inv (k + 1) 0 s W)
    (hcall : ∀ k j r f s W, l[k]? = some f → rs[j]? = some r → B ≤ W.heap.size → Fr B cs w W → Inv k j s W → Calls Tryz.prog r.fn (#[.string (S f)] ++ r.cap) W fun e W' => e = .returned (.bool (step j f s).1) ∧ ((step j f s).1 = false → Inv k (j + 1) (step j f s).2 W') ∧ Fr B cs W W') :
    Calls Tryz.prog 17 #[vl, .slice (some ⟨g, 0, none⟩) rs.length rs.length] w fun e w' => e = .returned (.agg #[.int .i64 (firstGo step (rs.map Ru.err) 0 l s0).1, .int .i64 (((firstGo step (rs.map Ru.err) 0 l s0).2 : Nat) : Int)]) ∧ Fr B cs w w' := by
  obtain ⟨ao, n, cap, rfl, Hn, hcap⟩ := (hl w (Below.refl _ _)).shape
  obtain ⟨m, Hm⟩ : ∃ m, Hid (m = rs.length) := ⟨_, rfl⟩
  have hm : m ≤ 100 := by rw [Hm.out]; exact hrs
  rw [← Hm.out]
  obtain ⟨errs, Herr⟩ : ∃ errs, Hid (errs = rs.map Ru.err) := ⟨_, rfl⟩
  rw [← Herr.out]
  obtain ⟨W0, HW0⟩ : ∃ W0, Hid (W0 = w.alloc (.cells #[.int .i64 0, .int .i64 0] 29)) := ⟨_, rfl⟩
  have hb0 : Below w.heap.size w W0 := by rw [HW0.out]; exact (Below.refl _ _).alloc (Nat.le_refl _) _
  have hR0 : W0.heap[w.heap.size]? = some (.cells #[.int .i64 0, .int .i64 0] 29 (0, 0)) := by rw [HW0.out]; exact heap_alloc_new _ _
  have hz0 : w.heap.size + 1 ≤ W0.heap.size := by rw [HW0.out]; simp
  have hRc : w.heap.size ∉ cs := fun e => by have := hcsB _ e; omega
  have hF0 : Fr B cs w W0 := Fr.of_below hb0
  go_enter Tryz.func17, Tryz.ntmps17
  go_wp2_with fail
  rw [← HW0.out]
  go_loopg [11] n (fun gm i wr => ∃ (k : Nat) (s : σ), k + gm = n ∧ i = .int .i64 k ∧ Inv k 0 s wr ∧ Fr B cs W0 wr ∧ Hid (firstGo step errs 0 l s0 = firstGo step errs k (l.drop k) s))
  case atStart => exact ⟨0, s0, by omega, rfl, hIb _ _ _ _ _ hBw hI hb0, Fr.refl _ _ _, rfl⟩
  case round =>
    obtain ⟨k, s, hk, rfl, hIs, hFr, HK⟩ := hrel
    obtain ⟨wo, Hwo⟩ : ∃ wo, wo = wr := ⟨_, rfl⟩
    subst Hwo
    have hFw := hF0.trans hFr
    have hRo := hFr.keep hR0 hRc (by decide)
    have hzo : w.heap.size + 1 ≤ wo.heap.size := Nat.le_trans hz0 hFr.size
    by_cases hlt : k < n
    · obtain ⟨f, Hf⟩ : ∃ f, Hid (l[k]? = some f) := ⟨l[k]'(by rw [← Hn.out]; exact hlt), List.getElem?_eq_getElem (by rw [← Hn.out]; exact hlt)⟩
      have HK2 : Hid (firstGo step errs 0 l s0 = match rulesGo step 0 errs f s with | (some e, _) => (e, k) | (none, s') => firstGo step errs (k + 1) (l.drop (k + 1)) s') := by show _ = _; rw [HK.out, first_step Hf.out]
      obtain ⟨b, off, rfl, hat⟩ := (hl wo (hFw.below hB0 (by omega) hcs)).get SAt.plain Hf.out
      have hat : wo.cell? ⟨b, off + k * 1, none⟩ = some (.string (S f)) := hat
      rw [Nat.mul_one] at hat
      have hki : (k : Int) < (n : Int) := by omega
      go_wp2_with fail
      go_loopg [18] m (fun gm i wi => ∃ (j : Nat) (s' : σ), j + gm = m ∧ i = .int .i64 j ∧ Inv k j s' wi ∧ Fr B cs wo wi ∧ Hid (rulesGo step 0 errs f s = rulesGo step j (errs.drop j) f s'))
      case atStart => exact ⟨0, s, by omega, rfl, hIs, Fr.refl _ _ _, rfl⟩
      case round =>
        clear hat
        obtain ⟨j, s', hj, rfl, hIi, hFi, HJ⟩ := hrel
        obtain ⟨wi, Hwi⟩ : ∃ wi, wi = wr := ⟨_, rfl⟩
        subst Hwi
        have hFwi := hFw.trans hFi
        have hzi : wo.heap.size ≤ wi.heap.size := hFi.size
        by_cases hjl : j < m
        · obtain ⟨r, Hr⟩ : ∃ r, Hid (rs[j]? = some r) := ⟨rs[j]'(by rw [← Hm.out]; exact hjl), List.getElem?_eq_getElem (by rw [← Hm.out]; exact hjl)⟩
          have He : Hid (errs[j]? = some r.err) := by show _ = _; rw [Herr.out, List.getElem?_map, Hr.out]; rfl
          have HJ2 : Hid (rulesGo step 0 errs f s = if (step j f s').1 then (some r.err, (step j f s').2) else rulesGo step (j + 1) (errs.drop (j + 1)) f (step j f s').2) := by show _ = _; rw [HJ.out, rules_step He.out]
          have hgi := hFwi.keep hg hgc (by decide)
          obtain ⟨ra, rb⟩ := ru_at Hr.out
          have g0 := cell_of_blk hgi _ _ ra
          have g1 := cell_of_blk hgi _ _ rb
          have hji : (j : Int) < (m : Int) := by omega
          obtain ⟨W2, HW2⟩ : ∃ W2, Hid (W2 = wi.alloc (.cells #[.int .i64 r.err, .func (.func r.fn) #[] r.cap] 75)) := ⟨_, rfl⟩
          have hb2 : Below wi.heap.size wi W2 := by rw [HW2.out]; exact (Below.refl _ _).alloc (Nat.le_refl _) _
          have hQ2 : W2.heap[wi.heap.size]? = some (.cells #[.int .i64 r.err, .func (.func r.fn) #[] r.cap] 75 (0, 0)) := by rw [HW2.out]; exact heap_alloc_new _ _
          have hF2 : Fr B cs wi W2 := Fr.of_below hb2
          have hQc : wi.heap.size ∉ cs := fun e => by have := hcsB _ e; omega
          have hc := hcall k j r f s' W2 Hf.out Hr.out (by have := hb2.size; omega) (hFwi.trans hF2) (hIb _ _ _ _ _ (by omega) hIi hb2)
          rw [HW2.out] at hc
          have hen := hent r (List.mem_of_getElem? Hr.out)
          have hbk := (hb2.block w.heap.size (by omega)).trans ((hFi.keep hRo hRc (by decide)))
          rw [HW2.out] at hbk hQ2
          have hFq : Fr B cs W0 (wi.alloc (.cells #[.int .i64 r.err, .func (.func r.fn) #[] r.cap] 75)) := by rw [← HW2.out]; exact hFr.trans (hFi.trans hF2)
          have hFp : Fr B cs wo (wi.alloc (.cells #[.int .i64 r.err, .func (.func r.fn) #[] r.cap] 75)) := by rw [← HW2.out]; exact hFi.trans hF2
          obtain ⟨q, Hq⟩ : ∃ q, Hid (q = (step j f s').1) := ⟨_, rfl⟩
          rw [← Hq.out] at hc
          clear ra rb hcall hl hIb hent hnx
          cases q with
          | true =>
            have HE : Hid (firstGo step errs 0 l s0 = (r.err, k)) := by show _ = _; rw [HK2.out, HJ2.out, ← Hq.out]; rfl
            go_wp2_with fail
            refine hc.mono ?_
            rintro e w3 ⟨rfl, _, hF3⟩
            have hQ3 := hF3.keep hQ2 hQc (by decide)
            have hR3 := hF3.keep hbk hRc (by decide)
            obtain ⟨y0, y1⟩ := blk2 hQ3
            obtain ⟨z0, z1⟩ := blk2 hR3
            have f0 := fr_of_blk hR3 0
            have f1 := fr_of_blk hR3 1
            clear hen
            go_wp2
            refine bodyPost_ret (v := .agg #[.int .i64 r.err, .int .i64 (k : Int)]) (by simp [results, Tryz.results17, go_sem, *]) rfl ?_
            exact ⟨by rw [HE.out], (((hF0.trans hFq).trans hF3).setNew 0 _).setNew 1 _⟩
          | false =>
            have HJ3 : Hid (rulesGo step 0 errs f s = rulesGo step (j + 1) (errs.drop (j + 1)) f (step j f s').2) := by show _ = _; rw [HJ2.out, ← Hq.out]; rfl
            go_wp2_with fail
            refine hc.mono ?_
            rintro e w3 ⟨rfl, hI3, hF3⟩
            clear hen
            go_wp2_with fail
            go_roundg (m - (j + 1))
            case measure => omega
            case rel => exact ⟨j + 1, _, by omega, by go_num, hI3 trivial, hFp.trans hF3, HJ3⟩
        · have HE : Hid (firstGo step errs 0 l s0 = firstGo step errs (k + 1) (l.drop (k + 1)) s') := by
            have e : errs.drop j = [] := List.drop_eq_nil_of_le (by rw [Herr.out, List.length_map, ← Hm.out]; omega)
            show _ = _; rw [HK2.out, HJ.out, e]; rfl
          have hI9 : Inv (k + 1) 0 s' wi := by
            have hjm : j = rs.length := by rw [← Hm.out]; omega
            rw [hjm] at hIi
            exact hnx k s' wi (by rw [← Hn.out]; exact hlt) hIi
          clear hcall hl hIb hent hnx
          go_wp2_with fail
          go_roundg (n - (k + 1))
          case measure => omega
          case rel => exact ⟨k + 1, s', by omega, by go_num, hI9, hFr.trans hFi, HE⟩
    · have HE : Hid (firstGo step errs 0 l s0 = (0, 0)) := by
        have e : l.drop k = [] := List.drop_eq_nil_of_le (by rw [← Hn.out]; omega)
        show _ = _; rw [HK.out, e]; rfl
      obtain ⟨z0, z1⟩ := blk2 hRo
      have f0 := fr_of_blk hRo 0
      have f1 := fr_of_blk hRo 1
      clear hcall hl hIb hent hnx
      go_wp2
      refine bodyPost_ret (v := .agg #[.int .i64 0, .int .i64 0]) (by simp [results, Tryz.results17, go_sem, *]) rfl ?_
      exact ⟨by rw [HE.out]; rfl, (hFw.setNew 0 _).setNew 1 _⟩

end L
end Go.Proofs.YtenlijgnmhdopaaGreatDoor

