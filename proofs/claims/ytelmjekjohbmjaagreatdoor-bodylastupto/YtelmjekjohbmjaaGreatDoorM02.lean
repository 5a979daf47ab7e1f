import Derived.Test.YtelmjekjohbmjaaGreatDoorM01
/- The contracts of Contains, Named, isKept, and of what 'again' makes. -/
namespace Go.Proofs.YtelmjekjohbmjaaGreatDoor
namespace L
open Go.RowKit

set_option maxHeartbeats 1000000 in
set_option maxRecDepth 100000 in
theorem indexN_any {v : Value} {l : List Int} {w : World} (h : RdL 1 NAt w v l) (x : Int) :
    Calls Tryz.prog 148 #[v, .int .i64 x] w fun e w' => ∃ r : Int, e = .returned (.int .i64 r) ∧ decide (0 ≤ r) = decide (x ∈ l) ∧ w = w' := by
  obtain ⟨ao, n, cap, rfl, Hn, hcap⟩ := h.shape
  go_enter Tryz.func148, Tryz.ntmps148
  go_wp2_with fail
  go_loopg [8] n (fun m i wr => ∃ k : Nat, k + m = n ∧ i = .int .i64 k ∧ Hid (x ∉ l.take k) ∧ w = wr)
  case atStart => exact ⟨0, by omega, rfl, by show ¬ _; simp, rfl⟩
  case round =>
    obtain ⟨k, hk, rfl, HK, rfl⟩ := hrel
    by_cases hlt : k < n
    · obtain ⟨a, Ha⟩ : ∃ a, Hid (l[k]? = some a) := ⟨l[k]'(by rw [← Hn.out]; exact hlt), List.getElem?_eq_getElem (by rw [← Hn.out]; exact hlt)⟩
      obtain ⟨b, off, rfl, hc⟩ := h.get NAt.plain Ha.out
      have hc : w.cell? ⟨b, off + k * 1, none⟩ = some (.int .i64 a) := hc
      rw [Nat.mul_one] at hc
      have hki : (k : Int) < (n : Int) := by omega
      by_cases hxa : x = a
      · have HM : Hid (x ∈ l) := by show _ ∈ _; rw [hxa]; exact mem_at Ha.out
        have hb : (x == a) = true := by simp [hxa]
        clear hxa
        go_wp2
        go_ret
        exact ⟨_, rfl, by simp [HM.out], rfl⟩
      · have hb : (x == a) = false := by simp [hxa]
        have HX : Hid (x ∉ l.take (k + 1)) := by
          show ¬ _; rw [take_snoc Ha.out]; simp [hxa]; exact HK.out
        clear hxa
        go_wp2_with fail
        go_roundg (n - (k + 1))
        case measure => omega
        case rel => exact ⟨k + 1, by omega, by go_num, HX, rfl⟩
    · have HX : Hid (x ∉ l) := by show ¬ _; have := HK.out; rwa [List.take_of_length_le (by rw [← Hn.out]; omega)] at this
      go_wp2
      go_ret
      exact ⟨_, rfl, by simp [HX.out], rfl⟩

theorem containsS_any {v : Value} {l : List (List UInt8)} {w : World} (h : RdL 1 SAt w v l) (x : List UInt8) :
    Calls Tryz.prog 117 #[v, .string (S x)] w fun e w' => e = .returned (.bool (decide (x ∈ l))) ∧ w = w' := by
  have hi := indexS_any h x
  go_enter Tryz.func117, Tryz.ntmps117
  go_wp2_with fail
  refine hi.mono ?_
  rintro e w1 ⟨r, rfl, hr, rfl⟩
  have HR : Hid (decide (0 ≤ r) = decide (x ∈ l)) := hr
  clear hr hi
  go_wp2
  go_ret
  exact ⟨ret_bool HR.out, rfl⟩
theorem containsN_any {v : Value} {l : List Int} {w : World} (h : RdL 1 NAt w v l) (x : Int) :
    Calls Tryz.prog 127 #[v, .int .i64 x] w fun e w' => e = .returned (.bool (decide (x ∈ l))) ∧ w = w' := by
  have hi := indexN_any h x
  go_enter Tryz.func127, Tryz.ntmps127
  go_wp2_with fail
  refine hi.mono ?_
  rintro e w1 ⟨r, rfl, hr, rfl⟩
  have HR : Hid (decide (0 ≤ r) = decide (x ∈ l)) := hr
  clear hr hi
  go_wp2
  go_ret
  exact ⟨ret_bool HR.out, rfl⟩

def namedB (l : List UInt8) : Bool := !l.isEmpty && (decide (l.length ≤ 16) && decide (wordLenL l = l.length))
set_option maxHeartbeats 1000000 in
set_option maxRecDepth 100000 in
theorem named_any (l : List UInt8) (hl : l.length ≤ 9223372036854775807) (w : World) :
    Calls Tryz.prog 77 #[.string (S l)] w fun e w' => e = .returned (.bool (namedB l)) ∧ w = w' := by
  have hsz := S_size l
  obtain ⟨E, hE⟩ : ∃ E, (S l).toList.isEmpty = E := ⟨_, rfl⟩
  obtain ⟨Q, HQ⟩ : ∃ Q, Hid (Q = decide (wordLenL l = l.length)) := ⟨_, rfl⟩
  have HR : Hid (namedB l = (!E && (decide (l.length ≤ 16) && Q))) := by show _ = _; rw [namedB, ← hE, HQ.out, S_list]
  have hwl := wordLength_any l hl w
  have HB : Hid (((wordLenL l : Int) == (l.length : Int)) = Q) := by show _ = _; rw [HQ.out, Bool.eq_iff_iff]; simp; omega
  generalize wordLenL l = W at hwl HB
  have hB := HB.out
  cases E with
  | true =>
    go_enter Tryz.func77, Tryz.ntmps77
    go_wp2
    go_ret
    exact ⟨by rw [HR.out]; rfl, rfl⟩
  | false =>
    by_cases h16 : l.length ≤ 16
    · have hli : ((l.length : Nat) : Int) ≤ 16 := by omega
      go_enter Tryz.func77, Tryz.ntmps77
      go_wp2_with fail
      refine hwl.mono ?_
      rintro e w1 ⟨rfl, rfl⟩
      cases Q
      all_goals go_wp2
      all_goals go_ret
      all_goals exact ⟨by rw [HR.out]; simp [h16], rfl⟩
    · have hli : ¬ ((l.length : Nat) : Int) ≤ 16 := by omega
      go_enter Tryz.func77, Tryz.ntmps77
      go_wp2
      go_ret
      exact ⟨by rw [HR.out]; simp [h16], rfl⟩

theorem wordsRd (w : World) : RdL 1 SAt (w.alloc (.cells wordCells 9)) (.slice (some ⟨w.heap.size, 0, none⟩) 9 9) wordsL := by
  refine ⟨_, 9, 9, rfl, rfl, Nat.le_refl _, by unfold maxLen; omega, fun h => (by cases h), ?_⟩
  intro x hx k a ha
  cases hx
  have hk : k < 9 := (List.getElem?_eq_some_iff.1 ha).1
  rw [add_plain, Nat.zero_add, Nat.mul_one]
  have e : wordsL.getD k [] = a := by rw [List.getD_eq_getElem?_getD, ha]; rfl
  exact cell_of_blk (heap_alloc_new w _) k _ (by rw [wordCells_at k hk, e])

def keptB (s : List UInt8) : Bool := decide (s = kwRepeated) || (decide (s = kwReserved) || (decide (s = kwOneof) || decide (s ∈ wordsL)))
set_option maxHeartbeats 1000000 in
set_option maxRecDepth 100000 in
theorem isKept_any (s : List UInt8) (w : World) : Calls Tryz.prog 78 #[.string (S s)] w fun e w' => e = .returned (.bool (keptB s)) ∧ Below w.heap.size w w' := by
  obtain ⟨q1, hq1⟩ : ∃ q, ((S s).toList == [114, 101, 112, 101, 97, 116, 101, 100]) = q := ⟨_, rfl⟩
  obtain ⟨q2, hq2⟩ : ∃ q, ((S s).toList == [114, 101, 115, 101, 114, 118, 101, 100]) = q := ⟨_, rfl⟩
  obtain ⟨q3, hq3⟩ : ∃ q, ((S s).toList == [111, 110, 101, 111, 102]) = q := ⟨_, rfl⟩
  have HC : Hid (keptB s = (q1 || (q2 || (q3 || decide (s ∈ wordsL))))) := by
    show _ = _
    rw [← hq1, ← hq2, ← hq3, S_list, Bool.eq_iff_iff]
    simp [keptB, kwRepeated, kwReserved, kwOneof]
    exact or_congr decide_eq_true_iff (or_congr decide_eq_true_iff (or_congr decide_eq_true_iff Iff.rfl))
  have hct := containsS_any (wordsRd w) s
  have hbw : Below w.heap.size w (w.alloc (.cells wordCells 9)) := (Below.refl _ _).alloc (Nat.le_refl _) _
  have hws := words_any w
  by_cases h : (q1 || (q2 || q3)) = true
  · have HR : Hid (keptB s = true) := by show _ = _; rw [HC.out]; revert h; cases q1 <;> cases q2 <;> cases q3 <;> simp
    cases q1 <;> cases q2 <;> cases q3 <;> first | (exfalso; revert h; decide) | skip
    all_goals clear h HC hct hws
    all_goals go_enter Tryz.func78, Tryz.ntmps78
    all_goals go_wp2
    all_goals go_ret
    all_goals exact ⟨by rw [HR.out]; rfl, Below.refl _ _⟩
  · have HR : Hid (keptB s = decide (s ∈ wordsL)) := by show _ = _; rw [HC.out]; revert h; cases q1 <;> cases q2 <;> cases q3 <;> simp
    cases q1 <;> cases q2 <;> cases q3 <;> first | (exfalso; revert h; decide) | skip
    clear h HC
    go_enter Tryz.func78, Tryz.ntmps78
    go_wp2_with fail
    refine hws.mono ?_
    rintro e w1 ⟨rfl, rfl⟩
    go_wp2_with fail
    refine hct.mono ?_
    rintro e w2 ⟨rfl, rfl⟩
    go_wp2
    go_ret
    exact ⟨by rw [HR.out]; rfl, hbw⟩

end L
end Go.Proofs.YtelmjekjohbmjaaGreatDoor

/- The contracts of again and of the functions that it makes. -/
namespace Go.Proofs.YtelmjekjohbmjaaGreatDoor
namespace L
open Go.RowKit

/-- Of what was there nothing but block c, and the list of that block, has turned. -/
structure Upd (c : Nat) (row : Option Nat) (w w' : World) : Prop where
  os : w'.os = w.os
  tape : w'.tape = w.tape
  output : w'.output = w.output
  size : w.heap.size ≤ w'.heap.size
  block : ∀ k, k < w.heap.size → k ≠ c → row ≠ some k → w'.heap[k]? = w.heap[k]?
theorem Upd.refl (c : Nat) (row : Option Nat) (w : World) : Upd c row w w := ⟨rfl, rfl, rfl, Nat.le_refl _, fun _ _ _ _ => rfl⟩
theorem Upd.below {c B : Nat} {row : Option Nat} {w w' : World} (h : Upd c row w w') (hc : B ≤ c) (hr : ∀ k, row = some k → B ≤ k) (hB : B ≤ w.heap.size) : Below B w w' :=
  ⟨h.os, h.tape, h.output, h.size, fun k hk => h.block k (by omega) (by omega) (fun e => by have := hr k e; omega)⟩
theorem Upd.of_below {c : Nat} {row : Option Nat} {w w' : World} (h : Below w.heap.size w w') : Upd c row w w' := ⟨h.os, h.tape, h.output, h.size, fun k hk _ _ => h.block k hk⟩
theorem Row.upd {α : Type} {E : EK α} {w w' : World} {B c : Nat} {row : Option Nat} {v : Value} {l : List α} (h : Row E w B v l) (hu : Upd c row w w') (hc : c < B) (hr : v.ownBlock = none ∨ v.ownBlock ≠ row) : Row E w' B v l := by
  refine ⟨h.1, ?_⟩
  rcases h.2 with hn | ⟨g, cap, cur, hv, hbg, hg, r⟩
  · exact .inl hn
  · refine .inr ⟨g, cap, cur, hv, hbg, ?_, r⟩
    have hgl := (Array.getElem?_eq_some_iff.1 hg).1
    rw [hu.block g hgl (by omega) ?_]
    · exact hg
    · intro e
      rcases hr with hr | hr
      · rw [hv] at hr; simp [Value.ownBlock] at hr
      · apply hr; rw [hv, e]; rfl

theorem Row.shape' {α : Type} {E : EK α} {w : World} {B : Nat} {v : Value} {l : List α} (h : Row E w B v l) : ∃ ao n cap, v = .slice ao n cap ∧ Hid (n = l.length) := by
  obtain ⟨ao, cap, e⟩ := h.shape
  exact ⟨ao, l.length, cap, e, rfl⟩

theorem makeF (fn : Fn) (first cap : Array Value) (w : World) : (Instr.makeFunc fn first cap).run Tryz.prog w = .ok (.func fn first cap) w := rfl

theorem againS_new (w : World) : Calls Tryz.prog 75 #[] w fun e w' => e = .returned (.func (.func 116) #[] #[.pointer (some ⟨w.heap.size, 0, none⟩)]) ∧ w.alloc (.cells #[.slice none 0 0] 87) = w' := by
  have hmf := makeF
  go_enter Tryz.func75, Tryz.ntmps75
  go_wp2
  go_ret
  exact ⟨rfl, rfl⟩
theorem againN_new (w : World) : Calls Tryz.prog 121 #[] w fun e w' => e = .returned (.func (.func 146) #[] #[.pointer (some ⟨w.heap.size, 0, none⟩)]) ∧ w.alloc (.cells #[.slice none 0 0] 46) = w' := by
  have hmf := makeF
  go_enter Tryz.func121, Tryz.ntmps121
  go_wp2
  go_ret
  exact ⟨rfl, rfl⟩

def addL {α : Type} [DecidableEq α] (x : α) (l : List α) : List α := if x ∈ l then l else l ++ [x]

set_option maxHeartbeats 1000000 in
set_option maxRecDepth 100000 in
theorem againS_call {w : World} {c B : Nat} {v : Value} {l : List (List UInt8)} (hc : w.heap[c]? = some (.cells #[v] 87 (0, 0))) (hr : Row ekS w B v l) (hcB : c < B) (hB : B ≤ w.heap.size) (hl : l.length ≤ 1000) (x : List UInt8) :
    Calls Tryz.prog 116 #[.string (S x), .pointer (some ⟨c, 0, none⟩)] w fun e w' => e = .returned (.bool (decide (x ∈ l))) ∧ ∃ v', w'.heap[c]? = some (.cells #[v'] 87 (0, 0)) ∧ Row ekS w' B v' (addL x l) ∧ Upd c v.ownBlock w w' := by
  obtain ⟨ao, n, cap, rfl, Hn⟩ := hr.shape'
  have c0 := cell_of_blk hc 0 _ rfl
  have f0 := fr_of_blk hc 0
  have hct := containsS_any hr.rdS x
  obtain ⟨q, Hq⟩ : ∃ q, Hid (q = decide (x ∈ l)) := ⟨_, rfl⟩
  rw [← Hq.out] at hct ⊢
  cases q with
  | true =>
    have HA : Hid (addL x l = l) := by show _ = _; have := Hq.out; simp at this; simp [addL, this]
    go_enter Tryz.func116, Tryz.ntmps116
    go_wp2_with fail
    refine hct.mono ?_
    rintro e w1 ⟨rfl, rfl⟩
    go_wp2
    go_ret
    exact ⟨rfl, _, hc, by rw [HA.out]; exact hr, Upd.refl _ _ _⟩
  | false =>
    have HA : Hid (addL x l = l ++ [x]) := by show _ = _; have := Hq.out; simp at this; simp [addL, this]
    have hone : Row ekS (w.alloc (.cells #[.string (S x)] 9)) B (.slice (some ⟨w.heap.size, 0, none⟩) 1 1) [x] := Row.one ekS w x hB
    have hba := (Below.refl w.heap.size w).alloc (Nat.le_refl _) (.cells #[.string (S x)] 9)
    have hr4 := hr.below hba
    have hc4 := (hba.block c (by omega)).trans hc
    go_enter Tryz.func116, Tryz.ntmps116
    go_wp2_with fail
    refine hct.mono ?_
    rintro e w1 ⟨rfl, rfl⟩
    go_wp2_with (at_builtin; refine wpList_app rfl ekS _ _ rfl B _ l [x] rfl hr4 B _ rfl hone ?e1 ?e2 ?_)
    case e1 => simp; omega
    case e2 => simp; omega
    intro v5 w5 hr5 hg5
    have hown := hr4.own
    have hc5 := (hg5.block c (Array.getElem?_eq_some_iff.1 hc4).1 (fun hh => by have := (hown c hh.symm).1; omega)).trans hc4
    have k0 := cell_of_blk hc5 0 _ rfl
    have k1 := fr_of_blk hc5 0
    obtain ⟨a5, n5, cap5, rfl, Hn5⟩ := hr5.shape'
    go_wp2
    go_ret
    refine ⟨rfl, _, heap_setCell_same _ _ 0 _ _ _ hc5, ?_, ?_⟩
    · rw [HA.out]
      exact hr5.other (fun hh => by have := (hr5.own c hh).1; omega) 0 _
    · refine ⟨hg5.os.trans hba.os, hg5.tape.trans hba.tape, hg5.output.trans hba.output, Nat.le_trans hba.size (Nat.le_trans hg5.size (by simp [World.setCell])), fun k hk hkc hkr => ?_⟩
      rw [Below.heap_setCell _ _ _ _ (show k ≠ c from hkc), hg5.block k (by simp; omega) (fun e => hkr e.symm), hba.block k hk]

set_option maxHeartbeats 1000000 in
set_option maxRecDepth 100000 in
theorem againN_call {w : World} {c B : Nat} {v : Value} {l : List Int} (hc : w.heap[c]? = some (.cells #[v] 46 (0, 0))) (hr : Row ekN w B v l) (hcB : c < B) (hB : B ≤ w.heap.size) (hl : l.length ≤ 1000) (x : Int) :
    Calls Tryz.prog 146 #[.int .i64 x, .pointer (some ⟨c, 0, none⟩)] w fun e w' => e = .returned (.bool (decide (x ∈ l))) ∧ ∃ v', w'.heap[c]? = some (.cells #[v'] 46 (0, 0)) ∧ Row ekN w' B v' (addL x l) ∧ Upd c v.ownBlock w w' := by
  obtain ⟨ao, n, cap, rfl, Hn⟩ := hr.shape'
  have c0 := cell_of_blk hc 0 _ rfl
  have f0 := fr_of_blk hc 0
  have hct := containsN_any hr.rdN x
  obtain ⟨q, Hq⟩ : ∃ q, Hid (q = decide (x ∈ l)) := ⟨_, rfl⟩
  rw [← Hq.out] at hct ⊢
  cases q with
  | true =>
    have HA : Hid (addL x l = l) := by show _ = _; have := Hq.out; simp at this; simp [addL, this]
    go_enter Tryz.func146, Tryz.ntmps146
    go_wp2_with fail
    refine hct.mono ?_
    rintro e w1 ⟨rfl, rfl⟩
    go_wp2
    go_ret
    exact ⟨rfl, _, hc, by rw [HA.out]; exact hr, Upd.refl _ _ _⟩
  | false =>
    have HA : Hid (addL x l = l ++ [x]) := by show _ = _; have := Hq.out; simp at this; simp [addL, this]
    have hone : Row ekN (w.alloc (.cells #[.int .i64 x] 3)) B (.slice (some ⟨w.heap.size, 0, none⟩) 1 1) [x] := Row.one ekN w x hB
    have hba := (Below.refl w.heap.size w).alloc (Nat.le_refl _) (.cells #[.int .i64 x] 3)
    have hr4 := hr.below hba
    have hc4 := (hba.block c (by omega)).trans hc
    go_enter Tryz.func146, Tryz.ntmps146
    go_wp2_with fail
    refine hct.mono ?_
    rintro e w1 ⟨rfl, rfl⟩
    go_wp2_with (at_builtin; refine wpList_app rfl ekN _ _ rfl B _ l [x] rfl hr4 B _ rfl hone ?e1 ?e2 ?_)
    case e1 => simp; omega
    case e2 => simp; omega
    intro v5 w5 hr5 hg5
    have hown := hr4.own
    have hc5 := (hg5.block c (Array.getElem?_eq_some_iff.1 hc4).1 (fun hh => by have := (hown c hh.symm).1; omega)).trans hc4
    have k0 := cell_of_blk hc5 0 _ rfl
    have k1 := fr_of_blk hc5 0
    obtain ⟨a5, n5, cap5, rfl, Hn5⟩ := hr5.shape'
    go_wp2
    go_ret
    refine ⟨rfl, _, heap_setCell_same _ _ 0 _ _ _ hc5, ?_, ?_⟩
    · rw [HA.out]
      exact hr5.other (fun hh => by have := (hr5.own c hh).1; omega) 0 _
    · refine ⟨hg5.os.trans hba.os, hg5.tape.trans hba.tape, hg5.output.trans hba.output, Nat.le_trans hba.size (Nat.le_trans hg5.size (by simp [World.setCell])), fun k hk hkc hkr => ?_⟩
      rw [Below.heap_setCell _ _ _ _ (show k ≠ c from hkc), hg5.block k (by simp; omega) (fun e => hkr e.symm), hba.block k hk]

/-- A choice that can't stand there; what is remembered. -/
def misB (last begun ch : Int) : Bool := decide (ch ≠ 0) && (decide (ch ≠ last) && decide (ch ≠ begun + 1))
theorem mis_new (w : World) : Calls Tryz.prog 122 #[] w fun e w' => e = .returned (.func (.func 147) #[] #[.pointer (some ⟨w.heap.size, 0, none⟩), .pointer (some ⟨w.heap.size + 1, 0, none⟩)]) ∧ (w.alloc (.cells #[.int .i64 0] 3)).alloc (.cells #[.int .i64 0] 3) = w' := by
  have hmf := makeF
  go_enter Tryz.func122, Tryz.ntmps122
  go_wp2
  go_ret
  exact ⟨rfl, rfl⟩
theorem mis_fin {w : World} {c d : Nat} {a b : Value} {t : TypeId} (hc : w.heap[c]? = some (.cells #[a] t (0, 0))) (hd : w.heap[d]? = some (.cells #[b] t (0, 0))) (hcd : c ≠ d) (x y : Value) :
    ((w.setCell ⟨c, 0, none⟩ x).setCell ⟨d, 0, none⟩ y).drew.heap[c]? = some (.cells #[x] t (0, 0)) ∧ ((w.setCell ⟨c, 0, none⟩ x).setCell ⟨d, 0, none⟩ y).drew.heap[d]? = some (.cells #[y] t (0, 0)) ∧ (∀ k, ¬ k = c → ¬ k = d → ((w.setCell ⟨c, 0, none⟩ x).setCell ⟨d, 0, none⟩ y).drew.heap[k]? = w.heap[k]?) ∧ ((w.setCell ⟨c, 0, none⟩ x).setCell ⟨d, 0, none⟩ y).drew.heap.size = w.heap.size ∧ ((w.setCell ⟨c, 0, none⟩ x).setCell ⟨d, 0, none⟩ y).drew.os = w.os ∧ ((w.setCell ⟨c, 0, none⟩ x).setCell ⟨d, 0, none⟩ y).drew.tape = w.tape ∧ ((w.setCell ⟨c, 0, none⟩ x).setCell ⟨d, 0, none⟩ y).drew.output = w.output := by
  refine ⟨?_, ?_, ?_, ?_, rfl, rfl, rfl⟩
  · show ((w.setCell ⟨c, 0, none⟩ x).setCell ⟨d, 0, none⟩ y).heap[c]? = _
    rw [Below.heap_setCell _ _ _ _ (show c ≠ d from hcd)]
    exact heap_setCell_same _ _ 0 _ _ _ hc
  · show ((w.setCell ⟨c, 0, none⟩ x).setCell ⟨d, 0, none⟩ y).heap[d]? = _
    exact heap_setCell_same _ _ 0 _ _ _ ((Below.heap_setCell w ⟨c, 0, none⟩ x d (show d ≠ c from fun h => hcd h.symm)).trans hd)
  · intro k k1 k2
    show ((w.setCell ⟨c, 0, none⟩ x).setCell ⟨d, 0, none⟩ y).heap[k]? = _
    rw [Below.heap_setCell _ _ _ _ (show k ≠ d from k2), Below.heap_setCell _ _ _ _ (show k ≠ c from k1)]
  · show ((w.setCell ⟨c, 0, none⟩ x).setCell ⟨d, 0, none⟩ y).heap.size = _
    simp
set_option maxHeartbeats 1000000 in
set_option maxRecDepth 100000 in
theorem mis_call {w : World} {c d : Nat} {last begun : Int} (hc : w.heap[c]? = some (.cells #[.int .i64 last] 3 (0, 0))) (hd : w.heap[d]? = some (.cells #[.int .i64 begun] 3 (0, 0))) (hcd : c ≠ d) (hb0 : 0 ≤ begun) (hb1 : begun ≤ 1000000) (ch : Int) :
    Calls Tryz.prog 147 #[.int .i64 ch, .pointer (some ⟨c, 0, none⟩), .pointer (some ⟨d, 0, none⟩)] w fun e w' => e = .returned (.bool (misB last begun ch)) ∧ w'.heap[c]? = some (.cells #[.int .i64 (if misB last begun ch then last else ch)] 3 (0, 0)) ∧ w'.heap[d]? = some (.cells #[.int .i64 (if misB last begun ch then begun else max begun ch)] 3 (0, 0)) ∧ (∀ k, k ≠ c → k ≠ d → w'.heap[k]? = w.heap[k]?) ∧ w'.heap.size = w.heap.size ∧ w'.os = w.os ∧ w'.tape = w.tape ∧ w'.output = w.output := by
  have c0 := cell_of_blk hc 0 _ rfl
  have f0 := fr_of_blk hc 0
  have d0 := cell_of_blk hd 0 _ rfl
  have f1 := fr_of_blk hd 0
  obtain ⟨q1, hq1⟩ : ∃ q, (ch != 0) = q := ⟨_, rfl⟩
  obtain ⟨q2, hq2⟩ : ∃ q, (ch != last) = q := ⟨_, rfl⟩
  obtain ⟨q3, hq3⟩ : ∃ q, (ch != begun + 1) = q := ⟨_, rfl⟩
  have HC : Hid (misB last begun ch = (q1 && (q2 && q3))) := by
    show _ = _
    rw [← hq1, ← hq2, ← hq3, Bool.eq_iff_iff]
    simp [misB]
  have c0 : w.cell? ⟨c, 0, none⟩ = some (.int .i64 last) := c0
  have d0 : w.cell? ⟨d, 0, none⟩ = some (.int .i64 begun) := d0
  by_cases hm : (q1 && (q2 && q3)) = true
  · have HM : Hid (misB last begun ch = true) := by show _ = _; rw [HC.out]; exact hm
    cases q1 <;> cases q2 <;> cases q3 <;> first | (exfalso; revert hm; decide) | skip
    clear hm HC
    go_enter Tryz.func147, Tryz.ntmps147
    go_wp2
    go_ret
    exact ⟨rfl, hc, hd, fun _ _ _ => rfl, rfl, rfl, rfl, rfl⟩
  · have HM : Hid (misB last begun ch = false) := by show _ = _; rw [HC.out]; simpa using hm
    have hcl : c < w.heap.size := (Array.getElem?_eq_some_iff.1 hc).1
    have hdl : d < w.heap.size := (Array.getElem?_eq_some_iff.1 hd).1
    rw [HM.out]
    clear HC
    cases q1 <;> cases q2 <;> cases q3 <;> first | (exfalso; revert hm; decide) | skip
    all_goals clear hm
    all_goals go_enter Tryz.func147, Tryz.ntmps147
    all_goals go_wp2_with fail
    all_goals go_region
    all_goals go_wp2
    all_goals go_ret
    all_goals first
      | (rw [show max begun ch = ch by omega]; exact ⟨rfl, mis_fin hc hd hcd _ _⟩)
      | (rw [show max begun ch = begun by omega]; exact ⟨rfl, mis_fin hc hd hcd _ _⟩)

end L
end Go.Proofs.YtelmjekjohbmjaaGreatDoor

