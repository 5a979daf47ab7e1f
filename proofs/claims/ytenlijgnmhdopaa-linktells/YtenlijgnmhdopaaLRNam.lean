/- The document's own answer: the contracts of Letter, More, Named, Words, Free. -/
import Derived.Test.YtenlijgnmhdopaaLRefP
import Derived.Lib.ConvBytes
import Derived.Lib.SmallJoins
namespace Go.Proofs.Ytenlijgnmhdopaa
namespace L
open Go.RowKit

set_option maxHeartbeats 1000000 in
theorem rletter_any (c : UInt8) (w : World) : Calls Try.prog 60 #[.int .u8 (c.toNat : Int)] w fun e w' => e = .returned (.bool (letB c)) ∧ w = w' := by
  obtain ⟨X, HX⟩ : ∃ X : Nat, Hid (X = c.toNat) := ⟨_, rfl⟩
  have HL : Hid (letB c = ((decide (97 ≤ X) && decide (X ≤ 122)) || (decide (65 ≤ X) && decide (X ≤ 90)))) := by show _ = _; rw [HX.out]; rfl
  have hX : X < 256 := by rw [HX.out]; exact UInt8.toNat_lt _
  rw [← HX.out, HL.out]
  clear HX HL
  by_cases h1 : 97 ≤ X
  · by_cases h2 : X ≤ 122
    · go_enter Try.func60, Try.ntmps60
      go_wp2
      all_goals (go_ret; refine ⟨ret_bool ?_, rfl⟩; (try rw [Bool.eq_iff_iff]); (try simp); (try omega))
    · go_enter Try.func60, Try.ntmps60
      go_wp2
      all_goals (go_ret; refine ⟨ret_bool ?_, rfl⟩; (try rw [Bool.eq_iff_iff]); (try simp); (try omega))
  · go_enter Try.func60, Try.ntmps60
    go_wp2
    all_goals (go_ret; refine ⟨ret_bool ?_, rfl⟩; (try rw [Bool.eq_iff_iff]); (try simp); (try omega))

set_option maxHeartbeats 1000000 in
theorem rmore_any (c : UInt8) (w : World) : Calls Try.prog 59 #[.int .u8 (c.toNat : Int)] w fun e w' => e = .returned (.bool (moreB c)) ∧ w = w' := by
  have hcall := rletter_any c w
  obtain ⟨X, HX⟩ : ∃ X : Nat, Hid (X = c.toNat) := ⟨_, rfl⟩
  have HL : Hid (moreB c = (letB c || (decide (48 ≤ X) && decide (X ≤ 57)) || (X == 95))) := by show _ = _; rw [HX.out]; rfl
  have hX : X < 256 := by rw [HX.out]; exact UInt8.toNat_lt _
  rw [← HX.out] at hcall
  rw [← HX.out, HL.out]
  clear HX HL
  generalize letB c = q at hcall ⊢
  cases q with
  | true =>
    go_enter Try.func59, Try.ntmps59
    go_wp2_with fail
    refine hcall.mono ?_
    rintro e w1 ⟨rfl, rfl⟩
    go_wp2
    go_ret
    exact ⟨rfl, rfl⟩
  | false =>
    by_cases h1 : 48 ≤ X
    · by_cases h2 : X ≤ 57
      · go_enter Try.func59, Try.ntmps59
        go_wp2_with fail
        refine hcall.mono ?_
        rintro e w1 ⟨rfl, rfl⟩
        go_wp2
        all_goals (go_ret; refine ⟨ret_bool ?_, rfl⟩; (try rw [Bool.eq_iff_iff]); (try simp); (try omega))
      · go_enter Try.func59, Try.ntmps59
        go_wp2_with fail
        refine hcall.mono ?_
        rintro e w1 ⟨rfl, rfl⟩
        go_wp2
        all_goals (go_ret; refine ⟨ret_bool ?_, rfl⟩; (try rw [Bool.eq_iff_iff]); (try simp); (try omega))
    · go_enter Try.func59, Try.ntmps59
      go_wp2_with fail
      refine hcall.mono ?_
      rintro e w1 ⟨rfl, rfl⟩
      go_wp2
      all_goals (go_ret; refine ⟨ret_bool ?_, rfl⟩; (try rw [Bool.eq_iff_iff]); (try simp); (try omega))

theorem tw_all {p : UInt8 → Bool} : ∀ {r : List UInt8}, (∀ x ∈ r, p x = true) → r.takeWhile p = r
  | [], _ => rfl
  | c :: r, h => by rw [List.takeWhile_cons, if_pos (h c (by simp)), tw_all fun x hx => h x (by simp [hx])]
theorem tw_self {p : UInt8 → Bool} : ∀ {r : List UInt8}, r.takeWhile p = r → ∀ x ∈ r, p x = true
  | [], _, _, hx => by simp at hx
  | c :: r, h, x, hx => by
    rw [List.takeWhile_cons] at h
    split at h
    · rename_i hc
      rcases List.mem_cons.1 hx with rfl | hx
      · exact hc
      · exact tw_self (List.cons.inj h).2 x hx
    · cases h
/-- A name, byte by byte. -/
def okAt (l : List UInt8) (k : Nat) : Bool := moreB (l.getD k 0) && (decide (k ≠ 0) || letB (l.getD k 0))
theorem word_all : ∀ (l : List UInt8), (∀ k, k < l.length → okAt l k = true) → wordLenL l = l.length
  | [], _ => rfl
  | c :: r, h => by
    have h0 := h 0 (by simp)
    simp [okAt] at h0
    have hr : ∀ x ∈ r, moreB x = true := by
      intro x hx
      obtain ⟨k, hk, rfl⟩ := List.getElem_of_mem hx
      have := h (k + 1) (by simp; omega)
      simp [okAt, hk] at this
      exact this
    rw [wordLenL, if_pos h0.2, tw_all hr]
    simp; omega
theorem word_not {l : List UInt8} {k : Nat} (hk : k < l.length) (h : okAt l k = false) : wordLenL l ≠ l.length := by
  cases l with
  | nil => simp at hk
  | cons c r =>
    cases k with
    | zero =>
      simp [okAt] at h
      rw [wordLenL]
      split
      · rename_i hl
        have : moreB c = true := by simp [moreB, hl]
        rw [h this] at hl; cases hl
      · simp
    | succ k =>
      simp at hk
      simp [okAt, hk] at h
      rw [wordLenL]
      split
      · have : (r.takeWhile moreB).length < r.length := by
          rcases Nat.lt_or_ge (r.takeWhile moreB).length r.length with h1 | h1
          · exact h1
          · have e := (List.takeWhile_prefix moreB (l := r)).eq_of_length_le h1
            have := tw_self e _ (List.getElem_mem hk)
            rw [this] at h; cases h
        simp; omega
      · simp

set_option maxHeartbeats 1000000 in
set_option maxRecDepth 100000 in
theorem rnamed_any (l : List UInt8) (hl : l.length ≤ 9223372036854775807) (w : World) :
    Calls Try.prog 36 #[.string (S l)] w fun e w' => e = .returned (.bool (namedB l)) ∧ Below w.heap.size w w' := by
  have hconv : ∀ W, (convert 9 23 (.string (S l))).run Try.prog W = .ok (.slice (some ⟨W.heap.size, 0, none⟩) (S l).size (grownCap W (S l).size 0 5)) (Lib.bytesWorld W 5 (S l)) := fun W => Lib.run_convert_string_bytes W _ _ _ _ Try.underlying9 Try.underlying23 Try.underlying5
  have hsz := S_size l
  obtain ⟨Wc, HWc⟩ : ∃ Wc, Hid (Wc = Lib.bytesWorld w 5 (S l)) := ⟨_, rfl⟩
  have hBc : Below w.heap.size w Wc := by rw [HWc.out]; exact ⟨rfl, rfl, rfl, by rw [Lib.bytesWorld_size]; omega, fun k hk => Lib.bytesWorld_at_old _ _ _ k hk⟩
  have hcc : ∀ j, j < l.length → Wc.cell? ⟨w.heap.size, j, none⟩ = some (.int .u8 ((l.getD j 0).toNat : Int)) := by
    intro j hj
    rw [HWc.out, Lib.bytesWorld_cell _ _ _ j (by rw [S_size]; exact hj)]
    simp [S]
  have hcap : l.length ≤ grownCap w l.length 0 5 := grownCap_ge _ _ _ _
  obtain ⟨n, Hn⟩ : ∃ n, Hid (n = l.length) := ⟨_, rfl⟩
  rw [← Hn.out] at hsz hl hcap hcc
  go_enter Try.func36, Try.ntmps36
  go_wp2_with fail
  rw [← HWc.out]
  clear hconv
  go_loopg [8] n (fun m i wr => ∃ k : Nat, k + m = n ∧ i = .int .i64 k ∧ Hid (∀ j, j < k → okAt l j = true) ∧ Wc = wr)
  case atStart => exact ⟨0, by omega, rfl, fun j hj => by omega, rfl⟩
  case round =>
    obtain ⟨k, hk, rfl, HK, rfl⟩ := hrel
    by_cases hlt : k < n
    · have hcell := hcc k hlt
      have hki : (k : Int) < (n : Int) := by omega
      obtain ⟨c, Hc⟩ : ∃ c, Hid (c = l.getD k 0) := ⟨_, rfl⟩
      rw [← Hc.out] at hcell
      have hm := rmore_any c Wc
      have ht := rletter_any c Wc
      have HO : Hid (okAt l k = (moreB c && (decide (k ≠ 0) || letB c))) := by show _ = _; rw [Hc.out]; rfl
      cases q1 : moreB c with
      | false =>
        have HN : Hid (namedB l = false) := by
          show _ = _
          have := word_not (show k < l.length by rw [← Hn.out]; exact hlt) (by rw [HO.out, q1]; rfl)
          simp [namedB, this]
        rw [q1] at hm
        clear hcc q1 HO
        go_wp2_with fail
        refine hm.mono ?_
        rintro e w1 ⟨rfl, rfl⟩
        go_wp2
        go_ret
        exact ⟨ret_bool HN.out.symm, hBc⟩
      | true =>
        rw [q1] at hm
        by_cases hk0 : k = 0
        · subst hk0
          cases q2 : letB c with
          | false =>
            have HN : Hid (namedB l = false) := by
              show _ = _
              have := word_not (show 0 < l.length by rw [← Hn.out]; exact hlt) (by rw [HO.out, q1, q2]; rfl)
              simp [namedB, this]
            rw [q2] at ht
            clear hcc q1 q2 HO
            go_wp2_with fail
            refine hm.mono ?_
            rintro e w1 ⟨rfl, rfl⟩
            go_wp2_with fail
            refine ht.mono ?_
            rintro e w1 ⟨rfl, rfl⟩
            go_wp2
            go_ret
            exact ⟨ret_bool HN.out.symm, hBc⟩
          | true =>
            have HN : Hid (∀ j, j < 1 → okAt l j = true) := by
              intro j hj
              obtain rfl : j = 0 := by omega
              rw [HO.out, q1, q2]; rfl
            rw [q2] at ht
            clear hcc q1 q2 HO
            go_wp2_with fail
            refine hm.mono ?_
            rintro e w1 ⟨rfl, rfl⟩
            go_wp2_with fail
            refine ht.mono ?_
            rintro e w1 ⟨rfl, rfl⟩
            go_wp2_with fail
            go_roundg (n - 1)
            case measure => omega
            case rel => exact ⟨1, by omega, rfl, HN, rfl⟩
        · have HN : Hid (∀ j, j < k + 1 → okAt l j = true) := by
            intro j hj
            by_cases e : j = k
            · rw [e, HO.out, q1]; simp [hk0]
            · exact HK.out j (by omega)
          have hkb : ((k : Int) == 0) = false := by simp; omega
          clear hcc q1 HO hk0
          go_wp2_with fail
          refine hm.mono ?_
          rintro e w1 ⟨rfl, rfl⟩
          go_wp2_with fail
          go_roundg (n - (k + 1))
          case measure => omega
          case rel => exact ⟨k + 1, by omega, by go_num, HN, rfl⟩
    · have HW : Hid (wordLenL l = l.length) := word_all l fun j hj => HK.out j (by rw [← Hn.out] at hj; omega)
      have HN : Hid (namedB l = (decide (0 < n) && decide (n ≤ 16))) := by
        show _ = _
        rw [Hn.out]
        simp only [namedB, HW.out]
        cases l <;> simp
      clear hcc HW
      by_cases h0 : 0 < n
      · by_cases h16 : n ≤ 16
        · go_wp2
          go_ret
          exact ⟨ret_bool (by rw [HN.out]; simp [h0, h16]; omega), hBc⟩
        · go_wp2
          go_ret
          exact ⟨ret_bool (by rw [HN.out]; simp [h16]; omega), hBc⟩
      · go_wp2
        go_ret
        exact ⟨ret_bool (by rw [HN.out]; simp [h0]), hBc⟩

theorem rwords_any (w : World) : Calls Try.prog 58 #[] w fun e w' => e = .returned (.slice (some ⟨w.heap.size, 0, none⟩) 9 9) ∧ w.alloc (.cells wordCells 9) = w' := by
  go_enter Try.func58, Try.ntmps58
  go_wp2
  go_ret
  exact ⟨rfl, rfl⟩
/-- A block that was made whole. -/
theorem Row.blk {α : Type} (E : EK α) {w : World} {base g : Nat} (l : List α) {fr : Nat × Nat} (hb : base ≤ g) (h : w.heap[g]? = some (.cells (E.flat l).toArray E.elem fr)) (hfr : fr = (0, 0)) (hl : l.length ≤ maxLen) : Row E w base (.slice (some ⟨g, 0, none⟩) l.length l.length) l := by
  subst hfr
  refine ⟨E.flat_len l, .inr ⟨g, l.length, _, rfl, hb, h, Nat.le_refl _, hl, by simp [E.flat_len], ?_⟩⟩
  rw [← E.flat_len l]
  simp
theorem kept_mem (s : List UInt8) : keptB s = decide (s ∈ wordsL ++ [kwRepeated, kwReserved, kwOneof]) := by
  rw [Bool.eq_iff_iff]
  simp only [keptB, Bool.or_eq_true, decide_eq_true_eq, List.mem_append, List.mem_cons, List.mem_nil_iff, or_false]
  constructor
  · rintro (h | h | h | h)
    · exact .inr (.inl h)
    · exact .inr (.inr (.inl h))
    · exact .inr (.inr (.inr h))
    · exact .inl h
  · rintro (h | h | h | h)
    · exact .inr (.inr (.inr h))
    · exact .inl h
    · exact .inr (.inl h)
    · exact .inr (.inr (.inl h))
set_option maxHeartbeats 1000000 in
set_option maxRecDepth 100000 in
theorem rfree_any (s : List UInt8) (hs : s.length ≤ 9223372036854775807) (w : World) : Calls Try.prog 33 #[.string (S s)] w fun e w' => e = .returned (.bool (freeB s)) ∧ Below w.heap.size w w' := by
  have hws := rwords_any w
  obtain ⟨W2, HW2⟩ : ∃ W2, Hid (W2 = (w.alloc (.cells wordCells 9)).alloc (.cells #[.string (S kwRepeated), .string (S kwReserved), .string (S kwOneof)] 9)) := ⟨_, rfl⟩
  have hB2 : Below w.heap.size w W2 := by rw [HW2.out]; exact ((Below.refl _ _).alloc (Nat.le_refl _) _).alloc (by simp) _
  have r1 : Row ekS W2 w.heap.size (.slice (some ⟨w.heap.size, 0, none⟩) 9 9) wordsL := Row.blk ekS wordsL (Nat.le_refl _) (by rw [HW2.out]; exact alloc2_old _ _ _) rfl (by decide)
  have r2 : Row ekS W2 w.heap.size (.slice (some ⟨w.heap.size + 1, 0, none⟩) 3 3) [kwRepeated, kwReserved, kwOneof] := Row.blk ekS [kwRepeated, kwReserved, kwOneof] (Nat.le_add_right _ _) (by rw [HW2.out]; exact alloc2_new _ _ _) rfl (by decide)
  have hls := S_list s
  go_enter Try.func33, Try.ntmps33
  go_wp2_with fail
  refine hws.mono ?_
  rintro e w1 ⟨rfl, hw1⟩
  subst hw1
  go_wp2_with (at_builtin; refine wpList_app rfl ekS _ _ rfl w.heap.size _ wordsL [kwRepeated, kwReserved, kwOneof] rfl (by rw [HW2.out] at r1; exact r1) w.heap.size _ rfl (by rw [HW2.out] at r2; exact r2) ?e1 ?e2 ?_)
  case e1 => decide
  case e2 => simp; omega
  intro v5 w5 hr5 hg5
  obtain ⟨a5, n5, c5, rfl, H5⟩ := hr5.shape'
  obtain rfl : n5 = 12 := H5.out
  have hB5 : Below w.heap.size w w5 := by
    rw [HW2.out] at hB2
    exact hB2.grown hg5 (by simp; omega) (fun k hk => by simp [Value.ownBlock] at hk; omega)
  have HK0 : Hid (keptB s = decide (s ∈ wordsL ++ [kwRepeated, kwReserved, kwOneof])) := kept_mem s
  obtain ⟨L, HLL⟩ : ∃ L, Hid (L = wordsL ++ [kwRepeated, kwReserved, kwOneof]) := ⟨_, rfl⟩
  have hLn : L.length = 12 := by rw [HLL.out]; rfl
  rw [← HLL.out] at hr5 HK0
  clear r1 r2 hg5 hws H5 HW2 hB2
  have hnm := rnamed_any s hs w5
  go_wp2_with fail
  go_loopg [9] 12 (fun m i wr => ∃ k : Nat, k + m = 12 ∧ i = .int .i64 k ∧ Hid (s ∉ L.take k) ∧ w5 = wr)
  case atStart => exact ⟨0, by omega, rfl, by show ¬ _; simp, rfl⟩
  case round =>
    obtain ⟨k, hk, rfl, HK, rfl⟩ := hrel
    by_cases hlt : k < 12
    · obtain ⟨x, Hx⟩ : ∃ x, Hid (L[k]? = some x) := ⟨L[k]'(by rw [hLn]; exact hlt), List.getElem?_eq_getElem (by rw [hLn]; exact hlt)⟩
      obtain ⟨gb, rfl, hcx⟩ := hr5.get Hx.out
      have hc : w5.cell? ⟨gb, k, none⟩ = some (.string (S x)) := by
        have := hcx 0 _ rfl
        have e : ekS.size = 1 := rfl
        rw [e, Nat.mul_one, Nat.add_zero] at this
        exact this
      have hki : (k : Int) < 12 := by omega
      have hlx := S_list x
      clear hcx
      by_cases hsx : s = x
      · have HM : Hid (freeB s = false) := by
          show _ = _
          have : s ∈ L := by rw [hsx]; exact mem_at Hx.out
          simp [freeB, HK0.out, this]
        have hb : (s == x) = true := by simp [hsx]
        clear hsx
        go_wp2
        go_ret
        exact ⟨ret_bool HM.out.symm, hB5⟩
      · have hb : (s == x) = false := by simp [hsx]
        have HX : Hid (s ∉ L.take (k + 1)) := by
          show ¬ _; rw [take_snoc Hx.out]; simp [hsx]; exact HK.out
        clear hsx
        go_wp2_with fail
        go_roundg (12 - (k + 1))
        case measure => omega
        case rel => exact ⟨k + 1, by omega, by go_num, HX, rfl⟩
    · have HX : Hid (freeB s = namedB s) := by
        show _ = _
        have h2 := HK.out
        rw [List.take_of_length_le (by rw [hLn]; omega)] at h2
        simp [freeB, HK0.out, h2]
      clear HK HK0
      go_wp2_with fail
      refine hnm.mono ?_
      rintro e w6 ⟨rfl, hb6⟩
      go_wp2
      go_ret
      exact ⟨ret_bool HX.out.symm, hB5.trans (hb6.mono hB5.size)⟩

end L
end Go.Proofs.Ytenlijgnmhdopaa
