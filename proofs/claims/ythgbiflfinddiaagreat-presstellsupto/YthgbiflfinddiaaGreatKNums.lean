/- The contract of codec.Numbers. -/
import Derived.Test.YthgbiflfinddiaaGreatKLeaf
import Derived.Test.YthgbiflfinddiaaGreatBFind
import Derived.Test.YthgbiflfinddiaaGreatKShelf
import Derived.Sort.OwnSortedInts
namespace Go.Proofs.YthgbiflfinddiaaGreat
namespace L
open Go.RowKit Go.Sort

theorem flatN : ∀ l : List Int, ekN.flat l = l.map (Value.int .i64)
  | [] => rfl
  | a :: l => by
    have := flatN l
    unfold EK.flat at this ⊢
    rw [List.flatMap_cons, this]
    rfl
theorem sort_row {w : World} {base : Nat} {ao : Option Addr} {n cap : Nat} {l : List Int} (h : Row ekN w base (.slice ao n cap) l) (hl : l.length ≤ 1000000000000) (hB : base ≤ w.heap.size) :
    Calls Tryz.prog 63 #[.slice ao n cap] w fun e w' => e = .returned (.tuple #[]) ∧ Row ekN w' base (.slice ao n cap) (l.mergeSort fun x y => decide (x ≤ y)) ∧ Below base w w' := by
  have hlen := h.len
  subst hlen
  rcases h.2 with ⟨hv, hn⟩ | ⟨g, cap', cur, hv, hbg, hg, hn, hm, hsz, ht⟩
  · have : l = [] := List.eq_nil_of_length_eq_zero hn
    subst this
    refine (Tryz.slices_Sort_int_none ao cap w).mono ?_
    rintro e w' ⟨rfl, rfl⟩
    exact ⟨rfl, by simpa using h, Below.refl _ _⟩
  · cases hv
    have ht1 : cur.toList.take l.length = l.map (Value.int .i64) := by rw [← flatN, ← ht]; simp [ekN]
    have hgl : g < w.heap.size := (Array.getElem?_eq_some_iff.1 hg).1
    refine (Tryz.slices_Sort_int g 0 cap l w (holds_of_blockI hg ht1) hgl (by omega)).mono ?_
    rintro e w' ⟨rfl, q, os, rfl⟩
    refine ⟨rfl, ?_, (Below.refl base w).grown (grownBy_sortedI _) hB (fun k hk => by cases hk; exact hbg)⟩
    have := ownsRow_sortedI (n := q) (os := os) (ss := l) (ts := l.mergeSort fun x y => decide (x ≤ y)) (by simp) hbg hg hn hm hsz
    show World.ownsRow _ base 3 1 _ _ _
    rw [flatN, List.length_mergeSort]
    exact this

set_option maxHeartbeats 2000000 in
set_option maxRecDepth 100000 in
theorem numbers_any {w : World} {nm : List UInt8} {vf vb : Value} {m : MI} (h : RdL 6 FAt w vf m.fields) (hvb : ∃ ao n cap, vb = .slice ao n cap) (hl : m.fields.length ≤ 1000000000000) :
    Calls Tryz.prog 32 #[.agg #[.string (S nm), vf, vb]] w fun e w' => ∃ ao n cap, e = .returned (.slice ao n cap) ∧ Row ekN w' w.heap.size (.slice ao n cap) (numsN m) ∧ Below w.heap.size w w' := by
  obtain ⟨a1, n1, c1, rfl, H1, _⟩ := h.shape
  obtain ⟨a2, n2, c2, rfl⟩ := hvb
  have hn1 : n1 ≤ 1000000000000 := by rw [H1.out]; exact hl
  obtain ⟨W0, HW0⟩ : ∃ W0, Hid (W0 = w.alloc (.cells #[.string (S nm), .slice a1 n1 c1, .slice a2 n2 c2] 49)) := ⟨_, rfl⟩
  have hb0 : Below w.heap.size w W0 := by rw [HW0.out]; exact (Below.refl _ _).alloc (Nat.le_refl _) _
  have hz0 : w.heap.size + 1 ≤ W0.heap.size := by rw [HW0.out]; simp
  go_enter Tryz.func32, Tryz.ntmps32
  go_wp2_with fail
  rw [← HW0.out]
  go_loopg [3, 9] n1 (fun m' v i wr => ∃ (k : Nat) (ao : Option Addr) (no co : Nat), k + m' = n1 ∧ i = .int .i64 k ∧ v = .slice ao no co ∧ Row ekN wr W0.heap.size (.slice ao no co) ((m.fields.take k).map FI.number) ∧ Below W0.heap.size W0 wr)
  case atStart => exact ⟨0, none, 0, 0, by omega, rfl, rfl, by rw [List.take_zero]; exact Row.nil _ _ _, Below.refl _ _⟩
  case round =>
    obtain ⟨k, ao, no, co, hk, rfl, rfl, hr, hb⟩ := hrel
    have hbw : Below w.heap.size w wr := KBT hb0 hb
    have hzr := hb.size
    by_cases hlt : k < n1
    · obtain ⟨x, Hx⟩ : ∃ x, Hid (m.fields[k]? = some x) := ⟨m.fields[k]'(by rw [← H1.out]; exact hlt), List.getElem?_eq_getElem (by rw [← H1.out]; exact hlt)⟩
      obtain ⟨b, off, rfl, hat⟩ := (h.below FAt.stays hbw).get FAt.plain Hx.out
      obtain ⟨s0, s1, s2, s3, s4, s5⟩ := hat.at
      have hki : (k : Int) < (n1 : Int) := by omega
      have hlk : ((m.fields.take k).map FI.number).length ≤ n1 := by rw [List.length_map, List.length_take]; omega
      clear hat
      go_wp2_with (at_builtin; refine wpList_appG (by rfl) ekN _ _ (by rfl) W0.heap.size (.slice ao no co) ((m.fields.take k).map FI.number) [x.number] (by rfl) ?a1 (some ⟨wr.heap.size + 1, 0, none⟩) 1 1 (by rfl) (by rfl) ?a2 ?a3 (by decide) ?a4 ?a5 ?_)
      case a1 => exact hr.below (((Below.refl _ _).alloc (Nat.le_refl _) _).alloc (by simp) _)
      case a2 => intro e; cases e
      case a3 =>
        have := kone_src ekN (wr.alloc (.cells #[.string (S x.name), .int .i64 x.number, .int .i64 x.kind, .string (S x.type), .bool x.many, .int .i64 x.choice] 53)) x.number
        rw [show (wr.alloc (.cells #[.string (S x.name), .int .i64 x.number, .int .i64 x.kind, .string (S x.type), .bool x.many, .int .i64 x.choice] 53)).heap.size = wr.heap.size + 1 by simp] at this
        exact this
      case a4 => simp [ekN]; omega
      case a5 => simp; omega
      intro v' w1 hr1 hg1
      obtain ⟨a', n', c', rfl, _⟩ := hr1.shape'
      have hB1 : Below W0.heap.size W0 w1 := kB_app (KB_alloc (KB_alloc hb (Nat.le_refl _) _) (Nat.le_refl _) _) (Nat.le_refl _) hg1 (fun k hk => (hr.own k hk).1)
      have hr1' : Row ekN w1 W0.heap.size (.slice a' n' c') ((m.fields.take (k + 1)).map FI.number) := by
        rw [take_snoc Hx.out, List.map_append, List.map_take]; exact hr1
      clear hr1
      go_wp2_with fail
      go_roundg (n1 - (k + 1))
      case measure => omega
      case rel => exact ⟨k + 1, a', n', c', by omega, by go_num, rfl, hr1', hB1⟩
    · have hr1 : Row ekN wr W0.heap.size (.slice ao no co) (m.fields.map FI.number) := by
        rw [List.take_of_length_le (by rw [← H1.out]; omega)] at hr; exact hr
      have hs := sort_row hr1 (by rw [List.length_map]; exact hl) hzr
      clear hr hr1
      go_wp2_with fail
      refine hs.mono ?_
      rintro e w1 ⟨rfl, hr1, hb1⟩
      have hbf : Below w.heap.size w w1 := hb0.trans ((hb.trans hb1).mono (by omega))
      go_wp2
      go_ret
      exact ⟨ao, no, co, rfl, hr1.mono (by omega), hbf⟩

end L
end Go.Proofs.YthgbiflfinddiaaGreat
