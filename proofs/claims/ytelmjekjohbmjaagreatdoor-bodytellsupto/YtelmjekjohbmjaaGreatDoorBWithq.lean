import Derived.Test.YtelmjekjohbmjaaGreatDoorM09
/- The contract of asWithout. -/
namespace Go.Proofs.YtelmjekjohbmjaaGreatDoor
namespace L
open Go.RowKit

/-- A value that says no more than if it were not there. -/
def withoutB {β : Type} (x : FI) (v : VI β) : Bool :=
  if x.many = true ∨ 0 < x.choice ∨ x.kind = 10 then false
  else if manyN v ≠ 1 then false
  else decide (v.bits = [0]) || decide (v.bytes = [[]])

set_option maxHeartbeats 1000000 in
set_option maxRecDepth 100000 in
theorem without_any {β : Type} {P : World → Addr → β → Prop} {w : World} (x : FI) (v : VI β) {a1 a2 a3 : Option Addr} {n1 n2 n3 c1 c2 c3 : Nat} (h1 : RdL 1 UAt w (.slice a1 n1 c1) v.bits) (h2 : RdL 1 ZAt w (.slice a2 n2 c2) v.bytes) (h3 : RdL 2 P w (.slice a3 n3 c3) v.subs) (b1 : n1 ≤ 140737488355328) (b2 : n2 ≤ 140737488355328) (b3 : n3 ≤ 140737488355328) :
    Calls Tryz.prog 72 #[vFI x, .agg #[.int .i64 v.number, .slice a1 n1 c1, .slice a2 n2 c2, .slice a3 n3 c3]] w fun e w' => e = .returned (.bool (withoutB x v)) ∧ Below w.heap.size w w' := by
  have hb2 : Below w.heap.size w ((w.alloc (.cells #[.string (S x.name), .int .i64 x.number, .int .i64 x.kind, .string (S x.type), .bool x.many, .int .i64 x.choice] 53)).alloc (.cells #[.int .i64 v.number, .slice a1 n1 c1, .slice a2 n2 c2, .slice a3 n3 c3] 34)) := ((Below.refl _ _).alloc (Nat.le_refl _) _).alloc (by simp) _
  have l1 := h1.len.1
  have l2 := h2.len.1
  have l3 := h3.len.1
  have hm : manyN v = n1 + n2 + n3 := by unfold manyN; omega
  unfold vFI
  cases hmany : x.many with
  | true =>
    have HR : Hid (withoutB x v = false) := by show _ = _; unfold withoutB; rw [if_pos (Or.inl hmany)]
    clear hm l1 l2 l3
    rw [hmany] at hb2
    clear hmany
    go_enter Tryz.func72, Tryz.ntmps72
    go_wp2
    go_ret
    exact ⟨by rw [HR.out]; rfl, hb2⟩
  | false =>
  rw [hmany] at hb2
  by_cases hc : 0 < x.choice
  · have HR : Hid (withoutB x v = false) := by show _ = _; unfold withoutB; rw [if_pos (Or.inr (Or.inl hc))]
    have dc : decide (0 < x.choice) = true := decide_eq_true hc
    clear hm l1 l2 l3 hmany hc
    go_enter Tryz.func72, Tryz.ntmps72
    go_wp2
    go_ret
    exact ⟨by rw [HR.out]; rfl, hb2⟩
  have dc : decide (0 < x.choice) = false := decide_eq_false hc
  by_cases hk : x.kind = 10
  · have HR : Hid (withoutB x v = false) := by show _ = _; unfold withoutB; rw [if_pos (Or.inr (Or.inr hk))]
    have ek : (x.kind == 10) = true := by simp [hk]
    clear hm l1 l2 l3 hmany hc hk
    go_enter Tryz.func72, Tryz.ntmps72
    go_wp2
    go_ret
    exact ⟨by rw [HR.out]; rfl, hb2⟩
  have ek : (x.kind == 10) = false := by simpa using hk
  have hno : ¬ (x.many = true ∨ 0 < x.choice ∨ x.kind = 10) := by
    rintro (h | h | h)
    · rw [hmany] at h; cases h
    · exact hc h
    · exact hk h
  clear hmany hc hk
  by_cases hs : n1 + n2 + n3 = 1
  · have hs1 : manyN v = 1 := by omega
    by_cases h11 : n1 = 1
    · obtain rfl : n2 = 0 := by omega
      obtain rfl : n3 = 0 := by omega
      subst h11
      have hby : v.bytes = [] := List.eq_nil_of_length_eq_zero l2.symm
      obtain ⟨q, hq⟩ : ∃ q, v.bits = [q] := by
        match hv : v.bits, l1 with
        | [q], _ => exact ⟨q, rfl⟩
      obtain ⟨b, off, rfl, hat⟩ := h1.get UAt.plain (show v.bits[0]? = some q by rw [hq]; rfl)
      have hat : w.cell? ⟨b, off, none⟩ = some (.int .u64 (q : Int)) := by simpa [UAt] using hat
      have hbl : b < w.heap.size := World.block_lt_of_cell? w _ hat
      have HR : Hid (withoutB x v = ((q : Int) == 0)) := by
        show _ = _; unfold withoutB; rw [if_neg hno, if_neg (by omega), hq, hby, Bool.eq_iff_iff]; simp
      clear hm hs1 hq l1 l2 l3 h1 h2 h3 hs hno hby
      cases hz : ((q : Int) == 0) with
      | true =>
        rw [hz] at HR
        go_enter Tryz.func72, Tryz.ntmps72
        go_wp2
        go_ret
        exact ⟨by rw [HR.out]; rfl, hb2⟩
      | false =>
        rw [hz] at HR
        go_enter Tryz.func72, Tryz.ntmps72
        go_wp2
        go_ret
        exact ⟨by rw [HR.out]; rfl, hb2⟩
    · obtain rfl : n1 = 0 := by omega
      have hbi : v.bits = [] := List.eq_nil_of_length_eq_zero l1.symm
      by_cases h21 : n2 = 1
      · obtain rfl : n3 = 0 := by omega
        subst h21
        obtain ⟨q, hq⟩ : ∃ q, v.bytes = [q] := by
          match hv : v.bytes, l2 with
          | [q], _ => exact ⟨q, rfl⟩
        obtain ⟨b, off, rfl, hat⟩ := h2.get ZAt.plain (show v.bytes[0]? = some q by rw [hq]; rfl)
        obtain ⟨u, hat, hrd⟩ := hat.at
        obtain ⟨a4, n4, c4, rfl, Hn4, hn4⟩ := hrd.shape
        have hat : w.cell? ⟨b, off, none⟩ = some (.slice a4 n4 c4) := by simpa using hat
        have hbl : b < w.heap.size := World.block_lt_of_cell? w _ hat
        have HR : Hid (withoutB x v = ((n4 : Int) == 0)) := by
          show _ = _; unfold withoutB; rw [if_neg hno, if_neg (by omega), hq, hbi, Bool.eq_iff_iff, Hn4.out]
          simp
        clear hm hs1 hq l1 l2 l3 h1 h2 h3 hs hno hbi hrd
        go_enter Tryz.func72, Tryz.ntmps72
        go_wp2
        go_ret
        exact ⟨by rw [HR.out]; rfl, hb2⟩
      · obtain rfl : n2 = 0 := by omega
        obtain rfl : n3 = 1 := by omega
        have hby : v.bytes = [] := List.eq_nil_of_length_eq_zero l2.symm
        have HR : Hid (withoutB x v = false) := by
          show _ = _; unfold withoutB; rw [if_neg hno, if_neg (by omega), hbi, hby]; rfl
        clear hm hs1 l1 l2 l3 h1 h2 h3 hs hno hbi hby h11 h21
        go_enter Tryz.func72, Tryz.ntmps72
        go_wp2
        go_ret
        exact ⟨by rw [HR.out]; rfl, hb2⟩
  · have HR : Hid (withoutB x v = false) := by show _ = _; unfold withoutB; rw [if_neg hno, if_pos (by omega)]
    have ds : ((n1 : Int) + (n2 : Int) + (n3 : Int) != 1) = true := by simp; omega
    clear hm l1 l2 l3 h1 h2 h3 hs hno
    go_enter Tryz.func72, Tryz.ntmps72
    go_wp2
    go_ret
    exact ⟨by rw [HR.out]; rfl, hb2⟩

end L
end Go.Proofs.YtelmjekjohbmjaaGreatDoor

