/- The contracts of recordBytes and Add. -/
import Derived.Test.YtenlijgnmhdopaaWWrong
namespace Go.Proofs.Ytenlijgnmhdopaa
open Go.RowKit

/-- What stands behind a record's tag. -/
def tailB (how : Int) (bits : Nat) (l : List UInt8) : List UInt8 := if how = 2 then putN l.length ++ l else if how = 0 then putN bits else lowN (widthN how) bits
def recB (num how : Int) (bits : Nat) (l : List UInt8) : List UInt8 := putN (num.toNat * 8 + how.toNat) ++ tailB how bits l

theorem putN_len (n : Nat) : (putN n).length ≤ 10 := putF_len 10 n
theorem tailB_len (how : Int) (bits : Nat) (l : List UInt8) : (tailB how bits l).length ≤ 10 + l.length := by
  unfold tailB
  have h1 := putN_len l.length
  have h2 := putN_len bits
  split
  · simp; omega
  · split
    · omega
    · rw [lowN_len]; unfold widthN; split <;> (try split) <;> omega
theorem recB_len (num how : Int) (bits : Nat) (l : List UInt8) : (recB num how bits l).length ≤ 20 + l.length := by
  unfold recB
  have h1 := putN_len (num.toNat * 8 + how.toNat)
  have h2 := tailB_len how bits l
  simp
  omega

theorem OwnB.mono {w : World} {base base' : Nat} {v : Value} {l : List UInt8} (h : OwnB w base v l) (hb : base' ≤ base) : OwnB w base' v l := by
  refine ⟨h.1, ?_⟩
  rcases h.2 with hn | ⟨g, cap, cur, hv, hbg, r⟩
  · exact .inl hn
  · exact .inr ⟨g, cap, cur, hv, Nat.le_trans hb hbg, r⟩

theorem cell_new4 (w : World) (a b c d : Value) (t : TypeId) :
    (w.alloc (.cells #[a, b, c, d] t)).cell? ⟨w.heap.size, 0, none⟩ = some a ∧ (w.alloc (.cells #[a, b, c, d] t)).cell? ⟨w.heap.size, 1, none⟩ = some b ∧
    (w.alloc (.cells #[a, b, c, d] t)).cell? ⟨w.heap.size, 2, none⟩ = some c ∧ (w.alloc (.cells #[a, b, c, d] t)).cell? ⟨w.heap.size, 3, none⟩ = some d := by
  refine ⟨?_, ?_, ?_, ?_⟩ <;> simp

set_option maxHeartbeats 1000000 in
set_option maxRecDepth 100000 in
theorem recordBytes_any (num how : Int) (bits : Nat) (ao : Option Addr) (len cap : Nat) (l : List UInt8) (w : World) (hb : bits ≤ 18446744073709551615) (hr : RdA w ao len cap l) (hlen : len ≤ 4000)
    (h1 : 0 ≤ num) (h2 : num ≤ 536870912) (h3 : 0 ≤ how) (h4 : how ≤ 7) :
    Calls Try.prog 44 #[.agg #[.int .i64 num, .int .i64 how, .int .u64 (bits : Int), .slice ao len cap]] w fun e w' => ∃ v', e = .returned v' ∧ OwnB w' w.heap.size v' (recB num how bits l) ∧ Below w.heap.size w w' := by
  have HL : Hid (l.length = len) := hr.1
  go_enter Try.func44, Try.ntmps44
  go_wp2_with fail
  refine (tag_any (w.heap.size + 1) (.slice none 0 0) [] num how _ (OwnB.nil _ _) (by simp) h1 h2 h3 h4 (by simp)).mono ?_
  rintro e w1 ⟨v1, rfl, ho, hbl⟩
  obtain ⟨_, d1, d2, d3⟩ := cell_new4 w (.int .i64 num) (.int .i64 how) (.int .u64 (bits : Int)) (.slice ao len cap) 53
  have c1 := (hbl.cell (p := ⟨w.heap.size, 1, none⟩) (by simp)).trans d1
  have c2 := (hbl.cell (p := ⟨w.heap.size, 2, none⟩) (by simp)).trans d2
  have c3 := (hbl.cell (p := ⟨w.heap.size, 3, none⟩) (by simp)).trans d3
  have hb0 : Below w.heap.size w w1 := ((Below.refl w.heap.size w).alloc (Nat.le_refl _) _).trans (hbl.mono (by omega))
  have hs1 : w.heap.size + 1 ≤ w1.heap.size := by have := hbl.size; simpa using this
  clear d1 d2 d3 hbl
  by_cases hh : how = 2
  · have ht : tailB how bits l = putN l.length ++ l := by unfold tailB; rw [if_pos hh]
    have HT : Hid (recB num how bits l = putN (num.toNat * 8 + how.toNat) ++ (putN l.length ++ l)) := by show _ = _; rw [recB, ht]
    clear ht
    rw [hh] at c1
    have hh' : Hid (how = 2) := hh
    clear hh
    go_wp2_with fail
    refine (put_any (w.heap.size + 1) v1 _ len w1 ho hs1 (by omega) (by simp; have := putN_len (num.toNat * 8 + how.toNat); omega)).mono ?_
    rintro e w2 ⟨v2, rfl, ho2, hbl2⟩
    have e3 := (hbl2.cell (p := ⟨w.heap.size, 3, none⟩) (by simp)).trans c3
    have hr2 := hr.later (hb0.trans (hbl2.mono (by omega)))
    have hs2 : w.heap.size + 1 ≤ w2.heap.size := by have := hbl2.size; omega
    clear c1 c2 c3
    go_wp2_with (at_builtin; refine wpList_appB rfl _ _ rfl (w.heap.size + 1) _ _ l rfl ho2 ao len cap rfl hr2 ?e1 hs2 ?_)
    case e1 =>
      have := putN_len (num.toNat * 8 + how.toNat)
      have := putN_len len
      have := HL.out
      simp
      omega
    intro v3 w3 ho3 hbl3
    go_wp2
    go_ret
    refine ⟨v3, rfl, ?_, (hb0.trans (hbl2.mono (by omega))).trans (hbl3.mono (by omega))⟩
    rw [HT.out, HL.out]
    have := ho3.mono (show w.heap.size ≤ w.heap.size + 1 by omega)
    simpa using this
  · have ht : tailB how bits l = if how = 0 then putN bits else lowN (widthN how) bits := by unfold tailB; rw [if_neg hh]
    have HT : Hid (recB num how bits l = putN (num.toNat * 8 + how.toNat) ++ (if how = 0 then putN bits else lowN (widthN how) bits)) := by show _ = _; rw [recB, ht]
    clear ht
    have b2 : (how == 2) = false := beq_eq_false_iff_ne.2 hh
    go_wp2_with fail
    refine (putBits_any (w.heap.size + 1) v1 _ how bits w1 ho hs1 hb (by simp; have := putN_len (num.toNat * 8 + how.toNat); omega)).mono ?_
    rintro e w2 ⟨v2, rfl, ho2, hbl2⟩
    go_wp2
    go_ret
    refine ⟨v2, rfl, ?_, hb0.trans (hbl2.mono (by omega))⟩
    rw [HT.out]
    exact ho2.mono (by omega)

set_option maxHeartbeats 1000000 in
set_option maxRecDepth 100000 in
theorem add_any (base : Nat) (v : Value) (m : List UInt8) (num how : Int) (bits : Nat) (ao : Option Addr) (len cap : Nat) (l : List UInt8) (w : World) (hv : OwnB w base v m) (hbs : base ≤ w.heap.size) (hb : bits ≤ 18446744073709551615) (hr : RdA w ao len cap l) (hlen : len ≤ 4000)
    (h1 : 0 ≤ num) (h2 : num ≤ 536870912) (h3 : 0 ≤ how) (h4 : how ≤ 7) (hm : m.length ≤ 1000000) :
    Calls Try.prog 25 #[v, .agg #[.int .i64 num, .int .i64 how, .int .u64 (bits : Int), .slice ao len cap]] w fun e w' => ∃ v', e = .returned v' ∧ OwnB w' base v' (m ++ recB num how bits l) ∧ Below base w w' := by
  have HL : Hid (l.length = len) := hr.1
  have hb0 : ∀ o, Below w.heap.size w (w.alloc o) := fun o => (Below.refl w.heap.size w).alloc (Nat.le_refl _) o
  go_enter Try.func25, Try.ntmps25
  go_wp2_with fail
  refine (recordBytes_any num how bits ao len cap l _ hb (hr.later (hb0 _)) hlen h1 h2 h3 h4).mono ?_
  rintro e w1 ⟨v1, rfl, ho, hbl⟩
  have hv1 : OwnB w1 base v m := hv.keptB ((hb0 _).trans (hbl.mono (by simp)))
  have hbb : Below base w w1 := ((hb0 _).mono hbs).trans (hbl.mono (by simp; omega))
  have hs1 : base ≤ w1.heap.size := by have := hbb.size; omega
  obtain ⟨ao1, len1, cap1, hv1e, hr1⟩ := ho.rd
  rw [hv1e]
  have hrl := recB_len num how bits l
  have HH : Hid (l.length = len) := HL
  go_wp2_with (at_builtin; refine wpList_appB rfl _ _ rfl base _ _ (recB num how bits l) rfl hv1 ao1 len1 cap1 rfl hr1 ?e1 hs1 ?_)
  case e1 => have := HH.out; omega
  intro v2 w2 ho2 hbl2
  go_wp2
  go_ret
  exact ⟨v2, rfl, ho2, hbb.trans hbl2⟩

end Go.Proofs.Ytenlijgnmhdopaa
