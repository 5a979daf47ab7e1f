/- SameRecords of the same records answers true. -/
import Derived.Test.YtenlijgnmhdopaaWParse2
import Derived.Laws.BytesArg
import Derived.Deep.QuietTactic
import Derived.BigQuiet
namespace Go.Proofs.Ytenlijgnmhdopaa
open Go.RowKit

theorem RdA.str {w : World} {ao : Option Addr} {len cap : Nat} {l : List UInt8} (h : RdA w ao len cap l) : (convert 23 9 (.slice ao len cap)).run Try.prog w = .ok (.string ⟨l.toArray⟩) w := by
  obtain ⟨h1, h2, h3, h4, h5⟩ := h
  cases ao with
  | none =>
    have hc0 := h4 rfl
    have hm : l = [] := List.eq_nil_of_length_eq_zero (by omega)
    subst hm
    rw [run_convert_bytes_nil w 23 5 Try.underlying23 Try.underlying5 len cap 9 Try.underlying9]
    rfl
  | some x =>
    have hl : (loadCells x len).run Try.prog w = .ok ((l.map fun c => ((c.toNat : Nat) : Int)).map (Value.int .u8)).toArray w := by
      have := run_loadCells_list (P := Try.prog) w x ((l.map fun c => ((c.toNat : Nat) : Int)).map (Value.int .u8)) (fun j v hj => by
        rw [List.getElem?_map, List.getElem?_map] at hj
        cases hc : l[j]? with
        | none => rw [hc] at hj; cases hj
        | some c =>
          rw [hc] at hj
          have hjl : j < l.length := (List.getElem?_eq_some_iff.1 hc).1
          have := h5 x rfl j (by omega)
          rw [this, List.getD_eq_getElem?_getD, hc]
          exact hj)
      simpa [h1] using this
    rw [run_convert_bytes_string w 23 9 5 _ len cap Try.underlying23 Try.underlying5 Try.underlying9, run_bytesToString w _ len cap _ hl, foldl_push_bytes]
    have e : ∀ l : List UInt8, (l.map fun c => ((c.toNat : Nat) : Int)).map (fun n : Int => UInt8.ofNat n.toNat) = l := by
      intro l
      rw [List.map_map]
      conv => rhs; rw [← List.map_id l]
      apply List.map_congr_left
      intro c _
      simp
    rw [e]
    simp [ByteArray.empty, ByteArray.emptyWithCapacity]
    rfl

theorem RdA.drewN {w : World} {ao : Option Addr} {len cap : Nat} {l : List UInt8} (h : RdA w ao len cap l) (n : Nat) : RdA (w.drewN n) ao len cap l := h

set_option maxHeartbeats 2000000 in
set_option maxRecDepth 100000 in
theorem same_yes {ao bo : Option Addr} {la lb ca cb : Nat} {rs : List Rcd} {w : World} (ha : RdR w ao la ca rs) (hb : RdR w bo lb cb rs) :
    Calls Try.prog 14 #[.slice ao la ca, .slice bo lb cb] w fun e w' => e = .returned (.bool true) ∧ ∃ n, w' = w.drewN n := by
  have hlb : lb = la := by have := ha.1; have := hb.1; omega
  subst hlb
  have hlm : lb ≤ 9223372036854775807 := by have := hb.2.1; have := hb.2.2.1; unfold maxLen at this; omega
  have HL : Hid (rs.length = lb) := hb.1
  by_cases hp : 0 < lb
  · obtain ⟨b, off, rfl, hbw, hcell⟩ := ha.at hp
    obtain ⟨b', off', rfl, hbw', hcell'⟩ := hb.at hp
    go_enter Try.func14, Try.ntmps14
    go_wp2
    go_loopw [13] (fun i wr => ∃ (k n : Nat), i = .int .i64 (k : Int) ∧ k ≤ lb ∧ wr = w.drewN n) (fun i _ => lb - (intOf i).toNat)
    case atStart => exact ⟨0, 0, rfl, Nat.zero_le _, rfl⟩
    case round =>
      obtain ⟨k, n, rfl, hk, rfl⟩ := hrel
      by_cases hlt : k < lb
      · have hkl : k < rs.length := by rw [HL.out]; exact hlt
        obtain ⟨r, Hr⟩ : ∃ r, Hid (rs[k]? = some r) := ⟨rs[k], List.getElem?_eq_getElem hkl⟩
        obtain ⟨ao1, len1, cap1, c0, c1, c2, c3, hrd⟩ := hcell k r Hr.out
        obtain ⟨ao2, len2, cap2, d0, d1, d2, d3, hrd'⟩ := hcell' k r Hr.out
        have s1 : ∀ n, (convert 23 9 (.slice ao1 len1 cap1)).run Try.prog (w.drewN n) = .ok (.string ⟨r.bytes.toArray⟩) (w.drewN n) := fun n => (hrd.drewN n).str
        have s2 : ∀ n, (convert 23 9 (.slice ao2 len2 cap2)).run Try.prog (w.drewN n) = .ok (.string ⟨r.bytes.toArray⟩) (w.drewN n) := fun n => (hrd'.drewN n).str
        have hlt' : (k : Int) < (lb : Int) := by omega
        clear hcell hcell' hrd hrd' hkl ha hb
        go_wp2
        go_quiet (fail)
        go_wp2
        go_roundw
        case rel => exact ⟨k + 1, _, by go_num, by omega, rfl⟩
        case measure => simp [intOf]; omega
      · go_wp2
        go_ret
        exact ⟨rfl, n, rfl⟩
  · have h0 : lb = 0 := by omega
    subst h0
    go_enter Try.func14, Try.ntmps14
    go_wp2
    refine wp_loop_rounds 1 ?_
    rw [rounds_succ]
    go_wp2
    go_ret
    exact ⟨rfl, 0, rfl⟩

end Go.Proofs.Ytenlijgnmhdopaa
