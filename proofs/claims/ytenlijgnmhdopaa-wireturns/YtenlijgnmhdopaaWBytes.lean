/- The contract of Bytes. -/
import Derived.Test.YtenlijgnmhdopaaWAdd
namespace Go.Proofs.Ytenlijgnmhdopaa
open Go.RowKit

def Rcd.wf (r : Rcd) : Prop := -9223372036854775808 ≤ r.num ∧ r.num ≤ 9223372036854775807 ∧ -9223372036854775808 ≤ r.how ∧ r.how ≤ 9223372036854775807 ∧ r.bits ≤ 18446744073709551615

/-- A record that lies in memory at the address x. -/
def RecAt (w : World) (x : Addr) (r : Rcd) : Prop :=
  ∃ ao len cap, w.cell? x = some (.int .i64 r.num) ∧ w.cell? (x.add 1) = some (.int .i64 r.how) ∧ w.cell? (x.add 2) = some (.int .u64 (r.bits : Int)) ∧ w.cell? (x.add 3) = some (.slice ao len cap) ∧ RdA w ao len cap r.bytes

/-- A slice of records that can be read. -/
def RdR (w : World) (ao : Option Addr) (len cap : Nat) (rs : List Rcd) : Prop :=
  rs.length = len ∧ len ≤ cap ∧ cap ≤ maxLen ∧ (ao = none → cap = 0) ∧ (∀ r ∈ rs, r.wf) ∧ ∀ x, ao = some x → ∀ i r, rs[i]? = some r → RecAt w (x.add (i * 4)) r

theorem RecAt.later {w w' : World} {x : Addr} {r : Rcd} (h : RecAt w x r) (hb : Below w.heap.size w w') : RecAt w' x r := by
  obtain ⟨ao, len, cap, h1, h2, h3, h4, h5⟩ := h
  refine ⟨ao, len, cap, ?_, ?_, ?_, ?_, h5.later hb⟩
  · rw [hb.cell (World.block_lt_of_cell? w _ h1)]; exact h1
  · rw [hb.cell (World.block_lt_of_cell? w _ h2)]; exact h2
  · rw [hb.cell (World.block_lt_of_cell? w _ h3)]; exact h3
  · rw [hb.cell (World.block_lt_of_cell? w _ h4)]; exact h4
theorem RdR.later {w w' : World} {ao : Option Addr} {len cap : Nat} {rs : List Rcd} (h : RdR w ao len cap rs) (hb : Below w.heap.size w w') : RdR w' ao len cap rs :=
  ⟨h.1, h.2.1, h.2.2.1, h.2.2.2.1, h.2.2.2.2.1, fun x hx i r hr => (h.2.2.2.2.2 x hx i r hr).later hb⟩

theorem RdR.at {w : World} {ao : Option Addr} {len cap : Nat} {rs : List Rcd} (h : RdR w ao len cap rs) (hp : 0 < len) :
    ∃ b off, ao = some ⟨b, off, none⟩ ∧ b < w.heap.size ∧ ∀ i r, rs[i]? = some r → ∃ ao len cap, w.cell? ⟨b, off + i * 4, none⟩ = some (.int .i64 r.num) ∧ w.cell? ⟨b, off + i * 4 + 1, none⟩ = some (.int .i64 r.how) ∧ w.cell? ⟨b, off + i * 4 + 2, none⟩ = some (.int .u64 (r.bits : Int)) ∧ w.cell? ⟨b, off + i * 4 + 3, none⟩ = some (.slice ao len cap) ∧ RdA w ao len cap r.bytes := by
  obtain ⟨h1, h2, h3, h4, h5, h6⟩ := h
  cases ao with
  | none => have := h4 rfl; omega
  | some x =>
    obtain ⟨b, off, spot⟩ := x
    have h0 : ∃ r, rs[0]? = some r := ⟨rs[0]'(by omega), List.getElem?_eq_getElem (by omega)⟩
    obtain ⟨r0, hr0⟩ := h0
    obtain ⟨_, _, _, hc, _⟩ := h6 _ rfl 0 r0 hr0
    have hspot : spot = none := by simpa [Addr.add] using World.cell?_spot hc
    subst hspot
    refine ⟨b, off, rfl, ?_, ?_⟩
    · have := World.block_lt_of_cell? w _ hc
      simpa [Addr.add] using this
    · intro i r hr
      have e : ∀ b o i, (⟨b, o, none⟩ : Addr).add i = ⟨b, o + i, none⟩ := by intro b o i; unfold Addr.add; split <;> simp_all
      obtain ⟨ao, len, cap, g1, g2, g3, g4, g5⟩ := h6 _ rfl i r hr
      simp only [e] at g1 g2 g3 g4
      exact ⟨ao, len, cap, g1, g2, g3, g4, g5⟩

/-- What Bytes answers: from the record number i on, with what has been written. -/
def bytesGo : Nat → List UInt8 → List Rcd → List UInt8 × Int × Nat
  | _, acc, [] => (acc, 0, 0)
  | i, acc, r :: rest =>
    if wrongR r.num r.how r.bits r.bytes.length ≠ 0 then ([], wrongR r.num r.how r.bits r.bytes.length, i)
    else if 4000 < (acc ++ recB r.num r.how r.bits r.bytes).length then ([], 4, i)
    else bytesGo (i + 1) (acc ++ recB r.num r.how r.bits r.bytes) rest

theorem drop_rec {rs : List Rcd} {k : Nat} {r : Rcd} (h : rs[k]? = some r) : rs.drop k = r :: rs.drop (k + 1) := by
  obtain ⟨h1, h2⟩ := List.getElem?_eq_some_iff.1 h
  rw [List.drop_eq_getElem_cons h1, h2]
theorem bytesGo_err {rs : List Rcd} {k : Nat} {r : Rcd} {acc : List UInt8} {E : Int} (h : rs[k]? = some r) (hE : E = wrongR r.num r.how r.bits r.bytes.length) (h0 : E ≠ 0) : bytesGo k acc (rs.drop k) = ([], E, k) := by
  rw [drop_rec h, bytesGo, ← hE, if_pos h0]
theorem bytesGo_much {rs : List Rcd} {k : Nat} {r : Rcd} {acc : List UInt8} (h : rs[k]? = some r) (hE : 0 = wrongR r.num r.how r.bits r.bytes.length) (h0 : 4000 < (acc ++ recB r.num r.how r.bits r.bytes).length) : bytesGo k acc (rs.drop k) = ([], 4, k) := by
  rw [drop_rec h, bytesGo, ← hE, if_neg (by simp), if_pos h0]
theorem bytesGo_go {rs : List Rcd} {k : Nat} {r : Rcd} {acc : List UInt8} (h : rs[k]? = some r) (hE : 0 = wrongR r.num r.how r.bits r.bytes.length) (h0 : ¬ 4000 < (acc ++ recB r.num r.how r.bits r.bytes).length) : bytesGo k acc (rs.drop k) = bytesGo (k + 1) (acc ++ recB r.num r.how r.bits r.bytes) (rs.drop (k + 1)) := by
  rw [drop_rec h, bytesGo, ← hE, if_neg (by simp), if_neg h0]
theorem bytesGo_nil {rs : List Rcd} {k : Nat} {acc : List UInt8} (h : rs.length ≤ k) : bytesGo k acc (rs.drop k) = (acc, 0, 0) := by
  rw [List.drop_eq_nil_of_le h, bytesGo]

theorem isHowB_of_true {h : Int} (k : ¬ isHowB h = false) : h = 0 ∨ h = 1 ∨ h = 2 ∨ h = 5 := by
  rcases Decidable.em (h = 0 ∨ h = 1 ∨ h = 2 ∨ h = 5) with g | g
  · exact g
  · exact absurd (isHowB_no g).symm k

theorem wrong_ok {num how : Int} {bits len : Nat} (h : 0 = wrongR num how bits len) :
    (how = 0 ∨ how = 1 ∨ how = 2 ∨ how = 5) ∧ 1 ≤ num ∧ num < 536870912 ∧ len ≤ 4000 ∧ (how = 5 → bits < 4294967296) ∧ (how = 2 → bits = 0) ∧ (how ≠ 2 → len = 0) := by
  unfold wrongR at h
  split at h
  · cases h
  · rename_i hk
    have hh := isHowB_of_true hk
    split at h
    · cases h
    · split at h
      · cases h
      · split at h
        · cases h
        · split at h
          · cases h
          · split at h
            · cases h
            · refine ⟨hh, by omega, by omega, by omega, by omega, by omega, by omega⟩

set_option maxHeartbeats 1000000 in
set_option maxRecDepth 100000 in
theorem bytes_any (ao : Option Addr) (len cap : Nat) (rs : List Rcd) (w : World) (hr : RdR w ao len cap rs) :
    Calls Try.prog 12 #[.slice ao len cap] w fun e w' => ∃ v', e = .returned (.tuple #[v', .agg #[.int .i64 (bytesGo 0 [] rs).2.1, .int .i64 ((bytesGo 0 [] rs).2.2 : Int)]]) ∧ OwnB w' w.heap.size v' (bytesGo 0 [] rs).1 ∧ Below w.heap.size w w' := by
  have hlm : len ≤ 9223372036854775807 := by have := hr.2.1; have := hr.2.2.1; unfold maxLen at this; omega
  have Hl : Hid (rs.length = len) := hr.1
  obtain ⟨RR, HRR⟩ : ∃ RR, Hid (RR = bytesGo 0 [] rs) := ⟨_, rfl⟩
  rw [← HRR.out]
  have H0 : Hid (RR = bytesGo 0 [] (rs.drop 0)) := by show _ = _; rw [List.drop_zero]; exact HRR.out
  clear HRR
  by_cases hp : 0 < len
  · obtain ⟨b, off, rfl, hbw, hcell⟩ := hr.at hp
    go_enter Try.func12, Try.ntmps12
    go_wp2
    go_loopw [4, 10] (fun v i wr => ∃ (k : Nat) (acc : List UInt8), k ≤ len ∧ i = .int .i64 k ∧ acc.length ≤ 4000 ∧ OwnB wr (w.heap.size + 1) v acc ∧ Below (w.heap.size + 1) (w.alloc (.cells #[.int .i64 0, .int .i64 0] 34)) wr ∧ Hid (RR = bytesGo k acc (rs.drop k)))
      (fun _ i _ => len - (intOf i).toNat)
    case atStart => exact ⟨0, [], Nat.zero_le _, rfl, by simp, OwnB.nil _ _, Below.refl _ _, H0⟩
    case round =>
      obtain ⟨k, acc, hk, rfl, hacc, hown, hnx, HR⟩ := hrel
      by_cases hlt : k < len
      · have hkl : k < rs.length := by rw [Hl.out]; exact hlt
        obtain ⟨r, Hr⟩ : ∃ r, Hid (rs[k]? = some r) := ⟨rs[k], List.getElem?_eq_getElem hkl⟩
        obtain ⟨ao1, len1, cap1, c0, c1, c2, c3, hrd⟩ := hcell k r Hr.out
        have hbl0 : Below w.heap.size w wr := ((Below.refl _ _).alloc (Nat.le_refl _) _).trans (hnx.mono (by omega))
        have e0 := (hbl0.cell (p := ⟨b, off + k * 4, none⟩) hbw).trans c0
        have e1 := (hbl0.cell (p := ⟨b, off + k * 4 + 1, none⟩) hbw).trans c1
        have e2 := (hbl0.cell (p := ⟨b, off + k * 4 + 2, none⟩) hbw).trans c2
        have e3 := (hbl0.cell (p := ⟨b, off + k * 4 + 3, none⟩) hbw).trans c3
        clear c0 c1 c2 c3 hcell
        have HL1 : Hid (r.bytes.length = len1) := hrd.1
        obtain ⟨E, HE⟩ : ∃ E, Hid (E = wrongR r.num r.how r.bits len1) := ⟨_, rfl⟩
        have hl1 : len1 ≤ 9223372036854775807 := by have := hrd.2.1; have := hrd.2.2.1; unfold maxLen at this; omega
        have hsz : w.heap.size + 1 ≤ wr.heap.size := by have := hnx.size; simpa using this
        go_wp2_with fail
        refine (wrong_any r.num r.how r.bits ao1 len1 cap1 _ hl1).mono ?_
        rintro e w1 ⟨rfl, hb1⟩
        rw [← HE.out]
        obtain ⟨d0, d1, d2, d3⟩ := cell_new4 wr (.int .i64 r.num) (.int .i64 r.how) (.int .u64 (r.bits : Int)) (.slice ao1 len1 cap1) 53
        have f0 := (hb1.cell (p := ⟨wr.heap.size, 0, none⟩) (by simp)).trans d0
        have f1 := (hb1.cell (p := ⟨wr.heap.size, 1, none⟩) (by simp)).trans d1
        have f2 := (hb1.cell (p := ⟨wr.heap.size, 2, none⟩) (by simp)).trans d2
        have f3 := (hb1.cell (p := ⟨wr.heap.size, 3, none⟩) (by simp)).trans d3
        clear d0 d1 d2 d3 e0 e1 e2 e3
        have hbA : Below wr.heap.size wr w1 := ((Below.refl _ _).alloc (Nat.le_refl _) _).trans (hb1.mono (by simp))
        have hbB : Below (w.heap.size + 1) (w.alloc (.cells #[.int .i64 0, .int .i64 0] 34)) w1 := hnx.trans (hbA.mono hsz)
        have g0 : w1.cell? ⟨w.heap.size, 0, none⟩ = some (.int .i64 0) := (hbB.cell (p := ⟨w.heap.size, 0, none⟩) (by simp)).trans (by simp)
        have g1 : w1.cell? ⟨w.heap.size, 1, none⟩ = some (.int .i64 0) := (hbB.cell (p := ⟨w.heap.size, 1, none⟩) (by simp)).trans (by simp)
        have g2 : w1.frozen? ⟨w.heap.size, 0, none⟩ = false := (hbB.frozen (p := ⟨w.heap.size, 0, none⟩) (by simp)).trans (by simp)
        have g3 : w1.frozen? ⟨w.heap.size, 1, none⟩ = false := (hbB.frozen (p := ⟨w.heap.size, 1, none⟩) (by simp)).trans (by simp)
        clear hb1
        by_cases h0 : E = 0
        · have HE1 : Hid (0 = wrongR r.num r.how r.bits len1) := by show _ = _; rw [← h0]; exact HE.out
          have HE2 : Hid (0 = wrongR r.num r.how r.bits r.bytes.length) := by show _ = _; rw [HL1.out]; exact HE1.out
          have hE0 : (E != 0) = false := by simp [h0]
          clear h0 HE
          obtain ⟨q1, q2, q3, q4, _, _, _⟩ := wrong_ok HE1.out
          have qb : r.bits ≤ 18446744073709551615 := (hr.2.2.2.2.1 r (List.mem_of_getElem? Hr.out)).2.2.2.2
          have hrd1 : RdA w1 ao1 len1 cap1 r.bytes := hrd.later (hbl0.trans (hbA.mono (by omega)))
          have hs1 : w.heap.size + 1 ≤ w1.heap.size := by have := hbA.size; omega
          go_wp2_with fail
          refine (add_any (w.heap.size + 1) _ acc r.num r.how r.bits ao1 len1 cap1 r.bytes w1 (hown.keptB hbA) hs1 qb hrd1 q4 (by omega) (by omega) (by omega) (by omega) (by omega)).mono ?_
          rintro e w2 ⟨v2, rfl, ho2, hb2⟩
          have hbC := hbB.trans hb2
          clear g0 g1 g2 g3 f0 f1 f2 f3
          have g0 : w2.cell? ⟨w.heap.size, 0, none⟩ = some (.int .i64 0) := (hbC.cell (p := ⟨w.heap.size, 0, none⟩) (by simp)).trans (by simp)
          have g1 : w2.cell? ⟨w.heap.size, 1, none⟩ = some (.int .i64 0) := (hbC.cell (p := ⟨w.heap.size, 1, none⟩) (by simp)).trans (by simp)
          have g2 : w2.frozen? ⟨w.heap.size, 0, none⟩ = false := (hbC.frozen (p := ⟨w.heap.size, 0, none⟩) (by simp)).trans (by simp)
          have g3 : w2.frozen? ⟨w.heap.size, 1, none⟩ = false := (hbC.frozen (p := ⟨w.heap.size, 1, none⟩) (by simp)).trans (by simp)
          obtain ⟨ao2, len2, cap2, hv2, hr2⟩ := ho2.rd
          have HV : Hid (v2 = .slice ao2 len2 cap2) := hv2
          rw [hv2]
          rw [hv2] at ho2
          have HL2 : Hid ((acc ++ recB r.num r.how r.bits r.bytes).length = len2) := hr2.1
          have hl2 : len2 ≤ 8100 := by rw [← HL2.out, List.length_append]; have := recB_len r.num r.how r.bits r.bytes; have := HL1.out; omega
          clear hv2
          by_cases hm : 4000 < len2
          · go_wp2
            have e1 := bytesGo_much (acc := acc) Hr.out HE2.out (by rw [HL2.out]; exact hm)
            refine bodyPost_ret (v := .tuple #[.slice none 0 0, .agg #[.int .i64 4, .int .i64 (k : Int)]]) (by simp [results, Try.results12, go_sem, g0, g1]) rfl ⟨.slice none 0 0, ?_, ?_, ?_⟩
            · rw [HR.out, e1]
            · rw [HR.out, e1]; exact OwnB.nil _ _
            · exact ((((Below.refl _ _).alloc (Nat.le_refl _) _).trans (hbC.mono (by omega))).setCell (Nat.le_refl _) _).setCell (Nat.le_refl _) _
          · go_wp2
            go_roundw
            case rel =>
              refine ⟨k + 1, acc ++ recB r.num r.how r.bits r.bytes, by omega, by go_num, by rw [HL2.out]; omega, ho2, hbC, ?_⟩
              exact HR.out.trans (bytesGo_go Hr.out HE2.out (by rw [HL2.out]; exact hm))
            case measure => simp [intOf]; omega
        · have hE0 : (E != 0) = true := by simp [h0]
          have Hne : Hid (E ≠ 0) := h0
          clear h0
          go_wp2
          have e1 := bytesGo_err (acc := acc) Hr.out (HE.out.trans (by rw [HL1.out])) Hne.out
          refine bodyPost_ret (v := .tuple #[.slice none 0 0, .agg #[.int .i64 E, .int .i64 (k : Int)]]) (by simp [results, Try.results12, go_sem, g0, g1]) rfl ⟨.slice none 0 0, ?_, ?_, ?_⟩
          · rw [HR.out, e1]
          · rw [HR.out, e1]; exact OwnB.nil _ _
          · exact ((((Below.refl _ _).alloc (Nat.le_refl _) _).trans (hbB.mono (by omega))).setCell (Nat.le_refl _) _).setCell (Nat.le_refl _) _
      · have g0 : wr.cell? ⟨w.heap.size, 0, none⟩ = some (.int .i64 0) := (hnx.cell (p := ⟨w.heap.size, 0, none⟩) (by simp)).trans (by simp)
        have g1 : wr.cell? ⟨w.heap.size, 1, none⟩ = some (.int .i64 0) := (hnx.cell (p := ⟨w.heap.size, 1, none⟩) (by simp)).trans (by simp)
        have g2 : wr.frozen? ⟨w.heap.size, 0, none⟩ = false := (hnx.frozen (p := ⟨w.heap.size, 0, none⟩) (by simp)).trans (by simp)
        have g3 : wr.frozen? ⟨w.heap.size, 1, none⟩ = false := (hnx.frozen (p := ⟨w.heap.size, 1, none⟩) (by simp)).trans (by simp)
        go_wp2
        have e1 := bytesGo_nil (rs := rs) (k := k) (acc := acc) (by rw [Hl.out]; omega)
        refine bodyPost_ret (v := .tuple #[u4, .agg #[.int .i64 0, .int .i64 0]]) (by simp [results, Try.results12, go_sem, g0, g1]) rfl ⟨u4, ?_, ?_, ?_⟩
        · rw [HR.out, e1]; rfl
        · rw [HR.out, e1]
          exact OwnB.mono (base := w.heap.size + 1) (ownsRow_setCell_below (ownsRow_setCell_below hown (by simp) _) (by simp) _) (by omega)
        · exact ((((Below.refl _ _).alloc (Nat.le_refl _) _).trans (hnx.mono (by omega))).setCell (Nat.le_refl _) _).setCell (Nat.le_refl _) _
  · have h0 : len = 0 := by omega
    subst h0
    have hn : rs = [] := List.eq_nil_of_length_eq_zero Hl.out
    have HR : Hid (RR = ([], 0, 0)) := by show _ = _; rw [H0.out, hn]; rfl
    clear hr H0 Hl hn
    go_enter Try.func12, Try.ntmps12
    go_wp2
    refine wp_loop_rounds 1 ?_
    rw [rounds_succ]
    go_wp2
    refine bodyPost_ret (v := .tuple #[.slice none 0 0, .agg #[.int .i64 0, .int .i64 0]]) (by simp [results, Try.results12, go_sem]) rfl ⟨.slice none 0 0, ?_, ?_, ?_⟩
    · rw [HR.out]; rfl
    · rw [HR.out]; exact OwnB.nil _ _
    · exact (Below.refl _ _).alloc (Nat.le_refl _) _

end Go.Proofs.Ytenlijgnmhdopaa
