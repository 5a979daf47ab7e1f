import Derived.Test.YtelmjekjohbmjaaGreatDoorM12
import Derived.Test.YtelmjekjohbmjaaGreatDoorBWireq
/- What is wrong with records that no field knows: wire.Wrong (as in WWrong), wrongUnknown, and the first of a list of them. -/
namespace Go.Proofs.YtelmjekjohbmjaaGreatDoor
namespace L
open Go.RowKit

/-- What is wrong with a record of a message that has these fields. -/
def unkE (fs : List FI) (r : RI) : Int :=
  if wrongR r.number r.how r.bits r.bytes.length = 0 then (if 0 ≤ firstI (fun f : FI => decide (f.number = r.number)) fs then 7 else 0) else wrongR r.number r.how r.bits r.bytes.length

set_option maxHeartbeats 1000000 in
set_option maxRecDepth 100000 in
theorem unknown_any {w : World} {nm : List UInt8} {af ab : Option Addr} {nf cf nb cb : Nat} {fs : List FI} (hf : RdL 6 FAt w (.slice af nf cf) fs) (r : RI) {ao : Option Addr} {n cap : Nat} (Hn : Hid (n = r.bytes.length)) (hn : n ≤ 9223372036854775807) :
    Calls Tryz.prog 57 #[.agg #[.string (S nm), .slice af nf cf, .slice ab nb cb], .agg #[.int .i64 r.number, .int .i64 r.how, .int .u64 (r.bits : Int), .slice ao n cap]] w fun e w' => e = .returned (.int .i64 (unkE fs r)) ∧ Below w.heap.size w w' := by
  obtain ⟨W2, HW2⟩ : ∃ W2, Hid (W2 = (w.alloc (.cells #[.string (S nm), .slice af nf cf, .slice ab nb cb] 48)).alloc (.cells #[.int .i64 r.number, .int .i64 r.how, .int .u64 (r.bits : Int), .slice ao n cap] 73)) := ⟨_, rfl⟩
  have hb2 : Below w.heap.size w W2 := by rw [HW2.out]; exact ((Below.refl _ _).alloc (Nat.le_refl _) _).alloc (by simp) _
  have x1 : W2.heap[w.heap.size]? = some (.cells #[.string (S nm), .slice af nf cf, .slice ab nb cb] 48 (0, 0)) := by rw [HW2.out]; exact alloc2_old _ _ _
  have x2 : W2.heap[w.heap.size + 1]? = some (.cells #[.int .i64 r.number, .int .i64 r.how, .int .u64 (r.bits : Int), .slice ao n cap] 73 (0, 0)) := by rw [HW2.out]; exact alloc2_new _ _ _
  have hz2 : w.heap.size + 2 ≤ W2.heap.size := by rw [HW2.out]; simp
  have hw := wireWrong_any r.number r.how r.bits ao n cap W2 hn
  obtain ⟨E, HE⟩ : ∃ E, Hid (E = wrongR r.number r.how r.bits n) := ⟨_, rfl⟩
  rw [← HE.out] at hw
  go_enter Tryz.func57, Tryz.ntmps57
  go_wp2_with fail
  rw [← HW2.out]
  refine hw.mono ?_
  rintro e w3 ⟨rfl, hb3⟩
  have hbw3 : Below w.heap.size w w3 := hb2.trans (hb3.mono hb2.size)
  clear hw
  by_cases hz : E = 0
  · have ez : (E != 0) = false := by simp [hz]
    have y1 := (hb3.block w.heap.size (by omega)).trans x1
    have y2 := (hb3.block (w.heap.size + 1) (by omega)).trans x2
    have m0 : w3.cell? ⟨w.heap.size, 0, none⟩ = some (.string (S nm)) := cell_of_blk y1 0 _ rfl
    have m1 : w3.cell? ⟨w.heap.size, 1, none⟩ = some (.slice af nf cf) := cell_of_blk y1 1 _ rfl
    have m2 : w3.cell? ⟨w.heap.size, 2, none⟩ = some (.slice ab nb cb) := cell_of_blk y1 2 _ rfl
    have m3 : w3.cell? ⟨w.heap.size + 1, 0, none⟩ = some (.int .i64 r.number) := cell_of_blk y2 0 _ rfl
    have hfd := field_any (hf.below FAt.stays hbw3) ⟨ab, nb, cb, rfl⟩ ⟨nm, rfl⟩ r.number
    obtain ⟨k, Hk⟩ : ∃ k, Hid (k = firstI (fun f : FI => decide (f.number = r.number)) fs) := ⟨_, rfl⟩
    rw [← Hk.out] at hfd
    by_cases hk : 0 ≤ k
    · have HR : Hid (unkE fs r = 7) := by
        show _ = _
        unfold unkE
        rw [← Hn.out, ← HE.out, if_pos hz, ← Hk.out, if_pos hk]
      have dk : decide (0 ≤ k) = true := decide_eq_true hk
      clear hz hk
      go_wp2_with fail
      refine hfd.mono ?_
      rintro e w4 ⟨rfl, hb4⟩
      go_wp2
      go_ret
      exact ⟨by rw [HR.out]; rfl, hbw3.trans (hb4.mono hbw3.size)⟩
    · have HR : Hid (unkE fs r = 0) := by
        show _ = _
        unfold unkE
        rw [← Hn.out, ← HE.out, if_pos hz, ← Hk.out, if_neg hk]
      have dk : decide (0 ≤ k) = false := decide_eq_false hk
      clear hz hk
      go_wp2_with fail
      refine hfd.mono ?_
      rintro e w4 ⟨rfl, hb4⟩
      go_wp2
      go_ret
      exact ⟨by rw [HR.out]; rfl, hbw3.trans (hb4.mono hbw3.size)⟩
  · have ez : (E != 0) = true := by simpa using hz
    have HR : Hid (unkE fs r = E) := by
      show _ = _
      unfold unkE
      rw [← Hn.out, ← HE.out, if_neg hz]
    clear hz
    go_wp2
    go_ret
    exact ⟨by rw [HR.out]; rfl, hbw3⟩

end L
end Go.Proofs.YtelmjekjohbmjaaGreatDoor

/- What is wrong first with the records that no field knows. -/
namespace Go.Proofs.YtelmjekjohbmjaaGreatDoor
namespace L
open Go.RowKit

set_option maxHeartbeats 1000000 in
set_option maxRecDepth 100000 in
theorem unk2_call {w : World} {c : Nat} {nm : List UInt8} {af ab : Option Addr} {nf cf nb cb : Nat} {fs : List FI} (hc : w.heap[c]? = some (.cells #[.string (S nm), .slice af nf cf, .slice ab nb cb] 48 (0, 0))) (hf : RdL 6 FAt w (.slice af nf cf) fs) (r : RI) {ao : Option Addr} {n cap : Nat} (Hn : Hid (n = r.bytes.length)) (hn : n ≤ 9223372036854775807) :
    Calls Tryz.prog 56 #[.agg #[.int .i64 r.number, .int .i64 r.how, .int .u64 (r.bits : Int), .slice ao n cap], .pointer (some ⟨c, 0, none⟩)] w fun e w' => e = .returned (.int .i64 (unkE fs r)) ∧ Below w.heap.size w w' := by
  have c0 : w.cell? ⟨c, 0, none⟩ = some (.string (S nm)) := cell_of_blk hc 0 _ rfl
  have c1 : w.cell? ⟨c, 1, none⟩ = some (.slice af nf cf) := cell_of_blk hc 1 _ rfl
  have c2 : w.cell? ⟨c, 2, none⟩ = some (.slice ab nb cb) := cell_of_blk hc 2 _ rfl
  have hcl : c < w.heap.size := (Array.getElem?_eq_some_iff.1 hc).1
  have hb1 : Below w.heap.size w (w.alloc (.cells #[.int .i64 r.number, .int .i64 r.how, .int .u64 (r.bits : Int), .slice ao n cap] 73)) := (Below.refl _ _).alloc (Nat.le_refl _) _
  have hu := unknown_any (nm := nm) (ab := ab) (nb := nb) (cb := cb) (hf.below FAt.stays hb1) r (ao := ao) (cap := cap) Hn hn
  go_enter Tryz.func56, Tryz.ntmps56
  go_wp2_with fail
  refine hu.mono ?_
  rintro e w1 ⟨rfl, hb2⟩
  go_wp2
  go_ret
  exact ⟨rfl, hb1.trans (hb2.mono hb1.size)⟩

set_option maxHeartbeats 1000000 in
set_option maxRecDepth 100000 in
theorem unks_any {v : Value} {l : List RI} {w : World} {c : Nat} {nm : List UInt8} {af ab : Option Addr} {nf cf nb cb : Nat} {fs : List FI} (h : RdL 4 RAt w v l) (hc : w.heap[c]? = some (.cells #[.string (S nm), .slice af nf cf, .slice ab nb cb] 48 (0, 0))) (hf : RdL 6 FAt w (.slice af nf cf) fs) :
    Calls Tryz.prog 55 #[v, .func (.func 56) #[] #[.pointer (some ⟨c, 0, none⟩)]] w fun e w' => e = .returned (.int .i64 (firstE (unkE fs) l)) ∧ Below w.heap.size w w' := by
  obtain ⟨ao, n, cap, rfl, Hn, hcap⟩ := h.shape
  obtain ⟨R, HR⟩ : ∃ R, Hid (R = firstE (unkE fs) l) := ⟨_, rfl⟩
  rw [← HR.out]
  go_enter Tryz.func55, Tryz.ntmps55
  go_wp2_with fail
  go_loopg [10] n (fun m i wr => ∃ k : Nat, k + m = n ∧ i = .int .i64 k ∧ Hid (R = firstE (unkE fs) (l.drop k)) ∧ Below w.heap.size w wr)
  case atStart => exact ⟨0, by omega, rfl, HR, Below.refl _ _⟩
  case round =>
    obtain ⟨k, hk, rfl, HK, hb⟩ := hrel
    have hcr := (hb.block c (Array.getElem?_eq_some_iff.1 hc).1).trans hc
    by_cases hlt : k < n
    · obtain ⟨a, Ha⟩ : ∃ a, Hid (l[k]? = some a) := ⟨l[k]'(by rw [← Hn.out]; exact hlt), List.getElem?_eq_getElem (by rw [← Hn.out]; exact hlt)⟩
      obtain ⟨b, off, rfl, hat⟩ := (h.below RAt.stays hb).get RAt.plain Ha.out
      obtain ⟨vy, s0, s1, s2, s3, hry⟩ := hat.at
      obtain ⟨ay, ny, cy, rfl, Hny, hny⟩ := hry.shape
      have hki : (k : Int) < (n : Int) := by omega
      obtain ⟨W1, HW1⟩ : ∃ W1, Hid (W1 = wr.alloc (.cells #[.int .i64 a.number, .int .i64 a.how, .int .u64 (a.bits : Int), .slice ay ny cy] 73)) := ⟨_, rfl⟩
      have hb1 : Below wr.heap.size wr W1 := by rw [HW1.out]; exact (Below.refl _ _).alloc (Nat.le_refl _) _
      have hbw1 : Below w.heap.size w W1 := hb.trans (hb1.mono hb.size)
      have hcall := unk2_call ((hb1.block c (Array.getElem?_eq_some_iff.1 hcr).1).trans hcr) (hf.below FAt.stays hbw1) a (ao := ay) (cap := cy) Hny hny
      have hst := firstE_at (f := unkE fs) Ha.out
      generalize hF : unkE fs a = F at hcall hst
      by_cases hz : F = 0
      · have HX : Hid (R = firstE (unkE fs) (l.drop (k + 1))) := by
          show _ = _
          rw [HK.out, hst, if_pos hz]
        have ez : (F != 0) = false := by simp [hz]
        clear hst hF hz hat hry
        go_wp2_with fail
        rw [← HW1.out]
        refine hcall.mono ?_
        rintro e w1 ⟨rfl, hb2⟩
        go_wp2_with fail
        go_roundg (n - (k + 1))
        case measure => omega
        case rel => exact ⟨k + 1, by omega, by go_num, HX, hbw1.trans (hb2.mono hbw1.size)⟩
      · have HX : Hid (R = F) := by
          show _ = _
          rw [HK.out, hst, if_neg hz]
        have ez : (F != 0) = true := by simpa using hz
        clear hst hF hz hat hry
        go_wp2_with fail
        rw [← HW1.out]
        refine hcall.mono ?_
        rintro e w1 ⟨rfl, hb2⟩
        go_wp2
        go_ret
        exact ⟨by rw [HX.out]; rfl, hbw1.trans (hb2.mono hbw1.size)⟩
    · have HX : Hid (R = 0) := by
        show _ = _
        rw [HK.out]
        exact firstE_end (by rw [← Hn.out]; omega)
      go_wp2
      go_ret
      exact ⟨by rw [HX.out]; rfl, hb⟩

end L
end Go.Proofs.YtelmjekjohbmjaaGreatDoor

