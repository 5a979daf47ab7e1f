import Derived.Test.YtelmjekjohbmjaaGreatDoorBValidq
import Derived.Test.YtelmjekjohbmjaaGreatDoorM12
/- What is wrong first with a value's texts: wrongBytes, and the contract of checks' function on Bytes. -/
namespace Go.Proofs.YtelmjekjohbmjaaGreatDoor
namespace L
open Go.RowKit

def bytesE (kind : Int) (l : List UInt8) : Int := if 4000 < l.length then 4 else if kind = 8 ∧ Lib.validD l = false then 9 else 0

set_option maxHeartbeats 1000000 in
set_option maxRecDepth 100000 in
theorem validNil_any {w : World} {ao : Option Addr} {cap : Nat} (hao : ao = none → cap = 0) (hcap : cap ≤ 9223372036854775807) :
    Calls Tryz.prog 139 #[.slice ao 0 cap] w fun e w' => e = .returned (.bool true) ∧ Below w.heap.size w w' := by
  have hcz : (0 : Int) ≤ (cap : Int) := by omega
  cases ao with
  | none =>
    obtain rfl := hao rfl
    go_enter Tryz.func139, Tryz.ntmps139
    go_wp2
    go_loopg [0] 1 (fun _ s0 wx => s0 = .slice none 0 0 ∧ w = wx)
    case atStart => exact ⟨rfl, rfl⟩
    case round =>
      obtain ⟨rfl, rfl⟩ := hrel
      go_wp2
      go_ret
      exact ⟨rfl, Below.refl _ _⟩
  | some x =>
    go_enter Tryz.func139, Tryz.ntmps139
    go_wp2
    go_loopg [0] 1 (fun _ s0 wx => s0 = .slice (some x) 0 0 ∧ w = wx)
    case atStart => exact ⟨rfl, rfl⟩
    case round =>
      obtain ⟨rfl, rfl⟩ := hrel
      go_wp2
      go_ret
      exact ⟨rfl, Below.refl _ _⟩

theorem valid_any {w : World} {ao : Option Addr} {n cap : Nat} {l : List UInt8} (h : RdL 1 YAt w (.slice ao n cap) l) (hT : Tabs w) :
    Calls Tryz.prog 139 #[.slice ao n cap] w fun e w' => e = .returned (.bool (Lib.validD l)) ∧ Below w.heap.size w w' := by
  obtain ⟨ao', n', cap', e, h1, h2, h3, h4, h5⟩ := h
  cases e
  unfold maxLen at h3
  by_cases hn : n = 0
  · subst hn
    have hl : l = [] := List.eq_nil_of_length_eq_zero h1
    subst hl
    exact validNil_any (fun e => (h4 e).2) h3
  · obtain ⟨y, hy⟩ : ∃ y, l[0]? = some y := ⟨l[0]'(by omega), List.getElem?_eq_getElem (by omega)⟩
    obtain ⟨b, o, rfl, _⟩ := RdL.get (n := n) (cap := cap) YAt.plain ⟨ao, n, cap, rfl, h1, h2, by unfold maxLen; exact h3, h4, h5⟩ hy
    exact validS_any (fun i x hx => by have := h5 _ rfl i x hx; rw [Nat.mul_one, add_plain] at this; exact this) h1.symm h2 h3 hT

set_option maxHeartbeats 1000000 in
set_option maxRecDepth 100000 in
theorem wrongBytes_any {w : World} (kind : Int) {ao : Option Addr} {n cap : Nat} {l : List UInt8} (h : RdL 1 YAt w (.slice ao n cap) l) (hT : Tabs w) :
    Calls Tryz.prog 101 #[.int .i64 kind, .slice ao n cap] w fun e w' => e = .returned (.int .i64 (bytesE kind l)) ∧ Below w.heap.size w w' := by
  have hv := valid_any h hT
  obtain ⟨ao', n', cap', e, h1, h2, h3, h4, h5⟩ := h
  cases e
  have HL : Hid (l.length = n) := h1
  clear h1 h5
  obtain ⟨q, Hq⟩ : ∃ q, Hid (q = Lib.validD l) := ⟨_, rfl⟩
  rw [← Hq.out] at hv
  by_cases hm : 4000 < n
  · have HR : Hid (bytesE kind l = 4) := by show _ = _; unfold bytesE; rw [HL.out, if_pos hm]
    have hmz : (4000 : Int) < (n : Int) := by omega
    go_enter Tryz.func101, Tryz.ntmps101
    go_wp2
    go_ret
    exact ⟨by rw [HR.out]; rfl, Below.refl _ _⟩
  · have hmz : ¬ ((4000 : Int) < (n : Int)) := by omega
    by_cases hk : kind = 8
    · subst hk
      cases q with
      | true =>
        have HR : Hid (bytesE 8 l = 0) := by show _ = _; unfold bytesE; rw [HL.out, if_neg hm, ← Hq.out, if_neg (by simp)]
        go_enter Tryz.func101, Tryz.ntmps101
        go_wp2_with (go_at_call 139; refine hv.mono ?_; rintro e w1 ⟨rfl, hb1⟩)
        go_ret
        exact ⟨by rw [HR.out]; rfl, hb1⟩
      | false =>
        have HR : Hid (bytesE 8 l = 9) := by show _ = _; unfold bytesE; rw [HL.out, if_neg hm, ← Hq.out, if_pos ⟨rfl, rfl⟩]
        go_enter Tryz.func101, Tryz.ntmps101
        go_wp2_with (go_at_call 139; refine hv.mono ?_; rintro e w1 ⟨rfl, hb1⟩)
        go_ret
        exact ⟨by rw [HR.out]; rfl, hb1⟩
    · have HR : Hid (bytesE kind l = 0) := by show _ = _; unfold bytesE; rw [HL.out, if_neg hm, if_neg (by intro h; exact hk h.1)]
      have hkb : (kind == 8) = false := beq_eq_false_iff_ne.2 hk
      clear hk hv
      go_enter Tryz.func101, Tryz.ntmps101
      go_wp2
      go_ret
      exact ⟨by rw [HR.out]; rfl, Below.refl _ _⟩

set_option maxHeartbeats 1000000 in
set_option maxRecDepth 100000 in
theorem bytes1_call {w : World} {c : Nat} {x : FI} (hc : w.heap[c]? = some (.cells (cFI x) 53 (0, 0))) {ao : Option Addr} {n cap : Nat} {l : List UInt8} (h : RdL 1 YAt w (.slice ao n cap) l) (hT : Tabs w) :
    Calls Tryz.prog 100 #[.slice ao n cap, .pointer (some ⟨c, 0, none⟩)] w fun e w' => e = .returned (.int .i64 (bytesE x.kind l)) ∧ Below w.heap.size w w' := by
  have c2 : w.cell? ⟨c, 2, none⟩ = some (.int .i64 x.kind) := cell_of_blk hc 2 _ rfl
  have hcl : c < w.heap.size := (Array.getElem?_eq_some_iff.1 hc).1
  have hf := wrongBytes_any x.kind h hT
  go_enter Tryz.func100, Tryz.ntmps100
  go_wp2_with fail
  refine hf.mono ?_
  rintro e w1 ⟨rfl, hb⟩
  go_wp2
  go_ret
  exact ⟨rfl, hb⟩

set_option maxHeartbeats 1000000 in
set_option maxRecDepth 100000 in
theorem bytesE_any {v : Value} {l : List (List UInt8)} {w : World} {c : Nat} {x : FI} (h : RdL 1 ZAt w v l) (hT : Tabs w) (hc : w.heap[c]? = some (.cells (cFI x) 53 (0, 0))) :
    Calls Tryz.prog 99 #[v, .func (.func 100) #[] #[.pointer (some ⟨c, 0, none⟩)]] w fun e w' => e = .returned (.int .i64 (firstE (bytesE x.kind) l)) ∧ Below w.heap.size w w' := by
  obtain ⟨ao, n, cap, rfl, Hn, hcap⟩ := h.shape
  obtain ⟨R, HR⟩ : ∃ R, Hid (R = firstE (bytesE x.kind) l) := ⟨_, rfl⟩
  rw [← HR.out]
  go_enter Tryz.func99, Tryz.ntmps99
  go_wp2_with fail
  go_loopg [10] n (fun m i wr => ∃ k : Nat, k + m = n ∧ i = .int .i64 k ∧ Hid (R = firstE (bytesE x.kind) (l.drop k)) ∧ Below w.heap.size w wr)
  case atStart => exact ⟨0, by omega, rfl, HR, Below.refl _ _⟩
  case round =>
    obtain ⟨k, hk, rfl, HK, hb⟩ := hrel
    have hcr := (hb.block c (Array.getElem?_eq_some_iff.1 hc).1).trans hc
    by_cases hlt : k < n
    · obtain ⟨a, Ha⟩ : ∃ a, Hid (l[k]? = some a) := ⟨l[k]'(by rw [← Hn.out]; exact hlt), List.getElem?_eq_getElem (by rw [← Hn.out]; exact hlt)⟩
      obtain ⟨b, off, rfl, hat⟩ := (h.below ZAt.stays hb).get ZAt.plain Ha.out
      obtain ⟨vz, hz0, hz1⟩ := hat
      rw [Nat.mul_one] at hz0
      have hki : (k : Int) < (n : Int) := by omega
      obtain ⟨az, nz, cz, rfl, Hnz, hnz⟩ := hz1.shape
      have hcall := bytes1_call hcr hz1 (hT.below hb)
      have hst := firstE_at (f := bytesE x.kind) Ha.out
      generalize hF : bytesE x.kind a = F at hcall hst
      by_cases hz : F = 0
      · have HX : Hid (R = firstE (bytesE x.kind) (l.drop (k + 1))) := by
          show _ = _
          rw [HK.out, hst, if_pos hz]
        have ez : (F != 0) = false := by simp [hz]
        clear hst hF hz
        go_wp2_with fail
        refine hcall.mono ?_
        rintro e w1 ⟨rfl, hb1⟩
        go_wp2_with fail
        go_roundg (n - (k + 1))
        case measure => omega
        case rel => exact ⟨k + 1, by omega, by go_num, HX, hb.trans (hb1.mono hb.size)⟩
      · have HX : Hid (R = F) := by
          show _ = _
          rw [HK.out, hst, if_neg hz]
        have ez : (F != 0) = true := by simpa using hz
        clear hst hF hz
        go_wp2_with fail
        refine hcall.mono ?_
        rintro e w1 ⟨rfl, hb1⟩
        go_wp2
        go_ret
        exact ⟨by rw [HX.out]; rfl, hb.trans (hb1.mono hb.size)⟩
    · have HX : Hid (R = 0) := by
        show _ = _
        rw [HK.out]
        exact firstE_end (by rw [← Hn.out]; omega)
      go_wp2
      go_ret
      exact ⟨by rw [HX.out]; rfl, hb⟩

set_option maxHeartbeats 1000000 in
set_option maxRecDepth 100000 in
theorem check2_any {β : Type} {w : World} (x : FI) (v : VI β) {a1 a2 a3 : Option Addr} {n1 n2 n3 c1 c2 c3 : Nat} (h2 : RdL 1 ZAt w (.slice a2 n2 c2) v.bytes) (hT : Tabs w) :
    Calls Tryz.prog 98 #[vFI x, .agg #[.int .i64 v.number, .slice a1 n1 c1, .slice a2 n2 c2, .slice a3 n3 c3]] w fun e w' => e = .returned (.int .i64 (firstE (bytesE x.kind) v.bytes)) ∧ Below w.heap.size w w' := by
  have hb2 : Below w.heap.size w ((w.alloc (.cells (cFI x) 53)).alloc (.cells #[.int .i64 v.number, .slice a1 n1 c1, .slice a2 n2 c2, .slice a3 n3 c3] 34)) := ((Below.refl _ _).alloc (Nat.le_refl _) _).alloc (by simp) _
  have hi := bytesE_any (x := x) (h2.below ZAt.stays hb2) (hT.below hb2) (alloc2_old w _ _)
  have hmf := makeF
  unfold cFI at hb2 hi
  unfold vFI
  go_enter Tryz.func98, Tryz.ntmps98
  go_wp2_with fail
  refine hi.mono ?_
  rintro e w1 ⟨rfl, hb1⟩
  go_wp2
  go_ret
  exact ⟨rfl, hb2.trans (hb1.mono hb2.size)⟩

end L
end Go.Proofs.YtelmjekjohbmjaaGreatDoor

