import Derived.Test.YtelmjekjohbmjaaGreatDoorM02
/- The contracts of Message and Enum. -/
namespace Go.Proofs.YtelmjekjohbmjaaGreatDoor
namespace L
open Go.RowKit

/-- Which entry is such first; -1, if none is. -/
def firstI {α : Type} (p : α → Bool) (l : List α) : Int := match l.findIdx? p with | some k => (k : Int) | none => -1
theorem first_at {α : Type} {p : α → Bool} {l : List α} {k : Nat} {a : α} (ha : l[k]? = some a) (h : ∀ b ∈ l.take k, p b = false) (hp : p a = true) : firstI p l = (k : Int) := by
  have e : l.findIdx? p = some k := by
    rw [List.findIdx?_eq_some_iff_getElem]
    obtain ⟨hk, e⟩ := List.getElem?_eq_some_iff.1 ha
    refine ⟨hk, by rw [e]; exact hp, ?_⟩
    intro j hj
    rw [h _ (List.mem_take_iff_getElem.2 ⟨j, by omega, rfl⟩)]
    simp
  unfold firstI
  rw [e]
theorem first_none {α : Type} {p : α → Bool} {l : List α} (h : ∀ b ∈ l, p b = false) : firstI p l = -1 := by
  have e : l.findIdx? p = none := by rw [List.findIdx?_eq_none_iff]; exact h
  unfold firstI
  rw [e]

set_option maxHeartbeats 1000000 in
set_option maxRecDepth 100000 in
theorem msg1_call {w : World} {c : Nat} {x : List UInt8} (hc : w.heap[c]? = some (.cells #[.string (S x)] 9 (0, 0))) (a : List UInt8) (a1 : Option Addr) (n1 c1 : Nat) (a2 : Option Addr) (n2 c2 : Nat) :
    Calls Tryz.prog 86 #[.agg #[.string (S a), .slice a1 n1 c1, .slice a2 n2 c2], .pointer (some ⟨c, 0, none⟩)] w fun e w' => e = .returned (.bool (decide (a = x))) ∧ Below w.heap.size w w' := by
  have c0 : w.cell? ⟨c, 0, none⟩ = some (.string (S x)) := cell_of_blk hc 0 _ rfl
  have hcl : c < w.heap.size := (Array.getElem?_eq_some_iff.1 hc).1
  have hla := S_list a
  have hlx := S_list x
  have hba := (Below.refl w.heap.size w).alloc (Nat.le_refl _) (.cells #[.string (S a), .slice a1 n1 c1, .slice a2 n2 c2] 48)
  obtain ⟨q, Hq⟩ : ∃ q, Hid (q = decide (a = x)) := ⟨_, rfl⟩
  have hq : (a == x) = q := by rw [Hq.out, Bool.eq_iff_iff]; simp
  rw [← Hq.out]
  go_enter Tryz.func86, Tryz.ntmps86
  go_wp2
  go_ret
  exact ⟨rfl, hba⟩
set_option maxHeartbeats 1000000 in
set_option maxRecDepth 100000 in
theorem msgIdx_any {v : Value} {l : List MI} {w : World} {c : Nat} {x : List UInt8} (h : RdL 3 MAt w v l) (hc : w.heap[c]? = some (.cells #[.string (S x)] 9 (0, 0))) :
    Calls Tryz.prog 85 #[v, .func (.func 86) #[] #[.pointer (some ⟨c, 0, none⟩)]] w fun e w' => e = .returned (.int .i64 (firstI (fun m => decide (m.name = x)) l)) ∧ Below w.heap.size w w' := by
  obtain ⟨ao, n, cap, rfl, Hn, hcap⟩ := h.shape
  go_enter Tryz.func85, Tryz.ntmps85
  go_wp2_with fail
  go_loopg [8] n (fun m i wr => ∃ k : Nat, k + m = n ∧ i = .int .i64 k ∧ Hid (∀ a ∈ l.take k, decide (a.name = x) = false) ∧ Below w.heap.size w wr)
  case atStart => exact ⟨0, by omega, rfl, by show ∀ a ∈ _, _; simp, Below.refl _ _⟩
  case round =>
    obtain ⟨k, hk, rfl, HK, hb⟩ := hrel
    have hcr := (hb.block c (Array.getElem?_eq_some_iff.1 hc).1).trans hc
    by_cases hlt : k < n
    · obtain ⟨a, Ha⟩ : ∃ a, Hid (l[k]? = some a) := ⟨l[k]'(by rw [← Hn.out]; exact hlt), List.getElem?_eq_getElem (by rw [← Hn.out]; exact hlt)⟩
      obtain ⟨b, off, rfl, hat⟩ := (h.below MAt.stays hb).get MAt.plain Ha.out
      obtain ⟨vf, vb, s0, s1, s2, hrf, hrb⟩ := hat.at
      obtain ⟨af, nf, cf, rfl, _, _⟩ := hrf.shape
      obtain ⟨ab, nb, cb, rfl, _, _⟩ := hrb.shape
      have hki : (k : Int) < (n : Int) := by omega
      have hcall := msg1_call hcr a.name af nf cf ab nb cb
      cases hq : decide (a.name = x) with
      | true =>
        have HF : Hid (firstI (fun m => decide (m.name = x)) l = (k : Int)) := first_at Ha.out HK.out hq
        rw [hq] at hcall
        clear hq
        go_wp2_with fail
        refine hcall.mono ?_
        rintro e w1 ⟨rfl, hb1⟩
        go_wp2
        go_ret
        exact ⟨by rw [HF.out]; rfl, hb.trans (hb1.mono hb.size)⟩
      | false =>
        have HX : Hid (∀ a ∈ l.take (k + 1), decide (a.name = x) = false) := by
          show ∀ a ∈ _, _
          rw [take_snoc Ha.out]
          intro y hy
          rcases List.mem_append.1 hy with hy | hy
          · exact HK.out y hy
          · rw [List.mem_singleton] at hy; rw [hy]; exact hq
        rw [hq] at hcall
        clear hq
        go_wp2_with fail
        refine hcall.mono ?_
        rintro e w1 ⟨rfl, hb1⟩
        go_wp2_with fail
        go_roundg (n - (k + 1))
        case measure => omega
        case rel => exact ⟨k + 1, by omega, by go_num, HX, hb.trans (hb1.mono hb.size)⟩
    · have HF : Hid (firstI (fun m => decide (m.name = x)) l = -1) := by
        have := HK.out
        rw [List.take_of_length_le (by rw [← Hn.out]; omega)] at this
        exact first_none this
      go_wp2
      go_ret
      exact ⟨by rw [HF.out]; rfl, hb⟩
set_option maxHeartbeats 1000000 in
set_option maxRecDepth 100000 in
theorem message_any {vm ve : Value} {l : List MI} {w : World} (h : RdL 3 MAt w vm l) (hve : ∃ ao n cap, ve = .slice ao n cap) (x : List UInt8) :
    Calls Tryz.prog 52 #[.agg #[vm, ve], .string (S x)] w fun e w' => e = .returned (.int .i64 (firstI (fun m => decide (m.name = x)) l)) ∧ Below w.heap.size w w' := by
  obtain ⟨ao, n, cap, rfl, Hn, hcap⟩ := h.shape
  obtain ⟨ae, ne, ce, rfl⟩ := hve
  have hmf := makeF
  have hb2 : Below w.heap.size w ((w.alloc (.cells #[.slice ao n cap, .slice ae ne ce] 25)).alloc (.cells #[.string (S x)] 9)) := ((Below.refl _ _).alloc (Nat.le_refl _) _).alloc (by simp) _
  have hi := msgIdx_any (h.below MAt.stays hb2) (alloc2_new w _ _)
  go_enter Tryz.func52, Tryz.ntmps52
  go_wp2_with fail
  refine hi.mono ?_
  rintro e w1 ⟨rfl, hb1⟩
  go_wp2
  go_ret
  exact ⟨rfl, hb2.trans (hb1.mono hb2.size)⟩

set_option maxHeartbeats 1000000 in
set_option maxRecDepth 100000 in
theorem enm1_call {w : World} {c : Nat} {x : List UInt8} (hc : w.heap[c]? = some (.cells #[.string (S x)] 9 (0, 0))) (a : List UInt8) (a1 : Option Addr) (n1 c1 : Nat) :
    Calls Tryz.prog 153 #[.agg #[.string (S a), .slice a1 n1 c1], .pointer (some ⟨c, 0, none⟩)] w fun e w' => e = .returned (.bool (decide (a = x))) ∧ Below w.heap.size w w' := by
  have c0 : w.cell? ⟨c, 0, none⟩ = some (.string (S x)) := cell_of_blk hc 0 _ rfl
  have hcl : c < w.heap.size := (Array.getElem?_eq_some_iff.1 hc).1
  have hla := S_list a
  have hlx := S_list x
  have hba := (Below.refl w.heap.size w).alloc (Nat.le_refl _) (.cells #[.string (S a), .slice a1 n1 c1] 94)
  obtain ⟨q, Hq⟩ : ∃ q, Hid (q = decide (a = x)) := ⟨_, rfl⟩
  have hq : (a == x) = q := by rw [Hq.out, Bool.eq_iff_iff]; simp
  rw [← Hq.out]
  go_enter Tryz.func153, Tryz.ntmps153
  go_wp2
  go_ret
  exact ⟨rfl, hba⟩
set_option maxHeartbeats 1000000 in
set_option maxRecDepth 100000 in
theorem enmIdx_any {v : Value} {l : List EI} {w : World} {c : Nat} {x : List UInt8} (h : RdL 2 EAt w v l) (hc : w.heap[c]? = some (.cells #[.string (S x)] 9 (0, 0))) :
    Calls Tryz.prog 152 #[v, .func (.func 153) #[] #[.pointer (some ⟨c, 0, none⟩)]] w fun e w' => e = .returned (.int .i64 (firstI (fun m => decide (m.name = x)) l)) ∧ Below w.heap.size w w' := by
  obtain ⟨ao, n, cap, rfl, Hn, hcap⟩ := h.shape
  go_enter Tryz.func152, Tryz.ntmps152
  go_wp2_with fail
  go_loopg [8] n (fun m i wr => ∃ k : Nat, k + m = n ∧ i = .int .i64 k ∧ Hid (∀ a ∈ l.take k, decide (a.name = x) = false) ∧ Below w.heap.size w wr)
  case atStart => exact ⟨0, by omega, rfl, by show ∀ a ∈ _, _; simp, Below.refl _ _⟩
  case round =>
    obtain ⟨k, hk, rfl, HK, hb⟩ := hrel
    have hcr := (hb.block c (Array.getElem?_eq_some_iff.1 hc).1).trans hc
    by_cases hlt : k < n
    · obtain ⟨a, Ha⟩ : ∃ a, Hid (l[k]? = some a) := ⟨l[k]'(by rw [← Hn.out]; exact hlt), List.getElem?_eq_getElem (by rw [← Hn.out]; exact hlt)⟩
      obtain ⟨b, off, rfl, hat⟩ := (h.below EAt.stays hb).get EAt.plain Ha.out
      obtain ⟨vi, s0, s1, hri⟩ := hat.at
      obtain ⟨ai, ni, ci, rfl, _, _⟩ := hri.shape
      have hki : (k : Int) < (n : Int) := by omega
      have hcall := enm1_call hcr a.name ai ni ci
      cases hq : decide (a.name = x) with
      | true =>
        have HF : Hid (firstI (fun m => decide (m.name = x)) l = (k : Int)) := first_at Ha.out HK.out hq
        rw [hq] at hcall
        clear hq
        go_wp2_with fail
        refine hcall.mono ?_
        rintro e w1 ⟨rfl, hb1⟩
        go_wp2
        go_ret
        exact ⟨by rw [HF.out]; rfl, hb.trans (hb1.mono hb.size)⟩
      | false =>
        have HX : Hid (∀ a ∈ l.take (k + 1), decide (a.name = x) = false) := by
          show ∀ a ∈ _, _
          rw [take_snoc Ha.out]
          intro y hy
          rcases List.mem_append.1 hy with hy | hy
          · exact HK.out y hy
          · rw [List.mem_singleton] at hy; rw [hy]; exact hq
        rw [hq] at hcall
        clear hq
        go_wp2_with fail
        refine hcall.mono ?_
        rintro e w1 ⟨rfl, hb1⟩
        go_wp2_with fail
        go_roundg (n - (k + 1))
        case measure => omega
        case rel => exact ⟨k + 1, by omega, by go_num, HX, hb.trans (hb1.mono hb.size)⟩
    · have HF : Hid (firstI (fun m => decide (m.name = x)) l = -1) := by
        have := HK.out
        rw [List.take_of_length_le (by rw [← Hn.out]; omega)] at this
        exact first_none this
      go_wp2
      go_ret
      exact ⟨by rw [HF.out]; rfl, hb⟩
set_option maxHeartbeats 1000000 in
set_option maxRecDepth 100000 in
theorem enum_any {vm ve : Value} {l : List EI} {w : World} (h : RdL 2 EAt w ve l) (hve : ∃ ao n cap, vm = .slice ao n cap) (x : List UInt8) :
    Calls Tryz.prog 149 #[.agg #[vm, ve], .string (S x)] w fun e w' => e = .returned (.int .i64 (firstI (fun m => decide (m.name = x)) l)) ∧ Below w.heap.size w w' := by
  obtain ⟨ao, n, cap, rfl, Hn, hcap⟩ := h.shape
  obtain ⟨ae, ne, ce, rfl⟩ := hve
  have hmf := makeF
  have hb2 : Below w.heap.size w ((w.alloc (.cells #[.slice ae ne ce, .slice ao n cap] 25)).alloc (.cells #[.string (S x)] 9)) := ((Below.refl _ _).alloc (Nat.le_refl _) _).alloc (by simp) _
  have hi := enmIdx_any (h.below EAt.stays hb2) (alloc2_new w _ _)
  go_enter Tryz.func149, Tryz.ntmps149
  go_wp2_with fail
  refine hi.mono ?_
  rintro e w1 ⟨rfl, hb1⟩
  go_wp2
  go_ret
  exact ⟨rfl, hb2.trans (hb1.mono hb2.size)⟩

end L
end Go.Proofs.YtelmjekjohbmjaaGreatDoor

/- Bodies as they come in: plain data, by how deep they are, and where they lie. -/
namespace Go.Proofs.YtelmjekjohbmjaaGreatDoor
namespace L
open Go.RowKit

structure RI where
  number : Int
  how : Int
  bits : Nat
  bytes : List UInt8
deriving DecidableEq
/-- A value whose subs are β. -/
structure VI (β : Type) where
  number : Int
  bits : List Nat
  bytes : List (List UInt8)
  subs : List β
structure BO (β : Type) where
  vals : List (VI β)
  unk : List RI
/-- A body that is at most that deep. -/
def BI : Nat → Type
  | 0 => Empty
  | d + 1 => BO (BI d)

def UAt (w : World) (x : Addr) (n : Nat) : Prop := w.cell? x = some (.int .u64 (n : Int))
def YAt (w : World) (x : Addr) (b : UInt8) : Prop := w.cell? x = some (.int .u8 (b.toNat : Int))
def ZAt (w : World) (x : Addr) (l : List UInt8) : Prop := ∃ v, w.cell? x = some v ∧ RdL 1 YAt w v l
def RAt (w : World) (x : Addr) (r : RI) : Prop := ∃ v, w.cell? x = some (.int .i64 r.number) ∧ w.cell? (x.add 1) = some (.int .i64 r.how) ∧ w.cell? (x.add 2) = some (.int .u64 (r.bits : Int)) ∧ w.cell? (x.add 3) = some v ∧ RdL 1 YAt w v r.bytes
def VAt {β : Type} (P : World → Addr → β → Prop) (w : World) (x : Addr) (v : VI β) : Prop := ∃ v1 v2 v3, w.cell? x = some (.int .i64 v.number) ∧ w.cell? (x.add 1) = some v1 ∧ w.cell? (x.add 2) = some v2 ∧ w.cell? (x.add 3) = some v3 ∧ RdL 1 UAt w v1 v.bits ∧ RdL 1 ZAt w v2 v.bytes ∧ RdL 2 P w v3 v.subs
def BAt : (d : Nat) → World → Addr → BI d → Prop
  | 0 => fun _ _ _ => False
  | d + 1 => fun w x b => ∃ v0 v1, w.cell? x = some v0 ∧ w.cell? (x.add 1) = some v1 ∧ RdL 4 (VAt (BAt d)) w v0 (BO.vals b) ∧ RdL 4 RAt w v1 (BO.unk b)
/-- A body that was handed over, and can be read. -/
def BRd (d : Nat) (w : World) (v0 v1 : Value) (b : BO (BI d)) : Prop := RdL 4 (VAt (BAt d)) w v0 b.vals ∧ RdL 4 RAt w v1 b.unk
theorem UAt.stays : Stays UAt := fun _ _ _ _ hb h => cell_below hb h
theorem YAt.stays : Stays YAt := fun _ _ _ _ hb h => cell_below hb h
theorem ZAt.stays : Stays ZAt := fun _ _ _ _ hb ⟨v, h1, h2⟩ => ⟨v, cell_below hb h1, h2.below YAt.stays hb⟩
theorem RAt.stays : Stays RAt := fun _ _ _ _ hb ⟨v, h1, h2, h3, h4, h5⟩ => ⟨v, cell_below hb h1, cell_below hb h2, cell_below hb h3, cell_below hb h4, h5.below YAt.stays hb⟩
theorem VAt.stays {β : Type} {P : World → Addr → β → Prop} (hP : Stays P) : Stays (VAt P) := fun _ _ _ _ hb ⟨v1, v2, v3, h1, h2, h3, h4, h5, h6, h7⟩ => ⟨v1, v2, v3, cell_below hb h1, cell_below hb h2, cell_below hb h3, cell_below hb h4, h5.below UAt.stays hb, h6.below ZAt.stays hb, h7.below hP hb⟩
theorem BAt.stays : ∀ d, Stays (BAt d)
  | 0 => fun _ _ _ _ _ h => h
  | d + 1 => fun _ _ _ _ hb ⟨v0, v1, h1, h2, h3, h4⟩ => ⟨v0, v1, cell_below hb h1, cell_below hb h2, h3.below (VAt.stays (BAt.stays d)) hb, h4.below RAt.stays hb⟩
theorem BRd.below {d : Nat} {w w' : World} {v0 v1 : Value} {b : BO (BI d)} (h : BRd d w v0 v1 b) (hb : Below w.heap.size w w') : BRd d w' v0 v1 b := ⟨h.1.below (VAt.stays (BAt.stays d)) hb, h.2.below RAt.stays hb⟩
theorem UAt.plain : Plain UAt := fun _ _ _ _ _ h => plain_cell h
theorem YAt.plain : Plain YAt := fun _ _ _ _ _ h => plain_cell h
theorem ZAt.plain : Plain ZAt := fun _ _ _ _ _ ⟨_, h, _⟩ => plain_cell h
theorem RAt.plain : Plain RAt := fun _ _ _ _ _ ⟨_, h, _⟩ => plain_cell h
theorem VAt.plain {β : Type} {P : World → Addr → β → Prop} : Plain (VAt P) := fun _ _ _ _ _ ⟨_, _, _, h, _⟩ => plain_cell h
theorem BAt.plain : ∀ d, Plain (BAt d)
  | 0 => fun _ _ _ _ _ h => h.elim
  | _ + 1 => fun _ _ _ _ _ ⟨_, _, h, _⟩ => plain_cell h
theorem ZAt.at {w : World} {b o : Nat} {l : List UInt8} (h : ZAt w ⟨b, o, none⟩ l) : ∃ v, w.cell? ⟨b, o, none⟩ = some v ∧ RdL 1 YAt w v l := h
theorem RAt.at {w : World} {b o : Nat} {r : RI} (h : RAt w ⟨b, o, none⟩ r) : ∃ v, w.cell? ⟨b, o, none⟩ = some (.int .i64 r.number) ∧ w.cell? ⟨b, o + 1, none⟩ = some (.int .i64 r.how) ∧ w.cell? ⟨b, o + 2, none⟩ = some (.int .u64 (r.bits : Int)) ∧ w.cell? ⟨b, o + 3, none⟩ = some v ∧ RdL 1 YAt w v r.bytes := by
  simp only [RAt, add_plain] at h; exact h
theorem VAt.at {β : Type} {P : World → Addr → β → Prop} {w : World} {b o : Nat} {v : VI β} (h : VAt P w ⟨b, o, none⟩ v) : ∃ v1 v2 v3, w.cell? ⟨b, o, none⟩ = some (.int .i64 v.number) ∧ w.cell? ⟨b, o + 1, none⟩ = some v1 ∧ w.cell? ⟨b, o + 2, none⟩ = some v2 ∧ w.cell? ⟨b, o + 3, none⟩ = some v3 ∧ RdL 1 UAt w v1 v.bits ∧ RdL 1 ZAt w v2 v.bytes ∧ RdL 2 P w v3 v.subs := by
  simp only [VAt, add_plain] at h; exact h
theorem BAt.at {d : Nat} {w : World} {b o : Nat} {x : BI (d + 1)} (h : BAt (d + 1) w ⟨b, o, none⟩ x) : ∃ v0 v1, w.cell? ⟨b, o, none⟩ = some v0 ∧ w.cell? ⟨b, o + 1, none⟩ = some v1 ∧ BRd d w v0 v1 x := by
  simp only [BAt, add_plain] at h; exact h

end L
end Go.Proofs.YtelmjekjohbmjaaGreatDoor

