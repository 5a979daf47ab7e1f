/- Files as they come in: plain data, and where they lie. -/
import Derived.Test.YtenlijgnmhdopaaGreatDoorLRow
namespace Go.Proofs.YtenlijgnmhdopaaGreatDoor
namespace L
open Go.RowKit

structure FI where
  name : List UInt8
  number : Int
  kind : Int
  type : List UInt8
  many : Bool
  choice : Int
deriving DecidableEq
structure MI where
  name : List UInt8
  fields : List FI
  barred : List Int
deriving DecidableEq
structure II where
  name : List UInt8
  value : Int
deriving DecidableEq
structure EI where
  name : List UInt8
  items : List II
deriving DecidableEq
structure GI where
  msgs : List MI
  enums : List EI
deriving DecidableEq

/-- A list that can be read: entry k lies sz cells behind entry k - 1. -/
def RdL {α : Type} (sz : Nat) (P : World → Addr → α → Prop) (w : World) (v : Value) (l : List α) : Prop :=
  ∃ ao n cap, v = .slice ao n cap ∧ l.length = n ∧ n ≤ cap ∧ cap ≤ maxLen ∧ (ao = none → n = 0 ∧ cap = 0) ∧ ∀ x, ao = some x → ∀ k a, l[k]? = some a → P w (x.add (k * sz)) a
def Stays {α : Type} (P : World → Addr → α → Prop) : Prop := ∀ (w w' : World) (x : Addr) (a : α), Below w.heap.size w w' → P w x a → P w' x a
theorem cell_below {w w' : World} {x : Addr} {v : Value} (hb : Below w.heap.size w w') (h : w.cell? x = some v) : w'.cell? x = some v := by
  rw [hb.cell (World.block_lt_of_cell? w x h)]; exact h
theorem RdL.below {α : Type} {sz : Nat} {P : World → Addr → α → Prop} (hP : Stays P) {w w' : World} {v : Value} {l : List α} (h : RdL sz P w v l) (hb : Below w.heap.size w w') : RdL sz P w' v l := by
  obtain ⟨ao, n, cap, rfl, h1, h2, h3, h4, h5⟩ := h
  exact ⟨ao, n, cap, rfl, h1, h2, h3, h4, fun x hx k a ha => hP w w' _ a hb (h5 x hx k a ha)⟩
theorem RdL.nil {α : Type} (sz : Nat) (P : World → Addr → α → Prop) (w : World) : RdL sz P w (.slice none 0 0) [] := ⟨none, 0, 0, rfl, rfl, Nat.le_refl _, by unfold maxLen; omega, fun _ => ⟨rfl, rfl⟩, fun x hx => by cases hx⟩

def SAt (w : World) (x : Addr) (s : List UInt8) : Prop := w.cell? x = some (.string (S s))
def NAt (w : World) (x : Addr) (n : Int) : Prop := w.cell? x = some (.int .i64 n)
def FAt (w : World) (x : Addr) (f : FI) : Prop := w.cell? x = some (.string (S f.name)) ∧ w.cell? (x.add 1) = some (.int .i64 f.number) ∧ w.cell? (x.add 2) = some (.int .i64 f.kind) ∧ w.cell? (x.add 3) = some (.string (S f.type)) ∧ w.cell? (x.add 4) = some (.bool f.many) ∧ w.cell? (x.add 5) = some (.int .i64 f.choice)
def TAt (w : World) (x : Addr) (i : II) : Prop := w.cell? x = some (.string (S i.name)) ∧ w.cell? (x.add 1) = some (.int .i64 i.value)
theorem SAt.stays : Stays SAt := fun _ _ _ _ hb h => cell_below hb h
theorem NAt.stays : Stays NAt := fun _ _ _ _ hb h => cell_below hb h
theorem FAt.stays : Stays FAt := fun _ _ _ _ hb h => ⟨cell_below hb h.1, cell_below hb h.2.1, cell_below hb h.2.2.1, cell_below hb h.2.2.2.1, cell_below hb h.2.2.2.2.1, cell_below hb h.2.2.2.2.2⟩
theorem TAt.stays : Stays TAt := fun _ _ _ _ hb h => ⟨cell_below hb h.1, cell_below hb h.2⟩
def MAt (w : World) (x : Addr) (m : MI) : Prop := ∃ vf vb, w.cell? x = some (.string (S m.name)) ∧ w.cell? (x.add 1) = some vf ∧ w.cell? (x.add 2) = some vb ∧ RdL 6 FAt w vf m.fields ∧ RdL 1 NAt w vb m.barred
def EAt (w : World) (x : Addr) (e : EI) : Prop := ∃ vi, w.cell? x = some (.string (S e.name)) ∧ w.cell? (x.add 1) = some vi ∧ RdL 2 TAt w vi e.items
theorem MAt.stays : Stays MAt := fun _ _ _ _ hb ⟨vf, vb, h1, h2, h3, h4, h5⟩ => ⟨vf, vb, cell_below hb h1, cell_below hb h2, cell_below hb h3, h4.below FAt.stays hb, h5.below NAt.stays hb⟩
theorem EAt.stays : Stays EAt := fun _ _ _ _ hb ⟨vi, h1, h2, h3⟩ => ⟨vi, cell_below hb h1, cell_below hb h2, h3.below TAt.stays hb⟩
def GRd (w : World) (vm ve : Value) (g : GI) : Prop := RdL 3 MAt w vm g.msgs ∧ RdL 2 EAt w ve g.enums
theorem GRd.below {w w' : World} {vm ve : Value} {g : GI} (h : GRd w vm ve g) (hb : Below w.heap.size w w') : GRd w' vm ve g := ⟨h.1.below MAt.stays hb, h.2.below EAt.stays hb⟩

/-- The list of a call's own, of strings, of numbers. -/
def encS (l : List UInt8) : List Value := [.string (S l)]
def ekS : EK (List UInt8) where
  elem := 9
  slice := 54
  size := 1
  bytes := 16
  zero := .string ⟨#[]⟩
  enc := encS
  under := Tryz.underlying54
  info := by kernel_rfl
  zs := rfl
  pos := by decide
  small := by decide
  len := fun _ => rfl
  one := by intro a u hu; simp only [encS, List.mem_singleton] at hu; subst hu; rfl
def encN (n : Int) : List Value := [.int .i64 n]
def ekN : EK Int where
  elem := 3
  slice := 35
  size := 1
  bytes := 8
  zero := .int .i64 0
  enc := encN
  under := Tryz.underlying35
  info := by kernel_rfl
  zs := rfl
  pos := by decide
  small := by decide
  len := fun _ => rfl
  one := by intro a u hu; simp only [encN, List.mem_singleton] at hu; subst hu; rfl
theorem Row.rd {α : Type} {E : EK α} {w : World} {base : Nat} {v : Value} {l : List α} (h : Row E w base v l) (P : World → Addr → α → Prop) (hP : ∀ g i a, (∀ j u, (E.enc a)[j]? = some u → w.cell? ⟨g, i + j, none⟩ = some u) → P w ⟨g, i, none⟩ a) : RdL E.size P w v l := by
  obtain ⟨ao, cap, rfl⟩ := h.shape
  refine ⟨ao, l.length, cap, rfl, rfl, ?_, ?_, ?_, ?_⟩
  · rcases h.2 with ⟨hv, hn⟩ | ⟨g, cap', cur, hv, _, _, hc, _⟩
    · simp at hv; omega
    · simp at hv; omega
  · rcases h.2 with ⟨hv, hn⟩ | ⟨g, cap', cur, hv, _, _, _, hm, _⟩
    · simp at hv; unfold maxLen; omega
    · simp at hv; rw [hv.2]; exact hm
  · intro e
    subst e
    rcases h.2 with ⟨hv, hn⟩ | ⟨g, cap', cur, hv, _⟩
    · simp at hv; exact ⟨hn, hv.2⟩
    · simp at hv
  · intro x hx k a ha
    obtain ⟨g, hg, hc⟩ := h.get ha
    rw [hx] at hg
    cases hg
    rw [add_plain, Nat.zero_add]
    exact hP g _ a hc
theorem Row.rdS {w : World} {base : Nat} {v : Value} {l : List (List UInt8)} (h : Row ekS w base v l) : RdL 1 SAt w v l := h.rd SAt fun g i a hc => by have := hc 0 _ rfl; simpa [SAt] using this
theorem Row.rdN {w : World} {base : Nat} {v : Value} {l : List Int} (h : Row ekN w base v l) : RdL 1 NAt w v l := h.rd NAt fun g i a hc => by have := hc 0 _ rfl; simpa [NAt] using this

/-- An entry's place. -/
def Plain {α : Type} (P : World → Addr → α → Prop) : Prop := ∀ (w : World) (b off : Nat) (spot : _) (a : α), P w ⟨b, off, spot⟩ a → spot = none
theorem RdL.get {α : Type} {sz : Nat} {P : World → Addr → α → Prop} (hP : Plain P) {w : World} {ao : Option Addr} {n cap : Nat} {l : List α} (h : RdL sz P w (.slice ao n cap) l) {k : Nat} {a : α} (ha : l[k]? = some a) :
    ∃ b off, ao = some ⟨b, off, none⟩ ∧ P w ⟨b, off + k * sz, none⟩ a := by
  obtain ⟨ao', n', cap', e, h1, h2, h3, h4, h5⟩ := h
  cases e
  cases ao with
  | none =>
    have h0 := (h4 rfl).1
    rw [List.eq_nil_of_length_eq_zero (h1.trans h0)] at ha
    simp at ha
  | some x =>
    obtain ⟨b, off, spot⟩ := x
    have hl : 0 < l.length := Nat.lt_of_le_of_lt (Nat.zero_le k) (List.getElem?_eq_some_iff.1 ha).1
    have hp0 := h5 _ rfl 0 _ (List.getElem?_eq_getElem hl)
    have e0 : (⟨b, off, spot⟩ : Addr).add (0 * sz) = ⟨b, off, spot⟩ := by simp [Addr.add]
    rw [e0] at hp0
    have hs := hP _ _ _ _ _ hp0
    subst hs
    have hp := h5 _ rfl k a ha
    rw [add_plain] at hp
    exact ⟨b, off, rfl, hp⟩
theorem RdL.len {α : Type} {sz : Nat} {P : World → Addr → α → Prop} {w : World} {ao : Option Addr} {n cap : Nat} {l : List α} (h : RdL sz P w (.slice ao n cap) l) : n = l.length ∧ n ≤ cap ∧ cap ≤ maxLen := by
  obtain ⟨ao', n', cap', e, h1, h2, h3, _⟩ := h
  cases e
  exact ⟨h1.symm, h2, h3⟩
theorem RdL.shape {α : Type} {sz : Nat} {P : World → Addr → α → Prop} {w : World} {v : Value} {l : List α} (h : RdL sz P w v l) : ∃ ao n cap, v = .slice ao n cap ∧ Hid (n = l.length) ∧ n ≤ 9223372036854775807 := by
  obtain ⟨ao, n, cap, e, h1, h2, h3, _⟩ := h
  exact ⟨ao, n, cap, e, h1.symm, by unfold maxLen at h3; omega⟩
theorem plain_cell {w : World} {b off : Nat} {spot : _} {v : Value} (h : w.cell? ⟨b, off, spot⟩ = some v) : spot = none := World.cell?_spot h
theorem SAt.plain : Plain SAt := fun _ _ _ _ _ h => plain_cell h
theorem NAt.plain : Plain NAt := fun _ _ _ _ _ h => plain_cell h
theorem FAt.plain : Plain FAt := fun _ _ _ _ _ h => plain_cell h.1
theorem TAt.plain : Plain TAt := fun _ _ _ _ _ h => plain_cell h.1
theorem MAt.plain : Plain MAt := fun _ _ _ _ _ ⟨_, _, h, _⟩ => plain_cell h
theorem EAt.plain : Plain EAt := fun _ _ _ _ _ ⟨_, h, _⟩ => plain_cell h
theorem FAt.at {w : World} {b o : Nat} {f : FI} (h : FAt w ⟨b, o, none⟩ f) : w.cell? ⟨b, o, none⟩ = some (.string (S f.name)) ∧ w.cell? ⟨b, o + 1, none⟩ = some (.int .i64 f.number) ∧ w.cell? ⟨b, o + 2, none⟩ = some (.int .i64 f.kind) ∧ w.cell? ⟨b, o + 3, none⟩ = some (.string (S f.type)) ∧ w.cell? ⟨b, o + 4, none⟩ = some (.bool f.many) ∧ w.cell? ⟨b, o + 5, none⟩ = some (.int .i64 f.choice) := by
  simp only [FAt, add_plain] at h; exact h
theorem TAt.at {w : World} {b o : Nat} {f : II} (h : TAt w ⟨b, o, none⟩ f) : w.cell? ⟨b, o, none⟩ = some (.string (S f.name)) ∧ w.cell? ⟨b, o + 1, none⟩ = some (.int .i64 f.value) := by
  simp only [TAt, add_plain] at h; exact h
theorem MAt.at {w : World} {b o : Nat} {m : MI} (h : MAt w ⟨b, o, none⟩ m) : ∃ vf vb, w.cell? ⟨b, o, none⟩ = some (.string (S m.name)) ∧ w.cell? ⟨b, o + 1, none⟩ = some vf ∧ w.cell? ⟨b, o + 2, none⟩ = some vb ∧ RdL 6 FAt w vf m.fields ∧ RdL 1 NAt w vb m.barred := by
  simp only [MAt, add_plain] at h; exact h
theorem EAt.at {w : World} {b o : Nat} {m : EI} (h : EAt w ⟨b, o, none⟩ m) : ∃ vi, w.cell? ⟨b, o, none⟩ = some (.string (S m.name)) ∧ w.cell? ⟨b, o + 1, none⟩ = some vi ∧ RdL 2 TAt w vi m.items := by
  simp only [EAt, add_plain] at h; exact h

theorem take_snoc {α : Type} {l : List α} {k : Nat} {a : α} (h : l[k]? = some a) : l.take (k + 1) = l.take k ++ [a] := by rw [List.take_add_one, h]; rfl
theorem mem_at {α : Type} {l : List α} {k : Nat} {a : α} (h : l[k]? = some a) : a ∈ l := List.mem_of_getElem? h

set_option maxHeartbeats 1000000 in
set_option maxRecDepth 100000 in
theorem indexS_any {v : Value} {l : List (List UInt8)} {w : World} (h : RdL 1 SAt w v l) (x : List UInt8) :
    Calls Tryz.prog 78 #[v, .string (S x)] w fun e w' => ∃ r : Int, e = .returned (.int .i64 r) ∧ decide (0 ≤ r) = decide (x ∈ l) ∧ w = w' := by
  obtain ⟨ao, n, cap, rfl, Hn, hcap⟩ := h.shape
  have hl := S_list x
  go_enter Tryz.func78, Tryz.ntmps78
  go_wp2_with fail
  go_loopg [8] n (fun m i wr => ∃ k : Nat, k + m = n ∧ i = .int .i64 k ∧ Hid (x ∉ l.take k) ∧ w = wr)
  case atStart => exact ⟨0, by omega, rfl, by show ¬ _; simp, rfl⟩
  case round =>
    obtain ⟨k, hk, rfl, HK, rfl⟩ := hrel
    by_cases hlt : k < n
    · obtain ⟨a, Ha⟩ : ∃ a, Hid (l[k]? = some a) := ⟨l[k]'(by rw [← Hn.out]; exact hlt), List.getElem?_eq_getElem (by rw [← Hn.out]; exact hlt)⟩
      obtain ⟨b, off, rfl, hc⟩ := h.get SAt.plain Ha.out
      have hc : w.cell? ⟨b, off + k * 1, none⟩ = some (.string (S a)) := hc
      rw [Nat.mul_one] at hc
      have hla := S_list a
      have hki : (k : Int) < (n : Int) := by omega
      by_cases hxa : x = a
      · have HM : Hid (x ∈ l) := by show _ ∈ _; rw [hxa]; exact mem_at Ha.out
        have hb : (x == a) = true := by simp [hxa]
        clear hxa
        go_wp2
        go_ret
        exact ⟨_, rfl, by simp [HM.out], rfl⟩
      · have hb : (x == a) = false := by simp [hxa]
        have HX : Hid (x ∉ l.take (k + 1)) := by
          show ¬ _; rw [take_snoc Ha.out]; simp [hxa]; exact HK.out
        clear hxa
        go_wp2_with fail
        go_roundg (n - (k + 1))
        case measure => omega
        case rel => exact ⟨k + 1, by omega, by go_num, HX, rfl⟩
    · have HX : Hid (x ∉ l) := by show ¬ _; have := HK.out; rwa [List.take_of_length_le (by rw [← Hn.out]; omega)] at this
      go_wp2
      go_ret
      exact ⟨_, rfl, by simp [HX.out], rfl⟩

def I64 (n : Int) : Prop := -9223372036854775808 ≤ n ∧ n ≤ 9223372036854775807
end L
end Go.Proofs.YtenlijgnmhdopaaGreatDoor
