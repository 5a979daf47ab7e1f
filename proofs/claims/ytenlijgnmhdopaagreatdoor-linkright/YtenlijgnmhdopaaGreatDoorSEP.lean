/- The contract of the printer's enum. -/
import Derived.Test.YtenlijgnmhdopaaGreatDoorSNum
namespace Go.Proofs.YtenlijgnmhdopaaGreatDoor
open Go.RowKit

theorem Row.ko {α : Type} {E : EK α} {w w' : World} {base B b : Nat} {v : Value} {l : List α} (h : Row E w base v l) (hk : Ko B b w w') (hne : E.elem ≠ 5) (hb : v.ownBlock ≠ some b) : Row E w' base v l := by
  refine ⟨h.1, ?_⟩
  rcases h.2 with hn | ⟨g, cap, cur, hv, hbg, hg, r⟩
  · exact .inl hn
  · refine .inr ⟨g, cap, cur, hv, hbg, ?_, r⟩
    rw [hk.block g (Array.getElem?_eq_some_iff.1 hg).1 (by intro e; apply hb; rw [hv, e]; rfl) (.inr (by intro cs fr e; rw [hg] at e; simp at e; exact hne e.2.1))]
    exact hg
theorem Row.cellAt {α : Type} {E : EK α} {w : World} {base g n cap : Nat} {l : List α} (h : Row E w base (.slice (some ⟨g, 0, none⟩) n cap) l) {i j : Nat} {a : α} {u : Value} (ha : l[i]? = some a) (hu : (E.enc a)[j]? = some u) : w.cell? ⟨g, i * E.size + j, none⟩ = some u := by
  have hj : j < E.size := by
    rw [← E.len a]
    rcases Nat.lt_or_ge j (E.enc a).length with h1 | h1
    · exact h1
    · rw [List.getElem?_eq_none h1] at hu; cases hu
  have := World.ownsRow.cells h (g := g) rfl (i * E.size + j) u (by rw [E.flat_at l i j a ha hj]; exact hu)
  rw [e_add, Nat.zero_add] at this
  exact this
theorem Row.open {α : Type} {E : EK α} {w : World} {base : Nat} {v : Value} {l : List α} (h : Row E w base v l) : (v = .slice none 0 0 ∧ l = []) ∨ ∃ g n cap, v = .slice (some ⟨g, 0, none⟩) n cap ∧ Hid (n = l.length) := by
  rcases h.2 with ⟨hv, hn⟩ | ⟨g, cap, cur, hv, hbg, hg, r⟩
  · exact .inl ⟨hv, List.eq_nil_of_length_eq_zero hn⟩
  · exact .inr ⟨g, _, cap, hv, rfl⟩

def enumHead : List UInt8 := [101, 110, 117, 109, 32]
def braceP : List UInt8 := [32, 123]
def itemP (i : Itm) : List UInt8 := lineP [[32, 32], i.name, [32, 61, 32], Lib.itoa i.value, [59]]
def enumP (e : Enm) : List UInt8 := lineP [enumHead, e.name, braceP] ++ (e.items.map itemP).flatten ++ lineP [[125]]

set_option maxHeartbeats 2000000 in
set_option maxRecDepth 100000 in
theorem enumP_any {B0 B b base : Nat} {l : List UInt8} {w : World} (h : Bl w B b l) (hBw : B ≤ w.heap.size) (hg : Gl B0 w) (hB0 : B0 ≤ B) (x : Enm) (v : Value) (hrow : Row ekItm w base v x.items) (hvb : v.ownBlock ≠ some b)
    (hn : x.items.length ≤ 1000) (hm : ∀ i ∈ x.items, -9223372036854775808 ≤ i.value ∧ i.value ≤ 9223372036854775807) (hlen : l.length + (enumP x).length ≤ 100000000) :
    Calls Tryz.prog 27 #[.pointer (some ⟨b, 0, none⟩), .agg #[.string (S x.name), v]] w fun e w' => e = .returned (.tuple #[]) ∧ Bl w' B b (l ++ enumP x) ∧ Ko B b w w' := by
  have HLn : Hid ((enumP x).length = (lineP [enumHead, x.name, braceP]).length + (x.items.map itemP).flatten.length + (lineP [[125]]).length) := by show _ = _; rw [enumP, List.length_append, List.length_append]
  have hlen1 : l.length + (lineP [enumHead, x.name, braceP]).length ≤ 100000000 := by have := HLn.out; omega
  obtain ⟨ao, n, cap, rfl, Hn⟩ := hrow.shape'
  have hbel := (Below.refl w.heap.size w).alloc (Nat.le_refl _) (.cells #[.string (S x.name), .slice ao n cap] 50)
  have hF := heap_alloc_new w (.cells #[.string (S x.name), .slice ao n cap] 50)
  have hb1 := h.below hbel
  have hline : Calls Tryz.prog 42 #[.pointer (some ⟨b, 0, none⟩), .slice (some ⟨(w.alloc (.cells #[.string (S x.name), .slice ao n cap] 50)).heap.size, 0, none⟩) 3 3] ((w.alloc (.cells #[.string (S x.name), .slice ao n cap] 50)).alloc (.cells #[.string ⟨#[101, 110, 117, 109, 32]⟩, .string (S x.name), .string ⟨#[32, 123]⟩] 9)) fun e w' => e = .returned (.tuple #[]) ∧ Bl w' B b (l ++ lineP [enumHead, x.name, braceP]) ∧ Ko B b (w.alloc (.cells #[.string (S x.name), .slice ao n cap] 50)) w' :=
    line_new hb1 (Nat.le_trans hBw hbel.size) hb1.lt [enumHead, x.name, braceP] (by simp) hlen1
  have hzz : (w.alloc (.cells #[.string (S x.name), .slice ao n cap] 50)).heap.size = w.heap.size + 1 := by simp
  rw [hzz] at hline
  go_enter Tryz.func27, Tryz.ntmps27
  go_wp2_with fail
  refine hline.mono ?_
  rintro e w1 ⟨rfl, hl1, hk1⟩
  have hrow1 := (hrow.below hbel).ko hk1 (by decide) hvb
  have hko : Ko B b w w1 := (Ko.of_below hbel).trans hk1
  have hbF : b ≠ w.heap.size := by have := h.lt; omega
  have hF1 : w1.heap[w.heap.size]? = some (.cells #[.string (S x.name), .slice ao n cap] 50 (0, 0)) := by
    rw [hk1.block w.heap.size (by simp) (fun e => hbF e.symm) (.inr (by intro cs fr e; rw [hF] at e; simp at e))]; exact hF
  obtain ⟨c0, c1⟩ := blk2 hF1
  clear hline hb1 hbel hF hzz
  have hBb : B ≤ b := h.base
  have hG : ∀ W, Ko B b w1 W → Gl B0 W := fun W hW => hg.later (((hko.trans hW).below hBb hBw).mono hB0)
  have hin : n ≤ 1000 := by rw [Hn.out]; exact hn
  have hnone : ao = none → n = 0 := by
    intro e
    rcases hrow.open with ⟨hv, hl⟩ | ⟨g, n', cap', hv, _⟩
    · rw [Hn.out, hl]; rfl
    · rw [e] at hv; simp at hv
  have hsome : ∀ y, ao = some y → ∃ g, y = ⟨g, 0, none⟩ := by
    intro y e
    rcases hrow.open with ⟨hv, hl⟩ | ⟨g, n', cap', hv, _⟩
    · rw [e] at hv; simp at hv
    · rw [e] at hv; simp at hv; exact ⟨g, hv.1⟩
  go_wp2_with fail
  go_loopg [14] n (fun m i wr => ∃ k : Nat, k + m = n ∧ i = .int .i64 k ∧ (∃ q, Hid (q = l ++ lineP [enumHead, x.name, braceP] ++ ((x.items.take k).map itemP).flatten) ∧ Bl wr B b q) ∧ Ko B b w1 wr)
  case atStart => exact ⟨0, by omega, rfl, ⟨_, by show _ = _; simp, hl1⟩, Ko.refl _ _ _⟩
  case round =>
    obtain ⟨k, hk, rfl, ⟨q, Hq, hbq⟩, hkr⟩ := hrel
    by_cases hlt : k < n
    · cases ao with
      | none => have := hnone rfl; omega
      | some y =>
        obtain ⟨g, rfl⟩ := hsome y rfl
        clear hnone hsome
        obtain ⟨a, Ha⟩ : ∃ a, Hid (x.items[k]? = some a) := ⟨x.items[k]'(by rw [← Hn.out]; exact hlt), List.getElem?_eq_getElem (by rw [← Hn.out]; exact hlt)⟩
        have hrr := hrow1.ko hkr (by decide) hvb
        have d0 := hrr.cellAt (j := 0) Ha.out rfl
        have d1 := hrr.cellAt (j := 1) Ha.out rfl
        have esz : ekItm.size = 2 := rfl
        rw [esz] at d0 d1
        simp only [Nat.add_zero] at d0
        clear esz hrr hrow1 hrow c0 c1
        have hlq : q.length + (itemP a).length ≤ 100000000 := by
          have e1 : ((x.items.take (k + 1)).map itemP).flatten = ((x.items.take k).map itemP).flatten ++ itemP a := by rw [List.take_add_one, Ha.out]; simp
          have e2 : (x.items.map itemP).flatten = ((x.items.take (k + 1)).map itemP).flatten ++ ((x.items.drop (k + 1)).map itemP).flatten := by rw [← List.flatten_append, ← List.map_append, List.take_append_drop]
          have e3 := congrArg List.length e1
          have e4 := congrArg List.length e2
          have e5 := congrArg List.length Hq.out
          simp only [List.length_append] at e3 e4 e5
          have := HLn.out
          omega
        have HQ : Hid (q ++ itemP a = l ++ lineP [enumHead, x.name, braceP] ++ ((x.items.take (k + 1)).map itemP).flatten) := by show _ = _; rw [Hq.out, List.take_add_one, Ha.out]; simp
        have hav := hm a (List.mem_of_getElem? Ha.out)
        have hba := (Below.refl wr.heap.size wr).alloc (Nat.le_refl _) (.cells #[.string (S a.name), .int .i64 a.value] 52)
        have hzr : w.heap.size ≤ wr.heap.size := Nat.le_trans hko.size hkr.size
        have hgr : Gl B0 wr := hG wr hkr
        have hS : FS w1 B0 B b wr.heap.size q (.cells #[.string (S a.name), .int .i64 a.value] 52) (wr.alloc (.cells #[.string (S a.name), .int .i64 a.value] 52)) :=
          ⟨hbq.below hba, hgr.later (hba.mono (by omega)), hkr.trans (Ko.of_below hba), heap_alloc_new wr _, by simp; omega, by simp; omega⟩
        replace hS := hS.drew
        have hline : ∀ W o, FS w1 B0 B b wr.heap.size q o W → Calls Tryz.prog 42 #[.pointer (some ⟨b, 0, none⟩), .slice (some ⟨W.heap.size, 0, none⟩) 5 5] (W.alloc (.cells #[.string ⟨#[32, 32]⟩, .string (S a.name), .string ⟨#[32, 61, 32]⟩, .string (S (Lib.itoa a.value)), .string ⟨#[59]⟩] 9)) fun e w' => e = .returned (.tuple #[]) ∧ Bl w' B b (q ++ itemP a) ∧ Ko B b W w' :=
          fun W o hW => line_new hW.bl hW.sb hW.bl.lt [[32, 32], a.name, [32, 61, 32], Lib.itoa a.value, [59]] (by simp) hlq
        have hit : ∀ W o, FS w1 B0 B b wr.heap.size q o W → Calls Tryz.prog 43 #[.int .i64 a.value] W fun e w' => e = .returned (.string (S (Lib.itoa a.value))) ∧ Below W.heap.size W w' := fun W o hW => itoaN_any a.value hav.1 hav.2 hW.gl
        clear hlq hba hbq hgr hm hG
        generalize itemP a = ia at *
        generalize Lib.itoa a.value = ip at *
        go_wp2_with fail
        go_region_with (first
          | (go_at_call 43; refine (hit _ _ hS).mono ?_; rintro e w5 ⟨rfl, hb5⟩; replace hS := hS.below hb5; obtain ⟨c0, c1⟩ := blk2 hS.blk; clear hb5)
          | (go_at_call 42; refine (hline _ _ hS).mono ?_; rintro e w6 ⟨rfl, hl6, hk6⟩))
        all_goals
          go_wp2_with fail
          go_roundg (n - (k + 1))
          case measure => omega
          case rel => exact ⟨k + 1, by omega, by go_num, ⟨_, HQ.out, hl6⟩, hS.ko.trans hk6⟩
    · have hkn : k = n := by omega
      have HT : Hid (x.items.take k = x.items) := List.take_of_length_le (by rw [← Hn.out]; omega)
      have HQ : Hid (q ++ lineP [[125]] = l ++ enumP x) := by show _ = _; rw [Hq.out, HT.out, enumP]; simp
      have hlq : q.length + (lineP [[125]]).length ≤ 100000000 := by
        have e5 := congrArg List.length HQ.out
        simp only [List.length_append] at e5
        omega
      have hzr : w.heap.size ≤ wr.heap.size := Nat.le_trans hko.size hkr.size
      have hline : Calls Tryz.prog 42 #[.pointer (some ⟨b, 0, none⟩), .slice (some ⟨wr.heap.size, 0, none⟩) 1 1] (wr.alloc (.cells #[.string ⟨#[125]⟩] 9)) fun e w' => e = .returned (.tuple #[]) ∧ Bl w' B b (q ++ lineP [[125]]) ∧ Ko B b wr w' :=
        line_new hbq (by omega) hbq.lt [[125]] (by simp) hlq
      rw [HQ.out] at hline
      clear hnone hsome hm hG hlq hrow hrow1
      go_wp2_with fail
      refine hline.mono ?_
      rintro e w6 ⟨rfl, hl6, hk6⟩
      go_wp2
      go_end0
      exact ⟨rfl, hl6, hko.trans (hkr.trans hk6)⟩

end Go.Proofs.YtenlijgnmhdopaaGreatDoor
