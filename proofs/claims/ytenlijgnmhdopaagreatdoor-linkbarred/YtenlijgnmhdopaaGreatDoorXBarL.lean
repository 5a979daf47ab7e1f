/- A list of messages, copied, and one of them put in another's place. -/
import Derived.Test.YtenlijgnmhdopaaGreatDoorLLink
namespace Go.Proofs.YtenlijgnmhdopaaGreatDoor
namespace L
open Go.RowKit

/-- Where a message's lists lie. -/
def CAt (w : World) (x : Addr) (p : MI × LV × LV) : Prop := w.cell? x = some (.string (S p.1.name)) ∧ w.cell? (x.add 1) = some p.2.1.v ∧ w.cell? (x.add 2) = some p.2.2.v
theorem CAt.plain : Plain CAt := fun _ _ _ _ _ h => plain_cell h.1
theorem CAt.stays : Stays CAt := fun _ _ _ _ hb h => ⟨cell_below hb h.1, cell_below hb h.2.1, cell_below hb h.2.2⟩
theorem CAt.at {w : World} {b o : Nat} {p : MI × LV × LV} (h : CAt w ⟨b, o, none⟩ p) : w.cell? ⟨b, o, none⟩ = some (.string (S p.1.name)) ∧ w.cell? ⟨b, o + 1, none⟩ = some p.2.1.v ∧ w.cell? ⟨b, o + 2, none⟩ = some p.2.2.v := by
  simp only [CAt, add_plain] at h; exact h
/-- A file's messages, and where their lists lie. -/
theorem msgs_split {w : World} {v : Value} {l : List MI} (h : RdL 3 MAt w v l) : ∃ lm : List (MI × LV × LV), lm.map Prod.fst = l ∧ RdL 3 CAt w v lm ∧ ∀ p ∈ lm, RdL 6 FAt w p.2.1.v p.1.fields ∧ RdL 1 NAt w p.2.2.v p.1.barred := by
  obtain ⟨ao, n, cap, rfl, h1, h2, h3, h4, h5⟩ := h
  have hex : ∀ i : Nat, i < n → ∃ p : MI × LV × LV, l[i]? = some p.1 ∧ (∀ x, ao = some x → CAt w (x.add (i * 3)) p) ∧ RdL 6 FAt w p.2.1.v p.1.fields ∧ RdL 1 NAt w p.2.2.v p.1.barred := by
    intro i hi
    have hl : i < l.length := by omega
    cases ao with
    | none => have := (h4 rfl).1; omega
    | some x =>
      obtain ⟨vf, vb, c0, c1, c2, hf, hb⟩ := h5 x rfl i _ (List.getElem?_eq_getElem hl)
      obtain ⟨af, nf, cf, rfl, _, _⟩ := hf.shape
      obtain ⟨ab, nb, cb, rfl, _, _⟩ := hb.shape
      exact ⟨(l[i], (af, nf, cf), (ab, nb, cb)), List.getElem?_eq_getElem hl, fun y hy => by cases hy; exact ⟨c0, c1, c2⟩, hf, hb⟩
  have hch : ∃ f : Nat → MI × LV × LV, ∀ i, i < n → l[i]? = some (f i).1 ∧ (∀ x, ao = some x → CAt w (x.add (i * 3)) (f i)) ∧ RdL 6 FAt w (f i).2.1.v (f i).1.fields ∧ RdL 1 NAt w (f i).2.2.v (f i).1.barred := by
    refine ⟨fun i => if hi : i < n then Classical.choose (hex i hi) else (⟨[], [], []⟩, (none, 0, 0), (none, 0, 0)), fun i hi => ?_⟩
    simp only [dif_pos hi]
    exact Classical.choose_spec (hex i hi)
  obtain ⟨f, hf⟩ := hch
  refine ⟨(List.range n).map f, ?_, ⟨ao, n, cap, rfl, by simp, h2, h3, h4, ?_⟩, ?_⟩
  · apply List.ext_getElem?
    intro i
    rw [List.getElem?_map, List.getElem?_map]
    by_cases hi : i < n
    · rw [List.getElem?_range hi, (hf i hi).1]; rfl
    · rw [List.getElem?_eq_none (by simp; omega), List.getElem?_eq_none (by omega)]; rfl
  · intro x hx k a ha
    rw [List.getElem?_map] at ha
    by_cases hk : k < n
    · rw [List.getElem?_range hk] at ha
      cases ha
      exact (hf k hk).2.1 x hx
    · rw [List.getElem?_eq_none (by simp; omega)] at ha
      cases ha
  · intro p hp
    obtain ⟨i, hi, rfl⟩ := List.mem_map.1 hp
    exact (hf i (List.mem_range.1 hi)).2.2
theorem RdL.srcM {w : World} {ao : Option Addr} {n cap : Nat} {l : List (MI × LV × LV)} (h : RdL 3 CAt w (.slice ao n cap) l) : l.length = n ∧ (ao = none → n = 0 ∧ cap = 0) ∧ ∀ ad, ao = some ad → ∀ k y, l[k]? = some y → ∀ j u, (ekM.enc y)[j]? = some u → w.cell? (ad.add (k * ekM.size + j)) = some u := by
  have hl := h.len
  have hn : ao = none → n = 0 ∧ cap = 0 := by obtain ⟨ao', n', cap', e, _, _, _, h4, _⟩ := h; cases e; exact h4
  refine ⟨hl.1.symm, hn, fun ad had k y hy j u hu => ?_⟩
  obtain ⟨b, o, e, h6⟩ := h.get CAt.plain hy
  rw [e] at had
  cases had
  rw [add_plain]
  obtain ⟨t0, t1, t2⟩ := h6.at
  show w.cell? ⟨b, o + (k * 3 + j), none⟩ = some u
  match j, hu with
  | 0, hu =>
    have hu : Value.string (S y.1.name) = u := by simpa [ekM, encM] using hu
    rw [← hu]; simpa using t0
  | 1, hu =>
    have hu : y.2.1.v = u := by simpa [ekM, encM] using hu
    rw [← hu, ← Nat.add_assoc]; exact t1
  | 2, hu =>
    have hu : y.2.2.v = u := by simpa [ekM, encM] using hu
    rw [← hu, ← Nat.add_assoc]; exact t2
  | j + 3, hu => simp [ekM, encM] at hu
theorem Row.emp {α : Type} (E : EK α) {w : World} {base g : Nat} (hb : base ≤ g) (h : w.heap[g]? = some (.cells #[] E.elem (0, 0))) : Row E w base (.slice (some ⟨g, 0, none⟩) 0 0) [] :=
  ⟨by simp [EK.flat], .inr ⟨g, 0, #[], rfl, hb, h, Nat.le_refl _, by unfold maxLen; omega, by simp, by simp [EK.flat]⟩⟩
theorem blk_src {α : Type} (E : EK α) {w : World} {g : Nat} {y : α} {fr : Nat × Nat} (h : w.heap[g]? = some (.cells (E.enc y).toArray E.elem fr)) : ∀ ad, some (⟨g, 0, none⟩ : Addr) = some ad → ∀ k z, [y][k]? = some z → ∀ j u, (E.enc z)[j]? = some u → w.cell? (ad.add (k * E.size + j)) = some u := by
  intro ad had k z hz j u hu
  cases had
  cases k with
  | succ k => simp at hz
  | zero =>
    have hz : y = z := by simpa using hz
    subst hz
    rw [add_plain, Nat.zero_mul, Nat.zero_add, Nat.zero_add]
    exact cell_of_blk h j u (by simpa using hu)
theorem Row.fr {α : Type} {E : EK α} {w : World} {base g n cap : Nat} {l : List α} (h : Row E w base (.slice (some ⟨g, 0, none⟩) n cap) l) : base ≤ g ∧ ∃ cur, w.heap[g]? = some (.cells cur E.elem (0, 0)) := by
  rcases h.2 with ⟨hv, _⟩ | ⟨g', cap', cur, hv, hb, hg, _⟩
  · cases hv
  · cases hv; exact ⟨hb, cur, hg⟩
/-- One message in another's place. -/
theorem msgs_set {W : World} {base g n cap k : Nat} {lm : List (MI × LV × LV)} {p : MI × LV × LV} (hr : Row ekM W base (.slice (some ⟨g, 0, none⟩) n cap) lm) (hk : k < lm.length)
    (hR : ∀ q ∈ lm.set k p, RdL 6 FAt (((W.setCell ⟨g, k * 3, none⟩ (.string (S p.1.name))).setCell ⟨g, k * 3 + 1, none⟩ p.2.1.v).setCell ⟨g, k * 3 + 2, none⟩ p.2.2.v) q.2.1.v q.1.fields ∧ RdL 1 NAt (((W.setCell ⟨g, k * 3, none⟩ (.string (S p.1.name))).setCell ⟨g, k * 3 + 1, none⟩ p.2.1.v).setCell ⟨g, k * 3 + 2, none⟩ p.2.2.v) q.2.2.v q.1.barred) :
    RdL 3 MAt (((W.setCell ⟨g, k * 3, none⟩ (.string (S p.1.name))).setCell ⟨g, k * 3 + 1, none⟩ p.2.1.v).setCell ⟨g, k * 3 + 2, none⟩ p.2.2.v) (.slice (some ⟨g, 0, none⟩) n cap) ((lm.set k p).map Prod.fst) := by
  have hlen := hr.len
  have hcaps : n ≤ cap ∧ cap ≤ maxLen := by
    rcases hr.2 with ⟨hv, hn⟩ | ⟨g', cap', cur, hv, _, _, h1, h2, _⟩
    · cases hv
    · cases hv; exact ⟨h1, h2⟩
  have hcell : ∀ (j : Nat) (q : MI × LV × LV), lm[j]? = some q → W.cell? ⟨g, j * 3, none⟩ = some (.string (S q.1.name)) ∧ W.cell? ⟨g, j * 3 + 1, none⟩ = some q.2.1.v ∧ W.cell? ⟨g, j * 3 + 2, none⟩ = some q.2.2.v := by
    intro j q hq
    obtain ⟨g', e, hc⟩ := hr.get hq
    cases e
    exact ⟨hc 0 _ rfl, hc 1 _ rfl, hc 2 _ rfl⟩
  obtain ⟨k0, k1, k2⟩ := hcell k _ (List.getElem?_eq_getElem hk)
  have oth : ∀ (V : World) (i j : Nat) (v : Value), i ≠ j → (V.setCell ⟨g, i, none⟩ v).cell? ⟨g, j, none⟩ = V.cell? ⟨g, j, none⟩ := by
    intro V i j v h
    apply World.cell?_setCell_other
    intro e
    injection e with _ e2
    exact h e2
  have sam : ∀ (V : World) (i : Nat) (v u : Value), V.cell? ⟨g, i, none⟩ = some u → (V.setCell ⟨g, i, none⟩ v).cell? ⟨g, i, none⟩ = some v := by
    intro V i v u h
    apply World.cell?_setCell_same
    exact h
  refine RdL.map (P := CAt) Prod.fst ⟨some ⟨g, 0, none⟩, n, cap, rfl, by rw [List.length_set]; exact hlen.symm, hcaps.1, hcaps.2, fun h => (by cases h), ?_⟩ ?_
  · intro x hx j q hq
    cases hx
    rw [add_plain, Nat.zero_add]
    simp only [CAt, add_plain]
    by_cases hjk : j = k
    · subst hjk
      rw [List.getElem?_set_self hk] at hq
      cases hq
      refine ⟨?_, ?_, ?_⟩
      · rw [oth _ _ _ _ (by omega), oth _ _ _ _ (by omega), sam _ _ _ _ k0]
      · rw [oth _ _ _ _ (by omega)]
        refine sam _ _ _ (lm[j]'hk).2.1.v ?_
        rw [oth _ _ _ _ (by omega)]; exact k1
      · refine sam _ _ _ (lm[j]'hk).2.2.v ?_
        rw [oth _ _ _ _ (by omega), oth _ _ _ _ (by omega)]; exact k2
    · rw [List.getElem?_set_ne (fun e => hjk e.symm)] at hq
      obtain ⟨c0, c1, c2⟩ := hcell j q hq
      refine ⟨?_, ?_, ?_⟩
      · rw [oth _ _ _ _ (by omega), oth _ _ _ _ (by omega), oth _ _ _ _ (by omega)]; exact c0
      · rw [oth _ _ _ _ (by omega), oth _ _ _ _ (by omega), oth _ _ _ _ (by omega)]; exact c1
      · rw [oth _ _ _ _ (by omega), oth _ _ _ _ (by omega), oth _ _ _ _ (by omega)]; exact c2
  · rintro x q hq ⟨h0, h1, h2⟩
    exact ⟨_, _, h0, h1, h2, (hR q hq).1, (hR q hq).2⟩

end L
end Go.Proofs.YtenlijgnmhdopaaGreatDoor
