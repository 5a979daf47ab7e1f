import Derived.Test.YtenlijgnmhdopaaGreatDoorXRgtPq
import Derived.Test.YtenlijgnmhdopaaGreatDoorSPrintq
import Derived.Test.YtenlijgnmhdopaaGreatDoorSNum2q
/- A file that was linked, as the printer reads it; how great such files are. -/
namespace Go.Proofs.YtenlijgnmhdopaaGreatDoor
open Go.RowKit

theorem row_back {α β : Type} {E : L.EK α} {F : EK β} {w : World} {base : Nat} {v : Value} {l : List α} (t : α → β) (h : L.Row E w base v l) (he : E.elem = F.elem) (hs : E.size = F.size) (henc : ∀ a ∈ l, F.enc (t a) = E.enc a) : Row F w base v (l.map t) := by
  have hf : F.flat (l.map t) = E.flat l := by
    unfold L.EK.flat EK.flat
    rw [List.flatMap_map]
    clear h
    induction l with
    | nil => rfl
    | cons a r ih => rw [List.flatMap_cons, List.flatMap_cons, henc a (by simp), ih fun b hb => henc b (by simp [hb])]
  unfold L.Row at h
  unfold Row
  rw [hf, List.length_map, ← he, ← hs]
  exact h
theorem ownG_back {w : World} {base : Nat} {vm ve : Value} {lm : List (L.MI × L.LV × L.LV)} {le : List (L.EI × L.LV)} {g : L.GI} (h : L.OwnG w base vm ve lm le) (hm : lm.map Prod.fst = g.msgs) (_ : le.map Prod.fst = g.enums) (hr : (L.wrongL g).1 = 0) :
    FilR w base vm ve (lm.map fun p => (frM p.1, p.2)) (le.map fun p => (frE p.1, p.2)) := by
  refine ⟨row_back _ h.rowm rfl rfl (fun _ _ => rfl), row_back _ h.rowe rfl rfl (fun _ _ => rfl), ?_, ?_⟩
  · intro p hp
    obtain ⟨q, hq, rfl⟩ := List.mem_map.1 hp
    have hqm : q.1 ∈ g.msgs := by rw [← hm]; exact List.mem_map.2 ⟨q, hq, rfl⟩
    refine ⟨row_back frF (h.ms q hq).1 rfl rfl (fun x hx => ?_), row_back Int.toNat (h.ms q hq).2 rfl rfl (fun n hn => ?_)⟩
    · have hf := rt_rf hr hqm hx
      have hc := (rt_choice hr hqm).1 x hx
      have a1 := hf.lo
      have a2 := hf.k1
      show encFld (frF x) = L.encF x
      show [Value.string (S x.name), .int .i64 ((x.number.toNat : Nat) : Int), .int .i64 ((x.kind.toNat : Nat) : Int), .string (S x.type), .bool x.many, .int .i64 ((x.choice.toNat : Nat) : Int)] = _
      rw [Int.toNat_of_nonneg (by omega), Int.toNat_of_nonneg (by omega), Int.toNat_of_nonneg hc]
      rfl
    · show [Value.int .i64 ((n.toNat : Nat) : Int)] = [Value.int .i64 n]
      rw [Int.toNat_of_nonneg (rt_bar hr hqm n hn).1]
  · intro p hp
    obtain ⟨q, hq, rfl⟩ := List.mem_map.1 hp
    exact row_back frI (h.es q hq) rfl rfl (fun _ _ => rfl)
theorem back_fst {α β γ : Type} (t : α → β) (l : List (α × γ)) : (l.map fun p => (t p.1, p.2)).map Prod.fst = (l.map Prod.fst).map t := by
  rw [List.map_map, List.map_map]; rfl
/-- How great a file is that was linked. -/
theorem gok_link {g : L.GI} (h : L.GOk g) : L.GOk (L.linkL g) := by
  refine ⟨fun m hm => ?_, h.2.1, by simpa [L.linkL] using h.2.2.1, h.2.2.2⟩
  obtain ⟨m0, hm0, rfl⟩ := List.mem_map.1 hm
  obtain ⟨p1, p2, p3, p4, p5⟩ := h.1 m0 hm0
  refine ⟨p1, fun f hf => ?_, p3, by simpa [L.linkM] using p4, p5⟩
  obtain ⟨x, hx, rfl⟩ := List.mem_map.1 hf
  obtain ⟨q1, q2, q3, q4, q5⟩ := p2 x hx
  unfold L.linkF
  split
  · exact ⟨q1, q2, q3, (show L.I64 5 by unfold L.I64; decide), q5⟩
  · exact ⟨q1, q2, q3, q4, q5⟩
/-- .. and of one that was printed and parsed. -/
theorem gok_again {g : L.GI} (h : L.GOk g) (hr : (L.wrongL g).1 = 0) : L.GOk (toG ⟨(frG g).msgs.map numM, (frG g).enums⟩) := by
  have hb := rt_back hr
  have hbe : (frG g).enums.map toE = g.enums := congrArg L.GI.enums hb
  refine ⟨fun m hm => ?_, ?_, ?_, ?_⟩
  · obtain ⟨m1, hm1, rfl⟩ := List.mem_map.1 hm
    obtain ⟨m2, hm2, rfl⟩ := List.mem_map.1 hm1
    obtain ⟨m0, hm0, rfl⟩ := List.mem_map.1 hm2
    obtain ⟨p1, p2, p3, p4, p5⟩ := h.1 m0 hm0
    have hnum : numM (frM m0) = ⟨m0.name, (m0.fields.map frF).map reT, m0.barred.map Int.toNat⟩ := by
      show (⟨m0.name, (numGo 0 0 (m0.fields.map frF)).map reT, m0.barred.map Int.toNat⟩ : Msg) = _
      rw [(rt_choice hr hm0).2]
    rw [hnum]
    refine ⟨p1, fun f hf => ?_, fun n hn => ?_, by simpa [toM] using p4, by simpa [toM] using p5⟩
    · obtain ⟨f1, hf1, rfl⟩ := List.mem_map.1 hf
      obtain ⟨f2, hf2, rfl⟩ := List.mem_map.1 hf1
      obtain ⟨x, hx, rfl⟩ := List.mem_map.1 hf2
      obtain ⟨q1, q2, q3, q4, q5⟩ := p2 x hx
      have hf := rt_rf hr hm0 hx
      have hc := (rt_choice hr hm0).1 x hx
      have a1 := hf.lo
      have a2 := hf.k1
      have a3 := hf.k2
      have n1 : ((x.number.toNat : Nat) : Int) = x.number := Int.toNat_of_nonneg (by omega)
      have n2 : ((x.kind.toNat : Nat) : Int) = x.kind := Int.toNat_of_nonneg (by omega)
      have n3 : ((x.choice.toNat : Nat) : Int) = x.choice := Int.toNat_of_nonneg hc
      rcases (rt_word hr hm0 hx).2.2.2.2 with ⟨_, _, ht⟩ | ⟨_, ht⟩
      · refine ⟨q1, ?_, ?_, ?_, ?_⟩
        · show (typeL (wordP (frF x))).2.length ≤ maxLen
          rw [ht]; exact q2
        · show L.I64 ((x.number.toNat : Nat) : Int)
          rw [n1]; exact q3
        · show L.I64 (((typeL (wordP (frF x))).1 : Nat) : Int)
          rw [ht]; simp only [n2]; exact q4
        · show L.I64 ((x.choice.toNat : Nat) : Int)
          rw [n3]; exact q5
      · refine ⟨q1, ?_, ?_, ?_, ?_⟩
        · show (typeL (wordP (frF x))).2.length ≤ maxLen
          rw [ht]; exact q2
        · show L.I64 ((x.number.toNat : Nat) : Int)
          rw [n1]; exact q3
        · show L.I64 (((typeL (wordP (frF x))).1 : Nat) : Int)
          rw [ht]; unfold L.I64; simp
        · show L.I64 ((x.choice.toNat : Nat) : Int)
          rw [n3]; exact q5
    · obtain ⟨n1, hn1, rfl⟩ := List.mem_map.1 hn
      obtain ⟨z, hz, rfl⟩ := List.mem_map.1 hn1
      rw [Int.toNat_of_nonneg (rt_bar hr hm0 z hz).1]
      exact p3 z hz
  · show ∀ e ∈ (frG g).enums.map toE, _
    rw [hbe]; exact h.2.1
  · simpa [toG, frG] using h.2.2.1
  · simpa [toG, frG] using h.2.2.2
/-- What Print asks. -/
theorem print_ok {g : L.GI} (hr : (L.wrongL g).1 = 0) : (∀ m ∈ (frG g).msgs, m.fields.length ≤ 1000 ∧ m.barred.length ≤ 1000 ∧ (∀ f ∈ m.fields, f.number ≤ 4294967296) ∧ ∀ n ∈ m.barred, n ≤ 4294967296) ∧ ∀ e ∈ (frG g).enums, e.items.length ≤ 1000 ∧ ∀ i ∈ e.items, -9223372036854775808 ≤ i.value ∧ i.value ≤ 9223372036854775807 := by
  refine ⟨fun m hm => ?_, fun e he => ?_⟩
  · obtain ⟨_, h2, h3, h4, h5⟩ := rt_msgok hr m hm
    unfold mostN at h3
    refine ⟨by omega, by omega, fun f hf => ?_, fun n hn => ?_⟩
    · have := (h2 f hf).1.2.2.1; unfold mostN at this; omega
    · have := h3 n hn; omega
  · obtain ⟨_, h2, h3⟩ := rt_enmok hr e he
    refine ⟨by omega, fun i hi => ?_⟩
    have := (h2 i hi).2
    omega
theorem numb_id {g : L.GI} (hr : (L.wrongL g).1 = 0) : (frG g).msgs.map numbM = (frG g).msgs :=
  (List.map_congr_left (g := id) fun m hm => rt_num hr m hm).trans (List.map_id _)

end Go.Proofs.YtenlijgnmhdopaaGreatDoor

