import Derived.Test.YtelmjekjohbmjaaGreatDoorLWrongq
import Derived.ProofKit
import Derived.OpenShut
import Derived.Deep.Slices
import Derived.SizedLaws
import Derived.Test.YtelmjekjohbmjaaGreatDoorM00
import Derived.Maps.OwnOps
import Derived.Maps.Views
import Derived.Maps.OwnSet
import Derived.Deep.RegionLaw
/- The contract of names. -/
namespace Go.Proofs.YtelmjekjohbmjaaGreatDoor
namespace L
open Go.RowKit

def namesL (g : GI) : List (List UInt8) := g.msgs.map MI.name ++ g.enums.map EI.name
set_option maxHeartbeats 2000000 in
set_option maxRecDepth 100000 in
theorem names_any {w : World} {vm ve : Value} {g : GI} (hg : GRd w vm ve g) (hn1 : g.msgs.length ≤ 1000) (hn2 : g.enums.length ≤ 1000) :
    Calls Tryz.prog 47 #[.agg #[vm, ve]] w fun e w' => ∃ ao n cap, e = .returned (.slice ao n cap) ∧ RdL 1 SAt w' (.slice ao n cap) (namesL g) ∧ Below w.heap.size w w' := by
  obtain ⟨a1, n1, c1, rfl, H1, _⟩ := hg.1.shape
  obtain ⟨a2, n2, c2, rfl, H2, _⟩ := hg.2.shape
  have h1 : n1 ≤ 1000 := by rw [H1.out]; exact hn1
  have h2 : n2 ≤ 1000 := by rw [H2.out]; exact hn2
  obtain ⟨W0, HW0⟩ : ∃ W0, Hid (W0 = w.alloc (.cells #[.slice a1 n1 c1, .slice a2 n2 c2] 25)) := ⟨_, rfl⟩
  have hb0 : Below w.heap.size w W0 := by rw [HW0.out]; exact (Below.refl _ _).alloc (Nat.le_refl _) _
  have hx0 : W0.heap[w.heap.size]? = some (.cells #[.slice a1 n1 c1, .slice a2 n2 c2] 25 (0, 0)) := by rw [HW0.out]; exact heap_alloc_new _ _
  have hz0 : W0.heap.size = w.heap.size + 1 := by rw [HW0.out]; simp
  go_enter Tryz.func47, Tryz.ntmps47
  go_wp2_with fail
  rw [← HW0.out]
  go_loopg [3, 11] n1 (fun m lv i wr => ∃ (k : Nat) (l : List (List UInt8)), k + m = n1 ∧ i = .int .i64 k ∧ Row ekS wr (w.heap.size + 1) lv l ∧ Hid (l = (g.msgs.take k).map MI.name) ∧ Below (w.heap.size + 1) W0 wr)
  case atStart => exact ⟨0, [], by omega, rfl, Row.nil _ _ _, by show _ = _; simp, Below.refl _ _⟩
  case round =>
    obtain ⟨k, l, hk, rfl, hrow, HL, hbr⟩ := hrel
    have hBw : Below w.heap.size w wr := hb0.trans (hbr.mono (by omega))
    have hzr : w.heap.size + 1 ≤ wr.heap.size := by have := hbr.size; omega
    have hll : l.length ≤ k := by rw [HL.out]; simp; omega
    obtain ⟨al, nl, cl, rfl, Hnl⟩ := hrow.shape'
    by_cases hlt : k < n1
    · obtain ⟨a, Ha⟩ : ∃ a, Hid (g.msgs[k]? = some a) := ⟨g.msgs[k]'(by rw [← H1.out]; exact hlt), List.getElem?_eq_getElem (by rw [← H1.out]; exact hlt)⟩
      obtain ⟨b, off, rfl, hat⟩ := (hg.below hBw).1.get MAt.plain Ha.out
      obtain ⟨vf, vb, s0, s1, s2, hrf, hrb⟩ := hat.at
      obtain ⟨af, nf, cf, rfl, _, _⟩ := hrf.shape
      obtain ⟨ab, nb, cb, rfl, _, _⟩ := hrb.shape
      have hki : (k : Int) < (n1 : Int) := by omega
      have hbm := (Below.refl wr.heap.size wr).alloc (Nat.le_refl _) (.cells #[.string (S a.name), .slice af nf cf, .slice ab nb cb] 48)
      have hzm : (wr.alloc (.cells #[.string (S a.name), .slice af nf cf, .slice ab nb cb] 48)).heap.size = wr.heap.size + 1 := by simp
      have hone := Row.one (base := w.heap.size + 1) ekS (wr.alloc (.cells #[.string (S a.name), .slice af nf cf, .slice ab nb cb] 48)) a.name (by omega)
      rw [hzm] at hone
      have hba := (Below.refl _ _).alloc (Nat.le_refl _) (.cells #[.string (S a.name)] 9) (w := wr.alloc (.cells #[.string (S a.name), .slice af nf cf, .slice ab nb cb] 48))
      have hrow4 := (hrow.below hbm).below hba
      have hB4 : Below (w.heap.size + 1) W0 _ := (hbr.trans (hbm.mono hzr)).trans (hba.mono (by omega))
      have hone : Row ekS ((wr.alloc (.cells #[.string (S a.name), .slice af nf cf, .slice ab nb cb] 48)).alloc (.cells #[.string (S a.name)] 9)) (w.heap.size + 1) (.slice (some ⟨wr.heap.size + 1, 0, none⟩) 1 1) [a.name] := hone
      clear hat
      go_wp2_with (at_builtin; refine wpList_app rfl ekS _ _ rfl (w.heap.size + 1) _ l [a.name] rfl hrow4 (w.heap.size + 1) _ rfl hone ?e1 ?e2 ?_)
      case e1 => (try simp); omega
      case e2 => (try simp); omega
      intro v5 w5 hr5 hg5
      have hown := hrow4.own
      have hB5 : Below (w.heap.size + 1) W0 w5 := hB4.grown hg5 (by (try simp); omega) (fun k hk => (hown k hk).1)
      have HL5 : Hid (l ++ [a.name] = (g.msgs.take (k + 1)).map MI.name) := by show _ = _; rw [HL.out, take_snoc Ha.out]; simp
      clear hown hone hrow4 hB4
      go_wp2_with fail
      go_roundg (n1 - (k + 1))
      case measure => omega
      case rel => exact ⟨k + 1, l ++ [a.name], by omega, by go_num, hr5, HL5, hB5⟩
    · have y0 := (hbr.block w.heap.size (by omega)).trans hx0
      obtain ⟨x0, x1⟩ := blk2 y0
      have HL0 : Hid (l = g.msgs.map MI.name ++ (g.enums.take 0).map EI.name) := by show _ = _; rw [HL.out, List.take_of_length_le (by rw [← H1.out]; omega)]; simp
      go_wp2_with fail
      go_loopg [3, 24] n2 (fun m lv i wr => ∃ (k : Nat) (l : List (List UInt8)), k + m = n2 ∧ i = .int .i64 k ∧ Row ekS wr (w.heap.size + 1) lv l ∧ Hid (l = g.msgs.map MI.name ++ (g.enums.take k).map EI.name) ∧ Below (w.heap.size + 1) W0 wr)
      case atStart => exact ⟨0, l, by omega, rfl, hrow, HL0, hbr⟩
      case round =>
        clear hBw hzr hll x0 x1 y0 HL0 hbr hrow HL Hnl
        obtain ⟨k2, l2, hk2, rfl, hrow, HL, hbr⟩ := hrel
        have hBw : Below w.heap.size w wr := hb0.trans (hbr.mono (by omega))
        have hzr : w.heap.size + 1 ≤ wr.heap.size := by have := hbr.size; omega
        have hll : l2.length ≤ n1 + k2 := by rw [HL.out, H1.out]; simp; omega
        obtain ⟨al2, nl2, cl2, rfl, Hnl2⟩ := hrow.shape'
        by_cases hlt2 : k2 < n2
        · obtain ⟨a, Ha⟩ : ∃ a, Hid (g.enums[k2]? = some a) := ⟨g.enums[k2]'(by rw [← H2.out]; exact hlt2), List.getElem?_eq_getElem (by rw [← H2.out]; exact hlt2)⟩
          obtain ⟨b, off, rfl, hat⟩ := (hg.below hBw).2.get EAt.plain Ha.out
          obtain ⟨vi, s0, s1, hri⟩ := hat.at
          obtain ⟨ai, ni, ci, rfl, _, _⟩ := hri.shape
          have hki : (k2 : Int) < (n2 : Int) := by omega
          have hbm := (Below.refl wr.heap.size wr).alloc (Nat.le_refl _) (.cells #[.string (S a.name), .slice ai ni ci] 94)
          have hzm : (wr.alloc (.cells #[.string (S a.name), .slice ai ni ci] 94)).heap.size = wr.heap.size + 1 := by simp
          have hone := Row.one (base := w.heap.size + 1) ekS (wr.alloc (.cells #[.string (S a.name), .slice ai ni ci] 94)) a.name (by omega)
          rw [hzm] at hone
          have hba := (Below.refl _ _).alloc (Nat.le_refl _) (.cells #[.string (S a.name)] 9) (w := wr.alloc (.cells #[.string (S a.name), .slice ai ni ci] 94))
          have hrow4 := (hrow.below hbm).below hba
          have hB4 : Below (w.heap.size + 1) W0 _ := (hbr.trans (hbm.mono hzr)).trans (hba.mono (by omega))
          have hone : Row ekS ((wr.alloc (.cells #[.string (S a.name), .slice ai ni ci] 94)).alloc (.cells #[.string (S a.name)] 9)) (w.heap.size + 1) (.slice (some ⟨wr.heap.size + 1, 0, none⟩) 1 1) [a.name] := hone
          clear hat
          go_wp2_with (at_builtin; refine wpList_app rfl ekS _ _ rfl (w.heap.size + 1) _ l2 [a.name] rfl hrow4 (w.heap.size + 1) _ rfl hone ?e1 ?e2 ?_)
          case e1 => (try simp); omega
          case e2 => (try simp); omega
          intro v5 w5 hr5 hg5
          have hown := hrow4.own
          have hB5 : Below (w.heap.size + 1) W0 w5 := hB4.grown hg5 (by (try simp); omega) (fun k hk => (hown k hk).1)
          have HL5 : Hid (l2 ++ [a.name] = g.msgs.map MI.name ++ (g.enums.take (k2 + 1)).map EI.name) := by show _ = _; rw [HL.out, take_snoc Ha.out]; simp
          clear hown hone hrow4 hB4
          go_wp2_with fail
          go_roundg (n2 - (k2 + 1))
          case measure => omega
          case rel => exact ⟨k2 + 1, l2 ++ [a.name], by omega, by go_num, hr5, HL5, hB5⟩
        · have HL9 : Hid (l2 = namesL g) := by show _ = _; rw [HL.out, List.take_of_length_le (by rw [← H2.out]; omega)]; rfl
          go_wp2
          go_ret
          exact ⟨_, _, _, rfl, by rw [← HL9.out]; exact hrow.rdS, hBw⟩

end L
end Go.Proofs.YtelmjekjohbmjaaGreatDoor

/- The contract of Wrong. -/
namespace Go.Proofs.YtelmjekjohbmjaaGreatDoor
namespace L
open Go.RowKit

def msgsGo (g : GI) : Nat → List MI → Option (Int × Nat)
  | _, [] => none
  | i, m :: r => if wrongM g m ≠ 0 then some (wrongM g m, i) else msgsGo g (i + 1) r
def enumsGo : Nat → List EI → Option (Int × Nat)
  | _, [] => none
  | i, e :: r => if wrongE e ≠ 0 then some (wrongE e, i) else enumsGo (i + 1) r
/-- What is wrong with a file first, and where. -/
def wrongL (g : GI) : Int × Nat :=
  if 10 < g.msgs.length + g.enums.length then (5, 0)
  else if (firstGo stepS [7] 0 (namesL g) []).1 ≠ 0 then firstGo stepS [7] 0 (namesL g) []
  else match msgsGo g 0 g.msgs with
    | some q => q
    | none => match enumsGo 0 g.enums with
      | some q => (q.1, g.msgs.length + q.2)
      | none => (0, 0)
/-- Names are no longer than texts may be. -/
def Fits (g : GI) : Prop := (∀ m ∈ g.msgs, m.name.length ≤ 9223372036854775807 ∧ ∀ f ∈ m.fields, f.name.length ≤ 9223372036854775807) ∧ ∀ e ∈ g.enums, e.name.length ≤ 9223372036854775807 ∧ ∀ i ∈ e.items, i.name.length ≤ 9223372036854775807
theorem Fits.names {g : GI} (h : Fits g) : ∀ s ∈ namesL g, s.length ≤ 9223372036854775807 := by
  intro s hs
  rcases List.mem_append.1 hs with hs | hs
  · obtain ⟨m, hm, rfl⟩ := List.mem_map.1 hs; exact (h.1 m hm).1
  · obtain ⟨m, hm, rfl⟩ := List.mem_map.1 hs; exact (h.2 m hm).1
theorem msgs_step {g : GI} {l : List MI} {k : Nat} {m : MI} (h : l[k]? = some m) : msgsGo g k (l.drop k) = if wrongM g m ≠ 0 then some (wrongM g m, k) else msgsGo g (k + 1) (l.drop (k + 1)) := by
  obtain ⟨hk, e⟩ := List.getElem?_eq_some_iff.1 h
  rw [List.drop_eq_getElem_cons hk, e, msgsGo]
theorem enums_step {l : List EI} {k : Nat} {m : EI} (h : l[k]? = some m) : enumsGo k (l.drop k) = if wrongE m ≠ 0 then some (wrongE m, k) else enumsGo (k + 1) (l.drop (k + 1)) := by
  obtain ⟨hk, e⟩ := List.getElem?_eq_some_iff.1 h
  rw [List.drop_eq_getElem_cons hk, e, enumsGo]

theorem setR {w x : World} (h : Below w.heap.size w x) (a b : Value) : Below w.heap.size w ((x.setCell ⟨w.heap.size + 1, 0, none⟩ a).setCell ⟨w.heap.size + 1, 1, none⟩ b) :=
  (h.setCell (p := ⟨w.heap.size + 1, 0, none⟩) (show w.heap.size ≤ w.heap.size + 1 by omega) a).setCell (p := ⟨w.heap.size + 1, 1, none⟩) (show w.heap.size ≤ w.heap.size + 1 by omega) b

set_option maxHeartbeats 4000000 in
set_option maxRecDepth 100000 in
theorem Wrong_any {w : World} {vm ve : Value} {g : GI} (hg : GRd w vm ve g) (hn1 : g.msgs.length ≤ 140737488355328) (hn2 : g.enums.length ≤ 140737488355328) (hf : Fits g) :
    Calls Tryz.prog 24 #[.agg #[vm, ve]] w fun e w' => e = .returned (.agg #[.int .i64 (wrongL g).1, .int .i64 (((wrongL g).2 : Nat) : Int)]) ∧ Below w.heap.size w w' := by
  obtain ⟨a1, n1, c1, rfl, H1, _⟩ := hg.1.shape
  obtain ⟨a2, n2, c2, rfl, H2, _⟩ := hg.2.shape
  obtain ⟨W2, HW2⟩ : ∃ W2, Hid (W2 = (w.alloc (.cells #[.slice a1 n1 c1, .slice a2 n2 c2] 25)).alloc (.cells #[.int .i64 0, .int .i64 0] 63)) := ⟨_, rfl⟩
  have hb2 : Below w.heap.size w W2 := by rw [HW2.out]; exact ((Below.refl _ _).alloc (Nat.le_refl _) _).alloc (by simp) _
  have hx1 : W2.heap[w.heap.size]? = some (.cells #[.slice a1 n1 c1, .slice a2 n2 c2] 25 (0, 0)) := by rw [HW2.out]; exact alloc2_old _ _ _
  have hx2 : W2.heap[w.heap.size + 1]? = some (.cells #[.int .i64 0, .int .i64 0] 63 (0, 0)) := by rw [HW2.out]; exact alloc2_new _ _ _
  have hz2 : W2.heap.size = w.heap.size + 2 := by rw [HW2.out]; simp
  have hcr := crowded_any (w := W2) (a1 := a1) (a2 := a2) (c1 := c1) (c2 := c2) (show n1 ≤ 140737488355328 by rw [H1.out]; exact hn1) (show n2 ≤ 140737488355328 by rw [H2.out]; exact hn2)
  -- what stands in every later world
  have hcl : ∀ W, Below (w.heap.size + 2) W2 W → W.heap[w.heap.size]? = some (.cells #[.slice a1 n1 c1, .slice a2 n2 c2] 25 (0, 0)) ∧ W.heap[w.heap.size + 1]? = some (.cells #[.int .i64 0, .int .i64 0] 63 (0, 0)) ∧ Below w.heap.size w W := fun W hW => ⟨(hW.block _ (by omega)).trans hx1, (hW.block _ (by omega)).trans hx2, hb2.trans (hW.mono (by omega))⟩
  by_cases hbig : 10 < n1 + n2
  · have HE : Hid (wrongL g = (5, 0)) := by show _ = _; rw [wrongL, if_pos (by rw [← H1.out, ← H2.out]; exact hbig)]
    rw [show decide (10 < n1 + n2) = true by simp; omega] at hcr
    go_enter Tryz.func24, Tryz.ntmps24
    go_wp2_with fail
    rw [← HW2.out]
    refine hcr.mono ?_
    rintro e w1 ⟨rfl, hb1⟩
    obtain ⟨_, y2, hbw⟩ := hcl w1 (hb1.mono (by omega))
    obtain ⟨z0, z1⟩ := blk2 y2
    have f0 := fr_of_blk y2 0
    have f1 := fr_of_blk y2 1
    clear hcl hcr
    go_wp2
    refine bodyPost_ret (v := .agg #[.int .i64 5, .int .i64 0]) (by simp [results, Tryz.results24, go_sem, *]) rfl ?_
    exact ⟨by rw [HE.out]; rfl, setR hbw _ _⟩
  · have hno : ¬ 10 < g.msgs.length + g.enums.length := by rw [← H1.out, ← H2.out]; exact hbig
    rw [show decide (10 < n1 + n2) = false by simp; omega] at hcr
    have hn1' : n1 ≤ 10 := by omega
    have hn2' : n2 ≤ 10 := by omega
    go_enter Tryz.func24, Tryz.ntmps24
    go_wp2_with fail
    rw [← HW2.out]
    refine hcr.mono ?_
    rintro e w1 ⟨rfl, hb1⟩
    have hB1 : Below (w.heap.size + 2) W2 w1 := hb1.mono (by omega)
    obtain ⟨y1, y2, hbw⟩ := hcl w1 hB1
    obtain ⟨u0, u1⟩ := blk2 y1
    have hnm := names_any (hg.below hbw) (by rw [← H1.out]; omega) (by rw [← H2.out]; omega)
    clear hcr
    go_wp2_with fail
    refine hnm.mono ?_
    rintro e w3 ⟨an, nn, cn, rfl, hrn, hb3⟩
    have hB3 : Below (w.heap.size + 2) W2 w3 := hB1.trans (hb3.mono (by have := hB1.size; omega))
    have hnr := nameRules_new w3
    have hbk := names_broken hrn (by simp [namesL]; rw [← H1.out, ← H2.out]; omega) hf.names
    clear u0 u1 y1 y2 hnm
    go_wp2_with fail
    refine hnr.mono ?_
    rintro e w4 ⟨rfl, hw4⟩
    go_wp2_with fail
    rw [← hw4]
    refine hbk.mono ?_
    rintro e w5 ⟨rfl, hb5⟩
    have hB5 : Below (w.heap.size + 2) W2 w5 := hB3.trans (hb5.mono (by have := hB3.size; omega))
    generalize hp : firstGo stepS [7] 0 (namesL g) [] = p
    obtain ⟨pe, pi⟩ := p
    have HP : Hid (firstGo stepS [7] 0 (namesL g) [] = (pe, pi)) := hp
    clear hp hbk hnr hw4
    obtain ⟨W6, HW6⟩ : ∃ W6, Hid (W6 = w5.alloc (.cells #[.int .i64 pe, .int .i64 (pi : Int)] 63)) := ⟨_, rfl⟩
    have hb6 : Below w5.heap.size w5 W6 := by rw [HW6.out]; exact (Below.refl _ _).alloc (Nat.le_refl _) _
    have hx6 : W6.heap[w5.heap.size]? = some (.cells #[.int .i64 pe, .int .i64 (pi : Int)] 63 (0, 0)) := by rw [HW6.out]; exact heap_alloc_new _ _
    have hB6 : Below (w.heap.size + 2) W2 W6 := hB5.trans (hb6.mono (by have := hB5.size; omega))
    obtain ⟨y1, y2, hbw6⟩ := hcl W6 hB6
    by_cases hpe : pe = 0
    · have HP1 : Hid ((firstGo stepS [7] 0 (namesL g) []).1 = 0) := by show _ = _; rw [HP.out]; exact hpe
      have hpb : (pe != 0) = false := by simp [hpe]
      have HE : Hid (wrongL g = match msgsGo g 0 (g.msgs.drop 0) with | some q => q | none => match enumsGo 0 g.enums with | some q => (q.1, g.msgs.length + q.2) | none => (0, 0)) := by
        show _ = _; rw [wrongL, if_neg hno, if_neg (by rw [HP1.out]; simp)]; rfl
      obtain ⟨u0, u1⟩ := blk2 y1
      rw [HW6.out] at u0 u1
      clear hpe HP y1 y2
      go_wp2_with fail
      rw [← HW6.out]
      go_loopg [24] n1 (fun m i wr => ∃ k : Nat, k + m = n1 ∧ i = .int .i64 k ∧ Hid (wrongL g = match msgsGo g k (g.msgs.drop k) with | some q => q | none => match enumsGo 0 g.enums with | some q => (q.1, g.msgs.length + q.2) | none => (0, 0)) ∧ Below (w.heap.size + 2) W2 wr)
      case atStart => exact ⟨0, by omega, rfl, HE, hB6⟩
      case round =>
        clear u0 u1 HE hB6 hb6 hx6 hbw6 hB5 hb5 hB3 hb3 hB1 hb1 hrn hbw
        obtain ⟨k, hk, rfl, HK, hBr⟩ := hrel
        obtain ⟨y1, y2, hbw⟩ := hcl wr hBr
        obtain ⟨u0, u1⟩ := blk2 y1
        obtain ⟨z0, z1⟩ := blk2 y2
        have f0 := fr_of_blk y2 0
        have f1 := fr_of_blk y2 1
        have hzr : w.heap.size + 2 ≤ wr.heap.size := by have := hBr.size; omega
        by_cases hlt : k < n1
        · obtain ⟨a, Ha⟩ : ∃ a, Hid (g.msgs[k]? = some a) := ⟨g.msgs[k]'(by rw [← H1.out]; exact hlt), List.getElem?_eq_getElem (by rw [← H1.out]; exact hlt)⟩
          obtain ⟨b, off, rfl, hat⟩ := (hg.below hbw).1.get MAt.plain Ha.out
          obtain ⟨vf, vb, s0, s1, s2, hrf, hrb⟩ := hat.at
          obtain ⟨af, nf, cf, rfl, _, _⟩ := hrf.shape
          obtain ⟨ab, nb, cb, rfl, _, _⟩ := hrb.shape
          have hki : (k : Int) < (n1 : Int) := by omega
          have hbm := (Below.refl wr.heap.size wr).alloc (Nat.le_refl _) (.cells #[.string (S a.name), .slice af nf cf, .slice ab nb cb] 48)
          have y1m := (hbm.block w.heap.size (by omega)).trans y1
          obtain ⟨u2, u3⟩ := blk2 y1m
          have hwm := wrongMessage_any a ((hg.below hbw).below hbm) (hrf.below FAt.stays hbm) (hrb.below NAt.stays hbm) (hf.1 a (mem_at Ha.out)).2
          obtain ⟨q, HQ⟩ : ∃ q, Hid (q = wrongM g a) := ⟨_, rfl⟩
          have HK2 := HK.out
          rw [msgs_step Ha.out, ← HQ.out] at HK2
          rw [← HQ.out] at hwm
          clear hat HK
          by_cases hq : q = 0
          · have HK3 : Hid (wrongL g = match msgsGo g (k + 1) (g.msgs.drop (k + 1)) with | some q => q | none => match enumsGo 0 g.enums with | some q => (q.1, g.msgs.length + q.2) | none => (0, 0)) := by
              show _ = _; rw [HK2, if_neg (by simp [hq])]
            have hqb : (q != 0) = false := by simp [hq]
            clear HK2 hq hcl
            go_wp2_with fail
            refine hwm.mono ?_
            rintro e w7 ⟨rfl, hb7⟩
            go_wp2_with fail
            go_roundg (n1 - (k + 1))
            case measure => omega
            case rel => exact ⟨k + 1, by omega, by go_num, HK3, (hBr.trans (hbm.mono hzr)).trans (hb7.mono (by simp; omega))⟩
          · have HK3 : Hid (wrongL g = (q, k)) := by show _ = _; rw [HK2, if_pos hq]
            have hqb : (q != 0) = true := by simp [hq]
            have hcl2 := hcl
            clear HK2 hq hcl
            go_wp2_with fail
            refine hwm.mono ?_
            rintro e w7 ⟨rfl, hb7⟩
            have hB7 : Below (w.heap.size + 2) W2 w7 := (hBr.trans (hbm.mono hzr)).trans (hb7.mono (by simp; omega))
            obtain ⟨_, y3, hbw7⟩ := hcl2 w7 hB7
            obtain ⟨z3, z4⟩ := blk2 y3
            have f3 := fr_of_blk y3 0
            have f4 := fr_of_blk y3 1
            clear hcl2 z0 z1 f0 f1
            go_wp2
            refine bodyPost_ret (v := .agg #[.int .i64 q, .int .i64 (k : Int)]) (by simp [results, Tryz.results24, go_sem, *]) rfl ?_
            exact ⟨by rw [HK3.out], setR hbw7 _ _⟩
        · have HE2 : Hid (wrongL g = match enumsGo 0 (g.enums.drop 0) with | some q => (q.1, g.msgs.length + q.2) | none => (0, 0)) := by
            have e : g.msgs.drop k = [] := List.drop_eq_nil_of_le (by rw [← H1.out]; omega)
            show _ = _; rw [HK.out, e]; rfl
          clear HK
          go_wp2_with fail
          go_loopg [41] n2 (fun m i wr => ∃ k : Nat, k + m = n2 ∧ i = .int .i64 k ∧ Hid (wrongL g = match enumsGo k (g.enums.drop k) with | some q => (q.1, g.msgs.length + q.2) | none => (0, 0)) ∧ Below (w.heap.size + 2) W2 wr)
          case atStart => exact ⟨0, by omega, rfl, HE2, hBr⟩
          case round =>
            clear u0 u1 z0 z1 f0 f1 y1 y2 hbw hBr HE2 hzr
            obtain ⟨k2, hk2, rfl, HK, hBr⟩ := hrel
            obtain ⟨y1, y2, hbw⟩ := hcl wr hBr
            obtain ⟨u0, u1⟩ := blk2 y1
            obtain ⟨z0, z1⟩ := blk2 y2
            have f0 := fr_of_blk y2 0
            have f1 := fr_of_blk y2 1
            have hzr : w.heap.size + 2 ≤ wr.heap.size := by have := hBr.size; omega
            by_cases hlt2 : k2 < n2
            · obtain ⟨a, Ha⟩ : ∃ a, Hid (g.enums[k2]? = some a) := ⟨g.enums[k2]'(by rw [← H2.out]; exact hlt2), List.getElem?_eq_getElem (by rw [← H2.out]; exact hlt2)⟩
              obtain ⟨b, off, rfl, hat⟩ := (hg.below hbw).2.get EAt.plain Ha.out
              obtain ⟨vi, s0, s1, hri⟩ := hat.at
              obtain ⟨ai, ni, ci, rfl, _, _⟩ := hri.shape
              have hki : (k2 : Int) < (n2 : Int) := by omega
              have hbm := (Below.refl wr.heap.size wr).alloc (Nat.le_refl _) (.cells #[.string (S a.name), .slice ai ni ci] 94)
              have hwe := wrongEnum_any a (hri.below TAt.stays hbm) (hf.2 a (mem_at Ha.out)).2
              obtain ⟨q, HQ⟩ : ∃ q, Hid (q = wrongE a) := ⟨_, rfl⟩
              have HK2 := HK.out
              rw [enums_step Ha.out, ← HQ.out] at HK2
              rw [← HQ.out] at hwe
              clear hat HK
              by_cases hq : q = 0
              · have HK3 : Hid (wrongL g = match enumsGo (k2 + 1) (g.enums.drop (k2 + 1)) with | some q => (q.1, g.msgs.length + q.2) | none => (0, 0)) := by
                  show _ = _; rw [HK2, if_neg (by simp [hq])]
                have hqb : (q != 0) = false := by simp [hq]
                clear HK2 hq hcl
                go_wp2_with fail
                refine hwe.mono ?_
                rintro e w7 ⟨rfl, hb7⟩
                go_wp2_with fail
                go_roundg (n2 - (k2 + 1))
                case measure => omega
                case rel => exact ⟨k2 + 1, by omega, by go_num, HK3, (hBr.trans (hbm.mono hzr)).trans (hb7.mono (by simp; omega))⟩
              · have HK3 : Hid (wrongL g = (q, n1 + k2)) := by show _ = _; rw [HK2, if_pos hq, H1.out]
                have hqb : (q != 0) = true := by simp [hq]
                have hcl2 := hcl
                clear HK2 hq hcl
                go_wp2_with fail
                refine hwe.mono ?_
                rintro e w7 ⟨rfl, hb7⟩
                have hB7 : Below (w.heap.size + 2) W2 w7 := (hBr.trans (hbm.mono hzr)).trans (hb7.mono (by simp; omega))
                obtain ⟨y4, y3, hbw7⟩ := hcl2 w7 hB7
                obtain ⟨z3, z4⟩ := blk2 y3
                obtain ⟨z5, z6⟩ := blk2 y4
                have f3 := fr_of_blk y3 0
                have f4 := fr_of_blk y3 1
                clear hcl2 z0 z1 f0 f1 u0 u1
                go_wp2
                refine bodyPost_ret (v := .agg #[.int .i64 q, .int .i64 ((n1 : Int) + (k2 : Int))]) (by simp [results, Tryz.results24, go_sem, *]) rfl ?_
                exact ⟨by rw [HK3.out]; simp, setR hbw7 _ _⟩
            · have HE3 : Hid (wrongL g = (0, 0)) := by
                have e : g.enums.drop k2 = [] := List.drop_eq_nil_of_le (by rw [← H2.out]; omega)
                show _ = _; rw [HK.out, e]; rfl
              clear HK hcl
              go_wp2
              refine bodyPost_ret (v := .agg #[.int .i64 0, .int .i64 0]) (by simp [results, Tryz.results24, go_sem, *]) rfl ?_
              exact ⟨by rw [HE3.out]; rfl, setR hbw _ _⟩
    · have HE : Hid (wrongL g = (pe, pi)) := by show _ = _; rw [wrongL, if_neg hno, if_pos (by rw [HP.out]; exact hpe), HP.out]
      have hpb : (pe != 0) = true := by simp [hpe]
      obtain ⟨z0, z1⟩ := blk2 y2
      obtain ⟨z2, z3⟩ := blk2 hx6
      have f0 := fr_of_blk y2 0
      have f1 := fr_of_blk y2 1
      rw [HW6.out] at z0 z1 z2 z3 f0 f1
      clear hpe HP hcl
      go_wp2
      refine bodyPost_ret (v := .agg #[.int .i64 pe, .int .i64 (pi : Int)]) (by simp [results, Tryz.results24, go_sem, *]) rfl ?_
      exact ⟨by rw [HE.out], by rw [← HW6.out]; exact setR hbw6 _ _⟩

end L
end Go.Proofs.YtelmjekjohbmjaaGreatDoor

/- A file that came in, opened: what can be read, and how great it is. -/
namespace Go.Proofs.YtelmjekjohbmjaaGreatDoor
namespace L
open Go.ChangeShapes Go.WideShapes Go.ChangeAt Go.RowKit

section
variable {H : Type} {enc : TypeId × Value → H} {w : World} {base : Nat} {spare : Nat → Bool} {held : Bool}

/-- No string, no list of it is greater than one may be. -/
def Sz (t : TypeId) (d : DataW H) : Prop := ∀ n ∈ d.weights Tryz.prog t, n ≤ reachBytes
theorem all_mem {e : TypeId} : ∀ {l : List (DataW H)} {d : DataW H}, d ∈ l → ∀ n ∈ d.weights Tryz.prog e, n ∈ DataW.weightsAll Tryz.prog e l
  | [], _, h, _, _ => by simp at h
  | x :: l, d, h, n, hn => by
    simp only [DataW.weightsAll, List.mem_append]
    rcases List.mem_cons.1 h with rfl | h
    · exact .inl hn
    · exact .inr (all_mem h n hn)

theorem open_list {α : Type} {P : World → Addr → α → Prop} {Q : α → Prop} {sz bytes : Nat} {t e : TypeId} (ht : Tryz.prog.underlying t = some (.slice e)) (hc : Tryz.prog.cellsOf e = sz) (hby : Tryz.prog.bytesOf e = bytes) (dflt : α)
    (hel : ∀ (fuel : Nat) (a : Addr) (cs : List Value) (d : DataW H) (pl : List MemPlace), w.cells? base a sz = some cs → DataW.trod enc Tryz.prog w base spare held fuel e cs = some (d, pl) → Sz e d → ∃ y, P w a y ∧ Q y)
    {fuel : Nat} {cs : List Value} {d : DataW H} {pl : List MemPlace} (h : DataW.trod enc Tryz.prog w base spare held fuel t cs = some (d, pl)) (hsz : Sz t d) :
    ∃ v l, cs = [v] ∧ RdL sz P w v l ∧ (∀ y ∈ l, Q y) ∧ l.length * bytes ≤ reachBytes := by
  rcases Go.Deep.open_slice ht h with ⟨hcs, _⟩ | ⟨a, len, cap, m, n, D, Pl, hcs, _, hl, hm, hmm, hx, hels⟩
  · exact ⟨_, [], hcs, RdL.nil _ _ _, fun y hy => by simp at hy, by simp⟩
  · rw [hc] at hels
    have hd := (Prod.mk.inj hx).1
    have hm' : len ≤ m := by rw [hmm]; split <;> omega
    have hw : (len + (m - len)) * bytes ≤ reachBytes := by
      refine hsz _ ?_
      rw [hd, DataW.weights, ht]
      simp [hby]
    have hex : ∀ i, i < len → ∃ y, P w (a.add (i * sz)) y ∧ Q y := by
      intro i hi
      obtain ⟨cs', h1, h2⟩ := hels i (by omega)
      refine hel n _ cs' (D i) (Pl i) h1 h2 ?_
      intro q hq
      refine hsz q ?_
      rw [hd, DataW.weights, ht]
      simp only [List.mem_cons, List.mem_append]
      exact .inr (.inl (all_mem (List.mem_map.2 ⟨i, List.mem_range.2 hi, rfl⟩) q hq))
    obtain ⟨f, hf⟩ : ∃ f : Nat → α, ∀ i, i < len → P w (a.add (i * sz)) (f i) ∧ Q (f i) := by
      refine ⟨fun i => if hi : i < len then Classical.choose (hex i hi) else dflt, fun i hi => ?_⟩
      simp only [dif_pos hi]
      exact Classical.choose_spec (hex i hi)
    refine ⟨_, (List.range len).map f, hcs, ⟨some a, len, cap, rfl, by simp, hl, hm, fun h => (by cases h), ?_⟩, ?_, ?_⟩
    · intro x hx' k y hy
      cases hx'
      rw [List.getElem?_map] at hy
      by_cases hk : k < len
      · rw [List.getElem?_range hk] at hy
        cases hy
        exact (hf k hk).1
      · rw [List.getElem?_eq_none (by simp; omega)] at hy
        cases hy
    · intro y hy
      obtain ⟨i, hi, rfl⟩ := List.mem_map.1 hy
      exact (hf i (List.mem_range.1 hi)).2
    · simp only [List.length_map, List.length_range]
      exact Nat.le_trans (Nat.mul_le_mul_right _ (Nat.le_add_right _ _)) hw

theorem open_str {fuel : Nat} {c : Value} {x : DataW H × List MemPlace} (h : DataW.trod enc Tryz.prog w base spare held fuel 9 [c] = some x) : ∃ s : List UInt8, c = .string (S s) ∧ s.length ≤ maxLen := by
  obtain ⟨s, h1, _, h2⟩ := DataW.trod_string Tryz.underlying9 h
  simp at h1
  refine ⟨s.data.toList, by rw [h1]; simp [S], ?_⟩
  rw [Array.length_toList]
  exact h2
theorem open_num {fuel : Nat} {c : Value} {x : DataW H × List MemPlace} (h : DataW.trod enc Tryz.prog w base spare held fuel 3 [c] = some x) : ∃ n : Int, c = .int .i64 n ∧ I64 n := by
  obtain ⟨n, h1, _, h2⟩ := DataW.trod_int Tryz.underlying3 h
  simp at h1
  exact ⟨n, h1, by have := bounds_i64 h2; unfold I64; omega⟩
theorem open_bool {fuel : Nat} {c : Value} {x : DataW H × List MemPlace} (h : DataW.trod enc Tryz.prog w base spare held fuel 4 [c] = some x) : ∃ b : Bool, c = .bool b := by
  obtain ⟨b, h1, _⟩ := DataW.trod_bool Tryz.underlying4 h
  simp at h1
  exact ⟨b, h1⟩
theorem part_sz {t : TypeId} {fs : Array Field} {xs : List (DataW H × List MemPlace)} (ht : Tryz.prog.underlying t = some (.struct fs)) (h : Sz t (.agg (xs.map (·.1)))) {i : Nat} {f : Field} {y : DataW H × List MemPlace} (hf : fs[i]? = some f) (hy : xs[i]? = some y) : Sz f.type y.1 := by
  intro n hn
  refine h n ?_
  rw [DataW.weights, ht]
  refine DataW.weights_mem_each (j := i) ?_ ?_ n hn
  · rw [List.getElem?_map, Array.getElem?_toList, hf]; rfl
  · rw [List.getElem?_map, hy]; rfl

/-- Of a field: numbers of 64 bits, texts that are not too long. -/
def FOk (f : FI) : Prop := f.name.length ≤ maxLen ∧ f.type.length ≤ maxLen ∧ I64 f.number ∧ I64 f.kind ∧ I64 f.choice
set_option maxRecDepth 100000 in
theorem open_fld (fuel : Nat) (a : Addr) (cs : List Value) (d : DataW H) (pl : List MemPlace) (hc : w.cells? base a 6 = some cs) (h : DataW.trod enc Tryz.prog w base spare held fuel 53 cs = some (d, pl)) (_ : Sz 53 d) : ∃ y, FAt w a y ∧ FOk y := by
  obtain ⟨_, hlen, hcell⟩ := World.cells?_some hc
  obtain ⟨xs, n, _, _, _, hxl, hf⟩ := DataW.trod_struct Tryz.underlying53 h
  match cs, hlen with
  | [v0, v1, v2, v3, v4, v5], _ =>
    have hxs : xs.length = 6 := hxl
    have f0 : DataW.trod enc Tryz.prog w base spare held n 9 [v0] = xs[0]? := hf 0 _ rfl
    have f1 : DataW.trod enc Tryz.prog w base spare held n 3 [v1] = xs[1]? := hf 1 _ rfl
    have f2 : DataW.trod enc Tryz.prog w base spare held n 3 [v2] = xs[2]? := hf 2 _ rfl
    have f3 : DataW.trod enc Tryz.prog w base spare held n 9 [v3] = xs[3]? := hf 3 _ rfl
    have f4 : DataW.trod enc Tryz.prog w base spare held n 4 [v4] = xs[4]? := hf 4 _ rfl
    have f5 : DataW.trod enc Tryz.prog w base spare held n 3 [v5] = xs[5]? := hf 5 _ rfl
    rw [List.getElem?_eq_getElem (by omega)] at f0 f1 f2 f3 f4 f5
    obtain ⟨s0, rfl, z0⟩ := open_str f0
    obtain ⟨n1, rfl, z1⟩ := open_num f1
    obtain ⟨n2, rfl, z2⟩ := open_num f2
    obtain ⟨s3, rfl, z3⟩ := open_str f3
    obtain ⟨b4, rfl⟩ := open_bool f4
    obtain ⟨n5, rfl, z5⟩ := open_num f5
    refine ⟨⟨s0, n1, n2, s3, b4, n5⟩, ⟨?_, hcell 1 (by omega), hcell 2 (by omega), hcell 3 (by omega), hcell 4 (by omega), hcell 5 (by omega)⟩, z0, z3, z1, z2, z5⟩
    have := hcell 0 (by omega)
    simpa [Addr.add] using this
def TOk (i : II) : Prop := i.name.length ≤ maxLen ∧ I64 i.value
set_option maxRecDepth 100000 in
theorem open_itm (fuel : Nat) (a : Addr) (cs : List Value) (d : DataW H) (pl : List MemPlace) (hc : w.cells? base a 2 = some cs) (h : DataW.trod enc Tryz.prog w base spare held fuel 108 cs = some (d, pl)) (_ : Sz 108 d) : ∃ y, TAt w a y ∧ TOk y := by
  obtain ⟨_, hlen, hcell⟩ := World.cells?_some hc
  obtain ⟨xs, n, _, _, _, hxl, hf⟩ := DataW.trod_struct Tryz.underlying108 h
  match cs, hlen with
  | [v0, v1], _ =>
    have hxs : xs.length = 2 := hxl
    have f0 : DataW.trod enc Tryz.prog w base spare held n 9 [v0] = xs[0]? := hf 0 _ rfl
    have f1 : DataW.trod enc Tryz.prog w base spare held n 3 [v1] = xs[1]? := hf 1 _ rfl
    rw [List.getElem?_eq_getElem (by omega)] at f0 f1
    obtain ⟨s0, rfl, z0⟩ := open_str f0
    obtain ⟨n1, rfl, z1⟩ := open_num f1
    refine ⟨⟨s0, n1⟩, ⟨?_, hcell 1 (by omega)⟩, z0, z1⟩
    have := hcell 0 (by omega)
    simpa [Addr.add] using this
theorem open_int (fuel : Nat) (a : Addr) (cs : List Value) (d : DataW H) (pl : List MemPlace) (hc : w.cells? base a 1 = some cs) (h : DataW.trod enc Tryz.prog w base spare held fuel 3 cs = some (d, pl)) (_ : Sz 3 d) : ∃ y, NAt w a y ∧ I64 y := by
  obtain ⟨_, hlen, hcell⟩ := World.cells?_some hc
  match cs, hlen with
  | [v0], _ =>
    obtain ⟨n1, rfl, z1⟩ := open_num h
    refine ⟨n1, ?_, z1⟩
    have := hcell 0 (by omega)
    simpa [Addr.add, NAt] using this
def MOk (m : MI) : Prop := m.name.length ≤ maxLen ∧ (∀ f ∈ m.fields, FOk f) ∧ (∀ n ∈ m.barred, I64 n) ∧ m.fields.length * 64 ≤ reachBytes ∧ m.barred.length * 8 ≤ reachBytes
set_option maxRecDepth 100000 in
theorem open_msg (fuel : Nat) (a : Addr) (cs : List Value) (d : DataW H) (pl : List MemPlace) (hc : w.cells? base a 3 = some cs) (h : DataW.trod enc Tryz.prog w base spare held fuel 48 cs = some (d, pl)) (hsz : Sz 48 d) : ∃ y, MAt w a y ∧ MOk y := by
  obtain ⟨_, hlen, hcell⟩ := World.cells?_some hc
  obtain ⟨xs, n, _, hx, _, hxl, hf⟩ := DataW.trod_struct Tryz.underlying48 h
  have hd := (Prod.mk.inj hx).1
  rw [hd] at hsz
  match cs, hlen with
  | [v0, v1, v2], _ =>
    have hxs : xs.length = 3 := hxl
    have f0 : DataW.trod enc Tryz.prog w base spare held n 9 [v0] = xs[0]? := hf 0 _ rfl
    have f1 : DataW.trod enc Tryz.prog w base spare held n 45 [v1] = xs[1]? := hf 1 _ rfl
    have f2 : DataW.trod enc Tryz.prog w base spare held n 46 [v2] = xs[2]? := hf 2 _ rfl
    rw [List.getElem?_eq_getElem (by omega)] at f0 f1 f2
    have q1 : Sz 45 (xs[1]'(by omega)).1 := part_sz (i := 1) Tryz.underlying48 hsz rfl (List.getElem?_eq_getElem (by omega))
    have q2 : Sz 46 (xs[2]'(by omega)).1 := part_sz (i := 2) Tryz.underlying48 hsz rfl (List.getElem?_eq_getElem (by omega))
    obtain ⟨s0, rfl, z0⟩ := open_str f0
    obtain ⟨u1, l1, e1, r1, k1, b1⟩ := open_list (P := FAt) (Q := FOk) (sz := 6) (bytes := 64) Tryz.underlying45 (by kernel_rfl) (by kernel_rfl) ⟨[], 0, 0, [], false, 0⟩ open_fld f1 q1
    obtain ⟨u2, l2, e2, r2, k2, b2⟩ := open_list (P := NAt) (Q := I64) (sz := 1) (bytes := 8) Tryz.underlying46 (by kernel_rfl) (by kernel_rfl) 0 open_int f2 q2
    simp at e1 e2
    subst e1 e2
    refine ⟨⟨s0, l1, l2⟩, ⟨v1, v2, ?_, hcell 1 (by omega), hcell 2 (by omega), r1, r2⟩, z0, k1, k2, b1, b2⟩
    have := hcell 0 (by omega)
    simpa [Addr.add] using this
def EOk (e : EI) : Prop := e.name.length ≤ maxLen ∧ (∀ f ∈ e.items, TOk f) ∧ e.items.length * 24 ≤ reachBytes
set_option maxRecDepth 100000 in
theorem open_enm (fuel : Nat) (a : Addr) (cs : List Value) (d : DataW H) (pl : List MemPlace) (hc : w.cells? base a 2 = some cs) (h : DataW.trod enc Tryz.prog w base spare held fuel 94 cs = some (d, pl)) (hsz : Sz 94 d) : ∃ y, EAt w a y ∧ EOk y := by
  obtain ⟨_, hlen, hcell⟩ := World.cells?_some hc
  obtain ⟨xs, n, _, hx, _, hxl, hf⟩ := DataW.trod_struct Tryz.underlying94 h
  have hd := (Prod.mk.inj hx).1
  rw [hd] at hsz
  match cs, hlen with
  | [v0, v1], _ =>
    have hxs : xs.length = 2 := hxl
    have f0 : DataW.trod enc Tryz.prog w base spare held n 9 [v0] = xs[0]? := hf 0 _ rfl
    have f1 : DataW.trod enc Tryz.prog w base spare held n 92 [v1] = xs[1]? := hf 1 _ rfl
    rw [List.getElem?_eq_getElem (by omega)] at f0 f1
    have q1 : Sz 92 (xs[1]'(by omega)).1 := part_sz (i := 1) Tryz.underlying94 hsz rfl (List.getElem?_eq_getElem (by omega))
    obtain ⟨s0, rfl, z0⟩ := open_str f0
    obtain ⟨u1, l1, e1, r1, k1, b1⟩ := open_list (P := TAt) (Q := TOk) (sz := 2) (bytes := 24) Tryz.underlying92 (by kernel_rfl) (by kernel_rfl) ⟨[], 0⟩ open_itm f1 q1
    simp at e1
    subst e1
    refine ⟨⟨s0, l1⟩, ⟨v1, ?_, hcell 1 (by omega), r1⟩, z0, k1, b1⟩
    have := hcell 0 (by omega)
    simpa [Addr.add] using this
def GOk (g : GI) : Prop := (∀ m ∈ g.msgs, MOk m) ∧ (∀ e ∈ g.enums, EOk e) ∧ g.msgs.length * 64 ≤ reachBytes ∧ g.enums.length * 40 ≤ reachBytes
set_option maxRecDepth 100000 in
/-- A file that came in. -/
theorem open_file {v : Value} {fuel : Nat} {d : DataW H} {pl : List MemPlace} (h : DataW.trod enc Tryz.prog w base spare held fuel 25 v.cells.toList = some (d, pl)) (hsz : Sz 25 d) : ∃ vm ve g, v = .agg #[vm, ve] ∧ GRd w vm ve g ∧ GOk g := by
  obtain ⟨xs, n, _, hx, hlen, hxl, hf⟩ := DataW.trod_struct Tryz.underlying25 h
  have hd := (Prod.mk.inj hx).1
  rw [hd] at hsz
  have hl2 : v.cells.toList.length = 2 := hlen
  generalize hcs : v.cells.toList = cs at hl2 hf
  match cs, hl2 with
  | [v0, v1], _ =>
    have hxs : xs.length = 2 := hxl
    have f0 : DataW.trod enc Tryz.prog w base spare held n 22 [v0] = xs[0]? := hf 0 _ rfl
    have f1 : DataW.trod enc Tryz.prog w base spare held n 23 [v1] = xs[1]? := hf 1 _ rfl
    rw [List.getElem?_eq_getElem (by omega)] at f0 f1
    have q0 : Sz 22 (xs[0]'(by omega)).1 := part_sz (i := 0) Tryz.underlying25 hsz rfl (List.getElem?_eq_getElem (by omega))
    have q1 : Sz 23 (xs[1]'(by omega)).1 := part_sz (i := 1) Tryz.underlying25 hsz rfl (List.getElem?_eq_getElem (by omega))
    obtain ⟨u0, l0, e0, r0, k0, b0⟩ := open_list (P := MAt) (Q := MOk) (sz := 3) (bytes := 64) Tryz.underlying22 (by kernel_rfl) (by kernel_rfl) ⟨[], [], []⟩ open_msg f0 q0
    obtain ⟨u1, l1, e1, r1, k1, b1⟩ := open_list (P := EAt) (Q := EOk) (sz := 2) (bytes := 40) Tryz.underlying23 (by kernel_rfl) (by kernel_rfl) ⟨[], []⟩ open_enm f1 q1
    simp at e0 e1
    subst e0 e1
    refine ⟨v0, v1, ⟨l0, l1⟩, ?_, ⟨r0, r1⟩, k0, k1, b0, b1⟩
    cases v <;> simp [Value.cells] at hcs
    rename_i cs
    have : cs = #[v0, v1] := by cases cs; simp_all
    rw [this]
theorem GOk.fits {g : GI} (h : GOk g) : Fits g := by
  have hm : maxLen ≤ 9223372036854775807 := by unfold maxLen; omega
  exact ⟨fun m hm' => ⟨Nat.le_trans (h.1 m hm').1 hm, fun f hf => Nat.le_trans ((h.1 m hm').2.1 f hf).1 hm⟩, fun e he => ⟨Nat.le_trans (h.2.1 e he).1 hm, fun i hi => Nat.le_trans ((h.2.1 e he).2.1 i hi).1 hm⟩⟩
end

end L
end Go.Proofs.YtelmjekjohbmjaaGreatDoor

/- How great a body is. -/
namespace Go.Proofs.YtelmjekjohbmjaaGreatDoor
namespace L
open Go.RowKit

/-- How great a value is, and what it holds. -/
def RecOk (r : RI) : Prop := I64 r.number ∧ I64 r.how ∧ r.bits < 18446744073709551616 ∧ r.bytes.length * 1 ≤ reachBytes
def VOk {β : Type} (Q : β → Prop) (v : VI β) : Prop := I64 v.number ∧ (∀ n ∈ v.bits, n < 18446744073709551616) ∧ v.bits.length * 8 ≤ reachBytes ∧ (∀ l ∈ v.bytes, l.length * 1 ≤ reachBytes) ∧ v.bytes.length * 24 ≤ reachBytes ∧ (∀ s ∈ v.subs, Q s) ∧ v.subs.length * 48 ≤ reachBytes
def BOk : (d : Nat) → BI d → Prop
  | 0 => fun _ => False
  | d + 1 => fun b => (∀ v ∈ BO.vals b, VOk (BOk d) v) ∧ (BO.vals b).length * 80 ≤ reachBytes ∧ (∀ r ∈ BO.unk b, RecOk r) ∧ (BO.unk b).length * 48 ≤ reachBytes

end L
end Go.Proofs.YtelmjekjohbmjaaGreatDoor

/- The contracts of Field, valueAt, placeOf and Fits. -/
namespace Go.Proofs.YtelmjekjohbmjaaGreatDoor
namespace L
open Go.RowKit

set_option maxHeartbeats 1000000 in
set_option maxRecDepth 100000 in
theorem fld1_call {w : World} {c : Nat} {x : Int} (hc : w.heap[c]? = some (.cells #[.int .i64 x] 3 (0, 0))) (f : FI) :
    Calls Tryz.prog 39 #[.agg #[.string (S f.name), .int .i64 f.number, .int .i64 f.kind, .string (S f.type), .bool f.many, .int .i64 f.choice], .pointer (some ⟨c, 0, none⟩)] w fun e w' => e = .returned (.bool (decide (f.number = x))) ∧ Below w.heap.size w w' := by
  have c0 : w.cell? ⟨c, 0, none⟩ = some (.int .i64 x) := cell_of_blk hc 0 _ rfl
  have hcl : c < w.heap.size := (Array.getElem?_eq_some_iff.1 hc).1
  have hba := (Below.refl w.heap.size w).alloc (Nat.le_refl _) (.cells #[.string (S f.name), .int .i64 f.number, .int .i64 f.kind, .string (S f.type), .bool f.many, .int .i64 f.choice] 53)
  obtain ⟨q, Hq⟩ : ∃ q, Hid (q = decide (f.number = x)) := ⟨_, rfl⟩
  have hq : (f.number == x) = q := by rw [Hq.out, Bool.eq_iff_iff]; simp
  rw [← Hq.out]
  go_enter Tryz.func39, Tryz.ntmps39
  go_wp2
  go_ret
  exact ⟨rfl, hba⟩
set_option maxHeartbeats 1000000 in
set_option maxRecDepth 100000 in
theorem fldIdx_any {v : Value} {l : List FI} {w : World} {c : Nat} {x : Int} (h : RdL 6 FAt w v l) (hc : w.heap[c]? = some (.cells #[.int .i64 x] 3 (0, 0))) :
    Calls Tryz.prog 38 #[v, .func (.func 39) #[] #[.pointer (some ⟨c, 0, none⟩)]] w fun e w' => e = .returned (.int .i64 (firstI (fun f => decide (f.number = x)) l)) ∧ Below w.heap.size w w' := by
  obtain ⟨ao, n, cap, rfl, Hn, hcap⟩ := h.shape
  go_enter Tryz.func38, Tryz.ntmps38
  go_wp2_with fail
  go_loopg [8] n (fun m i wr => ∃ k : Nat, k + m = n ∧ i = .int .i64 k ∧ Hid (∀ a ∈ l.take k, decide (a.number = x) = false) ∧ Below w.heap.size w wr)
  case atStart => exact ⟨0, by omega, rfl, by show ∀ a ∈ _, _; simp, Below.refl _ _⟩
  case round =>
    obtain ⟨k, hk, rfl, HK, hb⟩ := hrel
    have hcr := (hb.block c (Array.getElem?_eq_some_iff.1 hc).1).trans hc
    by_cases hlt : k < n
    · obtain ⟨a, Ha⟩ : ∃ a, Hid (l[k]? = some a) := ⟨l[k]'(by rw [← Hn.out]; exact hlt), List.getElem?_eq_getElem (by rw [← Hn.out]; exact hlt)⟩
      obtain ⟨b, off, rfl, hat⟩ := (h.below FAt.stays hb).get FAt.plain Ha.out
      obtain ⟨s0, s1, s2, s3, s4, s5⟩ := hat.at
      have hki : (k : Int) < (n : Int) := by omega
      have hcall := fld1_call hcr a
      cases hq : decide (a.number = x) with
      | true =>
        have HF : Hid (firstI (fun f => decide (f.number = x)) l = (k : Int)) := first_at Ha.out HK.out hq
        rw [hq] at hcall
        clear hq hat
        go_wp2_with fail
        refine hcall.mono ?_
        rintro e w1 ⟨rfl, hb1⟩
        go_wp2
        go_ret
        exact ⟨by rw [HF.out]; rfl, hb.trans (hb1.mono hb.size)⟩
      | false =>
        have HX : Hid (∀ a ∈ l.take (k + 1), decide (a.number = x) = false) := by
          show ∀ a ∈ _, _
          rw [take_snoc Ha.out]
          intro y hy
          rcases List.mem_append.1 hy with hy | hy
          · exact HK.out y hy
          · rw [List.mem_singleton] at hy; rw [hy]; exact hq
        rw [hq] at hcall
        clear hq hat
        go_wp2_with fail
        refine hcall.mono ?_
        rintro e w1 ⟨rfl, hb1⟩
        go_wp2_with fail
        go_roundg (n - (k + 1))
        case measure => omega
        case rel => exact ⟨k + 1, by omega, by go_num, HX, hb.trans (hb1.mono hb.size)⟩
    · have HF : Hid (firstI (fun f => decide (f.number = x)) l = -1) := by
        have := HK.out
        rw [List.take_of_length_le (by rw [← Hn.out]; omega)] at this
        exact first_none this
      go_wp2
      go_ret
      exact ⟨by rw [HF.out]; rfl, hb⟩
set_option maxHeartbeats 1000000 in
set_option maxRecDepth 100000 in
theorem field_any {nm vf vb : Value} {l : List FI} {w : World} (h : RdL 6 FAt w vf l) (hvb : ∃ ao n cap, vb = .slice ao n cap) (hnm : ∃ s : List UInt8, nm = .string (S s)) (x : Int) :
    Calls Tryz.prog 16 #[.agg #[nm, vf, vb], .int .i64 x] w fun e w' => e = .returned (.int .i64 (firstI (fun f => decide (f.number = x)) l)) ∧ Below w.heap.size w w' := by
  obtain ⟨ao, n, cap, rfl, Hn, hcap⟩ := h.shape
  obtain ⟨ae, ne, ce, rfl⟩ := hvb
  obtain ⟨s, rfl⟩ := hnm
  have hb2 : Below w.heap.size w ((w.alloc (.cells #[.string (S s), .slice ao n cap, .slice ae ne ce] 48)).alloc (.cells #[.int .i64 x] 3)) := ((Below.refl _ _).alloc (Nat.le_refl _) _).alloc (by simp) _
  have hi := fldIdx_any (h.below FAt.stays hb2) (alloc2_new w _ _)
  have hmf := makeF
  go_enter Tryz.func16, Tryz.ntmps16
  go_wp2_with fail
  refine hi.mono ?_
  rintro e w1 ⟨rfl, hb1⟩
  go_wp2
  go_ret
  exact ⟨rfl, hb2.trans (hb1.mono hb2.size)⟩

set_option maxHeartbeats 1000000 in
set_option maxRecDepth 100000 in
theorem val1_call {β : Type} {w : World} {c : Nat} {x : Int} (hc : w.heap[c]? = some (.cells #[.int .i64 x] 3 (0, 0))) (v : VI β) (a1 : Option Addr) (n1 c1 : Nat) (a2 : Option Addr) (n2 c2 : Nat) (a3 : Option Addr) (n3 c3 : Nat) :
    Calls Tryz.prog 69 #[.agg #[.int .i64 v.number, .slice a1 n1 c1, .slice a2 n2 c2, .slice a3 n3 c3], .pointer (some ⟨c, 0, none⟩)] w fun e w' => e = .returned (.bool (decide (v.number = x))) ∧ Below w.heap.size w w' := by
  have c0 : w.cell? ⟨c, 0, none⟩ = some (.int .i64 x) := cell_of_blk hc 0 _ rfl
  have hcl : c < w.heap.size := (Array.getElem?_eq_some_iff.1 hc).1
  have hba := (Below.refl w.heap.size w).alloc (Nat.le_refl _) (.cells #[.int .i64 v.number, .slice a1 n1 c1, .slice a2 n2 c2, .slice a3 n3 c3] 34)
  obtain ⟨q, Hq⟩ : ∃ q, Hid (q = decide (v.number = x)) := ⟨_, rfl⟩
  have hq : (v.number == x) = q := by rw [Hq.out, Bool.eq_iff_iff]; simp
  rw [← Hq.out]
  go_enter Tryz.func69, Tryz.ntmps69
  go_wp2
  go_ret
  exact ⟨rfl, hba⟩
set_option maxHeartbeats 1000000 in
set_option maxRecDepth 100000 in
theorem valIdx_any {β : Type} {P : World → Addr → β → Prop} (hP : Stays P) {v : Value} {l : List (VI β)} {w : World} {c : Nat} {x : Int} (h : RdL 4 (VAt P) w v l) (hc : w.heap[c]? = some (.cells #[.int .i64 x] 3 (0, 0))) :
    Calls Tryz.prog 68 #[v, .func (.func 69) #[] #[.pointer (some ⟨c, 0, none⟩)]] w fun e w' => e = .returned (.int .i64 (firstI (fun v => decide (v.number = x)) l)) ∧ Below w.heap.size w w' := by
  obtain ⟨ao, n, cap, rfl, Hn, hcap⟩ := h.shape
  go_enter Tryz.func68, Tryz.ntmps68
  go_wp2_with fail
  go_loopg [8] n (fun m i wr => ∃ k : Nat, k + m = n ∧ i = .int .i64 k ∧ Hid (∀ a ∈ l.take k, decide (a.number = x) = false) ∧ Below w.heap.size w wr)
  case atStart => exact ⟨0, by omega, rfl, by show ∀ a ∈ _, _; simp, Below.refl _ _⟩
  case round =>
    obtain ⟨k, hk, rfl, HK, hb⟩ := hrel
    have hcr := (hb.block c (Array.getElem?_eq_some_iff.1 hc).1).trans hc
    by_cases hlt : k < n
    · obtain ⟨a, Ha⟩ : ∃ a, Hid (l[k]? = some a) := ⟨l[k]'(by rw [← Hn.out]; exact hlt), List.getElem?_eq_getElem (by rw [← Hn.out]; exact hlt)⟩
      obtain ⟨b, off, rfl, hat⟩ := (h.below (VAt.stays hP) hb).get VAt.plain Ha.out
      obtain ⟨v1, v2, v3, s0, s1, s2, s3, r1, r2, r3⟩ := hat.at
      obtain ⟨a1, n1, c1, rfl, _, _⟩ := r1.shape
      obtain ⟨a2, n2, c2, rfl, _, _⟩ := r2.shape
      obtain ⟨a3, n3, c3, rfl, _, _⟩ := r3.shape
      have hki : (k : Int) < (n : Int) := by omega
      have hcall := val1_call hcr a a1 n1 c1 a2 n2 c2 a3 n3 c3
      cases hq : decide (a.number = x) with
      | true =>
        have HF : Hid (firstI (fun v => decide (v.number = x)) l = (k : Int)) := first_at Ha.out HK.out hq
        rw [hq] at hcall
        clear hq hat r1 r2 r3
        go_wp2_with fail
        refine hcall.mono ?_
        rintro e w1 ⟨rfl, hb1⟩
        go_wp2
        go_ret
        exact ⟨by rw [HF.out]; rfl, hb.trans (hb1.mono hb.size)⟩
      | false =>
        have HX : Hid (∀ a ∈ l.take (k + 1), decide (a.number = x) = false) := by
          show ∀ a ∈ _, _
          rw [take_snoc Ha.out]
          intro y hy
          rcases List.mem_append.1 hy with hy | hy
          · exact HK.out y hy
          · rw [List.mem_singleton] at hy; rw [hy]; exact hq
        rw [hq] at hcall
        clear hq hat r1 r2 r3
        go_wp2_with fail
        refine hcall.mono ?_
        rintro e w1 ⟨rfl, hb1⟩
        go_wp2_with fail
        go_roundg (n - (k + 1))
        case measure => omega
        case rel => exact ⟨k + 1, by omega, by go_num, HX, hb.trans (hb1.mono hb.size)⟩
    · have HF : Hid (firstI (fun v => decide (v.number = x)) l = -1) := by
        have := HK.out
        rw [List.take_of_length_le (by rw [← Hn.out]; omega)] at this
        exact first_none this
      go_wp2
      go_ret
      exact ⟨by rw [HF.out]; rfl, hb⟩
set_option maxHeartbeats 1000000 in
set_option maxRecDepth 100000 in
theorem valueAt_any {β : Type} {P : World → Addr → β → Prop} (hP : Stays P) {v0 v1 : Value} {l : List (VI β)} {w : World} (h : RdL 4 (VAt P) w v0 l) (hv1 : ∃ ao n cap, v1 = .slice ao n cap) (x : Int) :
    Calls Tryz.prog 37 #[.agg #[v0, v1], .int .i64 x] w fun e w' => e = .returned (.int .i64 (firstI (fun v => decide (v.number = x)) l)) ∧ Below w.heap.size w w' := by
  obtain ⟨ao, n, cap, rfl, Hn, hcap⟩ := h.shape
  obtain ⟨ae, ne, ce, rfl⟩ := hv1
  have hb2 : Below w.heap.size w ((w.alloc (.cells #[.slice ao n cap, .slice ae ne ce] 29)).alloc (.cells #[.int .i64 x] 3)) := ((Below.refl _ _).alloc (Nat.le_refl _) _).alloc (by simp) _
  have hi := valIdx_any hP (h.below (VAt.stays hP) hb2) (alloc2_new w _ _)
  have hmf := makeF
  go_enter Tryz.func37, Tryz.ntmps37
  go_wp2_with fail
  refine hi.mono ?_
  rintro e w1 ⟨rfl, hb1⟩
  go_wp2
  go_ret
  exact ⟨rfl, hb2.trans (hb1.mono hb2.size)⟩

end L
end Go.Proofs.YtelmjekjohbmjaaGreatDoor

/- choicesOf: for each number the choice of the field that has it first. -/
namespace Go.Proofs.YtelmjekjohbmjaaGreatDoor
namespace L
open Go.RowKit Go.WideMaps Go.Maps

theorem keyedN : Keyed Tryz.prog 3 := int_keyed Tryz.underlying3
theorem zeroN (w : World) : (zeroValue 3).run Tryz.prog w = .ok (.int .i64 0) w := by kernel_rfl
/-- A map of numbers. -/
abbrev OwnM (w : World) (b n : Nat) (D : DataW Unit) : Prop := w.ownsMap Tryz.prog 3 (plainElem (H := Unit) Tryz.prog 3) b n D
theorem OwnM.below {w w' : World} {b n : Nat} {D : DataW Unit} (h : OwnM w b n D) (hb : Below w.heap.size w w') : OwnM w' b n D := by
  have hlt := h.lt
  obtain ⟨es, clock, h1, F, hs, hD⟩ := h
  exact ⟨es, clock, (hb.block b hlt).trans h1, F, hs, hD⟩
theorem OwnM.block {w w' : World} {b n : Nat} {D : DataW Unit} (h : OwnM w b n D) (hb : w'.heap[b]? = w.heap[b]?) : OwnM w' b n D := by
  obtain ⟨es, clock, h1, F, hs, hD⟩ := h
  exact ⟨es, clock, hb.trans h1, F, hs, hD⟩
def choiceF (l : List FI) (x : Int) : Int := match l.find? (fun f => decide (f.number = x)) with | some f => f.choice | none => 0
/-- The map tells the choice of the first field of each number. -/
def ChD (D : DataW Unit) (l : List FI) : Prop := ∀ x : Int, D.atKey (.int .i64 x) (.lit (.int .i64 0)) = .lit (.int .i64 (choiceF l x)) ∧ Maps.has D (.int .i64 x) = l.any fun f => decide (f.number = x)
theorem ChD.nil : ChD (.map []) [] := fun _ => ⟨rfl, rfl⟩
theorem ChD.put {D : DataW Unit} {l : List FI} {f : FI} (h : ChD D l) (hD : IsMap D) (hf : (l.any fun g => decide (g.number = f.number)) = false) : ChD (D.put (.int .i64 f.number) (.lit (.int .i64 f.choice))) (l ++ [f]) := by
  intro x
  by_cases e : x = f.number
  · subst e
    rw [atKey_put_same hD (show WideAt.IsKeyLit (.int .i64 f.number) from trivial), has_put_same hD (show WideAt.IsKeyLit (.int .i64 f.number) from trivial)]
    have h1 : l.find? (fun g => decide (g.number = f.number)) = none := by
      rw [List.find?_eq_none]
      intro y hy
      rw [List.any_eq_false] at hf
      exact hf y hy
    refine ⟨?_, by simp⟩
    unfold choiceF
    rw [List.find?_append, h1]
    simp
  · have e' : ¬ f.number = x := fun h => e h.symm
    rw [atKey_put_other (by simpa using e), has_put_other (by simpa using e), (h x).1, (h x).2]
    unfold choiceF
    rw [List.find?_append, List.any_append]
    simp [e']
theorem ChD.skip {D : DataW Unit} {l : List FI} {f : FI} (h : ChD D l) (hf : (l.any fun g => decide (g.number = f.number)) = true) : ChD D (l ++ [f]) := by
  intro x
  rw [(h x).1, (h x).2]
  unfold choiceF
  rw [List.find?_append, List.any_append]
  by_cases e : f.number = x
  · subst e
    rw [List.any_eq_true] at hf
    obtain ⟨y, hy, hq⟩ := hf
    cases h1 : l.find? (fun g => decide (g.number = f.number)) with
    | none => rw [List.find?_eq_none] at h1; exact absurd hq (h1 y hy)
    | some z => exact ⟨by simp, by simp; exact ⟨y, hy, of_decide_eq_true hq⟩⟩
  · simp [e]
theorem ChD.get {D : DataW Unit} {l : List FI} {x c : Int} (h : ChD D l) (hc : D.atKey (.int .i64 x) (.lit (.int .i64 0)) = .lit (.int .i64 c)) : c = choiceF l x := by
  have := (h x).1.symm.trans hc
  injection this with h1
  injection h1 with _ h2
  exact h2.symm

set_option maxHeartbeats 4000000 in
set_option maxRecDepth 100000 in
theorem choicesOf_any {nm vf vb : Value} {l : List FI} {w : World} (h : RdL 6 FAt w vf l) (hvb : ∃ ao n cap, vb = .slice ao n cap) (hnm : ∃ s : List UInt8, nm = .string (S s)) (hok : ∀ f ∈ l, I64 f.number ∧ I64 f.choice) (hl : l.length ≤ 140737488355328) :
    Calls Tryz.prog 111 #[.agg #[nm, vf, vb]] w fun e w' => ∃ b D, e = .returned (.map (some b)) ∧ w.heap.size ≤ b ∧ OwnM w' b l.length D ∧ ChD D l ∧ Below w.heap.size w w' := by
  obtain ⟨ao, n, cap, rfl, Hn, hcap⟩ := h.shape
  obtain ⟨ae, ne, ce, rfl⟩ := hvb
  obtain ⟨s, rfl⟩ := hnm
  have hmm := @run_makeMap Tryz.prog
  have hn : n ≤ 140737488355328 := by rw [Hn.out]; exact hl
  obtain ⟨W2, HW2⟩ : ∃ W2, Hid (W2 = w.alloc (.cells #[.string (S s), .slice ao n cap, .slice ae ne ce] 48)) := ⟨_, rfl⟩
  have hb2 : Below w.heap.size w W2 := by rw [HW2.out]; exact (Below.refl _ _).alloc (Nat.le_refl _) _
  have hz2 : W2.heap.size = w.heap.size + 1 := by rw [HW2.out]; simp
  obtain ⟨B, HB⟩ : ∃ B, Hid (B = w.heap.size + 1) := ⟨_, rfl⟩
  have hB1 : B ≤ w.heap.size + 1 := Nat.le_of_eq HB.out
  have hB2 : w.heap.size + 1 ≤ B := Nat.le_of_eq HB.out.symm
  have hM0 : OwnM (W2.alloc (.map #[] 0)) B 0 (.map []) := by
    have := World.ownsMap_made W2 Tryz.prog 3 (plainElem (H := Unit) Tryz.prog 3)
    rw [hz2, ← HB.out] at this
    exact this
  have hb3 : Below B W2 (W2.alloc (.map #[] 0)) := (Below.refl _ _).alloc (by omega) _
  obtain ⟨W3, HW3⟩ : ∃ W3, Hid (W3 = W2.alloc (.map #[] 0)) := ⟨_, rfl⟩
  rw [← HW3.out] at hM0 hb3
  have hcl : ∀ V, Below B W2 V → Below w.heap.size w V := fun V hV => hb2.trans (hV.mono (by omega))
  have hz2' := Nat.le_of_eq hz2
  clear hz2
  go_enter Tryz.func111, Tryz.ntmps111
  go_wp2_with fail
  rw [← HW2.out, ← HW3.out, ← HB.out]
  go_loopg [12] n (fun gm i wr => ∃ (k : Nat) (D : DataW Unit), k + gm = n ∧ i = .int .i64 k ∧ OwnM wr B k D ∧ ChD D (l.take k) ∧ Below B W2 wr)
  case atStart => exact ⟨0, .map [], by omega, rfl, hM0, by rw [List.take_zero]; exact ChD.nil, hb3⟩
  case round =>
    obtain ⟨k, D, hk, rfl, hown, hch, hbr⟩ := hrel
    by_cases hlt : k < n
    · obtain ⟨a, Ha⟩ : ∃ a, Hid (l[k]? = some a) := ⟨l[k]'(by rw [← Hn.out]; exact hlt), List.getElem?_eq_getElem (by rw [← Hn.out]; exact hlt)⟩
      obtain ⟨b, off, rfl, hat⟩ := (h.below FAt.stays (hcl wr hbr)).get FAt.plain Ha.out
      obtain ⟨s0, s1, s2, s3, s4, s5⟩ := hat.at
      have hki : (k : Int) < (n : Int) := by omega
      obtain ⟨i1, i2⟩ := hok a (List.mem_of_getElem? Ha.out)
      have hkey : keyOf Tryz.prog 3 (.int .i64 a.number) = some (.int .i64 a.number) := keyOf_int_mk Tryz.underlying3 (WalkArith.wf_i64 i1)
      have hval : plainElem (H := Unit) Tryz.prog 3 (.int .i64 a.choice) = some (.lit (.int .i64 a.choice), []) := plainElem_int Tryz.underlying3 (WalkArith.wf_i64 i2)
      obtain ⟨Wm, HWm⟩ : ∃ Wm, Hid (Wm = wr.alloc (.cells #[.string (S a.name), .int .i64 a.number, .int .i64 a.kind, .string (S a.type), .bool a.many, .int .i64 a.choice] 53)) := ⟨_, rfl⟩
      have hbm : Below wr.heap.size wr Wm := by rw [HWm.out]; exact (Below.refl _ _).alloc (Nat.le_refl _) _
      have hzB := hown.lt
      have hbrm : Below B W2 Wm := hbr.trans (hbm.mono (by omega))
      have hownm := hown.below hbm
      have hm1 := hownm.isMap
      obtain ⟨v, ps, hrun, hv⟩ := hownm.look_ok keyedN Tryz.underlying150 (zeroN _) (plainElem_int Tryz.underlying3 (WalkArith.wf_i64 (by omega))) hkey
      obtain ⟨c, rfl, _, _⟩ := plainElem_int_inv Tryz.underlying3 hv
      rw [(hch a.number).2] at hrun
      cases hq : (l.take k).any (fun f => decide (f.number = a.number)) with
      | true =>
        have HX : ChD D (l.take (k + 1)) := by rw [take_snoc Ha.out]; exact hch.skip hq
        rw [hq, HWm.out] at hrun
        clear hq hat hch hv hown
        go_wp2_with fail
        rw [← HWm.out]
        go_roundg (n - (k + 1))
        case measure => omega
        case rel => exact ⟨k + 1, D, by omega, by go_num, hownm.mono (by omega), HX, hbrm⟩
      | false =>
        have HX : ChD (D.put (.int .i64 a.number) (.lit (.int .i64 a.choice))) (l.take (k + 1)) := by rw [take_snoc Ha.out]; exact hch.put hm1 hq
        rw [hq, HWm.out] at hrun
        clear hq hat hch hv hown
        rw [HWm.out] at hownm
        go_wp2_with (at_mapUpdate; refine wpList_mapUpdate_own _ rfl _ _ _ 150 rfl 3 3 keyedN Tryz.underlying150 _ B k _ rfl hownm (by unfold maxLen; omega) _ _ _ rfl rfl hkey _ [] hval ?_)
        intro w1 hown1 hg1
        rw [← HWm.out] at hg1
        have hB1w : Below B W2 w1 := hbrm.grown hg1 (by have := hbm.size; omega) (fun j hj => by cases hj; exact Nat.le_refl _)
        clear hrun hownm
        go_wp2_with fail
        go_roundg (n - (k + 1))
        case measure => omega
        case rel => exact ⟨k + 1, _, by omega, by go_num, hown1, HX, hB1w⟩
    · have HT : Hid (l.take k = l) := List.take_of_length_le (by rw [← Hn.out]; omega)
      have hkl : Hid (k = l.length) := (show k = l.length by rw [← Hn.out]; omega)
      go_wp2
      go_ret
      exact ⟨B, D, rfl, by omega, by rw [← hkl.out]; exact hown, by rw [HT.out] at hch; exact hch, hcl _ hbr⟩

end L
end Go.Proofs.YtelmjekjohbmjaaGreatDoor

/- The contracts of Fits, asWithout, hasOthers, miscounted. -/
namespace Go.Proofs.YtelmjekjohbmjaaGreatDoor
namespace L
open Go.RowKit

/-- A number of 32 bits with a sign, as 64 bits. -/
def enumB (n : Nat) : Bool := decide (n < 2147483648) || decide (18446744071562067968 ≤ n)
def fitsI (kind : Int) (n : Nat) : Int :=
  if kind = 1 ∨ kind = 2 ∨ kind = 3 ∨ kind = 6 then 0
  else if kind = 4 then (if n ≤ 1 then 0 else 3)
  else if kind = 5 then (if enumB n then 0 else 3)
  else if kind = 7 then (if n ≤ 4294967295 then 0 else 3)
  else 1
theorem enum_wrap (n : Nat) (hn : n < 18446744073709551616) : (IntKind.u64.wrap (wrap32 (n : Int)) == (n : Int)) = enumB n := by
  have e : IntKind.u64.wrap (wrap32 (n : Int)) = wrap32 (n : Int) % 18446744073709551616 := by simp [IntKind.wrap, IntKind.bits, IntKind.signed]
  rw [e, Bool.eq_iff_iff]
  unfold wrap32 enumB
  simp
  omega

set_option maxHeartbeats 1000000 in
set_option maxRecDepth 100000 in
theorem fits_any {w : World} (kind : Int) (n : Nat) (hn : n < 18446744073709551616) :
    Calls Tryz.prog 6 #[.int .i64 kind, .int .u64 (n : Int)] w fun e w' => e = .returned (.int .i64 (fitsI kind n)) ∧ w = w' := by
  have hw := enum_wrap n hn
  by_cases h5 : kind = 5
  · subst h5
    cases hq : enumB n with
    | true =>
      have HR : Hid (fitsI 5 n = 0) := by show _ = _; unfold fitsI; simp [hq]
      rw [hq] at hw
      clear hq
      go_enter Tryz.func6, Tryz.ntmps6
      go_wp2
      go_ret
      exact ⟨by rw [HR.out]; rfl, rfl⟩
    | false =>
      have HR : Hid (fitsI 5 n = 3) := by show _ = _; unfold fitsI; simp [hq]
      rw [hq] at hw
      clear hq
      go_enter Tryz.func6, Tryz.ntmps6
      go_wp2
      go_ret
      exact ⟨by rw [HR.out]; rfl, rfl⟩
  clear hw
  by_cases h4 : kind = 4
  · subst h4
    by_cases hq : n ≤ 1
    · have HR : Hid (fitsI 4 n = 0) := by show _ = _; unfold fitsI; simp [hq]
      have hq' : decide ((n : Int) ≤ 1) = true := by simp; omega
      clear hq
      go_enter Tryz.func6, Tryz.ntmps6
      go_wp2
      go_ret
      exact ⟨by rw [HR.out]; rfl, rfl⟩
    · have HR : Hid (fitsI 4 n = 3) := by show _ = _; unfold fitsI; simp [hq]
      have hq' : decide ((n : Int) ≤ 1) = false := by simp; omega
      clear hq
      go_enter Tryz.func6, Tryz.ntmps6
      go_wp2
      go_ret
      exact ⟨by rw [HR.out]; rfl, rfl⟩
  by_cases h7 : kind = 7
  · subst h7
    by_cases hq : n ≤ 4294967295
    · have HR : Hid (fitsI 7 n = 0) := by show _ = _; unfold fitsI; simp [hq]
      have hq' : decide ((n : Int) ≤ 4294967295) = true := by simp; omega
      clear hq
      go_enter Tryz.func6, Tryz.ntmps6
      go_wp2
      go_ret
      exact ⟨by rw [HR.out]; rfl, rfl⟩
    · have HR : Hid (fitsI 7 n = 3) := by show _ = _; unfold fitsI; simp [hq]
      have hq' : decide ((n : Int) ≤ 4294967295) = false := by simp; omega
      clear hq
      go_enter Tryz.func6, Tryz.ntmps6
      go_wp2
      go_ret
      exact ⟨by rw [HR.out]; rfl, rfl⟩
  by_cases h0 : kind = 1 ∨ kind = 2 ∨ kind = 3 ∨ kind = 6
  · have HR : Hid (fitsI kind n = 0) := by show _ = _; unfold fitsI; rw [if_pos h0]
    clear h5 h4 h7
    rcases h0 with rfl | rfl | rfl | rfl
    all_goals
      go_enter Tryz.func6, Tryz.ntmps6
      go_wp2
      go_ret
      exact ⟨by rw [HR.out]; rfl, rfl⟩
  · have HR : Hid (fitsI kind n = 1) := by show _ = _; unfold fitsI; rw [if_neg h0, if_neg h4, if_neg h5, if_neg h7]
    have e1 : (kind == 1) = false := by simp; omega
    have e2 : (kind == 2) = false := by simp; omega
    have e3 : (kind == 3) = false := by simp; omega
    have e4 : (kind == 4) = false := by simpa using h4
    have e5 : (kind == 5) = false := by simpa using h5
    have e6 : (kind == 6) = false := by simp; omega
    have e7 : (kind == 7) = false := by simpa using h7
    clear h0 h4 h5 h7
    go_enter Tryz.func6, Tryz.ntmps6
    go_wp2
    go_ret
    exact ⟨by rw [HR.out]; rfl, rfl⟩

/-- How many there are of all. -/
def manyN {β : Type} (v : VI β) : Nat := v.bits.length + v.bytes.length + v.subs.length
def othersB {β : Type} (x : FI) (v : VI β) : Bool :=
  if x.kind = 8 ∨ x.kind = 9 then decide (0 < v.bits.length + v.subs.length)
  else if x.kind = 10 then decide (0 < v.bits.length + v.bytes.length)
  else decide (0 < v.bytes.length + v.subs.length)
def miscB {β : Type} (x : FI) (v : VI β) : Bool := decide (manyN v < 1) || (decide (60 < manyN v) || (decide (1 < manyN v) && !x.many))

end L
end Go.Proofs.YtelmjekjohbmjaaGreatDoor

/- The contracts of hasOthers and miscounted. -/
namespace Go.Proofs.YtelmjekjohbmjaaGreatDoor
namespace L
open Go.RowKit

def vFI (x : FI) : Value := .agg #[.string (S x.name), .int .i64 x.number, .int .i64 x.kind, .string (S x.type), .bool x.many, .int .i64 x.choice]

set_option maxHeartbeats 1000000 in
set_option maxRecDepth 100000 in
theorem others_any {β : Type} {w : World} (x : FI) (v : VI β) {a1 a2 a3 : Option Addr} {n1 n2 n3 c1 c2 c3 : Nat} (H1 : Hid (n1 = v.bits.length)) (H2 : Hid (n2 = v.bytes.length)) (H3 : Hid (n3 = v.subs.length)) (b1 : n1 ≤ 140737488355328) (b2 : n2 ≤ 140737488355328) (b3 : n3 ≤ 140737488355328) :
    Calls Tryz.prog 93 #[vFI x, .agg #[.int .i64 v.number, .slice a1 n1 c1, .slice a2 n2 c2, .slice a3 n3 c3]] w fun e w' => e = .returned (.bool (othersB x v)) ∧ Below w.heap.size w w' := by
  have hb2 : Below w.heap.size w ((w.alloc (.cells #[.string (S x.name), .int .i64 x.number, .int .i64 x.kind, .string (S x.type), .bool x.many, .int .i64 x.choice] 53)).alloc (.cells #[.int .i64 v.number, .slice a1 n1 c1, .slice a2 n2 c2, .slice a3 n3 c3] 34)) := ((Below.refl _ _).alloc (Nat.le_refl _) _).alloc (by simp) _
  unfold vFI
  by_cases h8 : x.kind = 8
  · have HR : Hid (othersB x v = decide ((0 : Int) < (n1 : Int) + (n3 : Int))) := by
      show _ = _; unfold othersB; rw [if_pos (Or.inl h8), H1.out, H3.out]; exact decide_eq_decide.2 (by omega)
    have e8 : (x.kind == 8) = true := by simp [h8]
    clear h8
    go_enter Tryz.func93, Tryz.ntmps93
    go_wp2
    go_ret
    exact ⟨by rw [HR.out]; rfl, hb2⟩
  have e8 : (x.kind == 8) = false := by simpa using h8
  by_cases h9 : x.kind = 9
  · have HR : Hid (othersB x v = decide ((0 : Int) < (n1 : Int) + (n3 : Int))) := by
      show _ = _; unfold othersB; rw [if_pos (Or.inr h9), H1.out, H3.out]; exact decide_eq_decide.2 (by omega)
    have e9 : (x.kind == 9) = true := by simp [h9]
    clear h8 h9
    go_enter Tryz.func93, Tryz.ntmps93
    go_wp2
    go_ret
    exact ⟨by rw [HR.out]; rfl, hb2⟩
  have e9 : (x.kind == 9) = false := by simpa using h9
  by_cases h10 : x.kind = 10
  · have HR : Hid (othersB x v = decide ((0 : Int) < (n1 : Int) + (n2 : Int))) := by
      show _ = _; unfold othersB; rw [if_neg (by omega), if_pos h10, H1.out, H2.out]; exact decide_eq_decide.2 (by omega)
    have e10 : (x.kind == 10) = true := by simp [h10]
    clear h8 h9 h10
    go_enter Tryz.func93, Tryz.ntmps93
    go_wp2
    go_ret
    exact ⟨by rw [HR.out]; rfl, hb2⟩
  · have HR : Hid (othersB x v = decide ((0 : Int) < (n2 : Int) + (n3 : Int))) := by
      show _ = _; unfold othersB; rw [if_neg (by omega), if_neg h10, H2.out, H3.out]; exact decide_eq_decide.2 (by omega)
    have e10 : (x.kind == 10) = false := by simpa using h10
    clear h8 h9 h10
    go_enter Tryz.func93, Tryz.ntmps93
    go_wp2
    go_ret
    exact ⟨by rw [HR.out]; rfl, hb2⟩

set_option maxHeartbeats 1000000 in
set_option maxRecDepth 100000 in
theorem misc_any {β : Type} {w : World} (x : FI) (v : VI β) {a1 a2 a3 : Option Addr} {n1 n2 n3 c1 c2 c3 : Nat} (H1 : Hid (n1 = v.bits.length)) (H2 : Hid (n2 = v.bytes.length)) (H3 : Hid (n3 = v.subs.length)) (b1 : n1 ≤ 140737488355328) (b2 : n2 ≤ 140737488355328) (b3 : n3 ≤ 140737488355328) :
    Calls Tryz.prog 94 #[vFI x, .agg #[.int .i64 v.number, .slice a1 n1 c1, .slice a2 n2 c2, .slice a3 n3 c3]] w fun e w' => e = .returned (.bool (miscB x v)) ∧ Below w.heap.size w w' := by
  have hb2 : Below w.heap.size w ((w.alloc (.cells #[.string (S x.name), .int .i64 x.number, .int .i64 x.kind, .string (S x.type), .bool x.many, .int .i64 x.choice] 53)).alloc (.cells #[.int .i64 v.number, .slice a1 n1 c1, .slice a2 n2 c2, .slice a3 n3 c3] 34)) := ((Below.refl _ _).alloc (Nat.le_refl _) _).alloc (by simp) _
  have hm : manyN v = n1 + n2 + n3 := by unfold manyN; rw [H1.out, H2.out, H3.out]
  unfold vFI
  by_cases h1 : n1 + n2 + n3 < 1
  · have HR : Hid (miscB x v = true) := by show _ = _; unfold miscB; rw [hm]; simp; omega
    have d1 : decide ((n1 : Int) + (n2 : Int) + (n3 : Int) < 1) = true := by simp; omega
    clear hm h1
    go_enter Tryz.func94, Tryz.ntmps94
    go_wp2
    go_ret
    exact ⟨by rw [HR.out]; rfl, hb2⟩
  have d1 : decide ((n1 : Int) + (n2 : Int) + (n3 : Int) < 1) = false := by simp; omega
  by_cases h2 : 60 < n1 + n2 + n3
  · have HR : Hid (miscB x v = true) := by show _ = _; unfold miscB; rw [hm]; simp [h2]
    have d2 : decide ((60 : Int) < (n1 : Int) + (n2 : Int) + (n3 : Int)) = true := by simp; omega
    clear hm h1 h2
    go_enter Tryz.func94, Tryz.ntmps94
    go_wp2
    go_ret
    exact ⟨by rw [HR.out]; rfl, hb2⟩
  have d2 : decide ((60 : Int) < (n1 : Int) + (n2 : Int) + (n3 : Int)) = false := by simp; omega
  by_cases h3 : 1 < n1 + n2 + n3
  · have d3 : decide ((1 : Int) < (n1 : Int) + (n2 : Int) + (n3 : Int)) = true := by simp; omega
    have HR : Hid (miscB x v = !x.many) := by
      show _ = _; unfold miscB; rw [hm, decide_eq_false h1, decide_eq_false h2, decide_eq_true h3]; simp
    clear hm h1 h2 h3
    go_enter Tryz.func94, Tryz.ntmps94
    go_wp2
    go_ret
    exact ⟨by rw [HR.out]; rfl, hb2⟩
  · have d3 : decide ((1 : Int) < (n1 : Int) + (n2 : Int) + (n3 : Int)) = false := by simp; omega
    have HR : Hid (miscB x v = false) := by
      show _ = _; unfold miscB; rw [hm, decide_eq_false h1, decide_eq_false h2, decide_eq_false h3]; simp
    clear hm h1 h2 h3
    go_enter Tryz.func94, Tryz.ntmps94
    go_wp2
    go_ret
    exact ⟨by rw [HR.out]; rfl, hb2⟩

end L
end Go.Proofs.YtelmjekjohbmjaaGreatDoor

/- Appends onto a list of the call's own, of whatever can be read, as long as it may be. -/
namespace Go.Proofs.YtelmjekjohbmjaaGreatDoor
namespace L
open Go.RowKit

section
variable {α : Type} {w : World}
theorem EK.flat_get (E : EK α) {m : List α} {i : Nat} {u : Value} (h : (E.flat m)[i]? = some u) : ∃ y, m[i / E.size]? = some y ∧ (E.enc y)[i % E.size]? = some u := by
  have hi : i < (E.flat m).length := (List.getElem?_eq_some_iff.1 h).1
  rw [E.flat_len] at hi
  have hk : i / E.size < m.length := by rw [Nat.div_lt_iff_lt_mul E.pos]; exact hi
  refine ⟨m[i / E.size], List.getElem?_eq_getElem hk, ?_⟩
  have := E.flat_at m (i / E.size) (i % E.size) _ (List.getElem?_eq_getElem hk) (Nat.mod_lt _ E.pos)
  rw [← this, Nat.mul_comm, Nat.div_add_mod]
  exact h
theorem wp_appG {o : Oper} {a : Act} {K : Act → World → Prop} {Q : Exit → Act → World → Prop} (E : EK α) (s x : Operand)
    (ho : o.op = .call { callee := .builtin .append, args := #[s, x], argTypes := #[E.slice, E.slice] })
    (base : Nat) (v : Value) (l m : List α) (hs : a.eval s = v) (hown : Row E w base v l) (ao : Option Addr) (n cap : Nat) (hx : a.eval x = .slice ao n cap) (hm : m.length = n) (hnil : ao = none → n = 0 ∧ cap = 0)
    (hcell : ∀ ad, ao = some ad → ∀ k y, m[k]? = some y → ∀ j u, (E.enc y)[j]? = some u → w.cell? (ad.add (k * E.size + j)) = some u)
    (hby : 1 ≤ E.bytes) (hlen : (l.length + m.length) * E.bytes ≤ 140737488355328) (hb : base ≤ w.heap.size)
    (h : ∀ v' w', Row E w' base v' (l ++ m) → w.grownBy w' v.ownBlock → K (a.put o.dst v') w') : o.wp Tryz.prog a w K Q := by
  obtain ⟨i0, hi, hz0, hz1, hz2⟩ := info_parts E.info
  have h63 : l.length + m.length ≤ maxLen := by
    have : l.length + m.length ≤ (l.length + m.length) * E.bytes := Nat.le_mul_of_pos_right _ hby
    unfold maxLen; omega
  cases ao with
  | none =>
    obtain ⟨rfl, rfl⟩ := hnil rfl
    have hqs : m = [] := List.eq_nil_of_length_eq_zero hm
    subst hqs
    have hrun := run_append_owned_none (P := Tryz.prog) (w := w) base E.slice o.type E.elem i0 E.size E.under hi v l.length (E.flat l) hown
    unfold Oper.wp
    simp [execOp, ho, resolve, invoke, builtin, hs, hx, hrun, Result.andThen]
    exact h v w (by rw [List.append_nil]; exact hown) ⟨rfl, rfl, rfl, Nat.le_refl _, fun _ _ _ => rfl⟩
  | some ad =>
    refine wp_append_own w s x E.slice ho base E.elem i0 _ E.size E.bytes E.under hi hz0 hz1 hz2 E.zs E.pos v l.length _ hs hown ad n cap
      (E.flat m) hx (by rw [E.flat_len, hm]) ?_ ?_ (by rw [← hm]; exact h63) (by rw [← hm]; exact hlen) hb ?_
    · intro j u hu
      obtain ⟨y, h1, h2⟩ := E.flat_get hu
      have := hcell ad rfl _ y h1 _ u h2
      rwa [Nat.mul_comm, Nat.div_add_mod] at this
    · intro y hy
      simp only [EK.flat, List.mem_flatMap] at hy
      obtain ⟨p, hp, hy⟩ := hy
      exact E.one p y hy
    · intro v' w' h1 h2 _
      refine h v' w' ?_ h2
      show w'.ownsRow base E.elem E.size v' (l ++ m).length (E.flat (l ++ m))
      rw [List.length_append, E.flat_append, hm]
      exact h1
/-- .. as one step of a region that draws. -/
theorem step_appG {ops : Array Oper} {o : Oper} {a : Act} {K : Act → World → Prop} {Q : Exit → Act → World → Prop} {X : Prop} (hgd : o.guard = none) (E : EK α) (s x : Operand)
    (ho : o.op = .call { callee := .builtin .append, args := #[s, x], argTypes := #[E.slice, E.slice] })
    (base : Nat) (v : Value) (l m : List α) (hs : a.eval s = v) (hown : Row E w base v l) (ao : Option Addr) (n cap : Nat) (hx : a.eval x = .slice ao n cap) (hm : m.length = n) (hnil : ao = none → n = 0 ∧ cap = 0)
    (hcell : ∀ ad, ao = some ad → ∀ k y, m[k]? = some y → ∀ j u, (E.enc y)[j]? = some u → w.cell? (ad.add (k * E.size + j)) = some u)
    (hby : 1 ≤ E.bytes) (hlen : (l.length + m.length) * E.bytes ≤ 140737488355328) (hb : base ≤ w.heap.size)
    (h : ∀ v' w', Row E w' base v' (l ++ m) → w.grownBy w' v.ownBlock → K (a.put o.dst v') w') :
    if Region.wanted o (yielded ops a.tmps) = true then Oper.wp Tryz.prog o a w K Q else X := by
  have hw : Region.wanted o (yielded ops a.tmps) = true := by simp [Region.wanted, hgd]
  rw [if_pos hw]
  exact wp_appG E s x ho base v l m hs hown ao n cap hx hm hnil hcell hby hlen hb h
theorem wpList_appG {ops : Array Oper} {rest : List Oper} {o : Oper} {a : Act} {Q : Exit → Act → World → Prop} (hgd : o.guard = none) (E : EK α) (s x : Operand)
    (ho : o.op = .call { callee := .builtin .append, args := #[s, x], argTypes := #[E.slice, E.slice] })
    (base : Nat) (v : Value) (l m : List α) (hs : a.eval s = v) (hown : Row E w base v l) (ao : Option Addr) (n cap : Nat) (hx : a.eval x = .slice ao n cap) (hm : m.length = n) (hnil : ao = none → n = 0 ∧ cap = 0)
    (hcell : ∀ ad, ao = some ad → ∀ k y, m[k]? = some y → ∀ j u, (E.enc y)[j]? = some u → w.cell? (ad.add (k * E.size + j)) = some u)
    (hby : 1 ≤ E.bytes) (hlen : (l.length + m.length) * E.bytes ≤ 140737488355328) (hb : base ≤ w.heap.size)
    (h : ∀ v' w', Row E w' base v' (l ++ m) → w.grownBy w' v.ownBlock → wpList Tryz.prog ops Q rest (a.put o.dst v') w') : wpList Tryz.prog ops Q (o :: rest) a w :=
  wpList_plain hgd fun _ hK => wp_appG E s x ho base v l m hs hown ao n cap hx hm hnil hcell hby hlen hb fun v' w' h2 h3 => hK _ _ (h v' w' h2 h3)
end

/-- A copy of numbers: 'append([]int(nil), ..)': what is wanted of the list that is read. -/
theorem RdL.srcN {w : World} {ao : Option Addr} {n cap : Nat} {l : List Int} (h : RdL 1 NAt w (.slice ao n cap) l) : l.length = n ∧ (ao = none → n = 0 ∧ cap = 0) ∧ ∀ ad, ao = some ad → ∀ k y, l[k]? = some y → ∀ j u, (ekN.enc y)[j]? = some u → w.cell? (ad.add (k * ekN.size + j)) = some u := by
  obtain ⟨ao', n', cap', e, h1, _, _, h4, h5⟩ := h
  cases e
  refine ⟨h1, h4, fun ad had k y hy j u hu => ?_⟩
  have hj : j = 0 := by
    cases j with
    | zero => rfl
    | succ j => simp [ekN, encN] at hu
  subst hj
  have hu : u = .int .i64 y := by simpa [ekN, encN] using hu.symm
  subst hu
  have := h5 ad had k y hy
  simpa [NAt, ekN] using this

end L
end Go.Proofs.YtelmjekjohbmjaaGreatDoor

