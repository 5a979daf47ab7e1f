/- The contract of Wrong. -/
import Derived.Test.YtenlijgnmhdopaaGreatDoorLNames
namespace Go.Proofs.YtenlijgnmhdopaaGreatDoor
namespace L
open Go.RowKit

def msgsGo (g : GI) : Nat → List MI → Option (Int × Nat)
  | _, [] => none
  | i, m :: r => if wrongM g m ≠ 0 then some (wrongM g m, i) else msgsGo g (i + 1) r
def enumsGo : Nat → List EI → Option (Int × Nat)
  | _, [] => none
  | i, e :: r => if wrongE e ≠ 0 then some (wrongE e, i) else enumsGo (i + 1) r
/-- What is wrong with a file first, and where. -/
def wrongL (g : GI) : Int × Nat :=
  if 10 < g.msgs.length + g.enums.length then (5, 0)
  else if (firstGo stepS [7] 0 (namesL g) []).1 ≠ 0 then firstGo stepS [7] 0 (namesL g) []
  else match msgsGo g 0 g.msgs with
    | some q => q
    | none => match enumsGo 0 g.enums with
      | some q => (q.1, g.msgs.length + q.2)
      | none => (0, 0)
/-- Names are no longer than texts may be. -/
def Fits (g : GI) : Prop := (∀ m ∈ g.msgs, m.name.length ≤ 9223372036854775807 ∧ ∀ f ∈ m.fields, f.name.length ≤ 9223372036854775807) ∧ ∀ e ∈ g.enums, e.name.length ≤ 9223372036854775807 ∧ ∀ i ∈ e.items, i.name.length ≤ 9223372036854775807
theorem Fits.names {g : GI} (h : Fits g) : ∀ s ∈ namesL g, s.length ≤ 9223372036854775807 := by
  intro s hs
  rcases List.mem_append.1 hs with hs | hs
  · obtain ⟨m, hm, rfl⟩ := List.mem_map.1 hs; exact (h.1 m hm).1
  · obtain ⟨m, hm, rfl⟩ := List.mem_map.1 hs; exact (h.2 m hm).1
theorem msgs_step {g : GI} {l : List MI} {k : Nat} {m : MI} (h : l[k]? = some m) : msgsGo g k (l.drop k) = if wrongM g m ≠ 0 then some (wrongM g m, k) else msgsGo g (k + 1) (l.drop (k + 1)) := by
  obtain ⟨hk, e⟩ := List.getElem?_eq_some_iff.1 h
  rw [List.drop_eq_getElem_cons hk, e, msgsGo]
theorem enums_step {l : List EI} {k : Nat} {m : EI} (h : l[k]? = some m) : enumsGo k (l.drop k) = if wrongE m ≠ 0 then some (wrongE m, k) else enumsGo (k + 1) (l.drop (k + 1)) := by
  obtain ⟨hk, e⟩ := List.getElem?_eq_some_iff.1 h
  rw [List.drop_eq_getElem_cons hk, e, enumsGo]

theorem setR {w x : World} (h : Below w.heap.size w x) (a b : Value) : Below w.heap.size w ((x.setCell ⟨w.heap.size + 1, 0, none⟩ a).setCell ⟨w.heap.size + 1, 1, none⟩ b) :=
  (h.setCell (p := ⟨w.heap.size + 1, 0, none⟩) (show w.heap.size ≤ w.heap.size + 1 by omega) a).setCell (p := ⟨w.heap.size + 1, 1, none⟩) (show w.heap.size ≤ w.heap.size + 1 by omega) b

set_option maxHeartbeats 4000000 in
set_option maxRecDepth 100000 in
theorem Wrong_any {w : World} {vm ve : Value} {g : GI} (hg : GRd w vm ve g) (hn1 : g.msgs.length ≤ 140737488355328) (hn2 : g.enums.length ≤ 140737488355328) (hf : Fits g) :
    Calls Tryz.prog 8 #[.agg #[vm, ve]] w fun e w' => e = .returned (.agg #[.int .i64 (wrongL g).1, .int .i64 (((wrongL g).2 : Nat) : Int)]) ∧ Below w.heap.size w w' := by
  obtain ⟨a1, n1, c1, rfl, H1, _⟩ := hg.1.shape
  obtain ⟨a2, n2, c2, rfl, H2, _⟩ := hg.2.shape
  obtain ⟨W2, HW2⟩ : ∃ W2, Hid (W2 = (w.alloc (.cells #[.slice a1 n1 c1, .slice a2 n2 c2] 25)).alloc (.cells #[.int .i64 0, .int .i64 0] 29)) := ⟨_, rfl⟩
  have hb2 : Below w.heap.size w W2 := by rw [HW2.out]; exact ((Below.refl _ _).alloc (Nat.le_refl _) _).alloc (by simp) _
  have hx1 : W2.heap[w.heap.size]? = some (.cells #[.slice a1 n1 c1, .slice a2 n2 c2] 25 (0, 0)) := by rw [HW2.out]; exact alloc2_old _ _ _
  have hx2 : W2.heap[w.heap.size + 1]? = some (.cells #[.int .i64 0, .int .i64 0] 29 (0, 0)) := by rw [HW2.out]; exact alloc2_new _ _ _
  have hz2 : W2.heap.size = w.heap.size + 2 := by rw [HW2.out]; simp
  have hcr := crowded_any (w := W2) (a1 := a1) (a2 := a2) (c1 := c1) (c2 := c2) (show n1 ≤ 140737488355328 by rw [H1.out]; exact hn1) (show n2 ≤ 140737488355328 by rw [H2.out]; exact hn2)
  -- what stands in every later world
  have hcl : ∀ W, Below (w.heap.size + 2) W2 W → W.heap[w.heap.size]? = some (.cells #[.slice a1 n1 c1, .slice a2 n2 c2] 25 (0, 0)) ∧ W.heap[w.heap.size + 1]? = some (.cells #[.int .i64 0, .int .i64 0] 29 (0, 0)) ∧ Below w.heap.size w W := fun W hW => ⟨(hW.block _ (by omega)).trans hx1, (hW.block _ (by omega)).trans hx2, hb2.trans (hW.mono (by omega))⟩
  by_cases hbig : 10 < n1 + n2
  · have HE : Hid (wrongL g = (5, 0)) := by show _ = _; rw [wrongL, if_pos (by rw [← H1.out, ← H2.out]; exact hbig)]
    rw [show decide (10 < n1 + n2) = true by simp; omega] at hcr
    go_enter Tryz.func8, Tryz.ntmps8
    go_wp2_with fail
    rw [← HW2.out]
    refine hcr.mono ?_
    rintro e w1 ⟨rfl, hb1⟩
    obtain ⟨_, y2, hbw⟩ := hcl w1 (hb1.mono (by omega))
    obtain ⟨z0, z1⟩ := blk2 y2
    have f0 := fr_of_blk y2 0
    have f1 := fr_of_blk y2 1
    clear hcl hcr
    go_wp2
    refine bodyPost_ret (v := .agg #[.int .i64 5, .int .i64 0]) (by simp [results, Tryz.results8, go_sem, *]) rfl ?_
    exact ⟨by rw [HE.out]; rfl, setR hbw _ _⟩
  · have hno : ¬ 10 < g.msgs.length + g.enums.length := by rw [← H1.out, ← H2.out]; exact hbig
    rw [show decide (10 < n1 + n2) = false by simp; omega] at hcr
    have hn1' : n1 ≤ 10 := by omega
    have hn2' : n2 ≤ 10 := by omega
    go_enter Tryz.func8, Tryz.ntmps8
    go_wp2_with fail
    rw [← HW2.out]
    refine hcr.mono ?_
    rintro e w1 ⟨rfl, hb1⟩
    have hB1 : Below (w.heap.size + 2) W2 w1 := hb1.mono (by omega)
    obtain ⟨y1, y2, hbw⟩ := hcl w1 hB1
    obtain ⟨u0, u1⟩ := blk2 y1
    have hnm := names_any (hg.below hbw) (by rw [← H1.out]; omega) (by rw [← H2.out]; omega)
    clear hcr
    go_wp2_with fail
    refine hnm.mono ?_
    rintro e w3 ⟨an, nn, cn, rfl, hrn, hb3⟩
    have hB3 : Below (w.heap.size + 2) W2 w3 := hB1.trans (hb3.mono (by have := hB1.size; omega))
    have hnr := nameRules_new w3
    have hbk := names_broken hrn (by simp [namesL]; rw [← H1.out, ← H2.out]; omega) hf.names
    clear u0 u1 y1 y2 hnm
    go_wp2_with fail
    refine hnr.mono ?_
    rintro e w4 ⟨rfl, hw4⟩
    go_wp2_with fail
    rw [← hw4]
    refine hbk.mono ?_
    rintro e w5 ⟨rfl, hb5⟩
    have hB5 : Below (w.heap.size + 2) W2 w5 := hB3.trans (hb5.mono (by have := hB3.size; omega))
    generalize hp : firstGo stepS [7] 0 (namesL g) [] = p
    obtain ⟨pe, pi⟩ := p
    have HP : Hid (firstGo stepS [7] 0 (namesL g) [] = (pe, pi)) := hp
    clear hp hbk hnr hw4
    obtain ⟨W6, HW6⟩ : ∃ W6, Hid (W6 = w5.alloc (.cells #[.int .i64 pe, .int .i64 (pi : Int)] 29)) := ⟨_, rfl⟩
    have hb6 : Below w5.heap.size w5 W6 := by rw [HW6.out]; exact (Below.refl _ _).alloc (Nat.le_refl _) _
    have hx6 : W6.heap[w5.heap.size]? = some (.cells #[.int .i64 pe, .int .i64 (pi : Int)] 29 (0, 0)) := by rw [HW6.out]; exact heap_alloc_new _ _
    have hB6 : Below (w.heap.size + 2) W2 W6 := hB5.trans (hb6.mono (by have := hB5.size; omega))
    obtain ⟨y1, y2, hbw6⟩ := hcl W6 hB6
    by_cases hpe : pe = 0
    · have HP1 : Hid ((firstGo stepS [7] 0 (namesL g) []).1 = 0) := by show _ = _; rw [HP.out]; exact hpe
      have hpb : (pe != 0) = false := by simp [hpe]
      have HE : Hid (wrongL g = match msgsGo g 0 (g.msgs.drop 0) with | some q => q | none => match enumsGo 0 g.enums with | some q => (q.1, g.msgs.length + q.2) | none => (0, 0)) := by
        show _ = _; rw [wrongL, if_neg hno, if_neg (by rw [HP1.out]; simp)]; rfl
      obtain ⟨u0, u1⟩ := blk2 y1
      rw [HW6.out] at u0 u1
      clear hpe HP y1 y2
      go_wp2_with fail
      rw [← HW6.out]
      go_loopg [24] n1 (fun m i wr => ∃ k : Nat, k + m = n1 ∧ i = .int .i64 k ∧ Hid (wrongL g = match msgsGo g k (g.msgs.drop k) with | some q => q | none => match enumsGo 0 g.enums with | some q => (q.1, g.msgs.length + q.2) | none => (0, 0)) ∧ Below (w.heap.size + 2) W2 wr)
      case atStart => exact ⟨0, by omega, rfl, HE, hB6⟩
      case round =>
        clear u0 u1 HE hB6 hb6 hx6 hbw6 hB5 hb5 hB3 hb3 hB1 hb1 hrn hbw
        obtain ⟨k, hk, rfl, HK, hBr⟩ := hrel
        obtain ⟨y1, y2, hbw⟩ := hcl wr hBr
        obtain ⟨u0, u1⟩ := blk2 y1
        obtain ⟨z0, z1⟩ := blk2 y2
        have f0 := fr_of_blk y2 0
        have f1 := fr_of_blk y2 1
        have hzr : w.heap.size + 2 ≤ wr.heap.size := by have := hBr.size; omega
        by_cases hlt : k < n1
        · obtain ⟨a, Ha⟩ : ∃ a, Hid (g.msgs[k]? = some a) := ⟨g.msgs[k]'(by rw [← H1.out]; exact hlt), List.getElem?_eq_getElem (by rw [← H1.out]; exact hlt)⟩
          obtain ⟨b, off, rfl, hat⟩ := (hg.below hbw).1.get MAt.plain Ha.out
          obtain ⟨vf, vb, s0, s1, s2, hrf, hrb⟩ := hat.at
          obtain ⟨af, nf, cf, rfl, _, _⟩ := hrf.shape
          obtain ⟨ab, nb, cb, rfl, _, _⟩ := hrb.shape
          have hki : (k : Int) < (n1 : Int) := by omega
          have hbm := (Below.refl wr.heap.size wr).alloc (Nat.le_refl _) (.cells #[.string (S a.name), .slice af nf cf, .slice ab nb cb] 37)
          have y1m := (hbm.block w.heap.size (by omega)).trans y1
          obtain ⟨u2, u3⟩ := blk2 y1m
          have hwm := wrongMessage_any a ((hg.below hbw).below hbm) (hrf.below FAt.stays hbm) (hrb.below NAt.stays hbm) (hf.1 a (mem_at Ha.out)).2
          obtain ⟨q, HQ⟩ : ∃ q, Hid (q = wrongM g a) := ⟨_, rfl⟩
          have HK2 := HK.out
          rw [msgs_step Ha.out, ← HQ.out] at HK2
          rw [← HQ.out] at hwm
          clear hat HK
          by_cases hq : q = 0
          · have HK3 : Hid (wrongL g = match msgsGo g (k + 1) (g.msgs.drop (k + 1)) with | some q => q | none => match enumsGo 0 g.enums with | some q => (q.1, g.msgs.length + q.2) | none => (0, 0)) := by
              show _ = _; rw [HK2, if_neg (by simp [hq])]
            have hqb : (q != 0) = false := by simp [hq]
            clear HK2 hq hcl
            go_wp2_with fail
            refine hwm.mono ?_
            rintro e w7 ⟨rfl, hb7⟩
            go_wp2_with fail
            go_roundg (n1 - (k + 1))
            case measure => omega
            case rel => exact ⟨k + 1, by omega, by go_num, HK3, (hBr.trans (hbm.mono hzr)).trans (hb7.mono (by simp; omega))⟩
          · have HK3 : Hid (wrongL g = (q, k)) := by show _ = _; rw [HK2, if_pos hq]
            have hqb : (q != 0) = true := by simp [hq]
            have hcl2 := hcl
            clear HK2 hq hcl
            go_wp2_with fail
            refine hwm.mono ?_
            rintro e w7 ⟨rfl, hb7⟩
            have hB7 : Below (w.heap.size + 2) W2 w7 := (hBr.trans (hbm.mono hzr)).trans (hb7.mono (by simp; omega))
            obtain ⟨_, y3, hbw7⟩ := hcl2 w7 hB7
            obtain ⟨z3, z4⟩ := blk2 y3
            have f3 := fr_of_blk y3 0
            have f4 := fr_of_blk y3 1
            clear hcl2 z0 z1 f0 f1
            go_wp2
            refine bodyPost_ret (v := .agg #[.int .i64 q, .int .i64 (k : Int)]) (by simp [results, Tryz.results8, go_sem, *]) rfl ?_
            exact ⟨by rw [HK3.out], setR hbw7 _ _⟩
        · have HE2 : Hid (wrongL g = match enumsGo 0 (g.enums.drop 0) with | some q => (q.1, g.msgs.length + q.2) | none => (0, 0)) := by
            have e : g.msgs.drop k = [] := List.drop_eq_nil_of_le (by rw [← H1.out]; omega)
            show _ = _; rw [HK.out, e]; rfl
          clear HK
          go_wp2_with fail
          go_loopg [41] n2 (fun m i wr => ∃ k : Nat, k + m = n2 ∧ i = .int .i64 k ∧ Hid (wrongL g = match enumsGo k (g.enums.drop k) with | some q => (q.1, g.msgs.length + q.2) | none => (0, 0)) ∧ Below (w.heap.size + 2) W2 wr)
          case atStart => exact ⟨0, by omega, rfl, HE2, hBr⟩
          case round =>
            clear u0 u1 z0 z1 f0 f1 y1 y2 hbw hBr HE2 hzr
            obtain ⟨k2, hk2, rfl, HK, hBr⟩ := hrel
            obtain ⟨y1, y2, hbw⟩ := hcl wr hBr
            obtain ⟨u0, u1⟩ := blk2 y1
            obtain ⟨z0, z1⟩ := blk2 y2
            have f0 := fr_of_blk y2 0
            have f1 := fr_of_blk y2 1
            have hzr : w.heap.size + 2 ≤ wr.heap.size := by have := hBr.size; omega
            by_cases hlt2 : k2 < n2
            · obtain ⟨a, Ha⟩ : ∃ a, Hid (g.enums[k2]? = some a) := ⟨g.enums[k2]'(by rw [← H2.out]; exact hlt2), List.getElem?_eq_getElem (by rw [← H2.out]; exact hlt2)⟩
              obtain ⟨b, off, rfl, hat⟩ := (hg.below hbw).2.get EAt.plain Ha.out
              obtain ⟨vi, s0, s1, hri⟩ := hat.at
              obtain ⟨ai, ni, ci, rfl, _, _⟩ := hri.shape
              have hki : (k2 : Int) < (n2 : Int) := by omega
              have hbm := (Below.refl wr.heap.size wr).alloc (Nat.le_refl _) (.cells #[.string (S a.name), .slice ai ni ci] 50)
              have hwe := wrongEnum_any a (hri.below TAt.stays hbm) (hf.2 a (mem_at Ha.out)).2
              obtain ⟨q, HQ⟩ : ∃ q, Hid (q = wrongE a) := ⟨_, rfl⟩
              have HK2 := HK.out
              rw [enums_step Ha.out, ← HQ.out] at HK2
              rw [← HQ.out] at hwe
              clear hat HK
              by_cases hq : q = 0
              · have HK3 : Hid (wrongL g = match enumsGo (k2 + 1) (g.enums.drop (k2 + 1)) with | some q => (q.1, g.msgs.length + q.2) | none => (0, 0)) := by
                  show _ = _; rw [HK2, if_neg (by simp [hq])]
                have hqb : (q != 0) = false := by simp [hq]
                clear HK2 hq hcl
                go_wp2_with fail
                refine hwe.mono ?_
                rintro e w7 ⟨rfl, hb7⟩
                go_wp2_with fail
                go_roundg (n2 - (k2 + 1))
                case measure => omega
                case rel => exact ⟨k2 + 1, by omega, by go_num, HK3, (hBr.trans (hbm.mono hzr)).trans (hb7.mono (by simp; omega))⟩
              · have HK3 : Hid (wrongL g = (q, n1 + k2)) := by show _ = _; rw [HK2, if_pos hq, H1.out]
                have hqb : (q != 0) = true := by simp [hq]
                have hcl2 := hcl
                clear HK2 hq hcl
                go_wp2_with fail
                refine hwe.mono ?_
                rintro e w7 ⟨rfl, hb7⟩
                have hB7 : Below (w.heap.size + 2) W2 w7 := (hBr.trans (hbm.mono hzr)).trans (hb7.mono (by simp; omega))
                obtain ⟨y4, y3, hbw7⟩ := hcl2 w7 hB7
                obtain ⟨z3, z4⟩ := blk2 y3
                obtain ⟨z5, z6⟩ := blk2 y4
                have f3 := fr_of_blk y3 0
                have f4 := fr_of_blk y3 1
                clear hcl2 z0 z1 f0 f1 u0 u1
                go_wp2
                refine bodyPost_ret (v := .agg #[.int .i64 q, .int .i64 ((n1 : Int) + (k2 : Int))]) (by simp [results, Tryz.results8, go_sem, *]) rfl ?_
                exact ⟨by rw [HK3.out]; simp, setR hbw7 _ _⟩
            · have HE3 : Hid (wrongL g = (0, 0)) := by
                have e : g.enums.drop k2 = [] := List.drop_eq_nil_of_le (by rw [← H2.out]; omega)
                show _ = _; rw [HK.out, e]; rfl
              clear HK hcl
              go_wp2
              refine bodyPost_ret (v := .agg #[.int .i64 0, .int .i64 0]) (by simp [results, Tryz.results8, go_sem, *]) rfl ?_
              exact ⟨by rw [HE3.out]; rfl, setR hbw _ _⟩
    · have HE : Hid (wrongL g = (pe, pi)) := by show _ = _; rw [wrongL, if_neg hno, if_pos (by rw [HP.out]; exact hpe), HP.out]
      have hpb : (pe != 0) = true := by simp [hpe]
      obtain ⟨z0, z1⟩ := blk2 y2
      obtain ⟨z2, z3⟩ := blk2 hx6
      have f0 := fr_of_blk y2 0
      have f1 := fr_of_blk y2 1
      rw [HW6.out] at z0 z1 z2 z3 f0 f1
      clear hpe HP hcl
      go_wp2
      refine bodyPost_ret (v := .agg #[.int .i64 pe, .int .i64 (pi : Int)]) (by simp [results, Tryz.results8, go_sem, *]) rfl ?_
      exact ⟨by rw [HE.out], by rw [← HW6.out]; exact setR hbw6 _ _⟩

end L
end Go.Proofs.YtenlijgnmhdopaaGreatDoor
