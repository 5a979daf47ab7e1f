import Derived.Test.YtenlijgnmhdopaaGreatDoorMLd
import Derived.ProofKit
import Derived.OpenShut
import Derived.Deep.Slices
import Derived.SizedLaws
/- The contract of Wrong. -/
namespace Go.Proofs.YtenlijgnmhdopaaGreatDoor
namespace L
open Go.RowKit

def msgsGo (g : GI) : Nat → List MI → Option (Int × Nat)
  | _, [] => none
  | i, m :: r => if wrongM g m ≠ 0 then some (wrongM g m, i) else msgsGo g (i + 1) r
def enumsGo : Nat → List EI → Option (Int × Nat)
  | _, [] => none
  | i, e :: r => if wrongE e ≠ 0 then some (wrongE e, i) else enumsGo (i + 1) r
/-- What is wrong with a file first, and where. -/
def wrongL (g : GI) : Int × Nat :=
  if 10 < g.msgs.length + g.enums.length then (5, 0)
  else if (firstGo stepS [7] 0 (namesL g) []).1 ≠ 0 then firstGo stepS [7] 0 (namesL g) []
  else match msgsGo g 0 g.msgs with
    | some q => q
    | none => match enumsGo 0 g.enums with
      | some q => (q.1, g.msgs.length + q.2)
      | none => (0, 0)
/-- Names are no longer than texts may be. -/
def Fits (g : GI) : Prop := (∀ m ∈ g.msgs, m.name.length ≤ 9223372036854775807 ∧ ∀ f ∈ m.fields, f.name.length ≤ 9223372036854775807) ∧ ∀ e ∈ g.enums, e.name.length ≤ 9223372036854775807 ∧ ∀ i ∈ e.items, i.name.length ≤ 9223372036854775807
theorem Fits.names {g : GI} (h : Fits g) : ∀ s ∈ namesL g, s.length ≤ 9223372036854775807 := by
  intro s hs
  rcases List.mem_append.1 hs with hs | hs
  · obtain ⟨m, hm, rfl⟩ := List.mem_map.1 hs; exact (h.1 m hm).1
  · obtain ⟨m, hm, rfl⟩ := List.mem_map.1 hs; exact (h.2 m hm).1
theorem msgs_step {g : GI} {l : List MI} {k : Nat} {m : MI} (h : l[k]? = some m) : msgsGo g k (l.drop k) = if wrongM g m ≠ 0 then some (wrongM g m, k) else msgsGo g (k + 1) (l.drop (k + 1)) := by
  obtain ⟨hk, e⟩ := List.getElem?_eq_some_iff.1 h
  rw [List.drop_eq_getElem_cons hk, e, msgsGo]
theorem enums_step {l : List EI} {k : Nat} {m : EI} (h : l[k]? = some m) : enumsGo k (l.drop k) = if wrongE m ≠ 0 then some (wrongE m, k) else enumsGo (k + 1) (l.drop (k + 1)) := by
  obtain ⟨hk, e⟩ := List.getElem?_eq_some_iff.1 h
  rw [List.drop_eq_getElem_cons hk, e, enumsGo]

theorem setR {w x : World} (h : Below w.heap.size w x) (a b : Value) : Below w.heap.size w ((x.setCell ⟨w.heap.size + 1, 0, none⟩ a).setCell ⟨w.heap.size + 1, 1, none⟩ b) :=
  (h.setCell (p := ⟨w.heap.size + 1, 0, none⟩) (show w.heap.size ≤ w.heap.size + 1 by omega) a).setCell (p := ⟨w.heap.size + 1, 1, none⟩) (show w.heap.size ≤ w.heap.size + 1 by omega) b

set_option maxHeartbeats 4000000 in
set_option maxRecDepth 100000 in
theorem Wrong_any {w : World} {vm ve : Value} {g : GI} (hg : GRd w vm ve g) (hn1 : g.msgs.length ≤ 140737488355328) (hn2 : g.enums.length ≤ 140737488355328) (hf : Fits g) :
    Calls Tryz.prog 8 #[.agg #[vm, ve]] w fun e w' => e = .returned (.agg #[.int .i64 (wrongL g).1, .int .i64 (((wrongL g).2 : Nat) : Int)]) ∧ Below w.heap.size w w' := by
  obtain ⟨a1, n1, c1, rfl, H1, _⟩ := hg.1.shape
  obtain ⟨a2, n2, c2, rfl, H2, _⟩ := hg.2.shape
  obtain ⟨W2, HW2⟩ : ∃ W2, Hid (W2 = (w.alloc (.cells #[.slice a1 n1 c1, .slice a2 n2 c2] 25)).alloc (.cells #[.int .i64 0, .int .i64 0] 29)) := ⟨_, rfl⟩
  have hb2 : Below w.heap.size w W2 := by rw [HW2.out]; exact ((Below.refl _ _).alloc (Nat.le_refl _) _).alloc (by simp) _
  have hx1 : W2.heap[w.heap.size]? = some (.cells #[.slice a1 n1 c1, .slice a2 n2 c2] 25 (0, 0)) := by rw [HW2.out]; exact alloc2_old _ _ _
  have hx2 : W2.heap[w.heap.size + 1]? = some (.cells #[.int .i64 0, .int .i64 0] 29 (0, 0)) := by rw [HW2.out]; exact alloc2_new _ _ _
  have hz2 : W2.heap.size = w.heap.size + 2 := by rw [HW2.out]; simp
  have hcr := crowded_any (w := W2) (a1 := a1) (a2 := a2) (c1 := c1) (c2 := c2) (show n1 ≤ 140737488355328 by rw [H1.out]; exact hn1) (show n2 ≤ 140737488355328 by rw [H2.out]; exact hn2)
  -- what stands in every later world
  have hcl : ∀ W, Below (w.heap.size + 2) W2 W → W.heap[w.heap.size]? = some (.cells #[.slice a1 n1 c1, .slice a2 n2 c2] 25 (0, 0)) ∧ W.heap[w.heap.size + 1]? = some (.cells #[.int .i64 0, .int .i64 0] 29 (0, 0)) ∧ Below w.heap.size w W := fun W hW => ⟨(hW.block _ (by omega)).trans hx1, (hW.block _ (by omega)).trans hx2, hb2.trans (hW.mono (by omega))⟩
  by_cases hbig : 10 < n1 + n2
  · have HE : Hid (wrongL g = (5, 0)) := by show _ = _; rw [wrongL, if_pos (by rw [← H1.out, ← H2.out]; exact hbig)]
    rw [show decide (10 < n1 + n2) = true by simp; omega] at hcr
    go_enter Tryz.func8, Tryz.ntmps8
    go_wp2_with fail
    rw [← HW2.out]
    refine hcr.mono ?_
    rintro e w1 ⟨rfl, hb1⟩
    obtain ⟨_, y2, hbw⟩ := hcl w1 (hb1.mono (by omega))
    obtain ⟨z0, z1⟩ := blk2 y2
    have f0 := fr_of_blk y2 0
    have f1 := fr_of_blk y2 1
    clear hcl hcr
    go_wp2
    refine bodyPost_ret (v := .agg #[.int .i64 5, .int .i64 0]) (by simp [results, Tryz.results8, go_sem, *]) rfl ?_
    exact ⟨by rw [HE.out]; rfl, setR hbw _ _⟩
  · have hno : ¬ 10 < g.msgs.length + g.enums.length := by rw [← H1.out, ← H2.out]; exact hbig
    rw [show decide (10 < n1 + n2) = false by simp; omega] at hcr
    have hn1' : n1 ≤ 10 := by omega
    have hn2' : n2 ≤ 10 := by omega
    go_enter Tryz.func8, Tryz.ntmps8
    go_wp2_with fail
    rw [← HW2.out]
    refine hcr.mono ?_
    rintro e w1 ⟨rfl, hb1⟩
    have hB1 : Below (w.heap.size + 2) W2 w1 := hb1.mono (by omega)
    obtain ⟨y1, y2, hbw⟩ := hcl w1 hB1
    obtain ⟨u0, u1⟩ := blk2 y1
    have hnm := names_any (hg.below hbw) (by rw [← H1.out]; omega) (by rw [← H2.out]; omega)
    clear hcr
    go_wp2_with fail
    refine hnm.mono ?_
    rintro e w3 ⟨an, nn, cn, rfl, hrn, hb3⟩
    have hB3 : Below (w.heap.size + 2) W2 w3 := hB1.trans (hb3.mono (by have := hB1.size; omega))
    have hnr := nameRules_new w3
    have hbk := names_broken hrn (by simp [namesL]; rw [← H1.out, ← H2.out]; omega) hf.names
    clear u0 u1 y1 y2 hnm
    go_wp2_with fail
    refine hnr.mono ?_
    rintro e w4 ⟨rfl, hw4⟩
    go_wp2_with fail
    rw [← hw4]
    refine hbk.mono ?_
    rintro e w5 ⟨rfl, hb5⟩
    have hB5 : Below (w.heap.size + 2) W2 w5 := hB3.trans (hb5.mono (by have := hB3.size; omega))
    generalize hp : firstGo stepS [7] 0 (namesL g) [] = p
    obtain ⟨pe, pi⟩ := p
    have HP : Hid (firstGo stepS [7] 0 (namesL g) [] = (pe, pi)) := hp
    clear hp hbk hnr hw4
    obtain ⟨W6, HW6⟩ : ∃ W6, Hid (W6 = w5.alloc (.cells #[.int .i64 pe, .int .i64 (pi : Int)] 29)) := ⟨_, rfl⟩
    have hb6 : Below w5.heap.size w5 W6 := by rw [HW6.out]; exact (Below.refl _ _).alloc (Nat.le_refl _) _
    have hx6 : W6.heap[w5.heap.size]? = some (.cells #[.int .i64 pe, .int .i64 (pi : Int)] 29 (0, 0)) := by rw [HW6.out]; exact heap_alloc_new _ _
    have hB6 : Below (w.heap.size + 2) W2 W6 := hB5.trans (hb6.mono (by have := hB5.size; omega))
    obtain ⟨y1, y2, hbw6⟩ := hcl W6 hB6
    by_cases hpe : pe = 0
    · have HP1 : Hid ((firstGo stepS [7] 0 (namesL g) []).1 = 0) := by show _ = _; rw [HP.out]; exact hpe
      have hpb : (pe != 0) = false := by simp [hpe]
      have HE : Hid (wrongL g = match msgsGo g 0 (g.msgs.drop 0) with | some q => q | none => match enumsGo 0 g.enums with | some q => (q.1, g.msgs.length + q.2) | none => (0, 0)) := by
        show _ = _; rw [wrongL, if_neg hno, if_neg (by rw [HP1.out]; simp)]; rfl
      obtain ⟨u0, u1⟩ := blk2 y1
      rw [HW6.out] at u0 u1
      clear hpe HP y1 y2
      go_wp2_with fail
      rw [← HW6.out]
      go_loopg [24] n1 (fun m i wr => ∃ k : Nat, k + m = n1 ∧ i = .int .i64 k ∧ Hid (wrongL g = match msgsGo g k (g.msgs.drop k) with | some q => q | none => match enumsGo 0 g.enums with | some q => (q.1, g.msgs.length + q.2) | none => (0, 0)) ∧ Below (w.heap.size + 2) W2 wr)
      case atStart => exact ⟨0, by omega, rfl, HE, hB6⟩
      case round =>
        clear u0 u1 HE hB6 hb6 hx6 hbw6 hB5 hb5 hB3 hb3 hB1 hb1 hrn hbw
        obtain ⟨k, hk, rfl, HK, hBr⟩ := hrel
        obtain ⟨y1, y2, hbw⟩ := hcl wr hBr
        obtain ⟨u0, u1⟩ := blk2 y1
        obtain ⟨z0, z1⟩ := blk2 y2
        have f0 := fr_of_blk y2 0
        have f1 := fr_of_blk y2 1
        have hzr : w.heap.size + 2 ≤ wr.heap.size := by have := hBr.size; omega
        by_cases hlt : k < n1
        · obtain ⟨a, Ha⟩ : ∃ a, Hid (g.msgs[k]? = some a) := ⟨g.msgs[k]'(by rw [← H1.out]; exact hlt), List.getElem?_eq_getElem (by rw [← H1.out]; exact hlt)⟩
          obtain ⟨b, off, rfl, hat⟩ := (hg.below hbw).1.get MAt.plain Ha.out
          obtain ⟨vf, vb, s0, s1, s2, hrf, hrb⟩ := hat.at
          obtain ⟨af, nf, cf, rfl, _, _⟩ := hrf.shape
          obtain ⟨ab, nb, cb, rfl, _, _⟩ := hrb.shape
          have hki : (k : Int) < (n1 : Int) := by omega
          have hbm := (Below.refl wr.heap.size wr).alloc (Nat.le_refl _) (.cells #[.string (S a.name), .slice af nf cf, .slice ab nb cb] 37)
          have y1m := (hbm.block w.heap.size (by omega)).trans y1
          obtain ⟨u2, u3⟩ := blk2 y1m
          have hwm := wrongMessage_any a ((hg.below hbw).below hbm) (hrf.below FAt.stays hbm) (hrb.below NAt.stays hbm) (hf.1 a (mem_at Ha.out)).2
          obtain ⟨q, HQ⟩ : ∃ q, Hid (q = wrongM g a) := ⟨_, rfl⟩
          have HK2 := HK.out
          rw [msgs_step Ha.out, ← HQ.out] at HK2
          rw [← HQ.out] at hwm
          clear hat HK
          by_cases hq : q = 0
          · have HK3 : Hid (wrongL g = match msgsGo g (k + 1) (g.msgs.drop (k + 1)) with | some q => q | none => match enumsGo 0 g.enums with | some q => (q.1, g.msgs.length + q.2) | none => (0, 0)) := by
              show _ = _; rw [HK2, if_neg (by simp [hq])]
            have hqb : (q != 0) = false := by simp [hq]
            clear HK2 hq hcl
            go_wp2_with fail
            refine hwm.mono ?_
            rintro e w7 ⟨rfl, hb7⟩
            go_wp2_with fail
            go_roundg (n1 - (k + 1))
            case measure => omega
            case rel => exact ⟨k + 1, by omega, by go_num, HK3, (hBr.trans (hbm.mono hzr)).trans (hb7.mono (by simp; omega))⟩
          · have HK3 : Hid (wrongL g = (q, k)) := by show _ = _; rw [HK2, if_pos hq]
            have hqb : (q != 0) = true := by simp [hq]
            have hcl2 := hcl
            clear HK2 hq hcl
            go_wp2_with fail
            refine hwm.mono ?_
            rintro e w7 ⟨rfl, hb7⟩
            have hB7 : Below (w.heap.size + 2) W2 w7 := (hBr.trans (hbm.mono hzr)).trans (hb7.mono (by simp; omega))
            obtain ⟨_, y3, hbw7⟩ := hcl2 w7 hB7
            obtain ⟨z3, z4⟩ := blk2 y3
            have f3 := fr_of_blk y3 0
            have f4 := fr_of_blk y3 1
            clear hcl2 z0 z1 f0 f1
            go_wp2
            refine bodyPost_ret (v := .agg #[.int .i64 q, .int .i64 (k : Int)]) (by simp [results, Tryz.results8, go_sem, *]) rfl ?_
            exact ⟨by rw [HK3.out], setR hbw7 _ _⟩
        · have HE2 : Hid (wrongL g = match enumsGo 0 (g.enums.drop 0) with | some q => (q.1, g.msgs.length + q.2) | none => (0, 0)) := by
            have e : g.msgs.drop k = [] := List.drop_eq_nil_of_le (by rw [← H1.out]; omega)
            show _ = _; rw [HK.out, e]; rfl
          clear HK
          go_wp2_with fail
          go_loopg [41] n2 (fun m i wr => ∃ k : Nat, k + m = n2 ∧ i = .int .i64 k ∧ Hid (wrongL g = match enumsGo k (g.enums.drop k) with | some q => (q.1, g.msgs.length + q.2) | none => (0, 0)) ∧ Below (w.heap.size + 2) W2 wr)
          case atStart => exact ⟨0, by omega, rfl, HE2, hBr⟩
          case round =>
            clear u0 u1 z0 z1 f0 f1 y1 y2 hbw hBr HE2 hzr
            obtain ⟨k2, hk2, rfl, HK, hBr⟩ := hrel
            obtain ⟨y1, y2, hbw⟩ := hcl wr hBr
            obtain ⟨u0, u1⟩ := blk2 y1
            obtain ⟨z0, z1⟩ := blk2 y2
            have f0 := fr_of_blk y2 0
            have f1 := fr_of_blk y2 1
            have hzr : w.heap.size + 2 ≤ wr.heap.size := by have := hBr.size; omega
            by_cases hlt2 : k2 < n2
            · obtain ⟨a, Ha⟩ : ∃ a, Hid (g.enums[k2]? = some a) := ⟨g.enums[k2]'(by rw [← H2.out]; exact hlt2), List.getElem?_eq_getElem (by rw [← H2.out]; exact hlt2)⟩
              obtain ⟨b, off, rfl, hat⟩ := (hg.below hbw).2.get EAt.plain Ha.out
              obtain ⟨vi, s0, s1, hri⟩ := hat.at
              obtain ⟨ai, ni, ci, rfl, _, _⟩ := hri.shape
              have hki : (k2 : Int) < (n2 : Int) := by omega
              have hbm := (Below.refl wr.heap.size wr).alloc (Nat.le_refl _) (.cells #[.string (S a.name), .slice ai ni ci] 50)
              have hwe := wrongEnum_any a (hri.below TAt.stays hbm) (hf.2 a (mem_at Ha.out)).2
              obtain ⟨q, HQ⟩ : ∃ q, Hid (q = wrongE a) := ⟨_, rfl⟩
              have HK2 := HK.out
              rw [enums_step Ha.out, ← HQ.out] at HK2
              rw [← HQ.out] at hwe
              clear hat HK
              by_cases hq : q = 0
              · have HK3 : Hid (wrongL g = match enumsGo (k2 + 1) (g.enums.drop (k2 + 1)) with | some q => (q.1, g.msgs.length + q.2) | none => (0, 0)) := by
                  show _ = _; rw [HK2, if_neg (by simp [hq])]
                have hqb : (q != 0) = false := by simp [hq]
                clear HK2 hq hcl
                go_wp2_with fail
                refine hwe.mono ?_
                rintro e w7 ⟨rfl, hb7⟩
                go_wp2_with fail
                go_roundg (n2 - (k2 + 1))
                case measure => omega
                case rel => exact ⟨k2 + 1, by omega, by go_num, HK3, (hBr.trans (hbm.mono hzr)).trans (hb7.mono (by simp; omega))⟩
              · have HK3 : Hid (wrongL g = (q, n1 + k2)) := by show _ = _; rw [HK2, if_pos hq, H1.out]
                have hqb : (q != 0) = true := by simp [hq]
                have hcl2 := hcl
                clear HK2 hq hcl
                go_wp2_with fail
                refine hwe.mono ?_
                rintro e w7 ⟨rfl, hb7⟩
                have hB7 : Below (w.heap.size + 2) W2 w7 := (hBr.trans (hbm.mono hzr)).trans (hb7.mono (by simp; omega))
                obtain ⟨y4, y3, hbw7⟩ := hcl2 w7 hB7
                obtain ⟨z3, z4⟩ := blk2 y3
                obtain ⟨z5, z6⟩ := blk2 y4
                have f3 := fr_of_blk y3 0
                have f4 := fr_of_blk y3 1
                clear hcl2 z0 z1 f0 f1 u0 u1
                go_wp2
                refine bodyPost_ret (v := .agg #[.int .i64 q, .int .i64 ((n1 : Int) + (k2 : Int))]) (by simp [results, Tryz.results8, go_sem, *]) rfl ?_
                exact ⟨by rw [HK3.out]; simp, setR hbw7 _ _⟩
            · have HE3 : Hid (wrongL g = (0, 0)) := by
                have e : g.enums.drop k2 = [] := List.drop_eq_nil_of_le (by rw [← H2.out]; omega)
                show _ = _; rw [HK.out, e]; rfl
              clear HK hcl
              go_wp2
              refine bodyPost_ret (v := .agg #[.int .i64 0, .int .i64 0]) (by simp [results, Tryz.results8, go_sem, *]) rfl ?_
              exact ⟨by rw [HE3.out]; rfl, setR hbw _ _⟩
    · have HE : Hid (wrongL g = (pe, pi)) := by show _ = _; rw [wrongL, if_neg hno, if_pos (by rw [HP.out]; exact hpe), HP.out]
      have hpb : (pe != 0) = true := by simp [hpe]
      obtain ⟨z0, z1⟩ := blk2 y2
      obtain ⟨z2, z3⟩ := blk2 hx6
      have f0 := fr_of_blk y2 0
      have f1 := fr_of_blk y2 1
      rw [HW6.out] at z0 z1 z2 z3 f0 f1
      clear hpe HP hcl
      go_wp2
      refine bodyPost_ret (v := .agg #[.int .i64 pe, .int .i64 (pi : Int)]) (by simp [results, Tryz.results8, go_sem, *]) rfl ?_
      exact ⟨by rw [HE.out], by rw [← HW6.out]; exact setR hbw6 _ _⟩

end L
end Go.Proofs.YtenlijgnmhdopaaGreatDoor

/- A file that came in, opened: what can be read, and how great it is. -/
namespace Go.Proofs.YtenlijgnmhdopaaGreatDoor
namespace L
open Go.ChangeShapes Go.WideShapes Go.ChangeAt Go.RowKit

section
variable {H : Type} {enc : TypeId × Value → H} {w : World} {base : Nat} {spare : Nat → Bool} {held : Bool}

/-- No string, no list of it is greater than one may be. -/
def Sz (t : TypeId) (d : DataW H) : Prop := ∀ n ∈ d.weights Tryz.prog t, n ≤ reachBytes
theorem all_mem {e : TypeId} : ∀ {l : List (DataW H)} {d : DataW H}, d ∈ l → ∀ n ∈ d.weights Tryz.prog e, n ∈ DataW.weightsAll Tryz.prog e l
  | [], _, h, _, _ => by simp at h
  | x :: l, d, h, n, hn => by
    simp only [DataW.weightsAll, List.mem_append]
    rcases List.mem_cons.1 h with rfl | h
    · exact .inl hn
    · exact .inr (all_mem h n hn)

theorem open_list {α : Type} {P : World → Addr → α → Prop} {Q : α → Prop} {sz bytes : Nat} {t e : TypeId} (ht : Tryz.prog.underlying t = some (.slice e)) (hc : Tryz.prog.cellsOf e = sz) (hby : Tryz.prog.bytesOf e = bytes) (dflt : α)
    (hel : ∀ (fuel : Nat) (a : Addr) (cs : List Value) (d : DataW H) (pl : List MemPlace), w.cells? base a sz = some cs → DataW.trod enc Tryz.prog w base spare held fuel e cs = some (d, pl) → Sz e d → ∃ y, P w a y ∧ Q y)
    {fuel : Nat} {cs : List Value} {d : DataW H} {pl : List MemPlace} (h : DataW.trod enc Tryz.prog w base spare held fuel t cs = some (d, pl)) (hsz : Sz t d) :
    ∃ v l, cs = [v] ∧ RdL sz P w v l ∧ (∀ y ∈ l, Q y) ∧ l.length * bytes ≤ reachBytes := by
  rcases Go.Deep.open_slice ht h with ⟨hcs, _⟩ | ⟨a, len, cap, m, n, D, Pl, hcs, _, hl, hm, hmm, hx, hels⟩
  · exact ⟨_, [], hcs, RdL.nil _ _ _, fun y hy => by simp at hy, by simp⟩
  · rw [hc] at hels
    have hd := (Prod.mk.inj hx).1
    have hm' : len ≤ m := by rw [hmm]; split <;> omega
    have hw : (len + (m - len)) * bytes ≤ reachBytes := by
      refine hsz _ ?_
      rw [hd, DataW.weights, ht]
      simp [hby]
    have hex : ∀ i, i < len → ∃ y, P w (a.add (i * sz)) y ∧ Q y := by
      intro i hi
      obtain ⟨cs', h1, h2⟩ := hels i (by omega)
      refine hel n _ cs' (D i) (Pl i) h1 h2 ?_
      intro q hq
      refine hsz q ?_
      rw [hd, DataW.weights, ht]
      simp only [List.mem_cons, List.mem_append]
      exact .inr (.inl (all_mem (List.mem_map.2 ⟨i, List.mem_range.2 hi, rfl⟩) q hq))
    obtain ⟨f, hf⟩ : ∃ f : Nat → α, ∀ i, i < len → P w (a.add (i * sz)) (f i) ∧ Q (f i) := by
      refine ⟨fun i => if hi : i < len then Classical.choose (hex i hi) else dflt, fun i hi => ?_⟩
      simp only [dif_pos hi]
      exact Classical.choose_spec (hex i hi)
    refine ⟨_, (List.range len).map f, hcs, ⟨some a, len, cap, rfl, by simp, hl, hm, fun h => (by cases h), ?_⟩, ?_, ?_⟩
    · intro x hx' k y hy
      cases hx'
      rw [List.getElem?_map] at hy
      by_cases hk : k < len
      · rw [List.getElem?_range hk] at hy
        cases hy
        exact (hf k hk).1
      · rw [List.getElem?_eq_none (by simp; omega)] at hy
        cases hy
    · intro y hy
      obtain ⟨i, hi, rfl⟩ := List.mem_map.1 hy
      exact (hf i (List.mem_range.1 hi)).2
    · simp only [List.length_map, List.length_range]
      exact Nat.le_trans (Nat.mul_le_mul_right _ (Nat.le_add_right _ _)) hw

theorem open_str {fuel : Nat} {c : Value} {x : DataW H × List MemPlace} (h : DataW.trod enc Tryz.prog w base spare held fuel 9 [c] = some x) : ∃ s : List UInt8, c = .string (S s) ∧ s.length ≤ maxLen := by
  obtain ⟨s, h1, _, h2⟩ := DataW.trod_string Tryz.underlying9 h
  simp at h1
  refine ⟨s.data.toList, by rw [h1]; simp [S], ?_⟩
  rw [Array.length_toList]
  exact h2
theorem open_num {fuel : Nat} {c : Value} {x : DataW H × List MemPlace} (h : DataW.trod enc Tryz.prog w base spare held fuel 3 [c] = some x) : ∃ n : Int, c = .int .i64 n ∧ I64 n := by
  obtain ⟨n, h1, _, h2⟩ := DataW.trod_int Tryz.underlying3 h
  simp at h1
  exact ⟨n, h1, by have := bounds_i64 h2; unfold I64; omega⟩
theorem open_bool {fuel : Nat} {c : Value} {x : DataW H × List MemPlace} (h : DataW.trod enc Tryz.prog w base spare held fuel 4 [c] = some x) : ∃ b : Bool, c = .bool b := by
  obtain ⟨b, h1, _⟩ := DataW.trod_bool Tryz.underlying4 h
  simp at h1
  exact ⟨b, h1⟩
theorem part_sz {t : TypeId} {fs : Array Field} {xs : List (DataW H × List MemPlace)} (ht : Tryz.prog.underlying t = some (.struct fs)) (h : Sz t (.agg (xs.map (·.1)))) {i : Nat} {f : Field} {y : DataW H × List MemPlace} (hf : fs[i]? = some f) (hy : xs[i]? = some y) : Sz f.type y.1 := by
  intro n hn
  refine h n ?_
  rw [DataW.weights, ht]
  refine DataW.weights_mem_each (j := i) ?_ ?_ n hn
  · rw [List.getElem?_map, Array.getElem?_toList, hf]; rfl
  · rw [List.getElem?_map, hy]; rfl

/-- Of a field: numbers of 64 bits, texts that are not too long. -/
def FOk (f : FI) : Prop := f.name.length ≤ maxLen ∧ f.type.length ≤ maxLen ∧ I64 f.number ∧ I64 f.kind ∧ I64 f.choice
set_option maxRecDepth 100000 in
theorem open_fld (fuel : Nat) (a : Addr) (cs : List Value) (d : DataW H) (pl : List MemPlace) (hc : w.cells? base a 6 = some cs) (h : DataW.trod enc Tryz.prog w base spare held fuel 39 cs = some (d, pl)) (_ : Sz 39 d) : ∃ y, FAt w a y ∧ FOk y := by
  obtain ⟨_, hlen, hcell⟩ := World.cells?_some hc
  obtain ⟨xs, n, _, _, _, hxl, hf⟩ := DataW.trod_struct Tryz.underlying39 h
  match cs, hlen with
  | [v0, v1, v2, v3, v4, v5], _ =>
    have hxs : xs.length = 6 := hxl
    have f0 : DataW.trod enc Tryz.prog w base spare held n 9 [v0] = xs[0]? := hf 0 _ rfl
    have f1 : DataW.trod enc Tryz.prog w base spare held n 3 [v1] = xs[1]? := hf 1 _ rfl
    have f2 : DataW.trod enc Tryz.prog w base spare held n 3 [v2] = xs[2]? := hf 2 _ rfl
    have f3 : DataW.trod enc Tryz.prog w base spare held n 9 [v3] = xs[3]? := hf 3 _ rfl
    have f4 : DataW.trod enc Tryz.prog w base spare held n 4 [v4] = xs[4]? := hf 4 _ rfl
    have f5 : DataW.trod enc Tryz.prog w base spare held n 3 [v5] = xs[5]? := hf 5 _ rfl
    rw [List.getElem?_eq_getElem (by omega)] at f0 f1 f2 f3 f4 f5
    obtain ⟨s0, rfl, z0⟩ := open_str f0
    obtain ⟨n1, rfl, z1⟩ := open_num f1
    obtain ⟨n2, rfl, z2⟩ := open_num f2
    obtain ⟨s3, rfl, z3⟩ := open_str f3
    obtain ⟨b4, rfl⟩ := open_bool f4
    obtain ⟨n5, rfl, z5⟩ := open_num f5
    refine ⟨⟨s0, n1, n2, s3, b4, n5⟩, ⟨?_, hcell 1 (by omega), hcell 2 (by omega), hcell 3 (by omega), hcell 4 (by omega), hcell 5 (by omega)⟩, z0, z3, z1, z2, z5⟩
    have := hcell 0 (by omega)
    simpa [Addr.add] using this
def TOk (i : II) : Prop := i.name.length ≤ maxLen ∧ I64 i.value
set_option maxRecDepth 100000 in
theorem open_itm (fuel : Nat) (a : Addr) (cs : List Value) (d : DataW H) (pl : List MemPlace) (hc : w.cells? base a 2 = some cs) (h : DataW.trod enc Tryz.prog w base spare held fuel 52 cs = some (d, pl)) (_ : Sz 52 d) : ∃ y, TAt w a y ∧ TOk y := by
  obtain ⟨_, hlen, hcell⟩ := World.cells?_some hc
  obtain ⟨xs, n, _, _, _, hxl, hf⟩ := DataW.trod_struct Tryz.underlying52 h
  match cs, hlen with
  | [v0, v1], _ =>
    have hxs : xs.length = 2 := hxl
    have f0 : DataW.trod enc Tryz.prog w base spare held n 9 [v0] = xs[0]? := hf 0 _ rfl
    have f1 : DataW.trod enc Tryz.prog w base spare held n 3 [v1] = xs[1]? := hf 1 _ rfl
    rw [List.getElem?_eq_getElem (by omega)] at f0 f1
    obtain ⟨s0, rfl, z0⟩ := open_str f0
    obtain ⟨n1, rfl, z1⟩ := open_num f1
    refine ⟨⟨s0, n1⟩, ⟨?_, hcell 1 (by omega)⟩, z0, z1⟩
    have := hcell 0 (by omega)
    simpa [Addr.add] using this
theorem open_int (fuel : Nat) (a : Addr) (cs : List Value) (d : DataW H) (pl : List MemPlace) (hc : w.cells? base a 1 = some cs) (h : DataW.trod enc Tryz.prog w base spare held fuel 3 cs = some (d, pl)) (_ : Sz 3 d) : ∃ y, NAt w a y ∧ I64 y := by
  obtain ⟨_, hlen, hcell⟩ := World.cells?_some hc
  match cs, hlen with
  | [v0], _ =>
    obtain ⟨n1, rfl, z1⟩ := open_num h
    refine ⟨n1, ?_, z1⟩
    have := hcell 0 (by omega)
    simpa [Addr.add, NAt] using this
def MOk (m : MI) : Prop := m.name.length ≤ maxLen ∧ (∀ f ∈ m.fields, FOk f) ∧ (∀ n ∈ m.barred, I64 n) ∧ m.fields.length * 64 ≤ reachBytes ∧ m.barred.length * 8 ≤ reachBytes
set_option maxRecDepth 100000 in
theorem open_msg (fuel : Nat) (a : Addr) (cs : List Value) (d : DataW H) (pl : List MemPlace) (hc : w.cells? base a 3 = some cs) (h : DataW.trod enc Tryz.prog w base spare held fuel 37 cs = some (d, pl)) (hsz : Sz 37 d) : ∃ y, MAt w a y ∧ MOk y := by
  obtain ⟨_, hlen, hcell⟩ := World.cells?_some hc
  obtain ⟨xs, n, _, hx, _, hxl, hf⟩ := DataW.trod_struct Tryz.underlying37 h
  have hd := (Prod.mk.inj hx).1
  rw [hd] at hsz
  match cs, hlen with
  | [v0, v1, v2], _ =>
    have hxs : xs.length = 3 := hxl
    have f0 : DataW.trod enc Tryz.prog w base spare held n 9 [v0] = xs[0]? := hf 0 _ rfl
    have f1 : DataW.trod enc Tryz.prog w base spare held n 34 [v1] = xs[1]? := hf 1 _ rfl
    have f2 : DataW.trod enc Tryz.prog w base spare held n 35 [v2] = xs[2]? := hf 2 _ rfl
    rw [List.getElem?_eq_getElem (by omega)] at f0 f1 f2
    have q1 : Sz 34 (xs[1]'(by omega)).1 := part_sz (i := 1) Tryz.underlying37 hsz rfl (List.getElem?_eq_getElem (by omega))
    have q2 : Sz 35 (xs[2]'(by omega)).1 := part_sz (i := 2) Tryz.underlying37 hsz rfl (List.getElem?_eq_getElem (by omega))
    obtain ⟨s0, rfl, z0⟩ := open_str f0
    obtain ⟨u1, l1, e1, r1, k1, b1⟩ := open_list (P := FAt) (Q := FOk) (sz := 6) (bytes := 64) Tryz.underlying34 (by kernel_rfl) (by kernel_rfl) ⟨[], 0, 0, [], false, 0⟩ open_fld f1 q1
    obtain ⟨u2, l2, e2, r2, k2, b2⟩ := open_list (P := NAt) (Q := I64) (sz := 1) (bytes := 8) Tryz.underlying35 (by kernel_rfl) (by kernel_rfl) 0 open_int f2 q2
    simp at e1 e2
    subst e1 e2
    refine ⟨⟨s0, l1, l2⟩, ⟨v1, v2, ?_, hcell 1 (by omega), hcell 2 (by omega), r1, r2⟩, z0, k1, k2, b1, b2⟩
    have := hcell 0 (by omega)
    simpa [Addr.add] using this
def EOk (e : EI) : Prop := e.name.length ≤ maxLen ∧ (∀ f ∈ e.items, TOk f) ∧ e.items.length * 24 ≤ reachBytes
set_option maxRecDepth 100000 in
theorem open_enm (fuel : Nat) (a : Addr) (cs : List Value) (d : DataW H) (pl : List MemPlace) (hc : w.cells? base a 2 = some cs) (h : DataW.trod enc Tryz.prog w base spare held fuel 50 cs = some (d, pl)) (hsz : Sz 50 d) : ∃ y, EAt w a y ∧ EOk y := by
  obtain ⟨_, hlen, hcell⟩ := World.cells?_some hc
  obtain ⟨xs, n, _, hx, _, hxl, hf⟩ := DataW.trod_struct Tryz.underlying50 h
  have hd := (Prod.mk.inj hx).1
  rw [hd] at hsz
  match cs, hlen with
  | [v0, v1], _ =>
    have hxs : xs.length = 2 := hxl
    have f0 : DataW.trod enc Tryz.prog w base spare held n 9 [v0] = xs[0]? := hf 0 _ rfl
    have f1 : DataW.trod enc Tryz.prog w base spare held n 48 [v1] = xs[1]? := hf 1 _ rfl
    rw [List.getElem?_eq_getElem (by omega)] at f0 f1
    have q1 : Sz 48 (xs[1]'(by omega)).1 := part_sz (i := 1) Tryz.underlying50 hsz rfl (List.getElem?_eq_getElem (by omega))
    obtain ⟨s0, rfl, z0⟩ := open_str f0
    obtain ⟨u1, l1, e1, r1, k1, b1⟩ := open_list (P := TAt) (Q := TOk) (sz := 2) (bytes := 24) Tryz.underlying48 (by kernel_rfl) (by kernel_rfl) ⟨[], 0⟩ open_itm f1 q1
    simp at e1
    subst e1
    refine ⟨⟨s0, l1⟩, ⟨v1, ?_, hcell 1 (by omega), r1⟩, z0, k1, b1⟩
    have := hcell 0 (by omega)
    simpa [Addr.add] using this
def GOk (g : GI) : Prop := (∀ m ∈ g.msgs, MOk m) ∧ (∀ e ∈ g.enums, EOk e) ∧ g.msgs.length * 64 ≤ reachBytes ∧ g.enums.length * 40 ≤ reachBytes
set_option maxRecDepth 100000 in
/-- A file that came in. -/
theorem open_file {v : Value} {fuel : Nat} {d : DataW H} {pl : List MemPlace} (h : DataW.trod enc Tryz.prog w base spare held fuel 25 v.cells.toList = some (d, pl)) (hsz : Sz 25 d) : ∃ vm ve g, v = .agg #[vm, ve] ∧ GRd w vm ve g ∧ GOk g := by
  obtain ⟨xs, n, _, hx, hlen, hxl, hf⟩ := DataW.trod_struct Tryz.underlying25 h
  have hd := (Prod.mk.inj hx).1
  rw [hd] at hsz
  have hl2 : v.cells.toList.length = 2 := hlen
  generalize hcs : v.cells.toList = cs at hl2 hf
  match cs, hl2 with
  | [v0, v1], _ =>
    have hxs : xs.length = 2 := hxl
    have f0 : DataW.trod enc Tryz.prog w base spare held n 22 [v0] = xs[0]? := hf 0 _ rfl
    have f1 : DataW.trod enc Tryz.prog w base spare held n 23 [v1] = xs[1]? := hf 1 _ rfl
    rw [List.getElem?_eq_getElem (by omega)] at f0 f1
    have q0 : Sz 22 (xs[0]'(by omega)).1 := part_sz (i := 0) Tryz.underlying25 hsz rfl (List.getElem?_eq_getElem (by omega))
    have q1 : Sz 23 (xs[1]'(by omega)).1 := part_sz (i := 1) Tryz.underlying25 hsz rfl (List.getElem?_eq_getElem (by omega))
    obtain ⟨u0, l0, e0, r0, k0, b0⟩ := open_list (P := MAt) (Q := MOk) (sz := 3) (bytes := 64) Tryz.underlying22 (by kernel_rfl) (by kernel_rfl) ⟨[], [], []⟩ open_msg f0 q0
    obtain ⟨u1, l1, e1, r1, k1, b1⟩ := open_list (P := EAt) (Q := EOk) (sz := 2) (bytes := 40) Tryz.underlying23 (by kernel_rfl) (by kernel_rfl) ⟨[], []⟩ open_enm f1 q1
    simp at e0 e1
    subst e0 e1
    refine ⟨v0, v1, ⟨l0, l1⟩, ?_, ⟨r0, r1⟩, k0, k1, b0, b1⟩
    cases v <;> simp [Value.cells] at hcs
    rename_i cs
    have : cs = #[v0, v1] := by cases cs; simp_all
    rw [this]
theorem GOk.fits {g : GI} (h : GOk g) : Fits g := by
  have hm : maxLen ≤ 9223372036854775807 := by unfold maxLen; omega
  exact ⟨fun m hm' => ⟨Nat.le_trans (h.1 m hm').1 hm, fun f hf => Nat.le_trans ((h.1 m hm').2.1 f hf).1 hm⟩, fun e he => ⟨Nat.le_trans (h.2.1 e he).1 hm, fun i hi => Nat.le_trans ((h.2.1 e he).2.1 i hi).1 hm⟩⟩
end

end L
end Go.Proofs.YtenlijgnmhdopaaGreatDoor

