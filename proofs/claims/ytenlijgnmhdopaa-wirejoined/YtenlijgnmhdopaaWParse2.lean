/- The contract of Parse: the walk. -/
import Derived.Test.YtenlijgnmhdopaaWParse
namespace Go.Proofs.Ytenlijgnmhdopaa
open Go.RowKit

/-- What Parse answers, from the byte number at on. -/
def parseGo : Nat → Nat → List Rcd → List UInt8 → List Rcd × Nat × Nat
  | 0, _, acc, _ => (acc, 0, 0)
  | f + 1, at_, acc, l =>
    if l.length = 0 then (acc, 0, 0)
    else if (recOf l).2.2 ≠ 0 then ([], (recOf l).2.2, at_)
    else parseGo f (at_ + (recOf l).2.1) (acc ++ [(recOf l).1]) (l.drop (recOf l).2.1)
def parseR (l : List UInt8) : List Rcd × Nat × Nat := if 4000 < l.length then ([], 4, 0) else parseGo l.length 0 [] l

theorem recOf_bd {l : List UInt8} {r : Rcd} {n E : Nat} (h : recOf l = (r, n, E)) : E ≤ 3 ∧ n ≤ l.length ∧ (E = 0 → 1 ≤ n ∧ r.bytes.length ≤ n ∧ 1 ≤ r.num ∧ r.num < 536870912 ∧ isHowB r.how = true ∧ 0 ≤ r.how ∧ r.how < 8) ∧ r.wf := by
  obtain ⟨A, B, C, D, hT⟩ : ∃ A B C D, tagR l = (A, B, C, D) := ⟨_, _, _, _, rfl⟩
  obtain ⟨t1, t2, t3, t4, t5, t6⟩ := tagR_bd hT
  rw [recOf, hT] at h
  dsimp only at h
  split at h
  · obtain ⟨rfl, rfl, rfl⟩ := three_eq h
    refine ⟨by omega, by omega, fun h => by omega, ?_⟩
    simp [Rcd.wf]
  · rename_i h0
    obtain ⟨c1, c2, c3⟩ := t6 (by omega)
    unfold recTail at h
    split at h
    · obtain ⟨S, T, U, hs⟩ : ∃ S T U, sizedR (l.drop C) = (S, T, U) := ⟨_, _, _, rfl⟩
      obtain ⟨s1, s2, s3, s4, s5⟩ := sizedR_bd hs
      rw [hs] at h
      dsimp only at h
      rw [List.length_drop] at s1 s2
      split at h
      · obtain ⟨rfl, rfl, rfl⟩ := three_eq h
        refine ⟨by omega, by omega, fun h => by omega, ?_⟩
        simp [Rcd.wf]
      · obtain ⟨rfl, rfl, rfl⟩ := three_eq h
        refine ⟨by omega, by omega, fun _ => ⟨by omega, by dsimp only; omega, by dsimp only; omega, by dsimp only; omega, c3, by dsimp only; omega, by dsimp only; omega⟩, ?_⟩
        simp [Rcd.wf]
        omega
    · obtain ⟨S, T, U, hs⟩ : ∃ S T U, bitsR (l.drop C) (B : Int) = (S, T, U) := ⟨_, _, _, rfl⟩
      obtain ⟨s1, s2, s3, s4⟩ := bitsR_bd hs
      rw [hs] at h
      dsimp only at h
      rw [List.length_drop] at s2
      split at h
      · obtain ⟨rfl, rfl, rfl⟩ := three_eq h
        refine ⟨by omega, by omega, fun h => by omega, ?_⟩
        simp [Rcd.wf]
      · obtain ⟨rfl, rfl, rfl⟩ := three_eq h
        refine ⟨by omega, by omega, fun _ => ⟨by omega, by simp, by dsimp only; omega, by dsimp only; omega, c3, by dsimp only; omega, by dsimp only; omega⟩, ?_⟩
        simp [Rcd.wf]
        omega

theorem parseGo_end {f at_ : Nat} {acc : List Rcd} {l : List UInt8} (h : l.length = 0) : parseGo f at_ acc l = (acc, 0, 0) := by
  cases f with
  | zero => rfl
  | succ f => rw [parseGo, if_pos h]
theorem parseGo_err {f at_ n E : Nat} {acc : List Rcd} {l : List UInt8} {r : Rcd} (h : l.length ≠ 0) (hr : recOf l = (r, n, E)) (hE : E ≠ 0) : parseGo (f + 1) at_ acc l = ([], E, at_) := by
  rw [parseGo, if_neg h, hr, if_pos hE]
theorem parseGo_go {f at_ n : Nat} {acc : List Rcd} {l : List UInt8} {r : Rcd} (h : l.length ≠ 0) (hr : recOf l = (r, n, 0)) : parseGo (f + 1) at_ acc l = parseGo f (at_ + n) (acc ++ [r]) (l.drop n) := by
  rw [parseGo, if_neg h, hr, if_neg (by simp)]

theorem cells2 {w w' : World} {B g t : Nat} {a b : Value} (h : w.heap[g]? = some (.cells #[a, b] t (0, 0))) (hb : Below B w w') (hg : g < B) :
    w'.cell? ⟨g, 0, none⟩ = some a ∧ w'.cell? ⟨g, 1, none⟩ = some b ∧ w'.frozen? ⟨g, 0, none⟩ = false ∧ w'.frozen? ⟨g, 1, none⟩ = false := by
  have h' : w'.heap[g]? = some (.cells #[a, b] t (0, 0)) := by rw [hb.block g hg]; exact h
  simp [World.cell?, World.frozen?, h']

theorem OwnR.alloc {w : World} {base : Nat} {v : Value} {ps : List (Rcd × Value)} (h : OwnR w base v ps) (o : Obj) : OwnR (w.alloc o) base v ps :=
  h.keptB ((Below.refl _ _).alloc (Nat.le_refl _) _)
theorem OwnR.mono {w : World} {base base' : Nat} {v : Value} {ps : List (Rcd × Value)} (h : OwnR w base v ps) (hb : base' ≤ base) : OwnR w base' v ps := by
  refine ⟨⟨h.1.1, ?_⟩, fun p hp => ⟨(h.2 p hp).1.mono hb, (h.2 p hp).2⟩⟩
  rcases h.1.2 with hn | ⟨g, cap, cur, hv, hbg, r⟩
  · exact .inl hn
  · exact .inr ⟨g, cap, cur, hv, Nat.le_trans hb hbg, r⟩
theorem OwnR.set_below {w : World} {base : Nat} {v : Value} {ps : List (Rcd × Value)} (h : OwnR w base v ps) {a : Addr} (ha : a.block < base) (u : Value) : OwnR (w.setCell a u) base v ps :=
  ⟨ownsRow_setCell_below h.1 ha u, fun p hp => ⟨ownsRow_setCell_below (h.2 p hp).1 ha u, (h.2 p hp).2⟩⟩

set_option maxHeartbeats 2000000 in
set_option maxRecDepth 100000 in
theorem parse_eq {ao : Option Addr} {len cap : Nat} {l : List UInt8} {w : World} (hr : RdA w ao len cap l) {rs : List Rcd} {E A : Nat} (h : parseR l = (rs, E, A)) :
    Calls Try.prog 13 #[.slice ao len cap] w fun e w' => ∃ v' ps, e = .returned (.tuple #[v', .agg #[.int .i64 (E : Int), .int .i64 (A : Int)]]) ∧ OwnR w' w.heap.size v' ps ∧ ps.map Prod.fst = rs ∧ Below w.heap.size w w' := by
  have HL : Hid (l.length = len) := hr.1
  have hlc : len ≤ cap := hr.2.1
  have hcm : cap ≤ 9223372036854775807 := by have := hr.2.2.1; unfold maxLen at this; omega
  rw [parseR, HL.out] at h
  have hb0 : Below w.heap.size w (w.alloc (.cells #[.int .i64 0, .int .i64 0] 34)) := (Below.refl _ _).alloc (Nat.le_refl _) _
  by_cases hm : 4000 < len
  · rw [if_pos hm] at h
    obtain ⟨rfl, rfl, rfl⟩ := three_eq h
    clear h
    go_enter Try.func13, Try.ntmps13
    go_wp2
    refine bodyPost_ret (v := .tuple #[.slice none 0 0, .agg #[.int .i64 4, .int .i64 0]]) (by simp [results, Try.results13, go_sem]) rfl ⟨_, [], rfl, OwnR.nil _ _, rfl, ?_⟩
    exact (Below.refl _ _).alloc (Nat.le_refl _) _
  · rw [if_neg hm] at h
    have HP : Hid (parseGo len 0 [] (l.drop 0) = (rs, E, A)) := by show _ = _; rw [List.drop_zero]; exact h
    clear h
    have hmb : decide ((4000 : Int) < (len : Int)) = false := by simp; omega
    go_enter Try.func13, Try.ntmps13
    go_wp2
    go_loopw [4, 5] (fun v i wr => ∃ (f k : Nat) (ps : List (Rcd × Value)), i = .int .i64 (k : Int) ∧ k ≤ len ∧ len ≤ f + k ∧ ps.length ≤ k ∧ OwnR wr (w.heap.size + 1) v ps ∧ Below (w.heap.size + 1) (w.alloc (.cells #[.int .i64 0, .int .i64 0] 34)) wr ∧ Hid (parseGo f k (ps.map Prod.fst) (l.drop k) = (rs, E, A)))
      (fun _ i _ => len - (intOf i).toNat)
    case atStart => exact ⟨len, 0, [], rfl, Nat.zero_le _, by omega, by simp, OwnR.nil _ _, Below.refl _ _, HP⟩
    case round =>
      obtain ⟨f, k, ps, rfl, hk, hf, hpl, hown, hnx, HR⟩ := hrel
      have hbw : Below w.heap.size w wr := hb0.trans (hnx.mono (by omega))
      have hsz : w.heap.size + 1 ≤ wr.heap.size := by have := hnx.size; simpa using this
      by_cases hlt : k < len
      · obtain ⟨ao2, hsl, hrk⟩ := slice_from hr hk .i64
        obtain ⟨r, n, F, Hr⟩ : ∃ r n F, Hid (recOf (l.drop k) = (r, n, F)) := ⟨_, _, _, rfl⟩
        obtain ⟨r1, r2, r3, r4⟩ := recOf_bd Hr.out
        rw [List.length_drop, HL.out] at r2
        have hne : (l.drop k).length ≠ 0 := by rw [List.length_drop, HL.out]; omega
        have Hne : Hid ((l.drop k).length ≠ 0) := hne
        obtain ⟨f', rfl⟩ : ∃ f', f = f' + 1 := ⟨f - 1, by omega⟩
        have hrk2 := hrk.later hbw
        clear hne
        go_wp2_with fail
        refine (getRecord_eq hrk2 (by omega) Hr.out).mono ?_
        rintro e w1 ⟨sv, rfl, hosv, hbl⟩
        obtain ⟨ao3, len3, cap3, hv3, hr3⟩ := hosv.rd
        have HV : Hid (sv = .slice ao3 len3 cap3) := hv3
        rw [hv3]
        rw [hv3] at hosv
        clear hv3
        have hnx1 : Below (w.heap.size + 1) (w.alloc (.cells #[.int .i64 0, .int .i64 0] 34)) w1 := hnx.trans (hbl.mono hsz)
        obtain ⟨g0, g1, g2, g3⟩ := cells2 (g := w.heap.size) (t := 34) (a := .int .i64 0) (b := .int .i64 0) (by exact heap_alloc_new w _) hnx1 (by omega)
        have hs1 : w.heap.size + 1 ≤ w1.heap.size := by have := hbl.size; omega
        have hlt1 : w.heap.size < w1.heap.size := by omega
        by_cases h0 : F = 0
        · have hF0 : ((F : Int) != 0) = false := by simp [h0]
          have Hgo : Hid (parseGo f' (k + n) (ps.map Prod.fst ++ [r]) ((l.drop k).drop n) = (rs, E, A)) := by
            show _ = _
            rw [← HR.out, parseGo_go Hne.out (by rw [Hr.out, h0])]
          obtain ⟨n1, _, _, _, _, _, _⟩ := r3 h0
          clear h0 HR r3
          have hosv' : OwnB w1 (w.heap.size + 1) (.slice ao3 len3 cap3) r.bytes := hosv.mono hsz
          have hown1 : OwnR w1 (w.heap.size + 1) u4 ps := hown.keptB hbl
          go_wp2_with (at_builtin; refine wpList_appR rfl _ _ rfl (w.heap.size + 1) _ ps (r, .slice ao3 len3 cap3) rfl ((hown1.alloc _).alloc _) ((hosv'.alloc _).alloc _) r4 (w1.heap.size + 1) rfl ?c1 ?c2 ?c3 ?_)
          case c2 => omega
          case c3 => simp; omega
          intro v2 w2 ho2 hb2
          go_wp2
          go_roundw
          case rel =>
            refine ⟨f', k + n, ps ++ [(r, .slice ao3 len3 cap3)], by go_num, by omega, by omega, by simp; omega, ho2, ((hnx1.alloc hs1 _).alloc (by simp; omega) _).trans hb2, ?_⟩
            show _ = _
            rw [← Hgo.out, List.drop_drop, List.map_append]
            rfl
          case measure => simp [intOf]; omega
        · have hF0 : ((F : Int) != 0) = true := by rw [bne_iff_ne]; omega
          obtain ⟨rfl, rfl, rfl⟩ := three_eq (show ([], F, k) = (rs, E, A) by rw [← HR.out, parseGo_err Hne.out Hr.out h0])
          clear h0 HR r3
          go_wp2
          refine bodyPost_ret (v := .tuple #[.slice none 0 0, .agg #[.int .i64 (F : Int), .int .i64 (k : Int)]]) (by simp [results, Try.results13, go_sem, g0, g1, hlt1]) rfl ⟨_, [], rfl, OwnR.nil _ _, rfl, ?_⟩
          exact (((hb0.trans (hnx1.mono (by omega))).setCell (Nat.le_refl _) _).setCell (Nat.le_refl _) _).alloc (by simp; omega) _
      · obtain ⟨g0, g1, g2, g3⟩ := cells2 (g := w.heap.size) (t := 34) (a := .int .i64 0) (b := .int .i64 0) (by exact heap_alloc_new w _) hnx (by omega)
        obtain ⟨e1, rfl, rfl⟩ := three_eq (show (ps.map Prod.fst, 0, 0) = (rs, E, A) by rw [← HR.out, parseGo_end (by rw [List.length_drop, HL.out]; omega)])
        have E1 : Hid (ps.map Prod.fst = rs) := e1
        clear HR e1
        go_wp2
        refine bodyPost_ret (v := .tuple #[u4, .agg #[.int .i64 0, .int .i64 0]]) (by simp [results, Try.results13, go_sem, g0, g1]) rfl ⟨u4, ps, rfl, ?_, E1.out, ?_⟩
        · exact ((hown.set_below (by simp) _).set_below (by simp) _).mono (by omega)
        · exact (hbw.setCell (Nat.le_refl _) _).setCell (Nat.le_refl _) _

end Go.Proofs.Ytenlijgnmhdopaa
