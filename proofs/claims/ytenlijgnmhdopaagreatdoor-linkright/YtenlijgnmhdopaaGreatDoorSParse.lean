/- The contracts of parse and Parse. -/
import Derived.Test.YtenlijgnmhdopaaGreatDoorSAll
import Derived.Test.YtenlijgnmhdopaaGreatDoorSCatch
namespace Go.Proofs.YtenlijgnmhdopaaGreatDoor
open Go.RowKit

/-- What Parse answers, by what the plain one does. -/
def PostP (w : World) (l : List UInt8) (x : R Fil) (en : Ending) (w' : World) : Prop :=
  Below w.heap.size w w' ∧
    match x with
    | .ok (f, _) => ∃ vm ve lm le, en = .returned (.tuple #[.agg #[vm, ve], .agg #[.int .i64 0, .int .i64 0]]) ∧ FilR w' w.heap.size vm ve lm le ∧ lm.map Prod.fst = f.msgs ∧ le.map Prod.fst = f.enums ∧ lm.length + le.length ≤ 10
    | .error (some (c, t)) => t.length ≤ l.length ∧ en = .returned (.tuple #[.agg #[.slice none 0 0, .slice none 0 0], .agg #[.int .i64 (c : Int), .int .i64 ((l.length - t.length : Nat) : Int)]])
    | .error none => False

theorem alloc3 (w : World) (o1 o2 o3 : Obj) : (((w.alloc o1).alloc o2).alloc o3).heap[w.heap.size + 2]? = some o3 ∧ (((w.alloc o1).alloc o2).alloc o3).heap[w.heap.size + 1]? = some o2 ∧ (((w.alloc o1).alloc o2).alloc o3).heap[w.heap.size]? = some o1 := by
  refine ⟨?_, ?_, ?_⟩
  · have := heap_alloc_new ((w.alloc o1).alloc o2) o3
    rwa [show ((w.alloc o1).alloc o2).heap.size = w.heap.size + 2 by simp] at this
  · rw [Below.heap_alloc _ _ _ (by simp)]; exact alloc2_new _ _ _
  · rw [Below.heap_alloc _ _ _ (by simp; omega)]; exact alloc2_old _ _ _

theorem FilR.mono {w : World} {base base' : Nat} {vm ve : Value} {lm : List (Msg × SV × SV)} {le : List (Enm × SV)} (h : FilR w base vm ve lm le) (hb : base' ≤ base) : FilR w base' vm ve lm le :=
  ⟨h.rowm.mono hb, h.rowe.mono hb, fun p hp => ⟨(h.ms p hp).1.mono hb, (h.ms p hp).2.mono hb⟩, fun p hp => (h.es p hp).mono hb⟩

set_option maxHeartbeats 2000000 in
set_option maxRecDepth 100000 in
theorem parse_anyT {B : Nat} (l : List UInt8) (hl : l.length ≤ 3000) {w : World} (hg : Gl B w) (hB : B ≤ w.heap.size) (K : Nat) (hKb : K ≤ 1000000) (hN : parseL K l ≠ .error none) :
    Calls Tryz.prog 26 #[.string (S l)] w (PostP w l (parseL K l)) := by
  have hmf : ∀ (fn : Fn) (first cap : Array Value) (w : World), (Instr.makeFunc fn first cap).run Tryz.prog w = .ok (.func fn first cap) w := fun _ _ _ _ => rfl
  obtain ⟨a3, a2, a1⟩ := alloc3 w (.cells #[.slice none 0 0, .slice none 0 0] 25) (.cells #[.int .i64 0, .int .i64 0] 29) (.cells #[.string (S l), .int .i64 0, .slice none 0 0, .slice none 0 0] 88)
  have hb3 : Below w.heap.size w (((w.alloc (.cells #[.slice none 0 0, .slice none 0 0] 25)).alloc (.cells #[.int .i64 0, .int .i64 0] 29)).alloc (.cells #[.string (S l), .int .i64 0, .slice none 0 0, .slice none 0 0] 88)) :=
    (((Below.refl _ _).alloc (Nat.le_refl _) _).alloc (by simp) _).alloc (by simp; omega) _
  go_enter_defers Tryz.func26, Tryz.ntmps26
  go_wp2_with fail
  generalize hW : ((w.alloc (.cells #[.slice none 0 0, .slice none 0 0] 25)).alloc (.cells #[.int .i64 0, .int .i64 0] 29)).alloc (.cells #[.string (S l), .int .i64 0, .slice none 0 0, .slice none 0 0] 88) = W at *
  have hWs : W.heap.size = w.heap.size + 3 := by rw [← hW]; simp
  clear hW
  have hs : St W (w.heap.size + 2) l l (.slice none 0 0) (.slice none 0 0) := ⟨hl, Nat.le_refl _, by simp, by rw [a3]; simp⟩
  refine (all_any hs (hg.later (hb3.mono hB)) (by omega) K hKb hN).mono ?_
  rintro en w1 ⟨hk, hx⟩
  have b2 := blk_kp a2 hk (by omega)
  have b1 := blk_kp a1 hk (by omega)
  have hbw : Below w.heap.size w w1 := hb3.trans (hk.below (by omega) (by omega))
  cases hp : parseL K l with
  | error E =>
    have hp' : allGo K K ⟨[], []⟩ l = .error E := hp
    rw [hp'] at hx
    match E, hx with
    | none, hx => exact hx.elim
    | some (c, t), hx =>
      obtain ⟨ht, rfl⟩ := hx
      have HP : Hid (parseL K l = .error (some (c, t))) := hp
      clear hp hp' hN hx
      obtain ⟨d0, d1⟩ := blk2 b1
      obtain ⟨e0, e1⟩ := blk2 b2
      have k0 := fr_of_blk b2 0
      have k1 := fr_of_blk b2 1
      go_wp2
      refine leaves_cons (f := 40) (args := #[.pointer (some ⟨w.heap.size + 1, 0, none⟩)]) (by simp) (by simp [go_sem]) ?_
      refine (catch_thrown (w.heap.size + 1) c _ w1 0 0 e0 e1 k0 k1).mono ?_
      rintro e u' w'' ⟨rfl, rfl, rfl⟩
      simp [Leaves, settle, results, Tryz.results26, go_sem, d0, d1, e0, e1]
      exact ⟨(hbw.setCell (p := ⟨w.heap.size + 1, 0, none⟩) (by simp) _).setCell (p := ⟨w.heap.size + 1, 1, none⟩) (by simp) _, ht, rfl⟩
  | ok p =>
    obtain ⟨f, t⟩ := p
    have hp' : allGo K K ⟨[], []⟩ l = .ok (f, t) := hp
    rw [hp'] at hx
    obtain ⟨rfl, vm, ve, lm, le, hF, hm, he, hlen, hst⟩ := hx
    obtain ⟨aom, nm, capm, rfl, _⟩ := hF.rowm.shape'
    obtain ⟨aoe, ne, cape, rfl, _⟩ := hF.rowe.shape'
    obtain ⟨c2, c3⟩ := hst.c23
    obtain ⟨d0, d1⟩ := blk2 b1
    obtain ⟨e0, e1⟩ := blk2 b2
    have g0 := fr_of_blk b1 0
    have g1 := fr_of_blk b1 1
    have k0 := fr_of_blk b2 0
    have k1 := fr_of_blk b2 1
    have HP : Hid (parseL K l = .ok (f, t)) := hp
    clear hp hp' hN
    go_wp2
    refine leaves_cons (f := 40) (args := #[.pointer (some ⟨w.heap.size + 1, 0, none⟩)]) (by simp) (by simp [go_sem]) ?_
    refine (catch_idle (w.heap.size + 1) _).mono ?_
    rintro e u' w'' ⟨rfl, rfl, rfl⟩
    simp [Leaves, settle, results, Tryz.results26, go_sem, d0, d1, e0, e1]
    rw [HP.out]
    refine ⟨(((hbw.setCell (p := ⟨w.heap.size, 0, none⟩) (by simp) _).setCell (p := ⟨w.heap.size, 1, none⟩) (by simp) _).setCell (p := ⟨w.heap.size + 1, 0, none⟩) (by simp) _).setCell (p := ⟨w.heap.size + 1, 1, none⟩) (by simp) _, _, _, lm, le, rfl, ?_, hm, he, hlen⟩
    exact ((((hF.set (b := w.heap.size) (by omega) _ _).set (b := w.heap.size) (by omega) _ _).set (b := w.heap.size + 1) (by omega) _ _).set (b := w.heap.size + 1) (by omega) _ _).mono (by omega)

set_option maxHeartbeats 2000000 in
theorem Parse_any {B : Nat} (l : List UInt8) (hl : l.length ≤ 3000) {w : World} (hg : Gl B w) (hB : B ≤ w.heap.size) (K : Nat) (hKb : K ≤ 1000000) (hN : parseL K l ≠ .error none) :
    Calls Tryz.prog 11 #[.string (S l)] w (PostP w l (parseL K l)) := by
  have hsz := S_size l
  have hli : ((l.length : Nat) : Int) ≤ 3000 := by omega
  have hb0 : Below w.heap.size w ((w.alloc (.cells #[.slice none 0 0, .slice none 0 0] 25)).alloc (.cells #[.int .i64 0, .int .i64 0] 29)) := ((Below.refl _ _).alloc (Nat.le_refl _) _).alloc (by simp) _
  have a2 := alloc2_new w (.cells #[.slice none 0 0, .slice none 0 0] 25) (.cells #[.int .i64 0, .int .i64 0] 29)
  have a1 := alloc2_old w (.cells #[.slice none 0 0, .slice none 0 0] 25) (.cells #[.int .i64 0, .int .i64 0] 29)
  go_enter Tryz.func11, Tryz.ntmps11
  go_wp2_with fail
  generalize hW : (w.alloc (.cells #[.slice none 0 0, .slice none 0 0] 25)).alloc (.cells #[.int .i64 0, .int .i64 0] 29) = W at *
  have hWs : W.heap.size = w.heap.size + 2 := by rw [← hW]; simp
  clear hW
  refine (parse_anyT l hl (hg.later (hb0.mono hB)) (by omega) K hKb hN).mono ?_
  rintro en w1 ⟨hk, hx⟩
  have b2 := blk_below a2 hk
  have b1 := blk_below a1 hk
  have hbw : Below w.heap.size w w1 := hb0.trans (hk.mono (by omega))
  obtain ⟨d0, d1⟩ := blk2 b1
  obtain ⟨e0, e1⟩ := blk2 b2
  have g0 := fr_of_blk b1 0
  have g1 := fr_of_blk b1 1
  have k0 := fr_of_blk b2 0
  have k1 := fr_of_blk b2 1
  clear a1 a2 hb0 hk
  cases hp : parseL K l with
  | error E =>
    rw [hp] at hx
    match E, hx with
    | none, hx => exact hx.elim
    | some (c, t), hx =>
      obtain ⟨ht, rfl⟩ := hx
      have HP : Hid (parseL K l = .error (some (c, t))) := hp
      clear hp hN hx
      obtain ⟨N, HN⟩ : ∃ N, Hid (N = l.length - t.length) := ⟨_, rfl⟩
      rw [← HN.out]
      go_wp2
      refine bodyPost_ret (v := .tuple #[.agg #[.slice none 0 0, .slice none 0 0], .agg #[.int .i64 (c : Int), .int .i64 (N : Int)]]) (by simp [results, Tryz.results11, go_sem, d0, d1, e0, e1]) rfl ?_
      rw [HN.out, HP.out]
      exact ⟨(((hbw.setCell (p := ⟨w.heap.size, 0, none⟩) (by simp) _).setCell (p := ⟨w.heap.size, 1, none⟩) (by simp) _).setCell (p := ⟨w.heap.size + 1, 0, none⟩) (by simp) _).setCell (p := ⟨w.heap.size + 1, 1, none⟩) (by simp) _, ht, rfl⟩
  | ok p =>
    obtain ⟨f, t⟩ := p
    rw [hp] at hx
    obtain ⟨vm, ve, lm, le, rfl, hF, hm, he, hlen⟩ := hx
    obtain ⟨aom, nm, capm, rfl, _⟩ := hF.rowm.shape'
    obtain ⟨aoe, ne, cape, rfl, _⟩ := hF.rowe.shape'
    have HP : Hid (parseL K l = .ok (f, t)) := hp
    clear hp hN
    go_wp2
    refine bodyPost_ret (v := .tuple #[.agg #[.slice aom nm capm, .slice aoe ne cape], .agg #[.int .i64 0, .int .i64 0]]) (by simp [results, Tryz.results11, go_sem, d0, d1, e0, e1]) rfl ?_
    rw [HP.out]
    refine ⟨(((hbw.setCell (p := ⟨w.heap.size, 0, none⟩) (by simp) _).setCell (p := ⟨w.heap.size, 1, none⟩) (by simp) _).setCell (p := ⟨w.heap.size + 1, 0, none⟩) (by simp) _).setCell (p := ⟨w.heap.size + 1, 1, none⟩) (by simp) _, _, _, lm, le, rfl, ?_, hm, he, hlen⟩
    exact ((((hF.set (b := w.heap.size) (by omega) _ _).set (b := w.heap.size) (by omega) _ _).set (b := w.heap.size + 1) (by omega) _ _).set (b := w.heap.size + 1) (by omega) _ _).mono (by omega)

set_option maxHeartbeats 2000000 in
/-- A text that is too long. -/
theorem Parse_much (s : ByteArray) (hl : 3000 < s.size) (hm : s.size ≤ 9223372036854775807) (w : World) :
    Calls Tryz.prog 11 #[.string s] w fun en w' => en = .returned (.tuple #[.agg #[.slice none 0 0, .slice none 0 0], .agg #[.int .i64 4, .int .i64 0]]) ∧ Below w.heap.size w w' := by
  have hli : (3000 : Int) < (s.size : Int) := by omega
  go_enter Tryz.func11, Tryz.ntmps11
  go_wp2
  refine bodyPost_ret (v := .tuple #[.agg #[.slice none 0 0, .slice none 0 0], .agg #[.int .i64 4, .int .i64 0]]) (by simp [results, Tryz.results11, go_sem]) rfl ?_
  refine ⟨rfl, ?_⟩
  exact ((Below.refl _ _).alloc (Nat.le_refl _) _).alloc (by simp) _

end Go.Proofs.YtenlijgnmhdopaaGreatDoor
