/- The walk of SyntaxAgain. -/
import Derived.Test.YtenlijgnmhdopaaDoorSAlive
import Derived.Test.YtenlijgnmhdopaaDoorSPar
import Derived.Test.YtenlijgnmhdopaaDoorSNbr
import Derived.Test.YtenlijgnmhdopaaDoorSNum2
namespace Go.Proofs.YtenlijgnmhdopaaDoor
open Go.RowKit

theorem numM_numb {m : Msg} (h : ∀ f ∈ m.fields, TypeOk f) : numM m = numbM m := by
  unfold numM numbM
  rw [map_reT h]
theorem nil_mem_elim {α : Type} {P : α → Prop} : ∀ p ∈ ([] : List α), P p := fun _ hp => (List.not_mem_nil hp).elim
theorem clash_none {ms : List Msg} (h : clashL ms = false) : ∀ m ∈ ms, ∀ f ∈ m.fields, clashF f = false := by
  intro m hm f hf
  unfold clashL at h
  rw [List.any_eq_false] at h
  have h1 := h m hm
  rw [Bool.not_eq_true, List.any_eq_false] at h1
  simpa using h1 f hf

/-- What is known of a parsed file: its lists, and that they may be printed. -/
structure Good (ms : List Msg) (es : List Enm) : Prop where
  m : ∀ m ∈ ms, MsgP m ∧ (m.fields.length ≤ 16 ∧ m.barred.length ≤ 16)
  e : ∀ e ∈ es, EnmOk e
  n : ms.length + es.length ≤ 10
theorem Good.of {K : Nat} {l u : List UInt8} {f : Fil} (h : parseL K l = .ok (f, u)) (hn : f.msgs.length + f.enums.length ≤ 10) : Good f.msgs f.enums := by
  obtain ⟨g1, g2⟩ := parse_good h
  obtain ⟨s1, s2⟩ := parse_small h
  exact ⟨fun m hm => ⟨g1 m hm, s1 m hm⟩, fun e he => ⟨(g2 e he).1, (g2 e he).2, s2 e he⟩, hn⟩
theorem Good.print {B base : Nat} {w : World} {vm ve : Value} {lm : List (Msg × SV × SV)} {le : List (Enm × SV)} {ms : List Msg} {es : List Enm} (G : Good ms es) (h : FilR w base vm ve lm le) (hm : lm.map Prod.fst = ms) (he : le.map Prod.fst = es) (hg : Gl B w) (hB : B ≤ w.heap.size) :
    Calls Tryd.prog 8 #[.agg #[vm, ve]] w fun e w' => e = .returned (.string (S (printP ms es))) ∧ Below w.heap.size w w' := by
  have l1 : lm.length = ms.length := by rw [← hm]; simp
  have l2 : le.length = es.length := by rw [← he]; simp
  have hn := G.n
  have hp := print_any h hg hB (by omega) (by omega) (fun p hp => by
    have q := G.m p.1 (by rw [← hm]; exact List.mem_map_of_mem hp)
    exact ⟨by omega, by omega, fun f hf => by have := (q.1.2.1 f hf).1.2.2.1; unfold mostN at this; omega, fun n hn => by have := q.1.2.2 n hn; unfold mostN at this; omega⟩) (fun p hp => by
    have q := G.e p.1 (by rw [← he]; exact List.mem_map_of_mem hp)
    exact ⟨by have := q.2.2; omega, fun i hi => by have := q.2.1 i hi; exact ⟨by have := this.2.1; omega, by have := this.2.2; omega⟩⟩) (by rw [hm, he]; exact print_le G.m G.e G.n)
  rw [hm, he] at hp
  exact hp
theorem Good.num {ms : List Msg} {es : List Enm} (G : Good ms es) : Good (ms.map numbM) es := by
  refine ⟨?_, G.e, by have := G.n; simpa using this⟩
  intro m hm
  obtain ⟨x, hx, rfl⟩ := List.mem_map.1 hm
  obtain ⟨q, s⟩ := G.m x hx
  refine ⟨⟨q.1, ?_, q.2.2⟩, by show (numGo 0 0 x.fields).length ≤ 16; rw [numGo_len]; exact s.1, s.2⟩
  refine numGo_all (P := fun f => FldOk f ∧ TypeOk f) (fun f c hf hc => ⟨⟨hf.1.1, hf.1.2.1, hf.1.2.2.1, fun h => hf.1.2.2.2 fun e => h (hc e)⟩, hf.2⟩) x.fields 0 0 q.2.1
theorem Good.mapM {ms : List Msg} {es : List Enm} (G : Good ms es) : ms.map numM = ms.map numbM :=
  List.map_congr_left fun m hm => numM_numb fun f hf => ((G.m m hm).1.2.1 f hf).2
theorem Good.round {ms : List Msg} {es : List Enm} (G : Good ms es) (hc : clashL ms = false) : parseL 100 (printP ms es) = .ok (⟨ms.map numbM, es⟩, []) ∧ printP (ms.map numbM) es = printP ms es := by
  rw [← G.mapM]
  refine ⟨parse_print (fun m hm => msg_ok (G.m m hm).1 (G.m m hm).2 (clash_none hc m hm)) G.e G.n, print_num fun m hm f hf => ((G.m m hm).1.2.1 f hf).2⟩

/-- What the last row stands on: two files, where they lie, the library's variables. -/
structure AS (w0 : World) (B b1 b2 F G : Nat) (am ae am2 ae2 : Option Addr) (nm cm ne ce nm2 cm2 ne2 ce2 : Nat) (lm lm2 : List (Msg × SV × SV)) (le le2 : List (Enm × SV)) (W : World) : Prop where
  f : FilR W b1 (.slice am nm cm) (.slice ae ne ce) lm le
  g : FilR W b2 (.slice am2 nm2 cm2) (.slice ae2 ne2 ce2) lm2 le2
  bf : W.heap[F]? = some (.cells #[.slice am nm cm, .slice ae ne ce] 26 (0, 0))
  bg : W.heap[G]? = some (.cells #[.slice am2 nm2 cm2, .slice ae2 ne2 ce2] 26 (0, 0))
  gl : Gl B W
  sz : B ≤ W.heap.size
  s1 : b1 ≤ W.heap.size
  bw : Below w0.heap.size w0 W
theorem AS.below {w0 W W' : World} {B b1 b2 F G : Nat} {am ae am2 ae2 : Option Addr} {nm cm ne ce nm2 cm2 ne2 ce2 : Nat} {lm lm2 : List (Msg × SV × SV)} {le le2 : List (Enm × SV)} (h : AS w0 B b1 b2 F G am ae am2 ae2 nm cm ne ce nm2 cm2 ne2 ce2 lm lm2 le le2 W) (hb : Below W.heap.size W W') : AS w0 B b1 b2 F G am ae am2 ae2 nm cm ne ce nm2 cm2 ne2 ce2 lm lm2 le le2 W' :=
  ⟨h.f.below hb, h.g.below hb, blk_below h.bf hb, blk_below h.bg hb, h.gl.later (hb.mono h.sz), Nat.le_trans h.sz hb.size, Nat.le_trans h.s1 hb.size, h.bw.trans (hb.mono h.bw.size)⟩

theorem act_gen {P : Program} {md : Region.Mode} {ops : Array Oper} {Q : Exit → Act → World → Prop} {fuel : Nat} {listed : Array Bool} {a : Act} {w : World} (R : Act → Prop) (hR : R a) (h : ∀ A, a = A → R A → wpAny P md ops Q fuel listed A w) : wpAny P md ops Q fuel listed a w := h a rfl hR

set_option maxHeartbeats 4000000 in
set_option maxRecDepth 100000 in
theorem again_walk {B : Nat} {w : World} (l : List UInt8) (hl : l.length ≤ 140737488351232) (hg : Gl B w) (hB : B ≤ w.heap.size) :
    Calls Tryd.prog 3 #[.string (S l)] w fun e w' => e = .returned (.bool true) ∧ Below w.heap.size w w' := by
  have hsl := S_size l
  go_enter Tryd.func3, Tryd.ntmps3
  go_wp2_with fail
  refine (alive_any hg hB).mono ?_
  rintro e w1 ⟨rfl, hb1⟩
  by_cases hbig : 3000 < l.length
  · have hmuch := Parse_much (S l) (by rw [S_size]; exact hbig) (by rw [S_size]; omega) w1
    go_wp2_with fail
    refine hmuch.mono ?_
    rintro e w2 ⟨rfl, hb2⟩
    have hbw2 : Below w.heap.size w w2 := hb1.trans (hb2.mono hb1.size)
    obtain ⟨W2, HW2⟩ : ∃ W2, Hid (W2 = (w2.alloc (.cells #[.slice none 0 0, .slice none 0 0] 26)).alloc (.cells #[.int .i64 4, .int .i64 0] 29)) := ⟨_, rfl⟩
    have hB2 : Below w2.heap.size w2 W2 := by rw [HW2.out]; exact ((Below.refl _ _).alloc (Nat.le_refl _) _).alloc (by simp) _
    have hx2 : W2.heap[w2.heap.size + 1]? = some (.cells #[.int .i64 4, .int .i64 0] 29 (0, 0)) := by rw [HW2.out]; exact alloc2_new _ _ _
    have hz2 : W2.heap.size = w2.heap.size + 2 := by rw [HW2.out]; simp
    clear hmuch
    go_wp2_with fail
    rw [← HW2.out]
    refine (same_file (FilR.nil _ 0) (FilR.nil _ 0) rfl rfl (by simp) (by simp) nil_mem_elim nil_mem_elim).mono ?_
    rintro e w3 ⟨rfl, hb3⟩
    have y2 := (hb3.block (w2.heap.size + 1) (by omega)).trans hx2
    obtain ⟨y20, y21⟩ := blk2 y2
    go_wp2
    go_ret
    exact ⟨rfl, (hbw2.trans (hB2.mono hbw2.size)).trans (hb3.mono (by have := hbw2.size; omega))⟩
  · have hg1 : Gl B w1 := hg.later (hb1.mono hB)
    have hpar := Parse_any l (by omega) hg1 (Nat.le_trans hB hb1.size) (l.length + 1) (by omega) (parse_tot l)
    go_wp2_with fail
    refine hpar.mono ?_
    rintro e w2 ⟨hb2, hx⟩
    have hbw2 : Below w.heap.size w w2 := hb1.trans (hb2.mono hb1.size)
    cases hp : parseL (l.length + 1) l with
    | error E =>
      rw [hp] at hx
      match E, hx with
      | none, hx => exact hx.elim
      | some (c, t), hx =>
        obtain ⟨ht, rfl⟩ := hx
        have hc0 : ((c : Int) != 0) = true := by rw [bne_iff_ne]; have := parse_pos _ _ c t hp; omega
        obtain ⟨a, Ha⟩ : ∃ a : Nat, Hid (a = l.length - t.length) := ⟨_, rfl⟩
        have ha : (a : Int) ≤ (l.length : Int) := by have := Ha.out; omega
        have ha0 : (0 : Int) ≤ (a : Int) := by omega
        rw [← Ha.out]
        obtain ⟨W2, HW2⟩ : ∃ W2, Hid (W2 = (w2.alloc (.cells #[.slice none 0 0, .slice none 0 0] 26)).alloc (.cells #[.int .i64 (c : Int), .int .i64 (a : Int)] 29)) := ⟨_, rfl⟩
        have hB2 : Below w2.heap.size w2 W2 := by rw [HW2.out]; exact ((Below.refl _ _).alloc (Nat.le_refl _) _).alloc (by simp) _
        have hx2 : W2.heap[w2.heap.size + 1]? = some (.cells #[.int .i64 (c : Int), .int .i64 (a : Int)] 29 (0, 0)) := by rw [HW2.out]; exact alloc2_new _ _ _
        have hz2 : W2.heap.size = w2.heap.size + 2 := by rw [HW2.out]; simp
        clear hp hpar ht
        go_wp2_with fail
        rw [← HW2.out]
        refine (same_file (FilR.nil _ 0) (FilR.nil _ 0) rfl rfl (by simp) (by simp) nil_mem_elim nil_mem_elim).mono ?_
        rintro e w3 ⟨rfl, hb3⟩
        have y2 := (hb3.block (w2.heap.size + 1) (by omega)).trans hx2
        obtain ⟨y20, y21⟩ := blk2 y2
        go_wp2
        go_ret
        exact ⟨rfl, (hbw2.trans (hB2.mono hbw2.size)).trans (hb3.mono (by have := hbw2.size; omega))⟩
    | ok p =>
      obtain ⟨f, u⟩ := p
      rw [hp] at hx
      obtain ⟨vm, ve, lm, le, rfl, hF, hm, he, hlen⟩ := hx
      have l1 : lm.length = f.msgs.length := by rw [← hm]; simp
      have l2 : le.length = f.enums.length := by rw [← he]; simp
      have G := Good.of hp (by omega)
      obtain ⟨ms, es⟩ := f
      simp only [] at hm he l1 l2 G
      have hGn := G.n
      obtain ⟨am, nm, cm, rfl, _⟩ := hF.rowm.shape'
      obtain ⟨ae, ne, ce, rfl, _⟩ := hF.rowe.shape'
      clear hp hpar hlen
      obtain ⟨W2, HW2⟩ : ∃ W2, Hid (W2 = (w2.alloc (.cells #[.slice am nm cm, .slice ae ne ce] 26)).alloc (.cells #[.int .i64 0, .int .i64 0] 29)) := ⟨_, rfl⟩
      have hB2 : Below w2.heap.size w2 W2 := by rw [HW2.out]; exact ((Below.refl _ _).alloc (Nat.le_refl _) _).alloc (by simp) _
      have hx1 : W2.heap[w2.heap.size]? = some (.cells #[.slice am nm cm, .slice ae ne ce] 26 (0, 0)) := by rw [HW2.out]; exact alloc2_old _ _ _
      have hx2 : W2.heap[w2.heap.size + 1]? = some (.cells #[.int .i64 0, .int .i64 0] 29 (0, 0)) := by rw [HW2.out]; exact alloc2_new _ _ _
      have hz2 : W2.heap.size = w2.heap.size + 2 := by rw [HW2.out]; simp
      have hbW2 : Below w.heap.size w W2 := hbw2.trans (hB2.mono hbw2.size)
      have hpr := G.print (hF.below hB2) hm he (hg.later (hbW2.mono hB)) (Nat.le_trans hB hbW2.size)
      obtain ⟨T, HT⟩ : ∃ T, Hid (T = printP ms es) := ⟨_, rfl⟩
      have hTl : T.length ≤ 1000000 := by rw [HT.out]; exact print_le G.m G.e G.n
      rw [← HT.out] at hpr
      have hsT := S_size T
      go_wp2_with fail
      rw [← HW2.out]
      refine hpr.mono ?_
      rintro e w3 ⟨rfl, hb3⟩
      have hbw3 : Below w.heap.size w w3 := hbW2.trans (hb3.mono hbW2.size)
      have hb23 : Below (w2.heap.size + 2) W2 w3 := hb3.mono (by omega)
      have hz3 : w2.heap.size + 2 ≤ w3.heap.size := by have := hb23.size; omega
      have hF3 := (hF.below hB2).below hb3
      clear hpr
      have hfin : ∀ (w4 : World) (a b : Value) (o : Obj), Below w3.heap.size w3 w4 → Below w2.heap.size w2 (((w4.setCell ⟨w2.heap.size + 1, 0, none⟩ a).setCell ⟨w2.heap.size + 1, 1, none⟩ b).alloc o) := by
        intro w4 a b o h4
        have q : Below w2.heap.size w2 w4 := hB2.trans ((hb23.trans (h4.mono hz3)).mono (by omega))
        refine ((q.setCell (p := ⟨w2.heap.size + 1, 0, none⟩) (show w2.heap.size ≤ w2.heap.size + 1 by omega) a).setCell (p := ⟨w2.heap.size + 1, 1, none⟩) (show w2.heap.size ≤ w2.heap.size + 1 by omega) b).alloc ?_ o
        have := q.size; simpa using this
      by_cases hT3 : 3000 < T.length
      · have hmuch := Parse_much (S T) (by rw [S_size]; exact hT3) (by rw [S_size]; omega) w3
        go_wp2_with fail
        refine hmuch.mono ?_
        rintro e w4 ⟨rfl, hb4⟩
        have hb24 : Below (w2.heap.size + 2) W2 w4 := hb23.trans (hb4.mono hz3)
        have y1 : w4.heap[w2.heap.size]? = some (.cells #[.slice am nm cm, .slice ae ne ce] 26 (0, 0)) := by rw [hb24.block _ (by omega)]; exact hx1
        have y2 : w4.heap[w2.heap.size + 1]? = some (.cells #[.int .i64 0, .int .i64 0] 29 (0, 0)) := by rw [hb24.block _ (by omega)]; exact hx2
        obtain ⟨x10, x11⟩ := blk2 y1
        obtain ⟨x20, x21⟩ := blk2 y2
        have f20 := fr_of_blk y2 0
        have f21 := fr_of_blk y2 1
        have g1 : w2.heap.size + 1 < w4.heap.size := by have := hb24.size; omega
        have g0 : w2.heap.size < w4.heap.size := by omega
        clear hmuch
        go_wp2
        go_ret
        exact ⟨rfl, hbw2.trans ((hfin w4 _ _ _ hb4).mono hbw2.size)⟩
      · cases hcl : clashL ms with
        | true =>
          have hpar := Parse_any T (by omega) (hg.later (hbw3.mono hB)) (Nat.le_trans hB hbw3.size) (T.length + 1) (by omega) (parse_tot T)
          go_wp2_with fail
          refine hpar.mono ?_
          rintro e w4 ⟨hb4, hx⟩
          have hb24 : Below (w2.heap.size + 2) W2 w4 := hb23.trans (hb4.mono hz3)
          have y1 : w4.heap[w2.heap.size]? = some (.cells #[.slice am nm cm, .slice ae ne ce] 26 (0, 0)) := by rw [hb24.block _ (by omega)]; exact hx1
          have y2 : w4.heap[w2.heap.size + 1]? = some (.cells #[.int .i64 0, .int .i64 0] 29 (0, 0)) := by rw [hb24.block _ (by omega)]; exact hx2
          obtain ⟨x10, x11⟩ := blk2 y1
          obtain ⟨x20, x21⟩ := blk2 y2
          have f20 := fr_of_blk y2 0
          have f21 := fr_of_blk y2 1
          have g1 : w2.heap.size + 1 < w4.heap.size := by have := hb24.size; omega
          have g0 : w2.heap.size < w4.heap.size := by omega
          cases hp : parseL (T.length + 1) T with
          | error E =>
            rw [hp] at hx
            match E, hx with
            | none, hx => exact hx.elim
            | some (c, t), hx =>
              obtain ⟨ht, rfl⟩ := hx
              have hc0 : ((c : Int) != 0) = true := by rw [bne_iff_ne]; have := parse_pos _ _ c t hp; omega
              obtain ⟨a, Ha⟩ : ∃ a : Nat, Hid (a = T.length - t.length) := ⟨_, rfl⟩
              rw [← Ha.out]
              clear hp hpar ht
              have hA := hF.below (hfin w4 (.int .i64 (c : Int)) (.int .i64 (a : Int)) (.cells #[.slice none 0 0, .slice none 0 0] 26) hb4)
              have hcl2 := clash_any hA (by omega) (fun p hp => by have := (G.m p.1 (by rw [← hm]; exact List.mem_map_of_mem hp)).2.1; omega)
              rw [hm, hcl] at hcl2
              by_cases hc4 : ((c : Int) == 4) = true
              · go_wp2
                go_ret
                exact ⟨rfl, hbw2.trans ((hfin w4 _ _ _ hb4).mono hbw2.size)⟩
              · have hc4' : ((c : Int) == 4) = false := by simpa using hc4
                clear hc4
                go_wp2_with fail
                refine hcl2.mono ?_
                rintro e w5 ⟨rfl, hb5⟩
                go_wp2
                go_ret
                exact ⟨rfl, (hbw2.trans ((hfin w4 _ _ _ hb4).mono hbw2.size)).trans (hb5.mono (Nat.le_trans hbw2.size (hfin w4 _ _ _ hb4).size))⟩
          | ok p =>
            obtain ⟨f, u4⟩ := p
            rw [hp] at hx
            obtain ⟨vm4, ve4, lm4, le4, rfl, hF4, hm4, he4, hlen4⟩ := hx
            obtain ⟨am4, nm4, cm4, rfl, _⟩ := hF4.rowm.shape'
            obtain ⟨ae4, ne4, ce4, rfl, _⟩ := hF4.rowe.shape'
            clear hp hpar
            have hS : AS w B w1.heap.size w3.heap.size w2.heap.size w4.heap.size am ae am4 ae4 nm cm ne ce nm4 cm4 ne4 ce4 lm lm4 le le4 (((w4.setCell ⟨w2.heap.size + 1, 0, none⟩ (.int .i64 0)).setCell ⟨w2.heap.size + 1, 1, none⟩ (.int .i64 0)).alloc (.cells #[.slice am4 nm4 cm4, .slice ae4 ne4 ce4] 26)).drew := by
              have h2f := hfin w4 (.int .i64 0) (.int .i64 0) (.cells #[.slice am4 nm4 cm4, .slice ae4 ne4 ce4] 26) hb4
              have hbf : Below w.heap.size w (((w4.setCell ⟨w2.heap.size + 1, 0, none⟩ (.int .i64 0)).setCell ⟨w2.heap.size + 1, 1, none⟩ (.int .i64 0)).alloc (.cells #[.slice am4 nm4 cm4, .slice ae4 ne4 ce4] 26)) := hbw2.trans (h2f.mono hbw2.size)
              have hsz : ((w4.setCell ⟨w2.heap.size + 1, 0, none⟩ (.int .i64 0)).setCell ⟨w2.heap.size + 1, 1, none⟩ (.int .i64 0)).heap.size = w4.heap.size := by simp
              refine ⟨(hF.below h2f).drew, FilR.drew (FilR.below ((hF4.set (by omega) _ _).set (by omega) _ _) ((Below.refl _ _).alloc (Nat.le_refl _) _)), ?_, ?_, hg.later (hbf.drew.mono hB), Nat.le_trans hB hbf.size, ?_, hbf.drew⟩
              · show (((w4.setCell ⟨w2.heap.size + 1, 0, none⟩ (.int .i64 0)).setCell ⟨w2.heap.size + 1, 1, none⟩ (.int .i64 0)).alloc (.cells #[.slice am4 nm4 cm4, .slice ae4 ne4 ce4] 26)).heap[w2.heap.size]? = _
                rw [Below.heap_alloc _ _ _ (by rw [hsz]; omega), Below.heap_setCell _ _ _ _ (show w2.heap.size ≠ w2.heap.size + 1 by omega), Below.heap_setCell _ _ _ _ (show w2.heap.size ≠ w2.heap.size + 1 by omega)]
                exact y1
              · have := heap_alloc_new ((w4.setCell ⟨w2.heap.size + 1, 0, none⟩ (.int .i64 0)).setCell ⟨w2.heap.size + 1, 1, none⟩ (.int .i64 0)) (.cells #[.slice am4 nm4 cm4, .slice ae4 ne4 ce4] 26)
                rw [hsz] at this
                exact this
              · exact Nat.le_trans hb2.size h2f.size
            have hcl2 : ∀ W, AS w B w1.heap.size w3.heap.size w2.heap.size w4.heap.size am ae am4 ae4 nm cm ne ce nm4 cm4 ne4 ce4 lm lm4 le le4 W → Calls Tryd.prog 9 #[.agg #[.slice am nm cm, .slice ae ne ce]] W fun e w' => e = .returned (.bool true) ∧ Below W.heap.size W w' := by
              intro W hW
              have q := clash_any hW.f (by omega) (fun p hp => by have := (G.m p.1 (by rw [← hm]; exact List.mem_map_of_mem hp)).2.1; omega)
              rw [hm, hcl] at q
              exact q
            clear hF4 hF3 hF hb4 hfin
            go_wp2_with fail
            obtain ⟨z0, z1⟩ := blk2 hS.bf
            obtain ⟨z2, z3⟩ := blk2 hS.bg
            refine wp_region_any (by kernel_rfl) ?_
            change wpAny _ _ _ _ _ _ _ (World.drew _)
            refine wpAny_ready (rs := [0]) (by kernel_rfl) (by simp) ?_
            refine AllReady.cons rfl (fun Kc hK => ?_) AllReady.nil
            go_simp
            refine hK _ _ ?_
            clear hK
            refine wpAny_ready (rs := [1]) (by kernel_rfl) (by simp) ?_
            refine AllReady.cons rfl (fun Kc hK => ?_) AllReady.nil
            go_simp
            refine (hcl2 _ hS).mono ?_
            rintro e w5 ⟨rfl, hb5⟩
            replace hS := hS.below hb5
            clear hb5
            refine hK _ _ ?_
            clear hK
            refine wpAny_ready (rs := [2]) (by kernel_rfl) (by simp) ?_
            refine AllReady.cons rfl (fun Kc hK => ?_) AllReady.nil
            go_simp
            refine hK _ _ ?_
            clear hK
            refine act_gen (fun A => A.tmps[51]? = some (.bool true) ∧ A.tmps[56]? = some undef ∧ A.put (some 52) undef = A ∧ A.put (some 53) undef = A ∧ A.put (some 54) undef = A ∧ A.put (some 55) undef = A ∧ A.put (some 56) undef = A ∧ A.put (some 57) undef = A ∧ A.put (some 58) undef = A ∧ A.put (some 59) undef = A ∧ A.put (some 60) undef = A ∧ A.put (some 61) undef = A) ⟨rfl, rfl, rfl, rfl, rfl, rfl, rfl, rfl, rfl, rfl, rfl, rfl⟩ ?_
            rintro A hA ⟨h51, h56, p52, p53, p54, p55, p56, p57, p58, p59, p60, p61⟩
            refine wpAny_take (i := 3) (v := undef) rfl (by kernel_rfl) (by kernel_rfl) (by kernel_rfl) (fun _ _ _ h => h) (Or.inr ⟨by simp [Region.wanted, yielded, h51], rfl⟩) ?_
            change wpAny _ _ _ _ _ _ (A.put (some 52) undef) _
            rw [p52]
            refine wpAny_take (i := 4) (v := undef) rfl (by kernel_rfl) (by kernel_rfl) (by kernel_rfl) (fun _ _ _ h => h) (Or.inr ⟨by simp [Region.wanted, yielded, h51], rfl⟩) ?_
            change wpAny _ _ _ _ _ _ (A.put (some 53) undef) _
            rw [p53]
            refine wpAny_take (i := 5) (v := undef) rfl (by kernel_rfl) (by kernel_rfl) (by kernel_rfl) (fun _ _ _ h => h) (Or.inr ⟨by simp [Region.wanted, yielded, h51], rfl⟩) ?_
            change wpAny _ _ _ _ _ _ (A.put (some 54) undef) _
            rw [p54]
            refine wpAny_take (i := 6) (v := undef) rfl (by kernel_rfl) (by kernel_rfl) (by kernel_rfl) (fun _ _ _ h => h) (Or.inr ⟨by simp [Region.wanted, yielded, h51], rfl⟩) ?_
            change wpAny _ _ _ _ _ _ (A.put (some 55) undef) _
            rw [p55]
            refine wpAny_take (i := 7) (v := undef) rfl (by kernel_rfl) (by kernel_rfl) (by kernel_rfl) (fun _ _ _ h => h) (Or.inr ⟨by simp [Region.wanted, yielded, h51], rfl⟩) ?_
            change wpAny _ _ _ _ _ _ (A.put (some 56) undef) _
            rw [p56]
            refine wpAny_take (i := 8) (v := undef) rfl (by kernel_rfl) (by kernel_rfl) (by kernel_rfl) (fun _ _ _ h => h) (Or.inr ⟨by simp [Region.wanted, yielded, h56, undef], rfl⟩) ?_
            change wpAny _ _ _ _ _ _ (A.put (some 57) undef) _
            rw [p57]
            refine wpAny_take (i := 9) (v := undef) rfl (by kernel_rfl) (by kernel_rfl) (by kernel_rfl) (fun _ _ _ h => h) (Or.inr ⟨by simp [Region.wanted, yielded, h56, undef], rfl⟩) ?_
            change wpAny _ _ _ _ _ _ (A.put (some 58) undef) _
            rw [p58]
            refine wpAny_take (i := 10) (v := undef) rfl (by kernel_rfl) (by kernel_rfl) (by kernel_rfl) (fun _ _ _ h => h) (Or.inr ⟨by simp [Region.wanted, yielded, h56, undef], rfl⟩) ?_
            change wpAny _ _ _ _ _ _ (A.put (some 59) undef) _
            rw [p59]
            refine wpAny_take (i := 11) (v := undef) rfl (by kernel_rfl) (by kernel_rfl) (by kernel_rfl) (fun _ _ _ h => h) (Or.inr ⟨by simp [Region.wanted, yielded, h56, undef], rfl⟩) ?_
            change wpAny _ _ _ _ _ _ (A.put (some 60) undef) _
            rw [p60]
            refine wpAny_take (i := 12) (v := undef) rfl (by kernel_rfl) (by kernel_rfl) (by kernel_rfl) (fun _ _ _ h => h) (Or.inr ⟨by simp [Region.wanted, yielded, h51], rfl⟩) ?_
            change wpAny _ _ _ _ _ _ (A.put (some 61) undef) _
            rw [p61]
            rw [← hA]
            clear h51 h56 hA p52 p53 p54 p55 p56 p57 p58 p59 p60 p61
            refine wpAny_ready (rs := [13]) (by kernel_rfl) (by simp) ?_
            refine AllReady.cons rfl (fun Kc hK => ?_) AllReady.nil
            go_simp
            refine hK _ _ ?_
            clear hK
            refine wpAny_ready (rs := [14]) (by kernel_rfl) (by simp) ?_
            refine AllReady.cons rfl (fun Kc hK => ?_) AllReady.nil
            go_simp
            refine hK _ _ ?_
            clear hK
            refine wpAny_done (by kernel_rfl) ?_ _
            go_wp2
            go_ret
            exact ⟨rfl, hS.bw⟩
        | false =>
          obtain ⟨hr1, hr2⟩ := G.round hcl
          rw [← HT.out] at hr1 hr2
          have hpar := Parse_any T (by omega) (hg.later (hbw3.mono hB)) (Nat.le_trans hB hbw3.size) 100 (by omega) (by rw [hr1]; simp)
          rw [hr1] at hpar
          go_wp2_with fail
          refine hpar.mono ?_
          rintro e w4 ⟨hb4, vm4, ve4, lm4, le4, rfl, hF4, hm4, he4, hlen4⟩
          obtain ⟨am4, nm4, cm4, rfl, _⟩ := hF4.rowm.shape'
          obtain ⟨ae4, ne4, ce4, rfl, _⟩ := hF4.rowe.shape'
          have hb24 : Below (w2.heap.size + 2) W2 w4 := hb23.trans (hb4.mono hz3)
          have y1 : w4.heap[w2.heap.size]? = some (.cells #[.slice am nm cm, .slice ae ne ce] 26 (0, 0)) := by rw [hb24.block _ (by omega)]; exact hx1
          have y2 : w4.heap[w2.heap.size + 1]? = some (.cells #[.int .i64 0, .int .i64 0] 29 (0, 0)) := by rw [hb24.block _ (by omega)]; exact hx2
          obtain ⟨x10, x11⟩ := blk2 y1
          obtain ⟨x20, x21⟩ := blk2 y2
          have f20 := fr_of_blk y2 0
          have f21 := fr_of_blk y2 1
          have g1 : w2.heap.size + 1 < w4.heap.size := by have := hb24.size; omega
          have g0 : w2.heap.size < w4.heap.size := by omega
          have hS : AS w B w1.heap.size w3.heap.size w2.heap.size w4.heap.size am ae am4 ae4 nm cm ne ce nm4 cm4 ne4 ce4 lm lm4 le le4 (((w4.setCell ⟨w2.heap.size + 1, 0, none⟩ (.int .i64 0)).setCell ⟨w2.heap.size + 1, 1, none⟩ (.int .i64 0)).alloc (.cells #[.slice am4 nm4 cm4, .slice ae4 ne4 ce4] 26)).drew := by
            have h2f := hfin w4 (.int .i64 0) (.int .i64 0) (.cells #[.slice am4 nm4 cm4, .slice ae4 ne4 ce4] 26) hb4
            have hbf : Below w.heap.size w (((w4.setCell ⟨w2.heap.size + 1, 0, none⟩ (.int .i64 0)).setCell ⟨w2.heap.size + 1, 1, none⟩ (.int .i64 0)).alloc (.cells #[.slice am4 nm4 cm4, .slice ae4 ne4 ce4] 26)) := hbw2.trans (h2f.mono hbw2.size)
            have hsz : ((w4.setCell ⟨w2.heap.size + 1, 0, none⟩ (.int .i64 0)).setCell ⟨w2.heap.size + 1, 1, none⟩ (.int .i64 0)).heap.size = w4.heap.size := by simp
            refine ⟨(hF.below h2f).drew, FilR.drew (FilR.below ((hF4.set (by omega) _ _).set (by omega) _ _) ((Below.refl _ _).alloc (Nat.le_refl _) _)), ?_, ?_, hg.later (hbf.drew.mono hB), Nat.le_trans hB hbf.size, ?_, hbf.drew⟩
            · show (((w4.setCell ⟨w2.heap.size + 1, 0, none⟩ (.int .i64 0)).setCell ⟨w2.heap.size + 1, 1, none⟩ (.int .i64 0)).alloc (.cells #[.slice am4 nm4 cm4, .slice ae4 ne4 ce4] 26)).heap[w2.heap.size]? = _
              rw [Below.heap_alloc _ _ _ (by rw [hsz]; omega), Below.heap_setCell _ _ _ _ (show w2.heap.size ≠ w2.heap.size + 1 by omega), Below.heap_setCell _ _ _ _ (show w2.heap.size ≠ w2.heap.size + 1 by omega)]
              exact y1
            · have := heap_alloc_new ((w4.setCell ⟨w2.heap.size + 1, 0, none⟩ (.int .i64 0)).setCell ⟨w2.heap.size + 1, 1, none⟩ (.int .i64 0)) (.cells #[.slice am4 nm4 cm4, .slice ae4 ne4 ce4] 26)
              rw [hsz] at this
              exact this
            · exact Nat.le_trans hb2.size h2f.size
          have hcl2 : ∀ W, AS w B w1.heap.size w3.heap.size w2.heap.size w4.heap.size am ae am4 ae4 nm cm ne ce nm4 cm4 ne4 ce4 lm lm4 le le4 W → Calls Tryd.prog 9 #[.agg #[.slice am nm cm, .slice ae ne ce]] W fun e w' => e = .returned (.bool false) ∧ Below W.heap.size W w' := by
            intro W hW
            have q := clash_any hW.f (by omega) (fun p hp => by have := (G.m p.1 (by rw [← hm]; exact List.mem_map_of_mem hp)).2.1; omega)
            rw [hm, hcl] at q
            exact q
          have hpr : ∀ W, AS w B w1.heap.size w3.heap.size w2.heap.size w4.heap.size am ae am4 ae4 nm cm ne ce nm4 cm4 ne4 ce4 lm lm4 le le4 W → Calls Tryd.prog 8 #[.agg #[.slice am4 nm4 cm4, .slice ae4 ne4 ce4]] W fun e w' => e = .returned (.string (S T)) ∧ Below W.heap.size W w' := by
            intro W hW
            have q := G.num.print hW.g hm4 he4 hW.gl hW.sz
            rw [hr2] at q
            exact q
          have hnb : ∀ W, AS w B w1.heap.size w3.heap.size w2.heap.size w4.heap.size am ae am4 ae4 nm cm ne ce nm4 cm4 ne4 ce4 lm lm4 le le4 W → Calls Tryd.prog 10 #[.agg #[.slice am nm cm, .slice ae ne ce]] W fun e w' => ∃ vm' lm', e = .returned (.agg #[vm', .slice ae ne ce]) ∧ FilR w' w1.heap.size vm' (.slice ae ne ce) lm' le ∧ lm'.map Prod.fst = (lm.map Prod.fst).map numbM ∧ Below W.heap.size W w' :=
            fun W hW => numbered_any hW.f hW.s1 (by omega) (fun p hp => by have := (G.m p.1 (by rw [← hm]; exact List.mem_map_of_mem hp)).2.1; omega)
          have hsm : ∀ W vm' lm', AS w B w1.heap.size w3.heap.size w2.heap.size w4.heap.size am ae am4 ae4 nm cm ne ce nm4 cm4 ne4 ce4 lm lm4 le le4 W → FilR W w1.heap.size vm' (.slice ae ne ce) lm' le → lm'.map Prod.fst = (lm.map Prod.fst).map numbM → Calls Tryd.prog 7 #[.agg #[vm', .slice ae ne ce], .agg #[.slice am4 nm4 cm4, .slice ae4 ne4 ce4]] W fun e w' => e = .returned (.bool true) ∧ Below W.heap.size W w' := by
            intro W vm' lm' hW hf hmm
            have hl' : lm'.length = lm.length := by have := congrArg List.length hmm; simpa using this
            have hG' := G.num
            rw [hm] at hmm
            refine same_file hf hW.g (by rw [hmm, hm4]) (by rw [he, he4]) (by omega) (by omega) (fun p hp => ?_) (fun p hp => ?_)
            · have q := (hG'.m p.1 (by rw [← hmm]; exact List.mem_map_of_mem hp)).2
              exact ⟨by omega, by omega⟩
            · have q := (G.e p.1 (by rw [← he]; exact List.mem_map_of_mem hp)).2.2
              omega
          clear hpar hr1 hr2 hF4 hF3 hF hb4 hfin hcl
          have hlT := S_list T
          go_wp2_with fail
          obtain ⟨z0, z1⟩ := blk2 hS.bf
          obtain ⟨z2, z3⟩ := blk2 hS.bg
          go_region_with (first
            | (go_at_call 9; refine (hcl2 _ hS).mono ?_; rintro e w5 ⟨rfl, hb5⟩; replace hS := hS.below hb5; obtain ⟨z0, z1⟩ := blk2 hS.bf; obtain ⟨z2, z3⟩ := blk2 hS.bg; clear hb5)
            | (go_at_call 8; refine (hpr _ hS).mono ?_; rintro e w6 ⟨rfl, hb6⟩; replace hS := hS.below hb6; obtain ⟨z0, z1⟩ := blk2 hS.bf; obtain ⟨z2, z3⟩ := blk2 hS.bg; clear hb6)
            | (go_at_call 10; refine (hnb _ hS).mono ?_; rintro e w7 ⟨vm', lm', rfl, hN, hmm, hb7⟩; replace hS := hS.below hb7; obtain ⟨z0, z1⟩ := blk2 hS.bf; obtain ⟨z2, z3⟩ := blk2 hS.bg; clear hb7)
            | (go_at_call 7; refine (hsm _ _ _ hS hN hmm).mono ?_; rintro e w8 ⟨rfl, hb8⟩; replace hS := hS.below hb8; clear hb8))
          all_goals
            go_wp2
            go_ret
            exact ⟨rfl, hS.bw⟩

end Go.Proofs.YtenlijgnmhdopaaDoor
