/- The contract of all. -/
import Derived.Test.YtenlijgnmhdopaaGreatDoorSMsg
namespace Go.Proofs.YtenlijgnmhdopaaGreatDoor
open Go.RowKit

abbrev SV := Option Addr × Nat × Nat
def SV.v (s : SV) : Value := .slice s.1 s.2.1 s.2.2
def encMsg (p : Msg × SV × SV) : List Value := [.string (S p.1.name), .slice p.2.1.1 p.2.1.2.1 p.2.1.2.2, .slice p.2.2.1 p.2.2.2.1 p.2.2.2.2]
def ekMsg : EK (Msg × SV × SV) where
  elem := 37
  slice := 22
  size := 3
  bytes := 64
  zero := .agg #[.string ⟨#[]⟩, .slice none 0 0, .slice none 0 0]
  enc := encMsg
  under := Tryz.underlying22
  info := by kernel_rfl
  zs := rfl
  pos := by decide
  small := by decide
  len := fun _ => rfl
  one := by intro a u hu; simp only [encMsg, List.mem_cons, List.mem_nil_iff, or_false] at hu; rcases hu with rfl | rfl | rfl <;> rfl
def encEnm (p : Enm × SV) : List Value := [.string (S p.1.name), .slice p.2.1 p.2.2.1 p.2.2.2]
def ekEnm : EK (Enm × SV) where
  elem := 50
  slice := 23
  size := 2
  bytes := 40
  zero := .agg #[.string ⟨#[]⟩, .slice none 0 0]
  enc := encEnm
  under := Tryz.underlying23
  info := by kernel_rfl
  zs := rfl
  pos := by decide
  small := by decide
  len := fun _ => rfl
  one := by intro a u hu; simp only [encEnm, List.mem_cons, List.mem_nil_iff, or_false] at hu; rcases hu with rfl | rfl <;> rfl

/-- A file's lists that the call made. -/
structure FilR (w : World) (base : Nat) (vm ve : Value) (lm : List (Msg × SV × SV)) (le : List (Enm × SV)) : Prop where
  rowm : Row ekMsg w base vm lm
  rowe : Row ekEnm w base ve le
  ms : ∀ p ∈ lm, Row ekFld w base p.2.1.v p.1.fields ∧ Row ekInt w base p.2.2.v p.1.barred
  es : ∀ p ∈ le, Row ekItm w base p.2.v p.1.items
section
variable {w w' : World} {base b : Nat} {vm ve : Value} {lm : List (Msg × SV × SV)} {le : List (Enm × SV)}
theorem FilR.nil (w : World) (base : Nat) : FilR w base (.slice none 0 0) (.slice none 0 0) [] [] := ⟨Row.nil _ _ _, Row.nil _ _ _, fun _ hp => (List.not_mem_nil hp).elim, fun _ hp => (List.not_mem_nil hp).elim⟩
theorem FilR.keep (h : FilR w base vm ve lm le) (hb : ∀ k, base ≤ k → k < w.heap.size → w'.heap[k]? = w.heap[k]?) : FilR w' base vm ve lm le :=
  ⟨h.rowm.keep hb, h.rowe.keep hb, fun p hp => ⟨(h.ms p hp).1.keep hb, (h.ms p hp).2.keep hb⟩, fun p hp => (h.es p hp).keep hb⟩
theorem FilR.kp (h : FilR w base vm ve lm le) (hk : Kp b w w') (hb : b < base) : FilR w' base vm ve lm le := h.keep fun k h1 h2 => hk.block k h2 (by omega)
theorem FilR.below (h : FilR w base vm ve lm le) (hk : Below w.heap.size w w') : FilR w' base vm ve lm le := h.keep fun k _ h2 => hk.block k h2
theorem FilR.drew (h : FilR w base vm ve lm le) : FilR w.drew base vm ve lm le := h.keep fun _ _ _ => rfl
theorem FilR.drewN (h : FilR w base vm ve lm le) (n : Nat) : FilR (w.drewN n) base vm ve lm le := h.keep fun _ _ _ => rfl
theorem FilR.set (h : FilR w base vm ve lm le) (hb : b < base) (i : Nat) (v : Value) : FilR (w.setCell ⟨b, i, none⟩ v) base vm ve lm le := h.keep fun k h1 _ => Below.heap_setCell _ _ _ _ (by show k ≠ b; omega)
theorem FilR.addm (h : FilR w base vm ve lm le) (x : Msg × SV × SV) {vm' : Value} (hg : w.grownBy w' vm.ownBlock) (hr : Row ekMsg w' base vm' (lm ++ [x])) (hf : Row ekFld w base x.2.1.v x.1.fields) (hb : Row ekInt w base x.2.2.v x.1.barred) : FilR w' base vm' ve (lm ++ [x]) le := by
  refine ⟨hr, h.rowe.grown hg (h.rowe.ne h.rowm (by decide)), ?_, fun p hp => (h.es p hp).grown hg ((h.es p hp).ne h.rowm (by decide))⟩
  intro p hp
  rw [List.mem_append, List.mem_singleton] at hp
  rcases hp with hp | rfl
  · exact ⟨(h.ms p hp).1.grown hg ((h.ms p hp).1.ne h.rowm (by decide)), (h.ms p hp).2.grown hg ((h.ms p hp).2.ne h.rowm (by decide))⟩
  · exact ⟨hf.grown hg (hf.ne h.rowm (by decide)), hb.grown hg (hb.ne h.rowm (by decide))⟩
theorem FilR.adde (h : FilR w base vm ve lm le) (x : Enm × SV) {ve' : Value} (hg : w.grownBy w' ve.ownBlock) (hr : Row ekEnm w' base ve' (le ++ [x])) (hf : Row ekItm w base x.2.v x.1.items) : FilR w' base vm ve' lm (le ++ [x]) := by
  refine ⟨h.rowm.grown hg (h.rowm.ne h.rowe (by decide)), hr, fun p hp => ⟨(h.ms p hp).1.grown hg ((h.ms p hp).1.ne h.rowe (by decide)), (h.ms p hp).2.grown hg ((h.ms p hp).2.ne h.rowe (by decide))⟩, ?_⟩
  intro p hp
  rw [List.mem_append, List.mem_singleton] at hp
  rcases hp with hp | rfl
  · exact (h.es p hp).grown hg ((h.es p hp).ne h.rowe (by decide))
  · exact hf.grown hg (hf.ne h.rowe (by decide))
theorem St.c23 {txt r : List UInt8} {m e : Value} (h : St w b txt r m e) : w.cell? ⟨b, 2, none⟩ = some m ∧ w.cell? ⟨b, 3, none⟩ = some e := ⟨cell_of_blk h.2.2.2 2 _ rfl, cell_of_blk h.2.2.2 3 _ rfl⟩
theorem St.fr {txt r : List UInt8} {m e : Value} (h : St w b txt r m e) (i : Nat) : w.frozen? ⟨b, i, none⟩ = false := fr_of_blk h.2.2.2 i
theorem St.set2 {txt r : List UInt8} {m e : Value} (h : St w b txt r m e) (v : Value) : St (w.setCell ⟨b, 2, none⟩ v) b txt r v e := ⟨h.1, h.2.1, h.2.2.1, heap_setCell_same _ _ 2 _ _ v h.2.2.2⟩
theorem St.set3 {txt r : List UInt8} {m e : Value} (h : St w b txt r m e) (v : Value) : St (w.setCell ⟨b, 3, none⟩ v) b txt r m v := ⟨h.1, h.2.1, h.2.2.1, heap_setCell_same _ _ 3 _ _ v h.2.2.2⟩
end

/-- What all answers, by what the plain one does. -/
def PostA (b : Nat) (txt : List UInt8) (w : World) (x : R Fil) (en : Ending) (w' : World) : Prop :=
  Kp b w w' ∧
    match x with
    | .ok (f, t) => en = .returned (.tuple #[]) ∧ ∃ vm ve lm le, FilR w' w.heap.size vm ve lm le ∧ lm.map Prod.fst = f.msgs ∧ le.map Prod.fst = f.enums ∧ lm.length + le.length ≤ 10 ∧ St w' b txt t vm ve
    | .error (some (c, t)) => t.length ≤ txt.length ∧ en = .panicked (Ft c (txt.length - t.length))
    | .error none => False

set_option maxHeartbeats 8000000 in
set_option maxRecDepth 100000 in
theorem all_any {B b : Nat} {txt r : List UInt8} {w : World} (h : St w b txt r (.slice none 0 0) (.slice none 0 0)) (hg : Gl B w) (hB : B ≤ b) (K : Nat) (hKb : K ≤ 1000000) (hN : allGo K K ⟨[], []⟩ r ≠ .error none) :
    Calls Tryz.prog 41 #[.pointer (some ⟨b, 0, none⟩)] w (PostA b txt w (allGo K K ⟨[], []⟩ r)) := by
  have hbw := h.lt
  have HN : Hid (allGo K K ⟨[], []⟩ r ≠ .error none) := hN
  clear hN
  go_enter Tryz.func41, Tryz.ntmps41
  go_wp2_with fail
  go_loopg [] K (fun k wr => ∃ lm le q vm ve, FilR wr w.heap.size vm ve lm le ∧ St wr b txt q vm ve ∧ Kp b w wr ∧ lm.length + le.length ≤ 10 ∧ Hid (allGo K K ⟨[], []⟩ r = allGo K k ⟨lm.map Prod.fst, le.map Prod.fst⟩ q))
  case atStart => exact ⟨[], [], r, .slice none 0 0, .slice none 0 0, FilR.nil _ _, h, Kp.refl _ _, by simp, rfl⟩
  case round =>
    obtain ⟨lm, le, q, vm, ve, hF, hs, hk, hlen, HR⟩ := hrel
    obtain ⟨aom, nmm, capm, rfl, HLm0⟩ := hF.rowm.shape'
    obtain ⟨aoe, nen, cape, rfl, HLe0⟩ := hF.rowe.shape'
    cases gk with
    | zero => exact absurd HR.out HN.out
    | succ k =>
      go_wp2_with fail
      refine (end_any hs).mono ?_
      rintro en w4 ⟨rfl, hs4, hk4⟩
      have hF4 := hF.kp hk4 hbw
      have hkw := hk.trans hk4
      clear hF hs hk hk4
      generalize hq : skipL q = t3 at hs4 ⊢
      by_cases h0 : t3 = []
      · have HX4 : Hid (allGo K K ⟨[], []⟩ r = .ok (⟨lm.map Prod.fst, le.map Prod.fst⟩, [])) := by show _ = _; rw [HR.out, allGo, hq, if_pos h0]
        have hd : decide (t3 = []) = true := by simpa using h0
        rw [hd]
        clear hq HR hd
        subst h0
        go_wp2
        go_end0
        exact ⟨hkw, by rw [HX4.out]; exact ⟨rfl, _, _, lm, le, hF4, rfl, rfl, hlen, hs4⟩⟩
      · have HX4 : Hid (allGo K K ⟨[], []⟩ r = R.thn (defL K ⟨lm.map Prod.fst, le.map Prod.fst⟩ t3) fun g u => if 10 < g.msgs.length + g.enums.length then .error (some (5, u)) else allGo K k g u) := by show _ = _; rw [HR.out, allGo, hq, if_neg h0]
        have hd : decide (t3 = []) = false := by simpa using h0
        rw [hd]
        clear hq HR hd h0
        go_wp2_with fail
        refine (keyword_any hs4 kwMessage (by decide)).mono ?_
        rintro en w5 ⟨rfl, hs5, hk5⟩
        have hF5 := hF4.kp hk5 hbw
        replace hkw := hkw.trans hk5
        clear hs4 hF4 hk5
        generalize hq : keyL kwMessage t3 = mq at hs5 ⊢
        obtain ⟨ok, t5⟩ := mq
        cases ok with
        | true =>
          obtain ⟨w7, Hw7⟩ : ∃ w7, w7 = w5 := ⟨_, rfl⟩
          obtain ⟨t7, Ht7⟩ : ∃ t7, t7 = t5 := ⟨_, rfl⟩
          subst Hw7 Ht7
          have HP : Hid (defL K ⟨lm.map Prod.fst, le.map Prod.fst⟩ t3 = R.thn (messageL K t7) fun m u => .ok (⟨lm.map Prod.fst ++ [m], le.map Prod.fst⟩, u)) := by show _ = _; rw [defL, hq]
          have hNr : messageL K t7 ≠ .error none := by intro hh; apply HN.out; rw [HX4.out, HP.out, hh]; rfl
          have hs7 : St w7 b txt t7 _ _ := hs5
          have hF7 := hF5
          have hg7 : Gl B w7 := hg.kp hB hbw hkw
          clear hq hs5 hF5
          go_wp2_with fail
          obtain ⟨c2, c3⟩ := hs7.c23
          refine wp_region_any (by kernel_rfl) ?_
          change wpAny _ _ _ _ _ _ _ (World.drew _)
          refine wpAny_take (i := 0) (v := .pointer (some ⟨b, 0, none⟩)) rfl (by kernel_rfl) (by kernel_rfl) (by kernel_rfl) (fun _ _ _ h => h) (Or.inl ⟨by rfl, by intro w; go_simp⟩) ?_
          refine wpAny_take (i := 1) (v := .pointer (some ⟨b, 0, none⟩)) rfl (by kernel_rfl) (by kernel_rfl) (by kernel_rfl) (fun _ _ _ h => h) (Or.inl ⟨by rfl, by intro w; go_simp⟩) ?_
          refine wpAny_take (i := 2) (v := .pointer (some ⟨b, 0, none⟩)) rfl (by kernel_rfl) (by kernel_rfl) (by kernel_rfl) (fun _ _ _ h => h) (Or.inl ⟨by rfl, by intro w; go_simp⟩) ?_
          refine wpAny_take (i := 3) (v := .pointer (some ⟨b, 2, none⟩)) rfl (by kernel_rfl) (by kernel_rfl) (by kernel_rfl) (fun _ _ _ h => h) (Or.inl ⟨by rfl, by intro w; go_simp⟩) ?_
          refine wpAny_take (i := 4) (v := .pointer (some ⟨b, 2, none⟩)) rfl (by kernel_rfl) (by kernel_rfl) (by kernel_rfl) (fun _ _ _ h => h) (Or.inl ⟨by rfl, by intro w; go_simp⟩) ?_
          refine wpAny_take (i := 6) (v := .pointer (some ⟨b, 0, none⟩)) rfl (by kernel_rfl) (by kernel_rfl) (by kernel_rfl) (fun _ _ _ h => h) (Or.inl ⟨by rfl, by intro w; go_simp⟩) ?_
          refine wpAny_ready (rs := [5, 7]) (by kernel_rfl) (by simp) ?_
          refine AllReady.cons rfl (fun Kc hK => ?_) (AllReady.cons rfl (fun Kc hK => ?_) AllReady.nil)
          · go_simp
            refine hK _ _ ?_
            clear hK
            refine wpAny_ready (rs := [7]) (by kernel_rfl) (by simp) ?_
            refine AllReady.cons rfl (fun Kc hK => ?_) AllReady.nil
            go_simp
            refine (message_any hs7.drew hg7.drew' hB K hKb hNr).mono ?_
            rintro en w8 ⟨hk8, hx⟩
            have hF8 := hF7.drew.kp hk8 hbw
            have hkw8 := hkw.drew.trans hk8
            cases hn : messageL K t7 with
            | error E =>
              rw [hn] at hx
              match E, hx with
              | none, hx => exact hx.elim
              | some (c, t), hx =>
                obtain ⟨ht, rfl⟩ := hx
                have HY : Hid (allGo K K ⟨[], []⟩ r = .error (some (c, t))) := by show _ = _; rw [HX4.out, HP.out, hn]; rfl
                clear hn HX4 hK
                go_wp2
                exact ⟨rfl, hkw8, by rw [HY.out]; exact ⟨ht, rfl⟩⟩
            | ok p =>
              obtain ⟨x, t8⟩ := p
              rw [hn] at hx
              obtain ⟨hs8, _, rfl, vf, vb, rfl, hrf, hrb⟩ := hx
              obtain ⟨aof, nf, capf, rfl, _⟩ := hrf.shape'
              obtain ⟨aob, nb, capb, rfl, _⟩ := hrb.shape'
              have HI : Hid (messageL K t7 = .ok (x, t8)) := hn
              clear hn
              obtain ⟨c2, c3⟩ := hs8.c23
              have hbl : b < w8.heap.size := hs8.lt
              have hz8 : w.heap.size ≤ w8.heap.size := hkw8.size
              have hz7 : w.heap.size ≤ w7.drew.heap.size := hkw.size
              refine hK _ _ ?_
              clear hK
              refine wpAny_ready (rs := [8]) (by kernel_rfl) (by simp) ?_
              refine AllReady.cons rfl (fun Kc hK => ?_) AllReady.nil
              go_simp
              refine hK _ _ ?_
              clear hK
              refine wpAny_ready (rs := [9]) (by kernel_rfl) (by simp) ?_
              refine AllReady.cons rfl (fun Kc hK => ?_) AllReady.nil
              simp only [Region.wanted]
              have hsrc : Row ekMsg (w8.alloc (.cells #[.string (S x.name), .slice aof nf capf, .slice aob nb capb] 37)) w.heap.size (.slice (some ⟨w8.heap.size, 0, none⟩) 1 1) [(x, (aof, nf, capf), (aob, nb, capb))] := Row.one ekMsg w8 (x, (aof, nf, capf), (aob, nb, capb)) hz8
              have hF9 := hF8.below ((Below.refl _ w8).alloc (Nat.le_refl _) (.cells #[.string (S x.name), .slice aof nf capf, .slice aob nb capb] 37))
              have hnew9 := ((hrf.mono hz7).below ((Below.refl _ w8).alloc (Nat.le_refl _) (.cells #[.string (S x.name), .slice aof nf capf, .slice aob nb capb] 37)))
              have hnewb9 := ((hrb.mono hz7).below ((Below.refl _ w8).alloc (Nat.le_refl _) (.cells #[.string (S x.name), .slice aof nf capf, .slice aob nb capb] 37)))
              have hs9 := hs8.alloc (.cells #[.string (S x.name), .slice aof nf capf, .slice aob nb capb] 37)
              have hk9 := hkw8.alloc (.cells #[.string (S x.name), .slice aof nf capf, .slice aob nb capb] 37)
              refine wp_app ekMsg _ _ rfl w.heap.size _ lm [(x, (aof, nf, capf), (aob, nb, capb))] rfl hF9.rowm _ _ rfl hsrc (by (try simp); omega) (by simp; omega) ?_
              intro vn w10 hrn10 hgr
              obtain ⟨aon, nn, capn, rfl, Hnn⟩ := hrn10.shape'
              have hown := hF9.rowm.own
              have hs10 := hs9.grown hgr (fun k hk => by have := (hown k hk).1; omega)
              have hk10 := hk9.grown hgr (fun k hk => (hown k hk).1)
              have hF10 := hF9.addm (x, (aof, nf, capf), (aob, nb, capb)) hgr hrn10 hnew9 hnewb9
              obtain ⟨k2, k3⟩ := hs10.c23
              have g1 := hs10.fr 2
              clear c2 c3
              refine hK _ _ ?_
              clear hK
              refine wpAny_take (i := 10) (v := .pointer (some ⟨b, 0, none⟩)) rfl (by kernel_rfl) (by kernel_rfl) (by kernel_rfl) (fun _ _ _ h => h) (Or.inl ⟨by rfl, by intro w; go_simp⟩) ?_
              refine wpAny_take (i := 11) (v := .pointer (some ⟨b, 2, none⟩)) rfl (by kernel_rfl) (by kernel_rfl) (by kernel_rfl) (fun _ _ _ h => h) (Or.inl ⟨by rfl, by intro w; go_simp⟩) ?_
              refine wpAny_take (i := 12) (v := .pointer (some ⟨b, 2, none⟩)) rfl (by kernel_rfl) (by kernel_rfl) (by kernel_rfl) (fun _ _ _ h => h) (Or.inl ⟨by rfl, by intro w; go_simp⟩) ?_
              refine wpAny_ready (rs := [13]) (by kernel_rfl) (by simp) ?_
              refine AllReady.cons rfl (fun Kc hK => ?_) AllReady.nil
              go_simp
              refine hK _ _ ?_
              clear hK
              refine wpAny_done (by kernel_rfl) ?_ _
              have hs11 := hs10.set2 (.slice aon nn capn)
              have hk11 := hk10.set 2 (.slice aon nn capn)
              have hF11 := hF10.set (b := b) hbw 2 (.slice aon nn capn)
              have HLo := HLe0
              obtain ⟨c2, c3⟩ := hs11.c23
              have HLn : Hid (nn = lm.length + 1) := by show _ = _; rw [Hnn.out]; simp
              have HG : Hid (defL K ⟨lm.map Prod.fst, le.map Prod.fst⟩ t3 = .ok (⟨(lm ++ [(x, (aof, nf, capf), (aob, nb, capb))]).map Prod.fst, le.map Prod.fst⟩, t8)) := by show _ = _; rw [HP.out, HI.out]; simp [R.thn]
              have HQ : Hid (allGo K K ⟨[], []⟩ r = if 10 < nn + nen then .error (some (5, t8)) else allGo K k ⟨(lm ++ [(x, (aof, nf, capf), (aob, nb, capb))]).map Prod.fst, le.map Prod.fst⟩ t8) := by
                show _ = _
                rw [HX4.out, HG.out]
                simp only [R.thn, List.length_map]
                rw [HLo.out, Hnn.out]
              have hnn : nn ≤ 1000 := by rw [HLn.out]; omega
              have hne : nen ≤ 1000 := by rw [HLo.out]; omega
              by_cases h10 : 10 < nn + nen
              · have HY : Hid (allGo K K ⟨[], []⟩ r = .error (some (5, t8))) := by show _ = _; rw [HQ.out, if_pos h10]
                go_wp2_with fail
                go_quiet (fail)
                go_wp2_with fail
                refine (throw_any (hs11.drewN _) 5).mono ?_
                rintro en w12 ⟨rfl, rfl⟩
                go_wp2
                exact ⟨rfl, hk11.drewN _, by rw [HY.out]; exact ⟨hs11.2.1, rfl⟩⟩
              · have HY : Hid (allGo K K ⟨[], []⟩ r = allGo K k ⟨(lm ++ [(x, (aof, nf, capf), (aob, nb, capb))]).map Prod.fst, le.map Prod.fst⟩ t8) := by show _ = _; rw [HQ.out, if_neg h10]
                go_wp2_with fail
                go_quiet (fail)
                go_wp2_with fail
                go_roundg k
                case measure => omega
                case rel => exact ⟨_, _, t8, _, _, hF11.drewN _, hs11.drewN _, hk11.drewN _, by rw [List.length_append]; simp; have := HLn.out; have := HLo.out; omega, HY⟩

          · go_simp
            refine (message_any hs7.drew hg7.drew' hB K hKb hNr).mono ?_
            rintro en w8 ⟨hk8, hx⟩
            have hF8 := hF7.drew.kp hk8 hbw
            have hkw8 := hkw.drew.trans hk8
            cases hn : messageL K t7 with
            | error E =>
              rw [hn] at hx
              match E, hx with
              | none, hx => exact hx.elim
              | some (c, t), hx =>
                obtain ⟨ht, rfl⟩ := hx
                have HY : Hid (allGo K K ⟨[], []⟩ r = .error (some (c, t))) := by show _ = _; rw [HX4.out, HP.out, hn]; rfl
                clear hn HX4 hK
                go_wp2
                exact ⟨rfl, hkw8, by rw [HY.out]; exact ⟨ht, rfl⟩⟩
            | ok p =>
              obtain ⟨x, t8⟩ := p
              rw [hn] at hx
              obtain ⟨hs8, _, rfl, vf, vb, rfl, hrf, hrb⟩ := hx
              obtain ⟨aof, nf, capf, rfl, _⟩ := hrf.shape'
              obtain ⟨aob, nb, capb, rfl, _⟩ := hrb.shape'
              have HI : Hid (messageL K t7 = .ok (x, t8)) := hn
              clear hn
              obtain ⟨c2, c3⟩ := hs8.c23
              have hbl : b < w8.heap.size := hs8.lt
              have hz8 : w.heap.size ≤ w8.heap.size := hkw8.size
              have hz7 : w.heap.size ≤ w7.drew.heap.size := hkw.size
              refine hK _ _ ?_
              clear hK
              refine wpAny_ready (rs := [5, 8]) (by kernel_rfl) (by simp) ?_
              refine AllReady.cons rfl (fun Kc hK => ?_) (AllReady.cons rfl (fun Kc hK => ?_) AllReady.nil)
              · go_simp
                refine hK _ _ ?_
                clear hK
                refine wpAny_ready (rs := [8]) (by kernel_rfl) (by simp) ?_
                refine AllReady.cons rfl (fun Kc hK => ?_) AllReady.nil
                go_simp
                refine hK _ _ ?_
                clear hK
                refine wpAny_ready (rs := [9]) (by kernel_rfl) (by simp) ?_
                refine AllReady.cons rfl (fun Kc hK => ?_) AllReady.nil
                simp only [Region.wanted]
                have hsrc : Row ekMsg (w8.alloc (.cells #[.string (S x.name), .slice aof nf capf, .slice aob nb capb] 37)) w.heap.size (.slice (some ⟨w8.heap.size, 0, none⟩) 1 1) [(x, (aof, nf, capf), (aob, nb, capb))] := Row.one ekMsg w8 (x, (aof, nf, capf), (aob, nb, capb)) hz8
                have hF9 := hF8.below ((Below.refl _ w8).alloc (Nat.le_refl _) (.cells #[.string (S x.name), .slice aof nf capf, .slice aob nb capb] 37))
                have hnew9 := ((hrf.mono hz7).below ((Below.refl _ w8).alloc (Nat.le_refl _) (.cells #[.string (S x.name), .slice aof nf capf, .slice aob nb capb] 37)))
                have hnewb9 := ((hrb.mono hz7).below ((Below.refl _ w8).alloc (Nat.le_refl _) (.cells #[.string (S x.name), .slice aof nf capf, .slice aob nb capb] 37)))
                have hs9 := hs8.alloc (.cells #[.string (S x.name), .slice aof nf capf, .slice aob nb capb] 37)
                have hk9 := hkw8.alloc (.cells #[.string (S x.name), .slice aof nf capf, .slice aob nb capb] 37)
                refine wp_app ekMsg _ _ rfl w.heap.size _ lm [(x, (aof, nf, capf), (aob, nb, capb))] rfl hF9.rowm _ _ rfl hsrc (by (try simp); omega) (by simp; omega) ?_
                intro vn w10 hrn10 hgr
                obtain ⟨aon, nn, capn, rfl, Hnn⟩ := hrn10.shape'
                have hown := hF9.rowm.own
                have hs10 := hs9.grown hgr (fun k hk => by have := (hown k hk).1; omega)
                have hk10 := hk9.grown hgr (fun k hk => (hown k hk).1)
                have hF10 := hF9.addm (x, (aof, nf, capf), (aob, nb, capb)) hgr hrn10 hnew9 hnewb9
                obtain ⟨k2, k3⟩ := hs10.c23
                have g1 := hs10.fr 2
                clear c2 c3
                refine hK _ _ ?_
                clear hK
                refine wpAny_take (i := 10) (v := .pointer (some ⟨b, 0, none⟩)) rfl (by kernel_rfl) (by kernel_rfl) (by kernel_rfl) (fun _ _ _ h => h) (Or.inl ⟨by rfl, by intro w; go_simp⟩) ?_
                refine wpAny_take (i := 11) (v := .pointer (some ⟨b, 2, none⟩)) rfl (by kernel_rfl) (by kernel_rfl) (by kernel_rfl) (fun _ _ _ h => h) (Or.inl ⟨by rfl, by intro w; go_simp⟩) ?_
                refine wpAny_take (i := 12) (v := .pointer (some ⟨b, 2, none⟩)) rfl (by kernel_rfl) (by kernel_rfl) (by kernel_rfl) (fun _ _ _ h => h) (Or.inl ⟨by rfl, by intro w; go_simp⟩) ?_
                refine wpAny_ready (rs := [13]) (by kernel_rfl) (by simp) ?_
                refine AllReady.cons rfl (fun Kc hK => ?_) AllReady.nil
                go_simp
                refine hK _ _ ?_
                clear hK
                refine wpAny_done (by kernel_rfl) ?_ _
                have hs11 := hs10.set2 (.slice aon nn capn)
                have hk11 := hk10.set 2 (.slice aon nn capn)
                have hF11 := hF10.set (b := b) hbw 2 (.slice aon nn capn)
                have HLo := HLe0
                obtain ⟨c2, c3⟩ := hs11.c23
                have HLn : Hid (nn = lm.length + 1) := by show _ = _; rw [Hnn.out]; simp
                have HG : Hid (defL K ⟨lm.map Prod.fst, le.map Prod.fst⟩ t3 = .ok (⟨(lm ++ [(x, (aof, nf, capf), (aob, nb, capb))]).map Prod.fst, le.map Prod.fst⟩, t8)) := by show _ = _; rw [HP.out, HI.out]; simp [R.thn]
                have HQ : Hid (allGo K K ⟨[], []⟩ r = if 10 < nn + nen then .error (some (5, t8)) else allGo K k ⟨(lm ++ [(x, (aof, nf, capf), (aob, nb, capb))]).map Prod.fst, le.map Prod.fst⟩ t8) := by
                  show _ = _
                  rw [HX4.out, HG.out]
                  simp only [R.thn, List.length_map]
                  rw [HLo.out, Hnn.out]
                have hnn : nn ≤ 1000 := by rw [HLn.out]; omega
                have hne : nen ≤ 1000 := by rw [HLo.out]; omega
                by_cases h10 : 10 < nn + nen
                · have HY : Hid (allGo K K ⟨[], []⟩ r = .error (some (5, t8))) := by show _ = _; rw [HQ.out, if_pos h10]
                  go_wp2_with fail
                  go_quiet (fail)
                  go_wp2_with fail
                  refine (throw_any (hs11.drewN _) 5).mono ?_
                  rintro en w12 ⟨rfl, rfl⟩
                  go_wp2
                  exact ⟨rfl, hk11.drewN _, by rw [HY.out]; exact ⟨hs11.2.1, rfl⟩⟩
                · have HY : Hid (allGo K K ⟨[], []⟩ r = allGo K k ⟨(lm ++ [(x, (aof, nf, capf), (aob, nb, capb))]).map Prod.fst, le.map Prod.fst⟩ t8) := by show _ = _; rw [HQ.out, if_neg h10]
                  go_wp2_with fail
                  go_quiet (fail)
                  go_wp2_with fail
                  go_roundg k
                  case measure => omega
                  case rel => exact ⟨_, _, t8, _, _, hF11.drewN _, hs11.drewN _, hk11.drewN _, by rw [List.length_append]; simp; have := HLn.out; have := HLo.out; omega, HY⟩
              · go_simp
                refine hK _ _ ?_
                clear hK
                refine wpAny_ready (rs := [5]) (by kernel_rfl) (by simp) ?_
                refine AllReady.cons rfl (fun Kc hK => ?_) AllReady.nil
                go_simp
                refine hK _ _ ?_
                clear hK
                refine wpAny_ready (rs := [9]) (by kernel_rfl) (by simp) ?_
                refine AllReady.cons rfl (fun Kc hK => ?_) AllReady.nil
                simp only [Region.wanted]
                have hsrc : Row ekMsg (w8.alloc (.cells #[.string (S x.name), .slice aof nf capf, .slice aob nb capb] 37)) w.heap.size (.slice (some ⟨w8.heap.size, 0, none⟩) 1 1) [(x, (aof, nf, capf), (aob, nb, capb))] := Row.one ekMsg w8 (x, (aof, nf, capf), (aob, nb, capb)) hz8
                have hF9 := hF8.below ((Below.refl _ w8).alloc (Nat.le_refl _) (.cells #[.string (S x.name), .slice aof nf capf, .slice aob nb capb] 37))
                have hnew9 := ((hrf.mono hz7).below ((Below.refl _ w8).alloc (Nat.le_refl _) (.cells #[.string (S x.name), .slice aof nf capf, .slice aob nb capb] 37)))
                have hnewb9 := ((hrb.mono hz7).below ((Below.refl _ w8).alloc (Nat.le_refl _) (.cells #[.string (S x.name), .slice aof nf capf, .slice aob nb capb] 37)))
                have hs9 := hs8.alloc (.cells #[.string (S x.name), .slice aof nf capf, .slice aob nb capb] 37)
                have hk9 := hkw8.alloc (.cells #[.string (S x.name), .slice aof nf capf, .slice aob nb capb] 37)
                refine wp_app ekMsg _ _ rfl w.heap.size _ lm [(x, (aof, nf, capf), (aob, nb, capb))] rfl hF9.rowm _ _ rfl hsrc (by (try simp); omega) (by simp; omega) ?_
                intro vn w10 hrn10 hgr
                obtain ⟨aon, nn, capn, rfl, Hnn⟩ := hrn10.shape'
                have hown := hF9.rowm.own
                have hs10 := hs9.grown hgr (fun k hk => by have := (hown k hk).1; omega)
                have hk10 := hk9.grown hgr (fun k hk => (hown k hk).1)
                have hF10 := hF9.addm (x, (aof, nf, capf), (aob, nb, capb)) hgr hrn10 hnew9 hnewb9
                obtain ⟨k2, k3⟩ := hs10.c23
                have g1 := hs10.fr 2
                clear c2 c3
                refine hK _ _ ?_
                clear hK
                refine wpAny_take (i := 10) (v := .pointer (some ⟨b, 0, none⟩)) rfl (by kernel_rfl) (by kernel_rfl) (by kernel_rfl) (fun _ _ _ h => h) (Or.inl ⟨by rfl, by intro w; go_simp⟩) ?_
                refine wpAny_take (i := 11) (v := .pointer (some ⟨b, 2, none⟩)) rfl (by kernel_rfl) (by kernel_rfl) (by kernel_rfl) (fun _ _ _ h => h) (Or.inl ⟨by rfl, by intro w; go_simp⟩) ?_
                refine wpAny_take (i := 12) (v := .pointer (some ⟨b, 2, none⟩)) rfl (by kernel_rfl) (by kernel_rfl) (by kernel_rfl) (fun _ _ _ h => h) (Or.inl ⟨by rfl, by intro w; go_simp⟩) ?_
                refine wpAny_ready (rs := [13]) (by kernel_rfl) (by simp) ?_
                refine AllReady.cons rfl (fun Kc hK => ?_) AllReady.nil
                go_simp
                refine hK _ _ ?_
                clear hK
                refine wpAny_done (by kernel_rfl) ?_ _
                have hs11 := hs10.set2 (.slice aon nn capn)
                have hk11 := hk10.set 2 (.slice aon nn capn)
                have hF11 := hF10.set (b := b) hbw 2 (.slice aon nn capn)
                have HLo := HLe0
                obtain ⟨c2, c3⟩ := hs11.c23
                have HLn : Hid (nn = lm.length + 1) := by show _ = _; rw [Hnn.out]; simp
                have HG : Hid (defL K ⟨lm.map Prod.fst, le.map Prod.fst⟩ t3 = .ok (⟨(lm ++ [(x, (aof, nf, capf), (aob, nb, capb))]).map Prod.fst, le.map Prod.fst⟩, t8)) := by show _ = _; rw [HP.out, HI.out]; simp [R.thn]
                have HQ : Hid (allGo K K ⟨[], []⟩ r = if 10 < nn + nen then .error (some (5, t8)) else allGo K k ⟨(lm ++ [(x, (aof, nf, capf), (aob, nb, capb))]).map Prod.fst, le.map Prod.fst⟩ t8) := by
                  show _ = _
                  rw [HX4.out, HG.out]
                  simp only [R.thn, List.length_map]
                  rw [HLo.out, Hnn.out]
                have hnn : nn ≤ 1000 := by rw [HLn.out]; omega
                have hne : nen ≤ 1000 := by rw [HLo.out]; omega
                by_cases h10 : 10 < nn + nen
                · have HY : Hid (allGo K K ⟨[], []⟩ r = .error (some (5, t8))) := by show _ = _; rw [HQ.out, if_pos h10]
                  go_wp2_with fail
                  go_quiet (fail)
                  go_wp2_with fail
                  refine (throw_any (hs11.drewN _) 5).mono ?_
                  rintro en w12 ⟨rfl, rfl⟩
                  go_wp2
                  exact ⟨rfl, hk11.drewN _, by rw [HY.out]; exact ⟨hs11.2.1, rfl⟩⟩
                · have HY : Hid (allGo K K ⟨[], []⟩ r = allGo K k ⟨(lm ++ [(x, (aof, nf, capf), (aob, nb, capb))]).map Prod.fst, le.map Prod.fst⟩ t8) := by show _ = _; rw [HQ.out, if_neg h10]
                  go_wp2_with fail
                  go_quiet (fail)
                  go_wp2_with fail
                  go_roundg k
                  case measure => omega
                  case rel => exact ⟨_, _, t8, _, _, hF11.drewN _, hs11.drewN _, hk11.drewN _, by rw [List.length_append]; simp; have := HLn.out; have := HLo.out; omega, HY⟩
        | false =>
          go_wp2_with fail
          refine (keyword_any hs5 kwEnum (by decide)).mono ?_
          rintro en w6 ⟨rfl, hs6, hk6⟩
          have hF6 := hF5.kp hk6 hbw
          replace hkw := hkw.trans hk6
          clear hs5 hF5 hk6
          generalize hq6 : keyL kwEnum t5 = mq at hs6 ⊢
          obtain ⟨ok, t6⟩ := mq
          cases ok with
          | true =>
            obtain ⟨w7, Hw7⟩ : ∃ w7, w7 = w6 := ⟨_, rfl⟩
            obtain ⟨t7, Ht7⟩ : ∃ t7, t7 = t6 := ⟨_, rfl⟩
            subst Hw7 Ht7
            have HP : Hid (defL K ⟨lm.map Prod.fst, le.map Prod.fst⟩ t3 = R.thn (enumL K t7) fun m u => .ok (⟨lm.map Prod.fst, le.map Prod.fst ++ [m]⟩, u)) := by show _ = _; rw [defL, hq]; show (match keyL kwEnum t5 with | (true, t) => _ | (false, t) => _) = _; rw [hq6]
            have hNr : enumL K t7 ≠ .error none := by intro hh; apply HN.out; rw [HX4.out, HP.out, hh]; rfl
            have hs7 : St w7 b txt t7 _ _ := hs6
            have hF7 := hF6
            have hg7 : Gl B w7 := hg.kp hB hbw hkw
            clear hq hq6 hs6 hF6
            go_wp2_with fail
            obtain ⟨c2, c3⟩ := hs7.c23
            refine wp_region_any (by kernel_rfl) ?_
            change wpAny _ _ _ _ _ _ _ (World.drew _)
            refine wpAny_take (i := 0) (v := .pointer (some ⟨b, 0, none⟩)) rfl (by kernel_rfl) (by kernel_rfl) (by kernel_rfl) (fun _ _ _ h => h) (Or.inl ⟨by rfl, by intro w; go_simp⟩) ?_
            refine wpAny_take (i := 1) (v := .pointer (some ⟨b, 0, none⟩)) rfl (by kernel_rfl) (by kernel_rfl) (by kernel_rfl) (fun _ _ _ h => h) (Or.inl ⟨by rfl, by intro w; go_simp⟩) ?_
            refine wpAny_take (i := 2) (v := .pointer (some ⟨b, 0, none⟩)) rfl (by kernel_rfl) (by kernel_rfl) (by kernel_rfl) (fun _ _ _ h => h) (Or.inl ⟨by rfl, by intro w; go_simp⟩) ?_
            refine wpAny_take (i := 3) (v := .pointer (some ⟨b, 2, none⟩)) rfl (by kernel_rfl) (by kernel_rfl) (by kernel_rfl) (fun _ _ _ h => h) (Or.inl ⟨by rfl, by intro w; go_simp⟩) ?_
            refine wpAny_take (i := 4) (v := .pointer (some ⟨b, 3, none⟩)) rfl (by kernel_rfl) (by kernel_rfl) (by kernel_rfl) (fun _ _ _ h => h) (Or.inl ⟨by rfl, by intro w; go_simp⟩) ?_
            refine wpAny_take (i := 6) (v := .pointer (some ⟨b, 0, none⟩)) rfl (by kernel_rfl) (by kernel_rfl) (by kernel_rfl) (fun _ _ _ h => h) (Or.inl ⟨by rfl, by intro w; go_simp⟩) ?_
            refine wpAny_ready (rs := [5, 7]) (by kernel_rfl) (by simp) ?_
            refine AllReady.cons rfl (fun Kc hK => ?_) (AllReady.cons rfl (fun Kc hK => ?_) AllReady.nil)
            · go_simp
              refine hK _ _ ?_
              clear hK
              refine wpAny_ready (rs := [7]) (by kernel_rfl) (by simp) ?_
              refine AllReady.cons rfl (fun Kc hK => ?_) AllReady.nil
              go_simp
              refine (enum_any hs7.drew hg7.drew' hB K hNr).mono ?_
              rintro en w8 ⟨hk8, hx⟩
              have hF8 := hF7.drew.kp hk8 hbw
              have hkw8 := hkw.drew.trans hk8
              cases hn : enumL K t7 with
              | error E =>
                rw [hn] at hx
                match E, hx with
                | none, hx => exact hx.elim
                | some (c, t), hx =>
                  obtain ⟨ht, rfl⟩ := hx
                  have HY : Hid (allGo K K ⟨[], []⟩ r = .error (some (c, t))) := by show _ = _; rw [HX4.out, HP.out, hn]; rfl
                  clear hn HX4 hK
                  go_wp2
                  exact ⟨rfl, hkw8, by rw [HY.out]; exact ⟨ht, rfl⟩⟩
              | ok p =>
                obtain ⟨x, t8⟩ := p
                rw [hn] at hx
                obtain ⟨hs8, _, rfl, vf, rfl, hrf⟩ := hx
                obtain ⟨aof, nf, capf, rfl, _⟩ := hrf.shape'
                have HI : Hid (enumL K t7 = .ok (x, t8)) := hn
                clear hn
                obtain ⟨c2, c3⟩ := hs8.c23
                have hbl : b < w8.heap.size := hs8.lt
                have hz8 : w.heap.size ≤ w8.heap.size := hkw8.size
                have hz7 : w.heap.size ≤ w7.drew.heap.size := hkw.size
                refine hK _ _ ?_
                clear hK
                refine wpAny_ready (rs := [8]) (by kernel_rfl) (by simp) ?_
                refine AllReady.cons rfl (fun Kc hK => ?_) AllReady.nil
                go_simp
                refine hK _ _ ?_
                clear hK
                refine wpAny_ready (rs := [9]) (by kernel_rfl) (by simp) ?_
                refine AllReady.cons rfl (fun Kc hK => ?_) AllReady.nil
                simp only [Region.wanted]
                have hsrc : Row ekEnm (w8.alloc (.cells #[.string (S x.name), .slice aof nf capf] 50)) w.heap.size (.slice (some ⟨w8.heap.size, 0, none⟩) 1 1) [(x, (aof, nf, capf))] := Row.one ekEnm w8 (x, (aof, nf, capf)) hz8
                have hF9 := hF8.below ((Below.refl _ w8).alloc (Nat.le_refl _) (.cells #[.string (S x.name), .slice aof nf capf] 50))
                have hnew9 := ((hrf.mono hz7).below ((Below.refl _ w8).alloc (Nat.le_refl _) (.cells #[.string (S x.name), .slice aof nf capf] 50)))
                have hs9 := hs8.alloc (.cells #[.string (S x.name), .slice aof nf capf] 50)
                have hk9 := hkw8.alloc (.cells #[.string (S x.name), .slice aof nf capf] 50)
                refine wp_app ekEnm _ _ rfl w.heap.size _ le [(x, (aof, nf, capf))] rfl hF9.rowe _ _ rfl hsrc (by (try simp); omega) (by simp; omega) ?_
                intro vn w10 hrn10 hgr
                obtain ⟨aon, nn, capn, rfl, Hnn⟩ := hrn10.shape'
                have hown := hF9.rowe.own
                have hs10 := hs9.grown hgr (fun k hk => by have := (hown k hk).1; omega)
                have hk10 := hk9.grown hgr (fun k hk => (hown k hk).1)
                have hF10 := hF9.adde (x, (aof, nf, capf)) hgr hrn10 hnew9
                obtain ⟨k2, k3⟩ := hs10.c23
                have g1 := hs10.fr 3
                clear c2 c3
                refine hK _ _ ?_
                clear hK
                refine wpAny_take (i := 10) (v := .pointer (some ⟨b, 0, none⟩)) rfl (by kernel_rfl) (by kernel_rfl) (by kernel_rfl) (fun _ _ _ h => h) (Or.inl ⟨by rfl, by intro w; go_simp⟩) ?_
                refine wpAny_take (i := 11) (v := .pointer (some ⟨b, 2, none⟩)) rfl (by kernel_rfl) (by kernel_rfl) (by kernel_rfl) (fun _ _ _ h => h) (Or.inl ⟨by rfl, by intro w; go_simp⟩) ?_
                refine wpAny_take (i := 12) (v := .pointer (some ⟨b, 3, none⟩)) rfl (by kernel_rfl) (by kernel_rfl) (by kernel_rfl) (fun _ _ _ h => h) (Or.inl ⟨by rfl, by intro w; go_simp⟩) ?_
                refine wpAny_ready (rs := [13]) (by kernel_rfl) (by simp) ?_
                refine AllReady.cons rfl (fun Kc hK => ?_) AllReady.nil
                go_simp
                refine hK _ _ ?_
                clear hK
                refine wpAny_done (by kernel_rfl) ?_ _
                have hs11 := hs10.set3 (.slice aon nn capn)
                have hk11 := hk10.set 3 (.slice aon nn capn)
                have hF11 := hF10.set (b := b) hbw 3 (.slice aon nn capn)
                have HLo := HLm0
                obtain ⟨c2, c3⟩ := hs11.c23
                have HLn : Hid (nn = le.length + 1) := by show _ = _; rw [Hnn.out]; simp
                have HG : Hid (defL K ⟨lm.map Prod.fst, le.map Prod.fst⟩ t3 = .ok (⟨lm.map Prod.fst, (le ++ [(x, (aof, nf, capf))]).map Prod.fst⟩, t8)) := by show _ = _; rw [HP.out, HI.out]; simp [R.thn]
                have HQ : Hid (allGo K K ⟨[], []⟩ r = if 10 < nn + nmm then .error (some (5, t8)) else allGo K k ⟨lm.map Prod.fst, (le ++ [(x, (aof, nf, capf))]).map Prod.fst⟩ t8) := by
                  show _ = _
                  rw [HX4.out, HG.out]
                  simp only [R.thn, List.length_map]
                  rw [HLo.out, Hnn.out]
                  rw [Nat.add_comm]
                have hnn : nn ≤ 1000 := by rw [HLn.out]; omega
                have hne : nmm ≤ 1000 := by rw [HLo.out]; omega
                by_cases h10 : 10 < nn + nmm
                · have HY : Hid (allGo K K ⟨[], []⟩ r = .error (some (5, t8))) := by show _ = _; rw [HQ.out, if_pos h10]
                  go_wp2_with fail
                  go_quiet (fail)
                  go_wp2_with fail
                  refine (throw_any (hs11.drewN _) 5).mono ?_
                  rintro en w12 ⟨rfl, rfl⟩
                  go_wp2
                  exact ⟨rfl, hk11.drewN _, by rw [HY.out]; exact ⟨hs11.2.1, rfl⟩⟩
                · have HY : Hid (allGo K K ⟨[], []⟩ r = allGo K k ⟨lm.map Prod.fst, (le ++ [(x, (aof, nf, capf))]).map Prod.fst⟩ t8) := by show _ = _; rw [HQ.out, if_neg h10]
                  go_wp2_with fail
                  go_quiet (fail)
                  go_wp2_with fail
                  go_roundg k
                  case measure => omega
                  case rel => exact ⟨_, _, t8, _, _, hF11.drewN _, hs11.drewN _, hk11.drewN _, by rw [List.length_append]; simp; have := HLn.out; have := HLo.out; omega, HY⟩

            · go_simp
              refine (enum_any hs7.drew hg7.drew' hB K hNr).mono ?_
              rintro en w8 ⟨hk8, hx⟩
              have hF8 := hF7.drew.kp hk8 hbw
              have hkw8 := hkw.drew.trans hk8
              cases hn : enumL K t7 with
              | error E =>
                rw [hn] at hx
                match E, hx with
                | none, hx => exact hx.elim
                | some (c, t), hx =>
                  obtain ⟨ht, rfl⟩ := hx
                  have HY : Hid (allGo K K ⟨[], []⟩ r = .error (some (c, t))) := by show _ = _; rw [HX4.out, HP.out, hn]; rfl
                  clear hn HX4 hK
                  go_wp2
                  exact ⟨rfl, hkw8, by rw [HY.out]; exact ⟨ht, rfl⟩⟩
              | ok p =>
                obtain ⟨x, t8⟩ := p
                rw [hn] at hx
                obtain ⟨hs8, _, rfl, vf, rfl, hrf⟩ := hx
                obtain ⟨aof, nf, capf, rfl, _⟩ := hrf.shape'
                have HI : Hid (enumL K t7 = .ok (x, t8)) := hn
                clear hn
                obtain ⟨c2, c3⟩ := hs8.c23
                have hbl : b < w8.heap.size := hs8.lt
                have hz8 : w.heap.size ≤ w8.heap.size := hkw8.size
                have hz7 : w.heap.size ≤ w7.drew.heap.size := hkw.size
                refine hK _ _ ?_
                clear hK
                refine wpAny_ready (rs := [5, 8]) (by kernel_rfl) (by simp) ?_
                refine AllReady.cons rfl (fun Kc hK => ?_) (AllReady.cons rfl (fun Kc hK => ?_) AllReady.nil)
                · go_simp
                  refine hK _ _ ?_
                  clear hK
                  refine wpAny_ready (rs := [8]) (by kernel_rfl) (by simp) ?_
                  refine AllReady.cons rfl (fun Kc hK => ?_) AllReady.nil
                  go_simp
                  refine hK _ _ ?_
                  clear hK
                  refine wpAny_ready (rs := [9]) (by kernel_rfl) (by simp) ?_
                  refine AllReady.cons rfl (fun Kc hK => ?_) AllReady.nil
                  simp only [Region.wanted]
                  have hsrc : Row ekEnm (w8.alloc (.cells #[.string (S x.name), .slice aof nf capf] 50)) w.heap.size (.slice (some ⟨w8.heap.size, 0, none⟩) 1 1) [(x, (aof, nf, capf))] := Row.one ekEnm w8 (x, (aof, nf, capf)) hz8
                  have hF9 := hF8.below ((Below.refl _ w8).alloc (Nat.le_refl _) (.cells #[.string (S x.name), .slice aof nf capf] 50))
                  have hnew9 := ((hrf.mono hz7).below ((Below.refl _ w8).alloc (Nat.le_refl _) (.cells #[.string (S x.name), .slice aof nf capf] 50)))
                  have hs9 := hs8.alloc (.cells #[.string (S x.name), .slice aof nf capf] 50)
                  have hk9 := hkw8.alloc (.cells #[.string (S x.name), .slice aof nf capf] 50)
                  refine wp_app ekEnm _ _ rfl w.heap.size _ le [(x, (aof, nf, capf))] rfl hF9.rowe _ _ rfl hsrc (by (try simp); omega) (by simp; omega) ?_
                  intro vn w10 hrn10 hgr
                  obtain ⟨aon, nn, capn, rfl, Hnn⟩ := hrn10.shape'
                  have hown := hF9.rowe.own
                  have hs10 := hs9.grown hgr (fun k hk => by have := (hown k hk).1; omega)
                  have hk10 := hk9.grown hgr (fun k hk => (hown k hk).1)
                  have hF10 := hF9.adde (x, (aof, nf, capf)) hgr hrn10 hnew9
                  obtain ⟨k2, k3⟩ := hs10.c23
                  have g1 := hs10.fr 3
                  clear c2 c3
                  refine hK _ _ ?_
                  clear hK
                  refine wpAny_take (i := 10) (v := .pointer (some ⟨b, 0, none⟩)) rfl (by kernel_rfl) (by kernel_rfl) (by kernel_rfl) (fun _ _ _ h => h) (Or.inl ⟨by rfl, by intro w; go_simp⟩) ?_
                  refine wpAny_take (i := 11) (v := .pointer (some ⟨b, 2, none⟩)) rfl (by kernel_rfl) (by kernel_rfl) (by kernel_rfl) (fun _ _ _ h => h) (Or.inl ⟨by rfl, by intro w; go_simp⟩) ?_
                  refine wpAny_take (i := 12) (v := .pointer (some ⟨b, 3, none⟩)) rfl (by kernel_rfl) (by kernel_rfl) (by kernel_rfl) (fun _ _ _ h => h) (Or.inl ⟨by rfl, by intro w; go_simp⟩) ?_
                  refine wpAny_ready (rs := [13]) (by kernel_rfl) (by simp) ?_
                  refine AllReady.cons rfl (fun Kc hK => ?_) AllReady.nil
                  go_simp
                  refine hK _ _ ?_
                  clear hK
                  refine wpAny_done (by kernel_rfl) ?_ _
                  have hs11 := hs10.set3 (.slice aon nn capn)
                  have hk11 := hk10.set 3 (.slice aon nn capn)
                  have hF11 := hF10.set (b := b) hbw 3 (.slice aon nn capn)
                  have HLo := HLm0
                  obtain ⟨c2, c3⟩ := hs11.c23
                  have HLn : Hid (nn = le.length + 1) := by show _ = _; rw [Hnn.out]; simp
                  have HG : Hid (defL K ⟨lm.map Prod.fst, le.map Prod.fst⟩ t3 = .ok (⟨lm.map Prod.fst, (le ++ [(x, (aof, nf, capf))]).map Prod.fst⟩, t8)) := by show _ = _; rw [HP.out, HI.out]; simp [R.thn]
                  have HQ : Hid (allGo K K ⟨[], []⟩ r = if 10 < nn + nmm then .error (some (5, t8)) else allGo K k ⟨lm.map Prod.fst, (le ++ [(x, (aof, nf, capf))]).map Prod.fst⟩ t8) := by
                    show _ = _
                    rw [HX4.out, HG.out]
                    simp only [R.thn, List.length_map]
                    rw [HLo.out, Hnn.out]
                    rw [Nat.add_comm]
                  have hnn : nn ≤ 1000 := by rw [HLn.out]; omega
                  have hne : nmm ≤ 1000 := by rw [HLo.out]; omega
                  by_cases h10 : 10 < nn + nmm
                  · have HY : Hid (allGo K K ⟨[], []⟩ r = .error (some (5, t8))) := by show _ = _; rw [HQ.out, if_pos h10]
                    go_wp2_with fail
                    go_quiet (fail)
                    go_wp2_with fail
                    refine (throw_any (hs11.drewN _) 5).mono ?_
                    rintro en w12 ⟨rfl, rfl⟩
                    go_wp2
                    exact ⟨rfl, hk11.drewN _, by rw [HY.out]; exact ⟨hs11.2.1, rfl⟩⟩
                  · have HY : Hid (allGo K K ⟨[], []⟩ r = allGo K k ⟨lm.map Prod.fst, (le ++ [(x, (aof, nf, capf))]).map Prod.fst⟩ t8) := by show _ = _; rw [HQ.out, if_neg h10]
                    go_wp2_with fail
                    go_quiet (fail)
                    go_wp2_with fail
                    go_roundg k
                    case measure => omega
                    case rel => exact ⟨_, _, t8, _, _, hF11.drewN _, hs11.drewN _, hk11.drewN _, by rw [List.length_append]; simp; have := HLn.out; have := HLo.out; omega, HY⟩
                · go_simp
                  refine hK _ _ ?_
                  clear hK
                  refine wpAny_ready (rs := [5]) (by kernel_rfl) (by simp) ?_
                  refine AllReady.cons rfl (fun Kc hK => ?_) AllReady.nil
                  go_simp
                  refine hK _ _ ?_
                  clear hK
                  refine wpAny_ready (rs := [9]) (by kernel_rfl) (by simp) ?_
                  refine AllReady.cons rfl (fun Kc hK => ?_) AllReady.nil
                  simp only [Region.wanted]
                  have hsrc : Row ekEnm (w8.alloc (.cells #[.string (S x.name), .slice aof nf capf] 50)) w.heap.size (.slice (some ⟨w8.heap.size, 0, none⟩) 1 1) [(x, (aof, nf, capf))] := Row.one ekEnm w8 (x, (aof, nf, capf)) hz8
                  have hF9 := hF8.below ((Below.refl _ w8).alloc (Nat.le_refl _) (.cells #[.string (S x.name), .slice aof nf capf] 50))
                  have hnew9 := ((hrf.mono hz7).below ((Below.refl _ w8).alloc (Nat.le_refl _) (.cells #[.string (S x.name), .slice aof nf capf] 50)))
                  have hs9 := hs8.alloc (.cells #[.string (S x.name), .slice aof nf capf] 50)
                  have hk9 := hkw8.alloc (.cells #[.string (S x.name), .slice aof nf capf] 50)
                  refine wp_app ekEnm _ _ rfl w.heap.size _ le [(x, (aof, nf, capf))] rfl hF9.rowe _ _ rfl hsrc (by (try simp); omega) (by simp; omega) ?_
                  intro vn w10 hrn10 hgr
                  obtain ⟨aon, nn, capn, rfl, Hnn⟩ := hrn10.shape'
                  have hown := hF9.rowe.own
                  have hs10 := hs9.grown hgr (fun k hk => by have := (hown k hk).1; omega)
                  have hk10 := hk9.grown hgr (fun k hk => (hown k hk).1)
                  have hF10 := hF9.adde (x, (aof, nf, capf)) hgr hrn10 hnew9
                  obtain ⟨k2, k3⟩ := hs10.c23
                  have g1 := hs10.fr 3
                  clear c2 c3
                  refine hK _ _ ?_
                  clear hK
                  refine wpAny_take (i := 10) (v := .pointer (some ⟨b, 0, none⟩)) rfl (by kernel_rfl) (by kernel_rfl) (by kernel_rfl) (fun _ _ _ h => h) (Or.inl ⟨by rfl, by intro w; go_simp⟩) ?_
                  refine wpAny_take (i := 11) (v := .pointer (some ⟨b, 2, none⟩)) rfl (by kernel_rfl) (by kernel_rfl) (by kernel_rfl) (fun _ _ _ h => h) (Or.inl ⟨by rfl, by intro w; go_simp⟩) ?_
                  refine wpAny_take (i := 12) (v := .pointer (some ⟨b, 3, none⟩)) rfl (by kernel_rfl) (by kernel_rfl) (by kernel_rfl) (fun _ _ _ h => h) (Or.inl ⟨by rfl, by intro w; go_simp⟩) ?_
                  refine wpAny_ready (rs := [13]) (by kernel_rfl) (by simp) ?_
                  refine AllReady.cons rfl (fun Kc hK => ?_) AllReady.nil
                  go_simp
                  refine hK _ _ ?_
                  clear hK
                  refine wpAny_done (by kernel_rfl) ?_ _
                  have hs11 := hs10.set3 (.slice aon nn capn)
                  have hk11 := hk10.set 3 (.slice aon nn capn)
                  have hF11 := hF10.set (b := b) hbw 3 (.slice aon nn capn)
                  have HLo := HLm0
                  obtain ⟨c2, c3⟩ := hs11.c23
                  have HLn : Hid (nn = le.length + 1) := by show _ = _; rw [Hnn.out]; simp
                  have HG : Hid (defL K ⟨lm.map Prod.fst, le.map Prod.fst⟩ t3 = .ok (⟨lm.map Prod.fst, (le ++ [(x, (aof, nf, capf))]).map Prod.fst⟩, t8)) := by show _ = _; rw [HP.out, HI.out]; simp [R.thn]
                  have HQ : Hid (allGo K K ⟨[], []⟩ r = if 10 < nn + nmm then .error (some (5, t8)) else allGo K k ⟨lm.map Prod.fst, (le ++ [(x, (aof, nf, capf))]).map Prod.fst⟩ t8) := by
                    show _ = _
                    rw [HX4.out, HG.out]
                    simp only [R.thn, List.length_map]
                    rw [HLo.out, Hnn.out]
                    rw [Nat.add_comm]
                  have hnn : nn ≤ 1000 := by rw [HLn.out]; omega
                  have hne : nmm ≤ 1000 := by rw [HLo.out]; omega
                  by_cases h10 : 10 < nn + nmm
                  · have HY : Hid (allGo K K ⟨[], []⟩ r = .error (some (5, t8))) := by show _ = _; rw [HQ.out, if_pos h10]
                    go_wp2_with fail
                    go_quiet (fail)
                    go_wp2_with fail
                    refine (throw_any (hs11.drewN _) 5).mono ?_
                    rintro en w12 ⟨rfl, rfl⟩
                    go_wp2
                    exact ⟨rfl, hk11.drewN _, by rw [HY.out]; exact ⟨hs11.2.1, rfl⟩⟩
                  · have HY : Hid (allGo K K ⟨[], []⟩ r = allGo K k ⟨lm.map Prod.fst, (le ++ [(x, (aof, nf, capf))]).map Prod.fst⟩ t8) := by show _ = _; rw [HQ.out, if_neg h10]
                    go_wp2_with fail
                    go_quiet (fail)
                    go_wp2_with fail
                    go_roundg k
                    case measure => omega
                    case rel => exact ⟨_, _, t8, _, _, hF11.drewN _, hs11.drewN _, hk11.drewN _, by rw [List.length_append]; simp; have := HLn.out; have := HLo.out; omega, HY⟩
          | false =>
            have HY : Hid (allGo K K ⟨[], []⟩ r = .error (some (2, t6))) := by show _ = _; rw [HX4.out, defL, hq]; show R.thn (match keyL kwEnum t5 with | (true, t) => _ | (false, t) => _) _ = _; rw [hq6]; rfl
            have hs6' : St w6 b txt t6 _ _ := hs6
            clear hq hq6
            go_wp2_with fail
            refine (throw_any hs6' 2).mono ?_
            rintro en w12 ⟨rfl, rfl⟩
            go_wp2
            exact ⟨rfl, hkw, by rw [HY.out]; exact ⟨hs6'.2.1, rfl⟩⟩

end Go.Proofs.YtenlijgnmhdopaaGreatDoor
