/- The contract of message. -/
import Derived.Test.YtenlijgnmhdopaaGreatDoorSEnum
namespace Go.Proofs.YtenlijgnmhdopaaGreatDoor
open Go.RowKit

theorem blk3 {w : World} {g : Nat} {a0 a1 a2 : Value} {t : TypeId} (h : w.heap[g]? = some (.cells #[a0, a1, a2] t (0, 0))) :
    w.cell? ⟨g, 0, none⟩ = some a0 ∧ w.cell? ⟨g, 1, none⟩ = some a1 ∧ w.cell? ⟨g, 2, none⟩ = some a2 := ⟨cell_of_blk h 0 _ rfl, cell_of_blk h 1 _ rfl, cell_of_blk h 2 _ rfl⟩

/-- A message as the call answers it. -/
def MsgV (w : World) (base : Nat) (x : Msg) (v : Value) : Prop := ∃ vf vb, v = .agg #[.string (S x.name), vf, vb] ∧ Row ekFld w base vf x.fields ∧ Row ekInt w base vb x.barred

set_option maxHeartbeats 8000000 in
set_option maxRecDepth 100000 in
theorem message_any {B b : Nat} {txt r : List UInt8} {m e : Value} {w : World} (h : St w b txt r m e) (hg : Gl B w) (hB : B ≤ b) (K : Nat) (hKb : K ≤ 1000000) (hN : messageL K r ≠ .error none) :
    Calls Tryz.prog 70 #[.pointer (some ⟨b, 0, none⟩)] w (Post b txt m e w (fun x v w' => MsgV w' w.heap.size x v) (messageL K r)) := by
  have hbw := h.lt
  have HN : Hid (messageL K r ≠ .error none) := hN
  have HX : Hid (messageL K r = R.thn (nameL r) fun nm u => R.thn (mustL 123 u) fun _ u => msgGo K K ⟨nm, [], []⟩ 0 u) := rfl
  clear hN
  go_enter Tryz.func70, Tryz.ntmps70
  go_wp2_with fail
  refine (name_any (h.alloc _)).mono ?_
  rintro en w1 ⟨hk1, hx⟩
  have hR : w1.heap[w.heap.size]? = some (.cells #[.string ⟨#[]⟩, .slice none 0 0, .slice none 0 0] 37 (0, 0)) := blk_kp (heap_alloc_new w _) hk1 (by omega)
  have hz1 : w.heap.size + 1 ≤ w1.heap.size := by have := hk1.size; simpa using this
  have hkw : Kp b w w1 := ((Kp.refl b w).alloc _).trans hk1
  clear hk1
  cases hn : nameL r with
  | error E =>
    rw [hn] at hx
    match E, hx with
    | none, hx => exact hx.elim
    | some (c, t), hx =>
      obtain ⟨ht, rfl⟩ := hx
      have HY : Hid (messageL K r = .error (some (c, t))) := by show _ = _; rw [HX.out, hn]; rfl
      clear hn HX
      go_wp2
      exact ⟨rfl, post_err hkw HY.out ht⟩
  | ok p =>
    obtain ⟨nm, t1⟩ := p
    rw [hn] at hx
    obtain ⟨hs1, _, rfl, rfl⟩ := hx
    have HX2 : Hid (messageL K r = R.thn (mustL 123 t1) fun _ u => msgGo K K ⟨nm, [], []⟩ 0 u) := by show _ = _; rw [HX.out, hn]; rfl
    clear hn HX
    have hF2 := heap_alloc_new w1 (.cells #[.string (S nm), .slice none 0 0, .slice none 0 0] 37)
    have hR2 := (Below.heap_alloc w1 (.cells #[.string (S nm), .slice none 0 0, .slice none 0 0] 37) w.heap.size (by omega)).trans hR
    have hs2 := hs1.alloc (.cells #[.string (S nm), .slice none 0 0, .slice none 0 0] 37)
    have hk2 := hkw.alloc (.cells #[.string (S nm), .slice none 0 0, .slice none 0 0] 37)
    clear hkw hR hs1
    go_wp2_with fail
    generalize w1.alloc (.cells #[.string (S nm), .slice none 0 0, .slice none 0 0] 37) = W2 at *
    obtain ⟨F, HFF⟩ : ∃ F, Hid (F = w1.heap.size) := ⟨_, rfl⟩
    have hFz : w.heap.size + 1 ≤ F := by rw [HFF.out]; exact hz1
    rw [← HFF.out] at hF2 ⊢
    clear hz1
    refine (must_any hs2 123).mono ?_
    rintro en w3 ⟨hk3, hx⟩
    have hF3 := blk_kp hF2 hk3 (by omega)
    have hR3 := blk_kp hR2 hk3 (by omega)
    have hkw := hk2.trans hk3
    clear hF2 hR2 hs2 hk2 hk3
    cases hn : mustL 123 t1 with
    | error E =>
      rw [hn] at hx
      match E, hx with
      | none, hx => exact hx.elim
      | some (c, t), hx =>
        obtain ⟨ht, rfl⟩ := hx
        have HY : Hid (messageL K r = .error (some (c, t))) := by show _ = _; rw [HX2.out, hn]; rfl
        clear hn HX2
        go_wp2
        exact ⟨rfl, post_err hkw HY.out ht⟩
    | ok p =>
      obtain ⟨_, t2⟩ := p
      rw [hn] at hx
      obtain ⟨hs3, _, rfl, rfl⟩ := hx
      have HX3 : Hid (messageL K r = msgGo K K ⟨nm, [], []⟩ 0 t2) := by show _ = _; rw [HX2.out, hn]; rfl
      clear hn HX2
      go_wp2_with fail
      go_loopg [4] K (fun k sc wr => ∃ fs bs ch q vf vb, sc = .int .i64 ((ch : Nat) : Int) ∧ Row ekFld wr w.heap.size vf fs ∧ Row ekInt wr w.heap.size vb bs ∧ wr.heap[F]? = some (.cells #[.string (S nm), vf, vb] 37 (0, 0)) ∧ wr.heap[w.heap.size]? = some (.cells #[.string ⟨#[]⟩, .slice none 0 0, .slice none 0 0] 37 (0, 0)) ∧ St wr b txt q m e ∧ Kp b w wr ∧ fs.length ≤ 16 ∧ bs.length ≤ 16 ∧ ch + k ≤ K ∧ Hid (messageL K r = msgGo K k ⟨nm, fs, bs⟩ ch q))
      case atStart => exact ⟨[], [], 0, t2, .slice none 0 0, .slice none 0 0, rfl, Row.nil _ _ _, Row.nil _ _ _, hF3, hR3, hs3, hkw, by simp, by simp, by omega, HX3⟩
      case round =>
        clear hF3 hR3 hs3 hkw HX3
        obtain ⟨fs, bs, ch, q, vf, vb, rfl, hrf, hrb, hF, hR, hs, hk, hlf, hlb, hch, HR⟩ := hrel
        cases gk with
        | zero => exact absurd HR.out HN.out
        | succ k =>
          go_wp2_with fail
          refine (mark_any hs 125).mono ?_
          rintro en w4 ⟨rfl, hs4, hk4⟩
          have hrf4 := hrf.kp hk4 hbw
          have hrb4 := hrb.kp hk4 hbw
          have hF4 := blk_kp hF hk4 (by omega)
          have hR4 := blk_kp hR hk4 (by omega)
          have hkw := hk.trans hk4
          clear hrf hrb hs hk hF hR hk4
          generalize hq : markL 125 q = mq at hs4 ⊢
          obtain ⟨ok, t3⟩ := mq
          cases ok with
          | true =>
            have HX4 : Hid (messageL K r = .ok (⟨nm, fs, bs⟩, t3)) := by show _ = _; rw [HR.out, msgGo, hq]
            clear hq HR
            obtain ⟨c0, c1, c2⟩ := blk3 hF4
            obtain ⟨d0, d1, d2⟩ := blk3 hR4
            have g0 := fr_of_blk hR4 0
            have g1 := fr_of_blk hR4 1
            have g2 := fr_of_blk hR4 2
            obtain ⟨ao, nf, cap, rfl, _⟩ := hrf4.shape'
            obtain ⟨aob, nb, capb, rfl, _⟩ := hrb4.shape'
            go_wp2
            refine bodyPost_ret (v := .agg #[.string (S nm), .slice ao nf cap, .slice aob nb capb]) (by simp [results, Tryz.results70, go_sem, *]) rfl ?_
            have hk5 := ((hkw.setNew (F := w.heap.size) (by omega) 0 (.string (S nm))).setNew (F := w.heap.size) (by omega) 1 (.slice ao nf cap)).setNew (F := w.heap.size) (by omega) 2 (.slice aob nb capb)
            refine post_ok hk5 HX4.out (((hs4.other (by omega) _ _).other (by omega) _ _).other (by omega) _ _) ⟨_, _, rfl, ?_, ?_⟩
            · have hb := hrf4.ne_blk hR4 (by decide)
              exact ((hrf4.other hb _ _).other hb _ _).other hb _ _
            · have hb := hrb4.ne_blk hR4 (by decide)
              exact ((hrb4.other hb _ _).other hb _ _).other hb _ _
          | false =>
            have HX4 : Hid (messageL K r = R.thn (partL K ⟨nm, fs, bs⟩ ch t3) fun p u => if 16 < p.1.fields.length ∨ 16 < p.1.barred.length then .error (some (5, u)) else msgGo K k p.1 p.2 u) := by show _ = _; rw [HR.out, msgGo, hq]
            clear hq HR
            go_wp2_with fail
            refine (keyword_any hs4 kwReserved (by decide)).mono ?_
            rintro en w5 ⟨rfl, hs5, hk5⟩
            have hrf5 := hrf4.kp hk5 hbw
            have hrb5 := hrb4.kp hk5 hbw
            have hF5 := blk_kp hF4 hk5 (by omega)
            have hR5 := blk_kp hR4 hk5 (by omega)
            replace hkw := hkw.trans hk5
            clear hrf4 hrb4 hs4 hF4 hR4 hk5
            generalize hq : keyL kwReserved t3 = mq at hs5 ⊢
            obtain ⟨ok, t5⟩ := mq
            cases ok with
            | true =>
              obtain ⟨w7, Hw7⟩ : ∃ w7, w7 = w5 := ⟨_, rfl⟩
              obtain ⟨t7, Ht7⟩ : ∃ t7, t7 = t5 := ⟨_, rfl⟩
              subst Hw7 Ht7
              have HP : Hid (partL K ⟨nm, fs, bs⟩ ch t3 = R.thn (reservedL K t7) fun l u => .ok ((⟨nm, fs, bs ++ l⟩, ch), u)) := by show _ = _; rw [partL, hq]
              have hNr : reservedL K t7 ≠ .error none := by intro hh; apply HN.out; rw [HX4.out, HP.out, hh]; rfl
              have hs7 : St w7 b txt t7 m e := hs5
              have hrf7 := hrf5
              have hrb7 := hrb5
              have hF7 := hF5
              have hR7 := hR5
              have hg7 : Gl B w7 := hg.kp hB hbw hkw
              have hl7 : t7.length ≤ 3000 := by have := hs7.1; have := hs7.2.1; omega
              clear hq hs5 hrf5 hrb5 hF5 hR5
              go_wp2_with fail
              obtain ⟨c0, c1, c2⟩ := blk3 hF7
              refine wp_region_any (by kernel_rfl) ?_
              change wpAny _ _ _ _ _ _ _ (World.drew _)
              refine wpAny_take (i := 0) (v := .pointer (some ⟨F, 2, none⟩)) rfl (by kernel_rfl) (by kernel_rfl) (by kernel_rfl) (fun _ _ _ h => h) (Or.inl ⟨by rfl, by intro w; go_simp⟩) ?_
              refine wpAny_take (i := 2) (v := .pointer (some ⟨b, 0, none⟩)) rfl (by kernel_rfl) (by kernel_rfl) (by kernel_rfl) (fun _ _ _ h => h) (Or.inl ⟨by rfl, by intro w; go_simp⟩) ?_
              refine wpAny_ready (rs := [1, 3]) (by kernel_rfl) (by simp) ?_
              refine AllReady.cons rfl (fun Kc hK => ?_) (AllReady.cons rfl (fun Kc hK => ?_) AllReady.nil)
              · go_simp
                refine hK _ _ ?_
                clear hK
                refine wpAny_ready (rs := [3]) (by kernel_rfl) (by simp) ?_
                refine AllReady.cons rfl (fun Kc hK => ?_) AllReady.nil
                go_simp
                refine (reserved_any hs7.drew hg7.drew' hB K hNr).mono ?_
                rintro en w8 ⟨hk8, hx⟩
                have hrf8 := (hrf7.drew').kp hk8 hbw
                have hrb8 := (hrb7.drew').kp hk8 hbw
                have hF8 := blk_kp (w := w7.drew) hF7 hk8 (by omega)
                have hR8 := blk_kp (w := w7.drew) hR7 hk8 (by omega)
                have hkw8 := hkw.drew.trans hk8
                cases hn : reservedL K t7 with
                | error E =>
                  rw [hn] at hx
                  match E, hx with
                  | none, hx => exact hx.elim
                  | some (c, t), hx =>
                    obtain ⟨ht, rfl⟩ := hx
                    have HY : Hid (messageL K r = .error (some (c, t))) := by show _ = _; rw [HX4.out, HP.out, hn]; rfl
                    clear hn HX4 hK
                    go_wp2
                    exact ⟨rfl, post_err hkw8 HY.out ht⟩
                | ok p =>
                  obtain ⟨l, t8⟩ := p
                  rw [hn] at hx
                  obtain ⟨hs8, vl, rfl, hrl⟩ := hx
                  have hll : l.length ≤ 3000 := by have := reserved_len hn; omega
                  have HI : Hid (reservedL K t7 = .ok (l, t8)) := hn
                  clear hn
                  obtain ⟨c0, c1, c2⟩ := blk3 hF8
                  have hz8 : w.heap.size ≤ w8.heap.size := hkw8.size
                  have hFl : F < w8.heap.size := (Array.getElem?_eq_some_iff.1 hF8).1
                  refine hK _ _ ?_
                  clear hK
                  refine wpAny_ready (rs := [4]) (by kernel_rfl) (by simp) ?_
                  refine AllReady.cons rfl (fun Kc hK => ?_) AllReady.nil
                  simp only [Region.wanted]
                  have hsrc := hrl
                  have hrf9 := hrf8
                  have hrb9 := hrb8
                  have hF9 := hF8
                  have hR9 := hR8
                  have hs9 := hs8
                  have hk9 := hkw8
                  refine wp_app ekInt _ _ rfl w.heap.size _ bs l rfl hrb9 _ _ rfl hsrc (by (try simp); omega) hz8 ?_
                  intro vn w10 hrn10 hgr
                  obtain ⟨aon, nn, capn, rfl, Hnn⟩ := hrn10.shape'
                  obtain ⟨aoo, no, capo, rfl, HLo⟩ := hrf9.shape'
                  have hown := hrb9.own
                  have hs10 := hs9.grown hgr (fun k hk => by have := (hown k hk).1; omega)
                  have hk10 := hk9.grown hgr (fun k hk => (hown k hk).1)
                  have hF10 := (hgr.block F (Array.getElem?_eq_some_iff.1 hF9).1 (fun hh => hrb9.ne_blk hF9 (by decide) hh.symm)).trans hF9
                  have hR10 := (hgr.block w.heap.size (Array.getElem?_eq_some_iff.1 hR9).1 (fun hh => hrb9.ne_blk hR9 (by decide) hh.symm)).trans hR9
                  have hro10 := hrf9.grown hgr (hrf9.ne hrb9 (by decide))
                  obtain ⟨_, k1, k2⟩ := blk3 hF10
                  have g1 := fr_of_blk hF10 2
                  clear c0 c1 c2
                  refine hK _ _ ?_
                  clear hK
                  refine wpAny_take (i := 5) (v := .pointer (some ⟨F, 2, none⟩)) rfl (by kernel_rfl) (by kernel_rfl) (by kernel_rfl) (fun _ _ _ h => h) (Or.inl ⟨by rfl, by intro w; go_simp⟩) ?_
                  refine wpAny_ready (rs := [6]) (by kernel_rfl) (by simp) ?_
                  refine AllReady.cons rfl (fun Kc hK => ?_) AllReady.nil
                  go_simp
                  refine hK _ _ ?_
                  clear hK
                  refine wpAny_done (by kernel_rfl) ?_ _
                  have hF11 := heap_setCell_same _ _ 2 _ _ (.slice aon nn capn) hF10
                  have hR11 := (heap_setCell_other w10 ⟨F, 2, none⟩ w.heap.size (.slice aon nn capn) (by simp; omega)).trans hR10
                  have hs11 := hs10.other (F := F) (by omega) 2 (.slice aon nn capn)
                  have hk11 := hk10.setNew (F := F) (by omega) 2 (.slice aon nn capn)
                  have hrb11 := hrn10.other (hrn10.ne_blk hF10 (by decide)) 2 (.slice aon nn capn)
                  have hrf11 := hro10.other (hro10.ne_blk hF10 (by decide)) 2 (.slice aon nn capn)
                  have HLf : Hid (no = (fs).length) := HLo
                  have HLb : Hid (nn = (bs ++ l).length) := Hnn
                  obtain ⟨_, c1, c2⟩ := blk3 hF11
                  have HQ : Hid (messageL K r = if 16 < no ∨ 16 < nn then .error (some (5, t8)) else msgGo K k ⟨nm, fs, bs ++ l⟩ ch t8) := by show _ = _; rw [HX4.out, HP.out, HI.out, HLf.out, HLb.out]; rfl
                  have hnf : no ≤ 10000 := by rw [HLf.out]; (try simp); omega
                  have hnb : nn ≤ 10000 := by rw [HLb.out]; (try simp); omega
                  by_cases h16 : 16 < no
                  · have HY : Hid (messageL K r = .error (some (5, t8))) := by show _ = _; rw [HQ.out, if_pos (.inl h16)]
                    go_wp2_with fail
                    refine (throw_any hs11 5).mono ?_
                    rintro en w12 ⟨rfl, rfl⟩
                    go_wp2
                    exact ⟨rfl, post_err hk11 HY.out hs11.2.1⟩
                  · have h16' : ¬ (16 : Int) < (no : Int) := by omega
                    by_cases h17 : 16 < nn
                    · have HY : Hid (messageL K r = .error (some (5, t8))) := by show _ = _; rw [HQ.out, if_pos (.inr h17)]
                      go_wp2_with fail
                      refine (throw_any hs11 5).mono ?_
                      rintro en w12 ⟨rfl, rfl⟩
                      go_wp2
                      exact ⟨rfl, post_err hk11 HY.out hs11.2.1⟩
                    · have h17' : ¬ (16 : Int) < (nn : Int) := by omega
                      have HY : Hid (messageL K r = msgGo K k ⟨nm, fs, bs ++ l⟩ ch t8) := by show _ = _; rw [HQ.out, if_neg (by omega)]
                      go_wp2_with fail
                      go_roundg k
                      case measure => omega
                      case rel => exact ⟨fs, bs ++ l, ch, t8, _, _, rfl, hrf11, hrb11, hF11, hR11, hs11, hk11, by rw [← HLf.out]; omega, by rw [← HLb.out]; omega, by omega, HY⟩

              · go_simp
                refine (reserved_any hs7.drew hg7.drew' hB K hNr).mono ?_
                rintro en w8 ⟨hk8, hx⟩
                have hrf8 := (hrf7.drew').kp hk8 hbw
                have hrb8 := (hrb7.drew').kp hk8 hbw
                have hF8 := blk_kp (w := w7.drew) hF7 hk8 (by omega)
                have hR8 := blk_kp (w := w7.drew) hR7 hk8 (by omega)
                have hkw8 := hkw.drew.trans hk8
                cases hn : reservedL K t7 with
                | error E =>
                  rw [hn] at hx
                  match E, hx with
                  | none, hx => exact hx.elim
                  | some (c, t), hx =>
                    obtain ⟨ht, rfl⟩ := hx
                    have HY : Hid (messageL K r = .error (some (c, t))) := by show _ = _; rw [HX4.out, HP.out, hn]; rfl
                    clear hn HX4 hK
                    go_wp2
                    exact ⟨rfl, post_err hkw8 HY.out ht⟩
                | ok p =>
                  obtain ⟨l, t8⟩ := p
                  rw [hn] at hx
                  obtain ⟨hs8, vl, rfl, hrl⟩ := hx
                  have hll : l.length ≤ 3000 := by have := reserved_len hn; omega
                  have HI : Hid (reservedL K t7 = .ok (l, t8)) := hn
                  clear hn
                  obtain ⟨c0, c1, c2⟩ := blk3 hF8
                  have hz8 : w.heap.size ≤ w8.heap.size := hkw8.size
                  have hFl : F < w8.heap.size := (Array.getElem?_eq_some_iff.1 hF8).1
                  refine hK _ _ ?_
                  clear hK
                  refine wpAny_ready (rs := [1]) (by kernel_rfl) (by simp) ?_
                  refine AllReady.cons rfl (fun Kc hK => ?_) AllReady.nil
                  go_simp
                  refine hK _ _ ?_
                  clear hK
                  refine wpAny_ready (rs := [4]) (by kernel_rfl) (by simp) ?_
                  refine AllReady.cons rfl (fun Kc hK => ?_) AllReady.nil
                  simp only [Region.wanted]
                  have hsrc := hrl
                  have hrf9 := hrf8
                  have hrb9 := hrb8
                  have hF9 := hF8
                  have hR9 := hR8
                  have hs9 := hs8
                  have hk9 := hkw8
                  refine wp_app ekInt _ _ rfl w.heap.size _ bs l rfl hrb9 _ _ rfl hsrc (by (try simp); omega) hz8 ?_
                  intro vn w10 hrn10 hgr
                  obtain ⟨aon, nn, capn, rfl, Hnn⟩ := hrn10.shape'
                  obtain ⟨aoo, no, capo, rfl, HLo⟩ := hrf9.shape'
                  have hown := hrb9.own
                  have hs10 := hs9.grown hgr (fun k hk => by have := (hown k hk).1; omega)
                  have hk10 := hk9.grown hgr (fun k hk => (hown k hk).1)
                  have hF10 := (hgr.block F (Array.getElem?_eq_some_iff.1 hF9).1 (fun hh => hrb9.ne_blk hF9 (by decide) hh.symm)).trans hF9
                  have hR10 := (hgr.block w.heap.size (Array.getElem?_eq_some_iff.1 hR9).1 (fun hh => hrb9.ne_blk hR9 (by decide) hh.symm)).trans hR9
                  have hro10 := hrf9.grown hgr (hrf9.ne hrb9 (by decide))
                  obtain ⟨_, k1, k2⟩ := blk3 hF10
                  have g1 := fr_of_blk hF10 2
                  clear c0 c1 c2
                  refine hK _ _ ?_
                  clear hK
                  refine wpAny_take (i := 5) (v := .pointer (some ⟨F, 2, none⟩)) rfl (by kernel_rfl) (by kernel_rfl) (by kernel_rfl) (fun _ _ _ h => h) (Or.inl ⟨by rfl, by intro w; go_simp⟩) ?_
                  refine wpAny_ready (rs := [6]) (by kernel_rfl) (by simp) ?_
                  refine AllReady.cons rfl (fun Kc hK => ?_) AllReady.nil
                  go_simp
                  refine hK _ _ ?_
                  clear hK
                  refine wpAny_done (by kernel_rfl) ?_ _
                  have hF11 := heap_setCell_same _ _ 2 _ _ (.slice aon nn capn) hF10
                  have hR11 := (heap_setCell_other w10 ⟨F, 2, none⟩ w.heap.size (.slice aon nn capn) (by simp; omega)).trans hR10
                  have hs11 := hs10.other (F := F) (by omega) 2 (.slice aon nn capn)
                  have hk11 := hk10.setNew (F := F) (by omega) 2 (.slice aon nn capn)
                  have hrb11 := hrn10.other (hrn10.ne_blk hF10 (by decide)) 2 (.slice aon nn capn)
                  have hrf11 := hro10.other (hro10.ne_blk hF10 (by decide)) 2 (.slice aon nn capn)
                  have HLf : Hid (no = (fs).length) := HLo
                  have HLb : Hid (nn = (bs ++ l).length) := Hnn
                  obtain ⟨_, c1, c2⟩ := blk3 hF11
                  have HQ : Hid (messageL K r = if 16 < no ∨ 16 < nn then .error (some (5, t8)) else msgGo K k ⟨nm, fs, bs ++ l⟩ ch t8) := by show _ = _; rw [HX4.out, HP.out, HI.out, HLf.out, HLb.out]; rfl
                  have hnf : no ≤ 10000 := by rw [HLf.out]; (try simp); omega
                  have hnb : nn ≤ 10000 := by rw [HLb.out]; (try simp); omega
                  by_cases h16 : 16 < no
                  · have HY : Hid (messageL K r = .error (some (5, t8))) := by show _ = _; rw [HQ.out, if_pos (.inl h16)]
                    go_wp2_with fail
                    refine (throw_any hs11 5).mono ?_
                    rintro en w12 ⟨rfl, rfl⟩
                    go_wp2
                    exact ⟨rfl, post_err hk11 HY.out hs11.2.1⟩
                  · have h16' : ¬ (16 : Int) < (no : Int) := by omega
                    by_cases h17 : 16 < nn
                    · have HY : Hid (messageL K r = .error (some (5, t8))) := by show _ = _; rw [HQ.out, if_pos (.inr h17)]
                      go_wp2_with fail
                      refine (throw_any hs11 5).mono ?_
                      rintro en w12 ⟨rfl, rfl⟩
                      go_wp2
                      exact ⟨rfl, post_err hk11 HY.out hs11.2.1⟩
                    · have h17' : ¬ (16 : Int) < (nn : Int) := by omega
                      have HY : Hid (messageL K r = msgGo K k ⟨nm, fs, bs ++ l⟩ ch t8) := by show _ = _; rw [HQ.out, if_neg (by omega)]
                      go_wp2_with fail
                      go_roundg k
                      case measure => omega
                      case rel => exact ⟨fs, bs ++ l, ch, t8, _, _, rfl, hrf11, hrb11, hF11, hR11, hs11, hk11, by rw [← HLf.out]; omega, by rw [← HLb.out]; omega, by omega, HY⟩
            | false =>
              go_wp2_with fail
              refine (keyword_any hs5 kwOneof (by decide)).mono ?_
              rintro en w6 ⟨rfl, hs6, hk6⟩
              have hrf6 := hrf5.kp hk6 hbw
              have hrb6 := hrb5.kp hk6 hbw
              have hF6 := blk_kp hF5 hk6 (by omega)
              have hR6 := blk_kp hR5 hk6 (by omega)
              replace hkw := hkw.trans hk6
              clear hrf5 hrb5 hs5 hF5 hR5 hk6
              generalize hq6 : keyL kwOneof t5 = mq at hs6 ⊢
              obtain ⟨ok, t6⟩ := mq
              cases ok with
              | true =>
                obtain ⟨w7, Hw7⟩ : ∃ w7, w7 = w6 := ⟨_, rfl⟩
                obtain ⟨t7, Ht7⟩ : ∃ t7, t7 = t6 := ⟨_, rfl⟩
                subst Hw7 Ht7
                have HP : Hid (partL K ⟨nm, fs, bs⟩ ch t3 = R.thn (choiceL K (ch + 1) t7) fun l u => .ok ((⟨nm, fs ++ l, bs⟩, ch + 1), u)) := by show _ = _; rw [partL, hq]; show (match keyL kwOneof t5 with | (true, t) => _ | (false, t) => _) = _; rw [hq6]
                have hNr : choiceL K (ch + 1) t7 ≠ .error none := by intro hh; apply HN.out; rw [HX4.out, HP.out, hh]; rfl
                have hs7 : St w7 b txt t7 m e := hs6
                have hrf7 := hrf6
                have hrb7 := hrb6
                have hF7 := hF6
                have hR7 := hR6
                have hg7 : Gl B w7 := hg.kp hB hbw hkw
                have hl7 : t7.length ≤ 3000 := by have := hs7.1; have := hs7.2.1; omega
                clear hq hq6 hs6 hrf6 hrb6 hF6 hR6
                go_wp2_with fail
                obtain ⟨c0, c1, c2⟩ := blk3 hF7
                refine wp_region_any (by kernel_rfl) ?_
                change wpAny _ _ _ _ _ _ _ (World.drew _)
                refine wpAny_take (i := 0) (v := .pointer (some ⟨F, 1, none⟩)) rfl (by kernel_rfl) (by kernel_rfl) (by kernel_rfl) (fun _ _ _ h => h) (Or.inl ⟨by rfl, by intro w; go_simp⟩) ?_
                refine wpAny_take (i := 2) (v := .pointer (some ⟨b, 0, none⟩)) rfl (by kernel_rfl) (by kernel_rfl) (by kernel_rfl) (fun _ _ _ h => h) (Or.inl ⟨by rfl, by intro w; go_simp⟩) ?_
                refine wpAny_take (i := 3) (v := .int .i64 ((ch : Int) + 1)) rfl (by kernel_rfl) (by kernel_rfl) (by kernel_rfl) (fun _ _ _ h => h) (Or.inl ⟨by rfl, by intro w; go_simp⟩) ?_
                refine wpAny_ready (rs := [1, 4]) (by kernel_rfl) (by simp) ?_
                refine AllReady.cons rfl (fun Kc hK => ?_) (AllReady.cons rfl (fun Kc hK => ?_) AllReady.nil)
                · go_simp
                  refine hK _ _ ?_
                  clear hK
                  refine wpAny_ready (rs := [4]) (by kernel_rfl) (by simp) ?_
                  refine AllReady.cons rfl (fun Kc hK => ?_) AllReady.nil
                  go_simp
                  refine (choice_any hs7.drew hg7.drew' hB K (ch + 1) hNr).mono ?_
                  rintro en w8 ⟨hk8, hx⟩
                  have hrf8 := (hrf7.drew').kp hk8 hbw
                  have hrb8 := (hrb7.drew').kp hk8 hbw
                  have hF8 := blk_kp (w := w7.drew) hF7 hk8 (by omega)
                  have hR8 := blk_kp (w := w7.drew) hR7 hk8 (by omega)
                  have hkw8 := hkw.drew.trans hk8
                  cases hn : choiceL K (ch + 1) t7 with
                  | error E =>
                    rw [hn] at hx
                    match E, hx with
                    | none, hx => exact hx.elim
                    | some (c, t), hx =>
                      obtain ⟨ht, rfl⟩ := hx
                      have HY : Hid (messageL K r = .error (some (c, t))) := by show _ = _; rw [HX4.out, HP.out, hn]; rfl
                      clear hn HX4 hK
                      go_wp2
                      exact ⟨rfl, post_err hkw8 HY.out ht⟩
                  | ok p =>
                    obtain ⟨l, t8⟩ := p
                    rw [hn] at hx
                    obtain ⟨hs8, vl, rfl, hrl⟩ := hx
                    have hll : l.length ≤ 3000 := by have := choice_len hn; omega
                    have HI : Hid (choiceL K (ch + 1) t7 = .ok (l, t8)) := hn
                    clear hn
                    obtain ⟨c0, c1, c2⟩ := blk3 hF8
                    have hz8 : w.heap.size ≤ w8.heap.size := hkw8.size
                    have hFl : F < w8.heap.size := (Array.getElem?_eq_some_iff.1 hF8).1
                    refine hK _ _ ?_
                    clear hK
                    refine wpAny_ready (rs := [5]) (by kernel_rfl) (by simp) ?_
                    refine AllReady.cons rfl (fun Kc hK => ?_) AllReady.nil
                    simp only [Region.wanted]
                    have hsrc := hrl
                    have hrf9 := hrf8
                    have hrb9 := hrb8
                    have hF9 := hF8
                    have hR9 := hR8
                    have hs9 := hs8
                    have hk9 := hkw8
                    refine wp_app ekFld _ _ rfl w.heap.size _ fs l rfl hrf9 _ _ rfl hsrc (by (try simp); omega) hz8 ?_
                    intro vn w10 hrn10 hgr
                    obtain ⟨aon, nn, capn, rfl, Hnn⟩ := hrn10.shape'
                    obtain ⟨aoo, no, capo, rfl, HLo⟩ := hrb9.shape'
                    have hown := hrf9.own
                    have hs10 := hs9.grown hgr (fun k hk => by have := (hown k hk).1; omega)
                    have hk10 := hk9.grown hgr (fun k hk => (hown k hk).1)
                    have hF10 := (hgr.block F (Array.getElem?_eq_some_iff.1 hF9).1 (fun hh => hrf9.ne_blk hF9 (by decide) hh.symm)).trans hF9
                    have hR10 := (hgr.block w.heap.size (Array.getElem?_eq_some_iff.1 hR9).1 (fun hh => hrf9.ne_blk hR9 (by decide) hh.symm)).trans hR9
                    have hro10 := hrb9.grown hgr (hrb9.ne hrf9 (by decide))
                    obtain ⟨_, k1, k2⟩ := blk3 hF10
                    have g1 := fr_of_blk hF10 1
                    clear c0 c1 c2
                    refine hK _ _ ?_
                    clear hK
                    refine wpAny_take (i := 6) (v := .pointer (some ⟨F, 1, none⟩)) rfl (by kernel_rfl) (by kernel_rfl) (by kernel_rfl) (fun _ _ _ h => h) (Or.inl ⟨by rfl, by intro w; go_simp⟩) ?_
                    refine wpAny_ready (rs := [7]) (by kernel_rfl) (by simp) ?_
                    refine AllReady.cons rfl (fun Kc hK => ?_) AllReady.nil
                    go_simp
                    refine hK _ _ ?_
                    clear hK
                    refine wpAny_done (by kernel_rfl) ?_ _
                    have hF11 := heap_setCell_same _ _ 1 _ _ (.slice aon nn capn) hF10
                    have hR11 := (heap_setCell_other w10 ⟨F, 1, none⟩ w.heap.size (.slice aon nn capn) (by simp; omega)).trans hR10
                    have hs11 := hs10.other (F := F) (by omega) 1 (.slice aon nn capn)
                    have hk11 := hk10.setNew (F := F) (by omega) 1 (.slice aon nn capn)
                    have hrf11 := hrn10.other (hrn10.ne_blk hF10 (by decide)) 1 (.slice aon nn capn)
                    have hrb11 := hro10.other (hro10.ne_blk hF10 (by decide)) 1 (.slice aon nn capn)
                    have HLf : Hid (nn = (fs ++ l).length) := Hnn
                    have HLb : Hid (no = (bs).length) := HLo
                    obtain ⟨_, c1, c2⟩ := blk3 hF11
                    have HQ : Hid (messageL K r = if 16 < nn ∨ 16 < no then .error (some (5, t8)) else msgGo K k ⟨nm, fs ++ l, bs⟩ (ch + 1) t8) := by show _ = _; rw [HX4.out, HP.out, HI.out, HLf.out, HLb.out]; rfl
                    have hnf : nn ≤ 10000 := by rw [HLf.out]; (try simp); omega
                    have hnb : no ≤ 10000 := by rw [HLb.out]; (try simp); omega
                    by_cases h16 : 16 < nn
                    · have HY : Hid (messageL K r = .error (some (5, t8))) := by show _ = _; rw [HQ.out, if_pos (.inl h16)]
                      go_wp2_with fail
                      refine (throw_any hs11 5).mono ?_
                      rintro en w12 ⟨rfl, rfl⟩
                      go_wp2
                      exact ⟨rfl, post_err hk11 HY.out hs11.2.1⟩
                    · have h16' : ¬ (16 : Int) < (nn : Int) := by omega
                      by_cases h17 : 16 < no
                      · have HY : Hid (messageL K r = .error (some (5, t8))) := by show _ = _; rw [HQ.out, if_pos (.inr h17)]
                        go_wp2_with fail
                        refine (throw_any hs11 5).mono ?_
                        rintro en w12 ⟨rfl, rfl⟩
                        go_wp2
                        exact ⟨rfl, post_err hk11 HY.out hs11.2.1⟩
                      · have h17' : ¬ (16 : Int) < (no : Int) := by omega
                        have HY : Hid (messageL K r = msgGo K k ⟨nm, fs ++ l, bs⟩ (ch + 1) t8) := by show _ = _; rw [HQ.out, if_neg (by omega)]
                        go_wp2_with fail
                        go_roundg k
                        case measure => omega
                        case rel => exact ⟨fs ++ l, bs, (ch + 1), t8, _, _, by push_cast; rfl, hrf11, hrb11, hF11, hR11, hs11, hk11, by rw [← HLf.out]; omega, by rw [← HLb.out]; omega, by omega, HY⟩

                · go_simp
                  refine (choice_any hs7.drew hg7.drew' hB K (ch + 1) hNr).mono ?_
                  rintro en w8 ⟨hk8, hx⟩
                  have hrf8 := (hrf7.drew').kp hk8 hbw
                  have hrb8 := (hrb7.drew').kp hk8 hbw
                  have hF8 := blk_kp (w := w7.drew) hF7 hk8 (by omega)
                  have hR8 := blk_kp (w := w7.drew) hR7 hk8 (by omega)
                  have hkw8 := hkw.drew.trans hk8
                  cases hn : choiceL K (ch + 1) t7 with
                  | error E =>
                    rw [hn] at hx
                    match E, hx with
                    | none, hx => exact hx.elim
                    | some (c, t), hx =>
                      obtain ⟨ht, rfl⟩ := hx
                      have HY : Hid (messageL K r = .error (some (c, t))) := by show _ = _; rw [HX4.out, HP.out, hn]; rfl
                      clear hn HX4 hK
                      go_wp2
                      exact ⟨rfl, post_err hkw8 HY.out ht⟩
                  | ok p =>
                    obtain ⟨l, t8⟩ := p
                    rw [hn] at hx
                    obtain ⟨hs8, vl, rfl, hrl⟩ := hx
                    have hll : l.length ≤ 3000 := by have := choice_len hn; omega
                    have HI : Hid (choiceL K (ch + 1) t7 = .ok (l, t8)) := hn
                    clear hn
                    obtain ⟨c0, c1, c2⟩ := blk3 hF8
                    have hz8 : w.heap.size ≤ w8.heap.size := hkw8.size
                    have hFl : F < w8.heap.size := (Array.getElem?_eq_some_iff.1 hF8).1
                    refine hK _ _ ?_
                    clear hK
                    refine wpAny_ready (rs := [1]) (by kernel_rfl) (by simp) ?_
                    refine AllReady.cons rfl (fun Kc hK => ?_) AllReady.nil
                    go_simp
                    refine hK _ _ ?_
                    clear hK
                    refine wpAny_ready (rs := [5]) (by kernel_rfl) (by simp) ?_
                    refine AllReady.cons rfl (fun Kc hK => ?_) AllReady.nil
                    simp only [Region.wanted]
                    have hsrc := hrl
                    have hrf9 := hrf8
                    have hrb9 := hrb8
                    have hF9 := hF8
                    have hR9 := hR8
                    have hs9 := hs8
                    have hk9 := hkw8
                    refine wp_app ekFld _ _ rfl w.heap.size _ fs l rfl hrf9 _ _ rfl hsrc (by (try simp); omega) hz8 ?_
                    intro vn w10 hrn10 hgr
                    obtain ⟨aon, nn, capn, rfl, Hnn⟩ := hrn10.shape'
                    obtain ⟨aoo, no, capo, rfl, HLo⟩ := hrb9.shape'
                    have hown := hrf9.own
                    have hs10 := hs9.grown hgr (fun k hk => by have := (hown k hk).1; omega)
                    have hk10 := hk9.grown hgr (fun k hk => (hown k hk).1)
                    have hF10 := (hgr.block F (Array.getElem?_eq_some_iff.1 hF9).1 (fun hh => hrf9.ne_blk hF9 (by decide) hh.symm)).trans hF9
                    have hR10 := (hgr.block w.heap.size (Array.getElem?_eq_some_iff.1 hR9).1 (fun hh => hrf9.ne_blk hR9 (by decide) hh.symm)).trans hR9
                    have hro10 := hrb9.grown hgr (hrb9.ne hrf9 (by decide))
                    obtain ⟨_, k1, k2⟩ := blk3 hF10
                    have g1 := fr_of_blk hF10 1
                    clear c0 c1 c2
                    refine hK _ _ ?_
                    clear hK
                    refine wpAny_take (i := 6) (v := .pointer (some ⟨F, 1, none⟩)) rfl (by kernel_rfl) (by kernel_rfl) (by kernel_rfl) (fun _ _ _ h => h) (Or.inl ⟨by rfl, by intro w; go_simp⟩) ?_
                    refine wpAny_ready (rs := [7]) (by kernel_rfl) (by simp) ?_
                    refine AllReady.cons rfl (fun Kc hK => ?_) AllReady.nil
                    go_simp
                    refine hK _ _ ?_
                    clear hK
                    refine wpAny_done (by kernel_rfl) ?_ _
                    have hF11 := heap_setCell_same _ _ 1 _ _ (.slice aon nn capn) hF10
                    have hR11 := (heap_setCell_other w10 ⟨F, 1, none⟩ w.heap.size (.slice aon nn capn) (by simp; omega)).trans hR10
                    have hs11 := hs10.other (F := F) (by omega) 1 (.slice aon nn capn)
                    have hk11 := hk10.setNew (F := F) (by omega) 1 (.slice aon nn capn)
                    have hrf11 := hrn10.other (hrn10.ne_blk hF10 (by decide)) 1 (.slice aon nn capn)
                    have hrb11 := hro10.other (hro10.ne_blk hF10 (by decide)) 1 (.slice aon nn capn)
                    have HLf : Hid (nn = (fs ++ l).length) := Hnn
                    have HLb : Hid (no = (bs).length) := HLo
                    obtain ⟨_, c1, c2⟩ := blk3 hF11
                    have HQ : Hid (messageL K r = if 16 < nn ∨ 16 < no then .error (some (5, t8)) else msgGo K k ⟨nm, fs ++ l, bs⟩ (ch + 1) t8) := by show _ = _; rw [HX4.out, HP.out, HI.out, HLf.out, HLb.out]; rfl
                    have hnf : nn ≤ 10000 := by rw [HLf.out]; (try simp); omega
                    have hnb : no ≤ 10000 := by rw [HLb.out]; (try simp); omega
                    by_cases h16 : 16 < nn
                    · have HY : Hid (messageL K r = .error (some (5, t8))) := by show _ = _; rw [HQ.out, if_pos (.inl h16)]
                      go_wp2_with fail
                      refine (throw_any hs11 5).mono ?_
                      rintro en w12 ⟨rfl, rfl⟩
                      go_wp2
                      exact ⟨rfl, post_err hk11 HY.out hs11.2.1⟩
                    · have h16' : ¬ (16 : Int) < (nn : Int) := by omega
                      by_cases h17 : 16 < no
                      · have HY : Hid (messageL K r = .error (some (5, t8))) := by show _ = _; rw [HQ.out, if_pos (.inr h17)]
                        go_wp2_with fail
                        refine (throw_any hs11 5).mono ?_
                        rintro en w12 ⟨rfl, rfl⟩
                        go_wp2
                        exact ⟨rfl, post_err hk11 HY.out hs11.2.1⟩
                      · have h17' : ¬ (16 : Int) < (no : Int) := by omega
                        have HY : Hid (messageL K r = msgGo K k ⟨nm, fs ++ l, bs⟩ (ch + 1) t8) := by show _ = _; rw [HQ.out, if_neg (by omega)]
                        go_wp2_with fail
                        go_roundg k
                        case measure => omega
                        case rel => exact ⟨fs ++ l, bs, (ch + 1), t8, _, _, by push_cast; rfl, hrf11, hrb11, hF11, hR11, hs11, hk11, by rw [← HLf.out]; omega, by rw [← HLb.out]; omega, by omega, HY⟩
              | false =>
                go_wp2_with fail
                refine (keyword_any hs6 kwRepeated (by decide)).mono ?_
                rintro en w7 ⟨rfl, hs7, hk7⟩
                have hrf7 := hrf6.kp hk7 hbw
                have hrb7 := hrb6.kp hk7 hbw
                have hF7 := blk_kp hF6 hk7 (by omega)
                have hR7 := blk_kp hR6 hk7 (by omega)
                replace hkw := hkw.trans hk7
                clear hrf6 hrb6 hs6 hF6 hR6 hk7
                generalize hq7 : keyL kwRepeated t6 = mq at hs7 ⊢
                obtain ⟨many, t7⟩ := mq
                have HP : Hid (partL K ⟨nm, fs, bs⟩ ch t3 = R.thn (fieldL many 0 t7) fun f u => .ok ((⟨nm, fs ++ [f], bs⟩, ch), u)) := by show _ = _; rw [partL, hq]; show (match keyL kwOneof t5 with | (true, t) => _ | (false, t) => _) = _; rw [hq6]; show R.thn (fieldL (keyL kwRepeated t6).1 0 (keyL kwRepeated t6).2) _ = _; rw [hq7]
                have hg7 : Gl B w7 := hg.kp hB hbw hkw
                clear hq hq6 hq7
                go_wp2_with fail
                obtain ⟨c0, c1, c2⟩ := blk3 hF7
                refine wp_region_any (by kernel_rfl) ?_
                change wpAny _ _ _ _ _ _ _ (World.drew _)
                refine wpAny_take (i := 0) (v := .pointer (some ⟨F, 1, none⟩)) rfl (by kernel_rfl) (by kernel_rfl) (by kernel_rfl) (fun _ _ _ h => h) (Or.inl ⟨by rfl, by intro w; go_simp⟩) ?_
                refine wpAny_take (i := 2) (v := .pointer (some ⟨b, 0, none⟩)) rfl (by kernel_rfl) (by kernel_rfl) (by kernel_rfl) (fun _ _ _ h => h) (Or.inl ⟨by rfl, by intro w; go_simp⟩) ?_
                refine wpAny_take (i := 3) (v := .bool many) rfl (by kernel_rfl) (by kernel_rfl) (by kernel_rfl) (fun _ _ _ h => h) (Or.inl ⟨by rfl, by intro w; go_simp⟩) ?_
                refine wpAny_ready (rs := [1, 4]) (by kernel_rfl) (by simp) ?_
                refine AllReady.cons rfl (fun Kc hK => ?_) (AllReady.cons rfl (fun Kc hK => ?_) AllReady.nil)
                · go_simp
                  refine hK _ _ ?_
                  clear hK
                  refine wpAny_ready (rs := [4]) (by kernel_rfl) (by simp) ?_
                  refine AllReady.cons rfl (fun Kc hK => ?_) AllReady.nil
                  go_simp
                  refine (field_any hs7.drew hg7.drew' hB many 0).mono ?_
                  rintro en w8 ⟨hk8, hx⟩
                  have hrf8 := (hrf7.drew').kp hk8 hbw
                  have hrb8 := (hrb7.drew').kp hk8 hbw
                  have hF8 := blk_kp (w := w7.drew) hF7 hk8 (by omega)
                  have hR8 := blk_kp (w := w7.drew) hR7 hk8 (by omega)
                  have hkw8 := hkw.drew.trans hk8
                  cases hn : fieldL many 0 t7 with
                  | error E =>
                    rw [hn] at hx
                    match E, hx with
                    | none, hx => exact hx.elim
                    | some (c, t), hx =>
                      obtain ⟨ht, rfl⟩ := hx
                      have HY : Hid (messageL K r = .error (some (c, t))) := by show _ = _; rw [HX4.out, HP.out, hn]; rfl
                      clear hn HX4 hK
                      go_wp2
                      exact ⟨rfl, post_err hkw8 HY.out ht⟩
                  | ok p =>
                    obtain ⟨l, t8⟩ := p
                    rw [hn] at hx
                    obtain ⟨hs8, _, rfl, rfl⟩ := hx
                    have hll : 1 ≤ 3000 := by omega
                    have HI : Hid (fieldL many 0 t7 = .ok (l, t8)) := hn
                    clear hn
                    obtain ⟨c0, c1, c2⟩ := blk3 hF8
                    have hz8 : w.heap.size ≤ w8.heap.size := hkw8.size
                    have hFl : F < w8.heap.size := (Array.getElem?_eq_some_iff.1 hF8).1
                    refine hK _ _ ?_
                    clear hK
                    refine wpAny_ready (rs := [5]) (by kernel_rfl) (by simp) ?_
                    refine AllReady.cons rfl (fun Kc hK => ?_) AllReady.nil
                    unfold encFld
                    go_simp
                    refine hK _ _ ?_
                    clear hK
                    refine wpAny_ready (rs := [6]) (by kernel_rfl) (by simp) ?_
                    refine AllReady.cons rfl (fun Kc hK => ?_) AllReady.nil
                    simp only [Region.wanted]
                    have hsrc : Row ekFld (w8.alloc (.cells (encFld l).toArray 39)) w.heap.size (.slice (some ⟨w8.heap.size, 0, none⟩) 1 1) [l] := Row.one ekFld w8 l hz8
                    have hrf9 : Row ekFld (w8.alloc (.cells (encFld l).toArray 39)) w.heap.size vf fs := hrf8.below ((Below.refl _ _).alloc (Nat.le_refl _) _)
                    have hrb9 : Row ekInt (w8.alloc (.cells (encFld l).toArray 39)) w.heap.size vb bs := hrb8.below ((Below.refl _ _).alloc (Nat.le_refl _) _)
                    have hF9 := (Below.heap_alloc w8 (.cells (encFld l).toArray 39) F hFl).trans hF8
                    have hR9 := (Below.heap_alloc w8 (.cells (encFld l).toArray 39) w.heap.size (by omega)).trans hR8
                    have hs9 := hs8.alloc (.cells (encFld l).toArray 39)
                    have hk9 := hkw8.alloc (.cells (encFld l).toArray 39)
                    refine wp_app ekFld _ _ rfl w.heap.size _ fs [l] rfl hrf9 _ _ rfl hsrc (by (try simp); omega) (by simp; omega) ?_
                    intro vn w10 hrn10 hgr
                    obtain ⟨aon, nn, capn, rfl, Hnn⟩ := hrn10.shape'
                    obtain ⟨aoo, no, capo, rfl, HLo⟩ := hrb9.shape'
                    have hown := hrf9.own
                    have hs10 := hs9.grown hgr (fun k hk => by have := (hown k hk).1; omega)
                    have hk10 := hk9.grown hgr (fun k hk => (hown k hk).1)
                    have hF10 := (hgr.block F (Array.getElem?_eq_some_iff.1 hF9).1 (fun hh => hrf9.ne_blk hF9 (by decide) hh.symm)).trans hF9
                    have hR10 := (hgr.block w.heap.size (Array.getElem?_eq_some_iff.1 hR9).1 (fun hh => hrf9.ne_blk hR9 (by decide) hh.symm)).trans hR9
                    have hro10 := hrb9.grown hgr (hrb9.ne hrf9 (by decide))
                    obtain ⟨_, k1, k2⟩ := blk3 hF10
                    have g1 := fr_of_blk hF10 1
                    clear c0 c1 c2
                    refine hK _ _ ?_
                    clear hK
                    refine wpAny_take (i := 7) (v := .pointer (some ⟨F, 1, none⟩)) rfl (by kernel_rfl) (by kernel_rfl) (by kernel_rfl) (fun _ _ _ h => h) (Or.inl ⟨by rfl, by intro w; go_simp⟩) ?_
                    refine wpAny_ready (rs := [8]) (by kernel_rfl) (by simp) ?_
                    refine AllReady.cons rfl (fun Kc hK => ?_) AllReady.nil
                    go_simp
                    refine hK _ _ ?_
                    clear hK
                    refine wpAny_done (by kernel_rfl) ?_ _
                    have hF11 := heap_setCell_same _ _ 1 _ _ (.slice aon nn capn) hF10
                    have hR11 := (heap_setCell_other w10 ⟨F, 1, none⟩ w.heap.size (.slice aon nn capn) (by simp; omega)).trans hR10
                    have hs11 := hs10.other (F := F) (by omega) 1 (.slice aon nn capn)
                    have hk11 := hk10.setNew (F := F) (by omega) 1 (.slice aon nn capn)
                    have hrf11 := hrn10.other (hrn10.ne_blk hF10 (by decide)) 1 (.slice aon nn capn)
                    have hrb11 := hro10.other (hro10.ne_blk hF10 (by decide)) 1 (.slice aon nn capn)
                    have HLf : Hid (nn = (fs ++ [l]).length) := Hnn
                    have HLb : Hid (no = (bs).length) := HLo
                    obtain ⟨_, c1, c2⟩ := blk3 hF11
                    have HQ : Hid (messageL K r = if 16 < nn ∨ 16 < no then .error (some (5, t8)) else msgGo K k ⟨nm, fs ++ [l], bs⟩ ch t8) := by show _ = _; rw [HX4.out, HP.out, HI.out, HLf.out, HLb.out]; rfl
                    have hnf : nn ≤ 10000 := by rw [HLf.out]; (try simp); omega
                    have hnb : no ≤ 10000 := by rw [HLb.out]; (try simp); omega
                    by_cases h16 : 16 < nn
                    · have HY : Hid (messageL K r = .error (some (5, t8))) := by show _ = _; rw [HQ.out, if_pos (.inl h16)]
                      go_wp2_with fail
                      refine (throw_any hs11 5).mono ?_
                      rintro en w12 ⟨rfl, rfl⟩
                      go_wp2
                      exact ⟨rfl, post_err hk11 HY.out hs11.2.1⟩
                    · have h16' : ¬ (16 : Int) < (nn : Int) := by omega
                      by_cases h17 : 16 < no
                      · have HY : Hid (messageL K r = .error (some (5, t8))) := by show _ = _; rw [HQ.out, if_pos (.inr h17)]
                        go_wp2_with fail
                        refine (throw_any hs11 5).mono ?_
                        rintro en w12 ⟨rfl, rfl⟩
                        go_wp2
                        exact ⟨rfl, post_err hk11 HY.out hs11.2.1⟩
                      · have h17' : ¬ (16 : Int) < (no : Int) := by omega
                        have HY : Hid (messageL K r = msgGo K k ⟨nm, fs ++ [l], bs⟩ ch t8) := by show _ = _; rw [HQ.out, if_neg (by omega)]
                        go_wp2_with fail
                        go_roundg k
                        case measure => omega
                        case rel => exact ⟨fs ++ [l], bs, ch, t8, _, _, rfl, hrf11, hrb11, hF11, hR11, hs11, hk11, by rw [← HLf.out]; omega, by rw [← HLb.out]; omega, by omega, HY⟩

                · go_simp
                  refine (field_any hs7.drew hg7.drew' hB many 0).mono ?_
                  rintro en w8 ⟨hk8, hx⟩
                  have hrf8 := (hrf7.drew').kp hk8 hbw
                  have hrb8 := (hrb7.drew').kp hk8 hbw
                  have hF8 := blk_kp (w := w7.drew) hF7 hk8 (by omega)
                  have hR8 := blk_kp (w := w7.drew) hR7 hk8 (by omega)
                  have hkw8 := hkw.drew.trans hk8
                  cases hn : fieldL many 0 t7 with
                  | error E =>
                    rw [hn] at hx
                    match E, hx with
                    | none, hx => exact hx.elim
                    | some (c, t), hx =>
                      obtain ⟨ht, rfl⟩ := hx
                      have HY : Hid (messageL K r = .error (some (c, t))) := by show _ = _; rw [HX4.out, HP.out, hn]; rfl
                      clear hn HX4 hK
                      go_wp2
                      exact ⟨rfl, post_err hkw8 HY.out ht⟩
                  | ok p =>
                    obtain ⟨l, t8⟩ := p
                    rw [hn] at hx
                    obtain ⟨hs8, _, rfl, rfl⟩ := hx
                    have hll : 1 ≤ 3000 := by omega
                    have HI : Hid (fieldL many 0 t7 = .ok (l, t8)) := hn
                    clear hn
                    obtain ⟨c0, c1, c2⟩ := blk3 hF8
                    have hz8 : w.heap.size ≤ w8.heap.size := hkw8.size
                    have hFl : F < w8.heap.size := (Array.getElem?_eq_some_iff.1 hF8).1
                    refine hK _ _ ?_
                    clear hK
                    refine wpAny_ready (rs := [1, 5]) (by kernel_rfl) (by simp) ?_
                    refine AllReady.cons rfl (fun Kc hK => ?_) (AllReady.cons rfl (fun Kc hK => ?_) AllReady.nil)
                    · go_simp
                      refine hK _ _ ?_
                      clear hK
                      refine wpAny_ready (rs := [5]) (by kernel_rfl) (by simp) ?_
                      refine AllReady.cons rfl (fun Kc hK => ?_) AllReady.nil
                      unfold encFld
                      go_simp
                      refine hK _ _ ?_
                      clear hK
                      refine wpAny_ready (rs := [6]) (by kernel_rfl) (by simp) ?_
                      refine AllReady.cons rfl (fun Kc hK => ?_) AllReady.nil
                      simp only [Region.wanted]
                      have hsrc : Row ekFld (w8.alloc (.cells (encFld l).toArray 39)) w.heap.size (.slice (some ⟨w8.heap.size, 0, none⟩) 1 1) [l] := Row.one ekFld w8 l hz8
                      have hrf9 : Row ekFld (w8.alloc (.cells (encFld l).toArray 39)) w.heap.size vf fs := hrf8.below ((Below.refl _ _).alloc (Nat.le_refl _) _)
                      have hrb9 : Row ekInt (w8.alloc (.cells (encFld l).toArray 39)) w.heap.size vb bs := hrb8.below ((Below.refl _ _).alloc (Nat.le_refl _) _)
                      have hF9 := (Below.heap_alloc w8 (.cells (encFld l).toArray 39) F hFl).trans hF8
                      have hR9 := (Below.heap_alloc w8 (.cells (encFld l).toArray 39) w.heap.size (by omega)).trans hR8
                      have hs9 := hs8.alloc (.cells (encFld l).toArray 39)
                      have hk9 := hkw8.alloc (.cells (encFld l).toArray 39)
                      refine wp_app ekFld _ _ rfl w.heap.size _ fs [l] rfl hrf9 _ _ rfl hsrc (by (try simp); omega) (by simp; omega) ?_
                      intro vn w10 hrn10 hgr
                      obtain ⟨aon, nn, capn, rfl, Hnn⟩ := hrn10.shape'
                      obtain ⟨aoo, no, capo, rfl, HLo⟩ := hrb9.shape'
                      have hown := hrf9.own
                      have hs10 := hs9.grown hgr (fun k hk => by have := (hown k hk).1; omega)
                      have hk10 := hk9.grown hgr (fun k hk => (hown k hk).1)
                      have hF10 := (hgr.block F (Array.getElem?_eq_some_iff.1 hF9).1 (fun hh => hrf9.ne_blk hF9 (by decide) hh.symm)).trans hF9
                      have hR10 := (hgr.block w.heap.size (Array.getElem?_eq_some_iff.1 hR9).1 (fun hh => hrf9.ne_blk hR9 (by decide) hh.symm)).trans hR9
                      have hro10 := hrb9.grown hgr (hrb9.ne hrf9 (by decide))
                      obtain ⟨_, k1, k2⟩ := blk3 hF10
                      have g1 := fr_of_blk hF10 1
                      clear c0 c1 c2
                      refine hK _ _ ?_
                      clear hK
                      refine wpAny_take (i := 7) (v := .pointer (some ⟨F, 1, none⟩)) rfl (by kernel_rfl) (by kernel_rfl) (by kernel_rfl) (fun _ _ _ h => h) (Or.inl ⟨by rfl, by intro w; go_simp⟩) ?_
                      refine wpAny_ready (rs := [8]) (by kernel_rfl) (by simp) ?_
                      refine AllReady.cons rfl (fun Kc hK => ?_) AllReady.nil
                      go_simp
                      refine hK _ _ ?_
                      clear hK
                      refine wpAny_done (by kernel_rfl) ?_ _
                      have hF11 := heap_setCell_same _ _ 1 _ _ (.slice aon nn capn) hF10
                      have hR11 := (heap_setCell_other w10 ⟨F, 1, none⟩ w.heap.size (.slice aon nn capn) (by simp; omega)).trans hR10
                      have hs11 := hs10.other (F := F) (by omega) 1 (.slice aon nn capn)
                      have hk11 := hk10.setNew (F := F) (by omega) 1 (.slice aon nn capn)
                      have hrf11 := hrn10.other (hrn10.ne_blk hF10 (by decide)) 1 (.slice aon nn capn)
                      have hrb11 := hro10.other (hro10.ne_blk hF10 (by decide)) 1 (.slice aon nn capn)
                      have HLf : Hid (nn = (fs ++ [l]).length) := Hnn
                      have HLb : Hid (no = (bs).length) := HLo
                      obtain ⟨_, c1, c2⟩ := blk3 hF11
                      have HQ : Hid (messageL K r = if 16 < nn ∨ 16 < no then .error (some (5, t8)) else msgGo K k ⟨nm, fs ++ [l], bs⟩ ch t8) := by show _ = _; rw [HX4.out, HP.out, HI.out, HLf.out, HLb.out]; rfl
                      have hnf : nn ≤ 10000 := by rw [HLf.out]; (try simp); omega
                      have hnb : no ≤ 10000 := by rw [HLb.out]; (try simp); omega
                      by_cases h16 : 16 < nn
                      · have HY : Hid (messageL K r = .error (some (5, t8))) := by show _ = _; rw [HQ.out, if_pos (.inl h16)]
                        go_wp2_with fail
                        refine (throw_any hs11 5).mono ?_
                        rintro en w12 ⟨rfl, rfl⟩
                        go_wp2
                        exact ⟨rfl, post_err hk11 HY.out hs11.2.1⟩
                      · have h16' : ¬ (16 : Int) < (nn : Int) := by omega
                        by_cases h17 : 16 < no
                        · have HY : Hid (messageL K r = .error (some (5, t8))) := by show _ = _; rw [HQ.out, if_pos (.inr h17)]
                          go_wp2_with fail
                          refine (throw_any hs11 5).mono ?_
                          rintro en w12 ⟨rfl, rfl⟩
                          go_wp2
                          exact ⟨rfl, post_err hk11 HY.out hs11.2.1⟩
                        · have h17' : ¬ (16 : Int) < (no : Int) := by omega
                          have HY : Hid (messageL K r = msgGo K k ⟨nm, fs ++ [l], bs⟩ ch t8) := by show _ = _; rw [HQ.out, if_neg (by omega)]
                          go_wp2_with fail
                          go_roundg k
                          case measure => omega
                          case rel => exact ⟨fs ++ [l], bs, ch, t8, _, _, rfl, hrf11, hrb11, hF11, hR11, hs11, hk11, by rw [← HLf.out]; omega, by rw [← HLb.out]; omega, by omega, HY⟩
                    · unfold encFld
                      go_simp
                      refine hK _ _ ?_
                      clear hK
                      refine wpAny_ready (rs := [1]) (by kernel_rfl) (by simp) ?_
                      refine AllReady.cons rfl (fun Kc hK => ?_) AllReady.nil
                      go_simp
                      refine hK _ _ ?_
                      clear hK
                      refine wpAny_ready (rs := [6]) (by kernel_rfl) (by simp) ?_
                      refine AllReady.cons rfl (fun Kc hK => ?_) AllReady.nil
                      simp only [Region.wanted]
                      have hsrc : Row ekFld (w8.alloc (.cells (encFld l).toArray 39)) w.heap.size (.slice (some ⟨w8.heap.size, 0, none⟩) 1 1) [l] := Row.one ekFld w8 l hz8
                      have hrf9 : Row ekFld (w8.alloc (.cells (encFld l).toArray 39)) w.heap.size vf fs := hrf8.below ((Below.refl _ _).alloc (Nat.le_refl _) _)
                      have hrb9 : Row ekInt (w8.alloc (.cells (encFld l).toArray 39)) w.heap.size vb bs := hrb8.below ((Below.refl _ _).alloc (Nat.le_refl _) _)
                      have hF9 := (Below.heap_alloc w8 (.cells (encFld l).toArray 39) F hFl).trans hF8
                      have hR9 := (Below.heap_alloc w8 (.cells (encFld l).toArray 39) w.heap.size (by omega)).trans hR8
                      have hs9 := hs8.alloc (.cells (encFld l).toArray 39)
                      have hk9 := hkw8.alloc (.cells (encFld l).toArray 39)
                      refine wp_app ekFld _ _ rfl w.heap.size _ fs [l] rfl hrf9 _ _ rfl hsrc (by (try simp); omega) (by simp; omega) ?_
                      intro vn w10 hrn10 hgr
                      obtain ⟨aon, nn, capn, rfl, Hnn⟩ := hrn10.shape'
                      obtain ⟨aoo, no, capo, rfl, HLo⟩ := hrb9.shape'
                      have hown := hrf9.own
                      have hs10 := hs9.grown hgr (fun k hk => by have := (hown k hk).1; omega)
                      have hk10 := hk9.grown hgr (fun k hk => (hown k hk).1)
                      have hF10 := (hgr.block F (Array.getElem?_eq_some_iff.1 hF9).1 (fun hh => hrf9.ne_blk hF9 (by decide) hh.symm)).trans hF9
                      have hR10 := (hgr.block w.heap.size (Array.getElem?_eq_some_iff.1 hR9).1 (fun hh => hrf9.ne_blk hR9 (by decide) hh.symm)).trans hR9
                      have hro10 := hrb9.grown hgr (hrb9.ne hrf9 (by decide))
                      obtain ⟨_, k1, k2⟩ := blk3 hF10
                      have g1 := fr_of_blk hF10 1
                      clear c0 c1 c2
                      refine hK _ _ ?_
                      clear hK
                      refine wpAny_take (i := 7) (v := .pointer (some ⟨F, 1, none⟩)) rfl (by kernel_rfl) (by kernel_rfl) (by kernel_rfl) (fun _ _ _ h => h) (Or.inl ⟨by rfl, by intro w; go_simp⟩) ?_
                      refine wpAny_ready (rs := [8]) (by kernel_rfl) (by simp) ?_
                      refine AllReady.cons rfl (fun Kc hK => ?_) AllReady.nil
                      go_simp
                      refine hK _ _ ?_
                      clear hK
                      refine wpAny_done (by kernel_rfl) ?_ _
                      have hF11 := heap_setCell_same _ _ 1 _ _ (.slice aon nn capn) hF10
                      have hR11 := (heap_setCell_other w10 ⟨F, 1, none⟩ w.heap.size (.slice aon nn capn) (by simp; omega)).trans hR10
                      have hs11 := hs10.other (F := F) (by omega) 1 (.slice aon nn capn)
                      have hk11 := hk10.setNew (F := F) (by omega) 1 (.slice aon nn capn)
                      have hrf11 := hrn10.other (hrn10.ne_blk hF10 (by decide)) 1 (.slice aon nn capn)
                      have hrb11 := hro10.other (hro10.ne_blk hF10 (by decide)) 1 (.slice aon nn capn)
                      have HLf : Hid (nn = (fs ++ [l]).length) := Hnn
                      have HLb : Hid (no = (bs).length) := HLo
                      obtain ⟨_, c1, c2⟩ := blk3 hF11
                      have HQ : Hid (messageL K r = if 16 < nn ∨ 16 < no then .error (some (5, t8)) else msgGo K k ⟨nm, fs ++ [l], bs⟩ ch t8) := by show _ = _; rw [HX4.out, HP.out, HI.out, HLf.out, HLb.out]; rfl
                      have hnf : nn ≤ 10000 := by rw [HLf.out]; (try simp); omega
                      have hnb : no ≤ 10000 := by rw [HLb.out]; (try simp); omega
                      by_cases h16 : 16 < nn
                      · have HY : Hid (messageL K r = .error (some (5, t8))) := by show _ = _; rw [HQ.out, if_pos (.inl h16)]
                        go_wp2_with fail
                        refine (throw_any hs11 5).mono ?_
                        rintro en w12 ⟨rfl, rfl⟩
                        go_wp2
                        exact ⟨rfl, post_err hk11 HY.out hs11.2.1⟩
                      · have h16' : ¬ (16 : Int) < (nn : Int) := by omega
                        by_cases h17 : 16 < no
                        · have HY : Hid (messageL K r = .error (some (5, t8))) := by show _ = _; rw [HQ.out, if_pos (.inr h17)]
                          go_wp2_with fail
                          refine (throw_any hs11 5).mono ?_
                          rintro en w12 ⟨rfl, rfl⟩
                          go_wp2
                          exact ⟨rfl, post_err hk11 HY.out hs11.2.1⟩
                        · have h17' : ¬ (16 : Int) < (no : Int) := by omega
                          have HY : Hid (messageL K r = msgGo K k ⟨nm, fs ++ [l], bs⟩ ch t8) := by show _ = _; rw [HQ.out, if_neg (by omega)]
                          go_wp2_with fail
                          go_roundg k
                          case measure => omega
                          case rel => exact ⟨fs ++ [l], bs, ch, t8, _, _, rfl, hrf11, hrb11, hF11, hR11, hs11, hk11, by rw [← HLf.out]; omega, by rw [← HLb.out]; omega, by omega, HY⟩

end Go.Proofs.YtenlijgnmhdopaaGreatDoor
