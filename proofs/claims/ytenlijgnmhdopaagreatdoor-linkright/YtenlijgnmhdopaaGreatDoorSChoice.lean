/- The contract of choice. -/
import Derived.Test.YtenlijgnmhdopaaGreatDoorSRes
namespace Go.Proofs.YtenlijgnmhdopaaGreatDoor
open Go.RowKit

set_option maxHeartbeats 2000000 in
set_option maxRecDepth 100000 in
theorem choice_any {B b : Nat} {txt r : List UInt8} {m e : Value} {w : World} (h : St w b txt r m e) (hg : Gl B w) (hB : B ≤ b) (K ch : Nat) (hN : choiceL K ch r ≠ .error none) :
    Calls Tryz.prog 89 #[.pointer (some ⟨b, 0, none⟩), .int .i64 (ch : Int)] w (Post b txt m e w (fun l v w' => Row ekFld w' w.heap.size v l) (choiceL K ch r)) := by
  have hbw := h.lt
  have hl0 : r.length ≤ 3000 := by have := h.1; have := h.2.1; omega
  have HN : Hid (choiceL K ch r ≠ .error none) := hN
  have HX : Hid (choiceL K ch r = R.thn (mustL 123 r) fun _ u => choiceGo ch K [] u) := rfl
  clear hN
  go_enter Tryz.func89, Tryz.ntmps89
  go_wp2_with fail
  refine (must_any h 123).mono ?_
  rintro en w1 ⟨hkw, hx⟩
  cases hn : mustL 123 r with
  | error E =>
    rw [hn] at hx
    match E, hx with
    | none, hx => exact hx.elim
    | some (c, t), hx =>
      obtain ⟨ht, rfl⟩ := hx
      have HY : Hid (choiceL K ch r = .error (some (c, t))) := by show _ = _; rw [HX.out, hn]; rfl
      clear hn HX
      go_wp2
      exact ⟨rfl, post_err hkw HY.out ht⟩
  | ok p =>
    obtain ⟨_, t1⟩ := p
    rw [hn] at hx
    obtain ⟨hs1, _, rfl, rfl⟩ := hx
    have HX1 : Hid (choiceL K ch r = choiceGo ch K [] t1) := by show _ = _; rw [HX.out, hn]; rfl
    have hu1 := must_len hn
    clear hn HX
    go_wp2_with fail
    go_loopg [5] K (fun k v wr => ∃ acc q, Row ekFld wr w.heap.size v acc ∧ St wr b txt q m e ∧ Kp b w wr ∧ acc.length + q.length ≤ 3001 ∧ Hid (choiceL K ch r = choiceGo ch k acc q))
    case atStart => exact ⟨[], t1, Row.nil _ _ _, hs1, hkw, by simp; omega, HX1⟩
    case round =>
      clear hs1 hkw HX1
      obtain ⟨acc, q, hrow, hs, hk, hlen, HR⟩ := hrel
      cases gk with
      | zero => exact absurd HR.out HN.out
      | succ k =>
        go_wp2_with fail
        refine (mark_any hs 125).mono ?_
        rintro en w2 ⟨rfl, hs2, hk2⟩
        have hrow2 := hrow.kp hk2 hbw
        have hkw := hk.trans hk2
        have hq2 := (mark_len 125 q).1
        clear hrow hs hk
        generalize hq : markL 125 q = mq at hs2 hq2 ⊢
        obtain ⟨ok, t2⟩ := mq
        cases ok with
        | false =>
          have HX2 : Hid (choiceL K ch r = R.thn (fieldL false ch t2) fun f u => choiceGo ch k (acc ++ [f]) u) := by show _ = _; rw [HR.out, choiceGo, hq]
          have hlt : t2.length ≤ q.length := hq2
          clear hq HR hq2
          have hg2 : Gl B w2 := hg.kp hB hbw hkw
          go_wp2_with fail
          refine (field_any hs2 hg2 hB false ch).mono ?_
          rintro en w3 ⟨hk3, hx⟩
          have hrow3 := hrow2.kp hk3 hbw
          replace hkw := hkw.trans hk3
          clear hs2 hk3 hk2 hrow2 hg2
          cases hn : fieldL false ch t2 with
          | error E =>
            rw [hn] at hx
            match E, hx with
            | none, hx => exact hx.elim
            | some (c, t), hx =>
              obtain ⟨ht, rfl⟩ := hx
              have HY : Hid (choiceL K ch r = .error (some (c, t))) := by show _ = _; rw [HX2.out, hn]; rfl
              clear hn HX2
              go_wp2
              exact ⟨rfl, post_err hkw HY.out ht⟩
          | ok p =>
            obtain ⟨f, t3⟩ := p
            rw [hn] at hx
            obtain ⟨hs3, _, rfl, rfl⟩ := hx
            have HX3 : Hid (choiceL K ch r = choiceGo ch k (acc ++ [f]) t3) := by show _ = _; rw [HX2.out, hn]; rfl
            have hu3 := field_len hn
            clear hn HX2
            have hz3 : w.heap.size ≤ w3.heap.size := hkw.size
            have hone : Row ekFld (w3.alloc (.cells (encFld f).toArray 39)) w.heap.size (.slice (some ⟨w3.heap.size, 0, none⟩) 1 1) [f] := Row.one ekFld w3 f hz3
            have hrow4 : Row ekFld (w3.alloc (.cells (encFld f).toArray 39)) w.heap.size u5 acc := hrow3.below ((Below.refl _ _).alloc (Nat.le_refl _) _)
            have hs4 := hs3.alloc (.cells (encFld f).toArray 39)
            have hk4 := hkw.alloc (.cells (encFld f).toArray 39)
            clear hs3 hkw hrow3
            unfold encFld at *
            go_wp2_with (at_builtin; refine wpList_app rfl ekFld _ _ rfl w.heap.size _ acc [f] rfl hrow4 w.heap.size _ rfl hone ?e1 ?e2 ?_)
            case e1 => simp; omega
            case e2 => simp; omega
            intro v5 w5 hrow5 hgr5
            have hown := hrow4.own
            have hs5 := hs4.grown hgr5 (fun k hk => by have := (hown k hk).1; omega)
            have hk5 := hk4.grown hgr5 (fun k hk => (hown k hk).1)
            go_wp2_with fail
            go_roundg k
            case measure => omega
            case rel => exact ⟨acc ++ [f], t3, hrow5, hs5, hk5, by simp; omega, HX3⟩
        | true =>
          have HX3 : Hid (choiceL K ch r = .ok (acc, t2)) := by show _ = _; rw [HR.out, choiceGo, hq]
          clear hq HR hq2
          go_wp2
          go_ret
          exact post_ok hkw HX3.out hs2 hrow2

end Go.Proofs.YtenlijgnmhdopaaGreatDoor
