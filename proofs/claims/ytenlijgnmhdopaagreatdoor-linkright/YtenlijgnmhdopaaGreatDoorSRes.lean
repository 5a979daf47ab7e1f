/- The contracts of reserved, choice. -/
import Derived.Test.YtenlijgnmhdopaaGreatDoorSItem
import Derived.Test.YtenlijgnmhdopaaGreatDoorSLen
namespace Go.Proofs.YtenlijgnmhdopaaGreatDoor
open Go.RowKit

set_option maxHeartbeats 2000000 in
set_option maxRecDepth 100000 in
theorem reserved_any {B b : Nat} {txt r : List UInt8} {m e : Value} {w : World} (h : St w b txt r m e) (hg : Gl B w) (hB : B ≤ b) (K : Nat) (hN : reservedL K r ≠ .error none) :
    Calls Tryz.prog 88 #[.pointer (some ⟨b, 0, none⟩)] w (Post b txt m e w (fun l v w' => Row ekInt w' w.heap.size v l) (reservedL K r)) := by
  have hbw := h.lt
  have hl0 : r.length ≤ 3000 := by have := h.1; have := h.2.1; omega
  have HN : Hid (reservedL K r ≠ .error none) := hN
  have HX : Hid (reservedL K r = R.thn (numL mostN r) fun n u => resL K [n] u) := rfl
  clear hN
  go_enter Tryz.func88, Tryz.ntmps88
  go_wp2_with fail
  refine (number_any h hg hB mostN (by decide)).mono ?_
  rintro en w1 ⟨hkw, hx⟩
  cases hn : numL mostN r with
  | error E =>
    rw [hn] at hx
    match E, hx with
    | none, hx => exact hx.elim
    | some (c, t), hx =>
      obtain ⟨ht, rfl⟩ := hx
      have HY : Hid (reservedL K r = .error (some (c, t))) := by show _ = _; rw [HX.out, hn]; rfl
      clear hn HX
      go_wp2
      exact ⟨rfl, post_err hkw HY.out ht⟩
  | ok p =>
    obtain ⟨n, u1⟩ := p
    rw [hn] at hx
    obtain ⟨hs1, _, rfl, rfl, hn7⟩ := hx
    have HX1 : Hid (reservedL K r = resL K [n] u1) := by show _ = _; rw [HX.out, hn]; rfl
    have hu1 := (num_len hn).1
    clear hn HX
    have hz : w.heap.size ≤ w1.heap.size := hkw.size
    have hrow : Row ekInt (w1.alloc (.cells #[.int .i64 (n : Int)] 3)) w.heap.size (.slice (some ⟨w1.heap.size, 0, none⟩) 1 1) [n] := Row.one ekInt w1 n hz
    have hs2 := hs1.alloc (.cells #[.int .i64 (n : Int)] 3)
    have hk2 := hkw.alloc (.cells #[.int .i64 (n : Int)] 3)
    clear hs1 hkw
    go_wp2_with fail
    go_loopg [3] K (fun k v wr => ∃ acc q, Row ekInt wr w.heap.size v acc ∧ St wr b txt q m e ∧ Kp b w wr ∧ acc.length + q.length ≤ 3001 ∧ Hid (reservedL K r = resL k acc q))
    case atStart => exact ⟨[n], u1, hrow, hs2, hk2, by simp; omega, HX1⟩
    case round =>
      clear hrow hs2 hk2 HX1
      obtain ⟨acc, q, hrow, hs, hk, hlen, HR⟩ := hrel
      cases gk with
      | zero => exact absurd HR.out HN.out
      | succ k =>
        have hgr : Gl B wr := hg.kp hB hbw hk
        go_wp2_with fail
        refine (mark_any hs 44).mono ?_
        rintro en w2 ⟨rfl, hs2, hk2⟩
        have hrow2 := hrow.kp hk2 hbw
        have hkw := hk.trans hk2
        have hq2 := mark_len 44 q
        clear hrow hs hk hgr
        generalize hq : markL 44 q = mq at hs2 hq2 ⊢
        obtain ⟨ok, t2⟩ := mq
        cases ok with
        | true =>
          have HX2 : Hid (reservedL K r = R.thn (numL mostN t2) fun n u => resL k (acc ++ [n]) u) := by show _ = _; rw [HR.out, resL, hq]
          have hlt : t2.length < q.length := hq2.2 rfl
          clear hq HR hq2
          have hg2 : Gl B w2 := hg.kp hB hbw hkw
          go_wp2_with fail
          refine (number_any hs2 hg2 hB mostN (by decide)).mono ?_
          rintro en w3 ⟨hk3, hx⟩
          have hrow3 := hrow2.kp hk3 hbw
          replace hkw := hkw.trans hk3
          clear hs2 hk3 hk2 hrow2 hg2
          cases hn : numL mostN t2 with
          | error E =>
            rw [hn] at hx
            match E, hx with
            | none, hx => exact hx.elim
            | some (c, t), hx =>
              obtain ⟨ht, rfl⟩ := hx
              have HY : Hid (reservedL K r = .error (some (c, t))) := by show _ = _; rw [HX2.out, hn]; rfl
              clear hn HX2
              go_wp2
              exact ⟨rfl, post_err hkw HY.out ht⟩
          | ok p =>
            obtain ⟨n2, t3⟩ := p
            rw [hn] at hx
            obtain ⟨hs3, _, rfl, rfl, _⟩ := hx
            have HX3 : Hid (reservedL K r = resL k (acc ++ [n2]) t3) := by show _ = _; rw [HX2.out, hn]; rfl
            have hu3 := (num_len hn).1
            clear hn HX2
            have hz3 : w.heap.size ≤ w3.heap.size := hkw.size
            have hone : Row ekInt (w3.alloc (.cells #[.int .i64 (n2 : Int)] 3)) w.heap.size (.slice (some ⟨w3.heap.size, 0, none⟩) 1 1) [n2] := Row.one ekInt w3 n2 hz3
            have hrow4 : Row ekInt (w3.alloc (.cells #[.int .i64 (n2 : Int)] 3)) w.heap.size u3 acc := hrow3.below ((Below.refl _ _).alloc (Nat.le_refl _) _)
            have hs4 := hs3.alloc (.cells #[.int .i64 (n2 : Int)] 3)
            have hk4 := hkw.alloc (.cells #[.int .i64 (n2 : Int)] 3)
            clear hs3 hkw hrow3
            go_wp2_with (at_builtin; refine wpList_app rfl ekInt _ _ rfl w.heap.size _ acc [n2] rfl hrow4 w.heap.size _ rfl hone ?e1 ?e2 ?_)
            case e1 => simp; omega
            case e2 => simp; omega
            intro v5 w5 hrow5 hgr5
            have hown := hrow4.own
            have hs5 := hs4.grown hgr5 (fun k hk => by have := (hown k hk).1; omega)
            have hk5 := hk4.grown hgr5 (fun k hk => (hown k hk).1)
            go_wp2_with fail
            go_roundg k
            case measure => omega
            case rel => exact ⟨acc ++ [n2], t3, hrow5, hs5, hk5, by simp; omega, HX3⟩
        | false =>
          have HX2 : Hid (reservedL K r = R.thn (mustL 59 t2) fun _ u => .ok (acc, u)) := by show _ = _; rw [HR.out, resL, hq]
          clear hq HR hq2
          go_wp2_with fail
          refine (must_any hs2 59).mono ?_
          rintro en w3 ⟨hk3, hx⟩
          have hrow3 := hrow2.kp hk3 hbw
          replace hkw := hkw.trans hk3
          clear hs2 hk3 hk2 hrow2
          cases hn : mustL 59 t2 with
          | error E =>
            rw [hn] at hx
            match E, hx with
            | none, hx => exact hx.elim
            | some (c, t), hx =>
              obtain ⟨ht, rfl⟩ := hx
              have HY : Hid (reservedL K r = .error (some (c, t))) := by show _ = _; rw [HX2.out, hn]; rfl
              clear hn HX2
              go_wp2
              exact ⟨rfl, post_err hkw HY.out ht⟩
          | ok p =>
            obtain ⟨_, t3⟩ := p
            rw [hn] at hx
            obtain ⟨hs3, _, rfl, rfl⟩ := hx
            have HX3 : Hid (reservedL K r = .ok (acc, t3)) := by show _ = _; rw [HX2.out, hn]; rfl
            clear hn HX2
            go_wp2
            go_ret
            exact post_ok hkw HX3.out hs3 hrow3

end Go.Proofs.YtenlijgnmhdopaaGreatDoor
