import Derived.Test.YtelmjekjohbmjaaGreatDoorM24
import Derived.Test.YtelmjekjohbmjaaGreatDoorM14
/- The checks in turn, whatever they are. -/
namespace Go.Proofs.YtelmjekjohbmjaaGreatDoor
namespace L
open Go.RowKit

/-- The first error of m, from the k-th on. -/
def firstN (e : Nat → Int) : Nat → Nat → Int
  | _, 0 => 0
  | k, m + 1 => if e k = 0 then firstN e (k + 1) m else e k

set_option maxHeartbeats 1000000 in
set_option maxRecDepth 100000 in
theorem checks_loop {c0 ca B g cm ct cv : Nat} {w : World} (L : List (Nat × Array Value)) (sAt : Nat → Int × List Int) (eAt : Nat → Int) (hn : L.length ≤ 1000) (hm : Mm c0 ca B (sAt 0) w)
    (hgs : ∀ s' W, Stp c0 ca B w s' W → ∀ (j : Nat) (p : Nat × Array Value), L[j]? = some p → W.cell? ⟨g, j, none⟩ = some (.func (.func p.1) #[] p.2))
    (hstep : ∀ (j : Nat) (p : Nat × Array Value) (W : World), L[j]? = some p → Stp c0 ca B w (sAt j) W → (∀ i, i < j → eAt i = 0) → Calls Tryz.prog 90 #[.func (.func p.1) #[] p.2, .pointer (some ⟨cm, 0, none⟩), .pointer (some ⟨ct, 0, none⟩), .pointer (some ⟨cv, 0, none⟩)] W fun e W' => e = .returned (.int .i64 (eAt j)) ∧ Stp c0 ca B W (sAt (j + 1)) W') :
    Calls Tryz.prog 89 #[.slice (some ⟨g, 0, none⟩) L.length L.length, .func (.func 90) #[] #[.pointer (some ⟨cm, 0, none⟩), .pointer (some ⟨ct, 0, none⟩), .pointer (some ⟨cv, 0, none⟩)]] w
      fun e w' => e = .returned (.int .i64 (firstN eAt 0 L.length)) ∧ ∃ s', Stp c0 ca B w s' w' ∧ (firstN eAt 0 L.length = 0 → s' = sAt L.length) := by
  obtain ⟨n, Hn⟩ : ∃ n, Hid (n = L.length) := ⟨_, rfl⟩
  obtain ⟨R, HR⟩ : ∃ R, Hid (R = firstN eAt 0 n) := ⟨_, rfl⟩
  rw [← Hn.out] at hn ⊢
  rw [← HR.out]
  go_enter Tryz.func89, Tryz.ntmps89
  go_wp2_with fail
  go_loopg [10] n (fun m i wr => ∃ k : Nat, k + m = n ∧ i = .int .i64 k ∧ Hid (R = firstN eAt k m) ∧ Hid (∀ i, i < k → eAt i = 0) ∧ Stp c0 ca B w (sAt k) wr)
  case atStart => exact ⟨0, by omega, rfl, HR, (show Hid _ from fun i hi => absurd hi (Nat.not_lt_zero i)), Stp.refl hm⟩
  case round =>
    obtain ⟨k, hk, rfl, HK, HZ, hs⟩ := hrel
    by_cases hlt : k < n
    · obtain ⟨p, Hp⟩ : ∃ p, Hid (L[k]? = some p) := ⟨L[k]'(by rw [← Hn.out]; exact hlt), List.getElem?_eq_getElem (by rw [← Hn.out]; exact hlt)⟩
      obtain ⟨fn, cap⟩ := p
      have hat : wr.cell? ⟨g, k, none⟩ = some (.func (.func fn) #[] cap) := hgs _ wr hs k (fn, cap) Hp.out
      have hki : (k : Int) < (n : Int) := by omega
      have hcall := hstep k (fn, cap) wr Hp.out hs HZ.out
      obtain ⟨m, rfl⟩ : ∃ m, gk = m + 1 := ⟨gk - 1, by omega⟩
      have hst : firstN eAt k (m + 1) = if eAt k = 0 then firstN eAt (k + 1) m else eAt k := rfl
      obtain ⟨F, HF⟩ : ∃ F, Hid (F = eAt k) := ⟨_, rfl⟩
      rw [← HF.out] at hcall hst
      by_cases hz : F = 0
      · have HX : Hid (R = firstN eAt (k + 1) m) := by
          show _ = _
          rw [HK.out, hst, if_pos hz]
        have HZ' : Hid (∀ i, i < k + 1 → eAt i = 0) := by
          show ∀ i, i < k + 1 → eAt i = 0
          intro i hi
          rcases Nat.lt_succ_iff_lt_or_eq.1 hi with h | h
          · exact HZ.out i h
          · rw [h, ← HF.out, hz]
        have ez : (F != 0) = false := by simp [hz]
        clear hst hz hstep hgs
        go_wp2_with fail
        refine hcall.mono ?_
        rintro e w1 ⟨rfl, hs1⟩
        go_wp2_with fail
        go_roundg m
        case measure => omega
        case rel => exact ⟨k + 1, by omega, by go_num, HX, HZ', hs.trans hs1⟩
      · have HX : Hid (R = F) := by
          show _ = _
          rw [HK.out, hst, if_neg hz]
        have HY : Hid (R ≠ 0) := by show R ≠ 0; rw [HX.out]; exact hz
        have ez : (F != 0) = true := by simpa using hz
        clear hst hz hstep hgs
        go_wp2_with fail
        refine hcall.mono ?_
        rintro e w1 ⟨rfl, hs1⟩
        go_wp2
        go_ret
        exact ⟨by rw [HX.out]; rfl, _, hs.trans hs1, fun e => absurd e HY.out⟩
    · obtain rfl : k = n := by omega
      obtain rfl : gk = 0 := by omega
      have HX : Hid (R = 0) := HK
      go_wp2
      go_ret
      exact ⟨by rw [HX.out]; rfl, _, hs, fun _ => rfl⟩

end L
end Go.Proofs.YtelmjekjohbmjaaGreatDoor

/- A body that came in, opened: what can be read, and how great it is. -/
namespace Go.Proofs.YtelmjekjohbmjaaGreatDoor
namespace L
open Go.ChangeShapes Go.WideShapes Go.ChangeAt Go.RowKit

section
variable {H : Type} {enc : TypeId × Value → H} {w : World} {base : Nat} {spare : Nat → Bool} {held : Bool}

theorem open_listN {α : Type} {P : World → Addr → α → Prop} {Q : α → Prop} {sz bytes : Nat} {t e : TypeId} (ht : Tryz.prog.underlying t = some (.slice e)) (hc : Tryz.prog.cellsOf e = sz) (hby : Tryz.prog.bytesOf e = bytes)
    {fuel : Nat} {cs : List Value} {d : DataW H} {pl : List MemPlace} (h : DataW.trod enc Tryz.prog w base spare held fuel t cs = some (d, pl)) (hsz : Sz t d)
    (hel : ∀ (fuel : Nat) (a : Addr) (cs : List Value) (d' : DataW H) (pl : List MemPlace), SizeOf.sizeOf d' < SizeOf.sizeOf d → w.cells? base a sz = some cs → DataW.trod enc Tryz.prog w base spare held fuel e cs = some (d', pl) → Sz e d' → ∃ y, P w a y ∧ Q y) :
    ∃ v l, cs = [v] ∧ RdL sz P w v l ∧ (∀ y ∈ l, Q y) ∧ l.length * bytes ≤ reachBytes := by
  rcases Go.Deep.open_slice ht h with ⟨hcs, _⟩ | ⟨a, len, cap, m, n, D, Pl, hcs, _, hl, hm, hmm, hx, hels⟩
  · exact ⟨_, [], hcs, RdL.nil _ _ _, fun y hy => by simp at hy, by simp⟩
  · rw [hc] at hels
    have hd := (Prod.mk.inj hx).1
    have hm' : len ≤ m := by rw [hmm]; split <;> omega
    have hw : (len + (m - len)) * bytes ≤ reachBytes := by
      refine hsz _ ?_
      rw [hd, DataW.weights, ht]
      simp [hby]
    have hex : ∀ i, i < len → ∃ y, P w (a.add (i * sz)) y ∧ Q y := by
      intro i hi
      obtain ⟨cs', h1, h2⟩ := hels i (by omega)
      have hmem : D i ∈ (List.range len).map D := List.mem_map.2 ⟨i, List.mem_range.2 hi, rfl⟩
      refine hel n _ cs' (D i) (Pl i) ?_ h1 h2 ?_
      · have := List.sizeOf_lt_of_mem hmem
        rw [hd, DataW.slice.sizeOf_spec]
        omega
      · intro q hq
        refine hsz q ?_
        rw [hd, DataW.weights, ht]
        simp only [List.mem_cons, List.mem_append]
        exact .inr (.inl (all_mem hmem q hq))
    obtain ⟨f, hf⟩ : ∃ f : Fin len → α, ∀ i, P w (a.add (i.1 * sz)) (f i) ∧ Q (f i) := ⟨fun i => Classical.choose (hex i.1 i.2), fun i => Classical.choose_spec (hex i.1 i.2)⟩
    refine ⟨_, List.ofFn f, hcs, ⟨some a, len, cap, rfl, by simp, hl, hm, fun h => (by cases h), ?_⟩, ?_, ?_⟩
    · intro x hx' k y hy
      cases hx'
      rw [List.getElem?_ofFn] at hy
      by_cases hk : k < len
      · rw [dif_pos hk] at hy
        cases hy
        exact (hf ⟨k, hk⟩).1
      · rw [dif_neg hk] at hy
        cases hy
    · intro y hy
      obtain ⟨i, rfl⟩ := List.mem_ofFn.1 hy
      exact (hf i).2
    · simp only [List.length_ofFn]
      exact Nat.le_trans (Nat.mul_le_mul_right _ (Nat.le_add_right _ _)) hw

theorem open_u64 {fuel : Nat} {c : Value} {x : DataW H × List MemPlace} (h : DataW.trod enc Tryz.prog w base spare held fuel 35 [c] = some x) : ∃ n : Nat, c = .int .u64 (n : Int) ∧ n < 18446744073709551616 := by
  obtain ⟨n, h1, _, h2⟩ := DataW.trod_int Tryz.underlying35 h
  simp at h1
  have := bounds_u64 h2
  exact ⟨n.toNat, by rw [h1, Int.toNat_of_nonneg (by omega)], by omega⟩
theorem open_bit (fuel : Nat) (a : Addr) (cs : List Value) (d : DataW H) (pl : List MemPlace) (hc : w.cells? base a 1 = some cs) (h : DataW.trod enc Tryz.prog w base spare held fuel 35 cs = some (d, pl)) : ∃ y, UAt w a y ∧ y < 18446744073709551616 := by
  obtain ⟨_, hlen, hcell⟩ := World.cells?_some hc
  match cs, hlen with
  | [v0], _ =>
    obtain ⟨n1, rfl, z1⟩ := open_u64 h
    refine ⟨n1, ?_, z1⟩
    have := hcell 0 (by omega)
    simpa [Addr.add, UAt] using this
theorem open_byte (fuel : Nat) (a : Addr) (cs : List Value) (d : DataW H) (pl : List MemPlace) (hc : w.cells? base a 1 = some cs) (h : DataW.trod enc Tryz.prog w base spare held fuel 5 cs = some (d, pl)) : ∃ y, YAt w a y ∧ True := by
  obtain ⟨_, hlen, hcell⟩ := World.cells?_some hc
  match cs, hlen with
  | [v0], _ =>
    obtain ⟨n, h1, _, h2⟩ := DataW.trod_int Tryz.underlying5 h
    simp at h1
    subst h1
    have hb := bounds_u8 h2
    refine ⟨UInt8.ofNat n.toNat, ?_, trivial⟩
    have := hcell 0 (by omega)
    have e : (((UInt8.ofNat n.toNat).toNat : Nat) : Int) = n := by
      rw [UInt8.toNat_ofNat', Nat.mod_eq_of_lt (by omega), Int.toNat_of_nonneg (by omega)]
    show w.cell? a = some (.int .u8 (((UInt8.ofNat n.toNat).toNat : Nat) : Int))
    rw [e]
    simpa [Addr.add] using this

theorem open_raw {fuel : Nat} {cs : List Value} {d : DataW H} {pl : List MemPlace} (h : DataW.trod enc Tryz.prog w base spare held fuel 68 cs = some (d, pl)) (hsz : Sz 68 d) : ∃ v l, cs = [v] ∧ RdL 1 YAt w v l ∧ l.length * 1 ≤ reachBytes := by
  obtain ⟨v, l, e, r, _, b⟩ := open_listN (P := YAt) (Q := fun _ => True) (sz := 1) (bytes := 1) Tryz.underlying68 (by kernel_rfl) (by kernel_rfl) h hsz fun fuel a cs d' pl _ hc h' _ => open_byte fuel a cs d' pl hc h'
  exact ⟨v, l, e, r, b⟩
theorem open_raws (fuel : Nat) (a : Addr) (cs : List Value) (d : DataW H) (pl : List MemPlace) (hc : w.cells? base a 1 = some cs) (h : DataW.trod enc Tryz.prog w base spare held fuel 68 cs = some (d, pl)) (hsz : Sz 68 d) : ∃ y, ZAt w a y ∧ y.length * 1 ≤ reachBytes := by
  obtain ⟨_, hlen, hcell⟩ := World.cells?_some hc
  obtain ⟨v, l, e, r, b⟩ := open_raw h hsz
  subst e
  refine ⟨l, ⟨v, ?_, r⟩, b⟩
  have := hcell 0 (by omega)
  simpa [Addr.add] using this
set_option maxRecDepth 100000 in
theorem open_rec (fuel : Nat) (a : Addr) (cs : List Value) (d : DataW H) (pl : List MemPlace) (hc : w.cells? base a 4 = some cs) (h : DataW.trod enc Tryz.prog w base spare held fuel 73 cs = some (d, pl)) (hsz : Sz 73 d) : ∃ y, RAt w a y ∧ RecOk y := by
  obtain ⟨_, hlen, hcell⟩ := World.cells?_some hc
  obtain ⟨xs, n, _, hx, _, hxl, hf⟩ := DataW.trod_struct Tryz.underlying73 h
  have hd := (Prod.mk.inj hx).1
  rw [hd] at hsz
  match cs, hlen with
  | [v0, v1, v2, v3], _ =>
    have hxs : xs.length = 4 := hxl
    have f0 : DataW.trod enc Tryz.prog w base spare held n 3 [v0] = xs[0]? := hf 0 _ rfl
    have f1 : DataW.trod enc Tryz.prog w base spare held n 3 [v1] = xs[1]? := hf 1 _ rfl
    have f2 : DataW.trod enc Tryz.prog w base spare held n 35 [v2] = xs[2]? := hf 2 _ rfl
    have f3 : DataW.trod enc Tryz.prog w base spare held n 68 [v3] = xs[3]? := hf 3 _ rfl
    rw [List.getElem?_eq_getElem (by omega)] at f0 f1 f2 f3
    have q3 : Sz 68 (xs[3]'(by omega)).1 := part_sz (i := 3) Tryz.underlying73 hsz rfl (List.getElem?_eq_getElem (by omega))
    obtain ⟨n0, rfl, z0⟩ := open_num f0
    obtain ⟨n1, rfl, z1⟩ := open_num f1
    obtain ⟨n2, rfl, z2⟩ := open_u64 f2
    obtain ⟨u3, l3, e3, r3, b3⟩ := open_raw f3 q3
    simp at e3
    subst e3
    refine ⟨⟨n0, n1, n2, l3⟩, ⟨v3, ?_, hcell 1 (by omega), hcell 2 (by omega), hcell 3 (by omega), r3⟩, z0, z1, z2, b3⟩
    have := hcell 0 (by omega)
    simpa [Addr.add] using this
theorem part_lt {xs : List (DataW H × List MemPlace)} {i : Nat} (hi : i < xs.length) : SizeOf.sizeOf (xs[i]'hi).1 < SizeOf.sizeOf (DataW.agg (xs.map (·.1))) := by
  have : (xs[i]'hi).1 ∈ xs.map (·.1) := List.mem_map.2 ⟨_, List.getElem_mem hi, rfl⟩
  have := List.sizeOf_lt_of_mem this
  rw [DataW.agg.sizeOf_spec]
  omega
set_option maxRecDepth 100000 in
theorem open_val {β : Type} {P : World → Addr → β → Prop} {Q : β → Prop} (fuel : Nat) (a : Addr) (cs : List Value) (d : DataW H) (pl : List MemPlace) (hc : w.cells? base a 4 = some cs) (h : DataW.trod enc Tryz.prog w base spare held fuel 34 cs = some (d, pl)) (hsz : Sz 34 d)
    (hel : ∀ (fuel : Nat) (a : Addr) (cs : List Value) (d' : DataW H) (pl : List MemPlace), SizeOf.sizeOf d' < SizeOf.sizeOf d → w.cells? base a 2 = some cs → DataW.trod enc Tryz.prog w base spare held fuel 29 cs = some (d', pl) → Sz 29 d' → ∃ y, P w a y ∧ Q y) : ∃ y, VAt P w a y ∧ VOk Q y := by
  obtain ⟨_, hlen, hcell⟩ := World.cells?_some hc
  obtain ⟨xs, n, _, hx, _, hxl, hf⟩ := DataW.trod_struct Tryz.underlying34 h
  have hd := (Prod.mk.inj hx).1
  rw [hd] at hsz hel
  match cs, hlen with
  | [v0, v1, v2, v3], _ =>
    have hxs : xs.length = 4 := hxl
    have f0 : DataW.trod enc Tryz.prog w base spare held n 3 [v0] = xs[0]? := hf 0 _ rfl
    have f1 : DataW.trod enc Tryz.prog w base spare held n 30 [v1] = xs[1]? := hf 1 _ rfl
    have f2 : DataW.trod enc Tryz.prog w base spare held n 31 [v2] = xs[2]? := hf 2 _ rfl
    have f3 : DataW.trod enc Tryz.prog w base spare held n 32 [v3] = xs[3]? := hf 3 _ rfl
    rw [List.getElem?_eq_getElem (by omega)] at f0 f1 f2 f3
    have q1 : Sz 30 (xs[1]'(by omega)).1 := part_sz (i := 1) Tryz.underlying34 hsz rfl (List.getElem?_eq_getElem (by omega))
    have q2 : Sz 31 (xs[2]'(by omega)).1 := part_sz (i := 2) Tryz.underlying34 hsz rfl (List.getElem?_eq_getElem (by omega))
    have q3 : Sz 32 (xs[3]'(by omega)).1 := part_sz (i := 3) Tryz.underlying34 hsz rfl (List.getElem?_eq_getElem (by omega))
    have g3 := part_lt (xs := xs) (i := 3) (by omega)
    obtain ⟨n0, rfl, z0⟩ := open_num f0
    obtain ⟨u1, l1, e1, r1, k1, b1⟩ := open_listN (P := UAt) (Q := fun n => n < 18446744073709551616) (sz := 1) (bytes := 8) Tryz.underlying30 (by kernel_rfl) (by kernel_rfl) f1 q1 fun fuel a cs d' pl _ hc h' _ => open_bit fuel a cs d' pl hc h'
    obtain ⟨u2, l2, e2, r2, k2, b2⟩ := open_listN (P := ZAt) (Q := fun l => l.length * 1 ≤ reachBytes) (sz := 1) (bytes := 24) Tryz.underlying31 (by kernel_rfl) (by kernel_rfl) f2 q2 fun fuel a cs d' pl _ hc h' hs => open_raws fuel a cs d' pl hc h' hs
    obtain ⟨u3, l3, e3, r3, k3, b3⟩ := open_listN (P := P) (Q := Q) (sz := 2) (bytes := 48) Tryz.underlying32 (by kernel_rfl) (by kernel_rfl) f3 q3 fun fuel a cs d' pl hlt hc h' hs => hel fuel a cs d' pl (Nat.lt_trans hlt g3) hc h' hs
    simp at e1 e2 e3
    subst e1 e2 e3
    refine ⟨⟨n0, l1, l2, l3⟩, ⟨v1, v2, v3, ?_, hcell 1 (by omega), hcell 2 (by omega), hcell 3 (by omega), r1, r2, r3⟩, z0, k1, b1, k2, b2, k3, b3⟩
    have := hcell 0 (by omega)
    simpa [Addr.add] using this
set_option maxRecDepth 100000 in
theorem open_parts {N : Nat} (hel : ∀ (fuel : Nat) (a : Addr) (cs : List Value) (d' : DataW H) (pl : List MemPlace), SizeOf.sizeOf d' < N → w.cells? base a 2 = some cs → DataW.trod enc Tryz.prog w base spare held fuel 29 cs = some (d', pl) → Sz 29 d' → ∃ y, BAt N w a y ∧ BOk N y)
    {fuel : Nat} {cs : List Value} {d : DataW H} {pl : List MemPlace} (hN : SizeOf.sizeOf d ≤ N) (h : DataW.trod enc Tryz.prog w base spare held fuel 29 cs = some (d, pl)) (hl : cs.length = 2) (hsz : Sz 29 d) : ∃ v0 v1 y, cs = [v0, v1] ∧ BRd N w v0 v1 y ∧ BOk (N + 1) y := by
  obtain ⟨xs, n, _, hx, _, hxl, hf⟩ := DataW.trod_struct Tryz.underlying29 h
  have hd := (Prod.mk.inj hx).1
  rw [hd] at hsz hN
  match cs, hl with
  | [v0, v1], _ =>
    have hxs : xs.length = 2 := hxl
    have f0 : DataW.trod enc Tryz.prog w base spare held n 26 [v0] = xs[0]? := hf 0 _ rfl
    have f1 : DataW.trod enc Tryz.prog w base spare held n 27 [v1] = xs[1]? := hf 1 _ rfl
    rw [List.getElem?_eq_getElem (by omega)] at f0 f1
    have q0 : Sz 26 (xs[0]'(by omega)).1 := part_sz (i := 0) Tryz.underlying29 hsz rfl (List.getElem?_eq_getElem (by omega))
    have q1 : Sz 27 (xs[1]'(by omega)).1 := part_sz (i := 1) Tryz.underlying29 hsz rfl (List.getElem?_eq_getElem (by omega))
    have g0 := part_lt (xs := xs) (i := 0) (by omega)
    obtain ⟨u0, l0, e0, r0, k0, b0⟩ := open_listN (P := VAt (BAt N)) (Q := VOk (BOk N)) (sz := 4) (bytes := 80) Tryz.underlying26 (by kernel_rfl) (by kernel_rfl) f0 q0 fun fuel a cs d' pl hlt hc h' hs => open_val fuel a cs d' pl hc h' hs fun fuel a cs d'' pl hlt2 hc h'' hs2 => hel fuel a cs d'' pl (Nat.lt_of_lt_of_le (Nat.lt_trans hlt2 (Nat.lt_trans hlt g0)) hN) hc h'' hs2
    obtain ⟨u1, l1, e1, r1, k1, b1⟩ := open_listN (P := RAt) (Q := RecOk) (sz := 4) (bytes := 48) Tryz.underlying27 (by kernel_rfl) (by kernel_rfl) f1 q1 fun fuel a cs d' pl _ hc h' hs => open_rec fuel a cs d' pl hc h' hs
    simp at e0 e1
    subst e0 e1
    exact ⟨v0, v1, ⟨l0, l1⟩, rfl, ⟨r0, r1⟩, k0, b0, k1, b1⟩
theorem open_sub : ∀ (N fuel : Nat) (a : Addr) (cs : List Value) (d' : DataW H) (pl : List MemPlace), SizeOf.sizeOf d' < N → w.cells? base a 2 = some cs → DataW.trod enc Tryz.prog w base spare held fuel 29 cs = some (d', pl) → Sz 29 d' → ∃ y, BAt N w a y ∧ BOk N y
  | 0, _, _, _, _, _, h, _, _, _ => by omega
  | N + 1, fuel, a, cs, d', pl, hN, hc, h, hs => by
    obtain ⟨_, hlen, hcell⟩ := World.cells?_some hc
    obtain ⟨v0, v1, y, rfl, hr, hk⟩ := open_parts (open_sub N) (by omega) h hlen hs
    refine ⟨y, ⟨v0, v1, ?_, hcell 1 (by omega), hr⟩, hk⟩
    have := hcell 0 (by omega)
    simpa [Addr.add] using this
set_option maxRecDepth 100000 in
/-- A body that came in: how deep it is at most, what can be read, how great it is. -/
theorem open_body {v : Value} {fuel : Nat} {d : DataW H} {pl : List MemPlace} (N : Nat) (hN : SizeOf.sizeOf d ≤ N) (h : DataW.trod enc Tryz.prog w base spare held fuel 29 v.cells.toList = some (d, pl)) (hsz : Sz 29 d) : ∃ v0 v1 y, v = .agg #[v0, v1] ∧ BRd N w v0 v1 y ∧ BOk (N + 1) y := by
  have hlen : v.cells.toList.length = 2 := by
    obtain ⟨xs, n, _, _, hlen, _, _⟩ := DataW.trod_struct Tryz.underlying29 h
    exact hlen
  obtain ⟨v0, v1, y, hcs, hr, hk⟩ := open_parts (open_sub N) hN h hlen hsz
  clear h hlen
  refine ⟨v0, v1, y, ?_, hr, hk⟩
  cases v <;> simp [Value.cells] at hcs
  rename_i cs
  have : cs = #[v0, v1] := by cases cs; simp_all
  rw [this]

end
end L
end Go.Proofs.YtelmjekjohbmjaaGreatDoor

/- The eight checks of a value: their memory, and what each tells. -/
namespace Go.Proofs.YtelmjekjohbmjaaGreatDoor
namespace L
open Go.RowKit

theorem firstI_cases {α : Type} (p : α → Bool) : ∀ l : List α, (firstI p l = -1 ∧ l.find? p = none) ∨ ∃ (k : Nat) (x : α), firstI p l = (k : Int) ∧ l[k]? = some x ∧ l.find? p = some x ∧ p x = true
  | [] => .inl ⟨rfl, rfl⟩
  | a :: l => by
    cases hp : p a with
    | true => exact .inr ⟨0, a, by simp [firstI, List.findIdx?_cons, hp], rfl, by simp [hp], hp⟩
    | false =>
      rcases firstI_cases p l with ⟨h1, h2⟩ | ⟨k, x, h1, h2, h3, h4⟩
      · refine .inl ⟨?_, by simp [hp, h2]⟩
        unfold firstI at h1 ⊢
        rw [List.findIdx?_cons, hp]
        cases h : l.findIdx? p with
        | none => simp
        | some k => rw [h] at h1; simp at h1
      · refine .inr ⟨k + 1, x, ?_, by simpa using h2, by simp [hp, h3], h4⟩
        unfold firstI at h1 ⊢
        rw [List.findIdx?_cons, hp]
        cases h : l.findIdx? p with
        | none => rw [h] at h1; simp at h1
        | some k' => rw [h] at h1; simp at h1 ⊢; omega

/-- What check j tells of a value of field x. -/
def eAt {β : Type} (x : FI) (v : VI β) (f : List UInt8 → β → Int) (s : Int × List Int) : Nat → Int
  | 0 => if decide (v.number ≤ s.1) then 2 else 0
  | 1 => if othersB x v then 8 else 0
  | 2 => if miscB x v then 5 else 0
  | 3 => if withoutB x v then 2 else 0
  | 4 => firstE (fitsI x.kind) v.bits
  | 5 => firstE (bytesE x.kind) v.bytes
  | 6 => firstE (f x.type) v.subs
  | 7 => if decide (0 < x.choice ∧ x.choice ∈ s.2) then 8 else 0
  | _ => 0
def sAt {β : Type} (x : FI) (v : VI β) (s : Int × List Int) : Nat → Int × List Int
  | 0 => s
  | j + 1 => (v.number, if j = 7 then takeS x s.2 else s.2)

/-- A block that stays. -/
structure Fx (c0 ca B : Nat) (w : World) (k : Nat) (xs : Array Value) (t : TypeId) : Prop where
  at_ : w.heap[k]? = some (.cells xs t (0, 0))
  lt : k < B
  n0 : k ≠ c0
  na : k ≠ ca
theorem Fx.stp {c0 ca B : Nat} {w w' : World} {k : Nat} {xs : Array Value} {t : TypeId} {s : Int × List Int} (h : Fx c0 ca B w k xs t) (hs : Stp c0 ca B w s w') : Fx c0 ca B w' k xs t := ⟨hs.block h.at_ h.n0 h.na h.lt, h.lt, h.n0, h.na⟩
theorem Fx.below {c0 ca B : Nat} {w w' : World} {k : Nat} {xs : Array Value} {t : TypeId} (h : Fx c0 ca B w k xs t) (hb : Below w.heap.size w w') : Fx c0 ca B w' k xs t := ⟨(hb.block k (Array.getElem?_eq_some_iff.1 h.at_).1).trans h.at_, h.lt, h.n0, h.na⟩
def pt (k : Nat) : Value := .pointer (some ⟨k, 0, none⟩)
/-- The checks: their functions, and what those have captured. -/
def ckL (gd : Nat) (b e : Nat → Nat) : List (Nat × Array Value) := [(137, #[pt (b 0), pt (e 0)]), (137, #[pt (b 1), pt (e 1)]), (137, #[pt (b 2), pt (e 2)]), (137, #[pt (b 3), pt (e 3)]), (95, #[]), (98, #[]), (102, #[pt gd]), (137, #[pt (b 7), pt (e 7)])]
def ckV (p : Nat × Array Value) : Value := .func (.func p.1) #[] p.2
structure CkM (c0 ca B fnD : Nat) (capD : Array Value) (g gd : Nat) (b e : Nat → Nat) (w : World) : Prop where
  arr : Fx c0 ca B w g ((ckL gd b e).map ckV).toArray 138
  deep : Fx c0 ca B w gd #[.func (.func fnD) #[] capD] 96
  f0 : Fx c0 ca B w (b 0) #[.func (.func 138) #[] #[pt c0]] 119
  f1 : Fx c0 ca B w (b 1) #[.func (.func 93) #[] #[]] 119
  f2 : Fx c0 ca B w (b 2) #[.func (.func 94) #[] #[]] 119
  f3 : Fx c0 ca B w (b 3) #[.func (.func 72) #[] #[]] 119
  f7 : Fx c0 ca B w (b 7) #[.func (.func 140) #[] #[pt ca]] 119
  x0 : Fx c0 ca B w (e 0) #[.int .i64 2] 36
  x1 : Fx c0 ca B w (e 1) #[.int .i64 8] 36
  x2 : Fx c0 ca B w (e 2) #[.int .i64 5] 36
  x3 : Fx c0 ca B w (e 3) #[.int .i64 2] 36
  x7 : Fx c0 ca B w (e 7) #[.int .i64 8] 36
theorem CkM.stp {c0 ca B fnD : Nat} {capD : Array Value} {g gd : Nat} {b e : Nat → Nat} {w w' : World} {s : Int × List Int} (h : CkM c0 ca B fnD capD g gd b e w) (k : Stp c0 ca B w s w') : CkM c0 ca B fnD capD g gd b e w' :=
  ⟨h.arr.stp k, h.deep.stp k, h.f0.stp k, h.f1.stp k, h.f2.stp k, h.f3.stp k, h.f7.stp k, h.x0.stp k, h.x1.stp k, h.x2.stp k, h.x3.stp k, h.x7.stp k⟩
theorem CkM.below {c0 ca B fnD : Nat} {capD : Array Value} {g gd : Nat} {b e : Nat → Nat} {w w' : World} (h : CkM c0 ca B fnD capD g gd b e w) (k : Below w.heap.size w w') : CkM c0 ca B fnD capD g gd b e w' :=
  ⟨h.arr.below k, h.deep.below k, h.f0.below k, h.f1.below k, h.f2.below k, h.f3.below k, h.f7.below k, h.x0.below k, h.x1.below k, h.x2.below k, h.x3.below k, h.x7.below k⟩

/-- A value that can be read, and is not too great. -/
structure VRd {d : Nat} (w : World) (v : VI (BI d)) (a1 : Option Addr) (n1 c1 : Nat) (a2 : Option Addr) (n2 c2 : Nat) (a3 : Option Addr) (n3 c3 : Nat) : Prop where
  r1 : RdL 1 UAt w (.slice a1 n1 c1) v.bits
  r2 : RdL 1 ZAt w (.slice a2 n2 c2) v.bytes
  r3 : RdL 2 (BAt d) w (.slice a3 n3 c3) v.subs
  u : ∀ n ∈ v.bits, n < 18446744073709551616
  b1 : n1 ≤ 140737488355328
  b2 : n2 ≤ 140737488355328
  b3 : n3 ≤ 140737488355328
theorem VRd.below {d : Nat} {w w' : World} {v : VI (BI d)} {a1 a2 a3 : Option Addr} {n1 c1 n2 c2 n3 c3 : Nat} (h : VRd w v a1 n1 c1 a2 n2 c2 a3 n3 c3) (hb : Below w.heap.size w w') : VRd w' v a1 n1 c1 a2 n2 c2 a3 n3 c3 :=
  ⟨h.r1.below UAt.stays hb, h.r2.below ZAt.stays hb, h.r3.below (BAt.stays d) hb, h.u, h.b1, h.b2, h.b3⟩

set_option maxHeartbeats 2000000 in
set_option maxRecDepth 100000 in
/-- Each check's contract. -/
theorem check_call {d : Nat} {c0 ca B fnD : Nat} {capD : Array Value} {g gd : Nat} {b e : Nat → Nat} {V : World} {s : Int × List Int} {x : FI} {v : VI (BI d)} {f : List UInt8 → BI d → Int} {a1 a2 a3 : Option Addr} {n1 c1 n2 c2 n3 c3 : Nat} (hck : CkM c0 ca B fnD capD g gd b e V) (hv : VRd V v a1 n1 c1 a2 n2 c2 a3 n3 c3) (hT : Tabs V) (hl : s.2.length ≤ 17592186044415)
    (hentD : ∀ (args : Array Value) (w : World), (callFunc fnD args).run Tryz.prog w = .ok (.enter fnD args) w) (hdeep : othersB x v = false → Deeper d fnD capD x.type (f x.type) v.subs V)
    (j : Nat) (p : Nat × Array Value) (hp : (ckL gd b e)[j]? = some p) (hm : Mm c0 ca B (sAt x v s j) V) (hz : ∀ i, i < j → eAt x v f s i = 0) :
    (∀ (args : Array Value) (w : World), (callFunc p.1 args).run Tryz.prog w = .ok (.enter p.1 args) w) ∧ Calls Tryz.prog p.1 (#[vFI x, .agg #[.int .i64 v.number, .slice a1 n1 c1, .slice a2 n2 c2, .slice a3 n3 c3]] ++ p.2) V fun r W' => r = .returned (.int .i64 (eAt x v f s j)) ∧ Stp c0 ca B V (sAt x v s (j + 1)) W' := by
  have H1 : Hid (n1 = v.bits.length) := hv.r1.len.1
  have H2 : Hid (n2 = v.bytes.length) := hv.r2.len.1
  have H3 : Hid (n3 = v.subs.length) := hv.r3.len.1
  have hw : ∀ (args : Array Value) (w : World), (callFunc 137 args).run Tryz.prog w = .ok (.enter 137 args) w := enters_of Tryz.func137 (by kernel_rfl) rfl
  match j, hp, hm, hz with
  | 0, hp, hm, _ =>
    cases hp
    refine ⟨hw, when_stp (s' := (v.number, s.2)) (r := decide (v.number ≤ s.1)) hm (enters_of Tryz.func138 (by kernel_rfl) rfl) hck.f0.at_ hck.x0.at_ hck.x0.lt hck.x0.n0 hck.x0.na x v fun W hW => ?_⟩
    exact rise_stp (hm.below hW) x v
  | 1, hp, hm, _ =>
    cases hp
    refine ⟨hw, when_stp (s' := (v.number, s.2)) (r := othersB x v) hm (enters_of Tryz.func93 (by kernel_rfl) rfl) hck.f1.at_ hck.x1.at_ hck.x1.lt hck.x1.n0 hck.x1.na x v fun W hW => ?_⟩
    exact (others_any x v H1 H2 H3 hv.b1 hv.b2 hv.b3).mono fun _ _ h => ⟨h.1, Stp.of_below (hm.below hW) h.2⟩
  | 2, hp, hm, _ =>
    cases hp
    refine ⟨hw, when_stp (s' := (v.number, s.2)) (r := miscB x v) hm (enters_of Tryz.func94 (by kernel_rfl) rfl) hck.f2.at_ hck.x2.at_ hck.x2.lt hck.x2.n0 hck.x2.na x v fun W hW => ?_⟩
    exact (misc_any x v H1 H2 H3 hv.b1 hv.b2 hv.b3).mono fun _ _ h => ⟨h.1, Stp.of_below (hm.below hW) h.2⟩
  | 3, hp, hm, _ =>
    cases hp
    refine ⟨hw, when_stp (s' := (v.number, s.2)) (r := withoutB x v) hm (enters_of Tryz.func72 (by kernel_rfl) rfl) hck.f3.at_ hck.x3.at_ hck.x3.lt hck.x3.n0 hck.x3.na x v fun W hW => ?_⟩
    have hv' := hv.below hW
    exact (without_any x v hv'.r1 hv'.r2 hv'.r3 hv.b1 hv.b2 hv.b3).mono fun _ _ h => ⟨h.1, Stp.of_below (hm.below hW) h.2⟩
  | 4, hp, hm, _ =>
    cases hp
    exact ⟨enters_of Tryz.func95 (by kernel_rfl) rfl, (check1_any x v hv.r1 hv.u).mono fun _ _ h => ⟨h.1, Stp.of_below hm h.2⟩⟩
  | 5, hp, hm, _ =>
    cases hp
    exact ⟨enters_of Tryz.func98 (by kernel_rfl) rfl, (check2_any x v hv.r2 hT).mono fun _ _ h => ⟨h.1, Stp.of_below hm h.2⟩⟩
  | 6, hp, hm, hz =>
    cases hp
    have ho : othersB x v = false := by
      have := hz 1 (by omega)
      cases h : othersB x v with
      | false => rfl
      | true => simp [eAt, h] at this
    exact ⟨enters_of Tryz.func102 (by kernel_rfl) rfl, (check3_any x v hv.r3 hck.deep.at_ hentD (hdeep ho)).mono fun _ _ h => ⟨h.1, Stp.of_below hm h.2⟩⟩
  | 7, hp, hm, _ =>
    cases hp
    refine ⟨hw, when_stp (s' := (v.number, takeS x s.2)) (r := decide (0 < x.choice ∧ x.choice ∈ s.2)) hm (enters_of Tryz.func140 (by kernel_rfl) rfl) hck.f7.at_ hck.x7.at_ hck.x7.lt hck.x7.n0 hck.x7.na x v fun W hW => ?_⟩
    exact taken_stp (s := (v.number, s.2)) (hm.below hW) hl x v
  | j + 8, hp, _, _ =>
    rw [List.getElem?_eq_none (by simp [ckL])] at hp
    cases hp

end L
end Go.Proofs.YtelmjekjohbmjaaGreatDoor

