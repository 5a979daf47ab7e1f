/- The contract of the printer's numbers. -/
import Derived.Test.YtenlijgnmhdopaaGreatDoorSWord
import Derived.Lib.AppendIntMem
namespace Go.Proofs.YtenlijgnmhdopaaGreatDoor
open Go.RowKit

theorem Bl.below {w w' : World} {B b : Nat} {l : List UInt8} (h : Bl w B b l) (hb : Below w.heap.size w w') : Bl w' B b l := by
  have keep : ∀ p, Lib.BuilderAt 69 5 B b p (Lib.byteCells l) w → Lib.BuilderAt 69 5 B b p (Lib.byteCells l) w' := by
    rintro p ⟨h1, v, h2, h3, h4⟩
    refine ⟨h1, v, blk_below h2 hb, ⟨h3.1, ?_⟩, h4⟩
    rcases h3.2 with hn | ⟨g, cap, cur, hv, hbg, hg, r⟩
    · exact .inl hn
    · exact .inr ⟨g, cap, cur, hv, hbg, blk_below hg hb, r⟩
  rcases h with h | h
  · exact .inl (keep _ h)
  · exact .inr (keep _ h)

theorem e_add (b o i : Nat) : (⟨b, o, none⟩ : Addr).add i = ⟨b, o + i, none⟩ := by unfold Addr.add; split <;> simp_all

theorem itoaN_any {B : Nat} (n : Int) (h0 : -9223372036854775808 ≤ n) (h1 : n ≤ 9223372036854775807) {w : World} (hg : Gl B w) :
    Calls Tryz.prog 43 #[.int .i64 n] w fun e w' => e = .returned (.string (S (Lib.itoa n))) ∧ Below w.heap.size w w' := by
  refine (Tryz.strconv_Itoa n h0 h1 w (hg w (Below.refl _ _)).2).mono ?_
  rintro e w' ⟨rfl, k, os, rfl⟩
  exact ⟨rfl, Lib.below_grow _ _ (Nat.le_refl _) _ _⟩

/-- A list of numbers that can be read. -/
def RdN (w : World) (v : Value) (l : List Nat) : Prop := ∃ ao n cap, v = .slice ao n cap ∧ l.length = n ∧ (ao = none → n = 0) ∧ ∀ x, ao = some x → ∃ g, x = ⟨g, 0, none⟩ ∧ g < w.heap.size ∧ ∀ (i y : Nat), l[i]? = some y → w.cell? ⟨g, i, none⟩ = some (.int .i64 (y : Int))
theorem Row.rdN {w : World} {base : Nat} {v : Value} {l : List Nat} (h : Row ekInt w base v l) : RdN w v l := by
  rcases h.2 with ⟨hv, hn⟩ | ⟨g, cap, cur, hv, hbg, hg, r⟩
  · exact ⟨none, 0, 0, hv, hn, fun _ => rfl, fun x hx => by cases hx⟩
  · refine ⟨some ⟨g, 0, none⟩, l.length, cap, hv, rfl, by simp, ?_⟩
    intro x hx
    cases hx
    refine ⟨g, rfl, (Array.getElem?_eq_some_iff.1 hg).1, ?_⟩
    intro i y hy
    have := World.ownsRow.cells h (g := g) (by rw [hv]; rfl) i (.int .i64 (y : Int)) (by
      have e := ekInt.flat_at l i 0 y hy (by decide)
      have e1 : ekInt.size = 1 := rfl
      rw [e1, Nat.mul_one, Nat.add_zero] at e
      rw [e]; rfl)
    rw [e_add, Nat.zero_add] at this
    exact this

def commaP : List UInt8 := [44, 32]
def numsP (l : List Nat) : List UInt8 := Lib.join (l.map fun (n : Nat) => Lib.itoa (n : Int)) commaP

theorem S_data (l : List UInt8) : (S l).data.toList = l := by simp [S]

theorem join_any {w : World} {base : Nat} {v : Value} {xs : List (List UInt8)} (hrow : Row ekStr w base v xs) (h0 : xs ≠ []) (hl : xs.length ≤ 1000) (hlen : (Lib.join xs commaP).length ≤ 1000000) :
    Calls Tryz.prog 76 #[v, .string ⟨#[44, 32]⟩] w fun e w' => e = .returned (.string (S (Lib.join xs commaP))) ∧ Below w.heap.size w w' := by
  rcases hrow.2 with ⟨hv, hz⟩ | ⟨g, cap, cur, hv, hbg, hg, r⟩
  · exact absurd (List.eq_nil_of_length_eq_zero hz) h0
  · subst hv
    have hcs := World.ownsRow.cells hrow (g := g) rfl
    have e : (xs.map S).map (·.data.toList) = xs := by
      rw [List.map_map]
      have : ((fun x : ByteArray => x.data.toList) ∘ S) = id := by funext x; exact S_data x
      rw [this]; simp
    have ec : (S commaP).data.toList = commaP := S_data _
    have hj := Tryz.strings_Join g 0 cap (xs.map S) (S commaP) w (by
      intro j x hx
      rw [List.getElem?_map] at hx
      cases hj : xs[j]? with
      | none => rw [hj] at hx; cases hx
      | some y =>
        rw [hj] at hx
        cases hx
        have e := ekStr.flat_at xs j 0 y hj (by decide)
        have e1 : ekStr.size = 1 := rfl
        rw [e1, Nat.mul_one, Nat.add_zero] at e
        have := hcs j (.string (S y)) (by rw [e]; rfl)
        rw [e_add] at this
        exact this) (Array.getElem?_eq_some_iff.1 hg).1 (by simp; omega) (by have := r.1; simpa using this) (by rw [e, ec]; omega)
    rw [e, ec, List.length_map] at hj
    exact hj

set_option maxHeartbeats 400000 in
set_option maxRecDepth 100000 in
theorem numbers_any {B0 : Nat} {v : Value} {l : List Nat} {w : World} (hr : RdN w v l) (h0 : l ≠ []) (hl : l.length ≤ 1000) (hm : ∀ n ∈ l, n ≤ 4294967296) (hg : Gl B0 w) (hB0 : B0 ≤ w.heap.size) (hlen : (numsP l).length ≤ 1000000) :
    Calls Tryz.prog 44 #[v] w fun e w' => e = .returned (.string (S (numsP l))) ∧ Below w.heap.size w w' := by
  obtain ⟨ao, n, cap, rfl, hn, hno, hcells⟩ := hr
  have hpos : 0 < l.length := List.length_pos_iff.2 h0
  cases ao with
  | none => have := hno rfl; omega
  | some x =>
    obtain ⟨g, rfl, hgw, hcell⟩ := hcells x rfl
    clear hno hcells
    go_enter Tryz.func44, Tryz.ntmps44
    go_wp2
    go_loopg [3, 8] n (fun m v i wr => ∃ k : Nat, k + m = n ∧ i = .int .i64 k ∧ (∃ acc, Hid (acc = (l.take k).map fun (n : Nat) => Lib.itoa (n : Int)) ∧ Row ekStr wr w.heap.size v acc ∧ acc.length = k) ∧ Below w.heap.size w wr)
    case atStart => exact ⟨0, by omega, rfl, ⟨[], rfl, Row.nil ekStr _ _, rfl⟩, Below.refl _ _⟩
    case round =>
      obtain ⟨k, hk, rfl, ⟨acc, HAc, hrow, hal⟩, hbel⟩ := hrel
      by_cases hlt : k < n
      · obtain ⟨y, Hy⟩ : ∃ y, Hid (l[k]? = some y) := ⟨l[k]'(by omega), List.getElem?_eq_getElem (by omega)⟩
        have hc : wr.cell? ⟨g, k, none⟩ = some (.int .i64 (y : Int)) := by rw [hbel.cell hgw]; exact hcell k y Hy.out
        have hy : y ≤ 4294967296 := hm y (List.mem_of_getElem? Hy.out)
        have HT : Hid ((l.take (k + 1)).map (fun (n : Nat) => Lib.itoa (n : Int)) = acc ++ [Lib.itoa (y : Int)]) := by
          show _ = _; rw [HAc.out, List.take_add_one, Hy.out, List.map_append]; rfl
        have hgr := hg.later (hbel.mono hB0)
        go_wp2_with fail
        refine (itoaN_any (y : Int) (by omega) (by omega) hgr).mono ?_
        rintro e w1 ⟨rfl, hb1⟩
        have hz : w.heap.size ≤ w1.heap.size := Nat.le_trans hbel.size hb1.size
        have hone : Row ekStr (w1.alloc (.cells #[.string (S (Lib.itoa (y : Int)))] 9)) w.heap.size (.slice (some ⟨w1.heap.size, 0, none⟩) 1 1) [Lib.itoa (y : Int)] := Row.one ekStr w1 _ hz
        have hrow2 := (hrow.below hb1).below ((Below.refl _ w1).alloc (Nat.le_refl _) (.cells #[.string (S (Lib.itoa (y : Int)))] 9))
        have hbel2 : Below w.heap.size w (w1.alloc (.cells #[.string (S (Lib.itoa (y : Int)))] 9)) := (hbel.trans (hb1.mono hbel.size)).alloc hz _
        clear hrow
        go_wp2_with (at_builtin; refine wpList_app rfl ekStr _ _ rfl w.heap.size _ _ [Lib.itoa (y : Int)] rfl hrow2 w.heap.size _ rfl hone ?e1 ?e2 ?_)
        case e1 => simp; omega
        case e2 => simp; omega
        intro v5 w5 hrow5 hgr5
        have hbel5 := hbel2.grown hgr5 (by simp; omega) (fun k hk => (hrow2.own k hk).1)
        go_wp2_with fail
        go_roundg (n - (k + 1))
        case measure => omega
        case rel => exact ⟨k + 1, by omega, by go_num, ⟨_, HT.out.symm, hrow5, by simp [hal]⟩, hbel5⟩
      · have hkn : k = n := by omega
        have HT : Hid (acc = l.map fun (n : Nat) => Lib.itoa (n : Int)) := by show _ = _; rw [HAc.out, List.take_of_length_le (by omega)]
        have HJ : Hid (Lib.join acc commaP = numsP l) := by show _ = _; rw [HT.out]; rfl
        have hne : acc ≠ [] := by intro e; rw [e] at hal; simp at hal; omega
        have hjoin := join_any hrow hne (by omega) (by rw [HJ.out]; exact hlen)
        rw [HJ.out] at hjoin
        clear HAc hm hcell HT hrow hne
        go_wp2_with fail
        refine hjoin.mono ?_
        rintro en w6 ⟨rfl, hb6⟩
        go_wp2
        go_ret
        exact ⟨rfl, hbel.trans (hb6.mono hbel.size)⟩

/-- What the printer stands on: the builder, the tables, a boxed argument. -/
structure FS (w0 : World) (B0 B b F : Nat) (l : List UInt8) (o : Obj) (W : World) : Prop where
  bl : Bl W B b l
  gl : Gl B0 W
  ko : Ko B b w0 W
  blk : W.heap[F]? = some o
  s0 : B0 ≤ W.heap.size
  sb : B ≤ W.heap.size
theorem FS.below {w0 W W' : World} {B0 B b F : Nat} {l : List UInt8} {o : Obj} (h : FS w0 B0 B b F l o W) (hb : Below W.heap.size W W') : FS w0 B0 B b F l o W' :=
  ⟨h.bl.below hb, h.gl.later (hb.mono h.s0), h.ko.trans (Ko.of_below hb), blk_below h.blk hb, Nat.le_trans h.s0 hb.size, Nat.le_trans h.sb hb.size⟩
theorem FS.drew {w0 W : World} {B0 B b F : Nat} {l : List UInt8} {o : Obj} (h : FS w0 B0 B b F l o W) : FS w0 B0 B b F l o W.drew := h.below ((Below.refl _ _).drew)

end Go.Proofs.YtenlijgnmhdopaaGreatDoor
