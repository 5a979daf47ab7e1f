import Derived.Test.YthgbiflfinddiaaGreatMKa
import Derived.Test.YthgbiflfinddiaaGreatBFind
import Derived.Test.YthgbiflfinddiaaGreatKWrong
import Derived.Deep.RegionHeld3
import Derived.Deep.CutRange
import Derived.Deep.DrawnRows
/- written, nested, values: given what runs one deeper. -/
namespace Go.Proofs.YthgbiflfinddiaaGreat
namespace L
open Go.RowKit

/-- Not too much to be written. -/
def VSm {β : Type} (Q : β → Prop) (v : VI β) : Prop := v.bits.length ≤ 1048576 ∧ (∀ n ∈ v.bits, n ≤ 18446744073709551615) ∧ v.bytes.length ≤ 1048576 ∧ (∀ z ∈ v.bytes, z.length ≤ 1048576) ∧ v.subs.length ≤ 1048576 ∧ ∀ s ∈ v.subs, Q s
def OSm {β : Type} (Q : β → Prop) (b : BO β) : Prop := (∀ v ∈ b.vals, VSm Q v) ∧ b.unk.length ≤ 1048576 ∧ ∀ r ∈ b.unk, r.bits ≤ 18446744073709551615 ∧ r.bytes.length ≤ 1048576
def BSm : (d : Nat) → BI d → Prop
  | 0 => fun _ => True
  | d + 1 => fun b => OSm (BSm d) b
/-- A step that can be done, of n programs. -/
def StOk (n : Nat) (s : TI) : Prop := 1 ≤ s.kind ∧ s.kind ≤ 4 ∧ 1 ≤ s.number ∧ s.number < 536870912 ∧ 0 ≤ s.how ∧ s.how ≤ 7 ∧ (s.kind = 4 → 0 ≤ s.next ∧ s.next < n)
def nestGo {β : Type} (num : Int) (deep : β → List UInt8 × Int) : List UInt8 → List β → List UInt8 × Int
  | acc, [] => (acc, 0)
  | acc, b :: r => if (deep b).2 ≠ 0 then ([], (deep b).2) else nestGo num deep (acc ++ sizedN num [(deep b).1]) r
theorem nest_step {β : Type} {num : Int} {deep : β → List UInt8 × Int} {l : List β} {k : Nat} {b : β} (h : l[k]? = some b) (acc : List UInt8) : nestGo num deep acc (l.drop k) = if (deep b).2 ≠ 0 then ([], (deep b).2) else nestGo num deep (acc ++ sizedN num [(deep b).1]) (l.drop (k + 1)) := by
  obtain ⟨hk, rfl⟩ := List.getElem?_eq_some_iff.1 h
  rw [List.drop_eq_getElem_cons hk]
  rfl
def stepB {β : Type} (deep : TI → β → List UInt8 × Int) (s : TI) (v : VI β) : List UInt8 × Int :=
  if s.kind = 1 then (singleN s v.bits, 0) else if s.kind = 2 then (sizedN s.number [packedN s.how (v.bits.map (bitK s.field))], 0)
  else if s.kind = 3 then (sizedN s.number v.bytes, 0) else nestGo s.number (deep s) [] v.subs
def valsN {β : Type} (deep : TI → β → List UInt8 × Int) (x : List (VI β)) : List UInt8 → List TI → List UInt8 × Int
  | acc, [] => (acc, 0)
  | acc, s :: r => match x.find? fun v => decide (v.number = s.number) with
    | none => valsN deep x acc r
    | some v => if (stepB deep s v).2 ≠ 0 then ([], (stepB deep s v).2) else valsN deep x (acc ++ (stepB deep s v).1) r
theorem vals_step {β : Type} {deep : TI → β → List UInt8 × Int} {x : List (VI β)} {l : List TI} {k : Nat} {s : TI} (h : l[k]? = some s) (acc : List UInt8) : valsN deep x acc (l.drop k) = match x.find? fun v => decide (v.number = s.number) with
    | none => valsN deep x acc (l.drop (k + 1))
    | some v => if (stepB deep s v).2 ≠ 0 then ([], (stepB deep s v).2) else valsN deep x (acc ++ (stepB deep s v).1) (l.drop (k + 1)) := by
  obtain ⟨hk, rfl⟩ := List.getElem?_eq_some_iff.1 h
  rw [List.drop_eq_getElem_cons hk]
  rfl
/-- A body one level down. -/
def KQ : (d : Nat) → World → Value → Value → BI d → Prop
  | 0 => fun _ _ _ _ => False
  | d + 1 => fun w v0 v1 b => BRd d w v0 v1 b
theorem KQ.below : ∀ {d : Nat} {w w' : World} {v0 v1 : Value} {x : BI d}, KQ d w v0 v1 x → Below w.heap.size w w' → KQ d w' v0 v1 x
  | 0, _, _, _, _, _, h, _ => h
  | _ + 1, _, _, _, _, _, h, hb => BRd.below h hb
theorem BAt.kq : ∀ {d : Nat} {w : World} {b o : Nat} {x : BI d}, BAt d w ⟨b, o, none⟩ x → ∃ v0 v1, w.cell? ⟨b, o, none⟩ = some v0 ∧ w.cell? ⟨b, o + 1, none⟩ = some v1 ∧ KQ d w v0 v1 x
  | 0, _, _, _, _, h => h.elim
  | _ + 1, _, _, _, _, h => h.at
theorem KQ.shape : ∀ {d : Nat} {w : World} {v0 v1 : Value} {x : BI d}, KQ d w v0 v1 x → ∃ a0 n0 c0 a1 n1 c1, v0 = .slice a0 n0 c0 ∧ v1 = .slice a1 n1 c1
  | 0, _, _, _, _, h => h.elim
  | _ + 1, _, _, _, _, h => by
    obtain ⟨a0, n0, c0, e0, _, _⟩ := h.1.shape
    obtain ⟨a1, n1, c1, e1, _, _⟩ := h.2.shape
    exact ⟨a0, n0, c0, a1, n1, c1, e0, e1⟩
/-- What runs one deeper: a function value that answers these bytes, or this error. -/
def KDeep (d : Nat) (W : World) (fn : Nat) (cap : Array Value) (next : Int) (f : BI d → List UInt8 × Int) (x : BI d) : Prop :=
  ∀ (V : World) (v0 v1 : Value), Below W.heap.size W V → KQ d V v0 v1 x → Calls Tryz.prog fn (#[.int .i64 next, .agg #[v0, v1]] ++ cap) V fun e w' => ∃ ao n c, e = .returned (.tuple #[.slice ao n c, .int .i64 (f x).2]) ∧ Row ekY w' V.heap.size (.slice ao n c) (f x).1 ∧ Below V.heap.size V w'
theorem KDeep.below {d : Nat} {W W' : World} {fn : Nat} {cap : Array Value} {next : Int} {f : BI d → List UInt8 × Int} {x : BI d} (h : KDeep d W fn cap next f x) (hb : Below W.heap.size W W') : KDeep d W' fn cap next f x :=
  fun V v0 v1 hV => h V v0 v1 (KBT hb hV)
theorem sized1_len (num : Int) (b : List UInt8) : (sizedN num [b]).length ≤ 20 + b.length := by
  unfold sizedN
  simp only [List.flatMap_cons, List.flatMap_nil, List.append_nil, List.length_append]
  have := ktagN_len num 2
  have := kputN_len b.length
  omega
theorem kz1_rd (w : World) {ao : Option Addr} {n cap : Nat} {b : List UInt8} (h : RdL 1 YAt w (.slice ao n cap) b) : RdL 1 ZAt (w.alloc (.cells #[.slice ao n cap] 39)) (.slice (some ⟨w.heap.size, 0, none⟩) 1 1) [b] := by
  refine ⟨_, 1, 1, rfl, rfl, Nat.le_refl _, by unfold maxLen; omega, (fun e => by cases e), fun x hx k a ha => ?_⟩
  cases hx
  cases k with
  | succ k => simp at ha
  | zero =>
    have ha : b = a := by simpa using ha
    subst ha
    rw [add_plain]
    exact ⟨_, cell_of_blk (heap_alloc_new w _) 0 _ rfl, h.below YAt.stays ((Below.refl _ _).alloc (Nat.le_refl _) _)⟩
set_option maxHeartbeats 4000000 in
set_option maxRecDepth 100000 in
theorem nested_any {d : Nat} {w : World} {v : Value} {l : List (BI d)} (h : RdL 2 (BAt d) w v l) (hl : l.length ≤ 1048576) (s : TI) (hn1 : 0 ≤ s.number) (hn2 : s.number ≤ 536870912) {fn : Nat} {cap : Array Value} (hent : ∀ (args : Array Value) (w : World), (callFunc fn args).run Tryz.prog w = .ok (.enter fn args) w)
    {f : BI d → List UInt8 × Int} (hdeep : ∀ x ∈ l, KDeep d w fn cap s.next f x) (hlen : ∀ x ∈ l, (f x).1.length ≤ 4001) :
    Calls Tryz.prog 110 #[tv s, v, .func (.func fn) #[] cap] w fun e w' => ∃ ao n c, e = .returned (.tuple #[.slice ao n c, .int .i64 (nestGo s.number f [] l).2]) ∧ Row ekY w' w.heap.size (.slice ao n c) (nestGo s.number f [] l).1 ∧ Below w.heap.size w w' := by
  obtain ⟨a1, n1, c1, rfl, H1, _⟩ := h.shape
  have hn : n1 ≤ 1048576 := by rw [H1.out]; exact hl
  obtain ⟨q, Hq⟩ : ∃ q, Hid (nestGo s.number f [] l = q) := ⟨_, rfl⟩
  rw [Hq.out]
  obtain ⟨W0, HW0⟩ : ∃ W0, Hid (W0 = w.alloc (.cells #[.int .i64 s.kind, .int .i64 s.number, .int .i64 s.how, .int .i64 s.field, .int .i64 s.next] 51)) := ⟨_, rfl⟩
  have hb0 : Below w.heap.size w W0 := by rw [HW0.out]; exact (Below.refl _ _).alloc (Nat.le_refl _) _
  have hz0 : w.heap.size + 1 ≤ W0.heap.size := by rw [HW0.out]; simp
  have x0 : W0.heap[w.heap.size]? = some (.cells #[.int .i64 s.kind, .int .i64 s.number, .int .i64 s.how, .int .i64 s.field, .int .i64 s.next] 51 (0, 0)) := by rw [HW0.out]; exact heap_alloc_new _ _
  unfold tv
  go_enter Tryz.func110, Tryz.ntmps110
  go_wp2_with fail
  rw [← HW0.out]
  go_loopg [8, 15] n1 (fun m u i wr => ∃ (k : Nat) (ao : Option Addr) (no co : Nat) (acc : List UInt8), k + m = n1 ∧ i = .int .i64 k ∧ u = .slice ao no co ∧ Row ekY wr W0.heap.size (.slice ao no co) acc ∧ acc.length ≤ k * 5000 ∧ Hid (nestGo s.number f acc (l.drop k) = q) ∧ Below W0.heap.size W0 wr)
  case atStart => exact ⟨0, none, 0, 0, [], by omega, rfl, rfl, Row.nil _ _ _, by simp, Hq, Below.refl _ _⟩
  case round =>
    obtain ⟨k, ao, no, co, acc, hk, rfl, rfl, hr, hacc, HK, hb⟩ := hrel
    have hbw : Below w.heap.size w wr := KBT hb0 hb
    have hzr := hb.size
    by_cases hlt : k < n1
    · obtain ⟨x, Hx⟩ : ∃ x, Hid (l[k]? = some x) := ⟨l[k]'(by rw [← H1.out]; exact hlt), List.getElem?_eq_getElem (by rw [← H1.out]; exact hlt)⟩
      obtain ⟨b, off, rfl, hat⟩ := (h.below (BAt.stays d) hbw).get (BAt.plain d) Hx.out
      obtain ⟨v0, v1, s0, s1, hq⟩ := hat.kq
      obtain ⟨e0, m0, p0, e1, m1, p1, rfl, rfl⟩ := hq.shape
      have hki : (k : Int) < (n1 : Int) := by omega
      obtain ⟨W1, HW1⟩ : ∃ W1, Hid (W1 = wr.alloc (.cells #[.slice e0 m0 p0, .slice e1 m1 p1] 30)) := ⟨_, rfl⟩
      have hb1 : Below wr.heap.size wr W1 := by rw [HW1.out]; exact (Below.refl _ _).alloc (Nat.le_refl _) _
      have hz1 : wr.heap.size + 1 ≤ W1.heap.size := by rw [HW1.out]; simp
      have hx := hdeep x (List.mem_of_getElem? Hx.out) W1 _ _ (KBT hbw hb1) (hq.below hb1)
      have hfl := hlen x (List.mem_of_getElem? Hx.out)
      have HS := nest_step (num := s.number) (deep := f) Hx.out acc
      obtain ⟨B, E, HE⟩ : ∃ B E, Hid (f x = (B, E)) := ⟨_, _, rfl⟩
      rw [HE.out] at hx HS hfl
      obtain ⟨t0, t1, t2, t3, t4⟩ := blk5 ((hb.block _ (by omega)).trans x0)
      have u4 : (wr.alloc (.cells #[.slice e0 m0 p0, .slice e1 m1 p1] 30)).cell? ⟨w.heap.size, 4, none⟩ = some (.int .i64 s.next) := cell_below ((Below.refl _ _).alloc (Nat.le_refl _) _) t4
      clear hat
      by_cases hE : E = 0
      · have hEb : (E != 0) = false := by simp [hE]
        have HK' : Hid (nestGo s.number f (acc ++ sizedN s.number [B]) (l.drop (k + 1)) = q) := by
          show _ = _; rw [← HK.out, HS, if_neg (by simp [hE])]
        have hLn := sized1_len s.number B
        clear hE HS
        go_wp2_with fail
        rw [← HW1.out]
        refine hx.mono ?_
        rintro e w2 ⟨a2, n2, c2, rfl, hr2, hb2⟩
        have hB2 : Below wr.heap.size wr w2 := KBT hb1 hb2
        obtain ⟨t0, t1, t2, t3, t4⟩ := blk5 (((hb.trans (hB2.mono hzr)).block _ (by omega)).trans x0)
        obtain ⟨W3, HW3⟩ : ∃ W3, Hid (W3 = w2.alloc (.cells #[.slice a2 n2 c2] 39)) := ⟨_, rfl⟩
        have hb3 : Below w2.heap.size w2 W3 := by rw [HW3.out]; exact (Below.refl _ _).alloc (Nat.le_refl _) _
        have hsz := sized_any (w := W3) (ls := [B]) (by rw [HW3.out]; exact kz1_rd w2 hr2.rdY) s.number hn1 hn2 (by have : B.length ≤ 4001 := hfl; omega)
        clear hx u4
        go_wp2_with fail
        rw [← HW3.out]
        refine hsz.mono ?_
        rintro e w4 ⟨a4, n4, c4, rfl, hr4, hb4⟩
        have hB4 : Below wr.heap.size wr w4 := KBT (KBT hB2 hb3) hb4
        have hB4' : Below W0.heap.size W0 w4 := KBT hb hB4
        have hr24 := hr.below hB4
        obtain ⟨q1, q2, q3⟩ := ksrcY hr4.rdY
        have hfl' : B.length ≤ 4001 := hfl
        clear hsz hr hr2
        go_wp2_with (at_builtin; refine wpList_appG (by rfl) ekY _ _ (by rfl) W0.heap.size (.slice ao no co) _ (sizedN s.number [B]) (by rfl) hr24 a4 n4 c4 (by rfl) q1 q2 q3 (by decide) ?d2 hB4'.size ?_)
        case d2 =>
          rw [show ekY.bytes = 1 from rfl, Nat.mul_one]
          omega
        intro v' w5 hr5 hg5
        obtain ⟨a5, n5, c5, rfl, _⟩ := hr5.shape'
        have hB5 : Below W0.heap.size W0 w5 := hB4'.grown hg5 hB4'.size (fun k hk => (hr24.own k hk).1)
        go_wp2_with fail
        go_roundg (n1 - (k + 1))
        case measure => omega
        case rel => exact ⟨k + 1, a5, n5, c5, _, by omega, by go_num, rfl, hr5, by rw [List.length_append]; omega, HK', hB5⟩
      · have hEb : (E != 0) = true := by simpa using hE
        have HK' : Hid (q = ([], E)) := by
          show _ = _; rw [← HK.out, HS, if_pos hE]
        clear hE HS
        go_wp2_with fail
        rw [← HW1.out]
        refine hx.mono ?_
        rintro e w2 ⟨a2, n2, c2, rfl, hr2, hb2⟩
        have hB2 : Below w.heap.size w w2 := KBT hbw (KBT hb1 hb2)
        go_wp2
        go_ret2
        exact ⟨none, 0, 0, by rw [HK'.out]; rfl, by rw [HK'.out]; exact Row.nil _ _ _, hB2⟩
    · have HK' : Hid (q = (acc, 0)) := by
        show _ = _; rw [← HK.out, List.drop_of_length_le (by rw [← H1.out]; omega)]; rfl
      go_wp2
      go_ret2
      exact ⟨ao, no, co, by rw [HK'.out]; rfl, by rw [HK'.out]; exact hr.mono (by omega), hbw⟩

end L
end Go.Proofs.YthgbiflfinddiaaGreat

