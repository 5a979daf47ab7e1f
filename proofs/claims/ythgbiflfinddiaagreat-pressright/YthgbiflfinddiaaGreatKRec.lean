/- recordBytes, Add, unknown. -/
import Derived.Test.YthgbiflfinddiaaGreatKSized
namespace Go.Proofs.YthgbiflfinddiaaGreat
namespace L
open Go.RowKit

def recN (num how : Int) (bits : Nat) (l : List UInt8) : List UInt8 := ktagN num how ++ (if how = 2 then putN l.length ++ l else kputB how bits)
theorem recN_len (num how : Int) (bits : Nat) (l : List UInt8) : (recN num how bits l).length ≤ 20 + l.length := by
  unfold recN
  rw [List.length_append]
  have h1 := ktagN_len num how
  split
  · rw [List.length_append]
    have := kputN_len l.length
    omega
  · have := kputB_len how bits
    omega
theorem blk4 {w : World} {g : Nat} {a0 a1 a2 a3 : Value} {t : TypeId} (h : w.heap[g]? = some (.cells #[a0, a1, a2, a3] t (0, 0))) :
    w.cell? ⟨g, 0, none⟩ = some a0 ∧ w.cell? ⟨g, 1, none⟩ = some a1 ∧ w.cell? ⟨g, 2, none⟩ = some a2 ∧ w.cell? ⟨g, 3, none⟩ = some a3 :=
  ⟨cell_of_blk h 0 _ rfl, cell_of_blk h 1 _ rfl, cell_of_blk h 2 _ rfl, cell_of_blk h 3 _ rfl⟩
set_option maxHeartbeats 2000000 in
set_option maxRecDepth 100000 in
theorem recordBytes_any {w : World} {v : Value} {l : List UInt8} (h : RdL 1 YAt w v l) (num how : Int) (bits : Nat) (hb : bits ≤ 18446744073709551615) (hl : l.length ≤ 1000000000000) (h1 : 0 ≤ num) (h2 : num ≤ 536870912) (h3 : 0 ≤ how) (h4 : how ≤ 7) :
    Calls Tryz.prog 112 #[.agg #[.int .i64 num, .int .i64 how, .int .u64 (bits : Int), v]] w fun e w' => ∃ ao n cap, e = .returned (.slice ao n cap) ∧ Row ekY w' w.heap.size (.slice ao n cap) (recN num how bits l) ∧ Below w.heap.size w w' := by
  obtain ⟨a1, n1, c1, rfl, H1, hn1⟩ := h.shape
  obtain ⟨W0, HW0⟩ : ∃ W0, Hid (W0 = w.alloc (.cells #[.int .i64 num, .int .i64 how, .int .u64 (bits : Int), .slice a1 n1 c1] 104)) := ⟨_, rfl⟩
  have hb0 : Below w.heap.size w W0 := by rw [HW0.out]; exact (Below.refl _ _).alloc (Nat.le_refl _) _
  have hz0 : w.heap.size + 1 ≤ W0.heap.size := by rw [HW0.out]; simp
  have x0 : W0.heap[w.heap.size]? = some (.cells #[.int .i64 num, .int .i64 how, .int .u64 (bits : Int), .slice a1 n1 c1] 104 (0, 0)) := by rw [HW0.out]; exact heap_alloc_new _ _
  have htg := ktag_any W0.heap.size (.slice none 0 0) [] num how W0 (Row.nil _ _ _) (Nat.le_refl _) h1 h2 h3 h4 (by simp)
  have hT := ktagN_len num how
  go_enter Tryz.func112, Tryz.ntmps112
  go_wp2_with fail
  rw [← HW0.out]
  refine htg.mono ?_
  rintro e w1 ⟨v1, rfl, hr1, hb1⟩
  rw [List.nil_append] at hr1
  obtain ⟨a2, n2, c2, rfl, _⟩ := hr1.shape'
  obtain ⟨t0, t1, t2, t3⟩ := blk4 ((hb1.block _ (by omega)).trans x0)
  have hbw1 : Below w.heap.size w w1 := KBT hb0 hb1
  clear htg
  by_cases hh : how = 2
  · have hq : (how == 2) = true := by simp [hh]
    have HN : Hid (recN num how bits l = ktagN num how ++ putN l.length ++ l) := by show _ = _; unfold recN; rw [if_pos hh, List.append_assoc]
    have hput := kput_any W0.heap.size _ _ l.length w1 hr1 hb1.size (by rw [← H1.out]; omega) (by omega)
    rw [← H1.out] at hput
    have hP := kputN_len n1
    clear hh
    go_wp2_with fail
    refine hput.mono ?_
    rintro e w2 ⟨v2, rfl, hr2, hb2⟩
    obtain ⟨a3, n3, c3, rfl, _⟩ := hr2.shape'
    have hB2 : Below W0.heap.size W0 w2 := hb1.trans hb2
    obtain ⟨p0, p1, p2, p3⟩ := blk4 ((hB2.block _ (by omega)).trans x0)
    have hbw2 : Below w.heap.size w w2 := KBT hb0 hB2
    obtain ⟨q1, q2, q3⟩ := ksrcY (h.below YAt.stays hbw2)
    clear hput t0 t1 t2 t3 hr1
    go_wp2_with (at_builtin; refine wpList_appG (by rfl) ekY _ _ (by rfl) W0.heap.size (.slice a3 n3 c3) _ l (by rfl) hr2 a1 n1 c1 (by rfl) q1 q2 q3 (by decide) ?d2 hB2.size ?_)
    case d2 =>
      rw [show ekY.bytes = 1 from rfl, Nat.mul_one]
      simp only [List.length_append]
      omega
    intro v' w3 hr3 hg3
    obtain ⟨a4, n4, c4, rfl, _⟩ := hr3.shape'
    have hB3 : Below W0.heap.size W0 w3 := hB2.grown hg3 hB2.size (fun k hk => (hr2.own k hk).1)
    have hr3' : Row ekY w3 w.heap.size (.slice a4 n4 c4) (recN num how bits l) := by
      rw [HN.out, ← H1.out, List.append_assoc]; exact hr3.mono (by omega)
    clear hr3
    go_wp2
    go_ret
    exact ⟨a4, n4, c4, rfl, hr3', KBT hb0 hB3⟩
  · have hq : (how == 2) = false := by simp [hh]
    have HN : Hid (recN num how bits l = ktagN num how ++ kputB how bits) := by show _ = _; unfold recN; rw [if_neg hh]
    have hput := kputBits_any W0.heap.size _ _ how bits w1 hr1 hb1.size hb (by omega)
    clear hh
    go_wp2_with fail
    refine hput.mono ?_
    rintro e w2 ⟨v2, rfl, hr2, hb2⟩
    obtain ⟨a3, n3, c3, rfl, _⟩ := hr2.shape'
    have hB2 : Below W0.heap.size W0 w2 := hb1.trans hb2
    have hr3' : Row ekY w2 w.heap.size (.slice a3 n3 c3) (recN num how bits l) := by
      rw [HN.out]; exact hr2.mono (by omega)
    clear hr2 hput
    go_wp2
    go_ret
    exact ⟨a3, n3, c3, rfl, hr3', KBT hb0 hB2⟩
set_option maxHeartbeats 2000000 in
set_option maxRecDepth 100000 in
theorem kadd_any {w : World} {v : Value} {l : List UInt8} (h : RdL 1 YAt w v l) (num how : Int) (bits : Nat) (hb : bits ≤ 18446744073709551615) (hl : l.length ≤ 1000000000000) (h1 : 0 ≤ num) (h2 : num ≤ 536870912) (h3 : 0 ≤ how) (h4 : how ≤ 7)
    {base : Nat} {ao : Option Addr} {no co : Nat} {acc : List UInt8} (hacc : Row ekY w base (.slice ao no co) acc) (hbs : base ≤ w.heap.size) (hal : acc.length ≤ 10000000000000) :
    Calls Tryz.prog 77 #[.slice ao no co, .agg #[.int .i64 num, .int .i64 how, .int .u64 (bits : Int), v]] w fun e w' => ∃ a n c, e = .returned (.slice a n c) ∧ Row ekY w' base (.slice a n c) (acc ++ recN num how bits l) ∧ Below base w w' := by
  obtain ⟨a1, n1, c1, rfl, H1, hn1⟩ := h.shape
  obtain ⟨W0, HW0⟩ : ∃ W0, Hid (W0 = w.alloc (.cells #[.int .i64 num, .int .i64 how, .int .u64 (bits : Int), .slice a1 n1 c1] 104)) := ⟨_, rfl⟩
  have hb0 : Below w.heap.size w W0 := by rw [HW0.out]; exact (Below.refl _ _).alloc (Nat.le_refl _) _
  have hz0 : w.heap.size + 1 ≤ W0.heap.size := by rw [HW0.out]; simp
  have hrb := recordBytes_any (h.below YAt.stays hb0) num how bits hb hl h1 h2 h3 h4
  have hL := recN_len num how bits l
  go_enter Tryz.func77, Tryz.ntmps77
  go_wp2_with fail
  rw [← HW0.out]
  refine hrb.mono ?_
  rintro e w1 ⟨a2, n2, c2, rfl, hr1, hb1⟩
  have hB1 : Below w.heap.size w w1 := KBT hb0 hb1
  obtain ⟨q1, q2, q3⟩ := ksrcY hr1.rdY
  have ha1 := hacc.below hB1
  clear hrb
  go_wp2_with (at_builtin; refine wpList_appG (by rfl) ekY _ _ (by rfl) base (.slice ao no co) _ (recN num how bits l) (by rfl) ha1 a2 n2 c2 (by rfl) q1 q2 q3 (by decide) ?d2 (Nat.le_trans hbs hB1.size) ?_)
  case d2 =>
    rw [show ekY.bytes = 1 from rfl, Nat.mul_one]
    omega
  intro v' w3 hr3 hg3
  obtain ⟨a4, n4, c4, rfl, _⟩ := hr3.shape'
  have hB3 : Below base w w3 := (hB1.mono hbs).grown hg3 (Nat.le_trans hbs hB1.size) (fun k hk => (ha1.own k hk).1)
  go_wp2
  go_ret
  exact ⟨a4, n4, c4, rfl, hr3, hB3⟩

def unkGo : List UInt8 → List RI → List UInt8 × Int
  | acc, [] => (acc, 0)
  | acc, r :: rs => if wrongR r.number r.how r.bits r.bytes.length ≠ 0 then ([], wrongR r.number r.how r.bits r.bytes.length) else unkGo (acc ++ recN r.number r.how r.bits r.bytes) rs
theorem unk_step {l : List RI} {k : Nat} {r : RI} (h : l[k]? = some r) (acc : List UInt8) : unkGo acc (l.drop k) = if wrongR r.number r.how r.bits r.bytes.length ≠ 0 then ([], wrongR r.number r.how r.bits r.bytes.length) else unkGo (acc ++ recN r.number r.how r.bits r.bytes) (l.drop (k + 1)) := by
  obtain ⟨hk, rfl⟩ := List.getElem?_eq_some_iff.1 h
  rw [List.drop_eq_getElem_cons hk]
  rfl
theorem wrongR_ok {num how : Int} {bits len : Nat} (h : wrongR num how bits len = 0) : (how = 0 ∨ how = 1 ∨ how = 2 ∨ how = 5) ∧ 1 ≤ num ∧ num < 536870912 := by
  unfold wrongR at h
  split at h
  · cases h
  · rename_i hh
    have hh' : how = 0 ∨ how = 1 ∨ how = 2 ∨ how = 5 := by
      unfold isHowB at hh
      have := of_decide_eq_true (Bool.of_not_eq_false hh)
      exact this
    split at h
    · cases h
    · split at h
      · cases h
      · exact ⟨hh', by omega, by omega⟩
set_option maxHeartbeats 2000000 in
set_option maxRecDepth 100000 in
theorem unknown_run {w : World} {v : Value} {l : List RI} (h : RdL 4 RAt w v l) (hl : l.length ≤ 1048576) (hs : ∀ r ∈ l, r.bits ≤ 18446744073709551615 ∧ r.bytes.length ≤ 1048576) :
    Calls Tryz.prog 42 #[v] w fun e w' => ∃ ao n cap, e = .returned (.tuple #[.slice ao n cap, .int .i64 (unkGo [] l).2]) ∧ Row ekY w' w.heap.size (.slice ao n cap) (unkGo [] l).1 ∧ Below w.heap.size w w' := by
  obtain ⟨a1, n1, c1, rfl, H1, _⟩ := h.shape
  have hn1 : n1 ≤ 1048576 := by rw [H1.out]; exact hl
  obtain ⟨q, Hq⟩ : ∃ q, Hid (unkGo [] l = q) := ⟨_, rfl⟩
  rw [Hq.out]
  go_enter Tryz.func42, Tryz.ntmps42
  go_wp2_with fail
  go_loopg [4, 10] n1 (fun m u i wr => ∃ (k : Nat) (ao : Option Addr) (no co : Nat) (acc : List UInt8), k + m = n1 ∧ i = .int .i64 k ∧ u = .slice ao no co ∧ Row ekY wr w.heap.size (.slice ao no co) acc ∧ acc.length ≤ k * 1048600 ∧ Hid (unkGo acc (l.drop k) = q) ∧ Below w.heap.size w wr)
  case atStart => exact ⟨0, none, 0, 0, [], by omega, rfl, rfl, Row.nil _ _ _, by simp, Hq, Below.refl _ _⟩
  case round =>
    obtain ⟨k, ao, no, co, acc, hk, rfl, rfl, hr, hacc, HK, hb⟩ := hrel
    by_cases hlt : k < n1
    · obtain ⟨x, Hx⟩ : ∃ x, Hid (l[k]? = some x) := ⟨l[k]'(by rw [← H1.out]; exact hlt), List.getElem?_eq_getElem (by rw [← H1.out]; exact hlt)⟩
      obtain ⟨b, off, rfl, hat⟩ := (h.below RAt.stays hb).get RAt.plain Hx.out
      obtain ⟨vx, s0, s1, s2, s3, hrx⟩ := hat.at
      obtain ⟨ax, nx, cx, rfl, Hnx, hnx⟩ := hrx.shape
      have hki : (k : Int) < (n1 : Int) := by omega
      obtain ⟨hbx, hlx⟩ := hs x (List.mem_of_getElem? Hx.out)
      obtain ⟨W1, HW1⟩ : ∃ W1, Hid (W1 = wr.alloc (.cells #[.int .i64 x.number, .int .i64 x.how, .int .u64 (x.bits : Int), .slice ax nx cx] 104)) := ⟨_, rfl⟩
      have hb1 : Below wr.heap.size wr W1 := by rw [HW1.out]; exact (Below.refl _ _).alloc (Nat.le_refl _) _
      have hz1 : wr.heap.size + 1 ≤ W1.heap.size := by rw [HW1.out]; simp
      have x1 : W1.heap[wr.heap.size]? = some (.cells #[.int .i64 x.number, .int .i64 x.how, .int .u64 (x.bits : Int), .slice ax nx cx] 104 (0, 0)) := by rw [HW1.out]; exact heap_alloc_new _ _
      have hwr := wireWrong_any x.number x.how x.bits ax nx cx W1 hnx
      rw [Hnx.out] at hwr
      have HS := unk_step Hx.out acc
      obtain ⟨E, HE⟩ : ∃ E, Hid (wrongR x.number x.how x.bits x.bytes.length = E) := ⟨_, rfl⟩
      rw [HE.out] at hwr HS
      rw [← Hnx.out] at hwr
      clear hat
      by_cases hE : E = 0
      · have hEb : (E != 0) = false := by simp [hE]
        obtain ⟨hhow, hn1', hn2'⟩ := wrongR_ok (HE.out.trans hE)
        have HK' : Hid (unkGo (acc ++ recN x.number x.how x.bits x.bytes) (l.drop (k + 1)) = q) := by
          show _ = _; rw [← HK.out, HS, if_neg (by simp [hE])]
        have hLn := recN_len x.number x.how x.bits x.bytes
        clear hE HS
        go_wp2_with fail
        rw [← HW1.out]
        refine hwr.mono ?_
        rintro e w2 ⟨rfl, hb2⟩
        obtain ⟨t0, t1, t2, t3⟩ := blk4 ((hb2.block _ (by omega)).trans x1)
        have hB2 : Below wr.heap.size wr w2 := KBT hb1 hb2
        have had := kadd_any (hrx.below YAt.stays hB2) x.number x.how x.bits hbx (by omega) (by omega) (by omega) (by omega) (by omega) (hr.below hB2) (Nat.le_trans hb.size hB2.size) (by omega)
        clear hwr hr
        go_wp2_with fail
        refine had.mono ?_
        rintro e w3 ⟨a3, n3, c3, rfl, hr3, hb3⟩
        have hB3 : Below w.heap.size w w3 := (KBT hb hB2).trans hb3
        go_wp2_with fail
        go_roundg (n1 - (k + 1))
        case measure => omega
        case rel => exact ⟨k + 1, a3, n3, c3, _, by omega, by go_num, rfl, hr3, by rw [List.length_append]; omega, HK', hB3⟩
      · have hEb : (E != 0) = true := by simpa using hE
        have HK' : Hid (q = ([], E)) := by
          show _ = _; rw [← HK.out, HS, if_pos hE]
        clear hE HS
        go_wp2_with fail
        rw [← HW1.out]
        refine hwr.mono ?_
        rintro e w2 ⟨rfl, hb2⟩
        have hB2 : Below w.heap.size w w2 := KBT hb (KBT hb1 hb2)
        go_wp2
        go_ret2
        exact ⟨none, 0, 0, by rw [HK'.out]; rfl, by rw [HK'.out]; exact Row.nil _ _ _, hB2⟩
    · have HK' : Hid (q = (acc, 0)) := by
        show _ = _; rw [← HK.out, List.drop_of_length_le (by rw [← H1.out]; omega)]; rfl
      go_wp2
      go_ret2
      exact ⟨ao, no, co, by rw [HK'.out]; rfl, by rw [HK'.out]; exact hr, hb⟩

end L
end Go.Proofs.YthgbiflfinddiaaGreat
