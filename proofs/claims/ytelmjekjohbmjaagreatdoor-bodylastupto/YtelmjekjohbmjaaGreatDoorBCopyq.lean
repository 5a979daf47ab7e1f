import Derived.Test.YtelmjekjohbmjaaGreatDoorM18
/- Lists of records, of bodies and of values, copied entry by entry, whatever copies one. -/
namespace Go.Proofs.YtelmjekjohbmjaaGreatDoor
namespace L
open Go.RowKit

theorem entR (B0 : Nat) : Ent (fun w (r : RI × PV) => Row ekY w B0 r.2.v r.1.bytes) (fun _ => []) := ⟨fun _ _ _ _ h hf _ => h.frY hf, fun _ _ _ k hk => by simp at hk⟩
theorem entB (B0 d : Nat) : Ent (OwnB B0 d) (LB.fp d) := ⟨fun F w w' a => OwnB.fr d F w w' a, fun _ _ h k hk => (OwnB.inB d h k hk).2⟩
theorem entV (B0 d : Nat) : Ent (fun w (v : VL (LB d)) => OwnV (ekB d) (OwnB B0 d) w B0 v) (VL.fp (LB.fp d)) := ⟨fun _ _ _ _ h hf hd => h.fr (OwnB.fr d) hf hd, fun _ _ h k hk => (h.inB (fun _ _ hs => OwnB.inB d hs) k hk).2⟩

set_option maxHeartbeats 2000000 in
set_option maxRecDepth 100000 in
theorem copR_any {w : World} {B0 : Nat} (hB : B0 ≤ w.heap.size) {vl : Value} {l : List (RI)} (h : RdL 4 RAt w vl l) (hl : l.length * 48 ≤ reachBytes) {fn : Nat} (hent : ∀ (args : Array Value) (w : World), (callFunc fn args).run Tryz.prog w = .ok (.enter fn args) w)
    (hone : ∀ W, Below w.heap.size w W → ∀ a ∈ l, ∀ (ay : Option Addr) (ny cy : Nat), RdL 1 YAt W (.slice ay ny cy) a.bytes → Calls Tryz.prog fn #[.agg #[.int .i64 a.number, .int .i64 a.how, .int .u64 (a.bits : Int), .slice ay ny cy]] W fun e W' => ∃ (a' : RI × PV) (q0 q1 q2 : Int) (ax : Option Addr) (nx cx : Nat), ekR.enc a' = [.int .i64 q0, .int .i64 q1, .int .u64 q2, .slice ax nx cx] ∧ e = .returned (.agg #[.int .i64 q0, .int .i64 q1, .int .u64 q2, .slice ax nx cx]) ∧ Prod.fst a' = a ∧ (fun w (r : RI × PV) => Row ekY w B0 r.2.v r.1.bytes) W' a' ∧ (∀ k ∈ (fun (_ : RI × PV) => ([] : List Nat)) a', W.heap.size ≤ k) ∧ ((fun (_ : RI × PV) => ([] : List Nat)) a').Nodup ∧ Below W.heap.size W W') :
    Calls Tryz.prog 31 #[vl, .func (.func fn) #[] #[]] w fun e w' => ∃ (p : PV) (l' : List (RI × PV)), e = .returned p.v ∧ Cop (ekR) (Prod.fst) ((fun w (r : RI × PV) => Row ekY w B0 r.2.v r.1.bytes)) ((fun (_ : RI × PV) => ([] : List Nat))) w B0 l w' p l' := by
  obtain ⟨ao, n, cap, rfl, Hn, hcap⟩ := h.shape
  have hn : n * 48 ≤ reachBytes := by rw [Hn.out]; exact hl
  unfold reachBytes at hn
  go_enter Tryz.func31, Tryz.ntmps31
  go_wp2_with fail
  go_loopg [5, 10] n (fun m s5 i wr => ∃ (k : Nat) (p : PV) (l' : List (RI × PV)), k + m = n ∧ i = .int .i64 k ∧ s5 = p.v ∧ Cop (ekR) (Prod.fst) ((fun w (r : RI × PV) => Row ekY w B0 r.2.v r.1.bytes)) ((fun (_ : RI × PV) => ([] : List Nat))) w B0 (l.take k) wr p l')
  case atStart => exact ⟨0, (none, 0, 0), [], by omega, rfl, rfl, Cop.nil w B0⟩
  case round =>
    obtain ⟨k, p, l', hk, rfl, rfl, hc⟩ := hrel
    by_cases hlt : k < n
    · obtain ⟨z, Hz⟩ : ∃ z, Hid (l[k]? = some z) := ⟨l[k]'(by rw [← Hn.out]; exact hlt), List.getElem?_eq_getElem (by rw [← Hn.out]; exact hlt)⟩
      obtain ⟨b, off, rfl, hat⟩ := (h.below RAt.stays hc.below).get RAt.plain Hz.out
      obtain ⟨vy, s0, s1, s2, s3, hry⟩ := hat.at
      obtain ⟨ay, ny, cy, rfl, _, _⟩ := hry.shape
      have hki : (k : Int) < (n : Int) := by omega
      have HT : Hid (l.take (k + 1) = l.take k ++ [z]) := by show _ = _; rw [List.take_add_one, Hz.out]; rfl
      have Hlen : Hid (l'.length = k) := by show _ = _; rw [← List.length_map (f := Prod.fst), hc.map, List.length_take, ← Hn.out]; omega
      obtain ⟨ap, np, cp⟩ := p
      obtain ⟨W1, HW1⟩ : ∃ W1, Hid (W1 = wr.alloc (.cells #[.int .i64 z.number, .int .i64 z.how, .int .u64 (z.bits : Int), .slice ay ny cy] 73)) := ⟨_, rfl⟩
      have hb1 : Below wr.heap.size wr W1 := by rw [HW1.out]; exact (Below.refl _ _).alloc (Nat.le_refl _) _
      have hcall := hone W1 (BTr hc.below hb1) z (mem_at Hz.out) ay ny cy (hry.below YAt.stays hb1)
      clear h hone
      unfold PV.v at *
      go_wp2_with fail
      rw [← HW1.out]
      refine hcall.mono ?_
      rintro e w2 ⟨a', q0, q1, q2, ax, nx, cx, henc, rfl, her, hO, hge, hnd, hb2⟩
      obtain ⟨W3, HW3⟩ : ∃ W3, Hid (W3 = w2.alloc (.cells #[.int .i64 q0, .int .i64 q1, .int .u64 q2, .slice ax nx cx] 73)) := ⟨_, rfl⟩
      have hb3 : Below w2.heap.size w2 W3 := by rw [HW3.out]; exact (Below.refl _ _).alloc (Nat.le_refl _) _
      have x3 : W3.heap[w2.heap.size]? = some (.cells #[.int .i64 q0, .int .i64 q1, .int .u64 q2, .slice ax nx cx] 73 (0, 0)) := by rw [HW3.out]; exact heap_alloc_new _ _
      have hb02 : Below wr.heap.size wr w2 := BTr hb1 hb2
      have hb03 : Below wr.heap.size wr W3 := BTr hb02 hb3
      have hrow3 : Row (ekR) W3 B0 (.slice ap np cp) l' := hc.row.below hb03
      have hsrc : ∀ ad, (some ⟨w2.heap.size, 0, none⟩ : Option Addr) = some ad → ∀ k y, [a'][k]? = some y → ∀ j u, ((ekR).enc y)[j]? = some u → W3.cell? (ad.add (k * (ekR).size + j)) = some u := src_one x3 (by rw [henc])
      have hlen : (l'.length + [a'].length) * (ekR).bytes ≤ 140737488355328 := by rw [Hlen.out]; show (k + 1) * 48 ≤ _; omega
      have hB3 : B0 ≤ W3.heap.size := Nat.le_trans hB (Nat.le_trans hc.below.size hb03.size)
      have hge' : ∀ k ∈ ((fun (_ : RI × PV) => ([] : List Nat))) a', wr.heap.size ≤ k := fun k hk => Nat.le_trans hb1.size (hge k hk)
      clear hcall x3 hge
      go_wp2_with (at_builtin; rw [← HW3.out]; refine wpList_appB rfl (ekR) _ _ rfl B0 _ l' [a'] rfl hrow3 (some ⟨w2.heap.size, 0, none⟩) 1 1 rfl rfl (fun h => by cases h) hsrc (show 1 ≤ 48 by omega) hlen hB3 ?_)
      intro v4 w4 hr4 hg4 hk4
      obtain ⟨a4, n4, c4, rfl, Hn4⟩ := hr4.shape'
      go_wp2_with fail
      go_roundg (n - (k + 1))
      case measure => omega
      case rel =>
        refine ⟨k + 1, (a4, n4, c4), l' ++ [a'], by omega, by go_num, rfl, ?_⟩
        rw [HT.out]
        exact hc.step (entR B0) (by show (73 : TypeId) ≠ 5; decide) her hO hge' hnd hb02 hb3 (p3 := (a4, n4, c4)) hr4 hg4 hk4
    · obtain rfl : k = n := by omega
      have HT : Hid (l.take k = l) := by show _ = _; exact List.take_of_length_le (by rw [← Hn.out]; exact Nat.le_refl _)
      obtain ⟨ap, np, cp⟩ := p
      rw [HT.out] at hc
      unfold PV.v
      go_wp2
      go_ret
      exact ⟨(ap, np, cp), l', rfl, hc⟩

set_option maxHeartbeats 2000000 in
set_option maxRecDepth 100000 in
theorem copB_any {d : Nat} {w : World} {B0 : Nat} (hB : B0 ≤ w.heap.size) {vl : Value} {l : List (BI d)} (h : RdL 2 (BAt d) w vl l) (hl : l.length * 48 ≤ reachBytes) {fn : Nat} (hent : ∀ (args : Array Value) (w : World), (callFunc fn args).run Tryz.prog w = .ok (.enter fn args) w)
    (hone : ∀ W, Below w.heap.size w W → ∀ a ∈ l, ∀ (a0 : Option Addr) (n0 c0 : Nat) (a1 : Option Addr) (n1 c1 : Nat), BQ d W (.slice a0 n0 c0) (.slice a1 n1 c1) a → Calls Tryz.prog fn #[.agg #[.slice a0 n0 c0, .slice a1 n1 c1]] W fun e W' => ∃ (a' : LB d) (x0 : Option Addr) (y0 z0 : Nat) (x1 : Option Addr) (y1 z1 : Nat), (ekB d).enc a' = [.slice x0 y0 z0, .slice x1 y1 z1] ∧ e = .returned (.agg #[.slice x0 y0 z0, .slice x1 y1 z1]) ∧ (LB.pl d) a' = a ∧ (OwnB B0 d) W' a' ∧ (∀ k ∈ (LB.fp d) a', W.heap.size ≤ k) ∧ ((LB.fp d) a').Nodup ∧ Below W.heap.size W W') :
    Calls Tryz.prog 65 #[vl, .func (.func fn) #[] #[]] w fun e w' => ∃ (p : PV) (l' : List (LB d)), e = .returned p.v ∧ Cop ((ekB d)) ((LB.pl d)) ((OwnB B0 d)) ((LB.fp d)) w B0 l w' p l' := by
  obtain ⟨ao, n, cap, rfl, Hn, hcap⟩ := h.shape
  have hn : n * 48 ≤ reachBytes := by rw [Hn.out]; exact hl
  unfold reachBytes at hn
  go_enter Tryz.func65, Tryz.ntmps65
  go_wp2_with fail
  go_loopg [5, 10] n (fun m s5 i wr => ∃ (k : Nat) (p : PV) (l' : List (LB d)), k + m = n ∧ i = .int .i64 k ∧ s5 = p.v ∧ Cop ((ekB d)) ((LB.pl d)) ((OwnB B0 d)) ((LB.fp d)) w B0 (l.take k) wr p l')
  case atStart => exact ⟨0, (none, 0, 0), [], by omega, rfl, rfl, Cop.nil w B0⟩
  case round =>
    obtain ⟨k, p, l', hk, rfl, rfl, hc⟩ := hrel
    by_cases hlt : k < n
    · obtain ⟨z, Hz⟩ : ∃ z, Hid (l[k]? = some z) := ⟨l[k]'(by rw [← Hn.out]; exact hlt), List.getElem?_eq_getElem (by rw [← Hn.out]; exact hlt)⟩
      obtain ⟨b, off, rfl, hat⟩ := (h.below (BAt.stays d) hc.below).get (BAt.plain d) Hz.out
      obtain ⟨v0, v1, s0, s1, hq⟩ := BQ.of d hat
      obtain ⟨a0, n0, c0, a1, n1, c1, rfl, rfl⟩ := hq.shape
      have hki : (k : Int) < (n : Int) := by omega
      have HT : Hid (l.take (k + 1) = l.take k ++ [z]) := by show _ = _; rw [List.take_add_one, Hz.out]; rfl
      have Hlen : Hid (l'.length = k) := by show _ = _; rw [← List.length_map (f := (LB.pl d)), hc.map, List.length_take, ← Hn.out]; omega
      obtain ⟨ap, np, cp⟩ := p
      obtain ⟨W1, HW1⟩ : ∃ W1, Hid (W1 = wr.alloc (.cells #[.slice a0 n0 c0, .slice a1 n1 c1] 29)) := ⟨_, rfl⟩
      have hb1 : Below wr.heap.size wr W1 := by rw [HW1.out]; exact (Below.refl _ _).alloc (Nat.le_refl _) _
      have hcall := hone W1 (BTr hc.below hb1) z (mem_at Hz.out) a0 n0 c0 a1 n1 c1 (hq.below hb1)
      clear h hone
      unfold PV.v at *
      go_wp2_with fail
      rw [← HW1.out]
      refine hcall.mono ?_
      rintro e w2 ⟨a', x0, y0, z0, x1, y1, z1, henc, rfl, her, hO, hge, hnd, hb2⟩
      obtain ⟨W3, HW3⟩ : ∃ W3, Hid (W3 = w2.alloc (.cells #[.slice x0 y0 z0, .slice x1 y1 z1] 29)) := ⟨_, rfl⟩
      have hb3 : Below w2.heap.size w2 W3 := by rw [HW3.out]; exact (Below.refl _ _).alloc (Nat.le_refl _) _
      have x3 : W3.heap[w2.heap.size]? = some (.cells #[.slice x0 y0 z0, .slice x1 y1 z1] 29 (0, 0)) := by rw [HW3.out]; exact heap_alloc_new _ _
      have hb02 : Below wr.heap.size wr w2 := BTr hb1 hb2
      have hb03 : Below wr.heap.size wr W3 := BTr hb02 hb3
      have hrow3 : Row ((ekB d)) W3 B0 (.slice ap np cp) l' := hc.row.below hb03
      have hsrc : ∀ ad, (some ⟨w2.heap.size, 0, none⟩ : Option Addr) = some ad → ∀ k y, [a'][k]? = some y → ∀ j u, (((ekB d)).enc y)[j]? = some u → W3.cell? (ad.add (k * ((ekB d)).size + j)) = some u := src_one x3 (by rw [henc])
      have hlen : (l'.length + [a'].length) * ((ekB d)).bytes ≤ 140737488355328 := by rw [Hlen.out]; show (k + 1) * 48 ≤ _; omega
      have hB3 : B0 ≤ W3.heap.size := Nat.le_trans hB (Nat.le_trans hc.below.size hb03.size)
      have hge' : ∀ k ∈ ((LB.fp d)) a', wr.heap.size ≤ k := fun k hk => Nat.le_trans hb1.size (hge k hk)
      clear hcall x3 hge
      go_wp2_with (at_builtin; rw [← HW3.out]; refine wpList_appB rfl ((ekB d)) _ _ rfl B0 _ l' [a'] rfl hrow3 (some ⟨w2.heap.size, 0, none⟩) 1 1 rfl rfl (fun h => by cases h) hsrc (show 1 ≤ 48 by omega) hlen hB3 ?_)
      intro v4 w4 hr4 hg4 hk4
      obtain ⟨a4, n4, c4, rfl, Hn4⟩ := hr4.shape'
      go_wp2_with fail
      go_roundg (n - (k + 1))
      case measure => omega
      case rel =>
        refine ⟨k + 1, (a4, n4, c4), l' ++ [a'], by omega, by go_num, rfl, ?_⟩
        rw [HT.out]
        exact hc.step (entB B0 d) (by show (29 : TypeId) ≠ 5; decide) her hO hge' hnd hb02 hb3 (p3 := (a4, n4, c4)) hr4 hg4 hk4
    · obtain rfl : k = n := by omega
      have HT : Hid (l.take k = l) := by show _ = _; exact List.take_of_length_le (by rw [← Hn.out]; exact Nat.le_refl _)
      obtain ⟨ap, np, cp⟩ := p
      rw [HT.out] at hc
      unfold PV.v
      go_wp2
      go_ret
      exact ⟨(ap, np, cp), l', rfl, hc⟩

set_option maxHeartbeats 2000000 in
set_option maxRecDepth 100000 in
theorem copV_any {d : Nat} {w : World} {B0 : Nat} (hB : B0 ≤ w.heap.size) {vl : Value} {l : List (VI (BI d))} (h : RdL 4 (VAt (BAt d)) w vl l) (hl : l.length * 80 ≤ reachBytes) {fn : Nat} (hent : ∀ (args : Array Value) (w : World), (callFunc fn args).run Tryz.prog w = .ok (.enter fn args) w)
    (hone : ∀ W, Below w.heap.size w W → ∀ a ∈ l, ∀ (a1 : Option Addr) (n1 c1 : Nat) (a2 : Option Addr) (n2 c2 : Nat) (a3 : Option Addr) (n3 c3 : Nat), RdL 1 UAt W (.slice a1 n1 c1) a.bits → RdL 1 ZAt W (.slice a2 n2 c2) a.bytes → RdL 2 (BAt d) W (.slice a3 n3 c3) a.subs → Calls Tryz.prog fn #[.agg #[.int .i64 a.number, .slice a1 n1 c1, .slice a2 n2 c2, .slice a3 n3 c3]] W fun e W' => ∃ (a' : VL (LB d)) (q0 : Int) (x1 : Option Addr) (y1 z1 : Nat) (x2 : Option Addr) (y2 z2 : Nat) (x3 : Option Addr) (y3 z3 : Nat), (ekV (LB d)).enc a' = [.int .i64 q0, .slice x1 y1 z1, .slice x2 y2 z2, .slice x3 y3 z3] ∧ e = .returned (.agg #[.int .i64 q0, .slice x1 y1 z1, .slice x2 y2 z2, .slice x3 y3 z3]) ∧ (VL.pl (LB.pl d)) a' = a ∧ (fun w (v : VL (LB d)) => OwnV (ekB d) (OwnB B0 d) w B0 v) W' a' ∧ (∀ k ∈ (VL.fp (LB.fp d)) a', W.heap.size ≤ k) ∧ ((VL.fp (LB.fp d)) a').Nodup ∧ Below W.heap.size W W') :
    Calls Tryz.prog 29 #[vl, .func (.func fn) #[] #[]] w fun e w' => ∃ (p : PV) (l' : List (VL (LB d))), e = .returned p.v ∧ Cop ((ekV (LB d))) ((VL.pl (LB.pl d))) ((fun w (v : VL (LB d)) => OwnV (ekB d) (OwnB B0 d) w B0 v)) ((VL.fp (LB.fp d))) w B0 l w' p l' := by
  obtain ⟨ao, n, cap, rfl, Hn, hcap⟩ := h.shape
  have hn : n * 80 ≤ reachBytes := by rw [Hn.out]; exact hl
  unfold reachBytes at hn
  go_enter Tryz.func29, Tryz.ntmps29
  go_wp2_with fail
  go_loopg [5, 10] n (fun m s5 i wr => ∃ (k : Nat) (p : PV) (l' : List (VL (LB d))), k + m = n ∧ i = .int .i64 k ∧ s5 = p.v ∧ Cop ((ekV (LB d))) ((VL.pl (LB.pl d))) ((fun w (v : VL (LB d)) => OwnV (ekB d) (OwnB B0 d) w B0 v)) ((VL.fp (LB.fp d))) w B0 (l.take k) wr p l')
  case atStart => exact ⟨0, (none, 0, 0), [], by omega, rfl, rfl, Cop.nil w B0⟩
  case round =>
    obtain ⟨k, p, l', hk, rfl, rfl, hc⟩ := hrel
    by_cases hlt : k < n
    · obtain ⟨z, Hz⟩ : ∃ z, Hid (l[k]? = some z) := ⟨l[k]'(by rw [← Hn.out]; exact hlt), List.getElem?_eq_getElem (by rw [← Hn.out]; exact hlt)⟩
      obtain ⟨b, off, rfl, hat⟩ := (h.below (VAt.stays (BAt.stays d)) hc.below).get VAt.plain Hz.out
      obtain ⟨v1, v2, v3, t0, t1, t2, t3, r1, r2, r3⟩ := hat.at
      obtain ⟨a1, n1, c1, rfl, _, _⟩ := r1.shape
      obtain ⟨a2, n2, c2, rfl, _, _⟩ := r2.shape
      obtain ⟨a3, n3, c3, rfl, _, _⟩ := r3.shape
      have hki : (k : Int) < (n : Int) := by omega
      have HT : Hid (l.take (k + 1) = l.take k ++ [z]) := by show _ = _; rw [List.take_add_one, Hz.out]; rfl
      have Hlen : Hid (l'.length = k) := by show _ = _; rw [← List.length_map (f := (VL.pl (LB.pl d))), hc.map, List.length_take, ← Hn.out]; omega
      obtain ⟨ap, np, cp⟩ := p
      obtain ⟨W1, HW1⟩ : ∃ W1, Hid (W1 = wr.alloc (.cells #[.int .i64 z.number, .slice a1 n1 c1, .slice a2 n2 c2, .slice a3 n3 c3] 34)) := ⟨_, rfl⟩
      have hb1 : Below wr.heap.size wr W1 := by rw [HW1.out]; exact (Below.refl _ _).alloc (Nat.le_refl _) _
      have hcall := hone W1 (BTr hc.below hb1) z (mem_at Hz.out) a1 n1 c1 a2 n2 c2 a3 n3 c3 (r1.below UAt.stays hb1) (r2.below ZAt.stays hb1) (r3.below (BAt.stays d) hb1)
      clear h hone
      unfold PV.v at *
      go_wp2_with fail
      rw [← HW1.out]
      refine hcall.mono ?_
      rintro e w2 ⟨a', q0, x1, y1, z1, x2, y2, z2, x3, y3, z3, henc, rfl, her, hO, hge, hnd, hb2⟩
      obtain ⟨W3, HW3⟩ : ∃ W3, Hid (W3 = w2.alloc (.cells #[.int .i64 q0, .slice x1 y1 z1, .slice x2 y2 z2, .slice x3 y3 z3] 34)) := ⟨_, rfl⟩
      have hb3 : Below w2.heap.size w2 W3 := by rw [HW3.out]; exact (Below.refl _ _).alloc (Nat.le_refl _) _
      have x3 : W3.heap[w2.heap.size]? = some (.cells #[.int .i64 q0, .slice x1 y1 z1, .slice x2 y2 z2, .slice x3 y3 z3] 34 (0, 0)) := by rw [HW3.out]; exact heap_alloc_new _ _
      have hb02 : Below wr.heap.size wr w2 := BTr hb1 hb2
      have hb03 : Below wr.heap.size wr W3 := BTr hb02 hb3
      have hrow3 : Row ((ekV (LB d))) W3 B0 (.slice ap np cp) l' := hc.row.below hb03
      have hsrc : ∀ ad, (some ⟨w2.heap.size, 0, none⟩ : Option Addr) = some ad → ∀ k y, [a'][k]? = some y → ∀ j u, (((ekV (LB d))).enc y)[j]? = some u → W3.cell? (ad.add (k * ((ekV (LB d))).size + j)) = some u := src_one x3 (by rw [henc])
      have hlen : (l'.length + [a'].length) * ((ekV (LB d))).bytes ≤ 140737488355328 := by rw [Hlen.out]; show (k + 1) * 80 ≤ _; omega
      have hB3 : B0 ≤ W3.heap.size := Nat.le_trans hB (Nat.le_trans hc.below.size hb03.size)
      have hge' : ∀ k ∈ ((VL.fp (LB.fp d))) a', wr.heap.size ≤ k := fun k hk => Nat.le_trans hb1.size (hge k hk)
      clear hcall x3 hge
      go_wp2_with (at_builtin; rw [← HW3.out]; refine wpList_appB rfl ((ekV (LB d))) _ _ rfl B0 _ l' [a'] rfl hrow3 (some ⟨w2.heap.size, 0, none⟩) 1 1 rfl rfl (fun h => by cases h) hsrc (show 1 ≤ 80 by omega) hlen hB3 ?_)
      intro v4 w4 hr4 hg4 hk4
      obtain ⟨a4, n4, c4, rfl, Hn4⟩ := hr4.shape'
      go_wp2_with fail
      go_roundg (n - (k + 1))
      case measure => omega
      case rel =>
        refine ⟨k + 1, (a4, n4, c4), l' ++ [a'], by omega, by go_num, rfl, ?_⟩
        rw [HT.out]
        exact hc.step (entV B0 d) (by show (34 : TypeId) ≠ 5; decide) her hO hge' hnd hb02 hb3 (p3 := (a4, n4, c4)) hr4 hg4 hk4
    · obtain rfl : k = n := by omega
      have HT : Hid (l.take k = l) := by show _ = _; exact List.take_of_length_le (by rw [← Hn.out]; exact Nat.le_refl _)
      obtain ⟨ap, np, cp⟩ := p
      rw [HT.out] at hc
      unfold PV.v
      go_wp2
      go_ret
      exact ⟨(ap, np, cp), l', rfl, hc⟩

end L
end Go.Proofs.YtelmjekjohbmjaaGreatDoor

