import Derived.Test.YtelmjekjohbmjaaGreatDoorBWrongq
import Derived.Test.YtelmjekjohbmjaaGreatDoorBJoinedq
import Derived.Test.YtelmjekjohbmjaaGreatDoorBTabsq
import Derived.Test.YtelmjekjohbmjaaGreatDoorBOpenUq
import Derived.Test.YtelmjekjohbmjaaGreatDoorM21
/- Join's look at both bodies. -/
namespace Go.Proofs.YtelmjekjohbmjaaGreatDoor
namespace L
open Go.RowKit
set_option linter.unusedVariables false

/-- What Wrong asks of a file, a number, the tables. -/
structure WIn (g : GI) (am : Option Addr) (nm cm : Nat) (ae : Option Addr) (ne ce : Nat) (msg : Int) (w : World) : Prop where
  hg : GRd w (.slice am nm cm) (.slice ae ne ce) g
  n1 : g.msgs.length ≤ 140737488355328
  n2 : g.enums.length ≤ 140737488355328
  fit : Fits g
  fok : ∀ M ∈ g.msgs, (∀ f ∈ M.fields, I64 f.number ∧ I64 f.choice) ∧ M.fields.length ≤ 140737488355328
  tabs : Tabs w
  m1 : -9223372036854775808 ≤ msg
  m2 : msg ≤ 9223372036854775807
theorem WIn.below {g : GI} {am : Option Addr} {nm cm : Nat} {ae : Option Addr} {ne ce : Nat} {msg : Int} {w w' : World} (h : WIn g am nm cm ae ne ce msg w) (hb : Below w.heap.size w w') : WIn g am nm cm ae ne ce msg w' := ⟨h.hg.below hb, h.n1, h.n2, h.fit, h.fok, h.tabs.below hb, h.m1, h.m2⟩
theorem WIn.wrong {g : GI} {am : Option Addr} {nm cm : Nat} {ae : Option Addr} {ne ce : Nat} {msg : Int} {w : World} (h : WIn g am nm cm ae ne ce msg w) {d : Nat} {v0 v1 : Value} {x : BI (d + 1)} (hq : BRd d w v0 v1 x) (hok : BOk (d + 1) x) :
    Calls Tryz.prog 8 #[.agg #[.slice am nm cm, .slice ae ne ce], .int .i64 msg, .agg #[v0, v1]] w fun r w' => r = .returned (.int .i64 (wrongB g d msg x)) ∧ Below w.heap.size w w' := bodyWrong_any h.hg h.n1 h.n2 h.fit hq hok h.tabs h.m1 h.m2

set_option maxHeartbeats 1000000 in
set_option maxRecDepth 100000 in
theorem join1_call {g : GI} {am : Option Addr} {nm cm : Nat} {ae : Option Addr} {ne ce : Nat} {msg : Int} {w : World} (hI : WIn g am nm cm ae ne ce msg w) {c cx : Nat} (hc : w.heap[c]? = some (.cells #[.slice am nm cm, .slice ae ne ce] 25 (0, 0))) (hx : w.heap[cx]? = some (.cells #[.int .i64 msg] 3 (0, 0))) {d : Nat} {a0 a1 : Option Addr} {n0 c0 n1 c1 : Nat} {x : BI (d + 1)} (hq : BRd d w (.slice a0 n0 c0) (.slice a1 n1 c1) x) (hok : BOk (d + 1) x) :
    Calls Tryz.prog 33 #[.agg #[.slice a0 n0 c0, .slice a1 n1 c1], .pointer (some ⟨c, 0, none⟩), .pointer (some ⟨cx, 0, none⟩)] w fun e w' => e = .returned (.int .i64 (wrongB g d msg x)) ∧ Below w.heap.size w w' := by
  have hb1 : Below w.heap.size w (w.alloc (.cells #[.slice a0 n0 c0, .slice a1 n1 c1] 29)) := (Below.refl _ _).alloc (Nat.le_refl _) _
  have hcl := (Array.getElem?_eq_some_iff.1 hc).1
  have hxl := (Array.getElem?_eq_some_iff.1 hx).1
  obtain ⟨k0, k1⟩ := blk2 ((hb1.block c hcl).trans hc)
  have k3 : (w.alloc (.cells #[.slice a0 n0 c0, .slice a1 n1 c1] 29)).cell? ⟨cx, 0, none⟩ = some (.int .i64 msg) := cell_of_blk ((hb1.block cx hxl).trans hx) 0 _ rfl
  have hd := (hI.below hb1).wrong (hq.below hb1) hok
  clear hq hc hx hI
  go_enter Tryz.func33, Tryz.ntmps33
  go_wp2_with fail
  refine hd.mono ?_
  rintro e w1 ⟨rfl, hb2⟩
  go_wp2
  go_ret
  exact ⟨rfl, hb1.trans (hb2.mono hb1.size)⟩

set_option maxHeartbeats 1000000 in
set_option maxRecDepth 100000 in
theorem joins_any {g : GI} {am : Option Addr} {nm cm : Nat} {ae : Option Addr} {ne ce : Nat} {msg : Int} {w : World} (hI : WIn g am nm cm ae ne ce msg w) {c cx : Nat} (hc : w.heap[c]? = some (.cells #[.slice am nm cm, .slice ae ne ce] 25 (0, 0))) (hx : w.heap[cx]? = some (.cells #[.int .i64 msg] 3 (0, 0))) {d : Nat} {v : Value} {l : List (BI (d + 1))} (h : RdL 2 (BAt (d + 1)) w v l) (hok : ∀ s ∈ l, BOk (d + 1) s) :
    Calls Tryz.prog 34 #[v, .func (.func 33) #[] #[.pointer (some ⟨c, 0, none⟩), .pointer (some ⟨cx, 0, none⟩)]] w fun e w' => e = .returned (.int .i64 (firstE (wrongB g d msg) l)) ∧ Below w.heap.size w w' := by
  obtain ⟨ao, n, cap, rfl, Hn, hcap⟩ := h.shape
  obtain ⟨R, HR⟩ : ∃ R, Hid (R = firstE (wrongB g d msg) l) := ⟨_, rfl⟩
  rw [← HR.out]
  go_enter Tryz.func34, Tryz.ntmps34
  go_wp2_with fail
  go_loopg [10] n (fun m i wr => ∃ k : Nat, k + m = n ∧ i = .int .i64 k ∧ Hid (R = firstE (wrongB g d msg) (l.drop k)) ∧ Below w.heap.size w wr)
  case atStart => exact ⟨0, by omega, rfl, HR, Below.refl _ _⟩
  case round =>
    obtain ⟨k, hk, rfl, HK, hb⟩ := hrel
    have hcr := (hb.block c (Array.getElem?_eq_some_iff.1 hc).1).trans hc
    have hxr := (hb.block cx (Array.getElem?_eq_some_iff.1 hx).1).trans hx
    by_cases hlt : k < n
    · obtain ⟨a, Ha⟩ : ∃ a, Hid (l[k]? = some a) := ⟨l[k]'(by rw [← Hn.out]; exact hlt), List.getElem?_eq_getElem (by rw [← Hn.out]; exact hlt)⟩
      obtain ⟨b, off, rfl, hat⟩ := (h.below (BAt.stays (d + 1)) hb).get (BAt.plain (d + 1)) Ha.out
      obtain ⟨v0, v1, s0, s1, hq⟩ := BQ.of (d + 1) hat
      obtain ⟨a0, n0, c0, a1, n1, c1, rfl, rfl⟩ := hq.shape
      have hki : (k : Int) < (n : Int) := by omega
      obtain ⟨W1, HW1⟩ : ∃ W1, Hid (W1 = wr.alloc (.cells #[.slice a0 n0 c0, .slice a1 n1 c1] 29)) := ⟨_, rfl⟩
      have hb1 : Below wr.heap.size wr W1 := by rw [HW1.out]; exact (Below.refl _ _).alloc (Nat.le_refl _) _
      have hbw1 : Below w.heap.size w W1 := hb.trans (hb1.mono hb.size)
      have hcall := join1_call (hI.below hbw1) ((hb1.block c (Array.getElem?_eq_some_iff.1 hcr).1).trans hcr) ((hb1.block cx (Array.getElem?_eq_some_iff.1 hxr).1).trans hxr) (show BRd d W1 _ _ a from hq.below hb1) (hok a (mem_at Ha.out))
      have hst := firstE_at (f := wrongB g d msg) Ha.out
      generalize hF : wrongB g d msg a = F at hcall hst
      clear hq
      by_cases hz : F = 0
      · have HX : Hid (R = firstE (wrongB g d msg) (l.drop (k + 1))) := by
          show _ = _
          rw [HK.out, hst, if_pos hz]
        have ez : (F != 0) = false := by simp [hz]
        clear hst hF hz hat
        go_wp2_with fail
        rw [← HW1.out]
        refine hcall.mono ?_
        rintro e w1 ⟨rfl, hb2⟩
        go_wp2_with fail
        go_roundg (n - (k + 1))
        case measure => omega
        case rel => exact ⟨k + 1, by omega, by go_num, HX, hbw1.trans (hb2.mono hbw1.size)⟩
      · have HX : Hid (R = F) := by
          show _ = _
          rw [HK.out, hst, if_neg hz]
        have ez : (F != 0) = true := by simpa using hz
        clear hst hF hz hat
        go_wp2_with fail
        rw [← HW1.out]
        refine hcall.mono ?_
        rintro e w1 ⟨rfl, hb2⟩
        go_wp2
        go_ret
        exact ⟨by rw [HX.out]; rfl, hbw1.trans (hb2.mono hbw1.size)⟩
    · have HX : Hid (R = 0) := by
        show _ = _
        rw [HK.out]
        exact firstE_end (by rw [← Hn.out]; omega)
      go_wp2
      go_ret
      exact ⟨by rw [HX.out]; rfl, hb⟩

end L
end Go.Proofs.YtelmjekjohbmjaaGreatDoor

/- A file that came in, as Wrong and Join ask for it. -/
namespace Go.Proofs.YtelmjekjohbmjaaGreatDoor
open Go.RowKit

theorem win_of {W : World} {am : Option Addr} {nm cm : Nat} {ae : Option Addr} {ne ce : Nat} {g : L.GI} (hg : L.GRd W (.slice am nm cm) (.slice ae ne ce) g) (hok : L.GOk g) (hT : L.Tabs W) {msg : Int} (z : L.I64 msg) : L.WIn g am nm cm ae ne ce msg W := by
  obtain ⟨h1, h2, h3, h4⟩ := hok
  refine ⟨hg, by unfold reachBytes at h3; omega, by unfold reachBytes at h4; omega, L.GOk.fits ⟨h1, h2, h3, h4⟩, fun M hM => ?_, hT, z.1, z.2⟩
  obtain ⟨_, hf, _, hl, _⟩ := h1 M hM
  exact ⟨fun f hff => ⟨(hf f hff).2.2.1, (hf f hff).2.2.2.2⟩, by unfold reachBytes at hl; omega⟩

end Go.Proofs.YtelmjekjohbmjaaGreatDoor

/- What a right body is like, and what two make: plain. -/
namespace Go.Proofs.YtelmjekjohbmjaaGreatDoor
namespace L
open Go.RowKit
set_option linter.unusedVariables false

theorem firstE_zero {α : Type} {f : α → Int} : ∀ {l : List α}, firstE f l = 0 → ∀ a ∈ l, f a = 0
  | b :: l, h, a, ha => by
    unfold firstE at h
    split at h
    · rename_i hb
      rcases List.mem_cons.1 ha with rfl | ha
      · exact hb
      · exact firstE_zero h a ha
    · rename_i hb
      exact absurd h hb
theorem firstN_zero {e : Nat → Int} : ∀ {m k : Nat}, firstN e k m = 0 → ∀ i, k ≤ i → i < k + m → e i = 0
  | 0, k, _, i, h1, h2 => by omega
  | m + 1, k, h, i, h1, h2 => by
    unfold firstN at h
    split at h
    · rename_i hb
      by_cases e : i = k
      · rw [e]; exact hb
      · exact firstN_zero h i (by omega) (by omega)
    · rename_i hb
      exact absurd h hb
/-- A value that is right but for its place. -/
structure RtV {β : Type} (fs : List FI) (f : List UInt8 → β → Int) (x : FI) (v : VI β) : Prop where
  fld : fs.find? (isF v.number) = some x
  others : othersB x v = false
  misc : miscB x v = false
  without : withoutB x v = false
  bits : ∀ n ∈ v.bits, fitsI x.kind n = 0
  bytes : ∀ l ∈ v.bytes, bytesE x.kind l = 0
  subs : ∀ s ∈ v.subs, f x.type s = 0
theorem valE_inv {β : Type} {fs : List FI} {f : List UInt8 → β → Int} {v : VI β} {s : Int × List Int} (h : valE fs f v s = 0) : ∃ x, RtV fs f x v ∧ s.1 < v.number ∧ (0 < x.choice → x.choice ∉ s.2) ∧ nextS fs v s = (v.number, takeS x s.2) := by
  unfold valE at h
  split at h
  · cases h
  · rename_i x hx
    have e := firstN_zero h
    have e0 : (if decide (v.number ≤ s.1) then (2 : Int) else 0) = 0 := e 0 (by omega) (by omega)
    have e1 : (if othersB x v then (8 : Int) else 0) = 0 := e 1 (by omega) (by omega)
    have e2 : (if miscB x v then (5 : Int) else 0) = 0 := e 2 (by omega) (by omega)
    have e3 : (if withoutB x v then (2 : Int) else 0) = 0 := e 3 (by omega) (by omega)
    have e4 : firstE (fitsI x.kind) v.bits = 0 := e 4 (by omega) (by omega)
    have e5 : firstE (bytesE x.kind) v.bytes = 0 := e 5 (by omega) (by omega)
    have e6 : firstE (f x.type) v.subs = 0 := e 6 (by omega) (by omega)
    have e7 : (if decide (0 < x.choice ∧ x.choice ∈ s.2) then (8 : Int) else 0) = 0 := e 7 (by omega) (by omega)
    refine ⟨x, ⟨hx, ?_, ?_, ?_, firstE_zero e4, firstE_zero e5, firstE_zero e6⟩, ?_, ?_, ?_⟩
    · cases ho : othersB x v with
      | false => rfl
      | true => rw [ho] at e1; simp at e1
    · cases ho : miscB x v with
      | false => rfl
      | true => rw [ho] at e2; simp at e2
    · cases ho : withoutB x v with
      | false => rfl
      | true => rw [ho] at e3; simp at e3
    · by_cases hn : v.number ≤ s.1
      · rw [if_pos (by simpa using hn)] at e0; cases e0
      · omega
    · intro hc hm
      rw [if_pos (by simpa using ⟨hc, hm⟩)] at e7
      cases e7
    · unfold nextS
      have hx' : fs.find? (fun y => decide (y.number = v.number)) = some x := hx
      rw [hx']
/-- Right values: each right, rising, no choice twice. -/
structure RtL {β : Type} (fs : List FI) (f : List UInt8 → β → Int) (l : List (VI β)) : Prop where
  each : ∀ v ∈ l, ∃ x, RtV fs f x v
  rise : l.Pairwise fun a b => a.number < b.number
  apart : l.Pairwise fun a b => choiceF fs a.number ≤ 0 ∨ choiceF fs a.number ≠ choiceF fs b.number
theorem choice_of {β : Type} {fs : List FI} {f : List UInt8 → β → Int} {x : FI} {v : VI β} (h : RtV fs f x v) : choiceF fs v.number = x.choice := by
  have hx' : fs.find? (fun y => decide (y.number = v.number)) = some x := h.fld
  unfold choiceF
  rw [hx']
theorem valsE_inv {β : Type} {fs : List FI} {f : List UInt8 → β → Int} : ∀ {l : List (VI β)} {s : Int × List Int}, valsE fs f l s = 0 → RtL fs f l ∧ (∀ v ∈ l, s.1 < v.number) ∧ ∀ v ∈ l, 0 < choiceF fs v.number → choiceF fs v.number ∉ s.2
  | [], _, _ => ⟨⟨fun _ h => by simp at h, .nil, .nil⟩, fun _ h => by simp at h, fun _ h => by simp at h⟩
  | v :: l, s, h => by
    unfold valsE at h
    split at h
    · rename_i hv
      obtain ⟨x, hx, h1, h2, h3⟩ := valE_inv hv
      rw [h3] at h
      obtain ⟨⟨g1, g2, g3⟩, g4, g5⟩ := valsE_inv h
      have hc := choice_of hx
      refine ⟨⟨fun a ha => ?_, .cons (fun a ha => ?_) g2, .cons (fun a ha => ?_) g3⟩, fun a ha => ?_, fun a ha hp => ?_⟩
      · rcases List.mem_cons.1 ha with rfl | ha
        · exact ⟨x, hx⟩
        · exact g1 a ha
      · exact g4 a ha
      · by_cases hp : choiceF fs v.number ≤ 0
        · exact .inl hp
        · refine .inr fun e => ?_
          have h6 := g5 a ha (by omega)
          rw [← e, hc] at h6
          rw [hc] at hp
          unfold takeS at h6
          rw [if_pos (by omega)] at h6
          simp at h6
      · rcases List.mem_cons.1 ha with rfl | ha
        · exact h1
        · have := g4 a ha
          dsimp only at this
          omega
      · rcases List.mem_cons.1 ha with rfl | ha
        · rw [hc] at hp ⊢
          exact h2 hp
        · have h6 := g5 a ha hp
          unfold takeS at h6
          split at h6
          · simp only [List.mem_append, not_or] at h6
            exact h6.1
          · exact h6
    · rename_i hv
      exact absurd h hv
theorem bodyE_inv {g : GI} {d : Nat} {k : Int} {fs : List FI} {b : BI (d + 1)} (h : bodyE g (d + 1) k fs b = 0) : k ≤ 12 ∧ RtL fs (fun name s => bodyE g d (k + 1) (fieldsOf g name) s) (BO.vals b) ∧ ∀ r ∈ BO.unk b, unkE fs r = 0 := by
  rw [bodyE_succ] at h
  split at h
  · cases h
  · split at h
    · rename_i h1 h2
      exact ⟨by omega, (valsE_inv h2).1, firstE_zero h⟩
    · rename_i h1 h2
      exact absurd h h2
theorem one_sub {β : Type} {x : FI} {v : VI β} (h1 : othersB x v = false) (h2 : miscB x v = false) (hm : x.many = false) (hk : x.kind = 10) : ∃ s, v.subs = [s] := by
  unfold othersB at h1
  rw [if_neg (by omega), if_pos hk] at h1
  unfold miscB manyN at h2
  rw [hm] at h2
  simp only [decide_eq_false_iff_not, Bool.or_eq_false_iff, Bool.not_false, Bool.and_true] at h1 h2
  exact List.length_eq_one_iff.1 (by omega)
/-- A right body's values have their fields, its subs their messages. -/
theorem right_sh {g : GI} (hsub : Subs g) : ∀ (d : Nat) (k : Int) (m : MI) (b : BI d), m ∈ g.msgs → BOk d b → bodyE g d k m.fields b = 0 → ShB g.msgs d m b
  | 0, _, _, b, _, _, _ => nomatch (b : Empty)
  | d + 1, k, m, b, hm, hok, h => by
    obtain ⟨_, hr, _⟩ := bodyE_inv h
    intro v hv
    obtain ⟨x, hx⟩ := hr.each v hv
    refine ⟨(hok.1 v hv).1, x, hx.fld, fun h1 h2 => ?_⟩
    obtain ⟨s, hs⟩ := one_sub hx.others hx.misc h1 h2
    obtain ⟨m', hm'⟩ := hsub m hm x (List.mem_of_find?_eq_some hx.fld) h2
    have hmm : m' ∈ g.msgs := List.mem_of_find?_eq_some hm'
    have hz := hx.subs s (by rw [hs]; exact List.mem_singleton.2 rfl)
    unfold fieldsOf at hz
    rw [hm'] at hz
    exact ⟨m', s, hm', hs, right_sh hsub d (k + 1) m' s hmm ((hok.1 v hv).2.2.2.2.2.1 s (by rw [hs]; exact List.mem_singleton.2 rfl)) hz⟩

/-- How great the entries are, whatever the lists' lengths. -/
def VQk {β : Type} (Q : β → Prop) (v : VI β) : Prop := I64 v.number ∧ (∀ n ∈ v.bits, n < 18446744073709551616) ∧ (∀ l ∈ v.bytes, l.length * 1 ≤ reachBytes) ∧ ∀ s ∈ v.subs, Q s
def BQk : (d : Nat) → BI d → Prop
  | 0 => fun _ => False
  | d + 1 => fun b => (∀ v ∈ BO.vals b, VQk (BQk d) v) ∧ ∀ r ∈ BO.unk b, RecOk r
theorem qk_of : ∀ (d : Nat) (b : BI d), BOk d b → BQk d b
  | 0, _, h => h
  | d + 1, b, h => ⟨fun v hv => ⟨(h.1 v hv).1, (h.1 v hv).2.1, (h.1 v hv).2.2.2.1, fun s hs => qk_of d s ((h.1 v hv).2.2.2.2.2.1 s hs)⟩, h.2.2.1⟩
theorem sum_one {α : Type} (f : α → Nat) {l : List α} {a : α} (h : a ∈ l) : f a ≤ (l.map f).sum := by
  induction l with
  | nil => cases h
  | cons b l ih =>
    simp only [List.map_cons, List.sum_cons]
    rcases List.mem_cons.1 h with rfl | h
    · omega
    · have := ih h; omega
theorem ok_of : ∀ (d : Nat) (b : BI d), BQk d b → jWB d b ≤ 1000000000 → BOk d b
  | 0, _, h, _ => h
  | d + 1, b, h, hw => by
    have hw' : ((BO.vals b).map (jW (jWB d))).sum + (BO.unk b).length ≤ 1000000000 := hw
    have hl := len_sum (jW (jWB d)) (fun v => by unfold jW; omega) (BO.vals b)
    refine ⟨fun v hv => ?_, by unfold reachBytes; omega, h.2, by unfold reachBytes; omega⟩
    have h1 : 1 + v.bits.length + v.bytes.length + (v.subs.map fun s => 1 + jWB d s).sum ≤ ((BO.vals b).map (jW (jWB d))).sum := sum_one (jW (jWB d)) hv
    have h2 := len_sum (fun s => 1 + jWB d s) (fun _ => by omega) v.subs
    obtain ⟨q1, q2, q3, q4⟩ := h.1 v hv
    refine ⟨q1, q2, by unfold reachBytes; omega, q3, by unfold reachBytes; omega, fun s hs => ok_of d s (q4 s hs) ?_, by unfold reachBytes; omega⟩
    have := sum_one (fun s => 1 + jWB d s) hs
    omega
theorem met_qk {β : Type} {Q : β → Prop} {J : MI → β → β → β} (hJ : ∀ M s t, Q s → Q t → Q (J M s t)) {ms : List MI} {x : FI} {a b : VI β} (ha : VQk Q a) (hb : VQk Q b) : VQk Q (metN J ms x a b) := by
  unfold metN
  split
  · refine ⟨ha.1, fun n hn => ?_, fun n hn => ?_, fun n hn => ?_⟩
    · rcases List.mem_append.1 hn with h | h
      · exact ha.2.1 n h
      · exact hb.2.1 n h
    · rcases List.mem_append.1 hn with h | h
      · exact ha.2.2.1 n h
      · exact hb.2.2.1 n h
    · rcases List.mem_append.1 hn with h | h
      · exact ha.2.2.2 n h
      · exact hb.2.2.2 n h
  · split
    · split
      · rename_i M s l t m h1 h2 h3
        refine ⟨ha.1, ha.2.1, ha.2.2.1, fun n hn => ?_⟩
        rw [List.mem_singleton.1 hn]
        exact hJ M s t (ha.2.2.2 s (by rw [h2]; exact List.mem_cons_self ..)) (hb.2.2.2 t (by rw [h3]; exact List.mem_cons_self ..))
      · exact ha
    · exact hb
theorem step_qk {β : Type} {Q : β → Prop} {J : MI → β → β → β} (hJ : ∀ M s t, Q s → Q t → Q (J M s t)) {ms : List MI} {fs : List FI} {l : List (VI β)} {v : VI β} (hl : ∀ a ∈ l, VQk Q a) (hv : VQk Q v) : ∀ a ∈ jstep J ms fs l v, VQk Q a := by
  intro a ha
  unfold jstep at ha
  split at ha
  · exact hl a ha
  · split at ha
    · rcases mem_put ha with rfl | h
      · exact hv
      · exact hl a h
    · rename_i u hu
      rcases mem_put ha with rfl | h
      · exact met_qk hJ (hl u (List.mem_of_find?_eq_some hu)) hv
      · exact hl a h
theorem fold_qk {β : Type} {Q : β → Prop} {J : MI → β → β → β} (hJ : ∀ M s t, Q s → Q t → Q (J M s t)) {ms : List MI} {fs : List FI} : ∀ (m l : List (VI β)), (∀ a ∈ l, VQk Q a) → (∀ a ∈ m, VQk Q a) → ∀ a ∈ m.foldl (jstep J ms fs) l, VQk Q a
  | [], _, hl, _ => hl
  | v :: m, l, hl, hm => fold_qk hJ m _ (step_qk hJ hl (hm v (List.mem_cons_self ..))) fun a ha => hm a (List.mem_cons_of_mem _ ha)
theorem join_qk (ms : List MI) : ∀ (d : Nat) (M : MI) (a b : BI d), BQk d a → BQk d b → BQk d (jnB ms d M a b)
  | 0, _, _, _, h, _ => h
  | d + 1, M, a, b, ha, hb => ⟨fold_qk (fun M s t => join_qk ms d M s t) _ _ ha.1 hb.1, fun r hr => by
    have hr' : r ∈ BO.unk a ++ BO.unk b := hr
    rcases List.mem_append.1 hr' with h | h
    · exact ha.2 r h
    · exact hb.2 r h⟩
theorem join_ok {ms : List MI} {d : Nat} {M : MI} {a b : BI d} (ha : BOk d a) (hb : BOk d b) (hw : jWB d a + jWB d b ≤ 1000000000) : BOk d (jnB ms d M a b) :=
  ok_of d _ (join_qk ms d M a b (qk_of d a ha) (qk_of d b hb)) (Nat.le_trans (join_w ms d M a b) hw)

end L
end Go.Proofs.YtelmjekjohbmjaaGreatDoor

/- What two bodies are put together to, number by number: plain. -/
namespace Go.Proofs.YtelmjekjohbmjaaGreatDoor
namespace L
open Go.RowKit
set_option linter.unusedVariables false

theorem find_filter {β : Type} (q : Int → Bool) (n : Int) : ∀ l : List (VI β), (l.filter fun a => q a.number).find? (isV n) = if q n then l.find? (isV n) else none
  | [] => by simp
  | a :: l => by
    have ih := find_filter q n l
    by_cases ha : a.number = n
    · cases hq : q n with
      | true =>
        rw [List.filter_cons_of_pos (by rw [ha]; exact hq), List.find?_cons_of_pos (by simp [isV, ha]), if_pos rfl, List.find?_cons_of_pos (by simp [isV, ha])]
      | false =>
        rw [List.filter_cons_of_neg (by rw [ha, hq]; simp), ih, hq]
        rfl
    · rw [List.find?_cons_of_neg (l := l) (by simp [isV, ha])]
      by_cases hq : q a.number = true
      · rw [List.filter_cons_of_pos (p := fun a : VI β => q a.number) hq, List.find?_cons_of_neg (by simp [isV, ha]), ih]
      · rw [List.filter_cons_of_neg (p := fun a : VI β => q a.number) hq, ih]
theorem look_put {β : Type} {fs : List FI} {x : FI} {l : List (VI β)} {y : VI β} (hx : fs.find? (isF y.number) = some x) (n : Int) :
    (putN fs x l y).find? (isV n) = if n = y.number then (if withoutB x y then none else some y) else if oustB fs x n then none else l.find? (isV n) := by
  have hf := find_filter (fun n => !oustB fs x n) n l
  have hs := oust_self hx
  unfold putN
  by_cases hn : n = y.number
  · rw [if_pos hn]
    subst hn
    rw [hs] at hf
    simp only [Bool.not_true, Bool.false_eq_true, if_false] at hf
    split
    · exact hf
    · have h1 : ∀ k, ((l.filter fun a => !oustB fs x a.number).take k).find? (isV y.number) = none := fun k => by
        rw [List.find?_eq_none] at hf ⊢
        exact fun a ha => hf a (List.mem_of_mem_take ha)
      rw [List.append_assoc, List.find?_append, h1, Option.none_or, List.singleton_append, List.find?_cons_of_pos (by simp [isV])]
  · rw [if_neg hn]
    have e : (if (!oustB fs x n) = true then l.find? (isV n) else none) = if oustB fs x n then none else l.find? (isV n) := by cases oustB fs x n <;> rfl
    rw [e] at hf
    split
    · exact hf
    · rw [← hf, List.append_assoc, List.find?_append, List.singleton_append, List.find?_cons_of_neg (by simp [isV]; exact fun h => hn h.symm), ← List.find?_append, List.take_append_drop]
/-- A value of number m puts one of number n out. -/
def ouB (fs : List FI) (m n : Int) : Bool := decide (0 < choiceF fs m ∧ choiceF fs n = choiceF fs m)
theorem choiceF_of {fs : List FI} {m : Int} {x : FI} (hx : fs.find? (isF m) = some x) : choiceF fs m = x.choice := by
  have hx' : fs.find? (fun y => decide (y.number = m)) = some x := hx
  unfold choiceF
  rw [hx']
theorem oust_ne {fs : List FI} {m n : Int} {x : FI} (hx : fs.find? (isF m) = some x) (hn : n ≠ m) : oustB fs x n = ouB fs m n := by
  have hm := find_num hx
  have hc := choiceF_of hx
  unfold oustB ouB
  rw [hc, hm]
  by_cases h : x.choice ≤ 0
  · rw [if_pos h, decide_eq_false hn, decide_eq_false (by omega)]
  · rw [if_neg h]
    by_cases e : choiceF fs n = x.choice
    · rw [decide_eq_true e, decide_eq_true ⟨by omega, e⟩]
    · rw [decide_eq_false e, decide_eq_false (fun h => e h.2)]
/-- What comes of a value and one that may be there. -/
def orN {β : Type} (J : MI → β → β → β) (ms : List MI) (x : FI) (u : Option (VI β)) (v : VI β) : VI β := match u with
  | some u => metN J ms x u v
  | none => v
theorem look_step {β : Type} {J : MI → β → β → β} {ms : List MI} {fs : List FI} {x : FI} {l : List (VI β)} {v : VI β} (hx : fs.find? (isF v.number) = some x) (hw : withoutB x v = false) (n : Int) :
    (jstep J ms fs l v).find? (isV n) = if n = v.number then some (orN J ms x (l.find? (isV n)) v) else if ouB fs v.number n then none else l.find? (isV n) := by
  have hww : ∀ u : VI β, withoutB x (metN J ms x u v) = false := fun u => by
    unfold metN
    by_cases hm : x.many = true
    · rw [if_pos hm]; unfold withoutB; rw [if_pos (.inl hm)]
    · rw [if_neg hm]
      by_cases hk : x.kind = 10
      · rw [if_pos hk]; unfold withoutB; rw [if_pos (.inr (.inr hk))]
      · rw [if_neg hk]; exact hw
  unfold jstep
  rw [hx]
  cases hu : l.find? (isV v.number) with
  | none =>
    show (putN fs x l v).find? (isV n) = _
    rw [look_put hx n, hw]
    by_cases hn : n = v.number
    · rw [if_pos hn, if_pos hn, hn, hu]; rfl
    · rw [if_neg hn, if_neg hn, oust_ne hx hn]
  | some u =>
    have hun : u.number = v.number := by have := List.find?_some hu; simpa [isV] using this
    have hyn : (metN J ms x u v).number = v.number := met_num hun
    show (putN fs x l (metN J ms x u v)).find? (isV n) = _
    rw [look_put (by rw [hyn]; exact hx) n, hww, hyn]
    by_cases hn : n = v.number
    · rw [if_pos hn, if_pos hn, hn, hu]; rfl
    · rw [if_neg hn, if_neg hn, oust_ne hx hn]
/-- What there is of number n, of a list, where another comes onto it. -/
def lookN {β : Type} (J : MI → β → β → β) (ms : List MI) (fs : List FI) (n : Int) (l m : List (VI β)) : Option (VI β) := match m.find? (isV n) with
  | some v => some (orN J ms ((fs.find? (isF n)).getD ⟨[], 0, 0, [], false, 0⟩) (l.find? (isV n)) v)
  | none => if m.any (fun v => ouB fs v.number n) then none else l.find? (isV n)
/-- Number by number. -/
theorem look_fold {β : Type} {J : MI → β → β → β} {ms : List MI} {fs : List FI} {f : List UInt8 → β → Int} (n : Int) : ∀ (m l : List (VI β)), RtL fs f m →
    (m.foldl (jstep J ms fs) l).find? (isV n) = lookN J ms fs n l m
  | [], l, _ => by simp [lookN]
  | v :: m, l, h => by
    obtain ⟨x, hx⟩ := h.each v (List.mem_cons_self ..)
    have h' : RtL fs f m := ⟨fun a ha => h.each a (List.mem_cons_of_mem _ ha), (List.pairwise_cons.1 h.rise).2, (List.pairwise_cons.1 h.apart).2⟩
    have hr := (List.pairwise_cons.1 h.rise).1
    have hap := (List.pairwise_cons.1 h.apart).1
    rw [List.foldl_cons, look_fold n m _ h']
    unfold lookN
    rw [look_step hx.fld hx.without n]
    by_cases hn : n = v.number
    · have e1 : m.find? (isV n) = none := List.find?_eq_none.2 fun a ha => by
        have := hr a ha
        simp [isV]
        omega
      have e2 : m.any (fun a => ouB fs a.number n) = false := List.any_eq_false.2 fun a ha => by
        have h3 := hap a ha
        unfold ouB
        rw [hn]
        simp only [decide_eq_true_eq, not_and]
        intro h4 h5
        rcases h3 with h3 | h3
        · omega
        · exact h3 h5
      rw [e1, List.find?_cons_of_pos (by simp [isV, hn]), if_pos hn]
      simp only [e2, Bool.false_eq_true, if_false]
      rw [hn, hx.fld]
      rfl
    · rw [if_neg hn, List.find?_cons_of_neg (by simp [isV]; exact fun h => hn h.symm)]
      cases hf : m.find? (isV n) with
      | none =>
        simp only [List.any_cons]
        by_cases h1 : ouB fs v.number n = true <;> by_cases h2 : (m.any fun v => ouB fs v.number n) = true <;> simp only [h1, h2, if_true, if_false, Bool.or_true, Bool.false_eq_true, Bool.or_false]
      | some v2 =>
        have h2m := List.mem_of_find?_eq_some hf
        have h2n : v2.number = n := by have := List.find?_some hf; simpa [isV] using this
        have e3 : ouB fs v.number n = false := by
          have h3 := hap v2 h2m
          unfold ouB
          rw [← h2n]
          refine decide_eq_false fun h4 => ?_
          rcases h3 with h3 | h3
          · omega
          · exact h3 h4.2.symm
        rw [e3]
        rfl
/-- .. of bodies. -/
theorem look_join {g : GI} {d : Nat} {M : MI} {a b : BI (d + 1)} {f : List UInt8 → BI d → Int} (hb : RtL M.fields f (BO.vals b)) (n : Int) :
    (BO.vals (jnB g.msgs (d + 1) M a b)).find? (isV n) = lookN (jnB g.msgs d) g.msgs M.fields n (BO.vals a) (BO.vals b) :=
  look_fold (J := jnB g.msgs d) (ms := g.msgs) n (BO.vals b) (BO.vals a) hb

end L
end Go.Proofs.YtelmjekjohbmjaaGreatDoor

