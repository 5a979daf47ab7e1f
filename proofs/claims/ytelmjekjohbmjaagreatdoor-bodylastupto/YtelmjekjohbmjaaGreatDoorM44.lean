import Derived.Test.YtelmjekjohbmjaaGreatDoorM42
import Derived.Test.YtelmjekjohbmjaaGreatDoorBJoinq
import Derived.Test.YtelmjekjohbmjaaGreatDoorBWrongq
import Derived.Test.YtelmjekjohbmjaaGreatDoorM20
import Derived.Deep.LoopGhost
import Derived.Test.YtelmjekjohbmjaaGreatDoorM03
import Derived.Laws.BytesArg
import Derived.Test.YtelmjekjohbmjaaGreatDoorM28
import Derived.Laws.StructEq
import Derived.Deep.CutRange
import Derived.Deep.QuietTactic
import Derived.BigQuiet
/- However put together: what is wrong with what right bodies are put together to; nothing put to a body: plain. -/
namespace Go.Proofs.YtelmjekjohbmjaaGreatDoor
namespace L
open Go.RowKit
set_option linter.unusedVariables false

/-- Right, or too much. -/
def Z5 (n : Int) : Prop := n = 0 ∨ n = 5
theorem firstE_z {α : Type} {f : α → Int} : ∀ {l : List α}, (∀ a ∈ l, Z5 (f a)) → Z5 (firstE f l)
  | [], _ => .inl rfl
  | a :: l, h => by
    unfold firstE
    split
    · exact firstE_z fun b hb => h b (List.mem_cons_of_mem _ hb)
    · exact h a (List.mem_cons_self ..)
theorem firstE_0 {α : Type} {f : α → Int} : ∀ {l : List α}, (∀ a ∈ l, f a = 0) → firstE f l = 0
  | [], _ => rfl
  | a :: l, h => by
    unfold firstE
    rw [if_pos (h a (List.mem_cons_self ..))]
    exact firstE_0 fun b hb => h b (List.mem_cons_of_mem _ hb)
theorem firstN_z {e : Nat → Int} : ∀ {m k : Nat}, (∀ i, k ≤ i → i < k + m → Z5 (e i)) → Z5 (firstN e k m)
  | 0, _, _ => .inl rfl
  | m + 1, k, h => by
    unfold firstN
    split
    · exact firstN_z fun i h1 h2 => h i (by omega) (by omega)
    · exact h k (Nat.le_refl _) (by omega)
/-- A value that is right, or too much. -/
structure AlV {β : Type} (fs : List FI) (f : List UInt8 → β → Int) (x : FI) (v : VI β) : Prop where
  fld : fs.find? (isF v.number) = some x
  others : othersB x v = false
  without : withoutB x v = false
  bits : ∀ n ∈ v.bits, fitsI x.kind n = 0
  bytes : ∀ l ∈ v.bytes, bytesE x.kind l = 0
  subs : ∀ s ∈ v.subs, Z5 (f x.type s)
theorem RtV.al {β : Type} {fs : List FI} {f : List UInt8 → β → Int} {x : FI} {v : VI β} (h : RtV fs f x v) : AlV fs f x v := ⟨h.fld, h.others, h.without, h.bits, h.bytes, fun s hs => .inl (h.subs s hs)⟩
theorem vals_z {β : Type} {fs : List FI} {f : List UInt8 → β → Int} : ∀ {l : List (VI β)} {s : Int × List Int}, (∀ v ∈ l, ∃ x, AlV fs f x v) → (l.Pairwise fun a b => a.number < b.number) → (∀ v ∈ l, s.1 < v.number) → (∀ v ∈ l, 0 < choiceF fs v.number → choiceF fs v.number ∉ s.2) → Apart fs l → Z5 (valsE fs f l s)
  | [], _, _, _, _, _, _ => .inl rfl
  | v :: l, s, h, hr, h1, h2, hap => by
    obtain ⟨x, hx⟩ := h v (List.mem_cons_self ..)
    have hc : choiceF fs v.number = x.choice := choiceF_of hx.fld
    have hxf : fs.find? (fun y => decide (y.number = v.number)) = some x := hx.fld
    have hv : Z5 (valE fs f v s) := by
      unfold valE
      rw [hxf]
      refine firstN_z fun i _ hi => ?_
      match i, hi with
      | 0, _ =>
        left
        have := h1 v (List.mem_cons_self ..)
        show (if decide (v.number ≤ s.1) then (2 : Int) else 0) = 0
        rw [if_neg (by simp; omega)]
      | 1, _ => left; show (if othersB x v then (8 : Int) else 0) = 0; rw [hx.others]; rfl
      | 2, _ => show Z5 (if miscB x v then (5 : Int) else 0); split; exact .inr rfl; exact .inl rfl
      | 3, _ => left; show (if withoutB x v then (2 : Int) else 0) = 0; rw [hx.without]; rfl
      | 4, _ => exact .inl (firstE_0 hx.bits)
      | 5, _ => exact .inl (firstE_0 hx.bytes)
      | 6, _ => exact firstE_z hx.subs
      | 7, _ =>
        left
        show (if decide (0 < x.choice ∧ x.choice ∈ s.2) then (8 : Int) else 0) = 0
        rw [if_neg]
        have := h2 v (List.mem_cons_self ..)
        rw [hc] at this
        simpa using this
    unfold valsE
    split
    · have hn : nextS fs v s = (v.number, takeS x s.2) := by
        unfold nextS
        rw [hxf]
      rw [hn]
      refine vals_z (fun a ha => h a (List.mem_cons_of_mem _ ha)) (List.pairwise_cons.1 hr).2 (fun a ha => (List.pairwise_cons.1 hr).1 a ha) (fun a ha hp => ?_) (fun a ha b hb => hap a (List.mem_cons_of_mem _ ha) b (List.mem_cons_of_mem _ hb))
      have h3 := h2 a (List.mem_cons_of_mem _ ha) hp
      have h4 := (List.pairwise_cons.1 hr).1 a ha
      have h5 := hap a (List.mem_cons_of_mem _ ha) v (List.mem_cons_self ..) (by omega) hp
      unfold takeS
      split
      · simp only [List.mem_append, List.mem_singleton, not_or]
        exact ⟨h3, by rw [← hc]; exact h5⟩
      · exact h3
    · exact hv
theorem others_met {β : Type} {J : MI → β → β → β} {ms : List MI} {x : FI} {t v : VI β} (h1 : othersB x t = false) (h2 : othersB x v = false) (hM : x.many = false → x.kind = 10 → ∃ M s1 s2, ms.find? (isN x.type) = some M ∧ t.subs = [s1] ∧ v.subs = [s2]) : othersB x (metN J ms x t v) = false := by
  cases hm : x.many with
  | true =>
    have e : metN J ms x t v = ⟨t.number, t.bits ++ v.bits, t.bytes ++ v.bytes, t.subs ++ v.subs⟩ := by unfold metN; rw [hm, if_pos rfl]
    rw [e]
    unfold othersB at h1 h2 ⊢
    split
    · rename_i hk; rw [if_pos hk] at h1 h2; simp only [decide_eq_false_iff_not, List.length_append] at h1 h2 ⊢; omega
    · rename_i hk
      rw [if_neg hk] at h1 h2
      split
      · rename_i hk'; rw [if_pos hk'] at h1 h2; simp only [decide_eq_false_iff_not, List.length_append] at h1 h2 ⊢; omega
      · rename_i hk'; rw [if_neg hk'] at h1 h2; simp only [decide_eq_false_iff_not, List.length_append] at h1 h2 ⊢; omega
  | false =>
    by_cases hk : x.kind = 10
    · obtain ⟨M, s1, s2, h0, e1, e2⟩ := hM hm hk
      have e : metN J ms x t v = ⟨t.number, t.bits, t.bytes, [J M s1 s2]⟩ := by
        unfold metN
        rw [hm, if_neg (by simp), if_pos hk, h0, e1, e2]
      rw [e]
      unfold othersB at h1 ⊢
      rw [if_neg (by omega), if_pos hk] at h1 ⊢
      exact h1
    · have e : metN J ms x t v = v := by unfold metN; rw [hm, if_neg (by simp), if_neg hk]
      rw [e]; exact h2
theorem without_met {β : Type} {J : MI → β → β → β} {ms : List MI} {x : FI} {t v : VI β} (hw : withoutB x v = false) : withoutB x (metN J ms x t v) = false := by
  unfold metN
  by_cases hm : x.many = true
  · rw [if_pos hm]; unfold withoutB; rw [if_pos (.inl hm)]
  · rw [if_neg hm]
    by_cases hk : x.kind = 10
    · rw [if_pos hk]; unfold withoutB; rw [if_pos (.inr (.inr hk))]
    · rw [if_neg hk]; exact hw
/-- Two right bodies make one that is right, or too much. -/
theorem join_z5 {g : GI} (hrl : (wrongL g).1 = 0) : ∀ (d : Nat) (k : Int) (m : MI) (a b : BI d), m ∈ g.msgs → bodyE g d k m.fields a = 0 → bodyE g d k m.fields b = 0 → Z5 (bodyE g d k m.fields (jnB g.msgs d m a b))
  | 0, _, _, a, _, _, _, _ => nomatch (a : Empty)
  | d + 1, k, m, a, b, hm, ha, hb => by
    obtain ⟨hk, ra, ua⟩ := bodyE_inv ha
    obtain ⟨_, rb, ub⟩ := bodyE_inv hb
    have pa : ∀ v ∈ BO.vals a, 0 < v.number := by
      rw [bodyE_succ] at ha
      split at ha
      · cases ha
      · split at ha
        · rename_i h1 h2; exact (valsE_inv h2).2.1
        · rename_i h1 h2; exact absurd ha h2
    have pb : ∀ v ∈ BO.vals b, 0 < v.number := by
      rw [bodyE_succ] at hb
      split at hb
      · cases hb
      · split at hb
        · rename_i h1 h2; exact (valsE_inv h2).2.1
        · rename_i h1 h2; exact absurd hb h2
    have hrise : (BO.vals (jnB g.msgs (d + 1) m a b)).Pairwise fun a b => a.number < b.number := fold_rise (BO.vals b) _ ra.rise
    have hall : ∀ w ∈ BO.vals (jnB g.msgs (d + 1) m a b), (∃ x, AlV m.fields (fun name s => bodyE g d (k + 1) (fieldsOf g name) s) x w) ∧ 0 < w.number := fun w hw => by
      have hf := find_rise hrise hw
      rw [look_join (g := g) (a := a) rb w.number] at hf
      unfold lookN at hf
      cases hB : (BO.vals b).find? (isV w.number) with
      | none =>
        rw [hB] at hf
        simp only at hf
        split at hf
        · cases hf
        · obtain ⟨x, hx, _⟩ := rt_at ra hf
          exact ⟨⟨x, hx.al⟩, pa w (List.mem_of_find?_eq_some hf)⟩
      | some v =>
        obtain ⟨x, hxv, hx⟩ := rt_at rb hB
        have hwp : 0 < w.number := by rw [← num_of hB]; exact pb v (List.mem_of_find?_eq_some hB)
        rw [hB, hx] at hf
        cases hA : (BO.vals a).find? (isV w.number) with
        | none =>
          rw [hA] at hf
          obtain rfl : v = w := Option.some.inj hf
          exact ⟨⟨x, hxv.al⟩, hwp⟩
        | some t =>
          obtain ⟨xt, hxt, hxt'⟩ := rt_at ra hA
          obtain rfl : xt = x := by rw [hx] at hxt'; exact (Option.some.inj hxt').symm
          rw [hA] at hf
          obtain rfl : metN (jnB g.msgs d) g.msgs xt t v = w := Option.some.inj hf
          have hsh : xt.many = false → xt.kind = 10 → ∃ M s1 s2, g.msgs.find? (isN xt.type) = some M ∧ t.subs = [s1] ∧ v.subs = [s2] := fun h1 h2 => by
            obtain ⟨M, hM⟩ := right_subs hrl m hm xt (List.mem_of_find?_eq_some hx) h2
            obtain ⟨s1, e1⟩ := one_sub hxt.others hxt.misc h1 h2
            obtain ⟨s2, e2⟩ := one_sub hxv.others hxv.misc h1 h2
            exact ⟨M, s1, s2, hM, e1, e2⟩
          refine ⟨⟨xt, by rw [met_num (by rw [num_of hA, ← num_of hB])]; exact hxv.fld, others_met hxt.others hxv.others hsh, without_met hxv.without, ?_, ?_, ?_⟩, hwp⟩
          all_goals
            cases hmm : xt.many with
            | true =>
              have e : metN (jnB g.msgs d) g.msgs xt t v = ⟨t.number, t.bits ++ v.bits, t.bytes ++ v.bytes, t.subs ++ v.subs⟩ := by unfold metN; rw [hmm, if_pos rfl]
              rw [e]
              intro n hn
              rcases List.mem_append.1 hn with hn | hn
              · first | exact hxt.bits n hn | exact hxt.bytes n hn | exact .inl (hxt.subs n hn)
              · first | exact hxv.bits n hn | exact hxv.bytes n hn | exact .inl (hxv.subs n hn)
            | false =>
              by_cases hkk : xt.kind = 10
              · obtain ⟨M, s1, s2, h0, e1, e2⟩ := hsh hmm hkk
                have e : metN (jnB g.msgs d) g.msgs xt t v = ⟨t.number, t.bits, t.bytes, [jnB g.msgs d M s1 s2]⟩ := by
                  unfold metN
                  rw [hmm, if_neg (by simp), if_pos hkk, h0, e1, e2]
                rw [e]
                intro n hn
                first
                  | exact hxt.bits n hn
                  | exact hxt.bytes n hn
                  | (obtain rfl := List.mem_singleton.1 hn
                     have z1 := hxt.subs s1 (by rw [e1]; exact List.mem_singleton.2 rfl)
                     have z2 := hxv.subs s2 (by rw [e2]; exact List.mem_singleton.2 rfl)
                     rw [fields_of h0] at z1 z2 ⊢
                     exact join_z5 hrl d (k + 1) M s1 s2 (List.mem_of_find?_eq_some h0) z1 z2)
              · have e : metN (jnB g.msgs d) g.msgs xt t v = v := by unfold metN; rw [hmm, if_neg (by simp), if_neg hkk]
                rw [e]
                intro n hn
                first | exact hxv.bits n hn | exact hxv.bytes n hn | exact .inl (hxv.subs n hn)
    have hz := vals_z (s := (0, [])) (fun v hv => (hall v hv).1) hrise (fun v hv => (hall v hv).2) (fun v hv _ => by simp) (fold_apart (BO.vals b) _ (apart_of ra.apart))
    rw [bodyE_succ, if_neg (by omega)]
    split
    · refine .inl (firstE_0 fun r hr => ?_)
      have hr' : r ∈ BO.unk a ++ BO.unk b := hr
      rcases List.mem_append.1 hr' with h | h
      · exact ua r h
      · exact ub r h
    · exact hz
/-- Nothing. -/
def nilB (d : Nat) : BI (d + 1) := (⟨[], []⟩ : BO (BI d))
/-- A body and nothing; nothing and a body. -/
theorem join_none {g : GI} {d : Nat} {m : MI} {a : BI (d + 1)} : jnB g.msgs (d + 1) m a (nilB d) = a := by
  show (⟨BO.vals a, BO.unk a ++ []⟩ : BO (BI d)) = a
  rw [List.append_nil]
  rfl
theorem none_join {g : GI} {d : Nat} {k : Int} {m : MI} {a : BI (d + 1)} (ha : bodyE g (d + 1) k m.fields a = 0) : jnB g.msgs (d + 1) m (nilB d) a = a := by
  obtain ⟨_, ra, _⟩ := bodyE_inv ha
  have hv : (BO.vals a).foldl (jstep (jnB g.msgs d) g.msgs m.fields) [] = BO.vals a := by
    refine rise_ext (fold_rise _ _ .nil) ra.rise fun n => ?_
    rw [look_fold n (BO.vals a) [] ra]
    unfold lookN
    cases hA : (BO.vals a).find? (isV n) with
    | some v => rfl
    | none => simp
  show (⟨(BO.vals a).foldl (jstep (jnB g.msgs d) g.msgs m.fields) [], [] ++ BO.unk a⟩ : BO (BI d)) = a
  rw [hv, List.nil_append]
  rfl

end L
end Go.Proofs.YtelmjekjohbmjaaGreatDoor

/- The document's own answer: Mixed. -/
namespace Go.Proofs.YtelmjekjohbmjaaGreatDoor
namespace L
open Go.RowKit
set_option linter.unusedVariables false

def mixF (x : FI) : Bool := decide (x.kind = 10) && decide (0 < x.choice)
def mixM (m : MI) : Bool := m.fields.any mixF
def mixB (g : GI) : Bool := g.msgs.any mixM
theorem any_drop {α : Type} {p : α → Bool} {l : List α} {k : Nat} {a : α} (h : l[k]? = some a) : (l.drop k).any p = (p a || (l.drop (k + 1)).any p) := by
  obtain ⟨hk, e⟩ := List.getElem?_eq_some_iff.1 h
  rw [List.drop_eq_getElem_cons hk, e, List.any_cons]
set_option maxHeartbeats 2000000 in
set_option maxRecDepth 100000 in
theorem mixed_any {w : World} {vm ve : Value} {g : GI} (hg : GRd w vm ve g) : Calls Tryz.prog 22 #[.agg #[vm, ve]] w fun e w' => e = .returned (.bool (mixB g)) ∧ Below w.heap.size w w' := by
  obtain ⟨am, nm, cm, rfl, Hnm, _⟩ := hg.1.shape
  obtain ⟨ae, ne, ce, rfl, _, _⟩ := hg.2.shape
  obtain ⟨R, HR⟩ : ∃ R, Hid (R = mixB g) := ⟨_, rfl⟩
  rw [← HR.out]
  obtain ⟨W1, HW1⟩ : ∃ W1, Hid (W1 = w.alloc (.cells #[.slice am nm cm, .slice ae ne ce] 25)) := ⟨_, rfl⟩
  have hb1 : Below w.heap.size w W1 := by rw [HW1.out]; exact (Below.refl _ _).alloc (Nat.le_refl _) _
  have HG : Hid _ := hg.1
  clear hg
  go_enter Tryz.func22, Tryz.ntmps22
  go_wp2_with fail
  rw [← HW1.out]
  go_loopg [10] nm (fun gm i wr => ∃ k : Nat, k + gm = nm ∧ i = .int .i64 k ∧ Hid (R = (g.msgs.drop k).any mixM) ∧ Below w.heap.size w wr)
  case atStart => exact ⟨0, by omega, rfl, HR, hb1⟩
  case round =>
    obtain ⟨k, hk, rfl, HK, hb⟩ := hrel
    by_cases hlt : k < nm
    · obtain ⟨m, Hm⟩ : ∃ m, Hid (g.msgs[k]? = some m) := ⟨g.msgs[k]'(by rw [← Hnm.out]; exact hlt), List.getElem?_eq_getElem _⟩
      have hki : (k : Int) < (nm : Int) := by omega
      obtain ⟨bm, om, rfl, hmat⟩ := (RdL.below MAt.stays HG.out hb).get MAt.plain Hm.out
      obtain ⟨vf, vb, hn0, hn1, hn2, hfs, hbs⟩ := hmat
      rw [add_plain] at hn1 hn2
      obtain ⟨af, nf, cf, rfl, Hnf, _⟩ := hfs.shape
      obtain ⟨ab, nb, cb, rfl, _, _⟩ := hbs.shape
      obtain ⟨W2, HW2⟩ : ∃ W2, Hid (W2 = wr.alloc (.cells #[.string (S m.name), .slice af nf cf, .slice ab nb cb] 48)) := ⟨_, rfl⟩
      have hb2 : Below wr.heap.size wr W2 := by rw [HW2.out]; exact (Below.refl _ _).alloc (Nat.le_refl _) _
      have hbw2 : Below w.heap.size w W2 := hb.trans (hb2.mono hb.size)
      have HFS : Hid (RdL 6 FAt W2 (.slice af nf cf) m.fields) := hfs.below FAt.stays hb2
      have HK2 : Hid (R = (mixM m || (g.msgs.drop (k + 1)).any mixM)) := by
        show _ = _
        rw [HK.out, any_drop Hm.out]
      clear hfs hbs
      obtain ⟨wo, Hwo⟩ : ∃ wo, wo = wr := ⟨_, rfl⟩
      subst Hwo
      go_wp2_with fail
      rw [← HW2.out]
      go_loopg [17] nf (fun gm i wr => ∃ j : Nat, j + gm = nf ∧ i = .int .i64 j ∧ Hid (mixM m = (m.fields.drop j).any mixF) ∧ Below W2.heap.size W2 wr)
      case atStart => exact ⟨0, by omega, rfl, rfl, Below.refl _ _⟩
      case round =>
        obtain ⟨j, hj, rfl, HJ, hbj⟩ := hrel
        by_cases hlj : j < nf
        · obtain ⟨x, Hx⟩ : ∃ x, Hid (m.fields[j]? = some x) := ⟨m.fields[j]'(by rw [← Hnf.out]; exact hlj), List.getElem?_eq_getElem _⟩
          have hji : (j : Int) < (nf : Int) := by omega
          obtain ⟨bf, of, rfl, hfat⟩ := (RdL.below FAt.stays HFS.out hbj).get FAt.plain Hx.out
          obtain ⟨y0, y1, y2, y3, y4, y5⟩ := hfat
          rw [add_plain] at y1 y2 y3 y4 y5
          have HJ2 : Hid (mixM m = (mixF x || (m.fields.drop (j + 1)).any mixF)) := by
            show _ = _
            rw [HJ.out, any_drop Hx.out]
          have hb3 : Below wr.heap.size wr (wr.alloc (.cells #[.string (S x.name), .int .i64 x.number, .int .i64 x.kind, .string (S x.type), .bool x.many, .int .i64 x.choice] 53)) := (Below.refl _ _).alloc (Nat.le_refl _) _
          have hbf := BTr hbj hb3
          by_cases hk10 : x.kind = 10
          · have e1 : (x.kind == 10) = true := beq_iff_eq.2 hk10
            by_cases hc : 0 < x.choice
            · have e2 : decide (0 < x.choice) = true := decide_eq_true hc
              have HX : Hid (R = true) := by
                show _ = _
                rw [HK2.out, HJ2.out]
                unfold mixF
                rw [decide_eq_true hk10, e2]
                rfl
              clear hk10 hc
              go_wp2
              go_ret
              exact ⟨by rw [HX.out]; rfl, BTr hbw2 hbf⟩
            · have e2 : decide (0 < x.choice) = false := decide_eq_false hc
              have HX : Hid (mixM m = (m.fields.drop (j + 1)).any mixF) := by
                show _ = _
                rw [HJ2.out]
                unfold mixF
                rw [e2, Bool.and_false, Bool.false_or]
              clear hk10 hc
              go_wp2_with fail
              go_roundg (nf - (j + 1))
              case measure => omega
              case rel => exact ⟨j + 1, by omega, by go_num, HX, hbf⟩
          · have e1 : (x.kind == 10) = false := beq_eq_false_iff_ne.2 hk10
            have HX : Hid (mixM m = (m.fields.drop (j + 1)).any mixF) := by
              show _ = _
              rw [HJ2.out]
              unfold mixF
              rw [decide_eq_false hk10, Bool.false_and, Bool.false_or]
            clear hk10
            go_wp2_with fail
            go_roundg (nf - (j + 1))
            case measure => omega
            case rel => exact ⟨j + 1, by omega, by go_num, HX, hbf⟩
        · have HX : Hid (R = (g.msgs.drop (k + 1)).any mixM) := by
            show _ = _
            rw [HK2.out, HJ.out, List.drop_eq_nil_of_le (by rw [← Hnf.out]; omega)]
            rfl
          go_wp2_with fail
          go_roundg (nm - (k + 1))
          case measure => omega
          case rel => exact ⟨k + 1, by omega, by go_num, HX, BTr hbw2 hbj⟩
    · have HX : Hid (R = false) := by
        show _ = _
        rw [HK.out, List.drop_eq_nil_of_le (by rw [← Hnm.out]; omega)]
        rfl
      go_wp2
      go_ret
      exact ⟨by rw [HX.out]; rfl, hb⟩

end L
end Go.Proofs.YtelmjekjohbmjaaGreatDoor

/- Bytes as a string. -/
namespace Go.Proofs.YtelmjekjohbmjaaGreatDoor
namespace L
open Go.RowKit

theorem bytes_str {w : World} {ao : Option Addr} {len cap : Nat} {l : List UInt8} (h : RdL 1 YAt w (.slice ao len cap) l) : (convert 68 9 (.slice ao len cap)).run Tryz.prog w = .ok (.string ⟨l.toArray⟩) w := by
  obtain ⟨ao', n', cap', e, h1, h2, h3, h4, h5⟩ := h
  cases e
  cases ao with
  | none =>
    have hc0 := (h4 rfl).1
    have hm : l = [] := List.eq_nil_of_length_eq_zero (by omega)
    subst hm
    rw [run_convert_bytes_nil w 68 5 Tryz.underlying68 Tryz.underlying5 len cap 9 Tryz.underlying9]
    rfl
  | some x =>
    have hl : (loadCells x len).run Tryz.prog w = .ok ((l.map fun c => ((c.toNat : Nat) : Int)).map (Value.int .u8)).toArray w := by
      have := run_loadCells_list (P := Tryz.prog) w x ((l.map fun c => ((c.toNat : Nat) : Int)).map (Value.int .u8)) (fun j v hj => by
        rw [List.getElem?_map, List.getElem?_map] at hj
        cases hc : l[j]? with
        | none => rw [hc] at hj; cases hj
        | some c =>
          rw [hc] at hj
          have := h5 x rfl j c hc
          rw [Nat.mul_one] at this
          rw [show w.cell? (x.add j) = _ from this]
          exact hj)
      simpa [h1] using this
    rw [run_convert_bytes_string w 68 9 5 _ len cap Tryz.underlying68 Tryz.underlying5 Tryz.underlying9, run_bytesToString w _ len cap _ hl, foldl_push_bytes]
    have e : ∀ l : List UInt8, (l.map fun c => ((c.toNat : Nat) : Int)).map (fun n : Int => UInt8.ofNat n.toNat) = l := by
      intro l
      rw [List.map_map]
      conv => rhs; rw [← List.map_id l]
      apply List.map_congr_left
      intro c _
      simp
    rw [e]
    simp [ByteArray.empty, ByteArray.emptyWithCapacity]
    rfl

end L
end Go.Proofs.YtelmjekjohbmjaaGreatDoor

/- The statement's own answer: SameRecords of the same records is true; bytes as a string. -/
namespace Go.Proofs.YtelmjekjohbmjaaGreatDoor
namespace L
open Go.RowKit

theorem below_drewM (B : Nat) (w : World) {n : Nat} : Below B w (w.drewN n) := ⟨rfl, rfl, rfl, Nat.le_refl _, fun _ _ => rfl⟩

theorem bytes_drewN {w : World} {v : Value} {l : List UInt8} (h : RdL 1 YAt w v l) (n : Nat) : RdL 1 YAt (w.drewN n) v l := h

set_option maxHeartbeats 2000000 in
set_option maxRecDepth 100000 in
theorem recs_same {va vb : Value} {rs : List RI} {w : World} (ha : RdL 4 RAt w va rs) (hb : RdL 4 RAt w vb rs) :
    Calls Tryz.prog 28 #[va, vb] w fun e w' => e = .returned (.bool true) ∧ Below w.heap.size w w' := by
  obtain ⟨ao, n, ca, rfl, Ha, hlm⟩ := ha.shape
  obtain ⟨bo, n', cb, rfl, Hb, _⟩ := hb.shape
  obtain rfl : n = n' := by rw [Ha.out, Hb.out]
  go_enter Tryz.func28, Tryz.ntmps28
  go_wp2_with fail
  go_loopg [13] n (fun m i wr => ∃ (k d : Nat), k + m = n ∧ i = .int .i64 (k : Int) ∧ wr = w.drewN d)
  case atStart => exact ⟨0, 0, by omega, rfl, rfl⟩
  case round =>
    obtain ⟨k, d, hk, rfl, rfl⟩ := hrel
    by_cases hlt : k < n
    · obtain ⟨r, Hr⟩ : ∃ r, Hid (rs[k]? = some r) := ⟨rs[k]'(by rw [← Ha.out]; exact hlt), List.getElem?_eq_getElem (by rw [← Ha.out]; exact hlt)⟩
      obtain ⟨b, off, rfl, hat⟩ := ha.get RAt.plain Hr.out
      obtain ⟨b', off', rfl, hat'⟩ := hb.get RAt.plain Hr.out
      obtain ⟨v1, c0, c1, c2, c3, hrd⟩ := hat.at
      obtain ⟨v2, d0, d1, d2, d3, hrd'⟩ := hat'.at
      obtain ⟨ao1, len1, cap1, rfl, _, _⟩ := hrd.shape
      obtain ⟨ao2, len2, cap2, rfl, _, _⟩ := hrd'.shape
      have s1 : ∀ n, (convert 68 9 (.slice ao1 len1 cap1)).run Tryz.prog (w.drewN n) = .ok (.string ⟨r.bytes.toArray⟩) (w.drewN n) := fun n => bytes_str (bytes_drewN hrd n)
      have s2 : ∀ n, (convert 68 9 (.slice ao2 len2 cap2)).run Tryz.prog (w.drewN n) = .ok (.string ⟨r.bytes.toArray⟩) (w.drewN n) := fun n => bytes_str (bytes_drewN hrd' n)
      have hlt' : (k : Int) < (n : Int) := by omega
      clear hrd hrd' ha hb hat hat'
      go_wp2_with fail
      go_quiet (fail)
      go_wp2_with fail
      go_roundg (n - (k + 1))
      case measure => omega
      case rel => exact ⟨k + 1, _, by omega, by go_num, rfl⟩
    · go_wp2
      go_ret
      exact ⟨rfl, below_drewM _ _⟩

end L
end Go.Proofs.YtelmjekjohbmjaaGreatDoor

