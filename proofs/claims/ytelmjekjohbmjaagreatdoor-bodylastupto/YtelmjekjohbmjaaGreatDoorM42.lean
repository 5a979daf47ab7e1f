import Derived.Test.YtelmjekjohbmjaaGreatDoorM41
/- The last one counts: plain. -/
namespace Go.Proofs.YtelmjekjohbmjaaGreatDoor
namespace L
open Go.RowKit
set_option linter.unusedVariables false

theorem addL_in {α : Type} [DecidableEq α] (x : α) (l : List α) : x ∈ addL x l ∧ ∀ y ∈ l, y ∈ addL x l := by
  unfold addL
  split
  · rename_i h; exact ⟨h, fun _ hy => hy⟩
  · exact ⟨by simp, fun y hy => by simp [hy]⟩
theorem passed_num {g : GI} {bar : List Int} : ∀ (l : List FI) (i : Nat) (s : Mem), (firstGo (stepF g bar) errsF i l s).1 = 0 → (l.Pairwise fun a b => a.number ≠ b.number) ∧ ∀ x ∈ l, x.number ∉ s.nums ∧ (x.many = true → x.choice ≤ 0)
  | [], _, _, _ => ⟨.nil, fun _ h => by simp at h⟩
  | x :: l, i, s, h => by
    obtain ⟨h1, h2⟩ := first_cons h
    obtain ⟨g1, g2⟩ := passed_num l _ _ h2
    simp only [passB, Bool.and_eq_true, Bool.not_eq_true', Bool.or_eq_false_iff, decide_eq_false_iff_not] at h1
    have hn : x.number ∉ s.nums := h1.2.2.1.2
    have hm : x.many = true → x.choice ≤ 0 := fun hm => by
      have h3 := h1.2.2.2.2.2.1.2
      rw [hm, Bool.and_true, decide_eq_false_iff_not] at h3
      omega
    obtain ⟨a1, a2⟩ := addL_in x.number s.nums
    refine ⟨.cons (fun a ha e => (g2 a ha).1 (by rw [← e]; exact a1)) g1, fun a ha => ?_⟩
    rcases List.mem_cons.1 ha with rfl | ha
    · exact ⟨hn, hm⟩
    · exact ⟨fun hh => (g2 a ha).1 (a2 _ hh), (g2 a ha).2⟩
theorem find_self : ∀ {l : List FI}, (l.Pairwise fun a b => a.number ≠ b.number) → ∀ x ∈ l, l.find? (isF x.number) = some x
  | y :: l, h, x, hx => by
    rcases List.mem_cons.1 hx with rfl | hx
    · exact List.find?_cons_of_pos (by simp [isF])
    · have := (List.pairwise_cons.1 h).1 x hx
      rw [List.find?_cons_of_neg (by simp [isF]; exact this)]
      exact find_self (List.pairwise_cons.1 h).2 x hx
/-- A right message's fields. -/
structure RtM (fs : List FI) : Prop where
  self : ∀ x ∈ fs, fs.find? (isF x.number) = some x
  many : ∀ x ∈ fs, x.many = true → x.choice ≤ 0
theorem right_m {g : GI} (h : (wrongL g).1 = 0) {m : MI} (hm : m ∈ g.msgs) : RtM m.fields := by
  obtain ⟨h1, h2⟩ := passed_num _ _ _ (rightM ((right_inv h).2.2 m hm)).2.2.2
  exact ⟨find_self h1, fun x hx => (h2 x hx).2⟩

def zeroV {β : Type} : VI β := ⟨0, [], [], []⟩
section
variable {β : Type} {J : MI → β → β → β} {ms : List MI} {fs : List FI} {a b : List (VI β)} {x : FI}
theorem last_many (hr : RtM fs) (hx : x ∈ fs) (hm : x.many = true) : manyN ((lookN J ms fs x.number a b).getD zeroV) = manyN ((a.find? (isV x.number)).getD zeroV) + manyN ((b.find? (isV x.number)).getD zeroV) := by
  have hc := choiceF_of (hr.self x hx)
  have hc0 := hr.many x hx hm
  unfold lookN
  rw [hr.self x hx]
  cases hb : b.find? (isV x.number) with
  | some v =>
    cases ha : a.find? (isV x.number) with
    | some u =>
      show manyN (metN J ms x u v) = _
      unfold metN
      rw [if_pos hm]
      simp only [manyN, List.length_append, Option.getD_some]
      omega
    | none => simp [orN, manyN, zeroV]
  | none =>
    have e : (b.any fun v => ouB fs v.number x.number) = false := List.any_eq_false.2 fun v hv => by
      unfold ouB
      rw [hc]
      simp only [decide_eq_true_eq, not_and]
      intro h1 h2
      omega
    simp only [e, Bool.false_eq_true, if_false]
    simp [manyN, zeroV]
theorem last_has (hr : RtM fs) (hx : x ∈ fs) (hm : x.many = false) {v : VI β} (hb : b.find? (isV x.number) = some v) (hk : a.find? (isV x.number) = none ∨ x.kind ≠ 10) : lookN J ms fs x.number a b = some v := by
  unfold lookN
  rw [hr.self x hx, hb]
  cases ha : a.find? (isV x.number) with
  | none => rfl
  | some u =>
    show some (metN J ms x u v) = _
    unfold metN
    rcases hk with hk | hk
    · rw [ha] at hk; cases hk
    · rw [hm, if_neg (by simp), if_neg hk]
/-- One of x's choice came. -/
def goneB (fs : List FI) (b : List (VI β)) (x : FI) : Bool := fs.any fun y => (b.find? (isV y.number)).isSome && (decide (0 < x.choice) && decide (y.choice = x.choice))
theorem last_had {f : List UInt8 → β → Int} (hr : RtM fs) (hx : x ∈ fs) (hB : RtL fs f b) (hb : b.find? (isV x.number) = none) : lookN J ms fs x.number a b = if goneB fs b x then none else a.find? (isV x.number) := by
  have hc := choiceF_of (hr.self x hx)
  have e : (b.any fun v => ouB fs v.number x.number) = goneB fs b x := by
    rw [Bool.eq_iff_iff, List.any_eq_true]
    unfold goneB
    rw [List.any_eq_true]
    constructor
    · rintro ⟨v, hv, ho⟩
      obtain ⟨y, hy⟩ := hB.each v hv
      have hyn := find_num hy.fld
      have hyc := choiceF_of hy.fld
      unfold ouB at ho
      rw [hc, hyc] at ho
      simp only [decide_eq_true_eq] at ho
      refine ⟨y, List.mem_of_find?_eq_some hy.fld, ?_⟩
      have hs : (b.find? (isV y.number)).isSome = true := by
        rw [List.find?_isSome]
        exact ⟨v, hv, by simp [isV, hyn]⟩
      rw [hs, decide_eq_true (by omega : 0 < x.choice), decide_eq_true ho.2.symm]
      rfl
    · rintro ⟨y, hy, ho⟩
      simp only [Bool.and_eq_true, decide_eq_true_eq] at ho
      obtain ⟨v, hv⟩ := Option.isSome_iff_exists.1 ho.1
      have hvn : v.number = y.number := by have := List.find?_some hv; simpa [isV] using this
      refine ⟨v, List.mem_of_find?_eq_some hv, ?_⟩
      unfold ouB
      rw [hc, hvn, choiceF_of (hr.self y hy)]
      exact decide_eq_true ⟨by omega, by omega⟩
  unfold lookN
  rw [hb]
  show (if (b.any fun v => ouB fs v.number x.number) = true then none else a.find? (isV x.number)) = _
  rw [e]
end

end L
end Go.Proofs.YtelmjekjohbmjaaGreatDoor

/- However put together: plain. -/
namespace Go.Proofs.YtelmjekjohbmjaaGreatDoor
namespace L
open Go.RowKit
set_option linter.unusedVariables false

/-- Rising lists in which the same is found are the same. -/
theorem rise_ext {β : Type} : ∀ {l m : List (VI β)}, (l.Pairwise fun a b => a.number < b.number) → (m.Pairwise fun a b => a.number < b.number) → (∀ n, l.find? (isV n) = m.find? (isV n)) → l = m
  | [], [], _, _, _ => rfl
  | [], b :: m, _, _, h => by
    have := h b.number
    rw [List.find?_cons_of_pos (by simp [isV])] at this
    cases this
  | a :: l, [], _, _, h => by
    have := h a.number
    rw [List.find?_cons_of_pos (by simp [isV])] at this
    cases this
  | a :: l, b :: m, hl, hm, h => by
    have ha := h a.number
    have hb := h b.number
    rw [List.find?_cons_of_pos (by simp [isV])] at ha
    rw [List.find?_cons_of_pos (l := m) (by simp [isV])] at hb
    have ma := List.mem_of_find?_eq_some ha.symm
    have mb := List.mem_of_find?_eq_some hb
    have hl1 := (List.pairwise_cons.1 hl).1
    have hm1 := (List.pairwise_cons.1 hm).1
    have hab : a = b := by
      rcases List.mem_cons.1 ma with e | ma'
      · exact e
      · rcases List.mem_cons.1 mb with e | mb'
        · exact e.symm
        · have h1 := hm1 a ma'
          have h2 := hl1 b mb'
          omega
    subst hab
    congr 1
    refine rise_ext (List.pairwise_cons.1 hl).2 (List.pairwise_cons.1 hm).2 fun n => ?_
    by_cases hn : a.number = n
    · have e1 : l.find? (isV n) = none := List.find?_eq_none.2 fun c hc => by
        have := hl1 c hc
        simp [isV]
        omega
      have e2 : m.find? (isV n) = none := List.find?_eq_none.2 fun c hc => by
        have := hm1 c hc
        simp [isV]
        omega
      rw [e1, e2]
    · have := h n
      rwa [List.find?_cons_of_neg (by simp [isV, hn]), List.find?_cons_of_neg (by simp [isV, hn])] at this

section
variable {β : Type}
/-- The values that come in are put in their place. -/
theorem place_rise {y : VI β} : ∀ {l : List (VI β)}, (l.Pairwise fun a b => a.number < b.number) → (∀ a ∈ l, a.number ≠ y.number) → ((l.take (placeI y.number l) ++ [y] ++ l.drop (placeI y.number l)).Pairwise fun a b => a.number < b.number)
  | [], _, _ => by simp [placeI]
  | a :: l, h, hn => by
    have h1 := (List.pairwise_cons.1 h).1
    have h2 := (List.pairwise_cons.1 h).2
    have ha := hn a (List.mem_cons_self ..)
    by_cases hlt : y.number < a.number
    · have e : placeI y.number (a :: l) = 0 := by
        unfold placeI
        rw [List.findIdx?_cons, if_pos (by simpa using hlt)]
        rfl
      rw [e]
      simp only [List.take_zero, List.nil_append, List.drop_zero, List.singleton_append]
      refine .cons (fun b hb => ?_) h
      rcases List.mem_cons.1 hb with rfl | hb
      · exact hlt
      · have := h1 b hb; omega
    · have e : placeI y.number (a :: l) = placeI y.number l + 1 := by
        unfold placeI
        rw [List.findIdx?_cons, if_neg (by simpa using hlt)]
        cases l.findIdx? fun v => decide (y.number < v.number) with
        | none => rfl
        | some k => rfl
      rw [e]
      simp only [List.take_succ_cons, List.drop_succ_cons, List.cons_append]
      refine .cons (fun b hb => ?_) (place_rise h2 fun b hb => hn b (List.mem_cons_of_mem _ hb))
      rcases List.mem_append.1 hb with hb | hb
      · rcases List.mem_append.1 hb with hb | hb
        · exact h1 b (List.mem_of_mem_take hb)
        · rw [List.mem_singleton.1 hb]; omega
      · exact h1 b (List.mem_of_mem_drop hb)
theorem put_rise {fs : List FI} {x : FI} {l : List (VI β)} {y : VI β} (hx : fs.find? (isF y.number) = some x) (h : l.Pairwise fun a b => a.number < b.number) : (putN fs x l y).Pairwise fun a b => a.number < b.number := by
  have hf := h.filter (fun a => !oustB fs x a.number)
  unfold putN
  split
  · exact hf
  · refine place_rise hf fun a ha e => ?_
    have := (List.mem_filter.1 ha).2
    rw [e, oust_self hx] at this
    cases this
theorem step_rise {J : MI → β → β → β} {ms : List MI} {fs : List FI} {l : List (VI β)} {v : VI β} (h : l.Pairwise fun a b => a.number < b.number) : (jstep J ms fs l v).Pairwise fun a b => a.number < b.number := by
  unfold jstep
  split
  · exact h
  · rename_i x hx
    split
    · exact put_rise hx h
    · rename_i u hu
      have hun : u.number = v.number := by have := List.find?_some hu; simpa [isV] using this
      exact put_rise (by rw [met_num hun]; exact hx) h
theorem fold_rise {J : MI → β → β → β} {ms : List MI} {fs : List FI} : ∀ (m l : List (VI β)), (l.Pairwise fun a b => a.number < b.number) → ((m.foldl (jstep J ms fs) l).Pairwise fun a b => a.number < b.number)
  | [], _, h => h
  | v :: m, _, h => fold_rise m _ (step_rise h)
theorem find_rise {l : List (VI β)} (h : l.Pairwise fun a b => a.number < b.number) {a : VI β} (ha : a ∈ l) : l.find? (isV a.number) = some a := by
  induction l with
  | nil => cases ha
  | cons b l ih =>
    rcases List.mem_cons.1 ha with rfl | ha'
    · exact List.find?_cons_of_pos (by simp [isV])
    · have := (List.pairwise_cons.1 h).1 a ha'
      rw [List.find?_cons_of_neg (by simp [isV]; omega)]
      exact ih (List.pairwise_cons.1 h).2 ha'
/-- What is there twice of a choice. -/
def Apart (fs : List FI) (l : List (VI β)) : Prop := ∀ a ∈ l, ∀ b ∈ l, a.number ≠ b.number → 0 < choiceF fs a.number → choiceF fs a.number ≠ choiceF fs b.number
theorem apart_of {fs : List FI} {l : List (VI β)} (h : l.Pairwise fun a b => choiceF fs a.number ≤ 0 ∨ choiceF fs a.number ≠ choiceF fs b.number) : Apart fs l := by
  induction l with
  | nil => intro a ha; cases ha
  | cons c l ih =>
    have h1 := (List.pairwise_cons.1 h).1
    have h2 := ih (List.pairwise_cons.1 h).2
    intro a ha b hb hne hp e
    rcases List.mem_cons.1 ha with ea | ha'
    · rcases List.mem_cons.1 hb with eb | hb'
      · exact hne (by rw [ea, eb])
      · subst ea
        rcases h1 b hb' with h | h
        · omega
        · exact h e
    · rcases List.mem_cons.1 hb with eb | hb'
      · subst eb
        rcases h1 a ha' with h | h
        · omega
        · exact h e.symm
      · exact h2 a ha' b hb' hne hp e
theorem step_apart {J : MI → β → β → β} {ms : List MI} {fs : List FI} {l : List (VI β)} {v : VI β} (h : Apart fs l) : Apart fs (jstep J ms fs l v) := by
  have key : ∀ {x : FI} {y : VI β}, fs.find? (isF y.number) = some x → Apart fs (putN fs x l y) := by
    intro x y hx a ha b hb hne hp
    have hmem : ∀ c ∈ putN fs x l y, c = y ∨ (c ∈ l ∧ oustB fs x c.number = false) := fun c hc => by
      unfold putN at hc
      split at hc
      · exact .inr ⟨(List.mem_filter.1 hc).1, by simpa using (List.mem_filter.1 hc).2⟩
      · rcases List.mem_append.1 hc with hc | hc
        · rcases List.mem_append.1 hc with hc | hc
          · have := List.mem_filter.1 (List.mem_of_mem_take hc)
            exact .inr ⟨this.1, by simpa using this.2⟩
          · exact .inl (List.mem_singleton.1 hc)
        · have := List.mem_filter.1 (List.mem_of_mem_drop hc)
          exact .inr ⟨this.1, by simpa using this.2⟩
    rcases hmem a ha with rfl | ⟨ha, hoa⟩
    · rcases hmem b hb with rfl | ⟨hb, hob⟩
      · exact absurd rfl hne
      · rw [oust_ne hx (fun e => hne e.symm)] at hob
        intro e
        unfold ouB at hob
        exact (of_decide_eq_false hob) ⟨hp, e.symm⟩
    · rcases hmem b hb with rfl | ⟨hb, hob⟩
      · rw [oust_ne hx hne] at hoa
        intro e
        unfold ouB at hoa
        exact (of_decide_eq_false hoa) ⟨by omega, e⟩
      · exact h a ha b hb hne hp
  unfold jstep
  split
  · exact h
  · rename_i x hx
    split
    · exact key hx
    · rename_i u hu
      have hun : u.number = v.number := by have := List.find?_some hu; simpa [isV] using this
      exact key (by rw [met_num hun]; exact hx)
theorem fold_apart {J : MI → β → β → β} {ms : List MI} {fs : List FI} : ∀ (m l : List (VI β)), Apart fs l → Apart fs (m.foldl (jstep J ms fs) l)
  | [], _, h => h
  | v :: m, _, h => fold_apart m _ (step_apart h)
end

end L
end Go.Proofs.YtelmjekjohbmjaaGreatDoor

/- However put together: it is no matter which two are put together first: plain. -/
namespace Go.Proofs.YtelmjekjohbmjaaGreatDoor
namespace L
open Go.RowKit
set_option linter.unusedVariables false

theorem num_of {β : Type} {l : List (VI β)} {n : Int} {v : VI β} (h : l.find? (isV n) = some v) : v.number = n := by have := List.find?_some h; simpa [isV] using this
theorem met_assoc {β : Type} {J : MI → β → β → β} {ms : List MI} {x : FI} {t u v : VI β} (h : x.many = false → x.kind = 10 → ∃ M s1 s2 s3, ms.find? (isN x.type) = some M ∧ t.subs = [s1] ∧ u.subs = [s2] ∧ v.subs = [s3] ∧ J M (J M s1 s2) s3 = J M s1 (J M s2 s3)) : metN J ms x (metN J ms x t u) v = metN J ms x t (metN J ms x u v) := by
  cases hm : x.many with
  | true => simp [metN, hm, List.append_assoc]
  | false =>
    by_cases hk : x.kind = 10
    · obtain ⟨M, s1, s2, s3, h0, h1, h2, h3, hJ⟩ := h hm hk
      have e1 : metN J ms x t u = ⟨t.number, t.bits, t.bytes, [J M s1 s2]⟩ := by
        unfold metN
        rw [hm, if_neg (by simp), if_pos hk, h0, h1, h2]
      have e2 : metN J ms x u v = ⟨u.number, u.bits, u.bytes, [J M s2 s3]⟩ := by
        unfold metN
        rw [hm, if_neg (by simp), if_pos hk, h0, h2, h3]
      rw [e1, e2]
      unfold metN
      rw [hm, if_neg (by simp), if_pos hk, h0, h1, h3]
      rw [if_neg (by simp), if_pos hk]
      simp only [hJ]
    · simp [metN, hm, hk]
/-- What a right body tells of one of its values. -/
theorem rt_at {β : Type} {fs : List FI} {f : List UInt8 → β → Int} {l : List (VI β)} (h : RtL fs f l) {n : Int} {v : VI β} (hv : l.find? (isV n) = some v) : ∃ x, RtV fs f x v ∧ fs.find? (isF n) = some x := by
  obtain ⟨x, hx⟩ := h.each v (List.mem_of_find?_eq_some hv)
  exact ⟨x, hx, by rw [← num_of hv]; exact hx.fld⟩
theorem any_ou {β : Type} {fs : List FI} {l : List (VI β)} {n : Int} : (l.any fun v => ouB fs v.number n) = true ↔ ∃ v ∈ l, 0 < choiceF fs v.number ∧ choiceF fs n = choiceF fs v.number := by
  rw [List.any_eq_true]
  simp [ouB]
section
variable {g : GI} {d : Nat}
theorem fields_of {x : FI} {M : MI} (h : g.msgs.find? (isN x.type) = some M) : fieldsOf g x.type = M.fields := by
  have h' : g.msgs.find? (fun m => decide (m.name = x.type)) = some M := h
  unfold fieldsOf
  rw [h']
end
/-- Of three right bodies. -/
theorem join_assoc {g : GI} (hrl : (wrongL g).1 = 0) (hmix : ∀ m ∈ g.msgs, ∀ x ∈ m.fields, x.kind = 10 → x.choice ≤ 0) : ∀ (d : Nat) (k : Int) (m : MI) (a b c : BI d), m ∈ g.msgs → bodyE g d k m.fields a = 0 → bodyE g d k m.fields b = 0 → bodyE g d k m.fields c = 0 → bodyE g d k m.fields (jnB g.msgs d m b c) = 0 → jnB g.msgs d m (jnB g.msgs d m a b) c = jnB g.msgs d m a (jnB g.msgs d m b c)
  | 0, _, _, a, _, _, _, _, _, _, _ => nomatch (a : Empty)
  | d + 1, k, m, a, b, c, hm, ha, hb, hc, hbc => by
    have hrm := right_m hrl hm
    obtain ⟨_, ra, _⟩ := bodyE_inv ha
    obtain ⟨_, rb, _⟩ := bodyE_inv hb
    obtain ⟨_, rc, _⟩ := bodyE_inv hc
    obtain ⟨_, ry, _⟩ := bodyE_inv hbc
    have hu : (BO.unk a ++ BO.unk b) ++ BO.unk c = BO.unk a ++ (BO.unk b ++ BO.unk c) := List.append_assoc ..
    have hv : BO.vals (jnB g.msgs (d + 1) m (jnB g.msgs (d + 1) m a b) c) = BO.vals (jnB g.msgs (d + 1) m a (jnB g.msgs (d + 1) m b c)) := by
      refine rise_ext (fold_rise (BO.vals c) _ (fold_rise (BO.vals b) _ ra.rise)) (fold_rise _ _ ra.rise) fun n => ?_
      rw [look_join (g := g) (a := jnB g.msgs (d + 1) m a b) rc n, look_join (g := g) (a := a) ry n]
      have hX := look_join (g := g) (a := a) rb n
      have hY := look_join (g := g) (a := b) rc n
      unfold lookN
      rw [hX, hY]
      unfold lookN
      cases hC : (BO.vals c).find? (isV n) with
      | some v =>
        obtain ⟨x, hxv, hx⟩ := rt_at rc hC
        have hxm : x ∈ m.fields := List.mem_of_find?_eq_some hx
        simp only [hx, Option.getD_some]
        cases hB : (BO.vals b).find? (isV n) with
        | some u =>
          obtain ⟨xu, hxu, hxu'⟩ := rt_at rb hB
          obtain rfl : xu = x := by rw [hx] at hxu'; exact (Option.some.inj hxu').symm
          cases hA : (BO.vals a).find? (isV n) with
          | none => rfl
          | some t =>
            obtain ⟨xt, hxt, hxt'⟩ := rt_at ra hA
            obtain rfl : xt = xu := by rw [hx] at hxt'; exact (Option.some.inj hxt').symm
            show some (metN (jnB g.msgs d) g.msgs xt (metN (jnB g.msgs d) g.msgs xt t u) v) = some (metN (jnB g.msgs d) g.msgs xt t (metN (jnB g.msgs d) g.msgs xt u v))
            congr 1
            refine met_assoc fun h1 h2 => ?_
            obtain ⟨M, hM⟩ := right_subs hrl m hm xt hxm h2
            have hM' : g.msgs.find? (isN xt.type) = some M := hM
            obtain ⟨s1, e1⟩ := one_sub hxt.others hxt.misc h1 h2
            obtain ⟨s2, e2⟩ := one_sub hxu.others hxu.misc h1 h2
            obtain ⟨s3, e3⟩ := one_sub hxv.others hxv.misc h1 h2
            refine ⟨M, s1, s2, s3, hM', e1, e2, e3, ?_⟩
            have z1 := hxt.subs s1 (by rw [e1]; exact List.mem_singleton.2 rfl)
            have z2 := hxu.subs s2 (by rw [e2]; exact List.mem_singleton.2 rfl)
            have z3 := hxv.subs s3 (by rw [e3]; exact List.mem_singleton.2 rfl)
            rw [fields_of hM'] at z1 z2 z3
            have hyn : (BO.vals (jnB g.msgs (d + 1) m b c)).find? (isV n) = some (metN (jnB g.msgs d) g.msgs xt u v) := by
              rw [hY]
              unfold lookN
              rw [hC, hB, hx]
              rfl
            obtain ⟨xy, hxy, hxy'⟩ := rt_at ry hyn
            obtain rfl : xy = xt := by rw [hx] at hxy'; exact (Option.some.inj hxy').symm
            have e4 : (metN (jnB g.msgs d) g.msgs xy u v).subs = [jnB g.msgs d M s2 s3] := by
              unfold metN
              rw [h1, if_neg (by simp), if_pos h2, hM', e2, e3]
            have z4 := hxy.subs _ (by rw [e4]; exact List.mem_singleton.2 rfl)
            rw [fields_of hM'] at z4
            exact join_assoc hrl hmix d (k + 1) M s1 s2 s3 (List.mem_of_find?_eq_some hM) z1 z2 z3 z4
        | none =>
          simp only [orN]
          cases hA : (BO.vals a).find? (isV n) with
          | none => simp
          | some t =>
            cases ho : (BO.vals b).any fun v => ouB m.fields v.number n with
            | false => simp
            | true =>
              obtain ⟨w, hw, hp, he⟩ := any_ou.1 ho
              rw [choiceF_of hx] at he
              have h1 : x.many = false := by
                cases hh : x.many with
                | false => rfl
                | true => have := hrm.many x hxm hh; omega
              have h2 : x.kind ≠ 10 := fun hh => by have := hmix m hm x hxm hh; omega
              simp [metN, h1, h2]
      | none =>
        cases hoc : (BO.vals c).any fun v => ouB m.fields v.number n with
        | true =>
          simp only [if_true]
          obtain ⟨w, hw, hp, he⟩ := any_ou.1 hoc
          have hwy : ∃ y, (BO.vals (jnB g.msgs (d + 1) m b c)).find? (isV w.number) = some y := by
            rw [look_join (g := g) (a := b) rc w.number]
            unfold lookN
            rw [find_rise rc.rise hw]
            exact ⟨_, rfl⟩
          obtain ⟨y, hy⟩ := hwy
          have hyo : ((BO.vals (jnB g.msgs (d + 1) m b c)).any fun v => ouB m.fields v.number n) = true := any_ou.2 ⟨y, List.mem_of_find?_eq_some hy, by rw [num_of hy]; exact ⟨hp, he⟩⟩
          simp [hyo]
        | false =>
          simp only [Bool.false_eq_true, if_false]
          cases hB : (BO.vals b).find? (isV n) with
          | some u => rfl
          | none =>
            have hyo : ((BO.vals (jnB g.msgs (d + 1) m b c)).any fun v => ouB m.fields v.number n) = ((BO.vals b).any fun v => ouB m.fields v.number n) := by
              rw [Bool.eq_iff_iff, any_ou, any_ou]
              constructor
              · rintro ⟨y, hy, hp, he⟩
                have hf := find_rise ry.rise hy
                rw [look_join (g := g) (a := b) rc y.number] at hf
                unfold lookN at hf
                cases hcy : (BO.vals c).find? (isV y.number) with
                | some w =>
                  exfalso
                  have : ((BO.vals c).any fun v => ouB m.fields v.number n) = true := any_ou.2 ⟨w, List.mem_of_find?_eq_some hcy, by rw [num_of hcy]; exact ⟨hp, he⟩⟩
                  rw [hoc] at this
                  cases this
                | none =>
                  rw [hcy] at hf
                  simp only at hf
                  split at hf
                  · cases hf
                  · exact ⟨y, List.mem_of_find?_eq_some hf, hp, he⟩
              · rintro ⟨u, hu, hp, he⟩
                have hy : ∃ y, (BO.vals (jnB g.msgs (d + 1) m b c)).find? (isV u.number) = some y := by
                  rw [look_join (g := g) (a := b) rc u.number]
                  unfold lookN
                  cases hcu : (BO.vals c).find? (isV u.number) with
                  | some w => exact ⟨_, rfl⟩
                  | none =>
                    have hno : ((BO.vals c).any fun v => ouB m.fields v.number u.number) = false := by
                      cases hh : (BO.vals c).any fun v => ouB m.fields v.number u.number with
                      | false => rfl
                      | true =>
                        exfalso
                        obtain ⟨w, hw, hp', he'⟩ := any_ou.1 hh
                        have : ((BO.vals c).any fun v => ouB m.fields v.number n) = true := any_ou.2 ⟨w, hw, hp', by omega⟩
                        rw [hoc] at this
                        cases this
                    simp only [hno, Bool.false_eq_true, if_false]
                    exact ⟨u, find_rise rb.rise hu⟩
                obtain ⟨y, hy⟩ := hy
                exact ⟨y, List.mem_of_find?_eq_some hy, by rw [num_of hy]; exact ⟨hp, he⟩⟩
            simp only [hyo]
    show (⟨BO.vals (jnB g.msgs (d + 1) m (jnB g.msgs (d + 1) m a b) c), (BO.unk a ++ BO.unk b) ++ BO.unk c⟩ : BO (BI d)) = ⟨BO.vals (jnB g.msgs (d + 1) m a (jnB g.msgs (d + 1) m b c)), BO.unk a ++ (BO.unk b ++ BO.unk c)⟩
    rw [hv, hu]

end L
end Go.Proofs.YtelmjekjohbmjaaGreatDoor

