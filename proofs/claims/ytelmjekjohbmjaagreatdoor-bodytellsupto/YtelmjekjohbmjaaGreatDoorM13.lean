import Derived.Test.YtelmjekjohbmjaaGreatDoorM12
import Derived.Test.YtelmjekjohbmjaaGreatDoorBWithq
import Derived.Test.YtelmjekjohbmjaaGreatDoorRows
import Derived.Test.YtelmjekjohbmjaaGreatDoorM09
/- Two bodies put together: plain. -/
namespace Go.Proofs.YtelmjekjohbmjaaGreatDoor
namespace L
open Go.RowKit
set_option linter.unusedVariables false

def isF (n : Int) (f : FI) : Bool := decide (f.number = n)
def isN (t : List UInt8) (m : MI) : Bool := decide (m.name = t)
def isV {β : Type} (n : Int) (v : VI β) : Bool := decide (v.number = n)
def putN {β : Type} (fs : List FI) (x : FI) (l : List (VI β)) (y : VI β) : List (VI β) :=
  if withoutB x y then l.filter (fun a => !oustB fs x a.number)
  else (l.filter fun a => !oustB fs x a.number).take (placeI y.number (l.filter fun a => !oustB fs x a.number)) ++ [y] ++ (l.filter fun a => !oustB fs x a.number).drop (placeI y.number (l.filter fun a => !oustB fs x a.number))
def metN {β : Type} (J : MI → β → β → β) (ms : List MI) (x : FI) (a b : VI β) : VI β :=
  if x.many then ⟨a.number, a.bits ++ b.bits, a.bytes ++ b.bytes, a.subs ++ b.subs⟩
  else if x.kind = 10 then
    match ms.find? (isN x.type), a.subs, b.subs with
    | some M, s :: _, t :: _ => ⟨a.number, a.bits, a.bytes, [J M s t]⟩
    | _, _, _ => a
  else b
def jstep {β : Type} (J : MI → β → β → β) (ms : List MI) (fs : List FI) (l : List (VI β)) (v : VI β) : List (VI β) :=
  match fs.find? (isF v.number) with
  | none => l
  | some x =>
    match l.find? (isV v.number) with
    | none => putN fs x l v
    | some u => putN fs x l (metN J ms x u v)
/-- What joined answers. -/
def jnB (ms : List MI) : (d : Nat) → MI → BI d → BI d → BI d
  | 0 => fun _ a _ => a
  | d + 1 => fun M a b => (⟨(BO.vals b).foldl (jstep (jnB ms d) ms M.fields) (BO.vals a), BO.unk a ++ BO.unk b⟩ : BO (BI d))
/-- A value has a field; where that is one Sub it has one, of a message that is there. -/
def ShV {β : Type} (R : MI → β → Prop) (ms : List MI) (fs : List FI) (v : VI β) : Prop :=
  I64 v.number ∧ ∃ x, fs.find? (isF v.number) = some x ∧ (x.many = false → x.kind = 10 → ∃ M s, ms.find? (isN x.type) = some M ∧ v.subs = [s] ∧ R M s)
def ShB (ms : List MI) : (d : Nat) → MI → BI d → Prop
  | 0 => fun _ _ => False
  | d + 1 => fun M b => ∀ v ∈ BO.vals b, ShV (ShB ms d) ms M.fields v
/-- How much there is. -/
def jW {β : Type} (f : β → Nat) (v : VI β) : Nat := 1 + v.bits.length + v.bytes.length + (v.subs.map fun s => 1 + f s).sum
def jWB : (d : Nat) → BI d → Nat
  | 0 => fun _ => 0
  | d + 1 => fun b => ((BO.vals b).map (jW (jWB d))).sum + (BO.unk b).length

theorem find_num {fs : List FI} {n : Int} {x : FI} (h : fs.find? (isF n) = some x) : x.number = n := by
  have := List.find?_some h
  simpa [isF] using this
theorem oust_self {fs : List FI} {n : Int} {x : FI} (h : fs.find? (isF n) = some x) : oustB fs x n = true := by
  have hn := find_num h
  unfold oustB
  split
  · simp [hn]
  · unfold choiceF
    have : fs.find? (fun f => decide (f.number = n)) = some x := h
    rw [this]
    simp
theorem met_num {β : Type} {J : MI → β → β → β} {ms : List MI} {x : FI} {a b : VI β} (h : a.number = b.number) : (metN J ms x a b).number = b.number := by
  unfold metN
  split
  · exact h
  · split
    · split
      · exact h
      · exact h
    · rfl
theorem mem_put {β : Type} {fs : List FI} {x : FI} {l : List (VI β)} {y a : VI β} (h : a ∈ putN fs x l y) : a = y ∨ a ∈ l := by
  unfold putN at h
  split at h
  · exact .inr (List.mem_filter.1 h).1
  · rw [List.mem_append, List.mem_append, List.mem_singleton] at h
    rcases h with (h | h) | h
    · exact .inr (List.mem_filter.1 (List.mem_of_mem_take h)).1
    · exact .inl h
    · exact .inr (List.mem_filter.1 (List.mem_of_mem_drop h)).1
theorem met_sh {β : Type} {R : MI → β → Prop} {J : MI → β → β → β} (hJ : ∀ M s t, R M s → R M t → R M (J M s t)) {ms : List MI} {fs : List FI} {x : FI} {a b : VI β} (hn : a.number = b.number) (hx : fs.find? (isF b.number) = some x) (ha : ShV R ms fs a) (hb : ShV R ms fs b) : ShV R ms fs (metN J ms x a b) := by
  obtain ⟨hia, x1, hx1, h1⟩ := ha
  obtain ⟨hib, x2, hx2, h2⟩ := hb
  rw [hn, hx] at hx1
  rw [hx] at hx2
  cases hx1
  cases hx2
  refine ⟨by rw [met_num hn]; exact hib, x, by rw [met_num hn]; exact hx, fun hm hk => ?_⟩
  obtain ⟨M, s, hM, hs, hr⟩ := h1 hm hk
  obtain ⟨M', t, hM', ht, hr'⟩ := h2 hm hk
  rw [hM] at hM'
  cases hM'
  refine ⟨M, J M s t, hM, ?_, hJ M s t hr hr'⟩
  unfold metN
  rw [hm, if_neg (by simp), if_pos hk, hM, hs, ht]
theorem step_sh {β : Type} {R : MI → β → Prop} {J : MI → β → β → β} (hJ : ∀ M s t, R M s → R M t → R M (J M s t)) {ms : List MI} {fs : List FI} {l : List (VI β)} {v : VI β} (hl : ∀ a ∈ l, ShV R ms fs a) (hv : ShV R ms fs v) : ∀ a ∈ jstep J ms fs l v, ShV R ms fs a := by
  obtain ⟨hi, x, hx, _⟩ := id hv
  unfold jstep
  rw [hx]
  intro a ha
  cases hu : l.find? (isV v.number) with
  | none =>
    rw [hu] at ha
    rcases mem_put ha with rfl | h
    · exact hv
    · exact hl a h
  | some u =>
    rw [hu] at ha
    have hun : u.number = v.number := by have := List.find?_some hu; simpa [isV] using this
    rcases mem_put ha with rfl | h
    · exact met_sh hJ hun hx (hl u (List.mem_of_find?_eq_some hu)) hv
    · exact hl a h
theorem fold_sh {β : Type} {R : MI → β → Prop} {J : MI → β → β → β} (hJ : ∀ M s t, R M s → R M t → R M (J M s t)) {ms : List MI} {fs : List FI} : ∀ (m l : List (VI β)), (∀ a ∈ l, ShV R ms fs a) → (∀ a ∈ m, ShV R ms fs a) → ∀ a ∈ m.foldl (jstep J ms fs) l, ShV R ms fs a
  | [], _, hl, _ => hl
  | v :: m, l, hl, hm => fold_sh hJ m _ (step_sh hJ hl (hm v (List.mem_cons_self ..))) fun a ha => hm a (List.mem_cons_of_mem _ ha)
theorem join_sh (ms : List MI) : ∀ (d : Nat) (M : MI) (a b : BI d), ShB ms d M a → ShB ms d M b → ShB ms d M (jnB ms d M a b)
  | 0, _, _, _, h, _ => h
  | d + 1, _, _, _, ha, hb => fold_sh (fun M s t => join_sh ms d M s t) _ _ ha hb

theorem sum_filter {α : Type} (f : α → Nat) (p : α → Bool) : ∀ l : List α, ((l.filter p).map f).sum ≤ (l.map f).sum
  | [] => Nat.le_refl _
  | a :: l => by
    have := sum_filter f p l
    rw [List.filter_cons]
    split <;> simp only [List.map_cons, List.sum_cons] <;> omega
theorem sum_out {α : Type} (f : α → Nat) {p : α → Bool} {a : α} (hp : p a = false) : ∀ {l : List α}, a ∈ l → f a + ((l.filter p).map f).sum ≤ (l.map f).sum
  | b :: l, h => by
    rw [List.filter_cons]
    rcases List.mem_cons.1 h with rfl | h
    · have := sum_filter f p l
      rw [hp]
      simp only [Bool.false_eq_true, if_false, List.map_cons, List.sum_cons]
      omega
    · have := sum_out f hp h
      split <;> simp only [List.map_cons, List.sum_cons] <;> omega
theorem sum_ins {α : Type} (f : α → Nat) (l : List α) (i : Nat) (a : α) : ((l.take i ++ [a] ++ l.drop i).map f).sum = f a + (l.map f).sum := by
  have h : (l.map f).sum = ((l.take i).map f).sum + ((l.drop i).map f).sum := by rw [← List.sum_append, ← List.map_append, List.take_append_drop]
  simp only [List.map_append, List.sum_append, List.map_cons, List.map_nil, List.sum_cons, List.sum_nil]
  omega
theorem put_w {β : Type} (f : β → Nat) (fs : List FI) (x : FI) (l : List (VI β)) (y : VI β) : ((putN fs x l y).map (jW f)).sum ≤ jW f y + ((l.filter fun a => !oustB fs x a.number).map (jW f)).sum := by
  unfold putN
  split
  · omega
  · rw [sum_ins]; omega
theorem met_w {β : Type} {f : β → Nat} {J : MI → β → β → β} (hJ : ∀ M s t, f (J M s t) ≤ f s + f t) (ms : List MI) (x : FI) (a b : VI β) : jW f (metN J ms x a b) ≤ jW f a + jW f b := by
  unfold metN
  split
  · unfold jW
    simp only [List.length_append, List.map_append, List.sum_append]
    omega
  · split
    · split
      · rename_i M s l t m h1 h2 h3
        have := hJ M s t
        unfold jW
        rw [h2, h3]
        simp only [List.map_cons, List.sum_cons, List.map_nil, List.sum_nil]
        omega
      · omega
    · omega
theorem step_w {β : Type} {f : β → Nat} {J : MI → β → β → β} (hJ : ∀ M s t, f (J M s t) ≤ f s + f t) (ms : List MI) (fs : List FI) (l : List (VI β)) (v : VI β) : ((jstep J ms fs l v).map (jW f)).sum ≤ (l.map (jW f)).sum + jW f v := by
  unfold jstep
  split
  · omega
  · rename_i x hx
    split
    · have := put_w f fs x l v
      have := sum_filter (jW f) (fun a => !oustB fs x a.number) l
      omega
    · rename_i u hu
      have hun : u.number = v.number := by have := List.find?_some hu; simpa [isV] using this
      have h1 := put_w f fs x l (metN J ms x u v)
      have h2 := met_w hJ ms x u v
      have h3 := sum_out (jW f) (p := fun a : VI β => !oustB fs x a.number) (a := u) (by simp [hun, oust_self hx]) (List.mem_of_find?_eq_some hu)
      omega
theorem fold_w {β : Type} {f : β → Nat} {J : MI → β → β → β} (hJ : ∀ M s t, f (J M s t) ≤ f s + f t) (ms : List MI) (fs : List FI) : ∀ (m l : List (VI β)), ((m.foldl (jstep J ms fs) l).map (jW f)).sum ≤ (l.map (jW f)).sum + (m.map (jW f)).sum
  | [], _ => by simp
  | v :: m, l => by
    have h1 := fold_w hJ ms fs m (jstep J ms fs l v)
    have h2 := step_w hJ ms fs l v
    simp only [List.foldl_cons, List.map_cons, List.sum_cons]
    omega
theorem join_w (ms : List MI) : ∀ (d : Nat) (M : MI) (a b : BI d), jWB d (jnB ms d M a b) ≤ jWB d a + jWB d b
  | 0, _, a, _ => nomatch (a : Empty)
  | d + 1, M, a, b => by
    have := fold_w (fun M s t => join_w ms d M s t) ms M.fields (BO.vals b) (BO.vals a)
    show (List.map (jW (jWB d)) ((BO.vals b).foldl (jstep (jnB ms d) ms M.fields) (BO.vals a))).sum + (BO.unk a ++ BO.unk b).length ≤ ((List.map (jW (jWB d)) (BO.vals a)).sum + (BO.unk a).length) + ((List.map (jW (jWB d)) (BO.vals b)).sum + (BO.unk b).length)
    rw [List.length_append]
    omega
theorem len_sum {α : Type} (f : α → Nat) (hf : ∀ a, 1 ≤ f a) : ∀ l : List α, l.length ≤ (l.map f).sum
  | [] => Nat.le_refl _
  | a :: l => by
    have := len_sum f hf l
    have := hf a
    simp only [List.length_cons, List.map_cons, List.sum_cons]
    omega

end L
end Go.Proofs.YtelmjekjohbmjaaGreatDoor

/- A body that came in, opened, where what came in is not too much: how much there is of it. -/
namespace Go.Proofs.YtelmjekjohbmjaaGreatDoor
namespace L
open Go.ChangeShapes Go.WideShapes Go.ChangeAt Go.RowKit
set_option linter.unusedVariables false

section
variable {H : Type} {enc : TypeId × Value → H} {w : World} {base : Nat} {spare : Nat → Bool} {held : Bool}

theorem bulk_one (d : DataW H) : 1 ≤ Rows.uptoBulk d := by
  cases d with
  | lit l => cases l <;> simp [Rows.uptoBulk]
  | nil => simp [Rows.uptoBulk]
  | ptr d => simp [Rows.uptoBulk]
  | slice elems spare => simp [Rows.uptoBulk]
  | agg parts => simp [Rows.uptoBulk]
  | iface t d => simp [Rows.uptoBulk]
  | map entries => simp [Rows.uptoBulk]
  | held h => simp [Rows.uptoBulk]
theorem bulk_app (l r : List (DataW H)) : Rows.uptoBulkAll (l ++ r) = Rows.uptoBulkAll l + Rows.uptoBulkAll r := by
  induction l with
  | nil => simp [Rows.uptoBulkAll]
  | cons x l ih => simp only [List.cons_append, Rows.uptoBulkAll, ih]; omega
theorem bulk_mem {d : DataW H} {l : List (DataW H)} (h : d ∈ l) : Rows.uptoBulk d ≤ Rows.uptoBulkAll l := by
  induction l with
  | nil => cases h
  | cons x r ih =>
    simp only [Rows.uptoBulkAll]
    cases List.mem_cons.1 h with
    | inl e => subst e; omega
    | inr e => have := ih e; omega
theorem list_of {α : Type} {R : Nat → α → Prop} {f : α → Nat} {D : Nat → DataW H} : ∀ len : Nat, (∀ i, i < len → ∃ y, R i y ∧ f y ≤ 60 * Rows.uptoBulk (D i)) → ∃ l : List α, l.length = len ∧ (∀ k y, l[k]? = some y → R k y) ∧ (l.map f).sum ≤ 60 * Rows.uptoBulkAll ((List.range len).map D) ∧ len ≤ Rows.uptoBulkAll ((List.range len).map D)
  | 0, _ => ⟨[], rfl, fun k y h => by simp at h, by simp [Rows.uptoBulkAll], by simp⟩
  | len + 1, h => by
    obtain ⟨l, h1, h2, h3, h4⟩ := list_of len fun i hi => h i (by omega)
    obtain ⟨y, hy, hf⟩ := h len (by omega)
    have hb := bulk_one (D len)
    refine ⟨l ++ [y], by simp [h1], fun k z hz => ?_, ?_, ?_⟩
    · by_cases hk : k < l.length
      · rw [List.getElem?_append_left hk] at hz; exact h2 k z hz
      · have hk' : k = l.length := by
          have := (List.getElem?_eq_some_iff.1 hz).1
          rw [List.length_append, List.length_singleton] at this
          omega
        subst hk'
        rw [List.getElem?_append_right (Nat.le_refl _), Nat.sub_self] at hz
        have : y = z := by simpa using hz
        subst this
        rw [h1]
        exact hy
    · rw [List.range_succ, List.map_append, List.map_append, bulk_app, List.sum_append]
      simp only [List.map_cons, List.map_nil, List.sum_cons, List.sum_nil, Rows.uptoBulkAll]
      omega
    · rw [List.range_succ, List.map_append, bulk_app]
      simp only [List.map_cons, List.map_nil, Rows.uptoBulkAll]
      omega
/-- A list that came in: what each entry can be at most, together. -/
theorem open_listU {α : Type} {P : World → Addr → α → Prop} {Q : α → Prop} {f : α → Nat} {sz : Nat} {t e : TypeId} (ht : Tryz.prog.underlying t = some (.slice e)) (hc : Tryz.prog.cellsOf e = sz)
    {fuel : Nat} {cs : List Value} {d : DataW H} {pl : List MemPlace} (h : DataW.trod enc Tryz.prog w base spare held fuel t cs = some (d, pl)) (hB : Rows.uptoBulk d ≤ 1048576)
    (hel : ∀ (fuel : Nat) (a : Addr) (cs : List Value) (d' : DataW H) (pl : List MemPlace), SizeOf.sizeOf d' < SizeOf.sizeOf d → w.cells? base a sz = some cs → DataW.trod enc Tryz.prog w base spare held fuel e cs = some (d', pl) → Rows.uptoBulk d' ≤ 1048576 → ∃ y, P w a y ∧ Q y ∧ f y ≤ 60 * Rows.uptoBulk d') :
    ∃ v l, cs = [v] ∧ RdL sz P w v l ∧ (∀ y ∈ l, Q y) ∧ (l.map f).sum + 60 ≤ 60 * Rows.uptoBulk d ∧ l.length + 1 ≤ Rows.uptoBulk d := by
  rcases Go.Deep.open_slice ht h with ⟨hcs, hx⟩ | ⟨a, len, cap, m, n, D, Pl, hcs, _, hl, hm, hmm, hx, hels⟩
  · have hb := bulk_one d
    exact ⟨_, [], hcs, RdL.nil _ _ _, fun y hy => by simp at hy, by simp; omega, by simpa using hb⟩
  · rw [hc] at hels
    have hd := (Prod.mk.inj hx).1
    have hm' : len ≤ m := by rw [hmm]; split <;> omega
    have hbd : Rows.uptoBulkAll ((List.range len).map D) + 1 ≤ Rows.uptoBulk d := by rw [hd]; simp only [Rows.uptoBulk]; omega
    obtain ⟨l, h1, h2, h3, h4⟩ := list_of (R := fun i y => P w (a.add (i * sz)) y ∧ Q y) (f := f) (D := D) len fun i hi => by
      obtain ⟨cs', g1, g2⟩ := hels i (by omega)
      have hmem : D i ∈ (List.range len).map D := List.mem_map.2 ⟨i, List.mem_range.2 hi, rfl⟩
      obtain ⟨y, q1, q2, q3⟩ := hel n _ cs' (D i) (Pl i) (by
        have := List.sizeOf_lt_of_mem hmem
        rw [hd, DataW.slice.sizeOf_spec]
        omega) g1 g2 (by have := bulk_mem hmem; omega)
      exact ⟨y, ⟨q1, q2⟩, q3⟩
    refine ⟨_, l, hcs, ⟨some a, len, cap, rfl, h1, hl, hm, fun h => (by cases h), fun x hx' k y hy => ?_⟩, fun y hy => ?_, by omega, by omega⟩
    · cases hx'
      exact (h2 k y hy).1
    · obtain ⟨k, hk⟩ := List.getElem?_of_mem hy
      exact (h2 k y hk).2

theorem open_u64U {fuel : Nat} {c : Value} {x : DataW H × List MemPlace} (h : DataW.trod enc Tryz.prog w base spare held fuel 35 [c] = some x) : ∃ n : Nat, c = .int .u64 (n : Int) ∧ n ≤ 18446744073709551615 := by
  obtain ⟨n, h1, _, h2⟩ := DataW.trod_int Tryz.underlying35 h
  simp at h1
  have := bounds_u64 h2
  exact ⟨n.toNat, by rw [h1, Int.toNat_of_nonneg (by omega)], by omega⟩
theorem open_bitU (fuel : Nat) (a : Addr) (cs : List Value) (d : DataW H) (pl : List MemPlace) (hc : w.cells? base a 1 = some cs) (h : DataW.trod enc Tryz.prog w base spare held fuel 35 cs = some (d, pl)) : ∃ y, UAt w a y ∧ y ≤ 18446744073709551615 ∧ 0 ≤ 60 * Rows.uptoBulk d := by
  obtain ⟨_, hlen, hcell⟩ := World.cells?_some hc
  match cs, hlen with
  | [v0], _ =>
    obtain ⟨n1, rfl, z1⟩ := open_u64U h
    refine ⟨n1, ?_, z1, Nat.zero_le _⟩
    have := hcell 0 (by omega)
    simpa [Addr.add, UAt] using this
theorem open_byteU (fuel : Nat) (a : Addr) (cs : List Value) (d : DataW H) (pl : List MemPlace) (hc : w.cells? base a 1 = some cs) (h : DataW.trod enc Tryz.prog w base spare held fuel 5 cs = some (d, pl)) : ∃ y, YAt w a y ∧ True ∧ 0 ≤ 60 * Rows.uptoBulk d := by
  obtain ⟨_, hlen, hcell⟩ := World.cells?_some hc
  match cs, hlen with
  | [v0], _ =>
    obtain ⟨n, h1, _, h2⟩ := DataW.trod_int Tryz.underlying5 h
    simp at h1
    subst h1
    have hb := bounds_u8 h2
    refine ⟨UInt8.ofNat n.toNat, ?_, trivial, Nat.zero_le _⟩
    have := hcell 0 (by omega)
    have e : (((UInt8.ofNat n.toNat).toNat : Nat) : Int) = n := by
      rw [UInt8.toNat_ofNat', Nat.mod_eq_of_lt (by omega), Int.toNat_of_nonneg (by omega)]
    show w.cell? a = some (.int .u8 (((UInt8.ofNat n.toNat).toNat : Nat) : Int))
    rw [e]
    simpa [Addr.add] using this
theorem open_rawU {fuel : Nat} {cs : List Value} {d : DataW H} {pl : List MemPlace} (h : DataW.trod enc Tryz.prog w base spare held fuel 68 cs = some (d, pl)) (hB : Rows.uptoBulk d ≤ 1048576) : ∃ v l, cs = [v] ∧ RdL 1 YAt w v l ∧ l.length + 1 ≤ Rows.uptoBulk d := by
  obtain ⟨v, l, e, r, _, _, b⟩ := open_listU (P := YAt) (Q := fun _ => True) (f := fun _ => 0) (sz := 1) Tryz.underlying68 (by kernel_rfl) h hB fun fuel a cs d' pl _ hc h' _ => open_byteU fuel a cs d' pl hc h'
  exact ⟨v, l, e, r, b⟩
theorem open_rawsU (fuel : Nat) (a : Addr) (cs : List Value) (d : DataW H) (pl : List MemPlace) (hc : w.cells? base a 1 = some cs) (h : DataW.trod enc Tryz.prog w base spare held fuel 68 cs = some (d, pl)) (hB : Rows.uptoBulk d ≤ 1048576) : ∃ y, ZAt w a y ∧ y.length * 1 ≤ reachBytes ∧ 1 ≤ 60 * Rows.uptoBulk d := by
  obtain ⟨_, hlen, hcell⟩ := World.cells?_some hc
  obtain ⟨v, l, e, r, b⟩ := open_rawU h hB
  subst e
  refine ⟨l, ⟨v, ?_, r⟩, by unfold reachBytes; omega, by omega⟩
  have := hcell 0 (by omega)
  simpa [Addr.add] using this
theorem part_bulk {xs : List (DataW H × List MemPlace)} {i : Nat} (hi : i < xs.length) : Rows.uptoBulk (xs[i]'hi).1 + 1 ≤ Rows.uptoBulk (DataW.agg (xs.map (·.1))) := by
  have hm : (xs[i]'hi).1 ∈ xs.map (·.1) := List.mem_map.2 ⟨_, List.getElem_mem hi, rfl⟩
  have := bulk_mem hm
  simp only [Rows.uptoBulk]
  omega
theorem part_ltU {xs : List (DataW H × List MemPlace)} {i : Nat} (hi : i < xs.length) : SizeOf.sizeOf (xs[i]'hi).1 < SizeOf.sizeOf (DataW.agg (xs.map (·.1))) := by
  have : (xs[i]'hi).1 ∈ xs.map (·.1) := List.mem_map.2 ⟨_, List.getElem_mem hi, rfl⟩
  have := List.sizeOf_lt_of_mem this
  rw [DataW.agg.sizeOf_spec]
  omega
theorem bulk4 {xs : List (DataW H × List MemPlace)} (h : xs.length = 4) : Rows.uptoBulk (DataW.agg (xs.map (·.1))) = Rows.uptoBulk (xs[0]'(by omega)).1 + Rows.uptoBulk (xs[1]'(by omega)).1 + Rows.uptoBulk (xs[2]'(by omega)).1 + Rows.uptoBulk (xs[3]'(by omega)).1 + 1 := by
  match xs, h with
  | [a, b, c, d], _ => simp [Rows.uptoBulk, Rows.uptoBulkAll]; omega
theorem bulk2 {xs : List (DataW H × List MemPlace)} (h : xs.length = 2) : Rows.uptoBulk (DataW.agg (xs.map (·.1))) = Rows.uptoBulk (xs[0]'(by omega)).1 + Rows.uptoBulk (xs[1]'(by omega)).1 + 1 := by
  match xs, h with
  | [a, b], _ => simp [Rows.uptoBulk, Rows.uptoBulkAll]
set_option maxRecDepth 100000 in
theorem open_recU (fuel : Nat) (a : Addr) (cs : List Value) (d : DataW H) (pl : List MemPlace) (hc : w.cells? base a 4 = some cs) (h : DataW.trod enc Tryz.prog w base spare held fuel 73 cs = some (d, pl)) (hB : Rows.uptoBulk d ≤ 1048576) : ∃ y, RAt w a y ∧ RecOk y ∧ 1 ≤ 60 * Rows.uptoBulk d := by
  obtain ⟨_, hlen, hcell⟩ := World.cells?_some hc
  obtain ⟨xs, n, _, hx, _, hxl, hf⟩ := DataW.trod_struct Tryz.underlying73 h
  have hd := (Prod.mk.inj hx).1
  match cs, hlen with
  | [v0, v1, v2, v3], _ =>
    have hxs : xs.length = 4 := hxl
    have f0 : DataW.trod enc Tryz.prog w base spare held n 3 [v0] = xs[0]? := hf 0 _ rfl
    have f1 : DataW.trod enc Tryz.prog w base spare held n 3 [v1] = xs[1]? := hf 1 _ rfl
    have f2 : DataW.trod enc Tryz.prog w base spare held n 35 [v2] = xs[2]? := hf 2 _ rfl
    have f3 : DataW.trod enc Tryz.prog w base spare held n 68 [v3] = xs[3]? := hf 3 _ rfl
    rw [List.getElem?_eq_getElem (by omega)] at f0 f1 f2 f3
    have g3 := part_bulk (xs := xs) (i := 3) (by omega)
    rw [← hd] at g3
    obtain ⟨n0, rfl, z0⟩ := open_num f0
    obtain ⟨n1, rfl, z1⟩ := open_num f1
    obtain ⟨n2, rfl, z2⟩ := open_u64U f2
    obtain ⟨u3, l3, e3, r3, b3⟩ := open_rawU (d := (xs[3]'(by omega)).1) (pl := (xs[3]'(by omega)).2) f3 (by omega)
    simp at e3
    subst e3
    refine ⟨⟨n0, n1, n2, l3⟩, ⟨v3, ?_, hcell 1 (by omega), hcell 2 (by omega), hcell 3 (by omega), r3⟩, ⟨z0, z1, by show n2 < 18446744073709551616; omega, by show l3.length * 1 ≤ reachBytes; unfold reachBytes; omega⟩, by have := bulk_one d; omega⟩
    have := hcell 0 (by omega)
    simpa [Addr.add] using this
set_option maxRecDepth 100000 in
theorem open_valU {β : Type} {P : World → Addr → β → Prop} {Q : β → Prop} {f : β → Nat} (fuel : Nat) (a : Addr) (cs : List Value) (d : DataW H) (pl : List MemPlace) (hc : w.cells? base a 4 = some cs) (h : DataW.trod enc Tryz.prog w base spare held fuel 34 cs = some (d, pl)) (hB : Rows.uptoBulk d ≤ 1048576)
    (hel : ∀ (fuel : Nat) (a : Addr) (cs : List Value) (d' : DataW H) (pl : List MemPlace), SizeOf.sizeOf d' < SizeOf.sizeOf d → w.cells? base a 2 = some cs → DataW.trod enc Tryz.prog w base spare held fuel 29 cs = some (d', pl) → Rows.uptoBulk d' ≤ 1048576 → ∃ y, P w a y ∧ Q y ∧ 1 + f y ≤ 60 * Rows.uptoBulk d') : ∃ y, VAt P w a y ∧ VOk Q y ∧ jW f y ≤ 60 * Rows.uptoBulk d := by
  obtain ⟨_, hlen, hcell⟩ := World.cells?_some hc
  obtain ⟨xs, n, _, hx, _, hxl, hf⟩ := DataW.trod_struct Tryz.underlying34 h
  have hd := (Prod.mk.inj hx).1
  match cs, hlen with
  | [v0, v1, v2, v3], _ =>
    have hxs : xs.length = 4 := hxl
    have f0 : DataW.trod enc Tryz.prog w base spare held n 3 [v0] = xs[0]? := hf 0 _ rfl
    have f1 : DataW.trod enc Tryz.prog w base spare held n 30 [v1] = xs[1]? := hf 1 _ rfl
    have f2 : DataW.trod enc Tryz.prog w base spare held n 31 [v2] = xs[2]? := hf 2 _ rfl
    have f3 : DataW.trod enc Tryz.prog w base spare held n 32 [v3] = xs[3]? := hf 3 _ rfl
    rw [List.getElem?_eq_getElem (by omega)] at f0 f1 f2 f3
    have hb4 := bulk4 hxs
    rw [← hd] at hb4
    have g0 := bulk_one (xs[0]'(by omega)).1
    have g3 := part_ltU (xs := xs) (i := 3) (by omega)
    rw [← hd] at g3
    obtain ⟨n0, rfl, z0⟩ := open_num f0
    obtain ⟨u1, l1, e1, r1, k1, _, b1⟩ := open_listU (P := UAt) (Q := fun n => n ≤ 18446744073709551615) (f := fun _ => 0) (sz := 1) Tryz.underlying30 (by kernel_rfl) (d := (xs[1]'(by omega)).1) (pl := (xs[1]'(by omega)).2) f1 (by omega) fun fuel a cs d' pl _ hc h' _ => open_bitU fuel a cs d' pl hc h'
    obtain ⟨u2, l2, e2, r2, k2, w2, b2⟩ := open_listU (P := ZAt) (Q := fun l => l.length * 1 ≤ reachBytes) (f := fun _ => 1) (sz := 1) Tryz.underlying31 (by kernel_rfl) (d := (xs[2]'(by omega)).1) (pl := (xs[2]'(by omega)).2) f2 (by omega) fun fuel a cs d' pl _ hc h' hs => open_rawsU fuel a cs d' pl hc h' hs
    obtain ⟨u3, l3, e3, r3, k3, w3, b3⟩ := open_listU (P := P) (Q := Q) (f := fun s => 1 + f s) (sz := 2) Tryz.underlying32 (by kernel_rfl) (d := (xs[3]'(by omega)).1) (pl := (xs[3]'(by omega)).2) f3 (by omega) fun fuel a cs d' pl hlt hc h' hs => hel fuel a cs d' pl (Nat.lt_trans hlt g3) hc h' hs
    simp at e1 e2 e3
    subst e1 e2 e3
    refine ⟨⟨n0, l1, l2, l3⟩, ⟨v1, v2, v3, ?_, hcell 1 (by omega), hcell 2 (by omega), hcell 3 (by omega), r1, r2, r3⟩, ⟨z0, fun n hn => by have := k1 n hn; omega, by show l1.length * 8 ≤ reachBytes; unfold reachBytes; omega, k2, by show l2.length * 24 ≤ reachBytes; unfold reachBytes; omega, k3, by show l3.length * 48 ≤ reachBytes; unfold reachBytes; omega⟩, ?_⟩
    · have := hcell 0 (by omega)
      simpa [Addr.add] using this
    · show 1 + l1.length + l2.length + (l3.map fun s => 1 + f s).sum ≤ _
      omega
set_option maxRecDepth 100000 in
theorem open_partsU {N : Nat} (hel : ∀ (fuel : Nat) (a : Addr) (cs : List Value) (d' : DataW H) (pl : List MemPlace), SizeOf.sizeOf d' < N → w.cells? base a 2 = some cs → DataW.trod enc Tryz.prog w base spare held fuel 29 cs = some (d', pl) → Rows.uptoBulk d' ≤ 1048576 → ∃ y, BAt N w a y ∧ BOk N y ∧ 1 + jWB N y ≤ 60 * Rows.uptoBulk d')
    {fuel : Nat} {cs : List Value} {d : DataW H} {pl : List MemPlace} (hN : SizeOf.sizeOf d ≤ N) (h : DataW.trod enc Tryz.prog w base spare held fuel 29 cs = some (d, pl)) (hl : cs.length = 2) (hB : Rows.uptoBulk d ≤ 1048576) : ∃ v0 v1 y, cs = [v0, v1] ∧ BRd N w v0 v1 y ∧ BOk (N + 1) y ∧ 1 + jWB (N + 1) y ≤ 60 * Rows.uptoBulk d := by
  obtain ⟨xs, n, _, hx, _, hxl, hf⟩ := DataW.trod_struct Tryz.underlying29 h
  have hd := (Prod.mk.inj hx).1
  match cs, hl with
  | [v0, v1], _ =>
    have hxs : xs.length = 2 := hxl
    have f0 : DataW.trod enc Tryz.prog w base spare held n 26 [v0] = xs[0]? := hf 0 _ rfl
    have f1 : DataW.trod enc Tryz.prog w base spare held n 27 [v1] = xs[1]? := hf 1 _ rfl
    rw [List.getElem?_eq_getElem (by omega)] at f0 f1
    have hb2 := bulk2 hxs
    have g0 := part_ltU (xs := xs) (i := 0) (by omega)
    rw [← hd] at hb2 g0
    obtain ⟨u0, l0, e0, r0, k0, w0, b0⟩ := open_listU (P := VAt (BAt N)) (Q := VOk (BOk N)) (f := jW (jWB N)) (sz := 4) Tryz.underlying26 (by kernel_rfl) (d := (xs[0]'(by omega)).1) (pl := (xs[0]'(by omega)).2) f0 (by omega) fun fuel a cs d' pl hlt hc h' hs => open_valU fuel a cs d' pl hc h' hs fun fuel a cs d'' pl hlt2 hc h'' hs2 => hel fuel a cs d'' pl (Nat.lt_of_lt_of_le (Nat.lt_trans hlt2 (Nat.lt_trans hlt g0)) hN) hc h'' hs2
    obtain ⟨u1, l1, e1, r1, k1, w1, b1⟩ := open_listU (P := RAt) (Q := RecOk) (f := fun _ => 1) (sz := 4) Tryz.underlying27 (by kernel_rfl) (d := (xs[1]'(by omega)).1) (pl := (xs[1]'(by omega)).2) f1 (by omega) fun fuel a cs d' pl _ hc h' hs => open_recU fuel a cs d' pl hc h' hs
    simp at e0 e1
    subst e0 e1
    refine ⟨v0, v1, ⟨l0, l1⟩, rfl, ⟨r0, r1⟩, ⟨k0, by show l0.length * 80 ≤ reachBytes; unfold reachBytes; omega, k1, by show l1.length * 48 ≤ reachBytes; unfold reachBytes; omega⟩, ?_⟩
    show 1 + ((l0.map (jW (jWB N))).sum + l1.length) ≤ _
    omega
theorem open_subU : ∀ (N fuel : Nat) (a : Addr) (cs : List Value) (d' : DataW H) (pl : List MemPlace), SizeOf.sizeOf d' < N → w.cells? base a 2 = some cs → DataW.trod enc Tryz.prog w base spare held fuel 29 cs = some (d', pl) → Rows.uptoBulk d' ≤ 1048576 → ∃ y, BAt N w a y ∧ BOk N y ∧ 1 + jWB N y ≤ 60 * Rows.uptoBulk d'
  | 0, _, _, _, _, _, h, _, _, _ => by omega
  | N + 1, fuel, a, cs, d', pl, hN, hc, h, hs => by
    obtain ⟨_, hlen, hcell⟩ := World.cells?_some hc
    obtain ⟨v0, v1, y, rfl, hr, hk, hw⟩ := open_partsU (open_subU N) (by omega) h hlen hs
    refine ⟨y, ⟨v0, v1, ?_, hcell 1 (by omega), hr⟩, hk, hw⟩
    have := hcell 0 (by omega)
    simpa [Addr.add] using this
set_option maxRecDepth 100000 in
/-- A body that came in: how deep it is at most, what can be read, how much it can become. -/
theorem open_bodyU {v : Value} {fuel : Nat} {d : DataW H} {pl : List MemPlace} (N : Nat) (hN : SizeOf.sizeOf d ≤ N) (h : DataW.trod enc Tryz.prog w base spare held fuel 29 v.cells.toList = some (d, pl)) (hB : Rows.uptoBulk d ≤ 1048576) : ∃ v0 v1 y, v = .agg #[v0, v1] ∧ BRd N w v0 v1 y ∧ BOk (N + 1) y ∧ jWB (N + 1) y ≤ 60 * Rows.uptoBulk d := by
  have hlen : v.cells.toList.length = 2 := by
    obtain ⟨xs, n, _, _, hlen, _, _⟩ := DataW.trod_struct Tryz.underlying29 h
    exact hlen
  obtain ⟨v0, v1, y, hcs, hr, hk, hw⟩ := open_partsU (open_subU N) hN h hlen hB
  clear h hlen
  refine ⟨v0, v1, y, ?_, hr, hk, by omega⟩
  cases v <;> simp [Value.cells] at hcs
  rename_i cs
  have : cs = #[v0, v1] := by cases cs; simp_all
  rw [this]
end

end L
end Go.Proofs.YtelmjekjohbmjaaGreatDoor

