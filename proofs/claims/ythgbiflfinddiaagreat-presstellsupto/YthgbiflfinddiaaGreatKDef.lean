/- Package press, plain: programs of a file, what is wrong with programs. -/
import Derived.Test.YthgbiflfinddiaaGreatLFind
namespace Go.Proofs.YthgbiflfinddiaaGreat
namespace L

/-- A step. -/
structure TI where
  kind : Int
  number : Int
  how : Int
  field : Int
  next : Int
deriving DecidableEq
def howN (k : Int) : Int := if k = 6 then 1 else if k = 7 then 5 else if k = 8 ∨ k = 9 ∨ k = 10 then 2 else 0
def kindN (x : FI) : Int := if x.kind = 10 then 4 else if howN x.kind = 2 then 3 else if x.many = true then 2 else 1
def msgI (g : GI) (t : List UInt8) : Int := firstI (fun m => decide (m.name = t)) g.msgs
def stepN (g : GI) (x : FI) : TI := ⟨kindN x, x.number, howN x.kind, x.kind, if x.kind = 10 then msgI g x.type else -1⟩
def numsN (m : MI) : List Int := (m.fields.map FI.number).mergeSort fun x y => decide (x ≤ y)
def fld0 : FI := ⟨[], 0, 0, [], false, 0⟩
def fieldN (l : List FI) (n : Int) : FI := (l.find? fun f => decide (f.number = n)).getD fld0
def progN (g : GI) (m : MI) : List TI := (numsN m).map fun n => stepN g (fieldN m.fields n)
def makeN (g : GI) : List (List TI) := g.msgs.map (progN g)
def misN (s : TI) : Bool := decide (s.how ≠ howN s.field) || (((decide (s.kind = 3) || decide (s.kind = 4)) != decide (s.how = 2)) || (decide (s.kind = 4) != decide (s.field = 10)))
def nowN (s : TI) (n : Nat) : Bool := if s.kind = 4 then decide (s.next < 0) || decide ((n : Int) ≤ s.next) else decide (s.next ≠ -1)
def wrongT (s : TI) (a : Int) (n : Nat) : Int :=
  if s.kind < 1 ∨ 4 < s.kind then 1 else if s.field < 1 ∨ 10 < s.field then 1 else if s.number < 1 ∨ 536870912 ≤ s.number ∨ s.number ≤ a then 3
  else if misN s = true then 8 else if nowN s n = true then 6 else 0
def wrongTs (n : Nat) : List TI → Int → Int
  | [], _ => 0
  | s :: r, a => if wrongT s a n ≠ 0 then wrongT s a n else wrongTs n r s.number
def wrongQ (p : List TI) (n : Nat) : Int := if 16 < p.length then 5 else wrongTs n p 0
def wrongQs (n : Nat) : Nat → List (List TI) → Int × Nat
  | _, [] => (0, 0)
  | i, p :: r => if wrongQ p n ≠ 0 then (wrongQ p n, i) else wrongQs n (i + 1) r
def wrongP (l : List (List TI)) : Int × Nat := if 10 < l.length then (5, 0) else wrongQs l.length 0 l

theorem nums_mem {m : MI} {n : Int} (h : n ∈ numsN m) : ∃ f ∈ m.fields, f.number = n := by
  unfold numsN at h
  rw [List.mem_mergeSort, List.mem_map] at h
  exact h
theorem field_of {l : List FI} {n : Int} (h : ∃ f ∈ l, f.number = n) : ∃ k : Nat, firstI (fun f => decide (f.number = n)) l = (k : Int) ∧ l[k]? = some (fieldN l n) ∧ (fieldN l n).number = n ∧ fieldN l n ∈ l := by
  unfold firstI fieldN
  induction l with
  | nil => obtain ⟨f, hf, _⟩ := h; cases hf
  | cons a r ih =>
    by_cases ha : a.number = n
    · refine ⟨0, ?_, ?_, ?_, ?_⟩ <;> simp [List.findIdx?_cons, ha]
    · have h' : ∃ f ∈ r, f.number = n := by
        obtain ⟨f, hf, hn⟩ := h
        rcases List.mem_cons.1 hf with rfl | hf
        · exact absurd hn ha
        · exact ⟨f, hf, hn⟩
      obtain ⟨k, h1, h2, h3, h4⟩ := ih h'
      have e : (a :: r).find? (fun f => decide (f.number = n)) = r.find? fun f => decide (f.number = n) := by simp [ha]
      rw [e]
      refine ⟨k + 1, ?_, by simpa using h2, h3, List.mem_cons_of_mem _ h4⟩
      rw [List.findIdx?_cons]
      simp only [ha, decide_false, Bool.false_eq_true, if_false]
      cases hx : r.findIdx? (fun f => decide (f.number = n)) with
      | none => rw [hx] at h1; simp at h1
      | some j => rw [hx] at h1; simp at h1 ⊢; omega
theorem prog_len (g : GI) (m : MI) : (progN g m).length = m.fields.length := by simp [progN, numsN]
theorem make_len (g : GI) : (makeN g).length = g.msgs.length := by simp [makeN]
theorem prog_mem {g : GI} {m : MI} {s : TI} (h : s ∈ progN g m) : ∃ x ∈ m.fields, s = stepN g x := by
  unfold progN at h
  rw [List.mem_map] at h
  obtain ⟨n, hn, rfl⟩ := h
  obtain ⟨k, _, _, _, h4⟩ := field_of (nums_mem hn)
  exact ⟨_, h4, rfl⟩

end L
end Go.Proofs.YthgbiflfinddiaaGreat
