/- Plain lists: a text's words, numbers, fields, messages, as chapter 2 reads them. Nothing of the program. -/
import Derived.Laws.BitsAllLaws
namespace Go.Proofs.YtenlijgnmhdopaaGreatDoor

def letB (c : UInt8) : Bool := (decide (97 ≤ c.toNat) && decide (c.toNat ≤ 122)) || (decide (65 ≤ c.toNat) && decide (c.toNat ≤ 90))
def digB (c : UInt8) : Bool := decide (48 ≤ c.toNat) && decide (c.toNat ≤ 57)
def moreB (c : UInt8) : Bool := letB c || digB c || c.toNat == 95

def wordLenL : List UInt8 → Nat
  | [] => 0
  | c :: r => if letB c then 1 + (r.takeWhile moreB).length else 0
def digLenL (l : List UInt8) : Nat := (l.takeWhile digB).length

/-- What is behind blanks and notes; the first word: within a note? -/
def skipN : Bool → List UInt8 → List UInt8
  | _, [] => []
  | true, c :: r => skipN (c != 10) r
  | false, c :: r => if c = 32 ∨ c = 10 then skipN false r else if c = 47 ∧ r.head? = some 47 then skipN true r else c :: r
def skipL (l : List UInt8) : List UInt8 := skipN false l

/-- An answer and what is behind it; or what is wrong, and what is from there on; none: not enough rounds. -/
abbrev R (α : Type) := Except (Option (Nat × List UInt8)) (α × List UInt8)
def R.thn {α β : Type} (x : R α) (f : α → List UInt8 → R β) : R β :=
  match x with
  | .error e => .error e
  | .ok (a, r) => f a r

def markL (c : UInt8) (r : List UInt8) : Bool × List UInt8 :=
  match skipL r with
  | [] => (false, [])
  | x :: t => if x = c then (true, t) else (false, x :: t)
def mustL (c : UInt8) (r : List UInt8) : R Unit :=
  match markL c r with
  | (true, t) => .ok ((), t)
  | (false, t) => .error (some (2, t))
def keyL (w : List UInt8) (r : List UInt8) : Bool × List UInt8 :=
  if (skipL r).take (wordLenL (skipL r)) = w then (true, (skipL r).drop w.length) else (false, skipL r)
def nameL (r : List UInt8) : R (List UInt8) :=
  if wordLenL (skipL r) = 0 then .error (some (2, skipL r))
  else if 16 < wordLenL (skipL r) then .error (some (7, skipL r))
  else .ok ((skipL r).take (wordLenL (skipL r)), (skipL r).drop (wordLenL (skipL r)))
def valL (l : List UInt8) : Nat := l.foldl (fun a c => 10 * a + (c.toNat - 48)) 0
def digsL (r : List UInt8) : List UInt8 := (skipL r).take (digLenL (skipL r))
def numL (most : Nat) (r : List UInt8) : R Nat :=
  if digLenL (skipL r) = 0 then .error (some (2, skipL r))
  else if (1 < digLenL (skipL r) ∧ (skipL r).head? = some 48) ∨ most < valL (digsL r) then .error (some (3, skipL r))
  else .ok (valL (digsL r), (skipL r).drop (digLenL (skipL r)))

structure Fld where
  name : List UInt8
  number : Nat
  kind : Nat
  type : List UInt8
  many : Bool
  choice : Nat
deriving DecidableEq
structure Msg where
  name : List UInt8
  fields : List Fld
  barred : List Nat
deriving DecidableEq
structure Itm where
  name : List UInt8
  value : Int
deriving DecidableEq
structure Enm where
  name : List UInt8
  items : List Itm
deriving DecidableEq
structure Fil where
  msgs : List Msg
  enums : List Enm
deriving DecidableEq

def mostN : Nat := 536870911
def resL : Nat → List Nat → List UInt8 → R (List Nat)
  | 0, _, _ => .error none
  | k + 1, acc, r =>
    match markL 44 r with
    | (true, t) => R.thn (numL mostN t) fun n u => resL k (acc ++ [n]) u
    | (false, t) => R.thn (mustL 59 t) fun _ u => .ok (acc, u)
def reservedL (k : Nat) (r : List UInt8) : R (List Nat) := R.thn (numL mostN r) fun n u => resL k [n] u

def wordsL : List (List UInt8) :=
  [[105, 110, 116, 54, 52], [115, 105, 110, 116, 54, 52], [117, 105, 110, 116, 54, 52], [98, 111, 111, 108], [], [102, 105, 120, 101, 100, 54, 52], [102, 105, 120, 101, 100, 51, 50], [115, 116, 114, 105, 110, 103], [98, 121, 116, 101, 115]]
def typeFrom : Nat → List (List UInt8) → List UInt8 → Nat × List UInt8
  | _, [], w => (10, w)
  | i, x :: xs, w => if x = w then (i, []) else typeFrom (i + 1) xs w
def typeL (w : List UInt8) : Nat × List UInt8 := typeFrom 1 wordsL w

def fieldL (many : Bool) (choice : Nat) (r : List UInt8) : R Fld :=
  R.thn (nameL r) fun ty u => R.thn (nameL u) fun nm u => R.thn (mustL 61 u) fun _ u => R.thn (numL mostN u) fun n u => R.thn (mustL 59 u) fun _ u =>
    .ok (⟨nm, n, (typeL ty).1, (typeL ty).2, many, choice⟩, u)

def choiceGo (ch : Nat) : Nat → List Fld → List UInt8 → R (List Fld)
  | 0, _, _ => .error none
  | k + 1, acc, r =>
    match markL 125 r with
    | (true, t) => .ok (acc, t)
    | (false, t) => R.thn (fieldL false ch t) fun f u => choiceGo ch k (acc ++ [f]) u
def choiceL (K ch : Nat) (r : List UInt8) : R (List Fld) := R.thn (mustL 123 r) fun _ u => choiceGo ch K [] u

def kwReserved : List UInt8 := [114, 101, 115, 101, 114, 118, 101, 100]
def kwOneof : List UInt8 := [111, 110, 101, 111, 102]
def kwRepeated : List UInt8 := [114, 101, 112, 101, 97, 116, 101, 100]
def kwMessage : List UInt8 := [109, 101, 115, 115, 97, 103, 101]
def kwEnum : List UInt8 := [101, 110, 117, 109]

def partL (K : Nat) (m : Msg) (ch : Nat) (r : List UInt8) : R (Msg × Nat) :=
  match keyL kwReserved r with
  | (true, t) => R.thn (reservedL K t) fun l u => .ok ((⟨m.name, m.fields, m.barred ++ l⟩, ch), u)
  | (false, t) =>
    match keyL kwOneof t with
    | (true, t) => R.thn (choiceL K (ch + 1) t) fun l u => .ok ((⟨m.name, m.fields ++ l, m.barred⟩, ch + 1), u)
    | (false, t) => R.thn (fieldL (keyL kwRepeated t).1 0 (keyL kwRepeated t).2) fun f u => .ok ((⟨m.name, m.fields ++ [f], m.barred⟩, ch), u)

def msgGo (K : Nat) : Nat → Msg → Nat → List UInt8 → R Msg
  | 0, _, _, _ => .error none
  | k + 1, m, ch, r =>
    match markL 125 r with
    | (true, t) => .ok (m, t)
    | (false, t) => R.thn (partL K m ch t) fun p u => if 16 < p.1.fields.length ∨ 16 < p.1.barred.length then .error (some (5, u)) else msgGo K k p.1 p.2 u
def messageL (K : Nat) (r : List UInt8) : R Msg := R.thn (nameL r) fun nm u => R.thn (mustL 123 u) fun _ u => msgGo K K ⟨nm, [], []⟩ 0 u

def itemL (r : List UInt8) : R Itm :=
  R.thn (nameL r) fun nm u => R.thn (mustL 61 u) fun _ u =>
    match markL 45 u with
    | (true, t) => R.thn (numL 2147483648 t) fun n u => R.thn (mustL 59 u) fun _ u => .ok (⟨nm, -(n : Int)⟩, u)
    | (false, t) => R.thn (numL 2147483647 t) fun n u => R.thn (mustL 59 u) fun _ u => .ok (⟨nm, (n : Int)⟩, u)
def enumGo : Nat → Enm → List UInt8 → R Enm
  | 0, _, _ => .error none
  | k + 1, e, r =>
    match markL 125 r with
    | (true, t) => .ok (e, t)
    | (false, t) => R.thn (itemL t) fun i u => if 16 < (e.items ++ [i]).length then .error (some (5, u)) else enumGo k ⟨e.name, e.items ++ [i]⟩ u
def enumL (K : Nat) (r : List UInt8) : R Enm := R.thn (nameL r) fun nm u => R.thn (mustL 123 u) fun _ u => enumGo K ⟨nm, []⟩ u

def defL (K : Nat) (f : Fil) (r : List UInt8) : R Fil :=
  match keyL kwMessage r with
  | (true, t) => R.thn (messageL K t) fun m u => .ok (⟨f.msgs ++ [m], f.enums⟩, u)
  | (false, t) =>
    match keyL kwEnum t with
    | (true, t) => R.thn (enumL K t) fun e u => .ok (⟨f.msgs, f.enums ++ [e]⟩, u)
    | (false, t) => .error (some (2, t))
def allGo (K : Nat) : Nat → Fil → List UInt8 → R Fil
  | 0, _, _ => .error none
  | k + 1, f, r =>
    if skipL r = [] then .ok (f, [])
    else R.thn (defL K f (skipL r)) fun g u => if 10 < g.msgs.length + g.enums.length then .error (some (5, u)) else allGo K k g u
def parseL (K : Nat) (l : List UInt8) : R Fil := allGo K K ⟨[], []⟩ l

theorem skipN_len (b : Bool) (l : List UInt8) : (skipN b l).length ≤ l.length := by
  induction l generalizing b with
  | nil => cases b <;> simp [skipN]
  | cons c r ih =>
    cases b with
    | true => rw [skipN]; have := ih (c != 10); simp; omega
    | false =>
      rw [skipN]
      split
      · have := ih false; simp; omega
      · split
        · have := ih true; simp; omega
        · exact Nat.le_refl _
theorem skipL_len (l : List UInt8) : (skipL l).length ≤ l.length := skipN_len false l

/-- What a text is from some byte on. -/
theorem skipN_suffix (b : Bool) (l : List UInt8) : ∃ k, k ≤ l.length ∧ skipN b l = l.drop k := by
  induction l generalizing b with
  | nil => exact ⟨0, Nat.le_refl _, by cases b <;> simp [skipN]⟩
  | cons c r ih =>
    cases b with
    | true => obtain ⟨k, hk, e⟩ := ih (c != 10); exact ⟨k + 1, by simp; omega, by rw [skipN, e]; simp⟩
    | false =>
      rw [skipN]
      split
      · obtain ⟨k, hk, e⟩ := ih false; exact ⟨k + 1, by simp; omega, by rw [e]; simp⟩
      · split
        · obtain ⟨k, hk, e⟩ := ih true; exact ⟨k + 1, by simp; omega, by rw [e]; simp⟩
        · exact ⟨0, by simp, rfl⟩

theorem skipN_note (l : List UInt8) : skipN true l = skipN false (l.dropWhile (fun c => c != 10)) := by
  induction l with
  | nil => simp [skipN]
  | cons c r ih =>
    rw [skipN]
    by_cases h : c = 10
    · subst h; simp [skipN]
    · have h1 : (c != 10) = true := by simp [h]
      rw [h1, ih]; simp [List.dropWhile, h1]

end Go.Proofs.YtenlijgnmhdopaaGreatDoor
