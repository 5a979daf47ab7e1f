import Derived.Laws.BitsAllLaws
import Derived.Test.YtelmjekjohbmjaaGreatDoorProg
import Derived.RowKit
import Derived.WalkKit
import Derived.WalkSpells
import Derived.WalkLawsBesides
import Derived.Lib.Strings
import Derived.BigQuiet
import Derived.Deep.QuietTactic
import Derived.Deep.RegionWith
import Derived.OwnWalk
import Derived.Laws.OwnMore
import Derived.Laws.Rows
import Derived.Deep.LoopGhost
/- Plain lists: a text's words, numbers, fields, messages, as chapter 2 reads them. Nothing of the program. -/
namespace Go.Proofs.YtelmjekjohbmjaaGreatDoor

def letB (c : UInt8) : Bool := (decide (97 ≤ c.toNat) && decide (c.toNat ≤ 122)) || (decide (65 ≤ c.toNat) && decide (c.toNat ≤ 90))
def digB (c : UInt8) : Bool := decide (48 ≤ c.toNat) && decide (c.toNat ≤ 57)
def moreB (c : UInt8) : Bool := letB c || digB c || c.toNat == 95

def wordLenL : List UInt8 → Nat
  | [] => 0
  | c :: r => if letB c then 1 + (r.takeWhile moreB).length else 0
def digLenL (l : List UInt8) : Nat := (l.takeWhile digB).length

/-- What is behind blanks and notes; the first word: within a note? -/
def skipN : Bool → List UInt8 → List UInt8
  | _, [] => []
  | true, c :: r => skipN (c != 10) r
  | false, c :: r => if c = 32 ∨ c = 10 then skipN false r else if c = 47 ∧ r.head? = some 47 then skipN true r else c :: r
def skipL (l : List UInt8) : List UInt8 := skipN false l

/-- An answer and what is behind it; or what is wrong, and what is from there on; none: not enough rounds. -/
abbrev R (α : Type) := Except (Option (Nat × List UInt8)) (α × List UInt8)
def R.thn {α β : Type} (x : R α) (f : α → List UInt8 → R β) : R β :=
  match x with
  | .error e => .error e
  | .ok (a, r) => f a r

def markL (c : UInt8) (r : List UInt8) : Bool × List UInt8 :=
  match skipL r with
  | [] => (false, [])
  | x :: t => if x = c then (true, t) else (false, x :: t)
def mustL (c : UInt8) (r : List UInt8) : R Unit :=
  match markL c r with
  | (true, t) => .ok ((), t)
  | (false, t) => .error (some (2, t))
def keyL (w : List UInt8) (r : List UInt8) : Bool × List UInt8 :=
  if (skipL r).take (wordLenL (skipL r)) = w then (true, (skipL r).drop w.length) else (false, skipL r)
def nameL (r : List UInt8) : R (List UInt8) :=
  if wordLenL (skipL r) = 0 then .error (some (2, skipL r))
  else if 16 < wordLenL (skipL r) then .error (some (7, skipL r))
  else .ok ((skipL r).take (wordLenL (skipL r)), (skipL r).drop (wordLenL (skipL r)))
def valL (l : List UInt8) : Nat := l.foldl (fun a c => 10 * a + (c.toNat - 48)) 0
def digsL (r : List UInt8) : List UInt8 := (skipL r).take (digLenL (skipL r))
def numL (most : Nat) (r : List UInt8) : R Nat :=
  if digLenL (skipL r) = 0 then .error (some (2, skipL r))
  else if (1 < digLenL (skipL r) ∧ (skipL r).head? = some 48) ∨ most < valL (digsL r) then .error (some (3, skipL r))
  else .ok (valL (digsL r), (skipL r).drop (digLenL (skipL r)))

structure Fld where
  name : List UInt8
  number : Nat
  kind : Nat
  type : List UInt8
  many : Bool
  choice : Nat
deriving DecidableEq
structure Msg where
  name : List UInt8
  fields : List Fld
  barred : List Nat
deriving DecidableEq
structure Itm where
  name : List UInt8
  value : Int
deriving DecidableEq
structure Enm where
  name : List UInt8
  items : List Itm
deriving DecidableEq
structure Fil where
  msgs : List Msg
  enums : List Enm
deriving DecidableEq

def mostN : Nat := 536870911
def resL : Nat → List Nat → List UInt8 → R (List Nat)
  | 0, _, _ => .error none
  | k + 1, acc, r =>
    match markL 44 r with
    | (true, t) => R.thn (numL mostN t) fun n u => resL k (acc ++ [n]) u
    | (false, t) => R.thn (mustL 59 t) fun _ u => .ok (acc, u)
def reservedL (k : Nat) (r : List UInt8) : R (List Nat) := R.thn (numL mostN r) fun n u => resL k [n] u

def wordsL : List (List UInt8) :=
  [[105, 110, 116, 54, 52], [115, 105, 110, 116, 54, 52], [117, 105, 110, 116, 54, 52], [98, 111, 111, 108], [], [102, 105, 120, 101, 100, 54, 52], [102, 105, 120, 101, 100, 51, 50], [115, 116, 114, 105, 110, 103], [98, 121, 116, 101, 115]]
def typeFrom : Nat → List (List UInt8) → List UInt8 → Nat × List UInt8
  | _, [], w => (10, w)
  | i, x :: xs, w => if x = w then (i, []) else typeFrom (i + 1) xs w
def typeL (w : List UInt8) : Nat × List UInt8 := typeFrom 1 wordsL w

def fieldL (many : Bool) (choice : Nat) (r : List UInt8) : R Fld :=
  R.thn (nameL r) fun ty u => R.thn (nameL u) fun nm u => R.thn (mustL 61 u) fun _ u => R.thn (numL mostN u) fun n u => R.thn (mustL 59 u) fun _ u =>
    .ok (⟨nm, n, (typeL ty).1, (typeL ty).2, many, choice⟩, u)

def choiceGo (ch : Nat) : Nat → List Fld → List UInt8 → R (List Fld)
  | 0, _, _ => .error none
  | k + 1, acc, r =>
    match markL 125 r with
    | (true, t) => .ok (acc, t)
    | (false, t) => R.thn (fieldL false ch t) fun f u => choiceGo ch k (acc ++ [f]) u
def choiceL (K ch : Nat) (r : List UInt8) : R (List Fld) := R.thn (mustL 123 r) fun _ u => choiceGo ch K [] u

def kwReserved : List UInt8 := [114, 101, 115, 101, 114, 118, 101, 100]
def kwOneof : List UInt8 := [111, 110, 101, 111, 102]
def kwRepeated : List UInt8 := [114, 101, 112, 101, 97, 116, 101, 100]
def kwMessage : List UInt8 := [109, 101, 115, 115, 97, 103, 101]
def kwEnum : List UInt8 := [101, 110, 117, 109]

def partL (K : Nat) (m : Msg) (ch : Nat) (r : List UInt8) : R (Msg × Nat) :=
  match keyL kwReserved r with
  | (true, t) => R.thn (reservedL K t) fun l u => .ok ((⟨m.name, m.fields, m.barred ++ l⟩, ch), u)
  | (false, t) =>
    match keyL kwOneof t with
    | (true, t) => R.thn (choiceL K (ch + 1) t) fun l u => .ok ((⟨m.name, m.fields ++ l, m.barred⟩, ch + 1), u)
    | (false, t) => R.thn (fieldL (keyL kwRepeated t).1 0 (keyL kwRepeated t).2) fun f u => .ok ((⟨m.name, m.fields ++ [f], m.barred⟩, ch), u)

def msgGo (K : Nat) : Nat → Msg → Nat → List UInt8 → R Msg
  | 0, _, _, _ => .error none
  | k + 1, m, ch, r =>
    match markL 125 r with
    | (true, t) => .ok (m, t)
    | (false, t) => R.thn (partL K m ch t) fun p u => if 16 < p.1.fields.length ∨ 16 < p.1.barred.length then .error (some (5, u)) else msgGo K k p.1 p.2 u
def messageL (K : Nat) (r : List UInt8) : R Msg := R.thn (nameL r) fun nm u => R.thn (mustL 123 u) fun _ u => msgGo K K ⟨nm, [], []⟩ 0 u

def itemL (r : List UInt8) : R Itm :=
  R.thn (nameL r) fun nm u => R.thn (mustL 61 u) fun _ u =>
    match markL 45 u with
    | (true, t) => R.thn (numL 2147483648 t) fun n u => R.thn (mustL 59 u) fun _ u => .ok (⟨nm, -(n : Int)⟩, u)
    | (false, t) => R.thn (numL 2147483647 t) fun n u => R.thn (mustL 59 u) fun _ u => .ok (⟨nm, (n : Int)⟩, u)
def enumGo : Nat → Enm → List UInt8 → R Enm
  | 0, _, _ => .error none
  | k + 1, e, r =>
    match markL 125 r with
    | (true, t) => .ok (e, t)
    | (false, t) => R.thn (itemL t) fun i u => if 16 < (e.items ++ [i]).length then .error (some (5, u)) else enumGo k ⟨e.name, e.items ++ [i]⟩ u
def enumL (K : Nat) (r : List UInt8) : R Enm := R.thn (nameL r) fun nm u => R.thn (mustL 123 u) fun _ u => enumGo K ⟨nm, []⟩ u

def defL (K : Nat) (f : Fil) (r : List UInt8) : R Fil :=
  match keyL kwMessage r with
  | (true, t) => R.thn (messageL K t) fun m u => .ok (⟨f.msgs ++ [m], f.enums⟩, u)
  | (false, t) =>
    match keyL kwEnum t with
    | (true, t) => R.thn (enumL K t) fun e u => .ok (⟨f.msgs, f.enums ++ [e]⟩, u)
    | (false, t) => .error (some (2, t))
def allGo (K : Nat) : Nat → Fil → List UInt8 → R Fil
  | 0, _, _ => .error none
  | k + 1, f, r =>
    if skipL r = [] then .ok (f, [])
    else R.thn (defL K f (skipL r)) fun g u => if 10 < g.msgs.length + g.enums.length then .error (some (5, u)) else allGo K k g u
def parseL (K : Nat) (l : List UInt8) : R Fil := allGo K K ⟨[], []⟩ l

theorem skipN_len (b : Bool) (l : List UInt8) : (skipN b l).length ≤ l.length := by
  induction l generalizing b with
  | nil => cases b <;> simp [skipN]
  | cons c r ih =>
    cases b with
    | true => rw [skipN]; have := ih (c != 10); simp; omega
    | false =>
      rw [skipN]
      split
      · have := ih false; simp; omega
      · split
        · have := ih true; simp; omega
        · exact Nat.le_refl _
theorem skipL_len (l : List UInt8) : (skipL l).length ≤ l.length := skipN_len false l

/-- What a text is from some byte on. -/
theorem skipN_suffix (b : Bool) (l : List UInt8) : ∃ k, k ≤ l.length ∧ skipN b l = l.drop k := by
  induction l generalizing b with
  | nil => exact ⟨0, Nat.le_refl _, by cases b <;> simp [skipN]⟩
  | cons c r ih =>
    cases b with
    | true => obtain ⟨k, hk, e⟩ := ih (c != 10); exact ⟨k + 1, by simp; omega, by rw [skipN, e]; simp⟩
    | false =>
      rw [skipN]
      split
      · obtain ⟨k, hk, e⟩ := ih false; exact ⟨k + 1, by simp; omega, by rw [e]; simp⟩
      · split
        · obtain ⟨k, hk, e⟩ := ih true; exact ⟨k + 1, by simp; omega, by rw [e]; simp⟩
        · exact ⟨0, by simp, rfl⟩

theorem skipN_note (l : List UInt8) : skipN true l = skipN false (l.dropWhile (fun c => c != 10)) := by
  induction l with
  | nil => simp [skipN]
  | cons c r ih =>
    rw [skipN]
    by_cases h : c = 10
    · subst h; simp [skipN]
    · have h1 : (c != 10) = true := by simp [h]
      rw [h1, ih]; simp [List.dropWhile, h1]

end Go.Proofs.YtelmjekjohbmjaaGreatDoor

/- For package link: the contracts of the small functions of package syntax that look at bytes. -/
namespace Go.Proofs.YtelmjekjohbmjaaGreatDoor
namespace L
open Go.RowKit

theorem ret_int {k : IntKind} {a b : Int} (h : a = b) : Ending.returned (.int k a) = .returned (.int k b) := by rw [h]
theorem ret_bool {a b : Bool} (h : a = b) : Ending.returned (.bool a) = .returned (.bool b) := by rw [h]

/-- A text of these bytes. -/
def S (l : List UInt8) : ByteArray := ⟨l.toArray⟩
theorem S_size (l : List UInt8) : (S l).size = l.length := by simp [S, ByteArray.size]
theorem S_list (l : List UInt8) : (S l).toList = l := by
  rw [ByteArray.toList_eq]; simp [S]
theorem S_inj {a b : List UInt8} (h : S a = S b) : a = b := by
  have := congrArg (fun x => x.data.toList) h; simpa [S] using this

set_option maxHeartbeats 1000000 in
theorem isLetter_any (c : UInt8) (w : World) : Calls Tryz.prog 144 #[.int .u8 (c.toNat : Int)] w fun e w' => e = .returned (.bool (letB c)) ∧ w = w' := by
  obtain ⟨X, HX⟩ : ∃ X : Nat, Hid (X = c.toNat) := ⟨_, rfl⟩
  have HL : Hid (letB c = ((decide (97 ≤ X) && decide (X ≤ 122)) || (decide (65 ≤ X) && decide (X ≤ 90)))) := by show _ = _; rw [HX.out]; rfl
  have hX : X < 256 := by rw [HX.out]; exact UInt8.toNat_lt _
  rw [← HX.out, HL.out]
  clear HX HL
  by_cases h1 : 97 ≤ X
  · by_cases h2 : X ≤ 122
    · go_enter Tryz.func144, Tryz.ntmps144
      go_wp2
      all_goals (go_ret; refine ⟨ret_bool ?_, rfl⟩; (try rw [Bool.eq_iff_iff]); (try simp); (try omega))
    · go_enter Tryz.func144, Tryz.ntmps144
      go_wp2
      all_goals (go_ret; refine ⟨ret_bool ?_, rfl⟩; (try rw [Bool.eq_iff_iff]); (try simp); (try omega))
  · go_enter Tryz.func144, Tryz.ntmps144
    go_wp2
    all_goals (go_ret; refine ⟨ret_bool ?_, rfl⟩; (try rw [Bool.eq_iff_iff]); (try simp); (try omega))

set_option maxHeartbeats 1000000 in
theorem isDigit_any (c : UInt8) (w : World) : Calls Tryz.prog 145 #[.int .u8 (c.toNat : Int)] w fun e w' => e = .returned (.bool (digB c)) ∧ w = w' := by
  obtain ⟨X, HX⟩ : ∃ X : Nat, Hid (X = c.toNat) := ⟨_, rfl⟩
  have HL : Hid (digB c = (decide (48 ≤ X) && decide (X ≤ 57))) := by show _ = _; rw [HX.out]; rfl
  have hX : X < 256 := by rw [HX.out]; exact UInt8.toNat_lt _
  rw [← HX.out, HL.out]
  clear HX HL
  by_cases h1 : 48 ≤ X
  · go_enter Tryz.func145, Tryz.ntmps145
    go_wp2
    all_goals (go_ret; refine ⟨ret_bool ?_, rfl⟩; (try rw [Bool.eq_iff_iff]); (try simp); (try omega))
  · go_enter Tryz.func145, Tryz.ntmps145
    go_wp2
    all_goals (go_ret; refine ⟨ret_bool ?_, rfl⟩; (try rw [Bool.eq_iff_iff]); (try simp); (try omega))

theorem S_get (l : List UInt8) (k : Nat) (h : k < (S l).size) : (S l)[k]'h = l.getD k 0 := by
  have hk : k < l.length := by rw [← S_size]; exact h
  have e : (S l)[k]'h = l[k]'hk := rfl
  rw [e]; simp [hk]
theorem to_S (l : List UInt8) (k : Nat) (hk : k ≤ l.length) (w : World) : (Instr.slice 9 (.string (S l)) none (some (.int .i64 (k : Int))) none).run Tryz.prog w = .ok (.string (S (l.take k))) w := by
  rw [run_slice_string_h (ht := Tryz.underlying9) (h0 := by omega) (h2 := by rw [S_size]; omega)]
  rw [Lib.extract_eq]; simp [S]
theorem from_S (l : List UInt8) (k : Nat) (hk : k ≤ l.length) (w : World) : (Instr.slice 9 (.string (S l)) (some (.int .i64 (k : Int))) none none).run Tryz.prog w = .ok (.string (S (l.drop k))) w := by
  rw [run_slice_string_l (ht := Tryz.underlying9) (h0 := by omega) (h1 := by rw [S_size]; omega)]
  rw [Lib.extract_eq]; simp [S, ByteArray.size]; exact List.take_of_length_le (by simp)
theorem tw_step {p : UInt8 → Bool} {l : List UInt8} {k : Nat} (hlt : k < l.length) (h : p (l.getD k 0) = true) : ((l.drop k).takeWhile p).length = 1 + ((l.drop (k + 1)).takeWhile p).length := by
  have e : l.getD k 0 = l[k] := by simp [hlt]
  rw [List.drop_eq_getElem_cons hlt, List.takeWhile_cons, if_pos (by rw [← e]; exact h)]; simp; omega
theorem tw_stop {p : UInt8 → Bool} {l : List UInt8} {k : Nat} (hlt : k < l.length) (h : p (l.getD k 0) = false) : ((l.drop k).takeWhile p).length = 0 := by
  have e : l.getD k 0 = l[k] := by simp [hlt]
  rw [List.drop_eq_getElem_cons hlt, List.takeWhile_cons, if_neg (by rw [← e, h]; simp)]; rfl
theorem S_nil : S [] = { data := #[] } := rfl

set_option maxHeartbeats 1000000 in
set_option maxRecDepth 100000 in
theorem wordLength_any (l : List UInt8) (hl : l.length ≤ 9223372036854775807) (w : World) : Calls Tryz.prog 118 #[.string (S l)] w fun e w' => e = .returned (.int .i64 (wordLenL l : Int)) ∧ w = w' := by
  have hsz := S_size l
  have hli := S_list l
  cases l with
  | nil =>
    go_enter Tryz.func118, Tryz.ntmps118
    go_wp2
    go_ret
    exact ⟨rfl, rfl⟩
  | cons c r =>
    have hem : (S (c :: r)).toList.isEmpty = false := by rw [S_list]; rfl
    by_cases h0 : letB c = true
    · have HW : Hid (wordLenL (c :: r) = 1 + ((c :: r).drop 1 |>.takeWhile moreB).length) := by show _ = _; simp [wordLenL, h0]
      have hL : ∀ h, letB ((S (c :: r))[0]'h) = true := by intro h; rw [S_get]; exact h0
      obtain ⟨l, Hl⟩ : ∃ l, Hid (l = c :: r) := ⟨_, rfl⟩
      rw [← Hl.out] at HW hL hem hli hsz hl ⊢
      have hlen : 1 ≤ l.length := by rw [Hl.out]; simp
      clear Hl h0 hli
      go_enter Tryz.func118, Tryz.ntmps118
      go_wp2_with fail
      refine (isLetter_any _ _).mono ?_
      rintro e w1 ⟨rfl, rfl⟩
      rw [hL]
      clear hL
      go_wp2
      go_loop [3] (fun n => ∃ k : Nat, 1 ≤ k ∧ k ≤ l.length ∧ n = .int .i64 k ∧ Hid (wordLenL l = k + ((l.drop k).takeWhile moreB).length)) (fun n => l.length - (intOf n).toNat)
      case atStart => exact ⟨1, Nat.le_refl _, hlen, rfl, HW⟩
      case round =>
        obtain ⟨k, hk1, hk, rfl, HR⟩ := hrel
        by_cases hlt : k < l.length
        · have hx : ∀ h, (S l)[k]'h = l.getD k 0 := S_get l k
          obtain ⟨x, Hx⟩ : ∃ x, Hid (x = l.getD k 0) := ⟨_, rfl⟩
          have hx' : ∀ h, (S l)[k]'h = x := by intro h; rw [S_get, Hx.out]
          clear hx
          go_wp2_with fail
          refine (isLetter_any _ _).mono ?_
          rintro e w1 ⟨rfl, rfl⟩
          by_cases h1 : letB x = true
          · rw [h1]
            go_wp2
            go_round
            case rel => exact ⟨k + 1, by omega, by omega, by go_num, by show _ = _; rw [HR.out, tw_step hlt (by rw [← Hx.out]; simp [moreB, h1])]; omega⟩
            case measure => simp [intOf]; omega
          · rw [Bool.eq_false_iff.2 h1]
            go_wp2_with fail
            refine (isDigit_any _ _).mono ?_
            rintro e w1 ⟨rfl, rfl⟩
            by_cases h2 : digB x = true
            · rw [h2]
              go_wp2
              go_round
              case rel => exact ⟨k + 1, by omega, by omega, by go_num, by show _ = _; rw [HR.out, tw_step hlt (by rw [← Hx.out]; simp [moreB, h2])]; omega⟩
              case measure => simp [intOf]; omega
            · rw [Bool.eq_false_iff.2 h2]
              by_cases h3 : x.toNat = 95
              · have h3' : ((x.toNat : Int) == 95) = true := beq_iff_eq.2 (by omega)
                go_wp2
                go_round
                case rel => exact ⟨k + 1, by omega, by omega, by go_num, by show _ = _; rw [HR.out, tw_step hlt (by rw [← Hx.out]; simp [moreB, h3])]; omega⟩
                case measure => simp [intOf]; omega
              · have h3' : ((x.toNat : Int) == 95) = false := beq_eq_false_iff_ne.2 (by omega)
                have h4 : moreB x = false := by simp [moreB, Bool.eq_false_iff.2 h1, Bool.eq_false_iff.2 h2, h3]
                go_wp2
                go_ret
                refine ⟨ret_int ?_, rfl⟩
                rw [HR.out, tw_stop hlt (by rw [← Hx.out]; exact h4)]
                simp
        · go_wp2
          go_ret
          refine ⟨ret_int ?_, rfl⟩
          rw [HR.out, List.drop_eq_nil_of_le (by omega)]
          simp
    · have hL : ∀ h, letB ((S (c :: r))[0]'h) = false := by intro h; rw [S_get]; exact Bool.eq_false_iff.2 h0
      have HW : Hid (wordLenL (c :: r) = 0) := by show _ = _; simp [wordLenL, h0]
      go_enter Tryz.func118, Tryz.ntmps118
      go_wp2_with fail
      refine (isLetter_any _ _).mono ?_
      rintro e w1 ⟨rfl, rfl⟩
      rw [hL]
      clear hL
      go_wp2
      go_ret
      exact ⟨ret_int (by rw [HW.out]; rfl), rfl⟩


end L
end Go.Proofs.YtelmjekjohbmjaaGreatDoor

/- For package link: lists that a call makes; what lies in a block. -/
namespace Go.Proofs.YtelmjekjohbmjaaGreatDoor
namespace L
open Go.RowKit

/-- A kind of list: its element's type, how an entry lies in memory. -/
structure EK (α : Type) where
  elem : TypeId
  slice : TypeId
  size : Nat
  bytes : Nat
  zero : Value
  enc : α → List Value
  under : Tryz.prog.underlying slice = some (.slice elem)
  info : (Tryz.prog.info? elem).map (fun i => (i.zero, i.size, i.bytes)) = some (some zero, size, bytes)
  zs : zero.cells.size = size
  pos : 0 < size
  small : bytes ≤ 1000
  len : ∀ a, (enc a).length = size
  one : ∀ a, ∀ u ∈ enc a, u.oneCell' = true

def EK.flat {α : Type} (E : EK α) (l : List α) : List Value := l.flatMap E.enc
theorem EK.flat_len {α : Type} (E : EK α) (l : List α) : (E.flat l).length = l.length * E.size := by
  unfold EK.flat
  induction l with
  | nil => simp
  | cons a r ih => rw [List.flatMap_cons, List.length_append, ih, E.len, List.length_cons, Nat.succ_mul, Nat.add_comm]
theorem EK.flat_append {α : Type} (E : EK α) (l m : List α) : E.flat (l ++ m) = E.flat l ++ E.flat m := by simp [EK.flat]
theorem EK.flat_at {α : Type} (E : EK α) (l : List α) (i j : Nat) (a : α) (h : l[i]? = some a) (hj : j < E.size) : (E.flat l)[i * E.size + j]? = (E.enc a)[j]? := by
  unfold EK.flat
  induction l generalizing i with
  | nil => simp at h
  | cons q r ih =>
    rw [List.flatMap_cons]
    cases i with
    | zero =>
      simp at h
      subst h
      rw [Nat.zero_mul, Nat.zero_add, List.getElem?_append_left (by rw [E.len]; exact hj)]
    | succ i =>
      have h' : r[i]? = some a := by simpa using h
      rw [← ih i h', show (i + 1) * E.size + j = (E.enc q).length + (i * E.size + j) by rw [E.len, Nat.succ_mul]; omega,
        List.getElem?_append_right (Nat.le_add_right _ _), Nat.add_sub_cancel_left]

/-- A list that the call itself made, from block base on. -/
def Row {α : Type} (E : EK α) (w : World) (base : Nat) (v : Value) (l : List α) : Prop := w.ownsRow base E.elem E.size v l.length (E.flat l)

section
variable {α : Type} {E : EK α} {w w' : World} {base b : Nat} {v : Value} {l : List α}
theorem Row.nil (E : EK α) (w : World) (base : Nat) : Row E w base (.slice none 0 0) [] := World.ownsRow_nil _ _ _ _
theorem Row.keep (h : Row E w base v l) (hb : ∀ k, base ≤ k → k < w.heap.size → w'.heap[k]? = w.heap[k]?) : Row E w' base v l := by
  refine ⟨h.1, ?_⟩
  rcases h.2 with hn | ⟨g, cap, cur, hv, hbg, hg, r⟩
  · exact .inl hn
  · exact .inr ⟨g, cap, cur, hv, hbg, by rw [hb g hbg (Array.getElem?_eq_some_iff.1 hg).1]; exact hg, r⟩
theorem Row.below (h : Row E w base v l) (hk : Below w.heap.size w w') : Row E w' base v l := h.keep fun k _ h2 => hk.block k h2
theorem Row.mono {base' : Nat} (h : Row E w base v l) (hb : base' ≤ base) : Row E w base' v l := by
  refine ⟨h.1, ?_⟩
  rcases h.2 with hn | ⟨g, cap, cur, hv, hbg, r⟩
  · exact .inl hn
  · exact .inr ⟨g, cap, cur, hv, Nat.le_trans hb hbg, r⟩
theorem Row.own (h : Row E w base v l) : ∀ k, v.ownBlock = some k → base ≤ k ∧ k < w.heap.size := World.ownsRow.lt h
theorem Row.ne {β : Type} {F : EK β} {base' : Nat} {v' : Value} {l' : List β} (h : Row E w base v l) (h' : Row F w base' v' l') (hne : E.elem ≠ F.elem) : v.ownBlock = none ∨ v.ownBlock ≠ v'.ownBlock := by
  rcases h.2 with ⟨hv, _⟩ | ⟨g, cap, cur, hv, _, hg, _⟩
  · left; rw [hv]; rfl
  · rcases h'.2 with ⟨hv', _⟩ | ⟨g', cap', cur', hv', _, hg', _⟩
    · right; rw [hv, hv']; simp [Value.ownBlock]
    · right
      rw [hv, hv']
      simp only [Value.ownBlock, ne_eq, Option.some.injEq]
      intro e
      rw [e, hg'] at hg
      simp at hg
      exact hne hg.2.symm
theorem Row.grown {row : Option Nat} (h : Row E w base v l) (hg : w.grownBy w' row) (hne : v.ownBlock = none ∨ v.ownBlock ≠ row) : Row E w' base v l := World.ownsRow.kept h hg hne
theorem Row.shape (h : Row E w base v l) : ∃ ao cap, v = .slice ao l.length cap := by
  rcases h.2 with ⟨hv, hn⟩ | ⟨g, cap, cur, hv, _⟩
  · exact ⟨none, 0, by rw [hv, hn]⟩
  · exact ⟨_, cap, hv⟩
theorem Row.one (E : EK α) (w : World) (a : α) (hb : base ≤ w.heap.size) : Row E (w.alloc (.cells (E.enc a).toArray E.elem)) base (.slice (some ⟨w.heap.size, 0, none⟩) 1 1) [a] := by
  refine ⟨E.flat_len [a], .inr ⟨w.heap.size, 1, _, rfl, hb, heap_alloc_new w _, Nat.le_refl _, by unfold maxLen; omega, by simp [E.len], ?_⟩⟩
  have : (E.enc a).length = ([a] : List α).length * E.size := by rw [E.len]; simp
  simp only [EK.flat, List.flatMap_cons, List.flatMap_nil, List.append_nil]
  rw [← this]
  simp

/-- 'append(v, u...)', v the call's own, u a list that some call made. -/
theorem wp_app {o : Oper} {a : Act} {K : Act → World → Prop} {Q : Exit → Act → World → Prop} (E : EK α) (s x : Operand)
    (ho : o.op = .call { callee := .builtin .append, args := #[s, x], argTypes := #[E.slice, E.slice] })
    (base : Nat) (v : Value) (l m : List α) (hs : a.eval s = v) (hown : Row E w base v l) (base' : Nat) (u : Value) (hx : a.eval x = u) (hsrc : Row E w base' u m)
    (hlen : l.length + m.length ≤ 1000000) (hb : base ≤ w.heap.size)
    (h : ∀ v' w', Row E w' base v' (l ++ m) → w.grownBy w' v.ownBlock → K (a.put o.dst v') w') : o.wp Tryz.prog a w K Q := by
  obtain ⟨i0, hi, hz0, hz1, hz2⟩ := info_parts E.info
  rcases hsrc.2 with ⟨hu, hn⟩ | ⟨g, cap, cur, hu, hbg, hg, hn, hm, hsz, ht⟩
  · have hqs : m = [] := List.eq_nil_of_length_eq_zero hn
    subst hqs
    have hrun := run_append_owned_none (P := Tryz.prog) (w := w) base E.slice o.type E.elem i0 E.size E.under hi v l.length (E.flat l) hown
    rw [hu] at hx
    unfold Oper.wp
    simp [execOp, ho, resolve, invoke, builtin, hs, hx, hrun, Result.andThen]
    exact h v w (by rw [List.append_nil]; exact hown) ⟨rfl, rfl, rfl, Nat.le_refl _, fun _ _ _ => rfl⟩
  · rw [hu] at hx
    refine wp_append_own w s x E.slice ho base E.elem i0 _ E.size E.bytes E.under hi hz0 hz1 hz2 E.zs E.pos v l.length _ hs hown ⟨g, 0, none⟩ m.length cap
      (E.flat m) hx (E.flat_len m) (World.ownsRow.cells hsrc (g := g) (by rw [hu]; rfl)) ?_ (by unfold maxLen; omega) ?_ hb ?_
    · intro y hy
      simp only [EK.flat, List.mem_flatMap] at hy
      obtain ⟨p, hp, hy⟩ := hy
      exact E.one p y hy
    · exact Nat.le_trans (Nat.mul_le_mul hlen E.small) (by decide)
    · intro v' w' h1 h2 _
      refine h v' w' ?_ h2
      show w'.ownsRow base E.elem E.size v' (l ++ m).length (E.flat (l ++ m))
      rw [List.length_append, E.flat_append]
      exact h1
theorem wpList_app {ops : Array Oper} {rest : List Oper} {o : Oper} {a : Act} {Q : Exit → Act → World → Prop} (hgd : o.guard = none) (E : EK α) (s x : Operand)
    (ho : o.op = .call { callee := .builtin .append, args := #[s, x], argTypes := #[E.slice, E.slice] })
    (base : Nat) (v : Value) (l m : List α) (hs : a.eval s = v) (hown : Row E w base v l) (base' : Nat) (u : Value) (hx : a.eval x = u) (hsrc : Row E w base' u m)
    (hlen : l.length + m.length ≤ 1000000) (hb : base ≤ w.heap.size)
    (h : ∀ v' w', Row E w' base v' (l ++ m) → w.grownBy w' v.ownBlock → wpList Tryz.prog ops Q rest (a.put o.dst v') w') : wpList Tryz.prog ops Q (o :: rest) a w :=
  wpList_plain hgd fun _ hK => wp_app E s x ho base v l m hs hown base' u hx hsrc hlen hb fun v' w' h2 h3 => hK _ _ (h v' w' h2 h3)
end

def wordCells : Array Value := (wordsL.map fun l => Value.string (S l)).toArray
set_option maxHeartbeats 1000000 in
theorem words_any (w : World) : Calls Tryz.prog 119 #[] w fun e w' => e = .returned (.slice (some ⟨w.heap.size, 0, none⟩) 9 9) ∧ w.alloc (.cells wordCells 9) = w' := by
  go_enter Tryz.func119, Tryz.ntmps119
  go_wp2
  go_ret
  exact ⟨rfl, rfl⟩
theorem wordCells_at (k : Nat) (hk : k < 9) : wordCells[k]? = some (.string (S (wordsL.getD k []))) := by
  have : k < wordsL.length := hk
  simp [wordCells, this]
theorem cell_of_blk {w : World} {g : Nat} {cs : Array Value} {t : TypeId} {fr : Nat × Nat} (h : w.heap[g]? = some (.cells cs t fr)) (i : Nat) (v : Value) (hi : cs[i]? = some v) : w.cell? ⟨g, i, none⟩ = some v := by
  simp [World.cell?, h, hi]
theorem fr_of_blk {w : World} {g : Nat} {cs : Array Value} {t : TypeId} (h : w.heap[g]? = some (.cells cs t (0, 0))) (i : Nat) : w.frozen? ⟨g, i, none⟩ = false := by
  simp [World.frozen?, h]
theorem alloc2_new (w : World) (o o' : Obj) : ((w.alloc o).alloc o').heap[w.heap.size + 1]? = some o' := by
  have := heap_alloc_new (w.alloc o) o'
  rwa [show (w.alloc o).heap.size = w.heap.size + 1 by simp] at this
theorem alloc2_old (w : World) (o o' : Obj) : ((w.alloc o).alloc o').heap[w.heap.size]? = some o := by
  rw [Below.heap_alloc _ _ _ (by simp)]; exact heap_alloc_new w o
theorem blk6 {w : World} {g : Nat} {a0 a1 a2 a3 a4 a5 : Value} {t : TypeId} (h : w.heap[g]? = some (.cells #[a0, a1, a2, a3, a4, a5] t (0, 0))) :
    w.cell? ⟨g, 0, none⟩ = some a0 ∧ w.cell? ⟨g, 1, none⟩ = some a1 ∧ w.cell? ⟨g, 2, none⟩ = some a2 ∧ w.cell? ⟨g, 3, none⟩ = some a3 ∧ w.cell? ⟨g, 4, none⟩ = some a4 ∧ w.cell? ⟨g, 5, none⟩ = some a5 :=
  ⟨cell_of_blk h 0 _ rfl, cell_of_blk h 1 _ rfl, cell_of_blk h 2 _ rfl, cell_of_blk h 3 _ rfl, cell_of_blk h 4 _ rfl, cell_of_blk h 5 _ rfl⟩
theorem blk2 {w : World} {g : Nat} {a0 a1 : Value} {t : TypeId} (h : w.heap[g]? = some (.cells #[a0, a1] t (0, 0))) :
    w.cell? ⟨g, 0, none⟩ = some a0 ∧ w.cell? ⟨g, 1, none⟩ = some a1 := ⟨cell_of_blk h 0 _ rfl, cell_of_blk h 1 _ rfl⟩
theorem blk3 {w : World} {g : Nat} {a0 a1 a2 : Value} {t : TypeId} (h : w.heap[g]? = some (.cells #[a0, a1, a2] t (0, 0))) :
    w.cell? ⟨g, 0, none⟩ = some a0 ∧ w.cell? ⟨g, 1, none⟩ = some a1 ∧ w.cell? ⟨g, 2, none⟩ = some a2 := ⟨cell_of_blk h 0 _ rfl, cell_of_blk h 1 _ rfl, cell_of_blk h 2 _ rfl⟩
theorem Row.other {α : Type} {E : EK α} {w : World} {base g : Nat} {v : Value} {l : List α} (h : Row E w base v l) (hne : v.ownBlock ≠ some g) (i : Nat) (x : Value) : Row E (w.setCell ⟨g, i, none⟩ x) base v l := by
  refine ⟨h.1, ?_⟩
  rcases h.2 with hn | ⟨g', cap, cur, hv, hbg, hg, r⟩
  · exact .inl hn
  · refine .inr ⟨g', cap, cur, hv, hbg, ?_, r⟩
    rw [Below.heap_setCell _ _ _ _ (by intro e; apply hne; rw [hv]; simp [Value.ownBlock]; exact e)]
    exact hg
theorem Row.ne_blk {α : Type} {E : EK α} {w : World} {base g : Nat} {v : Value} {l : List α} (h : Row E w base v l) {cs : Array Value} {t : TypeId} {fr : Nat × Nat} (hb : w.heap[g]? = some (.cells cs t fr)) (ht : t ≠ E.elem) : v.ownBlock ≠ some g := by
  rcases h.2 with ⟨hv, _⟩ | ⟨g', cap, cur, hv, _, hg, _⟩
  · rw [hv]; simp [Value.ownBlock]
  · rw [hv]
    simp only [Value.ownBlock, ne_eq, Option.some.injEq]
    intro e
    rw [e, hb] at hg
    simp at hg
    exact ht hg.2.1
theorem add_plain (b o i : Nat) : (⟨b, o, none⟩ : Addr).add i = ⟨b, o + i, none⟩ := by unfold Addr.add; split <;> simp_all
/-- An entry of a list: where it lies, and its cells. -/
theorem Row.get {α : Type} {E : EK α} {w : World} {base : Nat} {ao : Option Addr} {n cap : Nat} {l : List α} (h : Row E w base (.slice ao n cap) l) {k : Nat} {a : α} (ha : l[k]? = some a) :
    ∃ g, ao = some ⟨g, 0, none⟩ ∧ ∀ j u, (E.enc a)[j]? = some u → w.cell? ⟨g, k * E.size + j, none⟩ = some u := by
  rcases h.2 with ⟨hv, hn⟩ | ⟨g, cap', cur, hv, hbg, hg, r⟩
  · rw [List.eq_nil_of_length_eq_zero hn] at ha; simp at ha
  · simp at hv
    obtain ⟨rfl, rfl, rfl⟩ := hv
    refine ⟨g, rfl, ?_⟩
    intro j u hu
    have hj : j < E.size := by
      rw [← E.len a]
      rcases Nat.lt_or_ge j (E.enc a).length with h1 | h1
      · exact h1
      · rw [List.getElem?_eq_none h1] at hu; cases hu
    have := World.ownsRow.cells h (g := g) rfl (k * E.size + j) u (by rw [E.flat_at l k j a ha hj]; exact hu)
    rw [add_plain, Nat.zero_add] at this
    exact this
theorem Row.len {α : Type} {E : EK α} {w : World} {base : Nat} {ao : Option Addr} {n cap : Nat} {l : List α} (h : Row E w base (.slice ao n cap) l) : n = l.length := by
  obtain ⟨ao', cap', e⟩ := h.shape
  simp at e
  exact e.2.1

end L
end Go.Proofs.YtelmjekjohbmjaaGreatDoor

/- Files as they come in: plain data, and where they lie. -/
namespace Go.Proofs.YtelmjekjohbmjaaGreatDoor
namespace L
open Go.RowKit

structure FI where
  name : List UInt8
  number : Int
  kind : Int
  type : List UInt8
  many : Bool
  choice : Int
deriving DecidableEq
structure MI where
  name : List UInt8
  fields : List FI
  barred : List Int
deriving DecidableEq
structure II where
  name : List UInt8
  value : Int
deriving DecidableEq
structure EI where
  name : List UInt8
  items : List II
deriving DecidableEq
structure GI where
  msgs : List MI
  enums : List EI
deriving DecidableEq

/-- A list that can be read: entry k lies sz cells behind entry k - 1. -/
def RdL {α : Type} (sz : Nat) (P : World → Addr → α → Prop) (w : World) (v : Value) (l : List α) : Prop :=
  ∃ ao n cap, v = .slice ao n cap ∧ l.length = n ∧ n ≤ cap ∧ cap ≤ maxLen ∧ (ao = none → n = 0 ∧ cap = 0) ∧ ∀ x, ao = some x → ∀ k a, l[k]? = some a → P w (x.add (k * sz)) a
def Stays {α : Type} (P : World → Addr → α → Prop) : Prop := ∀ (w w' : World) (x : Addr) (a : α), Below w.heap.size w w' → P w x a → P w' x a
theorem cell_below {w w' : World} {x : Addr} {v : Value} (hb : Below w.heap.size w w') (h : w.cell? x = some v) : w'.cell? x = some v := by
  rw [hb.cell (World.block_lt_of_cell? w x h)]; exact h
theorem RdL.below {α : Type} {sz : Nat} {P : World → Addr → α → Prop} (hP : Stays P) {w w' : World} {v : Value} {l : List α} (h : RdL sz P w v l) (hb : Below w.heap.size w w') : RdL sz P w' v l := by
  obtain ⟨ao, n, cap, rfl, h1, h2, h3, h4, h5⟩ := h
  exact ⟨ao, n, cap, rfl, h1, h2, h3, h4, fun x hx k a ha => hP w w' _ a hb (h5 x hx k a ha)⟩
theorem RdL.nil {α : Type} (sz : Nat) (P : World → Addr → α → Prop) (w : World) : RdL sz P w (.slice none 0 0) [] := ⟨none, 0, 0, rfl, rfl, Nat.le_refl _, by unfold maxLen; omega, fun _ => ⟨rfl, rfl⟩, fun x hx => by cases hx⟩

def SAt (w : World) (x : Addr) (s : List UInt8) : Prop := w.cell? x = some (.string (S s))
def NAt (w : World) (x : Addr) (n : Int) : Prop := w.cell? x = some (.int .i64 n)
def FAt (w : World) (x : Addr) (f : FI) : Prop := w.cell? x = some (.string (S f.name)) ∧ w.cell? (x.add 1) = some (.int .i64 f.number) ∧ w.cell? (x.add 2) = some (.int .i64 f.kind) ∧ w.cell? (x.add 3) = some (.string (S f.type)) ∧ w.cell? (x.add 4) = some (.bool f.many) ∧ w.cell? (x.add 5) = some (.int .i64 f.choice)
def TAt (w : World) (x : Addr) (i : II) : Prop := w.cell? x = some (.string (S i.name)) ∧ w.cell? (x.add 1) = some (.int .i64 i.value)
theorem SAt.stays : Stays SAt := fun _ _ _ _ hb h => cell_below hb h
theorem NAt.stays : Stays NAt := fun _ _ _ _ hb h => cell_below hb h
theorem FAt.stays : Stays FAt := fun _ _ _ _ hb h => ⟨cell_below hb h.1, cell_below hb h.2.1, cell_below hb h.2.2.1, cell_below hb h.2.2.2.1, cell_below hb h.2.2.2.2.1, cell_below hb h.2.2.2.2.2⟩
theorem TAt.stays : Stays TAt := fun _ _ _ _ hb h => ⟨cell_below hb h.1, cell_below hb h.2⟩
def MAt (w : World) (x : Addr) (m : MI) : Prop := ∃ vf vb, w.cell? x = some (.string (S m.name)) ∧ w.cell? (x.add 1) = some vf ∧ w.cell? (x.add 2) = some vb ∧ RdL 6 FAt w vf m.fields ∧ RdL 1 NAt w vb m.barred
def EAt (w : World) (x : Addr) (e : EI) : Prop := ∃ vi, w.cell? x = some (.string (S e.name)) ∧ w.cell? (x.add 1) = some vi ∧ RdL 2 TAt w vi e.items
theorem MAt.stays : Stays MAt := fun _ _ _ _ hb ⟨vf, vb, h1, h2, h3, h4, h5⟩ => ⟨vf, vb, cell_below hb h1, cell_below hb h2, cell_below hb h3, h4.below FAt.stays hb, h5.below NAt.stays hb⟩
theorem EAt.stays : Stays EAt := fun _ _ _ _ hb ⟨vi, h1, h2, h3⟩ => ⟨vi, cell_below hb h1, cell_below hb h2, h3.below TAt.stays hb⟩
def GRd (w : World) (vm ve : Value) (g : GI) : Prop := RdL 3 MAt w vm g.msgs ∧ RdL 2 EAt w ve g.enums
theorem GRd.below {w w' : World} {vm ve : Value} {g : GI} (h : GRd w vm ve g) (hb : Below w.heap.size w w') : GRd w' vm ve g := ⟨h.1.below MAt.stays hb, h.2.below EAt.stays hb⟩

/-- The list of a call's own, of strings, of numbers. -/
def encS (l : List UInt8) : List Value := [.string (S l)]
def ekS : EK (List UInt8) where
  elem := 9
  slice := 87
  size := 1
  bytes := 16
  zero := .string ⟨#[]⟩
  enc := encS
  under := Tryz.underlying87
  info := by kernel_rfl
  zs := rfl
  pos := by decide
  small := by decide
  len := fun _ => rfl
  one := by intro a u hu; simp only [encS, List.mem_singleton] at hu; subst hu; rfl
def encN (n : Int) : List Value := [.int .i64 n]
def ekN : EK Int where
  elem := 3
  slice := 46
  size := 1
  bytes := 8
  zero := .int .i64 0
  enc := encN
  under := Tryz.underlying46
  info := by kernel_rfl
  zs := rfl
  pos := by decide
  small := by decide
  len := fun _ => rfl
  one := by intro a u hu; simp only [encN, List.mem_singleton] at hu; subst hu; rfl
theorem Row.rd {α : Type} {E : EK α} {w : World} {base : Nat} {v : Value} {l : List α} (h : Row E w base v l) (P : World → Addr → α → Prop) (hP : ∀ g i a, (∀ j u, (E.enc a)[j]? = some u → w.cell? ⟨g, i + j, none⟩ = some u) → P w ⟨g, i, none⟩ a) : RdL E.size P w v l := by
  obtain ⟨ao, cap, rfl⟩ := h.shape
  refine ⟨ao, l.length, cap, rfl, rfl, ?_, ?_, ?_, ?_⟩
  · rcases h.2 with ⟨hv, hn⟩ | ⟨g, cap', cur, hv, _, _, hc, _⟩
    · simp at hv; omega
    · simp at hv; omega
  · rcases h.2 with ⟨hv, hn⟩ | ⟨g, cap', cur, hv, _, _, _, hm, _⟩
    · simp at hv; unfold maxLen; omega
    · simp at hv; rw [hv.2]; exact hm
  · intro e
    subst e
    rcases h.2 with ⟨hv, hn⟩ | ⟨g, cap', cur, hv, _⟩
    · simp at hv; exact ⟨hn, hv.2⟩
    · simp at hv
  · intro x hx k a ha
    obtain ⟨g, hg, hc⟩ := h.get ha
    rw [hx] at hg
    cases hg
    rw [add_plain, Nat.zero_add]
    exact hP g _ a hc
theorem Row.rdS {w : World} {base : Nat} {v : Value} {l : List (List UInt8)} (h : Row ekS w base v l) : RdL 1 SAt w v l := h.rd SAt fun g i a hc => by have := hc 0 _ rfl; simpa [SAt] using this
theorem Row.rdN {w : World} {base : Nat} {v : Value} {l : List Int} (h : Row ekN w base v l) : RdL 1 NAt w v l := h.rd NAt fun g i a hc => by have := hc 0 _ rfl; simpa [NAt] using this

/-- An entry's place. -/
def Plain {α : Type} (P : World → Addr → α → Prop) : Prop := ∀ (w : World) (b off : Nat) (spot : _) (a : α), P w ⟨b, off, spot⟩ a → spot = none
theorem RdL.get {α : Type} {sz : Nat} {P : World → Addr → α → Prop} (hP : Plain P) {w : World} {ao : Option Addr} {n cap : Nat} {l : List α} (h : RdL sz P w (.slice ao n cap) l) {k : Nat} {a : α} (ha : l[k]? = some a) :
    ∃ b off, ao = some ⟨b, off, none⟩ ∧ P w ⟨b, off + k * sz, none⟩ a := by
  obtain ⟨ao', n', cap', e, h1, h2, h3, h4, h5⟩ := h
  cases e
  cases ao with
  | none =>
    have h0 := (h4 rfl).1
    rw [List.eq_nil_of_length_eq_zero (h1.trans h0)] at ha
    simp at ha
  | some x =>
    obtain ⟨b, off, spot⟩ := x
    have hl : 0 < l.length := Nat.lt_of_le_of_lt (Nat.zero_le k) (List.getElem?_eq_some_iff.1 ha).1
    have hp0 := h5 _ rfl 0 _ (List.getElem?_eq_getElem hl)
    have e0 : (⟨b, off, spot⟩ : Addr).add (0 * sz) = ⟨b, off, spot⟩ := by simp [Addr.add]
    rw [e0] at hp0
    have hs := hP _ _ _ _ _ hp0
    subst hs
    have hp := h5 _ rfl k a ha
    rw [add_plain] at hp
    exact ⟨b, off, rfl, hp⟩
theorem RdL.len {α : Type} {sz : Nat} {P : World → Addr → α → Prop} {w : World} {ao : Option Addr} {n cap : Nat} {l : List α} (h : RdL sz P w (.slice ao n cap) l) : n = l.length ∧ n ≤ cap ∧ cap ≤ maxLen := by
  obtain ⟨ao', n', cap', e, h1, h2, h3, _⟩ := h
  cases e
  exact ⟨h1.symm, h2, h3⟩
theorem RdL.shape {α : Type} {sz : Nat} {P : World → Addr → α → Prop} {w : World} {v : Value} {l : List α} (h : RdL sz P w v l) : ∃ ao n cap, v = .slice ao n cap ∧ Hid (n = l.length) ∧ n ≤ 9223372036854775807 := by
  obtain ⟨ao, n, cap, e, h1, h2, h3, _⟩ := h
  exact ⟨ao, n, cap, e, h1.symm, by unfold maxLen at h3; omega⟩
theorem plain_cell {w : World} {b off : Nat} {spot : _} {v : Value} (h : w.cell? ⟨b, off, spot⟩ = some v) : spot = none := World.cell?_spot h
theorem SAt.plain : Plain SAt := fun _ _ _ _ _ h => plain_cell h
theorem NAt.plain : Plain NAt := fun _ _ _ _ _ h => plain_cell h
theorem FAt.plain : Plain FAt := fun _ _ _ _ _ h => plain_cell h.1
theorem TAt.plain : Plain TAt := fun _ _ _ _ _ h => plain_cell h.1
theorem MAt.plain : Plain MAt := fun _ _ _ _ _ ⟨_, _, h, _⟩ => plain_cell h
theorem EAt.plain : Plain EAt := fun _ _ _ _ _ ⟨_, h, _⟩ => plain_cell h
theorem FAt.at {w : World} {b o : Nat} {f : FI} (h : FAt w ⟨b, o, none⟩ f) : w.cell? ⟨b, o, none⟩ = some (.string (S f.name)) ∧ w.cell? ⟨b, o + 1, none⟩ = some (.int .i64 f.number) ∧ w.cell? ⟨b, o + 2, none⟩ = some (.int .i64 f.kind) ∧ w.cell? ⟨b, o + 3, none⟩ = some (.string (S f.type)) ∧ w.cell? ⟨b, o + 4, none⟩ = some (.bool f.many) ∧ w.cell? ⟨b, o + 5, none⟩ = some (.int .i64 f.choice) := by
  simp only [FAt, add_plain] at h; exact h
theorem TAt.at {w : World} {b o : Nat} {f : II} (h : TAt w ⟨b, o, none⟩ f) : w.cell? ⟨b, o, none⟩ = some (.string (S f.name)) ∧ w.cell? ⟨b, o + 1, none⟩ = some (.int .i64 f.value) := by
  simp only [TAt, add_plain] at h; exact h
theorem MAt.at {w : World} {b o : Nat} {m : MI} (h : MAt w ⟨b, o, none⟩ m) : ∃ vf vb, w.cell? ⟨b, o, none⟩ = some (.string (S m.name)) ∧ w.cell? ⟨b, o + 1, none⟩ = some vf ∧ w.cell? ⟨b, o + 2, none⟩ = some vb ∧ RdL 6 FAt w vf m.fields ∧ RdL 1 NAt w vb m.barred := by
  simp only [MAt, add_plain] at h; exact h
theorem EAt.at {w : World} {b o : Nat} {m : EI} (h : EAt w ⟨b, o, none⟩ m) : ∃ vi, w.cell? ⟨b, o, none⟩ = some (.string (S m.name)) ∧ w.cell? ⟨b, o + 1, none⟩ = some vi ∧ RdL 2 TAt w vi m.items := by
  simp only [EAt, add_plain] at h; exact h

theorem take_snoc {α : Type} {l : List α} {k : Nat} {a : α} (h : l[k]? = some a) : l.take (k + 1) = l.take k ++ [a] := by rw [List.take_add_one, h]; rfl
theorem mem_at {α : Type} {l : List α} {k : Nat} {a : α} (h : l[k]? = some a) : a ∈ l := List.mem_of_getElem? h

set_option maxHeartbeats 1000000 in
set_option maxRecDepth 100000 in
theorem indexS_any {v : Value} {l : List (List UInt8)} {w : World} (h : RdL 1 SAt w v l) (x : List UInt8) :
    Calls Tryz.prog 143 #[v, .string (S x)] w fun e w' => ∃ r : Int, e = .returned (.int .i64 r) ∧ decide (0 ≤ r) = decide (x ∈ l) ∧ w = w' := by
  obtain ⟨ao, n, cap, rfl, Hn, hcap⟩ := h.shape
  have hl := S_list x
  go_enter Tryz.func143, Tryz.ntmps143
  go_wp2_with fail
  go_loopg [8] n (fun m i wr => ∃ k : Nat, k + m = n ∧ i = .int .i64 k ∧ Hid (x ∉ l.take k) ∧ w = wr)
  case atStart => exact ⟨0, by omega, rfl, by show ¬ _; simp, rfl⟩
  case round =>
    obtain ⟨k, hk, rfl, HK, rfl⟩ := hrel
    by_cases hlt : k < n
    · obtain ⟨a, Ha⟩ : ∃ a, Hid (l[k]? = some a) := ⟨l[k]'(by rw [← Hn.out]; exact hlt), List.getElem?_eq_getElem (by rw [← Hn.out]; exact hlt)⟩
      obtain ⟨b, off, rfl, hc⟩ := h.get SAt.plain Ha.out
      have hc : w.cell? ⟨b, off + k * 1, none⟩ = some (.string (S a)) := hc
      rw [Nat.mul_one] at hc
      have hla := S_list a
      have hki : (k : Int) < (n : Int) := by omega
      by_cases hxa : x = a
      · have HM : Hid (x ∈ l) := by show _ ∈ _; rw [hxa]; exact mem_at Ha.out
        have hb : (x == a) = true := by simp [hxa]
        clear hxa
        go_wp2
        go_ret
        exact ⟨_, rfl, by simp [HM.out], rfl⟩
      · have hb : (x == a) = false := by simp [hxa]
        have HX : Hid (x ∉ l.take (k + 1)) := by
          show ¬ _; rw [take_snoc Ha.out]; simp [hxa]; exact HK.out
        clear hxa
        go_wp2_with fail
        go_roundg (n - (k + 1))
        case measure => omega
        case rel => exact ⟨k + 1, by omega, by go_num, HX, rfl⟩
    · have HX : Hid (x ∉ l) := by show ¬ _; have := HK.out; rwa [List.take_of_length_le (by rw [← Hn.out]; omega)] at this
      go_wp2
      go_ret
      exact ⟨_, rfl, by simp [HX.out], rfl⟩

def I64 (n : Int) : Prop := -9223372036854775808 ≤ n ∧ n ≤ 9223372036854775807
end L
end Go.Proofs.YtelmjekjohbmjaaGreatDoor

/- The contracts of Contains, Named, isKept, and of what 'again' makes. -/
namespace Go.Proofs.YtelmjekjohbmjaaGreatDoor
namespace L
open Go.RowKit

set_option maxHeartbeats 1000000 in
set_option maxRecDepth 100000 in
theorem indexN_any {v : Value} {l : List Int} {w : World} (h : RdL 1 NAt w v l) (x : Int) :
    Calls Tryz.prog 148 #[v, .int .i64 x] w fun e w' => ∃ r : Int, e = .returned (.int .i64 r) ∧ decide (0 ≤ r) = decide (x ∈ l) ∧ w = w' := by
  obtain ⟨ao, n, cap, rfl, Hn, hcap⟩ := h.shape
  go_enter Tryz.func148, Tryz.ntmps148
  go_wp2_with fail
  go_loopg [8] n (fun m i wr => ∃ k : Nat, k + m = n ∧ i = .int .i64 k ∧ Hid (x ∉ l.take k) ∧ w = wr)
  case atStart => exact ⟨0, by omega, rfl, by show ¬ _; simp, rfl⟩
  case round =>
    obtain ⟨k, hk, rfl, HK, rfl⟩ := hrel
    by_cases hlt : k < n
    · obtain ⟨a, Ha⟩ : ∃ a, Hid (l[k]? = some a) := ⟨l[k]'(by rw [← Hn.out]; exact hlt), List.getElem?_eq_getElem (by rw [← Hn.out]; exact hlt)⟩
      obtain ⟨b, off, rfl, hc⟩ := h.get NAt.plain Ha.out
      have hc : w.cell? ⟨b, off + k * 1, none⟩ = some (.int .i64 a) := hc
      rw [Nat.mul_one] at hc
      have hki : (k : Int) < (n : Int) := by omega
      by_cases hxa : x = a
      · have HM : Hid (x ∈ l) := by show _ ∈ _; rw [hxa]; exact mem_at Ha.out
        have hb : (x == a) = true := by simp [hxa]
        clear hxa
        go_wp2
        go_ret
        exact ⟨_, rfl, by simp [HM.out], rfl⟩
      · have hb : (x == a) = false := by simp [hxa]
        have HX : Hid (x ∉ l.take (k + 1)) := by
          show ¬ _; rw [take_snoc Ha.out]; simp [hxa]; exact HK.out
        clear hxa
        go_wp2_with fail
        go_roundg (n - (k + 1))
        case measure => omega
        case rel => exact ⟨k + 1, by omega, by go_num, HX, rfl⟩
    · have HX : Hid (x ∉ l) := by show ¬ _; have := HK.out; rwa [List.take_of_length_le (by rw [← Hn.out]; omega)] at this
      go_wp2
      go_ret
      exact ⟨_, rfl, by simp [HX.out], rfl⟩

theorem containsS_any {v : Value} {l : List (List UInt8)} {w : World} (h : RdL 1 SAt w v l) (x : List UInt8) :
    Calls Tryz.prog 117 #[v, .string (S x)] w fun e w' => e = .returned (.bool (decide (x ∈ l))) ∧ w = w' := by
  have hi := indexS_any h x
  go_enter Tryz.func117, Tryz.ntmps117
  go_wp2_with fail
  refine hi.mono ?_
  rintro e w1 ⟨r, rfl, hr, rfl⟩
  have HR : Hid (decide (0 ≤ r) = decide (x ∈ l)) := hr
  clear hr hi
  go_wp2
  go_ret
  exact ⟨ret_bool HR.out, rfl⟩
theorem containsN_any {v : Value} {l : List Int} {w : World} (h : RdL 1 NAt w v l) (x : Int) :
    Calls Tryz.prog 127 #[v, .int .i64 x] w fun e w' => e = .returned (.bool (decide (x ∈ l))) ∧ w = w' := by
  have hi := indexN_any h x
  go_enter Tryz.func127, Tryz.ntmps127
  go_wp2_with fail
  refine hi.mono ?_
  rintro e w1 ⟨r, rfl, hr, rfl⟩
  have HR : Hid (decide (0 ≤ r) = decide (x ∈ l)) := hr
  clear hr hi
  go_wp2
  go_ret
  exact ⟨ret_bool HR.out, rfl⟩

def namedB (l : List UInt8) : Bool := !l.isEmpty && (decide (l.length ≤ 16) && decide (wordLenL l = l.length))
set_option maxHeartbeats 1000000 in
set_option maxRecDepth 100000 in
theorem named_any (l : List UInt8) (hl : l.length ≤ 9223372036854775807) (w : World) :
    Calls Tryz.prog 77 #[.string (S l)] w fun e w' => e = .returned (.bool (namedB l)) ∧ w = w' := by
  have hsz := S_size l
  obtain ⟨E, hE⟩ : ∃ E, (S l).toList.isEmpty = E := ⟨_, rfl⟩
  obtain ⟨Q, HQ⟩ : ∃ Q, Hid (Q = decide (wordLenL l = l.length)) := ⟨_, rfl⟩
  have HR : Hid (namedB l = (!E && (decide (l.length ≤ 16) && Q))) := by show _ = _; rw [namedB, ← hE, HQ.out, S_list]
  have hwl := wordLength_any l hl w
  have HB : Hid (((wordLenL l : Int) == (l.length : Int)) = Q) := by show _ = _; rw [HQ.out, Bool.eq_iff_iff]; simp; omega
  generalize wordLenL l = W at hwl HB
  have hB := HB.out
  cases E with
  | true =>
    go_enter Tryz.func77, Tryz.ntmps77
    go_wp2
    go_ret
    exact ⟨by rw [HR.out]; rfl, rfl⟩
  | false =>
    by_cases h16 : l.length ≤ 16
    · have hli : ((l.length : Nat) : Int) ≤ 16 := by omega
      go_enter Tryz.func77, Tryz.ntmps77
      go_wp2_with fail
      refine hwl.mono ?_
      rintro e w1 ⟨rfl, rfl⟩
      cases Q
      all_goals go_wp2
      all_goals go_ret
      all_goals exact ⟨by rw [HR.out]; simp [h16], rfl⟩
    · have hli : ¬ ((l.length : Nat) : Int) ≤ 16 := by omega
      go_enter Tryz.func77, Tryz.ntmps77
      go_wp2
      go_ret
      exact ⟨by rw [HR.out]; simp [h16], rfl⟩

theorem wordsRd (w : World) : RdL 1 SAt (w.alloc (.cells wordCells 9)) (.slice (some ⟨w.heap.size, 0, none⟩) 9 9) wordsL := by
  refine ⟨_, 9, 9, rfl, rfl, Nat.le_refl _, by unfold maxLen; omega, fun h => (by cases h), ?_⟩
  intro x hx k a ha
  cases hx
  have hk : k < 9 := (List.getElem?_eq_some_iff.1 ha).1
  rw [add_plain, Nat.zero_add, Nat.mul_one]
  have e : wordsL.getD k [] = a := by rw [List.getD_eq_getElem?_getD, ha]; rfl
  exact cell_of_blk (heap_alloc_new w _) k _ (by rw [wordCells_at k hk, e])

def keptB (s : List UInt8) : Bool := decide (s = kwRepeated) || (decide (s = kwReserved) || (decide (s = kwOneof) || decide (s ∈ wordsL)))
set_option maxHeartbeats 1000000 in
set_option maxRecDepth 100000 in
theorem isKept_any (s : List UInt8) (w : World) : Calls Tryz.prog 78 #[.string (S s)] w fun e w' => e = .returned (.bool (keptB s)) ∧ Below w.heap.size w w' := by
  obtain ⟨q1, hq1⟩ : ∃ q, ((S s).toList == [114, 101, 112, 101, 97, 116, 101, 100]) = q := ⟨_, rfl⟩
  obtain ⟨q2, hq2⟩ : ∃ q, ((S s).toList == [114, 101, 115, 101, 114, 118, 101, 100]) = q := ⟨_, rfl⟩
  obtain ⟨q3, hq3⟩ : ∃ q, ((S s).toList == [111, 110, 101, 111, 102]) = q := ⟨_, rfl⟩
  have HC : Hid (keptB s = (q1 || (q2 || (q3 || decide (s ∈ wordsL))))) := by
    show _ = _
    rw [← hq1, ← hq2, ← hq3, S_list, Bool.eq_iff_iff]
    simp [keptB, kwRepeated, kwReserved, kwOneof]
    exact or_congr decide_eq_true_iff (or_congr decide_eq_true_iff (or_congr decide_eq_true_iff Iff.rfl))
  have hct := containsS_any (wordsRd w) s
  have hbw : Below w.heap.size w (w.alloc (.cells wordCells 9)) := (Below.refl _ _).alloc (Nat.le_refl _) _
  have hws := words_any w
  by_cases h : (q1 || (q2 || q3)) = true
  · have HR : Hid (keptB s = true) := by show _ = _; rw [HC.out]; revert h; cases q1 <;> cases q2 <;> cases q3 <;> simp
    cases q1 <;> cases q2 <;> cases q3 <;> first | (exfalso; revert h; decide) | skip
    all_goals clear h HC hct hws
    all_goals go_enter Tryz.func78, Tryz.ntmps78
    all_goals go_wp2
    all_goals go_ret
    all_goals exact ⟨by rw [HR.out]; rfl, Below.refl _ _⟩
  · have HR : Hid (keptB s = decide (s ∈ wordsL)) := by show _ = _; rw [HC.out]; revert h; cases q1 <;> cases q2 <;> cases q3 <;> simp
    cases q1 <;> cases q2 <;> cases q3 <;> first | (exfalso; revert h; decide) | skip
    clear h HC
    go_enter Tryz.func78, Tryz.ntmps78
    go_wp2_with fail
    refine hws.mono ?_
    rintro e w1 ⟨rfl, rfl⟩
    go_wp2_with fail
    refine hct.mono ?_
    rintro e w2 ⟨rfl, rfl⟩
    go_wp2
    go_ret
    exact ⟨by rw [HR.out]; rfl, hbw⟩

end L
end Go.Proofs.YtelmjekjohbmjaaGreatDoor

/- The contracts of again and of the functions that it makes. -/
namespace Go.Proofs.YtelmjekjohbmjaaGreatDoor
namespace L
open Go.RowKit

/-- Of what was there nothing but block c, and the list of that block, has turned. -/
structure Upd (c : Nat) (row : Option Nat) (w w' : World) : Prop where
  os : w'.os = w.os
  tape : w'.tape = w.tape
  output : w'.output = w.output
  size : w.heap.size ≤ w'.heap.size
  block : ∀ k, k < w.heap.size → k ≠ c → row ≠ some k → w'.heap[k]? = w.heap[k]?
theorem Upd.refl (c : Nat) (row : Option Nat) (w : World) : Upd c row w w := ⟨rfl, rfl, rfl, Nat.le_refl _, fun _ _ _ _ => rfl⟩
theorem Upd.below {c B : Nat} {row : Option Nat} {w w' : World} (h : Upd c row w w') (hc : B ≤ c) (hr : ∀ k, row = some k → B ≤ k) (hB : B ≤ w.heap.size) : Below B w w' :=
  ⟨h.os, h.tape, h.output, h.size, fun k hk => h.block k (by omega) (by omega) (fun e => by have := hr k e; omega)⟩
theorem Upd.of_below {c : Nat} {row : Option Nat} {w w' : World} (h : Below w.heap.size w w') : Upd c row w w' := ⟨h.os, h.tape, h.output, h.size, fun k hk _ _ => h.block k hk⟩
theorem Row.upd {α : Type} {E : EK α} {w w' : World} {B c : Nat} {row : Option Nat} {v : Value} {l : List α} (h : Row E w B v l) (hu : Upd c row w w') (hc : c < B) (hr : v.ownBlock = none ∨ v.ownBlock ≠ row) : Row E w' B v l := by
  refine ⟨h.1, ?_⟩
  rcases h.2 with hn | ⟨g, cap, cur, hv, hbg, hg, r⟩
  · exact .inl hn
  · refine .inr ⟨g, cap, cur, hv, hbg, ?_, r⟩
    have hgl := (Array.getElem?_eq_some_iff.1 hg).1
    rw [hu.block g hgl (by omega) ?_]
    · exact hg
    · intro e
      rcases hr with hr | hr
      · rw [hv] at hr; simp [Value.ownBlock] at hr
      · apply hr; rw [hv, e]; rfl

theorem Row.shape' {α : Type} {E : EK α} {w : World} {B : Nat} {v : Value} {l : List α} (h : Row E w B v l) : ∃ ao n cap, v = .slice ao n cap ∧ Hid (n = l.length) := by
  obtain ⟨ao, cap, e⟩ := h.shape
  exact ⟨ao, l.length, cap, e, rfl⟩

theorem makeF (fn : Fn) (first cap : Array Value) (w : World) : (Instr.makeFunc fn first cap).run Tryz.prog w = .ok (.func fn first cap) w := rfl

theorem againS_new (w : World) : Calls Tryz.prog 75 #[] w fun e w' => e = .returned (.func (.func 116) #[] #[.pointer (some ⟨w.heap.size, 0, none⟩)]) ∧ w.alloc (.cells #[.slice none 0 0] 87) = w' := by
  have hmf := makeF
  go_enter Tryz.func75, Tryz.ntmps75
  go_wp2
  go_ret
  exact ⟨rfl, rfl⟩
theorem againN_new (w : World) : Calls Tryz.prog 121 #[] w fun e w' => e = .returned (.func (.func 146) #[] #[.pointer (some ⟨w.heap.size, 0, none⟩)]) ∧ w.alloc (.cells #[.slice none 0 0] 46) = w' := by
  have hmf := makeF
  go_enter Tryz.func121, Tryz.ntmps121
  go_wp2
  go_ret
  exact ⟨rfl, rfl⟩

def addL {α : Type} [DecidableEq α] (x : α) (l : List α) : List α := if x ∈ l then l else l ++ [x]

set_option maxHeartbeats 1000000 in
set_option maxRecDepth 100000 in
theorem againS_call {w : World} {c B : Nat} {v : Value} {l : List (List UInt8)} (hc : w.heap[c]? = some (.cells #[v] 87 (0, 0))) (hr : Row ekS w B v l) (hcB : c < B) (hB : B ≤ w.heap.size) (hl : l.length ≤ 1000) (x : List UInt8) :
    Calls Tryz.prog 116 #[.string (S x), .pointer (some ⟨c, 0, none⟩)] w fun e w' => e = .returned (.bool (decide (x ∈ l))) ∧ ∃ v', w'.heap[c]? = some (.cells #[v'] 87 (0, 0)) ∧ Row ekS w' B v' (addL x l) ∧ Upd c v.ownBlock w w' := by
  obtain ⟨ao, n, cap, rfl, Hn⟩ := hr.shape'
  have c0 := cell_of_blk hc 0 _ rfl
  have f0 := fr_of_blk hc 0
  have hct := containsS_any hr.rdS x
  obtain ⟨q, Hq⟩ : ∃ q, Hid (q = decide (x ∈ l)) := ⟨_, rfl⟩
  rw [← Hq.out] at hct ⊢
  cases q with
  | true =>
    have HA : Hid (addL x l = l) := by show _ = _; have := Hq.out; simp at this; simp [addL, this]
    go_enter Tryz.func116, Tryz.ntmps116
    go_wp2_with fail
    refine hct.mono ?_
    rintro e w1 ⟨rfl, rfl⟩
    go_wp2
    go_ret
    exact ⟨rfl, _, hc, by rw [HA.out]; exact hr, Upd.refl _ _ _⟩
  | false =>
    have HA : Hid (addL x l = l ++ [x]) := by show _ = _; have := Hq.out; simp at this; simp [addL, this]
    have hone : Row ekS (w.alloc (.cells #[.string (S x)] 9)) B (.slice (some ⟨w.heap.size, 0, none⟩) 1 1) [x] := Row.one ekS w x hB
    have hba := (Below.refl w.heap.size w).alloc (Nat.le_refl _) (.cells #[.string (S x)] 9)
    have hr4 := hr.below hba
    have hc4 := (hba.block c (by omega)).trans hc
    go_enter Tryz.func116, Tryz.ntmps116
    go_wp2_with fail
    refine hct.mono ?_
    rintro e w1 ⟨rfl, rfl⟩
    go_wp2_with (at_builtin; refine wpList_app rfl ekS _ _ rfl B _ l [x] rfl hr4 B _ rfl hone ?e1 ?e2 ?_)
    case e1 => simp; omega
    case e2 => simp; omega
    intro v5 w5 hr5 hg5
    have hown := hr4.own
    have hc5 := (hg5.block c (Array.getElem?_eq_some_iff.1 hc4).1 (fun hh => by have := (hown c hh.symm).1; omega)).trans hc4
    have k0 := cell_of_blk hc5 0 _ rfl
    have k1 := fr_of_blk hc5 0
    obtain ⟨a5, n5, cap5, rfl, Hn5⟩ := hr5.shape'
    go_wp2
    go_ret
    refine ⟨rfl, _, heap_setCell_same _ _ 0 _ _ _ hc5, ?_, ?_⟩
    · rw [HA.out]
      exact hr5.other (fun hh => by have := (hr5.own c hh).1; omega) 0 _
    · refine ⟨hg5.os.trans hba.os, hg5.tape.trans hba.tape, hg5.output.trans hba.output, Nat.le_trans hba.size (Nat.le_trans hg5.size (by simp [World.setCell])), fun k hk hkc hkr => ?_⟩
      rw [Below.heap_setCell _ _ _ _ (show k ≠ c from hkc), hg5.block k (by simp; omega) (fun e => hkr e.symm), hba.block k hk]

set_option maxHeartbeats 1000000 in
set_option maxRecDepth 100000 in
theorem againN_call {w : World} {c B : Nat} {v : Value} {l : List Int} (hc : w.heap[c]? = some (.cells #[v] 46 (0, 0))) (hr : Row ekN w B v l) (hcB : c < B) (hB : B ≤ w.heap.size) (hl : l.length ≤ 1000) (x : Int) :
    Calls Tryz.prog 146 #[.int .i64 x, .pointer (some ⟨c, 0, none⟩)] w fun e w' => e = .returned (.bool (decide (x ∈ l))) ∧ ∃ v', w'.heap[c]? = some (.cells #[v'] 46 (0, 0)) ∧ Row ekN w' B v' (addL x l) ∧ Upd c v.ownBlock w w' := by
  obtain ⟨ao, n, cap, rfl, Hn⟩ := hr.shape'
  have c0 := cell_of_blk hc 0 _ rfl
  have f0 := fr_of_blk hc 0
  have hct := containsN_any hr.rdN x
  obtain ⟨q, Hq⟩ : ∃ q, Hid (q = decide (x ∈ l)) := ⟨_, rfl⟩
  rw [← Hq.out] at hct ⊢
  cases q with
  | true =>
    have HA : Hid (addL x l = l) := by show _ = _; have := Hq.out; simp at this; simp [addL, this]
    go_enter Tryz.func146, Tryz.ntmps146
    go_wp2_with fail
    refine hct.mono ?_
    rintro e w1 ⟨rfl, rfl⟩
    go_wp2
    go_ret
    exact ⟨rfl, _, hc, by rw [HA.out]; exact hr, Upd.refl _ _ _⟩
  | false =>
    have HA : Hid (addL x l = l ++ [x]) := by show _ = _; have := Hq.out; simp at this; simp [addL, this]
    have hone : Row ekN (w.alloc (.cells #[.int .i64 x] 3)) B (.slice (some ⟨w.heap.size, 0, none⟩) 1 1) [x] := Row.one ekN w x hB
    have hba := (Below.refl w.heap.size w).alloc (Nat.le_refl _) (.cells #[.int .i64 x] 3)
    have hr4 := hr.below hba
    have hc4 := (hba.block c (by omega)).trans hc
    go_enter Tryz.func146, Tryz.ntmps146
    go_wp2_with fail
    refine hct.mono ?_
    rintro e w1 ⟨rfl, rfl⟩
    go_wp2_with (at_builtin; refine wpList_app rfl ekN _ _ rfl B _ l [x] rfl hr4 B _ rfl hone ?e1 ?e2 ?_)
    case e1 => simp; omega
    case e2 => simp; omega
    intro v5 w5 hr5 hg5
    have hown := hr4.own
    have hc5 := (hg5.block c (Array.getElem?_eq_some_iff.1 hc4).1 (fun hh => by have := (hown c hh.symm).1; omega)).trans hc4
    have k0 := cell_of_blk hc5 0 _ rfl
    have k1 := fr_of_blk hc5 0
    obtain ⟨a5, n5, cap5, rfl, Hn5⟩ := hr5.shape'
    go_wp2
    go_ret
    refine ⟨rfl, _, heap_setCell_same _ _ 0 _ _ _ hc5, ?_, ?_⟩
    · rw [HA.out]
      exact hr5.other (fun hh => by have := (hr5.own c hh).1; omega) 0 _
    · refine ⟨hg5.os.trans hba.os, hg5.tape.trans hba.tape, hg5.output.trans hba.output, Nat.le_trans hba.size (Nat.le_trans hg5.size (by simp [World.setCell])), fun k hk hkc hkr => ?_⟩
      rw [Below.heap_setCell _ _ _ _ (show k ≠ c from hkc), hg5.block k (by simp; omega) (fun e => hkr e.symm), hba.block k hk]

/-- A choice that can't stand there; what is remembered. -/
def misB (last begun ch : Int) : Bool := decide (ch ≠ 0) && (decide (ch ≠ last) && decide (ch ≠ begun + 1))
theorem mis_new (w : World) : Calls Tryz.prog 122 #[] w fun e w' => e = .returned (.func (.func 147) #[] #[.pointer (some ⟨w.heap.size, 0, none⟩), .pointer (some ⟨w.heap.size + 1, 0, none⟩)]) ∧ (w.alloc (.cells #[.int .i64 0] 3)).alloc (.cells #[.int .i64 0] 3) = w' := by
  have hmf := makeF
  go_enter Tryz.func122, Tryz.ntmps122
  go_wp2
  go_ret
  exact ⟨rfl, rfl⟩
theorem mis_fin {w : World} {c d : Nat} {a b : Value} {t : TypeId} (hc : w.heap[c]? = some (.cells #[a] t (0, 0))) (hd : w.heap[d]? = some (.cells #[b] t (0, 0))) (hcd : c ≠ d) (x y : Value) :
    ((w.setCell ⟨c, 0, none⟩ x).setCell ⟨d, 0, none⟩ y).drew.heap[c]? = some (.cells #[x] t (0, 0)) ∧ ((w.setCell ⟨c, 0, none⟩ x).setCell ⟨d, 0, none⟩ y).drew.heap[d]? = some (.cells #[y] t (0, 0)) ∧ (∀ k, ¬ k = c → ¬ k = d → ((w.setCell ⟨c, 0, none⟩ x).setCell ⟨d, 0, none⟩ y).drew.heap[k]? = w.heap[k]?) ∧ ((w.setCell ⟨c, 0, none⟩ x).setCell ⟨d, 0, none⟩ y).drew.heap.size = w.heap.size ∧ ((w.setCell ⟨c, 0, none⟩ x).setCell ⟨d, 0, none⟩ y).drew.os = w.os ∧ ((w.setCell ⟨c, 0, none⟩ x).setCell ⟨d, 0, none⟩ y).drew.tape = w.tape ∧ ((w.setCell ⟨c, 0, none⟩ x).setCell ⟨d, 0, none⟩ y).drew.output = w.output := by
  refine ⟨?_, ?_, ?_, ?_, rfl, rfl, rfl⟩
  · show ((w.setCell ⟨c, 0, none⟩ x).setCell ⟨d, 0, none⟩ y).heap[c]? = _
    rw [Below.heap_setCell _ _ _ _ (show c ≠ d from hcd)]
    exact heap_setCell_same _ _ 0 _ _ _ hc
  · show ((w.setCell ⟨c, 0, none⟩ x).setCell ⟨d, 0, none⟩ y).heap[d]? = _
    exact heap_setCell_same _ _ 0 _ _ _ ((Below.heap_setCell w ⟨c, 0, none⟩ x d (show d ≠ c from fun h => hcd h.symm)).trans hd)
  · intro k k1 k2
    show ((w.setCell ⟨c, 0, none⟩ x).setCell ⟨d, 0, none⟩ y).heap[k]? = _
    rw [Below.heap_setCell _ _ _ _ (show k ≠ d from k2), Below.heap_setCell _ _ _ _ (show k ≠ c from k1)]
  · show ((w.setCell ⟨c, 0, none⟩ x).setCell ⟨d, 0, none⟩ y).heap.size = _
    simp
set_option maxHeartbeats 1000000 in
set_option maxRecDepth 100000 in
theorem mis_call {w : World} {c d : Nat} {last begun : Int} (hc : w.heap[c]? = some (.cells #[.int .i64 last] 3 (0, 0))) (hd : w.heap[d]? = some (.cells #[.int .i64 begun] 3 (0, 0))) (hcd : c ≠ d) (hb0 : 0 ≤ begun) (hb1 : begun ≤ 1000000) (ch : Int) :
    Calls Tryz.prog 147 #[.int .i64 ch, .pointer (some ⟨c, 0, none⟩), .pointer (some ⟨d, 0, none⟩)] w fun e w' => e = .returned (.bool (misB last begun ch)) ∧ w'.heap[c]? = some (.cells #[.int .i64 (if misB last begun ch then last else ch)] 3 (0, 0)) ∧ w'.heap[d]? = some (.cells #[.int .i64 (if misB last begun ch then begun else max begun ch)] 3 (0, 0)) ∧ (∀ k, k ≠ c → k ≠ d → w'.heap[k]? = w.heap[k]?) ∧ w'.heap.size = w.heap.size ∧ w'.os = w.os ∧ w'.tape = w.tape ∧ w'.output = w.output := by
  have c0 := cell_of_blk hc 0 _ rfl
  have f0 := fr_of_blk hc 0
  have d0 := cell_of_blk hd 0 _ rfl
  have f1 := fr_of_blk hd 0
  obtain ⟨q1, hq1⟩ : ∃ q, (ch != 0) = q := ⟨_, rfl⟩
  obtain ⟨q2, hq2⟩ : ∃ q, (ch != last) = q := ⟨_, rfl⟩
  obtain ⟨q3, hq3⟩ : ∃ q, (ch != begun + 1) = q := ⟨_, rfl⟩
  have HC : Hid (misB last begun ch = (q1 && (q2 && q3))) := by
    show _ = _
    rw [← hq1, ← hq2, ← hq3, Bool.eq_iff_iff]
    simp [misB]
  have c0 : w.cell? ⟨c, 0, none⟩ = some (.int .i64 last) := c0
  have d0 : w.cell? ⟨d, 0, none⟩ = some (.int .i64 begun) := d0
  by_cases hm : (q1 && (q2 && q3)) = true
  · have HM : Hid (misB last begun ch = true) := by show _ = _; rw [HC.out]; exact hm
    cases q1 <;> cases q2 <;> cases q3 <;> first | (exfalso; revert hm; decide) | skip
    clear hm HC
    go_enter Tryz.func147, Tryz.ntmps147
    go_wp2
    go_ret
    exact ⟨rfl, hc, hd, fun _ _ _ => rfl, rfl, rfl, rfl, rfl⟩
  · have HM : Hid (misB last begun ch = false) := by show _ = _; rw [HC.out]; simpa using hm
    have hcl : c < w.heap.size := (Array.getElem?_eq_some_iff.1 hc).1
    have hdl : d < w.heap.size := (Array.getElem?_eq_some_iff.1 hd).1
    rw [HM.out]
    clear HC
    cases q1 <;> cases q2 <;> cases q3 <;> first | (exfalso; revert hm; decide) | skip
    all_goals clear hm
    all_goals go_enter Tryz.func147, Tryz.ntmps147
    all_goals go_wp2_with fail
    all_goals go_region
    all_goals go_wp2
    all_goals go_ret
    all_goals first
      | (rw [show max begun ch = ch by omega]; exact ⟨rfl, mis_fin hc hd hcd _ _⟩)
      | (rw [show max begun ch = begun by omega]; exact ⟨rfl, mis_fin hc hd hcd _ _⟩)

end L
end Go.Proofs.YtelmjekjohbmjaaGreatDoor

/- The contracts of Message and Enum. -/
namespace Go.Proofs.YtelmjekjohbmjaaGreatDoor
namespace L
open Go.RowKit

/-- Which entry is such first; -1, if none is. -/
def firstI {α : Type} (p : α → Bool) (l : List α) : Int := match l.findIdx? p with | some k => (k : Int) | none => -1
theorem first_at {α : Type} {p : α → Bool} {l : List α} {k : Nat} {a : α} (ha : l[k]? = some a) (h : ∀ b ∈ l.take k, p b = false) (hp : p a = true) : firstI p l = (k : Int) := by
  have e : l.findIdx? p = some k := by
    rw [List.findIdx?_eq_some_iff_getElem]
    obtain ⟨hk, e⟩ := List.getElem?_eq_some_iff.1 ha
    refine ⟨hk, by rw [e]; exact hp, ?_⟩
    intro j hj
    rw [h _ (List.mem_take_iff_getElem.2 ⟨j, by omega, rfl⟩)]
    simp
  unfold firstI
  rw [e]
theorem first_none {α : Type} {p : α → Bool} {l : List α} (h : ∀ b ∈ l, p b = false) : firstI p l = -1 := by
  have e : l.findIdx? p = none := by rw [List.findIdx?_eq_none_iff]; exact h
  unfold firstI
  rw [e]

set_option maxHeartbeats 1000000 in
set_option maxRecDepth 100000 in
theorem msg1_call {w : World} {c : Nat} {x : List UInt8} (hc : w.heap[c]? = some (.cells #[.string (S x)] 9 (0, 0))) (a : List UInt8) (a1 : Option Addr) (n1 c1 : Nat) (a2 : Option Addr) (n2 c2 : Nat) :
    Calls Tryz.prog 86 #[.agg #[.string (S a), .slice a1 n1 c1, .slice a2 n2 c2], .pointer (some ⟨c, 0, none⟩)] w fun e w' => e = .returned (.bool (decide (a = x))) ∧ Below w.heap.size w w' := by
  have c0 : w.cell? ⟨c, 0, none⟩ = some (.string (S x)) := cell_of_blk hc 0 _ rfl
  have hcl : c < w.heap.size := (Array.getElem?_eq_some_iff.1 hc).1
  have hla := S_list a
  have hlx := S_list x
  have hba := (Below.refl w.heap.size w).alloc (Nat.le_refl _) (.cells #[.string (S a), .slice a1 n1 c1, .slice a2 n2 c2] 48)
  obtain ⟨q, Hq⟩ : ∃ q, Hid (q = decide (a = x)) := ⟨_, rfl⟩
  have hq : (a == x) = q := by rw [Hq.out, Bool.eq_iff_iff]; simp
  rw [← Hq.out]
  go_enter Tryz.func86, Tryz.ntmps86
  go_wp2
  go_ret
  exact ⟨rfl, hba⟩
set_option maxHeartbeats 1000000 in
set_option maxRecDepth 100000 in
theorem msgIdx_any {v : Value} {l : List MI} {w : World} {c : Nat} {x : List UInt8} (h : RdL 3 MAt w v l) (hc : w.heap[c]? = some (.cells #[.string (S x)] 9 (0, 0))) :
    Calls Tryz.prog 85 #[v, .func (.func 86) #[] #[.pointer (some ⟨c, 0, none⟩)]] w fun e w' => e = .returned (.int .i64 (firstI (fun m => decide (m.name = x)) l)) ∧ Below w.heap.size w w' := by
  obtain ⟨ao, n, cap, rfl, Hn, hcap⟩ := h.shape
  go_enter Tryz.func85, Tryz.ntmps85
  go_wp2_with fail
  go_loopg [8] n (fun m i wr => ∃ k : Nat, k + m = n ∧ i = .int .i64 k ∧ Hid (∀ a ∈ l.take k, decide (a.name = x) = false) ∧ Below w.heap.size w wr)
  case atStart => exact ⟨0, by omega, rfl, by show ∀ a ∈ _, _; simp, Below.refl _ _⟩
  case round =>
    obtain ⟨k, hk, rfl, HK, hb⟩ := hrel
    have hcr := (hb.block c (Array.getElem?_eq_some_iff.1 hc).1).trans hc
    by_cases hlt : k < n
    · obtain ⟨a, Ha⟩ : ∃ a, Hid (l[k]? = some a) := ⟨l[k]'(by rw [← Hn.out]; exact hlt), List.getElem?_eq_getElem (by rw [← Hn.out]; exact hlt)⟩
      obtain ⟨b, off, rfl, hat⟩ := (h.below MAt.stays hb).get MAt.plain Ha.out
      obtain ⟨vf, vb, s0, s1, s2, hrf, hrb⟩ := hat.at
      obtain ⟨af, nf, cf, rfl, _, _⟩ := hrf.shape
      obtain ⟨ab, nb, cb, rfl, _, _⟩ := hrb.shape
      have hki : (k : Int) < (n : Int) := by omega
      have hcall := msg1_call hcr a.name af nf cf ab nb cb
      cases hq : decide (a.name = x) with
      | true =>
        have HF : Hid (firstI (fun m => decide (m.name = x)) l = (k : Int)) := first_at Ha.out HK.out hq
        rw [hq] at hcall
        clear hq
        go_wp2_with fail
        refine hcall.mono ?_
        rintro e w1 ⟨rfl, hb1⟩
        go_wp2
        go_ret
        exact ⟨by rw [HF.out]; rfl, hb.trans (hb1.mono hb.size)⟩
      | false =>
        have HX : Hid (∀ a ∈ l.take (k + 1), decide (a.name = x) = false) := by
          show ∀ a ∈ _, _
          rw [take_snoc Ha.out]
          intro y hy
          rcases List.mem_append.1 hy with hy | hy
          · exact HK.out y hy
          · rw [List.mem_singleton] at hy; rw [hy]; exact hq
        rw [hq] at hcall
        clear hq
        go_wp2_with fail
        refine hcall.mono ?_
        rintro e w1 ⟨rfl, hb1⟩
        go_wp2_with fail
        go_roundg (n - (k + 1))
        case measure => omega
        case rel => exact ⟨k + 1, by omega, by go_num, HX, hb.trans (hb1.mono hb.size)⟩
    · have HF : Hid (firstI (fun m => decide (m.name = x)) l = -1) := by
        have := HK.out
        rw [List.take_of_length_le (by rw [← Hn.out]; omega)] at this
        exact first_none this
      go_wp2
      go_ret
      exact ⟨by rw [HF.out]; rfl, hb⟩
set_option maxHeartbeats 1000000 in
set_option maxRecDepth 100000 in
theorem message_any {vm ve : Value} {l : List MI} {w : World} (h : RdL 3 MAt w vm l) (hve : ∃ ao n cap, ve = .slice ao n cap) (x : List UInt8) :
    Calls Tryz.prog 52 #[.agg #[vm, ve], .string (S x)] w fun e w' => e = .returned (.int .i64 (firstI (fun m => decide (m.name = x)) l)) ∧ Below w.heap.size w w' := by
  obtain ⟨ao, n, cap, rfl, Hn, hcap⟩ := h.shape
  obtain ⟨ae, ne, ce, rfl⟩ := hve
  have hmf := makeF
  have hb2 : Below w.heap.size w ((w.alloc (.cells #[.slice ao n cap, .slice ae ne ce] 25)).alloc (.cells #[.string (S x)] 9)) := ((Below.refl _ _).alloc (Nat.le_refl _) _).alloc (by simp) _
  have hi := msgIdx_any (h.below MAt.stays hb2) (alloc2_new w _ _)
  go_enter Tryz.func52, Tryz.ntmps52
  go_wp2_with fail
  refine hi.mono ?_
  rintro e w1 ⟨rfl, hb1⟩
  go_wp2
  go_ret
  exact ⟨rfl, hb2.trans (hb1.mono hb2.size)⟩

set_option maxHeartbeats 1000000 in
set_option maxRecDepth 100000 in
theorem enm1_call {w : World} {c : Nat} {x : List UInt8} (hc : w.heap[c]? = some (.cells #[.string (S x)] 9 (0, 0))) (a : List UInt8) (a1 : Option Addr) (n1 c1 : Nat) :
    Calls Tryz.prog 153 #[.agg #[.string (S a), .slice a1 n1 c1], .pointer (some ⟨c, 0, none⟩)] w fun e w' => e = .returned (.bool (decide (a = x))) ∧ Below w.heap.size w w' := by
  have c0 : w.cell? ⟨c, 0, none⟩ = some (.string (S x)) := cell_of_blk hc 0 _ rfl
  have hcl : c < w.heap.size := (Array.getElem?_eq_some_iff.1 hc).1
  have hla := S_list a
  have hlx := S_list x
  have hba := (Below.refl w.heap.size w).alloc (Nat.le_refl _) (.cells #[.string (S a), .slice a1 n1 c1] 94)
  obtain ⟨q, Hq⟩ : ∃ q, Hid (q = decide (a = x)) := ⟨_, rfl⟩
  have hq : (a == x) = q := by rw [Hq.out, Bool.eq_iff_iff]; simp
  rw [← Hq.out]
  go_enter Tryz.func153, Tryz.ntmps153
  go_wp2
  go_ret
  exact ⟨rfl, hba⟩
set_option maxHeartbeats 1000000 in
set_option maxRecDepth 100000 in
theorem enmIdx_any {v : Value} {l : List EI} {w : World} {c : Nat} {x : List UInt8} (h : RdL 2 EAt w v l) (hc : w.heap[c]? = some (.cells #[.string (S x)] 9 (0, 0))) :
    Calls Tryz.prog 152 #[v, .func (.func 153) #[] #[.pointer (some ⟨c, 0, none⟩)]] w fun e w' => e = .returned (.int .i64 (firstI (fun m => decide (m.name = x)) l)) ∧ Below w.heap.size w w' := by
  obtain ⟨ao, n, cap, rfl, Hn, hcap⟩ := h.shape
  go_enter Tryz.func152, Tryz.ntmps152
  go_wp2_with fail
  go_loopg [8] n (fun m i wr => ∃ k : Nat, k + m = n ∧ i = .int .i64 k ∧ Hid (∀ a ∈ l.take k, decide (a.name = x) = false) ∧ Below w.heap.size w wr)
  case atStart => exact ⟨0, by omega, rfl, by show ∀ a ∈ _, _; simp, Below.refl _ _⟩
  case round =>
    obtain ⟨k, hk, rfl, HK, hb⟩ := hrel
    have hcr := (hb.block c (Array.getElem?_eq_some_iff.1 hc).1).trans hc
    by_cases hlt : k < n
    · obtain ⟨a, Ha⟩ : ∃ a, Hid (l[k]? = some a) := ⟨l[k]'(by rw [← Hn.out]; exact hlt), List.getElem?_eq_getElem (by rw [← Hn.out]; exact hlt)⟩
      obtain ⟨b, off, rfl, hat⟩ := (h.below EAt.stays hb).get EAt.plain Ha.out
      obtain ⟨vi, s0, s1, hri⟩ := hat.at
      obtain ⟨ai, ni, ci, rfl, _, _⟩ := hri.shape
      have hki : (k : Int) < (n : Int) := by omega
      have hcall := enm1_call hcr a.name ai ni ci
      cases hq : decide (a.name = x) with
      | true =>
        have HF : Hid (firstI (fun m => decide (m.name = x)) l = (k : Int)) := first_at Ha.out HK.out hq
        rw [hq] at hcall
        clear hq
        go_wp2_with fail
        refine hcall.mono ?_
        rintro e w1 ⟨rfl, hb1⟩
        go_wp2
        go_ret
        exact ⟨by rw [HF.out]; rfl, hb.trans (hb1.mono hb.size)⟩
      | false =>
        have HX : Hid (∀ a ∈ l.take (k + 1), decide (a.name = x) = false) := by
          show ∀ a ∈ _, _
          rw [take_snoc Ha.out]
          intro y hy
          rcases List.mem_append.1 hy with hy | hy
          · exact HK.out y hy
          · rw [List.mem_singleton] at hy; rw [hy]; exact hq
        rw [hq] at hcall
        clear hq
        go_wp2_with fail
        refine hcall.mono ?_
        rintro e w1 ⟨rfl, hb1⟩
        go_wp2_with fail
        go_roundg (n - (k + 1))
        case measure => omega
        case rel => exact ⟨k + 1, by omega, by go_num, HX, hb.trans (hb1.mono hb.size)⟩
    · have HF : Hid (firstI (fun m => decide (m.name = x)) l = -1) := by
        have := HK.out
        rw [List.take_of_length_le (by rw [← Hn.out]; omega)] at this
        exact first_none this
      go_wp2
      go_ret
      exact ⟨by rw [HF.out]; rfl, hb⟩
set_option maxHeartbeats 1000000 in
set_option maxRecDepth 100000 in
theorem enum_any {vm ve : Value} {l : List EI} {w : World} (h : RdL 2 EAt w ve l) (hve : ∃ ao n cap, vm = .slice ao n cap) (x : List UInt8) :
    Calls Tryz.prog 149 #[.agg #[vm, ve], .string (S x)] w fun e w' => e = .returned (.int .i64 (firstI (fun m => decide (m.name = x)) l)) ∧ Below w.heap.size w w' := by
  obtain ⟨ao, n, cap, rfl, Hn, hcap⟩ := h.shape
  obtain ⟨ae, ne, ce, rfl⟩ := hve
  have hmf := makeF
  have hb2 : Below w.heap.size w ((w.alloc (.cells #[.slice ae ne ce, .slice ao n cap] 25)).alloc (.cells #[.string (S x)] 9)) := ((Below.refl _ _).alloc (Nat.le_refl _) _).alloc (by simp) _
  have hi := enmIdx_any (h.below EAt.stays hb2) (alloc2_new w _ _)
  go_enter Tryz.func149, Tryz.ntmps149
  go_wp2_with fail
  refine hi.mono ?_
  rintro e w1 ⟨rfl, hb1⟩
  go_wp2
  go_ret
  exact ⟨rfl, hb2.trans (hb1.mono hb2.size)⟩

end L
end Go.Proofs.YtelmjekjohbmjaaGreatDoor

/- Bodies as they come in: plain data, by how deep they are, and where they lie. -/
namespace Go.Proofs.YtelmjekjohbmjaaGreatDoor
namespace L
open Go.RowKit

structure RI where
  number : Int
  how : Int
  bits : Nat
  bytes : List UInt8
deriving DecidableEq
/-- A value whose subs are β. -/
structure VI (β : Type) where
  number : Int
  bits : List Nat
  bytes : List (List UInt8)
  subs : List β
structure BO (β : Type) where
  vals : List (VI β)
  unk : List RI
/-- A body that is at most that deep. -/
def BI : Nat → Type
  | 0 => Empty
  | d + 1 => BO (BI d)

def UAt (w : World) (x : Addr) (n : Nat) : Prop := w.cell? x = some (.int .u64 (n : Int))
def YAt (w : World) (x : Addr) (b : UInt8) : Prop := w.cell? x = some (.int .u8 (b.toNat : Int))
def ZAt (w : World) (x : Addr) (l : List UInt8) : Prop := ∃ v, w.cell? x = some v ∧ RdL 1 YAt w v l
def RAt (w : World) (x : Addr) (r : RI) : Prop := ∃ v, w.cell? x = some (.int .i64 r.number) ∧ w.cell? (x.add 1) = some (.int .i64 r.how) ∧ w.cell? (x.add 2) = some (.int .u64 (r.bits : Int)) ∧ w.cell? (x.add 3) = some v ∧ RdL 1 YAt w v r.bytes
def VAt {β : Type} (P : World → Addr → β → Prop) (w : World) (x : Addr) (v : VI β) : Prop := ∃ v1 v2 v3, w.cell? x = some (.int .i64 v.number) ∧ w.cell? (x.add 1) = some v1 ∧ w.cell? (x.add 2) = some v2 ∧ w.cell? (x.add 3) = some v3 ∧ RdL 1 UAt w v1 v.bits ∧ RdL 1 ZAt w v2 v.bytes ∧ RdL 2 P w v3 v.subs
def BAt : (d : Nat) → World → Addr → BI d → Prop
  | 0 => fun _ _ _ => False
  | d + 1 => fun w x b => ∃ v0 v1, w.cell? x = some v0 ∧ w.cell? (x.add 1) = some v1 ∧ RdL 4 (VAt (BAt d)) w v0 (BO.vals b) ∧ RdL 4 RAt w v1 (BO.unk b)
/-- A body that was handed over, and can be read. -/
def BRd (d : Nat) (w : World) (v0 v1 : Value) (b : BO (BI d)) : Prop := RdL 4 (VAt (BAt d)) w v0 b.vals ∧ RdL 4 RAt w v1 b.unk
theorem UAt.stays : Stays UAt := fun _ _ _ _ hb h => cell_below hb h
theorem YAt.stays : Stays YAt := fun _ _ _ _ hb h => cell_below hb h
theorem ZAt.stays : Stays ZAt := fun _ _ _ _ hb ⟨v, h1, h2⟩ => ⟨v, cell_below hb h1, h2.below YAt.stays hb⟩
theorem RAt.stays : Stays RAt := fun _ _ _ _ hb ⟨v, h1, h2, h3, h4, h5⟩ => ⟨v, cell_below hb h1, cell_below hb h2, cell_below hb h3, cell_below hb h4, h5.below YAt.stays hb⟩
theorem VAt.stays {β : Type} {P : World → Addr → β → Prop} (hP : Stays P) : Stays (VAt P) := fun _ _ _ _ hb ⟨v1, v2, v3, h1, h2, h3, h4, h5, h6, h7⟩ => ⟨v1, v2, v3, cell_below hb h1, cell_below hb h2, cell_below hb h3, cell_below hb h4, h5.below UAt.stays hb, h6.below ZAt.stays hb, h7.below hP hb⟩
theorem BAt.stays : ∀ d, Stays (BAt d)
  | 0 => fun _ _ _ _ _ h => h
  | d + 1 => fun _ _ _ _ hb ⟨v0, v1, h1, h2, h3, h4⟩ => ⟨v0, v1, cell_below hb h1, cell_below hb h2, h3.below (VAt.stays (BAt.stays d)) hb, h4.below RAt.stays hb⟩
theorem BRd.below {d : Nat} {w w' : World} {v0 v1 : Value} {b : BO (BI d)} (h : BRd d w v0 v1 b) (hb : Below w.heap.size w w') : BRd d w' v0 v1 b := ⟨h.1.below (VAt.stays (BAt.stays d)) hb, h.2.below RAt.stays hb⟩
theorem UAt.plain : Plain UAt := fun _ _ _ _ _ h => plain_cell h
theorem YAt.plain : Plain YAt := fun _ _ _ _ _ h => plain_cell h
theorem ZAt.plain : Plain ZAt := fun _ _ _ _ _ ⟨_, h, _⟩ => plain_cell h
theorem RAt.plain : Plain RAt := fun _ _ _ _ _ ⟨_, h, _⟩ => plain_cell h
theorem VAt.plain {β : Type} {P : World → Addr → β → Prop} : Plain (VAt P) := fun _ _ _ _ _ ⟨_, _, _, h, _⟩ => plain_cell h
theorem BAt.plain : ∀ d, Plain (BAt d)
  | 0 => fun _ _ _ _ _ h => h.elim
  | _ + 1 => fun _ _ _ _ _ ⟨_, _, h, _⟩ => plain_cell h
theorem ZAt.at {w : World} {b o : Nat} {l : List UInt8} (h : ZAt w ⟨b, o, none⟩ l) : ∃ v, w.cell? ⟨b, o, none⟩ = some v ∧ RdL 1 YAt w v l := h
theorem RAt.at {w : World} {b o : Nat} {r : RI} (h : RAt w ⟨b, o, none⟩ r) : ∃ v, w.cell? ⟨b, o, none⟩ = some (.int .i64 r.number) ∧ w.cell? ⟨b, o + 1, none⟩ = some (.int .i64 r.how) ∧ w.cell? ⟨b, o + 2, none⟩ = some (.int .u64 (r.bits : Int)) ∧ w.cell? ⟨b, o + 3, none⟩ = some v ∧ RdL 1 YAt w v r.bytes := by
  simp only [RAt, add_plain] at h; exact h
theorem VAt.at {β : Type} {P : World → Addr → β → Prop} {w : World} {b o : Nat} {v : VI β} (h : VAt P w ⟨b, o, none⟩ v) : ∃ v1 v2 v3, w.cell? ⟨b, o, none⟩ = some (.int .i64 v.number) ∧ w.cell? ⟨b, o + 1, none⟩ = some v1 ∧ w.cell? ⟨b, o + 2, none⟩ = some v2 ∧ w.cell? ⟨b, o + 3, none⟩ = some v3 ∧ RdL 1 UAt w v1 v.bits ∧ RdL 1 ZAt w v2 v.bytes ∧ RdL 2 P w v3 v.subs := by
  simp only [VAt, add_plain] at h; exact h
theorem BAt.at {d : Nat} {w : World} {b o : Nat} {x : BI (d + 1)} (h : BAt (d + 1) w ⟨b, o, none⟩ x) : ∃ v0 v1, w.cell? ⟨b, o, none⟩ = some v0 ∧ w.cell? ⟨b, o + 1, none⟩ = some v1 ∧ BRd d w v0 v1 x := by
  simp only [BAt, add_plain] at h; exact h

end L
end Go.Proofs.YtelmjekjohbmjaaGreatDoor

