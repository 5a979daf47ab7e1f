import Derived.Laws.BitsAllLaws
import Derived.Test.YtelmjekjohbmjaaGreatDoorProg
import Derived.RowKit
import Derived.WalkKit
import Derived.WalkSpells
import Derived.WalkLawsBesides
import Derived.Lib.Strings
import Derived.BigQuiet
import Derived.Deep.QuietTactic
import Derived.Deep.RegionWith
/- Plain lists: a text's words, numbers, fields, messages, as chapter 2 reads them. Nothing of the program. -/
namespace Go.Proofs.YtelmjekjohbmjaaGreatDoor

def letB (c : UInt8) : Bool := (decide (97 ≤ c.toNat) && decide (c.toNat ≤ 122)) || (decide (65 ≤ c.toNat) && decide (c.toNat ≤ 90))
def digB (c : UInt8) : Bool := decide (48 ≤ c.toNat) && decide (c.toNat ≤ 57)
def moreB (c : UInt8) : Bool := letB c || digB c || c.toNat == 95

def wordLenL : List UInt8 → Nat
  | [] => 0
  | c :: r => if letB c then 1 + (r.takeWhile moreB).length else 0
def digLenL (l : List UInt8) : Nat := (l.takeWhile digB).length

/-- What is behind blanks and notes; the first word: within a note? -/
def skipN : Bool → List UInt8 → List UInt8
  | _, [] => []
  | true, c :: r => skipN (c != 10) r
  | false, c :: r => if c = 32 ∨ c = 10 then skipN false r else if c = 47 ∧ r.head? = some 47 then skipN true r else c :: r
def skipL (l : List UInt8) : List UInt8 := skipN false l

/-- An answer and what is behind it; or what is wrong, and what is from there on; none: not enough rounds. -/
abbrev R (α : Type) := Except (Option (Nat × List UInt8)) (α × List UInt8)
def R.thn {α β : Type} (x : R α) (f : α → List UInt8 → R β) : R β :=
  match x with
  | .error e => .error e
  | .ok (a, r) => f a r

def markL (c : UInt8) (r : List UInt8) : Bool × List UInt8 :=
  match skipL r with
  | [] => (false, [])
  | x :: t => if x = c then (true, t) else (false, x :: t)
def mustL (c : UInt8) (r : List UInt8) : R Unit :=
  match markL c r with
  | (true, t) => .ok ((), t)
  | (false, t) => .error (some (2, t))
def keyL (w : List UInt8) (r : List UInt8) : Bool × List UInt8 :=
  if (skipL r).take (wordLenL (skipL r)) = w then (true, (skipL r).drop w.length) else (false, skipL r)
def nameL (r : List UInt8) : R (List UInt8) :=
  if wordLenL (skipL r) = 0 then .error (some (2, skipL r))
  else if 16 < wordLenL (skipL r) then .error (some (7, skipL r))
  else .ok ((skipL r).take (wordLenL (skipL r)), (skipL r).drop (wordLenL (skipL r)))
def valL (l : List UInt8) : Nat := l.foldl (fun a c => 10 * a + (c.toNat - 48)) 0
def digsL (r : List UInt8) : List UInt8 := (skipL r).take (digLenL (skipL r))
def numL (most : Nat) (r : List UInt8) : R Nat :=
  if digLenL (skipL r) = 0 then .error (some (2, skipL r))
  else if (1 < digLenL (skipL r) ∧ (skipL r).head? = some 48) ∨ most < valL (digsL r) then .error (some (3, skipL r))
  else .ok (valL (digsL r), (skipL r).drop (digLenL (skipL r)))

structure Fld where
  name : List UInt8
  number : Nat
  kind : Nat
  type : List UInt8
  many : Bool
  choice : Nat
deriving DecidableEq
structure Msg where
  name : List UInt8
  fields : List Fld
  barred : List Nat
deriving DecidableEq
structure Itm where
  name : List UInt8
  value : Int
deriving DecidableEq
structure Enm where
  name : List UInt8
  items : List Itm
deriving DecidableEq
structure Fil where
  msgs : List Msg
  enums : List Enm
deriving DecidableEq

def mostN : Nat := 536870911
def resL : Nat → List Nat → List UInt8 → R (List Nat)
  | 0, _, _ => .error none
  | k + 1, acc, r =>
    match markL 44 r with
    | (true, t) => R.thn (numL mostN t) fun n u => resL k (acc ++ [n]) u
    | (false, t) => R.thn (mustL 59 t) fun _ u => .ok (acc, u)
def reservedL (k : Nat) (r : List UInt8) : R (List Nat) := R.thn (numL mostN r) fun n u => resL k [n] u

def wordsL : List (List UInt8) :=
  [[105, 110, 116, 54, 52], [115, 105, 110, 116, 54, 52], [117, 105, 110, 116, 54, 52], [98, 111, 111, 108], [], [102, 105, 120, 101, 100, 54, 52], [102, 105, 120, 101, 100, 51, 50], [115, 116, 114, 105, 110, 103], [98, 121, 116, 101, 115]]
def typeFrom : Nat → List (List UInt8) → List UInt8 → Nat × List UInt8
  | _, [], w => (10, w)
  | i, x :: xs, w => if x = w then (i, []) else typeFrom (i + 1) xs w
def typeL (w : List UInt8) : Nat × List UInt8 := typeFrom 1 wordsL w

def fieldL (many : Bool) (choice : Nat) (r : List UInt8) : R Fld :=
  R.thn (nameL r) fun ty u => R.thn (nameL u) fun nm u => R.thn (mustL 61 u) fun _ u => R.thn (numL mostN u) fun n u => R.thn (mustL 59 u) fun _ u =>
    .ok (⟨nm, n, (typeL ty).1, (typeL ty).2, many, choice⟩, u)

def choiceGo (ch : Nat) : Nat → List Fld → List UInt8 → R (List Fld)
  | 0, _, _ => .error none
  | k + 1, acc, r =>
    match markL 125 r with
    | (true, t) => .ok (acc, t)
    | (false, t) => R.thn (fieldL false ch t) fun f u => choiceGo ch k (acc ++ [f]) u
def choiceL (K ch : Nat) (r : List UInt8) : R (List Fld) := R.thn (mustL 123 r) fun _ u => choiceGo ch K [] u

def kwReserved : List UInt8 := [114, 101, 115, 101, 114, 118, 101, 100]
def kwOneof : List UInt8 := [111, 110, 101, 111, 102]
def kwRepeated : List UInt8 := [114, 101, 112, 101, 97, 116, 101, 100]
def kwMessage : List UInt8 := [109, 101, 115, 115, 97, 103, 101]
def kwEnum : List UInt8 := [101, 110, 117, 109]

def partL (K : Nat) (m : Msg) (ch : Nat) (r : List UInt8) : R (Msg × Nat) :=
  match keyL kwReserved r with
  | (true, t) => R.thn (reservedL K t) fun l u => .ok ((⟨m.name, m.fields, m.barred ++ l⟩, ch), u)
  | (false, t) =>
    match keyL kwOneof t with
    | (true, t) => R.thn (choiceL K (ch + 1) t) fun l u => .ok ((⟨m.name, m.fields ++ l, m.barred⟩, ch + 1), u)
    | (false, t) => R.thn (fieldL (keyL kwRepeated t).1 0 (keyL kwRepeated t).2) fun f u => .ok ((⟨m.name, m.fields ++ [f], m.barred⟩, ch), u)

def msgGo (K : Nat) : Nat → Msg → Nat → List UInt8 → R Msg
  | 0, _, _, _ => .error none
  | k + 1, m, ch, r =>
    match markL 125 r with
    | (true, t) => .ok (m, t)
    | (false, t) => R.thn (partL K m ch t) fun p u => if 16 < p.1.fields.length ∨ 16 < p.1.barred.length then .error (some (5, u)) else msgGo K k p.1 p.2 u
def messageL (K : Nat) (r : List UInt8) : R Msg := R.thn (nameL r) fun nm u => R.thn (mustL 123 u) fun _ u => msgGo K K ⟨nm, [], []⟩ 0 u

def itemL (r : List UInt8) : R Itm :=
  R.thn (nameL r) fun nm u => R.thn (mustL 61 u) fun _ u =>
    match markL 45 u with
    | (true, t) => R.thn (numL 2147483648 t) fun n u => R.thn (mustL 59 u) fun _ u => .ok (⟨nm, -(n : Int)⟩, u)
    | (false, t) => R.thn (numL 2147483647 t) fun n u => R.thn (mustL 59 u) fun _ u => .ok (⟨nm, (n : Int)⟩, u)
def enumGo : Nat → Enm → List UInt8 → R Enm
  | 0, _, _ => .error none
  | k + 1, e, r =>
    match markL 125 r with
    | (true, t) => .ok (e, t)
    | (false, t) => R.thn (itemL t) fun i u => if 16 < (e.items ++ [i]).length then .error (some (5, u)) else enumGo k ⟨e.name, e.items ++ [i]⟩ u
def enumL (K : Nat) (r : List UInt8) : R Enm := R.thn (nameL r) fun nm u => R.thn (mustL 123 u) fun _ u => enumGo K ⟨nm, []⟩ u

def defL (K : Nat) (f : Fil) (r : List UInt8) : R Fil :=
  match keyL kwMessage r with
  | (true, t) => R.thn (messageL K t) fun m u => .ok (⟨f.msgs ++ [m], f.enums⟩, u)
  | (false, t) =>
    match keyL kwEnum t with
    | (true, t) => R.thn (enumL K t) fun e u => .ok (⟨f.msgs, f.enums ++ [e]⟩, u)
    | (false, t) => .error (some (2, t))
def allGo (K : Nat) : Nat → Fil → List UInt8 → R Fil
  | 0, _, _ => .error none
  | k + 1, f, r =>
    if skipL r = [] then .ok (f, [])
    else R.thn (defL K f (skipL r)) fun g u => if 10 < g.msgs.length + g.enums.length then .error (some (5, u)) else allGo K k g u
def parseL (K : Nat) (l : List UInt8) : R Fil := allGo K K ⟨[], []⟩ l

theorem skipN_len (b : Bool) (l : List UInt8) : (skipN b l).length ≤ l.length := by
  induction l generalizing b with
  | nil => cases b <;> simp [skipN]
  | cons c r ih =>
    cases b with
    | true => rw [skipN]; have := ih (c != 10); simp; omega
    | false =>
      rw [skipN]
      split
      · have := ih false; simp; omega
      · split
        · have := ih true; simp; omega
        · exact Nat.le_refl _
theorem skipL_len (l : List UInt8) : (skipL l).length ≤ l.length := skipN_len false l

/-- What a text is from some byte on. -/
theorem skipN_suffix (b : Bool) (l : List UInt8) : ∃ k, k ≤ l.length ∧ skipN b l = l.drop k := by
  induction l generalizing b with
  | nil => exact ⟨0, Nat.le_refl _, by cases b <;> simp [skipN]⟩
  | cons c r ih =>
    cases b with
    | true => obtain ⟨k, hk, e⟩ := ih (c != 10); exact ⟨k + 1, by simp; omega, by rw [skipN, e]; simp⟩
    | false =>
      rw [skipN]
      split
      · obtain ⟨k, hk, e⟩ := ih false; exact ⟨k + 1, by simp; omega, by rw [e]; simp⟩
      · split
        · obtain ⟨k, hk, e⟩ := ih true; exact ⟨k + 1, by simp; omega, by rw [e]; simp⟩
        · exact ⟨0, by simp, rfl⟩

theorem skipN_note (l : List UInt8) : skipN true l = skipN false (l.dropWhile (fun c => c != 10)) := by
  induction l with
  | nil => simp [skipN]
  | cons c r ih =>
    rw [skipN]
    by_cases h : c = 10
    · subst h; simp [skipN]
    · have h1 : (c != 10) = true := by simp [h]
      rw [h1, ih]; simp [List.dropWhile, h1]

end Go.Proofs.YtelmjekjohbmjaaGreatDoor

/- For package link: the contracts of the small functions of package syntax that look at bytes. -/
namespace Go.Proofs.YtelmjekjohbmjaaGreatDoor
namespace L
open Go.RowKit

theorem ret_int {k : IntKind} {a b : Int} (h : a = b) : Ending.returned (.int k a) = .returned (.int k b) := by rw [h]
theorem ret_bool {a b : Bool} (h : a = b) : Ending.returned (.bool a) = .returned (.bool b) := by rw [h]

/-- A text of these bytes. -/
def S (l : List UInt8) : ByteArray := ⟨l.toArray⟩
theorem S_size (l : List UInt8) : (S l).size = l.length := by simp [S, ByteArray.size]
theorem S_list (l : List UInt8) : (S l).toList = l := by
  rw [ByteArray.toList_eq]; simp [S]
theorem S_inj {a b : List UInt8} (h : S a = S b) : a = b := by
  have := congrArg (fun x => x.data.toList) h; simpa [S] using this

set_option maxHeartbeats 1000000 in
theorem isLetter_any (c : UInt8) (w : World) : Calls Tryz.prog 144 #[.int .u8 (c.toNat : Int)] w fun e w' => e = .returned (.bool (letB c)) ∧ w = w' := by
  obtain ⟨X, HX⟩ : ∃ X : Nat, Hid (X = c.toNat) := ⟨_, rfl⟩
  have HL : Hid (letB c = ((decide (97 ≤ X) && decide (X ≤ 122)) || (decide (65 ≤ X) && decide (X ≤ 90)))) := by show _ = _; rw [HX.out]; rfl
  have hX : X < 256 := by rw [HX.out]; exact UInt8.toNat_lt _
  rw [← HX.out, HL.out]
  clear HX HL
  by_cases h1 : 97 ≤ X
  · by_cases h2 : X ≤ 122
    · go_enter Tryz.func144, Tryz.ntmps144
      go_wp2
      all_goals (go_ret; refine ⟨ret_bool ?_, rfl⟩; (try rw [Bool.eq_iff_iff]); (try simp); (try omega))
    · go_enter Tryz.func144, Tryz.ntmps144
      go_wp2
      all_goals (go_ret; refine ⟨ret_bool ?_, rfl⟩; (try rw [Bool.eq_iff_iff]); (try simp); (try omega))
  · go_enter Tryz.func144, Tryz.ntmps144
    go_wp2
    all_goals (go_ret; refine ⟨ret_bool ?_, rfl⟩; (try rw [Bool.eq_iff_iff]); (try simp); (try omega))

set_option maxHeartbeats 1000000 in
theorem isDigit_any (c : UInt8) (w : World) : Calls Tryz.prog 145 #[.int .u8 (c.toNat : Int)] w fun e w' => e = .returned (.bool (digB c)) ∧ w = w' := by
  obtain ⟨X, HX⟩ : ∃ X : Nat, Hid (X = c.toNat) := ⟨_, rfl⟩
  have HL : Hid (digB c = (decide (48 ≤ X) && decide (X ≤ 57))) := by show _ = _; rw [HX.out]; rfl
  have hX : X < 256 := by rw [HX.out]; exact UInt8.toNat_lt _
  rw [← HX.out, HL.out]
  clear HX HL
  by_cases h1 : 48 ≤ X
  · go_enter Tryz.func145, Tryz.ntmps145
    go_wp2
    all_goals (go_ret; refine ⟨ret_bool ?_, rfl⟩; (try rw [Bool.eq_iff_iff]); (try simp); (try omega))
  · go_enter Tryz.func145, Tryz.ntmps145
    go_wp2
    all_goals (go_ret; refine ⟨ret_bool ?_, rfl⟩; (try rw [Bool.eq_iff_iff]); (try simp); (try omega))

theorem S_get (l : List UInt8) (k : Nat) (h : k < (S l).size) : (S l)[k]'h = l.getD k 0 := by
  have hk : k < l.length := by rw [← S_size]; exact h
  have e : (S l)[k]'h = l[k]'hk := rfl
  rw [e]; simp [hk]
theorem to_S (l : List UInt8) (k : Nat) (hk : k ≤ l.length) (w : World) : (Instr.slice 9 (.string (S l)) none (some (.int .i64 (k : Int))) none).run Tryz.prog w = .ok (.string (S (l.take k))) w := by
  rw [run_slice_string_h (ht := Tryz.underlying9) (h0 := by omega) (h2 := by rw [S_size]; omega)]
  rw [Lib.extract_eq]; simp [S]
theorem from_S (l : List UInt8) (k : Nat) (hk : k ≤ l.length) (w : World) : (Instr.slice 9 (.string (S l)) (some (.int .i64 (k : Int))) none none).run Tryz.prog w = .ok (.string (S (l.drop k))) w := by
  rw [run_slice_string_l (ht := Tryz.underlying9) (h0 := by omega) (h1 := by rw [S_size]; omega)]
  rw [Lib.extract_eq]; simp [S, ByteArray.size]; exact List.take_of_length_le (by simp)
theorem tw_step {p : UInt8 → Bool} {l : List UInt8} {k : Nat} (hlt : k < l.length) (h : p (l.getD k 0) = true) : ((l.drop k).takeWhile p).length = 1 + ((l.drop (k + 1)).takeWhile p).length := by
  have e : l.getD k 0 = l[k] := by simp [hlt]
  rw [List.drop_eq_getElem_cons hlt, List.takeWhile_cons, if_pos (by rw [← e]; exact h)]; simp; omega
theorem tw_stop {p : UInt8 → Bool} {l : List UInt8} {k : Nat} (hlt : k < l.length) (h : p (l.getD k 0) = false) : ((l.drop k).takeWhile p).length = 0 := by
  have e : l.getD k 0 = l[k] := by simp [hlt]
  rw [List.drop_eq_getElem_cons hlt, List.takeWhile_cons, if_neg (by rw [← e, h]; simp)]; rfl
theorem S_nil : S [] = { data := #[] } := rfl

set_option maxHeartbeats 1000000 in
set_option maxRecDepth 100000 in
theorem wordLength_any (l : List UInt8) (hl : l.length ≤ 9223372036854775807) (w : World) : Calls Tryz.prog 118 #[.string (S l)] w fun e w' => e = .returned (.int .i64 (wordLenL l : Int)) ∧ w = w' := by
  have hsz := S_size l
  have hli := S_list l
  cases l with
  | nil =>
    go_enter Tryz.func118, Tryz.ntmps118
    go_wp2
    go_ret
    exact ⟨rfl, rfl⟩
  | cons c r =>
    have hem : (S (c :: r)).toList.isEmpty = false := by rw [S_list]; rfl
    by_cases h0 : letB c = true
    · have HW : Hid (wordLenL (c :: r) = 1 + ((c :: r).drop 1 |>.takeWhile moreB).length) := by show _ = _; simp [wordLenL, h0]
      have hL : ∀ h, letB ((S (c :: r))[0]'h) = true := by intro h; rw [S_get]; exact h0
      obtain ⟨l, Hl⟩ : ∃ l, Hid (l = c :: r) := ⟨_, rfl⟩
      rw [← Hl.out] at HW hL hem hli hsz hl ⊢
      have hlen : 1 ≤ l.length := by rw [Hl.out]; simp
      clear Hl h0 hli
      go_enter Tryz.func118, Tryz.ntmps118
      go_wp2_with fail
      refine (isLetter_any _ _).mono ?_
      rintro e w1 ⟨rfl, rfl⟩
      rw [hL]
      clear hL
      go_wp2
      go_loop [3] (fun n => ∃ k : Nat, 1 ≤ k ∧ k ≤ l.length ∧ n = .int .i64 k ∧ Hid (wordLenL l = k + ((l.drop k).takeWhile moreB).length)) (fun n => l.length - (intOf n).toNat)
      case atStart => exact ⟨1, Nat.le_refl _, hlen, rfl, HW⟩
      case round =>
        obtain ⟨k, hk1, hk, rfl, HR⟩ := hrel
        by_cases hlt : k < l.length
        · have hx : ∀ h, (S l)[k]'h = l.getD k 0 := S_get l k
          obtain ⟨x, Hx⟩ : ∃ x, Hid (x = l.getD k 0) := ⟨_, rfl⟩
          have hx' : ∀ h, (S l)[k]'h = x := by intro h; rw [S_get, Hx.out]
          clear hx
          go_wp2_with fail
          refine (isLetter_any _ _).mono ?_
          rintro e w1 ⟨rfl, rfl⟩
          by_cases h1 : letB x = true
          · rw [h1]
            go_wp2
            go_round
            case rel => exact ⟨k + 1, by omega, by omega, by go_num, by show _ = _; rw [HR.out, tw_step hlt (by rw [← Hx.out]; simp [moreB, h1])]; omega⟩
            case measure => simp [intOf]; omega
          · rw [Bool.eq_false_iff.2 h1]
            go_wp2_with fail
            refine (isDigit_any _ _).mono ?_
            rintro e w1 ⟨rfl, rfl⟩
            by_cases h2 : digB x = true
            · rw [h2]
              go_wp2
              go_round
              case rel => exact ⟨k + 1, by omega, by omega, by go_num, by show _ = _; rw [HR.out, tw_step hlt (by rw [← Hx.out]; simp [moreB, h2])]; omega⟩
              case measure => simp [intOf]; omega
            · rw [Bool.eq_false_iff.2 h2]
              by_cases h3 : x.toNat = 95
              · have h3' : ((x.toNat : Int) == 95) = true := beq_iff_eq.2 (by omega)
                go_wp2
                go_round
                case rel => exact ⟨k + 1, by omega, by omega, by go_num, by show _ = _; rw [HR.out, tw_step hlt (by rw [← Hx.out]; simp [moreB, h3])]; omega⟩
                case measure => simp [intOf]; omega
              · have h3' : ((x.toNat : Int) == 95) = false := beq_eq_false_iff_ne.2 (by omega)
                have h4 : moreB x = false := by simp [moreB, Bool.eq_false_iff.2 h1, Bool.eq_false_iff.2 h2, h3]
                go_wp2
                go_ret
                refine ⟨ret_int ?_, rfl⟩
                rw [HR.out, tw_stop hlt (by rw [← Hx.out]; exact h4)]
                simp
        · go_wp2
          go_ret
          refine ⟨ret_int ?_, rfl⟩
          rw [HR.out, List.drop_eq_nil_of_le (by omega)]
          simp
    · have hL : ∀ h, letB ((S (c :: r))[0]'h) = false := by intro h; rw [S_get]; exact Bool.eq_false_iff.2 h0
      have HW : Hid (wordLenL (c :: r) = 0) := by show _ = _; simp [wordLenL, h0]
      go_enter Tryz.func118, Tryz.ntmps118
      go_wp2_with fail
      refine (isLetter_any _ _).mono ?_
      rintro e w1 ⟨rfl, rfl⟩
      rw [hL]
      clear hL
      go_wp2
      go_ret
      exact ⟨ret_int (by rw [HW.out]; rfl), rfl⟩


end L
end Go.Proofs.YtelmjekjohbmjaaGreatDoor

