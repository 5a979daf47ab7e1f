/- The contract of alive. -/
import Derived.Test.YtenlijgnmhdopaaDoorSPrint
import Derived.Test.YtenlijgnmhdopaaDoorSParse
import Derived.Test.YtenlijgnmhdopaaDoorSNamed
namespace Go.Proofs.YtenlijgnmhdopaaDoor
open Go.RowKit

def aliveTxt : List UInt8 := [109, 101, 115, 115, 97, 103, 101, 32, 65, 32, 123, 32, 114, 101, 112, 101, 97, 116, 101, 100, 32, 105, 110, 116, 54, 52, 32, 120, 32, 61, 32, 49, 59, 32, 111, 110, 101, 111, 102, 32, 123, 32, 65, 32, 121, 32, 61, 32, 50, 59, 32, 115, 116, 114, 105, 110, 103, 32, 122, 32, 61, 32, 51, 59, 32, 125, 32, 114, 101, 115, 101, 114, 118, 101, 100, 32, 57, 59, 32, 125]
def aliveMsg : Msg := ⟨[65], [⟨[120], 1, 1, [], true, 0⟩, ⟨[121], 2, 10, [65], false, 1⟩, ⟨[122], 3, 8, [], false, 1⟩], [9]⟩
theorem alive_parse : parseL 100 aliveTxt = .ok (⟨[aliveMsg], []⟩, []) := by kernel_rfl

theorem alive_ok : aliveMsg.fields.length ≤ 1000 ∧ aliveMsg.barred.length ≤ 1000 ∧ (∀ f ∈ aliveMsg.fields, f.number ≤ 4294967296) ∧ ∀ n ∈ aliveMsg.barred, n ≤ 4294967296 := by decide
theorem itoa_digit (n : Nat) (h : n < 10) : Lib.itoa (n : Int) = [UInt8.ofNat (48 + n)] := by
  unfold Lib.itoa
  rw [if_neg (by omega), Int.toNat_natCast, Lib.decDigits, dif_pos h]
def aF (f : Fld) (d : UInt8) : List UInt8 := lineP [if f.choice = 0 then b2 else b4, if f.many then repP else [], wordP f, [32], f.name, [32, 61, 32], [d], [59]]
theorem fieldP_digit (f : Fld) (h : f.number < 10) : fieldP f = aF f (UInt8.ofNat (48 + f.number)) := by unfold fieldP; rw [itoa_digit _ h]; rfl
theorem alive_len : (printP [aliveMsg] []).length = 97 := by
  have e9 : numsP [9] = [57] := by
    show Lib.join [Lib.itoa ((9 : Nat) : Int)] commaP = _
    rw [itoa_digit 9 (by decide), Lib.join_one]; rfl
  have e : printP [aliveMsg] [] = messageP aliveMsg := by simp [printP]
  rw [e]
  show (lineP [msgHead, [65], braceP] ++ (lineP [resHead, numsP [9], [59]] ++ (fieldsGo 0 aliveMsg.fields ++ lineP [[125]]))).length = 97
  rw [e9]
  simp only [aliveMsg, fieldsGo]
  rw [fieldP_digit _ (by decide), fieldP_digit _ (by decide), fieldP_digit _ (by decide)]
  decide +kernel

theorem map_one {α β : Type} {l : List (α × β)} {a : α} (h : l.map Prod.fst = [a]) : ∃ b, l = [(a, b)] := by
  match l, h with
  | [(x, y)], h => simp at h; subst h; exact ⟨y, rfl⟩

set_option maxHeartbeats 2000000 in
set_option maxRecDepth 100000 in
theorem alive_any {B : Nat} {w : World} (hg : Gl B w) (hB : B ≤ w.heap.size) :
    Calls Tryd.prog 5 #[] w fun e w' => e = .returned (.bool true) ∧ Below w.heap.size w w' := by
  have hp := Parse_any aliveTxt (by decide) hg hB 100 (by decide) (by rw [alive_parse]; intro h; cases h)
  rw [alive_parse] at hp
  go_enter Tryd.func5, Tryd.ntmps5
  go_wp2_with fail
  refine hp.mono ?_
  rintro e w1 ⟨hb, vm, ve, lm, le, rfl, hF, hm, he, hlen⟩
  obtain ⟨⟨⟨af, nf, cf⟩, ⟨ab, nb, cb⟩⟩, rfl⟩ := map_one hm
  obtain rfl : le = [] := by simpa using he
  obtain ⟨am, nm, cm, rfl, Hnm⟩ := hF.rowm.shape'
  obtain ⟨ae, ne, ce, rfl, Hne⟩ := hF.rowe.shape'
  obtain rfl : nm = 1 := Hnm.out
  obtain ⟨gm, rfl, hcm⟩ := hF.rowm.get (k := 0) rfl
  obtain ⟨rf, rb⟩ := hF.ms (aliveMsg, (af, nf, cf), (ab, nb, cb)) (by simp)
  simp only [SV.v] at rf rb
  obtain rfl : nf = 3 := rf.len
  obtain ⟨gf, rfl, hcf⟩ := rf.get (k := 1) rfl
  have e1 := hcm 1 _ rfl
  have f5 := hcf 5 _ rfl
  have ez1 : ekMsg.size = 3 := rfl
  have ez2 : ekFld.size = 6 := rfl
  rw [ez1] at e1
  rw [ez2] at f5
  simp only [Nat.zero_mul, Nat.zero_add, Nat.one_mul] at e1 f5
  have zg : gm < w1.heap.size := World.block_lt_of_cell? w1 _ e1
  have zf : gf < w1.heap.size := World.block_lt_of_cell? w1 _ f5
  clear hcm hcf ez1 ez2 hp
  obtain ⟨W2, HW2⟩ : ∃ W2, Hid (W2 = (w1.alloc (.cells #[.slice (some ⟨gm, 0, none⟩) 1 cm, .slice ae ne ce] 26)).alloc (.cells #[.int .i64 0, .int .i64 0] 29)) := ⟨_, rfl⟩
  have hB2 : Below w1.heap.size w1 W2 := by rw [HW2.out]; exact ((Below.refl _ _).alloc (Nat.le_refl _) _).alloc (by simp) _
  have hx1 : W2.heap[w1.heap.size]? = some (.cells #[.slice (some ⟨gm, 0, none⟩) 1 cm, .slice ae ne ce] 26 (0, 0)) := by rw [HW2.out]; exact alloc2_old _ _ _
  go_wp2_with fail
  rw [← HW2.out]
  refine (named_yes [97, 95, 49] (by decide) (by decide) rfl W2).mono ?_
  rintro e w3 ⟨rfl, rfl⟩
  go_wp2_with fail
  refine (words_any W2).mono ?_
  rintro e w4 ⟨rfl, hw4⟩
  have hB4 : Below W2.heap.size W2 w4 := by rw [← hw4]; exact (Below.refl _ _).alloc (Nat.le_refl _) _
  clear hw4
  have hx4 := blk_below hx1 hB4
  obtain ⟨c0, c1⟩ := blk2 hx4
  have hbw : Below w.heap.size w w4 := hb.trans ((hB2.mono hb.size).trans (hB4.mono (Nat.le_trans hb.size hB2.size)))
  have hpr : Calls Tryd.prog 8 #[.agg #[.slice (some ⟨gm, 0, none⟩) 1 cm, .slice ae ne ce]] w4 fun e w' => e = .returned (.string (S (printP [aliveMsg] []))) ∧ Below w4.heap.size w4 w' :=
    print_any ((hF.below hB2).below hB4) (hg.later (hbw.mono hB)) (Nat.le_trans hB hbw.size) (by simp) (by simp) (by intro p hp; rw [List.mem_singleton] at hp; subst hp; exact alive_ok) (by intro p hp; cases hp) (by show (printP [aliveMsg] []).length ≤ 1000000; rw [alive_len]; decide)
  have hlp : Hid ((printP [aliveMsg] []).length = 97) := alive_len
  generalize printP [aliveMsg] [] = PP at *
  have hsz := S_size PP
  rw [hlp.out] at hsz
  go_wp2_with fail
  refine hpr.mono ?_
  rintro e w5 ⟨rfl, hb5⟩
  go_wp2
  go_ret
  exact ⟨rfl, hbw.trans (hb5.mono hbw.size)⟩

end Go.Proofs.YtenlijgnmhdopaaDoor
