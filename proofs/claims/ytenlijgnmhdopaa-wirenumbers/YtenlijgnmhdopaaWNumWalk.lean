/- A number comes back: the law's walk, case by case. -/
import Derived.Test.YtenlijgnmhdopaaWAlive
import Derived.Test.YtenlijgnmhdopaaWNum
namespace Go.Proofs.Ytenlijgnmhdopaa
open Go.RowKit

set_option maxHeartbeats 2000000 in
set_option maxRecDepth 100000 in
theorem numbers_manyLo (n : Nat) (ao : Option Addr) (len cap : Nat) (l : List UInt8) (w : World) (hn : n ≤ 18446744073709551615) (hr : RdA w ao len cap l) (hlen : len ≤ 140737488351232) (hc1 : 1 < (putN n).length) (hc2 : wrap64 (n : Int) < -64) :
    Calls Try.prog 3 #[.int .u64 (n : Int), .slice ao len cap] w fun e w' => e = .returned (.bool true) ∧ Below w.heap.size w w' := by
  have HL : Hid (l.length = len) := hr.1
  have HG := getR_putN n l hn
  have HG' : Hid (getR 0 0 (putN n ++ l) = (n, (putN n).length, 0)) := HG
  clear HG
  have hp1 := putN_pos n
  have hp10 := putN_len n
  have HLast : Hid (1 < (putN n).length → ((putN n).getD ((putN n).length - 1) 0).toNat ≠ 0) := putN_last hn
  have HC1 : Hid (1 < (putN n).length) := hc1
  have HC2 : Hid (wrap64 (n : Int) < -64) := hc2
  clear hc1 hc2
  go_enter Try.func3, Try.ntmps3
  go_wp2_with fail
  refine (alive_any w).mono ?_
  rintro e w1 ⟨rfl, hb1⟩
  go_wp2_with fail
  refine (put_any w1.heap.size _ [] n w1 (OwnB.nil _ _) (Nat.le_refl _) hn (by simp)).mono ?_
  rintro e w2 ⟨v2, rfl, ho2, hb2⟩
  rw [List.nil_append] at ho2
  obtain ⟨ao2, len2, cap2, hv2, hr2⟩ := ho2.rd
  rw [hv2]
  have hbw2 : Below w.heap.size w w2 := hb1.trans (hb2.mono hb1.size)
  have hE : Below w2.heap.size w2 (w2.alloc (.cells #[] 5)) := (Below.refl _ _).alloc (Nat.le_refl _) _
  have HL2 : Hid ((putN n).length = len2) := hr2.1
  clear ho2 hv2
  go_wp2_with (at_builtin; refine wpList_appB rfl (.tmp 15) (.tmp 16) rfl w2.heap.size _ [] (putN n) rfl (OwnB.made w2 (Nat.le_refl _)) ao2 len2 cap2 rfl (hr2.later hE) ?e1 ?e2 ?_)
  case e1 => simp; omega
  case e2 => simp
  intro v3 w3 ho3 hb3
  have hbw3 : Below w2.heap.size w2 w3 := hE.trans hb3
  have hr3 := hr.later (hbw2.trans (hbw3.mono hbw2.size))
  go_wp2_with (at_builtin; refine wpList_appB rfl (.tmp 17) (.tmp 18) rfl w2.heap.size _ (putN n) l rfl ho3 ao len cap rfl hr3 ?f1 ?f2 ?_)
  case f1 => have := HL.out; omega
  case f2 => exact hbw3.size
  intro v4 w4 ho4 hb4
  have hbw4 : Below w2.heap.size w2 w4 := hbw3.trans hb4
  obtain ⟨ao4, len4, cap4, hv4, hr4⟩ := ho4.rd
  rw [hv4]
  have HG2 : Hid (getR 0 0 (putN n ++ l) = (n, len2, 0)) := by show _ = _; rw [HG'.out, HL2.out]
  have q1 : 1 ≤ len2 := by rw [← HL2.out]; exact hp1
  have q2 : len2 ≤ 10 := by rw [← HL2.out]; exact hp10
  have hrb := hr2.later hbw4
  obtain ⟨b, off, rfl, hbb, hcell⟩ := hrb.at (by omega)
  obtain ⟨X, HX⟩ : ∃ X : Nat, Hid (X = ((putN n).getD (len2 - 1) 0).toNat) := ⟨_, rfl⟩
  have hcX : w4.cell? ⟨b, off + (len2 - 1), none⟩ = some (.int .u8 (X : Int)) := by rw [HX.out]; exact hcell (len2 - 1) (by omega)
  have hX0 : 1 < len2 → ((X : Int) == 0) = false := by
    intro h
    have := HLast.out (by rw [HL2.out]; exact h)
    rw [HL2.out, ← HX.out] at this
    simp
    omega
  have hbe : Below w.heap.size w w4 := hbw2.trans (hbw4.mono hbw2.size)
  clear ho4 hv4 hp1 hp10 HLast hcell hr3 ho3 hb3 hb4 hrb hr2
  go_wp2_with fail
  refine (get_eq hr4 HG2.out).mono ?_
  rintro e w5 ⟨rfl, rfl⟩
  have h1 : 1 < len2 := by rw [← HL2.out]; exact HC1.out
  have hX1 := hX0 h1
  clear hX0
  go_wp2_with fail
  obtain ⟨hS0, hS1⟩ := wrap64_bd (n : Int)
  have hc2 := HC2.out
  clear HC2 HC1
  generalize wrap64 (n : Int) = S at hS0 hS1 hc2 ⊢
  refine (fold_any S _ hS0 hS1).mono ?_
  rintro e w6 ⟨rfl, rfl⟩
  obtain ⟨F, HF⟩ : ∃ F, Hid (foldN S = F) := ⟨_, rfl⟩
  obtain ⟨fb0, fb1⟩ := fold_bd S hS0 hS1
  rw [HF.out] at fb0 fb1 ⊢
  go_wp2_with fail
  refine (open_any F _ fb0 fb1).mono ?_
  rintro e w6 ⟨rfl, rfl⟩
  rw [← HF.out, open_fold]
  go_wp2_with fail
  refine (open_any (n : Int) _ (by omega) (by omega)).mono ?_
  rintro e w6 ⟨rfl, rfl⟩
  obtain ⟨O, HO⟩ : ∃ O, Hid (openN (n : Int) = O) := ⟨_, rfl⟩
  obtain ⟨ob0, ob1⟩ := open_bd (n : Int) (by omega) (by omega)
  rw [HO.out] at ob0 ob1 ⊢
  go_wp2_with fail
  refine (fold_any O _ ob0 ob1).mono ?_
  rintro e w6 ⟨rfl, rfl⟩
  rw [← HO.out, fold_open _ (by omega)]
  go_wp2
  go_ret
  exact ⟨rfl, hbe⟩

set_option maxHeartbeats 2000000 in
set_option maxRecDepth 100000 in
theorem numbers_manyHi (n : Nat) (ao : Option Addr) (len cap : Nat) (l : List UInt8) (w : World) (hn : n ≤ 18446744073709551615) (hr : RdA w ao len cap l) (hlen : len ≤ 140737488351232) (hc1 : 1 < (putN n).length) (hc2 : -64 ≤ wrap64 (n : Int) ∧ 64 ≤ wrap64 (n : Int)) :
    Calls Try.prog 3 #[.int .u64 (n : Int), .slice ao len cap] w fun e w' => e = .returned (.bool true) ∧ Below w.heap.size w w' := by
  have HL : Hid (l.length = len) := hr.1
  have HG := getR_putN n l hn
  have HG' : Hid (getR 0 0 (putN n ++ l) = (n, (putN n).length, 0)) := HG
  clear HG
  have hp1 := putN_pos n
  have hp10 := putN_len n
  have HLast : Hid (1 < (putN n).length → ((putN n).getD ((putN n).length - 1) 0).toNat ≠ 0) := putN_last hn
  have HC1 : Hid (1 < (putN n).length) := hc1
  have HC2 : Hid (-64 ≤ wrap64 (n : Int) ∧ 64 ≤ wrap64 (n : Int)) := hc2
  clear hc1 hc2
  go_enter Try.func3, Try.ntmps3
  go_wp2_with fail
  refine (alive_any w).mono ?_
  rintro e w1 ⟨rfl, hb1⟩
  go_wp2_with fail
  refine (put_any w1.heap.size _ [] n w1 (OwnB.nil _ _) (Nat.le_refl _) hn (by simp)).mono ?_
  rintro e w2 ⟨v2, rfl, ho2, hb2⟩
  rw [List.nil_append] at ho2
  obtain ⟨ao2, len2, cap2, hv2, hr2⟩ := ho2.rd
  rw [hv2]
  have hbw2 : Below w.heap.size w w2 := hb1.trans (hb2.mono hb1.size)
  have hE : Below w2.heap.size w2 (w2.alloc (.cells #[] 5)) := (Below.refl _ _).alloc (Nat.le_refl _) _
  have HL2 : Hid ((putN n).length = len2) := hr2.1
  clear ho2 hv2
  go_wp2_with (at_builtin; refine wpList_appB rfl (.tmp 15) (.tmp 16) rfl w2.heap.size _ [] (putN n) rfl (OwnB.made w2 (Nat.le_refl _)) ao2 len2 cap2 rfl (hr2.later hE) ?e1 ?e2 ?_)
  case e1 => simp; omega
  case e2 => simp
  intro v3 w3 ho3 hb3
  have hbw3 : Below w2.heap.size w2 w3 := hE.trans hb3
  have hr3 := hr.later (hbw2.trans (hbw3.mono hbw2.size))
  go_wp2_with (at_builtin; refine wpList_appB rfl (.tmp 17) (.tmp 18) rfl w2.heap.size _ (putN n) l rfl ho3 ao len cap rfl hr3 ?f1 ?f2 ?_)
  case f1 => have := HL.out; omega
  case f2 => exact hbw3.size
  intro v4 w4 ho4 hb4
  have hbw4 : Below w2.heap.size w2 w4 := hbw3.trans hb4
  obtain ⟨ao4, len4, cap4, hv4, hr4⟩ := ho4.rd
  rw [hv4]
  have HG2 : Hid (getR 0 0 (putN n ++ l) = (n, len2, 0)) := by show _ = _; rw [HG'.out, HL2.out]
  have q1 : 1 ≤ len2 := by rw [← HL2.out]; exact hp1
  have q2 : len2 ≤ 10 := by rw [← HL2.out]; exact hp10
  have hrb := hr2.later hbw4
  obtain ⟨b, off, rfl, hbb, hcell⟩ := hrb.at (by omega)
  obtain ⟨X, HX⟩ : ∃ X : Nat, Hid (X = ((putN n).getD (len2 - 1) 0).toNat) := ⟨_, rfl⟩
  have hcX : w4.cell? ⟨b, off + (len2 - 1), none⟩ = some (.int .u8 (X : Int)) := by rw [HX.out]; exact hcell (len2 - 1) (by omega)
  have hX0 : 1 < len2 → ((X : Int) == 0) = false := by
    intro h
    have := HLast.out (by rw [HL2.out]; exact h)
    rw [HL2.out, ← HX.out] at this
    simp
    omega
  have hbe : Below w.heap.size w w4 := hbw2.trans (hbw4.mono hbw2.size)
  clear ho4 hv4 hp1 hp10 HLast hcell hr3 ho3 hb3 hb4 hrb hr2
  go_wp2_with fail
  refine (get_eq hr4 HG2.out).mono ?_
  rintro e w5 ⟨rfl, rfl⟩
  have h1 : 1 < len2 := by rw [← HL2.out]; exact HC1.out
  have hX1 := hX0 h1
  clear hX0
  go_wp2_with fail
  obtain ⟨hS0, hS1⟩ := wrap64_bd (n : Int)
  have hc2 := HC2.out
  clear HC2 HC1
  generalize wrap64 (n : Int) = S at hS0 hS1 hc2 ⊢
  refine (fold_any S _ hS0 hS1).mono ?_
  rintro e w6 ⟨rfl, rfl⟩
  obtain ⟨F, HF⟩ : ∃ F, Hid (foldN S = F) := ⟨_, rfl⟩
  obtain ⟨fb0, fb1⟩ := fold_bd S hS0 hS1
  rw [HF.out] at fb0 fb1 ⊢
  go_wp2_with fail
  refine (open_any F _ fb0 fb1).mono ?_
  rintro e w6 ⟨rfl, rfl⟩
  rw [← HF.out, open_fold]
  go_wp2_with fail
  refine (open_any (n : Int) _ (by omega) (by omega)).mono ?_
  rintro e w6 ⟨rfl, rfl⟩
  obtain ⟨O, HO⟩ : ∃ O, Hid (openN (n : Int) = O) := ⟨_, rfl⟩
  obtain ⟨ob0, ob1⟩ := open_bd (n : Int) (by omega) (by omega)
  rw [HO.out] at ob0 ob1 ⊢
  go_wp2_with fail
  refine (fold_any O _ ob0 ob1).mono ?_
  rintro e w6 ⟨rfl, rfl⟩
  rw [← HO.out, fold_open _ (by omega)]
  obtain ⟨hs1, hs2⟩ := hc2
  have d1 : decide (S < -64) = false := by simp; omega
  have d2 : decide (64 ≤ S) = true := by simp; omega
  go_wp2
  go_ret
  exact ⟨rfl, hbe⟩

set_option maxHeartbeats 2000000 in
set_option maxRecDepth 100000 in
theorem numbers_manyMid (n : Nat) (ao : Option Addr) (len cap : Nat) (l : List UInt8) (w : World) (hn : n ≤ 18446744073709551615) (hr : RdA w ao len cap l) (hlen : len ≤ 140737488351232) (hc1 : 1 < (putN n).length) (hc2 : -64 ≤ wrap64 (n : Int) ∧ wrap64 (n : Int) < 64) :
    Calls Try.prog 3 #[.int .u64 (n : Int), .slice ao len cap] w fun e w' => e = .returned (.bool true) ∧ Below w.heap.size w w' := by
  have HL : Hid (l.length = len) := hr.1
  have HG := getR_putN n l hn
  have HG' : Hid (getR 0 0 (putN n ++ l) = (n, (putN n).length, 0)) := HG
  clear HG
  have hp1 := putN_pos n
  have hp10 := putN_len n
  have HLast : Hid (1 < (putN n).length → ((putN n).getD ((putN n).length - 1) 0).toNat ≠ 0) := putN_last hn
  have HC1 : Hid (1 < (putN n).length) := hc1
  have HC2 : Hid (-64 ≤ wrap64 (n : Int) ∧ wrap64 (n : Int) < 64) := hc2
  clear hc1 hc2
  go_enter Try.func3, Try.ntmps3
  go_wp2_with fail
  refine (alive_any w).mono ?_
  rintro e w1 ⟨rfl, hb1⟩
  go_wp2_with fail
  refine (put_any w1.heap.size _ [] n w1 (OwnB.nil _ _) (Nat.le_refl _) hn (by simp)).mono ?_
  rintro e w2 ⟨v2, rfl, ho2, hb2⟩
  rw [List.nil_append] at ho2
  obtain ⟨ao2, len2, cap2, hv2, hr2⟩ := ho2.rd
  rw [hv2]
  have hbw2 : Below w.heap.size w w2 := hb1.trans (hb2.mono hb1.size)
  have hE : Below w2.heap.size w2 (w2.alloc (.cells #[] 5)) := (Below.refl _ _).alloc (Nat.le_refl _) _
  have HL2 : Hid ((putN n).length = len2) := hr2.1
  clear ho2 hv2
  go_wp2_with (at_builtin; refine wpList_appB rfl (.tmp 15) (.tmp 16) rfl w2.heap.size _ [] (putN n) rfl (OwnB.made w2 (Nat.le_refl _)) ao2 len2 cap2 rfl (hr2.later hE) ?e1 ?e2 ?_)
  case e1 => simp; omega
  case e2 => simp
  intro v3 w3 ho3 hb3
  have hbw3 : Below w2.heap.size w2 w3 := hE.trans hb3
  have hr3 := hr.later (hbw2.trans (hbw3.mono hbw2.size))
  go_wp2_with (at_builtin; refine wpList_appB rfl (.tmp 17) (.tmp 18) rfl w2.heap.size _ (putN n) l rfl ho3 ao len cap rfl hr3 ?f1 ?f2 ?_)
  case f1 => have := HL.out; omega
  case f2 => exact hbw3.size
  intro v4 w4 ho4 hb4
  have hbw4 : Below w2.heap.size w2 w4 := hbw3.trans hb4
  obtain ⟨ao4, len4, cap4, hv4, hr4⟩ := ho4.rd
  rw [hv4]
  have HG2 : Hid (getR 0 0 (putN n ++ l) = (n, len2, 0)) := by show _ = _; rw [HG'.out, HL2.out]
  have q1 : 1 ≤ len2 := by rw [← HL2.out]; exact hp1
  have q2 : len2 ≤ 10 := by rw [← HL2.out]; exact hp10
  have hrb := hr2.later hbw4
  obtain ⟨b, off, rfl, hbb, hcell⟩ := hrb.at (by omega)
  obtain ⟨X, HX⟩ : ∃ X : Nat, Hid (X = ((putN n).getD (len2 - 1) 0).toNat) := ⟨_, rfl⟩
  have hcX : w4.cell? ⟨b, off + (len2 - 1), none⟩ = some (.int .u8 (X : Int)) := by rw [HX.out]; exact hcell (len2 - 1) (by omega)
  have hX0 : 1 < len2 → ((X : Int) == 0) = false := by
    intro h
    have := HLast.out (by rw [HL2.out]; exact h)
    rw [HL2.out, ← HX.out] at this
    simp
    omega
  have hbe : Below w.heap.size w w4 := hbw2.trans (hbw4.mono hbw2.size)
  clear ho4 hv4 hp1 hp10 HLast hcell hr3 ho3 hb3 hb4 hrb hr2
  go_wp2_with fail
  refine (get_eq hr4 HG2.out).mono ?_
  rintro e w5 ⟨rfl, rfl⟩
  have h1 : 1 < len2 := by rw [← HL2.out]; exact HC1.out
  have hX1 := hX0 h1
  clear hX0
  go_wp2_with fail
  obtain ⟨hS0, hS1⟩ := wrap64_bd (n : Int)
  have hc2 := HC2.out
  clear HC2 HC1
  generalize wrap64 (n : Int) = S at hS0 hS1 hc2 ⊢
  refine (fold_any S _ hS0 hS1).mono ?_
  rintro e w6 ⟨rfl, rfl⟩
  obtain ⟨F, HF⟩ : ∃ F, Hid (foldN S = F) := ⟨_, rfl⟩
  obtain ⟨fb0, fb1⟩ := fold_bd S hS0 hS1
  rw [HF.out] at fb0 fb1 ⊢
  go_wp2_with fail
  refine (open_any F _ fb0 fb1).mono ?_
  rintro e w6 ⟨rfl, rfl⟩
  rw [← HF.out, open_fold]
  go_wp2_with fail
  refine (open_any (n : Int) _ (by omega) (by omega)).mono ?_
  rintro e w6 ⟨rfl, rfl⟩
  obtain ⟨O, HO⟩ : ∃ O, Hid (openN (n : Int) = O) := ⟨_, rfl⟩
  obtain ⟨ob0, ob1⟩ := open_bd (n : Int) (by omega) (by omega)
  rw [HO.out] at ob0 ob1 ⊢
  go_wp2_with fail
  refine (fold_any O _ ob0 ob1).mono ?_
  rintro e w6 ⟨rfl, rfl⟩
  rw [← HO.out, fold_open _ (by omega)]
  obtain ⟨hs1, hs2⟩ := hc2
  have d1 : decide (S < -64) = false := by simp; omega
  have d2 : decide (64 ≤ S) = false := by simp; omega
  go_wp2_with fail
  refine (fold_any S _ hS0 hS1).mono ?_
  rintro e w6 ⟨rfl, rfl⟩
  have hF128 : F < 128 := by rw [← HF.out]; unfold foldN; split <;> omega
  rw [HF.out]
  obtain ⟨G, rfl⟩ := Int.eq_ofNat_of_zero_le fb0
  go_wp2_with fail
  refine (put_any w4.heap.size _ [] G w4 (OwnB.nil _ _) (Nat.le_refl _) (by omega) (by simp)).mono ?_
  rintro e w6 ⟨v6, rfl, ho6, hb6⟩
  obtain ⟨ao6, len6, cap6, hv6, hr6⟩ := ho6.rd
  rw [hv6]
  have hl6 : len6 = 1 := by rw [← hr6.1, List.nil_append]; exact putN_one (by omega)
  subst hl6
  clear ho6 hr6 hv6
  go_wp2
  go_ret
  exact ⟨rfl, hbe.trans (hb6.mono hbe.size)⟩

set_option maxHeartbeats 2000000 in
set_option maxRecDepth 100000 in
theorem numbers_oneLo (n : Nat) (ao : Option Addr) (len cap : Nat) (l : List UInt8) (w : World) (hn : n ≤ 18446744073709551615) (hr : RdA w ao len cap l) (hlen : len ≤ 140737488351232) (hc1 : (putN n).length ≤ 1) (hc2 : wrap64 (n : Int) < -64) :
    Calls Try.prog 3 #[.int .u64 (n : Int), .slice ao len cap] w fun e w' => e = .returned (.bool true) ∧ Below w.heap.size w w' := by
  have HL : Hid (l.length = len) := hr.1
  have HG := getR_putN n l hn
  have HG' : Hid (getR 0 0 (putN n ++ l) = (n, (putN n).length, 0)) := HG
  clear HG
  have hp1 := putN_pos n
  have hp10 := putN_len n
  have HLast : Hid (1 < (putN n).length → ((putN n).getD ((putN n).length - 1) 0).toNat ≠ 0) := putN_last hn
  have HC1 : Hid ((putN n).length ≤ 1) := hc1
  have HC2 : Hid (wrap64 (n : Int) < -64) := hc2
  clear hc1 hc2
  go_enter Try.func3, Try.ntmps3
  go_wp2_with fail
  refine (alive_any w).mono ?_
  rintro e w1 ⟨rfl, hb1⟩
  go_wp2_with fail
  refine (put_any w1.heap.size _ [] n w1 (OwnB.nil _ _) (Nat.le_refl _) hn (by simp)).mono ?_
  rintro e w2 ⟨v2, rfl, ho2, hb2⟩
  rw [List.nil_append] at ho2
  obtain ⟨ao2, len2, cap2, hv2, hr2⟩ := ho2.rd
  rw [hv2]
  have hbw2 : Below w.heap.size w w2 := hb1.trans (hb2.mono hb1.size)
  have hE : Below w2.heap.size w2 (w2.alloc (.cells #[] 5)) := (Below.refl _ _).alloc (Nat.le_refl _) _
  have HL2 : Hid ((putN n).length = len2) := hr2.1
  clear ho2 hv2
  go_wp2_with (at_builtin; refine wpList_appB rfl (.tmp 15) (.tmp 16) rfl w2.heap.size _ [] (putN n) rfl (OwnB.made w2 (Nat.le_refl _)) ao2 len2 cap2 rfl (hr2.later hE) ?e1 ?e2 ?_)
  case e1 => simp; omega
  case e2 => simp
  intro v3 w3 ho3 hb3
  have hbw3 : Below w2.heap.size w2 w3 := hE.trans hb3
  have hr3 := hr.later (hbw2.trans (hbw3.mono hbw2.size))
  go_wp2_with (at_builtin; refine wpList_appB rfl (.tmp 17) (.tmp 18) rfl w2.heap.size _ (putN n) l rfl ho3 ao len cap rfl hr3 ?f1 ?f2 ?_)
  case f1 => have := HL.out; omega
  case f2 => exact hbw3.size
  intro v4 w4 ho4 hb4
  have hbw4 : Below w2.heap.size w2 w4 := hbw3.trans hb4
  obtain ⟨ao4, len4, cap4, hv4, hr4⟩ := ho4.rd
  rw [hv4]
  have HG2 : Hid (getR 0 0 (putN n ++ l) = (n, len2, 0)) := by show _ = _; rw [HG'.out, HL2.out]
  have q1 : 1 ≤ len2 := by rw [← HL2.out]; exact hp1
  have q2 : len2 ≤ 10 := by rw [← HL2.out]; exact hp10
  have hrb := hr2.later hbw4
  obtain ⟨b, off, rfl, hbb, hcell⟩ := hrb.at (by omega)
  obtain ⟨X, HX⟩ : ∃ X : Nat, Hid (X = ((putN n).getD (len2 - 1) 0).toNat) := ⟨_, rfl⟩
  have hcX : w4.cell? ⟨b, off + (len2 - 1), none⟩ = some (.int .u8 (X : Int)) := by rw [HX.out]; exact hcell (len2 - 1) (by omega)
  have hX0 : 1 < len2 → ((X : Int) == 0) = false := by
    intro h
    have := HLast.out (by rw [HL2.out]; exact h)
    rw [HL2.out, ← HX.out] at this
    simp
    omega
  have hbe : Below w.heap.size w w4 := hbw2.trans (hbw4.mono hbw2.size)
  clear ho4 hv4 hp1 hp10 HLast hcell hr3 ho3 hb3 hb4 hrb hr2
  go_wp2_with fail
  refine (get_eq hr4 HG2.out).mono ?_
  rintro e w5 ⟨rfl, rfl⟩
  have h1 : ¬ 1 < len2 := by rw [← HL2.out]; have := HC1.out; omega
  clear hX0
  go_wp2_with fail
  obtain ⟨hS0, hS1⟩ := wrap64_bd (n : Int)
  have hc2 := HC2.out
  clear HC2 HC1
  generalize wrap64 (n : Int) = S at hS0 hS1 hc2 ⊢
  refine (fold_any S _ hS0 hS1).mono ?_
  rintro e w6 ⟨rfl, rfl⟩
  obtain ⟨F, HF⟩ : ∃ F, Hid (foldN S = F) := ⟨_, rfl⟩
  obtain ⟨fb0, fb1⟩ := fold_bd S hS0 hS1
  rw [HF.out] at fb0 fb1 ⊢
  go_wp2_with fail
  refine (open_any F _ fb0 fb1).mono ?_
  rintro e w6 ⟨rfl, rfl⟩
  rw [← HF.out, open_fold]
  go_wp2_with fail
  refine (open_any (n : Int) _ (by omega) (by omega)).mono ?_
  rintro e w6 ⟨rfl, rfl⟩
  obtain ⟨O, HO⟩ : ∃ O, Hid (openN (n : Int) = O) := ⟨_, rfl⟩
  obtain ⟨ob0, ob1⟩ := open_bd (n : Int) (by omega) (by omega)
  rw [HO.out] at ob0 ob1 ⊢
  go_wp2_with fail
  refine (fold_any O _ ob0 ob1).mono ?_
  rintro e w6 ⟨rfl, rfl⟩
  rw [← HO.out, fold_open _ (by omega)]
  go_wp2
  go_ret
  exact ⟨rfl, hbe⟩

set_option maxHeartbeats 2000000 in
set_option maxRecDepth 100000 in
theorem numbers_oneHi (n : Nat) (ao : Option Addr) (len cap : Nat) (l : List UInt8) (w : World) (hn : n ≤ 18446744073709551615) (hr : RdA w ao len cap l) (hlen : len ≤ 140737488351232) (hc1 : (putN n).length ≤ 1) (hc2 : -64 ≤ wrap64 (n : Int) ∧ 64 ≤ wrap64 (n : Int)) :
    Calls Try.prog 3 #[.int .u64 (n : Int), .slice ao len cap] w fun e w' => e = .returned (.bool true) ∧ Below w.heap.size w w' := by
  have HL : Hid (l.length = len) := hr.1
  have HG := getR_putN n l hn
  have HG' : Hid (getR 0 0 (putN n ++ l) = (n, (putN n).length, 0)) := HG
  clear HG
  have hp1 := putN_pos n
  have hp10 := putN_len n
  have HLast : Hid (1 < (putN n).length → ((putN n).getD ((putN n).length - 1) 0).toNat ≠ 0) := putN_last hn
  have HC1 : Hid ((putN n).length ≤ 1) := hc1
  have HC2 : Hid (-64 ≤ wrap64 (n : Int) ∧ 64 ≤ wrap64 (n : Int)) := hc2
  clear hc1 hc2
  go_enter Try.func3, Try.ntmps3
  go_wp2_with fail
  refine (alive_any w).mono ?_
  rintro e w1 ⟨rfl, hb1⟩
  go_wp2_with fail
  refine (put_any w1.heap.size _ [] n w1 (OwnB.nil _ _) (Nat.le_refl _) hn (by simp)).mono ?_
  rintro e w2 ⟨v2, rfl, ho2, hb2⟩
  rw [List.nil_append] at ho2
  obtain ⟨ao2, len2, cap2, hv2, hr2⟩ := ho2.rd
  rw [hv2]
  have hbw2 : Below w.heap.size w w2 := hb1.trans (hb2.mono hb1.size)
  have hE : Below w2.heap.size w2 (w2.alloc (.cells #[] 5)) := (Below.refl _ _).alloc (Nat.le_refl _) _
  have HL2 : Hid ((putN n).length = len2) := hr2.1
  clear ho2 hv2
  go_wp2_with (at_builtin; refine wpList_appB rfl (.tmp 15) (.tmp 16) rfl w2.heap.size _ [] (putN n) rfl (OwnB.made w2 (Nat.le_refl _)) ao2 len2 cap2 rfl (hr2.later hE) ?e1 ?e2 ?_)
  case e1 => simp; omega
  case e2 => simp
  intro v3 w3 ho3 hb3
  have hbw3 : Below w2.heap.size w2 w3 := hE.trans hb3
  have hr3 := hr.later (hbw2.trans (hbw3.mono hbw2.size))
  go_wp2_with (at_builtin; refine wpList_appB rfl (.tmp 17) (.tmp 18) rfl w2.heap.size _ (putN n) l rfl ho3 ao len cap rfl hr3 ?f1 ?f2 ?_)
  case f1 => have := HL.out; omega
  case f2 => exact hbw3.size
  intro v4 w4 ho4 hb4
  have hbw4 : Below w2.heap.size w2 w4 := hbw3.trans hb4
  obtain ⟨ao4, len4, cap4, hv4, hr4⟩ := ho4.rd
  rw [hv4]
  have HG2 : Hid (getR 0 0 (putN n ++ l) = (n, len2, 0)) := by show _ = _; rw [HG'.out, HL2.out]
  have q1 : 1 ≤ len2 := by rw [← HL2.out]; exact hp1
  have q2 : len2 ≤ 10 := by rw [← HL2.out]; exact hp10
  have hrb := hr2.later hbw4
  obtain ⟨b, off, rfl, hbb, hcell⟩ := hrb.at (by omega)
  obtain ⟨X, HX⟩ : ∃ X : Nat, Hid (X = ((putN n).getD (len2 - 1) 0).toNat) := ⟨_, rfl⟩
  have hcX : w4.cell? ⟨b, off + (len2 - 1), none⟩ = some (.int .u8 (X : Int)) := by rw [HX.out]; exact hcell (len2 - 1) (by omega)
  have hX0 : 1 < len2 → ((X : Int) == 0) = false := by
    intro h
    have := HLast.out (by rw [HL2.out]; exact h)
    rw [HL2.out, ← HX.out] at this
    simp
    omega
  have hbe : Below w.heap.size w w4 := hbw2.trans (hbw4.mono hbw2.size)
  clear ho4 hv4 hp1 hp10 HLast hcell hr3 ho3 hb3 hb4 hrb hr2
  go_wp2_with fail
  refine (get_eq hr4 HG2.out).mono ?_
  rintro e w5 ⟨rfl, rfl⟩
  have h1 : ¬ 1 < len2 := by rw [← HL2.out]; have := HC1.out; omega
  clear hX0
  go_wp2_with fail
  obtain ⟨hS0, hS1⟩ := wrap64_bd (n : Int)
  have hc2 := HC2.out
  clear HC2 HC1
  generalize wrap64 (n : Int) = S at hS0 hS1 hc2 ⊢
  refine (fold_any S _ hS0 hS1).mono ?_
  rintro e w6 ⟨rfl, rfl⟩
  obtain ⟨F, HF⟩ : ∃ F, Hid (foldN S = F) := ⟨_, rfl⟩
  obtain ⟨fb0, fb1⟩ := fold_bd S hS0 hS1
  rw [HF.out] at fb0 fb1 ⊢
  go_wp2_with fail
  refine (open_any F _ fb0 fb1).mono ?_
  rintro e w6 ⟨rfl, rfl⟩
  rw [← HF.out, open_fold]
  go_wp2_with fail
  refine (open_any (n : Int) _ (by omega) (by omega)).mono ?_
  rintro e w6 ⟨rfl, rfl⟩
  obtain ⟨O, HO⟩ : ∃ O, Hid (openN (n : Int) = O) := ⟨_, rfl⟩
  obtain ⟨ob0, ob1⟩ := open_bd (n : Int) (by omega) (by omega)
  rw [HO.out] at ob0 ob1 ⊢
  go_wp2_with fail
  refine (fold_any O _ ob0 ob1).mono ?_
  rintro e w6 ⟨rfl, rfl⟩
  rw [← HO.out, fold_open _ (by omega)]
  obtain ⟨hs1, hs2⟩ := hc2
  have d1 : decide (S < -64) = false := by simp; omega
  have d2 : decide (64 ≤ S) = true := by simp; omega
  go_wp2
  go_ret
  exact ⟨rfl, hbe⟩

set_option maxHeartbeats 2000000 in
set_option maxRecDepth 100000 in
theorem numbers_oneMid (n : Nat) (ao : Option Addr) (len cap : Nat) (l : List UInt8) (w : World) (hn : n ≤ 18446744073709551615) (hr : RdA w ao len cap l) (hlen : len ≤ 140737488351232) (hc1 : (putN n).length ≤ 1) (hc2 : -64 ≤ wrap64 (n : Int) ∧ wrap64 (n : Int) < 64) :
    Calls Try.prog 3 #[.int .u64 (n : Int), .slice ao len cap] w fun e w' => e = .returned (.bool true) ∧ Below w.heap.size w w' := by
  have HL : Hid (l.length = len) := hr.1
  have HG := getR_putN n l hn
  have HG' : Hid (getR 0 0 (putN n ++ l) = (n, (putN n).length, 0)) := HG
  clear HG
  have hp1 := putN_pos n
  have hp10 := putN_len n
  have HLast : Hid (1 < (putN n).length → ((putN n).getD ((putN n).length - 1) 0).toNat ≠ 0) := putN_last hn
  have HC1 : Hid ((putN n).length ≤ 1) := hc1
  have HC2 : Hid (-64 ≤ wrap64 (n : Int) ∧ wrap64 (n : Int) < 64) := hc2
  clear hc1 hc2
  go_enter Try.func3, Try.ntmps3
  go_wp2_with fail
  refine (alive_any w).mono ?_
  rintro e w1 ⟨rfl, hb1⟩
  go_wp2_with fail
  refine (put_any w1.heap.size _ [] n w1 (OwnB.nil _ _) (Nat.le_refl _) hn (by simp)).mono ?_
  rintro e w2 ⟨v2, rfl, ho2, hb2⟩
  rw [List.nil_append] at ho2
  obtain ⟨ao2, len2, cap2, hv2, hr2⟩ := ho2.rd
  rw [hv2]
  have hbw2 : Below w.heap.size w w2 := hb1.trans (hb2.mono hb1.size)
  have hE : Below w2.heap.size w2 (w2.alloc (.cells #[] 5)) := (Below.refl _ _).alloc (Nat.le_refl _) _
  have HL2 : Hid ((putN n).length = len2) := hr2.1
  clear ho2 hv2
  go_wp2_with (at_builtin; refine wpList_appB rfl (.tmp 15) (.tmp 16) rfl w2.heap.size _ [] (putN n) rfl (OwnB.made w2 (Nat.le_refl _)) ao2 len2 cap2 rfl (hr2.later hE) ?e1 ?e2 ?_)
  case e1 => simp; omega
  case e2 => simp
  intro v3 w3 ho3 hb3
  have hbw3 : Below w2.heap.size w2 w3 := hE.trans hb3
  have hr3 := hr.later (hbw2.trans (hbw3.mono hbw2.size))
  go_wp2_with (at_builtin; refine wpList_appB rfl (.tmp 17) (.tmp 18) rfl w2.heap.size _ (putN n) l rfl ho3 ao len cap rfl hr3 ?f1 ?f2 ?_)
  case f1 => have := HL.out; omega
  case f2 => exact hbw3.size
  intro v4 w4 ho4 hb4
  have hbw4 : Below w2.heap.size w2 w4 := hbw3.trans hb4
  obtain ⟨ao4, len4, cap4, hv4, hr4⟩ := ho4.rd
  rw [hv4]
  have HG2 : Hid (getR 0 0 (putN n ++ l) = (n, len2, 0)) := by show _ = _; rw [HG'.out, HL2.out]
  have q1 : 1 ≤ len2 := by rw [← HL2.out]; exact hp1
  have q2 : len2 ≤ 10 := by rw [← HL2.out]; exact hp10
  have hrb := hr2.later hbw4
  obtain ⟨b, off, rfl, hbb, hcell⟩ := hrb.at (by omega)
  obtain ⟨X, HX⟩ : ∃ X : Nat, Hid (X = ((putN n).getD (len2 - 1) 0).toNat) := ⟨_, rfl⟩
  have hcX : w4.cell? ⟨b, off + (len2 - 1), none⟩ = some (.int .u8 (X : Int)) := by rw [HX.out]; exact hcell (len2 - 1) (by omega)
  have hX0 : 1 < len2 → ((X : Int) == 0) = false := by
    intro h
    have := HLast.out (by rw [HL2.out]; exact h)
    rw [HL2.out, ← HX.out] at this
    simp
    omega
  have hbe : Below w.heap.size w w4 := hbw2.trans (hbw4.mono hbw2.size)
  clear ho4 hv4 hp1 hp10 HLast hcell hr3 ho3 hb3 hb4 hrb hr2
  go_wp2_with fail
  refine (get_eq hr4 HG2.out).mono ?_
  rintro e w5 ⟨rfl, rfl⟩
  have h1 : ¬ 1 < len2 := by rw [← HL2.out]; have := HC1.out; omega
  clear hX0
  go_wp2_with fail
  obtain ⟨hS0, hS1⟩ := wrap64_bd (n : Int)
  have hc2 := HC2.out
  clear HC2 HC1
  generalize wrap64 (n : Int) = S at hS0 hS1 hc2 ⊢
  refine (fold_any S _ hS0 hS1).mono ?_
  rintro e w6 ⟨rfl, rfl⟩
  obtain ⟨F, HF⟩ : ∃ F, Hid (foldN S = F) := ⟨_, rfl⟩
  obtain ⟨fb0, fb1⟩ := fold_bd S hS0 hS1
  rw [HF.out] at fb0 fb1 ⊢
  go_wp2_with fail
  refine (open_any F _ fb0 fb1).mono ?_
  rintro e w6 ⟨rfl, rfl⟩
  rw [← HF.out, open_fold]
  go_wp2_with fail
  refine (open_any (n : Int) _ (by omega) (by omega)).mono ?_
  rintro e w6 ⟨rfl, rfl⟩
  obtain ⟨O, HO⟩ : ∃ O, Hid (openN (n : Int) = O) := ⟨_, rfl⟩
  obtain ⟨ob0, ob1⟩ := open_bd (n : Int) (by omega) (by omega)
  rw [HO.out] at ob0 ob1 ⊢
  go_wp2_with fail
  refine (fold_any O _ ob0 ob1).mono ?_
  rintro e w6 ⟨rfl, rfl⟩
  rw [← HO.out, fold_open _ (by omega)]
  obtain ⟨hs1, hs2⟩ := hc2
  have d1 : decide (S < -64) = false := by simp; omega
  have d2 : decide (64 ≤ S) = false := by simp; omega
  go_wp2_with fail
  refine (fold_any S _ hS0 hS1).mono ?_
  rintro e w6 ⟨rfl, rfl⟩
  have hF128 : F < 128 := by rw [← HF.out]; unfold foldN; split <;> omega
  rw [HF.out]
  obtain ⟨G, rfl⟩ := Int.eq_ofNat_of_zero_le fb0
  go_wp2_with fail
  refine (put_any w4.heap.size _ [] G w4 (OwnB.nil _ _) (Nat.le_refl _) (by omega) (by simp)).mono ?_
  rintro e w6 ⟨v6, rfl, ho6, hb6⟩
  obtain ⟨ao6, len6, cap6, hv6, hr6⟩ := ho6.rd
  rw [hv6]
  have hl6 : len6 = 1 := by rw [← hr6.1, List.nil_append]; exact putN_one (by omega)
  subst hl6
  clear ho6 hr6 hv6
  go_wp2
  go_ret
  exact ⟨rfl, hbe.trans (hb6.mono hbe.size)⟩

theorem numbers_walk (n : Nat) (ao : Option Addr) (len cap : Nat) (l : List UInt8) (w : World) (hn : n ≤ 18446744073709551615) (hr : RdA w ao len cap l) (hlen : len ≤ 140737488351232) :
    Calls Try.prog 3 #[.int .u64 (n : Int), .slice ao len cap] w fun e w' => e = .returned (.bool true) ∧ Below w.heap.size w w' := by
  by_cases h1 : 1 < (putN n).length
  · by_cases h2 : wrap64 (n : Int) < -64
    · exact numbers_manyLo n ao len cap l w hn hr hlen h1 h2
    · by_cases h3 : 64 ≤ wrap64 (n : Int)
      · exact numbers_manyHi n ao len cap l w hn hr hlen h1 ⟨by omega, h3⟩
      · exact numbers_manyMid n ao len cap l w hn hr hlen h1 ⟨by omega, by omega⟩
  · by_cases h2 : wrap64 (n : Int) < -64
    · exact numbers_oneLo n ao len cap l w hn hr hlen (by omega) h2
    · by_cases h3 : 64 ≤ wrap64 (n : Int)
      · exact numbers_oneHi n ao len cap l w hn hr hlen (by omega) ⟨by omega, h3⟩
      · exact numbers_oneMid n ao len cap l w hn hr hlen (by omega) ⟨by omega, by omega⟩

end Go.Proofs.Ytenlijgnmhdopaa
