/- The contract of skip. -/
import Derived.Test.YtenlijgnmhdopaaGreatDoorSMem
namespace Go.Proofs.YtenlijgnmhdopaaGreatDoor
open Go.RowKit

theorem skip_blank {c : UInt8} {r : List UInt8} (h : c = 32 ∨ c = 10) : skipL (c :: r) = skipL r := by simp [skipL, skipN, h]
theorem drop_line (r : List UInt8) : r.drop (lineL r) = r.dropWhile (fun c => c != 10) := by
  induction r with
  | nil => rfl
  | cons c t ih =>
    by_cases hc : c = 10
    · subst hc; simp [lineL]
    · have hb : (c != 10) = true := by simp [hc]
      simp only [lineL, List.takeWhile_cons, hb, if_true, List.length_cons, List.drop_succ_cons, List.dropWhile_cons]
      exact ih
theorem two_slashes {a b : UInt8} {r : List UInt8} (h : Lib.hasPrefix (a :: b :: r) [47, 47] = true) : a = 47 ∧ b = 47 := by
  have h1 : ((47 : UInt8) == a && ((47 : UInt8) == b && true)) = true := h
  rw [Bool.and_true, Bool.and_eq_true, beq_iff_eq, beq_iff_eq] at h1
  exact ⟨h1.1.symm, h1.2.symm⟩
theorem skip_note {r : List UInt8} (h : Lib.hasPrefix r [47, 47] = true) : skipL r = skipL (r.drop (lineL r)) := by
  match r, h with
  | [], h => exact absurd h (by decide)
  | [a], h => exact absurd h (by simp [Lib.hasPrefix])
  | a :: b :: r, h =>
    obtain ⟨rfl, rfl⟩ := two_slashes h
    rw [drop_line, skipL, skipL]
    have e : (47 :: 47 :: r).dropWhile (fun c : UInt8 => c != 10) = r.dropWhile (fun c => c != 10) := by simp
    rw [e, ← skipN_note]
    simp [skipN]
theorem skip_stop {c : UInt8} {r : List UInt8} (h : ¬ (c = 32 ∨ c = 10)) (hp : Lib.hasPrefix (c :: r) [47, 47] = false) : skipL (c :: r) = c :: r := by
  have : ¬ (c = 47 ∧ r.head? = some 47) := by
    rintro ⟨rfl, hr⟩
    cases r with
    | nil => simp at hr
    | cons d t => simp at hr; subst hr; simp [Lib.hasPrefix] at hp
  simp [skipL, skipN, h, this]
theorem note_pos {r : List UInt8} (h : Lib.hasPrefix r [47, 47] = true) : 0 < lineL r := by
  match r, h with
  | [], h => exact absurd h (by decide)
  | [a], h => exact absurd h (by simp [Lib.hasPrefix])
  | a :: b :: r, h =>
    obtain ⟨rfl, rfl⟩ := two_slashes h
    simp [lineL]

set_option maxHeartbeats 2000000 in
set_option maxRecDepth 100000 in
theorem skip_any (b : Nat) (txt r0 : List UInt8) (m e : Value) (w : World) (h0 : St w b txt r0 m e) :
    Calls Tryz.prog 84 #[.pointer (some ⟨b, 0, none⟩)] w fun en w' => en = .returned (.string (S (skipL r0))) ∧ St w' b txt (skipL r0) m e ∧ Kp b w w' := by
  go_enter Tryz.func84, Tryz.ntmps84
  go_wp2
  go_loopg [] r0.length (fun k wr => ∃ r : List UInt8, r.length = k ∧ St wr b txt r m e ∧ Kp b w wr ∧ Hid (skipL r0 = skipL r))
  case atStart => exact ⟨r0, rfl, h0, Kp.refl _ _, rfl⟩
  case round =>
    obtain ⟨r, hk, hst, hkp, HR⟩ := hrel
    have c0 := hst.c0
    have c1 := hst.c1
    have f1 := hst.f1
    have hl1 : txt.length ≤ 3000 := hst.1
    have hl2 : r.length ≤ txt.length := hst.2.1
    have hsz := S_size txt
    obtain ⟨K, HK⟩ : ∃ K : Nat, Hid (K = txt.length - r.length) := ⟨_, rfl⟩
    rw [← HK.out] at c1
    cases r with
    | nil =>
      have hKl : K = txt.length := by have := HK.out; simpa using this
      subst hKl
      go_wp2_with fail
      go_quiet (fail)
      go_wp2
      go_ret
      refine ⟨?_, ?_, hkp.drewN _⟩
      · rw [HR.out]; rfl
      · rw [HR.out]; exact hst.drewN _
    | cons c t =>
      have hKl : K < txt.length := by have := HK.out; simp at this hl2; omega
      have hdr : txt.drop K = c :: t := by rw [HK.out]; exact hst.2.2.1.symm
      have hfr : ∀ w, (Instr.slice 9 (.string (S txt)) (some (.int .i64 (K : Int))) none none).run Tryz.prog w = .ok (.string (S (c :: t))) w := by
        intro w; rw [← hdr]; exact from_S txt K (by omega) w
      have hszr : (S (c :: t)).size = t.length + 1 := by rw [S_size]; rfl
      obtain ⟨X, HX⟩ : ∃ X : Nat, Hid (X = c.toNat) := ⟨_, rfl⟩
      have hx : ∀ h, ((S (c :: t))[0]'h).toNat = X := by intro h; rw [S_get, HX.out]; rfl
      clear hdr
      have HL : Hid (txt.length - t.length = K + 1 ∧ t.length ≤ (c :: t).length) := ⟨by have := HK.out; simp at this hl2; omega, by simp⟩
      by_cases h1 : X = 32 ∨ X = 10
      · have hc : Hid (c = 32 ∨ c = 10) := by
          show _ ∨ _
          rcases h1 with h | h
          · exact .inl (UInt8.toNat_inj.1 (by rw [← HX.out, h]; rfl))
          · exact .inr (UInt8.toNat_inj.1 (by rw [← HX.out, h]; rfl))
        have HT : Hid (skipL r0 = skipL t) := HR.out.trans (skip_blank hc.out)
        clear hl2
        rcases h1 with rfl | rfl
        · go_wp2_with fail
          go_quiet (fail)
          go_wp2_with fail
          go_quiet (fail)
          go_wp2_with fail
          go_roundg t.length
          case measure => simp at hk; omega
          case rel => exact ⟨t, rfl, (hst.drewN _).set HL.out.2 (by simp) (by rw [HL.out.1]; rfl), (hkp.drewN _).set _ _, HT⟩
        · go_wp2_with fail
          go_quiet (fail)
          go_wp2_with fail
          go_quiet (fail)
          go_wp2_with fail
          go_roundg t.length
          case measure => simp at hk; omega
          case rel => exact ⟨t, rfl, (hst.drewN _).set HL.out.2 (by simp) (by rw [HL.out.1]; rfl), (hkp.drewN _).set _ _, HT⟩
      · have hc : Hid (¬ (c = 32 ∨ c = 10)) := by
          show ¬ _
          rintro (rfl | rfl)
          · exact h1 (.inl HX.out)
          · exact h1 (.inr HX.out)
        have e1 : ((X : Int) == 32) = false := beq_eq_false_iff_ne.2 (by omega)
        have e2 : ((X : Int) == 10) = false := beq_eq_false_iff_ne.2 (by omega)
        have hd : (S (c :: t)).data.toList = c :: t := by simp [S]
        clear h1 hl2
        by_cases hp : Lib.hasPrefix (c :: t) [47, 47] = true
        · have HT : Hid (skipL r0 = skipL ((c :: t).drop (lineL (c :: t)))) := HR.out.trans (skip_note hp)
          have HN : Hid (0 < lineL (c :: t) ∧ lineL (c :: t) ≤ (c :: t).length) := ⟨note_pos hp, lineL_le _⟩
          obtain ⟨N, HNe⟩ : ∃ N, Hid (N = lineL (c :: t)) := ⟨_, rfl⟩
          rw [← HNe.out] at HT HN
          have hN : N ≤ 3000 := by have := HN.out.2; have := hst.2.1; omega
          go_wp2_with fail
          go_quiet (fail)
          go_wp2_with fail
          go_quiet (fail)
          go_wp2_with fail
          refine (Tryz.strings_HasPrefix _ _ _).mono ?_
          rintro e w1 ⟨rfl, hw1⟩
          subst hw1
          rw [hd, hp]
          go_wp2_with fail
          go_region_with (go_at_call 96; refine (lineLength_any _ _).mono ?_; rintro e w1 ⟨rfl, rfl⟩)
          all_goals
            rw [← HNe.out]
            have HM : Hid (((c :: t).drop N).length = (c :: t).length - N ∧ txt.length - ((c :: t).length - N) = K + N) := ⟨by simp, by have := HK.out; have := HN.out; have := hst.2.1; omega⟩
            go_wp2
            go_roundg ((c :: t).drop N).length
            case measure => have := HM.out.1; have := HN.out; omega
            case rel => exact ⟨(c :: t).drop N, rfl, (hst.drewN _).set (by rw [HM.out.1]; omega) (by rw [HM.out.1, Nat.sub_sub_self HN.out.2]) (by rw [HM.out.1, HM.out.2, IntKind.wrap_i64]; omega), (hkp.drewN _).set _ _, HT⟩
        · rw [Bool.not_eq_true] at hp
          have HT : Hid (skipL r0 = c :: t) := HR.out.trans (skip_stop hc.out hp)
          go_wp2_with fail
          go_quiet (fail)
          go_wp2_with fail
          go_quiet (fail)
          go_wp2_with fail
          refine (Tryz.strings_HasPrefix _ _ _).mono ?_
          rintro e w1 ⟨rfl, hw1⟩
          subst hw1
          rw [hd, hp]
          go_wp2
          go_ret
          refine ⟨?_, ?_, hkp.drewN _⟩
          · rw [HT.out]; rfl
          · rw [HT.out]; exact hst.drewN _

end Go.Proofs.YtenlijgnmhdopaaGreatDoor
