/- The contracts of Clone, name, number. -/
import Derived.Test.YtenlijgnmhdopaaGreatDoorSScan
import Derived.Lib.AtoiAllCases
import Derived.Lib.ItoaNum
import Derived.Lib.LaidTab
import Derived.Lib.UnsafeStr
namespace Go.Proofs.YtenlijgnmhdopaaGreatDoor
open Go.RowKit

/-- What the package-level variables of the library hold, below block B. -/
def Gl (B : Nat) (w : World) : Prop :=
  ∀ w', Below B w w' → (∃ tp p, w'.var? Tryz.prog "strconv.ErrRange" = some #[.iface tp p]) ∧ Lib.TabIs Tryz.prog w' "internal/strconv.uint64pow10" .u64 Lib.pow10Tab
theorem Gl.later {B : Nat} {w w' : World} (h : Gl B w) (hb : Below B w w') : Gl B w' := fun x hx => h x (hb.trans hx)
theorem Gl.kp {B b : Nat} {w w' : World} (h : Gl B w) (hB : B ≤ b) (hs : b < w.heap.size) (hk : Kp b w w') : Gl B w' := h.later (hk.below hB (by omega))

theorem foldl_ge (l : List UInt8) : ∀ acc : Nat, acc ≤ l.foldl (fun a c => 10 * a + (c.toNat - 48)) acc := by
  induction l with
  | nil => intro acc; exact Nat.le_refl _
  | cons c r ih => intro acc; exact Nat.le_trans (by omega) (ih (10 * acc + (c.toNat - 48)))
theorem parse_digits (l : List UInt8) (hd : ∀ c ∈ l, digB c = true) : ∀ acc : Nat, acc < 18446744073709551616 →
    (l.foldl (fun a c => 10 * a + (c.toNat - 48)) acc < 18446744073709551616 → Lib.parseUint10 acc l = .ok (l.foldl (fun a c => 10 * a + (c.toNat - 48)) acc)) ∧
    (18446744073709551616 ≤ l.foldl (fun a c => 10 * a + (c.toNat - 48)) acc → Lib.parseUint10 acc l = .range) := by
  induction l with
  | nil => intro acc h; exact ⟨fun _ => rfl, fun h2 => absurd h2 (by show ¬ _ ≤ acc; omega)⟩
  | cons c r ih =>
    intro acc h
    have hc := hd c (by simp)
    have h1 : 48 ≤ c.toNat ∧ c.toNat ≤ 57 := by simpa [digB] using hc
    have hge := foldl_ge r (10 * acc + (c.toNat - 48))
    have e : (c :: r).foldl (fun a c => 10 * a + (c.toNat - 48)) acc = r.foldl (fun a c => 10 * a + (c.toNat - 48)) (10 * acc + (c.toNat - 48)) := rfl
    rw [e]
    generalize hF : r.foldl (fun a c => 10 * a + (c.toNat - 48)) (10 * acc + (c.toNat - 48)) = F at *
    by_cases h2 : 1844674407370955162 ≤ acc
    · have ep : Lib.parseUint10 acc (c :: r) = .range := by simp only [Lib.parseUint10, if_pos h1, if_pos h2]
      exact ⟨fun h3 => by omega, fun _ => ep⟩
    · by_cases h3 : 18446744073709551616 ≤ acc * 10 + (c.toNat - 48)
      · have ep : Lib.parseUint10 acc (c :: r) = .range := by simp only [Lib.parseUint10, if_pos h1, if_neg h2, if_pos h3]
        exact ⟨fun h3 => by omega, fun _ => ep⟩
      · have ep : Lib.parseUint10 acc (c :: r) = Lib.parseUint10 (10 * acc + (c.toNat - 48)) r := by
          simp only [Lib.parseUint10, if_pos h1, if_neg h2, if_neg h3]
          rw [Nat.mul_comm acc 10]
        rw [ep, ← hF]
        exact ih (fun x hx => hd x (by simp [hx])) _ (by omega)
theorem atoi_digits {l : List UInt8} (hne : l ≠ []) (hd : ∀ c ∈ l, digB c = true) :
    (valL l < 9223372036854775808 → Lib.atoiAll l = .ok (valL l : Int)) ∧ (9223372036854775808 ≤ valL l → Lib.atoiAll l = .range) := by
  cases l with
  | nil => exact absurd rfl hne
  | cons c r =>
    have hc := hd c (by simp)
    have h1 : 48 ≤ c.toNat ∧ c.toNat ≤ 57 := by simpa [digB] using hc
    rw [Lib.atoiAll_plain c r (by omega) (by omega), Lib.parseMag, if_neg (by simp)]
    obtain ⟨p1, p2⟩ := parse_digits _ hd 0 (by omega)
    change valL (c :: r) < _ → Lib.parseUint10 0 (c :: r) = .ok (valL (c :: r)) at p1
    change _ ≤ valL (c :: r) → _ at p2
    generalize valL (c :: r) = F at *
    constructor
    · intro h; rw [p1 (by omega)]; simp only [Lib.signless]; rw [if_neg (by omega)]
    · intro h
      by_cases h2 : F < 18446744073709551616
      · rw [p1 h2]; simp only [Lib.signless]; rw [if_pos h]
      · rw [p2 (by omega)]; rfl
theorem takeWhile_all (p : UInt8 → Bool) (l : List UInt8) : ∀ c ∈ l.take (l.takeWhile p).length, p c = true := by
  induction l with
  | nil => simp
  | cons x t ih =>
    by_cases hx : p x = true
    · intro c hc
      simp only [List.takeWhile_cons, hx, if_true, List.length_cons, List.take_succ_cons, List.mem_cons] at hc
      rcases hc with rfl | hc
      · exact hx
      · exact ih c hc
    · simp [hx]

set_option maxHeartbeats 1000000 in
theorem clone_any (l : List UInt8) (hl : l.length ≤ 3000) (w : World) : Calls Tryz.prog 97 #[.string (S l)] w fun e w' => e = .returned (.string (S l)) ∧ Below w.heap.size w w' := by
  go_enter Tryz.func97, Tryz.ntmps97
  go_wp2_with fail
  refine (Tryz.stringslite_Clone (S l) w (by rw [S_size]; omega)).mono ?_
  rintro e w1 ⟨rfl, hb⟩
  go_wp2
  go_ret
  exact ⟨rfl, hb⟩

theorem drop_back {q : List UInt8} {n : Nat} (h : n ≤ q.length) : q.drop n = q.drop (q.length - (q.drop n).length) := by rw [List.length_drop, Nat.sub_sub_self h]

set_option maxHeartbeats 1000000 in
theorem name_any {b : Nat} {txt r : List UInt8} {m e : Value} {w : World} (h : St w b txt r m e) :
    Calls Tryz.prog 85 #[.pointer (some ⟨b, 0, none⟩)] w (Post b txt m e w (fun l v _ => v = .string (S l)) (nameL r)) := by
  go_enter Tryz.func85, Tryz.ntmps85
  go_wp2_with fail
  refine (skip_any b txt r m e w h).mono ?_
  rintro en w1 ⟨rfl, hs, hk⟩
  have HN : Hid (nameL r = nameL r) := rfl
  generalize hq : skipL r = q at hs
  have hlq : q.length ≤ 3000 := by have := hs.1; have := hs.2.1; omega
  go_wp2_with fail
  refine (wordLength_any q (by omega) _).mono ?_
  rintro en w2 ⟨rfl, rfl⟩
  obtain ⟨N, HN⟩ : ∃ N, Hid (N = wordLenL q) := ⟨_, rfl⟩
  have hNq : N ≤ q.length := by rw [HN.out]; exact wordLen_le q
  rw [← HN.out]
  by_cases h0 : N = 0
  · have HM : Hid (nameL r = .error (some (2, q))) := by show _ = _; simp [nameL, hq, ← HN.out, h0]
    subst h0
    clear hq
    go_wp2_with fail
    refine (throw_any hs 2).mono ?_
    rintro en w1 ⟨rfl, rfl⟩
    go_wp2
    exact ⟨rfl, post_err hk HM.out hs.2.1⟩
  · have e0 : ((N : Int) == 0) = false := beq_eq_false_iff_ne.2 (by omega)
    by_cases h16 : 16 < N
    · have HM : Hid (nameL r = .error (some (7, q))) := by show _ = _; simp [nameL, hq, ← HN.out, h0, h16]
      clear hq
      go_wp2_with fail
      refine (throw_any hs 7).mono ?_
      rintro en w1 ⟨rfl, rfl⟩
      go_wp2
      exact ⟨rfl, post_err hk HM.out hs.2.1⟩
    · have HM : Hid (nameL r = .ok (q.take N, q.drop N)) := by show _ = _; simp [nameL, hq, ← HN.out, h0, h16]
      have hto := to_S q N hNq
      have c1 := hs.c1
      have f1 := hs.f1
      have hl := hs.1
      obtain ⟨K, HK⟩ : ∃ K : Nat, Hid (K = txt.length - q.length) := ⟨_, rfl⟩
      rw [← HK.out] at c1
      have hK : K ≤ 3000 := by have := HK.out; omega
      have HE : Hid (txt.length - (q.drop N).length = K + N) := by show _ = _; have := HK.out; have := hs.2.1; simp; omega
      clear hq
      go_wp2_with fail
      refine (clone_any (q.take N) (by simp; omega) _).mono ?_
      rintro en w3 ⟨rfl, hb⟩
      go_wp2
      go_ret
      have hs2 := hs.set (r' := q.drop N) (v := (K : Int) + (N : Int)) (by simp) (drop_back hNq) (by rw [HE.out]; push_cast; rfl)
      exact post_ok ((hk.set _ _).trans (Kp.of_below hb)) HM.out (hs2.kept hb) rfl

theorem bytesWorld_below (w : World) (t : TypeId) (d : ByteArray) : Below w.heap.size w (Lib.bytesWorld w t d) :=
  Lib.below_freeze ((Below.drew (Below.refl _ w)).alloc (Nat.le_refl _) _) (p := ⟨w.heap.size, _, none⟩) (Nat.le_refl _) 1

theorem atoi_any {B : Nat} {d : List UInt8} (hne : d ≠ []) (hd : ∀ c ∈ d, digB c = true) (hl : d.length ≤ 3000) {w : World} (hg : Gl B w) {V : Nat} (HV : V = valL d) :
    Calls Tryz.prog 110 #[.string (S d)] w fun e w' => Below w.heap.size w w' ∧
      ((V < 9223372036854775808 ∧ e = .returned (.tuple #[.int .i64 (V : Int), .nilIface])) ∨
       (9223372036854775808 ≤ V ∧ ∃ t p, e = .returned (.tuple #[.int .i64 9223372036854775807, .iface t (.pointer (some p))]))) := by
  have hdd : (S d).data.toList = d := by simp [S]
  have hsz : (S d).size ≤ 3000 := by rw [S_size]; exact hl
  obtain ⟨a1, a2⟩ := atoi_digits hne hd
  rw [← HV] at a1 a2
  by_cases h : V < 9223372036854775808
  · have h1 : Lib.atoiAll (S d).data.toList = .ok (V : Int) := by rw [hdd]; exact a1 h
    refine (Tryz.strconv_Atoi_ok (S d) (by omega) _ h1 w).mono ?_
    rintro e w' ⟨rfl, hw⟩
    refine ⟨?_, .inl ⟨h, rfl⟩⟩
    rcases hw with rfl | ⟨t, rfl⟩
    · exact Below.refl _ _
    · exact bytesWorld_below _ _ _
  · obtain ⟨⟨tp, p, hv⟩, _⟩ := hg w (Below.refl _ _)
    have h1 : Lib.atoiAll (S d).data.toList = .range := by rw [hdd]; exact a2 (by omega)
    have h2 : Lib.atoiSat (S d).data.toList = 9223372036854775807 := by
      rw [hdd]
      cases d with
      | nil => exact absurd rfl hne
      | cons c r =>
        have hc := hd c (by simp)
        have h1 : 48 ≤ c.toNat ∧ c.toNat ≤ 57 := by simpa [digB] using hc
        exact Lib.atoiSat_other c r (by omega)
    refine (Tryz.strconv_Atoi_range_var (S d) (by omega) h1 tp p w hv).mono ?_
    rintro e w' ⟨N, rfl, _, _, hb⟩
    rw [h2]
    exact ⟨hb, .inr ⟨by omega, _, _, rfl⟩⟩

set_option maxHeartbeats 2000000 in
theorem number_any {B b : Nat} {txt r : List UInt8} {m e : Value} {w : World} (h : St w b txt r m e) (hg : Gl B w) (hB : B ≤ b) (most : Nat) (hm : most ≤ 4294967296) :
    Calls Tryz.prog 98 #[.pointer (some ⟨b, 0, none⟩), .int .i64 (most : Int)] w (Post b txt m e w (fun (n : Nat) v _ => v = .int .i64 (n : Int) ∧ n ≤ most) (numL most r)) := by
  go_enter Tryz.func98, Tryz.ntmps98
  go_wp2_with fail
  refine (skip_any b txt r m e w h).mono ?_
  rintro en w1 ⟨rfl, hs, hk⟩
  have hg1 : Gl B w1 := hg.kp hB h.lt hk
  clear hg
  generalize hq : skipL r = q at hs
  have hlq : q.length ≤ 3000 := by have := hs.1; have := hs.2.1; omega
  obtain ⟨N, HN⟩ : ∃ N, Hid (N = digLenL q) := ⟨_, rfl⟩
  have hNq : N ≤ q.length := by rw [HN.out]; exact digLen_le q
  have hto := to_S q N hNq
  go_wp2_with fail
  refine (digitsLength_any q (by omega) _).mono ?_
  rintro en w2 ⟨rfl, rfl⟩
  rw [← HN.out]
  obtain ⟨d, Hd⟩ : ∃ d, Hid (d = q.take N) := ⟨_, rfl⟩
  rw [← Hd.out] at hto
  have hdl : d.length = N := by rw [Hd.out]; simp [hNq]
  have hds : digsL r = d := by rw [digsL, hq, ← HN.out, Hd.out]
  by_cases h0 : N = 0
  · have HM : Hid (numL most r = .error (some (2, q))) := by show _ = _; simp [numL, hq, ← HN.out, h0]
    have hd0 : d = [] := List.eq_nil_of_length_eq_zero (by omega)
    clear hq hds hdl Hd
    subst hd0 h0
    have hem : (S []).toList.isEmpty = true := by rw [S_list]; rfl
    go_wp2_with fail
    refine (throw_any hs 2).mono ?_
    rintro en w1 ⟨rfl, rfl⟩
    go_wp2
    exact ⟨rfl, post_err hk HM.out hs.2.1⟩
  · have hne : d ≠ [] := by intro hh; rw [hh] at hdl; simp at hdl; omega
    have hall : ∀ c ∈ d, digB c = true := by
      intro c hc
      rw [Hd.out, HN.out] at hc
      exact takeWhile_all digB q c hc
    have hem : (S d).toList.isEmpty = false := by rw [S_list]; simpa using hne
    have hsz : (S d).size = N := by rw [S_size, hdl]
    obtain ⟨V, HV⟩ : ∃ V, Hid (V = valL d) := ⟨_, rfl⟩
    have HAt := fun (w' : World) (hw : Gl B w') => @atoi_any B d hne hall (by omega) w' hw V HV.out
    have hpos : 0 < d.length := by omega
    obtain ⟨X, HX⟩ : ∃ X : Nat, Hid (X = (d.getD 0 0).toNat) := ⟨_, rfl⟩
    have hx : ∀ h, ((S d)[0]'h).toNat = X := by intro h; rw [S_get, HX.out]
    have Hh : Hid (q.head? = some 48 ↔ X = 48) := by
      show _ ↔ _
      rw [HX.out, Hd.out]
      cases q with
      | nil => simp at hNq; omega
      | cons a t =>
        obtain ⟨n, rfl⟩ : ∃ n, N = n + 1 := ⟨N - 1, by omega⟩
        simp
        constructor
        · rintro rfl; rfl
        · intro hh; exact UInt8.toNat_inj.1 hh
    have e0 : Hid (N ≠ 0) := h0
    by_cases h1 : N = 1
    · have h1' : ¬ (1 < (N : Int)) := by omega
      have H1 : Hid (N = 1) := h1
      clear h1 h0
      go_wp2_with fail
      refine (HAt _ hg1).mono ?_
      rintro en w2 ⟨hb, hcase⟩
      have hs2 := hs.kept hb
      have hk2 := hk.trans (Kp.of_below hb)
      rcases hcase with ⟨hV, rfl⟩ | ⟨hV, tp, p, rfl⟩
      · by_cases hmv : most < V
        · have HM : Hid (numL most r = .error (some (3, q))) := by show _ = _; simp [numL, hq, ← HN.out, e0.out, hds, ← HV.out, hmv]
          clear HAt Hh hq hds hne hall
          go_wp2_with fail
          refine (throw_any hs2 3).mono ?_
          rintro en w1 ⟨rfl, rfl⟩
          go_wp2
          exact ⟨rfl, post_err hk2 HM.out hs.2.1⟩
        · have HM : Hid (numL most r = .ok (V, q.drop N)) := by show _ = _; simp [numL, hq, ← HN.out, hds, ← HV.out, hmv, H1.out]
          have c1 := hs2.c1
          have f1 := hs2.f1
          have hl := hs2.1
          obtain ⟨K, HK⟩ : ∃ K : Nat, Hid (K = txt.length - q.length) := ⟨_, rfl⟩
          rw [← HK.out] at c1
          have hK : K ≤ 3000 := by have := HK.out; omega
          have HE : Hid (txt.length - (q.drop N).length = K + N) := by show _ = _; have := HK.out; have := hs.2.1; simp; omega
          clear HAt Hh hq hds hne hall
          go_wp2
          go_ret
          exact post_ok (hk2.set _ _) HM.out (hs2.set (r' := q.drop N) (by simp) (drop_back hNq) (by rw [HE.out]; push_cast; rfl)) ⟨rfl, by omega⟩
      · have HM : Hid (numL most r = .error (some (3, q))) := by show _ = _; simp [numL, hq, ← HN.out, e0.out, hds, ← HV.out, show most < V by omega]
        clear HAt Hh hq hds hne hall
        go_wp2_with fail
        refine (throw_any hs2 3).mono ?_
        rintro en w1 ⟨rfl, rfl⟩
        go_wp2
        exact ⟨rfl, post_err hk2 HM.out hs.2.1⟩
    · have h1' : 1 < (N : Int) := by omega
      by_cases h48 : X = 48
      · have HM : Hid (numL most r = .error (some (3, q))) := by show _ = _; simp [numL, hq, ← HN.out, e0.out, Hh.out, h48, show 1 < N by omega]
        subst h48
        go_wp2_with fail
        refine (HAt _ hg1).mono ?_
        rintro en w2 ⟨hb, hcase⟩
        have hs2 := hs.kept hb
        have hk2 := hk.trans (Kp.of_below hb)
        rcases hcase with ⟨hV, rfl⟩ | ⟨hV, tp, p, rfl⟩
        · clear HAt Hh hq hds hne hall
          go_wp2_with fail
          refine (throw_any hs2 3).mono ?_
          rintro en w1 ⟨rfl, rfl⟩
          go_wp2
          exact ⟨rfl, post_err hk2 HM.out hs.2.1⟩
        · clear HAt Hh hq hds hne hall
          go_wp2_with fail
          refine (throw_any hs2 3).mono ?_
          rintro en w1 ⟨rfl, rfl⟩
          go_wp2
          exact ⟨rfl, post_err hk2 HM.out hs.2.1⟩
      · have h48' : ((X : Int) == 48) = false := beq_eq_false_iff_ne.2 (by omega)
        have H48 : Hid (X ≠ 48) := h48
        clear h48 h1 h0
        go_wp2_with fail
        refine (HAt _ hg1).mono ?_
        rintro en w2 ⟨hb, hcase⟩
        have hs2 := hs.kept hb
        have hk2 := hk.trans (Kp.of_below hb)
        rcases hcase with ⟨hV, rfl⟩ | ⟨hV, tp, p, rfl⟩
        · by_cases hmv : most < V
          · have HM : Hid (numL most r = .error (some (3, q))) := by show _ = _; simp [numL, hq, ← HN.out, e0.out, hds, ← HV.out, hmv]
            clear HAt Hh hq hds hne hall
            go_wp2_with fail
            refine (throw_any hs2 3).mono ?_
            rintro en w1 ⟨rfl, rfl⟩
            go_wp2
            exact ⟨rfl, post_err hk2 HM.out hs.2.1⟩
          · have HM : Hid (numL most r = .ok (V, q.drop N)) := by show _ = _; simp [numL, hq, ← HN.out, e0.out, hds, ← HV.out, hmv, Hh.out, H48.out]
            have c1 := hs2.c1
            have f1 := hs2.f1
            have hl := hs2.1
            obtain ⟨K, HK⟩ : ∃ K : Nat, Hid (K = txt.length - q.length) := ⟨_, rfl⟩
            rw [← HK.out] at c1
            have hK : K ≤ 3000 := by have := HK.out; omega
            have HE : Hid (txt.length - (q.drop N).length = K + N) := by show _ = _; have := HK.out; have := hs.2.1; simp; omega
            clear HAt Hh hq hds hne hall
            go_wp2
            go_ret
            exact post_ok (hk2.set _ _) HM.out (hs2.set (r' := q.drop N) (by simp) (drop_back hNq) (by rw [HE.out]; push_cast; rfl)) ⟨rfl, by omega⟩
        · have HM : Hid (numL most r = .error (some (3, q))) := by show _ = _; simp [numL, hq, ← HN.out, e0.out, hds, ← HV.out, show most < V by omega]
          clear HAt Hh hq hds hne hall
          go_wp2_with fail
          refine (throw_any hs2 3).mono ?_
          rintro en w1 ⟨rfl, rfl⟩
          go_wp2
          exact ⟨rfl, post_err hk2 HM.out hs.2.1⟩

end Go.Proofs.YtenlijgnmhdopaaGreatDoor
