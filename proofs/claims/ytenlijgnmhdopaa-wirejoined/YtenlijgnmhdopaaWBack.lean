/- Records come back from their bytes; bytes behind bytes. Plain lists. -/
import Derived.Test.YtenlijgnmhdopaaWNum
namespace Go.Proofs.Ytenlijgnmhdopaa

theorem getR_more : ∀ (l : List UInt8) (i acc N K : Nat) (m : List UInt8), getR i acc l = (N, K, 0) → getR i acc (l ++ m) = (N, K, 0) := by
  intro l
  induction l with
  | nil => intro i acc N K m h; rw [getR] at h; simp at h
  | cons x r ih =>
    intro i acc N K m h
    rw [List.cons_append, getR]
    rw [getR] at h
    split at h
    · simp at h
    · rename_i h9
      rw [if_neg h9]
      split at h
      · rename_i h1; rw [if_pos h1]; exact h
      · rename_i h1; rw [if_neg h1]; exact ih _ _ _ _ _ h

theorem tagR_more {l m : List UInt8} {A B C : Nat} (h : tagR l = (A, B, C, 0)) : tagR (l ++ m) = (A, B, C, 0) := by
  obtain ⟨N, K, E, hg⟩ : ∃ N K E, getR 0 0 l = (N, K, E) := ⟨_, _, _, rfl⟩
  rw [tagR, hg] at h
  dsimp only at h
  have hE : E = 0 := by
    unfold tagOf at h
    split at h
    · simp at h; omega
    · omega
  subst hE
  rw [tagR, getR_more l 0 0 N K m hg]
  exact h

theorem sizedR_more {l m : List UInt8} {A : List UInt8} {B : Nat} (h : sizedR l = (A, B, 0)) : sizedR (l ++ m) = (A, B, 0) := by
  obtain ⟨N, K, E, hg⟩ : ∃ N K E, getR 0 0 l = (N, K, E) := ⟨_, _, _, rfl⟩
  obtain ⟨b1, b2, b3, b4, b5⟩ := getR_bd0 hg
  rw [sizedR, hg] at h
  dsimp only at h
  unfold sizedOf at h
  split at h
  · simp at h; omega
  · split at h
    · simp at h
    · rename_i h0 h1
      have hE : E = 0 := by omega
      subst hE
      rw [sizedR, getR_more l 0 0 N K m hg]
      dsimp only
      unfold sizedOf
      rw [if_neg (by omega), if_neg (by rw [List.length_append]; omega), ← h]
      rw [List.drop_append_of_le_length b2, List.take_append_of_le_length (by rw [List.length_drop]; omega)]

theorem bitsR_more {l m : List UInt8} {how : Int} {A B : Nat} (h : bitsR l how = (A, B, 0)) : bitsR (l ++ m) how = (A, B, 0) := by
  unfold bitsR at h ⊢
  split at h
  · rename_i h0; rw [if_pos h0]; exact getR_more l 0 0 A B m h
  · rename_i h0
    rw [if_neg h0]
    split at h
    · simp at h
    · rename_i h1
      rw [if_neg (by rw [List.length_append]; omega), List.take_append_of_le_length (by omega)]
      exact h

theorem recOf_more {l m : List UInt8} {r : Rcd} {n : Nat} (h : recOf l = (r, n, 0)) : recOf (l ++ m) = (r, n, 0) := by
  obtain ⟨A, B, C, D, hT⟩ : ∃ A B C D, tagR l = (A, B, C, D) := ⟨_, _, _, _, rfl⟩
  obtain ⟨t1, t2, t3, t4, t5, t6⟩ := tagR_bd hT
  rw [recOf, hT] at h
  dsimp only at h
  split at h
  · rename_i h0
    obtain ⟨_, _, e⟩ := three_eq h
    exact absurd e h0
  · rename_i h0
    have hD : D = 0 := by omega
    subst hD
    rw [recOf, tagR_more hT]
    dsimp only
    rw [if_neg (by simp), List.drop_append_of_le_length t3]
    unfold recTail at h ⊢
    split at h
    · rename_i hB
      rw [if_pos hB]
      obtain ⟨S, T, U, hs⟩ : ∃ S T U, sizedR (l.drop C) = (S, T, U) := ⟨_, _, _, rfl⟩
      rw [hs] at h
      dsimp only at h
      split at h
      · rename_i h1; obtain ⟨_, _, e⟩ := three_eq h; exact absurd e h1
      · rename_i h1
        have hU : U = 0 := by omega
        subst hU
        rw [sizedR_more hs]
        exact h
    · rename_i hB
      rw [if_neg hB]
      obtain ⟨S, T, U, hs⟩ : ∃ S T U, bitsR (l.drop C) (B : Int) = (S, T, U) := ⟨_, _, _, rfl⟩
      rw [hs] at h
      dsimp only at h
      split at h
      · rename_i h1; obtain ⟨_, _, e⟩ := three_eq h; exact absurd e h1
      · rename_i h1
        have hU : U = 0 := by omega
        subst hU
        rw [bitsR_more hs]
        exact h

/-! ### A right record comes back -/

theorem high_low (k n : Nat) : highN (lowN k n) = n % 2 ^ (8 * k) := by
  induction k generalizing n with
  | zero => simp [lowN, highN, Nat.mod_one]
  | succ k ih =>
    rw [lowN, highN, ih, UInt8.toNat_ofNat', show 8 * (k + 1) = 8 + 8 * k by omega, Nat.pow_add, Nat.mod_mul]

theorem tagR_put {num how : Nat} {rest : List UInt8} (h1 : 1 ≤ num) (h2 : num < 536870912) (h3 : how = 0 ∨ how = 1 ∨ how = 2 ∨ how = 5) : tagR (putN (num * 8 + how) ++ rest) = (num, how, (putN (num * 8 + how)).length, 0) := by
  rw [tagR, getR_putN _ _ (by omega)]
  dsimp only
  unfold tagOf
  rw [if_neg (by simp), if_neg (by omega), if_neg (by rw [show (num * 8 + how) % 8 = how by omega]; exact isHowB_of (by omega))]
  rw [show (num * 8 + how) / 8 = num by omega, show (num * 8 + how) % 8 = how by omega]

theorem recOf_recB {r : Rcd} (hw : 0 = wrongR r.num r.how r.bits r.bytes.length) (hb : r.bits ≤ 18446744073709551615) (m : List UInt8) :
    recOf (recB r.num r.how r.bits r.bytes ++ m) = (r, (recB r.num r.how r.bits r.bytes).length, 0) := by
  obtain ⟨num, how, bits, bytes⟩ := r
  dsimp only at hw hb ⊢
  obtain ⟨q1, q2, q3, q4, q5, q6, q7⟩ := wrong_ok hw
  obtain ⟨N, rfl⟩ := Int.eq_ofNat_of_zero_le (show 0 ≤ num by omega)
  obtain ⟨H, rfl⟩ := Int.eq_ofNat_of_zero_le (show 0 ≤ how by omega)
  unfold recB
  rw [Int.toNat_natCast, Int.toNat_natCast, List.append_assoc, recOf, tagR_put (by omega) (by omega) (by omega)]
  dsimp only
  rw [if_neg (by simp), List.drop_left]
  by_cases h2 : H = 2
  · have ht : tailB (H : Int) bits bytes = putN bytes.length ++ bytes := by unfold tailB; rw [if_pos (by omega)]
    rw [ht, recTail, if_pos h2]
    have hs : sizedR ((putN bytes.length ++ bytes) ++ m) = (bytes, (putN bytes.length).length + bytes.length, 0) := by
      rw [sizedR, List.append_assoc, getR_putN _ _ (by omega)]
      dsimp only
      unfold sizedOf
      rw [if_neg (by simp), if_neg (by simp), List.drop_left, List.take_left]
    rw [hs]
    dsimp only
    rw [if_neg (by simp), q6 (by omega)]
    simp
  · have ht : tailB (H : Int) bits bytes = if (H : Int) = 0 then putN bits else lowN (widthN (H : Int)) bits := by unfold tailB; rw [if_neg (by omega)]
    rw [ht, recTail, if_neg h2]
    have hby : bytes = [] := List.eq_nil_of_length_eq_zero (q7 (by omega))
    subst hby
    have hs : bitsR ((if (H : Int) = 0 then putN bits else lowN (widthN (H : Int)) bits) ++ m) (H : Int) = (bits, (if (H : Int) = 0 then putN bits else lowN (widthN (H : Int)) bits).length, 0) := by
      unfold bitsR
      by_cases h0 : (H : Int) = 0
      · rw [if_pos h0, if_pos h0, getR_putN _ _ hb]
      · rw [if_neg h0, if_neg h0, List.length_append, lowN_len, if_neg (by omega)]
        have e : (lowN (widthN (H : Int)) bits ++ m).take (widthN (H : Int)) = lowN (widthN (H : Int)) bits := List.take_left' (lowN_len _ _)
        rw [e, high_low]
        have hm : bits % 2 ^ (8 * widthN (H : Int)) = bits := by
          apply Nat.mod_eq_of_lt
          have hH : (H : Int) = 1 ∨ (H : Int) = 5 := by omega
          rcases hH with e | e
          · rw [e]; show bits < 2 ^ 64; omega
          · have := q5 e; rw [e]; show bits < 2 ^ 32; omega
        rw [hm]
    rw [hs]
    dsimp only
    rw [if_neg (by simp), List.length_append]

theorem recB_pos (num how : Int) (bits : Nat) (l : List UInt8) : 1 ≤ (recB num how bits l).length := by
  have := putN_pos (num.toNat * 8 + how.toNat)
  unfold recB
  rw [List.length_append]
  omega

/-- What is written is read. -/
theorem parse_bytes : ∀ (rs : List Rcd) (i : Nat) (acc B : List UInt8) (a : Nat), (∀ r ∈ rs, r.bits ≤ 18446744073709551615) → acc.length ≤ 4000 → bytesGo i acc rs = (B, 0, a) →
    ∃ suf, B = acc ++ suf ∧ B.length ≤ 4000 ∧ ∀ f k accR, suf.length ≤ f → parseGo f k accR suf = (accR ++ rs, 0, 0) := by
  intro rs
  induction rs with
  | nil =>
    intro i acc B a _ hacc h
    rw [bytesGo] at h
    obtain ⟨rfl, _, _⟩ : acc = B ∧ (0 : Int) = 0 ∧ 0 = a := by simpa using h
    refine ⟨[], by simp, hacc, ?_⟩
    intro f k accR _
    rw [parseGo_end rfl, List.append_nil]
  | cons r rest ih =>
    intro i acc B a hb hacc h
    rw [bytesGo] at h
    split at h
    · rename_i h0
      have : wrongR r.num r.how r.bits r.bytes.length = 0 := by simpa using congrArg (fun p => p.2.1) h
      exact absurd this h0
    · rename_i h0
      have hw : 0 = wrongR r.num r.how r.bits r.bytes.length := by
        rcases Decidable.em (wrongR r.num r.how r.bits r.bytes.length = 0) with e | e
        · exact e.symm
        · exact absurd e h0
      split at h
      · have : (4 : Int) = 0 := by simpa using congrArg (fun p => p.2.1) h
        omega
      · rename_i h1
        obtain ⟨suf, hB, hl, hp⟩ := ih (i + 1) _ B a (fun q hq => hb q (List.mem_cons_of_mem _ hq)) (by omega) h
        refine ⟨recB r.num r.how r.bits r.bytes ++ suf, by rw [hB, List.append_assoc], hl, ?_⟩
        intro f k accR hf
        have hpos := recB_pos r.num r.how r.bits r.bytes
        rw [List.length_append] at hf
        obtain ⟨g, rfl⟩ : ∃ g, f = g + 1 := ⟨f - 1, by omega⟩
        rw [parseGo_go (by rw [List.length_append]; omega) (recOf_recB hw (hb r List.mem_cons_self) suf), List.drop_left, hp g _ _ (by omega), List.append_assoc]
        rfl

theorem parse_of_bytes {rs : List Rcd} {B : List UInt8} {a : Nat} (hb : ∀ r ∈ rs, r.bits ≤ 18446744073709551615) (h : bytesGo 0 [] rs = (B, 0, a)) : B.length ≤ 4000 ∧ parseR B = (rs, 0, 0) := by
  obtain ⟨suf, hB, hl, hp⟩ := parse_bytes rs 0 [] B a hb (by simp) h
  rw [List.nil_append] at hB
  subst hB
  refine ⟨hl, ?_⟩
  rw [parseR, if_neg (by omega), hp _ _ _ (Nat.le_refl _)]
  rfl

/-! ### What is read is right, and no longer when written -/

theorem putF_short : ∀ (f m k : Nat), m < 2 ^ (7 * k) → 1 ≤ k → (putF f m).length ≤ k := by
  intro f
  induction f with
  | zero => intro m k _ _; simp [putF]
  | succ f ih =>
    intro m k hm hk
    by_cases hs : m < 128
    · rw [putF_end hs]; simpa using hk
    · rw [putF_go hs, List.length_cons]
      have hk2 := put_f2 hm hs
      obtain ⟨j, rfl⟩ : ∃ j, k = j + 1 := ⟨k - 1, by omega⟩
      have := ih (m / 128) j (put_down hm) (by omega)
      omega

theorem getR_small : ∀ (l : List UInt8) (i acc N K : Nat), acc < 2 ^ (7 * i) → getR i acc l = (N, K, 0) → N < 2 ^ (7 * K) ∧ 1 ≤ K := by
  intro l
  induction l with
  | nil => intro i acc N K _ h; rw [getR] at h; simp at h
  | cons x r ih =>
    intro i acc N K hacc h
    rw [getR] at h
    split at h
    · simp at h
    · split at h
      · obtain ⟨rfl, rfl, _⟩ := three_eq h
        exact ⟨step_bd hacc, by omega⟩
      · exact ih _ _ _ _ (step_bd hacc) h

theorem putN_short {l : List UInt8} {N K : Nat} (h : getR 0 0 l = (N, K, 0)) : (putN N).length ≤ K := by
  obtain ⟨a, b⟩ := getR_small l 0 0 N K (by decide) h
  exact putF_short 10 N K a b

theorem tagR_short {l : List UInt8} {A B C : Nat} (h : tagR l = (A, B, C, 0)) : (putN (A * 8 + B)).length ≤ C := by
  obtain ⟨N, K, E, hg⟩ : ∃ N K E, getR 0 0 l = (N, K, E) := ⟨_, _, _, rfl⟩
  rw [tagR, hg] at h
  dsimp only at h
  unfold tagOf at h
  split at h
  · simp at h; omega
  · rename_i h0
    split at h
    · simp at h
    · split at h
      · simp at h
      · obtain ⟨rfl, rfl, rfl, _⟩ := four_eq h
        have hE : E = 0 := by omega
        subst hE
        rw [show N / 8 * 8 + N % 8 = N by omega]
        exact putN_short hg

theorem sizedR_short {l : List UInt8} {A : List UInt8} {B : Nat} (h : sizedR l = (A, B, 0)) : (putN A.length ++ A).length ≤ B := by
  obtain ⟨N, K, E, hg⟩ : ∃ N K E, getR 0 0 l = (N, K, E) := ⟨_, _, _, rfl⟩
  obtain ⟨b1, b2, b3, b4, b5⟩ := getR_bd0 hg
  rw [sizedR, hg] at h
  dsimp only at h
  unfold sizedOf at h
  split at h
  · simp at h; omega
  · rename_i h0
    split at h
    · simp at h
    · rename_i h1
      obtain ⟨rfl, rfl, _⟩ := three_eq h
      have hE : E = 0 := by omega
      subst hE
      have e : ((l.drop K).take N).length = N := by rw [List.length_take, List.length_drop]; omega
      rw [List.length_append, e]
      have := putN_short hg
      omega

theorem bitsR_short {l : List UInt8} {how : Int} {A B : Nat} (h : bitsR l how = (A, B, 0)) : (if how = 0 then putN A else lowN (widthN how) A).length ≤ B ∧ (how = 5 → A < 4294967296) := by
  unfold bitsR at h
  split at h
  · rename_i h0
    rw [if_pos h0]
    exact ⟨putN_short h, fun e => by omega⟩
  · rename_i h0
    rw [if_neg h0]
    split at h
    · simp at h
    · rename_i h1
      obtain ⟨rfl, rfl, _⟩ := three_eq h
      refine ⟨by rw [lowN_len]; omega, ?_⟩
      intro e
      subst e
      have := highN_lt (l.take (widthN 5))
      rw [show widthN 5 = 4 from rfl] at this h1 ⊢
      rw [List.length_take, Nat.min_eq_left (by omega)] at this
      exact this

theorem recOf_right {l : List UInt8} {r : Rcd} {n : Nat} (hl : l.length ≤ 4000) (h : recOf l = (r, n, 0)) : 0 = wrongR r.num r.how r.bits r.bytes.length ∧ (recB r.num r.how r.bits r.bytes).length ≤ n := by
  obtain ⟨A, B, C, D, hT⟩ : ∃ A B C D, tagR l = (A, B, C, D) := ⟨_, _, _, _, rfl⟩
  obtain ⟨t1, t2, t3, t4, t5, t6⟩ := tagR_bd hT
  rw [recOf, hT] at h
  dsimp only at h
  split at h
  · rename_i h0; obtain ⟨_, _, e⟩ := three_eq h; exact absurd e h0
  · rename_i h0
    have hD : D = 0 := by omega
    subst hD
    obtain ⟨c1, c2, c3⟩ := t6 rfl
    have hk : ¬ isHowB (B : Int) = false := by rw [c3]; simp
    have hsh := tagR_short hT
    unfold recTail at h
    split at h
    · rename_i hB
      obtain ⟨S, T, U, hs⟩ : ∃ S T U, sizedR (l.drop C) = (S, T, U) := ⟨_, _, _, rfl⟩
      obtain ⟨s1, s2, s3, s4, s5⟩ := sizedR_bd hs
      rw [List.length_drop] at s1
      rw [hs] at h
      dsimp only at h
      split at h
      · rename_i h1; obtain ⟨_, _, e⟩ := three_eq h; exact absurd e h1
      · rename_i h1
        have hU : U = 0 := by omega
        subst hU
        obtain ⟨rfl, rfl, _⟩ := three_eq h
        dsimp only
        refine ⟨?_, ?_⟩
        · unfold wrongR
          rw [if_neg hk, if_neg (by omega), if_neg (by omega), if_neg (by omega), if_neg (by omega), if_neg (by omega)]
        · have ht : tailB (B : Int) 0 S = putN S.length ++ S := by unfold tailB; rw [if_pos (by omega)]
          have := sizedR_short hs
          rw [recB, ht, List.length_append, Int.toNat_natCast, Int.toNat_natCast]
          omega
    · rename_i hB
      obtain ⟨S, T, U, hs⟩ : ∃ S T U, bitsR (l.drop C) (B : Int) = (S, T, U) := ⟨_, _, _, rfl⟩
      rw [hs] at h
      dsimp only at h
      split at h
      · rename_i h1; obtain ⟨_, _, e⟩ := three_eq h; exact absurd e h1
      · rename_i h1
        have hU : U = 0 := by omega
        subst hU
        obtain ⟨rfl, rfl, _⟩ := three_eq h
        dsimp only
        obtain ⟨u1, u2⟩ := bitsR_short hs
        refine ⟨?_, ?_⟩
        · unfold wrongR
          rw [if_neg hk, if_neg (by omega), if_neg (by omega), if_neg (by rintro ⟨e, e'⟩; have := u2 e; omega), if_neg (by omega), if_neg (by simp)]
        · have ht : tailB (B : Int) S [] = if (B : Int) = 0 then putN S else lowN (widthN (B : Int)) S := by unfold tailB; rw [if_neg (by omega)]
          rw [recB, ht, List.length_append, Int.toNat_natCast, Int.toNat_natCast]
          omega

/-- What is read can be written, in no more bytes. -/
theorem bytes_parse : ∀ (f k : Nat) (acc : List Rcd) (l : List UInt8) (m : List Rcd) (a : Nat), l.length ≤ f → l.length ≤ 4000 → parseGo f k acc l = (m, 0, a) →
    ∃ rs, m = acc ++ rs ∧ (∀ r ∈ rs, r.wf) ∧ ∀ i acc', acc'.length + l.length ≤ 4000 → ∃ p, bytesGo i acc' rs = (acc' ++ p, 0, 0) ∧ p.length ≤ l.length := by
  intro f
  induction f with
  | zero =>
    intro k acc l m a hf _ h
    rw [parseGo] at h
    obtain ⟨rfl, _, _⟩ := three_eq h
    exact ⟨[], by simp, fun r hr => by simp at hr, fun i acc' _ => ⟨[], by simp [bytesGo], by simp⟩⟩
  | succ f ih =>
    intro k acc l m a hf hl h
    by_cases h0 : l.length = 0
    · rw [parseGo_end h0] at h
      obtain ⟨rfl, _, _⟩ := three_eq h
      exact ⟨[], by simp, fun r hr => by simp at hr, fun i acc' _ => ⟨[], by simp [bytesGo], by simp⟩⟩
    · obtain ⟨r, n, E, hr⟩ : ∃ r n E, recOf l = (r, n, E) := ⟨_, _, _, rfl⟩
      obtain ⟨r1, r2, r3, r4⟩ := recOf_bd hr
      by_cases hE : E = 0
      · subst hE
        rw [parseGo_go h0 hr] at h
        have hn := (r3 rfl).1
        have hld : (l.drop n).length = l.length - n := List.length_drop
        obtain ⟨rs, hm, hwf, hb⟩ := ih (k + n) (acc ++ [r]) (l.drop n) m a (by omega) (by omega) h
        obtain ⟨hw, hsh⟩ := recOf_right hl hr
        refine ⟨r :: rs, by rw [hm, List.append_assoc]; rfl, ?_, ?_⟩
        · intro q hq
          rw [List.mem_cons] at hq
          rcases hq with rfl | hq
          · exact r4
          · exact hwf q hq
        · intro i acc' hacc
          have hlen : (acc' ++ recB r.num r.how r.bits r.bytes).length ≤ acc'.length + n := by rw [List.length_append]; omega
          obtain ⟨p, hp, hpl⟩ := hb (i + 1) (acc' ++ recB r.num r.how r.bits r.bytes) (by omega)
          refine ⟨recB r.num r.how r.bits r.bytes ++ p, ?_, by rw [List.length_append]; omega⟩
          rw [bytesGo, ← hw, if_neg (by simp), if_neg (by omega), hp, List.append_assoc]
      · rw [parseGo_err h0 hr hE] at h
        obtain ⟨_, e, _⟩ := three_eq h
        exact absurd e hE

theorem parseGo_bad : ∀ (f k : Nat) (acc : List Rcd) (l : List UInt8) (m : List Rcd) (E a : Nat), parseGo f k acc l = (m, E, a) → E ≠ 0 → m = [] := by
  intro f
  induction f with
  | zero =>
    intro k acc l m E a h hE
    rw [parseGo] at h
    obtain ⟨_, e, _⟩ := three_eq h
    exact absurd e.symm hE
  | succ f ih =>
    intro k acc l m E a h hE
    rw [parseGo] at h
    split at h
    · obtain ⟨_, e, _⟩ := three_eq h; exact absurd e.symm hE
    · split at h
      · obtain ⟨e, _, _⟩ := three_eq h; exact e.symm
      · exact ih _ _ _ _ _ _ h hE

theorem parseR_bad {l : List UInt8} {m : List Rcd} {E a : Nat} (h : parseR l = (m, E, a)) (hE : E ≠ 0) : m = [] := by
  unfold parseR at h
  split at h
  · obtain ⟨e, _, _⟩ := three_eq h; exact e.symm
  · exact parseGo_bad _ _ _ _ _ _ _ h hE

theorem parseR_good {l : List UInt8} {m : List Rcd} {a : Nat} (h : parseR l = (m, 0, a)) :
    ∃ p, bytesGo 0 [] m = (p, 0, 0) ∧ p.length ≤ l.length ∧ parseR p = (m, 0, 0) ∧ p.length ≤ 4000 := by
  unfold parseR at h
  split at h
  · obtain ⟨_, e, _⟩ := three_eq h; simp at e
  · rename_i h0
    obtain ⟨rs, hm, hwf, hb⟩ := bytes_parse _ _ _ _ _ _ (Nat.le_refl _) (by omega) h
    rw [List.nil_append] at hm
    subst hm
    obtain ⟨p, hp, hpl⟩ := hb 0 [] (by simp; omega)
    rw [List.nil_append] at hp
    obtain ⟨h4, h5⟩ := parse_of_bytes (fun r hr => (hwf r hr).2.2.2.2) hp
    exact ⟨p, hp, hpl, h5, h4⟩

/-! ### One behind the other -/

theorem parseGo_fuel : ∀ (f f' k : Nat) (acc : List Rcd) (l : List UInt8), l.length ≤ f → l.length ≤ f' → parseGo f k acc l = parseGo f' k acc l := by
  intro f
  induction f with
  | zero => intro f' k acc l h h'; rw [parseGo_end (by omega), parseGo_end (by omega)]
  | succ f ih =>
    intro f' k acc l h h'
    by_cases h0 : l.length = 0
    · rw [parseGo_end h0, parseGo_end h0]
    · obtain ⟨g, rfl⟩ : ∃ g, f' = g + 1 := ⟨f' - 1, by omega⟩
      obtain ⟨r, n, E, hr⟩ : ∃ r n E, recOf l = (r, n, E) := ⟨_, _, _, rfl⟩
      by_cases hE : E = 0
      · subst hE
        have hn := ((recOf_bd hr).2.2.1 rfl).1
        rw [parseGo_go h0 hr, parseGo_go h0 hr]
        exact ih g _ _ _ (by rw [List.length_drop]; omega) (by rw [List.length_drop]; omega)
      · rw [parseGo_err h0 hr hE, parseGo_err h0 hr hE]

/-- The answer with more ahead of it. -/
def shiftR (k : Nat) (acc : List Rcd) (p : List Rcd × Nat × Nat) : List Rcd × Nat × Nat := if p.2.1 = 0 then (acc ++ p.1, 0, 0) else ([], p.2.1, p.2.2 + k)

theorem parseGo_shift : ∀ (f k k' : Nat) (acc acc' : List Rcd) (l : List UInt8), parseGo f (k + k') (acc ++ acc') l = shiftR k acc (parseGo f k' acc' l) := by
  intro f
  induction f with
  | zero => intro k k' acc acc' l; rw [parseGo, parseGo, shiftR, if_pos rfl]
  | succ f ih =>
    intro k k' acc acc' l
    by_cases h0 : l.length = 0
    · rw [parseGo_end h0, parseGo_end h0, shiftR, if_pos rfl]
    · obtain ⟨r, n, E, hr⟩ : ∃ r n E, recOf l = (r, n, E) := ⟨_, _, _, rfl⟩
      by_cases hE : E = 0
      · subst hE
        rw [parseGo_go h0 hr, parseGo_go h0 hr, ← ih, Nat.add_assoc, List.append_assoc]
      · rw [parseGo_err h0 hr hE, parseGo_err h0 hr hE, shiftR, if_neg hE, Nat.add_comm]

theorem parseGo_join : ∀ (f k : Nat) (acc : List Rcd) (l b : List UInt8) (m : List Rcd) (a : Nat), (l ++ b).length ≤ f → parseGo f k acc l = (m, 0, a) → parseGo f k acc (l ++ b) = parseGo f (k + l.length) m b := by
  intro f
  induction f with
  | zero =>
    intro k acc l b m a hf h
    rw [List.length_append] at hf
    have hl : l = [] := List.eq_nil_of_length_eq_zero (by omega)
    subst hl
    rw [parseGo] at h
    obtain ⟨rfl, _, _⟩ := three_eq h
    rfl
  | succ f ih =>
    intro k acc l b m a hf h
    rw [List.length_append] at hf
    by_cases h0 : l.length = 0
    · have hl : l = [] := List.eq_nil_of_length_eq_zero h0
      subst hl
      rw [parseGo_end rfl] at h
      obtain ⟨rfl, _, _⟩ := three_eq h
      rfl
    · obtain ⟨r, n, E, hr⟩ : ∃ r n E, recOf l = (r, n, E) := ⟨_, _, _, rfl⟩
      obtain ⟨r1, r2, r3, r4⟩ := recOf_bd hr
      by_cases hE : E = 0
      · subst hE
        have hn := (r3 rfl).1
        have hld : (l.drop n).length = l.length - n := List.length_drop
        rw [parseGo_go h0 hr] at h
        rw [parseGo_go (by rw [List.length_append]; omega) (recOf_more hr), List.drop_append_of_le_length r2, ih _ _ _ _ _ _ (by rw [List.length_append]; omega) h, hld]
        rw [show k + n + (l.length - n) = k + l.length by omega]
        exact parseGo_fuel _ _ _ _ _ (by omega) (by omega)
      · rw [parseGo_err h0 hr hE] at h
        obtain ⟨_, e, _⟩ := three_eq h
        exact absurd e hE

theorem parseR_join {a b : List UInt8} {x : List Rcd} {i : Nat} (hl : a.length + b.length ≤ 4000) (h : parseR a = (x, 0, i)) : parseR (a ++ b) = shiftR a.length x (parseR b) := by
  unfold parseR at h ⊢
  rw [if_neg (by omega)] at h
  rw [List.length_append, if_neg (by omega), if_neg (by omega)]
  rw [parseGo_fuel a.length (a.length + b.length) 0 [] a (by omega) (by omega)] at h
  rw [parseGo_join _ _ _ _ b _ _ (by rw [List.length_append]; omega) h]
  have := parseGo_shift (a.length + b.length) a.length 0 x [] b
  rw [List.append_nil, Nat.add_zero] at this
  rw [Nat.zero_add, this, parseGo_fuel b.length (a.length + b.length) 0 [] b (by omega) (by omega)]

end Go.Proofs.Ytenlijgnmhdopaa
