/- enough: the first 4001 bytes. -/
import Derived.Test.YthgbiflfinddiaaGreatKMem
import Derived.Test.YthgbiflfinddiaaGreatBMem
namespace Go.Proofs.YthgbiflfinddiaaGreat
namespace L
open Go.RowKit

theorem flat_take {α : Type} (E : EK α) (l : List α) (m : Nat) : E.flat (l.take m) = (E.flat l).take (m * E.size) := by
  unfold EK.flat
  induction l generalizing m with
  | nil => simp
  | cons a r ih =>
    cases m with
    | zero => simp
    | succ m => rw [List.take_succ_cons, List.flatMap_cons, List.flatMap_cons, ih, Nat.succ_mul, Nat.add_comm, List.take_append, E.len, Nat.add_sub_cancel_left, List.take_of_length_le (l := E.enc a) (by rw [E.len]; omega)]
theorem Row.short {α : Type} {E : EK α} {w : World} {base : Nat} {ao : Option Addr} {n cap m : Nat} {l : List α} (h : Row E w base (.slice ao n cap) l) (hm : m ≤ n) : Row E w base (.slice ao m cap) (l.take m) := by
  have hl : n = l.length := by obtain ⟨x, c, e⟩ := h.shape; cases e; rfl
  refine ⟨E.flat_len _, ?_⟩
  rcases h.2 with ⟨hv, hn⟩ | ⟨g, c, cur, hv, hbg, hg, hn, hmx, hsz, ht⟩
  · cases hv
    have : m = 0 := by omega
    subst this
    exact .inl ⟨rfl, by simp⟩
  · cases hv
    have hlm : (l.take m).length = m := by rw [List.length_take]; omega
    refine .inr ⟨g, _, cur, by rw [hlm], hbg, hg, by omega, hmx, hsz, ?_⟩
    rw [hlm, flat_take, ← ht, List.take_take, Nat.min_eq_left (Nat.mul_le_mul_right _ (by omega))]
set_option maxHeartbeats 1000000 in
set_option maxRecDepth 100000 in
theorem enough_any {w : World} {base : Nat} {ao : Option Addr} {n cap : Nat} {l : List UInt8} (h : Row ekY w base (.slice ao n cap) l) :
    Calls Tryz.prog 43 #[.slice ao n cap] w fun e w' => ∃ m, e = .returned (.slice ao m cap) ∧ Row ekY w' base (.slice ao m cap) (l.take 4001) ∧ w = w' := by
  have hl : n = l.length := by obtain ⟨x, c, e⟩ := h.shape; cases e; rfl
  have hc : n ≤ cap ∧ (ao = none → n = 0 ∧ cap = 0) := by
    rcases h.2 with ⟨hv, hn⟩ | ⟨g, c, cur, hv, hbg, hg, hn, hmx, hsz, ht⟩
    · cases hv; exact ⟨Nat.le_refl _, fun _ => ⟨rfl, rfl⟩⟩
    · cases hv; exact ⟨by omega, fun e => by cases e⟩
  by_cases hn : n ≤ 4001
  · have h1 := h.short (Nat.le_refl n)
    rw [List.take_of_length_le (by omega)] at h1
    have hi : (n : Int) ≤ 4001 := by omega
    have h2 : min (n : Int) 4001 = (n : Int) := by omega
    rw [List.take_of_length_le (by omega)]
    clear h hl
    go_enter Tryz.func43, Tryz.ntmps43
    go_wp2
    go_ret
    exact ⟨n, rfl, h1, rfl⟩
  · have h1 := h.short (m := 4001) (by omega)
    have hi : ¬ (n : Int) ≤ 4001 := by omega
    have h2 : min (n : Int) 4001 = 4001 := by omega
    clear h hl
    go_enter Tryz.func43, Tryz.ntmps43
    go_wp2
    go_ret
    exact ⟨4001, rfl, h1, rfl⟩

end L
end Go.Proofs.YthgbiflfinddiaaGreat
