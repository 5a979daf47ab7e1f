/- What the row lists of the library's variables, as the contracts ask for it. -/
import Derived.Test.YtenlijgnmhdopaaGreatDoorRows
import Derived.Test.YtenlijgnmhdopaaGreatDoorSName
import Derived.Lib.LaidTab
import Derived.Below
namespace Go.Proofs.YtenlijgnmhdopaaGreatDoor
open Go.RowKit

theorem var_below {P : Program} {w w' : World} {n : String} {cs : Array Value} (hb : Below w.heap.size w w') (h : w.var? P n = some cs) : w'.var? P n = some cs := by
  unfold World.var? at h ⊢
  cases hg : P.globalNamed n with
  | none => rw [hg] at h; cases h
  | some g =>
    rw [hg] at h
    simp only [Option.bind_some] at h ⊢
    by_cases hlt : g < w.heap.size
    · rw [hb.block g hlt]; exact h
    · rw [Array.getElem?_eq_none (by omega)] at h; cases h

theorem iface_of_trod {P : Program} {w : World} {fuel : Nat} {t : TypeId} {cs : List Value} {m : String} {d : DataW Unit} {p : List MemPlace} {ms} (ht : P.underlying t = some (.interface ms)) (h : DataW.trod (fun _ => ()) P w 0 (fun _ => true) false fuel t cs = some (.iface m d, p)) : ∃ u v, cs = [.iface u v] := by
  cases fuel with
  | zero => simp [DataW.trod] at h
  | succ fuel =>
    simp only [DataW.trod, ht] at h
    split at h <;> first | (rename_i hh; cases hh; done) | skip
    all_goals first | exact ⟨_, _, rfl⟩ | (simp at h; done)

theorem g_pow : (Tryz.prog.globalNamed "internal/strconv.uint64pow10").bind (fun g => (Tryz.prog.globals[g]?).map (·.type)) = some 146 := by kernel_rfl
theorem g_err : (Tryz.prog.globalNamed "strconv.ErrRange").bind (fun g => (Tryz.prog.globals[g]?).map (·.type)) = some 114 := by kernel_rfl
theorem u_pow : Tryz.prog.underlying 146 = some (.array 20 139) := by kernel_rfl
theorem u_err : ∃ ms, Tryz.prog.underlying 114 = some (.interface ms) := ⟨_, Tryz.underlying114⟩
theorem laid_pow : (Rows.laid_internal_strconv_uint64pow10 : DataW Unit) = Lib.tabData .u64 Lib.pow10Tab := by rfl

theorem gl_of_laid {W : World} (h : laidMetH Tryz.prog Rows.linkBarredRow.laid W) : Gl W.heap.size W := by
  have h : laidMet Tryz.prog Rows.linkBarredRow.laid W := h
  obtain ⟨ps, ⟨g1, t1, cs1, fuel1, p1, q1, hg1, ht1, hvar1, hd1, ⟨g2, t2, cs2, fuel2, p2, q2, hg2, ht2, hvar2, hd2, ⟨g3, t3, cs3, fuel3, p3, q3, hg3, ht3, hvar3, hd3, ⟨g4, t4, cs4, fuel4, p4, q4, hg4, ht4, hvar4, hd4, _, _⟩, _⟩, _⟩, _⟩, _⟩ := h
  have e3 := g_pow
  rw [hg3] at e3
  simp only [Option.bind_some] at e3
  obtain rfl := Option.some.inj (ht3.symm.trans e3)
  have e4 := g_err
  rw [hg4] at e4
  simp only [Option.bind_some] at e4
  obtain rfl := Option.some.inj (ht4.symm.trans e4)
  obtain ⟨ms, hu⟩ := u_err
  obtain ⟨u, v, hcs4⟩ := iface_of_trod hu hd4
  rw [laid_pow] at hd3
  have hcs3 := Lib.cells_of_tab u_pow Tryz.underlying139 (by kernel_rfl) (by kernel_rfl) hd3
  intro w' hb
  refine ⟨⟨u, v, ?_⟩, ?_⟩
  · rw [var_below hb hvar4, ← hcs4]
  · show w'.var? _ _ = _
    rw [var_below hb hvar3, ← hcs3]
end Go.Proofs.YtenlijgnmhdopaaGreatDoor
