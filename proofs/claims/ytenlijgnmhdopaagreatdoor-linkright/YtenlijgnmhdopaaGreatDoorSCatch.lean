/- The edge at which what is thrown is caught. -/
import Derived.Test.YtenlijgnmhdopaaGreatDoorSScan
import Derived.Defers
import Derived.Recover
namespace Go.Proofs.YtenlijgnmhdopaaGreatDoor
open Go.RowKit

theorem assert_fault (v : Value) (w : World) : (Instr.typeAssert (.iface 29 v) 20 29 false).run Tryz.prog w = .ok v w := by kernel_rfl

set_option maxHeartbeats 1000000 in
theorem catch_thrown (R c k : Nat) (w : World) (x y : Int) (h0 : w.cell? ⟨R, 0, none⟩ = some (.int .i64 x)) (h1 : w.cell? ⟨R, 1, none⟩ = some (.int .i64 y)) (f0 : w.frozen? ⟨R, 0, none⟩ = false) (f1 : w.frozen? ⟨R, 1, none⟩ = false) :
    CallsD Tryz.prog 40 #[.pointer (some ⟨R, 0, none⟩)] (.panicking (Ft c k)) w fun e u' w' =>
      e = .returned (.tuple #[]) ∧ u' = .panicking [{ v := .iface 29 (.agg #[.int .i64 (c : Int), .int .i64 (k : Int)]), recovered := true }] ∧ w' = (w.setCell ⟨R, 0, none⟩ (.int .i64 (c : Int))).setCell ⟨R, 1, none⟩ (.int .i64 (k : Int)) := by
  refine callsD_of_wpS Tryz.func40 rfl fun c₀ cs hu => ?_
  unfold Ft at hu
  apply wpS_seq
  apply wpS_region
  simp [wpOpsS, go_sem, recoverD, hu, Tryz.ntmps40, Exit.thenS]
  apply wpS_seq
  apply wpS_region
  simp [wpOpsS, go_sem, Array.replicate, Exit.thenS]
  refine wpS_cond (t := true) (by simp [Act.eval]) ?_
  simp only [if_true]
  apply wpS_region
  simp [wpOpsS, go_sem, assert_fault, h0, h1, f0, f1, bodyPostS, results, Tryz.results40]

set_option maxHeartbeats 1000000 in
theorem catch_idle (R : Nat) (w : World) :
    CallsD Tryz.prog 40 #[.pointer (some ⟨R, 0, none⟩)] .returning w fun e u' w' => e = .returned (.tuple #[]) ∧ u' = .returning ∧ w' = w := by
  refine callsD_of_wpS Tryz.func40 rfl fun c₀ cs hu => ?_
  apply wpS_seq
  apply wpS_region
  simp [wpOpsS, go_sem, recoverD, hu, Tryz.ntmps40, Exit.thenS]
  apply wpS_seq
  apply wpS_region
  simp [wpOpsS, go_sem, Array.replicate, Exit.thenS]
  refine wpS_cond (t := false) (by simp [Act.eval]) ?_
  simp only [Bool.false_eq_true, if_false]
  refine wpS_of_wp (wp_skip ?_)
  cases c₀
  simp_all [bodyPostS, results, Tryz.results40]

end Go.Proofs.YtenlijgnmhdopaaGreatDoor
