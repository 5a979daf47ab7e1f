/- Structs held against each other: the same ones. -/
import Derived.Test.YtenlijgnmhdopaaDoorSAll
import Derived.Laws.StructEq
namespace Go.Proofs.YtenlijgnmhdopaaDoor
open Go.RowKit

theorem fields_fld : Tryd.prog.underlying 44 = some (.struct (Tryd.prog.fieldsOf 44)) := by kernel_rfl
theorem held_fld : Tryd.prog.stoodInHeld 44 = false := by kernel_rfl
theorem fields_itm : Tryd.prog.underlying 51 = some (.struct (Tryd.prog.fieldsOf 51)) := by kernel_rfl
theorem held_itm : Tryd.prog.stoodInHeld 51 = false := by kernel_rfl

set_option maxHeartbeats 1000000 in
theorem neq_fld (f : Fld) (w : World) : (binOp .neq 44 (.agg #[.string (S f.name), .int .i64 (f.number : Int), .int .i64 (f.kind : Int), .string (S f.type), .bool f.many, .int .i64 (f.choice : Int)]) (.agg #[.string (S f.name), .int .i64 (f.number : Int), .int .i64 (f.kind : Int), .string (S f.type), .bool f.many, .int .i64 (f.choice : Int)])).run Tryd.prog w = .ok (.bool false) w := by
  have u1 := Tryd.underlying3; have a1 := Tryd.isAgg3; have z1 := Tryd.sizeOf3
  have u2 := Tryd.underlying9; have a2 := Tryd.isAgg9; have z2 := Tryd.sizeOf9
  have u3 := Tryd.underlying4; have a3 := Tryd.isAgg4; have z3 := Tryd.sizeOf4
  rw [run_neq_struct, show (10000 : Nat) = 9999 + 1 from rfl, run_equalIn_agg w 9999 44 _ _ fields_fld held_fld]
  simp only [Program.fieldsOf, Tryd.underlying44]
  go_simp

set_option maxHeartbeats 1000000 in
theorem neq_itm (f : Itm) (w : World) : (binOp .neq 51 (.agg #[.string (S f.name), .int .i64 f.value]) (.agg #[.string (S f.name), .int .i64 f.value])).run Tryd.prog w = .ok (.bool false) w := by
  have u1 := Tryd.underlying3; have a1 := Tryd.isAgg3; have z1 := Tryd.sizeOf3
  have u2 := Tryd.underlying9; have a2 := Tryd.isAgg9; have z2 := Tryd.sizeOf9
  rw [run_neq_struct, show (10000 : Nat) = 9999 + 1 from rfl, run_equalIn_agg w 9999 51 _ _ fields_itm held_itm]
  simp only [Program.fieldsOf, Tryd.underlying51]
  go_simp

end Go.Proofs.YtenlijgnmhdopaaDoor
