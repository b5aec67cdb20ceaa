/- message: a status is like itself. -/
import Derived.Test.YtbflbgnafdbngaaDoorMsName
import Derived.Laws.StructEq
namespace Go.Proofs.YtbflbgnafdbngaaDoor
open Go.RowKit

set_option maxRecDepth 100000 in
set_option maxHeartbeats 2000000 in
theorem eq_keyM (t : Int) (x : ByteArray) (w : World) : (Op.equalIn 9999 26 (.agg #[.int .i64 t, .string x]) (.agg #[.int .i64 t, .string x])).run Tryd.prog w = .ok true w := by
  have u3 := Tryd.underlying3
  have a3 := Tryd.isAgg3
  have z3 := Tryd.sizeOf3
  have u9 := Tryd.underlying9
  have a9 := Tryd.isAgg9
  have z9 := Tryd.sizeOf9
  have hS : Tryd.prog.underlying 26 = some (.struct (Tryd.prog.fieldsOf 26)) := by kernel_rfl
  have hp : Tryd.prog.stoodInHeld 26 = false := by kernel_rfl
  rw [show (9999 : Nat) = 9998 + 1 from rfl, run_equalIn_agg w 9998 26 _ _ hS hp]
  simp only [Program.fieldsOf, Tryd.underlying26]
  go_simp
  try simp
set_option maxRecDepth 100000 in
set_option maxHeartbeats 2000000 in
theorem eq_stat (t : Int) (x s : ByteArray) (q : Int) (g : Bool) (w : World) : (Op.equalIn 10000 30 (.agg #[.int .i64 t, .string x, .int .u64 q, .bool g, .string s]) (.agg #[.int .i64 t, .string x, .int .u64 q, .bool g, .string s])).run Tryd.prog w = .ok true w := by
  have u3 := Tryd.underlying4
  have a3 := Tryd.isAgg4
  have z3 := Tryd.sizeOf4
  have u22 := Tryd.underlying22
  have a22 := Tryd.isAgg22
  have z22 := Tryd.sizeOf22
  have u9 := Tryd.underlying9
  have a9 := Tryd.isAgg9
  have z9 := Tryd.sizeOf9
  have a40 := Tryd.isAgg26
  have z40 := Tryd.sizeOf26
  have hk := eq_keyM t x
  have hS : Tryd.prog.underlying 30 = some (.struct (Tryd.prog.fieldsOf 30)) := by kernel_rfl
  have hp : Tryd.prog.stoodInHeld 30 = false := by kernel_rfl
  rw [show (10000 : Nat) = 9999 + 1 from rfl, run_equalIn_agg w 9999 30 _ _ hS hp]
  simp only [Program.fieldsOf, Tryd.underlying30]
  go_simp
  try simp
theorem eql_stat (t : Int) (x s : ByteArray) (q : Int) (g : Bool) (w : World) : (binOp .eql 30 (.agg #[.int .i64 t, .string x, .int .u64 q, .bool g, .string s]) (.agg #[.int .i64 t, .string x, .int .u64 q, .bool g, .string s])).run Tryd.prog w = .ok (.bool true) w := by
  rw [run_eql_struct, eq_stat]
  rfl
theorem guard_stat (op : BinOp) (x y : Operand) (xs ys : Array Value) (w : World) : (eqGuard op 30 x y (.agg xs) (.agg ys)).run Tryd.prog w = .ok () w :=
  run_eqGuard_agg w op _ x y xs ys (by kernel_rfl)
end Go.Proofs.YtbflbgnafdbngaaDoor
