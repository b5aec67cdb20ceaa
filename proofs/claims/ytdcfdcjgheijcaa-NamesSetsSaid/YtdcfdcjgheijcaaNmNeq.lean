/- names: a resource is not unlike itself. -/
import Derived.Test.YtdcfdcjgheijcaaNmRz
import Derived.Laws.StructEq
namespace Go.Proofs.Ytdcfdcjgheijcaa
open Go.RowKit

set_option maxRecDepth 100000 in
set_option maxHeartbeats 2000000 in
theorem eq_key (t : Int) (x : ByteArray) (w : World) : (Op.equalIn 9999 40 (.agg #[.int .i64 t, .string x]) (.agg #[.int .i64 t, .string x])).run Try.prog w = .ok true w := by
  have u3 := Try.underlying3
  have a3 := Try.isAgg3
  have z3 := Try.sizeOf3
  have u9 := Try.underlying9
  have a9 := Try.isAgg9
  have z9 := Try.sizeOf9
  have hS : Try.prog.underlying 40 = some (.struct (Try.prog.fieldsOf 40)) := by kernel_rfl
  have hp : Try.prog.stoodInHeld 40 = false := by kernel_rfl
  rw [show (9999 : Nat) = 9998 + 1 from rfl, run_equalIn_agg w 9998 40 _ _ hS hp]
  simp only [Program.fieldsOf, Try.underlying40]
  go_simp
  try simp
set_option maxRecDepth 100000 in
set_option maxHeartbeats 2000000 in
theorem eq_rz (t : Int) (x s : ByteArray) (q : Int) (g : Bool) (w : World) : (Op.equalIn 10000 43 (.agg #[.int .i64 t, .string x, .int .u64 q, .bool g, .string s]) (.agg #[.int .i64 t, .string x, .int .u64 q, .bool g, .string s])).run Try.prog w = .ok true w := by
  have u3 := Try.underlying4
  have a3 := Try.isAgg4
  have z3 := Try.sizeOf4
  have u22 := Try.underlying41
  have a22 := Try.isAgg41
  have z22 := Try.sizeOf41
  have u9 := Try.underlying9
  have a9 := Try.isAgg9
  have z9 := Try.sizeOf9
  have a40 := Try.isAgg40
  have z40 := Try.sizeOf40
  have hk := eq_key t x
  have hS : Try.prog.underlying 43 = some (.struct (Try.prog.fieldsOf 43)) := by kernel_rfl
  have hp : Try.prog.stoodInHeld 43 = false := by kernel_rfl
  rw [show (10000 : Nat) = 9999 + 1 from rfl, run_equalIn_agg w 9999 43 _ _ hS hp]
  simp only [Program.fieldsOf, Try.underlying43]
  go_simp
  try simp
theorem neq_rz (t : Int) (x s : ByteArray) (q : Int) (g : Bool) (w : World) : (binOp .neq 43 (.agg #[.int .i64 t, .string x, .int .u64 q, .bool g, .string s]) (.agg #[.int .i64 t, .string x, .int .u64 q, .bool g, .string s])).run Try.prog w = .ok (.bool false) w := by
  rw [run_neq_struct, eq_rz]
  rfl
theorem guard_rz (op : BinOp) (x y : Operand) (xs ys : Array Value) (w : World) : (eqGuard op 43 x y (.agg xs) (.agg ys)).run Try.prog w = .ok () w :=
  run_eqGuard_agg w op _ x y xs ys (by kernel_rfl)
end Go.Proofs.Ytdcfdcjgheijcaa
