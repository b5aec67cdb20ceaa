/- ledger: whether two marks are the same; what is the oldest. -/
import Derived.Test.YtdaelapamkmcaaaDoorLdTest
import Derived.Laws.StructEq
namespace Go.Proofs.YtdaelapamkmcaaaDoor
open Go.RowKit

set_option maxRecDepth 100000 in
set_option maxHeartbeats 2000000 in
theorem eq_keyM (a b : Int) (x y : ByteArray) (w : World) : (Op.equalIn 9999 31 (.agg #[.int .i64 a, .string x]) (.agg #[.int .i64 b, .string y])).run Tryd.prog w = .ok (a == b && x.toList == y.toList) w := by
  have u3 := Tryd.underlying3
  have a3 := Tryd.isAgg3
  have z3 := Tryd.sizeOf3
  have u9 := Tryd.underlying9
  have a9 := Tryd.isAgg9
  have z9 := Tryd.sizeOf9
  have hS : Tryd.prog.underlying 31 = some (.struct (Tryd.prog.fieldsOf 31)) := by kernel_rfl
  have hp : Tryd.prog.stoodInHeld 31 = false := by kernel_rfl
  rw [show (9999 : Nat) = 9998 + 1 from rfl, run_equalIn_agg w 9998 31 _ _ hS hp]
  simp only [Program.fieldsOf, Tryd.underlying31]
  go_simp
  by_cases h1 : a = b <;> by_cases h2 : x.toList = y.toList <;> simp [h1, h2]
set_option maxRecDepth 100000 in
set_option maxHeartbeats 4000000 in
theorem eq_mk (t u : Int) (x y d e : ByteArray) (q r : Int) (s v : Int) (w : World) : (Op.equalIn 10000 49 (.agg #[.int .i64 t, .string x, .int .u64 q, .int .i64 s, .string d]) (.agg #[.int .i64 u, .string y, .int .u64 r, .int .i64 v, .string e])).run Tryd.prog w = .ok (((((t == u && x.toList == y.toList) && q == r) && s == v) && d.toList == e.toList)) w := by
  have u3 := Tryd.underlying3
  have a3 := Tryd.isAgg3
  have z3 := Tryd.sizeOf3
  have u22 := Tryd.underlying32
  have a22 := Tryd.isAgg32
  have z22 := Tryd.sizeOf32
  have u9 := Tryd.underlying9
  have a9 := Tryd.isAgg9
  have z9 := Tryd.sizeOf9
  have a40 := Tryd.isAgg31
  have z40 := Tryd.sizeOf31
  have hk := eq_keyM t u x y
  generalize (t == u && x.toList == y.toList) = K at hk ⊢
  have hS : Tryd.prog.underlying 49 = some (.struct (Tryd.prog.fieldsOf 49)) := by kernel_rfl
  have hp : Tryd.prog.stoodInHeld 49 = false := by kernel_rfl
  rw [show (10000 : Nat) = 9999 + 1 from rfl, run_equalIn_agg w 9999 49 _ _ hS hp]
  simp only [Program.fieldsOf, Tryd.underlying49]
  cases K <;> by_cases h1 : q = r <;> by_cases h2 : s = v <;> by_cases h3 : d.toList = e.toList
  all_goals
    go_simp
    try simp [h1, h2, h3]
theorem eql_mk (a b : Mk) (w : World) : (binOp .eql 49 a.v b.v).run Tryd.prog w = .ok (.bool (eqM a b)) w := by
  rw [run_eql_struct, eq_mk]
  unfold eqM
  have : ((a.q : Int) == (b.q : Int)) = (a.q == b.q) := by
    by_cases e : a.q = b.q
    · simp [e]
    · have h1 : ((a.q : Int) == (b.q : Int)) = false := beq_eq_false_iff_ne.2 (by omega)
      have h2 : (a.q == b.q) = false := beq_eq_false_iff_ne.2 e
      rw [h1, h2]
  rw [this]
  rfl
theorem guard_mk (op : BinOp) (x y : Operand) (xs ys : Array Value) (w : World) : (eqGuard op 49 x y (.agg xs) (.agg ys)).run Tryd.prog w = .ok () w :=
  run_eqGuard_agg w op _ x y xs ys (by kernel_rfl)
/-- The oldest mark's box. -/
abbrev MkBx (b : Nat) (o : Mk) (w : World) : Prop := Blk w b #[.int .i64 o.t, .string o.x, .int .u64 (o.q : Int), .int .i64 o.s, .string o.d] 49
set_option maxRecDepth 100000 in
set_option maxHeartbeats 1000000 in
theorem oldest_any (b : Nat) (o m : Mk) (w : World) (h : MkBx b o w) :
    Calls Tryd.prog 51 #[m.v, .pointer (some ⟨b, 0, none⟩)] w fun e w' => e = .returned (.bool (eqM m o)) ∧ Below w.heap.size w w' := by
  have e1 := fun w => eql_mk m o w
  generalize eqM m o = K at e1 ⊢
  obtain ⟨u, y, r, s, d⟩ := m
  obtain ⟨u2, y2, r2, s2, d2⟩ := o
  have hb := (Below.refl w.heap.size w).alloc (Nat.le_refl _) (.cells #[.int .i64 u, .string y, .int .u64 (r : Int), .int .i64 s, .string d] 49)
  have h1 := h.later hb
  have e2 : ∀ w, (binOp .eql 49 (.agg #[.int .i64 u, .string y, .int .u64 (r : Int), .int .i64 s, .string d]) (.agg #[.int .i64 u2, .string y2, .int .u64 (r2 : Int), .int .i64 s2, .string d2])).run Tryd.prog w = .ok (.bool K) w := e1
  have c0 : (w.alloc (.cells #[.int .i64 u, .string y, .int .u64 (r : Int), .int .i64 s, .string d] 49)).cell? ⟨b, 0, none⟩ = some (.int .i64 u2) := h1.cell 0
  have c1 : (w.alloc (.cells #[.int .i64 u, .string y, .int .u64 (r : Int), .int .i64 s, .string d] 49)).cell? ⟨b, 1, none⟩ = some (.string y2) := h1.cell 1
  have c2 : (w.alloc (.cells #[.int .i64 u, .string y, .int .u64 (r : Int), .int .i64 s, .string d] 49)).cell? ⟨b, 2, none⟩ = some (.int .u64 (r2 : Int)) := h1.cell 2
  have c3 : (w.alloc (.cells #[.int .i64 u, .string y, .int .u64 (r : Int), .int .i64 s, .string d] 49)).cell? ⟨b, 3, none⟩ = some (.int .i64 s2) := h1.cell 3
  have c4 : (w.alloc (.cells #[.int .i64 u, .string y, .int .u64 (r : Int), .int .i64 s, .string d] 49)).cell? ⟨b, 4, none⟩ = some (.string d2) := h1.cell 4
  have g1 := fun op a b xs ys w => guard_mk op a b xs ys w
  have HB := Lib.hid hb
  clear hb h h1 e1
  go_enter Tryd.func51, Tryd.ntmps51
  go_wp2_with fail
  go_ret
  exact ⟨rfl, HB.out⟩
end Go.Proofs.YtdaelapamkmcaaaDoor
