/- errors.Is over chains of wire's fault that end in the sentinel: contracts. -/
import Derived.Test.YtjolgalfjahceaaDoorChecked
import Derived.WalkKit
import Derived.WalkLawsBesides
import Derived.LaidEql
import Derived.Stop.Asserts
import Derived.Stop.IfaceNil
import Derived.RowKitTokens
import Derived.Outline
import Derived.Below
import Derived.Lib.Hide
namespace Go.Proofs.YtjolgalfjahceaaDoor
open Go.RowKit Go.Extern.Stop Go.Stop Go.Extern

theorem Tryd.callTypeOf (v : Value) (w : World) : (callFunc 65 #[.iface 141 v]).run Tryd.prog w = .ok (Next.value (.iface 126 (.agg #[.pointer (some ⟨1, 141, none⟩)]))) w := by kernel_rfl
theorem Tryd.callComparable (w : World) : (callFunc 105 #[.agg #[.pointer (some ⟨1, 141, none⟩)]]).run Tryd.prog w = .ok (Next.value (.bool true)) w := by kernel_rfl
theorem Tryd.ifaceErr : Tryd.prog.isIface 80 = true := by kernel_rfl
theorem Tryd.isComp : (Tryd.prog.info? 141).map (·.comparable) = some true := by kernel_rfl
theorem Tryd.isSize : (Tryd.prog.info? 165).map (·.size) = some 1 := by kernel_rfl
theorem Tryd.noIsW (v : Value) (xT : TypeId) (w : World) : (Instr.typeAssert (.iface 105 v) xT 128 true).run Tryd.prog w = .ok (.tuple #[.nilIface, .bool false]) w := run_typeAssert_lacksB Tryd.underlying128 (by kernel_rfl) (by kernel_rfl) v xT w
theorem Tryd.hasUnwrapW (v : Value) (xT : TypeId) (w : World) : (Instr.typeAssert (.iface 105 v) xT 131 true).run Tryd.prog w = .ok (.tuple #[.iface 105 v, .bool true]) w := run_typeAssert_hasB Tryd.underlying131 (by kernel_rfl) v xT w

theorem Tryd.methodUnwrap (n : Nat) (v : Value) (w : World) : (Go.method (n + 1) 105 v "Unwrap").run Tryd.prog w = .ok (101, v) w := by kernel_rfl
theorem Tryd.methodComp (n : Nat) (v : Value) (w : World) : (Go.method (n + 1) 126 v "Comparable").run Tryd.prog w = .ok (105, v) w := by kernel_rfl

/-- errors.Is(nil, the sentinel): false. -/
theorem is_nil (b : Addr) (w : World) :
    Calls Tryd.prog 42 #[.nilIface, .iface 141 (.pointer (some b))] w fun e w' => e = .returned (.bool false) ∧ w = w' := by
  have hn := run_eql_iface_nil_left (P := Tryd.prog) w 141 (.pointer (some b)) Tryd.underlying80
  go_enter Tryd.func42, Tryd.ntmps42
  go_wp2
  go_ret
  exact ⟨rfl, rfl⟩

abbrev Tryd.S (b : Addr) : Value := .iface 141 (.pointer (some b))

set_option maxRecDepth 100000 in
theorem is_in1 (k0 : Int) (b : Addr) (w : World) :
    Calls Tryd.prog 66 #[.iface 105 (.agg #[.int .i64 k0, .iface 141 (.pointer (some b))]), .iface 141 (.pointer (some b)), .bool true] w fun e w' => e = .returned (.bool true) ∧ Below w.heap.size w w' := by
  obtain ⟨i, hi, hcmp⟩ := Option.map_eq_some_iff.1 Tryd.isComp
  obtain ⟨j, hj, hjs⟩ := Option.map_eq_some_iff.1 Tryd.isSize
  have nW := Tryd.noIsW
  have uW := Tryd.hasUnwrapW
  have mU := Tryd.methodUnwrap
  have heq := fun w => run_eql_iface_ptr_same (P := Tryd.prog) w b Tryd.underlying80 Tryd.underlying141 hi hcmp hj
  have hty0 := fun w => run_eql_iface_types (P := Tryd.prog) 105 141 (.agg #[.int .i64 k0, .iface 141 (.pointer (some b))]) (.pointer (some b)) Tryd.underlying80 (by decide) w
  go_enter Tryd.func66, Tryd.ntmps66
  go_wp2
  refine wp_loop_rounds 2 ?_
  rw [rounds_succ]
  go_wp2
  rw [rounds_succ]
  go_wp2
  go_ret
  exact ⟨rfl, (Below.refl _ _).alloc (Nat.le_refl _) _⟩

set_option maxRecDepth 100000 in
theorem is_chain1 (k0 : Int) (b : Addr) (w : World) :
    Calls Tryd.prog 42 #[.iface 105 (.agg #[.int .i64 k0, .iface 141 (.pointer (some b))]), .iface 141 (.pointer (some b))] w fun e w' => e = .returned (.bool true) ∧ Below w.heap.size w w' := by
  have h8 := Tryd.callTypeOf
  have h32 := Tryd.callComparable
  have hif := Tryd.ifaceErr
  have mR := Tryd.methodComp
  go_enter Tryd.func42, Tryd.ntmps42
  go_wp2_with (go_at_call 66; refine (is_in1 k0 b _).mono ?_; rintro e w' ⟨rfl, hb⟩)
  go_ret
  exact ⟨rfl, hb⟩

set_option maxRecDepth 100000 in
theorem is_in2 (k0 k1 : Int) (b : Addr) (w : World) :
    Calls Tryd.prog 66 #[.iface 105 (.agg #[.int .i64 k0, .iface 105 (.agg #[.int .i64 k1, .iface 141 (.pointer (some b))])]), .iface 141 (.pointer (some b)), .bool true] w fun e w' => e = .returned (.bool true) ∧ Below w.heap.size w w' := by
  obtain ⟨i, hi, hcmp⟩ := Option.map_eq_some_iff.1 Tryd.isComp
  obtain ⟨j, hj, hjs⟩ := Option.map_eq_some_iff.1 Tryd.isSize
  have nW := Tryd.noIsW
  have uW := Tryd.hasUnwrapW
  have mU := Tryd.methodUnwrap
  have heq := fun w => run_eql_iface_ptr_same (P := Tryd.prog) w b Tryd.underlying80 Tryd.underlying141 hi hcmp hj
  have hty0 := fun w => run_eql_iface_types (P := Tryd.prog) 105 141 (.agg #[.int .i64 k0, .iface 105 (.agg #[.int .i64 k1, .iface 141 (.pointer (some b))])]) (.pointer (some b)) Tryd.underlying80 (by decide) w
  have hty1 := fun w => run_eql_iface_types (P := Tryd.prog) 105 141 (.agg #[.int .i64 k1, .iface 141 (.pointer (some b))]) (.pointer (some b)) Tryd.underlying80 (by decide) w
  go_enter Tryd.func66, Tryd.ntmps66
  go_wp2
  refine wp_loop_rounds 3 ?_
  rw [rounds_succ]
  go_wp2
  rw [rounds_succ]
  go_wp2
  rw [rounds_succ]
  go_wp2
  go_ret
  exact ⟨rfl, ((Below.refl _ _).alloc (Nat.le_refl _) _).alloc (by simp <;> omega) _⟩

set_option maxRecDepth 100000 in
theorem is_chain2 (k0 k1 : Int) (b : Addr) (w : World) :
    Calls Tryd.prog 42 #[.iface 105 (.agg #[.int .i64 k0, .iface 105 (.agg #[.int .i64 k1, .iface 141 (.pointer (some b))])]), .iface 141 (.pointer (some b))] w fun e w' => e = .returned (.bool true) ∧ Below w.heap.size w w' := by
  have h8 := Tryd.callTypeOf
  have h32 := Tryd.callComparable
  have hif := Tryd.ifaceErr
  have mR := Tryd.methodComp
  go_enter Tryd.func42, Tryd.ntmps42
  go_wp2_with (go_at_call 66; refine (is_in2 k0 k1 b _).mono ?_; rintro e w' ⟨rfl, hb⟩)
  go_ret
  exact ⟨rfl, hb⟩

set_option maxRecDepth 100000 in
theorem is_in3 (k0 k1 k2 : Int) (b : Addr) (w : World) :
    Calls Tryd.prog 66 #[.iface 105 (.agg #[.int .i64 k0, .iface 105 (.agg #[.int .i64 k1, .iface 105 (.agg #[.int .i64 k2, .iface 141 (.pointer (some b))])])]), .iface 141 (.pointer (some b)), .bool true] w fun e w' => e = .returned (.bool true) ∧ Below w.heap.size w w' := by
  obtain ⟨i, hi, hcmp⟩ := Option.map_eq_some_iff.1 Tryd.isComp
  obtain ⟨j, hj, hjs⟩ := Option.map_eq_some_iff.1 Tryd.isSize
  have nW := Tryd.noIsW
  have uW := Tryd.hasUnwrapW
  have mU := Tryd.methodUnwrap
  have heq := fun w => run_eql_iface_ptr_same (P := Tryd.prog) w b Tryd.underlying80 Tryd.underlying141 hi hcmp hj
  have hty0 := fun w => run_eql_iface_types (P := Tryd.prog) 105 141 (.agg #[.int .i64 k0, .iface 105 (.agg #[.int .i64 k1, .iface 105 (.agg #[.int .i64 k2, .iface 141 (.pointer (some b))])])]) (.pointer (some b)) Tryd.underlying80 (by decide) w
  have hty1 := fun w => run_eql_iface_types (P := Tryd.prog) 105 141 (.agg #[.int .i64 k1, .iface 105 (.agg #[.int .i64 k2, .iface 141 (.pointer (some b))])]) (.pointer (some b)) Tryd.underlying80 (by decide) w
  have hty2 := fun w => run_eql_iface_types (P := Tryd.prog) 105 141 (.agg #[.int .i64 k2, .iface 141 (.pointer (some b))]) (.pointer (some b)) Tryd.underlying80 (by decide) w
  go_enter Tryd.func66, Tryd.ntmps66
  go_wp2
  refine wp_loop_rounds 4 ?_
  rw [rounds_succ]
  go_wp2
  rw [rounds_succ]
  go_wp2
  rw [rounds_succ]
  go_wp2
  rw [rounds_succ]
  go_wp2
  go_ret
  exact ⟨rfl, (((Below.refl _ _).alloc (Nat.le_refl _) _).alloc (by simp <;> omega) _).alloc (by simp <;> omega) _⟩

set_option maxRecDepth 100000 in
theorem is_chain3 (k0 k1 k2 : Int) (b : Addr) (w : World) :
    Calls Tryd.prog 42 #[.iface 105 (.agg #[.int .i64 k0, .iface 105 (.agg #[.int .i64 k1, .iface 105 (.agg #[.int .i64 k2, .iface 141 (.pointer (some b))])])]), .iface 141 (.pointer (some b))] w fun e w' => e = .returned (.bool true) ∧ Below w.heap.size w w' := by
  have h8 := Tryd.callTypeOf
  have h32 := Tryd.callComparable
  have hif := Tryd.ifaceErr
  have mR := Tryd.methodComp
  go_enter Tryd.func42, Tryd.ntmps42
  go_wp2_with (go_at_call 66; refine (is_in3 k0 k1 k2 b _).mono ?_; rintro e w' ⟨rfl, hb⟩)
  go_ret
  exact ⟨rfl, hb⟩

/-- errors.Is(the sentinel, itself): true. -/
theorem is_self (b : Addr) (w : World) :
    Calls Tryd.prog 42 #[.iface 141 (.pointer (some b)), .iface 141 (.pointer (some b))] w fun e w' => e = .returned (.bool true) ∧ w = w' := by
  obtain ⟨i, hi, hcmp⟩ := Option.map_eq_some_iff.1 Tryd.isComp
  obtain ⟨j, hj, hjs⟩ := Option.map_eq_some_iff.1 Tryd.isSize
  have h8 := Tryd.callTypeOf
  have h32 := Tryd.callComparable
  have hif := Tryd.ifaceErr
  have mR := Tryd.methodComp
  have heq := run_eql_iface_ptr_same (P := Tryd.prog) w b Tryd.underlying80 Tryd.underlying141 hi hcmp hj
  go_enter Tryd.func42, Tryd.ntmps42
  go_wp2
  refine wp_loop_rounds 1 ?_
  rw [rounds_succ]
  go_wp2
  go_ret
  exact ⟨rfl, rfl⟩
end Go.Proofs.YtjolgalfjahceaaDoor
