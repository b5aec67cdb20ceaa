/- errors.Is over chains of wire's fault that end in the sentinel: contracts. -/
import Derived.Test.YtjolgalfjahceaaGreatDoorChecked
import Derived.WalkKit
import Derived.WalkLawsBesides
import Derived.LaidEql
import Derived.Stop.Asserts
import Derived.Stop.IfaceNil
import Derived.RowKitTokens
import Derived.Outline
import Derived.Below
import Derived.Lib.Hide
namespace Go.Proofs.YtjolgalfjahceaaGreatDoor
open Go.RowKit Go.Extern.Stop Go.Stop Go.Extern

theorem Tryz.callTypeOf (v : Value) (w : World) : (callFunc 72 #[.iface 141 v]).run Tryz.prog w = .ok (Next.value (.iface 127 (.agg #[.pointer (some ⟨1, 141, none⟩)]))) w := by kernel_rfl
theorem Tryz.callComparable (w : World) : (callFunc 111 #[.agg #[.pointer (some ⟨1, 141, none⟩)]]).run Tryz.prog w = .ok (Next.value (.bool true)) w := by kernel_rfl
theorem Tryz.ifaceErr : Tryz.prog.isIface 80 = true := by kernel_rfl
theorem Tryz.isComp : (Tryz.prog.info? 141).map (·.comparable) = some true := by kernel_rfl
theorem Tryz.isSize : (Tryz.prog.info? 165).map (·.size) = some 1 := by kernel_rfl
theorem Tryz.noIsW (v : Value) (xT : TypeId) (w : World) : (Instr.typeAssert (.iface 105 v) xT 129 true).run Tryz.prog w = .ok (.tuple #[.nilIface, .bool false]) w := run_typeAssert_lacksB Tryz.underlying129 (by kernel_rfl) (by kernel_rfl) v xT w
theorem Tryz.hasUnwrapW (v : Value) (xT : TypeId) (w : World) : (Instr.typeAssert (.iface 105 v) xT 132 true).run Tryz.prog w = .ok (.tuple #[.iface 105 v, .bool true]) w := run_typeAssert_hasB Tryz.underlying132 (by kernel_rfl) v xT w

theorem Tryz.methodUnwrap (n : Nat) (v : Value) (w : World) : (Go.method (n + 1) 105 v "Unwrap").run Tryz.prog w = .ok (107, v) w := by kernel_rfl
theorem Tryz.methodComp (n : Nat) (v : Value) (w : World) : (Go.method (n + 1) 127 v "Comparable").run Tryz.prog w = .ok (111, v) w := by kernel_rfl

/-- errors.Is(nil, the sentinel): false. -/
theorem is_nil (b : Addr) (w : World) :
    Calls Tryz.prog 50 #[.nilIface, .iface 141 (.pointer (some b))] w fun e w' => e = .returned (.bool false) ∧ w = w' := by
  have hn := run_eql_iface_nil_left (P := Tryz.prog) w 141 (.pointer (some b)) Tryz.underlying80
  go_enter Tryz.func50, Tryz.ntmps50
  go_wp2
  go_ret
  exact ⟨rfl, rfl⟩

abbrev Tryz.S (b : Addr) : Value := .iface 141 (.pointer (some b))

set_option maxRecDepth 100000 in
theorem is_in1 (k0 : Int) (b : Addr) (w : World) :
    Calls Tryz.prog 73 #[.iface 105 (.agg #[.int .i64 k0, .iface 141 (.pointer (some b))]), .iface 141 (.pointer (some b)), .bool true] w fun e w' => e = .returned (.bool true) ∧ Below w.heap.size w w' := by
  obtain ⟨i, hi, hcmp⟩ := Option.map_eq_some_iff.1 Tryz.isComp
  obtain ⟨j, hj, hjs⟩ := Option.map_eq_some_iff.1 Tryz.isSize
  have nW := Tryz.noIsW
  have uW := Tryz.hasUnwrapW
  have mU := Tryz.methodUnwrap
  have heq := fun w => run_eql_iface_ptr_same (P := Tryz.prog) w b Tryz.underlying80 Tryz.underlying141 hi hcmp hj
  have hty0 := fun w => run_eql_iface_types (P := Tryz.prog) 105 141 (.agg #[.int .i64 k0, .iface 141 (.pointer (some b))]) (.pointer (some b)) Tryz.underlying80 (by decide) w
  go_enter Tryz.func73, Tryz.ntmps73
  go_wp2
  refine wp_loop_rounds 2 ?_
  rw [rounds_succ]
  go_wp2
  rw [rounds_succ]
  go_wp2
  go_ret
  exact ⟨rfl, (Below.refl _ _).alloc (Nat.le_refl _) _⟩

set_option maxRecDepth 100000 in
theorem is_chain1 (k0 : Int) (b : Addr) (w : World) :
    Calls Tryz.prog 50 #[.iface 105 (.agg #[.int .i64 k0, .iface 141 (.pointer (some b))]), .iface 141 (.pointer (some b))] w fun e w' => e = .returned (.bool true) ∧ Below w.heap.size w w' := by
  have h8 := Tryz.callTypeOf
  have h32 := Tryz.callComparable
  have hif := Tryz.ifaceErr
  have mR := Tryz.methodComp
  go_enter Tryz.func50, Tryz.ntmps50
  go_wp2_with (go_at_call 73; refine (is_in1 k0 b _).mono ?_; rintro e w' ⟨rfl, hb⟩)
  go_ret
  exact ⟨rfl, hb⟩

set_option maxRecDepth 100000 in
theorem is_in2 (k0 k1 : Int) (b : Addr) (w : World) :
    Calls Tryz.prog 73 #[.iface 105 (.agg #[.int .i64 k0, .iface 105 (.agg #[.int .i64 k1, .iface 141 (.pointer (some b))])]), .iface 141 (.pointer (some b)), .bool true] w fun e w' => e = .returned (.bool true) ∧ Below w.heap.size w w' := by
  obtain ⟨i, hi, hcmp⟩ := Option.map_eq_some_iff.1 Tryz.isComp
  obtain ⟨j, hj, hjs⟩ := Option.map_eq_some_iff.1 Tryz.isSize
  have nW := Tryz.noIsW
  have uW := Tryz.hasUnwrapW
  have mU := Tryz.methodUnwrap
  have heq := fun w => run_eql_iface_ptr_same (P := Tryz.prog) w b Tryz.underlying80 Tryz.underlying141 hi hcmp hj
  have hty0 := fun w => run_eql_iface_types (P := Tryz.prog) 105 141 (.agg #[.int .i64 k0, .iface 105 (.agg #[.int .i64 k1, .iface 141 (.pointer (some b))])]) (.pointer (some b)) Tryz.underlying80 (by decide) w
  have hty1 := fun w => run_eql_iface_types (P := Tryz.prog) 105 141 (.agg #[.int .i64 k1, .iface 141 (.pointer (some b))]) (.pointer (some b)) Tryz.underlying80 (by decide) w
  go_enter Tryz.func73, Tryz.ntmps73
  go_wp2
  refine wp_loop_rounds 3 ?_
  rw [rounds_succ]
  go_wp2
  rw [rounds_succ]
  go_wp2
  rw [rounds_succ]
  go_wp2
  go_ret
  exact ⟨rfl, ((Below.refl _ _).alloc (Nat.le_refl _) _).alloc (by simp <;> omega) _⟩

set_option maxRecDepth 100000 in
theorem is_chain2 (k0 k1 : Int) (b : Addr) (w : World) :
    Calls Tryz.prog 50 #[.iface 105 (.agg #[.int .i64 k0, .iface 105 (.agg #[.int .i64 k1, .iface 141 (.pointer (some b))])]), .iface 141 (.pointer (some b))] w fun e w' => e = .returned (.bool true) ∧ Below w.heap.size w w' := by
  have h8 := Tryz.callTypeOf
  have h32 := Tryz.callComparable
  have hif := Tryz.ifaceErr
  have mR := Tryz.methodComp
  go_enter Tryz.func50, Tryz.ntmps50
  go_wp2_with (go_at_call 73; refine (is_in2 k0 k1 b _).mono ?_; rintro e w' ⟨rfl, hb⟩)
  go_ret
  exact ⟨rfl, hb⟩

set_option maxRecDepth 100000 in
theorem is_in3 (k0 k1 k2 : Int) (b : Addr) (w : World) :
    Calls Tryz.prog 73 #[.iface 105 (.agg #[.int .i64 k0, .iface 105 (.agg #[.int .i64 k1, .iface 105 (.agg #[.int .i64 k2, .iface 141 (.pointer (some b))])])]), .iface 141 (.pointer (some b)), .bool true] w fun e w' => e = .returned (.bool true) ∧ Below w.heap.size w w' := by
  obtain ⟨i, hi, hcmp⟩ := Option.map_eq_some_iff.1 Tryz.isComp
  obtain ⟨j, hj, hjs⟩ := Option.map_eq_some_iff.1 Tryz.isSize
  have nW := Tryz.noIsW
  have uW := Tryz.hasUnwrapW
  have mU := Tryz.methodUnwrap
  have heq := fun w => run_eql_iface_ptr_same (P := Tryz.prog) w b Tryz.underlying80 Tryz.underlying141 hi hcmp hj
  have hty0 := fun w => run_eql_iface_types (P := Tryz.prog) 105 141 (.agg #[.int .i64 k0, .iface 105 (.agg #[.int .i64 k1, .iface 105 (.agg #[.int .i64 k2, .iface 141 (.pointer (some b))])])]) (.pointer (some b)) Tryz.underlying80 (by decide) w
  have hty1 := fun w => run_eql_iface_types (P := Tryz.prog) 105 141 (.agg #[.int .i64 k1, .iface 105 (.agg #[.int .i64 k2, .iface 141 (.pointer (some b))])]) (.pointer (some b)) Tryz.underlying80 (by decide) w
  have hty2 := fun w => run_eql_iface_types (P := Tryz.prog) 105 141 (.agg #[.int .i64 k2, .iface 141 (.pointer (some b))]) (.pointer (some b)) Tryz.underlying80 (by decide) w
  go_enter Tryz.func73, Tryz.ntmps73
  go_wp2
  refine wp_loop_rounds 4 ?_
  rw [rounds_succ]
  go_wp2
  rw [rounds_succ]
  go_wp2
  rw [rounds_succ]
  go_wp2
  rw [rounds_succ]
  go_wp2
  go_ret
  exact ⟨rfl, (((Below.refl _ _).alloc (Nat.le_refl _) _).alloc (by simp <;> omega) _).alloc (by simp <;> omega) _⟩

set_option maxRecDepth 100000 in
theorem is_chain3 (k0 k1 k2 : Int) (b : Addr) (w : World) :
    Calls Tryz.prog 50 #[.iface 105 (.agg #[.int .i64 k0, .iface 105 (.agg #[.int .i64 k1, .iface 105 (.agg #[.int .i64 k2, .iface 141 (.pointer (some b))])])]), .iface 141 (.pointer (some b))] w fun e w' => e = .returned (.bool true) ∧ Below w.heap.size w w' := by
  have h8 := Tryz.callTypeOf
  have h32 := Tryz.callComparable
  have hif := Tryz.ifaceErr
  have mR := Tryz.methodComp
  go_enter Tryz.func50, Tryz.ntmps50
  go_wp2_with (go_at_call 73; refine (is_in3 k0 k1 k2 b _).mono ?_; rintro e w' ⟨rfl, hb⟩)
  go_ret
  exact ⟨rfl, hb⟩

/-- errors.Is(the sentinel, itself): true. -/
theorem is_self (b : Addr) (w : World) :
    Calls Tryz.prog 50 #[.iface 141 (.pointer (some b)), .iface 141 (.pointer (some b))] w fun e w' => e = .returned (.bool true) ∧ w = w' := by
  obtain ⟨i, hi, hcmp⟩ := Option.map_eq_some_iff.1 Tryz.isComp
  obtain ⟨j, hj, hjs⟩ := Option.map_eq_some_iff.1 Tryz.isSize
  have h8 := Tryz.callTypeOf
  have h32 := Tryz.callComparable
  have hif := Tryz.ifaceErr
  have mR := Tryz.methodComp
  have heq := run_eql_iface_ptr_same (P := Tryz.prog) w b Tryz.underlying80 Tryz.underlying141 hi hcmp hj
  go_enter Tryz.func50, Tryz.ntmps50
  go_wp2
  refine wp_loop_rounds 1 ?_
  rw [rounds_succ]
  go_wp2
  go_ret
  exact ⟨rfl, rfl⟩
end Go.Proofs.YtjolgalfjahceaaGreatDoor
