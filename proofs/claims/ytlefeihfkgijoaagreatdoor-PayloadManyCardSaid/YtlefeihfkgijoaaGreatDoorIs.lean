/- errors.Is over chains of wire's fault that end in the sentinel: contracts. -/
import Derived.Test.YtlefeihfkgijoaaGreatDoorChecked
import Derived.WalkKit
import Derived.WalkLawsBesides
import Derived.LaidEql
import Derived.Stop.Asserts
import Derived.Stop.IfaceNil
import Derived.RowKitTokens
import Derived.Outline
import Derived.Below
import Derived.Lib.Hide
namespace Go.Proofs.YtlefeihfkgijoaaGreatDoor
open Go.RowKit Go.Extern.Stop Go.Stop Go.Extern

theorem Tryz.callTypeOf (v : Value) (w : World) : (callFunc 75 #[.iface 199 v]).run Tryz.prog w = .ok (Next.value (.iface 181 (.agg #[.pointer (some ⟨2, 199, none⟩)]))) w := by kernel_rfl
theorem Tryz.callComparable (w : World) : (callFunc 147 #[.agg #[.pointer (some ⟨2, 199, none⟩)]]).run Tryz.prog w = .ok (Next.value (.bool true)) w := by kernel_rfl
theorem Tryz.ifaceErr : Tryz.prog.isIface 103 = true := by kernel_rfl
theorem Tryz.isComp : (Tryz.prog.info? 199).map (·.comparable) = some true := by kernel_rfl
theorem Tryz.isSize : (Tryz.prog.info? 223).map (·.size) = some 1 := by kernel_rfl
theorem Tryz.noIsW (v : Value) (xT : TypeId) (w : World) : (Instr.typeAssert (.iface 179 v) xT 183 true).run Tryz.prog w = .ok (.tuple #[.nilIface, .bool false]) w := run_typeAssert_lacksB Tryz.underlying183 (by kernel_rfl) (by kernel_rfl) v xT w
theorem Tryz.hasUnwrapW (v : Value) (xT : TypeId) (w : World) : (Instr.typeAssert (.iface 179 v) xT 186 true).run Tryz.prog w = .ok (.tuple #[.iface 179 v, .bool true]) w := run_typeAssert_hasB Tryz.underlying186 (by kernel_rfl) v xT w

theorem Tryz.methodUnwrap (n : Nat) (v : Value) (w : World) : (Go.method (n + 1) 179 v "Unwrap").run Tryz.prog w = .ok (143, v) w := by kernel_rfl
theorem Tryz.methodComp (n : Nat) (v : Value) (w : World) : (Go.method (n + 1) 181 v "Comparable").run Tryz.prog w = .ok (147, v) w := by kernel_rfl

/-- errors.Is(nil, the sentinel): false. -/
theorem is_nil (b : Addr) (w : World) :
    Calls Tryz.prog 54 #[.nilIface, .iface 199 (.pointer (some b))] w fun e w' => e = .returned (.bool false) ∧ w = w' := by
  have hn := run_eql_iface_nil_left (P := Tryz.prog) w 199 (.pointer (some b)) Tryz.underlying103
  go_enter Tryz.func54, Tryz.ntmps54
  go_wp2
  go_ret
  exact ⟨rfl, rfl⟩

abbrev Tryz.S (b : Addr) : Value := .iface 199 (.pointer (some b))

set_option maxRecDepth 100000 in
theorem is_in1 (k0 : Int) (b : Addr) (w : World) :
    Calls Tryz.prog 76 #[.iface 179 (.agg #[.int .i64 k0, .iface 199 (.pointer (some b))]), .iface 199 (.pointer (some b)), .bool true] w fun e w' => e = .returned (.bool true) ∧ Below w.heap.size w w' := by
  obtain ⟨i, hi, hcmp⟩ := Option.map_eq_some_iff.1 Tryz.isComp
  obtain ⟨j, hj, hjs⟩ := Option.map_eq_some_iff.1 Tryz.isSize
  have nW := Tryz.noIsW
  have uW := Tryz.hasUnwrapW
  have mU := Tryz.methodUnwrap
  have heq := fun w => run_eql_iface_ptr_same (P := Tryz.prog) w b Tryz.underlying103 Tryz.underlying199 hi hcmp hj
  have hty0 := fun w => run_eql_iface_types (P := Tryz.prog) 179 199 (.agg #[.int .i64 k0, .iface 199 (.pointer (some b))]) (.pointer (some b)) Tryz.underlying103 (by decide) w
  go_enter Tryz.func76, Tryz.ntmps76
  go_wp2
  refine wp_loop_rounds 2 ?_
  rw [rounds_succ]
  go_wp2
  rw [rounds_succ]
  go_wp2
  go_ret
  exact ⟨rfl, (Below.refl _ _).alloc (Nat.le_refl _) _⟩

set_option maxRecDepth 100000 in
theorem is_chain1 (k0 : Int) (b : Addr) (w : World) :
    Calls Tryz.prog 54 #[.iface 179 (.agg #[.int .i64 k0, .iface 199 (.pointer (some b))]), .iface 199 (.pointer (some b))] w fun e w' => e = .returned (.bool true) ∧ Below w.heap.size w w' := by
  have h8 := Tryz.callTypeOf
  have h32 := Tryz.callComparable
  have hif := Tryz.ifaceErr
  have mR := Tryz.methodComp
  go_enter Tryz.func54, Tryz.ntmps54
  go_wp2_with (go_at_call 76; refine (is_in1 k0 b _).mono ?_; rintro e w' ⟨rfl, hb⟩)
  go_ret
  exact ⟨rfl, hb⟩

set_option maxRecDepth 100000 in
theorem is_in2 (k0 k1 : Int) (b : Addr) (w : World) :
    Calls Tryz.prog 76 #[.iface 179 (.agg #[.int .i64 k0, .iface 179 (.agg #[.int .i64 k1, .iface 199 (.pointer (some b))])]), .iface 199 (.pointer (some b)), .bool true] w fun e w' => e = .returned (.bool true) ∧ Below w.heap.size w w' := by
  obtain ⟨i, hi, hcmp⟩ := Option.map_eq_some_iff.1 Tryz.isComp
  obtain ⟨j, hj, hjs⟩ := Option.map_eq_some_iff.1 Tryz.isSize
  have nW := Tryz.noIsW
  have uW := Tryz.hasUnwrapW
  have mU := Tryz.methodUnwrap
  have heq := fun w => run_eql_iface_ptr_same (P := Tryz.prog) w b Tryz.underlying103 Tryz.underlying199 hi hcmp hj
  have hty0 := fun w => run_eql_iface_types (P := Tryz.prog) 179 199 (.agg #[.int .i64 k0, .iface 179 (.agg #[.int .i64 k1, .iface 199 (.pointer (some b))])]) (.pointer (some b)) Tryz.underlying103 (by decide) w
  have hty1 := fun w => run_eql_iface_types (P := Tryz.prog) 179 199 (.agg #[.int .i64 k1, .iface 199 (.pointer (some b))]) (.pointer (some b)) Tryz.underlying103 (by decide) w
  go_enter Tryz.func76, Tryz.ntmps76
  go_wp2
  refine wp_loop_rounds 3 ?_
  rw [rounds_succ]
  go_wp2
  rw [rounds_succ]
  go_wp2
  rw [rounds_succ]
  go_wp2
  go_ret
  exact ⟨rfl, ((Below.refl _ _).alloc (Nat.le_refl _) _).alloc (by simp <;> omega) _⟩

set_option maxRecDepth 100000 in
theorem is_chain2 (k0 k1 : Int) (b : Addr) (w : World) :
    Calls Tryz.prog 54 #[.iface 179 (.agg #[.int .i64 k0, .iface 179 (.agg #[.int .i64 k1, .iface 199 (.pointer (some b))])]), .iface 199 (.pointer (some b))] w fun e w' => e = .returned (.bool true) ∧ Below w.heap.size w w' := by
  have h8 := Tryz.callTypeOf
  have h32 := Tryz.callComparable
  have hif := Tryz.ifaceErr
  have mR := Tryz.methodComp
  go_enter Tryz.func54, Tryz.ntmps54
  go_wp2_with (go_at_call 76; refine (is_in2 k0 k1 b _).mono ?_; rintro e w' ⟨rfl, hb⟩)
  go_ret
  exact ⟨rfl, hb⟩

set_option maxRecDepth 100000 in
theorem is_in3 (k0 k1 k2 : Int) (b : Addr) (w : World) :
    Calls Tryz.prog 76 #[.iface 179 (.agg #[.int .i64 k0, .iface 179 (.agg #[.int .i64 k1, .iface 179 (.agg #[.int .i64 k2, .iface 199 (.pointer (some b))])])]), .iface 199 (.pointer (some b)), .bool true] w fun e w' => e = .returned (.bool true) ∧ Below w.heap.size w w' := by
  obtain ⟨i, hi, hcmp⟩ := Option.map_eq_some_iff.1 Tryz.isComp
  obtain ⟨j, hj, hjs⟩ := Option.map_eq_some_iff.1 Tryz.isSize
  have nW := Tryz.noIsW
  have uW := Tryz.hasUnwrapW
  have mU := Tryz.methodUnwrap
  have heq := fun w => run_eql_iface_ptr_same (P := Tryz.prog) w b Tryz.underlying103 Tryz.underlying199 hi hcmp hj
  have hty0 := fun w => run_eql_iface_types (P := Tryz.prog) 179 199 (.agg #[.int .i64 k0, .iface 179 (.agg #[.int .i64 k1, .iface 179 (.agg #[.int .i64 k2, .iface 199 (.pointer (some b))])])]) (.pointer (some b)) Tryz.underlying103 (by decide) w
  have hty1 := fun w => run_eql_iface_types (P := Tryz.prog) 179 199 (.agg #[.int .i64 k1, .iface 179 (.agg #[.int .i64 k2, .iface 199 (.pointer (some b))])]) (.pointer (some b)) Tryz.underlying103 (by decide) w
  have hty2 := fun w => run_eql_iface_types (P := Tryz.prog) 179 199 (.agg #[.int .i64 k2, .iface 199 (.pointer (some b))]) (.pointer (some b)) Tryz.underlying103 (by decide) w
  go_enter Tryz.func76, Tryz.ntmps76
  go_wp2
  refine wp_loop_rounds 4 ?_
  rw [rounds_succ]
  go_wp2
  rw [rounds_succ]
  go_wp2
  rw [rounds_succ]
  go_wp2
  rw [rounds_succ]
  go_wp2
  go_ret
  exact ⟨rfl, (((Below.refl _ _).alloc (Nat.le_refl _) _).alloc (by simp <;> omega) _).alloc (by simp <;> omega) _⟩

set_option maxRecDepth 100000 in
theorem is_chain3 (k0 k1 k2 : Int) (b : Addr) (w : World) :
    Calls Tryz.prog 54 #[.iface 179 (.agg #[.int .i64 k0, .iface 179 (.agg #[.int .i64 k1, .iface 179 (.agg #[.int .i64 k2, .iface 199 (.pointer (some b))])])]), .iface 199 (.pointer (some b))] w fun e w' => e = .returned (.bool true) ∧ Below w.heap.size w w' := by
  have h8 := Tryz.callTypeOf
  have h32 := Tryz.callComparable
  have hif := Tryz.ifaceErr
  have mR := Tryz.methodComp
  go_enter Tryz.func54, Tryz.ntmps54
  go_wp2_with (go_at_call 76; refine (is_in3 k0 k1 k2 b _).mono ?_; rintro e w' ⟨rfl, hb⟩)
  go_ret
  exact ⟨rfl, hb⟩

/-- errors.Is(the sentinel, itself): true. -/
theorem is_self (b : Addr) (w : World) :
    Calls Tryz.prog 54 #[.iface 199 (.pointer (some b)), .iface 199 (.pointer (some b))] w fun e w' => e = .returned (.bool true) ∧ w = w' := by
  obtain ⟨i, hi, hcmp⟩ := Option.map_eq_some_iff.1 Tryz.isComp
  obtain ⟨j, hj, hjs⟩ := Option.map_eq_some_iff.1 Tryz.isSize
  have h8 := Tryz.callTypeOf
  have h32 := Tryz.callComparable
  have hif := Tryz.ifaceErr
  have mR := Tryz.methodComp
  have heq := run_eql_iface_ptr_same (P := Tryz.prog) w b Tryz.underlying103 Tryz.underlying199 hi hcmp hj
  go_enter Tryz.func54, Tryz.ntmps54
  go_wp2
  refine wp_loop_rounds 1 ?_
  rw [rounds_succ]
  go_wp2
  go_ret
  exact ⟨rfl, rfl⟩
end Go.Proofs.YtlefeihfkgijoaaGreatDoor
