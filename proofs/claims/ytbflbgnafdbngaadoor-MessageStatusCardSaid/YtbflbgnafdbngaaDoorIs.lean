/- errors.Is over chains of wire's fault that end in the sentinel: contracts. -/
import Derived.Test.YtbflbgnafdbngaaDoorChecked
import Derived.WalkKit
import Derived.WalkLawsBesides
import Derived.LaidEql
import Derived.Stop.Asserts
import Derived.Stop.IfaceNil
import Derived.RowKitTokens
import Derived.Outline
import Derived.Below
import Derived.Lib.Hide
namespace Go.Proofs.YtbflbgnafdbngaaDoor
open Go.RowKit Go.Extern.Stop Go.Stop Go.Extern

theorem Tryd.callTypeOf (v : Value) (w : World) : (callFunc 25 #[.iface 149 v]).run Tryd.prog w = .ok (Next.value (.iface 106 (.agg #[.pointer (some ⟨2, 149, none⟩)]))) w := by kernel_rfl
theorem Tryd.callComparable (w : World) : (callFunc 96 #[.agg #[.pointer (some ⟨2, 149, none⟩)]]).run Tryd.prog w = .ok (Next.value (.bool true)) w := by kernel_rfl
theorem Tryd.ifaceErr : Tryd.prog.isIface 50 = true := by kernel_rfl
theorem Tryd.isComp : (Tryd.prog.info? 149).map (·.comparable) = some true := by kernel_rfl
theorem Tryd.isSize : (Tryd.prog.info? 173).map (·.size) = some 1 := by kernel_rfl
theorem Tryd.noIsW (v : Value) (xT : TypeId) (w : World) : (Instr.typeAssert (.iface 145 v) xT 108 true).run Tryd.prog w = .ok (.tuple #[.nilIface, .bool false]) w := run_typeAssert_lacksB Tryd.underlying108 (by kernel_rfl) (by kernel_rfl) v xT w
theorem Tryd.hasUnwrapW (v : Value) (xT : TypeId) (w : World) : (Instr.typeAssert (.iface 145 v) xT 111 true).run Tryd.prog w = .ok (.tuple #[.iface 145 v, .bool true]) w := run_typeAssert_hasB Tryd.underlying111 (by kernel_rfl) v xT w

theorem Tryd.methodUnwrap (n : Nat) (v : Value) (w : World) : (Go.method (n + 1) 145 v "Unwrap").run Tryd.prog w = .ok (108, v) w := by kernel_rfl
theorem Tryd.methodComp (n : Nat) (v : Value) (w : World) : (Go.method (n + 1) 106 v "Comparable").run Tryd.prog w = .ok (96, v) w := by kernel_rfl

/-- errors.Is(nil, the sentinel): false. -/
theorem is_nil (b : Addr) (w : World) :
    Calls Tryd.prog 15 #[.nilIface, .iface 149 (.pointer (some b))] w fun e w' => e = .returned (.bool false) ∧ w = w' := by
  have hn := run_eql_iface_nil_left (P := Tryd.prog) w 149 (.pointer (some b)) Tryd.underlying50
  go_enter Tryd.func15, Tryd.ntmps15
  go_wp2
  go_ret
  exact ⟨rfl, rfl⟩

abbrev Tryd.S (b : Addr) : Value := .iface 149 (.pointer (some b))

set_option maxRecDepth 100000 in
theorem is_in1 (k0 : Int) (b : Addr) (w : World) :
    Calls Tryd.prog 26 #[.iface 145 (.agg #[.int .i64 k0, .iface 149 (.pointer (some b))]), .iface 149 (.pointer (some b)), .bool true] w fun e w' => e = .returned (.bool true) ∧ Below w.heap.size w w' := by
  obtain ⟨i, hi, hcmp⟩ := Option.map_eq_some_iff.1 Tryd.isComp
  obtain ⟨j, hj, hjs⟩ := Option.map_eq_some_iff.1 Tryd.isSize
  have nW := Tryd.noIsW
  have uW := Tryd.hasUnwrapW
  have mU := Tryd.methodUnwrap
  have heq := fun w => run_eql_iface_ptr_same (P := Tryd.prog) w b Tryd.underlying50 Tryd.underlying149 hi hcmp hj
  have hty0 := fun w => run_eql_iface_types (P := Tryd.prog) 145 149 (.agg #[.int .i64 k0, .iface 149 (.pointer (some b))]) (.pointer (some b)) Tryd.underlying50 (by decide) w
  go_enter Tryd.func26, Tryd.ntmps26
  go_wp2
  refine wp_loop_rounds 2 ?_
  rw [rounds_succ]
  go_wp2
  rw [rounds_succ]
  go_wp2
  go_ret
  exact ⟨rfl, (Below.refl _ _).alloc (Nat.le_refl _) _⟩

set_option maxRecDepth 100000 in
theorem is_chain1 (k0 : Int) (b : Addr) (w : World) :
    Calls Tryd.prog 15 #[.iface 145 (.agg #[.int .i64 k0, .iface 149 (.pointer (some b))]), .iface 149 (.pointer (some b))] w fun e w' => e = .returned (.bool true) ∧ Below w.heap.size w w' := by
  have h8 := Tryd.callTypeOf
  have h32 := Tryd.callComparable
  have hif := Tryd.ifaceErr
  have mR := Tryd.methodComp
  go_enter Tryd.func15, Tryd.ntmps15
  go_wp2_with (go_at_call 26; refine (is_in1 k0 b _).mono ?_; rintro e w' ⟨rfl, hb⟩)
  go_ret
  exact ⟨rfl, hb⟩

set_option maxRecDepth 100000 in
theorem is_in2 (k0 k1 : Int) (b : Addr) (w : World) :
    Calls Tryd.prog 26 #[.iface 145 (.agg #[.int .i64 k0, .iface 145 (.agg #[.int .i64 k1, .iface 149 (.pointer (some b))])]), .iface 149 (.pointer (some b)), .bool true] w fun e w' => e = .returned (.bool true) ∧ Below w.heap.size w w' := by
  obtain ⟨i, hi, hcmp⟩ := Option.map_eq_some_iff.1 Tryd.isComp
  obtain ⟨j, hj, hjs⟩ := Option.map_eq_some_iff.1 Tryd.isSize
  have nW := Tryd.noIsW
  have uW := Tryd.hasUnwrapW
  have mU := Tryd.methodUnwrap
  have heq := fun w => run_eql_iface_ptr_same (P := Tryd.prog) w b Tryd.underlying50 Tryd.underlying149 hi hcmp hj
  have hty0 := fun w => run_eql_iface_types (P := Tryd.prog) 145 149 (.agg #[.int .i64 k0, .iface 145 (.agg #[.int .i64 k1, .iface 149 (.pointer (some b))])]) (.pointer (some b)) Tryd.underlying50 (by decide) w
  have hty1 := fun w => run_eql_iface_types (P := Tryd.prog) 145 149 (.agg #[.int .i64 k1, .iface 149 (.pointer (some b))]) (.pointer (some b)) Tryd.underlying50 (by decide) w
  go_enter Tryd.func26, Tryd.ntmps26
  go_wp2
  refine wp_loop_rounds 3 ?_
  rw [rounds_succ]
  go_wp2
  rw [rounds_succ]
  go_wp2
  rw [rounds_succ]
  go_wp2
  go_ret
  exact ⟨rfl, ((Below.refl _ _).alloc (Nat.le_refl _) _).alloc (by simp <;> omega) _⟩

set_option maxRecDepth 100000 in
theorem is_chain2 (k0 k1 : Int) (b : Addr) (w : World) :
    Calls Tryd.prog 15 #[.iface 145 (.agg #[.int .i64 k0, .iface 145 (.agg #[.int .i64 k1, .iface 149 (.pointer (some b))])]), .iface 149 (.pointer (some b))] w fun e w' => e = .returned (.bool true) ∧ Below w.heap.size w w' := by
  have h8 := Tryd.callTypeOf
  have h32 := Tryd.callComparable
  have hif := Tryd.ifaceErr
  have mR := Tryd.methodComp
  go_enter Tryd.func15, Tryd.ntmps15
  go_wp2_with (go_at_call 26; refine (is_in2 k0 k1 b _).mono ?_; rintro e w' ⟨rfl, hb⟩)
  go_ret
  exact ⟨rfl, hb⟩

set_option maxRecDepth 100000 in
theorem is_in3 (k0 k1 k2 : Int) (b : Addr) (w : World) :
    Calls Tryd.prog 26 #[.iface 145 (.agg #[.int .i64 k0, .iface 145 (.agg #[.int .i64 k1, .iface 145 (.agg #[.int .i64 k2, .iface 149 (.pointer (some b))])])]), .iface 149 (.pointer (some b)), .bool true] w fun e w' => e = .returned (.bool true) ∧ Below w.heap.size w w' := by
  obtain ⟨i, hi, hcmp⟩ := Option.map_eq_some_iff.1 Tryd.isComp
  obtain ⟨j, hj, hjs⟩ := Option.map_eq_some_iff.1 Tryd.isSize
  have nW := Tryd.noIsW
  have uW := Tryd.hasUnwrapW
  have mU := Tryd.methodUnwrap
  have heq := fun w => run_eql_iface_ptr_same (P := Tryd.prog) w b Tryd.underlying50 Tryd.underlying149 hi hcmp hj
  have hty0 := fun w => run_eql_iface_types (P := Tryd.prog) 145 149 (.agg #[.int .i64 k0, .iface 145 (.agg #[.int .i64 k1, .iface 145 (.agg #[.int .i64 k2, .iface 149 (.pointer (some b))])])]) (.pointer (some b)) Tryd.underlying50 (by decide) w
  have hty1 := fun w => run_eql_iface_types (P := Tryd.prog) 145 149 (.agg #[.int .i64 k1, .iface 145 (.agg #[.int .i64 k2, .iface 149 (.pointer (some b))])]) (.pointer (some b)) Tryd.underlying50 (by decide) w
  have hty2 := fun w => run_eql_iface_types (P := Tryd.prog) 145 149 (.agg #[.int .i64 k2, .iface 149 (.pointer (some b))]) (.pointer (some b)) Tryd.underlying50 (by decide) w
  go_enter Tryd.func26, Tryd.ntmps26
  go_wp2
  refine wp_loop_rounds 4 ?_
  rw [rounds_succ]
  go_wp2
  rw [rounds_succ]
  go_wp2
  rw [rounds_succ]
  go_wp2
  rw [rounds_succ]
  go_wp2
  go_ret
  exact ⟨rfl, (((Below.refl _ _).alloc (Nat.le_refl _) _).alloc (by simp <;> omega) _).alloc (by simp <;> omega) _⟩

set_option maxRecDepth 100000 in
theorem is_chain3 (k0 k1 k2 : Int) (b : Addr) (w : World) :
    Calls Tryd.prog 15 #[.iface 145 (.agg #[.int .i64 k0, .iface 145 (.agg #[.int .i64 k1, .iface 145 (.agg #[.int .i64 k2, .iface 149 (.pointer (some b))])])]), .iface 149 (.pointer (some b))] w fun e w' => e = .returned (.bool true) ∧ Below w.heap.size w w' := by
  have h8 := Tryd.callTypeOf
  have h32 := Tryd.callComparable
  have hif := Tryd.ifaceErr
  have mR := Tryd.methodComp
  go_enter Tryd.func15, Tryd.ntmps15
  go_wp2_with (go_at_call 26; refine (is_in3 k0 k1 k2 b _).mono ?_; rintro e w' ⟨rfl, hb⟩)
  go_ret
  exact ⟨rfl, hb⟩

/-- errors.Is(the sentinel, itself): true. -/
theorem is_self (b : Addr) (w : World) :
    Calls Tryd.prog 15 #[.iface 149 (.pointer (some b)), .iface 149 (.pointer (some b))] w fun e w' => e = .returned (.bool true) ∧ w = w' := by
  obtain ⟨i, hi, hcmp⟩ := Option.map_eq_some_iff.1 Tryd.isComp
  obtain ⟨j, hj, hjs⟩ := Option.map_eq_some_iff.1 Tryd.isSize
  have h8 := Tryd.callTypeOf
  have h32 := Tryd.callComparable
  have hif := Tryd.ifaceErr
  have mR := Tryd.methodComp
  have heq := run_eql_iface_ptr_same (P := Tryd.prog) w b Tryd.underlying50 Tryd.underlying149 hi hcmp hj
  go_enter Tryd.func15, Tryd.ntmps15
  go_wp2
  refine wp_loop_rounds 1 ?_
  rw [rounds_succ]
  go_wp2
  go_ret
  exact ⟨rfl, rfl⟩
end Go.Proofs.YtbflbgnafdbngaaDoor
