/- errors.Is over chains of message's fault that end in the sentinel: contracts. -/
import Derived.Test.YtdcfdcjgheijcaaGreatDoorChecked
import Derived.WalkKit
import Derived.WalkLawsBesides
import Derived.LaidEql
import Derived.Stop.Asserts
import Derived.Stop.IfaceNil
import Derived.RowKitTokens
import Derived.Outline
import Derived.Below
import Derived.Lib.Hide
namespace Go.Proofs.YtdcfdcjgheijcaaGreatDoor
open Go.RowKit Go.Extern.Stop Go.Stop Go.Extern

theorem Tryz.callTypeOf (v : Value) (w : World) : (callFunc 83 #[.iface 243 v]).run Tryz.prog w = .ok (Next.value (.iface 175 (.agg #[.pointer (some ⟨5, 243, none⟩)]))) w := by kernel_rfl
theorem Tryz.callComparable (w : World) : (callFunc 208 #[.agg #[.pointer (some ⟨5, 243, none⟩)]]).run Tryz.prog w = .ok (Next.value (.bool true)) w := by kernel_rfl
theorem Tryz.ifaceErr : Tryz.prog.isIface 86 = true := by kernel_rfl
theorem Tryz.isComp : (Tryz.prog.info? 243).map (·.comparable) = some true := by kernel_rfl
theorem Tryz.isSize : (Tryz.prog.info? 264).map (·.size) = some 1 := by kernel_rfl
theorem Tryz.noIsW (v : Value) (xT : TypeId) (w : World) : (Instr.typeAssert (.iface 186 v) xT 177 true).run Tryz.prog w = .ok (.tuple #[.nilIface, .bool false]) w := run_typeAssert_lacksB Tryz.underlying177 (by kernel_rfl) (by kernel_rfl) v xT w
theorem Tryz.hasUnwrapW (v : Value) (xT : TypeId) (w : World) : (Instr.typeAssert (.iface 186 v) xT 180 true).run Tryz.prog w = .ok (.tuple #[.iface 186 v, .bool true]) w := run_typeAssert_hasB Tryz.underlying180 (by kernel_rfl) v xT w

theorem Tryz.methodUnwrap (n : Nat) (v : Value) (w : World) : (Go.method (n + 1) 186 v "Unwrap").run Tryz.prog w = .ok (218, v) w := by kernel_rfl
theorem Tryz.methodComp (n : Nat) (v : Value) (w : World) : (Go.method (n + 1) 175 v "Comparable").run Tryz.prog w = .ok (208, v) w := by kernel_rfl

/-- errors.Is(nil, the sentinel): false. -/
theorem is_nil (b : Addr) (w : World) :
    Calls Tryz.prog 46 #[.nilIface, .iface 243 (.pointer (some b))] w fun e w' => e = .returned (.bool false) ∧ w = w' := by
  have hn := run_eql_iface_nil_left (P := Tryz.prog) w 243 (.pointer (some b)) Tryz.underlying86
  go_enter Tryz.func46, Tryz.ntmps46
  go_wp2
  go_ret
  exact ⟨rfl, rfl⟩

abbrev Tryz.S (b : Addr) : Value := .iface 243 (.pointer (some b))

set_option maxRecDepth 100000 in
theorem is_in1 (k0 : Int) (b : Addr) (w : World) :
    Calls Tryz.prog 84 #[.iface 186 (.agg #[.int .i64 k0, .iface 243 (.pointer (some b))]), .iface 243 (.pointer (some b)), .bool true] w fun e w' => e = .returned (.bool true) ∧ Below w.heap.size w w' := by
  obtain ⟨i, hi, hcmp⟩ := Option.map_eq_some_iff.1 Tryz.isComp
  obtain ⟨j, hj, hjs⟩ := Option.map_eq_some_iff.1 Tryz.isSize
  have nW := Tryz.noIsW
  have uW := Tryz.hasUnwrapW
  have mU := Tryz.methodUnwrap
  have heq := fun w => run_eql_iface_ptr_same (P := Tryz.prog) w b Tryz.underlying86 Tryz.underlying243 hi hcmp hj
  have hty0 := fun w => run_eql_iface_types (P := Tryz.prog) 186 243 (.agg #[.int .i64 k0, .iface 243 (.pointer (some b))]) (.pointer (some b)) Tryz.underlying86 (by decide) w
  go_enter Tryz.func84, Tryz.ntmps84
  go_wp2
  refine wp_loop_rounds 2 ?_
  rw [rounds_succ]
  go_wp2
  rw [rounds_succ]
  go_wp2
  go_ret
  exact ⟨rfl, (Below.refl _ _).alloc (Nat.le_refl _) _⟩

set_option maxRecDepth 100000 in
theorem is_chain1 (k0 : Int) (b : Addr) (w : World) :
    Calls Tryz.prog 46 #[.iface 186 (.agg #[.int .i64 k0, .iface 243 (.pointer (some b))]), .iface 243 (.pointer (some b))] w fun e w' => e = .returned (.bool true) ∧ Below w.heap.size w w' := by
  have h8 := Tryz.callTypeOf
  have h32 := Tryz.callComparable
  have hif := Tryz.ifaceErr
  have mR := Tryz.methodComp
  go_enter Tryz.func46, Tryz.ntmps46
  go_wp2_with (go_at_call 84; refine (is_in1 k0 b _).mono ?_; rintro e w' ⟨rfl, hb⟩)
  go_ret
  exact ⟨rfl, hb⟩

/-- The variable errNone holds the sentinel at b. -/
def Gn (b : Addr) (w : World) : Prop := w.cell? ⟨0, 0, none⟩ = some (.iface 243 (.pointer (some b))) ∧ 0 < w.heap.size
theorem Gn.below {b : Addr} {w w' : World} (h : Gn b w) (hb : Below w.heap.size w w') : Gn b w' := ⟨(hb.cell (p := ⟨0, 0, none⟩) h.2).trans h.1, Nat.lt_of_lt_of_le h.2 hb.size⟩
theorem Gn.later {b : Addr} {w w' : World} (h : Gn b w) (hb : Below w.heap.size w w') : Gn b w' := h.below hb
end Go.Proofs.YtdcfdcjgheijcaaGreatDoor
