/- errors.Is over chains of message's fault that end in the sentinel: contracts. -/
import Derived.Test.YtdcfdcjgheijcaaDoorChecked
import Derived.WalkKit
import Derived.WalkLawsBesides
import Derived.LaidEql
import Derived.Stop.Asserts
import Derived.Stop.IfaceNil
import Derived.RowKitTokens
import Derived.Outline
import Derived.Below
import Derived.Lib.Hide
namespace Go.Proofs.YtdcfdcjgheijcaaDoor
open Go.RowKit Go.Extern.Stop Go.Stop Go.Extern

theorem Tryd.callTypeOf (v : Value) (w : World) : (callFunc 48 #[.iface 158 v]).run Tryd.prog w = .ok (Next.value (.iface 105 (.agg #[.pointer (some ⟨2, 158, none⟩)]))) w := by kernel_rfl
theorem Tryd.callComparable (w : World) : (callFunc 107 #[.agg #[.pointer (some ⟨2, 158, none⟩)]]).run Tryd.prog w = .ok (Next.value (.bool true)) w := by kernel_rfl
theorem Tryd.ifaceErr : Tryd.prog.isIface 54 = true := by kernel_rfl
theorem Tryd.isComp : (Tryd.prog.info? 158).map (·.comparable) = some true := by kernel_rfl
theorem Tryd.isSize : (Tryd.prog.info? 179).map (·.size) = some 1 := by kernel_rfl
theorem Tryd.noIsW (v : Value) (xT : TypeId) (w : World) : (Instr.typeAssert (.iface 151 v) xT 146 true).run Tryd.prog w = .ok (.tuple #[.nilIface, .bool false]) w := run_typeAssert_lacksB Tryd.underlying146 (by kernel_rfl) (by kernel_rfl) v xT w
theorem Tryd.hasUnwrapW (v : Value) (xT : TypeId) (w : World) : (Instr.typeAssert (.iface 151 v) xT 113 true).run Tryd.prog w = .ok (.tuple #[.iface 151 v, .bool true]) w := run_typeAssert_hasB Tryd.underlying113 (by kernel_rfl) v xT w

theorem Tryd.methodUnwrap (n : Nat) (v : Value) (w : World) : (Go.method (n + 1) 151 v "Unwrap").run Tryd.prog w = .ok (117, v) w := by kernel_rfl
theorem Tryd.methodComp (n : Nat) (v : Value) (w : World) : (Go.method (n + 1) 105 v "Comparable").run Tryd.prog w = .ok (107, v) w := by kernel_rfl

/-- errors.Is(nil, the sentinel): false. -/
theorem is_nil (b : Addr) (w : World) :
    Calls Tryd.prog 44 #[.nilIface, .iface 158 (.pointer (some b))] w fun e w' => e = .returned (.bool false) ∧ w = w' := by
  have hn := run_eql_iface_nil_left (P := Tryd.prog) w 158 (.pointer (some b)) Tryd.underlying54
  go_enter Tryd.func44, Tryd.ntmps44
  go_wp2
  go_ret
  exact ⟨rfl, rfl⟩

abbrev Tryd.S (b : Addr) : Value := .iface 158 (.pointer (some b))

set_option maxRecDepth 100000 in
theorem is_in1 (k0 : Int) (b : Addr) (w : World) :
    Calls Tryd.prog 62 #[.iface 151 (.agg #[.int .i64 k0, .iface 158 (.pointer (some b))]), .iface 158 (.pointer (some b)), .bool true] w fun e w' => e = .returned (.bool true) ∧ Below w.heap.size w w' := by
  obtain ⟨i, hi, hcmp⟩ := Option.map_eq_some_iff.1 Tryd.isComp
  obtain ⟨j, hj, hjs⟩ := Option.map_eq_some_iff.1 Tryd.isSize
  have nW := Tryd.noIsW
  have uW := Tryd.hasUnwrapW
  have mU := Tryd.methodUnwrap
  have heq := fun w => run_eql_iface_ptr_same (P := Tryd.prog) w b Tryd.underlying54 Tryd.underlying158 hi hcmp hj
  have hty0 := fun w => run_eql_iface_types (P := Tryd.prog) 151 158 (.agg #[.int .i64 k0, .iface 158 (.pointer (some b))]) (.pointer (some b)) Tryd.underlying54 (by decide) w
  go_enter Tryd.func62, Tryd.ntmps62
  go_wp2
  refine wp_loop_rounds 2 ?_
  rw [rounds_succ]
  go_wp2
  rw [rounds_succ]
  go_wp2
  go_ret
  exact ⟨rfl, (Below.refl _ _).alloc (Nat.le_refl _) _⟩

set_option maxRecDepth 100000 in
theorem is_chain1 (k0 : Int) (b : Addr) (w : World) :
    Calls Tryd.prog 44 #[.iface 151 (.agg #[.int .i64 k0, .iface 158 (.pointer (some b))]), .iface 158 (.pointer (some b))] w fun e w' => e = .returned (.bool true) ∧ Below w.heap.size w w' := by
  have h8 := Tryd.callTypeOf
  have h32 := Tryd.callComparable
  have hif := Tryd.ifaceErr
  have mR := Tryd.methodComp
  go_enter Tryd.func44, Tryd.ntmps44
  go_wp2_with (go_at_call 62; refine (is_in1 k0 b _).mono ?_; rintro e w' ⟨rfl, hb⟩)
  go_ret
  exact ⟨rfl, hb⟩

/-- The variable errNone holds the sentinel at b. -/
def Gn (b : Addr) (w : World) : Prop := w.cell? ⟨1, 0, none⟩ = some (.iface 158 (.pointer (some b))) ∧ 1 < w.heap.size
theorem Gn.below {b : Addr} {w w' : World} (h : Gn b w) (hb : Below w.heap.size w w') : Gn b w' := ⟨(hb.cell (p := ⟨1, 0, none⟩) h.2).trans h.1, Nat.lt_of_lt_of_le h.2 hb.size⟩
theorem Gn.later {b : Addr} {w w' : World} (h : Gn b w) (hb : Below w.heap.size w w') : Gn b w' := h.below hb
end Go.Proofs.YtdcfdcjgheijcaaDoor
