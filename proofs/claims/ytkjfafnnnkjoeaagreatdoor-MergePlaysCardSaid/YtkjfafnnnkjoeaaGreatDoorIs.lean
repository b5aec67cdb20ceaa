/- errors.Is over chains of wire's fault that end in the sentinel: contracts. -/
import Derived.Test.YtkjfafnnnkjoeaaGreatDoorChecked
import Derived.WalkKit
import Derived.WalkLawsBesides
import Derived.LaidEql
import Derived.Stop.Asserts
import Derived.Stop.IfaceNil
import Derived.RowKitTokens
import Derived.Outline
import Derived.Below
import Derived.Lib.Hide
namespace Go.Proofs.YtkjfafnnnkjoeaaGreatDoor
open Go.RowKit Go.Extern.Stop Go.Stop Go.Extern

theorem Tryz.callTypeOf (v : Value) (w : World) : (callFunc 61 #[.iface 157 v]).run Tryz.prog w = .ok (Next.value (.iface 112 (.agg #[.pointer (some ⟨6, 157, none⟩)]))) w := by kernel_rfl
theorem Tryz.callComparable (w : World) : (callFunc 120 #[.agg #[.pointer (some ⟨6, 157, none⟩)]]).run Tryz.prog w = .ok (Next.value (.bool true)) w := by kernel_rfl
theorem Tryz.ifaceErr : Tryz.prog.isIface 67 = true := by kernel_rfl
theorem Tryz.isComp : (Tryz.prog.info? 157).map (·.comparable) = some true := by kernel_rfl
theorem Tryz.isSize : (Tryz.prog.info? 181).map (·.size) = some 1 := by kernel_rfl
theorem Tryz.methodComp (n : Nat) (v : Value) (w : World) : (Go.method (n + 1) 112 v "Comparable").run Tryz.prog w = .ok (120, v) w := by kernel_rfl

/-- errors.Is(nil, the sentinel): false. -/
theorem is_nil (b : Addr) (w : World) :
    Calls Tryz.prog 47 #[.nilIface, .iface 157 (.pointer (some b))] w fun e w' => e = .returned (.bool false) ∧ w = w' := by
  have hn := run_eql_iface_nil_left (P := Tryz.prog) w 157 (.pointer (some b)) Tryz.underlying67
  go_enter Tryz.func47, Tryz.ntmps47
  go_wp2
  go_ret
  exact ⟨rfl, rfl⟩

abbrev Tryz.S (b : Addr) : Value := .iface 157 (.pointer (some b))

/-- errors.Is(the sentinel, itself): true. -/
theorem is_self (b : Addr) (w : World) :
    Calls Tryz.prog 47 #[.iface 157 (.pointer (some b)), .iface 157 (.pointer (some b))] w fun e w' => e = .returned (.bool true) ∧ w = w' := by
  obtain ⟨i, hi, hcmp⟩ := Option.map_eq_some_iff.1 Tryz.isComp
  obtain ⟨j, hj, hjs⟩ := Option.map_eq_some_iff.1 Tryz.isSize
  have h8 := Tryz.callTypeOf
  have h32 := Tryz.callComparable
  have hif := Tryz.ifaceErr
  have mR := Tryz.methodComp
  have heq := run_eql_iface_ptr_same (P := Tryz.prog) w b Tryz.underlying67 Tryz.underlying157 hi hcmp hj
  go_enter Tryz.func47, Tryz.ntmps47
  go_wp2
  refine wp_loop_rounds 1 ?_
  rw [rounds_succ]
  go_wp2
  go_ret
  exact ⟨rfl, rfl⟩
end Go.Proofs.YtkjfafnnnkjoeaaGreatDoor
