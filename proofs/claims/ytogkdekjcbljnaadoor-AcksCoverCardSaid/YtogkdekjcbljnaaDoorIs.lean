/- errors.Is over chains of wire's fault that end in the sentinel: contracts. -/
import Derived.Test.YtogkdekjcbljnaaDoorChecked
import Derived.WalkKit
import Derived.WalkLawsBesides
import Derived.LaidEql
import Derived.Stop.Asserts
import Derived.Stop.IfaceNil
import Derived.RowKitTokens
import Derived.Outline
import Derived.Below
import Derived.Lib.Hide
namespace Go.Proofs.YtogkdekjcbljnaaDoor
open Go.RowKit Go.Extern.Stop Go.Stop Go.Extern

theorem Tryd.callTypeOf (v : Value) (w : World) : (callFunc 40 #[.iface 161 v]).run Tryd.prog w = .ok (Next.value (.iface 124 (.agg #[.pointer (some ⟨2, 161, none⟩)]))) w := by kernel_rfl
theorem Tryd.callComparable (w : World) : (callFunc 107 #[.agg #[.pointer (some ⟨2, 161, none⟩)]]).run Tryd.prog w = .ok (Next.value (.bool true)) w := by kernel_rfl
theorem Tryd.ifaceErr : Tryd.prog.isIface 74 = true := by kernel_rfl
theorem Tryd.isComp : (Tryd.prog.info? 161).map (·.comparable) = some true := by kernel_rfl
theorem Tryd.isSize : (Tryd.prog.info? 185).map (·.size) = some 1 := by kernel_rfl
theorem Tryd.methodComp (n : Nat) (v : Value) (w : World) : (Go.method (n + 1) 124 v "Comparable").run Tryd.prog w = .ok (107, v) w := by kernel_rfl

/-- errors.Is(nil, the sentinel): false. -/
theorem is_nil (b : Addr) (w : World) :
    Calls Tryd.prog 26 #[.nilIface, .iface 161 (.pointer (some b))] w fun e w' => e = .returned (.bool false) ∧ w = w' := by
  have hn := run_eql_iface_nil_left (P := Tryd.prog) w 161 (.pointer (some b)) Tryd.underlying74
  go_enter Tryd.func26, Tryd.ntmps26
  go_wp2
  go_ret
  exact ⟨rfl, rfl⟩

abbrev Tryd.S (b : Addr) : Value := .iface 161 (.pointer (some b))

/-- errors.Is(the sentinel, itself): true. -/
theorem is_self (b : Addr) (w : World) :
    Calls Tryd.prog 26 #[.iface 161 (.pointer (some b)), .iface 161 (.pointer (some b))] w fun e w' => e = .returned (.bool true) ∧ w = w' := by
  obtain ⟨i, hi, hcmp⟩ := Option.map_eq_some_iff.1 Tryd.isComp
  obtain ⟨j, hj, hjs⟩ := Option.map_eq_some_iff.1 Tryd.isSize
  have h8 := Tryd.callTypeOf
  have h32 := Tryd.callComparable
  have hif := Tryd.ifaceErr
  have mR := Tryd.methodComp
  have heq := run_eql_iface_ptr_same (P := Tryd.prog) w b Tryd.underlying74 Tryd.underlying161 hi hcmp hj
  go_enter Tryd.func26, Tryd.ntmps26
  go_wp2
  refine wp_loop_rounds 1 ?_
  rw [rounds_succ]
  go_wp2
  go_ret
  exact ⟨rfl, rfl⟩
end Go.Proofs.YtogkdekjcbljnaaDoor
