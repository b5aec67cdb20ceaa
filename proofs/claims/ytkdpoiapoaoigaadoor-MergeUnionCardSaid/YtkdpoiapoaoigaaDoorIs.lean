/- errors.Is over chains of wire's fault that end in the sentinel: contracts. -/
import Derived.Test.YtkdpoiapoaoigaaDoorChecked
import Derived.WalkKit
import Derived.WalkLawsBesides
import Derived.LaidEql
import Derived.Stop.Asserts
import Derived.Stop.IfaceNil
import Derived.RowKitTokens
import Derived.Outline
import Derived.Below
import Derived.Lib.Hide
namespace Go.Proofs.YtkdpoiapoaoigaaDoor
open Go.RowKit Go.Extern.Stop Go.Stop Go.Extern

theorem Tryd.callTypeOf (v : Value) (w : World) : (callFunc 56 #[.iface 145 v]).run Tryd.prog w = .ok (Next.value (.iface 115 (.agg #[.pointer (some ⟨6, 145, none⟩)]))) w := by kernel_rfl
theorem Tryd.callComparable (w : World) : (callFunc 109 #[.agg #[.pointer (some ⟨6, 145, none⟩)]]).run Tryd.prog w = .ok (Next.value (.bool true)) w := by kernel_rfl
theorem Tryd.ifaceErr : Tryd.prog.isIface 63 = true := by kernel_rfl
theorem Tryd.isComp : (Tryd.prog.info? 145).map (·.comparable) = some true := by kernel_rfl
theorem Tryd.isSize : (Tryd.prog.info? 169).map (·.size) = some 1 := by kernel_rfl
theorem Tryd.methodComp (n : Nat) (v : Value) (w : World) : (Go.method (n + 1) 115 v "Comparable").run Tryd.prog w = .ok (109, v) w := by kernel_rfl

/-- errors.Is(nil, the sentinel): false. -/
theorem is_nil (b : Addr) (w : World) :
    Calls Tryd.prog 48 #[.nilIface, .iface 145 (.pointer (some b))] w fun e w' => e = .returned (.bool false) ∧ w = w' := by
  have hn := run_eql_iface_nil_left (P := Tryd.prog) w 145 (.pointer (some b)) Tryd.underlying63
  go_enter Tryd.func48, Tryd.ntmps48
  go_wp2
  go_ret
  exact ⟨rfl, rfl⟩

abbrev Tryd.S (b : Addr) : Value := .iface 145 (.pointer (some b))

/-- errors.Is(the sentinel, itself): true. -/
theorem is_self (b : Addr) (w : World) :
    Calls Tryd.prog 48 #[.iface 145 (.pointer (some b)), .iface 145 (.pointer (some b))] w fun e w' => e = .returned (.bool true) ∧ w = w' := by
  obtain ⟨i, hi, hcmp⟩ := Option.map_eq_some_iff.1 Tryd.isComp
  obtain ⟨j, hj, hjs⟩ := Option.map_eq_some_iff.1 Tryd.isSize
  have h8 := Tryd.callTypeOf
  have h32 := Tryd.callComparable
  have hif := Tryd.ifaceErr
  have mR := Tryd.methodComp
  have heq := run_eql_iface_ptr_same (P := Tryd.prog) w b Tryd.underlying63 Tryd.underlying145 hi hcmp hj
  go_enter Tryd.func48, Tryd.ntmps48
  go_wp2
  refine wp_loop_rounds 1 ?_
  rw [rounds_succ]
  go_wp2
  go_ret
  exact ⟨rfl, rfl⟩
end Go.Proofs.YtkdpoiapoaoigaaDoor
