/- The program's types for XKeep. -/
import Derived.Test.YtkjfafnnnkjoeaaGreatDoorChecked
import Derived.Test.YtkjfafnnnkjoeaaGreatDoorKeep
namespace Go.Proofs.YtkjfafnnnkjoeaaGreatDoor
theorem Tryz.kids : Kids Tryz.prog (· < Tryz.prog.types.size) := kids_rows (by kernel_rfl) (by kernel_rfl)
theorem Tryz.sliceCells : ∀ t e, t < Tryz.prog.types.size → Tryz.prog.underlying t = some (.slice e) → 0 < Tryz.prog.cellsOf e := slicesFull_at (by kernel_rfl)
end Go.Proofs.YtkjfafnnnkjoeaaGreatDoor
