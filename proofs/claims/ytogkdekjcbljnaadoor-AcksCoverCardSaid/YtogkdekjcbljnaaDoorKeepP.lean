/- The program's types for XKeep. -/
import Derived.Test.YtogkdekjcbljnaaDoorChecked
import Derived.Test.YtogkdekjcbljnaaDoorKeep
namespace Go.Proofs.YtogkdekjcbljnaaDoor
theorem Tryd.kids : Kids Tryd.prog (· < Tryd.prog.types.size) := kids_rows (by kernel_rfl) (by kernel_rfl)
theorem Tryd.sliceCells : ∀ t e, t < Tryd.prog.types.size → Tryd.prog.underlying t = some (.slice e) → 0 < Tryd.prog.cellsOf e := slicesFull_at (by kernel_rfl)
end Go.Proofs.YtogkdekjcbljnaaDoor
