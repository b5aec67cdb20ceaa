/- The program's types for XKeep. -/
import Derived.Test.YtinjbfepjbogeaaChecked
import Derived.Test.YtinjbfepjbogeaaKeep
namespace Go.Proofs.Ytinjbfepjbogeaa
theorem Try.kids : Kids Try.prog (· < Try.prog.types.size) := kids_rows (by kernel_rfl) (by kernel_rfl)
theorem Try.sliceCells : ∀ t e, t < Try.prog.types.size → Try.prog.underlying t = some (.slice e) → 0 < Try.prog.cellsOf e := slicesFull_at (by kernel_rfl)
end Go.Proofs.Ytinjbfepjbogeaa
