/- ReadVarint: the walk. -/
import Derived.Test.YtbflbgnafdbngaaDoorRead
namespace Go.Proofs.YtbflbgnafdbngaaDoor
open Go.RowKit
end Go.Proofs.YtbflbgnafdbngaaDoor
