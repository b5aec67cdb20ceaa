/- ReadVarint: the walk. -/
import Derived.Test.YtnioghheklbecaaDoorRead
namespace Go.Proofs.YtnioghheklbecaaDoor
open Go.RowKit
end Go.Proofs.YtnioghheklbecaaDoor
