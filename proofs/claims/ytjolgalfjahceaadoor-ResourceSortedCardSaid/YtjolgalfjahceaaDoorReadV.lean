/- ReadVarint: the walk. -/
import Derived.Test.YtjolgalfjahceaaDoorRead
namespace Go.Proofs.YtjolgalfjahceaaDoor
open Go.RowKit
end Go.Proofs.YtjolgalfjahceaaDoor
