/- ReadVarint: the walk. -/
import Derived.Test.YthihjedfnfbokaaDoorRead
namespace Go.Proofs.YthihjedfnfbokaaDoor
open Go.RowKit
end Go.Proofs.YthihjedfnfbokaaDoor
