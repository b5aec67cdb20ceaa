/- ReadVarint: the walk. -/
import Derived.Test.YtjolgalfjahceaaGreatDoorRead
namespace Go.Proofs.YtjolgalfjahceaaGreatDoor
open Go.RowKit
end Go.Proofs.YtjolgalfjahceaaGreatDoor
