/- names: Same. -/
import Derived.Test.YtkjfafnnnkjoeaaGreatDoorNmLater
namespace Go.Proofs.YtkjfafnnnkjoeaaGreatDoor
open Go.RowKit Go.Lib

end Go.Proofs.YtkjfafnnnkjoeaaGreatDoor
