/-
  DERIVED. GIVEN WITH THE SEED: THE CARDS: each row of YtjolgalfjahceaaGreatDoorRows.lean that lists a variable, with what it lists TIED to the program's text (the seventh form; the later family's looks); each row that meets fmt, with fmt's text TOLD by the authors' own Lean function (tested against real Go, not proved from fmt's source: count such statements apart). THE CARD IS WHAT COUNTS. Prove the row's statement (the work); the ties are given (YtjolgalfjahceaaGreatDoorTie.lean); close each card by the builder's one call (the guide's Derived/Test/ToyasCard.lean, 'card_holds'). Laid BY PROGRAM, IN A SANDBOX (cutbox-door.mjs). By AI agents, Wed Nov 11 2026. No macro, syntax, notation, axiom, sorry.
-/
import Derived.Test.YtjolgalfjahceaaGreatDoorRows
import GoSem.ClaimSeven
namespace Go.Proofs.YtjolgalfjahceaaGreatDoor
namespace Rows

/-- THE TIED CARD OF 'norialaw04.ResourceLists'. -/
def resourceListsCard : Claim7 := { stood := { row := resourceListsRow, standIns := [], harness := (true, "0f296f2cd29957082c31970c12d70407480995c47cbd3f2b49ff17a82f483a9a"), looks := true }, kinds := [], alts := [], laidByText := true, laidKinds := [.sentinel], laidTests := true, laidLooks := .later }
def ResourceListsCardSaid : Prop := Claim7.holds Tryz.pinned (.plain (OpenSpec.ofChange resourceListsSpec)) resourceListsCard

/-- THE SECOND FORM's CARD OF 'norialaw04.ResourceLists'. -/
def resourceListsUptoCard : Claim7 := { stood := { row := resourceListsUptoRow, standIns := [], harness := (true, "0f296f2cd29957082c31970c12d70407480995c47cbd3f2b49ff17a82f483a9a"), looks := true }, kinds := [], alts := [], laidByText := true, laidKinds := [.sentinel], laidTests := true, laidLooks := .later }
def ResourceListsUptoCardSaid : Prop := Claim7.holds Tryz.pinned (.plain (OpenSpec.upto resourceListsSpec)) resourceListsUptoCard
end Rows
end Go.Proofs.YtjolgalfjahceaaGreatDoor
