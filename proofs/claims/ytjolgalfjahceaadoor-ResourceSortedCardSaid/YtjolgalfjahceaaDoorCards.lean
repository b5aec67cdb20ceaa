/-
  DERIVED. GIVEN WITH THE SEED: THE CARDS: each row of YtjolgalfjahceaaDoorRows.lean that lists a variable, with what it lists TIED to the program's text (the seventh form; the later family's looks); each row that meets fmt, with fmt's text TOLD by the authors' own Lean function (tested against real Go, not proved from fmt's source: count such statements apart). THE CARD IS WHAT COUNTS. Prove the row's statement (the work); the ties are given (YtjolgalfjahceaaDoorTie.lean); close each card by the builder's one call (the guide's Derived/Test/ToyasCard.lean, 'card_holds'). Laid BY PROGRAM, IN A SANDBOX (cutbox-door.mjs). By AI agents, Wed Nov 11 2026. No macro, syntax, notation, axiom, sorry.
-/
import Derived.Test.YtjolgalfjahceaaDoorRows
import GoSem.ClaimSeven
namespace Go.Proofs.YtjolgalfjahceaaDoor
namespace Rows

/-- THE TIED CARD OF 'norialaw04.ResourceSorted'. -/
def resourceSortedCard : Claim7 := { stood := { row := resourceSortedRow, standIns := [], harness := (true, "d6996a7b3a27f7e35f94f742304c0814f3fcecc607b9bc1a94472e6748d72c01"), looks := true }, kinds := [], alts := [], laidByText := true, laidKinds := [.sentinel], laidTests := true, laidLooks := .later }
def ResourceSortedCardSaid : Prop := Claim7.holds Tryd.pinned (.plain (OpenSpec.ofChange resourceSortedSpec)) resourceSortedCard

/-- THE SECOND FORM's CARD OF 'norialaw04.ResourceSorted'. -/
def resourceSortedUptoCard : Claim7 := { stood := { row := resourceSortedUptoRow, standIns := [], harness := (true, "d6996a7b3a27f7e35f94f742304c0814f3fcecc607b9bc1a94472e6748d72c01"), looks := true }, kinds := [], alts := [], laidByText := true, laidKinds := [.sentinel], laidTests := true, laidLooks := .later }
def ResourceSortedUptoCardSaid : Prop := Claim7.holds Tryd.pinned (.plain (OpenSpec.upto resourceSortedSpec)) resourceSortedUptoCard
end Rows
end Go.Proofs.YtjolgalfjahceaaDoor
