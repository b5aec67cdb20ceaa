/-
  DERIVED. GIVEN WITH THE SEED: THE CARDS: each row of YtdcfdcjgheijcaaDoorRows.lean that lists a variable, with what it lists TIED to the program's text (the seventh form; the later family's looks); each row that meets fmt, with fmt's text TOLD by the authors' own Lean function (tested against real Go, not proved from fmt's source: count such statements apart). THE CARD IS WHAT COUNTS. Prove the row's statement (the work); the ties are given (YtdcfdcjgheijcaaDoorTie.lean); close each card by the builder's one call (the guide's Derived/Test/ToyasCard.lean, 'card_holds'). Laid BY PROGRAM, IN A SANDBOX (cutbox-door.mjs). By AI agents, Wed Nov 11 2026. No macro, syntax, notation, axiom, sorry.
-/
import Derived.Test.YtdcfdcjgheijcaaDoorRows
import GoSem.ClaimSeven
namespace Go.Proofs.YtdcfdcjgheijcaaDoor
namespace Rows

/-- THE TIED CARD OF 'norialaw10.ClientTopics'. -/
def clientTopicsCard : Claim7 := { stood := { row := clientTopicsRow, standIns := [], harness := (true, "159b1603568e8b24c56369ef61d04ce606a38eafd52a94fed21aafabe0d53120"), looks := true }, kinds := [], alts := [], laidByText := true, laidKinds := [.handle, .sentinel], laidTests := true, laidLooks := .later }
def ClientTopicsCardSaid : Prop := Claim7.holds Tryd.pinned (.plain (OpenSpec.ofChange clientTopicsSpec)) clientTopicsCard

/-- THE SECOND FORM's CARD OF 'norialaw10.ClientTopics'. -/
def clientTopicsUptoCard : Claim7 := { stood := { row := clientTopicsUptoRow, standIns := [], harness := (true, "159b1603568e8b24c56369ef61d04ce606a38eafd52a94fed21aafabe0d53120"), looks := true }, kinds := [], alts := [], laidByText := true, laidKinds := [.handle, .sentinel], laidTests := true, laidLooks := .later }
def ClientTopicsUptoCardSaid : Prop := Claim7.holds Tryd.pinned (.plain (OpenSpec.upto clientTopicsSpec)) clientTopicsUptoCard
end Rows
end Go.Proofs.YtdcfdcjgheijcaaDoor
