/-
  DERIVED. GIVEN WITH THE SEED: THE CARDS: each row of YtnioghheklbecaaDoorRows.lean that lists a variable, with what it lists TIED to the program's text (the seventh form; the later family's looks); each row that meets fmt, with fmt's text TOLD by the authors' own Lean function (tested against real Go, not proved from fmt's source: count such statements apart). THE CARD IS WHAT COUNTS. Prove the row's statement (the work); the ties are given (YtnioghheklbecaaDoorTie.lean); close each card by the builder's one call (the guide's Derived/Test/ToyasCard.lean, 'card_holds'). Laid BY PROGRAM, IN A SANDBOX (cutbox-door.mjs). By AI agents, Wed Nov 11 2026. No macro, syntax, notation, axiom, sorry.
-/
import Derived.Test.YtnioghheklbecaaDoorRows
import GoSem.ClaimSeven
namespace Go.Proofs.YtnioghheklbecaaDoor
namespace Rows

/-- THE TIED CARD OF 'norialaw04.ResourceCodes'. -/
def resourceCodesCard : Claim7 := { stood := { row := resourceCodesRow, standIns := [], harness := (true, "b59de33b1cd51f7c48de0ac46dcfc3c11c5dbc9e0dfdd3d231a7c5c6d6432208"), looks := true }, kinds := [], alts := [], laidByText := true, laidKinds := [.sentinel], laidTests := true, laidLooks := .later }
def ResourceCodesCardSaid : Prop := Claim7.holds Tryd.pinned (.plain (OpenSpec.ofChange resourceCodesSpec)) resourceCodesCard

/-- THE SECOND FORM's CARD OF 'norialaw04.ResourceCodes'. -/
def resourceCodesUptoCard : Claim7 := { stood := { row := resourceCodesUptoRow, standIns := [], harness := (true, "b59de33b1cd51f7c48de0ac46dcfc3c11c5dbc9e0dfdd3d231a7c5c6d6432208"), looks := true }, kinds := [], alts := [], laidByText := true, laidKinds := [.sentinel], laidTests := true, laidLooks := .later }
def ResourceCodesUptoCardSaid : Prop := Claim7.holds Tryd.pinned (.plain (OpenSpec.upto resourceCodesSpec)) resourceCodesUptoCard
end Rows
end Go.Proofs.YtnioghheklbecaaDoor
