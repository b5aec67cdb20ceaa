/-
  DERIVED. GIVEN WITH THE SEED: THE CARDS: each row of YtogbgomacanneaaDoorRows.lean that lists a variable, with what it lists TIED to the program's text (the seventh form; the later family's looks); each row that meets fmt, with fmt's text TOLD by the authors' own Lean function (tested against real Go, not proved from fmt's source: count such statements apart). THE CARD IS WHAT COUNTS. Prove the row's statement (the work); the ties are given (YtogbgomacanneaaDoorTie.lean); close each card by the builder's one call (the guide's Derived/Test/ToyasCard.lean, 'card_holds'). Laid BY PROGRAM, IN A SANDBOX (cutbox-door.mjs). By AI agents, Wed Nov 11 2026. No macro, syntax, notation, axiom, sorry.
-/
import Derived.Test.YtogbgomacanneaaDoorRows
import GoSem.ClaimSeven
namespace Go.Proofs.YtogbgomacanneaaDoor
namespace Rows

/-- THE TIED CARD OF 'norialaw10.ClientNonces'. -/
def clientNoncesCard : Claim7 := { stood := { row := clientNoncesRow, standIns := [], harness := (true, "06248300e9696335cd4117609ecc40392afe8f694e74ecebad3318a01b3c45cf"), looks := true }, kinds := [], alts := [], laidByText := true, laidKinds := [.handle, .sentinel], laidTests := true, laidLooks := .later }
def ClientNoncesCardSaid : Prop := Claim7.holds Tryd.pinned (.plain (OpenSpec.ofChange clientNoncesSpec)) clientNoncesCard

/-- THE TIED CARD OF 'norialaw10.ClientTopics'. -/
def clientTopicsCard : Claim7 := { stood := { row := clientTopicsRow, standIns := [], harness := (true, "06248300e9696335cd4117609ecc40392afe8f694e74ecebad3318a01b3c45cf"), looks := true }, kinds := [], alts := [], laidByText := true, laidKinds := [.handle, .sentinel], laidTests := true, laidLooks := .later }
def ClientTopicsCardSaid : Prop := Claim7.holds Tryd.pinned (.plain (OpenSpec.ofChange clientTopicsSpec)) clientTopicsCard

/-- THE SECOND FORM's CARD OF 'norialaw10.ClientNonces'. -/
def clientNoncesUptoCard : Claim7 := { stood := { row := clientNoncesUptoRow, standIns := [], harness := (true, "06248300e9696335cd4117609ecc40392afe8f694e74ecebad3318a01b3c45cf"), looks := true }, kinds := [], alts := [], laidByText := true, laidKinds := [.handle, .sentinel], laidTests := true, laidLooks := .later }
def ClientNoncesUptoCardSaid : Prop := Claim7.holds Tryd.pinned (.plain (OpenSpec.upto clientNoncesSpec)) clientNoncesUptoCard

/-- THE SECOND FORM's CARD OF 'norialaw10.ClientTopics'. -/
def clientTopicsUptoCard : Claim7 := { stood := { row := clientTopicsUptoRow, standIns := [], harness := (true, "06248300e9696335cd4117609ecc40392afe8f694e74ecebad3318a01b3c45cf"), looks := true }, kinds := [], alts := [], laidByText := true, laidKinds := [.handle, .sentinel], laidTests := true, laidLooks := .later }
def ClientTopicsUptoCardSaid : Prop := Claim7.holds Tryd.pinned (.plain (OpenSpec.upto clientTopicsSpec)) clientTopicsUptoCard
end Rows
end Go.Proofs.YtogbgomacanneaaDoor
