/-
  DERIVED. GIVEN WITH THE SEED: THE CARDS: each row of YtbflbgnafdbngaaDoorRows.lean that lists a variable, with what it lists TIED to the program's text (the seventh form; the later family's looks); each row that meets fmt, with fmt's text TOLD by the authors' own Lean function (tested against real Go, not proved from fmt's source: count such statements apart). THE CARD IS WHAT COUNTS. Prove the row's statement (the work); the ties are given (YtbflbgnafdbngaaDoorTie.lean); close each card by the builder's one call (the guide's Derived/Test/ToyasCard.lean, 'card_holds'). Laid BY PROGRAM, IN A SANDBOX (cutbox-door.mjs). By AI agents, Wed Nov 11 2026. No macro, syntax, notation, axiom, sorry.
-/
import Derived.Test.YtbflbgnafdbngaaDoorRows
import GoSem.ClaimSeven
namespace Go.Proofs.YtbflbgnafdbngaaDoor
namespace Rows

/-- THE TIED CARD OF 'norialaw05.MessageStatus'. -/
def messageStatusCard : Claim7 := { stood := { row := messageStatusRow, standIns := [], harness := (true, "7d5682c31833315d5f65360ac423a3ed5a19f042a616ea1f3de8909dd44b22f0"), looks := true }, kinds := [], alts := [], laidByText := true, laidKinds := [.sentinel, .sentinel], laidTests := true, laidLooks := .later }
def MessageStatusCardSaid : Prop := Claim7.holds Tryd.pinned (.plain (OpenSpec.ofChange messageStatusSpec)) messageStatusCard

/-- THE TIED CARD OF 'norialaw05.MessagePings'. -/
def messagePingsCard : Claim7 := { stood := { row := messagePingsRow, standIns := [], harness := (true, "7d5682c31833315d5f65360ac423a3ed5a19f042a616ea1f3de8909dd44b22f0"), looks := true }, kinds := [], alts := [], laidByText := true, laidKinds := [.sentinel, .sentinel], laidTests := true, laidLooks := .later }
def MessagePingsCardSaid : Prop := Claim7.holds Tryd.pinned (.plain (OpenSpec.ofChange messagePingsSpec)) messagePingsCard

/-- THE SECOND FORM's CARD OF 'norialaw05.MessageStatus'. -/
def messageStatusUptoCard : Claim7 := { stood := { row := messageStatusUptoRow, standIns := [], harness := (true, "7d5682c31833315d5f65360ac423a3ed5a19f042a616ea1f3de8909dd44b22f0"), looks := true }, kinds := [], alts := [], laidByText := true, laidKinds := [.sentinel, .sentinel], laidTests := true, laidLooks := .later }
def MessageStatusUptoCardSaid : Prop := Claim7.holds Tryd.pinned (.plain (OpenSpec.upto messageStatusSpec)) messageStatusUptoCard

/-- THE SECOND FORM's CARD OF 'norialaw05.MessagePings'. -/
def messagePingsUptoCard : Claim7 := { stood := { row := messagePingsUptoRow, standIns := [], harness := (true, "7d5682c31833315d5f65360ac423a3ed5a19f042a616ea1f3de8909dd44b22f0"), looks := true }, kinds := [], alts := [], laidByText := true, laidKinds := [.sentinel, .sentinel], laidTests := true, laidLooks := .later }
def MessagePingsUptoCardSaid : Prop := Claim7.holds Tryd.pinned (.plain (OpenSpec.upto messagePingsSpec)) messagePingsUptoCard
end Rows
end Go.Proofs.YtbflbgnafdbngaaDoor
