/-
  DERIVED. GIVEN WITH THE SEED: THE CARDS: each row of YtjcfbpbmieepiaaDoorRows.lean that lists a variable, with what it lists TIED to the program's text (the seventh form; the later family's looks); each row that meets fmt, with fmt's text TOLD by the authors' own Lean function (tested against real Go, not proved from fmt's source: count such statements apart). THE CARD IS WHAT COUNTS. Prove the row's statement (the work); the ties are given (YtjcfbpbmieepiaaDoorTie.lean); close each card by the builder's one call (the guide's Derived/Test/ToyasCard.lean, 'card_holds'). Laid BY PROGRAM, IN A SANDBOX (cutbox-door.mjs). By AI agents, Wed Nov 11 2026. No macro, syntax, notation, axiom, sorry.
-/
import Derived.Test.YtjcfbpbmieepiaaDoorRows
import GoSem.ClaimSeven
namespace Go.Proofs.YtjcfbpbmieepiaaDoor
namespace Rows

/-- THE TIED CARD OF 'norialaw13.LedgerPlays'. -/
def ledgerPlaysCard : Claim7 := { stood := { row := ledgerPlaysRow, standIns := [], harness := (true, "e9f94e6a4ef52c029c71d26eec744f5d16d642133d73a7e70f286337e955835b"), looks := true }, kinds := [], alts := [], laidByText := true, laidKinds := [.sentinel, .sentinel], laidTests := true, laidLooks := .later }
def LedgerPlaysCardSaid : Prop := Claim7.holds Tryd.pinned (.plain (OpenSpec.ofChange ledgerPlaysSpec)) ledgerPlaysCard

/-- THE TIED CARD OF 'norialaw13.LedgerStays'. -/
def ledgerStaysCard : Claim7 := { stood := { row := ledgerStaysRow, standIns := [], harness := (true, "e9f94e6a4ef52c029c71d26eec744f5d16d642133d73a7e70f286337e955835b"), looks := true }, kinds := [], alts := [], laidByText := true, laidKinds := [.sentinel, .sentinel], laidTests := true, laidLooks := .later }
def LedgerStaysCardSaid : Prop := Claim7.holds Tryd.pinned (.plain (OpenSpec.ofChange ledgerStaysSpec)) ledgerStaysCard

/-- THE TIED CARD OF 'norialaw13.LedgerErases'. -/
def ledgerErasesCard : Claim7 := { stood := { row := ledgerErasesRow, standIns := [], harness := (true, "e9f94e6a4ef52c029c71d26eec744f5d16d642133d73a7e70f286337e955835b"), looks := true }, kinds := [], alts := [], laidByText := true, laidKinds := [.sentinel, .sentinel], laidTests := true, laidLooks := .later }
def LedgerErasesCardSaid : Prop := Claim7.holds Tryd.pinned (.plain (OpenSpec.ofChange ledgerErasesSpec)) ledgerErasesCard

/-- THE TIED CARD OF 'norialaw13.LedgerRoom'. -/
def ledgerRoomCard : Claim7 := { stood := { row := ledgerRoomRow, standIns := [], harness := (true, "e9f94e6a4ef52c029c71d26eec744f5d16d642133d73a7e70f286337e955835b"), looks := true }, kinds := [], alts := [], laidByText := true, laidKinds := [.sentinel, .sentinel], laidTests := true, laidLooks := .later }
def LedgerRoomCardSaid : Prop := Claim7.holds Tryd.pinned (.plain (OpenSpec.ofChange ledgerRoomSpec)) ledgerRoomCard

/-- THE TIED CARD OF 'norialaw13.LedgerKeys'. -/
def ledgerKeysCard : Claim7 := { stood := { row := ledgerKeysRow, standIns := [], harness := (true, "e9f94e6a4ef52c029c71d26eec744f5d16d642133d73a7e70f286337e955835b"), looks := true }, kinds := [], alts := [], laidByText := true, laidKinds := [.sentinel, .sentinel], laidTests := true, laidLooks := .later }
def LedgerKeysCardSaid : Prop := Claim7.holds Tryd.pinned (.plain (OpenSpec.ofChange ledgerKeysSpec)) ledgerKeysCard

/-- THE SECOND FORM's CARD OF 'norialaw13.LedgerPlays'. -/
def ledgerPlaysUptoCard : Claim7 := { stood := { row := ledgerPlaysUptoRow, standIns := [], harness := (true, "e9f94e6a4ef52c029c71d26eec744f5d16d642133d73a7e70f286337e955835b"), looks := true }, kinds := [], alts := [], laidByText := true, laidKinds := [.sentinel, .sentinel], laidTests := true, laidLooks := .later }
def LedgerPlaysUptoCardSaid : Prop := Claim7.holds Tryd.pinned (.plain (OpenSpec.upto ledgerPlaysSpec)) ledgerPlaysUptoCard

/-- THE SECOND FORM's CARD OF 'norialaw13.LedgerStays'. -/
def ledgerStaysUptoCard : Claim7 := { stood := { row := ledgerStaysUptoRow, standIns := [], harness := (true, "e9f94e6a4ef52c029c71d26eec744f5d16d642133d73a7e70f286337e955835b"), looks := true }, kinds := [], alts := [], laidByText := true, laidKinds := [.sentinel, .sentinel], laidTests := true, laidLooks := .later }
def LedgerStaysUptoCardSaid : Prop := Claim7.holds Tryd.pinned (.plain (OpenSpec.upto ledgerStaysSpec)) ledgerStaysUptoCard

/-- THE SECOND FORM's CARD OF 'norialaw13.LedgerErases'. -/
def ledgerErasesUptoCard : Claim7 := { stood := { row := ledgerErasesUptoRow, standIns := [], harness := (true, "e9f94e6a4ef52c029c71d26eec744f5d16d642133d73a7e70f286337e955835b"), looks := true }, kinds := [], alts := [], laidByText := true, laidKinds := [.sentinel, .sentinel], laidTests := true, laidLooks := .later }
def LedgerErasesUptoCardSaid : Prop := Claim7.holds Tryd.pinned (.plain (OpenSpec.upto ledgerErasesSpec)) ledgerErasesUptoCard

/-- THE SECOND FORM's CARD OF 'norialaw13.LedgerRoom'. -/
def ledgerRoomUptoCard : Claim7 := { stood := { row := ledgerRoomUptoRow, standIns := [], harness := (true, "e9f94e6a4ef52c029c71d26eec744f5d16d642133d73a7e70f286337e955835b"), looks := true }, kinds := [], alts := [], laidByText := true, laidKinds := [.sentinel, .sentinel], laidTests := true, laidLooks := .later }
def LedgerRoomUptoCardSaid : Prop := Claim7.holds Tryd.pinned (.plain (OpenSpec.upto ledgerRoomSpec)) ledgerRoomUptoCard

/-- THE SECOND FORM's CARD OF 'norialaw13.LedgerKeys'. -/
def ledgerKeysUptoCard : Claim7 := { stood := { row := ledgerKeysUptoRow, standIns := [], harness := (true, "e9f94e6a4ef52c029c71d26eec744f5d16d642133d73a7e70f286337e955835b"), looks := true }, kinds := [], alts := [], laidByText := true, laidKinds := [.sentinel, .sentinel], laidTests := true, laidLooks := .later }
def LedgerKeysUptoCardSaid : Prop := Claim7.holds Tryd.pinned (.plain (OpenSpec.upto ledgerKeysSpec)) ledgerKeysUptoCard
end Rows
end Go.Proofs.YtjcfbpbmieepiaaDoor
