/-
  DERIVED. GIVEN WITH THE SEED: THE CARDS: each row of YtkdpoiapoaoigaaDoorRows.lean that lists a variable, with what it lists TIED to the program's text (the seventh form; the later family's looks); each row that meets fmt, with fmt's text TOLD by the authors' own Lean function (tested against real Go, not proved from fmt's source: count such statements apart). THE CARD IS WHAT COUNTS. Prove the row's statement (the work); the ties are given (YtkdpoiapoaoigaaDoorTie.lean); close each card by the builder's one call (the guide's Derived/Test/ToyasCard.lean, 'card_holds'). Laid BY PROGRAM, IN A SANDBOX (cutbox-door.mjs). By AI agents, Wed Nov 11 2026. No macro, syntax, notation, axiom, sorry.
-/
import Derived.Test.YtkdpoiapoaoigaaDoorRows
import GoSem.ClaimSeven
namespace Go.Proofs.YtkdpoiapoaoigaaDoor
namespace Rows

/-- THE TIED CARD OF 'norialaw14.MergeUnion'. -/
def mergeUnionCard : Claim7 := { stood := { row := mergeUnionRow, standIns := [], harness := (true, "46ee7095c3ef11159cae2048373a1abc9624ea1cb92a62653b35797fb401239c"), looks := true }, kinds := [], alts := [], laidByText := true, laidKinds := [.data, .data, .data, .sentinel, .sentinel, .sentinel], laidTests := true, laidLooks := .later }
def MergeUnionCardSaid : Prop := Claim7.holds Tryd.pinned (.plain (OpenSpec.ofChange mergeUnionSpec)) mergeUnionCard

/-- THE TIED CARD OF 'norialaw14.MergeDrops'. -/
def mergeDropsCard : Claim7 := { stood := { row := mergeDropsRow, standIns := [], harness := (true, "46ee7095c3ef11159cae2048373a1abc9624ea1cb92a62653b35797fb401239c"), looks := true }, kinds := [], alts := [], laidByText := true, laidKinds := [.data, .data, .data, .sentinel, .sentinel, .sentinel], laidTests := true, laidLooks := .later }
def MergeDropsCardSaid : Prop := Claim7.holds Tryd.pinned (.plain (OpenSpec.ofChange mergeDropsSpec)) mergeDropsCard

/-- THE TIED CARD OF 'norialaw14.MergeFull'. -/
def mergeFullCard : Claim7 := { stood := { row := mergeFullRow, standIns := [], harness := (true, "46ee7095c3ef11159cae2048373a1abc9624ea1cb92a62653b35797fb401239c"), looks := true }, kinds := [], alts := [], laidByText := true, laidKinds := [.data, .data, .data, .sentinel, .sentinel, .sentinel], laidTests := true, laidLooks := .later }
def MergeFullCardSaid : Prop := Claim7.holds Tryd.pinned (.plain (OpenSpec.ofChange mergeFullSpec)) mergeFullCard

/-- THE TIED CARD OF 'norialaw14.MergeKeys'. -/
def mergeKeysCard : Claim7 := { stood := { row := mergeKeysRow, standIns := [], harness := (true, "46ee7095c3ef11159cae2048373a1abc9624ea1cb92a62653b35797fb401239c"), looks := true }, kinds := [], alts := [], laidByText := true, laidKinds := [.data, .data, .data, .sentinel, .sentinel, .sentinel], laidTests := true, laidLooks := .later }
def MergeKeysCardSaid : Prop := Claim7.holds Tryd.pinned (.plain (OpenSpec.ofChange mergeKeysSpec)) mergeKeysCard

/-- THE TIED CARD OF 'norialaw14.MergeAgain'. -/
def mergeAgainCard : Claim7 := { stood := { row := mergeAgainRow, standIns := [], harness := (true, "46ee7095c3ef11159cae2048373a1abc9624ea1cb92a62653b35797fb401239c"), looks := true }, kinds := [], alts := [], laidByText := true, laidKinds := [.data, .data, .data, .sentinel, .sentinel, .sentinel], laidTests := true, laidLooks := .later }
def MergeAgainCardSaid : Prop := Claim7.holds Tryd.pinned (.plain (OpenSpec.ofChange mergeAgainSpec)) mergeAgainCard

/-- THE SECOND FORM's CARD OF 'norialaw14.MergeUnion'. -/
def mergeUnionUptoCard : Claim7 := { stood := { row := mergeUnionUptoRow, standIns := [], harness := (true, "46ee7095c3ef11159cae2048373a1abc9624ea1cb92a62653b35797fb401239c"), looks := true }, kinds := [], alts := [], laidByText := true, laidKinds := [.data, .data, .data, .sentinel, .sentinel, .sentinel], laidTests := true, laidLooks := .later }
def MergeUnionUptoCardSaid : Prop := Claim7.holds Tryd.pinned (.plain (OpenSpec.upto mergeUnionSpec)) mergeUnionUptoCard

/-- THE SECOND FORM's CARD OF 'norialaw14.MergeDrops'. -/
def mergeDropsUptoCard : Claim7 := { stood := { row := mergeDropsUptoRow, standIns := [], harness := (true, "46ee7095c3ef11159cae2048373a1abc9624ea1cb92a62653b35797fb401239c"), looks := true }, kinds := [], alts := [], laidByText := true, laidKinds := [.data, .data, .data, .sentinel, .sentinel, .sentinel], laidTests := true, laidLooks := .later }
def MergeDropsUptoCardSaid : Prop := Claim7.holds Tryd.pinned (.plain (OpenSpec.upto mergeDropsSpec)) mergeDropsUptoCard

/-- THE SECOND FORM's CARD OF 'norialaw14.MergeFull'. -/
def mergeFullUptoCard : Claim7 := { stood := { row := mergeFullUptoRow, standIns := [], harness := (true, "46ee7095c3ef11159cae2048373a1abc9624ea1cb92a62653b35797fb401239c"), looks := true }, kinds := [], alts := [], laidByText := true, laidKinds := [.data, .data, .data, .sentinel, .sentinel, .sentinel], laidTests := true, laidLooks := .later }
def MergeFullUptoCardSaid : Prop := Claim7.holds Tryd.pinned (.plain (OpenSpec.upto mergeFullSpec)) mergeFullUptoCard

/-- THE SECOND FORM's CARD OF 'norialaw14.MergeKeys'. -/
def mergeKeysUptoCard : Claim7 := { stood := { row := mergeKeysUptoRow, standIns := [], harness := (true, "46ee7095c3ef11159cae2048373a1abc9624ea1cb92a62653b35797fb401239c"), looks := true }, kinds := [], alts := [], laidByText := true, laidKinds := [.data, .data, .data, .sentinel, .sentinel, .sentinel], laidTests := true, laidLooks := .later }
def MergeKeysUptoCardSaid : Prop := Claim7.holds Tryd.pinned (.plain (OpenSpec.upto mergeKeysSpec)) mergeKeysUptoCard

/-- THE SECOND FORM's CARD OF 'norialaw14.MergeAgain'. -/
def mergeAgainUptoCard : Claim7 := { stood := { row := mergeAgainUptoRow, standIns := [], harness := (true, "46ee7095c3ef11159cae2048373a1abc9624ea1cb92a62653b35797fb401239c"), looks := true }, kinds := [], alts := [], laidByText := true, laidKinds := [.data, .data, .data, .sentinel, .sentinel, .sentinel], laidTests := true, laidLooks := .later }
def MergeAgainUptoCardSaid : Prop := Claim7.holds Tryd.pinned (.plain (OpenSpec.upto mergeAgainSpec)) mergeAgainUptoCard
end Rows
end Go.Proofs.YtkdpoiapoaoigaaDoor
