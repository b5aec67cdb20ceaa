/-
  DERIVED. GIVEN WITH THE SEED: THE CARDS: each row of YtngceccpebdgmaaGreatDoorRows.lean that lists a variable, with what it lists TIED to the program's text (the seventh form; the later family's looks); each row that meets fmt, with fmt's text TOLD by the authors' own Lean function (tested against real Go, not proved from fmt's source: count such statements apart). THE CARD IS WHAT COUNTS. Prove the row's statement (the work); the ties are given (YtngceccpebdgmaaGreatDoorTie.lean); close each card by the builder's one call (the guide's Derived/Test/ToyasCard.lean, 'card_holds'). Laid BY PROGRAM, IN A SANDBOX (cutbox-door.mjs). By AI agents, Wed Nov 11 2026. No macro, syntax, notation, axiom, sorry.
-/
import Derived.Test.YtngceccpebdgmaaGreatDoorRows
import GoSem.ClaimSeven
namespace Go.Proofs.YtngceccpebdgmaaGreatDoor
namespace Rows

/-- THE TIED CARD OF 'norialaw03.CheckKeys'. -/
def checkKeysCard : Claim7 := { stood := { row := checkKeysRow, standIns := [], harness := (true, "4ccf9e981d8c95b9314ec568cb569665d7691a8b9af7888c94ac922bdf062560"), looks := true }, kinds := [], alts := [], laidByText := true, laidKinds := [.data, .data, .data, .handle, .sentinel], laidTests := true, laidLooks := .later }
def CheckKeysCardSaid : Prop := Claim7.holds Tryz.pinned (.plain (OpenSpec.ofChange checkKeysSpec)) checkKeysCard

/-- THE TIED CARD OF 'norialaw03.CheckBodies'. -/
def checkBodiesCard : Claim7 := { stood := { row := checkBodiesRow, standIns := [], harness := (true, "4ccf9e981d8c95b9314ec568cb569665d7691a8b9af7888c94ac922bdf062560"), looks := true }, kinds := [], alts := [], laidByText := true, laidKinds := [.data, .data, .data, .handle, .sentinel], laidTests := true, laidLooks := .later }
def CheckBodiesCardSaid : Prop := Claim7.holds Tryz.pinned (.plain (OpenSpec.ofChange checkBodiesSpec)) checkBodiesCard

/-- THE TIED CARD OF 'norialaw03.CheckRight'. -/
def checkRightCard : Claim7 := { stood := { row := checkRightRow, standIns := [], harness := (true, "4ccf9e981d8c95b9314ec568cb569665d7691a8b9af7888c94ac922bdf062560"), looks := true }, kinds := [], alts := [], laidByText := true, laidKinds := [.data, .data, .data, .handle, .sentinel], laidTests := true, laidLooks := .later }
def CheckRightCardSaid : Prop := Claim7.holds Tryz.pinned (.plain (OpenSpec.ofChange checkRightSpec)) checkRightCard

/-- THE TIED CARD OF 'norialaw03.CheckWords'. -/
def checkWordsCard : Claim7 := { stood := { row := checkWordsRow, standIns := [], harness := (true, "4ccf9e981d8c95b9314ec568cb569665d7691a8b9af7888c94ac922bdf062560"), looks := true }, kinds := [], alts := [], laidByText := true, laidKinds := [.data, .data, .data, .handle, .sentinel], laidTests := true, laidLooks := .later }
def CheckWordsCardSaid : Prop := Claim7.holds Tryz.pinned (.plain (OpenSpec.ofChange checkWordsSpec)) checkWordsCard

/-- THE TIED CARD OF 'norialaw03.CheckOrder'. -/
def checkOrderCard : Claim7 := { stood := { row := checkOrderRow, standIns := [], harness := (true, "4ccf9e981d8c95b9314ec568cb569665d7691a8b9af7888c94ac922bdf062560"), looks := true }, kinds := [], alts := [], laidByText := true, laidKinds := [.data, .data, .data, .handle, .sentinel], laidTests := true, laidLooks := .later }
def CheckOrderCardSaid : Prop := Claim7.holds Tryz.pinned (.plain (OpenSpec.ofChange checkOrderSpec)) checkOrderCard

/-- THE TIED CARD OF 'norialaw03.CheckNames'. -/
def checkNamesCard : Claim7 := { stood := { row := checkNamesRow, standIns := [], harness := (true, "4ccf9e981d8c95b9314ec568cb569665d7691a8b9af7888c94ac922bdf062560"), looks := true }, kinds := [], alts := [], laidByText := true, laidKinds := [.data, .data, .data, .handle, .sentinel], laidTests := true, laidLooks := .later }
def CheckNamesCardSaid : Prop := Claim7.holds Tryz.pinned (.plain (OpenSpec.ofChange checkNamesSpec)) checkNamesCard

/-- THE TIED CARD OF 'norialaw03.CheckResources'. -/
def checkResourcesCard : Claim7 := { stood := { row := checkResourcesRow, standIns := [], harness := (true, "4ccf9e981d8c95b9314ec568cb569665d7691a8b9af7888c94ac922bdf062560"), looks := true }, kinds := [], alts := [], laidByText := true, laidKinds := [.data, .data, .data, .handle, .sentinel], laidTests := true, laidLooks := .later }
def CheckResourcesCardSaid : Prop := Claim7.holds Tryz.pinned (.plain (OpenSpec.ofChange checkResourcesSpec)) checkResourcesCard

/-- THE SECOND FORM's CARD OF 'norialaw03.CheckKeys'. -/
def checkKeysUptoCard : Claim7 := { stood := { row := checkKeysUptoRow, standIns := [], harness := (true, "4ccf9e981d8c95b9314ec568cb569665d7691a8b9af7888c94ac922bdf062560"), looks := true }, kinds := [], alts := [], laidByText := true, laidKinds := [.data, .data, .data, .handle, .sentinel], laidTests := true, laidLooks := .later }
def CheckKeysUptoCardSaid : Prop := Claim7.holds Tryz.pinned (.plain (OpenSpec.upto checkKeysSpec)) checkKeysUptoCard

/-- THE SECOND FORM's CARD OF 'norialaw03.CheckBodies'. -/
def checkBodiesUptoCard : Claim7 := { stood := { row := checkBodiesUptoRow, standIns := [], harness := (true, "4ccf9e981d8c95b9314ec568cb569665d7691a8b9af7888c94ac922bdf062560"), looks := true }, kinds := [], alts := [], laidByText := true, laidKinds := [.data, .data, .data, .handle, .sentinel], laidTests := true, laidLooks := .later }
def CheckBodiesUptoCardSaid : Prop := Claim7.holds Tryz.pinned (.plain (OpenSpec.upto checkBodiesSpec)) checkBodiesUptoCard

/-- THE SECOND FORM's CARD OF 'norialaw03.CheckRight'. -/
def checkRightUptoCard : Claim7 := { stood := { row := checkRightUptoRow, standIns := [], harness := (true, "4ccf9e981d8c95b9314ec568cb569665d7691a8b9af7888c94ac922bdf062560"), looks := true }, kinds := [], alts := [], laidByText := true, laidKinds := [.data, .data, .data, .handle, .sentinel], laidTests := true, laidLooks := .later }
def CheckRightUptoCardSaid : Prop := Claim7.holds Tryz.pinned (.plain (OpenSpec.upto checkRightSpec)) checkRightUptoCard

/-- THE SECOND FORM's CARD OF 'norialaw03.CheckWords'. -/
def checkWordsUptoCard : Claim7 := { stood := { row := checkWordsUptoRow, standIns := [], harness := (true, "4ccf9e981d8c95b9314ec568cb569665d7691a8b9af7888c94ac922bdf062560"), looks := true }, kinds := [], alts := [], laidByText := true, laidKinds := [.data, .data, .data, .handle, .sentinel], laidTests := true, laidLooks := .later }
def CheckWordsUptoCardSaid : Prop := Claim7.holds Tryz.pinned (.plain (OpenSpec.upto checkWordsSpec)) checkWordsUptoCard

/-- THE SECOND FORM's CARD OF 'norialaw03.CheckOrder'. -/
def checkOrderUptoCard : Claim7 := { stood := { row := checkOrderUptoRow, standIns := [], harness := (true, "4ccf9e981d8c95b9314ec568cb569665d7691a8b9af7888c94ac922bdf062560"), looks := true }, kinds := [], alts := [], laidByText := true, laidKinds := [.data, .data, .data, .handle, .sentinel], laidTests := true, laidLooks := .later }
def CheckOrderUptoCardSaid : Prop := Claim7.holds Tryz.pinned (.plain (OpenSpec.upto checkOrderSpec)) checkOrderUptoCard

/-- THE SECOND FORM's CARD OF 'norialaw03.CheckNames'. -/
def checkNamesUptoCard : Claim7 := { stood := { row := checkNamesUptoRow, standIns := [], harness := (true, "4ccf9e981d8c95b9314ec568cb569665d7691a8b9af7888c94ac922bdf062560"), looks := true }, kinds := [], alts := [], laidByText := true, laidKinds := [.data, .data, .data, .handle, .sentinel], laidTests := true, laidLooks := .later }
def CheckNamesUptoCardSaid : Prop := Claim7.holds Tryz.pinned (.plain (OpenSpec.upto checkNamesSpec)) checkNamesUptoCard

/-- THE SECOND FORM's CARD OF 'norialaw03.CheckResources'. -/
def checkResourcesUptoCard : Claim7 := { stood := { row := checkResourcesUptoRow, standIns := [], harness := (true, "4ccf9e981d8c95b9314ec568cb569665d7691a8b9af7888c94ac922bdf062560"), looks := true }, kinds := [], alts := [], laidByText := true, laidKinds := [.data, .data, .data, .handle, .sentinel], laidTests := true, laidLooks := .later }
def CheckResourcesUptoCardSaid : Prop := Claim7.holds Tryz.pinned (.plain (OpenSpec.upto checkResourcesSpec)) checkResourcesUptoCard
end Rows
end Go.Proofs.YtngceccpebdgmaaGreatDoor
