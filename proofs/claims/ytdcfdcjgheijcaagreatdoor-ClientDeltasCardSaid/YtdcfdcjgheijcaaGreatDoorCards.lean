/-
  DERIVED. GIVEN WITH THE SEED: THE CARDS: each row of YtdcfdcjgheijcaaGreatDoorRows.lean that lists a variable, with what it lists TIED to the program's text (the seventh form; the later family's looks); each row that meets fmt, with fmt's text TOLD by the authors' own Lean function (tested against real Go, not proved from fmt's source: count such statements apart). THE CARD IS WHAT COUNTS. Prove the row's statement (the work); the ties are given (YtdcfdcjgheijcaaGreatDoorTie.lean); close each card by the builder's one call (the guide's Derived/Test/ToyasCard.lean, 'card_holds'). Laid BY PROGRAM, IN A SANDBOX (cutbox-door.mjs). By AI agents, Wed Nov 11 2026. No macro, syntax, notation, axiom, sorry.
-/
import Derived.Test.YtdcfdcjgheijcaaGreatDoorRows
import GoSem.ClaimSeven
namespace Go.Proofs.YtdcfdcjgheijcaaGreatDoor
namespace Rows

/-- THE TIED CARD OF 'norialaw11.ServerComes'. -/
def serverComesCard : Claim7 := { stood := { row := serverComesRow, standIns := [], harness := (true, "dd9f81dd68ff2c9bf57ea8c0958d49355c15cfe08d8341fb85bec159f8d66dfb"), looks := true }, kinds := [], alts := [], laidByText := true, laidKinds := [.sentinel, .sentinel, .sentinel, .sentinel], laidTests := true, laidLooks := .later }
def ServerComesCardSaid : Prop := Claim7.holds Tryz.pinned (.plain (OpenSpec.ofChange serverComesSpec)) serverComesCard

/-- THE TIED CARD OF 'norialaw11.ServerWaits'. -/
def serverWaitsCard : Claim7 := { stood := { row := serverWaitsRow, standIns := [], harness := (true, "dd9f81dd68ff2c9bf57ea8c0958d49355c15cfe08d8341fb85bec159f8d66dfb"), looks := true }, kinds := [], alts := [], laidByText := true, laidKinds := [.sentinel, .sentinel, .sentinel, .sentinel], laidTests := true, laidLooks := .later }
def ServerWaitsCardSaid : Prop := Claim7.holds Tryz.pinned (.plain (OpenSpec.ofChange serverWaitsSpec)) serverWaitsCard

/-- THE TIED CARD OF 'norialaw11.ServerUnknown'. -/
def serverUnknownCard : Claim7 := { stood := { row := serverUnknownRow, standIns := [], harness := (true, "dd9f81dd68ff2c9bf57ea8c0958d49355c15cfe08d8341fb85bec159f8d66dfb"), looks := true }, kinds := [], alts := [], laidByText := true, laidKinds := [.sentinel, .sentinel, .sentinel, .sentinel], laidTests := true, laidLooks := .later }
def ServerUnknownCardSaid : Prop := Claim7.holds Tryz.pinned (.plain (OpenSpec.ofChange serverUnknownSpec)) serverUnknownCard

/-- THE TIED CARD OF 'norialaw11.ServerBatches'. -/
def serverBatchesCard : Claim7 := { stood := { row := serverBatchesRow, standIns := [], harness := (true, "dd9f81dd68ff2c9bf57ea8c0958d49355c15cfe08d8341fb85bec159f8d66dfb"), looks := true }, kinds := [], alts := [], laidByText := true, laidKinds := [.sentinel, .sentinel, .sentinel, .sentinel], laidTests := true, laidLooks := .later }
def ServerBatchesCardSaid : Prop := Claim7.holds Tryz.pinned (.plain (OpenSpec.ofChange serverBatchesSpec)) serverBatchesCard

/-- THE TIED CARD OF 'norialaw11.ServerHave'. -/
def serverHaveCard : Claim7 := { stood := { row := serverHaveRow, standIns := [], harness := (true, "dd9f81dd68ff2c9bf57ea8c0958d49355c15cfe08d8341fb85bec159f8d66dfb"), looks := true }, kinds := [], alts := [], laidByText := true, laidKinds := [.sentinel, .sentinel, .sentinel, .sentinel], laidTests := true, laidLooks := .later }
def ServerHaveCardSaid : Prop := Claim7.holds Tryz.pinned (.plain (OpenSpec.ofChange serverHaveSpec)) serverHaveCard

/-- THE TIED CARD OF 'norialaw10.ClientDeltas'. -/
def clientDeltasCard : Claim7 := { stood := { row := clientDeltasRow, standIns := [], harness := (true, "dd9f81dd68ff2c9bf57ea8c0958d49355c15cfe08d8341fb85bec159f8d66dfb"), looks := true }, kinds := [], alts := [], laidByText := true, laidKinds := [.handle, .sentinel], laidTests := true, laidLooks := .later }
def ClientDeltasCardSaid : Prop := Claim7.holds Tryz.pinned (.plain (OpenSpec.ofChange clientDeltasSpec)) clientDeltasCard

/-- THE TIED CARD OF 'norialaw10.ClientHaves'. -/
def clientHavesCard : Claim7 := { stood := { row := clientHavesRow, standIns := [], harness := (true, "dd9f81dd68ff2c9bf57ea8c0958d49355c15cfe08d8341fb85bec159f8d66dfb"), looks := true }, kinds := [], alts := [], laidByText := true, laidKinds := [.handle, .sentinel], laidTests := true, laidLooks := .later }
def ClientHavesCardSaid : Prop := Claim7.holds Tryz.pinned (.plain (OpenSpec.ofChange clientHavesSpec)) clientHavesCard

/-- THE TIED CARD OF 'norialaw10.ClientFull'. -/
def clientFullCard : Claim7 := { stood := { row := clientFullRow, standIns := [], harness := (true, "dd9f81dd68ff2c9bf57ea8c0958d49355c15cfe08d8341fb85bec159f8d66dfb"), looks := true }, kinds := [], alts := [], laidByText := true, laidKinds := [.handle, .sentinel], laidTests := true, laidLooks := .later }
def ClientFullCardSaid : Prop := Claim7.holds Tryz.pinned (.plain (OpenSpec.ofChange clientFullSpec)) clientFullCard

/-- THE SECOND FORM's CARD OF 'norialaw11.ServerComes'. -/
def serverComesUptoCard : Claim7 := { stood := { row := serverComesUptoRow, standIns := [], harness := (true, "dd9f81dd68ff2c9bf57ea8c0958d49355c15cfe08d8341fb85bec159f8d66dfb"), looks := true }, kinds := [], alts := [], laidByText := true, laidKinds := [.sentinel, .sentinel, .sentinel, .sentinel], laidTests := true, laidLooks := .later }
def ServerComesUptoCardSaid : Prop := Claim7.holds Tryz.pinned (.plain (OpenSpec.upto serverComesSpec)) serverComesUptoCard

/-- THE SECOND FORM's CARD OF 'norialaw11.ServerWaits'. -/
def serverWaitsUptoCard : Claim7 := { stood := { row := serverWaitsUptoRow, standIns := [], harness := (true, "dd9f81dd68ff2c9bf57ea8c0958d49355c15cfe08d8341fb85bec159f8d66dfb"), looks := true }, kinds := [], alts := [], laidByText := true, laidKinds := [.sentinel, .sentinel, .sentinel, .sentinel], laidTests := true, laidLooks := .later }
def ServerWaitsUptoCardSaid : Prop := Claim7.holds Tryz.pinned (.plain (OpenSpec.upto serverWaitsSpec)) serverWaitsUptoCard

/-- THE SECOND FORM's CARD OF 'norialaw11.ServerUnknown'. -/
def serverUnknownUptoCard : Claim7 := { stood := { row := serverUnknownUptoRow, standIns := [], harness := (true, "dd9f81dd68ff2c9bf57ea8c0958d49355c15cfe08d8341fb85bec159f8d66dfb"), looks := true }, kinds := [], alts := [], laidByText := true, laidKinds := [.sentinel, .sentinel, .sentinel, .sentinel], laidTests := true, laidLooks := .later }
def ServerUnknownUptoCardSaid : Prop := Claim7.holds Tryz.pinned (.plain (OpenSpec.upto serverUnknownSpec)) serverUnknownUptoCard

/-- THE SECOND FORM's CARD OF 'norialaw11.ServerBatches'. -/
def serverBatchesUptoCard : Claim7 := { stood := { row := serverBatchesUptoRow, standIns := [], harness := (true, "dd9f81dd68ff2c9bf57ea8c0958d49355c15cfe08d8341fb85bec159f8d66dfb"), looks := true }, kinds := [], alts := [], laidByText := true, laidKinds := [.sentinel, .sentinel, .sentinel, .sentinel], laidTests := true, laidLooks := .later }
def ServerBatchesUptoCardSaid : Prop := Claim7.holds Tryz.pinned (.plain (OpenSpec.upto serverBatchesSpec)) serverBatchesUptoCard

/-- THE SECOND FORM's CARD OF 'norialaw11.ServerHave'. -/
def serverHaveUptoCard : Claim7 := { stood := { row := serverHaveUptoRow, standIns := [], harness := (true, "dd9f81dd68ff2c9bf57ea8c0958d49355c15cfe08d8341fb85bec159f8d66dfb"), looks := true }, kinds := [], alts := [], laidByText := true, laidKinds := [.sentinel, .sentinel, .sentinel, .sentinel], laidTests := true, laidLooks := .later }
def ServerHaveUptoCardSaid : Prop := Claim7.holds Tryz.pinned (.plain (OpenSpec.upto serverHaveSpec)) serverHaveUptoCard

/-- THE SECOND FORM's CARD OF 'norialaw10.ClientDeltas'. -/
def clientDeltasUptoCard : Claim7 := { stood := { row := clientDeltasUptoRow, standIns := [], harness := (true, "dd9f81dd68ff2c9bf57ea8c0958d49355c15cfe08d8341fb85bec159f8d66dfb"), looks := true }, kinds := [], alts := [], laidByText := true, laidKinds := [.handle, .sentinel], laidTests := true, laidLooks := .later }
def ClientDeltasUptoCardSaid : Prop := Claim7.holds Tryz.pinned (.plain (OpenSpec.upto clientDeltasSpec)) clientDeltasUptoCard

/-- THE SECOND FORM's CARD OF 'norialaw10.ClientHaves'. -/
def clientHavesUptoCard : Claim7 := { stood := { row := clientHavesUptoRow, standIns := [], harness := (true, "dd9f81dd68ff2c9bf57ea8c0958d49355c15cfe08d8341fb85bec159f8d66dfb"), looks := true }, kinds := [], alts := [], laidByText := true, laidKinds := [.handle, .sentinel], laidTests := true, laidLooks := .later }
def ClientHavesUptoCardSaid : Prop := Claim7.holds Tryz.pinned (.plain (OpenSpec.upto clientHavesSpec)) clientHavesUptoCard

/-- THE SECOND FORM's CARD OF 'norialaw10.ClientFull'. -/
def clientFullUptoCard : Claim7 := { stood := { row := clientFullUptoRow, standIns := [], harness := (true, "dd9f81dd68ff2c9bf57ea8c0958d49355c15cfe08d8341fb85bec159f8d66dfb"), looks := true }, kinds := [], alts := [], laidByText := true, laidKinds := [.handle, .sentinel], laidTests := true, laidLooks := .later }
def ClientFullUptoCardSaid : Prop := Claim7.holds Tryz.pinned (.plain (OpenSpec.upto clientFullSpec)) clientFullUptoCard
end Rows
end Go.Proofs.YtdcfdcjgheijcaaGreatDoor
