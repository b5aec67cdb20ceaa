/-
  DERIVED. GIVEN WITH THE SEED: THE CARDS: each row of YtkfbhiggnnjoiaaDoorRows.lean that lists a variable, with what it lists TIED to the program's text (the seventh form; the later family's looks); each row that meets fmt, with fmt's text TOLD by the authors' own Lean function (tested against real Go, not proved from fmt's source: count such statements apart). THE CARD IS WHAT COUNTS. Prove the row's statement (the work); the ties are given (YtkfbhiggnnjoiaaDoorTie.lean); close each card by the builder's one call (the guide's Derived/Test/ToyasCard.lean, 'card_holds'). Laid BY PROGRAM, IN A SANDBOX (cutbox-door.mjs). By AI agents, Wed Nov 11 2026. No macro, syntax, notation, axiom, sorry.
-/
import Derived.Test.YtkfbhiggnnjoiaaDoorRows
import GoSem.ClaimSeven
namespace Go.Proofs.YtkfbhiggnnjoiaaDoor
namespace Rows

/-- THE TIED CARD OF 'norialaw08.LinkPlays'. -/
def linkPlaysCard : Claim7 := { stood := { row := linkPlaysRow, standIns := [], harness := (true, "5b8c1a0665ec346c5dd7acd7666e13d609b8c77abb1c8ec484f06c0ab32d2621"), looks := true }, kinds := [], alts := [], laidByText := true, laidKinds := [.handle, .sentinel], laidTests := true, laidLooks := .later }
def LinkPlaysCardSaid : Prop := Claim7.holds Tryd.pinned (.plain (OpenSpec.ofChange linkPlaysSpec)) linkPlaysCard

/-- THE TIED CARD OF 'norialaw08.LinkOrders'. -/
def linkOrdersCard : Claim7 := { stood := { row := linkOrdersRow, standIns := [], harness := (true, "5b8c1a0665ec346c5dd7acd7666e13d609b8c77abb1c8ec484f06c0ab32d2621"), looks := true }, kinds := [], alts := [], laidByText := true, laidKinds := [.handle, .sentinel], laidTests := true, laidLooks := .later }
def LinkOrdersCardSaid : Prop := Claim7.holds Tryd.pinned (.plain (OpenSpec.ofChange linkOrdersSpec)) linkOrdersCard

/-- THE TIED CARD OF 'norialaw08.LinkResets'. -/
def linkResetsCard : Claim7 := { stood := { row := linkResetsRow, standIns := [], harness := (true, "5b8c1a0665ec346c5dd7acd7666e13d609b8c77abb1c8ec484f06c0ab32d2621"), looks := true }, kinds := [], alts := [], laidByText := true, laidKinds := [.handle, .sentinel], laidTests := true, laidLooks := .later }
def LinkResetsCardSaid : Prop := Claim7.holds Tryd.pinned (.plain (OpenSpec.ofChange linkResetsSpec)) linkResetsCard

/-- THE TIED CARD OF 'norialaw08.LinkQuiet'. -/
def linkQuietCard : Claim7 := { stood := { row := linkQuietRow, standIns := [], harness := (true, "5b8c1a0665ec346c5dd7acd7666e13d609b8c77abb1c8ec484f06c0ab32d2621"), looks := true }, kinds := [], alts := [], laidByText := true, laidKinds := [.handle, .sentinel], laidTests := true, laidLooks := .later }
def LinkQuietCardSaid : Prop := Claim7.holds Tryd.pinned (.plain (OpenSpec.ofChange linkQuietSpec)) linkQuietCard

/-- THE TIED CARD OF 'norialaw08.LinkFull'. -/
def linkFullCard : Claim7 := { stood := { row := linkFullRow, standIns := [], harness := (true, "5b8c1a0665ec346c5dd7acd7666e13d609b8c77abb1c8ec484f06c0ab32d2621"), looks := true }, kinds := [], alts := [], laidByText := true, laidKinds := [.handle, .sentinel], laidTests := true, laidLooks := .later }
def LinkFullCardSaid : Prop := Claim7.holds Tryd.pinned (.plain (OpenSpec.ofChange linkFullSpec)) linkFullCard

/-- THE TIED CARD OF 'norialaw08.LinkBytes'. -/
def linkBytesCard : Claim7 := { stood := { row := linkBytesRow, standIns := [], harness := (true, "5b8c1a0665ec346c5dd7acd7666e13d609b8c77abb1c8ec484f06c0ab32d2621"), looks := true }, kinds := [], alts := [], laidByText := true, laidKinds := [.handle, .sentinel], laidTests := true, laidLooks := .later }
def LinkBytesCardSaid : Prop := Claim7.holds Tryd.pinned (.plain (OpenSpec.ofChange linkBytesSpec)) linkBytesCard

/-- THE TIED CARD OF 'norialaw08.LinkEpochs'. -/
def linkEpochsCard : Claim7 := { stood := { row := linkEpochsRow, standIns := [], harness := (true, "5b8c1a0665ec346c5dd7acd7666e13d609b8c77abb1c8ec484f06c0ab32d2621"), looks := true }, kinds := [], alts := [], laidByText := true, laidKinds := [.handle, .sentinel], laidTests := true, laidLooks := .later }
def LinkEpochsCardSaid : Prop := Claim7.holds Tryd.pinned (.plain (OpenSpec.ofChange linkEpochsSpec)) linkEpochsCard

/-- THE SECOND FORM's CARD OF 'norialaw08.LinkPlays'. -/
def linkPlaysUptoCard : Claim7 := { stood := { row := linkPlaysUptoRow, standIns := [], harness := (true, "5b8c1a0665ec346c5dd7acd7666e13d609b8c77abb1c8ec484f06c0ab32d2621"), looks := true }, kinds := [], alts := [], laidByText := true, laidKinds := [.handle, .sentinel], laidTests := true, laidLooks := .later }
def LinkPlaysUptoCardSaid : Prop := Claim7.holds Tryd.pinned (.plain (OpenSpec.upto linkPlaysSpec)) linkPlaysUptoCard

/-- THE SECOND FORM's CARD OF 'norialaw08.LinkOrders'. -/
def linkOrdersUptoCard : Claim7 := { stood := { row := linkOrdersUptoRow, standIns := [], harness := (true, "5b8c1a0665ec346c5dd7acd7666e13d609b8c77abb1c8ec484f06c0ab32d2621"), looks := true }, kinds := [], alts := [], laidByText := true, laidKinds := [.handle, .sentinel], laidTests := true, laidLooks := .later }
def LinkOrdersUptoCardSaid : Prop := Claim7.holds Tryd.pinned (.plain (OpenSpec.upto linkOrdersSpec)) linkOrdersUptoCard

/-- THE SECOND FORM's CARD OF 'norialaw08.LinkResets'. -/
def linkResetsUptoCard : Claim7 := { stood := { row := linkResetsUptoRow, standIns := [], harness := (true, "5b8c1a0665ec346c5dd7acd7666e13d609b8c77abb1c8ec484f06c0ab32d2621"), looks := true }, kinds := [], alts := [], laidByText := true, laidKinds := [.handle, .sentinel], laidTests := true, laidLooks := .later }
def LinkResetsUptoCardSaid : Prop := Claim7.holds Tryd.pinned (.plain (OpenSpec.upto linkResetsSpec)) linkResetsUptoCard

/-- THE SECOND FORM's CARD OF 'norialaw08.LinkQuiet'. -/
def linkQuietUptoCard : Claim7 := { stood := { row := linkQuietUptoRow, standIns := [], harness := (true, "5b8c1a0665ec346c5dd7acd7666e13d609b8c77abb1c8ec484f06c0ab32d2621"), looks := true }, kinds := [], alts := [], laidByText := true, laidKinds := [.handle, .sentinel], laidTests := true, laidLooks := .later }
def LinkQuietUptoCardSaid : Prop := Claim7.holds Tryd.pinned (.plain (OpenSpec.upto linkQuietSpec)) linkQuietUptoCard

/-- THE SECOND FORM's CARD OF 'norialaw08.LinkFull'. -/
def linkFullUptoCard : Claim7 := { stood := { row := linkFullUptoRow, standIns := [], harness := (true, "5b8c1a0665ec346c5dd7acd7666e13d609b8c77abb1c8ec484f06c0ab32d2621"), looks := true }, kinds := [], alts := [], laidByText := true, laidKinds := [.handle, .sentinel], laidTests := true, laidLooks := .later }
def LinkFullUptoCardSaid : Prop := Claim7.holds Tryd.pinned (.plain (OpenSpec.upto linkFullSpec)) linkFullUptoCard

/-- THE SECOND FORM's CARD OF 'norialaw08.LinkBytes'. -/
def linkBytesUptoCard : Claim7 := { stood := { row := linkBytesUptoRow, standIns := [], harness := (true, "5b8c1a0665ec346c5dd7acd7666e13d609b8c77abb1c8ec484f06c0ab32d2621"), looks := true }, kinds := [], alts := [], laidByText := true, laidKinds := [.handle, .sentinel], laidTests := true, laidLooks := .later }
def LinkBytesUptoCardSaid : Prop := Claim7.holds Tryd.pinned (.plain (OpenSpec.upto linkBytesSpec)) linkBytesUptoCard

/-- THE SECOND FORM's CARD OF 'norialaw08.LinkEpochs'. -/
def linkEpochsUptoCard : Claim7 := { stood := { row := linkEpochsUptoRow, standIns := [], harness := (true, "5b8c1a0665ec346c5dd7acd7666e13d609b8c77abb1c8ec484f06c0ab32d2621"), looks := true }, kinds := [], alts := [], laidByText := true, laidKinds := [.handle, .sentinel], laidTests := true, laidLooks := .later }
def LinkEpochsUptoCardSaid : Prop := Claim7.holds Tryd.pinned (.plain (OpenSpec.upto linkEpochsSpec)) linkEpochsUptoCard
end Rows
end Go.Proofs.YtkfbhiggnnjoiaaDoor
