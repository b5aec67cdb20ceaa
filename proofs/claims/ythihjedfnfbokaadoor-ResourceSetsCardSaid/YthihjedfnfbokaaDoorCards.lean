/-
  DERIVED. GIVEN WITH THE SEED: THE CARDS: each row of YthihjedfnfbokaaDoorRows.lean that lists a variable, with what it lists TIED to the program's text (the seventh form; the later family's looks); each row that meets fmt, with fmt's text TOLD by the authors' own Lean function (tested against real Go, not proved from fmt's source: count such statements apart). THE CARD IS WHAT COUNTS. Prove the row's statement (the work); the ties are given (YthihjedfnfbokaaDoorTie.lean); close each card by the builder's one call (the guide's Derived/Test/ToyasCard.lean, 'card_holds'). Laid BY PROGRAM, IN A SANDBOX (cutbox-door.mjs). By AI agents, Wed Nov 11 2026. No macro, syntax, notation, axiom, sorry.
-/
import Derived.Test.YthihjedfnfbokaaDoorRows
import GoSem.ClaimSeven
namespace Go.Proofs.YthihjedfnfbokaaDoor
namespace Rows

/-- THE TIED CARD OF 'norialaw04.ResourceBack'. -/
def resourceBackCard : Claim7 := { stood := { row := resourceBackRow, standIns := [], harness := (true, "206699dc5272bc7466ce6cc0b6195db8b57eccbbd4eb49a27ad50908e3be4f49"), looks := true }, kinds := [], alts := [], laidByText := true, laidKinds := [.sentinel], laidTests := true, laidLooks := .later }
def ResourceBackCardSaid : Prop := Claim7.holds Tryd.pinned (.plain (OpenSpec.ofChange resourceBackSpec)) resourceBackCard

/-- THE TIED CARD OF 'norialaw04.ResourceSets'. -/
def resourceSetsCard : Claim7 := { stood := { row := resourceSetsRow, standIns := [], harness := (true, "206699dc5272bc7466ce6cc0b6195db8b57eccbbd4eb49a27ad50908e3be4f49"), looks := true }, kinds := [], alts := [], laidByText := true, laidKinds := [.sentinel], laidTests := true, laidLooks := .later }
def ResourceSetsCardSaid : Prop := Claim7.holds Tryd.pinned (.plain (OpenSpec.ofChange resourceSetsSpec)) resourceSetsCard

/-- THE TIED CARD OF 'norialaw04.ResourceFields'. -/
def resourceFieldsCard : Claim7 := { stood := { row := resourceFieldsRow, standIns := [], harness := (true, "206699dc5272bc7466ce6cc0b6195db8b57eccbbd4eb49a27ad50908e3be4f49"), looks := true }, kinds := [], alts := [], laidByText := true, laidKinds := [.sentinel], laidTests := true, laidLooks := .later }
def ResourceFieldsCardSaid : Prop := Claim7.holds Tryd.pinned (.plain (OpenSpec.ofChange resourceFieldsSpec)) resourceFieldsCard

/-- THE SECOND FORM's CARD OF 'norialaw04.ResourceBack'. -/
def resourceBackUptoCard : Claim7 := { stood := { row := resourceBackUptoRow, standIns := [], harness := (true, "206699dc5272bc7466ce6cc0b6195db8b57eccbbd4eb49a27ad50908e3be4f49"), looks := true }, kinds := [], alts := [], laidByText := true, laidKinds := [.sentinel], laidTests := true, laidLooks := .later }
def ResourceBackUptoCardSaid : Prop := Claim7.holds Tryd.pinned (.plain (OpenSpec.upto resourceBackSpec)) resourceBackUptoCard

/-- THE SECOND FORM's CARD OF 'norialaw04.ResourceSets'. -/
def resourceSetsUptoCard : Claim7 := { stood := { row := resourceSetsUptoRow, standIns := [], harness := (true, "206699dc5272bc7466ce6cc0b6195db8b57eccbbd4eb49a27ad50908e3be4f49"), looks := true }, kinds := [], alts := [], laidByText := true, laidKinds := [.sentinel], laidTests := true, laidLooks := .later }
def ResourceSetsUptoCardSaid : Prop := Claim7.holds Tryd.pinned (.plain (OpenSpec.upto resourceSetsSpec)) resourceSetsUptoCard

/-- THE SECOND FORM's CARD OF 'norialaw04.ResourceFields'. -/
def resourceFieldsUptoCard : Claim7 := { stood := { row := resourceFieldsUptoRow, standIns := [], harness := (true, "206699dc5272bc7466ce6cc0b6195db8b57eccbbd4eb49a27ad50908e3be4f49"), looks := true }, kinds := [], alts := [], laidByText := true, laidKinds := [.sentinel], laidTests := true, laidLooks := .later }
def ResourceFieldsUptoCardSaid : Prop := Claim7.holds Tryd.pinned (.plain (OpenSpec.upto resourceFieldsSpec)) resourceFieldsUptoCard
end Rows
end Go.Proofs.YthihjedfnfbokaaDoor
