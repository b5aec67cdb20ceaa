/-
  NARROWER THAN 'FOR EVERY INPUT', by the rows' own cells (each row's printed sentence says how): ResourceSorted: laid.
  DERIVED. THE GIVEN ROWS OF THIS SEAT. 1 by the template 'for every input the law returns true; each argument reads behind the call as it read before'; 0 by the template 'total and deterministic' (their statements: YtjolgalfjahceaaDoorTotals.lean).
  GIVEN WITH THE SEED: the statements are not yours to turn. If you find one false, say at which input.
  Laid BY PROGRAM, IN A SANDBOX (cutbox-rows.mjs): the forced cells as the released guide's own fill.sh prints them over the translation 16be79324cced65f… (all of the seat's roots in one cut). By AI agents, Wed Nov 11 2026. No macro, syntax, notation, axiom, sorry.
-/
import Derived.Test.YtjolgalfjahceaaDoorChecked
import GoSem.Claim
import GoSem.ClaimJoined
import GoSem.ClaimMapViews
import Derived.JoinedTies
import Derived.KernelRfl
namespace Go.Proofs.YtjolgalfjahceaaDoor
/- THE CELL 'sum', in the pinned program and in every row, IS THE sha256 OF THE DUMP (.gsa) THAT YtjolgalfjahceaaDoorProg.lean LOADS. Nothing in Lean hashes anything: it is a label: what it is worth is what the hold of that sum in a sandbox is worth. -/
noncomputable def Tryd.pinned : Pinned := { name := "ytjolgalfjahceaadoor", sum := "16be79324cced65f95a2f7466e1b7d49629dfc6c74e2f1dc6108be9a969c545f", checked := Tryd.checked }
namespace Rows
def none {H : Type} : Left H := { results := [], args := [] }

/- WHAT THE LISTED PACKAGE-LEVEL VARIABLES READ AS WHEN THE CALL BEGINS. Each datum BY PROGRAM (the guide's laid-datum.mjs) off the statement by which the dump's own 'gosem.cut.vars' lays the variable. In a bare row this is a premise. The card (YtjolgalfjahceaaDoorCards.lean) ties it to the program's text. -/
def laid_noria_wire_errForm {H : Type} : DataW H := .iface "*errors.errorString" (.ptr (.agg [.lit (.string [110, 111, 116, 32, 111, 102, 32, 116, 104, 101, 32, 102, 111, 114, 109])]))

/-- 'norialaw04.ResourceSorted': WHATEVER THE INPUT: true; the input reads as it did. -/
def resourceSortedSpec : ChangeSpec := { name := "resourceSorted", fn := fun _ => fun
  | [d] => { results := [.lit (.bool true)], args := [d] }
  | _ => none }
def resourceSortedRow : OpenClaim := { program := "ytjolgalfjahceaadoor", sum := "16be79324cced65f95a2f7466e1b7d49629dfc6c74e2f1dc6108be9a969c545f", func := "noria/norialaw04.ResourceSorted", spec := "resourceSorted", inPlace := ["internal/reflectlite.TypeOf", "slices.overlaps[noria/api.Resource]"], unfollowed := true, recurses := true, named := ["noria/wire.errForm"], plainKeys := false, apart := false, laid := [("noria/wire.errForm", laid_noria_wire_errForm)] }
def ResourceSortedSaid : Prop := resourceSortedRow.holds Tryd.pinned (OpenSpec.ofChange resourceSortedSpec)

/-- ITS FALSE NEIGHBOUR: 'it returns false'. Refute it at one input. -/
def resourceSortedWrong : ChangeSpec := { name := "resourceSorted", fn := fun _ => fun
  | [d] => { results := [.lit (.bool false)], args := [d] }
  | _ => none }
def ResourceSortedWrongFalsely : Prop := resourceSortedRow.holds Tryd.pinned (OpenSpec.ofChange resourceSortedWrong)

/- THE SECOND FORM. 'bulk': how many values and letters a reading holds, each counted each time it is reached (what is shared counts as often as it is met; a slice's spare places count too). A statement '..UptoSaid' is the law's where the arguments, and the package variables that the reading takes, are together of bulk at most 1048576: NARROWER than '..Said'. Prove '..Said' where nothing that the law and all that it calls make is longer than what came in: it says more and counts as full. Else prove '..UptoSaid'. A law counts once. -/
mutual
def uptoBulk {H : Type} : DataW H → Nat
  | .lit (.string bytes) => bytes.length + 1
  | .lit _ => 1
  | .nil => 1
  | .ptr d => uptoBulk d + 1
  | .slice elems spare => uptoBulkAll elems + uptoBulkAll spare + 1
  | .agg parts => uptoBulkAll parts + 1
  | .iface _ d => uptoBulk d + 1
  | .map entries => uptoBulkEntries entries + 1
  | .held _ => 1
def uptoBulkAll {H : Type} : List (DataW H) → Nat
  | [] => 0
  | d :: r => uptoBulk d + uptoBulkAll r
def uptoBulkEntries {H : Type} : List (Lit × DataW H) → Nat
  | [] => 0
  | x :: r => uptoBulkEntry x + uptoBulkEntries r
def uptoBulkEntry {H : Type} : Lit × DataW H → Nat
  | (.string bytes, d) => bytes.length + uptoBulk d + 1
  | (_, d) => uptoBulk d + 1
 end
def uptoSmall : (H : Type) → List (DataW H) → Bool := fun _ ds => decide (uptoBulkAll ds ≤ 1048576)
def OpenSpec.upto (s : _root_.Go.ChangeSpec) : _root_.Go.OpenSpec := { _root_.Go.OpenSpec.ofChange s with cond := some uptoSmall }

/-- 'norialaw04.ResourceSorted', WHERE WHAT IT READS IS OF BULK AT MOST 1048576: true; the input reads as it did. -/
def resourceSortedUptoRow : OpenClaim := { program := "ytjolgalfjahceaadoor", sum := "16be79324cced65f95a2f7466e1b7d49629dfc6c74e2f1dc6108be9a969c545f", func := "noria/norialaw04.ResourceSorted", spec := "resourceSorted", inPlace := ["internal/reflectlite.TypeOf", "slices.overlaps[noria/api.Resource]"], unfollowed := true, recurses := true, named := ["noria/wire.errForm"], plainKeys := false, apart := false, laid := [("noria/wire.errForm", laid_noria_wire_errForm)], narrowed := true }
def ResourceSortedUptoSaid : Prop := resourceSortedUptoRow.holds Tryd.pinned (OpenSpec.upto resourceSortedSpec)

end Rows
end Go.Proofs.YtjolgalfjahceaaDoor
