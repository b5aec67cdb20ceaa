/-
  NARROWER THAN 'FOR EVERY INPUT', by the rows' own cells (each row's printed sentence says how): MessageStatus: laid · MessagePings: laid.
  DERIVED. THE GIVEN ROWS OF THIS SEAT. 2 by the template 'for every input the law returns true; each argument reads behind the call as it read before'; 0 by the template 'total and deterministic' (their statements: YtbflbgnafdbngaaDoorTotals.lean).
  GIVEN WITH THE SEED: the statements are not yours to turn. If you find one false, say at which input.
  Laid BY PROGRAM, IN A SANDBOX (cutbox-rows.mjs): the forced cells as the released guide's own fill.sh prints them over the translation f8ecbf5971f8ea21… (all of the seat's roots in one cut). By AI agents, Wed Nov 11 2026. No macro, syntax, notation, axiom, sorry.
-/
import Derived.Test.YtbflbgnafdbngaaDoorChecked
import GoSem.Claim
import GoSem.ClaimJoined
import GoSem.ClaimMapViews
import Derived.JoinedTies
import Derived.KernelRfl
namespace Go.Proofs.YtbflbgnafdbngaaDoor
/- THE CELL 'sum', in the pinned program and in every row, IS THE sha256 OF THE DUMP (.gsa) THAT YtbflbgnafdbngaaDoorProg.lean LOADS. Nothing in Lean hashes anything: it is a label: what it is worth is what the hold of that sum in a sandbox is worth. -/
noncomputable def Tryd.pinned : Pinned := { name := "ytbflbgnafdbngaadoor", sum := "f8ecbf5971f8ea21a3c73bd0d4705bb3941f448f841265d0baef36272b69a01a", checked := Tryd.checked }
namespace Rows
def none {H : Type} : Left H := { results := [], args := [] }

/- WHAT THE LISTED PACKAGE-LEVEL VARIABLES READ AS WHEN THE CALL BEGINS. Each datum BY PROGRAM (the guide's laid-datum.mjs) off the statement by which the dump's own 'gosem.cut.vars' lays the variable. In a bare row this is a premise. The card (YtbflbgnafdbngaaDoorCards.lean) ties it to the program's text. -/
def laid_noria_wire_errForm {H : Type} : DataW H := .iface "*errors.errorString" (.ptr (.agg [.lit (.string [110, 111, 116, 32, 111, 102, 32, 116, 104, 101, 32, 102, 111, 114, 109])]))
def laid_noria_message_errNone {H : Type} : DataW H := .iface "*errors.errorString" (.ptr (.agg [.lit (.string [110, 111, 32, 109, 101, 115, 115, 97, 103, 101])]))

/-- 'norialaw05.MessageStatus': WHATEVER THE INPUT: true; the input reads as it did. -/
def messageStatusSpec : ChangeSpec := { name := "messageStatus", fn := fun _ => fun
  | [d1, d2, d3, d4] => { results := [.lit (.bool true)], args := [d1, d2, d3, d4] }
  | _ => none }
def messageStatusRow : OpenClaim := { program := "ytbflbgnafdbngaadoor", sum := "f8ecbf5971f8ea21a3c73bd0d4705bb3941f448f841265d0baef36272b69a01a", func := "noria/norialaw05.MessageStatus", spec := "messageStatus", inPlace := ["internal/reflectlite.TypeOf", "internal/abi.NoEscape"], unfollowed := true, recurses := true, named := ["noria/message.errNone", "noria/wire.errForm"], apart := false, laid := [("noria/wire.errForm", laid_noria_wire_errForm), ("noria/message.errNone", laid_noria_message_errNone)] }
def MessageStatusSaid : Prop := messageStatusRow.holds Tryd.pinned (OpenSpec.ofChange messageStatusSpec)

/-- ITS FALSE NEIGHBOUR: 'it returns false'. Refute it at one input. -/
def messageStatusWrong : ChangeSpec := { name := "messageStatus", fn := fun _ => fun
  | [d1, d2, d3, d4] => { results := [.lit (.bool false)], args := [d1, d2, d3, d4] }
  | _ => none }
def MessageStatusWrongFalsely : Prop := messageStatusRow.holds Tryd.pinned (OpenSpec.ofChange messageStatusWrong)

/-- 'norialaw05.MessagePings': WHATEVER THE INPUT: true; the input reads as it did. -/
def messagePingsSpec : ChangeSpec := { name := "messagePings", fn := fun _ => fun
  | [d1, d2] => { results := [.lit (.bool true)], args := [d1, d2] }
  | _ => none }
def messagePingsRow : OpenClaim := { program := "ytbflbgnafdbngaadoor", sum := "f8ecbf5971f8ea21a3c73bd0d4705bb3941f448f841265d0baef36272b69a01a", func := "noria/norialaw05.MessagePings", spec := "messagePings", inPlace := ["internal/reflectlite.TypeOf", "internal/abi.NoEscape"], unfollowed := true, recurses := true, named := ["noria/message.errNone", "noria/wire.errForm"], apart := false, laid := [("noria/wire.errForm", laid_noria_wire_errForm), ("noria/message.errNone", laid_noria_message_errNone)] }
def MessagePingsSaid : Prop := messagePingsRow.holds Tryd.pinned (OpenSpec.ofChange messagePingsSpec)

/-- ITS FALSE NEIGHBOUR: 'it returns false'. Refute it at one input. -/
def messagePingsWrong : ChangeSpec := { name := "messagePings", fn := fun _ => fun
  | [d1, d2] => { results := [.lit (.bool false)], args := [d1, d2] }
  | _ => none }
def MessagePingsWrongFalsely : Prop := messagePingsRow.holds Tryd.pinned (OpenSpec.ofChange messagePingsWrong)

/- THE SECOND FORM. 'bulk': how many values and letters a reading holds, each counted each time it is reached (what is shared counts as often as it is met; a slice's spare places count too). A statement '..UptoSaid' is the law's where the arguments, and the package variables that the reading takes, are together of bulk at most 1048576: NARROWER than '..Said'. Prove '..Said' where nothing that the law and all that it calls make is longer than what came in: it says more and counts as full. Else prove '..UptoSaid'. A law counts once. -/
mutual
def uptoBulk {H : Type} : DataW H → Nat
  | .lit (.string bytes) => bytes.length + 1
  | .lit _ => 1
  | .nil => 1
  | .ptr d => uptoBulk d + 1
  | .slice elems spare => uptoBulkAll elems + uptoBulkAll spare + 1
  | .agg parts => uptoBulkAll parts + 1
  | .iface _ d => uptoBulk d + 1
  | .map entries => uptoBulkEntries entries + 1
  | .held _ => 1
def uptoBulkAll {H : Type} : List (DataW H) → Nat
  | [] => 0
  | d :: r => uptoBulk d + uptoBulkAll r
def uptoBulkEntries {H : Type} : List (Lit × DataW H) → Nat
  | [] => 0
  | x :: r => uptoBulkEntry x + uptoBulkEntries r
def uptoBulkEntry {H : Type} : Lit × DataW H → Nat
  | (.string bytes, d) => bytes.length + uptoBulk d + 1
  | (_, d) => uptoBulk d + 1
 end
def uptoSmall : (H : Type) → List (DataW H) → Bool := fun _ ds => decide (uptoBulkAll ds ≤ 1048576)
def OpenSpec.upto (s : _root_.Go.ChangeSpec) : _root_.Go.OpenSpec := { _root_.Go.OpenSpec.ofChange s with cond := some uptoSmall }

/-- 'norialaw05.MessageStatus', WHERE WHAT IT READS IS OF BULK AT MOST 1048576: true; the input reads as it did. -/
def messageStatusUptoRow : OpenClaim := { program := "ytbflbgnafdbngaadoor", sum := "f8ecbf5971f8ea21a3c73bd0d4705bb3941f448f841265d0baef36272b69a01a", func := "noria/norialaw05.MessageStatus", spec := "messageStatus", inPlace := ["internal/reflectlite.TypeOf", "internal/abi.NoEscape"], unfollowed := true, recurses := true, named := ["noria/message.errNone", "noria/wire.errForm"], apart := false, laid := [("noria/wire.errForm", laid_noria_wire_errForm), ("noria/message.errNone", laid_noria_message_errNone)], narrowed := true }
def MessageStatusUptoSaid : Prop := messageStatusUptoRow.holds Tryd.pinned (OpenSpec.upto messageStatusSpec)

/-- 'norialaw05.MessagePings', WHERE WHAT IT READS IS OF BULK AT MOST 1048576: true; the input reads as it did. -/
def messagePingsUptoRow : OpenClaim := { program := "ytbflbgnafdbngaadoor", sum := "f8ecbf5971f8ea21a3c73bd0d4705bb3941f448f841265d0baef36272b69a01a", func := "noria/norialaw05.MessagePings", spec := "messagePings", inPlace := ["internal/reflectlite.TypeOf", "internal/abi.NoEscape"], unfollowed := true, recurses := true, named := ["noria/message.errNone", "noria/wire.errForm"], apart := false, laid := [("noria/wire.errForm", laid_noria_wire_errForm), ("noria/message.errNone", laid_noria_message_errNone)], narrowed := true }
def MessagePingsUptoSaid : Prop := messagePingsUptoRow.holds Tryd.pinned (OpenSpec.upto messagePingsSpec)

end Rows
end Go.Proofs.YtbflbgnafdbngaaDoor
