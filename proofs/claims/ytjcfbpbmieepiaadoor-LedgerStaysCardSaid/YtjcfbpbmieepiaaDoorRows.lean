/-
  NARROWER THAN 'FOR EVERY INPUT', by the rows' own cells (each row's printed sentence says how): LedgerPlays: laid · LedgerStays: laid · LedgerErases: laid · LedgerRoom: laid · LedgerKeys: laid.
  DERIVED. THE GIVEN ROWS OF THIS SEAT. 5 by the template 'for every input the law returns true; each argument reads behind the call as it read before'; 0 by the template 'total and deterministic' (their statements: YtjcfbpbmieepiaaDoorTotals.lean).
  GIVEN WITH THE SEED: the statements are not yours to turn. If you find one false, say at which input.
  Laid BY PROGRAM, IN A SANDBOX (cutbox-rows.mjs): the forced cells as the released guide's own fill.sh prints them over the translation b2f30979d410d0d3… (all of the seat's roots in one cut). By AI agents, Wed Nov 11 2026. No macro, syntax, notation, axiom, sorry.
-/
import Derived.Test.YtjcfbpbmieepiaaDoorChecked
import GoSem.Claim
import GoSem.ClaimJoined
import GoSem.ClaimMapViews
import Derived.JoinedTies
import Derived.KernelRfl
namespace Go.Proofs.YtjcfbpbmieepiaaDoor
/- THE CELL 'sum', in the pinned program and in every row, IS THE sha256 OF THE DUMP (.gsa) THAT YtjcfbpbmieepiaaDoorProg.lean LOADS. Nothing in Lean hashes anything: it is a label: what it is worth is what the hold of that sum in a sandbox is worth. -/
noncomputable def Tryd.pinned : Pinned := { name := "ytjcfbpbmieepiaadoor", sum := "b2f30979d410d0d391b8513c6af8b5c90e2484b16015be0e415654cd4e936291", checked := Tryd.checked }
namespace Rows
def none {H : Type} : Left H := { results := [], args := [] }

/- WHAT THE LISTED PACKAGE-LEVEL VARIABLES READ AS WHEN THE CALL BEGINS. Each datum BY PROGRAM (the guide's laid-datum.mjs) off the statement by which the dump's own 'gosem.cut.vars' lays the variable. In a bare row this is a premise. The card (YtjcfbpbmieepiaaDoorCards.lean) ties it to the program's text. -/
def laid_noria_wire_errForm {H : Type} : DataW H := .iface "*errors.errorString" (.ptr (.agg [.lit (.string [110, 111, 116, 32, 111, 102, 32, 116, 104, 101, 32, 102, 111, 114, 109])]))
def laid_noria_message_errNone {H : Type} : DataW H := .iface "*errors.errorString" (.ptr (.agg [.lit (.string [110, 111, 32, 109, 101, 115, 115, 97, 103, 101])]))

/-- 'norialaw13.LedgerPlays': WHATEVER THE INPUT: true; the input reads as it did. -/
def ledgerPlaysSpec : ChangeSpec := { name := "ledgerPlays", fn := fun _ => fun
  | [d] => { results := [.lit (.bool true)], args := [d] }
  | _ => none }
def ledgerPlaysRow : OpenClaim := { program := "ytjcfbpbmieepiaadoor", sum := "b2f30979d410d0d391b8513c6af8b5c90e2484b16015be0e415654cd4e936291", func := "noria/norialaw13.LedgerPlays", spec := "ledgerPlays", inPlace := ["slices.overlaps[noria/ledger.Mark]", "internal/reflectlite.TypeOf", "internal/abi.NoEscape"], unfollowed := true, recurses := true, named := ["noria/message.errNone", "noria/wire.errForm"], apart := false, laid := [("noria/wire.errForm", laid_noria_wire_errForm), ("noria/message.errNone", laid_noria_message_errNone)] }
def LedgerPlaysSaid : Prop := ledgerPlaysRow.holds Tryd.pinned (OpenSpec.ofChange ledgerPlaysSpec)

/-- ITS FALSE NEIGHBOUR: 'it returns false'. Refute it at one input. -/
def ledgerPlaysWrong : ChangeSpec := { name := "ledgerPlays", fn := fun _ => fun
  | [d] => { results := [.lit (.bool false)], args := [d] }
  | _ => none }
def LedgerPlaysWrongFalsely : Prop := ledgerPlaysRow.holds Tryd.pinned (OpenSpec.ofChange ledgerPlaysWrong)

/-- 'norialaw13.LedgerStays': WHATEVER THE INPUT: true; the input reads as it did. -/
def ledgerStaysSpec : ChangeSpec := { name := "ledgerStays", fn := fun _ => fun
  | [d1, d2] => { results := [.lit (.bool true)], args := [d1, d2] }
  | _ => none }
def ledgerStaysRow : OpenClaim := { program := "ytjcfbpbmieepiaadoor", sum := "b2f30979d410d0d391b8513c6af8b5c90e2484b16015be0e415654cd4e936291", func := "noria/norialaw13.LedgerStays", spec := "ledgerStays", inPlace := ["slices.overlaps[noria/ledger.Mark]", "internal/reflectlite.TypeOf", "internal/abi.NoEscape"], unfollowed := true, recurses := true, named := ["noria/message.errNone", "noria/wire.errForm"], apart := false, laid := [("noria/wire.errForm", laid_noria_wire_errForm), ("noria/message.errNone", laid_noria_message_errNone)] }
def LedgerStaysSaid : Prop := ledgerStaysRow.holds Tryd.pinned (OpenSpec.ofChange ledgerStaysSpec)

/-- ITS FALSE NEIGHBOUR: 'it returns false'. Refute it at one input. -/
def ledgerStaysWrong : ChangeSpec := { name := "ledgerStays", fn := fun _ => fun
  | [d1, d2] => { results := [.lit (.bool false)], args := [d1, d2] }
  | _ => none }
def LedgerStaysWrongFalsely : Prop := ledgerStaysRow.holds Tryd.pinned (OpenSpec.ofChange ledgerStaysWrong)

/-- 'norialaw13.LedgerErases': WHATEVER THE INPUT: true; the input reads as it did. -/
def ledgerErasesSpec : ChangeSpec := { name := "ledgerErases", fn := fun _ => fun
  | [d1, d2, d3] => { results := [.lit (.bool true)], args := [d1, d2, d3] }
  | _ => none }
def ledgerErasesRow : OpenClaim := { program := "ytjcfbpbmieepiaadoor", sum := "b2f30979d410d0d391b8513c6af8b5c90e2484b16015be0e415654cd4e936291", func := "noria/norialaw13.LedgerErases", spec := "ledgerErases", inPlace := ["slices.overlaps[noria/ledger.Mark]", "internal/reflectlite.TypeOf", "internal/abi.NoEscape"], unfollowed := true, recurses := true, named := ["noria/message.errNone", "noria/wire.errForm"], apart := false, laid := [("noria/wire.errForm", laid_noria_wire_errForm), ("noria/message.errNone", laid_noria_message_errNone)] }
def LedgerErasesSaid : Prop := ledgerErasesRow.holds Tryd.pinned (OpenSpec.ofChange ledgerErasesSpec)

/-- ITS FALSE NEIGHBOUR: 'it returns false'. Refute it at one input. -/
def ledgerErasesWrong : ChangeSpec := { name := "ledgerErases", fn := fun _ => fun
  | [d1, d2, d3] => { results := [.lit (.bool false)], args := [d1, d2, d3] }
  | _ => none }
def LedgerErasesWrongFalsely : Prop := ledgerErasesRow.holds Tryd.pinned (OpenSpec.ofChange ledgerErasesWrong)

/-- 'norialaw13.LedgerRoom': WHATEVER THE INPUT: true; the input reads as it did. -/
def ledgerRoomSpec : ChangeSpec := { name := "ledgerRoom", fn := fun _ => fun
  | [d] => { results := [.lit (.bool true)], args := [d] }
  | _ => none }
def ledgerRoomRow : OpenClaim := { program := "ytjcfbpbmieepiaadoor", sum := "b2f30979d410d0d391b8513c6af8b5c90e2484b16015be0e415654cd4e936291", func := "noria/norialaw13.LedgerRoom", spec := "ledgerRoom", inPlace := ["slices.overlaps[noria/ledger.Mark]", "internal/reflectlite.TypeOf", "internal/abi.NoEscape"], unfollowed := true, recurses := true, named := ["noria/message.errNone", "noria/wire.errForm"], apart := false, laid := [("noria/wire.errForm", laid_noria_wire_errForm), ("noria/message.errNone", laid_noria_message_errNone)] }
def LedgerRoomSaid : Prop := ledgerRoomRow.holds Tryd.pinned (OpenSpec.ofChange ledgerRoomSpec)

/-- ITS FALSE NEIGHBOUR: 'it returns false'. Refute it at one input. -/
def ledgerRoomWrong : ChangeSpec := { name := "ledgerRoom", fn := fun _ => fun
  | [d] => { results := [.lit (.bool false)], args := [d] }
  | _ => none }
def LedgerRoomWrongFalsely : Prop := ledgerRoomRow.holds Tryd.pinned (OpenSpec.ofChange ledgerRoomWrong)

/-- 'norialaw13.LedgerKeys': WHATEVER THE INPUT: true; the input reads as it did. -/
def ledgerKeysSpec : ChangeSpec := { name := "ledgerKeys", fn := fun _ => fun
  | [d1, d2] => { results := [.lit (.bool true)], args := [d1, d2] }
  | _ => none }
def ledgerKeysRow : OpenClaim := { program := "ytjcfbpbmieepiaadoor", sum := "b2f30979d410d0d391b8513c6af8b5c90e2484b16015be0e415654cd4e936291", func := "noria/norialaw13.LedgerKeys", spec := "ledgerKeys", inPlace := ["slices.overlaps[noria/ledger.Mark]", "internal/reflectlite.TypeOf", "internal/abi.NoEscape"], unfollowed := true, recurses := true, named := ["noria/message.errNone", "noria/wire.errForm"], apart := false, laid := [("noria/wire.errForm", laid_noria_wire_errForm), ("noria/message.errNone", laid_noria_message_errNone)] }
def LedgerKeysSaid : Prop := ledgerKeysRow.holds Tryd.pinned (OpenSpec.ofChange ledgerKeysSpec)

/-- ITS FALSE NEIGHBOUR: 'it returns false'. Refute it at one input. -/
def ledgerKeysWrong : ChangeSpec := { name := "ledgerKeys", fn := fun _ => fun
  | [d1, d2] => { results := [.lit (.bool false)], args := [d1, d2] }
  | _ => none }
def LedgerKeysWrongFalsely : Prop := ledgerKeysRow.holds Tryd.pinned (OpenSpec.ofChange ledgerKeysWrong)

/- THE SECOND FORM. 'bulk': how many values and letters a reading holds, each counted each time it is reached (what is shared counts as often as it is met; a slice's spare places count too). A statement '..UptoSaid' is the law's where the arguments, and the package variables that the reading takes, are together of bulk at most 1048576: NARROWER than '..Said'. Prove '..Said' where nothing that the law and all that it calls make is longer than what came in: it says more and counts as full. Else prove '..UptoSaid'. A law counts once. -/
mutual
def uptoBulk {H : Type} : DataW H → Nat
  | .lit (.string bytes) => bytes.length + 1
  | .lit _ => 1
  | .nil => 1
  | .ptr d => uptoBulk d + 1
  | .slice elems spare => uptoBulkAll elems + uptoBulkAll spare + 1
  | .agg parts => uptoBulkAll parts + 1
  | .iface _ d => uptoBulk d + 1
  | .map entries => uptoBulkEntries entries + 1
  | .held _ => 1
def uptoBulkAll {H : Type} : List (DataW H) → Nat
  | [] => 0
  | d :: r => uptoBulk d + uptoBulkAll r
def uptoBulkEntries {H : Type} : List (Lit × DataW H) → Nat
  | [] => 0
  | x :: r => uptoBulkEntry x + uptoBulkEntries r
def uptoBulkEntry {H : Type} : Lit × DataW H → Nat
  | (.string bytes, d) => bytes.length + uptoBulk d + 1
  | (_, d) => uptoBulk d + 1
 end
def uptoSmall : (H : Type) → List (DataW H) → Bool := fun _ ds => decide (uptoBulkAll ds ≤ 1048576)
def OpenSpec.upto (s : _root_.Go.ChangeSpec) : _root_.Go.OpenSpec := { _root_.Go.OpenSpec.ofChange s with cond := some uptoSmall }

/-- 'norialaw13.LedgerPlays', WHERE WHAT IT READS IS OF BULK AT MOST 1048576: true; the input reads as it did. -/
def ledgerPlaysUptoRow : OpenClaim := { program := "ytjcfbpbmieepiaadoor", sum := "b2f30979d410d0d391b8513c6af8b5c90e2484b16015be0e415654cd4e936291", func := "noria/norialaw13.LedgerPlays", spec := "ledgerPlays", inPlace := ["slices.overlaps[noria/ledger.Mark]", "internal/reflectlite.TypeOf", "internal/abi.NoEscape"], unfollowed := true, recurses := true, named := ["noria/message.errNone", "noria/wire.errForm"], apart := false, laid := [("noria/wire.errForm", laid_noria_wire_errForm), ("noria/message.errNone", laid_noria_message_errNone)], narrowed := true }
def LedgerPlaysUptoSaid : Prop := ledgerPlaysUptoRow.holds Tryd.pinned (OpenSpec.upto ledgerPlaysSpec)

/-- 'norialaw13.LedgerStays', WHERE WHAT IT READS IS OF BULK AT MOST 1048576: true; the input reads as it did. -/
def ledgerStaysUptoRow : OpenClaim := { program := "ytjcfbpbmieepiaadoor", sum := "b2f30979d410d0d391b8513c6af8b5c90e2484b16015be0e415654cd4e936291", func := "noria/norialaw13.LedgerStays", spec := "ledgerStays", inPlace := ["slices.overlaps[noria/ledger.Mark]", "internal/reflectlite.TypeOf", "internal/abi.NoEscape"], unfollowed := true, recurses := true, named := ["noria/message.errNone", "noria/wire.errForm"], apart := false, laid := [("noria/wire.errForm", laid_noria_wire_errForm), ("noria/message.errNone", laid_noria_message_errNone)], narrowed := true }
def LedgerStaysUptoSaid : Prop := ledgerStaysUptoRow.holds Tryd.pinned (OpenSpec.upto ledgerStaysSpec)

/-- 'norialaw13.LedgerErases', WHERE WHAT IT READS IS OF BULK AT MOST 1048576: true; the input reads as it did. -/
def ledgerErasesUptoRow : OpenClaim := { program := "ytjcfbpbmieepiaadoor", sum := "b2f30979d410d0d391b8513c6af8b5c90e2484b16015be0e415654cd4e936291", func := "noria/norialaw13.LedgerErases", spec := "ledgerErases", inPlace := ["slices.overlaps[noria/ledger.Mark]", "internal/reflectlite.TypeOf", "internal/abi.NoEscape"], unfollowed := true, recurses := true, named := ["noria/message.errNone", "noria/wire.errForm"], apart := false, laid := [("noria/wire.errForm", laid_noria_wire_errForm), ("noria/message.errNone", laid_noria_message_errNone)], narrowed := true }
def LedgerErasesUptoSaid : Prop := ledgerErasesUptoRow.holds Tryd.pinned (OpenSpec.upto ledgerErasesSpec)

/-- 'norialaw13.LedgerRoom', WHERE WHAT IT READS IS OF BULK AT MOST 1048576: true; the input reads as it did. -/
def ledgerRoomUptoRow : OpenClaim := { program := "ytjcfbpbmieepiaadoor", sum := "b2f30979d410d0d391b8513c6af8b5c90e2484b16015be0e415654cd4e936291", func := "noria/norialaw13.LedgerRoom", spec := "ledgerRoom", inPlace := ["slices.overlaps[noria/ledger.Mark]", "internal/reflectlite.TypeOf", "internal/abi.NoEscape"], unfollowed := true, recurses := true, named := ["noria/message.errNone", "noria/wire.errForm"], apart := false, laid := [("noria/wire.errForm", laid_noria_wire_errForm), ("noria/message.errNone", laid_noria_message_errNone)], narrowed := true }
def LedgerRoomUptoSaid : Prop := ledgerRoomUptoRow.holds Tryd.pinned (OpenSpec.upto ledgerRoomSpec)

/-- 'norialaw13.LedgerKeys', WHERE WHAT IT READS IS OF BULK AT MOST 1048576: true; the input reads as it did. -/
def ledgerKeysUptoRow : OpenClaim := { program := "ytjcfbpbmieepiaadoor", sum := "b2f30979d410d0d391b8513c6af8b5c90e2484b16015be0e415654cd4e936291", func := "noria/norialaw13.LedgerKeys", spec := "ledgerKeys", inPlace := ["slices.overlaps[noria/ledger.Mark]", "internal/reflectlite.TypeOf", "internal/abi.NoEscape"], unfollowed := true, recurses := true, named := ["noria/message.errNone", "noria/wire.errForm"], apart := false, laid := [("noria/wire.errForm", laid_noria_wire_errForm), ("noria/message.errNone", laid_noria_message_errNone)], narrowed := true }
def LedgerKeysUptoSaid : Prop := ledgerKeysUptoRow.holds Tryd.pinned (OpenSpec.upto ledgerKeysSpec)

end Rows
end Go.Proofs.YtjcfbpbmieepiaaDoor
