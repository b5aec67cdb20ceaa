/-
  NARROWER THAN 'FOR EVERY INPUT', by the rows' own cells (each row's printed sentence says how): ServerComes: laid · ServerWaits: laid · ServerUnknown: laid · ServerBatches: laid · ServerHave: laid · ClientDeltas: laid · ClientHaves: laid · ClientFull: laid.
  DERIVED. THE GIVEN ROWS OF THIS SEAT. 8 by the template 'for every input the law returns true; each argument reads behind the call as it read before'; 0 by the template 'total and deterministic' (their statements: YtdcfdcjgheijcaaGreatDoorTotals.lean).
  GIVEN WITH THE SEED: the statements are not yours to turn. If you find one false, say at which input.
  Laid BY PROGRAM, IN A SANDBOX (cutbox-rows.mjs): the forced cells as the released guide's own fill.sh prints them over the translation 8d40ec69bdcff58a… (all of the seat's roots in one cut). By AI agents, Wed Nov 11 2026. No macro, syntax, notation, axiom, sorry.
-/
import Derived.Test.YtdcfdcjgheijcaaGreatDoorChecked
import GoSem.Claim
import GoSem.ClaimJoined
import GoSem.ClaimMapViews
import Derived.JoinedTies
import Derived.KernelRfl
namespace Go.Proofs.YtdcfdcjgheijcaaGreatDoor
/- THE CELL 'sum', in the pinned program and in every row, IS THE sha256 OF THE DUMP (.gsa) THAT YtdcfdcjgheijcaaGreatDoorProg.lean LOADS. Nothing in Lean hashes anything: it is a label: what it is worth is what the hold of that sum in a sandbox is worth. -/
noncomputable def Tryz.pinned : Pinned := { name := "ytdcfdcjgheijcaagreatdoor", sum := "8d40ec69bdcff58ad4fe00dd3faaa1d55ac3819cbb1e6af6b136a68a81021c7c", checked := Tryz.checked }
namespace Rows
def none {H : Type} : Left H := { results := [], args := [] }

/- WHAT THE LISTED PACKAGE-LEVEL VARIABLES READ AS WHEN THE CALL BEGINS. Each datum BY PROGRAM (the guide's laid-datum.mjs) off the statement by which the dump's own 'gosem.cut.vars' lays the variable. In a bare row this is a premise. The card (YtdcfdcjgheijcaaGreatDoorCards.lean) ties it to the program's text. -/
def laid_noria_message_errNone {H : Type} : DataW H := .iface "*errors.errorString" (.ptr (.agg [.lit (.string [110, 111, 32, 109, 101, 115, 115, 97, 103, 101])]))
def laid_noria_server_errArg {H : Type} : DataW H := .iface "*errors.errorString" (.ptr (.agg [.lit (.string [110, 111, 116, 32, 114, 105, 103, 104, 116])]))
def laid_noria_server_errOrder {H : Type} : DataW H := .iface "*errors.errorString" (.ptr (.agg [.lit (.string [110, 111, 116, 32, 97, 116, 32, 116, 104, 105, 115, 32, 116, 105, 109, 101])]))
def laid_noria_server_errStale {H : Type} : DataW H := .iface "*errors.errorString" (.ptr (.agg [.lit (.string [115, 116, 97, 108, 101])]))
def laid_errors_errorType {H : Type} : DataW H := .iface "internal/reflectlite.rtype" (.agg [.ptr (.lit (.string [101, 114, 114, 111, 114]))])

/-- 'norialaw11.ServerComes': WHATEVER THE INPUT: true; the input reads as it did. -/
def serverComesSpec : ChangeSpec := { name := "serverComes", fn := fun _ => fun
  | [d1, d2, d3] => { results := [.lit (.bool true)], args := [d1, d2, d3] }
  | _ => none }
def serverComesRow : OpenClaim := { program := "ytdcfdcjgheijcaagreatdoor", sum := "8d40ec69bdcff58ad4fe00dd3faaa1d55ac3819cbb1e6af6b136a68a81021c7c", func := "noria/norialaw11.ServerComes", spec := "serverComes", inPlace := ["internal/reflectlite.TypeOf"], unfollowed := true, recurses := true, named := ["noria/server.errArg", "noria/server.errOrder", "noria/server.errStale", "noria/message.errNone"], apart := false, laid := [("noria/message.errNone", laid_noria_message_errNone), ("noria/server.errArg", laid_noria_server_errArg), ("noria/server.errOrder", laid_noria_server_errOrder), ("noria/server.errStale", laid_noria_server_errStale)] }
def ServerComesSaid : Prop := serverComesRow.holds Tryz.pinned (OpenSpec.ofChange serverComesSpec)

/-- ITS FALSE NEIGHBOUR: 'it returns false'. Refute it at one input. -/
def serverComesWrong : ChangeSpec := { name := "serverComes", fn := fun _ => fun
  | [d1, d2, d3] => { results := [.lit (.bool false)], args := [d1, d2, d3] }
  | _ => none }
def ServerComesWrongFalsely : Prop := serverComesRow.holds Tryz.pinned (OpenSpec.ofChange serverComesWrong)

/-- 'norialaw11.ServerWaits': WHATEVER THE INPUT: true; the input reads as it did. -/
def serverWaitsSpec : ChangeSpec := { name := "serverWaits", fn := fun _ => fun
  | [d1, d2, d3] => { results := [.lit (.bool true)], args := [d1, d2, d3] }
  | _ => none }
def serverWaitsRow : OpenClaim := { program := "ytdcfdcjgheijcaagreatdoor", sum := "8d40ec69bdcff58ad4fe00dd3faaa1d55ac3819cbb1e6af6b136a68a81021c7c", func := "noria/norialaw11.ServerWaits", spec := "serverWaits", inPlace := ["internal/reflectlite.TypeOf"], unfollowed := true, recurses := true, named := ["noria/server.errArg", "noria/server.errOrder", "noria/server.errStale", "noria/message.errNone"], apart := false, laid := [("noria/message.errNone", laid_noria_message_errNone), ("noria/server.errArg", laid_noria_server_errArg), ("noria/server.errOrder", laid_noria_server_errOrder), ("noria/server.errStale", laid_noria_server_errStale)] }
def ServerWaitsSaid : Prop := serverWaitsRow.holds Tryz.pinned (OpenSpec.ofChange serverWaitsSpec)

/-- ITS FALSE NEIGHBOUR: 'it returns false'. Refute it at one input. -/
def serverWaitsWrong : ChangeSpec := { name := "serverWaits", fn := fun _ => fun
  | [d1, d2, d3] => { results := [.lit (.bool false)], args := [d1, d2, d3] }
  | _ => none }
def ServerWaitsWrongFalsely : Prop := serverWaitsRow.holds Tryz.pinned (OpenSpec.ofChange serverWaitsWrong)

/-- 'norialaw11.ServerUnknown': WHATEVER THE INPUT: true; the input reads as it did. -/
def serverUnknownSpec : ChangeSpec := { name := "serverUnknown", fn := fun _ => fun
  | [d1, d2, d3, d4] => { results := [.lit (.bool true)], args := [d1, d2, d3, d4] }
  | _ => none }
def serverUnknownRow : OpenClaim := { program := "ytdcfdcjgheijcaagreatdoor", sum := "8d40ec69bdcff58ad4fe00dd3faaa1d55ac3819cbb1e6af6b136a68a81021c7c", func := "noria/norialaw11.ServerUnknown", spec := "serverUnknown", inPlace := ["internal/reflectlite.TypeOf"], unfollowed := true, recurses := true, named := ["noria/server.errArg", "noria/server.errOrder", "noria/server.errStale", "noria/message.errNone"], apart := false, laid := [("noria/message.errNone", laid_noria_message_errNone), ("noria/server.errArg", laid_noria_server_errArg), ("noria/server.errOrder", laid_noria_server_errOrder), ("noria/server.errStale", laid_noria_server_errStale)] }
def ServerUnknownSaid : Prop := serverUnknownRow.holds Tryz.pinned (OpenSpec.ofChange serverUnknownSpec)

/-- ITS FALSE NEIGHBOUR: 'it returns false'. Refute it at one input. -/
def serverUnknownWrong : ChangeSpec := { name := "serverUnknown", fn := fun _ => fun
  | [d1, d2, d3, d4] => { results := [.lit (.bool false)], args := [d1, d2, d3, d4] }
  | _ => none }
def ServerUnknownWrongFalsely : Prop := serverUnknownRow.holds Tryz.pinned (OpenSpec.ofChange serverUnknownWrong)

/-- 'norialaw11.ServerBatches': WHATEVER THE INPUT: true; the input reads as it did. -/
def serverBatchesSpec : ChangeSpec := { name := "serverBatches", fn := fun _ => fun
  | [d] => { results := [.lit (.bool true)], args := [d] }
  | _ => none }
def serverBatchesRow : OpenClaim := { program := "ytdcfdcjgheijcaagreatdoor", sum := "8d40ec69bdcff58ad4fe00dd3faaa1d55ac3819cbb1e6af6b136a68a81021c7c", func := "noria/norialaw11.ServerBatches", spec := "serverBatches", inPlace := ["internal/reflectlite.TypeOf"], unfollowed := true, recurses := true, named := ["noria/server.errArg", "noria/server.errOrder", "noria/server.errStale", "noria/message.errNone"], apart := false, laid := [("noria/message.errNone", laid_noria_message_errNone), ("noria/server.errArg", laid_noria_server_errArg), ("noria/server.errOrder", laid_noria_server_errOrder), ("noria/server.errStale", laid_noria_server_errStale)] }
def ServerBatchesSaid : Prop := serverBatchesRow.holds Tryz.pinned (OpenSpec.ofChange serverBatchesSpec)

/-- ITS FALSE NEIGHBOUR: 'it returns false'. Refute it at one input. -/
def serverBatchesWrong : ChangeSpec := { name := "serverBatches", fn := fun _ => fun
  | [d] => { results := [.lit (.bool false)], args := [d] }
  | _ => none }
def ServerBatchesWrongFalsely : Prop := serverBatchesRow.holds Tryz.pinned (OpenSpec.ofChange serverBatchesWrong)

/-- 'norialaw11.ServerHave': WHATEVER THE INPUT: true; the input reads as it did. -/
def serverHaveSpec : ChangeSpec := { name := "serverHave", fn := fun _ => fun
  | [d1, d2, d3] => { results := [.lit (.bool true)], args := [d1, d2, d3] }
  | _ => none }
def serverHaveRow : OpenClaim := { program := "ytdcfdcjgheijcaagreatdoor", sum := "8d40ec69bdcff58ad4fe00dd3faaa1d55ac3819cbb1e6af6b136a68a81021c7c", func := "noria/norialaw11.ServerHave", spec := "serverHave", inPlace := ["internal/reflectlite.TypeOf"], unfollowed := true, recurses := true, named := ["noria/server.errArg", "noria/server.errOrder", "noria/server.errStale", "noria/message.errNone"], apart := false, laid := [("noria/message.errNone", laid_noria_message_errNone), ("noria/server.errArg", laid_noria_server_errArg), ("noria/server.errOrder", laid_noria_server_errOrder), ("noria/server.errStale", laid_noria_server_errStale)] }
def ServerHaveSaid : Prop := serverHaveRow.holds Tryz.pinned (OpenSpec.ofChange serverHaveSpec)

/-- ITS FALSE NEIGHBOUR: 'it returns false'. Refute it at one input. -/
def serverHaveWrong : ChangeSpec := { name := "serverHave", fn := fun _ => fun
  | [d1, d2, d3] => { results := [.lit (.bool false)], args := [d1, d2, d3] }
  | _ => none }
def ServerHaveWrongFalsely : Prop := serverHaveRow.holds Tryz.pinned (OpenSpec.ofChange serverHaveWrong)

/-- 'norialaw10.ClientDeltas': WHATEVER THE INPUT: true; the input reads as it did. -/
def clientDeltasSpec : ChangeSpec := { name := "clientDeltas", fn := fun _ => fun
  | [d] => { results := [.lit (.bool true)], args := [d] }
  | _ => none }
def clientDeltasRow : OpenClaim := { program := "ytdcfdcjgheijcaagreatdoor", sum := "8d40ec69bdcff58ad4fe00dd3faaa1d55ac3819cbb1e6af6b136a68a81021c7c", func := "noria/norialaw10.ClientDeltas", spec := "clientDeltas", inPlace := ["internal/reflectlite.ValueOf", "(internal/reflectlite.Value).Type", "(internal/reflectlite.Value).IsNil", "internal/reflectlite.TypeOf", "(internal/reflectlite.Value).Elem", "(internal/reflectlite.Value).Set"], unfollowed := true, recurses := true, named := ["errors.errorType", "noria/message.errNone"], apart := false, laid := [("errors.errorType", laid_errors_errorType), ("noria/message.errNone", laid_noria_message_errNone)] }
def ClientDeltasSaid : Prop := clientDeltasRow.holds Tryz.pinned (OpenSpec.ofChange clientDeltasSpec)

/-- ITS FALSE NEIGHBOUR: 'it returns false'. Refute it at one input. -/
def clientDeltasWrong : ChangeSpec := { name := "clientDeltas", fn := fun _ => fun
  | [d] => { results := [.lit (.bool false)], args := [d] }
  | _ => none }
def ClientDeltasWrongFalsely : Prop := clientDeltasRow.holds Tryz.pinned (OpenSpec.ofChange clientDeltasWrong)

/-- 'norialaw10.ClientHaves': WHATEVER THE INPUT: true; the input reads as it did. -/
def clientHavesSpec : ChangeSpec := { name := "clientHaves", fn := fun _ => fun
  | [d1, d2, d3] => { results := [.lit (.bool true)], args := [d1, d2, d3] }
  | _ => none }
def clientHavesRow : OpenClaim := { program := "ytdcfdcjgheijcaagreatdoor", sum := "8d40ec69bdcff58ad4fe00dd3faaa1d55ac3819cbb1e6af6b136a68a81021c7c", func := "noria/norialaw10.ClientHaves", spec := "clientHaves", inPlace := ["internal/reflectlite.ValueOf", "(internal/reflectlite.Value).Type", "(internal/reflectlite.Value).IsNil", "internal/reflectlite.TypeOf", "(internal/reflectlite.Value).Elem", "(internal/reflectlite.Value).Set"], unfollowed := true, recurses := true, named := ["errors.errorType", "noria/message.errNone"], apart := false, laid := [("errors.errorType", laid_errors_errorType), ("noria/message.errNone", laid_noria_message_errNone)] }
def ClientHavesSaid : Prop := clientHavesRow.holds Tryz.pinned (OpenSpec.ofChange clientHavesSpec)

/-- ITS FALSE NEIGHBOUR: 'it returns false'. Refute it at one input. -/
def clientHavesWrong : ChangeSpec := { name := "clientHaves", fn := fun _ => fun
  | [d1, d2, d3] => { results := [.lit (.bool false)], args := [d1, d2, d3] }
  | _ => none }
def ClientHavesWrongFalsely : Prop := clientHavesRow.holds Tryz.pinned (OpenSpec.ofChange clientHavesWrong)

/-- 'norialaw10.ClientFull': WHATEVER THE INPUT: true; the input reads as it did. -/
def clientFullSpec : ChangeSpec := { name := "clientFull", fn := fun _ => fun
  | [d1, d2] => { results := [.lit (.bool true)], args := [d1, d2] }
  | _ => none }
def clientFullRow : OpenClaim := { program := "ytdcfdcjgheijcaagreatdoor", sum := "8d40ec69bdcff58ad4fe00dd3faaa1d55ac3819cbb1e6af6b136a68a81021c7c", func := "noria/norialaw10.ClientFull", spec := "clientFull", inPlace := ["internal/reflectlite.ValueOf", "(internal/reflectlite.Value).Type", "(internal/reflectlite.Value).IsNil", "internal/reflectlite.TypeOf", "(internal/reflectlite.Value).Elem", "(internal/reflectlite.Value).Set"], unfollowed := true, recurses := true, named := ["errors.errorType", "noria/message.errNone"], apart := false, laid := [("errors.errorType", laid_errors_errorType), ("noria/message.errNone", laid_noria_message_errNone)] }
def ClientFullSaid : Prop := clientFullRow.holds Tryz.pinned (OpenSpec.ofChange clientFullSpec)

/-- ITS FALSE NEIGHBOUR: 'it returns false'. Refute it at one input. -/
def clientFullWrong : ChangeSpec := { name := "clientFull", fn := fun _ => fun
  | [d1, d2] => { results := [.lit (.bool false)], args := [d1, d2] }
  | _ => none }
def ClientFullWrongFalsely : Prop := clientFullRow.holds Tryz.pinned (OpenSpec.ofChange clientFullWrong)

/- THE SECOND FORM. 'bulk': how many values and letters a reading holds, each counted each time it is reached (what is shared counts as often as it is met; a slice's spare places count too). A statement '..UptoSaid' is the law's where the arguments, and the package variables that the reading takes, are together of bulk at most 1048576: NARROWER than '..Said'. Prove '..Said' where nothing that the law and all that it calls make is longer than what came in: it says more and counts as full. Else prove '..UptoSaid'. A law counts once. -/
mutual
def uptoBulk {H : Type} : DataW H → Nat
  | .lit (.string bytes) => bytes.length + 1
  | .lit _ => 1
  | .nil => 1
  | .ptr d => uptoBulk d + 1
  | .slice elems spare => uptoBulkAll elems + uptoBulkAll spare + 1
  | .agg parts => uptoBulkAll parts + 1
  | .iface _ d => uptoBulk d + 1
  | .map entries => uptoBulkEntries entries + 1
  | .held _ => 1
def uptoBulkAll {H : Type} : List (DataW H) → Nat
  | [] => 0
  | d :: r => uptoBulk d + uptoBulkAll r
def uptoBulkEntries {H : Type} : List (Lit × DataW H) → Nat
  | [] => 0
  | x :: r => uptoBulkEntry x + uptoBulkEntries r
def uptoBulkEntry {H : Type} : Lit × DataW H → Nat
  | (.string bytes, d) => bytes.length + uptoBulk d + 1
  | (_, d) => uptoBulk d + 1
 end
def uptoSmall : (H : Type) → List (DataW H) → Bool := fun _ ds => decide (uptoBulkAll ds ≤ 1048576)
def OpenSpec.upto (s : _root_.Go.ChangeSpec) : _root_.Go.OpenSpec := { _root_.Go.OpenSpec.ofChange s with cond := some uptoSmall }

/-- 'norialaw11.ServerComes', WHERE WHAT IT READS IS OF BULK AT MOST 1048576: true; the input reads as it did. -/
def serverComesUptoRow : OpenClaim := { program := "ytdcfdcjgheijcaagreatdoor", sum := "8d40ec69bdcff58ad4fe00dd3faaa1d55ac3819cbb1e6af6b136a68a81021c7c", func := "noria/norialaw11.ServerComes", spec := "serverComes", inPlace := ["internal/reflectlite.TypeOf"], unfollowed := true, recurses := true, named := ["noria/server.errArg", "noria/server.errOrder", "noria/server.errStale", "noria/message.errNone"], apart := false, laid := [("noria/message.errNone", laid_noria_message_errNone), ("noria/server.errArg", laid_noria_server_errArg), ("noria/server.errOrder", laid_noria_server_errOrder), ("noria/server.errStale", laid_noria_server_errStale)], narrowed := true }
def ServerComesUptoSaid : Prop := serverComesUptoRow.holds Tryz.pinned (OpenSpec.upto serverComesSpec)

/-- 'norialaw11.ServerWaits', WHERE WHAT IT READS IS OF BULK AT MOST 1048576: true; the input reads as it did. -/
def serverWaitsUptoRow : OpenClaim := { program := "ytdcfdcjgheijcaagreatdoor", sum := "8d40ec69bdcff58ad4fe00dd3faaa1d55ac3819cbb1e6af6b136a68a81021c7c", func := "noria/norialaw11.ServerWaits", spec := "serverWaits", inPlace := ["internal/reflectlite.TypeOf"], unfollowed := true, recurses := true, named := ["noria/server.errArg", "noria/server.errOrder", "noria/server.errStale", "noria/message.errNone"], apart := false, laid := [("noria/message.errNone", laid_noria_message_errNone), ("noria/server.errArg", laid_noria_server_errArg), ("noria/server.errOrder", laid_noria_server_errOrder), ("noria/server.errStale", laid_noria_server_errStale)], narrowed := true }
def ServerWaitsUptoSaid : Prop := serverWaitsUptoRow.holds Tryz.pinned (OpenSpec.upto serverWaitsSpec)

/-- 'norialaw11.ServerUnknown', WHERE WHAT IT READS IS OF BULK AT MOST 1048576: true; the input reads as it did. -/
def serverUnknownUptoRow : OpenClaim := { program := "ytdcfdcjgheijcaagreatdoor", sum := "8d40ec69bdcff58ad4fe00dd3faaa1d55ac3819cbb1e6af6b136a68a81021c7c", func := "noria/norialaw11.ServerUnknown", spec := "serverUnknown", inPlace := ["internal/reflectlite.TypeOf"], unfollowed := true, recurses := true, named := ["noria/server.errArg", "noria/server.errOrder", "noria/server.errStale", "noria/message.errNone"], apart := false, laid := [("noria/message.errNone", laid_noria_message_errNone), ("noria/server.errArg", laid_noria_server_errArg), ("noria/server.errOrder", laid_noria_server_errOrder), ("noria/server.errStale", laid_noria_server_errStale)], narrowed := true }
def ServerUnknownUptoSaid : Prop := serverUnknownUptoRow.holds Tryz.pinned (OpenSpec.upto serverUnknownSpec)

/-- 'norialaw11.ServerBatches', WHERE WHAT IT READS IS OF BULK AT MOST 1048576: true; the input reads as it did. -/
def serverBatchesUptoRow : OpenClaim := { program := "ytdcfdcjgheijcaagreatdoor", sum := "8d40ec69bdcff58ad4fe00dd3faaa1d55ac3819cbb1e6af6b136a68a81021c7c", func := "noria/norialaw11.ServerBatches", spec := "serverBatches", inPlace := ["internal/reflectlite.TypeOf"], unfollowed := true, recurses := true, named := ["noria/server.errArg", "noria/server.errOrder", "noria/server.errStale", "noria/message.errNone"], apart := false, laid := [("noria/message.errNone", laid_noria_message_errNone), ("noria/server.errArg", laid_noria_server_errArg), ("noria/server.errOrder", laid_noria_server_errOrder), ("noria/server.errStale", laid_noria_server_errStale)], narrowed := true }
def ServerBatchesUptoSaid : Prop := serverBatchesUptoRow.holds Tryz.pinned (OpenSpec.upto serverBatchesSpec)

/-- 'norialaw11.ServerHave', WHERE WHAT IT READS IS OF BULK AT MOST 1048576: true; the input reads as it did. -/
def serverHaveUptoRow : OpenClaim := { program := "ytdcfdcjgheijcaagreatdoor", sum := "8d40ec69bdcff58ad4fe00dd3faaa1d55ac3819cbb1e6af6b136a68a81021c7c", func := "noria/norialaw11.ServerHave", spec := "serverHave", inPlace := ["internal/reflectlite.TypeOf"], unfollowed := true, recurses := true, named := ["noria/server.errArg", "noria/server.errOrder", "noria/server.errStale", "noria/message.errNone"], apart := false, laid := [("noria/message.errNone", laid_noria_message_errNone), ("noria/server.errArg", laid_noria_server_errArg), ("noria/server.errOrder", laid_noria_server_errOrder), ("noria/server.errStale", laid_noria_server_errStale)], narrowed := true }
def ServerHaveUptoSaid : Prop := serverHaveUptoRow.holds Tryz.pinned (OpenSpec.upto serverHaveSpec)

/-- 'norialaw10.ClientDeltas', WHERE WHAT IT READS IS OF BULK AT MOST 1048576: true; the input reads as it did. -/
def clientDeltasUptoRow : OpenClaim := { program := "ytdcfdcjgheijcaagreatdoor", sum := "8d40ec69bdcff58ad4fe00dd3faaa1d55ac3819cbb1e6af6b136a68a81021c7c", func := "noria/norialaw10.ClientDeltas", spec := "clientDeltas", inPlace := ["internal/reflectlite.ValueOf", "(internal/reflectlite.Value).Type", "(internal/reflectlite.Value).IsNil", "internal/reflectlite.TypeOf", "(internal/reflectlite.Value).Elem", "(internal/reflectlite.Value).Set"], unfollowed := true, recurses := true, named := ["errors.errorType", "noria/message.errNone"], apart := false, laid := [("errors.errorType", laid_errors_errorType), ("noria/message.errNone", laid_noria_message_errNone)], narrowed := true }
def ClientDeltasUptoSaid : Prop := clientDeltasUptoRow.holds Tryz.pinned (OpenSpec.upto clientDeltasSpec)

/-- 'norialaw10.ClientHaves', WHERE WHAT IT READS IS OF BULK AT MOST 1048576: true; the input reads as it did. -/
def clientHavesUptoRow : OpenClaim := { program := "ytdcfdcjgheijcaagreatdoor", sum := "8d40ec69bdcff58ad4fe00dd3faaa1d55ac3819cbb1e6af6b136a68a81021c7c", func := "noria/norialaw10.ClientHaves", spec := "clientHaves", inPlace := ["internal/reflectlite.ValueOf", "(internal/reflectlite.Value).Type", "(internal/reflectlite.Value).IsNil", "internal/reflectlite.TypeOf", "(internal/reflectlite.Value).Elem", "(internal/reflectlite.Value).Set"], unfollowed := true, recurses := true, named := ["errors.errorType", "noria/message.errNone"], apart := false, laid := [("errors.errorType", laid_errors_errorType), ("noria/message.errNone", laid_noria_message_errNone)], narrowed := true }
def ClientHavesUptoSaid : Prop := clientHavesUptoRow.holds Tryz.pinned (OpenSpec.upto clientHavesSpec)

/-- 'norialaw10.ClientFull', WHERE WHAT IT READS IS OF BULK AT MOST 1048576: true; the input reads as it did. -/
def clientFullUptoRow : OpenClaim := { program := "ytdcfdcjgheijcaagreatdoor", sum := "8d40ec69bdcff58ad4fe00dd3faaa1d55ac3819cbb1e6af6b136a68a81021c7c", func := "noria/norialaw10.ClientFull", spec := "clientFull", inPlace := ["internal/reflectlite.ValueOf", "(internal/reflectlite.Value).Type", "(internal/reflectlite.Value).IsNil", "internal/reflectlite.TypeOf", "(internal/reflectlite.Value).Elem", "(internal/reflectlite.Value).Set"], unfollowed := true, recurses := true, named := ["errors.errorType", "noria/message.errNone"], apart := false, laid := [("errors.errorType", laid_errors_errorType), ("noria/message.errNone", laid_noria_message_errNone)], narrowed := true }
def ClientFullUptoSaid : Prop := clientFullUptoRow.holds Tryz.pinned (OpenSpec.upto clientFullSpec)

end Rows
end Go.Proofs.YtdcfdcjgheijcaaGreatDoor
