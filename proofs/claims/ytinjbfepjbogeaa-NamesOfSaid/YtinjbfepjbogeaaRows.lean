/-
  No cell of these rows narrows 'for every input' (looked for: loops, veiled, ifaces, maps, wideKeys, modest, calm, conditions, laid).
  DERIVED. THE GIVEN ROWS OF THIS SEAT. 6 by the template 'for every input the law returns true; each argument reads behind the call as it read before'; 0 by the template 'total and deterministic' (their statements: YtinjbfepjbogeaaTotals.lean).
  GIVEN WITH THE SEED: the statements are not yours to turn. If you find one false, say at which input.
  Laid BY PROGRAM, IN A SANDBOX (cutbox-rows.mjs): the forced cells as the released guide's own fill.sh prints them over the translation 13fef2a309f724e6… (all of the seat's roots in one cut). By AI agents, Wed Nov 11 2026. No macro, syntax, notation, axiom, sorry.
-/
import Derived.Test.YtinjbfepjbogeaaChecked
import GoSem.Claim
import GoSem.ClaimJoined
import GoSem.ClaimMapViews
import Derived.JoinedTies
import Derived.KernelRfl
namespace Go.Proofs.Ytinjbfepjbogeaa
/- THE CELL 'sum', in the pinned program and in every row, IS THE sha256 OF THE DUMP (.gsa) THAT YtinjbfepjbogeaaProg.lean LOADS. Nothing in Lean hashes anything: it is a label: what it is worth is what the hold of that sum in a sandbox is worth. -/
noncomputable def Try.pinned : Pinned := { name := "ytinjbfepjbogeaa", sum := "13fef2a309f724e6d4a5ee5e09b8973f04e09cbaef4dbc191923cb29a16d3432", checked := Try.checked }
namespace Rows
def none {H : Type} : Left H := { results := [], args := [] }

/-- 'norialaw09.NamesOf': WHATEVER THE INPUT: true; the input reads as it did. -/
def namesOfSpec : ChangeSpec := { name := "namesOf", fn := fun _ => fun
  | [d1, d2, d3, d4] => { results := [.lit (.bool true)], args := [d1, d2, d3, d4] }
  | _ => none }
def namesOfRow : OpenClaim := { program := "ytinjbfepjbogeaa", sum := "13fef2a309f724e6d4a5ee5e09b8973f04e09cbaef4dbc191923cb29a16d3432", func := "noria/norialaw09.NamesOf", spec := "namesOf", unfollowed := true, recurses := true, apart := false }
def NamesOfSaid : Prop := namesOfRow.holds Try.pinned (OpenSpec.ofChange namesOfSpec)

/-- ITS FALSE NEIGHBOUR: 'it returns false'. Refute it at one input. -/
def namesOfWrong : ChangeSpec := { name := "namesOf", fn := fun _ => fun
  | [d1, d2, d3, d4] => { results := [.lit (.bool false)], args := [d1, d2, d3, d4] }
  | _ => none }
def NamesOfWrongFalsely : Prop := namesOfRow.holds Try.pinned (OpenSpec.ofChange namesOfWrong)

/-- 'norialaw09.NamesSets': WHATEVER THE INPUT: true; the input reads as it did. -/
def namesSetsSpec : ChangeSpec := { name := "namesSets", fn := fun _ => fun
  | [d1, d2, d3, d4] => { results := [.lit (.bool true)], args := [d1, d2, d3, d4] }
  | _ => none }
def namesSetsRow : OpenClaim := { program := "ytinjbfepjbogeaa", sum := "13fef2a309f724e6d4a5ee5e09b8973f04e09cbaef4dbc191923cb29a16d3432", func := "noria/norialaw09.NamesSets", spec := "namesSets", unfollowed := true, recurses := true, apart := false }
def NamesSetsSaid : Prop := namesSetsRow.holds Try.pinned (OpenSpec.ofChange namesSetsSpec)

/-- ITS FALSE NEIGHBOUR: 'it returns false'. Refute it at one input. -/
def namesSetsWrong : ChangeSpec := { name := "namesSets", fn := fun _ => fun
  | [d1, d2, d3, d4] => { results := [.lit (.bool false)], args := [d1, d2, d3, d4] }
  | _ => none }
def NamesSetsWrongFalsely : Prop := namesSetsRow.holds Try.pinned (OpenSpec.ofChange namesSetsWrong)

/-- 'norialaw09.NamesUnion': WHATEVER THE INPUT: true; the input reads as it did. -/
def namesUnionSpec : ChangeSpec := { name := "namesUnion", fn := fun _ => fun
  | [d1, d2, d3] => { results := [.lit (.bool true)], args := [d1, d2, d3] }
  | _ => none }
def namesUnionRow : OpenClaim := { program := "ytinjbfepjbogeaa", sum := "13fef2a309f724e6d4a5ee5e09b8973f04e09cbaef4dbc191923cb29a16d3432", func := "noria/norialaw09.NamesUnion", spec := "namesUnion", unfollowed := true, recurses := true, apart := false }
def NamesUnionSaid : Prop := namesUnionRow.holds Try.pinned (OpenSpec.ofChange namesUnionSpec)

/-- ITS FALSE NEIGHBOUR: 'it returns false'. Refute it at one input. -/
def namesUnionWrong : ChangeSpec := { name := "namesUnion", fn := fun _ => fun
  | [d1, d2, d3] => { results := [.lit (.bool false)], args := [d1, d2, d3] }
  | _ => none }
def NamesUnionWrongFalsely : Prop := namesUnionRow.holds Try.pinned (OpenSpec.ofChange namesUnionWrong)

/-- 'norialaw09.NamesLess': WHATEVER THE INPUT: true; the input reads as it did. -/
def namesLessSpec : ChangeSpec := { name := "namesLess", fn := fun _ => fun
  | [d1, d2] => { results := [.lit (.bool true)], args := [d1, d2] }
  | _ => none }
def namesLessRow : OpenClaim := { program := "ytinjbfepjbogeaa", sum := "13fef2a309f724e6d4a5ee5e09b8973f04e09cbaef4dbc191923cb29a16d3432", func := "noria/norialaw09.NamesLess", spec := "namesLess", unfollowed := true, recurses := true, apart := false }
def NamesLessSaid : Prop := namesLessRow.holds Try.pinned (OpenSpec.ofChange namesLessSpec)

/-- ITS FALSE NEIGHBOUR: 'it returns false'. Refute it at one input. -/
def namesLessWrong : ChangeSpec := { name := "namesLess", fn := fun _ => fun
  | [d1, d2] => { results := [.lit (.bool false)], args := [d1, d2] }
  | _ => none }
def NamesLessWrongFalsely : Prop := namesLessRow.holds Try.pinned (OpenSpec.ofChange namesLessWrong)

/-- 'norialaw09.NamesRise': WHATEVER THE INPUT: true; the input reads as it did. -/
def namesRiseSpec : ChangeSpec := { name := "namesRise", fn := fun _ => fun
  | [d1, d2] => { results := [.lit (.bool true)], args := [d1, d2] }
  | _ => none }
def namesRiseRow : OpenClaim := { program := "ytinjbfepjbogeaa", sum := "13fef2a309f724e6d4a5ee5e09b8973f04e09cbaef4dbc191923cb29a16d3432", func := "noria/norialaw09.NamesRise", spec := "namesRise", unfollowed := true, recurses := true, apart := false }
def NamesRiseSaid : Prop := namesRiseRow.holds Try.pinned (OpenSpec.ofChange namesRiseSpec)

/-- ITS FALSE NEIGHBOUR: 'it returns false'. Refute it at one input. -/
def namesRiseWrong : ChangeSpec := { name := "namesRise", fn := fun _ => fun
  | [d1, d2] => { results := [.lit (.bool false)], args := [d1, d2] }
  | _ => none }
def NamesRiseWrongFalsely : Prop := namesRiseRow.holds Try.pinned (OpenSpec.ofChange namesRiseWrong)

/-- 'norialaw09.NamesDelta': WHATEVER THE INPUT: true; the input reads as it did. -/
def namesDeltaSpec : ChangeSpec := { name := "namesDelta", fn := fun _ => fun
  | [d] => { results := [.lit (.bool true)], args := [d] }
  | _ => none }
def namesDeltaRow : OpenClaim := { program := "ytinjbfepjbogeaa", sum := "13fef2a309f724e6d4a5ee5e09b8973f04e09cbaef4dbc191923cb29a16d3432", func := "noria/norialaw09.NamesDelta", spec := "namesDelta", unfollowed := true, recurses := true, apart := false }
def NamesDeltaSaid : Prop := namesDeltaRow.holds Try.pinned (OpenSpec.ofChange namesDeltaSpec)

/-- ITS FALSE NEIGHBOUR: 'it returns false'. Refute it at one input. -/
def namesDeltaWrong : ChangeSpec := { name := "namesDelta", fn := fun _ => fun
  | [d] => { results := [.lit (.bool false)], args := [d] }
  | _ => none }
def NamesDeltaWrongFalsely : Prop := namesDeltaRow.holds Try.pinned (OpenSpec.ofChange namesDeltaWrong)

/- THE SECOND FORM. 'bulk': how many values and letters a reading holds, each counted each time it is reached (what is shared counts as often as it is met; a slice's spare places count too). A statement '..UptoSaid' is the law's where the arguments, and the package variables that the reading takes, are together of bulk at most 1048576: NARROWER than '..Said'. Prove '..Said' where nothing that the law and all that it calls make is longer than what came in: it says more and counts as full. Else prove '..UptoSaid'. A law counts once. -/
mutual
def uptoBulk {H : Type} : DataW H → Nat
  | .lit (.string bytes) => bytes.length + 1
  | .lit _ => 1
  | .nil => 1
  | .ptr d => uptoBulk d + 1
  | .slice elems spare => uptoBulkAll elems + uptoBulkAll spare + 1
  | .agg parts => uptoBulkAll parts + 1
  | .iface _ d => uptoBulk d + 1
  | .map entries => uptoBulkEntries entries + 1
  | .held _ => 1
def uptoBulkAll {H : Type} : List (DataW H) → Nat
  | [] => 0
  | d :: r => uptoBulk d + uptoBulkAll r
def uptoBulkEntries {H : Type} : List (Lit × DataW H) → Nat
  | [] => 0
  | x :: r => uptoBulkEntry x + uptoBulkEntries r
def uptoBulkEntry {H : Type} : Lit × DataW H → Nat
  | (.string bytes, d) => bytes.length + uptoBulk d + 1
  | (_, d) => uptoBulk d + 1
 end
def uptoSmall : (H : Type) → List (DataW H) → Bool := fun _ ds => decide (uptoBulkAll ds ≤ 1048576)
def OpenSpec.upto (s : _root_.Go.ChangeSpec) : _root_.Go.OpenSpec := { _root_.Go.OpenSpec.ofChange s with cond := some uptoSmall }

/-- 'norialaw09.NamesOf', WHERE WHAT IT READS IS OF BULK AT MOST 1048576: true; the input reads as it did. -/
def namesOfUptoRow : OpenClaim := { program := "ytinjbfepjbogeaa", sum := "13fef2a309f724e6d4a5ee5e09b8973f04e09cbaef4dbc191923cb29a16d3432", func := "noria/norialaw09.NamesOf", spec := "namesOf", unfollowed := true, recurses := true, apart := false, narrowed := true }
def NamesOfUptoSaid : Prop := namesOfUptoRow.holds Try.pinned (OpenSpec.upto namesOfSpec)

/-- 'norialaw09.NamesSets', WHERE WHAT IT READS IS OF BULK AT MOST 1048576: true; the input reads as it did. -/
def namesSetsUptoRow : OpenClaim := { program := "ytinjbfepjbogeaa", sum := "13fef2a309f724e6d4a5ee5e09b8973f04e09cbaef4dbc191923cb29a16d3432", func := "noria/norialaw09.NamesSets", spec := "namesSets", unfollowed := true, recurses := true, apart := false, narrowed := true }
def NamesSetsUptoSaid : Prop := namesSetsUptoRow.holds Try.pinned (OpenSpec.upto namesSetsSpec)

/-- 'norialaw09.NamesUnion', WHERE WHAT IT READS IS OF BULK AT MOST 1048576: true; the input reads as it did. -/
def namesUnionUptoRow : OpenClaim := { program := "ytinjbfepjbogeaa", sum := "13fef2a309f724e6d4a5ee5e09b8973f04e09cbaef4dbc191923cb29a16d3432", func := "noria/norialaw09.NamesUnion", spec := "namesUnion", unfollowed := true, recurses := true, apart := false, narrowed := true }
def NamesUnionUptoSaid : Prop := namesUnionUptoRow.holds Try.pinned (OpenSpec.upto namesUnionSpec)

/-- 'norialaw09.NamesLess', WHERE WHAT IT READS IS OF BULK AT MOST 1048576: true; the input reads as it did. -/
def namesLessUptoRow : OpenClaim := { program := "ytinjbfepjbogeaa", sum := "13fef2a309f724e6d4a5ee5e09b8973f04e09cbaef4dbc191923cb29a16d3432", func := "noria/norialaw09.NamesLess", spec := "namesLess", unfollowed := true, recurses := true, apart := false, narrowed := true }
def NamesLessUptoSaid : Prop := namesLessUptoRow.holds Try.pinned (OpenSpec.upto namesLessSpec)

/-- 'norialaw09.NamesRise', WHERE WHAT IT READS IS OF BULK AT MOST 1048576: true; the input reads as it did. -/
def namesRiseUptoRow : OpenClaim := { program := "ytinjbfepjbogeaa", sum := "13fef2a309f724e6d4a5ee5e09b8973f04e09cbaef4dbc191923cb29a16d3432", func := "noria/norialaw09.NamesRise", spec := "namesRise", unfollowed := true, recurses := true, apart := false, narrowed := true }
def NamesRiseUptoSaid : Prop := namesRiseUptoRow.holds Try.pinned (OpenSpec.upto namesRiseSpec)

/-- 'norialaw09.NamesDelta', WHERE WHAT IT READS IS OF BULK AT MOST 1048576: true; the input reads as it did. -/
def namesDeltaUptoRow : OpenClaim := { program := "ytinjbfepjbogeaa", sum := "13fef2a309f724e6d4a5ee5e09b8973f04e09cbaef4dbc191923cb29a16d3432", func := "noria/norialaw09.NamesDelta", spec := "namesDelta", unfollowed := true, recurses := true, apart := false, narrowed := true }
def NamesDeltaUptoSaid : Prop := namesDeltaUptoRow.holds Try.pinned (OpenSpec.upto namesDeltaSpec)

end Rows
end Go.Proofs.Ytinjbfepjbogeaa
