/- What the rows' list gives: the sentinel and the handle; a world for the witness; the row's last step. -/
import Derived.Test.YtdcfdcjgheijcaaGreatDoorRows
import Derived.Test.YtdcfdcjgheijcaaGreatDoorClAs
import Derived.Test.YtdcfdcjgheijcaaGreatDoorClIs
import Derived.ProofKit
import Derived.OpenShut
import Derived.ChangeSame
import Derived.Deep.DeepHandedRow
import Derived.Stop.LaidErr
import Derived.LaidLaws
import Derived.LaidHandle
import Derived.MakeChecks
namespace Go.Proofs.YtdcfdcjgheijcaaGreatDoor
open Go.ChangeShapes Go.WideShapes Go.ChangeAt Go.RowKit

abbrev laidVars : List (String × DataW Unit) := [("errors.errorType", Rows.laid_errors_errorType), ("noria/message.errNone", Rows.laid_noria_message_errNone)]
theorem Tryz.own : ownKnob Tryz.prog.godebug = none := by kernel_rfl
theorem Tryz.gErr : Tryz.prog.globalNamed "noria/message.errNone" = some 0 := by kernel_rfl
theorem Tryz.gErrType : (Tryz.prog.globals[0]?).map (·.type) = some 86 := by kernel_rfl
theorem Tryz.gEt : Tryz.prog.globalNamed "errors.errorType" = some 4 := by kernel_rfl
theorem Tryz.gRt : (Tryz.prog.cutTypes.find? (·.1 == "internal/reflectlite.rtype")).map (·.2) = some 175 := by kernel_rfl
theorem Tryz.gOne : ((List.range Tryz.prog.types.size).filter fun t => Tryz.prog.rowNamed t [101, 114, 114, 111, 114]) = [86] := by kernel_rfl
theorem Tryz.cellsES : Tryz.prog.cellsOf 264 = 1 := by kernel_rfl
theorem Tryz.cellsStr : Tryz.prog.cellsOf 9 = 1 := by kernel_rfl
theorem Tryz.star : "*" ++ "errors.errorString" = "*errors.errorString" := by decide
theorem Tryz.rowES (u : TypeId) (h : Tryz.prog.typeName? 3 u = some "*errors.errorString") : u = 243 :=
  typeName_ptr_named (nm := "errors.errorString") (by rw [Tryz.star]; kernel_rfl) (by kernel_rfl) (by decide) u (by rw [Tryz.star]; exact h)

theorem gv_of_laid {W : World} (h : laidMetH Tryz.prog laidVars W) : ∃ b, Gn b W := by
  have h' : laidMet Tryz.prog [("noria/message.errNone", Rows.laid_noria_message_errNone)] W ∧ handlesMet Tryz.prog [("errors.errorType", Rows.laid_errors_errorType)] W := h
  obtain ⟨a, s, hv, _, _, _⟩ := laid_sentinel h'.1 Tryz.gErr Tryz.gErrType Tryz.underlying86 Tryz.rowES Tryz.underlying243 Tryz.underlying264 rfl rfl Tryz.underlying9 Tryz.cellsES Tryz.cellsStr
  have hc : W.cell? ⟨0, 0, none⟩ = some (.iface 243 (.pointer (some a))) := by simpa using World.var?_cell Tryz.gErr hv 0
  exact ⟨a, hc, World.block_lt_of_cell? W _ hc⟩
theorem ge_of_laid {W : World} (h : laidMetH Tryz.prog laidVars W) : Ge W := by
  have h' : laidMet Tryz.prog [("noria/message.errNone", Rows.laid_noria_message_errNone)] W ∧ handlesMet Tryz.prog [("errors.errorType", Rows.laid_errors_errorType)] W := h
  obtain ⟨name, u, ty, e1, e2, e3, e4, e5⟩ := h'.2 _ (List.mem_singleton.2 rfl)
  have en : name = [101, 114, 114, 111, 114] := (Option.some.inj e1).symm
  subst en
  obtain rfl := Option.some.inj (Tryz.gRt.symm.trans e2)
  have hm : ty ∈ (List.range Tryz.prog.types.size).filter fun t => Tryz.prog.rowNamed t [101, 114, 114, 111, 114] := List.mem_filter.2 ⟨List.mem_range.2 e3, e4⟩
  rw [Tryz.gOne] at hm
  obtain rfl := List.mem_singleton.1 hm
  have hh : typeHandle Tryz.prog 86 = .pointer (some ⟨5, 86, none⟩) := by kernel_rfl
  rw [hh] at e5
  have hc : W.cell? ⟨4, 0, none⟩ = some (.iface 175 (.agg #[.pointer (some ⟨5, 86, none⟩)])) := by simpa using World.var?_cell Tryz.gEt e5 0
  exact ⟨hc, World.block_lt_of_cell? W _ hc⟩

abbrev errText : ByteArray := { data := #[110, 111, 32, 109, 101, 115, 115, 97, 103, 101] }
noncomputable def lowBlock : Nat := (World.holding Tryz.prog default ⟨#[], #[], []⟩).heap.size
noncomputable def laidWorld (os : Os) : World :=
  let w0 := World.holding Tryz.prog os ⟨#[.cells #[.string errText] 264], #[], []⟩
  let put (c : Array Value) (o : Obj) : Obj := match o with
    | .cells _ t frozen => .cells c t frozen
    | o => o
  { w0 with heap := (w0.heap.modify 0 (put #[.iface 243 (.pointer (some ⟨lowBlock, 0, none⟩))])).modify 4 (put #[.iface 175 (.agg #[.pointer (some ⟨5, 86, none⟩)])]) }
theorem laid_plain (os : Os) (args : Array Value) : laidMet Tryz.prog (laidVars.filter fun x => x.2.handleName?.isNone) ((laidWorld os).forCall (fun _ _ => 0) ⟨#[], args, []⟩).memory :=
  laidMet_of_run' 90 (by kernel_rfl) (by kernel_rfl)
theorem laid_met (os : Os) (args : Array Value) : laidMetH Tryz.prog laidVars ((laidWorld os).forCall (fun _ _ => 0) ⟨#[], args, []⟩).memory :=
  laidMetH_of_parts (laid_plain os args) (by kernel_rfl)

/-- The row's last step where of the world behind the call 'Below' alone is known. -/
theorem post_of_below {H : Type} {enc : TypeId × Value → H} {P : Program} {f : Func} {s : ChangeSpec} {apart fresh handsOn again : Bool} {W W' : World} {args : Array Value} {v : Value} {ds gs : List (DataW H)} {before pa pv : List MemPlace}
    (hW : DataW.Whole enc P f.params.toList s.vars apart W args.toList ds gs before)
    (hres : ∀ (b : Nat) (sp : Nat → Bool) (hd : Bool), DataW.TrodAll enc P W' b sp hd f.resultTypes.toList (v.resultList f.resultTypes.size) (s.fn H (ds ++ gs)).results [])
    (hargs : ∀ sp : Nat → Bool, (∀ p ∈ before, sp p.block = true) → DataW.TrodAll enc P W' 0 sp true f.params.toList args.toList (s.fn H (ds ++ gs)).args pa)
    (hvars : ∀ sp : Nat → Bool, (∀ p ∈ before, sp p.block = true) → DataW.TrodVars enc P W' sp s.vars (s.fn H (ds ++ gs)).vars pv)
    (hps : before = pa ++ pv) (hb : Below W.heap.size W W')
    (hok : ∀ (j : Nat) (t : TypeId) (r : Value), f.resultTypes[j]? = some t → (v.resultList f.resultTypes.size)[j]? = some r → Value.okWide P W' .any 0 t r) :
    s.post enc P f apart fresh handsOn again W args v W' := by
  have hlt : ∀ p ∈ before, p.block < W.heap.size := fun p hp => hW.lt p hp
  have hold : ∀ p ∈ before, (fun b => decide (b < W.heap.size)) p.block = true := fun p hp => by simpa using hlt p hp
  refine ⟨ds, gs, before, [], pa, pv, hW, hres _ _ _, hargs _ hold, hvars _ hold, World.keptBut_mono (fun p hp => ⟨hp, ?_⟩) (hb.frame (· ∈ before)), fun _ => ?_⟩
  · rw [hps, List.mem_append] at hp
    exact Or.inr hp
  · obtain ⟨_, _, _, _, _, hz, hn⟩ := hW
    refine ⟨hok, _, _, ([] ++ pa) ++ pv, ⟨[] ++ pa, pv, trodAll_append (hargs _ (fun _ _ => rfl)) (hres _ _ _), hvars _ (fun _ _ => rfl), rfl, ?_, ?_⟩, ?_⟩
    · intro b off hp
      have hin : MemPlace.cell b off ∈ before := by rw [hps]; simpa using hp
      rw [hb.frozen (hlt _ hin)]
      exact hz b off hin
    · intro ha
      have := hn ha
      rw [hps] at this
      simpa using this
    · intro p hp _
      rw [hps]
      simpa using hp
end Go.Proofs.YtdcfdcjgheijcaaGreatDoor
