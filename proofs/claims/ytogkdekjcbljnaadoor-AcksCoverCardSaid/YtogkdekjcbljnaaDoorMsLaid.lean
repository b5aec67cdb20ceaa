/- What the rows' list gives: the two sentinels; a world for the witness; the row's last step. -/
import Derived.Test.YtogkdekjcbljnaaDoorRows
import Derived.Test.YtogkdekjcbljnaaDoorMsIs
import Derived.Test.YtogkdekjcbljnaaDoorRead
import Derived.ProofKit
import Derived.OpenShut
import Derived.ChangeSame
import Derived.Deep.DeepHandedRow
import Derived.Stop.LaidErr
import Derived.LaidLaws
import Derived.MakeChecks
namespace Go.Proofs.YtogkdekjcbljnaaDoor
open Go.ChangeShapes Go.WideShapes Go.ChangeAt Go.RowKit

abbrev laidVars : List (String × DataW Unit) := [("noria/wire.errForm", Rows.laid_noria_wire_errForm), ("noria/message.errNone", Rows.laid_noria_message_errNone)]
theorem Tryd.own : ownKnob Tryd.prog.godebug = none := by kernel_rfl
theorem Tryd.gErr : Tryd.prog.globalNamed "noria/wire.errForm" = some 1 := by kernel_rfl
theorem Tryd.gErrType : (Tryd.prog.globals[1]?).map (·.type) = some 74 := by kernel_rfl
theorem Tryd.gNo : Tryd.prog.globalNamed "noria/message.errNone" = some 0 := by kernel_rfl
theorem Tryd.gNoType : (Tryd.prog.globals[0]?).map (·.type) = some 74 := by kernel_rfl
theorem Tryd.cellsES : Tryd.prog.cellsOf 185 = 1 := by kernel_rfl
theorem Tryd.cellsStr : Tryd.prog.cellsOf 9 = 1 := by kernel_rfl
theorem Tryd.star : "*" ++ "errors.errorString" = "*errors.errorString" := by decide
theorem Tryd.rowES (u : TypeId) (h : Tryd.prog.typeName? 3 u = some "*errors.errorString") : u = 161 :=
  typeName_ptr_named (nm := "errors.errorString") (by rw [Tryd.star]; kernel_rfl) (by kernel_rfl) (by decide) u (by rw [Tryd.star]; exact h)

theorem gv_of_laid {W : World} (h : laidMetH Tryd.prog laidVars W) : ∃ b : Addr × Addr, Gv b.1 W ∧ Gn b.2 W := by
  rw [Go.MakeChecks.laidMetH_plain _ _ _ (by rfl)] at h
  obtain ⟨a, s, hv, _, _, _⟩ := laid_sentinel h Tryd.gErr Tryd.gErrType Tryd.underlying74 Tryd.rowES Tryd.underlying161 Tryd.underlying185 rfl rfl Tryd.underlying9 Tryd.cellsES Tryd.cellsStr
  obtain ⟨a2, s2, hv2, _, _, _⟩ := laid_sentinel h.tail Tryd.gNo Tryd.gNoType Tryd.underlying74 Tryd.rowES Tryd.underlying161 Tryd.underlying185 rfl rfl Tryd.underlying9 Tryd.cellsES Tryd.cellsStr
  have hc : W.cell? ⟨1, 0, none⟩ = some (.iface 161 (.pointer (some a))) := by simpa using World.var?_cell Tryd.gErr hv 0
  have hc2 : W.cell? ⟨0, 0, none⟩ = some (.iface 161 (.pointer (some a2))) := by simpa using World.var?_cell Tryd.gNo hv2 0
  exact ⟨(a, a2), ⟨hc, World.block_lt_of_cell? W _ hc⟩, ⟨hc2, World.block_lt_of_cell? W _ hc2⟩⟩

abbrev errText : ByteArray := { data := #[110, 111, 116, 32, 111, 102, 32, 116, 104, 101, 32, 102, 111, 114, 109] }
abbrev noText : ByteArray := { data := #[110, 111, 32, 109, 101, 115, 115, 97, 103, 101] }
noncomputable def lowBlock : Nat := (World.holding Tryd.prog default ⟨#[], #[], []⟩).heap.size
noncomputable def laidWorld (os : Os) : World :=
  let w0 := World.holding Tryd.prog os ⟨#[.cells #[.string errText] 185, .cells #[.string noText] 185], #[], []⟩
  let put (c : Array Value) (o : Obj) : Obj := match o with
    | .cells _ t frozen => .cells c t frozen
    | o => o
  { w0 with heap := (w0.heap.modify 1 (put #[.iface 161 (.pointer (some ⟨lowBlock, 0, none⟩))])).modify 0 (put #[.iface 161 (.pointer (some ⟨lowBlock + 1, 0, none⟩))]) }
theorem laid_met (os : Os) (args : Array Value) : laidMet Tryd.prog laidVars ((laidWorld os).forCall (fun _ _ => 0) ⟨#[], args, []⟩).memory :=
  laidMet_of_run' 8 (by kernel_rfl) (by kernel_rfl)

/-- The row's last step where of the world behind the call 'Below' alone is known. -/
theorem post_of_below {H : Type} {enc : TypeId × Value → H} {P : Program} {f : Func} {s : ChangeSpec} {apart fresh handsOn again : Bool} {W W' : World} {args : Array Value} {v : Value} {ds gs : List (DataW H)} {before pa pv : List MemPlace}
    (hW : DataW.Whole enc P f.params.toList s.vars apart W args.toList ds gs before)
    (hres : ∀ (b : Nat) (sp : Nat → Bool) (hd : Bool), DataW.TrodAll enc P W' b sp hd f.resultTypes.toList (v.resultList f.resultTypes.size) (s.fn H (ds ++ gs)).results [])
    (hargs : ∀ sp : Nat → Bool, (∀ p ∈ before, sp p.block = true) → DataW.TrodAll enc P W' 0 sp true f.params.toList args.toList (s.fn H (ds ++ gs)).args pa)
    (hvars : ∀ sp : Nat → Bool, (∀ p ∈ before, sp p.block = true) → DataW.TrodVars enc P W' sp s.vars (s.fn H (ds ++ gs)).vars pv)
    (hps : before = pa ++ pv) (hb : Below W.heap.size W W')
    (hok : ∀ (j : Nat) (t : TypeId) (r : Value), f.resultTypes[j]? = some t → (v.resultList f.resultTypes.size)[j]? = some r → Value.okWide P W' .any 0 t r) :
    s.post enc P f apart fresh handsOn again W args v W' := by
  have hlt : ∀ p ∈ before, p.block < W.heap.size := fun p hp => hW.lt p hp
  have hold : ∀ p ∈ before, (fun b => decide (b < W.heap.size)) p.block = true := fun p hp => by simpa using hlt p hp
  refine ⟨ds, gs, before, [], pa, pv, hW, hres _ _ _, hargs _ hold, hvars _ hold, World.keptBut_mono (fun p hp => ⟨hp, ?_⟩) (hb.frame (· ∈ before)), fun _ => ?_⟩
  · rw [hps, List.mem_append] at hp
    exact Or.inr hp
  · obtain ⟨_, _, _, _, _, hz, hn⟩ := hW
    refine ⟨hok, _, _, ([] ++ pa) ++ pv, ⟨[] ++ pa, pv, trodAll_append (hargs _ (fun _ _ => rfl)) (hres _ _ _), hvars _ (fun _ _ => rfl), rfl, ?_, ?_⟩, ?_⟩
    · intro b off hp
      have hin : MemPlace.cell b off ∈ before := by rw [hps]; simpa using hp
      rw [hb.frozen (hlt _ hin)]
      exact hz b off hin
    · intro ha
      have := hn ha
      rw [hps] at this
      simpa using this
    · intro p hp _
      rw [hps]
      simpa using hp
end Go.Proofs.YtogkdekjcbljnaaDoor
