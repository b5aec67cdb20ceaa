/- merge: what the rows' list gives: the three sentinels; a world for the witness; the row's last step. -/
import Derived.Test.YtkjfafnnnkjoeaaGreatDoorRows
import Derived.Test.YtkjfafnnnkjoeaaGreatDoorMgEx
import Derived.ProofKit
import Derived.OpenShut
import Derived.ChangeSame
import Derived.Deep.DeepHandedRow
import Derived.Stop.LaidErr
import Derived.Stop.LaidTwo
import Derived.LaidLaws
import Derived.MakeChecks
namespace Go.Proofs.YtkjfafnnnkjoeaaGreatDoor
open Go.ChangeShapes Go.WideShapes Go.ChangeAt Go.RowKit

abbrev laidVars : List (String × DataW Unit) := [("math/bits.deBruijn32tab", Rows.laid_math_bits_deBruijn32tab), ("math/bits.deBruijn64tab", Rows.laid_math_bits_deBruijn64tab), ("internal/strconv.uint64pow10", Rows.laid_internal_strconv_uint64pow10), ("noria/merge.errArg", Rows.laid_noria_merge_errArg), ("noria/merge.errFull", Rows.laid_noria_merge_errFull), ("noria/merge.errNone", Rows.laid_noria_merge_errNone)]
theorem Tryz.own : ownKnob Tryz.prog.godebug = none := by kernel_rfl
theorem Tryz.gA : Tryz.prog.globalNamed "noria/merge.errArg" = some 1 := by kernel_rfl
theorem Tryz.gAt : (Tryz.prog.globals[1]?).map (·.type) = some 67 := by kernel_rfl
theorem Tryz.gF : Tryz.prog.globalNamed "noria/merge.errFull" = some 2 := by kernel_rfl
theorem Tryz.gFt : (Tryz.prog.globals[2]?).map (·.type) = some 67 := by kernel_rfl
theorem Tryz.gN : Tryz.prog.globalNamed "noria/merge.errNone" = some 0 := by kernel_rfl
theorem Tryz.gNt : (Tryz.prog.globals[0]?).map (·.type) = some 67 := by kernel_rfl
theorem Tryz.cellsES : Tryz.prog.cellsOf 181 = 1 := by kernel_rfl
theorem Tryz.cellsStr : Tryz.prog.cellsOf 9 = 1 := by kernel_rfl
theorem Tryz.star : "*" ++ "errors.errorString" = "*errors.errorString" := by decide
theorem Tryz.rowES (u : TypeId) (h : Tryz.prog.typeName? 3 u = some "*errors.errorString") : u = 157 :=
  typeName_ptr_named (nm := "errors.errorString") (by rw [Tryz.star]; kernel_rfl) (by kernel_rfl) (by decide) u (by rw [Tryz.star]; exact h)

theorem gm_of_laid {W : World} (h : laidMetH Tryz.prog laidVars W) : ∃ b : Addr × Addr × Addr, Gm b.1 b.2.1 b.2.2 W := by
  rw [Go.MakeChecks.laidMetH_plain _ _ _ (by rfl)] at h
  obtain ⟨a0, a1, s0, s1, c0, c1, t0, t1, hv0, hv1, hs0, ht0, _, hs1, ht1, _, hne, hh0, hh1⟩ := laid_sentinels2 h.tail.tail.tail Tryz.gA Tryz.gAt Tryz.gF Tryz.gFt Tryz.underlying67 Tryz.rowES Tryz.underlying157 Tryz.underlying181 rfl rfl Tryz.underlying9 Tryz.cellsES Tryz.cellsStr
  obtain ⟨b1, a2, r1, s2, d1, c2, u1, t2, hw1, hv2, _, _, _, hs2, ht2, _, hne2, _, hh2⟩ := laid_sentinels2 h.tail.tail.tail.tail Tryz.gF Tryz.gFt Tryz.gN Tryz.gNt Tryz.underlying67 Tryz.rowES Tryz.underlying157 Tryz.underlying181 rfl rfl Tryz.underlying9 Tryz.cellsES Tryz.cellsStr
  rw [hv1] at hw1
  simp only [Option.some.injEq, Array.mk.injEq, List.cons.injEq, Value.iface.injEq, Value.pointer.injEq, and_true, true_and] at hw1
  subst hw1
  have hne3 : a2 ≠ a0 := by
    rintro rfl
    rw [hs0] at hs2
    have := Value.string.inj (Option.some.inj hs2)
    subst this
    rw [ht0] at ht2
    exact absurd ht2 (by decide)
  have hc0 : W.cell? ⟨1, 0, none⟩ = some (.iface 157 (.pointer (some a0))) := by simpa using World.var?_cell Tryz.gA hv0 0
  have hc1 : W.cell? ⟨2, 0, none⟩ = some (.iface 157 (.pointer (some a1))) := by simpa using World.var?_cell Tryz.gF hv1 0
  have hc2 : W.cell? ⟨0, 0, none⟩ = some (.iface 157 (.pointer (some a2))) := by simpa using World.var?_cell Tryz.gN hv2 0
  exact ⟨(a0, a1, a2), hc0, hc1, hc2, World.block_lt_of_cell? W _ hc0, World.block_lt_of_cell? W _ hc1, World.block_lt_of_cell? W _ hc2, ⟨fun e => hne e.symm, ⟨_, _, hh1⟩, ⟨_, _, hh0⟩⟩, ⟨hne3, ⟨_, _, hh2⟩, ⟨_, _, hh0⟩⟩, ⟨fun e => hne2 e.symm, ⟨_, _, hh2⟩, ⟨_, _, hh1⟩⟩⟩

abbrev argText : ByteArray := { data := #[110, 111, 32, 115, 117, 99, 104, 32, 105, 100, 44, 32, 111, 114, 32, 116, 121, 112, 101] }
abbrev fullText : ByteArray := { data := #[116, 111, 111, 32, 109, 97, 110, 121, 32, 110, 97, 109, 101, 115] }
abbrev noneText : ByteArray := { data := #[110, 111, 116, 104, 105, 110, 103, 32, 105, 115, 32, 119, 97, 110, 116, 101, 100] }
noncomputable def lowBlock : Nat := (World.holding Tryz.prog default ⟨#[], #[], []⟩).heap.size
def cells32 : Array Value := #[.int .u8 0, .int .u8 1, .int .u8 28, .int .u8 2, .int .u8 29, .int .u8 14, .int .u8 24, .int .u8 3, .int .u8 30, .int .u8 22, .int .u8 20, .int .u8 15, .int .u8 25, .int .u8 17, .int .u8 4, .int .u8 8, .int .u8 31, .int .u8 27, .int .u8 13, .int .u8 23, .int .u8 21, .int .u8 19, .int .u8 16, .int .u8 7, .int .u8 26, .int .u8 12, .int .u8 18, .int .u8 6, .int .u8 11, .int .u8 5, .int .u8 10, .int .u8 9]
def cells64 : Array Value := #[.int .u8 0, .int .u8 1, .int .u8 56, .int .u8 2, .int .u8 57, .int .u8 49, .int .u8 28, .int .u8 3, .int .u8 61, .int .u8 58, .int .u8 42, .int .u8 50, .int .u8 38, .int .u8 29, .int .u8 17, .int .u8 4, .int .u8 62, .int .u8 47, .int .u8 59, .int .u8 36, .int .u8 45, .int .u8 43, .int .u8 51, .int .u8 22, .int .u8 53, .int .u8 39, .int .u8 33, .int .u8 30, .int .u8 24, .int .u8 18, .int .u8 12, .int .u8 5, .int .u8 63, .int .u8 55, .int .u8 48, .int .u8 27, .int .u8 60, .int .u8 41, .int .u8 37, .int .u8 16, .int .u8 46, .int .u8 35, .int .u8 44, .int .u8 21, .int .u8 52, .int .u8 32, .int .u8 23, .int .u8 11, .int .u8 54, .int .u8 26, .int .u8 40, .int .u8 15, .int .u8 34, .int .u8 20, .int .u8 31, .int .u8 10, .int .u8 25, .int .u8 14, .int .u8 19, .int .u8 9, .int .u8 13, .int .u8 8, .int .u8 7, .int .u8 6]
def cellsPow : Array Value := #[.int .u64 1, .int .u64 10, .int .u64 100, .int .u64 1000, .int .u64 10000, .int .u64 100000, .int .u64 1000000, .int .u64 10000000, .int .u64 100000000, .int .u64 1000000000, .int .u64 10000000000, .int .u64 100000000000, .int .u64 1000000000000, .int .u64 10000000000000, .int .u64 100000000000000, .int .u64 1000000000000000, .int .u64 10000000000000000, .int .u64 100000000000000000, .int .u64 1000000000000000000, .int .u64 10000000000000000000]
noncomputable def laidWorld (os : Os) : World :=
  let w0 := World.holding Tryz.prog os ⟨#[.cells #[.string argText] 181, .cells #[.string fullText] 181, .cells #[.string noneText] 181], #[], []⟩
  let put (c : Array Value) (o : Obj) : Obj := match o with
    | .cells _ t frozen => .cells c t frozen
    | o => o
  { w0 with heap := (((((w0.heap.modify 1 (put #[.iface 157 (.pointer (some ⟨lowBlock, 0, none⟩))])).modify 2 (put #[.iface 157 (.pointer (some ⟨lowBlock + 1, 0, none⟩))])).modify 0 (put #[.iface 157 (.pointer (some ⟨lowBlock + 2, 0, none⟩))])).modify 3 (put cellsPow)).modify 4 (put cells32)).modify 5 (put cells64) }
theorem laid_met (os : Os) (args : Array Value) : laidMetH Tryz.prog laidVars ((laidWorld os).forCall (fun _ _ => 0) ⟨#[], args, []⟩).memory := by
  rw [Go.MakeChecks.laidMetH_plain _ _ _ (by rfl)]
  exact laidMet_of_run' 90 (by kernel_rfl) (by kernel_rfl)

/-- The row's last step where of the world behind the call 'Below' alone is known. -/
theorem post_of_below {H : Type} {enc : TypeId × Value → H} {P : Program} {f : Func} {s : ChangeSpec} {apart fresh handsOn again : Bool} {W W' : World} {args : Array Value} {v : Value} {ds gs : List (DataW H)} {before pa pv : List MemPlace}
    (hW : DataW.Whole enc P f.params.toList s.vars apart W args.toList ds gs before)
    (hres : ∀ (b : Nat) (sp : Nat → Bool) (hd : Bool), DataW.TrodAll enc P W' b sp hd f.resultTypes.toList (v.resultList f.resultTypes.size) (s.fn H (ds ++ gs)).results [])
    (hargs : ∀ sp : Nat → Bool, (∀ p ∈ before, sp p.block = true) → DataW.TrodAll enc P W' 0 sp true f.params.toList args.toList (s.fn H (ds ++ gs)).args pa)
    (hvars : ∀ sp : Nat → Bool, (∀ p ∈ before, sp p.block = true) → DataW.TrodVars enc P W' sp s.vars (s.fn H (ds ++ gs)).vars pv)
    (hps : before = pa ++ pv) (hb : Below W.heap.size W W')
    (hok : ∀ (j : Nat) (t : TypeId) (r : Value), f.resultTypes[j]? = some t → (v.resultList f.resultTypes.size)[j]? = some r → Value.okWide P W' .any 0 t r) :
    s.post enc P f apart fresh handsOn again W args v W' := by
  have hlt : ∀ p ∈ before, p.block < W.heap.size := fun p hp => hW.lt p hp
  have hold : ∀ p ∈ before, (fun b => decide (b < W.heap.size)) p.block = true := fun p hp => by simpa using hlt p hp
  refine ⟨ds, gs, before, [], pa, pv, hW, hres _ _ _, hargs _ hold, hvars _ hold, World.keptBut_mono (fun p hp => ⟨hp, ?_⟩) (hb.frame (· ∈ before)), fun _ => ?_⟩
  · rw [hps, List.mem_append] at hp
    exact Or.inr hp
  · obtain ⟨_, _, _, _, _, hz, hn⟩ := hW
    refine ⟨hok, _, _, ([] ++ pa) ++ pv, ⟨[] ++ pa, pv, trodAll_append (hargs _ (fun _ _ => rfl)) (hres _ _ _), hvars _ (fun _ _ => rfl), rfl, ?_, ?_⟩, ?_⟩
    · intro b off hp
      have hin : MemPlace.cell b off ∈ before := by rw [hps]; simpa using hp
      rw [hb.frozen (hlt _ hin)]
      exact hz b off hin
    · intro ha
      have := hn ha
      rw [hps] at this
      simpa using this
    · intro p hp _
      rw [hps]
      simpa using hp
theorem gv_of_laid {W : World} (h : laidMetH Tryz.prog laidVars W) : ∃ b : Addr × Addr × Addr, Gm b.1 b.2.1 b.2.2 W := gm_of_laid h
end Go.Proofs.YtkjfafnnnkjoeaaGreatDoor
