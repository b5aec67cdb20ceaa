/- merge: what its maps are keyed by: a topic, a type, a name. -/
import Derived.Test.YtkjfafnnnkjoeaaGreatDoorMgMap
import Derived.Test.YtkjfafnnnkjoeaaGreatDoorChecked
import Derived.DeepKeys4
import Derived.Maps.Keyed
import Derived.IntWalk
namespace Go.Proofs.YtkjfafnnnkjoeaaGreatDoor
open Go.RowKit Go.WideMaps

theorem Tryz.tkLaid : laidOutB Tryz.prog = true := by kernel_rfl
theorem Tryz.tkLaw : Maps.Keyed Tryz.prog 74 := Maps.Keyed.of_law (deep_law_laid Tryz.tkLaid (m := 2) (by omega) (of_decide_eq_true (by kernel_rfl)) (by kernel_rfl) (by kernel_rfl))
/-- A topic: an id, a type. -/
abbrev Tk := Int × Int
abbrev tkV (k : Tk) : Value := .agg #[.int .i64 k.1, .int .i64 k.2]
def i64B (z : Int) : Prop := -9223372036854775808 ≤ z ∧ z ≤ 9223372036854775807
def tkOk (k : Tk) : Prop := i64B k.1 ∧ i64B k.2
def tkLit (k : Tk) : Lit := .string (keyBytes [.int .i64 k.1, .int .i64 k.2])
theorem tkV_inj {a b : Tk} (h : tkV a = tkV b) : a = b := by
  obtain ⟨a1, a2⟩ := a
  obtain ⟨b1, b2⟩ := b
  simp at h
  obtain ⟨rfl, rfl⟩ := h
  rfl
theorem wf_i64 {z : Int} (h : i64B z) : (Lit.int .i64 z).wf = true := by
  have e1 : IntKind.i64.min = -9223372036854775808 := by kernel_rfl
  have e2 : IntKind.i64.max = 9223372036854775807 := by kernel_rfl
  simp only [Lit.wf, e1, e2, Bool.and_eq_true, decide_eq_true_eq]; exact h
theorem tkKey (k : Tk) (h : tkOk k) : keyOf Tryz.prog 74 (tkV k) = some (tkLit k) := by
  obtain ⟨t, x⟩ := k
  obtain ⟨h1, h2⟩ := h
  have hk : Tryz.prog.keyType 74 = true := by kernel_rfl
  have hc : Tryz.prog.cellsOf 74 = 2 := by kernel_rfl
  have cU : Tryz.prog.cellsOf 3 = 1 := by kernel_rfl
  have w1 := wf_i64 h1
  have w2 := wf_i64 h2
  dsimp only at w1 w2
  have h0 : 1 < Tryz.prog.types.size := of_decide_eq_true (by kernel_rfl)
  obtain ⟨m, hm⟩ : ∃ m, Tryz.prog.types.size = m + 1 := ⟨Tryz.prog.types.size - 1, by omega⟩
  obtain ⟨m', hm'⟩ : ∃ m', m = m' + 1 := ⟨m - 1, by omega⟩
  subst hm'
  clear h0 h1 h2
  unfold keyOf tkLit
  simp only [Tryz.underlying74]
  rw [if_pos (by simp [hk, Value.formed, Tryz.underlying74, hc]), hm]
  unfold Program.keyLits
  simp only [Tryz.underlying74, Value.cells]
  rw [if_pos (by rw [hc]; exact ⟨rfl, by kernel_rfl⟩)]
  simp [Program.keyLits, Tryz.underlying3, cU, w1, w2]
theorem Tryz.ikLaw : Maps.Keyed Tryz.prog 3 := Maps.int_keyed Tryz.underlying3
abbrev ikV (z : Int) : Value := .int .i64 z
theorem ikV_inj {a b : Int} (h : ikV a = ikV b) : a = b := by simp at h; exact h
theorem ikKey (z : Int) (h : i64B z) : keyOf Tryz.prog 3 (ikV z) = some (.int .i64 z) := by
  unfold keyOf
  simp only [Tryz.underlying3]
  simp [mapKey, Tryz.underlying3, wf_i64 h]
theorem Tryz.skLaw : Maps.Keyed Tryz.prog 9 := Maps.string_keyed Tryz.underlying9
abbrev skV (s : List UInt8) : Value := .string ⟨s.toArray⟩
def skOk (s : List UInt8) : Prop := s.length ≤ maxLen
theorem skV_inj {a b : List UInt8} (h : skV a = skV b) : a = b := by simp at h; exact h
theorem skKey (s : List UInt8) (hs : skOk s) : keyOf Tryz.prog 9 (skV s) = some (.string s) := by
  have := keyOf_string_mk (s := ⟨s.toArray⟩) Tryz.underlying9 (by have h : s.length ≤ maxLen := hs; simpa [ByteArray.size] using h)
  simpa using this
/-- The three kinds of maps. -/
abbrev TMap (w : World) (m : Nat) (C : Tk → Option Value) : Prop := KMap tkV tkOk w m C
abbrev IMap (w : World) (m : Nat) (C : Int → Option Value) : Prop := KMap ikV i64B w m C
abbrev SMap (w : World) (m : Nat) (C : List UInt8 → Option Value) : Prop := KMap skV skOk w m C
end Go.Proofs.YtkjfafnnnkjoeaaGreatDoor
