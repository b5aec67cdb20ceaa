/- acks: what its maps are keyed by: a key, a key with an id. -/
import Derived.Test.YtogkdekjcbljnaaDoorMgMap
import Derived.Test.YtogkdekjcbljnaaDoorAkBd
import Derived.Test.YtogkdekjcbljnaaDoorChecked
import Derived.DeepKeys4
import Derived.Maps.Keyed
import Derived.IntWalk
namespace Go.Proofs.YtogkdekjcbljnaaDoor
open Go.RowKit Go.WideMaps

theorem Tryd.akLaid : laidOutB Tryd.prog = true := by kernel_rfl
theorem Tryd.kyLaw : Maps.Keyed Tryd.prog 27 := Maps.Keyed.of_law (deep_law_laid Tryd.akLaid (m := 3) (by omega) (of_decide_eq_true (by kernel_rfl)) (by kernel_rfl) (by kernel_rfl))
theorem Tryd.tkLaw : Maps.Keyed Tryd.prog 63 := Maps.Keyed.of_law (deep_law_laid Tryd.akLaid (m := 3) (by omega) (of_decide_eq_true (by kernel_rfl)) (by kernel_rfl) (by kernel_rfl))
abbrev kyE (k : Ky) : Value := .agg #[.int .i64 k.1, .string k.2]
abbrev Tk := Ky × Int
abbrev tkE (k : Tk) : Value := .agg #[.int .i64 k.1.1, .string k.1.2, .int .i64 k.2]
def i64B (z : Int) : Prop := -9223372036854775808 ≤ z ∧ z ≤ 9223372036854775807
def kyK (k : Ky) : Prop := i64B k.1 ∧ k.2.size ≤ maxLen
def tkK (k : Tk) : Prop := kyK k.1 ∧ i64B k.2
def kyLit (k : Ky) : Lit := .string (keyBytes [.int .i64 k.1, .string k.2.data.toList])
def tkLit (k : Tk) : Lit := .string (keyBytes [.int .i64 k.1.1, .string k.1.2.data.toList, .int .i64 k.2])
theorem kyE_inj {a b : Ky} (h : kyE a = kyE b) : a = b := by
  obtain ⟨a1, a2⟩ := a
  obtain ⟨b1, b2⟩ := b
  simp at h
  obtain ⟨rfl, rfl⟩ := h
  rfl
theorem tkE_inj {a b : Tk} (h : tkE a = tkE b) : a = b := by
  obtain ⟨⟨a1, a2⟩, a3⟩ := a
  obtain ⟨⟨b1, b2⟩, b3⟩ := b
  simp at h
  obtain ⟨rfl, rfl, rfl⟩ := h
  rfl
theorem wf_i64 {z : Int} (h : i64B z) : (Lit.int .i64 z).wf = true := by
  have e1 : IntKind.i64.min = -9223372036854775808 := by kernel_rfl
  have e2 : IntKind.i64.max = 9223372036854775807 := by kernel_rfl
  simp only [Lit.wf, e1, e2, Bool.and_eq_true, decide_eq_true_eq]; exact h
theorem kyKey (k : Ky) (h : kyK k) : keyOf Tryd.prog 27 (kyE k) = some (kyLit k) := by
  obtain ⟨t, x⟩ := k
  obtain ⟨h1, h2⟩ := h
  have hk : Tryd.prog.keyType 27 = true := by kernel_rfl
  have hc : Tryd.prog.cellsOf 27 = 2 := by kernel_rfl
  have cS : Tryd.prog.cellsOf 9 = 1 := by kernel_rfl
  have cU : Tryd.prog.cellsOf 3 = 1 := by kernel_rfl
  have w1 := wf_i64 h1
  dsimp only at w1 h2
  have h0 : 1 < Tryd.prog.types.size := of_decide_eq_true (by kernel_rfl)
  obtain ⟨m, hm⟩ : ∃ m, Tryd.prog.types.size = m + 1 := ⟨Tryd.prog.types.size - 1, by omega⟩
  obtain ⟨m', hm'⟩ : ∃ m', m = m' + 1 := ⟨m - 1, by omega⟩
  subst hm'
  clear h0 h1
  unfold keyOf kyLit
  simp only [Tryd.underlying27]
  rw [if_pos (by simp [hk, Value.formed, Tryd.underlying27, hc]), hm]
  unfold Program.keyLits
  simp only [Tryd.underlying27, Value.cells]
  rw [if_pos (by rw [hc]; exact ⟨rfl, by kernel_rfl⟩)]
  simp [Program.keyLits, Tryd.underlying3, Tryd.underlying9, cS, cU, w1, h2]
theorem tkKey (k : Tk) (h : tkK k) : keyOf Tryd.prog 63 (tkE k) = some (tkLit k) := by
  obtain ⟨⟨t, x⟩, i⟩ := k
  obtain ⟨⟨h1, h2⟩, h3⟩ := h
  have hk : Tryd.prog.keyType 63 = true := by kernel_rfl
  have hc : Tryd.prog.cellsOf 63 = 3 := by kernel_rfl
  have hc2 : Tryd.prog.cellsOf 27 = 2 := by kernel_rfl
  have cS : Tryd.prog.cellsOf 9 = 1 := by kernel_rfl
  have cU : Tryd.prog.cellsOf 3 = 1 := by kernel_rfl
  have w1 := wf_i64 h1
  have w3 := wf_i64 h3
  dsimp only at w1 h2 w3
  have h0 : 2 < Tryd.prog.types.size := of_decide_eq_true (by kernel_rfl)
  obtain ⟨m, hm⟩ : ∃ m, Tryd.prog.types.size = m + 1 := ⟨Tryd.prog.types.size - 1, by omega⟩
  obtain ⟨m', hm'⟩ : ∃ m', m = m' + 1 := ⟨m - 1, by omega⟩
  subst hm'
  obtain ⟨m, hm''⟩ : ∃ m, m' = m + 1 := ⟨m' - 1, by omega⟩
  subst hm''
  clear h0 h1 h3
  unfold keyOf tkLit
  simp only [Tryd.underlying63]
  rw [if_pos (by simp [hk, Value.formed, Tryd.underlying63, hc]), hm]
  unfold Program.keyLits
  simp only [Tryd.underlying63, Value.cells]
  rw [if_pos (by rw [hc]; exact ⟨rfl, by kernel_rfl⟩)]
  simp [Program.keyLits, Tryd.underlying27, Tryd.underlying3, Tryd.underlying9, cS, cU, hc2, w1, w3, h2]
  rw [if_pos (by
    intro i hi
    have hc : i = 0 ∨ i = 1 := by omega
    rcases hc with rfl | rfl <;> simp)]
  rfl
end Go.Proofs.YtogkdekjcbljnaaDoor
