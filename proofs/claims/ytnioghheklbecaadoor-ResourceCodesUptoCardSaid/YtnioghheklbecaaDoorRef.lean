/- The law's ref: fields as the reference's: the walk. -/
import Derived.Test.YtnioghheklbecaaDoorNum
import Derived.Test.YtnioghheklbecaaDoorKeep
import Derived.Deep.RegionHeld3
import Derived.Deep.AppendLies
namespace Go.Proofs.YtnioghheklbecaaDoor
open Go.RowKit

/-- A field of whatever numbers. -/
structure Gd where
  num : Int
  kind : Int
  n : Nat
  s : ByteArray
def Gd.cells (f : Gd) : List Value := [.int .i64 f.num, .int .i64 f.kind, .int .u64 f.n, .string f.s]
def gdCells (gs : List Gd) : List Value := gs.flatMap Gd.cells
theorem gdCells_snoc (gs : List Gd) (f : Gd) : gdCells (gs ++ [f]) = gdCells gs ++ f.cells := by simp [gdCells]
theorem gdCells_len (gs : List Gd) : (gdCells gs).length = gs.length * 4 := by
  induction gs with
  | nil => rfl
  | cons f gs ih => simp [gdCells, Gd.cells] at ih ⊢; omega
theorem gdCells_at {gs : List Gd} {i j : Nat} (h : i < gs.length) (hj : j < 4) : (gdCells gs)[i * 4 + j]? = (gs[i].cells)[j]? := by
  induction gs generalizing i with
  | nil => simp at h
  | cons f gs ih =>
    have e : gdCells (f :: gs) = f.cells ++ gdCells gs := rfl
    have hl : f.cells.length = 4 := rfl
    cases i with
    | zero => rw [e, Nat.zero_mul, Nat.zero_add, List.getElem?_append_left (by omega)]; rfl
    | succ i =>
      rw [e, List.getElem?_append_right (by omega), hl, show (i + 1) * 4 + j - 4 = i * 4 + j by omega, ih (by simpa using h)]
      rfl

def RowG (W : World) (g : Nat) (gs : List Gd) : Prop :=
  g < W.heap.size ∧ ∀ i (h : i < gs.length), W.cell? ⟨g, i * 4, none⟩ = some (.int .i64 gs[i].num) ∧ W.cell? ⟨g, i * 4 + 1, none⟩ = some (.int .i64 gs[i].kind) ∧ W.cell? ⟨g, i * 4 + 2, none⟩ = some (.int .u64 gs[i].n) ∧ W.cell? ⟨g, i * 4 + 3, none⟩ = some (.string gs[i].s)
theorem RowG.below {W W' : World} {g : Nat} {gs : List Gd} (h : RowG W g gs) (hb : Below W.heap.size W W') : RowG W' g gs :=
  ⟨Nat.lt_of_lt_of_le h.1 hb.size, fun i hi => by
    obtain ⟨h0, h1, h2, h3⟩ := h.2 i hi
    have e : ∀ o, W'.cell? ⟨g, o, none⟩ = W.cell? ⟨g, o, none⟩ := fun o => hb.cell (p := ⟨g, o, none⟩) h.1
    exact ⟨(e _).trans h0, (e _).trans h1, (e _).trans h2, (e _).trans h3⟩⟩
theorem rowG_of {W : World} {base g cap n : Nat} {t : TypeId} {gs : List Gd} (h : W.ownsRow base t 4 (.slice (some ⟨g, 0, none⟩) n cap) n (gdCells gs)) (hn : gs.length = n) : RowG W g gs := by
  refine ⟨(h.lt g rfl).2, fun i hi => ?_⟩
  have hc : ∀ j, j < 4 → W.cell? ⟨g, i * 4 + j, none⟩ = gs[i].cells[j]? := fun j hj => by
    rw [h.cellAt (i * 4 + j) (by omega), gdCells_at hi hj]
  exact ⟨hc 0 (by omega), hc 1 (by omega), hc 2 (by omega), hc 3 (by omega)⟩

theorem Tryd.infoRF : (Tryd.prog.info? 57).map (fun i => (i.zero, i.size, i.bytes)) = some (some (.agg #[.int .i64 0, .int .i64 0, .int .u64 0, .string ⟨#[]⟩]), 4, 40) := by kernel_rfl

end Go.Proofs.YtnioghheklbecaaDoor
