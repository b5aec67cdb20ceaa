/- payload: a part as it stands in memory, and a list of parts. -/
import Derived.Test.YtngceccpebdgmaaGreatDoorPlPlain
import Derived.Test.YtngceccpebdgmaaGreatDoorBld
import Derived.Shelf.Abstract
namespace Go.Proofs.YtngceccpebdgmaaGreatDoor
open Go.RowKit Go.Shelf

/-- A part: its number, its kind, its two functions and what they have captured. -/
structure PartV where
  num : Nat
  kind : Nat
  pg : Nat
  plb : Array Value
  tg : Nat
  tlb : Array Value
def PartV.cells (x : PartV) : List Value := [.int .i64 x.num, .int .i64 x.kind, .func (.func x.pg) #[] x.plb, .func (.func x.tg) #[] x.tlb]
def partCells (xs : List PartV) : List Value := xs.flatMap PartV.cells
theorem partCells_snoc (xs : List PartV) (x : PartV) : partCells (xs ++ [x]) = partCells xs ++ x.cells := by simp [partCells]
theorem partCells_len (xs : List PartV) : (partCells xs).length = xs.length * 4 := by
  induction xs with
  | nil => rfl
  | cons x xs ih => simp [partCells, PartV.cells] at ih ⊢; omega

/-- The parts xs stand in block g. -/
def PartsAt (w : World) (g : Nat) (xs : List PartV) : Prop :=
  g < w.heap.size ∧ ∀ i x, xs[i]? = some x → w.cell? ⟨g, i * 4, none⟩ = some (.int .i64 x.num) ∧ w.cell? ⟨g, i * 4 + 1, none⟩ = some (.int .i64 x.kind) ∧ w.cell? ⟨g, i * 4 + 2, none⟩ = some (.func (.func x.pg) #[] x.plb) ∧ w.cell? ⟨g, i * 4 + 3, none⟩ = some (.func (.func x.tg) #[] x.tlb)
theorem PartsAt.below {w w' : World} {B g : Nat} {xs : List PartV} (h : PartsAt w g xs) (hb : Below B w w') (hg : g < B) : PartsAt w' g xs := by
  refine ⟨Nat.lt_of_lt_of_le h.1 hb.size, fun i x hx => ?_⟩
  obtain ⟨a, b, c, d⟩ := h.2 i x hx
  exact ⟨(hb.cell (p := ⟨g, _, none⟩) hg).trans a, (hb.cell (p := ⟨g, _, none⟩) hg).trans b, (hb.cell (p := ⟨g, _, none⟩) hg).trans c, (hb.cell (p := ⟨g, _, none⟩) hg).trans d⟩
theorem partCells_get : ∀ (xs : List PartV) (i : Nat) (x : PartV), xs[i]? = some x → (partCells xs)[i * 4]? = some (.int .i64 x.num) ∧ (partCells xs)[i * 4 + 1]? = some (.int .i64 x.kind) ∧ (partCells xs)[i * 4 + 2]? = some (.func (.func x.pg) #[] x.plb) ∧ (partCells xs)[i * 4 + 3]? = some (.func (.func x.tg) #[] x.tlb)
  | [], i, x, h => by simp at h
  | y :: ys, 0, x, h => by
    simp at h; subst h
    simp [partCells, PartV.cells]
  | y :: ys, i + 1, x, h => by
    have := partCells_get ys i x (by simpa using h)
    have e : ∀ j, (partCells (y :: ys))[(i + 1) * 4 + j]? = (partCells ys)[i * 4 + j]? := by
      intro j
      have : (i + 1) * 4 + j = y.cells.length + (i * 4 + j) := by simp [PartV.cells]; omega
      rw [this]
      show (y.cells ++ partCells ys)[y.cells.length + (i * 4 + j)]? = _
      rw [List.getElem?_append_right (by omega)]
      congr 1; omega
    have e0 := e 0
    simp only [Nat.add_zero] at e0
    rw [e0, e 1, e 2, e 3]
    exact this
theorem PartsAt.of_row {w : World} {base e g cap : Nat} {xs : List PartV} (h : w.ownsRow base e 4 (.slice (some ⟨g, 0, none⟩) xs.length cap) xs.length (partCells xs)) (hx : 0 < xs.length) : PartsAt w g xs := by
  have hlen := partCells_len xs
  have all : ∀ i x, xs[i]? = some x → w.cell? ⟨g, i * 4, none⟩ = some (.int .i64 x.num) ∧ w.cell? ⟨g, i * 4 + 1, none⟩ = some (.int .i64 x.kind) ∧ w.cell? ⟨g, i * 4 + 2, none⟩ = some (.func (.func x.pg) #[] x.plb) ∧ w.cell? ⟨g, i * 4 + 3, none⟩ = some (.func (.func x.tg) #[] x.tlb) := fun i x hi => by
    have hlt := (List.getElem?_eq_some_iff.1 hi).1
    obtain ⟨a, b, c, d⟩ := partCells_get xs i x hi
    exact ⟨(h.cellAt _ (by omega)).trans a, (h.cellAt _ (by omega)).trans b, (h.cellAt _ (by omega)).trans c, (h.cellAt _ (by omega)).trans d⟩
  exact ⟨World.block_lt_of_cell? w _ (all 0 _ (List.getElem?_eq_getElem hx)).1, all⟩

/-- Called on the value in block B, the part's first function says t, and makes memory alone; in whatever world in which nothing below H has turned since w. -/
def PutsAs (H B : Nat) (w : World) (x : PartV) (t : List UInt8) : Prop :=
  Enters Tryz.prog x.pg ∧ ∀ W, Below H w W → Calls Tryz.prog x.pg (#[.pointer (some ⟨B, 0, none⟩)] ++ x.plb) W fun e w' => e = .returned (.string ⟨t.toArray⟩) ∧ Below W.heap.size W w'
theorem strCells_mk (l : List UInt8) : Lib.strCells ⟨l.toArray⟩ = Lib.byteCells l := rfl
theorem flatten_take_succ {ts : List (List UInt8)} {k : Nat} {t : List UInt8} (h : ts[k]? = some t) : (ts.take (k + 1)).flatten = (ts.take k).flatten ++ t := by
  have hk := (List.getElem?_eq_some_iff.1 h)
  rw [List.take_succ_eq_append_getElem hk.1, List.flatten_append, hk.2]; simp
theorem flatten_take_le (ts : List (List UInt8)) (k : Nat) : (ts.take k).flatten.length ≤ ts.flatten.length := by
  conv => rhs; rw [← List.take_append_drop k ts, List.flatten_append]
  simp
end Go.Proofs.YtngceccpebdgmaaGreatDoor
