/- names: Add, Drop. -/
import Derived.Test.YtdcfdcjgheijcaaDoorNmLater
import Derived.Test.YtdcfdcjgheijcaaDoorNmLess
namespace Go.Proofs.YtdcfdcjgheijcaaDoor
open Go.RowKit Go.Lib

/-- A set in a box, behind w. -/
def L1 (w : World) (aa : Bool) (av : Value) (w' : World) : Prop :=
  w'.cell? ⟨w.heap.size, 0, none⟩ = some (.bool aa) ∧ w'.cell? ⟨w.heap.size, 1, none⟩ = some av ∧ w.heap.size + 1 < w'.heap.size ∧ Below w.heap.size w w'
theorem L1.later {w w1 w2 : World} {aa : Bool} {av : Value} (h : L1 w aa av w1) (hb : Below w1.heap.size w1 w2) : L1 w aa av w2 := by
  obtain ⟨h0, h1, h4, h5⟩ := h
  exact ⟨(hb.cell (p := ⟨_, _, none⟩) (by show w.heap.size < _; omega)).trans h0, (hb.cell (p := ⟨_, _, none⟩) (by show w.heap.size < _; omega)).trans h1, Nat.lt_of_lt_of_le h4 hb.size, h5.trans (hb.mono h5.size)⟩
theorem L1.set {w w1 : World} {aa : Bool} {av : Value} (h : L1 w aa av w1) (u0 u1 : Value) : L1 w aa av ((w1.setCell ⟨w.heap.size + 1, 0, none⟩ u0).setCell ⟨w.heap.size + 1, 1, none⟩ u1) := by
  obtain ⟨h0, h1, h4, h5⟩ := h
  refine ⟨?_, ?_, by simp only [World.size_setCell]; exact h4, below_set2 h5 (by omega) _ _⟩
  all_goals
    rw [World.cell?_setCell_other _ _ _ _ (by simp), World.cell?_setCell_other _ _ _ _ (by simp)]
    assumption
/-- What is added, or dropped, is of both. -/
def AddFit (al l : List (List UInt8)) : Prop := NmFit al ∧ NmFit l ∧ (al.length + l.length) * 16 ≤ 140737488355328
theorem of_fit {l : List (List UInt8)} {sa : Bool} {sl : List (List UInt8)} (h : NmFit l) (he : nOf okN l = ⟨sa, sl⟩) : NmFit sl ∧ sl.length ≤ l.length := by
  have e : sl = srt (l.filter okN) := (congrArg Ns.ns he).symm
  have h1 : sl.length ≤ l.length := by rw [e]; exact Nat.le_trans (srt_len _) (List.length_filter_le _ _)
  refine ⟨⟨fun s hs => ?_, ?_⟩, h1⟩
  · rw [e, srt_mem, List.mem_filter] at hs
    exact h.1 s hs.1
  · have := h.2; omega

end Go.Proofs.YtdcfdcjgheijcaaDoor
