/- link: bytes that are all 0. -/
import Derived.Test.YtkfbhiggnnjoiaaDoorLkEx
import Derived.LoopTactic
import Derived.Laws.MakeOwn
namespace Go.Proofs.YtkfbhiggnnjoiaaDoor
open Go.RowKit Go.Lib

theorem madeOne (z : Value) (n : Nat) : (madeCells #[z] n).toList = List.replicate n z := by
  simp only [madeCells, Array.toList_map, Array.toList_range]
  apply List.ext_getElem
  · simp
  · intro i h1 h2; simp [Nat.mod_one]
theorem make_zeros (k : Nat) (hk : k ≤ 140737488355328) : ∃ cs : Array Value, cs.toList = List.replicate k (Value.int .u8 0) ∧ ∀ W : World, (Instr.makeSlice 39 (.int .i64 (k : Int)) (.int .i64 (k : Int))).run Tryd.prog W = .ok (.slice (some ⟨W.heap.size, 0, none⟩) k k) (W.alloc (.cells cs 5)) := by
  obtain ⟨i, hi, hz0, hz1, hz2⟩ := info_parts Tryd.infoU8
  refine ⟨madeCells #[Value.int .u8 0] (k * i.size), by rw [madeOne, hz1, Nat.mul_one], fun W => ?_⟩
  have h := run_make W (P := Tryd.prog) 39 5 i (.int .u8 0) Tryd.underlying39 hi hz0 .i64 .i64 (k : Int) (k : Int) (by omega) (Int.le_refl _) (by rw [hz2]; omega) (by omega)
  simpa [Value.cells] using h
theorem blk_bytes {g c : Nat} {cs : Array Value} {l : List UInt8} {W : World} (hc : cs.toList = bytesV l) (hg : Blk W g cs 5) :
    (convert 39 9 (.slice (some ⟨g, 0, none⟩) l.length c)).run Tryd.prog W = .ok (.string ⟨l.toArray⟩) W := by
  refine conv_bytes (fun j x hx => ⟨g, 0, rfl, ?_⟩)
  rw [Nat.zero_add, hg.cell j, ← Array.getElem?_toList, hc, List.getElem?_map, hx]; rfl
theorem rep_bytes (k : Nat) : List.replicate k (Value.int .u8 0) = bytesV (List.replicate k 0) := by simp [bytesV]
/-- A text of k zeros: the run of make and of the conversion. -/
theorem zeros_text (k : Nat) (hk : k ≤ 140737488355328) : ∃ (cs : Array Value) (Z : ByteArray), Z.size = k ∧ (∀ W : World, (Instr.makeSlice 39 (.int .i64 (k : Int)) (.int .i64 (k : Int))).run Tryd.prog W = .ok (.slice (some ⟨W.heap.size, 0, none⟩) k k) (W.alloc (.cells cs 5))) ∧
    (∀ W : World, (convert 39 9 (.slice (some ⟨W.heap.size, 0, none⟩) k k)).run Tryd.prog (W.alloc (.cells cs 5)) = .ok (.string Z) (W.alloc (.cells cs 5))) := by
  obtain ⟨cs, hcs, hmk⟩ := make_zeros k hk
  refine ⟨cs, ⟨(List.replicate k 0).toArray⟩, (List.size_toArray ..).trans List.length_replicate, hmk, fun W => ?_⟩
  have := blk_bytes (c := k) (l := List.replicate k 0) (by rw [hcs]; exact rep_bytes _) (Blk.new W cs 5)
  rw [List.length_replicate] at this
  exact this
end Go.Proofs.YtkfbhiggnnjoiaaDoor
