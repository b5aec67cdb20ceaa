/- names: the chapter's examples. -/
import Derived.Test.YtdcfdcjgheijcaaGreatDoorNmSame
import Derived.Test.YtdcfdcjgheijcaaGreatDoorNmAdd
import Derived.Test.YtdcfdcjgheijcaaGreatDoorNmFew
namespace Go.Proofs.YtdcfdcjgheijcaaGreatDoor
open Go.RowKit Go.Lib

/-- A text in memory. -/
def CellAt (w : World) (b o : Nat) (v : Value) : Prop := b < w.heap.size ∧ w.cell? ⟨b, o, none⟩ = some v
theorem CellAt.later {w w' : World} {b o : Nat} {v : Value} (h : CellAt w b o v) (hb : Below w.heap.size w w') : CellAt w' b o v := ⟨Nat.lt_of_lt_of_le h.1 hb.size, (hb.cell (p := ⟨b, o, none⟩) h.1).trans h.2⟩
theorem ts_block {w : World} {B : Nat} {cs : Array Value} {l : List (List UInt8)} (hb : Blk w B cs 9) (hn : cs.size ≤ maxLen) (hl : cs.toList = tsV l) : TsAt w (.slice (some ⟨B, 0, none⟩) cs.size cs.size) l := by
  have e : cs.size = (tsV l).length := by rw [← hl]; simp
  refine ⟨_, cs.size, by rw [e], by rw [e]; exact Nat.le_refl _, hn, fun j u hj => ⟨B, 0, rfl, hb.lt, ?_⟩⟩
  rw [Nat.zero_add, hb.cell j, ← Array.getElem?_toList, hl]
  exact hj
theorem ex_s : nOf okN [[98], [97], [98], [42], [88]] = ⟨true, [[97], [98]]⟩ := by
  have e : ([[98], [97], [98], [42], [88]] : List (List UInt8)).filter okN = [[98], [97], [98]] := by decide
  refine ns_eq (by decide) ?_
  show srt _ = _
  rw [e]
  refine srt_eq (by unfold Rises; decide) (fun x => by simp only [List.mem_cons, List.not_mem_nil, or_false]; exact ⟨by rintro (h | h | h) <;> simp [h], by rintro (h | h) <;> simp [h]⟩)
theorem ex_t : nOf okN [[97]] = ⟨false, [[97]]⟩ := by
  have e : ([[97]] : List (List UInt8)).filter okN = [[97]] := by decide
  refine ns_eq (by decide) ?_
  show srt _ = _
  rw [e]
  exact srt_self (by unfold Rises; decide)
theorem ex_u : nUnion [⟨true, [[97], [98]]⟩, ⟨false, [[97]]⟩] = ⟨true, [[97], [98]]⟩ := by
  refine ns_eq (by decide) ?_
  show srt _ = _
  refine srt_eq (by unfold Rises; decide) (fun x => by simp only [List.flatMap_cons, List.flatMap_nil, List.mem_append, List.mem_cons, List.not_mem_nil, or_false]; exact ⟨by rintro ((h | h) | h) <;> simp [h], by rintro (h | h) <;> simp [h]⟩)
theorem ex_same : nSame ⟨true, [[97], [98]]⟩ ⟨true, [[97], [98]]⟩ = true := nSame_self rfl (fun _ => Iff.rfl)
theorem ex_h1 : nHas okN ⟨true, [[97], [98]]⟩ [122, 122] = true := by decide
theorem ex_h2 : nHas okN ⟨true, [[97], [98]]⟩ [88] = false := by decide
theorem ex_h3 : nHas okN ⟨false, [[97]]⟩ [98] = false := by decide
theorem ex_h4 : nHas okN ⟨false, [[97]]⟩ [97] = true := by decide
theorem fitK {l : List (List UInt8)} (n : Nat) (h : (∀ s ∈ l, s.length ≤ n) ∧ l.length ≤ n) (hn : n ≤ 1000) : NmFit l := ⟨fun s hs => by have := h.1 s hs; unfold maxLen; omega, by have := h.2; omega⟩
theorem ex_l : nList ⟨true, [[97], [98]]⟩ = [[42], [97], [98]] := rfl
theorem ex_fu : NssFit [⟨true, [[97], [98]]⟩, ⟨false, [[97]]⟩] := by
  refine ⟨fun s hs x hx => ?_, by decide, by decide⟩
  have h1 : ∀ s ∈ ([⟨true, [[97], [98]]⟩, ⟨false, [[97]]⟩] : List Ns), ∀ x ∈ s.ns, x.length ≤ 1 := by decide
  have := h1 s hs x hx
  unfold maxLen; omega
end Go.Proofs.YtdcfdcjgheijcaaGreatDoor
