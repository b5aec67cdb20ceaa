/- examples: the walk. -/
import Derived.Test.YtbflbgnafdbngaaDoorParse
import Derived.Test.YtbflbgnafdbngaaDoorNum
import Derived.Test.YtbflbgnafdbngaaDoorReadV
namespace Go.Proofs.YtbflbgnafdbngaaDoor
open Go.RowKit

theorem parse_ex1 : parse (⟨#[8, 172, 2, 18, 1, 97]⟩ : ByteArray).data.toList = some [⟨1, 0, 300, []⟩, ⟨2, 2, 0, [97]⟩] := by kernel_rfl
theorem parse_ex2 : parse (⟨#[7]⟩ : ByteArray).data.toList = none := by kernel_rfl
theorem rd_ex : rd (⟨#[128, 0, 120]⟩ : ByteArray).data.toList = some (0, 2) := by kernel_rfl
theorem vnt_ex : vnt 300 = [172, 2] := by kernel_rfl
theorem number_ex : numberL 1 300 = [8, 172, 2] := by kernel_rfl
theorem text_ex : textL 2 ⟨#[97]⟩ = [18, 1, 97] := by kernel_rfl

theorem ex_p1 (b : Addr) (w : World) (hg : Gv b w) :
    Calls Tryd.prog 67 #[.string ⟨#[8, 172, 2, 18, 1, 97]⟩] w fun e w' => (∃ g cap, e = .returned (.tuple #[.slice (some ⟨g, 0, none⟩) 2 cap, .bool true]) ∧ g < w'.heap.size ∧ w'.cell? ⟨g, 2, none⟩ = some (.int .u64 300) ∧ w'.cell? ⟨g, 7, none⟩ = some (.string ⟨#[97]⟩)) ∧ Below w.heap.size w w' := by
  refine (parse_any _ b w (by decide) hg).mono ?_
  rw [parse_ex1]
  rintro e w' ⟨⟨v, rfl, hrow⟩, hb⟩
  obtain ⟨g, cap, rfl⟩ := ownsRow_succ hrow
  have c2 := hrow.cellAt 2 (by simp)
  have c7 := hrow.cellAt 7 (by simp)
  exact ⟨⟨g, cap, rfl, World.block_lt_of_cell? w' _ c2, c2, c7⟩, hb⟩
theorem ex_p2 (b : Addr) (w : World) (hg : Gv b w) :
    Calls Tryd.prog 67 #[.string ⟨#[7]⟩] w fun e w' => e = .returned (.tuple #[.slice none 0 0, .bool false]) ∧ Below w.heap.size w w' := by
  refine (parse_any _ b w (by decide) hg).mono ?_
  rw [parse_ex2]
  rintro e w' ⟨rfl, hb⟩
  exact ⟨rfl, hb⟩
theorem ex_v (w : World) :
    Calls Tryd.prog 41 #[.int .u64 300] w fun e w' => e = .returned (.string ⟨#[172, 2]⟩) ∧ Below w.heap.size w w' := by
  refine (varint_any 300 w (by omega)).mono ?_
  rw [vnt_ex]
  rintro e w' ⟨rfl, hb⟩
  exact ⟨rfl, hb⟩
theorem ex_n (b : Addr) (w : World) (hg : Gv b w) :
    Calls Tryd.prog 11 #[.int .i64 1, .int .u64 300] w fun e w' => e = .returned (.string ⟨#[8, 172, 2]⟩) ∧ Below w.heap.size w w' := by
  refine (number_any 1 300 b w hg (by omega)).mono ?_
  rw [number_ex]
  rintro e w' ⟨rfl, hb⟩
  exact ⟨rfl, hb⟩
theorem ex_t (b : Addr) (w : World) (hg : Gv b w) :
    Calls Tryd.prog 52 #[.int .i64 2, .string ⟨#[97]⟩] w fun e w' => e = .returned (.string ⟨#[18, 1, 97]⟩) ∧ Below w.heap.size w w' := by
  refine (text_any 2 ⟨#[97]⟩ b w hg (by decide)).mono ?_
  rw [text_ex]
  rintro e w' ⟨rfl, hb⟩
  exact ⟨rfl, hb⟩

/-- What a step that makes memory alone carries on. -/
theorem cell_on {w w' : World} {g o : Nat} {v : Value} (hb : Below w.heap.size w w') (hl : g < w.heap.size) (h : w.cell? ⟨g, o, none⟩ = some v) : w'.cell? ⟨g, o, none⟩ = some v :=
  (hb.cell (p := ⟨g, o, none⟩) hl).trans h

end Go.Proofs.YtbflbgnafdbngaaDoor
