/- examples: the walk. -/
import Derived.Test.YtkehanpgaahmlaaDoorParse
import Derived.Test.YtkehanpgaahmlaaDoorNum
namespace Go.Proofs.YtkehanpgaahmlaaDoor
open Go.RowKit

theorem parse_ex1 : parse (⟨#[8, 172, 2, 18, 1, 97]⟩ : ByteArray).data.toList = some [⟨1, 0, 300, []⟩, ⟨2, 2, 0, [97]⟩] := by kernel_rfl
theorem parse_ex2 : parse (⟨#[7]⟩ : ByteArray).data.toList = none := by kernel_rfl
theorem rd_ex : rd (⟨#[128, 0, 120]⟩ : ByteArray).data.toList = some (0, 2) := by kernel_rfl
theorem vnt_ex : vnt 300 = [172, 2] := by kernel_rfl
theorem number_ex : numberL 1 300 = [8, 172, 2] := by kernel_rfl
theorem text_ex : textL 2 ⟨#[97]⟩ = [18, 1, 97] := by kernel_rfl

theorem ex_p1 (b : Addr) (w : World) (hg : Gv b w) :
    Calls Tryd.prog 24 #[.string ⟨#[8, 172, 2, 18, 1, 97]⟩] w fun e w' => (∃ g cap, e = .returned (.tuple #[.slice (some ⟨g, 0, none⟩) 2 cap, .bool true]) ∧ g < w'.heap.size ∧ w'.cell? ⟨g, 2, none⟩ = some (.int .u64 300) ∧ w'.cell? ⟨g, 7, none⟩ = some (.string ⟨#[97]⟩)) ∧ Below w.heap.size w w' := by
  refine (parse_any _ b w (by decide) hg).mono ?_
  rw [parse_ex1]
  rintro e w' ⟨⟨v, rfl, hrow⟩, hb⟩
  obtain ⟨g, cap, rfl⟩ := ownsRow_succ hrow
  have c2 := hrow.cellAt 2 (by simp)
  have c7 := hrow.cellAt 7 (by simp)
  exact ⟨⟨g, cap, rfl, World.block_lt_of_cell? w' _ c2, c2, c7⟩, hb⟩
theorem ex_p2 (b : Addr) (w : World) (hg : Gv b w) :
    Calls Tryd.prog 24 #[.string ⟨#[7]⟩] w fun e w' => e = .returned (.tuple #[.slice none 0 0, .bool false]) ∧ Below w.heap.size w w' := by
  refine (parse_any _ b w (by decide) hg).mono ?_
  rw [parse_ex2]
  rintro e w' ⟨rfl, hb⟩
  exact ⟨rfl, hb⟩
theorem ex_r (b : Addr) (w : World) (hg : Gv b w) :
    Calls Tryd.prog 12 #[.string ⟨#[128, 0, 120]⟩] w fun e w' => e = .returned (.tuple #[.int .u64 0, .int .i64 2, .bool true]) ∧ Below w.heap.size w w' := by
  refine (readVarint_any _ b w (by decide) hg).mono ?_
  rw [rd_ex]
  rintro e w' ⟨rfl, hb⟩
  exact ⟨rfl, hb⟩
theorem ex_v (w : World) :
    Calls Tryd.prog 14 #[.int .u64 300] w fun e w' => e = .returned (.string ⟨#[172, 2]⟩) ∧ Below w.heap.size w w' := by
  refine (varint_any 300 w (by omega)).mono ?_
  rw [vnt_ex]
  rintro e w' ⟨rfl, hb⟩
  exact ⟨rfl, hb⟩
theorem ex_n (b : Addr) (w : World) (hg : Gv b w) :
    Calls Tryd.prog 19 #[.int .i64 1, .int .u64 300] w fun e w' => e = .returned (.string ⟨#[8, 172, 2]⟩) ∧ Below w.heap.size w w' := by
  refine (number_any 1 300 b w hg (by omega)).mono ?_
  rw [number_ex]
  rintro e w' ⟨rfl, hb⟩
  exact ⟨rfl, hb⟩
theorem ex_t (b : Addr) (w : World) (hg : Gv b w) :
    Calls Tryd.prog 21 #[.int .i64 2, .string ⟨#[97]⟩] w fun e w' => e = .returned (.string ⟨#[18, 1, 97]⟩) ∧ Below w.heap.size w w' := by
  refine (text_any 2 ⟨#[97]⟩ b w hg (by decide)).mono ?_
  rw [text_ex]
  rintro e w' ⟨rfl, hb⟩
  exact ⟨rfl, hb⟩

/-- What a step that makes memory alone carries on. -/
theorem cell_on {w w' : World} {g o : Nat} {v : Value} (hb : Below w.heap.size w w') (hl : g < w.heap.size) (h : w.cell? ⟨g, o, none⟩ = some v) : w'.cell? ⟨g, o, none⟩ = some v :=
  (hb.cell (p := ⟨g, o, none⟩) hl).trans h

set_option maxRecDepth 100000 in
set_option maxHeartbeats 1000000 in
theorem examples_any (b : Addr) (w : World) (hg : Gv b w) :
    Calls Tryd.prog 11 #[] w fun e w' => e = .returned (.bool true) ∧ Below w.heap.size w w' := by
  go_enter Tryd.func11, Tryd.ntmps11
  go_wp2_with fail
  refine (ex_p1 b _ hg).mono ?_
  rintro e w1 ⟨⟨g, cap, rfl, hl1, c2, c7⟩, hb1⟩
  have hg1 := hg.below hb1
  go_wp2_with fail
  refine (ex_p2 b _ hg1).mono ?_
  rintro e w2 ⟨rfl, hb2⟩
  have hg2 := hg1.below hb2
  have d2 := cell_on hb2 hl1 c2
  have d7 := cell_on hb2 hl1 c7
  have hl2 := Nat.lt_of_lt_of_le hl1 hb2.size
  have hB2 := hb1.trans (hb2.mono hb1.size)
  clear c2 c7 hl1 hb1 hb2 hg1
  go_wp2_with fail
  refine (ex_r b _ hg2).mono ?_
  rintro e w3 ⟨rfl, hb3⟩
  have hg3 := hg2.below hb3
  have e2 := cell_on hb3 hl2 d2
  have e7 := cell_on hb3 hl2 d7
  have hl3 := Nat.lt_of_lt_of_le hl2 hb3.size
  have hB3 := hB2.trans (hb3.mono hB2.size)
  clear d2 d7 hl2 hB2 hb3 hg2
  go_wp2_with fail
  refine (ex_v _).mono ?_
  rintro e w4 ⟨rfl, hb4⟩
  have hg4 := hg3.below hb4
  have f2 := cell_on hb4 hl3 e2
  have f7 := cell_on hb4 hl3 e7
  have hl4 := Nat.lt_of_lt_of_le hl3 hb4.size
  have hB4 := hB3.trans (hb4.mono hB3.size)
  clear e2 e7 hl3 hB3 hb4 hg3
  go_wp2_with fail
  refine (ex_n b _ hg4).mono ?_
  rintro e w5 ⟨rfl, hb5⟩
  have hg5 := hg4.below hb5
  have g2 := cell_on hb5 hl4 f2
  have g7 := cell_on hb5 hl4 f7
  have hl5 := Nat.lt_of_lt_of_le hl4 hb5.size
  have hB5 := hB4.trans (hb5.mono hB4.size)
  clear f2 f7 hl4 hB4 hb5 hg4
  go_wp2_with fail
  refine (ex_t b _ hg5).mono ?_
  rintro e w6 ⟨rfl, hb6⟩
  have h2 := cell_on hb6 hl5 g2
  have h7 := cell_on hb6 hl5 g7
  have hB6 := hB5.trans (hb6.mono hB5.size)
  clear g2 g7 hl5 hB5 hb6 hg5
  go_wp2_with fail
  go_ret
  exact ⟨rfl, hB6⟩
end Go.Proofs.YtkehanpgaahmlaaDoor
