/- ledger: the examples (the gate of each law). -/
import Derived.Test.YtdaelapamkmcaaaDoorLdIs
namespace Go.Proofs.YtdaelapamkmcaaaDoor
open Go.RowKit Go.Lib

abbrev exA : ByteArray := nm1 97
abbrev exM (q : Nat) (s : Int) : Mk := ⟨1, exA, q, s, ⟨#[]⟩⟩
theorem ex_beg1 : begE 1 exA 1 [] = 0 ∧ begM 1 exA 1 [] = [exM 1 1] := beg_last (badK_one 1 97 1 (by decide) (by decide) (by decide) (by decide) (by decide)) (by decide) (fun m hm => by cases hm)
theorem ex_beg2 : begE 1 exA 3 [exM 1 1] = 0 ∧ begM 1 exA 3 [exM 1 1] = [exM 1 1, exM 3 1] := beg_last (badK_one 1 97 3 (by decide) (by decide) (by decide) (by decide) (by decide)) (by decide) (fun m hm => by
  rw [List.mem_singleton] at hm
  subst hm
  exact ordM_gt_same rfl rfl (by decide))
theorem ex_note1 : noteE ⟨1, exA, 3, true, ⟨#[]⟩⟩ [exM 1 1, exM 3 1] = 0 ∧ noteR ⟨1, exA, 3, true, ⟨#[]⟩⟩ [exM 1 1, exM 3 1] = [exM 1 2, exM 3 2] := by
  unfold noteE noteR
  rw [stOk_one 1 97 3 (by decide) (by decide) (by decide), hasM_any]
  refine ⟨by simp [keyM], ?_⟩
  simp [keyM, noteM, settleM]
theorem ex_note2 : noteE ⟨1, exA, 2, true, ⟨#[]⟩⟩ [exM 1 2, exM 3 2] = 5 ∧ noteR ⟨1, exA, 2, true, ⟨#[]⟩⟩ [exM 1 2, exM 3 2] = [exM 1 2, exM 3 2] := by
  unfold noteE noteR
  rw [stOk_one 1 97 2 (by decide) (by decide) (by decide), hasM_any]
  exact ⟨by simp [keyM], by simp [keyM]⟩
theorem ex_state : stateE 1 exA 1 [exM 1 2, exM 3 2] = (2, ⟨#[]⟩) := by
  unfold stateE findM
  simp [keyM]
theorem ld_new (w : World) (cs : Array Value) (t : TypeId) : ∃ w', w.alloc (.cells cs t) = w' ∧ Below w.heap.size w w' ∧ Blk w' w.heap.size cs t := ⟨_, rfl, (Below.refl _ _).alloc (Nat.le_refl _) _, Blk.new _ _ _⟩
set_option maxRecDepth 100000 in
set_option maxHeartbeats 4000000 in
theorem ld_examples (g b : Addr) (w : World) (hg : Gv g w) (hn : Gn b w) : Calls Tryd.prog 4 #[] w fun e w' => e = .returned (.bool true) ∧ Below w.heap.size w w' := by
  have HG := Lib.hid (And.intro hg hn)
  clear hg hn
  go_enter Tryd.func4, Tryd.ntmps4
  go_wp2_with fail
  refine (new_is w).mono ?_
  rintro e w1 ⟨l, rfl, h1, hb1⟩
  have HG1 := Lib.hid (And.intro (HG.out.1.below hb1) (HG.out.2.later hb1))
  have hlow : 1 < w.heap.size ∧ 0 < w.heap.size := ⟨HG.out.1.2, HG.out.2.2⟩
  have HLW := Lib.hid hlow
  clear HG hlow
  obtain ⟨w2, hw2, hb2, q2⟩ := ld_new w1 #[.int .i64 1, .string ⟨#[97]⟩] 31
  have HK2 := Lib.hid (hb1.trans (hb2.mono hb1.size))
  have HG2 := Lib.hid (And.intro (HG1.out.1.below hb2) (HG1.out.2.later hb2))
  have HI2 := Lib.hid (h1.later hb2)
  have HQ2 := Lib.hid q2
  have HW2 := Lib.hid hw2
  clear hw2 hb2 h1 hb1 q2 HG1
  have HQ := HQ2
  have HW := HW2
  have HK := HK2
  have HG := HG2
  have HI := HI2
  have HLE := Lib.hid (Nat.le_refl w.heap.size)
  clear HQ2 HK2 HG2 HI2 HW2
  have z0 : w2.cell? ⟨w1.heap.size, 0, none⟩ = some (.int .i64 1) := HQ.out.cell 0
  have z1 : w2.cell? ⟨w1.heap.size, 1, none⟩ = some (.string ⟨#[97]⟩) := HQ.out.cell 1
  go_wp2_with (rw [HW.out])
  have HS : Calls Tryd.prog 13 #[.pointer (some ⟨l, 0, none⟩), .agg #[.int .i64 1, .string ⟨#[97]⟩], .int .u64 1] w2 (fun e w' => e = .returned (.tuple #[.int .i64 0, .string ⟨#[]⟩]) ∧ Below w2.heap.size w2 w') := by
    have hs := state_is w.heap.size l 1 exA 1 [] w2 HI.out
    exact hs
  refine HS.mono ?_
  rintro e w3 ⟨rfl, hb⟩
  clear HS z0 z1
  have HK := Lib.hid (HK.out.trans (hb.mono HK.out.size))
  have HG := Lib.hid (And.intro (HG.out.1.below hb) (HG.out.2.later hb))
  have HQ := Lib.hid (HQ.out.later hb)
  have HI := Lib.hid (HI.out.later hb)
  have z0 : w3.cell? ⟨w1.heap.size, 0, none⟩ = some (.int .i64 1) := HQ.out.cell 0
  have z1 : w3.cell? ⟨w1.heap.size, 1, none⟩ = some (.string ⟨#[97]⟩) := HQ.out.cell 1
  clear hb
  go_wp2_with fail
  have HS : Calls Tryd.prog 11 #[.pointer (some ⟨l, 0, none⟩), .agg #[.int .i64 1, .string ⟨#[97]⟩], .int .u64 1] w3 (fun e w' => e = .returned (.int .i64 0) ∧ LdIs w.heap.size l [exM 1 1] w' ∧ Kept w.heap.size w3 w') := by
    have hs := begin_is w.heap.size l 1 exA 1 [] w3 HI.out (by decide)
    rw [ex_beg1.1] at hs
    rw [ex_beg1.2] at hs
    exact hs
  refine HS.mono ?_
  rintro e w4 ⟨rfl, hi, hk⟩
  clear HS z0 z1
  have HK := Lib.hid (HK.out.trans ((hk.below HI.out.hB).mono HLE.out))
  have HG := Lib.hid (And.intro (HI.out.gv HG.out.1 HLW.out.1 hk) (HI.out.gn HG.out.2 HLW.out.2 hk))
  have HQ := Lib.hid (hk.blk HQ.out (by decide) (by decide))
  have HI := Lib.hid hi
  have z0 : w4.cell? ⟨w1.heap.size, 0, none⟩ = some (.int .i64 1) := HQ.out.cell 0
  have z1 : w4.cell? ⟨w1.heap.size, 1, none⟩ = some (.string ⟨#[97]⟩) := HQ.out.cell 1
  clear hi hk
  go_wp2_with fail
  have HS : Calls Tryd.prog 11 #[.pointer (some ⟨l, 0, none⟩), .agg #[.int .i64 1, .string ⟨#[97]⟩], .int .u64 3] w4 (fun e w' => e = .returned (.int .i64 0) ∧ LdIs w.heap.size l [exM 1 1, exM 3 1] w' ∧ Kept w.heap.size w4 w') := by
    have hs := begin_is w.heap.size l 1 exA 3 _ w4 HI.out (by decide)
    rw [ex_beg2.1] at hs
    rw [ex_beg2.2] at hs
    exact hs
  refine HS.mono ?_
  rintro e w5 ⟨rfl, hi, hk⟩
  clear HS z0 z1
  have HK := Lib.hid (HK.out.trans ((hk.below HI.out.hB).mono HLE.out))
  have HG := Lib.hid (And.intro (HI.out.gv HG.out.1 HLW.out.1 hk) (HI.out.gn HG.out.2 HLW.out.2 hk))
  have HQ := Lib.hid (hk.blk HQ.out (by decide) (by decide))
  have HI := Lib.hid hi
  have z0 : w5.cell? ⟨w1.heap.size, 0, none⟩ = some (.int .i64 1) := HQ.out.cell 0
  have z1 : w5.cell? ⟨w1.heap.size, 1, none⟩ = some (.string ⟨#[97]⟩) := HQ.out.cell 1
  clear hi hk
  go_wp2_with fail
  have HS : Calls Tryd.prog 7 #[.pointer (some ⟨l, 0, none⟩), .agg #[.int .i64 1, .string ⟨#[97]⟩, .int .u64 3, .bool true, .string ⟨#[]⟩]] w5 (fun e w' => e = .returned (.int .i64 0) ∧ LdIs w.heap.size l [exM 1 2, exM 3 2] w' ∧ Kept w.heap.size w5 w') := by
    have hs := note_is g b w.heap.size l ⟨1, exA, 3, true, ⟨#[]⟩⟩ _ w5 HG.out.1 HG.out.2 (by decide) HI.out
    rw [ex_note1.1] at hs
    rw [ex_note1.2] at hs
    exact hs
  refine HS.mono ?_
  rintro e w6 ⟨rfl, hi, hk⟩
  clear HS z0 z1
  have HK := Lib.hid (HK.out.trans ((hk.below HI.out.hB).mono HLE.out))
  have HG := Lib.hid (And.intro (HI.out.gv HG.out.1 HLW.out.1 hk) (HI.out.gn HG.out.2 HLW.out.2 hk))
  have HQ := Lib.hid (hk.blk HQ.out (by decide) (by decide))
  have HI := Lib.hid hi
  have z0 : w6.cell? ⟨w1.heap.size, 0, none⟩ = some (.int .i64 1) := HQ.out.cell 0
  have z1 : w6.cell? ⟨w1.heap.size, 1, none⟩ = some (.string ⟨#[97]⟩) := HQ.out.cell 1
  clear hi hk
  go_wp2_with fail
  have HS : Calls Tryd.prog 13 #[.pointer (some ⟨l, 0, none⟩), .agg #[.int .i64 1, .string ⟨#[97]⟩], .int .u64 1] w6 (fun e w' => e = .returned (.tuple #[.int .i64 2, .string ⟨#[]⟩]) ∧ Below w6.heap.size w6 w') := by
    have hs := state_is w.heap.size l 1 exA 1 _ w6 HI.out
    rw [ex_state] at hs
    exact hs
  refine HS.mono ?_
  rintro e w7 ⟨rfl, hb⟩
  clear HS z0 z1
  have HK := Lib.hid (HK.out.trans (hb.mono HK.out.size))
  have HG := Lib.hid (And.intro (HG.out.1.below hb) (HG.out.2.later hb))
  have HQ := Lib.hid (HQ.out.later hb)
  have HI := Lib.hid (HI.out.later hb)
  have z0 : w7.cell? ⟨w1.heap.size, 0, none⟩ = some (.int .i64 1) := HQ.out.cell 0
  have z1 : w7.cell? ⟨w1.heap.size, 1, none⟩ = some (.string ⟨#[97]⟩) := HQ.out.cell 1
  clear hb
  go_wp2_with fail
  have HS : Calls Tryd.prog 7 #[.pointer (some ⟨l, 0, none⟩), .agg #[.int .i64 1, .string ⟨#[97]⟩, .int .u64 2, .bool true, .string ⟨#[]⟩]] w7 (fun e w' => e = .returned (.int .i64 5) ∧ LdIs w.heap.size l [exM 1 2, exM 3 2] w' ∧ Kept w.heap.size w7 w') := by
    have hs := note_is g b w.heap.size l ⟨1, exA, 2, true, ⟨#[]⟩⟩ _ w7 HG.out.1 HG.out.2 (by decide) HI.out
    rw [ex_note2.1] at hs
    rw [ex_note2.2] at hs
    exact hs
  refine HS.mono ?_
  rintro e w8 ⟨rfl, hi, hk⟩
  clear HS z0 z1
  have HK := Lib.hid (HK.out.trans ((hk.below HI.out.hB).mono HLE.out))
  have HG := Lib.hid (And.intro (HI.out.gv HG.out.1 HLW.out.1 hk) (HI.out.gn HG.out.2 HLW.out.2 hk))
  have HQ := Lib.hid (hk.blk HQ.out (by decide) (by decide))
  have HI := Lib.hid hi
  have z0 : w8.cell? ⟨w1.heap.size, 0, none⟩ = some (.int .i64 1) := HQ.out.cell 0
  have z1 : w8.cell? ⟨w1.heap.size, 1, none⟩ = some (.string ⟨#[97]⟩) := HQ.out.cell 1
  clear hi hk
  go_wp2_with fail
  refine (marks_is w.heap.size l _ w8 HI.out).mono ?_
  rintro e w9 ⟨v, rfl, hrow, hb⟩
  have HK := Lib.hid (HK.out.trans (hb.mono HK.out.size))
  obtain ⟨a, c, rfl⟩ := row_shape hrow
  clear hrow hb
  go_wp2_with fail
  go_ret
  exact ⟨rfl, HK.out⟩
end Go.Proofs.YtdaelapamkmcaaaDoor
