/- message: a request for all as bytes; PutReq of it, and of an empty one (tools/msreqp_gen.py). -/
import Derived.Test.YtbflbgnafdbngaaDoorMsReqW
namespace Go.Proofs.YtbflbgnafdbngaaDoor
open Go.RowKit Go.Lib

set_option maxRecDepth 100000 in
theorem mtexts_nil (B b : Nat) (l : List UInt8) (num : Int) (w : World) (h : Bu B b l w) :
    Calls Tryd.prog 47 #[.pointer (some ⟨b, 0, none⟩), .int .i64 num, .slice none 0 0] w (BuPost B b l w) := by
  have HL := Lib.hid h
  clear h
  go_enter Tryd.func47, Tryd.ntmps47
  go_wp2_with fail
  refine wp_loop_rounds 1 ?_
  rw [rounds_succ]
  go_wp2_with fail
  go_end0
  exact ⟨rfl, HL.out, Below.refl _ _⟩
set_option maxRecDepth 100000 in
theorem mtexts_star (B b SB c : Nat) (l : List UInt8) (num : Int) (g : Addr) (w : World) (h : Bu B b l w) (hg : Gv g w) (hB : B ≤ w.heap.size) (hl : l.length ≤ 1000) (hs : StarAt w SB) :
    Calls Tryd.prog 47 #[.pointer (some ⟨b, 0, none⟩), .int .i64 num, .slice (some ⟨SB, 0, none⟩) 1 c] w (BuPost B b (l ++ txt num ⟨#[42]⟩) w) := by
  have HT := Lib.hid (mtext_any B b l num ⟨#[42]⟩ g w h (by decide) hg hB (by have := len_t num ⟨#[42]⟩; have e : (⟨#[42]⟩ : ByteArray).size = 1 := rfl; omega))
  have c0 := hs.1
  clear h hg hB hl hs
  go_enter Tryd.func47, Tryd.ntmps47
  go_wp2_with fail
  refine wp_loop_rounds 2 ?_
  rw [rounds_succ]
  go_wp2_with (go_at_call 33; refine HT.out.mono ?_; rintro e w1 ⟨rfl, hu, hb⟩)
  rw [rounds_succ]
  go_wp2_with fail
  go_end0
  exact ⟨rfl, hu, hb⟩
def askL : List UInt8 := [(1 : Nat).toUInt8] ++ nmb 1 1 ++ flg 2 false ++ nmb 3 0 ++ txt 4 ⟨#[42]⟩ ++ txt 7 ⟨#[]⟩
theorem askL_is : askL = [1, 8, 1, 34, 1, 42] := by rfl
set_option maxRecDepth 100000 in
set_option maxHeartbeats 2000000 in
theorem writeReq_star (SB c : Nat) (g : Addr) (w : World) (hg : Gv g w) (hs : StarAt w SB) :
    Calls Tryd.prog 24 #[.agg (rq 1 (.slice (some ⟨SB, 0, none⟩) 1 c))] w fun e w' => e = .returned (.string ⟨#[1, 8, 1, 34, 1, 42]⟩) ∧ Below w.heap.size w w' := by
  obtain ⟨w0, hw0, hb0, p0, hs0⟩ := alloc_sized w #[.int .i64 (1 : Int), .bool false, .int .u64 0, .slice (some ⟨SB, 0, none⟩) 1 c, .slice none 0 0, .slice none 0 0, .string ⟨#[]⟩] 41
  have HW := Lib.hid hw0
  have HZ := Lib.hid (And.intro (hg.below hb0) (And.intro (show 1 < w0.heap.size by have := hg.2; omega) (And.intro p0 (And.intro hs0 (And.intro hb0 (hs.later hb0))))))
  have HSL := Lib.hid (show SB < w0.heap.size from Nat.lt_of_lt_of_le hs.2 hb0.size)
  clear hg hw0 hs0 hb0 p0 hs
  go_enter Tryd.func24, Tryd.ntmps24
  go_wp2_with fail
  rw [HW.out]
  refine (begun_any 1 (by decide) w0).mono ?_
  rintro e w1 ⟨b, rfl, hu, hb⟩
  have HB1 := Lib.hid (hb)
  have HU1 := Lib.hid hu
  clear hb hu
  have pz : Bk w1 w.heap.size #[.int .i64 (1 : Int), .bool false, .int .u64 0, .slice (some ⟨SB, 0, none⟩) 1 c, .slice none 0 0, .slice none 0 0, .string ⟨#[]⟩] 41 := (HB1.out.block w.heap.size (by have := HZ.out.2.2.2.1; omega)).trans HZ.out.2.2.1
  have c0 : w1.cell? ⟨w.heap.size, 0, none⟩ = some (.int .i64 (1 : Int)) := pz.cell 0
  have c1 : w1.cell? ⟨w.heap.size, 1, none⟩ = some (.bool false) := pz.cell 1
  have c2 : w1.cell? ⟨w.heap.size, 2, none⟩ = some (.int .u64 0) := pz.cell 2
  have c3 : w1.cell? ⟨w.heap.size, 3, none⟩ = some (.slice (some ⟨SB, 0, none⟩) 1 c) := pz.cell 3
  have c4 : w1.cell? ⟨w.heap.size, 4, none⟩ = some (.slice none 0 0) := pz.cell 4
  have c5 : w1.cell? ⟨w.heap.size, 5, none⟩ = some (.slice none 0 0) := pz.cell 5
  have c6 : w1.cell? ⟨w.heap.size, 6, none⟩ = some (.string ⟨#[]⟩) := pz.cell 6
  have HG1 := Lib.hid (gv_base HZ.out.1 HZ.out.2.1 HB1.out)
  have HS1 := Lib.hid (show StarAt w1 SB from ⟨(HB1.out.cell (p := ⟨SB, 0, none⟩) HSL.out).trans HZ.out.2.2.2.2.2.1, Nat.lt_of_lt_of_le HZ.out.2.2.2.2.2.2 HB1.out.size⟩)
  clear pz
  go_wp2_with fail
  have hc := mnumber_any w0.heap.size b ([(1 : Nat).toUInt8]) 1 1 g w1 HU1.out (by decide) HG1.out HB1.out.size (Nat.le_trans (Nat.add_le_add (show ([(1 : Nat).toUInt8]).length ≤ 100 by decide) (len_n 1 1)) (by decide))
  refine hc.mono ?_
  clear hc c0 c1 c2 c3 c4 c5 c6
  rintro e w2 ⟨rfl, hu, hb⟩
  have HB2 := Lib.hid (HB1.out.trans hb)
  have HU2 := Lib.hid hu
  clear hb hu
  have pz : Bk w2 w.heap.size #[.int .i64 (1 : Int), .bool false, .int .u64 0, .slice (some ⟨SB, 0, none⟩) 1 c, .slice none 0 0, .slice none 0 0, .string ⟨#[]⟩] 41 := (HB2.out.block w.heap.size (by have := HZ.out.2.2.2.1; omega)).trans HZ.out.2.2.1
  have c0 : w2.cell? ⟨w.heap.size, 0, none⟩ = some (.int .i64 (1 : Int)) := pz.cell 0
  have c1 : w2.cell? ⟨w.heap.size, 1, none⟩ = some (.bool false) := pz.cell 1
  have c2 : w2.cell? ⟨w.heap.size, 2, none⟩ = some (.int .u64 0) := pz.cell 2
  have c3 : w2.cell? ⟨w.heap.size, 3, none⟩ = some (.slice (some ⟨SB, 0, none⟩) 1 c) := pz.cell 3
  have c4 : w2.cell? ⟨w.heap.size, 4, none⟩ = some (.slice none 0 0) := pz.cell 4
  have c5 : w2.cell? ⟨w.heap.size, 5, none⟩ = some (.slice none 0 0) := pz.cell 5
  have c6 : w2.cell? ⟨w.heap.size, 6, none⟩ = some (.string ⟨#[]⟩) := pz.cell 6
  have HG2 := Lib.hid (gv_base HZ.out.1 HZ.out.2.1 HB2.out)
  have HS2 := Lib.hid (show StarAt w2 SB from ⟨(HB2.out.cell (p := ⟨SB, 0, none⟩) HSL.out).trans HZ.out.2.2.2.2.2.1, Nat.lt_of_lt_of_le HZ.out.2.2.2.2.2.2 HB2.out.size⟩)
  clear pz
  go_wp2_with fail
  have hc := mflag_any w0.heap.size b ([(1 : Nat).toUInt8] ++ nmb 1 1) 2 false g w2 HU2.out HG2.out HB2.out.size (Nat.le_trans (Nat.add_le_add (show ([(1 : Nat).toUInt8] ++ nmb 1 1).length ≤ 100 by decide) (len_n 2 1)) (by decide))
  refine hc.mono ?_
  clear hc c0 c1 c2 c3 c4 c5 c6
  rintro e w3 ⟨rfl, hu, hb⟩
  have HB3 := Lib.hid (HB2.out.trans hb)
  have HU3 := Lib.hid hu
  clear hb hu
  have pz : Bk w3 w.heap.size #[.int .i64 (1 : Int), .bool false, .int .u64 0, .slice (some ⟨SB, 0, none⟩) 1 c, .slice none 0 0, .slice none 0 0, .string ⟨#[]⟩] 41 := (HB3.out.block w.heap.size (by have := HZ.out.2.2.2.1; omega)).trans HZ.out.2.2.1
  have c0 : w3.cell? ⟨w.heap.size, 0, none⟩ = some (.int .i64 (1 : Int)) := pz.cell 0
  have c1 : w3.cell? ⟨w.heap.size, 1, none⟩ = some (.bool false) := pz.cell 1
  have c2 : w3.cell? ⟨w.heap.size, 2, none⟩ = some (.int .u64 0) := pz.cell 2
  have c3 : w3.cell? ⟨w.heap.size, 3, none⟩ = some (.slice (some ⟨SB, 0, none⟩) 1 c) := pz.cell 3
  have c4 : w3.cell? ⟨w.heap.size, 4, none⟩ = some (.slice none 0 0) := pz.cell 4
  have c5 : w3.cell? ⟨w.heap.size, 5, none⟩ = some (.slice none 0 0) := pz.cell 5
  have c6 : w3.cell? ⟨w.heap.size, 6, none⟩ = some (.string ⟨#[]⟩) := pz.cell 6
  have HG3 := Lib.hid (gv_base HZ.out.1 HZ.out.2.1 HB3.out)
  have HS3 := Lib.hid (show StarAt w3 SB from ⟨(HB3.out.cell (p := ⟨SB, 0, none⟩) HSL.out).trans HZ.out.2.2.2.2.2.1, Nat.lt_of_lt_of_le HZ.out.2.2.2.2.2.2 HB3.out.size⟩)
  clear pz
  go_wp2_with fail
  have hc := mnumber_any w0.heap.size b ([(1 : Nat).toUInt8] ++ nmb 1 1 ++ flg 2 false) 3 0 g w3 HU3.out (by decide) HG3.out HB3.out.size (Nat.le_trans (Nat.add_le_add (show ([(1 : Nat).toUInt8] ++ nmb 1 1 ++ flg 2 false).length ≤ 100 by decide) (len_n 3 0)) (by decide))
  refine hc.mono ?_
  clear hc c0 c1 c2 c3 c4 c5 c6
  rintro e w4 ⟨rfl, hu, hb⟩
  have HB4 := Lib.hid (HB3.out.trans hb)
  have HU4 := Lib.hid hu
  clear hb hu
  have pz : Bk w4 w.heap.size #[.int .i64 (1 : Int), .bool false, .int .u64 0, .slice (some ⟨SB, 0, none⟩) 1 c, .slice none 0 0, .slice none 0 0, .string ⟨#[]⟩] 41 := (HB4.out.block w.heap.size (by have := HZ.out.2.2.2.1; omega)).trans HZ.out.2.2.1
  have c0 : w4.cell? ⟨w.heap.size, 0, none⟩ = some (.int .i64 (1 : Int)) := pz.cell 0
  have c1 : w4.cell? ⟨w.heap.size, 1, none⟩ = some (.bool false) := pz.cell 1
  have c2 : w4.cell? ⟨w.heap.size, 2, none⟩ = some (.int .u64 0) := pz.cell 2
  have c3 : w4.cell? ⟨w.heap.size, 3, none⟩ = some (.slice (some ⟨SB, 0, none⟩) 1 c) := pz.cell 3
  have c4 : w4.cell? ⟨w.heap.size, 4, none⟩ = some (.slice none 0 0) := pz.cell 4
  have c5 : w4.cell? ⟨w.heap.size, 5, none⟩ = some (.slice none 0 0) := pz.cell 5
  have c6 : w4.cell? ⟨w.heap.size, 6, none⟩ = some (.string ⟨#[]⟩) := pz.cell 6
  have HG4 := Lib.hid (gv_base HZ.out.1 HZ.out.2.1 HB4.out)
  have HS4 := Lib.hid (show StarAt w4 SB from ⟨(HB4.out.cell (p := ⟨SB, 0, none⟩) HSL.out).trans HZ.out.2.2.2.2.2.1, Nat.lt_of_lt_of_le HZ.out.2.2.2.2.2.2 HB4.out.size⟩)
  clear pz
  go_wp2_with fail
  have hc := mtexts_star w0.heap.size b SB c ([(1 : Nat).toUInt8] ++ nmb 1 1 ++ flg 2 false ++ nmb 3 0) 4 g w4 HU4.out HG4.out HB4.out.size (by decide) HS4.out
  refine hc.mono ?_
  clear hc c0 c1 c2 c3 c4 c5 c6
  rintro e w5 ⟨rfl, hu, hb⟩
  have HB5 := Lib.hid (HB4.out.trans hb)
  have HU5 := Lib.hid hu
  clear hb hu
  have pz : Bk w5 w.heap.size #[.int .i64 (1 : Int), .bool false, .int .u64 0, .slice (some ⟨SB, 0, none⟩) 1 c, .slice none 0 0, .slice none 0 0, .string ⟨#[]⟩] 41 := (HB5.out.block w.heap.size (by have := HZ.out.2.2.2.1; omega)).trans HZ.out.2.2.1
  have c0 : w5.cell? ⟨w.heap.size, 0, none⟩ = some (.int .i64 (1 : Int)) := pz.cell 0
  have c1 : w5.cell? ⟨w.heap.size, 1, none⟩ = some (.bool false) := pz.cell 1
  have c2 : w5.cell? ⟨w.heap.size, 2, none⟩ = some (.int .u64 0) := pz.cell 2
  have c3 : w5.cell? ⟨w.heap.size, 3, none⟩ = some (.slice (some ⟨SB, 0, none⟩) 1 c) := pz.cell 3
  have c4 : w5.cell? ⟨w.heap.size, 4, none⟩ = some (.slice none 0 0) := pz.cell 4
  have c5 : w5.cell? ⟨w.heap.size, 5, none⟩ = some (.slice none 0 0) := pz.cell 5
  have c6 : w5.cell? ⟨w.heap.size, 6, none⟩ = some (.string ⟨#[]⟩) := pz.cell 6
  have HG5 := Lib.hid (gv_base HZ.out.1 HZ.out.2.1 HB5.out)
  have HS5 := Lib.hid (show StarAt w5 SB from ⟨(HB5.out.cell (p := ⟨SB, 0, none⟩) HSL.out).trans HZ.out.2.2.2.2.2.1, Nat.lt_of_lt_of_le HZ.out.2.2.2.2.2.2 HB5.out.size⟩)
  clear pz
  go_wp2_with fail
  have hc := mtexts_nil w0.heap.size b ([(1 : Nat).toUInt8] ++ nmb 1 1 ++ flg 2 false ++ nmb 3 0 ++ txt 4 ⟨#[42]⟩) 5 w5 HU5.out
  refine hc.mono ?_
  clear hc c0 c1 c2 c3 c4 c5 c6
  rintro e w6 ⟨rfl, hu, hb⟩
  have HB6 := Lib.hid (HB5.out.trans hb)
  have HU6 := Lib.hid hu
  clear hb hu
  have pz : Bk w6 w.heap.size #[.int .i64 (1 : Int), .bool false, .int .u64 0, .slice (some ⟨SB, 0, none⟩) 1 c, .slice none 0 0, .slice none 0 0, .string ⟨#[]⟩] 41 := (HB6.out.block w.heap.size (by have := HZ.out.2.2.2.1; omega)).trans HZ.out.2.2.1
  have c0 : w6.cell? ⟨w.heap.size, 0, none⟩ = some (.int .i64 (1 : Int)) := pz.cell 0
  have c1 : w6.cell? ⟨w.heap.size, 1, none⟩ = some (.bool false) := pz.cell 1
  have c2 : w6.cell? ⟨w.heap.size, 2, none⟩ = some (.int .u64 0) := pz.cell 2
  have c3 : w6.cell? ⟨w.heap.size, 3, none⟩ = some (.slice (some ⟨SB, 0, none⟩) 1 c) := pz.cell 3
  have c4 : w6.cell? ⟨w.heap.size, 4, none⟩ = some (.slice none 0 0) := pz.cell 4
  have c5 : w6.cell? ⟨w.heap.size, 5, none⟩ = some (.slice none 0 0) := pz.cell 5
  have c6 : w6.cell? ⟨w.heap.size, 6, none⟩ = some (.string ⟨#[]⟩) := pz.cell 6
  have HG6 := Lib.hid (gv_base HZ.out.1 HZ.out.2.1 HB6.out)
  have HS6 := Lib.hid (show StarAt w6 SB from ⟨(HB6.out.cell (p := ⟨SB, 0, none⟩) HSL.out).trans HZ.out.2.2.2.2.2.1, Nat.lt_of_lt_of_le HZ.out.2.2.2.2.2.2 HB6.out.size⟩)
  clear pz
  go_wp2_with fail
  refine wp_loop_rounds 1 ?_
  rw [rounds_succ]
  go_wp2_with fail
  have hc := mtext_any w0.heap.size b ([(1 : Nat).toUInt8] ++ nmb 1 1 ++ flg 2 false ++ nmb 3 0 ++ txt 4 ⟨#[42]⟩) 7 ⟨#[]⟩ g w6 HU6.out (by decide) HG6.out HB6.out.size (Nat.le_trans (Nat.add_le_add (show ([(1 : Nat).toUInt8] ++ nmb 1 1 ++ flg 2 false ++ nmb 3 0 ++ txt 4 ⟨#[42]⟩).length ≤ 100 by decide) (len_t 7 ⟨#[]⟩)) (by decide))
  refine hc.mono ?_
  clear hc c0 c1 c2 c3 c4 c5 c6
  rintro e w7 ⟨rfl, hu, hb⟩
  have HB7 := Lib.hid (HB6.out.trans hb)
  have HU7 := Lib.hid hu
  clear hb hu
  have pz : Bk w7 w.heap.size #[.int .i64 (1 : Int), .bool false, .int .u64 0, .slice (some ⟨SB, 0, none⟩) 1 c, .slice none 0 0, .slice none 0 0, .string ⟨#[]⟩] 41 := (HB7.out.block w.heap.size (by have := HZ.out.2.2.2.1; omega)).trans HZ.out.2.2.1
  have c0 : w7.cell? ⟨w.heap.size, 0, none⟩ = some (.int .i64 (1 : Int)) := pz.cell 0
  have c1 : w7.cell? ⟨w.heap.size, 1, none⟩ = some (.bool false) := pz.cell 1
  have c2 : w7.cell? ⟨w.heap.size, 2, none⟩ = some (.int .u64 0) := pz.cell 2
  have c3 : w7.cell? ⟨w.heap.size, 3, none⟩ = some (.slice (some ⟨SB, 0, none⟩) 1 c) := pz.cell 3
  have c4 : w7.cell? ⟨w.heap.size, 4, none⟩ = some (.slice none 0 0) := pz.cell 4
  have c5 : w7.cell? ⟨w.heap.size, 5, none⟩ = some (.slice none 0 0) := pz.cell 5
  have c6 : w7.cell? ⟨w.heap.size, 6, none⟩ = some (.string ⟨#[]⟩) := pz.cell 6
  have HG7 := Lib.hid (gv_base HZ.out.1 HZ.out.2.1 HB7.out)
  have HS7 := Lib.hid (show StarAt w7 SB from ⟨(HB7.out.cell (p := ⟨SB, 0, none⟩) HSL.out).trans HZ.out.2.2.2.2.2.1, Nat.lt_of_lt_of_le HZ.out.2.2.2.2.2.2 HB7.out.size⟩)
  clear pz
  go_wp2_with fail
  have hc := string_any w0.heap.size b ([(1 : Nat).toUInt8] ++ nmb 1 1 ++ flg 2 false ++ nmb 3 0 ++ txt 4 ⟨#[42]⟩ ++ txt 7 ⟨#[]⟩) w7 HU7.out (by simp)
  rw [show ([(1 : Nat).toUInt8] ++ nmb 1 1 ++ flg 2 false ++ nmb 3 0 ++ txt 4 ⟨#[42]⟩ ++ txt 7 ⟨#[]⟩ : List UInt8) = [1, 8, 1, 34, 1, 42] from rfl] at hc
  refine hc.mono ?_
  clear hc c0 c1 c2 c3 c4 c5 c6
  rintro e wz ⟨rfl, hb⟩
  have HBZ := Lib.hid (HZ.out.2.2.2.2.1.trans ((HB7.out.trans hb).mono HZ.out.2.2.2.2.1.size))
  clear hb
  go_wp2_with fail
  go_ret
  exact ⟨rfl, HBZ.out⟩
set_option maxRecDepth 100000 in
theorem putReq_star (SB c : Nat) (g b : Addr) (w : World) (hg : Gv g w) (hn : Gn b w) (hs : StarAt w SB) :
    Calls Tryd.prog 14 #[.agg (rq 1 (.slice (some ⟨SB, 0, none⟩) 1 c))] w fun e w' => e = .returned (.tuple #[.string ⟨#[1, 8, 1, 34, 1, 42]⟩, .bool true]) ∧ Below w.heap.size w w' := by
  obtain ⟨w0, hw0, hb0, p0⟩ := alloc_new w #[.int .i64 (1 : Int), .bool false, .int .u64 0, .slice (some ⟨SB, 0, none⟩) 1 c, .slice none 0 0, .slice none 0 0, .string ⟨#[]⟩] 41
  have HR := Lib.hid (show Calls Tryd.prog 23 #[.agg (rq 1 (.slice (some ⟨SB, 0, none⟩) 1 c))] w0 fun e w' => e = .returned (.bool true) ∧ Below w0.heap.size w0 w' from rightReq_both 1 (.slice (some ⟨SB, 0, none⟩) 1 c) b w0 (hn.below hb0) (.inr ⟨SB, c, rfl, hs.later hb0⟩) rfl)
  have HW := Lib.hid hw0
  have H := Lib.hid (And.intro p0 (And.intro hb0 (And.intro (hg.below hb0) (hs.later hb0))))
  clear hw0 hb0 p0 hg hn hs
  go_enter Tryd.func14, Tryd.ntmps14
  go_wp2_with fail
  rw [HW.out]
  refine HR.out.mono ?_
  rintro e w1 ⟨rfl, hb⟩
  have pz := H.out.1.later hb
  have c0 : w1.cell? ⟨w.heap.size, 0, none⟩ = some (.int .i64 (1 : Int)) := pz.cell 0
  have c1 : w1.cell? ⟨w.heap.size, 1, none⟩ = some (.bool false) := pz.cell 1
  have c2 : w1.cell? ⟨w.heap.size, 2, none⟩ = some (.int .u64 0) := pz.cell 2
  have c3 : w1.cell? ⟨w.heap.size, 3, none⟩ = some (.slice (some ⟨SB, 0, none⟩) 1 c) := pz.cell 3
  have c4 : w1.cell? ⟨w.heap.size, 4, none⟩ = some (.slice none 0 0) := pz.cell 4
  have c5 : w1.cell? ⟨w.heap.size, 5, none⟩ = some (.slice none 0 0) := pz.cell 5
  have c6 : w1.cell? ⟨w.heap.size, 6, none⟩ = some (.string ⟨#[]⟩) := pz.cell 6
  have HWR := Lib.hid (writeReq_star SB c g w1 (H.out.2.2.1.below hb) (H.out.2.2.2.later hb))
  have HB := Lib.hid (H.out.2.1.trans (hb.mono H.out.2.1.size))
  clear hb pz HW
  go_wp2_with fail
  refine HWR.out.mono ?_
  rintro e w2 ⟨rfl, hb⟩
  have HB2 := Lib.hid (HB.out.trans (hb.mono HB.out.size))
  clear hb c0 c1 c2 c3 c4 c5 c6
  go_wp2_with fail
  go_ret2
  exact ⟨rfl, HB2.out⟩
set_option maxRecDepth 100000 in
theorem putReq_nil (b : Addr) (w : World) (hn : Gn b w) :
    Calls Tryd.prog 14 #[.agg (rq 0 (.slice none 0 0))] w fun e w' => e = .returned (.tuple #[.string ⟨#[]⟩, .bool false]) ∧ Below w.heap.size w w' := by
  obtain ⟨w0, hw0, hb0, p0⟩ := alloc_new w (rq 0 (.slice none 0 0)) 41
  have HR := Lib.hid (show Calls Tryd.prog 23 #[.agg (rq 0 (.slice none 0 0))] w0 fun e w' => e = .returned (.bool false) ∧ Below w0.heap.size w0 w' from rightReq_both 0 (.slice none 0 0) b w0 (hn.below hb0) (.inl rfl) rfl)
  have HW := Lib.hid hw0
  have HB := Lib.hid hb0
  clear hw0 hb0 p0 hn
  go_enter Tryd.func14, Tryd.ntmps14
  go_wp2_with fail
  rw [HW.out]
  refine HR.out.mono ?_
  rintro e w1 ⟨rfl, hb⟩
  have HB2 := Lib.hid (HB.out.trans (hb.mono HB.out.size))
  clear hb
  go_wp2_with fail
  go_ret2
  exact ⟨rfl, HB2.out⟩
end Go.Proofs.YtbflbgnafdbngaaDoor
