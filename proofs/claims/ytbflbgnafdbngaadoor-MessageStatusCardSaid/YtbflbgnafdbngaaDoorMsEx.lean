/- message: the law's examples (tools/msex_gen.py). -/
import Derived.Test.YtbflbgnafdbngaaDoorMsReqG
namespace Go.Proofs.YtbflbgnafdbngaaDoor
open Go.RowKit Go.Lib

theorem exPing (g b : Addr) (w : World) (hg : Gv g w) (hn : Gn b w) : Calls Tryd.prog 10 #[.string ⟨#[3, 8, 5]⟩] w fun e w' => e = .returned (.tuple #[.int .u64 5, .bool true]) ∧ Below w.heap.size w w' := by
  have hp : parse [8, 5] = some [⟨1, 0, 5, []⟩] := by
    show parseF 2 [8, 5] = _
    rfl
  have hq : pingP (⟨#[3, 8, 5]⟩ : ByteArray).data.toList = (5, none) := by
    show pingP [3, 8, 5] = (5, none)
    unfold pingP msgP
    rw [if_pos (by rfl)]
    unfold takeP
    show (match parse [8, 5] with | none => ((0 : Nat), some []) | some fs => takes pingStep 0 fs) = _
    rw [hp]
    rfl
  have h := getPing_any ⟨#[3, 8, 5]⟩ g b w hg hn (by show 3 ≤ 1099511627776; omega)
  rw [hq] at h
  exact h
theorem exPing2 (g : Addr) (w : World) (hg : Gv g w) : Calls Tryd.prog 9 #[.int .u64 5] w fun e w' => e = .returned (.string ⟨#[3, 8, 5]⟩) ∧ Below w.heap.size w w' := by
  have h := ping_any 5 g w hg (by omega)
  rw [show pingL 5 = [3, 8, 5] from rfl] at h
  exact h
theorem exStat (g b : Addr) (w : World) (hg : Gv g w) (hn : Gn b w) : ∃ s : ByteArray, kindL s.data.toList = 4 ∧ Calls Tryd.prog 7 #[.agg #[.int .i64 1, .string ⟨#[97]⟩, .int .u64 1, .bool true, .string ⟨#[]⟩]] w fun e w' => e = .returned (.tuple #[.string s, .bool true]) ∧ Below w.heap.size w w' := by
  have h := putStatus_any ⟨1, ⟨#[97]⟩, 1, true, ⟨#[]⟩⟩ g b w hg hn (by show 1 < 2 ^ 64; omega)
  rw [show St.ok ⟨1, ⟨#[97]⟩, 1, true, ⟨#[]⟩⟩ = true from by rfl, if_pos rfl] at h
  exact ⟨_, rfl, h⟩
set_option maxRecDepth 100000 in
set_option maxHeartbeats 4000000 in
theorem ms_examples (g b : Addr) (w : World) (hg : Gv g w) (hn : Gn b w) : Calls Tryd.prog 5 #[] w fun e w' => e = .returned (.bool true) ∧ Below w.heap.size w w' := by
  have HG := Lib.hid (fun (W : World) (h : Below w.heap.size w W) => And.intro (hg.below h) (hn.below h))
  obtain ⟨w1, hw1, hb1, p1⟩ := alloc_new w #[.string ⟨#[42]⟩] 9
  have HW1 := Lib.hid hw1
  have H1 := Lib.hid (And.intro hb1 (show StarAt w1 w.heap.size from ⟨p1.cell 0, p1.lt⟩))
  clear hw1 hb1 p1 hg hn
  go_enter Tryd.func5, Tryd.ntmps5
  go_wp2_with fail
  rw [HW1.out]
  refine (putReq_star w.heap.size 1 g b w1 (HG.out _ H1.out.1).1 (HG.out _ H1.out.1).2 H1.out.2).mono ?_
  rintro e w2 ⟨rfl, hb⟩
  have H2 := Lib.hid (H1.out.1.trans (hb.mono H1.out.1.size))
  clear hb
  go_wp2_with fail
  refine (getReq_star g b w2 (HG.out _ H2.out).1 (HG.out _ H2.out).2).mono ?_
  rintro e w3 ⟨SB, sc, ⟨rfl, hst⟩, hb⟩
  have H3 := Lib.hid (H2.out.trans (hb.mono H2.out.size))
  obtain ⟨w4, hw4, hb4, p4⟩ := alloc_new w3 #[.int .i64 1, .bool false, .int .u64 0, .slice (some ⟨SB, 0, none⟩) 1 sc, .slice none 0 0, .slice none 0 0, .string ⟨#[]⟩] 41
  have HW4 := Lib.hid hw4
  have H4 := Lib.hid (H3.out.trans (hb4.mono H3.out.size))
  have P4 := Lib.hid p4
  clear hb hst hw4 hb4 p4
  go_wp2_with fail
  rw [HW4.out]
  refine (putReq_nil b w4 (HG.out _ H4.out).2).mono ?_
  rintro e w5 ⟨rfl, hb⟩
  have H5 := Lib.hid (H4.out.trans (hb.mono H4.out.size))
  have P5 := Lib.hid (P4.out.later hb)
  clear hb
  go_wp2_with fail
  refine (exPing g b w5 (HG.out _ H5.out).1 (HG.out _ H5.out).2).mono ?_
  rintro e w6 ⟨rfl, hb⟩
  have H6 := Lib.hid (H5.out.trans (hb.mono H5.out.size))
  have P6 := Lib.hid (P5.out.later hb)
  clear hb
  obtain ⟨s4, hk4, hput⟩ := exStat g b w6 (HG.out _ H6.out).1 (HG.out _ H6.out).2
  have HP := Lib.hid hput
  have HK := Lib.hid (fun W => kind_any s4 W)
  rw [hk4] at HK
  clear hput hk4
  go_wp2_with fail
  refine HP.out.mono ?_
  rintro e w7 ⟨rfl, hb⟩
  have H7 := Lib.hid (H6.out.trans (hb.mono H6.out.size))
  have P7 := Lib.hid (P6.out.later hb)
  have c3 : w7.cell? ⟨w3.heap.size, 3, none⟩ = some (.slice (some ⟨SB, 0, none⟩) 1 sc) := P7.out.cell 3
  have l3 := P7.out.lt
  clear hb
  go_wp2_with fail
  refine (exPing2 g w7 (HG.out _ H7.out).1).mono ?_
  rintro e w8 ⟨rfl, hb⟩
  have H8 := Lib.hid (H7.out.trans (hb.mono H7.out.size))
  clear hb
  go_wp2_with fail
  refine (HK.out w8).mono ?_
  rintro e w9 ⟨rfl, hb⟩
  have H9 := Lib.hid (H8.out.trans (hb.mono H8.out.size))
  clear hb
  go_wp2_with fail
  refine (kind_any ⟨#[]⟩ w9).mono ?_
  rintro e w10 ⟨rfl, hb⟩
  have H10 := Lib.hid (H9.out.trans (hb.mono H9.out.size))
  clear hb
  go_wp2_with fail
  go_ret
  exact ⟨rfl, H10.out⟩
end Go.Proofs.YtbflbgnafdbngaaDoor
