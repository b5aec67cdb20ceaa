/- ledger: Marks. -/
import Derived.Test.YtdaelapamkmcaaaDoorLdOps
namespace Go.Proofs.YtdaelapamkmcaaaDoor
open Go.RowKit

set_option maxRecDepth 100000 in
set_option maxHeartbeats 4000000 in
theorem marks_any (l c : Nat) (a : Option Addr) (ms : List Mk) (w : World) (hrd : RdL l a c ms w) (hok : ∀ m ∈ ms, MkOk m) (hn : ms.length ≤ 1024) :
    Calls Tryd.prog 15 #[.pointer (some ⟨l, 0, none⟩)] w (MksPost ms w) := by
  have c0 : w.cell? ⟨l, 0, none⟩ = some (.slice a ms.length c) := hrd.blk.cell 0
  obtain ⟨L, hL⟩ : ∃ L, ms.length = L := ⟨_, rfl⟩
  rw [hL] at c0 hn
  have HL := Lib.hid hL
  have HR := Lib.hid hrd
  have HOK := Lib.hid hok
  obtain ⟨i0, hi, hz0, hz1, hz2⟩ := info_parts Tryd.infoMk
  clear hL hrd hok
  go_enter Tryd.func15, Tryd.ntmps15
  go_wp2_with fail
  go_loopw [3, 5, 11] (fun va _ vi wr => ∃ k : Nat, k ≤ L ∧ vi = .int .i64 (k : Int) ∧ wr.ownsRow w.heap.size 49 5 va k (mkCells (ms.take k)) ∧ Below w.heap.size w wr) (fun _ _ vi _ => L - (intOf vi).toNat)
  case atStart => exact ⟨0, Nat.zero_le _, rfl, World.ownsRow_nil _ _ _ _, Below.refl _ _⟩
  case round =>
    obtain ⟨k, hk, rfl, hrow, hb⟩ := hrel
    by_cases hlt : k < L
    · have b1 : (k : Int) < (L : Int) := by omega
      have b0 : (0 : Int) ≤ (k : Int) := by omega
      obtain ⟨m, hx⟩ : ∃ m, ms[k]? = some m := ⟨_, List.getElem?_eq_getElem (by have := HL.out; omega)⟩
      obtain ⟨g, off, rfl, hgl, p0, p1, p2, p3, p4⟩ := (HR.out.at'.below hb) k m hx
      have hmo := HOK.out m (List.mem_of_getElem? hx)
      obtain ⟨w1, hw1⟩ : ∃ w1, wr.alloc (.cells (mkArr m) 49) = w1 := ⟨_, rfl⟩
      have hb1 : Below wr.heap.size wr w1 := by rw [← hw1]; exact (Below.refl _ _).alloc (Nat.le_refl _) _
      have q1 : Blk w1 wr.heap.size (mkArr m) 49 := by rw [← hw1]; exact Blk.new _ _ _
      have y0 : w1.cell? ⟨wr.heap.size, 0, none⟩ = some (.int .i64 m.t) := q1.cell 0
      have y1 : w1.cell? ⟨wr.heap.size, 1, none⟩ = some (.string m.x) := q1.cell 1
      have y2 : w1.cell? ⟨wr.heap.size, 2, none⟩ = some (.int .u64 (m.q : Int)) := q1.cell 2
      have y3 : w1.cell? ⟨wr.heap.size, 3, none⟩ = some (.int .i64 m.s) := q1.cell 3
      have y4 : w1.cell? ⟨wr.heap.size, 4, none⟩ = some (.string m.d) := q1.cell 4
      have HOW := Lib.hid (own_any m w1 (by have := hmo.x; omega) (by have := hmo.d; omega))
      have HW1 := Lib.hid hw1
      have HROW := Lib.hid (own_below hrow hb1)
      have HB1 := Lib.hid (hb.trans (hb1.mono hb.size))
      have HX := Lib.hid (show mkCells (ms.take (k + 1)) = mkCells (ms.take k) ++ mkCells [m] by rw [List.take_add_one, hx, mkCells_append]; rfl)
      obtain ⟨va', vc', rfl⟩ := row_shape hrow
      clear hw1 q1 hb1 hrow hb hx hmo hgl
      go_wp2_with (rw [HW1.out])
      refine HOW.out.mono ?_
      rintro e w2 ⟨rfl, hb2⟩
      have HROW2 := Lib.hid (own_below HROW.out hb2)
      have HB2 := Lib.hid (HB1.out.trans (hb2.mono HB1.out.size))
      clear hb2 y0 y1 y2 y3 y4 p0 p1 p2 p3 p4 HROW HB1 HOW HW1
      obtain ⟨u, y, r, s, d⟩ := m
      go_wp2_with (at_builtin; go_must (refine wpList_append_own _ rfl _ _ 46 rfl w.heap.size 49 i0 _ 5 56 Tryd.underlying46 hi hz0 hz1 hz2 rfl (by omega) _ _ _ rfl (HROW2.out.alloc _) ⟨w2.heap.size, 0, none⟩ 1 1 (mkCells [⟨u, y, r, s, d⟩]) rfl rfl (World.news_of_block (cs := #[.int .i64 u, .string y, .int .u64 (r : Int), .int .i64 s, .string d]) (t := 49) (fr := (0, 0)) (heap_alloc_new w2 _)) (by simp [Value.oneCell', mkCells]) (by unfold maxLen; omega) (by omega) (by have := HB2.out.size; simp; omega) ?_; intro v' w3 hown3 hgrow3 _))
      have HR3 := Lib.hid (show w3.ownsRow w.heap.size 49 5 v' (k + 1) (mkCells (ms.take (k + 1))) by rw [HX.out]; exact hown3)
      have HB3 := Lib.hid ((HB2.out.alloc HB2.out.size (.cells #[.int .i64 u, .string y, .int .u64 (r : Int), .int .i64 s, .string d] 49)).grown hgrow3 (by have := HB2.out.size; simp; omega) (fun j hj => (HROW2.out.lt j hj).1))
      clear hown3 hgrow3
      go_wp2_with fail
      go_roundw
      case rel => exact ⟨k + 1, by omega, by go_num, HR3.out, HB3.out⟩
      case measure => simp [intOf]; omega
    · obtain rfl : k = L := by omega
      have HRR := Lib.hid (show wr.ownsRow w.heap.size 49 5 _ ms.length (mkCells ms) by rw [List.take_of_length_le (by have := HL.out; omega)] at hrow; rw [HL.out]; exact hrow)
      clear hrow
      go_wp2_with fail
      go_ret
      exact ⟨_, rfl, HRR.out, hb⟩
end Go.Proofs.YtdaelapamkmcaaaDoor
