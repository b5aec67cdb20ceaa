/- FramePacks: the walk. -/
import Derived.Test.YtmgmjndghhgkcaaDoorFrRef
import Derived.Laws.MakeOwn
namespace Go.Proofs.YtmgmjndghhgkcaaDoor
open Go.RowKit Go.Lib

theorem madeOne (z : Value) (n : Nat) : (madeCells #[z] n).toList = List.replicate n z := by
  simp only [madeCells, Array.toList_map, Array.toList_range]
  apply List.ext_getElem
  · simp
  · intro i h1 h2; simp [Nat.mod_one]
theorem make_zeros (k : Nat) (hk : k ≤ 140737488355328) : ∃ cs : Array Value, cs.toList = List.replicate k (Value.int .u8 0) ∧ ∀ W : World, (Instr.makeSlice 41 (.int .i64 (k : Int)) (.int .i64 (k : Int))).run Tryd.prog W = .ok (.slice (some ⟨W.heap.size, 0, none⟩) k k) (W.alloc (.cells cs 5)) := by
  obtain ⟨i, hi, hz0, hz1, hz2⟩ := info_parts Tryd.infoU8
  refine ⟨madeCells #[Value.int .u8 0] (k * i.size), by rw [madeOne, hz1, Nat.mul_one], fun W => ?_⟩
  have h := run_make W (P := Tryd.prog) 41 5 i (.int .u8 0) Tryd.underlying41 hi hz0 .i64 .i64 (k : Int) (k : Int) (by omega) (Int.le_refl _) (by rw [hz2]; omega) (by omega)
  simpa [Value.cells] using h
theorem blk_bytes {g c : Nat} {cs : Array Value} {l : List UInt8} {W : World} (hc : cs.toList = bytesV l) (hg : Blk W g cs 5) :
    (convert 41 9 (.slice (some ⟨g, 0, none⟩) l.length c)).run Tryd.prog W = .ok (.string ⟨l.toArray⟩) W := by
  refine conv_bytes (fun j x hx => ⟨g, 0, rfl, ?_⟩)
  rw [Nat.zero_add, hg.cell j, ← Array.getElem?_toList, hc, List.getElem?_map, hx]; rfl

/-- The text, over and over: k bytes of it. -/
def repL (s : List UInt8) (k : Nat) : List UInt8 := (List.range k).map fun i => s.getD (i % s.length) 0
theorem repL_len (s : List UInt8) (k : Nat) : (repL s k).length = k := by simp [repL]
theorem repL_succ (s : List UInt8) (k : Nat) : repL s (k + 1) = repL s k ++ [s.getD (k % s.length) 0] := by simp [repL, List.range_succ]

set_option maxRecDepth 100000 in
set_option maxHeartbeats 1000000 in
/-- Both Packs, and the comparison. -/
theorem packs_walk (x0 : ByteArray) (n1 : Nat) (b : Addr) (w : World) (hg : Gs b w) (hge : Ge w) (hx : x0.size ≤ maxLen) (hn : n1 < 4294967296) :
    Calls Tryd.prog 4 #[.string x0, .int .u32 (n1 : Int)] w fun e w' => e = .returned (.bool true) ∧ Below w.heap.size w w' := by
  have HX := Lib.hid hx
  unfold maxLen at hx
  by_cases h0 : x0.size = 0
  · have hno : ¬ okM x0.data.toList := by intro h; have := ok_bytes h; omega
    have hlt : ¬ (0 : Int) < (x0.size : Int) := by omega
    have HN := Lib.hid hno; clear hno h0
    go_enter Tryd.func4, Tryd.ntmps4
    go_wp2_with fail
    refine (examples_any b w hg hge).mono ?_
    rintro e w1 ⟨rfl, hb1⟩
    go_wp2_with fail
    refine (pack_no x0 w1 HX.out HN.out).mono ?_
    rintro e w' ⟨rfl, rfl⟩
    go_wp2_with fail
    refine (refPack_no x0 w1 HX.out HN.out).mono ?_
    rintro e w' ⟨rfl, rfl⟩
    go_wp2
    go_ret
    exact ⟨rfl, hb1⟩
  · have hlt : (0 : Int) < (x0.size : Int) := by omega
    obtain ⟨W, hW⟩ : ∃ W, n1 % 70000 = W := ⟨_, rfl⟩
    have hWl : W < 70000 := by omega
    have hmod : ((n1 : Int) % 70000) = (W : Int) := by omega
    obtain ⟨cs, hcs, hmk⟩ := make_zeros W (by omega)
    have HCS := Lib.hid hcs; clear hcs h0 hW
    go_enter Tryd.func4, Tryd.ntmps4
    go_wp2_with fail
    refine (examples_any b w hg hge).mono ?_
    rintro e w1 ⟨rfl, hb1⟩
    go_wp2_with fail
    have hs1 := hb1.size
    clear hmod hmk
    go_loopw [9] (fun i wr => ∃ (k : Nat) (cr : Array Value), k ≤ W ∧ i = .int .i64 (k : Int) ∧ Blk wr w1.heap.size cr 5 ∧ cr.toList = bytesV (repL x0.data.toList k) ++ List.replicate (W - k) (Value.int .u8 0) ∧ Below w.heap.size w wr) (fun i _ => W - (intOf i).toNat)
    case atStart => exact ⟨0, cs, Nat.zero_le _, rfl, Blk.new w1 cs _, by rw [HCS.out]; rfl, hb1.alloc hs1 _⟩
    case round =>
      obtain ⟨k, cr, hk, rfl, hblk, hcr, hb⟩ := hrel
      have HCR := Lib.hid hcr
      have hsz : cr.size = W := by
        have := congrArg List.length hcr
        rw [List.length_append, List.length_map, repL_len, List.length_replicate] at this
        simp at this; omega
      clear hcr
      by_cases hlt' : k < W
      · obtain ⟨q, hq⟩ : ∃ q, k % x0.size = q := ⟨_, rfl⟩
        have hql : q < x0.size := by rw [← hq]; exact Nat.mod_lt _ (by omega)
        have hrem : ((k : Int) % (x0.size : Int)) = (q : Int) := by rw [← hq]; omega
        obtain ⟨cv, hc⟩ : ∃ cv, wr.cell? ⟨w1.heap.size, k, none⟩ = some cv := ⟨cr[k]'(by omega), by rw [hblk.cell k]; exact Array.getElem?_eq_getElem (by omega)⟩
        have hf := hblk.frozen k
        have HQ := Lib.hid (And.intro hq hsz); clear hq hsz
        go_wp2_with fail
        go_roundw
        case rel =>
          refine ⟨k + 1, cr.setIfInBounds k (.int .u8 ((x0[q]).toNat : Int)), by omega, by go_num, hblk.set k _, ?_, hb.setCell hs1 _⟩
          rw [Array.toList_setIfInBounds, HCR.out, repL_succ, show W - k = (W - (k + 1)) + 1 by omega, List.replicate_succ]
          simp only [bytesV, List.map_append]
          rw [List.set_append_right _ _ (by rw [List.length_map, repL_len]; exact Nat.le_refl _), List.length_map, repL_len, Nat.sub_self, List.set_cons_zero, List.append_assoc]
          congr 2
          rw [show x0.data.toList.length = x0.size from rfl, HQ.out.1, List.getD_eq_getElem?_getD, List.getElem?_eq_getElem (by exact hql)]
          rfl
        case measure => simp [intOf]; omega
      · obtain rfl : k = W := by omega
        have hfin : cr.toList = bytesV (repL x0.data.toList k) := by rw [HCR.out, Nat.sub_self]; simp
        have hcv := blk_bytes (c := k) hfin hblk
        rw [repL_len] at hcv
        obtain ⟨Z, hZ⟩ : ∃ Z : ByteArray, Z = ⟨(repL x0.data.toList k).toArray⟩ := ⟨_, rfl⟩
        rw [← hZ] at hcv
        have hzs : Z.size ≤ maxLen := by rw [hZ]; show (repL x0.data.toList k).toArray.size ≤ maxLen; rw [List.size_toArray, repL_len]; unfold maxLen; omega
        have HZ := Lib.hid hzs; clear hzs hfin hZ hsz
        by_cases hok : okM Z.data.toList
        · have HO := Lib.hid hok; clear hok
          go_wp2_with fail
          refine (pack_ok Z wr HO.out).mono ?_
          rintro e w3 ⟨rfl, hb3⟩
          go_wp2_with fail
          refine (refPack_ok Z w3 HO.out).mono ?_
          rintro e w4 ⟨rfl, hb4⟩
          go_wp2
          go_ret
          exact ⟨rfl, hb.trans ((hb3.trans (hb4.mono hb3.size)).mono hb.size)⟩
        · have HO := Lib.hid hok; clear hok
          go_wp2_with fail
          refine (pack_no Z wr HZ.out HO.out).mono ?_
          rintro e w' ⟨rfl, rfl⟩
          go_wp2_with fail
          refine (refPack_no Z wr HZ.out HO.out).mono ?_
          rintro e w' ⟨rfl, rfl⟩
          go_wp2
          go_ret
          exact ⟨rfl, hb⟩
end Go.Proofs.YtmgmjndghhgkcaaDoor
