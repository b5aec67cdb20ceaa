/- ledger: LedgerRoom walked (tools/ldroom_gen.py). -/
import Derived.Test.YtjcfbpbmieepiaaDoorLdRmP
namespace Go.Proofs.YtjcfbpbmieepiaaDoor
open Go.RowKit

theorem bytes_conv {g c : Nat} {cs : Array Value} {l : List UInt8} {W : World} (hc : cs.toList = l.map fun x => Value.int .u8 (x.toNat : Int)) (hg : Blk W g cs 5) :
    (convert 55 9 (.slice (some ⟨g, 0, none⟩) l.length c)).run Tryd.prog W = .ok (.string ⟨l.toArray⟩) W := by
  refine run_convert_bytes_back W _ _ 5 ⟨g, 0, none⟩ c l Tryd.underlying55 Tryd.underlying5 Tryd.underlying9 fun j hj => ?_
  have e : (⟨g, 0, none⟩ : Addr).add j = ⟨g, j, none⟩ := by unfold Addr.add; split <;> simp_all
  rw [e, hg.cell j, ← Array.getElem?_toList, hc, List.getElem?_map, List.getElem?_eq_getElem hj]; rfl
set_option maxRecDepth 100000 in
set_option maxHeartbeats 8000000 in
theorem room_walk (n0 : Nat) (g b : Addr) (W : World) (hg : Gv g W) (hn : Gn b W) (h0 : n0 < 256) :
    Calls Tryd.prog 6 #[.int .u8 (n0 : Int)] W fun e w' => e = .returned (.bool true) ∧ Below W.heap.size W w' := by
  obtain ⟨κ, hκ⟩ : ∃ κ, n0 % 10 = κ := ⟨_, rfl⟩
  have hκ9 : κ < 10 := by omega
  obtain ⟨n, hnn⟩ : ∃ n, 1024 + κ = n := ⟨_, rfl⟩
  have a1 : (n0 : Int).tmod 10 = (κ : Int) := by rw [Int.tmod_eq_emod_of_nonneg (by omega)]; omega
  have a2 : (n0 : Int) % 10 = (κ : Int) := by omega
  have a3 : IntKind.u8.wrap (κ : Int) = (κ : Int) := by rw [show IntKind.u8.wrap (κ : Int) = (κ : Int) % 256 from rfl]; omega
  have a4 : IntKind.i64.wrap (κ : Int) = (κ : Int) := by rw [IntKind.wrap_i64]; omega
  have a5 : (1024 : Int) + (κ : Int) = (n : Int) := by omega
  have a6 : IntKind.i64.wrap (1024 + (κ : Int)) = (n : Int) := by rw [IntKind.wrap_i64]; omega
  obtain ⟨lo, hlo⟩ : ∃ lo, 1 + κ = lo := ⟨_, rfl⟩
  have a7 : (1 : Int) + (κ : Int) = (lo : Int) := by omega
  have a8 : IntKind.i64.wrap (1 + (κ : Int)) = (lo : Int) := by rw [IntKind.wrap_i64]; omega
  have a9 : IntKind.u64.wrap (lo : Int) = (lo : Int) := by rw [show IntKind.u64.wrap (lo : Int) = (lo : Int) % 18446744073709551616 from rfl]; omega
  have hlon : n + 1 - 1024 = lo := by omega
  have hn1 : 1024 ≤ n := by omega
  have hn2 : n ≤ 1033 := by omega
  have HLON := Lib.hid (And.intro hlon (And.intro hn1 hn2))
  clear hκ hnn h0 hlo
  have HG := Lib.hid (And.intro hg hn)
  have HEX := Lib.hid (ld_examples g b W hg hn)
  clear hg hn
  go_enter Tryd.func6, Tryd.ntmps6
  go_wp2_with fail
  refine HEX.out.mono ?_
  rintro e w ⟨rfl, hb⟩
  have HK := Lib.hid hb
  have HG := Lib.hid (And.intro (HG.out.1.below hb) (HG.out.2.later hb))
  clear hb HEX
  go_wp2_with fail
  refine (new_is w).mono ?_
  rintro e w1 ⟨l, rfl, h1, hb1⟩
  have HLW := Lib.hid (show 1 < w.heap.size ∧ 0 < w.heap.size from ⟨HG.out.1.2, HG.out.2.2⟩)
  have HLE := Lib.hid HK.out.size
  have HK := Lib.hid (HK.out.trans (hb1.mono HLE.out))
  have HG := Lib.hid (And.intro (HG.out.1.below hb1) (HG.out.2.later hb1))
  have HI := Lib.hid h1
  clear h1 hb1
  go_wp2_with fail
  go_loopw [6, 7] (fun vi _ wr => ∃ (i : Nat) (ms : List Mk), vi = .int .i64 ((i : Int) + 1) ∧ i ≤ n ∧ RmI i ms ∧ LdIs w.heap.size l ms wr ∧ (Gv g wr ∧ Gn b wr) ∧ Below W.heap.size W wr) (fun vi _ _ => n + 1 - (intOf vi).toNat)
  case atStart => exact ⟨0, [], rfl, Nat.zero_le _, rm_zero, HI.out, HG.out, HK.out⟩
  case round =>
    clear HI HG HK
    obtain ⟨i, ms, rfl, hi, hrm, hi1, hi2, hi4⟩ := hrel
    have HI := Lib.hid hi1
    have HG := Lib.hid hi2
    have HK := Lib.hid hi4
    have HRM := Lib.hid hrm
    clear hi1 hi2 hi4 hrm
    by_cases hlt : i < n
    · have b1 : (i : Int) + 1 ≤ (n : Int) := by omega
      have b2 : IntKind.u64.wrap ((i : Int) + 1) = (i : Int) + 1 := by rw [show IntKind.u64.wrap ((i : Int) + 1) = ((i : Int) + 1) % 18446744073709551616 from rfl]; omega
      have b3 : IntKind.i64.wrap ((i : Int) + 1 + 1) = (i : Int) + 1 + 1 := by rw [IntKind.wrap_i64]; omega
      obtain ⟨t0, ht0⟩ : ∃ t0, 1 + (i + 1) % 5 = t0 := ⟨_, rfl⟩
      obtain ⟨x0, hx0⟩ : ∃ x0, 97 + (i + 1) % 26 = x0 := ⟨_, rfl⟩
      obtain ⟨x1, hx1⟩ : ∃ x1, 97 + (i + 1) / 26 % 26 = x1 := ⟨_, rfl⟩
      obtain ⟨x2, hx2⟩ : ∃ x2, 97 + (i + 1) / 676 = x2 := ⟨_, rfl⟩
      have c1 : ((i : Int) + 1).tmod 5 = ((i : Int) + 1) % 5 := Int.tmod_eq_emod_of_nonneg (by omega)
      have c2 : (1 : Int) + ((i : Int) + 1) % 5 = (t0 : Int) := by omega
      have c3 : IntKind.i64.wrap (1 + ((i : Int) + 1) % 5) = (t0 : Int) := by rw [IntKind.wrap_i64]; omega
      have d1 : ((i : Int) + 1).tmod 26 = ((i : Int) + 1) % 26 := Int.tmod_eq_emod_of_nonneg (by omega)
      have d2 : (97 : Int) + ((i : Int) + 1) % 26 = (x0 : Int) := by omega
      have d3 : IntKind.i64.wrap (97 + ((i : Int) + 1) % 26) = (x0 : Int) := by rw [IntKind.wrap_i64]; omega
      have d4 : IntKind.u8.wrap (x0 : Int) = (x0 : Int) := by rw [show IntKind.u8.wrap (x0 : Int) = (x0 : Int) % 256 from rfl]; omega
      have e0 : ((i : Int) + 1).tdiv 26 = ((i : Int) + 1) / 26 := Int.tdiv_eq_ediv_of_nonneg (by omega)
      have e1 : (((i : Int) + 1) / 26).tmod 26 = ((i : Int) + 1) / 26 % 26 := Int.tmod_eq_emod_of_nonneg (by omega)
      have e2 : (97 : Int) + ((i : Int) + 1) / 26 % 26 = (x1 : Int) := by omega
      have e3 : IntKind.i64.wrap (97 + ((i : Int) + 1) / 26 % 26) = (x1 : Int) := by rw [IntKind.wrap_i64]; omega
      have e4 : IntKind.u8.wrap (x1 : Int) = (x1 : Int) := by rw [show IntKind.u8.wrap (x1 : Int) = (x1 : Int) % 256 from rfl]; omega
      have f0 : ((i : Int) + 1).tdiv 676 = ((i : Int) + 1) / 676 := Int.tdiv_eq_ediv_of_nonneg (by omega)
      have f2 : (97 : Int) + ((i : Int) + 1) / 676 = (x2 : Int) := by omega
      have f3 : IntKind.i64.wrap (97 + ((i : Int) + 1) / 676) = (x2 : Int) := by rw [IntKind.wrap_i64]; omega
      have f4 : IntKind.u8.wrap (x2 : Int) = (x2 : Int) := by rw [show IntKind.u8.wrap (x2 : Int) = (x2 : Int) % 256 from rfl]; omega
      have hbad : badK (t0 : Int) ⟨#[UInt8.ofNat x0, UInt8.ofNat x1, UInt8.ofNat x2]⟩ (i + 1) = false := badK_three _ _ _ _ _ (by omega) (by omega) (nmB_az (by omega) (by omega)) (nmB_az (by omega) (by omega)) (nmB_az (by omega) (by omega)) (by omega)
      have hof : ∀ y : Nat, y < 256 → ((UInt8.ofNat y).toNat : Int) = (y : Int) := fun y hy => by rw [UInt8.toNat_ofNat']; omega
      obtain ⟨w2, hw2, hb, q2⟩ := ld_new wr #[.int .u8 (x0 : Int), .int .u8 (x1 : Int), .int .u8 (x2 : Int)] 5
      have hcv := bytes_conv (g := wr.heap.size) (c := 3) (l := [UInt8.ofNat x0, UInt8.ofNat x1, UInt8.ofNat x2]) (by
        show [Value.int .u8 (x0 : Int), Value.int .u8 (x1 : Int), Value.int .u8 (x2 : Int)] = [Value.int .u8 ((UInt8.ofNat x0).toNat : Int), Value.int .u8 ((UInt8.ofNat x1).toNat : Int), Value.int .u8 ((UInt8.ofNat x2).toNat : Int)]
        rw [hof x0 (by omega), hof x1 (by omega), hof x2 (by omega)]) q2
      obtain ⟨X, hX⟩ : ∃ X : ByteArray, (⟨#[UInt8.ofNat x0, UInt8.ofNat x1, UInt8.ofNat x2]⟩ : ByteArray) = X := ⟨_, rfl⟩
      have hcv2 : (convert 55 9 (.slice (some ⟨wr.heap.size, 0, none⟩) 3 3)).run Tryd.prog w2 = .ok (.string X) w2 := by rw [← hX]; exact hcv
      rw [hX] at hbad
      have hrn := rm_next HRM.out hbad
      have HK := Lib.hid (HK.out.trans (hb.mono HK.out.size))
      have HG := Lib.hid (And.intro (HG.out.1.below hb) (HG.out.2.later hb))
      have HI := Lib.hid (HI.out.later hb)
      have HW2 := Lib.hid hw2
      clear hcv hX hbad hof hw2 hb q2 ht0 hx0 hx1 hx2
      obtain ⟨w3, hw3, hb, q3⟩ := ld_new w2 #[.int .i64 (t0 : Int), .string X] 31
      have HK := Lib.hid (HK.out.trans (hb.mono HK.out.size))
      have HG := Lib.hid (And.intro (HG.out.1.below hb) (HG.out.2.later hb))
      have HI := Lib.hid (HI.out.later hb)
      have HW3 := Lib.hid hw3
      have z0 : w3.cell? ⟨w2.heap.size, 0, none⟩ = some (.int .i64 (t0 : Int)) := q3.cell 0
      have z1 : w3.cell? ⟨w2.heap.size, 1, none⟩ = some (.string X) := q3.cell 1
      clear hw3 hb q3
      have hs := begin_is w.heap.size l (t0 : Int) X (i + 1) ms w3 HI.out (by omega)
      rw [hrn.1] at hs
      have HRN := Lib.hid hrn.2
      generalize begM (t0 : Int) X (i + 1) ms = ms2 at hs HRN
      have HS : Calls Tryd.prog 15 #[.pointer (some ⟨l, 0, none⟩), .agg #[.int .i64 (t0 : Int), .string X], .int .u64 ((i : Int) + 1)] w3 (fun e w' => e = .returned (.int .i64 0) ∧ LdIs w.heap.size l ms2 w' ∧ Kept w.heap.size w3 w') := hs
      clear hs hrn
      go_wp2_with (first | rw [HW2.out] | rw [HW3.out])
      refine HS.mono ?_
      rintro e w4 ⟨rfl, hi, hk⟩
      clear HS z0 z1
      have HK := Lib.hid (HK.out.trans ((hk.below HI.out.hB).mono HLE.out))
      have HG := Lib.hid (And.intro (HI.out.gv HG.out.1 HLW.out.1 hk) (HI.out.gn HG.out.2 HLW.out.2 hk))
      have HI := Lib.hid hi
      clear hi hk
      go_wp2_with fail
      go_roundw
      case rel => exact ⟨i + 1, ms2, by go_num, by omega, HRN.out, HI.out, HG.out, HK.out⟩
      case measure => simp [intOf]; omega
    · obtain rfl : i = n := by omega
      have b1 : ¬ (i : Int) + 1 ≤ (i : Int) := by omega
      go_wp2_with fail
      refine (marks_is w.heap.size l _ wr HI.out).mono ?_
      rintro e w6 ⟨v, rfl, hrow, hb⟩
      have HK := Lib.hid (HK.out.trans (hb.mono HK.out.size))
      have HG := Lib.hid (And.intro (HG.out.1.below hb) (HG.out.2.later hb))
      have HI := Lib.hid (HI.out.later hb)
      clear hb
      obtain ⟨a, c, rfl⟩ := row_shape hrow
      have hlen : ms.length = 1024 := by rw [HRM.out.len]; have := HLON.out; omega
      have hat := mksAt_row hrow
      rw [hlen]
      have HAT := Lib.hid hat
      have HLEN := Lib.hid hlen
      have HOKS := Lib.hid (HI.out.1.ok)
      clear hrow hat hlen
      go_wp2_with fail
      go_loopw [9, 10] (fun vl vj wq => ∃ j : Nat, vj = .int .i64 (j : Int) ∧ j ≤ 1024 ∧ vl = .int .u64 (leastM (ms.take j) : Int) ∧ wq = w6) (fun _ vj _ => 1024 - (intOf vj).toNat)
      case atStart => exact ⟨0, rfl, Nat.zero_le _, rfl, rfl⟩
      case round =>
        obtain ⟨j, rfl, hj, rfl, rfl⟩ := hrel
        by_cases hlt2 : j < 1024
        · have b5 : (j : Int) < 1024 := by omega
          have b6 : (0 : Int) ≤ (j : Int) := by omega
          obtain ⟨m, hx⟩ : ∃ m, ms[j]? = some m := ⟨_, List.getElem?_eq_getElem (by have := HLEN.out; omega)⟩
          obtain ⟨gg, off, rfl, hgl, p0, p1, p2, p3, p4⟩ := HAT.out j m hx
          have hnx := least_next hx
          obtain ⟨A, hA⟩ : ∃ A, leastM (ms.take j) = A := ⟨_, rfl⟩
          rw [hA] at hnx ⊢
          obtain ⟨C, hC⟩ : ∃ C, min A m.q = C := ⟨_, rfl⟩
          rw [hC] at hnx
          have hmin : min (A : Int) (m.q : Int) = (C : Int) := by omega
          have hmin2 : min (m.q : Int) (A : Int) = (C : Int) := by omega
          have HNX := Lib.hid hnx
          clear hnx hA hC hx hgl p0 p1 p3 p4
          go_wp2_with fail
          go_roundw
          case rel => exact ⟨j + 1, by go_num, by omega, by rw [HNX.out], by first | trivial | rfl⟩
          case measure => simp [intOf]; omega
        · obtain rfl : j = 1024 := by omega
          have hle : leastM (ms.take 1024) = lo := by rw [List.take_of_length_le (by rw [HLEN.out]; exact Nat.le_refl _), rm_least HRM.out (by have := HLON.out; omega) (by have := HLON.out; omega)]; exact HLON.out.1
          rw [hle]
          clear hle
          go_wp2_with fail
          go_ret
          exact ⟨rfl, HK.out⟩
end Go.Proofs.YtjcfbpbmieepiaaDoor
