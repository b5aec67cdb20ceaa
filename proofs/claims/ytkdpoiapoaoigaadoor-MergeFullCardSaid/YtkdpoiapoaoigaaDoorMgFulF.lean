/- merge: the names that Full makes (its closure). -/
import Derived.Test.YtkdpoiapoaoigaaDoorMgFulP
import Derived.Test.YtkdpoiapoaoigaaDoorMgEx
namespace Go.Proofs.YtkdpoiapoaoigaaDoor
open Go.RowKit Go.Lib

theorem conv2 {g : Nat} {d1 d2 : Nat} {u1 u2 : UInt8} {W : World} (h1 : u1.toNat = d1) (h2 : u2.toNat = d2) (hg : Blk W g #[.int .u8 (d1 : Int), .int .u8 (d2 : Int)] 5) :
    (convert 30 9 (.slice (some ⟨g, 0, none⟩) 2 2)).run Tryd.prog W = .ok (.string ⟨#[u1, u2]⟩) W :=
  bytes_conv (l := [u1, u2]) (c := 2) (by simp [h1, h2]) hg
set_option maxRecDepth 100000 in
set_option maxHeartbeats 4000000 in
theorem ful_of (f n : Nat) (w : World) (hf : f ≤ 100) (hn : n ≤ 79) :
    Calls Tryd.prog 24 #[.int .i64 (f : Int), .int .i64 (n : Int)] w (SetPost false (fL f n) w) := by
  obtain ⟨i0, hi, hz0, hz1, hz2⟩ := info_parts Tryd.infoStr
  obtain ⟨T, hT⟩ : ∃ T, f + n = T := ⟨_, rfl⟩
  have t1 : IntKind.i64.wrap ((f : Int) + (n : Int)) = (T : Int) := by rw [IntKind.wrap_i64]; omega
  obtain ⟨w1, hw1, hb1, q1⟩ := alloc_new w zSet 28
  have HW := Lib.hid hw1
  have HB := Lib.hid hb1
  have HQ := Lib.hid q1
  clear hw1 hb1 q1
  go_enter Tryd.func24, Tryd.ntmps24
  go_wp2_with (rw [HW.out])
  go_loopw [6, 5] (fun vi v wr => ∃ k : Nat, k ≤ n ∧ vi = .int .i64 ((f + k : Nat) : Int) ∧ wr.ownsRow w1.heap.size 9 1 v (fL f k).length (tsV (fL f k)) ∧ Below w1.heap.size w1 wr) (fun vi _ _ => T - (RowKit.intOf vi).toNat)
  case atStart => exact ⟨0, Nat.zero_le _, rfl, World.ownsRow_nil _ _ _ _, Below.refl _ _⟩
  case round =>
    obtain ⟨k, hk, rfl, hown, hb⟩ := hrel
    obtain ⟨i, hii⟩ : ∃ i, f + k = i := ⟨_, rfl⟩
    rw [hii]
    by_cases hlt : k < n
    · have b1 : (i : Int) < (T : Int) := by omega
      obtain ⟨q, hq⟩ : ∃ q, i / 20 = q := ⟨_, rfl⟩
      obtain ⟨r, hr⟩ : ∃ r, i % 20 = r := ⟨_, rfl⟩
      obtain ⟨D1, hD1⟩ : ∃ D, 97 + q = D := ⟨_, rfl⟩
      obtain ⟨D2, hD2⟩ : ∃ D, 97 + r = D := ⟨_, rfl⟩
      have e1 : (i : Int).tdiv 20 = (q : Int) := by rw [Int.tdiv_eq_ediv_of_nonneg (by omega)]; omega
      have e1' : (i : Int) / 20 = (q : Int) := by omega
      have e2 : (i : Int).tmod 20 = (r : Int) := by rw [Int.tmod_eq_emod_of_nonneg (by omega)]; omega
      have e2' : (i : Int) % 20 = (r : Int) := by omega
      have g1 : IntKind.i64.wrap (q : Int) = (q : Int) := by rw [IntKind.wrap_i64]; omega
      have g2 : IntKind.i64.wrap (r : Int) = (r : Int) := by rw [IntKind.wrap_i64]; omega
      have g3 : IntKind.i64.wrap (97 + (q : Int)) = (D1 : Int) := by rw [IntKind.wrap_i64]; omega
      have g4 : IntKind.i64.wrap (97 + (r : Int)) = (D2 : Int) := by rw [IntKind.wrap_i64]; omega
      have g5 : IntKind.u8.wrap (D1 : Int) = (D1 : Int) := by rw [show IntKind.u8.wrap (D1 : Int) = (D1 : Int) % 256 from rfl]; omega
      have g6 : IntKind.u8.wrap (D2 : Int) = (D2 : Int) := by rw [show IntKind.u8.wrap (D2 : Int) = (D2 : Int) % 256 from rfl]; omega
      have g7 : IntKind.i64.wrap ((i : Int) + 1) = (i : Int) + 1 := by rw [IntKind.wrap_i64]; omega
      obtain ⟨u1, hu1, hl1⟩ : ∃ u : UInt8, UInt8.ofNat (97 + q) = u ∧ u.toNat = D1 := ⟨_, rfl, (byteF (by omega)).trans hD1⟩
      obtain ⟨u2, hu2, hl2⟩ : ∃ u : UInt8, UInt8.ofNat (97 + r) = u ∧ u.toNat = D2 := ⟨_, rfl, (byteF (by omega)).trans hD2⟩
      have HX := Lib.hid (show fL f (k + 1) = fL f k ++ [[u1, u2]] by rw [fL_next, hii]; unfold nmF; rw [hq, hr, hu1, hu2])
      have hle := fL_len f k
      obtain ⟨w2, hw2, hb2, q2⟩ := alloc_new wr #[.int .u8 (D1 : Int), .int .u8 (D2 : Int)] 5
      have cv := conv2 hl1 hl2 q2
      have HW2 := Lib.hid hw2
      have HOW := Lib.hid (ownsRow_later hown hb2)
      have HBW := Lib.hid (hb.trans (hb2.mono hb.size))
      have hs2 : w1.heap.size ≤ w2.heap.size := HBW.out.size
      clear hw2 hb2 q2 hown hb hq hr hu1 hu2 hl1 hl2
      go_wp2_with (first | (rw [HW2.out]) | (at_builtin; go_must (refine wpList_append_own _ rfl _ _ 26 rfl w1.heap.size 9 i0 _ 1 16 Tryd.underlying26 hi hz0 hz1 hz2 rfl (by omega) _ _ _ rfl (HOW.out.alloc _) ⟨w2.heap.size, 0, none⟩ 1 1 (tsV [[u1, u2]]) rfl rfl (World.news_of_block (cs := #[.string ⟨#[u1, u2]⟩]) (t := 9) (fr := (0, 0)) (heap_alloc_new w2 _)) (tsV_one _) (by unfold maxLen; omega) (by omega) (by simp; omega) ?_; intro v3 w3 hown3 hgrow3 _)))
      have HB3 := Lib.hid ((HBW.out.alloc hs2 _).grown hgrow3 (by simp; omega) (fun j hj => (HOW.out.lt j hj).1))
      have HO3 := Lib.hid (show w3.ownsRow w1.heap.size 9 1 v3 (fL f (k + 1)).length (tsV (fL f (k + 1))) by rw [HX.out, tsV_append, List.length_append]; exact hown3)
      clear hown3 hgrow3
      go_wp2_with fail
      go_roundw
      case rel => exact ⟨k + 1, by omega, by go_num, HO3.out, HB3.out⟩
      case measure => simp [RowKit.intOf]; omega
    · obtain rfl : k = n := by omega
      have b1 : ¬ (i : Int) < (T : Int) := by omega
      have HT := Lib.hid (RowV.own hown)
      have HBW := Lib.hid hb
      obtain ⟨a3, c3, rfl⟩ := owns_slice hown
      clear hown hb
      go_wp2_with fail
      refine (of_any HT.out (fL_fit (by omega)) (fS_of (by omega))).mono ?_
      rintro e w4 ⟨a4, c4, rfl, ht, hb4⟩
      dsimp only
      have q4 := (HQ.out.later HBW.out).later hb4
      have r0 : w4.cell? ⟨w.heap.size, 0, none⟩ = some (.bool false) := q4.cell 0
      have r1 : w4.cell? ⟨w.heap.size, 1, none⟩ = some (.slice none 0 0) := q4.cell 1
      have g0 := q4.frozen 0
      have g1 := q4.frozen 1
      have HE := Lib.hid (box_set (w := w) (sa := false) q4 ht (HB.out.trans ((HBW.out.trans (hb4.mono HBW.out.size)).mono HB.out.size)) (Nat.le_refl _))
      clear ht hb4 q4
      go_wp2_with fail
      obtain ⟨w9, e9, t0, t1, hp⟩ := HE.out
      rw [e9]
      exact bodyPost_ret (v := .agg #[.bool false, .slice a4 (fL f k).length c4]) (by simp [results, Tryd.results24, go_sem, t0, t1]) rfl hp
theorem ful_0 (n : Nat) (w : World) (hn : n ≤ 79) : Calls Tryd.prog 24 #[.int .i64 0, .int .i64 (n : Int)] w (SetPost false (fL 0 n) w) := ful_of 0 n w (by omega) hn
theorem ful_100 (n : Nat) (w : World) (hn : n ≤ 79) : Calls Tryd.prog 24 #[.int .i64 100, .int .i64 (n : Int)] w (SetPost false (fL 100 n) w) := ful_of 100 n w (by omega) hn
end Go.Proofs.YtkdpoiapoaoigaaDoor
