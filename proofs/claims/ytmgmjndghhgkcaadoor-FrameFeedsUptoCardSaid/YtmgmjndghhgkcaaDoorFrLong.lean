/- FrameLong: the walk. -/
import Derived.Test.YtmgmjndghhgkcaaDoorFrPacks
namespace Go.Proofs.YtmgmjndghhgkcaaDoor
open Go.RowKit Go.Lib

theorem num4_take {l : List UInt8} {k : Nat} (h : 4 ≤ k) : num4 (l.take k) = num4 l := by
  unfold num4; rw [List.take_take, Nat.min_eq_left h]
theorem takeOf_cut {l m : List UInt8} {k : Nat} (h : takeOf l = .msg m) (hk : k < 4 + m.length) : takeOf (l.take k) = .short := by
  have hh := takeOf_msg h
  have hl : (l.take k).length = k := by rw [List.length_take]; omega
  unfold takeOf
  rw [hl]
  by_cases h4 : k < 4
  · rw [if_pos h4]
  · rw [if_neg h4, num4_take (by omega), hh.2.2.2.1, if_pos (errN_zero.2 ⟨hh.1, hh.2.1⟩), if_pos (by omega)]
theorem pack_cut {s : List UInt8} {k : Nat} (h : okM s) (hk : k < 4 + s.length) : feedL ((packL s).take k) = ⟨[], (packL s).take k, none⟩ := by
  have := takeOf_pack h []
  rw [List.append_nil] at this
  exact feedL_short (takeOf_cut this hk)
theorem feedR_none {S c r : List UInt8} {l : List (List UInt8)} (h : feedL (S ++ c) = ⟨l, r, none⟩) : feedR ⟨S, 0⟩ c = (l, ⟨r, 0⟩) := by
  unfold feedR; simp only [h]; simp
theorem feedR_some {S c r : List UInt8} {l : List (List UInt8)} {n : Nat} (h : feedL (S ++ c) = ⟨l, r, some n⟩) : feedR ⟨S, 0⟩ c = (l, ⟨[], errN n⟩) := by
  unfold feedR; simp only [h]; simp
theorem many_le {l : List UInt8} {n : Nat} (h : l.length ≤ n) (hn : n ≤ 1099511627776) : (feedL l).ms.length ≤ 1099511627776 := by have := feedL_len l; omega
theorem size_le {n m : Nat} (h : n = m) (hm : m ≤ 1000000) : n ≤ 140737488355328 := by omega
theorem rep_bytes (k : Nat) : List.replicate k (Value.int .u8 0) = bytesV (List.replicate k 0) := by simp [bytesV]
theorem bytes_eta (s : ByteArray) : (⟨s.data.toList.toArray⟩ : ByteArray) = s := by
  apply ByteArray.ext; simp
theorem ext_take (s : ByteArray) (k : Nat) : (s.extract 0 k).data.toList = s.data.toList.take k := by
  simp
theorem ext_drop (s : ByteArray) (k : Nat) : (s.extract k s.size).data.toList = s.data.toList.drop k := by
  simp [List.take_of_length_le]

theorem ext_drop' {s : ByteArray} {k n : Nat} (h : s.size = n) : (s.extract k n).data.toList = s.data.toList.drop k := by subst h; exact ext_drop s k

set_option maxRecDepth 100000 in
set_option maxHeartbeats 2000000 in
theorem long_walk (n0 n1 : Nat) (b : Addr) (w : World) (hg : Gs b w) (hge : Ge w) (hn : n0 < 256) (hn1 : n1 < 65536) :
    Calls Tryd.prog 7 #[.int .u8 (n0 : Int), .int .u16 (n1 : Int)] w fun e w' => e = .returned (.bool true) ∧ Below w.heap.size w w' := by
  obtain ⟨q, hq⟩ : ∃ q, n0 % 10 = q := ⟨_, rfl⟩
  have hq10 : q < 10 := by omega
  have hmod : ((n0 : Int) % 10) = (q : Int) := by omega
  obtain ⟨N, hN⟩ : ∃ N, 65536 - q = N := ⟨_, rfl⟩
  have hN1 : 65526 ≤ N ∧ N ≤ 65536 := by omega
  have hsub : (65536 - (q : Int)) = (N : Int) := by omega
  obtain ⟨cs, hcs, hmk⟩ := make_zeros N (by omega)
  obtain ⟨ds, hds, hmd⟩ := make_zeros 65537 (by omega)
  have hmd' : ∀ W : World, (Instr.makeSlice 41 (.int .i64 65537) (.int .i64 65537)).run Tryd.prog W = .ok (.slice (some ⟨W.heap.size, 0, none⟩) 65537 65537) (W.alloc (.cells ds 5)) := hmd
  clear hmd
  obtain ⟨Z, hZ⟩ : ∃ Z : ByteArray, Z = ⟨(List.replicate N (0 : UInt8)).toArray⟩ := ⟨_, rfl⟩
  obtain ⟨Y, hY⟩ : ∃ Z : ByteArray, Z = ⟨(List.replicate 65537 (0 : UInt8)).toArray⟩ := ⟨_, rfl⟩
  have hZs : Z.size = N := by rw [hZ]; exact (List.size_toArray ..).trans List.length_replicate
  have hYs : Y.size = 65537 := by rw [hY]; exact (List.size_toArray ..).trans List.length_replicate
  have hcz : ∀ W : World, (convert 41 9 (.slice (some ⟨W.heap.size, 0, none⟩) N N)).run Tryd.prog (W.alloc (.cells cs 5)) = .ok (.string Z) (W.alloc (.cells cs 5)) := fun W => by
    have := blk_bytes (c := N) (l := List.replicate N 0) (by rw [hcs]; exact rep_bytes _) (Blk.new W cs 5)
    rw [List.length_replicate] at this
    rw [hZ]; exact this
  have hcy : ∀ W : World, (convert 41 9 (.slice (some ⟨W.heap.size, 0, none⟩) 65537 65537)).run Tryd.prog (W.alloc (.cells ds 5)) = .ok (.string Y) (W.alloc (.cells ds 5)) := fun W => by
    have := blk_bytes (c := 65537) (l := List.replicate 65537 0) (by rw [hds]; exact rep_bytes _) (Blk.new W ds 5)
    rw [List.length_replicate] at this
    rw [hY]; exact this
  have hokZ : okM Z.data.toList := by show 1 ≤ Z.size ∧ Z.size ≤ 65536; omega
  have hnoY : ¬ okM Y.data.toList := fun h => by have := (ok_bytes h).2; omega
  obtain ⟨P, hP⟩ : ∃ P : ByteArray, P = ⟨(packL Z.data.toList).toArray⟩ := ⟨_, rfl⟩
  have hPl : P.data.toList = packL Z.data.toList := by rw [hP]
  have hPs : P.size = N + 4 := by
    show P.data.toList.length = _
    rw [hPl, packL_len]; show 4 + Z.size = _; omega
  obtain ⟨k, hk⟩ : ∃ k, n1 % (N + 4) = k := ⟨_, rfl⟩
  have hkl : k < N + 4 := by rw [← hk]; exact Nat.mod_lt _ (by omega)
  have hkm : ((n1 : Int) % ((N : Int) + 4)) = (k : Int) := by rw [← hk, Int.natCast_emod]; rfl
  have HH := Lib.hid (And.intro hokZ (And.intro hnoY (And.intro hP (And.intro hPl (And.intro hYs hPs))))); clear hokZ hnoY hP hPl hZ hY hcs hds hq hN hk hYs hPs
  go_enter Tryd.func7, Tryd.ntmps7
  go_wp2_with fail
  refine (examples_any b w hg hge).mono ?_
  rintro e w1 ⟨rfl, hb1⟩
  go_wp2_with fail
  refine (pack_ok Z _ HH.out.1).mono ?_
  rw [← HH.out.2.2.1]
  rintro e w2 ⟨rfl, hb2⟩
  have hB2 : Below w.heap.size w w2 := (hb1.alloc hb1.size _).trans (hb2.mono (by have := hb1.size; simp; omega))
  clear hmk hmod hsub
  go_wp2_with fail
  refine (pack_no Y _ (by rw [HH.out.2.2.2.2.1]; unfold maxLen; omega) HH.out.2.1).mono ?_
  rintro e w' ⟨rfl, rfl⟩
  clear hmd'
  obtain ⟨w3, hw3⟩ : ∃ w3, w2.alloc (.cells ds 5) = w3 := ⟨_, rfl⟩
  rw [hw3]
  have hB3 : Below w.heap.size w w3 := by rw [← hw3]; exact hB2.alloc hB2.size _
  clear hw3 hb2 hB2 hcz hcy
  go_wp2_with fail
  refine (new_any w3).mono ?_
  rintro e w4 ⟨rfl, hw4⟩
  have hR4 := RdAt.new w3 w.heap.size hB3.size
  rw [← hw4] at hR4
  have hB4 : Below w.heap.size w w4 := by rw [hw4]; exact hB3.alloc hB3.size _
  clear hw4
  have hs4 := hB4.size
  have hPs : (P.size : Int) = (N : Int) + 4 := by have := HH.out.2.2.2.2.2; omega
  have hPn : P.size = N + 4 := HH.out.2.2.2.2.2
  go_wp2_with fail
  have hcut : feedL ((packL Z.data.toList).take k) = ⟨[], (packL Z.data.toList).take k, none⟩ := pack_cut HH.out.1 (by show k < 4 + Z.size; omega)
  have hall := feedL_pack HH.out.1 []
  rw [List.append_nil, feedL_nil] at hall
  have hPt : (P.extract 0 k).data.toList = (packL Z.data.toList).take k := by rw [ext_take, HH.out.2.2.2.1]
  have hPd : (P.extract k (N + 4)).data.toList = (packL Z.data.toList).drop k := by rw [ext_drop' hPn, HH.out.2.2.2.1]
  have hPk : ((packL Z.data.toList).take k).length = k := by rw [List.length_take, packL_len]; show min k (4 + Z.size) = k; omega
  have hlen1 : (P.extract 0 k).size = k := by show (P.extract 0 k).data.toList.length = k; rw [hPt, hPk]
  have hlen2 : (P.extract k (N + 4)).size ≤ N + 4 := by
    show (P.extract k (N + 4)).data.toList.length ≤ _
    rw [hPd, List.length_drop, packL_len]; show 4 + Z.size - k ≤ _; omega
  have f1 : feedR ⟨[], 0⟩ (P.extract 0 k).data.toList = ([], ⟨(packL Z.data.toList).take k, 0⟩) := by
    rw [hPt]; exact feedR_none (by rw [List.nil_append]; exact hcut)
  have m1 : (feedL ([] ++ (P.extract 0 k).data.toList)).ms.length ≤ 1099511627776 := many_le (n := 100000) (by rw [List.nil_append, hPt, hPk]; omega) (by omega)
  have e2 : (packL Z.data.toList).take k ++ (P.extract k (N + 4)).data.toList = packL Z.data.toList := by rw [hPd, List.take_append_drop]
  have f2 : feedR ⟨(packL Z.data.toList).take k, 0⟩ (P.extract k (N + 4)).data.toList = ([Z.data.toList], ⟨[], 0⟩) := feedR_none (by rw [e2]; exact hall)
  have m2 : (feedL ((packL Z.data.toList).take k ++ (P.extract k (N + 4)).data.toList)).ms.length ≤ 1099511627776 := many_le (n := 100000) (by rw [e2, packL_len]; show 4 + Z.size ≤ _; omega) (by omega)
  have HF := Lib.hid (And.intro f1 (And.intro m1 (And.intro f2 (And.intro m2 (And.intro hlen1 (And.intro hlen2 hPk)))))); clear f1 m1 f2 m2 hcut hall hPt hPd hPk hlen1 hlen2 e2
  refine (feed_to w.heap.size w3.heap.size _ [] 0 _ [] _ 0 b w4 hR4 (hg.low hB4 hg.2) (hge.low hB4 hge.2) hge.2 hg.2 hs4 (size_le (m := 0 + k) (by rw [HF.out.2.2.2.2.1]; rfl) (by omega)) HF.out.1 HF.out.2.1).mono ?_
  rintro e w5 ⟨a5, c5, v5, rfl, hR5, ho5, hbut5⟩
  have hB5 := hB4.trans (hR4.low hbut5 hs4)
  have hs5 := hB5.size
  go_wp2_with fail
  refine (left_any _ _ _ 0 w.heap.size w5 hR5).mono ?_
  rintro e w' ⟨rfl, rfl⟩
  rw [HF.out.2.2.2.2.2.2]
  go_wp2_with fail
  refine (feed_to w.heap.size w3.heap.size _ _ 0 (P.extract k (N + 4)) [Z.data.toList] [] 0 b w5 hR5 (hg.low hB5 hg.2) (hge.low hB5 hge.2) hge.2 hg.2 hs5 (by rw [HF.out.2.2.2.2.2.2]; have := HF.out.2.2.2.2.2.1; omega) HF.out.2.2.1 HF.out.2.2.2.1).mono ?_
  rintro e w6 ⟨a6, c6, v6, rfl, hR6, ho6, hbut6⟩
  have hB6 := hB5.trans (hR5.low hbut6 hs5)
  obtain ⟨g6, rfl, hc6⟩ := strAt_own ho6 0 _ rfl
  rw [bytes_eta] at hc6
  clear hR4 hR5 hbut5 hbut6 ho5 ho6
  go_wp2_with fail
  refine (left_any _ _ _ 0 w.heap.size w6 hR6).mono ?_
  rintro e w' ⟨rfl, rfl⟩
  go_wp2
  go_ret
  exact ⟨rfl, hB6⟩
end Go.Proofs.YtmgmjndghhgkcaaDoor
