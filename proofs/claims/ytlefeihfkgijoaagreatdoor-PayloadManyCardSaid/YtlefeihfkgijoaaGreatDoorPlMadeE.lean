/- payload: made (the fifth kind): the walk. -/
import Derived.Test.YtlefeihfkgijoaaGreatDoorPlMade
import Derived.Test.YtlefeihfkgijoaaGreatDoorPlConv
import Derived.RegionTactic
namespace Go.Proofs.YtlefeihfkgijoaaGreatDoor
open Go.RowKit Go.Shelf
theorem cell_up {w : World} {b j : Nat} {v : Value} (h : w.cell? ⟨b, j, none⟩ = some v) (hb : b < w.heap.size) (o : Obj) : (w.alloc o).cell? ⟨b, j, none⟩ = some v := ((below_alloc w o).cell (p := ⟨b, j, none⟩) hb).trans h

set_option maxRecDepth 100000 in
set_option maxHeartbeats 4000000 in
theorem made_4 (s0 s2 s5 s7 : ByteArray) (n1 n4 nn mm : Nat) (a3 a6 : Option Addr) (l3 c3 l6 c6 : Nat) (kd : Int) (w : World) (hnn : nn < 256) (hmm : mm < 256) (_hn1 : n1 < 2 ^ 64) (_hn4 : n4 < 2 ^ 64) (_hs7 : s7.size ≤ 140737488355328) (hr : (IntKind.u64.wrap kd).tmod 5 = 4) :
    Calls Tryz.prog 11 #[.agg #[.string s0, .int .u64 (n1 : Int), .string s2, .slice a3 l3 c3, .int .u64 (n4 : Int), .string s5, .slice a6 l6 c6, .string s7, .int .i64 kd, .bool true, .int .u8 (nn : Int), .int .u8 (mm : Int)]] w (MadePost 5 w) := by
  obtain ⟨k0, k1⟩ := two_at w (.cells #[.string s0, .int .u64 (n1 : Int), .string s2, .slice a3 l3 c3, .int .u64 (n4 : Int), .string s5, .slice a6 l6 c6, .string s7, .int .i64 kd, .bool true, .int .u8 (nn : Int), .int .u8 (mm : Int)] 28) (.cells #[.string ⟨#[]⟩, .int .u64 0, .string ⟨#[]⟩, .slice none 0 0, .int .u64 0, .string ⟨#[]⟩, .slice none 0 0, .string ⟨#[]⟩] 26)
  have HK0 := Lib.hid k0
  have HK1 := Lib.hid k1
  have HUP := Lib.hid (below_up (below_f w (.cells #[.string s0, .int .u64 (n1 : Int), .string s2, .slice a3 l3 c3, .int .u64 (n4 : Int), .string s5, .slice a6 l6 c6, .string s7, .int .i64 kd, .bool true, .int .u8 (nn : Int), .int .u8 (mm : Int)] 28)) (.cells #[.string ⟨#[]⟩, .int .u64 0, .string ⟨#[]⟩, .slice none 0 0, .int .u64 0, .string ⟨#[]⟩, .slice none 0 0, .string ⟨#[]⟩] 26))
  have HNN := Lib.hid hnn
  clear k0 k1
  go_enter Tryz.func11, Tryz.ntmps11
  go_wp2_with fail
  refine (word_any nn _ HNN.out).mono ?_
  rintro e w2 ⟨rfl, hb2⟩
  have m0 := (hb2.block w.heap.size (by rw [World.size_alloc, World.size_alloc]; omega)).trans HK0.out
  have m1 := (hb2.block (w.heap.size + 1) (by rw [World.size_alloc, World.size_alloc]; omega)).trans HK1.out
  have hz2 : w.heap.size + 1 < w2.heap.size := by have := hb2.size; rw [World.size_alloc, World.size_alloc] at this; omega
  have HB2 := Lib.hid (HUP.out.trans (hb2.mono (by rw [World.size_alloc, World.size_alloc]; omega)))
  have g1 : w2.cell? ⟨w.heap.size, 1, none⟩ = some (.int .u64 (n1 : Int)) := (Lib.cell_of_heap m0 1).trans rfl
  have g4 : w2.cell? ⟨w.heap.size, 4, none⟩ = some (.int .u64 (n4 : Int)) := (Lib.cell_of_heap m0 4).trans rfl
  have g7 : w2.cell? ⟨w.heap.size, 7, none⟩ = some (.string s7) := (Lib.cell_of_heap m0 7).trans rfl
  have g11 : w2.cell? ⟨w.heap.size, 11, none⟩ = some (.int .u8 (mm : Int)) := (Lib.cell_of_heap m0 11).trans rfl
  have HM1 := Lib.hid m1
  have hlt0 : w.heap.size < w2.heap.size := by omega
  have hne0 : w.heap.size ≠ w2.heap.size := by omega
  obtain ⟨W0, hW0⟩ : ∃ W0, wordOf nn = W0 := ⟨_, rfl⟩
  have HW0 := Lib.hid (show 1 ≤ W0.size ∧ W0.size ≤ 3 by rw [← hW0]; exact wordOf_size nn)
  rw [hW0]
  clear hb2 m0 m1 hW0
  have hq := HB2.out.size
  have pb := World.alloc_heap_new w2 (.cells #[.string W0, .int .u64 0, .string ⟨#[]⟩, .slice none 0 0, .int .u64 0, .string ⟨#[]⟩, .slice none 0 0, .string ⟨#[]⟩] 26)
  have rb := (Below.heap_alloc w2 (.cells #[.string W0, .int .u64 0, .string ⟨#[]⟩, .slice none 0 0, .int .u64 0, .string ⟨#[]⟩, .slice none 0 0, .string ⟨#[]⟩] 26) (w.heap.size + 1) (by omega)).trans HM1.out
  have hbx := below_up HB2.out (.cells #[.string W0, .int .u64 0, .string ⟨#[]⟩, .slice none 0 0, .int .u64 0, .string ⟨#[]⟩, .slice none 0 0, .string ⟨#[]⟩] 26)
  have hsx := World.size_alloc w2 (.cells #[.string W0, .int .u64 0, .string ⟨#[]⟩, .slice none 0 0, .int .u64 0, .string ⟨#[]⟩, .slice none 0 0, .string ⟨#[]⟩] 26)
  have j7 := cell_up g7 hlt0 (.cells #[.string W0, .int .u64 0, .string ⟨#[]⟩, .slice none 0 0, .int .u64 0, .string ⟨#[]⟩, .slice none 0 0, .string ⟨#[]⟩] 26)
  have j11 := cell_up g11 hlt0 (.cells #[.string W0, .int .u64 0, .string ⟨#[]⟩, .slice none 0 0, .int .u64 0, .string ⟨#[]⟩, .slice none 0 0, .string ⟨#[]⟩] 26)
  go_wp2_with fail
  obtain ⟨w3, hw3⟩ : ∃ w3, w2.alloc (.cells #[.string W0, .int .u64 0, .string ⟨#[]⟩, .slice none 0 0, .int .u64 0, .string ⟨#[]⟩, .slice none 0 0, .string ⟨#[]⟩] 26) = w3 := ⟨_, rfl⟩
  rw [hw3]
  rw [hw3] at pb rb hbx hsx j7 j11
  have HB2p := Lib.hid hbx
  have hlt3 : w.heap.size + 1 < w3.heap.size := by omega
  have hlt3' : w.heap.size < w3.heap.size := by omega
  have hne1 : w.heap.size + 1 ≠ w2.heap.size := by omega
  have hlt4 : w2.heap.size < w3.heap.size := by omega
  have t0 : w3.cell? ⟨w2.heap.size, 0, none⟩ = some (.string W0) := (Lib.cell_of_heap pb 0).trans rfl
  have tf0 := Lib.frozen_of_heap pb 0
  have t1 : w3.cell? ⟨w2.heap.size, 1, none⟩ = some (.int .u64 0) := (Lib.cell_of_heap pb 1).trans rfl
  have tf1 := Lib.frozen_of_heap pb 1
  have t2 : w3.cell? ⟨w2.heap.size, 2, none⟩ = some (.string ⟨#[]⟩) := (Lib.cell_of_heap pb 2).trans rfl
  have tf2 := Lib.frozen_of_heap pb 2
  have t3 : w3.cell? ⟨w2.heap.size, 3, none⟩ = some (.slice none 0 0) := (Lib.cell_of_heap pb 3).trans rfl
  have tf3 := Lib.frozen_of_heap pb 3
  have t4 : w3.cell? ⟨w2.heap.size, 4, none⟩ = some (.int .u64 0) := (Lib.cell_of_heap pb 4).trans rfl
  have tf4 := Lib.frozen_of_heap pb 4
  have t5 : w3.cell? ⟨w2.heap.size, 5, none⟩ = some (.string ⟨#[]⟩) := (Lib.cell_of_heap pb 5).trans rfl
  have tf5 := Lib.frozen_of_heap pb 5
  have t6 : w3.cell? ⟨w2.heap.size, 6, none⟩ = some (.slice none 0 0) := (Lib.cell_of_heap pb 6).trans rfl
  have tf6 := Lib.frozen_of_heap pb 6
  have t7 : w3.cell? ⟨w2.heap.size, 7, none⟩ = some (.string ⟨#[]⟩) := (Lib.cell_of_heap pb 7).trans rfl
  have tf7 := Lib.frozen_of_heap pb 7
  have RB := Lib.hid rb
  have PB := Lib.hid pb
  clear hw3 pb rb hbx hsx g1 g4 g7 g11
  have hm4 : (0 : Int) ≤ (mm : Int) % 4 := by omega
  have hm4' : (mm : Int) % 4 ≤ 3 := by omega
  have hmk : ∀ W, (Instr.makeSlice 69 (.int .i64 20) (.int .i64 20)).run Tryz.prog W = .ok (.slice (some ⟨W.heap.size, 0, none⟩) 20 20) (W.alloc (.cells #[.int .u8 0, .int .u8 0, .int .u8 0, .int .u8 0, .int .u8 0, .int .u8 0, .int .u8 0, .int .u8 0, .int .u8 0, .int .u8 0, .int .u8 0, .int .u8 0, .int .u8 0, .int .u8 0, .int .u8 0, .int .u8 0, .int .u8 0, .int .u8 0, .int .u8 0, .int .u8 0] 5)) := fun _ => by kernel_rfl
  have hcv := conv20 w3
  obtain ⟨T, hT⟩ : ∃ T : ByteArray, (⟨#[0, 0, 0, 0, 0, 0, 0, 0, 0, 0, 0, 0, 0, 0, 0, 0, 0, 0, 0, 0]⟩ : ByteArray) = T := ⟨_, rfl⟩
  have hTs : T.size = 20 := by rw [← hT]; rfl
  rw [hT] at hcv
  have HT := Lib.hid hTs
  have hTl : T.size ≤ 20 := by omega
  have hTg : 20 ≤ T.size := by omega
  clear hTs hT
  go_region
  obtain ⟨K, hK⟩ : ∃ K : ByteArray, (s7 ++ T).extract 0 (16 + mm % 4) = K := ⟨_, rfl⟩
  have HKs := Lib.hid (show 16 ≤ K.size ∧ K.size ≤ 19 by
    have e1 : K.size = min (16 + mm % 4) (s7 ++ T).size := by rw [← hK]; simp
    rw [ByteArray.size_append] at e1
    have := HT.out
    omega)
  rw [hK]
  clear hK
  have hX1 := HB2p.out.setCell (p := ⟨w2.heap.size, 7, none⟩) (by show w.heap.size ≤ w2.heap.size; omega) (.string K)
  have hs1 : (w3.setCell ⟨w2.heap.size, 7, none⟩ (.string K)).heap.size = w3.heap.size := by simp [World.setCell]
  have hX2 := (below_up hX1 (.cells #[.int .u8 0, .int .u8 0, .int .u8 0, .int .u8 0, .int .u8 0, .int .u8 0, .int .u8 0, .int .u8 0, .int .u8 0, .int .u8 0, .int .u8 0, .int .u8 0, .int .u8 0, .int .u8 0, .int .u8 0, .int .u8 0, .int .u8 0, .int .u8 0, .int .u8 0, .int .u8 0] 5)).drew
  have pb4 := (Below.heap_alloc (w3.setCell ⟨w2.heap.size, 7, none⟩ (.string K)) (.cells #[.int .u8 0, .int .u8 0, .int .u8 0, .int .u8 0, .int .u8 0, .int .u8 0, .int .u8 0, .int .u8 0, .int .u8 0, .int .u8 0, .int .u8 0, .int .u8 0, .int .u8 0, .int .u8 0, .int .u8 0, .int .u8 0, .int .u8 0, .int .u8 0, .int .u8 0, .int .u8 0] 5) w2.heap.size (by omega)).trans (setCell_heap (j := 7) (u := .string K) PB.out)
  have rb4 := (Below.heap_alloc (w3.setCell ⟨w2.heap.size, 7, none⟩ (.string K)) (.cells #[.int .u8 0, .int .u8 0, .int .u8 0, .int .u8 0, .int .u8 0, .int .u8 0, .int .u8 0, .int .u8 0, .int .u8 0, .int .u8 0, .int .u8 0, .int .u8 0, .int .u8 0, .int .u8 0, .int .u8 0, .int .u8 0, .int .u8 0, .int .u8 0, .int .u8 0, .int .u8 0] 5) (w.heap.size + 1) (by omega)).trans ((Below.heap_setCell w3 ⟨w2.heap.size, 7, none⟩ (.string K) (w.heap.size + 1) hne1).trans RB.out)
  have hs2 : ((w3.setCell ⟨w2.heap.size, 7, none⟩ (.string K)).alloc (.cells #[.int .u8 0, .int .u8 0, .int .u8 0, .int .u8 0, .int .u8 0, .int .u8 0, .int .u8 0, .int .u8 0, .int .u8 0, .int .u8 0, .int .u8 0, .int .u8 0, .int .u8 0, .int .u8 0, .int .u8 0, .int .u8 0, .int .u8 0, .int .u8 0, .int .u8 0, .int .u8 0] 5)).drew.heap.size = w3.heap.size + 1 := by rw [World.size_drew, World.size_alloc, hs1]
  have pb5 : ((w3.setCell ⟨w2.heap.size, 7, none⟩ (.string K)).alloc (.cells #[.int .u8 0, .int .u8 0, .int .u8 0, .int .u8 0, .int .u8 0, .int .u8 0, .int .u8 0, .int .u8 0, .int .u8 0, .int .u8 0, .int .u8 0, .int .u8 0, .int .u8 0, .int .u8 0, .int .u8 0, .int .u8 0, .int .u8 0, .int .u8 0, .int .u8 0, .int .u8 0] 5)).drew.heap[w2.heap.size]? = some (.cells #[.string W0, .int .u64 0, .string ⟨#[]⟩, .slice none 0 0, .int .u64 0, .string ⟨#[]⟩, .slice none 0 0, .string K] 26 (0, 0)) := pb4
  have rb5 : ((w3.setCell ⟨w2.heap.size, 7, none⟩ (.string K)).alloc (.cells #[.int .u8 0, .int .u8 0, .int .u8 0, .int .u8 0, .int .u8 0, .int .u8 0, .int .u8 0, .int .u8 0, .int .u8 0, .int .u8 0, .int .u8 0, .int .u8 0, .int .u8 0, .int .u8 0, .int .u8 0, .int .u8 0, .int .u8 0, .int .u8 0, .int .u8 0, .int .u8 0] 5)).drew.heap[w.heap.size + 1]? = some (.cells #[.string ⟨#[]⟩, .int .u64 0, .string ⟨#[]⟩, .slice none 0 0, .int .u64 0, .string ⟨#[]⟩, .slice none 0 0, .string ⟨#[]⟩] 26 (0, 0)) := rb4
  clear pb4 rb4 hX1 hs1 t0 t1 t2 t3 t4 t5 t6 t7 tf0 tf1 tf2 tf3 tf4 tf5 tf6 tf7 j7 j11 hcv hmk
  obtain ⟨w4, hw4⟩ : ∃ w4, ((w3.setCell ⟨w2.heap.size, 7, none⟩ (.string K)).alloc (.cells #[.int .u8 0, .int .u8 0, .int .u8 0, .int .u8 0, .int .u8 0, .int .u8 0, .int .u8 0, .int .u8 0, .int .u8 0, .int .u8 0, .int .u8 0, .int .u8 0, .int .u8 0, .int .u8 0, .int .u8 0, .int .u8 0, .int .u8 0, .int .u8 0, .int .u8 0, .int .u8 0] 5)).drew = w4 := ⟨_, rfl⟩
  rw [hw4]
  rw [hw4] at hX2 pb5 rb5 hs2
  have HB4 := Lib.hid hX2
  clear hw4 hX2
  have hl1 : w.heap.size + 1 < w4.heap.size := by omega
  have hl2 : w2.heap.size < w4.heap.size := by omega
  have t0 : w4.cell? ⟨w2.heap.size, 0, none⟩ = some (.string W0) := (Lib.cell_of_heap pb5 0).trans rfl
  have tf0 := Lib.frozen_of_heap pb5 0
  have t1 : w4.cell? ⟨w2.heap.size, 1, none⟩ = some (.int .u64 0) := (Lib.cell_of_heap pb5 1).trans rfl
  have tf1 := Lib.frozen_of_heap pb5 1
  have t2 : w4.cell? ⟨w2.heap.size, 2, none⟩ = some (.string ⟨#[]⟩) := (Lib.cell_of_heap pb5 2).trans rfl
  have tf2 := Lib.frozen_of_heap pb5 2
  have t3 : w4.cell? ⟨w2.heap.size, 3, none⟩ = some (.slice none 0 0) := (Lib.cell_of_heap pb5 3).trans rfl
  have tf3 := Lib.frozen_of_heap pb5 3
  have t4 : w4.cell? ⟨w2.heap.size, 4, none⟩ = some (.int .u64 0) := (Lib.cell_of_heap pb5 4).trans rfl
  have tf4 := Lib.frozen_of_heap pb5 4
  have t5 : w4.cell? ⟨w2.heap.size, 5, none⟩ = some (.string ⟨#[]⟩) := (Lib.cell_of_heap pb5 5).trans rfl
  have tf5 := Lib.frozen_of_heap pb5 5
  have t6 : w4.cell? ⟨w2.heap.size, 6, none⟩ = some (.slice none 0 0) := (Lib.cell_of_heap pb5 6).trans rfl
  have tf6 := Lib.frozen_of_heap pb5 6
  have t7 : w4.cell? ⟨w2.heap.size, 7, none⟩ = some (.string K) := (Lib.cell_of_heap pb5 7).trans rfl
  have tf7 := Lib.frozen_of_heap pb5 7
  have r0 : w4.cell? ⟨w.heap.size + 1, 0, none⟩ = some (.string ⟨#[]⟩) := (Lib.cell_of_heap rb5 0).trans rfl
  have rf0 := Lib.frozen_of_heap rb5 0
  have r1 : w4.cell? ⟨w.heap.size + 1, 1, none⟩ = some (.int .u64 0) := (Lib.cell_of_heap rb5 1).trans rfl
  have rf1 := Lib.frozen_of_heap rb5 1
  have r2 : w4.cell? ⟨w.heap.size + 1, 2, none⟩ = some (.string ⟨#[]⟩) := (Lib.cell_of_heap rb5 2).trans rfl
  have rf2 := Lib.frozen_of_heap rb5 2
  have r3 : w4.cell? ⟨w.heap.size + 1, 3, none⟩ = some (.slice none 0 0) := (Lib.cell_of_heap rb5 3).trans rfl
  have rf3 := Lib.frozen_of_heap rb5 3
  have r4 : w4.cell? ⟨w.heap.size + 1, 4, none⟩ = some (.int .u64 0) := (Lib.cell_of_heap rb5 4).trans rfl
  have rf4 := Lib.frozen_of_heap rb5 4
  have r5 : w4.cell? ⟨w.heap.size + 1, 5, none⟩ = some (.string ⟨#[]⟩) := (Lib.cell_of_heap rb5 5).trans rfl
  have rf5 := Lib.frozen_of_heap rb5 5
  have r6 : w4.cell? ⟨w.heap.size + 1, 6, none⟩ = some (.slice none 0 0) := (Lib.cell_of_heap rb5 6).trans rfl
  have rf6 := Lib.frozen_of_heap rb5 6
  have r7 : w4.cell? ⟨w.heap.size + 1, 7, none⟩ = some (.string ⟨#[]⟩) := (Lib.cell_of_heap rb5 7).trans rfl
  have rf7 := Lib.frozen_of_heap rb5 7
  clear pb5 rb5 hs2
  go_wp2_with fail
  go_region
  all_goals
    go_wp2
    refine bodyPost_ret (v := .tuple #[.int .i64 5, .agg #[.string W0, .int .u64 0, .string ⟨#[]⟩, .slice none 0 0, .int .u64 0, .string ⟨#[]⟩, .slice none 0 0, .string K]]) (by simp [results, Tryz.results11, go_sem, r0, r1, r2, r3, r4, r5, r6, r7]) rfl ?_
    exact ⟨⟨W0, 0, ⟨#[]⟩, [], 0, ⟨#[]⟩, [], K⟩, none, 0, none, 0, rfl, ⟨HW0.out, by first | (rw [if_neg (by decide)]; rfl) | rw [if_neg (by decide)], by first | (rw [if_neg (by decide)]; rfl) | rw [if_neg (by decide)], by first | (rw [if_neg (by decide)]; rfl) | rw [if_neg (by decide)], by intro r h; simp at h, by first | (rw [if_neg (by decide)]; rfl) | rw [if_neg (by decide)], by first | (rw [if_neg (by decide)]; rfl) | rw [if_neg (by decide)], by first | (rw [if_neg (by decide)]; rfl) | rw [if_neg (by decide)], by intro a h; simp at h, by rw [if_pos rfl]; exact HKs.out, by decide⟩, no_rules _ _, no_addrs _ _, (below_set8 HB4.out (by omega)).drew⟩
end Go.Proofs.YtlefeihfkgijoaaGreatDoor
