/- made of kind 5, and what the rounds of made find (four of payload's texts in one, as a claim has at most 60 files). -/
import Derived.Test.YtngceccpebdgmaaGreatDoorPlMade
import Derived.RegionTactic
import Derived.Deep.RegionLaw
import Derived.Test.YtngceccpebdgmaaGreatDoorPlGet
namespace Go.Proofs.YtngceccpebdgmaaGreatDoor
open Go.RowKit Go.Shelf
theorem zeros20 (j : Nat) (hj : j < ([0, 0, 0, 0, 0, 0, 0, 0, 0, 0, 0, 0, 0, 0, 0, 0, 0, 0, 0, 0] : List UInt8).length) : (#[.int .u8 0, .int .u8 0, .int .u8 0, .int .u8 0, .int .u8 0, .int .u8 0, .int .u8 0, .int .u8 0, .int .u8 0, .int .u8 0, .int .u8 0, .int .u8 0, .int .u8 0, .int .u8 0, .int .u8 0, .int .u8 0, .int .u8 0, .int .u8 0, .int .u8 0, .int .u8 0] : Array Value)[j]? = some (.int .u8 ((([0, 0, 0, 0, 0, 0, 0, 0, 0, 0, 0, 0, 0, 0, 0, 0, 0, 0, 0, 0] : List UInt8)[j]'hj).toNat : Int)) := by
  match j, hj with
  | 0, _ => rfl
  | 1, _ => rfl
  | 2, _ => rfl
  | 3, _ => rfl
  | 4, _ => rfl
  | 5, _ => rfl
  | 6, _ => rfl
  | 7, _ => rfl
  | 8, _ => rfl
  | 9, _ => rfl
  | 10, _ => rfl
  | 11, _ => rfl
  | 12, _ => rfl
  | 13, _ => rfl
  | 14, _ => rfl
  | 15, _ => rfl
  | 16, _ => rfl
  | 17, _ => rfl
  | 18, _ => rfl
  | 19, _ => rfl
  | k + 20, h => exact absurd h (by simp)
theorem conv20 (w : World) : (convert 58 9 (.slice (some ⟨w.heap.size, 0, none⟩) 20 20)).run Tryz.prog ((w.alloc (.cells #[.int .u8 0, .int .u8 0, .int .u8 0, .int .u8 0, .int .u8 0, .int .u8 0, .int .u8 0, .int .u8 0, .int .u8 0, .int .u8 0, .int .u8 0, .int .u8 0, .int .u8 0, .int .u8 0, .int .u8 0, .int .u8 0, .int .u8 0, .int .u8 0, .int .u8 0, .int .u8 0] 5)).drew) = .ok (.string ⟨#[0, 0, 0, 0, 0, 0, 0, 0, 0, 0, 0, 0, 0, 0, 0, 0, 0, 0, 0, 0]⟩) ((w.alloc (.cells #[.int .u8 0, .int .u8 0, .int .u8 0, .int .u8 0, .int .u8 0, .int .u8 0, .int .u8 0, .int .u8 0, .int .u8 0, .int .u8 0, .int .u8 0, .int .u8 0, .int .u8 0, .int .u8 0, .int .u8 0, .int .u8 0, .int .u8 0, .int .u8 0, .int .u8 0, .int .u8 0] 5)).drew) := by
  refine run_convert_bytes_back (P := Tryz.prog) _ 58 9 5 ⟨w.heap.size, 0, none⟩ 20 [0, 0, 0, 0, 0, 0, 0, 0, 0, 0, 0, 0, 0, 0, 0, 0, 0, 0, 0, 0] Tryz.underlying58 Tryz.underlying5 Tryz.underlying9 (fun j hj => ?_)
  have hc : ((w.alloc (.cells #[.int .u8 0, .int .u8 0, .int .u8 0, .int .u8 0, .int .u8 0, .int .u8 0, .int .u8 0, .int .u8 0, .int .u8 0, .int .u8 0, .int .u8 0, .int .u8 0, .int .u8 0, .int .u8 0, .int .u8 0, .int .u8 0, .int .u8 0, .int .u8 0, .int .u8 0, .int .u8 0] 5)).drew).cell? ⟨w.heap.size, j, none⟩ = (#[.int .u8 0, .int .u8 0, .int .u8 0, .int .u8 0, .int .u8 0, .int .u8 0, .int .u8 0, .int .u8 0, .int .u8 0, .int .u8 0, .int .u8 0, .int .u8 0, .int .u8 0, .int .u8 0, .int .u8 0, .int .u8 0, .int .u8 0, .int .u8 0, .int .u8 0, .int .u8 0] : Array Value)[j]? := new_cell w _ _ j
  have e : (⟨w.heap.size, 0, none⟩ : Addr).add j = ⟨w.heap.size, j, none⟩ := by unfold Addr.add; split <;> simp_all
  rw [e, hc]
  exact zeros20 j hj
end Go.Proofs.YtngceccpebdgmaaGreatDoor
namespace Go.Proofs.YtngceccpebdgmaaGreatDoor
open Go.RowKit Go.Shelf
theorem cell_up {w : World} {b j : Nat} {v : Value} (h : w.cell? ⟨b, j, none⟩ = some v) (hb : b < w.heap.size) (o : Obj) : (w.alloc o).cell? ⟨b, j, none⟩ = some v := ((below_alloc w o).cell (p := ⟨b, j, none⟩) hb).trans h

set_option maxRecDepth 100000 in
set_option maxHeartbeats 4000000 in
theorem made_4 (s0 s2 s5 s7 : ByteArray) (n1 n4 nn mm : Nat) (a3 a6 : Option Addr) (l3 c3 l6 c6 : Nat) (kd : Int) (w : World) (hnn : nn < 256) (hmm : mm < 256) (_hn1 : n1 < 2 ^ 64) (_hn4 : n4 < 2 ^ 64) (_hs7 : s7.size ≤ 140737488355328) (hr : (IntKind.u64.wrap kd).tmod 5 = 4) :
    Calls Tryz.prog 19 #[.agg #[.string s0, .int .u64 (n1 : Int), .string s2, .slice a3 l3 c3, .int .u64 (n4 : Int), .string s5, .slice a6 l6 c6, .string s7, .int .i64 kd, .bool true, .int .u8 (nn : Int), .int .u8 (mm : Int)]] w (MadePost 5 w) := by
  obtain ⟨k0, k1⟩ := two_at w (.cells #[.string s0, .int .u64 (n1 : Int), .string s2, .slice a3 l3 c3, .int .u64 (n4 : Int), .string s5, .slice a6 l6 c6, .string s7, .int .i64 kd, .bool true, .int .u8 (nn : Int), .int .u8 (mm : Int)] 38) (.cells #[.string ⟨#[]⟩, .int .u64 0, .string ⟨#[]⟩, .slice none 0 0, .int .u64 0, .string ⟨#[]⟩, .slice none 0 0, .string ⟨#[]⟩] 36)
  have HK0 := Lib.hid k0
  have HK1 := Lib.hid k1
  have HUP := Lib.hid (below_up (below_f w (.cells #[.string s0, .int .u64 (n1 : Int), .string s2, .slice a3 l3 c3, .int .u64 (n4 : Int), .string s5, .slice a6 l6 c6, .string s7, .int .i64 kd, .bool true, .int .u8 (nn : Int), .int .u8 (mm : Int)] 38)) (.cells #[.string ⟨#[]⟩, .int .u64 0, .string ⟨#[]⟩, .slice none 0 0, .int .u64 0, .string ⟨#[]⟩, .slice none 0 0, .string ⟨#[]⟩] 36))
  have HNN := Lib.hid hnn
  clear k0 k1
  go_enter Tryz.func19, Tryz.ntmps19
  go_wp2_with fail
  refine (word_any nn _ HNN.out).mono ?_
  rintro e w2 ⟨rfl, hb2⟩
  have m0 := (hb2.block w.heap.size (by rw [World.size_alloc, World.size_alloc]; omega)).trans HK0.out
  have m1 := (hb2.block (w.heap.size + 1) (by rw [World.size_alloc, World.size_alloc]; omega)).trans HK1.out
  have hz2 : w.heap.size + 1 < w2.heap.size := by have := hb2.size; rw [World.size_alloc, World.size_alloc] at this; omega
  have HB2 := Lib.hid (HUP.out.trans (hb2.mono (by rw [World.size_alloc, World.size_alloc]; omega)))
  have g1 : w2.cell? ⟨w.heap.size, 1, none⟩ = some (.int .u64 (n1 : Int)) := (Lib.cell_of_heap m0 1).trans rfl
  have g4 : w2.cell? ⟨w.heap.size, 4, none⟩ = some (.int .u64 (n4 : Int)) := (Lib.cell_of_heap m0 4).trans rfl
  have g7 : w2.cell? ⟨w.heap.size, 7, none⟩ = some (.string s7) := (Lib.cell_of_heap m0 7).trans rfl
  have g11 : w2.cell? ⟨w.heap.size, 11, none⟩ = some (.int .u8 (mm : Int)) := (Lib.cell_of_heap m0 11).trans rfl
  have HM1 := Lib.hid m1
  have hlt0 : w.heap.size < w2.heap.size := by omega
  have hne0 : w.heap.size ≠ w2.heap.size := by omega
  obtain ⟨W0, hW0⟩ : ∃ W0, wordOf nn = W0 := ⟨_, rfl⟩
  have HW0 := Lib.hid (show (1 ≤ W0.size ∧ W0.size ≤ 3) ∧ IsW W0 from ⟨by rw [← hW0]; exact wordOf_size nn, _, hW0.symm⟩)
  rw [hW0]
  clear hb2 m0 m1 hW0
  have hq := HB2.out.size
  have pb := World.alloc_heap_new w2 (.cells #[.string W0, .int .u64 0, .string ⟨#[]⟩, .slice none 0 0, .int .u64 0, .string ⟨#[]⟩, .slice none 0 0, .string ⟨#[]⟩] 36)
  have rb := (Below.heap_alloc w2 (.cells #[.string W0, .int .u64 0, .string ⟨#[]⟩, .slice none 0 0, .int .u64 0, .string ⟨#[]⟩, .slice none 0 0, .string ⟨#[]⟩] 36) (w.heap.size + 1) (by omega)).trans HM1.out
  have hbx := below_up HB2.out (.cells #[.string W0, .int .u64 0, .string ⟨#[]⟩, .slice none 0 0, .int .u64 0, .string ⟨#[]⟩, .slice none 0 0, .string ⟨#[]⟩] 36)
  have hsx := World.size_alloc w2 (.cells #[.string W0, .int .u64 0, .string ⟨#[]⟩, .slice none 0 0, .int .u64 0, .string ⟨#[]⟩, .slice none 0 0, .string ⟨#[]⟩] 36)
  have j7 := cell_up g7 hlt0 (.cells #[.string W0, .int .u64 0, .string ⟨#[]⟩, .slice none 0 0, .int .u64 0, .string ⟨#[]⟩, .slice none 0 0, .string ⟨#[]⟩] 36)
  have j11 := cell_up g11 hlt0 (.cells #[.string W0, .int .u64 0, .string ⟨#[]⟩, .slice none 0 0, .int .u64 0, .string ⟨#[]⟩, .slice none 0 0, .string ⟨#[]⟩] 36)
  go_wp2_with fail
  obtain ⟨w3, hw3⟩ : ∃ w3, w2.alloc (.cells #[.string W0, .int .u64 0, .string ⟨#[]⟩, .slice none 0 0, .int .u64 0, .string ⟨#[]⟩, .slice none 0 0, .string ⟨#[]⟩] 36) = w3 := ⟨_, rfl⟩
  rw [hw3]
  rw [hw3] at pb rb hbx hsx j7 j11
  have HB2p := Lib.hid hbx
  have hlt3 : w.heap.size + 1 < w3.heap.size := by omega
  have hlt3' : w.heap.size < w3.heap.size := by omega
  have hne1 : w.heap.size + 1 ≠ w2.heap.size := by omega
  have hlt4 : w2.heap.size < w3.heap.size := by omega
  have t0 : w3.cell? ⟨w2.heap.size, 0, none⟩ = some (.string W0) := (Lib.cell_of_heap pb 0).trans rfl
  have tf0 := Lib.frozen_of_heap pb 0
  have t1 : w3.cell? ⟨w2.heap.size, 1, none⟩ = some (.int .u64 0) := (Lib.cell_of_heap pb 1).trans rfl
  have tf1 := Lib.frozen_of_heap pb 1
  have t2 : w3.cell? ⟨w2.heap.size, 2, none⟩ = some (.string ⟨#[]⟩) := (Lib.cell_of_heap pb 2).trans rfl
  have tf2 := Lib.frozen_of_heap pb 2
  have t3 : w3.cell? ⟨w2.heap.size, 3, none⟩ = some (.slice none 0 0) := (Lib.cell_of_heap pb 3).trans rfl
  have tf3 := Lib.frozen_of_heap pb 3
  have t4 : w3.cell? ⟨w2.heap.size, 4, none⟩ = some (.int .u64 0) := (Lib.cell_of_heap pb 4).trans rfl
  have tf4 := Lib.frozen_of_heap pb 4
  have t5 : w3.cell? ⟨w2.heap.size, 5, none⟩ = some (.string ⟨#[]⟩) := (Lib.cell_of_heap pb 5).trans rfl
  have tf5 := Lib.frozen_of_heap pb 5
  have t6 : w3.cell? ⟨w2.heap.size, 6, none⟩ = some (.slice none 0 0) := (Lib.cell_of_heap pb 6).trans rfl
  have tf6 := Lib.frozen_of_heap pb 6
  have t7 : w3.cell? ⟨w2.heap.size, 7, none⟩ = some (.string ⟨#[]⟩) := (Lib.cell_of_heap pb 7).trans rfl
  have tf7 := Lib.frozen_of_heap pb 7
  have RB := Lib.hid rb
  have PB := Lib.hid pb
  clear hw3 pb rb hbx hsx g1 g4 g7 g11
  have hm4 : (0 : Int) ≤ (mm : Int) % 4 := by omega
  have hm4' : (mm : Int) % 4 ≤ 3 := by omega
  have hmk : ∀ W, (Instr.makeSlice 58 (.int .i64 20) (.int .i64 20)).run Tryz.prog W = .ok (.slice (some ⟨W.heap.size, 0, none⟩) 20 20) (W.alloc (.cells #[.int .u8 0, .int .u8 0, .int .u8 0, .int .u8 0, .int .u8 0, .int .u8 0, .int .u8 0, .int .u8 0, .int .u8 0, .int .u8 0, .int .u8 0, .int .u8 0, .int .u8 0, .int .u8 0, .int .u8 0, .int .u8 0, .int .u8 0, .int .u8 0, .int .u8 0, .int .u8 0] 5)) := fun _ => by kernel_rfl
  have hcv := conv20 w3
  obtain ⟨T, hT⟩ : ∃ T : ByteArray, (⟨#[0, 0, 0, 0, 0, 0, 0, 0, 0, 0, 0, 0, 0, 0, 0, 0, 0, 0, 0, 0]⟩ : ByteArray) = T := ⟨_, rfl⟩
  have hTs : T.size = 20 := by rw [← hT]; rfl
  rw [hT] at hcv
  have HT := Lib.hid hTs
  have hTl : T.size ≤ 20 := by omega
  have hTg : 20 ≤ T.size := by omega
  clear hTs hT
  go_region
  obtain ⟨K, hK⟩ : ∃ K : ByteArray, (s7 ++ T).extract 0 (16 + mm % 4) = K := ⟨_, rfl⟩
  have HKs := Lib.hid (show 16 ≤ K.size ∧ K.size ≤ 19 by
    have e1 : K.size = min (16 + mm % 4) (s7 ++ T).size := by rw [← hK]; simp
    rw [ByteArray.size_append] at e1
    have := HT.out
    omega)
  rw [hK]
  clear hK
  have hX1 := HB2p.out.setCell (p := ⟨w2.heap.size, 7, none⟩) (by show w.heap.size ≤ w2.heap.size; omega) (.string K)
  have hs1 : (w3.setCell ⟨w2.heap.size, 7, none⟩ (.string K)).heap.size = w3.heap.size := by simp [World.setCell]
  have hX2 := (below_up hX1 (.cells #[.int .u8 0, .int .u8 0, .int .u8 0, .int .u8 0, .int .u8 0, .int .u8 0, .int .u8 0, .int .u8 0, .int .u8 0, .int .u8 0, .int .u8 0, .int .u8 0, .int .u8 0, .int .u8 0, .int .u8 0, .int .u8 0, .int .u8 0, .int .u8 0, .int .u8 0, .int .u8 0] 5)).drew
  have pb4 := (Below.heap_alloc (w3.setCell ⟨w2.heap.size, 7, none⟩ (.string K)) (.cells #[.int .u8 0, .int .u8 0, .int .u8 0, .int .u8 0, .int .u8 0, .int .u8 0, .int .u8 0, .int .u8 0, .int .u8 0, .int .u8 0, .int .u8 0, .int .u8 0, .int .u8 0, .int .u8 0, .int .u8 0, .int .u8 0, .int .u8 0, .int .u8 0, .int .u8 0, .int .u8 0] 5) w2.heap.size (by omega)).trans (setCell_heap (j := 7) (u := .string K) PB.out)
  have rb4 := (Below.heap_alloc (w3.setCell ⟨w2.heap.size, 7, none⟩ (.string K)) (.cells #[.int .u8 0, .int .u8 0, .int .u8 0, .int .u8 0, .int .u8 0, .int .u8 0, .int .u8 0, .int .u8 0, .int .u8 0, .int .u8 0, .int .u8 0, .int .u8 0, .int .u8 0, .int .u8 0, .int .u8 0, .int .u8 0, .int .u8 0, .int .u8 0, .int .u8 0, .int .u8 0] 5) (w.heap.size + 1) (by omega)).trans ((Below.heap_setCell w3 ⟨w2.heap.size, 7, none⟩ (.string K) (w.heap.size + 1) hne1).trans RB.out)
  have hs2 : ((w3.setCell ⟨w2.heap.size, 7, none⟩ (.string K)).alloc (.cells #[.int .u8 0, .int .u8 0, .int .u8 0, .int .u8 0, .int .u8 0, .int .u8 0, .int .u8 0, .int .u8 0, .int .u8 0, .int .u8 0, .int .u8 0, .int .u8 0, .int .u8 0, .int .u8 0, .int .u8 0, .int .u8 0, .int .u8 0, .int .u8 0, .int .u8 0, .int .u8 0] 5)).drew.heap.size = w3.heap.size + 1 := by rw [World.size_drew, World.size_alloc, hs1]
  have pb5 : ((w3.setCell ⟨w2.heap.size, 7, none⟩ (.string K)).alloc (.cells #[.int .u8 0, .int .u8 0, .int .u8 0, .int .u8 0, .int .u8 0, .int .u8 0, .int .u8 0, .int .u8 0, .int .u8 0, .int .u8 0, .int .u8 0, .int .u8 0, .int .u8 0, .int .u8 0, .int .u8 0, .int .u8 0, .int .u8 0, .int .u8 0, .int .u8 0, .int .u8 0] 5)).drew.heap[w2.heap.size]? = some (.cells #[.string W0, .int .u64 0, .string ⟨#[]⟩, .slice none 0 0, .int .u64 0, .string ⟨#[]⟩, .slice none 0 0, .string K] 36 (0, 0)) := pb4
  have rb5 : ((w3.setCell ⟨w2.heap.size, 7, none⟩ (.string K)).alloc (.cells #[.int .u8 0, .int .u8 0, .int .u8 0, .int .u8 0, .int .u8 0, .int .u8 0, .int .u8 0, .int .u8 0, .int .u8 0, .int .u8 0, .int .u8 0, .int .u8 0, .int .u8 0, .int .u8 0, .int .u8 0, .int .u8 0, .int .u8 0, .int .u8 0, .int .u8 0, .int .u8 0] 5)).drew.heap[w.heap.size + 1]? = some (.cells #[.string ⟨#[]⟩, .int .u64 0, .string ⟨#[]⟩, .slice none 0 0, .int .u64 0, .string ⟨#[]⟩, .slice none 0 0, .string ⟨#[]⟩] 36 (0, 0)) := rb4
  clear pb4 rb4 hX1 hs1 t0 t1 t2 t3 t4 t5 t6 t7 tf0 tf1 tf2 tf3 tf4 tf5 tf6 tf7 j7 j11 hcv hmk
  obtain ⟨w4, hw4⟩ : ∃ w4, ((w3.setCell ⟨w2.heap.size, 7, none⟩ (.string K)).alloc (.cells #[.int .u8 0, .int .u8 0, .int .u8 0, .int .u8 0, .int .u8 0, .int .u8 0, .int .u8 0, .int .u8 0, .int .u8 0, .int .u8 0, .int .u8 0, .int .u8 0, .int .u8 0, .int .u8 0, .int .u8 0, .int .u8 0, .int .u8 0, .int .u8 0, .int .u8 0, .int .u8 0] 5)).drew = w4 := ⟨_, rfl⟩
  rw [hw4]
  rw [hw4] at hX2 pb5 rb5 hs2
  have HB4 := Lib.hid hX2
  clear hw4 hX2
  have hl1 : w.heap.size + 1 < w4.heap.size := by omega
  have hl2 : w2.heap.size < w4.heap.size := by omega
  have t0 : w4.cell? ⟨w2.heap.size, 0, none⟩ = some (.string W0) := (Lib.cell_of_heap pb5 0).trans rfl
  have tf0 := Lib.frozen_of_heap pb5 0
  have t1 : w4.cell? ⟨w2.heap.size, 1, none⟩ = some (.int .u64 0) := (Lib.cell_of_heap pb5 1).trans rfl
  have tf1 := Lib.frozen_of_heap pb5 1
  have t2 : w4.cell? ⟨w2.heap.size, 2, none⟩ = some (.string ⟨#[]⟩) := (Lib.cell_of_heap pb5 2).trans rfl
  have tf2 := Lib.frozen_of_heap pb5 2
  have t3 : w4.cell? ⟨w2.heap.size, 3, none⟩ = some (.slice none 0 0) := (Lib.cell_of_heap pb5 3).trans rfl
  have tf3 := Lib.frozen_of_heap pb5 3
  have t4 : w4.cell? ⟨w2.heap.size, 4, none⟩ = some (.int .u64 0) := (Lib.cell_of_heap pb5 4).trans rfl
  have tf4 := Lib.frozen_of_heap pb5 4
  have t5 : w4.cell? ⟨w2.heap.size, 5, none⟩ = some (.string ⟨#[]⟩) := (Lib.cell_of_heap pb5 5).trans rfl
  have tf5 := Lib.frozen_of_heap pb5 5
  have t6 : w4.cell? ⟨w2.heap.size, 6, none⟩ = some (.slice none 0 0) := (Lib.cell_of_heap pb5 6).trans rfl
  have tf6 := Lib.frozen_of_heap pb5 6
  have t7 : w4.cell? ⟨w2.heap.size, 7, none⟩ = some (.string K) := (Lib.cell_of_heap pb5 7).trans rfl
  have tf7 := Lib.frozen_of_heap pb5 7
  have r0 : w4.cell? ⟨w.heap.size + 1, 0, none⟩ = some (.string ⟨#[]⟩) := (Lib.cell_of_heap rb5 0).trans rfl
  have rf0 := Lib.frozen_of_heap rb5 0
  have r1 : w4.cell? ⟨w.heap.size + 1, 1, none⟩ = some (.int .u64 0) := (Lib.cell_of_heap rb5 1).trans rfl
  have rf1 := Lib.frozen_of_heap rb5 1
  have r2 : w4.cell? ⟨w.heap.size + 1, 2, none⟩ = some (.string ⟨#[]⟩) := (Lib.cell_of_heap rb5 2).trans rfl
  have rf2 := Lib.frozen_of_heap rb5 2
  have r3 : w4.cell? ⟨w.heap.size + 1, 3, none⟩ = some (.slice none 0 0) := (Lib.cell_of_heap rb5 3).trans rfl
  have rf3 := Lib.frozen_of_heap rb5 3
  have r4 : w4.cell? ⟨w.heap.size + 1, 4, none⟩ = some (.int .u64 0) := (Lib.cell_of_heap rb5 4).trans rfl
  have rf4 := Lib.frozen_of_heap rb5 4
  have r5 : w4.cell? ⟨w.heap.size + 1, 5, none⟩ = some (.string ⟨#[]⟩) := (Lib.cell_of_heap rb5 5).trans rfl
  have rf5 := Lib.frozen_of_heap rb5 5
  have r6 : w4.cell? ⟨w.heap.size + 1, 6, none⟩ = some (.slice none 0 0) := (Lib.cell_of_heap rb5 6).trans rfl
  have rf6 := Lib.frozen_of_heap rb5 6
  have r7 : w4.cell? ⟨w.heap.size + 1, 7, none⟩ = some (.string ⟨#[]⟩) := (Lib.cell_of_heap rb5 7).trans rfl
  have rf7 := Lib.frozen_of_heap rb5 7
  clear pb5 rb5 hs2
  go_wp2_with fail
  go_region
  all_goals
    go_wp2
    refine bodyPost_ret (v := .tuple #[.int .i64 5, .agg #[.string W0, .int .u64 0, .string ⟨#[]⟩, .slice none 0 0, .int .u64 0, .string ⟨#[]⟩, .slice none 0 0, .string K]]) (by simp [results, Tryz.results19, go_sem, r0, r1, r2, r3, r4, r5, r6, r7]) rfl ?_
    exact ⟨⟨W0, 0, ⟨#[]⟩, [], 0, ⟨#[]⟩, [], K⟩, none, 0, none, 0, rfl, ⟨HW0.out.1, by first | (rw [if_neg (by decide)]; rfl) | rw [if_neg (by decide)], by first | (rw [if_neg (by decide)]; rfl) | rw [if_neg (by decide)], by first | (rw [if_neg (by decide)]; rfl) | rw [if_neg (by decide)], by intro r h; simp at h, by first | (rw [if_neg (by decide)]; rfl) | rw [if_neg (by decide)], by first | (rw [if_neg (by decide)]; rfl) | rw [if_neg (by decide)], by first | (rw [if_neg (by decide)]; rfl) | rw [if_neg (by decide)], by intro a h; simp at h, by rw [if_pos rfl]; exact HKs.out, by decide, HW0.out.2, fun h => absurd h (by decide), by intro i r h; simp at h, Or.inl rfl, by intro i a h; simp at h⟩, no_rules _ _, no_addrs _ _, (below_set8 HB4.out (by omega)).drew⟩
end Go.Proofs.YtngceccpebdgmaaGreatDoor
namespace Go.Proofs.YtngceccpebdgmaaGreatDoor
open Go.RowKit Go.Shelf
theorem step_word {ops : Array Oper} {o : Oper} {a : Act} {w : World} {K : Act → World → Prop} {Q : Exit → Act → World → Prop} {E : Prop} (hg : o.guard = none) (x : Nat) (ts : Array TypeId)
    (hop : o.op = .call { callee := .value (.func 25), args := #[.tmp x], argTypes := ts }) (v0 : Value) (hx : a.eval (.tmp x) = v0) (s : ByteArray)
    (hc : Calls Tryz.prog 25 #[v0] w fun e w' => e = .returned (.string s) ∧ Below w.heap.size w w') (h : ∀ w', Below w.heap.size w w' → K (a.put o.dst (.string s)) w') : if Region.wanted o (yielded ops a.tmps) = true then Oper.wp Tryz.prog o a w K Q else E := by
  have hw : Region.wanted o (yielded ops a.tmps) = true := by simp [Region.wanted, hg]
  rw [if_pos hw]
  have hent : ∀ (args : Array Value) (w : World), (callFunc 25 args).run Tryz.prog w = .ok (.enter 25 args) w := enters_of Tryz.func25 (by kernel_rfl) rfl
  obtain ⟨dst, op, type, pos, aft, guard⟩ := o
  simp only at hop
  subst hop
  go_simp
  have hx' : a.tmps[x]?.getD undef = v0 := by simpa [Act.eval] using hx
  rw [hx']
  refine hc.mono ?_
  rintro e w' ⟨rfl, hb⟩
  exact h w' hb
end Go.Proofs.YtngceccpebdgmaaGreatDoor
namespace Go.Proofs.YtngceccpebdgmaaGreatDoor
open Go.RowKit Go.Shelf
/-- What an append of the round finds: the payload's block, its two rows, and what has been kept. -/
structure Rd (base P : Nat) (w0 X : World) (cs : Array Value) (v3 v6 : Value) (n3 n6 : Nat) (r3 r6 : List Value) : Prop where
  blk : Blk X P cs 36
  own : X.ownsRow base 42 2 v3 n3 r3
  oth : X.ownsRow base 44 3 v6 n6 r6
  bb : BelowBut base P w0 X
  sz : base ≤ X.heap.size
theorem Rd.next {base P : Nat} {w0 X X' : World} {cs : Array Value} {v3 v6 : Value} {n3 n6 : Nat} {r3 r6 : List Value} (h : Rd base P w0 X cs v3 v6 n3 n6 r3 r6) (hb : Below X.heap.size X X') : Rd base P w0 X' cs v3 v6 n3 n6 r3 r6 :=
  ⟨Blk.below h.blk hb (Blk.lt h.blk), own_below h.own hb, own_below h.oth hb, h.bb.trans (BelowBut.of hb h.sz), Nat.le_trans h.sz hb.size⟩
theorem Rd.app3 {base P : Nat} {w0 X w7 : World} {cs : Array Value} {v3 v6 : Value} {n3 n6 : Nat} {r3 r6 : List Value} (h : Rd base P w0 X cs v3 v6 n3 n6 r3 r6) (hg : X.grownBy w7 v3.ownBlock) :
    Blk w7 P cs 36 ∧ w7.ownsRow base 44 3 v6 n6 r6 ∧ BelowBut base P w0 w7 :=
  ⟨Blk.kept h.blk hg (fun e => row_block h.own h.blk (by decide) e.symm), own_other h.oth hg (rows_apart h.own h.oth (by decide)), h.bb.trans (bb_grown hg (fun k e => (h.own.lt k e).1) h.sz)⟩
theorem Rd.app6 {base P : Nat} {w0 X w7 : World} {cs : Array Value} {v3 v6 : Value} {n3 n6 : Nat} {r3 r6 : List Value} (h : Rd base P w0 X cs v3 v6 n3 n6 r3 r6) (hg : X.grownBy w7 v6.ownBlock) :
    Blk w7 P cs 36 ∧ w7.ownsRow base 42 2 v3 n3 r3 ∧ BelowBut base P w0 w7 :=
  ⟨Blk.kept h.blk hg (fun e => row_block h.oth h.blk (by decide) e.symm), own_other h.own hg (rows_apart h.oth h.own (by decide)), h.bb.trans (bb_grown hg (fun k e => (h.oth.lt k e).1) h.sz)⟩
theorem drew_up {W w5 : World} (h : Below W.drew.heap.size W.drew w5) : Below W.heap.size W w5 := (Below.refl _ _).drew.trans h
theorem drew_up2 {W w5 : World} {o : Obj} (h : Below ((W.alloc o).drew).heap.size ((W.alloc o).drew) w5) : Below W.heap.size W w5 := ((below_f W o).drew).trans (h.mono (by rw [World.size_drew, World.size_alloc]; omega))
theorem drew_cell2 {W w5 : World} {cs : Array Value} {t : TypeId} (h : Below ((W.alloc (.cells cs t)).drew).heap.size ((W.alloc (.cells cs t)).drew) w5) (j : Nat) : w5.cell? ⟨W.heap.size, j, none⟩ = cs[j]? :=
  (h.cell (p := ⟨W.heap.size, j, none⟩) (by rw [World.size_drew, World.size_alloc]; exact Nat.lt_succ_self _)).trans (new_cell W cs t j)
theorem ownsRow_drew {w : World} {base size n : Nat} {e : TypeId} {v : Value} {xs : List Value} (h : w.ownsRow base e size v n xs) : w.drew.ownsRow base e size v n xs := h
end Go.Proofs.YtngceccpebdgmaaGreatDoor
