/- payload: made (a route): the walk. -/
import Derived.Test.YtngceccpebdgmaaGreatDoorCkMadeF
import Derived.Test.YtngceccpebdgmaaGreatDoorPlGet
import Derived.Deep.RegionLaw
import Derived.Deep.AppendLies
namespace Go.Proofs.YtngceccpebdgmaaGreatDoor
open Go.RowKit Go.Shelf
theorem conv_at (W : World) (B x : Nat) (X : Int) (hX : X = x) (hx : x < 256) (h : W.cell? ⟨B, 0, none⟩ = some (.int .u8 X)) :
    (convert 58 9 (.slice (some ⟨B, 0, none⟩) 1 1)).run Tryz.prog W = .ok (.string ⟨#[UInt8.ofNat x]⟩) W := by
  subst hX
  refine run_convert_bytes_back (P := Tryz.prog) W 58 9 5 ⟨B, 0, none⟩ 1 [UInt8.ofNat x] Tryz.underlying58 Tryz.underlying5 Tryz.underlying9 (fun j hj => ?_)
  have : j = 0 := by simp at hj; omega
  subst this
  have hn : (UInt8.ofNat x).toNat = x := by simp; omega
  have e : (⟨B, 0, none⟩ : Addr).add 0 = ⟨B, 0, none⟩ := by unfold Addr.add; split <;> simp_all
  rw [e, h]
  simp [hn]
def RulesOk (rs : List Rl) : Prop := (∀ r ∈ rs, r.pre.size = 2 ∧ 1 ≤ r.clu.size ∧ r.clu.size ≤ 3) ∧ ∀ i r, rs[i]? = some r → r.pre = (⟨#[47]⟩ : ByteArray) ++ ⟨#[UInt8.ofNat (97 + i)]⟩ ∧ IsW r.clu

set_option maxRecDepth 100000 in
set_option maxHeartbeats 4000000 in
theorem made_1 (s0 s2 s5 s7 : ByteArray) (n1 n4 nn mm : Nat) (a3 a6 : Option Addr) (l3 c3 l6 c6 : Nat) (kd : Int) (w : World) (hnn : nn < 256) (hmm : mm < 256) (_hn1 : n1 < 2 ^ 64) (_hn4 : n4 < 2 ^ 64) (_hs7 : s7.size ≤ 140737488355328) (hr : (IntKind.u64.wrap kd).tmod 5 = 1) :
    Calls Tryz.prog 19 #[.agg #[.string s0, .int .u64 (n1 : Int), .string s2, .slice a3 l3 c3, .int .u64 (n4 : Int), .string s5, .slice a6 l6 c6, .string s7, .int .i64 kd, .bool true, .int .u8 (nn : Int), .int .u8 (mm : Int)]] w (MadePost 2 w) := by
  obtain ⟨k0, k1⟩ := two_at w (.cells #[.string s0, .int .u64 (n1 : Int), .string s2, .slice a3 l3 c3, .int .u64 (n4 : Int), .string s5, .slice a6 l6 c6, .string s7, .int .i64 kd, .bool true, .int .u8 (nn : Int), .int .u8 (mm : Int)] 38) (.cells #[.string ⟨#[]⟩, .int .u64 0, .string ⟨#[]⟩, .slice none 0 0, .int .u64 0, .string ⟨#[]⟩, .slice none 0 0, .string ⟨#[]⟩] 36)
  have HK0 := Lib.hid k0
  have HK1 := Lib.hid k1
  have HUP := Lib.hid (below_up (below_f w (.cells #[.string s0, .int .u64 (n1 : Int), .string s2, .slice a3 l3 c3, .int .u64 (n4 : Int), .string s5, .slice a6 l6 c6, .string s7, .int .i64 kd, .bool true, .int .u8 (nn : Int), .int .u8 (mm : Int)] 38)) (.cells #[.string ⟨#[]⟩, .int .u64 0, .string ⟨#[]⟩, .slice none 0 0, .int .u64 0, .string ⟨#[]⟩, .slice none 0 0, .string ⟨#[]⟩] 36))
  have HNN := Lib.hid hnn
  clear k0 k1
  go_enter Tryz.func19, Tryz.ntmps19
  go_wp2_with fail
  refine (word_any nn _ HNN.out).mono ?_
  rintro e w2 ⟨rfl, hb2⟩
  have m0 := (hb2.block w.heap.size (by rw [World.size_alloc, World.size_alloc]; omega)).trans HK0.out
  have m1 := (hb2.block (w.heap.size + 1) (by rw [World.size_alloc, World.size_alloc]; omega)).trans HK1.out
  have hz2 : w.heap.size + 1 < w2.heap.size := by have := hb2.size; rw [World.size_alloc, World.size_alloc] at this; omega
  have HB2 := Lib.hid (HUP.out.trans (hb2.mono (by rw [World.size_alloc, World.size_alloc]; omega)))
  have g1 : w2.cell? ⟨w.heap.size, 1, none⟩ = some (.int .u64 (n1 : Int)) := (Lib.cell_of_heap m0 1).trans rfl
  have g4 : w2.cell? ⟨w.heap.size, 4, none⟩ = some (.int .u64 (n4 : Int)) := (Lib.cell_of_heap m0 4).trans rfl
  have g7 : w2.cell? ⟨w.heap.size, 7, none⟩ = some (.string s7) := (Lib.cell_of_heap m0 7).trans rfl
  have g11 : w2.cell? ⟨w.heap.size, 11, none⟩ = some (.int .u8 (mm : Int)) := (Lib.cell_of_heap m0 11).trans rfl
  have HM1 := Lib.hid m1
  have hlt0 : w.heap.size < w2.heap.size := by omega
  have hne0 : w.heap.size ≠ w2.heap.size := by omega
  obtain ⟨W0, hW0⟩ : ∃ W0, wordOf nn = W0 := ⟨_, rfl⟩
  have HW0 := Lib.hid (show (1 ≤ W0.size ∧ W0.size ≤ 3) ∧ IsW W0 from ⟨by rw [← hW0]; exact wordOf_size nn, _, hW0.symm⟩)
  rw [hW0]
  clear hb2 m0 m1 hW0
  have hq := HB2.out.size
  have pb := World.alloc_heap_new w2 (.cells #[.string W0, .int .u64 0, .string ⟨#[]⟩, .slice none 0 0, .int .u64 0, .string ⟨#[]⟩, .slice none 0 0, .string ⟨#[]⟩] 36)
  have rb := (Below.heap_alloc w2 (.cells #[.string W0, .int .u64 0, .string ⟨#[]⟩, .slice none 0 0, .int .u64 0, .string ⟨#[]⟩, .slice none 0 0, .string ⟨#[]⟩] 36) (w.heap.size + 1) (by omega)).trans HM1.out
  have hbx := below_up HB2.out (.cells #[.string W0, .int .u64 0, .string ⟨#[]⟩, .slice none 0 0, .int .u64 0, .string ⟨#[]⟩, .slice none 0 0, .string ⟨#[]⟩] 36)
  have hsx := World.size_alloc w2 (.cells #[.string W0, .int .u64 0, .string ⟨#[]⟩, .slice none 0 0, .int .u64 0, .string ⟨#[]⟩, .slice none 0 0, .string ⟨#[]⟩] 36)
  have j11 := cell_up g11 hlt0 (.cells #[.string W0, .int .u64 0, .string ⟨#[]⟩, .slice none 0 0, .int .u64 0, .string ⟨#[]⟩, .slice none 0 0, .string ⟨#[]⟩] 36)
  have j4 := cell_up g4 hlt0 (.cells #[.string W0, .int .u64 0, .string ⟨#[]⟩, .slice none 0 0, .int .u64 0, .string ⟨#[]⟩, .slice none 0 0, .string ⟨#[]⟩] 36)
  go_wp2_with fail
  obtain ⟨w3, hw3⟩ : ∃ w3, w2.alloc (.cells #[.string W0, .int .u64 0, .string ⟨#[]⟩, .slice none 0 0, .int .u64 0, .string ⟨#[]⟩, .slice none 0 0, .string ⟨#[]⟩] 36) = w3 := ⟨_, rfl⟩
  rw [hw3]
  rw [hw3] at pb rb hbx hsx j11 j4
  have HB3 := Lib.hid hbx
  have hlt3 : w.heap.size + 1 < w3.heap.size := by omega
  have hne1 : w.heap.size + 1 ≠ w2.heap.size := by omega
  have RB := Lib.hid rb
  have J11 := Lib.hid j11
  have J4 := Lib.hid j4
  have PB := Lib.hid (show RPay (w2.heap.size + 1) w2.heap.size w3 ⟨W0, 0, ⟨#[]⟩, [], 0, ⟨#[]⟩, [], ⟨#[]⟩⟩ from ⟨none, 0, none, 0, pb, World.ownsRow_nil _ _ _ _, World.ownsRow_nil _ _ _ _, Nat.zero_le _, Nat.zero_le _⟩)
  have hsx' : w3.heap.size = w2.heap.size + 1 := hsx
  clear hw3 pb rb hbx hsx g1 g4 g7 g11 j11 j4
  have hm3 : (0 : Int) ≤ (mm : Int) % 3 := by omega
  have hm3' : (mm : Int) % 3 ≤ 2 := by omega
  go_loopw [6] (fun i wr => ∃ (j : Nat) (rs : List Rl), j ≤ mm % 3 + 1 ∧ i = .int .i64 j ∧ rs.length = j ∧ RulesOk rs ∧ RPay (w2.heap.size + 1) w2.heap.size wr ⟨W0, 0, ⟨#[]⟩, rs, 0, ⟨#[]⟩, [], ⟨#[]⟩⟩ ∧ BelowBut (w2.heap.size + 1) w2.heap.size w3 wr) (fun i _ => mm % 3 + 1 - (intOf i).toNat)
  case atStart => exact ⟨0, [], Nat.zero_le _, rfl, rfl, ⟨fun r h => by simp at h, fun i r h => by simp at h⟩, PB.out, BelowBut.refl _ _ _⟩
  case round =>
    obtain ⟨j, rs, hj, rfl, hl, hok, hpay, hbb⟩ := hrel
    have hszb := hbb.size
    have j11 := (World.cell?_of_block (a := ⟨w.heap.size, 11, none⟩) (hbb.block w.heap.size (by omega) (by omega))).trans J11.out
    have hL := Lib.hid hl
    have hlen := Lib.hid (show (⟨W0, 0, ⟨#[]⟩, rs, 0, ⟨#[]⟩, [], ⟨#[]⟩⟩ : Pl).rules.length = j from hl)
    have HOK := Lib.hid hok
    have HPY := Lib.hid hpay
    have HBB := Lib.hid hbb
    obtain ⟨b3, d3, b6, d6, hblk, hr3, hr6, hl3, hl6⟩ := hpay
    have p3 := (hblk.cell 3).trans rfl
    have pf3 := Lib.frozen_of_heap hblk 3
    have HBLK := Lib.hid hblk
    have HR3 := Lib.hid hr3
    have HR6 := Lib.hid hr6
    simp only [hl] at p3
    clear hl hok hbb hblk hr3 hr6 hl6 hl3
    by_cases hlt : j < mm % 3 + 1
    · have hb0 : (j : Int) ≤ (mm : Int) % 3 := by omega
      have hb2 : (j : Int) ≤ 2 := by omega
      have hb3 : (0 : Int) ≤ (j : Int) := by omega
      have hb5 : (mm : Int) / 3 ≤ 85 := by omega
      have hb6 : (0 : Int) ≤ (mm : Int) / 3 := by omega
      obtain ⟨i0, hi, hz0, hz1, hz2⟩ := info_parts Tryz.infoRl
      obtain ⟨Tj, hTj⟩ : ∃ Tj : ByteArray, (⟨#[UInt8.ofNat (97 + j)]⟩ : ByteArray) = Tj := ⟨_, rfl⟩
      have HTj := Lib.hid (show Tj.size = 1 by rw [← hTj]; rfl)
      have hTl : Tj.size ≤ 1 := by have := HTj.out; omega
      have c1 := conv_at ((wr.alloc (.cells #[.int .u8 (97 + (j : Int))] 5)).drew) wr.heap.size (97 + j) (97 + (j : Int)) (by simp) (by omega) ((new_cell wr _ _ 0).trans rfl)
      rw [hTj] at c1
      have HTE := Lib.hid hTj
      clear hTj
      have hlP : w2.heap.size < wr.heap.size := by omega
      have hlM : w.heap.size < wr.heap.size := by omega
      obtain ⟨W1, hW1⟩ : ∃ W1, wordOf (mm / 3 + j) = W1 := ⟨_, rfl⟩
      have HW1 := Lib.hid (show (1 ≤ W1.size ∧ W1.size ≤ 3) ∧ IsW W1 from ⟨by rw [← hW1]; exact wordOf_size _, _, hW1.symm⟩)
      have HWD := Lib.hid hW1
      have hr3' := HR3.out
      simp only [hlen.out] at hr3'
      have HRD0 := Lib.hid (Rd.mk HBLK.out hr3' HR6.out HBB.out (by omega))
      have HWX := Lib.hid (fun W => word_at ((mm : Int) / 3 + (j : Int)) (mm / 3 + j) W (by omega) (by omega))
      rw [hW1] at HWX
      clear hW1 hr3'
      have e1 : IntKind.i64.wrap (97 + (j : Int)) = 97 + (j : Int) := IntWalk.i64_in _ (by omega)
      have e2 : IntKind.u8.wrap (97 + (j : Int)) = 97 + (j : Int) := IntWalk.u8_in _ (by omega)
      have e3 : IntKind.u8.wrap (j : Int) = (j : Int) := IntWalk.u8_in _ (by omega)
      have e4 : (mm : Int).tdiv 3 = (mm : Int) / 3 := Int.tdiv_eq_ediv_of_nonneg (by omega)
      have e5 : IntKind.u8.wrap ((mm : Int) / 3 + (j : Int)) = (mm : Int) / 3 + (j : Int) := IntWalk.u8_in _ (by omega)
      have e6 : IntKind.u8.wrap ((mm : Int) / 3) = (mm : Int) / 3 := IntWalk.u8_in _ (by omega)
      have e7 : (9223372036854775807 < 1 + Tj.size) = False := eq_false (by omega)
      go_wp2_with fail
      go_region_law (first
        | ((refine step_word (by rfl) 61 _ (by rfl) (.int .u8 ((mm : Int) / 3 + (j : Int))) (by rfl) W1 (HWX.out _) ?_; intro w5 hb5; first | (have HC5 := Lib.hid (drew_up2 hb5); have c2 := conv_at w5 wr.heap.size (97 + j) (97 + (j : Int)) (by simp) (by omega) ((drew_cell2 hb5 0).trans rfl); rw [HTE.out] at c2; have q5 := (HC5.out.cell (p := ⟨w2.heap.size, 3, none⟩) hlP).trans p3; have HRD := Lib.hid (HRD0.out.next HC5.out); have hl5 : w2.heap.size < w5.heap.size := Nat.lt_of_lt_of_le hlP HC5.out.size; clear hb5) | (have HC5 := Lib.hid (drew_up hb5); have c3 := conv_at (w5.alloc (.cells #[.int .u8 (97 + (j : Int))] 5)) w5.heap.size (97 + j) (97 + (j : Int)) (by simp) (by omega) ((new_cell w5 _ _ 0).trans rfl); rw [HTE.out] at c3; have q5 := (HC5.out.cell (p := ⟨w2.heap.size, 3, none⟩) hlP).trans p3; have HRD := Lib.hid (HRD0.out.next HC5.out); have hl5 : w2.heap.size < w5.heap.size := Nat.lt_of_lt_of_le hlP HC5.out.size; clear hb5)))
        | ((refine step_append_lies _ (by rfl) _ _ 33 (by rfl) (w2.heap.size + 1) 42 i0 _ 2 32 Tryz.underlying33 hi hz0 hz1 hz2 rfl (by omega) _ j (rlCells rs) (by rfl) (HRD.out.next (below_f w5 (.cells #[.string (⟨#[47]⟩ ++ Tj), .string W1] 42))).own ⟨w5.heap.size, 0, none⟩ 1 1 [.string (⟨#[47]⟩ ++ Tj), .string W1] (by rfl) (by rfl) (World.news_of_block (cs := #[.string (⟨#[47]⟩ ++ Tj), .string W1]) (t := 42) (fr := (0, 0)) (heap_alloc_new w5 _)) (by simp [Value.oneCell']) (by omega) (by unfold maxLen; omega) (by omega) (HRD.out.next (below_f w5 (.cells #[.string (⟨#[47]⟩ ++ Tj), .string W1] 42))).sz _ rfl ?_; intro gg cc w7 hown7 hgrow hat hltg; have H7 := Lib.hid hown7; have HA7 := Lib.hid ((HRD.out.next (below_f w5 (.cells #[.string (⟨#[47]⟩ ++ Tj), .string W1] 42))).app3 hgrow); have hcB := (HA7.out.1.cell 3).trans rfl; have hfB := Lib.frozen_of_heap HA7.out.1 3; clear hown7 hgrow hat))
        | ((refine step_append_lies _ (by rfl) _ _ 33 (by rfl) (w2.heap.size + 1) 42 i0 _ 2 32 Tryz.underlying33 hi hz0 hz1 hz2 rfl (by omega) _ j (rlCells rs) (by rfl) ((HRD.out.next (below_f w5 (.cells #[.int .u8 (97 + (j : Int))] 5))).next (below_f (w5.alloc (.cells #[.int .u8 (97 + (j : Int))] 5)) (.cells #[.string (⟨#[47]⟩ ++ Tj), .string W1] 42))).own ⟨w5.heap.size + 1, 0, none⟩ 1 1 [.string (⟨#[47]⟩ ++ Tj), .string W1] (by rfl) (by rfl) (World.news_of_block (cs := #[.string (⟨#[47]⟩ ++ Tj), .string W1]) (t := 42) (fr := (0, 0)) (two_at w5 (.cells #[.int .u8 (97 + (j : Int))] 5) (.cells #[.string (⟨#[47]⟩ ++ Tj), .string W1] 42)).2) (by simp [Value.oneCell']) (by omega) (by unfold maxLen; omega) (by omega) ((HRD.out.next (below_f w5 (.cells #[.int .u8 (97 + (j : Int))] 5))).next (below_f (w5.alloc (.cells #[.int .u8 (97 + (j : Int))] 5)) (.cells #[.string (⟨#[47]⟩ ++ Tj), .string W1] 42))).sz _ rfl ?_; intro gg cc w7 hown7 hgrow hat hltg; have H7 := Lib.hid hown7; have HA7 := Lib.hid (((HRD.out.next (below_f w5 (.cells #[.int .u8 (97 + (j : Int))] 5))).next (below_f (w5.alloc (.cells #[.int .u8 (97 + (j : Int))] 5)) (.cells #[.string (⟨#[47]⟩ ++ Tj), .string W1] 42))).app3 hgrow); have hcB := (HA7.out.1.cell 3).trans rfl; have hfB := Lib.frozen_of_heap HA7.out.1 3; clear hown7 hgrow hat)))
      all_goals
        go_wp2_with fail
        go_roundw
        case rel =>
          refine ⟨j + 1, rs ++ [⟨⟨#[47]⟩ ++ Tj, W1⟩], by omega, by go_num, by simp [hL.out], ?_, ⟨some ⟨gg, 0, none⟩, cc, b6, d6, ?_, ?_, ?_, ?_, Nat.zero_le _⟩, ?_⟩
          · refine ⟨fun r hr => ?_, fun i r hi => ?_⟩
            · rcases List.mem_append.1 hr with hr | hr
              · exact HOK.out.1 r hr
              · have := List.mem_singleton.1 hr
                subst this
                exact ⟨by show ((⟨#[47]⟩ : ByteArray) ++ Tj).size = 2; rw [ByteArray.size_append, HTj.out]; rfl, HW1.out.1.1, HW1.out.1.2⟩
            · by_cases hij : i < rs.length
              · rw [List.getElem?_append_left hij] at hi
                exact HOK.out.2 i r hi
              · rw [List.getElem?_append_right (by omega)] at hi
                have hi0 : i - rs.length = 0 := by
                  rcases Nat.eq_zero_or_pos (i - rs.length) with h0 | h0
                  · exact h0
                  · rw [List.getElem?_eq_none (by simp; omega)] at hi; cases hi
                rw [hi0] at hi
                have := Option.some.inj hi
                subst this
                have hij2 : i = j := by have := hL.out; omega
                subst hij2
                exact ⟨by show (⟨#[47]⟩ : ByteArray) ++ Tj = _; rw [← HTE.out], HW1.out.2⟩
          · have := blk_set HA7.out.1 3 (.slice (some ⟨gg, 0, none⟩) (j + 1) cc)
            simp only [List.length_append, List.length_singleton, hL.out]
            simpa using this
          · have := ownsRow_setCell_below H7.out (a := ⟨w2.heap.size, 3, none⟩) (by show w2.heap.size < w2.heap.size + 1; omega) (.slice (some ⟨gg, 0, none⟩) (j + 1) cc)
            simp only [List.length_append, List.length_singleton, hL.out]
            rw [rlCells_snoc]
            exact this
          · exact ownsRow_setCell_below HA7.out.2.1 (a := ⟨w2.heap.size, 3, none⟩) (by show w2.heap.size < w2.heap.size + 1; omega) _
          · simp only [List.length_append, List.length_singleton, hL.out]; omega
          · exact HA7.out.2.2.trans (bb_set _ _ _ _ _)
        case measure => simp [intOf]; omega
    · have hb0 : (mm : Int) % 3 < (j : Int) := by omega
      have hj2 : mm % 3 + 1 = j := by omega
      have rb := (HBB.out.block (w.heap.size + 1) (by omega) hne1).trans RB.out
      have pb := HBLK.out
      unfold Blk at pb
      simp only [hL.out] at pb
      have t0 : wr.cell? ⟨w2.heap.size, 0, none⟩ = some (.string W0) := (Lib.cell_of_heap pb 0).trans rfl
      have tf0 := Lib.frozen_of_heap pb 0
      have t1 : wr.cell? ⟨w2.heap.size, 1, none⟩ = some (.int .u64 0) := (Lib.cell_of_heap pb 1).trans rfl
      have tf1 := Lib.frozen_of_heap pb 1
      have t2 : wr.cell? ⟨w2.heap.size, 2, none⟩ = some (.string ⟨#[]⟩) := (Lib.cell_of_heap pb 2).trans rfl
      have tf2 := Lib.frozen_of_heap pb 2
      have t3 : wr.cell? ⟨w2.heap.size, 3, none⟩ = some (.slice b3 j d3) := (Lib.cell_of_heap pb 3).trans rfl
      have tf3 := Lib.frozen_of_heap pb 3
      have t4 : wr.cell? ⟨w2.heap.size, 4, none⟩ = some (.int .u64 0) := (Lib.cell_of_heap pb 4).trans rfl
      have tf4 := Lib.frozen_of_heap pb 4
      have t5 : wr.cell? ⟨w2.heap.size, 5, none⟩ = some (.string ⟨#[]⟩) := (Lib.cell_of_heap pb 5).trans rfl
      have tf5 := Lib.frozen_of_heap pb 5
      have t6 : wr.cell? ⟨w2.heap.size, 6, none⟩ = some (.slice b6 0 d6) := (Lib.cell_of_heap pb 6).trans rfl
      have tf6 := Lib.frozen_of_heap pb 6
      have t7 : wr.cell? ⟨w2.heap.size, 7, none⟩ = some (.string ⟨#[]⟩) := (Lib.cell_of_heap pb 7).trans rfl
      have tf7 := Lib.frozen_of_heap pb 7
      have r0 : wr.cell? ⟨w.heap.size + 1, 0, none⟩ = some (.string ⟨#[]⟩) := (Lib.cell_of_heap rb 0).trans rfl
      have rf0 := Lib.frozen_of_heap rb 0
      have r1 : wr.cell? ⟨w.heap.size + 1, 1, none⟩ = some (.int .u64 0) := (Lib.cell_of_heap rb 1).trans rfl
      have rf1 := Lib.frozen_of_heap rb 1
      have r2 : wr.cell? ⟨w.heap.size + 1, 2, none⟩ = some (.string ⟨#[]⟩) := (Lib.cell_of_heap rb 2).trans rfl
      have rf2 := Lib.frozen_of_heap rb 2
      have r3 : wr.cell? ⟨w.heap.size + 1, 3, none⟩ = some (.slice none 0 0) := (Lib.cell_of_heap rb 3).trans rfl
      have rf3 := Lib.frozen_of_heap rb 3
      have r4 : wr.cell? ⟨w.heap.size + 1, 4, none⟩ = some (.int .u64 0) := (Lib.cell_of_heap rb 4).trans rfl
      have rf4 := Lib.frozen_of_heap rb 4
      have r5 : wr.cell? ⟨w.heap.size + 1, 5, none⟩ = some (.string ⟨#[]⟩) := (Lib.cell_of_heap rb 5).trans rfl
      have rf5 := Lib.frozen_of_heap rb 5
      have r6 : wr.cell? ⟨w.heap.size + 1, 6, none⟩ = some (.slice none 0 0) := (Lib.cell_of_heap rb 6).trans rfl
      have rf6 := Lib.frozen_of_heap rb 6
      have r7 : wr.cell? ⟨w.heap.size + 1, 7, none⟩ = some (.string ⟨#[]⟩) := (Lib.cell_of_heap rb 7).trans rfl
      have rf7 := Lib.frozen_of_heap rb 7
      have HBe := Lib.hid (HB3.out.trans (HBB.out.below (by omega) (by omega)))
      have hlw : w.heap.size + 1 < wr.heap.size := by omega
      have hlw2 : w2.heap.size < wr.heap.size := by omega
      clear pb rb
      go_wp2_with fail
      go_region
      all_goals
        go_wp2
        refine bodyPost_ret (v := .tuple #[.int .i64 2, .agg #[.string W0, .int .u64 0, .string ⟨#[]⟩, .slice b3 j d3, .int .u64 0, .string ⟨#[]⟩, .slice b6 0 d6, .string ⟨#[]⟩]]) (by simp [results, Tryz.results19, go_sem, r0, r1, r2, r3, r4, r5, r6, r7]) rfl ?_
        exact ⟨⟨W0, 0, ⟨#[]⟩, rs, 0, ⟨#[]⟩, [], ⟨#[]⟩⟩, b3, d3, b6, d6, by have e := hL.out; subst e; rfl, ⟨HW0.out.1, by first | (rw [if_neg (by decide)]; rfl) | rw [if_neg (by decide)], by first | (rw [if_neg (by decide)]; rfl) | rw [if_neg (by decide)], by rw [if_pos rfl]; show 1 ≤ rs.length ∧ rs.length ≤ 3; rw [hL.out]; omega, HOK.out.1, by first | (rw [if_neg (by decide)]; rfl) | rw [if_neg (by decide)], by first | (rw [if_neg (by decide)]; rfl) | rw [if_neg (by decide)], by first | (rw [if_neg (by decide)]; rfl) | rw [if_neg (by decide)], by intro a h; simp at h, by first | (rw [if_neg (by decide)]; rfl) | rw [if_neg (by decide)], by decide, HW0.out.2, fun h => absurd h (by decide), HOK.out.2, Or.inl rfl, by intro i a h; simp at h⟩, rulesAt_row (ownsRow_drew (set8_own HR3.out (by omega))), addrsAt_row (ownsRow_drew (set8_own HR6.out (by omega))), (below_set8 HBe.out (by omega)).drew⟩
end Go.Proofs.YtngceccpebdgmaaGreatDoor
