/- ledger: LedgerErases walked (tools/lderases_gen.py). -/
import Derived.Test.YtjcfbpbmieepiaaDoorLdErP
namespace Go.Proofs.YtjcfbpbmieepiaaDoor
open Go.RowKit

set_option maxRecDepth 100000 in
set_option maxHeartbeats 8000000 in
theorem erases_walk (n0 n1 n2 : Nat) (g b : Addr) (W : World) (hg : Gv g W) (hn : Gn b W) (h0 : n0 < 256) (h1 : n1 < 256) (h2 : n2 < 256) :
    Calls Tryd.prog 5 #[.int .u8 (n0 : Int), .int .u8 (n1 : Int), .int .u8 (n2 : Int)] W fun e w' => e = .returned (.bool true) ∧ Below W.heap.size W w' := by
  obtain ⟨κ, hκ⟩ : ∃ κ, n0 % 10 = κ := ⟨_, rfl⟩
  have hκ9 : κ < 10 := by omega
  obtain ⟨n, hnn⟩ : ∃ n, 1 + κ = n := ⟨_, rfl⟩
  have a1 : (n0 : Int).tmod 10 = (κ : Int) := by rw [Int.tmod_eq_emod_of_nonneg (by omega)]; omega
  have a2 : (n0 : Int) % 10 = (κ : Int) := by omega
  have a3 : IntKind.u8.wrap (κ : Int) = (κ : Int) := by rw [show IntKind.u8.wrap (κ : Int) = (κ : Int) % 256 from rfl]; omega
  have a4 : IntKind.i64.wrap (κ : Int) = (κ : Int) := by rw [IntKind.wrap_i64]; omega
  have a5 : (1 : Int) + (κ : Int) = (n : Int) := by omega
  have a6 : IntKind.i64.wrap (1 + (κ : Int)) = (n : Int) := by rw [IntKind.wrap_i64]; omega
  obtain ⟨μ, hμ⟩ : ∃ μ, n1 % (n + 1) = μ := ⟨_, rfl⟩
  have hμn : μ ≤ n := by have := Nat.mod_lt n1 (show n + 1 > 0 by omega); omega
  have c1 : (n1 : Int).tmod ((n : Int) + 1) = (μ : Int) := by rw [Int.tmod_eq_emod_of_nonneg (by omega), ← hμ]; rfl
  have c2 : (n1 : Int) % ((n : Int) + 1) = (μ : Int) := by rw [← hμ]; rfl
  have c3 : IntKind.i64.wrap (μ : Int) = (μ : Int) := by rw [IntKind.wrap_i64]; omega
  have c4 : IntKind.u64.wrap (μ : Int) = (μ : Int) := by rw [show IntKind.u64.wrap (μ : Int) = (μ : Int) % 18446744073709551616 from rfl]; omega
  have c5 : IntKind.i64.wrap (n1 : Int) = (n1 : Int) := by rw [IntKind.wrap_i64]; omega
  have c6 : IntKind.i64.wrap ((n : Int) + 1) = (n : Int) + 1 := by rw [IntKind.wrap_i64]; omega
  have c7 : ¬ ((n : Int) + 1 = 0) := by omega
  obtain ⟨σ, hσ⟩ : ∃ σ, n2 % 20 = σ := ⟨_, rfl⟩
  have hσ20 : σ < 20 := by omega
  have d1 : (n2 : Int).tmod 20 = (σ : Int) := by rw [Int.tmod_eq_emod_of_nonneg (by omega)]; omega
  have d2 : (n2 : Int) % 20 = (σ : Int) := by omega
  have d3 : IntKind.u8.wrap (σ : Int) = (σ : Int) := by rw [show IntKind.u8.wrap (σ : Int) = (σ : Int) % 256 from rfl]; omega
  have d4 : IntKind.i64.wrap (σ : Int) = (σ : Int) := by rw [IntKind.wrap_i64]; omega
  have d5 : IntKind.u64.wrap (σ : Int) = (σ : Int) := by rw [show IntKind.u64.wrap (σ : Int) = (σ : Int) % 18446744073709551616 from rfl]; omega
  have hn10 : n ≤ 10 := by omega
  have hn1 : 1 ≤ n := by omega
  have HARI := Lib.hid (And.intro hκ (And.intro hnn (And.intro hμ hσ)))
  clear hκ hnn hμ hσ h0 h1 h2
  have HG := Lib.hid (And.intro hg hn)
  have HEX := Lib.hid (ld_examples g b W hg hn)
  clear hg hn
  go_enter Tryd.func5, Tryd.ntmps5
  go_wp2_with fail
  refine HEX.out.mono ?_
  rintro e w ⟨rfl, hb⟩
  have HK := Lib.hid hb
  have HG := Lib.hid (And.intro (HG.out.1.below hb) (HG.out.2.later hb))
  clear hb HEX
  go_wp2_with fail
  refine (new_is w).mono ?_
  rintro e w1 ⟨l, rfl, h1, hb1⟩
  have HLW := Lib.hid (show 1 < w.heap.size ∧ 0 < w.heap.size from ⟨HG.out.1.2, HG.out.2.2⟩)
  have HLE := Lib.hid HK.out.size
  have HK := Lib.hid (HK.out.trans (hb1.mono HLE.out))
  have HG := Lib.hid (And.intro (HG.out.1.below hb1) (HG.out.2.later hb1))
  have HI := Lib.hid h1
  clear h1 hb1
  obtain ⟨w2, hw2, hb2, q2⟩ := ld_new w1 #[.int .i64 2, .string ⟨#[107]⟩] 31
  have HK := Lib.hid (HK.out.trans (hb2.mono HK.out.size))
  have HG := Lib.hid (And.intro (HG.out.1.below hb2) (HG.out.2.later hb2))
  have HI := Lib.hid (HI.out.later hb2)
  have HW := Lib.hid hw2
  have HQ := Lib.hid q2
  clear hw2 hb2 q2
  go_wp2_with (rw [HW.out])
  obtain ⟨KB, hKB⟩ : ∃ KB, w1.heap.size = KB := ⟨_, rfl⟩
  rw [hKB] at HQ ⊢
  clear HW hKB
  go_loopw [11] (fun vi wr => ∃ i : Nat, vi = .int .i64 ((i : Int) + 1) ∧ i ≤ n ∧ LdIs w.heap.size l (runM 2 i 0) wr ∧ (Gv g wr ∧ Gn b wr) ∧ Blk wr KB #[.int .i64 2, .string ⟨#[107]⟩] 31 ∧ Below W.heap.size W wr) (fun vi _ => n + 1 - (intOf vi).toNat)
  case atStart => exact ⟨0, rfl, Nat.zero_le _, HI.out, HG.out, HQ.out, HK.out⟩
  case round =>
    clear HI HG HQ HK
    obtain ⟨i, rfl, hi, hi1, hi2, hi3, hi4⟩ := hrel
    have HI := Lib.hid hi1
    have HG := Lib.hid hi2
    have HQ := Lib.hid hi3
    have HK := Lib.hid hi4
    clear hi1 hi2 hi3 hi4
    have z0 : wr.cell? ⟨KB, 0, none⟩ = some (.int .i64 2) := HQ.out.cell 0
    have z1 : wr.cell? ⟨KB, 1, none⟩ = some (.string ⟨#[107]⟩) := HQ.out.cell 1
    by_cases hlt : i < n
    · have b1 : (i : Int) + 1 ≤ (n : Int) := by omega
      have b2 : IntKind.u64.wrap ((i : Int) + 1) = (i : Int) + 1 := by rw [show IntKind.u64.wrap ((i : Int) + 1) = ((i : Int) + 1) % 18446744073709551616 from rfl]; omega
      have b3 : IntKind.i64.wrap ((i : Int) + 1 + 1) = (i : Int) + 1 + 1 := by rw [IntKind.wrap_i64]; omega
      have HS : Calls Tryd.prog 15 #[.pointer (some ⟨l, 0, none⟩), .agg #[.int .i64 2, .string ⟨#[107]⟩], .int .u64 ((i : Int) + 1)] wr (fun e w' => e = .returned (.int .i64 0) ∧ LdIs w.heap.size l (runM 2 (i + 1) 0) w' ∧ Kept w.heap.size wr w') := by
        have hs := begin_is w.heap.size l 2 exK (i + 1) _ wr HI.out (by omega)
        rw [(run_next 2 i (by decide) (by decide) (by omega)).1, (run_next 2 i (by decide) (by decide) (by omega)).2] at hs
        exact hs
      go_wp2_with fail
      refine HS.mono ?_
      rintro e w3 ⟨rfl, hi, hk⟩
      clear HS z0 z1
      have HK := Lib.hid (HK.out.trans ((hk.below HI.out.hB).mono HLE.out))
      have HG := Lib.hid (And.intro (HI.out.gv HG.out.1 HLW.out.1 hk) (HI.out.gn HG.out.2 HLW.out.2 hk))
      have HQ := Lib.hid (hk.blk HQ.out (by decide) (by decide))
      have HI := Lib.hid hi
      clear hi hk
      go_wp2_with fail
      go_roundw
      case rel => exact ⟨i + 1, by go_num, by omega, HI.out, HG.out, HQ.out, HK.out⟩
      case measure => simp [intOf]; omega
    · obtain rfl : i = n := by omega
      have b1 : ¬ (i : Int) + 1 ≤ (i : Int) := by omega
      have hs1 := note_is g b w.heap.size l ⟨2, exK, μ, true, ⟨#[]⟩⟩ _ wr HG.out.1 HG.out.2 (by show μ < _; omega) HI.out
      rw [run_note 2 i μ (by decide) (by decide) hμn] at hs1
      generalize noteE ⟨2, exK, μ, true, ⟨#[]⟩⟩ (runM 2 i 0) = EN at hs1
      have HS : Calls Tryd.prog 11 #[.pointer (some ⟨l, 0, none⟩), .agg #[.int .i64 2, .string ⟨#[107]⟩, .int .u64 (μ : Int), .bool true, .string ⟨#[]⟩]] wr (fun e w' => e = .returned (.int .i64 EN) ∧ LdIs w.heap.size l (runM 2 i μ) w' ∧ Kept w.heap.size wr w') := hs1
      clear hs1
      go_wp2_with fail
      refine HS.mono ?_
      rintro e w3 ⟨rfl, hi, hk⟩
      clear HS z0 z1
      have HK := Lib.hid (HK.out.trans ((hk.below HI.out.hB).mono HLE.out))
      have HG := Lib.hid (And.intro (HI.out.gv HG.out.1 HLW.out.1 hk) (HI.out.gn HG.out.2 HLW.out.2 hk))
      have HQ := Lib.hid (hk.blk HQ.out (by decide) (by decide))
      have HI := Lib.hid hi
      have z0 : w3.cell? ⟨KB, 0, none⟩ = some (.int .i64 2) := HQ.out.cell 0
      have z1 : w3.cell? ⟨KB, 1, none⟩ = some (.string ⟨#[107]⟩) := HQ.out.cell 1
      clear hi hk
      obtain ⟨EB, hEB⟩ : ∃ EB : Int, (if σ = 0 then 1 else if σ ≤ i then 6 else 0) = EB := ⟨_, rfl⟩
      have hrb := run_beg 2 i μ σ (by decide) (by decide) (by omega)
      rw [hEB] at hrb
      have hs1 := begin_is w.heap.size l 2 exK σ _ w3 HI.out (by omega)
      rw [hrb.1] at hs1
      generalize begM 2 exK σ (runM 2 i μ) = R at hs1 hrb
      have HS : Calls Tryd.prog 15 #[.pointer (some ⟨l, 0, none⟩), .agg #[.int .i64 2, .string ⟨#[107]⟩], .int .u64 (σ : Int)] w3 (fun e w' => e = .returned (.int .i64 EB) ∧ LdIs w.heap.size l R w' ∧ Kept w.heap.size w3 w') := hs1
      have HRB := Lib.hid (show (eraseM R).length = μ by rw [hrb.2]; omega)
      have HEB := Lib.hid hEB
      clear hs1 hrb hEB
      go_wp2_with fail
      refine HS.mono ?_
      rintro e w4 ⟨rfl, hi, hk⟩
      clear HS z0 z1
      have HK := Lib.hid (HK.out.trans ((hk.below HI.out.hB).mono HLE.out))
      have HG := Lib.hid (And.intro (HI.out.gv HG.out.1 HLW.out.1 hk) (HI.out.gn HG.out.2 HLW.out.2 hk))
      have HQ := Lib.hid (hk.blk HQ.out (by decide) (by decide))
      have HI := Lib.hid hi
      clear hi hk
      have hcase : (σ = 0 ∧ EB = 1) ∨ (σ ≠ 0 ∧ σ ≤ i ∧ EB = 6) ∨ (σ ≠ 0 ∧ ¬ σ ≤ i ∧ EB = 0) := by
        have := HEB.out
        by_cases hz : σ = 0
        · rw [if_pos hz] at this; exact .inl ⟨hz, this.symm⟩
        · rw [if_neg hz] at this
          by_cases hz2 : σ ≤ i
          · rw [if_pos hz2] at this; exact .inr (.inl ⟨hz, hz2, this.symm⟩)
          · rw [if_neg hz2] at this; exact .inr (.inr ⟨hz, hz2, this.symm⟩)
      have HLEN := HRB
      clear HEB HRB
      have hfacts : ((σ : Int) = 0 ∧ EB = 1) ∨ (((σ : Int) == 0) = false ∧ (σ : Int) ≤ (i : Int) ∧ EB = 6) ∨ (((σ : Int) == 0) = false ∧ ¬ (σ : Int) ≤ (i : Int) ∧ EB = 0) := by
        rcases hcase with ⟨h, e⟩ | ⟨h, h', e⟩ | ⟨h, h', e⟩
        · exact .inl ⟨by omega, e⟩
        · exact .inr (.inl ⟨beq_eq_false_iff_ne.2 (by omega), by omega, e⟩)
        · exact .inr (.inr ⟨beq_eq_false_iff_ne.2 (by omega), by omega, e⟩)
      clear hcase hlt hn10 hn1 hκ9 hσ20 hi
      rcases hfacts with ⟨hs0, rfl⟩ | ⟨hs0, hs2, rfl⟩ | ⟨hs0, hs2, rfl⟩
      all_goals
        go_wp2_with fail
        refine (erase_is w.heap.size l _ w4 HI.out).mono ?_
        rintro e w5 ⟨rfl, hi, hk⟩
        have HK := Lib.hid (HK.out.trans ((hk.below HI.out.hB).mono HLE.out))
        have HG := Lib.hid (And.intro (HI.out.gv HG.out.1 HLW.out.1 hk) (HI.out.gn HG.out.2 HLW.out.2 hk))
        have HQ := Lib.hid (hk.blk HQ.out (by decide) (by decide))
        have HI := Lib.hid hi
        clear hi hk
        go_wp2_with fail
        refine (marks_is w.heap.size l _ w5 HI.out).mono ?_
        rintro e w6 ⟨v, rfl, hrow, hb⟩
        have HK := Lib.hid (HK.out.trans (hb.mono HK.out.size))
        have HG := Lib.hid (And.intro (HG.out.1.below hb) (HG.out.2.later hb))
        have HQ := Lib.hid (HQ.out.later hb)
        have HI := Lib.hid (HI.out.later hb)
        clear hb
        obtain ⟨a, c, rfl⟩ := row_shape hrow
        rw [HLEN.out] at *
        clear hrow
        have hs1 := begin_is w.heap.size l 2 (nm1 42) 5 _ w6 HI.out (by decide)
        rw [beg_star] at hs1
        generalize begM 2 (nm1 42) 5 (eraseM R) = R2 at hs1
        have HS : Calls Tryd.prog 15 #[.pointer (some ⟨l, 0, none⟩), .agg #[.int .i64 2, .string ⟨#[42]⟩], .int .u64 5] w6 (fun e w' => e = .returned (.int .i64 1) ∧ LdIs w.heap.size l R2 w' ∧ Kept w.heap.size w6 w') := hs1
        clear hs1
        go_wp2_with fail
        refine HS.mono ?_
        rintro e w7 ⟨rfl, hi, hk⟩
        clear HS
        have HK := Lib.hid (HK.out.trans ((hk.below HI.out.hB).mono HLE.out))
        have HG := Lib.hid (And.intro (HI.out.gv HG.out.1 HLW.out.1 hk) (HI.out.gn HG.out.2 HLW.out.2 hk))
        have HQ := Lib.hid (hk.blk HQ.out (by decide) (by decide))
        have HI := Lib.hid hi
        clear hi hk
        go_wp2_with fail
        go_ret
        exact ⟨rfl, HK.out⟩
end Go.Proofs.YtjcfbpbmieepiaaDoor
