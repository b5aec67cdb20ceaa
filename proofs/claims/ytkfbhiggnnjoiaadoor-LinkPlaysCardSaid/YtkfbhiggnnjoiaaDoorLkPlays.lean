/- LinkPlays: the walk. -/
import Derived.Test.YtkfbhiggnnjoiaaDoorLkDoes
import Derived.Test.YtkfbhiggnnjoiaaDoorLkOpen
namespace Go.Proofs.YtkfbhiggnnjoiaaDoor
open Go.RowKit Go.Lib

theorem bx_cells {B : Nat} {d : Dd} {w : World} (h : Bx B d w) : w.cell? ⟨B, 0, none⟩ = some (.int .u8 (d.kd : Int)) ∧ w.cell? ⟨B, 1, none⟩ = some (.int .i64 d.way) ∧ w.cell? ⟨B, 2, none⟩ = some (.string d.s) ∧ w.cell? ⟨B, 3, none⟩ = some (.int .i64 d.n) ∧ w.cell? ⟨B, 4, none⟩ = some (.bool d.lg) :=
  ⟨Blk.cell h 0, Blk.cell h 1, Blk.cell h 2, Blk.cell h 3, Blk.cell h 4⟩

set_option maxRecDepth 100000 in
set_option maxHeartbeats 4000000 in
theorem plays_walk (a0 : Option Addr) (l0 c0 : Nat) (ds : List Dd) (b : Addr) (w : World) (hg : Gs b w) (hge : Ge w) (hl : ds.length = l0) (_hm : l0 ≤ maxLen) (hst : DdsIn w a0 ds) (hsm : ∀ p ∈ ds, p.s.size ≤ 140737488355328 ∧ p.kd < 256 ∧ p.n ≤ 9223372036854775807) :
    Calls Tryd.prog 3 #[.slice a0 l0 c0] w fun e w' => e = .returned (.bool true) ∧ Below w.heap.size w w' := by
  have HL := Lib.hid (And.intro hl hsm); clear hl hsm
  have HG := Lib.hid (And.intro hg hge); clear hg hge
  go_enter Tryd.func3, Tryd.ntmps3
  go_wp2_with fail
  refine (examples_any b w HG.out.1 HG.out.2).mono ?_
  rintro e w1 ⟨rfl, hb1⟩
  have HB1 := Lib.hid hb1; clear hb1
  go_wp2_with fail
  refine (newLink_any b w.heap.size w1 HB1.out.size (HG.out.1.below HB1.out) (HG.out.2.below HB1.out) HG.out.2.2 HG.out.1.2).mono ?_
  rintro e w2 ⟨rfl, hl2, hk2⟩
  have hb2 : Below w.heap.size w w2 := HB1.out.trans (hk2.below HB1.out.size)
  have H2 := Lib.hid (And.intro hl2 hb2); clear hl2 hk2 hb2
  go_wp2_with fail
  refine (xnew_any w.heap.size w2 H2.out.2.size).mono ?_
  rintro e w3 ⟨rfl, ⟨f, hf, hx3, hf3⟩, hb3⟩
  obtain ⟨l, hll⟩ : ∃ l, w1.heap.size = l := ⟨_, rfl⟩
  obtain ⟨m, hmm⟩ : ∃ m, w2.heap.size = m := ⟨_, rfl⟩
  have hstart : Bh b w.heap.size l m 1 (lk0 1) 0 w w3 := by
    rw [← hll, ← hmm]
    exact ⟨H2.out.1.below hb3, ⟨f, hf, hx3⟩, rfl, Nat.le_refl _, Nat.zero_le _, H2.out.2.trans (hb3.mono H2.out.2.size)⟩
  have HST := Lib.hid hstart; clear hstart hf hx3 hf3 hb3
  go_wp2_with fail
  clear hll hmm H2
  go_loopw [6, 7] (fun lv i wr => ∃ (j L : Nat) (x : Lk) (gone : Nat), j ≤ 60 ∧ j ≤ l0 ∧ L ≤ j ∧ 0 ≤ L ∧ lv = .int .i64 (L : Int) ∧ i = .int .i64 (j : Int) ∧ Bh b w.heap.size l m (j + 1) x gone w wr) (fun _ i _ => 70 - (intOf i).toNat)
  case atStart => exact ⟨0, 0, lk0 1, 0, by omega, by omega, by omega, by omega, rfl, rfl, HST.out⟩
  case round =>
  obtain ⟨j, L, x, gone, hj60, hjl, hLj, _, rfl, rfl, hbh⟩ := hrel
  have HBh0 := Lib.hid hbh; clear hbh HST
  by_cases hc : j < l0 ∧ j < 60
  · obtain ⟨h1, h2⟩ := hc
    have h1' : (j : Int) < (l0 : Int) := by omega
    have h2' : (j : Int) < 60 := by omega
    have hjd : j < ds.length := by have := HL.out.1; omega
    obtain ⟨g0, o0, e0, hgl0, z0, z1, z2, z3, z4⟩ := (hst.below HBh0.out.low) j ds[j] (List.getElem?_eq_getElem hjd)
    obtain ⟨hds, hkd, hdn⟩ := HL.out.2 ds[j] (List.getElem_mem hjd)
    generalize ds[j] = dd at z0 z1 z2 z3 z4 hds hkd hdn
    obtain ⟨dk, dw, ds', dn, dl⟩ := dd
    simp only at z0 z1 z2 z3 z4 hds hkd hdn
    subst e0
    obtain ⟨B1, hB1⟩ : ∃ B, wr.heap.size = B := ⟨_, rfl⟩
    cases dl with
    | false =>
      have hbn : Below wr.heap.size wr (wr.alloc (.cells (ddCells (⟨dk, dw, ds', dn, false⟩ : Dd)) 29)) := (Below.refl _ _).alloc (Nat.le_refl _) _
      have hbx : Bx B1 (⟨dk, dw, ds', dn, false⟩ : Dd) (wr.alloc (.cells (ddCells (⟨dk, dw, ds', dn, false⟩ : Dd)) 29)) := by rw [← hB1]; exact Blk.new wr _ _
      have HBx := Lib.hid (And.intro (HBh0.out.below hbn) hbx); clear hbx hbn
      go_wp2_with fail
      refine (does_false (⟨dk, dw, ds', dn, false⟩ : Dd) rfl HBx.out.1 HBx.out.2 (by omega) hkd hdn (by show ds'.size ≤ _; omega)).mono ?_
      rintro e w3 ⟨rfl, x', gone', hbb⟩
      have HBB := Lib.hid hbb; clear hbb
      obtain ⟨f', hfm, hxk⟩ := HBB.out.1.xk
      have y1 : w3.cell? ⟨B1, 1, none⟩ = some (.int .i64 dw) := Blk.cell HBB.out.2.2 1
      have y5 : w3.cell? ⟨m, 2, none⟩ = some (.int .u64 (x'.ep : Int)) := by rw [← hfm]; exact hxk.blk.cell 2
      have HFm := Lib.hid (And.intro hfm hxk); clear hfm hxk
      have HE := Lib.hid (fun q => epoch_quiet HBB.out.1.lk (z := (x'.ep : Int)) rfl q)
      have HTw := Lib.hid (fun i q => twait HBB.out.1.lk i q)
      have HTs := Lib.hid (fun i q => tspace HBB.out.1.lk i q)
      have HXw := Lib.hid (show ∀ i q, Calls Tryd.prog 16 #[.pointer (some ⟨m, 0, none⟩), .int .i64 i] (w3.drewN q) fun e w' => e = .returned (.int .i64 (wtL x' i : Int)) ∧ w' = w3.drewN q from fun i q => by have := xwait HFm.out.2 i q; rw [HFm.out.1] at this; exact this)
      have HXs := Lib.hid (show ∀ i q, Calls Tryd.prog 18 #[.pointer (some ⟨m, 0, none⟩), .int .i64 i] (w3.drewN q) fun e w' => e = .returned (.int .i64 (spL x' i)) ∧ w' = w3.drewN q from fun i q => by have := xspace HFm.out.2 HBB.out.1.lk.ok i q; rw [HFm.out.1] at this; exact this)
      go_wp2_with fail
      go_quiet (first | (go_at_call 14; exact Calls.quiet_of_same (HE.out _)) | (go_at_call 15; exact Calls.quiet_of (HTw.out _ _)) | (go_at_call 16; exact Calls.quiet_of_same (HXw.out _ _)) | (go_at_call 17; exact Calls.quiet_of (HTs.out _ _)) | (go_at_call 18; exact Calls.quiet_of_same (HXs.out _ _)))
      clear y1 y5
      go_wp2_with fail
      go_roundw
      case rel => exact ⟨j + 1, L, x', gone', by omega, by omega, by omega, by omega, rfl, by go_num, HBB.out.1.below (below_drewN' _)⟩
      case measure => simp [intOf]; omega
    | true =>
      by_cases h8 : L < 8
      · have h8' : (L : Int) + 1 ≤ 8 := by omega
        have hbn : Below wr.heap.size wr (wr.alloc (.cells (ddCells (⟨dk, dw, ds', dn, true⟩ : Dd)) 29)) := (Below.refl _ _).alloc (Nat.le_refl _) _
        have hbx : Bx B1 (⟨dk, dw, ds', dn, true⟩ : Dd) (wr.alloc (.cells (ddCells (⟨dk, dw, ds', dn, true⟩ : Dd)) 29)) := by rw [← hB1]; exact Blk.new wr _ _
        have HBx := Lib.hid (And.intro (HBh0.out.below hbn) hbx); clear hbx hbn
        go_wp2_with fail
        refine (does_true (⟨dk, dw, ds', dn, true⟩ : Dd) rfl HBx.out.1 HBx.out.2 (by omega) hkd hdn (by show ds'.size ≤ _; omega)).mono ?_
        rintro e w3 ⟨rfl, x', gone', hbb⟩
        have HBB := Lib.hid hbb; clear hbb
        obtain ⟨f', hfm, hxk⟩ := HBB.out.1.xk
        have y1 : w3.cell? ⟨B1, 1, none⟩ = some (.int .i64 dw) := Blk.cell HBB.out.2.2 1
        have y5 : w3.cell? ⟨m, 2, none⟩ = some (.int .u64 (x'.ep : Int)) := by rw [← hfm]; exact hxk.blk.cell 2
        have HFm := Lib.hid (And.intro hfm hxk); clear hfm hxk
        have HE := Lib.hid (fun q => epoch_quiet HBB.out.1.lk (z := (x'.ep : Int)) rfl q)
        have HTw := Lib.hid (fun i q => twait HBB.out.1.lk i q)
        have HTs := Lib.hid (fun i q => tspace HBB.out.1.lk i q)
        have HXw := Lib.hid (show ∀ i q, Calls Tryd.prog 16 #[.pointer (some ⟨m, 0, none⟩), .int .i64 i] (w3.drewN q) fun e w' => e = .returned (.int .i64 (wtL x' i : Int)) ∧ w' = w3.drewN q from fun i q => by have := xwait HFm.out.2 i q; rw [HFm.out.1] at this; exact this)
        have HXs := Lib.hid (show ∀ i q, Calls Tryd.prog 18 #[.pointer (some ⟨m, 0, none⟩), .int .i64 i] (w3.drewN q) fun e w' => e = .returned (.int .i64 (spL x' i)) ∧ w' = w3.drewN q from fun i q => by have := xspace HFm.out.2 HBB.out.1.lk.ok i q; rw [HFm.out.1] at this; exact this)
        go_wp2_with fail
        go_quiet (first | (go_at_call 14; exact Calls.quiet_of_same (HE.out _)) | (go_at_call 15; exact Calls.quiet_of (HTw.out _ _)) | (go_at_call 16; exact Calls.quiet_of_same (HXw.out _ _)) | (go_at_call 17; exact Calls.quiet_of (HTs.out _ _)) | (go_at_call 18; exact Calls.quiet_of_same (HXs.out _ _)))
        clear y1 y5
        go_wp2_with fail
        go_roundw
        case rel => exact ⟨j + 1, L + 1, x', gone', by omega, by omega, by omega, by omega, by go_num, by go_num, HBB.out.1.below (below_drewN' _)⟩
        case measure => simp [intOf]; omega
      · have h8' : ¬ (L : Int) + 1 ≤ 8 := by omega
        have hbn : Below wr.heap.size wr (wr.alloc (.cells (ddCells (⟨dk, dw, ds', dn, false⟩ : Dd)) 29)) := (Below.refl _ _).alloc (Nat.le_refl _) _
        have hbx : Bx B1 (⟨dk, dw, ds', dn, false⟩ : Dd) (wr.alloc (.cells (ddCells (⟨dk, dw, ds', dn, false⟩ : Dd)) 29)) := by rw [← hB1]; exact Blk.new wr _ _
        have HBx := Lib.hid (And.intro (HBh0.out.below hbn) hbx); clear hbx hbn
        go_wp2_with fail
        refine (does_false (⟨dk, dw, ds', dn, false⟩ : Dd) rfl HBx.out.1 HBx.out.2 (by omega) hkd hdn (by show ds'.size ≤ _; omega)).mono ?_
        rintro e w3 ⟨rfl, x', gone', hbb⟩
        have HBB := Lib.hid hbb; clear hbb
        obtain ⟨f', hfm, hxk⟩ := HBB.out.1.xk
        have y1 : w3.cell? ⟨B1, 1, none⟩ = some (.int .i64 dw) := Blk.cell HBB.out.2.2 1
        have y5 : w3.cell? ⟨m, 2, none⟩ = some (.int .u64 (x'.ep : Int)) := by rw [← hfm]; exact hxk.blk.cell 2
        have HFm := Lib.hid (And.intro hfm hxk); clear hfm hxk
        have HE := Lib.hid (fun q => epoch_quiet HBB.out.1.lk (z := (x'.ep : Int)) rfl q)
        have HTw := Lib.hid (fun i q => twait HBB.out.1.lk i q)
        have HTs := Lib.hid (fun i q => tspace HBB.out.1.lk i q)
        have HXw := Lib.hid (show ∀ i q, Calls Tryd.prog 16 #[.pointer (some ⟨m, 0, none⟩), .int .i64 i] (w3.drewN q) fun e w' => e = .returned (.int .i64 (wtL x' i : Int)) ∧ w' = w3.drewN q from fun i q => by have := xwait HFm.out.2 i q; rw [HFm.out.1] at this; exact this)
        have HXs := Lib.hid (show ∀ i q, Calls Tryd.prog 18 #[.pointer (some ⟨m, 0, none⟩), .int .i64 i] (w3.drewN q) fun e w' => e = .returned (.int .i64 (spL x' i)) ∧ w' = w3.drewN q from fun i q => by have := xspace HFm.out.2 HBB.out.1.lk.ok i q; rw [HFm.out.1] at this; exact this)
        go_wp2_with fail
        go_quiet (first | (go_at_call 14; exact Calls.quiet_of_same (HE.out _)) | (go_at_call 15; exact Calls.quiet_of (HTw.out _ _)) | (go_at_call 16; exact Calls.quiet_of_same (HXw.out _ _)) | (go_at_call 17; exact Calls.quiet_of (HTs.out _ _)) | (go_at_call 18; exact Calls.quiet_of_same (HXs.out _ _)))
        clear y1 y5
        go_wp2_with fail
        go_roundw
        case rel => exact ⟨j + 1, L + 1, x', gone', by omega, by omega, by omega, by omega, by go_num, by go_num, HBB.out.1.below (below_drewN' _)⟩
        case measure => simp [intOf]; omega
  · have hend : (¬ (j : Int) < (l0 : Int)) ∨ ((j : Int) < (l0 : Int) ∧ ¬ (j : Int) < 60) := by omega
    rcases hend with h1 | ⟨h1, h2⟩
    all_goals
      go_wp2
      go_ret
      exact ⟨rfl, HBh0.out.low⟩
end Go.Proofs.YtkfbhiggnnjoiaaDoor
