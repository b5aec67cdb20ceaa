/- link: does. -/
import Derived.Test.YtkfbhiggnnjoiaaDoorLkDo
import Derived.Deep.RegionHeld3
namespace Go.Proofs.YtkfbhiggnnjoiaaDoor
open Go.RowKit Go.Lib

def DoPost (b : Addr) (base l m E B : Nat) (d : Dd) (B1 : Nat) (d1 : Dd) (w0 : World) (e : Ending) (w' : World) : Prop := e = .returned (.bool true) ∧ ∃ x' gone', BB b base l m (E + 1) x' gone' B d B1 d1 w0 w'

set_option maxRecDepth 100000 in
set_option maxHeartbeats 4000000 in
theorem does_false {b : Addr} {base l m E gone B1 : Nat} {x : Lk} {d1 : Dd} {w0 w : World} (d : Dd) (hlg : d.lg = false) (h : Bh b base l m E x gone w0 w) (hb1 : Bx B1 d1 w) (hE : E ≤ 1000) (hkd : d.kd < 256) (hd : d.n ≤ 9223372036854775807) (hds : d.s.size ≤ 900000000000000000) :
    Calls Tryd.prog 13 #[.pointer (some ⟨l, 0, none⟩), .pointer (some ⟨m, 0, none⟩), .agg (ddCells d)] w (DoPost b base l m E w.heap.size d B1 d1 w0) := by
  have hb0 : Below w.heap.size w (w.alloc (.cells (ddCells d) 29)) := (Below.refl _ _).alloc (Nat.le_refl _) _
  have hB0 : BB b base l m E x gone w.heap.size d B1 d1 w0 (w.alloc (.cells (ddCells d) 29)) := ⟨h.below hb0, Blk.new w _ _, hb1.below hb0⟩
  obtain ⟨B, hB⟩ : ∃ B, w.heap.size = B := ⟨_, rfl⟩
  obtain ⟨w1, hw1⟩ : ∃ w1, w.alloc (.cells (ddCells d) 29) = w1 := ⟨_, rfl⟩
  rw [hB, hw1] at hB0
  have HB := Lib.hid hB0; clear hB0 hb0
  obtain ⟨r, hr⟩ : ∃ r, d.kd % 8 = r := ⟨_, rfl⟩
  have hr8 : r < 8 := by omega
  have HR := Lib.hid (show (d.kd : Int) % 8 = (r : Int) by omega); clear hr
  have HLg := Lib.hid hlg
  have z2 : w1.cell? ⟨B, 2, none⟩ = some (.string d.s) := Blk.cell HB.out.2.1 2
  have z4 : w1.cell? ⟨B, 4, none⟩ = some (.bool false) := by rw [← hlg]; exact Blk.cell HB.out.2.1 4
  have z0 : w1.cell? ⟨B, 0, none⟩ = some (.int .u8 (d.kd : Int)) := Blk.cell HB.out.2.1 0
  rw [hB]
  clear hlg
  go_enter Tryd.func13, Tryd.ntmps13
  go_upto_region 4 with (fail)
  clear hw1 hB h hb1
  rcases (show r = 0 ∨ r = 1 ∨ r = 2 ∨ r = 3 ∨ r = 4 ∨ r = 5 ∨ r = 6 ∨ r = 7 by omega) with rfl | rfl | rfl | rfl | rfl | rfl | rfl | rfl
  · have hr := HR.out
    have hr : (d.kd : Int) % 8 = 0 := hr

    obtain ⟨xs, hxs⟩ : ∃ xs, opL false x d.way d.s.data.toList = xs := ⟨_, rfl⟩
    obtain ⟨e', x'⟩ := xs
    have HS := Lib.hid hxs; clear hxs
    go_wp2_with fail
    have hbd : BB b base l m E x gone B d B1 d1 w0 w1.drew := HB.out.below ((Below.refl _ _).drew)
    go_region_held3 (fun w' => w'.cell? ⟨B, 1, none⟩ = some (.int .i64 d.way))
      (first | exact BB.cell1 (b := b) (base := base) (by assumption) | exact Mid.cell1 (b := b) (base := base) (by assumption))
      (first
        | (go_at_call 19; refine (tsend_m (by assumption) d.way d.s (by unfold maxLen; omega) HS.out).mono ?_; rintro e w' ⟨rfl, hx⟩)
        | (go_at_call 30; refine (xsend_m (by assumption) d.way d.s (by unfold maxLen; omega) HS.out).mono ?_; rintro e w' ⟨rfl, hx2⟩))
    all_goals go_wp2
    all_goals go_ret
    all_goals exact ⟨rfl, x', gone, (show BB _ _ _ _ _ _ _ _ _ _ _ _ _ by assumption)⟩
  · have hr := HR.out
    have hr : (d.kd : Int) % 8 = 1 := hr

    obtain ⟨xs, hxs⟩ : ∃ xs, opL false x d.way d.s.data.toList = xs := ⟨_, rfl⟩
    obtain ⟨e', x'⟩ := xs
    have HS := Lib.hid hxs; clear hxs
    go_wp2_with fail
    have hbd : BB b base l m E x gone B d B1 d1 w0 w1.drew := HB.out.below ((Below.refl _ _).drew)
    go_region_held3 (fun w' => w'.cell? ⟨B, 1, none⟩ = some (.int .i64 d.way))
      (first | exact BB.cell1 (b := b) (base := base) (by assumption) | exact Mid.cell1 (b := b) (base := base) (by assumption))
      (first
        | (go_at_call 19; refine (tsend_m (by assumption) d.way d.s (by unfold maxLen; omega) HS.out).mono ?_; rintro e w' ⟨rfl, hx⟩)
        | (go_at_call 30; refine (xsend_m (by assumption) d.way d.s (by unfold maxLen; omega) HS.out).mono ?_; rintro e w' ⟨rfl, hx2⟩))
    all_goals go_wp2
    all_goals go_ret
    all_goals exact ⟨rfl, x', gone, (show BB _ _ _ _ _ _ _ _ _ _ _ _ _ by assumption)⟩
  · have hr := HR.out
    have hr : (d.kd : Int) % 8 = 2 := hr

    obtain ⟨xs, hxs⟩ : ∃ xs, opL true x d.way d.s.data.toList = xs := ⟨_, rfl⟩
    obtain ⟨e', x'⟩ := xs
    have HS := Lib.hid hxs; clear hxs
    go_wp2_with fail
    have hbd : BB b base l m E x gone B d B1 d1 w0 w1.drew := HB.out.below ((Below.refl _ _).drew)
    go_region_held3 (fun w' => w'.cell? ⟨B, 1, none⟩ = some (.int .i64 d.way))
      (first | exact BB.cell1 (b := b) (base := base) (by assumption) | exact Mid.cell1 (b := b) (base := base) (by assumption))
      (first
        | (go_at_call 21; refine (tinject_m (by assumption) d.way d.s (by omega) HS.out).mono ?_; rintro e w' ⟨rfl, hx⟩)
        | (go_at_call 26; refine (xinject_m (by assumption) d.way d.s (by omega) HS.out).mono ?_; rintro e w' ⟨rfl, hx2⟩))
    all_goals go_wp2
    all_goals go_ret
    all_goals exact ⟨rfl, x', gone, (show BB _ _ _ _ _ _ _ _ _ _ _ _ _ by assumption)⟩
  · have hr := HR.out
    have hr : (d.kd : Int) % 8 = 3 := hr

    obtain ⟨xs, hxs⟩ : ∃ xs, tkL x d.way d.n = xs := ⟨_, rfl⟩
    obtain ⟨ms, e', x'⟩ := xs
    obtain ⟨N, hN⟩ : ∃ N, ms.length = N := ⟨_, rfl⟩
    obtain ⟨gone', hg⟩ : ∃ g, gnL x d.way d.n gone = g := ⟨_, rfl⟩
    have hN65 : N ≤ 65537 := by rw [← hN]; have := tkL_len HB.out.1.lk.ok d.way d.n; rw [hxs] at this; exact this
    have HS := Lib.hid (And.intro hxs (And.intro hN hg)); clear hxs hN hg
    have y1 : w1.cell? ⟨B, 1, none⟩ = some (.int .i64 d.way) := Blk.cell HB.out.2.1 1
    have y3 : w1.cell? ⟨B, 3, none⟩ = some (.int .i64 d.n) := Blk.cell HB.out.2.1 3
    go_wp2_with fail
    refine (ttake_m HB.out hE d.way d.n hd HS.out.1 HS.out.2.1).mono ?_
    rintro e w2 ⟨a1, c1, rfl, hown1, hf1, hmid⟩
    clear y1 y3
    have y1 : w2.cell? ⟨B, 1, none⟩ = some (.int .i64 d.way) := Blk.cell hmid.box.1 1
    have y3 : w2.cell? ⟨B, 3, none⟩ = some (.int .i64 d.n) := Blk.cell hmid.box.1 3
    have HM := Lib.hid (And.intro hmid (And.intro hf1 hown1)); clear hmid hf1 hown1
    go_wp2_with fail
    refine (xtake_m HM.out.1 HM.out.2.1 HM.out.2.2 hE d.way d.n hd HS.out.1 HS.out.2.1 HS.out.2.2).mono ?_
    rintro e w3 ⟨a2, c2, rfl, hown1, hown2, hbb⟩
    clear y1 y3
    have HB3 := Lib.hid (And.intro hbb (And.intro hown1 hown2)); clear hbb hown1 hown2
    go_wp2_with fail
    go_loopw [12] (fun i wx => ∃ j : Nat, j ≤ N ∧ i = .int .i64 (j : Int) ∧ Below w3.heap.size w3 wx) (fun i _ => N - (intOf i).toNat)
    case atStart => exact ⟨0, Nat.zero_le _, rfl, Below.refl _ _⟩
    case round =>
    obtain ⟨j, hjN, rfl, hbx⟩ := hrel
    have HBx := Lib.hid hbx; clear hbx
    by_cases hjl : j < N
    · have hjl' : (j : Int) < (N : Int) := by omega
      have hml : j < ms.length := by rw [HS.out.2.1]; exact hjl
      obtain ⟨g1, e1, p1⟩ := strAt_own (own_below HB3.out.2.1 HBx.out) j ms[j] (List.getElem?_eq_getElem hml)
      obtain ⟨g2, e2, p2⟩ := strAt_own (own_below HB3.out.2.2 HBx.out) j ms[j] (List.getElem?_eq_getElem hml)
      generalize ms[j] = q at p1 p2
      subst e1
      subst e2
      go_wp2_with fail
      go_quiet (fail)
      go_wp2_with fail
      go_roundw
      case rel => exact ⟨j + 1, by omega, by go_num, HBx.out.trans (below_drewN' _)⟩
      case measure => simp [intOf]; omega
    · have hjl' : ¬ (j : Int) < (N : Int) := by omega
      go_wp2
      go_ret
      exact ⟨rfl, x', gone', HB3.out.1.below HBx.out⟩
  · have hr := HR.out
    have hr : (d.kd : Int) % 8 = 4 := hr

    obtain ⟨xs, hxs⟩ : ∃ xs, tkL x d.way d.n = xs := ⟨_, rfl⟩
    obtain ⟨ms, e', x'⟩ := xs
    obtain ⟨N, hN⟩ : ∃ N, ms.length = N := ⟨_, rfl⟩
    obtain ⟨gone', hg⟩ : ∃ g, gnL x d.way d.n gone = g := ⟨_, rfl⟩
    have hN65 : N ≤ 65537 := by rw [← hN]; have := tkL_len HB.out.1.lk.ok d.way d.n; rw [hxs] at this; exact this
    have HS := Lib.hid (And.intro hxs (And.intro hN hg)); clear hxs hN hg
    have y1 : w1.cell? ⟨B, 1, none⟩ = some (.int .i64 d.way) := Blk.cell HB.out.2.1 1
    have y3 : w1.cell? ⟨B, 3, none⟩ = some (.int .i64 d.n) := Blk.cell HB.out.2.1 3
    go_wp2_with fail
    refine (ttake_m HB.out hE d.way d.n hd HS.out.1 HS.out.2.1).mono ?_
    rintro e w2 ⟨a1, c1, rfl, hown1, hf1, hmid⟩
    clear y1 y3
    have y1 : w2.cell? ⟨B, 1, none⟩ = some (.int .i64 d.way) := Blk.cell hmid.box.1 1
    have y3 : w2.cell? ⟨B, 3, none⟩ = some (.int .i64 d.n) := Blk.cell hmid.box.1 3
    have HM := Lib.hid (And.intro hmid (And.intro hf1 hown1)); clear hmid hf1 hown1
    go_wp2_with fail
    refine (xtake_m HM.out.1 HM.out.2.1 HM.out.2.2 hE d.way d.n hd HS.out.1 HS.out.2.1 HS.out.2.2).mono ?_
    rintro e w3 ⟨a2, c2, rfl, hown1, hown2, hbb⟩
    clear y1 y3
    have HB3 := Lib.hid (And.intro hbb (And.intro hown1 hown2)); clear hbb hown1 hown2
    go_wp2_with fail
    go_loopw [12] (fun i wx => ∃ j : Nat, j ≤ N ∧ i = .int .i64 (j : Int) ∧ Below w3.heap.size w3 wx) (fun i _ => N - (intOf i).toNat)
    case atStart => exact ⟨0, Nat.zero_le _, rfl, Below.refl _ _⟩
    case round =>
    obtain ⟨j, hjN, rfl, hbx⟩ := hrel
    have HBx := Lib.hid hbx; clear hbx
    by_cases hjl : j < N
    · have hjl' : (j : Int) < (N : Int) := by omega
      have hml : j < ms.length := by rw [HS.out.2.1]; exact hjl
      obtain ⟨g1, e1, p1⟩ := strAt_own (own_below HB3.out.2.1 HBx.out) j ms[j] (List.getElem?_eq_getElem hml)
      obtain ⟨g2, e2, p2⟩ := strAt_own (own_below HB3.out.2.2 HBx.out) j ms[j] (List.getElem?_eq_getElem hml)
      generalize ms[j] = q at p1 p2
      subst e1
      subst e2
      go_wp2_with fail
      go_quiet (fail)
      go_wp2_with fail
      go_roundw
      case rel => exact ⟨j + 1, by omega, by go_num, HBx.out.trans (below_drewN' _)⟩
      case measure => simp [intOf]; omega
    · have hjl' : ¬ (j : Int) < (N : Int) := by omega
      go_wp2
      go_ret
      exact ⟨rfl, x', gone', HB3.out.1.below HBx.out⟩
  · have hr := HR.out
    have hr : (d.kd : Int) % 8 = 5 := hr

    go_wp2_with fail
    refine (ttick_m HB.out).mono ?_
    rintro e w2 ⟨rfl, hmid⟩
    have HM := Lib.hid hmid; clear hmid
    obtain ⟨v0, hv0⟩ : ∃ v, xtickA gone = v := ⟨_, rfl⟩
    obtain ⟨v1, hv1⟩ : ∃ v, xtickD gone = v := ⟨_, rfl⟩
    have HV := Lib.hid (And.intro hv0 hv1)
    rw [hv0, hv1]
    clear hv0 hv1
    go_wp2_with fail
    have hxt := xtick_m HM.out hE
    rw [HV.out.1, HV.out.2] at hxt
    refine hxt.mono ?_
    clear hxt
    rintro e w3 ⟨rfl, hbb⟩
    have HB3 := Lib.hid hbb; clear hbb
    cases v0
    · cases v1
      · go_wp2
        go_ret
        exact ⟨rfl, _, _, HB3.out⟩
      · go_wp2
        go_ret
        exact ⟨rfl, _, _, HB3.out⟩
    · cases v1
      · go_wp2
        go_ret
        exact ⟨rfl, _, _, HB3.out⟩
      · go_wp2
        go_ret
        exact ⟨rfl, _, _, HB3.out⟩
  · have hr := HR.out
    have hr : (d.kd : Int) % 8 = 6 := hr

    go_wp2_with fail
    refine (theard_m HB.out).mono ?_
    rintro e w2 ⟨rfl, hmid⟩
    have HM := Lib.hid hmid; clear hmid
    go_wp2_with fail
    refine (xheard_m HM.out).mono ?_
    rintro e w3 ⟨rfl, hbb⟩
    have HB3 := Lib.hid hbb; clear hbb
    go_wp2
    go_ret
    exact ⟨rfl, _, _, HB3.out⟩
  · have hr := HR.out
    have hr : (d.kd : Int) % 8 = 7 := hr

    go_wp2_with fail
    refine (treset_m HB.out hE).mono ?_
    rintro e w2 ⟨rfl, hmid⟩
    have HM := Lib.hid hmid; clear hmid
    go_wp2_with fail
    refine (xreset_m HM.out hE).mono ?_
    rintro e w3 ⟨rfl, hbb⟩
    have HB3 := Lib.hid hbb; clear hbb
    go_wp2
    go_ret
    exact ⟨rfl, _, _, HB3.out⟩

set_option maxRecDepth 100000 in
set_option maxHeartbeats 4000000 in
theorem does_true {b : Addr} {base l m E gone B1 : Nat} {x : Lk} {d1 : Dd} {w0 w : World} (d : Dd) (hlg : d.lg = true) (h : Bh b base l m E x gone w0 w) (hb1 : Bx B1 d1 w) (hE : E ≤ 1000) (hkd : d.kd < 256) (hd : d.n ≤ 9223372036854775807) (hds : d.s.size ≤ 900000000000000000) :
    Calls Tryd.prog 13 #[.pointer (some ⟨l, 0, none⟩), .pointer (some ⟨m, 0, none⟩), .agg (ddCells d)] w (DoPost b base l m E w.heap.size d B1 d1 w0) := by
  have hb0 : Below w.heap.size w (w.alloc (.cells (ddCells d) 29)) := (Below.refl _ _).alloc (Nat.le_refl _) _
  have hB0 : BB b base l m E x gone w.heap.size d B1 d1 w0 (w.alloc (.cells (ddCells d) 29)) := ⟨h.below hb0, Blk.new w _ _, hb1.below hb0⟩
  obtain ⟨B, hB⟩ : ∃ B, w.heap.size = B := ⟨_, rfl⟩
  obtain ⟨w1, hw1⟩ : ∃ w1, w.alloc (.cells (ddCells d) 29) = w1 := ⟨_, rfl⟩
  rw [hB, hw1] at hB0
  have HB := Lib.hid hB0; clear hB0 hb0
  obtain ⟨r, hr⟩ : ∃ r, d.kd % 8 = r := ⟨_, rfl⟩
  have hr8 : r < 8 := by omega
  have HR := Lib.hid (show (d.kd : Int) % 8 = (r : Int) by omega); clear hr
  have HLg := Lib.hid hlg
  have z2 : w1.cell? ⟨B, 2, none⟩ = some (.string d.s) := Blk.cell HB.out.2.1 2
  have z4 : w1.cell? ⟨B, 4, none⟩ = some (.bool true) := by rw [← hlg]; exact Blk.cell HB.out.2.1 4
  have z0 : w1.cell? ⟨B, 0, none⟩ = some (.int .u8 (d.kd : Int)) := Blk.cell HB.out.2.1 0
  rw [hB]
  clear hlg
  go_enter Tryd.func13, Tryd.ntmps13
  obtain ⟨ds, Y, hYs, hmd, hcd⟩ := zeros_text 60000 (by omega)
  have hmd : ∀ W : World, (Instr.makeSlice 39 (.int .i64 60000) (.int .i64 60000)).run Tryd.prog W = .ok (.slice (some ⟨W.heap.size, 0, none⟩) 60000 60000) (W.alloc (.cells ds 5)) := hmd
  have hcd1 := hcd w1
  have hYs2 : Y.size ≤ 60000 := by omega
  obtain ⟨S2, hS2⟩ : ∃ S2, d.s ++ Y = S2 := ⟨_, rfl⟩
  have hS2s : S2.size ≤ 1000000000000000000 := by rw [← hS2, ByteArray.size_append]; omega
  have hbA : Below w1.heap.size w1 (w1.alloc (.cells ds 5)) := (Below.refl _ _).alloc (Nat.le_refl _) _
  have hB2 := HB.out.below hbA
  obtain ⟨w1a, hw1a⟩ : ∃ W, w1.alloc (.cells ds 5) = W := ⟨_, rfl⟩
  rw [hw1a] at hB2 hcd1
  have HB2 := Lib.hid hB2; clear hB2 hbA
  go_upto_region 4 with (fail)
  clear hw1 hB h hb1 hmd hcd hcd1 hYs hYs2 hS2 hw1a HB z0 z2 z4
  have HB := HB2
  clear HB2
  have z0 : w1a.cell? ⟨B, 0, none⟩ = some (.int .u8 (d.kd : Int)) := Blk.cell HB.out.2.1 0
  rcases (show r = 0 ∨ r = 1 ∨ r = 2 ∨ r = 3 ∨ r = 4 ∨ r = 5 ∨ r = 6 ∨ r = 7 by omega) with rfl | rfl | rfl | rfl | rfl | rfl | rfl | rfl
  · have hr := HR.out
    have hr : (d.kd : Int) % 8 = 0 := hr

    obtain ⟨xs, hxs⟩ : ∃ xs, opL false x d.way S2.data.toList = xs := ⟨_, rfl⟩
    obtain ⟨e', x'⟩ := xs
    have HS := Lib.hid hxs; clear hxs
    go_wp2_with fail
    have hbd : BB b base l m E x gone B d B1 d1 w0 w1a.drew := HB.out.below ((Below.refl _ _).drew)
    go_region_held3 (fun w' => w'.cell? ⟨B, 1, none⟩ = some (.int .i64 d.way))
      (first | exact BB.cell1 (b := b) (base := base) (by assumption) | exact Mid.cell1 (b := b) (base := base) (by assumption))
      (first
        | (go_at_call 19; refine (tsend_m (by assumption) d.way S2 (by unfold maxLen; omega) HS.out).mono ?_; rintro e w' ⟨rfl, hx⟩)
        | (go_at_call 30; refine (xsend_m (by assumption) d.way S2 (by unfold maxLen; omega) HS.out).mono ?_; rintro e w' ⟨rfl, hx2⟩))
    all_goals go_wp2
    all_goals go_ret
    all_goals exact ⟨rfl, x', gone, (show BB _ _ _ _ _ _ _ _ _ _ _ _ _ by assumption)⟩
  · have hr := HR.out
    have hr : (d.kd : Int) % 8 = 1 := hr

    obtain ⟨xs, hxs⟩ : ∃ xs, opL false x d.way S2.data.toList = xs := ⟨_, rfl⟩
    obtain ⟨e', x'⟩ := xs
    have HS := Lib.hid hxs; clear hxs
    go_wp2_with fail
    have hbd : BB b base l m E x gone B d B1 d1 w0 w1a.drew := HB.out.below ((Below.refl _ _).drew)
    go_region_held3 (fun w' => w'.cell? ⟨B, 1, none⟩ = some (.int .i64 d.way))
      (first | exact BB.cell1 (b := b) (base := base) (by assumption) | exact Mid.cell1 (b := b) (base := base) (by assumption))
      (first
        | (go_at_call 19; refine (tsend_m (by assumption) d.way S2 (by unfold maxLen; omega) HS.out).mono ?_; rintro e w' ⟨rfl, hx⟩)
        | (go_at_call 30; refine (xsend_m (by assumption) d.way S2 (by unfold maxLen; omega) HS.out).mono ?_; rintro e w' ⟨rfl, hx2⟩))
    all_goals go_wp2
    all_goals go_ret
    all_goals exact ⟨rfl, x', gone, (show BB _ _ _ _ _ _ _ _ _ _ _ _ _ by assumption)⟩
  · have hr := HR.out
    have hr : (d.kd : Int) % 8 = 2 := hr

    obtain ⟨xs, hxs⟩ : ∃ xs, opL true x d.way S2.data.toList = xs := ⟨_, rfl⟩
    obtain ⟨e', x'⟩ := xs
    have HS := Lib.hid hxs; clear hxs
    go_wp2_with fail
    have hbd : BB b base l m E x gone B d B1 d1 w0 w1a.drew := HB.out.below ((Below.refl _ _).drew)
    go_region_held3 (fun w' => w'.cell? ⟨B, 1, none⟩ = some (.int .i64 d.way))
      (first | exact BB.cell1 (b := b) (base := base) (by assumption) | exact Mid.cell1 (b := b) (base := base) (by assumption))
      (first
        | (go_at_call 21; refine (tinject_m (by assumption) d.way S2 (by omega) HS.out).mono ?_; rintro e w' ⟨rfl, hx⟩)
        | (go_at_call 26; refine (xinject_m (by assumption) d.way S2 (by omega) HS.out).mono ?_; rintro e w' ⟨rfl, hx2⟩))
    all_goals go_wp2
    all_goals go_ret
    all_goals exact ⟨rfl, x', gone, (show BB _ _ _ _ _ _ _ _ _ _ _ _ _ by assumption)⟩
  · have hr := HR.out
    have hr : (d.kd : Int) % 8 = 3 := hr

    obtain ⟨xs, hxs⟩ : ∃ xs, tkL x d.way d.n = xs := ⟨_, rfl⟩
    obtain ⟨ms, e', x'⟩ := xs
    obtain ⟨N, hN⟩ : ∃ N, ms.length = N := ⟨_, rfl⟩
    obtain ⟨gone', hg⟩ : ∃ g, gnL x d.way d.n gone = g := ⟨_, rfl⟩
    have hN65 : N ≤ 65537 := by rw [← hN]; have := tkL_len HB.out.1.lk.ok d.way d.n; rw [hxs] at this; exact this
    have HS := Lib.hid (And.intro hxs (And.intro hN hg)); clear hxs hN hg
    have y1 : w1a.cell? ⟨B, 1, none⟩ = some (.int .i64 d.way) := Blk.cell HB.out.2.1 1
    have y3 : w1a.cell? ⟨B, 3, none⟩ = some (.int .i64 d.n) := Blk.cell HB.out.2.1 3
    go_wp2_with fail
    refine (ttake_m HB.out hE d.way d.n hd HS.out.1 HS.out.2.1).mono ?_
    rintro e w2 ⟨a1, c1, rfl, hown1, hf1, hmid⟩
    clear y1 y3
    have y1 : w2.cell? ⟨B, 1, none⟩ = some (.int .i64 d.way) := Blk.cell hmid.box.1 1
    have y3 : w2.cell? ⟨B, 3, none⟩ = some (.int .i64 d.n) := Blk.cell hmid.box.1 3
    have HM := Lib.hid (And.intro hmid (And.intro hf1 hown1)); clear hmid hf1 hown1
    go_wp2_with fail
    refine (xtake_m HM.out.1 HM.out.2.1 HM.out.2.2 hE d.way d.n hd HS.out.1 HS.out.2.1 HS.out.2.2).mono ?_
    rintro e w3 ⟨a2, c2, rfl, hown1, hown2, hbb⟩
    clear y1 y3
    have HB3 := Lib.hid (And.intro hbb (And.intro hown1 hown2)); clear hbb hown1 hown2
    go_wp2_with fail
    go_loopw [12] (fun i wx => ∃ j : Nat, j ≤ N ∧ i = .int .i64 (j : Int) ∧ Below w3.heap.size w3 wx) (fun i _ => N - (intOf i).toNat)
    case atStart => exact ⟨0, Nat.zero_le _, rfl, Below.refl _ _⟩
    case round =>
    obtain ⟨j, hjN, rfl, hbx⟩ := hrel
    have HBx := Lib.hid hbx; clear hbx
    by_cases hjl : j < N
    · have hjl' : (j : Int) < (N : Int) := by omega
      have hml : j < ms.length := by rw [HS.out.2.1]; exact hjl
      obtain ⟨g1, e1, p1⟩ := strAt_own (own_below HB3.out.2.1 HBx.out) j ms[j] (List.getElem?_eq_getElem hml)
      obtain ⟨g2, e2, p2⟩ := strAt_own (own_below HB3.out.2.2 HBx.out) j ms[j] (List.getElem?_eq_getElem hml)
      generalize ms[j] = q at p1 p2
      subst e1
      subst e2
      go_wp2_with fail
      go_quiet (fail)
      go_wp2_with fail
      go_roundw
      case rel => exact ⟨j + 1, by omega, by go_num, HBx.out.trans (below_drewN' _)⟩
      case measure => simp [intOf]; omega
    · have hjl' : ¬ (j : Int) < (N : Int) := by omega
      go_wp2
      go_ret
      exact ⟨rfl, x', gone', HB3.out.1.below HBx.out⟩
  · have hr := HR.out
    have hr : (d.kd : Int) % 8 = 4 := hr

    obtain ⟨xs, hxs⟩ : ∃ xs, tkL x d.way d.n = xs := ⟨_, rfl⟩
    obtain ⟨ms, e', x'⟩ := xs
    obtain ⟨N, hN⟩ : ∃ N, ms.length = N := ⟨_, rfl⟩
    obtain ⟨gone', hg⟩ : ∃ g, gnL x d.way d.n gone = g := ⟨_, rfl⟩
    have hN65 : N ≤ 65537 := by rw [← hN]; have := tkL_len HB.out.1.lk.ok d.way d.n; rw [hxs] at this; exact this
    have HS := Lib.hid (And.intro hxs (And.intro hN hg)); clear hxs hN hg
    have y1 : w1a.cell? ⟨B, 1, none⟩ = some (.int .i64 d.way) := Blk.cell HB.out.2.1 1
    have y3 : w1a.cell? ⟨B, 3, none⟩ = some (.int .i64 d.n) := Blk.cell HB.out.2.1 3
    go_wp2_with fail
    refine (ttake_m HB.out hE d.way d.n hd HS.out.1 HS.out.2.1).mono ?_
    rintro e w2 ⟨a1, c1, rfl, hown1, hf1, hmid⟩
    clear y1 y3
    have y1 : w2.cell? ⟨B, 1, none⟩ = some (.int .i64 d.way) := Blk.cell hmid.box.1 1
    have y3 : w2.cell? ⟨B, 3, none⟩ = some (.int .i64 d.n) := Blk.cell hmid.box.1 3
    have HM := Lib.hid (And.intro hmid (And.intro hf1 hown1)); clear hmid hf1 hown1
    go_wp2_with fail
    refine (xtake_m HM.out.1 HM.out.2.1 HM.out.2.2 hE d.way d.n hd HS.out.1 HS.out.2.1 HS.out.2.2).mono ?_
    rintro e w3 ⟨a2, c2, rfl, hown1, hown2, hbb⟩
    clear y1 y3
    have HB3 := Lib.hid (And.intro hbb (And.intro hown1 hown2)); clear hbb hown1 hown2
    go_wp2_with fail
    go_loopw [12] (fun i wx => ∃ j : Nat, j ≤ N ∧ i = .int .i64 (j : Int) ∧ Below w3.heap.size w3 wx) (fun i _ => N - (intOf i).toNat)
    case atStart => exact ⟨0, Nat.zero_le _, rfl, Below.refl _ _⟩
    case round =>
    obtain ⟨j, hjN, rfl, hbx⟩ := hrel
    have HBx := Lib.hid hbx; clear hbx
    by_cases hjl : j < N
    · have hjl' : (j : Int) < (N : Int) := by omega
      have hml : j < ms.length := by rw [HS.out.2.1]; exact hjl
      obtain ⟨g1, e1, p1⟩ := strAt_own (own_below HB3.out.2.1 HBx.out) j ms[j] (List.getElem?_eq_getElem hml)
      obtain ⟨g2, e2, p2⟩ := strAt_own (own_below HB3.out.2.2 HBx.out) j ms[j] (List.getElem?_eq_getElem hml)
      generalize ms[j] = q at p1 p2
      subst e1
      subst e2
      go_wp2_with fail
      go_quiet (fail)
      go_wp2_with fail
      go_roundw
      case rel => exact ⟨j + 1, by omega, by go_num, HBx.out.trans (below_drewN' _)⟩
      case measure => simp [intOf]; omega
    · have hjl' : ¬ (j : Int) < (N : Int) := by omega
      go_wp2
      go_ret
      exact ⟨rfl, x', gone', HB3.out.1.below HBx.out⟩
  · have hr := HR.out
    have hr : (d.kd : Int) % 8 = 5 := hr

    go_wp2_with fail
    refine (ttick_m HB.out).mono ?_
    rintro e w2 ⟨rfl, hmid⟩
    have HM := Lib.hid hmid; clear hmid
    obtain ⟨v0, hv0⟩ : ∃ v, xtickA gone = v := ⟨_, rfl⟩
    obtain ⟨v1, hv1⟩ : ∃ v, xtickD gone = v := ⟨_, rfl⟩
    have HV := Lib.hid (And.intro hv0 hv1)
    rw [hv0, hv1]
    clear hv0 hv1
    go_wp2_with fail
    have hxt := xtick_m HM.out hE
    rw [HV.out.1, HV.out.2] at hxt
    refine hxt.mono ?_
    clear hxt
    rintro e w3 ⟨rfl, hbb⟩
    have HB3 := Lib.hid hbb; clear hbb
    cases v0
    · cases v1
      · go_wp2
        go_ret
        exact ⟨rfl, _, _, HB3.out⟩
      · go_wp2
        go_ret
        exact ⟨rfl, _, _, HB3.out⟩
    · cases v1
      · go_wp2
        go_ret
        exact ⟨rfl, _, _, HB3.out⟩
      · go_wp2
        go_ret
        exact ⟨rfl, _, _, HB3.out⟩
  · have hr := HR.out
    have hr : (d.kd : Int) % 8 = 6 := hr

    go_wp2_with fail
    refine (theard_m HB.out).mono ?_
    rintro e w2 ⟨rfl, hmid⟩
    have HM := Lib.hid hmid; clear hmid
    go_wp2_with fail
    refine (xheard_m HM.out).mono ?_
    rintro e w3 ⟨rfl, hbb⟩
    have HB3 := Lib.hid hbb; clear hbb
    go_wp2
    go_ret
    exact ⟨rfl, _, _, HB3.out⟩
  · have hr := HR.out
    have hr : (d.kd : Int) % 8 = 7 := hr

    go_wp2_with fail
    refine (treset_m HB.out hE).mono ?_
    rintro e w2 ⟨rfl, hmid⟩
    have HM := Lib.hid hmid; clear hmid
    go_wp2_with fail
    refine (xreset_m HM.out hE).mono ?_
    rintro e w3 ⟨rfl, hbb⟩
    have HB3 := Lib.hid hbb; clear hbb
    go_wp2
    go_ret
    exact ⟨rfl, _, _, HB3.out⟩
end Go.Proofs.YtkfbhiggnnjoiaaDoor
