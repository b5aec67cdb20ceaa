/- merge: MergeKeys. -/
import Derived.Test.YtfolgcgkikkihaaDoorMgEx
import Derived.Test.YtfolgcgkikkihaaDoorMgKyP
import Derived.Test.YtfolgcgkikkihaaDoorNmSame
namespace Go.Proofs.YtfolgcgkikkihaaDoor
open Go.RowKit Go.Lib

set_option maxRecDepth 100000 in
set_option maxHeartbeats 8000000 in
theorem mkeys_walk (a0 : Option Addr) (l0 c0 : Nat) (ms0 : List Nat) (a1 : Option Addr) (l1 c1 : Nat) (ms1 : List Nat) (a2 : Option Addr) (l2 c2 : Nat) (ms2 : List Nat) (A F Z : Addr) (W : World) (hg : Gm A F Z W) (hs0 : BytesIn W a0 ms0) (hl0 : ms0.length = l0) (hm0 : l0 ≤ 9223372036854775807) (hb0 : ∀ x ∈ ms0, x < 256) (hs1 : BytesIn W a1 ms1) (hl1 : ms1.length = l1) (hm1 : l1 ≤ 9223372036854775807) (hb1 : ∀ x ∈ ms1, x < 256) (hs2 : BytesIn W a2 ms2) (hl2 : ms2.length = l2) (hm2 : l2 ≤ 9223372036854775807) (hb2 : ∀ x ∈ ms2, x < 256) : Calls Tryd.prog 6 #[.slice a0 l0 c0, .slice a1 l1 c1, .slice a2 l2 c2] W fun e w' => e = .returned (.bool true) ∧ Below W.heap.size W w' := by
  have HFx := Lib.hid (few_set ms0)
  obtain ⟨xa, xl, hO⟩ : ∃ xa xl, nOf okN (nmcL ms0 10) = ⟨xa, xl⟩ := ⟨_, _, rfl⟩
  have HOx := Lib.hid hO
  rw [hO] at HFx
  clear hO
  have HFy := Lib.hid (few_set ms1)
  obtain ⟨ya, yl, hO⟩ : ∃ ya yl, nOf okN (nmcL ms1 10) = ⟨ya, yl⟩ := ⟨_, _, rfl⟩
  have HOy := Lib.hid hO
  rw [hO] at HFy
  clear hO
  have HFz := Lib.hid (few_set ms2)
  obtain ⟨za, zl, hO⟩ : ∃ za zl, nOf okN (nmcL ms2 10) = ⟨za, zl⟩ := ⟨_, _, rfl⟩
  have HOz := Lib.hid hO
  rw [hO] at HFz
  clear hO
  have HE1 := Lib.hid (cw1_set HFx.out)
  have HE2 := Lib.hid (cw2_set HFx.out HFy.out)
  have HE3 := Lib.hid (cw3_set HFx.out HFy.out HFz.out)
  have HA0 := Lib.hid hs0
  clear hs0
  have HB0 := Lib.hid (And.intro hl0 (And.intro hm0 hb0))
  clear hl0 hm0 hb0
  have HA1 := Lib.hid hs1
  clear hs1
  have HB1 := Lib.hid (And.intro hl1 (And.intro hm1 hb1))
  clear hl1 hm1 hb1
  have HA2 := Lib.hid hs2
  clear hs2
  have HB2 := Lib.hid (And.intro hl2 (And.intro hm2 hb2))
  clear hl2 hm2 hb2
  have HG0 := Lib.hid hg
  clear hg
  go_enter Tryd.func6, Tryd.ntmps6
  go_wp2_with fail
  refine (mg_examples A F Z W HG0.out).mono ?_
  rintro e wB ⟨rfl, hb⟩
  dsimp only
  have HG := Lib.hid (HG0.out.later hb)
  have HB := Lib.hid hb
  have HA0 := Lib.hid (HA0.out.later hb)
  have HA1 := Lib.hid (HA1.out.later hb)
  have HA2 := Lib.hid (HA2.out.later hb)
  clear HG0 hb
  go_wp2_with fail
  refine (mgNew_any wB).mono ?_
  rintro e wN ⟨m, rfl, hm, hb⟩
  dsimp only
  have HM := Lib.hid hm
  have HK := Lib.hid (KeptM.of (B := wB.heap.size) hb)
  have HA0 := Lib.hid (HA0.out.later hb)
  have HA1 := Lib.hid (HA1.out.later hb)
  have HA2 := Lib.hid (HA2.out.later hb)
  clear hm hb
  go_wp2_with fail
  refine (few10_any HA0.out HB0.out.1 HB0.out.2.1 (m := 10) (by decide) HB0.out.2.2).mono ?_
  rintro e w1 ⟨fa, fc, rfl, FO, hb⟩
  dsimp only
  clear HA0 HB0
  have HM := Lib.hid (HM.out.later hb)
  have HK := Lib.hid (HK.out.trans (.of hb))
  have HA1 := Lib.hid (HA1.out.later hb)
  have HA2 := Lib.hid (HA2.out.later hb)
  have HTf := Lib.hid (show TsAt w1 (.slice fa (nmcL ms0 10).length fc) (nmcL ms0 10) from RowV.own FO)
  clear FO hb
  go_wp2_with fail
  refine (of_any HTf.out (nmc_fit ms0 10 (by decide)) HOx.out).mono ?_
  rintro e w2 ⟨ox, dx, rfl, ht, hb⟩
  dsimp only
  have HM := Lib.hid (HM.out.later hb)
  have HK := Lib.hid (HK.out.trans (.of hb))
  have HA1 := Lib.hid (HA1.out.later hb)
  have HA2 := Lib.hid (HA2.out.later hb)
  have HTx := Lib.hid ht
  clear ht hb HTf
  go_wp2_with fail
  refine (few10_any HA1.out HB1.out.1 HB1.out.2.1 (m := 10) (by decide) HB1.out.2.2).mono ?_
  rintro e w3 ⟨fa, fc, rfl, FO, hb⟩
  dsimp only
  clear HA1 HB1
  have HM := Lib.hid (HM.out.later hb)
  have HK := Lib.hid (HK.out.trans (.of hb))
  have HA2 := Lib.hid (HA2.out.later hb)
  have HTx := Lib.hid (HTx.out.later hb)
  have HTf := Lib.hid (show TsAt w3 (.slice fa (nmcL ms1 10).length fc) (nmcL ms1 10) from RowV.own FO)
  clear FO hb
  go_wp2_with fail
  refine (of_any HTf.out (nmc_fit ms1 10 (by decide)) HOy.out).mono ?_
  rintro e w4 ⟨oy, dy, rfl, ht, hb⟩
  dsimp only
  have HM := Lib.hid (HM.out.later hb)
  have HK := Lib.hid (HK.out.trans (.of hb))
  have HA2 := Lib.hid (HA2.out.later hb)
  have HTx := Lib.hid (HTx.out.later hb)
  have HTy := Lib.hid ht
  clear ht hb HTf
  go_wp2_with fail
  refine (few10_any HA2.out HB2.out.1 HB2.out.2.1 (m := 10) (by decide) HB2.out.2.2).mono ?_
  rintro e w5 ⟨fa, fc, rfl, FO, hb⟩
  dsimp only
  clear HA2 HB2
  have HM := Lib.hid (HM.out.later hb)
  have HK := Lib.hid (HK.out.trans (.of hb))
  have HTx := Lib.hid (HTx.out.later hb)
  have HTy := Lib.hid (HTy.out.later hb)
  have HTf := Lib.hid (show TsAt w5 (.slice fa (nmcL ms2 10).length fc) (nmcL ms2 10) from RowV.own FO)
  clear FO hb
  go_wp2_with fail
  refine (of_any HTf.out (nmc_fit ms2 10 (by decide)) HOz.out).mono ?_
  rintro e w6 ⟨oz, dz, rfl, ht, hb⟩
  dsimp only
  have HM := Lib.hid (HM.out.later hb)
  have HK := Lib.hid (HK.out.trans (.of hb))
  have HTx := Lib.hid (HTx.out.later hb)
  have HTy := Lib.hid (HTy.out.later hb)
  have HTz := Lib.hid ht
  clear ht hb HTf
  obtain ⟨x7, hw8, hb9, hq11⟩ := alloc_new w6 #[.bool xa, .slice ox xl.length dx, .bool ya, .slice oy yl.length dy, .bool za, .slice oz zl.length dz] 28
  have HM := Lib.hid (HM.out.later hb9)
  have HK := Lib.hid (HK.out.trans (.of hb9))
  have HTx := Lib.hid (HTx.out.later hb9)
  have HTy := Lib.hid (HTy.out.later hb9)
  have HTz := Lib.hid (HTz.out.later hb9)
  have HQ := Lib.hid hq11
  have HW10 := Lib.hid hw8
  have HZ12 := Lib.hid (show w6.heap.size + 1 = x7.heap.size by rw [← hw8]; simp)
  clear hw8 hb9 hq11
  have hs := set_any (base := wB.heap.size) (m := m) (W := W0) (i := 1) (k := 2) (sa := xa) (sl := xl) (a1 := ox) (c1 := dx) HM.out (HK.out.gm HG.out) HTx.out HFx.out.r (by have := HFx.out.len; omega) HFx.out.l
  have HS := Lib.hid (show Calls Tryd.prog 12 #[.pointer (some ⟨m, 0, none⟩), .int .i64 1, .int .i64 2, .agg #[.bool xa, .slice ox xl.length dx]] x7 (SetIs wB.heap.size m W0 1 2 ⟨xa, xl⟩ x7) from hs)
  clear hs
  have cx0 : x7.cell? ⟨w6.heap.size, 0, none⟩ = some (.bool xa) := HQ.out.cell 0
  have cx1 : x7.cell? ⟨w6.heap.size, 1, none⟩ = some (.slice ox xl.length dx) := HQ.out.cell 1
  have cy0 : x7.cell? ⟨w6.heap.size, 2, none⟩ = some (.bool ya) := HQ.out.cell 2
  have cy1 : x7.cell? ⟨w6.heap.size, 3, none⟩ = some (.slice oy yl.length dy) := HQ.out.cell 3
  have cz0 : x7.cell? ⟨w6.heap.size, 4, none⟩ = some (.bool za) := HQ.out.cell 4
  have cz1 : x7.cell? ⟨w6.heap.size, 5, none⟩ = some (.slice oz zl.length dz) := HQ.out.cell 5
  go_wp2_with (rw [HW10.out])
  refine wp_loop_rounds 4 ?_
  rw [rounds_succ]
  go_wp2_with fail
  refine HS.out.mono ?_
  rintro e w13 ⟨v1, v2, rfl, hv1, hv2, hm2, hk2⟩
  rw [HE1.out.1]
  rw [HE1.out.2] at hm2
  obtain ⟨oa1, oc1, rfl, -⟩ := hv1.shape
  obtain ⟨oa2, oc2, rfl, -⟩ := hv2.shape
  obtain ⟨g1, hg1⟩ : ∃ g, (setM W0 1 2 ⟨xa, xl⟩).all = g := ⟨_, rfl⟩
  obtain ⟨g2, hg2⟩ : ∃ g, (setL W0 1 2 ⟨xa, xl⟩).all = g := ⟨_, rfl⟩
  obtain ⟨l1, hl1⟩ : ∃ g, (setM W0 1 2 ⟨xa, xl⟩).ns.length = g := ⟨_, rfl⟩
  obtain ⟨l2, hl2⟩ : ∃ g, (setL W0 1 2 ⟨xa, xl⟩).ns.length = g := ⟨_, rfl⟩
  rw [hg1, hg2, hl1, hl2]
  clear hg1 hg2 hl1 hl2 hv1 hv2
  dsimp only
  have HM := Lib.hid hm2
  have HK := Lib.hid (HK.out.trans hk2)
  have HQ := Lib.hid (hk2.blk HQ.out)
  have HTx := Lib.hid (hk2.ts HTx.out)
  have HTy := Lib.hid (hk2.ts HTy.out)
  have HTz := Lib.hid (hk2.ts HTz.out)
  clear hm2 hk2 HS
  clear cx0 cx1 cy0 cy1 cz0 cz1
  obtain ⟨x14, hw15, hb16, hq18⟩ := alloc_new w13 #[.bool g1, .slice oa1 l1 oc1] 28
  have HM := Lib.hid (HM.out.later hb16)
  have HK := Lib.hid (HK.out.trans (.of hb16))
  have HQ := Lib.hid (HQ.out.later hb16)
  have HTx := Lib.hid (HTx.out.later hb16)
  have HTy := Lib.hid (HTy.out.later hb16)
  have HTz := Lib.hid (HTz.out.later hb16)
  have HW17 := Lib.hid hw15
  have HZ19 := Lib.hid (show w13.heap.size + 1 = x14.heap.size by rw [← hw15]; simp)
  clear hw15 hb16 hq18
  obtain ⟨x20, hw21, hb22, hq24⟩ := alloc_new x14 #[.bool g2, .slice oa2 l2 oc2] 28
  have HM := Lib.hid (HM.out.later hb22)
  have HK := Lib.hid (HK.out.trans (.of hb22))
  have HQ := Lib.hid (HQ.out.later hb22)
  have HTx := Lib.hid (HTx.out.later hb22)
  have HTy := Lib.hid (HTy.out.later hb22)
  have HTz := Lib.hid (HTz.out.later hb22)
  have HW23 := Lib.hid hw21
  have HZ25 := Lib.hid (show x14.heap.size + 1 = x20.heap.size by rw [← hw21]; simp)
  clear hw21 hb22 hq24
  have hs := set_any (base := wB.heap.size) (m := m) (W := (cW1 (⟨xa, xl⟩ : Ns))) (i := 2) (k := 2) (sa := ya) (sl := yl) (a1 := oy) (c1 := dy) HM.out (HK.out.gm HG.out) HTy.out HFy.out.r (by have := HFy.out.len; omega) HFy.out.l
  have HS := Lib.hid (show Calls Tryd.prog 12 #[.pointer (some ⟨m, 0, none⟩), .int .i64 2, .int .i64 2, .agg #[.bool ya, .slice oy yl.length dy]] x20 (SetIs wB.heap.size m (cW1 (⟨xa, xl⟩ : Ns)) 2 2 ⟨ya, yl⟩ x20) from hs)
  clear hs
  have cx0 : x20.cell? ⟨w6.heap.size, 0, none⟩ = some (.bool xa) := HQ.out.cell 0
  have cx1 : x20.cell? ⟨w6.heap.size, 1, none⟩ = some (.slice ox xl.length dx) := HQ.out.cell 1
  have cy0 : x20.cell? ⟨w6.heap.size, 2, none⟩ = some (.bool ya) := HQ.out.cell 2
  have cy1 : x20.cell? ⟨w6.heap.size, 3, none⟩ = some (.slice oy yl.length dy) := HQ.out.cell 3
  have cz0 : x20.cell? ⟨w6.heap.size, 4, none⟩ = some (.bool za) := HQ.out.cell 4
  have cz1 : x20.cell? ⟨w6.heap.size, 5, none⟩ = some (.slice oz zl.length dz) := HQ.out.cell 5
  go_wp2_with (rw [HW17.out, HW23.out, HZ19.out])
  rw [rounds_succ]
  go_wp2_with fail
  refine HS.out.mono ?_
  rintro e w26 ⟨v1, v2, rfl, hv1, hv2, hm2, hk2⟩
  rw [HE2.out.1]
  rw [HE2.out.2] at hm2
  obtain ⟨oa1, oc1, rfl, -⟩ := hv1.shape
  obtain ⟨oa2, oc2, rfl, -⟩ := hv2.shape
  obtain ⟨g1, hg1⟩ : ∃ g, (setM (cW1 (⟨xa, xl⟩ : Ns)) 2 2 ⟨ya, yl⟩).all = g := ⟨_, rfl⟩
  obtain ⟨g2, hg2⟩ : ∃ g, (setL (cW1 (⟨xa, xl⟩ : Ns)) 2 2 ⟨ya, yl⟩).all = g := ⟨_, rfl⟩
  obtain ⟨l1, hl1⟩ : ∃ g, (setM (cW1 (⟨xa, xl⟩ : Ns)) 2 2 ⟨ya, yl⟩).ns.length = g := ⟨_, rfl⟩
  obtain ⟨l2, hl2⟩ : ∃ g, (setL (cW1 (⟨xa, xl⟩ : Ns)) 2 2 ⟨ya, yl⟩).ns.length = g := ⟨_, rfl⟩
  rw [hg1, hg2, hl1, hl2]
  clear hg1 hg2 hl1 hl2 hv1 hv2
  dsimp only
  have HM := Lib.hid hm2
  have HK := Lib.hid (HK.out.trans hk2)
  have HQ := Lib.hid (hk2.blk HQ.out)
  have HTx := Lib.hid (hk2.ts HTx.out)
  have HTy := Lib.hid (hk2.ts HTy.out)
  have HTz := Lib.hid (hk2.ts HTz.out)
  clear hm2 hk2 HS
  clear cx0 cx1 cy0 cy1 cz0 cz1
  obtain ⟨x27, hw28, hb29, hq31⟩ := alloc_new w26 #[.bool g1, .slice oa1 l1 oc1] 28
  have HM := Lib.hid (HM.out.later hb29)
  have HK := Lib.hid (HK.out.trans (.of hb29))
  have HQ := Lib.hid (HQ.out.later hb29)
  have HTx := Lib.hid (HTx.out.later hb29)
  have HTy := Lib.hid (HTy.out.later hb29)
  have HTz := Lib.hid (HTz.out.later hb29)
  have HW30 := Lib.hid hw28
  have HZ32 := Lib.hid (show w26.heap.size + 1 = x27.heap.size by rw [← hw28]; simp)
  clear hw28 hb29 hq31
  obtain ⟨x33, hw34, hb35, hq37⟩ := alloc_new x27 #[.bool g2, .slice oa2 l2 oc2] 28
  have HM := Lib.hid (HM.out.later hb35)
  have HK := Lib.hid (HK.out.trans (.of hb35))
  have HQ := Lib.hid (HQ.out.later hb35)
  have HTx := Lib.hid (HTx.out.later hb35)
  have HTy := Lib.hid (HTy.out.later hb35)
  have HTz := Lib.hid (HTz.out.later hb35)
  have HW36 := Lib.hid hw34
  have HZ38 := Lib.hid (show x27.heap.size + 1 = x33.heap.size by rw [← hw34]; simp)
  clear hw34 hb35 hq37
  have hs := set_any (base := wB.heap.size) (m := m) (W := (cW2 (⟨xa, xl⟩ : Ns) (⟨ya, yl⟩ : Ns))) (i := 3) (k := 2) (sa := za) (sl := zl) (a1 := oz) (c1 := dz) HM.out (HK.out.gm HG.out) HTz.out HFz.out.r (by have := HFz.out.len; omega) HFz.out.l
  have HS := Lib.hid (show Calls Tryd.prog 12 #[.pointer (some ⟨m, 0, none⟩), .int .i64 3, .int .i64 2, .agg #[.bool za, .slice oz zl.length dz]] x33 (SetIs wB.heap.size m (cW2 (⟨xa, xl⟩ : Ns) (⟨ya, yl⟩ : Ns)) 3 2 ⟨za, zl⟩ x33) from hs)
  clear hs
  have cx0 : x33.cell? ⟨w6.heap.size, 0, none⟩ = some (.bool xa) := HQ.out.cell 0
  have cx1 : x33.cell? ⟨w6.heap.size, 1, none⟩ = some (.slice ox xl.length dx) := HQ.out.cell 1
  have cy0 : x33.cell? ⟨w6.heap.size, 2, none⟩ = some (.bool ya) := HQ.out.cell 2
  have cy1 : x33.cell? ⟨w6.heap.size, 3, none⟩ = some (.slice oy yl.length dy) := HQ.out.cell 3
  have cz0 : x33.cell? ⟨w6.heap.size, 4, none⟩ = some (.bool za) := HQ.out.cell 4
  have cz1 : x33.cell? ⟨w6.heap.size, 5, none⟩ = some (.slice oz zl.length dz) := HQ.out.cell 5
  go_wp2_with (rw [HW30.out, HW36.out, HZ32.out])
  rw [rounds_succ]
  go_wp2_with fail
  refine HS.out.mono ?_
  rintro e w39 ⟨v1, v2, rfl, hv1, hv2, hm2, hk2⟩
  rw [HE3.out.1]
  rw [HE3.out.2] at hm2
  obtain ⟨oa1, oc1, rfl, -⟩ := hv1.shape
  obtain ⟨oa2, oc2, rfl, -⟩ := hv2.shape
  obtain ⟨g1, hg1⟩ : ∃ g, (setM (cW2 (⟨xa, xl⟩ : Ns) (⟨ya, yl⟩ : Ns)) 3 2 ⟨za, zl⟩).all = g := ⟨_, rfl⟩
  obtain ⟨g2, hg2⟩ : ∃ g, (setL (cW2 (⟨xa, xl⟩ : Ns) (⟨ya, yl⟩ : Ns)) 3 2 ⟨za, zl⟩).all = g := ⟨_, rfl⟩
  obtain ⟨l1, hl1⟩ : ∃ g, (setM (cW2 (⟨xa, xl⟩ : Ns) (⟨ya, yl⟩ : Ns)) 3 2 ⟨za, zl⟩).ns.length = g := ⟨_, rfl⟩
  obtain ⟨l2, hl2⟩ : ∃ g, (setL (cW2 (⟨xa, xl⟩ : Ns) (⟨ya, yl⟩ : Ns)) 3 2 ⟨za, zl⟩).ns.length = g := ⟨_, rfl⟩
  rw [hg1, hg2, hl1, hl2]
  clear hg1 hg2 hl1 hl2 hv1 hv2
  dsimp only
  have HM := Lib.hid hm2
  have HK := Lib.hid (HK.out.trans hk2)
  have HQ := Lib.hid (hk2.blk HQ.out)
  have HTx := Lib.hid (hk2.ts HTx.out)
  have HTy := Lib.hid (hk2.ts HTy.out)
  have HTz := Lib.hid (hk2.ts HTz.out)
  clear hm2 hk2 HS
  clear cx0 cx1 cy0 cy1 cz0 cz1
  obtain ⟨x40, hw41, hb42, hq44⟩ := alloc_new w39 #[.bool g1, .slice oa1 l1 oc1] 28
  have HM := Lib.hid (HM.out.later hb42)
  have HK := Lib.hid (HK.out.trans (.of hb42))
  have HQ := Lib.hid (HQ.out.later hb42)
  have HTx := Lib.hid (HTx.out.later hb42)
  have HTy := Lib.hid (HTy.out.later hb42)
  have HTz := Lib.hid (HTz.out.later hb42)
  have HW43 := Lib.hid hw41
  have HZ45 := Lib.hid (show w39.heap.size + 1 = x40.heap.size by rw [← hw41]; simp)
  clear hw41 hb42 hq44
  obtain ⟨x46, hw47, hb48, hq50⟩ := alloc_new x40 #[.bool g2, .slice oa2 l2 oc2] 28
  have HM := Lib.hid (HM.out.later hb48)
  have HK := Lib.hid (HK.out.trans (.of hb48))
  have HQ := Lib.hid (HQ.out.later hb48)
  have HTx := Lib.hid (HTx.out.later hb48)
  have HTy := Lib.hid (HTy.out.later hb48)
  have HTz := Lib.hid (HTz.out.later hb48)
  have HW49 := Lib.hid hw47
  have HZ51 := Lib.hid (show x40.heap.size + 1 = x46.heap.size by rw [← hw47]; simp)
  clear hw47 hb48 hq50
  clear HE1 HE2 HE3
  obtain ⟨W3, hW3⟩ : ∃ W3 : Wants, (cW3 (⟨xa, xl⟩ : Ns) (⟨ya, yl⟩ : Ns) (⟨za, zl⟩ : Ns)) = W3 := ⟨_, rfl⟩
  have HKL := Lib.hid (show keyL W3 2 = (nList (uni W3 2)).map (keyT W3 2) from rfl)
  have hU := cw3_u HFx.out HFy.out HFz.out
  have hKT := fun x => cw3_key HFx.out HFy.out HFz.out x
  have hn1 := key_none (X := (⟨xa, xl⟩ : Ns)) (Y := (⟨ya, yl⟩ : Ns)) (Z := (⟨za, zl⟩ : Ns)) (k := 1) (by decide)
  have hn9 := key_none (X := (⟨xa, xl⟩ : Ns)) (Y := (⟨ya, yl⟩ : Ns)) (Z := (⟨za, zl⟩ : Ns)) (k := 9) (by decide)
  rw [hW3] at HM hU hKT hn1 hn9
  clear hW3
  have hmid := mid_union3 HFx.out HFy.out HFz.out
  obtain ⟨ua, ul, hu⟩ : ∃ ua ul, nUnion [(⟨xa, xl⟩ : Ns), (⟨ya, yl⟩ : Ns), (⟨za, zl⟩ : Ns)] = ⟨ua, ul⟩ := ⟨_, _, rfl⟩
  rw [hu] at hU hmid
  rw [hU] at HKL
  have HU := Lib.hid hU
  have HKT := Lib.hid hKT
  have Hn1 := Lib.hid hn1
  have Hn9 := Lib.hid hn9
  have Hmid := Lib.hid hmid
  have Hu := Lib.hid hu
  clear hU hKT hn1 hn9 hmid hu
  go_wp2_with (rw [HW43.out, HW49.out, HZ45.out])
  rw [rounds_succ]
  go_wp2_with fail
  refine (keys_any HM.out ⟨by decide, by decide⟩).mono ?_
  rintro e wK ⟨ka, kc, rfl, ht, hb⟩
  rw [HKL.out] at ht ⊢
  dsimp only
  have HM := Lib.hid (HM.out.later hb)
  have HK := Lib.hid (HK.out.trans (.of hb))
  have HQ := Lib.hid (HQ.out.later hb)
  have HTx := Lib.hid (HTx.out.later hb)
  have HTy := Lib.hid (HTy.out.later hb)
  have HTz := Lib.hid (HTz.out.later hb)
  obtain ⟨UL, hUL⟩ : ∃ UL, nList (⟨ua, ul⟩ : Ns) = UL := ⟨_, rfl⟩
  rw [hUL] at ht HKL Hmid ⊢
  rw [List.length_map]
  have HUL := Lib.hid hUL
  clear hUL
  have HTk := Lib.hid ht
  clear ht hb
  go_wp2_with fail
  obtain ⟨w1001, hw1002, hb1003⟩ := drew_new wK
  have q1004 := HM.out.later hb1003
  have q1005 := HK.out.later hb1003
  have q1006 := HQ.out.later hb1003
  have q1007 := HTx.out.later hb1003
  have q1008 := HTy.out.later hb1003
  have q1009 := HTz.out.later hb1003
  have q1010 := HTk.out.later hb1003
  refine wp_region_held_drew (S := (fun w' => w'.cell? ⟨w6.heap.size, 0, none⟩ = some (.bool xa) ∧ w'.cell? ⟨w6.heap.size, 1, none⟩ = some (.slice ox xl.length dx) ∧ w'.cell? ⟨w6.heap.size, 2, none⟩ = some (.bool ya) ∧ w'.cell? ⟨w6.heap.size, 3, none⟩ = some (.slice oy yl.length dy) ∧ w'.cell? ⟨w6.heap.size, 4, none⟩ = some (.bool za) ∧ w'.cell? ⟨w6.heap.size, 5, none⟩ = some (.slice oz zl.length dz) ∧ True)) (by kernel_rfl) (by rw [hw1002]; exact ⟨q1006.cell 0, q1006.cell 1, q1006.cell 2, q1006.cell 3, q1006.cell 4, q1006.cell 5, trivial⟩) (fun hHeld => ?_)
  rw [hw1002] at hHeld ⊢
  refine wpAnyH_take (i := 0) (oi := { dst := some 57, op := Op.move (Operand.tmp 9), type := 53, pos := "keeps.go:113", after := #[], guard := none }) (v := ?v1001) rfl (by kernel_rfl) (by kernel_rfl) (by kernel_rfl) (fun _ _ _ h => h) (Or.inl ⟨by rfl, ?hy1001⟩) (by assumption) ?rest1001
  case hy1001 => (intro w1 hSw; (try dsimp only at hSw); obtain ⟨h0, h1, h2, h3, h4, h5, -⟩ := hSw; go_simp; try with_reducible rfl)
  try simp only [Act.put, List.setIfInBounds_toArray, List.set_cons_zero, List.set_cons_succ]
  refine wpAnyH_take (i := 1) (oi := { dst := some 58, op := Op.indexAddr 53 (Operand.tmp 57) (Operand.const (Value.int IntKind.i64 0)), type := 0, pos := "keeps.go:113", after := #[{ on := 0, ground := Ground.data }], guard := none }) (v := ?v1002) rfl (by kernel_rfl) (by kernel_rfl) (by kernel_rfl) (fun _ _ _ h => h) (Or.inl ⟨by rfl, ?hy1002⟩) (by assumption) ?rest1002
  case hy1002 => (intro w1 hSw; (try dsimp only at hSw); obtain ⟨h0, h1, h2, h3, h4, h5, -⟩ := hSw; go_simp; try with_reducible rfl)
  try simp only [Act.put, List.setIfInBounds_toArray, List.set_cons_zero, List.set_cons_succ]
  refine wpAnyH_take (i := 2) (oi := { dst := some 59, op := Op.load 28 (Operand.tmp 58), type := 28, pos := "keeps.go:113", after := #[{ on := 1, ground := Ground.data }], guard := none }) (v := ?v1003) rfl (by kernel_rfl) (by kernel_rfl) (by kernel_rfl) (fun _ _ _ h => h) (Or.inl ⟨by rfl, ?hy1003⟩) (by assumption) ?rest1003
  case hy1003 => (intro w1 hSw; (try dsimp only at hSw); obtain ⟨h0, h1, h2, h3, h4, h5, -⟩ := hSw; go_simp; try with_reducible rfl)
  try simp only [Act.put, List.setIfInBounds_toArray, List.set_cons_zero, List.set_cons_succ]
  refine wpAnyH_take (i := 3) (oi := { dst := some 60, op := Op.move (Operand.tmp 9), type := 53, pos := "keeps.go:113", after := #[], guard := none }) (v := ?v1004) rfl (by kernel_rfl) (by kernel_rfl) (by kernel_rfl) (fun _ _ _ h => h) (Or.inl ⟨by rfl, ?hy1004⟩) (by assumption) ?rest1004
  case hy1004 => (intro w1 hSw; (try dsimp only at hSw); obtain ⟨h0, h1, h2, h3, h4, h5, -⟩ := hSw; go_simp; try with_reducible rfl)
  try simp only [Act.put, List.setIfInBounds_toArray, List.set_cons_zero, List.set_cons_succ]
  refine wpAnyH_take (i := 4) (oi := { dst := some 61, op := Op.indexAddr 53 (Operand.tmp 60) (Operand.const (Value.int IntKind.i64 1)), type := 0, pos := "keeps.go:113", after := #[{ on := 3, ground := Ground.data }], guard := none }) (v := ?v1005) rfl (by kernel_rfl) (by kernel_rfl) (by kernel_rfl) (fun _ _ _ h => h) (Or.inl ⟨by rfl, ?hy1005⟩) (by assumption) ?rest1005
  case hy1005 => (intro w1 hSw; (try dsimp only at hSw); obtain ⟨h0, h1, h2, h3, h4, h5, -⟩ := hSw; go_simp; try with_reducible rfl)
  try simp only [Act.put, List.setIfInBounds_toArray, List.set_cons_zero, List.set_cons_succ]
  refine wpAnyH_take (i := 5) (oi := { dst := some 62, op := Op.load 28 (Operand.tmp 61), type := 28, pos := "keeps.go:113", after := #[{ on := 4, ground := Ground.data }], guard := none }) (v := ?v1006) rfl (by kernel_rfl) (by kernel_rfl) (by kernel_rfl) (fun _ _ _ h => h) (Or.inl ⟨by rfl, ?hy1006⟩) (by assumption) ?rest1006
  case hy1006 => (intro w1 hSw; (try dsimp only at hSw); obtain ⟨h0, h1, h2, h3, h4, h5, -⟩ := hSw; go_simp; try with_reducible rfl)
  try simp only [Act.put, List.setIfInBounds_toArray, List.set_cons_zero, List.set_cons_succ]
  refine wpAnyH_take (i := 6) (oi := { dst := some 63, op := Op.move (Operand.tmp 9), type := 53, pos := "keeps.go:113", after := #[], guard := none }) (v := ?v1007) rfl (by kernel_rfl) (by kernel_rfl) (by kernel_rfl) (fun _ _ _ h => h) (Or.inl ⟨by rfl, ?hy1007⟩) (by assumption) ?rest1007
  case hy1007 => (intro w1 hSw; (try dsimp only at hSw); obtain ⟨h0, h1, h2, h3, h4, h5, -⟩ := hSw; go_simp; try with_reducible rfl)
  try simp only [Act.put, List.setIfInBounds_toArray, List.set_cons_zero, List.set_cons_succ]
  refine wpAnyH_take (i := 7) (oi := { dst := some 64, op := Op.indexAddr 53 (Operand.tmp 63) (Operand.const (Value.int IntKind.i64 2)), type := 0, pos := "keeps.go:113", after := #[{ on := 6, ground := Ground.data }], guard := none }) (v := ?v1008) rfl (by kernel_rfl) (by kernel_rfl) (by kernel_rfl) (fun _ _ _ h => h) (Or.inl ⟨by rfl, ?hy1008⟩) (by assumption) ?rest1008
  case hy1008 => (intro w1 hSw; (try dsimp only at hSw); obtain ⟨h0, h1, h2, h3, h4, h5, -⟩ := hSw; go_simp; try with_reducible rfl)
  try simp only [Act.put, List.setIfInBounds_toArray, List.set_cons_zero, List.set_cons_succ]
  refine wpAnyH_take (i := 8) (oi := { dst := some 65, op := Op.load 28 (Operand.tmp 64), type := 28, pos := "keeps.go:113", after := #[{ on := 7, ground := Ground.data }], guard := none }) (v := ?v1009) rfl (by kernel_rfl) (by kernel_rfl) (by kernel_rfl) (fun _ _ _ h => h) (Or.inl ⟨by rfl, ?hy1009⟩) (by assumption) ?rest1009
  case hy1009 => (intro w1 hSw; (try dsimp only at hSw); obtain ⟨h0, h1, h2, h3, h4, h5, -⟩ := hSw; go_simp; try with_reducible rfl)
  try simp only [Act.put, List.setIfInBounds_toArray, List.set_cons_zero, List.set_cons_succ]
  refine wpAnyH_ready (rs := [9]) (by kernel_rfl) (by simp) ?_
  refine AllReadyH.cons (o := { dst := some 66, op := Op.buildSlice 53 3 #[(0, Operand.tmp 59), (1, Operand.tmp 62), (2, Operand.tmp 65)], type := 53, pos := "keeps.go:113", after := #[{ on := 2, ground := Ground.data }, { on := 5, ground := Ground.data }, { on := 8, ground := Ground.data }], guard := none }) rfl (fun K hK => ?_) AllReadyH.nil
  go_simp
  obtain ⟨w1011, hw1012, hb1013, p1014⟩ := alloc_new w1001 #[.bool xa, .slice ox xl.length dx, .bool ya, .slice oy yl.length dy, .bool za, .slice oz zl.length dz] 28
  have q1015 := q1004.later hb1013
  have q1016 := q1005.later hb1013
  have q1017 := q1006.later hb1013
  have q1018 := q1007.later hb1013
  have q1019 := q1008.later hb1013
  have q1020 := q1009.later hb1013
  have q1021 := q1010.later hb1013
  rw [hw1012]
  refine hK.out _ _ (⟨q1017.cell 0, q1017.cell 1, q1017.cell 2, q1017.cell 3, q1017.cell 4, q1017.cell 5, trivial⟩) (fun hHeld => ?_)
  clear hK K
  try simp only [Act.put, List.setIfInBounds_toArray, List.set_cons_zero, List.set_cons_succ]
  refine wpAnyH_ready (rs := [10]) (by kernel_rfl) (by simp) ?_
  refine AllReadyH.cons (o := { dst := some 67, op := Op.call { callee := Callee.value (Operand.func 14), args := #[Operand.tmp 66], argTypes := #[53] }, type := 28, pos := "keeps.go:113", after := #[{ on := 9, ground := Ground.data }], guard := none }) rfl (fun K hK => ?_) AllReadyH.nil
  go_simp
  refine (union_any (n := 3) (mk_sets3 p1014 q1018 rfl q1019 rfl q1020 rfl) rfl (mk_fit3 HFx.out HFy.out HFz.out) Hu.out).mono ?_
  rintro e w1023 ⟨oau, odu, rfl, h1022, hb1024⟩
  have q1025 := q1015.later hb1024
  have q1026 := q1016.later hb1024
  have q1027 := q1017.later hb1024
  have q1028 := q1018.later hb1024
  have q1029 := q1019.later hb1024
  have q1030 := q1020.later hb1024
  have q1031 := q1021.later hb1024
  have q1032 := p1014.later hb1024
  refine hK.out _ _ (⟨q1027.cell 0, q1027.cell 1, q1027.cell 2, q1027.cell 3, q1027.cell 4, q1027.cell 5, trivial⟩) (fun hHeld => ?_)
  clear hK K
  try simp only [Act.put, List.setIfInBounds_toArray, List.set_cons_zero, List.set_cons_succ]
  refine wpAnyH_ready (rs := [11]) (by kernel_rfl) (by simp) ?_
  refine AllReadyH.cons (o := { dst := some 68, op := Op.call { callee := Callee.value (Operand.func 26), args := #[Operand.tmp 67], argTypes := #[28] }, type := 26, pos := "keeps.go:113", after := #[{ on := 10, ground := Ground.data }, { on := 10, ground := Ground.chain }], guard := none }) rfl (fun K hK => ?_) AllReadyH.nil
  go_simp
  refine (list_any (sa := ua) (sl := ul) (L := UL) h1022 HUL.out (by have := Hmid.out.2; omega)).mono ?_
  rintro e w1033 ⟨oal, odl, rfl, ho1035, hb1034⟩
  have q1037 := q1025.later hb1034
  have q1038 := q1026.later hb1034
  have q1039 := q1027.later hb1034
  have q1040 := q1028.later hb1034
  have q1041 := q1029.later hb1034
  have q1042 := q1030.later hb1034
  have q1043 := q1031.later hb1034
  have q1044 := q1032.later hb1034
  have q1045 := h1022.later hb1034
  have q1036 : TsAt w1033 (.slice oal UL.length odl) UL := RowV.own ho1035
  refine hK.out _ _ (⟨q1039.cell 0, q1039.cell 1, q1039.cell 2, q1039.cell 3, q1039.cell 4, q1039.cell 5, trivial⟩) (fun hHeld => ?_)
  clear hK K
  try simp only [Act.put, List.setIfInBounds_toArray, List.set_cons_zero, List.set_cons_succ]
  refine wpAnyH_take (i := 12) (oi := { dst := some 15, op := Op.assign (Operand.tmp 68), type := 26, pos := "keeps.go:113", after := #[{ on := 11, ground := Ground.data }, { on := 11, ground := Ground.chain }, { on := 0, ground := Ground.phase }, { on := 1, ground := Ground.phase }, { on := 2, ground := Ground.phase }, { on := 3, ground := Ground.phase }, { on := 4, ground := Ground.phase }, { on := 5, ground := Ground.phase }, { on := 6, ground := Ground.phase }, { on := 7, ground := Ground.phase }, { on := 8, ground := Ground.phase }, { on := 9, ground := Ground.phase }, { on := 10, ground := Ground.phase }, { on := 11, ground := Ground.phase }], guard := none }) (v := ?v1010) rfl (by kernel_rfl) (by kernel_rfl) (by kernel_rfl) (fun _ _ _ h => h) (Or.inl ⟨by rfl, ?hy1010⟩) (by assumption) ?rest1010
  case hy1010 => (intro w1 hSw; (try dsimp only at hSw); obtain ⟨h0, h1, h2, h3, h4, h5, -⟩ := hSw; go_simp; try with_reducible rfl)
  try simp only [Act.put, List.setIfInBounds_toArray, List.set_cons_zero, List.set_cons_succ]
  refine wpAnyH_done (by kernel_rfl) ?_ _
  have HM := Lib.hid q1037
  have HK := Lib.hid q1038
  have HQ := Lib.hid q1039
  have HTx := Lib.hid q1040
  have HTy := Lib.hid q1041
  have HTz := Lib.hid q1042
  have HTk := Lib.hid q1043
  have HTl := Lib.hid q1036
  obtain ⟨wq, hwq⟩ : ∃ wq : World, w1033 = wq := ⟨_, rfl⟩
  rw [hwq] at HM HK HQ HTx HTy HTz HTk HTl ⊢
  clear hwq q1037 q1038 q1039 q1040 q1041 q1042 q1043 q1044 q1045 q1036
  go_wp2_with fail
  have hn64 := Hmid.out.2
  go_loopw [16] (fun vi wr => ∃ i : Nat, vi = .int .i64 (i : Int) ∧ i ≤ UL.length ∧ Below wq.heap.size wq wr) (fun vi _ => UL.length - (intOf vi).toNat)
  case atStart => exact ⟨0, rfl, Nat.zero_le _, Below.refl _ _⟩
  case round =>
    obtain ⟨i, rfl, hi, hb⟩ := hrel
    have HBI := Lib.hid hb
    have HMi := Lib.hid (HM.out.later hb)
    have HKi := Lib.hid (HK.out.later hb)
    have HQi := Lib.hid (HQ.out.later hb)
    have HTxi := Lib.hid (HTx.out.later hb)
    have HTyi := Lib.hid (HTy.out.later hb)
    have HTzi := Lib.hid (HTz.out.later hb)
    have HTki := Lib.hid (HTk.out.later hb)
    have HTli := Lib.hid (HTl.out.later hb)
    clear hb
    by_cases hlt : i < UL.length
    · have b1 : (i : Int) < (UL.length : Int) := by omega
      have b2 : IntKind.i64.wrap ((i : Int) + 1) = (i : Int) + 1 := by rw [IntKind.wrap_i64]; omega
      obtain ⟨x, hx⟩ : ∃ x, UL[i] = x := ⟨_, rfl⟩
      obtain ⟨nx, hhx⟩ : ∃ h, hitN ⟨xa, xl⟩ x = h := ⟨_, rfl⟩
      have hsx : nx ≤ 1 := by rw [← hhx]; exact hit_le HFx.out.r x
      have Hhx := Lib.hid hhx
      clear hhx
      obtain ⟨ny, hhy⟩ : ∃ h, hitN ⟨ya, yl⟩ x = h := ⟨_, rfl⟩
      have hsy : ny ≤ 1 := by rw [← hhy]; exact hit_le HFy.out.r x
      have Hhy := Lib.hid hhy
      clear hhy
      obtain ⟨nz, hhz⟩ : ∃ h, hitN ⟨za, zl⟩ x = h := ⟨_, rfl⟩
      have hsz : nz ≤ 1 := by rw [← hhz]; exact hit_le HFz.out.r x
      have Hhz := Lib.hid hhz
      clear hhz
      have HX := Lib.hid hx
      clear hx
      go_wp2_with fail
      refine wp_loop_rounds 4 ?_
      rw [rounds_succ]
      have cl0 : wr.cell? ⟨w6.heap.size, 0, none⟩ = some (.bool xa) := HQi.out.cell 0
      have cl1 : wr.cell? ⟨w6.heap.size, 1, none⟩ = some (.slice ox xl.length dx) := HQi.out.cell 1
      go_wp2_with fail
      obtain ⟨Lx, hL⟩ : ∃ l, nList ⟨xa, xl⟩ = l := ⟨_, rfl⟩
      have HLx := Lib.hid hL
      have hlx : Lx.length ≤ 11 := by rw [← hL]; exact HFx.out.len
      clear hL cl0 cl1
      refine (list_any (sa := xa) (sl := xl) (L := Lx) HTxi.out HLx.out (by omega)).mono ?_
      rintro e wx ⟨oax, odx, rfl, ho, hb⟩
      dsimp only
      have HBI := Lib.hid (HBI.out.trans (hb.mono HBI.out.size))
      have HMi := Lib.hid (HMi.out.later hb)
      have HKi := Lib.hid (HKi.out.later hb)
      have HQi := Lib.hid (HQi.out.later hb)
      have HTxi := Lib.hid (HTxi.out.later hb)
      have HTyi := Lib.hid (HTyi.out.later hb)
      have HTzi := Lib.hid (HTzi.out.later hb)
      have HTki := Lib.hid (HTki.out.later hb)
      have HTli := Lib.hid (HTli.out.later hb)
      have HGx := Lib.hid (show TsAt wx (.slice oax Lx.length odx) Lx from RowV.own ho)
      clear ho hb
      go_wp2_with fail
      go_loopw [17, 20] (fun vn vj wr => ∃ j : Nat, vj = .int .i64 (j : Int) ∧ j ≤ Lx.length ∧ vn = .int .i64 (((0 + (Lx.take j).countP (· == x) : Nat)) : Int) ∧ Below wx.heap.size wx wr) (fun _ vj _ => Lx.length - (intOf vj).toNat)
      case atStart => exact ⟨0, rfl, Nat.zero_le _, by simp, Below.refl _ _⟩
      case round =>
        obtain ⟨j, rfl, hj, rfl, hb⟩ := hrel
        by_cases hjl : j < Lx.length
        · have c1 : (j : Int) < (Lx.length : Int) := by omega
          have c2 : IntKind.i64.wrap ((j : Int) + 1) = (j : Int) + 1 := by rw [IntKind.wrap_i64]; omega
          obtain ⟨t, ht⟩ : ∃ t : Nat, 0 + (Lx.take j).countP (· == x) = t := ⟨_, rfl⟩
          have htl : t ≤ 100 := by have := List.countP_le_length (p := (· == x)) (l := Lx.take j); rw [List.length_take] at this; omega
          rw [ht]
          have c3 : IntKind.i64.wrap ((t : Int) + 1) = (t : Int) + 1 := by rw [IntKind.wrap_i64]; omega
          obtain ⟨gb, go, hga, g1⟩ := ts_cell (HGx.out.later hb) hjl
          subst hga
          obtain ⟨ub, uo, hua, u1⟩ := ts_cell (HTli.out.later hb) hlt
          subst hua
          rw [HX.out] at u1
          obtain ⟨y, hy⟩ : ∃ y, Lx[j] = y := ⟨_, rfl⟩
          rw [hy] at g1
          have HY := Lib.hid hy
          have HT := Lib.hid ht
          have HBj := Lib.hid hb
          clear hy ht hb
          go_wp2_with fail
          go_region_held3 (fun w' => w'.cell? ⟨gb, go + j, none⟩ = some (.string ⟨y.toArray⟩) ∧ w'.cell? ⟨ub, uo + i, none⟩ = some (.string ⟨x.toArray⟩)) (with_reducible first | exact ⟨g1, u1⟩ | go_keep) (fail)
          obtain ⟨B, hB⟩ : ∃ B, (y == x) = B := ⟨_, rfl⟩
          rw [hB]
          cases B with
          | true =>
            have HN := Lib.hid (show 0 + (Lx.take (j + 1)).countP (· == x) = t + 1 by rw [hit_yes hjl (HY.out.trans (by simpa using hB)), ← HT.out]; omega)
            clear hB g1 u1
            go_wp2_with fail
            go_roundw
            case rel => exact ⟨j + 1, by go_num, by omega, by rw [HN.out]; go_num, by first | exact HBj.out.drew | exact HBj.out⟩
            case measure => simp [intOf]; omega
          | false =>
            have HN := Lib.hid (show 0 + (Lx.take (j + 1)).countP (· == x) = t by rw [hit_no hjl (fun e => by rw [HY.out] at e; rw [e] at hB; simp at hB), ← HT.out])
            clear hB g1 u1
            go_wp2_with fail
            go_roundw
            case rel => exact ⟨j + 1, by go_num, by omega, by rw [HN.out], by first | exact HBj.out.drew | exact HBj.out⟩
            case measure => simp [intOf]; omega
        · have HN := Lib.hid (show 0 + (Lx.take j).countP (· == x) = 0 + nx by rw [hit_all HLx.out x (by omega), Hhx.out])
          have c1 : ¬ (j : Int) < (Lx.length : Int) := by omega
          rw [HN.out]
          have HBI := Lib.hid (HBI.out.trans (hb.mono HBI.out.size))
          have HMi := Lib.hid (HMi.out.later hb)
          have HKi := Lib.hid (HKi.out.later hb)
          have HQi := Lib.hid (HQi.out.later hb)
          have HTxi := Lib.hid (HTxi.out.later hb)
          have HTyi := Lib.hid (HTyi.out.later hb)
          have HTzi := Lib.hid (HTzi.out.later hb)
          have HTki := Lib.hid (HTki.out.later hb)
          have HTli := Lib.hid (HTli.out.later hb)
          clear HN hb hj hjl
          go_wp2_with fail
          rw [rounds_succ]
          have cl0 : wr.cell? ⟨w6.heap.size, 2, none⟩ = some (.bool ya) := HQi.out.cell 2
          have cl1 : wr.cell? ⟨w6.heap.size, 3, none⟩ = some (.slice oy yl.length dy) := HQi.out.cell 3
          go_wp2_with fail
          obtain ⟨Ly, hL⟩ : ∃ l, nList ⟨ya, yl⟩ = l := ⟨_, rfl⟩
          have HLy := Lib.hid hL
          have hly : Ly.length ≤ 11 := by rw [← hL]; exact HFy.out.len
          clear hL cl0 cl1
          refine (list_any (sa := ya) (sl := yl) (L := Ly) HTyi.out HLy.out (by omega)).mono ?_
          rintro e wy ⟨oay, ody, rfl, ho, hb⟩
          dsimp only
          have HBI := Lib.hid (HBI.out.trans (hb.mono HBI.out.size))
          have HMi := Lib.hid (HMi.out.later hb)
          have HKi := Lib.hid (HKi.out.later hb)
          have HQi := Lib.hid (HQi.out.later hb)
          have HTxi := Lib.hid (HTxi.out.later hb)
          have HTyi := Lib.hid (HTyi.out.later hb)
          have HTzi := Lib.hid (HTzi.out.later hb)
          have HTki := Lib.hid (HTki.out.later hb)
          have HTli := Lib.hid (HTli.out.later hb)
          have HGy := Lib.hid (show TsAt wy (.slice oay Ly.length ody) Ly from RowV.own ho)
          clear ho hb
          go_wp2_with fail
          go_loopw [17, 20] (fun vn vj wr => ∃ j : Nat, vj = .int .i64 (j : Int) ∧ j ≤ Ly.length ∧ vn = .int .i64 (((0 + nx + (Ly.take j).countP (· == x) : Nat)) : Int) ∧ Below wy.heap.size wy wr) (fun _ vj _ => Ly.length - (intOf vj).toNat)
          case atStart => exact ⟨0, rfl, Nat.zero_le _, by simp, Below.refl _ _⟩
          case round =>
            obtain ⟨j, rfl, hj, rfl, hb⟩ := hrel
            by_cases hjl : j < Ly.length
            · have c1 : (j : Int) < (Ly.length : Int) := by omega
              have c2 : IntKind.i64.wrap ((j : Int) + 1) = (j : Int) + 1 := by rw [IntKind.wrap_i64]; omega
              obtain ⟨t, ht⟩ : ∃ t : Nat, 0 + nx + (Ly.take j).countP (· == x) = t := ⟨_, rfl⟩
              have htl : t ≤ 100 := by have := List.countP_le_length (p := (· == x)) (l := Ly.take j); rw [List.length_take] at this; omega
              rw [ht]
              have c3 : IntKind.i64.wrap ((t : Int) + 1) = (t : Int) + 1 := by rw [IntKind.wrap_i64]; omega
              obtain ⟨gb, go, hga, g1⟩ := ts_cell (HGy.out.later hb) hjl
              subst hga
              obtain ⟨ub, uo, hua, u1⟩ := ts_cell (HTli.out.later hb) hlt
              subst hua
              rw [HX.out] at u1
              obtain ⟨y, hy⟩ : ∃ y, Ly[j] = y := ⟨_, rfl⟩
              rw [hy] at g1
              have HY := Lib.hid hy
              have HT := Lib.hid ht
              have HBj := Lib.hid hb
              clear hy ht hb
              go_wp2_with fail
              go_region_held3 (fun w' => w'.cell? ⟨gb, go + j, none⟩ = some (.string ⟨y.toArray⟩) ∧ w'.cell? ⟨ub, uo + i, none⟩ = some (.string ⟨x.toArray⟩)) (with_reducible first | exact ⟨g1, u1⟩ | go_keep) (fail)
              obtain ⟨B, hB⟩ : ∃ B, (y == x) = B := ⟨_, rfl⟩
              rw [hB]
              cases B with
              | true =>
                have HN := Lib.hid (show 0 + nx + (Ly.take (j + 1)).countP (· == x) = t + 1 by rw [hit_yes hjl (HY.out.trans (by simpa using hB)), ← HT.out]; omega)
                clear hB g1 u1
                go_wp2_with fail
                go_roundw
                case rel => exact ⟨j + 1, by go_num, by omega, by rw [HN.out]; go_num, by first | exact HBj.out.drew | exact HBj.out⟩
                case measure => simp [intOf]; omega
              | false =>
                have HN := Lib.hid (show 0 + nx + (Ly.take (j + 1)).countP (· == x) = t by rw [hit_no hjl (fun e => by rw [HY.out] at e; rw [e] at hB; simp at hB), ← HT.out])
                clear hB g1 u1
                go_wp2_with fail
                go_roundw
                case rel => exact ⟨j + 1, by go_num, by omega, by rw [HN.out], by first | exact HBj.out.drew | exact HBj.out⟩
                case measure => simp [intOf]; omega
            · have HN := Lib.hid (show 0 + nx + (Ly.take j).countP (· == x) = 0 + nx + ny by rw [hit_all HLy.out x (by omega), Hhy.out])
              have c1 : ¬ (j : Int) < (Ly.length : Int) := by omega
              rw [HN.out]
              have HBI := Lib.hid (HBI.out.trans (hb.mono HBI.out.size))
              have HMi := Lib.hid (HMi.out.later hb)
              have HKi := Lib.hid (HKi.out.later hb)
              have HQi := Lib.hid (HQi.out.later hb)
              have HTxi := Lib.hid (HTxi.out.later hb)
              have HTyi := Lib.hid (HTyi.out.later hb)
              have HTzi := Lib.hid (HTzi.out.later hb)
              have HTki := Lib.hid (HTki.out.later hb)
              have HTli := Lib.hid (HTli.out.later hb)
              clear HN hb hj hjl
              go_wp2_with fail
              rw [rounds_succ]
              have cl0 : wr.cell? ⟨w6.heap.size, 4, none⟩ = some (.bool za) := HQi.out.cell 4
              have cl1 : wr.cell? ⟨w6.heap.size, 5, none⟩ = some (.slice oz zl.length dz) := HQi.out.cell 5
              go_wp2_with fail
              obtain ⟨Lz, hL⟩ : ∃ l, nList ⟨za, zl⟩ = l := ⟨_, rfl⟩
              have HLz := Lib.hid hL
              have hlz : Lz.length ≤ 11 := by rw [← hL]; exact HFz.out.len
              clear hL cl0 cl1
              refine (list_any (sa := za) (sl := zl) (L := Lz) HTzi.out HLz.out (by omega)).mono ?_
              rintro e wz ⟨oaz, odz, rfl, ho, hb⟩
              dsimp only
              have HBI := Lib.hid (HBI.out.trans (hb.mono HBI.out.size))
              have HMi := Lib.hid (HMi.out.later hb)
              have HKi := Lib.hid (HKi.out.later hb)
              have HQi := Lib.hid (HQi.out.later hb)
              have HTxi := Lib.hid (HTxi.out.later hb)
              have HTyi := Lib.hid (HTyi.out.later hb)
              have HTzi := Lib.hid (HTzi.out.later hb)
              have HTki := Lib.hid (HTki.out.later hb)
              have HTli := Lib.hid (HTli.out.later hb)
              have HGz := Lib.hid (show TsAt wz (.slice oaz Lz.length odz) Lz from RowV.own ho)
              clear ho hb
              go_wp2_with fail
              go_loopw [17, 20] (fun vn vj wr => ∃ j : Nat, vj = .int .i64 (j : Int) ∧ j ≤ Lz.length ∧ vn = .int .i64 (((0 + nx + ny + (Lz.take j).countP (· == x) : Nat)) : Int) ∧ Below wz.heap.size wz wr) (fun _ vj _ => Lz.length - (intOf vj).toNat)
              case atStart => exact ⟨0, rfl, Nat.zero_le _, by simp, Below.refl _ _⟩
              case round =>
                obtain ⟨j, rfl, hj, rfl, hb⟩ := hrel
                by_cases hjl : j < Lz.length
                · have c1 : (j : Int) < (Lz.length : Int) := by omega
                  have c2 : IntKind.i64.wrap ((j : Int) + 1) = (j : Int) + 1 := by rw [IntKind.wrap_i64]; omega
                  obtain ⟨t, ht⟩ : ∃ t : Nat, 0 + nx + ny + (Lz.take j).countP (· == x) = t := ⟨_, rfl⟩
                  have htl : t ≤ 100 := by have := List.countP_le_length (p := (· == x)) (l := Lz.take j); rw [List.length_take] at this; omega
                  rw [ht]
                  have c3 : IntKind.i64.wrap ((t : Int) + 1) = (t : Int) + 1 := by rw [IntKind.wrap_i64]; omega
                  obtain ⟨gb, go, hga, g1⟩ := ts_cell (HGz.out.later hb) hjl
                  subst hga
                  obtain ⟨ub, uo, hua, u1⟩ := ts_cell (HTli.out.later hb) hlt
                  subst hua
                  rw [HX.out] at u1
                  obtain ⟨y, hy⟩ : ∃ y, Lz[j] = y := ⟨_, rfl⟩
                  rw [hy] at g1
                  have HY := Lib.hid hy
                  have HT := Lib.hid ht
                  have HBj := Lib.hid hb
                  clear hy ht hb
                  go_wp2_with fail
                  go_region_held3 (fun w' => w'.cell? ⟨gb, go + j, none⟩ = some (.string ⟨y.toArray⟩) ∧ w'.cell? ⟨ub, uo + i, none⟩ = some (.string ⟨x.toArray⟩)) (with_reducible first | exact ⟨g1, u1⟩ | go_keep) (fail)
                  obtain ⟨B, hB⟩ : ∃ B, (y == x) = B := ⟨_, rfl⟩
                  rw [hB]
                  cases B with
                  | true =>
                    have HN := Lib.hid (show 0 + nx + ny + (Lz.take (j + 1)).countP (· == x) = t + 1 by rw [hit_yes hjl (HY.out.trans (by simpa using hB)), ← HT.out]; omega)
                    clear hB g1 u1
                    go_wp2_with fail
                    go_roundw
                    case rel => exact ⟨j + 1, by go_num, by omega, by rw [HN.out]; go_num, by first | exact HBj.out.drew | exact HBj.out⟩
                    case measure => simp [intOf]; omega
                  | false =>
                    have HN := Lib.hid (show 0 + nx + ny + (Lz.take (j + 1)).countP (· == x) = t by rw [hit_no hjl (fun e => by rw [HY.out] at e; rw [e] at hB; simp at hB), ← HT.out])
                    clear hB g1 u1
                    go_wp2_with fail
                    go_roundw
                    case rel => exact ⟨j + 1, by go_num, by omega, by rw [HN.out], by first | exact HBj.out.drew | exact HBj.out⟩
                    case measure => simp [intOf]; omega
                · have HN := Lib.hid (show 0 + nx + ny + (Lz.take j).countP (· == x) = 0 + nx + ny + nz by rw [hit_all HLz.out x (by omega), Hhz.out])
                  have c1 : ¬ (j : Int) < (Lz.length : Int) := by omega
                  rw [HN.out]
                  have HBI := Lib.hid (HBI.out.trans (hb.mono HBI.out.size))
                  have HMi := Lib.hid (HMi.out.later hb)
                  have HKi := Lib.hid (HKi.out.later hb)
                  have HQi := Lib.hid (HQi.out.later hb)
                  have HTxi := Lib.hid (HTxi.out.later hb)
                  have HTyi := Lib.hid (HTyi.out.later hb)
                  have HTzi := Lib.hid (HTzi.out.later hb)
                  have HTki := Lib.hid (HTki.out.later hb)
                  have HTli := Lib.hid (HTli.out.later hb)
                  clear HN hb hj hjl
                  go_wp2_with fail
                  rw [rounds_succ]
                  go_wp2_with fail
                  obtain ⟨t, ht⟩ : ∃ t : Nat, nx + ny + nz = t := ⟨_, rfl⟩
                  rw [show ((nx : Int) + (ny : Int) + (nz : Int)) = (t : Int) by omega]
                  obtain ⟨D, hD⟩ : ∃ D : Nat, 48 + t = D := ⟨_, rfl⟩
                  have e1 : IntKind.i64.wrap (48 + (t : Int)) = (D : Int) := by rw [IntKind.wrap_i64]; omega
                  have e2 : IntKind.u8.wrap (D : Int) = (D : Int) := by rw [show IntKind.u8.wrap (D : Int) = (D : Int) % 256 from rfl]; omega
                  obtain ⟨u, hu, hul⟩ : ∃ u : UInt8, UInt8.ofNat (48 + t) = u ∧ u.toNat = D := ⟨_, rfl, (byteD (by omega)).trans hD⟩
                  have hxm : x ∈ UL := HX.out ▸ List.getElem_mem hlt
                  have hx64 : x.length ≤ 64 := mid_len Hmid.out.1 (by rw [HUL.out]; exact hxm)
                  have hkey := HKT.out x
                  rw [Hhx.out, Hhy.out, Hhz.out, ht, hu] at hkey
                  obtain ⟨y1, hy1⟩ : ∃ y1, x ++ [32] = y1 := ⟨_, rfl⟩
                  obtain ⟨z, hz⟩ : ∃ z, x ++ [32, u] = z := ⟨_, rfl⟩
                  have hcat1 : ({ data := x.toArray } : ByteArray) ++ { data := #[32] } = { data := y1.toArray } := by rw [← hy1]; exact cat_two
                  have hcat2 : ({ data := y1.toArray } : ByteArray) ++ { data := #[u] } = { data := z.toArray } := by rw [cat_two, ← hz, ← hy1, List.append_assoc]; rfl
                  have hxn1 : ¬ 9223372036854775807 < x.length + 1 := by omega
                  have hxn2 : ¬ 9223372036854775807 < y1.length + 1 := by rw [← hy1, List.length_append]; simp; omega
                  rw [hz] at hkey
                  obtain ⟨kb, ko, hka, g1⟩ := ts_cell HTki.out (j := i) (by rw [List.length_map]; exact hlt)
                  subst hka
                  rw [List.getElem_map, HX.out, hkey] at g1
                  obtain ⟨ub, uo, hua, u1⟩ := ts_cell HTli.out hlt
                  subst hua
                  rw [HX.out] at u1
                  clear hkey hy1 hz hu hD ht hxm hx64
                  have LOW : Below wr.heap.size wr wr := Below.refl _ _
                  obtain ⟨w1046, hw1047, hb1048⟩ := drew_new wr
                  have q1049 := LOW.trans (hb1048.mono LOW.size)
                  refine wp_region_held_drew (S := (fun w' => w'.cell? ⟨kb, ko + i, none⟩ = some (.string ⟨z.toArray⟩) ∧ w'.cell? ⟨ub, uo + i, none⟩ = some (.string ⟨x.toArray⟩) ∧ True)) (by kernel_rfl) (by rw [hw1047]; exact ⟨(q1049.cell (p := ⟨kb, ko + i, none⟩) (World.block_lt_of_cell? _ _ g1)).trans g1, (q1049.cell (p := ⟨ub, uo + i, none⟩) (World.block_lt_of_cell? _ _ u1)).trans u1, trivial⟩) (fun hHeld => ?_)
                  rw [hw1047] at hHeld ⊢
                  refine wpAnyH_take (i := 0) (oi := { dst := some 106, op := Op.move (Operand.tmp 14), type := 26, pos := "keeps.go:127", after := #[], guard := none }) (v := ?v1046) rfl (by kernel_rfl) (by kernel_rfl) (by kernel_rfl) (fun _ _ _ h => h) (Or.inl ⟨by rfl, ?hy1046⟩) (by assumption) ?rest1046
                  case hy1046 => (intro w1 hSw; (try dsimp only at hSw); obtain ⟨h0, h1, -⟩ := hSw; go_simp; try with_reducible rfl)
                  try simp only [Act.put, List.setIfInBounds_toArray, List.set_cons_zero, List.set_cons_succ]
                  refine wpAnyH_take (i := 1) (oi := { dst := some 107, op := Op.move (Operand.tmp 16), type := 3, pos := "keeps.go:127", after := #[], guard := none }) (v := ?v1047) rfl (by kernel_rfl) (by kernel_rfl) (by kernel_rfl) (fun _ _ _ h => h) (Or.inl ⟨by rfl, ?hy1047⟩) (by assumption) ?rest1047
                  case hy1047 => (intro w1 hSw; (try dsimp only at hSw); obtain ⟨h0, h1, -⟩ := hSw; go_simp; try with_reducible rfl)
                  try simp only [Act.put, List.setIfInBounds_toArray, List.set_cons_zero, List.set_cons_succ]
                  refine wpAnyH_take (i := 2) (oi := { dst := some 108, op := Op.indexAddr 26 (Operand.tmp 106) (Operand.tmp 107), type := 0, pos := "keeps.go:127", after := #[{ on := 0, ground := Ground.data }, { on := 1, ground := Ground.data }], guard := none }) (v := ?v1048) rfl (by kernel_rfl) (by kernel_rfl) (by kernel_rfl) (fun _ _ _ h => h) (Or.inl ⟨by rfl, ?hy1048⟩) (by assumption) ?rest1048
                  case hy1048 => (intro w1 hSw; (try dsimp only at hSw); obtain ⟨h0, h1, -⟩ := hSw; go_simp; try with_reducible rfl)
                  try simp only [Act.put, List.setIfInBounds_toArray, List.set_cons_zero, List.set_cons_succ]
                  refine wpAnyH_take (i := 3) (oi := { dst := some 109, op := Op.load 9 (Operand.tmp 108), type := 9, pos := "keeps.go:127", after := #[{ on := 2, ground := Ground.data }], guard := none }) (v := ?v1049) rfl (by kernel_rfl) (by kernel_rfl) (by kernel_rfl) (fun _ _ _ h => h) (Or.inl ⟨by rfl, ?hy1049⟩) (by assumption) ?rest1049
                  case hy1049 => (intro w1 hSw; (try dsimp only at hSw); obtain ⟨h0, h1, -⟩ := hSw; go_simp; try with_reducible rfl)
                  try simp only [Act.put, List.setIfInBounds_toArray, List.set_cons_zero, List.set_cons_succ]
                  refine wpAnyH_take (i := 4) (oi := { dst := some 110, op := Op.move (Operand.tmp 15), type := 26, pos := "keeps.go:127", after := #[], guard := none }) (v := ?v1050) rfl (by kernel_rfl) (by kernel_rfl) (by kernel_rfl) (fun _ _ _ h => h) (Or.inl ⟨by rfl, ?hy1050⟩) (by assumption) ?rest1050
                  case hy1050 => (intro w1 hSw; (try dsimp only at hSw); obtain ⟨h0, h1, -⟩ := hSw; go_simp; try with_reducible rfl)
                  try simp only [Act.put, List.setIfInBounds_toArray, List.set_cons_zero, List.set_cons_succ]
                  refine wpAnyH_take (i := 5) (oi := { dst := some 111, op := Op.move (Operand.tmp 16), type := 3, pos := "keeps.go:127", after := #[], guard := none }) (v := ?v1051) rfl (by kernel_rfl) (by kernel_rfl) (by kernel_rfl) (fun _ _ _ h => h) (Or.inl ⟨by rfl, ?hy1051⟩) (by assumption) ?rest1051
                  case hy1051 => (intro w1 hSw; (try dsimp only at hSw); obtain ⟨h0, h1, -⟩ := hSw; go_simp; try with_reducible rfl)
                  try simp only [Act.put, List.setIfInBounds_toArray, List.set_cons_zero, List.set_cons_succ]
                  refine wpAnyH_take (i := 6) (oi := { dst := some 112, op := Op.indexAddr 26 (Operand.tmp 110) (Operand.tmp 111), type := 0, pos := "keeps.go:127", after := #[{ on := 4, ground := Ground.data }, { on := 5, ground := Ground.data }], guard := none }) (v := ?v1052) rfl (by kernel_rfl) (by kernel_rfl) (by kernel_rfl) (fun _ _ _ h => h) (Or.inl ⟨by rfl, ?hy1052⟩) (by assumption) ?rest1052
                  case hy1052 => (intro w1 hSw; (try dsimp only at hSw); obtain ⟨h0, h1, -⟩ := hSw; go_simp; try with_reducible rfl)
                  try simp only [Act.put, List.setIfInBounds_toArray, List.set_cons_zero, List.set_cons_succ]
                  refine wpAnyH_take (i := 7) (oi := { dst := some 113, op := Op.load 9 (Operand.tmp 112), type := 9, pos := "keeps.go:127", after := #[{ on := 6, ground := Ground.data }], guard := none }) (v := ?v1053) rfl (by kernel_rfl) (by kernel_rfl) (by kernel_rfl) (fun _ _ _ h => h) (Or.inl ⟨by rfl, ?hy1053⟩) (by assumption) ?rest1053
                  case hy1053 => (intro w1 hSw; (try dsimp only at hSw); obtain ⟨h0, h1, -⟩ := hSw; go_simp; try with_reducible rfl)
                  try simp only [Act.put, List.setIfInBounds_toArray, List.set_cons_zero, List.set_cons_succ]
                  refine wpAnyH_take (i := 8) (oi := { dst := some 114, op := Op.binOp BinOp.add 9 (Operand.tmp 113) (Operand.const (Value.string { data := #[32] })) 9, type := 9, pos := "keeps.go:127", after := #[{ on := 7, ground := Ground.data }], guard := none }) (v := ?v1054) rfl (by kernel_rfl) (by kernel_rfl) (by kernel_rfl) (fun _ _ _ h => h) (Or.inl ⟨by rfl, ?hy1054⟩) (by assumption) ?rest1054
                  case hy1054 => (intro w1 hSw; (try dsimp only at hSw); obtain ⟨h0, h1, -⟩ := hSw; go_simp; try with_reducible rfl)
                  try simp only [Act.put, List.setIfInBounds_toArray, List.set_cons_zero, List.set_cons_succ]
                  refine wpAnyH_take (i := 9) (oi := { dst := some 115, op := Op.move (Operand.tmp 17), type := 3, pos := "keeps.go:127", after := #[], guard := none }) (v := ?v1055) rfl (by kernel_rfl) (by kernel_rfl) (by kernel_rfl) (fun _ _ _ h => h) (Or.inl ⟨by rfl, ?hy1055⟩) (by assumption) ?rest1055
                  case hy1055 => (intro w1 hSw; (try dsimp only at hSw); obtain ⟨h0, h1, -⟩ := hSw; go_simp; try with_reducible rfl)
                  try simp only [Act.put, List.setIfInBounds_toArray, List.set_cons_zero, List.set_cons_succ]
                  refine wpAnyH_take (i := 10) (oi := { dst := some 116, op := Op.binOp BinOp.add 3 (Operand.const (Value.int IntKind.i64 48)) (Operand.tmp 115) 3, type := 3, pos := "keeps.go:127", after := #[{ on := 9, ground := Ground.data }], guard := none }) (v := ?v1056) rfl (by kernel_rfl) (by kernel_rfl) (by kernel_rfl) (fun _ _ _ h => h) (Or.inl ⟨by rfl, ?hy1056⟩) (by assumption) ?rest1056
                  case hy1056 => (intro w1 hSw; (try dsimp only at hSw); obtain ⟨h0, h1, -⟩ := hSw; go_simp; try with_reducible rfl)
                  try simp only [Act.put, List.setIfInBounds_toArray, List.set_cons_zero, List.set_cons_succ]
                  refine wpAnyH_take (i := 11) (oi := { dst := some 117, op := Op.convert 3 5 (Operand.tmp 116), type := 5, pos := "keeps.go:127", after := #[{ on := 10, ground := Ground.data }], guard := none }) (v := ?v1057) rfl (by kernel_rfl) (by kernel_rfl) (by kernel_rfl) (fun _ _ _ h => h) (Or.inl ⟨by rfl, ?hy1057⟩) (by assumption) ?rest1057
                  case hy1057 => (intro w1 hSw; (try dsimp only at hSw); obtain ⟨h0, h1, -⟩ := hSw; go_simp; try with_reducible rfl)
                  try simp only [Act.put, List.setIfInBounds_toArray, List.set_cons_zero, List.set_cons_succ]
                  refine wpAnyH_ready (rs := [12]) (by kernel_rfl) (by simp) ?_
                  refine AllReadyH.cons (o := { dst := some 118, op := Op.buildSlice 30 1 #[(0, Operand.tmp 117)], type := 30, pos := "keeps.go:127", after := #[{ on := 11, ground := Ground.data }], guard := none }) rfl (fun K hK => ?_) AllReadyH.nil
                  go_simp
                  obtain ⟨w1050, hw1051, hb1052, p1053⟩ := alloc_new w1046 #[.int .u8 (D : Int)] 5
                  have q1054 := q1049.trans (hb1052.mono q1049.size)
                  rw [hw1051]
                  refine hK.out _ _ (⟨(q1054.cell (p := ⟨kb, ko + i, none⟩) (World.block_lt_of_cell? _ _ g1)).trans g1, (q1054.cell (p := ⟨ub, uo + i, none⟩) (World.block_lt_of_cell? _ _ u1)).trans u1, trivial⟩) (fun hHeld => ?_)
                  clear hK K
                  try simp only [Act.put, List.setIfInBounds_toArray, List.set_cons_zero, List.set_cons_succ]
                  refine wpAnyH_ready (rs := [13]) (by kernel_rfl) (by simp) ?_
                  refine AllReadyH.cons (o := { dst := some 119, op := Op.convert 30 9 (Operand.tmp 118), type := 9, pos := "keeps.go:127", after := #[{ on := 12, ground := Ground.data }], guard := none }) rfl (fun K hK => ?_) AllReadyH.nil
                  rw [if_pos (by rfl)]
                  have cv := bytes_conv (l := [u]) (c := 1) (by simp only [List.map_cons, List.map_nil, hul]) p1053
                  simp only [List.length_singleton] at cv
                  go_simp
                  refine hK.out _ _ (⟨(q1054.cell (p := ⟨kb, ko + i, none⟩) (World.block_lt_of_cell? _ _ g1)).trans g1, (q1054.cell (p := ⟨ub, uo + i, none⟩) (World.block_lt_of_cell? _ _ u1)).trans u1, trivial⟩) (fun hHeld => ?_)
                  clear hK K
                  try simp only [Act.put, List.setIfInBounds_toArray, List.set_cons_zero, List.set_cons_succ]
                  refine wpAnyH_take (i := 14) (oi := { dst := some 120, op := Op.binOp BinOp.add 9 (Operand.tmp 114) (Operand.tmp 119) 9, type := 9, pos := "keeps.go:127", after := #[{ on := 8, ground := Ground.data }, { on := 13, ground := Ground.data }], guard := none }) (v := ?v1058) rfl (by kernel_rfl) (by kernel_rfl) (by kernel_rfl) (fun _ _ _ h => h) (Or.inl ⟨by rfl, ?hy1058⟩) (by assumption) ?rest1058
                  case hy1058 => (intro w1 hSw; (try dsimp only at hSw); obtain ⟨h0, h1, -⟩ := hSw; go_simp; try with_reducible rfl)
                  try simp only [Act.put, List.setIfInBounds_toArray, List.set_cons_zero, List.set_cons_succ]
                  refine wpAnyH_take (i := 15) (oi := { dst := some 121, op := Op.binOp BinOp.neq 9 (Operand.tmp 109) (Operand.tmp 120) 9, type := 4, pos := "keeps.go:127", after := #[{ on := 3, ground := Ground.data }, { on := 14, ground := Ground.data }], guard := none }) (v := ?v1059) rfl (by kernel_rfl) (by kernel_rfl) (by kernel_rfl) (fun _ _ _ h => h) (Or.inl ⟨by rfl, ?hy1059⟩) (by assumption) ?rest1059
                  case hy1059 => (intro w1 hSw; (try dsimp only at hSw); obtain ⟨h0, h1, -⟩ := hSw; go_simp; try with_reducible rfl)
                  try simp only [Act.put, List.setIfInBounds_toArray, List.set_cons_zero, List.set_cons_succ]
                  refine wpAnyH_done (by kernel_rfl) ?_ _
                  have HB4 := Lib.hid q1054
                  go_wp2_with fail
                  go_roundw
                  case rel => exact ⟨i + 1, by go_num, by omega, HBI.out.trans (HB4.out.mono HBI.out.size)⟩
                  case measure => simp [intOf]; omega
    · obtain rfl : i = UL.length := by omega
      have b1 : ¬ (UL.length : Int) < (UL.length : Int) := by omega
      go_wp2_with fail
      refine (keys_any HMi.out ⟨by decide, by decide⟩).mono ?_
      rintro e wy ⟨ya1, yc1, rfl, -, hb⟩
      rw [Hn1.out]
      dsimp only
      have HMi := Lib.hid (HMi.out.later hb)
      have HKi := Lib.hid (HKi.out.later hb)
      clear hb
      go_wp2_with fail
      refine (keys_any HMi.out ⟨by decide, by decide⟩).mono ?_
      rintro e wz ⟨za1, zc1, rfl, -, hb⟩
      rw [Hn9.out]
      dsimp only
      have HKi := Lib.hid (HKi.out.later hb)
      clear hb
      go_wp2_with fail
      go_ret
      exact ⟨rfl, HB.out.trans ((HKi.out.below (Nat.le_refl _)).mono HB.out.size)⟩
end Go.Proofs.YtfolgcgkikkihaaDoor
