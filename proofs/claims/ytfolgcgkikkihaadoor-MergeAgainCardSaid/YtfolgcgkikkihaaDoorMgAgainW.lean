/- merge: MergeAgain. -/
import Derived.Test.YtfolgcgkikkihaaDoorMgEx
import Derived.Test.YtfolgcgkikkihaaDoorMgAgP
import Derived.Test.YtfolgcgkikkihaaDoorNmSame
namespace Go.Proofs.YtfolgcgkikkihaaDoor
open Go.RowKit Go.Lib

set_option maxRecDepth 100000 in
set_option maxHeartbeats 8000000 in
theorem again_walk (a0 : Option Addr) (l0 c0 : Nat) (ms0 : List Nat) (a1 : Option Addr) (l1 c1 : Nat) (ms1 : List Nat) (a2 : Option Addr) (l2 c2 : Nat) (ms2 : List Nat) (A F Z : Addr) (W : World) (hg : Gm A F Z W) (hs0 : BytesIn W a0 ms0) (hl0 : ms0.length = l0) (hm0 : l0 ≤ 9223372036854775807) (hb0 : ∀ x ∈ ms0, x < 256) (hs1 : BytesIn W a1 ms1) (hl1 : ms1.length = l1) (hm1 : l1 ≤ 9223372036854775807) (hb1 : ∀ x ∈ ms1, x < 256) (hs2 : BytesIn W a2 ms2) (hl2 : ms2.length = l2) (hm2 : l2 ≤ 9223372036854775807) (hb2 : ∀ x ∈ ms2, x < 256) : Calls Tryd.prog 7 #[.slice a0 l0 c0, .slice a1 l1 c1, .slice a2 l2 c2] W fun e w' => e = .returned (.bool true) ∧ Below W.heap.size W w' := by
  have HFx := Lib.hid (few_set ms0)
  obtain ⟨xa, xl, hO⟩ : ∃ xa xl, nOf okN (nmcL ms0 10) = ⟨xa, xl⟩ := ⟨_, _, rfl⟩
  have HOx := Lib.hid hO
  rw [hO] at HFx
  clear hO
  have HFy := Lib.hid (few_set ms1)
  obtain ⟨ya, yl, hO⟩ : ∃ ya yl, nOf okN (nmcL ms1 10) = ⟨ya, yl⟩ := ⟨_, _, rfl⟩
  have HOy := Lib.hid hO
  rw [hO] at HFy
  clear hO
  have HFz := Lib.hid (few_set ms2)
  obtain ⟨za, zl, hO⟩ : ∃ za zl, nOf okN (nmcL ms2 10) = ⟨za, zl⟩ := ⟨_, _, rfl⟩
  have HOz := Lib.hid hO
  rw [hO] at HFz
  clear hO
  have HE1 := Lib.hid (vw1_set HFx.out)
  have HE2 := Lib.hid (vw2_set HFx.out HFy.out)
  have hE3 := vw_set HFx.out HFy.out HFx.out
  have hE4 := vw_set HFx.out HFy.out HFz.out
  have hE5 := vw_set HFz.out HFy.out HFx.out
  have hU := vw_u HFx.out HFy.out
  rw [less_self] at hE3
  have hf1 := mid_union HFx.out HFy.out
  have hf2 := mid_union HFz.out HFy.out
  obtain ⟨ua, ul, hu1⟩ : ∃ ua ul, nUnion [(⟨xa, xl⟩ : Ns), (⟨ya, yl⟩ : Ns)] = ⟨ua, ul⟩ := ⟨_, _, rfl⟩
  obtain ⟨ta, tl, hu2⟩ : ∃ ta tl, nUnion [(⟨za, zl⟩ : Ns), (⟨ya, yl⟩ : Ns)] = ⟨ta, tl⟩ := ⟨_, _, rfl⟩
  rw [hu1] at hE4 hE5 hU hf1
  rw [hu2] at hE4 hE5 hf2
  clear hu1 hu2
  have hf3 := mid_less (b := ⟨ua, ul⟩) hf2
  have hf4 := mid_less (b := ⟨ta, tl⟩) hf1
  obtain ⟨pa, pl, hu1⟩ : ∃ pa pl, nLess ⟨ta, tl⟩ ⟨ua, ul⟩ = ⟨pa, pl⟩ := ⟨_, _, rfl⟩
  obtain ⟨qa, ql, hu2⟩ : ∃ qa ql, nLess ⟨ua, ul⟩ ⟨ta, tl⟩ = ⟨qa, ql⟩ := ⟨_, _, rfl⟩
  rw [hu1] at hE4 hE5 hf3
  rw [hu2] at hE4 hE5 hf4
  clear hu1 hu2
  have HE3 := Lib.hid hE3
  have HE4 := Lib.hid hE4
  have HE5 := Lib.hid hE5
  have HU := Lib.hid hU
  have Hf1 := Lib.hid hf1
  have Hf3 := Lib.hid hf3
  have Hf4 := Lib.hid hf4
  clear hE3 hE4 hE5 hU hf1 hf2 hf3 hf4
  have HA0 := Lib.hid hs0
  clear hs0
  have HB0 := Lib.hid (And.intro hl0 (And.intro hm0 hb0))
  clear hl0 hm0 hb0
  have HA1 := Lib.hid hs1
  clear hs1
  have HB1 := Lib.hid (And.intro hl1 (And.intro hm1 hb1))
  clear hl1 hm1 hb1
  have HA2 := Lib.hid hs2
  clear hs2
  have HB2 := Lib.hid (And.intro hl2 (And.intro hm2 hb2))
  clear hl2 hm2 hb2
  have HG0 := Lib.hid hg
  clear hg
  go_enter Tryd.func7, Tryd.ntmps7
  go_wp2_with fail
  refine (mg_examples A F Z W HG0.out).mono ?_
  rintro e wB ⟨rfl, hb⟩
  dsimp only
  have HG := Lib.hid (HG0.out.later hb)
  have HB := Lib.hid hb
  have HA0 := Lib.hid (HA0.out.later hb)
  have HA1 := Lib.hid (HA1.out.later hb)
  have HA2 := Lib.hid (HA2.out.later hb)
  clear HG0 hb
  go_wp2_with fail
  refine (mgNew_any wB).mono ?_
  rintro e wN ⟨m, rfl, hm, hb⟩
  dsimp only
  have HM := Lib.hid hm
  have HK := Lib.hid (KeptM.of (B := wB.heap.size) hb)
  have HA0 := Lib.hid (HA0.out.later hb)
  have HA1 := Lib.hid (HA1.out.later hb)
  have HA2 := Lib.hid (HA2.out.later hb)
  clear hm hb
  go_wp2_with fail
  refine (few10_any HA0.out HB0.out.1 HB0.out.2.1 (m := 10) (by decide) HB0.out.2.2).mono ?_
  rintro e w1 ⟨fa, fc, rfl, FO, hb⟩
  dsimp only
  clear HA0 HB0
  have HM := Lib.hid (HM.out.later hb)
  have HK := Lib.hid (HK.out.trans (.of hb))
  have HA1 := Lib.hid (HA1.out.later hb)
  have HA2 := Lib.hid (HA2.out.later hb)
  have HTf := Lib.hid (show TsAt w1 (.slice fa (nmcL ms0 10).length fc) (nmcL ms0 10) from RowV.own FO)
  clear FO hb
  go_wp2_with fail
  refine (of_any HTf.out (nmc_fit ms0 10 (by decide)) HOx.out).mono ?_
  rintro e w2 ⟨ox, dx, rfl, ht, hb⟩
  dsimp only
  have HM := Lib.hid (HM.out.later hb)
  have HK := Lib.hid (HK.out.trans (.of hb))
  have HA1 := Lib.hid (HA1.out.later hb)
  have HA2 := Lib.hid (HA2.out.later hb)
  have HTx := Lib.hid ht
  clear ht hb HTf
  obtain ⟨x3, hw4, hb5, hq7⟩ := alloc_new w2 #[.bool xa, .slice ox xl.length dx] 28
  have HM := Lib.hid (HM.out.later hb5)
  have HK := Lib.hid (HK.out.trans (.of hb5))
  have HA1 := Lib.hid (HA1.out.later hb5)
  have HA2 := Lib.hid (HA2.out.later hb5)
  have HTx := Lib.hid (HTx.out.later hb5)
  have HQx := Lib.hid hq7
  have HW6 := Lib.hid hw4
  have HZ8 := Lib.hid (show w2.heap.size + 1 = x3.heap.size by rw [← hw4]; simp)
  clear hw4 hb5 hq7
  go_wp2_with fail
  rw [HW6.out]
  refine (few10_any HA1.out HB1.out.1 HB1.out.2.1 (m := 10) (by decide) HB1.out.2.2).mono ?_
  rintro e w9 ⟨fa, fc, rfl, FO, hb⟩
  dsimp only
  clear HA1 HB1
  have HM := Lib.hid (HM.out.later hb)
  have HK := Lib.hid (HK.out.trans (.of hb))
  have HQx := Lib.hid (HQx.out.later hb)
  have HA2 := Lib.hid (HA2.out.later hb)
  have HTx := Lib.hid (HTx.out.later hb)
  have HTf := Lib.hid (show TsAt w9 (.slice fa (nmcL ms1 10).length fc) (nmcL ms1 10) from RowV.own FO)
  clear FO hb
  go_wp2_with fail
  refine (of_any HTf.out (nmc_fit ms1 10 (by decide)) HOy.out).mono ?_
  rintro e w10 ⟨oy, dy, rfl, ht, hb⟩
  dsimp only
  have HM := Lib.hid (HM.out.later hb)
  have HK := Lib.hid (HK.out.trans (.of hb))
  have HQx := Lib.hid (HQx.out.later hb)
  have HA2 := Lib.hid (HA2.out.later hb)
  have HTx := Lib.hid (HTx.out.later hb)
  have HTy := Lib.hid ht
  clear ht hb HTf
  obtain ⟨x11, hw12, hb13, hq15⟩ := alloc_new w10 #[.bool ya, .slice oy yl.length dy] 28
  have HM := Lib.hid (HM.out.later hb13)
  have HK := Lib.hid (HK.out.trans (.of hb13))
  have HQx := Lib.hid (HQx.out.later hb13)
  have HA2 := Lib.hid (HA2.out.later hb13)
  have HTx := Lib.hid (HTx.out.later hb13)
  have HTy := Lib.hid (HTy.out.later hb13)
  have HQy := Lib.hid hq15
  have HW14 := Lib.hid hw12
  have HZ16 := Lib.hid (show w10.heap.size + 1 = x11.heap.size by rw [← hw12]; simp)
  clear hw12 hb13 hq15
  go_wp2_with fail
  rw [HW14.out]
  refine (few10_any HA2.out HB2.out.1 HB2.out.2.1 (m := 10) (by decide) HB2.out.2.2).mono ?_
  rintro e w17 ⟨fa, fc, rfl, FO, hb⟩
  dsimp only
  clear HA2 HB2
  have HM := Lib.hid (HM.out.later hb)
  have HK := Lib.hid (HK.out.trans (.of hb))
  have HQx := Lib.hid (HQx.out.later hb)
  have HQy := Lib.hid (HQy.out.later hb)
  have HTx := Lib.hid (HTx.out.later hb)
  have HTy := Lib.hid (HTy.out.later hb)
  have HTf := Lib.hid (show TsAt w17 (.slice fa (nmcL ms2 10).length fc) (nmcL ms2 10) from RowV.own FO)
  clear FO hb
  go_wp2_with fail
  refine (of_any HTf.out (nmc_fit ms2 10 (by decide)) HOz.out).mono ?_
  rintro e w18 ⟨oz, dz, rfl, ht, hb⟩
  dsimp only
  have HM := Lib.hid (HM.out.later hb)
  have HK := Lib.hid (HK.out.trans (.of hb))
  have HQx := Lib.hid (HQx.out.later hb)
  have HQy := Lib.hid (HQy.out.later hb)
  have HTx := Lib.hid (HTx.out.later hb)
  have HTy := Lib.hid (HTy.out.later hb)
  have HTz := Lib.hid ht
  clear ht hb HTf
  obtain ⟨x19, hw20, hb21, hq23⟩ := alloc_new w18 #[.bool za, .slice oz zl.length dz] 28
  have HM := Lib.hid (HM.out.later hb21)
  have HK := Lib.hid (HK.out.trans (.of hb21))
  have HQx := Lib.hid (HQx.out.later hb21)
  have HQy := Lib.hid (HQy.out.later hb21)
  have HTx := Lib.hid (HTx.out.later hb21)
  have HTy := Lib.hid (HTy.out.later hb21)
  have HTz := Lib.hid (HTz.out.later hb21)
  have HQz := Lib.hid hq23
  have HW22 := Lib.hid hw20
  have HZ24 := Lib.hid (show w18.heap.size + 1 = x19.heap.size by rw [← hw20]; simp)
  clear hw20 hb21 hq23
  have hs := set_any (base := wB.heap.size) (m := m) (W := W0) (i := 1) (k := 1) (sa := xa) (sl := xl) (a1 := ox) (c1 := dx) HM.out (HK.out.gm HG.out) HTx.out HFx.out.r (by have := HFx.out.len; omega) HFx.out.l
  have HS := Lib.hid (show Calls Tryd.prog 12 #[.pointer (some ⟨m, 0, none⟩), .int .i64 1, .int .i64 1, .agg #[.bool xa, .slice ox xl.length dx]] x19 (SetIs wB.heap.size m W0 1 1 ⟨xa, xl⟩ x19) from hs)
  clear hs
  have xc0 : x19.cell? ⟨w2.heap.size, 0, none⟩ = some (.bool xa) := HQx.out.cell 0
  have xc1 : x19.cell? ⟨w2.heap.size, 1, none⟩ = some (.slice ox xl.length dx) := HQx.out.cell 1
  go_wp2_with (rw [HW22.out])
  refine HS.out.mono ?_
  rintro e w25 ⟨v1, v2, rfl, -, -, hm2, hk2⟩
  rw [HE1.out.1]
  rw [HE1.out.2] at hm2
  dsimp only
  have HM := Lib.hid hm2
  have HK := Lib.hid (HK.out.trans hk2)
  have HQx := Lib.hid (hk2.blk HQx.out)
  have HQy := Lib.hid (hk2.blk HQy.out)
  have HQz := Lib.hid (hk2.blk HQz.out)
  have HTx := Lib.hid (hk2.ts HTx.out)
  have HTy := Lib.hid (hk2.ts HTy.out)
  have HTz := Lib.hid (hk2.ts HTz.out)
  clear hm2 hk2 HS xc0 xc1
  have hs := set_any (base := wB.heap.size) (m := m) (W := (vW1 (⟨xa, xl⟩ : Ns))) (i := 2) (k := 1) (sa := ya) (sl := yl) (a1 := oy) (c1 := dy) HM.out (HK.out.gm HG.out) HTy.out HFy.out.r (by have := HFy.out.len; omega) HFy.out.l
  have HS := Lib.hid (show Calls Tryd.prog 12 #[.pointer (some ⟨m, 0, none⟩), .int .i64 2, .int .i64 1, .agg #[.bool ya, .slice oy yl.length dy]] w25 (SetIs wB.heap.size m (vW1 (⟨xa, xl⟩ : Ns)) 2 1 ⟨ya, yl⟩ w25) from hs)
  clear hs
  have yc0 : w25.cell? ⟨w10.heap.size, 0, none⟩ = some (.bool ya) := HQy.out.cell 0
  have yc1 : w25.cell? ⟨w10.heap.size, 1, none⟩ = some (.slice oy yl.length dy) := HQy.out.cell 1
  go_wp2_with fail
  refine HS.out.mono ?_
  rintro e w26 ⟨v1, v2, rfl, -, -, hm2, hk2⟩
  rw [HE2.out.1]
  rw [HE2.out.2] at hm2
  dsimp only
  have HM := Lib.hid hm2
  have HK := Lib.hid (HK.out.trans hk2)
  have HQx := Lib.hid (hk2.blk HQx.out)
  have HQy := Lib.hid (hk2.blk HQy.out)
  have HQz := Lib.hid (hk2.blk HQz.out)
  have HTx := Lib.hid (hk2.ts HTx.out)
  have HTy := Lib.hid (hk2.ts HTy.out)
  have HTz := Lib.hid (hk2.ts HTz.out)
  clear hm2 hk2 HS yc0 yc1
  clear HE1 HE2
  go_wp2_with fail
  refine (union_is (sa := ua) (sl := ul) HM.out ⟨by decide, by decide⟩ HU.out).mono ?_
  rintro e wU ⟨ou, du, rfl, ht, hb⟩
  dsimp only
  have HM := Lib.hid (HM.out.later hb)
  have HK := Lib.hid (HK.out.trans (.of hb))
  have HQx := Lib.hid (HQx.out.later hb)
  have HQy := Lib.hid (HQy.out.later hb)
  have HQz := Lib.hid (HQz.out.later hb)
  have HTx := Lib.hid (HTx.out.later hb)
  have HTy := Lib.hid (HTy.out.later hb)
  have HTz := Lib.hid (HTz.out.later hb)
  have HTu := Lib.hid ht
  clear ht hb
  obtain ⟨x27, hw28, hb29, hq31⟩ := alloc_new wU #[.bool ua, .slice ou ul.length du] 28
  have HM := Lib.hid (HM.out.later hb29)
  have HK := Lib.hid (HK.out.trans (.of hb29))
  have HQx := Lib.hid (HQx.out.later hb29)
  have HQy := Lib.hid (HQy.out.later hb29)
  have HQz := Lib.hid (HQz.out.later hb29)
  have HTx := Lib.hid (HTx.out.later hb29)
  have HTy := Lib.hid (HTy.out.later hb29)
  have HTz := Lib.hid (HTz.out.later hb29)
  have HTu := Lib.hid (HTu.out.later hb29)
  have HQu := Lib.hid hq31
  have HW30 := Lib.hid hw28
  have HZ32 := Lib.hid (show wU.heap.size + 1 = x27.heap.size by rw [← hw28]; simp)
  clear hw28 hb29 hq31
  have hs := set_any (base := wB.heap.size) (m := m) (W := (vW (⟨xa, xl⟩ : Ns) (⟨ya, yl⟩ : Ns))) (i := 1) (k := 1) (sa := xa) (sl := xl) (a1 := ox) (c1 := dx) HM.out (HK.out.gm HG.out) HTx.out HFx.out.r (by have := HFx.out.len; omega) HFx.out.l
  have HS := Lib.hid (show Calls Tryd.prog 12 #[.pointer (some ⟨m, 0, none⟩), .int .i64 1, .int .i64 1, .agg #[.bool xa, .slice ox xl.length dx]] x27 (SetIs wB.heap.size m (vW (⟨xa, xl⟩ : Ns) (⟨ya, yl⟩ : Ns)) 1 1 ⟨xa, xl⟩ x27) from hs)
  clear hs
  have xc0 : x27.cell? ⟨w2.heap.size, 0, none⟩ = some (.bool xa) := HQx.out.cell 0
  have xc1 : x27.cell? ⟨w2.heap.size, 1, none⟩ = some (.slice ox xl.length dx) := HQx.out.cell 1
  go_wp2_with (rw [HW30.out])
  refine HS.out.mono ?_
  rintro e w33 ⟨v1, v2, rfl, hv1, hv2, hm2, hk2⟩
  rw [HE3.out.1]
  rw [HE3.out.2.1] at hm2
  rw [HE3.out.2.2.1] at hv1
  rw [HE3.out.2.2.2] at hv2
  obtain ⟨og, dg, rfl, ht1⟩ := hv1.shape
  obtain ⟨oh, dh, rfl, ht2⟩ := hv2.shape
  dsimp only
  have HM := Lib.hid hm2
  have HK := Lib.hid (HK.out.trans hk2)
  have HQx := Lib.hid (hk2.blk HQx.out)
  have HQy := Lib.hid (hk2.blk HQy.out)
  have HQz := Lib.hid (hk2.blk HQz.out)
  have HQu := Lib.hid (hk2.blk HQu.out)
  have HTx := Lib.hid (hk2.ts HTx.out)
  have HTy := Lib.hid (hk2.ts HTy.out)
  have HTz := Lib.hid (hk2.ts HTz.out)
  have HTu := Lib.hid (hk2.ts HTu.out)
  clear hm2 hk2 HS xc0 xc1
  have HTg := Lib.hid ht1
  have HTh := Lib.hid ht2
  clear ht1 ht2
  obtain ⟨x34, hw35, hb36, hq38⟩ := alloc_new w33 #[.bool false, .slice og 0 dg] 28
  have HM := Lib.hid (HM.out.later hb36)
  have HK := Lib.hid (HK.out.trans (.of hb36))
  have HQx := Lib.hid (HQx.out.later hb36)
  have HQy := Lib.hid (HQy.out.later hb36)
  have HQz := Lib.hid (HQz.out.later hb36)
  have HQu := Lib.hid (HQu.out.later hb36)
  have HTx := Lib.hid (HTx.out.later hb36)
  have HTy := Lib.hid (HTy.out.later hb36)
  have HTz := Lib.hid (HTz.out.later hb36)
  have HTu := Lib.hid (HTu.out.later hb36)
  have HTg := Lib.hid (HTg.out.later hb36)
  have HTh := Lib.hid (HTh.out.later hb36)
  have HQg := Lib.hid hq38
  have HW37 := Lib.hid hw35
  have HZ39 := Lib.hid (show w33.heap.size + 1 = x34.heap.size by rw [← hw35]; simp)
  clear hw35 hb36 hq38
  obtain ⟨x40, hw41, hb42, hq44⟩ := alloc_new x34 #[.bool false, .slice oh 0 dh] 28
  have HM := Lib.hid (HM.out.later hb42)
  have HK := Lib.hid (HK.out.trans (.of hb42))
  have HQx := Lib.hid (HQx.out.later hb42)
  have HQy := Lib.hid (HQy.out.later hb42)
  have HQz := Lib.hid (HQz.out.later hb42)
  have HQu := Lib.hid (HQu.out.later hb42)
  have HQg := Lib.hid (HQg.out.later hb42)
  have HTx := Lib.hid (HTx.out.later hb42)
  have HTy := Lib.hid (HTy.out.later hb42)
  have HTz := Lib.hid (HTz.out.later hb42)
  have HTu := Lib.hid (HTu.out.later hb42)
  have HTg := Lib.hid (HTg.out.later hb42)
  have HTh := Lib.hid (HTh.out.later hb42)
  have HQh := Lib.hid hq44
  have HW43 := Lib.hid hw41
  have HZ45 := Lib.hid (show x34.heap.size + 1 = x40.heap.size by rw [← hw41]; simp)
  clear hw41 hb42 hq44
  have hs := set_any (base := wB.heap.size) (m := m) (W := (vW (⟨xa, xl⟩ : Ns) (⟨ya, yl⟩ : Ns))) (i := 1) (k := 1) (sa := za) (sl := zl) (a1 := oz) (c1 := dz) HM.out (HK.out.gm HG.out) HTz.out HFz.out.r (by have := HFz.out.len; omega) HFz.out.l
  have HS := Lib.hid (show Calls Tryd.prog 12 #[.pointer (some ⟨m, 0, none⟩), .int .i64 1, .int .i64 1, .agg #[.bool za, .slice oz zl.length dz]] x40 (SetIs wB.heap.size m (vW (⟨xa, xl⟩ : Ns) (⟨ya, yl⟩ : Ns)) 1 1 ⟨za, zl⟩ x40) from hs)
  clear hs
  have zc0 : x40.cell? ⟨w18.heap.size, 0, none⟩ = some (.bool za) := HQz.out.cell 0
  have zc1 : x40.cell? ⟨w18.heap.size, 1, none⟩ = some (.slice oz zl.length dz) := HQz.out.cell 1
  go_wp2_with (rw [HW37.out, HW43.out, HZ39.out])
  refine HS.out.mono ?_
  rintro e w46 ⟨v1, v2, rfl, hv1, hv2, hm2, hk2⟩
  rw [HE4.out.1]
  rw [HE4.out.2.1] at hm2
  rw [HE4.out.2.2.1] at hv1
  rw [HE4.out.2.2.2] at hv2
  obtain ⟨op, dp, rfl, ht1⟩ := hv1.shape
  obtain ⟨oq, dq, rfl, ht2⟩ := hv2.shape
  dsimp only
  have HM := Lib.hid hm2
  have HK := Lib.hid (HK.out.trans hk2)
  have HQx := Lib.hid (hk2.blk HQx.out)
  have HQy := Lib.hid (hk2.blk HQy.out)
  have HQz := Lib.hid (hk2.blk HQz.out)
  have HQu := Lib.hid (hk2.blk HQu.out)
  have HQg := Lib.hid (hk2.blk HQg.out)
  have HQh := Lib.hid (hk2.blk HQh.out)
  have HTx := Lib.hid (hk2.ts HTx.out)
  have HTy := Lib.hid (hk2.ts HTy.out)
  have HTz := Lib.hid (hk2.ts HTz.out)
  have HTu := Lib.hid (hk2.ts HTu.out)
  have HTg := Lib.hid (hk2.ts HTg.out)
  have HTh := Lib.hid (hk2.ts HTh.out)
  clear hm2 hk2 HS zc0 zc1
  have HTp := Lib.hid ht1
  have HTq := Lib.hid ht2
  clear ht1 ht2
  obtain ⟨x47, hw48, hb49, hq51⟩ := alloc_new w46 #[.bool pa, .slice op pl.length dp] 28
  have HM := Lib.hid (HM.out.later hb49)
  have HK := Lib.hid (HK.out.trans (.of hb49))
  have HQx := Lib.hid (HQx.out.later hb49)
  have HQy := Lib.hid (HQy.out.later hb49)
  have HQz := Lib.hid (HQz.out.later hb49)
  have HQu := Lib.hid (HQu.out.later hb49)
  have HQg := Lib.hid (HQg.out.later hb49)
  have HQh := Lib.hid (HQh.out.later hb49)
  have HTx := Lib.hid (HTx.out.later hb49)
  have HTy := Lib.hid (HTy.out.later hb49)
  have HTz := Lib.hid (HTz.out.later hb49)
  have HTu := Lib.hid (HTu.out.later hb49)
  have HTg := Lib.hid (HTg.out.later hb49)
  have HTh := Lib.hid (HTh.out.later hb49)
  have HTp := Lib.hid (HTp.out.later hb49)
  have HTq := Lib.hid (HTq.out.later hb49)
  have HQp := Lib.hid hq51
  have HW50 := Lib.hid hw48
  have HZ52 := Lib.hid (show w46.heap.size + 1 = x47.heap.size by rw [← hw48]; simp)
  clear hw48 hb49 hq51
  obtain ⟨x53, hw54, hb55, hq57⟩ := alloc_new x47 #[.bool qa, .slice oq ql.length dq] 28
  have HM := Lib.hid (HM.out.later hb55)
  have HK := Lib.hid (HK.out.trans (.of hb55))
  have HQx := Lib.hid (HQx.out.later hb55)
  have HQy := Lib.hid (HQy.out.later hb55)
  have HQz := Lib.hid (HQz.out.later hb55)
  have HQu := Lib.hid (HQu.out.later hb55)
  have HQg := Lib.hid (HQg.out.later hb55)
  have HQh := Lib.hid (HQh.out.later hb55)
  have HQp := Lib.hid (HQp.out.later hb55)
  have HTx := Lib.hid (HTx.out.later hb55)
  have HTy := Lib.hid (HTy.out.later hb55)
  have HTz := Lib.hid (HTz.out.later hb55)
  have HTu := Lib.hid (HTu.out.later hb55)
  have HTg := Lib.hid (HTg.out.later hb55)
  have HTh := Lib.hid (HTh.out.later hb55)
  have HTp := Lib.hid (HTp.out.later hb55)
  have HTq := Lib.hid (HTq.out.later hb55)
  have HQq := Lib.hid hq57
  have HW56 := Lib.hid hw54
  have HZ58 := Lib.hid (show x47.heap.size + 1 = x53.heap.size by rw [← hw54]; simp)
  clear hw54 hb55 hq57
  have hs := set_any (base := wB.heap.size) (m := m) (W := (vW (⟨za, zl⟩ : Ns) (⟨ya, yl⟩ : Ns))) (i := 1) (k := 1) (sa := xa) (sl := xl) (a1 := ox) (c1 := dx) HM.out (HK.out.gm HG.out) HTx.out HFx.out.r (by have := HFx.out.len; omega) HFx.out.l
  have HS := Lib.hid (show Calls Tryd.prog 12 #[.pointer (some ⟨m, 0, none⟩), .int .i64 1, .int .i64 1, .agg #[.bool xa, .slice ox xl.length dx]] x53 (SetIs wB.heap.size m (vW (⟨za, zl⟩ : Ns) (⟨ya, yl⟩ : Ns)) 1 1 ⟨xa, xl⟩ x53) from hs)
  clear hs
  have xc0 : x53.cell? ⟨w2.heap.size, 0, none⟩ = some (.bool xa) := HQx.out.cell 0
  have xc1 : x53.cell? ⟨w2.heap.size, 1, none⟩ = some (.slice ox xl.length dx) := HQx.out.cell 1
  go_wp2_with (rw [HW50.out, HW56.out, HZ52.out])
  refine HS.out.mono ?_
  rintro e w59 ⟨v1, v2, rfl, hv1, hv2, hm2, hk2⟩
  rw [HE5.out.1]
  rw [HE5.out.2.1] at hm2
  rw [HE5.out.2.2.1] at hv1
  rw [HE5.out.2.2.2] at hv2
  obtain ⟨or, dr, rfl, ht1⟩ := hv1.shape
  obtain ⟨os, ds, rfl, ht2⟩ := hv2.shape
  dsimp only
  have HM := Lib.hid hm2
  have HK := Lib.hid (HK.out.trans hk2)
  have HQx := Lib.hid (hk2.blk HQx.out)
  have HQy := Lib.hid (hk2.blk HQy.out)
  have HQz := Lib.hid (hk2.blk HQz.out)
  have HQu := Lib.hid (hk2.blk HQu.out)
  have HQg := Lib.hid (hk2.blk HQg.out)
  have HQh := Lib.hid (hk2.blk HQh.out)
  have HQp := Lib.hid (hk2.blk HQp.out)
  have HQq := Lib.hid (hk2.blk HQq.out)
  have HTx := Lib.hid (hk2.ts HTx.out)
  have HTy := Lib.hid (hk2.ts HTy.out)
  have HTz := Lib.hid (hk2.ts HTz.out)
  have HTu := Lib.hid (hk2.ts HTu.out)
  have HTg := Lib.hid (hk2.ts HTg.out)
  have HTh := Lib.hid (hk2.ts HTh.out)
  have HTp := Lib.hid (hk2.ts HTp.out)
  have HTq := Lib.hid (hk2.ts HTq.out)
  clear hm2 hk2 HS xc0 xc1
  have HTr := Lib.hid ht1
  have HTs := Lib.hid ht2
  clear ht1 ht2
  obtain ⟨x60, hw61, hb62, hq64⟩ := alloc_new w59 #[.bool qa, .slice or ql.length dr] 28
  have HM := Lib.hid (HM.out.later hb62)
  have HK := Lib.hid (HK.out.trans (.of hb62))
  have HQx := Lib.hid (HQx.out.later hb62)
  have HQy := Lib.hid (HQy.out.later hb62)
  have HQz := Lib.hid (HQz.out.later hb62)
  have HQu := Lib.hid (HQu.out.later hb62)
  have HQg := Lib.hid (HQg.out.later hb62)
  have HQh := Lib.hid (HQh.out.later hb62)
  have HQp := Lib.hid (HQp.out.later hb62)
  have HQq := Lib.hid (HQq.out.later hb62)
  have HTx := Lib.hid (HTx.out.later hb62)
  have HTy := Lib.hid (HTy.out.later hb62)
  have HTz := Lib.hid (HTz.out.later hb62)
  have HTu := Lib.hid (HTu.out.later hb62)
  have HTg := Lib.hid (HTg.out.later hb62)
  have HTh := Lib.hid (HTh.out.later hb62)
  have HTp := Lib.hid (HTp.out.later hb62)
  have HTq := Lib.hid (HTq.out.later hb62)
  have HTr := Lib.hid (HTr.out.later hb62)
  have HTs := Lib.hid (HTs.out.later hb62)
  have HQr := Lib.hid hq64
  have HW63 := Lib.hid hw61
  have HZ65 := Lib.hid (show w59.heap.size + 1 = x60.heap.size by rw [← hw61]; simp)
  clear hw61 hb62 hq64
  obtain ⟨x66, hw67, hb68, hq70⟩ := alloc_new x60 #[.bool pa, .slice os pl.length ds] 28
  have HM := Lib.hid (HM.out.later hb68)
  have HK := Lib.hid (HK.out.trans (.of hb68))
  have HQx := Lib.hid (HQx.out.later hb68)
  have HQy := Lib.hid (HQy.out.later hb68)
  have HQz := Lib.hid (HQz.out.later hb68)
  have HQu := Lib.hid (HQu.out.later hb68)
  have HQg := Lib.hid (HQg.out.later hb68)
  have HQh := Lib.hid (HQh.out.later hb68)
  have HQp := Lib.hid (HQp.out.later hb68)
  have HQq := Lib.hid (HQq.out.later hb68)
  have HQr := Lib.hid (HQr.out.later hb68)
  have HTx := Lib.hid (HTx.out.later hb68)
  have HTy := Lib.hid (HTy.out.later hb68)
  have HTz := Lib.hid (HTz.out.later hb68)
  have HTu := Lib.hid (HTu.out.later hb68)
  have HTg := Lib.hid (HTg.out.later hb68)
  have HTh := Lib.hid (HTh.out.later hb68)
  have HTp := Lib.hid (HTp.out.later hb68)
  have HTq := Lib.hid (HTq.out.later hb68)
  have HTr := Lib.hid (HTr.out.later hb68)
  have HTs := Lib.hid (HTs.out.later hb68)
  have HQs := Lib.hid hq70
  have HW69 := Lib.hid hw67
  have HZ71 := Lib.hid (show x60.heap.size + 1 = x66.heap.size by rw [← hw67]; simp)
  clear hw67 hb68 hq70
  clear HE3 HE4 HE5
  obtain ⟨W2, hW2⟩ : ∃ W2 : Wants, (vW (⟨xa, xl⟩ : Ns) (⟨ya, yl⟩ : Ns)) = W2 := ⟨_, rfl⟩
  rw [hW2] at HM HU
  clear hW2
  go_wp2_with (rw [HW63.out, HW69.out, HZ65.out])
  obtain ⟨w1001, hw1002, hb1003⟩ := drew_new x66
  have q1004 := HM.out.later hb1003
  have q1005 := HK.out.later hb1003
  have q1006 := HQg.out.later hb1003
  have q1007 := HQh.out.later hb1003
  have q1008 := HQp.out.later hb1003
  have q1009 := HQq.out.later hb1003
  have q1010 := HQr.out.later hb1003
  have q1011 := HQs.out.later hb1003
  have q1012 := HQu.out.later hb1003
  have q1013 := HTp.out.later hb1003
  have q1014 := HTq.out.later hb1003
  have q1015 := HTr.out.later hb1003
  have q1016 := HTs.out.later hb1003
  have q1017 := HTu.out.later hb1003
  refine wp_region_held_drew (S := (fun w' => w'.cell? ⟨w33.heap.size, 0, none⟩ = some (.bool false) ∧ w'.cell? ⟨w33.heap.size, 1, none⟩ = some (.slice og 0 dg) ∧ w'.cell? ⟨x34.heap.size, 0, none⟩ = some (.bool false) ∧ w'.cell? ⟨x34.heap.size, 1, none⟩ = some (.slice oh 0 dh) ∧ w'.cell? ⟨w46.heap.size, 0, none⟩ = some (.bool pa) ∧ w'.cell? ⟨w46.heap.size, 1, none⟩ = some (.slice op pl.length dp) ∧ w'.cell? ⟨x47.heap.size, 0, none⟩ = some (.bool qa) ∧ w'.cell? ⟨x47.heap.size, 1, none⟩ = some (.slice oq ql.length dq) ∧ w'.cell? ⟨w59.heap.size, 0, none⟩ = some (.bool qa) ∧ w'.cell? ⟨w59.heap.size, 1, none⟩ = some (.slice or ql.length dr) ∧ w'.cell? ⟨x60.heap.size, 0, none⟩ = some (.bool pa) ∧ w'.cell? ⟨x60.heap.size, 1, none⟩ = some (.slice os pl.length ds) ∧ w'.cell? ⟨wU.heap.size, 0, none⟩ = some (.bool ua) ∧ w'.cell? ⟨wU.heap.size, 1, none⟩ = some (.slice ou ul.length du) ∧ True)) (by kernel_rfl) (by rw [hw1002]; exact ⟨q1006.cell 0, q1006.cell 1, q1007.cell 0, q1007.cell 1, q1008.cell 0, q1008.cell 1, q1009.cell 0, q1009.cell 1, q1010.cell 0, q1010.cell 1, q1011.cell 0, q1011.cell 1, q1012.cell 0, q1012.cell 1, trivial⟩) (fun hHeld => ?_)
  rw [hw1002] at hHeld ⊢
  refine wpAnyH_take (i := 0) (oi := { dst := some 66, op := Op.move (Operand.tmp 7), type := 4, pos := "keeps.go:153", after := #[], guard := none }) (v := ?v1001) rfl (by kernel_rfl) (by kernel_rfl) (by kernel_rfl) (fun _ _ _ h => h) (Or.inl ⟨by rfl, ?hy1001⟩) (by assumption) ?rest1001
  case hy1001 => (intro w1 hSw; (try dsimp only at hSw); obtain ⟨h0, h1, h2, h3, h4, h5, h6, h7, h8, h9, h10, h11, h12, h13, -⟩ := hSw; go_simp; try with_reducible rfl)
  try simp only [Act.put, List.setIfInBounds_toArray, List.set_cons_zero, List.set_cons_succ]
  refine wpAnyH_take (i := 1) (oi := { dst := some 67, op := Op.move (Operand.tmp 66), type := 4, pos := "keeps.go:153", after := #[{ on := 0, ground := Ground.data }], guard := none }) (v := ?v1002) rfl (by kernel_rfl) (by kernel_rfl) (by kernel_rfl) (fun _ _ _ h => h) (Or.inl ⟨by rfl, ?hy1002⟩) (by assumption) ?rest1002
  case hy1002 => (intro w1 hSw; (try dsimp only at hSw); obtain ⟨h0, h1, h2, h3, h4, h5, h6, h7, h8, h9, h10, h11, h12, h13, -⟩ := hSw; go_simp; try with_reducible rfl)
  try simp only [Act.put, List.setIfInBounds_toArray, List.set_cons_zero, List.set_cons_succ]
  refine wpAnyH_take (i := 2) (oi := { dst := some 68, op := Op.move (Operand.tmp 15), type := 35, pos := "keeps.go:153", after := #[{ on := 1, ground := Ground.guard }], guard := some (1, true) }) (v := ?v1003) rfl (by kernel_rfl) (by kernel_rfl) (by kernel_rfl) (fun _ _ _ h => h) (Or.inl ⟨by rfl, ?hy1003⟩) (by assumption) ?rest1003
  case hy1003 => (intro w1 hSw; (try dsimp only at hSw); obtain ⟨h0, h1, h2, h3, h4, h5, h6, h7, h8, h9, h10, h11, h12, h13, -⟩ := hSw; go_simp; try with_reducible rfl)
  try simp only [Act.put, List.setIfInBounds_toArray, List.set_cons_zero, List.set_cons_succ]
  refine wpAnyH_take (i := 3) (oi := { dst := some 69, op := Op.binOp BinOp.eql 35 (Operand.tmp 68) (Operand.const (Value.int IntKind.i64 0)) 35, type := 4, pos := "keeps.go:153", after := #[{ on := 2, ground := Ground.data }, { on := 1, ground := Ground.guard }], guard := some (1, true) }) (v := ?v1004) rfl (by kernel_rfl) (by kernel_rfl) (by kernel_rfl) (fun _ _ _ h => h) (Or.inl ⟨by rfl, ?hy1004⟩) (by assumption) ?rest1004
  case hy1004 => (intro w1 hSw; (try dsimp only at hSw); obtain ⟨h0, h1, h2, h3, h4, h5, h6, h7, h8, h9, h10, h11, h12, h13, -⟩ := hSw; go_simp; try with_reducible rfl)
  try simp only [Act.put, List.setIfInBounds_toArray, List.set_cons_zero, List.set_cons_succ]
  refine wpAnyH_take (i := 4) (oi := { dst := some 70, op := Op.pick (Operand.tmp 67) (Operand.tmp 69) (Operand.const (Value.bool false)), type := 4, pos := "keeps.go:153", after := #[{ on := 1, ground := Ground.data }, { on := 3, ground := Ground.data }], guard := none }) (v := ?v1005) rfl (by kernel_rfl) (by kernel_rfl) (by kernel_rfl) (fun _ _ _ h => h) (Or.inl ⟨by rfl, ?hy1005⟩) (by assumption) ?rest1005
  case hy1005 => (intro w1 hSw; (try dsimp only at hSw); obtain ⟨h0, h1, h2, h3, h4, h5, h6, h7, h8, h9, h10, h11, h12, h13, -⟩ := hSw; go_simp; try with_reducible rfl)
  try simp only [Act.put, List.setIfInBounds_toArray, List.set_cons_zero, List.set_cons_succ]
  refine wpAnyH_take (i := 5) (oi := { dst := some 71, op := Op.move (Operand.tmp 70), type := 4, pos := "keeps.go:153", after := #[{ on := 4, ground := Ground.data }, { on := 1, ground := Ground.chain }], guard := none }) (v := ?v1006) rfl (by kernel_rfl) (by kernel_rfl) (by kernel_rfl) (fun _ _ _ h => h) (Or.inl ⟨by rfl, ?hy1006⟩) (by assumption) ?rest1006
  case hy1006 => (intro w1 hSw; (try dsimp only at hSw); obtain ⟨h0, h1, h2, h3, h4, h5, h6, h7, h8, h9, h10, h11, h12, h13, -⟩ := hSw; go_simp; try with_reducible rfl)
  try simp only [Act.put, List.setIfInBounds_toArray, List.set_cons_zero, List.set_cons_succ]
  refine wpAnyH_take (i := 6) (oi := { dst := some 72, op := Op.move (Operand.tmp 18), type := 35, pos := "keeps.go:153", after := #[{ on := 5, ground := Ground.guard }], guard := some (5, true) }) (v := ?v1007) rfl (by kernel_rfl) (by kernel_rfl) (by kernel_rfl) (fun _ _ _ h => h) (Or.inl ⟨by rfl, ?hy1007⟩) (by assumption) ?rest1007
  case hy1007 => (intro w1 hSw; (try dsimp only at hSw); obtain ⟨h0, h1, h2, h3, h4, h5, h6, h7, h8, h9, h10, h11, h12, h13, -⟩ := hSw; go_simp; try with_reducible rfl)
  try simp only [Act.put, List.setIfInBounds_toArray, List.set_cons_zero, List.set_cons_succ]
  refine wpAnyH_take (i := 7) (oi := { dst := some 73, op := Op.binOp BinOp.eql 35 (Operand.tmp 72) (Operand.const (Value.int IntKind.i64 0)) 35, type := 4, pos := "keeps.go:153", after := #[{ on := 6, ground := Ground.data }, { on := 5, ground := Ground.guard }], guard := some (5, true) }) (v := ?v1008) rfl (by kernel_rfl) (by kernel_rfl) (by kernel_rfl) (fun _ _ _ h => h) (Or.inl ⟨by rfl, ?hy1008⟩) (by assumption) ?rest1008
  case hy1008 => (intro w1 hSw; (try dsimp only at hSw); obtain ⟨h0, h1, h2, h3, h4, h5, h6, h7, h8, h9, h10, h11, h12, h13, -⟩ := hSw; go_simp; try with_reducible rfl)
  try simp only [Act.put, List.setIfInBounds_toArray, List.set_cons_zero, List.set_cons_succ]
  refine wpAnyH_take (i := 8) (oi := { dst := some 74, op := Op.pick (Operand.tmp 71) (Operand.tmp 73) (Operand.const (Value.bool false)), type := 4, pos := "keeps.go:153", after := #[{ on := 5, ground := Ground.data }, { on := 7, ground := Ground.data }], guard := none }) (v := ?v1009) rfl (by kernel_rfl) (by kernel_rfl) (by kernel_rfl) (fun _ _ _ h => h) (Or.inl ⟨by rfl, ?hy1009⟩) (by assumption) ?rest1009
  case hy1009 => (intro w1 hSw; (try dsimp only at hSw); obtain ⟨h0, h1, h2, h3, h4, h5, h6, h7, h8, h9, h10, h11, h12, h13, -⟩ := hSw; go_simp; try with_reducible rfl)
  try simp only [Act.put, List.setIfInBounds_toArray, List.set_cons_zero, List.set_cons_succ]
  refine wpAnyH_take (i := 9) (oi := { dst := some 75, op := Op.move (Operand.tmp 74), type := 4, pos := "keeps.go:153", after := #[{ on := 8, ground := Ground.data }, { on := 5, ground := Ground.chain }], guard := none }) (v := ?v1010) rfl (by kernel_rfl) (by kernel_rfl) (by kernel_rfl) (fun _ _ _ h => h) (Or.inl ⟨by rfl, ?hy1010⟩) (by assumption) ?rest1010
  case hy1010 => (intro w1 hSw; (try dsimp only at hSw); obtain ⟨h0, h1, h2, h3, h4, h5, h6, h7, h8, h9, h10, h11, h12, h13, -⟩ := hSw; go_simp; try with_reducible rfl)
  try simp only [Act.put, List.setIfInBounds_toArray, List.set_cons_zero, List.set_cons_succ]
  refine wpAnyH_take (i := 10) (oi := { dst := some 76, op := Op.move (Operand.tmp 21), type := 35, pos := "keeps.go:153", after := #[{ on := 9, ground := Ground.guard }], guard := some (9, true) }) (v := ?v1011) rfl (by kernel_rfl) (by kernel_rfl) (by kernel_rfl) (fun _ _ _ h => h) (Or.inl ⟨by rfl, ?hy1011⟩) (by assumption) ?rest1011
  case hy1011 => (intro w1 hSw; (try dsimp only at hSw); obtain ⟨h0, h1, h2, h3, h4, h5, h6, h7, h8, h9, h10, h11, h12, h13, -⟩ := hSw; go_simp; try with_reducible rfl)
  try simp only [Act.put, List.setIfInBounds_toArray, List.set_cons_zero, List.set_cons_succ]
  refine wpAnyH_take (i := 11) (oi := { dst := some 77, op := Op.binOp BinOp.eql 35 (Operand.tmp 76) (Operand.const (Value.int IntKind.i64 0)) 35, type := 4, pos := "keeps.go:153", after := #[{ on := 10, ground := Ground.data }, { on := 9, ground := Ground.guard }], guard := some (9, true) }) (v := ?v1012) rfl (by kernel_rfl) (by kernel_rfl) (by kernel_rfl) (fun _ _ _ h => h) (Or.inl ⟨by rfl, ?hy1012⟩) (by assumption) ?rest1012
  case hy1012 => (intro w1 hSw; (try dsimp only at hSw); obtain ⟨h0, h1, h2, h3, h4, h5, h6, h7, h8, h9, h10, h11, h12, h13, -⟩ := hSw; go_simp; try with_reducible rfl)
  try simp only [Act.put, List.setIfInBounds_toArray, List.set_cons_zero, List.set_cons_succ]
  refine wpAnyH_take (i := 12) (oi := { dst := some 78, op := Op.pick (Operand.tmp 75) (Operand.tmp 77) (Operand.const (Value.bool false)), type := 4, pos := "keeps.go:153", after := #[{ on := 9, ground := Ground.data }, { on := 11, ground := Ground.data }], guard := none }) (v := ?v1013) rfl (by kernel_rfl) (by kernel_rfl) (by kernel_rfl) (fun _ _ _ h => h) (Or.inl ⟨by rfl, ?hy1013⟩) (by assumption) ?rest1013
  case hy1013 => (intro w1 hSw; (try dsimp only at hSw); obtain ⟨h0, h1, h2, h3, h4, h5, h6, h7, h8, h9, h10, h11, h12, h13, -⟩ := hSw; go_simp; try with_reducible rfl)
  try simp only [Act.put, List.setIfInBounds_toArray, List.set_cons_zero, List.set_cons_succ]
  refine wpAnyH_take (i := 13) (oi := { dst := some 79, op := Op.move (Operand.tmp 78), type := 4, pos := "keeps.go:153", after := #[{ on := 12, ground := Ground.data }, { on := 9, ground := Ground.chain }], guard := none }) (v := ?v1014) rfl (by kernel_rfl) (by kernel_rfl) (by kernel_rfl) (fun _ _ _ h => h) (Or.inl ⟨by rfl, ?hy1014⟩) (by assumption) ?rest1014
  case hy1014 => (intro w1 hSw; (try dsimp only at hSw); obtain ⟨h0, h1, h2, h3, h4, h5, h6, h7, h8, h9, h10, h11, h12, h13, -⟩ := hSw; go_simp; try with_reducible rfl)
  try simp only [Act.put, List.setIfInBounds_toArray, List.set_cons_zero, List.set_cons_succ]
  refine wpAnyH_take (i := 14) (oi := { dst := some 80, op := Op.load 28 (Operand.tmp 13), type := 28, pos := "keeps.go:153", after := #[{ on := 13, ground := Ground.guard }], guard := some (13, true) }) (v := ?v1015) rfl (by kernel_rfl) (by kernel_rfl) (by kernel_rfl) (fun _ _ _ h => h) (Or.inl ⟨by rfl, ?hy1015⟩) (by assumption) ?rest1015
  case hy1015 => (intro w1 hSw; (try dsimp only at hSw); obtain ⟨h0, h1, h2, h3, h4, h5, h6, h7, h8, h9, h10, h11, h12, h13, -⟩ := hSw; go_simp; try with_reducible rfl)
  try simp only [Act.put, List.setIfInBounds_toArray, List.set_cons_zero, List.set_cons_succ]
  refine wpAnyH_ready (rs := [15]) (by kernel_rfl) (by simp) ?_
  refine AllReadyH.cons (o := { dst := some 81, op := Op.call { callee := Callee.value (Operand.func 18), args := #[Operand.tmp 80], argTypes := #[28] }, type := 4, pos := "keeps.go:153", after := #[{ on := 14, ground := Ground.data }, { on := 13, ground := Ground.chain }, { on := 13, ground := Ground.guard }], guard := some (13, true) }) rfl (fun K hK => ?_) AllReadyH.nil
  go_simp
  refine (empty_any (sa := false) (sl := []) (B := true) rfl).mono ?_
  rintro e w1018 ⟨rfl, hb1019⟩
  have q1020 := q1004.later hb1019
  have q1021 := q1005.later hb1019
  have q1022 := q1006.later hb1019
  have q1023 := q1007.later hb1019
  have q1024 := q1008.later hb1019
  have q1025 := q1009.later hb1019
  have q1026 := q1010.later hb1019
  have q1027 := q1011.later hb1019
  have q1028 := q1012.later hb1019
  have q1029 := q1013.later hb1019
  have q1030 := q1014.later hb1019
  have q1031 := q1015.later hb1019
  have q1032 := q1016.later hb1019
  have q1033 := q1017.later hb1019
  refine hK.out _ _ (⟨q1022.cell 0, q1022.cell 1, q1023.cell 0, q1023.cell 1, q1024.cell 0, q1024.cell 1, q1025.cell 0, q1025.cell 1, q1026.cell 0, q1026.cell 1, q1027.cell 0, q1027.cell 1, q1028.cell 0, q1028.cell 1, trivial⟩) (fun hHeld => ?_)
  clear hK K
  try simp only [Act.put, List.setIfInBounds_toArray, List.set_cons_zero, List.set_cons_succ]
  refine wpAnyH_take (i := 16) (oi := { dst := some 82, op := Op.pick (Operand.tmp 79) (Operand.tmp 81) (Operand.const (Value.bool false)), type := 4, pos := "keeps.go:153", after := #[{ on := 13, ground := Ground.data }, { on := 15, ground := Ground.data }], guard := none }) (v := ?v1016) rfl (by kernel_rfl) (by kernel_rfl) (by kernel_rfl) (fun _ _ _ h => h) (Or.inl ⟨by rfl, ?hy1016⟩) (by assumption) ?rest1016
  case hy1016 => (intro w1 hSw; (try dsimp only at hSw); obtain ⟨h0, h1, h2, h3, h4, h5, h6, h7, h8, h9, h10, h11, h12, h13, -⟩ := hSw; go_simp; try with_reducible rfl)
  try simp only [Act.put, List.setIfInBounds_toArray, List.set_cons_zero, List.set_cons_succ]
  refine wpAnyH_take (i := 17) (oi := { dst := some 83, op := Op.move (Operand.tmp 82), type := 4, pos := "keeps.go:153", after := #[{ on := 16, ground := Ground.data }, { on := 15, ground := Ground.chain }], guard := none }) (v := ?v1017) rfl (by kernel_rfl) (by kernel_rfl) (by kernel_rfl) (fun _ _ _ h => h) (Or.inl ⟨by rfl, ?hy1017⟩) (by assumption) ?rest1017
  case hy1017 => (intro w1 hSw; (try dsimp only at hSw); obtain ⟨h0, h1, h2, h3, h4, h5, h6, h7, h8, h9, h10, h11, h12, h13, -⟩ := hSw; go_simp; try with_reducible rfl)
  try simp only [Act.put, List.setIfInBounds_toArray, List.set_cons_zero, List.set_cons_succ]
  refine wpAnyH_take (i := 18) (oi := { dst := some 84, op := Op.load 28 (Operand.tmp 14), type := 28, pos := "keeps.go:153", after := #[{ on := 17, ground := Ground.guard }], guard := some (17, true) }) (v := ?v1018) rfl (by kernel_rfl) (by kernel_rfl) (by kernel_rfl) (fun _ _ _ h => h) (Or.inl ⟨by rfl, ?hy1018⟩) (by assumption) ?rest1018
  case hy1018 => (intro w1 hSw; (try dsimp only at hSw); obtain ⟨h0, h1, h2, h3, h4, h5, h6, h7, h8, h9, h10, h11, h12, h13, -⟩ := hSw; go_simp; try with_reducible rfl)
  try simp only [Act.put, List.setIfInBounds_toArray, List.set_cons_zero, List.set_cons_succ]
  refine wpAnyH_ready (rs := [19]) (by kernel_rfl) (by simp) ?_
  refine AllReadyH.cons (o := { dst := some 85, op := Op.call { callee := Callee.value (Operand.func 18), args := #[Operand.tmp 84], argTypes := #[28] }, type := 4, pos := "keeps.go:153", after := #[{ on := 18, ground := Ground.data }, { on := 17, ground := Ground.chain }, { on := 17, ground := Ground.guard }], guard := some (17, true) }) rfl (fun K hK => ?_) AllReadyH.nil
  go_simp
  refine (empty_any (sa := false) (sl := []) (B := true) rfl).mono ?_
  rintro e w1034 ⟨rfl, hb1035⟩
  have q1036 := q1020.later hb1035
  have q1037 := q1021.later hb1035
  have q1038 := q1022.later hb1035
  have q1039 := q1023.later hb1035
  have q1040 := q1024.later hb1035
  have q1041 := q1025.later hb1035
  have q1042 := q1026.later hb1035
  have q1043 := q1027.later hb1035
  have q1044 := q1028.later hb1035
  have q1045 := q1029.later hb1035
  have q1046 := q1030.later hb1035
  have q1047 := q1031.later hb1035
  have q1048 := q1032.later hb1035
  have q1049 := q1033.later hb1035
  refine hK.out _ _ (⟨q1038.cell 0, q1038.cell 1, q1039.cell 0, q1039.cell 1, q1040.cell 0, q1040.cell 1, q1041.cell 0, q1041.cell 1, q1042.cell 0, q1042.cell 1, q1043.cell 0, q1043.cell 1, q1044.cell 0, q1044.cell 1, trivial⟩) (fun hHeld => ?_)
  clear hK K
  try simp only [Act.put, List.setIfInBounds_toArray, List.set_cons_zero, List.set_cons_succ]
  refine wpAnyH_take (i := 20) (oi := { dst := some 86, op := Op.pick (Operand.tmp 83) (Operand.tmp 85) (Operand.const (Value.bool false)), type := 4, pos := "keeps.go:153", after := #[{ on := 17, ground := Ground.data }, { on := 19, ground := Ground.data }], guard := none }) (v := ?v1019) rfl (by kernel_rfl) (by kernel_rfl) (by kernel_rfl) (fun _ _ _ h => h) (Or.inl ⟨by rfl, ?hy1019⟩) (by assumption) ?rest1019
  case hy1019 => (intro w1 hSw; (try dsimp only at hSw); obtain ⟨h0, h1, h2, h3, h4, h5, h6, h7, h8, h9, h10, h11, h12, h13, -⟩ := hSw; go_simp; try with_reducible rfl)
  try simp only [Act.put, List.setIfInBounds_toArray, List.set_cons_zero, List.set_cons_succ]
  refine wpAnyH_take (i := 21) (oi := { dst := some 87, op := Op.move (Operand.tmp 86), type := 4, pos := "keeps.go:153", after := #[{ on := 20, ground := Ground.data }, { on := 19, ground := Ground.chain }], guard := none }) (v := ?v1020) rfl (by kernel_rfl) (by kernel_rfl) (by kernel_rfl) (fun _ _ _ h => h) (Or.inl ⟨by rfl, ?hy1020⟩) (by assumption) ?rest1020
  case hy1020 => (intro w1 hSw; (try dsimp only at hSw); obtain ⟨h0, h1, h2, h3, h4, h5, h6, h7, h8, h9, h10, h11, h12, h13, -⟩ := hSw; go_simp; try with_reducible rfl)
  try simp only [Act.put, List.setIfInBounds_toArray, List.set_cons_zero, List.set_cons_succ]
  refine wpAnyH_take (i := 22) (oi := { dst := some 88, op := Op.load 28 (Operand.tmp 16), type := 28, pos := "keeps.go:153", after := #[{ on := 21, ground := Ground.guard }], guard := some (21, true) }) (v := ?v1021) rfl (by kernel_rfl) (by kernel_rfl) (by kernel_rfl) (fun _ _ _ h => h) (Or.inl ⟨by rfl, ?hy1021⟩) (by assumption) ?rest1021
  case hy1021 => (intro w1 hSw; (try dsimp only at hSw); obtain ⟨h0, h1, h2, h3, h4, h5, h6, h7, h8, h9, h10, h11, h12, h13, -⟩ := hSw; go_simp; try with_reducible rfl)
  try simp only [Act.put, List.setIfInBounds_toArray, List.set_cons_zero, List.set_cons_succ]
  refine wpAnyH_take (i := 23) (oi := { dst := some 89, op := Op.load 28 (Operand.tmp 20), type := 28, pos := "keeps.go:153", after := #[{ on := 21, ground := Ground.guard }], guard := some (21, true) }) (v := ?v1022) rfl (by kernel_rfl) (by kernel_rfl) (by kernel_rfl) (fun _ _ _ h => h) (Or.inl ⟨by rfl, ?hy1022⟩) (by assumption) ?rest1022
  case hy1022 => (intro w1 hSw; (try dsimp only at hSw); obtain ⟨h0, h1, h2, h3, h4, h5, h6, h7, h8, h9, h10, h11, h12, h13, -⟩ := hSw; go_simp; try with_reducible rfl)
  try simp only [Act.put, List.setIfInBounds_toArray, List.set_cons_zero, List.set_cons_succ]
  refine wpAnyH_ready (rs := [24]) (by kernel_rfl) (by simp) ?_
  refine AllReadyH.cons (o := { dst := some 90, op := Op.call { callee := Callee.value (Operand.func 15), args := #[Operand.tmp 88, Operand.tmp 89], argTypes := #[28, 28] }, type := 4, pos := "keeps.go:153", after := #[{ on := 22, ground := Ground.data }, { on := 23, ground := Ground.data }, { on := 21, ground := Ground.chain }, { on := 21, ground := Ground.guard }], guard := some (21, true) }) rfl (fun K hK => ?_) AllReadyH.nil
  go_simp
  refine (same_any (al := pl) (bl := pl) q1045 q1048 Hf3.out.fit Hf3.out.fit Hf3.out.same).mono ?_
  rintro e w1050 ⟨rfl, hb1051⟩
  have q1052 := q1036.later hb1051
  have q1053 := q1037.later hb1051
  have q1054 := q1038.later hb1051
  have q1055 := q1039.later hb1051
  have q1056 := q1040.later hb1051
  have q1057 := q1041.later hb1051
  have q1058 := q1042.later hb1051
  have q1059 := q1043.later hb1051
  have q1060 := q1044.later hb1051
  have q1061 := q1045.later hb1051
  have q1062 := q1046.later hb1051
  have q1063 := q1047.later hb1051
  have q1064 := q1048.later hb1051
  have q1065 := q1049.later hb1051
  refine hK.out _ _ (⟨q1054.cell 0, q1054.cell 1, q1055.cell 0, q1055.cell 1, q1056.cell 0, q1056.cell 1, q1057.cell 0, q1057.cell 1, q1058.cell 0, q1058.cell 1, q1059.cell 0, q1059.cell 1, q1060.cell 0, q1060.cell 1, trivial⟩) (fun hHeld => ?_)
  clear hK K
  try simp only [Act.put, List.setIfInBounds_toArray, List.set_cons_zero, List.set_cons_succ]
  refine wpAnyH_take (i := 25) (oi := { dst := some 91, op := Op.pick (Operand.tmp 87) (Operand.tmp 90) (Operand.const (Value.bool false)), type := 4, pos := "keeps.go:153", after := #[{ on := 21, ground := Ground.data }, { on := 24, ground := Ground.data }], guard := none }) (v := ?v1023) rfl (by kernel_rfl) (by kernel_rfl) (by kernel_rfl) (fun _ _ _ h => h) (Or.inl ⟨by rfl, ?hy1023⟩) (by assumption) ?rest1023
  case hy1023 => (intro w1 hSw; (try dsimp only at hSw); obtain ⟨h0, h1, h2, h3, h4, h5, h6, h7, h8, h9, h10, h11, h12, h13, -⟩ := hSw; go_simp; try with_reducible rfl)
  try simp only [Act.put, List.setIfInBounds_toArray, List.set_cons_zero, List.set_cons_succ]
  refine wpAnyH_take (i := 26) (oi := { dst := some 92, op := Op.move (Operand.tmp 91), type := 4, pos := "keeps.go:153", after := #[{ on := 25, ground := Ground.data }, { on := 24, ground := Ground.chain }], guard := none }) (v := ?v1024) rfl (by kernel_rfl) (by kernel_rfl) (by kernel_rfl) (fun _ _ _ h => h) (Or.inl ⟨by rfl, ?hy1024⟩) (by assumption) ?rest1024
  case hy1024 => (intro w1 hSw; (try dsimp only at hSw); obtain ⟨h0, h1, h2, h3, h4, h5, h6, h7, h8, h9, h10, h11, h12, h13, -⟩ := hSw; go_simp; try with_reducible rfl)
  try simp only [Act.put, List.setIfInBounds_toArray, List.set_cons_zero, List.set_cons_succ]
  refine wpAnyH_take (i := 27) (oi := { dst := some 93, op := Op.load 28 (Operand.tmp 17), type := 28, pos := "keeps.go:153", after := #[{ on := 26, ground := Ground.guard }], guard := some (26, true) }) (v := ?v1025) rfl (by kernel_rfl) (by kernel_rfl) (by kernel_rfl) (fun _ _ _ h => h) (Or.inl ⟨by rfl, ?hy1025⟩) (by assumption) ?rest1025
  case hy1025 => (intro w1 hSw; (try dsimp only at hSw); obtain ⟨h0, h1, h2, h3, h4, h5, h6, h7, h8, h9, h10, h11, h12, h13, -⟩ := hSw; go_simp; try with_reducible rfl)
  try simp only [Act.put, List.setIfInBounds_toArray, List.set_cons_zero, List.set_cons_succ]
  refine wpAnyH_take (i := 28) (oi := { dst := some 94, op := Op.load 28 (Operand.tmp 19), type := 28, pos := "keeps.go:153", after := #[{ on := 26, ground := Ground.guard }], guard := some (26, true) }) (v := ?v1026) rfl (by kernel_rfl) (by kernel_rfl) (by kernel_rfl) (fun _ _ _ h => h) (Or.inl ⟨by rfl, ?hy1026⟩) (by assumption) ?rest1026
  case hy1026 => (intro w1 hSw; (try dsimp only at hSw); obtain ⟨h0, h1, h2, h3, h4, h5, h6, h7, h8, h9, h10, h11, h12, h13, -⟩ := hSw; go_simp; try with_reducible rfl)
  try simp only [Act.put, List.setIfInBounds_toArray, List.set_cons_zero, List.set_cons_succ]
  refine wpAnyH_ready (rs := [29]) (by kernel_rfl) (by simp) ?_
  refine AllReadyH.cons (o := { dst := some 95, op := Op.call { callee := Callee.value (Operand.func 15), args := #[Operand.tmp 93, Operand.tmp 94], argTypes := #[28, 28] }, type := 4, pos := "keeps.go:153", after := #[{ on := 27, ground := Ground.data }, { on := 28, ground := Ground.data }, { on := 26, ground := Ground.chain }, { on := 26, ground := Ground.guard }], guard := some (26, true) }) rfl (fun K hK => ?_) AllReadyH.nil
  go_simp
  refine (same_any (al := ql) (bl := ql) q1062 q1063 Hf4.out.fit Hf4.out.fit Hf4.out.same).mono ?_
  rintro e w1066 ⟨rfl, hb1067⟩
  have q1068 := q1052.later hb1067
  have q1069 := q1053.later hb1067
  have q1070 := q1054.later hb1067
  have q1071 := q1055.later hb1067
  have q1072 := q1056.later hb1067
  have q1073 := q1057.later hb1067
  have q1074 := q1058.later hb1067
  have q1075 := q1059.later hb1067
  have q1076 := q1060.later hb1067
  have q1077 := q1061.later hb1067
  have q1078 := q1062.later hb1067
  have q1079 := q1063.later hb1067
  have q1080 := q1064.later hb1067
  have q1081 := q1065.later hb1067
  refine hK.out _ _ (⟨q1070.cell 0, q1070.cell 1, q1071.cell 0, q1071.cell 1, q1072.cell 0, q1072.cell 1, q1073.cell 0, q1073.cell 1, q1074.cell 0, q1074.cell 1, q1075.cell 0, q1075.cell 1, q1076.cell 0, q1076.cell 1, trivial⟩) (fun hHeld => ?_)
  clear hK K
  try simp only [Act.put, List.setIfInBounds_toArray, List.set_cons_zero, List.set_cons_succ]
  refine wpAnyH_take (i := 30) (oi := { dst := some 96, op := Op.pick (Operand.tmp 92) (Operand.tmp 95) (Operand.const (Value.bool false)), type := 4, pos := "keeps.go:153", after := #[{ on := 26, ground := Ground.data }, { on := 29, ground := Ground.data }], guard := none }) (v := ?v1027) rfl (by kernel_rfl) (by kernel_rfl) (by kernel_rfl) (fun _ _ _ h => h) (Or.inl ⟨by rfl, ?hy1027⟩) (by assumption) ?rest1027
  case hy1027 => (intro w1 hSw; (try dsimp only at hSw); obtain ⟨h0, h1, h2, h3, h4, h5, h6, h7, h8, h9, h10, h11, h12, h13, -⟩ := hSw; go_simp; try with_reducible rfl)
  try simp only [Act.put, List.setIfInBounds_toArray, List.set_cons_zero, List.set_cons_succ]
  refine wpAnyH_take (i := 31) (oi := { dst := some 97, op := Op.move (Operand.tmp 96), type := 4, pos := "keeps.go:153", after := #[{ on := 30, ground := Ground.data }, { on := 29, ground := Ground.chain }], guard := none }) (v := ?v1028) rfl (by kernel_rfl) (by kernel_rfl) (by kernel_rfl) (fun _ _ _ h => h) (Or.inl ⟨by rfl, ?hy1028⟩) (by assumption) ?rest1028
  case hy1028 => (intro w1 hSw; (try dsimp only at hSw); obtain ⟨h0, h1, h2, h3, h4, h5, h6, h7, h8, h9, h10, h11, h12, h13, -⟩ := hSw; go_simp; try with_reducible rfl)
  try simp only [Act.put, List.setIfInBounds_toArray, List.set_cons_zero, List.set_cons_succ]
  refine wpAnyH_take (i := 32) (oi := { dst := some 98, op := Op.move (Operand.tmp 8), type := 24, pos := "keeps.go:153", after := #[{ on := 31, ground := Ground.guard }], guard := some (31, true) }) (v := ?v1029) rfl (by kernel_rfl) (by kernel_rfl) (by kernel_rfl) (fun _ _ _ h => h) (Or.inl ⟨by rfl, ?hy1029⟩) (by assumption) ?rest1029
  case hy1029 => (intro w1 hSw; (try dsimp only at hSw); obtain ⟨h0, h1, h2, h3, h4, h5, h6, h7, h8, h9, h10, h11, h12, h13, -⟩ := hSw; go_simp; try with_reducible rfl)
  try simp only [Act.put, List.setIfInBounds_toArray, List.set_cons_zero, List.set_cons_succ]
  refine wpAnyH_take (i := 34) (oi := { dst := some 100, op := Op.load 28 (Operand.tmp 12), type := 28, pos := "keeps.go:153", after := #[{ on := 31, ground := Ground.guard }], guard := some (31, true) }) (v := ?v1030) rfl (by kernel_rfl) (by kernel_rfl) (by kernel_rfl) (fun _ _ _ h => h) (Or.inl ⟨by rfl, ?hy1030⟩) (by assumption) ?rest1030
  case hy1030 => (intro w1 hSw; (try dsimp only at hSw); obtain ⟨h0, h1, h2, h3, h4, h5, h6, h7, h8, h9, h10, h11, h12, h13, -⟩ := hSw; go_simp; try with_reducible rfl)
  try simp only [Act.put, List.setIfInBounds_toArray, List.set_cons_zero, List.set_cons_succ]
  refine wpAnyH_ready (rs := [33]) (by kernel_rfl) (by simp) ?_
  refine AllReadyH.cons (o := { dst := some 99, op := Op.call { callee := Callee.value (Operand.func 16), args := #[Operand.tmp 98, Operand.const (Value.int IntKind.i64 1)], argTypes := #[24, 3] }, type := 28, pos := "keeps.go:153", after := #[{ on := 32, ground := Ground.data }, { on := 31, ground := Ground.chain }, { on := 31, ground := Ground.guard }], guard := some (31, true) }) rfl (fun K hK => ?_) AllReadyH.nil
  go_simp
  refine (union_is (sa := ua) (sl := ul) q1068 ⟨by decide, by decide⟩ HU.out).mono ?_
  rintro e w1085 ⟨a1082, c1083, rfl, h1084, hb1086⟩
  have q1087 := q1068.later hb1086
  have q1088 := q1069.later hb1086
  have q1089 := q1070.later hb1086
  have q1090 := q1071.later hb1086
  have q1091 := q1072.later hb1086
  have q1092 := q1073.later hb1086
  have q1093 := q1074.later hb1086
  have q1094 := q1075.later hb1086
  have q1095 := q1076.later hb1086
  have q1096 := q1077.later hb1086
  have q1097 := q1078.later hb1086
  have q1098 := q1079.later hb1086
  have q1099 := q1080.later hb1086
  have q1100 := q1081.later hb1086
  refine hK.out _ _ (⟨q1089.cell 0, q1089.cell 1, q1090.cell 0, q1090.cell 1, q1091.cell 0, q1091.cell 1, q1092.cell 0, q1092.cell 1, q1093.cell 0, q1093.cell 1, q1094.cell 0, q1094.cell 1, q1095.cell 0, q1095.cell 1, trivial⟩) (fun hHeld => ?_)
  clear hK K
  try simp only [Act.put, List.setIfInBounds_toArray, List.set_cons_zero, List.set_cons_succ]
  refine wpAnyH_ready (rs := [35]) (by kernel_rfl) (by simp) ?_
  refine AllReadyH.cons (o := { dst := some 101, op := Op.call { callee := Callee.value (Operand.func 15), args := #[Operand.tmp 99, Operand.tmp 100], argTypes := #[28, 28] }, type := 4, pos := "keeps.go:153", after := #[{ on := 33, ground := Ground.data }, { on := 34, ground := Ground.data }, { on := 33, ground := Ground.chain }, { on := 31, ground := Ground.guard }], guard := some (31, true) }) rfl (fun K hK => ?_) AllReadyH.nil
  go_simp
  refine (same_any (al := ul) (bl := ul) h1084 q1100 Hf1.out.fit Hf1.out.fit Hf1.out.same).mono ?_
  rintro e w1101 ⟨rfl, hb1102⟩
  have q1103 := q1087.later hb1102
  have q1104 := q1088.later hb1102
  have q1105 := q1089.later hb1102
  have q1106 := q1090.later hb1102
  have q1107 := q1091.later hb1102
  have q1108 := q1092.later hb1102
  have q1109 := q1093.later hb1102
  have q1110 := q1094.later hb1102
  have q1111 := q1095.later hb1102
  have q1112 := q1096.later hb1102
  have q1113 := q1097.later hb1102
  have q1114 := q1098.later hb1102
  have q1115 := q1099.later hb1102
  have q1116 := q1100.later hb1102
  have q1117 := h1084.later hb1102
  refine hK.out _ _ (⟨q1105.cell 0, q1105.cell 1, q1106.cell 0, q1106.cell 1, q1107.cell 0, q1107.cell 1, q1108.cell 0, q1108.cell 1, q1109.cell 0, q1109.cell 1, q1110.cell 0, q1110.cell 1, q1111.cell 0, q1111.cell 1, trivial⟩) (fun hHeld => ?_)
  clear hK K
  try simp only [Act.put, List.setIfInBounds_toArray, List.set_cons_zero, List.set_cons_succ]
  refine wpAnyH_take (i := 36) (oi := { dst := some 102, op := Op.pick (Operand.tmp 97) (Operand.tmp 101) (Operand.const (Value.bool false)), type := 4, pos := "keeps.go:153", after := #[{ on := 31, ground := Ground.data }, { on := 35, ground := Ground.data }], guard := none }) (v := ?v1031) rfl (by kernel_rfl) (by kernel_rfl) (by kernel_rfl) (fun _ _ _ h => h) (Or.inl ⟨by rfl, ?hy1031⟩) (by assumption) ?rest1031
  case hy1031 => (intro w1 hSw; (try dsimp only at hSw); obtain ⟨h0, h1, h2, h3, h4, h5, h6, h7, h8, h9, h10, h11, h12, h13, -⟩ := hSw; go_simp; try with_reducible rfl)
  try simp only [Act.put, List.setIfInBounds_toArray, List.set_cons_zero, List.set_cons_succ]
  refine wpAnyH_take (i := 37) (oi := { dst := some 6, op := Op.assign (Operand.tmp 102), type := 4, pos := "keeps.go:153", after := #[{ on := 36, ground := Ground.data }, { on := 35, ground := Ground.chain }, { on := 0, ground := Ground.phase }, { on := 1, ground := Ground.phase }, { on := 2, ground := Ground.phase }, { on := 3, ground := Ground.phase }, { on := 4, ground := Ground.phase }, { on := 5, ground := Ground.phase }, { on := 6, ground := Ground.phase }, { on := 7, ground := Ground.phase }, { on := 8, ground := Ground.phase }, { on := 9, ground := Ground.phase }, { on := 10, ground := Ground.phase }, { on := 11, ground := Ground.phase }, { on := 12, ground := Ground.phase }, { on := 13, ground := Ground.phase }, { on := 14, ground := Ground.phase }, { on := 15, ground := Ground.phase }, { on := 16, ground := Ground.phase }, { on := 17, ground := Ground.phase }, { on := 18, ground := Ground.phase }, { on := 19, ground := Ground.phase }, { on := 20, ground := Ground.phase }, { on := 21, ground := Ground.phase }, { on := 22, ground := Ground.phase }, { on := 23, ground := Ground.phase }, { on := 24, ground := Ground.phase }, { on := 25, ground := Ground.phase }, { on := 26, ground := Ground.phase }, { on := 27, ground := Ground.phase }, { on := 28, ground := Ground.phase }, { on := 29, ground := Ground.phase }, { on := 30, ground := Ground.phase }, { on := 31, ground := Ground.phase }, { on := 32, ground := Ground.phase }, { on := 33, ground := Ground.phase }, { on := 34, ground := Ground.phase }, { on := 35, ground := Ground.phase }, { on := 36, ground := Ground.phase }], guard := none }) (v := ?v1032) rfl (by kernel_rfl) (by kernel_rfl) (by kernel_rfl) (fun _ _ _ h => h) (Or.inl ⟨by rfl, ?hy1032⟩) (by assumption) ?rest1032
  case hy1032 => (intro w1 hSw; (try dsimp only at hSw); obtain ⟨h0, h1, h2, h3, h4, h5, h6, h7, h8, h9, h10, h11, h12, h13, -⟩ := hSw; go_simp; try with_reducible rfl)
  try simp only [Act.put, List.setIfInBounds_toArray, List.set_cons_zero, List.set_cons_succ]
  refine wpAnyH_done (by kernel_rfl) ?_ _
  go_wp2_with fail
  go_ret
  exact ⟨rfl, HB.out.trans ((q1104.below (Nat.le_refl _)).mono HB.out.size)⟩
end Go.Proofs.YtfolgcgkikkihaaDoor
