/- merge: MergeDrops. -/
import Derived.Test.YtfolgcgkikkihaaDoorMgEx
import Derived.Test.YtfolgcgkikkihaaDoorMgLawP
import Derived.Test.YtfolgcgkikkihaaDoorNmSame
namespace Go.Proofs.YtfolgcgkikkihaaDoor
open Go.RowKit Go.Lib

set_option maxRecDepth 100000 in
set_option maxHeartbeats 8000000 in
theorem drops_walk (a0 : Option Addr) (l0 c0 : Nat) (ms0 : List Nat) (a1 : Option Addr) (l1 c1 : Nat) (ms1 : List Nat) (a2 : Option Addr) (l2 c2 : Nat) (ms2 : List Nat) (A F Z : Addr) (W : World) (hg : Gm A F Z W) (hs0 : BytesIn W a0 ms0) (hl0 : ms0.length = l0) (hm0 : l0 ≤ 9223372036854775807) (hb0 : ∀ x ∈ ms0, x < 256) (hs1 : BytesIn W a1 ms1) (hl1 : ms1.length = l1) (hm1 : l1 ≤ 9223372036854775807) (hb1 : ∀ x ∈ ms1, x < 256) (hs2 : BytesIn W a2 ms2) (hl2 : ms2.length = l2) (hm2 : l2 ≤ 9223372036854775807) (hb2 : ∀ x ∈ ms2, x < 256) : Calls Tryd.prog 4 #[.slice a0 l0 c0, .slice a1 l1 c1, .slice a2 l2 c2] W fun e w' => e = .returned (.bool true) ∧ Below W.heap.size W w' := by
  have HFx := Lib.hid (few_set ms0)
  obtain ⟨xa, xl, hO⟩ : ∃ xa xl, nOf okN (nmcL ms0 10) = ⟨xa, xl⟩ := ⟨_, _, rfl⟩
  have HOx := Lib.hid hO
  rw [hO] at HFx
  clear hO
  have HFy := Lib.hid (few_set ms1)
  obtain ⟨ya, yl, hO⟩ : ∃ ya yl, nOf okN (nmcL ms1 10) = ⟨ya, yl⟩ := ⟨_, _, rfl⟩
  have HOy := Lib.hid hO
  rw [hO] at HFy
  clear hO
  have HFz := Lib.hid (few_set ms2)
  obtain ⟨za, zl, hO⟩ : ∃ za zl, nOf okN (nmcL ms2 10) = ⟨za, zl⟩ := ⟨_, _, rfl⟩
  have HOz := Lib.hid hO
  rw [hO] at HFz
  clear hO
  have HA0 := Lib.hid hs0
  clear hs0
  have HB0 := Lib.hid (And.intro hl0 (And.intro hm0 hb0))
  clear hl0 hm0 hb0
  have HA1 := Lib.hid hs1
  clear hs1
  have HB1 := Lib.hid (And.intro hl1 (And.intro hm1 hb1))
  clear hl1 hm1 hb1
  have HA2 := Lib.hid hs2
  clear hs2
  have HB2 := Lib.hid (And.intro hl2 (And.intro hm2 hb2))
  clear hl2 hm2 hb2
  have HG0 := Lib.hid hg
  clear hg
  go_enter Tryd.func4, Tryd.ntmps4
  go_wp2_with fail
  refine (mg_examples A F Z W HG0.out).mono ?_
  rintro e wB ⟨rfl, hb⟩
  dsimp only
  have HG := Lib.hid (HG0.out.later hb)
  have HB := Lib.hid hb
  have HA0 := Lib.hid (HA0.out.later hb)
  have HA1 := Lib.hid (HA1.out.later hb)
  have HA2 := Lib.hid (HA2.out.later hb)
  clear HG0 hb
  go_wp2_with fail
  refine (mgNew_any wB).mono ?_
  rintro e wN ⟨m, rfl, hm, hb⟩
  dsimp only
  have HM := Lib.hid hm
  have HK := Lib.hid (KeptM.of (B := wB.heap.size) hb)
  have HA0 := Lib.hid (HA0.out.later hb)
  have HA1 := Lib.hid (HA1.out.later hb)
  have HA2 := Lib.hid (HA2.out.later hb)
  clear hm hb
  go_wp2_with fail
  refine (few10_any HA0.out HB0.out.1 HB0.out.2.1 (m := 10) (by decide) HB0.out.2.2).mono ?_
  rintro e w1 ⟨fa, fc, rfl, FO, hb⟩
  dsimp only
  clear HA0 HB0
  have HM := Lib.hid (HM.out.later hb)
  have HK := Lib.hid (HK.out.trans (.of hb))
  have HA1 := Lib.hid (HA1.out.later hb)
  have HA2 := Lib.hid (HA2.out.later hb)
  have HTf := Lib.hid (show TsAt w1 (.slice fa (nmcL ms0 10).length fc) (nmcL ms0 10) from RowV.own FO)
  clear FO hb
  go_wp2_with fail
  refine (of_any HTf.out (nmc_fit ms0 10 (by decide)) HOx.out).mono ?_
  rintro e w2 ⟨ox, dx, rfl, ht, hb⟩
  dsimp only
  have HM := Lib.hid (HM.out.later hb)
  have HK := Lib.hid (HK.out.trans (.of hb))
  have HA1 := Lib.hid (HA1.out.later hb)
  have HA2 := Lib.hid (HA2.out.later hb)
  have HTx := Lib.hid ht
  clear ht hb HTf
  obtain ⟨x3, hw4, hb5, hq7⟩ := alloc_new w2 #[.bool xa, .slice ox xl.length dx] 28
  have HM := Lib.hid (HM.out.later hb5)
  have HK := Lib.hid (HK.out.trans (.of hb5))
  have HA1 := Lib.hid (HA1.out.later hb5)
  have HA2 := Lib.hid (HA2.out.later hb5)
  have HTx := Lib.hid (HTx.out.later hb5)
  have HQx := Lib.hid hq7
  have HW6 := Lib.hid hw4
  have HZ8 := Lib.hid (show w2.heap.size + 1 = x3.heap.size by rw [← hw4]; simp)
  clear hw4 hb5 hq7
  go_wp2_with fail
  rw [HW6.out]
  refine (few10_any HA1.out HB1.out.1 HB1.out.2.1 (m := 10) (by decide) HB1.out.2.2).mono ?_
  rintro e w9 ⟨fa, fc, rfl, FO, hb⟩
  dsimp only
  clear HA1 HB1
  have HM := Lib.hid (HM.out.later hb)
  have HK := Lib.hid (HK.out.trans (.of hb))
  have HQx := Lib.hid (HQx.out.later hb)
  have HA2 := Lib.hid (HA2.out.later hb)
  have HTx := Lib.hid (HTx.out.later hb)
  have HTf := Lib.hid (show TsAt w9 (.slice fa (nmcL ms1 10).length fc) (nmcL ms1 10) from RowV.own FO)
  clear FO hb
  go_wp2_with fail
  refine (of_any HTf.out (nmc_fit ms1 10 (by decide)) HOy.out).mono ?_
  rintro e w10 ⟨oy, dy, rfl, ht, hb⟩
  dsimp only
  have HM := Lib.hid (HM.out.later hb)
  have HK := Lib.hid (HK.out.trans (.of hb))
  have HQx := Lib.hid (HQx.out.later hb)
  have HA2 := Lib.hid (HA2.out.later hb)
  have HTx := Lib.hid (HTx.out.later hb)
  have HTy := Lib.hid ht
  clear ht hb HTf
  obtain ⟨x11, hw12, hb13, hq15⟩ := alloc_new w10 #[.bool ya, .slice oy yl.length dy] 28
  have HM := Lib.hid (HM.out.later hb13)
  have HK := Lib.hid (HK.out.trans (.of hb13))
  have HQx := Lib.hid (HQx.out.later hb13)
  have HA2 := Lib.hid (HA2.out.later hb13)
  have HTx := Lib.hid (HTx.out.later hb13)
  have HTy := Lib.hid (HTy.out.later hb13)
  have HQy := Lib.hid hq15
  have HW14 := Lib.hid hw12
  have HZ16 := Lib.hid (show w10.heap.size + 1 = x11.heap.size by rw [← hw12]; simp)
  clear hw12 hb13 hq15
  go_wp2_with fail
  rw [HW14.out]
  refine (few10_any HA2.out HB2.out.1 HB2.out.2.1 (m := 10) (by decide) HB2.out.2.2).mono ?_
  rintro e w17 ⟨fa, fc, rfl, FO, hb⟩
  dsimp only
  clear HA2 HB2
  have HM := Lib.hid (HM.out.later hb)
  have HK := Lib.hid (HK.out.trans (.of hb))
  have HQx := Lib.hid (HQx.out.later hb)
  have HQy := Lib.hid (HQy.out.later hb)
  have HTx := Lib.hid (HTx.out.later hb)
  have HTy := Lib.hid (HTy.out.later hb)
  have HTf := Lib.hid (show TsAt w17 (.slice fa (nmcL ms2 10).length fc) (nmcL ms2 10) from RowV.own FO)
  clear FO hb
  go_wp2_with fail
  refine (of_any HTf.out (nmc_fit ms2 10 (by decide)) HOz.out).mono ?_
  rintro e w18 ⟨oz, dz, rfl, ht, hb⟩
  dsimp only
  have HM := Lib.hid (HM.out.later hb)
  have HK := Lib.hid (HK.out.trans (.of hb))
  have HQx := Lib.hid (HQx.out.later hb)
  have HQy := Lib.hid (HQy.out.later hb)
  have HTx := Lib.hid (HTx.out.later hb)
  have HTy := Lib.hid (HTy.out.later hb)
  have HTz := Lib.hid ht
  clear ht hb HTf
  obtain ⟨x19, hw20, hb21, hq23⟩ := alloc_new w18 #[.bool za, .slice oz zl.length dz] 28
  have HM := Lib.hid (HM.out.later hb21)
  have HK := Lib.hid (HK.out.trans (.of hb21))
  have HQx := Lib.hid (HQx.out.later hb21)
  have HQy := Lib.hid (HQy.out.later hb21)
  have HTx := Lib.hid (HTx.out.later hb21)
  have HTy := Lib.hid (HTy.out.later hb21)
  have HTz := Lib.hid (HTz.out.later hb21)
  have HQz := Lib.hid hq23
  have HW22 := Lib.hid hw20
  have HZ24 := Lib.hid (show w18.heap.size + 1 = x19.heap.size by rw [← hw20]; simp)
  clear hw20 hb21 hq23
  have HE1 := Lib.hid (dw1_set HFx.out)
  have HE2 := Lib.hid (dw2_set HFx.out HFy.out)
  have HE3 := Lib.hid (dw3_set HFx.out HFy.out HFz.out)
  have hs := set_any (base := wB.heap.size) (m := m) (W := W0) (i := 4) (k := 1) (sa := xa) (sl := xl) (a1 := ox) (c1 := dx) HM.out (HK.out.gm HG.out) HTx.out HFx.out.r (by have := HFx.out.len; omega) HFx.out.l
  have HS := Lib.hid (show Calls Tryd.prog 12 #[.pointer (some ⟨m, 0, none⟩), .int .i64 4, .int .i64 1, .agg #[.bool xa, .slice ox xl.length dx]] x19 (SetIs wB.heap.size m W0 4 1 ⟨xa, xl⟩ x19) from hs)
  clear hs
  have xc0 : x19.cell? ⟨w2.heap.size, 0, none⟩ = some (.bool xa) := HQx.out.cell 0
  have xc1 : x19.cell? ⟨w2.heap.size, 1, none⟩ = some (.slice ox xl.length dx) := HQx.out.cell 1
  go_wp2_with (rw [HW22.out])
  refine HS.out.mono ?_
  rintro e w25 ⟨v1, v2, rfl, -, -, hm2, hk2⟩
  rw [HE1.out.1]
  rw [HE1.out.2] at hm2
  dsimp only
  have HM := Lib.hid hm2
  have HK := Lib.hid (HK.out.trans hk2)
  have HQx := Lib.hid (hk2.blk HQx.out)
  have HQy := Lib.hid (hk2.blk HQy.out)
  have HQz := Lib.hid (hk2.blk HQz.out)
  have HTx := Lib.hid (hk2.ts HTx.out)
  have HTy := Lib.hid (hk2.ts HTy.out)
  have HTz := Lib.hid (hk2.ts HTz.out)
  clear hm2 hk2 HS xc0 xc1
  have hs := set_any (base := wB.heap.size) (m := m) (W := (dW1 (⟨xa, xl⟩ : Ns))) (i := 4) (k := 2) (sa := ya) (sl := yl) (a1 := oy) (c1 := dy) HM.out (HK.out.gm HG.out) HTy.out HFy.out.r (by have := HFy.out.len; omega) HFy.out.l
  have HS := Lib.hid (show Calls Tryd.prog 12 #[.pointer (some ⟨m, 0, none⟩), .int .i64 4, .int .i64 2, .agg #[.bool ya, .slice oy yl.length dy]] w25 (SetIs wB.heap.size m (dW1 (⟨xa, xl⟩ : Ns)) 4 2 ⟨ya, yl⟩ w25) from hs)
  clear hs
  have yc0 : w25.cell? ⟨w10.heap.size, 0, none⟩ = some (.bool ya) := HQy.out.cell 0
  have yc1 : w25.cell? ⟨w10.heap.size, 1, none⟩ = some (.slice oy yl.length dy) := HQy.out.cell 1
  go_wp2_with fail
  refine HS.out.mono ?_
  rintro e w26 ⟨v1, v2, rfl, -, -, hm2, hk2⟩
  rw [HE2.out.1]
  rw [HE2.out.2] at hm2
  dsimp only
  have HM := Lib.hid hm2
  have HK := Lib.hid (HK.out.trans hk2)
  have HQx := Lib.hid (hk2.blk HQx.out)
  have HQy := Lib.hid (hk2.blk HQy.out)
  have HQz := Lib.hid (hk2.blk HQz.out)
  have HTx := Lib.hid (hk2.ts HTx.out)
  have HTy := Lib.hid (hk2.ts HTy.out)
  have HTz := Lib.hid (hk2.ts HTz.out)
  clear hm2 hk2 HS yc0 yc1
  have hs := set_any (base := wB.heap.size) (m := m) (W := (dW2 (⟨xa, xl⟩ : Ns) (⟨ya, yl⟩ : Ns))) (i := 5) (k := 1) (sa := za) (sl := zl) (a1 := oz) (c1 := dz) HM.out (HK.out.gm HG.out) HTz.out HFz.out.r (by have := HFz.out.len; omega) HFz.out.l
  have HS := Lib.hid (show Calls Tryd.prog 12 #[.pointer (some ⟨m, 0, none⟩), .int .i64 5, .int .i64 1, .agg #[.bool za, .slice oz zl.length dz]] w26 (SetIs wB.heap.size m (dW2 (⟨xa, xl⟩ : Ns) (⟨ya, yl⟩ : Ns)) 5 1 ⟨za, zl⟩ w26) from hs)
  clear hs
  have zc0 : w26.cell? ⟨w18.heap.size, 0, none⟩ = some (.bool za) := HQz.out.cell 0
  have zc1 : w26.cell? ⟨w18.heap.size, 1, none⟩ = some (.slice oz zl.length dz) := HQz.out.cell 1
  go_wp2_with fail
  refine HS.out.mono ?_
  rintro e w27 ⟨v1, v2, rfl, -, -, hm2, hk2⟩
  rw [HE3.out.1]
  rw [HE3.out.2] at hm2
  dsimp only
  have HM := Lib.hid hm2
  have HK := Lib.hid (HK.out.trans hk2)
  have HQx := Lib.hid (hk2.blk HQx.out)
  have HQy := Lib.hid (hk2.blk HQy.out)
  have HQz := Lib.hid (hk2.blk HQz.out)
  have HTx := Lib.hid (hk2.ts HTx.out)
  have HTy := Lib.hid (hk2.ts HTy.out)
  have HTz := Lib.hid (hk2.ts HTz.out)
  clear hm2 hk2 HS zc0 zc1
  clear HE1 HE2 HE3
  have HD1 := Lib.hid (And.intro (dw3_ez (X := (⟨xa, xl⟩ : Ns)) (Y := (⟨ya, yl⟩ : Ns)) (Z := (⟨za, zl⟩ : Ns))) (dw3_w (X := (⟨xa, xl⟩ : Ns)) (Y := (⟨ya, yl⟩ : Ns)) (Z := (⟨za, zl⟩ : Ns))))
  have HD2 := Lib.hid (And.intro (dw4_ez (X := (⟨xa, xl⟩ : Ns)) (Y := (⟨ya, yl⟩ : Ns)) (Z := (⟨za, zl⟩ : Ns))) (dw4_e (X := (⟨xa, xl⟩ : Ns)) (Y := (⟨ya, yl⟩ : Ns)) (Z := (⟨za, zl⟩ : Ns))).2)
  have HU1 := Lib.hid (dw4_u1 HFx.out HFy.out HFz.out)
  have HU2 := Lib.hid (dw4_u2 HFx.out HFy.out HFz.out)
  obtain ⟨D, hD⟩ : ∃ D : Int, (if nEmpty (⟨xa, xl⟩ : Ns) && nEmpty (⟨ya, yl⟩ : Ns) then 5 else 0) = D := ⟨_, rfl⟩
  rw [hD] at HD1
  have HDe := Lib.hid hD
  clear hD
  go_wp2_with fail
  refine (drop_any (i := 4) HM.out (HK.out.gm HG.out) ⟨by decide, by decide⟩).mono ?_
  rintro e wD1 ⟨rfl, hm2, hk2⟩
  rw [HD1.out.1]
  rw [HD1.out.2] at hm2
  dsimp only
  have HM := Lib.hid hm2
  have HK := Lib.hid (HK.out.trans hk2)
  have HQx := Lib.hid (hk2.blk HQx.out)
  have HQy := Lib.hid (hk2.blk HQy.out)
  have HQz := Lib.hid (hk2.blk HQz.out)
  have HTx := Lib.hid (hk2.ts HTx.out)
  have HTy := Lib.hid (hk2.ts HTy.out)
  have HTz := Lib.hid (hk2.ts HTz.out)
  clear hm2 hk2
  go_wp2_with fail
  refine (drop_any (i := 4) HM.out (HK.out.gm HG.out) ⟨by decide, by decide⟩).mono ?_
  rintro e wD2 ⟨rfl, hm2, hk2⟩
  rw [HD2.out.1]
  rw [HD2.out.2] at hm2
  dsimp only
  have HM := Lib.hid hm2
  have HK := Lib.hid (HK.out.trans hk2)
  have HQx := Lib.hid (hk2.blk HQx.out)
  have HQy := Lib.hid (hk2.blk HQy.out)
  have HQz := Lib.hid (hk2.blk HQz.out)
  have HTx := Lib.hid (hk2.ts HTx.out)
  have HTy := Lib.hid (hk2.ts HTy.out)
  have HTz := Lib.hid (hk2.ts HTz.out)
  clear hm2 hk2 HD1 HD2
  obtain ⟨W4, HW4⟩ : ∃ W4 : Wants, (dW4 (⟨xa, xl⟩ : Ns) (⟨ya, yl⟩ : Ns) (⟨za, zl⟩ : Ns)) = W4 := ⟨_, rfl⟩
  have H41 := Lib.hid (dw4_4 (X := (⟨xa, xl⟩ : Ns)) (Y := (⟨ya, yl⟩ : Ns)) (Z := (⟨za, zl⟩ : Ns)) 1)
  have H42 := Lib.hid (dw4_4 (X := (⟨xa, xl⟩ : Ns)) (Y := (⟨ya, yl⟩ : Ns)) (Z := (⟨za, zl⟩ : Ns)) 2)
  rw [HW4] at HM HU1 HU2 H41 H42
  clear HW4
  have xc0 : wD2.cell? ⟨w2.heap.size, 0, none⟩ = some (.bool xa) := HQx.out.cell 0
  have xc1 : wD2.cell? ⟨w2.heap.size, 1, none⟩ = some (.slice ox xl.length dx) := HQx.out.cell 1
  have yc0 : wD2.cell? ⟨w10.heap.size, 0, none⟩ = some (.bool ya) := HQy.out.cell 0
  have yc1 : wD2.cell? ⟨w10.heap.size, 1, none⟩ = some (.slice oy yl.length dy) := HQy.out.cell 1
  go_wp2_with fail
  refine (empty_any (sa := xa) (sl := xl) rfl).mono ?_
  rintro e wE ⟨rfl, hb⟩
  dsimp only
  clear xc0 xc1 yc0 yc1
  have HM := Lib.hid (HM.out.later hb)
  have HK := Lib.hid (HK.out.trans (.of hb))
  have HQx := Lib.hid (HQx.out.later hb)
  have HQy := Lib.hid (HQy.out.later hb)
  have HQz := Lib.hid (HQz.out.later hb)
  have HTx := Lib.hid (HTx.out.later hb)
  have HTy := Lib.hid (HTy.out.later hb)
  have HTz := Lib.hid (HTz.out.later hb)
  clear hb
  have yc0 : wE.cell? ⟨w10.heap.size, 0, none⟩ = some (.bool ya) := HQy.out.cell 0
  have yc1 : wE.cell? ⟨w10.heap.size, 1, none⟩ = some (.slice oy yl.length dy) := HQy.out.cell 1
  have HEx : ∃ bx, nEmpty (⟨xa, xl⟩ : Ns) = bx := ⟨_, rfl⟩
  obtain ⟨bx, hbx⟩ := HEx
  rw [hbx] at HDe ⊢
  clear hbx
  have HEy : ∃ by_, nEmpty (⟨ya, yl⟩ : Ns) = by_ := ⟨_, rfl⟩
  obtain ⟨by_, hby⟩ := HEy
  rw [hby] at HDe
  have HEy := Lib.hid hby
  clear hby
  skip
  cases bx with
  | false =>
    obtain rfl : (0 : Int) = D := HDe.out
    clear HDe
    go_wp2_with fail
    obtain ⟨w1001, hw1002, hb1003⟩ := drew_new wE
    have q1004 := HM.out.later hb1003
    have q1005 := HK.out.later hb1003
    have q1006 := HTz.out.later hb1003
    have q1007 := HQz.out.later hb1003
    refine wp_region_held_drew (S := (fun w' => w'.cell? ⟨w18.heap.size, 0, none⟩ = some (.bool za) ∧ w'.cell? ⟨w18.heap.size, 1, none⟩ = some (.slice oz zl.length dz) ∧ True)) (by kernel_rfl) (by rw [hw1002]; exact ⟨q1007.cell 0, q1007.cell 1, trivial⟩) (fun hHeld => ?_)
    rw [hw1002] at hHeld ⊢
    refine wpAnyH_take (i := 0) (oi := { dst := some 49, op := Op.move (Operand.tmp 7), type := 4, pos := "keeps.go:68", after := #[], guard := none }) (v := ?v1001) rfl (by kernel_rfl) (by kernel_rfl) (by kernel_rfl) (fun _ _ _ h => h) (Or.inl ⟨by rfl, ?hy1001⟩) (by assumption) ?rest1001
    case hy1001 => (intro w1 hSw; (try dsimp only at hSw); obtain ⟨h0, h1, -⟩ := hSw; go_simp; try with_reducible rfl)
    try simp only [Act.put, List.setIfInBounds_toArray, List.set_cons_zero, List.set_cons_succ]
    refine wpAnyH_take (i := 1) (oi := { dst := some 50, op := Op.move (Operand.tmp 49), type := 4, pos := "keeps.go:68", after := #[{ on := 0, ground := Ground.data }], guard := none }) (v := ?v1002) rfl (by kernel_rfl) (by kernel_rfl) (by kernel_rfl) (fun _ _ _ h => h) (Or.inl ⟨by rfl, ?hy1002⟩) (by assumption) ?rest1002
    case hy1002 => (intro w1 hSw; (try dsimp only at hSw); obtain ⟨h0, h1, -⟩ := hSw; go_simp; try with_reducible rfl)
    try simp only [Act.put, List.setIfInBounds_toArray, List.set_cons_zero, List.set_cons_succ]
    refine wpAnyH_take (i := 2) (oi := { dst := some 51, op := Op.move (Operand.tmp 12), type := 35, pos := "keeps.go:68", after := #[{ on := 1, ground := Ground.guard }], guard := some (1, true) }) (v := ?v1003) rfl (by kernel_rfl) (by kernel_rfl) (by kernel_rfl) (fun _ _ _ h => h) (Or.inl ⟨by rfl, ?hy1003⟩) (by assumption) ?rest1003
    case hy1003 => (intro w1 hSw; (try dsimp only at hSw); obtain ⟨h0, h1, -⟩ := hSw; go_simp; try with_reducible rfl)
    try simp only [Act.put, List.setIfInBounds_toArray, List.set_cons_zero, List.set_cons_succ]
    refine wpAnyH_take (i := 3) (oi := { dst := some 52, op := Op.binOp BinOp.eql 35 (Operand.tmp 51) (Operand.const (Value.int IntKind.i64 0)) 35, type := 4, pos := "keeps.go:68", after := #[{ on := 2, ground := Ground.data }, { on := 1, ground := Ground.guard }], guard := some (1, true) }) (v := ?v1004) rfl (by kernel_rfl) (by kernel_rfl) (by kernel_rfl) (fun _ _ _ h => h) (Or.inl ⟨by rfl, ?hy1004⟩) (by assumption) ?rest1004
    case hy1004 => (intro w1 hSw; (try dsimp only at hSw); obtain ⟨h0, h1, -⟩ := hSw; go_simp; try with_reducible rfl)
    try simp only [Act.put, List.setIfInBounds_toArray, List.set_cons_zero, List.set_cons_succ]
    refine wpAnyH_take (i := 4) (oi := { dst := some 53, op := Op.move (Operand.tmp 14), type := 4, pos := "keeps.go:68", after := #[{ on := 1, ground := Ground.guard }], guard := some (1, true) }) (v := ?v1005) rfl (by kernel_rfl) (by kernel_rfl) (by kernel_rfl) (fun _ _ _ h => h) (Or.inl ⟨by rfl, ?hy1005⟩) (by assumption) ?rest1005
    case hy1005 => (intro w1 hSw; (try dsimp only at hSw); obtain ⟨h0, h1, -⟩ := hSw; go_simp; try with_reducible rfl)
    try simp only [Act.put, List.setIfInBounds_toArray, List.set_cons_zero, List.set_cons_succ]
    refine wpAnyH_take (i := 5) (oi := { dst := some 54, op := Op.unOp UnOp.not 4 (Operand.tmp 53), type := 4, pos := "keeps.go:68", after := #[{ on := 4, ground := Ground.data }, { on := 1, ground := Ground.guard }], guard := some (1, true) }) (v := ?v1006) rfl (by kernel_rfl) (by kernel_rfl) (by kernel_rfl) (fun _ _ _ h => h) (Or.inl ⟨by rfl, ?hy1006⟩) (by assumption) ?rest1006
    case hy1006 => (intro w1 hSw; (try dsimp only at hSw); obtain ⟨h0, h1, -⟩ := hSw; go_simp; try with_reducible rfl)
    try simp only [Act.put, List.setIfInBounds_toArray, List.set_cons_zero, List.set_cons_succ]
    refine wpAnyH_take (i := 6) (oi := { dst := some 55, op := Op.binOp BinOp.eql 4 (Operand.tmp 52) (Operand.tmp 54) 4, type := 4, pos := "keeps.go:68", after := #[{ on := 3, ground := Ground.data }, { on := 5, ground := Ground.data }, { on := 1, ground := Ground.guard }], guard := some (1, true) }) (v := ?v1007) rfl (by kernel_rfl) (by kernel_rfl) (by kernel_rfl) (fun _ _ _ h => h) (Or.inl ⟨by rfl, ?hy1007⟩) (by assumption) ?rest1007
    case hy1007 => (intro w1 hSw; (try dsimp only at hSw); obtain ⟨h0, h1, -⟩ := hSw; go_simp; try with_reducible rfl)
    try simp only [Act.put, List.setIfInBounds_toArray, List.set_cons_zero, List.set_cons_succ]
    refine wpAnyH_take (i := 7) (oi := { dst := some 56, op := Op.pick (Operand.tmp 50) (Operand.tmp 55) (Operand.const (Value.bool false)), type := 4, pos := "keeps.go:68", after := #[{ on := 1, ground := Ground.data }, { on := 6, ground := Ground.data }], guard := none }) (v := ?v1008) rfl (by kernel_rfl) (by kernel_rfl) (by kernel_rfl) (fun _ _ _ h => h) (Or.inl ⟨by rfl, ?hy1008⟩) (by assumption) ?rest1008
    case hy1008 => (intro w1 hSw; (try dsimp only at hSw); obtain ⟨h0, h1, -⟩ := hSw; go_simp; try with_reducible rfl)
    try simp only [Act.put, List.setIfInBounds_toArray, List.set_cons_zero, List.set_cons_succ]
    refine wpAnyH_take (i := 8) (oi := { dst := some 57, op := Op.move (Operand.tmp 56), type := 4, pos := "keeps.go:68", after := #[{ on := 7, ground := Ground.data }, { on := 1, ground := Ground.chain }], guard := none }) (v := ?v1009) rfl (by kernel_rfl) (by kernel_rfl) (by kernel_rfl) (fun _ _ _ h => h) (Or.inl ⟨by rfl, ?hy1009⟩) (by assumption) ?rest1009
    case hy1009 => (intro w1 hSw; (try dsimp only at hSw); obtain ⟨h0, h1, -⟩ := hSw; go_simp; try with_reducible rfl)
    try simp only [Act.put, List.setIfInBounds_toArray, List.set_cons_zero, List.set_cons_succ]
    refine wpAnyH_take (i := 9) (oi := { dst := some 58, op := Op.move (Operand.tmp 13), type := 35, pos := "keeps.go:68", after := #[{ on := 8, ground := Ground.guard }], guard := some (8, true) }) (v := ?v1010) rfl (by kernel_rfl) (by kernel_rfl) (by kernel_rfl) (fun _ _ _ h => h) (Or.inl ⟨by rfl, ?hy1010⟩) (by assumption) ?rest1010
    case hy1010 => (intro w1 hSw; (try dsimp only at hSw); obtain ⟨h0, h1, -⟩ := hSw; go_simp; try with_reducible rfl)
    try simp only [Act.put, List.setIfInBounds_toArray, List.set_cons_zero, List.set_cons_succ]
    refine wpAnyH_take (i := 10) (oi := { dst := some 59, op := Op.binOp BinOp.eql 35 (Operand.tmp 58) (Operand.const (Value.int IntKind.i64 5)) 35, type := 4, pos := "keeps.go:68", after := #[{ on := 9, ground := Ground.data }, { on := 8, ground := Ground.guard }], guard := some (8, true) }) (v := ?v1011) rfl (by kernel_rfl) (by kernel_rfl) (by kernel_rfl) (fun _ _ _ h => h) (Or.inl ⟨by rfl, ?hy1011⟩) (by assumption) ?rest1011
    case hy1011 => (intro w1 hSw; (try dsimp only at hSw); obtain ⟨h0, h1, -⟩ := hSw; go_simp; try with_reducible rfl)
    try simp only [Act.put, List.setIfInBounds_toArray, List.set_cons_zero, List.set_cons_succ]
    refine wpAnyH_take (i := 11) (oi := { dst := some 60, op := Op.pick (Operand.tmp 57) (Operand.tmp 59) (Operand.const (Value.bool false)), type := 4, pos := "keeps.go:68", after := #[{ on := 8, ground := Ground.data }, { on := 10, ground := Ground.data }], guard := none }) (v := ?v1012) rfl (by kernel_rfl) (by kernel_rfl) (by kernel_rfl) (fun _ _ _ h => h) (Or.inl ⟨by rfl, ?hy1012⟩) (by assumption) ?rest1012
    case hy1012 => (intro w1 hSw; (try dsimp only at hSw); obtain ⟨h0, h1, -⟩ := hSw; go_simp; try with_reducible rfl)
    try simp only [Act.put, List.setIfInBounds_toArray, List.set_cons_zero, List.set_cons_succ]
    refine wpAnyH_take (i := 12) (oi := { dst := some 61, op := Op.move (Operand.tmp 60), type := 4, pos := "keeps.go:68", after := #[{ on := 11, ground := Ground.data }, { on := 8, ground := Ground.chain }], guard := none }) (v := ?v1013) rfl (by kernel_rfl) (by kernel_rfl) (by kernel_rfl) (fun _ _ _ h => h) (Or.inl ⟨by rfl, ?hy1013⟩) (by assumption) ?rest1013
    case hy1013 => (intro w1 hSw; (try dsimp only at hSw); obtain ⟨h0, h1, -⟩ := hSw; go_simp; try with_reducible rfl)
    try simp only [Act.put, List.setIfInBounds_toArray, List.set_cons_zero, List.set_cons_succ]
    refine wpAnyH_take (i := 13) (oi := { dst := some 62, op := Op.move (Operand.tmp 8), type := 24, pos := "keeps.go:68", after := #[{ on := 12, ground := Ground.guard }], guard := some (12, true) }) (v := ?v1014) rfl (by kernel_rfl) (by kernel_rfl) (by kernel_rfl) (fun _ _ _ h => h) (Or.inl ⟨by rfl, ?hy1014⟩) (by assumption) ?rest1014
    case hy1014 => (intro w1 hSw; (try dsimp only at hSw); obtain ⟨h0, h1, -⟩ := hSw; go_simp; try with_reducible rfl)
    try simp only [Act.put, List.setIfInBounds_toArray, List.set_cons_zero, List.set_cons_succ]
    refine wpAnyH_ready (rs := [14]) (by kernel_rfl) (by simp) ?_
    refine AllReadyH.cons (o := { dst := some 63, op := Op.call { callee := Callee.value (Operand.func 17), args := #[Operand.tmp 62, Operand.const (Value.int IntKind.i64 4), Operand.const (Value.int IntKind.i64 1)], argTypes := #[24, 3, 3] }, type := 28, pos := "keeps.go:68", after := #[{ on := 13, ground := Ground.data }, { on := 12, ground := Ground.chain }, { on := 12, ground := Ground.guard }], guard := some (12, true) }) rfl (fun K hK => ?_) AllReadyH.nil
    go_simp
    refine (want_is (sa := false) (sl := []) q1004 ⟨by decide, by decide⟩ ⟨by decide, by decide⟩ H41.out).mono ?_
    rintro e w1010 ⟨a1008, c1009, rfl, -, hb1011⟩
    have q1012 := q1004.later hb1011
    have q1013 := q1005.later hb1011
    have q1014 := q1006.later hb1011
    have q1015 := q1007.later hb1011
    refine hK.out _ _ (⟨q1015.cell 0, q1015.cell 1, trivial⟩) (fun hHeld => ?_)
    clear hK K
    try simp only [Act.put, List.setIfInBounds_toArray, List.set_cons_zero, List.set_cons_succ]
    refine wpAnyH_ready (rs := [15]) (by kernel_rfl) (by simp) ?_
    refine AllReadyH.cons (o := { dst := some 64, op := Op.call { callee := Callee.value (Operand.func 18), args := #[Operand.tmp 63], argTypes := #[28] }, type := 4, pos := "keeps.go:68", after := #[{ on := 14, ground := Ground.data }, { on := 14, ground := Ground.chain }, { on := 12, ground := Ground.guard }], guard := some (12, true) }) rfl (fun K hK => ?_) AllReadyH.nil
    go_simp
    refine (empty_any (sa := false) (sl := []) (B := true) rfl).mono ?_
    rintro e w1016 ⟨rfl, hb1017⟩
    have q1018 := q1012.later hb1017
    have q1019 := q1013.later hb1017
    have q1020 := q1014.later hb1017
    have q1021 := q1015.later hb1017
    refine hK.out _ _ (⟨q1021.cell 0, q1021.cell 1, trivial⟩) (fun hHeld => ?_)
    clear hK K
    try simp only [Act.put, List.setIfInBounds_toArray, List.set_cons_zero, List.set_cons_succ]
    refine wpAnyH_take (i := 16) (oi := { dst := some 65, op := Op.pick (Operand.tmp 61) (Operand.tmp 64) (Operand.const (Value.bool false)), type := 4, pos := "keeps.go:68", after := #[{ on := 12, ground := Ground.data }, { on := 15, ground := Ground.data }], guard := none }) (v := ?v1015) rfl (by kernel_rfl) (by kernel_rfl) (by kernel_rfl) (fun _ _ _ h => h) (Or.inl ⟨by rfl, ?hy1015⟩) (by assumption) ?rest1015
    case hy1015 => (intro w1 hSw; (try dsimp only at hSw); obtain ⟨h0, h1, -⟩ := hSw; go_simp; try with_reducible rfl)
    try simp only [Act.put, List.setIfInBounds_toArray, List.set_cons_zero, List.set_cons_succ]
    refine wpAnyH_take (i := 17) (oi := { dst := some 66, op := Op.move (Operand.tmp 65), type := 4, pos := "keeps.go:68", after := #[{ on := 16, ground := Ground.data }, { on := 15, ground := Ground.chain }], guard := none }) (v := ?v1016) rfl (by kernel_rfl) (by kernel_rfl) (by kernel_rfl) (fun _ _ _ h => h) (Or.inl ⟨by rfl, ?hy1016⟩) (by assumption) ?rest1016
    case hy1016 => (intro w1 hSw; (try dsimp only at hSw); obtain ⟨h0, h1, -⟩ := hSw; go_simp; try with_reducible rfl)
    try simp only [Act.put, List.setIfInBounds_toArray, List.set_cons_zero, List.set_cons_succ]
    refine wpAnyH_take (i := 18) (oi := { dst := some 67, op := Op.move (Operand.tmp 8), type := 24, pos := "keeps.go:68", after := #[{ on := 17, ground := Ground.guard }], guard := some (17, true) }) (v := ?v1017) rfl (by kernel_rfl) (by kernel_rfl) (by kernel_rfl) (fun _ _ _ h => h) (Or.inl ⟨by rfl, ?hy1017⟩) (by assumption) ?rest1017
    case hy1017 => (intro w1 hSw; (try dsimp only at hSw); obtain ⟨h0, h1, -⟩ := hSw; go_simp; try with_reducible rfl)
    try simp only [Act.put, List.setIfInBounds_toArray, List.set_cons_zero, List.set_cons_succ]
    refine wpAnyH_ready (rs := [19]) (by kernel_rfl) (by simp) ?_
    refine AllReadyH.cons (o := { dst := some 68, op := Op.call { callee := Callee.value (Operand.func 17), args := #[Operand.tmp 67, Operand.const (Value.int IntKind.i64 4), Operand.const (Value.int IntKind.i64 2)], argTypes := #[24, 3, 3] }, type := 28, pos := "keeps.go:68", after := #[{ on := 18, ground := Ground.data }, { on := 17, ground := Ground.chain }, { on := 17, ground := Ground.guard }], guard := some (17, true) }) rfl (fun K hK => ?_) AllReadyH.nil
    go_simp
    refine (want_is (sa := false) (sl := []) q1018 ⟨by decide, by decide⟩ ⟨by decide, by decide⟩ H42.out).mono ?_
    rintro e w1024 ⟨a1022, c1023, rfl, -, hb1025⟩
    have q1026 := q1018.later hb1025
    have q1027 := q1019.later hb1025
    have q1028 := q1020.later hb1025
    have q1029 := q1021.later hb1025
    refine hK.out _ _ (⟨q1029.cell 0, q1029.cell 1, trivial⟩) (fun hHeld => ?_)
    clear hK K
    try simp only [Act.put, List.setIfInBounds_toArray, List.set_cons_zero, List.set_cons_succ]
    refine wpAnyH_ready (rs := [20]) (by kernel_rfl) (by simp) ?_
    refine AllReadyH.cons (o := { dst := some 69, op := Op.call { callee := Callee.value (Operand.func 18), args := #[Operand.tmp 68], argTypes := #[28] }, type := 4, pos := "keeps.go:68", after := #[{ on := 19, ground := Ground.data }, { on := 19, ground := Ground.chain }, { on := 17, ground := Ground.guard }], guard := some (17, true) }) rfl (fun K hK => ?_) AllReadyH.nil
    go_simp
    refine (empty_any (sa := false) (sl := []) (B := true) rfl).mono ?_
    rintro e w1030 ⟨rfl, hb1031⟩
    have q1032 := q1026.later hb1031
    have q1033 := q1027.later hb1031
    have q1034 := q1028.later hb1031
    have q1035 := q1029.later hb1031
    refine hK.out _ _ (⟨q1035.cell 0, q1035.cell 1, trivial⟩) (fun hHeld => ?_)
    clear hK K
    try simp only [Act.put, List.setIfInBounds_toArray, List.set_cons_zero, List.set_cons_succ]
    refine wpAnyH_take (i := 21) (oi := { dst := some 70, op := Op.pick (Operand.tmp 66) (Operand.tmp 69) (Operand.const (Value.bool false)), type := 4, pos := "keeps.go:68", after := #[{ on := 17, ground := Ground.data }, { on := 20, ground := Ground.data }], guard := none }) (v := ?v1018) rfl (by kernel_rfl) (by kernel_rfl) (by kernel_rfl) (fun _ _ _ h => h) (Or.inl ⟨by rfl, ?hy1018⟩) (by assumption) ?rest1018
    case hy1018 => (intro w1 hSw; (try dsimp only at hSw); obtain ⟨h0, h1, -⟩ := hSw; go_simp; try with_reducible rfl)
    try simp only [Act.put, List.setIfInBounds_toArray, List.set_cons_zero, List.set_cons_succ]
    refine wpAnyH_take (i := 22) (oi := { dst := some 71, op := Op.move (Operand.tmp 70), type := 4, pos := "keeps.go:68", after := #[{ on := 21, ground := Ground.data }, { on := 20, ground := Ground.chain }], guard := none }) (v := ?v1019) rfl (by kernel_rfl) (by kernel_rfl) (by kernel_rfl) (fun _ _ _ h => h) (Or.inl ⟨by rfl, ?hy1019⟩) (by assumption) ?rest1019
    case hy1019 => (intro w1 hSw; (try dsimp only at hSw); obtain ⟨h0, h1, -⟩ := hSw; go_simp; try with_reducible rfl)
    try simp only [Act.put, List.setIfInBounds_toArray, List.set_cons_zero, List.set_cons_succ]
    refine wpAnyH_take (i := 23) (oi := { dst := some 72, op := Op.move (Operand.tmp 8), type := 24, pos := "keeps.go:68", after := #[{ on := 22, ground := Ground.guard }], guard := some (22, true) }) (v := ?v1020) rfl (by kernel_rfl) (by kernel_rfl) (by kernel_rfl) (fun _ _ _ h => h) (Or.inl ⟨by rfl, ?hy1020⟩) (by assumption) ?rest1020
    case hy1020 => (intro w1 hSw; (try dsimp only at hSw); obtain ⟨h0, h1, -⟩ := hSw; go_simp; try with_reducible rfl)
    try simp only [Act.put, List.setIfInBounds_toArray, List.set_cons_zero, List.set_cons_succ]
    refine wpAnyH_take (i := 25) (oi := { dst := some 74, op := Op.load 28 (Operand.tmp 11), type := 28, pos := "keeps.go:68", after := #[{ on := 22, ground := Ground.guard }], guard := some (22, true) }) (v := ?v1021) rfl (by kernel_rfl) (by kernel_rfl) (by kernel_rfl) (fun _ _ _ h => h) (Or.inl ⟨by rfl, ?hy1021⟩) (by assumption) ?rest1021
    case hy1021 => (intro w1 hSw; (try dsimp only at hSw); obtain ⟨h0, h1, -⟩ := hSw; go_simp; try with_reducible rfl)
    try simp only [Act.put, List.setIfInBounds_toArray, List.set_cons_zero, List.set_cons_succ]
    refine wpAnyH_ready (rs := [24]) (by kernel_rfl) (by simp) ?_
    refine AllReadyH.cons (o := { dst := some 73, op := Op.call { callee := Callee.value (Operand.func 16), args := #[Operand.tmp 72, Operand.const (Value.int IntKind.i64 1)], argTypes := #[24, 3] }, type := 28, pos := "keeps.go:68", after := #[{ on := 23, ground := Ground.data }, { on := 22, ground := Ground.chain }, { on := 22, ground := Ground.guard }], guard := some (22, true) }) rfl (fun K hK => ?_) AllReadyH.nil
    go_simp
    refine (union_is (sa := za) (sl := zl) q1032 ⟨by decide, by decide⟩ HU1.out).mono ?_
    rintro e w1039 ⟨a1036, c1037, rfl, h1038, hb1040⟩
    have q1041 := q1032.later hb1040
    have q1042 := q1033.later hb1040
    have q1043 := q1034.later hb1040
    have q1044 := q1035.later hb1040
    refine hK.out _ _ (⟨q1044.cell 0, q1044.cell 1, trivial⟩) (fun hHeld => ?_)
    clear hK K
    try simp only [Act.put, List.setIfInBounds_toArray, List.set_cons_zero, List.set_cons_succ]
    refine wpAnyH_ready (rs := [26]) (by kernel_rfl) (by simp) ?_
    refine AllReadyH.cons (o := { dst := some 75, op := Op.call { callee := Callee.value (Operand.func 15), args := #[Operand.tmp 73, Operand.tmp 74], argTypes := #[28, 28] }, type := 4, pos := "keeps.go:68", after := #[{ on := 24, ground := Ground.data }, { on := 25, ground := Ground.data }, { on := 24, ground := Ground.chain }, { on := 22, ground := Ground.guard }], guard := some (22, true) }) rfl (fun K hK => ?_) AllReadyH.nil
    go_simp
    refine (same_any (al := zl) (bl := zl) h1038 q1043 HFz.out.fit HFz.out.fit (same_self HFz.out.r)).mono ?_
    rintro e w1045 ⟨rfl, hb1046⟩
    have q1047 := q1041.later hb1046
    have q1048 := q1042.later hb1046
    have q1049 := q1043.later hb1046
    have q1050 := q1044.later hb1046
    have q1051 := h1038.later hb1046
    refine hK.out _ _ (⟨q1050.cell 0, q1050.cell 1, trivial⟩) (fun hHeld => ?_)
    clear hK K
    try simp only [Act.put, List.setIfInBounds_toArray, List.set_cons_zero, List.set_cons_succ]
    refine wpAnyH_take (i := 27) (oi := { dst := some 76, op := Op.pick (Operand.tmp 71) (Operand.tmp 75) (Operand.const (Value.bool false)), type := 4, pos := "keeps.go:68", after := #[{ on := 22, ground := Ground.data }, { on := 26, ground := Ground.data }], guard := none }) (v := ?v1022) rfl (by kernel_rfl) (by kernel_rfl) (by kernel_rfl) (fun _ _ _ h => h) (Or.inl ⟨by rfl, ?hy1022⟩) (by assumption) ?rest1022
    case hy1022 => (intro w1 hSw; (try dsimp only at hSw); obtain ⟨h0, h1, -⟩ := hSw; go_simp; try with_reducible rfl)
    try simp only [Act.put, List.setIfInBounds_toArray, List.set_cons_zero, List.set_cons_succ]
    refine wpAnyH_take (i := 28) (oi := { dst := some 77, op := Op.move (Operand.tmp 76), type := 4, pos := "keeps.go:68", after := #[{ on := 27, ground := Ground.data }, { on := 26, ground := Ground.chain }], guard := none }) (v := ?v1023) rfl (by kernel_rfl) (by kernel_rfl) (by kernel_rfl) (fun _ _ _ h => h) (Or.inl ⟨by rfl, ?hy1023⟩) (by assumption) ?rest1023
    case hy1023 => (intro w1 hSw; (try dsimp only at hSw); obtain ⟨h0, h1, -⟩ := hSw; go_simp; try with_reducible rfl)
    try simp only [Act.put, List.setIfInBounds_toArray, List.set_cons_zero, List.set_cons_succ]
    refine wpAnyH_take (i := 29) (oi := { dst := some 78, op := Op.move (Operand.tmp 8), type := 24, pos := "keeps.go:68", after := #[{ on := 28, ground := Ground.guard }], guard := some (28, true) }) (v := ?v1024) rfl (by kernel_rfl) (by kernel_rfl) (by kernel_rfl) (fun _ _ _ h => h) (Or.inl ⟨by rfl, ?hy1024⟩) (by assumption) ?rest1024
    case hy1024 => (intro w1 hSw; (try dsimp only at hSw); obtain ⟨h0, h1, -⟩ := hSw; go_simp; try with_reducible rfl)
    try simp only [Act.put, List.setIfInBounds_toArray, List.set_cons_zero, List.set_cons_succ]
    refine wpAnyH_ready (rs := [30]) (by kernel_rfl) (by simp) ?_
    refine AllReadyH.cons (o := { dst := some 79, op := Op.call { callee := Callee.value (Operand.func 16), args := #[Operand.tmp 78, Operand.const (Value.int IntKind.i64 2)], argTypes := #[24, 3] }, type := 28, pos := "keeps.go:68", after := #[{ on := 29, ground := Ground.data }, { on := 28, ground := Ground.chain }, { on := 28, ground := Ground.guard }], guard := some (28, true) }) rfl (fun K hK => ?_) AllReadyH.nil
    go_simp
    refine (union_is (sa := false) (sl := []) q1047 ⟨by decide, by decide⟩ HU2.out).mono ?_
    rintro e w1054 ⟨a1052, c1053, rfl, -, hb1055⟩
    have q1056 := q1047.later hb1055
    have q1057 := q1048.later hb1055
    have q1058 := q1049.later hb1055
    have q1059 := q1050.later hb1055
    have q1060 := q1051.later hb1055
    refine hK.out _ _ (⟨q1059.cell 0, q1059.cell 1, trivial⟩) (fun hHeld => ?_)
    clear hK K
    try simp only [Act.put, List.setIfInBounds_toArray, List.set_cons_zero, List.set_cons_succ]
    refine wpAnyH_ready (rs := [31]) (by kernel_rfl) (by simp) ?_
    refine AllReadyH.cons (o := { dst := some 80, op := Op.call { callee := Callee.value (Operand.func 18), args := #[Operand.tmp 79], argTypes := #[28] }, type := 4, pos := "keeps.go:68", after := #[{ on := 30, ground := Ground.data }, { on := 30, ground := Ground.chain }, { on := 28, ground := Ground.guard }], guard := some (28, true) }) rfl (fun K hK => ?_) AllReadyH.nil
    go_simp
    refine (empty_any (sa := false) (sl := []) (B := true) rfl).mono ?_
    rintro e w1061 ⟨rfl, hb1062⟩
    have q1063 := q1056.later hb1062
    have q1064 := q1057.later hb1062
    have q1065 := q1058.later hb1062
    have q1066 := q1059.later hb1062
    have q1067 := q1060.later hb1062
    refine hK.out _ _ (⟨q1066.cell 0, q1066.cell 1, trivial⟩) (fun hHeld => ?_)
    clear hK K
    try simp only [Act.put, List.setIfInBounds_toArray, List.set_cons_zero, List.set_cons_succ]
    refine wpAnyH_take (i := 32) (oi := { dst := some 81, op := Op.pick (Operand.tmp 77) (Operand.tmp 80) (Operand.const (Value.bool false)), type := 4, pos := "keeps.go:68", after := #[{ on := 28, ground := Ground.data }, { on := 31, ground := Ground.data }], guard := none }) (v := ?v1025) rfl (by kernel_rfl) (by kernel_rfl) (by kernel_rfl) (fun _ _ _ h => h) (Or.inl ⟨by rfl, ?hy1025⟩) (by assumption) ?rest1025
    case hy1025 => (intro w1 hSw; (try dsimp only at hSw); obtain ⟨h0, h1, -⟩ := hSw; go_simp; try with_reducible rfl)
    try simp only [Act.put, List.setIfInBounds_toArray, List.set_cons_zero, List.set_cons_succ]
    refine wpAnyH_take (i := 33) (oi := { dst := some 6, op := Op.assign (Operand.tmp 81), type := 4, pos := "keeps.go:68", after := #[{ on := 32, ground := Ground.data }, { on := 31, ground := Ground.chain }, { on := 0, ground := Ground.phase }, { on := 1, ground := Ground.phase }, { on := 2, ground := Ground.phase }, { on := 3, ground := Ground.phase }, { on := 4, ground := Ground.phase }, { on := 5, ground := Ground.phase }, { on := 6, ground := Ground.phase }, { on := 7, ground := Ground.phase }, { on := 8, ground := Ground.phase }, { on := 9, ground := Ground.phase }, { on := 10, ground := Ground.phase }, { on := 11, ground := Ground.phase }, { on := 12, ground := Ground.phase }, { on := 13, ground := Ground.phase }, { on := 14, ground := Ground.phase }, { on := 15, ground := Ground.phase }, { on := 16, ground := Ground.phase }, { on := 17, ground := Ground.phase }, { on := 18, ground := Ground.phase }, { on := 19, ground := Ground.phase }, { on := 20, ground := Ground.phase }, { on := 21, ground := Ground.phase }, { on := 22, ground := Ground.phase }, { on := 23, ground := Ground.phase }, { on := 24, ground := Ground.phase }, { on := 25, ground := Ground.phase }, { on := 26, ground := Ground.phase }, { on := 27, ground := Ground.phase }, { on := 28, ground := Ground.phase }, { on := 29, ground := Ground.phase }, { on := 30, ground := Ground.phase }, { on := 31, ground := Ground.phase }, { on := 32, ground := Ground.phase }], guard := none }) (v := ?v1026) rfl (by kernel_rfl) (by kernel_rfl) (by kernel_rfl) (fun _ _ _ h => h) (Or.inl ⟨by rfl, ?hy1026⟩) (by assumption) ?rest1026
    case hy1026 => (intro w1 hSw; (try dsimp only at hSw); obtain ⟨h0, h1, -⟩ := hSw; go_simp; try with_reducible rfl)
    try simp only [Act.put, List.setIfInBounds_toArray, List.set_cons_zero, List.set_cons_succ]
    refine wpAnyH_done (by kernel_rfl) ?_ _
    go_wp2_with fail
    go_ret
    exact ⟨rfl, HB.out.trans ((q1064.below (Nat.le_refl _)).mono HB.out.size)⟩
  | true =>
    go_wp2_with fail
    refine (empty_any (sa := ya) (sl := yl) HEy.out).mono ?_
    rintro e wF ⟨rfl, hb⟩
    dsimp only
    have HM := Lib.hid (HM.out.later hb)
    have HK := Lib.hid (HK.out.trans (.of hb))
    have HQx := Lib.hid (HQx.out.later hb)
    have HQy := Lib.hid (HQy.out.later hb)
    have HQz := Lib.hid (HQz.out.later hb)
    have HTx := Lib.hid (HTx.out.later hb)
    have HTy := Lib.hid (HTy.out.later hb)
    have HTz := Lib.hid (HTz.out.later hb)
    clear hb
    cases by_ with
    | false =>
      obtain rfl : (0 : Int) = D := HDe.out
      clear HDe
      go_wp2_with fail
      obtain ⟨w1068, hw1069, hb1070⟩ := drew_new wF
      have q1071 := HM.out.later hb1070
      have q1072 := HK.out.later hb1070
      have q1073 := HTz.out.later hb1070
      have q1074 := HQz.out.later hb1070
      refine wp_region_held_drew (S := (fun w' => w'.cell? ⟨w18.heap.size, 0, none⟩ = some (.bool za) ∧ w'.cell? ⟨w18.heap.size, 1, none⟩ = some (.slice oz zl.length dz) ∧ True)) (by kernel_rfl) (by rw [hw1069]; exact ⟨q1074.cell 0, q1074.cell 1, trivial⟩) (fun hHeld => ?_)
      rw [hw1069] at hHeld ⊢
      refine wpAnyH_take (i := 0) (oi := { dst := some 49, op := Op.move (Operand.tmp 7), type := 4, pos := "keeps.go:68", after := #[], guard := none }) (v := ?v1068) rfl (by kernel_rfl) (by kernel_rfl) (by kernel_rfl) (fun _ _ _ h => h) (Or.inl ⟨by rfl, ?hy1068⟩) (by assumption) ?rest1068
      case hy1068 => (intro w1 hSw; (try dsimp only at hSw); obtain ⟨h0, h1, -⟩ := hSw; go_simp; try with_reducible rfl)
      try simp only [Act.put, List.setIfInBounds_toArray, List.set_cons_zero, List.set_cons_succ]
      refine wpAnyH_take (i := 1) (oi := { dst := some 50, op := Op.move (Operand.tmp 49), type := 4, pos := "keeps.go:68", after := #[{ on := 0, ground := Ground.data }], guard := none }) (v := ?v1069) rfl (by kernel_rfl) (by kernel_rfl) (by kernel_rfl) (fun _ _ _ h => h) (Or.inl ⟨by rfl, ?hy1069⟩) (by assumption) ?rest1069
      case hy1069 => (intro w1 hSw; (try dsimp only at hSw); obtain ⟨h0, h1, -⟩ := hSw; go_simp; try with_reducible rfl)
      try simp only [Act.put, List.setIfInBounds_toArray, List.set_cons_zero, List.set_cons_succ]
      refine wpAnyH_take (i := 2) (oi := { dst := some 51, op := Op.move (Operand.tmp 12), type := 35, pos := "keeps.go:68", after := #[{ on := 1, ground := Ground.guard }], guard := some (1, true) }) (v := ?v1070) rfl (by kernel_rfl) (by kernel_rfl) (by kernel_rfl) (fun _ _ _ h => h) (Or.inl ⟨by rfl, ?hy1070⟩) (by assumption) ?rest1070
      case hy1070 => (intro w1 hSw; (try dsimp only at hSw); obtain ⟨h0, h1, -⟩ := hSw; go_simp; try with_reducible rfl)
      try simp only [Act.put, List.setIfInBounds_toArray, List.set_cons_zero, List.set_cons_succ]
      refine wpAnyH_take (i := 3) (oi := { dst := some 52, op := Op.binOp BinOp.eql 35 (Operand.tmp 51) (Operand.const (Value.int IntKind.i64 0)) 35, type := 4, pos := "keeps.go:68", after := #[{ on := 2, ground := Ground.data }, { on := 1, ground := Ground.guard }], guard := some (1, true) }) (v := ?v1071) rfl (by kernel_rfl) (by kernel_rfl) (by kernel_rfl) (fun _ _ _ h => h) (Or.inl ⟨by rfl, ?hy1071⟩) (by assumption) ?rest1071
      case hy1071 => (intro w1 hSw; (try dsimp only at hSw); obtain ⟨h0, h1, -⟩ := hSw; go_simp; try with_reducible rfl)
      try simp only [Act.put, List.setIfInBounds_toArray, List.set_cons_zero, List.set_cons_succ]
      refine wpAnyH_take (i := 4) (oi := { dst := some 53, op := Op.move (Operand.tmp 14), type := 4, pos := "keeps.go:68", after := #[{ on := 1, ground := Ground.guard }], guard := some (1, true) }) (v := ?v1072) rfl (by kernel_rfl) (by kernel_rfl) (by kernel_rfl) (fun _ _ _ h => h) (Or.inl ⟨by rfl, ?hy1072⟩) (by assumption) ?rest1072
      case hy1072 => (intro w1 hSw; (try dsimp only at hSw); obtain ⟨h0, h1, -⟩ := hSw; go_simp; try with_reducible rfl)
      try simp only [Act.put, List.setIfInBounds_toArray, List.set_cons_zero, List.set_cons_succ]
      refine wpAnyH_take (i := 5) (oi := { dst := some 54, op := Op.unOp UnOp.not 4 (Operand.tmp 53), type := 4, pos := "keeps.go:68", after := #[{ on := 4, ground := Ground.data }, { on := 1, ground := Ground.guard }], guard := some (1, true) }) (v := ?v1073) rfl (by kernel_rfl) (by kernel_rfl) (by kernel_rfl) (fun _ _ _ h => h) (Or.inl ⟨by rfl, ?hy1073⟩) (by assumption) ?rest1073
      case hy1073 => (intro w1 hSw; (try dsimp only at hSw); obtain ⟨h0, h1, -⟩ := hSw; go_simp; try with_reducible rfl)
      try simp only [Act.put, List.setIfInBounds_toArray, List.set_cons_zero, List.set_cons_succ]
      refine wpAnyH_take (i := 6) (oi := { dst := some 55, op := Op.binOp BinOp.eql 4 (Operand.tmp 52) (Operand.tmp 54) 4, type := 4, pos := "keeps.go:68", after := #[{ on := 3, ground := Ground.data }, { on := 5, ground := Ground.data }, { on := 1, ground := Ground.guard }], guard := some (1, true) }) (v := ?v1074) rfl (by kernel_rfl) (by kernel_rfl) (by kernel_rfl) (fun _ _ _ h => h) (Or.inl ⟨by rfl, ?hy1074⟩) (by assumption) ?rest1074
      case hy1074 => (intro w1 hSw; (try dsimp only at hSw); obtain ⟨h0, h1, -⟩ := hSw; go_simp; try with_reducible rfl)
      try simp only [Act.put, List.setIfInBounds_toArray, List.set_cons_zero, List.set_cons_succ]
      refine wpAnyH_take (i := 7) (oi := { dst := some 56, op := Op.pick (Operand.tmp 50) (Operand.tmp 55) (Operand.const (Value.bool false)), type := 4, pos := "keeps.go:68", after := #[{ on := 1, ground := Ground.data }, { on := 6, ground := Ground.data }], guard := none }) (v := ?v1075) rfl (by kernel_rfl) (by kernel_rfl) (by kernel_rfl) (fun _ _ _ h => h) (Or.inl ⟨by rfl, ?hy1075⟩) (by assumption) ?rest1075
      case hy1075 => (intro w1 hSw; (try dsimp only at hSw); obtain ⟨h0, h1, -⟩ := hSw; go_simp; try with_reducible rfl)
      try simp only [Act.put, List.setIfInBounds_toArray, List.set_cons_zero, List.set_cons_succ]
      refine wpAnyH_take (i := 8) (oi := { dst := some 57, op := Op.move (Operand.tmp 56), type := 4, pos := "keeps.go:68", after := #[{ on := 7, ground := Ground.data }, { on := 1, ground := Ground.chain }], guard := none }) (v := ?v1076) rfl (by kernel_rfl) (by kernel_rfl) (by kernel_rfl) (fun _ _ _ h => h) (Or.inl ⟨by rfl, ?hy1076⟩) (by assumption) ?rest1076
      case hy1076 => (intro w1 hSw; (try dsimp only at hSw); obtain ⟨h0, h1, -⟩ := hSw; go_simp; try with_reducible rfl)
      try simp only [Act.put, List.setIfInBounds_toArray, List.set_cons_zero, List.set_cons_succ]
      refine wpAnyH_take (i := 9) (oi := { dst := some 58, op := Op.move (Operand.tmp 13), type := 35, pos := "keeps.go:68", after := #[{ on := 8, ground := Ground.guard }], guard := some (8, true) }) (v := ?v1077) rfl (by kernel_rfl) (by kernel_rfl) (by kernel_rfl) (fun _ _ _ h => h) (Or.inl ⟨by rfl, ?hy1077⟩) (by assumption) ?rest1077
      case hy1077 => (intro w1 hSw; (try dsimp only at hSw); obtain ⟨h0, h1, -⟩ := hSw; go_simp; try with_reducible rfl)
      try simp only [Act.put, List.setIfInBounds_toArray, List.set_cons_zero, List.set_cons_succ]
      refine wpAnyH_take (i := 10) (oi := { dst := some 59, op := Op.binOp BinOp.eql 35 (Operand.tmp 58) (Operand.const (Value.int IntKind.i64 5)) 35, type := 4, pos := "keeps.go:68", after := #[{ on := 9, ground := Ground.data }, { on := 8, ground := Ground.guard }], guard := some (8, true) }) (v := ?v1078) rfl (by kernel_rfl) (by kernel_rfl) (by kernel_rfl) (fun _ _ _ h => h) (Or.inl ⟨by rfl, ?hy1078⟩) (by assumption) ?rest1078
      case hy1078 => (intro w1 hSw; (try dsimp only at hSw); obtain ⟨h0, h1, -⟩ := hSw; go_simp; try with_reducible rfl)
      try simp only [Act.put, List.setIfInBounds_toArray, List.set_cons_zero, List.set_cons_succ]
      refine wpAnyH_take (i := 11) (oi := { dst := some 60, op := Op.pick (Operand.tmp 57) (Operand.tmp 59) (Operand.const (Value.bool false)), type := 4, pos := "keeps.go:68", after := #[{ on := 8, ground := Ground.data }, { on := 10, ground := Ground.data }], guard := none }) (v := ?v1079) rfl (by kernel_rfl) (by kernel_rfl) (by kernel_rfl) (fun _ _ _ h => h) (Or.inl ⟨by rfl, ?hy1079⟩) (by assumption) ?rest1079
      case hy1079 => (intro w1 hSw; (try dsimp only at hSw); obtain ⟨h0, h1, -⟩ := hSw; go_simp; try with_reducible rfl)
      try simp only [Act.put, List.setIfInBounds_toArray, List.set_cons_zero, List.set_cons_succ]
      refine wpAnyH_take (i := 12) (oi := { dst := some 61, op := Op.move (Operand.tmp 60), type := 4, pos := "keeps.go:68", after := #[{ on := 11, ground := Ground.data }, { on := 8, ground := Ground.chain }], guard := none }) (v := ?v1080) rfl (by kernel_rfl) (by kernel_rfl) (by kernel_rfl) (fun _ _ _ h => h) (Or.inl ⟨by rfl, ?hy1080⟩) (by assumption) ?rest1080
      case hy1080 => (intro w1 hSw; (try dsimp only at hSw); obtain ⟨h0, h1, -⟩ := hSw; go_simp; try with_reducible rfl)
      try simp only [Act.put, List.setIfInBounds_toArray, List.set_cons_zero, List.set_cons_succ]
      refine wpAnyH_take (i := 13) (oi := { dst := some 62, op := Op.move (Operand.tmp 8), type := 24, pos := "keeps.go:68", after := #[{ on := 12, ground := Ground.guard }], guard := some (12, true) }) (v := ?v1081) rfl (by kernel_rfl) (by kernel_rfl) (by kernel_rfl) (fun _ _ _ h => h) (Or.inl ⟨by rfl, ?hy1081⟩) (by assumption) ?rest1081
      case hy1081 => (intro w1 hSw; (try dsimp only at hSw); obtain ⟨h0, h1, -⟩ := hSw; go_simp; try with_reducible rfl)
      try simp only [Act.put, List.setIfInBounds_toArray, List.set_cons_zero, List.set_cons_succ]
      refine wpAnyH_ready (rs := [14]) (by kernel_rfl) (by simp) ?_
      refine AllReadyH.cons (o := { dst := some 63, op := Op.call { callee := Callee.value (Operand.func 17), args := #[Operand.tmp 62, Operand.const (Value.int IntKind.i64 4), Operand.const (Value.int IntKind.i64 1)], argTypes := #[24, 3, 3] }, type := 28, pos := "keeps.go:68", after := #[{ on := 13, ground := Ground.data }, { on := 12, ground := Ground.chain }, { on := 12, ground := Ground.guard }], guard := some (12, true) }) rfl (fun K hK => ?_) AllReadyH.nil
      go_simp
      refine (want_is (sa := false) (sl := []) q1071 ⟨by decide, by decide⟩ ⟨by decide, by decide⟩ H41.out).mono ?_
      rintro e w1077 ⟨a1075, c1076, rfl, -, hb1078⟩
      have q1079 := q1071.later hb1078
      have q1080 := q1072.later hb1078
      have q1081 := q1073.later hb1078
      have q1082 := q1074.later hb1078
      refine hK.out _ _ (⟨q1082.cell 0, q1082.cell 1, trivial⟩) (fun hHeld => ?_)
      clear hK K
      try simp only [Act.put, List.setIfInBounds_toArray, List.set_cons_zero, List.set_cons_succ]
      refine wpAnyH_ready (rs := [15]) (by kernel_rfl) (by simp) ?_
      refine AllReadyH.cons (o := { dst := some 64, op := Op.call { callee := Callee.value (Operand.func 18), args := #[Operand.tmp 63], argTypes := #[28] }, type := 4, pos := "keeps.go:68", after := #[{ on := 14, ground := Ground.data }, { on := 14, ground := Ground.chain }, { on := 12, ground := Ground.guard }], guard := some (12, true) }) rfl (fun K hK => ?_) AllReadyH.nil
      go_simp
      refine (empty_any (sa := false) (sl := []) (B := true) rfl).mono ?_
      rintro e w1083 ⟨rfl, hb1084⟩
      have q1085 := q1079.later hb1084
      have q1086 := q1080.later hb1084
      have q1087 := q1081.later hb1084
      have q1088 := q1082.later hb1084
      refine hK.out _ _ (⟨q1088.cell 0, q1088.cell 1, trivial⟩) (fun hHeld => ?_)
      clear hK K
      try simp only [Act.put, List.setIfInBounds_toArray, List.set_cons_zero, List.set_cons_succ]
      refine wpAnyH_take (i := 16) (oi := { dst := some 65, op := Op.pick (Operand.tmp 61) (Operand.tmp 64) (Operand.const (Value.bool false)), type := 4, pos := "keeps.go:68", after := #[{ on := 12, ground := Ground.data }, { on := 15, ground := Ground.data }], guard := none }) (v := ?v1082) rfl (by kernel_rfl) (by kernel_rfl) (by kernel_rfl) (fun _ _ _ h => h) (Or.inl ⟨by rfl, ?hy1082⟩) (by assumption) ?rest1082
      case hy1082 => (intro w1 hSw; (try dsimp only at hSw); obtain ⟨h0, h1, -⟩ := hSw; go_simp; try with_reducible rfl)
      try simp only [Act.put, List.setIfInBounds_toArray, List.set_cons_zero, List.set_cons_succ]
      refine wpAnyH_take (i := 17) (oi := { dst := some 66, op := Op.move (Operand.tmp 65), type := 4, pos := "keeps.go:68", after := #[{ on := 16, ground := Ground.data }, { on := 15, ground := Ground.chain }], guard := none }) (v := ?v1083) rfl (by kernel_rfl) (by kernel_rfl) (by kernel_rfl) (fun _ _ _ h => h) (Or.inl ⟨by rfl, ?hy1083⟩) (by assumption) ?rest1083
      case hy1083 => (intro w1 hSw; (try dsimp only at hSw); obtain ⟨h0, h1, -⟩ := hSw; go_simp; try with_reducible rfl)
      try simp only [Act.put, List.setIfInBounds_toArray, List.set_cons_zero, List.set_cons_succ]
      refine wpAnyH_take (i := 18) (oi := { dst := some 67, op := Op.move (Operand.tmp 8), type := 24, pos := "keeps.go:68", after := #[{ on := 17, ground := Ground.guard }], guard := some (17, true) }) (v := ?v1084) rfl (by kernel_rfl) (by kernel_rfl) (by kernel_rfl) (fun _ _ _ h => h) (Or.inl ⟨by rfl, ?hy1084⟩) (by assumption) ?rest1084
      case hy1084 => (intro w1 hSw; (try dsimp only at hSw); obtain ⟨h0, h1, -⟩ := hSw; go_simp; try with_reducible rfl)
      try simp only [Act.put, List.setIfInBounds_toArray, List.set_cons_zero, List.set_cons_succ]
      refine wpAnyH_ready (rs := [19]) (by kernel_rfl) (by simp) ?_
      refine AllReadyH.cons (o := { dst := some 68, op := Op.call { callee := Callee.value (Operand.func 17), args := #[Operand.tmp 67, Operand.const (Value.int IntKind.i64 4), Operand.const (Value.int IntKind.i64 2)], argTypes := #[24, 3, 3] }, type := 28, pos := "keeps.go:68", after := #[{ on := 18, ground := Ground.data }, { on := 17, ground := Ground.chain }, { on := 17, ground := Ground.guard }], guard := some (17, true) }) rfl (fun K hK => ?_) AllReadyH.nil
      go_simp
      refine (want_is (sa := false) (sl := []) q1085 ⟨by decide, by decide⟩ ⟨by decide, by decide⟩ H42.out).mono ?_
      rintro e w1091 ⟨a1089, c1090, rfl, -, hb1092⟩
      have q1093 := q1085.later hb1092
      have q1094 := q1086.later hb1092
      have q1095 := q1087.later hb1092
      have q1096 := q1088.later hb1092
      refine hK.out _ _ (⟨q1096.cell 0, q1096.cell 1, trivial⟩) (fun hHeld => ?_)
      clear hK K
      try simp only [Act.put, List.setIfInBounds_toArray, List.set_cons_zero, List.set_cons_succ]
      refine wpAnyH_ready (rs := [20]) (by kernel_rfl) (by simp) ?_
      refine AllReadyH.cons (o := { dst := some 69, op := Op.call { callee := Callee.value (Operand.func 18), args := #[Operand.tmp 68], argTypes := #[28] }, type := 4, pos := "keeps.go:68", after := #[{ on := 19, ground := Ground.data }, { on := 19, ground := Ground.chain }, { on := 17, ground := Ground.guard }], guard := some (17, true) }) rfl (fun K hK => ?_) AllReadyH.nil
      go_simp
      refine (empty_any (sa := false) (sl := []) (B := true) rfl).mono ?_
      rintro e w1097 ⟨rfl, hb1098⟩
      have q1099 := q1093.later hb1098
      have q1100 := q1094.later hb1098
      have q1101 := q1095.later hb1098
      have q1102 := q1096.later hb1098
      refine hK.out _ _ (⟨q1102.cell 0, q1102.cell 1, trivial⟩) (fun hHeld => ?_)
      clear hK K
      try simp only [Act.put, List.setIfInBounds_toArray, List.set_cons_zero, List.set_cons_succ]
      refine wpAnyH_take (i := 21) (oi := { dst := some 70, op := Op.pick (Operand.tmp 66) (Operand.tmp 69) (Operand.const (Value.bool false)), type := 4, pos := "keeps.go:68", after := #[{ on := 17, ground := Ground.data }, { on := 20, ground := Ground.data }], guard := none }) (v := ?v1085) rfl (by kernel_rfl) (by kernel_rfl) (by kernel_rfl) (fun _ _ _ h => h) (Or.inl ⟨by rfl, ?hy1085⟩) (by assumption) ?rest1085
      case hy1085 => (intro w1 hSw; (try dsimp only at hSw); obtain ⟨h0, h1, -⟩ := hSw; go_simp; try with_reducible rfl)
      try simp only [Act.put, List.setIfInBounds_toArray, List.set_cons_zero, List.set_cons_succ]
      refine wpAnyH_take (i := 22) (oi := { dst := some 71, op := Op.move (Operand.tmp 70), type := 4, pos := "keeps.go:68", after := #[{ on := 21, ground := Ground.data }, { on := 20, ground := Ground.chain }], guard := none }) (v := ?v1086) rfl (by kernel_rfl) (by kernel_rfl) (by kernel_rfl) (fun _ _ _ h => h) (Or.inl ⟨by rfl, ?hy1086⟩) (by assumption) ?rest1086
      case hy1086 => (intro w1 hSw; (try dsimp only at hSw); obtain ⟨h0, h1, -⟩ := hSw; go_simp; try with_reducible rfl)
      try simp only [Act.put, List.setIfInBounds_toArray, List.set_cons_zero, List.set_cons_succ]
      refine wpAnyH_take (i := 23) (oi := { dst := some 72, op := Op.move (Operand.tmp 8), type := 24, pos := "keeps.go:68", after := #[{ on := 22, ground := Ground.guard }], guard := some (22, true) }) (v := ?v1087) rfl (by kernel_rfl) (by kernel_rfl) (by kernel_rfl) (fun _ _ _ h => h) (Or.inl ⟨by rfl, ?hy1087⟩) (by assumption) ?rest1087
      case hy1087 => (intro w1 hSw; (try dsimp only at hSw); obtain ⟨h0, h1, -⟩ := hSw; go_simp; try with_reducible rfl)
      try simp only [Act.put, List.setIfInBounds_toArray, List.set_cons_zero, List.set_cons_succ]
      refine wpAnyH_take (i := 25) (oi := { dst := some 74, op := Op.load 28 (Operand.tmp 11), type := 28, pos := "keeps.go:68", after := #[{ on := 22, ground := Ground.guard }], guard := some (22, true) }) (v := ?v1088) rfl (by kernel_rfl) (by kernel_rfl) (by kernel_rfl) (fun _ _ _ h => h) (Or.inl ⟨by rfl, ?hy1088⟩) (by assumption) ?rest1088
      case hy1088 => (intro w1 hSw; (try dsimp only at hSw); obtain ⟨h0, h1, -⟩ := hSw; go_simp; try with_reducible rfl)
      try simp only [Act.put, List.setIfInBounds_toArray, List.set_cons_zero, List.set_cons_succ]
      refine wpAnyH_ready (rs := [24]) (by kernel_rfl) (by simp) ?_
      refine AllReadyH.cons (o := { dst := some 73, op := Op.call { callee := Callee.value (Operand.func 16), args := #[Operand.tmp 72, Operand.const (Value.int IntKind.i64 1)], argTypes := #[24, 3] }, type := 28, pos := "keeps.go:68", after := #[{ on := 23, ground := Ground.data }, { on := 22, ground := Ground.chain }, { on := 22, ground := Ground.guard }], guard := some (22, true) }) rfl (fun K hK => ?_) AllReadyH.nil
      go_simp
      refine (union_is (sa := za) (sl := zl) q1099 ⟨by decide, by decide⟩ HU1.out).mono ?_
      rintro e w1106 ⟨a1103, c1104, rfl, h1105, hb1107⟩
      have q1108 := q1099.later hb1107
      have q1109 := q1100.later hb1107
      have q1110 := q1101.later hb1107
      have q1111 := q1102.later hb1107
      refine hK.out _ _ (⟨q1111.cell 0, q1111.cell 1, trivial⟩) (fun hHeld => ?_)
      clear hK K
      try simp only [Act.put, List.setIfInBounds_toArray, List.set_cons_zero, List.set_cons_succ]
      refine wpAnyH_ready (rs := [26]) (by kernel_rfl) (by simp) ?_
      refine AllReadyH.cons (o := { dst := some 75, op := Op.call { callee := Callee.value (Operand.func 15), args := #[Operand.tmp 73, Operand.tmp 74], argTypes := #[28, 28] }, type := 4, pos := "keeps.go:68", after := #[{ on := 24, ground := Ground.data }, { on := 25, ground := Ground.data }, { on := 24, ground := Ground.chain }, { on := 22, ground := Ground.guard }], guard := some (22, true) }) rfl (fun K hK => ?_) AllReadyH.nil
      go_simp
      refine (same_any (al := zl) (bl := zl) h1105 q1110 HFz.out.fit HFz.out.fit (same_self HFz.out.r)).mono ?_
      rintro e w1112 ⟨rfl, hb1113⟩
      have q1114 := q1108.later hb1113
      have q1115 := q1109.later hb1113
      have q1116 := q1110.later hb1113
      have q1117 := q1111.later hb1113
      have q1118 := h1105.later hb1113
      refine hK.out _ _ (⟨q1117.cell 0, q1117.cell 1, trivial⟩) (fun hHeld => ?_)
      clear hK K
      try simp only [Act.put, List.setIfInBounds_toArray, List.set_cons_zero, List.set_cons_succ]
      refine wpAnyH_take (i := 27) (oi := { dst := some 76, op := Op.pick (Operand.tmp 71) (Operand.tmp 75) (Operand.const (Value.bool false)), type := 4, pos := "keeps.go:68", after := #[{ on := 22, ground := Ground.data }, { on := 26, ground := Ground.data }], guard := none }) (v := ?v1089) rfl (by kernel_rfl) (by kernel_rfl) (by kernel_rfl) (fun _ _ _ h => h) (Or.inl ⟨by rfl, ?hy1089⟩) (by assumption) ?rest1089
      case hy1089 => (intro w1 hSw; (try dsimp only at hSw); obtain ⟨h0, h1, -⟩ := hSw; go_simp; try with_reducible rfl)
      try simp only [Act.put, List.setIfInBounds_toArray, List.set_cons_zero, List.set_cons_succ]
      refine wpAnyH_take (i := 28) (oi := { dst := some 77, op := Op.move (Operand.tmp 76), type := 4, pos := "keeps.go:68", after := #[{ on := 27, ground := Ground.data }, { on := 26, ground := Ground.chain }], guard := none }) (v := ?v1090) rfl (by kernel_rfl) (by kernel_rfl) (by kernel_rfl) (fun _ _ _ h => h) (Or.inl ⟨by rfl, ?hy1090⟩) (by assumption) ?rest1090
      case hy1090 => (intro w1 hSw; (try dsimp only at hSw); obtain ⟨h0, h1, -⟩ := hSw; go_simp; try with_reducible rfl)
      try simp only [Act.put, List.setIfInBounds_toArray, List.set_cons_zero, List.set_cons_succ]
      refine wpAnyH_take (i := 29) (oi := { dst := some 78, op := Op.move (Operand.tmp 8), type := 24, pos := "keeps.go:68", after := #[{ on := 28, ground := Ground.guard }], guard := some (28, true) }) (v := ?v1091) rfl (by kernel_rfl) (by kernel_rfl) (by kernel_rfl) (fun _ _ _ h => h) (Or.inl ⟨by rfl, ?hy1091⟩) (by assumption) ?rest1091
      case hy1091 => (intro w1 hSw; (try dsimp only at hSw); obtain ⟨h0, h1, -⟩ := hSw; go_simp; try with_reducible rfl)
      try simp only [Act.put, List.setIfInBounds_toArray, List.set_cons_zero, List.set_cons_succ]
      refine wpAnyH_ready (rs := [30]) (by kernel_rfl) (by simp) ?_
      refine AllReadyH.cons (o := { dst := some 79, op := Op.call { callee := Callee.value (Operand.func 16), args := #[Operand.tmp 78, Operand.const (Value.int IntKind.i64 2)], argTypes := #[24, 3] }, type := 28, pos := "keeps.go:68", after := #[{ on := 29, ground := Ground.data }, { on := 28, ground := Ground.chain }, { on := 28, ground := Ground.guard }], guard := some (28, true) }) rfl (fun K hK => ?_) AllReadyH.nil
      go_simp
      refine (union_is (sa := false) (sl := []) q1114 ⟨by decide, by decide⟩ HU2.out).mono ?_
      rintro e w1121 ⟨a1119, c1120, rfl, -, hb1122⟩
      have q1123 := q1114.later hb1122
      have q1124 := q1115.later hb1122
      have q1125 := q1116.later hb1122
      have q1126 := q1117.later hb1122
      have q1127 := q1118.later hb1122
      refine hK.out _ _ (⟨q1126.cell 0, q1126.cell 1, trivial⟩) (fun hHeld => ?_)
      clear hK K
      try simp only [Act.put, List.setIfInBounds_toArray, List.set_cons_zero, List.set_cons_succ]
      refine wpAnyH_ready (rs := [31]) (by kernel_rfl) (by simp) ?_
      refine AllReadyH.cons (o := { dst := some 80, op := Op.call { callee := Callee.value (Operand.func 18), args := #[Operand.tmp 79], argTypes := #[28] }, type := 4, pos := "keeps.go:68", after := #[{ on := 30, ground := Ground.data }, { on := 30, ground := Ground.chain }, { on := 28, ground := Ground.guard }], guard := some (28, true) }) rfl (fun K hK => ?_) AllReadyH.nil
      go_simp
      refine (empty_any (sa := false) (sl := []) (B := true) rfl).mono ?_
      rintro e w1128 ⟨rfl, hb1129⟩
      have q1130 := q1123.later hb1129
      have q1131 := q1124.later hb1129
      have q1132 := q1125.later hb1129
      have q1133 := q1126.later hb1129
      have q1134 := q1127.later hb1129
      refine hK.out _ _ (⟨q1133.cell 0, q1133.cell 1, trivial⟩) (fun hHeld => ?_)
      clear hK K
      try simp only [Act.put, List.setIfInBounds_toArray, List.set_cons_zero, List.set_cons_succ]
      refine wpAnyH_take (i := 32) (oi := { dst := some 81, op := Op.pick (Operand.tmp 77) (Operand.tmp 80) (Operand.const (Value.bool false)), type := 4, pos := "keeps.go:68", after := #[{ on := 28, ground := Ground.data }, { on := 31, ground := Ground.data }], guard := none }) (v := ?v1092) rfl (by kernel_rfl) (by kernel_rfl) (by kernel_rfl) (fun _ _ _ h => h) (Or.inl ⟨by rfl, ?hy1092⟩) (by assumption) ?rest1092
      case hy1092 => (intro w1 hSw; (try dsimp only at hSw); obtain ⟨h0, h1, -⟩ := hSw; go_simp; try with_reducible rfl)
      try simp only [Act.put, List.setIfInBounds_toArray, List.set_cons_zero, List.set_cons_succ]
      refine wpAnyH_take (i := 33) (oi := { dst := some 6, op := Op.assign (Operand.tmp 81), type := 4, pos := "keeps.go:68", after := #[{ on := 32, ground := Ground.data }, { on := 31, ground := Ground.chain }, { on := 0, ground := Ground.phase }, { on := 1, ground := Ground.phase }, { on := 2, ground := Ground.phase }, { on := 3, ground := Ground.phase }, { on := 4, ground := Ground.phase }, { on := 5, ground := Ground.phase }, { on := 6, ground := Ground.phase }, { on := 7, ground := Ground.phase }, { on := 8, ground := Ground.phase }, { on := 9, ground := Ground.phase }, { on := 10, ground := Ground.phase }, { on := 11, ground := Ground.phase }, { on := 12, ground := Ground.phase }, { on := 13, ground := Ground.phase }, { on := 14, ground := Ground.phase }, { on := 15, ground := Ground.phase }, { on := 16, ground := Ground.phase }, { on := 17, ground := Ground.phase }, { on := 18, ground := Ground.phase }, { on := 19, ground := Ground.phase }, { on := 20, ground := Ground.phase }, { on := 21, ground := Ground.phase }, { on := 22, ground := Ground.phase }, { on := 23, ground := Ground.phase }, { on := 24, ground := Ground.phase }, { on := 25, ground := Ground.phase }, { on := 26, ground := Ground.phase }, { on := 27, ground := Ground.phase }, { on := 28, ground := Ground.phase }, { on := 29, ground := Ground.phase }, { on := 30, ground := Ground.phase }, { on := 31, ground := Ground.phase }, { on := 32, ground := Ground.phase }], guard := none }) (v := ?v1093) rfl (by kernel_rfl) (by kernel_rfl) (by kernel_rfl) (fun _ _ _ h => h) (Or.inl ⟨by rfl, ?hy1093⟩) (by assumption) ?rest1093
      case hy1093 => (intro w1 hSw; (try dsimp only at hSw); obtain ⟨h0, h1, -⟩ := hSw; go_simp; try with_reducible rfl)
      try simp only [Act.put, List.setIfInBounds_toArray, List.set_cons_zero, List.set_cons_succ]
      refine wpAnyH_done (by kernel_rfl) ?_ _
      go_wp2_with fail
      go_ret
      exact ⟨rfl, HB.out.trans ((q1131.below (Nat.le_refl _)).mono HB.out.size)⟩
    | true =>
      obtain rfl : (5 : Int) = D := HDe.out
      clear HDe
      go_wp2_with fail
      obtain ⟨w1135, hw1136, hb1137⟩ := drew_new wF
      have q1138 := HM.out.later hb1137
      have q1139 := HK.out.later hb1137
      have q1140 := HTz.out.later hb1137
      have q1141 := HQz.out.later hb1137
      refine wp_region_held_drew (S := (fun w' => w'.cell? ⟨w18.heap.size, 0, none⟩ = some (.bool za) ∧ w'.cell? ⟨w18.heap.size, 1, none⟩ = some (.slice oz zl.length dz) ∧ True)) (by kernel_rfl) (by rw [hw1136]; exact ⟨q1141.cell 0, q1141.cell 1, trivial⟩) (fun hHeld => ?_)
      rw [hw1136] at hHeld ⊢
      refine wpAnyH_take (i := 0) (oi := { dst := some 49, op := Op.move (Operand.tmp 7), type := 4, pos := "keeps.go:68", after := #[], guard := none }) (v := ?v1135) rfl (by kernel_rfl) (by kernel_rfl) (by kernel_rfl) (fun _ _ _ h => h) (Or.inl ⟨by rfl, ?hy1135⟩) (by assumption) ?rest1135
      case hy1135 => (intro w1 hSw; (try dsimp only at hSw); obtain ⟨h0, h1, -⟩ := hSw; go_simp; try with_reducible rfl)
      try simp only [Act.put, List.setIfInBounds_toArray, List.set_cons_zero, List.set_cons_succ]
      refine wpAnyH_take (i := 1) (oi := { dst := some 50, op := Op.move (Operand.tmp 49), type := 4, pos := "keeps.go:68", after := #[{ on := 0, ground := Ground.data }], guard := none }) (v := ?v1136) rfl (by kernel_rfl) (by kernel_rfl) (by kernel_rfl) (fun _ _ _ h => h) (Or.inl ⟨by rfl, ?hy1136⟩) (by assumption) ?rest1136
      case hy1136 => (intro w1 hSw; (try dsimp only at hSw); obtain ⟨h0, h1, -⟩ := hSw; go_simp; try with_reducible rfl)
      try simp only [Act.put, List.setIfInBounds_toArray, List.set_cons_zero, List.set_cons_succ]
      refine wpAnyH_take (i := 2) (oi := { dst := some 51, op := Op.move (Operand.tmp 12), type := 35, pos := "keeps.go:68", after := #[{ on := 1, ground := Ground.guard }], guard := some (1, true) }) (v := ?v1137) rfl (by kernel_rfl) (by kernel_rfl) (by kernel_rfl) (fun _ _ _ h => h) (Or.inl ⟨by rfl, ?hy1137⟩) (by assumption) ?rest1137
      case hy1137 => (intro w1 hSw; (try dsimp only at hSw); obtain ⟨h0, h1, -⟩ := hSw; go_simp; try with_reducible rfl)
      try simp only [Act.put, List.setIfInBounds_toArray, List.set_cons_zero, List.set_cons_succ]
      refine wpAnyH_take (i := 3) (oi := { dst := some 52, op := Op.binOp BinOp.eql 35 (Operand.tmp 51) (Operand.const (Value.int IntKind.i64 0)) 35, type := 4, pos := "keeps.go:68", after := #[{ on := 2, ground := Ground.data }, { on := 1, ground := Ground.guard }], guard := some (1, true) }) (v := ?v1138) rfl (by kernel_rfl) (by kernel_rfl) (by kernel_rfl) (fun _ _ _ h => h) (Or.inl ⟨by rfl, ?hy1138⟩) (by assumption) ?rest1138
      case hy1138 => (intro w1 hSw; (try dsimp only at hSw); obtain ⟨h0, h1, -⟩ := hSw; go_simp; try with_reducible rfl)
      try simp only [Act.put, List.setIfInBounds_toArray, List.set_cons_zero, List.set_cons_succ]
      refine wpAnyH_take (i := 4) (oi := { dst := some 53, op := Op.move (Operand.tmp 14), type := 4, pos := "keeps.go:68", after := #[{ on := 1, ground := Ground.guard }], guard := some (1, true) }) (v := ?v1139) rfl (by kernel_rfl) (by kernel_rfl) (by kernel_rfl) (fun _ _ _ h => h) (Or.inl ⟨by rfl, ?hy1139⟩) (by assumption) ?rest1139
      case hy1139 => (intro w1 hSw; (try dsimp only at hSw); obtain ⟨h0, h1, -⟩ := hSw; go_simp; try with_reducible rfl)
      try simp only [Act.put, List.setIfInBounds_toArray, List.set_cons_zero, List.set_cons_succ]
      refine wpAnyH_take (i := 5) (oi := { dst := some 54, op := Op.unOp UnOp.not 4 (Operand.tmp 53), type := 4, pos := "keeps.go:68", after := #[{ on := 4, ground := Ground.data }, { on := 1, ground := Ground.guard }], guard := some (1, true) }) (v := ?v1140) rfl (by kernel_rfl) (by kernel_rfl) (by kernel_rfl) (fun _ _ _ h => h) (Or.inl ⟨by rfl, ?hy1140⟩) (by assumption) ?rest1140
      case hy1140 => (intro w1 hSw; (try dsimp only at hSw); obtain ⟨h0, h1, -⟩ := hSw; go_simp; try with_reducible rfl)
      try simp only [Act.put, List.setIfInBounds_toArray, List.set_cons_zero, List.set_cons_succ]
      refine wpAnyH_take (i := 6) (oi := { dst := some 55, op := Op.binOp BinOp.eql 4 (Operand.tmp 52) (Operand.tmp 54) 4, type := 4, pos := "keeps.go:68", after := #[{ on := 3, ground := Ground.data }, { on := 5, ground := Ground.data }, { on := 1, ground := Ground.guard }], guard := some (1, true) }) (v := ?v1141) rfl (by kernel_rfl) (by kernel_rfl) (by kernel_rfl) (fun _ _ _ h => h) (Or.inl ⟨by rfl, ?hy1141⟩) (by assumption) ?rest1141
      case hy1141 => (intro w1 hSw; (try dsimp only at hSw); obtain ⟨h0, h1, -⟩ := hSw; go_simp; try with_reducible rfl)
      try simp only [Act.put, List.setIfInBounds_toArray, List.set_cons_zero, List.set_cons_succ]
      refine wpAnyH_take (i := 7) (oi := { dst := some 56, op := Op.pick (Operand.tmp 50) (Operand.tmp 55) (Operand.const (Value.bool false)), type := 4, pos := "keeps.go:68", after := #[{ on := 1, ground := Ground.data }, { on := 6, ground := Ground.data }], guard := none }) (v := ?v1142) rfl (by kernel_rfl) (by kernel_rfl) (by kernel_rfl) (fun _ _ _ h => h) (Or.inl ⟨by rfl, ?hy1142⟩) (by assumption) ?rest1142
      case hy1142 => (intro w1 hSw; (try dsimp only at hSw); obtain ⟨h0, h1, -⟩ := hSw; go_simp; try with_reducible rfl)
      try simp only [Act.put, List.setIfInBounds_toArray, List.set_cons_zero, List.set_cons_succ]
      refine wpAnyH_take (i := 8) (oi := { dst := some 57, op := Op.move (Operand.tmp 56), type := 4, pos := "keeps.go:68", after := #[{ on := 7, ground := Ground.data }, { on := 1, ground := Ground.chain }], guard := none }) (v := ?v1143) rfl (by kernel_rfl) (by kernel_rfl) (by kernel_rfl) (fun _ _ _ h => h) (Or.inl ⟨by rfl, ?hy1143⟩) (by assumption) ?rest1143
      case hy1143 => (intro w1 hSw; (try dsimp only at hSw); obtain ⟨h0, h1, -⟩ := hSw; go_simp; try with_reducible rfl)
      try simp only [Act.put, List.setIfInBounds_toArray, List.set_cons_zero, List.set_cons_succ]
      refine wpAnyH_take (i := 9) (oi := { dst := some 58, op := Op.move (Operand.tmp 13), type := 35, pos := "keeps.go:68", after := #[{ on := 8, ground := Ground.guard }], guard := some (8, true) }) (v := ?v1144) rfl (by kernel_rfl) (by kernel_rfl) (by kernel_rfl) (fun _ _ _ h => h) (Or.inl ⟨by rfl, ?hy1144⟩) (by assumption) ?rest1144
      case hy1144 => (intro w1 hSw; (try dsimp only at hSw); obtain ⟨h0, h1, -⟩ := hSw; go_simp; try with_reducible rfl)
      try simp only [Act.put, List.setIfInBounds_toArray, List.set_cons_zero, List.set_cons_succ]
      refine wpAnyH_take (i := 10) (oi := { dst := some 59, op := Op.binOp BinOp.eql 35 (Operand.tmp 58) (Operand.const (Value.int IntKind.i64 5)) 35, type := 4, pos := "keeps.go:68", after := #[{ on := 9, ground := Ground.data }, { on := 8, ground := Ground.guard }], guard := some (8, true) }) (v := ?v1145) rfl (by kernel_rfl) (by kernel_rfl) (by kernel_rfl) (fun _ _ _ h => h) (Or.inl ⟨by rfl, ?hy1145⟩) (by assumption) ?rest1145
      case hy1145 => (intro w1 hSw; (try dsimp only at hSw); obtain ⟨h0, h1, -⟩ := hSw; go_simp; try with_reducible rfl)
      try simp only [Act.put, List.setIfInBounds_toArray, List.set_cons_zero, List.set_cons_succ]
      refine wpAnyH_take (i := 11) (oi := { dst := some 60, op := Op.pick (Operand.tmp 57) (Operand.tmp 59) (Operand.const (Value.bool false)), type := 4, pos := "keeps.go:68", after := #[{ on := 8, ground := Ground.data }, { on := 10, ground := Ground.data }], guard := none }) (v := ?v1146) rfl (by kernel_rfl) (by kernel_rfl) (by kernel_rfl) (fun _ _ _ h => h) (Or.inl ⟨by rfl, ?hy1146⟩) (by assumption) ?rest1146
      case hy1146 => (intro w1 hSw; (try dsimp only at hSw); obtain ⟨h0, h1, -⟩ := hSw; go_simp; try with_reducible rfl)
      try simp only [Act.put, List.setIfInBounds_toArray, List.set_cons_zero, List.set_cons_succ]
      refine wpAnyH_take (i := 12) (oi := { dst := some 61, op := Op.move (Operand.tmp 60), type := 4, pos := "keeps.go:68", after := #[{ on := 11, ground := Ground.data }, { on := 8, ground := Ground.chain }], guard := none }) (v := ?v1147) rfl (by kernel_rfl) (by kernel_rfl) (by kernel_rfl) (fun _ _ _ h => h) (Or.inl ⟨by rfl, ?hy1147⟩) (by assumption) ?rest1147
      case hy1147 => (intro w1 hSw; (try dsimp only at hSw); obtain ⟨h0, h1, -⟩ := hSw; go_simp; try with_reducible rfl)
      try simp only [Act.put, List.setIfInBounds_toArray, List.set_cons_zero, List.set_cons_succ]
      refine wpAnyH_take (i := 13) (oi := { dst := some 62, op := Op.move (Operand.tmp 8), type := 24, pos := "keeps.go:68", after := #[{ on := 12, ground := Ground.guard }], guard := some (12, true) }) (v := ?v1148) rfl (by kernel_rfl) (by kernel_rfl) (by kernel_rfl) (fun _ _ _ h => h) (Or.inl ⟨by rfl, ?hy1148⟩) (by assumption) ?rest1148
      case hy1148 => (intro w1 hSw; (try dsimp only at hSw); obtain ⟨h0, h1, -⟩ := hSw; go_simp; try with_reducible rfl)
      try simp only [Act.put, List.setIfInBounds_toArray, List.set_cons_zero, List.set_cons_succ]
      refine wpAnyH_ready (rs := [14]) (by kernel_rfl) (by simp) ?_
      refine AllReadyH.cons (o := { dst := some 63, op := Op.call { callee := Callee.value (Operand.func 17), args := #[Operand.tmp 62, Operand.const (Value.int IntKind.i64 4), Operand.const (Value.int IntKind.i64 1)], argTypes := #[24, 3, 3] }, type := 28, pos := "keeps.go:68", after := #[{ on := 13, ground := Ground.data }, { on := 12, ground := Ground.chain }, { on := 12, ground := Ground.guard }], guard := some (12, true) }) rfl (fun K hK => ?_) AllReadyH.nil
      go_simp
      refine (want_is (sa := false) (sl := []) q1138 ⟨by decide, by decide⟩ ⟨by decide, by decide⟩ H41.out).mono ?_
      rintro e w1144 ⟨a1142, c1143, rfl, -, hb1145⟩
      have q1146 := q1138.later hb1145
      have q1147 := q1139.later hb1145
      have q1148 := q1140.later hb1145
      have q1149 := q1141.later hb1145
      refine hK.out _ _ (⟨q1149.cell 0, q1149.cell 1, trivial⟩) (fun hHeld => ?_)
      clear hK K
      try simp only [Act.put, List.setIfInBounds_toArray, List.set_cons_zero, List.set_cons_succ]
      refine wpAnyH_ready (rs := [15]) (by kernel_rfl) (by simp) ?_
      refine AllReadyH.cons (o := { dst := some 64, op := Op.call { callee := Callee.value (Operand.func 18), args := #[Operand.tmp 63], argTypes := #[28] }, type := 4, pos := "keeps.go:68", after := #[{ on := 14, ground := Ground.data }, { on := 14, ground := Ground.chain }, { on := 12, ground := Ground.guard }], guard := some (12, true) }) rfl (fun K hK => ?_) AllReadyH.nil
      go_simp
      refine (empty_any (sa := false) (sl := []) (B := true) rfl).mono ?_
      rintro e w1150 ⟨rfl, hb1151⟩
      have q1152 := q1146.later hb1151
      have q1153 := q1147.later hb1151
      have q1154 := q1148.later hb1151
      have q1155 := q1149.later hb1151
      refine hK.out _ _ (⟨q1155.cell 0, q1155.cell 1, trivial⟩) (fun hHeld => ?_)
      clear hK K
      try simp only [Act.put, List.setIfInBounds_toArray, List.set_cons_zero, List.set_cons_succ]
      refine wpAnyH_take (i := 16) (oi := { dst := some 65, op := Op.pick (Operand.tmp 61) (Operand.tmp 64) (Operand.const (Value.bool false)), type := 4, pos := "keeps.go:68", after := #[{ on := 12, ground := Ground.data }, { on := 15, ground := Ground.data }], guard := none }) (v := ?v1149) rfl (by kernel_rfl) (by kernel_rfl) (by kernel_rfl) (fun _ _ _ h => h) (Or.inl ⟨by rfl, ?hy1149⟩) (by assumption) ?rest1149
      case hy1149 => (intro w1 hSw; (try dsimp only at hSw); obtain ⟨h0, h1, -⟩ := hSw; go_simp; try with_reducible rfl)
      try simp only [Act.put, List.setIfInBounds_toArray, List.set_cons_zero, List.set_cons_succ]
      refine wpAnyH_take (i := 17) (oi := { dst := some 66, op := Op.move (Operand.tmp 65), type := 4, pos := "keeps.go:68", after := #[{ on := 16, ground := Ground.data }, { on := 15, ground := Ground.chain }], guard := none }) (v := ?v1150) rfl (by kernel_rfl) (by kernel_rfl) (by kernel_rfl) (fun _ _ _ h => h) (Or.inl ⟨by rfl, ?hy1150⟩) (by assumption) ?rest1150
      case hy1150 => (intro w1 hSw; (try dsimp only at hSw); obtain ⟨h0, h1, -⟩ := hSw; go_simp; try with_reducible rfl)
      try simp only [Act.put, List.setIfInBounds_toArray, List.set_cons_zero, List.set_cons_succ]
      refine wpAnyH_take (i := 18) (oi := { dst := some 67, op := Op.move (Operand.tmp 8), type := 24, pos := "keeps.go:68", after := #[{ on := 17, ground := Ground.guard }], guard := some (17, true) }) (v := ?v1151) rfl (by kernel_rfl) (by kernel_rfl) (by kernel_rfl) (fun _ _ _ h => h) (Or.inl ⟨by rfl, ?hy1151⟩) (by assumption) ?rest1151
      case hy1151 => (intro w1 hSw; (try dsimp only at hSw); obtain ⟨h0, h1, -⟩ := hSw; go_simp; try with_reducible rfl)
      try simp only [Act.put, List.setIfInBounds_toArray, List.set_cons_zero, List.set_cons_succ]
      refine wpAnyH_ready (rs := [19]) (by kernel_rfl) (by simp) ?_
      refine AllReadyH.cons (o := { dst := some 68, op := Op.call { callee := Callee.value (Operand.func 17), args := #[Operand.tmp 67, Operand.const (Value.int IntKind.i64 4), Operand.const (Value.int IntKind.i64 2)], argTypes := #[24, 3, 3] }, type := 28, pos := "keeps.go:68", after := #[{ on := 18, ground := Ground.data }, { on := 17, ground := Ground.chain }, { on := 17, ground := Ground.guard }], guard := some (17, true) }) rfl (fun K hK => ?_) AllReadyH.nil
      go_simp
      refine (want_is (sa := false) (sl := []) q1152 ⟨by decide, by decide⟩ ⟨by decide, by decide⟩ H42.out).mono ?_
      rintro e w1158 ⟨a1156, c1157, rfl, -, hb1159⟩
      have q1160 := q1152.later hb1159
      have q1161 := q1153.later hb1159
      have q1162 := q1154.later hb1159
      have q1163 := q1155.later hb1159
      refine hK.out _ _ (⟨q1163.cell 0, q1163.cell 1, trivial⟩) (fun hHeld => ?_)
      clear hK K
      try simp only [Act.put, List.setIfInBounds_toArray, List.set_cons_zero, List.set_cons_succ]
      refine wpAnyH_ready (rs := [20]) (by kernel_rfl) (by simp) ?_
      refine AllReadyH.cons (o := { dst := some 69, op := Op.call { callee := Callee.value (Operand.func 18), args := #[Operand.tmp 68], argTypes := #[28] }, type := 4, pos := "keeps.go:68", after := #[{ on := 19, ground := Ground.data }, { on := 19, ground := Ground.chain }, { on := 17, ground := Ground.guard }], guard := some (17, true) }) rfl (fun K hK => ?_) AllReadyH.nil
      go_simp
      refine (empty_any (sa := false) (sl := []) (B := true) rfl).mono ?_
      rintro e w1164 ⟨rfl, hb1165⟩
      have q1166 := q1160.later hb1165
      have q1167 := q1161.later hb1165
      have q1168 := q1162.later hb1165
      have q1169 := q1163.later hb1165
      refine hK.out _ _ (⟨q1169.cell 0, q1169.cell 1, trivial⟩) (fun hHeld => ?_)
      clear hK K
      try simp only [Act.put, List.setIfInBounds_toArray, List.set_cons_zero, List.set_cons_succ]
      refine wpAnyH_take (i := 21) (oi := { dst := some 70, op := Op.pick (Operand.tmp 66) (Operand.tmp 69) (Operand.const (Value.bool false)), type := 4, pos := "keeps.go:68", after := #[{ on := 17, ground := Ground.data }, { on := 20, ground := Ground.data }], guard := none }) (v := ?v1152) rfl (by kernel_rfl) (by kernel_rfl) (by kernel_rfl) (fun _ _ _ h => h) (Or.inl ⟨by rfl, ?hy1152⟩) (by assumption) ?rest1152
      case hy1152 => (intro w1 hSw; (try dsimp only at hSw); obtain ⟨h0, h1, -⟩ := hSw; go_simp; try with_reducible rfl)
      try simp only [Act.put, List.setIfInBounds_toArray, List.set_cons_zero, List.set_cons_succ]
      refine wpAnyH_take (i := 22) (oi := { dst := some 71, op := Op.move (Operand.tmp 70), type := 4, pos := "keeps.go:68", after := #[{ on := 21, ground := Ground.data }, { on := 20, ground := Ground.chain }], guard := none }) (v := ?v1153) rfl (by kernel_rfl) (by kernel_rfl) (by kernel_rfl) (fun _ _ _ h => h) (Or.inl ⟨by rfl, ?hy1153⟩) (by assumption) ?rest1153
      case hy1153 => (intro w1 hSw; (try dsimp only at hSw); obtain ⟨h0, h1, -⟩ := hSw; go_simp; try with_reducible rfl)
      try simp only [Act.put, List.setIfInBounds_toArray, List.set_cons_zero, List.set_cons_succ]
      refine wpAnyH_take (i := 23) (oi := { dst := some 72, op := Op.move (Operand.tmp 8), type := 24, pos := "keeps.go:68", after := #[{ on := 22, ground := Ground.guard }], guard := some (22, true) }) (v := ?v1154) rfl (by kernel_rfl) (by kernel_rfl) (by kernel_rfl) (fun _ _ _ h => h) (Or.inl ⟨by rfl, ?hy1154⟩) (by assumption) ?rest1154
      case hy1154 => (intro w1 hSw; (try dsimp only at hSw); obtain ⟨h0, h1, -⟩ := hSw; go_simp; try with_reducible rfl)
      try simp only [Act.put, List.setIfInBounds_toArray, List.set_cons_zero, List.set_cons_succ]
      refine wpAnyH_take (i := 25) (oi := { dst := some 74, op := Op.load 28 (Operand.tmp 11), type := 28, pos := "keeps.go:68", after := #[{ on := 22, ground := Ground.guard }], guard := some (22, true) }) (v := ?v1155) rfl (by kernel_rfl) (by kernel_rfl) (by kernel_rfl) (fun _ _ _ h => h) (Or.inl ⟨by rfl, ?hy1155⟩) (by assumption) ?rest1155
      case hy1155 => (intro w1 hSw; (try dsimp only at hSw); obtain ⟨h0, h1, -⟩ := hSw; go_simp; try with_reducible rfl)
      try simp only [Act.put, List.setIfInBounds_toArray, List.set_cons_zero, List.set_cons_succ]
      refine wpAnyH_ready (rs := [24]) (by kernel_rfl) (by simp) ?_
      refine AllReadyH.cons (o := { dst := some 73, op := Op.call { callee := Callee.value (Operand.func 16), args := #[Operand.tmp 72, Operand.const (Value.int IntKind.i64 1)], argTypes := #[24, 3] }, type := 28, pos := "keeps.go:68", after := #[{ on := 23, ground := Ground.data }, { on := 22, ground := Ground.chain }, { on := 22, ground := Ground.guard }], guard := some (22, true) }) rfl (fun K hK => ?_) AllReadyH.nil
      go_simp
      refine (union_is (sa := za) (sl := zl) q1166 ⟨by decide, by decide⟩ HU1.out).mono ?_
      rintro e w1173 ⟨a1170, c1171, rfl, h1172, hb1174⟩
      have q1175 := q1166.later hb1174
      have q1176 := q1167.later hb1174
      have q1177 := q1168.later hb1174
      have q1178 := q1169.later hb1174
      refine hK.out _ _ (⟨q1178.cell 0, q1178.cell 1, trivial⟩) (fun hHeld => ?_)
      clear hK K
      try simp only [Act.put, List.setIfInBounds_toArray, List.set_cons_zero, List.set_cons_succ]
      refine wpAnyH_ready (rs := [26]) (by kernel_rfl) (by simp) ?_
      refine AllReadyH.cons (o := { dst := some 75, op := Op.call { callee := Callee.value (Operand.func 15), args := #[Operand.tmp 73, Operand.tmp 74], argTypes := #[28, 28] }, type := 4, pos := "keeps.go:68", after := #[{ on := 24, ground := Ground.data }, { on := 25, ground := Ground.data }, { on := 24, ground := Ground.chain }, { on := 22, ground := Ground.guard }], guard := some (22, true) }) rfl (fun K hK => ?_) AllReadyH.nil
      go_simp
      refine (same_any (al := zl) (bl := zl) h1172 q1177 HFz.out.fit HFz.out.fit (same_self HFz.out.r)).mono ?_
      rintro e w1179 ⟨rfl, hb1180⟩
      have q1181 := q1175.later hb1180
      have q1182 := q1176.later hb1180
      have q1183 := q1177.later hb1180
      have q1184 := q1178.later hb1180
      have q1185 := h1172.later hb1180
      refine hK.out _ _ (⟨q1184.cell 0, q1184.cell 1, trivial⟩) (fun hHeld => ?_)
      clear hK K
      try simp only [Act.put, List.setIfInBounds_toArray, List.set_cons_zero, List.set_cons_succ]
      refine wpAnyH_take (i := 27) (oi := { dst := some 76, op := Op.pick (Operand.tmp 71) (Operand.tmp 75) (Operand.const (Value.bool false)), type := 4, pos := "keeps.go:68", after := #[{ on := 22, ground := Ground.data }, { on := 26, ground := Ground.data }], guard := none }) (v := ?v1156) rfl (by kernel_rfl) (by kernel_rfl) (by kernel_rfl) (fun _ _ _ h => h) (Or.inl ⟨by rfl, ?hy1156⟩) (by assumption) ?rest1156
      case hy1156 => (intro w1 hSw; (try dsimp only at hSw); obtain ⟨h0, h1, -⟩ := hSw; go_simp; try with_reducible rfl)
      try simp only [Act.put, List.setIfInBounds_toArray, List.set_cons_zero, List.set_cons_succ]
      refine wpAnyH_take (i := 28) (oi := { dst := some 77, op := Op.move (Operand.tmp 76), type := 4, pos := "keeps.go:68", after := #[{ on := 27, ground := Ground.data }, { on := 26, ground := Ground.chain }], guard := none }) (v := ?v1157) rfl (by kernel_rfl) (by kernel_rfl) (by kernel_rfl) (fun _ _ _ h => h) (Or.inl ⟨by rfl, ?hy1157⟩) (by assumption) ?rest1157
      case hy1157 => (intro w1 hSw; (try dsimp only at hSw); obtain ⟨h0, h1, -⟩ := hSw; go_simp; try with_reducible rfl)
      try simp only [Act.put, List.setIfInBounds_toArray, List.set_cons_zero, List.set_cons_succ]
      refine wpAnyH_take (i := 29) (oi := { dst := some 78, op := Op.move (Operand.tmp 8), type := 24, pos := "keeps.go:68", after := #[{ on := 28, ground := Ground.guard }], guard := some (28, true) }) (v := ?v1158) rfl (by kernel_rfl) (by kernel_rfl) (by kernel_rfl) (fun _ _ _ h => h) (Or.inl ⟨by rfl, ?hy1158⟩) (by assumption) ?rest1158
      case hy1158 => (intro w1 hSw; (try dsimp only at hSw); obtain ⟨h0, h1, -⟩ := hSw; go_simp; try with_reducible rfl)
      try simp only [Act.put, List.setIfInBounds_toArray, List.set_cons_zero, List.set_cons_succ]
      refine wpAnyH_ready (rs := [30]) (by kernel_rfl) (by simp) ?_
      refine AllReadyH.cons (o := { dst := some 79, op := Op.call { callee := Callee.value (Operand.func 16), args := #[Operand.tmp 78, Operand.const (Value.int IntKind.i64 2)], argTypes := #[24, 3] }, type := 28, pos := "keeps.go:68", after := #[{ on := 29, ground := Ground.data }, { on := 28, ground := Ground.chain }, { on := 28, ground := Ground.guard }], guard := some (28, true) }) rfl (fun K hK => ?_) AllReadyH.nil
      go_simp
      refine (union_is (sa := false) (sl := []) q1181 ⟨by decide, by decide⟩ HU2.out).mono ?_
      rintro e w1188 ⟨a1186, c1187, rfl, -, hb1189⟩
      have q1190 := q1181.later hb1189
      have q1191 := q1182.later hb1189
      have q1192 := q1183.later hb1189
      have q1193 := q1184.later hb1189
      have q1194 := q1185.later hb1189
      refine hK.out _ _ (⟨q1193.cell 0, q1193.cell 1, trivial⟩) (fun hHeld => ?_)
      clear hK K
      try simp only [Act.put, List.setIfInBounds_toArray, List.set_cons_zero, List.set_cons_succ]
      refine wpAnyH_ready (rs := [31]) (by kernel_rfl) (by simp) ?_
      refine AllReadyH.cons (o := { dst := some 80, op := Op.call { callee := Callee.value (Operand.func 18), args := #[Operand.tmp 79], argTypes := #[28] }, type := 4, pos := "keeps.go:68", after := #[{ on := 30, ground := Ground.data }, { on := 30, ground := Ground.chain }, { on := 28, ground := Ground.guard }], guard := some (28, true) }) rfl (fun K hK => ?_) AllReadyH.nil
      go_simp
      refine (empty_any (sa := false) (sl := []) (B := true) rfl).mono ?_
      rintro e w1195 ⟨rfl, hb1196⟩
      have q1197 := q1190.later hb1196
      have q1198 := q1191.later hb1196
      have q1199 := q1192.later hb1196
      have q1200 := q1193.later hb1196
      have q1201 := q1194.later hb1196
      refine hK.out _ _ (⟨q1200.cell 0, q1200.cell 1, trivial⟩) (fun hHeld => ?_)
      clear hK K
      try simp only [Act.put, List.setIfInBounds_toArray, List.set_cons_zero, List.set_cons_succ]
      refine wpAnyH_take (i := 32) (oi := { dst := some 81, op := Op.pick (Operand.tmp 77) (Operand.tmp 80) (Operand.const (Value.bool false)), type := 4, pos := "keeps.go:68", after := #[{ on := 28, ground := Ground.data }, { on := 31, ground := Ground.data }], guard := none }) (v := ?v1159) rfl (by kernel_rfl) (by kernel_rfl) (by kernel_rfl) (fun _ _ _ h => h) (Or.inl ⟨by rfl, ?hy1159⟩) (by assumption) ?rest1159
      case hy1159 => (intro w1 hSw; (try dsimp only at hSw); obtain ⟨h0, h1, -⟩ := hSw; go_simp; try with_reducible rfl)
      try simp only [Act.put, List.setIfInBounds_toArray, List.set_cons_zero, List.set_cons_succ]
      refine wpAnyH_take (i := 33) (oi := { dst := some 6, op := Op.assign (Operand.tmp 81), type := 4, pos := "keeps.go:68", after := #[{ on := 32, ground := Ground.data }, { on := 31, ground := Ground.chain }, { on := 0, ground := Ground.phase }, { on := 1, ground := Ground.phase }, { on := 2, ground := Ground.phase }, { on := 3, ground := Ground.phase }, { on := 4, ground := Ground.phase }, { on := 5, ground := Ground.phase }, { on := 6, ground := Ground.phase }, { on := 7, ground := Ground.phase }, { on := 8, ground := Ground.phase }, { on := 9, ground := Ground.phase }, { on := 10, ground := Ground.phase }, { on := 11, ground := Ground.phase }, { on := 12, ground := Ground.phase }, { on := 13, ground := Ground.phase }, { on := 14, ground := Ground.phase }, { on := 15, ground := Ground.phase }, { on := 16, ground := Ground.phase }, { on := 17, ground := Ground.phase }, { on := 18, ground := Ground.phase }, { on := 19, ground := Ground.phase }, { on := 20, ground := Ground.phase }, { on := 21, ground := Ground.phase }, { on := 22, ground := Ground.phase }, { on := 23, ground := Ground.phase }, { on := 24, ground := Ground.phase }, { on := 25, ground := Ground.phase }, { on := 26, ground := Ground.phase }, { on := 27, ground := Ground.phase }, { on := 28, ground := Ground.phase }, { on := 29, ground := Ground.phase }, { on := 30, ground := Ground.phase }, { on := 31, ground := Ground.phase }, { on := 32, ground := Ground.phase }], guard := none }) (v := ?v1160) rfl (by kernel_rfl) (by kernel_rfl) (by kernel_rfl) (fun _ _ _ h => h) (Or.inl ⟨by rfl, ?hy1160⟩) (by assumption) ?rest1160
      case hy1160 => (intro w1 hSw; (try dsimp only at hSw); obtain ⟨h0, h1, -⟩ := hSw; go_simp; try with_reducible rfl)
      try simp only [Act.put, List.setIfInBounds_toArray, List.set_cons_zero, List.set_cons_succ]
      refine wpAnyH_done (by kernel_rfl) ?_ _
      go_wp2_with fail
      go_ret
      exact ⟨rfl, HB.out.trans ((q1198.below (Nat.le_refl _)).mono HB.out.size)⟩
end Go.Proofs.YtfolgcgkikkihaaDoor
