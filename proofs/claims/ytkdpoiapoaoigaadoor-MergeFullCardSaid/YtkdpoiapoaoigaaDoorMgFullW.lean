/- merge: MergeFull. -/
import Derived.Test.YtkdpoiapoaoigaaDoorMgFulF
import Derived.Test.YtkdpoiapoaoigaaDoorNmSame
namespace Go.Proofs.YtkdpoiapoaoigaaDoor
open Go.RowKit Go.Lib

set_option maxRecDepth 100000 in
set_option maxHeartbeats 8000000 in
theorem full_walk (n0 n1 : Nat) (A F Z : Addr) (W : World) (hg : Gm A F Z W) (h0 : n0 < 256) (h1 : n1 < 256) : Calls Tryd.prog 5 #[.int .u8 (n0 : Int), .int .u8 (n1 : Int)] W fun e w' => e = .returned (.bool true) ∧ Below W.heap.size W w' := by
  obtain ⟨x, hx⟩ : ∃ x, n0 % 65 = x := ⟨_, rfl⟩
  obtain ⟨y, hy⟩ : ∃ y, n1 % 80 = y := ⟨_, rfl⟩
  have x64 : x ≤ 64 := by omega
  have y79 : y ≤ 79 := by omega
  have dx1 : (n0 : Int).tmod 65 = (x : Int) := by rw [Int.tmod_eq_emod_of_nonneg (by omega)]; omega
  have dx2 : (n0 : Int) % 65 = (x : Int) := by omega
  have dx3 : IntKind.u8.wrap (x : Int) = (x : Int) := by rw [show IntKind.u8.wrap (x : Int) = (x : Int) % 256 from rfl]; omega
  have dx4 : IntKind.i64.wrap (x : Int) = (x : Int) := by rw [IntKind.wrap_i64]; omega
  have dy1 : (n1 : Int).tmod 80 = (y : Int) := by rw [Int.tmod_eq_emod_of_nonneg (by omega)]; omega
  have dy2 : (n1 : Int) % 80 = (y : Int) := by omega
  have dy3 : IntKind.u8.wrap (y : Int) = (y : Int) := by rw [show IntKind.u8.wrap (y : Int) = (y : Int) % 256 from rfl]; omega
  have dy4 : IntKind.i64.wrap (y : Int) = (y : Int) := by rw [IntKind.wrap_i64]; omega
  obtain ⟨t, ht⟩ : ∃ t, x + y = t := ⟨_, rfl⟩
  have dt : IntKind.i64.wrap ((x : Int) + (y : Int)) = (t : Int) := by rw [IntKind.wrap_i64]; omega
  clear hx hy
  have HE1 := Lib.hid (fw1_set x64)
  have HG0 := Lib.hid hg
  clear hg
  go_enter Tryd.func5, Tryd.ntmps5
  go_wp2_with fail
  refine (mg_examples A F Z W HG0.out).mono ?_
  rintro e wB ⟨rfl, hb⟩
  dsimp only
  have HG := Lib.hid (HG0.out.later hb)
  have HB := Lib.hid hb
  clear HG0 hb
  go_wp2_with fail
  refine (mgNew_any wB).mono ?_
  rintro e wN ⟨m, rfl, hm, hb⟩
  dsimp only
  have HM := Lib.hid hm
  have HK := Lib.hid (KeptM.of (B := wB.heap.size) hb)
  clear hm hb
  go_wp2_with fail
  refine (ful_0 x wN (by omega)).mono ?_
  rintro e u1 ⟨ox, dx, rfl, ht, hb⟩
  dsimp only
  have HM := Lib.hid (HM.out.later hb)
  have HK := Lib.hid (HK.out.trans (.of hb))
  have HTx := Lib.hid ht
  clear ht hb
  have hs := set_any (base := wB.heap.size) (m := m) (W := W0) (i := 2) (k := 1) (sa := false) (sl := fL 0 x) (a1 := ox) (c1 := dx) HM.out (HK.out.gm HG.out) HTx.out (fS_r (by omega)) (by rw [fS_list, fL_len]; omega) (fun z hz => by rw [fL_two hz]; decide)
  have HS := Lib.hid (show Calls Tryd.prog 12 #[.pointer (some ⟨m, 0, none⟩), .int .i64 2, .int .i64 1, .agg #[.bool false, .slice ox (fL 0 x).length dx]] u1 (SetIs wB.heap.size m W0 2 1 ⟨false, fL 0 x⟩ u1) from hs)
  clear hs
  go_wp2_with fail
  refine HS.out.mono ?_
  rintro e w2 ⟨v1, v2, rfl, hv1, hv2, hm2, hk2⟩
  rw [HE1.out.1]
  rw [HE1.out.2] at hm2
  obtain ⟨oa1, oc1, rfl, -⟩ := hv1.shape
  obtain ⟨oa2, oc2, rfl, -⟩ := hv2.shape
  obtain ⟨g1, hg1⟩ : ∃ g, (setM W0 2 1 ⟨false, fL 0 x⟩).all = g := ⟨_, rfl⟩
  obtain ⟨g2, hg2⟩ : ∃ g, (setL W0 2 1 ⟨false, fL 0 x⟩).all = g := ⟨_, rfl⟩
  obtain ⟨l1, hl1⟩ : ∃ g, (setM W0 2 1 ⟨false, fL 0 x⟩).ns.length = g := ⟨_, rfl⟩
  obtain ⟨l2, hl2⟩ : ∃ g, (setL W0 2 1 ⟨false, fL 0 x⟩).ns.length = g := ⟨_, rfl⟩
  rw [hg1, hg2, hl1, hl2]
  clear hg1 hg2 hl1 hl2 hv1 hv2
  dsimp only
  have HM := Lib.hid hm2
  have HK := Lib.hid (HK.out.trans hk2)
  have HTx := Lib.hid (hk2.ts HTx.out)
  clear hm2 hk2 HS HE1
  obtain ⟨x3, hw4, hb5, hq7⟩ := alloc_new w2 #[.bool g1, .slice oa1 l1 oc1] 28
  have HM := Lib.hid (HM.out.later hb5)
  have HK := Lib.hid (HK.out.trans (.of hb5))
  have HTx := Lib.hid (HTx.out.later hb5)
  have HW6 := Lib.hid hw4
  have HZ8 := Lib.hid (show w2.heap.size + 1 = x3.heap.size by rw [← hw4]; simp)
  clear hw4 hb5 hq7
  obtain ⟨x9, hw10, hb11, hq13⟩ := alloc_new x3 #[.bool g2, .slice oa2 l2 oc2] 28
  have HM := Lib.hid (HM.out.later hb11)
  have HK := Lib.hid (HK.out.trans (.of hb11))
  have HTx := Lib.hid (HTx.out.later hb11)
  have HW12 := Lib.hid hw10
  have HZ14 := Lib.hid (show x3.heap.size + 1 = x9.heap.size by rw [← hw10]; simp)
  clear hw10 hb11 hq13
  go_wp2_with (rw [HW6.out, HW12.out, HZ8.out])
  refine (ful_100 y x9 (by omega)).mono ?_
  rintro e u15 ⟨oy, dy, rfl, ht, hb⟩
  dsimp only
  have HM := Lib.hid (HM.out.later hb)
  have HK := Lib.hid (HK.out.trans (.of hb))
  have HTx := Lib.hid (HTx.out.later hb)
  have HTy := Lib.hid ht
  clear ht hb
  have hs := set_any (base := wB.heap.size) (m := m) (W := (fW1 x)) (i := 3) (k := 1) (sa := false) (sl := fL 100 y) (a1 := oy) (c1 := dy) HM.out (HK.out.gm HG.out) HTy.out (fS_r (by omega)) (by rw [fS_list, fL_len]; omega) (fun z hz => by rw [fL_two hz]; decide)
  have HS := Lib.hid (show Calls Tryd.prog 12 #[.pointer (some ⟨m, 0, none⟩), .int .i64 3, .int .i64 1, .agg #[.bool false, .slice oy (fL 100 y).length dy]] u15 (SetIs wB.heap.size m (fW1 x) 3 1 ⟨false, fL 100 y⟩ u15) from hs)
  clear hs
  go_wp2_with fail
  refine HS.out.mono ?_
  rintro e w16 ⟨v1, v2, rfl, hv1, hv2, hm2, hk2⟩
  clear HS
  by_cases hfit : x + y ≤ 64
  · obtain ⟨r1, r2, r3⟩ := fw2_yes x64 y79 hfit
    rw [r1]
    rw [r2] at hv1
    rw [r3] at hv2
    obtain ⟨oa1, oc1, rfl, -⟩ := hv1.shape
    obtain ⟨oa2, oc2, rfl, -⟩ := hv2.shape
    dsimp only
    rw [fL_len 100 y]
    clear hv1 hv2 r1 r2 r3
    have HM := Lib.hid hm2
    have HK := Lib.hid (HK.out.trans hk2)
    have HTx := Lib.hid (hk2.ts HTx.out)
    have HTy := Lib.hid (hk2.ts HTy.out)
    clear hm2 hk2
    obtain ⟨x17, hw18, hb19, hq21⟩ := alloc_new w16 #[.bool false, .slice oa1 y oc1] 28
    have HM := Lib.hid (HM.out.later hb19)
    have HK := Lib.hid (HK.out.trans (.of hb19))
    have HTx := Lib.hid (HTx.out.later hb19)
    have HTy := Lib.hid (HTy.out.later hb19)
    have HQm := Lib.hid hq21
    have HW20 := Lib.hid hw18
    have HZ22 := Lib.hid (show w16.heap.size + 1 = x17.heap.size by rw [← hw18]; simp)
    clear hw18 hb19 hq21
    obtain ⟨x23, hw24, hb25, hq27⟩ := alloc_new x17 #[.bool false, .slice oa2 0 oc2] 28
    have HM := Lib.hid (HM.out.later hb25)
    have HK := Lib.hid (HK.out.trans (.of hb25))
    have HQm := Lib.hid (HQm.out.later hb25)
    have HTx := Lib.hid (HTx.out.later hb25)
    have HTy := Lib.hid (HTy.out.later hb25)
    have HQl := Lib.hid hq27
    have HW26 := Lib.hid hw24
    have HZ28 := Lib.hid (show x17.heap.size + 1 = x23.heap.size by rw [← hw24]; simp)
    clear hw24 hb25 hq27
    have km0 : x23.cell? ⟨w16.heap.size, 0, none⟩ = some (.bool false) := HQm.out.cell 0
    have km1 : x23.cell? ⟨w16.heap.size, 1, none⟩ = some (.slice oa1 y oc1) := HQm.out.cell 1
    have kl0 : x23.cell? ⟨x17.heap.size, 0, none⟩ = some (.bool false) := HQl.out.cell 0
    have kl1 : x23.cell? ⟨x17.heap.size, 1, none⟩ = some (.slice oa2 0 oc2) := HQl.out.cell 1
    have ft : (t : Int) ≤ 64 := by omega
    go_wp2_with (rw [HW20.out, HW26.out, HZ22.out])
    refine (empty_any (sa := false) (sl := []) (B := true) rfl).mono ?_
    rintro e w29 ⟨rfl, hb⟩
    dsimp only
    clear km0 km1 kl0 kl1
    have HM := Lib.hid (HM.out.later hb)
    have HK := Lib.hid (HK.out.trans (.of hb))
    have HQm := Lib.hid (HQm.out.later hb)
    have HQl := Lib.hid (HQl.out.later hb)
    have HTx := Lib.hid (HTx.out.later hb)
    have HTy := Lib.hid (HTy.out.later hb)
    clear hb
    go_wp2_with fail
    go_ret
    exact ⟨rfl, HB.out.trans ((HK.out.below (Nat.le_refl _)).mono HB.out.size)⟩
  · obtain ⟨r1, r4, r2, r3⟩ := fw2_no x64 y79 hfit
    rw [r1]
    rw [r2] at hv1
    rw [r3] at hv2
    rw [r4] at hm2
    obtain ⟨oa1, oc1, rfl, -⟩ := hv1.shape
    obtain ⟨oa2, oc2, rfl, -⟩ := hv2.shape
    dsimp only
    clear hv1 hv2 r1 r2 r3 r4
    have HM := Lib.hid hm2
    have HK := Lib.hid (HK.out.trans hk2)
    have HTx := Lib.hid (hk2.ts HTx.out)
    have HTy := Lib.hid (hk2.ts HTy.out)
    clear hm2 hk2
    obtain ⟨x30, hw31, hb32, hq34⟩ := alloc_new w16 #[.bool false, .slice oa1 0 oc1] 28
    have HM := Lib.hid (HM.out.later hb32)
    have HK := Lib.hid (HK.out.trans (.of hb32))
    have HTx := Lib.hid (HTx.out.later hb32)
    have HTy := Lib.hid (HTy.out.later hb32)
    have HQm := Lib.hid hq34
    have HW33 := Lib.hid hw31
    have HZ35 := Lib.hid (show w16.heap.size + 1 = x30.heap.size by rw [← hw31]; simp)
    clear hw31 hb32 hq34
    obtain ⟨x36, hw37, hb38, hq40⟩ := alloc_new x30 #[.bool false, .slice oa2 0 oc2] 28
    have HM := Lib.hid (HM.out.later hb38)
    have HK := Lib.hid (HK.out.trans (.of hb38))
    have HQm := Lib.hid (HQm.out.later hb38)
    have HTx := Lib.hid (HTx.out.later hb38)
    have HTy := Lib.hid (HTy.out.later hb38)
    have HQl := Lib.hid hq40
    have HW39 := Lib.hid hw37
    have HZ41 := Lib.hid (show x30.heap.size + 1 = x36.heap.size by rw [← hw37]; simp)
    clear hw37 hb38 hq40
    have km0 : x36.cell? ⟨w16.heap.size, 0, none⟩ = some (.bool false) := HQm.out.cell 0
    have km1 : x36.cell? ⟨w16.heap.size, 1, none⟩ = some (.slice oa1 0 oc1) := HQm.out.cell 1
    have kl0 : x36.cell? ⟨x30.heap.size, 0, none⟩ = some (.bool false) := HQl.out.cell 0
    have kl1 : x36.cell? ⟨x30.heap.size, 1, none⟩ = some (.slice oa2 0 oc2) := HQl.out.cell 1
    have ft : ¬ (t : Int) ≤ 64 := by omega
    go_wp2_with (rw [HW33.out, HW39.out, HZ35.out])
    refine (empty_any (sa := false) (sl := []) (B := true) rfl).mono ?_
    rintro e w42 ⟨rfl, hb⟩
    dsimp only
    clear km0 km1 kl0 kl1
    have HM := Lib.hid (HM.out.later hb)
    have HK := Lib.hid (HK.out.trans (.of hb))
    have HQm := Lib.hid (HQm.out.later hb)
    have HQl := Lib.hid (HQl.out.later hb)
    have HTx := Lib.hid (HTx.out.later hb)
    have HTy := Lib.hid (HTy.out.later hb)
    clear hb
    have km0 : w42.cell? ⟨w16.heap.size, 0, none⟩ = some (.bool false) := HQm.out.cell 0
    have km1 : w42.cell? ⟨w16.heap.size, 1, none⟩ = some (.slice oa1 0 oc1) := HQm.out.cell 1
    have kl0 : w42.cell? ⟨x30.heap.size, 0, none⟩ = some (.bool false) := HQl.out.cell 0
    have kl1 : w42.cell? ⟨x30.heap.size, 1, none⟩ = some (.slice oa2 0 oc2) := HQl.out.cell 1
    go_wp2_with fail
    refine (empty_any (sa := false) (sl := []) (B := true) rfl).mono ?_
    rintro e w43 ⟨rfl, hb⟩
    dsimp only
    clear km0 km1 kl0 kl1
    have HM := Lib.hid (HM.out.later hb)
    have HK := Lib.hid (HK.out.trans (.of hb))
    have HQm := Lib.hid (HQm.out.later hb)
    have HQl := Lib.hid (HQl.out.later hb)
    have HTx := Lib.hid (HTx.out.later hb)
    have HTy := Lib.hid (HTy.out.later hb)
    clear hb
    go_wp2_with fail
    refine (union_is (sa := false) (sl := fL 0 x) HM.out ⟨by decide, by decide⟩ (fw1_u x64)).mono ?_
    rintro e w44 ⟨ou, du, rfl, ht, hb⟩
    dsimp only
    have HM := Lib.hid (HM.out.later hb)
    have HK := Lib.hid (HK.out.trans (.of hb))
    have HQm := Lib.hid (HQm.out.later hb)
    have HQl := Lib.hid (HQl.out.later hb)
    have HTx := Lib.hid (HTx.out.later hb)
    have HTy := Lib.hid (HTy.out.later hb)
    have HTu := Lib.hid ht
    clear ht hb
    go_wp2_with fail
    refine (ful_0 x w44 (by omega)).mono ?_
    rintro e w45 ⟨ov, dv, rfl, ht, hb⟩
    dsimp only
    have HM := Lib.hid (HM.out.later hb)
    have HK := Lib.hid (HK.out.trans (.of hb))
    have HQm := Lib.hid (HQm.out.later hb)
    have HQl := Lib.hid (HQl.out.later hb)
    have HTx := Lib.hid (HTx.out.later hb)
    have HTy := Lib.hid (HTy.out.later hb)
    have HTu := Lib.hid (HTu.out.later hb)
    have HTv := Lib.hid ht
    clear ht hb
    go_wp2_with fail
    refine (same_any (aa := false) (ba := false) (al := fL 0 x) (bl := fL 0 x) HTu.out HTv.out (fL_fit (by omega)) (fL_fit (by omega)) (same_self (fS_r (by omega)))).mono ?_
    rintro e w46 ⟨rfl, hb⟩
    dsimp only
    have HM := Lib.hid (HM.out.later hb)
    have HK := Lib.hid (HK.out.trans (.of hb))
    have HQm := Lib.hid (HQm.out.later hb)
    have HQl := Lib.hid (HQl.out.later hb)
    have HTx := Lib.hid (HTx.out.later hb)
    have HTy := Lib.hid (HTy.out.later hb)
    have HTu := Lib.hid (HTu.out.later hb)
    clear hb
    go_wp2_with fail
    refine (want_is (sa := false) (sl := []) HM.out ⟨by decide, by decide⟩ ⟨by decide, by decide⟩ fw1_31).mono ?_
    rintro e w47 ⟨oz1, dz1, rfl, -, hb⟩
    dsimp only
    have HM := Lib.hid (HM.out.later hb)
    have HK := Lib.hid (HK.out.trans (.of hb))
    have HQm := Lib.hid (HQm.out.later hb)
    have HQl := Lib.hid (HQl.out.later hb)
    have HTx := Lib.hid (HTx.out.later hb)
    have HTy := Lib.hid (HTy.out.later hb)
    have HTu := Lib.hid (HTu.out.later hb)
    clear hb
    go_wp2_with fail
    refine (empty_any (sa := false) (sl := []) (B := true) rfl).mono ?_
    rintro e w48 ⟨rfl, hb⟩
    dsimp only
    have HM := Lib.hid (HM.out.later hb)
    have HK := Lib.hid (HK.out.trans (.of hb))
    have HQm := Lib.hid (HQm.out.later hb)
    have HQl := Lib.hid (HQl.out.later hb)
    have HTx := Lib.hid (HTx.out.later hb)
    have HTy := Lib.hid (HTy.out.later hb)
    have HTu := Lib.hid (HTu.out.later hb)
    clear hb
    go_wp2_with fail
    go_ret
    exact ⟨rfl, HB.out.trans ((HK.out.below (Nat.le_refl _)).mono HB.out.size)⟩
end Go.Proofs.YtkdpoiapoaoigaaDoor
