/- merge: MergeUnion (tools/mgunion_gen.py). -/
import Derived.Test.YtkdpoiapoaoigaaDoorMgUnP
import Derived.Test.YtkdpoiapoaoigaaDoorMgDeed
namespace Go.Proofs.YtkdpoiapoaoigaaDoor
open Go.RowKit Go.Lib

/-- What stands at a round's beginning. -/
structure UnI (B : Nat) (wB : World) (m R5 R6 : Nat) (V : Wants) (oa : Option Addr) (da : Nat) (f : Nat → Option Addr × Nat) (w : World) : Prop where
  u : UnW V
  mg : MgIs B m V w
  k : KeptM B wB w
  q5 : Blk w R5 #[.bool (uni V 3).all, .slice oa (uni V 3).ns.length da] 28
  t5 : TsAt w (.slice oa (uni V 3).ns.length da) (uni V 3).ns
  wa : WantAt w R6 (wg V) f
theorem mod_of (n m k : Nat) (h : n % m = k) : (n : Int).tmod (m : Int) = (k : Int) ∧ (n : Int) % (m : Int) = (k : Int) := by
  rw [Int.tmod_eq_emod_of_nonneg (by omega), ← h]
  exact ⟨rfl, rfl⟩
theorem blk_ne {w : World} {B R : Nat} {c c' : Array Value} {t t' : TypeId} (h : Blk w B c t) (h' : Blk w R c' t') (ht : t ≠ t') : B ≠ R := by
  rintro rfl
  unfold Blk at h h'
  rw [h] at h'
  injection h' with h'
  injection h' with _ h'
  exact ht h'
theorem hc_next {g : Nat → Ns} {x : List UInt8} {n : Nat} (h : 1 ≤ n) : hcN g x n = hcN g x (n - 1) + if nHas okN (g n) x then 1 else 0 := by
  match n, h with
  | n + 1, _ => rfl
theorem lean_all {W : Wants} {k : Int} {l : List (List UInt8)} (h : uni W k = ⟨true, l⟩) : leanM (uni W k) = ⟨true, []⟩ := by rw [h]; rfl
theorem lean_no {W : Wants} {k : Int} {l : List (List UInt8)} (h : uni W k = ⟨false, l⟩) : leanM (uni W k) = ⟨false, l⟩ := by rw [h]; rfl
theorem u8_small {k : Nat} (h : k < 256) : IntKind.u8.wrap (k : Int) = (k : Int) := by rw [show IntKind.u8.wrap (k : Int) = (k : Int) % 256 from rfl]; omega
theorem i64_of {k : Nat} (h : k < 1000000) : IntKind.i64.wrap (k : Int) = (k : Int) := by rw [IntKind.wrap_i64]; omega

set_option maxRecDepth 100000 in
set_option maxHeartbeats 8000000 in
theorem munion_walk (a0 : Option Addr) (l0 c0 : Nat) (ds0 : List Dd) (A F Z : Addr) (W : World) (hg : Gm A F Z W) (hl0 : ds0.length = l0) (_hm0 : l0 ≤ 9223372036854775807) (hs0 : DdsIn W a0 ds0) (hb0 : ∀ p ∈ ds0, DdOk p) :
    Calls Tryd.prog 3 #[.slice a0 l0 c0] W fun e w' => e = .returned (.bool true) ∧ Below W.heap.size W w' := by
  have HL0 := Lib.hid hl0
  have HX0 := Lib.hid hb0
  have HA := Lib.hid hs0
  have HG0 := Lib.hid hg
  clear hg hl0 hs0 hb0
  go_enter Tryd.func3, Tryd.ntmps3
  go_wp2_with fail
  refine (mg_examples A F Z W HG0.out).mono ?_
  rintro e wB ⟨rfl, hb⟩
  dsimp only
  have HG := Lib.hid (HG0.out.later hb)
  have HB := Lib.hid hb
  have HA := Lib.hid (HA.out.below hb)
  clear HG0 hb
  go_wp2_with fail
  refine (mgNew_any wB).mono ?_
  rintro e wN ⟨m, rfl, hm, hb⟩
  dsimp only
  have HM := Lib.hid hm
  have HK := Lib.hid (KeptM.of (B := wB.heap.size) hb)
  have hsz : wB.heap.size ≤ wN.heap.size := hb.size
  clear hm hb
  obtain ⟨x1, hw2, hb3, hq5⟩ := alloc_new wN #[.bool false, .slice none 0 0] 28
  have HM := Lib.hid (HM.out.later hb3)
  have HK := Lib.hid (HK.out.trans (.of hb3))
  have HQ5 := Lib.hid hq5
  have HW4 := Lib.hid hw2
  have HZ6 := Lib.hid (show wN.heap.size + 1 = x1.heap.size by rw [← hw2]; simp)
  clear hw2 hb3 hq5
  obtain ⟨x7, hw8, hb9, hq11⟩ := alloc_new x1 #[.bool false, .slice none 0 0, .bool false, .slice none 0 0, .bool false, .slice none 0 0, .bool false, .slice none 0 0, .bool false, .slice none 0 0, .bool false, .slice none 0 0, .bool false, .slice none 0 0] 29
  have HM := Lib.hid (HM.out.later hb9)
  have HK := Lib.hid (HK.out.trans (.of hb9))
  have HQ5 := Lib.hid (HQ5.out.later hb9)
  have HQ6 := Lib.hid hq11
  have HW10 := Lib.hid hw8
  have HZ12 := Lib.hid (show x1.heap.size + 1 = x7.heap.size by rw [← hw8]; simp)
  clear hw8 hb9 hq11
  have HR := Lib.hid (show wB.heap.size ≤ wN.heap.size ∧ wB.heap.size ≤ x1.heap.size by have := HZ6.out; omega)
  have HI := Lib.hid (show UnI wB.heap.size wB m wN.heap.size x1.heap.size W0 none 0 (fun _ => (none, 0)) x7 from ⟨un_zero, HM.out, HK.out, by rw [uni_zero]; exact HQ5.out, by rw [uni_zero]; exact RowV.nil _ none 0 (by unfold maxLen; omega), WantAt.zero HQ6.out⟩)
  clear HM HK HQ5 HQ6 hsz
  go_wp2_with (rw [HW4.out, HW10.out, HZ6.out])
  clear HW4 HW10 HZ6 HZ12
  obtain ⟨R5, hR5⟩ : ∃ R, wN.heap.size = R := ⟨_, rfl⟩
  obtain ⟨R6, hR6⟩ : ∃ R, x1.heap.size = R := ⟨_, rfl⟩
  rw [hR5, hR6] at HI HR ⊢
  clear hR5 hR6
  go_loopw [7] (fun vi wr => ∃ (i : Nat) (V : Wants) (oa : Option Addr) (da : Nat) (f : Nat → Option Addr × Nat), vi = .int .i64 (i : Int) ∧ i ≤ 30 ∧ i ≤ l0 ∧ UnI wB.heap.size wB m R5 R6 V oa da f wr) (fun vi _ => 30 - (intOf vi).toNat)
  case atStart => exact ⟨0, W0, none, 0, _, rfl, by omega, Nat.zero_le _, HI.out⟩
  case round =>
    clear HI
    obtain ⟨i, V, oa, da, f, rfl, hi30, hil, hI⟩ := hrel
    have HI := Lib.hid hI
    clear hI
    by_cases hlt : i < l0 ∧ i < 30
    · obtain ⟨hl1, hl2⟩ := hlt
      have b1 : (i : Int) < (l0 : Int) := by omega
      have b2 : (i : Int) < 30 := by omega
      have b3 : (0 : Int) ≤ (i : Int) := by omega
      have b4 : IntKind.i64.wrap ((i : Int) + 1) = (i : Int) + 1 := by rw [IntKind.wrap_i64]; omega
      obtain ⟨u, hx⟩ : ∃ u, ds0[i]? = some u := ⟨_, List.getElem?_eq_getElem (by have := HL0.out; omega)⟩
      have HOK := Lib.hid (HX0.out u (List.mem_of_getElem? hx))
      obtain ⟨ab, ao, rfl, hd⟩ := HA.out i u hx
      have HD := Lib.hid hd
      clear hd hx HX0 HL0
      have hdr := HD.out.below (HI.out.k.below (Nat.le_refl _))
      obtain ⟨j, hj⟩ : ∃ j, u.nm % 6 = j := ⟨_, rfl⟩
      obtain ⟨I, hI⟩ : ∃ I, j + 1 = I := ⟨_, rfl⟩
      have j6 : j < 6 := by omega
      have hI1 : 1 ≤ I := by omega
      have hI6 : I ≤ 6 := by omega
      have e1 : (u.nm : Int).tmod 6 = (j : Int) := (mod_of _ _ _ hj).1
      have e1' : (u.nm : Int) % 6 = (j : Int) := (mod_of _ _ _ hj).2
      have e2 : IntKind.u8.wrap (j : Int) = (j : Int) := u8_small (by omega)
      have e3 : IntKind.i64.wrap (j : Int) = (j : Int) := i64_of (by omega)
      have e4 : IntKind.i64.wrap (1 + (j : Int)) = (I : Int) := by rw [IntKind.wrap_i64]; omega
      clear hj hI
      have hd6 : wr.cell? ⟨ab, ao + i * 7 + 6, none⟩ = some (.int .u8 (u.nm : Int)) := hdr.2.2.2.2.2.2.1
      have hd4 : wr.cell? ⟨ab, ao + i * 7 + 4, none⟩ = some (.slice u.a u.bs.length u.c) := hdr.2.2.2.2.1
      obtain ⟨nl, hnl⟩ : ∃ n, u.bs.length = n := ⟨_, rfl⟩
      rw [hnl] at hd4
      have HBS := Lib.hid (And.intro hdr.2.2.2.2.2.2.2 (And.intro hnl (And.intro (hnl ▸ HOK.out.n) HOK.out.b)))
      clear hnl hdr
      go_wp2_with fail
      have HU := Lib.hid HI.out.u
      have hmid := (un_mid HI.out.u).1
      have HM := Lib.hid HI.out.mg
      have HK := Lib.hid HI.out.k
      have HQ5 := Lib.hid HI.out.q5
      have HT5 := Lib.hid HI.out.t5
      have HWA := Lib.hid HI.out.wa
      clear HI
      have hs := few_set u.bs
      obtain ⟨sa, sl, hO⟩ : ∃ sa sl, nOf okN (nmcL u.bs 10) = ⟨sa, sl⟩ := ⟨_, _, rfl⟩
      rw [hO] at hs
      have HO := Lib.hid hO
      clear hO
      have HE := un_E HU.out hs hI1 hI6
      have HU2 := un_set HU.out hs hI1 hI6
      have hmid2 := (un_mid HU2).1
      have hWG := wg_set V I ⟨sa, sl⟩
      have hSix := un_u HU2
      have hSF := six_fit HU2
      have hU2 := un_u2 HU2
      have hWho := fun x => un_who HU2 x
      have hWs := wset_same V I 3 ⟨sa, sl⟩
      obtain ⟨V2, hV2⟩ : ∃ V2, wset V I 3 ⟨sa, sl⟩ = V2 := ⟨_, rfl⟩
      rw [hV2] at HE HU2 hmid2 hWG hSix hSF hU2 hWho hWs
      clear hV2
      have hAt := un_at (a := uni V 3) hmid2.r
      have hTf := un_tfit hmid hmid2
      have hF2 := fit_two hmid (mid_less (b := uni V 3) hmid2)
      have hLf := mid_less (b := uni V2 3) hmid
      have hMf := mid_less (b := uni V 3) hmid2
      obtain ⟨ua, ul, hu⟩ : ∃ ua ul, uni V 3 = ⟨ua, ul⟩ := ⟨_, _, rfl⟩
      obtain ⟨va, vl, hv⟩ : ∃ va vl, uni V2 3 = ⟨va, vl⟩ := ⟨_, _, rfl⟩
      have HV := Lib.hid hv
      rw [hu] at HE HQ5 HT5 hAt hTf hF2 hLf hMf hmid
      rw [hv] at HE hAt hTf hF2 hLf hMf hmid2 hSix
      clear hu hv
      obtain ⟨ma, ml, hm⟩ : ∃ ma ml, nLess ⟨va, vl⟩ ⟨ua, ul⟩ = ⟨ma, ml⟩ := ⟨_, _, rfl⟩
      obtain ⟨la, ll, hl⟩ : ∃ la ll, nLess ⟨ua, ul⟩ ⟨va, vl⟩ = ⟨la, ll⟩ := ⟨_, _, rfl⟩
      rw [hm] at HE hAt hTf hF2 hMf
      rw [hl] at HE hAt hLf
      clear hm hl
      obtain ⟨ta, tl, ht⟩ : ∃ ta tl, nUnion [⟨ua, ul⟩, ⟨ma, ml⟩] = ⟨ta, tl⟩ := ⟨_, _, rfl⟩
      rw [ht] at hAt hTf
      have HTU := Lib.hid ht
      clear ht
      have HFs := Lib.hid hs
      have HEq := Lib.hid HE
      have HUW := Lib.hid HU2
      have HV2 := Lib.hid hmid2
      have HWG := Lib.hid hWG
      have HSix := Lib.hid hSix
      have HSF := Lib.hid hSF
      have HU20 := Lib.hid hU2
      have HWho := Lib.hid hWho
      have HWs := Lib.hid hWs
      have HAt := Lib.hid hAt
      have HTf := Lib.hid hTf
      have HF2 := Lib.hid hF2
      have HLf := Lib.hid hLf
      clear hs HE HU2 hmid2 hWG hSix hSF hU2 hWho hWs hAt hTf hF2 hLf hMf hmid HU
      refine (few10_any HBS.out.1 HBS.out.2.1 HBS.out.2.2.1 (m := 10) (by decide) HBS.out.2.2.2).mono ?_
      rintro e wf ⟨fa, fc, rfl, FO, hb⟩
      dsimp only
      have HWA := Lib.hid (HWA.out.later hb)
      have HM := Lib.hid (HM.out.later hb)
      have HK := Lib.hid (HK.out.trans (.of hb))
      have HQ5 := Lib.hid (HQ5.out.later hb)
      have HT5 := Lib.hid (HT5.out.later hb)
      have HTf := Lib.hid (show TsAt wf (.slice fa (nmcL u.bs 10).length fc) (nmcL u.bs 10) from RowV.own FO)
      clear FO hb HBS
      go_wp2_with fail
      refine (of_any HTf.out (nmc_fit u.bs 10 (by decide)) HO.out).mono ?_
      rintro e wo ⟨os, ds, rfl, ht, hb⟩
      dsimp only
      have HWA := Lib.hid (HWA.out.later hb)
      have HM := Lib.hid (HM.out.later hb)
      have HK := Lib.hid (HK.out.trans (.of hb))
      have HQ5 := Lib.hid (HQ5.out.later hb)
      have HT5 := Lib.hid (HT5.out.later hb)
      have HTs := Lib.hid ht
      clear ht hb HTf HO
      have HNs := Lib.hid (Nat.ne_of_lt HQ5.out.lt)
      obtain ⟨x13, hw14, hb15, hq17⟩ := alloc_new wo #[.bool sa, .slice os sl.length ds] 28
      have HWA := Lib.hid (HWA.out.later hb15)
      have HM := Lib.hid (HM.out.later hb15)
      have HK := Lib.hid (HK.out.trans (.of hb15))
      have HQ5 := Lib.hid (HQ5.out.later hb15)
      have HT5 := Lib.hid (HT5.out.later hb15)
      have HTs := Lib.hid (HTs.out.later hb15)
      have HQs := Lib.hid hq17
      have HW16 := Lib.hid hw14
      have HZ18 := Lib.hid (show wo.heap.size + 1 = x13.heap.size by rw [← hw14]; simp)
      clear hw14 hb15 hq17
      have hs := set_any (base := wB.heap.size) (m := m) (W := V) (i := I) (k := 3) (sa := sa) (sl := sl) (a1 := os) (c1 := ds) HM.out (HK.out.gm HG.out) HTs.out HFs.out.r (by have := HFs.out.len; omega) HFs.out.l
      have HS := Lib.hid (show Calls Tryd.prog 12 #[.pointer (some ⟨m, 0, none⟩), .int .i64 I, .int .i64 3, .agg #[.bool sa, .slice os sl.length ds]] x13 (SetIs wB.heap.size m V I 3 ⟨sa, sl⟩ x13) from hs)
      clear hs
      have sc0 : x13.cell? ⟨wo.heap.size, 0, none⟩ = some (.bool sa) := HQs.out.cell 0
      have sc1 : x13.cell? ⟨wo.heap.size, 1, none⟩ = some (.slice os sl.length ds) := HQs.out.cell 1
      go_wp2_with (rw [HW16.out])
      clear sc0 sc1 HW16 HZ18
      obtain ⟨Rs, hRs⟩ : ∃ R, wo.heap.size = R := ⟨_, rfl⟩
      rw [hRs] at HQs HNs ⊢
      clear hRs
      refine HS.out.mono ?_
      rintro e wS ⟨v1, v2, rfl, hv1, hv2, hm2, hk2⟩
      rw [HEq.out.1]
      rw [HEq.out.2.1] at hm2
      rw [HEq.out.2.2.1] at hv1
      rw [HEq.out.2.2.2] at hv2
      obtain ⟨om, dm, rfl, ht1⟩ := hv1.shape
      obtain ⟨ol, dl, rfl, ht2⟩ := hv2.shape
      dsimp only
      have HWA := Lib.hid (HWA.out.kept hk2)
      have HM := Lib.hid hm2
      have HK := Lib.hid (HK.out.trans hk2)
      have HQ5 := Lib.hid (hk2.blk HQ5.out)
      have HQs := Lib.hid (hk2.blk HQs.out)
      have HT5 := Lib.hid (hk2.ts HT5.out)
      have HTs := Lib.hid (hk2.ts HTs.out)
      clear hm2 hk2 HS hv1 hv2 HEq
      have HTm := Lib.hid ht1
      have HTl := Lib.hid ht2
      clear ht1 ht2
      have HNm := Lib.hid (Nat.ne_of_lt HQ5.out.lt)
      obtain ⟨x19, hw20, hb21, hq23⟩ := alloc_new wS #[.bool ma, .slice om ml.length dm] 28
      have HWA := Lib.hid (HWA.out.later hb21)
      have HM := Lib.hid (HM.out.later hb21)
      have HK := Lib.hid (HK.out.trans (.of hb21))
      have HQ5 := Lib.hid (HQ5.out.later hb21)
      have HQs := Lib.hid (HQs.out.later hb21)
      have HT5 := Lib.hid (HT5.out.later hb21)
      have HTs := Lib.hid (HTs.out.later hb21)
      have HTm := Lib.hid (HTm.out.later hb21)
      have HTl := Lib.hid (HTl.out.later hb21)
      have HQm := Lib.hid hq23
      have HW22 := Lib.hid hw20
      have HZ24 := Lib.hid (show wS.heap.size + 1 = x19.heap.size by rw [← hw20]; simp)
      clear hw20 hb21 hq23
      have HNl := Lib.hid (Nat.ne_of_lt HQ5.out.lt)
      obtain ⟨x25, hw26, hb27, hq29⟩ := alloc_new x19 #[.bool la, .slice ol ll.length dl] 28
      have HWA := Lib.hid (HWA.out.later hb27)
      have HM := Lib.hid (HM.out.later hb27)
      have HK := Lib.hid (HK.out.trans (.of hb27))
      have HQ5 := Lib.hid (HQ5.out.later hb27)
      have HQs := Lib.hid (HQs.out.later hb27)
      have HQm := Lib.hid (HQm.out.later hb27)
      have HT5 := Lib.hid (HT5.out.later hb27)
      have HTs := Lib.hid (HTs.out.later hb27)
      have HTm := Lib.hid (HTm.out.later hb27)
      have HTl := Lib.hid (HTl.out.later hb27)
      have HQl := Lib.hid hq29
      have HW28 := Lib.hid hw26
      have HZ30 := Lib.hid (show x19.heap.size + 1 = x25.heap.size by rw [← hw26]; simp)
      clear hw26 hb27 hq29
      have sc0 : x25.cell? ⟨Rs, 0, none⟩ = some (.bool sa) := HQs.out.cell 0
      have sc1 : x25.cell? ⟨Rs, 1, none⟩ = some (.slice os sl.length ds) := HQs.out.cell 1
      have wc0 : x25.cell? ⟨R6, I * 2, none⟩ = some (.bool (wg V I).all) := HWA.out.c0 hI6
      have wc1 : x25.cell? ⟨R6, I * 2 + 1, none⟩ = some (.slice (f I).1 (wg V I).ns.length (f I).2) := HWA.out.c1 hI6
      have g0 := HWA.out.q.frozen (I * 2)
      have g1 := HWA.out.q.frozen (I * 2 + 1)
      have b5 : (0 : Int) ≤ (I : Int) := by omega
      have b6 : (I : Int) < 7 := by omega
      obtain ⟨wP, hwP⟩ : ∃ w1, (x25.setCell ⟨R6, I * 2, none⟩ (.bool sa)).setCell ⟨R6, I * 2 + 1, none⟩ (.slice os sl.length ds) = w1 := ⟨_, rfl⟩
      have HP := Lib.hid hwP
      have HWAn := Lib.hid (show WantAt wP R6 (wg V2) (putN f I (os, ds)) by rw [← hwP, HWG.out]; exact HWA.out.put (s := ⟨sa, sl⟩) hI6 HTs.out)
      have HM := Lib.hid (show MgIs wB.heap.size m V2 wP by rw [← hwP]; exact HM.out.setc HWA.out.q (by decide) _ _ wc0 wc1)
      have HK := Lib.hid (show KeptM wB.heap.size wB wP by rw [← hwP]; exact HK.out.setc HR.out.2 _ _)
      have HQ5 := Lib.hid (show Blk wP _ _ _ by rw [← hwP]; exact HQ5.out.setc (blk_ne HQ5.out HWA.out.q (by decide)) _ _)
      have HQs := Lib.hid (show Blk wP _ _ _ by rw [← hwP]; exact HQs.out.setc (blk_ne HQs.out HWA.out.q (by decide)) _ _)
      have HQm := Lib.hid (show Blk wP _ _ _ by rw [← hwP]; exact HQm.out.setc (blk_ne HQm.out HWA.out.q (by decide)) _ _)
      have HQl := Lib.hid (show Blk wP _ _ _ by rw [← hwP]; exact HQl.out.setc (blk_ne HQl.out HWA.out.q (by decide)) _ _)
      have HT5 := Lib.hid (show TsAt wP _ _ by rw [← hwP]; exact HT5.out.setc _ _ wc0 wc1)
      have HTs := Lib.hid (show TsAt wP _ _ by rw [← hwP]; exact HTs.out.setc _ _ wc0 wc1)
      have HTm := Lib.hid (show TsAt wP _ _ by rw [← hwP]; exact HTm.out.setc _ _ wc0 wc1)
      have HTl := Lib.hid (show TsAt wP _ _ by rw [← hwP]; exact HTl.out.setc _ _ wc0 wc1)
      clear hwP HWG
      have HWA := HWAn
      clear HWAn
      go_wp2_with (first | rw [HW22.out, HW28.out, HZ24.out] | rw [HP.out])
      clear HW22 HW28 HZ24 HZ30 sc0 sc1 wc0 wc1 HP g0 g1 b5 b6
      obtain ⟨Rm, hRm⟩ : ∃ R, wS.heap.size = R := ⟨_, rfl⟩
      obtain ⟨Rl, hRl⟩ : ∃ R, x19.heap.size = R := ⟨_, rfl⟩
      rw [hRm] at HQm HNm ⊢
      rw [hRl] at HQl HNl ⊢
      clear hRm hRl
      obtain ⟨w1001, hw1002, hb1003⟩ := drew_new wP
      have q1004 := HM.out.later hb1003
      have q1005 := HK.out.later hb1003
      have q1006 := HWA.out.later hb1003
      have q1007 := HQ5.out.later hb1003
      have q1008 := HT5.out.later hb1003
      have q1009 := HQs.out.later hb1003
      have q1010 := HQm.out.later hb1003
      have q1011 := HQl.out.later hb1003
      have q1012 := HTs.out.later hb1003
      have q1013 := HTm.out.later hb1003
      have q1014 := HTl.out.later hb1003
      refine wp_region_held_drew (S := (fun w' => w'.cell? ⟨Rm, 0, none⟩ = some (.bool ma) ∧ w'.cell? ⟨Rm, 1, none⟩ = some (.slice om ml.length dm) ∧ w'.cell? ⟨Rl, 0, none⟩ = some (.bool la) ∧ w'.cell? ⟨Rl, 1, none⟩ = some (.slice ol ll.length dl) ∧ True)) (by kernel_rfl) (by rw [hw1002]; exact ⟨q1010.cell 0, q1010.cell 1, q1011.cell 0, q1011.cell 1, trivial⟩) (fun hHeld => ?_)
      rw [hw1002] at hHeld ⊢
      refine wpAnyH_take (i := 1) (oi := { dst := some 64, op := Op.load 28 (Operand.tmp 10), type := 28, pos := "keeps.go:29", after := #[], guard := none }) (v := ?v1001) rfl (by kernel_rfl) (by kernel_rfl) (by kernel_rfl) (fun _ _ _ h => h) (Or.inl ⟨by rfl, ?hy1001⟩) (by assumption) ?rest1001
      case hy1001 => (intro w1 hSw; (try dsimp only at hSw); obtain ⟨h0, h1, h2, h3, -⟩ := hSw; go_simp; try with_reducible rfl)
      try simp only [Act.put, List.setIfInBounds_toArray, List.set_cons_zero, List.set_cons_succ]
      refine wpAnyH_take (i := 4) (oi := { dst := some 67, op := Op.load 28 (Operand.tmp 11), type := 28, pos := "keeps.go:29", after := #[], guard := none }) (v := ?v1002) rfl (by kernel_rfl) (by kernel_rfl) (by kernel_rfl) (fun _ _ _ h => h) (Or.inl ⟨by rfl, ?hy1002⟩) (by assumption) ?rest1002
      case hy1002 => (intro w1 hSw; (try dsimp only at hSw); obtain ⟨h0, h1, h2, h3, -⟩ := hSw; go_simp; try with_reducible rfl)
      try simp only [Act.put, List.setIfInBounds_toArray, List.set_cons_zero, List.set_cons_succ]
      refine wpAnyH_ready (rs := [0]) (by kernel_rfl) (by simp) ?_
      refine AllReadyH.cons (o := { dst := some 63, op := Op.load 28 (Operand.tmp 5), type := 28, pos := "keeps.go:29", after := #[], guard := none }) rfl (fun K hK => ?_) AllReadyH.nil
      rw [if_pos (by rfl)]
      have c0 := q1007.cell 0
      have c1 := q1007.cell 1
      go_simp
      refine hK.out _ _ (⟨q1010.cell 0, q1010.cell 1, q1011.cell 0, q1011.cell 1, trivial⟩) (fun hHeld => ?_)
      clear hK K
      try simp only [Act.put, List.setIfInBounds_toArray, List.set_cons_zero, List.set_cons_succ]
      refine wpAnyH_ready (rs := [2]) (by kernel_rfl) (by simp) ?_
      refine AllReadyH.cons (o := { dst := some 65, op := Op.buildSlice 53 2 #[(0, Operand.tmp 63), (1, Operand.tmp 64)], type := 53, pos := "keeps.go:29", after := #[{ on := 0, ground := Ground.data }, { on := 1, ground := Ground.data }], guard := none }) rfl (fun K hK => ?_) AllReadyH.nil
      go_simp
      obtain ⟨w1015, hw1016, hb1017, p1018⟩ := alloc_new w1001 #[.bool ua, .slice oa ul.length da, .bool ma, .slice om ml.length dm] 28
      have q1019 := q1004.later hb1017
      have q1020 := q1005.later hb1017
      have q1021 := q1006.later hb1017
      have q1022 := q1007.later hb1017
      have q1023 := q1008.later hb1017
      have q1024 := q1009.later hb1017
      have q1025 := q1010.later hb1017
      have q1026 := q1011.later hb1017
      have q1027 := q1012.later hb1017
      have q1028 := q1013.later hb1017
      have q1029 := q1014.later hb1017
      rw [hw1016]
      refine hK.out _ _ (⟨q1025.cell 0, q1025.cell 1, q1026.cell 0, q1026.cell 1, trivial⟩) (fun hHeld => ?_)
      clear hK K
      try simp only [Act.put, List.setIfInBounds_toArray, List.set_cons_zero, List.set_cons_succ]
      refine wpAnyH_ready (rs := [3]) (by kernel_rfl) (by simp) ?_
      refine AllReadyH.cons (o := { dst := some 66, op := Op.call { callee := Callee.value (Operand.func 14), args := #[Operand.tmp 65], argTypes := #[53] }, type := 28, pos := "keeps.go:29", after := #[{ on := 2, ground := Ground.data }], guard := none }) rfl (fun K hK => ?_) AllReadyH.nil
      go_simp
      refine (union_any (n := 2) (sets_two p1018 q1023 rfl q1028 rfl) rfl HF2.out HTU.out).mono ?_
      rintro e w1031 ⟨ot, dt, rfl, h1030, hb1032⟩
      have q1033 := q1019.later hb1032
      have q1034 := q1020.later hb1032
      have q1035 := q1021.later hb1032
      have q1036 := q1022.later hb1032
      have q1037 := q1023.later hb1032
      have q1038 := q1024.later hb1032
      have q1039 := q1025.later hb1032
      have q1040 := q1026.later hb1032
      have q1041 := q1027.later hb1032
      have q1042 := q1028.later hb1032
      have q1043 := q1029.later hb1032
      have q1044 := p1018.later hb1032
      refine hK.out _ _ (⟨q1039.cell 0, q1039.cell 1, q1040.cell 0, q1040.cell 1, trivial⟩) (fun hHeld => ?_)
      clear hK K
      try simp only [Act.put, List.setIfInBounds_toArray, List.set_cons_zero, List.set_cons_succ]
      refine wpAnyH_ready (rs := [5]) (by kernel_rfl) (by simp) ?_
      refine AllReadyH.cons (o := { dst := some 68, op := Op.call { callee := Callee.value (Operand.func 13), args := #[Operand.tmp 66, Operand.tmp 67], argTypes := #[28, 28] }, type := 28, pos := "keeps.go:29", after := #[{ on := 3, ground := Ground.data }, { on := 4, ground := Ground.data }, { on := 3, ground := Ground.chain }], guard := none }) rfl (fun K hK => ?_) AllReadyH.nil
      go_simp
      refine (less_any h1030 q1043 HTf.out HLf.out.fit HAt.out).mono ?_
      rintro e w1046 ⟨ov, dv, rfl, h1045, hb1047⟩
      have q1048 := q1033.later hb1047
      have q1049 := q1034.later hb1047
      have q1050 := q1035.later hb1047
      have q1051 := q1036.later hb1047
      have q1052 := q1037.later hb1047
      have q1053 := q1038.later hb1047
      have q1054 := q1039.later hb1047
      have q1055 := q1040.later hb1047
      have q1056 := q1041.later hb1047
      have q1057 := q1042.later hb1047
      have q1058 := q1043.later hb1047
      have q1059 := q1044.later hb1047
      have q1060 := h1030.later hb1047
      refine hK.out _ _ (⟨q1054.cell 0, q1054.cell 1, q1055.cell 0, q1055.cell 1, trivial⟩) (fun hHeld => ?_)
      clear hK K
      try simp only [Act.put, List.setIfInBounds_toArray, List.set_cons_zero, List.set_cons_succ]
      refine wpAnyH_ready (rs := [6]) (by kernel_rfl) (by simp) ?_
      refine AllReadyH.cons (o := { dst := none, op := Op.store 28 (Operand.tmp 5) (Operand.tmp 68), type := 0, pos := "keeps.go:29", after := #[{ on := 5, ground := Ground.data }, { on := 5, ground := Ground.chain }, { on := 0, ground := Ground.phase }, { on := 1, ground := Ground.phase }, { on := 2, ground := Ground.phase }, { on := 3, ground := Ground.phase }, { on := 4, ground := Ground.phase }, { on := 5, ground := Ground.phase }], guard := none }) rfl (fun K hK => ?_) AllReadyH.nil
      rw [if_pos (by rfl)]
      have c0 := q1051.cell 0
      have c1 := q1051.cell 1
      have z0 := q1051.frozen 0
      have z1 := q1051.frozen 1
      obtain ⟨wQ, hwQ⟩ : ∃ w1, (w1046.setCell ⟨R5, 0, none⟩ (.bool va)).setCell ⟨R5, 1, none⟩ (.slice ov vl.length dv) = w1 := ⟨_, rfl⟩
      have q1061 := q1048.set2 q1051 (.bool va) (.slice ov vl.length dv)
      rw [hwQ] at q1061
      have q1062 := q1049.set2 HR.out.1 (.bool va) (.slice ov vl.length dv)
      rw [hwQ] at q1062
      have q1063 := q1053.setc (o := 0) (o' := 1) (fun e => HNs.out e.symm) (.bool va) (.slice ov vl.length dv)
      rw [hwQ] at q1063
      have q1064 := q1054.setc (o := 0) (o' := 1) (fun e => HNm.out e.symm) (.bool va) (.slice ov vl.length dv)
      rw [hwQ] at q1064
      have q1065 := q1055.setc (o := 0) (o' := 1) (fun e => HNl.out e.symm) (.bool va) (.slice ov vl.length dv)
      rw [hwQ] at q1065
      have q1066 := q1056.set2 (.bool va) (.slice ov vl.length dv) c0 c1
      rw [hwQ] at q1066
      have q1067 := q1057.set2 (.bool va) (.slice ov vl.length dv) c0 c1
      rw [hwQ] at q1067
      have q1068 := q1058.set2 (.bool va) (.slice ov vl.length dv) c0 c1
      rw [hwQ] at q1068
      have q1069 := h1045.set2 (.bool va) (.slice ov vl.length dv) c0 c1
      rw [hwQ] at q1069
      have q1070 := q1050.box q1051 (.bool va) (.slice ov vl.length dv)
      rw [hwQ] at q1070
      have q1071 : Blk wQ R5 #[.bool va, .slice ov vl.length dv] 28 := by rw [← hwQ]; exact (q1051.set 0 _).set 1 _
      go_simp
      try rw [hwQ]
      clear hwQ
      refine hK.out _ _ (⟨q1064.cell 0, q1064.cell 1, q1065.cell 0, q1065.cell 1, trivial⟩) (fun hHeld => ?_)
      clear hK K
      refine wpAnyH_done (by kernel_rfl) ?_ _
      have HM := Lib.hid q1061
      have HK := Lib.hid q1062
      have HWA := Lib.hid q1070
      have HQ5 := Lib.hid q1071
      have HQs := Lib.hid q1063
      have HTs := Lib.hid q1066
      have HTv := Lib.hid q1069
      clear q1061 q1062 q1070 q1071 q1063 q1064 q1065 q1066 q1067 q1068 q1069
      clear HQm HQl HTm HTl HT5 HTU HF2 HTf HLf HAt HNm HNl HNs
      try clear z0 z1 c0 c1
      obtain ⟨f2, hf2⟩ : ∃ f2, putN f I (os, ds) = f2 := ⟨_, rfl⟩
      rw [hf2] at HWA
      clear hf2
      have w10 : wQ.cell? ⟨R6, 2, none⟩ = some (.bool (wg V2 1).all) := HWA.out.c0 (n := 1) (by decide)
      have w11 : wQ.cell? ⟨R6, 3, none⟩ = some (.slice (f2 1).1 (wg V2 1).ns.length (f2 1).2) := HWA.out.c1 (n := 1) (by decide)
      have w20 : wQ.cell? ⟨R6, 4, none⟩ = some (.bool (wg V2 2).all) := HWA.out.c0 (n := 2) (by decide)
      have w21 : wQ.cell? ⟨R6, 5, none⟩ = some (.slice (f2 2).1 (wg V2 2).ns.length (f2 2).2) := HWA.out.c1 (n := 2) (by decide)
      have w30 : wQ.cell? ⟨R6, 6, none⟩ = some (.bool (wg V2 3).all) := HWA.out.c0 (n := 3) (by decide)
      have w31 : wQ.cell? ⟨R6, 7, none⟩ = some (.slice (f2 3).1 (wg V2 3).ns.length (f2 3).2) := HWA.out.c1 (n := 3) (by decide)
      have w40 : wQ.cell? ⟨R6, 8, none⟩ = some (.bool (wg V2 4).all) := HWA.out.c0 (n := 4) (by decide)
      have w41 : wQ.cell? ⟨R6, 9, none⟩ = some (.slice (f2 4).1 (wg V2 4).ns.length (f2 4).2) := HWA.out.c1 (n := 4) (by decide)
      have w50 : wQ.cell? ⟨R6, 10, none⟩ = some (.bool (wg V2 5).all) := HWA.out.c0 (n := 5) (by decide)
      have w51 : wQ.cell? ⟨R6, 11, none⟩ = some (.slice (f2 5).1 (wg V2 5).ns.length (f2 5).2) := HWA.out.c1 (n := 5) (by decide)
      have w60 : wQ.cell? ⟨R6, 12, none⟩ = some (.bool (wg V2 6).all) := HWA.out.c0 (n := 6) (by decide)
      have w61 : wQ.cell? ⟨R6, 13, none⟩ = some (.slice (f2 6).1 (wg V2 6).ns.length (f2 6).2) := HWA.out.c1 (n := 6) (by decide)
      obtain ⟨x31, hw32, hb33, hq35⟩ := alloc_new wQ #[.bool (wg V2 1).all, .slice (f2 1).1 (wg V2 1).ns.length (f2 1).2, .bool (wg V2 2).all, .slice (f2 2).1 (wg V2 2).ns.length (f2 2).2, .bool (wg V2 3).all, .slice (f2 3).1 (wg V2 3).ns.length (f2 3).2, .bool (wg V2 4).all, .slice (f2 4).1 (wg V2 4).ns.length (f2 4).2, .bool (wg V2 5).all, .slice (f2 5).1 (wg V2 5).ns.length (f2 5).2, .bool (wg V2 6).all, .slice (f2 6).1 (wg V2 6).ns.length (f2 6).2] 28
      have HWA := Lib.hid (HWA.out.later hb33)
      have HM := Lib.hid (HM.out.later hb33)
      have HK := Lib.hid (HK.out.trans (.of hb33))
      have HQ5 := Lib.hid (HQ5.out.later hb33)
      have HQs := Lib.hid (HQs.out.later hb33)
      have HTs := Lib.hid (HTs.out.later hb33)
      have HTv := Lib.hid (HTv.out.later hb33)
      have HQu := Lib.hid hq35
      have HW34 := Lib.hid hw32
      have HZ36 := Lib.hid (show wQ.heap.size + 1 = x31.heap.size by rw [← hw32]; simp)
      clear hw32 hb33 hq35
      go_wp2_with (rw [HW34.out])
      refine (union_any (n := 6) (mk_sets6 (g := wg V2) (f := f2) HQu.out HWA.out.t) rfl HSF.out HSix.out.symm).mono ?_
      rintro e wu ⟨og, dg, rfl, ht, hb⟩
      dsimp only
      clear HQu w10 w11 w20 w21 w30 w31 w40 w41 w50 w51 w60 w61 HW34 HZ36
      have HWA := Lib.hid (HWA.out.later hb)
      have HM := Lib.hid (HM.out.later hb)
      have HK := Lib.hid (HK.out.trans (.of hb))
      have HQ5 := Lib.hid (HQ5.out.later hb)
      have HQs := Lib.hid (HQs.out.later hb)
      have HTs := Lib.hid (HTs.out.later hb)
      have HTv := Lib.hid (HTv.out.later hb)
      have HTg := Lib.hid ht
      clear ht hb
      obtain ⟨x37, hw38, hb39, hq41⟩ := alloc_new wu #[.bool va, .slice og vl.length dg] 28
      have HWA := Lib.hid (HWA.out.later hb39)
      have HM := Lib.hid (HM.out.later hb39)
      have HK := Lib.hid (HK.out.trans (.of hb39))
      have HQ5 := Lib.hid (HQ5.out.later hb39)
      have HQs := Lib.hid (HQs.out.later hb39)
      have HTs := Lib.hid (HTs.out.later hb39)
      have HTv := Lib.hid (HTv.out.later hb39)
      have HTg := Lib.hid (HTg.out.later hb39)
      have HQg := Lib.hid hq41
      have HW40 := Lib.hid hw38
      have HZ42 := Lib.hid (show wu.heap.size + 1 = x37.heap.size by rw [← hw38]; simp)
      clear hw38 hb39 hq41
      go_wp2_with (rw [HW40.out])
      clear HW40 HZ42 HSF HSix
      obtain ⟨Rg, hRg⟩ : ∃ R, wu.heap.size = R := ⟨_, rfl⟩
      rw [hRg] at HQg ⊢
      clear hRg
      obtain ⟨w1072, hw1073, hb1074⟩ := drew_new x37
      have q1075 := HM.out.later hb1074
      have q1076 := HK.out.later hb1074
      have q1077 := HWA.out.later hb1074
      have q1078 := HQ5.out.later hb1074
      have q1079 := HQg.out.later hb1074
      have q1080 := HQs.out.later hb1074
      have q1081 := HTv.out.later hb1074
      have q1082 := HTg.out.later hb1074
      have q1083 := HTs.out.later hb1074
      refine wp_region_held_drew (S := (fun w' => w'.cell? ⟨R5, 0, none⟩ = some (.bool va) ∧ w'.cell? ⟨R5, 1, none⟩ = some (.slice ov vl.length dv) ∧ w'.cell? ⟨Rg, 0, none⟩ = some (.bool va) ∧ w'.cell? ⟨Rg, 1, none⟩ = some (.slice og vl.length dg) ∧ w'.cell? ⟨Rs, 0, none⟩ = some (.bool sa) ∧ w'.cell? ⟨Rs, 1, none⟩ = some (.slice os sl.length ds) ∧ True)) (by kernel_rfl) (by rw [hw1073]; exact ⟨q1078.cell 0, q1078.cell 1, q1079.cell 0, q1079.cell 1, q1080.cell 0, q1080.cell 1, trivial⟩) (fun hHeld => ?_)
      rw [hw1073] at hHeld ⊢
      refine wpAnyH_take (i := 0) (oi := { dst := some 83, op := Op.load 28 (Operand.tmp 5), type := 28, pos := "keeps.go:31", after := #[], guard := none }) (v := ?v1072) rfl (by kernel_rfl) (by kernel_rfl) (by kernel_rfl) (fun _ _ _ h => h) (Or.inl ⟨by rfl, ?hy1072⟩) (by assumption) ?rest1072
      case hy1072 => (intro w1 hSw; (try dsimp only at hSw); obtain ⟨h0, h1, h2, h3, h4, h5, -⟩ := hSw; go_simp; try with_reducible rfl)
      try simp only [Act.put, List.setIfInBounds_toArray, List.set_cons_zero, List.set_cons_succ]
      refine wpAnyH_take (i := 1) (oi := { dst := some 84, op := Op.load 28 (Operand.tmp 13), type := 28, pos := "keeps.go:31", after := #[], guard := none }) (v := ?v1073) rfl (by kernel_rfl) (by kernel_rfl) (by kernel_rfl) (fun _ _ _ h => h) (Or.inl ⟨by rfl, ?hy1073⟩) (by assumption) ?rest1073
      case hy1073 => (intro w1 hSw; (try dsimp only at hSw); obtain ⟨h0, h1, h2, h3, h4, h5, -⟩ := hSw; go_simp; try with_reducible rfl)
      try simp only [Act.put, List.setIfInBounds_toArray, List.set_cons_zero, List.set_cons_succ]
      refine wpAnyH_ready (rs := [2]) (by kernel_rfl) (by simp) ?_
      refine AllReadyH.cons (o := { dst := some 85, op := Op.call { callee := Callee.value (Operand.func 15), args := #[Operand.tmp 83, Operand.tmp 84], argTypes := #[28, 28] }, type := 4, pos := "keeps.go:31", after := #[{ on := 0, ground := Ground.data }, { on := 1, ground := Ground.data }], guard := none }) rfl (fun K hK => ?_) AllReadyH.nil
      go_simp
      refine (same_any (al := vl) (bl := vl) q1081 q1082 HV2.out.fit HV2.out.fit HV2.out.same).mono ?_
      rintro e w1084 ⟨rfl, hb1085⟩
      have q1086 := q1075.later hb1085
      have q1087 := q1076.later hb1085
      have q1088 := q1077.later hb1085
      have q1089 := q1078.later hb1085
      have q1090 := q1079.later hb1085
      have q1091 := q1080.later hb1085
      have q1092 := q1081.later hb1085
      have q1093 := q1082.later hb1085
      have q1094 := q1083.later hb1085
      refine hK.out _ _ (⟨q1089.cell 0, q1089.cell 1, q1090.cell 0, q1090.cell 1, q1091.cell 0, q1091.cell 1, trivial⟩) (fun hHeld => ?_)
      clear hK K
      try simp only [Act.put, List.setIfInBounds_toArray, List.set_cons_zero, List.set_cons_succ]
      refine wpAnyH_take (i := 3) (oi := { dst := some 86, op := Op.unOp UnOp.not 4 (Operand.tmp 85), type := 4, pos := "keeps.go:31", after := #[{ on := 2, ground := Ground.data }], guard := none }) (v := ?v1074) rfl (by kernel_rfl) (by kernel_rfl) (by kernel_rfl) (fun _ _ _ h => h) (Or.inl ⟨by rfl, ?hy1074⟩) (by assumption) ?rest1074
      case hy1074 => (intro w1 hSw; (try dsimp only at hSw); obtain ⟨h0, h1, h2, h3, h4, h5, -⟩ := hSw; go_simp; try with_reducible rfl)
      try simp only [Act.put, List.setIfInBounds_toArray, List.set_cons_zero, List.set_cons_succ]
      refine wpAnyH_take (i := 4) (oi := { dst := some 87, op := Op.move (Operand.tmp 86), type := 4, pos := "keeps.go:31", after := #[{ on := 3, ground := Ground.data }, { on := 2, ground := Ground.chain }], guard := none }) (v := ?v1075) rfl (by kernel_rfl) (by kernel_rfl) (by kernel_rfl) (fun _ _ _ h => h) (Or.inl ⟨by rfl, ?hy1075⟩) (by assumption) ?rest1075
      case hy1075 => (intro w1 hSw; (try dsimp only at hSw); obtain ⟨h0, h1, h2, h3, h4, h5, -⟩ := hSw; go_simp; try with_reducible rfl)
      try simp only [Act.put, List.setIfInBounds_toArray, List.set_cons_zero, List.set_cons_succ]
      refine wpAnyH_take (i := 5) (oi := { dst := some 88, op := Op.move (Operand.tmp 4), type := 24, pos := "keeps.go:31", after := #[{ on := 4, ground := Ground.guard }], guard := some (4, false) }) (v := ?v1076) rfl (by kernel_rfl) (by kernel_rfl) (by kernel_rfl) (fun _ _ _ h => h) (Or.inl ⟨by rfl, ?hy1076⟩) (by assumption) ?rest1076
      case hy1076 => (intro w1 hSw; (try dsimp only at hSw); obtain ⟨h0, h1, h2, h3, h4, h5, -⟩ := hSw; go_simp; try with_reducible rfl)
      try simp only [Act.put, List.setIfInBounds_toArray, List.set_cons_zero, List.set_cons_succ]
      refine wpAnyH_take (i := 7) (oi := { dst := some 90, op := Op.load 28 (Operand.tmp 13), type := 28, pos := "keeps.go:31", after := #[{ on := 4, ground := Ground.guard }], guard := some (4, false) }) (v := ?v1077) rfl (by kernel_rfl) (by kernel_rfl) (by kernel_rfl) (fun _ _ _ h => h) (Or.inl ⟨by rfl, ?hy1077⟩) (by assumption) ?rest1077
      case hy1077 => (intro w1 hSw; (try dsimp only at hSw); obtain ⟨h0, h1, h2, h3, h4, h5, -⟩ := hSw; go_simp; try with_reducible rfl)
      try simp only [Act.put, List.setIfInBounds_toArray, List.set_cons_zero, List.set_cons_succ]
      refine wpAnyH_ready (rs := [6]) (by kernel_rfl) (by simp) ?_
      refine AllReadyH.cons (o := { dst := some 89, op := Op.call { callee := Callee.value (Operand.func 16), args := #[Operand.tmp 88, Operand.const (Value.int IntKind.i64 3)], argTypes := #[24, 3] }, type := 28, pos := "keeps.go:31", after := #[{ on := 5, ground := Ground.data }, { on := 4, ground := Ground.chain }, { on := 4, ground := Ground.guard }], guard := some (4, false) }) rfl (fun K hK => ?_) AllReadyH.nil
      go_simp
      refine (union_is (sa := va) (sl := vl) q1086 ⟨by decide, by decide⟩ HV.out).mono ?_
      rintro e w1098 ⟨a1095, c1096, rfl, h1097, hb1099⟩
      have q1100 := q1086.later hb1099
      have q1101 := q1087.later hb1099
      have q1102 := q1088.later hb1099
      have q1103 := q1089.later hb1099
      have q1104 := q1090.later hb1099
      have q1105 := q1091.later hb1099
      have q1106 := q1092.later hb1099
      have q1107 := q1093.later hb1099
      have q1108 := q1094.later hb1099
      refine hK.out _ _ (⟨q1103.cell 0, q1103.cell 1, q1104.cell 0, q1104.cell 1, q1105.cell 0, q1105.cell 1, trivial⟩) (fun hHeld => ?_)
      clear hK K
      try simp only [Act.put, List.setIfInBounds_toArray, List.set_cons_zero, List.set_cons_succ]
      refine wpAnyH_ready (rs := [8]) (by kernel_rfl) (by simp) ?_
      refine AllReadyH.cons (o := { dst := some 91, op := Op.call { callee := Callee.value (Operand.func 15), args := #[Operand.tmp 89, Operand.tmp 90], argTypes := #[28, 28] }, type := 4, pos := "keeps.go:31", after := #[{ on := 6, ground := Ground.data }, { on := 7, ground := Ground.data }, { on := 6, ground := Ground.chain }, { on := 4, ground := Ground.guard }], guard := some (4, false) }) rfl (fun K hK => ?_) AllReadyH.nil
      go_simp
      refine (same_any (al := vl) (bl := vl) h1097 q1107 HV2.out.fit HV2.out.fit HV2.out.same).mono ?_
      rintro e w1109 ⟨rfl, hb1110⟩
      have q1111 := q1100.later hb1110
      have q1112 := q1101.later hb1110
      have q1113 := q1102.later hb1110
      have q1114 := q1103.later hb1110
      have q1115 := q1104.later hb1110
      have q1116 := q1105.later hb1110
      have q1117 := q1106.later hb1110
      have q1118 := q1107.later hb1110
      have q1119 := q1108.later hb1110
      have q1120 := h1097.later hb1110
      refine hK.out _ _ (⟨q1114.cell 0, q1114.cell 1, q1115.cell 0, q1115.cell 1, q1116.cell 0, q1116.cell 1, trivial⟩) (fun hHeld => ?_)
      clear hK K
      try simp only [Act.put, List.setIfInBounds_toArray, List.set_cons_zero, List.set_cons_succ]
      refine wpAnyH_take (i := 9) (oi := { dst := some 92, op := Op.unOp UnOp.not 4 (Operand.tmp 91), type := 4, pos := "keeps.go:31", after := #[{ on := 8, ground := Ground.data }, { on := 4, ground := Ground.guard }], guard := some (4, false) }) (v := ?v1078) rfl (by kernel_rfl) (by kernel_rfl) (by kernel_rfl) (fun _ _ _ h => h) (Or.inl ⟨by rfl, ?hy1078⟩) (by assumption) ?rest1078
      case hy1078 => (intro w1 hSw; (try dsimp only at hSw); obtain ⟨h0, h1, h2, h3, h4, h5, -⟩ := hSw; go_simp; try with_reducible rfl)
      try simp only [Act.put, List.setIfInBounds_toArray, List.set_cons_zero, List.set_cons_succ]
      refine wpAnyH_take (i := 10) (oi := { dst := some 93, op := Op.pick (Operand.tmp 87) (Operand.const (Value.bool true)) (Operand.tmp 92), type := 4, pos := "keeps.go:31", after := #[{ on := 4, ground := Ground.data }, { on := 9, ground := Ground.data }], guard := none }) (v := ?v1079) rfl (by kernel_rfl) (by kernel_rfl) (by kernel_rfl) (fun _ _ _ h => h) (Or.inl ⟨by rfl, ?hy1079⟩) (by assumption) ?rest1079
      case hy1079 => (intro w1 hSw; (try dsimp only at hSw); obtain ⟨h0, h1, h2, h3, h4, h5, -⟩ := hSw; go_simp; try with_reducible rfl)
      try simp only [Act.put, List.setIfInBounds_toArray, List.set_cons_zero, List.set_cons_succ]
      refine wpAnyH_take (i := 11) (oi := { dst := some 94, op := Op.move (Operand.tmp 93), type := 4, pos := "keeps.go:31", after := #[{ on := 10, ground := Ground.data }, { on := 8, ground := Ground.chain }], guard := none }) (v := ?v1080) rfl (by kernel_rfl) (by kernel_rfl) (by kernel_rfl) (fun _ _ _ h => h) (Or.inl ⟨by rfl, ?hy1080⟩) (by assumption) ?rest1080
      case hy1080 => (intro w1 hSw; (try dsimp only at hSw); obtain ⟨h0, h1, h2, h3, h4, h5, -⟩ := hSw; go_simp; try with_reducible rfl)
      try simp only [Act.put, List.setIfInBounds_toArray, List.set_cons_zero, List.set_cons_succ]
      refine wpAnyH_take (i := 12) (oi := { dst := some 95, op := Op.move (Operand.tmp 4), type := 24, pos := "keeps.go:31", after := #[{ on := 11, ground := Ground.guard }], guard := some (11, false) }) (v := ?v1081) rfl (by kernel_rfl) (by kernel_rfl) (by kernel_rfl) (fun _ _ _ h => h) (Or.inl ⟨by rfl, ?hy1081⟩) (by assumption) ?rest1081
      case hy1081 => (intro w1 hSw; (try dsimp only at hSw); obtain ⟨h0, h1, h2, h3, h4, h5, -⟩ := hSw; go_simp; try with_reducible rfl)
      try simp only [Act.put, List.setIfInBounds_toArray, List.set_cons_zero, List.set_cons_succ]
      refine wpAnyH_take (i := 13) (oi := { dst := some 96, op := Op.move (Operand.tmp 8), type := 3, pos := "keeps.go:31", after := #[{ on := 11, ground := Ground.guard }], guard := some (11, false) }) (v := ?v1082) rfl (by kernel_rfl) (by kernel_rfl) (by kernel_rfl) (fun _ _ _ h => h) (Or.inl ⟨by rfl, ?hy1082⟩) (by assumption) ?rest1082
      case hy1082 => (intro w1 hSw; (try dsimp only at hSw); obtain ⟨h0, h1, h2, h3, h4, h5, -⟩ := hSw; go_simp; try with_reducible rfl)
      try simp only [Act.put, List.setIfInBounds_toArray, List.set_cons_zero, List.set_cons_succ]
      refine wpAnyH_take (i := 15) (oi := { dst := some 98, op := Op.load 28 (Operand.tmp 9), type := 28, pos := "keeps.go:31", after := #[{ on := 11, ground := Ground.guard }], guard := some (11, false) }) (v := ?v1083) rfl (by kernel_rfl) (by kernel_rfl) (by kernel_rfl) (fun _ _ _ h => h) (Or.inl ⟨by rfl, ?hy1083⟩) (by assumption) ?rest1083
      case hy1083 => (intro w1 hSw; (try dsimp only at hSw); obtain ⟨h0, h1, h2, h3, h4, h5, -⟩ := hSw; go_simp; try with_reducible rfl)
      try simp only [Act.put, List.setIfInBounds_toArray, List.set_cons_zero, List.set_cons_succ]
      refine wpAnyH_ready (rs := [14]) (by kernel_rfl) (by simp) ?_
      refine AllReadyH.cons (o := { dst := some 97, op := Op.call { callee := Callee.value (Operand.func 17), args := #[Operand.tmp 95, Operand.tmp 96, Operand.const (Value.int IntKind.i64 3)], argTypes := #[24, 3, 3] }, type := 28, pos := "keeps.go:31", after := #[{ on := 12, ground := Ground.data }, { on := 13, ground := Ground.data }, { on := 11, ground := Ground.chain }, { on := 11, ground := Ground.guard }], guard := some (11, false) }) rfl (fun K hK => ?_) AllReadyH.nil
      go_simp
      refine (want_is (sa := sa) (sl := sl) q1111 (i64_small (by omega)) ⟨by decide, by decide⟩ HWs.out).mono ?_
      rintro e w1124 ⟨a1121, c1122, rfl, h1123, hb1125⟩
      have q1126 := q1111.later hb1125
      have q1127 := q1112.later hb1125
      have q1128 := q1113.later hb1125
      have q1129 := q1114.later hb1125
      have q1130 := q1115.later hb1125
      have q1131 := q1116.later hb1125
      have q1132 := q1117.later hb1125
      have q1133 := q1118.later hb1125
      have q1134 := q1119.later hb1125
      have q1135 := q1120.later hb1125
      refine hK.out _ _ (⟨q1129.cell 0, q1129.cell 1, q1130.cell 0, q1130.cell 1, q1131.cell 0, q1131.cell 1, trivial⟩) (fun hHeld => ?_)
      clear hK K
      try simp only [Act.put, List.setIfInBounds_toArray, List.set_cons_zero, List.set_cons_succ]
      refine wpAnyH_ready (rs := [16]) (by kernel_rfl) (by simp) ?_
      refine AllReadyH.cons (o := { dst := some 99, op := Op.call { callee := Callee.value (Operand.func 15), args := #[Operand.tmp 97, Operand.tmp 98], argTypes := #[28, 28] }, type := 4, pos := "keeps.go:31", after := #[{ on := 14, ground := Ground.data }, { on := 15, ground := Ground.data }, { on := 14, ground := Ground.chain }, { on := 11, ground := Ground.guard }], guard := some (11, false) }) rfl (fun K hK => ?_) AllReadyH.nil
      go_simp
      refine (same_any (al := sl) (bl := sl) h1123 q1134 HFs.out.fit HFs.out.fit (same_self HFs.out.r)).mono ?_
      rintro e w1136 ⟨rfl, hb1137⟩
      have q1138 := q1126.later hb1137
      have q1139 := q1127.later hb1137
      have q1140 := q1128.later hb1137
      have q1141 := q1129.later hb1137
      have q1142 := q1130.later hb1137
      have q1143 := q1131.later hb1137
      have q1144 := q1132.later hb1137
      have q1145 := q1133.later hb1137
      have q1146 := q1134.later hb1137
      have q1147 := q1135.later hb1137
      have q1148 := h1123.later hb1137
      refine hK.out _ _ (⟨q1141.cell 0, q1141.cell 1, q1142.cell 0, q1142.cell 1, q1143.cell 0, q1143.cell 1, trivial⟩) (fun hHeld => ?_)
      clear hK K
      try simp only [Act.put, List.setIfInBounds_toArray, List.set_cons_zero, List.set_cons_succ]
      refine wpAnyH_take (i := 17) (oi := { dst := some 100, op := Op.unOp UnOp.not 4 (Operand.tmp 99), type := 4, pos := "keeps.go:31", after := #[{ on := 16, ground := Ground.data }, { on := 11, ground := Ground.guard }], guard := some (11, false) }) (v := ?v1084) rfl (by kernel_rfl) (by kernel_rfl) (by kernel_rfl) (fun _ _ _ h => h) (Or.inl ⟨by rfl, ?hy1084⟩) (by assumption) ?rest1084
      case hy1084 => (intro w1 hSw; (try dsimp only at hSw); obtain ⟨h0, h1, h2, h3, h4, h5, -⟩ := hSw; go_simp; try with_reducible rfl)
      try simp only [Act.put, List.setIfInBounds_toArray, List.set_cons_zero, List.set_cons_succ]
      refine wpAnyH_take (i := 18) (oi := { dst := some 101, op := Op.pick (Operand.tmp 94) (Operand.const (Value.bool true)) (Operand.tmp 100), type := 4, pos := "keeps.go:31", after := #[{ on := 11, ground := Ground.data }, { on := 17, ground := Ground.data }], guard := none }) (v := ?v1085) rfl (by kernel_rfl) (by kernel_rfl) (by kernel_rfl) (fun _ _ _ h => h) (Or.inl ⟨by rfl, ?hy1085⟩) (by assumption) ?rest1085
      case hy1085 => (intro w1 hSw; (try dsimp only at hSw); obtain ⟨h0, h1, h2, h3, h4, h5, -⟩ := hSw; go_simp; try with_reducible rfl)
      try simp only [Act.put, List.setIfInBounds_toArray, List.set_cons_zero, List.set_cons_succ]
      refine wpAnyH_take (i := 19) (oi := { dst := some 102, op := Op.move (Operand.tmp 101), type := 4, pos := "keeps.go:31", after := #[{ on := 18, ground := Ground.data }, { on := 16, ground := Ground.chain }], guard := none }) (v := ?v1086) rfl (by kernel_rfl) (by kernel_rfl) (by kernel_rfl) (fun _ _ _ h => h) (Or.inl ⟨by rfl, ?hy1086⟩) (by assumption) ?rest1086
      case hy1086 => (intro w1 hSw; (try dsimp only at hSw); obtain ⟨h0, h1, h2, h3, h4, h5, -⟩ := hSw; go_simp; try with_reducible rfl)
      try simp only [Act.put, List.setIfInBounds_toArray, List.set_cons_zero, List.set_cons_succ]
      refine wpAnyH_take (i := 20) (oi := { dst := some 103, op := Op.move (Operand.tmp 4), type := 24, pos := "keeps.go:31", after := #[{ on := 19, ground := Ground.guard }], guard := some (19, false) }) (v := ?v1087) rfl (by kernel_rfl) (by kernel_rfl) (by kernel_rfl) (fun _ _ _ h => h) (Or.inl ⟨by rfl, ?hy1087⟩) (by assumption) ?rest1087
      case hy1087 => (intro w1 hSw; (try dsimp only at hSw); obtain ⟨h0, h1, h2, h3, h4, h5, -⟩ := hSw; go_simp; try with_reducible rfl)
      try simp only [Act.put, List.setIfInBounds_toArray, List.set_cons_zero, List.set_cons_succ]
      refine wpAnyH_ready (rs := [21]) (by kernel_rfl) (by simp) ?_
      refine AllReadyH.cons (o := { dst := some 104, op := Op.call { callee := Callee.value (Operand.func 16), args := #[Operand.tmp 103, Operand.const (Value.int IntKind.i64 2)], argTypes := #[24, 3] }, type := 28, pos := "keeps.go:31", after := #[{ on := 20, ground := Ground.data }, { on := 19, ground := Ground.chain }, { on := 19, ground := Ground.guard }], guard := some (19, false) }) rfl (fun K hK => ?_) AllReadyH.nil
      go_simp
      refine (union_is (sa := false) (sl := []) q1138 ⟨by decide, by decide⟩ HU20.out).mono ?_
      rintro e w1151 ⟨a1149, c1150, rfl, -, hb1152⟩
      have q1153 := q1138.later hb1152
      have q1154 := q1139.later hb1152
      have q1155 := q1140.later hb1152
      have q1156 := q1141.later hb1152
      have q1157 := q1142.later hb1152
      have q1158 := q1143.later hb1152
      have q1159 := q1144.later hb1152
      have q1160 := q1145.later hb1152
      have q1161 := q1146.later hb1152
      have q1162 := q1147.later hb1152
      have q1163 := q1148.later hb1152
      refine hK.out _ _ (⟨q1156.cell 0, q1156.cell 1, q1157.cell 0, q1157.cell 1, q1158.cell 0, q1158.cell 1, trivial⟩) (fun hHeld => ?_)
      clear hK K
      try simp only [Act.put, List.setIfInBounds_toArray, List.set_cons_zero, List.set_cons_succ]
      refine wpAnyH_ready (rs := [22]) (by kernel_rfl) (by simp) ?_
      refine AllReadyH.cons (o := { dst := some 105, op := Op.call { callee := Callee.value (Operand.func 18), args := #[Operand.tmp 104], argTypes := #[28] }, type := 4, pos := "keeps.go:31", after := #[{ on := 21, ground := Ground.data }, { on := 21, ground := Ground.chain }, { on := 19, ground := Ground.guard }], guard := some (19, false) }) rfl (fun K hK => ?_) AllReadyH.nil
      go_simp
      refine (empty_any (sa := false) (sl := []) (B := true) rfl).mono ?_
      rintro e w1164 ⟨rfl, hb1165⟩
      have q1166 := q1153.later hb1165
      have q1167 := q1154.later hb1165
      have q1168 := q1155.later hb1165
      have q1169 := q1156.later hb1165
      have q1170 := q1157.later hb1165
      have q1171 := q1158.later hb1165
      have q1172 := q1159.later hb1165
      have q1173 := q1160.later hb1165
      have q1174 := q1161.later hb1165
      have q1175 := q1162.later hb1165
      have q1176 := q1163.later hb1165
      refine hK.out _ _ (⟨q1169.cell 0, q1169.cell 1, q1170.cell 0, q1170.cell 1, q1171.cell 0, q1171.cell 1, trivial⟩) (fun hHeld => ?_)
      clear hK K
      try simp only [Act.put, List.setIfInBounds_toArray, List.set_cons_zero, List.set_cons_succ]
      refine wpAnyH_take (i := 23) (oi := { dst := some 106, op := Op.unOp UnOp.not 4 (Operand.tmp 105), type := 4, pos := "keeps.go:31", after := #[{ on := 22, ground := Ground.data }, { on := 19, ground := Ground.guard }], guard := some (19, false) }) (v := ?v1088) rfl (by kernel_rfl) (by kernel_rfl) (by kernel_rfl) (fun _ _ _ h => h) (Or.inl ⟨by rfl, ?hy1088⟩) (by assumption) ?rest1088
      case hy1088 => (intro w1 hSw; (try dsimp only at hSw); obtain ⟨h0, h1, h2, h3, h4, h5, -⟩ := hSw; go_simp; try with_reducible rfl)
      try simp only [Act.put, List.setIfInBounds_toArray, List.set_cons_zero, List.set_cons_succ]
      refine wpAnyH_take (i := 24) (oi := { dst := some 107, op := Op.pick (Operand.tmp 102) (Operand.const (Value.bool true)) (Operand.tmp 106), type := 4, pos := "keeps.go:31", after := #[{ on := 19, ground := Ground.data }, { on := 23, ground := Ground.data }], guard := none }) (v := ?v1089) rfl (by kernel_rfl) (by kernel_rfl) (by kernel_rfl) (fun _ _ _ h => h) (Or.inl ⟨by rfl, ?hy1089⟩) (by assumption) ?rest1089
      case hy1089 => (intro w1 hSw; (try dsimp only at hSw); obtain ⟨h0, h1, h2, h3, h4, h5, -⟩ := hSw; go_simp; try with_reducible rfl)
      try simp only [Act.put, List.setIfInBounds_toArray, List.set_cons_zero, List.set_cons_succ]
      refine wpAnyH_done (by kernel_rfl) ?_ _
      have HM := Lib.hid q1166
      have HK := Lib.hid q1167
      have HWA := Lib.hid q1168
      have HQ5 := Lib.hid q1169
      have HQg := Lib.hid q1170
      have HTv := Lib.hid q1172
      have HTg := Lib.hid q1173
      clear q1166 q1167 q1168 q1169 q1170 q1171 q1172 q1173 q1174 q1175 q1176
      clear HQs HTs HFs HWs HU20
      have hd5 : w1164.cell? ⟨ab, ao + i * 7 + 5, none⟩ = some (.int .u8 (u.many : Int)) := (HD.out.below (HK.out.below (Nat.le_refl _))).2.2.2.2.2.1
      obtain ⟨q, hq⟩ : ∃ q, u.many % 12 = q := ⟨_, rfl⟩
      have q12 : q < 12 := by omega
      have m1 : (u.many : Int).tmod 12 = (q : Int) := (mod_of _ _ _ hq).1
      have m1' : (u.many : Int) % 12 = (q : Int) := (mod_of _ _ _ hq).2
      have m2 : IntKind.u8.wrap (q : Int) = (q : Int) := u8_small (by omega)
      clear hq
      go_wp2_with fail
      refine (name10_any (b := q) (by omega)).mono ?_
      rintro e wn ⟨rfl, hb⟩
      dsimp only
      have HWA := Lib.hid (HWA.out.later hb)
      have HM := Lib.hid (HM.out.later hb)
      have HK := Lib.hid (HK.out.trans (.of hb))
      have HQ5 := Lib.hid (HQ5.out.later hb)
      have HQg := Lib.hid (HQg.out.later hb)
      have HTv := Lib.hid (HTv.out.later hb)
      have HTg := Lib.hid (HTg.out.later hb)
      clear hb hd5
      obtain ⟨x, hxx⟩ : ∃ x, nmC q = x := ⟨_, rfl⟩
      rw [hxx]
      clear hxx m1 m1' m2 q12
      obtain ⟨x43, hw44, hb45, hq47⟩ := alloc_new wn #[.int .i64 3, .string ⟨x.toArray⟩] 45
      have HWA := Lib.hid (HWA.out.later hb45)
      have HM := Lib.hid (HM.out.later hb45)
      have HK := Lib.hid (HK.out.trans (.of hb45))
      have HQ5 := Lib.hid (HQ5.out.later hb45)
      have HQg := Lib.hid (HQg.out.later hb45)
      have HTv := Lib.hid (HTv.out.later hb45)
      have HTg := Lib.hid (HTg.out.later hb45)
      have HQk := Lib.hid hq47
      have HW46 := Lib.hid hw44
      have HZ48 := Lib.hid (show wn.heap.size + 1 = x43.heap.size by rw [← hw44]; simp)
      clear hw44 hb45 hq47
      have kc0 : x43.cell? ⟨wn.heap.size, 0, none⟩ = some (.int .i64 3) := HQk.out.cell 0
      have kc1 : x43.cell? ⟨wn.heap.size, 1, none⟩ = some (.string ⟨x.toArray⟩) := HQk.out.cell 1
      go_wp2_with (rw [HW46.out])
      clear HW46 HZ48 kc0 kc1
      obtain ⟨Rk, hRk⟩ : ∃ R, wn.heap.size = R := ⟨_, rfl⟩
      rw [hRk] at HQk ⊢
      clear hRk
      refine (who_any (k := 3) (x := x) HM.out ⟨by decide, by decide⟩).mono ?_
      rintro e ww ⟨ka, kc, rfl, -, hb⟩
      rw [HWho.out x]
      dsimp only
      have HWA := Lib.hid (HWA.out.later hb)
      have HM := Lib.hid (HM.out.later hb)
      have HK := Lib.hid (HK.out.trans (.of hb))
      have HQ5 := Lib.hid (HQ5.out.later hb)
      have HQg := Lib.hid (HQg.out.later hb)
      have HQk := Lib.hid (HQk.out.later hb)
      have HTv := Lib.hid (HTv.out.later hb)
      have HTg := Lib.hid (HTg.out.later hb)
      clear hb HWho
      obtain ⟨N, hN⟩ : ∃ N, hcN (wg V2) x 6 = N := ⟨_, rfl⟩
      rw [hN]
      have HN := Lib.hid hN
      clear hN
      go_wp2_with fail
      go_loopw [16, 17] (fun vm vn wr => ∃ n : Nat, vn = .int .i64 (n : Int) ∧ 1 ≤ n ∧ n ≤ 7 ∧ vm = .int .i64 ((hcN (wg V2) x (n - 1) : Nat) : Int) ∧ Below ww.heap.size ww wr) (fun _ vn _ => 7 - (intOf vn).toNat)
      case atStart => exact ⟨1, rfl, by omega, by omega, rfl, Below.refl _ _⟩
      case round =>
        obtain ⟨n, rfl, hn1, hn7, rfl, hb⟩ := hrel
        by_cases hlt : n ≤ 6
        · have b1 : (n : Int) ≤ 6 := by omega
          have b2 : (0 : Int) ≤ (n : Int) := by omega
          have b3 : (n : Int) < 7 := by omega
          have b4 : IntKind.i64.wrap ((n : Int) + 1) = (n : Int) + 1 := by rw [IntKind.wrap_i64]; omega
          have HW2 := Lib.hid (HWA.out.later hb)
          have HQk2 := Lib.hid (HQk.out.later hb)
          have HBr := Lib.hid hb
          have HL6 := Lib.hid hlt
          obtain ⟨B, hB⟩ : ∃ B, nHas okN (wg V2 n) x = B := ⟨_, rfl⟩
          have HX := hc_next (g := wg V2) (x := x) hn1
          rw [hB] at HX
          obtain ⟨t, ht⟩ : ∃ t, hcN (wg V2) x (n - 1) = t := ⟨_, rfl⟩
          have htl : t ≤ 7 := by have := hc_le (wg V2) x (n - 1); omega
          rw [ht] at HX ⊢
          have HNX := Lib.hid HX
          have HBB := Lib.hid hB
          have b5 : IntKind.i64.wrap ((t : Int) + 1) = (t : Int) + 1 := by rw [IntKind.wrap_i64]; omega
          clear hb hlt hB ht HX htl
          go_wp2_with fail
          obtain ⟨w1177, hw1178, hb1179⟩ := drew_new wr
          have q1180 := HW2.out.later hb1179
          have q1181 := HQk2.out.later hb1179
          have q1182 := HBr.out.trans (hb1179.mono HBr.out.size)
          refine wp_region_held_drew (S := (fun w' => w'.cell? ⟨R6, n * 2, none⟩ = some (.bool (wg V2 n).all) ∧ w'.cell? ⟨R6, n * 2 + 1, none⟩ = some (.slice (f2 n).1 (wg V2 n).ns.length (f2 n).2) ∧ w'.cell? ⟨Rk, 1, none⟩ = some (.string ⟨x.toArray⟩) ∧ True)) (by kernel_rfl) (by rw [hw1178]; exact ⟨q1180.c0 HL6.out, q1180.c1 HL6.out, q1181.cell 1, trivial⟩) (fun hHeld => ?_)
          rw [hw1178] at hHeld ⊢
          refine wpAnyH_take (i := 0) (oi := { dst := some 123, op := Op.move (Operand.tmp 17), type := 3, pos := "keeps.go:38", after := #[], guard := none }) (v := ?v1177) rfl (by kernel_rfl) (by kernel_rfl) (by kernel_rfl) (fun _ _ _ h => h) (Or.inl ⟨by rfl, ?hy1177⟩) (by assumption) ?rest1177
          case hy1177 => (intro w1 hSw; (try dsimp only at hSw); obtain ⟨h0, h1, h2, -⟩ := hSw; go_simp; try with_reducible rfl)
          try simp only [Act.put, List.setIfInBounds_toArray, List.set_cons_zero, List.set_cons_succ]
          refine wpAnyH_take (i := 1) (oi := { dst := some 124, op := Op.indexAddr 29 (Operand.tmp 6) (Operand.tmp 123), type := 0, pos := "keeps.go:38", after := #[{ on := 0, ground := Ground.data }], guard := none }) (v := ?v1178) rfl (by kernel_rfl) (by kernel_rfl) (by kernel_rfl) (fun _ _ _ h => h) (Or.inl ⟨by rfl, ?hy1178⟩) (by assumption) ?rest1178
          case hy1178 => (intro w1 hSw; (try dsimp only at hSw); obtain ⟨h0, h1, h2, -⟩ := hSw; go_simp; try with_reducible rfl)
          try simp only [Act.put, List.setIfInBounds_toArray, List.set_cons_zero, List.set_cons_succ]
          refine wpAnyH_take (i := 2) (oi := { dst := some 125, op := Op.load 28 (Operand.tmp 124), type := 28, pos := "keeps.go:38", after := #[{ on := 1, ground := Ground.data }], guard := none }) (v := ?v1179) rfl (by kernel_rfl) (by kernel_rfl) (by kernel_rfl) (fun _ _ _ h => h) (Or.inl ⟨by rfl, ?hy1179⟩) (by assumption) ?rest1179
          case hy1179 => (intro w1 hSw; (try dsimp only at hSw); obtain ⟨h0, h1, h2, -⟩ := hSw; go_simp; try with_reducible rfl)
          try simp only [Act.put, List.setIfInBounds_toArray, List.set_cons_zero, List.set_cons_succ]
          refine wpAnyH_take (i := 3) (oi := { dst := some 126, op := Op.fieldAddr 45 (Operand.tmp 14) 1, type := 0, pos := "keeps.go:38", after := #[], guard := none }) (v := ?v1180) rfl (by kernel_rfl) (by kernel_rfl) (by kernel_rfl) (fun _ _ _ h => h) (Or.inl ⟨by rfl, ?hy1180⟩) (by assumption) ?rest1180
          case hy1180 => (intro w1 hSw; (try dsimp only at hSw); obtain ⟨h0, h1, h2, -⟩ := hSw; go_simp; try with_reducible rfl)
          try simp only [Act.put, List.setIfInBounds_toArray, List.set_cons_zero, List.set_cons_succ]
          refine wpAnyH_take (i := 4) (oi := { dst := some 127, op := Op.load 9 (Operand.tmp 126), type := 9, pos := "keeps.go:38", after := #[{ on := 3, ground := Ground.data }], guard := none }) (v := ?v1181) rfl (by kernel_rfl) (by kernel_rfl) (by kernel_rfl) (fun _ _ _ h => h) (Or.inl ⟨by rfl, ?hy1181⟩) (by assumption) ?rest1181
          case hy1181 => (intro w1 hSw; (try dsimp only at hSw); obtain ⟨h0, h1, h2, -⟩ := hSw; go_simp; try with_reducible rfl)
          try simp only [Act.put, List.setIfInBounds_toArray, List.set_cons_zero, List.set_cons_succ]
          refine wpAnyH_ready (rs := [5]) (by kernel_rfl) (by simp) ?_
          refine AllReadyH.cons (o := { dst := some 128, op := Op.call { callee := Callee.value (Operand.func 21), args := #[Operand.tmp 125, Operand.tmp 127], argTypes := #[28, 9] }, type := 4, pos := "keeps.go:38", after := #[{ on := 2, ground := Ground.data }, { on := 4, ground := Ground.data }], guard := none }) rfl (fun K hK => ?_) AllReadyH.nil
          go_simp
          refine (has_any (sa := (wg V2 n).all) (sl := (wg V2 n).ns) (B := B) (q1180.t n) HBB.out).mono ?_
          rintro e w1183 ⟨rfl, hb1184⟩
          have q1185 := q1180.later hb1184
          have q1186 := q1181.later hb1184
          have q1187 := q1182.trans (hb1184.mono q1182.size)
          refine hK.out _ _ (⟨q1185.c0 HL6.out, q1185.c1 HL6.out, q1186.cell 1, trivial⟩) (fun hHeld => ?_)
          clear hK K
          refine wpAnyH_done (by kernel_rfl) ?_ _
          have HBr := Lib.hid q1187
          cases B with
          | true =>
            have hv : hcN (wg V2) x (n + 1 - 1) = t + 1 := by rw [Nat.add_sub_cancel]; exact HNX.out
            go_wp2_with fail
            go_roundw
            case rel => exact ⟨n + 1, by go_num, by omega, by have := HL6.out; omega, by first | (rw [hv]; done) | (rw [hv]; go_num), HBr.out⟩
            case measure => have := HL6.out; simp [intOf]; omega
          | false =>
            have hv : hcN (wg V2) x (n + 1 - 1) = t := by rw [Nat.add_sub_cancel]; exact HNX.out
            go_wp2_with fail
            go_roundw
            case rel => exact ⟨n + 1, by go_num, by omega, by have := HL6.out; omega, by first | (rw [hv]; done) | (rw [hv]; go_num), HBr.out⟩
            case measure => have := HL6.out; simp [intOf]; omega
        · obtain rfl : n = 7 := by omega
          have b1 : ¬ ((7 : Nat) : Int) ≤ 6 := by decide
          rw [show 7 - 1 = 6 from rfl, HN.out]
          have HWA := Lib.hid (HWA.out.later hb)
          have HM := Lib.hid (HM.out.later hb)
          have HK := Lib.hid (HK.out.trans (.of hb))
          have HQ5 := Lib.hid (HQ5.out.later hb)
          have HQg := Lib.hid (HQg.out.later hb)
          have HQk := Lib.hid (HQk.out.later hb)
          have HTv := Lib.hid (HTv.out.later hb)
          have HTg := Lib.hid (HTg.out.later hb)
          clear hb hn1 hn7 hlt HN HQk
          go_wp2_with fail
          cases va with
          | true =>
            obtain ⟨w1188, hw1189, hb1190⟩ := drew_new wr
            have q1191 := HM.out.later hb1190
            have q1192 := HK.out.later hb1190
            have q1193 := HWA.out.later hb1190
            have q1194 := HQ5.out.later hb1190
            have q1195 := HQg.out.later hb1190
            have q1196 := HTv.out.later hb1190
            have q1197 := HTg.out.later hb1190
            refine wp_region_held_drew (S := (fun w' => w'.cell? ⟨Rg, 0, none⟩ = some (.bool true) ∧ w'.cell? ⟨Rg, 1, none⟩ = some (.slice og vl.length dg) ∧ True)) (by kernel_rfl) (by rw [hw1189]; exact ⟨q1195.cell 0, q1195.cell 1, trivial⟩) (fun hHeld => ?_)
            rw [hw1189] at hHeld ⊢
            refine wpAnyH_take (i := 0) (oi := { dst := some 131, op := Op.move (Operand.tmp 15), type := 46, pos := "keeps.go:42", after := #[], guard := none }) (v := ?v1188) rfl (by kernel_rfl) (by kernel_rfl) (by kernel_rfl) (fun _ _ _ h => h) (Or.inl ⟨by rfl, ?hy1188⟩) (by assumption) ?rest1188
            case hy1188 => (intro w1 hSw; (try dsimp only at hSw); obtain ⟨h0, h1, -⟩ := hSw; go_simp; try with_reducible rfl)
            try simp only [Act.put, List.setIfInBounds_toArray, List.set_cons_zero, List.set_cons_succ]
            refine wpAnyH_take (i := 1) (oi := { dst := some 132, op := Op.call { callee := Callee.builtin Builtin.len, args := #[Operand.tmp 131], argTypes := #[46] }, type := 3, pos := "keeps.go:42", after := #[{ on := 0, ground := Ground.data }], guard := none }) (v := ?v1189) rfl (by kernel_rfl) (by kernel_rfl) (by kernel_rfl) (fun _ _ _ h => h) (Or.inl ⟨by rfl, ?hy1189⟩) (by assumption) ?rest1189
            case hy1189 => (intro w1 hSw; (try dsimp only at hSw); obtain ⟨h0, h1, -⟩ := hSw; go_simp; try with_reducible rfl)
            try simp only [Act.put, List.setIfInBounds_toArray, List.set_cons_zero, List.set_cons_succ]
            refine wpAnyH_take (i := 2) (oi := { dst := some 133, op := Op.move (Operand.tmp 16), type := 3, pos := "keeps.go:42", after := #[], guard := none }) (v := ?v1190) rfl (by kernel_rfl) (by kernel_rfl) (by kernel_rfl) (fun _ _ _ h => h) (Or.inl ⟨by rfl, ?hy1190⟩) (by assumption) ?rest1190
            case hy1190 => (intro w1 hSw; (try dsimp only at hSw); obtain ⟨h0, h1, -⟩ := hSw; go_simp; try with_reducible rfl)
            try simp only [Act.put, List.setIfInBounds_toArray, List.set_cons_zero, List.set_cons_succ]
            refine wpAnyH_take (i := 3) (oi := { dst := some 134, op := Op.binOp BinOp.neq 3 (Operand.tmp 132) (Operand.tmp 133) 3, type := 4, pos := "keeps.go:42", after := #[{ on := 1, ground := Ground.data }, { on := 2, ground := Ground.data }], guard := none }) (v := ?v1191) rfl (by kernel_rfl) (by kernel_rfl) (by kernel_rfl) (fun _ _ _ h => h) (Or.inl ⟨by rfl, ?hy1191⟩) (by assumption) ?rest1191
            case hy1191 => (intro w1 hSw; (try dsimp only at hSw); obtain ⟨h0, h1, -⟩ := hSw; go_simp; try with_reducible rfl)
            try simp only [Act.put, List.setIfInBounds_toArray, List.set_cons_zero, List.set_cons_succ]
            refine wpAnyH_take (i := 4) (oi := { dst := some 135, op := Op.move (Operand.tmp 134), type := 4, pos := "keeps.go:42", after := #[{ on := 3, ground := Ground.data }], guard := none }) (v := ?v1192) rfl (by kernel_rfl) (by kernel_rfl) (by kernel_rfl) (fun _ _ _ h => h) (Or.inl ⟨by rfl, ?hy1192⟩) (by assumption) ?rest1192
            case hy1192 => (intro w1 hSw; (try dsimp only at hSw); obtain ⟨h0, h1, -⟩ := hSw; go_simp; try with_reducible rfl)
            try simp only [Act.put, List.setIfInBounds_toArray, List.set_cons_zero, List.set_cons_succ]
            refine wpAnyH_take (i := 5) (oi := { dst := some 136, op := Op.move (Operand.tmp 4), type := 24, pos := "keeps.go:42", after := #[{ on := 4, ground := Ground.guard }], guard := some (4, false) }) (v := ?v1193) rfl (by kernel_rfl) (by kernel_rfl) (by kernel_rfl) (fun _ _ _ h => h) (Or.inl ⟨by rfl, ?hy1193⟩) (by assumption) ?rest1193
            case hy1193 => (intro w1 hSw; (try dsimp only at hSw); obtain ⟨h0, h1, -⟩ := hSw; go_simp; try with_reducible rfl)
            try simp only [Act.put, List.setIfInBounds_toArray, List.set_cons_zero, List.set_cons_succ]
            refine wpAnyH_take (i := 8) (oi := { dst := some 139, op := Op.fieldAddr 28 (Operand.tmp 13) 0, type := 0, pos := "keeps.go:42", after := #[{ on := 4, ground := Ground.guard }], guard := some (4, false) }) (v := ?v1194) rfl (by kernel_rfl) (by kernel_rfl) (by kernel_rfl) (fun _ _ _ h => h) (Or.inl ⟨by rfl, ?hy1194⟩) (by assumption) ?rest1194
            case hy1194 => (intro w1 hSw; (try dsimp only at hSw); obtain ⟨h0, h1, -⟩ := hSw; go_simp; try with_reducible rfl)
            try simp only [Act.put, List.setIfInBounds_toArray, List.set_cons_zero, List.set_cons_succ]
            refine wpAnyH_take (i := 9) (oi := { dst := some 140, op := Op.load 4 (Operand.tmp 139), type := 4, pos := "keeps.go:42", after := #[{ on := 8, ground := Ground.data }, { on := 4, ground := Ground.guard }], guard := some (4, false) }) (v := ?v1195) rfl (by kernel_rfl) (by kernel_rfl) (by kernel_rfl) (fun _ _ _ h => h) (Or.inl ⟨by rfl, ?hy1195⟩) (by assumption) ?rest1195
            case hy1195 => (intro w1 hSw; (try dsimp only at hSw); obtain ⟨h0, h1, -⟩ := hSw; go_simp; try with_reducible rfl)
            try simp only [Act.put, List.setIfInBounds_toArray, List.set_cons_zero, List.set_cons_succ]
            refine wpAnyH_ready (rs := [6]) (by kernel_rfl) (by simp) ?_
            refine AllReadyH.cons (o := { dst := some 137, op := Op.call { callee := Callee.value (Operand.func 22), args := #[Operand.tmp 136, Operand.const (Value.int IntKind.i64 3)], argTypes := #[24, 3] }, type := 28, pos := "keeps.go:42", after := #[{ on := 5, ground := Ground.data }, { on := 4, ground := Ground.chain }, { on := 4, ground := Ground.guard }], guard := some (4, false) }) rfl (fun K hK => ?_) AllReadyH.nil
            go_simp
            refine (lean_is (sa := true) (sl := []) q1191 ⟨by decide, by decide⟩ (lean_all HV.out)).mono ?_
            rintro e w1200 ⟨a1198, c1199, rfl, -, hb1201⟩
            have q1202 := q1191.later hb1201
            have q1203 := q1192.later hb1201
            have q1204 := q1193.later hb1201
            have q1205 := q1194.later hb1201
            have q1206 := q1195.later hb1201
            have q1207 := q1196.later hb1201
            have q1208 := q1197.later hb1201
            refine hK.out _ _ (⟨q1206.cell 0, q1206.cell 1, trivial⟩) (fun hHeld => ?_)
            clear hK K
            try simp only [Act.put, List.setIfInBounds_toArray, List.set_cons_zero, List.set_cons_succ]
            refine wpAnyH_take (i := 7) (oi := { dst := some 138, op := Op.field 28 (Operand.tmp 137) 0, type := 4, pos := "keeps.go:42", after := #[{ on := 6, ground := Ground.data }, { on := 4, ground := Ground.guard }], guard := some (4, false) }) (v := (Value.bool true)) rfl (by kernel_rfl) (by kernel_rfl) (by kernel_rfl) (fun _ _ _ h => h) (Or.inl ⟨by rfl, ?hy1196⟩) (by assumption) ?rest1196
            case hy1196 => (intro w1 hSw; (try dsimp only at hSw); obtain ⟨h0, h1, -⟩ := hSw; go_simp; first | rfl | kernel_rfl)
            try simp only [Act.put, List.setIfInBounds_toArray, List.set_cons_zero, List.set_cons_succ]
            refine wpAnyH_take (i := 10) (oi := { dst := some 141, op := Op.binOp BinOp.neq 4 (Operand.tmp 138) (Operand.tmp 140) 4, type := 4, pos := "keeps.go:42", after := #[{ on := 7, ground := Ground.data }, { on := 9, ground := Ground.data }, { on := 4, ground := Ground.guard }], guard := some (4, false) }) (v := ?v1197) rfl (by kernel_rfl) (by kernel_rfl) (by kernel_rfl) (fun _ _ _ h => h) (Or.inl ⟨by rfl, ?hy1197⟩) (by assumption) ?rest1197
            case hy1197 => (intro w1 hSw; (try dsimp only at hSw); obtain ⟨h0, h1, -⟩ := hSw; go_simp; try with_reducible rfl)
            try simp only [Act.put, List.setIfInBounds_toArray, List.set_cons_zero, List.set_cons_succ]
            refine wpAnyH_take (i := 11) (oi := { dst := some 142, op := Op.pick (Operand.tmp 135) (Operand.const (Value.bool true)) (Operand.tmp 141), type := 4, pos := "keeps.go:42", after := #[{ on := 4, ground := Ground.data }, { on := 10, ground := Ground.data }], guard := none }) (v := ?v1198) rfl (by kernel_rfl) (by kernel_rfl) (by kernel_rfl) (fun _ _ _ h => h) (Or.inl ⟨by rfl, ?hy1198⟩) (by assumption) ?rest1198
            case hy1198 => (intro w1 hSw; (try dsimp only at hSw); obtain ⟨h0, h1, -⟩ := hSw; go_simp; try with_reducible rfl)
            try simp only [Act.put, List.setIfInBounds_toArray, List.set_cons_zero, List.set_cons_succ]
            refine wpAnyH_take (i := 12) (oi := { dst := some 143, op := Op.move (Operand.tmp 142), type := 4, pos := "keeps.go:42", after := #[{ on := 11, ground := Ground.data }, { on := 6, ground := Ground.chain }], guard := none }) (v := ?v1199) rfl (by kernel_rfl) (by kernel_rfl) (by kernel_rfl) (fun _ _ _ h => h) (Or.inl ⟨by rfl, ?hy1199⟩) (by assumption) ?rest1199
            case hy1199 => (intro w1 hSw; (try dsimp only at hSw); obtain ⟨h0, h1, -⟩ := hSw; go_simp; try with_reducible rfl)
            try simp only [Act.put, List.setIfInBounds_toArray, List.set_cons_zero, List.set_cons_succ]
            refine wpAnyH_take (i := 13) (oi := { dst := some 144, op := Op.move (Operand.tmp 4), type := 24, pos := "keeps.go:42", after := #[{ on := 12, ground := Ground.guard }], guard := some (12, false) }) (v := ?v1200) rfl (by kernel_rfl) (by kernel_rfl) (by kernel_rfl) (fun _ _ _ h => h) (Or.inl ⟨by rfl, ?hy1200⟩) (by assumption) ?rest1200
            case hy1200 => (intro w1 hSw; (try dsimp only at hSw); obtain ⟨h0, h1, -⟩ := hSw; go_simp; try with_reducible rfl)
            try simp only [Act.put, List.setIfInBounds_toArray, List.set_cons_zero, List.set_cons_succ]
            refine wpAnyH_ready (rs := [14]) (by kernel_rfl) (by simp) ?_
            refine AllReadyH.cons (o := { dst := some 145, op := Op.call { callee := Callee.value (Operand.func 22), args := #[Operand.tmp 144, Operand.const (Value.int IntKind.i64 3)], argTypes := #[24, 3] }, type := 28, pos := "keeps.go:42", after := #[{ on := 13, ground := Ground.data }, { on := 12, ground := Ground.chain }, { on := 12, ground := Ground.guard }], guard := some (12, false) }) rfl (fun K hK => ?_) AllReadyH.nil
            go_simp
            refine (lean_is (sa := true) (sl := []) q1202 ⟨by decide, by decide⟩ (lean_all HV.out)).mono ?_
            rintro e w1211 ⟨a1209, c1210, rfl, -, hb1212⟩
            have q1213 := q1202.later hb1212
            have q1214 := q1203.later hb1212
            have q1215 := q1204.later hb1212
            have q1216 := q1205.later hb1212
            have q1217 := q1206.later hb1212
            have q1218 := q1207.later hb1212
            have q1219 := q1208.later hb1212
            refine hK.out _ _ (⟨q1217.cell 0, q1217.cell 1, trivial⟩) (fun hHeld => ?_)
            clear hK K
            try simp only [Act.put, List.setIfInBounds_toArray, List.set_cons_zero, List.set_cons_succ]
            refine wpAnyH_take (i := 15) (oi := { dst := some 146, op := Op.field 28 (Operand.tmp 145) 0, type := 4, pos := "keeps.go:42", after := #[{ on := 14, ground := Ground.data }, { on := 12, ground := Ground.guard }], guard := some (12, false) }) (v := (Value.bool true)) rfl (by kernel_rfl) (by kernel_rfl) (by kernel_rfl) (fun _ _ _ h => h) (Or.inl ⟨by rfl, ?hy1201⟩) (by assumption) ?rest1201
            case hy1201 => (intro w1 hSw; (try dsimp only at hSw); obtain ⟨h0, h1, -⟩ := hSw; go_simp; first | rfl | kernel_rfl)
            try simp only [Act.put, List.setIfInBounds_toArray, List.set_cons_zero, List.set_cons_succ]
            refine wpAnyH_take (i := 16) (oi := { dst := some 147, op := Op.unOp UnOp.not 4 (Operand.tmp 146), type := 4, pos := "keeps.go:42", after := #[{ on := 15, ground := Ground.data }, { on := 12, ground := Ground.guard }], guard := some (12, false) }) (v := ?v1202) rfl (by kernel_rfl) (by kernel_rfl) (by kernel_rfl) (fun _ _ _ h => h) (Or.inl ⟨by rfl, ?hy1202⟩) (by assumption) ?rest1202
            case hy1202 => (intro w1 hSw; (try dsimp only at hSw); obtain ⟨h0, h1, -⟩ := hSw; go_simp; try with_reducible rfl)
            try simp only [Act.put, List.setIfInBounds_toArray, List.set_cons_zero, List.set_cons_succ]
            refine wpAnyH_take (i := 17) (oi := { dst := some 148, op := Op.move (Operand.tmp 147), type := 4, pos := "keeps.go:42", after := #[{ on := 16, ground := Ground.data }, { on := 14, ground := Ground.chain }, { on := 12, ground := Ground.guard }], guard := some (12, false) }) (v := ?v1203) rfl (by kernel_rfl) (by kernel_rfl) (by kernel_rfl) (fun _ _ _ h => h) (Or.inl ⟨by rfl, ?hy1203⟩) (by assumption) ?rest1203
            case hy1203 => (intro w1 hSw; (try dsimp only at hSw); obtain ⟨h0, h1, -⟩ := hSw; go_simp; try with_reducible rfl)
            try simp only [Act.put, List.setIfInBounds_toArray, List.set_cons_zero, List.set_cons_succ]
            refine wpAnyH_take (i := 18) (oi := { dst := some 149, op := Op.move (Operand.tmp 4), type := 24, pos := "keeps.go:42", after := #[{ on := 17, ground := Ground.guard }], guard := some (17, true) }) (v := undef) rfl (by kernel_rfl) (by kernel_rfl) (by kernel_rfl) (fun _ _ _ h => h) (Or.inr ⟨by rfl, rfl⟩) (by assumption) ?_
            try simp only [Act.put, List.setIfInBounds_toArray, List.set_cons_zero, List.set_cons_succ]
            refine wpAnyH_take (i := 19) (oi := { dst := some 150, op := Op.call { callee := Callee.value (Operand.func 22), args := #[Operand.tmp 149, Operand.const (Value.int IntKind.i64 3)], argTypes := #[24, 3] }, type := 28, pos := "keeps.go:42", after := #[{ on := 18, ground := Ground.data }, { on := 17, ground := Ground.chain }, { on := 17, ground := Ground.guard }], guard := some (17, true) }) (v := undef) rfl (by kernel_rfl) (by kernel_rfl) (by kernel_rfl) (fun _ _ _ h => h) (Or.inr ⟨by rfl, rfl⟩) (by assumption) ?_
            try simp only [Act.put, List.setIfInBounds_toArray, List.set_cons_zero, List.set_cons_succ]
            refine wpAnyH_take (i := 20) (oi := { dst := some 151, op := Op.load 28 (Operand.tmp 13), type := 28, pos := "keeps.go:42", after := #[{ on := 17, ground := Ground.guard }], guard := some (17, true) }) (v := undef) rfl (by kernel_rfl) (by kernel_rfl) (by kernel_rfl) (fun _ _ _ h => h) (Or.inr ⟨by rfl, rfl⟩) (by assumption) ?_
            try simp only [Act.put, List.setIfInBounds_toArray, List.set_cons_zero, List.set_cons_succ]
            refine wpAnyH_take (i := 21) (oi := { dst := some 152, op := Op.call { callee := Callee.value (Operand.func 15), args := #[Operand.tmp 150, Operand.tmp 151], argTypes := #[28, 28] }, type := 4, pos := "keeps.go:42", after := #[{ on := 19, ground := Ground.data }, { on := 20, ground := Ground.data }, { on := 19, ground := Ground.chain }, { on := 17, ground := Ground.guard }], guard := some (17, true) }) (v := undef) rfl (by kernel_rfl) (by kernel_rfl) (by kernel_rfl) (fun _ _ _ h => h) (Or.inr ⟨by rfl, rfl⟩) (by assumption) ?_
            try simp only [Act.put, List.setIfInBounds_toArray, List.set_cons_zero, List.set_cons_succ]
            refine wpAnyH_take (i := 22) (oi := { dst := some 153, op := Op.unOp UnOp.not 4 (Operand.tmp 152), type := 4, pos := "keeps.go:42", after := #[{ on := 21, ground := Ground.data }, { on := 17, ground := Ground.guard }], guard := some (17, true) }) (v := undef) rfl (by kernel_rfl) (by kernel_rfl) (by kernel_rfl) (fun _ _ _ h => h) (Or.inr ⟨by rfl, rfl⟩) (by assumption) ?_
            try simp only [Act.put, List.setIfInBounds_toArray, List.set_cons_zero, List.set_cons_succ]
            refine wpAnyH_take (i := 23) (oi := { dst := some 154, op := Op.pick (Operand.tmp 148) (Operand.tmp 153) (Operand.const (Value.bool false)), type := 4, pos := "keeps.go:42", after := #[{ on := 17, ground := Ground.data }, { on := 22, ground := Ground.data }, { on := 12, ground := Ground.guard }], guard := some (12, false) }) (v := ?v1209) rfl (by kernel_rfl) (by kernel_rfl) (by kernel_rfl) (fun _ _ _ h => h) (Or.inl ⟨by rfl, ?hy1209⟩) (by assumption) ?rest1209
            case hy1209 => (intro w1 hSw; (try dsimp only at hSw); obtain ⟨h0, h1, -⟩ := hSw; go_simp; try with_reducible rfl)
            try simp only [Act.put, List.setIfInBounds_toArray, List.set_cons_zero, List.set_cons_succ]
            refine wpAnyH_take (i := 24) (oi := { dst := some 155, op := Op.pick (Operand.tmp 143) (Operand.const (Value.bool true)) (Operand.tmp 154), type := 4, pos := "keeps.go:42", after := #[{ on := 12, ground := Ground.data }, { on := 23, ground := Ground.data }], guard := none }) (v := ?v1210) rfl (by kernel_rfl) (by kernel_rfl) (by kernel_rfl) (fun _ _ _ h => h) (Or.inl ⟨by rfl, ?hy1210⟩) (by assumption) ?rest1210
            case hy1210 => (intro w1 hSw; (try dsimp only at hSw); obtain ⟨h0, h1, -⟩ := hSw; go_simp; try with_reducible rfl)
            try simp only [Act.put, List.setIfInBounds_toArray, List.set_cons_zero, List.set_cons_succ]
            refine wpAnyH_done (by kernel_rfl) ?_ _
            go_wp2_with fail
            go_roundw
            case rel => exact ⟨i + 1, V2, ov, dv, f2, by go_num, by omega, by omega, ⟨HUW.out, q1213, q1214, by rw [HV.out]; exact q1216, by rw [HV.out]; exact q1218, q1215⟩⟩
            case measure => simp [intOf]; omega
          | false =>
            obtain ⟨w1220, hw1221, hb1222⟩ := drew_new wr
            have q1223 := HM.out.later hb1222
            have q1224 := HK.out.later hb1222
            have q1225 := HWA.out.later hb1222
            have q1226 := HQ5.out.later hb1222
            have q1227 := HQg.out.later hb1222
            have q1228 := HTv.out.later hb1222
            have q1229 := HTg.out.later hb1222
            refine wp_region_held_drew (S := (fun w' => w'.cell? ⟨Rg, 0, none⟩ = some (.bool false) ∧ w'.cell? ⟨Rg, 1, none⟩ = some (.slice og vl.length dg) ∧ True)) (by kernel_rfl) (by rw [hw1221]; exact ⟨q1227.cell 0, q1227.cell 1, trivial⟩) (fun hHeld => ?_)
            rw [hw1221] at hHeld ⊢
            refine wpAnyH_take (i := 0) (oi := { dst := some 131, op := Op.move (Operand.tmp 15), type := 46, pos := "keeps.go:42", after := #[], guard := none }) (v := ?v1220) rfl (by kernel_rfl) (by kernel_rfl) (by kernel_rfl) (fun _ _ _ h => h) (Or.inl ⟨by rfl, ?hy1220⟩) (by assumption) ?rest1220
            case hy1220 => (intro w1 hSw; (try dsimp only at hSw); obtain ⟨h0, h1, -⟩ := hSw; go_simp; try with_reducible rfl)
            try simp only [Act.put, List.setIfInBounds_toArray, List.set_cons_zero, List.set_cons_succ]
            refine wpAnyH_take (i := 1) (oi := { dst := some 132, op := Op.call { callee := Callee.builtin Builtin.len, args := #[Operand.tmp 131], argTypes := #[46] }, type := 3, pos := "keeps.go:42", after := #[{ on := 0, ground := Ground.data }], guard := none }) (v := ?v1221) rfl (by kernel_rfl) (by kernel_rfl) (by kernel_rfl) (fun _ _ _ h => h) (Or.inl ⟨by rfl, ?hy1221⟩) (by assumption) ?rest1221
            case hy1221 => (intro w1 hSw; (try dsimp only at hSw); obtain ⟨h0, h1, -⟩ := hSw; go_simp; try with_reducible rfl)
            try simp only [Act.put, List.setIfInBounds_toArray, List.set_cons_zero, List.set_cons_succ]
            refine wpAnyH_take (i := 2) (oi := { dst := some 133, op := Op.move (Operand.tmp 16), type := 3, pos := "keeps.go:42", after := #[], guard := none }) (v := ?v1222) rfl (by kernel_rfl) (by kernel_rfl) (by kernel_rfl) (fun _ _ _ h => h) (Or.inl ⟨by rfl, ?hy1222⟩) (by assumption) ?rest1222
            case hy1222 => (intro w1 hSw; (try dsimp only at hSw); obtain ⟨h0, h1, -⟩ := hSw; go_simp; try with_reducible rfl)
            try simp only [Act.put, List.setIfInBounds_toArray, List.set_cons_zero, List.set_cons_succ]
            refine wpAnyH_take (i := 3) (oi := { dst := some 134, op := Op.binOp BinOp.neq 3 (Operand.tmp 132) (Operand.tmp 133) 3, type := 4, pos := "keeps.go:42", after := #[{ on := 1, ground := Ground.data }, { on := 2, ground := Ground.data }], guard := none }) (v := ?v1223) rfl (by kernel_rfl) (by kernel_rfl) (by kernel_rfl) (fun _ _ _ h => h) (Or.inl ⟨by rfl, ?hy1223⟩) (by assumption) ?rest1223
            case hy1223 => (intro w1 hSw; (try dsimp only at hSw); obtain ⟨h0, h1, -⟩ := hSw; go_simp; try with_reducible rfl)
            try simp only [Act.put, List.setIfInBounds_toArray, List.set_cons_zero, List.set_cons_succ]
            refine wpAnyH_take (i := 4) (oi := { dst := some 135, op := Op.move (Operand.tmp 134), type := 4, pos := "keeps.go:42", after := #[{ on := 3, ground := Ground.data }], guard := none }) (v := ?v1224) rfl (by kernel_rfl) (by kernel_rfl) (by kernel_rfl) (fun _ _ _ h => h) (Or.inl ⟨by rfl, ?hy1224⟩) (by assumption) ?rest1224
            case hy1224 => (intro w1 hSw; (try dsimp only at hSw); obtain ⟨h0, h1, -⟩ := hSw; go_simp; try with_reducible rfl)
            try simp only [Act.put, List.setIfInBounds_toArray, List.set_cons_zero, List.set_cons_succ]
            refine wpAnyH_take (i := 5) (oi := { dst := some 136, op := Op.move (Operand.tmp 4), type := 24, pos := "keeps.go:42", after := #[{ on := 4, ground := Ground.guard }], guard := some (4, false) }) (v := ?v1225) rfl (by kernel_rfl) (by kernel_rfl) (by kernel_rfl) (fun _ _ _ h => h) (Or.inl ⟨by rfl, ?hy1225⟩) (by assumption) ?rest1225
            case hy1225 => (intro w1 hSw; (try dsimp only at hSw); obtain ⟨h0, h1, -⟩ := hSw; go_simp; try with_reducible rfl)
            try simp only [Act.put, List.setIfInBounds_toArray, List.set_cons_zero, List.set_cons_succ]
            refine wpAnyH_take (i := 8) (oi := { dst := some 139, op := Op.fieldAddr 28 (Operand.tmp 13) 0, type := 0, pos := "keeps.go:42", after := #[{ on := 4, ground := Ground.guard }], guard := some (4, false) }) (v := ?v1226) rfl (by kernel_rfl) (by kernel_rfl) (by kernel_rfl) (fun _ _ _ h => h) (Or.inl ⟨by rfl, ?hy1226⟩) (by assumption) ?rest1226
            case hy1226 => (intro w1 hSw; (try dsimp only at hSw); obtain ⟨h0, h1, -⟩ := hSw; go_simp; try with_reducible rfl)
            try simp only [Act.put, List.setIfInBounds_toArray, List.set_cons_zero, List.set_cons_succ]
            refine wpAnyH_take (i := 9) (oi := { dst := some 140, op := Op.load 4 (Operand.tmp 139), type := 4, pos := "keeps.go:42", after := #[{ on := 8, ground := Ground.data }, { on := 4, ground := Ground.guard }], guard := some (4, false) }) (v := ?v1227) rfl (by kernel_rfl) (by kernel_rfl) (by kernel_rfl) (fun _ _ _ h => h) (Or.inl ⟨by rfl, ?hy1227⟩) (by assumption) ?rest1227
            case hy1227 => (intro w1 hSw; (try dsimp only at hSw); obtain ⟨h0, h1, -⟩ := hSw; go_simp; try with_reducible rfl)
            try simp only [Act.put, List.setIfInBounds_toArray, List.set_cons_zero, List.set_cons_succ]
            refine wpAnyH_ready (rs := [6]) (by kernel_rfl) (by simp) ?_
            refine AllReadyH.cons (o := { dst := some 137, op := Op.call { callee := Callee.value (Operand.func 22), args := #[Operand.tmp 136, Operand.const (Value.int IntKind.i64 3)], argTypes := #[24, 3] }, type := 28, pos := "keeps.go:42", after := #[{ on := 5, ground := Ground.data }, { on := 4, ground := Ground.chain }, { on := 4, ground := Ground.guard }], guard := some (4, false) }) rfl (fun K hK => ?_) AllReadyH.nil
            go_simp
            refine (lean_is (sa := false) (sl := vl) q1223 ⟨by decide, by decide⟩ (lean_no HV.out)).mono ?_
            rintro e w1233 ⟨a1230, c1231, rfl, h1232, hb1234⟩
            have q1235 := q1223.later hb1234
            have q1236 := q1224.later hb1234
            have q1237 := q1225.later hb1234
            have q1238 := q1226.later hb1234
            have q1239 := q1227.later hb1234
            have q1240 := q1228.later hb1234
            have q1241 := q1229.later hb1234
            refine hK.out _ _ (⟨q1239.cell 0, q1239.cell 1, trivial⟩) (fun hHeld => ?_)
            clear hK K
            try simp only [Act.put, List.setIfInBounds_toArray, List.set_cons_zero, List.set_cons_succ]
            refine wpAnyH_take (i := 7) (oi := { dst := some 138, op := Op.field 28 (Operand.tmp 137) 0, type := 4, pos := "keeps.go:42", after := #[{ on := 6, ground := Ground.data }, { on := 4, ground := Ground.guard }], guard := some (4, false) }) (v := (Value.bool false)) rfl (by kernel_rfl) (by kernel_rfl) (by kernel_rfl) (fun _ _ _ h => h) (Or.inl ⟨by rfl, ?hy1228⟩) (by assumption) ?rest1228
            case hy1228 => (intro w1 hSw; (try dsimp only at hSw); obtain ⟨h0, h1, -⟩ := hSw; go_simp; first | rfl | kernel_rfl)
            try simp only [Act.put, List.setIfInBounds_toArray, List.set_cons_zero, List.set_cons_succ]
            refine wpAnyH_take (i := 10) (oi := { dst := some 141, op := Op.binOp BinOp.neq 4 (Operand.tmp 138) (Operand.tmp 140) 4, type := 4, pos := "keeps.go:42", after := #[{ on := 7, ground := Ground.data }, { on := 9, ground := Ground.data }, { on := 4, ground := Ground.guard }], guard := some (4, false) }) (v := ?v1229) rfl (by kernel_rfl) (by kernel_rfl) (by kernel_rfl) (fun _ _ _ h => h) (Or.inl ⟨by rfl, ?hy1229⟩) (by assumption) ?rest1229
            case hy1229 => (intro w1 hSw; (try dsimp only at hSw); obtain ⟨h0, h1, -⟩ := hSw; go_simp; try with_reducible rfl)
            try simp only [Act.put, List.setIfInBounds_toArray, List.set_cons_zero, List.set_cons_succ]
            refine wpAnyH_take (i := 11) (oi := { dst := some 142, op := Op.pick (Operand.tmp 135) (Operand.const (Value.bool true)) (Operand.tmp 141), type := 4, pos := "keeps.go:42", after := #[{ on := 4, ground := Ground.data }, { on := 10, ground := Ground.data }], guard := none }) (v := ?v1230) rfl (by kernel_rfl) (by kernel_rfl) (by kernel_rfl) (fun _ _ _ h => h) (Or.inl ⟨by rfl, ?hy1230⟩) (by assumption) ?rest1230
            case hy1230 => (intro w1 hSw; (try dsimp only at hSw); obtain ⟨h0, h1, -⟩ := hSw; go_simp; try with_reducible rfl)
            try simp only [Act.put, List.setIfInBounds_toArray, List.set_cons_zero, List.set_cons_succ]
            refine wpAnyH_take (i := 12) (oi := { dst := some 143, op := Op.move (Operand.tmp 142), type := 4, pos := "keeps.go:42", after := #[{ on := 11, ground := Ground.data }, { on := 6, ground := Ground.chain }], guard := none }) (v := ?v1231) rfl (by kernel_rfl) (by kernel_rfl) (by kernel_rfl) (fun _ _ _ h => h) (Or.inl ⟨by rfl, ?hy1231⟩) (by assumption) ?rest1231
            case hy1231 => (intro w1 hSw; (try dsimp only at hSw); obtain ⟨h0, h1, -⟩ := hSw; go_simp; try with_reducible rfl)
            try simp only [Act.put, List.setIfInBounds_toArray, List.set_cons_zero, List.set_cons_succ]
            refine wpAnyH_take (i := 13) (oi := { dst := some 144, op := Op.move (Operand.tmp 4), type := 24, pos := "keeps.go:42", after := #[{ on := 12, ground := Ground.guard }], guard := some (12, false) }) (v := ?v1232) rfl (by kernel_rfl) (by kernel_rfl) (by kernel_rfl) (fun _ _ _ h => h) (Or.inl ⟨by rfl, ?hy1232⟩) (by assumption) ?rest1232
            case hy1232 => (intro w1 hSw; (try dsimp only at hSw); obtain ⟨h0, h1, -⟩ := hSw; go_simp; try with_reducible rfl)
            try simp only [Act.put, List.setIfInBounds_toArray, List.set_cons_zero, List.set_cons_succ]
            refine wpAnyH_ready (rs := [14]) (by kernel_rfl) (by simp) ?_
            refine AllReadyH.cons (o := { dst := some 145, op := Op.call { callee := Callee.value (Operand.func 22), args := #[Operand.tmp 144, Operand.const (Value.int IntKind.i64 3)], argTypes := #[24, 3] }, type := 28, pos := "keeps.go:42", after := #[{ on := 13, ground := Ground.data }, { on := 12, ground := Ground.chain }, { on := 12, ground := Ground.guard }], guard := some (12, false) }) rfl (fun K hK => ?_) AllReadyH.nil
            go_simp
            refine (lean_is (sa := false) (sl := vl) q1235 ⟨by decide, by decide⟩ (lean_no HV.out)).mono ?_
            rintro e w1245 ⟨a1242, c1243, rfl, h1244, hb1246⟩
            have q1247 := q1235.later hb1246
            have q1248 := q1236.later hb1246
            have q1249 := q1237.later hb1246
            have q1250 := q1238.later hb1246
            have q1251 := q1239.later hb1246
            have q1252 := q1240.later hb1246
            have q1253 := q1241.later hb1246
            have q1254 := h1232.later hb1246
            refine hK.out _ _ (⟨q1251.cell 0, q1251.cell 1, trivial⟩) (fun hHeld => ?_)
            clear hK K
            try simp only [Act.put, List.setIfInBounds_toArray, List.set_cons_zero, List.set_cons_succ]
            refine wpAnyH_take (i := 15) (oi := { dst := some 146, op := Op.field 28 (Operand.tmp 145) 0, type := 4, pos := "keeps.go:42", after := #[{ on := 14, ground := Ground.data }, { on := 12, ground := Ground.guard }], guard := some (12, false) }) (v := (Value.bool false)) rfl (by kernel_rfl) (by kernel_rfl) (by kernel_rfl) (fun _ _ _ h => h) (Or.inl ⟨by rfl, ?hy1233⟩) (by assumption) ?rest1233
            case hy1233 => (intro w1 hSw; (try dsimp only at hSw); obtain ⟨h0, h1, -⟩ := hSw; go_simp; first | rfl | kernel_rfl)
            try simp only [Act.put, List.setIfInBounds_toArray, List.set_cons_zero, List.set_cons_succ]
            refine wpAnyH_take (i := 16) (oi := { dst := some 147, op := Op.unOp UnOp.not 4 (Operand.tmp 146), type := 4, pos := "keeps.go:42", after := #[{ on := 15, ground := Ground.data }, { on := 12, ground := Ground.guard }], guard := some (12, false) }) (v := ?v1234) rfl (by kernel_rfl) (by kernel_rfl) (by kernel_rfl) (fun _ _ _ h => h) (Or.inl ⟨by rfl, ?hy1234⟩) (by assumption) ?rest1234
            case hy1234 => (intro w1 hSw; (try dsimp only at hSw); obtain ⟨h0, h1, -⟩ := hSw; go_simp; try with_reducible rfl)
            try simp only [Act.put, List.setIfInBounds_toArray, List.set_cons_zero, List.set_cons_succ]
            refine wpAnyH_take (i := 17) (oi := { dst := some 148, op := Op.move (Operand.tmp 147), type := 4, pos := "keeps.go:42", after := #[{ on := 16, ground := Ground.data }, { on := 14, ground := Ground.chain }, { on := 12, ground := Ground.guard }], guard := some (12, false) }) (v := ?v1235) rfl (by kernel_rfl) (by kernel_rfl) (by kernel_rfl) (fun _ _ _ h => h) (Or.inl ⟨by rfl, ?hy1235⟩) (by assumption) ?rest1235
            case hy1235 => (intro w1 hSw; (try dsimp only at hSw); obtain ⟨h0, h1, -⟩ := hSw; go_simp; try with_reducible rfl)
            try simp only [Act.put, List.setIfInBounds_toArray, List.set_cons_zero, List.set_cons_succ]
            refine wpAnyH_take (i := 18) (oi := { dst := some 149, op := Op.move (Operand.tmp 4), type := 24, pos := "keeps.go:42", after := #[{ on := 17, ground := Ground.guard }], guard := some (17, true) }) (v := ?v1236) rfl (by kernel_rfl) (by kernel_rfl) (by kernel_rfl) (fun _ _ _ h => h) (Or.inl ⟨by rfl, ?hy1236⟩) (by assumption) ?rest1236
            case hy1236 => (intro w1 hSw; (try dsimp only at hSw); obtain ⟨h0, h1, -⟩ := hSw; go_simp; try with_reducible rfl)
            try simp only [Act.put, List.setIfInBounds_toArray, List.set_cons_zero, List.set_cons_succ]
            refine wpAnyH_take (i := 20) (oi := { dst := some 151, op := Op.load 28 (Operand.tmp 13), type := 28, pos := "keeps.go:42", after := #[{ on := 17, ground := Ground.guard }], guard := some (17, true) }) (v := ?v1237) rfl (by kernel_rfl) (by kernel_rfl) (by kernel_rfl) (fun _ _ _ h => h) (Or.inl ⟨by rfl, ?hy1237⟩) (by assumption) ?rest1237
            case hy1237 => (intro w1 hSw; (try dsimp only at hSw); obtain ⟨h0, h1, -⟩ := hSw; go_simp; try with_reducible rfl)
            try simp only [Act.put, List.setIfInBounds_toArray, List.set_cons_zero, List.set_cons_succ]
            refine wpAnyH_ready (rs := [19]) (by kernel_rfl) (by simp) ?_
            refine AllReadyH.cons (o := { dst := some 150, op := Op.call { callee := Callee.value (Operand.func 22), args := #[Operand.tmp 149, Operand.const (Value.int IntKind.i64 3)], argTypes := #[24, 3] }, type := 28, pos := "keeps.go:42", after := #[{ on := 18, ground := Ground.data }, { on := 17, ground := Ground.chain }, { on := 17, ground := Ground.guard }], guard := some (17, true) }) rfl (fun K hK => ?_) AllReadyH.nil
            go_simp
            refine (lean_is (sa := false) (sl := vl) q1247 ⟨by decide, by decide⟩ (lean_no HV.out)).mono ?_
            rintro e w1258 ⟨a1255, c1256, rfl, h1257, hb1259⟩
            have q1260 := q1247.later hb1259
            have q1261 := q1248.later hb1259
            have q1262 := q1249.later hb1259
            have q1263 := q1250.later hb1259
            have q1264 := q1251.later hb1259
            have q1265 := q1252.later hb1259
            have q1266 := q1253.later hb1259
            have q1267 := h1244.later hb1259
            refine hK.out _ _ (⟨q1264.cell 0, q1264.cell 1, trivial⟩) (fun hHeld => ?_)
            clear hK K
            try simp only [Act.put, List.setIfInBounds_toArray, List.set_cons_zero, List.set_cons_succ]
            refine wpAnyH_ready (rs := [21]) (by kernel_rfl) (by simp) ?_
            refine AllReadyH.cons (o := { dst := some 152, op := Op.call { callee := Callee.value (Operand.func 15), args := #[Operand.tmp 150, Operand.tmp 151], argTypes := #[28, 28] }, type := 4, pos := "keeps.go:42", after := #[{ on := 19, ground := Ground.data }, { on := 20, ground := Ground.data }, { on := 19, ground := Ground.chain }, { on := 17, ground := Ground.guard }], guard := some (17, true) }) rfl (fun K hK => ?_) AllReadyH.nil
            go_simp
            refine (same_any (al := vl) (bl := vl) h1257 q1266 HV2.out.fit HV2.out.fit HV2.out.same).mono ?_
            rintro e w1268 ⟨rfl, hb1269⟩
            have q1270 := q1260.later hb1269
            have q1271 := q1261.later hb1269
            have q1272 := q1262.later hb1269
            have q1273 := q1263.later hb1269
            have q1274 := q1264.later hb1269
            have q1275 := q1265.later hb1269
            have q1276 := q1266.later hb1269
            have q1277 := h1257.later hb1269
            refine hK.out _ _ (⟨q1274.cell 0, q1274.cell 1, trivial⟩) (fun hHeld => ?_)
            clear hK K
            try simp only [Act.put, List.setIfInBounds_toArray, List.set_cons_zero, List.set_cons_succ]
            refine wpAnyH_take (i := 22) (oi := { dst := some 153, op := Op.unOp UnOp.not 4 (Operand.tmp 152), type := 4, pos := "keeps.go:42", after := #[{ on := 21, ground := Ground.data }, { on := 17, ground := Ground.guard }], guard := some (17, true) }) (v := ?v1238) rfl (by kernel_rfl) (by kernel_rfl) (by kernel_rfl) (fun _ _ _ h => h) (Or.inl ⟨by rfl, ?hy1238⟩) (by assumption) ?rest1238
            case hy1238 => (intro w1 hSw; (try dsimp only at hSw); obtain ⟨h0, h1, -⟩ := hSw; go_simp; try with_reducible rfl)
            try simp only [Act.put, List.setIfInBounds_toArray, List.set_cons_zero, List.set_cons_succ]
            refine wpAnyH_take (i := 23) (oi := { dst := some 154, op := Op.pick (Operand.tmp 148) (Operand.tmp 153) (Operand.const (Value.bool false)), type := 4, pos := "keeps.go:42", after := #[{ on := 17, ground := Ground.data }, { on := 22, ground := Ground.data }, { on := 12, ground := Ground.guard }], guard := some (12, false) }) (v := ?v1239) rfl (by kernel_rfl) (by kernel_rfl) (by kernel_rfl) (fun _ _ _ h => h) (Or.inl ⟨by rfl, ?hy1239⟩) (by assumption) ?rest1239
            case hy1239 => (intro w1 hSw; (try dsimp only at hSw); obtain ⟨h0, h1, -⟩ := hSw; go_simp; try with_reducible rfl)
            try simp only [Act.put, List.setIfInBounds_toArray, List.set_cons_zero, List.set_cons_succ]
            refine wpAnyH_take (i := 24) (oi := { dst := some 155, op := Op.pick (Operand.tmp 143) (Operand.const (Value.bool true)) (Operand.tmp 154), type := 4, pos := "keeps.go:42", after := #[{ on := 12, ground := Ground.data }, { on := 23, ground := Ground.data }], guard := none }) (v := ?v1240) rfl (by kernel_rfl) (by kernel_rfl) (by kernel_rfl) (fun _ _ _ h => h) (Or.inl ⟨by rfl, ?hy1240⟩) (by assumption) ?rest1240
            case hy1240 => (intro w1 hSw; (try dsimp only at hSw); obtain ⟨h0, h1, -⟩ := hSw; go_simp; try with_reducible rfl)
            try simp only [Act.put, List.setIfInBounds_toArray, List.set_cons_zero, List.set_cons_succ]
            refine wpAnyH_done (by kernel_rfl) ?_ _
            go_wp2_with fail
            go_roundw
            case rel => exact ⟨i + 1, V2, ov, dv, f2, by go_num, by omega, by omega, ⟨HUW.out, q1270, q1271, by rw [HV.out]; exact q1273, by rw [HV.out]; exact q1275, q1272⟩⟩
            case measure => simp [intOf]; omega
    · have hend : Below W.heap.size W wr := HB.out.trans ((HI.out.k.below (Nat.le_refl _)).mono HB.out.size)
      by_cases hl1 : i < l0
      · have b1 : (i : Int) < (l0 : Int) := by omega
        have b2 : ¬ (i : Int) < 30 := by omega
        clear hlt hl1
        go_wp2_with fail
        go_ret
        exact ⟨rfl, hend⟩
      · have b1 : ¬ (i : Int) < (l0 : Int) := by omega
        clear hlt hl1
        go_wp2_with fail
        go_ret
        exact ⟨rfl, hend⟩
end Go.Proofs.YtkdpoiapoaoigaaDoor
