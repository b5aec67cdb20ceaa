/- merge: the examples (the gate of each law). -/
import Derived.Test.YtkjfafnnnkjoeaaGreatDoorMgPlB
namespace Go.Proofs.YtkjfafnnnkjoeaaGreatDoor
open Go.RowKit Go.Lib

abbrev exA : Ns := ⟨false, [[97], [98]]⟩
abbrev exB : Ns := ⟨true, [[98]]⟩
theorem ex_nsr : NsR exA ∧ NsR exB := ⟨⟨by unfold Ns.Ok Rises; decide, by decide⟩, ⟨by unfold Ns.Ok Rises; decide, by decide⟩⟩
theorem ex_of : nOf okN [[97], [98]] = exA ∧ nOf okN [[98], [42]] = exB := by
  refine ⟨?_, ?_⟩
  · exact of_list ex_nsr.1
  · rw [show exB = nOf okN (nList exB) from (of_list ex_nsr.2).symm]
    refine nOf_mem fun x => ?_
    simp [nList, starB', or_comm]
theorem ts_two {w : World} {R : Nat} {x y : List UInt8} (h : Blk w R #[.string ⟨x.toArray⟩, .string ⟨y.toArray⟩] 9) : TsAt w (.slice (some ⟨R, 0, none⟩) 2 2) [x, y] := by
  refine ⟨_, _, rfl, Nat.le_refl _, by unfold maxLen; simp, fun j u hj => ⟨R, 0, rfl, h.lt, ?_⟩⟩
  rw [h.cell]
  match j with
  | 0 => exact hj
  | 1 => exact hj
  | j + 2 => simp [tsV] at hj
theorem ts_three {w : World} {a : Option Addr} {c : Nat} {x y z : List UInt8} (h : TsAt w (.slice a 3 c) [x, y, z]) : ∃ b off, a = some ⟨b, off, none⟩ ∧ w.cell? ⟨b, off, none⟩ = some (.string ⟨x.toArray⟩) ∧ w.cell? ⟨b, off + 2, none⟩ = some (.string ⟨z.toArray⟩) := by
  obtain ⟨a', c', e, _, _, h3⟩ := h.out
  injection e with e1 e2 e3
  subst e1
  obtain ⟨b, off, e, _, h0⟩ := h3 0 (by simp)
  obtain ⟨b', off', e', _, h2⟩ := h3 2 (by simp)
  rw [e] at e'
  cases e'
  exact ⟨b, off, e, h0, h2⟩
noncomputable abbrev exW1 : Wants := wset W0 2 1 exA
noncomputable abbrev exW2 : Wants := wset exW1 3 1 exB
theorem ex_31 : exW1 3 1 = Ns.zero := wset_id (by decide)
theorem ex_9 (k : Int) : exW2 9 k = Ns.zero := (wset_id (by decide)).trans (wset_id (by decide))
theorem ex_s0 : setE W0 0 1 Ns.zero = 1 ∧ setW W0 0 1 Ns.zero = W0 := by
  have he : setE W0 0 1 Ns.zero = 1 := by unfold setE; rw [if_pos (by decide)]
  exact ⟨he, by unfold setW; rw [he]; rfl⟩
theorem ex_u1 : uni exW1 1 = exA := uni_one w0_ok ex_nsr.1 (by decide) (fun _ _ => rfl)
theorem ex_w1 : WOk exW1 := wset_ok w0_ok ex_nsr.1 (by decide)
theorem ex_s1 : setE W0 2 1 exA = 0 ∧ setW W0 2 1 exA = exW1 ∧ setM W0 2 1 exA = exA ∧ setL W0 2 1 exA = Ns.zero := by
  obtain ⟨h1, h2, h3, h4⟩ := setE_ok (W := W0) (i := 2) (k := 1) (s := exA) (by decide) (by decide) (by rw [ex_u1]; decide)
  refine ⟨h1, h2, ?_, ?_⟩
  · rw [h3, ex_u1, uni_zero, less_zero ex_nsr.1]
  · rw [h4, uni_zero, zero_less]
theorem ex_u2 : uni exW2 1 = ⟨true, [[97], [98]]⟩ := by
  have h : NsR ⟨true, [[97], [98]]⟩ := ⟨by unfold Ns.Ok Rises; decide, by decide⟩
  refine ns_ext (nsr_uni (wset_ok ex_w1 ex_nsr.2 (by decide)) 1) h fun x => ?_
  rw [uni_more ex_w1 ex_nsr.2 (by decide) ex_31, ex_u1, mem_unionL]
  simp [nList, starB']
  constructor
  · rintro (h | h | h | h) <;> simp [h]
  · rintro (h | h | h) <;> simp [h]
theorem ex_s2 : setE exW1 3 1 exB = 0 ∧ setW exW1 3 1 exB = exW2 := by
  obtain ⟨h1, h2, _⟩ := setE_ok (W := exW1) (i := 3) (k := 1) (s := exB) (by decide) (by decide) (by rw [ex_u2]; decide)
  exact ⟨h1, h2⟩
theorem ex_cnt (x : List UInt8) : cnt exW2 1 x = (if (nList exA).contains x then 1 else 0) + (if (nList exB).contains x then 1 else 0) := by
  have h1 := cnt_set (W := W0) (i := 2) (k := 1) (s := exA) (by decide) x
  have h2 := cnt_set (W := exW1) (i := 3) (k := 1) (s := exB) (by decide) x
  rw [cnt_zero] at h1
  rw [ex_31] at h2
  simp only [list_zero, List.contains_nil, Bool.false_eq_true, if_false, Nat.add_zero, Nat.zero_add] at h1 h2
  rw [h2, h1]
theorem ex_keys : keyL exW2 1 = [[42, 32, 49], [97, 32, 49], [98, 32, 50]] := by
  unfold keyL
  rw [ex_u2]
  show [keyT exW2 1 [42], keyT exW2 1 [97], keyT exW2 1 [98]] = _
  unfold keyT
  rw [ex_cnt, ex_cnt, ex_cnt]
  decide
theorem ex_lean : leanM (uni exW2 1) = ⟨true, []⟩ := by rw [ex_u2]; rfl
theorem ex_who : (whoL exW2 1 [99] 32).length = 1 := by
  have h1 : (whoL exW1 1 [99] 32).length + _ = _ := who_set (W := W0) (i := 2) (k := 1) (s := exA) (by decide) [99]
  have h2 : (whoL exW2 1 [99] 32).length + _ = _ := who_set (W := exW1) (i := 3) (k := 1) (s := exB) (by decide) [99]
  rw [who_zero] at h1
  rw [ex_31] at h2
  rw [show nHas okN exA [99] = false from by decide, show nHas okN (W0 2 1) [99] = false from by decide] at h1
  rw [show nHas okN exB [99] = true from by decide, show nHas okN Ns.zero [99] = false from by decide] at h2
  simp only [Bool.false_eq_true, if_false, if_true] at h1 h2
  omega
theorem ex_drop : chkD exW2 9 = 5 := by
  unfold chkD wantsAny
  simp only [ex_9]
  rfl
set_option maxRecDepth 100000 in
set_option maxHeartbeats 8000000 in
theorem mg_examples (a f n : Addr) (w : World) (hg : Gm a f n w) : Calls Tryz.prog 4 #[] w fun e w' => e = .returned (.bool true) ∧ Below w.heap.size w w' := by
  have HG := Lib.hid hg
  clear hg
  go_enter Tryz.func4, Tryz.ntmps4
  go_wp2_with fail
  refine (mgNew_any w).mono ?_
  rintro e w1 ⟨m, rfl, hm, hb⟩
  have HM := Lib.hid hm
  have HK := Lib.hid (KeptM.of (B := w.heap.size) hb)
  clear hm hb
  have HE := Lib.hid ex_s0
  have hs := set_any (base := w.heap.size) (m := m) (W := W0) (i := 0) (k := 1) (sa := false) (sl := []) (a1 := none) (c1 := 0) HM.out (HK.out.gm HG.out) (RowV.nil _ _ _ (Nat.zero_le _)) nsr_zero (Nat.zero_le _) (fun x hx => by cases hx)
  have HS := Lib.hid (show Calls Tryz.prog 8 #[.pointer (some ⟨m, 0, none⟩), .int .i64 0, .int .i64 1, .agg #[.bool false, .slice none 0 0]] w1 (SetIs w.heap.size m W0 0 1 ⟨false, []⟩ w1) from hs)
  clear hs
  go_wp2_with fail
  refine HS.out.mono ?_
  rintro e w2 ⟨v1, v2, rfl, hv1, hv2, hm2, hk2⟩
  obtain ⟨A1, C1, rfl, ht1⟩ := hv1.shape
  obtain ⟨A2, C2, rfl, ht2⟩ := hv2.shape
  rw [HE.out.1]
  rw [HE.out.2] at hm2
  have HM := Lib.hid hm2
  have HK := Lib.hid (HK.out.trans hk2)
  clear hv1 hv2 hm2 hk2 ht1 ht2 HS
  obtain ⟨l1, hl1⟩ : ∃ l1, (setM W0 0 1 Ns.zero).ns.length = l1 := ⟨_, rfl⟩
  obtain ⟨l2, hl2⟩ : ∃ l2, (setL W0 0 1 Ns.zero).ns.length = l2 := ⟨_, rfl⟩
  rw [hl1, hl2]
  clear hl1 hl2
  obtain ⟨g1, hg1⟩ : ∃ g1, (setM W0 0 1 Ns.zero).all = g1 := ⟨_, rfl⟩
  obtain ⟨g2, hg2⟩ : ∃ g2, (setL W0 0 1 Ns.zero).all = g2 := ⟨_, rfl⟩
  rw [hg1, hg2]
  clear hg1 hg2
  obtain ⟨x1, hw2, hb3, hq5⟩ := alloc_new w2 #[.bool g1, .slice A1 l1 C1] 41
  have HM := Lib.hid (HM.out.later hb3)
  have HK := Lib.hid (HK.out.trans (.of hb3))
  have HW4 := Lib.hid hw2
  have HZ6 := Lib.hid (show w2.heap.size + 1 = x1.heap.size by rw [← hw2]; simp)
  clear hw2 hb3 hq5
  obtain ⟨x7, hw8, hb9, hq11⟩ := alloc_new x1 #[.bool g2, .slice A2 l2 C2] 41
  have HM := Lib.hid (HM.out.later hb9)
  have HK := Lib.hid (HK.out.trans (.of hb9))
  have HW10 := Lib.hid hw8
  have HZ12 := Lib.hid (show x1.heap.size + 1 = x7.heap.size by rw [← hw8]; simp)
  clear hw8 hb9 hq11
  obtain ⟨x13, hw14, hb15, hq17⟩ := alloc_new x7 #[.string ⟨#[97]⟩, .string ⟨#[98]⟩] 9
  have HM := Lib.hid (HM.out.later hb15)
  have HK := Lib.hid (HK.out.trans (.of hb15))
  have HQL := Lib.hid hq17
  have HW16 := Lib.hid hw14
  have HZ18 := Lib.hid (show x7.heap.size + 1 = x13.heap.size by rw [← hw14]; simp)
  clear hw14 hb15 hq17
  go_wp2_with fail
  rw [HW4.out, HW10.out, HW16.out, HZ6.out, HZ12.out]
  have HO := Lib.hid (of_any (w := x13) (v := .slice (some ⟨x7.heap.size, 0, none⟩) 2 2) (ts_two HQL.out) (list_fit (by decide) (by decide)) ex_of.1)
  refine HO.out.mono ?_
  rintro e w6 ⟨A6, C6, rfl, ht6, hb6⟩
  have HM := Lib.hid (HM.out.later hb6)
  have HK := Lib.hid (HK.out.trans (.of hb6))
  have HT := Lib.hid ht6
  clear ht6 hb6 HO
  have HE := Lib.hid ex_s1
  have hs := set_any (base := w.heap.size) (m := m) (W := W0) (i := 2) (k := 1) (sa := false) (sl := [[97], [98]]) (a1 := A6) (c1 := C6) HM.out (HK.out.gm HG.out) HT.out ex_nsr.1 (by decide) (by decide)
  have HS := Lib.hid (show Calls Tryz.prog 8 #[.pointer (some ⟨m, 0, none⟩), .int .i64 2, .int .i64 1, .agg #[.bool false, .slice A6 2 C6]] w6 (SetIs w.heap.size m W0 2 1 ⟨false, [[97], [98]]⟩ w6) from hs)
  clear hs
  go_wp2_with fail
  refine HS.out.mono ?_
  rintro e w7 ⟨v1, v2, rfl, hv1, hv2, hm2, hk2⟩
  rw [HE.out.2.2.1] at hv1
  rw [HE.out.2.2.2] at hv2
  obtain ⟨A7, C7, rfl, ht1⟩ := hv1.shape
  obtain ⟨A8, C8, rfl, ht2⟩ := hv2.shape
  rw [HE.out.1]
  rw [HE.out.2.1] at hm2
  have HM := Lib.hid hm2
  have HK := Lib.hid (HK.out.trans hk2)
  clear hv1 hv2 hm2 hk2 ht1 ht2 HS HT
  obtain ⟨x19, hw20, hb21, hq23⟩ := alloc_new w7 #[.bool false, .slice A7 2 C7] 41
  have HM := Lib.hid (HM.out.later hb21)
  have HK := Lib.hid (HK.out.trans (.of hb21))
  have HQ5 := Lib.hid hq23
  have HW22 := Lib.hid hw20
  have HZ24 := Lib.hid (show w7.heap.size + 1 = x19.heap.size by rw [← hw20]; simp)
  clear hw20 hb21 hq23
  obtain ⟨x25, hw26, hb27, hq29⟩ := alloc_new x19 #[.bool false, .slice A8 0 C8] 41
  have HM := Lib.hid (HM.out.later hb27)
  have HK := Lib.hid (HK.out.trans (.of hb27))
  have HQ5 := Lib.hid (HQ5.out.later hb27)
  have HQ6 := Lib.hid hq29
  have HW28 := Lib.hid hw26
  have HZ30 := Lib.hid (show x19.heap.size + 1 = x25.heap.size by rw [← hw26]; simp)
  clear hw26 hb27 hq29
  obtain ⟨x31, hw32, hb33, hq35⟩ := alloc_new x25 #[.string ⟨#[98]⟩, .string ⟨#[42]⟩] 9
  have HM := Lib.hid (HM.out.later hb33)
  have HK := Lib.hid (HK.out.trans (.of hb33))
  have HQ5 := Lib.hid (HQ5.out.later hb33)
  have HQ6 := Lib.hid (HQ6.out.later hb33)
  have HQL := Lib.hid hq35
  have HW34 := Lib.hid hw32
  have HZ36 := Lib.hid (show x25.heap.size + 1 = x31.heap.size by rw [← hw32]; simp)
  clear hw32 hb33 hq35
  go_wp2_with fail
  rw [HW22.out, HW28.out, HW34.out, HZ24.out, HZ30.out]
  have HO := Lib.hid (of_any (w := x31) (v := .slice (some ⟨x25.heap.size, 0, none⟩) 2 2) (ts_two HQL.out) (list_fit (by decide) (by decide)) ex_of.2)
  refine HO.out.mono ?_
  rintro e w11 ⟨A11, C11, rfl, ht11, hb11⟩
  have HM := Lib.hid (HM.out.later hb11)
  have HK := Lib.hid (HK.out.trans (.of hb11))
  have HQ5 := Lib.hid (HQ5.out.later hb11)
  have HQ6 := Lib.hid (HQ6.out.later hb11)
  have HT := Lib.hid ht11
  clear ht11 hb11 HO
  have HE := Lib.hid ex_s2
  have hs := set_any (base := w.heap.size) (m := m) (W := exW1) (i := 3) (k := 1) (sa := true) (sl := [[98]]) (a1 := A11) (c1 := C11) HM.out (HK.out.gm HG.out) HT.out ex_nsr.2 (by decide) (by decide)
  have HS := Lib.hid (show Calls Tryz.prog 8 #[.pointer (some ⟨m, 0, none⟩), .int .i64 3, .int .i64 1, .agg #[.bool true, .slice A11 1 C11]] w11 (SetIs w.heap.size m exW1 3 1 ⟨true, [[98]]⟩ w11) from hs)
  clear hs
  go_wp2_with fail
  refine HS.out.mono ?_
  rintro e w12 ⟨v1, v2, rfl, -, -, hm2, hk2⟩
  rw [HE.out.1]
  rw [HE.out.2] at hm2
  have HM := Lib.hid hm2
  have HK := Lib.hid (HK.out.trans hk2)
  have HQ5 := Lib.hid (hk2.blk HQ5.out)
  have HQ6 := Lib.hid (hk2.blk HQ6.out)
  clear hm2 hk2 HS HT
  go_wp2_with fail
  refine (keys_any HM.out ⟨by decide, by decide⟩).mono ?_
  rintro e w13 ⟨A13, C13, rfl, ht13, hb13⟩
  rw [ex_keys] at ht13 ⊢
  have HM := Lib.hid (HM.out.later hb13)
  have HK := Lib.hid (HK.out.trans (.of hb13))
  have HQ5 := Lib.hid (HQ5.out.later hb13)
  have HQ6 := Lib.hid (HQ6.out.later hb13)
  have HTK := Lib.hid ht13
  clear ht13 hb13
  go_wp2_with fail
  refine (mgLean_any HM.out ⟨by decide, by decide⟩).mono ?_
  rintro e w14 ⟨A14, C14, rfl, ht14, hb14⟩
  rw [ex_lean] at ht14 ⊢
  have HM := Lib.hid (HM.out.later hb14)
  have HK := Lib.hid (HK.out.trans (.of hb14))
  have HQ5 := Lib.hid (HQ5.out.later hb14)
  have HQ6 := Lib.hid (HQ6.out.later hb14)
  have HTK := Lib.hid (HTK.out.later hb14)
  clear ht14 hb14
  obtain ⟨x37, hw38, hb39, hq41⟩ := alloc_new w14 #[.bool true, .slice A14 0 C14] 41
  have HM := Lib.hid (HM.out.later hb39)
  have HK := Lib.hid (HK.out.trans (.of hb39))
  have HQ5 := Lib.hid (HQ5.out.later hb39)
  have HQ6 := Lib.hid (HQ6.out.later hb39)
  have HTK := Lib.hid (HTK.out.later hb39)
  have HQ9 := Lib.hid hq41
  have HW40 := Lib.hid hw38
  have HZ42 := Lib.hid (show w14.heap.size + 1 = x37.heap.size by rw [← hw38]; simp)
  clear hw38 hb39 hq41
  obtain ⟨kb, ko, hka, k0, k2⟩ := ts_three HTK.out
  subst hka
  have z0 : x37.cell? ⟨w7.heap.size, 1, none⟩ = some (.slice A7 2 C7) := HQ5.out.cell 1
  have z1 : x37.cell? ⟨x19.heap.size, 0, none⟩ = some (.bool false) := HQ6.out.cell 0
  have z2 : x37.cell? ⟨x19.heap.size, 1, none⟩ = some (.slice A8 0 C8) := HQ6.out.cell 1
  have HEM := Lib.hid (empty_any (sa := false) (sl := []) (a := A8) (c := C8) (w := x37) (B := true) rfl)
  dsimp only
  go_wp2_with (rw [HW40.out])
  refine HEM.out.mono ?_
  rintro e w16 ⟨rfl, hb16⟩
  have HM := Lib.hid (HM.out.later hb16)
  have HK := Lib.hid (HK.out.trans (.of hb16))
  have HQ5 := Lib.hid (HQ5.out.later hb16)
  have HQ6 := Lib.hid (HQ6.out.later hb16)
  have HQ9 := Lib.hid (HQ9.out.later hb16)
  have HTK := Lib.hid (HTK.out.later hb16)
  have k0' := (hb16.cell (p := ⟨kb, ko, none⟩) (World.block_lt_of_cell? _ _ k0)).trans k0
  have k2' := (hb16.cell (p := ⟨kb, ko + 2, none⟩) (World.block_lt_of_cell? _ _ k2)).trans k2
  clear hb16 z0 z1 z2 k0 k2 HEM
  have y0 : w16.cell? ⟨w14.heap.size, 0, none⟩ = some (.bool true) := HQ9.out.cell 0
  have y1 : w16.cell? ⟨w14.heap.size, 1, none⟩ = some (.slice A14 0 C14) := HQ9.out.cell 1
  go_wp2_with fail
  refine (who_any (x := [99]) HM.out ⟨by decide, by decide⟩).mono ?_
  rintro e w17 ⟨A17, C17, rfl, -, hb17⟩
  rw [ex_who]
  have HM := Lib.hid (HM.out.later hb17)
  have HK := Lib.hid (HK.out.trans (.of hb17))
  have HQ5 := Lib.hid (HQ5.out.later hb17)
  have HQ6 := Lib.hid (HQ6.out.later hb17)
  have HQ9 := Lib.hid (HQ9.out.later hb17)
  have HTK := Lib.hid (HTK.out.later hb17)
  clear hb17 k0' k2' y0 y1
  go_wp2_with fail
  refine (mgDrop_any (i := 9) HM.out (HK.out.gm HG.out) ⟨by decide, by decide⟩).mono ?_
  rintro e w18 ⟨rfl, -, hk18⟩
  rw [ex_drop]
  have HB := Lib.hid ((HK.out.trans hk18).below (Nat.le_refl _))
  clear hk18
  go_wp2_with fail
  go_ret
  exact ⟨rfl, HB.out⟩
end Go.Proofs.YtkjfafnnnkjoeaaGreatDoor
