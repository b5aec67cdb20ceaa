/- merge: MergePlays (tools/mgplays_gen.py). -/
import Derived.Test.YtkjfafnnnkjoeaaGreatDoorMgRM
import Derived.Test.YtkjfafnnnkjoeaaGreatDoorMgRLaw
import Derived.Deep.CutRange
import Derived.Deep.CutBlock
namespace Go.Proofs.YtkjfafnnnkjoeaaGreatDoor
open Go.RowKit Go.Lib

theorem MgIs.rfit {base m : Nat} {W : Wants} {w : World} (h : MgIs base m W w) : RFit W := ⟨h.1, h.2.1.l, fun i k => by
  have h1 := (want_fit h.1 h.2.1 i k).2.2
  have h2 := list_ns (W i k)
  omega⟩
theorem zero_cells : Tryz.zeroCells33 = ((List.range 396).map fun j => if j % 2 = 0 then Value.bool false else Value.slice none 0 0).toArray := by kernel_rfl
theorem rf_zero {w : World} {x : Nat} (h : Blk w x Tryz.zeroCells33 33) : RfM w x W0 := by
  rw [zero_cells] at h
  refine ⟨_, h, by simp, fun i k hi hk => ⟨none, 0, ?_, ?_, RowV.nil _ _ _ (Nat.zero_le _)⟩⟩
  · rw [List.getElem?_toArray, List.getElem?_map, List.getElem?_range (by omega)]
    show some (if (i * 12 + k * 2) % 2 = 0 then _ else _) = _
    rw [if_pos (by omega)]
  · rw [List.getElem?_toArray, List.getElem?_map, List.getElem?_range (by omega)]
    show some (if (i * 12 + k * 2 + 1) % 2 = 0 then _ else _) = _
    rw [if_neg (by omega)]; rfl
theorem u64_nonneg (z : Int) : 0 ≤ IntKind.u64.wrap z := by rw [show IntKind.u64.wrap z = z % 18446744073709551616 from rfl]; omega
theorem row_int {w : World} {a : Option Addr} {c : Nat} {l : List Int} (h : RowV w (.slice a l.length c) (isV l)) {j : Nat} (hj : j < l.length) : ∃ b off, a = some ⟨b, off, none⟩ ∧ w.cell? ⟨b, off + j, none⟩ = some (.int .i64 l[j]) := by
  obtain ⟨a', c', e, _, _, h3⟩ := h
  injection e with e1 e2 e3
  subst e1
  obtain ⟨b, off, e, _, h0⟩ := h3 j (.int .i64 l[j]) (by unfold isV; rw [List.getElem?_map, List.getElem?_eq_getElem hj]; rfl)
  exact ⟨b, off, e, h0⟩
theorem keys_is {base m : Nat} {W : Wants} {k : Nat} {KL : List (List UInt8)} {w : World} (h : MgIs base m W w) (hk : 1 ≤ k ∧ k ≤ 5) (he : keyL W k = KL) :
    Calls Tryz.prog 23 #[.pointer (some ⟨m, 0, none⟩), .int .i64 k] w (TextsPost KL w) := by
  subst he
  exact keys_any h (i64_small (by omega))
theorem rkeys_is {X k : Nat} {W : Wants} {KL : List (List UInt8)} {w : World} (h : RfM w X W) (hf : RFit W) (hk : 1 ≤ k ∧ k ≤ 5) (he : keyL W k = KL) :
    Calls Tryz.prog 24 #[.pointer (some ⟨X, 0, none⟩), .int .i64 (k : Int)] w (TextsPost KL w) := by
  subst he
  exact rkeys_any h hf hk
/-- What stands at a round's beginning: both Merges want the same. -/
structure PlI (B : Nat) (wB : World) (m X : Nat) (V : Wants) (w : World) : Prop where
  mg : MgIs B m V w
  rf : RfM w X V
  k : KeptM B wB w
theorem PlI.later {B : Nat} {wB : World} {m X : Nat} {V : Wants} {w w' : World} (h : PlI B wB m X V w) (hb : Below w.heap.size w w') : PlI B wB m X V w' := ⟨h.mg.later hb, h.rf.later hb, h.k.later hb⟩

set_option maxRecDepth 100000 in
set_option maxHeartbeats 8000000 in
theorem mplays_walk (a0 : Option Addr) (l0 c0 : Nat) (ds0 : List Dd) (A F Z : Addr) (W : World) (hg : Gm A F Z W) (hl0 : ds0.length = l0) (_hm0 : l0 ≤ 9223372036854775807) (hs0 : DdsIn W a0 ds0) (hb0 : ∀ p ∈ ds0, DdOk p) :
    Calls Tryz.prog 3 #[.slice a0 l0 c0] W fun e w' => e = .returned (.bool true) ∧ Below W.heap.size W w' := by
  have HL0 := Lib.hid hl0
  have HX0 := Lib.hid hb0
  have HA := Lib.hid hs0
  have HG0 := Lib.hid hg
  clear hg hl0 hs0 hb0
  go_enter Tryz.func3, Tryz.ntmps3
  go_wp2_with fail
  refine (mg_examples A F Z W HG0.out).mono ?_
  rintro e wB ⟨rfl, hb⟩
  dsimp only
  have HG := Lib.hid (HG0.out.later hb)
  have HB := Lib.hid hb
  have HA := Lib.hid (HA.out.below hb)
  clear HG0 hb
  go_wp2_with fail
  refine (mgNew_any wB).mono ?_
  rintro e wN ⟨m, rfl, hm, hb⟩
  dsimp only
  have HM := Lib.hid hm
  have HK := Lib.hid (KeptM.of (B := wB.heap.size) hb)
  have hsz : wB.heap.size ≤ wN.heap.size := hb.size
  clear hm hb
  obtain ⟨w1, hw1, hb1, q1⟩ := alloc_new wN Tryz.zeroCells33 33
  have HI := Lib.hid (show PlI wB.heap.size wB m wN.heap.size W0 w1 from ⟨HM.out.later hb1, rf_zero q1, HK.out.trans (.of hb1)⟩)
  have HW := Lib.hid hw1
  clear hw1 hb1 q1 HM HK
  go_wp2_with (rw [HW.out])
  obtain ⟨X, hX⟩ : ∃ X, wN.heap.size = X := ⟨_, rfl⟩
  rw [hX] at HI hsz ⊢
  have HXB := Lib.hid hsz
  clear hX hsz HW
  go_loopw [6, 7, 8, 9, 10, 11, 12, 13, 14, 15, 16, 17, 18, 19, 20, 21, 22, 23, 24, 25, 26] (fun vi _ _ _ _ _ _ _ _ _ _ _ _ _ _ _ _ _ _ _ _ wr => ∃ (i : Nat) (V : Wants), vi = .int .i64 (i : Int) ∧ i ≤ 50 ∧ i ≤ l0 ∧ PlI wB.heap.size wB m X V wr) (fun vi _ _ _ _ _ _ _ _ _ _ _ _ _ _ _ _ _ _ _ _ _ => 50 - (intOf vi).toNat)
  case atStart => exact ⟨0, W0, rfl, by omega, Nat.zero_le _, HI.out⟩
  case round =>
    clear HI
    obtain ⟨i, V, rfl, hi50, hil, hI⟩ := hrel
    have HI := Lib.hid hI
    clear hI
    by_cases hlt : i < l0 ∧ i < 50
    · obtain ⟨hl1, hl2⟩ := hlt
      have b1 : (i : Int) < (l0 : Int) := by omega
      have b2 : (i : Int) < 50 := by omega
      have b3 : (0 : Int) ≤ (i : Int) := by omega
      have b4 : IntKind.i64.wrap ((i : Int) + 1) = (i : Int) + 1 := by rw [IntKind.wrap_i64]; omega
      obtain ⟨u, hx⟩ : ∃ u, ds0[i]? = some u := ⟨_, List.getElem?_eq_getElem (by have := HL0.out; omega)⟩
      have HOK := Lib.hid (HX0.out u (List.mem_of_getElem? hx))
      obtain ⟨ab, ao, rfl, hd⟩ := HA.out i u hx
      have HDD := Lib.hid hd
      have HXW := Lib.hid HI.out.rf.lt
      obtain ⟨p0, p1, p2, p3, p4, p5, p6, -⟩ := hd.below (HI.out.k.below (Nat.le_refl _))
      obtain ⟨w2, hw2, hb2, q2⟩ := alloc_new wr u.cells 36
      have HI := Lib.hid (HI.out.later hb2)
      have HQ := Lib.hid q2
      have HW := Lib.hid hw2
      clear hd hx HX0 HL0 hw2 hb2 q2
      have z0 : w2.cell? ⟨wr.heap.size, 0, none⟩ = some (.int .u8 (u.kd : Int)) := HQ.out.cell 0
      have z1 : w2.cell? ⟨wr.heap.size, 1, none⟩ = some (.int .i64 u.id) := HQ.out.cell 1
      have z2 : w2.cell? ⟨wr.heap.size, 2, none⟩ = some (.int .i64 u.ty) := HQ.out.cell 2
      have z3 : w2.cell? ⟨wr.heap.size, 3, none⟩ = some (.bool u.near) := HQ.out.cell 3
      have z4 : w2.cell? ⟨wr.heap.size, 4, none⟩ = some (.slice u.a u.bs.length u.c) := HQ.out.cell 4
      have z5 : w2.cell? ⟨wr.heap.size, 5, none⟩ = some (.int .u8 (u.many : Int)) := HQ.out.cell 5
      have z6 : w2.cell? ⟨wr.heap.size, 6, none⟩ = some (.int .u8 (u.nm : Int)) := HQ.out.cell 6
      go_upto_if 54 with (rw [HW.out])
      clear HW p0 p1 p2 p3 p4 p5 p6
      have HB0 := Lib.hid (show BytesIn wB u.a u.bs from HDD.out.2.2.2.2.2.2.2)
      go_cut [8, 9] from 35 to 196 (fun s8 s9 wx => ∃ ID KD : Int, s8 = .int .i64 ID ∧ s9 = .int .i64 KD ∧ i64B ID ∧ i64B KD ∧ wx = w2)
      case first =>
        obtain ⟨a, ha⟩ := Int.eq_ofNat_of_zero_le (u64_nonneg u.id)
        obtain ⟨ja, hja⟩ : ∃ j, a % 6 = j := ⟨_, rfl⟩
        have a1 : (a : Int).tmod 6 = (ja : Int) := (mod_of14 _ _ _ hja).1
        have a2 : (a : Int) % 6 = (ja : Int) := (mod_of14 _ _ _ hja).2
        have a3 : IntKind.u64.wrap (ja : Int) = (ja : Int) := u64_small (by omega)
        have a4 : IntKind.i64.wrap (ja : Int) = (ja : Int) := by rw [IntKind.wrap_i64]; omega
        have a5 : IntKind.i64.wrap (1 + (ja : Int)) = 1 + (ja : Int) := by rw [IntKind.wrap_i64]; omega
        obtain ⟨b, hb⟩ := Int.eq_ofNat_of_zero_le (u64_nonneg u.ty)
        obtain ⟨jb, hjb⟩ : ∃ j, b % 5 = j := ⟨_, rfl⟩
        have b1 : (b : Int).tmod 5 = (jb : Int) := (mod_of14 _ _ _ hjb).1
        have b2 : (b : Int) % 5 = (jb : Int) := (mod_of14 _ _ _ hjb).2
        have b3 : IntKind.u64.wrap (jb : Int) = (jb : Int) := u64_small (by omega)
        have b4 : IntKind.i64.wrap (jb : Int) = (jb : Int) := by rw [IntKind.wrap_i64]; omega
        have b5 : IntKind.i64.wrap (1 + (jb : Int)) = 1 + (jb : Int) := by rw [IntKind.wrap_i64]; omega
        have hia : ja < 6 := by omega
        have hib : jb < 5 := by omega
        clear hja hjb
        have hid1 := HOK.out.id
        have hty1 := HOK.out.ty
        obtain ⟨nr, hnr⟩ : ∃ b, u.near = b := ⟨_, rfl⟩
        rw [hnr]
        clear hnr
        cases nr with
        | true =>
          go_wp2_with fail
          go_meet
          exact ⟨_, _, rfl, rfl, i64_small (by omega), i64_small (by omega), rfl⟩
        | false =>
          go_wp2_with fail
          go_meet
          exact ⟨_, _, rfl, rfl, by unfold i64B; omega, by unfold i64B; omega, rfl⟩
      case rest =>
        obtain ⟨ID, KD, rfl, rfl, hID, hKD, hwc⟩ := hcut
        rw [hwc]
        clear hwc z0 z1 z2 z3 z4 z5 z6
        have HID := Lib.hid (And.intro hID hKD)
        clear hID hKD
        have HNX := Lib.hid (Nat.ne_of_gt HXW.out)
        obtain ⟨R7, hR7⟩ : ∃ R, wr.heap.size = R := ⟨_, rfl⟩
        rw [hR7] at HQ HNX ⊢
        clear hR7 HXW
        have z0 : w2.cell? ⟨R7, 0, none⟩ = some (.int .u8 (u.kd : Int)) := HQ.out.cell 0
        have z1 : w2.cell? ⟨R7, 1, none⟩ = some (.int .i64 u.id) := HQ.out.cell 1
        have z2 : w2.cell? ⟨R7, 2, none⟩ = some (.int .i64 u.ty) := HQ.out.cell 2
        have z3 : w2.cell? ⟨R7, 3, none⟩ = some (.bool u.near) := HQ.out.cell 3
        have z4 : w2.cell? ⟨R7, 4, none⟩ = some (.slice u.a u.bs.length u.c) := HQ.out.cell 4
        have z5 : w2.cell? ⟨R7, 5, none⟩ = some (.int .u8 (u.many : Int)) := HQ.out.cell 5
        have z6 : w2.cell? ⟨R7, 6, none⟩ = some (.int .u8 (u.nm : Int)) := HQ.out.cell 6
        obtain ⟨ρ, hρ⟩ : ∃ ρ, u.kd % 5 = ρ := ⟨_, rfl⟩
        have hρ5 : ρ < 5 := by omega
        have d1 : (u.kd : Int).tmod 5 = (ρ : Int) := (mod_of14 _ _ _ hρ).1
        have d2 : (u.kd : Int) % 5 = (ρ : Int) := (mod_of14 _ _ _ hρ).2
        have d3 : IntKind.u8.wrap (ρ : Int) = (ρ : Int) := u8_small' (by omega)
        clear hρ
        go_upto_if 68 with fail
        clear z0 z1 z2 z3 z4 z5 z6
        go_cut [10, 11, 12, 13, 14, 15, 16, 17, 18] from 35 to 196 (fun s10 _ _ _ _ _ _ _ _ wx => s10 = .bool true ∧ ∃ V2, PlI wB.heap.size wB m X V2 wx ∧ Blk wx R7 u.cells 36)
        case first =>
          by_cases h4 : ρ = 4
          · subst h4
            go_wp2_with fail
            refine (mgDrop_any (i := ID) HI.out.mg (HI.out.k.gm HG.out) HID.out.1).mono ?_
            rintro e w3 ⟨rfl, hm2, hk2⟩
            obtain ⟨D, hD⟩ : ∃ D, chkD V ID = D := ⟨_, rfl⟩
            rw [hD]
            dsimp only
            have HM := Lib.hid hm2
            have HR := Lib.hid (HI.out.rf.kept hk2)
            have HK := Lib.hid (HI.out.k.trans hk2)
            have HQ := Lib.hid (hk2.blk HQ.out)
            have HD := Lib.hid hD
            have HV := Lib.hid HI.out.mg.1
            clear hm2 hk2 hD
            go_wp2_with fail
            refine (rdrop_any (i := ID) HR.out HV.out).mono ?_
            rintro e w4 ⟨rfl, hr, ho⟩
            rw [HD.out]
            dsimp only
            have HI := Lib.hid (show PlI wB.heap.size wB m X (dropW V ID) w4 from ⟨HR.out.mg ho HM.out, hr, HK.out.only ho HXB.out⟩)
            have HQ := Lib.hid (HQ.out.only ho HNX.out)
            clear hr ho HM HR HK
            go_wp2_with fail
            go_meet
            exact ⟨by simp, _, HI.out, HQ.out⟩
          · have d4 : ¬ (ρ : Int) = 4 := by omega
            clear h4
            have z0 : w2.cell? ⟨R7, 0, none⟩ = some (.int .u8 (u.kd : Int)) := HQ.out.cell 0
            have z1 : w2.cell? ⟨R7, 1, none⟩ = some (.int .i64 u.id) := HQ.out.cell 1
            have z2 : w2.cell? ⟨R7, 2, none⟩ = some (.int .i64 u.ty) := HQ.out.cell 2
            have z3 : w2.cell? ⟨R7, 3, none⟩ = some (.bool u.near) := HQ.out.cell 3
            have z4 : w2.cell? ⟨R7, 4, none⟩ = some (.slice u.a u.bs.length u.c) := HQ.out.cell 4
            have z5 : w2.cell? ⟨R7, 5, none⟩ = some (.int .u8 (u.many : Int)) := HQ.out.cell 5
            have z6 : w2.cell? ⟨R7, 6, none⟩ = some (.int .u8 (u.nm : Int)) := HQ.out.cell 6
            obtain ⟨sa, sl, hO⟩ : ∃ sa sl, nOf okN (wantL u) = ⟨sa, sl⟩ := ⟨_, _, rfl⟩
            have hsr := nsr_of (wantL u)
            have hsn := of_len (wantL u)
            have hsl := srt_len ((wantL u).filter okN)
            have hfl := List.length_filter_le okN (wantL u)
            have hwl := wantL_len u HOK.out.many
            have hsx : ∀ x ∈ (nOf okN (wantL u)).ns, x.length ≤ 64 := fun x hx => by have := wantL_short u x ((mem_of okN _ x).1 hx).1; omega
            have hsq : (nOf okN (wantL u)).ns.length ≤ 200 := by show (srt ((wantL u).filter okN)).length ≤ 200; omega
            rw [hO] at hsr hsn hsx hsq
            have HS := Lib.hid (And.intro hsr (And.intro (show (nList ⟨sa, sl⟩).length ≤ 1000 by omega) (And.intro hsx hsq)))
            have HO := Lib.hid hO
            clear hO hsr hsn hsl hfl hwl hsx hsq
            go_wp2_with fail
            refine (want_any (HB0.out.later (HI.out.k.below (Nat.le_refl _))) HOK.out HO.out).mono ?_
            rintro e w3 ⟨os, ds, rfl, ht, hb⟩
            dsimp only
            have HI := Lib.hid (HI.out.later hb)
            have HQ := Lib.hid (HQ.out.later hb)
            have HTs := Lib.hid ht
            clear ht hb z0 z1 z2 z3 z4 z5 z6
            go_wp2_with fail
            refine (set_any (i := ID) (k := KD) (sa := sa) (sl := sl) HI.out.mg (HI.out.k.gm HG.out) HTs.out HS.out.1 HS.out.2.1 HS.out.2.2.1).mono ?_
            rintro e w4 ⟨v1, v2, rfl, hv1, hv2, hm2, hk2⟩
            obtain ⟨E, hE⟩ : ∃ E, setE V ID KD ⟨sa, sl⟩ = E := ⟨_, rfl⟩
            obtain ⟨ma, ml, hM⟩ : ∃ ma ml, setM V ID KD ⟨sa, sl⟩ = ⟨ma, ml⟩ := ⟨_, _, rfl⟩
            obtain ⟨la, ll, hL⟩ : ∃ la ll, setL V ID KD ⟨sa, sl⟩ = ⟨la, ll⟩ := ⟨_, _, rfl⟩
            obtain ⟨V2, hV2⟩ : ∃ V2, setW V ID KD ⟨sa, sl⟩ = V2 := ⟨_, rfl⟩
            rw [hE]
            rw [hM] at hv1
            rw [hL] at hv2
            rw [hV2] at hm2
            have HEQ := Lib.hid (And.intro hE (And.intro hM (And.intro hL hV2)))
            clear hE hM hL hV2
            obtain ⟨o1, e1, rfl, ht1⟩ := hv1.shape
            obtain ⟨o2, e2, rfl, ht2⟩ := hv2.shape
            dsimp only
            have HF := Lib.hid HI.out.mg.rfit
            have HM := Lib.hid hm2
            have HR := Lib.hid (HI.out.rf.kept hk2)
            have HK := Lib.hid (HI.out.k.trans hk2)
            have HQ := Lib.hid (hk2.blk HQ.out)
            have HT1 := Lib.hid ht1
            have HT2 := Lib.hid ht2
            clear hm2 hk2 hv1 hv2 ht1 ht2 HTs HI
            have HN1 := Lib.hid (Nat.ne_of_gt HR.out.lt)
            obtain ⟨x5, hx5, hb, qx5⟩ := alloc_new w4 #[.bool ma, .slice o1 ml.length e1] 41
            have HM := Lib.hid (HM.out.later hb)
            have HR := Lib.hid (HR.out.later hb)
            have HQ := Lib.hid (HQ.out.later hb)
            have HT1 := Lib.hid (HT1.out.later hb)
            have HT2 := Lib.hid (HT2.out.later hb)
            have HK := Lib.hid (HK.out.trans (.of hb))
            have HQ1 := Lib.hid qx5
            have HWx5 := Lib.hid hx5
            have HZx5 := Lib.hid (show w4.heap.size + 1 = x5.heap.size by rw [← hx5]; simp)
            clear hx5 hb qx5
            have HN2 := Lib.hid (Nat.ne_of_gt HR.out.lt)
            obtain ⟨x6, hx6, hb, qx6⟩ := alloc_new x5 #[.bool la, .slice o2 ll.length e2] 41
            have HM := Lib.hid (HM.out.later hb)
            have HR := Lib.hid (HR.out.later hb)
            have HQ := Lib.hid (HQ.out.later hb)
            have HT1 := Lib.hid (HT1.out.later hb)
            have HT2 := Lib.hid (HT2.out.later hb)
            have HQ1 := Lib.hid (HQ1.out.later hb)
            have HK := Lib.hid (HK.out.trans (.of hb))
            have HQ2 := Lib.hid qx6
            have HWx6 := Lib.hid hx6
            have HZx6 := Lib.hid (show x5.heap.size + 1 = x6.heap.size by rw [← hx6]; simp)
            clear hx6 hb qx6
            have z0 : x6.cell? ⟨R7, 0, none⟩ = some (.int .u8 (u.kd : Int)) := HQ.out.cell 0
            have z1 : x6.cell? ⟨R7, 1, none⟩ = some (.int .i64 u.id) := HQ.out.cell 1
            have z2 : x6.cell? ⟨R7, 2, none⟩ = some (.int .i64 u.ty) := HQ.out.cell 2
            have z3 : x6.cell? ⟨R7, 3, none⟩ = some (.bool u.near) := HQ.out.cell 3
            have z4 : x6.cell? ⟨R7, 4, none⟩ = some (.slice u.a u.bs.length u.c) := HQ.out.cell 4
            have z5 : x6.cell? ⟨R7, 5, none⟩ = some (.int .u8 (u.many : Int)) := HQ.out.cell 5
            have z6 : x6.cell? ⟨R7, 6, none⟩ = some (.int .u8 (u.nm : Int)) := HQ.out.cell 6
            go_wp2_with (rw [HWx5.out, HWx6.out, HZx5.out])
            clear HWx5 HWx6 HZx5 HZx6 z0 z1 z2 z3 z4 z5 z6
            obtain ⟨R11, hR⟩ : ∃ R, w4.heap.size = R := ⟨_, rfl⟩
            rw [hR] at HQ1 HN1 ⊢
            clear hR
            obtain ⟨R12, hR⟩ : ∃ R, x5.heap.size = R := ⟨_, rfl⟩
            rw [hR] at HQ2 HN2 ⊢
            clear hR
            refine (want_any (HB0.out.later (HK.out.below (Nat.le_refl _))) HOK.out HO.out).mono ?_
            rintro e w7 ⟨os, ds, rfl, ht, hb⟩
            dsimp only
            have HM := Lib.hid (HM.out.later hb)
            have HR := Lib.hid (HR.out.later hb)
            have HQ := Lib.hid (HQ.out.later hb)
            have HT1 := Lib.hid (HT1.out.later hb)
            have HT2 := Lib.hid (HT2.out.later hb)
            have HQ1 := Lib.hid (HQ1.out.later hb)
            have HQ2 := Lib.hid (HQ2.out.later hb)
            have HK := Lib.hid (HK.out.trans (.of hb))
            have HTs := Lib.hid ht
            clear ht hb
            go_wp2_with fail
            refine (refSet_any w7).mono ?_
            rintro e w8 ⟨rfl, hb⟩
            dsimp only
            have HM := Lib.hid (HM.out.later hb)
            have HR := Lib.hid (HR.out.later hb)
            have HQ := Lib.hid (HQ.out.later hb)
            have HT1 := Lib.hid (HT1.out.later hb)
            have HT2 := Lib.hid (HT2.out.later hb)
            have HQ1 := Lib.hid (HQ1.out.later hb)
            have HQ2 := Lib.hid (HQ2.out.later hb)
            have HTs := Lib.hid (HTs.out.later hb)
            have HK := Lib.hid (HK.out.trans (.of hb))
            clear hb
            go_wp2_with fail
            refine (rset_any (i := ID) (k := KD) HR.out HF.out HTs.out HS.out.1 HS.out.2.2.2 HS.out.2.2.1 HID.out.2).mono ?_
            rintro e w9 ⟨v1, v2, rfl, hv1, hv2, hr, ho⟩
            rw [HEQ.out.1]
            rw [HEQ.out.2.1] at hv1
            rw [HEQ.out.2.2.1] at hv2
            rw [HEQ.out.2.2.2] at hr
            obtain ⟨o3, e3, rfl, ht1⟩ := hv1.shape
            obtain ⟨o4, e4, rfl, ht2⟩ := hv2.shape
            dsimp only
            have HM := Lib.hid (HR.out.mg ho HM.out)
            have HK := Lib.hid (HK.out.only ho HXB.out)
            have HQ := Lib.hid (HQ.out.only ho HNX.out)
            have HQ1 := Lib.hid (HQ1.out.only ho HN1.out)
            have HQ2 := Lib.hid (HQ2.out.only ho HN2.out)
            have HT1 := Lib.hid (HR.out.ts ho HT1.out)
            have HT2 := Lib.hid (HR.out.ts ho HT2.out)
            have HR := Lib.hid hr
            have HT3 := Lib.hid ht1
            have HT4 := Lib.hid ht2
            clear hr ho hv1 hv2 ht1 ht2 HTs HEQ HF HS HO
            have HN3 := Lib.hid (Nat.ne_of_gt HR.out.lt)
            obtain ⟨x10, hx10, hb, qx10⟩ := alloc_new w9 #[.bool ma, .slice o3 ml.length e3] 29
            have HM := Lib.hid (HM.out.later hb)
            have HR := Lib.hid (HR.out.later hb)
            have HQ := Lib.hid (HQ.out.later hb)
            have HT1 := Lib.hid (HT1.out.later hb)
            have HT2 := Lib.hid (HT2.out.later hb)
            have HQ1 := Lib.hid (HQ1.out.later hb)
            have HQ2 := Lib.hid (HQ2.out.later hb)
            have HT3 := Lib.hid (HT3.out.later hb)
            have HT4 := Lib.hid (HT4.out.later hb)
            have HK := Lib.hid (HK.out.trans (.of hb))
            have HQ3 := Lib.hid qx10
            have HWx10 := Lib.hid hx10
            have HZx10 := Lib.hid (show w9.heap.size + 1 = x10.heap.size by rw [← hx10]; simp)
            clear hx10 hb qx10
            have HN4 := Lib.hid (Nat.ne_of_gt HR.out.lt)
            obtain ⟨x11, hx11, hb, qx11⟩ := alloc_new x10 #[.bool la, .slice o4 ll.length e4] 29
            have HM := Lib.hid (HM.out.later hb)
            have HR := Lib.hid (HR.out.later hb)
            have HQ := Lib.hid (HQ.out.later hb)
            have HT1 := Lib.hid (HT1.out.later hb)
            have HT2 := Lib.hid (HT2.out.later hb)
            have HQ1 := Lib.hid (HQ1.out.later hb)
            have HQ2 := Lib.hid (HQ2.out.later hb)
            have HT3 := Lib.hid (HT3.out.later hb)
            have HT4 := Lib.hid (HT4.out.later hb)
            have HQ3 := Lib.hid (HQ3.out.later hb)
            have HK := Lib.hid (HK.out.trans (.of hb))
            have HQ4 := Lib.hid qx11
            have HWx11 := Lib.hid hx11
            have HZx11 := Lib.hid (show x10.heap.size + 1 = x11.heap.size by rw [← hx11]; simp)
            clear hx11 hb qx11
            have y1 : x11.cell? ⟨R11, 0, none⟩ = some (.bool ma) := HQ1.out.cell 0
            have t1 : x11.cell? ⟨R11, 1, none⟩ = some (.slice o1 ml.length e1) := HQ1.out.cell 1
            have y2 : x11.cell? ⟨R12, 0, none⟩ = some (.bool la) := HQ2.out.cell 0
            have t2 : x11.cell? ⟨R12, 1, none⟩ = some (.slice o2 ll.length e2) := HQ2.out.cell 1
            have y3 : x11.cell? ⟨w9.heap.size, 0, none⟩ = some (.bool ma) := HQ3.out.cell 0
            have t3 : x11.cell? ⟨w9.heap.size, 1, none⟩ = some (.slice o3 ml.length e3) := HQ3.out.cell 1
            have y4 : x11.cell? ⟨x10.heap.size, 0, none⟩ = some (.bool la) := HQ4.out.cell 0
            have t4 : x11.cell? ⟨x10.heap.size, 1, none⟩ = some (.slice o4 ll.length e4) := HQ4.out.cell 1
            go_wp2_with (rw [HWx10.out, HWx11.out, HZx10.out])
            clear HWx10 HWx11 HZx10 HZx11
            clear y1 t1 y2 t2 y3 t3 y4 t4
            refine (sets14_any HT1.out HT3.out).mono ?_
            rintro e w12 ⟨rfl, hb⟩
            dsimp only
            have HM := Lib.hid (HM.out.later hb)
            have HR := Lib.hid (HR.out.later hb)
            have HQ := Lib.hid (HQ.out.later hb)
            have HT1 := Lib.hid (HT1.out.later hb)
            have HT2 := Lib.hid (HT2.out.later hb)
            have HQ1 := Lib.hid (HQ1.out.later hb)
            have HQ2 := Lib.hid (HQ2.out.later hb)
            have HT3 := Lib.hid (HT3.out.later hb)
            have HT4 := Lib.hid (HT4.out.later hb)
            have HQ3 := Lib.hid (HQ3.out.later hb)
            have HQ4 := Lib.hid (HQ4.out.later hb)
            have HK := Lib.hid (HK.out.trans (.of hb))
            clear hb
            have y1 : w12.cell? ⟨R11, 0, none⟩ = some (.bool ma) := HQ1.out.cell 0
            have t1 : w12.cell? ⟨R11, 1, none⟩ = some (.slice o1 ml.length e1) := HQ1.out.cell 1
            have y2 : w12.cell? ⟨R12, 0, none⟩ = some (.bool la) := HQ2.out.cell 0
            have t2 : w12.cell? ⟨R12, 1, none⟩ = some (.slice o2 ll.length e2) := HQ2.out.cell 1
            have y3 : w12.cell? ⟨w9.heap.size, 0, none⟩ = some (.bool ma) := HQ3.out.cell 0
            have t3 : w12.cell? ⟨w9.heap.size, 1, none⟩ = some (.slice o3 ml.length e3) := HQ3.out.cell 1
            have y4 : w12.cell? ⟨x10.heap.size, 0, none⟩ = some (.bool la) := HQ4.out.cell 0
            have t4 : w12.cell? ⟨x10.heap.size, 1, none⟩ = some (.slice o4 ll.length e4) := HQ4.out.cell 1
            go_wp2_with fail
            clear y1 t1 y2 t2 y3 t3 y4 t4
            refine (sets14_any HT2.out HT4.out).mono ?_
            rintro e w13 ⟨rfl, hb⟩
            dsimp only
            have HM := Lib.hid (HM.out.later hb)
            have HR := Lib.hid (HR.out.later hb)
            have HQ := Lib.hid (HQ.out.later hb)
            have HT1 := Lib.hid (HT1.out.later hb)
            have HT2 := Lib.hid (HT2.out.later hb)
            have HQ1 := Lib.hid (HQ1.out.later hb)
            have HQ2 := Lib.hid (HQ2.out.later hb)
            have HT3 := Lib.hid (HT3.out.later hb)
            have HT4 := Lib.hid (HT4.out.later hb)
            have HQ3 := Lib.hid (HQ3.out.later hb)
            have HQ4 := Lib.hid (HQ4.out.later hb)
            have HK := Lib.hid (HK.out.trans (.of hb))
            clear hb
            go_wp2_with fail
            go_meet
            exact ⟨by simp, V2, ⟨HM.out, HR.out, HK.out⟩, HQ.out⟩
        case rest =>
          obtain ⟨rfl, V2, hi, hq⟩ := hcut
          have HI := Lib.hid hi
          have HQ := Lib.hid hq
          have HF := Lib.hid hi.mg.rfit
          have HV := Lib.hid hi.mg.1
          clear hi hq d1 d2 d3 hρ5 HB0 HXB HNX
          go_wp2_with fail
          obtain ⟨ua, ul, hu⟩ : ∃ ua ul, uni V2 KD = ⟨ua, ul⟩ := ⟨_, _, rfl⟩
          have HU := Lib.hid hu
          clear hu
          obtain ⟨wa, wl, hu⟩ : ∃ wa wl, V2 ID KD = ⟨wa, wl⟩ := ⟨_, _, rfl⟩
          have HWN := Lib.hid hu
          clear hu
          obtain ⟨la, ll, hu⟩ : ∃ la ll, leanM (uni V2 KD) = ⟨la, ll⟩ := ⟨_, _, rfl⟩
          have HLN := Lib.hid hu
          clear hu
          refine (union_is HI.out.mg HID.out.2 HU.out).mono ?_
          rintro e w21 ⟨a1, c1, rfl, ht, hb⟩
          dsimp only
          have HI := Lib.hid (HI.out.later hb)
          have HQ := Lib.hid (HQ.out.later hb)
          have HT1 := Lib.hid ht
          clear ht
          clear hb
          go_wp2_with fail
          refine (runi_any HI.out.rf HF.out HID.out.2 HU.out).mono ?_
          rintro e w22 ⟨a2, c2, rfl, ht, hb⟩
          dsimp only
          have HI := Lib.hid (HI.out.later hb)
          have HQ := Lib.hid (HQ.out.later hb)
          have HT1 := Lib.hid (HT1.out.later hb)
          have HT2 := Lib.hid ht
          clear ht
          clear hb
          go_wp2_with fail
          refine (sets14_any HT1.out HT2.out).mono ?_
          rintro e w23 ⟨rfl, hb⟩
          dsimp only
          have HI := Lib.hid (HI.out.later hb)
          have HQ := Lib.hid (HQ.out.later hb)
          have HT1 := Lib.hid (HT1.out.later hb)
          have HT2 := Lib.hid (HT2.out.later hb)
          clear hb
          go_wp2_with fail
          clear HT1 HT2
          refine (want_is HI.out.mg HID.out.1 HID.out.2 HWN.out).mono ?_
          rintro e w24 ⟨a1, c1, rfl, ht, hb⟩
          dsimp only
          have HI := Lib.hid (HI.out.later hb)
          have HQ := Lib.hid (HQ.out.later hb)
          have HT1 := Lib.hid ht
          clear ht
          clear hb
          go_wp2_with fail
          refine (rwant_any HI.out.rf HV.out HWN.out).mono ?_
          rintro e w25 ⟨a2, c2, rfl, ht, hb⟩
          dsimp only
          have HI := Lib.hid (HI.out.later hb)
          have HQ := Lib.hid (HQ.out.later hb)
          have HT1 := Lib.hid (HT1.out.later hb)
          have HT2 := Lib.hid ht
          clear ht
          clear hb
          go_wp2_with fail
          refine (sets14_any HT1.out HT2.out).mono ?_
          rintro e w26 ⟨rfl, hb⟩
          dsimp only
          have HI := Lib.hid (HI.out.later hb)
          have HQ := Lib.hid (HQ.out.later hb)
          have HT1 := Lib.hid (HT1.out.later hb)
          have HT2 := Lib.hid (HT2.out.later hb)
          clear hb
          go_wp2_with fail
          clear HT1 HT2
          refine (lean_is HI.out.mg HID.out.2 HLN.out).mono ?_
          rintro e w27 ⟨a1, c1, rfl, ht, hb⟩
          dsimp only
          have HI := Lib.hid (HI.out.later hb)
          have HQ := Lib.hid (HQ.out.later hb)
          have HT1 := Lib.hid ht
          clear ht
          clear hb
          go_wp2_with fail
          refine (rlean_any HI.out.rf HF.out HID.out.2 HLN.out).mono ?_
          rintro e w28 ⟨a2, c2, rfl, ht, hb⟩
          dsimp only
          have HI := Lib.hid (HI.out.later hb)
          have HQ := Lib.hid (HQ.out.later hb)
          have HT1 := Lib.hid (HT1.out.later hb)
          have HT2 := Lib.hid ht
          clear ht
          clear hb
          go_wp2_with fail
          refine (sets14_any HT1.out HT2.out).mono ?_
          rintro e w29 ⟨rfl, hb⟩
          dsimp only
          have HI := Lib.hid (HI.out.later hb)
          have HQ := Lib.hid (HQ.out.later hb)
          have HT1 := Lib.hid (HT1.out.later hb)
          have HT2 := Lib.hid (HT2.out.later hb)
          clear hb
          clear HT1 HT2
          have z6 : w29.cell? ⟨R7, 6, none⟩ = some (.int .u8 (u.nm : Int)) := HQ.out.cell 6
          go_wp2_with fail
          clear z6
          refine (name10_any (b := u.nm) HOK.out.nm).mono ?_
          rintro e wn ⟨rfl, hb⟩
          dsimp only
          have HI := Lib.hid (HI.out.later hb)
          have HQ := Lib.hid (HQ.out.later hb)
          clear hb
          obtain ⟨x, hx⟩ : ∃ x, nmC u.nm = x := ⟨_, rfl⟩
          have hxl : x.length ≤ maxLen := by rw [← hx]; exact name_len
          rw [hx]
          have HXL := Lib.hid hxl
          clear hx hxl
          obtain ⟨wk, hwk, hb, qk⟩ := alloc_new wn #[.int .i64 KD, .string ⟨x.toArray⟩] 55
          have HI := Lib.hid (HI.out.later hb)
          have HQ := Lib.hid (HQ.out.later hb)
          have HQK := Lib.hid qk
          have HWK := Lib.hid hwk
          clear hwk hb qk
          have k0 : wk.cell? ⟨wn.heap.size, 0, none⟩ = some (.int .i64 KD) := HQK.out.cell 0
          have k1 : wk.cell? ⟨wn.heap.size, 1, none⟩ = some (.string ⟨x.toArray⟩) := HQK.out.cell 1
          go_wp2_with (rw [HWK.out])
          clear HWK k0 k1
          obtain ⟨Rk, hRk⟩ : ∃ R, wn.heap.size = R := ⟨_, rfl⟩
          rw [hRk] at HQK ⊢
          clear hRk
          obtain ⟨wl2, hw⟩ : ∃ l, whoL V2 KD x 32 = l := ⟨_, rfl⟩
          have hwn : wl2.length ≤ 32 := by rw [← hw]; exact whoL_len V2 KD x 32
          have HWL := Lib.hid hw
          clear hw
          refine (who_any (k := KD) (x := x) HI.out.mg HID.out.2).mono ?_
          rw [HWL.out]
          rintro e wa1 ⟨ka, kc, rfl, hrow, hb⟩
          dsimp only
          have HI := Lib.hid (HI.out.later hb)
          have HQ := Lib.hid (HQ.out.later hb)
          have HQK := Lib.hid (HQK.out.later hb)
          have HR1 := Lib.hid hrow
          clear hrow hb
          have k0 : wa1.cell? ⟨Rk, 0, none⟩ = some (.int .i64 KD) := HQK.out.cell 0
          have k1 : wa1.cell? ⟨Rk, 1, none⟩ = some (.string ⟨x.toArray⟩) := HQK.out.cell 1
          go_wp2_with fail
          clear k0 k1
          refine (rwho_any (k := KD) (x := x) HI.out.rf HF.out HXL.out).mono ?_
          rw [HWL.out]
          rintro e wb1 ⟨kb, kd, rfl, hrow, hb⟩
          dsimp only
          have HI := Lib.hid (HI.out.later hb)
          have HQ := Lib.hid (HQ.out.later hb)
          have HQK := Lib.hid (HQK.out.later hb)
          have HR1 := Lib.hid (HR1.out.below hb)
          have HR2 := Lib.hid hrow
          clear hrow hb HQK
          go_wp2_with fail
          go_loopw [25] (fun vn wr => ∃ n : Nat, vn = .int .i64 (n : Int) ∧ n ≤ wl2.length ∧ Below wb1.heap.size wb1 wr) (fun vn _ => wl2.length - (intOf vn).toNat)
          case atStart => exact ⟨0, rfl, Nat.zero_le _, Below.refl _ _⟩
          case round =>
            obtain ⟨n, rfl, hn, hb⟩ := hrel
            by_cases hnl : n < wl2.length
            · have f1 : (n : Int) < (wl2.length : Int) := by omega
              have f2 : IntKind.i64.wrap ((n : Int) + 1) = (n : Int) + 1 := by rw [IntKind.wrap_i64]; omega
              have f3 : (0 : Int) ≤ (n : Int) := by omega
              obtain ⟨b1, p1, ha1, g1⟩ := row_int HR1.out hnl
              obtain ⟨b2, p2, ha2, g2⟩ := row_int HR2.out hnl
              subst ha1
              subst ha2
              obtain ⟨zv, hzv⟩ : ∃ z, wl2[n] = z := ⟨_, rfl⟩
              rw [hzv] at g1 g2
              have HZV := Lib.hid hzv
              have g1 := below_cell hb g1
              have g2 := below_cell hb g2
              have HBj := Lib.hid hb
              clear hzv hb
              go_wp2_with fail
              go_region_held3 (fun w' => w'.cell? ⟨b1, p1 + n, none⟩ = some (.int .i64 zv) ∧ w'.cell? ⟨b2, p2 + n, none⟩ = some (.int .i64 zv)) (with_reducible first | exact ⟨g1, g2⟩ | go_keep) (fail)
              clear g1 g2
              go_wp2_with fail
              go_roundw
              case rel => exact ⟨n + 1, by go_num, by omega, by first | exact HBj.out.drew | exact HBj.out⟩
              case measure => simp [intOf]; omega
            · have f1 : ¬ (n : Int) < (wl2.length : Int) := by omega
              have HI := Lib.hid (HI.out.later hb)
              have HQ := Lib.hid (HQ.out.later hb)
              clear hb HR1 HR2 hnl hn
              obtain ⟨q, hq⟩ : ∃ q, u.many % 5 = q := ⟨_, rfl⟩
              have q5 : q < 5 := by omega
              obtain ⟨kk, hkk⟩ : ∃ kk, q + 1 = kk := ⟨_, rfl⟩
              have m1 : (u.many : Int).tmod 5 = (q : Int) := (mod_of14 _ _ _ hq).1
              have m2 : (u.many : Int) % 5 = (q : Int) := (mod_of14 _ _ _ hq).2
              have m3 : IntKind.u8.wrap (q : Int) = (q : Int) := u8_small' (by omega)
              have m4 : IntKind.i64.wrap (q : Int) = (q : Int) := by rw [IntKind.wrap_i64]; omega
              have m5 : IntKind.i64.wrap (1 + (q : Int)) = (kk : Int) := by rw [IntKind.wrap_i64]; omega
              have HKK := Lib.hid (show 1 ≤ kk ∧ kk ≤ 5 by omega)
              clear hq hkk q5
              go_wp2_with fail
              obtain ⟨KL, hKL⟩ : ∃ KL, keyL V2 (kk : Int) = KL := ⟨_, rfl⟩
              have HKL := Lib.hid hKL
              clear hKL
              obtain ⟨w1001, hw1002, hb1003⟩ := drew_new wr
              have q1004 := HI.out.later hb1003
              have q1005 := HQ.out.later hb1003
              refine wp_region_held_drew (S := (fun w' => w'.cell? ⟨R7, 5, none⟩ = some (.int .u8 (u.many : Int)) ∧ True)) (by kernel_rfl) (by rw [hw1002]; exact ⟨q1005.cell 5, trivial⟩) (fun hHeld => ?_)
              rw [hw1002] at hHeld ⊢
              refine wpAnyH_take (i := 0) (oi := { dst := some 180, op := Op.move (Operand.tmp 4), type := 24, pos := "law.go:136", after := #[], guard := none }) (v := ?v1001) rfl (by kernel_rfl) (by kernel_rfl) (by kernel_rfl) (fun _ _ _ h => h) (Or.inl ⟨by rfl, ?hy1001⟩) (by assumption) ?rest1001
              case hy1001 => (intro w1 hSw; (try dsimp only at hSw); obtain ⟨h0, -⟩ := hSw; go_simp; try with_reducible rfl)
              try simp only [Act.put, List.setIfInBounds_toArray, List.set_cons_zero, List.set_cons_succ]
              refine wpAnyH_take (i := 1) (oi := { dst := some 181, op := Op.fieldAddr 36 (Operand.tmp 7) 5, type := 0, pos := "law.go:136", after := #[], guard := none }) (v := ?v1002) rfl (by kernel_rfl) (by kernel_rfl) (by kernel_rfl) (fun _ _ _ h => h) (Or.inl ⟨by rfl, ?hy1002⟩) (by assumption) ?rest1002
              case hy1002 => (intro w1 hSw; (try dsimp only at hSw); obtain ⟨h0, -⟩ := hSw; go_simp; try with_reducible rfl)
              try simp only [Act.put, List.setIfInBounds_toArray, List.set_cons_zero, List.set_cons_succ]
              refine wpAnyH_take (i := 2) (oi := { dst := some 182, op := Op.load 5 (Operand.tmp 181), type := 5, pos := "law.go:136", after := #[{ on := 1, ground := Ground.data }], guard := none }) (v := ?v1003) rfl (by kernel_rfl) (by kernel_rfl) (by kernel_rfl) (fun _ _ _ h => h) (Or.inl ⟨by rfl, ?hy1003⟩) (by assumption) ?rest1003
              case hy1003 => (intro w1 hSw; (try dsimp only at hSw); obtain ⟨h0, -⟩ := hSw; go_simp; try with_reducible rfl)
              try simp only [Act.put, List.setIfInBounds_toArray, List.set_cons_zero, List.set_cons_succ]
              refine wpAnyH_take (i := 3) (oi := { dst := some 183, op := Op.binOp BinOp.rem 5 (Operand.tmp 182) (Operand.const (Value.int IntKind.u8 5)) 5, type := 5, pos := "law.go:136", after := #[{ on := 2, ground := Ground.data }], guard := none }) (v := ?v1004) rfl (by kernel_rfl) (by kernel_rfl) (by kernel_rfl) (fun _ _ _ h => h) (Or.inl ⟨by rfl, ?hy1004⟩) (by assumption) ?rest1004
              case hy1004 => (intro w1 hSw; (try dsimp only at hSw); obtain ⟨h0, -⟩ := hSw; go_simp; try with_reducible rfl)
              try simp only [Act.put, List.setIfInBounds_toArray, List.set_cons_zero, List.set_cons_succ]
              refine wpAnyH_take (i := 4) (oi := { dst := some 184, op := Op.convert 5 3 (Operand.tmp 183), type := 3, pos := "law.go:136", after := #[{ on := 3, ground := Ground.data }], guard := none }) (v := ?v1005) rfl (by kernel_rfl) (by kernel_rfl) (by kernel_rfl) (fun _ _ _ h => h) (Or.inl ⟨by rfl, ?hy1005⟩) (by assumption) ?rest1005
              case hy1005 => (intro w1 hSw; (try dsimp only at hSw); obtain ⟨h0, -⟩ := hSw; go_simp; try with_reducible rfl)
              try simp only [Act.put, List.setIfInBounds_toArray, List.set_cons_zero, List.set_cons_succ]
              refine wpAnyH_take (i := 5) (oi := { dst := some 185, op := Op.binOp BinOp.add 3 (Operand.const (Value.int IntKind.i64 1)) (Operand.tmp 184) 3, type := 3, pos := "law.go:136", after := #[{ on := 4, ground := Ground.data }], guard := none }) (v := ?v1006) rfl (by kernel_rfl) (by kernel_rfl) (by kernel_rfl) (fun _ _ _ h => h) (Or.inl ⟨by rfl, ?hy1006⟩) (by assumption) ?rest1006
              case hy1006 => (intro w1 hSw; (try dsimp only at hSw); obtain ⟨h0, -⟩ := hSw; go_simp; try with_reducible rfl)
              try simp only [Act.put, List.setIfInBounds_toArray, List.set_cons_zero, List.set_cons_succ]
              refine wpAnyH_take (i := 7) (oi := { dst := some 187, op := Op.move (Operand.tmp 5), type := 26, pos := "law.go:136", after := #[], guard := none }) (v := ?v1007) rfl (by kernel_rfl) (by kernel_rfl) (by kernel_rfl) (fun _ _ _ h => h) (Or.inl ⟨by rfl, ?hy1007⟩) (by assumption) ?rest1007
              case hy1007 => (intro w1 hSw; (try dsimp only at hSw); obtain ⟨h0, -⟩ := hSw; go_simp; try with_reducible rfl)
              try simp only [Act.put, List.setIfInBounds_toArray, List.set_cons_zero, List.set_cons_succ]
              refine wpAnyH_take (i := 8) (oi := { dst := some 188, op := Op.fieldAddr 36 (Operand.tmp 7) 5, type := 0, pos := "law.go:136", after := #[], guard := none }) (v := ?v1008) rfl (by kernel_rfl) (by kernel_rfl) (by kernel_rfl) (fun _ _ _ h => h) (Or.inl ⟨by rfl, ?hy1008⟩) (by assumption) ?rest1008
              case hy1008 => (intro w1 hSw; (try dsimp only at hSw); obtain ⟨h0, -⟩ := hSw; go_simp; try with_reducible rfl)
              try simp only [Act.put, List.setIfInBounds_toArray, List.set_cons_zero, List.set_cons_succ]
              refine wpAnyH_take (i := 9) (oi := { dst := some 189, op := Op.load 5 (Operand.tmp 188), type := 5, pos := "law.go:136", after := #[{ on := 8, ground := Ground.data }], guard := none }) (v := ?v1009) rfl (by kernel_rfl) (by kernel_rfl) (by kernel_rfl) (fun _ _ _ h => h) (Or.inl ⟨by rfl, ?hy1009⟩) (by assumption) ?rest1009
              case hy1009 => (intro w1 hSw; (try dsimp only at hSw); obtain ⟨h0, -⟩ := hSw; go_simp; try with_reducible rfl)
              try simp only [Act.put, List.setIfInBounds_toArray, List.set_cons_zero, List.set_cons_succ]
              refine wpAnyH_take (i := 10) (oi := { dst := some 190, op := Op.binOp BinOp.rem 5 (Operand.tmp 189) (Operand.const (Value.int IntKind.u8 5)) 5, type := 5, pos := "law.go:136", after := #[{ on := 9, ground := Ground.data }], guard := none }) (v := ?v1010) rfl (by kernel_rfl) (by kernel_rfl) (by kernel_rfl) (fun _ _ _ h => h) (Or.inl ⟨by rfl, ?hy1010⟩) (by assumption) ?rest1010
              case hy1010 => (intro w1 hSw; (try dsimp only at hSw); obtain ⟨h0, -⟩ := hSw; go_simp; try with_reducible rfl)
              try simp only [Act.put, List.setIfInBounds_toArray, List.set_cons_zero, List.set_cons_succ]
              refine wpAnyH_take (i := 11) (oi := { dst := some 191, op := Op.convert 5 3 (Operand.tmp 190), type := 3, pos := "law.go:136", after := #[{ on := 10, ground := Ground.data }], guard := none }) (v := ?v1011) rfl (by kernel_rfl) (by kernel_rfl) (by kernel_rfl) (fun _ _ _ h => h) (Or.inl ⟨by rfl, ?hy1011⟩) (by assumption) ?rest1011
              case hy1011 => (intro w1 hSw; (try dsimp only at hSw); obtain ⟨h0, -⟩ := hSw; go_simp; try with_reducible rfl)
              try simp only [Act.put, List.setIfInBounds_toArray, List.set_cons_zero, List.set_cons_succ]
              refine wpAnyH_take (i := 12) (oi := { dst := some 192, op := Op.binOp BinOp.add 3 (Operand.const (Value.int IntKind.i64 1)) (Operand.tmp 191) 3, type := 3, pos := "law.go:136", after := #[{ on := 11, ground := Ground.data }], guard := none }) (v := ?v1012) rfl (by kernel_rfl) (by kernel_rfl) (by kernel_rfl) (fun _ _ _ h => h) (Or.inl ⟨by rfl, ?hy1012⟩) (by assumption) ?rest1012
              case hy1012 => (intro w1 hSw; (try dsimp only at hSw); obtain ⟨h0, -⟩ := hSw; go_simp; try with_reducible rfl)
              try simp only [Act.put, List.setIfInBounds_toArray, List.set_cons_zero, List.set_cons_succ]
              refine wpAnyH_ready (rs := [6]) (by kernel_rfl) (by simp) ?_
              refine AllReadyH.cons (o := { dst := some 186, op := Op.call { callee := Callee.value (Operand.func 23), args := #[Operand.tmp 180, Operand.tmp 185], argTypes := #[24, 3] }, type := 27, pos := "law.go:136", after := #[{ on := 0, ground := Ground.data }, { on := 5, ground := Ground.data }], guard := none }) rfl (fun K hK => ?_) AllReadyH.nil
              go_simp
              refine (keys_is q1004.mg HKK.out HKL.out).mono ?_
              rintro e w1007 ⟨ka3, kc3, rfl, h1006, hb1008⟩
              have q1009 := q1004.later hb1008
              have q1010 := q1005.later hb1008
              refine hK.out _ _ (⟨q1010.cell 5, trivial⟩) (fun hHeld => ?_)
              clear hK K
              try simp only [Act.put, List.setIfInBounds_toArray, List.set_cons_zero, List.set_cons_succ]
              refine wpAnyH_ready (rs := [13]) (by kernel_rfl) (by simp) ?_
              refine AllReadyH.cons (o := { dst := some 193, op := Op.call { callee := Callee.value (Operand.func 24), args := #[Operand.tmp 187, Operand.tmp 192], argTypes := #[26, 3] }, type := 27, pos := "law.go:136", after := #[{ on := 7, ground := Ground.data }, { on := 12, ground := Ground.data }, { on := 6, ground := Ground.chain }], guard := none }) rfl (fun K hK => ?_) AllReadyH.nil
              go_simp
              refine (rkeys_is q1009.rf HF.out HKK.out HKL.out).mono ?_
              rintro e w1012 ⟨kb3, kd3, rfl, h1011, hb1013⟩
              have q1014 := q1009.later hb1013
              have q1015 := q1010.later hb1013
              have q1016 := h1006.later hb1013
              refine hK.out _ _ (⟨q1015.cell 5, trivial⟩) (fun hHeld => ?_)
              clear hK K
              try simp only [Act.put, List.setIfInBounds_toArray, List.set_cons_zero, List.set_cons_succ]
              refine wpAnyH_ready (rs := [14]) (by kernel_rfl) (by simp) ?_
              refine AllReadyH.cons (o := { dst := some 194, op := Op.call { callee := Callee.value (Operand.func 22), args := #[Operand.tmp 186, Operand.tmp 193], argTypes := #[27, 27] }, type := 4, pos := "law.go:136", after := #[{ on := 6, ground := Ground.data }, { on := 13, ground := Ground.data }, { on := 13, ground := Ground.chain }], guard := none }) rfl (fun K hK => ?_) AllReadyH.nil
              go_simp
              refine (texts14_any q1016 h1011).mono ?_
              rintro e w1017 ⟨rfl, hb1018⟩
              have q1019 := q1014.later hb1018
              have q1020 := q1015.later hb1018
              have q1021 := q1016.later hb1018
              have q1022 := h1011.later hb1018
              refine hK.out _ _ (⟨q1020.cell 5, trivial⟩) (fun hHeld => ?_)
              clear hK K
              try simp only [Act.put, List.setIfInBounds_toArray, List.set_cons_zero, List.set_cons_succ]
              refine wpAnyH_take (i := 15) (oi := { dst := some 26, op := Op.assign (Operand.tmp 194), type := 4, pos := "law.go:136", after := #[{ on := 14, ground := Ground.data }, { on := 14, ground := Ground.chain }, { on := 0, ground := Ground.phase }, { on := 1, ground := Ground.phase }, { on := 2, ground := Ground.phase }, { on := 3, ground := Ground.phase }, { on := 4, ground := Ground.phase }, { on := 5, ground := Ground.phase }, { on := 6, ground := Ground.phase }, { on := 7, ground := Ground.phase }, { on := 8, ground := Ground.phase }, { on := 9, ground := Ground.phase }, { on := 10, ground := Ground.phase }, { on := 11, ground := Ground.phase }, { on := 12, ground := Ground.phase }, { on := 13, ground := Ground.phase }, { on := 14, ground := Ground.phase }], guard := none }) (v := ?v1013) rfl (by kernel_rfl) (by kernel_rfl) (by kernel_rfl) (fun _ _ _ h => h) (Or.inl ⟨by rfl, ?hy1013⟩) (by assumption) ?rest1013
              case hy1013 => (intro w1 hSw; (try dsimp only at hSw); obtain ⟨h0, -⟩ := hSw; go_simp; try with_reducible rfl)
              try simp only [Act.put, List.setIfInBounds_toArray, List.set_cons_zero, List.set_cons_succ]
              refine wpAnyH_done (by kernel_rfl) ?_ _
              go_wp2_with fail
              go_roundw
              case rel => exact ⟨i + 1, V2, by go_num, by omega, by omega, q1019⟩
              case measure => simp [intOf]; omega
    · have hend : Below W.heap.size W wr := HB.out.trans ((HI.out.k.below (Nat.le_refl _)).mono HB.out.size)
      by_cases hl1 : i < l0
      · have b1 : (i : Int) < (l0 : Int) := by omega
        have b2 : ¬ (i : Int) < 50 := by omega
        clear hlt hl1
        go_wp2_with fail
        go_ret
        exact ⟨rfl, hend⟩
      · have b1 : ¬ (i : Int) < (l0 : Int) := by omega
        clear hlt hl1
        go_wp2_with fail
        go_ret
        exact ⟨rfl, hend⟩
end Go.Proofs.YtkjfafnnnkjoeaaGreatDoor
