/- merge: checkDrop, Drop. -/
import Derived.Test.YtkjfafnnnkjoeaaGreatDoorMgOps
namespace Go.Proofs.YtkjfafnnnkjoeaaGreatDoor
open Go.RowKit Go.Lib

/-- Does that id want something? -/
def wantsAny (W : Wants) (i : Int) : Bool := [1, 2, 3, 4, 5].any fun k => !nEmpty (W i k)
/-- What checkDrop answers. -/
def chkD (W : Wants) (i : Int) : Nat := if wantsAny W i then 0 else 5
open Classical in
noncomputable def wdrop (W : Wants) (i : Int) : Wants := fun i' k' => if i' = i then Ns.zero else W i' k'
set_option maxRecDepth 100000 in
set_option maxHeartbeats 4000000 in
theorem chkDrop_any {base m : Nat} {W : Wants} {i : Int} {a f n : Addr} {w : World} (h : MgIs base m W w) (hg : Gm a f n w) (hi : i64B i) :
    Calls Tryz.prog 27 #[.pointer (some ⟨m, 0, none⟩), .int .i64 i] w fun e w' => e = .returned (ernV a f n i (chkD W i)) ∧ Below w.heap.size w w' := by
  have HM := Lib.hid h
  have HG := Lib.hid hg
  clear h hg
  go_enter Tryz.func27, Tryz.ntmps27
  go_wp2_with fail
  go_loopw [5] (fun vk wr => ∃ k : Nat, vk = .int .i64 ((k : Int) + 1) ∧ k ≤ 5 ∧ (∀ j : Nat, 1 ≤ j → j ≤ k → nEmpty (W i (j : Int)) = true) ∧ Below w.heap.size w wr) (fun vk _ => 6 - (intOf vk).toNat)
  case atStart => exact ⟨0, rfl, Nat.zero_le _, fun j h1 h2 => by omega, Below.refl _ _⟩
  case round =>
    obtain ⟨k, rfl, hk, hemp, hb⟩ := hrel
    by_cases hlt : k < 5
    · have hm := HM.out.later hb
      obtain ⟨hwo, hwf, mw, mc, C, D, hin⟩ := hm
      have c1 : wr.cell? ⟨m, 0, none⟩ = some (.map (some mw)) := hin.blk.cell 0
      have hkb : i64B ((k : Int) + 1) := by unfold i64B; omega
      obtain ⟨oA, oc, hwv, hot⟩ := (hin.wv i ((k : Int) + 1)).val
      have hlk := hin.lookW hi hkb
      rw [hwv] at hlk
      have b1 : (k : Int) + 1 ≤ 5 := by omega
      have b2 : IntKind.i64.wrap ((k : Int) + 1 + 1) = (k : Int) + 1 + 1 := by rw [IntKind.wrap_i64]; omega
      have HE := Lib.hid hemp
      have HB := Lib.hid hb
      obtain ⟨s, hs⟩ : ∃ s, W i ((k : Int) + 1) = s := ⟨_, rfl⟩
      rw [hs] at hlk
      have HS := Lib.hid hs
      obtain ⟨E, hE⟩ : ∃ E, nEmpty ⟨s.all, s.ns⟩ = E := ⟨_, rfl⟩
      have HEM := Lib.hid (empty_any (a := oA) (c := oc) (w := wr) hE)
      have HEE := Lib.hid hE
      clear hin hwo hwf hwv hot hemp hb hs hE
      cases E with
      | true =>
        go_wp2_with fail
        refine HEM.out.mono ?_
        rintro e w2 ⟨rfl, hb2⟩
        have HB := Lib.hid (HB.out.trans (hb2.mono HB.out.size))
        clear hb2 hlk c1
        go_wp2_with fail
        go_roundw
        case rel => exact ⟨k + 1, by go_num, by omega, fun j h1 h2 => by
          by_cases e : j ≤ k
          · exact HE.out j h1 e
          · obtain rfl : j = k + 1 := by omega
            have : ((k + 1 : Nat) : Int) = (k : Int) + 1 := by omega
            rw [this, HS.out]; exact HEE.out, HB.out⟩
        case measure => simp [intOf]; omega
      | false =>
        have HW := Lib.hid (show wantsAny W i = true by
          unfold wantsAny
          rw [List.any_eq_true]
          refine ⟨(k : Int) + 1, ?_, by rw [HS.out, show nEmpty s = false from HEE.out]; rfl⟩
          have : k = 0 ∨ k = 1 ∨ k = 2 ∨ k = 3 ∨ k = 4 := by omega
          rcases this with rfl | rfl | rfl | rfl | rfl <;> simp)
        go_wp2_with fail
        refine HEM.out.mono ?_
        rintro e w2 ⟨rfl, hb2⟩
        have HB := Lib.hid (HB.out.trans (hb2.mono HB.out.size))
        clear hb2 hlk c1
        go_wp2_with fail
        go_ret
        exact ⟨by rw [show chkD W i = _ from congrArg (fun b : Bool => if b then 0 else 5) HW.out]; rfl, HB.out⟩
    · obtain rfl : k = 5 := by omega
      have b1 : ¬ (((5 : Nat) : Int) + 1 ≤ 5) := by omega
      rw [show ((5 : Nat) : Int) + 1 = 6 from rfl] at b1 ⊢
      have HG2 := HG.out.later hb
      have z0 := HG2.cn
      have HB := Lib.hid hb
      have HW := Lib.hid (show wantsAny W i = false by
        unfold wantsAny
        rw [List.any_eq_false]
        intro x hx
        have e1 := hemp 1 (by omega) (by omega)
        have e2 := hemp 2 (by omega) (by omega)
        have e3 := hemp 3 (by omega) (by omega)
        have e4 := hemp 4 (by omega) (by omega)
        have e5 := hemp 5 (by omega) (by omega)
        simp only [List.mem_cons, List.not_mem_nil, or_false] at hx
        rcases hx with rfl | rfl | rfl | rfl | rfl
        · rw [show nEmpty (W i 1) = true from e1]; decide
        · rw [show nEmpty (W i 2) = true from e2]; decide
        · rw [show nEmpty (W i 3) = true from e3]; decide
        · rw [show nEmpty (W i 4) = true from e4]; decide
        · rw [show nEmpty (W i 5) = true from e5]; decide)
      clear HG2 hemp hb hk hlt
      go_wp2_with fail
      go_ret
      exact ⟨by rw [show chkD W i = _ from congrArg (fun b : Bool => if b then 0 else 5) HW.out]; rfl, HB.out⟩
theorem set_zero {W : Wants} (h1 : WOk W) (h2 : WFit W) {i k : Int} (hb : badI i k = false) : setE W i k Ns.zero = 0 ∧ setW W i k Ns.zero = wset W i k Ns.zero := by
  have hl : (nList (uni (wset W i k Ns.zero) k)).length ≤ 64 := by
    refine Nat.le_trans (nodup_len (list_nodup (nsr_uni (wset_ok h1 nsr_zero hb) k)) fun x hx => ?_) (h2.n k)
    rw [mem_list_uni] at hx ⊢
    have hi : i ∈ ids := mem_ids.2 (badI_no.1 hb).1
    have := cnt_set (W := W) (k := k) (s := Ns.zero) hi x
    have e : (nList Ns.zero).contains x = false := rfl
    rw [e] at this
    simp only [Bool.false_eq_true, if_false] at this
    omega
  have e : setE W i k Ns.zero = 0 := by
    unfold setE
    rw [if_neg (by rw [hb]; decide), if_neg (by show ¬ 64 < 0; omega), if_neg (by omega)]
  exact ⟨e, by unfold setW; rw [if_pos e]⟩
open Classical in
/-- Of the first types nothing is wanted any more. -/
noncomputable def wdrops (W : Wants) (i : Int) (n : Nat) : Wants := fun i' k' => if i' = i ∧ 1 ≤ k' ∧ k' ≤ (n : Int) then Ns.zero else W i' k'
theorem wdrops_zero (W : Wants) (i : Int) : wdrops W i 0 = W := by
  funext i' k'
  unfold wdrops
  rw [if_neg (by omega)]
theorem wdrops_next (W : Wants) (i : Int) (n : Nat) : wset (wdrops W i n) i ((n : Int) + 1) Ns.zero = wdrops W i (n + 1) := by
  funext i' k'
  unfold wset wdrops
  by_cases h : i' = i ∧ k' = (n : Int) + 1
  · rw [if_pos h, if_pos ⟨h.1, by omega, by omega⟩]
  · rw [if_neg h]
    by_cases h2 : i' = i ∧ 1 ≤ k' ∧ k' ≤ (n : Int)
    · rw [if_pos h2, if_pos ⟨h2.1, h2.2.1, by omega⟩]
    · rw [if_neg h2, if_neg (by rintro ⟨h3, h4, h5⟩; exact h2 ⟨h3, h4, by
        have : k' ≠ (n : Int) + 1 := fun e => h ⟨h3, e⟩
        omega⟩)]
theorem wdrops_all {W : Wants} (h : WOk W) (i : Int) : wdrops W i 5 = wdrop W i := by
  funext i' k'
  unfold wdrops wdrop
  by_cases hi : i' = i
  · rw [if_pos hi]
    by_cases hk : 1 ≤ k' ∧ k' ≤ 5
    · rw [if_pos ⟨hi, hk.1, by have := hk.2; omega⟩]
    · rw [if_neg (by rintro ⟨_, h1, h2⟩; exact hk ⟨h1, by omega⟩)]
      refine h.z i' k' ?_
      unfold badI
      simp only [Bool.or_eq_true, decide_eq_true_eq]
      omega
  · rw [if_neg hi, if_neg (fun e => hi e.1)]
noncomputable def dropW (W : Wants) (i : Int) : Wants := if chkD W i = 0 then wdrop W i else W
def DropIs (base m : Nat) (W : Wants) (i : Int) (w : World) (e : Ending) (w' : World) : Prop := e = .returned (.int .i64 (chkD W i : Int)) ∧ MgIs base m (dropW W i) w' ∧ KeptM base w w'
theorem wants_good {W : Wants} (h : WOk W) {i : Int} (hw : wantsAny W i = true) : 1 ≤ i ∧ i ≤ 32 := by
  unfold wantsAny at hw
  obtain ⟨k, hk, hn⟩ := List.any_eq_true.1 hw
  by_cases hb : badI i k = true
  · rw [h.z i k hb] at hn; cases hn
  · exact (badI_no.1 (by simpa using hb)).1
set_option maxRecDepth 100000 in
set_option maxHeartbeats 4000000 in
theorem mgDrop_any {base m : Nat} {W : Wants} {i : Int} {a f n : Addr} {w : World} (h : MgIs base m W w) (hg : Gm a f n w) (hi : i64B i) :
    Calls Tryz.prog 6 #[.pointer (some ⟨m, 0, none⟩), .int .i64 i] w (DropIs base m W i w) := by
  have HM := Lib.hid h
  have HG := Lib.hid hg
  have HC := Lib.hid (chkDrop_any h hg hi)
  clear h hg
  by_cases hw : wantsAny W i = true
  · have hc : chkD W i = 0 := by unfold chkD; rw [if_pos hw]
    have HE := Lib.hid (show chkD W i = 0 ∧ dropW W i = wdrop W i from ⟨hc, by unfold dropW; rw [if_pos hc]⟩)
    rw [hc, show ernV a f n i 0 = .nilIface from rfl] at HC
    obtain ⟨i1, i2⟩ := wants_good HM.out.1 hw
    have HIB := Lib.hid (And.intro i1 i2)
    clear hw hc i1 i2
    go_enter Tryz.func6, Tryz.ntmps6
    go_wp2_with fail
    refine HC.out.mono ?_
    rintro e w2 ⟨rfl, hb⟩
    have HM2 := Lib.hid (HM.out.later hb)
    have HK2 := Lib.hid (KeptM.of (B := base) hb)
    clear hb HC
    go_wp2_with fail
    go_loopw [6] (fun vk wr => ∃ k : Nat, vk = .int .i64 ((k : Int) + 1) ∧ k ≤ 5 ∧ MgIs base m (wdrops W i k) wr ∧ KeptM base w wr) (fun vk _ => 6 - (intOf vk).toNat)
    case atStart => exact ⟨0, rfl, Nat.zero_le _, by rw [wdrops_zero]; exact HM2.out, HK2.out⟩
    case round =>
      clear HM2 HK2
      obtain ⟨k, rfl, hk, hm, hkp⟩ := hrel
      by_cases hlt : k < 5
      · have b1 : (k : Int) + 1 ≤ 5 := by omega
        have b2 : IntKind.i64.wrap ((k : Int) + 1 + 1) = (k : Int) + 1 + 1 := by rw [IntKind.wrap_i64]; omega
        have hb : badI i ((k : Int) + 1) = false := badI_no.2 ⟨HIB.out, by omega, by omega⟩
        have hs := set_any (base := base) (m := m) (W := wdrops W i k) (i := i) (k := (k : Int) + 1) (sa := false) (sl := []) (a1 := none) (c1 := 0) hm (hkp.gm HG.out) (RowV.nil _ _ _ (Nat.zero_le _)) nsr_zero (Nat.zero_le _) (fun x hx => by cases hx)
        have HS := Lib.hid (show Calls Tryz.prog 8 #[.pointer (some ⟨m, 0, none⟩), .int .i64 i, .int .i64 ((k : Int) + 1), .agg #[.bool false, .slice none 0 0]] wr (SetIs base m (wdrops W i k) i ((k : Int) + 1) Ns.zero wr) from hs)
        have HZ := Lib.hid (set_zero hm.1 hm.2.1 hb)
        have HKP := Lib.hid hkp
        clear hs hb hm hkp
        go_wp2_with fail
        refine HS.out.mono ?_
        rintro e w3 ⟨v1, v2, rfl, -, -, hm3, hk3⟩
        rw [HZ.out.2, wdrops_next] at hm3
        have HE3 := Lib.hid (And.intro hm3 (HKP.out.trans hk3))
        clear hm3 hk3 HS
        go_wp2_with fail
        go_roundw
        case rel => exact ⟨k + 1, by go_num, by omega, HE3.out.1, HE3.out.2⟩
        case measure => simp [intOf]; omega
      · obtain rfl : k = 5 := by omega
        have b1 : ¬ (((5 : Nat) : Int) + 1 ≤ 5) := by omega
        rw [show ((5 : Nat) : Int) + 1 = 6 from rfl] at b1 ⊢
        rw [wdrops_all HM.out.1] at hm
        have HF := Lib.hid (show DropIs base m W i w (.returned (.int .i64 0)) wr from ⟨by rw [HE.out.1]; rfl, by rw [HE.out.2]; exact hm, hkp⟩)
        clear hm hkp hk hlt
        go_wp2_with fail
        go_ret
        exact HF.out
  · have hc : chkD W i = 5 := by unfold chkD; rw [if_neg hw]
    have HE := Lib.hid (show chkD W i = 5 ∧ dropW W i = W from ⟨hc, by unfold dropW; rw [if_neg (by rw [hc]; decide)]⟩)
    rw [hc, show ernV a f n i 5 = fG i n from rfl] at HC
    clear hw hc
    go_enter Tryz.func6, Tryz.ntmps6
    go_wp2_with fail
    refine HC.out.mono ?_
    rintro e w2 ⟨rfl, hb⟩
    have HEN := Lib.hid (show Calls Tryz.prog 28 #[fG i n] w2 (fun r w' => r = .returned (.int .i64 5) ∧ Below w2.heap.size w2 w') from errno_any a f n i 5 (by decide) w2 (HG.out.later hb))
    have HB := Lib.hid hb
    clear hb HC
    go_wp2_with fail
    refine HEN.out.mono ?_
    rintro e w3 ⟨rfl, hb3⟩
    have hbb := HB.out.trans (hb3.mono HB.out.size)
    have HF := Lib.hid (show DropIs base m W i w (.returned (.int .i64 5)) w3 from ⟨by rw [HE.out.1]; rfl, by rw [HE.out.2]; exact HM.out.later hbb, .of hbb⟩)
    clear hb3 hbb HEN
    go_wp2_with fail
    go_ret
    exact HF.out
end Go.Proofs.YtkjfafnnnkjoeaaGreatDoor
