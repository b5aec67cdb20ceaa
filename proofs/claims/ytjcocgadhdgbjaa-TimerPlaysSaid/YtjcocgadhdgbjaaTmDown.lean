/- timer: down of container/heap. -/
import Derived.Test.YtjcocgadhdgbjaaTmHeap
namespace Go.Proofs.Ytjcocgadhdgbjaa
open Go.RowKit

def DnRel (base p m : Nat) (v : Value) (h : List En) (i0 n : Nat) (w : World) (k : Nat) (w' : World) : Prop :=
  ∃ hh : List En, k < n ∧ i0 ≤ k ∧ hh.length = h.length ∧ downF hh k n = downF h i0 n ∧ PileAt base p m v hh hh w' ∧ idsOk hh ∧ Kept (Foot p m v) w w'
def DnPost (base p m : Nat) (v : Value) (i0 : Nat) (r : List En × Nat) (w : World) (e : Ending) (w' : World) : Prop := e = .returned (.bool (decide (i0 < r.2))) ∧ PileAt base p m v r.1 r.1 w' ∧ Kept (Foot p m v) w w'
set_option maxHeartbeats 4000000 in
set_option maxRecDepth 100000 in
theorem down_any (base p m : Nat) (v : Value) (h : List En) (i0 n : Nat) (w : World) (q : PileAt base p m v h h w) (hk : idsOk h) (hi : i0 < n) (hn : n ≤ h.length) (hs : h.length ≤ 1025) :
    Calls Try.prog 49 #[pileI p, .int .i64 (i0 : Int), .int .i64 (n : Int)] w (DnPost base p m v i0 (downF h i0 n) w) := by
  have m1 := Try.mLess
  have m2 := Try.mSwap
  have hR : DnRel base p m v h i0 n w i0 w := ⟨h, hi, Nat.le_refl _, rfl, rfl, q, hk, Kept.refl _ _⟩
  have HR := Lib.hid hR
  clear hR q
  go_enter Try.func49, Try.ntmps49
  go_wp2
  go_loopw [7] (fun iv wr => ∃ k : Nat, iv = .int .i64 (k : Int) ∧ DnRel base p m v h i0 n w k wr) (fun iv _ => n - (intOf iv).toNat)
  case atStart => exact ⟨i0, rfl, HR.out⟩
  case round =>
    obtain ⟨k, rfl, hh, hkn, hik, hl, hdn, q, hid, hkept⟩ := hrel
    have kb : (k : Int) ≤ 1025 := by omega
    have hs' : hh.length ≤ 1025 := by omega
    have hnl : n ≤ hh.length := by omega
    obtain ⟨a, ha⟩ : ∃ a, 2 * k + 1 = a := ⟨_, rfl⟩
    obtain ⟨b, hb⟩ : ∃ b, a + 1 = b := ⟨_, rfl⟩
    have hA : 2 * (k : Int) + 1 = (a : Int) := by omega
    have hB : (a : Int) + 1 = (b : Int) := by omega
    have ab : (a : Int) ≤ 2052 := by omega
    have a0 : ¬ ((a : Int) < 0) := by omega
    have HI := Lib.hid (And.intro hik (And.intro ha hb))
    by_cases hc : a < n
    · have hkl : k < hh.length := by omega
      have hal : a < hh.length := by omega
      have hak : k ≠ a := by omega
      have hbk : k ≠ b := by omega
      clear ha hb hik hi hn
      have n1 : ¬ n ≤ a := by omega
      have hchd : (b < n → b < hh.length) := by omega
      have HX := Lib.hid (And.intro hdn (And.intro (And.intro q hid) hkept))
      clear hdn q hid hkept
      by_cases hbn : b < n
      · have hbl := hchd hbn
        clear hchd
        cases hx : lsB (gt hh b) (gt hh a) with
        | true =>
          have hch : chd hh k n = b := by
            obtain ⟨_, ha, hb⟩ := HI.out
            unfold chd
            rw [show 2 * k + 2 = b from by omega, show 2 * k + 1 = a from ha, if_pos ⟨hbn, hx⟩]
          have HC := Lib.hid (And.intro hch hx)
          clear hch hx
          cases hl2 : lsB (gt hh b) (gt hh k) with
          | false =>
            have HL := Lib.hid hl2
            clear hl2
            go_wp2_with fail
            refine (less_any base p m v hh hh b a wr HX.out.2.1.1 hbl hal hs').mono ?_
            rintro e w1 ⟨rfl, hb1⟩
            rw [HC.out.2]
            go_wp2_with fail
            refine (less_any base p m v hh hh b k w1 (HX.out.2.1.1.below hb1) hbl hkl hs').mono ?_
            rintro e w2 ⟨rfl, hb2⟩
            rw [HL.out]
            go_wp2
            go_ret
            obtain ⟨hdn, ⟨q, hid⟩, hkept⟩ := HX.out
            rw [downF_stop (by rw [HC.out.1]; exact HL.out)] at hdn
            refine ⟨by rw [← hdn]; rfl, by rw [← hdn]; exact (q.below hb1).below hb2, (hkept.below' hb1).below' hb2⟩
          | true =>
            have HL := Lib.hid hl2
            clear hl2
            go_wp2_with fail
            refine (less_any base p m v hh hh b a wr HX.out.2.1.1 hbl hal hs').mono ?_
            rintro e w1 ⟨rfl, hb1⟩
            rw [HC.out.2]
            go_wp2_with fail
            refine (less_any base p m v hh hh b k w1 (HX.out.2.1.1.below hb1) hbl hkl hs').mono ?_
            rintro e w2 ⟨rfl, hb2⟩
            rw [HL.out]
            go_wp2_with fail
            refine (swap_any base p m v hh k b w2 ((HX.out.2.1.1.below hb1).below hb2) HX.out.2.1.2 hkl hbl hs' hbk).mono ?_
            rintro e w3 ⟨rfl, q3, hk3⟩
            go_wp2
            obtain ⟨hdn, ⟨q, hid⟩, hkept⟩ := HX.out
            obtain ⟨hik, ha, hb⟩ := HI.out
            have hgo := downF_go (h := hh) (i := k) (n := n) (by omega) (by rw [HC.out.1]; exact HL.out)
            rw [HC.out.1] at hgo
            go_roundw
            case rel => exact ⟨b, rfl, swp hh k b, by omega, by omega, by rw [swp_len]; exact hl, hgo.symm.trans hdn, q3, hid.perm (swp_perm hh k b hkl hbl), ((hkept.below' hb1).below' hb2).then hk3⟩
            case measure => simp [intOf]; omega
        | false =>
          have hch : chd hh k n = a := by
            obtain ⟨_, ha, hb⟩ := HI.out
            unfold chd
            rw [show 2 * k + 2 = b from by omega, show 2 * k + 1 = a from ha, if_neg (fun e => by rw [hx] at e; exact Bool.noConfusion e.2)]
          have HC := Lib.hid (And.intro hch hx)
          clear hch hx
          cases hl2 : lsB (gt hh a) (gt hh k) with
          | false =>
            have HL := Lib.hid hl2
            clear hl2
            go_wp2_with fail
            refine (less_any base p m v hh hh b a wr HX.out.2.1.1 hbl hal hs').mono ?_
            rintro e w1 ⟨rfl, hb1⟩
            rw [HC.out.2]
            go_wp2_with fail
            refine (less_any base p m v hh hh a k w1 (HX.out.2.1.1.below hb1) hal hkl hs').mono ?_
            rintro e w2 ⟨rfl, hb2⟩
            rw [HL.out]
            go_wp2
            go_ret
            obtain ⟨hdn, ⟨q, hid⟩, hkept⟩ := HX.out
            rw [downF_stop (by rw [HC.out.1]; exact HL.out)] at hdn
            refine ⟨by rw [← hdn]; rfl, by rw [← hdn]; exact (q.below hb1).below hb2, (hkept.below' hb1).below' hb2⟩
          | true =>
            have HL := Lib.hid hl2
            clear hl2
            go_wp2_with fail
            refine (less_any base p m v hh hh b a wr HX.out.2.1.1 hbl hal hs').mono ?_
            rintro e w1 ⟨rfl, hb1⟩
            rw [HC.out.2]
            go_wp2_with fail
            refine (less_any base p m v hh hh a k w1 (HX.out.2.1.1.below hb1) hal hkl hs').mono ?_
            rintro e w2 ⟨rfl, hb2⟩
            rw [HL.out]
            go_wp2_with fail
            refine (swap_any base p m v hh k a w2 ((HX.out.2.1.1.below hb1).below hb2) HX.out.2.1.2 hkl hal hs' hak).mono ?_
            rintro e w3 ⟨rfl, q3, hk3⟩
            go_wp2
            obtain ⟨hdn, ⟨q, hid⟩, hkept⟩ := HX.out
            obtain ⟨hik, ha, hb⟩ := HI.out
            have hgo := downF_go (h := hh) (i := k) (n := n) (by omega) (by rw [HC.out.1]; exact HL.out)
            rw [HC.out.1] at hgo
            go_roundw
            case rel => exact ⟨a, rfl, swp hh k a, by omega, by omega, by rw [swp_len]; exact hl, hgo.symm.trans hdn, q3, hid.perm (swp_perm hh k a hkl hal), ((hkept.below' hb1).below' hb2).then hk3⟩
            case measure => simp [intOf]; omega
      · have hch : chd hh k n = a := by
          obtain ⟨_, ha, hb⟩ := HI.out
          unfold chd
          rw [if_neg (by omega)]; exact ha
        have HC := Lib.hid hch
        clear hch hchd
        cases hl2 : lsB (gt hh a) (gt hh k) with
        | false =>
          have HL := Lib.hid hl2
          clear hl2
          go_wp2_with fail
          have hb1 : Below wr.heap.size wr wr := Below.refl _ _
          refine (less_any base p m v hh hh a k wr (HX.out.2.1.1.below hb1) hal hkl hs').mono ?_
          rintro e w2 ⟨rfl, hb2⟩
          rw [HL.out]
          go_wp2
          go_ret
          obtain ⟨hdn, ⟨q, hid⟩, hkept⟩ := HX.out
          rw [downF_stop (by rw [HC.out]; exact HL.out)] at hdn
          refine ⟨by rw [← hdn]; rfl, by rw [← hdn]; exact (q.below hb1).below hb2, (hkept.below' hb1).below' hb2⟩
        | true =>
          have HL := Lib.hid hl2
          clear hl2
          go_wp2_with fail
          have hb1 : Below wr.heap.size wr wr := Below.refl _ _
          refine (less_any base p m v hh hh a k wr (HX.out.2.1.1.below hb1) hal hkl hs').mono ?_
          rintro e w2 ⟨rfl, hb2⟩
          rw [HL.out]
          go_wp2_with fail
          refine (swap_any base p m v hh k a w2 ((HX.out.2.1.1.below hb1).below hb2) HX.out.2.1.2 hkl hal hs' hak).mono ?_
          rintro e w3 ⟨rfl, q3, hk3⟩
          go_wp2
          obtain ⟨hdn, ⟨q, hid⟩, hkept⟩ := HX.out
          obtain ⟨hik, ha, hb⟩ := HI.out
          have hgo := downF_go (h := hh) (i := k) (n := n) (by omega) (by rw [HC.out]; exact HL.out)
          rw [HC.out] at hgo
          go_roundw
          case rel => exact ⟨a, rfl, swp hh k a, by omega, by omega, by rw [swp_len]; exact hl, hgo.symm.trans hdn, q3, hid.perm (swp_perm hh k a hkl hal), ((hkept.below' hb1).below' hb2).then hk3⟩
          case measure => simp [intOf]; omega
    · clear ha hb hik hi hn
      have n1 : n ≤ a := by omega
      have HX := Lib.hid (And.intro hdn (And.intro q hkept))
      clear hdn q hid hkept
      go_wp2
      go_ret
      obtain ⟨hdn, q, hkept⟩ := HX.out
      obtain ⟨hik, ha, hb⟩ := HI.out
      rw [downF_end (by omega)] at hdn
      refine ⟨by rw [← hdn]; rfl, by rw [← hdn]; exact q, hkept⟩
end Go.Proofs.Ytjcocgadhdgbjaa
