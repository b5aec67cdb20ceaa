/- LinkQuiet: the walk. -/
import Derived.Test.YtkfbhiggnnjoiaaDoorLkEx
import Derived.LoopTactic
namespace Go.Proofs.YtkfbhiggnnjoiaaDoor
open Go.RowKit Go.Lib

theorem tick_to {b : Addr} {base l : Nat} {x : Lk} {A D : Bool} {t : Nat} {w : World} (h : LkIs b base l x w) (ht : x.tk ≤ 20) (hA : tickA x.tk = A) (hD : tickD x.tk = D) (hN : tickN x.tk = t) :
    Calls Tryd.prog 23 #[.pointer (some ⟨l, 0, none⟩)] w (LkPost b base l (.tuple #[.bool A, .bool D]) { x with tk := t } w) := by
  subst hA; subst hD; subst hN
  exact tick_is h ht
def Lk.tick (x : Lk) (t : Nat) : Lk := { x with tk := t }
def Qt (b : Addr) (base l j : Nat) (w0 wr : World) : Prop := LkIs b base l ((lk0 1).tick (j - 1)) wr ∧ Kept base w0 wr
theorem tick_q {b : Addr} {base l j : Nat} {A D : Bool} {w0 w : World} (h : Qt b base l j w0 w) (h1 : 1 ≤ j) (h2 : j ≤ 20) (hA : tickA (j - 1) = A) (hD : tickD (j - 1) = D) :
    Calls Tryd.prog 23 #[.pointer (some ⟨l, 0, none⟩)] w fun e w' => e = .returned (.tuple #[.bool A, .bool D]) ∧ Qt b base l (j + 1) w0 w' := by
  have hN : tickN (j - 1) = j := by unfold tickN; omega
  refine (tick_to h.1 (show j - 1 ≤ 20 by omega) hA hD hN).mono ?_
  rintro e w' ⟨rfl, hl, hk⟩
  exact ⟨rfl, hl, h.2.trans hk⟩
theorem heard_q {b : Addr} {base l j : Nat} {w0 w : World} (h : Qt b base l j w0 w) :
    Calls Tryd.prog 24 #[.pointer (some ⟨l, 0, none⟩)] w fun e w' => e = .returned (.tuple #[]) ∧ Qt b base l 1 w0 w' := by
  refine (heard_is h.1).mono ?_
  rintro e w' ⟨rfl, hl, hk⟩
  exact ⟨rfl, hl, h.2.trans hk⟩
theorem tickA_no {j : Nat} (h1 : 1 ≤ j) (h2 : j < 8) : tickA (j - 1) = false := by
  unfold tickA tickN; simp; omega
theorem tickA_yes {j : Nat} (h1 : 8 ≤ j) (h2 : j ≤ 19) (h4 : (j - 8) % 4 = 0) : tickA (j - 1) = true := by
  have : min (j - 1 + 1) 20 = j := by omega
  unfold tickA tickN; rw [this]; simp; omega
theorem tickA_odd {j : Nat} (h1 : 8 ≤ j) (h2 : j ≤ 19) (h4 : (j - 8) % 4 ≠ 0) : tickA (j - 1) = false := by
  have : min (j - 1 + 1) 20 = j := by omega
  unfold tickA tickN; rw [this]; simp; omega
theorem tickD_no {j : Nat} (h1 : 1 ≤ j) (h2 : j ≤ 19) : tickD (j - 1) = false := by
  unfold tickD tickN; simp; omega
theorem tickA_20 : tickA (20 - 1) = false := by decide
theorem tickD_20 : tickD (20 - 1) = true := by decide

theorem tickA_is {j : Nat} (h : j = 20) : tickA (j - 1) = false ∧ tickD (j - 1) = true := by subst h; exact ⟨tickA_20, tickD_20⟩
set_option maxRecDepth 100000 in
set_option maxHeartbeats 1000000 in
theorem quiet_walk (n : Nat) (b : Addr) (w : World) (hg : Gs b w) (hge : Ge w) (hn : n < 256) :
    Calls Tryd.prog 6 #[.int .u8 (n : Int)] w fun e w' => e = .returned (.bool true) ∧ Below w.heap.size w w' := by
  obtain ⟨M, hM⟩ : ∃ M, n % 20 = M := ⟨_, rfl⟩
  have hM19 : M ≤ 19 := by omega
  have hMi : (n : Int) % 20 = (M : Int) := by omega
  have HM := Lib.hid hMi; clear hMi hM
  have HG := Lib.hid (And.intro hg hge); clear hg hge
  go_enter Tryd.func6, Tryd.ntmps6
  go_wp2_with fail
  refine (examples_any b w HG.out.1 HG.out.2).mono ?_
  rintro e w1 ⟨rfl, hb1⟩
  have HB1 := Lib.hid hb1; clear hb1
  go_wp2_with fail
  refine (newLink_any b w.heap.size w1 HB1.out.size (HG.out.1.below HB1.out) (HG.out.2.below HB1.out) HG.out.2.2 HG.out.1.2).mono ?_
  rintro e w2 ⟨rfl, hl2, hk2⟩
  have HQ := Lib.hid (show Qt b w.heap.size w1.heap.size 1 w1 w2 from ⟨hl2, hk2⟩); clear hl2 hk2
  go_wp2_with fail
  go_loopw [5] (fun i wr => ∃ j : Nat, 1 ≤ j ∧ j ≤ M + 1 ∧ i = .int .i64 (j : Int) ∧ Qt b w.heap.size w1.heap.size j w1 wr) (fun i _ => 30 - (intOf i).toNat)
  case atStart => exact ⟨1, Nat.le_refl _, by omega, rfl, HQ.out⟩
  case round =>
    obtain ⟨j, hj1, hjM, rfl, hq⟩ := hrel
    have HQj := Lib.hid hq; clear hq
    have hMi := HM.out
    by_cases hle : j ≤ M
    · have hle' : (j : Int) ≤ (M : Int) := by omega
      by_cases h8 : j < 8
      · have e8 : ¬ (8 : Int) ≤ (j : Int) := by omega
        go_wp2_with fail
        refine (tick_q HQj.out hj1 (by omega) (tickA_no hj1 h8) (tickD_no hj1 (by omega))).mono ?_
        rintro e w' ⟨rfl, hq'⟩
        go_wp2
        go_roundw
        case rel => exact ⟨j + 1, by omega, by omega, by go_num, hq'⟩
        case measure => simp [intOf]; omega
      · have e8 : (8 : Int) ≤ (j : Int) := by omega
        by_cases h4 : (j - 8) % 4 = 0
        · have e4 : (((j : Int) - 8) % 4 == 0) = true := by simp; omega
          go_wp2_with fail
          refine (tick_q HQj.out hj1 (by omega) (tickA_yes (by omega) (by omega) h4) (tickD_no hj1 (by omega))).mono ?_
          rintro e w' ⟨rfl, hq'⟩
          go_wp2
          go_roundw
          case rel => exact ⟨j + 1, by omega, by omega, by go_num, hq'⟩
          case measure => simp [intOf]; omega
        · have e4 : (((j : Int) - 8) % 4 == 0) = false := by simp; omega
          go_wp2_with fail
          refine (tick_q HQj.out hj1 (by omega) (tickA_odd (by omega) (by omega) h4) (tickD_no hj1 (by omega))).mono ?_
          rintro e w' ⟨rfl, hq'⟩
          go_wp2
          go_roundw
          case rel => exact ⟨j + 1, by omega, by omega, by go_num, hq'⟩
          case measure => simp [intOf]; omega
    · have hle' : ¬ (j : Int) ≤ (M : Int) := by omega
      go_wp2_with fail
      clear hMi
      refine (heard_q HQj.out).mono ?_
      rintro e w3 ⟨rfl, hq3⟩
      have HQ3 := Lib.hid hq3; clear hq3
      clear hle' hle hj1 hjM HQj
      go_wp2_with fail
      go_loopw [8] (fun i wr => ∃ j : Nat, 1 ≤ j ∧ j ≤ 21 ∧ i = .int .i64 (j : Int) ∧ Qt b w.heap.size w1.heap.size j w1 wr) (fun i _ => 30 - (intOf i).toNat)
      case atStart => exact ⟨1, Nat.le_refl _, by omega, rfl, HQ3.out⟩
      case round =>
        obtain ⟨j, hj1, hjM, rfl, hq⟩ := hrel
        have HQj := Lib.hid hq; clear hq
        by_cases hle : j ≤ 20
        · have hle' : (j : Int) ≤ 20 := by omega
          by_cases h20 : j = 20
          · have e20 : ((j : Int) == 20) = true := by simp; omega
            have l20 : ¬ (j : Int) < 20 := by omega
            have hA := tickA_is h20
            have HA := Lib.hid hA; clear hA
            have H20 := Lib.hid h20; clear h20
            go_wp2_with fail
            refine (tick_q HQj.out hj1 (by have := H20.out; omega) HA.out.1 HA.out.2).mono ?_
            rintro e w' ⟨rfl, hq'⟩
            go_wp2
            go_roundw
            case rel => exact ⟨j + 1, by omega, by omega, by go_num, hq'⟩
            case measure => simp [intOf]; omega
          · have e20 : ((j : Int) == 20) = false := by simp; omega
            have l20 : (j : Int) < 20 := by omega
            by_cases h8 : j < 8
            · have e8 : ¬ (8 : Int) ≤ (j : Int) := by omega
              go_wp2_with fail
              refine (tick_q HQj.out hj1 (by omega) (tickA_no hj1 h8) (tickD_no hj1 (by omega))).mono ?_
              rintro e w' ⟨rfl, hq'⟩
              go_wp2
              go_roundw
              case rel => exact ⟨j + 1, by omega, by omega, by go_num, hq'⟩
              case measure => simp [intOf]; omega
            · have e8 : (8 : Int) ≤ (j : Int) := by omega
              by_cases h4 : (j - 8) % 4 = 0
              · have e4 : (((j : Int) - 8) % 4 == 0) = true := by simp; omega
                go_wp2_with fail
                refine (tick_q HQj.out hj1 (by omega) (tickA_yes (by omega) (by omega) h4) (tickD_no hj1 (by omega))).mono ?_
                rintro e w' ⟨rfl, hq'⟩
                go_wp2
                go_roundw
                case rel => exact ⟨j + 1, by omega, by omega, by go_num, hq'⟩
                case measure => simp [intOf]; omega
              · have e4 : (((j : Int) - 8) % 4 == 0) = false := by simp; omega
                go_wp2_with fail
                refine (tick_q HQj.out hj1 (by omega) (tickA_odd (by omega) (by omega) h4) (tickD_no hj1 (by omega))).mono ?_
                rintro e w' ⟨rfl, hq'⟩
                go_wp2
                go_roundw
                case rel => exact ⟨j + 1, by omega, by omega, by go_num, hq'⟩
                case measure => simp [intOf]; omega
        · have hle' : ¬ (j : Int) ≤ 20 := by omega
          go_wp2
          go_ret
          exact ⟨rfl, HB1.out.trans (HQj.out.2.below HB1.out.size)⟩
end Go.Proofs.YtkfbhiggnnjoiaaDoor
