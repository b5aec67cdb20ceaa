/- resource's law: alike, of a list twice. -/
import Derived.Test.YthihjedfnfbokaaDoorVrCutL
namespace Go.Proofs.YthihjedfnfbokaaDoor
open Go.RowKit

set_option maxRecDepth 100000 in
set_option maxHeartbeats 2000000 in
theorem alike_same (a b : Option Addr) (c d : Nat) (rs : List Vr) (w : World) (ha : VrsAt w a rs) (hb : VrsAt w b rs) (hLb : rs.length ≤ 1099511627776) :
    Calls Tryd.prog 16 #[.slice a rs.length c, .slice b rs.length d] w fun e w' => e = .returned (.bool true) ∧ Below w.heap.size w w' := by
  obtain ⟨L, hL⟩ : ∃ L, rs.length = L := ⟨_, rfl⟩
  rw [hL] at hLb ⊢
  have HL := Lib.hid hL; clear hL
  have HA := Lib.hid ha; clear ha
  have HB := Lib.hid hb; clear hb
  go_enter Tryd.func16, Tryd.ntmps16
  go_wp2_with fail
  go_loopw [5] (fun i wr => ∃ k : Nat, k ≤ L ∧ i = .int .i64 (k : Int) ∧ Below w.heap.size w wr) (fun i _ => L - (intOf i).toNat)
  case atStart => exact ⟨0, Nat.zero_le _, rfl, Below.refl _ _⟩
  case round =>
    obtain ⟨k, hk, rfl, hb⟩ := hrel
    by_cases hlt : k < L
    · have b1 : (k : Int) < (L : Int) := by omega
      have b0 : (0 : Int) ≤ (k : Int) := by omega
      obtain ⟨r, hx⟩ : ∃ r, rs[k]? = some r := ⟨_, List.getElem?_eq_getElem (by have := HL.out; omega)⟩
      obtain ⟨g, off, rfl, hgl, p0, p1, p2, p3, p4⟩ := (HA.out.below hb) k r hx
      obtain ⟨g', off', rfl, hgl', q0, q1, q2, q3, q4⟩ := (HB.out.below hb) k r hx
      have HBb := Lib.hid hb
      clear hx hb
      go_wp2_with fail
      go_region
      all_goals
        go_wp2_with fail
        go_roundw
        case rel => exact ⟨k + 1, by omega, by go_num, HBb.out.drew⟩
        case measure => simp [intOf]; omega
    · obtain rfl : k = L := by omega
      have HBb := Lib.hid hb
      clear hb
      go_wp2_with fail
      go_ret
      exact ⟨rfl, HBb.out⟩
end Go.Proofs.YthihjedfnfbokaaDoor
