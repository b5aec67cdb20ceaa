/- resource: hasOtherKind; is there one among the fields? -/
import Derived.Test.YtjolgalfjahceaaGreatDoorVrPut
namespace Go.Proofs.YtjolgalfjahceaaGreatDoor
open Go.RowKit

set_option maxRecDepth 100000 in
set_option maxHeartbeats 1000000 in
theorem other_any (num kind : Nat) (v : Int) (s : ByteArray) (l : List UInt8) (n : Nat) (w : World) :
    Calls Tryz.prog 36 #[.agg #[.int .i64 (num : Int), .int .i64 (kind : Int), .int .u64 v, .string s]] w fun e w' => e = .returned (.bool (othK ⟨num, kind, n, l⟩)) ∧ Below w.heap.size w w' := by
  have hb0 := Lib.hid ((Below.refl w.heap.size w).alloc (Nat.le_refl _) (.cells #[.int .i64 (num : Int), .int .i64 (kind : Int), .int .u64 v, .string s] 62))
  by_cases hA : num = 1 ∨ num = 3 ∨ num = 4
  · have hv : othK ⟨num, kind, n, l⟩ = !(decide (kind = 0)) := by unfold othK; rw [if_pos hA]; cases h : (kind == 0) <;> simp_all
    rw [hv]
    obtain ⟨B, hB⟩ : ∃ B, decide (kind = 0) = B := ⟨_, rfl⟩
    have hk : ((kind : Int) != 0) = !B := by rw [← hB]; by_cases h : kind = 0 <;> simp [h]
    have hk2 : ((kind : Int) == 0) = B := by rw [← hB]; by_cases h : kind = 0 <;> simp [h]
    rw [hB]
    clear hv hB
    rcases hA with rfl | rfl | rfl
    all_goals
      go_enter Tryz.func36, Tryz.ntmps36
      go_wp2_with fail
      go_ret
      exact ⟨rfl, hb0.out⟩
  · by_cases hC : num = 2 ∨ num = 5
    · have hv : othK ⟨num, kind, n, l⟩ = !(decide (kind = 2)) := by unfold othK; rw [if_neg hA, if_pos hC]; cases h : (kind == 2) <;> simp_all
      rw [hv]
      obtain ⟨B, hB⟩ : ∃ B, decide (kind = 2) = B := ⟨_, rfl⟩
      have hk : ((kind : Int) != 2) = !B := by rw [← hB]; by_cases h : kind = 2 <;> simp [h]; omega
      have hk2 : ((kind : Int) == 2) = B := by rw [← hB]; by_cases h : kind = 2 <;> simp [h]; omega
      rw [hB]
      clear hv hB hA
      rcases hC with rfl | rfl
      all_goals
        go_enter Tryz.func36, Tryz.ntmps36
        go_wp2_with fail
        go_ret
        exact ⟨rfl, hb0.out⟩
    · have hv : othK ⟨num, kind, n, l⟩ = false := by unfold othK; rw [if_neg hA, if_neg hC]
      rw [hv]
      have e1 : ((num : Int) == 1) = false := by simp; omega
      have e2 : ((num : Int) == 2) = false := by simp; omega
      have e3 : ((num : Int) == 3) = false := by simp; omega
      have e4 : ((num : Int) == 4) = false := by simp; omega
      have e5 : ((num : Int) == 5) = false := by simp; omega
      clear hv hA hC
      go_enter Tryz.func36, Tryz.ntmps36
      go_wp2_with fail
      go_ret
      exact ⟨rfl, hb0.out⟩
end Go.Proofs.YtjolgalfjahceaaGreatDoor
