/- merge: strconv.Itoa of 1 to 32. -/
import Derived.Test.YtkjfafnnnkjoeaaGreatDoorMgWho
namespace Go.Proofs.YtkjfafnnnkjoeaaGreatDoor
open Go.RowKit

/-- The digits of a number below 100. -/
def dgT (n : Nat) : List UInt8 := if n < 10 then [UInt8.ofNat (48 + n)] else [UInt8.ofNat (48 + n / 10), UInt8.ofNat (48 + n % 10)]
theorem dgT_len (n : Nat) : (dgT n).length ≤ 2 := by unfold dgT; split <;> simp
set_option maxRecDepth 100000 in
set_option maxHeartbeats 2000000 in
theorem mItoa_1 (w : World) : Calls Tryz.prog 42 #[.int .i64 1] w fun e w' => e = .returned (.string ⟨#[49]⟩) ∧ w' = w := by
  go_enter Tryz.func42, Tryz.ntmps42
  go_wp2
  go_ret
  exact ⟨rfl, rfl⟩
set_option maxRecDepth 100000 in
set_option maxHeartbeats 2000000 in
theorem mItoa_2 (w : World) : Calls Tryz.prog 42 #[.int .i64 2] w fun e w' => e = .returned (.string ⟨#[50]⟩) ∧ w' = w := by
  go_enter Tryz.func42, Tryz.ntmps42
  go_wp2
  go_ret
  exact ⟨rfl, rfl⟩
set_option maxRecDepth 100000 in
set_option maxHeartbeats 2000000 in
theorem mItoa_3 (w : World) : Calls Tryz.prog 42 #[.int .i64 3] w fun e w' => e = .returned (.string ⟨#[51]⟩) ∧ w' = w := by
  go_enter Tryz.func42, Tryz.ntmps42
  go_wp2
  go_ret
  exact ⟨rfl, rfl⟩
set_option maxRecDepth 100000 in
set_option maxHeartbeats 2000000 in
theorem mItoa_4 (w : World) : Calls Tryz.prog 42 #[.int .i64 4] w fun e w' => e = .returned (.string ⟨#[52]⟩) ∧ w' = w := by
  go_enter Tryz.func42, Tryz.ntmps42
  go_wp2
  go_ret
  exact ⟨rfl, rfl⟩
set_option maxRecDepth 100000 in
set_option maxHeartbeats 2000000 in
theorem mItoa_5 (w : World) : Calls Tryz.prog 42 #[.int .i64 5] w fun e w' => e = .returned (.string ⟨#[53]⟩) ∧ w' = w := by
  go_enter Tryz.func42, Tryz.ntmps42
  go_wp2
  go_ret
  exact ⟨rfl, rfl⟩
set_option maxRecDepth 100000 in
set_option maxHeartbeats 2000000 in
theorem mItoa_6 (w : World) : Calls Tryz.prog 42 #[.int .i64 6] w fun e w' => e = .returned (.string ⟨#[54]⟩) ∧ w' = w := by
  go_enter Tryz.func42, Tryz.ntmps42
  go_wp2
  go_ret
  exact ⟨rfl, rfl⟩
set_option maxRecDepth 100000 in
set_option maxHeartbeats 2000000 in
theorem mItoa_7 (w : World) : Calls Tryz.prog 42 #[.int .i64 7] w fun e w' => e = .returned (.string ⟨#[55]⟩) ∧ w' = w := by
  go_enter Tryz.func42, Tryz.ntmps42
  go_wp2
  go_ret
  exact ⟨rfl, rfl⟩
set_option maxRecDepth 100000 in
set_option maxHeartbeats 2000000 in
theorem mItoa_8 (w : World) : Calls Tryz.prog 42 #[.int .i64 8] w fun e w' => e = .returned (.string ⟨#[56]⟩) ∧ w' = w := by
  go_enter Tryz.func42, Tryz.ntmps42
  go_wp2
  go_ret
  exact ⟨rfl, rfl⟩
set_option maxRecDepth 100000 in
set_option maxHeartbeats 2000000 in
theorem mItoa_9 (w : World) : Calls Tryz.prog 42 #[.int .i64 9] w fun e w' => e = .returned (.string ⟨#[57]⟩) ∧ w' = w := by
  go_enter Tryz.func42, Tryz.ntmps42
  go_wp2
  go_ret
  exact ⟨rfl, rfl⟩
set_option maxRecDepth 100000 in
set_option maxHeartbeats 2000000 in
theorem mItoa_10 (w : World) : Calls Tryz.prog 42 #[.int .i64 10] w fun e w' => e = .returned (.string ⟨#[49,48]⟩) ∧ w' = w := by
  go_enter Tryz.func42, Tryz.ntmps42
  go_wp2
  go_ret
  exact ⟨rfl, rfl⟩
set_option maxRecDepth 100000 in
set_option maxHeartbeats 2000000 in
theorem mItoa_11 (w : World) : Calls Tryz.prog 42 #[.int .i64 11] w fun e w' => e = .returned (.string ⟨#[49,49]⟩) ∧ w' = w := by
  go_enter Tryz.func42, Tryz.ntmps42
  go_wp2
  go_ret
  exact ⟨rfl, rfl⟩
set_option maxRecDepth 100000 in
set_option maxHeartbeats 2000000 in
theorem mItoa_12 (w : World) : Calls Tryz.prog 42 #[.int .i64 12] w fun e w' => e = .returned (.string ⟨#[49,50]⟩) ∧ w' = w := by
  go_enter Tryz.func42, Tryz.ntmps42
  go_wp2
  go_ret
  exact ⟨rfl, rfl⟩
set_option maxRecDepth 100000 in
set_option maxHeartbeats 2000000 in
theorem mItoa_13 (w : World) : Calls Tryz.prog 42 #[.int .i64 13] w fun e w' => e = .returned (.string ⟨#[49,51]⟩) ∧ w' = w := by
  go_enter Tryz.func42, Tryz.ntmps42
  go_wp2
  go_ret
  exact ⟨rfl, rfl⟩
set_option maxRecDepth 100000 in
set_option maxHeartbeats 2000000 in
theorem mItoa_14 (w : World) : Calls Tryz.prog 42 #[.int .i64 14] w fun e w' => e = .returned (.string ⟨#[49,52]⟩) ∧ w' = w := by
  go_enter Tryz.func42, Tryz.ntmps42
  go_wp2
  go_ret
  exact ⟨rfl, rfl⟩
set_option maxRecDepth 100000 in
set_option maxHeartbeats 2000000 in
theorem mItoa_15 (w : World) : Calls Tryz.prog 42 #[.int .i64 15] w fun e w' => e = .returned (.string ⟨#[49,53]⟩) ∧ w' = w := by
  go_enter Tryz.func42, Tryz.ntmps42
  go_wp2
  go_ret
  exact ⟨rfl, rfl⟩
set_option maxRecDepth 100000 in
set_option maxHeartbeats 2000000 in
theorem mItoa_16 (w : World) : Calls Tryz.prog 42 #[.int .i64 16] w fun e w' => e = .returned (.string ⟨#[49,54]⟩) ∧ w' = w := by
  go_enter Tryz.func42, Tryz.ntmps42
  go_wp2
  go_ret
  exact ⟨rfl, rfl⟩
set_option maxRecDepth 100000 in
set_option maxHeartbeats 2000000 in
theorem mItoa_17 (w : World) : Calls Tryz.prog 42 #[.int .i64 17] w fun e w' => e = .returned (.string ⟨#[49,55]⟩) ∧ w' = w := by
  go_enter Tryz.func42, Tryz.ntmps42
  go_wp2
  go_ret
  exact ⟨rfl, rfl⟩
set_option maxRecDepth 100000 in
set_option maxHeartbeats 2000000 in
theorem mItoa_18 (w : World) : Calls Tryz.prog 42 #[.int .i64 18] w fun e w' => e = .returned (.string ⟨#[49,56]⟩) ∧ w' = w := by
  go_enter Tryz.func42, Tryz.ntmps42
  go_wp2
  go_ret
  exact ⟨rfl, rfl⟩
set_option maxRecDepth 100000 in
set_option maxHeartbeats 2000000 in
theorem mItoa_19 (w : World) : Calls Tryz.prog 42 #[.int .i64 19] w fun e w' => e = .returned (.string ⟨#[49,57]⟩) ∧ w' = w := by
  go_enter Tryz.func42, Tryz.ntmps42
  go_wp2
  go_ret
  exact ⟨rfl, rfl⟩
set_option maxRecDepth 100000 in
set_option maxHeartbeats 2000000 in
theorem mItoa_20 (w : World) : Calls Tryz.prog 42 #[.int .i64 20] w fun e w' => e = .returned (.string ⟨#[50,48]⟩) ∧ w' = w := by
  go_enter Tryz.func42, Tryz.ntmps42
  go_wp2
  go_ret
  exact ⟨rfl, rfl⟩
set_option maxRecDepth 100000 in
set_option maxHeartbeats 2000000 in
theorem mItoa_21 (w : World) : Calls Tryz.prog 42 #[.int .i64 21] w fun e w' => e = .returned (.string ⟨#[50,49]⟩) ∧ w' = w := by
  go_enter Tryz.func42, Tryz.ntmps42
  go_wp2
  go_ret
  exact ⟨rfl, rfl⟩
set_option maxRecDepth 100000 in
set_option maxHeartbeats 2000000 in
theorem mItoa_22 (w : World) : Calls Tryz.prog 42 #[.int .i64 22] w fun e w' => e = .returned (.string ⟨#[50,50]⟩) ∧ w' = w := by
  go_enter Tryz.func42, Tryz.ntmps42
  go_wp2
  go_ret
  exact ⟨rfl, rfl⟩
set_option maxRecDepth 100000 in
set_option maxHeartbeats 2000000 in
theorem mItoa_23 (w : World) : Calls Tryz.prog 42 #[.int .i64 23] w fun e w' => e = .returned (.string ⟨#[50,51]⟩) ∧ w' = w := by
  go_enter Tryz.func42, Tryz.ntmps42
  go_wp2
  go_ret
  exact ⟨rfl, rfl⟩
set_option maxRecDepth 100000 in
set_option maxHeartbeats 2000000 in
theorem mItoa_24 (w : World) : Calls Tryz.prog 42 #[.int .i64 24] w fun e w' => e = .returned (.string ⟨#[50,52]⟩) ∧ w' = w := by
  go_enter Tryz.func42, Tryz.ntmps42
  go_wp2
  go_ret
  exact ⟨rfl, rfl⟩
set_option maxRecDepth 100000 in
set_option maxHeartbeats 2000000 in
theorem mItoa_25 (w : World) : Calls Tryz.prog 42 #[.int .i64 25] w fun e w' => e = .returned (.string ⟨#[50,53]⟩) ∧ w' = w := by
  go_enter Tryz.func42, Tryz.ntmps42
  go_wp2
  go_ret
  exact ⟨rfl, rfl⟩
set_option maxRecDepth 100000 in
set_option maxHeartbeats 2000000 in
theorem mItoa_26 (w : World) : Calls Tryz.prog 42 #[.int .i64 26] w fun e w' => e = .returned (.string ⟨#[50,54]⟩) ∧ w' = w := by
  go_enter Tryz.func42, Tryz.ntmps42
  go_wp2
  go_ret
  exact ⟨rfl, rfl⟩
set_option maxRecDepth 100000 in
set_option maxHeartbeats 2000000 in
theorem mItoa_27 (w : World) : Calls Tryz.prog 42 #[.int .i64 27] w fun e w' => e = .returned (.string ⟨#[50,55]⟩) ∧ w' = w := by
  go_enter Tryz.func42, Tryz.ntmps42
  go_wp2
  go_ret
  exact ⟨rfl, rfl⟩
set_option maxRecDepth 100000 in
set_option maxHeartbeats 2000000 in
theorem mItoa_28 (w : World) : Calls Tryz.prog 42 #[.int .i64 28] w fun e w' => e = .returned (.string ⟨#[50,56]⟩) ∧ w' = w := by
  go_enter Tryz.func42, Tryz.ntmps42
  go_wp2
  go_ret
  exact ⟨rfl, rfl⟩
set_option maxRecDepth 100000 in
set_option maxHeartbeats 2000000 in
theorem mItoa_29 (w : World) : Calls Tryz.prog 42 #[.int .i64 29] w fun e w' => e = .returned (.string ⟨#[50,57]⟩) ∧ w' = w := by
  go_enter Tryz.func42, Tryz.ntmps42
  go_wp2
  go_ret
  exact ⟨rfl, rfl⟩
set_option maxRecDepth 100000 in
set_option maxHeartbeats 2000000 in
theorem mItoa_30 (w : World) : Calls Tryz.prog 42 #[.int .i64 30] w fun e w' => e = .returned (.string ⟨#[51,48]⟩) ∧ w' = w := by
  go_enter Tryz.func42, Tryz.ntmps42
  go_wp2
  go_ret
  exact ⟨rfl, rfl⟩
set_option maxRecDepth 100000 in
set_option maxHeartbeats 2000000 in
theorem mItoa_31 (w : World) : Calls Tryz.prog 42 #[.int .i64 31] w fun e w' => e = .returned (.string ⟨#[51,49]⟩) ∧ w' = w := by
  go_enter Tryz.func42, Tryz.ntmps42
  go_wp2
  go_ret
  exact ⟨rfl, rfl⟩
set_option maxRecDepth 100000 in
set_option maxHeartbeats 2000000 in
theorem mItoa_32 (w : World) : Calls Tryz.prog 42 #[.int .i64 32] w fun e w' => e = .returned (.string ⟨#[51,50]⟩) ∧ w' = w := by
  go_enter Tryz.func42, Tryz.ntmps42
  go_wp2
  go_ret
  exact ⟨rfl, rfl⟩
theorem mItoa_any (n : Nat) (h1 : 1 ≤ n) (h2 : n ≤ 32) (w : World) : Calls Tryz.prog 42 #[.int .i64 (n : Int)] w fun e w' => e = .returned (.string ⟨(dgT n).toArray⟩) ∧ w' = w := by
  match n, h1, h2 with
  | 1, _, _ => exact mItoa_1 w
  | 2, _, _ => exact mItoa_2 w
  | 3, _, _ => exact mItoa_3 w
  | 4, _, _ => exact mItoa_4 w
  | 5, _, _ => exact mItoa_5 w
  | 6, _, _ => exact mItoa_6 w
  | 7, _, _ => exact mItoa_7 w
  | 8, _, _ => exact mItoa_8 w
  | 9, _, _ => exact mItoa_9 w
  | 10, _, _ => exact mItoa_10 w
  | 11, _, _ => exact mItoa_11 w
  | 12, _, _ => exact mItoa_12 w
  | 13, _, _ => exact mItoa_13 w
  | 14, _, _ => exact mItoa_14 w
  | 15, _, _ => exact mItoa_15 w
  | 16, _, _ => exact mItoa_16 w
  | 17, _, _ => exact mItoa_17 w
  | 18, _, _ => exact mItoa_18 w
  | 19, _, _ => exact mItoa_19 w
  | 20, _, _ => exact mItoa_20 w
  | 21, _, _ => exact mItoa_21 w
  | 22, _, _ => exact mItoa_22 w
  | 23, _, _ => exact mItoa_23 w
  | 24, _, _ => exact mItoa_24 w
  | 25, _, _ => exact mItoa_25 w
  | 26, _, _ => exact mItoa_26 w
  | 27, _, _ => exact mItoa_27 w
  | 28, _, _ => exact mItoa_28 w
  | 29, _, _ => exact mItoa_29 w
  | 30, _, _ => exact mItoa_30 w
  | 31, _, _ => exact mItoa_31 w
  | 32, _, _ => exact mItoa_32 w
  | n + 33, _, h => omega
end Go.Proofs.YtkjfafnnnkjoeaaGreatDoor
