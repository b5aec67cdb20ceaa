/- names: the reference's Name. -/
import Derived.Test.YtdcfdcjgheijcaaCkName
import Derived.Lib.Hide
namespace Go.Proofs.Ytdcfdcjgheijcaa
open Go.RowKit

set_option maxRecDepth 100000 in
set_option maxHeartbeats 2000000 in
theorem rname_any (s : ByteArray) (w : World) (hs0 : s.size ≤ maxLen) : Calls Try.prog 43 #[.string s] w fun e w' => e = .returned (.bool (nmOk s)) ∧ w = w' := by
  have hs : s.size ≤ 9223372036854775807 := by unfold maxLen at hs0; omega
  clear hs0
  go_enter Try.func43, Try.ntmps43
  go_wp2
  go_loop [3] (fun i => ∃ j : Nat, i = .int .i64 j ∧ j ≤ s.size ∧ ∀ i (hi : i < s.size), i < j → nmB (s[i].toNat : Int) = true) (fun i => s.size - (intOf i).toNat)
  case atStart => exact ⟨0, rfl, Nat.zero_le _, fun _ _ h => by omega⟩
  case round =>
    obtain ⟨j, rfl, hj, hr⟩ := hrel
    have HR := Lib.hid hr; clear hr
    by_cases hjs : j < s.size
    · obtain ⟨X, hX⟩ : ∃ X : Int, (s[j].toNat : Int) = X := ⟨_, rfl⟩
      have HX := Lib.hid hX
      by_cases g1 : X = 45 ∨ X = 46 ∨ X = 47
      · have HG := Lib.hid (show nmB X = true by rcases g1 with rfl | rfl | rfl <;> rfl)
        rcases g1 with rfl | rfl | rfl
        all_goals
          go_wp2
          exact ⟨⟨j + 1, by go_num, by omega, fun i hi h => by
            by_cases he : i = j
            · subst he; rw [HX.out]; exact HG.out
            · exact HR.out i hi (by omega)⟩, by simp [intOf]; omega⟩
      · have q1 : (X == 45) = false := by simp; omega
        have q2 : (X == 46) = false := by simp; omega
        have q3 : (X == 47) = false := by simp; omega
        obtain ⟨A, qa⟩ : ∃ A, decide (97 ≤ X) = A := ⟨_, rfl⟩
        obtain ⟨B, qb⟩ : ∃ B, decide (X ≤ 122) = B := ⟨_, rfl⟩
        obtain ⟨C, qc⟩ : ∃ C, decide (48 ≤ X) = C := ⟨_, rfl⟩
        obtain ⟨D, qd⟩ : ∃ D, decide (X ≤ 57) = D := ⟨_, rfl⟩
        have e : nmB X = (A && B || C && D) := by simp only [nmB, q1, q2, q3, qa, qb, qc, qd, Bool.false_or]
        have HE := Lib.hid e
        clear e g1
        by_cases hgood : (A && B || C && D) = true
        · have HG := Lib.hid hgood
          cases A <;> cases B <;> cases C <;> cases D <;> first | (exact absurd HG.out (by decide)) | skip
          all_goals
            clear hgood
            go_wp2
            exact ⟨⟨j + 1, by go_num, by omega, fun i hi h => by
              by_cases he : i = j
              · subst he; rw [HX.out, HE.out]; rfl
              · exact HR.out i hi (by omega)⟩, by simp [intOf]; omega⟩
        · have HG := Lib.hid hgood
          have HN := Lib.hid (nmOk_bad hjs (by rw [HX.out, HE.out]; simpa using hgood))
          cases A <;> cases B <;> cases C <;> cases D <;> first | (exact absurd rfl HG.out) | skip
          all_goals
            clear hgood
            go_wp2
            go_ret
            exact ⟨by rw [HN.out]; rfl, rfl⟩
    · have hg0 : ∀ i (hi : i < s.size), nmB (s[i].toNat : Int) = true := fun i hi => HR.out i hi (by omega)
      by_cases h1 : 1 ≤ s.size
      · by_cases h2 : s.size ≤ 64
        · have HN := Lib.hid (nmOk_good h1 h2 hg0)
          have HD := Lib.hid (show decide ((s.size : Int) ≤ 64) = true by simp; omega)
          clear hg0
          go_wp2
          go_ret
          exact ⟨by rw [HN.out]; exact congrArg (fun b => Ending.returned (Value.bool b)) HD.out, rfl⟩
        · have HN := Lib.hid (show nmOk s = false by simp [nmOk]; omega)
          have HD := Lib.hid (show decide ((s.size : Int) ≤ 64) = false by simp; omega)
          clear hg0
          go_wp2
          go_ret
          exact ⟨by rw [HN.out]; exact congrArg (fun b => Ending.returned (Value.bool b)) HD.out, rfl⟩
      · have HN := Lib.hid (show nmOk s = false by simp [nmOk]; omega)
        clear hg0
        go_wp2
        go_ret
        exact ⟨by rw [HN.out]; rfl, rfl⟩
end Go.Proofs.Ytdcfdcjgheijcaa
