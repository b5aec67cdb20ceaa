/- check: a name, a key, a resource: the walks. -/
import Derived.Test.YtogkdekjcbljnaaDoorChecked
import Derived.WalkKit
import Derived.WalkLawsBesides
import Derived.Outline
import Derived.Below
import Derived.BigQuiet
import Derived.Lib.Hide
namespace Go.Proofs.YtogkdekjcbljnaaDoor
open Go.RowKit

theorem ck_empty {s : ByteArray} (h : s.size = 0) : s.toList.isEmpty = true := by
  rw [ByteArray.toList_eq]
  have hl : s.data.toList.length = s.size := by simp
  cases he : s.data.toList with
  | nil => rfl
  | cons a l => rw [he] at hl; simp at hl; omega
theorem ck_full {s : ByteArray} (h : 0 < s.size) : s.toList.isEmpty = false := by
  rw [ByteArray.toList_eq]
  have hl : s.data.toList.length = s.size := by simp
  cases he : s.data.toList with
  | nil => rw [he] at hl; simp at hl; omega
  | cons a l => rfl

/-- May a byte stand in a name? -/
def nmB (x : Int) : Bool := x == 45 || (x == 46 || (x == 47 || (decide (97 ≤ x) && decide (x ≤ 122) || decide (48 ≤ x) && decide (x ≤ 57))))
/-- Is a text a name? -/
def nmOk (s : ByteArray) : Bool := decide (1 ≤ s.size) && decide (s.size ≤ 64) && s.data.toList.all fun x => nmB (x.toNat : Int)
theorem nmOk_bad {s : ByteArray} {i : Nat} (hi : i < s.size) (h : nmB (s[i].toNat : Int) = false) : nmOk s = false := by
  have : (s.data.toList.all fun x => nmB (x.toNat : Int)) = false := by
    rw [List.all_eq_false]
    exact ⟨s[i], by have : s[i] ∈ s.data := Array.getElem_mem hi; exact Array.mem_toList_iff.2 this, by rw [h]; simp⟩
  unfold nmOk; rw [this]; simp
theorem nmOk_good {s : ByteArray} (h1 : 1 ≤ s.size) (h2 : s.size ≤ 64) (h : ∀ i (hi : i < s.size), nmB (s[i].toNat : Int) = true) : nmOk s = true := by
  have : (s.data.toList.all fun x => nmB (x.toNat : Int)) = true := by
    rw [List.all_eq_true]
    intro x hx
    obtain ⟨i, hi, rfl⟩ := List.mem_iff_getElem.1 hx
    have hl : s.data.toList.length = s.size := by simp
    exact h i (by omega)
  unfold nmOk; rw [this]; simp; omega

set_option maxRecDepth 100000 in
theorem isNameByte_any (x : Int) (w : World) : Calls Tryd.prog 66 #[.int .u8 x] w fun e w' => e = .returned (.bool (nmB x)) ∧ w = w' := by
  by_cases h1 : x = 45 ∨ x = 46 ∨ x = 47
  · rcases h1 with rfl | rfl | rfl
    all_goals
      go_enter Tryd.func66, Tryd.ntmps66
      go_wp2
      go_ret
      exact ⟨rfl, rfl⟩
  · have q1 : (x == 45) = false := by simp; omega
    have q2 : (x == 46) = false := by simp; omega
    have q3 : (x == 47) = false := by simp; omega
    obtain ⟨A, qa⟩ : ∃ A, decide (97 ≤ x) = A := ⟨_, rfl⟩
    obtain ⟨B, qb⟩ : ∃ B, decide (x ≤ 122) = B := ⟨_, rfl⟩
    obtain ⟨C, qc⟩ : ∃ C, decide (48 ≤ x) = C := ⟨_, rfl⟩
    obtain ⟨D, qd⟩ : ∃ D, decide (x ≤ 57) = D := ⟨_, rfl⟩
    have e : nmB x = (A && B || C && D) := by simp only [nmB, q1, q2, q3, qa, qb, qc, qd, Bool.false_or]
    rw [e]
    clear e h1
    cases A <;> cases B <;> cases C <;> cases D
    all_goals
      go_enter Tryd.func66, Tryd.ntmps66
      go_wp2
      go_ret
      exact ⟨rfl, rfl⟩

set_option maxRecDepth 100000 in
theorem name_any (s : ByteArray) (w : World) : Calls Tryd.prog 45 #[.string s] w fun e w' => e = .returned (.bool (nmOk s)) ∧ w = w' := by
  by_cases h0 : s.size = 0
  · have HT := Lib.hid (show nmOk s = false by simp [nmOk, h0])
    have hem := ck_empty h0
    clear h0
    go_enter Tryd.func45, Tryd.ntmps45
    go_wp2
    go_ret
    exact ⟨by rw [HT.out]; rfl, rfl⟩
  · have hem := ck_full (s := s) (by omega)
    by_cases h1 : 64 < s.size
    · have HT := Lib.hid (show nmOk s = false by simp [nmOk]; omega)
      clear h0
      go_enter Tryd.func45, Tryd.ntmps45
      go_wp2
      go_ret
      exact ⟨by rw [HT.out]; rfl, rfl⟩
    · have h2 : s.size ≤ 64 := by omega
      have H0 := Lib.hid h0
      clear h0
      go_enter Tryd.func45, Tryd.ntmps45
      go_wp2
      go_loop [13] (fun i => ∃ j : Nat, i = .int .i64 j ∧ j ≤ s.size ∧ ∀ i (hi : i < s.size), i < j → nmB (s[i].toNat : Int) = true) (fun i => s.size - (intOf i).toNat)
      case atStart => exact ⟨0, rfl, Nat.zero_le _, fun _ _ h => by omega⟩
      case round =>
        obtain ⟨j, rfl, hj, hr⟩ := hrel
        have HR := Lib.hid hr; clear hr
        by_cases hjs : j < s.size
        · cases hx : nmB (s[j].toNat : Int) with
          | false =>
            have HX := Lib.hid (nmOk_bad hjs hx)
            have hq := hx
            clear hx
            go_wp2_with (go_at_call 66; refine (isNameByte_any _ _).mono ?_; rintro e w' ⟨rfl, rfl⟩)
            go_ret
            exact ⟨by rw [HX.out]; rfl, rfl⟩
          | true =>
            have HX := Lib.hid hx
            have hq := hx
            clear hx
            go_wp2_with (go_at_call 66; refine (isNameByte_any _ _).mono ?_; rintro e w' ⟨rfl, rfl⟩)
            exact ⟨⟨j + 1, by go_num, by omega, fun i hi h => by
              by_cases he : i = j
              · subst he; exact HX.out
              · exact HR.out i hi (by omega)⟩, by simp [intOf]; omega⟩
        · have HX := Lib.hid (nmOk_good (s := s) (by have := H0.out; omega) h2 fun i hi => HR.out i hi (by omega))
          go_wp2
          go_ret
          exact ⟨by rw [HX.out]; rfl, rfl⟩

/-- Is it the star? -/
def starB (s : ByteArray) : Bool := s.toList == [42]
/-- Is it a key? -/
def kyOk (t : Int) (s : ByteArray) : Bool := decide (1 ≤ t) && decide (t ≤ 5) && (starB s || nmOk s)
abbrev kyV (t : Int) (s : ByteArray) : Value := .agg #[.int .i64 t, .string s]

end Go.Proofs.YtogkdekjcbljnaaDoor
