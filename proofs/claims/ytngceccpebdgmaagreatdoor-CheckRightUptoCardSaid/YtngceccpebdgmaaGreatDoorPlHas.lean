/- payload: Has and named: the walks. -/
import Derived.Test.YtngceccpebdgmaaGreatDoorChecked
import Derived.Test.YtngceccpebdgmaaGreatDoorMark
import Derived.WalkKit
import Derived.WalkLawsBesides
import Derived.WalkSpells
import Derived.Outline
import Derived.Lib.Hide
namespace Go.Proofs.YtngceccpebdgmaaGreatDoor
open Go.RowKit

/-- The letters of the fields that a payload of a type has beside Name; and whether there is such a type. -/
def hasOf (k : Int) : ByteArray × Bool :=
  if k = 1 then (⟨#[112, 111]⟩, true) else if k = 2 then (⟨#[114]⟩, true) else if k = 3 then (⟨#[108, 115]⟩, true) else if k = 4 then (⟨#[97]⟩, true) else if k = 5 then (⟨#[107]⟩, true) else (⟨#[]⟩, false)

set_option maxRecDepth 100000 in
set_option maxHeartbeats 1000000 in
theorem has_any (k : Int) (w : World) : Calls Tryz.prog 56 #[.int .i64 k] w fun e w' => e = .returned (.tuple #[.string (hasOf k).1, .bool (hasOf k).2]) ∧ w = w' := by
  by_cases h : k = 1 ∨ k = 2 ∨ k = 3 ∨ k = 4 ∨ k = 5
  · rcases h with rfl | rfl | rfl | rfl | rfl
    all_goals
      go_enter Tryz.func56, Tryz.ntmps56
      go_wp2
      go_ret2
      exact ⟨rfl, rfl⟩
  · have e : hasOf k = (⟨#[]⟩, false) := by simp only [hasOf]; split; · omega
                                            split; · omega
                                            split; · omega
                                            split; · omega
                                            split; · omega
                                            rfl
    have q1 : (k == 1) = false := by simp; omega
    have q2 : (k == 2) = false := by simp; omega
    have q3 : (k == 3) = false := by simp; omega
    have q4 : (k == 4) = false := by simp; omega
    have q5 : (k == 5) = false := by simp; omega
    rw [e]
    clear h e
    go_enter Tryz.func56, Tryz.ntmps56
    go_wp2
    go_ret2
    exact ⟨rfl, rfl⟩

end Go.Proofs.YtngceccpebdgmaaGreatDoor
