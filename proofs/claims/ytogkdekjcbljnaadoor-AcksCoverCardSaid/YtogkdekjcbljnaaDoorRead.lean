/- readNumber and ReadVarint: the walks. -/
import Derived.Test.YtogkdekjcbljnaaDoorChecked
import Derived.Test.YtogkdekjcbljnaaDoorPlain
import Derived.Test.YtogkdekjcbljnaaDoorAid
import Derived.Test.YtogkdekjcbljnaaDoorIs
import Derived.WalkLawsBesides
import Derived.WalkSpells
import Derived.RowKitTokens
import Derived.Outline
import Derived.Lib.Hide
import Derived.IntWalk
import Derived.BigQuiet
import Derived.Deep.QuietTactic
namespace Go.Proofs.YtogkdekjcbljnaaDoor
open Go.RowKit

/-- The variable errForm holds the sentinel at b. -/
def Gv (b : Addr) (w : World) : Prop := w.cell? ⟨1, 0, none⟩ = some (.iface 161 (.pointer (some b))) ∧ 1 < w.heap.size
theorem Gv.below {b : Addr} {w w' : World} (h : Gv b w) (hb : Below w.heap.size w w') : Gv b w' :=
  ⟨(hb.cell (p := ⟨1, 0, none⟩) h.2).trans h.1, Nat.lt_of_lt_of_le h.2 hb.size⟩

theorem data_get (s : ByteArray) (j : Nat) (h : j < s.size) : s.data.toList[j]'(by simpa using h) = s[j] := by simp; rfl

/-- What ReadVarint comes to. -/
def rvVal (r : Option (Nat × Nat)) : Value :=
  match r with
  | some (v, k) => .tuple #[.int .u64 v, .int .i64 k, .bool true]
  | none => .tuple #[.int .u64 0, .int .i64 0, .bool false]
theorem rv_yes {r : Option (Nat × Nat)} {e : Ending} {v k : Nat} (h : r = some (v, k)) (he : e = .returned (.tuple #[.int .u64 v, .int .i64 k, .bool true])) : e = .returned (rvVal r) := by
  subst h; exact he
theorem rv_no {r : Option (Nat × Nat)} {e : Ending} (h : r = none) (he : e = .returned (.tuple #[.int .u64 0, .int .i64 0, .bool false])) : e = .returned (rvVal r) := by
  subst h; exact he

/-- The same of the reference's form. -/
theorem or_step_ref {acc j : Nat} {x : UInt8} (ha : acc < 128 ^ j) (hj : j < 10) (hx : ¬ (j = 9 ∧ 1 < x.toNat)) :
    bits .or .u64 (acc : Int) (IntKind.u64.wrap ((x.toNat : Int) % 128 * 2 ^ (7 * j))) = ((acc + x.toNat % 128 * 128 ^ j : Nat) : Int) := by
  exact or_step (x := x.toNat % 128) ha hj (by omega) (by omega)

theorem or_step9 {acc : Nat} {x : UInt8} (ha : acc < 128 ^ 9) (hx : x.toNat ≤ 1) :
    bits .or .u64 (acc : Int) ((x.toNat : Int) % 128 * 9223372036854775808) = ((acc + x.toNat % 128 * 128 ^ 9 : Nat) : Int) := by
  have h := or_step_ref (j := 9) (x := x) ha (by omega) (by omega)
  rw [show (2 : Int) ^ (7 * 9) = 9223372036854775808 from by decide, IntWalk.u64_in _ (by omega)] at h
  exact h

/-- What follows of a draw. -/
theorem below_drewN' {w : World} (n : Nat) : Below w.heap.size w (w.drewN n) := by
  exact below_drewN (Below.refl _ _) n
end Go.Proofs.YtogkdekjcbljnaaDoor
