/- Texts of fields that stand behind one another: plain. -/
import Derived.Test.YtbflbgnafdbngaaDoorAppend
namespace Go.Proofs.YtbflbgnafdbngaaDoor

/-- l is these fields, whatever stands behind. -/
def Ps (l : List UInt8) (fs : List Fd) : Prop := ∀ r, parse (l ++ r) = (parse r).map (fs ++ ·)
theorem Ps.nil : Ps [] [] := fun r => by cases h : parse r <;> simp [h]
theorem Ps.app {a b : List UInt8} {fa fb : List Fd} (ha : Ps a fa) (hb : Ps b fb) : Ps (a ++ b) (fa ++ fb) := fun r => by
  rw [List.append_assoc, ha, hb]; cases parse r <;> simp
theorem Ps.whole {l : List UInt8} {fs : List Fd} (h : Ps l fs) : parse l = some fs := by
  have := h []
  rw [parse_nil] at this
  simpa using this
theorem Ps.text (num : Int) (s : ByteArray) (hs : s.size < 2 ^ 64) (h1 : 1 ≤ num) (h2 : num ≤ 536870911) : Ps (textL num s) [⟨num.toNat, 2, 0, s.data.toList⟩] := fun r => by
  rw [parse_text num s r hs h1 h2]; cases parse r <;> rfl
theorem Ps.number (num : Int) (n : Nat) (hn : n < 2 ^ 64) (h1 : 1 ≤ num) (h2 : num ≤ 536870911) : Ps (numberL num n) [⟨num.toNat, 0, n, []⟩] := fun r => by
  rw [parse_number num n r hn h1 h2]; cases parse r <;> rfl
end Go.Proofs.YtbflbgnafdbngaaDoor
