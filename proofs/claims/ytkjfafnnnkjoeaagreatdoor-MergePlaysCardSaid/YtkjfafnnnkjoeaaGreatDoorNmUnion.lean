/- names: Union, of a list of sets. -/
import Derived.Test.YtkjfafnnnkjoeaaGreatDoorNmSet
namespace Go.Proofs.YtkjfafnnnkjoeaaGreatDoor
open Go.RowKit Go.Lib

/-- Sets at a. -/
def SetsAt (w : World) (a : Option Addr) (ss : List Ns) : Prop := ∀ (i : Nat) (s : Ns), ss[i]? = some s → ∃ b off a' c', a = some ⟨b, off, none⟩ ∧ b < w.heap.size ∧ w.cell? ⟨b, off + i * 2, none⟩ = some (.bool s.all) ∧ w.cell? ⟨b, off + i * 2 + 1, none⟩ = some (.slice a' s.ns.length c') ∧ TsAt w (.slice a' s.ns.length c') s.ns
theorem SetsAt.below {w w' : World} {a : Option Addr} {ss : List Ns} (h : SetsAt w a ss) (hb : Below w.heap.size w w') : SetsAt w' a ss := by
  intro i s hi
  obtain ⟨b, off, a', c', e, hl, h1, h2, h3⟩ := h i s hi
  exact ⟨b, off, a', c', e, Nat.lt_of_lt_of_le hl hb.size, (hb.cell (p := ⟨b, _, none⟩) hl).trans h1, (hb.cell (p := ⟨b, _, none⟩) hl).trans h2, h3.below hb⟩
def NssFit (ss : List Ns) : Prop := (∀ s ∈ ss, ∀ x ∈ s.ns, x.length ≤ maxLen) ∧ (ss.flatMap (·.ns)).length * 16 ≤ 140737488355328 ∧ ss.length ≤ 1000000
theorem Tryz.infoSl : (Tryz.prog.info? 27).map (fun i => (i.zero, i.size, i.bytes)) = some (some (.slice none 0 0), 1, 24) := by kernel_rfl
theorem any_take (ss : List Ns) {k : Nat} {s : Ns} (h : ss[k]? = some s) : (ss.take (k + 1)).any (·.all) = ((ss.take k).any (·.all) || s.all) := by
  rw [List.take_add_one, h, List.any_append]; simp

end Go.Proofs.YtkjfafnnnkjoeaaGreatDoor
