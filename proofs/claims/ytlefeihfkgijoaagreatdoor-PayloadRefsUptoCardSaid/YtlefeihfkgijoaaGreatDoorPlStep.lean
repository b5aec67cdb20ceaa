/- A call of a Go function as one step of a region that draws its order. -/
import Derived.Test.YtlefeihfkgijoaaGreatDoorPlMadeE
import Derived.Deep.RegionLaw
namespace Go.Proofs.YtlefeihfkgijoaaGreatDoor
open Go.RowKit Go.Shelf
theorem step_word {ops : Array Oper} {o : Oper} {a : Act} {w : World} {K : Act → World → Prop} {Q : Exit → Act → World → Prop} {E : Prop} (hg : o.guard = none) (x : Nat) (ts : Array TypeId)
    (hop : o.op = .call { callee := .value (.func 27), args := #[.tmp x], argTypes := ts }) (v0 : Value) (hx : a.eval (.tmp x) = v0) (s : ByteArray)
    (hc : Calls Tryz.prog 27 #[v0] w fun e w' => e = .returned (.string s) ∧ Below w.heap.size w w') (h : ∀ w', Below w.heap.size w w' → K (a.put o.dst (.string s)) w') : if Region.wanted o (yielded ops a.tmps) = true then Oper.wp Tryz.prog o a w K Q else E := by
  have hw : Region.wanted o (yielded ops a.tmps) = true := by simp [Region.wanted, hg]
  rw [if_pos hw]
  have hent : ∀ (args : Array Value) (w : World), (callFunc 27 args).run Tryz.prog w = .ok (.enter 27 args) w := enters_of Tryz.func27 (by kernel_rfl) rfl
  obtain ⟨dst, op, type, pos, aft, guard⟩ := o
  simp only at hop
  subst hop
  go_simp
  have hx' : a.tmps[x]?.getD undef = v0 := by simpa [Act.eval] using hx
  rw [hx']
  refine hc.mono ?_
  rintro e w' ⟨rfl, hb⟩
  exact h w' hb
end Go.Proofs.YtlefeihfkgijoaaGreatDoor
