/- client: New. -/
import Derived.Test.YtdcfdcjgheijcaaGreatDoorClPlain
namespace Go.Proofs.YtdcfdcjgheijcaaGreatDoor
open Go.RowKit Go.Lib
theorem Tryz.resNew : Tryz.f23.results = #[.cell 2 CT] := rfl
set_option maxRecDepth 100000 in
set_option maxHeartbeats 4000000 in
theorem new_any (d : Bool) (w : World) : Calls Tryz.prog 23 #[.bool d] w fun e w' => e = .returned (Cl.new d).v ∧ Below w.heap.size w w' := by
  go_enter Tryz.func23, Tryz.ntmps23
  go_wp2_with (refine wpList_store_cl _ _ (Cl.new false) (Cl.new d) w.heap.size rfl rfl (by rfl) (by rfl) (Blk.new w _ _) ?_; intro w2 p2 j2; simp only [Act.put, List.setIfInBounds_toArray, List.set_cons_zero, List.set_cons_succ])
  have hl := run_load_cl (Cl.new d) w.heap.size p2
  refine bodyPost_ret (v := (Cl.new d).v) (by simp [results, Tryz.resNew, hl, asAddr]) rfl ⟨rfl, ((Below.refl _ w).alloc (Nat.le_refl _) _).trans (j2.below (Nat.le_refl _))⟩
end Go.Proofs.YtdcfdcjgheijcaaGreatDoor
