/- acks: ownKey; New. -/
import Derived.Test.YtogkdekjcbljnaaDoorAkMap
import Derived.Test.YtogkdekjcbljnaaDoorShelf
import Derived.Deep.RegionHeld3
import Derived.Deep.RegionWith
namespace Go.Proofs.YtogkdekjcbljnaaDoor
open Go.RowKit Go.Lib

set_option maxRecDepth 100000 in
set_option maxHeartbeats 2000000 in
theorem ownKey_any (k : Ky) (w : World) (hx : k.2.size ≤ 140737488355328) :
    Calls Tryd.prog 16 #[kyE k] w fun e w' => e = .returned (kyE k) ∧ Below w.heap.size w w' := by
  obtain ⟨t, x⟩ := k
  obtain ⟨w1, hw1, hb1, q1⟩ := ak_new w #[.int .i64 t, .string x] 27
  obtain ⟨w2, hw2, hb2, q2⟩ := ak_new w1 #[.int .i64 0, .string ⟨#[]⟩] 27
  have HW1 := Lib.hid hw1
  have HW2 := Lib.hid hw2
  have HQ1 := Lib.hid (q1.later hb2)
  have HQ2 := Lib.hid q2
  have HB := Lib.hid (hb1.trans (hb2.mono hb1.size))
  have HR := Lib.hid (show w.heap.size < w1.heap.size from q1.lt)
  have HX := Lib.hid hx
  clear hw1 hw2 hb1 hb2 q1 q2 hx
  go_enter Tryd.func16, Tryd.ntmps16
  go_wp2_with (first | rw [HW1.out] | rw [HW2.out])
  obtain ⟨M, hM⟩ : ∃ M, w1.heap.size = M := ⟨_, rfl⟩
  have hq2 := HQ2.out
  have hr := HR.out
  rw [hM] at hq2 hr ⊢
  have HQ2 := Lib.hid hq2
  have HR := Lib.hid hr
  clear hq2 hr hM HW1 HW2
  have z0 : w2.cell? ⟨w.heap.size, 0, none⟩ = some (.int .i64 t) := HQ1.out.cell 0
  have z1 : w2.cell? ⟨w.heap.size, 1, none⟩ = some (.string x) := HQ1.out.cell 1
  have y0 : w2.cell? ⟨M, 0, none⟩ = some (.int .i64 0) := HQ2.out.cell 0
  have y1 : w2.cell? ⟨M, 1, none⟩ = some (.string ⟨#[]⟩) := HQ2.out.cell 1
  have f0 : w2.frozen? ⟨M, 0, none⟩ = false := HQ2.out.frozen 0
  have f1 : w2.frozen? ⟨M, 1, none⟩ = false := HQ2.out.frozen 1
  have hd : Below w2.heap.size w2 w2.drew := (Below.refl _ _).drew
  go_region_with (go_at_call 29; refine (clone_any _ _ HX.out).mono ?_; rintro e wC ⟨rfl, hbC⟩; have hC : Below w2.heap.size w2 wC := hd.trans hbC; have z0 : wC.cell? ⟨w.heap.size, 0, none⟩ = some (.int .i64 t) := (HQ1.out.later hC).cell 0; have y0 : wC.cell? ⟨M, 0, none⟩ = some (.int .i64 0) := (HQ2.out.later hC).cell 0; have y1 : wC.cell? ⟨M, 1, none⟩ = some (.string ⟨#[]⟩) := (HQ2.out.later hC).cell 1; have f0 : wC.frozen? ⟨M, 0, none⟩ = false := (HQ2.out.later hC).frozen 0; have f1 : wC.frozen? ⟨M, 1, none⟩ = false := (HQ2.out.later hC).frozen 1)
  all_goals
    have q6 := ((HQ2.out.later hC).set 0 (.int .i64 t)).set 1 (.string x)
    have x0 := q6.cell 0
    have x1 := q6.cell 1
    simp only [List.setIfInBounds_toArray, List.set_cons_zero, List.set_cons_succ, List.getElem?_toArray, List.getElem?_cons_zero, List.getElem?_cons_succ] at x0 x1
    have hb4 := ((HB.out.trans (hC.mono HB.out.size)).setCell (p := ⟨M, 0, none⟩) (Nat.le_of_lt HR.out) (.int .i64 t)).setCell (p := ⟨M, 1, none⟩) (Nat.le_of_lt HR.out) (.string x)
    go_wp2_with fail
    exact bodyPost_ret (v := kyE (t, x)) (by simp [results, Tryd.results16, go_sem, x0, x1]) rfl ⟨rfl, hb4⟩
theorem acNew_any (w : World) : Calls Tryd.prog 8 #[] w fun e w' => ∃ b : AkB, e = .returned (.pointer (some ⟨b.m, 0, none⟩)) ∧ AkIs w.heap.size b Ak.zero w' ∧ Below w.heap.size w w' := by
  have hmm := @run_makeMap Tryd.prog
  have hE : AkIs w.heap.size ⟨w.heap.size + 1 + 1 + 1, w.heap.size, w.heap.size + 1, w.heap.size + 1 + 1⟩ Ak.zero ((((w.alloc (.map #[] 0)).alloc (.map #[] 0)).alloc (.map #[] 0)).alloc (.cells #[.map (some w.heap.size), .map (some (w.heap.size + 1)), .map (some (w.heap.size + 1 + 1))] 57)) := by
    refine ⟨AkOk.zero, fun _ => none, fun _ => none, fun _ => none, ⟨?_, by dsimp only; omega, Nat.le_refl _, by dsimp only; omega, by dsimp only; omega, by dsimp only; omega, by dsimp only; omega, by dsimp only; omega, ?_, fun _ _ => rfl, ?_, fun _ => rfl, fun _ _ _ _ _ _ h => (by cases h), ?_, fun _ => rfl⟩⟩
    · have := Blk.new (((w.alloc (.map #[] 0)).alloc (.map #[] 0)).alloc (.map #[] 0)) #[.map (some w.heap.size), .map (some (w.heap.size + 1)), .map (some (w.heap.size + 1 + 1))] 57
      simpa using this
    · exact (kmap_new tkE tkK w).below (n := w.heap.size + 1) ((((Below.refl _ _).alloc (by simp) _).alloc (by simp) _).alloc (by simp) _) (by omega)
    · have := kmap_new kyE kyK (w.alloc (.map #[] 0))
      rw [show (w.alloc (.map #[] 0)).heap.size = w.heap.size + 1 by simp] at this
      exact this.below (n := w.heap.size + 1 + 1) (((Below.refl _ _).alloc (by simp) _).alloc (by simp) _) (by omega)
    · have := kmap_new kyE kyK ((w.alloc (.map #[] 0)).alloc (.map #[] 0))
      rw [show ((w.alloc (.map #[] 0)).alloc (.map #[] 0)).heap.size = w.heap.size + 1 + 1 by simp] at this
      exact this.below (n := w.heap.size + 1 + 1 + 1) ((Below.refl _ _).alloc (by simp) _) (by omega)
  have HE := Lib.hid hE
  clear hE
  go_enter Tryd.func8, Tryd.ntmps8
  go_wp2_with fail
  go_ret
  exact ⟨⟨_, _, _, _⟩, rfl, HE.out, ((((Below.refl _ _).alloc (Nat.le_refl _) _).alloc (by simp) _).alloc (by simp; omega) _).alloc (by simp; omega) _⟩
end Go.Proofs.YtogkdekjcbljnaaDoor
