/- resource: Set on nothing, Find of the first: what the examples ask. -/
import Derived.Test.YtjolgalfjahceaaGreatDoorVrGet
namespace Go.Proofs.YtjolgalfjahceaaGreatDoor
open Go.RowKit

theorem alloc_top (W : World) (cs : Array Value) (t : TypeId) (B j : Nat) (hB : B = W.heap.size) : ((W.alloc (.cells cs t)).drew).cell? ⟨B, j, none⟩ = cs[j]? := by
  subst hB; exact (Blk.new W cs t).cell j

set_option maxRecDepth 100000 in
set_option maxHeartbeats 2000000 in
theorem set_nil (t : Int) (x : ByteArray) (q : Int) (g : Bool) (s : ByteArray) (w : World) :
    Calls Tryz.prog 12 #[.slice none 0 0, .agg #[.int .i64 t, .string x, .int .u64 q, .bool g, .string s]] w fun e w' => (∃ B c, e = .returned (.slice (some ⟨B, 0, none⟩) 1 c) ∧ w'.cell? ⟨B, 0, none⟩ = some (.int .i64 t) ∧ w'.cell? ⟨B, 1, none⟩ = some (.string x) ∧ w'.cell? ⟨B, 2, none⟩ = some (.int .u64 q) ∧ w'.cell? ⟨B, 3, none⟩ = some (.bool g) ∧ w'.cell? ⟨B, 4, none⟩ = some (.string s) ∧ B < w'.heap.size) ∧ Below w.heap.size w w' := by
  go_enter Tryz.func12, Tryz.ntmps12
  go_wp2
  refine wp_loop_rounds 1 ?_
  rw [rounds_succ]
  go_wp2
  refine wp_loop_rounds 1 ?_
  rw [rounds_succ]
  go_wp2
  go_ret
  refine ⟨⟨w.heap.size + 1 + 1 + 1 + 1 + 1, _, rfl, ?_, ?_, ?_, ?_, ?_, ?_⟩, ?_⟩
  · refine (alloc_top _ _ _ _ _ ?_).trans ?_
    · simp
    · rw [Array.getElem?_append_left (by simp)]; rfl
  · refine (alloc_top _ _ _ _ _ ?_).trans ?_
    · simp
    · rw [Array.getElem?_append_left (by simp)]; rfl
  · refine (alloc_top _ _ _ _ _ ?_).trans ?_
    · simp
    · rw [Array.getElem?_append_left (by simp)]; rfl
  · refine (alloc_top _ _ _ _ _ ?_).trans ?_
    · simp
    · rw [Array.getElem?_append_left (by simp)]; rfl
  · refine (alloc_top _ _ _ _ _ ?_).trans ?_
    · simp
    · rw [Array.getElem?_append_left (by simp)]; rfl
  · simp
  · exact ((((((((Below.refl _ w).alloc (Nat.le_refl _) _).alloc (by simp) _).alloc (by simp; omega) _).alloc (by simp; omega) _).alloc (by simp; omega) _).alloc (by simp; omega) _).drew)

set_option maxRecDepth 100000 in
set_option maxHeartbeats 2000000 in
theorem find_one (B c : Nat) (t : Int) (x : ByteArray) (q : Int) (g : Bool) (s : ByteArray) (w : World) (h0 : w.cell? ⟨B, 0, none⟩ = some (.int .i64 t)) (h1 : w.cell? ⟨B, 1, none⟩ = some (.string x)) (h2 : w.cell? ⟨B, 2, none⟩ = some (.int .u64 q)) (h3 : w.cell? ⟨B, 3, none⟩ = some (.bool g)) (h4 : w.cell? ⟨B, 4, none⟩ = some (.string s)) (hlt : B < w.heap.size) :
    Calls Tryz.prog 7 #[.slice (some ⟨B, 0, none⟩) 1 c, .agg #[.int .i64 t, .string x]] w fun e w' => e = .returned (.tuple #[.agg #[.int .i64 t, .string x, .int .u64 q, .bool g, .string s], .bool true]) ∧ Below w.heap.size w w' := by
  have l1 : B < w.heap.size + 1 := by omega
  have l2 : B < w.heap.size + 1 + 1 := by omega
  have l3 : B < w.heap.size + 1 + 1 + 1 := by omega
  have l4 : B < w.heap.size + 1 + 1 + 1 + 1 := by omega
  go_enter Tryz.func7, Tryz.ntmps7
  go_wp2
  refine wp_loop_rounds 1 ?_
  rw [rounds_succ]
  go_wp2
  exact bodyPost_ret (v := .tuple #[.agg #[.int .i64 t, .string x, .int .u64 q, .bool g, .string s], .bool true]) (by simp [results, Tryz.results7, go_sem]) rfl ⟨rfl, (((((Below.refl _ w).alloc (Nat.le_refl _) _).alloc (by simp) _).alloc (by simp; omega) _).alloc (by simp; omega) _)⟩
end Go.Proofs.YtjolgalfjahceaaGreatDoor
