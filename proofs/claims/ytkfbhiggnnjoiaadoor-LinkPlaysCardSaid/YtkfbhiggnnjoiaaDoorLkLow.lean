/- link: the small calls. -/
import Derived.Test.YtkfbhiggnnjoiaaDoorLkAt
namespace Go.Proofs.YtkfbhiggnnjoiaaDoor
open Go.RowKit Go.Lib

set_option maxRecDepth 100000 in
theorem find_0 (l : Nat) (w : World) :
    Calls Tryd.prog 31 #[.pointer (some ⟨l, 0, none⟩), .int .i64 0] w fun e w' => e = .returned (.pointer (some ⟨l, 3 * 0, none⟩)) ∧ w = w' := by
  go_enter Tryd.func31, Tryd.ntmps31
  go_wp2
  go_ret
  exact ⟨rfl, rfl⟩
set_option maxRecDepth 100000 in
theorem find_1 (l : Nat) (w : World) :
    Calls Tryd.prog 31 #[.pointer (some ⟨l, 0, none⟩), .int .i64 1] w fun e w' => e = .returned (.pointer (some ⟨l, 3 * 1, none⟩)) ∧ w = w' := by
  go_enter Tryd.func31, Tryd.ntmps31
  go_wp2
  go_ret
  exact ⟨rfl, rfl⟩
theorem find_way (l k : Nat) (hk : k < 2) (w : World) :
    Calls Tryd.prog 31 #[.pointer (some ⟨l, 0, none⟩), .int .i64 (k : Int)] w fun e w' => e = .returned (.pointer (some ⟨l, 3 * k, none⟩)) ∧ w = w' := by
  match k, hk with
  | 0, _ => exact find_0 l w
  | 1, _ => exact find_1 l w
set_option maxRecDepth 100000 in
theorem find_no (l : Nat) (i : Int) (hi : i < 0 ∨ 2 ≤ i) (w : World) :
    Calls Tryd.prog 31 #[.pointer (some ⟨l, 0, none⟩), .int .i64 i] w fun e w' => e = .returned (.pointer none) ∧ w = w' := by
  rcases hi with h | h
  · go_enter Tryd.func31, Tryd.ntmps31
    go_wp2
    go_ret
    exact ⟨rfl, rfl⟩
  · have h' : ¬ i < 0 := by omega
    go_enter Tryd.func31, Tryd.ntmps31
    go_wp2
    go_ret
    exact ⟨rfl, rfl⟩
set_option maxRecDepth 100000 in
theorem waiting_raw (l o m c g : Nat) (a : Option Addr) (w : World) (hb : w.cell? ⟨l, o + 1, none⟩ = some (.slice a m c)) (hg : w.cell? ⟨l, o + 2, none⟩ = some (.int .i64 (g : Int))) (hgm : g ≤ m) (hm : m ≤ 1048576) :
    Calls Tryd.prog 32 #[.pointer (some ⟨l, o, none⟩)] w fun e w' => e = .returned (.int .i64 ((m - g : Nat) : Int)) ∧ ∃ n, w' = w.drewN n := by
  go_enter Tryd.func32, Tryd.ntmps32
  go_wp2
  go_quiet (fail)
  go_wp2
  go_ret
  exact ⟨by rw [show ((m - g : Nat) : Int) = (m : Int) - (g : Int) by omega]; rfl, _, rfl⟩
set_option maxRecDepth 100000 in
theorem space_raw (l o m c g : Nat) (a : Option Addr) (w : World) (hb : w.cell? ⟨l, o + 1, none⟩ = some (.slice a m c)) (hg : w.cell? ⟨l, o + 2, none⟩ = some (.int .i64 (g : Int))) (hgm : g ≤ m) (hm : m ≤ 1048576) :
    Calls Tryd.prog 33 #[.pointer (some ⟨l, o, none⟩)] w fun e w' => e = .returned (.int .i64 (262144 - ((m - g : Nat) : Int))) ∧ ∃ n, w' = w.drewN n := by
  go_enter Tryd.func33, Tryd.ntmps33
  go_wp2_with fail
  refine (waiting_raw l o m c g a w hb hg hgm hm).mono ?_
  rintro e w' ⟨rfl, n, rfl⟩
  obtain ⟨z, hz, hz1⟩ : ∃ z : Int, ((m - g : Nat) : Int) = z ∧ z ≤ 1048576 := ⟨_, rfl, by omega⟩
  have hz0 : 0 ≤ z := by omega
  rw [hz]
  go_wp2
  go_ret
  exact ⟨by rw [hz]; rfl, _, rfl⟩
set_option maxRecDepth 100000 in
theorem newWay_any (w : World) :
    Calls Tryd.prog 38 #[] w fun e w' => ∃ r, e = .returned (.agg #[.pointer (some ⟨r, 0, none⟩), .slice none 0 0, .int .i64 0]) ∧ w.heap.size ≤ r ∧ Blk w' r #[.slice none 0 0, .int .i64 0] 80 ∧ Below w.heap.size w w' := by
  go_enter Tryd.func38, Tryd.ntmps38
  go_wp2_with fail
  refine (new_any _).mono ?_
  rintro e w' ⟨rfl, hw⟩
  go_wp2
  have hA := (Blk.new w #[.pointer (some ⟨w.heap.size + 1, 0, none⟩), .slice none 0 0, .int .i64 0] 56).below ((Below.refl (w.alloc _).heap.size (w.alloc _)).alloc (Nat.le_refl _) (Obj.cells #[.slice none 0 0, .int .i64 0] 80)) (Blk.new w _ _).lt
  have r0 := hA.cell 0
  have r1 := hA.cell 1
  have r2 := hA.cell 2
  refine bodyPost_ret (v := .agg #[.pointer (some ⟨w.heap.size + 1, 0, none⟩), .slice none 0 0, .int .i64 0]) (by simp [results, Tryd.results38, go_sem, r0, r1, r2]) rfl ?_
  refine ⟨w.heap.size + 1, rfl, by omega, ?_, ?_⟩
  · have := Blk.new (w.alloc (Obj.cells #[.pointer (some ⟨w.heap.size + 1, 0, none⟩), .slice none 0 0, .int .i64 0] 56)) #[.slice none 0 0, .int .i64 0] 80
    simpa using this
  · exact ((Below.refl _ _).alloc (Nat.le_refl _) _).alloc (by simp) _
end Go.Proofs.YtkfbhiggnnjoiaaDoor
