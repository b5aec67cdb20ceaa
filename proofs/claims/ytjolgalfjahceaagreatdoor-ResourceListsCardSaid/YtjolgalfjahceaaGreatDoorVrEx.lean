/- resource: the chapter's examples. -/
import Derived.Test.YtjolgalfjahceaaGreatDoorVrSet
import Derived.Laws.StructEq
namespace Go.Proofs.YtjolgalfjahceaaGreatDoor
open Go.RowKit

theorem vr_ok {t : Int} {x : ByteArray} {q : Nat} {g : Bool} {s : ByteArray} (h1 : 1 ≤ t) (h5 : t ≤ 5) (hn : nmOk x = true) (hst : (x.data.toList == [42]) = false) (hs : s.size ≤ 1024) (hg : g = true → s.size = 0) (q1 : 1 ≤ q) (q2 : q ≤ 4611686018427387904) : (Vr.mk t x q g s).ok = true := by
  have e1 : starB x = false := by unfold starB; rw [ByteArray.toList_eq]; exact hst
  have e2 : (g && !(s.toList.isEmpty)) = false := by
    cases g with
    | false => rfl
    | true => rw [ck_empty (hg rfl)]; rfl
  have e3 : decide (1 ≤ t) = true := decide_eq_true h1
  have e4 : decide (t ≤ 5) = true := decide_eq_true h5
  have e5 : decide (1024 < s.size) = false := decide_eq_false (by omega)
  have e6 : decide (1 ≤ (q : Int)) = true := decide_eq_true (by omega)
  have e7 : decide ((q : Int) ≤ 4611686018427387904) = true := decide_eq_true (by omega)
  unfold Vr.ok rsOk kyOk
  simp only [e1, e2, e3, e4, e5, e6, e7, hn]
  rfl
def exR : Vr := ⟨2, ⟨#[97]⟩, 3, false, ⟨#[120]⟩⟩
theorem exR_put : (⟨exR.put.toArray⟩ : ByteArray) = ⟨#[8, 2, 18, 1, 97, 24, 3, 42, 1, 120]⟩ := by rfl
theorem exR_fits : exR.Fits := ⟨by decide, by decide, by decide, by decide, by decide⟩
theorem exR_ok : exR.ok = true := vr_ok (by decide) (by decide) (by decide) (by decide) (by decide) (fun h => by cases h) (by decide) (by decide)
theorem exR_get : getV (⟨#[8, 2, 18, 1, 97, 24, 3, 42, 1, 120]⟩ : ByteArray).data.toList = some exR := by
  have h := get_put (l := []) (more := []) exR_fits exR_ok Ps.nil (fun f hf => (List.not_mem_nil hf).elim)
  rw [List.append_nil] at h
  rw [← exR_put]; exact h
theorem ex_none : getV (⟨#[]⟩ : ByteArray).data.toList = none := by rfl

set_option maxRecDepth 100000 in
set_option maxHeartbeats 4000000 in
theorem rs_examples (b : Addr) (w : World) (hg : Gv b w) :
    Calls Tryz.prog 4 #[] w fun e w' => e = .returned (.bool true) ∧ Below w.heap.size w w' := by
  have hb0 : Below w.heap.size w (w.alloc (.cells #[.int .i64 2, .string ⟨#[97]⟩, .int .u64 3, .bool false, .string ⟨#[120]⟩] 27)) := (Below.refl _ _).alloc (Nat.le_refl _) _
  obtain ⟨w0, hw0⟩ : ∃ w0, w.alloc (.cells #[.int .i64 2, .string ⟨#[97]⟩, .int .u64 3, .bool false, .string ⟨#[120]⟩] 27) = w0 := ⟨_, rfl⟩
  have q0 : Blk w0 w.heap.size #[.int .i64 2, .string ⟨#[97]⟩, .int .u64 3, .bool false, .string ⟨#[120]⟩] 27 := by rw [← hw0]; exact Blk.new _ _ _
  rw [hw0] at hb0
  have hg0 := hg.below hb0
  have HW0 := Lib.hid hw0; clear hw0
  go_enter Tryz.func4, Tryz.ntmps4
  go_wp2_with fail
  rw [HW0.out]
  have hput := vput_ok exR b w0 hg0 exR_fits exR_ok
  rw [exR_put] at hput
  refine hput.mono ?_
  clear hput
  rintro e w1 ⟨rfl, hb1⟩
  have q1 := q0.below hb1 q0.lt
  have hbw1 : Below w.heap.size w w1 := hb0.trans (hb1.mono hb0.size)
  have hg1 := hg0.below hb1
  clear hb1 hb0 hg0 q0
  go_wp2_with fail
  have hget : Calls Tryz.prog 18 #[.string ⟨#[8, 2, 18, 1, 97, 24, 3, 42, 1, 120]⟩] w1 fun e w' => e = .returned (.tuple #[.agg #[.int .i64 2, .string ⟨#[97]⟩, .int .u64 3, .bool false, .string ⟨#[120]⟩], .bool true]) ∧ Below w1.heap.size w1 w' := by
    have := vget_any ⟨#[8, 2, 18, 1, 97, 24, 3, 42, 1, 120]⟩ b w1 (by show 10 ≤ _; omega) hg1
    rw [exR_get] at this
    exact this
  refine hget.mono ?_
  clear hget
  rintro e w2 ⟨rfl, hb2⟩
  obtain ⟨w3, hw3⟩ : ∃ w3, w2.alloc (.cells #[.int .i64 2, .string ⟨#[97]⟩, .int .u64 3, .bool false, .string ⟨#[120]⟩] 27) = w3 := ⟨_, rfl⟩
  have hb3 : Below w2.heap.size w2 w3 := by rw [← hw3]; exact (Below.refl _ _).alloc (Nat.le_refl _) _
  have p3 : Blk w3 w2.heap.size #[.int .i64 2, .string ⟨#[97]⟩, .int .u64 3, .bool false, .string ⟨#[120]⟩] 27 := by rw [← hw3]; exact Blk.new _ _ _
  have hb13 := hb2.trans (hb3.mono hb2.size)
  have q3 := q1.below hb13 q1.lt
  have hbw3 : Below w.heap.size w w3 := hbw1.trans (hb13.mono hbw1.size)
  have hg3 := hg1.below hb13
  have HW3 := Lib.hid hw3
  clear hw3 hb2 hb3 hb13 q1 hbw1 hg1
  go_wp2_with fail
  rw [HW3.out]
  have hget : Calls Tryz.prog 18 #[.string ⟨#[]⟩] w3 fun e w' => e = .returned (.tuple #[.agg #[.int .i64 0, .string ⟨#[]⟩, .int .u64 0, .bool false, .string ⟨#[]⟩], .bool false]) ∧ Below w3.heap.size w3 w' := by
    have := vget_any ⟨#[]⟩ b w3 (Nat.zero_le _) hg3
    rw [ex_none] at this
    exact this
  refine hget.mono ?_
  clear hget
  rintro e w4 ⟨rfl, hb4⟩
  obtain ⟨w5, hw5⟩ : ∃ w5, w4.alloc (.cells #[.int .i64 0, .string ⟨#[]⟩, .int .u64 0, .bool false, .string ⟨#[]⟩] 27) = w5 := ⟨_, rfl⟩
  have hb5 : Below w4.heap.size w4 w5 := by rw [← hw5]; exact (Below.refl _ _).alloc (Nat.le_refl _) _
  have hb35 := hb4.trans (hb5.mono hb4.size)
  have q5 := q3.below hb35 q3.lt
  have p5 := p3.below hb35 p3.lt
  have hbw5 : Below w.heap.size w w5 := hbw3.trans (hb35.mono hbw3.size)
  have q4 := q3.below hb4 q3.lt
  have c0 : w4.cell? ⟨w.heap.size, 0, none⟩ = some (.int .i64 2) := q4.cell 0
  have c1 : w4.cell? ⟨w.heap.size, 1, none⟩ = some (.string ⟨#[97]⟩) := q4.cell 1
  have c2 : w4.cell? ⟨w.heap.size, 2, none⟩ = some (.int .u64 3) := q4.cell 2
  have c3 : w4.cell? ⟨w.heap.size, 3, none⟩ = some (.bool false) := q4.cell 3
  have c4 : w4.cell? ⟨w.heap.size, 4, none⟩ = some (.string ⟨#[120]⟩) := q4.cell 4
  have hlt4 := q4.lt
  have HW5 := Lib.hid hw5
  clear hw5 hb4 hb5 hb35 q3 p3 hbw3 hg3 q4
  go_wp2_with fail
  rw [HW5.out]
  refine (set_nil 2 ⟨#[97]⟩ 3 false ⟨#[120]⟩ w5).mono ?_
  rintro e w6 ⟨⟨B, cc, rfl, d0, d1, d2, d3, d4, dlt⟩, hb6⟩
  have q6 := q5.below hb6 q5.lt
  have p6 := p5.below hb6 p5.lt
  have hbw6 : Below w.heap.size w w6 := hbw5.trans (hb6.mono hbw5.size)
  clear c0 c1 c2 c3 c4 hlt4 q5 p5 hb6 hbw5
  have c0 : w6.cell? ⟨w.heap.size, 0, none⟩ = some (.int .i64 2) := q6.cell 0
  have c1 : w6.cell? ⟨w.heap.size, 1, none⟩ = some (.string ⟨#[97]⟩) := q6.cell 1
  have HF := Lib.hid (find_one B cc 2 ⟨#[97]⟩ 3 false ⟨#[120]⟩ w6 d0 d1 d2 d3 d4 dlt)
  clear d0 d1 d2 d3 d4 dlt
  go_wp2_with fail
  refine HF.out.mono ?_
  rintro e w7 ⟨rfl, hb7⟩
  have q7 := q6.below hb7 q6.lt
  have p7 := p6.below hb7 p6.lt
  have hbw7 : Below w.heap.size w w7 := hbw6.trans (hb7.mono hbw6.size)
  clear c0 c1 q6 p6 hb7 hbw6
  have c0 : w7.cell? ⟨w.heap.size, 0, none⟩ = some (.int .i64 2) := q7.cell 0
  have c1 : w7.cell? ⟨w.heap.size, 1, none⟩ = some (.string ⟨#[97]⟩) := q7.cell 1
  have c2 : w7.cell? ⟨w.heap.size, 2, none⟩ = some (.int .u64 3) := q7.cell 2
  have c3 : w7.cell? ⟨w.heap.size, 3, none⟩ = some (.bool false) := q7.cell 3
  have c4 : w7.cell? ⟨w.heap.size, 4, none⟩ = some (.string ⟨#[120]⟩) := q7.cell 4
  have e0 : w7.cell? ⟨w2.heap.size, 0, none⟩ = some (.int .i64 2) := p7.cell 0
  have e1 : w7.cell? ⟨w2.heap.size, 1, none⟩ = some (.string ⟨#[97]⟩) := p7.cell 1
  have e2 : w7.cell? ⟨w2.heap.size, 2, none⟩ = some (.int .u64 3) := p7.cell 2
  have e3 : w7.cell? ⟨w2.heap.size, 3, none⟩ = some (.bool false) := p7.cell 3
  have e4 : w7.cell? ⟨w2.heap.size, 4, none⟩ = some (.string ⟨#[120]⟩) := p7.cell 4
  have hlt7 := q7.lt
  have plt7 := p7.lt
  clear q7 p7
  go_wp2
  go_ret
  exact ⟨rfl, hbw7.alloc hbw7.size _⟩
end Go.Proofs.YtjolgalfjahceaaGreatDoor
