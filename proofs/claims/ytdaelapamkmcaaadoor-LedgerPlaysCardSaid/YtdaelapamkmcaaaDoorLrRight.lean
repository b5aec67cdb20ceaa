/- ledger's reference: whether a status can be put. -/
import Derived.Test.YtdaelapamkmcaaaDoorLdNote
import Derived.Test.YtdaelapamkmcaaaDoorCkRight
import Derived.Test.YtdaelapamkmcaaaDoorRefPut
namespace Go.Proofs.YtdaelapamkmcaaaDoor
open Go.RowKit

theorem nm_not_star {x : ByteArray} (h : nmOk x = true) : starB x = false := by
  cases hs : starB x with
  | false => rfl
  | true =>
    unfold starB at hs
    rw [ByteArray.toList_eq, beq_iff_eq] at hs
    unfold nmOk at h
    rw [hs] at h
    simp [nmB] at h
theorem stOk_is (r : St) : r.ok = (kyOk r.t r.x && !starB r.x && decide (0 < r.q) && decide (r.s.size ≤ 256) && (!r.f || decide (r.s.size = 0))) := by
  unfold St.ok kyOk
  have hq : ((r.q : Int) != 0) = decide (0 < r.q) := by
    by_cases h : 0 < r.q
    · rw [decide_eq_true h, bne_iff_ne]; omega
    · have : r.q = 0 := by omega
      rw [this]; rfl
  have hs : decide ((r.s.size : Int) ≤ 256) = decide (r.s.size ≤ 256) := by rw [decide_eq_decide]; omega
  rw [hq, hs]
  have hn := @nm_not_star r.x
  cases h1 : nmOk r.x with
  | true => rw [hn h1]; simp
  | false => cases h2 : starB r.x <;> simp
set_option maxRecDepth 100000 in
set_option maxHeartbeats 4000000 in
theorem rright5_any (r : St) (w : World) (hx : r.x.size ≤ maxLen) : Calls Tryd.prog 41 #[r.v] w fun e w' => e = .returned (.bool r.ok) ∧ Below w.heap.size w w' := by
  rw [stOk_is]
  obtain ⟨t, x, q, f, s⟩ := r
  simp only at hx ⊢
  obtain ⟨w1, hw1⟩ : ∃ w1, w.alloc (.cells #[.int .i64 t, .string x, .int .u64 (q : Int), .bool f, .string s] 41) = w1 := ⟨_, rfl⟩
  have hb1 : Below w.heap.size w w1 := by rw [← hw1]; exact (Below.refl _ _).alloc (Nat.le_refl _) _
  have q1 : Blk w1 w.heap.size #[.int .i64 t, .string x, .int .u64 (q : Int), .bool f, .string s] 41 := by rw [← hw1]; exact Blk.new _ _ _
  have y0 : w1.cell? ⟨w.heap.size, 0, none⟩ = some (.int .i64 t) := q1.cell 0
  have y1 : w1.cell? ⟨w.heap.size, 1, none⟩ = some (.string x) := q1.cell 1
  have HKY := Lib.hid (rkey_any t x w1 hx)
  have HW1 := Lib.hid hw1
  have HB1 := Lib.hid hb1
  have HQ1 := Lib.hid q1
  clear hw1 hb1 q1 hx
  generalize kyOk t x = A at HKY ⊢
  unfold starB
  obtain ⟨B, hB⟩ : ∃ B, (x.toList == [42]) = B := ⟨_, rfl⟩
  obtain ⟨C, hC⟩ : ∃ C, decide (0 < q) = C := ⟨_, rfl⟩
  have hC' : decide ((0 : Int) < (q : Int)) = C := by rw [← hC, decide_eq_decide]; omega
  obtain ⟨D, hD⟩ : ∃ D, decide (s.size ≤ 256) = D := ⟨_, rfl⟩
  have hD' : decide ((s.size : Int) ≤ 256) = D := by rw [← hD, decide_eq_decide]; omega
  obtain ⟨E, hE⟩ : ∃ E, decide (s.size = 0) = E := ⟨_, rfl⟩
  have hE' : (s.toList == []) = E := by
    rw [← hE, ByteArray.toList_eq]
    obtain ⟨⟨l⟩⟩ := s
    cases l <;> rfl
  have hE2 : s.toList.isEmpty = E := by
    rw [← hE, ByteArray.toList_eq]
    obtain ⟨⟨l⟩⟩ := s
    cases l <;> rfl
  rw [hB, hC, hD, hE]
  have hend : ∀ w2, Below w1.heap.size w1 w2 → (w2.cell? ⟨w.heap.size, 1, none⟩ = some (.string x) ∧ w2.cell? ⟨w.heap.size, 2, none⟩ = some (.int .u64 (q : Int)) ∧ w2.cell? ⟨w.heap.size, 3, none⟩ = some (.bool f) ∧ w2.cell? ⟨w.heap.size, 4, none⟩ = some (.string s) ∧ Below w.heap.size w w2) := fun w2 hb => by
    have q2 := HQ1.out.later hb
    exact ⟨q2.cell 1, q2.cell 2, q2.cell 3, q2.cell 4, HB1.out.trans (hb.mono HB1.out.size)⟩
  have HEND := Lib.hid hend
  clear hend
  cases A <;> cases B <;> cases C <;> cases D <;> cases f <;> cases E
  all_goals
    go_enter Tryd.func41, Tryd.ntmps41
    go_wp2_with (rw [HW1.out])
    refine HKY.out.mono ?_
    rintro e w2 ⟨rfl, hb⟩
    obtain ⟨z1, z2, z3, z4, hbz⟩ := HEND.out w2 hb
    clear hb
    go_wp2_with fail
    go_ret
    exact ⟨rfl, hbz⟩
set_option maxRecDepth 100000 in
theorem rnum5_any (num : Int) (n : Nat) (w : World) (hn : n < 2 ^ 64) : Calls Tryd.prog 42 #[.int .i64 num, .int .u64 (n : Int)] w fun e w' => e = .returned (.string ⟨(nmb num n).toArray⟩) ∧ Below w.heap.size w w' := by
  unfold nmb
  by_cases h : n = 0
  · subst h
    rw [if_pos rfl]
    go_enter Tryd.func42, Tryd.ntmps42
    go_wp2_with fail
    go_ret
    exact ⟨rfl, Below.refl _ _⟩
  · rw [if_neg h]
    have h1 : ((n : Int) == 0) = false := beq_eq_false_iff_ne.2 (by omega)
    have HC := Lib.hid (refNumber_any num n w hn)
    clear h hn
    go_enter Tryd.func42, Tryd.ntmps42
    go_wp2_with fail
    refine HC.out.mono ?_
    rintro e w2 ⟨rfl, hb⟩
    go_wp2_with fail
    go_ret
    exact ⟨rfl, hb⟩
set_option maxRecDepth 100000 in
theorem rflag5_any (num : Int) (f : Bool) (w : World) : Calls Tryd.prog 44 #[.int .i64 num, .bool f] w fun e w' => e = .returned (.string ⟨(flg num f).toArray⟩) ∧ Below w.heap.size w w' := by
  unfold flg
  cases f with
  | false =>
    go_enter Tryd.func44, Tryd.ntmps44
    go_wp2_with fail
    go_ret
    exact ⟨rfl, Below.refl _ _⟩
  | true =>
    have HC := Lib.hid (show Calls Tryd.prog 67 #[.int .i64 num, .int .u64 1] w fun e w' => e = .returned (.string ⟨(numberL num 1).toArray⟩) ∧ Below w.heap.size w w' from refNumber_any num 1 w (by decide))
    go_enter Tryd.func44, Tryd.ntmps44
    go_wp2_with fail
    refine HC.out.mono ?_
    rintro e w2 ⟨rfl, hb⟩
    go_wp2_with fail
    go_ret
    exact ⟨rfl, hb⟩
end Go.Proofs.YtdaelapamkmcaaaDoor
