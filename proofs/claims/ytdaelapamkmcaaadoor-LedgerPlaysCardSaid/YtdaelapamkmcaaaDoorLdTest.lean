/- ledger: what is asked of a mark: the closures. -/
import Derived.Test.YtdaelapamkmcaaaDoorLdOwn
namespace Go.Proofs.YtdaelapamkmcaaaDoor
open Go.RowKit

theorem keyM_eq (t : Int) (x : ByteArray) (m : Mk) : (m.t == t && m.x.toList == x.toList) = keyM t x m := by
  unfold keyM
  by_cases h1 : m.t = t
  · by_cases h2 : m.x = x
    · rw [decide_eq_true ⟨h1, h2⟩, h1, h2]; simp
    · rw [decide_eq_false (fun h => h2 h.2)]
      have : (m.x.toList == x.toList) = false := by rw [beq_eq_false_iff_ne]; exact fun e => h2 (ba_ext e)
      rw [this, Bool.and_false]
  · rw [decide_eq_false (fun h => h1 h.1)]
    have : (m.t == t) = false := by rw [beq_eq_false_iff_ne]; exact h1
    rw [this, Bool.false_and]
set_option maxRecDepth 100000 in
theorem pending_any (m : Mk) (w : World) : Calls Tryd.prog 24 #[m.v] w fun e w' => e = .returned (.bool (decide (m.s = 1))) ∧ Below w.heap.size w w' := by
  obtain ⟨u, y, r, s, d⟩ := m
  have hb := (Below.refl w.heap.size w).alloc (Nat.le_refl _) (.cells #[.int .i64 u, .string y, .int .u64 (r : Int), .int .i64 s, .string d] 49)
  have HB := Lib.hid hb
  clear hb
  obtain ⟨B, hB⟩ : ∃ B, decide (s = 1) = B := ⟨_, rfl⟩
  have hB' : (s == 1) = B := by rw [← hB]; rfl
  rw [show decide ((⟨u, y, r, s, d⟩ : Mk).s = 1) = B from hB]
  clear hB
  go_enter Tryd.func24, Tryd.ntmps24
  go_wp2_with fail
  go_ret
  first | exact ⟨rfl, HB.out⟩ | exact ⟨by rw [← hB'], HB.out⟩ | exact ⟨by simp [← hB'], HB.out⟩

/-- The status in Note's box. -/
abbrev StBx (b : Nat) (t : Int) (x : ByteArray) (q : Nat) (f : Bool) (d : ByteArray) (w : World) : Prop := Blk w b #[.int .i64 t, .string x, .int .u64 (q : Int), .bool f, .string d] 37
set_option maxRecDepth 100000 in
set_option maxHeartbeats 1000000 in
theorem note1_any (b : Nat) (t : Int) (x : ByteArray) (q : Nat) (f : Bool) (d : ByteArray) (m : Mk) (w : World) (h : StBx b t x q f d w) :
    Calls Tryd.prog 18 #[m.v, .pointer (some ⟨b, 0, none⟩)] w fun e w' => e = .returned (.bool (keyM t x m && decide (m.q ≤ q))) ∧ Below w.heap.size w w' := by
  have hk := keyM_eq t x m
  obtain ⟨u, y, r, s, d'⟩ := m
  have hb := (Below.refl w.heap.size w).alloc (Nat.le_refl _) (.cells #[.int .i64 u, .string y, .int .u64 (r : Int), .int .i64 s, .string d'] 49)
  have h1 := h.later hb
  have c0 : (w.alloc (.cells #[.int .i64 u, .string y, .int .u64 (r : Int), .int .i64 s, .string d'] 49)).cell? ⟨b, 0, none⟩ = some (.int .i64 t) := h1.cell 0
  have c1 : (w.alloc (.cells #[.int .i64 u, .string y, .int .u64 (r : Int), .int .i64 s, .string d'] 49)).cell? ⟨b, 1, none⟩ = some (.string x) := h1.cell 1
  have c2 : (w.alloc (.cells #[.int .i64 u, .string y, .int .u64 (r : Int), .int .i64 s, .string d'] 49)).cell? ⟨b, 2, none⟩ = some (.int .u64 (q : Int)) := h1.cell 2
  have e1 := fun w => ck_eqlKey u t y x w
  have g1 := fun op a b xs ys w => ck_guardKey op a b xs ys w
  have HB := Lib.hid hb
  clear hb h h1
  simp only at hk ⊢
  generalize keyM t x ⟨u, y, r, s, d'⟩ = K at hk ⊢
  rw [hk] at e1
  clear hk
  cases K with
  | false =>
    rw [Bool.false_and]
    go_enter Tryd.func18, Tryd.ntmps18
    go_wp2_with fail
    go_ret
    exact ⟨rfl, HB.out⟩
  | true =>
    rw [Bool.true_and]
    obtain ⟨B, hB⟩ : ∃ B, decide (r ≤ q) = B := ⟨_, rfl⟩
    have hB' : decide ((r : Int) ≤ (q : Int)) = B := by rw [← hB, decide_eq_decide]; omega
    rw [hB]
    clear hB
    go_enter Tryd.func18, Tryd.ntmps18
    go_wp2_with fail
    all_goals
      go_ret
      first | exact ⟨rfl, HB.out⟩ | (refine ⟨?_, HB.out⟩; simp_all)
set_option maxRecDepth 100000 in
set_option maxHeartbeats 1000000 in
theorem note2_any (b : Nat) (t : Int) (x : ByteArray) (q : Nat) (f : Bool) (d : ByteArray) (m : Mk) (w : World) (h : StBx b t x q f d w) :
    Calls Tryd.prog 20 #[m.v, .pointer (some ⟨b, 0, none⟩)] w fun e w' => e = .returned (.bool (keyM t x m && decide (m.q = q))) ∧ Below w.heap.size w w' := by
  have hk := keyM_eq t x m
  obtain ⟨u, y, r, s, d'⟩ := m
  have hb := (Below.refl w.heap.size w).alloc (Nat.le_refl _) (.cells #[.int .i64 u, .string y, .int .u64 (r : Int), .int .i64 s, .string d'] 49)
  have h1 := h.later hb
  have c0 : (w.alloc (.cells #[.int .i64 u, .string y, .int .u64 (r : Int), .int .i64 s, .string d'] 49)).cell? ⟨b, 0, none⟩ = some (.int .i64 t) := h1.cell 0
  have c1 : (w.alloc (.cells #[.int .i64 u, .string y, .int .u64 (r : Int), .int .i64 s, .string d'] 49)).cell? ⟨b, 1, none⟩ = some (.string x) := h1.cell 1
  have c2 : (w.alloc (.cells #[.int .i64 u, .string y, .int .u64 (r : Int), .int .i64 s, .string d'] 49)).cell? ⟨b, 2, none⟩ = some (.int .u64 (q : Int)) := h1.cell 2
  have e1 := fun w => ck_eqlKey u t y x w
  have g1 := fun op a b xs ys w => ck_guardKey op a b xs ys w
  have HB := Lib.hid hb
  clear hb h h1
  simp only at hk ⊢
  generalize keyM t x ⟨u, y, r, s, d'⟩ = K at hk ⊢
  rw [hk] at e1
  clear hk
  cases K with
  | false =>
    rw [Bool.false_and]
    go_enter Tryd.func20, Tryd.ntmps20
    go_wp2_with fail
    go_ret
    exact ⟨rfl, HB.out⟩
  | true =>
    rw [Bool.true_and]
    obtain ⟨B, hB⟩ : ∃ B, decide (r = q) = B := ⟨_, rfl⟩
    have hB' : ((r : Int) == (q : Int)) = B := by rw [← hB]; by_cases e : r = q <;> simp [e]; omega
    rw [hB]
    clear hB
    go_enter Tryd.func20, Tryd.ntmps20
    go_wp2_with fail
    all_goals
      go_ret
      first | exact ⟨rfl, HB.out⟩ | (refine ⟨?_, HB.out⟩; simp_all)
set_option maxRecDepth 100000 in
theorem older_any (a b : Mk) (w : World) : Calls Tryd.prog 50 #[a.v, b.v] w fun e w' => e = .returned (.int .i64 (cmpI (a.q : Int) (b.q : Int))) ∧ Below w.heap.size w w' := by
  obtain ⟨u, y, r, s, d⟩ := a
  obtain ⟨u2, y2, r2, s2, d2⟩ := b
  have hb := ((Below.refl w.heap.size w).alloc (Nat.le_refl _) (.cells #[.int .i64 u, .string y, .int .u64 (r : Int), .int .i64 s, .string d] 49)).alloc (by simp) (.cells #[.int .i64 u2, .string y2, .int .u64 (r2 : Int), .int .i64 s2, .string d2] 49)
  have HB := Lib.hid hb
  clear hb
  go_enter Tryd.func50, Tryd.ntmps50
  go_wp2_with fail
  refine (cmp_u64 _ _ _).mono ?_
  rintro e w' ⟨rfl, hb⟩
  have HB2 := Lib.hid (HB.out.trans (hb.mono HB.out.size))
  clear hb
  go_wp2_with fail
  go_ret
  exact ⟨rfl, HB2.out⟩
end Go.Proofs.YtdaelapamkmcaaaDoor
