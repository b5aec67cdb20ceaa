/- ledger: own; State; the tests of marks. -/
import Derived.Test.YtdaelapamkmcaaaDoorLdFind
import Derived.Test.YtdaelapamkmcaaaDoorShelf
namespace Go.Proofs.YtdaelapamkmcaaaDoor
open Go.RowKit

abbrev Mk.v (m : Mk) : Value := .agg #[.int .i64 m.t, .string m.x, .int .u64 (m.q : Int), .int .i64 m.s, .string m.d]
/-- The box of own's mark: it reads the same throughout. -/
structure OwS (B : Nat) (m : Mk) (w0 w' : World) : Prop where
  a : Blk w' B #[.int .i64 m.t, .string m.x, .int .u64 (m.q : Int), .int .i64 m.s, .string m.d] 49
  b : Blk w' (B + 1) #[.int .i64 0, .string ⟨#[]⟩, .int .u64 0, .int .i64 0, .string ⟨#[]⟩] 49
  c : w0.heap.size ≤ B
  d : Below w0.heap.size w0 w'
theorem OwS.next {B : Nat} {m : Mk} {w0 w w' : World} (h : OwS B m w0 w) (hb : Below w.heap.size w w') : OwS B m w0 w' :=
  ⟨h.a.later hb, h.b.later hb, h.c, h.d.trans (hb.mono h.d.size)⟩
theorem OwS.set1 {B : Nat} {m : Mk} {w0 w : World} (h : OwS B m w0 w) : OwS B m w0 (w.setCell ⟨B, 1, none⟩ (.string m.x)) :=
  ⟨h.a.set 1 (.string m.x), h.b.kept (grown_set w B 1 _) (by simp), h.c, h.d.setCell h.c _⟩
theorem OwS.set4 {B : Nat} {m : Mk} {w0 w : World} (h : OwS B m w0 w) : OwS B m w0 (w.setCell ⟨B, 4, none⟩ (.string m.d)) :=
  ⟨h.a.set 4 (.string m.d), h.b.kept (grown_set w B 4 _) (by simp), h.c, h.d.setCell h.c _⟩
abbrev OwT (B : Nat) (m : Mk) (w0 w' : World) : Prop := w'.cell? ⟨B, 1, none⟩ = some (.string m.x) ∧ w'.cell? ⟨B, 4, none⟩ = some (.string m.d) ∧ w'.frozen? ⟨B, 1, none⟩ = false ∧ w'.frozen? ⟨B, 4, none⟩ = false ∧ OwS B m w0 w'
theorem OwS.all {B : Nat} {m : Mk} {w0 w : World} (h : OwS B m w0 w) : OwT B m w0 w := ⟨h.a.cell 1, h.a.cell 4, h.a.frozen 1, h.a.frozen 4, h⟩
theorem OwT.next {B : Nat} {m : Mk} {w0 w w' : World} (h : OwT B m w0 w) (hb : Below w.heap.size w w') : OwT B m w0 w' := (h.2.2.2.2.next hb).all
theorem OwT.set1 {B : Nat} {m : Mk} {w0 w : World} (h : OwT B m w0 w) : OwT B m w0 (w.setCell ⟨B, 1, none⟩ (.string m.x)) := (h.2.2.2.2.set1).all
theorem OwT.set4 {B : Nat} {m : Mk} {w0 w : World} (h : OwT B m w0 w) : OwT B m w0 (w.setCell ⟨B, 4, none⟩ (.string m.d)) := (h.2.2.2.2.set4).all
set_option maxRecDepth 100000 in
set_option maxHeartbeats 2000000 in
theorem own_any (m : Mk) (w : World) (hx : m.x.size ≤ 140737488355328) (hd : m.d.size ≤ 140737488355328) :
    Calls Tryd.prog 27 #[m.v] w fun e w' => e = .returned m.v ∧ Below w.heap.size w w' := by
  obtain ⟨u, y, r, s, d⟩ := m
  obtain ⟨w1, hw1⟩ : ∃ w1, (w.alloc (.cells #[.int .i64 u, .string y, .int .u64 (r : Int), .int .i64 s, .string d] 49)).alloc (.cells #[.int .i64 0, .string ⟨#[]⟩, .int .u64 0, .int .i64 0, .string ⟨#[]⟩] 49) = w1 := ⟨_, rfl⟩
  have ST : OwS w.heap.size ⟨u, y, r, s, d⟩ w w1 := by
    rw [← hw1]
    have h0 := Blk.new w #[.int .i64 u, .string y, .int .u64 (r : Int), .int .i64 s, .string d] 49
    have h1 := Blk.new (w.alloc (.cells #[.int .i64 u, .string y, .int .u64 (r : Int), .int .i64 s, .string d] 49)) #[.int .i64 0, .string ⟨#[]⟩, .int .u64 0, .int .i64 0, .string ⟨#[]⟩] 49
    have e : (w.alloc (.cells #[.int .i64 u, .string y, .int .u64 (r : Int), .int .i64 s, .string d] 49)).heap.size = w.heap.size + 1 := by simp
    rw [e] at h1
    exact ⟨h0.later ((Below.refl _ _).alloc (Nat.le_refl _) _), h1, Nat.le_refl _, ((Below.refl _ _).alloc (Nat.le_refl _) _).alloc (by simp) _⟩
  have HX := Lib.hid hx
  have HD := Lib.hid hd
  have HW1 := Lib.hid hw1
  clear hx hd hw1
  go_enter Tryd.func27, Tryd.ntmps27
  go_wp2_with fail
  rw [HW1.out]
  have S1 : OwT w.heap.size ⟨u, y, r, s, d⟩ w w1.drew := (ST.next (Below.refl _ _).drew).all
  clear ST
  go_region_held3 (fun w' => w'.cell? ⟨w.heap.size, 1, none⟩ = some (.string y) ∧ w'.cell? ⟨w.heap.size, 4, none⟩ = some (.string d) ∧ w'.frozen? ⟨w.heap.size, 1, none⟩ = false ∧ w'.frozen? ⟨w.heap.size, 4, none⟩ = false ∧ OwS w.heap.size ⟨u, y, r, s, d⟩ w w') (with_reducible first | exact S1 | exact OwT.next (m := ⟨u, y, r, s, d⟩) (by assumption) (by assumption) | exact OwT.set1 (m := ⟨u, y, r, s, d⟩) (by assumption) | exact OwT.set4 (m := ⟨u, y, r, s, d⟩) (by assumption) | go_keep) ((go_at_call 40; refine (clone_any _ _ (by first | exact HX.out | exact HD.out)).mono ?_; rintro e wC ⟨rfl, hbC⟩))
  rename_i hH
  have q := hH.2.2.2.2
  clear hH S1 HW1 hbC
  generalize (wC.setCell ⟨w.heap.size, 1, none⟩ (.string y)).setCell ⟨w.heap.size, 4, none⟩ (.string d) = w2 at q ⊢
  have c0 : w2.cell? ⟨w.heap.size, 0, none⟩ = some (.int .i64 u) := q.a.cell 0
  have c1 : w2.cell? ⟨w.heap.size, 1, none⟩ = some (.string y) := q.a.cell 1
  have c2 : w2.cell? ⟨w.heap.size, 2, none⟩ = some (.int .u64 (r : Int)) := q.a.cell 2
  have c3 : w2.cell? ⟨w.heap.size, 3, none⟩ = some (.int .i64 s) := q.a.cell 3
  have c4 : w2.cell? ⟨w.heap.size, 4, none⟩ = some (.string d) := q.a.cell 4
  have d0 : w2.cell? ⟨w.heap.size + 1, 0, none⟩ = some (.int .i64 0) := q.b.cell 0
  have d1 : w2.cell? ⟨w.heap.size + 1, 1, none⟩ = some (.string ⟨#[]⟩) := q.b.cell 1
  have d2 : w2.cell? ⟨w.heap.size + 1, 2, none⟩ = some (.int .u64 0) := q.b.cell 2
  have d3 : w2.cell? ⟨w.heap.size + 1, 3, none⟩ = some (.int .i64 0) := q.b.cell 3
  have d4 : w2.cell? ⟨w.heap.size + 1, 4, none⟩ = some (.string ⟨#[]⟩) := q.b.cell 4
  have f0 := q.b.frozen 0
  have f1 := q.b.frozen 1
  have f2 := q.b.frozen 2
  have f3 := q.b.frozen 3
  have f4 := q.b.frozen 4
  go_wp2_with fail
  have q6 := ((((q.b.set 0 (.int .i64 u)).set 1 (.string y)).set 2 (.int .u64 (r : Int))).set 3 (.int .i64 s)).set 4 (.string d)
  have z0 := q6.cell 0
  have z1 := q6.cell 1
  have z2 := q6.cell 2
  have z3 := q6.cell 3
  have z4 := q6.cell 4
  simp only [List.setIfInBounds_toArray, List.set_cons_zero, List.set_cons_succ, List.getElem?_toArray, List.getElem?_cons_zero, List.getElem?_cons_succ] at z0 z1 z2 z3 z4
  have hb4 := ((((q.d.setCell (p := ⟨w.heap.size + 1, 0, none⟩) (Nat.le_succ _) (.int .i64 u)).setCell (p := ⟨w.heap.size + 1, 1, none⟩) (Nat.le_succ _) (.string y)).setCell (p := ⟨w.heap.size + 1, 2, none⟩) (Nat.le_succ _) (.int .u64 (r : Int))).setCell (p := ⟨w.heap.size + 1, 3, none⟩) (Nat.le_succ _) (.int .i64 s)).setCell (p := ⟨w.heap.size + 1, 4, none⟩) (Nat.le_succ _) (.string d)
  exact bodyPost_ret (v := Mk.v ⟨u, y, r, s, d⟩) (by simp [results, Tryd.results27, go_sem, z0, z1, z2, z3, z4]) rfl ⟨rfl, hb4⟩
end Go.Proofs.YtdaelapamkmcaaaDoor
