/- resource: Find in any list; Cut. -/
import Derived.Test.YtjolgalfjahceaaGreatDoorVrKey
namespace Go.Proofs.YtjolgalfjahceaaGreatDoor
open Go.RowKit

theorem idx_cases (p : Vr → Bool) (rs : List Vr) : (idxV p rs = -1 ∧ rs.find? p = none ∧ rs.any p = false) ∨ ∃ (k : Nat) (r : Vr), rs[k]? = some r ∧ idxV p rs = (k : Int) ∧ rs.find? p = some r ∧ k < rs.length := by
  by_cases h : rs.any p = true
  · right
    have hlt : rs.findIdx p < rs.length := List.findIdx_lt_length_of_exists (List.any_eq_true.1 h)
    refine ⟨rs.findIdx p, rs[rs.findIdx p], List.getElem?_eq_getElem hlt, ?_, ?_, hlt⟩
    · unfold idxV; rw [if_pos h]
    · rw [List.find?_eq_some_iff_getElem]
      refine ⟨List.findIdx_getElem (w := hlt), _, hlt, rfl, fun j hj => ?_⟩
      have := List.not_of_lt_findIdx hj
      simpa using this
  · left
    have h' : rs.any p = false := by simpa using h
    refine ⟨by unfold idxV; rw [h']; rfl, ?_, h'⟩
    rw [List.find?_eq_none]
    intro x hx
    rw [List.any_eq_false] at h'
    exact h' x hx

set_option maxRecDepth 100000 in
set_option maxHeartbeats 1000000 in
theorem find_any (t : Int) (x : ByteArray) (a : Option Addr) (c : Nat) (rs : List Vr) (w : World) (hr : VrsAt w a rs) (hLb : rs.length ≤ 1099511627776) :
    Calls Tryz.prog 7 #[.slice a rs.length c, .agg #[.int .i64 t, .string x]] w fun e w' => e = .returned (.tuple #[getVal (rs.find? (keyB t x)), .bool (rs.find? (keyB t x)).isSome]) ∧ Below w.heap.size w w' := by
  obtain ⟨L, hL⟩ : ∃ L, rs.length = L := ⟨_, rfl⟩
  have hIdx : ∀ K W, KyAt W K t x → VrsAt W a rs → Calls Tryz.prog 20 #[.slice a L c, .func (.func 38) #[] #[.pointer (some ⟨K, 0, none⟩)]] W fun e w' => e = .returned (.int .i64 (idxV (keyB t x) rs)) ∧ Below W.heap.size W w' :=
    fun K W h1 h2 => by rw [← hL]; exact idx_key K t x a c rs W h1 h2 hLb
  rw [hL] at hLb ⊢
  have HI := Lib.hid hIdx
  have HR := Lib.hid hr
  have HL := Lib.hid hL
  have hb0 : Below w.heap.size w ((w.alloc (.cells #[.int .i64 t, .string x] 24)).alloc (.cells #[.int .i64 0, .string ⟨#[]⟩, .int .u64 0, .bool false, .string ⟨#[]⟩] 27)) := ((Below.refl _ _).alloc (Nat.le_refl _) _).alloc (by simp) _
  obtain ⟨w0, hw0⟩ : ∃ w0, (w.alloc (.cells #[.int .i64 t, .string x] 24)).alloc (.cells #[.int .i64 0, .string ⟨#[]⟩, .int .u64 0, .bool false, .string ⟨#[]⟩] 27) = w0 := ⟨_, rfl⟩
  have r0 : Blk w0 (w.heap.size + 1) #[.int .i64 0, .string ⟨#[]⟩, .int .u64 0, .bool false, .string ⟨#[]⟩] 27 := by
    rw [← hw0]
    have := Blk.new (w.alloc (.cells #[.int .i64 t, .string x] 24)) #[.int .i64 0, .string ⟨#[]⟩, .int .u64 0, .bool false, .string ⟨#[]⟩] 27
    simpa using this
  rw [hw0] at hb0
  have HW0 := Lib.hid hw0
  clear hL hr hIdx hw0
  go_enter Tryz.func7, Tryz.ntmps7
  go_wp2_with fail
  rw [HW0.out]
  refine (hasKey_any t x w0).mono ?_
  rintro e w1 ⟨K, rfl, hK, hb1⟩
  have r1 := r0.below hb1 r0.lt
  have hbw1 : Below w.heap.size w w1 := hb0.trans (hb1.mono hb0.size)
  clear hb1 hb0 r0 HW0
  go_wp2_with fail
  refine (HI.out K w1 hK (HR.out.below hbw1)).mono ?_
  rintro e w2 ⟨rfl, hb2⟩
  have r2 := r1.below hb2 r1.lt
  have hbw2 : Below w.heap.size w w2 := hbw1.trans (hb2.mono hbw1.size)
  clear hb2 hbw1 r1 hK
  have z0 : w2.cell? ⟨w.heap.size + 1, 0, none⟩ = some (.int .i64 0) := r2.cell 0
  have z1 : w2.cell? ⟨w.heap.size + 1, 1, none⟩ = some (.string ⟨#[]⟩) := r2.cell 1
  have z2 : w2.cell? ⟨w.heap.size + 1, 2, none⟩ = some (.int .u64 0) := r2.cell 2
  have z3 : w2.cell? ⟨w.heap.size + 1, 3, none⟩ = some (.bool false) := r2.cell 3
  have z4 : w2.cell? ⟨w.heap.size + 1, 4, none⟩ = some (.string ⟨#[]⟩) := r2.cell 4
  have zf : ∀ j, w2.frozen? ⟨w.heap.size + 1, j, none⟩ = false := r2.frozen
  have HR2 := Lib.hid (HR.out.below hbw2)
  rcases idx_cases (keyB t x) rs with ⟨hi, hf, _⟩ | ⟨k, r, hx, hi, hf, hk⟩
  · rw [hi]
    have HF := Lib.hid hf
    clear hi hf HI
    go_wp2_with fail
    have RR : Blk (((((w2.setCell ⟨w.heap.size + 1, 0, none⟩ (.int .i64 0)).setCell ⟨w.heap.size + 1, 1, none⟩ (.string ⟨#[]⟩)).setCell ⟨w.heap.size + 1, 2, none⟩ (.int .u64 0)).setCell ⟨w.heap.size + 1, 3, none⟩ (.bool false)).setCell ⟨w.heap.size + 1, 4, none⟩ (.string ⟨#[]⟩)) (w.heap.size + 1) #[.int .i64 0, .string ⟨#[]⟩, .int .u64 0, .bool false, .string ⟨#[]⟩] 27 := ((((r2.set 0 _).set 1 _).set 2 _).set 3 _).set 4 _
    have g0 := RR.cell 0
    have g1 := RR.cell 1
    have g2 := RR.cell 2
    have g3 := RR.cell 3
    have g4 := RR.cell 4
    simp only [List.getElem?_toArray, List.getElem?_cons_zero, List.getElem?_cons_succ] at g0 g1 g2 g3 g4
    refine bodyPost_ret (v := .tuple #[.agg #[.int .i64 0, .string ⟨#[]⟩, .int .u64 0, .bool false, .string ⟨#[]⟩], .bool false]) ?_ rfl ⟨by rw [HF.out]; rfl, (((((hbw2.setCell (by show w.heap.size ≤ w.heap.size + 1; omega) _).setCell (by show w.heap.size ≤ w.heap.size + 1; omega) _).setCell (by show w.heap.size ≤ w.heap.size + 1; omega) _).setCell (by show w.heap.size ≤ w.heap.size + 1; omega) _).setCell (by show w.heap.size ≤ w.heap.size + 1; omega) _)⟩
    generalize (((((w2.setCell ⟨w.heap.size + 1, 0, none⟩ (.int .i64 0)).setCell ⟨w.heap.size + 1, 1, none⟩ (.string ⟨#[]⟩)).setCell ⟨w.heap.size + 1, 2, none⟩ (.int .u64 0)).setCell ⟨w.heap.size + 1, 3, none⟩ (.bool false)).setCell ⟨w.heap.size + 1, 4, none⟩ (.string ⟨#[]⟩)) = Z2 at g0 g1 g2 g3 g4 ⊢
    simp [results, Tryz.results7, go_sem, g0, g1, g2, g3, g4]
  · rw [hi]
    have hkL : k < L := by have := HL.out; omega
    obtain ⟨g, off, rfl, hgl, p0, p1, p2, p3, p4⟩ := HR2.out k r hx
    have HF := Lib.hid hf
    clear hi hf HI hx hk
    go_wp2_with fail
    have RR : Blk (((((w2.setCell ⟨w.heap.size + 1, 0, none⟩ (.int .i64 r.t)).setCell ⟨w.heap.size + 1, 1, none⟩ (.string r.x)).setCell ⟨w.heap.size + 1, 2, none⟩ (.int .u64 (r.q : Int))).setCell ⟨w.heap.size + 1, 3, none⟩ (.bool r.g)).setCell ⟨w.heap.size + 1, 4, none⟩ (.string r.s)) (w.heap.size + 1) #[.int .i64 r.t, .string r.x, .int .u64 (r.q : Int), .bool r.g, .string r.s] 27 := ((((r2.set 0 _).set 1 _).set 2 _).set 3 _).set 4 _
    have g0 := RR.cell 0
    have g1 := RR.cell 1
    have g2 := RR.cell 2
    have g3 := RR.cell 3
    have g4 := RR.cell 4
    simp only [List.getElem?_toArray, List.getElem?_cons_zero, List.getElem?_cons_succ] at g0 g1 g2 g3 g4
    refine bodyPost_ret (v := .tuple #[.agg #[.int .i64 r.t, .string r.x, .int .u64 (r.q : Int), .bool r.g, .string r.s], .bool true]) ?_ rfl ⟨by rw [HF.out]; rfl, (((((hbw2.setCell (by show w.heap.size ≤ w.heap.size + 1; omega) _).setCell (by show w.heap.size ≤ w.heap.size + 1; omega) _).setCell (by show w.heap.size ≤ w.heap.size + 1; omega) _).setCell (by show w.heap.size ≤ w.heap.size + 1; omega) _).setCell (by show w.heap.size ≤ w.heap.size + 1; omega) _)⟩
    generalize (((((w2.setCell ⟨w.heap.size + 1, 0, none⟩ (.int .i64 r.t)).setCell ⟨w.heap.size + 1, 1, none⟩ (.string r.x)).setCell ⟨w.heap.size + 1, 2, none⟩ (.int .u64 (r.q : Int))).setCell ⟨w.heap.size + 1, 3, none⟩ (.bool r.g)).setCell ⟨w.heap.size + 1, 4, none⟩ (.string r.s)) = Z2 at g0 g1 g2 g3 g4 ⊢
    simp [results, Tryz.results7, go_sem, g0, g1, g2, g3, g4]
end Go.Proofs.YtjolgalfjahceaaGreatDoor
