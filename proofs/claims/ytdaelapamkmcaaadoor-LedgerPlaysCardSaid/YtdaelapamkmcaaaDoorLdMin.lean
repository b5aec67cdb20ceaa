/- ledger: slices.MinFunc: the oldest mark. -/
import Derived.Test.YtdaelapamkmcaaaDoorLdEq
namespace Go.Proofs.YtdaelapamkmcaaaDoor
open Go.RowKit

theorem minM_one {ms : List Mk} {m : Mk} (h : ms[0]? = some m) : minM (ms.take 1) = m := by
  cases ms with
  | nil => simp at h
  | cons a r => simp at h; subst h; rfl
theorem minM_next {ms : List Mk} {k : Nat} {m : Mk} (h : ms[k]? = some m) (hk : 1 ≤ k) : minM (ms.take (k + 1)) = minStep (minM (ms.take k)) m := by
  have e : ms.take (k + 1) = ms.take k ++ [m] := by rw [List.take_add_one, h]; rfl
  rw [e]
  cases ms with
  | nil => simp at h
  | cons a r =>
    obtain ⟨k', rfl⟩ : ∃ k', k = k' + 1 := ⟨k - 1, by omega⟩
    rw [List.take_succ_cons, List.cons_append]
    show (r.take k' ++ [m]).foldl minStep a = minStep ((r.take k').foldl minStep a) m
    rw [List.foldl_append]; rfl
abbrev mkArr (m : Mk) : Array Value := #[.int .i64 m.t, .string m.x, .int .u64 (m.q : Int), .int .i64 m.s, .string m.d]
structure MnS (R M : Nat) (g o : Nat) (m y : Mk) (w0 w' : World) : Prop where
  r : Blk w' R #[.int .i64 0, .string ⟨#[]⟩, .int .u64 0, .int .i64 0, .string ⟨#[]⟩] 49
  m : Blk w' M (mkArr m) 49
  y : MkAt w' g o y
  b : Below w0.heap.size w0 w'
theorem MnS.next {R M g o : Nat} {m y : Mk} {w0 w w' : World} (h : MnS R M g o m y w0 w) (hb : Below w.heap.size w w') : MnS R M g o m y w0 w' :=
  ⟨h.r.later hb, h.m.later hb, h.y.later hb, h.b.trans (hb.mono h.b.size)⟩
def MnT (R M g o : Nat) (m y : Mk) (w0 w' : World) : Prop :=
  w'.cell? ⟨g, o, none⟩ = some (.int .i64 y.t) ∧ w'.cell? ⟨g, o + 1, none⟩ = some (.string y.x) ∧ w'.cell? ⟨g, o + 2, none⟩ = some (.int .u64 (y.q : Int)) ∧ w'.cell? ⟨g, o + 3, none⟩ = some (.int .i64 y.s) ∧ w'.cell? ⟨g, o + 4, none⟩ = some (.string y.d) ∧
  w'.cell? ⟨M, 0, none⟩ = some (.int .i64 m.t) ∧ w'.cell? ⟨M, 1, none⟩ = some (.string m.x) ∧ w'.cell? ⟨M, 2, none⟩ = some (.int .u64 (m.q : Int)) ∧ w'.cell? ⟨M, 3, none⟩ = some (.int .i64 m.s) ∧ w'.cell? ⟨M, 4, none⟩ = some (.string m.d) ∧ MnS R M g o m y w0 w'
theorem MnS.all {R M g o : Nat} {m y : Mk} {w0 w : World} (h : MnS R M g o m y w0 w) : MnT R M g o m y w0 w :=
  ⟨h.y.2.1, h.y.2.2.1, h.y.2.2.2.1, h.y.2.2.2.2.1, h.y.2.2.2.2.2, h.m.cell 0, h.m.cell 1, h.m.cell 2, h.m.cell 3, h.m.cell 4, h⟩
theorem MnT.s {R M g o : Nat} {m y : Mk} {w0 w : World} (h : MnT R M g o m y w0 w) : MnS R M g o m y w0 w := h.2.2.2.2.2.2.2.2.2.2
theorem MnT.next {R M g o : Nat} {m y : Mk} {w0 w w' : World} (h : MnT R M g o m y w0 w) (hb : Below w.heap.size w w') : MnT R M g o m y w0 w' := (h.s.next hb).all
set_option maxRecDepth 100000 in
set_option maxHeartbeats 4000000 in
theorem minFunc_any (a : Option Addr) (c : Nat) (ms : List Mk) (w : World) (hr : MksAt w a ms) (hn : ms.length ≤ 1025) (h1 : 1 ≤ ms.length) :
    Calls Tryd.prog 49 #[.slice a ms.length c, .func (.func 50) #[] #[]] w fun e w' => e = .returned (minM ms).v ∧ Below w.heap.size w w' := by
  obtain ⟨L, hL⟩ : ∃ L, ms.length = L := ⟨_, rfl⟩
  rw [hL] at hn h1 ⊢
  obtain ⟨m0, hm0⟩ : ∃ m0, ms[0]? = some m0 := ⟨_, List.getElem?_eq_getElem (by omega)⟩
  have HMIN1 := Lib.hid (minM_one hm0)
  have hmin : minM ms = minM (ms.take L) := by rw [List.take_of_length_le (by omega)]
  rw [hmin]
  have HL := Lib.hid hL
  have HR := Lib.hid hr
  obtain ⟨g0, off0, rfl, hg0, e0, e1, e2, e3, e4⟩ := hr 0 m0 hm0
  rw [show off0 + 0 * 5 = off0 by omega] at e0 e1 e2 e3 e4
  obtain ⟨u0, y0, r0, s0, d0⟩ := m0
  simp only at e0 e1 e2 e3 e4
  obtain ⟨w1, hw1⟩ : ∃ w1, w.alloc (.cells #[.int .i64 0, .string ⟨#[]⟩, .int .u64 0, .int .i64 0, .string ⟨#[]⟩] 49) = w1 := ⟨_, rfl⟩
  have hb1 : Below w.heap.size w w1 := by rw [← hw1]; exact (Below.refl _ _).alloc (Nat.le_refl _) _
  have q1 : Blk w1 w.heap.size #[.int .i64 0, .string ⟨#[]⟩, .int .u64 0, .int .i64 0, .string ⟨#[]⟩] 49 := by rw [← hw1]; exact Blk.new _ _ _
  obtain ⟨w2, hw2⟩ : ∃ w2, w1.alloc (.cells (mkArr ⟨u0, y0, r0, s0, d0⟩) 49) = w2 := ⟨_, rfl⟩
  have hb2 : Below w1.heap.size w1 w2 := by rw [← hw2]; exact (Below.refl _ _).alloc (Nat.le_refl _) _
  have q2 : Blk w2 w1.heap.size (mkArr ⟨u0, y0, r0, s0, d0⟩) 49 := by rw [← hw2]; exact Blk.new _ _ _
  have f0 : w1.cell? ⟨g0, off0, none⟩ = some (.int .i64 u0) := (hb1.cell (p := ⟨g0, _, none⟩) hg0).trans e0
  have f1 : w1.cell? ⟨g0, off0 + 1, none⟩ = some (.string y0) := (hb1.cell (p := ⟨g0, _, none⟩) hg0).trans e1
  have f2 : w1.cell? ⟨g0, off0 + 2, none⟩ = some (.int .u64 (r0 : Int)) := (hb1.cell (p := ⟨g0, _, none⟩) hg0).trans e2
  have f3 : w1.cell? ⟨g0, off0 + 3, none⟩ = some (.int .i64 s0) := (hb1.cell (p := ⟨g0, _, none⟩) hg0).trans e3
  have f4 : w1.cell? ⟨g0, off0 + 4, none⟩ = some (.string d0) := (hb1.cell (p := ⟨g0, _, none⟩) hg0).trans e4
  have hlt1 : (0 : Int) < (L : Int) := by omega
  have hlt2 : ¬ (L : Int) < 1 := by omega
  have HST := Lib.hid (And.intro (q1.later hb2) (And.intro q2 (And.intro (hb1.trans (hb2.mono hb1.size)) (show w.heap.size < w1.heap.size from q1.lt))))
  have HW1 := Lib.hid hw1
  have HW2 := Lib.hid hw2
  clear hr hL hm0 hb1 q1 hb2 q2 e0 e1 e2 e3 e4 hw1 hw2 hmin
  go_enter Tryd.func49, Tryd.ntmps49
  go_wp2_with (first | rw [HW1.out] | rw [HW2.out])
  obtain ⟨M, hM⟩ : ∃ M, w1.heap.size = M := ⟨_, rfl⟩
  have HST' := HST.out
  rw [hM] at HST' ⊢
  have HST2 := Lib.hid HST'
  clear HST HST' HW1 HW2 hM f0 f1 f2 f3 f4
  go_loopw [6] (fun vi wr => ∃ k : Nat, 1 ≤ k ∧ k ≤ L ∧ vi = .int .i64 (k : Int) ∧ Blk wr w.heap.size #[.int .i64 0, .string ⟨#[]⟩, .int .u64 0, .int .i64 0, .string ⟨#[]⟩] 49 ∧ Blk wr M (mkArr (minM (ms.take k))) 49 ∧ Below w.heap.size w wr) (fun vi _ => L - (intOf vi).toNat)
  case atStart => exact ⟨1, Nat.le_refl _, h1, rfl, HST2.out.1, by rw [HMIN1.out]; exact HST2.out.2.1, HST2.out.2.2.1⟩
  case round =>
    obtain ⟨k, hk1, hk, rfl, hR, hM, hb⟩ := hrel
    by_cases hlt : k < L
    · have b1 : (k : Int) < (L : Int) := by omega
      have b0 : (0 : Int) ≤ (k : Int) := by omega
      obtain ⟨m, hx⟩ : ∃ m, ms[k]? = some m := ⟨_, List.getElem?_eq_getElem (by have := HL.out; omega)⟩
      have hnx := minM_next hx hk1
      generalize minM (ms.take k) = o at hM hnx
      obtain ⟨g, off, ha, hgl, p0, p1, p2, p3, p4⟩ := (HR.out.below hb) k m hx
      cases ha
      have hS : MnS w.heap.size M g0 (off0 + k * 5) o m w wr := ⟨hR, hM, ⟨hgl, p0, p1, p2, p3, p4⟩, hb⟩
      have hT : MnT w.heap.size M g0 (off0 + k * 5) o m w wr.drew := (hS.next (Below.refl _ _).drew).all
      have HNX := Lib.hid hnx
      have hMR : w.heap.size < M := HST2.out.2.2.2
      have HMR := Lib.hid hMR
      clear hx hnx p0 p1 p2 p3 p4 hgl hR hM hb hS hMR
      obtain ⟨u, y, r, s, d⟩ := m
      obtain ⟨u2, y2, r2, s2, d2⟩ := o
      go_wp2_with fail
      go_region_held3 (fun w' => w'.cell? ⟨g0, off0 + k * 5, none⟩ = some (.int .i64 u) ∧ w'.cell? ⟨g0, off0 + k * 5 + 1, none⟩ = some (.string y) ∧ w'.cell? ⟨g0, off0 + k * 5 + 2, none⟩ = some (.int .u64 (r : Int)) ∧ w'.cell? ⟨g0, off0 + k * 5 + 3, none⟩ = some (.int .i64 s) ∧ w'.cell? ⟨g0, off0 + k * 5 + 4, none⟩ = some (.string d) ∧
        w'.cell? ⟨M, 0, none⟩ = some (.int .i64 u2) ∧ w'.cell? ⟨M, 1, none⟩ = some (.string y2) ∧ w'.cell? ⟨M, 2, none⟩ = some (.int .u64 (r2 : Int)) ∧ w'.cell? ⟨M, 3, none⟩ = some (.int .i64 s2) ∧ w'.cell? ⟨M, 4, none⟩ = some (.string d2) ∧ MnS w.heap.size M g0 (off0 + k * 5) ⟨u2, y2, r2, s2, d2⟩ ⟨u, y, r, s, d⟩ w w') (first | exact hT | exact MnT.next (m := ⟨u2, y2, r2, s2, d2⟩) (y := ⟨u, y, r, s, d⟩) (by assumption) (by assumption) | go_keep) ((go_at_call 50; refine (older_any ⟨u, y, r, s, d⟩ ⟨u2, y2, r2, s2, d2⟩ _).mono ?_; rintro e wC ⟨rfl, hbC⟩))
      rename_i hH
      have q : MnS w.heap.size M g0 (off0 + k * 5) ⟨u2, y2, r2, s2, d2⟩ ⟨u, y, r, s, d⟩ w wC := hH.2.2.2.2.2.2.2.2.2.2
      clear hH hT hbC
      have p0 : wC.cell? ⟨g0, off0 + k * 5, none⟩ = some (.int .i64 u) := q.y.2.1
      have p1 : wC.cell? ⟨g0, off0 + k * 5 + 1, none⟩ = some (.string y) := q.y.2.2.1
      have p2 : wC.cell? ⟨g0, off0 + k * 5 + 2, none⟩ = some (.int .u64 (r : Int)) := q.y.2.2.2.1
      have p3 : wC.cell? ⟨g0, off0 + k * 5 + 3, none⟩ = some (.int .i64 s) := q.y.2.2.2.2.1
      have p4 : wC.cell? ⟨g0, off0 + k * 5 + 4, none⟩ = some (.string d) := q.y.2.2.2.2.2
      have z0 : wC.cell? ⟨M, 0, none⟩ = some (.int .i64 u2) := q.m.cell 0
      have z1 : wC.cell? ⟨M, 1, none⟩ = some (.string y2) := q.m.cell 1
      have z2 : wC.cell? ⟨M, 2, none⟩ = some (.int .u64 (r2 : Int)) := q.m.cell 2
      have z3 : wC.cell? ⟨M, 3, none⟩ = some (.int .i64 s2) := q.m.cell 3
      have z4 : wC.cell? ⟨M, 4, none⟩ = some (.string d2) := q.m.cell 4
      have f0 := q.m.frozen 0
      have f1 := q.m.frozen 1
      have f2 := q.m.frozen 2
      have f3 := q.m.frozen 3
      have f4 := q.m.frozen 4
      have HQ := Lib.hid q
      clear q
      by_cases hc : (r : Int) < (r2 : Int)
      · have hc1 : cmpI (r : Int) (r2 : Int) < 0 := (cmpI_le _ _).2 hc
        have hc2 : minStep ⟨u2, y2, r2, s2, d2⟩ ⟨u, y, r, s, d⟩ = ⟨u, y, r, s, d⟩ := if_pos (by show r < r2; omega)
        have HC2 := Lib.hid hc2
        clear hc hc2
        go_wp2_with fail
        have q := HQ.out
        have hMR0 := HMR.out
        have hMR : w.heap.size ≤ M := Nat.le_of_lt hMR0
        have hq6 := ((((q.m.set 0 (.int .i64 u)).set 1 (.string y)).set 2 (.int .u64 (r : Int))).set 3 (.int .i64 s)).set 4 (.string d)
        have hne : some w.heap.size ≠ some M := fun e => by have := Option.some.inj e; omega
        have hb4 := ((((q.b.setCell (p := ⟨M, 0, none⟩) hMR (.int .i64 u)).setCell (p := ⟨M, 1, none⟩) hMR (.string y)).setCell (p := ⟨M, 2, none⟩) hMR (.int .u64 (r : Int))).setCell (p := ⟨M, 3, none⟩) hMR (.int .i64 s)).setCell (p := ⟨M, 4, none⟩) hMR (.string d)
        have hR6 := ((((q.r.kept (grown_set _ M 0 (.int .i64 u)) hne).kept (grown_set _ M 1 (.string y)) hne).kept (grown_set _ M 2 (.int .u64 (r : Int))) hne).kept (grown_set _ M 3 (.int .i64 s)) hne).kept (grown_set _ M 4 (.string d)) hne
        have HF := Lib.hid (And.intro hR6 (And.intro (show Blk _ M (mkArr ⟨u, y, r, s, d⟩) 49 from hq6) hb4))
        clear q hMR hMR0 hq6 hne hb4 hR6
        go_roundw
        case rel => exact ⟨k + 1, by omega, by omega, by go_num, HF.out.1, by rw [HNX.out, HC2.out]; exact HF.out.2.1, HF.out.2.2⟩
        case measure => simp [intOf]; omega
      · have hc1 : ¬ cmpI (r : Int) (r2 : Int) < 0 := fun h => hc ((cmpI_le _ _).1 h)
        have hc2 : minStep ⟨u2, y2, r2, s2, d2⟩ ⟨u, y, r, s, d⟩ = ⟨u2, y2, r2, s2, d2⟩ := if_neg (by show ¬ r < r2; omega)
        have HC2 := Lib.hid hc2
        clear hc hc2
        go_wp2_with fail
        go_roundw
        case rel => exact ⟨k + 1, by omega, by omega, by go_num, HQ.out.r, by rw [HNX.out, HC2.out]; exact HQ.out.m, HQ.out.b⟩
        case measure => simp [intOf]; omega
    · obtain rfl : k = L := by omega
      obtain ⟨o, ho⟩ : ∃ o, minM (ms.take k) = o := ⟨_, rfl⟩
      rw [ho] at hM
      have HO := Lib.hid ho
      clear ho
      have z0 : wr.cell? ⟨M, 0, none⟩ = some (.int .i64 o.t) := hM.cell 0
      have z1 : wr.cell? ⟨M, 1, none⟩ = some (.string o.x) := hM.cell 1
      have z2 : wr.cell? ⟨M, 2, none⟩ = some (.int .u64 (o.q : Int)) := hM.cell 2
      have z3 : wr.cell? ⟨M, 3, none⟩ = some (.int .i64 o.s) := hM.cell 3
      have z4 : wr.cell? ⟨M, 4, none⟩ = some (.string o.d) := hM.cell 4
      have d0 : wr.cell? ⟨w.heap.size, 0, none⟩ = some (.int .i64 0) := hR.cell 0
      have d1 : wr.cell? ⟨w.heap.size, 1, none⟩ = some (.string ⟨#[]⟩) := hR.cell 1
      have d2 : wr.cell? ⟨w.heap.size, 2, none⟩ = some (.int .u64 0) := hR.cell 2
      have d3 : wr.cell? ⟨w.heap.size, 3, none⟩ = some (.int .i64 0) := hR.cell 3
      have d4 : wr.cell? ⟨w.heap.size, 4, none⟩ = some (.string ⟨#[]⟩) := hR.cell 4
      have f0 := hR.frozen 0
      have f1 := hR.frozen 1
      have f2 := hR.frozen 2
      have f3 := hR.frozen 3
      have f4 := hR.frozen 4
      go_wp2_with fail
      have q6 := ((((hR.set 0 (.int .i64 o.t)).set 1 (.string o.x)).set 2 (.int .u64 (o.q : Int))).set 3 (.int .i64 o.s)).set 4 (.string o.d)
      have x0 := q6.cell 0
      have x1 := q6.cell 1
      have x2 := q6.cell 2
      have x3 := q6.cell 3
      have x4 := q6.cell 4
      simp only [List.setIfInBounds_toArray, List.set_cons_zero, List.set_cons_succ, List.getElem?_toArray, List.getElem?_cons_zero, List.getElem?_cons_succ] at x0 x1 x2 x3 x4
      have hb4 := ((((hb.setCell (p := ⟨w.heap.size, 0, none⟩) (Nat.le_refl _) (.int .i64 o.t)).setCell (p := ⟨w.heap.size, 1, none⟩) (Nat.le_refl _) (.string o.x)).setCell (p := ⟨w.heap.size, 2, none⟩) (Nat.le_refl _) (.int .u64 (o.q : Int))).setCell (p := ⟨w.heap.size, 3, none⟩) (Nat.le_refl _) (.int .i64 o.s)).setCell (p := ⟨w.heap.size, 4, none⟩) (Nat.le_refl _) (.string o.d)
      exact bodyPost_ret (v := o.v) (by simp [results, Tryd.results49, go_sem, x0, x1, x2, x3, x4]) rfl ⟨by rw [HO.out], hb4⟩
end Go.Proofs.YtdaelapamkmcaaaDoor
