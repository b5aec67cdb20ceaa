/- LinkFull: the walk. -/
import Derived.Test.YtkfbhiggnnjoiaaDoorLkMake
namespace Go.Proofs.YtkfbhiggnnjoiaaDoor
open Go.RowKit Go.Lib

def lkF (u d : List UInt8) : Lk := ⟨⟨u, []⟩, ⟨d, []⟩, 1, 0⟩
theorem inj_fit {u : List UInt8} {N : Nat} {s : ByteArray} (hu : u.length = N) (h : N + s.size ≤ 262144) : injL (lkF u []) 0 s.data.toList = (0, lkF (u ++ s.data.toList) []) := by
  subst hu
  unfold injL
  rw [if_neg (by show ¬ 262144 < u.length + s.size; omega)]; rfl
theorem inj_big {u : List UInt8} {N : Nat} {s : ByteArray} (hu : u.length = N) (h : 262144 < N + s.size) : injL (lkF u []) 0 s.data.toList = (4, lkF u []) := by
  subst hu
  unfold injL
  rw [if_pos (by show 262144 < u.length + s.size; omega)]
theorem send_x {u : List UInt8} {s : ByteArray} (h1 : 1 ≤ s.size) (h2 : s.size ≤ 1000) : sendL (lkF u []) 1 s.data.toList = (0, lkF u (packL s.data.toList)) := by
  unfold sendL injL
  have hp := packL_len s.data.toList
  have hs : s.data.toList.length = s.size := rfl
  rw [if_pos ⟨by omega, by omega⟩, if_neg (by show ¬ 262144 < 0 + (packL s.data.toList).length; omega)]; rfl
def Fl (b : Addr) (base l j : Nat) (w0 wr : World) : Prop := ∃ u : List UInt8, u.length = 60000 * j ∧ LkIs b base l (lkF u []) wr ∧ Kept base w0 wr

set_option maxRecDepth 100000 in
set_option maxHeartbeats 1000000 in
theorem full_walk (n m : Nat) (b : Addr) (w : World) (hg : Gs b w) (hge : Ge w) (hn : n < 65536) (hm : m < 65536) :
    Calls Tryd.prog 7 #[.int .u16 (n : Int), .int .u16 (m : Int)] w fun e w' => e = .returned (.bool true) ∧ Below w.heap.size w w' := by
  obtain ⟨q, hq⟩ : ∃ q, m % 1000 = q := ⟨_, rfl⟩
  have hq1 : q ≤ 999 := by omega
  have hqi : (m : Int) % 1000 = (q : Int) := by omega
  obtain ⟨ds, Y, hYs, hmd, hcd⟩ := zeros_text 60000 (by omega)
  obtain ⟨zs, Z, hZs, hmn, hcn⟩ := zeros_text n (by omega)
  obtain ⟨xs, X, hXs, hmq, hcq⟩ := zeros_text q (by omega)
  have hmd : ∀ W : World, (Instr.makeSlice 39 (.int .i64 60000) (.int .i64 60000)).run Tryd.prog W = .ok (.slice (some ⟨W.heap.size, 0, none⟩) 60000 60000) (W.alloc (.cells ds 5)) := hmd
  have HZ := Lib.hid (And.intro hYs (And.intro trivial (And.intro hZs hXs))); clear hYs hZs hXs hq
  have HM := Lib.hid (And.intro hmn (And.intro hcn (And.intro hmq (And.intro hcq hqi)))); clear hmn hcn hmq hcq hqi
  have HD := Lib.hid (And.intro hmd hcd); clear hmd hcd
  have HG := Lib.hid (And.intro hg hge); clear hg hge
  go_enter Tryd.func7, Tryd.ntmps7
  go_wp2_with fail
  refine (examples_any b w HG.out.1 HG.out.2).mono ?_
  rintro e w1 ⟨rfl, hb1⟩
  have HB1 := Lib.hid hb1; clear hb1
  go_wp2_with fail
  refine (newLink_any b w.heap.size w1 HB1.out.size (HG.out.1.below HB1.out) (HG.out.2.below HB1.out) HG.out.2.2 HG.out.1.2).mono ?_
  rintro e w2 ⟨rfl, hl2, hk2⟩
  have HQ := Lib.hid (show Fl b w.heap.size w1.heap.size 0 w1 w2 from ⟨[], rfl, hl2, hk2⟩); clear hl2 hk2
  go_wp2_with fail
  go_loopw [7] (fun i wr => ∃ j : Nat, j ≤ 4 ∧ i = .int .i64 (j : Int) ∧ Fl b w.heap.size w1.heap.size j w1 wr) (fun i _ => 10 - (intOf i).toNat)
  case atStart => exact ⟨0, by omega, rfl, HQ.out⟩
  case round =>
  obtain ⟨j, hj4, rfl, u, hu4, hl4, hk4⟩ := hrel
  have HK4 := Lib.hid hk4; clear hk4
  by_cases hlt : j < 4
  · have hlt' : (j : Int) < 4 := by omega
    have hfit := inj_fit (s := Y) hu4 (by have := HZ.out.1; omega)
    have hu5 : (u ++ Y.data.toList).length = 60000 * (j + 1) := by rw [List.length_append, hu4]; have := HZ.out.1; show 60000 * j + Y.size = _; omega
    have HU := Lib.hid (And.intro hfit hu5); clear hfit hu5 hu4
    have hmd := HD.out.1
    have hcd := HD.out.2
    go_wp2_with fail
    clear hmd hcd
    have hs5 := hl4.below ((Below.refl wr.heap.size wr).alloc (Nat.le_refl _) (.cells ds 5))
    refine (inject_to hs5 0 (by omega) Y HU.out.1).mono ?_
    rintro e w5 ⟨rfl, hl5, hk5⟩
    have hf5 : Fl b w.heap.size w1.heap.size (j + 1) w1 w5 := ⟨_, HU.out.2, hl5, HK4.out.trans ((Kept.of ((Below.refl wr.heap.size wr).alloc (Nat.le_refl _) (.cells ds 5))).trans hk5)⟩
    clear hs5 hl5 hk5 hl4
    have HF := Lib.hid hf5; clear hf5
    go_wp2
    go_roundw
    case rel => exact ⟨j + 1, by omega, by go_num, HF.out⟩
    case measure => simp [intOf]; omega
  have hj : j = 4 := by omega
  have hu4 : u.length = 240000 := by omega
  have hlt' : ¬ (j : Int) < 4 := by omega
  have hmn := HM.out.1
  have hcn := HM.out.2.1
  have hmq := HM.out.2.2.1
  have hcq := HM.out.2.2.2.1
  have hqi := HM.out.2.2.2.2
  have hb4 : Below wr.heap.size wr (wr.alloc (.cells zs 5)) := (Below.refl wr.heap.size wr).alloc (Nat.le_refl _) _
  have hl4 := hl4.below hb4
  have HK4 := Lib.hid (HK4.out.trans (Kept.of (B := w.heap.size) hb4))
  clear hb4 hj
  have HU4 := Lib.hid hu4
  by_cases hbig : 22144 < n
  · have hbig' : (22144 : Int) < (n : Int) := by omega
    go_wp2_with fail
    refine (inject_to hl4 0 (by omega) Z (inj_big hu4 (by have := HZ.out.2.2.1; omega))).mono ?_
    rintro e w5 ⟨rfl, hl5, hk5⟩
    have HK5 := Lib.hid (HK4.out.trans hk5); clear hk5
    have hx9 : X.size ≤ 1000 := by have := HZ.out.2.2.2; omega
    go_wp2_with fail
    clear hx9
    have hs6 := hl5.below ((Below.refl w5.heap.size w5).alloc (Nat.le_refl _) (.cells xs 5))
    have hx : (⟨#[120]⟩ ++ X : ByteArray).size = 1 + q := by rw [ByteArray.size_append, HZ.out.2.2.2]; rfl
    obtain ⟨XX, hXX⟩ : ∃ XX : ByteArray, ⟨#[120]⟩ ++ X = XX := ⟨_, rfl⟩
    rw [hXX] at hx ⊢
    have HX := Lib.hid (And.intro hx hXX); clear hx hXX
    clear hmn hcn hmq hcq
    refine (send_to hs6 1 (by omega) XX (by have := HX.out.1; unfold maxLen; omega) (send_x (by have := HX.out.1; omega) (by have := HX.out.1; show XX.size ≤ 1000; omega))).mono ?_
    rintro e w7 ⟨rfl, hl7, hk7⟩
    have HK7 := Lib.hid (HK5.out.trans ((Kept.of ((Below.refl w5.heap.size w5).alloc (Nat.le_refl _) (.cells xs 5))).trans hk7)); clear hk7 hs6
    go_wp2_with fail
    refine (waiting_is (N := 240000 + 0) hl7 0 (by omega) hu4).mono ?_
    rintro e w8 ⟨rfl, hl8, hk8⟩
    go_wp2_with fail
    refine (space_is (z := 22144 - 0) hl8 0 (by omega) (by show 262144 - ((u.length : Nat) : Int) = _; omega)).mono ?_
    rintro e w9 ⟨rfl, hl9, hk9⟩
    go_wp2_with fail
    refine (waiting_is (N := 5 + q) hl9 1 (by omega) (by show (packL XX.data.toList).length = _; rw [packL_len]; have := HX.out.1; show 4 + XX.size = _; omega)).mono ?_
    rintro e w10 ⟨rfl, hl10, hk10⟩
    go_wp2
    go_ret
    exact ⟨rfl, HB1.out.trans ((HK7.out.trans (hk8.trans (hk9.trans hk10))).below HB1.out.size)⟩
  · have hbig' : ¬ (22144 : Int) < (n : Int) := by omega
    go_wp2_with fail
    refine (inject_to hl4 0 (by omega) Z (inj_fit hu4 (by have := HZ.out.2.2.1; omega))).mono ?_
    rintro e w5 ⟨rfl, hl5, hk5⟩
    have HK5 := Lib.hid (HK4.out.trans hk5); clear hk5
    have hx9 : X.size ≤ 1000 := by have := HZ.out.2.2.2; omega
    go_wp2_with fail
    clear hx9
    have hs6 := hl5.below ((Below.refl w5.heap.size w5).alloc (Nat.le_refl _) (.cells xs 5))
    have hx : (⟨#[120]⟩ ++ X : ByteArray).size = 1 + q := by rw [ByteArray.size_append, HZ.out.2.2.2]; rfl
    obtain ⟨XX, hXX⟩ : ∃ XX : ByteArray, ⟨#[120]⟩ ++ X = XX := ⟨_, rfl⟩
    rw [hXX] at hx ⊢
    have HX := Lib.hid (And.intro hx hXX); clear hx hXX
    clear hmn hcn hmq hcq
    refine (send_to hs6 1 (by omega) XX (by have := HX.out.1; unfold maxLen; omega) (send_x (by have := HX.out.1; omega) (by have := HX.out.1; show XX.size ≤ 1000; omega))).mono ?_
    rintro e w7 ⟨rfl, hl7, hk7⟩
    have HK7 := Lib.hid (HK5.out.trans ((Kept.of ((Below.refl w5.heap.size w5).alloc (Nat.le_refl _) (.cells xs 5))).trans hk7)); clear hk7 hs6
    go_wp2_with fail
    refine (waiting_is (N := 240000 + n) hl7 0 (by omega) (by show (u ++ Z.data.toList).length = _; rw [List.length_append, hu4]; have := HZ.out.2.2.1; show 240000 + Z.size = _; omega)).mono ?_
    rintro e w8 ⟨rfl, hl8, hk8⟩
    go_wp2_with fail
    refine (space_is (z := 22144 - (n : Int)) hl8 0 (by omega) (by show 262144 - (((u ++ Z.data.toList).length : Nat) : Int) = _; rw [List.length_append, hu4]; have := HZ.out.2.2.1; show 262144 - ((240000 + Z.size : Nat) : Int) = _; omega)).mono ?_
    rintro e w9 ⟨rfl, hl9, hk9⟩
    go_wp2_with fail
    refine (waiting_is (N := 5 + q) hl9 1 (by omega) (by show (packL XX.data.toList).length = _; rw [packL_len]; have := HX.out.1; show 4 + XX.size = _; omega)).mono ?_
    rintro e w10 ⟨rfl, hl10, hk10⟩
    go_wp2
    go_ret
    exact ⟨rfl, HB1.out.trans ((HK7.out.trans (hk8.trans (hk9.trans hk10))).below HB1.out.size)⟩
end Go.Proofs.YtkfbhiggnnjoiaaDoor
