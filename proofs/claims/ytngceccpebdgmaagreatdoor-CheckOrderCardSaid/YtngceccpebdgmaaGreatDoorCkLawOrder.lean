/- CheckOrder: the walk. -/
import Derived.Test.YtngceccpebdgmaaGreatDoorCkEx
namespace Go.Proofs.YtngceccpebdgmaaGreatDoor.ckOrder
open Go.RowKit

/-- Three keys in three boxes. -/
structure Three (W : World) (g : Nat) (t u v : Int) (x y z : ByteArray) : Prop where
  a0 : W.cell? ⟨g, 0, none⟩ = some (.int .i64 t)
  a1 : W.cell? ⟨g, 1, none⟩ = some (.string x)
  b0 : W.cell? ⟨g + 1, 0, none⟩ = some (.int .i64 u)
  b1 : W.cell? ⟨g + 1, 1, none⟩ = some (.string y)
  c0 : W.cell? ⟨g + 1 + 1, 0, none⟩ = some (.int .i64 v)
  c1 : W.cell? ⟨g + 1 + 1, 1, none⟩ = some (.string z)
  lt : g + 1 + 1 < W.heap.size
theorem Three.below {W W' : World} {g : Nat} {t u v : Int} {x y z : ByteArray} (h : Three W g t u v x y z) (hb : Below W.heap.size W W') : Three W' g t u v x y z := by
  have l := h.lt
  exact ⟨(hb.cell (p := ⟨g, 0, none⟩) (show g < _ by omega)).trans h.a0, (hb.cell (p := ⟨g, 1, none⟩) (show g < _ by omega)).trans h.a1, (hb.cell (p := ⟨g + 1, 0, none⟩) (show g + 1 < _ by omega)).trans h.b0, (hb.cell (p := ⟨g + 1, 1, none⟩) (show g + 1 < _ by omega)).trans h.b1,
    (hb.cell (p := ⟨g + 1 + 1, 0, none⟩) l).trans h.c0, (hb.cell (p := ⟨g + 1 + 1, 1, none⟩) l).trans h.c1, Nat.lt_of_lt_of_le l hb.size⟩
theorem three_new (w : World) (t u v : Int) (x y z : ByteArray) :
    Three (((w.alloc (.cells #[.int .i64 t, .string x] 23)).alloc (.cells #[.int .i64 u, .string y] 23)).alloc (.cells #[.int .i64 v, .string z] 23)) w.heap.size t u v x y z ∧
      Below w.heap.size w (((w.alloc (.cells #[.int .i64 t, .string x] 23)).alloc (.cells #[.int .i64 u, .string y] 23)).alloc (.cells #[.int .i64 v, .string z] 23)) := by
  refine ⟨⟨?_, ?_, ?_, ?_, ?_, ?_, ?_⟩, ((((Below.refl _ w).alloc (Nat.le_refl _) _).alloc (by simp) _).alloc (by simp; omega) _)⟩
  · rw [World.cell?_alloc_lt _ _ _ (by simp <;> omega), World.cell?_alloc_lt _ _ _ (by simp)]; simp
  · rw [World.cell?_alloc_lt _ _ _ (by simp <;> omega), World.cell?_alloc_lt _ _ _ (by simp)]; simp
  · rw [World.cell?_alloc_lt _ _ _ (by simp)]; simp
  · rw [World.cell?_alloc_lt _ _ _ (by simp)]; simp
  · rw [World.cell?_alloc_at _ _ _ _ (by simp)]; rfl
  · rw [World.cell?_alloc_at _ _ _ _ (by simp)]; rfl
  · simp

set_option maxRecDepth 100000 in
set_option maxHeartbeats 2000000 in
theorem walk (t u v : Int) (x y z : ByteArray) (b : Addr) (w : World) (hg : Gv b w) (hge : Ge w) :
    Calls Tryz.prog 7 #[kyV t x, kyV u y, kyV v z] w fun e w' => e = .returned (.bool true) ∧ Below w.heap.size w w' := by
  have HG := Lib.hid hg
  have HE := Lib.hid hge
  clear hg hge
  obtain ⟨T0, hb0⟩ := three_new w t u v x y z
  have H0 := Lib.hid T0
  have HB0 := Lib.hid hb0
  clear T0 hb0
  have key := ord_vals t u x y
  have kz := ord_eq t u x y
  have kn := ord_neg t u x y
  have kt := @ord_trans t u v x y z
  have gK := ck_guardKey
  have eK := fun W => ck_eqlKey t u x y W
  obtain ⟨E, hE⟩ : ∃ E, (t == u && x.toList == y.toList) = E := ⟨_, rfl⟩
  rw [hE] at kz
  simp only [hE] at eK
  clear hE
  obtain ⟨X, hX⟩ : ∃ X, ordK t x u y = X := ⟨_, rfl⟩
  obtain ⟨X', hX'⟩ : ∃ X', ordK u y t x = X' := ⟨_, rfl⟩
  obtain ⟨Y, hY⟩ : ∃ Y, ordK u y v z = Y := ⟨_, rfl⟩
  obtain ⟨Z, hZ⟩ : ∃ Z, ordK t x v z = Z := ⟨_, rfl⟩
  rw [hX] at key kz kn kt
  rw [hX'] at kn
  rw [hY, hZ] at kt
  have HX := Lib.hid hX
  have HX' := Lib.hid hX'
  have HY := Lib.hid hY
  have HZ := Lib.hid hZ
  clear hX hX' hY hZ
  subst kn
  rcases key with rfl | rfl | rfl
  · subst kz
    by_cases hy : 0 < Y
    · have qy : decide (0 < Y) = true := by simpa using hy
      clear kt
      go_enter Tryz.func7, Tryz.ntmps7
      go_wp2_with fail
      refine (ck_examples b _ (HG.out.below HB0.out) (HE.out.below HB0.out)).mono ?_
      rintro e w1 ⟨rfl, hb⟩
      have H1 := Lib.hid (H0.out.below hb)
      have HB1 := Lib.hid (HB0.out.trans (hb.mono HB0.out.size))
      clear hb
      obtain ⟨a0, a1, b0, b1, c0, c1, lt⟩ := H1.out
      go_wp2_with fail
      refine (order_any t u x y _).mono ?_
      rintro e w2 ⟨rfl, hb⟩
      rw [HX.out]
      have H2 := Lib.hid (H1.out.below hb)
      have HB2 := Lib.hid (HB1.out.trans (hb.mono HB1.out.size))
      clear hb a0 a1 b0 b1 c0 c1 lt
      obtain ⟨a0, a1, b0, b1, c0, c1, lt⟩ := H2.out
      go_wp2_with fail
      refine (order_any u t y x _).mono ?_
      rintro e w3 ⟨rfl, hb⟩
      rw [HX'.out]
      have H3 := Lib.hid (H2.out.below hb)
      have HB3 := Lib.hid (HB2.out.trans (hb.mono HB2.out.size))
      clear hb a0 a1 b0 b1 c0 c1 lt
      obtain ⟨a0, a1, b0, b1, c0, c1, lt⟩ := H3.out
      go_wp2_with fail
      refine (order_any u v y z _).mono ?_
      rintro e w4 ⟨rfl, hb⟩
      rw [HY.out]
      have H4 := Lib.hid (H3.out.below hb)
      have HB4 := Lib.hid (HB3.out.trans (hb.mono HB3.out.size))
      clear hb a0 a1 b0 b1 c0 c1 lt
      obtain ⟨a0, a1, b0, b1, c0, c1, lt⟩ := H4.out
      go_wp2_with fail
      go_ret
      exact ⟨rfl, HB4.out⟩
    · have hz : Z ≤ 0 := kt (by omega) (by omega)
      have qy : decide (0 < Y) = false := by simpa using hy
      have qz : decide (Z ≤ 0) = true := by simpa using hz
      clear kt
      go_enter Tryz.func7, Tryz.ntmps7
      go_wp2_with fail
      refine (ck_examples b _ (HG.out.below HB0.out) (HE.out.below HB0.out)).mono ?_
      rintro e w1 ⟨rfl, hb⟩
      have H1 := Lib.hid (H0.out.below hb)
      have HB1 := Lib.hid (HB0.out.trans (hb.mono HB0.out.size))
      clear hb
      obtain ⟨a0, a1, b0, b1, c0, c1, lt⟩ := H1.out
      go_wp2_with fail
      refine (order_any t u x y _).mono ?_
      rintro e w2 ⟨rfl, hb⟩
      rw [HX.out]
      have H2 := Lib.hid (H1.out.below hb)
      have HB2 := Lib.hid (HB1.out.trans (hb.mono HB1.out.size))
      clear hb a0 a1 b0 b1 c0 c1 lt
      obtain ⟨a0, a1, b0, b1, c0, c1, lt⟩ := H2.out
      go_wp2_with fail
      refine (order_any u t y x _).mono ?_
      rintro e w3 ⟨rfl, hb⟩
      rw [HX'.out]
      have H3 := Lib.hid (H2.out.below hb)
      have HB3 := Lib.hid (HB2.out.trans (hb.mono HB2.out.size))
      clear hb a0 a1 b0 b1 c0 c1 lt
      obtain ⟨a0, a1, b0, b1, c0, c1, lt⟩ := H3.out
      go_wp2_with fail
      refine (order_any u v y z _).mono ?_
      rintro e w4 ⟨rfl, hb⟩
      rw [HY.out]
      have H4 := Lib.hid (H3.out.below hb)
      have HB4 := Lib.hid (HB3.out.trans (hb.mono HB3.out.size))
      clear hb a0 a1 b0 b1 c0 c1 lt
      obtain ⟨a0, a1, b0, b1, c0, c1, lt⟩ := H4.out
      go_wp2_with fail
      refine (order_any t v x z _).mono ?_
      rintro e w5 ⟨rfl, hb⟩
      rw [HZ.out]
      have H5 := Lib.hid (H4.out.below hb)
      have HB5 := Lib.hid (HB4.out.trans (hb.mono HB4.out.size))
      clear hb a0 a1 b0 b1 c0 c1 lt
      obtain ⟨a0, a1, b0, b1, c0, c1, lt⟩ := H5.out
      go_wp2_with fail
      go_ret
      exact ⟨rfl, HB5.out⟩
  · subst kz
    by_cases hy : 0 < Y
    · have qy : decide (0 < Y) = true := by simpa using hy
      clear kt
      go_enter Tryz.func7, Tryz.ntmps7
      go_wp2_with fail
      refine (ck_examples b _ (HG.out.below HB0.out) (HE.out.below HB0.out)).mono ?_
      rintro e w1 ⟨rfl, hb⟩
      have H1 := Lib.hid (H0.out.below hb)
      have HB1 := Lib.hid (HB0.out.trans (hb.mono HB0.out.size))
      clear hb
      obtain ⟨a0, a1, b0, b1, c0, c1, lt⟩ := H1.out
      go_wp2_with fail
      refine (order_any t u x y _).mono ?_
      rintro e w2 ⟨rfl, hb⟩
      rw [HX.out]
      have H2 := Lib.hid (H1.out.below hb)
      have HB2 := Lib.hid (HB1.out.trans (hb.mono HB1.out.size))
      clear hb a0 a1 b0 b1 c0 c1 lt
      obtain ⟨a0, a1, b0, b1, c0, c1, lt⟩ := H2.out
      go_wp2_with fail
      refine (order_any u t y x _).mono ?_
      rintro e w3 ⟨rfl, hb⟩
      rw [HX'.out]
      have H3 := Lib.hid (H2.out.below hb)
      have HB3 := Lib.hid (HB2.out.trans (hb.mono HB2.out.size))
      clear hb a0 a1 b0 b1 c0 c1 lt
      obtain ⟨a0, a1, b0, b1, c0, c1, lt⟩ := H3.out
      go_wp2_with fail
      refine (order_any u v y z _).mono ?_
      rintro e w4 ⟨rfl, hb⟩
      rw [HY.out]
      have H4 := Lib.hid (H3.out.below hb)
      have HB4 := Lib.hid (HB3.out.trans (hb.mono HB3.out.size))
      clear hb a0 a1 b0 b1 c0 c1 lt
      obtain ⟨a0, a1, b0, b1, c0, c1, lt⟩ := H4.out
      go_wp2_with fail
      go_ret
      exact ⟨rfl, HB4.out⟩
    · have hz : Z ≤ 0 := kt (by omega) (by omega)
      have qy : decide (0 < Y) = false := by simpa using hy
      have qz : decide (Z ≤ 0) = true := by simpa using hz
      clear kt
      go_enter Tryz.func7, Tryz.ntmps7
      go_wp2_with fail
      refine (ck_examples b _ (HG.out.below HB0.out) (HE.out.below HB0.out)).mono ?_
      rintro e w1 ⟨rfl, hb⟩
      have H1 := Lib.hid (H0.out.below hb)
      have HB1 := Lib.hid (HB0.out.trans (hb.mono HB0.out.size))
      clear hb
      obtain ⟨a0, a1, b0, b1, c0, c1, lt⟩ := H1.out
      go_wp2_with fail
      refine (order_any t u x y _).mono ?_
      rintro e w2 ⟨rfl, hb⟩
      rw [HX.out]
      have H2 := Lib.hid (H1.out.below hb)
      have HB2 := Lib.hid (HB1.out.trans (hb.mono HB1.out.size))
      clear hb a0 a1 b0 b1 c0 c1 lt
      obtain ⟨a0, a1, b0, b1, c0, c1, lt⟩ := H2.out
      go_wp2_with fail
      refine (order_any u t y x _).mono ?_
      rintro e w3 ⟨rfl, hb⟩
      rw [HX'.out]
      have H3 := Lib.hid (H2.out.below hb)
      have HB3 := Lib.hid (HB2.out.trans (hb.mono HB2.out.size))
      clear hb a0 a1 b0 b1 c0 c1 lt
      obtain ⟨a0, a1, b0, b1, c0, c1, lt⟩ := H3.out
      go_wp2_with fail
      refine (order_any u v y z _).mono ?_
      rintro e w4 ⟨rfl, hb⟩
      rw [HY.out]
      have H4 := Lib.hid (H3.out.below hb)
      have HB4 := Lib.hid (HB3.out.trans (hb.mono HB3.out.size))
      clear hb a0 a1 b0 b1 c0 c1 lt
      obtain ⟨a0, a1, b0, b1, c0, c1, lt⟩ := H4.out
      go_wp2_with fail
      refine (order_any t v x z _).mono ?_
      rintro e w5 ⟨rfl, hb⟩
      rw [HZ.out]
      have H5 := Lib.hid (H4.out.below hb)
      have HB5 := Lib.hid (HB4.out.trans (hb.mono HB4.out.size))
      clear hb a0 a1 b0 b1 c0 c1 lt
      obtain ⟨a0, a1, b0, b1, c0, c1, lt⟩ := H5.out
      go_wp2_with fail
      go_ret
      exact ⟨rfl, HB5.out⟩
  · subst kz
    go_enter Tryz.func7, Tryz.ntmps7
    go_wp2_with fail
    refine (ck_examples b _ (HG.out.below HB0.out) (HE.out.below HB0.out)).mono ?_
    rintro e w1 ⟨rfl, hb⟩
    have H1 := Lib.hid (H0.out.below hb)
    have HB1 := Lib.hid (HB0.out.trans (hb.mono HB0.out.size))
    clear hb
    obtain ⟨a0, a1, b0, b1, c0, c1, lt⟩ := H1.out
    go_wp2_with fail
    refine (order_any t u x y _).mono ?_
    rintro e w2 ⟨rfl, hb⟩
    rw [HX.out]
    have H2 := Lib.hid (H1.out.below hb)
    have HB2 := Lib.hid (HB1.out.trans (hb.mono HB1.out.size))
    clear hb a0 a1 b0 b1 c0 c1 lt
    obtain ⟨a0, a1, b0, b1, c0, c1, lt⟩ := H2.out
    go_wp2_with fail
    refine (order_any u t y x _).mono ?_
    rintro e w3 ⟨rfl, hb⟩
    rw [HX'.out]
    have H3 := Lib.hid (H2.out.below hb)
    have HB3 := Lib.hid (HB2.out.trans (hb.mono HB2.out.size))
    clear hb a0 a1 b0 b1 c0 c1 lt
    obtain ⟨a0, a1, b0, b1, c0, c1, lt⟩ := H3.out
    go_wp2_with fail
    go_ret
    exact ⟨rfl, HB3.out⟩
end Go.Proofs.YtngceccpebdgmaaGreatDoor.ckOrder
