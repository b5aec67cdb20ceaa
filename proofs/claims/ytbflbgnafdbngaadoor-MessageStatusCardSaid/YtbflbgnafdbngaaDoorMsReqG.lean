/- message: GetReq of a request for all, and of what is of another Kind (tools/msreqg_gen.py). -/
import Derived.Test.YtbflbgnafdbngaaDoorMsReqR
namespace Go.Proofs.YtbflbgnafdbngaaDoor
open Go.RowKit Go.Lib

theorem readReq_star (g b : Addr) (w : World) (hg : Gv g w) (hn : Gn b w) :
    Calls Tryd.prog 22 #[.string ⟨#[1, 8, 1, 34, 1, 42]⟩] w fun e w' => ∃ B c, (e = .returned (.tuple #[.agg (rq 1 (.slice (some ⟨B, 0, none⟩) 1 c)), .nilIface]) ∧ StarAt w' B ∧ w.heap.size ≤ B) ∧ Below w.heap.size w w' := by
  have hq : msgP cntStep 0 1 (⟨#[1, 8, 1, 34, 1, 42]⟩ : ByteArray).data.toList = (2, none) := by
    show msgP cntStep 0 1 rqL = (2, none)
    unfold msgP
    rw [if_pos (by rfl)]
    unfold takeP
    rw [rqL_parse]
    rfl
  refine (readReq_two ⟨#[1, 8, 1, 34, 1, 42]⟩ (2, none) g b w hg hn (by show 6 ≤ 1099511627776; omega) (fun _ fs h k st f hk ht => rqn_of (Option.some.inj (h.symm.trans rqL_parse)) k st f hk ht) hq (Or.inl rfl)).mono ?_
  rintro e w' ⟨⟨h, -⟩, hb⟩
  obtain ⟨B, c, h1, h2⟩ := h rfl
  exact ⟨B, c, ⟨h1, h2⟩, hb⟩
theorem readReq_kind (s : ByteArray) (g b : Addr) (w : World) (hg : Gv g w) (hn : Gn b w) (hs : s.size ≤ 1099511627776) (hk : kindL s.data.toList ≠ 1) :
    Calls Tryd.prog 22 #[.string s] w fun e w' => e = .returned (.tuple #[.agg (rq 0 (.slice none 0 0)), .iface 149 (.pointer (some b))]) ∧ Below w.heap.size w w' := by
  refine (readReq_two s (0, some []) g b w hg hn hs (fun h => absurd h hk) (by unfold msgP; rw [if_neg hk]) (Or.inr rfl)).mono ?_
  rintro e w' ⟨⟨-, h⟩, hb⟩
  exact ⟨h rfl, hb⟩
set_option maxRecDepth 100000 in
set_option maxHeartbeats 2000000 in
theorem getReq_star (g b : Addr) (w : World) (hg : Gv g w) (hn : Gn b w) :
    Calls Tryd.prog 12 #[.string ⟨#[1, 8, 1, 34, 1, 42]⟩] w fun e w' => ∃ B c, (e = .returned (.tuple #[.agg (rq 1 (.slice (some ⟨B, 0, none⟩) 1 c)), .bool true]) ∧ StarAt w' B) ∧ Below w.heap.size w w' := by
  have HI := Lib.hid (fun W => isE_any b none W (by intro l h; cases h))
  rw [show oV b none = .nilIface from rfl] at HI
  have HP := Lib.hid (fun W h1 h2 => readReq_star g b W h1 h2)
  obtain ⟨w0, hw0, hb0, p0⟩ := alloc_new w (rq 0 (.slice none 0 0)) 41
  have HW := Lib.hid hw0
  have H := Lib.hid (And.intro p0 (And.intro hb0 (And.intro (hg.below hb0) (hn.below hb0))))
  clear hw0 hb0 p0 hg hn
  go_enter Tryd.func12, Tryd.ntmps12
  go_wp2_with fail
  rw [HW.out]
  refine (HP.out w0 H.out.2.2.1 H.out.2.2.2).mono ?_
  rintro e w1 ⟨SB, sc, ⟨rfl, hst, hge⟩, hb⟩
  obtain ⟨w2, hw2, hb2, p2⟩ := alloc_new w1 #[.int .i64 1, .bool false, .int .u64 0, .slice (some ⟨SB, 0, none⟩) 1 sc, .slice none 0 0, .slice none 0 0, .string ⟨#[]⟩] 41
  have hb12 := hb.trans (hb2.mono hb.size)
  have HW2 := Lib.hid hw2
  have c0 := ((H.out.2.2.2).below hb).1
  have l0 := ((H.out.2.2.2).below hb).2
  have H2 := Lib.hid (And.intro (H.out.1.later hb12) (And.intro p2 (H.out.2.1.trans (hb12.mono H.out.2.1.size))))
  have HS := Lib.hid (hst.later hb2)
  have hlw := H.out.1.lt
  clear hw2 hb hb2 hb12 p2 hst
  have c1 : w1.cell? ⟨0, 0, none⟩ = some (.iface 149 (.pointer (some b))) := c0
  have l1 : 0 < w1.heap.size := l0
  clear c0 l0
  go_wp2_with fail
  rw [HW2.out]
  refine (HI.out w2).mono ?_
  rintro e w3 ⟨rfl, hb⟩
  have HR := Lib.hid (H2.out.1.later hb)
  have HT := Lib.hid (H2.out.2.1.later hb)
  have HB := Lib.hid (H2.out.2.2.trans (hb.mono H2.out.2.2.size))
  have HZ := Lib.hid (HS.out.later hb)
  have z0 : w3.cell? ⟨w.heap.size, 0, none⟩ = some (.int .i64 0) := HR.out.cell 0
  have z1 : w3.cell? ⟨w.heap.size, 1, none⟩ = some (.bool false) := HR.out.cell 1
  have z2 : w3.cell? ⟨w.heap.size, 2, none⟩ = some (.int .u64 0) := HR.out.cell 2
  have z3 : w3.cell? ⟨w.heap.size, 3, none⟩ = some (.slice none 0 0) := HR.out.cell 3
  have z4 : w3.cell? ⟨w.heap.size, 4, none⟩ = some (.slice none 0 0) := HR.out.cell 4
  have z5 : w3.cell? ⟨w.heap.size, 5, none⟩ = some (.slice none 0 0) := HR.out.cell 5
  have z6 : w3.cell? ⟨w.heap.size, 6, none⟩ = some (.string ⟨#[]⟩) := HR.out.cell 6
  have zf : ∀ j, w3.frozen? ⟨w.heap.size, j, none⟩ = false := fun j => Lib.frozen_of_heap HR.out j
  have t0 : w3.cell? ⟨w1.heap.size, 0, none⟩ = some (.int .i64 1) := HT.out.cell 0
  have t1 : w3.cell? ⟨w1.heap.size, 1, none⟩ = some (.bool false) := HT.out.cell 1
  have t2 : w3.cell? ⟨w1.heap.size, 2, none⟩ = some (.int .u64 0) := HT.out.cell 2
  have t3 : w3.cell? ⟨w1.heap.size, 3, none⟩ = some (.slice (some ⟨SB, 0, none⟩) 1 sc) := HT.out.cell 3
  have t4 : w3.cell? ⟨w1.heap.size, 4, none⟩ = some (.slice none 0 0) := HT.out.cell 4
  have t5 : w3.cell? ⟨w1.heap.size, 5, none⟩ = some (.slice none 0 0) := HT.out.cell 5
  have t6 : w3.cell? ⟨w1.heap.size, 6, none⟩ = some (.string ⟨#[]⟩) := HT.out.cell 6
  clear hb c1 l1 HW2
  go_wp2_with fail
  have RR : Bk (((((((w3.setCell ⟨w.heap.size, 0, none⟩ (.int .i64 1)).setCell ⟨w.heap.size, 1, none⟩ (.bool false)).setCell ⟨w.heap.size, 2, none⟩ (.int .u64 0)).setCell ⟨w.heap.size, 3, none⟩ (.slice (some ⟨SB, 0, none⟩) 1 sc)).setCell ⟨w.heap.size, 4, none⟩ (.slice none 0 0)).setCell ⟨w.heap.size, 5, none⟩ (.slice none 0 0)).setCell ⟨w.heap.size, 6, none⟩ (.string ⟨#[]⟩)) w.heap.size #[.int .i64 1, .bool false, .int .u64 0, .slice (some ⟨SB, 0, none⟩) 1 sc, .slice none 0 0, .slice none 0 0, .string ⟨#[]⟩] 41 := (bk_set (bk_set (bk_set (bk_set (bk_set (bk_set (bk_set HR.out 0 _) 1 _) 2 _) 3 _) 4 _) 5 _) 6 _)
  have g0 := RR.cell 0
  have g1 := RR.cell 1
  have g2 := RR.cell 2
  have g3 := RR.cell 3
  have g4 := RR.cell 4
  have g5 := RR.cell 5
  have g6 := RR.cell 6
  simp only [List.getElem?_toArray, List.getElem?_cons_zero, List.getElem?_cons_succ] at g0 g1 g2 g3 g4 g5 g6
  have hbz : Below w.heap.size w (((((((w3.setCell ⟨w.heap.size, 0, none⟩ (.int .i64 1)).setCell ⟨w.heap.size, 1, none⟩ (.bool false)).setCell ⟨w.heap.size, 2, none⟩ (.int .u64 0)).setCell ⟨w.heap.size, 3, none⟩ (.slice (some ⟨SB, 0, none⟩) 1 sc)).setCell ⟨w.heap.size, 4, none⟩ (.slice none 0 0)).setCell ⟨w.heap.size, 5, none⟩ (.slice none 0 0)).setCell ⟨w.heap.size, 6, none⟩ (.string ⟨#[]⟩)) := ((((((((HB.out).setCell (Nat.le_refl _) _).setCell (Nat.le_refl _) _).setCell (Nat.le_refl _) _).setCell (Nat.le_refl _) _).setCell (Nat.le_refl _) _).setCell (Nat.le_refl _) _).setCell (Nat.le_refl _) _)
  have pZ := star_st7 (R := w.heap.size) HZ.out (by omega) (.int .i64 1) (.bool false) (.int .u64 0) (.slice (some ⟨SB, 0, none⟩) 1 sc) (.slice none 0 0) (.slice none 0 0) (.string ⟨#[]⟩)
  refine bodyPost_ret (v := .tuple #[.agg #[.int .i64 1, .bool false, .int .u64 0, .slice (some ⟨SB, 0, none⟩) 1 sc, .slice none 0 0, .slice none 0 0, .string ⟨#[]⟩], .bool true]) ?_ rfl ⟨SB, sc, ⟨rfl, pZ⟩, hbz⟩
  generalize (((((((w3.setCell ⟨w.heap.size, 0, none⟩ (.int .i64 1)).setCell ⟨w.heap.size, 1, none⟩ (.bool false)).setCell ⟨w.heap.size, 2, none⟩ (.int .u64 0)).setCell ⟨w.heap.size, 3, none⟩ (.slice (some ⟨SB, 0, none⟩) 1 sc)).setCell ⟨w.heap.size, 4, none⟩ (.slice none 0 0)).setCell ⟨w.heap.size, 5, none⟩ (.slice none 0 0)).setCell ⟨w.heap.size, 6, none⟩ (.string ⟨#[]⟩)) = Z2 at g0 g1 g2 g3 g4 g5 g6 ⊢
  simp [results, Tryd.results12, go_sem, g0, g1, g2, g3, g4, g5, g6]
set_option maxRecDepth 100000 in
set_option maxHeartbeats 2000000 in
theorem getReq_kind (s : ByteArray) (g b : Addr) (w : World) (hg : Gv g w) (hn : Gn b w) (hs : s.size ≤ 1099511627776) (hk : kindL s.data.toList ≠ 1) :
    Calls Tryd.prog 12 #[.string s] w fun e w' => e = .returned (.tuple #[.agg (rq 0 (.slice none 0 0)), .bool false]) ∧ Below w.heap.size w w' := by
  have HI := Lib.hid (fun W => isE_any b (some []) W (by intro l h; injection h with h; subst h; simp))
  rw [show oV b (some []) = .iface 149 (.pointer (some b)) from rfl] at HI
  have HP := Lib.hid (fun W h1 h2 => readReq_kind s g b W h1 h2 hs hk)
  obtain ⟨w0, hw0, hb0, p0⟩ := alloc_new w (rq 0 (.slice none 0 0)) 41
  have HW := Lib.hid hw0
  have H := Lib.hid (And.intro p0 (And.intro hb0 (And.intro (hg.below hb0) (hn.below hb0))))
  clear hw0 hb0 p0 hg hn hs hk
  go_enter Tryd.func12, Tryd.ntmps12
  go_wp2_with fail
  rw [HW.out]
  refine (HP.out w0 H.out.2.2.1 H.out.2.2.2).mono ?_
  rintro e w1 ⟨rfl, hb⟩
  obtain ⟨w2, hw2, hb2, p2⟩ := alloc_new w1 #[.int .i64 0, .bool false, .int .u64 0, .slice none 0 0, .slice none 0 0, .slice none 0 0, .string ⟨#[]⟩] 41
  have hb12 := hb.trans (hb2.mono hb.size)
  have HW2 := Lib.hid hw2
  have c0 := ((H.out.2.2.2).below hb).1
  have l0 := ((H.out.2.2.2).below hb).2
  have H2 := Lib.hid (And.intro (H.out.1.later hb12) (And.intro p2 (H.out.2.1.trans (hb12.mono H.out.2.1.size))))
  skip
  skip
  clear hw2 hb hb2 hb12 p2
  have c1 : w1.cell? ⟨0, 0, none⟩ = some (.iface 149 (.pointer (some b))) := c0
  have l1 : 0 < w1.heap.size := l0
  clear c0 l0
  go_wp2_with fail
  rw [HW2.out]
  refine (HI.out w2).mono ?_
  rintro e w3 ⟨rfl, hb⟩
  have HR := Lib.hid (H2.out.1.later hb)
  have HT := Lib.hid (H2.out.2.1.later hb)
  have HB := Lib.hid (H2.out.2.2.trans (hb.mono H2.out.2.2.size))
  skip
  have z0 : w3.cell? ⟨w.heap.size, 0, none⟩ = some (.int .i64 0) := HR.out.cell 0
  have z1 : w3.cell? ⟨w.heap.size, 1, none⟩ = some (.bool false) := HR.out.cell 1
  have z2 : w3.cell? ⟨w.heap.size, 2, none⟩ = some (.int .u64 0) := HR.out.cell 2
  have z3 : w3.cell? ⟨w.heap.size, 3, none⟩ = some (.slice none 0 0) := HR.out.cell 3
  have z4 : w3.cell? ⟨w.heap.size, 4, none⟩ = some (.slice none 0 0) := HR.out.cell 4
  have z5 : w3.cell? ⟨w.heap.size, 5, none⟩ = some (.slice none 0 0) := HR.out.cell 5
  have z6 : w3.cell? ⟨w.heap.size, 6, none⟩ = some (.string ⟨#[]⟩) := HR.out.cell 6
  have zf : ∀ j, w3.frozen? ⟨w.heap.size, j, none⟩ = false := fun j => Lib.frozen_of_heap HR.out j
  have t0 : w3.cell? ⟨w1.heap.size, 0, none⟩ = some (.int .i64 0) := HT.out.cell 0
  have t1 : w3.cell? ⟨w1.heap.size, 1, none⟩ = some (.bool false) := HT.out.cell 1
  have t2 : w3.cell? ⟨w1.heap.size, 2, none⟩ = some (.int .u64 0) := HT.out.cell 2
  have t3 : w3.cell? ⟨w1.heap.size, 3, none⟩ = some (.slice none 0 0) := HT.out.cell 3
  have t4 : w3.cell? ⟨w1.heap.size, 4, none⟩ = some (.slice none 0 0) := HT.out.cell 4
  have t5 : w3.cell? ⟨w1.heap.size, 5, none⟩ = some (.slice none 0 0) := HT.out.cell 5
  have t6 : w3.cell? ⟨w1.heap.size, 6, none⟩ = some (.string ⟨#[]⟩) := HT.out.cell 6
  clear hb c1 l1 HW2
  go_wp2_with fail
  have RR : Bk (((((((w3.setCell ⟨w.heap.size, 0, none⟩ (.int .i64 0)).setCell ⟨w.heap.size, 1, none⟩ (.bool false)).setCell ⟨w.heap.size, 2, none⟩ (.int .u64 0)).setCell ⟨w.heap.size, 3, none⟩ (.slice none 0 0)).setCell ⟨w.heap.size, 4, none⟩ (.slice none 0 0)).setCell ⟨w.heap.size, 5, none⟩ (.slice none 0 0)).setCell ⟨w.heap.size, 6, none⟩ (.string ⟨#[]⟩)) w.heap.size #[.int .i64 0, .bool false, .int .u64 0, .slice none 0 0, .slice none 0 0, .slice none 0 0, .string ⟨#[]⟩] 41 := (bk_set (bk_set (bk_set (bk_set (bk_set (bk_set (bk_set HR.out 0 _) 1 _) 2 _) 3 _) 4 _) 5 _) 6 _)
  have g0 := RR.cell 0
  have g1 := RR.cell 1
  have g2 := RR.cell 2
  have g3 := RR.cell 3
  have g4 := RR.cell 4
  have g5 := RR.cell 5
  have g6 := RR.cell 6
  simp only [List.getElem?_toArray, List.getElem?_cons_zero, List.getElem?_cons_succ] at g0 g1 g2 g3 g4 g5 g6
  have hbz : Below w.heap.size w (((((((w3.setCell ⟨w.heap.size, 0, none⟩ (.int .i64 0)).setCell ⟨w.heap.size, 1, none⟩ (.bool false)).setCell ⟨w.heap.size, 2, none⟩ (.int .u64 0)).setCell ⟨w.heap.size, 3, none⟩ (.slice none 0 0)).setCell ⟨w.heap.size, 4, none⟩ (.slice none 0 0)).setCell ⟨w.heap.size, 5, none⟩ (.slice none 0 0)).setCell ⟨w.heap.size, 6, none⟩ (.string ⟨#[]⟩)) := ((((((((HB.out).setCell (Nat.le_refl _) _).setCell (Nat.le_refl _) _).setCell (Nat.le_refl _) _).setCell (Nat.le_refl _) _).setCell (Nat.le_refl _) _).setCell (Nat.le_refl _) _).setCell (Nat.le_refl _) _)
  refine bodyPost_ret (v := .tuple #[.agg #[.int .i64 0, .bool false, .int .u64 0, .slice none 0 0, .slice none 0 0, .slice none 0 0, .string ⟨#[]⟩], .bool false]) ?_ rfl ⟨rfl, hbz⟩
  generalize (((((((w3.setCell ⟨w.heap.size, 0, none⟩ (.int .i64 0)).setCell ⟨w.heap.size, 1, none⟩ (.bool false)).setCell ⟨w.heap.size, 2, none⟩ (.int .u64 0)).setCell ⟨w.heap.size, 3, none⟩ (.slice none 0 0)).setCell ⟨w.heap.size, 4, none⟩ (.slice none 0 0)).setCell ⟨w.heap.size, 5, none⟩ (.slice none 0 0)).setCell ⟨w.heap.size, 6, none⟩ (.string ⟨#[]⟩)) = Z2 at g0 g1 g2 g3 g4 g5 g6 ⊢
  simp [results, Tryd.results12, go_sem, g0, g1, g2, g3, g4, g5, g6]
end Go.Proofs.YtbflbgnafdbngaaDoor
