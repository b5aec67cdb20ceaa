/- client: Answer. -/
import Derived.Test.YtdcfdcjgheijcaaGreatDoorClErr
import Derived.Test.YtdcfdcjgheijcaaGreatDoorNmHas
namespace Go.Proofs.YtdcfdcjgheijcaaGreatDoor
open Go.RowKit Go.Lib
set_option maxRecDepth 100000 in
theorem type_is {k : Nat} {B : Bool} {w : World} (hB : (decide (1 ≤ k) && decide (k ≤ 5)) = B) : Calls Tryz.prog 92 #[.int .i64 (k : Int)] w fun e w' => e = .returned (.bool B) ∧ w' = w := by
  by_cases h1 : 1 ≤ k
  · have b1 : (1 : Int) ≤ (k : Int) := by omega
    by_cases h5 : k ≤ 5
    · have b5 : (k : Int) ≤ 5 := by omega
      obtain rfl : true = B := by rw [← hB]; simp [h1, h5]
      clear hB h1 h5
      go_enter Tryz.func92, Tryz.ntmps92
      go_wp2_with fail
      go_ret
      exact ⟨rfl, rfl⟩
    · have b5 : ¬ (k : Int) ≤ 5 := by omega
      obtain rfl : false = B := by rw [← hB]; simp [h1, h5]
      clear hB h1 h5
      go_enter Tryz.func92, Tryz.ntmps92
      go_wp2_with fail
      go_ret
      exact ⟨rfl, rfl⟩
  · have b1 : ¬ (1 : Int) ≤ (k : Int) := by omega
    obtain rfl : false = B := by rw [← hB]; simp [h1]
    clear hB h1
    go_enter Tryz.func92, Tryz.ntmps92
    go_wp2_with fail
    go_ret
    exact ⟨rfl, rfl⟩
abbrev sNone : ByteArray := ⟨#[110, 111, 116, 104, 105, 110, 103, 32, 99, 97, 109, 101]⟩

set_option maxRecDepth 100000 in
set_option maxHeartbeats 2000000 in
/-- checkAnswer: nothing came, or all is well. -/
theorem chkAns_any {x : Cl} {k : Nat} {s : ByteArray} {w : World} (h1 : 1 ≤ k) (h5 : k ≤ 5) (hs : s.size ≤ 256) :
    Calls Tryz.prog 57 #[x.v, .int .i64 (k : Int), .string s] w fun e w' => e = .returned (if (x.get k).q = 0 then fU k 5 sNone else .nilIface) ∧ Below w.heap.size w w' := by
  obtain ⟨w0, hw0, hb0, p0, z0⟩ := alloc_sized w x.arr CT
  obtain ⟨w1, hw1, hb1, p1, z1⟩ := alloc_sized w0 #[.int .i64 (s.size : Int)] 3
  rw [z0] at p1
  have hx := exceeds_any (w := w1) (most := 256) (c := 1) (B := false) (ints_block (l := [(s.size : Int)]) p1 rfl) rfl (by simp) (by simp; omega)
  have HX := Lib.hid hx
  have HW := Lib.hid hw0
  have HW1 := Lib.hid hw1
  have HB := Lib.hid (hb0.trans (hb1.mono hb0.size))
  have q0 : w1.cell? ⟨w.heap.size, 1 + k * 4 + 3, none⟩ = some (.int .u64 ((x.get k).q : Int)) := ((p0.later hb1).cell _).trans (x.at (by omega)).2.2.2
  have k0 : (0 : Int) ≤ (k : Int) := by omega
  have k6 : (k : Int) < 6 := by omega
  have HT := Lib.hid (And.intro h1 h5)
  clear z0 z1 hx hw0 hw1 hb0 hb1 p0 p1 h1 h5 hs
  go_enter Tryz.func57, Tryz.ntmps57
  go_wp2_with fail
  refine (type_is (B := true) (by simp [HT.out.1, HT.out.2])).mono ?_
  rintro e w' ⟨rfl, rfl⟩
  go_wp2_with fail
  rw [HW.out, HW1.out]
  refine HX.out.mono ?_
  rintro e w' ⟨rfl, rfl⟩
  go_wp2_with fail
  all_goals go_ret
  all_goals first | (exfalso; rename_i hh; simp at hh; omega) | exact ⟨rfl, HB.out⟩ | exact ⟨by simp [*], HB.out⟩
theorem tsAt_nil (w : World) : TsAt w (.slice none 0 0) [] := RowV.nil _ _ _ (Nat.zero_le _)
/-- What a client's whole request says of a topic. -/
def Cl.says (x : Cl) (k : Nat) : List (List UInt8) := if x.d then [] else nList ⟨(x.get k).all, (x.get k).l⟩

theorem Tryz.resAns : Tryz.f31.results = #[.cell 6 RT, .tmp 7] := rfl
set_option maxRecDepth 100000 in
set_option maxHeartbeats 2000000 in
/-- Answer, where nothing came. -/
theorem ans_none {x : Cl} {k : Nat} {s : ByteArray} {w : World} (h1 : 1 ≤ k) (h5 : k ≤ 5) (hs : s.size ≤ 256) (hq : (x.get k).q = 0) (hg : Ge w) :
    Calls Tryz.prog 31 #[x.v, .int .i64 (k : Int), .string s] w fun e w' => e = .returned (.tuple #[.agg rq0, .int .i64 5]) ∧ Below w.heap.size w w' := by
  obtain ⟨w0, hw0, hb0, p0, z0⟩ := alloc_sized w x.arr CT
  obtain ⟨w1, hw1, hb1, p1, z1⟩ := alloc_sized w0 rq0 RT
  rw [z0] at p1
  have HC := chkAns_any (x := x) (k := k) (s := s) (w := w1) h1 h5 hs
  rw [if_pos hq] at HC
  have hb01 := hb0.trans (hb1.mono hb0.size)
  have HW := Lib.hid hw0
  have HW1 := Lib.hid hw1
  have HG := Lib.hid (hg.later hb01)
  have P0 := Lib.hid (p0.later hb1)
  have H := Lib.hid (And.intro HC (And.intro hb01 p1))
  clear HC hw0 hw1 hb0 hb1 p0 p1 h1 h5 hs hb01 hg
  go_enter Tryz.func31, Tryz.ntmps31
  go_wp2_with (rw [HW.out, HW1.out]; refine wpList_load_cl _ x w.heap.size rfl rfl (by rfl) P0.out ?_; simp only [Act.put, List.setIfInBounds_toArray, List.set_cons_zero, List.set_cons_succ])
  refine H.out.1.mono ?_
  rintro e w3 ⟨rfl, hb3⟩
  go_wp2_with fail
  refine (errno_UD (HG.out.later hb3)).mono ?_
  rintro e w4 ⟨rfl, hb4⟩
  have p4 := (H.out.2.2.later hb3).later hb4
  dsimp only
  go_wp2_with (refine wpList_store_rq _ _ (w.heap.size + 1) rfl rfl (by rfl) (by rfl) p4 rfl (by rfl) (by simp [Value.oneCell']) ?_; intro w5 p5 j5; simp only [Act.put, List.setIfInBounds_toArray, List.set_cons_zero, List.set_cons_succ])
  have hl := run_load_rq p5 rfl
  refine bodyPost_ret (v := .tuple #[.agg rq0, .int .i64 5]) (by simp [results, Tryz.resAns, hl, asAddr]) rfl ⟨rfl, ?_⟩
  exact (((H.out.2.1.trans (hb3.mono H.out.2.1.size)).trans (hb4.mono (Nat.le_trans H.out.2.1.size hb3.size)))).trans (j5.below (by omega))
-- part ans_ok
set_option maxRecDepth 100000 in
set_option maxHeartbeats 4000000 in
/-- Answer, where something came. -/
theorem ans_ok {x : Cl} {k : Nat} {s : ByteArray} {w : World} {L : List (List UInt8)} (h1 : 1 ≤ k) (h5 : k ≤ 5) (hs : s.size ≤ 256) (hq : (x.get k).q ≠ 0) (hT : (x.get k).At w) (hL : x.says k = L) (hz : L.length * 16 ≤ 140737488355328) :
    Calls Tryz.prog 31 #[x.v, .int .i64 (k : Int), .string s] w fun e w' => ∃ a c, e = .returned (.tuple #[.agg (rq k x.d (x.get k).q (.slice a L.length c) (.slice none 0 0) (.slice none 0 0) s), .int .i64 0]) ∧ TsAt w' (.slice a L.length c) L ∧ Below w.heap.size w w' := by
  obtain ⟨w0, hw0, hb0, p0, z0⟩ := alloc_sized w x.arr CT
  obtain ⟨w1, hw1, hb1, p1, z1⟩ := alloc_sized w0 rq0 RT
  rw [z0] at p1
  have HC := chkAns_any (x := x) (k := k) (s := s) (w := w1) h1 h5 hs
  rw [if_neg hq] at HC
  have hb01 := hb0.trans (hb1.mono hb0.size)
  have HW := Lib.hid hw0
  have HW1 := Lib.hid hw1
  have P0 := Lib.hid (p0.later hb1)
  have hs1 : w.heap.size + 2 = w1.heap.size := by omega
  have H := Lib.hid (And.intro HC (And.intro hb01 (And.intro p1 (hT.later hb01))))
  have k0 : (0 : Int) ≤ (k : Int) := by omega
  have k6 : (k : Int) < 6 := by omega
  have kk : k < 6 := by omega
  clear HC hw0 hw1 hb0 hb1 p0 p1 h1 h5 hs hb01 hT z0 z1
  obtain ⟨D, hD⟩ : ∃ D, x.d = D := ⟨_, rfl⟩
  obtain ⟨t, ht⟩ : ∃ t, x.get k = t := ⟨_, rfl⟩
  have HA := Lib.hid (x.at kk)
  rw [ht] at HA H hq ⊢
  have hs0 : x.says k = (if D then [] else nList ⟨t.all, t.l⟩) := by rw [← hD, ← ht]; rfl
  have HD := Lib.hid hD
  have HL := Lib.hid (hs0.symm.trans hL)
  have HZ := Lib.hid hz
  have HS := Lib.hid hs1
  rw [hD]
  clear hD ht hL hs0 hz hs1
  cases hDD : D with
  | true =>
    obtain rfl : ([] : List (List UInt8)) = L := by have := HL.out; rw [hDD] at this; exact this
    go_enter Tryz.func31, Tryz.ntmps31
    go_wp2_with (first | (rw [HW.out, HW1.out]; refine wpList_load_cl _ x w.heap.size rfl rfl (by rfl) P0.out ?_; simp only [Act.put, List.setIfInBounds_toArray, List.set_cons_zero, List.set_cons_succ]))
    refine H.out.1.mono ?_
    rintro e w3 ⟨rfl, hb3⟩
    have P3 := P0.out.later hb3
    have c0 := (P3.cell (1 + k * 4)).trans HA.out.1
    have c1 := (P3.cell (1 + k * 4 + 1)).trans HA.out.2.1
    have c2 := (P3.cell (1 + k * 4 + 2)).trans HA.out.2.2.1
    have c3 := (P3.cell (1 + k * 4 + 3)).trans HA.out.2.2.2
    have cd := (P3.cell 0).trans x.at0
    rw [HD.out] at cd
    obtain ⟨w4, hw4, hb4, p4, z4⟩ := alloc_sized w3 #[.bool t.all, .slice t.a t.l.length t.c, .bool t.op, .int .u64 (t.q : Int)] 69
    obtain ⟨w5, hw5, hb5, p5, z5⟩ := alloc_sized w4 (rq k D t.q (.slice none 0 0) (.slice none 0 0) (.slice none 0 0) s) RT
    have HW4 := Lib.hid hw4
    have HW5 := Lib.hid hw5
    have hb35 := hb4.trans (hb5.mono hb4.size)
    have hb15 := hb3.trans (hb35.mono hb3.size)
    have X5 := Lib.hid (And.intro (H.out.2.1.trans (hb15.mono H.out.2.1.size)) (And.intro (H.out.2.2.1.later hb15) (And.intro p5 (H.out.2.2.2.later hb15))))
    have d4 := (((P3.later hb4).cell 0).trans x.at0)
    have d5 := (((P3.later (hb4.trans (hb5.mono hb4.size))).cell 0).trans x.at0)
    rw [HD.out] at d4 d5
    have n4 := p4.cell 3
    have n5 := (p4.later hb5).cell 0
    have n6 := (p4.later hb5).cell 1
    simp only [List.getElem?_toArray, List.getElem?_cons_zero, List.getElem?_cons_succ] at n4 n5 n6
    have hz5 : w3.heap.size + 1 = w4.heap.size ∧ w4.heap.size + 1 = w5.heap.size := by omega
    have hle := hb3.size
    have hle2 := HS.out
    have HN := Lib.hid (And.intro hz5 (And.intro hle hle2))
    clear hw4 hw5 hb4 hb5 p4 p5 hb35 hb15 hb3 z4 z5 P3 hz5 hle hle2
    subst hDD
    go_wp2_with (first | rw [HW4.out] | rw [HW5.out] | (refine wpList_load_rq _ w4.heap.size rfl rfl (by rfl) X5.out.2.2.1 rfl ?_; simp only [Act.put, List.setIfInBounds_toArray, List.set_cons_zero, List.set_cons_succ]) | (refine wpList_store_rq _ _ (w.heap.size + 1) rfl rfl (by rfl) (by rfl) X5.out.2.1 rfl (by rfl) (by simp [rq, Value.oneCell']) ?_; intro w6 p6 j6; simp only [Act.put, List.setIfInBounds_toArray, List.set_cons_zero, List.set_cons_succ]))
    have hl := run_load_rq p6 rfl
    refine bodyPost_ret (v := .tuple #[.agg (rq k true t.q (.slice none 0 0) (.slice none 0 0) (.slice none 0 0) s), .int .i64 0]) (by simp [results, Tryz.resAns, hl, asAddr]) rfl ⟨none, 0, rfl, tsAt_nil _, X5.out.1.trans (j6.below (by omega))⟩
  | false =>
    have HL2 := Lib.hid (show nList ⟨t.all, t.l⟩ = L by have := HL.out; rw [hDD] at this; exact this)
    go_enter Tryz.func31, Tryz.ntmps31
    go_wp2_with (first | (rw [HW.out, HW1.out]; refine wpList_load_cl _ x w.heap.size rfl rfl (by rfl) P0.out ?_; simp only [Act.put, List.setIfInBounds_toArray, List.set_cons_zero, List.set_cons_succ]))
    refine H.out.1.mono ?_
    rintro e w3 ⟨rfl, hb3⟩
    have P3 := P0.out.later hb3
    have c0 := (P3.cell (1 + k * 4)).trans HA.out.1
    have c1 := (P3.cell (1 + k * 4 + 1)).trans HA.out.2.1
    have c2 := (P3.cell (1 + k * 4 + 2)).trans HA.out.2.2.1
    have c3 := (P3.cell (1 + k * 4 + 3)).trans HA.out.2.2.2
    have cd := (P3.cell 0).trans x.at0
    rw [HD.out] at cd
    obtain ⟨w4, hw4, hb4, p4, z4⟩ := alloc_sized w3 #[.bool t.all, .slice t.a t.l.length t.c, .bool t.op, .int .u64 (t.q : Int)] 69
    obtain ⟨w5, hw5, hb5, p5, z5⟩ := alloc_sized w4 (rq k D t.q (.slice none 0 0) (.slice none 0 0) (.slice none 0 0) s) RT
    have HW4 := Lib.hid hw4
    have HW5 := Lib.hid hw5
    have hb35 := hb4.trans (hb5.mono hb4.size)
    have hb15 := hb3.trans (hb35.mono hb3.size)
    have X5 := Lib.hid (And.intro (H.out.2.1.trans (hb15.mono H.out.2.1.size)) (And.intro (H.out.2.2.1.later hb15) (And.intro p5 (H.out.2.2.2.later hb15))))
    have d4 := (((P3.later hb4).cell 0).trans x.at0)
    have d5 := (((P3.later (hb4.trans (hb5.mono hb4.size))).cell 0).trans x.at0)
    rw [HD.out] at d4 d5
    have n4 := p4.cell 3
    have n5 := (p4.later hb5).cell 0
    have n6 := (p4.later hb5).cell 1
    simp only [List.getElem?_toArray, List.getElem?_cons_zero, List.getElem?_cons_succ] at n4 n5 n6
    have hz5 : w3.heap.size + 1 = w4.heap.size ∧ w4.heap.size + 1 = w5.heap.size := by omega
    have hle := hb3.size
    have hle2 := HS.out
    have HN := Lib.hid (And.intro hz5 (And.intro hle hle2))
    clear hw4 hw5 hb4 hb5 p4 p5 hb35 hb15 hb3 z4 z5 P3 hz5 hle hle2
    subst hDD
    go_wp2_with (first | rw [HW4.out] | rw [HW5.out])
    refine (list_any X5.out.2.2.2 HL2.out HZ.out).mono ?_
    rintro e w6 ⟨a, c, rfl, ho, hb6⟩
    have p6 := X5.out.2.2.1.later hb6
    obtain ⟨w7, hw7, p7, j7⟩ := set_new p6 3 (.slice a L.length c)
    have p7' : Blk w7 w4.heap.size (rq k false t.q (.slice a L.length c) (.slice none 0 0) (.slice none 0 0) s) RT := p7
    have e3 := p6.cell 3
    have f3 := p6.frozen 3
    simp only [List.getElem?_toArray, List.getElem?_cons_zero, List.getElem?_cons_succ] at e3
    have HO := Lib.hid (j7.own (by have := HN.out; omega) ho)
    have p0 := j7.blk (k := w.heap.size + 1) (by have := HN.out; omega) (X5.out.2.1.later hb6)
    have HB := Lib.hid ((X5.out.1.trans (hb6.mono X5.out.1.size)).trans (j7.below (by have := HN.out; omega)))
    have HW7 := Lib.hid hw7
    clear ho hb6 p6 p7 j7 hw7
    go_wp2_with (first | (rw [HW7.out]; refine wpList_load_rq _ w4.heap.size rfl rfl (by rfl) p7' rfl ?_; simp only [Act.put, List.setIfInBounds_toArray, List.set_cons_zero, List.set_cons_succ]) | (refine wpList_store_rq _ _ (w.heap.size + 1) rfl rfl (by rfl) (by rfl) p0 rfl (by rfl) (by simp [rq, Value.oneCell']) ?_; intro w8 p8 j8; simp only [Act.put, List.setIfInBounds_toArray, List.set_cons_zero, List.set_cons_succ]))
    have hl := run_load_rq p8 rfl
    have ho8 := j8.own (by have := HN.out; omega) HO.out
    refine bodyPost_ret (v := .tuple #[.agg (rq k false t.q (.slice a L.length c) (.slice none 0 0) (.slice none 0 0) s), .int .i64 0]) (by simp [results, Tryz.resAns, hl, asAddr]) rfl ⟨a, c, rfl, RowV.own ho8, HB.out.trans (j8.below (by omega))⟩
end Go.Proofs.YtdcfdcjgheijcaaGreatDoor
