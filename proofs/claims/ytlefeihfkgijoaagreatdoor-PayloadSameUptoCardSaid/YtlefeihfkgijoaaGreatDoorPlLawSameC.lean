/-
  PayloadSame, in its second form: a right payload is the same as itself alone; with one field another thing it is not. The condition of the form: what it reads is of bulk at most 1048576.
-/
import Derived.Test.YtlefeihfkgijoaaGreatDoorCards
import Derived.Test.YtlefeihfkgijoaaGreatDoorTie
import Derived.Test.YtlefeihfkgijoaaGreatDoorLaid
import Derived.Test.YtlefeihfkgijoaaGreatDoorKeepP
import Derived.Test.YtlefeihfkgijoaaGreatDoorOpen
import Derived.Test.YtlefeihfkgijoaaGreatDoorPlLawSame
import Derived.Test.YtlefeihfkgijoaaGreatDoorPlRow
import Derived.Test.YtlefeihfkgijoaaGreatDoorPlTrip
namespace Go.Proofs.YtlefeihfkgijoaaGreatDoor.lawSame
open Go.RowKit Go.Shelf

theorem ne_6 (p : Pl) : p.same ⟨p.name, p.port, p.route, p.rules ++ [Rl.zero], p.policy, p.secret, p.addrs, p.key⟩ = false ∧ Pl.same ⟨p.name, p.port, p.route, p.rules ++ [Rl.zero], p.policy, p.secret, p.addrs, p.key⟩ p = false := by
  constructor
  · simp only [Pl.same]; rw [lsEq_len (xs := p.rules) (by simp)]; simp
  · simp only [Pl.same]; rw [lsEq_len (ys := p.rules) (by simp)]; simp
abbrev adH : Ad := ⟨⟨#[104]⟩, 0, 0⟩
theorem ne_7 (p : Pl) : p.same ⟨p.name, p.port, p.route, p.rules, p.policy, p.secret, [adH] ++ p.addrs, p.key⟩ = false ∧ Pl.same ⟨p.name, p.port, p.route, p.rules, p.policy, p.secret, [adH] ++ p.addrs, p.key⟩ p = false := by
  constructor
  · simp only [Pl.same]; rw [lsEq_len (xs := p.addrs) (by simp)]; simp
  · simp only [Pl.same]; rw [lsEq_len (ys := p.addrs) (by simp)]; simp

set_option maxRecDepth 100000 in
set_option maxHeartbeats 4000000 in
theorem walk_6 (s0 s2 s5 s7 : ByteArray) (n1 n4 nn mm how : Nat) (a3 a6 : Option Addr) (l3 c3 l6 c6 : Nat) (kd : Int) (own : Bool) (b : Addr) (w : World) (hg : Gv b w) (hnn : nn < 256) (hmm : mm < 256) (hn1 : n1 < 2 ^ 64) (hn4 : n4 < 2 ^ 64) (hs7 : s7.size ≤ 140737488355328) (hr : (how : Int).tmod 8 = 6) :
    Calls Tryz.prog 8 #[.agg #[.string s0, .int .u64 (n1 : Int), .string s2, .slice a3 l3 c3, .int .u64 (n4 : Int), .string s5, .slice a6 l6 c6, .string s7, .int .i64 kd, .bool own, .int .u8 (nn : Int), .int .u8 (mm : Int)], .int .u8 (how : Int)] w fun e w' => e = .returned (.bool true) ∧ Below w.heap.size w w' := by
  have up := below_alloc w (.cells #[.string s0, .int .u64 (n1 : Int), .string s2, .slice a3 l3 c3, .int .u64 (n4 : Int), .string s5, .slice a6 l6 c6, .string s7, .int .i64 kd, .bool own, .int .u8 (nn : Int), .int .u8 (mm : Int)] 28)
  have k0 := World.alloc_heap_new w (.cells #[.string s0, .int .u64 (n1 : Int), .string s2, .slice a3 l3 c3, .int .u64 (n4 : Int), .string s5, .slice a6 l6 c6, .string s7, .int .i64 kd, .bool own, .int .u8 (nn : Int), .int .u8 (mm : Int)] 28)
  have ks := World.size_alloc w (.cells #[.string s0, .int .u64 (n1 : Int), .string s2, .slice a3 l3 c3, .int .u64 (n4 : Int), .string s5, .slice a6 l6 c6, .string s7, .int .i64 kd, .bool own, .int .u8 (nn : Int), .int .u8 (mm : Int)] 28)
  have HG := Lib.hid (hg.below up)
  have HUP := Lib.hid up
  have HK0 := Lib.hid k0
  have HKS := Lib.hid ks
  have HM := Lib.hid (And.intro hnn (And.intro hmm (And.intro hn1 (And.intro hn4 hs7))))
  have HR := Lib.hid hr
  clear hg up k0 ks hnn hmm hn1 hn4 hs7 hr
  go_enter Tryz.func8, Tryz.ntmps8
  go_wp2_with fail
  refine (examples02_any b _ HG.out).mono ?_
  rintro e w1 ⟨rfl, hb1⟩
  have hz := HKS.out
  have pb := (hb1.block w.heap.size (by omega)).trans HK0.out
  have hlt : w.heap.size < w1.heap.size := by have := hb1.size; omega
  have HB1 := Lib.hid (HUP.out.trans (hb1.mono (by omega)))
  clear hb1 hz
  have t0 : w1.cell? ⟨w.heap.size, 0, none⟩ = some (.string s0) := (Lib.cell_of_heap pb 0).trans rfl
  have t1 : w1.cell? ⟨w.heap.size, 1, none⟩ = some (.int .u64 (n1 : Int)) := (Lib.cell_of_heap pb 1).trans rfl
  have t2 : w1.cell? ⟨w.heap.size, 2, none⟩ = some (.string s2) := (Lib.cell_of_heap pb 2).trans rfl
  have t3 : w1.cell? ⟨w.heap.size, 3, none⟩ = some (.slice a3 l3 c3) := (Lib.cell_of_heap pb 3).trans rfl
  have t4 : w1.cell? ⟨w.heap.size, 4, none⟩ = some (.int .u64 (n4 : Int)) := (Lib.cell_of_heap pb 4).trans rfl
  have t5 : w1.cell? ⟨w.heap.size, 5, none⟩ = some (.string s5) := (Lib.cell_of_heap pb 5).trans rfl
  have t6 : w1.cell? ⟨w.heap.size, 6, none⟩ = some (.slice a6 l6 c6) := (Lib.cell_of_heap pb 6).trans rfl
  have t7 : w1.cell? ⟨w.heap.size, 7, none⟩ = some (.string s7) := (Lib.cell_of_heap pb 7).trans rfl
  have t8 : w1.cell? ⟨w.heap.size, 8, none⟩ = some (.int .i64 kd) := (Lib.cell_of_heap pb 8).trans rfl
  have t9 : w1.cell? ⟨w.heap.size, 9, none⟩ = some (.bool own) := (Lib.cell_of_heap pb 9).trans rfl
  have t10 : w1.cell? ⟨w.heap.size, 10, none⟩ = some (.int .u8 (nn : Int)) := (Lib.cell_of_heap pb 10).trans rfl
  have t11 : w1.cell? ⟨w.heap.size, 11, none⟩ = some (.int .u8 (mm : Int)) := (Lib.cell_of_heap pb 11).trans rfl
  have tf9 := Lib.frozen_of_heap pb 9
  clear pb
  go_wp2_with fail
  obtain ⟨kk, hm⟩ := made_any s0 s2 s5 s7 n1 n4 nn mm a3 a6 l3 c3 l6 c6 kd (w1.setCell ⟨w.heap.size, 9, none⟩ (.bool true)) HM.out.1 HM.out.2.1 HM.out.2.2.1 HM.out.2.2.2.1 HM.out.2.2.2.2
  refine hm.mono ?_
  rintro e w2 ⟨p, r3, d3, r6, d6, rfl, hok, hr3, hr6, hb2⟩
  have HB2 := Lib.hid ((HB1.out.setCell (p := ⟨w.heap.size, 9, none⟩) (Nat.le_refl _) (.bool true)).trans (hb2.mono (by simp; omega)))
  have HOK := Lib.hid hok
  have HR3 := Lib.hid hr3
  have HR6 := Lib.hid hr6
  clear hm hb2 hok hr3 hr6 t0 t1 t2 t3 t4 t5 t6 t7 t8 t9 t10 t11 tf9
  have hrr := HR.out
  have hsz := HB2.out.size
  obtain ⟨i0, hi, hz0, hz1, hz2⟩ := info_parts Tryz.infoRl
  have HLN := Lib.hid (own_len HOK.out)
  obtain ⟨k0, k1⟩ := two_at w2 (.cells #[.string p.name, .int .u64 (p.port : Int), .string p.route, .slice r3 p.rules.length d3, .int .u64 (p.policy : Int), .string p.secret, .slice r6 p.addrs.length d6, .string p.key] 26) (.cells #[.string p.name, .int .u64 (p.port : Int), .string p.route, .slice r3 p.rules.length d3, .int .u64 (p.policy : Int), .string p.secret, .slice r6 p.addrs.length d6, .string p.key] 26)
  have up2 := below_up (below_f w2 (.cells #[.string p.name, .int .u64 (p.port : Int), .string p.route, .slice r3 p.rules.length d3, .int .u64 (p.policy : Int), .string p.secret, .slice r6 p.addrs.length d6, .string p.key] 26)) (.cells #[.string p.name, .int .u64 (p.port : Int), .string p.route, .slice r3 p.rules.length d3, .int .u64 (p.policy : Int), .string p.secret, .slice r6 p.addrs.length d6, .string p.key] 26)
  have HK0' := Lib.hid k0
  have HK1' := Lib.hid k1
  have HUP2 := Lib.hid up2
  have P3 := Lib.hid (HR3.out.below up2)
  clear k0 k1 up2
  go_wp2_with (at_builtin; go_must (first
    | (refine wpList_append_row _ rfl _ _ 23 rfl (w2.heap.size + 2) 62 i0 _ 2 32 Tryz.underlying23 hi hz0 hz1 hz2 rfl (by omega) _ 0 [] rfl own_nothing r3 p.rules.length d3 (rlCells p.rules) rfl (rlCells_len _) (rl_nil P3.out) (rl_news P3.out) rl_one (by have := HLN.out; unfold maxLen; omega) (by have := HLN.out; omega) (by simp only [World.size_alloc]; omega) ?_
       intro v3 w3 hown3 hgrow3
       have hb3 := below_of_grown (B := ((w2.alloc (.cells #[.string p.name, .int .u64 (p.port : Int), .string p.route, .slice r3 p.rules.length d3, .int .u64 (p.policy : Int), .string p.secret, .slice r6 p.addrs.length d6, .string p.key] 26)).alloc (.cells #[.string p.name, .int .u64 (p.port : Int), .string p.route, .slice r3 p.rules.length d3, .int .u64 (p.policy : Int), .string p.secret, .slice r6 p.addrs.length d6, .string p.key] 26)).heap.size) hgrow3 (Nat.le_refl _) (fun k h => by cases h)
       have HBW3 := Lib.hid (HUP2.out.trans (hb3.mono HUP2.out.size))
       have HK0 := Lib.hid ((hb3.block w2.heap.size (by simp only [World.size_alloc]; omega)).trans HK0'.out)
       have HK1 := Lib.hid ((hb3.block (w2.heap.size + 1) (by simp only [World.size_alloc]; omega)).trans HK1'.out)
       have hz3 : w2.heap.size + 2 ≤ w3.heap.size := by have := hb3.size; simp only [World.size_alloc] at this; omega
       simp only [Nat.zero_add, List.nil_append] at hown3
       have HO3 := Lib.hid hown3
       clear hown3 hgrow3 hb3)
    | (refine wpList_append_own _ rfl _ _ 23 rfl (w2.heap.size + 2) 62 i0 _ 2 32 Tryz.underlying23 hi hz0 hz1 hz2 rfl (by omega) _ p.rules.length (rlCells p.rules) rfl (own_below HO3.out (below_f w3 (.cells #[.string ⟨#[]⟩, .string ⟨#[]⟩] 62))) ⟨w3.heap.size, 0, none⟩ 1 1 [.string ⟨#[]⟩, .string ⟨#[]⟩] rfl rfl (World.news_of_block (cs := #[.string ⟨#[]⟩, .string ⟨#[]⟩]) (t := 62) (fr := (0, 0)) (heap_alloc_new w3 _)) (by simp [Value.oneCell']) (by have := HLN.out; unfold maxLen; omega) (by have := HLN.out; omega) (by rw [World.size_alloc]; omega) ?_
       intro v4 w4 hown4 hgrow4 _
       have hb4 := below_of_grown (B := w2.heap.size + 2) hgrow4 (by rw [World.size_alloc]; omega) (fun k h => (HO3.out.lt k h).1)
       have hb4' := ((Below.refl (w2.heap.size + 2) w3).alloc hz3 (.cells #[.string ⟨#[]⟩, .string ⟨#[]⟩] 62)).trans hb4
       obtain ⟨r3', d3', rfl⟩ := owns_two hown4
       have hown5 : w4.ownsRow (w2.heap.size + 2) 62 2 (.slice r3' (p.rules ++ [Rl.zero]).length d3') (p.rules ++ [Rl.zero]).length (rlCells (p.rules ++ [Rl.zero])) := by
         rw [rlCells_snoc, List.length_append, List.length_singleton]; exact hown4
       have hz4 : w2.heap.size + 1 < w4.heap.size := by have := hb4'.size; omega
       have q0 := (hb4'.block w2.heap.size (by omega)).trans HK0.out
       have q1 := (hb4'.block (w2.heap.size + 1) (by omega)).trans HK1.out
       have hbw := HBW3.out.trans (hb4'.mono (by omega))
       have q1r := blk_set q1 3 (.slice r3' (p.rules.length + 1) d3')
       have t0 : w4.cell? ⟨w2.heap.size, 0, none⟩ = some (.string p.name) := (Lib.cell_of_heap q0 0).trans rfl
       have tb0 : w4.cell? ⟨w2.heap.size + 1, 0, none⟩ = some (.string p.name) := (Lib.cell_of_heap q1 0).trans rfl
       have t1 : w4.cell? ⟨w2.heap.size, 1, none⟩ = some (.int .u64 (p.port : Int)) := (Lib.cell_of_heap q0 1).trans rfl
       have tb1 : w4.cell? ⟨w2.heap.size + 1, 1, none⟩ = some (.int .u64 (p.port : Int)) := (Lib.cell_of_heap q1 1).trans rfl
       have t2 : w4.cell? ⟨w2.heap.size, 2, none⟩ = some (.string p.route) := (Lib.cell_of_heap q0 2).trans rfl
       have tb2 : w4.cell? ⟨w2.heap.size + 1, 2, none⟩ = some (.string p.route) := (Lib.cell_of_heap q1 2).trans rfl
       have t3 : w4.cell? ⟨w2.heap.size, 3, none⟩ = some (.slice r3 p.rules.length d3) := (Lib.cell_of_heap q0 3).trans rfl
       have tb3 : w4.cell? ⟨w2.heap.size + 1, 3, none⟩ = some (.slice r3 p.rules.length d3) := (Lib.cell_of_heap q1 3).trans rfl
       have t4 : w4.cell? ⟨w2.heap.size, 4, none⟩ = some (.int .u64 (p.policy : Int)) := (Lib.cell_of_heap q0 4).trans rfl
       have tb4 : w4.cell? ⟨w2.heap.size + 1, 4, none⟩ = some (.int .u64 (p.policy : Int)) := (Lib.cell_of_heap q1 4).trans rfl
       have t5 : w4.cell? ⟨w2.heap.size, 5, none⟩ = some (.string p.secret) := (Lib.cell_of_heap q0 5).trans rfl
       have tb5 : w4.cell? ⟨w2.heap.size + 1, 5, none⟩ = some (.string p.secret) := (Lib.cell_of_heap q1 5).trans rfl
       have t6 : w4.cell? ⟨w2.heap.size, 6, none⟩ = some (.slice r6 p.addrs.length d6) := (Lib.cell_of_heap q0 6).trans rfl
       have tb6 : w4.cell? ⟨w2.heap.size + 1, 6, none⟩ = some (.slice r6 p.addrs.length d6) := (Lib.cell_of_heap q1 6).trans rfl
       have t7 : w4.cell? ⟨w2.heap.size, 7, none⟩ = some (.string p.key) := (Lib.cell_of_heap q0 7).trans rfl
       have tb7 : w4.cell? ⟨w2.heap.size + 1, 7, none⟩ = some (.string p.key) := (Lib.cell_of_heap q1 7).trans rfl
       have hfB := Lib.frozen_of_heap q1 3
       have HQ0 := Lib.hid q0
       have HQ1 := Lib.hid q1r
       have HBW := Lib.hid hbw
       have HOW := Lib.hid hown5
       clear q0 q1 q1r hbw hown5 hown4 hgrow4 hb4' hsz)))
  obtain ⟨w5, hw5⟩ : ∃ w5, w4.setCell ⟨w2.heap.size + 1, 3, none⟩ (.slice r3' (p.rules.length + 1) d3') = w5 := ⟨_, rfl⟩
  rw [hw5]
  have hq0 : w5.heap[w2.heap.size]? = some (.cells #[.string p.name, .int .u64 (p.port : Int), .string p.route, .slice r3 p.rules.length d3, .int .u64 (p.policy : Int), .string p.secret, .slice r6 p.addrs.length d6, .string p.key] 26 (0, 0)) := by
    rw [← hw5, Below.heap_setCell _ _ _ _ (by show w2.heap.size ≠ w2.heap.size + 1; omega)]; exact HQ0.out
  have hq1 : w5.heap[w2.heap.size + 1]? = some (.cells #[.string p.name, .int .u64 (p.port : Int), .string p.route, .slice r3' (p.rules.length + 1) d3', .int .u64 (p.policy : Int), .string p.secret, .slice r6 p.addrs.length d6, .string p.key] 26 (0, 0)) := by
    rw [← hw5]; have h := HQ1.out; unfold Blk at h; simpa using h
  have hz5 : w2.heap.size + 1 < w5.heap.size := by rw [← hw5]; simpa [World.setCell] using hz4
  have hbw5 : Below w2.heap.size w2 w5 := by
    rw [← hw5]; exact HBW.out.setCell (p := ⟨w2.heap.size + 1, 3, none⟩) (by show w2.heap.size ≤ w2.heap.size + 1; omega) _
  have hrow5 : RulesAt w5 r3' (p.rules ++ [Rl.zero]) := by
    rw [← hw5]; exact rulesAt_row (ownsRow_setCell_below HOW.out (a := ⟨w2.heap.size + 1, 3, none⟩) (by show w2.heap.size + 1 < w2.heap.size + 2; omega) _)
  have HB3 := Lib.hid (HB2.out.trans (hbw5.mono HB2.out.size))
  have P3 := Lib.hid (HR3.out.below hbw5)
  have P6 := Lib.hid (HR6.out.below hbw5)
  have PN := Lib.hid hrow5
  have HOL := Lib.hid (own_len HOK.out)
  have HML := Lib.hid (show (4 : Nat) ≤ maxLen from of_decide_eq_true (by kernel_rfl))
  have HK0 := Lib.hid hq0
  have HK1 := Lib.hid hq1
  clear hw5 hq0 hq1 hbw5 hrow5 hrr t0 tb0 t1 tb1 t2 tb2 t3 tb3 t4 tb4 t5 tb5 t6 tb6 t7 tb7 hfB
  refine (same_any' p p r3 r6 r3 r6 d3 d6 d3 d6 _ P3.out P6.out P3.out P6.out (by have := HML.out; have := HOL.out; omega) (by have := HML.out; have := HOL.out; omega) (by have := HML.out; have := HOL.out; omega) (by have := HML.out; have := HOL.out; omega)).mono ?_
  rintro e w6 ⟨rfl, hb6⟩
  rw [Pl.same_refl]
  have q0 := (hb6.block w2.heap.size (by omega)).trans HK0.out
  have q1 := (hb6.block (w2.heap.size + 1) (by omega)).trans HK1.out
  have P3' := Lib.hid (P3.out.below hb6)
  have P6' := Lib.hid (P6.out.below hb6)
  have PN' := Lib.hid (PN.out.below hb6)
  have HB6 := Lib.hid (HB3.out.trans (hb6.mono HB3.out.size))
  have HQ0 := Lib.hid q0
  have HQ1 := Lib.hid q1
  have hz6 := hb6.size
  have u0 : w6.cell? ⟨w2.heap.size, 0, none⟩ = some (.string p.name) := (Lib.cell_of_heap q0 0).trans rfl
  have ub0 : w6.cell? ⟨w2.heap.size + 1, 0, none⟩ = some (.string p.name) := (Lib.cell_of_heap q1 0).trans rfl
  have u1 : w6.cell? ⟨w2.heap.size, 1, none⟩ = some (.int .u64 (p.port : Int)) := (Lib.cell_of_heap q0 1).trans rfl
  have ub1 : w6.cell? ⟨w2.heap.size + 1, 1, none⟩ = some (.int .u64 (p.port : Int)) := (Lib.cell_of_heap q1 1).trans rfl
  have u2 : w6.cell? ⟨w2.heap.size, 2, none⟩ = some (.string p.route) := (Lib.cell_of_heap q0 2).trans rfl
  have ub2 : w6.cell? ⟨w2.heap.size + 1, 2, none⟩ = some (.string p.route) := (Lib.cell_of_heap q1 2).trans rfl
  have u3 : w6.cell? ⟨w2.heap.size, 3, none⟩ = some (.slice r3 p.rules.length d3) := (Lib.cell_of_heap q0 3).trans rfl
  have ub3 : w6.cell? ⟨w2.heap.size + 1, 3, none⟩ = some (.slice r3' (p.rules.length + 1) d3') := (Lib.cell_of_heap q1 3).trans rfl
  have u4 : w6.cell? ⟨w2.heap.size, 4, none⟩ = some (.int .u64 (p.policy : Int)) := (Lib.cell_of_heap q0 4).trans rfl
  have ub4 : w6.cell? ⟨w2.heap.size + 1, 4, none⟩ = some (.int .u64 (p.policy : Int)) := (Lib.cell_of_heap q1 4).trans rfl
  have u5 : w6.cell? ⟨w2.heap.size, 5, none⟩ = some (.string p.secret) := (Lib.cell_of_heap q0 5).trans rfl
  have ub5 : w6.cell? ⟨w2.heap.size + 1, 5, none⟩ = some (.string p.secret) := (Lib.cell_of_heap q1 5).trans rfl
  have u6 : w6.cell? ⟨w2.heap.size, 6, none⟩ = some (.slice r6 p.addrs.length d6) := (Lib.cell_of_heap q0 6).trans rfl
  have ub6 : w6.cell? ⟨w2.heap.size + 1, 6, none⟩ = some (.slice r6 p.addrs.length d6) := (Lib.cell_of_heap q1 6).trans rfl
  have u7 : w6.cell? ⟨w2.heap.size, 7, none⟩ = some (.string p.key) := (Lib.cell_of_heap q0 7).trans rfl
  have ub7 : w6.cell? ⟨w2.heap.size + 1, 7, none⟩ = some (.string p.key) := (Lib.cell_of_heap q1 7).trans rfl
  clear hb6 q0 q1
  go_wp2_with fail
  have hh := same_any' p ⟨p.name, p.port, p.route, p.rules ++ [Rl.zero], p.policy, p.secret, p.addrs, p.key⟩ r3 r6 r3' r6 d3 d6 d3' d6 w6 P3'.out P6'.out PN'.out P6'.out (by have := HML.out; have := HOL.out; omega) (by have := HML.out; have := HOL.out; omega) (by have := HML.out; have := HOL.out; simp; omega) (by have := HML.out; have := HOL.out; simp; omega)
  rw [(ne_6 p).1] at hh
  simp only [plV, List.length_append, List.length_singleton] at hh
  refine hh.mono ?_
  clear hh
  rintro e w7 ⟨rfl, hb7⟩
  have q0 := (hb7.block w2.heap.size (by omega)).trans HQ0.out
  have q1 := (hb7.block (w2.heap.size + 1) (by omega)).trans HQ1.out
  have P3q := Lib.hid (P3'.out.below hb7)
  have P6q := Lib.hid (P6'.out.below hb7)
  have PNq := Lib.hid (PN'.out.below hb7)
  have HB7 := Lib.hid (HB6.out.trans (hb7.mono HB6.out.size))
  have v0 : w7.cell? ⟨w2.heap.size, 0, none⟩ = some (.string p.name) := (Lib.cell_of_heap q0 0).trans rfl
  have vb0 : w7.cell? ⟨w2.heap.size + 1, 0, none⟩ = some (.string p.name) := (Lib.cell_of_heap q1 0).trans rfl
  have v1 : w7.cell? ⟨w2.heap.size, 1, none⟩ = some (.int .u64 (p.port : Int)) := (Lib.cell_of_heap q0 1).trans rfl
  have vb1 : w7.cell? ⟨w2.heap.size + 1, 1, none⟩ = some (.int .u64 (p.port : Int)) := (Lib.cell_of_heap q1 1).trans rfl
  have v2 : w7.cell? ⟨w2.heap.size, 2, none⟩ = some (.string p.route) := (Lib.cell_of_heap q0 2).trans rfl
  have vb2 : w7.cell? ⟨w2.heap.size + 1, 2, none⟩ = some (.string p.route) := (Lib.cell_of_heap q1 2).trans rfl
  have v3 : w7.cell? ⟨w2.heap.size, 3, none⟩ = some (.slice r3 p.rules.length d3) := (Lib.cell_of_heap q0 3).trans rfl
  have vb3 : w7.cell? ⟨w2.heap.size + 1, 3, none⟩ = some (.slice r3' (p.rules.length + 1) d3') := (Lib.cell_of_heap q1 3).trans rfl
  have v4 : w7.cell? ⟨w2.heap.size, 4, none⟩ = some (.int .u64 (p.policy : Int)) := (Lib.cell_of_heap q0 4).trans rfl
  have vb4 : w7.cell? ⟨w2.heap.size + 1, 4, none⟩ = some (.int .u64 (p.policy : Int)) := (Lib.cell_of_heap q1 4).trans rfl
  have v5 : w7.cell? ⟨w2.heap.size, 5, none⟩ = some (.string p.secret) := (Lib.cell_of_heap q0 5).trans rfl
  have vb5 : w7.cell? ⟨w2.heap.size + 1, 5, none⟩ = some (.string p.secret) := (Lib.cell_of_heap q1 5).trans rfl
  have v6 : w7.cell? ⟨w2.heap.size, 6, none⟩ = some (.slice r6 p.addrs.length d6) := (Lib.cell_of_heap q0 6).trans rfl
  have vb6 : w7.cell? ⟨w2.heap.size + 1, 6, none⟩ = some (.slice r6 p.addrs.length d6) := (Lib.cell_of_heap q1 6).trans rfl
  have v7 : w7.cell? ⟨w2.heap.size, 7, none⟩ = some (.string p.key) := (Lib.cell_of_heap q0 7).trans rfl
  have vb7 : w7.cell? ⟨w2.heap.size + 1, 7, none⟩ = some (.string p.key) := (Lib.cell_of_heap q1 7).trans rfl
  clear hb7 q0 q1 u0 ub0 u1 ub1 u2 ub2 u3 ub3 u4 ub4 u5 ub5 u6 ub6 u7 ub7
  go_wp2_with fail
  have hh := same_any' ⟨p.name, p.port, p.route, p.rules ++ [Rl.zero], p.policy, p.secret, p.addrs, p.key⟩ p r3' r6 r3 r6 d3' d6 d3 d6 w7 PNq.out P6q.out P3q.out P6q.out (by have := HML.out; have := HOL.out; simp; omega) (by have := HML.out; have := HOL.out; simp; omega) (by have := HML.out; have := HOL.out; omega) (by have := HML.out; have := HOL.out; omega)
  rw [(ne_6 p).2] at hh
  simp only [plV, List.length_append, List.length_singleton] at hh
  refine hh.mono ?_
  clear hh
  rintro e w8 ⟨rfl, hb8⟩
  have HB8 := Lib.hid (HB7.out.trans (hb8.mono HB7.out.size))
  clear hb8 v0 vb0 v1 vb1 v2 vb2 v3 vb3 v4 vb4 v5 vb5 v6 vb6 v7 vb7
  go_wp2_with fail
  go_ret
  exact ⟨rfl, HB8.out⟩

set_option maxRecDepth 100000 in
set_option maxHeartbeats 4000000 in
theorem walk_7 (s0 s2 s5 s7 : ByteArray) (n1 n4 nn mm how : Nat) (a3 a6 : Option Addr) (l3 c3 l6 c6 : Nat) (kd : Int) (own : Bool) (b : Addr) (w : World) (hg : Gv b w) (hnn : nn < 256) (hmm : mm < 256) (hn1 : n1 < 2 ^ 64) (hn4 : n4 < 2 ^ 64) (hs7 : s7.size ≤ 140737488355328) (hr : (how : Int).tmod 8 = 7) :
    Calls Tryz.prog 8 #[.agg #[.string s0, .int .u64 (n1 : Int), .string s2, .slice a3 l3 c3, .int .u64 (n4 : Int), .string s5, .slice a6 l6 c6, .string s7, .int .i64 kd, .bool own, .int .u8 (nn : Int), .int .u8 (mm : Int)], .int .u8 (how : Int)] w fun e w' => e = .returned (.bool true) ∧ Below w.heap.size w w' := by
  have up := below_alloc w (.cells #[.string s0, .int .u64 (n1 : Int), .string s2, .slice a3 l3 c3, .int .u64 (n4 : Int), .string s5, .slice a6 l6 c6, .string s7, .int .i64 kd, .bool own, .int .u8 (nn : Int), .int .u8 (mm : Int)] 28)
  have k0 := World.alloc_heap_new w (.cells #[.string s0, .int .u64 (n1 : Int), .string s2, .slice a3 l3 c3, .int .u64 (n4 : Int), .string s5, .slice a6 l6 c6, .string s7, .int .i64 kd, .bool own, .int .u8 (nn : Int), .int .u8 (mm : Int)] 28)
  have ks := World.size_alloc w (.cells #[.string s0, .int .u64 (n1 : Int), .string s2, .slice a3 l3 c3, .int .u64 (n4 : Int), .string s5, .slice a6 l6 c6, .string s7, .int .i64 kd, .bool own, .int .u8 (nn : Int), .int .u8 (mm : Int)] 28)
  have HG := Lib.hid (hg.below up)
  have HUP := Lib.hid up
  have HK0 := Lib.hid k0
  have HKS := Lib.hid ks
  have HM := Lib.hid (And.intro hnn (And.intro hmm (And.intro hn1 (And.intro hn4 hs7))))
  have HR := Lib.hid hr
  clear hg up k0 ks hnn hmm hn1 hn4 hs7 hr
  go_enter Tryz.func8, Tryz.ntmps8
  go_wp2_with fail
  refine (examples02_any b _ HG.out).mono ?_
  rintro e w1 ⟨rfl, hb1⟩
  have hz := HKS.out
  have pb := (hb1.block w.heap.size (by omega)).trans HK0.out
  have hlt : w.heap.size < w1.heap.size := by have := hb1.size; omega
  have HB1 := Lib.hid (HUP.out.trans (hb1.mono (by omega)))
  clear hb1 hz
  have t0 : w1.cell? ⟨w.heap.size, 0, none⟩ = some (.string s0) := (Lib.cell_of_heap pb 0).trans rfl
  have t1 : w1.cell? ⟨w.heap.size, 1, none⟩ = some (.int .u64 (n1 : Int)) := (Lib.cell_of_heap pb 1).trans rfl
  have t2 : w1.cell? ⟨w.heap.size, 2, none⟩ = some (.string s2) := (Lib.cell_of_heap pb 2).trans rfl
  have t3 : w1.cell? ⟨w.heap.size, 3, none⟩ = some (.slice a3 l3 c3) := (Lib.cell_of_heap pb 3).trans rfl
  have t4 : w1.cell? ⟨w.heap.size, 4, none⟩ = some (.int .u64 (n4 : Int)) := (Lib.cell_of_heap pb 4).trans rfl
  have t5 : w1.cell? ⟨w.heap.size, 5, none⟩ = some (.string s5) := (Lib.cell_of_heap pb 5).trans rfl
  have t6 : w1.cell? ⟨w.heap.size, 6, none⟩ = some (.slice a6 l6 c6) := (Lib.cell_of_heap pb 6).trans rfl
  have t7 : w1.cell? ⟨w.heap.size, 7, none⟩ = some (.string s7) := (Lib.cell_of_heap pb 7).trans rfl
  have t8 : w1.cell? ⟨w.heap.size, 8, none⟩ = some (.int .i64 kd) := (Lib.cell_of_heap pb 8).trans rfl
  have t9 : w1.cell? ⟨w.heap.size, 9, none⟩ = some (.bool own) := (Lib.cell_of_heap pb 9).trans rfl
  have t10 : w1.cell? ⟨w.heap.size, 10, none⟩ = some (.int .u8 (nn : Int)) := (Lib.cell_of_heap pb 10).trans rfl
  have t11 : w1.cell? ⟨w.heap.size, 11, none⟩ = some (.int .u8 (mm : Int)) := (Lib.cell_of_heap pb 11).trans rfl
  have tf9 := Lib.frozen_of_heap pb 9
  clear pb
  go_wp2_with fail
  obtain ⟨kk, hm⟩ := made_any s0 s2 s5 s7 n1 n4 nn mm a3 a6 l3 c3 l6 c6 kd (w1.setCell ⟨w.heap.size, 9, none⟩ (.bool true)) HM.out.1 HM.out.2.1 HM.out.2.2.1 HM.out.2.2.2.1 HM.out.2.2.2.2
  refine hm.mono ?_
  rintro e w2 ⟨p, r3, d3, r6, d6, rfl, hok, hr3, hr6, hb2⟩
  have HB2 := Lib.hid ((HB1.out.setCell (p := ⟨w.heap.size, 9, none⟩) (Nat.le_refl _) (.bool true)).trans (hb2.mono (by simp; omega)))
  have HOK := Lib.hid hok
  have HR3 := Lib.hid hr3
  have HR6 := Lib.hid hr6
  clear hm hb2 hok hr3 hr6 t0 t1 t2 t3 t4 t5 t6 t7 t8 t9 t10 t11 tf9
  have hrr := HR.out
  have hsz := HB2.out.size
  obtain ⟨i0, hi, hz0, hz1, hz2⟩ := info_parts Tryz.infoAd
  have HLN := Lib.hid (own_len HOK.out)
  obtain ⟨k0, k1⟩ := two_at w2 (.cells #[.string p.name, .int .u64 (p.port : Int), .string p.route, .slice r3 p.rules.length d3, .int .u64 (p.policy : Int), .string p.secret, .slice r6 p.addrs.length d6, .string p.key] 26) (.cells #[.string p.name, .int .u64 (p.port : Int), .string p.route, .slice r3 p.rules.length d3, .int .u64 (p.policy : Int), .string p.secret, .slice r6 p.addrs.length d6, .string p.key] 26)
  have up2 := below_up (below_f w2 (.cells #[.string p.name, .int .u64 (p.port : Int), .string p.route, .slice r3 p.rules.length d3, .int .u64 (p.policy : Int), .string p.secret, .slice r6 p.addrs.length d6, .string p.key] 26)) (.cells #[.string p.name, .int .u64 (p.port : Int), .string p.route, .slice r3 p.rules.length d3, .int .u64 (p.policy : Int), .string p.secret, .slice r6 p.addrs.length d6, .string p.key] 26)
  have up3 := below_up up2 (.cells #[.string ⟨#[104]⟩, .int .u64 0, .int .u64 0] 65)
  have hX := World.alloc_heap_new ((w2.alloc (.cells #[.string p.name, .int .u64 (p.port : Int), .string p.route, .slice r3 p.rules.length d3, .int .u64 (p.policy : Int), .string p.secret, .slice r6 p.addrs.length d6, .string p.key] 26)).alloc (.cells #[.string p.name, .int .u64 (p.port : Int), .string p.route, .slice r3 p.rules.length d3, .int .u64 (p.policy : Int), .string p.secret, .slice r6 p.addrs.length d6, .string p.key] 26)) (.cells #[.string ⟨#[104]⟩, .int .u64 0, .int .u64 0] 65)
  simp only [World.size_alloc] at hX
  have hb0 := below_f ((w2.alloc (.cells #[.string p.name, .int .u64 (p.port : Int), .string p.route, .slice r3 p.rules.length d3, .int .u64 (p.policy : Int), .string p.secret, .slice r6 p.addrs.length d6, .string p.key] 26)).alloc (.cells #[.string p.name, .int .u64 (p.port : Int), .string p.route, .slice r3 p.rules.length d3, .int .u64 (p.policy : Int), .string p.secret, .slice r6 p.addrs.length d6, .string p.key] 26)) (.cells #[.string ⟨#[104]⟩, .int .u64 0, .int .u64 0] 65)
  have HX := Lib.hid (own_block (base := w2.heap.size + 2) (size := 3) (n := 1) (cap := 1) (xs := [.string ⟨#[104]⟩, .int .u64 0, .int .u64 0]) (Nat.le_refl _) hX rfl rfl rfl (by decide))
  have HK0' := Lib.hid ((hb0.block w2.heap.size (by simp only [World.size_alloc]; omega)).trans k0)
  have HK1' := Lib.hid ((hb0.block (w2.heap.size + 1) (by simp only [World.size_alloc]; omega)).trans k1)
  have HUP2 := Lib.hid up3
  have P6 := Lib.hid (HR6.out.below up3)
  clear k0 k1 up2 up3 hX hb0
  go_wp2_with (at_builtin; go_must (first
    | (refine wpList_append_row _ rfl _ _ 24 rfl (w2.heap.size + 2) 65 i0 _ 3 32 Tryz.underlying24 hi hz0 hz1 hz2 rfl (by omega) _ 1 _ rfl HX.out r6 p.addrs.length d6 (adCells p.addrs) rfl (adCells_len _) (ad_nil P6.out) (ad_news P6.out) ad_one (by have := HLN.out; unfold maxLen; omega) (by have := HLN.out; omega) (by simp only [World.size_alloc]; omega) ?_
       intro v4 w4 hown4 hgrow4
       have hb4' := below_of_grown (B := w2.heap.size + 2) hgrow4 (by simp only [World.size_alloc]; omega) (fun k h => (HX.out.lt k h).1)
       obtain ⟨r6', d6', rfl⟩ := owns_two hown4
       have hown5 : w4.ownsRow (w2.heap.size + 2) 65 3 (.slice r6' ([adH] ++ p.addrs).length d6') ([adH] ++ p.addrs).length (adCells ([adH] ++ p.addrs)) := by
         rw [List.length_append, List.length_singleton]; exact hown4
       have hz4 : w2.heap.size + 1 < w4.heap.size := by have := hb4'.size; simp only [World.size_alloc] at this; omega
       have q0 := (hb4'.block w2.heap.size (by omega)).trans HK0'.out
       have q1 := (hb4'.block (w2.heap.size + 1) (by omega)).trans HK1'.out
       have hbw := HUP2.out.trans (hb4'.mono (by omega))
       have q1r := blk_set q1 6 (.slice r6' (1 + p.addrs.length) d6')
       have t0 : w4.cell? ⟨w2.heap.size, 0, none⟩ = some (.string p.name) := (Lib.cell_of_heap q0 0).trans rfl
       have tb0 : w4.cell? ⟨w2.heap.size + 1, 0, none⟩ = some (.string p.name) := (Lib.cell_of_heap q1 0).trans rfl
       have t1 : w4.cell? ⟨w2.heap.size, 1, none⟩ = some (.int .u64 (p.port : Int)) := (Lib.cell_of_heap q0 1).trans rfl
       have tb1 : w4.cell? ⟨w2.heap.size + 1, 1, none⟩ = some (.int .u64 (p.port : Int)) := (Lib.cell_of_heap q1 1).trans rfl
       have t2 : w4.cell? ⟨w2.heap.size, 2, none⟩ = some (.string p.route) := (Lib.cell_of_heap q0 2).trans rfl
       have tb2 : w4.cell? ⟨w2.heap.size + 1, 2, none⟩ = some (.string p.route) := (Lib.cell_of_heap q1 2).trans rfl
       have t3 : w4.cell? ⟨w2.heap.size, 3, none⟩ = some (.slice r3 p.rules.length d3) := (Lib.cell_of_heap q0 3).trans rfl
       have tb3 : w4.cell? ⟨w2.heap.size + 1, 3, none⟩ = some (.slice r3 p.rules.length d3) := (Lib.cell_of_heap q1 3).trans rfl
       have t4 : w4.cell? ⟨w2.heap.size, 4, none⟩ = some (.int .u64 (p.policy : Int)) := (Lib.cell_of_heap q0 4).trans rfl
       have tb4 : w4.cell? ⟨w2.heap.size + 1, 4, none⟩ = some (.int .u64 (p.policy : Int)) := (Lib.cell_of_heap q1 4).trans rfl
       have t5 : w4.cell? ⟨w2.heap.size, 5, none⟩ = some (.string p.secret) := (Lib.cell_of_heap q0 5).trans rfl
       have tb5 : w4.cell? ⟨w2.heap.size + 1, 5, none⟩ = some (.string p.secret) := (Lib.cell_of_heap q1 5).trans rfl
       have t6 : w4.cell? ⟨w2.heap.size, 6, none⟩ = some (.slice r6 p.addrs.length d6) := (Lib.cell_of_heap q0 6).trans rfl
       have tb6 : w4.cell? ⟨w2.heap.size + 1, 6, none⟩ = some (.slice r6 p.addrs.length d6) := (Lib.cell_of_heap q1 6).trans rfl
       have t7 : w4.cell? ⟨w2.heap.size, 7, none⟩ = some (.string p.key) := (Lib.cell_of_heap q0 7).trans rfl
       have tb7 : w4.cell? ⟨w2.heap.size + 1, 7, none⟩ = some (.string p.key) := (Lib.cell_of_heap q1 7).trans rfl
       have hfB := Lib.frozen_of_heap q1 6
       have HQ0 := Lib.hid q0
       have HQ1 := Lib.hid q1r
       have HBW := Lib.hid hbw
       have HOW := Lib.hid hown5
       clear q0 q1 q1r hbw hown5 hown4 hgrow4 hb4' hsz)))
  obtain ⟨w5, hw5⟩ : ∃ w5, w4.setCell ⟨w2.heap.size + 1, 6, none⟩ (.slice r6' (1 + p.addrs.length) d6') = w5 := ⟨_, rfl⟩
  rw [hw5]
  have hq0 : w5.heap[w2.heap.size]? = some (.cells #[.string p.name, .int .u64 (p.port : Int), .string p.route, .slice r3 p.rules.length d3, .int .u64 (p.policy : Int), .string p.secret, .slice r6 p.addrs.length d6, .string p.key] 26 (0, 0)) := by
    rw [← hw5, Below.heap_setCell _ _ _ _ (by show w2.heap.size ≠ w2.heap.size + 1; omega)]; exact HQ0.out
  have hq1 : w5.heap[w2.heap.size + 1]? = some (.cells #[.string p.name, .int .u64 (p.port : Int), .string p.route, .slice r3 p.rules.length d3, .int .u64 (p.policy : Int), .string p.secret, .slice r6' (1 + p.addrs.length) d6', .string p.key] 26 (0, 0)) := by
    rw [← hw5]; have h := HQ1.out; unfold Blk at h; simpa using h
  have hz5 : w2.heap.size + 1 < w5.heap.size := by rw [← hw5]; simpa [World.setCell] using hz4
  have hbw5 : Below w2.heap.size w2 w5 := by
    rw [← hw5]; exact HBW.out.setCell (p := ⟨w2.heap.size + 1, 6, none⟩) (by show w2.heap.size ≤ w2.heap.size + 1; omega) _
  have hrow5 : AddrsAt w5 r6' ([adH] ++ p.addrs) := by
    rw [← hw5]; exact addrsAt_row (ownsRow_setCell_below HOW.out (a := ⟨w2.heap.size + 1, 6, none⟩) (by show w2.heap.size + 1 < w2.heap.size + 2; omega) _)
  have HB3 := Lib.hid (HB2.out.trans (hbw5.mono HB2.out.size))
  have P3 := Lib.hid (HR3.out.below hbw5)
  have P6 := Lib.hid (HR6.out.below hbw5)
  have PN := Lib.hid hrow5
  have HOL := Lib.hid (own_len HOK.out)
  have HML := Lib.hid (show (4 : Nat) ≤ maxLen from of_decide_eq_true (by kernel_rfl))
  have HK0 := Lib.hid hq0
  have HK1 := Lib.hid hq1
  clear hw5 hq0 hq1 hbw5 hrow5 hrr t0 tb0 t1 tb1 t2 tb2 t3 tb3 t4 tb4 t5 tb5 t6 tb6 t7 tb7 hfB
  refine (same_any' p p r3 r6 r3 r6 d3 d6 d3 d6 _ P3.out P6.out P3.out P6.out (by have := HML.out; have := HOL.out; omega) (by have := HML.out; have := HOL.out; omega) (by have := HML.out; have := HOL.out; omega) (by have := HML.out; have := HOL.out; omega)).mono ?_
  rintro e w6 ⟨rfl, hb6⟩
  rw [Pl.same_refl]
  have q0 := (hb6.block w2.heap.size (by omega)).trans HK0.out
  have q1 := (hb6.block (w2.heap.size + 1) (by omega)).trans HK1.out
  have P3' := Lib.hid (P3.out.below hb6)
  have P6' := Lib.hid (P6.out.below hb6)
  have PN' := Lib.hid (PN.out.below hb6)
  have HB6 := Lib.hid (HB3.out.trans (hb6.mono HB3.out.size))
  have HQ0 := Lib.hid q0
  have HQ1 := Lib.hid q1
  have hz6 := hb6.size
  have u0 : w6.cell? ⟨w2.heap.size, 0, none⟩ = some (.string p.name) := (Lib.cell_of_heap q0 0).trans rfl
  have ub0 : w6.cell? ⟨w2.heap.size + 1, 0, none⟩ = some (.string p.name) := (Lib.cell_of_heap q1 0).trans rfl
  have u1 : w6.cell? ⟨w2.heap.size, 1, none⟩ = some (.int .u64 (p.port : Int)) := (Lib.cell_of_heap q0 1).trans rfl
  have ub1 : w6.cell? ⟨w2.heap.size + 1, 1, none⟩ = some (.int .u64 (p.port : Int)) := (Lib.cell_of_heap q1 1).trans rfl
  have u2 : w6.cell? ⟨w2.heap.size, 2, none⟩ = some (.string p.route) := (Lib.cell_of_heap q0 2).trans rfl
  have ub2 : w6.cell? ⟨w2.heap.size + 1, 2, none⟩ = some (.string p.route) := (Lib.cell_of_heap q1 2).trans rfl
  have u3 : w6.cell? ⟨w2.heap.size, 3, none⟩ = some (.slice r3 p.rules.length d3) := (Lib.cell_of_heap q0 3).trans rfl
  have ub3 : w6.cell? ⟨w2.heap.size + 1, 3, none⟩ = some (.slice r3 p.rules.length d3) := (Lib.cell_of_heap q1 3).trans rfl
  have u4 : w6.cell? ⟨w2.heap.size, 4, none⟩ = some (.int .u64 (p.policy : Int)) := (Lib.cell_of_heap q0 4).trans rfl
  have ub4 : w6.cell? ⟨w2.heap.size + 1, 4, none⟩ = some (.int .u64 (p.policy : Int)) := (Lib.cell_of_heap q1 4).trans rfl
  have u5 : w6.cell? ⟨w2.heap.size, 5, none⟩ = some (.string p.secret) := (Lib.cell_of_heap q0 5).trans rfl
  have ub5 : w6.cell? ⟨w2.heap.size + 1, 5, none⟩ = some (.string p.secret) := (Lib.cell_of_heap q1 5).trans rfl
  have u6 : w6.cell? ⟨w2.heap.size, 6, none⟩ = some (.slice r6 p.addrs.length d6) := (Lib.cell_of_heap q0 6).trans rfl
  have ub6 : w6.cell? ⟨w2.heap.size + 1, 6, none⟩ = some (.slice r6' (1 + p.addrs.length) d6') := (Lib.cell_of_heap q1 6).trans rfl
  have u7 : w6.cell? ⟨w2.heap.size, 7, none⟩ = some (.string p.key) := (Lib.cell_of_heap q0 7).trans rfl
  have ub7 : w6.cell? ⟨w2.heap.size + 1, 7, none⟩ = some (.string p.key) := (Lib.cell_of_heap q1 7).trans rfl
  clear hb6 q0 q1
  go_wp2_with fail
  have hh := same_any' p ⟨p.name, p.port, p.route, p.rules, p.policy, p.secret, [adH] ++ p.addrs, p.key⟩ r3 r6 r3 r6' d3 d6 d3 d6' w6 P3'.out P6'.out P3'.out PN'.out (by have := HML.out; have := HOL.out; omega) (by have := HML.out; have := HOL.out; omega) (by have := HML.out; have := HOL.out; simp; omega) (by have := HML.out; have := HOL.out; simp; omega)
  rw [(ne_7 p).1] at hh
  simp only [plV, List.length_append, List.length_singleton] at hh
  refine hh.mono ?_
  clear hh
  rintro e w7 ⟨rfl, hb7⟩
  have q0 := (hb7.block w2.heap.size (by omega)).trans HQ0.out
  have q1 := (hb7.block (w2.heap.size + 1) (by omega)).trans HQ1.out
  have P3q := Lib.hid (P3'.out.below hb7)
  have P6q := Lib.hid (P6'.out.below hb7)
  have PNq := Lib.hid (PN'.out.below hb7)
  have HB7 := Lib.hid (HB6.out.trans (hb7.mono HB6.out.size))
  have v0 : w7.cell? ⟨w2.heap.size, 0, none⟩ = some (.string p.name) := (Lib.cell_of_heap q0 0).trans rfl
  have vb0 : w7.cell? ⟨w2.heap.size + 1, 0, none⟩ = some (.string p.name) := (Lib.cell_of_heap q1 0).trans rfl
  have v1 : w7.cell? ⟨w2.heap.size, 1, none⟩ = some (.int .u64 (p.port : Int)) := (Lib.cell_of_heap q0 1).trans rfl
  have vb1 : w7.cell? ⟨w2.heap.size + 1, 1, none⟩ = some (.int .u64 (p.port : Int)) := (Lib.cell_of_heap q1 1).trans rfl
  have v2 : w7.cell? ⟨w2.heap.size, 2, none⟩ = some (.string p.route) := (Lib.cell_of_heap q0 2).trans rfl
  have vb2 : w7.cell? ⟨w2.heap.size + 1, 2, none⟩ = some (.string p.route) := (Lib.cell_of_heap q1 2).trans rfl
  have v3 : w7.cell? ⟨w2.heap.size, 3, none⟩ = some (.slice r3 p.rules.length d3) := (Lib.cell_of_heap q0 3).trans rfl
  have vb3 : w7.cell? ⟨w2.heap.size + 1, 3, none⟩ = some (.slice r3 p.rules.length d3) := (Lib.cell_of_heap q1 3).trans rfl
  have v4 : w7.cell? ⟨w2.heap.size, 4, none⟩ = some (.int .u64 (p.policy : Int)) := (Lib.cell_of_heap q0 4).trans rfl
  have vb4 : w7.cell? ⟨w2.heap.size + 1, 4, none⟩ = some (.int .u64 (p.policy : Int)) := (Lib.cell_of_heap q1 4).trans rfl
  have v5 : w7.cell? ⟨w2.heap.size, 5, none⟩ = some (.string p.secret) := (Lib.cell_of_heap q0 5).trans rfl
  have vb5 : w7.cell? ⟨w2.heap.size + 1, 5, none⟩ = some (.string p.secret) := (Lib.cell_of_heap q1 5).trans rfl
  have v6 : w7.cell? ⟨w2.heap.size, 6, none⟩ = some (.slice r6 p.addrs.length d6) := (Lib.cell_of_heap q0 6).trans rfl
  have vb6 : w7.cell? ⟨w2.heap.size + 1, 6, none⟩ = some (.slice r6' (1 + p.addrs.length) d6') := (Lib.cell_of_heap q1 6).trans rfl
  have v7 : w7.cell? ⟨w2.heap.size, 7, none⟩ = some (.string p.key) := (Lib.cell_of_heap q0 7).trans rfl
  have vb7 : w7.cell? ⟨w2.heap.size + 1, 7, none⟩ = some (.string p.key) := (Lib.cell_of_heap q1 7).trans rfl
  clear hb7 q0 q1 u0 ub0 u1 ub1 u2 ub2 u3 ub3 u4 ub4 u5 ub5 u6 ub6 u7 ub7
  go_wp2_with fail
  have hh := same_any' ⟨p.name, p.port, p.route, p.rules, p.policy, p.secret, [adH] ++ p.addrs, p.key⟩ p r3 r6' r3 r6 d3 d6' d3 d6 w7 P3q.out PNq.out P3q.out P6q.out (by have := HML.out; have := HOL.out; simp; omega) (by have := HML.out; have := HOL.out; simp; omega) (by have := HML.out; have := HOL.out; omega) (by have := HML.out; have := HOL.out; omega)
  rw [(ne_7 p).2] at hh
  simp only [plV, List.length_append, List.length_singleton] at hh
  refine hh.mono ?_
  clear hh
  rintro e w8 ⟨rfl, hb8⟩
  have HB8 := Lib.hid (HB7.out.trans (hb8.mono HB7.out.size))
  clear hb8 v0 vb0 v1 vb1 v2 vb2 v3 vb3 v4 vb4 v5 vb5 v6 vb6 v7 vb7
  go_wp2_with fail
  go_ret
  exact ⟨rfl, HB8.out⟩
end Go.Proofs.YtlefeihfkgijoaaGreatDoor.lawSame

namespace Go.Proofs.YtlefeihfkgijoaaGreatDoor.lawSame
open Go.ChangeShapes Go.WideShapes Go.ChangeAt Go.RowKit
open Go.WideMaps Go.WideElems
open Go.ChangeMaps (open_string shut_string)

theorem walk (s0 s2 s5 s7 : ByteArray) (n1 n4 nn mm how : Nat) (a3 a6 : Option Addr) (l3 c3 l6 c6 : Nat) (kd : Int) (own : Bool) (b : Addr) (w : World) (hg : Gv b w) (hnn : nn < 256) (hmm : mm < 256) (hn1 : n1 < 2 ^ 64) (hn4 : n4 < 2 ^ 64) (hs7 : s7.size ≤ 140737488355328) (_hh : how < 256) :
    Calls Tryz.prog 8 #[.agg #[.string s0, .int .u64 (n1 : Int), .string s2, .slice a3 l3 c3, .int .u64 (n4 : Int), .string s5, .slice a6 l6 c6, .string s7, .int .i64 kd, .bool own, .int .u8 (nn : Int), .int .u8 (mm : Int)], .int .u8 (how : Int)] w fun e w' => e = .returned (.bool true) ∧ Below w.heap.size w w' := by
  have hr : (how : Int).tmod 8 = 0 ∨ (how : Int).tmod 8 = 1 ∨ (how : Int).tmod 8 = 2 ∨ (how : Int).tmod 8 = 3 ∨ (how : Int).tmod 8 = 4 ∨ (how : Int).tmod 8 = 5 ∨ (how : Int).tmod 8 = 6 ∨ (how : Int).tmod 8 = 7 := by
    rw [Int.tmod_eq_emod_of_nonneg (by omega)]; omega
  rcases hr with h | h | h | h | h | h | h | h
  · exact walk_0 s0 s2 s5 s7 n1 n4 nn mm how a3 a6 l3 c3 l6 c6 kd own b w hg hnn hmm hn1 hn4 hs7 h
  · exact walk_1 s0 s2 s5 s7 n1 n4 nn mm how a3 a6 l3 c3 l6 c6 kd own b w hg hnn hmm hn1 hn4 hs7 h
  · exact walk_2 s0 s2 s5 s7 n1 n4 nn mm how a3 a6 l3 c3 l6 c6 kd own b w hg hnn hmm hn1 hn4 hs7 h
  · exact walk_3 s0 s2 s5 s7 n1 n4 nn mm how a3 a6 l3 c3 l6 c6 kd own b w hg hnn hmm hn1 hn4 hs7 h
  · exact walk_4 s0 s2 s5 s7 n1 n4 nn mm how a3 a6 l3 c3 l6 c6 kd own b w hg hnn hmm hn1 hn4 hs7 h
  · exact walk_5 s0 s2 s5 s7 n1 n4 nn mm how a3 a6 l3 c3 l6 c6 kd own b w hg hnn hmm hn1 hn4 hs7 h
  · exact walk_6 s0 s2 s5 s7 n1 n4 nn mm how a3 a6 l3 c3 l6 c6 kd own b w hg hnn hmm hn1 hn4 hs7 h
  · exact walk_7 s0 s2 s5 s7 n1 n4 nn mm how a3 a6 l3 c3 l6 c6 kd own b w hg hnn hmm hn1 hn4 hs7 h

set_option maxRecDepth 100000 in
theorem contract (H : Type) (enc : TypeId × Value → H) (W : World) (base : Nat) (args : Array Value) (ds gs : List (DataW H)) (before : List MemPlace) (hk' : Rows.uptoSmall H (ds ++ gs) = true)
    (hval : ∀ (j : Nat) t v, Tryz.f8.params[j]? = some t → args[j]? = some v → Value.okWide Tryz.prog W .any base t v)
    (hW : DataW.Whole enc Tryz.prog Tryz.f8.params.toList Rows.payloadSameSpec.vars false W args.toList ds gs before) (hL : laidMetH Tryz.prog Rows.payloadSameUptoRow.laid W) :
    Calls Tryz.prog 8 args W fun e W' => ∃ v, e = .returned v ∧ Rows.payloadSameSpec.post enc Tryz.prog Tryz.f8 false true false false W args v W' := by
  have hW' := hW
  obtain ⟨p, q, hA0, hV, rfl, hfz, hnd⟩ := hW
  have hA : DataW.TrodAll enc Tryz.prog W 0 (fun _ => true) true Tryz.f8.params.toList args.toList ds p := hA0
  have HK := Lib.hid (fun (W' : World) (hb : Below W.heap.size W W') (sp : Nat → Bool) (hs : ∀ x ∈ p, sp x.block = true) => trodAll_keep (sp := sp) Tryz.kids Tryz.sliceCells hb (by rw [Tryz.params8]; decide +kernel) hA hs)
  clear hA0
  rw [Tryz.params8] at hA hval
  obtain ⟨v0, vs0, d0, ds0, p0, q0, hargs, rfl, rfl, h0, r0⟩ := trodAll_cons hA
  obtain ⟨v1, vs1, d1, ds1, p1, q1, rfl, rfl, rfl, h1, r1⟩ := trodAll_cons r0
  obtain ⟨rfl, rfl, rfl⟩ := trodAll_nil r1
  obtain rfl : args = #[v0, v1] := Array.ext' hargs
  obtain ⟨rfl, rfl⟩ := trodVars_none hV
  simp only [List.append_nil] at hW' HK
  obtain ⟨b, hg⟩ := gv_of_laid hL
  obtain ⟨s0, s2, s5, s7, m1, m4, nn, mm, a3, a6, l3, c3, l6, c6, kd, own, rfl, hnn, hmm, hm1, hm4, hs7, y0, y1, y2, y3, y4, y5, y6, z1, z2, z3, z4, hd0⟩ := open_made (hval 0 28 v0 rfl rfl) h0
  subst hd0
  obtain ⟨x1, rfl, rfl, rfl, wx1⟩ := open_int Tryz.underlying5 (hval 1 5 v1 rfl rfl) h1
  have bx1 := bounds_u8 wx1
  obtain ⟨n1, rfl⟩ := Int.eq_ofNat_of_zero_le bx1.1
  have hbk := of_decide_eq_true hk'
  simp only [List.append_nil, Rows.uptoBulkAll, Rows.uptoBulk] at hbk
  have hl7 : s7.data.toList.length = s7.size := by simp
  refine (walk s0 s2 s5 s7 m1 m4 nn mm n1 a3 a6 l3 c3 l6 c6 kd own b W hg hnn hmm hm1 hm4 (by omega) (by omega)).mono fun e W' ⟨he, hb⟩ => ?_
  subst he
  exact ⟨_, rfl, post_of_below (pv := []) hW' (fun _ _ _ => trodAll_cons_mk (shut_bool Tryz.underlying4 _) trodAll_mk0) (fun sp hs => HK.out W' hb sp hs) (fun _ _ => rfl) (List.append_nil _).symm
    hb (ok_one (by kernel_rfl) rfl (okWide_bool_mk Tryz.underlying4 _))⟩

theorem reads (os : Os) {H : Type} (enc : TypeId × Value → H) : ∃ places, DataW.whole enc Tryz.prog ((laidWorld os).forCall (fun _ _ => 0) ⟨#[], #[.agg #[.string ⟨#[]⟩, .int .u64 0, .string ⟨#[]⟩, .slice none 0 0, .int .u64 0, .string ⟨#[]⟩, .slice none 0 0, .string ⟨#[]⟩, .int .i64 0, .bool false, .int .u8 0, .int .u8 0], .int .u8 0], []⟩).memory Tryz.f8.params.toList Rows.payloadSameSpec.vars false (#[.agg #[.string ⟨#[]⟩, .int .u64 0, .string ⟨#[]⟩, .slice none 0 0, .int .u64 0, .string ⟨#[]⟩, .slice none 0 0, .string ⟨#[]⟩, .int .i64 0, .bool false, .int .u8 0, .int .u8 0], .int .u8 0] : Array Value).toList 8 = some ([.agg [.agg [.lit (.string []), .lit (.int .u64 0), .lit (.string []), .nil, .lit (.int .u64 0), .lit (.string []), .nil, .lit (.string [])], .lit (.int .i64 0), .lit (.bool false), .lit (.int .u8 0), .lit (.int .u8 0)], .lit (.int .u8 0)], [], places) :=
  ⟨[], by kernel_rfl⟩

set_option maxRecDepth 100000 in
theorem lifted (os : Os) (started : os.Started) (H : Type) (enc : TypeId × Value → H) (F : Stop.Interp) :
    ReturnsInHanded {} Tryz.checked os 8 .any ((Rows.OpenSpec.upto Rows.payloadSameSpec).preRow enc Tryz.prog Tryz.f8 Rows.payloadSameUptoRow.domain false Rows.payloadSameUptoRow.laid) (((Rows.OpenSpec.upto Rows.payloadSameSpec).at F).post enc Tryz.prog Tryz.f8 false true false false) := by
  obtain ⟨places, hx⟩ := reads os enc
  refine returnsInHanded_of_row (C := Tryz.checked) (s := (Rows.OpenSpec.upto Rows.payloadSameSpec)) Tryz.own started (by kernel_rfl) Tryz.func8
    (witness_row_at (enc := enc) (C := Tryz.checked) false (laidWorld os) #[.agg #[.string ⟨#[]⟩, .int .u64 0, .string ⟨#[]⟩, .slice none 0 0, .int .u64 0, .string ⟨#[]⟩, .slice none 0 0, .string ⟨#[]⟩, .int .i64 0, .bool false, .int .u8 0, .int .u8 0], .int .u8 0] rfl (by kernel_rfl) (by kernel_rfl) (by kernel_rfl)
      (OpenSpec.preRow_of_cond 8 hx (by kernel_rfl) (fun k hk => by cases hk; kernel_rfl) (by kernel_rfl) (laid_met os _))) ?_
  intro W base args ds gs before hval hW _ hcond _ hL _ _
  exact contract H enc W base args ds gs before (hcond _ rfl) hval hW hL

theorem said : Rows.PayloadSameUptoSaid :=
  OpenClaim.holds_of_cond 8 Tryz.f8 rfl rfl rfl rfl rfl rfl rfl ⟨rfl, rfl, rfl, rfl, rfl⟩ rfl rfl rfl rfl rfl (by kernel_rfl) Tryz.func8 (by kernel_rfl)
    (of_decide_eq_true (by kernel_rfl)) (by unfold Func.isWrapper; first | (rw [if_pos (by decide +kernel)]; kernel_rfl) | (rw [if_neg (by decide +kernel)]; exact ⟨rfl, rfl⟩))
    (fun os started H enc _ F => by rw [OpenClaim.pre_eq_preRow]; exact lifted os started H enc F)

theorem plain (f : FuncId) (fn : Func) (hf : Tryz.pinned.checked.prog.funcNamed "noria/norialaw02.PayloadSame" = some f) (hfn : Tryz.pinned.checked.prog.funcs[f]? = some fn) :
    true = Tryz.pinned.checked.prog.looks [] ∧ ∀ (j : Nat) t, fn.params[j]? = some t → Tryz.pinned.checked.prog.wantsStandIn t = false := by
  obtain rfl : f = 8 := Option.some.inj ((show Tryz.prog.funcNamed "noria/norialaw02.PayloadSame" = some 8 by kernel_rfl).symm.trans hf) |>.symm
  obtain rfl : fn = Tryz.f8 := (Option.some.inj (Tryz.func8.symm.trans hfn)).symm
  refine ⟨by kernel_rfl, fun j t ht => ?_⟩
  rw [Tryz.params8] at ht
  have hm := Array.mem_of_getElem? ht
  simp only [List.mem_toArray, List.mem_cons, List.not_mem_nil, or_false] at hm
  rcases hm with rfl | rfl
  · exact (show Tryz.prog.wantsStandIn 28 = false by kernel_rfl)
  · exact (show Tryz.prog.wantsStandIn 5 = false by kernel_rfl)

theorem card : Rows.PayloadSameUptoCardSaid :=
  Claim7.holds_tied_plain_at .later [] _ _ _ _ said (fun _ h => by cases h) (by kernel_rfl) (fun _ h => by cases h) payloadSameUpto_row_tie rfl ⟨rfl, rfl⟩ (by kernel_rfl) rfl plain (by kernel_rfl)
end Go.Proofs.YtlefeihfkgijoaaGreatDoor.lawSame
