/- payload: PayloadSame: the walks (written by tools/lawsame_gen.py). -/
import Derived.Test.YtlefeihfkgijoaaGreatDoorPlOpen
import Derived.Test.YtlefeihfkgijoaaGreatDoorPlSame
import Derived.Test.YtlefeihfkgijoaaGreatDoorPlEx
import Derived.Laws.Strings
namespace Go.Proofs.YtlefeihfkgijoaaGreatDoor.lawSame
open Go.RowKit Go.Shelf

theorem more_ne (s : ByteArray) : s.toList ≠ (s ++ (⟨#[120]⟩ : ByteArray)).toList := by
  intro h
  rw [ByteArray.toList_eq, ByteArray.toList_eq] at h
  have h2 := congrArg List.length h
  simp at h2
theorem ne_0 (p : Pl) : p.same ⟨p.name ++ ⟨#[120]⟩, p.port, p.route, p.rules, p.policy, p.secret, p.addrs, p.key⟩ = false ∧ Pl.same ⟨p.name ++ ⟨#[120]⟩, p.port, p.route, p.rules, p.policy, p.secret, p.addrs, p.key⟩ p = false := by
  constructor
  · have h : (p.name.toList == (p.name ++ ⟨#[120]⟩).toList) = false := by simpa using more_ne p.name
    simp only [Pl.same]; rw [h]; simp
  · have h : ((p.name ++ ⟨#[120]⟩).toList == p.name.toList) = false := by simpa using (more_ne p.name).symm
    simp only [Pl.same]; rw [h]; simp
theorem ne_1 (p : Pl) (N1 : Nat) (hN : p.port + 1 = N1) : p.same ⟨p.name, N1, p.route, p.rules, p.policy, p.secret, p.addrs, p.key⟩ = false ∧ Pl.same ⟨p.name, N1, p.route, p.rules, p.policy, p.secret, p.addrs, p.key⟩ p = false := by
  constructor
  · have h : ((p.port : Int) == (N1 : Int)) = false := by simp; omega
    simp only [Pl.same]; rw [h]; simp
  · have h : ((N1 : Int) == (p.port : Int)) = false := by simp; omega
    simp only [Pl.same]; rw [h]; simp
theorem ne_2 (p : Pl) : p.same ⟨p.name, p.port, p.route ++ ⟨#[120]⟩, p.rules, p.policy, p.secret, p.addrs, p.key⟩ = false ∧ Pl.same ⟨p.name, p.port, p.route ++ ⟨#[120]⟩, p.rules, p.policy, p.secret, p.addrs, p.key⟩ p = false := by
  constructor
  · have h : (p.route.toList == (p.route ++ ⟨#[120]⟩).toList) = false := by simpa using more_ne p.route
    simp only [Pl.same]; rw [h]; simp
  · have h : ((p.route ++ ⟨#[120]⟩).toList == p.route.toList) = false := by simpa using (more_ne p.route).symm
    simp only [Pl.same]; rw [h]; simp
theorem ne_3 (p : Pl) (N1 : Nat) (hN : p.policy + 1 = N1) : p.same ⟨p.name, p.port, p.route, p.rules, N1, p.secret, p.addrs, p.key⟩ = false ∧ Pl.same ⟨p.name, p.port, p.route, p.rules, N1, p.secret, p.addrs, p.key⟩ p = false := by
  constructor
  · have h : ((p.policy : Int) == (N1 : Int)) = false := by simp; omega
    simp only [Pl.same]; rw [h]; simp
  · have h : ((N1 : Int) == (p.policy : Int)) = false := by simp; omega
    simp only [Pl.same]; rw [h]; simp
theorem ne_4 (p : Pl) : p.same ⟨p.name, p.port, p.route, p.rules, p.policy, p.secret ++ ⟨#[120]⟩, p.addrs, p.key⟩ = false ∧ Pl.same ⟨p.name, p.port, p.route, p.rules, p.policy, p.secret ++ ⟨#[120]⟩, p.addrs, p.key⟩ p = false := by
  constructor
  · have h : (p.secret.toList == (p.secret ++ ⟨#[120]⟩).toList) = false := by simpa using more_ne p.secret
    simp only [Pl.same]; rw [h]; simp
  · have h : ((p.secret ++ ⟨#[120]⟩).toList == p.secret.toList) = false := by simpa using (more_ne p.secret).symm
    simp only [Pl.same]; rw [h]; simp
theorem ne_5 (p : Pl) : p.same ⟨p.name, p.port, p.route, p.rules, p.policy, p.secret, p.addrs, p.key ++ ⟨#[120]⟩⟩ = false ∧ Pl.same ⟨p.name, p.port, p.route, p.rules, p.policy, p.secret, p.addrs, p.key ++ ⟨#[120]⟩⟩ p = false := by
  constructor
  · have h : (p.key.toList == (p.key ++ ⟨#[120]⟩).toList) = false := by simpa using more_ne p.key
    simp only [Pl.same]; rw [h]; simp
  · have h : ((p.key ++ ⟨#[120]⟩).toList == p.key.toList) = false := by simpa using (more_ne p.key).symm
    simp only [Pl.same]; rw [h]; simp
theorem ok_len {k : Int} {p : Pl} (h : OwnOk k p) : p.rules.length ≤ maxLen ∧ p.addrs.length ≤ maxLen := by
  have h1 := h.rules
  have h2 := h.addrs
  have hm : (3 : Nat) ≤ maxLen := of_decide_eq_true (by kernel_rfl)
  constructor
  · split at h1
    · omega
    · rw [h1]; simp
  · split at h2
    · omega
    · rw [h2]; simp

set_option maxRecDepth 100000 in
set_option maxHeartbeats 4000000 in
theorem walk_0 (s0 s2 s5 s7 : ByteArray) (n1 n4 nn mm how : Nat) (a3 a6 : Option Addr) (l3 c3 l6 c6 : Nat) (kd : Int) (own : Bool) (b : Addr) (w : World) (hg : Gv b w) (hnn : nn < 256) (hmm : mm < 256) (hn1 : n1 < 2 ^ 64) (hn4 : n4 < 2 ^ 64) (hs7 : s7.size ≤ 140737488355328) (hr : (how : Int).tmod 8 = 0) :
    Calls Tryz.prog 8 #[.agg #[.string s0, .int .u64 (n1 : Int), .string s2, .slice a3 l3 c3, .int .u64 (n4 : Int), .string s5, .slice a6 l6 c6, .string s7, .int .i64 kd, .bool own, .int .u8 (nn : Int), .int .u8 (mm : Int)], .int .u8 (how : Int)] w fun e w' => e = .returned (.bool true) ∧ Below w.heap.size w w' := by
  have up := below_alloc w (.cells #[.string s0, .int .u64 (n1 : Int), .string s2, .slice a3 l3 c3, .int .u64 (n4 : Int), .string s5, .slice a6 l6 c6, .string s7, .int .i64 kd, .bool own, .int .u8 (nn : Int), .int .u8 (mm : Int)] 28)
  have k0 := World.alloc_heap_new w (.cells #[.string s0, .int .u64 (n1 : Int), .string s2, .slice a3 l3 c3, .int .u64 (n4 : Int), .string s5, .slice a6 l6 c6, .string s7, .int .i64 kd, .bool own, .int .u8 (nn : Int), .int .u8 (mm : Int)] 28)
  have ks := World.size_alloc w (.cells #[.string s0, .int .u64 (n1 : Int), .string s2, .slice a3 l3 c3, .int .u64 (n4 : Int), .string s5, .slice a6 l6 c6, .string s7, .int .i64 kd, .bool own, .int .u8 (nn : Int), .int .u8 (mm : Int)] 28)
  have HG := Lib.hid (hg.below up)
  have HUP := Lib.hid up
  have HK0 := Lib.hid k0
  have HKS := Lib.hid ks
  have HM := Lib.hid (And.intro hnn (And.intro hmm (And.intro hn1 (And.intro hn4 hs7))))
  have HR := Lib.hid hr
  clear hg up k0 ks hnn hmm hn1 hn4 hs7 hr
  go_enter Tryz.func8, Tryz.ntmps8
  go_wp2_with fail
  refine (examples02_any b _ HG.out).mono ?_
  rintro e w1 ⟨rfl, hb1⟩
  have hz := HKS.out
  have pb := (hb1.block w.heap.size (by omega)).trans HK0.out
  have hlt : w.heap.size < w1.heap.size := by have := hb1.size; omega
  have HB1 := Lib.hid (HUP.out.trans (hb1.mono (by omega)))
  clear hb1 hz
  have t0 : w1.cell? ⟨w.heap.size, 0, none⟩ = some (.string s0) := (Lib.cell_of_heap pb 0).trans rfl
  have t1 : w1.cell? ⟨w.heap.size, 1, none⟩ = some (.int .u64 (n1 : Int)) := (Lib.cell_of_heap pb 1).trans rfl
  have t2 : w1.cell? ⟨w.heap.size, 2, none⟩ = some (.string s2) := (Lib.cell_of_heap pb 2).trans rfl
  have t3 : w1.cell? ⟨w.heap.size, 3, none⟩ = some (.slice a3 l3 c3) := (Lib.cell_of_heap pb 3).trans rfl
  have t4 : w1.cell? ⟨w.heap.size, 4, none⟩ = some (.int .u64 (n4 : Int)) := (Lib.cell_of_heap pb 4).trans rfl
  have t5 : w1.cell? ⟨w.heap.size, 5, none⟩ = some (.string s5) := (Lib.cell_of_heap pb 5).trans rfl
  have t6 : w1.cell? ⟨w.heap.size, 6, none⟩ = some (.slice a6 l6 c6) := (Lib.cell_of_heap pb 6).trans rfl
  have t7 : w1.cell? ⟨w.heap.size, 7, none⟩ = some (.string s7) := (Lib.cell_of_heap pb 7).trans rfl
  have t8 : w1.cell? ⟨w.heap.size, 8, none⟩ = some (.int .i64 kd) := (Lib.cell_of_heap pb 8).trans rfl
  have t9 : w1.cell? ⟨w.heap.size, 9, none⟩ = some (.bool own) := (Lib.cell_of_heap pb 9).trans rfl
  have t10 : w1.cell? ⟨w.heap.size, 10, none⟩ = some (.int .u8 (nn : Int)) := (Lib.cell_of_heap pb 10).trans rfl
  have t11 : w1.cell? ⟨w.heap.size, 11, none⟩ = some (.int .u8 (mm : Int)) := (Lib.cell_of_heap pb 11).trans rfl
  have tf9 := Lib.frozen_of_heap pb 9
  clear pb
  go_wp2_with fail
  obtain ⟨kk, hm⟩ := made_any s0 s2 s5 s7 n1 n4 nn mm a3 a6 l3 c3 l6 c6 kd (w1.setCell ⟨w.heap.size, 9, none⟩ (.bool true)) HM.out.1 HM.out.2.1 HM.out.2.2.1 HM.out.2.2.2.1 HM.out.2.2.2.2
  refine hm.mono ?_
  rintro e w2 ⟨p, r3, d3, r6, d6, rfl, hok, hr3, hr6, hb2⟩
  have HB2 := Lib.hid ((HB1.out.setCell (p := ⟨w.heap.size, 9, none⟩) (Nat.le_refl _) (.bool true)).trans (hb2.mono (by simp; omega)))
  have HOK := Lib.hid hok
  have HR3 := Lib.hid hr3
  have HR6 := Lib.hid hr6
  clear hm hb2 hok hr3 hr6 t0 t1 t2 t3 t4 t5 t6 t7 t8 t9 t10 t11 tf9
  have hrr := HR.out
  have hns : ¬ 9223372036854775807 < p.name.size + 1 := by have := HOK.out.name; omega
  go_wp2_with fail
  obtain ⟨k0, k1⟩ := two_at w2 (.cells #[.string p.name, .int .u64 (p.port : Int), .string p.route, .slice r3 p.rules.length d3, .int .u64 (p.policy : Int), .string p.secret, .slice r6 p.addrs.length d6, .string p.key] 26) (.cells #[.string (p.name ++ ⟨#[120]⟩), .int .u64 (p.port : Int), .string p.route, .slice r3 p.rules.length d3, .int .u64 (p.policy : Int), .string p.secret, .slice r6 p.addrs.length d6, .string p.key] 26)
  have hsz := HB2.out.size
  have up2 := below_up (below_f w2 (.cells #[.string p.name, .int .u64 (p.port : Int), .string p.route, .slice r3 p.rules.length d3, .int .u64 (p.policy : Int), .string p.secret, .slice r6 p.addrs.length d6, .string p.key] 26)) (.cells #[.string (p.name ++ ⟨#[120]⟩), .int .u64 (p.port : Int), .string p.route, .slice r3 p.rules.length d3, .int .u64 (p.policy : Int), .string p.secret, .slice r6 p.addrs.length d6, .string p.key] 26)
  obtain ⟨w3, hw3⟩ : ∃ w3, (w2.alloc (.cells #[.string p.name, .int .u64 (p.port : Int), .string p.route, .slice r3 p.rules.length d3, .int .u64 (p.policy : Int), .string p.secret, .slice r6 p.addrs.length d6, .string p.key] 26)).alloc (.cells #[.string (p.name ++ ⟨#[120]⟩), .int .u64 (p.port : Int), .string p.route, .slice r3 p.rules.length d3, .int .u64 (p.policy : Int), .string p.secret, .slice r6 p.addrs.length d6, .string p.key] 26) = w3 := ⟨_, rfl⟩
  have hz3 : w3.heap.size = w2.heap.size + 2 := by rw [← hw3, World.size_alloc, World.size_alloc]
  rw [hw3]
  rw [hw3] at k0 k1 up2
  have HB3 := Lib.hid (HB2.out.trans (up2.mono hsz))
  have P3 := Lib.hid (HR3.out.below up2)
  have P6 := Lib.hid (HR6.out.below up2)
  have HOL := Lib.hid (ok_len HOK.out)
  have HK0' := Lib.hid k0
  have HK1' := Lib.hid k1
  have hz3' := hz3
  clear hw3 up2 k0 k1 hrr hns
  refine (same_any' p p r3 r6 r3 r6 d3 d6 d3 d6 _ P3.out P6.out P3.out P6.out HOL.out.1 HOL.out.2 HOL.out.1 HOL.out.2).mono ?_
  rintro e w4 ⟨rfl, hb4⟩
  rw [Pl.same_refl]
  have q0 := (hb4.block w2.heap.size (by omega)).trans HK0'.out
  have q1 := (hb4.block (w2.heap.size + 1) (by omega)).trans HK1'.out
  have P3' := Lib.hid (P3.out.below hb4)
  have P6' := Lib.hid (P6.out.below hb4)
  have HB4 := Lib.hid (HB3.out.trans (hb4.mono HB3.out.size))
  have HQ0 := Lib.hid q0
  have HQ1 := Lib.hid q1
  have hz4 := hb4.size
  have u0 : w4.cell? ⟨w2.heap.size, 0, none⟩ = some (.string p.name) := (Lib.cell_of_heap q0 0).trans rfl
  have ub0 : w4.cell? ⟨w2.heap.size + 1, 0, none⟩ = some (.string (p.name ++ ⟨#[120]⟩)) := (Lib.cell_of_heap q1 0).trans rfl
  have u1 : w4.cell? ⟨w2.heap.size, 1, none⟩ = some (.int .u64 (p.port : Int)) := (Lib.cell_of_heap q0 1).trans rfl
  have ub1 : w4.cell? ⟨w2.heap.size + 1, 1, none⟩ = some (.int .u64 (p.port : Int)) := (Lib.cell_of_heap q1 1).trans rfl
  have u2 : w4.cell? ⟨w2.heap.size, 2, none⟩ = some (.string p.route) := (Lib.cell_of_heap q0 2).trans rfl
  have ub2 : w4.cell? ⟨w2.heap.size + 1, 2, none⟩ = some (.string p.route) := (Lib.cell_of_heap q1 2).trans rfl
  have u3 : w4.cell? ⟨w2.heap.size, 3, none⟩ = some (.slice r3 p.rules.length d3) := (Lib.cell_of_heap q0 3).trans rfl
  have ub3 : w4.cell? ⟨w2.heap.size + 1, 3, none⟩ = some (.slice r3 p.rules.length d3) := (Lib.cell_of_heap q1 3).trans rfl
  have u4 : w4.cell? ⟨w2.heap.size, 4, none⟩ = some (.int .u64 (p.policy : Int)) := (Lib.cell_of_heap q0 4).trans rfl
  have ub4 : w4.cell? ⟨w2.heap.size + 1, 4, none⟩ = some (.int .u64 (p.policy : Int)) := (Lib.cell_of_heap q1 4).trans rfl
  have u5 : w4.cell? ⟨w2.heap.size, 5, none⟩ = some (.string p.secret) := (Lib.cell_of_heap q0 5).trans rfl
  have ub5 : w4.cell? ⟨w2.heap.size + 1, 5, none⟩ = some (.string p.secret) := (Lib.cell_of_heap q1 5).trans rfl
  have u6 : w4.cell? ⟨w2.heap.size, 6, none⟩ = some (.slice r6 p.addrs.length d6) := (Lib.cell_of_heap q0 6).trans rfl
  have ub6 : w4.cell? ⟨w2.heap.size + 1, 6, none⟩ = some (.slice r6 p.addrs.length d6) := (Lib.cell_of_heap q1 6).trans rfl
  have u7 : w4.cell? ⟨w2.heap.size, 7, none⟩ = some (.string p.key) := (Lib.cell_of_heap q0 7).trans rfl
  have ub7 : w4.cell? ⟨w2.heap.size + 1, 7, none⟩ = some (.string p.key) := (Lib.cell_of_heap q1 7).trans rfl
  clear hb4 q0 q1
  go_wp2_with fail
  have hh := same_any' p ⟨p.name ++ ⟨#[120]⟩, p.port, p.route, p.rules, p.policy, p.secret, p.addrs, p.key⟩ r3 r6 r3 r6 d3 d6 d3 d6 w4 P3'.out P6'.out P3'.out P6'.out HOL.out.1 HOL.out.2 HOL.out.1 HOL.out.2
  rw [(ne_0 p).1] at hh
  refine hh.mono ?_
  clear hh
  rintro e w5 ⟨rfl, hb5⟩
  have q0 := (hb5.block w2.heap.size (by omega)).trans HQ0.out
  have q1 := (hb5.block (w2.heap.size + 1) (by omega)).trans HQ1.out
  have P3q := Lib.hid (P3'.out.below hb5)
  have P6q := Lib.hid (P6'.out.below hb5)
  have HB5 := Lib.hid (HB4.out.trans (hb5.mono HB4.out.size))
  have v0 : w5.cell? ⟨w2.heap.size, 0, none⟩ = some (.string p.name) := (Lib.cell_of_heap q0 0).trans rfl
  have vb0 : w5.cell? ⟨w2.heap.size + 1, 0, none⟩ = some (.string (p.name ++ ⟨#[120]⟩)) := (Lib.cell_of_heap q1 0).trans rfl
  have v1 : w5.cell? ⟨w2.heap.size, 1, none⟩ = some (.int .u64 (p.port : Int)) := (Lib.cell_of_heap q0 1).trans rfl
  have vb1 : w5.cell? ⟨w2.heap.size + 1, 1, none⟩ = some (.int .u64 (p.port : Int)) := (Lib.cell_of_heap q1 1).trans rfl
  have v2 : w5.cell? ⟨w2.heap.size, 2, none⟩ = some (.string p.route) := (Lib.cell_of_heap q0 2).trans rfl
  have vb2 : w5.cell? ⟨w2.heap.size + 1, 2, none⟩ = some (.string p.route) := (Lib.cell_of_heap q1 2).trans rfl
  have v3 : w5.cell? ⟨w2.heap.size, 3, none⟩ = some (.slice r3 p.rules.length d3) := (Lib.cell_of_heap q0 3).trans rfl
  have vb3 : w5.cell? ⟨w2.heap.size + 1, 3, none⟩ = some (.slice r3 p.rules.length d3) := (Lib.cell_of_heap q1 3).trans rfl
  have v4 : w5.cell? ⟨w2.heap.size, 4, none⟩ = some (.int .u64 (p.policy : Int)) := (Lib.cell_of_heap q0 4).trans rfl
  have vb4 : w5.cell? ⟨w2.heap.size + 1, 4, none⟩ = some (.int .u64 (p.policy : Int)) := (Lib.cell_of_heap q1 4).trans rfl
  have v5 : w5.cell? ⟨w2.heap.size, 5, none⟩ = some (.string p.secret) := (Lib.cell_of_heap q0 5).trans rfl
  have vb5 : w5.cell? ⟨w2.heap.size + 1, 5, none⟩ = some (.string p.secret) := (Lib.cell_of_heap q1 5).trans rfl
  have v6 : w5.cell? ⟨w2.heap.size, 6, none⟩ = some (.slice r6 p.addrs.length d6) := (Lib.cell_of_heap q0 6).trans rfl
  have vb6 : w5.cell? ⟨w2.heap.size + 1, 6, none⟩ = some (.slice r6 p.addrs.length d6) := (Lib.cell_of_heap q1 6).trans rfl
  have v7 : w5.cell? ⟨w2.heap.size, 7, none⟩ = some (.string p.key) := (Lib.cell_of_heap q0 7).trans rfl
  have vb7 : w5.cell? ⟨w2.heap.size + 1, 7, none⟩ = some (.string p.key) := (Lib.cell_of_heap q1 7).trans rfl
  clear hb5 q0 q1 u0 ub0 u1 ub1 u2 ub2 u3 ub3 u4 ub4 u5 ub5 u6 ub6 u7 ub7
  go_wp2_with fail
  have hh := same_any' ⟨p.name ++ ⟨#[120]⟩, p.port, p.route, p.rules, p.policy, p.secret, p.addrs, p.key⟩ p r3 r6 r3 r6 d3 d6 d3 d6 w5 P3q.out P6q.out P3q.out P6q.out HOL.out.1 HOL.out.2 HOL.out.1 HOL.out.2
  rw [(ne_0 p).2] at hh
  refine hh.mono ?_
  clear hh
  rintro e w6 ⟨rfl, hb6⟩
  have HB6 := Lib.hid (HB5.out.trans (hb6.mono HB5.out.size))
  clear hb6 v0 vb0 v1 vb1 v2 vb2 v3 vb3 v4 vb4 v5 vb5 v6 vb6 v7 vb7
  go_wp2_with fail
  go_ret
  exact ⟨rfl, HB6.out⟩

set_option maxRecDepth 100000 in
set_option maxHeartbeats 4000000 in
theorem walk_1 (s0 s2 s5 s7 : ByteArray) (n1 n4 nn mm how : Nat) (a3 a6 : Option Addr) (l3 c3 l6 c6 : Nat) (kd : Int) (own : Bool) (b : Addr) (w : World) (hg : Gv b w) (hnn : nn < 256) (hmm : mm < 256) (hn1 : n1 < 2 ^ 64) (hn4 : n4 < 2 ^ 64) (hs7 : s7.size ≤ 140737488355328) (hr : (how : Int).tmod 8 = 1) :
    Calls Tryz.prog 8 #[.agg #[.string s0, .int .u64 (n1 : Int), .string s2, .slice a3 l3 c3, .int .u64 (n4 : Int), .string s5, .slice a6 l6 c6, .string s7, .int .i64 kd, .bool own, .int .u8 (nn : Int), .int .u8 (mm : Int)], .int .u8 (how : Int)] w fun e w' => e = .returned (.bool true) ∧ Below w.heap.size w w' := by
  have up := below_alloc w (.cells #[.string s0, .int .u64 (n1 : Int), .string s2, .slice a3 l3 c3, .int .u64 (n4 : Int), .string s5, .slice a6 l6 c6, .string s7, .int .i64 kd, .bool own, .int .u8 (nn : Int), .int .u8 (mm : Int)] 28)
  have k0 := World.alloc_heap_new w (.cells #[.string s0, .int .u64 (n1 : Int), .string s2, .slice a3 l3 c3, .int .u64 (n4 : Int), .string s5, .slice a6 l6 c6, .string s7, .int .i64 kd, .bool own, .int .u8 (nn : Int), .int .u8 (mm : Int)] 28)
  have ks := World.size_alloc w (.cells #[.string s0, .int .u64 (n1 : Int), .string s2, .slice a3 l3 c3, .int .u64 (n4 : Int), .string s5, .slice a6 l6 c6, .string s7, .int .i64 kd, .bool own, .int .u8 (nn : Int), .int .u8 (mm : Int)] 28)
  have HG := Lib.hid (hg.below up)
  have HUP := Lib.hid up
  have HK0 := Lib.hid k0
  have HKS := Lib.hid ks
  have HM := Lib.hid (And.intro hnn (And.intro hmm (And.intro hn1 (And.intro hn4 hs7))))
  have HR := Lib.hid hr
  clear hg up k0 ks hnn hmm hn1 hn4 hs7 hr
  go_enter Tryz.func8, Tryz.ntmps8
  go_wp2_with fail
  refine (examples02_any b _ HG.out).mono ?_
  rintro e w1 ⟨rfl, hb1⟩
  have hz := HKS.out
  have pb := (hb1.block w.heap.size (by omega)).trans HK0.out
  have hlt : w.heap.size < w1.heap.size := by have := hb1.size; omega
  have HB1 := Lib.hid (HUP.out.trans (hb1.mono (by omega)))
  clear hb1 hz
  have t0 : w1.cell? ⟨w.heap.size, 0, none⟩ = some (.string s0) := (Lib.cell_of_heap pb 0).trans rfl
  have t1 : w1.cell? ⟨w.heap.size, 1, none⟩ = some (.int .u64 (n1 : Int)) := (Lib.cell_of_heap pb 1).trans rfl
  have t2 : w1.cell? ⟨w.heap.size, 2, none⟩ = some (.string s2) := (Lib.cell_of_heap pb 2).trans rfl
  have t3 : w1.cell? ⟨w.heap.size, 3, none⟩ = some (.slice a3 l3 c3) := (Lib.cell_of_heap pb 3).trans rfl
  have t4 : w1.cell? ⟨w.heap.size, 4, none⟩ = some (.int .u64 (n4 : Int)) := (Lib.cell_of_heap pb 4).trans rfl
  have t5 : w1.cell? ⟨w.heap.size, 5, none⟩ = some (.string s5) := (Lib.cell_of_heap pb 5).trans rfl
  have t6 : w1.cell? ⟨w.heap.size, 6, none⟩ = some (.slice a6 l6 c6) := (Lib.cell_of_heap pb 6).trans rfl
  have t7 : w1.cell? ⟨w.heap.size, 7, none⟩ = some (.string s7) := (Lib.cell_of_heap pb 7).trans rfl
  have t8 : w1.cell? ⟨w.heap.size, 8, none⟩ = some (.int .i64 kd) := (Lib.cell_of_heap pb 8).trans rfl
  have t9 : w1.cell? ⟨w.heap.size, 9, none⟩ = some (.bool own) := (Lib.cell_of_heap pb 9).trans rfl
  have t10 : w1.cell? ⟨w.heap.size, 10, none⟩ = some (.int .u8 (nn : Int)) := (Lib.cell_of_heap pb 10).trans rfl
  have t11 : w1.cell? ⟨w.heap.size, 11, none⟩ = some (.int .u8 (mm : Int)) := (Lib.cell_of_heap pb 11).trans rfl
  have tf9 := Lib.frozen_of_heap pb 9
  clear pb
  go_wp2_with fail
  obtain ⟨kk, hm⟩ := made_any s0 s2 s5 s7 n1 n4 nn mm a3 a6 l3 c3 l6 c6 kd (w1.setCell ⟨w.heap.size, 9, none⟩ (.bool true)) HM.out.1 HM.out.2.1 HM.out.2.2.1 HM.out.2.2.2.1 HM.out.2.2.2.2
  refine hm.mono ?_
  rintro e w2 ⟨p, r3, d3, r6, d6, rfl, hok, hr3, hr6, hb2⟩
  have HB2 := Lib.hid ((HB1.out.setCell (p := ⟨w.heap.size, 9, none⟩) (Nat.le_refl _) (.bool true)).trans (hb2.mono (by simp; omega)))
  have HOK := Lib.hid hok
  have HR3 := Lib.hid hr3
  have HR6 := Lib.hid hr6
  clear hm hb2 hok hr3 hr6 t0 t1 t2 t3 t4 t5 t6 t7 t8 t9 t10 t11 tf9
  have hrr := HR.out
  obtain ⟨N1, hN1⟩ : ∃ N1, p.port + 1 = N1 := ⟨_, rfl⟩
  have hns : IntKind.u64.wrap ((p.port : Int) + 1) = (N1 : Int) := by
    subst hN1
    have := HOK.out.port
    have hx : p.port ≤ 65535 := by split at this <;> omega
    simp only [IntKind.wrap, IntKind.signed, IntKind.bits]
    simp
    omega
  go_wp2_with fail
  obtain ⟨k0, k1⟩ := two_at w2 (.cells #[.string p.name, .int .u64 (p.port : Int), .string p.route, .slice r3 p.rules.length d3, .int .u64 (p.policy : Int), .string p.secret, .slice r6 p.addrs.length d6, .string p.key] 26) (.cells #[.string p.name, .int .u64 (N1 : Int), .string p.route, .slice r3 p.rules.length d3, .int .u64 (p.policy : Int), .string p.secret, .slice r6 p.addrs.length d6, .string p.key] 26)
  have hsz := HB2.out.size
  have up2 := below_up (below_f w2 (.cells #[.string p.name, .int .u64 (p.port : Int), .string p.route, .slice r3 p.rules.length d3, .int .u64 (p.policy : Int), .string p.secret, .slice r6 p.addrs.length d6, .string p.key] 26)) (.cells #[.string p.name, .int .u64 (N1 : Int), .string p.route, .slice r3 p.rules.length d3, .int .u64 (p.policy : Int), .string p.secret, .slice r6 p.addrs.length d6, .string p.key] 26)
  obtain ⟨w3, hw3⟩ : ∃ w3, (w2.alloc (.cells #[.string p.name, .int .u64 (p.port : Int), .string p.route, .slice r3 p.rules.length d3, .int .u64 (p.policy : Int), .string p.secret, .slice r6 p.addrs.length d6, .string p.key] 26)).alloc (.cells #[.string p.name, .int .u64 (N1 : Int), .string p.route, .slice r3 p.rules.length d3, .int .u64 (p.policy : Int), .string p.secret, .slice r6 p.addrs.length d6, .string p.key] 26) = w3 := ⟨_, rfl⟩
  have hz3 : w3.heap.size = w2.heap.size + 2 := by rw [← hw3, World.size_alloc, World.size_alloc]
  rw [hw3]
  rw [hw3] at k0 k1 up2
  have HB3 := Lib.hid (HB2.out.trans (up2.mono hsz))
  have P3 := Lib.hid (HR3.out.below up2)
  have P6 := Lib.hid (HR6.out.below up2)
  have HOL := Lib.hid (ok_len HOK.out)
  have HK0' := Lib.hid k0
  have HK1' := Lib.hid k1
  have hz3' := hz3
  clear hw3 up2 k0 k1 hrr hns
  refine (same_any' p p r3 r6 r3 r6 d3 d6 d3 d6 _ P3.out P6.out P3.out P6.out HOL.out.1 HOL.out.2 HOL.out.1 HOL.out.2).mono ?_
  rintro e w4 ⟨rfl, hb4⟩
  rw [Pl.same_refl]
  have q0 := (hb4.block w2.heap.size (by omega)).trans HK0'.out
  have q1 := (hb4.block (w2.heap.size + 1) (by omega)).trans HK1'.out
  have P3' := Lib.hid (P3.out.below hb4)
  have P6' := Lib.hid (P6.out.below hb4)
  have HB4 := Lib.hid (HB3.out.trans (hb4.mono HB3.out.size))
  have HQ0 := Lib.hid q0
  have HQ1 := Lib.hid q1
  have hz4 := hb4.size
  have u0 : w4.cell? ⟨w2.heap.size, 0, none⟩ = some (.string p.name) := (Lib.cell_of_heap q0 0).trans rfl
  have ub0 : w4.cell? ⟨w2.heap.size + 1, 0, none⟩ = some (.string p.name) := (Lib.cell_of_heap q1 0).trans rfl
  have u1 : w4.cell? ⟨w2.heap.size, 1, none⟩ = some (.int .u64 (p.port : Int)) := (Lib.cell_of_heap q0 1).trans rfl
  have ub1 : w4.cell? ⟨w2.heap.size + 1, 1, none⟩ = some (.int .u64 (N1 : Int)) := (Lib.cell_of_heap q1 1).trans rfl
  have u2 : w4.cell? ⟨w2.heap.size, 2, none⟩ = some (.string p.route) := (Lib.cell_of_heap q0 2).trans rfl
  have ub2 : w4.cell? ⟨w2.heap.size + 1, 2, none⟩ = some (.string p.route) := (Lib.cell_of_heap q1 2).trans rfl
  have u3 : w4.cell? ⟨w2.heap.size, 3, none⟩ = some (.slice r3 p.rules.length d3) := (Lib.cell_of_heap q0 3).trans rfl
  have ub3 : w4.cell? ⟨w2.heap.size + 1, 3, none⟩ = some (.slice r3 p.rules.length d3) := (Lib.cell_of_heap q1 3).trans rfl
  have u4 : w4.cell? ⟨w2.heap.size, 4, none⟩ = some (.int .u64 (p.policy : Int)) := (Lib.cell_of_heap q0 4).trans rfl
  have ub4 : w4.cell? ⟨w2.heap.size + 1, 4, none⟩ = some (.int .u64 (p.policy : Int)) := (Lib.cell_of_heap q1 4).trans rfl
  have u5 : w4.cell? ⟨w2.heap.size, 5, none⟩ = some (.string p.secret) := (Lib.cell_of_heap q0 5).trans rfl
  have ub5 : w4.cell? ⟨w2.heap.size + 1, 5, none⟩ = some (.string p.secret) := (Lib.cell_of_heap q1 5).trans rfl
  have u6 : w4.cell? ⟨w2.heap.size, 6, none⟩ = some (.slice r6 p.addrs.length d6) := (Lib.cell_of_heap q0 6).trans rfl
  have ub6 : w4.cell? ⟨w2.heap.size + 1, 6, none⟩ = some (.slice r6 p.addrs.length d6) := (Lib.cell_of_heap q1 6).trans rfl
  have u7 : w4.cell? ⟨w2.heap.size, 7, none⟩ = some (.string p.key) := (Lib.cell_of_heap q0 7).trans rfl
  have ub7 : w4.cell? ⟨w2.heap.size + 1, 7, none⟩ = some (.string p.key) := (Lib.cell_of_heap q1 7).trans rfl
  clear hb4 q0 q1
  go_wp2_with fail
  have hh := same_any' p ⟨p.name, N1, p.route, p.rules, p.policy, p.secret, p.addrs, p.key⟩ r3 r6 r3 r6 d3 d6 d3 d6 w4 P3'.out P6'.out P3'.out P6'.out HOL.out.1 HOL.out.2 HOL.out.1 HOL.out.2
  rw [(ne_1 p N1 hN1).1] at hh
  refine hh.mono ?_
  clear hh
  rintro e w5 ⟨rfl, hb5⟩
  have q0 := (hb5.block w2.heap.size (by omega)).trans HQ0.out
  have q1 := (hb5.block (w2.heap.size + 1) (by omega)).trans HQ1.out
  have P3q := Lib.hid (P3'.out.below hb5)
  have P6q := Lib.hid (P6'.out.below hb5)
  have HB5 := Lib.hid (HB4.out.trans (hb5.mono HB4.out.size))
  have v0 : w5.cell? ⟨w2.heap.size, 0, none⟩ = some (.string p.name) := (Lib.cell_of_heap q0 0).trans rfl
  have vb0 : w5.cell? ⟨w2.heap.size + 1, 0, none⟩ = some (.string p.name) := (Lib.cell_of_heap q1 0).trans rfl
  have v1 : w5.cell? ⟨w2.heap.size, 1, none⟩ = some (.int .u64 (p.port : Int)) := (Lib.cell_of_heap q0 1).trans rfl
  have vb1 : w5.cell? ⟨w2.heap.size + 1, 1, none⟩ = some (.int .u64 (N1 : Int)) := (Lib.cell_of_heap q1 1).trans rfl
  have v2 : w5.cell? ⟨w2.heap.size, 2, none⟩ = some (.string p.route) := (Lib.cell_of_heap q0 2).trans rfl
  have vb2 : w5.cell? ⟨w2.heap.size + 1, 2, none⟩ = some (.string p.route) := (Lib.cell_of_heap q1 2).trans rfl
  have v3 : w5.cell? ⟨w2.heap.size, 3, none⟩ = some (.slice r3 p.rules.length d3) := (Lib.cell_of_heap q0 3).trans rfl
  have vb3 : w5.cell? ⟨w2.heap.size + 1, 3, none⟩ = some (.slice r3 p.rules.length d3) := (Lib.cell_of_heap q1 3).trans rfl
  have v4 : w5.cell? ⟨w2.heap.size, 4, none⟩ = some (.int .u64 (p.policy : Int)) := (Lib.cell_of_heap q0 4).trans rfl
  have vb4 : w5.cell? ⟨w2.heap.size + 1, 4, none⟩ = some (.int .u64 (p.policy : Int)) := (Lib.cell_of_heap q1 4).trans rfl
  have v5 : w5.cell? ⟨w2.heap.size, 5, none⟩ = some (.string p.secret) := (Lib.cell_of_heap q0 5).trans rfl
  have vb5 : w5.cell? ⟨w2.heap.size + 1, 5, none⟩ = some (.string p.secret) := (Lib.cell_of_heap q1 5).trans rfl
  have v6 : w5.cell? ⟨w2.heap.size, 6, none⟩ = some (.slice r6 p.addrs.length d6) := (Lib.cell_of_heap q0 6).trans rfl
  have vb6 : w5.cell? ⟨w2.heap.size + 1, 6, none⟩ = some (.slice r6 p.addrs.length d6) := (Lib.cell_of_heap q1 6).trans rfl
  have v7 : w5.cell? ⟨w2.heap.size, 7, none⟩ = some (.string p.key) := (Lib.cell_of_heap q0 7).trans rfl
  have vb7 : w5.cell? ⟨w2.heap.size + 1, 7, none⟩ = some (.string p.key) := (Lib.cell_of_heap q1 7).trans rfl
  clear hb5 q0 q1 u0 ub0 u1 ub1 u2 ub2 u3 ub3 u4 ub4 u5 ub5 u6 ub6 u7 ub7
  go_wp2_with fail
  have hh := same_any' ⟨p.name, N1, p.route, p.rules, p.policy, p.secret, p.addrs, p.key⟩ p r3 r6 r3 r6 d3 d6 d3 d6 w5 P3q.out P6q.out P3q.out P6q.out HOL.out.1 HOL.out.2 HOL.out.1 HOL.out.2
  rw [(ne_1 p N1 hN1).2] at hh
  refine hh.mono ?_
  clear hh
  rintro e w6 ⟨rfl, hb6⟩
  have HB6 := Lib.hid (HB5.out.trans (hb6.mono HB5.out.size))
  clear hb6 v0 vb0 v1 vb1 v2 vb2 v3 vb3 v4 vb4 v5 vb5 v6 vb6 v7 vb7
  go_wp2_with fail
  go_ret
  exact ⟨rfl, HB6.out⟩

set_option maxRecDepth 100000 in
set_option maxHeartbeats 4000000 in
theorem walk_2 (s0 s2 s5 s7 : ByteArray) (n1 n4 nn mm how : Nat) (a3 a6 : Option Addr) (l3 c3 l6 c6 : Nat) (kd : Int) (own : Bool) (b : Addr) (w : World) (hg : Gv b w) (hnn : nn < 256) (hmm : mm < 256) (hn1 : n1 < 2 ^ 64) (hn4 : n4 < 2 ^ 64) (hs7 : s7.size ≤ 140737488355328) (hr : (how : Int).tmod 8 = 2) :
    Calls Tryz.prog 8 #[.agg #[.string s0, .int .u64 (n1 : Int), .string s2, .slice a3 l3 c3, .int .u64 (n4 : Int), .string s5, .slice a6 l6 c6, .string s7, .int .i64 kd, .bool own, .int .u8 (nn : Int), .int .u8 (mm : Int)], .int .u8 (how : Int)] w fun e w' => e = .returned (.bool true) ∧ Below w.heap.size w w' := by
  have up := below_alloc w (.cells #[.string s0, .int .u64 (n1 : Int), .string s2, .slice a3 l3 c3, .int .u64 (n4 : Int), .string s5, .slice a6 l6 c6, .string s7, .int .i64 kd, .bool own, .int .u8 (nn : Int), .int .u8 (mm : Int)] 28)
  have k0 := World.alloc_heap_new w (.cells #[.string s0, .int .u64 (n1 : Int), .string s2, .slice a3 l3 c3, .int .u64 (n4 : Int), .string s5, .slice a6 l6 c6, .string s7, .int .i64 kd, .bool own, .int .u8 (nn : Int), .int .u8 (mm : Int)] 28)
  have ks := World.size_alloc w (.cells #[.string s0, .int .u64 (n1 : Int), .string s2, .slice a3 l3 c3, .int .u64 (n4 : Int), .string s5, .slice a6 l6 c6, .string s7, .int .i64 kd, .bool own, .int .u8 (nn : Int), .int .u8 (mm : Int)] 28)
  have HG := Lib.hid (hg.below up)
  have HUP := Lib.hid up
  have HK0 := Lib.hid k0
  have HKS := Lib.hid ks
  have HM := Lib.hid (And.intro hnn (And.intro hmm (And.intro hn1 (And.intro hn4 hs7))))
  have HR := Lib.hid hr
  clear hg up k0 ks hnn hmm hn1 hn4 hs7 hr
  go_enter Tryz.func8, Tryz.ntmps8
  go_wp2_with fail
  refine (examples02_any b _ HG.out).mono ?_
  rintro e w1 ⟨rfl, hb1⟩
  have hz := HKS.out
  have pb := (hb1.block w.heap.size (by omega)).trans HK0.out
  have hlt : w.heap.size < w1.heap.size := by have := hb1.size; omega
  have HB1 := Lib.hid (HUP.out.trans (hb1.mono (by omega)))
  clear hb1 hz
  have t0 : w1.cell? ⟨w.heap.size, 0, none⟩ = some (.string s0) := (Lib.cell_of_heap pb 0).trans rfl
  have t1 : w1.cell? ⟨w.heap.size, 1, none⟩ = some (.int .u64 (n1 : Int)) := (Lib.cell_of_heap pb 1).trans rfl
  have t2 : w1.cell? ⟨w.heap.size, 2, none⟩ = some (.string s2) := (Lib.cell_of_heap pb 2).trans rfl
  have t3 : w1.cell? ⟨w.heap.size, 3, none⟩ = some (.slice a3 l3 c3) := (Lib.cell_of_heap pb 3).trans rfl
  have t4 : w1.cell? ⟨w.heap.size, 4, none⟩ = some (.int .u64 (n4 : Int)) := (Lib.cell_of_heap pb 4).trans rfl
  have t5 : w1.cell? ⟨w.heap.size, 5, none⟩ = some (.string s5) := (Lib.cell_of_heap pb 5).trans rfl
  have t6 : w1.cell? ⟨w.heap.size, 6, none⟩ = some (.slice a6 l6 c6) := (Lib.cell_of_heap pb 6).trans rfl
  have t7 : w1.cell? ⟨w.heap.size, 7, none⟩ = some (.string s7) := (Lib.cell_of_heap pb 7).trans rfl
  have t8 : w1.cell? ⟨w.heap.size, 8, none⟩ = some (.int .i64 kd) := (Lib.cell_of_heap pb 8).trans rfl
  have t9 : w1.cell? ⟨w.heap.size, 9, none⟩ = some (.bool own) := (Lib.cell_of_heap pb 9).trans rfl
  have t10 : w1.cell? ⟨w.heap.size, 10, none⟩ = some (.int .u8 (nn : Int)) := (Lib.cell_of_heap pb 10).trans rfl
  have t11 : w1.cell? ⟨w.heap.size, 11, none⟩ = some (.int .u8 (mm : Int)) := (Lib.cell_of_heap pb 11).trans rfl
  have tf9 := Lib.frozen_of_heap pb 9
  clear pb
  go_wp2_with fail
  obtain ⟨kk, hm⟩ := made_any s0 s2 s5 s7 n1 n4 nn mm a3 a6 l3 c3 l6 c6 kd (w1.setCell ⟨w.heap.size, 9, none⟩ (.bool true)) HM.out.1 HM.out.2.1 HM.out.2.2.1 HM.out.2.2.2.1 HM.out.2.2.2.2
  refine hm.mono ?_
  rintro e w2 ⟨p, r3, d3, r6, d6, rfl, hok, hr3, hr6, hb2⟩
  have HB2 := Lib.hid ((HB1.out.setCell (p := ⟨w.heap.size, 9, none⟩) (Nat.le_refl _) (.bool true)).trans (hb2.mono (by simp; omega)))
  have HOK := Lib.hid hok
  have HR3 := Lib.hid hr3
  have HR6 := Lib.hid hr6
  clear hm hb2 hok hr3 hr6 t0 t1 t2 t3 t4 t5 t6 t7 t8 t9 t10 t11 tf9
  have hrr := HR.out
  have hns : ¬ 9223372036854775807 < p.route.size + 1 := by have := HOK.out.route; split at this <;> omega
  go_wp2_with fail
  obtain ⟨k0, k1⟩ := two_at w2 (.cells #[.string p.name, .int .u64 (p.port : Int), .string p.route, .slice r3 p.rules.length d3, .int .u64 (p.policy : Int), .string p.secret, .slice r6 p.addrs.length d6, .string p.key] 26) (.cells #[.string p.name, .int .u64 (p.port : Int), .string (p.route ++ ⟨#[120]⟩), .slice r3 p.rules.length d3, .int .u64 (p.policy : Int), .string p.secret, .slice r6 p.addrs.length d6, .string p.key] 26)
  have hsz := HB2.out.size
  have up2 := below_up (below_f w2 (.cells #[.string p.name, .int .u64 (p.port : Int), .string p.route, .slice r3 p.rules.length d3, .int .u64 (p.policy : Int), .string p.secret, .slice r6 p.addrs.length d6, .string p.key] 26)) (.cells #[.string p.name, .int .u64 (p.port : Int), .string (p.route ++ ⟨#[120]⟩), .slice r3 p.rules.length d3, .int .u64 (p.policy : Int), .string p.secret, .slice r6 p.addrs.length d6, .string p.key] 26)
  obtain ⟨w3, hw3⟩ : ∃ w3, (w2.alloc (.cells #[.string p.name, .int .u64 (p.port : Int), .string p.route, .slice r3 p.rules.length d3, .int .u64 (p.policy : Int), .string p.secret, .slice r6 p.addrs.length d6, .string p.key] 26)).alloc (.cells #[.string p.name, .int .u64 (p.port : Int), .string (p.route ++ ⟨#[120]⟩), .slice r3 p.rules.length d3, .int .u64 (p.policy : Int), .string p.secret, .slice r6 p.addrs.length d6, .string p.key] 26) = w3 := ⟨_, rfl⟩
  have hz3 : w3.heap.size = w2.heap.size + 2 := by rw [← hw3, World.size_alloc, World.size_alloc]
  rw [hw3]
  rw [hw3] at k0 k1 up2
  have HB3 := Lib.hid (HB2.out.trans (up2.mono hsz))
  have P3 := Lib.hid (HR3.out.below up2)
  have P6 := Lib.hid (HR6.out.below up2)
  have HOL := Lib.hid (ok_len HOK.out)
  have HK0' := Lib.hid k0
  have HK1' := Lib.hid k1
  have hz3' := hz3
  clear hw3 up2 k0 k1 hrr hns
  refine (same_any' p p r3 r6 r3 r6 d3 d6 d3 d6 _ P3.out P6.out P3.out P6.out HOL.out.1 HOL.out.2 HOL.out.1 HOL.out.2).mono ?_
  rintro e w4 ⟨rfl, hb4⟩
  rw [Pl.same_refl]
  have q0 := (hb4.block w2.heap.size (by omega)).trans HK0'.out
  have q1 := (hb4.block (w2.heap.size + 1) (by omega)).trans HK1'.out
  have P3' := Lib.hid (P3.out.below hb4)
  have P6' := Lib.hid (P6.out.below hb4)
  have HB4 := Lib.hid (HB3.out.trans (hb4.mono HB3.out.size))
  have HQ0 := Lib.hid q0
  have HQ1 := Lib.hid q1
  have hz4 := hb4.size
  have u0 : w4.cell? ⟨w2.heap.size, 0, none⟩ = some (.string p.name) := (Lib.cell_of_heap q0 0).trans rfl
  have ub0 : w4.cell? ⟨w2.heap.size + 1, 0, none⟩ = some (.string p.name) := (Lib.cell_of_heap q1 0).trans rfl
  have u1 : w4.cell? ⟨w2.heap.size, 1, none⟩ = some (.int .u64 (p.port : Int)) := (Lib.cell_of_heap q0 1).trans rfl
  have ub1 : w4.cell? ⟨w2.heap.size + 1, 1, none⟩ = some (.int .u64 (p.port : Int)) := (Lib.cell_of_heap q1 1).trans rfl
  have u2 : w4.cell? ⟨w2.heap.size, 2, none⟩ = some (.string p.route) := (Lib.cell_of_heap q0 2).trans rfl
  have ub2 : w4.cell? ⟨w2.heap.size + 1, 2, none⟩ = some (.string (p.route ++ ⟨#[120]⟩)) := (Lib.cell_of_heap q1 2).trans rfl
  have u3 : w4.cell? ⟨w2.heap.size, 3, none⟩ = some (.slice r3 p.rules.length d3) := (Lib.cell_of_heap q0 3).trans rfl
  have ub3 : w4.cell? ⟨w2.heap.size + 1, 3, none⟩ = some (.slice r3 p.rules.length d3) := (Lib.cell_of_heap q1 3).trans rfl
  have u4 : w4.cell? ⟨w2.heap.size, 4, none⟩ = some (.int .u64 (p.policy : Int)) := (Lib.cell_of_heap q0 4).trans rfl
  have ub4 : w4.cell? ⟨w2.heap.size + 1, 4, none⟩ = some (.int .u64 (p.policy : Int)) := (Lib.cell_of_heap q1 4).trans rfl
  have u5 : w4.cell? ⟨w2.heap.size, 5, none⟩ = some (.string p.secret) := (Lib.cell_of_heap q0 5).trans rfl
  have ub5 : w4.cell? ⟨w2.heap.size + 1, 5, none⟩ = some (.string p.secret) := (Lib.cell_of_heap q1 5).trans rfl
  have u6 : w4.cell? ⟨w2.heap.size, 6, none⟩ = some (.slice r6 p.addrs.length d6) := (Lib.cell_of_heap q0 6).trans rfl
  have ub6 : w4.cell? ⟨w2.heap.size + 1, 6, none⟩ = some (.slice r6 p.addrs.length d6) := (Lib.cell_of_heap q1 6).trans rfl
  have u7 : w4.cell? ⟨w2.heap.size, 7, none⟩ = some (.string p.key) := (Lib.cell_of_heap q0 7).trans rfl
  have ub7 : w4.cell? ⟨w2.heap.size + 1, 7, none⟩ = some (.string p.key) := (Lib.cell_of_heap q1 7).trans rfl
  clear hb4 q0 q1
  go_wp2_with fail
  have hh := same_any' p ⟨p.name, p.port, p.route ++ ⟨#[120]⟩, p.rules, p.policy, p.secret, p.addrs, p.key⟩ r3 r6 r3 r6 d3 d6 d3 d6 w4 P3'.out P6'.out P3'.out P6'.out HOL.out.1 HOL.out.2 HOL.out.1 HOL.out.2
  rw [(ne_2 p).1] at hh
  refine hh.mono ?_
  clear hh
  rintro e w5 ⟨rfl, hb5⟩
  have q0 := (hb5.block w2.heap.size (by omega)).trans HQ0.out
  have q1 := (hb5.block (w2.heap.size + 1) (by omega)).trans HQ1.out
  have P3q := Lib.hid (P3'.out.below hb5)
  have P6q := Lib.hid (P6'.out.below hb5)
  have HB5 := Lib.hid (HB4.out.trans (hb5.mono HB4.out.size))
  have v0 : w5.cell? ⟨w2.heap.size, 0, none⟩ = some (.string p.name) := (Lib.cell_of_heap q0 0).trans rfl
  have vb0 : w5.cell? ⟨w2.heap.size + 1, 0, none⟩ = some (.string p.name) := (Lib.cell_of_heap q1 0).trans rfl
  have v1 : w5.cell? ⟨w2.heap.size, 1, none⟩ = some (.int .u64 (p.port : Int)) := (Lib.cell_of_heap q0 1).trans rfl
  have vb1 : w5.cell? ⟨w2.heap.size + 1, 1, none⟩ = some (.int .u64 (p.port : Int)) := (Lib.cell_of_heap q1 1).trans rfl
  have v2 : w5.cell? ⟨w2.heap.size, 2, none⟩ = some (.string p.route) := (Lib.cell_of_heap q0 2).trans rfl
  have vb2 : w5.cell? ⟨w2.heap.size + 1, 2, none⟩ = some (.string (p.route ++ ⟨#[120]⟩)) := (Lib.cell_of_heap q1 2).trans rfl
  have v3 : w5.cell? ⟨w2.heap.size, 3, none⟩ = some (.slice r3 p.rules.length d3) := (Lib.cell_of_heap q0 3).trans rfl
  have vb3 : w5.cell? ⟨w2.heap.size + 1, 3, none⟩ = some (.slice r3 p.rules.length d3) := (Lib.cell_of_heap q1 3).trans rfl
  have v4 : w5.cell? ⟨w2.heap.size, 4, none⟩ = some (.int .u64 (p.policy : Int)) := (Lib.cell_of_heap q0 4).trans rfl
  have vb4 : w5.cell? ⟨w2.heap.size + 1, 4, none⟩ = some (.int .u64 (p.policy : Int)) := (Lib.cell_of_heap q1 4).trans rfl
  have v5 : w5.cell? ⟨w2.heap.size, 5, none⟩ = some (.string p.secret) := (Lib.cell_of_heap q0 5).trans rfl
  have vb5 : w5.cell? ⟨w2.heap.size + 1, 5, none⟩ = some (.string p.secret) := (Lib.cell_of_heap q1 5).trans rfl
  have v6 : w5.cell? ⟨w2.heap.size, 6, none⟩ = some (.slice r6 p.addrs.length d6) := (Lib.cell_of_heap q0 6).trans rfl
  have vb6 : w5.cell? ⟨w2.heap.size + 1, 6, none⟩ = some (.slice r6 p.addrs.length d6) := (Lib.cell_of_heap q1 6).trans rfl
  have v7 : w5.cell? ⟨w2.heap.size, 7, none⟩ = some (.string p.key) := (Lib.cell_of_heap q0 7).trans rfl
  have vb7 : w5.cell? ⟨w2.heap.size + 1, 7, none⟩ = some (.string p.key) := (Lib.cell_of_heap q1 7).trans rfl
  clear hb5 q0 q1 u0 ub0 u1 ub1 u2 ub2 u3 ub3 u4 ub4 u5 ub5 u6 ub6 u7 ub7
  go_wp2_with fail
  have hh := same_any' ⟨p.name, p.port, p.route ++ ⟨#[120]⟩, p.rules, p.policy, p.secret, p.addrs, p.key⟩ p r3 r6 r3 r6 d3 d6 d3 d6 w5 P3q.out P6q.out P3q.out P6q.out HOL.out.1 HOL.out.2 HOL.out.1 HOL.out.2
  rw [(ne_2 p).2] at hh
  refine hh.mono ?_
  clear hh
  rintro e w6 ⟨rfl, hb6⟩
  have HB6 := Lib.hid (HB5.out.trans (hb6.mono HB5.out.size))
  clear hb6 v0 vb0 v1 vb1 v2 vb2 v3 vb3 v4 vb4 v5 vb5 v6 vb6 v7 vb7
  go_wp2_with fail
  go_ret
  exact ⟨rfl, HB6.out⟩

set_option maxRecDepth 100000 in
set_option maxHeartbeats 4000000 in
theorem walk_3 (s0 s2 s5 s7 : ByteArray) (n1 n4 nn mm how : Nat) (a3 a6 : Option Addr) (l3 c3 l6 c6 : Nat) (kd : Int) (own : Bool) (b : Addr) (w : World) (hg : Gv b w) (hnn : nn < 256) (hmm : mm < 256) (hn1 : n1 < 2 ^ 64) (hn4 : n4 < 2 ^ 64) (hs7 : s7.size ≤ 140737488355328) (hr : (how : Int).tmod 8 = 3) :
    Calls Tryz.prog 8 #[.agg #[.string s0, .int .u64 (n1 : Int), .string s2, .slice a3 l3 c3, .int .u64 (n4 : Int), .string s5, .slice a6 l6 c6, .string s7, .int .i64 kd, .bool own, .int .u8 (nn : Int), .int .u8 (mm : Int)], .int .u8 (how : Int)] w fun e w' => e = .returned (.bool true) ∧ Below w.heap.size w w' := by
  have up := below_alloc w (.cells #[.string s0, .int .u64 (n1 : Int), .string s2, .slice a3 l3 c3, .int .u64 (n4 : Int), .string s5, .slice a6 l6 c6, .string s7, .int .i64 kd, .bool own, .int .u8 (nn : Int), .int .u8 (mm : Int)] 28)
  have k0 := World.alloc_heap_new w (.cells #[.string s0, .int .u64 (n1 : Int), .string s2, .slice a3 l3 c3, .int .u64 (n4 : Int), .string s5, .slice a6 l6 c6, .string s7, .int .i64 kd, .bool own, .int .u8 (nn : Int), .int .u8 (mm : Int)] 28)
  have ks := World.size_alloc w (.cells #[.string s0, .int .u64 (n1 : Int), .string s2, .slice a3 l3 c3, .int .u64 (n4 : Int), .string s5, .slice a6 l6 c6, .string s7, .int .i64 kd, .bool own, .int .u8 (nn : Int), .int .u8 (mm : Int)] 28)
  have HG := Lib.hid (hg.below up)
  have HUP := Lib.hid up
  have HK0 := Lib.hid k0
  have HKS := Lib.hid ks
  have HM := Lib.hid (And.intro hnn (And.intro hmm (And.intro hn1 (And.intro hn4 hs7))))
  have HR := Lib.hid hr
  clear hg up k0 ks hnn hmm hn1 hn4 hs7 hr
  go_enter Tryz.func8, Tryz.ntmps8
  go_wp2_with fail
  refine (examples02_any b _ HG.out).mono ?_
  rintro e w1 ⟨rfl, hb1⟩
  have hz := HKS.out
  have pb := (hb1.block w.heap.size (by omega)).trans HK0.out
  have hlt : w.heap.size < w1.heap.size := by have := hb1.size; omega
  have HB1 := Lib.hid (HUP.out.trans (hb1.mono (by omega)))
  clear hb1 hz
  have t0 : w1.cell? ⟨w.heap.size, 0, none⟩ = some (.string s0) := (Lib.cell_of_heap pb 0).trans rfl
  have t1 : w1.cell? ⟨w.heap.size, 1, none⟩ = some (.int .u64 (n1 : Int)) := (Lib.cell_of_heap pb 1).trans rfl
  have t2 : w1.cell? ⟨w.heap.size, 2, none⟩ = some (.string s2) := (Lib.cell_of_heap pb 2).trans rfl
  have t3 : w1.cell? ⟨w.heap.size, 3, none⟩ = some (.slice a3 l3 c3) := (Lib.cell_of_heap pb 3).trans rfl
  have t4 : w1.cell? ⟨w.heap.size, 4, none⟩ = some (.int .u64 (n4 : Int)) := (Lib.cell_of_heap pb 4).trans rfl
  have t5 : w1.cell? ⟨w.heap.size, 5, none⟩ = some (.string s5) := (Lib.cell_of_heap pb 5).trans rfl
  have t6 : w1.cell? ⟨w.heap.size, 6, none⟩ = some (.slice a6 l6 c6) := (Lib.cell_of_heap pb 6).trans rfl
  have t7 : w1.cell? ⟨w.heap.size, 7, none⟩ = some (.string s7) := (Lib.cell_of_heap pb 7).trans rfl
  have t8 : w1.cell? ⟨w.heap.size, 8, none⟩ = some (.int .i64 kd) := (Lib.cell_of_heap pb 8).trans rfl
  have t9 : w1.cell? ⟨w.heap.size, 9, none⟩ = some (.bool own) := (Lib.cell_of_heap pb 9).trans rfl
  have t10 : w1.cell? ⟨w.heap.size, 10, none⟩ = some (.int .u8 (nn : Int)) := (Lib.cell_of_heap pb 10).trans rfl
  have t11 : w1.cell? ⟨w.heap.size, 11, none⟩ = some (.int .u8 (mm : Int)) := (Lib.cell_of_heap pb 11).trans rfl
  have tf9 := Lib.frozen_of_heap pb 9
  clear pb
  go_wp2_with fail
  obtain ⟨kk, hm⟩ := made_any s0 s2 s5 s7 n1 n4 nn mm a3 a6 l3 c3 l6 c6 kd (w1.setCell ⟨w.heap.size, 9, none⟩ (.bool true)) HM.out.1 HM.out.2.1 HM.out.2.2.1 HM.out.2.2.2.1 HM.out.2.2.2.2
  refine hm.mono ?_
  rintro e w2 ⟨p, r3, d3, r6, d6, rfl, hok, hr3, hr6, hb2⟩
  have HB2 := Lib.hid ((HB1.out.setCell (p := ⟨w.heap.size, 9, none⟩) (Nat.le_refl _) (.bool true)).trans (hb2.mono (by simp; omega)))
  have HOK := Lib.hid hok
  have HR3 := Lib.hid hr3
  have HR6 := Lib.hid hr6
  clear hm hb2 hok hr3 hr6 t0 t1 t2 t3 t4 t5 t6 t7 t8 t9 t10 t11 tf9
  have hrr := HR.out
  obtain ⟨N1, hN1⟩ : ∃ N1, p.policy + 1 = N1 := ⟨_, rfl⟩
  have hns : IntKind.u64.wrap ((p.policy : Int) + 1) = (N1 : Int) := by
    subst hN1
    have := HOK.out.policy
    have hx : p.policy ≤ 65535 := by split at this <;> omega
    simp only [IntKind.wrap, IntKind.signed, IntKind.bits]
    simp
    omega
  go_wp2_with fail
  obtain ⟨k0, k1⟩ := two_at w2 (.cells #[.string p.name, .int .u64 (p.port : Int), .string p.route, .slice r3 p.rules.length d3, .int .u64 (p.policy : Int), .string p.secret, .slice r6 p.addrs.length d6, .string p.key] 26) (.cells #[.string p.name, .int .u64 (p.port : Int), .string p.route, .slice r3 p.rules.length d3, .int .u64 (N1 : Int), .string p.secret, .slice r6 p.addrs.length d6, .string p.key] 26)
  have hsz := HB2.out.size
  have up2 := below_up (below_f w2 (.cells #[.string p.name, .int .u64 (p.port : Int), .string p.route, .slice r3 p.rules.length d3, .int .u64 (p.policy : Int), .string p.secret, .slice r6 p.addrs.length d6, .string p.key] 26)) (.cells #[.string p.name, .int .u64 (p.port : Int), .string p.route, .slice r3 p.rules.length d3, .int .u64 (N1 : Int), .string p.secret, .slice r6 p.addrs.length d6, .string p.key] 26)
  obtain ⟨w3, hw3⟩ : ∃ w3, (w2.alloc (.cells #[.string p.name, .int .u64 (p.port : Int), .string p.route, .slice r3 p.rules.length d3, .int .u64 (p.policy : Int), .string p.secret, .slice r6 p.addrs.length d6, .string p.key] 26)).alloc (.cells #[.string p.name, .int .u64 (p.port : Int), .string p.route, .slice r3 p.rules.length d3, .int .u64 (N1 : Int), .string p.secret, .slice r6 p.addrs.length d6, .string p.key] 26) = w3 := ⟨_, rfl⟩
  have hz3 : w3.heap.size = w2.heap.size + 2 := by rw [← hw3, World.size_alloc, World.size_alloc]
  rw [hw3]
  rw [hw3] at k0 k1 up2
  have HB3 := Lib.hid (HB2.out.trans (up2.mono hsz))
  have P3 := Lib.hid (HR3.out.below up2)
  have P6 := Lib.hid (HR6.out.below up2)
  have HOL := Lib.hid (ok_len HOK.out)
  have HK0' := Lib.hid k0
  have HK1' := Lib.hid k1
  have hz3' := hz3
  clear hw3 up2 k0 k1 hrr hns
  refine (same_any' p p r3 r6 r3 r6 d3 d6 d3 d6 _ P3.out P6.out P3.out P6.out HOL.out.1 HOL.out.2 HOL.out.1 HOL.out.2).mono ?_
  rintro e w4 ⟨rfl, hb4⟩
  rw [Pl.same_refl]
  have q0 := (hb4.block w2.heap.size (by omega)).trans HK0'.out
  have q1 := (hb4.block (w2.heap.size + 1) (by omega)).trans HK1'.out
  have P3' := Lib.hid (P3.out.below hb4)
  have P6' := Lib.hid (P6.out.below hb4)
  have HB4 := Lib.hid (HB3.out.trans (hb4.mono HB3.out.size))
  have HQ0 := Lib.hid q0
  have HQ1 := Lib.hid q1
  have hz4 := hb4.size
  have u0 : w4.cell? ⟨w2.heap.size, 0, none⟩ = some (.string p.name) := (Lib.cell_of_heap q0 0).trans rfl
  have ub0 : w4.cell? ⟨w2.heap.size + 1, 0, none⟩ = some (.string p.name) := (Lib.cell_of_heap q1 0).trans rfl
  have u1 : w4.cell? ⟨w2.heap.size, 1, none⟩ = some (.int .u64 (p.port : Int)) := (Lib.cell_of_heap q0 1).trans rfl
  have ub1 : w4.cell? ⟨w2.heap.size + 1, 1, none⟩ = some (.int .u64 (p.port : Int)) := (Lib.cell_of_heap q1 1).trans rfl
  have u2 : w4.cell? ⟨w2.heap.size, 2, none⟩ = some (.string p.route) := (Lib.cell_of_heap q0 2).trans rfl
  have ub2 : w4.cell? ⟨w2.heap.size + 1, 2, none⟩ = some (.string p.route) := (Lib.cell_of_heap q1 2).trans rfl
  have u3 : w4.cell? ⟨w2.heap.size, 3, none⟩ = some (.slice r3 p.rules.length d3) := (Lib.cell_of_heap q0 3).trans rfl
  have ub3 : w4.cell? ⟨w2.heap.size + 1, 3, none⟩ = some (.slice r3 p.rules.length d3) := (Lib.cell_of_heap q1 3).trans rfl
  have u4 : w4.cell? ⟨w2.heap.size, 4, none⟩ = some (.int .u64 (p.policy : Int)) := (Lib.cell_of_heap q0 4).trans rfl
  have ub4 : w4.cell? ⟨w2.heap.size + 1, 4, none⟩ = some (.int .u64 (N1 : Int)) := (Lib.cell_of_heap q1 4).trans rfl
  have u5 : w4.cell? ⟨w2.heap.size, 5, none⟩ = some (.string p.secret) := (Lib.cell_of_heap q0 5).trans rfl
  have ub5 : w4.cell? ⟨w2.heap.size + 1, 5, none⟩ = some (.string p.secret) := (Lib.cell_of_heap q1 5).trans rfl
  have u6 : w4.cell? ⟨w2.heap.size, 6, none⟩ = some (.slice r6 p.addrs.length d6) := (Lib.cell_of_heap q0 6).trans rfl
  have ub6 : w4.cell? ⟨w2.heap.size + 1, 6, none⟩ = some (.slice r6 p.addrs.length d6) := (Lib.cell_of_heap q1 6).trans rfl
  have u7 : w4.cell? ⟨w2.heap.size, 7, none⟩ = some (.string p.key) := (Lib.cell_of_heap q0 7).trans rfl
  have ub7 : w4.cell? ⟨w2.heap.size + 1, 7, none⟩ = some (.string p.key) := (Lib.cell_of_heap q1 7).trans rfl
  clear hb4 q0 q1
  go_wp2_with fail
  have hh := same_any' p ⟨p.name, p.port, p.route, p.rules, N1, p.secret, p.addrs, p.key⟩ r3 r6 r3 r6 d3 d6 d3 d6 w4 P3'.out P6'.out P3'.out P6'.out HOL.out.1 HOL.out.2 HOL.out.1 HOL.out.2
  rw [(ne_3 p N1 hN1).1] at hh
  refine hh.mono ?_
  clear hh
  rintro e w5 ⟨rfl, hb5⟩
  have q0 := (hb5.block w2.heap.size (by omega)).trans HQ0.out
  have q1 := (hb5.block (w2.heap.size + 1) (by omega)).trans HQ1.out
  have P3q := Lib.hid (P3'.out.below hb5)
  have P6q := Lib.hid (P6'.out.below hb5)
  have HB5 := Lib.hid (HB4.out.trans (hb5.mono HB4.out.size))
  have v0 : w5.cell? ⟨w2.heap.size, 0, none⟩ = some (.string p.name) := (Lib.cell_of_heap q0 0).trans rfl
  have vb0 : w5.cell? ⟨w2.heap.size + 1, 0, none⟩ = some (.string p.name) := (Lib.cell_of_heap q1 0).trans rfl
  have v1 : w5.cell? ⟨w2.heap.size, 1, none⟩ = some (.int .u64 (p.port : Int)) := (Lib.cell_of_heap q0 1).trans rfl
  have vb1 : w5.cell? ⟨w2.heap.size + 1, 1, none⟩ = some (.int .u64 (p.port : Int)) := (Lib.cell_of_heap q1 1).trans rfl
  have v2 : w5.cell? ⟨w2.heap.size, 2, none⟩ = some (.string p.route) := (Lib.cell_of_heap q0 2).trans rfl
  have vb2 : w5.cell? ⟨w2.heap.size + 1, 2, none⟩ = some (.string p.route) := (Lib.cell_of_heap q1 2).trans rfl
  have v3 : w5.cell? ⟨w2.heap.size, 3, none⟩ = some (.slice r3 p.rules.length d3) := (Lib.cell_of_heap q0 3).trans rfl
  have vb3 : w5.cell? ⟨w2.heap.size + 1, 3, none⟩ = some (.slice r3 p.rules.length d3) := (Lib.cell_of_heap q1 3).trans rfl
  have v4 : w5.cell? ⟨w2.heap.size, 4, none⟩ = some (.int .u64 (p.policy : Int)) := (Lib.cell_of_heap q0 4).trans rfl
  have vb4 : w5.cell? ⟨w2.heap.size + 1, 4, none⟩ = some (.int .u64 (N1 : Int)) := (Lib.cell_of_heap q1 4).trans rfl
  have v5 : w5.cell? ⟨w2.heap.size, 5, none⟩ = some (.string p.secret) := (Lib.cell_of_heap q0 5).trans rfl
  have vb5 : w5.cell? ⟨w2.heap.size + 1, 5, none⟩ = some (.string p.secret) := (Lib.cell_of_heap q1 5).trans rfl
  have v6 : w5.cell? ⟨w2.heap.size, 6, none⟩ = some (.slice r6 p.addrs.length d6) := (Lib.cell_of_heap q0 6).trans rfl
  have vb6 : w5.cell? ⟨w2.heap.size + 1, 6, none⟩ = some (.slice r6 p.addrs.length d6) := (Lib.cell_of_heap q1 6).trans rfl
  have v7 : w5.cell? ⟨w2.heap.size, 7, none⟩ = some (.string p.key) := (Lib.cell_of_heap q0 7).trans rfl
  have vb7 : w5.cell? ⟨w2.heap.size + 1, 7, none⟩ = some (.string p.key) := (Lib.cell_of_heap q1 7).trans rfl
  clear hb5 q0 q1 u0 ub0 u1 ub1 u2 ub2 u3 ub3 u4 ub4 u5 ub5 u6 ub6 u7 ub7
  go_wp2_with fail
  have hh := same_any' ⟨p.name, p.port, p.route, p.rules, N1, p.secret, p.addrs, p.key⟩ p r3 r6 r3 r6 d3 d6 d3 d6 w5 P3q.out P6q.out P3q.out P6q.out HOL.out.1 HOL.out.2 HOL.out.1 HOL.out.2
  rw [(ne_3 p N1 hN1).2] at hh
  refine hh.mono ?_
  clear hh
  rintro e w6 ⟨rfl, hb6⟩
  have HB6 := Lib.hid (HB5.out.trans (hb6.mono HB5.out.size))
  clear hb6 v0 vb0 v1 vb1 v2 vb2 v3 vb3 v4 vb4 v5 vb5 v6 vb6 v7 vb7
  go_wp2_with fail
  go_ret
  exact ⟨rfl, HB6.out⟩

set_option maxRecDepth 100000 in
set_option maxHeartbeats 4000000 in
theorem walk_4 (s0 s2 s5 s7 : ByteArray) (n1 n4 nn mm how : Nat) (a3 a6 : Option Addr) (l3 c3 l6 c6 : Nat) (kd : Int) (own : Bool) (b : Addr) (w : World) (hg : Gv b w) (hnn : nn < 256) (hmm : mm < 256) (hn1 : n1 < 2 ^ 64) (hn4 : n4 < 2 ^ 64) (hs7 : s7.size ≤ 140737488355328) (hr : (how : Int).tmod 8 = 4) :
    Calls Tryz.prog 8 #[.agg #[.string s0, .int .u64 (n1 : Int), .string s2, .slice a3 l3 c3, .int .u64 (n4 : Int), .string s5, .slice a6 l6 c6, .string s7, .int .i64 kd, .bool own, .int .u8 (nn : Int), .int .u8 (mm : Int)], .int .u8 (how : Int)] w fun e w' => e = .returned (.bool true) ∧ Below w.heap.size w w' := by
  have up := below_alloc w (.cells #[.string s0, .int .u64 (n1 : Int), .string s2, .slice a3 l3 c3, .int .u64 (n4 : Int), .string s5, .slice a6 l6 c6, .string s7, .int .i64 kd, .bool own, .int .u8 (nn : Int), .int .u8 (mm : Int)] 28)
  have k0 := World.alloc_heap_new w (.cells #[.string s0, .int .u64 (n1 : Int), .string s2, .slice a3 l3 c3, .int .u64 (n4 : Int), .string s5, .slice a6 l6 c6, .string s7, .int .i64 kd, .bool own, .int .u8 (nn : Int), .int .u8 (mm : Int)] 28)
  have ks := World.size_alloc w (.cells #[.string s0, .int .u64 (n1 : Int), .string s2, .slice a3 l3 c3, .int .u64 (n4 : Int), .string s5, .slice a6 l6 c6, .string s7, .int .i64 kd, .bool own, .int .u8 (nn : Int), .int .u8 (mm : Int)] 28)
  have HG := Lib.hid (hg.below up)
  have HUP := Lib.hid up
  have HK0 := Lib.hid k0
  have HKS := Lib.hid ks
  have HM := Lib.hid (And.intro hnn (And.intro hmm (And.intro hn1 (And.intro hn4 hs7))))
  have HR := Lib.hid hr
  clear hg up k0 ks hnn hmm hn1 hn4 hs7 hr
  go_enter Tryz.func8, Tryz.ntmps8
  go_wp2_with fail
  refine (examples02_any b _ HG.out).mono ?_
  rintro e w1 ⟨rfl, hb1⟩
  have hz := HKS.out
  have pb := (hb1.block w.heap.size (by omega)).trans HK0.out
  have hlt : w.heap.size < w1.heap.size := by have := hb1.size; omega
  have HB1 := Lib.hid (HUP.out.trans (hb1.mono (by omega)))
  clear hb1 hz
  have t0 : w1.cell? ⟨w.heap.size, 0, none⟩ = some (.string s0) := (Lib.cell_of_heap pb 0).trans rfl
  have t1 : w1.cell? ⟨w.heap.size, 1, none⟩ = some (.int .u64 (n1 : Int)) := (Lib.cell_of_heap pb 1).trans rfl
  have t2 : w1.cell? ⟨w.heap.size, 2, none⟩ = some (.string s2) := (Lib.cell_of_heap pb 2).trans rfl
  have t3 : w1.cell? ⟨w.heap.size, 3, none⟩ = some (.slice a3 l3 c3) := (Lib.cell_of_heap pb 3).trans rfl
  have t4 : w1.cell? ⟨w.heap.size, 4, none⟩ = some (.int .u64 (n4 : Int)) := (Lib.cell_of_heap pb 4).trans rfl
  have t5 : w1.cell? ⟨w.heap.size, 5, none⟩ = some (.string s5) := (Lib.cell_of_heap pb 5).trans rfl
  have t6 : w1.cell? ⟨w.heap.size, 6, none⟩ = some (.slice a6 l6 c6) := (Lib.cell_of_heap pb 6).trans rfl
  have t7 : w1.cell? ⟨w.heap.size, 7, none⟩ = some (.string s7) := (Lib.cell_of_heap pb 7).trans rfl
  have t8 : w1.cell? ⟨w.heap.size, 8, none⟩ = some (.int .i64 kd) := (Lib.cell_of_heap pb 8).trans rfl
  have t9 : w1.cell? ⟨w.heap.size, 9, none⟩ = some (.bool own) := (Lib.cell_of_heap pb 9).trans rfl
  have t10 : w1.cell? ⟨w.heap.size, 10, none⟩ = some (.int .u8 (nn : Int)) := (Lib.cell_of_heap pb 10).trans rfl
  have t11 : w1.cell? ⟨w.heap.size, 11, none⟩ = some (.int .u8 (mm : Int)) := (Lib.cell_of_heap pb 11).trans rfl
  have tf9 := Lib.frozen_of_heap pb 9
  clear pb
  go_wp2_with fail
  obtain ⟨kk, hm⟩ := made_any s0 s2 s5 s7 n1 n4 nn mm a3 a6 l3 c3 l6 c6 kd (w1.setCell ⟨w.heap.size, 9, none⟩ (.bool true)) HM.out.1 HM.out.2.1 HM.out.2.2.1 HM.out.2.2.2.1 HM.out.2.2.2.2
  refine hm.mono ?_
  rintro e w2 ⟨p, r3, d3, r6, d6, rfl, hok, hr3, hr6, hb2⟩
  have HB2 := Lib.hid ((HB1.out.setCell (p := ⟨w.heap.size, 9, none⟩) (Nat.le_refl _) (.bool true)).trans (hb2.mono (by simp; omega)))
  have HOK := Lib.hid hok
  have HR3 := Lib.hid hr3
  have HR6 := Lib.hid hr6
  clear hm hb2 hok hr3 hr6 t0 t1 t2 t3 t4 t5 t6 t7 t8 t9 t10 t11 tf9
  have hrr := HR.out
  have hns : ¬ 9223372036854775807 < p.secret.size + 1 := by have := HOK.out.secret; split at this <;> omega
  go_wp2_with fail
  obtain ⟨k0, k1⟩ := two_at w2 (.cells #[.string p.name, .int .u64 (p.port : Int), .string p.route, .slice r3 p.rules.length d3, .int .u64 (p.policy : Int), .string p.secret, .slice r6 p.addrs.length d6, .string p.key] 26) (.cells #[.string p.name, .int .u64 (p.port : Int), .string p.route, .slice r3 p.rules.length d3, .int .u64 (p.policy : Int), .string (p.secret ++ ⟨#[120]⟩), .slice r6 p.addrs.length d6, .string p.key] 26)
  have hsz := HB2.out.size
  have up2 := below_up (below_f w2 (.cells #[.string p.name, .int .u64 (p.port : Int), .string p.route, .slice r3 p.rules.length d3, .int .u64 (p.policy : Int), .string p.secret, .slice r6 p.addrs.length d6, .string p.key] 26)) (.cells #[.string p.name, .int .u64 (p.port : Int), .string p.route, .slice r3 p.rules.length d3, .int .u64 (p.policy : Int), .string (p.secret ++ ⟨#[120]⟩), .slice r6 p.addrs.length d6, .string p.key] 26)
  obtain ⟨w3, hw3⟩ : ∃ w3, (w2.alloc (.cells #[.string p.name, .int .u64 (p.port : Int), .string p.route, .slice r3 p.rules.length d3, .int .u64 (p.policy : Int), .string p.secret, .slice r6 p.addrs.length d6, .string p.key] 26)).alloc (.cells #[.string p.name, .int .u64 (p.port : Int), .string p.route, .slice r3 p.rules.length d3, .int .u64 (p.policy : Int), .string (p.secret ++ ⟨#[120]⟩), .slice r6 p.addrs.length d6, .string p.key] 26) = w3 := ⟨_, rfl⟩
  have hz3 : w3.heap.size = w2.heap.size + 2 := by rw [← hw3, World.size_alloc, World.size_alloc]
  rw [hw3]
  rw [hw3] at k0 k1 up2
  have HB3 := Lib.hid (HB2.out.trans (up2.mono hsz))
  have P3 := Lib.hid (HR3.out.below up2)
  have P6 := Lib.hid (HR6.out.below up2)
  have HOL := Lib.hid (ok_len HOK.out)
  have HK0' := Lib.hid k0
  have HK1' := Lib.hid k1
  have hz3' := hz3
  clear hw3 up2 k0 k1 hrr hns
  refine (same_any' p p r3 r6 r3 r6 d3 d6 d3 d6 _ P3.out P6.out P3.out P6.out HOL.out.1 HOL.out.2 HOL.out.1 HOL.out.2).mono ?_
  rintro e w4 ⟨rfl, hb4⟩
  rw [Pl.same_refl]
  have q0 := (hb4.block w2.heap.size (by omega)).trans HK0'.out
  have q1 := (hb4.block (w2.heap.size + 1) (by omega)).trans HK1'.out
  have P3' := Lib.hid (P3.out.below hb4)
  have P6' := Lib.hid (P6.out.below hb4)
  have HB4 := Lib.hid (HB3.out.trans (hb4.mono HB3.out.size))
  have HQ0 := Lib.hid q0
  have HQ1 := Lib.hid q1
  have hz4 := hb4.size
  have u0 : w4.cell? ⟨w2.heap.size, 0, none⟩ = some (.string p.name) := (Lib.cell_of_heap q0 0).trans rfl
  have ub0 : w4.cell? ⟨w2.heap.size + 1, 0, none⟩ = some (.string p.name) := (Lib.cell_of_heap q1 0).trans rfl
  have u1 : w4.cell? ⟨w2.heap.size, 1, none⟩ = some (.int .u64 (p.port : Int)) := (Lib.cell_of_heap q0 1).trans rfl
  have ub1 : w4.cell? ⟨w2.heap.size + 1, 1, none⟩ = some (.int .u64 (p.port : Int)) := (Lib.cell_of_heap q1 1).trans rfl
  have u2 : w4.cell? ⟨w2.heap.size, 2, none⟩ = some (.string p.route) := (Lib.cell_of_heap q0 2).trans rfl
  have ub2 : w4.cell? ⟨w2.heap.size + 1, 2, none⟩ = some (.string p.route) := (Lib.cell_of_heap q1 2).trans rfl
  have u3 : w4.cell? ⟨w2.heap.size, 3, none⟩ = some (.slice r3 p.rules.length d3) := (Lib.cell_of_heap q0 3).trans rfl
  have ub3 : w4.cell? ⟨w2.heap.size + 1, 3, none⟩ = some (.slice r3 p.rules.length d3) := (Lib.cell_of_heap q1 3).trans rfl
  have u4 : w4.cell? ⟨w2.heap.size, 4, none⟩ = some (.int .u64 (p.policy : Int)) := (Lib.cell_of_heap q0 4).trans rfl
  have ub4 : w4.cell? ⟨w2.heap.size + 1, 4, none⟩ = some (.int .u64 (p.policy : Int)) := (Lib.cell_of_heap q1 4).trans rfl
  have u5 : w4.cell? ⟨w2.heap.size, 5, none⟩ = some (.string p.secret) := (Lib.cell_of_heap q0 5).trans rfl
  have ub5 : w4.cell? ⟨w2.heap.size + 1, 5, none⟩ = some (.string (p.secret ++ ⟨#[120]⟩)) := (Lib.cell_of_heap q1 5).trans rfl
  have u6 : w4.cell? ⟨w2.heap.size, 6, none⟩ = some (.slice r6 p.addrs.length d6) := (Lib.cell_of_heap q0 6).trans rfl
  have ub6 : w4.cell? ⟨w2.heap.size + 1, 6, none⟩ = some (.slice r6 p.addrs.length d6) := (Lib.cell_of_heap q1 6).trans rfl
  have u7 : w4.cell? ⟨w2.heap.size, 7, none⟩ = some (.string p.key) := (Lib.cell_of_heap q0 7).trans rfl
  have ub7 : w4.cell? ⟨w2.heap.size + 1, 7, none⟩ = some (.string p.key) := (Lib.cell_of_heap q1 7).trans rfl
  clear hb4 q0 q1
  go_wp2_with fail
  have hh := same_any' p ⟨p.name, p.port, p.route, p.rules, p.policy, p.secret ++ ⟨#[120]⟩, p.addrs, p.key⟩ r3 r6 r3 r6 d3 d6 d3 d6 w4 P3'.out P6'.out P3'.out P6'.out HOL.out.1 HOL.out.2 HOL.out.1 HOL.out.2
  rw [(ne_4 p).1] at hh
  refine hh.mono ?_
  clear hh
  rintro e w5 ⟨rfl, hb5⟩
  have q0 := (hb5.block w2.heap.size (by omega)).trans HQ0.out
  have q1 := (hb5.block (w2.heap.size + 1) (by omega)).trans HQ1.out
  have P3q := Lib.hid (P3'.out.below hb5)
  have P6q := Lib.hid (P6'.out.below hb5)
  have HB5 := Lib.hid (HB4.out.trans (hb5.mono HB4.out.size))
  have v0 : w5.cell? ⟨w2.heap.size, 0, none⟩ = some (.string p.name) := (Lib.cell_of_heap q0 0).trans rfl
  have vb0 : w5.cell? ⟨w2.heap.size + 1, 0, none⟩ = some (.string p.name) := (Lib.cell_of_heap q1 0).trans rfl
  have v1 : w5.cell? ⟨w2.heap.size, 1, none⟩ = some (.int .u64 (p.port : Int)) := (Lib.cell_of_heap q0 1).trans rfl
  have vb1 : w5.cell? ⟨w2.heap.size + 1, 1, none⟩ = some (.int .u64 (p.port : Int)) := (Lib.cell_of_heap q1 1).trans rfl
  have v2 : w5.cell? ⟨w2.heap.size, 2, none⟩ = some (.string p.route) := (Lib.cell_of_heap q0 2).trans rfl
  have vb2 : w5.cell? ⟨w2.heap.size + 1, 2, none⟩ = some (.string p.route) := (Lib.cell_of_heap q1 2).trans rfl
  have v3 : w5.cell? ⟨w2.heap.size, 3, none⟩ = some (.slice r3 p.rules.length d3) := (Lib.cell_of_heap q0 3).trans rfl
  have vb3 : w5.cell? ⟨w2.heap.size + 1, 3, none⟩ = some (.slice r3 p.rules.length d3) := (Lib.cell_of_heap q1 3).trans rfl
  have v4 : w5.cell? ⟨w2.heap.size, 4, none⟩ = some (.int .u64 (p.policy : Int)) := (Lib.cell_of_heap q0 4).trans rfl
  have vb4 : w5.cell? ⟨w2.heap.size + 1, 4, none⟩ = some (.int .u64 (p.policy : Int)) := (Lib.cell_of_heap q1 4).trans rfl
  have v5 : w5.cell? ⟨w2.heap.size, 5, none⟩ = some (.string p.secret) := (Lib.cell_of_heap q0 5).trans rfl
  have vb5 : w5.cell? ⟨w2.heap.size + 1, 5, none⟩ = some (.string (p.secret ++ ⟨#[120]⟩)) := (Lib.cell_of_heap q1 5).trans rfl
  have v6 : w5.cell? ⟨w2.heap.size, 6, none⟩ = some (.slice r6 p.addrs.length d6) := (Lib.cell_of_heap q0 6).trans rfl
  have vb6 : w5.cell? ⟨w2.heap.size + 1, 6, none⟩ = some (.slice r6 p.addrs.length d6) := (Lib.cell_of_heap q1 6).trans rfl
  have v7 : w5.cell? ⟨w2.heap.size, 7, none⟩ = some (.string p.key) := (Lib.cell_of_heap q0 7).trans rfl
  have vb7 : w5.cell? ⟨w2.heap.size + 1, 7, none⟩ = some (.string p.key) := (Lib.cell_of_heap q1 7).trans rfl
  clear hb5 q0 q1 u0 ub0 u1 ub1 u2 ub2 u3 ub3 u4 ub4 u5 ub5 u6 ub6 u7 ub7
  go_wp2_with fail
  have hh := same_any' ⟨p.name, p.port, p.route, p.rules, p.policy, p.secret ++ ⟨#[120]⟩, p.addrs, p.key⟩ p r3 r6 r3 r6 d3 d6 d3 d6 w5 P3q.out P6q.out P3q.out P6q.out HOL.out.1 HOL.out.2 HOL.out.1 HOL.out.2
  rw [(ne_4 p).2] at hh
  refine hh.mono ?_
  clear hh
  rintro e w6 ⟨rfl, hb6⟩
  have HB6 := Lib.hid (HB5.out.trans (hb6.mono HB5.out.size))
  clear hb6 v0 vb0 v1 vb1 v2 vb2 v3 vb3 v4 vb4 v5 vb5 v6 vb6 v7 vb7
  go_wp2_with fail
  go_ret
  exact ⟨rfl, HB6.out⟩

set_option maxRecDepth 100000 in
set_option maxHeartbeats 4000000 in
theorem walk_5 (s0 s2 s5 s7 : ByteArray) (n1 n4 nn mm how : Nat) (a3 a6 : Option Addr) (l3 c3 l6 c6 : Nat) (kd : Int) (own : Bool) (b : Addr) (w : World) (hg : Gv b w) (hnn : nn < 256) (hmm : mm < 256) (hn1 : n1 < 2 ^ 64) (hn4 : n4 < 2 ^ 64) (hs7 : s7.size ≤ 140737488355328) (hr : (how : Int).tmod 8 = 5) :
    Calls Tryz.prog 8 #[.agg #[.string s0, .int .u64 (n1 : Int), .string s2, .slice a3 l3 c3, .int .u64 (n4 : Int), .string s5, .slice a6 l6 c6, .string s7, .int .i64 kd, .bool own, .int .u8 (nn : Int), .int .u8 (mm : Int)], .int .u8 (how : Int)] w fun e w' => e = .returned (.bool true) ∧ Below w.heap.size w w' := by
  have up := below_alloc w (.cells #[.string s0, .int .u64 (n1 : Int), .string s2, .slice a3 l3 c3, .int .u64 (n4 : Int), .string s5, .slice a6 l6 c6, .string s7, .int .i64 kd, .bool own, .int .u8 (nn : Int), .int .u8 (mm : Int)] 28)
  have k0 := World.alloc_heap_new w (.cells #[.string s0, .int .u64 (n1 : Int), .string s2, .slice a3 l3 c3, .int .u64 (n4 : Int), .string s5, .slice a6 l6 c6, .string s7, .int .i64 kd, .bool own, .int .u8 (nn : Int), .int .u8 (mm : Int)] 28)
  have ks := World.size_alloc w (.cells #[.string s0, .int .u64 (n1 : Int), .string s2, .slice a3 l3 c3, .int .u64 (n4 : Int), .string s5, .slice a6 l6 c6, .string s7, .int .i64 kd, .bool own, .int .u8 (nn : Int), .int .u8 (mm : Int)] 28)
  have HG := Lib.hid (hg.below up)
  have HUP := Lib.hid up
  have HK0 := Lib.hid k0
  have HKS := Lib.hid ks
  have HM := Lib.hid (And.intro hnn (And.intro hmm (And.intro hn1 (And.intro hn4 hs7))))
  have HR := Lib.hid hr
  clear hg up k0 ks hnn hmm hn1 hn4 hs7 hr
  go_enter Tryz.func8, Tryz.ntmps8
  go_wp2_with fail
  refine (examples02_any b _ HG.out).mono ?_
  rintro e w1 ⟨rfl, hb1⟩
  have hz := HKS.out
  have pb := (hb1.block w.heap.size (by omega)).trans HK0.out
  have hlt : w.heap.size < w1.heap.size := by have := hb1.size; omega
  have HB1 := Lib.hid (HUP.out.trans (hb1.mono (by omega)))
  clear hb1 hz
  have t0 : w1.cell? ⟨w.heap.size, 0, none⟩ = some (.string s0) := (Lib.cell_of_heap pb 0).trans rfl
  have t1 : w1.cell? ⟨w.heap.size, 1, none⟩ = some (.int .u64 (n1 : Int)) := (Lib.cell_of_heap pb 1).trans rfl
  have t2 : w1.cell? ⟨w.heap.size, 2, none⟩ = some (.string s2) := (Lib.cell_of_heap pb 2).trans rfl
  have t3 : w1.cell? ⟨w.heap.size, 3, none⟩ = some (.slice a3 l3 c3) := (Lib.cell_of_heap pb 3).trans rfl
  have t4 : w1.cell? ⟨w.heap.size, 4, none⟩ = some (.int .u64 (n4 : Int)) := (Lib.cell_of_heap pb 4).trans rfl
  have t5 : w1.cell? ⟨w.heap.size, 5, none⟩ = some (.string s5) := (Lib.cell_of_heap pb 5).trans rfl
  have t6 : w1.cell? ⟨w.heap.size, 6, none⟩ = some (.slice a6 l6 c6) := (Lib.cell_of_heap pb 6).trans rfl
  have t7 : w1.cell? ⟨w.heap.size, 7, none⟩ = some (.string s7) := (Lib.cell_of_heap pb 7).trans rfl
  have t8 : w1.cell? ⟨w.heap.size, 8, none⟩ = some (.int .i64 kd) := (Lib.cell_of_heap pb 8).trans rfl
  have t9 : w1.cell? ⟨w.heap.size, 9, none⟩ = some (.bool own) := (Lib.cell_of_heap pb 9).trans rfl
  have t10 : w1.cell? ⟨w.heap.size, 10, none⟩ = some (.int .u8 (nn : Int)) := (Lib.cell_of_heap pb 10).trans rfl
  have t11 : w1.cell? ⟨w.heap.size, 11, none⟩ = some (.int .u8 (mm : Int)) := (Lib.cell_of_heap pb 11).trans rfl
  have tf9 := Lib.frozen_of_heap pb 9
  clear pb
  go_wp2_with fail
  obtain ⟨kk, hm⟩ := made_any s0 s2 s5 s7 n1 n4 nn mm a3 a6 l3 c3 l6 c6 kd (w1.setCell ⟨w.heap.size, 9, none⟩ (.bool true)) HM.out.1 HM.out.2.1 HM.out.2.2.1 HM.out.2.2.2.1 HM.out.2.2.2.2
  refine hm.mono ?_
  rintro e w2 ⟨p, r3, d3, r6, d6, rfl, hok, hr3, hr6, hb2⟩
  have HB2 := Lib.hid ((HB1.out.setCell (p := ⟨w.heap.size, 9, none⟩) (Nat.le_refl _) (.bool true)).trans (hb2.mono (by simp; omega)))
  have HOK := Lib.hid hok
  have HR3 := Lib.hid hr3
  have HR6 := Lib.hid hr6
  clear hm hb2 hok hr3 hr6 t0 t1 t2 t3 t4 t5 t6 t7 t8 t9 t10 t11 tf9
  have hrr := HR.out
  have hns : ¬ 9223372036854775807 < p.key.size + 1 := by have := HOK.out.key; split at this <;> omega
  go_wp2_with fail
  obtain ⟨k0, k1⟩ := two_at w2 (.cells #[.string p.name, .int .u64 (p.port : Int), .string p.route, .slice r3 p.rules.length d3, .int .u64 (p.policy : Int), .string p.secret, .slice r6 p.addrs.length d6, .string p.key] 26) (.cells #[.string p.name, .int .u64 (p.port : Int), .string p.route, .slice r3 p.rules.length d3, .int .u64 (p.policy : Int), .string p.secret, .slice r6 p.addrs.length d6, .string (p.key ++ ⟨#[120]⟩)] 26)
  have hsz := HB2.out.size
  have up2 := below_up (below_f w2 (.cells #[.string p.name, .int .u64 (p.port : Int), .string p.route, .slice r3 p.rules.length d3, .int .u64 (p.policy : Int), .string p.secret, .slice r6 p.addrs.length d6, .string p.key] 26)) (.cells #[.string p.name, .int .u64 (p.port : Int), .string p.route, .slice r3 p.rules.length d3, .int .u64 (p.policy : Int), .string p.secret, .slice r6 p.addrs.length d6, .string (p.key ++ ⟨#[120]⟩)] 26)
  obtain ⟨w3, hw3⟩ : ∃ w3, (w2.alloc (.cells #[.string p.name, .int .u64 (p.port : Int), .string p.route, .slice r3 p.rules.length d3, .int .u64 (p.policy : Int), .string p.secret, .slice r6 p.addrs.length d6, .string p.key] 26)).alloc (.cells #[.string p.name, .int .u64 (p.port : Int), .string p.route, .slice r3 p.rules.length d3, .int .u64 (p.policy : Int), .string p.secret, .slice r6 p.addrs.length d6, .string (p.key ++ ⟨#[120]⟩)] 26) = w3 := ⟨_, rfl⟩
  have hz3 : w3.heap.size = w2.heap.size + 2 := by rw [← hw3, World.size_alloc, World.size_alloc]
  rw [hw3]
  rw [hw3] at k0 k1 up2
  have HB3 := Lib.hid (HB2.out.trans (up2.mono hsz))
  have P3 := Lib.hid (HR3.out.below up2)
  have P6 := Lib.hid (HR6.out.below up2)
  have HOL := Lib.hid (ok_len HOK.out)
  have HK0' := Lib.hid k0
  have HK1' := Lib.hid k1
  have hz3' := hz3
  clear hw3 up2 k0 k1 hrr hns
  refine (same_any' p p r3 r6 r3 r6 d3 d6 d3 d6 _ P3.out P6.out P3.out P6.out HOL.out.1 HOL.out.2 HOL.out.1 HOL.out.2).mono ?_
  rintro e w4 ⟨rfl, hb4⟩
  rw [Pl.same_refl]
  have q0 := (hb4.block w2.heap.size (by omega)).trans HK0'.out
  have q1 := (hb4.block (w2.heap.size + 1) (by omega)).trans HK1'.out
  have P3' := Lib.hid (P3.out.below hb4)
  have P6' := Lib.hid (P6.out.below hb4)
  have HB4 := Lib.hid (HB3.out.trans (hb4.mono HB3.out.size))
  have HQ0 := Lib.hid q0
  have HQ1 := Lib.hid q1
  have hz4 := hb4.size
  have u0 : w4.cell? ⟨w2.heap.size, 0, none⟩ = some (.string p.name) := (Lib.cell_of_heap q0 0).trans rfl
  have ub0 : w4.cell? ⟨w2.heap.size + 1, 0, none⟩ = some (.string p.name) := (Lib.cell_of_heap q1 0).trans rfl
  have u1 : w4.cell? ⟨w2.heap.size, 1, none⟩ = some (.int .u64 (p.port : Int)) := (Lib.cell_of_heap q0 1).trans rfl
  have ub1 : w4.cell? ⟨w2.heap.size + 1, 1, none⟩ = some (.int .u64 (p.port : Int)) := (Lib.cell_of_heap q1 1).trans rfl
  have u2 : w4.cell? ⟨w2.heap.size, 2, none⟩ = some (.string p.route) := (Lib.cell_of_heap q0 2).trans rfl
  have ub2 : w4.cell? ⟨w2.heap.size + 1, 2, none⟩ = some (.string p.route) := (Lib.cell_of_heap q1 2).trans rfl
  have u3 : w4.cell? ⟨w2.heap.size, 3, none⟩ = some (.slice r3 p.rules.length d3) := (Lib.cell_of_heap q0 3).trans rfl
  have ub3 : w4.cell? ⟨w2.heap.size + 1, 3, none⟩ = some (.slice r3 p.rules.length d3) := (Lib.cell_of_heap q1 3).trans rfl
  have u4 : w4.cell? ⟨w2.heap.size, 4, none⟩ = some (.int .u64 (p.policy : Int)) := (Lib.cell_of_heap q0 4).trans rfl
  have ub4 : w4.cell? ⟨w2.heap.size + 1, 4, none⟩ = some (.int .u64 (p.policy : Int)) := (Lib.cell_of_heap q1 4).trans rfl
  have u5 : w4.cell? ⟨w2.heap.size, 5, none⟩ = some (.string p.secret) := (Lib.cell_of_heap q0 5).trans rfl
  have ub5 : w4.cell? ⟨w2.heap.size + 1, 5, none⟩ = some (.string p.secret) := (Lib.cell_of_heap q1 5).trans rfl
  have u6 : w4.cell? ⟨w2.heap.size, 6, none⟩ = some (.slice r6 p.addrs.length d6) := (Lib.cell_of_heap q0 6).trans rfl
  have ub6 : w4.cell? ⟨w2.heap.size + 1, 6, none⟩ = some (.slice r6 p.addrs.length d6) := (Lib.cell_of_heap q1 6).trans rfl
  have u7 : w4.cell? ⟨w2.heap.size, 7, none⟩ = some (.string p.key) := (Lib.cell_of_heap q0 7).trans rfl
  have ub7 : w4.cell? ⟨w2.heap.size + 1, 7, none⟩ = some (.string (p.key ++ ⟨#[120]⟩)) := (Lib.cell_of_heap q1 7).trans rfl
  clear hb4 q0 q1
  go_wp2_with fail
  have hh := same_any' p ⟨p.name, p.port, p.route, p.rules, p.policy, p.secret, p.addrs, p.key ++ ⟨#[120]⟩⟩ r3 r6 r3 r6 d3 d6 d3 d6 w4 P3'.out P6'.out P3'.out P6'.out HOL.out.1 HOL.out.2 HOL.out.1 HOL.out.2
  rw [(ne_5 p).1] at hh
  refine hh.mono ?_
  clear hh
  rintro e w5 ⟨rfl, hb5⟩
  have q0 := (hb5.block w2.heap.size (by omega)).trans HQ0.out
  have q1 := (hb5.block (w2.heap.size + 1) (by omega)).trans HQ1.out
  have P3q := Lib.hid (P3'.out.below hb5)
  have P6q := Lib.hid (P6'.out.below hb5)
  have HB5 := Lib.hid (HB4.out.trans (hb5.mono HB4.out.size))
  have v0 : w5.cell? ⟨w2.heap.size, 0, none⟩ = some (.string p.name) := (Lib.cell_of_heap q0 0).trans rfl
  have vb0 : w5.cell? ⟨w2.heap.size + 1, 0, none⟩ = some (.string p.name) := (Lib.cell_of_heap q1 0).trans rfl
  have v1 : w5.cell? ⟨w2.heap.size, 1, none⟩ = some (.int .u64 (p.port : Int)) := (Lib.cell_of_heap q0 1).trans rfl
  have vb1 : w5.cell? ⟨w2.heap.size + 1, 1, none⟩ = some (.int .u64 (p.port : Int)) := (Lib.cell_of_heap q1 1).trans rfl
  have v2 : w5.cell? ⟨w2.heap.size, 2, none⟩ = some (.string p.route) := (Lib.cell_of_heap q0 2).trans rfl
  have vb2 : w5.cell? ⟨w2.heap.size + 1, 2, none⟩ = some (.string p.route) := (Lib.cell_of_heap q1 2).trans rfl
  have v3 : w5.cell? ⟨w2.heap.size, 3, none⟩ = some (.slice r3 p.rules.length d3) := (Lib.cell_of_heap q0 3).trans rfl
  have vb3 : w5.cell? ⟨w2.heap.size + 1, 3, none⟩ = some (.slice r3 p.rules.length d3) := (Lib.cell_of_heap q1 3).trans rfl
  have v4 : w5.cell? ⟨w2.heap.size, 4, none⟩ = some (.int .u64 (p.policy : Int)) := (Lib.cell_of_heap q0 4).trans rfl
  have vb4 : w5.cell? ⟨w2.heap.size + 1, 4, none⟩ = some (.int .u64 (p.policy : Int)) := (Lib.cell_of_heap q1 4).trans rfl
  have v5 : w5.cell? ⟨w2.heap.size, 5, none⟩ = some (.string p.secret) := (Lib.cell_of_heap q0 5).trans rfl
  have vb5 : w5.cell? ⟨w2.heap.size + 1, 5, none⟩ = some (.string p.secret) := (Lib.cell_of_heap q1 5).trans rfl
  have v6 : w5.cell? ⟨w2.heap.size, 6, none⟩ = some (.slice r6 p.addrs.length d6) := (Lib.cell_of_heap q0 6).trans rfl
  have vb6 : w5.cell? ⟨w2.heap.size + 1, 6, none⟩ = some (.slice r6 p.addrs.length d6) := (Lib.cell_of_heap q1 6).trans rfl
  have v7 : w5.cell? ⟨w2.heap.size, 7, none⟩ = some (.string p.key) := (Lib.cell_of_heap q0 7).trans rfl
  have vb7 : w5.cell? ⟨w2.heap.size + 1, 7, none⟩ = some (.string (p.key ++ ⟨#[120]⟩)) := (Lib.cell_of_heap q1 7).trans rfl
  clear hb5 q0 q1 u0 ub0 u1 ub1 u2 ub2 u3 ub3 u4 ub4 u5 ub5 u6 ub6 u7 ub7
  go_wp2_with fail
  have hh := same_any' ⟨p.name, p.port, p.route, p.rules, p.policy, p.secret, p.addrs, p.key ++ ⟨#[120]⟩⟩ p r3 r6 r3 r6 d3 d6 d3 d6 w5 P3q.out P6q.out P3q.out P6q.out HOL.out.1 HOL.out.2 HOL.out.1 HOL.out.2
  rw [(ne_5 p).2] at hh
  refine hh.mono ?_
  clear hh
  rintro e w6 ⟨rfl, hb6⟩
  have HB6 := Lib.hid (HB5.out.trans (hb6.mono HB5.out.size))
  clear hb6 v0 vb0 v1 vb1 v2 vb2 v3 vb3 v4 vb4 v5 vb5 v6 vb6 v7 vb7
  go_wp2_with fail
  go_ret
  exact ⟨rfl, HB6.out⟩
end Go.Proofs.YtlefeihfkgijoaaGreatDoor.lawSame
