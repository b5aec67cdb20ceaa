/- payload: PayloadTypes: the walks (written by tools/lawtypes_gen.py). -/
import Derived.Test.YtlefeihfkgijoaaGreatDoorPlOpen
import Derived.Test.YtlefeihfkgijoaaGreatDoorPlTrip
import Derived.Test.YtlefeihfkgijoaaGreatDoorPlEx
namespace Go.Proofs.YtlefeihfkgijoaaGreatDoor.lawTypes
open Go.RowKit Go.Shelf

theorem same_name (p : Pl) (n : ByteArray) (a3 a6 : Option Addr) (c3 c6 : Nat) (w : World) (hp3 : RulesAt w a3 p.rules) (hp6 : AddrsAt w a6 p.addrs) (l1 : p.rules.length ≤ maxLen) (l2 : p.addrs.length ≤ maxLen) :
    Calls Tryz.prog 20 #[plV p a3 c3 a6 c6, .agg #[.string n, .int .u64 0, .string ⟨#[]⟩, .slice none 0 0, .int .u64 0, .string ⟨#[]⟩, .slice none 0 0, .string ⟨#[]⟩]] w fun e w' => e = .returned (.bool (p.same (bareP n))) ∧ Below w.heap.size w w' :=
  same_any' p (bareP n) a3 a6 none none c3 c6 0 0 w hp3 hp6 (none_rules _ _) (none_addrs _ _) l1 l2 (Nat.zero_le _) (Nat.zero_le _)
theorem has_one (m : Nat) (h : m < 5) : (hasOf (1 + (m : Int))).2 = true := by
  match m, h with
  | 0, _ => rfl
  | 1, _ => rfl
  | 2, _ => rfl
  | 3, _ => rfl
  | 4, _ => rfl
theorem hasI_8 (k : Int) : (hasI k).length ≤ 8 := by unfold hasI; repeat' split
                                                     all_goals simp
theorem hasNotI_8 (k : Int) : (hasNotI k).length ≤ 8 := by unfold hasNotI; repeat' split
                                                           all_goals simp

set_option maxRecDepth 100000 in
set_option maxHeartbeats 4000000 in
theorem walk (s0 s2 s5 s7 : ByteArray) (n1 n4 nn mm other : Nat) (a3 a6 : Option Addr) (l3 c3 l6 c6 : Nat) (kd : Int) (own : Bool) (b : Addr) (w : World) (hg : Gv b w) (hnn : nn < 256) (hmm : mm < 256) (hn1 : n1 < 2 ^ 64) (hn4 : n4 < 2 ^ 64) (hs7 : s7.size ≤ 140737488355328) (hoth : other < 256) :
    Calls Tryz.prog 6 #[.agg #[.string s0, .int .u64 (n1 : Int), .string s2, .slice a3 l3 c3, .int .u64 (n4 : Int), .string s5, .slice a6 l6 c6, .string s7, .int .i64 kd, .bool own, .int .u8 (nn : Int), .int .u8 (mm : Int)], .int .u8 (other : Int)] w fun e w' => e = .returned (.bool true) ∧ Below w.heap.size w w' := by
  obtain ⟨m, hm⟩ : ∃ m, other % 5 = m := ⟨_, rfl⟩
  obtain ⟨K, hK⟩ : ∃ K, 1 + (m : Int) = K := ⟨_, rfl⟩
  have hm5 : m < 5 := by omega
  have HKI := Lib.hid (show (hasOf K).2 = true by rw [← hK]; exact has_one m hm5)
  have HMO := Lib.hid (And.intro hoth (And.intro hm (And.intro hm5 hK)))
  clear hoth hm hm5 hK
  have up := below_alloc w (.cells #[.string s0, .int .u64 (n1 : Int), .string s2, .slice a3 l3 c3, .int .u64 (n4 : Int), .string s5, .slice a6 l6 c6, .string s7, .int .i64 kd, .bool own, .int .u8 (nn : Int), .int .u8 (mm : Int)] 28)
  have k0 := World.alloc_heap_new w (.cells #[.string s0, .int .u64 (n1 : Int), .string s2, .slice a3 l3 c3, .int .u64 (n4 : Int), .string s5, .slice a6 l6 c6, .string s7, .int .i64 kd, .bool own, .int .u8 (nn : Int), .int .u8 (mm : Int)] 28)
  have ks := World.size_alloc w (.cells #[.string s0, .int .u64 (n1 : Int), .string s2, .slice a3 l3 c3, .int .u64 (n4 : Int), .string s5, .slice a6 l6 c6, .string s7, .int .i64 kd, .bool own, .int .u8 (nn : Int), .int .u8 (mm : Int)] 28)
  have HGW := Lib.hid hg
  have HG := Lib.hid (hg.below up)
  have HUP := Lib.hid up
  have HK0 := Lib.hid k0
  have HKS := Lib.hid ks
  have HM := Lib.hid (And.intro hnn (And.intro hmm (And.intro hn1 (And.intro hn4 hs7))))
  clear hg up k0 ks hnn hmm hn1 hn4 hs7
  go_enter Tryz.func6, Tryz.ntmps6
  go_wp2_with fail
  refine (examples02_any b _ HG.out).mono ?_
  rintro e w1 ⟨rfl, hb1⟩
  have hz := HKS.out
  have pb := (hb1.block w.heap.size (by omega)).trans HK0.out
  have hlt : w.heap.size < w1.heap.size := by have := hb1.size; omega
  have HB1 := Lib.hid (HUP.out.trans (hb1.mono (by omega)))
  clear hb1 hz
  have t0 : w1.cell? ⟨w.heap.size, 0, none⟩ = some (.string s0) := (Lib.cell_of_heap pb 0).trans rfl
  have t1 : w1.cell? ⟨w.heap.size, 1, none⟩ = some (.int .u64 (n1 : Int)) := (Lib.cell_of_heap pb 1).trans rfl
  have t2 : w1.cell? ⟨w.heap.size, 2, none⟩ = some (.string s2) := (Lib.cell_of_heap pb 2).trans rfl
  have t3 : w1.cell? ⟨w.heap.size, 3, none⟩ = some (.slice a3 l3 c3) := (Lib.cell_of_heap pb 3).trans rfl
  have t4 : w1.cell? ⟨w.heap.size, 4, none⟩ = some (.int .u64 (n4 : Int)) := (Lib.cell_of_heap pb 4).trans rfl
  have t5 : w1.cell? ⟨w.heap.size, 5, none⟩ = some (.string s5) := (Lib.cell_of_heap pb 5).trans rfl
  have t6 : w1.cell? ⟨w.heap.size, 6, none⟩ = some (.slice a6 l6 c6) := (Lib.cell_of_heap pb 6).trans rfl
  have t7 : w1.cell? ⟨w.heap.size, 7, none⟩ = some (.string s7) := (Lib.cell_of_heap pb 7).trans rfl
  have t8 : w1.cell? ⟨w.heap.size, 8, none⟩ = some (.int .i64 kd) := (Lib.cell_of_heap pb 8).trans rfl
  have t9 : w1.cell? ⟨w.heap.size, 9, none⟩ = some (.bool own) := (Lib.cell_of_heap pb 9).trans rfl
  have t10 : w1.cell? ⟨w.heap.size, 10, none⟩ = some (.int .u8 (nn : Int)) := (Lib.cell_of_heap pb 10).trans rfl
  have t11 : w1.cell? ⟨w.heap.size, 11, none⟩ = some (.int .u8 (mm : Int)) := (Lib.cell_of_heap pb 11).trans rfl
  have tf9 := Lib.frozen_of_heap pb 9
  clear pb
  go_wp2_with fail
  obtain ⟨kk, hm⟩ := made_any s0 s2 s5 s7 n1 n4 nn mm a3 a6 l3 c3 l6 c6 kd (w1.setCell ⟨w.heap.size, 9, none⟩ (.bool true)) HM.out.1 HM.out.2.1 HM.out.2.2.1 HM.out.2.2.2.1 HM.out.2.2.2.2
  refine hm.mono ?_
  rintro e w2 ⟨p, r3, d3, r6, d6, rfl, hok, hr3, hr6, hb2⟩
  have HB2 := Lib.hid ((HB1.out.setCell (p := ⟨w.heap.size, 9, none⟩) (Nat.le_refl _) (.bool true)).trans (hb2.mono (by simp; omega)))
  have HOK := Lib.hid hok
  have HR3 := Lib.hid hr3
  have HR6 := Lib.hid hr6
  clear hm hb2 hok hr3 hr6 t0 t1 t2 t3 t4 t5 t6 t7 t8 t9 t10 t11 tf9
  have HOL := Lib.hid (own_len HOK.out)
  have HGW2 := Lib.hid (HGW.out.below HB2.out)
  have k0 := World.alloc_heap_new w2 (.cells #[.string p.name, .int .u64 (p.port : Int), .string p.route, .slice r3 p.rules.length d3, .int .u64 (p.policy : Int), .string p.secret, .slice r6 p.addrs.length d6, .string p.key] 26)
  have up2 := below_f w2 (.cells #[.string p.name, .int .u64 (p.port : Int), .string p.route, .slice r3 p.rules.length d3, .int .u64 (p.policy : Int), .string p.secret, .slice r6 p.addrs.length d6, .string p.key] 26)
  obtain ⟨hoth, hmo, hm5, hK⟩ := HMO.out
  have e1 : (other : Int).tmod 5 = (m : Int) := by rw [Int.tmod_eq_emod_of_nonneg (by omega)]; omega
  have e2 : IntKind.u8.wrap (m : Int) = (m : Int) := IntWalk.u8_in _ (by omega)
  have e3 : IntKind.i64.wrap (m : Int) = (m : Int) := IntWalk.i64_in _ (by omega)
  have e4 : IntKind.i64.wrap (1 + (m : Int)) = K := by rw [hK]; exact IntWalk.i64_in _ (by omega)
  go_wp2_with fail
  obtain ⟨w3, hw3⟩ : ∃ w3, w2.alloc (.cells #[.string p.name, .int .u64 (p.port : Int), .string p.route, .slice r3 p.rules.length d3, .int .u64 (p.policy : Int), .string p.secret, .slice r6 p.addrs.length d6, .string p.key] 26) = w3 := ⟨_, rfl⟩
  have hz3 : w3.heap.size = w2.heap.size + 1 := by rw [← hw3, World.size_alloc]
  rw [hw3]
  rw [hw3] at k0 up2
  have HB3 := Lib.hid (HB2.out.trans (up2.mono HB2.out.size))
  have HG3 := Lib.hid (HGW2.out.below up2)
  have P3 := Lib.hid (HR3.out.below up2)
  have P6 := Lib.hid (HR6.out.below up2)
  have HK0 := Lib.hid k0
  clear hw3 up2 k0
  obtain ⟨S, hS⟩ : ∃ S, p.puts (hasI kk) = S := ⟨_, rfl⟩
  have hput := put_any' kk p r3 r6 d3 d6 b w3 HG3.out P3.out P6.out HOK.out.ok (by have := own_puts_len HOK.out (hasI_8 kk); omega) (fun _ _ => by have := own_puts_len HOK.out (hasNotI_8 kk); omega)
  rw [putOf_own (own_has HOK.out) HOK.out.fits HOK.out.only, hS] at hput
  have HSL := Lib.hid (show S.length ≤ 2080 by rw [← hS]; exact own_puts_len HOK.out (hasI_8 kk))
  have HS := Lib.hid hS
  clear hS
  refine hput.mono ?_
  clear hput
  rintro e w4 ⟨rfl, hb4⟩
  have q0 := (hb4.block w2.heap.size (by omega)).trans HK0.out
  have HK4 := Lib.hid q0
  have P34 := Lib.hid (P3.out.below hb4)
  have P64 := Lib.hid (P6.out.below hb4)
  have HB4 := Lib.hid (HB3.out.trans (hb4.mono HB3.out.size))
  have HG4 := Lib.hid (HG3.out.below hb4)
  have hz4 : w2.heap.size < w4.heap.size := by have := hb4.size; omega
  have u0 : w4.cell? ⟨w2.heap.size, 0, none⟩ = some (.string p.name) := (Lib.cell_of_heap q0 0).trans rfl
  have u1 : w4.cell? ⟨w2.heap.size, 1, none⟩ = some (.int .u64 (p.port : Int)) := (Lib.cell_of_heap q0 1).trans rfl
  have u2 : w4.cell? ⟨w2.heap.size, 2, none⟩ = some (.string p.route) := (Lib.cell_of_heap q0 2).trans rfl
  have u3 : w4.cell? ⟨w2.heap.size, 3, none⟩ = some (.slice r3 p.rules.length d3) := (Lib.cell_of_heap q0 3).trans rfl
  have u4 : w4.cell? ⟨w2.heap.size, 4, none⟩ = some (.int .u64 (p.policy : Int)) := (Lib.cell_of_heap q0 4).trans rfl
  have u5 : w4.cell? ⟨w2.heap.size, 5, none⟩ = some (.string p.secret) := (Lib.cell_of_heap q0 5).trans rfl
  have u6 : w4.cell? ⟨w2.heap.size, 6, none⟩ = some (.slice r6 p.addrs.length d6) := (Lib.cell_of_heap q0 6).trans rfl
  have u7 : w4.cell? ⟨w2.heap.size, 7, none⟩ = some (.string p.key) := (Lib.cell_of_heap q0 7).trans rfl
  clear hb4 q0 e1 e2 e3 e4 hoth hmo hm5 hK
  go_wp2_with fail
  obtain ⟨T, o, hTO⟩ : ∃ T o, p.putOf K = (T, o) := ⟨_, _, rfl⟩
  have hput := put_any' K p r3 r6 d3 d6 b w4 HG4.out P34.out P64.out HOK.out.ok (by have := own_puts_len HOK.out (hasI_8 K); omega) (fun _ _ => by have := own_puts_len HOK.out (hasNotI_8 K); omega)
  rw [hTO] at hput
  have HTO := Lib.hid hTO
  clear hTO
  refine hput.mono ?_
  clear hput u0 u1 u2 u3 u4 u5 u6 u7
  rintro e w5 ⟨rfl, hb5⟩
  have q0 := (hb5.block w2.heap.size (by omega)).trans HK4.out
  have HK5 := Lib.hid q0
  have P35 := Lib.hid (P34.out.below hb5)
  have P65 := Lib.hid (P64.out.below hb5)
  have HB5 := Lib.hid (HB4.out.trans (hb5.mono HB4.out.size))
  have HG5 := Lib.hid (HG4.out.below hb5)
  have hz5 : w2.heap.size < w5.heap.size := by have := hb5.size; omega
  have u0 : w5.cell? ⟨w2.heap.size, 0, none⟩ = some (.string p.name) := (Lib.cell_of_heap q0 0).trans rfl
  have u1 : w5.cell? ⟨w2.heap.size, 1, none⟩ = some (.int .u64 (p.port : Int)) := (Lib.cell_of_heap q0 1).trans rfl
  have u2 : w5.cell? ⟨w2.heap.size, 2, none⟩ = some (.string p.route) := (Lib.cell_of_heap q0 2).trans rfl
  have u3 : w5.cell? ⟨w2.heap.size, 3, none⟩ = some (.slice r3 p.rules.length d3) := (Lib.cell_of_heap q0 3).trans rfl
  have u4 : w5.cell? ⟨w2.heap.size, 4, none⟩ = some (.int .u64 (p.policy : Int)) := (Lib.cell_of_heap q0 4).trans rfl
  have u5 : w5.cell? ⟨w2.heap.size, 5, none⟩ = some (.string p.secret) := (Lib.cell_of_heap q0 5).trans rfl
  have u6 : w5.cell? ⟨w2.heap.size, 6, none⟩ = some (.slice r6 p.addrs.length d6) := (Lib.cell_of_heap q0 6).trans rfl
  have u7 : w5.cell? ⟨w2.heap.size, 7, none⟩ = some (.string p.key) := (Lib.cell_of_heap q0 7).trans rfl
  clear hb5 q0
  go_wp2_with fail
  obtain ⟨r, hr, h1, h2⟩ : ∃ r, Pl.getOf K (⟨S.toArray⟩ : ByteArray).data.toList = some r ∧ (K = kk → r = p) ∧ (K ≠ kk → r = bareP p.name) := by
    have e : (⟨S.toArray⟩ : ByteArray).data.toList = S := by simp
    rw [e, ← HS.out]
    by_cases hk : K = kk
    · exact ⟨p, by rw [hk]; exact getOf_own (own_has HOK.out) HOK.out.fits HOK.out.only, fun _ => rfl, fun h => absurd hk h⟩
    · exact ⟨_, getOf_other HKI.out (own_has HOK.out) hk HOK.out.fits, fun h => absurd h hk, fun _ => rfl⟩
  have HR1 := Lib.hid h1
  have HR2 := Lib.hid h2
  have hget := get_any K ⟨S.toArray⟩ b w5 HG5.out (by have := HSL.out; simp only [ByteArray.size, List.size_toArray]; omega)
  rw [hr] at hget
  clear h1 h2 hr
  refine hget.mono ?_
  clear hget u0 u1 u2 u3 u4 u5 u6 u7
  rintro e w6 ⟨⟨x3, y3, x6, y6, rfl, o3, o6, l3, l6⟩, hb6⟩
  have HQ3 := Lib.hid (rulesAt_row o3)
  have HQ6 := Lib.hid (addrsAt_row o6)
  have HQL := Lib.hid (And.intro l3 l6)
  have HML := Lib.hid (show (64 : Nat) ≤ maxLen from of_decide_eq_true (by kernel_rfl))
  have q0 := (hb6.block w2.heap.size (by omega)).trans HK5.out
  have HK6 := Lib.hid q0
  have P36 := Lib.hid (P35.out.below hb6)
  have P66 := Lib.hid (P65.out.below hb6)
  have HB6 := Lib.hid (HB5.out.trans (hb6.mono HB5.out.size))
  have HG6 := Lib.hid (HG5.out.below hb6)
  have hz6 : w2.heap.size < w6.heap.size := by have := hb6.size; omega
  have u0 : w6.cell? ⟨w2.heap.size, 0, none⟩ = some (.string p.name) := (Lib.cell_of_heap q0 0).trans rfl
  have u1 : w6.cell? ⟨w2.heap.size, 1, none⟩ = some (.int .u64 (p.port : Int)) := (Lib.cell_of_heap q0 1).trans rfl
  have u2 : w6.cell? ⟨w2.heap.size, 2, none⟩ = some (.string p.route) := (Lib.cell_of_heap q0 2).trans rfl
  have u3 : w6.cell? ⟨w2.heap.size, 3, none⟩ = some (.slice r3 p.rules.length d3) := (Lib.cell_of_heap q0 3).trans rfl
  have u4 : w6.cell? ⟨w2.heap.size, 4, none⟩ = some (.int .u64 (p.policy : Int)) := (Lib.cell_of_heap q0 4).trans rfl
  have u5 : w6.cell? ⟨w2.heap.size, 5, none⟩ = some (.string p.secret) := (Lib.cell_of_heap q0 5).trans rfl
  have u6 : w6.cell? ⟨w2.heap.size, 6, none⟩ = some (.slice r6 p.addrs.length d6) := (Lib.cell_of_heap q0 6).trans rfl
  have u7 : w6.cell? ⟨w2.heap.size, 7, none⟩ = some (.string p.key) := (Lib.cell_of_heap q0 7).trans rfl
  have k9 := World.alloc_heap_new w6 (.cells #[.string r.name, .int .u64 (r.port : Int), .string r.route, .slice x3 r.rules.length y3, .int .u64 (r.policy : Int), .string r.secret, .slice x6 r.addrs.length y6, .string r.key] 26)
  have up6 := below_f w6 (.cells #[.string r.name, .int .u64 (r.port : Int), .string r.route, .slice x3 r.rules.length y3, .int .u64 (r.policy : Int), .string r.secret, .slice x6 r.addrs.length y6, .string r.key] 26)
  have hs6 := World.size_alloc w6 (.cells #[.string r.name, .int .u64 (r.port : Int), .string r.route, .slice x3 r.rules.length y3, .int .u64 (r.policy : Int), .string r.secret, .slice x6 r.addrs.length y6, .string r.key] 26)
  clear hb6 q0 o3 o6 l3 l6
  go_wp2_with fail
  obtain ⟨w7, hw7⟩ : ∃ w7, w6.alloc (.cells #[.string r.name, .int .u64 (r.port : Int), .string r.route, .slice x3 r.rules.length y3, .int .u64 (r.policy : Int), .string r.secret, .slice x6 r.addrs.length y6, .string r.key] 26) = w7 := ⟨_, rfl⟩
  rw [hw7]
  rw [hw7] at k9 up6 hs6
  have HW7 := Lib.hid k9
  have q0 := (up6.block w2.heap.size (by omega)).trans HK6.out
  have HK7 := Lib.hid q0
  have P37 := Lib.hid (P36.out.below up6)
  have P67 := Lib.hid (P66.out.below up6)
  have HB7 := Lib.hid (HB6.out.trans (up6.mono HB6.out.size))
  have HG7 := Lib.hid (HG6.out.below up6)
  have hz7 : w2.heap.size < w7.heap.size := by have := up6.size; omega
  have v0 : w7.cell? ⟨w2.heap.size, 0, none⟩ = some (.string p.name) := (Lib.cell_of_heap q0 0).trans rfl
  have v1 : w7.cell? ⟨w2.heap.size, 1, none⟩ = some (.int .u64 (p.port : Int)) := (Lib.cell_of_heap q0 1).trans rfl
  have v2 : w7.cell? ⟨w2.heap.size, 2, none⟩ = some (.string p.route) := (Lib.cell_of_heap q0 2).trans rfl
  have v3 : w7.cell? ⟨w2.heap.size, 3, none⟩ = some (.slice r3 p.rules.length d3) := (Lib.cell_of_heap q0 3).trans rfl
  have v4 : w7.cell? ⟨w2.heap.size, 4, none⟩ = some (.int .u64 (p.policy : Int)) := (Lib.cell_of_heap q0 4).trans rfl
  have v5 : w7.cell? ⟨w2.heap.size, 5, none⟩ = some (.string p.secret) := (Lib.cell_of_heap q0 5).trans rfl
  have v6 : w7.cell? ⟨w2.heap.size, 6, none⟩ = some (.slice r6 p.addrs.length d6) := (Lib.cell_of_heap q0 6).trans rfl
  have v7 : w7.cell? ⟨w2.heap.size, 7, none⟩ = some (.string p.key) := (Lib.cell_of_heap q0 7).trans rfl
  have HQ37 := Lib.hid (HQ3.out.below up6)
  have HQ67 := Lib.hid (HQ6.out.below up6)
  clear hw7 up6 k9 q0 v0 v1 v2 v3 v4 v5 v6 v7 u0 u1 u2 u3 u4 u5 u6 u7
  have hh := same_name p p.name r3 r6 d3 d6 w7 P37.out P67.out (by have := HOL.out; have := HML.out; omega) (by have := HOL.out; have := HML.out; omega)
  refine hh.mono ?_
  clear hh
  rintro e w8 ⟨rfl, hb8⟩
  have q9 := (hb8.block w6.heap.size (by omega)).trans HW7.out
  have HW8 := Lib.hid q9
  have HQ38 := Lib.hid (HQ37.out.below hb8)
  have HQ68 := Lib.hid (HQ67.out.below hb8)
  have q0 := (hb8.block w2.heap.size (by omega)).trans HK7.out
  have HK8 := Lib.hid q0
  have P38 := Lib.hid (P37.out.below hb8)
  have P68 := Lib.hid (P67.out.below hb8)
  have HB8 := Lib.hid (HB7.out.trans (hb8.mono HB7.out.size))
  have HG8 := Lib.hid (HG7.out.below hb8)
  have hz8 : w2.heap.size < w8.heap.size := by have := hb8.size; omega
  have u0 : w8.cell? ⟨w2.heap.size, 0, none⟩ = some (.string p.name) := (Lib.cell_of_heap q0 0).trans rfl
  have u1 : w8.cell? ⟨w2.heap.size, 1, none⟩ = some (.int .u64 (p.port : Int)) := (Lib.cell_of_heap q0 1).trans rfl
  have u2 : w8.cell? ⟨w2.heap.size, 2, none⟩ = some (.string p.route) := (Lib.cell_of_heap q0 2).trans rfl
  have u3 : w8.cell? ⟨w2.heap.size, 3, none⟩ = some (.slice r3 p.rules.length d3) := (Lib.cell_of_heap q0 3).trans rfl
  have u4 : w8.cell? ⟨w2.heap.size, 4, none⟩ = some (.int .u64 (p.policy : Int)) := (Lib.cell_of_heap q0 4).trans rfl
  have u5 : w8.cell? ⟨w2.heap.size, 5, none⟩ = some (.string p.secret) := (Lib.cell_of_heap q0 5).trans rfl
  have u6 : w8.cell? ⟨w2.heap.size, 6, none⟩ = some (.slice r6 p.addrs.length d6) := (Lib.cell_of_heap q0 6).trans rfl
  have u7 : w8.cell? ⟨w2.heap.size, 7, none⟩ = some (.string p.key) := (Lib.cell_of_heap q0 7).trans rfl
  have v0 : w8.cell? ⟨w6.heap.size, 0, none⟩ = some (.string r.name) := (Lib.cell_of_heap q9 0).trans rfl
  have v1 : w8.cell? ⟨w6.heap.size, 1, none⟩ = some (.int .u64 (r.port : Int)) := (Lib.cell_of_heap q9 1).trans rfl
  have v2 : w8.cell? ⟨w6.heap.size, 2, none⟩ = some (.string r.route) := (Lib.cell_of_heap q9 2).trans rfl
  have v3 : w8.cell? ⟨w6.heap.size, 3, none⟩ = some (.slice x3 r.rules.length y3) := (Lib.cell_of_heap q9 3).trans rfl
  have v4 : w8.cell? ⟨w6.heap.size, 4, none⟩ = some (.int .u64 (r.policy : Int)) := (Lib.cell_of_heap q9 4).trans rfl
  have v5 : w8.cell? ⟨w6.heap.size, 5, none⟩ = some (.string r.secret) := (Lib.cell_of_heap q9 5).trans rfl
  have v6 : w8.cell? ⟨w6.heap.size, 6, none⟩ = some (.slice x6 r.addrs.length y6) := (Lib.cell_of_heap q9 6).trans rfl
  have v7 : w8.cell? ⟨w6.heap.size, 7, none⟩ = some (.string r.key) := (Lib.cell_of_heap q9 7).trans rfl
  clear hb8 q0 q9
  by_cases hk : K = kk
  · have hq : (K == kk) = true := by simpa using hk
    have hsame : p.same r = true := by rw [HR1.out hk]; exact Pl.same_refl p
    have hTo : T = ⟨S.toArray⟩ ∧ o = true := by
      have h := HTO.out
      rw [hk, putOf_own (own_has HOK.out) HOK.out.fits HOK.out.only, HS.out] at h
      cases h; exact ⟨rfl, rfl⟩
    obtain ⟨rfl, rfl⟩ := hTo
    have HSA := Lib.hid hsame
    clear hsame hk
    go_wp2_with fail
    have hh := same_any' p r r3 r6 x3 x6 d3 d6 y3 y6 w8 P38.out P68.out HQ38.out HQ68.out (by have := HOL.out; have := HML.out; omega) (by have := HOL.out; have := HML.out; omega) (by have := HQL.out; have := HML.out; omega) (by have := HQL.out; have := HML.out; omega)
    rw [HSA.out] at hh
    refine hh.mono ?_
    clear hh
    rintro e w9 ⟨rfl, hb9⟩
    have HB9 := Lib.hid (HB8.out.trans (hb9.mono HB8.out.size))
    clear hb9 u0 u1 u2 u3 u4 u5 u6 u7 v0 v1 v2 v3 v4 v5 v6 v7
    go_wp2_with fail
    go_ret
    exact ⟨rfl, HB9.out⟩
  · have hq : (K == kk) = false := by simpa using hk
    have hsame : r.same (bareP p.name) = true := by rw [HR2.out hk]; exact Pl.same_refl _
    have hTo : o = p.same (bareP p.name) := by
      have h := putOf_other HKI.out (own_has HOK.out) hk HOK.out.fits HOK.out.only
      rw [HTO.out] at h
      exact h
    subst hTo
    have HSA := Lib.hid hsame
    clear hsame hk
    go_wp2_with fail
    have hh := same_name r p.name x3 x6 y3 y6 w8 HQ38.out HQ68.out (by have := HQL.out; have := HML.out; omega) (by have := HQL.out; have := HML.out; omega)
    rw [HSA.out] at hh
    refine hh.mono ?_
    clear hh
    rintro e w9 ⟨rfl, hb9⟩
    have HB9 := Lib.hid (HB8.out.trans (hb9.mono HB8.out.size))
    clear hb9 u0 u1 u2 u3 u4 u5 u6 u7 v0 v1 v2 v3 v4 v5 v6 v7
    go_wp2_with fail
    go_ret
    exact ⟨rfl, HB9.out⟩
end Go.Proofs.YtlefeihfkgijoaaGreatDoor.lawTypes
