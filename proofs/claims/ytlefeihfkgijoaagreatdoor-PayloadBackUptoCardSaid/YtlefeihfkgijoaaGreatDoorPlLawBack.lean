/- payload: PayloadBack: the walks (written by tools/lawback2_gen.py). -/
import Derived.Test.YtlefeihfkgijoaaGreatDoorPlOpen
import Derived.Test.YtlefeihfkgijoaaGreatDoorPlTrip
import Derived.Test.YtlefeihfkgijoaaGreatDoorPlEx
namespace Go.Proofs.YtlefeihfkgijoaaGreatDoor.lawBackP
open Go.RowKit Go.Shelf

theorem same_name (p : Pl) (n : ByteArray) (a3 a6 : Option Addr) (c3 c6 : Nat) (w : World) (hp3 : RulesAt w a3 p.rules) (hp6 : AddrsAt w a6 p.addrs) (l1 : p.rules.length ≤ maxLen) (l2 : p.addrs.length ≤ maxLen) :
    Calls Tryz.prog 20 #[plV p a3 c3 a6 c6, .agg #[.string n, .int .u64 0, .string ⟨#[]⟩, .slice none 0 0, .int .u64 0, .string ⟨#[]⟩, .slice none 0 0, .string ⟨#[]⟩]] w fun e w' => e = .returned (.bool (p.same (bareP n))) ∧ Below w.heap.size w w' :=
  same_any' p (bareP n) a3 a6 none none c3 c6 0 0 w hp3 hp6 (none_rules _ _) (none_addrs _ _) l1 l2 (Nat.zero_le _) (Nat.zero_le _)
theorem has_one (m : Nat) (h : m < 5) : (hasOf (1 + (m : Int))).2 = true := by
  match m, h with
  | 0, _ => rfl
  | 1, _ => rfl
  | 2, _ => rfl
  | 3, _ => rfl
  | 4, _ => rfl
theorem hasI_8 (k : Int) : (hasI k).length ≤ 8 := by unfold hasI; repeat' split
                                                     all_goals simp
theorem hasNotI_8 (k : Int) : (hasNotI k).length ≤ 8 := by unfold hasNotI; repeat' split
                                                           all_goals simp
theorem num_big (num : Nat) (h : num < 65536) : ∃ κ : Int, 9 + (num : Int) = κ ∧ 9 ≤ κ ∧ κ ≤ 65544 ∧ IntKind.i64.wrap (9 + (num : Int)) = κ ∧ IntKind.i64.wrap (num : Int) = (num : Int) :=
  ⟨_, rfl, by omega, by omega, IntWalk.i64_in _ (by omega), IntWalk.i64_in _ (by omega)⟩
theorem hasI_le (k : Int) : ∀ j ∈ hasI k, j ≤ 7 := by
  unfold hasI
  repeat' split
  all_goals decide
theorem hasI_zero {k : Int} (h : (hasOf k).2 = true) : 0 ∈ hasI k := by
  rcases hasOf_cases h with rfl | rfl | rfl | rfl | rfl <;> decide
theorem data_app (a b : ByteArray) : (a ++ b).data.toList = a.data.toList ++ b.data.toList := by simp
theorem back_number {k : Int} {p : Pl} (h : OwnOk k p) (κ : Int) (n : Nat) (h9 : 9 ≤ κ) (h10 : κ ≤ 65544) (hn : n < 2 ^ 64) : Pl.getOf k (p.puts (hasI k) ++ numberL κ n) = some p := by
  rw [getOf_then (own_has h) h.fits h.only (Ps.number κ n hn (by omega) (by omega))]
  refine takes_miss fun f hf j hj => ?_
  simp only [List.mem_singleton] at hf
  subst hf
  have := hasI_le k j hj
  show j + 1 ≠ κ.toNat
  omega
theorem back_text {k : Int} {p : Pl} (h : OwnOk k p) (s : ByteArray) (hs : s.size < 2 ^ 64) : Pl.getOf k (p.puts (hasI k) ++ textL 1 s) = some { p with name := s } := by
  rw [getOf_then (own_has h) h.fits h.only (Ps.text 1 s hs (by decide) (by decide))]
  have h1 : Pl.one (hasI k) p ⟨1, 2, 0, s.data.toList⟩ = some { p with name := s } := by
    unfold Pl.one
    rw [one_hit (i := 0) rfl rfl (hasI_zero (own_has h))]
    rfl
  show takes _ [⟨1, 2, 0, s.data.toList⟩] p = _
  simp only [takes, h1]

set_option maxRecDepth 100000 in
set_option maxHeartbeats 4000000 in
theorem walk (s0 s2 s5 s7 : ByteArray) (n1 n4 nn mm num n : Nat) (a3 a6 : Option Addr) (l3 c3 l6 c6 : Nat) (kd : Int) (own : Bool) (name : ByteArray) (b : Addr) (w : World) (hg : Gv b w) (hnn : nn < 256) (hmm : mm < 256) (hn1 : n1 < 2 ^ 64) (hn4 : n4 < 2 ^ 64) (hs7 : s7.size ≤ 140737488355328) (hnum : num < 65536) (hn : n < 2 ^ 64) (hname : name.size ≤ 1048576) :
    Calls Tryz.prog 5 #[.agg #[.string s0, .int .u64 (n1 : Int), .string s2, .slice a3 l3 c3, .int .u64 (n4 : Int), .string s5, .slice a6 l6 c6, .string s7, .int .i64 kd, .bool own, .int .u8 (nn : Int), .int .u8 (mm : Int)], .string name, .int .u16 (num : Int), .int .u64 (n : Int)] w fun e w' => e = .returned (.bool true) ∧ Below w.heap.size w w' := by
  obtain ⟨κ, hκ, h9, h10, e1, e2⟩ := num_big num hnum
  have HMO := Lib.hid (And.intro h9 (And.intro h10 (And.intro e1 (And.intro e2 (And.intro hn hname)))))
  obtain ⟨NN, hNN⟩ : ∃ NN : ByteArray, (⟨(numberL κ n).toArray⟩ : ByteArray) = NN := ⟨_, rfl⟩
  obtain ⟨TT, hTT⟩ : ∃ TT : ByteArray, (⟨(textL 1 name).toArray⟩ : ByteArray) = TT := ⟨_, rfl⟩
  have HN := Lib.hid hNN
  have HT := Lib.hid hTT
  have HZ := Lib.hid (show NN.size ≤ 20 ∧ TT.size ≤ 1048600 by
    have h1 := numberL_le κ n
    have h2 := textL_le 1 name
    rw [← hNN, ← hTT]
    simp only [ByteArray.size, List.size_toArray] at *
    omega)
  clear hκ h9 h10 e1 e2 hnum hn hname hNN hTT
  have up := below_alloc w (.cells #[.string s0, .int .u64 (n1 : Int), .string s2, .slice a3 l3 c3, .int .u64 (n4 : Int), .string s5, .slice a6 l6 c6, .string s7, .int .i64 kd, .bool own, .int .u8 (nn : Int), .int .u8 (mm : Int)] 28)
  have k0 := World.alloc_heap_new w (.cells #[.string s0, .int .u64 (n1 : Int), .string s2, .slice a3 l3 c3, .int .u64 (n4 : Int), .string s5, .slice a6 l6 c6, .string s7, .int .i64 kd, .bool own, .int .u8 (nn : Int), .int .u8 (mm : Int)] 28)
  have ks := World.size_alloc w (.cells #[.string s0, .int .u64 (n1 : Int), .string s2, .slice a3 l3 c3, .int .u64 (n4 : Int), .string s5, .slice a6 l6 c6, .string s7, .int .i64 kd, .bool own, .int .u8 (nn : Int), .int .u8 (mm : Int)] 28)
  have HGW := Lib.hid hg
  have HG := Lib.hid (hg.below up)
  have HUP := Lib.hid up
  have HK0 := Lib.hid k0
  have HKS := Lib.hid ks
  have HM := Lib.hid (And.intro hnn (And.intro hmm (And.intro hn1 (And.intro hn4 hs7))))
  clear hg up k0 ks hnn hmm hn1 hn4 hs7
  go_enter Tryz.func5, Tryz.ntmps5
  go_wp2_with fail
  refine (examples02_any b _ HG.out).mono ?_
  rintro e w1 ⟨rfl, hb1⟩
  have hz := HKS.out
  have pb := (hb1.block w.heap.size (by omega)).trans HK0.out
  have hlt : w.heap.size < w1.heap.size := by have := hb1.size; omega
  have HB1 := Lib.hid (HUP.out.trans (hb1.mono (by omega)))
  clear hb1 hz
  have t0 : w1.cell? ⟨w.heap.size, 0, none⟩ = some (.string s0) := (Lib.cell_of_heap pb 0).trans rfl
  have t1 : w1.cell? ⟨w.heap.size, 1, none⟩ = some (.int .u64 (n1 : Int)) := (Lib.cell_of_heap pb 1).trans rfl
  have t2 : w1.cell? ⟨w.heap.size, 2, none⟩ = some (.string s2) := (Lib.cell_of_heap pb 2).trans rfl
  have t3 : w1.cell? ⟨w.heap.size, 3, none⟩ = some (.slice a3 l3 c3) := (Lib.cell_of_heap pb 3).trans rfl
  have t4 : w1.cell? ⟨w.heap.size, 4, none⟩ = some (.int .u64 (n4 : Int)) := (Lib.cell_of_heap pb 4).trans rfl
  have t5 : w1.cell? ⟨w.heap.size, 5, none⟩ = some (.string s5) := (Lib.cell_of_heap pb 5).trans rfl
  have t6 : w1.cell? ⟨w.heap.size, 6, none⟩ = some (.slice a6 l6 c6) := (Lib.cell_of_heap pb 6).trans rfl
  have t7 : w1.cell? ⟨w.heap.size, 7, none⟩ = some (.string s7) := (Lib.cell_of_heap pb 7).trans rfl
  have t8 : w1.cell? ⟨w.heap.size, 8, none⟩ = some (.int .i64 kd) := (Lib.cell_of_heap pb 8).trans rfl
  have t9 : w1.cell? ⟨w.heap.size, 9, none⟩ = some (.bool own) := (Lib.cell_of_heap pb 9).trans rfl
  have t10 : w1.cell? ⟨w.heap.size, 10, none⟩ = some (.int .u8 (nn : Int)) := (Lib.cell_of_heap pb 10).trans rfl
  have t11 : w1.cell? ⟨w.heap.size, 11, none⟩ = some (.int .u8 (mm : Int)) := (Lib.cell_of_heap pb 11).trans rfl
  have tf9 := Lib.frozen_of_heap pb 9
  clear pb
  go_wp2_with fail
  obtain ⟨kk, hm⟩ := made_any s0 s2 s5 s7 n1 n4 nn mm a3 a6 l3 c3 l6 c6 kd (w1.setCell ⟨w.heap.size, 9, none⟩ (.bool true)) HM.out.1 HM.out.2.1 HM.out.2.2.1 HM.out.2.2.2.1 HM.out.2.2.2.2
  refine hm.mono ?_
  rintro e w2 ⟨p, r3, d3, r6, d6, rfl, hok, hr3, hr6, hb2⟩
  have HB2 := Lib.hid ((HB1.out.setCell (p := ⟨w.heap.size, 9, none⟩) (Nat.le_refl _) (.bool true)).trans (hb2.mono (by simp; omega)))
  have HOK := Lib.hid hok
  have HR3 := Lib.hid hr3
  have HR6 := Lib.hid hr6
  clear hm hb2 hok hr3 hr6 t0 t1 t2 t3 t4 t5 t6 t7 t8 t9 t10 t11 tf9
  have HOL := Lib.hid (own_len HOK.out)
  have HGW2 := Lib.hid (HGW.out.below HB2.out)
  have k0 := World.alloc_heap_new w2 (.cells #[.string p.name, .int .u64 (p.port : Int), .string p.route, .slice r3 p.rules.length d3, .int .u64 (p.policy : Int), .string p.secret, .slice r6 p.addrs.length d6, .string p.key] 26)
  have up2 := below_f w2 (.cells #[.string p.name, .int .u64 (p.port : Int), .string p.route, .slice r3 p.rules.length d3, .int .u64 (p.policy : Int), .string p.secret, .slice r6 p.addrs.length d6, .string p.key] 26)
  go_wp2_with fail
  obtain ⟨w3, hw3⟩ : ∃ w3, w2.alloc (.cells #[.string p.name, .int .u64 (p.port : Int), .string p.route, .slice r3 p.rules.length d3, .int .u64 (p.policy : Int), .string p.secret, .slice r6 p.addrs.length d6, .string p.key] 26) = w3 := ⟨_, rfl⟩
  have hz3 : w3.heap.size = w2.heap.size + 1 := by rw [← hw3, World.size_alloc]
  rw [hw3]
  rw [hw3] at k0 up2
  have HB3 := Lib.hid (HB2.out.trans (up2.mono HB2.out.size))
  have HG3 := Lib.hid (HGW2.out.below up2)
  have P3 := Lib.hid (HR3.out.below up2)
  have P6 := Lib.hid (HR6.out.below up2)
  have HK0 := Lib.hid k0
  clear hw3 up2 k0
  obtain ⟨S, hS⟩ : ∃ S, p.puts (hasI kk) = S := ⟨_, rfl⟩
  have hput := put_any' kk p r3 r6 d3 d6 b w3 HG3.out P3.out P6.out HOK.out.ok (by have := own_puts_len HOK.out (hasI_8 kk); omega) (fun _ _ => by have := own_puts_len HOK.out (hasNotI_8 kk); omega)
  rw [putOf_own (own_has HOK.out) HOK.out.fits HOK.out.only, hS] at hput
  have HSL := Lib.hid (show S.length ≤ 2080 by rw [← hS]; exact own_puts_len HOK.out (hasI_8 kk))
  have HS := Lib.hid hS
  clear hS
  obtain ⟨BS, hBS⟩ : ∃ BS : ByteArray, (⟨S.toArray⟩ : ByteArray) = BS := ⟨_, rfl⟩
  rw [hBS] at hput
  have hbz : BS.size ≤ 2080 := by rw [← hBS]; exact HSL.out
  have HBD := Lib.hid (show BS.data.toList = p.puts (hasI kk) by rw [← hBS, HS.out])
  clear hBS
  refine hput.mono ?_
  clear hput
  rintro e w4 ⟨rfl, hb4⟩
  have q0 := (hb4.block w2.heap.size (by omega)).trans HK0.out
  have HK4 := Lib.hid q0
  have P34 := Lib.hid (P3.out.below hb4)
  have P64 := Lib.hid (P6.out.below hb4)
  have HB4 := Lib.hid (HB3.out.trans (hb4.mono HB3.out.size))
  have HG4 := Lib.hid (HG3.out.below hb4)
  have hz4 : w2.heap.size < w4.heap.size := by have := hb4.size; omega
  have u0 : w4.cell? ⟨w2.heap.size, 0, none⟩ = some (.string p.name) := (Lib.cell_of_heap q0 0).trans rfl
  have u1 : w4.cell? ⟨w2.heap.size, 1, none⟩ = some (.int .u64 (p.port : Int)) := (Lib.cell_of_heap q0 1).trans rfl
  have u2 : w4.cell? ⟨w2.heap.size, 2, none⟩ = some (.string p.route) := (Lib.cell_of_heap q0 2).trans rfl
  have u3 : w4.cell? ⟨w2.heap.size, 3, none⟩ = some (.slice r3 p.rules.length d3) := (Lib.cell_of_heap q0 3).trans rfl
  have u4 : w4.cell? ⟨w2.heap.size, 4, none⟩ = some (.int .u64 (p.policy : Int)) := (Lib.cell_of_heap q0 4).trans rfl
  have u5 : w4.cell? ⟨w2.heap.size, 5, none⟩ = some (.string p.secret) := (Lib.cell_of_heap q0 5).trans rfl
  have u6 : w4.cell? ⟨w2.heap.size, 6, none⟩ = some (.slice r6 p.addrs.length d6) := (Lib.cell_of_heap q0 6).trans rfl
  have u7 : w4.cell? ⟨w2.heap.size, 7, none⟩ = some (.string p.key) := (Lib.cell_of_heap q0 7).trans rfl
  clear hb4 q0
  obtain ⟨h9, h10, e1, e2, hn, hname⟩ := HMO.out
  have HBZ := Lib.hid hbz
  clear hbz hn hname h9 h10
  go_wp2_with fail
  have hnu := number_any κ n b w4 HG4.out HMO.out.2.2.2.2.1
  rw [HN.out] at hnu
  refine hnu.mono ?_
  clear hnu e1 e2 u0 u1 u2 u3 u4 u5 u6 u7
  rintro e w5 ⟨rfl, hb5⟩
  have q0 := (hb5.block w2.heap.size (by omega)).trans HK4.out
  have HK5 := Lib.hid q0
  have P35 := Lib.hid (P34.out.below hb5)
  have P65 := Lib.hid (P64.out.below hb5)
  have HB5 := Lib.hid (HB4.out.trans (hb5.mono HB4.out.size))
  have HG5 := Lib.hid (HG4.out.below hb5)
  have hz5 : w2.heap.size < w5.heap.size := by have := hb5.size; omega
  have u0 : w5.cell? ⟨w2.heap.size, 0, none⟩ = some (.string p.name) := (Lib.cell_of_heap q0 0).trans rfl
  have u1 : w5.cell? ⟨w2.heap.size, 1, none⟩ = some (.int .u64 (p.port : Int)) := (Lib.cell_of_heap q0 1).trans rfl
  have u2 : w5.cell? ⟨w2.heap.size, 2, none⟩ = some (.string p.route) := (Lib.cell_of_heap q0 2).trans rfl
  have u3 : w5.cell? ⟨w2.heap.size, 3, none⟩ = some (.slice r3 p.rules.length d3) := (Lib.cell_of_heap q0 3).trans rfl
  have u4 : w5.cell? ⟨w2.heap.size, 4, none⟩ = some (.int .u64 (p.policy : Int)) := (Lib.cell_of_heap q0 4).trans rfl
  have u5 : w5.cell? ⟨w2.heap.size, 5, none⟩ = some (.string p.secret) := (Lib.cell_of_heap q0 5).trans rfl
  have u6 : w5.cell? ⟨w2.heap.size, 6, none⟩ = some (.slice r6 p.addrs.length d6) := (Lib.cell_of_heap q0 6).trans rfl
  have u7 : w5.cell? ⟨w2.heap.size, 7, none⟩ = some (.string p.key) := (Lib.cell_of_heap q0 7).trans rfl
  clear hb5 q0
  have hns : ¬ 9223372036854775807 < BS.size + NN.size := by have := HBZ.out; have := HZ.out; omega
  go_wp2_with fail
  have hget := get_any kk (BS ++ NN) b w5 HG5.out (by have := HBZ.out; have := HZ.out; rw [ByteArray.size_append]; omega)
  rw [data_app, HBD.out, ← HN.out] at hget
  rw [show Pl.getOf kk (p.puts (hasI kk) ++ (⟨(numberL κ n).toArray⟩ : ByteArray).data.toList) = some p from back_number HOK.out κ n HMO.out.1 HMO.out.2.1 HMO.out.2.2.2.2.1] at hget
  rw [HN.out] at hget
  refine hget.mono ?_
  clear hget hns u0 u1 u2 u3 u4 u5 u6 u7
  rintro e w6 ⟨⟨x3, y3, x6, y6, rfl, o3, o6, l3, l6⟩, hb6⟩
  have HQ3 := Lib.hid (rulesAt_row o3)
  have HQ6 := Lib.hid (addrsAt_row o6)
  have HQL := Lib.hid (And.intro l3 l6)
  have HML := Lib.hid (show (64 : Nat) ≤ maxLen from of_decide_eq_true (by kernel_rfl))
  have q0 := (hb6.block w2.heap.size (by omega)).trans HK5.out
  have HK6 := Lib.hid q0
  have P36 := Lib.hid (P35.out.below hb6)
  have P66 := Lib.hid (P65.out.below hb6)
  have HB6 := Lib.hid (HB5.out.trans (hb6.mono HB5.out.size))
  have HG6 := Lib.hid (HG5.out.below hb6)
  have hz6 : w2.heap.size < w6.heap.size := by have := hb6.size; omega
  have u0 : w6.cell? ⟨w2.heap.size, 0, none⟩ = some (.string p.name) := (Lib.cell_of_heap q0 0).trans rfl
  have u1 : w6.cell? ⟨w2.heap.size, 1, none⟩ = some (.int .u64 (p.port : Int)) := (Lib.cell_of_heap q0 1).trans rfl
  have u2 : w6.cell? ⟨w2.heap.size, 2, none⟩ = some (.string p.route) := (Lib.cell_of_heap q0 2).trans rfl
  have u3 : w6.cell? ⟨w2.heap.size, 3, none⟩ = some (.slice r3 p.rules.length d3) := (Lib.cell_of_heap q0 3).trans rfl
  have u4 : w6.cell? ⟨w2.heap.size, 4, none⟩ = some (.int .u64 (p.policy : Int)) := (Lib.cell_of_heap q0 4).trans rfl
  have u5 : w6.cell? ⟨w2.heap.size, 5, none⟩ = some (.string p.secret) := (Lib.cell_of_heap q0 5).trans rfl
  have u6 : w6.cell? ⟨w2.heap.size, 6, none⟩ = some (.slice r6 p.addrs.length d6) := (Lib.cell_of_heap q0 6).trans rfl
  have u7 : w6.cell? ⟨w2.heap.size, 7, none⟩ = some (.string p.key) := (Lib.cell_of_heap q0 7).trans rfl
  have k9 := World.alloc_heap_new w6 (.cells #[.string p.name, .int .u64 (p.port : Int), .string p.route, .slice x3 p.rules.length y3, .int .u64 (p.policy : Int), .string p.secret, .slice x6 p.addrs.length y6, .string p.key] 26)
  have up6 := below_f w6 (.cells #[.string p.name, .int .u64 (p.port : Int), .string p.route, .slice x3 p.rules.length y3, .int .u64 (p.policy : Int), .string p.secret, .slice x6 p.addrs.length y6, .string p.key] 26)
  have hs6 := World.size_alloc w6 (.cells #[.string p.name, .int .u64 (p.port : Int), .string p.route, .slice x3 p.rules.length y3, .int .u64 (p.policy : Int), .string p.secret, .slice x6 p.addrs.length y6, .string p.key] 26)
  clear hb6 q0 o3 o6 l3 l6
  go_wp2_with fail
  obtain ⟨w7, hw7⟩ : ∃ w7, w6.alloc (.cells #[.string p.name, .int .u64 (p.port : Int), .string p.route, .slice x3 p.rules.length y3, .int .u64 (p.policy : Int), .string p.secret, .slice x6 p.addrs.length y6, .string p.key] 26) = w7 := ⟨_, rfl⟩
  rw [hw7]
  rw [hw7] at k9 up6 hs6
  have HW7 := Lib.hid k9
  have q0 := (up6.block w2.heap.size (by omega)).trans HK6.out
  have HK7 := Lib.hid q0
  have P37 := Lib.hid (P36.out.below up6)
  have P67 := Lib.hid (P66.out.below up6)
  have HB7 := Lib.hid (HB6.out.trans (up6.mono HB6.out.size))
  have HG7 := Lib.hid (HG6.out.below up6)
  have hz7 : w2.heap.size < w7.heap.size := by have := up6.size; omega
  have v0 : w7.cell? ⟨w2.heap.size, 0, none⟩ = some (.string p.name) := (Lib.cell_of_heap q0 0).trans rfl
  have v1 : w7.cell? ⟨w2.heap.size, 1, none⟩ = some (.int .u64 (p.port : Int)) := (Lib.cell_of_heap q0 1).trans rfl
  have v2 : w7.cell? ⟨w2.heap.size, 2, none⟩ = some (.string p.route) := (Lib.cell_of_heap q0 2).trans rfl
  have v3 : w7.cell? ⟨w2.heap.size, 3, none⟩ = some (.slice r3 p.rules.length d3) := (Lib.cell_of_heap q0 3).trans rfl
  have v4 : w7.cell? ⟨w2.heap.size, 4, none⟩ = some (.int .u64 (p.policy : Int)) := (Lib.cell_of_heap q0 4).trans rfl
  have v5 : w7.cell? ⟨w2.heap.size, 5, none⟩ = some (.string p.secret) := (Lib.cell_of_heap q0 5).trans rfl
  have v6 : w7.cell? ⟨w2.heap.size, 6, none⟩ = some (.slice r6 p.addrs.length d6) := (Lib.cell_of_heap q0 6).trans rfl
  have v7 : w7.cell? ⟨w2.heap.size, 7, none⟩ = some (.string p.key) := (Lib.cell_of_heap q0 7).trans rfl
  have HQ37 := Lib.hid (HQ3.out.below up6)
  have HQ67 := Lib.hid (HQ6.out.below up6)
  clear hw7 up6 k9 q0 v0 v1 v2 v3 v4 v5 v6 v7 u0 u1 u2 u3 u4 u5 u6 u7
  have htx := text_any 1 name b w7 HG7.out (by have := HMO.out.2.2.2.2.2; omega)
  rw [HT.out] at htx
  refine htx.mono ?_
  clear htx
  rintro e w8 ⟨rfl, hb8⟩
  have q9 := (hb8.block w6.heap.size (by omega)).trans HW7.out
  have HW8 := Lib.hid q9
  have HQ38 := Lib.hid (HQ37.out.below hb8)
  have HQ68 := Lib.hid (HQ67.out.below hb8)
  have hz68 : w6.heap.size < w8.heap.size := by have := hb8.size; omega
  have q0 := (hb8.block w2.heap.size (by omega)).trans HK7.out
  have HK8 := Lib.hid q0
  have P38 := Lib.hid (P37.out.below hb8)
  have P68 := Lib.hid (P67.out.below hb8)
  have HB8 := Lib.hid (HB7.out.trans (hb8.mono HB7.out.size))
  have HG8 := Lib.hid (HG7.out.below hb8)
  have hz8 : w2.heap.size < w8.heap.size := by have := hb8.size; omega
  have u0 : w8.cell? ⟨w2.heap.size, 0, none⟩ = some (.string p.name) := (Lib.cell_of_heap q0 0).trans rfl
  have u1 : w8.cell? ⟨w2.heap.size, 1, none⟩ = some (.int .u64 (p.port : Int)) := (Lib.cell_of_heap q0 1).trans rfl
  have u2 : w8.cell? ⟨w2.heap.size, 2, none⟩ = some (.string p.route) := (Lib.cell_of_heap q0 2).trans rfl
  have u3 : w8.cell? ⟨w2.heap.size, 3, none⟩ = some (.slice r3 p.rules.length d3) := (Lib.cell_of_heap q0 3).trans rfl
  have u4 : w8.cell? ⟨w2.heap.size, 4, none⟩ = some (.int .u64 (p.policy : Int)) := (Lib.cell_of_heap q0 4).trans rfl
  have u5 : w8.cell? ⟨w2.heap.size, 5, none⟩ = some (.string p.secret) := (Lib.cell_of_heap q0 5).trans rfl
  have u6 : w8.cell? ⟨w2.heap.size, 6, none⟩ = some (.slice r6 p.addrs.length d6) := (Lib.cell_of_heap q0 6).trans rfl
  have u7 : w8.cell? ⟨w2.heap.size, 7, none⟩ = some (.string p.key) := (Lib.cell_of_heap q0 7).trans rfl
  clear hb8 q0 q9 hs6
  have hns : ¬ 9223372036854775807 < BS.size + TT.size := by have := HBZ.out; have := HZ.out; omega
  go_wp2_with fail
  have hget := get_any kk (BS ++ TT) b w8 HG8.out (by have := HBZ.out; have := HZ.out; rw [ByteArray.size_append]; omega)
  rw [data_app, HBD.out, ← HT.out] at hget
  rw [show Pl.getOf kk (p.puts (hasI kk) ++ (⟨(textL 1 name).toArray⟩ : ByteArray).data.toList) = some { p with name := name } from back_text HOK.out name (by have := HMO.out.2.2.2.2.2; omega)] at hget
  rw [HT.out] at hget
  refine hget.mono ?_
  clear hget hns u0 u1 u2 u3 u4 u5 u6 u7
  rintro e w9 ⟨⟨z3, cc3, z6, cc6, rfl, o3, o6, _, _⟩, hb9⟩
  have HR39 := Lib.hid (rulesAt_row o3)
  have HR69 := Lib.hid (addrsAt_row o6)
  have q9 := (hb9.block w6.heap.size (by omega)).trans HW8.out
  have HW9 := Lib.hid q9
  have HQ39 := Lib.hid (HQ38.out.below hb9)
  have HQ69 := Lib.hid (HQ68.out.below hb9)
  have hz69 : w6.heap.size < w9.heap.size := by have := hb9.size; omega
  have q0 := (hb9.block w2.heap.size (by omega)).trans HK8.out
  have HK9 := Lib.hid q0
  have P39 := Lib.hid (P38.out.below hb9)
  have P69 := Lib.hid (P68.out.below hb9)
  have HB9 := Lib.hid (HB8.out.trans (hb9.mono HB8.out.size))
  have HG9 := Lib.hid (HG8.out.below hb9)
  have hz9 : w2.heap.size < w9.heap.size := by have := hb9.size; omega
  have u0 : w9.cell? ⟨w2.heap.size, 0, none⟩ = some (.string p.name) := (Lib.cell_of_heap q0 0).trans rfl
  have u1 : w9.cell? ⟨w2.heap.size, 1, none⟩ = some (.int .u64 (p.port : Int)) := (Lib.cell_of_heap q0 1).trans rfl
  have u2 : w9.cell? ⟨w2.heap.size, 2, none⟩ = some (.string p.route) := (Lib.cell_of_heap q0 2).trans rfl
  have u3 : w9.cell? ⟨w2.heap.size, 3, none⟩ = some (.slice r3 p.rules.length d3) := (Lib.cell_of_heap q0 3).trans rfl
  have u4 : w9.cell? ⟨w2.heap.size, 4, none⟩ = some (.int .u64 (p.policy : Int)) := (Lib.cell_of_heap q0 4).trans rfl
  have u5 : w9.cell? ⟨w2.heap.size, 5, none⟩ = some (.string p.secret) := (Lib.cell_of_heap q0 5).trans rfl
  have u6 : w9.cell? ⟨w2.heap.size, 6, none⟩ = some (.slice r6 p.addrs.length d6) := (Lib.cell_of_heap q0 6).trans rfl
  have u7 : w9.cell? ⟨w2.heap.size, 7, none⟩ = some (.string p.key) := (Lib.cell_of_heap q0 7).trans rfl
  have v0 : w9.cell? ⟨w6.heap.size, 0, none⟩ = some (.string p.name) := (Lib.cell_of_heap q9 0).trans rfl
  have v1 : w9.cell? ⟨w6.heap.size, 1, none⟩ = some (.int .u64 (p.port : Int)) := (Lib.cell_of_heap q9 1).trans rfl
  have v2 : w9.cell? ⟨w6.heap.size, 2, none⟩ = some (.string p.route) := (Lib.cell_of_heap q9 2).trans rfl
  have v3 : w9.cell? ⟨w6.heap.size, 3, none⟩ = some (.slice x3 p.rules.length y3) := (Lib.cell_of_heap q9 3).trans rfl
  have v4 : w9.cell? ⟨w6.heap.size, 4, none⟩ = some (.int .u64 (p.policy : Int)) := (Lib.cell_of_heap q9 4).trans rfl
  have v5 : w9.cell? ⟨w6.heap.size, 5, none⟩ = some (.string p.secret) := (Lib.cell_of_heap q9 5).trans rfl
  have v6 : w9.cell? ⟨w6.heap.size, 6, none⟩ = some (.slice x6 p.addrs.length y6) := (Lib.cell_of_heap q9 6).trans rfl
  have v7 : w9.cell? ⟨w6.heap.size, 7, none⟩ = some (.string p.key) := (Lib.cell_of_heap q9 7).trans rfl
  clear hb9 q9 q0 o3 o6
  go_wp2_with fail
  obtain ⟨k0, k1⟩ := two_at w9 (.cells #[.string name, .int .u64 (p.port : Int), .string p.route, .slice z3 p.rules.length cc3, .int .u64 (p.policy : Int), .string p.secret, .slice z6 p.addrs.length cc6, .string p.key] 26) (.cells #[.string name, .int .u64 (p.port : Int), .string p.route, .slice r3 p.rules.length d3, .int .u64 (p.policy : Int), .string p.secret, .slice r6 p.addrs.length d6, .string p.key] 26)
  have up9 := below_up (below_f w9 (.cells #[.string name, .int .u64 (p.port : Int), .string p.route, .slice z3 p.rules.length cc3, .int .u64 (p.policy : Int), .string p.secret, .slice z6 p.addrs.length cc6, .string p.key] 26)) (.cells #[.string name, .int .u64 (p.port : Int), .string p.route, .slice r3 p.rules.length d3, .int .u64 (p.policy : Int), .string p.secret, .slice r6 p.addrs.length d6, .string p.key] 26)
  obtain ⟨wa, hwa⟩ : ∃ wa, (w9.alloc (.cells #[.string name, .int .u64 (p.port : Int), .string p.route, .slice z3 p.rules.length cc3, .int .u64 (p.policy : Int), .string p.secret, .slice z6 p.addrs.length cc6, .string p.key] 26)).alloc (.cells #[.string name, .int .u64 (p.port : Int), .string p.route, .slice r3 p.rules.length d3, .int .u64 (p.policy : Int), .string p.secret, .slice r6 p.addrs.length d6, .string p.key] 26) = wa := ⟨_, rfl⟩
  have hza : wa.heap.size = w9.heap.size + 2 := by rw [← hwa, World.size_alloc, World.size_alloc]
  rw [hwa]
  rw [hwa] at k0 k1 up9
  have HK0' := Lib.hid k0
  have HK1' := Lib.hid k1
  have HR3a := Lib.hid (HR39.out.below up9)
  have HR6a := Lib.hid (HR69.out.below up9)
  have HQ3a := Lib.hid (HQ39.out.below up9)
  have HQ6a := Lib.hid (HQ69.out.below up9)
  have q0 := (up9.block w2.heap.size (by omega)).trans HK9.out
  have HKa := Lib.hid q0
  have P3a := Lib.hid (P39.out.below up9)
  have P6a := Lib.hid (P69.out.below up9)
  have HBa := Lib.hid (HB9.out.trans (up9.mono HB9.out.size))
  have HGa := Lib.hid (HG9.out.below up9)
  have hza : w2.heap.size < wa.heap.size := by have := up9.size; omega
  have t0 : wa.cell? ⟨w2.heap.size, 0, none⟩ = some (.string p.name) := (Lib.cell_of_heap q0 0).trans rfl
  have t1 : wa.cell? ⟨w2.heap.size, 1, none⟩ = some (.int .u64 (p.port : Int)) := (Lib.cell_of_heap q0 1).trans rfl
  have t2 : wa.cell? ⟨w2.heap.size, 2, none⟩ = some (.string p.route) := (Lib.cell_of_heap q0 2).trans rfl
  have t3 : wa.cell? ⟨w2.heap.size, 3, none⟩ = some (.slice r3 p.rules.length d3) := (Lib.cell_of_heap q0 3).trans rfl
  have t4 : wa.cell? ⟨w2.heap.size, 4, none⟩ = some (.int .u64 (p.policy : Int)) := (Lib.cell_of_heap q0 4).trans rfl
  have t5 : wa.cell? ⟨w2.heap.size, 5, none⟩ = some (.string p.secret) := (Lib.cell_of_heap q0 5).trans rfl
  have t6 : wa.cell? ⟨w2.heap.size, 6, none⟩ = some (.slice r6 p.addrs.length d6) := (Lib.cell_of_heap q0 6).trans rfl
  have t7 : wa.cell? ⟨w2.heap.size, 7, none⟩ = some (.string p.key) := (Lib.cell_of_heap q0 7).trans rfl
  clear up9 k0 k1 q0 hwa u0 u1 u2 u3 u4 u5 u6 u7 v0 v1 v2 v3 v4 v5 v6 v7 t0 t1 t2 t3 t4 t5 t6 t7
  have hh := same_any' p p r3 r6 x3 x6 d3 d6 y3 y6 wa P3a.out P6a.out HQ3a.out HQ6a.out (by have := HOL.out; have := HML.out; omega) (by have := HOL.out; have := HML.out; omega) (by have := HQL.out; have := HML.out; omega) (by have := HQL.out; have := HML.out; omega)
  rw [Pl.same_refl] at hh
  refine hh.mono ?_
  clear hh
  rintro e wb ⟨rfl, hbb⟩
  have q0 := (hbb.block w9.heap.size (by omega)).trans HK0'.out
  have q1 := (hbb.block (w9.heap.size + 1) (by omega)).trans HK1'.out
  have HR3b := Lib.hid (HR3a.out.below hbb)
  have HR6b := Lib.hid (HR6a.out.below hbb)
  have P3b := Lib.hid (P3a.out.below hbb)
  have P6b := Lib.hid (P6a.out.below hbb)
  have HBb := Lib.hid (HBa.out.trans (hbb.mono HBa.out.size))
  have u0 : wb.cell? ⟨w9.heap.size, 0, none⟩ = some (.string name) := (Lib.cell_of_heap q0 0).trans rfl
  have u1 : wb.cell? ⟨w9.heap.size, 1, none⟩ = some (.int .u64 (p.port : Int)) := (Lib.cell_of_heap q0 1).trans rfl
  have u2 : wb.cell? ⟨w9.heap.size, 2, none⟩ = some (.string p.route) := (Lib.cell_of_heap q0 2).trans rfl
  have u3 : wb.cell? ⟨w9.heap.size, 3, none⟩ = some (.slice z3 p.rules.length cc3) := (Lib.cell_of_heap q0 3).trans rfl
  have u4 : wb.cell? ⟨w9.heap.size, 4, none⟩ = some (.int .u64 (p.policy : Int)) := (Lib.cell_of_heap q0 4).trans rfl
  have u5 : wb.cell? ⟨w9.heap.size, 5, none⟩ = some (.string p.secret) := (Lib.cell_of_heap q0 5).trans rfl
  have u6 : wb.cell? ⟨w9.heap.size, 6, none⟩ = some (.slice z6 p.addrs.length cc6) := (Lib.cell_of_heap q0 6).trans rfl
  have u7 : wb.cell? ⟨w9.heap.size, 7, none⟩ = some (.string p.key) := (Lib.cell_of_heap q0 7).trans rfl
  have v0 : wb.cell? ⟨w9.heap.size + 1, 0, none⟩ = some (.string name) := (Lib.cell_of_heap q1 0).trans rfl
  have v1 : wb.cell? ⟨w9.heap.size + 1, 1, none⟩ = some (.int .u64 (p.port : Int)) := (Lib.cell_of_heap q1 1).trans rfl
  have v2 : wb.cell? ⟨w9.heap.size + 1, 2, none⟩ = some (.string p.route) := (Lib.cell_of_heap q1 2).trans rfl
  have v3 : wb.cell? ⟨w9.heap.size + 1, 3, none⟩ = some (.slice r3 p.rules.length d3) := (Lib.cell_of_heap q1 3).trans rfl
  have v4 : wb.cell? ⟨w9.heap.size + 1, 4, none⟩ = some (.int .u64 (p.policy : Int)) := (Lib.cell_of_heap q1 4).trans rfl
  have v5 : wb.cell? ⟨w9.heap.size + 1, 5, none⟩ = some (.string p.secret) := (Lib.cell_of_heap q1 5).trans rfl
  have v6 : wb.cell? ⟨w9.heap.size + 1, 6, none⟩ = some (.slice r6 p.addrs.length d6) := (Lib.cell_of_heap q1 6).trans rfl
  have v7 : wb.cell? ⟨w9.heap.size + 1, 7, none⟩ = some (.string p.key) := (Lib.cell_of_heap q1 7).trans rfl
  clear hbb q0 q1
  go_wp2_with fail
  have hh := same_any' { p with name := name } { p with name := name } z3 z6 r3 r6 cc3 cc6 d3 d6 wb HR3b.out HR6b.out P3b.out P6b.out (by have := HOL.out; have := HML.out; show p.rules.length ≤ maxLen; omega) (by have := HOL.out; have := HML.out; show p.addrs.length ≤ maxLen; omega) (by have := HOL.out; have := HML.out; show p.rules.length ≤ maxLen; omega) (by have := HOL.out; have := HML.out; show p.addrs.length ≤ maxLen; omega)
  rw [Pl.same_refl] at hh
  refine hh.mono ?_
  clear hh
  rintro e wc ⟨rfl, hbc⟩
  have HBc := Lib.hid (HBb.out.trans (hbc.mono HBb.out.size))
  clear hbc u0 u1 u2 u3 u4 u5 u6 u7 v0 v1 v2 v3 v4 v5 v6 v7
  go_wp2_with fail
  go_ret
  exact ⟨rfl, HBc.out⟩
end Go.Proofs.YtlefeihfkgijoaaGreatDoor.lawBackP
