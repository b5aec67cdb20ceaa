/- payload: PayloadRefs: the walk (written by tools/lawrefs_gen.py). -/
import Derived.Test.YtlefeihfkgijoaaGreatDoorPlOpen
import Derived.Test.YtlefeihfkgijoaaGreatDoorPlKeys
import Derived.Test.YtlefeihfkgijoaaGreatDoorPlEx
import Derived.BigQuiet
namespace Go.Proofs.YtlefeihfkgijoaaGreatDoor.lawRefs
open Go.RowKit Go.Shelf

theorem refs_any_row {ks : List Ky} {w : World} {e : Ending} {w' : World} (h : RefsPost ks w e w') : ∃ a c, e = .returned (.slice a ks.length c) ∧ KeysAt w' a ks ∧ Below w.heap.size w w' := h

set_option maxRecDepth 100000 in
set_option maxHeartbeats 8000000 in
theorem walk (s0 s2 s5 s7 : ByteArray) (n1 n4 nn mm : Nat) (a3 a6 : Option Addr) (l3 c3 l6 c6 : Nat) (kd : Int) (own : Bool) (b : Addr) (w : World) (hg : Gv b w) (hnn : nn < 256) (hmm : mm < 256) (hn1 : n1 < 2 ^ 64) (hn4 : n4 < 2 ^ 64) (hs7 : s7.size ≤ 140737488355328) :
    Calls Tryz.prog 7 #[.agg #[.string s0, .int .u64 (n1 : Int), .string s2, .slice a3 l3 c3, .int .u64 (n4 : Int), .string s5, .slice a6 l6 c6, .string s7, .int .i64 kd, .bool own, .int .u8 (nn : Int), .int .u8 (mm : Int)]] w fun e w' => e = .returned (.bool true) ∧ Below w.heap.size w w' := by
  have up := below_alloc w (.cells #[.string s0, .int .u64 (n1 : Int), .string s2, .slice a3 l3 c3, .int .u64 (n4 : Int), .string s5, .slice a6 l6 c6, .string s7, .int .i64 kd, .bool own, .int .u8 (nn : Int), .int .u8 (mm : Int)] 28)
  have k0 := World.alloc_heap_new w (.cells #[.string s0, .int .u64 (n1 : Int), .string s2, .slice a3 l3 c3, .int .u64 (n4 : Int), .string s5, .slice a6 l6 c6, .string s7, .int .i64 kd, .bool own, .int .u8 (nn : Int), .int .u8 (mm : Int)] 28)
  have ks := World.size_alloc w (.cells #[.string s0, .int .u64 (n1 : Int), .string s2, .slice a3 l3 c3, .int .u64 (n4 : Int), .string s5, .slice a6 l6 c6, .string s7, .int .i64 kd, .bool own, .int .u8 (nn : Int), .int .u8 (mm : Int)] 28)
  have HGW := Lib.hid hg
  have HG := Lib.hid (hg.below up)
  have HUP := Lib.hid up
  have HK0 := Lib.hid k0
  have HKS := Lib.hid ks
  have HM := Lib.hid (And.intro hnn (And.intro hmm (And.intro hn1 (And.intro hn4 hs7))))
  clear hg up k0 ks hnn hmm hn1 hn4 hs7
  go_enter Tryz.func7, Tryz.ntmps7
  go_wp2_with fail
  refine (examples02_any b _ HG.out).mono ?_
  rintro e w1 ⟨rfl, hb1⟩
  have hz := HKS.out
  have pb := (hb1.block w.heap.size (by omega)).trans HK0.out
  have hlt : w.heap.size < w1.heap.size := by have := hb1.size; omega
  have HB1 := Lib.hid (HUP.out.trans (hb1.mono (by omega)))
  clear hb1 hz
  have t0 : w1.cell? ⟨w.heap.size, 0, none⟩ = some (.string s0) := (Lib.cell_of_heap pb 0).trans rfl
  have t1 : w1.cell? ⟨w.heap.size, 1, none⟩ = some (.int .u64 (n1 : Int)) := (Lib.cell_of_heap pb 1).trans rfl
  have t2 : w1.cell? ⟨w.heap.size, 2, none⟩ = some (.string s2) := (Lib.cell_of_heap pb 2).trans rfl
  have t3 : w1.cell? ⟨w.heap.size, 3, none⟩ = some (.slice a3 l3 c3) := (Lib.cell_of_heap pb 3).trans rfl
  have t4 : w1.cell? ⟨w.heap.size, 4, none⟩ = some (.int .u64 (n4 : Int)) := (Lib.cell_of_heap pb 4).trans rfl
  have t5 : w1.cell? ⟨w.heap.size, 5, none⟩ = some (.string s5) := (Lib.cell_of_heap pb 5).trans rfl
  have t6 : w1.cell? ⟨w.heap.size, 6, none⟩ = some (.slice a6 l6 c6) := (Lib.cell_of_heap pb 6).trans rfl
  have t7 : w1.cell? ⟨w.heap.size, 7, none⟩ = some (.string s7) := (Lib.cell_of_heap pb 7).trans rfl
  have t8 : w1.cell? ⟨w.heap.size, 8, none⟩ = some (.int .i64 kd) := (Lib.cell_of_heap pb 8).trans rfl
  have t9 : w1.cell? ⟨w.heap.size, 9, none⟩ = some (.bool own) := (Lib.cell_of_heap pb 9).trans rfl
  have t10 : w1.cell? ⟨w.heap.size, 10, none⟩ = some (.int .u8 (nn : Int)) := (Lib.cell_of_heap pb 10).trans rfl
  have t11 : w1.cell? ⟨w.heap.size, 11, none⟩ = some (.int .u8 (mm : Int)) := (Lib.cell_of_heap pb 11).trans rfl
  have tf9 := Lib.frozen_of_heap pb 9
  clear pb
  go_wp2_with fail
  obtain ⟨kk, hm⟩ := made_any s0 s2 s5 s7 n1 n4 nn mm a3 a6 l3 c3 l6 c6 kd (w1.setCell ⟨w.heap.size, 9, none⟩ (.bool true)) HM.out.1 HM.out.2.1 HM.out.2.2.1 HM.out.2.2.2.1 HM.out.2.2.2.2
  refine hm.mono ?_
  rintro e w2 ⟨p, r3, d3, r6, d6, rfl, hok, hr3, hr6, hb2⟩
  have HB2 := Lib.hid ((HB1.out.setCell (p := ⟨w.heap.size, 9, none⟩) (Nat.le_refl _) (.bool true)).trans (hb2.mono (by simp; omega)))
  have HOK := Lib.hid hok
  have HR3 := Lib.hid hr3
  have HR6 := Lib.hid hr6
  clear hm hb2 hok hr3 hr6 t0 t1 t2 t3 t4 t5 t6 t7 t8 t9 t10 t11 tf9
  have HOL := Lib.hid (own_len HOK.out)
  have k0 := World.alloc_heap_new w2 (.cells #[.string p.name, .int .u64 (p.port : Int), .string p.route, .slice r3 p.rules.length d3, .int .u64 (p.policy : Int), .string p.secret, .slice r6 p.addrs.length d6, .string p.key] 26)
  have up2 := below_f w2 (.cells #[.string p.name, .int .u64 (p.port : Int), .string p.route, .slice r3 p.rules.length d3, .int .u64 (p.policy : Int), .string p.secret, .slice r6 p.addrs.length d6, .string p.key] 26)
  go_wp2_with fail
  obtain ⟨w3, hw3⟩ : ∃ w3, w2.alloc (.cells #[.string p.name, .int .u64 (p.port : Int), .string p.route, .slice r3 p.rules.length d3, .int .u64 (p.policy : Int), .string p.secret, .slice r6 p.addrs.length d6, .string p.key] 26) = w3 := ⟨_, rfl⟩
  have hz3 : w3.heap.size = w2.heap.size + 1 := by rw [← hw3, World.size_alloc]
  rw [hw3]
  rw [hw3] at k0 up2
  have HB3 := Lib.hid (HB2.out.trans (up2.mono HB2.out.size))
  have P3 := Lib.hid (HR3.out.below up2)
  have HK0 := Lib.hid k0
  clear hw3 up2 k0
  obtain ⟨ks, hks⟩ : ∃ ks, refsOf kk p = ks := ⟨_, rfl⟩
  have hh := refs_any kk p r3 r6 d3 d6 w3 P3.out (by have := HOL.out; omega) (fun r hr => by have := HOK.out.rule r hr; unfold maxLen; omega)
  rw [hks] at hh
  have HKS := Lib.hid hks
  clear hks
  refine hh.mono ?_
  clear hh
  intro e w4 hpost
  obtain ⟨x3, y3, rfl, hkeys, hb4⟩ := refs_any_row hpost
  obtain ⟨n, hn⟩ : ∃ n, ks.length = n := ⟨_, rfl⟩
  obtain ⟨rn, hrn⟩ : ∃ rn, p.rules.length = rn := ⟨_, rfl⟩
  rw [hn]
  have hn3 : n ≤ 3 := by rw [← hn, ← HKS.out]; exact refs_len HOK.out
  have hr3' : rn ≤ 3 := by rw [← hrn]; exact HOL.out.1
  have q0 := (hb4.block w2.heap.size (by omega)).trans HK0.out
  have hz4 : w2.heap.size < w4.heap.size := by have := hb4.size; omega
  rw [hrn] at q0
  have HN := Lib.hid hn
  have HRN := Lib.hid hrn
  have HKY := Lib.hid hkeys
  have HB4 := Lib.hid (HB3.out.trans (hb4.mono HB3.out.size))
  have P34 := Lib.hid (P3.out.below hb4)
  have U0 := Lib.hid ((Lib.cell_of_heap q0 0).trans rfl : w4.cell? ⟨w2.heap.size, 0, none⟩ = some (.string p.name))
  have U2 := Lib.hid ((Lib.cell_of_heap q0 2).trans rfl : w4.cell? ⟨w2.heap.size, 2, none⟩ = some (.string p.route))
  have U3 := Lib.hid ((Lib.cell_of_heap q0 3).trans rfl : w4.cell? ⟨w2.heap.size, 3, none⟩ = some (.slice r3 rn d3))
  have U5 := Lib.hid ((Lib.cell_of_heap q0 5).trans rfl : w4.cell? ⟨w2.heap.size, 5, none⟩ = some (.string p.secret))
  clear hn hrn hkeys hb4 q0 hpost
  go_wp2_with fail
  go_loopw [7] (fun i wr => ∃ j : Nat, j ≤ n ∧ i = .int .i64 j ∧ Below w4.heap.size w4 wr) (fun i _ => n - (intOf i).toNat)
  case atStart => exact ⟨0, Nat.zero_le _, rfl, Below.refl _ _⟩
  case round =>
    obtain ⟨j, hj, rfl, hb⟩ := hrel
    by_cases hlt : j < n
    · obtain ⟨x, hx⟩ : ∃ x, ks[j]? = some x := ⟨_, List.getElem?_eq_getElem (by have := HN.out; omega)⟩
      obtain ⟨g, off, rfl, hgl, kx0, kx1⟩ := HKY.out j x hx
      have HX := Lib.hid hx
      have HX0 := Lib.hid kx0
      have HX1 := Lib.hid kx1
      have HBo := Lib.hid hb
      have b0 : (0 : Int) ≤ (j : Int) := by omega
      have b1 : (j : Int) < (n : Int) := by omega
      clear hx kx0 kx1 hb
      go_wp2_with fail
      obtain ⟨wo, hwo⟩ : ∃ wo : World, wo = wr := ⟨_, rfl⟩
      subst hwo
      go_loopw [8] (fun i wr => ∃ k : Nat, k ≤ j ∧ i = .int .i64 k ∧ Below w4.heap.size w4 wr) (fun i _ => j - (intOf i).toNat)
      case atStart => exact ⟨0, Nat.zero_le _, rfl, HBo.out⟩
      case round =>
        obtain ⟨k, hk, rfl, hbk⟩ := hrel
        have HBk := Lib.hid hbk
        clear hbk
        by_cases hkl : k < j
        · obtain ⟨y, hy⟩ : ∃ y, ks[k]? = some y := ⟨_, List.getElem?_eq_getElem (by have := HN.out; omega)⟩
          obtain ⟨g2, off2, hgg, _, ky0, ky1⟩ := HKY.out k y hy
          cases hgg
          have c0 := (HBk.out.cell (p := ⟨g, off + j * 2, none⟩) hgl).trans HX0.out
          have c1 := (HBk.out.cell (p := ⟨g, off + j * 2 + 1, none⟩) hgl).trans HX1.out
          have c2 := (HBk.out.cell (p := ⟨g, off + k * 2, none⟩) hgl).trans ky0
          have c3 := (HBk.out.cell (p := ⟨g, off + k * 2 + 1, none⟩) hgl).trans ky1
          have hgd := guard_Key
          have hne := eql_Key x y
          rw [ky_ne (nodup_ne (HKS.out ▸ refs_nodup HOK.out) hkl HX.out hy)] at hne
          have b2 : (0 : Int) ≤ (k : Int) := by omega
          have b3 : (k : Int) < (n : Int) := by omega
          have b4 : (k : Int) < (j : Int) := by omega
          clear ky0 ky1 hy
          go_wp2_with fail
          go_quiet (fail)
          go_wp2_with fail
          go_roundw
          case rel => exact ⟨k + 1, by omega, by go_num, below_dN HBk.out _⟩
          case measure => simp [intOf]; omega
        · obtain rfl : k = j := by omega
          go_wp2_with fail
          obtain ⟨wi, hwi⟩ : ∃ wi : World, wi = wr := ⟨_, rfl⟩
          subst hwi
          go_loopw [9, 10] (fun v i wr => ∃ m : Nat, m ≤ rn ∧ i = .int .i64 m ∧ v = .bool (nmd p.rules m x.2) ∧ Below w4.heap.size w4 wr) (fun _ i _ => rn - (intOf i).toNat)
          case atStart => exact ⟨0, Nat.zero_le _, rfl, by rw [nmd_zero], HBk.out⟩
          case round =>
            obtain ⟨m, hm, rfl, rfl, hbm⟩ := hrel
            have HBm := Lib.hid hbm
            clear hbm
            have u3 := (HBm.out.cell (p := ⟨w2.heap.size, 3, none⟩) hz4).trans U3.out
            by_cases hml : m < rn
            · obtain ⟨r, hr⟩ : ∃ r, p.rules[m]? = some r := ⟨_, List.getElem?_eq_getElem (by have := HRN.out; omega)⟩
              obtain ⟨g3, off3, rfl, hg3, kr0, kr1⟩ := P34.out m r hr
              have d1 := (HBm.out.cell (p := ⟨g3, off3 + m * 2 + 1, none⟩) hg3).trans kr1
              have c1 := (HBm.out.cell (p := ⟨g, off + k * 2 + 1, none⟩) hgl).trans HX1.out
              have HSU := Lib.hid (nmd_succ hr x.2)
              have b2 : (0 : Int) ≤ (m : Int) := by omega
              have b3 : (m : Int) < (rn : Int) := by omega
              clear kr0 kr1 hr
              cases hnm : nmd p.rules m x.2 with
              | true =>
                have HNM := Lib.hid hnm
                clear hnm
                go_wp2_with fail
                go_quiet (fail)
                go_wp2_with fail
                go_roundw
                case rel => exact ⟨m + 1, by omega, by go_num, by rw [HSU.out, HNM.out]; rfl, below_dN HBm.out _⟩
                case measure => simp [intOf]; omega
              | false =>
                have HNM := Lib.hid hnm
                clear hnm
                go_wp2_with fail
                go_quiet (fail)
                go_wp2_with fail
                go_roundw
                case rel => exact ⟨m + 1, by omega, by go_num, by rw [HSU.out, HNM.out]; rfl, below_dN HBm.out _⟩
                case measure => simp [intOf]; omega
            · obtain rfl : m = rn := by omega
              have c0 := (HBm.out.cell (p := ⟨g, off + k * 2, none⟩) hgl).trans HX0.out
              have c1 := (HBm.out.cell (p := ⟨g, off + k * 2 + 1, none⟩) hgl).trans HX1.out
              have u0 := (HBm.out.cell (p := ⟨w2.heap.size, 0, none⟩) hz4).trans U0.out
              have u2 := (HBm.out.cell (p := ⟨w2.heap.size, 2, none⟩) hz4).trans U2.out
              have u5 := (HBm.out.cell (p := ⟨w2.heap.size, 5, none⟩) hz4).trans U5.out
              rcases own_cases HOK.out with hkk | hkk | hkk | hkk | hkk
              · subst hkk
                have hx := HX.out
                rw [← HKS.out, refs_1 HOK.out] at hx
                have hk0 : k = 0 := by have := (List.getElem?_eq_some_iff.1 hx).1; simp at this; exact this
                rw [hk0] at hx
                simp at hx
                have HK0 := Lib.hid hk0
                subst hx
                clear hk0
                go_wp2_with fail
                go_quiet (fail)
                go_wp2_with fail
                go_roundw
                case rel => exact ⟨k + 1, by omega, by go_num, below_dN HBm.out _⟩
                case measure => simp [intOf]; omega
              · subst hkk
                have hx := List.mem_of_getElem? HX.out
                rw [← HKS.out] at hx
                obtain ⟨hx1, hx2⟩ := (refs_2 HOK.out).2.2 x hx
                rw [HRN.out] at hx2
                obtain ⟨x1, x2⟩ := x
                simp only at hx1 hx2 c0 c1
                subst hx1
                clear hx
                go_wp2_with fail
                go_quiet (fail)
                go_wp2_with fail
                go_roundw
                case rel => exact ⟨k + 1, by omega, by go_num, below_dN HBm.out _⟩
                case measure => simp [intOf]; omega
              · subst hkk
                have hx := HX.out
                rw [← HKS.out, refs_3] at hx
                have hl2 := nm_len 5 p.secret
                have hk2 : k < 2 := by have := (List.getElem?_eq_some_iff.1 hx).1; simp only [List.length_cons] at this; omega
                by_cases hk0 : k = 0
                · rw [hk0] at hx
                  simp at hx
                  subst hx
                  have q0 : ((k : Int) == 0) = true := by simp; omega
                  have q1 : ((k : Int) == 1) = false := by simp; omega
                  have HK0 := Lib.hid hk0
                  clear hk0 hk2 hl2
                  go_wp2_with fail
                  go_quiet (fail)
                  go_wp2_with fail
                  go_roundw
                  case rel => exact ⟨k + 1, by omega, by go_num, below_dN HBm.out _⟩
                  case measure => simp [intOf]; omega
                · have hk1 : k = 1 := by omega
                  rw [hk1, List.getElem?_cons_succ] at hx
                  have hx' : x = (5, p.secret) := by
                    unfold nm at hx
                    split at hx
                    · simp at hx
                    · simp at hx; exact hx.symm
                  subst hx'
                  have q0 : ((k : Int) == 0) = false := by simp; omega
                  have q1 : ((k : Int) == 1) = true := by simp; omega
                  have HK0 := Lib.hid hk0
                  have HK1 := Lib.hid hk1
                  clear hk0 hk2 hk1 hx hl2
                  go_wp2_with fail
                  go_quiet (fail)
                  go_wp2_with fail
                  go_roundw
                  case rel => exact ⟨k + 1, by omega, by go_num, below_dN HBm.out _⟩
                  case measure => simp [intOf]; omega
              · subst hkk
                have hx := HX.out
                rw [← HKS.out] at hx
                simp [refsOf] at hx
              · subst hkk
                have hx := HX.out
                rw [← HKS.out] at hx
                simp [refsOf] at hx
    · obtain rfl : j = n := by omega
      have HBe := Lib.hid (HB4.out.trans (hb.mono HB4.out.size))
      have u3 := (hb.cell (p := ⟨w2.heap.size, 3, none⟩) hz4).trans U3.out
      have u5 := (hb.cell (p := ⟨w2.heap.size, 5, none⟩) hz4).trans U5.out
      have hl := HN.out
      rw [← HKS.out] at hl
      by_cases hs0 : p.secret.size = 0
      · have hem := empty_of hs0
        have HS0 := Lib.hid hs0
        clear hs0
        rcases own_cases HOK.out with hkk | hkk | hkk | hkk | hkk
        · subst hkk
          rw [refs_1 HOK.out] at hl
          simp at hl
          have q1 : ((j : Int) == 1) = true := by simp; omega
          clear hb hl hj hlt
          go_wp2_with fail
          go_ret
          exact ⟨rfl, HBe.out⟩
        · subst hkk
          have h2 := refs_2 HOK.out
          have q1 : decide ((1 : Int) ≤ (j : Int)) = true := by simp; omega
          have hrr := HRN.out
          have q2 : decide (j ≤ rn) = true := by simp; omega
          clear h2 hrr
          clear hb hl hj hlt
          go_wp2_with fail
          go_ret
          exact ⟨rfl, HBe.out⟩
        · subst hkk
          obtain ⟨g, off, hgg, hgl, kx0, _⟩ := HKY.out 0 (4, p.name) (by rw [← HKS.out]; rfl)
          cases hgg
          have c0 := (hb.cell (p := ⟨g, off + 0 * 2, none⟩) hgl).trans kx0
          simp only [Nat.zero_mul, Nat.add_zero] at c0
          rw [refs_3, List.length_cons] at hl
          have hnm : (nm 5 p.secret).length = 0 := by unfold nm; rw [if_pos HS0.out]; rfl
          have q1 : ((j : Int) == 1) = true := by simp; omega
          have b0 : (0 : Int) < (j : Int) := by omega
          clear kx0
          clear hb hl hj hlt
          go_wp2_with fail
          go_ret
          exact ⟨rfl, HBe.out⟩
        · subst hkk
          simp [refsOf] at hl
          have q1 : ((j : Int) == 0) = true := by simp; omega
          clear hb hl hj hlt
          go_wp2_with fail
          go_ret
          exact ⟨rfl, HBe.out⟩
        · subst hkk
          simp [refsOf] at hl
          have q1 : ((j : Int) == 0) = true := by simp; omega
          clear hb hl hj hlt
          go_wp2_with fail
          go_ret
          exact ⟨rfl, HBe.out⟩
      · have hem := full_of (s := p.secret) (by omega)
        have HS0 := Lib.hid hs0
        clear hs0
        rcases own_cases HOK.out with hkk | hkk | hkk | hkk | hkk
        · subst hkk
          rw [refs_1 HOK.out] at hl
          simp at hl
          have q1 : ((j : Int) == 1) = true := by simp; omega
          clear hb hl hj hlt
          go_wp2_with fail
          go_ret
          exact ⟨rfl, HBe.out⟩
        · subst hkk
          have h2 := refs_2 HOK.out
          have q1 : decide ((1 : Int) ≤ (j : Int)) = true := by simp; omega
          have hrr := HRN.out
          have q2 : decide (j ≤ rn) = true := by simp; omega
          clear h2 hrr
          clear hb hl hj hlt
          go_wp2_with fail
          go_ret
          exact ⟨rfl, HBe.out⟩
        · subst hkk
          obtain ⟨g, off, hgg, hgl, kx0, _⟩ := HKY.out 0 (4, p.name) (by rw [← HKS.out]; rfl)
          cases hgg
          have c0 := (hb.cell (p := ⟨g, off + 0 * 2, none⟩) hgl).trans kx0
          simp only [Nat.zero_mul, Nat.add_zero] at c0
          rw [refs_3, List.length_cons] at hl
          have hnm : (nm 5 p.secret).length = 1 := by unfold nm; rw [if_neg HS0.out]; rfl
          have q1 : ((j : Int) == 2) = true := by simp; omega
          have b0 : (0 : Int) < (j : Int) := by omega
          clear kx0
          clear hb hl hj hlt
          go_wp2_with fail
          go_ret
          exact ⟨rfl, HBe.out⟩
        · subst hkk
          simp [refsOf] at hl
          have q1 : ((j : Int) == 0) = true := by simp; omega
          clear hb hl hj hlt
          go_wp2_with fail
          go_ret
          exact ⟨rfl, HBe.out⟩
        · subst hkk
          simp [refsOf] at hl
          have q1 : ((j : Int) == 0) = true := by simp; omega
          clear hb hl hj hlt
          go_wp2_with fail
          go_ret
          exact ⟨rfl, HBe.out⟩
end Go.Proofs.YtlefeihfkgijoaaGreatDoor.lawRefs
