/- acks: slices.BinarySearchFunc of refusals, with refuse's closure. -/
import Derived.Test.YtogkdekjcbljnaaDoorAkTellP
import Derived.Test.YtogkdekjcbljnaaDoorAkLeast
namespace Go.Proofs.YtogkdekjcbljnaaDoor
open Go.RowKit

set_option maxRecDepth 100000 in
set_option maxHeartbeats 2000000 in
theorem refuse1_any (r : Bd) (q : Nat) (w : World) :
    Calls Tryd.prog 31 #[.agg #[.int .u64 (r.q : Int), .bool r.f, .string r.s], .int .u64 (q : Int)] w fun e w' => e = .returned (.int .i64 (cmpI (r.q : Int) (q : Int))) ∧ Below w.heap.size w w' := by
  obtain ⟨p, f, s⟩ := r
  obtain ⟨w1, hw1, hb1, q1⟩ := ak_new w #[.int .u64 (p : Int), .bool f, .string s] 82
  have y0 : w1.cell? ⟨w.heap.size, 0, none⟩ = some (.int .u64 (p : Int)) := q1.cell 0
  have HW1 := Lib.hid hw1
  have HB1 := Lib.hid hb1
  clear hw1 hb1 q1
  go_enter Tryd.func31, Tryd.ntmps31
  go_wp2_with (rw [HW1.out])
  refine (cmp_u64 _ _ w1).mono ?_
  rintro e w2 ⟨rfl, hb2⟩
  have HB := Lib.hid (HB1.out.trans (hb2.mono HB1.out.size))
  clear hb2 y0
  go_wp2_with fail
  go_ret
  exact ⟨rfl, HB.out⟩
set_option maxRecDepth 100000 in
set_option maxHeartbeats 4000000 in
theorem search_any {a : Option Addr} {c : Nat} {l : List Bd} {q : Nat} {w : World} (hr : BdsAt w a l) (hs : Rise l) (hn8 : l.length ≤ 1000) :
    Calls Tryd.prog 30 #[.slice a l.length c, .int .u64 (q : Int), .func (.func 31) #[] #[]] w fun e w' => e = .returned (.tuple #[.int .i64 (bdPos q l : Int), .bool (bdHas q l)]) ∧ Below w.heap.size w w' := by
  obtain ⟨n, hn⟩ : ∃ n, l.length = n := ⟨_, rfl⟩
  rw [hn] at hn8 ⊢
  obtain ⟨p, hp⟩ : ∃ p, bdPos q l = p := ⟨_, rfl⟩
  have hpn : p ≤ n := by rw [← hp, ← hn]; exact bdPos_le q l
  have HLO := Lib.hid (fun (h : Nat) (m : Bd) (hm : l[h]? = some m) (hlt : h < p) => (bdPos_low hm (by rw [hp]; exact hlt) : m.q < q))
  have HHI := Lib.hid (fun (h : Nat) (m : Bd) (hm : l[h]? = some m) (hge : p ≤ h) => (bdPos_high hs hm (by rw [hp]; exact hge) : q ≤ m.q))
  have HB0 := Lib.hid (show bdHas q l = match l[p]? with | some b => decide (b.q = q) | none => false by unfold bdHas; rw [hp]; rfl)
  rw [hp]
  obtain ⟨B, hB⟩ : ∃ B, bdHas q l = B := ⟨_, rfl⟩
  rw [hB] at HB0 ⊢
  have HR := Lib.hid hr
  have HL := Lib.hid hn
  clear hr hs hn hp hB
  go_enter Tryd.func30, Tryd.ntmps30
  go_wp2_with fail
  go_loopw [9, 10, 11] (fun vi vj _ wx => ∃ i j : Nat, vi = .int .i64 (i : Int) ∧ vj = .int .i64 (j : Int) ∧ i ≤ p ∧ p ≤ j ∧ j ≤ n ∧ Below w.heap.size w wx) (fun vi vj _ _ => ((intOf vj) - (intOf vi)).toNat)
  case atStart => exact ⟨0, n, rfl, rfl, Nat.zero_le _, hpn, Nat.le_refl _, Below.refl _ _⟩
  case round =>
    obtain ⟨i, j, rfl, rfl, hi, hj, hjn, hb⟩ := hrel
    by_cases hlt : i < j
    · have b1 : (i : Int) < (j : Int) := by omega
      have b2 : IntKind.i64.wrap ((i : Int) + (j : Int)) = ((i + j : Nat) : Int) := by rw [IntKind.wrap_i64]; omega
      obtain ⟨h, hh⟩ : ∃ h, (i + j) / 2 = h := ⟨_, rfl⟩
      have e2 : ((i : Int) + (j : Int)) / 2 = (h : Int) := by omega
      have hih : i ≤ h := by omega
      have hhj : h < j := by omega
      have b3 : (0 : Int) ≤ (h : Int) := by omega
      have b4 : (h : Int) < (n : Int) := by omega
      have b5 : IntKind.i64.wrap ((h : Int) + 1) = (h : Int) + 1 := by rw [IntKind.wrap_i64]; omega
      obtain ⟨m, hm⟩ : ∃ m, l[h]? = some m := ⟨_, List.getElem?_eq_getElem (by have := HL.out; omega)⟩
      obtain ⟨g, off, rfl, hgl, p0, p1, p2⟩ := (HR.out.below hb) h m hm
      have HCh := Lib.hid (refuse1_any m q wr)
      have hL := HLO.out h m hm
      have hH := HHI.out h m hm
      obtain ⟨u, f, s⟩ := m
      simp only at p0 p1 p2 hL hH HCh
      obtain ⟨cv, hcv⟩ : ∃ cv, cmpI (u : Int) (q : Int) = cv := ⟨_, rfl⟩
      have hcl : cv < 0 ↔ u < q := by rw [← hcv, cmpI_le]; omega
      rw [hcv] at HCh
      have HB := Lib.hid hb
      clear hm hcv hb hgl hh
      by_cases hc : cv < 0
      · have hhp : h < p := Nat.lt_of_not_le fun h2 => by have := hcl.1 hc; have := hH h2; omega
        clear hL hH hcl
        go_wp2_with fail
        refine HCh.out.mono ?_
        rintro e w1 ⟨rfl, hb1⟩
        have HB2 := Lib.hid (HB.out.trans (hb1.mono HB.out.size))
        clear hb1 HCh e2 p0 p1 p2
        go_wp2_with fail
        go_roundw
        case rel => exact ⟨h + 1, j, by go_num, rfl, by omega, by omega, by omega, HB2.out⟩
        case measure => simp [intOf]; omega
      · have hhp : p ≤ h := Nat.le_of_not_lt fun h2 => hc (hcl.2 (hL h2))
        clear hL hH hcl
        go_wp2_with fail
        refine HCh.out.mono ?_
        rintro e w1 ⟨rfl, hb1⟩
        have HB2 := Lib.hid (HB.out.trans (hb1.mono HB.out.size))
        clear hb1 HCh e2 p0 p1 p2
        go_wp2_with fail
        go_roundw
        case rel => exact ⟨i, h, rfl, rfl, by omega, by omega, by omega, HB2.out⟩
        case measure => simp [intOf]; omega
    · obtain rfl : i = p := by omega
      obtain rfl : j = i := by omega
      have b3 : ¬ (j : Int) < (j : Int) := by omega
      by_cases hpn2 : j < n
      · have b1 : (j : Int) < (n : Int) := by omega
        have b0 : (0 : Int) ≤ (j : Int) := by omega
        obtain ⟨m, hm⟩ : ∃ m, l[j]? = some m := ⟨_, List.getElem?_eq_getElem (by have := HL.out; omega)⟩
        obtain ⟨g, off, rfl, hgl, p0, p1, p2⟩ := (HR.out.below hb) j m hm
        have hB := HB0.out
        rw [hm] at hB
        have hB : B = decide (m.q = q) := hB
        have HCh := Lib.hid (refuse1_any m q wr)
        obtain ⟨u, f, s⟩ := m
        simp only at p0 p1 p2 hB HCh
        obtain ⟨cv, hcv⟩ : ∃ cv, cmpI (u : Int) (q : Int) = cv := ⟨_, rfl⟩
        have hcl : (cv == 0) = B := by
          rw [hB, ← hcv]
          have := cmpI_zero (u : Int) (q : Int)
          by_cases e : u = q
          · rw [this.2 (by omega), decide_eq_true e]; rfl
          · rw [decide_eq_false e, beq_eq_false_iff_ne]; intro e2; have := this.1 e2; omega
        rw [hcv] at HCh
        have HB := Lib.hid hb
        have HCL := Lib.hid hcl
        have HBB := Lib.hid hB
        clear hm hcv hb hgl hB hcl hlt
        go_wp2_with fail
        refine HCh.out.mono ?_
        rintro e w1 ⟨rfl, hb1⟩
        have HB2 := Lib.hid (HB.out.trans (hb1.mono HB.out.size))
        have hcl := HCL.out
        clear hb1 HCh p0 p1 p2
        go_wp2_with fail
        go_ret2
        exact ⟨by first | rfl | (rw [HBB.out]; rfl), HB2.out⟩
      · have b1 : ¬ (j : Int) < (n : Int) := by omega
        have hB := HB0.out
        rw [List.getElem?_eq_none (by have := HL.out; omega)] at hB
        have hB : B = false := hB
        subst hB
        have HB2 := Lib.hid hb
        clear hb hlt
        go_wp2_with fail
        go_ret2
        exact ⟨rfl, HB2.out⟩
end Go.Proofs.YtogkdekjcbljnaaDoor
