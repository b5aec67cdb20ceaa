/- ledger's reference: PutStatus. -/
import Derived.Test.YtdaelapamkmcaaaDoorLrRight
namespace Go.Proofs.YtdaelapamkmcaaaDoor
open Go.RowKit

theorem len_textL (num : Int) (s : ByteArray) (h : s.size ≤ 256) : (textL num s).length ≤ 400 := by have := len_t num s; omega
structure RsS (B : Nat) (r : St) (w0 w' : World) : Prop where
  a : Blk w' B #[.int .i64 r.t, .string r.x, .int .u64 (r.q : Int), .bool r.f, .string r.s] 41
  b : Below w0.heap.size w0 w'
abbrev RsT (B : Nat) (r : St) (w0 w' : World) : Prop := w'.cell? ⟨B, 0, none⟩ = some (.int .i64 r.t) ∧ w'.cell? ⟨B, 1, none⟩ = some (.string r.x) ∧ w'.cell? ⟨B, 2, none⟩ = some (.int .u64 (r.q : Int)) ∧ w'.cell? ⟨B, 3, none⟩ = some (.bool r.f) ∧ RsS B r w0 w'
theorem RsS.all {B : Nat} {r : St} {w0 w : World} (h : RsS B r w0 w) : RsT B r w0 w := ⟨h.a.cell 0, h.a.cell 1, h.a.cell 2, h.a.cell 3, h⟩
theorem RsT.next {B : Nat} {r : St} {w0 w w' : World} (h : RsT B r w0 w) (hb : Below w.heap.size w w') : RsT B r w0 w' := RsS.all ⟨h.2.2.2.2.a.later hb, h.2.2.2.2.b.trans (hb.mono h.2.2.2.2.b.size)⟩
set_option maxRecDepth 100000 in
set_option maxHeartbeats 4000000 in
theorem rput5_any (r : St) (w : World) (hx : r.x.size ≤ maxLen) (hq : r.q < 2 ^ 64) : Calls Tryd.prog 21 #[r.v] w fun e w' => (∃ X : ByteArray, e = .returned (.tuple #[.string X, .bool r.ok])) ∧ Below w.heap.size w w' := by
  obtain ⟨w1, hw1⟩ : ∃ w1, w.alloc (.cells #[.int .i64 r.t, .string r.x, .int .u64 (r.q : Int), .bool r.f, .string r.s] 41) = w1 := ⟨_, rfl⟩
  have hb1 : Below w.heap.size w w1 := by rw [← hw1]; exact (Below.refl _ _).alloc (Nat.le_refl _) _
  have q1 : Blk w1 w.heap.size #[.int .i64 r.t, .string r.x, .int .u64 (r.q : Int), .bool r.f, .string r.s] 41 := by rw [← hw1]; exact Blk.new _ _ _
  have y0 : w1.cell? ⟨w.heap.size, 0, none⟩ = some (.int .i64 r.t) := q1.cell 0
  have y1 : w1.cell? ⟨w.heap.size, 1, none⟩ = some (.string r.x) := q1.cell 1
  have y2 : w1.cell? ⟨w.heap.size, 2, none⟩ = some (.int .u64 (r.q : Int)) := q1.cell 2
  have y3 : w1.cell? ⟨w.heap.size, 3, none⟩ = some (.bool r.f) := q1.cell 3
  have y4 : w1.cell? ⟨w.heap.size, 4, none⟩ = some (.string r.s) := q1.cell 4
  have HR := Lib.hid (rright5_any r w1 hx)
  have HW1 := Lib.hid hw1
  have HB1 := Lib.hid hb1
  have HQ1 := Lib.hid q1
  clear hw1 hb1 q1
  cases hok : r.ok with
  | false =>
    rw [hok] at HR
    clear hok hx hq
    go_enter Tryd.func21, Tryd.ntmps21
    go_wp2_with (rw [HW1.out])
    refine HR.out.mono ?_
    rintro e w2 ⟨rfl, hb⟩
    have HB2 := Lib.hid (HB1.out.trans (hb.mono HB1.out.size))
    clear hb
    go_wp2_with fail
    go_ret2
    exact ⟨⟨_, rfl⟩, HB2.out⟩
  | true =>
    have hsz : r.x.size ≤ 64 ∧ r.s.size ≤ 256 := by
      have h := hok
      rw [stOk_is] at h
      simp only [Bool.and_eq_true, decide_eq_true_eq] at h
      refine ⟨?_, h.1.2⟩
      have h4 := h.1.1.1.1
      have h5 : starB r.x = false := by simpa using h.1.1.1.2
      unfold kyOk at h4
      rw [h5] at h4
      simp only [Bool.false_or, Bool.and_eq_true] at h4
      have h6 := h4.2
      unfold nmOk at h6
      simp only [Bool.and_eq_true, decide_eq_true_eq] at h6
      exact h6.1.2
    rw [hok] at HR
    have hz := u64_range r.t
    obtain ⟨z, hz0⟩ : ∃ z : Nat, IntKind.u64.wrap r.t = (z : Int) := ⟨(IntKind.u64.wrap r.t).toNat, by omega⟩
    have hc1 := fun W => rnum5_any 1 z W (by omega)
    have l1 := len_nmb 1 z
    have hc2 := fun W => refText_any 2 r.x W (by omega)
    have l2 : (textL 2 r.x).length ≤ 400 := len_textL 2 r.x (by omega)
    have hc3 := fun W => rnum5_any 3 r.q W hq
    have l3 := len_nmb 3 r.q
    have hc4 := fun W => rflag5_any 4 r.f W
    have l4 : (flg 4 r.f).length ≤ 20 := by unfold flg; split; exact len_n 4 1; exact Nat.zero_le _
    have hc5 := fun W => refText_any 5 r.s W (by omega)
    have l5 : (textL 5 r.s).length ≤ 400 := len_textL 5 r.s (by omega)
    obtain ⟨T1, hT1⟩ : ∃ T : ByteArray, (⟨(nmb 1 z).toArray⟩ : ByteArray) = T := ⟨_, rfl⟩
    obtain ⟨T2, hT2⟩ : ∃ T : ByteArray, (⟨(textL 2 r.x).toArray⟩ : ByteArray) = T := ⟨_, rfl⟩
    obtain ⟨T3, hT3⟩ : ∃ T : ByteArray, (⟨(nmb 3 r.q).toArray⟩ : ByteArray) = T := ⟨_, rfl⟩
    obtain ⟨T4, hT4⟩ : ∃ T : ByteArray, (⟨(flg 4 r.f).toArray⟩ : ByteArray) = T := ⟨_, rfl⟩
    obtain ⟨T5, hT5⟩ : ∃ T : ByteArray, (⟨(textL 5 r.s).toArray⟩ : ByteArray) = T := ⟨_, rfl⟩
    rw [hT1] at hc1
    have t1 : T1.size ≤ 20 := by rw [← hT1]; show (nmb 1 z).toArray.size ≤ 20; rw [List.size_toArray]; omega
    rw [hT2] at hc2
    have t2 : T2.size ≤ 400 := by rw [← hT2]; show (textL 2 r.x).toArray.size ≤ 400; rw [List.size_toArray]; omega
    rw [hT3] at hc3
    have t3 : T3.size ≤ 20 := by rw [← hT3]; show (nmb 3 r.q).toArray.size ≤ 20; rw [List.size_toArray]; omega
    rw [hT4] at hc4
    have t4 : T4.size ≤ 20 := by rw [← hT4]; show (flg 4 r.f).toArray.size ≤ 20; rw [List.size_toArray]; omega
    rw [hT5] at hc5
    have t5 : T5.size ≤ 400 := by rw [← hT5]; show (textL 5 r.s).toArray.size ≤ 400; rw [List.size_toArray]; omega
    have HC1 := Lib.hid hc1
    have HC2 := Lib.hid hc2
    have HC3 := Lib.hid hc3
    have HC4 := Lib.hid hc4
    have HC5 := Lib.hid hc5
    have HZ0 := Lib.hid hz0
    have k1 : ¬ 9223372036854775807 < 1 + T1.size := by omega
    have k2 : ¬ 9223372036854775807 < 1 + T1.size + T2.size := by omega
    have k3 : ¬ 9223372036854775807 < 1 + T1.size + T2.size + T3.size := by omega
    have k4 : ¬ 9223372036854775807 < 1 + T1.size + T2.size + T3.size + T4.size := by omega
    have HS4 := Lib.hid (show 1 + T1.size + T2.size + T3.size + T4.size ≤ 800 by omega)
    clear t1 t2 t3 t4
    have hend : ∀ w2, Below w1.heap.size w1 w2 → RsT w.heap.size r w w2 := fun w2 hb => RsS.all ⟨HQ1.out.later hb, HB1.out.trans (hb.mono HB1.out.size)⟩
    have HEND := Lib.hid hend
    clear hend hok hx hq hsz hz hc1 hc2 hc3 hc4 hc5 l1 l2 l3 l4 l5 hT1 hT2 hT3 hT4 hT5
    go_enter Tryd.func21, Tryd.ntmps21
    go_wp2_with (rw [HW1.out])
    refine HR.out.mono ?_
    rintro e w2 ⟨rfl, hb⟩
    have ST : RsT w.heap.size r w w2.drew := (HEND.out w2 hb).next (Below.refl _ _).drew
    clear hb y0 y1 y2 y3 y4
    go_wp2_with fail
    go_region_held3 (fun w' => w'.cell? ⟨w.heap.size, 0, none⟩ = some (.int .i64 r.t) ∧ w'.cell? ⟨w.heap.size, 1, none⟩ = some (.string r.x) ∧ w'.cell? ⟨w.heap.size, 2, none⟩ = some (.int .u64 (r.q : Int)) ∧ w'.cell? ⟨w.heap.size, 3, none⟩ = some (.bool r.f) ∧ RsS w.heap.size r w w') (with_reducible first | exact ST | exact RsT.next (by assumption) (by assumption) | go_keep) ((first | (go_at_call 44; refine (HC4.out _).mono ?_; rintro e w9 ⟨rfl, hb9⟩) | (go_at_call 43; refine (HC2.out _).mono ?_; rintro e w7 ⟨rfl, hb7⟩) | (go_at_call 42; first | (refine (HC3.out _).mono ?_; rintro e w8 ⟨rfl, hb8⟩) | (refine (HC1.out _).mono ?_; rintro e w6 ⟨rfl, hb6⟩))))
    all_goals
      rename_i hH
      have q := hH.2.2.2.2
      clear hH ST
      have v4 : w9.cell? ⟨w.heap.size, 4, none⟩ = some (.string r.s) := q.a.cell 4
      obtain ⟨TT, hTT⟩ : ∃ TT : ByteArray, ((⟨#[4]⟩ : ByteArray) ++ T1 ++ T2 ++ T3 ++ T4) = TT := ⟨_, rfl⟩
      have tt : TT.size + T5.size ≤ 9223372036854775807 := by
        rw [← hTT]
        simp only [ByteArray.size_append]
        have h1 : (⟨#[4]⟩ : ByteArray).size = 1 := rfl
        have := HS4.out
        omega
      rw [hTT]
      have HBq := Lib.hid q.b
      clear q k1 k2 k3 k4 hTT t5
      by_cases h0 : r.s.size = 0
      · have e1 : (r.s.toList == []) = true := by rw [ByteArray.toList_eq]; generalize r.s = y at h0; obtain ⟨⟨y⟩⟩ := y; cases y with | nil => rfl | cons a r => simp [ByteArray.size] at h0
        have e2 : r.s.toList.isEmpty = true := ck_empty h0
        clear h0
        go_wp2_with fail
        go_ret2
        exact ⟨⟨_, rfl⟩, HBq.out⟩
      · have e1 : (r.s.toList == []) = false := by rw [ByteArray.toList_eq]; generalize r.s = y at h0; obtain ⟨⟨y⟩⟩ := y; cases y with | nil => exact absurd rfl h0 | cons a r => rfl
        have e2 : r.s.toList.isEmpty = false := ck_full (by omega)
        clear h0
        go_wp2_with fail
        refine (HC5.out _).mono ?_
        rintro e w10 ⟨rfl, hb⟩
        have HB10 := Lib.hid (HBq.out.trans (hb.mono HBq.out.size))
        clear hb v4
        go_wp2_with fail
        go_ret2
        exact ⟨⟨_, rfl⟩, HB10.out⟩
end Go.Proofs.YtdaelapamkmcaaaDoor
