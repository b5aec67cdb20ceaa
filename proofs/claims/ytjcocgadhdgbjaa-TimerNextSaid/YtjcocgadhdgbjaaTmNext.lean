/- timer: TimerNext walked. -/
import Derived.Test.YtjcocgadhdgbjaaTmTml
namespace Go.Proofs.Ytjcocgadhdgbjaa
open Go.RowKit

set_option maxRecDepth 100000 in
set_option maxHeartbeats 4000000 in
theorem next_walk (a0 : Option Addr) (l0 c0 : Nat) (bs : List Nat) (w : World) (hl : bs.length = l0) (hc : l0 ≤ c0 ∧ c0 ≤ maxLen) (hst : NatsIn w a0 bs) (hsm : ∀ n ∈ bs, n < 256) :
    Calls Try.prog 7 #[.slice a0 l0 c0] w fun e w' => e = .returned (.bool true) ∧ Below w.heap.size w w' := by
  have hc1 : (l0 : Int) ≤ (c0 : Int) := by omega
  have hc2 : c0 ≤ 9223372036854775807 := hc.2
  obtain ⟨n, hn⟩ : ∃ n, min l0 20 = n := ⟨_, rfl⟩
  have hmin : min (l0 : Int) 20 = (n : Int) := by omega
  have n20 : (n : Int) ≤ 20 := by omega
  have nc : (n : Int) ≤ (c0 : Int) := by omega
  obtain ⟨ts, hts⟩ : ∃ ts, bs.map (· + 1) = ts := ⟨_, rfl⟩
  have HL := Lib.hid (And.intro (And.intro hl hn) (And.intro hts (And.intro hst hsm)))
  clear hl hn hc hts hst hsm
  go_enter Try.func7, Try.ntmps7
  go_wp2_with fail
  refine (examples_any w).mono ?_
  rintro e w0 ⟨rfl, hb0⟩
  go_wp2_with fail
  refine (new_any w0).mono ?_
  rintro e w1 ⟨t, F, rfl, q1, _, hb1⟩
  have HS : Below w.heap.size w w1 := hb0.trans (hb1.mono hb0.size)
  have hs1 : w0.heap.size ≤ w1.heap.size := hb1.size
  have hBs : w.heap.size ≤ w0.heap.size := hb0.size
  go_wp2
  go_loopw [5] (fun iv wr => ∃ k : Nat, iv = .int .i64 (k : Int) ∧ k ≤ n ∧ ∃ F, TmAt w0.heap.size t F k (tml ts k) wr ∧ Below w.heap.size w wr ∧ w0.heap.size ≤ wr.heap.size) (fun iv _ => n - (intOf iv).toNat)
  case atStart => exact ⟨0, rfl, Nat.zero_le _, F, q1, HS, hs1⟩
  case round =>
    obtain ⟨k, rfl, hk, F', q, hb, h0s⟩ := hrel
    by_cases hlt : k < n
    · have hk20 : k < 20 := by omega
      have hkl : k < bs.length := by have := HL.out.1; omega
      obtain ⟨b, o, rfl, hbl, hcell⟩ := (HL.out.2.2.1) k bs[k] (List.getElem?_eq_getElem hkl)
      have hx256 := HL.out.2.2.2 bs[k] (List.getElem_mem hkl)
      have hxt : ts.getD k 0 = bs[k] + 1 := by rw [← HL.out.2.1]; simp [List.getD_eq_getElem?_getD, List.getElem?_eq_getElem hkl]
      generalize bs[k] = x at *
      have hcell' : wr.cell? ⟨b, o + k, none⟩ = some (.int .u8 (x : Int)) := (hb.cell (p := ⟨b, o + k, none⟩) hbl).trans hcell
      have hblr : b < wr.heap.size := Nat.lt_of_lt_of_le hbl hb.size
      obtain ⟨d, hd⟩ : ∃ d, 97 + k = d := ⟨_, rfl⟩
      obtain ⟨y, hy⟩ : ∃ y, x + 1 = y := ⟨_, rfl⟩
      have i0 : (0 : Int) ≤ (k : Int) := by omega
      have i1 : (k : Int) < (n : Int) := by omega
      have x0 : (x : Int) ≤ 255 := by omega
      have s1 : IntKind.i64.wrap (97 + (k : Int)) = (d : Int) := by rw [IntWalk.i64_in _ (by omega)]; omega
      have s2 : IntKind.u8.wrap (d : Int) = (d : Int) := IntWalk.u8_in _ (by omega)
      have s3 : IntKind.u64.wrap (x : Int) = (x : Int) := IntWalk.u64_in _ (by omega)
      have s4 : IntKind.u64.wrap ((x : Int) + 1) = (y : Int) := by rw [IntWalk.u64_in _ (by omega)]; omega
      obtain ⟨Z, hZ, cv, cvd⟩ := byte_cv hd (by omega)
      have HX := Lib.hid (And.intro (And.intro q hb) (And.intro (And.intro h0s hxt) (And.intro hy hZ)))
      clear q hb h0s hxt hd hy hcell hZ
      go_wp2_with fail
      go_region_with ((go_at_call 17; refine (set_tml _ t k F' ts _ Z HX.out.2.2.2 _ (HX.out.1.1.below (((Below.refl _ _).alloc (Nat.le_refl _) _).drew)) (by rw [HX.out.2.1.2, HX.out.2.2.1]) (by omega) (Nat.le_trans HX.out.2.1.1 (by simp))).mono ?_; rintro e w2 ⟨F2, rfl, q2, k2, f2⟩))
      all_goals
        have hB2 : Below w.heap.size w w2 := by
          have hA : Below wr.heap.size wr (wr.alloc (.cells #[.int .u8 (d : Int)] 5)).drew := ((Below.refl _ _).alloc (Nat.le_refl _) _).drew
          exact HX.out.1.2.trans ((hA.mono (Nat.le_trans hBs HX.out.2.1.1)).trans (((HX.out.1.1.below hA).under k2 (Nat.le_trans HX.out.2.1.1 hA.size)).mono hBs))
        have hs2 : w0.heap.size ≤ w2.heap.size := Nat.le_trans HX.out.2.1.1 (by have := k2.size; simp at this; omega)
        clear cv cvd s1 s2 s3 s4
        go_wp2
        go_roundw
        case rel => exact ⟨k + 1, by go_num, by omega, F2, q2, hB2, hs2⟩
        case measure => simp [intOf]; omega
    · obtain rfl : k = n := by omega
      have hts1 : ∀ x ∈ tml ts k, 1 ≤ x.2 ∧ x.2 ≤ 256 := by
        intro x hx
        obtain ⟨j, hj, rfl⟩ := tml_mem hx
        have hjl : j < bs.length := by have := HL.out.1; omega
        have h1 : ts.getD j 0 = bs[j] + 1 := by rw [← HL.out.2.1]; simp [List.getD_eq_getElem?_getD, List.getElem?_eq_getElem hjl]
        have h2 := HL.out.2.2.2 bs[j] (List.getElem_mem hjl)
        show 1 ≤ ts.getD j 0 ∧ ts.getD j 0 ≤ 256
        omega
      have HI := Lib.hid (And.intro (And.intro q hb) (And.intro h0s hts1))
      clear q hb h0s hts1
      go_wp2
      go_loopw [6] (fun iv wx => ∃ (i : Nat) (L : List Tm), iv = .int .i64 (i : Int) ∧ i + L.length = k ∧ ∃ F N, TmAt w0.heap.size t F N L wx ∧ Below w.heap.size w wx ∧ w0.heap.size ≤ wx.heap.size ∧ ∀ x ∈ L, 1 ≤ x.2 ∧ x.2 ≤ 256) (fun iv _ => k - (intOf iv).toNat)
      case atStart => exact ⟨0, tml ts k, rfl, by rw [tml_len]; omega, F', k, HI.out.1.1, HI.out.1.2, HI.out.2.1, HI.out.2.2⟩
      case round =>
        obtain ⟨i, L, rfl, hiL, F1, N1, q, hb, h0s, h256⟩ := hrel
        cases hx : nextL L with
        | none =>
          obtain rfl := nextL_none hx
          have hik : i = k := by simpa using hiL
          have hik2 : ¬ (i : Int) < (k : Int) := by omega
          clear hx
          go_wp2_with fail
          refine (next_none _ t _ F1 _ q).mono ?_
          rintro e w' ⟨rfl, rfl⟩
          go_wp2_with fail
          refine (len_any _ t _ F1 [] _ q).mono ?_
          rintro e w' ⟨rfl, rfl⟩
          go_wp2
          go_ret
          exact ⟨rfl, hb⟩
        | some x =>
          have hm := nextL_mem hx
          obtain ⟨g1, g2⟩ := h256 x hm
          have hlen := q.idlen hm
          have hat := atL_in q.nodup hm
          obtain ⟨x1, x2⟩ := x
          have hd0 : dueL (x2 - 1) L = ([], L) := dueL_stop hx (by show ¬ x2 ≤ x2 - 1; have : 1 ≤ x2 := g1; omega)
          have hd1 := dueL_go hx (Nat.le_refl x2)
          obtain ⟨hd2, hd3⟩ := dueL_len x2 L.length L (Nat.le_refl _) q.nodup
          generalize (dueL x2 (dropL L (x1, x2).1)).1 = ms at hd1
          generalize hL2 : (dueL x2 (dropL L (x1, x2).1)).2 = L2 at hd1
          rw [hd1] at hd2 hd3
          have hd2' : ms.length + 1 + L2.length = L.length := hd2
          have hsz : (⟨x1.toArray⟩ : ByteArray).size ≤ 140737488355328 := by show x1.toArray.size ≤ _; rw [List.size_toArray]; have : x1.length ≤ 64 := hlen; omega
          have hat' : atL L (⟨x1.toArray⟩ : ByteArray).data.toList = some x2 := hat
          have hgi : (i : Int) < (k : Int) := by omega
          have hx2a : 1 ≤ (x2 : Int) := by have : 1 ≤ x2 := g1; omega
          have hx2b : (x2 : Int) ≤ 256 := by have : x2 ≤ 256 := g2; omega
          have hsub : (x2 : Int) - 1 = ((x2 - 1 : Nat) : Int) := by omega
          have hmsb : (ms.length : Int) ≤ 20 := by omega
          have HX := Lib.hid (And.intro (And.intro q (And.intro hb h0s)) (And.intro (And.intro h256 hx) (And.intro (And.intro hd0 hd1) (And.intro (And.intro hd2' hd3) (And.intro (And.intro hsz hat') hsub)))))
          clear q hb h0s h256 hx hd0 hd1 hd2 hd3 hsz hat hat' hL2 hm hlen g1 g2 hsub hd2'
          go_wp2_with fail
          refine (next_some _ t _ F1 L (x1, x2) _ HX.out.1.1 HX.out.2.1.2).mono ?_
          rintro e w2 ⟨rfl, hb2⟩
          have q2 := HX.out.1.1.below hb2
          go_wp2_with fail
          refine (due_in _ t _ F1 L L [] _ (x2 - 1) w2 q2 HX.out.2.2.2.2.2 HX.out.2.2.1.1).mono ?_
          rintro e w3 ⟨a3, c3, rfl, q3, k3, o3⟩
          go_wp2_with fail
          have hat3 := at_any _ t _ F1 L ⟨x1.toArray⟩ w3 q3 HX.out.2.2.2.2.1.1
          rw [HX.out.2.2.2.2.1.2] at hat3
          refine hat3.mono ?_
          rintro e w4 ⟨rfl, hb4⟩
          clear hat3
          have q4 := q3.below hb4
          go_wp2_with fail
          refine (due_in _ t _ F1 L L2 (x1 :: ms) _ x2 w4 q4 rfl HX.out.2.2.1.2).mono ?_
          rintro e w5 ⟨a5, c5, rfl, q5, k5, o5⟩
          obtain ⟨g, rfl, _, _, cg⟩ := row_str o5 0 x1 rfl
          rw [show (x1 :: ms).length = ms.length + 1 from rfl]
          have z0 : w0.heap.size ≤ w2.heap.size := Nat.le_trans HX.out.1.2.2 hb2.size
          have z3 : w0.heap.size ≤ w3.heap.size := Nat.le_trans z0 k3.size
          have z4 : w0.heap.size ≤ w4.heap.size := Nat.le_trans z3 hb4.size
          have hB : Below w.heap.size w w5 := (((HX.out.1.2.1.trans (hb2.mono (Nat.le_trans hBs HX.out.1.2.2))).trans ((q2.under k3 z0).mono hBs)).trans (hb4.mono (Nat.le_trans hBs z3))).trans ((q4.under k5 z4).mono hBs)
          have z5 : w0.heap.size ≤ w5.heap.size := Nat.le_trans z4 k5.size
          have HY := Lib.hid (And.intro q5 (And.intro hB z5))
          clear q2 q3 q4 q5 k3 k5 o3 o5 hb2 hb4 hB z0 z3 z4 z5
          go_wp2
          go_roundw
          case rel =>
            have h2 := HX.out.2.2.2.1.1
            refine ⟨i + (ms.length + 1), L2, by go_num, by omega, F1, N1, HY.out.1, HY.out.2.1, HY.out.2.2, fun y hy => HX.out.2.1.1 y (HX.out.2.2.2.1.2 y hy)⟩
          case measure => simp [intOf]; omega
end Go.Proofs.Ytjcocgadhdgbjaa
