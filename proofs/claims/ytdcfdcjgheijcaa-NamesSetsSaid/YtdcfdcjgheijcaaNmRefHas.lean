/- names: the reference's Has, Empty, List; texts, same. -/
import Derived.Test.YtdcfdcjgheijcaaNmRefOf
namespace Go.Proofs.Ytdcfdcjgheijcaa
open Go.RowKit Go.Lib

set_option maxRecDepth 100000 in
theorem rhas_any {sa : Bool} {sl : List (List UInt8)} {a : Option Addr} {c : Nat} {x : List UInt8} {w : World} {B : Bool} (h : TsAt w (.slice a sl.length c) sl) (hx : x.length ≤ maxLen) (hB : nHas okN ⟨sa, sl⟩ x = B) :
    Calls Try.prog 34 #[.agg #[.bool sa, .slice a sl.length c], .string ⟨x.toArray⟩] w fun e w' => e = .returned (.bool B) ∧ Below w.heap.size w w' := by
  obtain ⟨w0, hw0⟩ : ∃ w0, w.alloc (.cells #[.bool sa, .slice a sl.length c] 29) = w0 := ⟨_, rfl⟩
  have hb0 : Below w.heap.size w w0 := by rw [← hw0]; exact (Below.refl _ _).alloc (Nat.le_refl _) _
  have p0 : Blk w0 w.heap.size #[.bool sa, .slice a sl.length c] 29 := by rw [← hw0]; exact Blk.new _ _ _
  have H0 := Lib.hid (h.below hb0)
  have HB := Lib.hid hb0
  have HW := Lib.hid hw0
  have c0 : w0.cell? ⟨w.heap.size, 0, none⟩ = some (.bool sa) := p0.cell 0
  have c1 : w0.cell? ⟨w.heap.size, 1, none⟩ = some (.slice a sl.length c) := p0.cell 1
  clear h hb0 hw0 p0
  cases hn : nmOk ⟨x.toArray⟩ with
  | false =>
    obtain rfl : false = B := by rw [← hB]; simp [nHas, okN, hn]
    have HN := Lib.hid hn
    clear hn hB
    go_enter Try.func34, Try.ntmps34
    go_wp2_with fail
    rw [HW.out]
    refine (rname_is (s := ⟨x.toArray⟩) hx HN.out).mono ?_
    rintro e w' ⟨rfl, rfl⟩
    go_wp2_with fail
    go_ret
    exact ⟨rfl, HB.out⟩
  | true =>
    cases sa with
    | true =>
      obtain rfl : true = B := by rw [← hB]; simp [nHas, okN, hn]
      have HN := Lib.hid hn
      clear hn hB
      go_enter Try.func34, Try.ntmps34
      go_wp2_with fail
      rw [HW.out]
      refine (rname_is (s := ⟨x.toArray⟩) hx HN.out).mono ?_
      rintro e w' ⟨rfl, rfl⟩
      go_wp2_with fail
      go_ret
      exact ⟨rfl, HB.out⟩
    | false =>
      have hB' : sl.contains x = B := by rw [← hB]; simp [nHas, okN, hn]
      have HN := Lib.hid (And.intro hn hB')
      clear hn hB hB'
      go_enter Try.func34, Try.ntmps34
      go_wp2_with fail
      rw [HW.out]
      refine (rname_is (s := ⟨x.toArray⟩) hx HN.out.1).mono ?_
      rintro e w' ⟨rfl, rfl⟩
      go_wp2_with fail
      refine (listed_any H0.out HN.out.2).mono ?_
      rintro e w' ⟨rfl, hb⟩
      go_wp2_with fail
      go_ret
      exact ⟨rfl, HB.out.trans (hb.mono HB.out.size)⟩

theorem take_eq_next {l1 l2 : List (List UInt8)} {j : Nat} {y : List UInt8} (h : l1.take j = l2.take j) (h1 : l1[j]? = some y) (h2 : l2[j]? = some y) : l1.take (j + 1) = l2.take (j + 1) := by
  rw [List.take_add_one, List.take_add_one, h, h1, h2]
set_option maxRecDepth 100000 in
set_option maxHeartbeats 2000000 in
theorem texts_any {a1 a2 : Option Addr} {c1 c2 : Nat} {l : List (List UInt8)} {w : World} (h1 : TsAt w (.slice a1 l.length c1) l) (h2 : TsAt w (.slice a2 l.length c2) l) :
    Calls Try.prog 27 #[.slice a1 l.length c1, .slice a2 l.length c2] w fun e w' => e = .returned (.bool true) ∧ Below w.heap.size w w' := by
  obtain ⟨a', c', e', m1, m2, q1⟩ := h1.out
  injection e' with e1 _ e3
  subst e1; subst e3
  obtain ⟨a', c', e', _, _, q2⟩ := h2.out
  injection e' with e1 _ e3
  subst e1; subst e3
  have Q1 := Lib.hid q1
  have Q2 := Lib.hid q2
  unfold maxLen at m2
  have hn63 : (l.length : Int) ≤ 9223372036854775807 := by omega
  clear h1 h2 q1 q2
  go_enter Try.func27, Try.ntmps27
  go_wp2_with fail
  go_loopw [5] (fun i wr => ∃ j : Nat, j ≤ l.length ∧ i = .int .i64 j ∧ Below w.heap.size w wr) (fun i _ => l.length - (RowKit.intOf i).toNat)
  case atStart => exact ⟨0, Nat.zero_le _, rfl, Below.refl _ _⟩
  case round =>
    obtain ⟨j, hj, rfl, hb⟩ := hrel
    by_cases hlt : j < l.length
    · obtain ⟨b, off, rfl, hbl, hc⟩ := Q1.out j hlt
      obtain ⟨b', off', rfl, hbl', hc'⟩ := Q2.out j hlt
      obtain ⟨y, hy⟩ : ∃ y, l[j] = y := ⟨_, rfl⟩
      rw [hy] at hc hc'
      have d1 : wr.cell? ⟨b, off + j, none⟩ = some (.string ⟨y.toArray⟩) := (hb.cell (p := ⟨b, _, none⟩) hbl).trans hc
      have d2 : wr.cell? ⟨b', off' + j, none⟩ = some (.string ⟨y.toArray⟩) := (hb.cell (p := ⟨b', _, none⟩) hbl').trans hc'
      have b0 : (0 : Int) ≤ (j : Int) := by omega
      have b1 : (j : Int) < (l.length : Int) := by omega
      have HB := Lib.hid hb
      clear hc hc' hy hb
      go_wp2_with fail
      go_region
      all_goals
        go_wp2_with fail
        go_roundw
        case rel => exact ⟨j + 1, by omega, by go_num, HB.out.drew⟩
        case measure => simp [RowKit.intOf]; omega
    · have b1 : ¬ (j : Int) < (l.length : Int) := by omega
      go_wp2_with fail
      go_ret
      exact ⟨rfl, hb⟩
set_option maxRecDepth 100000 in
theorem same9_any {sa : Bool} {a1 a2 : Option Addr} {c1 c2 : Nat} {l : List (List UInt8)} {w : World} (h1 : TsAt w (.slice a1 l.length c1) l) (h2 : TsAt w (.slice a2 l.length c2) l) :
    Calls Try.prog 8 #[.agg #[.bool sa, .slice a1 l.length c1], .agg #[.bool sa, .slice a2 l.length c2]] w fun e w' => e = .returned (.bool true) ∧ Below w.heap.size w w' := by
  obtain ⟨w1, hw1, hb1, p1⟩ := alloc_new w #[.bool sa, .slice a1 l.length c1] 26
  obtain ⟨w2, hw2, hb2, p2⟩ := alloc_new w1 #[.bool sa, .slice a2 l.length c2] 29
  have p1' := p1.later hb2
  have T1 := (h1.later hb1).later hb2
  have T2 := (h2.later hb1).later hb2
  have B2 : Base w w2 := hb1.trans (hb2.mono hb1.size)
  have c0 := p1'.cell 0
  have c1' := p1'.cell 1
  have c2' := p2.cell 0
  have c3 := p2.cell 1
  simp only [List.getElem?_toArray, List.getElem?_cons_zero, List.getElem?_cons_succ] at c0 c1' c2' c3
  have HT := Lib.hid (And.intro T1 (And.intro T2 (And.intro B2 (And.intro p1' p2))))
  clear h1 h2 hb1 hb2 p1 p2 p1' T1 T2 B2
  go_enter Try.func8, Try.ntmps8
  go_wp2_with fail
  refine (texts_any HT.out.1 HT.out.2.1).mono ?_
  rintro e w3 ⟨rfl, hb3⟩
  have B3 := HT.out.2.2.1.later hb3
  have P1 := HT.out.2.2.2.1.later hb3
  have P2 := HT.out.2.2.2.2.later hb3
  have d0 := P1.cell 0
  have d2 := P2.cell 0
  simp only [List.getElem?_toArray, List.getElem?_cons_zero] at d0 d2
  go_wp2_with fail
  go_ret
  exact ⟨rfl, B3⟩
end Go.Proofs.Ytdcfdcjgheijcaa
