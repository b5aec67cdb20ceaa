/- names: ref; the reference's Same. -/
import Derived.Test.YtdcfdcjgheijcaaNmRefHas
namespace Go.Proofs.Ytdcfdcjgheijcaa
open Go.RowKit Go.Lib

set_option maxRecDepth 100000 in
theorem ref_any {sa : Bool} {sl : List (List UInt8)} {a : Option Addr} {c : Nat} {w : World} (h : TsAt w (.slice a sl.length c) sl) :
    Calls Try.prog 7 #[.agg #[.bool sa, .slice a sl.length c]] w (SetPost sa sl w) := by
  obtain ⟨w1, hw1, hb1, p1⟩ := alloc_new w #[.bool sa, .slice a sl.length c] 26
  obtain ⟨w2, hw2, hb2, p2⟩ := alloc_new w1 #[.bool sa, .slice a sl.length c] 29
  have t0 := p2.cell 0
  have t1 := p2.cell 1
  simp only [List.getElem?_toArray, List.getElem?_cons_zero, List.getElem?_cons_succ] at t0 t1
  have e1 : w1.heap.size = w.heap.size + 1 := by rw [← hw1, World.size_alloc]
  rw [e1] at t0 t1
  have HX := Lib.hid (And.intro t0 (And.intro t1 (And.intro ((h.later hb1).later hb2) (Base.later hb1 hb2))))
  have HW := Lib.hid (And.intro hw1 hw2)
  clear h hb1 p1 hb2 p2 t0 t1 hw1 hw2
  go_enter Try.func7, Try.ntmps7
  go_wp2_with fail
  rw [HW.out.1, HW.out.2]
  obtain ⟨t0, t1, ht, hb⟩ := HX.out
  refine bodyPost_ret (v := .agg #[.bool sa, .slice a sl.length c]) ?_ rfl ⟨_, _, rfl, ht, hb⟩
  simp [results, Try.results7, go_sem, t0, t1]

set_option maxRecDepth 100000 in
set_option maxHeartbeats 2000000 in
theorem rsame_len {sa B : Bool} {al bl : List (List UInt8)} {n : Nat} {a1 a2 : Option Addr} {c1 c2 : Nat} {w : World} (hn1 : al.length = n) (hn2 : bl.length = n) (h1 : TsAt w (.slice a1 n c1) al) (h2 : TsAt w (.slice a2 n c2) bl) (hB : (al == bl) = B) :
    Calls Try.prog 20 #[.agg #[.bool sa, .slice a1 n c1], .agg #[.bool sa, .slice a2 n c2]] w fun e w' => e = .returned (.bool B) ∧ Below w.heap.size w w' := by
  obtain ⟨w1, hw1, hb1, p1⟩ := alloc_new w #[.bool sa, .slice a1 n c1] 29
  obtain ⟨w2, hw2, hb2, p2⟩ := alloc_new w1 #[.bool sa, .slice a2 n c2] 29
  have P1 := p1.later hb2
  have B2 : Base w w2 := Base.later hb1 hb2
  have c0 := P1.cell 0
  have c1' := P1.cell 1
  have d0 := p2.cell 0
  have d1 := p2.cell 1
  simp only [List.getElem?_toArray, List.getElem?_cons_zero, List.getElem?_cons_succ] at c0 c1' d0 d1
  have e1 : w1.heap.size = w.heap.size + 1 := by rw [← hw1, World.size_alloc]
  have e2 : w2.heap.size = w.heap.size + 1 + 1 := by rw [← hw2, World.size_alloc, e1]
  rw [e1] at d0 d1
  obtain ⟨b1', b1c, f1, m1, m1', t1⟩ := ((h1.later hb1).later hb2).out
  obtain ⟨b2', b2c, f2, m2, m2', t2⟩ := ((h2.later hb1).later hb2).out
  injection f1 with q1 q2 q3
  subst q1; subst q3; clear q2
  injection f2 with q1 q2 q3
  subst q1; subst q3; clear q2
  have Q1 := Lib.hid t1
  have Q2 := Lib.hid t2
  have HT := Lib.hid B2
  have HB := Lib.hid hB
  have HN := Lib.hid (And.intro hn1 hn2)
  have HW := Lib.hid (And.intro hw1 hw2)
  have hn63 : n ≤ 9223372036854775807 := by unfold maxLen at m1'; omega
  have HC := Lib.hid (And.intro c1' (And.intro d1 e2))
  clear h1 h2 hb1 hb2 p1 p2 P1 B2 hB t1 t2 m1 m1' m2 m2' hw1 hw2 c0 c1' d0 d1 e1 e2 hn1 hn2
  go_enter Try.func20, Try.ntmps20
  cases sa
  all_goals
    go_wp2_with fail
    rw [HW.out.1, HW.out.2]
    go_loopw [5] (fun i wr => ∃ j : Nat, j ≤ n ∧ i = .int .i64 j ∧ al.take j = bl.take j ∧ Below w2.heap.size w2 wr) (fun i _ => n - (RowKit.intOf i).toNat)
    case atStart => exact ⟨0, Nat.zero_le _, rfl, rfl, Below.refl _ _⟩
    case round =>
      obtain ⟨j, hj, rfl, htk, hb⟩ := hrel
      have r1 : wr.cell? ⟨w.heap.size, 1, none⟩ = some (.slice a1 n c1) := (hb.cell (p := ⟨_, _, none⟩) (by show w.heap.size < _; have := HC.out.2.2; omega)).trans HC.out.1
      have r2 : wr.cell? ⟨w.heap.size + 1, 1, none⟩ = some (.slice a2 n c2) := (hb.cell (p := ⟨_, _, none⟩) (by show w.heap.size + 1 < _; have := HC.out.2.2; omega)).trans HC.out.2.1
      by_cases hlt : j < n
      · obtain ⟨x, hx⟩ : ∃ x, al[j]? = some x := ⟨_, List.getElem?_eq_getElem (by have := HN.out.1; omega)⟩
        obtain ⟨y, hy⟩ : ∃ y, bl[j]? = some y := ⟨_, List.getElem?_eq_getElem (by have := HN.out.2; omega)⟩
        obtain ⟨b, off, rfl, hbl, hc⟩ := Q1.out j (by have := HN.out.1; omega)
        obtain ⟨b', off', rfl, hbl', hc'⟩ := Q2.out j (by have := HN.out.2; omega)
        rw [(List.getElem?_eq_some_iff.1 hx).2] at hc
        rw [(List.getElem?_eq_some_iff.1 hy).2] at hc'
        have d1 : wr.cell? ⟨b, off + j, none⟩ = some (.string ⟨x.toArray⟩) := (hb.cell (p := ⟨b, _, none⟩) hbl).trans hc
        have d2 : wr.cell? ⟨b', off' + j, none⟩ = some (.string ⟨y.toArray⟩) := (hb.cell (p := ⟨b', _, none⟩) hbl').trans hc'
        have b0 : (0 : Int) ≤ (j : Int) := by omega
        have b1 : (j : Int) < (n : Int) := by omega
        have tx : (⟨x.toArray⟩ : ByteArray).toList = x := by rw [ByteArray.toList_eq]
        have ty : (⟨y.toArray⟩ : ByteArray).toList = y := by rw [ByteArray.toList_eq]
        have HBl := Lib.hid hb
        have HXY := Lib.hid (And.intro htk (And.intro hx hy))
        clear hc hc' hx hy hb htk
        by_cases hxy : x = y
        · subst hxy
          go_wp2_with fail
          go_region
          all_goals
            go_wp2_with fail
            go_roundw
            case rel => exact ⟨j + 1, by omega, by go_num, take_eq_next HXY.out.1 HXY.out.2.1 HXY.out.2.2, HBl.out.drew⟩
            case measure => simp [RowKit.intOf]; omega
        · have hne : (x == y) = false := by simpa using hxy
          have hfin : B = false := by
            rw [← HB.out]
            have : al ≠ bl := fun e => hxy (by have h1 := HXY.out.2.1; rw [e, HXY.out.2.2] at h1; exact (Option.some.inj h1).symm)
            simpa using this
          subst hfin
          have HNE := Lib.hid hxy
          clear hxy
          go_wp2_with fail
          go_region
          all_goals
            go_wp2_with fail
            go_ret
            exact ⟨rfl, HT.out.trans (HBl.out.drew.mono HT.out.size)⟩
      · have b1 : ¬ (j : Int) < (n : Int) := by omega
        have hfin : B = true := by
          rw [← HB.out]
          have : al = bl := by
            rw [List.take_of_length_le (by have := HN.out.1; omega), List.take_of_length_le (by have := HN.out.2; omega)] at htk
            exact htk
          simpa using this
        subst hfin
        have HBl := Lib.hid hb
        clear hb htk
        go_wp2_with fail
        go_ret
        exact ⟨rfl, HT.out.trans (HBl.out.mono HT.out.size)⟩

set_option maxRecDepth 100000 in
set_option maxHeartbeats 2000000 in
theorem rsame_any {sa sb B : Bool} {al bl : List (List UInt8)} {a1 a2 : Option Addr} {c1 c2 : Nat} {w : World} (h1 : TsAt w (.slice a1 al.length c1) al) (h2 : TsAt w (.slice a2 bl.length c2) bl) (hB : (sa == sb && al == bl) = B) :
    Calls Try.prog 20 #[.agg #[.bool sa, .slice a1 al.length c1], .agg #[.bool sb, .slice a2 bl.length c2]] w fun e w' => e = .returned (.bool B) ∧ Below w.heap.size w w' := by
  obtain ⟨w1, hw1, hb1, p1⟩ := alloc_new w #[.bool sa, .slice a1 al.length c1] 29
  obtain ⟨w2, hw2, hb2, p2⟩ := alloc_new w1 #[.bool sb, .slice a2 bl.length c2] 29
  have P1 := p1.later hb2
  have B2 : Base w w2 := Base.later hb1 hb2
  have c0 := P1.cell 0
  have c1' := P1.cell 1
  have d0 := p2.cell 0
  have d1 := p2.cell 1
  simp only [List.getElem?_toArray, List.getElem?_cons_zero, List.getElem?_cons_succ] at c0 c1' d0 d1
  have e1 : w1.heap.size = w.heap.size + 1 := by rw [← hw1, World.size_alloc]
  rw [e1] at d0 d1
  have T1 := (h1.later hb1).later hb2
  have T2 := (h2.later hb1).later hb2
  have HT := Lib.hid (And.intro T1 (And.intro T2 (And.intro B2 (And.intro P1 p2))))
  have HB := Lib.hid hB
  have HL := Lib.hid (And.intro h1 h2)
  have HW := Lib.hid (And.intro hw1 hw2)
  have m1 : al.length ≤ 9223372036854775807 := by
    obtain ⟨_, _, e, q1, q2, _⟩ := h1.out
    injection e with _ _ e3
    unfold maxLen at q2; omega
  have m2 : bl.length ≤ 9223372036854775807 := by
    obtain ⟨_, _, e, q1, q2, _⟩ := h2.out
    injection e with _ _ e3
    unfold maxLen at q2; omega
  clear h1 h2 hb1 hb2 p1 p2 P1 B2 T1 T2 hB
  by_cases hs : sa = sb
  · subst hs
    by_cases hl : al.length = bl.length
    · have hT := HT.out
      have hB' := HB.out
      rw [beq_self_eq_true, Bool.true_and] at hB'
      obtain ⟨n, hn⟩ : ∃ n, bl.length = n := ⟨_, rfl⟩
      have g1 := HL.out.1
      have g2 := HL.out.2
      rw [hl, hn] at g1
      rw [hn] at g2
      rw [hl, hn]
      exact rsame_len (hl.trans hn) hn g1 g2 hB'
    · have hl' : ¬ (al.length : Int) = (bl.length : Int) := by omega
      have hB : B = false := by
        rw [← HB.out]
        have : (al == bl) = false := by simpa using fun e : al = bl => hl (by rw [e])
        rw [this, Bool.and_false]
      subst hB
      go_enter Try.func20, Try.ntmps20
      cases sa
      all_goals
        go_wp2_with fail
        go_ret
        exact ⟨rfl, HT.out.2.2.1⟩
  · have hB : B = false := by
      rw [← HB.out]
      have : (sa == sb) = false := by simpa using hs
      rw [this, Bool.false_and]
    subst hB
    go_enter Try.func20, Try.ntmps20
    cases sa <;> cases sb <;> try (exact absurd rfl hs)
    all_goals
      go_wp2_with fail
      go_ret
      exact ⟨rfl, HT.out.2.2.1⟩
end Go.Proofs.Ytdcfdcjgheijcaa
