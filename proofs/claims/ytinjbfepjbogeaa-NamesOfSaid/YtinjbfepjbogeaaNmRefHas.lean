/- names: the reference's Has, Empty, List; texts, same. -/
import Derived.Test.YtinjbfepjbogeaaNmRefOf
namespace Go.Proofs.Ytinjbfepjbogeaa
open Go.RowKit Go.Lib

set_option maxRecDepth 100000 in
theorem rempty_any {sa : Bool} {sl : List (List UInt8)} {a : Option Addr} {c : Nat} {w : World} {B : Bool} (hB : nEmpty ⟨sa, sl⟩ = B) :
    Calls Try.prog 20 #[.agg #[.bool sa, .slice a sl.length c]] w fun e w' => e = .returned (.bool B) ∧ Below w.heap.size w w' := by
  have HB := Lib.hid hB
  clear hB
  have hb0 : Below w.heap.size w (w.alloc (.cells #[.bool sa, .slice a sl.length c] 29)) := (Below.refl _ _).alloc (Nat.le_refl _) _
  by_cases h0 : sl = []
  · subst h0
    have hl : ([] : List (List UInt8)).length = 0 := rfl
    rw [hl] at hb0 ⊢
    cases sa
    all_goals
      go_enter Try.func20, Try.ntmps20
      go_wp2_with fail
      go_ret
      exact ⟨by rw [← HB.out]; rfl, hb0⟩
  · have hl : sl.length ≠ 0 := fun e => h0 (List.eq_nil_of_length_eq_zero e)
    have he : sl.isEmpty = false := by cases sl with | nil => exact absurd rfl h0 | cons x xs => rfl
    obtain ⟨n, hn⟩ : ∃ n, sl.length = n := ⟨_, rfl⟩
    rw [hn] at hl hb0 ⊢
    have hz : ¬ n = 0 := by omega
    have HE := Lib.hid he
    clear he hn h0 hl
    cases sa
    all_goals
      go_enter Try.func20, Try.ntmps20
      go_wp2_with fail
      go_ret
      exact ⟨by first | (rw [← HB.out]; rfl) | (rw [← HB.out]; simp [nEmpty, HE.out, hz]), hb0⟩

set_option maxRecDepth 100000 in
set_option maxHeartbeats 1000000 in
theorem rlist_any {sa : Bool} {sl L : List (List UInt8)} {a : Option Addr} {c : Nat} {w : World} (h : TsAt w (.slice a sl.length c) sl) (hL : nList ⟨sa, sl⟩ = L) (hz : L.length * 16 ≤ 140737488355328) :
    Calls Try.prog 16 #[.agg #[.bool sa, .slice a sl.length c]] w fun e w' => ∃ a' c', e = .returned (.slice a' L.length c') ∧ w'.ownsRow w.heap.size 9 1 (.slice a' L.length c') L.length (tsV L) ∧ Below w.heap.size w w' := by
  subst hL
  obtain ⟨i0, hi, hz0, hz1, hz2⟩ := info_parts Try.infoStr
  obtain ⟨w0, hw0⟩ : ∃ w0, w.alloc (.cells #[.bool sa, .slice a sl.length c] 29) = w0 := ⟨_, rfl⟩
  have hb0 : Below w.heap.size w w0 := by rw [← hw0]; exact (Below.refl _ _).alloc (Nat.le_refl _) _
  have p0 : Blk w0 w.heap.size #[.bool sa, .slice a sl.length c] 29 := by rw [← hw0]; exact Blk.new _ _ _
  have H0 := Lib.hid (h.below hb0)
  have HB := Lib.hid hb0
  have HW := Lib.hid hw0
  have c0 : w0.cell? ⟨w.heap.size, 0, none⟩ = some (.bool sa) := p0.cell 0
  have c1 : w0.cell? ⟨w.heap.size, 1, none⟩ = some (.slice a sl.length c) := p0.cell 1
  have P0 := Lib.hid p0
  clear h hb0 hw0 p0
  cases sa with
  | false =>
    have hl : nList ⟨false, sl⟩ = sl := rfl
    rw [hl] at hz ⊢
    obtain ⟨n1, n2, n3⟩ := ts_news H0.out
    rw [← HW.out] at n3
    have hb1 := HB.out
    rw [← HW.out] at hb1
    have hm63 : sl.length ≤ maxLen := by unfold maxLen; omega
    go_enter Try.func16, Try.ntmps16
    go_wp2_with (at_builtin; go_must (refine wpList_append_row _ rfl _ _ 23 rfl w.heap.size 9 i0 _ 1 16 Try.underlying23 hi hz0 hz1 hz2 rfl (by omega) _ _ _ rfl (World.ownsRow_nil _ _ _ _) a sl.length c (tsV sl) rfl n1 n2 n3 (tsV_one _) (by omega) (by omega) (by simp) ?_; intro v1 w1 hown1 hgrow1))
    obtain ⟨a1, c1, rfl⟩ := owns_slice hown1
    go_wp2_with fail
    go_ret
    rw [Nat.zero_add] at *
    exact ⟨_, _, rfl, hown1, hb1.grown hgrow1 (by simp) (fun j hj => by cases hj)⟩
  | true =>
    have hl : nList ⟨true, sl⟩ = [42] :: sl := rfl
    rw [hl] at hz ⊢
    have hm63 : sl.length + 1 ≤ maxLen := by unfold maxLen; rw [List.length_cons] at hz; omega
    have hz' : (sl.length + 1) * 16 ≤ 140737488355328 := by rw [List.length_cons] at hz; omega
    have hb1 := HB.out
    rw [← HW.out] at hb1
    have H1 := H0.out
    have hnew : ((w.alloc (.cells #[.bool true, .slice a sl.length c] 29)).alloc (.cells #[.string ⟨#[42]⟩] 9)).heap[w.heap.size + 1]? = some (.cells #[.string ⟨#[42]⟩] 9 (0, 0)) := by
      have := heap_alloc_new (w.alloc (.cells #[.bool true, .slice a sl.length c] 29)) (.cells #[.string ⟨#[42]⟩] 9); simpa using this
    rw [← HW.out] at H1
    go_enter Try.func16, Try.ntmps16
    go_wp2_with (at_builtin; go_must (first
      | (refine wpList_append_own _ rfl _ _ 23 rfl w.heap.size 9 i0 _ 1 16 Try.underlying23 hi hz0 hz1 hz2 rfl (by omega) _ _ _ rfl (World.ownsRow_nil _ _ _ _) ⟨w.heap.size + 1, 0, none⟩ 1 1 (tsV [[42]]) rfl rfl (World.news_of_block (cs := #[.string ⟨#[42]⟩]) (t := 9) (fr := (0, 0)) hnew) (tsV_one _) (by unfold maxLen; omega) (by omega) (by simp; omega) ?_; intro v1 w1 hown1 hgrow1 _
         have hb2 : Below w.heap.size w w1 := ((hb1.alloc (by simp) _).grown hgrow1 (by simp; omega) (fun j hj => by cases hj))
         have hb3 : Below (w.heap.size + 1) (w.alloc (.cells #[.bool true, .slice a sl.length c] 29)) w1 := (((Below.refl _ _).alloc (by simp) _).grown hgrow1 (by simp) (fun j hj => by cases hj))
         have H2 := H1.below (hb3.mono (by simp))
         have d0 : w1.cell? ⟨w.heap.size, 0, none⟩ = some (.bool true) := (hb3.cell (p := ⟨w.heap.size, 0, none⟩) (by simp)).trans (by have := (Blk.new w #[.bool true, .slice a sl.length c] 29).cell 0; exact this)
         have d1 : w1.cell? ⟨w.heap.size, 1, none⟩ = some (.slice a sl.length c) := (hb3.cell (p := ⟨w.heap.size, 1, none⟩) (by simp)).trans (by have := (Blk.new w #[.bool true, .slice a sl.length c] 29).cell 1; exact this)
         obtain ⟨n1, n2, n3⟩ := ts_news H2)
      | (refine wpList_append_row _ rfl _ _ 23 rfl w.heap.size 9 i0 _ 1 16 Try.underlying23 hi hz0 hz1 hz2 rfl (by omega) _ _ _ rfl hown1 a sl.length c (tsV sl) rfl n1 n2 n3 (tsV_one _) (by omega) (by omega) (by have := hb2.size; omega) ?_; intro v2 w2 hown2 hgrow2)))
    obtain ⟨a2, c2, rfl⟩ := owns_slice hown2
    go_wp2_with fail
    go_ret
    rw [Nat.zero_add, List.nil_append, ← tsV_append, Nat.add_comm] at hown2
    refine ⟨_, _, ?_, hown2, hb2.grown hgrow2 hb2.size (fun j hj => (hown1.lt j hj).1)⟩
    rw [Nat.zero_add, Nat.add_comm]; rfl

set_option maxRecDepth 100000 in
theorem rhas_any {sa : Bool} {sl : List (List UInt8)} {a : Option Addr} {c : Nat} {x : List UInt8} {w : World} {B : Bool} (h : TsAt w (.slice a sl.length c) sl) (hx : x.length ≤ maxLen) (hB : nHas okN ⟨sa, sl⟩ x = B) :
    Calls Try.prog 18 #[.agg #[.bool sa, .slice a sl.length c], .string ⟨x.toArray⟩] w fun e w' => e = .returned (.bool B) ∧ Below w.heap.size w w' := by
  obtain ⟨w0, hw0⟩ : ∃ w0, w.alloc (.cells #[.bool sa, .slice a sl.length c] 29) = w0 := ⟨_, rfl⟩
  have hb0 : Below w.heap.size w w0 := by rw [← hw0]; exact (Below.refl _ _).alloc (Nat.le_refl _) _
  have p0 : Blk w0 w.heap.size #[.bool sa, .slice a sl.length c] 29 := by rw [← hw0]; exact Blk.new _ _ _
  have H0 := Lib.hid (h.below hb0)
  have HB := Lib.hid hb0
  have HW := Lib.hid hw0
  have c0 : w0.cell? ⟨w.heap.size, 0, none⟩ = some (.bool sa) := p0.cell 0
  have c1 : w0.cell? ⟨w.heap.size, 1, none⟩ = some (.slice a sl.length c) := p0.cell 1
  clear h hb0 hw0 p0
  cases hn : nmOk ⟨x.toArray⟩ with
  | false =>
    obtain rfl : false = B := by rw [← hB]; simp [nHas, okN, hn]
    have HN := Lib.hid hn
    clear hn hB
    go_enter Try.func18, Try.ntmps18
    go_wp2_with fail
    rw [HW.out]
    refine (rname_is (s := ⟨x.toArray⟩) hx HN.out).mono ?_
    rintro e w' ⟨rfl, rfl⟩
    go_wp2_with fail
    go_ret
    exact ⟨rfl, HB.out⟩
  | true =>
    cases sa with
    | true =>
      obtain rfl : true = B := by rw [← hB]; simp [nHas, okN, hn]
      have HN := Lib.hid hn
      clear hn hB
      go_enter Try.func18, Try.ntmps18
      go_wp2_with fail
      rw [HW.out]
      refine (rname_is (s := ⟨x.toArray⟩) hx HN.out).mono ?_
      rintro e w' ⟨rfl, rfl⟩
      go_wp2_with fail
      go_ret
      exact ⟨rfl, HB.out⟩
    | false =>
      have hB' : sl.contains x = B := by rw [← hB]; simp [nHas, okN, hn]
      have HN := Lib.hid (And.intro hn hB')
      clear hn hB hB'
      go_enter Try.func18, Try.ntmps18
      go_wp2_with fail
      rw [HW.out]
      refine (rname_is (s := ⟨x.toArray⟩) hx HN.out.1).mono ?_
      rintro e w' ⟨rfl, rfl⟩
      go_wp2_with fail
      refine (listed_any H0.out HN.out.2).mono ?_
      rintro e w' ⟨rfl, hb⟩
      go_wp2_with fail
      go_ret
      exact ⟨rfl, HB.out.trans (hb.mono HB.out.size)⟩

theorem take_eq_next {l1 l2 : List (List UInt8)} {j : Nat} {y : List UInt8} (h : l1.take j = l2.take j) (h1 : l1[j]? = some y) (h2 : l2[j]? = some y) : l1.take (j + 1) = l2.take (j + 1) := by
  rw [List.take_add_one, List.take_add_one, h, h1, h2]
set_option maxRecDepth 100000 in
set_option maxHeartbeats 2000000 in
theorem texts_any {a1 a2 : Option Addr} {c1 c2 : Nat} {l : List (List UInt8)} {w : World} (h1 : TsAt w (.slice a1 l.length c1) l) (h2 : TsAt w (.slice a2 l.length c2) l) :
    Calls Try.prog 14 #[.slice a1 l.length c1, .slice a2 l.length c2] w fun e w' => e = .returned (.bool true) ∧ Below w.heap.size w w' := by
  obtain ⟨a', c', e', m1, m2, q1⟩ := h1.out
  injection e' with e1 _ e3
  subst e1; subst e3
  obtain ⟨a', c', e', _, _, q2⟩ := h2.out
  injection e' with e1 _ e3
  subst e1; subst e3
  have Q1 := Lib.hid q1
  have Q2 := Lib.hid q2
  unfold maxLen at m2
  have hn63 : (l.length : Int) ≤ 9223372036854775807 := by omega
  clear h1 h2 q1 q2
  go_enter Try.func14, Try.ntmps14
  go_wp2_with fail
  go_loopw [5] (fun i wr => ∃ j : Nat, j ≤ l.length ∧ i = .int .i64 j ∧ Below w.heap.size w wr) (fun i _ => l.length - (RowKit.intOf i).toNat)
  case atStart => exact ⟨0, Nat.zero_le _, rfl, Below.refl _ _⟩
  case round =>
    obtain ⟨j, hj, rfl, hb⟩ := hrel
    by_cases hlt : j < l.length
    · obtain ⟨b, off, rfl, hbl, hc⟩ := Q1.out j hlt
      obtain ⟨b', off', rfl, hbl', hc'⟩ := Q2.out j hlt
      obtain ⟨y, hy⟩ : ∃ y, l[j] = y := ⟨_, rfl⟩
      rw [hy] at hc hc'
      have d1 : wr.cell? ⟨b, off + j, none⟩ = some (.string ⟨y.toArray⟩) := (hb.cell (p := ⟨b, _, none⟩) hbl).trans hc
      have d2 : wr.cell? ⟨b', off' + j, none⟩ = some (.string ⟨y.toArray⟩) := (hb.cell (p := ⟨b', _, none⟩) hbl').trans hc'
      have b0 : (0 : Int) ≤ (j : Int) := by omega
      have b1 : (j : Int) < (l.length : Int) := by omega
      have HB := Lib.hid hb
      clear hc hc' hy hb
      go_wp2_with fail
      go_region
      all_goals
        go_wp2_with fail
        go_roundw
        case rel => exact ⟨j + 1, by omega, by go_num, HB.out.drew⟩
        case measure => simp [RowKit.intOf]; omega
    · have b1 : ¬ (j : Int) < (l.length : Int) := by omega
      go_wp2_with fail
      go_ret
      exact ⟨rfl, hb⟩
set_option maxRecDepth 100000 in
theorem same9_any {sa : Bool} {a1 a2 : Option Addr} {c1 c2 : Nat} {l : List (List UInt8)} {w : World} (h1 : TsAt w (.slice a1 l.length c1) l) (h2 : TsAt w (.slice a2 l.length c2) l) :
    Calls Try.prog 13 #[.agg #[.bool sa, .slice a1 l.length c1], .agg #[.bool sa, .slice a2 l.length c2]] w fun e w' => e = .returned (.bool true) ∧ Below w.heap.size w w' := by
  obtain ⟨w1, hw1, hb1, p1⟩ := alloc_new w #[.bool sa, .slice a1 l.length c1] 27
  obtain ⟨w2, hw2, hb2, p2⟩ := alloc_new w1 #[.bool sa, .slice a2 l.length c2] 29
  have p1' := p1.later hb2
  have T1 := (h1.later hb1).later hb2
  have T2 := (h2.later hb1).later hb2
  have B2 : Base w w2 := hb1.trans (hb2.mono hb1.size)
  have c0 := p1'.cell 0
  have c1' := p1'.cell 1
  have c2' := p2.cell 0
  have c3 := p2.cell 1
  simp only [List.getElem?_toArray, List.getElem?_cons_zero, List.getElem?_cons_succ] at c0 c1' c2' c3
  have HT := Lib.hid (And.intro T1 (And.intro T2 (And.intro B2 (And.intro p1' p2))))
  clear h1 h2 hb1 hb2 p1 p2 p1' T1 T2 B2
  go_enter Try.func13, Try.ntmps13
  go_wp2_with fail
  refine (texts_any HT.out.1 HT.out.2.1).mono ?_
  rintro e w3 ⟨rfl, hb3⟩
  have B3 := HT.out.2.2.1.later hb3
  have P1 := HT.out.2.2.2.1.later hb3
  have P2 := HT.out.2.2.2.2.later hb3
  have d0 := P1.cell 0
  have d2 := P2.cell 0
  simp only [List.getElem?_toArray, List.getElem?_cons_zero] at d0 d2
  go_wp2_with fail
  go_ret
  exact ⟨rfl, B3⟩
end Go.Proofs.Ytinjbfepjbogeaa
