/- names: Has, Empty, List. -/
import Derived.Test.YtkjfafnnnkjoeaaGreatDoorNmSet
namespace Go.Proofs.YtkjfafnnnkjoeaaGreatDoor
open Go.RowKit Go.Lib

theorem name_is {s : ByteArray} {w : World} {B : Bool} (hB : nmOk s = B) : Calls Tryz.prog 46 #[.string s] w fun e w' => e = .returned (.bool B) ∧ w' = w := by
  subst hB
  exact (name_any s w).mono (by rintro e w' ⟨rfl, rfl⟩; exact ⟨rfl, rfl⟩)

set_option maxRecDepth 100000 in
theorem has_any {sa : Bool} {sl : List (List UInt8)} {a : Option Addr} {c : Nat} {x : List UInt8} {w : World} {B : Bool} (h : TsAt w (.slice a sl.length c) sl) (hB : nHas okN ⟨sa, sl⟩ x = B) :
    Calls Tryz.prog 40 #[.agg #[.bool sa, .slice a sl.length c], .string ⟨x.toArray⟩] w fun e w' => e = .returned (.bool B) ∧ Below w.heap.size w w' := by
  obtain ⟨w0, hw0⟩ : ∃ w0, w.alloc (.cells #[.bool sa, .slice a sl.length c] 41) = w0 := ⟨_, rfl⟩
  have hb0 : Below w.heap.size w w0 := by rw [← hw0]; exact (Below.refl _ _).alloc (Nat.le_refl _) _
  have p0 : Blk w0 w.heap.size #[.bool sa, .slice a sl.length c] 41 := by rw [← hw0]; exact Blk.new _ _ _
  have H0 := Lib.hid (h.below hb0)
  have HB := Lib.hid hb0
  have HW := Lib.hid hw0
  have c0 : w0.cell? ⟨w.heap.size, 0, none⟩ = some (.bool sa) := p0.cell 0
  have c1 : w0.cell? ⟨w.heap.size, 1, none⟩ = some (.slice a sl.length c) := p0.cell 1
  clear h hb0 hw0 p0
  cases hn : nmOk ⟨x.toArray⟩ with
  | false =>
    obtain rfl : false = B := by rw [← hB]; simp [nHas, okN, hn]
    have HN := Lib.hid hn
    clear hn hB
    go_enter Tryz.func40, Tryz.ntmps40
    go_wp2_with fail
    rw [HW.out]
    refine (name_is HN.out).mono ?_
    rintro e w' ⟨rfl, rfl⟩
    go_wp2_with fail
    go_ret
    exact ⟨rfl, HB.out⟩
  | true =>
    cases sa with
    | true =>
      obtain rfl : true = B := by rw [← hB]; simp [nHas, okN, hn]
      have HN := Lib.hid hn
      clear hn hB
      go_enter Tryz.func40, Tryz.ntmps40
      go_wp2_with fail
      rw [HW.out]
      refine (name_is HN.out).mono ?_
      rintro e w' ⟨rfl, rfl⟩
      go_wp2_with fail
      go_ret
      exact ⟨rfl, HB.out⟩
    | false =>
      have hB' : sl.contains x = B := by rw [← hB]; simp [nHas, okN, hn]
      have HN := Lib.hid (And.intro hn hB')
      clear hn hB hB'
      go_enter Tryz.func40, Tryz.ntmps40
      go_wp2_with fail
      rw [HW.out]
      refine (name_is HN.out.1).mono ?_
      rintro e w' ⟨rfl, rfl⟩
      go_wp2_with fail
      refine (contains_any H0.out HN.out.2).mono ?_
      rintro e w' ⟨rfl, rfl⟩
      go_wp2_with fail
      go_ret
      exact ⟨rfl, HB.out⟩

set_option maxRecDepth 100000 in
theorem empty_any {sa : Bool} {sl : List (List UInt8)} {a : Option Addr} {c : Nat} {w : World} {B : Bool} (hB : nEmpty ⟨sa, sl⟩ = B) :
    Calls Tryz.prog 26 #[.agg #[.bool sa, .slice a sl.length c]] w fun e w' => e = .returned (.bool B) ∧ Below w.heap.size w w' := by
  have HB := Lib.hid hB
  clear hB
  have hb0 : Below w.heap.size w (w.alloc (.cells #[.bool sa, .slice a sl.length c] 41)) := (Below.refl _ _).alloc (Nat.le_refl _) _
  by_cases h0 : sl = []
  · subst h0
    have hl : ([] : List (List UInt8)).length = 0 := rfl
    rw [hl] at hb0 ⊢
    cases sa
    all_goals
      go_enter Tryz.func26, Tryz.ntmps26
      go_wp2_with fail
      go_ret
      exact ⟨by rw [← HB.out]; rfl, hb0⟩
  · have hl : sl.length ≠ 0 := fun e => h0 (List.eq_nil_of_length_eq_zero e)
    have he : sl.isEmpty = false := by cases sl with | nil => exact absurd rfl h0 | cons x xs => rfl
    obtain ⟨n, hn⟩ : ∃ n, sl.length = n := ⟨_, rfl⟩
    rw [hn] at hl hb0 ⊢
    have hz : ¬ n = 0 := by omega
    have HE := Lib.hid he
    clear he hn h0 hl
    cases sa
    all_goals
      go_enter Tryz.func26, Tryz.ntmps26
      go_wp2_with fail
      go_ret
      exact ⟨by first | (rw [← HB.out]; rfl) | (rw [← HB.out]; simp [nEmpty, HE.out, hz]), hb0⟩

theorem ts_news {w : World} {a : Option Addr} {c : Nat} {l : List (List UInt8)} (h : TsAt w (.slice a l.length c) l) : (tsV l).length = l.length * 1 ∧ (a = none → l.length = 0) ∧ ∀ j u, (tsV l)[j]? = some u → ∃ b, a = some b ∧ w.cell? (b.add j) = some u := by
  obtain ⟨a', c', e, _, _, h3⟩ := h
  injection e with e1 e2 e3
  subst e1
  refine ⟨by simp [tsV], fun e => ?_, fun j u hj => ?_⟩
  · cases l with
    | nil => rfl
    | cons x xs =>
      obtain ⟨b, off, e', _⟩ := h3 0 (encStr x) rfl
      rw [e] at e'; cases e'
  · obtain ⟨b, off, e', _, hc⟩ := h3 j u hj
    refine ⟨_, e', ?_⟩
    have : (⟨b, off, none⟩ : Addr).add j = ⟨b, off + j, none⟩ := by unfold Addr.add; split <;> simp_all
    rw [this]; exact hc

set_option maxRecDepth 100000 in
set_option maxHeartbeats 1000000 in
theorem list_any {sa : Bool} {sl L : List (List UInt8)} {a : Option Addr} {c : Nat} {w : World} (h : TsAt w (.slice a sl.length c) sl) (hL : nList ⟨sa, sl⟩ = L) (hz : L.length * 16 ≤ 140737488355328) :
    Calls Tryz.prog 33 #[.agg #[.bool sa, .slice a sl.length c]] w fun e w' => ∃ a' c', e = .returned (.slice a' L.length c') ∧ w'.ownsRow w.heap.size 9 1 (.slice a' L.length c') L.length (tsV L) ∧ Below w.heap.size w w' := by
  subst hL
  obtain ⟨i0, hi, hz0, hz1, hz2⟩ := info_parts Tryz.infoStr
  obtain ⟨w0, hw0⟩ : ∃ w0, w.alloc (.cells #[.bool sa, .slice a sl.length c] 41) = w0 := ⟨_, rfl⟩
  have hb0 : Below w.heap.size w w0 := by rw [← hw0]; exact (Below.refl _ _).alloc (Nat.le_refl _) _
  have p0 : Blk w0 w.heap.size #[.bool sa, .slice a sl.length c] 41 := by rw [← hw0]; exact Blk.new _ _ _
  have H0 := Lib.hid (h.below hb0)
  have HB := Lib.hid hb0
  have HW := Lib.hid hw0
  have c0 : w0.cell? ⟨w.heap.size, 0, none⟩ = some (.bool sa) := p0.cell 0
  have c1 : w0.cell? ⟨w.heap.size, 1, none⟩ = some (.slice a sl.length c) := p0.cell 1
  have P0 := Lib.hid p0
  clear h hb0 hw0 p0
  cases sa with
  | false =>
    have hl : nList ⟨false, sl⟩ = sl := rfl
    rw [hl] at hz ⊢
    obtain ⟨n1, n2, n3⟩ := ts_news H0.out
    rw [← HW.out] at n3
    have hb1 := HB.out
    rw [← HW.out] at hb1
    have hm63 : sl.length ≤ maxLen := by unfold maxLen; omega
    go_enter Tryz.func33, Tryz.ntmps33
    go_wp2_with (at_builtin; go_must (refine wpList_append_row _ rfl _ _ 27 rfl w.heap.size 9 i0 _ 1 16 Tryz.underlying27 hi hz0 hz1 hz2 rfl (by omega) _ _ _ rfl (World.ownsRow_nil _ _ _ _) a sl.length c (tsV sl) rfl n1 n2 n3 (tsV_one _) (by omega) (by omega) (by simp) ?_; intro v1 w1 hown1 hgrow1))
    obtain ⟨a1, c1, rfl⟩ := owns_slice hown1
    go_wp2_with fail
    go_ret
    rw [Nat.zero_add] at *
    exact ⟨_, _, rfl, hown1, hb1.grown hgrow1 (by simp) (fun j hj => by cases hj)⟩
  | true =>
    have hl : nList ⟨true, sl⟩ = [42] :: sl := rfl
    rw [hl] at hz ⊢
    have hm63 : sl.length + 1 ≤ maxLen := by unfold maxLen; rw [List.length_cons] at hz; omega
    have hz' : (sl.length + 1) * 16 ≤ 140737488355328 := by rw [List.length_cons] at hz; omega
    have hb1 := HB.out
    rw [← HW.out] at hb1
    have H1 := H0.out
    have hnew : ((w.alloc (.cells #[.bool true, .slice a sl.length c] 41)).alloc (.cells #[.string ⟨#[42]⟩] 9)).heap[w.heap.size + 1]? = some (.cells #[.string ⟨#[42]⟩] 9 (0, 0)) := by
      have := heap_alloc_new (w.alloc (.cells #[.bool true, .slice a sl.length c] 41)) (.cells #[.string ⟨#[42]⟩] 9); simpa using this
    rw [← HW.out] at H1
    go_enter Tryz.func33, Tryz.ntmps33
    go_wp2_with (at_builtin; go_must (first
      | (refine wpList_append_own _ rfl _ _ 27 rfl w.heap.size 9 i0 _ 1 16 Tryz.underlying27 hi hz0 hz1 hz2 rfl (by omega) _ _ _ rfl (World.ownsRow_nil _ _ _ _) ⟨w.heap.size + 1, 0, none⟩ 1 1 (tsV [[42]]) rfl rfl (World.news_of_block (cs := #[.string ⟨#[42]⟩]) (t := 9) (fr := (0, 0)) hnew) (tsV_one _) (by unfold maxLen; omega) (by omega) (by simp; omega) ?_; intro v1 w1 hown1 hgrow1 _
         have hb2 : Below w.heap.size w w1 := ((hb1.alloc (by simp) _).grown hgrow1 (by simp; omega) (fun j hj => by cases hj))
         have hb3 : Below (w.heap.size + 1) (w.alloc (.cells #[.bool true, .slice a sl.length c] 41)) w1 := (((Below.refl _ _).alloc (by simp) _).grown hgrow1 (by simp) (fun j hj => by cases hj))
         have H2 := H1.below (hb3.mono (by simp))
         have d0 : w1.cell? ⟨w.heap.size, 0, none⟩ = some (.bool true) := (hb3.cell (p := ⟨w.heap.size, 0, none⟩) (by simp)).trans (by have := (Blk.new w #[.bool true, .slice a sl.length c] 41).cell 0; exact this)
         have d1 : w1.cell? ⟨w.heap.size, 1, none⟩ = some (.slice a sl.length c) := (hb3.cell (p := ⟨w.heap.size, 1, none⟩) (by simp)).trans (by have := (Blk.new w #[.bool true, .slice a sl.length c] 41).cell 1; exact this)
         obtain ⟨n1, n2, n3⟩ := ts_news H2)
      | (refine wpList_append_row _ rfl _ _ 27 rfl w.heap.size 9 i0 _ 1 16 Tryz.underlying27 hi hz0 hz1 hz2 rfl (by omega) _ _ _ rfl hown1 a sl.length c (tsV sl) rfl n1 n2 n3 (tsV_one _) (by omega) (by omega) (by have := hb2.size; omega) ?_; intro v2 w2 hown2 hgrow2)))
    obtain ⟨a2, c2, rfl⟩ := owns_slice hown2
    go_wp2_with fail
    go_ret
    rw [Nat.zero_add, List.nil_append, ← tsV_append, Nat.add_comm] at hown2
    refine ⟨_, _, ?_, hown2, hb2.grown hgrow2 hb2.size (fun j hj => (hown1.lt j hj).1)⟩
    rw [Nat.zero_add, Nat.add_comm]; rfl
end Go.Proofs.YtkjfafnnnkjoeaaGreatDoor
