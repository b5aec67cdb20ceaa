/- client: errnoOf, exceeds. -/
import Derived.Test.YtdcfdcjgheijcaaGreatDoorClPlain
import Derived.Test.YtdcfdcjgheijcaaGreatDoorClAs
namespace Go.Proofs.YtdcfdcjgheijcaaGreatDoor
open Go.RowKit Go.Lib

abbrev fD (n : Int) (s : ByteArray) : Value := .iface 136 (.agg #[.int .i64 n, .string s])
abbrev fU (k n : Int) (s : ByteArray) : Value := .iface 138 (.agg #[.int .i64 k, fD n s])
theorem Ge.later {w w' : World} (h : Ge w) (hb : Below w.heap.size w w') : Ge w' := h.below hb
theorem setB {w w1 : World} {g : Nat} {o0 o1 : Value} {T : TypeId} (hb : Blk w g #[o0, o1] T) (h : Below w.heap.size w w1) (u0 u1 : Value) : Blk ((w1.setCell ⟨g, 0, none⟩ u0).setCell ⟨g, 1, none⟩ u1) g #[u0, u1] T ∧ ∀ m, m ≤ g → Below m w ((w1.setCell ⟨g, 0, none⟩ u0).setCell ⟨g, 1, none⟩ u1) := by
  have h1 := hb.later h
  obtain ⟨w2, e2, p2, j2⟩ := set_new h1 0 u0
  obtain ⟨w3, e3, p3, j3⟩ := set_new p2 1 u1
  rw [e2, e3]
  refine ⟨p3, fun m hm => ?_⟩
  have hlt := hb.lt
  exact ((h.mono (by omega)).trans (j2.below hm)).trans (j3.below hm)
theorem as_D' {n : Int} {s : ByteArray} {g : Nat} {w : World} (hg : Ge w) (hb : Blk w g #[.int .i64 0, .string ⟨#[]⟩] 136) :
    Calls Tryz.prog 95 #[fD n s, .iface 143 (.pointer (some ⟨g, 0, none⟩))] w fun e w' => e = .returned (.bool true) ∧ Blk w' g #[.int .i64 n, .string s] 136 ∧ ∀ m, m ≤ g → Below m w w' := by
  refine (as_D n s g _ _ w hg (hb.cell 0) (hb.cell 1) (hb.frozen 0) (hb.frozen 1)).mono ?_
  rintro e w' ⟨rfl, rfl⟩
  exact ⟨rfl, setB hb (ck_four w _ _ _ _) _ _⟩
theorem as_UD' {k n : Int} {s : ByteArray} {g : Nat} {w : World} (hg : Ge w) (hb : Blk w g #[.int .i64 0, .string ⟨#[]⟩] 136) :
    Calls Tryz.prog 95 #[fU k n s, .iface 143 (.pointer (some ⟨g, 0, none⟩))] w fun e w' => e = .returned (.bool true) ∧ Blk w' g #[.int .i64 n, .string s] 136 ∧ ∀ m, m ≤ g → Below m w w' := by
  refine (as_UD k n s g _ _ w hg (hb.cell 0) (hb.cell 1) (hb.frozen 0) (hb.frozen 1)).mono ?_
  rintro e w' ⟨rfl, rfl⟩
  exact ⟨rfl, setB hb (ck_five w _ _ _ _ _) _ _⟩

set_option maxRecDepth 100000 in
set_option maxHeartbeats 1000000 in
theorem errno_D {n : Int} {s : ByteArray} {w : World} (hg : Ge w) : Calls Tryz.prog 51 #[fD n s] w fun e w' => e = .returned (.int .i64 n) ∧ Below w.heap.size w w' := by
  obtain ⟨w0, hw0, hb0, p0⟩ := alloc_new w #[.int .i64 0, .string ⟨#[]⟩] 136
  have HC := Lib.hid (as_D' (n := n) (s := s) (hg.later hb0) p0)
  have HB := Lib.hid hb0
  have HW := Lib.hid hw0
  clear hb0 hw0 p0 hg
  go_enter Tryz.func51, Tryz.ntmps51
  go_wp2_with fail
  rw [HW.out]
  refine HC.out.mono ?_
  rintro e w1 ⟨rfl, p1, hb1⟩
  have c0 := p1.cell 0
  simp only [List.getElem?_toArray, List.getElem?_cons_zero] at c0
  have HB1 := Lib.hid (HB.out.trans (hb1 _ (Nat.le_refl _)))
  clear p1 hb1
  go_wp2_with fail
  go_ret
  exact ⟨rfl, HB1.out⟩
set_option maxRecDepth 100000 in
set_option maxHeartbeats 1000000 in
theorem errno_UD {k n : Int} {s : ByteArray} {w : World} (hg : Ge w) : Calls Tryz.prog 51 #[fU k n s] w fun e w' => e = .returned (.int .i64 n) ∧ Below w.heap.size w w' := by
  obtain ⟨w0, hw0, hb0, p0⟩ := alloc_new w #[.int .i64 0, .string ⟨#[]⟩] 136
  have HC := Lib.hid (as_UD' (k := k) (n := n) (s := s) (hg.later hb0) p0)
  have HB := Lib.hid hb0
  have HW := Lib.hid hw0
  clear hb0 hw0 p0 hg
  go_enter Tryz.func51, Tryz.ntmps51
  go_wp2_with fail
  rw [HW.out]
  refine HC.out.mono ?_
  rintro e w1 ⟨rfl, p1, hb1⟩
  have c0 := p1.cell 0
  simp only [List.getElem?_toArray, List.getElem?_cons_zero] at c0
  have HB1 := Lib.hid (HB.out.trans (hb1 _ (Nat.le_refl _)))
  clear p1 hb1
  go_wp2_with fail
  go_ret
  exact ⟨rfl, HB1.out⟩

/-- Numbers in a row at a. -/
def IntsAt (w : World) (a : Option Addr) (l : List Int) : Prop := ∀ (i : Nat) (n : Int), l[i]? = some n → ∃ g off, a = some ⟨g, off, none⟩ ∧ w.cell? ⟨g, off + i, none⟩ = some (.int .i64 n)
theorem ints_block {w : World} {B : Nat} {cs : Array Value} {l : List Int} (hb : Blk w B cs 3) (hl : cs.toList = l.map (Value.int .i64)) : IntsAt w (some ⟨B, 0, none⟩) l := by
  intro i n hi
  refine ⟨B, 0, rfl, ?_⟩
  rw [Nat.zero_add, hb.cell i, ← Array.getElem?_toList, hl, List.getElem?_map, hi]
  rfl
theorem any_step {l : List Int} {k : Nat} {n most : Int} (h : l[k]? = some n) : (l.take (k + 1)).any (fun x => decide (most < x)) = ((l.take k).any (fun x => decide (most < x)) || decide (most < n)) := by
  rw [List.take_add_one, h, List.any_append]; simp

set_option maxRecDepth 100000 in
set_option maxHeartbeats 1000000 in
theorem exceeds_any {most : Int} {a : Option Addr} {n c : Nat} {l : List Int} {w : World} {B : Bool} (h : IntsAt w a l) (hl : l.length = n) (hn : n ≤ 1000) (hB : l.any (fun x => decide (most < x)) = B) :
    Calls Tryz.prog 94 #[.int .i64 most, .slice a n c] w fun e w' => e = .returned (.bool B) ∧ w' = w := by
  have H := Lib.hid h
  have HL := Lib.hid hl
  have HB := Lib.hid hB
  clear h hl hB
  go_enter Tryz.func94, Tryz.ntmps94
  go_wp2_with fail
  go_loopw [9] (fun i wr => ∃ k : Nat, k ≤ n ∧ i = .int .i64 k ∧ (l.take k).any (fun x => decide (most < x)) = false ∧ wr = w) (fun i _ => n - (RowKit.intOf i).toNat)
  case atStart => exact ⟨0, Nat.zero_le _, rfl, rfl, rfl⟩
  case round =>
    obtain ⟨k, hk, rfl, hno, rfl⟩ := hrel
    by_cases hlt : k < n
    · obtain ⟨x, hx⟩ : ∃ x, l[k]? = some x := ⟨_, List.getElem?_eq_getElem (by have := HL.out; omega)⟩
      obtain ⟨g, off, rfl, hcell⟩ := H.out k x hx
      have b0 : (0 : Int) ≤ (k : Int) := by omega
      have b1 : (k : Int) < (n : Int) := by omega
      have hst := any_step (most := most) hx
      rw [hno, Bool.false_or] at hst
      by_cases hgt : most < x
      · have HR : B = true := by
          rw [← HB.out]
          refine List.any_eq_true.2 ⟨x, List.mem_of_getElem? hx, by simpa using hgt⟩
        subst HR
        clear hst hno hx
        go_wp2_with fail
        go_ret
        exact ⟨rfl, rfl⟩
      · rw [decide_eq_false hgt] at hst
        have HS := Lib.hid hst
        clear hst hno hx
        go_wp2_with fail
        go_roundw
        case rel => exact ⟨k + 1, by omega, by go_num, HS.out, trivial⟩
        case measure => simp [RowKit.intOf]; omega
    · have b1 : ¬ (k : Int) < (n : Int) := by omega
      have hB2 : B = false := by
        rw [← HB.out, ← hno, List.take_of_length_le (by have := HL.out; omega)]
      subst hB2
      clear hno
      go_wp2_with fail
      go_ret
      exact ⟨rfl, rfl⟩
end Go.Proofs.YtdcfdcjgheijcaaGreatDoor
