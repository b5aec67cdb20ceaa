/- timer: the document's own timers: Next. -/
import Derived.Test.YtjcocgadhdgbjaaTmRefN
namespace Go.Proofs.Ytjcocgadhdgbjaa
open Go.RowKit

theorem nextL_snoc (y : Tm) : ∀ (A : List Tm), nextL (A ++ [y]) = match nextL A with
    | none => some y
    | some x => if y.2 < x.2 then some y else some x := by
  intro A
  induction A with
  | nil => rfl
  | cons a A ih =>
    rw [List.cons_append]
    simp only [nextL, ih]
    cases nextL A with
    | none => rfl
    | some x =>
      simp only
      by_cases h1 : y.2 < x.2 <;> by_cases h2 : x.2 < a.2
      · rw [if_pos h1, if_pos h2]; simp only; rw [if_pos (by omega), if_pos h1]
      · rw [if_pos h1, if_neg h2]
      · rw [if_neg h1, if_pos h2]; simp only; rw [if_neg h1, if_pos h2]
      · rw [if_neg h1, if_neg h2]; simp only; rw [if_neg h2, if_neg (by omega)]
theorem nextL_take {L : List Tm} {k : Nat} {x y : Tm} (hk : k < L.length) (hy : L[k]? = some y) (hx : nextL (L.take (max k 1)) = some x) : nextL (L.take (max (k + 1) 1)) = some (if y.2 < x.2 then y else x) := by
  by_cases h0 : k = 0
  · subst h0
    have e : L.take (max 0 1) = [y] := by
      cases L with
      | nil => simp at hk
      | cons a r => simp at hy; subst hy; rfl
    have e2 : L.take (max (0 + 1) 1) = [y] := by
      cases L with
      | nil => simp at hk
      | cons a r => simp at hy; subst hy; rfl
    rw [e] at hx
    rw [e2]
    have : x = y := by simp [nextL] at hx; exact hx.symm
    subst this
    rw [if_neg (by omega)]; rfl
  · rw [show max k 1 = k from by omega] at hx
    rw [show max (k + 1) 1 = k + 1 from by omega, List.take_succ_eq_append_getElem hk, nextL_snoc, hx]
    have : L[k] = y := by rw [List.getElem?_eq_getElem hk] at hy; exact Option.some.inj hy
    rw [this]
    simp only
    split <;> rfl
set_option maxRecDepth 100000 in
theorem rnext_none (base r : Nat) (v : Value) (w : World) (h : RfAt base r v [] w) :
    Calls Try.prog 20 #[.pointer (some ⟨r, 0, none⟩)] w fun e w' => e = .returned (.tuple #[.string ⟨#[]⟩, .int .u64 0, .bool false]) ∧ w = w' := by
  have k0 : w.cell? ⟨r, 0, none⟩ = some v := h.blk.cell 0
  obtain ⟨a, c, rfl⟩ := owns_slice h.own
  go_enter Try.func20, Try.ntmps20
  go_wp2
  go_ret3
  exact ⟨rfl, rfl⟩
set_option maxRecDepth 100000 in
set_option maxHeartbeats 4000000 in
theorem rnext_some (base r : Nat) (v : Value) (L : List Tm) (x0 : Tm) (w : World) (h : RfAt base r v L w) (hL : L.length ≤ 1024) (hx0 : nextL L = some x0) :
    Calls Try.prog 20 #[.pointer (some ⟨r, 0, none⟩)] w fun e w' => e = .returned (.tuple #[.string ⟨x0.1.toArray⟩, .int .u64 (x0.2 : Int), .bool true]) ∧ Below w.heap.size w w' := by
  have hpos : 0 < L.length := by cases L with
    | nil => simp [nextL] at hx0
    | cons a r => simp
  have k0 : w.cell? ⟨r, 0, none⟩ = some v := h.blk.cell 0
  have hrl := h.blk.lt
  obtain ⟨g, cap, rfl, hbg, hcc, hcm, hgl, hcell⟩ := rf_cells h.own hpos
  obtain ⟨y0, hy0⟩ : ∃ y, L[0]? = some y := ⟨_, List.getElem?_eq_getElem hpos⟩
  obtain ⟨d0, d1⟩ := hcell 0 y0 hy0
  rw [Nat.zero_mul] at d0
  rw [Nat.zero_mul, Nat.zero_add] at d1
  have n0 : ((L.length : Int) == 0) = false := beq_eq_false_iff_ne.2 (by omega)
  have n1 : (0 : Int) < (L.length : Int) := by omega
  have n2 : 0 < L.length := hpos
  have ht1 : nextL (L.take (max 0 1)) = some y0 := by
    cases L with
    | nil => simp at hpos
    | cons a r => simp at hy0; subst hy0; rfl
  have HC := Lib.hid (And.intro hcell (And.intro hx0 ht1))
  clear hcell hx0 ht1 hy0 h
  have hA : Below w.heap.size w (w.alloc (.cells #[.string ⟨y0.1.toArray⟩, .int .u64 (y0.2 : Int)] 68)) := (Below.refl _ _).alloc (Nat.le_refl _) _
  have hB0 := Blk.new w #[.string ⟨y0.1.toArray⟩, .int .u64 (y0.2 : Int)] 68
  go_enter Try.func20, Try.ntmps20
  go_wp2
  go_loopw [6] (fun iv wr => ∃ (k : Nat) (x : Tm), iv = .int .i64 (k : Int) ∧ k ≤ L.length ∧ nextL (L.take (max k 1)) = some x ∧ Blk wr w.heap.size #[.string ⟨x.1.toArray⟩, .int .u64 (x.2 : Int)] 68 ∧ Below w.heap.size w wr) (fun iv _ => L.length - (intOf iv).toNat)
  case atStart => exact ⟨0, y0, rfl, Nat.zero_le _, HC.out.2.2, hB0, hA⟩
  case round =>
    obtain ⟨k, x, rfl, hk, hnx, hbk, hb⟩ := hrel
    have kr : wr.cell? ⟨r, 0, none⟩ = some (.slice (some ⟨g, 0, none⟩) L.length cap) := (hb.cell (p := ⟨r, 0, none⟩) hrl).trans k0
    have b0 : wr.cell? ⟨w.heap.size, 0, none⟩ = some (.string ⟨x.1.toArray⟩) := hbk.cell 0
    have b1 : wr.cell? ⟨w.heap.size, 1, none⟩ = some (.int .u64 (x.2 : Int)) := hbk.cell 1
    have fb0 := hbk.frozen 0
    have fb1 := hbk.frozen 1
    have hbl := hbk.lt
    by_cases hlt : k < L.length
    · obtain ⟨y, hy⟩ : ∃ y, L[k]? = some y := ⟨_, List.getElem?_eq_getElem hlt⟩
      obtain ⟨e0', e1'⟩ := HC.out.1 k y hy
      have e0 : wr.cell? ⟨g, k * 2, none⟩ = some (.string ⟨y.1.toArray⟩) := (hb.cell (p := ⟨g, k * 2, none⟩) hgl).trans e0'
      have e1 : wr.cell? ⟨g, k * 2 + 1, none⟩ = some (.int .u64 (y.2 : Int)) := (hb.cell (p := ⟨g, k * 2 + 1, none⟩) hgl).trans e1'
      have hnx' := nextL_take hlt hy hnx
      have i0 : (0 : Int) ≤ (k : Int) := by omega
      have i1 : (k : Int) < (L.length : Int) := by omega
      have hgB : g ≠ w.heap.size := by omega
      by_cases hl : y.2 < x.2
      · have hlB : decide (y.2 < x.2) = true := by simpa using hl
        have hlI : (y.2 : Int) < (x.2 : Int) := by omega
        rw [if_pos hl] at hnx'
        have HX := Lib.hid (And.intro hnx' (And.intro hbk hb))
        clear hnx hnx' hbk hb hy hl e0' e1'
        go_wp2_with fail
        go_quiet (fail)
        go_wp2
        go_roundw
        case rel =>
          have hd := below_drewN' (B := wr.heap.size) (w := wr) nq
          have hbk2 := ((HX.out.2.1.below hd HX.out.2.1.lt).set 0 (.string ⟨y.1.toArray⟩)).set 1 (.int .u64 (y.2 : Int))
          refine ⟨k + 1, y, by go_num, by omega, HX.out.1, ?_, ?_⟩
          · exact hbk2
          · exact ((HX.out.2.2.trans (below_drewN' _)).setCell (Nat.le_refl _) _).setCell (Nat.le_refl _) _
        case measure => simp [intOf]; omega
      · have hlB : decide (y.2 < x.2) = false := by simpa using hl
        have hlI : ¬ (y.2 : Int) < (x.2 : Int) := by omega
        rw [if_neg hl] at hnx'
        have HX := Lib.hid (And.intro hnx' (And.intro hbk hb))
        clear hnx hnx' hbk hb hy hl e0' e1'
        go_wp2_with fail
        go_quiet (fail)
        go_wp2
        go_roundw
        case rel => exact ⟨k + 1, x, by go_num, by omega, HX.out.1, HX.out.2.1.below (below_drewN' _) HX.out.2.1.lt, HX.out.2.2.trans (below_drewN' _)⟩
        case measure => simp [intOf]; omega
    · have hkl : k = L.length := by omega
      have hkk : ¬ (k : Int) < (L.length : Int) := by omega
      have hxe : x = x0 := by
        rw [hkl, show max L.length 1 = L.length from by omega, List.take_length, HC.out.2.1] at hnx
        exact (Option.some.inj hnx).symm
      subst hxe
      have HX := Lib.hid hb
      clear hnx hbk hb
      go_wp2_with fail
      go_quiet (fail)
      go_wp2
      go_ret3
      exact ⟨rfl, HX.out.trans (below_drewN' _)⟩
end Go.Proofs.Ytjcocgadhdgbjaa
