/- resource: isBehind; IndexFunc with it. -/
import Derived.Test.YtjolgalfjahceaaGreatDoorVrCutL
import Derived.Test.YtjolgalfjahceaaGreatDoorCkOrder
namespace Go.Proofs.YtjolgalfjahceaaGreatDoor
open Go.RowKit

def behB (t : Int) (x : ByteArray) (r : Vr) : Bool := decide (0 < ordK r.t r.x t x)
set_option maxRecDepth 100000 in
theorem is_behind (K : Nat) (t : Int) (x : ByteArray) (r : Vr) (w : World) (h : KyAt w K t x) :
    Calls Tryz.prog 44 #[r.v, .pointer (some ⟨K, 0, none⟩)] w fun e w' => e = .returned (.bool (behB t x r)) ∧ Below w.heap.size w w' := by
  obtain ⟨rt, rx, rq, rg, rs⟩ := r
  obtain ⟨h0, h1, hl⟩ := h
  have hO := Lib.hid (order_any rt t rx x)
  obtain ⟨o, ho⟩ : ∃ o, ordK rt rx t x = o := ⟨_, rfl⟩
  have HO := Lib.hid ho
  clear ho
  go_enter Tryz.func44, Tryz.ntmps44
  go_wp2_with fail
  refine (hO.out _).mono ?_
  rw [HO.out]
  rintro e w1 ⟨rfl, hb1⟩
  have HB := Lib.hid (((Below.refl w.heap.size w).alloc (Nat.le_refl _) (.cells #[.int .i64 rt, .string rx, .int .u64 (rq : Int), .bool rg, .string rs] 27)).trans (hb1.mono (by simp)))
  clear hb1
  go_wp2_with fail
  go_ret
  exact ⟨by unfold behB; rw [show ordK rt rx t x = o from HO.out]; simp, HB.out⟩

set_option maxRecDepth 100000 in
theorem isBehind_any (t : Int) (x : ByteArray) (w : World) :
    Calls Tryz.prog 27 #[.agg #[.int .i64 t, .string x]] w fun e w' => ∃ K, e = .returned (.func (.func 44) #[] #[.pointer (some ⟨K, 0, none⟩)]) ∧ KyAt w' K t x ∧ Below w.heap.size w w' := by
  go_enter Tryz.func27, Tryz.ntmps27
  go_wp2
  go_ret
  exact ⟨w.heap.size, rfl, ⟨by simp, by simp, by simp⟩, (Below.refl _ _).alloc (Nat.le_refl _) _⟩

set_option maxRecDepth 100000 in
set_option maxHeartbeats 1000000 in
theorem idx_behind (K : Nat) (t : Int) (x : ByteArray) (a : Option Addr) (c : Nat) (rs : List Vr) (w : World) (hk : KyAt w K t x) (hr : VrsAt w a rs) (hLb : rs.length ≤ 1099511627776) :
    Calls Tryz.prog 20 #[.slice a rs.length c, .func (.func 44) #[] #[.pointer (some ⟨K, 0, none⟩)]] w fun e w' => e = .returned (.int .i64 (idxV (behB t x) rs)) ∧ Below w.heap.size w w' := by
  obtain ⟨L, hL⟩ : ∃ L, rs.length = L := ⟨_, rfl⟩
  rw [hL] at hLb ⊢
  have HL := Lib.hid hL; clear hL
  have HR := Lib.hid hr; clear hr
  have HK := Lib.hid hk; clear hk
  go_enter Tryz.func20, Tryz.ntmps20
  go_wp2_with fail
  go_loopw [8] (fun i wx => ∃ k : Nat, k ≤ L ∧ i = .int .i64 (k : Int) ∧ (rs.take k).any (behB t x) = false ∧ Below w.heap.size w wx) (fun i _ => L - (intOf i).toNat)
  case atStart => exact ⟨0, Nat.zero_le _, rfl, rfl, Below.refl _ _⟩
  case round =>
    obtain ⟨k, hk, rfl, hno, hb⟩ := hrel
    have HNO := Lib.hid hno; clear hno
    by_cases hlt : k < L
    · obtain ⟨r, hx⟩ : ∃ r, rs[k]? = some r := ⟨_, List.getElem?_eq_getElem (by have := HL.out; omega)⟩
      obtain ⟨g, off, rfl, hgl, p0, p1, p2, p3, p4⟩ := (HR.out.below hb) k r hx
      have HX := Lib.hid hx; clear hx
      have HC := Lib.hid (is_behind K t x r wr (HK.out.below hb))
      cases ho : behB t x r with
      | true =>
        have HO := Lib.hid ho; clear ho
        go_wp2_with fail
        refine HC.out.mono ?_
        rw [HO.out]
        rintro e w1 ⟨rfl, hb1⟩
        go_wp2_with fail
        go_ret
        exact ⟨by rw [idx_yes HX.out HNO.out HO.out]; rfl, hb.trans (hb1.mono hb.size)⟩
      | false =>
        have HO := Lib.hid ho; clear ho
        go_wp2_with fail
        refine HC.out.mono ?_
        rw [HO.out]
        rintro e w1 ⟨rfl, hb1⟩
        go_wp2_with fail
        go_roundw
        case rel => exact ⟨k + 1, by omega, by go_num, any_take_vr HX.out HNO.out HO.out, hb.trans (hb1.mono hb.size)⟩
        case measure => simp [intOf]; omega
    · obtain rfl : k = L := by omega
      have hall : rs.any (behB t x) = false := by have := HNO.out; rw [List.take_of_length_le (by have := HL.out; omega)] at this; exact this
      have HF := Lib.hid hall; clear hall
      go_wp2_with fail
      go_ret
      exact ⟨by unfold idxV; rw [HF.out]; rfl, hb⟩
end Go.Proofs.YtjolgalfjahceaaGreatDoor
