/- resource: the functions by which a list is looked through: hasKey, isBehind; IndexFunc over versions. -/
import Derived.Test.YtjolgalfjahceaaGreatDoorVrThings
import Derived.Laws.StructEq
namespace Go.Proofs.YtjolgalfjahceaaGreatDoor
open Go.RowKit

def keyB (t : Int) (x : ByteArray) (r : Vr) : Bool := r.t == t && r.x.toList == x.toList
/-- A key's box. -/
def KyAt (w : World) (K : Nat) (t : Int) (x : ByteArray) : Prop := w.cell? ⟨K, 0, none⟩ = some (.int .i64 t) ∧ w.cell? ⟨K, 1, none⟩ = some (.string x) ∧ K < w.heap.size
theorem KyAt.below {w w' : World} {K : Nat} {t : Int} {x : ByteArray} (h : KyAt w K t x) (hb : Below w.heap.size w w') : KyAt w' K t x :=
  ⟨(hb.cell (p := ⟨K, 0, none⟩) h.2.2).trans h.1, (hb.cell (p := ⟨K, 1, none⟩) h.2.2).trans h.2.1, Nat.lt_of_lt_of_le h.2.2 hb.size⟩
set_option maxRecDepth 100000 in
theorem has_key (K : Nat) (t : Int) (x : ByteArray) (r : Vr) (w : World) (h : KyAt w K t x) :
    Calls Tryz.prog 38 #[r.v, .pointer (some ⟨K, 0, none⟩)] w fun e w' => e = .returned (.bool (keyB t x r)) ∧ Below w.heap.size w w' := by
  obtain ⟨rt, rx, rq, rg, rs⟩ := r
  obtain ⟨h0, h1, hl⟩ := h
  go_enter Tryz.func38, Tryz.ntmps38
  go_wp2
  all_goals
    go_ret
    exact ⟨by simp [keyB, *], (Below.refl _ _).alloc (Nat.le_refl _) _⟩

set_option maxRecDepth 100000 in
theorem hasKey_any (t : Int) (x : ByteArray) (w : World) :
    Calls Tryz.prog 21 #[.agg #[.int .i64 t, .string x]] w fun e w' => ∃ K, e = .returned (.func (.func 38) #[] #[.pointer (some ⟨K, 0, none⟩)]) ∧ KyAt w' K t x ∧ Below w.heap.size w w' := by
  go_enter Tryz.func21, Tryz.ntmps21
  go_wp2
  go_ret
  exact ⟨w.heap.size, rfl, ⟨by simp, by simp, by simp⟩, (Below.refl _ _).alloc (Nat.le_refl _) _⟩

/-- Of which number is the first that is so? -/
def idxV (p : Vr → Bool) (rs : List Vr) : Int := if rs.any p then (rs.findIdx p : Int) else -1
theorem idx_yes {p : Vr → Bool} {rs : List Vr} {k : Nat} {r : Vr} (hx : rs[k]? = some r) (h0 : (rs.take k).any p = false) (h1 : p r = true) : idxV p rs = (k : Int) := by
  obtain ⟨hk, rfl⟩ := List.getElem?_eq_some_iff.1 hx
  unfold idxV
  rw [if_pos (List.any_eq_true.2 ⟨_, List.getElem_mem hk, h1⟩)]
  have : rs.findIdx p = k := by
    rw [List.findIdx_eq hk]
    refine ⟨h1, fun j hj => ?_⟩
    rw [List.any_eq_false] at h0
    have := h0 (rs[j]) (by rw [List.mem_take_iff_getElem]; exact ⟨j, by omega, rfl⟩)
    simpa using this
  rw [this]
theorem any_take_vr {p : Vr → Bool} {rs : List Vr} {k : Nat} {r : Vr} (hx : rs[k]? = some r) (h0 : (rs.take k).any p = false) (h1 : p r = false) : (rs.take (k + 1)).any p = false := by
  rw [List.take_add_one, hx, List.any_append, h0]; simp [h1]

set_option maxRecDepth 100000 in
set_option maxHeartbeats 1000000 in
theorem idx_key (K : Nat) (t : Int) (x : ByteArray) (a : Option Addr) (c : Nat) (rs : List Vr) (w : World) (hk : KyAt w K t x) (hr : VrsAt w a rs) (hLb : rs.length ≤ 1099511627776) :
    Calls Tryz.prog 20 #[.slice a rs.length c, .func (.func 38) #[] #[.pointer (some ⟨K, 0, none⟩)]] w fun e w' => e = .returned (.int .i64 (idxV (keyB t x) rs)) ∧ Below w.heap.size w w' := by
  obtain ⟨L, hL⟩ : ∃ L, rs.length = L := ⟨_, rfl⟩
  rw [hL] at hLb ⊢
  have HL := Lib.hid hL; clear hL
  have HR := Lib.hid hr; clear hr
  have HK := Lib.hid hk; clear hk
  go_enter Tryz.func20, Tryz.ntmps20
  go_wp2_with fail
  go_loopw [8] (fun i wx => ∃ k : Nat, k ≤ L ∧ i = .int .i64 (k : Int) ∧ (rs.take k).any (keyB t x) = false ∧ Below w.heap.size w wx) (fun i _ => L - (intOf i).toNat)
  case atStart => exact ⟨0, Nat.zero_le _, rfl, rfl, Below.refl _ _⟩
  case round =>
    obtain ⟨k, hk, rfl, hno, hb⟩ := hrel
    have HNO := Lib.hid hno; clear hno
    by_cases hlt : k < L
    · obtain ⟨r, hx⟩ : ∃ r, rs[k]? = some r := ⟨_, List.getElem?_eq_getElem (by have := HL.out; omega)⟩
      obtain ⟨g, off, rfl, hgl, p0, p1, p2, p3, p4⟩ := (HR.out.below hb) k r hx
      have HX := Lib.hid hx; clear hx
      have HC := Lib.hid (has_key K t x r wr (HK.out.below hb))
      cases ho : keyB t x r with
      | true =>
        have HO := Lib.hid ho; clear ho
        go_wp2_with fail
        refine HC.out.mono ?_
        rw [HO.out]
        rintro e w1 ⟨rfl, hb1⟩
        go_wp2_with fail
        go_ret
        exact ⟨by rw [idx_yes HX.out HNO.out HO.out]; rfl, hb.trans (hb1.mono hb.size)⟩
      | false =>
        have HO := Lib.hid ho; clear ho
        go_wp2_with fail
        refine HC.out.mono ?_
        rw [HO.out]
        rintro e w1 ⟨rfl, hb1⟩
        go_wp2_with fail
        go_roundw
        case rel => exact ⟨k + 1, by omega, by go_num, any_take_vr HX.out HNO.out HO.out, hb.trans (hb1.mono hb.size)⟩
        case measure => simp [intOf]; omega
    · obtain rfl : k = L := by omega
      have hall : rs.any (keyB t x) = false := by have := HNO.out; rw [List.take_of_length_le (by have := HL.out; omega)] at this; exact this
      have HF := Lib.hid hall; clear hall
      go_wp2_with fail
      go_ret
      exact ⟨by unfold idxV; rw [HF.out]; rfl, hb⟩
end Go.Proofs.YtjolgalfjahceaaGreatDoor
