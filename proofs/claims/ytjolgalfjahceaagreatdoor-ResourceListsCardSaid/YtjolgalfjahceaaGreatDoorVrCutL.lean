/- resource: Cut of any list. -/
import Derived.Test.YtjolgalfjahceaaGreatDoorVrFind
namespace Go.Proofs.YtjolgalfjahceaaGreatDoor
open Go.RowKit

abbrev cutL (t : Int) (x : ByteArray) (rs : List Vr) : List Vr := rs.filter fun r => !keyB t x r
theorem cutL_len (t : Int) (x : ByteArray) (rs : List Vr) (k : Nat) : (cutL t x (rs.take k)).length ≤ k := Nat.le_trans (List.length_filter_le _ _) (by rw [List.length_take]; omega)
theorem cutL_yes {t : Int} {x : ByteArray} {rs : List Vr} {k : Nat} {r : Vr} (hx : rs[k]? = some r) (h : keyB t x r = true) : cutL t x (rs.take (k + 1)) = cutL t x (rs.take k) := by
  unfold cutL; rw [List.take_add_one, hx, List.filter_append]; simp [h]
theorem cutL_no {t : Int} {x : ByteArray} {rs : List Vr} {k : Nat} {r : Vr} (hx : rs[k]? = some r) (h : keyB t x r = false) : cutL t x (rs.take (k + 1)) = cutL t x (rs.take k) ++ [r] := by
  unfold cutL; rw [List.take_add_one, hx, List.filter_append]; simp [h]

set_option maxRecDepth 100000 in
set_option maxHeartbeats 2000000 in
theorem without_key (K : Nat) (t : Int) (x : ByteArray) (a : Option Addr) (c : Nat) (rs : List Vr) (w : World) (hk : KyAt w K t x) (hr : VrsAt w a rs) (hLb : rs.length ≤ 1099511627776) :
    Calls Tryz.prog 30 #[.slice a rs.length c, .func (.func 38) #[] #[.pointer (some ⟨K, 0, none⟩)]] w (VrsPost (cutL t x rs) w) := by
  obtain ⟨L, hL⟩ : ∃ L, rs.length = L := ⟨_, rfl⟩
  rw [hL] at hLb ⊢
  have HL := Lib.hid hL; clear hL
  have HR := Lib.hid hr; clear hr
  have HK := Lib.hid hk; clear hk
  obtain ⟨i0, hi, hz0, hz1, hz2⟩ := info_parts Tryz.infoRs
  go_enter Tryz.func30, Tryz.ntmps30
  go_wp2_with fail
  go_loopw [5, 10] (fun v i wr => ∃ k : Nat, k ≤ L ∧ i = .int .i64 (k : Int) ∧ wr.ownsRow w.heap.size 27 5 v (cutL t x (rs.take k)).length (vrCells (cutL t x (rs.take k))) ∧ Below w.heap.size w wr) (fun _ i _ => L - (intOf i).toNat)
  case atStart => exact ⟨0, Nat.zero_le _, rfl, World.ownsRow_nil _ _ _ _, Below.refl _ _⟩
  case round =>
    obtain ⟨k, hk, rfl, hrow, hb⟩ := hrel
    by_cases hlt : k < L
    · have b1 : (k : Int) < (L : Int) := by omega
      have b0 : (0 : Int) ≤ (k : Int) := by omega
      obtain ⟨r, hx⟩ : ∃ r, rs[k]? = some r := ⟨_, List.getElem?_eq_getElem (by have := HL.out; omega)⟩
      obtain ⟨g, off, rfl, hgl, p0, p1, p2, p3, p4⟩ := (HR.out.below hb) k r hx
      have hm := cutL_len t x rs k
      have hg1 : g < wr.heap.size + 1 := by omega
      have hbA : Below wr.heap.size wr (wr.alloc (.cells #[.int .i64 r.t, .string r.x, .int .u64 (r.q : Int), .bool r.g, .string r.s] 27)) := (Below.refl _ _).alloc (Nat.le_refl _) _
      obtain ⟨wa, hwa⟩ : ∃ wa, wr.alloc (.cells #[.int .i64 r.t, .string r.x, .int .u64 (r.q : Int), .bool r.g, .string r.s] 27) = wa := ⟨_, rfl⟩
      have qa : Blk wa wr.heap.size #[.int .i64 r.t, .string r.x, .int .u64 (r.q : Int), .bool r.g, .string r.s] 27 := by rw [← hwa]; exact Blk.new _ _ _
      rw [hwa] at hbA
      have hba := hb.trans (hbA.mono hb.size)
      have HROW := Lib.hid (ownsRow_later hrow hbA)
      have HC := Lib.hid (has_key K t x r wa (HK.out.below hba))
      have HWA := Lib.hid hwa
      have HB := Lib.hid hba
      have HX := Lib.hid hx
      clear hx hb hrow hbA hba hwa
      go_wp2_with fail
      rw [HWA.out]
      refine HC.out.mono ?_
      rintro e w1 ⟨rfl, hb1⟩
      have q1 := qa.below hb1 qa.lt
      have HROW1 := Lib.hid (ownsRow_later HROW.out hb1)
      have HB1 := Lib.hid (HB.out.trans (hb1.mono HB.out.size))
      clear hb1 qa
      cases ho : keyB t x r with
      | true =>
        have HN := Lib.hid (cutL_yes HX.out ho)
        clear ho
        go_wp2_with fail
        go_roundw
        case rel => exact ⟨k + 1, by omega, by go_num, by rw [HN.out]; exact HROW1.out, HB1.out⟩
        case measure => simp [intOf]; omega
      | false =>
        have HN := Lib.hid (cutL_no HX.out ho)
        have c0 : w1.cell? ⟨wr.heap.size, 0, none⟩ = some (.int .i64 r.t) := q1.cell 0
        have c1 : w1.cell? ⟨wr.heap.size, 1, none⟩ = some (.string r.x) := q1.cell 1
        have c2 : w1.cell? ⟨wr.heap.size, 2, none⟩ = some (.int .u64 (r.q : Int)) := q1.cell 2
        have c3 : w1.cell? ⟨wr.heap.size, 3, none⟩ = some (.bool r.g) := q1.cell 3
        have c4 : w1.cell? ⟨wr.heap.size, 4, none⟩ = some (.string r.s) := q1.cell 4
        clear ho
        go_wp2_with (at_builtin; go_must (refine wpList_append_own _ rfl _ _ 31 rfl w.heap.size 27 i0 _ 5 56 Tryz.underlying31 hi hz0 hz1 hz2 rfl (by omega) _ _ _ rfl (HROW1.out.alloc _) ⟨w1.heap.size, 0, none⟩ 1 1 (vrCells [r]) rfl rfl (World.news_of_block (cs := #[.int .i64 r.t, .string r.x, .int .u64 (r.q : Int), .bool r.g, .string r.s]) (t := 27) (fr := (0, 0)) (heap_alloc_new w1 _)) (by simp [Value.oneCell', vrCells]) (by unfold maxLen; omega) (by omega) (by have := HB1.out.size; simp; omega) ?_; intro v' w3 hown3 hgrow3 _))
        have HRow3 := Lib.hid (show w3.ownsRow w.heap.size 27 5 v' (cutL t x (rs.take (k + 1))).length (vrCells (cutL t x (rs.take (k + 1)))) by rw [HN.out, vrCells_append, List.length_append]; exact hown3)
        have HB3 := Lib.hid ((HB1.out.alloc HB1.out.size _).grown hgrow3 (by have := HB1.out.size; simp; omega) (fun j hj => (HROW1.out.lt j hj).1))
        clear hown3 hgrow3
        go_wp2_with fail
        go_roundw
        case rel => exact ⟨k + 1, by omega, by go_num, HRow3.out, HB3.out⟩
        case measure => simp [intOf]; omega
    · obtain rfl : k = L := by omega
      have HE := Lib.hid (show rs.take k = rs from List.take_of_length_le (by have := HL.out; omega))
      have HRow := Lib.hid hrow
      have HB := Lib.hid hb
      clear hrow hb
      go_wp2_with fail
      go_ret
      refine ⟨_, rfl, ?_, HB.out⟩
      have := HRow.out
      rw [HE.out] at this; exact this

theorem own_low {w : World} {base base' e size n : Nat} {v : Value} {xs : List Value} (h : w.ownsRow base e size v n xs) (hb : base' ≤ base) : w.ownsRow base' e size v n xs :=
  ⟨h.1, h.2.imp id fun ⟨g, cap, cur, h1, h2, h3⟩ => ⟨g, cap, cur, h1, Nat.le_trans hb h2, h3⟩⟩
set_option maxRecDepth 100000 in
theorem cut_any (t : Int) (x : ByteArray) (a : Option Addr) (c : Nat) (rs : List Vr) (w : World) (hr : VrsAt w a rs) (hLb : rs.length ≤ 1099511627776) :
    Calls Tryz.prog 14 #[.slice a rs.length c, .agg #[.int .i64 t, .string x]] w (VrsPost (cutL t x rs) w) := by
  obtain ⟨L, hL⟩ : ∃ L, rs.length = L := ⟨_, rfl⟩
  have hW : ∀ K W, KyAt W K t x → VrsAt W a rs → Calls Tryz.prog 30 #[.slice a L c, .func (.func 38) #[] #[.pointer (some ⟨K, 0, none⟩)]] W (VrsPost (cutL t x rs) W) :=
    fun K W h1 h2 => by rw [← hL]; exact without_key K t x a c rs W h1 h2 hLb
  rw [hL] at hLb ⊢
  have HI := Lib.hid hW
  have HR := Lib.hid hr
  have hb0 : Below w.heap.size w (w.alloc (.cells #[.int .i64 t, .string x] 24)) := (Below.refl _ _).alloc (Nat.le_refl _) _
  obtain ⟨w0, hw0⟩ : ∃ w0, w.alloc (.cells #[.int .i64 t, .string x] 24) = w0 := ⟨_, rfl⟩
  rw [hw0] at hb0
  have HW0 := Lib.hid hw0
  clear hL hr hW hw0
  go_enter Tryz.func14, Tryz.ntmps14
  go_wp2_with fail
  rw [HW0.out]
  refine (hasKey_any t x w0).mono ?_
  rintro e w1 ⟨K, rfl, hK, hb1⟩
  have hbw1 : Below w.heap.size w w1 := hb0.trans (hb1.mono hb0.size)
  clear hb1 hb0 HW0
  go_wp2_with fail
  refine (HI.out K w1 hK (HR.out.below hbw1)).mono ?_
  rintro e w2 ⟨v, rfl, hrow, hb2⟩
  have HROW := Lib.hid hrow
  have HB := Lib.hid (hbw1.trans (hb2.mono hbw1.size))
  have hs := hbw1.size
  clear hrow hb2
  go_wp2_with fail
  go_ret
  exact ⟨_, rfl, own_low HROW.out hs, HB.out⟩
end Go.Proofs.YtjolgalfjahceaaGreatDoor
