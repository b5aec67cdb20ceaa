/- resource: Get. -/
import Derived.Test.YtjolgalfjahceaaGreatDoorVrMade
namespace Go.Proofs.YtjolgalfjahceaaGreatDoor
open Go.RowKit

theorem own_form {W : World} {base : Nat} {e : TypeId} {size n c : Nat} {a : Option Addr} {xs : List Value} (h : W.ownsRow base e size (.slice a n c) n xs) (h0 : 0 < n) : ∃ g, a = some ⟨g, 0, none⟩ := by
  rcases h.2 with ⟨_, h1⟩ | ⟨g, cap, cur, hv, _⟩
  · omega
  · cases hv; exact ⟨g, rfl⟩
theorem rowAt_own {W : World} {base g cap n : Nat} {t : TypeId} {fs : List Fd} (h : W.ownsRow base t 4 (.slice (some ⟨g, 0, none⟩) n cap) n (fdCells fs)) (hn : fs.length = n) : RowAt W g fs := by
  refine ⟨(h.lt g rfl).2, fun i hi => ?_⟩
  have hc : ∀ j, j < 4 → W.cell? ⟨g, i * 4 + j, none⟩ = fs[i].cells[j]? := fun j hj => by
    rw [h.cellAt (i * 4 + j) (by omega), fdCells_at hi hj]
  exact ⟨hc 0 (by omega), hc 1 (by omega), hc 2 (by omega), hc 3 (by omega)⟩
/-- A list of fields, whether there is a row or not. -/
theorem list_of {W : World} {base n : Nat} {t : TypeId} {v : Value} {fs : List Fd} (h : W.ownsRow base t 4 v n (fdCells fs)) (hn : fs.length = n) (hW : 0 < W.heap.size) : ∃ a0 g c, v = .slice a0 n c ∧ (0 < n → a0 = some ⟨g, 0, none⟩) ∧ RowAt W g fs := by
  have h2 := h
  rcases h.2 with ⟨rfl, h0⟩ | ⟨g, cap, cur, rfl, _⟩
  · subst h0
    have : fs = [] := List.eq_nil_of_length_eq_zero hn
    subst this
    exact ⟨none, 0, 0, rfl, fun h => by omega, hW, fun i h => by simp at h⟩
  · exact ⟨_, g, cap, rfl, fun _ => rfl, rowAt_own h2 hn⟩
theorem parse_yes (t : ByteArray) (b : Addr) (w : World) (hs : t.size ≤ 1099511627776) (hg : Gv b w) (fs : List Fd) (n : Nat) (hn : fs.length = n) (hf : parse t.data.toList = some fs) :
    Calls Tryz.prog 34 #[.string t] w fun e w' => (∃ a0 g cap, e = .returned (.tuple #[.slice a0 n cap, .bool true]) ∧ (0 < n → a0 = some ⟨g, 0, none⟩) ∧ RowAt w' g fs) ∧ Below w.heap.size w w' := by
  refine (parse_any t b w hs hg).mono ?_
  rw [hf]
  rintro e w' ⟨⟨v, rfl, hrow⟩, hb⟩
  subst hn
  obtain ⟨a0, g, c, rfl, h1, h2⟩ := list_of hrow rfl (Nat.lt_of_lt_of_le (Nat.lt_of_le_of_lt (Nat.zero_le _) hg.2) hb.size)
  exact ⟨⟨a0, g, c, rfl, h1, h2⟩, hb⟩
theorem parse_no (t : ByteArray) (b : Addr) (w : World) (hs : t.size ≤ 1099511627776) (hg : Gv b w) (hf : parse t.data.toList = none) :
    Calls Tryz.prog 34 #[.string t] w fun e w' => e = .returned (.tuple #[.slice none 0 0, .bool false]) ∧ Below w.heap.size w w' := by
  refine (parse_any t b w hs hg).mono ?_
  rw [hf]
  exact fun _ _ h => h
/-- No more fields than bytes. -/
theorem parse_few {t : ByteArray} {fs : List Fd} (h : parse t.data.toList = some fs) : fs.length ≤ t.size := parse_len t.size (show t.data.toList.length ≤ t.size from Nat.le_refl _) h
abbrev zR : Value := .agg #[.int .i64 0, .string ⟨#[]⟩, .int .u64 0, .bool false, .string ⟨#[]⟩]
def getVal (r : Option Vr) : Value := match r with | some r => r.v | none => zR

set_option maxRecDepth 100000 in
set_option maxHeartbeats 2000000 in
theorem vget_parse (t : ByteArray) (b : Addr) (w : World) (hs : t.size ≤ 1099511627776) (hg : Gv b w) (hp : parse t.data.toList = none) :
    Calls Tryz.prog 18 #[.string t] w fun e w' => e = .returned (.tuple #[zR, .bool false]) ∧ Below w.heap.size w w' := by
  have hb0 : Below w.heap.size w (w.alloc (.cells #[.int .i64 0, .string ⟨#[]⟩, .int .u64 0, .bool false, .string ⟨#[]⟩] 27)) := (Below.refl _ _).alloc (Nat.le_refl _) _
  obtain ⟨w0, hw0⟩ : ∃ w0, w.alloc (.cells #[.int .i64 0, .string ⟨#[]⟩, .int .u64 0, .bool false, .string ⟨#[]⟩] 27) = w0 := ⟨_, rfl⟩
  have hR : Blk w0 w.heap.size #[.int .i64 0, .string ⟨#[]⟩, .int .u64 0, .bool false, .string ⟨#[]⟩] 27 := by rw [← hw0]; exact Blk.new _ _ _
  rw [hw0] at hb0
  have hg0 := hg.below hb0
  have HP := Lib.hid (parse_no t b w0 hs hg0 hp)
  have HW0 := Lib.hid hw0; clear hw0 hp
  go_enter Tryz.func18, Tryz.ntmps18
  go_wp2_with fail
  rw [HW0.out]
  refine HP.out.mono ?_
  rintro e w1 ⟨rfl, hb1⟩
  have q1 := hR.below hb1 hR.lt
  have hbw : Below w.heap.size w w1 := hb0.trans (hb1.mono hb0.size)
  clear hb0 hb1 hR
  have k0 : w1.cell? ⟨w.heap.size, 0, none⟩ = some (.int .i64 0) := q1.cell 0
  have m0 := q1.frozen 0
  have k1 : w1.cell? ⟨w.heap.size, 1, none⟩ = some (.string ⟨#[]⟩) := q1.cell 1
  have m1 := q1.frozen 1
  have k2 : w1.cell? ⟨w.heap.size, 2, none⟩ = some (.int .u64 0) := q1.cell 2
  have m2 := q1.frozen 2
  have k3 : w1.cell? ⟨w.heap.size, 3, none⟩ = some (.bool false) := q1.cell 3
  have m3 := q1.frozen 3
  have k4 : w1.cell? ⟨w.heap.size, 4, none⟩ = some (.string ⟨#[]⟩) := q1.cell 4
  have m4 := q1.frozen 4
  go_wp2_with fail
  exact bodyPost_ret (v := .tuple #[.agg #[.int .i64 0, .string ⟨#[]⟩, .int .u64 0, .bool false, .string ⟨#[]⟩], .bool false]) (by simp [results, Tryz.results18, go_sem, k0, k1, k2, k3, k4]) rfl ⟨rfl, (((((hbw.setCell (p := ⟨w.heap.size, 0, none⟩) (Nat.le_refl _) (.int .i64 0)).setCell (p := ⟨w.heap.size, 1, none⟩) (Nat.le_refl _) (.string ⟨#[]⟩)).setCell (p := ⟨w.heap.size, 2, none⟩) (Nat.le_refl _) (.int .u64 0)).setCell (p := ⟨w.heap.size, 3, none⟩) (Nat.le_refl _) (.bool false)).setCell (p := ⟨w.heap.size, 4, none⟩) (Nat.le_refl _) (.string ⟨#[]⟩))⟩

set_option maxRecDepth 100000 in
set_option maxHeartbeats 2000000 in
theorem vget_other (t : ByteArray) (b : Addr) (w : World) (hs : t.size ≤ 1099511627776) (hg : Gv b w) (fs : List Fd) (hp : parse t.data.toList = some fs) (ho : fs.any othK = true) :
    Calls Tryz.prog 18 #[.string t] w fun e w' => e = .returned (.tuple #[zR, .bool false]) ∧ Below w.heap.size w w' := by
  have hb0 : Below w.heap.size w (w.alloc (.cells #[.int .i64 0, .string ⟨#[]⟩, .int .u64 0, .bool false, .string ⟨#[]⟩] 27)) := (Below.refl _ _).alloc (Nat.le_refl _) _
  obtain ⟨w0, hw0⟩ : ∃ w0, w.alloc (.cells #[.int .i64 0, .string ⟨#[]⟩, .int .u64 0, .bool false, .string ⟨#[]⟩] 27) = w0 := ⟨_, rfl⟩
  have hR : Blk w0 w.heap.size #[.int .i64 0, .string ⟨#[]⟩, .int .u64 0, .bool false, .string ⟨#[]⟩] 27 := by rw [← hw0]; exact Blk.new _ _ _
  rw [hw0] at hb0
  have hg0 := hg.below hb0
  have HO := Lib.hid ho; clear ho
  have HP := Lib.hid (parse_yes t b w0 hs hg0 fs fs.length rfl hp)
  have hfl : fs.length ≤ 1099511627776 := Nat.le_trans (parse_few hp) hs
  obtain ⟨L, hL⟩ : ∃ L, fs.length = L := ⟨_, rfl⟩
  rw [hL] at HP hfl
  have HL := Lib.hid hL
  have HW0 := Lib.hid hw0; clear hw0 hp hL
  go_enter Tryz.func18, Tryz.ntmps18
  go_wp2_with fail
  rw [HW0.out]
  refine HP.out.mono ?_
  rintro e w1 ⟨⟨a0, g, cap, rfl, ha, hrow⟩, hb1⟩
  have hb1' := hb1
  have HC := Lib.hid (contains_any a0 L cap g fs w1 HL.out ha hrow hfl)
  have HA := Lib.hid (And.intro ha hrow); clear ha hrow
  clear hb1'
  go_wp2_with fail
  refine HC.out.mono ?_
  rw [HO.out]
  rintro e w2 ⟨rfl, hb2⟩
  have hbx : Below w0.heap.size w0 w2 := hb1.trans (hb2.mono hb1.size)
  have hrow2 := HA.out.2.below hb2
  clear hb1 hb2
  have q1 := hR.below hbx hR.lt
  have hbw : Below w.heap.size w w2 := hb0.trans (hbx.mono hb0.size)
  clear hb0 hbx hR
  have k0 : w2.cell? ⟨w.heap.size, 0, none⟩ = some (.int .i64 0) := q1.cell 0
  have m0 := q1.frozen 0
  have k1 : w2.cell? ⟨w.heap.size, 1, none⟩ = some (.string ⟨#[]⟩) := q1.cell 1
  have m1 := q1.frozen 1
  have k2 : w2.cell? ⟨w.heap.size, 2, none⟩ = some (.int .u64 0) := q1.cell 2
  have m2 := q1.frozen 2
  have k3 : w2.cell? ⟨w.heap.size, 3, none⟩ = some (.bool false) := q1.cell 3
  have m3 := q1.frozen 3
  have k4 : w2.cell? ⟨w.heap.size, 4, none⟩ = some (.string ⟨#[]⟩) := q1.cell 4
  have m4 := q1.frozen 4
  go_wp2_with fail
  exact bodyPost_ret (v := .tuple #[.agg #[.int .i64 0, .string ⟨#[]⟩, .int .u64 0, .bool false, .string ⟨#[]⟩], .bool false]) (by simp [results, Tryz.results18, go_sem, k0, k1, k2, k3, k4]) rfl ⟨rfl, (((((hbw.setCell (p := ⟨w.heap.size, 0, none⟩) (Nat.le_refl _) (.int .i64 0)).setCell (p := ⟨w.heap.size, 1, none⟩) (Nat.le_refl _) (.string ⟨#[]⟩)).setCell (p := ⟨w.heap.size, 2, none⟩) (Nat.le_refl _) (.int .u64 0)).setCell (p := ⟨w.heap.size, 3, none⟩) (Nat.le_refl _) (.bool false)).setCell (p := ⟨w.heap.size, 4, none⟩) (Nat.le_refl _) (.string ⟨#[]⟩))⟩

set_option maxRecDepth 100000 in
set_option maxHeartbeats 2000000 in
theorem vget_made (t : ByteArray) (b : Addr) (w : World) (hs : t.size ≤ 1099511627776) (hg : Gv b w) (fs : List Fd) (hp : parse t.data.toList = some fs) (ho : fs.any othK = false) (hm : madeOk fs = false) :
    Calls Tryz.prog 18 #[.string t] w fun e w' => e = .returned (.tuple #[zR, .bool false]) ∧ Below w.heap.size w w' := by
  have hb0 : Below w.heap.size w (w.alloc (.cells #[.int .i64 0, .string ⟨#[]⟩, .int .u64 0, .bool false, .string ⟨#[]⟩] 27)) := (Below.refl _ _).alloc (Nat.le_refl _) _
  obtain ⟨w0, hw0⟩ : ∃ w0, w.alloc (.cells #[.int .i64 0, .string ⟨#[]⟩, .int .u64 0, .bool false, .string ⟨#[]⟩] 27) = w0 := ⟨_, rfl⟩
  have hR : Blk w0 w.heap.size #[.int .i64 0, .string ⟨#[]⟩, .int .u64 0, .bool false, .string ⟨#[]⟩] 27 := by rw [← hw0]; exact Blk.new _ _ _
  rw [hw0] at hb0
  have hg0 := hg.below hb0
  have HO := Lib.hid ho; clear ho
  have HP := Lib.hid (parse_yes t b w0 hs hg0 fs fs.length rfl hp)
  have hfl : fs.length ≤ 1099511627776 := Nat.le_trans (parse_few hp) hs
  obtain ⟨L, hL⟩ : ∃ L, fs.length = L := ⟨_, rfl⟩
  rw [hL] at HP hfl
  have HL := Lib.hid hL
  have HW0 := Lib.hid hw0; clear hw0 hp hL
  go_enter Tryz.func18, Tryz.ntmps18
  go_wp2_with fail
  rw [HW0.out]
  refine HP.out.mono ?_
  rintro e w1 ⟨⟨a0, g, cap, rfl, ha, hrow⟩, hb1⟩
  have hb1' := hb1
  have HC := Lib.hid (contains_any a0 L cap g fs w1 HL.out ha hrow hfl)
  have HA := Lib.hid (And.intro ha hrow); clear ha hrow
  clear hb1'
  go_wp2_with fail
  refine HC.out.mono ?_
  rw [HO.out]
  rintro e w2 ⟨rfl, hb2⟩
  have hbx : Below w0.heap.size w0 w2 := hb1.trans (hb2.mono hb1.size)
  have hrow2 := HA.out.2.below hb2
  clear hb1 hb2
  go_wp2_with fail
  refine (made_no a0 L cap g fs w2 HL.out HA.out.1 hrow2 hfl hm).mono ?_
  rintro e w3 ⟨rfl, hb3⟩
  have hby : Below w0.heap.size w0 w3 := hbx.trans (hb3.mono hbx.size)
  have q1 := hR.below hby hR.lt
  have hbw : Below w.heap.size w w3 := hb0.trans (hby.mono hb0.size)
  clear hb0 hbx hR hb3 hby hm
  have k0 : w3.cell? ⟨w.heap.size, 0, none⟩ = some (.int .i64 0) := q1.cell 0
  have m0 := q1.frozen 0
  have k1 : w3.cell? ⟨w.heap.size, 1, none⟩ = some (.string ⟨#[]⟩) := q1.cell 1
  have m1 := q1.frozen 1
  have k2 : w3.cell? ⟨w.heap.size, 2, none⟩ = some (.int .u64 0) := q1.cell 2
  have m2 := q1.frozen 2
  have k3 : w3.cell? ⟨w.heap.size, 3, none⟩ = some (.bool false) := q1.cell 3
  have m3 := q1.frozen 3
  have k4 : w3.cell? ⟨w.heap.size, 4, none⟩ = some (.string ⟨#[]⟩) := q1.cell 4
  have m4 := q1.frozen 4
  have hlt1 := q1.lt
  have hs5 := (((((hbw.setCell (p := ⟨w.heap.size, 0, none⟩) (Nat.le_refl _) (.int .i64 0)).setCell (p := ⟨w.heap.size, 1, none⟩) (Nat.le_refl _) (.string ⟨#[]⟩)).setCell (p := ⟨w.heap.size, 2, none⟩) (Nat.le_refl _) (.int .u64 0)).setCell (p := ⟨w.heap.size, 3, none⟩) (Nat.le_refl _) (.bool false)).setCell (p := ⟨w.heap.size, 4, none⟩) (Nat.le_refl _) (.string ⟨#[]⟩))
  go_wp2_with fail
  exact bodyPost_ret (v := .tuple #[.agg #[.int .i64 0, .string ⟨#[]⟩, .int .u64 0, .bool false, .string ⟨#[]⟩], .bool false]) (by simp [results, Tryz.results18, go_sem, k0, k1, k2, k3, k4, hlt1]) rfl ⟨rfl, hs5.alloc hs5.size _⟩

set_option maxRecDepth 100000 in
set_option maxHeartbeats 2000000 in
theorem vget_wrong (t : ByteArray) (b : Addr) (w : World) (hs : t.size ≤ 1099511627776) (hg : Gv b w) (fs : List Fd) (hp : parse t.data.toList = some fs) (ho : fs.any othK = false) (hm : madeOk fs = true) (r : Vr) (hr : madeV fs = r) (hro : r.ok = false) :
    Calls Tryz.prog 18 #[.string t] w fun e w' => e = .returned (.tuple #[zR, .bool false]) ∧ Below w.heap.size w w' := by
  have hb0 : Below w.heap.size w (w.alloc (.cells #[.int .i64 0, .string ⟨#[]⟩, .int .u64 0, .bool false, .string ⟨#[]⟩] 27)) := (Below.refl _ _).alloc (Nat.le_refl _) _
  obtain ⟨w0, hw0⟩ : ∃ w0, w.alloc (.cells #[.int .i64 0, .string ⟨#[]⟩, .int .u64 0, .bool false, .string ⟨#[]⟩] 27) = w0 := ⟨_, rfl⟩
  have hR : Blk w0 w.heap.size #[.int .i64 0, .string ⟨#[]⟩, .int .u64 0, .bool false, .string ⟨#[]⟩] 27 := by rw [← hw0]; exact Blk.new _ _ _
  rw [hw0] at hb0
  have hg0 := hg.below hb0
  have HO := Lib.hid ho; clear ho
  have HP := Lib.hid (parse_yes t b w0 hs hg0 fs fs.length rfl hp)
  have hfl : fs.length ≤ 1099511627776 := Nat.le_trans (parse_few hp) hs
  obtain ⟨L, hL⟩ : ∃ L, fs.length = L := ⟨_, rfl⟩
  rw [hL] at HP hfl
  have HL := Lib.hid hL
  have HW0 := Lib.hid hw0; clear hw0 hp hL
  go_enter Tryz.func18, Tryz.ntmps18
  go_wp2_with fail
  rw [HW0.out]
  refine HP.out.mono ?_
  rintro e w1 ⟨⟨a0, g, cap, rfl, ha, hrow⟩, hb1⟩
  have hb1' := hb1
  have HC := Lib.hid (contains_any a0 L cap g fs w1 HL.out ha hrow hfl)
  have HA := Lib.hid (And.intro ha hrow); clear ha hrow
  clear hb1'
  go_wp2_with fail
  refine HC.out.mono ?_
  rw [HO.out]
  rintro e w2 ⟨rfl, hb2⟩
  have hbx : Below w0.heap.size w0 w2 := hb1.trans (hb2.mono hb1.size)
  have hrow2 := HA.out.2.below hb2
  clear hb1 hb2
  obtain ⟨t', x, q, g', s⟩ := r
  have HRO := Lib.hid (show rsOk t' x (q : Int) g' s = false from hro); clear hro
  have hmade := made_yes a0 L cap g fs w2 HL.out HA.out.1 hrow2 hfl hm
  rw [hr] at hmade
  clear hr hm
  have HM := Lib.hid hmade
  clear hmade
  go_wp2_with fail
  refine HM.out.mono ?_
  rintro e w3 ⟨rfl, hb3⟩
  have hby : Below w0.heap.size w0 w3 := hbx.trans (hb3.mono hbx.size)
  have q1 := hR.below hby hR.lt
  have hbw3 : Below w.heap.size w w3 := hb0.trans (hby.mono hb0.size)
  clear hb0 hbx hR hb3 hby
  have hlt1 := q1.lt
  have q2 := Blk.new w3 #[.int .i64 t', .string x, .int .u64 (q : Int), .bool g', .string s] 27
  have q1a := q1.alloc (.cells #[.int .i64 t', .string x, .int .u64 (q : Int), .bool g', .string s] 27)
  have hbx2 : Below w3.heap.size w3 (w3.alloc (.cells #[.int .i64 t', .string x, .int .u64 (q : Int), .bool g', .string s] 27)) := (Below.refl _ _).alloc (Nat.le_refl _) _
  have HB := Lib.hid (And.intro q2 (And.intro q1a hbx2)); clear q2 q1a hbx2 q1
  go_wp2_with fail
  refine (right_any t' x (q : Int) g' s _).mono ?_
  rw [HRO.out]
  rintro e w4 ⟨rfl, hb4⟩
  have q4 := HB.out.1.below hb4 HB.out.1.lt
  have q1 := HB.out.2.1.below hb4 HB.out.2.1.lt
  have hbw : Below w.heap.size w w4 := hbw3.trans ((HB.out.2.2.trans (hb4.mono HB.out.2.2.size)).mono hbw3.size)
  have hlt4 := q4.lt
  clear hb4
  have k0 : w4.cell? ⟨w.heap.size, 0, none⟩ = some (.int .i64 0) := q1.cell 0
  have m0 := q1.frozen 0
  have k1 : w4.cell? ⟨w.heap.size, 1, none⟩ = some (.string ⟨#[]⟩) := q1.cell 1
  have m1 := q1.frozen 1
  have k2 : w4.cell? ⟨w.heap.size, 2, none⟩ = some (.int .u64 0) := q1.cell 2
  have m2 := q1.frozen 2
  have k3 : w4.cell? ⟨w.heap.size, 3, none⟩ = some (.bool false) := q1.cell 3
  have m3 := q1.frozen 3
  have k4 : w4.cell? ⟨w.heap.size, 4, none⟩ = some (.string ⟨#[]⟩) := q1.cell 4
  have m4 := q1.frozen 4
  have j0 : w4.cell? ⟨w3.heap.size, 0, none⟩ = some (.int .i64 t') := q4.cell 0
  go_wp2_with fail
  exact bodyPost_ret (v := .tuple #[.agg #[.int .i64 0, .string ⟨#[]⟩, .int .u64 0, .bool false, .string ⟨#[]⟩], .bool false]) (by simp [results, Tryz.results18, go_sem, k0, k1, k2, k3, k4]) rfl ⟨rfl, (((((hbw.setCell (p := ⟨w.heap.size, 0, none⟩) (Nat.le_refl _) (.int .i64 0)).setCell (p := ⟨w.heap.size, 1, none⟩) (Nat.le_refl _) (.string ⟨#[]⟩)).setCell (p := ⟨w.heap.size, 2, none⟩) (Nat.le_refl _) (.int .u64 0)).setCell (p := ⟨w.heap.size, 3, none⟩) (Nat.le_refl _) (.bool false)).setCell (p := ⟨w.heap.size, 4, none⟩) (Nat.le_refl _) (.string ⟨#[]⟩))⟩

set_option maxRecDepth 100000 in
set_option maxHeartbeats 2000000 in
theorem vget_right (t : ByteArray) (b : Addr) (w : World) (hs : t.size ≤ 1099511627776) (hg : Gv b w) (fs : List Fd) (hp : parse t.data.toList = some fs) (ho : fs.any othK = false) (hm : madeOk fs = true) (r : Vr) (hr : madeV fs = r) (hro : r.ok = true) :
    Calls Tryz.prog 18 #[.string t] w fun e w' => e = .returned (.tuple #[r.v, .bool true]) ∧ Below w.heap.size w w' := by
  have hb0 : Below w.heap.size w (w.alloc (.cells #[.int .i64 0, .string ⟨#[]⟩, .int .u64 0, .bool false, .string ⟨#[]⟩] 27)) := (Below.refl _ _).alloc (Nat.le_refl _) _
  obtain ⟨w0, hw0⟩ : ∃ w0, w.alloc (.cells #[.int .i64 0, .string ⟨#[]⟩, .int .u64 0, .bool false, .string ⟨#[]⟩] 27) = w0 := ⟨_, rfl⟩
  have hR : Blk w0 w.heap.size #[.int .i64 0, .string ⟨#[]⟩, .int .u64 0, .bool false, .string ⟨#[]⟩] 27 := by rw [← hw0]; exact Blk.new _ _ _
  rw [hw0] at hb0
  have hg0 := hg.below hb0
  have HO := Lib.hid ho; clear ho
  have HP := Lib.hid (parse_yes t b w0 hs hg0 fs fs.length rfl hp)
  have hfl : fs.length ≤ 1099511627776 := Nat.le_trans (parse_few hp) hs
  obtain ⟨L, hL⟩ : ∃ L, fs.length = L := ⟨_, rfl⟩
  rw [hL] at HP hfl
  have HL := Lib.hid hL
  have HW0 := Lib.hid hw0; clear hw0 hp hL
  go_enter Tryz.func18, Tryz.ntmps18
  go_wp2_with fail
  rw [HW0.out]
  refine HP.out.mono ?_
  rintro e w1 ⟨⟨a0, g, cap, rfl, ha, hrow⟩, hb1⟩
  have hb1' := hb1
  have HC := Lib.hid (contains_any a0 L cap g fs w1 HL.out ha hrow hfl)
  have HA := Lib.hid (And.intro ha hrow); clear ha hrow
  clear hb1'
  go_wp2_with fail
  refine HC.out.mono ?_
  rw [HO.out]
  rintro e w2 ⟨rfl, hb2⟩
  have hbx : Below w0.heap.size w0 w2 := hb1.trans (hb2.mono hb1.size)
  have hrow2 := HA.out.2.below hb2
  clear hb1 hb2
  obtain ⟨t', x, q, g', s⟩ := r
  have HRO := Lib.hid (show rsOk t' x (q : Int) g' s = true from hro); clear hro
  have hmade := made_yes a0 L cap g fs w2 HL.out HA.out.1 hrow2 hfl hm
  rw [hr] at hmade
  clear hr hm
  have HM := Lib.hid hmade
  clear hmade
  go_wp2_with fail
  refine HM.out.mono ?_
  rintro e w3 ⟨rfl, hb3⟩
  have hby : Below w0.heap.size w0 w3 := hbx.trans (hb3.mono hbx.size)
  have q1 := hR.below hby hR.lt
  have hbw3 : Below w.heap.size w w3 := hb0.trans (hby.mono hb0.size)
  clear hb0 hbx hR hb3 hby
  have hlt1 := q1.lt
  have q2 := Blk.new w3 #[.int .i64 t', .string x, .int .u64 (q : Int), .bool g', .string s] 27
  have q1a := q1.alloc (.cells #[.int .i64 t', .string x, .int .u64 (q : Int), .bool g', .string s] 27)
  have hbx2 : Below w3.heap.size w3 (w3.alloc (.cells #[.int .i64 t', .string x, .int .u64 (q : Int), .bool g', .string s] 27)) := (Below.refl _ _).alloc (Nat.le_refl _) _
  have HB := Lib.hid (And.intro q2 (And.intro q1a hbx2)); clear q2 q1a hbx2 q1
  go_wp2_with fail
  refine (right_any t' x (q : Int) g' s _).mono ?_
  rw [HRO.out]
  rintro e w4 ⟨rfl, hb4⟩
  have q4 := HB.out.1.below hb4 HB.out.1.lt
  have q1 := HB.out.2.1.below hb4 HB.out.2.1.lt
  have hbw : Below w.heap.size w w4 := hbw3.trans ((HB.out.2.2.trans (hb4.mono HB.out.2.2.size)).mono hbw3.size)
  have hlt4 := q4.lt
  clear hb4
  have k0 : w4.cell? ⟨w.heap.size, 0, none⟩ = some (.int .i64 0) := q1.cell 0
  have m0 := q1.frozen 0
  have k1 : w4.cell? ⟨w.heap.size, 1, none⟩ = some (.string ⟨#[]⟩) := q1.cell 1
  have m1 := q1.frozen 1
  have k2 : w4.cell? ⟨w.heap.size, 2, none⟩ = some (.int .u64 0) := q1.cell 2
  have m2 := q1.frozen 2
  have k3 : w4.cell? ⟨w.heap.size, 3, none⟩ = some (.bool false) := q1.cell 3
  have m3 := q1.frozen 3
  have k4 : w4.cell? ⟨w.heap.size, 4, none⟩ = some (.string ⟨#[]⟩) := q1.cell 4
  have m4 := q1.frozen 4
  have j0 : w4.cell? ⟨w3.heap.size, 0, none⟩ = some (.int .i64 t') := q4.cell 0
  have j1 : w4.cell? ⟨w3.heap.size, 1, none⟩ = some (.string x) := q4.cell 1
  have j2 : w4.cell? ⟨w3.heap.size, 2, none⟩ = some (.int .u64 (q : Int)) := q4.cell 2
  have j3 : w4.cell? ⟨w3.heap.size, 3, none⟩ = some (.bool g') := q4.cell 3
  have j4 : w4.cell? ⟨w3.heap.size, 4, none⟩ = some (.string s) := q4.cell 4
  go_wp2_with fail
  have q6 := (((((q1.set 0 (.int .i64 t')).set 1 (.string x)).set 2 (.int .u64 (q : Int))).set 3 (.bool g')).set 4 (.string s))
  have z0 := q6.cell 0
  have z1 := q6.cell 1
  have z2 := q6.cell 2
  have z3 := q6.cell 3
  have z4 := q6.cell 4
  simp only [List.setIfInBounds_toArray, List.set_cons_zero, List.set_cons_succ, List.getElem?_toArray, List.getElem?_cons_zero, List.getElem?_cons_succ] at z0 z1 z2 z3 z4
  exact bodyPost_ret (v := .tuple #[.agg #[.int .i64 t', .string x, .int .u64 (q : Int), .bool g', .string s], .bool true]) (by simp [results, Tryz.results18, go_sem, z0, z1, z2, z3, z4]) rfl ⟨rfl, (((((hbw.setCell (p := ⟨w.heap.size, 0, none⟩) (Nat.le_refl _) (.int .i64 t')).setCell (p := ⟨w.heap.size, 1, none⟩) (Nat.le_refl _) (.string x)).setCell (p := ⟨w.heap.size, 2, none⟩) (Nat.le_refl _) (.int .u64 (q : Int))).setCell (p := ⟨w.heap.size, 3, none⟩) (Nat.le_refl _) (.bool g')).setCell (p := ⟨w.heap.size, 4, none⟩) (Nat.le_refl _) (.string s))⟩

theorem vget_any (t : ByteArray) (b : Addr) (w : World) (hs : t.size ≤ 1099511627776) (hg : Gv b w) :
    Calls Tryz.prog 18 #[.string t] w fun e w' => e = .returned (.tuple #[getVal (getV t.data.toList), .bool (getV t.data.toList).isSome]) ∧ Below w.heap.size w w' := by
  cases hp : parse t.data.toList with
  | none =>
    have e : getV t.data.toList = none := by unfold getV; rw [hp]; rfl
    rw [e]; exact vget_parse t b w hs hg hp
  | some fs =>
    cases ho : fs.any othK with
    | true =>
      have e : getV t.data.toList = none := by unfold getV; rw [hp]; show (if fs.any othK = true then none else if (madeOk fs && (madeV fs).ok) = true then some (madeV fs) else none) = _; rw [ho]; rfl
      rw [e]; exact vget_other t b w hs hg fs hp ho
    | false =>
      cases hm : madeOk fs with
      | false =>
        have e : getV t.data.toList = none := by unfold getV; rw [hp]; show (if fs.any othK = true then none else if (madeOk fs && (madeV fs).ok) = true then some (madeV fs) else none) = _; rw [ho, hm]; rfl
        rw [e]; exact vget_made t b w hs hg fs hp ho hm
      | true =>
        cases hr : (madeV fs).ok with
        | false =>
          have e : getV t.data.toList = none := by unfold getV; rw [hp]; show (if fs.any othK = true then none else if (madeOk fs && (madeV fs).ok) = true then some (madeV fs) else none) = _; rw [ho, hm, hr]; rfl
          rw [e]; exact vget_wrong t b w hs hg fs hp ho hm _ rfl hr
        | true =>
          have e : getV t.data.toList = some (madeV fs) := by unfold getV; rw [hp]; show (if fs.any othK = true then none else if (madeOk fs && (madeV fs).ok) = true then some (madeV fs) else none) = _; rw [ho, hm, hr]; rfl
          rw [e]; exact vget_right t b w hs hg fs hp ho hm _ rfl hr
end Go.Proofs.YtjolgalfjahceaaGreatDoor
