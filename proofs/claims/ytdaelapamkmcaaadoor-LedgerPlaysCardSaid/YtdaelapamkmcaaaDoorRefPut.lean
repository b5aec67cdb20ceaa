/- The reference's Put: the walk. -/
import Derived.Test.YtdaelapamkmcaaaDoorNum
import Derived.Test.YtdaelapamkmcaaaDoorMark
import Derived.RegionTactic
import Derived.Deep.RegionHeld3
namespace Go.Proofs.YtdaelapamkmcaaaDoor
open Go.RowKit

theorem u64_range (y : Int) : 0 ≤ IntKind.u64.wrap y ∧ IntKind.u64.wrap y < 18446744073709551616 := by
  simp [IntKind.wrap, IntKind.bits, IntKind.signed]; omega
theorem varint_some (x : Int) (w : World) (h : 0 ≤ x ∧ x < 18446744073709551616) :
    Calls Tryd.prog 77 #[.int .u64 x] w fun e w' => (∃ T : ByteArray, e = .returned (.string T)) ∧ Below w.heap.size w w' := by
  obtain ⟨n, rfl⟩ := Int.eq_ofNat_of_zero_le h.1
  exact (refVarint_any n w (by omega)).mono fun e w' ⟨he, hb⟩ => ⟨⟨_, he⟩, hb⟩
theorem varint_at (x : Int) (n : Nat) (T : ByteArray) (w : World) (hx : x = n) (hn : n < 2 ^ 64) (hT : T = ⟨(vnt n).toArray⟩) :
    Calls Tryd.prog 77 #[.int .u64 x] w fun e w' => e = .returned (.string T) ∧ Below w.heap.size w w' := by
  subst hx; subst hT; exact refVarint_any n w hn

/-- Cells of the boxed field, behind what makes memory. -/
def Bz (B : Nat) (num kind : Int) (n : Nat) (s : ByteArray) (w0 w' : World) : Prop :=
  w'.cell? ⟨B, 0, none⟩ = some (.int .i64 num) ∧ w'.cell? ⟨B, 1, none⟩ = some (.int .i64 kind) ∧ w'.cell? ⟨B, 2, none⟩ = some (.int .u64 n) ∧ w'.cell? ⟨B, 3, none⟩ = some (.string s) ∧ B < w'.heap.size ∧ Below B w0 w'
theorem Bz.start {num kind : Int} {n : Nat} {s : ByteArray} {w : World} {t : TypeId} :
    Bz w.heap.size num kind n s w (w.alloc (.cells #[.int .i64 num, .int .i64 kind, .int .u64 n, .string s] t)) := by
  refine ⟨?_, ?_, ?_, ?_, by simp, (Below.refl _ _).alloc (Nat.le_refl _) _⟩ <;> rw [World.cell?_alloc_mark] <;> rfl
theorem Bz.next {B : Nat} {num kind : Int} {n : Nat} {s : ByteArray} {w0 wc w' : World} (h : Bz B num kind n s w0 wc) (hb : Below wc.heap.size wc w') : Bz B num kind n s w0 w' := by
  obtain ⟨h0, h1, h2, h3, h4, h5⟩ := h
  exact ⟨(hb.cell (p := ⟨B, 0, none⟩) h4).trans h0, (hb.cell (p := ⟨B, 1, none⟩) h4).trans h1, (hb.cell (p := ⟨B, 2, none⟩) h4).trans h2, (hb.cell (p := ⟨B, 3, none⟩) h4).trans h3, Nat.lt_of_lt_of_le h4 hb.size, h5.trans (hb.mono (Nat.le_of_lt h4))⟩
theorem Bz.drew {B : Nat} {num kind : Int} {n : Nat} {s : ByteArray} {w0 wc : World} (h : Bz B num kind n s w0 wc) : Bz B num kind n s w0 wc.drew := by
  obtain ⟨h0, h1, h2, h3, h4, h5⟩ := h
  exact ⟨h0, h1, h2, h3, h4, below_drewN h5 1⟩

set_option maxRecDepth 100000 in
set_option maxHeartbeats 1000000 in
theorem refPut_early (num kind : Int) (n : Nat) (s : ByteArray) (w : World) (h : num < 1 ∨ 536870912 ≤ num ∨ (kind ≠ 0 ∧ n ≠ 0)) :
    Calls Tryd.prog 68 #[fdV num kind n s] w fun e w' => e = .returned (.tuple #[.string ⟨#[]⟩, .bool false]) ∧ Below w.heap.size w w' := by
  by_cases h1 : num < 1
  · clear h
    go_enter Tryd.func68, Tryd.ntmps68
    go_wp2
    go_ret2
    exact ⟨rfl, (Below.refl _ _).alloc (Nat.le_refl _) _⟩
  · by_cases h2 : 536870912 ≤ num
    · clear h
      go_enter Tryd.func68, Tryd.ntmps68
      go_wp2
      go_ret2
      exact ⟨rfl, (Below.refl _ _).alloc (Nat.le_refl _) _⟩
    · have h3 : kind ≠ 0 ∧ n ≠ 0 := by omega
      have b3 : (!((kind : Int) == 0)) = true := by simp [h3.1]
      have b5 : ((kind : Int) != 0) = true := by simp [h3.1]
      have b4 : (((n : Nat) : Int) != 0) = true := by simp [h3.2]
      have b6 : (!(((n : Nat) : Int) == 0)) = true := by simp [h3.2]
      clear h h3
      go_enter Tryd.func68, Tryd.ntmps68
      go_wp2
      go_ret2
      exact ⟨rfl, (Below.refl _ _).alloc (Nat.le_refl _) _⟩

set_option maxRecDepth 100000 in
set_option maxHeartbeats 1000000 in
theorem refPut_no0 (num : Int) (n : Nat) (s : ByteArray) (w : World) (h1 : 1 ≤ num) (h2 : num ≤ 536870911) (hs : ¬ s.size = 0) :
    Calls Tryd.prog 68 #[fdV num 0 n s] w fun e w' => e = .returned (.tuple #[.string ⟨#[]⟩, .bool false]) ∧ Below w.heap.size w w' := by
  have hbz : Bz w.heap.size num 0 n s w (w.alloc (.cells #[.int .i64 num, .int .i64 0, .int .u64 (n : Nat), .string s] 113)) := Bz.start
  have HBZ := Lib.hid hbz; clear hbz
  have d1 : decide (num < 1) = false := by simp; omega
  have d2 : decide (536870912 ≤ num) = false := by simp; omega
  have hem : s.toList.isEmpty = false := by
    rw [ByteArray.toList_eq]
    have hl : s.data.toList.length = s.size := by simp
    cases he : s.data.toList with
    | nil => rw [he] at hl; simp at hl; omega
    | cons x l => rfl
  clear hs
  go_enter Tryd.func68, Tryd.ntmps68
  go_wp2_with fail
  refine (varint_some _ _ ?_).mono ?_
  · first | exact u64_range _ | omega
  rintro e w2 ⟨⟨T, rfl⟩, hb2⟩
  obtain ⟨c0, c1, c2, c3, c4, c5⟩ := HBZ.out.next hb2
  go_wp2
  go_ret2
  exact ⟨rfl, c5⟩

set_option maxRecDepth 100000 in
set_option maxHeartbeats 1000000 in
theorem refPut_no1 (num : Int) (s : ByteArray) (w : World) (h1 : 1 ≤ num) (h2 : num ≤ 536870911) (hs : ¬ s.size = 8) :
    Calls Tryd.prog 68 #[fdV num 1 0 s] w fun e w' => e = .returned (.tuple #[.string ⟨#[]⟩, .bool false]) ∧ Below w.heap.size w w' := by
  have hbz : Bz w.heap.size num 1 0 s w (w.alloc (.cells #[.int .i64 num, .int .i64 1, .int .u64 (0 : Nat), .string s] 113)) := Bz.start
  have HBZ := Lib.hid hbz; clear hbz
  have d1 : decide (num < 1) = false := by simp; omega
  have d2 : decide (536870912 ≤ num) = false := by simp; omega
  have hsz : (((s.size : Nat) : Int) == 8) = false := by simp; omega
  clear hs
  go_enter Tryd.func68, Tryd.ntmps68
  go_wp2_with fail
  refine (varint_some _ _ ?_).mono ?_
  · first | exact u64_range _ | omega
  rintro e w2 ⟨⟨T, rfl⟩, hb2⟩
  obtain ⟨c0, c1, c2, c3, c4, c5⟩ := HBZ.out.next hb2
  go_wp2
  go_ret2
  exact ⟨rfl, c5⟩

set_option maxRecDepth 100000 in
set_option maxHeartbeats 1000000 in
theorem refPut_no5 (num : Int) (s : ByteArray) (w : World) (h1 : 1 ≤ num) (h2 : num ≤ 536870911) (hs : ¬ s.size = 4) :
    Calls Tryd.prog 68 #[fdV num 5 0 s] w fun e w' => e = .returned (.tuple #[.string ⟨#[]⟩, .bool false]) ∧ Below w.heap.size w w' := by
  have hbz : Bz w.heap.size num 5 0 s w (w.alloc (.cells #[.int .i64 num, .int .i64 5, .int .u64 (0 : Nat), .string s] 113)) := Bz.start
  have HBZ := Lib.hid hbz; clear hbz
  have d1 : decide (num < 1) = false := by simp; omega
  have d2 : decide (536870912 ≤ num) = false := by simp; omega
  have hsz : (((s.size : Nat) : Int) == 4) = false := by simp; omega
  clear hs
  go_enter Tryd.func68, Tryd.ntmps68
  go_wp2_with fail
  refine (varint_some _ _ ?_).mono ?_
  · first | exact u64_range _ | omega
  rintro e w2 ⟨⟨T, rfl⟩, hb2⟩
  obtain ⟨c0, c1, c2, c3, c4, c5⟩ := HBZ.out.next hb2
  go_wp2
  go_ret2
  exact ⟨rfl, c5⟩

set_option maxRecDepth 100000 in
set_option maxHeartbeats 1000000 in
theorem refPut_noK (num kind : Int) (s : ByteArray) (w : World) (h1 : 1 ≤ num) (h2 : num ≤ 536870911) (k0 : ¬ kind = 0) (k1 : ¬ kind = 1) (k2 : ¬ kind = 2) (k5 : ¬ kind = 5) :
    Calls Tryd.prog 68 #[fdV num kind 0 s] w fun e w' => e = .returned (.tuple #[.string ⟨#[]⟩, .bool false]) ∧ Below w.heap.size w w' := by
  have hbz : Bz w.heap.size num kind 0 s w (w.alloc (.cells #[.int .i64 num, .int .i64 kind, .int .u64 (0 : Nat), .string s] 113)) := Bz.start
  have HBZ := Lib.hid hbz; clear hbz
  have d1 : decide (num < 1) = false := by simp; omega
  have d2 : decide (536870912 ≤ num) = false := by simp; omega
  have g0 : (kind == 0) = false := by simp [k0]
  have g0' : (kind != 0) = true := by simp [k0]
  have g1 : (kind == 1) = false := by simp [k1]
  have g2 : (kind == 2) = false := by simp [k2]
  have g5 : (kind == 5) = false := by simp [k5]
  clear k0 k1 k2 k5
  go_enter Tryd.func68, Tryd.ntmps68
  go_wp2_with fail
  refine (varint_some _ _ ?_).mono ?_
  · first | exact u64_range _ | omega
  rintro e w2 ⟨⟨T, rfl⟩, hb2⟩
  obtain ⟨c0, c1, c2, c3, c4, c5⟩ := HBZ.out.next hb2
  go_wp2
  go_ret2
  exact ⟨rfl, c5⟩

set_option maxRecDepth 100000 in
set_option maxHeartbeats 1000000 in
theorem refPut_ok0 (num : Int) (n : Nat) (s : ByteArray) (w : World) (hn : n < 2 ^ 64) (_hss : s.size ≤ 140737488355328) (h1 : 1 ≤ num) (h2 : num ≤ 536870911) (hs : s.size = 0) :
    Calls Tryd.prog 68 #[fdV num 0 n s] w fun e w' => e = .returned (.tuple #[.string ⟨(putL num 0 n s).toArray⟩, .bool true]) ∧ Below w.heap.size w w' := by
  have hbz : Bz w.heap.size num 0 n s w (w.alloc (.cells #[.int .i64 num, .int .i64 0, .int .u64 (n : Nat), .string s] 113)) := Bz.start
  have HBZ := Lib.hid hbz; clear hbz
  have d1 : decide (num < 1) = false := by simp; omega
  have d2 : decide (536870912 ≤ num) = false := by simp; omega
  obtain ⟨T, hT⟩ : ∃ T : ByteArray, T = ⟨(vnt (num.toNat * 8 + 0)).toArray⟩ := ⟨_, rfl⟩
  obtain ⟨V, hV⟩ : ∃ T : ByteArray, T = ⟨(vnt n).toArray⟩ := ⟨_, rfl⟩
  have hT1 := vnt_size hT
  have hV1 := vnt_size hV
  have HTT := Lib.hid hT; clear hT
  have HVV := Lib.hid hV; clear hV
  have HN := Lib.hid hn; clear hn
  have hem : s.toList.isEmpty = true := by
    rw [ByteArray.toList_eq]
    have hl : s.data.toList.length = s.size := by simp
    cases he : s.data.toList with
    | nil => rfl
    | cons x l => rw [he] at hl; simp at hl; omega
  clear hs
  go_enter Tryd.func68, Tryd.ntmps68
  go_wp2_with fail
  refine (varint_at _ (num.toNat * 8 + 0) T _ (by omega) (by omega) HTT.out).mono ?_
  rintro e w2 ⟨rfl, hb2⟩
  have HB2 := HBZ.out.next hb2
  obtain ⟨c0, c1, c2, c3, c4, c5⟩ := id HB2
  go_wp2_with fail
  refine (varint_at _ n V _ rfl HN.out HVV.out).mono ?_
  rintro e w3 ⟨rfl, hb3⟩
  go_wp2
  go_ret2
  refine ⟨put_end (X := T ++ V) rfl ?_, (HB2.next hb3).2.2.2.2.2⟩
  rw [HTT.out, HVV.out]; simp [putL]

set_option maxRecDepth 100000 in
set_option maxHeartbeats 1000000 in
theorem refPut_ok1 (num : Int) (s : ByteArray) (w : World) (_hss : s.size ≤ 140737488355328) (h1 : 1 ≤ num) (h2 : num ≤ 536870911) (hs : s.size = 8) :
    Calls Tryd.prog 68 #[fdV num 1 0 s] w fun e w' => e = .returned (.tuple #[.string ⟨(putL num 1 0 s).toArray⟩, .bool true]) ∧ Below w.heap.size w w' := by
  have hbz : Bz w.heap.size num 1 0 s w (w.alloc (.cells #[.int .i64 num, .int .i64 1, .int .u64 (0 : Nat), .string s] 113)) := Bz.start
  have HBZ := Lib.hid hbz; clear hbz
  have d1 : decide (num < 1) = false := by simp; omega
  have d2 : decide (536870912 ≤ num) = false := by simp; omega
  obtain ⟨T, hT⟩ : ∃ T : ByteArray, T = ⟨(vnt (num.toNat * 8 + 1)).toArray⟩ := ⟨_, rfl⟩
  have hT1 := vnt_size hT
  have HTT := Lib.hid hT; clear hT
  have hsz : (((s.size : Nat) : Int) == 8) = true := by simp; omega
  have HS := Lib.hid hs; clear hs
  go_enter Tryd.func68, Tryd.ntmps68
  go_wp2_with fail
  refine (varint_at _ (num.toNat * 8 + 1) T _ (by omega) (by omega) HTT.out).mono ?_
  rintro e w2 ⟨rfl, hb2⟩
  have HB2 := HBZ.out.next hb2
  obtain ⟨c0, c1, c2, c3, c4, c5⟩ := id HB2
  go_wp2
  go_ret2
  refine ⟨put_end (X := T ++ s) rfl ?_, c5⟩
  rw [HTT.out]; simp [putL]

set_option maxRecDepth 100000 in
set_option maxHeartbeats 1000000 in
theorem refPut_ok5 (num : Int) (s : ByteArray) (w : World) (_hss : s.size ≤ 140737488355328) (h1 : 1 ≤ num) (h2 : num ≤ 536870911) (hs : s.size = 4) :
    Calls Tryd.prog 68 #[fdV num 5 0 s] w fun e w' => e = .returned (.tuple #[.string ⟨(putL num 5 0 s).toArray⟩, .bool true]) ∧ Below w.heap.size w w' := by
  have hbz : Bz w.heap.size num 5 0 s w (w.alloc (.cells #[.int .i64 num, .int .i64 5, .int .u64 (0 : Nat), .string s] 113)) := Bz.start
  have HBZ := Lib.hid hbz; clear hbz
  have d1 : decide (num < 1) = false := by simp; omega
  have d2 : decide (536870912 ≤ num) = false := by simp; omega
  obtain ⟨T, hT⟩ : ∃ T : ByteArray, T = ⟨(vnt (num.toNat * 8 + 5)).toArray⟩ := ⟨_, rfl⟩
  have hT1 := vnt_size hT
  have HTT := Lib.hid hT; clear hT
  have hsz : (((s.size : Nat) : Int) == 4) = true := by simp; omega
  have HS := Lib.hid hs; clear hs
  go_enter Tryd.func68, Tryd.ntmps68
  go_wp2_with fail
  refine (varint_at _ (num.toNat * 8 + 5) T _ (by omega) (by omega) HTT.out).mono ?_
  rintro e w2 ⟨rfl, hb2⟩
  have HB2 := HBZ.out.next hb2
  obtain ⟨c0, c1, c2, c3, c4, c5⟩ := id HB2
  go_wp2
  go_ret2
  refine ⟨put_end (X := T ++ s) rfl ?_, c5⟩
  rw [HTT.out]; simp [putL]

set_option maxRecDepth 100000 in
set_option maxHeartbeats 1000000 in
theorem refPut_ok2 (num : Int) (s : ByteArray) (w : World) (hss : s.size ≤ 140737488355328) (h1 : 1 ≤ num) (h2 : num ≤ 536870911)  :
    Calls Tryd.prog 68 #[fdV num 2 0 s] w fun e w' => e = .returned (.tuple #[.string ⟨(putL num 2 0 s).toArray⟩, .bool true]) ∧ Below w.heap.size w w' := by
  have hbz : Bz w.heap.size num 2 0 s w (w.alloc (.cells #[.int .i64 num, .int .i64 2, .int .u64 (0 : Nat), .string s] 113)) := Bz.start
  have HBZ := Lib.hid hbz; clear hbz
  have d1 : decide (num < 1) = false := by simp; omega
  have d2 : decide (536870912 ≤ num) = false := by simp; omega
  obtain ⟨T, hT⟩ : ∃ T : ByteArray, T = ⟨(vnt (num.toNat * 8 + 2)).toArray⟩ := ⟨_, rfl⟩
  obtain ⟨V, hV⟩ : ∃ T : ByteArray, T = ⟨(vnt s.size).toArray⟩ := ⟨_, rfl⟩
  have hT1 := vnt_size hT
  have hV1 := vnt_size hV
  have HTT := Lib.hid hT; clear hT
  have HVV := Lib.hid hV; clear hV
  go_enter Tryd.func68, Tryd.ntmps68
  go_wp2_with fail
  refine (varint_at _ (num.toNat * 8 + 2) T _ (by omega) (by omega) HTT.out).mono ?_
  rintro e w2 ⟨rfl, hb2⟩
  have HB2 := HBZ.out.next hb2
  obtain ⟨c0, c1, c2, c3, c4, c5⟩ := id HB2
  have hcat : ¬ (9223372036854775807 < T.size + V.size) := by omega
  have hcat2 : ¬ (9223372036854775807 < T.size + V.size + s.size) := by omega
  have e3 : IntKind.u64.wrap (s.size : Int) = (s.size : Int) := IntWalk.u64_in _ (by omega)
  go_wp2_with fail
  go_region_held3 (fun w' => w'.cell? ⟨w.heap.size, 0, none⟩ = some (.int .i64 num) ∧ w'.cell? ⟨w.heap.size, 1, none⟩ = some (.int .i64 2) ∧ w'.cell? ⟨w.heap.size, 2, none⟩ = some (.int .u64 (0 : Nat)) ∧ w'.cell? ⟨w.heap.size, 3, none⟩ = some (.string s) ∧ w.heap.size < w'.heap.size ∧ Below w.heap.size w w')
    (first | (exact Bz.next (B := w.heap.size) (num := num) (kind := 2) (n := 0) (s := s) (w0 := w) HB2.drew hb3) | exact HB2 | exact HB2.drew | go_keep)
    (first | (go_at_call 77; (with_reducible refine (varint_at _ s.size V _ rfl ?_ HVV.out).mono ?_); (omega); rintro e w3 ⟨rfl, hb3⟩))
  have HB3 : Bz w.heap.size num 2 0 s w w3 := ‹_›
  have c6 := HB3.2.2.2.2.2
  go_wp2
  go_ret2
  refine ⟨put_end (X := T ++ V ++ s) rfl ?_, c6⟩
  rw [HTT.out, HVV.out]; simp [putL]

/-- The reference puts what the chapter puts. -/
theorem refPut_no (num kind : Int) (n : Nat) (s : ByteArray) (w : World) (ho : okF num kind n s = false) :
    Calls Tryd.prog 68 #[fdV num kind n s] w fun e w' => e = .returned (.tuple #[.string ⟨#[]⟩, .bool false]) ∧ Below w.heap.size w w' := by
  by_cases h : num < 1 ∨ 536870912 ≤ num ∨ (kind ≠ 0 ∧ n ≠ 0)
  · exact refPut_early num kind n s w h
  · have h1 : 1 ≤ num := by omega
    have h2 : num ≤ 536870911 := by omega
    have hN : numB num = true := by simp [numB]; omega
    by_cases k0 : kind = 0
    · subst k0
      refine refPut_no0 num n s w h1 h2 fun hs => ?_
      have : okF num 0 n s = true := by simp [okF, hN, kindB, fsz, hs]
      rw [this] at ho; cases ho
    · obtain rfl : n = 0 := by omega
      by_cases k1 : kind = 1
      · subst k1
        refine refPut_no1 num s w h1 h2 fun hs => ?_
        have : okF num 1 0 s = true := by simp [okF, hN, kindB, fsz, hs]
        rw [this] at ho; cases ho
      · by_cases k5 : kind = 5
        · subst k5
          refine refPut_no5 num s w h1 h2 fun hs => ?_
          have : okF num 5 0 s = true := by simp [okF, hN, kindB, fsz, hs]
          rw [this] at ho; cases ho
        · by_cases k2 : kind = 2
          · subst k2
            have : okF num 2 0 s = true := by simp [okF, hN, kindB]
            rw [this] at ho; cases ho
          · exact refPut_noK num kind s w h1 h2 k0 k1 k2 k5
theorem refPut_ok (num kind : Int) (n : Nat) (s : ByteArray) (w : World) (hn : n < 2 ^ 64) (hs : s.size ≤ 140737488355328) (ho : okF num kind n s = true) :
    Calls Tryd.prog 68 #[fdV num kind n s] w fun e w' => e = .returned (.tuple #[.string ⟨(putL num kind n s).toArray⟩, .bool true]) ∧ Below w.heap.size w w' := by
  obtain ⟨h1, h2, h3, h4⟩ := okF_facts ho
  obtain ⟨l1, l2⟩ := numB_range h1
  rcases kindB_cases h2 with rfl | rfl | rfl | rfl
  · have : s.size = 0 := by simpa [fsz] using h4
    exact refPut_ok0 num n s w hn hs l1 l2 this
  · obtain rfl : n = 0 := by omega
    have : s.size = 8 := by have := h4.resolve_left (by decide); simp [fsz] at this; omega
    exact refPut_ok1 num s w hs l1 l2 this
  · obtain rfl : n = 0 := by omega
    exact refPut_ok2 num s w hs l1 l2
  · obtain rfl : n = 0 := by omega
    have : s.size = 4 := by have := h4.resolve_left (by decide); simp [fsz] at this; omega
    exact refPut_ok5 num s w hs l1 l2 this

theorem okF_num (num : Int) (n : Nat) : okF num 0 n ⟨#[]⟩ = numB num := by
  have : (⟨#[]⟩ : ByteArray).size = 0 := rfl
  simp [okF, kindB, fsz, this]
theorem okF_text (num : Int) (s : ByteArray) : okF num 2 0 s = numB num := by simp [okF, kindB]

theorem refNumber_any (num : Int) (n : Nat) (w : World) (hn : n < 2 ^ 64) :
    Calls Tryd.prog 67 #[.int .i64 num, .int .u64 n] w fun e w' => e = .returned (.string ⟨(numberL num n).toArray⟩) ∧ Below w.heap.size w w' := by
  have HN := Lib.hid hn; clear hn
  by_cases h : numB num = true
  · have hL : numberL num n = putL num 0 n ⟨#[]⟩ := by simp [numberL, h]
    rw [hL]
    have HO := Lib.hid ((okF_num num n).trans h); clear h hL
    go_enter Tryd.func67, Tryd.ntmps67
    go_wp2_with fail
    refine (refPut_ok num 0 n ⟨#[]⟩ _ HN.out (by decide) HO.out).mono ?_
    rintro e w2 ⟨rfl, hb2⟩
    go_wp2
    go_ret
    exact ⟨rfl, hb2⟩
  · have hf : numB num = false := by simpa using h
    have hL : numberL num n = [] := by simp [numberL, hf]
    rw [hL]
    have HO := Lib.hid ((okF_num num n).trans hf); clear h hf hL
    go_enter Tryd.func67, Tryd.ntmps67
    go_wp2_with fail
    refine (refPut_no num 0 n ⟨#[]⟩ _ HO.out).mono ?_
    rintro e w2 ⟨rfl, hb2⟩
    go_wp2
    go_ret
    exact ⟨rfl, hb2⟩
theorem refText_any (num : Int) (s : ByteArray) (w : World) (hs : s.size ≤ 140737488355328) :
    Calls Tryd.prog 43 #[.int .i64 num, .string s] w fun e w' => e = .returned (.string ⟨(textL num s).toArray⟩) ∧ Below w.heap.size w w' := by
  have HN := Lib.hid hs; clear hs
  by_cases h : numB num = true
  · have hL : textL num s = putL num 2 0 s := by simp [textL, h]
    rw [hL]
    have HO := Lib.hid ((okF_text num s).trans h); clear h hL
    go_enter Tryd.func43, Tryd.ntmps43
    go_wp2_with fail
    refine (refPut_ok num 2 0 s _ (by decide) HN.out HO.out).mono ?_
    rintro e w2 ⟨rfl, hb2⟩
    go_wp2
    go_ret
    exact ⟨rfl, hb2⟩
  · have hf : numB num = false := by simpa using h
    have hL : textL num s = [] := by simp [textL, hf]
    rw [hL]
    have HO := Lib.hid ((okF_text num s).trans hf); clear h hf hL
    go_enter Tryd.func43, Tryd.ntmps43
    go_wp2_with fail
    refine (refPut_no num 2 0 s _ HO.out).mono ?_
    rintro e w2 ⟨rfl, hb2⟩
    go_wp2
    go_ret
    exact ⟨rfl, hb2⟩
end Go.Proofs.YtdaelapamkmcaaaDoor
