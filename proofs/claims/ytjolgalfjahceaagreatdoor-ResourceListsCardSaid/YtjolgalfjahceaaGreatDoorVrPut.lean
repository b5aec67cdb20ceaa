/- resource: Put. -/
import Derived.Test.YtjolgalfjahceaaGreatDoorVrPlain
import Derived.Deep.RegionHeld3
import Derived.Deep.DeepCutAuto
namespace Go.Proofs.YtjolgalfjahceaaGreatDoor
open Go.RowKit

theorem putL_len (num kind : Int) (n : Nat) (s : ByteArray) : (putL num kind n s).length ≤ 20 + s.size := by
  have h1 := (vnt_len (num.toNat * 8 + kind.toNat)).2
  have h2 := (vnt_len n).2
  have h3 := (vnt_len s.size).2
  have hl : s.data.toList.length = s.size := rfl
  unfold putL
  rw [List.length_append]
  split
  · omega
  · split
    · rw [List.length_append]; omega
    · omega
theorem numberL_small (num : Int) (n : Nat) : (numberL num n).length ≤ 20 := by
  unfold numberL
  split
  · exact putL_len num 0 n ⟨#[]⟩
  · exact Nat.zero_le _
theorem textL_small (num : Int) (s : ByteArray) : (textL num s).length ≤ 20 + s.size := by
  unfold textL
  split
  · exact putL_len num 2 0 s
  · exact Nat.zero_le _
/-- A number's field, its bytes under a name. -/
theorem number_arg (num : Int) (n : Nat) (T : ByteArray) (b : Addr) (w : World) (hg : Gv b w) (hn : n < 2 ^ 64) (hT : T = ⟨(numberL num n).toArray⟩) :
    Calls Tryz.prog 32 #[.int .i64 num, .int .u64 (n : Int)] w fun e w' => e = .returned (.string T) ∧ Below w.heap.size w w' := by
  subst hT; exact number_any num n b w hg hn
theorem text_arg (num : Int) (s T : ByteArray) (b : Addr) (w : World) (hg : Gv b w) (hs : s.size ≤ 1024) (hT : T = ⟨(textL num s).toArray⟩) :
    Calls Tryz.prog 33 #[.int .i64 num, .string s] w fun e w' => e = .returned (.string T) ∧ Below w.heap.size w w' := by
  subst hT; exact text_any num s b w hg (by omega)

/-- A version's box at B, the sentinel, and what was. -/
def Vx (B : Nat) (t : Int) (x : ByteArray) (q : Int) (g : Bool) (s : ByteArray) (b : Addr) (w0 w' : World) : Prop :=
  w'.cell? ⟨B, 0, none⟩ = some (.int .i64 t) ∧ w'.cell? ⟨B, 1, none⟩ = some (.string x) ∧ w'.cell? ⟨B, 2, none⟩ = some (.int .u64 q) ∧ w'.cell? ⟨B, 3, none⟩ = some (.bool g) ∧ w'.cell? ⟨B, 4, none⟩ = some (.string s) ∧
    w'.cell? ⟨0, 0, none⟩ = some (Tryz.S b) ∧ B < w'.heap.size ∧ 0 < w'.heap.size ∧ Below B w0 w'
theorem Vx.next {B : Nat} {t : Int} {x : ByteArray} {q : Int} {g : Bool} {s : ByteArray} {b : Addr} {w0 wc w' : World} (h : Vx B t x q g s b w0 wc) (hb : Below wc.heap.size wc w') : Vx B t x q g s b w0 w' := by
  obtain ⟨h0, h1, h2, h3, h4, h5, h6, h7, h8⟩ := h
  exact ⟨(hb.cell (p := ⟨B, 0, none⟩) h6).trans h0, (hb.cell (p := ⟨B, 1, none⟩) h6).trans h1, (hb.cell (p := ⟨B, 2, none⟩) h6).trans h2, (hb.cell (p := ⟨B, 3, none⟩) h6).trans h3, (hb.cell (p := ⟨B, 4, none⟩) h6).trans h4,
    (hb.cell (p := ⟨0, 0, none⟩) h7).trans h5, Nat.lt_of_lt_of_le h6 hb.size, Nat.lt_of_lt_of_le h7 hb.size, h8.trans (hb.mono (Nat.le_of_lt h6))⟩
theorem Vx.start {t : Int} {x : ByteArray} {q : Int} {g : Bool} {s : ByteArray} {b : Addr} {w : World} (hg : Gv b w) :
    Vx w.heap.size t x q g s b w (w.alloc (.cells #[.int .i64 t, .string x, .int .u64 q, .bool g, .string s] 27)) := by
  have h := (Below.refl w.heap.size w).alloc (Nat.le_refl _) (.cells #[.int .i64 t, .string x, .int .u64 q, .bool g, .string s] 27)
  refine ⟨?_, ?_, ?_, ?_, ?_, ?_, ?_, ?_, h⟩
  · simp
  · simp
  · simp
  · simp
  · simp
  · have := (hg.below h).1; simpa using this
  · simp
  · have := hg.2; simp <;> omega
theorem Vx.gv {B : Nat} {t : Int} {x : ByteArray} {q : Int} {g : Bool} {s : ByteArray} {b : Addr} {w0 w' : World} (h : Vx B t x q g s b w0 w') : Gv b w' := ⟨h.2.2.2.2.2.1, h.2.2.2.2.2.2.2.1⟩
theorem Vx.below {B : Nat} {t : Int} {x : ByteArray} {q : Int} {g : Bool} {s : ByteArray} {b : Addr} {w0 w' : World} (h : Vx B t x q g s b w0 w') : Below B w0 w' := h.2.2.2.2.2.2.2.2

set_option maxRecDepth 100000 in
set_option maxHeartbeats 1000000 in
theorem vput_no (r : Vr) (w : World) (hok : r.ok = false) :
    Calls Tryz.prog 17 #[r.v] w fun e w' => e = .returned (.tuple #[.string ⟨#[]⟩, .bool false]) ∧ Below w.heap.size w w' := by
  obtain ⟨t, x, q, g, s⟩ := r
  have HO := Lib.hid (show rsOk t x (q : Int) g s = false from hok); clear hok
  have hb0 := Lib.hid ((Below.refl w.heap.size w).alloc (Nat.le_refl _) (.cells #[.int .i64 t, .string x, .int .u64 (q : Int), .bool g, .string s] 27))
  go_enter Tryz.func17, Tryz.ntmps17
  go_wp2_with fail
  refine (right_any t x (q : Int) g s _).mono ?_
  rw [HO.out]
  rintro e w1 ⟨rfl, hb1⟩
  go_wp2_with fail
  go_ret2
  exact ⟨rfl, hb0.out.trans (hb1.mono hb0.out.size)⟩

set_option maxRecDepth 100000 in
set_option maxHeartbeats 2000000 in
theorem vput_ok (r : Vr) (b : Addr) (w : World) (hg : Gv b w) (hf : r.Fits) (hok : r.ok = true) :
    Calls Tryz.prog 17 #[r.v] w fun e w' => e = .returned (.tuple #[.string ⟨r.put.toArray⟩, .bool true]) ∧ Below w.heap.size w w' := by
  obtain ⟨t, x, q, g, s⟩ := r
  have h1 := hf.t1
  have h5 := hf.t5
  have hx := hf.x
  have hq := hf.q
  have hs := hf.s
  simp only at h1 h5 hx hq hs
  obtain ⟨n, rfl⟩ := Int.eq_ofNat_of_zero_le (show 0 ≤ t by omega)
  have hn5 : n ≤ 5 := by omega
  have HO := Lib.hid (show rsOk (n : Int) x (q : Int) g s = true from hok); clear hok
  obtain ⟨T1, hT1⟩ : ∃ T : ByteArray, T = ⟨(numberL 1 n).toArray⟩ := ⟨_, rfl⟩
  obtain ⟨T2, hT2⟩ : ∃ T : ByteArray, T = ⟨(textL 2 x).toArray⟩ := ⟨_, rfl⟩
  obtain ⟨T3, hT3⟩ : ∃ T : ByteArray, T = ⟨(numberL 3 q).toArray⟩ := ⟨_, rfl⟩
  obtain ⟨T4, hT4⟩ : ∃ T : ByteArray, T = ⟨(numberL 4 1).toArray⟩ := ⟨_, rfl⟩
  obtain ⟨T5, hT5⟩ : ∃ T : ByteArray, T = ⟨(textL 5 s).toArray⟩ := ⟨_, rfl⟩
  have s1 : T1.size ≤ 20 := by rw [hT1]; show (numberL 1 n).toArray.size ≤ _; rw [List.size_toArray]; exact numberL_small _ _
  have s2 : T2.size ≤ 84 := by rw [hT2]; show (textL 2 x).toArray.size ≤ _; rw [List.size_toArray]; have := textL_small 2 x; omega
  have s3 : T3.size ≤ 20 := by rw [hT3]; show (numberL 3 q).toArray.size ≤ _; rw [List.size_toArray]; exact numberL_small _ _
  have s4 : T4.size ≤ 20 := by rw [hT4]; show (numberL 4 1).toArray.size ≤ _; rw [List.size_toArray]; exact numberL_small _ _
  have s5 : T5.size ≤ 1044 := by rw [hT5]; show (textL 5 s).toArray.size ≤ _; rw [List.size_toArray]; have := textL_small 5 s; omega
  have HT := Lib.hid (And.intro hT1 (And.intro hT2 (And.intro hT3 (And.intro hT4 hT5)))); clear hT1 hT2 hT3 hT4 hT5
  have HQ := Lib.hid hq; clear hq
  have V0 := Lib.hid (Vx.start (t := (n : Int)) (x := x) (q := (q : Int)) (g := g) (s := s) hg)
  clear hf
  go_enter Tryz.func17, Tryz.ntmps17
  go_wp2_with fail
  refine (right_any (n : Int) x (q : Int) g s _).mono ?_
  rw [HO.out]
  rintro e w1 ⟨rfl, hb1⟩
  have V1 := V0.out.next hb1
  obtain ⟨a0, a1, a2, a3, a4, a5, a6, a7, a8⟩ := id V1
  clear hb1
  have c1 : ¬ 9223372036854775807 < T1.size + T2.size := by omega
  have c2 : ¬ 9223372036854775807 < T1.size + T2.size + T3.size := by omega
  have hwn : IntKind.u64.wrap (n : Int) = (n : Int) := IntWalk.u64_in _ (by omega)
  go_wp2_with fail
  go_region_held3 (fun w' => w'.cell? ⟨w.heap.size, 0, none⟩ = some (.int .i64 (n : Int)) ∧ w'.cell? ⟨w.heap.size, 1, none⟩ = some (.string x) ∧ w'.cell? ⟨w.heap.size, 2, none⟩ = some (.int .u64 (q : Int)) ∧ w'.cell? ⟨w.heap.size, 3, none⟩ = some (.bool g) ∧ w'.cell? ⟨w.heap.size, 4, none⟩ = some (.string s) ∧ w'.cell? ⟨0, 0, none⟩ = some (Tryz.S b) ∧ w.heap.size < w'.heap.size ∧ 0 < w'.heap.size ∧ Below w.heap.size w w')
    (first | exact V1.next ((Below.refl _ _).drew) | go_keep | exact Vx.next (by assumption) (by assumption))
    (first | (go_at_call 32; ((with_reducible refine (number_arg 1 n T1 b _ ?_ ?_ ?_).mono ?_); exact Vx.gv (by assumption); omega; exact HT.out.1); rintro e w' ⟨rfl, hb⟩) | (go_at_call 32; ((with_reducible refine (number_arg 3 q T3 b _ ?_ ?_ ?_).mono ?_); exact Vx.gv (by assumption); exact HQ.out; exact HT.out.2.2.1); rintro e w' ⟨rfl, hb⟩) | (go_at_call 33; ((with_reducible refine (text_arg 2 x T2 b _ ?_ ?_ ?_).mono ?_); exact Vx.gv (by assumption); omega; exact HT.out.2.1); rintro e w' ⟨rfl, hb⟩))
  have V2 : Vx w.heap.size (n : Int) x (q : Int) g s b w _ := ‹_›
  clear c1 c2 hwn V1 a0 a1 a2 a3 a4 a5 a6 a7 a8
  obtain ⟨a0, a1, a2, a3, a4, a5, a6, a7, a8⟩ := id V2
  have hput : (Vr.mk (n : Int) x q g s).put = T1.data.toList ++ T2.data.toList ++ T3.data.toList ++ (if g then T4.data.toList else []) ++ (if s.size = 0 then [] else T5.data.toList) := by
    rw [HT.out.1, HT.out.2.1, HT.out.2.2.1, HT.out.2.2.2.1, HT.out.2.2.2.2]; rfl
  have HP := Lib.hid hput; clear hput
  have fin : ∀ (X : ByteArray), X.data.toList = (Vr.mk (n : Int) x q g s).put → Ending.returned (.tuple #[.string X, .bool true]) = Ending.returned (.tuple #[.string ⟨(Vr.mk (n : Int) x q g s).put.toArray⟩, .bool true]) := by
    intro X hX; rw [← hX, bytes_same]
  have FIN := Lib.hid fin; clear fin
  by_cases hz : s.size = 0
  · have hse : s.toList.isEmpty = true := ck_empty hz
    cases g with
    | false =>
      go_wp2_with fail
      go_ret2
      exact ⟨FIN.out (T1 ++ T2 ++ T3) (by rw [HP.out, if_pos hz]; simp), V2.below⟩
    | true =>
      go_wp2_with fail
      refine (number_arg 4 1 T4 b _ V2.gv (by decide) HT.out.2.2.2.1).mono ?_
      rintro e w4 ⟨rfl, hb4⟩
      have V4 := V2.next hb4
      clear a0 a1 a2 a3 a4 a5 a6 a7 a8
      obtain ⟨a0, a1, a2, a3, a4, a5, a6, a7, a8⟩ := id V4
      go_wp2_with fail
      go_ret2
      exact ⟨FIN.out (T1 ++ T2 ++ T3 ++ T4) (by rw [HP.out, if_pos hz]; simp), V4.below⟩
  · have hse : s.toList.isEmpty = false := ck_full (by omega)
    cases g with
    | false =>
      go_wp2_with fail
      refine (text_arg 5 s T5 b _ V2.gv (by omega) HT.out.2.2.2.2).mono ?_
      rintro e w4 ⟨rfl, hb4⟩
      go_wp2_with fail
      go_ret2
      exact ⟨FIN.out (T1 ++ T2 ++ T3 ++ T5) (by rw [HP.out, if_neg hz]; simp), (V2.next hb4).below⟩
    | true =>
      go_wp2_with fail
      refine (number_arg 4 1 T4 b _ V2.gv (by decide) HT.out.2.2.2.1).mono ?_
      rintro e w4 ⟨rfl, hb4⟩
      have V4 := V2.next hb4
      clear a0 a1 a2 a3 a4 a5 a6 a7 a8
      obtain ⟨a0, a1, a2, a3, a4, a5, a6, a7, a8⟩ := id V4
      go_wp2_with fail
      refine (text_arg 5 s T5 b _ V4.gv (by omega) HT.out.2.2.2.2).mono ?_
      rintro e w5 ⟨rfl, hb5⟩
      go_wp2_with fail
      go_ret2
      exact ⟨FIN.out (T1 ++ T2 ++ T3 ++ T4 ++ T5) (by rw [HP.out, if_neg hz]; simp), (V4.next hb5).below⟩
end Go.Proofs.YtjolgalfjahceaaGreatDoor
