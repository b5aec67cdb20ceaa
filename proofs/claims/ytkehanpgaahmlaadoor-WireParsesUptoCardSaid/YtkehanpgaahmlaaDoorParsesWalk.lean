/- WireParses: the walks. -/
import Derived.Test.YtkehanpgaahmlaaDoorCards
import Derived.Test.YtkehanpgaahmlaaDoorTie
import Derived.Test.YtkehanpgaahmlaaDoorLaid
import Derived.Test.YtkehanpgaahmlaaDoorEx
import Derived.Test.YtkehanpgaahmlaaDoorLists
import Derived.Test.YtkehanpgaahmlaaDoorBend
import Derived.Test.YtkehanpgaahmlaaDoorKeepP
import Derived.Test.YtkehanpgaahmlaaDoorOpen
import Derived.Lib.SmallJoins
import Derived.ChangeArms
namespace Go.Proofs.YtkehanpgaahmlaaDoor.lawParses
open Go.ChangeShapes Go.WideShapes Go.ChangeAt Go.RowKit
open Go.WideMaps Go.WideElems
open Go.ChangeMaps (open_string shut_string)

theorem rowAt_new (W : World) (f : Fd) (t : TypeId) : RowAt (W.alloc (.cells #[.int .i64 f.num, .int .i64 f.kind, .int .u64 f.n, .string ⟨f.s.toArray⟩] t)) W.heap.size [f] := by
  refine ⟨by simp, fun i hi => ?_⟩
  obtain rfl : i = 0 := by simp at hi; omega
  have h := Blk.new W #[.int .i64 f.num, .int .i64 f.kind, .int .u64 f.n, .string ⟨f.s.toArray⟩] t
  exact ⟨h.cell 0, h.cell 1, h.cell 2, h.cell 3⟩
theorem rowAt_mk {W : World} {g : Nat} {f : Fd} (h : g < W.heap.size) (h0 : W.cell? ⟨g, 0, none⟩ = some (.int .i64 f.num)) (h1 : W.cell? ⟨g, 1, none⟩ = some (.int .i64 f.kind)) (h2 : W.cell? ⟨g, 2, none⟩ = some (.int .u64 f.n)) (h3 : W.cell? ⟨g, 3, none⟩ = some (.string ⟨f.s.toArray⟩)) : RowAt W g [f] := by
  refine ⟨h, fun i hi => ?_⟩
  obtain rfl : i = 0 := by simp at hi; omega
  exact ⟨h0, h1, h2, h3⟩
theorem rowAt_alloc {W : World} {g : Nat} {fs : List Fd} (h : RowAt W g fs) (O : Obj) : RowAt (W.alloc O) g fs := h.below ((Below.refl _ _).alloc (Nat.le_refl _) O)
theorem rowAt_drew {W : World} {g : Nat} {fs : List Fd} (h : RowAt W g fs) : RowAt W.drew g fs := h.below (below_drewN (Below.refl _ _) 1)
theorem parse_few (t : ByteArray) : ((parse t.data.toList).getD []).length ≤ t.size := by
  cases h : parse t.data.toList with
  | none => simp
  | some fs =>
    have := parse_len t.data.toList.length (Nat.le_refl _) h
    simpa using this
/-- What the last region carries on: two fields' boxes. -/
def Two (B x y : Nat) (f : Fd) (w0 w' : World) : Prop := RowAt w' x [f] ∧ RowAt w' y [f] ∧ Below B w0 w' ∧ B ≤ w'.heap.size
theorem Two.next {B x y : Nat} {f : Fd} {w0 wc w' : World} (h : Two B x y f w0 wc) (hb : Below wc.heap.size wc w') : Two B x y f w0 w' :=
  ⟨h.1.below hb, h.2.1.below hb, h.2.2.1.trans (hb.mono h.2.2.2), Nat.le_trans h.2.2.2 hb.size⟩

theorem two_S {B x y : Nat} {f : Fd} {w0 w' : World} (h : Two B x y f w0 w') : w'.cell? ⟨x, 0, none⟩ = some (.int .i64 f.num) ∧ w'.cell? ⟨x, 1, none⟩ = some (.int .i64 f.kind) ∧ w'.cell? ⟨x, 2, none⟩ = some (.int .u64 f.n) ∧ w'.cell? ⟨x, 3, none⟩ = some (.string ⟨f.s.toArray⟩) ∧ w'.cell? ⟨y, 0, none⟩ = some (.int .i64 f.num) ∧ w'.cell? ⟨y, 1, none⟩ = some (.int .i64 f.kind) ∧ w'.cell? ⟨y, 2, none⟩ = some (.int .u64 f.n) ∧ w'.cell? ⟨y, 3, none⟩ = some (.string ⟨f.s.toArray⟩) ∧ Two B x y f w0 w' := by
  obtain ⟨x0, x1, x2, x3⟩ := h.1.2 0 (by simp)
  obtain ⟨y0, y1, y2, y3⟩ := h.2.1.2 0 (by simp)
  simp only [List.getElem_cons_zero, Nat.zero_mul, Nat.zero_add] at x0 x1 x2 x3 y0 y1 y2 y3
  exact ⟨x0, x1, x2, x3, y0, y1, y2, y3, h⟩
theorem two_of {A1 A2 A3 A4 A5 A6 A7 A8 T : Prop} (h : A1 ∧ A2 ∧ A3 ∧ A4 ∧ A5 ∧ A6 ∧ A7 ∧ A8 ∧ T) : T := h.2.2.2.2.2.2.2.2

set_option maxRecDepth 100000 in
set_option maxHeartbeats 4000000 in
theorem walk_text (a0 : Option Addr) (L cap : Nat) (s : ByteArray) (p : Int) (y : Nat) (num : Int) (b : Addr) (w : World) (hg : Gv b w) (hs : s.size ≤ 1099511627776) :
    Calls Tryd.prog 5 #[.slice a0 L cap, .string s, .bool false, .int .i64 p, .int .u8 y, .int .i64 num] w fun e w' => e = .returned (.bool true) ∧ Below w.heap.size w w' := by
  obtain ⟨fs, hfs⟩ : ∃ fs, (parse s.data.toList).getD [] = fs := ⟨_, rfl⟩
  obtain ⟨n, hn⟩ : ∃ n, fs.length = n := ⟨_, rfl⟩
  obtain ⟨o, ho⟩ : ∃ o, (parse s.data.toList).isSome = o := ⟨_, rfl⟩
  obtain ⟨Q, hQ⟩ : ∃ Q, withL num fs = Q := ⟨_, rfl⟩
  obtain ⟨q, hq⟩ : ∃ q, Q.length = q := ⟨_, rfl⟩
  obtain ⟨lo, hlo⟩ : ∃ lo, (!Q.isEmpty) = lo := ⟨_, rfl⟩
  obtain ⟨f, hf⟩ := lastCells_fd Q
  have hnb : n ≤ 1099511627776 := by have := parse_few s; rw [hfs, hn] at this; omega
  have hqb : q ≤ 1099511627776 := by have := List.length_filter_le (hasNum num) fs; unfold withL at hQ; rw [hQ, hq, hn] at this; omega
  have HFS := Lib.hid hfs; clear hfs
  have HN := Lib.hid hn; clear hn
  have HO := Lib.hid ho; clear ho
  have HQ := Lib.hid hQ; clear hQ
  have Hq := Lib.hid hq; clear hq
  have HLO := Lib.hid hlo; clear hlo
  have HF := Lib.hid hf; clear hf
  have HSS := Lib.hid hs; clear hs
  go_enter Tryd.func5, Tryd.ntmps5
  go_wp2_with fail
  refine (examples_any b _ hg).mono ?_
  rintro e w0 ⟨rfl, hb0⟩
  have hg0 := hg.below hb0
  have HB0 := Lib.hid hb0; clear hb0
  go_wp2_with fail
  refine (parse_l s b _ HSS.out hg0 fs n o HN.out HFS.out HO.out).mono ?_
  rintro e w2 ⟨⟨a1, g1, c1, rfl, ha1, r1⟩, hb2⟩
  have hz2 : 0 < w2.heap.size := Nat.lt_of_lt_of_le hg0.2 hb2.size
  have HB2 := Lib.hid (HB0.out.trans (hb2.mono HB0.out.size))
  have HA1 := Lib.hid ha1; clear ha1 hb2
  have R1 := Lib.hid r1; clear r1
  go_wp2_with fail
  refine (refParse_l s _ HSS.out hz2 fs n o HN.out HFS.out HO.out).mono ?_
  rintro e w3 ⟨⟨a2, g2, c2, rfl, ha2, r2⟩, hb3⟩
  have HB3 := Lib.hid (HB2.out.trans (hb3.mono HB2.out.size))
  have HA2 := Lib.hid ha2; clear ha2
  have R1 := Lib.hid (R1.out.below hb3)
  have R2 := Lib.hid r2; clear r2 hb3 hz2
  go_wp2_with fail
  refine (ref_l a1 n c1 g1 fs _ HN.out HA1.out R1.out hnb).mono ?_
  rintro e w4 ⟨⟨a3, g3, c3, rfl, ha3, r3⟩, hb4⟩
  have HB4 := Lib.hid (HB3.out.trans (hb4.mono HB3.out.size))
  have HA3 := Lib.hid ha3; clear ha3
  have R1 := Lib.hid (R1.out.below hb4)
  have R2 := Lib.hid (R2.out.below hb4)
  have R3 := Lib.hid r3; clear r3 hb4
  go_wp2_with fail
  refine (same_any a3 a2 n c3 c2 g3 g2 fs _ HN.out HA3.out HA2.out R3.out R2.out hnb).mono ?_
  rintro e w5 ⟨rfl, hb5⟩
  have HB5 := Lib.hid (HB4.out.trans (hb5.mono HB4.out.size))
  have R1 := Lib.hid (R1.out.below hb5)
  have R2 := Lib.hid (R2.out.below hb5)
  clear hb5 R3 HA3
  go_wp2_with fail
  refine (last_l a1 n c1 g1 fs Q f lo num _ HN.out HA1.out R1.out hnb HQ.out HF.out HLO.out).mono ?_
  rintro e w6 ⟨rfl, hb6⟩
  have HB6 := Lib.hid ((HB5.out.trans (hb6.mono HB5.out.size)).alloc (Nat.le_trans HB5.out.size hb6.size) (.cells #[.int .i64 f.num, .int .i64 f.kind, .int .u64 f.n, .string ⟨f.s.toArray⟩] 29))
  have R1 := Lib.hid (rowAt_alloc (R1.out.below hb6) (.cells #[.int .i64 f.num, .int .i64 f.kind, .int .u64 f.n, .string ⟨f.s.toArray⟩] 29))
  have R2 := Lib.hid (rowAt_alloc (R2.out.below hb6) (.cells #[.int .i64 f.num, .int .i64 f.kind, .int .u64 f.n, .string ⟨f.s.toArray⟩] 29))
  have X := Lib.hid (rowAt_new w6 f 29)
  clear hb6
  go_wp2_with fail
  refine (refLast_l a2 n c2 g2 fs Q f lo num _ HN.out HA2.out R2.out hnb HQ.out HF.out HLO.out).mono ?_
  rintro e w7 ⟨rfl, hb7⟩
  have HB7 := Lib.hid ((HB6.out.trans (hb7.mono HB6.out.size)).alloc (Nat.le_trans HB6.out.size hb7.size) (.cells #[.int .i64 f.num, .int .i64 f.kind, .int .u64 f.n, .string ⟨f.s.toArray⟩] 33))
  have R1 := Lib.hid (rowAt_alloc (R1.out.below hb7) (.cells #[.int .i64 f.num, .int .i64 f.kind, .int .u64 f.n, .string ⟨f.s.toArray⟩] 33))
  have R2 := Lib.hid (rowAt_alloc (R2.out.below hb7) (.cells #[.int .i64 f.num, .int .i64 f.kind, .int .u64 f.n, .string ⟨f.s.toArray⟩] 33))
  have X := Lib.hid (rowAt_alloc (X.out.below hb7) (.cells #[.int .i64 f.num, .int .i64 f.kind, .int .u64 f.n, .string ⟨f.s.toArray⟩] 33))
  have Y := Lib.hid (rowAt_new w7 f 33)
  clear hb7
  go_wp2_with fail
  refine (all_l a1 n c1 g1 fs Q q num _ HN.out HA1.out R1.out hnb HQ.out Hq.out).mono ?_
  rintro e w8 ⟨⟨a4, g4, c4, rfl, ha4, r4⟩, hb8⟩
  have HB8 := Lib.hid (HB7.out.trans (hb8.mono HB7.out.size))
  have HA4 := Lib.hid ha4; clear ha4
  have R2 := Lib.hid (R2.out.below hb8)
  have X := Lib.hid (X.out.below hb8)
  have Y := Lib.hid (Y.out.below hb8)
  have R4 := Lib.hid r4; clear r4 hb8 R1
  go_wp2_with fail
  refine (ref_l a4 q c4 g4 Q _ Hq.out HA4.out R4.out hqb).mono ?_
  rintro e w9 ⟨⟨a5, g5, c5, rfl, ha5, r5⟩, hb9⟩
  have HB9 := Lib.hid (HB8.out.trans (hb9.mono HB8.out.size))
  have HA5 := Lib.hid ha5; clear ha5
  have R2 := Lib.hid (R2.out.below hb9)
  have X := Lib.hid (X.out.below hb9)
  have Y := Lib.hid (Y.out.below hb9)
  have R5 := Lib.hid r5; clear r5 hb9 R4 HA4
  go_wp2_with fail
  refine (refAll_l a2 n c2 g2 fs Q q num _ HN.out HA2.out R2.out hnb HQ.out Hq.out).mono ?_
  rintro e w10 ⟨⟨a6, g6, c6, rfl, ha6, r6⟩, hb10⟩
  have HB10 := Lib.hid (HB9.out.trans (hb10.mono HB9.out.size))
  have HA6 := Lib.hid ha6; clear ha6
  have X := Lib.hid (X.out.below hb10)
  have Y := Lib.hid (Y.out.below hb10)
  have R5 := Lib.hid (R5.out.below hb10)
  have R6 := Lib.hid r6; clear r6 hb10 R2
  go_wp2_with fail
  refine (same_any a5 a6 q c5 c6 g5 g6 Q _ Hq.out HA5.out HA6.out R5.out R6.out hqb).mono ?_
  rintro e w11 ⟨rfl, hb11⟩
  have T2 : Two w.heap.size w6.heap.size w7.heap.size f w w11 := ⟨X.out.below hb11, Y.out.below hb11, HB10.out.trans (hb11.mono HB10.out.size), Nat.le_trans HB10.out.size hb11.size⟩
  clear hb11 X Y R5 R6 HA5 HA6 HB2 HB3 HB4 HB5 HB6 HB7 HB8 HB9 HB10 HA1 HA2
  have HT2 := Lib.hid T2; clear T2
  obtain ⟨x0, x1, x2, x3⟩ := HT2.out.1.2 0 (by simp)
  obtain ⟨y0, y1, y2, y3⟩ := HT2.out.2.1.2 0 (by simp)
  simp only [List.getElem_cons_zero, Nat.zero_mul, Nat.zero_add] at x0 x1 x2 x3 y0 y1 y2 y3
  go_wp2_with fail
  go_region_held3 (fun w' => w'.cell? ⟨w6.heap.size, 0, none⟩ = some (.int .i64 f.num) ∧ w'.cell? ⟨w6.heap.size, 1, none⟩ = some (.int .i64 f.kind) ∧ w'.cell? ⟨w6.heap.size, 2, none⟩ = some (.int .u64 f.n) ∧ w'.cell? ⟨w6.heap.size, 3, none⟩ = some (.string ⟨f.s.toArray⟩) ∧ w'.cell? ⟨w7.heap.size, 0, none⟩ = some (.int .i64 f.num) ∧ w'.cell? ⟨w7.heap.size, 1, none⟩ = some (.int .i64 f.kind) ∧ w'.cell? ⟨w7.heap.size, 2, none⟩ = some (.int .u64 f.n) ∧ w'.cell? ⟨w7.heap.size, 3, none⟩ = some (.string ⟨f.s.toArray⟩) ∧ Two w.heap.size w6.heap.size w7.heap.size f w w')
    (first
      | exact two_S HT2.out | exact two_S (HT2.out.next (below_drewN (Below.refl _ _) 1))
      | exact two_S (Two.next (two_of (by assumption)) ((Below.refl _ _).alloc (Nat.le_refl _) _))
      | exact two_S (Two.next (two_of (by assumption)) hb13) | exact two_S (Two.next (two_of (by assumption)) hb12) | go_keep)
    (first
      | (go_at_call 18; (with_reducible refine (ref_l _ 1 1 _ [f] _ rfl (fun _ => rfl) ?_ (by omega)).mono ?_); (first | exact rowAt_new _ f _ | exact rowAt_alloc (rowAt_new _ f _) _ | (refine rowAt_mk ?_ ?_ ?_ ?_ ?_ <;> first | (simp; done) | (simp; omega))); rintro e w12 ⟨⟨a7, g7, c7, rfl, ha7, r7⟩, hb12⟩; obtain rfl := ha7 (by omega); clear ha7)
      | (go_at_call 26; (with_reducible refine (same_any _ _ 1 c7 1 g7 _ [f] _ rfl (fun _ => rfl) (fun _ => rfl) ?_ ?_ (by omega)).mono ?_)
         ; (first | exact r7 | exact rowAt_alloc r7 _)
         ; (first | exact rowAt_new _ f _ | exact (rowAt_alloc (rowAt_new _ f _) _).below hb12 | (refine RowAt.below ?_ hb12; refine rowAt_mk ?_ ?_ ?_ ?_ ?_ <;> first | (simp; done) | (simp; omega)))
         ; rintro e w13 ⟨rfl, hb13⟩))
  all_goals
    have HT3 := Lib.hid (show Below w.heap.size w w13 from (two_of (T := Two w.heap.size w6.heap.size w7.heap.size f w w13) (by assumption)).2.2.1)
    have jo : (o == o) = true := by simp
    have jl : (lo == lo) = true := by simp
    go_wp2
    go_ret
    exact ⟨rfl, HT3.out⟩
end Go.Proofs.YtkehanpgaahmlaaDoor.lawParses
