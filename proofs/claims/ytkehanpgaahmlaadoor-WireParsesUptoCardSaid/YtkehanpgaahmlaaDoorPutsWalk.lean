/- WirePuts: the walks. -/
import Derived.Test.YtkehanpgaahmlaaDoorCards
import Derived.Test.YtkehanpgaahmlaaDoorTie
import Derived.Test.YtkehanpgaahmlaaDoorLaid
import Derived.Test.YtkehanpgaahmlaaDoorEx
import Derived.Test.YtkehanpgaahmlaaDoorRefPut
import Derived.Test.YtkehanpgaahmlaaDoorRef
import Derived.Test.YtkehanpgaahmlaaDoorKeepP
import Derived.Test.YtkehanpgaahmlaaDoorOpen
import Derived.Lib.SmallJoins
import Derived.ChangeArms
namespace Go.Proofs.YtkehanpgaahmlaaDoor.lawPuts
open Go.ChangeShapes Go.WideShapes Go.ChangeAt Go.RowKit
open Go.WideMaps Go.WideElems
open Go.ChangeMaps (open_string shut_string)

theorem put_ok (num kind : Int) (n : Nat) (s : ByteArray) (b : Addr) (w : World) (hg : Gv b w) (hn : n < 2 ^ 64) (hs : s.size ≤ 140737488355328) (ho : okF num kind n s = true) :
    Calls Tryd.prog 16 #[fdV num kind n s] w fun e w' => e = .returned (.tuple #[.string ⟨(putL num kind n s).toArray⟩, .bool true]) ∧ Below w.heap.size w w' := by
  obtain ⟨h1, h2, h3, h4⟩ := okF_facts ho
  obtain ⟨l1, l2⟩ := numB_range h1
  rcases kindB_cases h2 with rfl | rfl | rfl | rfl
  · exact put_ok0 num n s b w hg hn hs l1 l2 ho
  · exact put_ok1 num n s b w hg hn hs l1 l2 ho
  · exact put_ok2 num n s b w hg hn hs l1 l2 ho
  · exact put_ok5 num n s b w hg hn hs l1 l2 ho
/-- What is put, and whether. -/
def putB (num kind : Int) (n : Nat) (s : ByteArray) : ByteArray := if okF num kind n s then ⟨(putL num kind n s).toArray⟩ else ⟨#[]⟩
theorem put_any (num kind : Int) (n : Nat) (s P : ByteArray) (o : Bool) (b : Addr) (w : World) (hg : Gv b w) (hn : n < 2 ^ 64) (hs : s.size ≤ 140737488355328) (hP : putB num kind n s = P) (ho : okF num kind n s = o) :
    Calls Tryd.prog 16 #[fdV num kind n s] w fun e w' => e = .returned (.tuple #[.string P, .bool o]) ∧ Below w.heap.size w w' := by
  subst hP
  cases o with
  | true => simp only [putB, ho, if_true]; exact put_ok num kind n s b w hg hn hs ho
  | false => simp only [putB, ho]; exact put_no num kind n s b w hg ho
theorem refPut_any (num kind : Int) (n : Nat) (s P : ByteArray) (o : Bool) (w : World) (hn : n < 2 ^ 64) (hs : s.size ≤ 140737488355328) (hP : putB num kind n s = P) (ho : okF num kind n s = o) :
    Calls Tryd.prog 17 #[fdV num kind n s] w fun e w' => e = .returned (.tuple #[.string P, .bool o]) ∧ Below w.heap.size w w' := by
  subst hP
  cases o with
  | true => simp only [putB, ho, if_true]; exact refPut_ok num kind n s w hn hs ho
  | false => simp only [putB, ho]; exact refPut_no num kind n s w ho

theorem bx_start (num kind : Int) (n : Nat) (s : ByteArray) (b : Addr) (w : World) (hg : Gv b w) :
    Bx w.heap.size num kind n s b w (w.alloc (.cells #[.int .i64 num, .int .i64 kind, .int .u64 n, .string s] 29)) := by
  have h := (Below.refl w.heap.size w).alloc (Nat.le_refl _) (.cells #[.int .i64 num, .int .i64 kind, .int .u64 n, .string s] 29)
  exact ⟨by simp, by simp, by simp, by simp, (hg.below h).1, by simp, by simp, h⟩
theorem rowG_new (W : World) (f : Gd) (t : TypeId) : RowG (W.alloc (.cells #[.int .i64 f.num, .int .i64 f.kind, .int .u64 f.n, .string f.s] t)) W.heap.size [f] := by
  refine ⟨by simp, fun i hi => ?_⟩
  obtain rfl : i = 0 := by simp at hi; omega
  refine ⟨?_, ?_, ?_, ?_⟩ <;> (rw [World.cell?_alloc_mark]; rfl)
theorem own_some {W : World} {base : Nat} {e : TypeId} {size n : Nat} {v : Value} {xs : List Value} (h : W.ownsRow base e size v n xs) (h0 : 0 < n) : ∃ g c, v = .slice (some ⟨g, 0, none⟩) n c := by
  rcases h.2 with ⟨_, h1⟩ | ⟨g, cap, cur, hv, _⟩
  · omega
  · exact ⟨g, cap, hv⟩

theorem bx_drew {B : Nat} {num kind : Int} {n : Nat} {s : ByteArray} {b : Addr} {w0 w' : World} (h : Bx B num kind n s b w0 w') : Bx B num kind n s b w0 w'.drew := by
  obtain ⟨h0, h1, h2, h3, h4, h5, h6, h7⟩ := h
  exact ⟨h0, h1, h2, h3, h4, h5, h6, below_drewN h7 1⟩

/-- Changes of the box. -/
theorem bx_set0 {B : Nat} {num kind : Int} {n : Nat} {s : ByteArray} {b : Addr} {w0 W : World} (h : Bx B num kind n s b w0 W) (_hB : 0 < B) (x : Int) : Bx B x kind n s b w0 (W.setCell ⟨B, 0, none⟩ (.int .i64 x)) := by
  obtain ⟨h0, h1, h2, h3, h4, h5, h6, h7⟩ := h
  refine ⟨World.cell?_setCell_same _ _ _ h0, ?_, ?_, ?_, ?_, by simpa using h5, by simpa using h6, h7.setCell (p := ⟨B, 0, none⟩) (Nat.le_refl _) _⟩
  · rw [World.cell?_setCell_other _ _ _ _ (by simp)]; exact h1
  · rw [World.cell?_setCell_other _ _ _ _ (by simp)]; exact h2
  · rw [World.cell?_setCell_other _ _ _ _ (by simp)]; exact h3
  · rw [World.cell?_setCell_other _ _ _ _ (by simp <;> omega)]; exact h4
theorem bx_set1 {B : Nat} {num kind : Int} {n : Nat} {s : ByteArray} {b : Addr} {w0 W : World} (h : Bx B num kind n s b w0 W) (_hB : 0 < B) (x : Int) : Bx B num x n s b w0 (W.setCell ⟨B, 1, none⟩ (.int .i64 x)) := by
  obtain ⟨h0, h1, h2, h3, h4, h5, h6, h7⟩ := h
  refine ⟨?_, World.cell?_setCell_same _ _ _ h1, ?_, ?_, ?_, by simpa using h5, by simpa using h6, h7.setCell (p := ⟨B, 1, none⟩) (Nat.le_refl _) _⟩
  · rw [World.cell?_setCell_other _ _ _ _ (by simp)]; exact h0
  · rw [World.cell?_setCell_other _ _ _ _ (by simp)]; exact h2
  · rw [World.cell?_setCell_other _ _ _ _ (by simp)]; exact h3
  · rw [World.cell?_setCell_other _ _ _ _ (by simp <;> omega)]; exact h4
theorem bx_set2 {B : Nat} {num kind : Int} {n : Nat} {s : ByteArray} {b : Addr} {w0 W : World} (h : Bx B num kind n s b w0 W) (_hB : 0 < B) (x : Nat) : Bx B num kind x s b w0 (W.setCell ⟨B, 2, none⟩ (.int .u64 x)) := by
  obtain ⟨h0, h1, h2, h3, h4, h5, h6, h7⟩ := h
  refine ⟨?_, ?_, World.cell?_setCell_same _ _ _ h2, ?_, ?_, by simpa using h5, by simpa using h6, h7.setCell (p := ⟨B, 2, none⟩) (Nat.le_refl _) _⟩
  · rw [World.cell?_setCell_other _ _ _ _ (by simp)]; exact h0
  · rw [World.cell?_setCell_other _ _ _ _ (by simp)]; exact h1
  · rw [World.cell?_setCell_other _ _ _ _ (by simp)]; exact h3
  · rw [World.cell?_setCell_other _ _ _ _ (by simp <;> omega)]; exact h4

set_option maxRecDepth 100000 in
set_option maxHeartbeats 2000000 in
theorem walk_far (num kind : Int) (n : Nat) (s : ByteArray) (b : Addr) (w : World) (hg : Gv b w) (hn : n < 2 ^ 64) (hs : s.size ≤ 140737488355328) :
    Calls Tryd.prog 4 #[fdV num kind n s, .bool false] w fun e w' => e = .returned (.bool true) ∧ Below w.heap.size w w' := by
  have HN := Lib.hid hn; clear hn
  have HS := Lib.hid hs; clear hs
  have hbx := bx_start num kind n s b w hg
  have HX := Lib.hid hbx; clear hbx
  obtain ⟨P, hP⟩ : ∃ P, putB num kind n s = P := ⟨_, rfl⟩
  obtain ⟨o, ho⟩ : ∃ o, okF num kind n s = o := ⟨_, rfl⟩
  obtain ⟨A, hA⟩ : ∃ A : ByteArray, A = ⟨(numberL num n).toArray⟩ := ⟨_, rfl⟩
  obtain ⟨T, hT⟩ : ∃ T : ByteArray, T = ⟨(textL num s).toArray⟩ := ⟨_, rfl⟩
  have HP := Lib.hid hP; clear hP
  have HO := Lib.hid ho; clear ho
  have HA := Lib.hid hA; clear hA
  have HT := Lib.hid hT; clear hT
  go_enter Tryd.func4, Tryd.ntmps4
  go_wp2_with fail
  refine (examples_any b _ HX.out.gv).mono ?_
  rintro e w1 ⟨rfl, hb1⟩
  have H1 := HX.out.next hb1
  clear hb1
  obtain ⟨c0, c1, c2, c3, c4, c5, c6, c7⟩ := id H1
  go_wp2_with fail
  refine (put_any num kind n s P o b _ H1.gv HN.out HS.out HP.out HO.out).mono ?_
  rintro e w2 ⟨rfl, hb2⟩
  have H2 := H1.next hb2
  clear hb2 c0 c1 c2 c3 c4 c5 c6 c7
  obtain ⟨c0, c1, c2, c3, c4, c5, c6, c7⟩ := id H2
  go_wp2_with fail
  refine (ref_any _ 1 1 w2.heap.size [⟨num, kind, n, s⟩] _ rfl (fun _ => rfl) (rowG_new w2 ⟨num, kind, n, s⟩ _) (by omega)).mono ?_
  rintro e w3 ⟨⟨v, rfl, ho3⟩, hb3⟩
  obtain ⟨g3, cc3, rfl⟩ := own_some ho3 (by omega)
  obtain ⟨hl3, hr3⟩ := rowG_of ho3 rfl
  obtain ⟨r0, r1, r2, r3⟩ := hr3 0 (by simp)
  simp only [List.getElem_cons_zero, Nat.zero_mul, Nat.zero_add] at r0 r1 r2 r3
  have H3 := (H2.next ((Below.refl _ _).alloc (Nat.le_refl _) (.cells #[.int .i64 num, .int .i64 kind, .int .u64 (n : Nat), .string s] 29))).next hb3
  clear hb3 hr3 ho3 c0 c1 c2 c3 c4 c5 c6 c7
  go_wp2_with fail
  refine (refPut_any num kind n s P o _ HN.out HS.out HP.out HO.out).mono ?_
  rintro e w4 ⟨rfl, hb4⟩
  have H4 := H3.next hb4
  clear hb4 r0 r1 r2 r3 hl3
  have H4' := Lib.hid H4
  have j1 : (P.toList == P.toList) = true := by simp
  have j2 : (o == o) = true := by simp
  go_wp2_with fail
  go_region_held3 (fun w' => w'.cell? ⟨w.heap.size, 0, none⟩ = some (.int .i64 num) ∧ w'.cell? ⟨w.heap.size, 1, none⟩ = some (.int .i64 kind) ∧ w'.cell? ⟨w.heap.size, 2, none⟩ = some (.int .u64 (n : Nat)) ∧ w'.cell? ⟨w.heap.size, 3, none⟩ = some (.string s) ∧ w'.cell? ⟨0, 0, none⟩ = some (Tryd.S b) ∧ w.heap.size < w'.heap.size ∧ 0 < w'.heap.size ∧ Below w.heap.size w w')
    (first | exact H4'.out | exact bx_drew H4'.out | (refine Bx.next (B := w.heap.size) (num := num) (kind := kind) (n := n) (s := s) (b := b) (w0 := w) ?_ hb; first | exact H4'.out | exact bx_drew H4'.out | assumption) | go_keep)
    (first
      | (go_at_call 19; (with_reducible refine (number_any num n b _ ?_ HN.out).mono ?_); (first | exact H4'.out.gv | exact (bx_drew H4'.out).gv | exact Bx.gv (B := w.heap.size) (num := num) (kind := kind) (n := n) (s := s) (b := b) (w0 := w) (by assumption)); rw [← HA.out]; rintro e w' ⟨rfl, hb⟩)
      | (go_at_call 20; (with_reducible refine (refNumber_any num n _ HN.out).mono ?_); rw [← HA.out]; rintro e w' ⟨rfl, hb⟩)
      | (go_at_call 21; (with_reducible refine (text_any num s b _ ?_ HS.out).mono ?_); (first | exact H4'.out.gv | exact (bx_drew H4'.out).gv | exact Bx.gv (B := w.heap.size) (num := num) (kind := kind) (n := n) (s := s) (b := b) (w0 := w) (by assumption)); rw [← HT.out]; rintro e w' ⟨rfl, hb⟩)
      | (go_at_call 22; (with_reducible refine (refText_any num s _ HS.out).mono ?_); rw [← HT.out]; rintro e w' ⟨rfl, hb⟩))
  have H5 : Bx w.heap.size num kind n s b w _ := ‹_›
  have H6 := Lib.hid H5.below
  go_wp2
  go_ret
  exact ⟨rfl, H6.out⟩

set_option maxRecDepth 100000 in
set_option maxHeartbeats 2000000 in
theorem walk_cut (num kind : Int) (n : Nat) (s : ByteArray) (b : Addr) (w : World) (hg : Gv b w) (hn : n < 2 ^ 64) (hs : s.size ≤ 140737488355328) (hk : ¬ kind.tmod 7 = 0) (h4 : 0 < n % 4) :
    Calls Tryd.prog 4 #[fdV num kind n s, .bool true] w fun e w' => e = .returned (.bool true) ∧ Below w.heap.size w w' := by
  obtain ⟨N', hN'⟩ : ∃ x, num.tmod 40 = x := ⟨_, rfl⟩
  obtain ⟨K', hK'⟩ : ∃ x, kind.tmod 7 = x := ⟨_, rfl⟩
  rw [hK'] at hk
  have g1 : (K' != 0) = true := by simp [hk]
  have g2 : decide (0 < (n : Int) % 4) = true := by simp; omega
  clear hk h4
  have HN := Lib.hid hn; clear hn
  have HS := Lib.hid hs; clear hs
  have hbx := bx_start num kind n s b w hg
  have HX := Lib.hid hbx; clear hbx
  have HN0 := HN
  clear HN
  have HN := Lib.hid (show (0 : Nat) < 2 ^ 64 by decide)
  obtain ⟨P, hP⟩ : ∃ P, putB N' K' 0 s = P := ⟨_, rfl⟩
  obtain ⟨o, ho⟩ : ∃ o, okF N' K' 0 s = o := ⟨_, rfl⟩
  obtain ⟨A, hA⟩ : ∃ A : ByteArray, A = ⟨(numberL N' 0).toArray⟩ := ⟨_, rfl⟩
  obtain ⟨T, hT⟩ : ∃ T : ByteArray, T = ⟨(textL N' s).toArray⟩ := ⟨_, rfl⟩
  have HP := Lib.hid hP; clear hP
  have HO := Lib.hid ho; clear ho
  have HA := Lib.hid hA; clear hA
  have HT := Lib.hid hT; clear hT
  go_enter Tryd.func4, Tryd.ntmps4
  go_wp2_with fail
  refine (examples_any b _ HX.out.gv).mono ?_
  rintro e w1 ⟨rfl, hb1⟩
  have H1 := HX.out.next hb1
  have f0 : w1.frozen? ⟨w.heap.size, 0, none⟩ = false := (hb1.frozen (p := ⟨w.heap.size, 0, none⟩) (by simp)).trans (by simp)
  have f1 : w1.frozen? ⟨w.heap.size, 1, none⟩ = false := (hb1.frozen (p := ⟨w.heap.size, 1, none⟩) (by simp)).trans (by simp)
  have f2 : w1.frozen? ⟨w.heap.size, 2, none⟩ = false := (hb1.frozen (p := ⟨w.heap.size, 2, none⟩) (by simp)).trans (by simp)
  clear hb1
  have HF := Lib.hid (bx_set2 (bx_set1 (bx_set0 H1 hg.2 N') hg.2 K') hg.2 0)
  obtain ⟨c0, c1, c2, c3, c4, c5, c6, c7⟩ := id H1
  go_wp2_with fail
  clear H1 f0 f1 f2
  have H1 := HF.out
  refine (put_any N' K' 0 s P o b _ H1.gv HN.out HS.out HP.out HO.out).mono ?_
  rintro e w2 ⟨rfl, hb2⟩
  have H2 := H1.next hb2
  clear hb2 c0 c1 c2 c3 c4 c5 c6 c7
  obtain ⟨c0, c1, c2, c3, c4, c5, c6, c7⟩ := id H2
  go_wp2_with fail
  refine (ref_any _ 1 1 w2.heap.size [⟨N', K', 0, s⟩] _ rfl (fun _ => rfl) (rowG_new w2 ⟨N', K', 0, s⟩ _) (by omega)).mono ?_
  rintro e w3 ⟨⟨v, rfl, ho3⟩, hb3⟩
  obtain ⟨g3, cc3, rfl⟩ := own_some ho3 (by omega)
  obtain ⟨hl3, hr3⟩ := rowG_of ho3 rfl
  obtain ⟨r0, r1, r2, r3⟩ := hr3 0 (by simp)
  simp only [List.getElem_cons_zero, Nat.zero_mul, Nat.zero_add] at r0 r1 r2 r3
  have H3 := (H2.next ((Below.refl _ _).alloc (Nat.le_refl _) (.cells #[.int .i64 N', .int .i64 K', .int .u64 0, .string s] 29))).next hb3
  clear hb3 hr3 ho3 c0 c1 c2 c3 c4 c5 c6 c7
  go_wp2_with fail
  refine (refPut_any N' K' 0 s P o _ HN.out HS.out HP.out HO.out).mono ?_
  rintro e w4 ⟨rfl, hb4⟩
  have H4 := H3.next hb4
  clear hb4 r0 r1 r2 r3 hl3
  have H4' := Lib.hid H4
  have j1 : (P.toList == P.toList) = true := by simp
  have j2 : (o == o) = true := by simp
  go_wp2_with fail
  go_region_held3 (fun w' => w'.cell? ⟨w.heap.size, 0, none⟩ = some (.int .i64 N') ∧ w'.cell? ⟨w.heap.size, 1, none⟩ = some (.int .i64 K') ∧ w'.cell? ⟨w.heap.size, 2, none⟩ = some (.int .u64 0) ∧ w'.cell? ⟨w.heap.size, 3, none⟩ = some (.string s) ∧ w'.cell? ⟨0, 0, none⟩ = some (Tryd.S b) ∧ w.heap.size < w'.heap.size ∧ 0 < w'.heap.size ∧ Below w.heap.size w w')
    (first | exact H4'.out | exact bx_drew H4'.out | (refine Bx.next (B := w.heap.size) (num := N') (kind := K') (n := 0) (s := s) (b := b) (w0 := w) ?_ hb; first | exact H4'.out | exact bx_drew H4'.out | assumption) | go_keep)
    (first
      | (go_at_call 19; (refine (number_any N' 0 b _ ?_ HN.out).mono ?_); (first | exact H4'.out.gv | exact (bx_drew H4'.out).gv | exact Bx.gv (B := w.heap.size) (num := N') (kind := K') (n := 0) (s := s) (b := b) (w0 := w) (by assumption)); rw [← HA.out]; rintro e w' ⟨rfl, hb⟩)
      | (go_at_call 20; (refine (refNumber_any N' 0 _ HN.out).mono ?_); rw [← HA.out]; rintro e w' ⟨rfl, hb⟩)
      | (go_at_call 21; (refine (text_any N' s b _ ?_ HS.out).mono ?_); (first | exact H4'.out.gv | exact (bx_drew H4'.out).gv | exact Bx.gv (B := w.heap.size) (num := N') (kind := K') (n := 0) (s := s) (b := b) (w0 := w) (by assumption)); rw [← HT.out]; rintro e w' ⟨rfl, hb⟩)
      | (go_at_call 22; (refine (refText_any N' s _ HS.out).mono ?_); rw [← HT.out]; rintro e w' ⟨rfl, hb⟩))
  have H5 : Bx w.heap.size N' K' 0 s b w _ := ‹_›
  have H6 := Lib.hid H5.below
  go_wp2
  go_ret
  exact ⟨rfl, H6.out⟩

set_option maxRecDepth 100000 in
set_option maxHeartbeats 2000000 in
theorem walk_kind0 (num kind : Int) (n : Nat) (s : ByteArray) (b : Addr) (w : World) (hg : Gv b w) (hn : n < 2 ^ 64) (hs : s.size ≤ 140737488355328) (hk : kind.tmod 7 = 0) :
    Calls Tryd.prog 4 #[fdV num kind n s, .bool true] w fun e w' => e = .returned (.bool true) ∧ Below w.heap.size w w' := by
  obtain ⟨N', hN'⟩ : ∃ x, num.tmod 40 = x := ⟨_, rfl⟩
  obtain ⟨K', hK'⟩ : ∃ x, kind.tmod 7 = x := ⟨_, rfl⟩
  rw [hK'] at hk
  have g1 : (K' != 0) = false := by simp [hk]
  clear hk
  have HN := Lib.hid hn; clear hn
  have HS := Lib.hid hs; clear hs
  have hbx := bx_start num kind n s b w hg
  have HX := Lib.hid hbx; clear hbx
  obtain ⟨P, hP⟩ : ∃ P, putB N' K' n s = P := ⟨_, rfl⟩
  obtain ⟨o, ho⟩ : ∃ o, okF N' K' n s = o := ⟨_, rfl⟩
  obtain ⟨A, hA⟩ : ∃ A : ByteArray, A = ⟨(numberL N' n).toArray⟩ := ⟨_, rfl⟩
  obtain ⟨T, hT⟩ : ∃ T : ByteArray, T = ⟨(textL N' s).toArray⟩ := ⟨_, rfl⟩
  have HP := Lib.hid hP; clear hP
  have HO := Lib.hid ho; clear ho
  have HA := Lib.hid hA; clear hA
  have HT := Lib.hid hT; clear hT
  go_enter Tryd.func4, Tryd.ntmps4
  go_wp2_with fail
  refine (examples_any b _ HX.out.gv).mono ?_
  rintro e w1 ⟨rfl, hb1⟩
  have H1 := HX.out.next hb1
  have f0 : w1.frozen? ⟨w.heap.size, 0, none⟩ = false := (hb1.frozen (p := ⟨w.heap.size, 0, none⟩) (by simp)).trans (by simp)
  have f1 : w1.frozen? ⟨w.heap.size, 1, none⟩ = false := (hb1.frozen (p := ⟨w.heap.size, 1, none⟩) (by simp)).trans (by simp)
  have f2 : w1.frozen? ⟨w.heap.size, 2, none⟩ = false := (hb1.frozen (p := ⟨w.heap.size, 2, none⟩) (by simp)).trans (by simp)
  clear hb1
  have HF := Lib.hid (bx_set1 (bx_set0 H1 hg.2 N') hg.2 K')
  obtain ⟨c0, c1, c2, c3, c4, c5, c6, c7⟩ := id H1
  go_wp2_with fail
  clear H1 f0 f1 f2
  have H1 := HF.out
  refine (put_any N' K' n s P o b _ H1.gv HN.out HS.out HP.out HO.out).mono ?_
  rintro e w2 ⟨rfl, hb2⟩
  have H2 := H1.next hb2
  clear hb2 c0 c1 c2 c3 c4 c5 c6 c7
  obtain ⟨c0, c1, c2, c3, c4, c5, c6, c7⟩ := id H2
  go_wp2_with fail
  refine (ref_any _ 1 1 w2.heap.size [⟨N', K', n, s⟩] _ rfl (fun _ => rfl) (rowG_new w2 ⟨N', K', n, s⟩ _) (by omega)).mono ?_
  rintro e w3 ⟨⟨v, rfl, ho3⟩, hb3⟩
  obtain ⟨g3, cc3, rfl⟩ := own_some ho3 (by omega)
  obtain ⟨hl3, hr3⟩ := rowG_of ho3 rfl
  obtain ⟨r0, r1, r2, r3⟩ := hr3 0 (by simp)
  simp only [List.getElem_cons_zero, Nat.zero_mul, Nat.zero_add] at r0 r1 r2 r3
  have H3 := (H2.next ((Below.refl _ _).alloc (Nat.le_refl _) (.cells #[.int .i64 N', .int .i64 K', .int .u64 (n : Nat), .string s] 29))).next hb3
  clear hb3 hr3 ho3 c0 c1 c2 c3 c4 c5 c6 c7
  go_wp2_with fail
  refine (refPut_any N' K' n s P o _ HN.out HS.out HP.out HO.out).mono ?_
  rintro e w4 ⟨rfl, hb4⟩
  have H4 := H3.next hb4
  clear hb4 r0 r1 r2 r3 hl3
  have H4' := Lib.hid H4
  have j1 : (P.toList == P.toList) = true := by simp
  have j2 : (o == o) = true := by simp
  go_wp2_with fail
  go_region_held3 (fun w' => w'.cell? ⟨w.heap.size, 0, none⟩ = some (.int .i64 N') ∧ w'.cell? ⟨w.heap.size, 1, none⟩ = some (.int .i64 K') ∧ w'.cell? ⟨w.heap.size, 2, none⟩ = some (.int .u64 (n : Nat)) ∧ w'.cell? ⟨w.heap.size, 3, none⟩ = some (.string s) ∧ w'.cell? ⟨0, 0, none⟩ = some (Tryd.S b) ∧ w.heap.size < w'.heap.size ∧ 0 < w'.heap.size ∧ Below w.heap.size w w')
    (first | exact H4'.out | exact bx_drew H4'.out | (refine Bx.next (B := w.heap.size) (num := N') (kind := K') (n := n) (s := s) (b := b) (w0 := w) ?_ hb; first | exact H4'.out | exact bx_drew H4'.out | assumption) | go_keep)
    (first
      | (go_at_call 19; (with_reducible refine (number_any N' n b _ ?_ HN.out).mono ?_); (first | exact H4'.out.gv | exact (bx_drew H4'.out).gv | exact Bx.gv (B := w.heap.size) (num := N') (kind := K') (n := n) (s := s) (b := b) (w0 := w) (by assumption)); rw [← HA.out]; rintro e w' ⟨rfl, hb⟩)
      | (go_at_call 20; (with_reducible refine (refNumber_any N' n _ HN.out).mono ?_); rw [← HA.out]; rintro e w' ⟨rfl, hb⟩)
      | (go_at_call 21; (with_reducible refine (text_any N' s b _ ?_ HS.out).mono ?_); (first | exact H4'.out.gv | exact (bx_drew H4'.out).gv | exact Bx.gv (B := w.heap.size) (num := N') (kind := K') (n := n) (s := s) (b := b) (w0 := w) (by assumption)); rw [← HT.out]; rintro e w' ⟨rfl, hb⟩)
      | (go_at_call 22; (with_reducible refine (refText_any N' s _ HS.out).mono ?_); rw [← HT.out]; rintro e w' ⟨rfl, hb⟩))
  have H5 : Bx w.heap.size N' K' n s b w _ := ‹_›
  have H6 := Lib.hid H5.below
  go_wp2
  go_ret
  exact ⟨rfl, H6.out⟩

set_option maxRecDepth 100000 in
set_option maxHeartbeats 2000000 in
theorem walk_n4 (num kind : Int) (n : Nat) (s : ByteArray) (b : Addr) (w : World) (hg : Gv b w) (hn : n < 2 ^ 64) (hs : s.size ≤ 140737488355328) (hk : ¬ kind.tmod 7 = 0) (h4 : n % 4 = 0) :
    Calls Tryd.prog 4 #[fdV num kind n s, .bool true] w fun e w' => e = .returned (.bool true) ∧ Below w.heap.size w w' := by
  obtain ⟨N', hN'⟩ : ∃ x, num.tmod 40 = x := ⟨_, rfl⟩
  obtain ⟨K', hK'⟩ : ∃ x, kind.tmod 7 = x := ⟨_, rfl⟩
  rw [hK'] at hk
  have g1 : (K' != 0) = true := by simp [hk]
  have g2 : decide (0 < (n : Int) % 4) = false := by simp; omega
  clear hk h4
  have HN := Lib.hid hn; clear hn
  have HS := Lib.hid hs; clear hs
  have hbx := bx_start num kind n s b w hg
  have HX := Lib.hid hbx; clear hbx
  obtain ⟨P, hP⟩ : ∃ P, putB N' K' n s = P := ⟨_, rfl⟩
  obtain ⟨o, ho⟩ : ∃ o, okF N' K' n s = o := ⟨_, rfl⟩
  obtain ⟨A, hA⟩ : ∃ A : ByteArray, A = ⟨(numberL N' n).toArray⟩ := ⟨_, rfl⟩
  obtain ⟨T, hT⟩ : ∃ T : ByteArray, T = ⟨(textL N' s).toArray⟩ := ⟨_, rfl⟩
  have HP := Lib.hid hP; clear hP
  have HO := Lib.hid ho; clear ho
  have HA := Lib.hid hA; clear hA
  have HT := Lib.hid hT; clear hT
  go_enter Tryd.func4, Tryd.ntmps4
  go_wp2_with fail
  refine (examples_any b _ HX.out.gv).mono ?_
  rintro e w1 ⟨rfl, hb1⟩
  have H1 := HX.out.next hb1
  have f0 : w1.frozen? ⟨w.heap.size, 0, none⟩ = false := (hb1.frozen (p := ⟨w.heap.size, 0, none⟩) (by simp)).trans (by simp)
  have f1 : w1.frozen? ⟨w.heap.size, 1, none⟩ = false := (hb1.frozen (p := ⟨w.heap.size, 1, none⟩) (by simp)).trans (by simp)
  have f2 : w1.frozen? ⟨w.heap.size, 2, none⟩ = false := (hb1.frozen (p := ⟨w.heap.size, 2, none⟩) (by simp)).trans (by simp)
  clear hb1
  have HF := Lib.hid (bx_set1 (bx_set0 H1 hg.2 N') hg.2 K')
  obtain ⟨c0, c1, c2, c3, c4, c5, c6, c7⟩ := id H1
  go_wp2_with fail
  clear H1 f0 f1 f2
  have H1 := HF.out
  refine (put_any N' K' n s P o b _ H1.gv HN.out HS.out HP.out HO.out).mono ?_
  rintro e w2 ⟨rfl, hb2⟩
  have H2 := H1.next hb2
  clear hb2 c0 c1 c2 c3 c4 c5 c6 c7
  obtain ⟨c0, c1, c2, c3, c4, c5, c6, c7⟩ := id H2
  go_wp2_with fail
  refine (ref_any _ 1 1 w2.heap.size [⟨N', K', n, s⟩] _ rfl (fun _ => rfl) (rowG_new w2 ⟨N', K', n, s⟩ _) (by omega)).mono ?_
  rintro e w3 ⟨⟨v, rfl, ho3⟩, hb3⟩
  obtain ⟨g3, cc3, rfl⟩ := own_some ho3 (by omega)
  obtain ⟨hl3, hr3⟩ := rowG_of ho3 rfl
  obtain ⟨r0, r1, r2, r3⟩ := hr3 0 (by simp)
  simp only [List.getElem_cons_zero, Nat.zero_mul, Nat.zero_add] at r0 r1 r2 r3
  have H3 := (H2.next ((Below.refl _ _).alloc (Nat.le_refl _) (.cells #[.int .i64 N', .int .i64 K', .int .u64 (n : Nat), .string s] 29))).next hb3
  clear hb3 hr3 ho3 c0 c1 c2 c3 c4 c5 c6 c7
  go_wp2_with fail
  refine (refPut_any N' K' n s P o _ HN.out HS.out HP.out HO.out).mono ?_
  rintro e w4 ⟨rfl, hb4⟩
  have H4 := H3.next hb4
  clear hb4 r0 r1 r2 r3 hl3
  have H4' := Lib.hid H4
  have j1 : (P.toList == P.toList) = true := by simp
  have j2 : (o == o) = true := by simp
  go_wp2_with fail
  go_region_held3 (fun w' => w'.cell? ⟨w.heap.size, 0, none⟩ = some (.int .i64 N') ∧ w'.cell? ⟨w.heap.size, 1, none⟩ = some (.int .i64 K') ∧ w'.cell? ⟨w.heap.size, 2, none⟩ = some (.int .u64 (n : Nat)) ∧ w'.cell? ⟨w.heap.size, 3, none⟩ = some (.string s) ∧ w'.cell? ⟨0, 0, none⟩ = some (Tryd.S b) ∧ w.heap.size < w'.heap.size ∧ 0 < w'.heap.size ∧ Below w.heap.size w w')
    (first | exact H4'.out | exact bx_drew H4'.out | (refine Bx.next (B := w.heap.size) (num := N') (kind := K') (n := n) (s := s) (b := b) (w0 := w) ?_ hb; first | exact H4'.out | exact bx_drew H4'.out | assumption) | go_keep)
    (first
      | (go_at_call 19; (with_reducible refine (number_any N' n b _ ?_ HN.out).mono ?_); (first | exact H4'.out.gv | exact (bx_drew H4'.out).gv | exact Bx.gv (B := w.heap.size) (num := N') (kind := K') (n := n) (s := s) (b := b) (w0 := w) (by assumption)); rw [← HA.out]; rintro e w' ⟨rfl, hb⟩)
      | (go_at_call 20; (with_reducible refine (refNumber_any N' n _ HN.out).mono ?_); rw [← HA.out]; rintro e w' ⟨rfl, hb⟩)
      | (go_at_call 21; (with_reducible refine (text_any N' s b _ ?_ HS.out).mono ?_); (first | exact H4'.out.gv | exact (bx_drew H4'.out).gv | exact Bx.gv (B := w.heap.size) (num := N') (kind := K') (n := n) (s := s) (b := b) (w0 := w) (by assumption)); rw [← HT.out]; rintro e w' ⟨rfl, hb⟩)
      | (go_at_call 22; (with_reducible refine (refText_any N' s _ HS.out).mono ?_); rw [← HT.out]; rintro e w' ⟨rfl, hb⟩))
  have H5 : Bx w.heap.size N' K' n s b w _ := ‹_›
  have H6 := Lib.hid H5.below
  go_wp2
  go_ret
  exact ⟨rfl, H6.out⟩

theorem walk (num kind : Int) (n : Nat) (s : ByteArray) (near : Bool) (b : Addr) (w : World) (hg : Gv b w) (hn : n < 2 ^ 64) (hs : s.size ≤ 140737488355328) :
    Calls Tryd.prog 4 #[fdV num kind n s, .bool near] w fun e w' => e = .returned (.bool true) ∧ Below w.heap.size w w' := by
  cases near with
  | false => exact walk_far num kind n s b w hg hn hs
  | true =>
    by_cases hk : kind.tmod 7 = 0
    · exact walk_kind0 num kind n s b w hg hn hs hk
    · by_cases h4 : n % 4 = 0
      · exact walk_n4 num kind n s b w hg hn hs hk h4
      · exact walk_cut num kind n s b w hg hn hs hk (by omega)
end Go.Proofs.YtkehanpgaahmlaaDoor.lawPuts
