/- frame: the chapter's examples. -/
import Derived.Test.YtmgmjndghhgkcaaDoorFrFeed
namespace Go.Proofs.YtmgmjndghhgkcaaDoor
open Go.RowKit Go.Lib

/-- The texts stand in a row. -/
def StrAt (w : World) (a : Option Addr) (ms : List (List UInt8)) : Prop := ∀ i m, ms[i]? = some m → ∃ g, a = some ⟨g, 0, none⟩ ∧ w.cell? ⟨g, i, none⟩ = some (.string ⟨m.toArray⟩)
theorem strAt_own {w : World} {base n c : Nat} {a : Option Addr} {ms : List (List UInt8)} (h : w.ownsRow base 9 1 (.slice a n c) n (strV ms)) : StrAt w a ms := by
  intro i m hm
  rcases h.2 with ⟨hv, hn⟩ | ⟨g, cap, cur, hv, _⟩
  · have h1 := h.1
    subst hn
    rw [List.length_map] at h1
    have := (List.getElem?_eq_some_iff.1 hm).1
    omega
  · cases hv
    refine ⟨g, rfl, ?_⟩
    have := h.cells (g := g) rfl i (.string ⟨m.toArray⟩) (by rw [List.getElem?_map, hm]; rfl)
    rw [addr_plus, Nat.zero_add] at this; exact this
/-- Feed, where what comes is known: ms, and what is left, and what is wrong. -/
def FeedTo (base r : Nat) (v : Value) (ms : List (List UInt8)) (S' : List UInt8) (E' : Nat) (w : World) (e : Ending) (w' : World) : Prop :=
  ∃ a c v', e = .returned (.tuple #[.slice a ms.length c, .int .i64 (E' : Int)]) ∧ RdAt base r v' S' E' w' ∧ w'.ownsRow w.heap.size 9 1 (.slice a ms.length c) ms.length (strV ms) ∧ But r v w w'
theorem feed_to (base r : Nat) (v : Value) (S : List UInt8) (E : Nat) (s : ByteArray) (ms : List (List UInt8)) (S' : List UInt8) (E' : Nat) (b : Addr) (w : World) (hR : RdAt base r v S E w) (hg : Gs b w) (hge : Ge w) (h0 : 0 < base) (h1 : 1 < base) (hbase : base ≤ w.heap.size)
    (hsz : S.length + s.size ≤ 140737488355328) (hf : feedR ⟨S, E⟩ s.data.toList = (ms, ⟨S', E'⟩)) (hmany : (feedL (S ++ s.data.toList)).ms.length ≤ 1099511627776) :
    Calls Tryd.prog 11 #[.pointer (some ⟨r, 0, none⟩), .string s] w (FeedTo base r v ms S' E' w) := by
  refine (feed_any base r v S E s b w hR hg hge h0 h1 hbase hsz hmany).mono ?_
  rintro e w' ⟨lv, v', he, hr, ho, hb⟩
  rw [hf] at he hr ho
  obtain ⟨a, c, rfl⟩ := owns_slice ho
  exact ⟨a, c, v', he, hr, ho, hb⟩
theorem RdAt.low {base r : Nat} {v : Value} {S : List UInt8} {E : Nat} {w w' : World} (h : RdAt base r v S E w) (hb : But r v w w') (hB : base ≤ w.heap.size) : Below base w w' := hb.below h.br (fun k hk => (h.own.lt k hk).1) hB
theorem Gs.low {b : Addr} {w w' : World} {B : Nat} (h : Gs b w) (hb : Below B w w') (h1 : 1 < B) : Gs b w' := ⟨(hb.cell (p := ⟨1, 0, none⟩) h1).trans h.1, Nat.lt_of_lt_of_le h.2 hb.size⟩
theorem Ge.low {w w' : World} {B : Nat} (h : Ge w) (hb : Below B w w') (h1 : 0 < B) : Ge w' := ⟨(hb.cell (p := ⟨0, 0, none⟩) h1).trans h.1, Nat.lt_of_lt_of_le h.2 hb.size⟩

abbrev exA : ByteArray := ⟨#[0, 0, 0, 1, 97]⟩ ++ ⟨#[0]⟩
abbrev exB : ByteArray := ⟨#[0, 0, 0]⟩
theorem ex_two : feedR ⟨[0], 0⟩ exB.data.toList = ([], ⟨[], 2⟩) := by
  have h : takeOf [0, 0, 0, 0] = .bad 0 := by simp [takeOf, num4, numL, errN]
  have e : ([0] ++ exB.data.toList : List UInt8) = [0, 0, 0, 0] := rfl
  unfold feedR
  simp only [e, feedL_bad h]
  simp [errN]
theorem ex_oneA : feedR ⟨[], 0⟩ exA.data.toList = ([[97]], ⟨[0], 0⟩) := by rfl
theorem ex_many1 : (feedL ([] ++ exA.data.toList)).ms.length ≤ 1099511627776 := by rw [show (feedL ([] ++ exA.data.toList)).ms.length = 1 from rfl]; omega
theorem ex_many2 : (feedL ([0] ++ exB.data.toList)).ms.length ≤ 1099511627776 := by rw [show (feedL ([0] ++ exB.data.toList)).ms.length = 0 from rfl]; omega
theorem ex_size1 : ([] : List UInt8).length + exA.size ≤ 140737488355328 := by rw [show ([] : List UInt8).length + exA.size = 6 from rfl]; omega
theorem ex_size2 : ([0] : List UInt8).length + exB.size ≤ 140737488355328 := by rw [show ([0] : List UInt8).length + exB.size = 4 from rfl]; omega

set_option maxRecDepth 100000 in
set_option maxHeartbeats 2000000 in
theorem examples_any (b : Addr) (w : World) (hg : Gs b w) (hge : Ge w) :
    Calls Tryd.prog 8 #[] w fun e w' => e = .returned (.bool true) ∧ Below w.heap.size w w' := by
  go_enter Tryd.func8, Tryd.ntmps8
  go_wp2_with fail
  refine (pack_ok ⟨#[97]⟩ w (by unfold okM; decide)).mono ?_
  rintro e w1 ⟨rfl, hb1⟩
  rw [show (⟨(packL (⟨#[97]⟩ : ByteArray).data.toList).toArray⟩ : ByteArray) = ⟨#[0, 0, 0, 1, 97]⟩ from rfl]
  go_wp2_with fail
  refine (new_any w1).mono ?_
  rintro e w2 ⟨rfl, hw2⟩
  have hR2 := RdAt.new w1 w.heap.size hb1.size
  rw [← hw2] at hR2
  have hb2 : Below w1.heap.size w1 w2 := by rw [hw2]; exact (Below.refl _ _).alloc (Nat.le_refl _) _
  have hs2 : w.heap.size ≤ w2.heap.size := Nat.le_trans hb1.size hb2.size
  have hB2 : Below w.heap.size w w2 := hb1.trans (hb2.mono hb1.size)
  clear hw2
  go_wp2_with fail
  refine (pack_no ⟨#[]⟩ w2 (Nat.zero_le _) (by unfold okM; decide)).mono ?_
  rintro e w' ⟨rfl, rfl⟩
  go_wp2_with fail
  refine (feed_to w.heap.size w1.heap.size _ [] 0 exA [[97]] [0] 0 b w2 hR2 (hg.low hB2 hg.2) (hge.low hB2 hge.2) hge.2 hg.2 hs2 ex_size1 ex_oneA ex_many1).mono ?_
  rintro e w3 ⟨a3, c3, v3, rfl, hR3, ho3, hbut3⟩
  have hB23 := hR2.low hbut3 hs2
  have hB3 := hB2.trans hB23
  have hs3 : w.heap.size ≤ w3.heap.size := hB3.size
  go_wp2_with fail
  refine (feed_to w.heap.size w1.heap.size _ [0] 0 exB [] [] 2 b w3 hR3 (hg.low hB3 hg.2) (hge.low hB3 hge.2) hge.2 hg.2 hs3 ex_size2 ex_two ex_many2).mono ?_
  rintro e w4 ⟨a4, c4, v4, rfl, hR4, ho4, hbut4⟩
  have hB4 := hB3.trans (hR3.low hbut4 hs3)
  have ho34 := hbut4.own ho3 (row_block ho3 hR3.blk (by decide)) (rows_apart hR3.own ho3 (by decide))
  obtain ⟨g, rfl, hc⟩ := strAt_own ho34 0 [97] rfl
  clear hR2 hR3 hbut3 hbut4 ho3 ho4 ho34 hb1 hb2 hB2 hB23 hB3
  go_wp2_with fail
  refine (bad_yes _ _ _ 2 w.heap.size w4 hR4 (by omega)).mono ?_
  rintro e w' ⟨rfl, rfl⟩
  go_wp2_with fail
  refine (left_any _ _ _ 2 w.heap.size w4 hR4).mono ?_
  rintro e w' ⟨rfl, rfl⟩
  go_wp2
  go_ret
  exact ⟨rfl, hB4⟩
end Go.Proofs.YtmgmjndghhgkcaaDoor
