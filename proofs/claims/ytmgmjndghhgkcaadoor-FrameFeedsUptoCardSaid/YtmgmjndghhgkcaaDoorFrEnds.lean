/- FrameEnds: the walk. -/
import Derived.Test.YtmgmjndghhgkcaaDoorFrLong
import Derived.Test.YtmgmjndghhgkcaaDoorFrOpen
import Derived.StillTailTactics
import Derived.Deep.RegionWith
import Derived.Deep.RegionHeld3
import Derived.Deep.DeepCutAuto
namespace Go.Proofs.YtmgmjndghhgkcaaDoor
open Go.RowKit Go.Lib

/-- A message: m, and at most 49 bytes of the text. -/
def mOf (s : ByteArray) : List UInt8 := 109 :: s.data.toList.take 49
theorem mOf_len (s : ByteArray) : (mOf s).length ≤ 50 := by simp [mOf]; omega
theorem mOf_ok (s : ByteArray) : okM (mOf s) := ⟨by simp [mOf], by have := mOf_len s; omega⟩
def mB (s : ByteArray) : ByteArray := ⟨#[109]⟩ ++ s.extract 0 (min s.size 49)
theorem mB_bytes (s : ByteArray) : (mB s).data.toList = mOf s := by
  have : min s.size 49 = min 49 s.size := Nat.min_comm _ _
  simp [mB, mOf, this]
theorem mB_ok (s : ByteArray) : okM (mB s).data.toList := by rw [mB_bytes]; exact mOf_ok s
theorem mB_size (s : ByteArray) : (mB s).size ≤ 50 := by
  have := mOf_len s
  rw [← mB_bytes] at this; exact this
/-- All messages, packed. -/
def allP (ms : List ByteArray) : List UInt8 := (ms.map mOf).flatMap packL
theorem allP_snoc (ms : List ByteArray) (s : ByteArray) : allP (ms ++ [s]) = allP ms ++ packL (mOf s) := by simp [allP]
theorem allP_ok (ms : List ByteArray) : ∀ s ∈ ms.map mOf, okM s := by
  intro s hs
  obtain ⟨x, _, rfl⟩ := List.mem_map.1 hs
  exact mOf_ok x
theorem feed_allP (ms : List ByteArray) (t : List UInt8) : feedL (allP ms ++ t) = ⟨ms.map mOf ++ (feedL t).ms, (feedL t).rest, (feedL t).bad⟩ := feedL_packs _ _ (allP_ok ms)
theorem take_snoc {ms : List ByteArray} {k : Nat} (h : k < ms.length) : ms.take (k + 1) = ms.take k ++ [ms[k]] := List.take_succ_eq_append_getElem h

theorem mB_a {s : ByteArray} (h : (49 : Int) < (s.size : Int)) : (⟨#[109]⟩ ++ s.extract 0 49 : ByteArray) = mB s := by
  unfold mB; rw [Nat.min_eq_right (by omega)]
theorem mB_b {s : ByteArray} (h : (s.size : Int) ≤ 49) : (⟨#[109]⟩ ++ s.extract 0 s.size : ByteArray) = mB s := by
  unfold mB; rw [Nat.min_eq_left (by omega)]
theorem mB_c {s : ByteArray} (h : (s.size : Int) ≤ 49) : (⟨#[109]⟩ ++ s : ByteArray) = mB s := by
  rw [← mB_b h]; congr 1; apply ByteArray.ext; simp
theorem pack_m (x s : ByteArray) (w : World) (h : x = mB s) :
    Calls Tryd.prog 15 #[.string x] w fun e w' => e = .returned (.tuple #[.string ⟨(packL (mOf s)).toArray⟩, .bool true]) ∧ Below w.heap.size w w' := by
  subst h
  have := pack_ok (mB s) w (mB_ok s)
  rw [mB_bytes] at this
  exact this
theorem ends_feed (ks : List ByteArray) {A B C : ByteArray} {n : Nat} (hA : A.data.toList = allP ks) (h : takeOf B.data.toList = .bad n) :
    feedR ⟨[], 0⟩ (A ++ B ++ C).data.toList = (ks.map mOf, ⟨[], errN n⟩) ∧ (feedL ([] ++ (A ++ B ++ C).data.toList)).ms = ks.map mOf := by
  have e : ([] ++ (A ++ B ++ C).data.toList : List UInt8) = allP ks ++ (B.data.toList ++ C.data.toList) := by
    rw [← hA]; simp
  have hf := feed_allP ks (B.data.toList ++ C.data.toList)
  rw [feedL_bad (takeOf_bad_append h), List.append_nil] at hf
  exact ⟨feedR_some (by rw [e]; exact hf), by rw [e, hf]⟩
theorem feedR_was {S c : List UInt8} {E : Nat} (h : E ≠ 0) : feedR ⟨S, E⟩ c = ([], ⟨S, E⟩) := by unfold feedR; rw [if_pos h]
theorem takeOf_zero : takeOf (⟨#[0, 0, 0, 0]⟩ : ByteArray).data.toList = .bad 0 := by
  show takeOf [0, 0, 0, 0] = .bad 0
  simp [takeOf, num4, numL, errN]
theorem takeOf_long (y h : Nat) (hy : y < 256) (hh : h < 200) : ∃ n, takeOf (⟨#[UInt8.ofNat y, 1, 0, UInt8.ofNat (1 + h)]⟩ : ByteArray).data.toList = .bad n ∧ errN n = 3 := by
  have hn : num4 [UInt8.ofNat y, 1, 0, UInt8.ofNat (1 + h)] = ((y * 256 + 1) * 256 + 0) * 256 + (1 + h) := by
    rw [num4_of]
    have e1 : (UInt8.ofNat y).toNat = y := by simp; omega
    have e2 : (UInt8.ofNat (1 + h)).toNat = 1 + h := by simp; omega
    rw [e1, e2]; rfl
  have he : errN (((y * 256 + 1) * 256 + 0) * 256 + (1 + h)) = 3 := by unfold errN; rw [if_neg (by omega), if_pos (by omega)]
  refine ⟨((y * 256 + 1) * 256 + 0) * 256 + (1 + h), ?_, he⟩
  show takeOf [UInt8.ofNat y, 1, 0, UInt8.ofNat (1 + h)] = _
  unfold takeOf
  rw [hn, he]
  rfl
theorem long_at (y h : Nat) (hy : y < 256) (hh : h < 200) (w : World) :
    (convert 41 9 (.slice (some ⟨w.heap.size, 0, none⟩) 4 4)).run Tryd.prog (w.alloc (.cells #[.int .u8 (y : Int), .int .u8 1, .int .u8 0, .int .u8 (1 + (h : Int))] 5)) = .ok (.string ⟨#[UInt8.ofNat y, 1, 0, UInt8.ofNat (1 + h)]⟩) (w.alloc (.cells #[.int .u8 (y : Int), .int .u8 1, .int .u8 0, .int .u8 (1 + (h : Int))] 5)) := by
  refine conv_bytes (l := [UInt8.ofNat y, 1, 0, UInt8.ofNat (1 + h)]) (c := 4) (fun j x hx => ⟨w.heap.size, 0, rfl, ?_⟩)
  rw [World.cell?_alloc_at _ _ _ _ (by simp), Nat.zero_add]
  have hj := (List.getElem?_eq_some_iff.1 hx).1
  simp only [List.length_cons, List.length_nil] at hj
  have h1 : (1 + (h : Int)) = ((1 + h : Nat) : Int) := by omega
  rw [h1]
  match j, hj with
  | 0, _ => cases hx; exact congrArg some (u8_of _ _ (by omega)).symm
  | 1, _ => cases hx; rfl
  | 2, _ => cases hx; rfl
  | 3, _ => cases hx; exact congrArg some (u8_of _ _ (by omega)).symm

/-- The text that is read stands; what was is as it was. -/
def Rs1 (g o : Nat) (s : ByteArray) (w0 w' : World) : Prop := w'.cell? ⟨g, o, none⟩ = some (.string s) ∧ g < w'.heap.size ∧ Below w0.heap.size w0 w'
theorem Rs1.next {g o : Nat} {s : ByteArray} {w0 wc w' : World} (h : Rs1 g o s w0 wc) (hb : Below wc.heap.size wc w') : Rs1 g o s w0 w' :=
  ⟨(hb.cell (p := ⟨g, o, none⟩) h.2.1).trans h.1, Nat.lt_of_lt_of_le h.2.1 hb.size, h.2.2.trans (hb.mono h.2.2.size)⟩

set_option maxRecDepth 100000 in
set_option maxHeartbeats 2000000 in
theorem ends_walk (a0 : Option Addr) (l0 c0 : Nat) (ms : List ByteArray) (long : Bool) (by_ : Nat) (more : ByteArray) (b : Addr) (w : World) (hg : Gs b w) (hge : Ge w) (hl : ms.length = l0) (hst : StrsIn w a0 ms) (hby : by_ < 256) (hmore : more.size ≤ 140737488351232) :
    Calls Tryd.prog 6 #[.slice a0 l0 c0, .bool long, .int .u8 (by_ : Int), .string more] w fun e w' => e = .returned (.bool true) ∧ Below w.heap.size w w' := by
  have HL := Lib.hid hl; clear hl
  go_enter Tryd.func6, Tryd.ntmps6
  go_wp2_with fail
  refine (examples_any b w hg hge).mono ?_
  rintro e w1 ⟨rfl, hb1⟩
  go_wp2_with fail
  go_loopw [10, 11, 12] (fun al many i wr => ∃ (k : Nat) (A : ByteArray), k ≤ 5 ∧ k ≤ l0 ∧ i = .int .i64 (k : Int) ∧ many = .int .i64 (k : Int) ∧ al = .string A ∧ A.data.toList = allP (ms.take k) ∧ A.size ≤ 54 * k ∧ Below w.heap.size w wr) (fun _ _ i _ => 5 - (intOf i).toNat)
  case atStart => exact ⟨0, ⟨#[]⟩, by omega, Nat.zero_le _, rfl, rfl, rfl, rfl, Nat.le_refl _, hb1⟩
  case round =>
    obtain ⟨k, A, hk5, hkl, rfl, rfl, rfl, hA, hAs, hb⟩ := hrel
    have HA := Lib.hid hA; clear hA
    by_cases hlt : k < l0 ∧ k < 5
    · obtain ⟨h1, h2⟩ := hlt
      have hkm : k < ms.length := by have := HL.out; omega
      obtain ⟨g, o, rfl, hgl, hc⟩ := (hst.below hb) k ms[k] (List.getElem?_eq_getElem hkm)
      have HS := Lib.hid (take_snoc hkm)
      generalize ms[k] = s at hc HS
      have ST : Rs1 g (o + k) s w wr.drew := ⟨hc, hgl, hb.drew⟩
      rcases Int.lt_or_le 49 (s.size : Int) with h49 | h49
      all_goals
        first | (have hq : ¬ 9223372036854775807 < 1 + s.size := by omega) | skip
        first | (have hq3 : ¬ 9223372036854775807 < 1 + min 49 s.size := by have : min 49 s.size ≤ 49 := Nat.min_le_left _ _; omega) | skip
        first | (have hq2 : ((49 : Int) < (s.size : Int)) = False := eq_false (by omega)) | skip
        first | (have hq1 : (49 : Int) ≤ (s.size : Int) := by omega) | skip
        go_wp2_with fail
        go_region_held3 (fun w' => w'.cell? ⟨g, o + k, none⟩ = some (.string s) ∧ g < w'.heap.size ∧ Below w.heap.size w w') (first | exact ST | go_keep | exact Rs1.next (by assumption) (by assumption)) ((go_at_call 15; refine (pack_m _ s _ ?_).mono ?_; (first | exact mB_a h49 | exact mB_b h49 | exact mB_c h49); rintro e w' ⟨rfl, hbp⟩))
        obtain ⟨P, hP⟩ : ∃ P : ByteArray, (⟨(packL (mOf s)).toArray⟩ : ByteArray) = P := ⟨_, rfl⟩
        have hPs : P.size ≤ 54 := by
          rw [← hP]; show (packL (mOf s)).toArray.size ≤ 54
          rw [List.size_toArray, packL_len]; have := mOf_len s; omega
        have hPb : P.data.toList = packL (mOf s) := by rw [← hP]
        rw [hP]
        have HP := Lib.hid hPb; clear hPb hP
        have hfin : Below w.heap.size w w' := (by assumption : w'.cell? ⟨g, o + k, none⟩ = some (.string s) ∧ g < w'.heap.size ∧ Below w.heap.size w w').2.2
        clear h49
        go_wp2
        go_roundw
        case rel =>
          refine ⟨k + 1, A ++ P, by omega, by omega, by go_num, by go_num, rfl, ?_, ?_, hfin⟩
          · rw [HS.out, allP_snoc, ← HA.out, ← HP.out]; simp
          · rw [ByteArray.size_append]; omega
        case measure => simp [intOf]; omega
    · obtain ⟨H, hH⟩ : ∃ H, by_ / 2 = H := ⟨_, rfl⟩
      have hHi : ((by_ : Int) / 2) = (H : Int) := by omega
      have hH2 : H < 200 := by omega
      have hklen : ((ms.take k).map mOf).length = k := by rw [List.length_map, List.length_take]; have := HL.out; omega
      have hk5' : ((ms.take k).map mOf).length ≤ 1099511627776 := by omega
      obtain ⟨Bd, nl, hnl, hel, hBd, hcv⟩ : ∃ (Bd : ByteArray) (nl : Nat), takeOf Bd.data.toList = .bad nl ∧ errN nl = 3 ∧ Bd.size = 4 ∧ ∀ w : World, (convert 41 9 (.slice (some ⟨w.heap.size, 0, none⟩) 4 4)).run Tryd.prog (w.alloc (.cells #[.int .u8 (by_ : Int), .int .u8 1, .int .u8 0, .int .u8 (1 + (H : Int))] 5)) = .ok (.string Bd) (w.alloc (.cells #[.int .u8 (by_ : Int), .int .u8 1, .int .u8 0, .int .u8 (1 + (H : Int))] 5)) := by
        obtain ⟨nl, hnl, hel⟩ := takeOf_long by_ H hby hH2
        exact ⟨_, nl, hnl, hel, rfl, long_at by_ H hby hH2⟩
      have HNL := Lib.hid (And.intro hnl (And.intro hel hBd)); clear hnl hel hH hBd
      have hBd4 : Bd.size ≤ 4 := by rw [HNL.out.2.2]; exact Nat.le_refl _
      have hend : (¬ k < l0) ∨ (k < l0 ∧ ¬ ((k : Int) < 5)) := by omega
      rcases hend with h1 | ⟨h1, h2⟩
      all_goals
        clear hlt
        cases long
        · have HF := Lib.hid (And.intro (ends_feed (C := more) (ms.take k) HA.out takeOf_zero).1 (And.intro (ends_feed (C := more) (ms.take k) HA.out takeOf_zero).2 (And.intro (show ([] : List UInt8).length + (A ++ ⟨#[0, 0, 0, 0]⟩ ++ more : ByteArray).size ≤ 140737488355328 by rw [ByteArray.size_append, ByteArray.size_append]; show 0 + (A.size + 4 + more.size) ≤ _; omega) (And.intro hk5' hklen))))
          clear hk5' hklen hcv
          go_wp2_with fail
          refine (new_any _).mono ?_
          rintro e w4 ⟨rfl, hw4⟩
          obtain ⟨w3, hw3⟩ : ∃ w3, w3 = wr := ⟨_, rfl⟩
          rw [← hw3] at hw4 ⊢
          have hB3 : Below w.heap.size w w3 := by rw [hw3]; exact hb
          have hR4 := RdAt.new w3 w.heap.size hB3.size
          rw [← hw4] at hR4
          have hB4 : Below w.heap.size w w4 := by rw [hw4]; exact hB3.alloc hB3.size _
          clear hw4 hw3
          have hs4 := hB4.size
          go_wp2_with fail
          have hh := feed_to w.heap.size w3.heap.size _ [] 0 (A ++ ⟨#[0, 0, 0, 0]⟩ ++ more) _ [] 2 b w4 hR4 (hg.low hB4 hg.2) (hge.low hB4 hge.2) hge.2 hg.2 hs4 HF.out.2.2.1 HF.out.1 (by rw [HF.out.2.1]; exact HF.out.2.2.2.1)
          refine hh.mono ?_
          clear hh
          rintro e w5 ⟨a5, c5, v5, rfl, hR5, ho5, hbut5⟩
          have hB5 := hB4.trans (hR4.low hbut5 hs4)
          have hs5 := hB5.size
          rw [HF.out.2.2.2.2]
          go_wp2_with fail
          refine (pack_ok ⟨#[120]⟩ w5 (by unfold okM; decide)).mono ?_
          rintro e w6 ⟨rfl, hb6⟩
          obtain ⟨X, hX⟩ : ∃ X : ByteArray, (⟨(packL (⟨#[120]⟩ : ByteArray).data.toList).toArray⟩ : ByteArray) = X := ⟨_, rfl⟩
          have hXs : X.size ≤ 5 := by rw [← hX]; exact Nat.le_refl _
          rw [hX]
          clear hX
          have hB6 := hB5.trans (hb6.mono hs5)
          have hR6 := hR5.below hb6
          have hs6 := hB6.size
          go_wp2_with fail
          have hh := feed_to w.heap.size w3.heap.size _ [] 2 X [] [] 2 b w6 hR6 (hg.low hB6 hg.2) (hge.low hB6 hge.2) hge.2 hg.2 hs6 (by show 0 + X.size ≤ _; omega) (feedR_was (by omega)) (many_le (n := 5) hXs (by omega))
          refine hh.mono ?_
          clear hh
          rintro e w7 ⟨a7, c7, v7, rfl, hR7, ho7, hbut7⟩
          have hB7 := hB6.trans (hR6.low hbut7 hs6)
          clear hR4 hR5 hR6 hbut5 hbut7 ho5 ho7 hb6
          go_wp2_with fail
          refine (bad_yes _ _ _ 2 w.heap.size w7 hR7 (by omega)).mono ?_
          rintro e w' ⟨rfl, rfl⟩
          go_wp2_with fail
          refine (left_any _ _ _ 2 w.heap.size w7 hR7).mono ?_
          rintro e w' ⟨rfl, rfl⟩
          go_wp2
          go_ret
          exact ⟨rfl, hB7⟩
        · have HF := Lib.hid (And.intro (ends_feed (B := Bd) (C := more) (ms.take k) HA.out HNL.out.1).1 (And.intro (ends_feed (B := Bd) (C := more) (ms.take k) HA.out HNL.out.1).2 (And.intro (show ([] : List UInt8).length + (A ++ Bd ++ more : ByteArray).size ≤ 140737488355328 by rw [ByteArray.size_append, ByteArray.size_append]; show 0 + (A.size + Bd.size + more.size) ≤ _; omega) (And.intro hk5' hklen))))
          rw [HNL.out.2.1] at HF
          clear hk5' hklen
          go_wp2_with fail
          refine (new_any _).mono ?_
          rintro e w4 ⟨rfl, hw4⟩
          obtain ⟨w3, hw3⟩ : ∃ w3, w3 = wr.alloc (.cells #[.int .u8 (by_ : Int), .int .u8 1, .int .u8 0, .int .u8 (1 + (H : Int))] 5) := ⟨_, rfl⟩
          rw [← hw3] at hw4 ⊢
          have hB3 : Below w.heap.size w w3 := by rw [hw3]; exact hb.alloc hb.size _
          have hR4 := RdAt.new w3 w.heap.size hB3.size
          rw [← hw4] at hR4
          have hB4 : Below w.heap.size w w4 := by rw [hw4]; exact hB3.alloc hB3.size _
          clear hw4 hw3
          have hs4 := hB4.size
          go_wp2_with fail
          have hh := feed_to w.heap.size w3.heap.size _ [] 0 (A ++ Bd ++ more) _ [] 3 b w4 hR4 (hg.low hB4 hg.2) (hge.low hB4 hge.2) hge.2 hg.2 hs4 HF.out.2.2.1 HF.out.1 (by rw [HF.out.2.1]; exact HF.out.2.2.2.1)
          refine hh.mono ?_
          clear hh
          rintro e w5 ⟨a5, c5, v5, rfl, hR5, ho5, hbut5⟩
          have hB5 := hB4.trans (hR4.low hbut5 hs4)
          have hs5 := hB5.size
          rw [HF.out.2.2.2.2]
          go_wp2_with fail
          refine (pack_ok ⟨#[120]⟩ w5 (by unfold okM; decide)).mono ?_
          rintro e w6 ⟨rfl, hb6⟩
          obtain ⟨X, hX⟩ : ∃ X : ByteArray, (⟨(packL (⟨#[120]⟩ : ByteArray).data.toList).toArray⟩ : ByteArray) = X := ⟨_, rfl⟩
          have hXs : X.size ≤ 5 := by rw [← hX]; exact Nat.le_refl _
          rw [hX]
          clear hX
          have hB6 := hB5.trans (hb6.mono hs5)
          have hR6 := hR5.below hb6
          have hs6 := hB6.size
          go_wp2_with fail
          have hh := feed_to w.heap.size w3.heap.size _ [] 3 X [] [] 3 b w6 hR6 (hg.low hB6 hg.2) (hge.low hB6 hge.2) hge.2 hg.2 hs6 (by show 0 + X.size ≤ _; omega) (feedR_was (by omega)) (many_le (n := 5) hXs (by omega))
          refine hh.mono ?_
          clear hh
          rintro e w7 ⟨a7, c7, v7, rfl, hR7, ho7, hbut7⟩
          have hB7 := hB6.trans (hR6.low hbut7 hs6)
          clear hR4 hR5 hR6 hbut5 hbut7 ho5 ho7 hb6
          go_wp2_with fail
          refine (bad_yes _ _ _ 3 w.heap.size w7 hR7 (by omega)).mono ?_
          rintro e w' ⟨rfl, rfl⟩
          go_wp2_with fail
          refine (left_any _ _ _ 3 w.heap.size w7 hR7).mono ?_
          rintro e w' ⟨rfl, rfl⟩
          go_wp2
          go_ret
          exact ⟨rfl, hB7⟩
end Go.Proofs.YtmgmjndghhgkcaaDoor
