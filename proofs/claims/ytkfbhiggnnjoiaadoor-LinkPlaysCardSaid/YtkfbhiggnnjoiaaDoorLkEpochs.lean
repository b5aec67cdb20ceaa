/- LinkEpochs: the walk. -/
import Derived.Test.YtkfbhiggnnjoiaaDoorLkEx
import Derived.LoopTactic
namespace Go.Proofs.YtkfbhiggnnjoiaaDoor
open Go.RowKit Go.Lib

def Ep (b : Addr) (base l j : Nat) (w0 wr : World) : Prop := LkIs b base l (lk0 (j + 1)) wr ∧ Kept base w0 wr
/-- Two texts that wait. -/
def lkTwo (e : Nat) (s : List UInt8) : Lk := ⟨⟨packL s, []⟩, ⟨[], []⟩, e, 0⟩
def lkThree (e : Nat) (s : List UInt8) : Lk := ⟨⟨packL s, []⟩, ⟨[0, 0, 0, 1, 115], []⟩, e, 0⟩
theorem send_first (e : Nat) (s : List UInt8) (h1 : 1 ≤ s.length) (h2 : s.length ≤ 1000) : sendL (lk0 e) 0 s = (0, lkTwo e s) := by
  unfold sendL injL
  rw [if_pos ⟨h1, by omega⟩, if_neg (by rw [packL_len]; simp [lk0]; omega)]
  simp [lk0, lkTwo, Lk.put]
theorem send_second (e : Nat) (s : List UInt8) : sendL (lkTwo e s) 1 (⟨#[115]⟩ : ByteArray).data.toList = (0, lkThree e s) := by
  rfl
theorem reset_to {b : Addr} {base l e : Nat} {x : Lk} {w : World} (h : LkIs b base l x w) (he : x.ep + 1 = e) (hep : e ≤ 1000000) :
    Calls Tryd.prog 22 #[.pointer (some ⟨l, 0, none⟩)] w (LkPost b base l (.tuple #[]) (lk0 e) w) := by
  subst he; exact reset_is h (by omega)
theorem epoch_to {b : Addr} {base l : Nat} {x : Lk} {z : Int} {w : World} (h : LkIs b base l x w) (hz : (x.ep : Int) = z) :
    Calls Tryd.prog 14 #[.pointer (some ⟨l, 0, none⟩)] w fun e w' => e = .returned (.int .u64 z) ∧ w = w' := by
  subst hz; exact epoch_any h
/-- A text's first bytes behind one. -/
theorem cut_size (s : ByteArray) (n : Nat) (hn : min s.size 60 = n) (c : UInt8) : ((⟨#[c]⟩ : ByteArray) ++ s.extract 0 n).size = 1 + n := by
  have : (s.extract 0 n).size = n := by rw [ByteArray.size_extract]; omega
  rw [ByteArray.size_append, this]; rfl

set_option maxRecDepth 100000 in
set_option maxHeartbeats 1000000 in
theorem epochs_walk (n : Nat) (s : ByteArray) (b : Addr) (w : World) (hg : Gs b w) (hge : Ge w) (hn : n < 256) (hs : s.size ≤ maxLen) :
    Calls Tryd.prog 9 #[.int .u8 (n : Int), .string s] w fun e w' => e = .returned (.bool true) ∧ Below w.heap.size w w' := by
  unfold maxLen at hs
  obtain ⟨M, hM⟩ : ∃ M, n % 21 = M := ⟨_, rfl⟩
  have hM20 : M ≤ 20 := by omega
  have hMi : (n : Int) % 21 = (M : Int) := by omega
  obtain ⟨K, hK⟩ : ∃ K, min s.size 60 = K := ⟨_, rfl⟩
  have hK60 : K ≤ 60 := by omega
  have hKs : K ≤ s.size := by omega
  have hmk : (if (60 : Int) < (s.size : Int) then (60 : Int) else (s.size : Int)) = (K : Int) := by split <;> omega
  obtain ⟨T, hT⟩ : ∃ T : ByteArray, (⟨#[115]⟩ : ByteArray) ++ s.extract 0 K = T := ⟨_, rfl⟩
  have hTs : T.size = 1 + K := by rw [← hT]; exact cut_size s K hK 115
  have HM := Lib.hid (And.intro hMi (And.intro hmk (And.intro hT hTs))); clear hMi hM hK hmk hT hTs
  have HG := Lib.hid (And.intro hg hge); clear hg hge
  go_enter Tryd.func9, Tryd.ntmps9
  go_wp2_with fail
  refine (examples_any b w HG.out.1 HG.out.2).mono ?_
  rintro e w1 ⟨rfl, hb1⟩
  have HB1 := Lib.hid hb1; clear hb1
  go_wp2_with fail
  refine (newLink_any b w.heap.size w1 HB1.out.size (HG.out.1.below HB1.out) (HG.out.2.below HB1.out) HG.out.2.2 HG.out.1.2).mono ?_
  rintro e w2 ⟨rfl, hl2, hk2⟩
  have HQ := Lib.hid (show Ep b w.heap.size w1.heap.size 0 w1 w2 from ⟨hl2, hk2⟩); clear hl2 hk2
  go_wp2_with fail
  go_loopw [7] (fun i wr => ∃ j : Nat, j ≤ M ∧ i = .int .i64 (j : Int) ∧ Ep b w.heap.size w1.heap.size j w1 wr) (fun i _ => 30 - (intOf i).toNat)
  case atStart => exact ⟨0, by omega, rfl, HQ.out⟩
  case round =>
    obtain ⟨j, hjM, rfl, hq⟩ := hrel
    have HQj := Lib.hid hq; clear hq
    have hMi := HM.out.1
    by_cases hlt : j < M
    · have hlt' : (j : Int) < (M : Int) := by omega
      have hmk := HM.out.2.1
      go_wp2_with fail
      rw [HM.out.2.2.1]
      refine (send_to HQj.out.1 0 (by omega) T (by have := HM.out.2.2.2; unfold maxLen; omega) (send_first (j + 1) T.data.toList (by have := HM.out.2.2.2; show 1 ≤ T.size; omega) (by have := HM.out.2.2.2; show T.size ≤ 1000; omega))).mono ?_
      rintro e w3 ⟨rfl, hl3, hk3⟩
      go_wp2_with fail
      refine (send_to hl3 1 (by omega) ⟨#[115]⟩ (by decide) (send_second (j + 1) T.data.toList)).mono ?_
      rintro e w4 ⟨rfl, hl4, hk4⟩
      have HK4 := Lib.hid (HQj.out.2.trans (hk3.trans hk4)); clear hl3 hk3 hk4
      obtain ⟨Z, hZ⟩ : ∃ Z : Int, (j : Int) + 1 = Z := ⟨_, rfl⟩
      go_wp2_with fail
      refine (epoch_to (z := (j : Int) + 1) hl4 (by show ((j + 1 : Nat) : Int) = _; omega)).mono ?_
      rintro e w' ⟨rfl, rfl⟩
      obtain ⟨N0, hN0⟩ : ∃ N0, (packL T.data.toList).length = N0 := ⟨_, rfl⟩
      have hn0 : ((N0 : Int) == 0) = false := by rw [← hN0, packL_len]; simp; omega
      have HN0 := Lib.hid hN0; clear hN0
      go_wp2_with fail
      refine (waiting_is (N := N0) hl4 0 (by omega) HN0.out).mono ?_
      rintro e w5 ⟨rfl, hl5, hk5⟩
      go_wp2_with fail
      refine (waiting_is (N := 5) hl5 1 (by omega) rfl).mono ?_
      rintro e w6 ⟨rfl, hl6, hk6⟩
      go_wp2_with fail
      refine (reset_to (e := j + 1 + 1) hl6 rfl (by omega)).mono ?_
      rintro e w7 ⟨rfl, hl7, hk7⟩
      have HK7 := Lib.hid (HK4.out.trans (hk5.trans (hk6.trans hk7))); clear hk5 hk6 hk7 hl4 hl5 hl6
      go_wp2_with fail
      refine (waiting_is (N := 0) hl7 0 (by omega) rfl).mono ?_
      rintro e w8 ⟨rfl, hl8, hk8⟩
      go_wp2_with fail
      refine (waiting_is (N := 0) hl8 1 (by omega) rfl).mono ?_
      rintro e w9 ⟨rfl, hl9, hk9⟩
      go_wp2_with fail
      refine (space_is (z := 262144) hl9 0 (by omega) rfl).mono ?_
      rintro e w10 ⟨rfl, hl10, hk10⟩
      have HQ10 := Lib.hid (show Ep b w.heap.size w1.heap.size (j + 1) w1 w10 from ⟨hl10, HK7.out.trans (hk8.trans (hk9.trans hk10))⟩); clear hk8 hk9 hk10 hl7 hl8 hl9 hl10
      clear hZ
      go_wp2
      go_roundw
      case rel => exact ⟨j + 1, by omega, by go_num, HQ10.out⟩
      case measure => simp [intOf]; omega
    · have hlt' : ¬ (j : Int) < (M : Int) := by omega
      go_wp2_with fail
      refine (epoch_to (z := (M : Int) + 1) HQj.out.1 (by show ((j + 1 : Nat) : Int) = _; omega)).mono ?_
      rintro e w' ⟨rfl, rfl⟩
      go_wp2_with fail
      refine (spaceL_no _ 2 (.inr (by omega)) _).mono ?_
      rintro e w' ⟨rfl, n1, rfl⟩
      go_wp2_with fail
      refine (waitingL_no _ (-1) (.inl (by omega)) _).mono ?_
      rintro e w' ⟨rfl, n2, rfl⟩
      go_wp2
      go_ret
      exact ⟨rfl, (HB1.out.trans (HQj.out.2.below HB1.out.size)).trans (below_drewN' _)⟩
end Go.Proofs.YtkfbhiggnnjoiaaDoor
