/- link: the reference's Pack. -/
import Derived.Test.YtkfbhiggnnjoiaaDoorLkEx
namespace Go.Proofs.YtkfbhiggnnjoiaaDoor
open Go.RowKit Go.Lib

theorem ref_at (n : Nat) (h : n ≤ 65536) (w : World) :
    BytesAt (w.alloc (.cells #[.int .u8 0, .int .u8 ((n : Int) / 65536), .int .u8 ((n : Int) / 256 % 256), .int .u8 ((n : Int) % 256)] 5)) (some ⟨w.heap.size, 0, none⟩) (be4 n) := by
  intro j x hx
  refine ⟨w.heap.size, 0, rfl, ?_⟩
  rw [World.cell?_alloc_at _ _ _ _ (by simp), Nat.zero_add]
  have hj := (List.getElem?_eq_some_iff.1 hx).1
  rw [be4_len] at hj
  have h1 : ((n : Int) / 65536) = ((n / 65536 : Nat) : Int) := by omega
  have h2 : ((n : Int) / 256 % 256) = ((n / 256 % 256 : Nat) : Int) := by omega
  have h3 : ((n : Int) % 256) = ((n % 256 : Nat) : Int) := by omega
  rw [h1, h2, h3]
  match j, hj with
  | 0, _ => cases hx; exact congrArg some (u8_of _ 0 (by omega)).symm
  | 1, _ => cases hx; exact congrArg some (u8_of _ _ (by omega)).symm
  | 2, _ => cases hx; exact congrArg some (u8_of _ _ (by omega)).symm
  | 3, _ => cases hx; exact congrArg some (u8_of _ _ (by omega)).symm

set_option maxRecDepth 100000 in
theorem refPack_ok (s : ByteArray) (w : World) (h : okM s.data.toList) :
    Calls Tryd.prog 40 #[.string s] w fun e w' => e = .returned (.tuple #[.string ⟨(packL s.data.toList).toArray⟩, .bool true]) ∧ Below w.heap.size w w' := by
  obtain ⟨h1, h2⟩ := ok_bytes h
  clear h
  have hc := conv_bytes (c := 4) (ref_at s.size h2 w)
  rw [be4_len] at hc
  obtain ⟨T, hT⟩ : ∃ T : ByteArray, T = ⟨(be4 s.size).toArray⟩ := ⟨_, rfl⟩
  have HT4 : T.size ≤ 4 := by rw [hT]; exact Nat.le_refl _
  rw [← hT] at hc
  have HT := Lib.hid hT; clear hT
  go_enter Tryd.func40, Tryd.ntmps40
  go_wp2
  go_ret2
  refine ⟨?_, (Below.refl _ _).alloc (Nat.le_refl _) _⟩
  have : T ++ s = ⟨(packL s.data.toList).toArray⟩ := by
    rw [HT.out]; apply ByteArray.ext; apply Array.toList_inj.1
    simp [packL]
  rw [this]; rfl
set_option maxRecDepth 100000 in
theorem refPack_no (s : ByteArray) (w : World) (hs : s.size ≤ maxLen) (h : ¬ okM s.data.toList) :
    Calls Tryd.prog 40 #[.string s] w fun e w' => e = .returned (.tuple #[.string ⟨#[]⟩, .bool false]) ∧ w = w' := by
  unfold maxLen at hs
  have hz : s.size = 0 ∨ 65536 < s.size := by
    have := h
    unfold okM at this
    rw [show s.data.toList.length = s.size from rfl] at this
    omega
  clear h
  rcases hz with h0 | h0
  · have h1 : (s.size : Int) < 1 := by omega
    clear h0
    go_enter Tryd.func40, Tryd.ntmps40
    go_wp2
    go_ret2
    exact ⟨rfl, rfl⟩
  · have h1 : ¬ (s.size : Int) < 1 := by omega
    have h2 : (65536 : Int) < s.size := by omega
    clear h0
    go_enter Tryd.func40, Tryd.ntmps40
    go_wp2
    go_ret2
    exact ⟨rfl, rfl⟩
end Go.Proofs.YtkfbhiggnnjoiaaDoor
