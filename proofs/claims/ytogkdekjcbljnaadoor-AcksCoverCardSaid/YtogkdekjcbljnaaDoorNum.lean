/- Number and Text: the walks. -/
import Derived.Test.YtogkdekjcbljnaaDoorPut
namespace Go.Proofs.YtogkdekjcbljnaaDoor
open Go.RowKit

def numberL (num : Int) (n : Nat) : List UInt8 := if numB num then putL num 0 n ⟨#[]⟩ else []
def textL (num : Int) (s : ByteArray) : List UInt8 := if numB num then putL num 2 0 s else []

theorem numB_range {num : Int} (h : numB num = true) : 1 ≤ num ∧ num ≤ 536870911 := by simpa [numB] using h

theorem number_any (num : Int) (n : Nat) (b : Addr) (w : World) (hg : Gv b w) (hn : n < 2 ^ 64) :
    Calls Tryd.prog 69 #[.int .i64 num, .int .u64 n] w fun e w' => e = .returned (.string ⟨(numberL num n).toArray⟩) ∧ Below w.heap.size w w' := by
  have HN := Lib.hid hn; clear hn
  cases h : numB num with
  | true =>
    have hr := numB_range h
    have HP := Lib.hid (show numberL num n = putL num 0 n ⟨#[]⟩ by simp [numberL, h])
    have HO := Lib.hid (show okF num 0 n ⟨#[]⟩ = true by simp [okF, h, kindB, fsz]; rfl)
    have HR := Lib.hid hr; clear hr h
    go_enter Tryd.func69, Tryd.ntmps69
    go_wp2_with (go_at_call 78; refine (put_ok0 num n ⟨#[]⟩ b _ hg HN.out (by decide) HR.out.1 HR.out.2 HO.out).mono ?_; rintro e w' ⟨rfl, hb⟩)
    go_ret
    exact ⟨by rw [HP.out]; rfl, hb⟩
  | false =>
    have HP := Lib.hid (show numberL num n = [] by simp [numberL, h])
    have HO := Lib.hid (show okF num 0 n ⟨#[]⟩ = false by simp [okF, h])
    clear h
    go_enter Tryd.func69, Tryd.ntmps69
    go_wp2_with (go_at_call 78; refine (put_no num 0 n ⟨#[]⟩ b _ hg HO.out).mono ?_; rintro e w' ⟨rfl, hb⟩)
    go_ret
    exact ⟨by rw [HP.out]; rfl, hb⟩

theorem text_any (num : Int) (s : ByteArray) (b : Addr) (w : World) (hg : Gv b w) (hs : s.size ≤ 140737488355328) :
    Calls Tryd.prog 70 #[.int .i64 num, .string s] w fun e w' => e = .returned (.string ⟨(textL num s).toArray⟩) ∧ Below w.heap.size w w' := by
  have HN := Lib.hid hs; clear hs
  cases h : numB num with
  | true =>
    have hr := numB_range h
    have HP := Lib.hid (show textL num s = putL num 2 0 s by simp [textL, h])
    have HO := Lib.hid (show okF num 2 0 s = true by simp [okF, h, kindB, fsz])
    have HR := Lib.hid hr; clear hr h
    go_enter Tryd.func70, Tryd.ntmps70
    go_wp2_with (go_at_call 78; refine (put_ok2 num 0 s b _ hg (by omega) HN.out HR.out.1 HR.out.2 HO.out).mono ?_; rintro e w' ⟨rfl, hb⟩)
    go_ret
    exact ⟨by rw [HP.out]; rfl, hb⟩
  | false =>
    have HP := Lib.hid (show textL num s = [] by simp [textL, h])
    have HO := Lib.hid (show okF num 2 0 s = false by simp [okF, h])
    clear h
    go_enter Tryd.func70, Tryd.ntmps70
    go_wp2_with (go_at_call 78; refine (put_no num 2 0 s b _ hg HO.out).mono ?_; rintro e w' ⟨rfl, hb⟩)
    go_ret
    exact ⟨by rw [HP.out]; rfl, hb⟩
end Go.Proofs.YtogkdekjcbljnaaDoor
