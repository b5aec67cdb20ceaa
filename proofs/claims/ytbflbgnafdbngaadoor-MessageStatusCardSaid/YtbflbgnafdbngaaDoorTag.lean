/- readTag: the walk. -/
import Derived.Test.YtbflbgnafdbngaaDoorField
import Derived.Test.YtbflbgnafdbngaaDoorVarint
import Derived.RegionTactic
import Derived.ChangeAlike
import Derived.Deep.RegionHeld3
namespace Go.Proofs.YtbflbgnafdbngaaDoor
open Go.RowKit

/-- A Num and a Kind that stand at the head of l, as one number; and of how many bytes. -/
def tagOf (l : List UInt8) : Option (Nat × Nat) :=
  match rd l with
  | none => none
  | some (t, k) => if t ≤ 4294967295 ∧ 8 ≤ t ∧ kindB ((t % 8 : Nat) : Int) = true then some (t, k) else none

/-- A fault that ends in the sentinel, of a depth up to d. -/
def Flt (b : Addr) : Nat → Value → Prop
  | 0, _ => False
  | d + 1, v => (∃ j : Int, v = .iface 145 (.agg #[.int .i64 j, Tryd.S b])) ∨ ∃ (j : Int) (u : Value), Flt b d u ∧ v = .iface 145 (.agg #[.int .i64 j, u])

/-- What readTag comes to. -/
def TagPost (b : Addr) (r : Option (Nat × Nat)) (w : World) (e : Ending) (w' : World) : Prop :=
  match r with
  | some (t, k) => e = .returned (.tuple #[fdV ((t / 8 : Nat) : Int) ((t % 8 : Nat) : Int) 0 ⟨#[]⟩, .int .i64 k, .nilIface]) ∧ Below w.heap.size w w'
  | none => (∃ j : Int, e = .returned (.tuple #[fdV 0 0 0 ⟨#[]⟩, .int .i64 0, .iface 145 (.agg #[.int .i64 j, Tryd.S b])])) ∧ Below w.heap.size w w'

theorem TagPost.none_of {b : Addr} {r : Option (Nat × Nat)} {w : World} {e : Ending} {w' : World} {j : Int} (hr : r = none) (he : e = .returned (.tuple #[fdV 0 0 0 ⟨#[]⟩, .int .i64 0, .iface 145 (.agg #[.int .i64 j, Tryd.S b])])) (hb : Below w.heap.size w w') : TagPost b r w e w' := by
  subst hr; exact ⟨⟨j, he⟩, hb⟩

set_option maxRecDepth 100000 in
set_option maxHeartbeats 1000000 in
theorem readTag_none1 (s : ByteArray) (b : Addr) (w : World) (hs : s.size ≤ maxLen) (hg : Gv b w) (hr : rd s.data.toList = none) :
    Calls Tryd.prog 73 #[.string s] w fun e w' => TagPost b (tagOf s.data.toList) w e w' := by
  have HT := Lib.hid (show tagOf s.data.toList = none by simp [tagOf, hr])
  have HR := Lib.hid hr; clear hr
  have hif := Tryd.ifaceErr
  go_enter Tryd.func73, Tryd.ntmps73
  go_wp2_with (go_at_call 74; refine (readNumber_any s b _ hs (hg.alloc _)).mono ?_; rw [HR.out]; rintro e w' ⟨⟨j, rfl⟩, n, rfl⟩)
  refine bodyPost_ret (v := .tuple #[fdV 0 0 0 ⟨#[]⟩, .int .i64 0, .iface 145 (.agg #[.int .i64 j, Tryd.S b])]) (by simp [results, Tryd.results73, go_sem]) rfl (TagPost.none_of HT.out rfl ?_)
  exact ((((below_drewN ((Below.refl _ _).alloc (Nat.le_refl _) _) n).setCell (Nat.le_refl _) _).setCell (Nat.le_refl _) _).setCell (Nat.le_refl _) _).setCell (Nat.le_refl _) _
theorem and7 (t : Nat) (h : t < 18446744073709551616) : bits BinOp.and IntKind.u64 (t : Int) 7 = (t : Int) % 8 := by
  have := u64_and_nat t 7 h (by omega)
  rw [show ((7 : Nat) : Int) = 7 from rfl] at this
  rw [this, show t &&& 7 = t % 2 ^ 3 from Nat.and_two_pow_sub_one_eq_mod t 3]
  omega

set_option maxRecDepth 100000 in
set_option maxHeartbeats 1000000 in
theorem readTag_big (s : ByteArray) (t k : Nat) (b : Addr) (w : World) (hs : s.size ≤ maxLen) (hg : Gv b w) (hr : rd s.data.toList = some (t, k)) (ht : ¬ t ≤ 4294967295) :
    Calls Tryd.prog 73 #[.string s] w fun e w' => TagPost b (tagOf s.data.toList) w e w' := by
  have HT := Lib.hid (show tagOf s.data.toList = none by simp [tagOf, hr]; omega)
  have HR := Lib.hid hr; clear hr
  have hif := Tryd.ifaceErr
  have hc := fun o => (hg.alloc o).1
  have hcw := hg.1
  have hcl := fun o o2 => ((hg.alloc o).alloc o2).1
  go_enter Tryd.func73, Tryd.ntmps73
  go_wp2_with (go_at_call 74; refine (readNumber_any s b _ hs (hg.alloc _)).mono ?_; rw [HR.out]; rintro e w' ⟨rfl, rfl⟩)
  go_region
  go_wp2
  refine bodyPost_ret (v := .tuple #[fdV 0 0 0 ⟨#[]⟩, .int .i64 0, .iface 145 (.agg #[.int .i64 0, Tryd.S b])]) (by simp [results, Tryd.results73, go_sem]) rfl (TagPost.none_of HT.out rfl ?_)
  repeat' (first | exact Below.refl _ _ | refine Below.drew ?_ | refine Below.alloc ?_ (by simp) _)

set_option maxRecDepth 100000 in
set_option maxHeartbeats 1000000 in
theorem readTag_num (s : ByteArray) (t k : Nat) (b : Addr) (w : World) (hs : s.size ≤ maxLen) (hg : Gv b w) (hr : rd s.data.toList = some (t, k)) (ht : t < 8) :
    Calls Tryd.prog 73 #[.string s] w fun e w' => TagPost b (tagOf s.data.toList) w e w' := by
  have HT := Lib.hid (show tagOf s.data.toList = none by simp [tagOf, hr]; omega)
  have HR := Lib.hid hr; clear hr
  have hif := Tryd.ifaceErr
  have hc := fun o => (hg.alloc o).1
  have hcw := hg.1
  have hcl := fun o o2 => ((hg.alloc o).alloc o2).1
  have hand := and7 t (by omega)
  have h8 : (t : Int) / 8 = 0 := by omega
  have H1 := Lib.hid (show numB 0 = false by simp [numB])
  go_enter Tryd.func73, Tryd.ntmps73
  go_wp2_with (first | (go_at_call 74; refine (readNumber_any s b _ hs (hg.alloc _)).mono ?_; rw [HR.out]; rintro e w' ⟨rfl, rfl⟩) | (go_at_call 57; refine (isNum_any _ _).mono ?_; rw [H1.out]; rintro e w' ⟨rfl, rfl⟩) | (go_at_call 58; refine (isKind_any _ _).mono ?_; rw [H2.out]; rintro e w' ⟨rfl, rfl⟩))
  go_region
  go_wp2
  refine bodyPost_ret (v := .tuple #[fdV 0 0 0 ⟨#[]⟩, .int .i64 0, .iface 145 (.agg #[.int .i64 0, Tryd.S b])]) (by simp [results, Tryd.results73, go_sem]) rfl (TagPost.none_of HT.out rfl ?_)
  repeat' (first | exact Below.refl _ _ | refine Below.drew ?_ | refine Below.alloc ?_ (by simp) _)

set_option maxRecDepth 100000 in
set_option maxHeartbeats 1000000 in
theorem readTag_kind (s : ByteArray) (t k : Nat) (b : Addr) (w : World) (hs : s.size ≤ maxLen) (hg : Gv b w) (hr : rd s.data.toList = some (t, k)) (ht1 : t ≤ 4294967295) (ht : 8 ≤ t) (hk : kindB ((t % 8 : Nat) : Int) = false) :
    Calls Tryd.prog 73 #[.string s] w fun e w' => TagPost b (tagOf s.data.toList) w e w' := by
  have HT := Lib.hid (show tagOf s.data.toList = none by simp [tagOf, hr]; intro _ _; simpa using hk)
  have HR := Lib.hid hr; clear hr
  have hif := Tryd.ifaceErr
  have hc := fun o => (hg.alloc o).1
  have hcw := hg.1
  have hcl := fun o o2 => ((hg.alloc o).alloc o2).1
  have hand := and7 t (by omega)
  have H1 := Lib.hid (show numB ((t : Int) / 8) = true by simp [numB]; omega)
  have H2 := Lib.hid (show kindB ((t : Int) % 8) = false by simpa using hk)
  clear hk
  go_enter Tryd.func73, Tryd.ntmps73
  go_wp2_with (first | (go_at_call 74; refine (readNumber_any s b _ hs (hg.alloc _)).mono ?_; rw [HR.out]; rintro e w' ⟨rfl, rfl⟩) | (go_at_call 57; refine (isNum_any _ _).mono ?_; rw [H1.out]; rintro e w' ⟨rfl, rfl⟩) | (go_at_call 58; refine (isKind_any _ _).mono ?_; rw [H2.out]; rintro e w' ⟨rfl, rfl⟩))
  go_region
  go_wp2
  refine bodyPost_ret (v := .tuple #[fdV 0 0 0 ⟨#[]⟩, .int .i64 0, .iface 145 (.agg #[.int .i64 0, Tryd.S b])]) (by simp [results, Tryd.results73, go_sem]) rfl (TagPost.none_of HT.out rfl ?_)
  repeat' (first | exact Below.refl _ _ | refine Below.drew ?_ | refine Below.alloc ?_ (by simp) _)

set_option maxRecDepth 100000 in
set_option maxHeartbeats 1000000 in
theorem readTag_yes (s : ByteArray) (t k : Nat) (b : Addr) (w : World) (hs : s.size ≤ maxLen) (hg : Gv b w) (hr : rd s.data.toList = some (t, k)) (ht1 : t ≤ 4294967295) (ht : 8 ≤ t) (hk : kindB ((t % 8 : Nat) : Int) = true) :
    Calls Tryd.prog 73 #[.string s] w fun e w' => TagPost b (tagOf s.data.toList) w e w' := by
  have HT := Lib.hid (show tagOf s.data.toList = some (t, k) by simp [tagOf, hr]; exact ⟨ht1, ht, by simpa using hk⟩)
  have HR := Lib.hid hr; clear hr
  have hif := Tryd.ifaceErr
  have hc := fun o => (hg.alloc o).1
  have hcw := hg.1
  have hcl := fun o o2 => ((hg.alloc o).alloc o2).1
  have hand := and7 t (by omega)
  have H1 := Lib.hid (show numB ((t : Int) / 8) = true by simp [numB]; omega)
  have H2 := Lib.hid (show kindB ((t : Int) % 8) = true by simpa using hk)
  clear hk
  go_enter Tryd.func73, Tryd.ntmps73
  go_wp2_with (first | (go_at_call 74; refine (readNumber_any s b _ hs (hg.alloc _)).mono ?_; rw [HR.out]; rintro e w' ⟨rfl, rfl⟩) | (go_at_call 57; refine (isNum_any _ _).mono ?_; rw [H1.out]; rintro e w' ⟨rfl, rfl⟩) | (go_at_call 58; refine (isKind_any _ _).mono ?_; rw [H2.out]; rintro e w' ⟨rfl, rfl⟩))
  refine bodyPost_ret (v := .tuple #[fdV ((t / 8 : Nat) : Int) ((t % 8 : Nat) : Int) 0 ⟨#[]⟩, .int .i64 k, .nilIface]) (by simp [results, Tryd.results73, go_sem]) rfl ?_
  rw [HT.out]
  refine ⟨rfl, ?_⟩
  repeat' (first | exact Below.refl _ _ | refine Below.drew ?_ | refine Below.alloc ?_ (by simp) _)

theorem readTag_any (s : ByteArray) (b : Addr) (w : World) (hs : s.size ≤ maxLen) (hg : Gv b w) :
    Calls Tryd.prog 73 #[.string s] w fun e w' => TagPost b (tagOf s.data.toList) w e w' := by
  cases hr : rd s.data.toList with
  | none => exact readTag_none1 s b w hs hg hr
  | some p =>
    obtain ⟨t, k⟩ := p
    by_cases h1 : t ≤ 4294967295
    · by_cases h2 : t < 8
      · exact readTag_num s t k b w hs hg hr h2
      · cases hk : kindB ((t % 8 : Nat) : Int) with
        | true => exact readTag_yes s t k b w hs hg hr h1 (by omega) hk
        | false => exact readTag_kind s t k b w hs hg hr h1 (by omega) hk
    · exact readTag_big s t k b w hs hg hr h1
end Go.Proofs.YtbflbgnafdbngaaDoor
