/- timer: the chapter's examples. -/
import Derived.Test.YtjcocgadhdgbjaaTmNew
import Derived.Test.YtjcocgadhdgbjaaTmDue
namespace Go.Proofs.Ytjcocgadhdgbjaa
open Go.RowKit

theorem set_in (base t N : Nat) (F : Nat → Prop) (L L' : List Tm) (id : ByteArray) (x : Int) (a : Nat) (w : World) (hq : TmAt base t F N L w) (h0 : 0 < id.size) (hs : id.size ≤ 64) (hx : x = (a : Int)) (hroom : (dropL L id.data.toList).length < 1024) (hL : dropL L id.data.toList ++ [(id.data.toList, a)] = L') (hN : N ≤ 1099511627776) (hbase : base ≤ w.heap.size) :
    Calls Try.prog 17 #[.pointer (some ⟨t, 0, none⟩), .string id, .int .u64 x] w (TmPost base t F (N + 1) L' (.int .i64 0) w) := by
  subst hx hL
  exact set_ok base t N F L id a w hq h0 hs hroom hN hbase
theorem set_none (t : Nat) (x : Int) (w : World) :
    Calls Try.prog 17 #[.pointer (some ⟨t, 0, none⟩), .string ⟨#[]⟩, .int .u64 x] w fun e w' => e = .returned (.int .i64 1) ∧ w = w' := by
  go_enter Try.func17, Try.ntmps17
  go_wp2
  go_ret
  exact ⟨rfl, rfl⟩
/-- Due, where what falls due is known. -/
def DiPost (base t N : Nat) (F : Nat → Prop) (ms : List (List UInt8)) (L' : List Tm) (w : World) (e : Ending) (w' : World) : Prop :=
  ∃ a c, e = .returned (.slice a ms.length c) ∧ TmAt base t F N L' w' ∧ Kept F w w' ∧ w'.ownsRow w.heap.size 9 1 (.slice a ms.length c) ms.length (strV ms)
theorem due_in (base t N : Nat) (F : Nat → Prop) (L L' : List Tm) (ms : List (List UInt8)) (x : Int) (now : Nat) (w : World) (h : TmAt base t F N L w) (hx : x = (now : Int)) (hd : dueL now L = (ms, L')) :
    Calls Try.prog 13 #[.pointer (some ⟨t, 0, none⟩), .int .u64 x] w (DiPost base t N F ms L' w) := by
  subst hx
  refine (due_any base t N F L now w h).mono ?_
  rintro e w' ⟨lv, rfl, q, k, o⟩
  rw [hd] at q o
  obtain ⟨a, c, rfl⟩ := owns_slice o
  exact ⟨a, c, rfl, q, k, o⟩
theorem TmAt.under {base t N : Nat} {F : Nat → Prop} {L : List Tm} {w w' : World} (h : TmAt base t F N L w) (hk : Kept F w w') (hb : base ≤ w.heap.size) : Below base w w' := hk.below hb (fun _ hf => (h.low hf).1)
theorem due_ex : dueL 5 [([98], 5), ([97], 5), ([99], 3)] = ([[99], [98], [97]], []) := by decide
/-- The texts stand in a row. -/
theorem row_str {w : World} {base n c : Nat} {a : Option Addr} {ms : List (List UInt8)} (h : w.ownsRow base 9 1 (.slice a n c) n (strV ms)) (i : Nat) (m : List UInt8) (hm : ms[i]? = some m) : ∃ g, a = some ⟨g, 0, none⟩ ∧ g < w.heap.size ∧ base ≤ g ∧ w.cell? ⟨g, i, none⟩ = some (.string ⟨m.toArray⟩) := by
  rcases h.2 with ⟨hv, hn⟩ | ⟨g, cap, cur, hv, hbg, hlt, _⟩
  · have h1 := h.1
    subst hn
    rw [List.length_map] at h1
    have := (List.getElem?_eq_some_iff.1 hm).1
    omega
  · cases hv
    refine ⟨g, rfl, (Array.getElem?_eq_some_iff.1 hlt).1, hbg, ?_⟩
    have hi := (List.getElem?_eq_some_iff.1 hm).1
    have h1 := h.1
    rw [List.length_map] at h1
    exact (h.cellAt i (by omega)).trans (by rw [List.getElem?_map, hm]; rfl)
theorem nilT (t : Nat) (w : World) : (binOp .eql 24 (.pointer (some ⟨t, 0, none⟩)) (.pointer none)).run Try.prog w = .ok (.bool false) w := by kernel_rfl

set_option maxRecDepth 100000 in
set_option maxHeartbeats 4000000 in
theorem examples_any (w : World) :
    Calls Try.prog 8 #[] w fun e w' => e = .returned (.bool true) ∧ Below w.heap.size w w' := by
  go_enter Try.func8, Try.ntmps8
  go_wp2_with fail
  refine (new_any w).mono ?_
  rintro e w1 ⟨t, F, rfl, q1, _, hb1⟩
  go_wp2_with fail
  refine (next_none _ t _ F w1 q1).mono ?_
  rintro e w' ⟨rfl, rfl⟩
  go_wp2_with fail
  refine (set_none t 1 w1).mono ?_
  rintro e w' ⟨rfl, rfl⟩
  go_wp2_with fail
  refine (set_in _ t _ F [] [([98], 5)] ⟨#[98]⟩ 5 5 w1 q1 (by decide) (by decide) rfl (by decide) rfl (by decide) hb1.size).mono ?_
  rintro e w2 ⟨F2, rfl, q2, k2, f2⟩
  have hB2 := hb1.trans (q1.under k2 hb1.size)
  go_wp2_with fail
  refine (set_in _ t _ F2 _ [([98], 5), ([97], 5)] ⟨#[97]⟩ 5 5 w2 q2 (by decide) (by decide) rfl (by decide) rfl (by decide) hB2.size).mono ?_
  rintro e w3 ⟨F3, rfl, q3, k3, f3⟩
  have hB3 := hB2.trans (q2.under k3 hB2.size)
  go_wp2_with fail
  refine (set_in _ t _ F3 _ [([98], 5), ([97], 5), ([99], 3)] ⟨#[99]⟩ 3 3 w3 q3 (by decide) (by decide) rfl (by decide) rfl (by decide) hB3.size).mono ?_
  rintro e w4 ⟨F4, rfl, q4, k4, f4⟩
  have hB4 := hB3.trans (q3.under k4 hB3.size)
  go_wp2_with fail
  refine (due_in _ t _ F4 _ [] [[99], [98], [97]] 5 5 w4 q4 rfl due_ex).mono ?_
  rintro e w5 ⟨a, c, rfl, q5, k5, o5⟩
  have hB5 := hB4.trans (q4.under k5 hB4.size)
  obtain ⟨g, rfl, _, _, c0⟩ := row_str o5 0 [99] rfl
  obtain ⟨g', e', _, _, c1⟩ := row_str o5 1 [98] rfl
  obtain rfl : g = g' := by cases e'; rfl
  clear q1 q2 q3 q4 k2 k3 k4 k5 hb1 hB2 hB3 hB4 f2 f3 f4 o5
  go_wp2_with fail
  refine (stop_any _ t _ F4 [] ⟨#[97]⟩ w5 q5 (by decide)).mono ?_
  rintro e w6 ⟨rfl, q6, k6⟩
  have hB6 := hB5.trans (q5.under k6 hB5.size)
  go_wp2_with fail
  refine (len_any _ t _ F4 [] w6 q6).mono ?_
  rintro e w' ⟨rfl, rfl⟩
  go_wp2
  go_ret
  exact ⟨rfl, hB6⟩
end Go.Proofs.Ytjcocgadhdgbjaa
