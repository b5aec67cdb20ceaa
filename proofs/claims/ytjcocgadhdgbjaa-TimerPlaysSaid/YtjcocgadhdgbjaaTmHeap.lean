/- timer: container/heap over the pile. -/
import Derived.Test.YtjcocgadhdgbjaaTmPop
namespace Go.Proofs.Ytjcocgadhdgbjaa
open Go.RowKit

theorem Try.mLen (n : Nat) (v : Value) (w : World) : (Go.method (n + 1) 52 v "Len").run Try.prog w = .ok (41, v) w := by kernel_rfl
theorem Try.mLess (n : Nat) (v : Value) (w : World) : (Go.method (n + 1) 52 v "Less").run Try.prog w = .ok (52, v) w := by kernel_rfl
theorem Try.mSwap (n : Nat) (v : Value) (w : World) : (Go.method (n + 1) 52 v "Swap").run Try.prog w = .ok (55, v) w := by kernel_rfl
theorem Try.mPush (n : Nat) (v : Value) (w : World) : (Go.method (n + 1) 52 v "Push").run Try.prog w = .ok (54, v) w := by kernel_rfl
theorem Try.mPop (n : Nat) (v : Value) (w : World) : (Go.method (n + 1) 52 v "Pop").run Try.prog w = .ok (53, v) w := by kernel_rfl
abbrev pileI (p : Nat) : Value := .iface 52 (.pointer (some ⟨p, 0, none⟩))

def UpRel (base p m : Nat) (v : Value) (h : List En) (j0 : Nat) (w : World) (k : Nat) (w' : World) : Prop :=
  ∃ hh : List En, k < hh.length ∧ hh.length = h.length ∧ upF hh k = upF h j0 ∧ PileAt base p m v hh hh w' ∧ idsOk hh ∧ Kept (Foot p m v) w w'
def UpPost (base p m : Nat) (v : Value) (h : List En) (w : World) (e : Ending) (w' : World) : Prop := e = .returned (.tuple #[]) ∧ PileAt base p m v h h w' ∧ Kept (Foot p m v) w w'
theorem Kept.below' {S : Nat → Prop} {w w1 w2 : World} (h : Kept S w w1) (hb : Below w1.heap.size w1 w2) : Kept S w w2 := h.trans (Kept.of (S := fun _ => False) hb (Nat.le_refl _)) (fun _ e _ => e.elim)
theorem Kept.refl (S : Nat → Prop) (w : World) : Kept S w w := ⟨rfl, rfl, rfl, Nat.le_refl _, fun _ _ _ => rfl⟩
theorem Kept.then {S : Nat → Prop} {w w1 w2 : World} (h : Kept S w w1) (h' : Kept S w1 w2) : Kept S w w2 := h.trans h' (fun _ e _ => e)
set_option maxHeartbeats 2000000 in
set_option maxRecDepth 100000 in
theorem up_any (base p m : Nat) (v : Value) (h : List En) (j : Nat) (w : World) (q : PileAt base p m v h h w) (hk : idsOk h) (hj : j < h.length) (hs : h.length ≤ 1025) :
    Calls Try.prog 48 #[pileI p, .int .i64 (j : Int)] w (UpPost base p m v (upF h j) w) := by
  have m1 := Try.mLess
  have m2 := Try.mSwap
  have hR : UpRel base p m v h j w j w := ⟨h, hj, rfl, rfl, q, hk, Kept.refl _ _⟩
  have HR := Lib.hid hR
  clear hR q
  go_enter Try.func48, Try.ntmps48
  go_wp2
  go_loopw [1] (fun jv wr => ∃ k : Nat, jv = .int .i64 (k : Int) ∧ UpRel base p m v h j w k wr) (fun jv _ => (intOf jv).toNat)
  case atStart => exact ⟨j, rfl, HR.out⟩
  case round =>
    obtain ⟨k, rfl, hh, hk1, hl, hup, q, hid, hkept⟩ := hrel
    by_cases h0 : k = 0
    · subst h0
      have HX := Lib.hid (And.intro hup (And.intro q hkept))
      rw [upF_zero] at hup
      go_wp2
      go_end0
      exact ⟨rfl, by rw [← hup]; exact q, hkept⟩
    · obtain ⟨i, hi⟩ : ∃ i, (k - 1) / 2 = i := ⟨_, rfl⟩
      have hI : ((k : Int) - 1) / 2 = (i : Int) := by omega
      have hne : ((i : Int) == (k : Int)) = false := by simp; omega
      have hil : i < hh.length := by omega
      have hik : i ≠ k := by omega
      have kb : (k : Int) ≤ 1025 := by omega
      have kb1 : 1 ≤ (k : Int) := by omega
      have HX := Lib.hid (And.intro (And.intro hi hl) (And.intro hup (And.intro (And.intro q hid) hkept)))
      clear hi hup q hid hkept
      cases hl2 : lsB (gt hh k) (gt hh i) with
      | false =>
        have HL := Lib.hid hl2
        clear hl2
        go_wp2_with fail
        refine (less_any base p m v hh hh k i wr HX.out.2.2.1.1 hk1 hil (by have := HX.out.1.2; omega)).mono ?_
        rintro e w1 ⟨rfl, hb1⟩
        rw [HL.out]
        go_wp2
        go_end0
        obtain ⟨⟨hi, hl⟩, hup, ⟨q, hid⟩, hkept⟩ := HX.out
        have hl2 := HL.out
        rw [upF_stop (by rw [hi]; exact hl2)] at hup
        exact ⟨rfl, by rw [← hup]; exact q.below hb1, hkept.below' hb1⟩
      | true =>
        have HL := Lib.hid hl2
        clear hl2
        go_wp2_with fail
        refine (less_any base p m v hh hh k i wr HX.out.2.2.1.1 hk1 hil (by have := HX.out.1.2; omega)).mono ?_
        rintro e w1 ⟨rfl, hb1⟩
        rw [HL.out]
        go_wp2_with fail
        refine (swap_any base p m v hh i k w1 (HX.out.2.2.1.1.below hb1) HX.out.2.2.1.2 hil hk1 (by have := HX.out.1.2; omega) hik).mono ?_
        rintro e w2 ⟨rfl, q2, hk2⟩
        go_wp2
        obtain ⟨⟨hi, hl⟩, hup, ⟨q, hid⟩, hkept⟩ := HX.out
        have hl2 := HL.out
        have hgo := upF_go h0 (by rw [hi]; exact hl2)
        rw [hi] at hgo
        go_roundw
        case rel => exact ⟨i, rfl, swp hh i k, by rw [swp_len]; exact hil, by rw [swp_len]; exact hl, hgo.symm.trans hup, q2, hid.perm (swp_perm hh i k hil hk1), (hkept.below' hb1).then hk2⟩
        case measure => simp [intOf]; omega
end Go.Proofs.Ytjcocgadhdgbjaa
