/- link: calls with known answers; the chapter's examples. -/
import Derived.Test.YtkfbhiggnnjoiaaDoorLkTakeL
namespace Go.Proofs.YtkfbhiggnnjoiaaDoor
open Go.RowKit Go.Lib

theorem send_to {b : Addr} {base l E : Nat} {x x' : Lk} {w : World} (h : LkIs b base l x w) (k : Nat) (hk : k < 2) (s : ByteArray) (hs : s.size ≤ maxLen) (he : sendL x k s.data.toList = (E, x')) :
    Calls Tryd.prog 19 #[.pointer (some ⟨l, 0, none⟩), .int .i64 (k : Int), .string s] w (LkPost b base l (.int .i64 (E : Int)) x' w) := by
  have := send_way h k hk s hs; rw [he] at this; exact this
theorem inject_to {b : Addr} {base l E : Nat} {x x' : Lk} {w : World} (h : LkIs b base l x w) (k : Nat) (hk : k < 2) (s : ByteArray) (he : injL x k s.data.toList = (E, x')) :
    Calls Tryd.prog 21 #[.pointer (some ⟨l, 0, none⟩), .int .i64 (k : Int), .string s] w (LkPost b base l (.int .i64 (E : Int)) x' w) := by
  have := inject_way h k hk s; rw [he] at this; exact this
def TkTo (b : Addr) (base l N E : Nat) (ms : List (List UInt8)) (x' : Lk) (w : World) (e : Ending) (w' : World) : Prop :=
  ∃ a c, e = .returned (.tuple #[.slice a N c, .int .i64 (E : Int)]) ∧ w'.ownsRow w.heap.size 9 1 (.slice a N c) N (strV ms) ∧ LkIs b base l x' w' ∧ Kept base w w'
theorem take_to {b : Addr} {base l E N : Nat} {ms : List (List UInt8)} {x x' : Lk} {w : World} (h : LkIs b base l x w) (hep : x.ep ≤ 1000000) (k : Nat) (hk : k < 2) (n : Nat) (hn : (n : Int) ≤ 9223372036854775807) (he : takeL x k n = (ms, E, x')) (hN : ms.length = N) :
    Calls Tryd.prog 20 #[.pointer (some ⟨l, 0, none⟩), .int .i64 (k : Int), .int .i64 (n : Int)] w (TkTo b base l N E ms x' w) := by
  subst hN
  have := takeL_way h hep k hk n hn
  unfold TkPost at this
  rw [he] at this; exact this
theorem waiting_is {b : Addr} {base l N : Nat} {x : Lk} {w : World} (h : LkIs b base l x w) (k : Nat) (hk : k < 2) (hN : (x.at k).W.length = N) :
    Calls Tryd.prog 15 #[.pointer (some ⟨l, 0, none⟩), .int .i64 (k : Int)] w (LkPost b base l (.int .i64 (N : Int)) x w) := by
  subst hN
  refine (waitingL_way h k hk).mono ?_
  rintro e w' ⟨rfl, n, rfl⟩
  exact ⟨rfl, h.below (below_drewN' _), Kept.of (below_drewN' _)⟩
theorem space_is {b : Addr} {base l : Nat} {z : Int} {x : Lk} {w : World} (h : LkIs b base l x w) (k : Nat) (hk : k < 2) (hN : 262144 - ((x.at k).W.length : Int) = z) :
    Calls Tryd.prog 17 #[.pointer (some ⟨l, 0, none⟩), .int .i64 (k : Int)] w (LkPost b base l (.int .i64 z) x w) := by
  subst hN
  refine (spaceL_way h k hk).mono ?_
  rintro e w' ⟨rfl, n, rfl⟩
  exact ⟨rfl, h.below (below_drewN' _), Kept.of (below_drewN' _)⟩

def lkA : Lk := ⟨⟨[0, 0, 0, 1, 97], []⟩, ⟨[], []⟩, 1, 0⟩
theorem ex_send : sendL (lk0 1) 0 (⟨#[97]⟩ : ByteArray).data.toList = (0, lkA) := by rfl
theorem ex_take : takeL lkA 0 99 = ([[97]], 0, lk0 1) := by rfl
set_option maxRecDepth 100000 in
set_option maxHeartbeats 1000000 in
theorem examples_any (b : Addr) (w : World) (hg : Gs b w) (hge : Ge w) :
    Calls Tryd.prog 10 #[] w fun e w' => e = .returned (.bool true) ∧ Below w.heap.size w w' := by
  have h0 := hge.2
  have h1 := hg.2
  go_enter Tryd.func10, Tryd.ntmps10
  go_wp2_with fail
  refine (newLink_any b w.heap.size w (Nat.le_refl _) hg hge h0 h1).mono ?_
  rintro e w1 ⟨rfl, hl1, hk1⟩
  go_wp2_with fail
  refine (send_no w.heap.size 2 (.inr (by omega)) ⟨#[97]⟩ w1).mono ?_
  rintro e w' ⟨rfl, rfl⟩
  go_wp2_with fail
  refine (send_to hl1 0 (by omega) ⟨#[97]⟩ (by decide) ex_send).mono ?_
  rintro e w2 ⟨rfl, hl2, hk2⟩
  have hK2 := hk1.trans hk2
  clear hl1 hk1 hk2
  go_wp2_with fail
  refine (take_to hl2 (by decide) 0 (by omega) 99 (by omega) ex_take rfl).mono ?_
  rintro e w3 ⟨a, c, rfl, hown, hl3, hk3⟩
  have hK3 := hK2.trans hk3
  obtain ⟨g, rfl, hc⟩ := strAt_own hown 0 [97] rfl
  clear hl2 hk3 hK2 hown
  go_wp2_with fail
  refine (epoch_any hl3).mono ?_
  rintro e w' ⟨rfl, rfl⟩
  go_wp2_with fail
  refine (waiting_is (N := 0) hl3 0 (by omega) rfl).mono ?_
  rintro e w4 ⟨rfl, hl4, hk4⟩
  go_wp2_with fail
  refine (space_is (z := 262144) hl4 1 (by omega) rfl).mono ?_
  rintro e w5 ⟨rfl, hl5, hk5⟩
  go_wp2
  go_ret
  exact ⟨rfl, ((hK3.trans hk4).trans hk5).below (Nat.le_refl _)⟩
end Go.Proofs.YtkfbhiggnnjoiaaDoor
