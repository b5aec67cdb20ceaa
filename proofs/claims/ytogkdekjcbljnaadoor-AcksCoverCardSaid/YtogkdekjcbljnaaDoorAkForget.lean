/- acks: Forget. -/
import Derived.Test.YtogkdekjcbljnaaDoorAkDrop
namespace Go.Proofs.YtogkdekjcbljnaaDoor
open Go.RowKit

def fgF (f : Int → Nat) (n : Nat) : Int → Nat := fun j => if 1 ≤ j ∧ j ≤ (n : Int) then 0 else f j
noncomputable def fgA (A : Ak) (k : Ky) (n : Nat) : Ak := { A with T := upd A.T k (fgF (A.T k) n) }
theorem fgA_zero (A : Ak) (k : Ky) : fgA A k 0 = A := by
  unfold fgA
  have : fgF (A.T k) 0 = A.T k := by
    funext j
    unfold fgF
    rw [if_neg (by omega)]
  rw [this, upd_self]
theorem fgA_next (A : Ak) (k : Ky) (n : Nat) : ({ fgA A k n with T := upd (fgA A k n).T k (upd ((fgA A k n).T k) ((n : Int) + 1) 0) } : Ak) = fgA A k (n + 1) := by
  unfold fgA
  show ({ A with T := upd (upd A.T k (fgF (A.T k) n)) k (upd ((upd A.T k (fgF (A.T k) n)) k) ((n : Int) + 1) 0) } : Ak) = _
  rw [upd_upd, upd_same]
  have : upd (fgF (A.T k) n) ((n : Int) + 1) 0 = fgF (A.T k) (n + 1) := by
    funext j
    by_cases e : j = (n : Int) + 1
    · subst e
      rw [upd_same]
      unfold fgF
      rw [if_pos (by omega)]
    · rw [upd_other e]
      unfold fgF
      by_cases h : 1 ≤ j ∧ j ≤ (n : Int)
      · rw [if_pos h, if_pos (by omega)]
      · rw [if_neg h, if_neg (by omega)]
  rw [this]
theorem fgA_all {A : Ak} (h : AkOk A) (k : Ky) : fgA A k 32 = { A with T := upd A.T k fun _ => 0 } := by
  unfold fgA
  have : fgF (A.T k) 32 = fun _ => 0 := by
    funext j
    unfold fgF
    by_cases h1 : 1 ≤ j ∧ j ≤ ((32 : Nat) : Int)
    · rw [if_pos h1]
    · rw [if_neg h1]
      exact Classical.byContradiction fun hn => by have := h.t k j hn; omega
  rw [this]
set_option maxRecDepth 100000 in
set_option maxHeartbeats 4000000 in
theorem forget_any {base : Nat} {b : AkB} {A : Ak} {w : World} {k : Ky} (h : AkIs base b A w) (hk : kyK k) :
    Calls Tryd.prog 13 #[.pointer (some ⟨b.m, 0, none⟩), kyE k] w fun e w' => e = .returned (.tuple #[]) ∧ AkIs base b (A.forget k) w' ∧ KeptA b base w w' := by
  obtain ⟨hok, CT, CR, CN, hin⟩ := h
  obtain ⟨t, x⟩ := k
  obtain ⟨w1, hw1, hb1, q1⟩ := ak_new w #[.int .i64 t, .string x] 27
  have HW1 := Lib.hid hw1
  have HIN := Lib.hid (hin.later hb1)
  have HK := Lib.hid (KeptA.of (b := b) (B := base) hb1)
  have HQ := Lib.hid q1
  have HOK := Lib.hid hok
  clear hw1 hb1 q1 hin hok
  go_enter Tryd.func13, Tryd.ntmps13
  go_wp2_with (rw [HW1.out])
  go_loopw [4] (fun vi wr => ∃ (n : Nat) (CT' : Tk → Option Value), vi = .int .i64 ((n : Int) + 1) ∧ n ≤ 32 ∧ AkIn base b (fgA A (t, x) n) CT' CR CN wr ∧ KeptA b base w wr ∧ Blk wr w.heap.size #[.int .i64 t, .string x] 27) (fun vi _ => 33 - (intOf vi).toNat)
  case atStart => exact ⟨0, CT, rfl, by omega, by rw [fgA_zero]; exact HIN.out, HK.out, HQ.out⟩
  case round =>
    clear HIN HK HQ HW1
    obtain ⟨n, CT', rfl, hn, hin, hkp, hq⟩ := hrel
    have y0 : wr.cell? ⟨w.heap.size, 0, none⟩ = some (.int .i64 t) := hq.cell 0
    have y1 : wr.cell? ⟨w.heap.size, 1, none⟩ = some (.string x) := hq.cell 1
    have hd : Below wr.heap.size wr wr.drew := (Below.refl _ _).drew
    by_cases hlt : n < 32
    · have b1 : (n : Int) + 1 ≤ 32 := by omega
      have b2 : IntKind.i64.wrap ((n : Int) + 1 + 1) = (n : Int) + 1 + 1 := by rw [IntKind.wrap_i64]; omega
      have c0 : wr.cell? ⟨b.m, 0, none⟩ = some (.map (some b.mt)) := hin.blk.cell 0
      obtain ⟨w5, hdel, ⟨CT5, hin5⟩, hk5, hg5⟩ := (hin.later hd).delT (k := (t, x)) (i := (n : Int) + 1) hk (by unfold i64B; omega) 0
      rw [fgA_next] at hin5
      have HE := Lib.hid (And.intro hin5 (And.intro (((hkp.trans (.of hd)).trans hk5)) (hk5.blk (hq.later hd) (by decide))))
      clear hin hkp hq hin5 hk5 hg5 hd
      go_wp2_with fail
      go_region
      all_goals
        go_wp2_with fail
        go_roundw
        case rel => exact ⟨n + 1, CT5, by go_num, by omega, HE.out.1, HE.out.2.1, HE.out.2.2⟩
        case measure => simp [intOf]; omega
    · obtain rfl : n = 32 := by omega
      have b1 : ¬ (((32 : Nat) : Int) + 1 ≤ 32) := by omega
      rw [show ((32 : Nat) : Int) + 1 = 33 from rfl] at b1 ⊢
      rw [fgA_all HOK.out] at hin
      have c1 : wr.cell? ⟨b.m, 1, none⟩ = some (.map (some b.mr)) := hin.blk.cell 1
      obtain ⟨w5, hdel, ⟨CR5, hin5⟩, hk5⟩ := (hin.later hd).delR (k := (t, x)) hk 0
      have hq5 := hk5.blk (hq.later hd) (by decide)
      have z0 : w5.cell? ⟨w.heap.size, 0, none⟩ = some (.int .i64 t) := hq5.cell 0
      have z1 : w5.cell? ⟨w.heap.size, 1, none⟩ = some (.string x) := hq5.cell 1
      have c2 : w5.cell? ⟨b.m, 2, none⟩ = some (.map (some b.mo)) := hin5.blk.cell 2
      have hd5 : Below w5.heap.size w5 w5.drew := (Below.refl _ _).drew
      obtain ⟨w6, hdel2, ⟨CN6, hin6⟩, hk6⟩ := (hin5.later hd5).delN (k := (t, x)) hk 0
      have HE := Lib.hid (show AkIs base b (A.forget (t, x)) w6 ∧ KeptA b base w w6 from ⟨⟨HOK.out.forget _, CT', CR5, CN6, hin6⟩, (((hkp.trans (.of hd)).trans hk5).trans (.of hd5)).trans hk6⟩)
      clear hin hkp hq hin5 hk5 hd hd5 hin6 hk6 hq5
      go_wp2_with fail
      go_region
      all_goals
        go_wp2_with fail
        go_region
        all_goals
          go_wp2_with fail
          go_end0
          exact ⟨rfl, HE.out.1, HE.out.2⟩
end Go.Proofs.YtogkdekjcbljnaaDoor
