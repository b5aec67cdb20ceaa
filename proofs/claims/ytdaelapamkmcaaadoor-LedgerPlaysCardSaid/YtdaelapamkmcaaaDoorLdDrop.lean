/- ledger: dropOldest. -/
import Derived.Test.YtdaelapamkmcaaaDoorLdDel
namespace Go.Proofs.YtdaelapamkmcaaaDoor
open Go.RowKit

set_option maxRecDepth 100000 in
set_option maxHeartbeats 2000000 in
theorem drop_any (base l : Nat) (v : Value) (ms : List Mk) (w : World) (h : LdAt base l v ms w) (hn : ms.length ≤ 1025) (h1 : 1 ≤ ms.length) :
    Calls Tryd.prog 28 #[.pointer (some ⟨l, 0, none⟩)] w fun e w' => e = .returned (.tuple #[]) ∧ (∃ v', LdAt base l v' (cutM ms) w') ∧ Kept base w w' := by
  obtain ⟨a, c, rfl, hrd⟩ := h.rd
  have HMIN := Lib.hid (minFunc_any a c ms w hrd.at' hn h1)
  have c0 : w.cell? ⟨l, 0, none⟩ = some (.slice a ms.length c) := hrd.blk.cell 0
  have hcut : cutM ms = ms.filter fun m => !(fun m : Mk => eqM m (minM ms)) m := rfl
  have HCUT := Lib.hid hcut
  have HDEL := Lib.hid (fun b W (hk : MkBx b (minM ms) W) hbg (hrow : W.ownsRow base 49 5 (.slice a ms.length c) ms.length (mkCells ms)) => del_oldest b (minM ms) base (.slice a ms.length c) ms W hk hbg hrow hn)
  rw [← hcut] at HDEL
  clear hcut
  have H := Lib.hid h
  clear h hrd
  obtain ⟨L, hL⟩ : ∃ L, ms.length = L := ⟨_, rfl⟩
  rw [hL] at c0 HMIN HDEL H
  have HL := Lib.hid hL
  clear hL hn h1
  generalize minM ms = o at HMIN HDEL
  obtain ⟨u, y, r, s, d⟩ := o
  go_enter Tryd.func28, Tryd.ntmps28
  go_wp2_with fail
  refine HMIN.out.mono ?_
  rintro e w1 ⟨rfl, hb⟩
  have h1 := H.out.later hb
  obtain ⟨w2, hw2⟩ : ∃ w2, w1.alloc (.cells #[.int .i64 u, .string y, .int .u64 (r : Int), .int .i64 s, .string d] 49) = w2 := ⟨_, rfl⟩
  have hb2 : Below w1.heap.size w1 w2 := by rw [← hw2]; exact (Below.refl _ _).alloc (Nat.le_refl _) _
  have q2 : Blk w2 w1.heap.size #[.int .i64 u, .string y, .int .u64 (r : Int), .int .i64 s, .string d] 49 := by rw [← hw2]; exact Blk.new _ _ _
  have h2 := h1.later hb2
  have c2 : w2.cell? ⟨l, 0, none⟩ = some (.slice a L c) := h2.blk.cell 0
  have HD := Lib.hid (HDEL.out w1.heap.size w2 q2 (fun g hg e => by have := (own_heap h1.row hg).2.1; omega) (by have := h2.row; rw [HL.out] at this; exact this))
  have H2 := Lib.hid h2
  have HK := Lib.hid (Kept.of (B := base) (hb.trans (hb2.mono hb.size)))
  have HW2 := Lib.hid hw2
  clear hb hb2 h1 h2 q2 hw2 H
  go_wp2_with (rw [HW2.out])
  refine HD.out.mono ?_
  rintro e w3 ⟨v', rfl, hrow3, hgr⟩
  have hne := row_block H2.out.row H2.out.blk (by decide)
  have hl3 : Blk w3 l #[.slice a L c] 53 := H2.out.blk.kept hgr (fun e => hne e.symm)
  have c3 : w3.cell? ⟨l, 0, none⟩ = some (.slice a L c) := hl3.cell 0
  have f3 : w3.frozen? ⟨l, 0, none⟩ = false := hl3.frozen 0
  have hturn := LdAt.turn (ms := ms) hl3 H2.out.bl hrow3 rfl
  have HT := Lib.hid (And.intro hturn.1 ((HK.out.trans (Kept.row H2.out.row (Nat.le_refl _) hgr)).trans hturn.2))
  obtain ⟨a', c', rfl⟩ := row_shape hrow3
  clear hne hl3 hturn hrow3 hgr c2 HK H2 HD HW2
  go_wp2_with fail
  go_end0
  exact ⟨rfl, ⟨_, HT.out.1⟩, HT.out.2⟩
end Go.Proofs.YtdaelapamkmcaaaDoor
