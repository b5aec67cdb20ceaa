/- acks: take. -/
import Derived.Test.YtogkdekjcbljnaaDoorAkOwn
namespace Go.Proofs.YtogkdekjcbljnaaDoor
open Go.RowKit Go.Lib

set_option maxRecDepth 100000 in
set_option maxHeartbeats 2000000 in
theorem take_any {base : Nat} {b : AkB} {A : Ak} {CT : Tk → Option Value} {CR CN : Ky → Option Value} {w : World} (h : AkIn base b A CT CR CN w) {k : Ky} {i : Int} {q : Nat} (hk : kyK k) (hi : i64B i) :
    Calls Tryd.prog 17 #[.pointer (some ⟨b.m, 0, none⟩), tkE (k, i), .int .u64 (q : Int)] w fun e w' => e = .returned (.tuple #[]) ∧ (∃ CT', AkIn base b (A.take k i q) CT' CR CN w') ∧ KeptA b base w w' := by
  obtain ⟨m, hm⟩ : ∃ m, max (A.T k i) q = m := ⟨_, rfl⟩
  have HA := Lib.hid (show A.take k i q = { A with T := upd A.T k (upd (A.T k) i m) } by unfold Ak.take; rw [hm])
  obtain ⟨M, hM⟩ : ∃ M, A.T k i = M := ⟨_, rfl⟩
  obtain ⟨w1, hw1, hb1, q1⟩ := ak_new w #[.int .i64 k.1, .string k.2, .int .i64 i] 63
  have hd : Below w1.heap.size w1 w1.drew := (Below.refl _ _).drew
  have h1 := h.later hb1
  have h2 := h1.later hd
  have hl := h2.lookT hk hi
  obtain ⟨w2, hu, hin, hkept⟩ := h2.updT hk hi m
  have HE := Lib.hid (And.intro hin ((KeptA.of (b := b) (B := base) (hb1.trans (hd.mono hb1.size))).trans hkept))
  have c0 : w1.cell? ⟨b.m, 0, none⟩ = some (.map (some b.mt)) := h1.blk.cell 0
  obtain ⟨t, x⟩ := k
  have y0 : w1.cell? ⟨w.heap.size, 0, none⟩ = some (.int .i64 t) := q1.cell 0
  have y1 : w1.cell? ⟨w.heap.size, 1, none⟩ = some (.string x) := q1.cell 1
  have y2 : w1.cell? ⟨w.heap.size, 2, none⟩ = some (.int .i64 i) := q1.cell 2
  rw [hM] at hl hm
  have HW1 := Lib.hid hw1
  rw [HA.out]
  have hm' : max (M : Int) (q : Int) = (m : Int) := by omega
  clear hw1 hb1 q1 hin hkept h1 h2 h hM hm hd
  go_enter Tryd.func17, Tryd.ntmps17
  go_wp2_with (rw [HW1.out])
  go_region
  all_goals
    go_wp2_with fail
    go_end0
    exact ⟨rfl, HE.out.1, HE.out.2⟩
end Go.Proofs.YtogkdekjcbljnaaDoor
