/- link: a stream begun anew. -/
import Derived.Test.YtkfbhiggnnjoiaaDoorLkMove
import Derived.Deep.RegionHeld3
import Derived.Deep.AppendLies
import Derived.Deep.RegionLaw
import Derived.Deep.DeepCutAuto
import Derived.Deep.CutRange
import Derived.Deep.CutBlock
namespace Go.Proofs.YtkfbhiggnnjoiaaDoor
open Go.RowKit Go.Lib

set_option maxRecDepth 100000 in
theorem heard_raw (l : Nat) (c : Array Value) (v : Value) (w : World) (h : Blk w l c 59) (hc : c[7]? = some v) :
    Calls Tryd.prog 24 #[.pointer (some ⟨l, 0, none⟩)] w fun e w' => e = .returned (.tuple #[]) ∧ w' = w.setCell ⟨l, 7, none⟩ (.int .i64 0) := by
  have c7 := (h.cell 7).trans hc
  have f7 := h.frozen 7
  clear hc
  go_enter Tryd.func24, Tryd.ntmps24
  go_wp2
  go_end0
  exact ⟨rfl, rfl⟩

abbrev rwCells (x0 x1 x2 x3 x4 x5 x7 : Value) (ep : Nat) : Array Value := #[x0, x1, x2, x3, x4, x5, .int .u64 (ep : Int), x7]
def newWa (r : Nat) : Wa := ⟨r, .slice none 0 0, .slice none 0 0, [], ⟨[], []⟩⟩
def newP (r0 r1 : Nat) : Nat → Wa := fun k => if k = 0 then newWa r0 else newWa r1
theorem Blk.other {W : World} {B l j : Nat} {c : Array Value} {t : TypeId} {v : Value} (h : Blk W B c t) (hn : B ≠ l) : Blk (W.setCell ⟨l, j, none⟩ v) B c t := h.kept (grown_set W l j v) (fun e => hn (Option.some.inj e))
theorem kept_set3 {B l i j k : Nat} {w : World} {c : Array Value} (h : Blk w l c 59) (hB : B ≤ l) (u v x : Value) : Kept B w (((w.setCell ⟨l, i, none⟩ u).setCell ⟨l, j, none⟩ v).setCell ⟨l, k, none⟩ x) :=
  ((Kept.set h hB (.inl rfl) i u).trans (Kept.set (h.set i u) hB (.inl rfl) j v)).trans (Kept.set ((h.set i u).set j v) hB (.inl rfl) k x)
theorem newWa_at {w : World} {base r : Nat} (h : Blk w r #[.slice none 0 0, .int .i64 0] 80) (hr : base ≤ r) : WaAt base w (newWa r) :=
  ⟨⟨h, World.ownsRow_nil _ _ _ _, hr⟩, World.ownsRow_nil _ _ _ _, fun g e => by cases e⟩
theorem newP_apart {r0 r1 : Nat} (h : r0 ≠ r1) : ∀ k j, k < 2 → j < 2 → k ≠ j → Apart (newP r0 r1 k) (newP r0 r1 j) := by
  intro k j hk hj hkj
  refine ⟨?_, ?_, ?_, ?_, ?_⟩
  · match k, j, hk, hj with
    | 0, 0, _, _ => exact absurd rfl hkj
    | 1, 1, _, _ => exact absurd rfl hkj
    | 0, 1, _, _ => exact h
    | 1, 0, _, _ => exact fun e => h e.symm
  all_goals
    intro g e
    have : ∀ k, (newP r0 r1 k).v.ownBlock = none ∧ (newP r0 r1 k).b.ownBlock = none := by intro k; unfold newP; split <;> exact ⟨rfl, rfl⟩
    first
      | (rw [(this k).1] at e; cases e)
      | (rw [(this k).2] at e; cases e)
theorem newP_is {b : Addr} {base l r0 r1 e : Nat} {w : World} (hblk : Blk w l (lkCells (newP r0 r1) e 0) 59) (h0 : Blk w r0 #[.slice none 0 0, .int .i64 0] 80) (h1 : Blk w r1 #[.slice none 0 0, .int .i64 0] 80)
    (hb0 : base ≤ r0) (hb1 : base ≤ r1) (hne : r0 ≠ r1) (hbl : base ≤ l) (hg : Gs b w) (hge : Ge w) (g0 : 0 < base) (g1 : 1 < base) : LkIs b base l (lk0 e) w := by
  refine ⟨newP r0 r1, ⟨hblk, ?_, newP_apart hne, hbl, hg, hge, g0, g1⟩, lk0_ok e, ?_⟩
  · intro k hk
    match k, hk with
    | 0, _ => exact newWa_at h0 hb0
    | 1, _ => exact newWa_at h1 hb1
  · intro k hk
    match k, hk with
    | 0, _ => exact ⟨rfl, Nat.zero_le _⟩
    | 1, _ => exact ⟨rfl, Nat.zero_le _⟩

set_option maxRecDepth 100000 in
set_option maxHeartbeats 1000000 in
theorem reset_any (b : Addr) (base l ep : Nat) (x0 x1 x2 x3 x4 x5 x7 : Value) (w : World) (h : Blk w l (rwCells x0 x1 x2 x3 x4 x5 x7 ep) 59) (hbl : base ≤ l) (hg : Gs b w) (hge : Ge w) (g0 : 0 < base) (g1 : 1 < base) (hep : ep ≤ 1000000) :
    Calls Tryd.prog 22 #[.pointer (some ⟨l, 0, none⟩)] w fun e w' => e = .returned (.tuple #[]) ∧ LkIs b base l (lk0 (ep + 1)) w' ∧ Kept base w w' := by
  have HX := Lib.hid (And.intro h (And.intro hg hge)); clear h hg hge
  go_enter Tryd.func22, Tryd.ntmps22
  go_wp2_with fail
  refine wp_loop_rounds 3 ?_
  rw [rounds_succ]
  go_wp2_with fail
  have hd : Blk w.drew l (rwCells x0 x1 x2 x3 x4 x5 x7 ep) 59 := HX.out.1.below ((Below.refl _ _).drew) HX.out.1.lt
  have HD := Lib.hid hd; clear hd
  go_region_law (first | (go_simp; go_at_call 38; refine (newWay_any _).mono ?_; rintro e w1 ⟨r0, rfl, hr0, hb0, hw1⟩; have hl1 := HD.out.below hw1 HD.out.lt; have y0 := hl1.cell 0; have y1 := hl1.cell 1; have y2 := hl1.cell 2; have z0 := hl1.frozen 0; have z1 := hl1.frozen 1; have z2 := hl1.frozen 2))
  have H1 := Lib.hid (And.intro hr0 (And.intro hb0 (And.intro hw1 hl1))); clear hr0 hb0 hw1 hl1 y0 y1 y2 z0 z1 z2
  have hs1 : Blk (((w1.setCell ⟨l, 0, none⟩ (.pointer (some ⟨r0, 0, none⟩))).setCell ⟨l, 1, none⟩ (.slice none 0 0)).setCell ⟨l, 2, none⟩ (.int .i64 0)) l #[.pointer (some ⟨r0, 0, none⟩), .slice none 0 0, .int .i64 0, x3, x4, x5, .int .u64 (ep : Int), x7] 59 := ((H1.out.2.2.2.set 0 (.pointer (some ⟨r0, 0, none⟩))).set 1 (.slice none 0 0)).set 2 (.int .i64 0)
  have hk1 : Kept base w (((w1.setCell ⟨l, 0, none⟩ (.pointer (some ⟨r0, 0, none⟩))).setCell ⟨l, 1, none⟩ (.slice none 0 0)).setCell ⟨l, 2, none⟩ (.int .i64 0)) := by
    exact (Kept.of ((Below.refl _ _).drew.trans H1.out.2.2.1)).trans (kept_set3 H1.out.2.2.2 hbl _ _ _)
  have hr1 : Blk (((w1.setCell ⟨l, 0, none⟩ (.pointer (some ⟨r0, 0, none⟩))).setCell ⟨l, 1, none⟩ (.slice none 0 0)).setCell ⟨l, 2, none⟩ (.int .i64 0)) r0 #[.slice none 0 0, .int .i64 0] 80 := by
    have hn := Blk.ne H1.out.2.1 H1.out.2.2.2 (by decide)
    exact ((H1.out.2.1.other hn).other hn).other hn
  obtain ⟨w2, hw2⟩ : ∃ w2 : World, ((w1.setCell ⟨l, 0, none⟩ (.pointer (some ⟨r0, 0, none⟩))).setCell ⟨l, 1, none⟩ (.slice none 0 0)).setCell ⟨l, 2, none⟩ (.int .i64 0) = w2 := ⟨_, rfl⟩
  rw [hw2] at hs1 hk1 hr1 ⊢
  have H2 := Lib.hid (And.intro hs1 (And.intro hk1 hr1)); clear hs1 hk1 hr1 hw2
  go_wp2_with fail
  rw [rounds_succ]
  go_wp2_with fail
  have hd : Blk w2.drew l #[.pointer (some ⟨r0, 0, none⟩), .slice none 0 0, .int .i64 0, x3, x4, x5, .int .u64 (ep : Int), x7] 59 := H2.out.1.below ((Below.refl _ _).drew) H2.out.1.lt
  have HD2 := Lib.hid hd; clear hd
  go_region_law (first | (go_simp; go_at_call 38; refine (newWay_any _).mono ?_; rintro e w3 ⟨r1, rfl, hr1, hb1, hw3⟩; have hl3 := HD2.out.below hw3 HD2.out.lt; have y0 := hl3.cell 3; have y1 := hl3.cell 4; have y2 := hl3.cell 5; have z0 := hl3.frozen 3; have z1 := hl3.frozen 4; have z2 := hl3.frozen 5))
  have H3 := Lib.hid (And.intro hr1 (And.intro hb1 (And.intro hw3 hl3))); clear hr1 hb1 hw3 hl3 y0 y1 y2 z0 z1 z2
  have hs3 : Blk (((w3.setCell ⟨l, 3, none⟩ (.pointer (some ⟨r1, 0, none⟩))).setCell ⟨l, 4, none⟩ (.slice none 0 0)).setCell ⟨l, 5, none⟩ (.int .i64 0)) l #[.pointer (some ⟨r0, 0, none⟩), .slice none 0 0, .int .i64 0, .pointer (some ⟨r1, 0, none⟩), .slice none 0 0, .int .i64 0, .int .u64 (ep : Int), x7] 59 := ((H3.out.2.2.2.set 3 (.pointer (some ⟨r1, 0, none⟩))).set 4 (.slice none 0 0)).set 5 (.int .i64 0)
  have hk3 : Kept base w (((w3.setCell ⟨l, 3, none⟩ (.pointer (some ⟨r1, 0, none⟩))).setCell ⟨l, 4, none⟩ (.slice none 0 0)).setCell ⟨l, 5, none⟩ (.int .i64 0)) :=
    H2.out.2.1.trans ((Kept.of ((Below.refl _ _).drew.trans H3.out.2.2.1)).trans (kept_set3 H3.out.2.2.2 hbl _ _ _))
  have hr3 : Blk (((w3.setCell ⟨l, 3, none⟩ (.pointer (some ⟨r1, 0, none⟩))).setCell ⟨l, 4, none⟩ (.slice none 0 0)).setCell ⟨l, 5, none⟩ (.int .i64 0)) r1 #[.slice none 0 0, .int .i64 0] 80 := by
    have hn := Blk.ne H3.out.2.1 H3.out.2.2.2 (by decide)
    exact ((H3.out.2.1.other hn).other hn).other hn
  have hr0 : Blk (((w3.setCell ⟨l, 3, none⟩ (.pointer (some ⟨r1, 0, none⟩))).setCell ⟨l, 4, none⟩ (.slice none 0 0)).setCell ⟨l, 5, none⟩ (.int .i64 0)) r0 #[.slice none 0 0, .int .i64 0] 80 := by
    have hd : Blk w2.drew r0 #[.slice none 0 0, .int .i64 0] 80 := H2.out.2.2.below ((Below.refl _ _).drew) H2.out.2.2.lt
    have h3 := hd.below H3.out.2.2.1 hd.lt
    have hn := Blk.ne h3 H3.out.2.2.2 (by decide)
    exact ((h3.other hn).other hn).other hn
  have hne : r0 ≠ r1 := by
    have h1 := H2.out.2.2.lt
    have h2 := H3.out.1
    rw [World.size_drew] at h2
    omega
  have hb0' : base ≤ r0 ∧ base ≤ r1 := by
    have h0 := H1.out.1
    rw [World.size_drew] at h0
    have h1 := H2.out.2.2.lt
    have h2 := H3.out.1
    rw [World.size_drew] at h2
    have := HX.out.1.lt
    omega
  obtain ⟨w4, hw4⟩ : ∃ w4 : World, ((w3.setCell ⟨l, 3, none⟩ (.pointer (some ⟨r1, 0, none⟩))).setCell ⟨l, 4, none⟩ (.slice none 0 0)).setCell ⟨l, 5, none⟩ (.int .i64 0) = w4 := ⟨_, rfl⟩
  rw [hw4] at hs3 hk3 hr3 hr0 ⊢
  have d6 : w4.cell? ⟨l, 6, none⟩ = some (.int .u64 (ep : Int)) := hs3.cell 6
  have f6 := hs3.frozen 6
  have H4 := Lib.hid (And.intro hs3 (And.intro hk3 (And.intro hr3 (And.intro hr0 (And.intro hne hb0'))))); clear hs3 hk3 hr3 hr0 hne hb0' hw4
  go_wp2_with fail
  rw [rounds_succ]
  go_wp2_with fail
  have hs5 : Blk (w4.setCell ⟨l, 6, none⟩ (.int .u64 ((ep : Int) + 1))) l #[.pointer (some ⟨r0, 0, none⟩), .slice none 0 0, .int .i64 0, .pointer (some ⟨r1, 0, none⟩), .slice none 0 0, .int .i64 0, .int .u64 ((ep : Int) + 1), x7] 59 := H4.out.1.set 6 (.int .u64 ((ep : Int) + 1))
  refine (heard_raw l _ _ _ hs5 rfl).mono ?_
  rintro e w' ⟨rfl, rfl⟩
  have hs6 : Blk _ l #[.pointer (some ⟨r0, 0, none⟩), .slice none 0 0, .int .i64 0, .pointer (some ⟨r1, 0, none⟩), .slice none 0 0, .int .i64 0, .int .u64 ((ep : Int) + 1), .int .i64 0] 59 := hs5.set 7 (.int .i64 0)
  go_wp2
  go_end0
  have hk6 : Kept base w ((w4.setCell ⟨l, 6, none⟩ (.int .u64 ((ep : Int) + 1))).setCell ⟨l, 7, none⟩ (.int .i64 0)) :=
    H4.out.2.1.trans ((Kept.set H4.out.1 hbl (.inl rfl) _ _).trans (Kept.set hs5 hbl (.inl rfl) _ _))
  have hbel := hk6.below (Nat.le_trans hbl (Nat.le_of_lt HX.out.1.lt))
  have hn0 := Blk.ne H4.out.2.2.2.1 H4.out.1 (by decide)
  have hn1 := Blk.ne H4.out.2.2.1 H4.out.1 (by decide)
  refine ⟨rfl, newP_is ?_ ((H4.out.2.2.2.1.other hn0).other hn0) ((H4.out.2.2.1.other hn1).other hn1) H4.out.2.2.2.2.2.1 H4.out.2.2.2.2.2.2 H4.out.2.2.2.2.1 hbl (HX.out.2.1.low hbel g1) (HX.out.2.2.low hbel g0) g0 g1, hk6⟩
  have he : lkCells (newP r0 r1) (ep + 1) 0 = #[.pointer (some ⟨r0, 0, none⟩), .slice none 0 0, .int .i64 0, .pointer (some ⟨r1, 0, none⟩), .slice none 0 0, .int .i64 0, .int .u64 ((ep : Int) + 1), .int .i64 0] := rfl
  rw [he]
  exact hs6
set_option maxRecDepth 100000 in
theorem newLink_any (b : Addr) (base : Nat) (w : World) (hB : base ≤ w.heap.size) (hg : Gs b w) (hge : Ge w) (g0 : 0 < base) (g1 : 1 < base) :
    Calls Tryd.prog 11 #[] w fun e w' => e = .returned (.pointer (some ⟨w.heap.size, 0, none⟩)) ∧ LkIs b base w.heap.size (lk0 1) w' ∧ Kept base w w' := by
  have hA : Blk (w.alloc (.cells #[.pointer none, .slice none 0 0, .int .i64 0, .pointer none, .slice none 0 0, .int .i64 0, .int .u64 0, .int .i64 0] 59)) w.heap.size (rwCells (.pointer none) (.slice none 0 0) (.int .i64 0) (.pointer none) (.slice none 0 0) (.int .i64 0) (.int .i64 0) 0) 59 := Blk.new w _ _
  have hb : Below w.heap.size w (w.alloc (.cells #[.pointer none, .slice none 0 0, .int .i64 0, .pointer none, .slice none 0 0, .int .i64 0, .int .u64 0, .int .i64 0] 59)) := (Below.refl _ _).alloc (Nat.le_refl _) _
  have HA := Lib.hid (And.intro hA (And.intro hb (And.intro hg hge))); clear hA hb hg hge
  go_enter Tryd.func11, Tryd.ntmps11
  go_wp2_with fail
  refine (reset_any b base w.heap.size 0 _ _ _ _ _ _ _ _ HA.out.1 hB (HA.out.2.2.1.below HA.out.2.1) (HA.out.2.2.2.below HA.out.2.1) g0 g1 (by omega)).mono ?_
  rintro e w' ⟨rfl, hl, hk⟩
  go_wp2
  go_ret
  exact ⟨rfl, hl, (Kept.of HA.out.2.1).trans hk⟩
end Go.Proofs.YtkfbhiggnnjoiaaDoor
