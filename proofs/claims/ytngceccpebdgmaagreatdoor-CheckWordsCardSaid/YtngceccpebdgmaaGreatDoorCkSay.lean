/- check: a placed fault in words; Body over what is wrong first. -/
import Derived.Test.YtngceccpebdgmaaGreatDoorCkAs2
import Derived.Test.YtngceccpebdgmaaGreatDoorCkEx
import Derived.BigQuiet
namespace Go.Proofs.YtngceccpebdgmaaGreatDoor
open Go.RowKit

set_option maxRecDepth 100000 in
set_option maxHeartbeats 2000000 in
theorem itoa_1 (w : World) : Calls Tryz.prog 48 #[.int .i64 1] w fun e w' => e = .returned (.string ⟨#[49]⟩) ∧ w' = w := by
  go_enter Tryz.func48, Tryz.ntmps48
  go_wp2
  go_ret
  exact ⟨rfl, rfl⟩
set_option maxRecDepth 100000 in
set_option maxHeartbeats 2000000 in
theorem itoa_2 (w : World) : Calls Tryz.prog 48 #[.int .i64 2] w fun e w' => e = .returned (.string ⟨#[50]⟩) ∧ w' = w := by
  go_enter Tryz.func48, Tryz.ntmps48
  go_wp2
  go_ret
  exact ⟨rfl, rfl⟩

theorem as_PF' (i : Int) (s : ByteArray) (g : Nat) (old : Value) (w : World) (hg : Ge w) (ht0 : w.cell? ⟨g, 0, none⟩ = some old) (hf0 : w.frozen? ⟨g, 0, none⟩ = false) :
    Calls Tryz.prog 47 #[.iface 97 (.agg #[.int .i64 i, .iface 93 (.string s)]), .iface 95 (.pointer (some ⟨g, 0, none⟩))] w fun ev w' => ev = .returned (.bool true) ∧ w'.cell? ⟨g, 0, none⟩ = some (.string s) ∧ Below g w w' ∧ w.heap.size ≤ w'.heap.size := by
  have hlt : g < w.heap.size := World.block_lt_of_cell? w _ ht0
  refine (as_PF i s ⟨g, 0, none⟩ old w hg ht0 hf0).mono ?_
  rintro e w' ⟨rfl, rfl⟩
  have h4 := (ck_four w (.cells #[.pointer (some ⟨g, 0, none⟩)] 95) (.cells #[.pointer (some ⟨6, 95, none⟩), .pointer (some ⟨w.heap.size, 0, none⟩), .int .u64 150] 129) (.cells #[.pointer (some ⟨6, 95, none⟩), .pointer (some ⟨w.heap.size, 0, none⟩), .int .u64 150] 129) (.cells #[.int .i64 i, .iface 93 (.string s)] 97)).alloc (by simp; omega) (.cells #[.string s] 93)
  refine ⟨rfl, World.cell?_setCell_same _ _ _ ((h4.cell (p := ⟨g, 0, none⟩) hlt).trans ht0), (h4.mono (Nat.le_of_lt hlt)).setCell (Nat.le_refl _) _, ?_⟩
  simp; omega
theorem as_PP' (i : Int) (s : ByteArray) (g : Nat) (o0 o1 : Value) (w : World) (hg : Ge w) (h0 : w.cell? ⟨g, 0, none⟩ = some o0) (h1 : w.cell? ⟨g, 1, none⟩ = some o1) (f0 : w.frozen? ⟨g, 0, none⟩ = false) (f1 : w.frozen? ⟨g, 1, none⟩ = false) :
    Calls Tryz.prog 47 #[.iface 97 (.agg #[.int .i64 i, .iface 93 (.string s)]), .iface 98 (.pointer (some ⟨g, 0, none⟩))] w fun ev w' => ev = .returned (.bool true) ∧ w'.cell? ⟨g, 0, none⟩ = some (.int .i64 i) ∧ Below g w w' := by
  have hlt : g < w.heap.size := World.block_lt_of_cell? w _ h0
  refine (as_PP i s g o0 o1 w hg h0 h1 f0 f1).mono ?_
  rintro e w' ⟨rfl, rfl⟩
  have h4 := ck_four w (.cells #[.pointer (some ⟨g, 0, none⟩)] 98) (.cells #[.pointer (some ⟨6, 98, none⟩), .pointer (some ⟨w.heap.size, 0, none⟩), .int .u64 150] 129) (.cells #[.pointer (some ⟨6, 98, none⟩), .pointer (some ⟨w.heap.size, 0, none⟩), .int .u64 150] 129) (.cells #[.int .i64 i, .iface 93 (.string s)] 97)
  exact ⟨rfl, (World.cell?_setCell_other _ _ _ _ (by simp)).trans (World.cell?_setCell_same _ _ _ ((h4.cell (p := ⟨g, 0, none⟩) hlt).trans h0)), ((h4.mono (Nat.le_of_lt hlt)).setCell (p := ⟨g, 0, none⟩) (Nat.le_refl _) _).setCell (p := ⟨g, 1, none⟩) (Nat.le_refl _) _⟩

set_option maxRecDepth 100000 in
set_option maxHeartbeats 2000000 in
theorem inWords_pl (i : Nat) (s D : ByteArray) (w : World) (hg : Ge w) (hi : ∀ w, Calls Tryz.prog 48 #[.int .i64 (i : Int)] w fun e w' => e = .returned (.string D) ∧ w' = w) (hs : s.size ≤ 1000) (hD : D.size ≤ 1000) :
    Calls Tryz.prog 35 #[.iface 97 (.agg #[.int .i64 (i : Int), .iface 93 (.string s)])] w fun e w' => e = .returned (.string (s ++ ⟨#[32]⟩ ++ D)) ∧ Below w.heap.size w w' := by
  have HG := Lib.hid hg
  have HI := Lib.hid hi
  clear hg hi
  go_enter Tryz.func35, Tryz.ntmps35
  go_wp2_with fail
  refine (as_PF' (i : Int) s w.heap.size (.string ⟨#[]⟩) _ (HG.out.below ((Below.refl _ _).alloc (Nat.le_refl _) _)) (by simp) (by simp)).mono ?_
  rintro e w2 ⟨rfl, hc, hb, hsz⟩
  simp only [World.size_alloc] at hsz
  have HG2 := Lib.hid ((HG.out.below ((Below.refl _ _).alloc (Nat.le_refl _) _)).past HG.out.2 hb (by simp; omega))
  have HB := Lib.hid (((Below.refl w.heap.size w).alloc (Nat.le_refl _) (.cells #[.string ⟨#[]⟩] 93)).trans hb)
  have HC := Lib.hid hc
  have HS := Lib.hid hsz
  clear hb hc hsz
  go_wp2_with fail
  refine (as_PP' (i : Int) s w2.heap.size (.int .i64 0) .nilIface _ (HG2.out.below ((Below.refl _ _).alloc (Nat.le_refl _) _)) (by simp) (by simp) (by simp) (by simp)).mono ?_
  rintro e w3 ⟨rfl, hc4, hb3⟩
  have hb3' : Below w2.heap.size w2 w3 := ((Below.refl _ _).alloc (Nat.le_refl _) _).trans hb3
  have hc3 : w3.cell? ⟨w.heap.size, 0, none⟩ = some (.string s) := (hb3'.cell (p := ⟨w.heap.size, 0, none⟩) (show w.heap.size < w2.heap.size by have := HS.out; omega)).trans HC.out
  have HB3 := Lib.hid (HB.out.trans (hb3'.mono (by have := HS.out; omega)))
  clear hb3 hb3'
  go_wp2_with fail
  go_quiet (first | (go_at_call 48; exact Calls.quiet_of_same (HI.out _)))
  go_wp2_with fail
  go_ret
  exact ⟨rfl, below_drewN HB3.out _⟩
set_option maxRecDepth 100000 in
theorem body_pl (k : Int) (n s x D : ByteArray) (i : Nat) (b : Addr) (w : World) (hg : Gv b w) (hge : Ge w) (hi : ∀ w, Calls Tryz.prog 48 #[.int .i64 (i : Int)] w fun e w' => e = .returned (.string D) ∧ w' = w) (hs : x.size ≤ 1000) (hD : D.size ≤ 1000) (hfw : ∀ w, Gv b w → Calls Tryz.prog 36 #[kyV k n, .string s] w fun e w' => e = .returned (Wr.pl i x).v ∧ Below w.heap.size w w') :
    Calls Tryz.prog 22 #[kyV k n, .string s] w fun e w' => e = .returned (.string (x ++ ⟨#[32]⟩ ++ D)) ∧ Below w.heap.size w w' := by
  have HG := Lib.hid hg
  have HE := Lib.hid hge
  have HF := Lib.hid hfw
  have HI := Lib.hid hi
  have HB0 := Lib.hid (below_alloc w (.cells #[.int .i64 k, .string n] 23))
  clear hg hfw hge hi
  go_enter Tryz.func22, Tryz.ntmps22
  go_wp2_with fail
  refine (HF.out _ (HG.out.below HB0.out)).mono ?_
  rintro e w1 ⟨rfl, hb⟩
  have HB1 := Lib.hid (HB0.out.trans (hb.mono HB0.out.size))
  clear hb
  rw [show (Wr.pl i x).v = .iface 97 (.agg #[.int .i64 (i : Int), .iface 93 (.string x)]) from rfl]
  go_wp2_with fail
  refine (inWords_pl i x D _ (HE.out.below HB1.out) HI.out hs hD).mono ?_
  rintro e w2 ⟨rfl, hb⟩
  have HB2 := Lib.hid (HB1.out.trans (hb.mono HB1.out.size))
  clear hb
  go_wp2_with fail
  go_ret
  exact ⟨rfl, HB2.out⟩
end Go.Proofs.YtngceccpebdgmaaGreatDoor
