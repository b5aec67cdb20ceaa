/- check: what is wrong, as an error and in words: the walks of faultIf, isPort, inWords. -/
import Derived.Test.YtngceccpebdgmaaGreatDoorCkAs
import Derived.Test.YtngceccpebdgmaaGreatDoorCkName
namespace Go.Proofs.YtngceccpebdgmaaGreatDoor
open Go.RowKit

/-- What is wrong: nothing; a word; a word at a place. -/
inductive Wr where
  | no : Wr
  | word (s : ByteArray) : Wr
  | pl (i : Nat) (s : ByteArray) : Wr
def Wr.v : Wr → Value
  | .no => .nilIface
  | .word s => .iface 93 (.string s)
  | .pl i s => .iface 97 (.agg #[.int .i64 (i : Int), .iface 93 (.string s)])
def Wr.or : Wr → Wr → Wr
  | .no, x => x
  | x, _ => x
def wrIf (b : Bool) (s : ByteArray) : Wr := if b then .word s else .no

theorem faultIf_any (b : Bool) (s : ByteArray) (w : World) : Calls Tryz.prog 101 #[.bool b, .string s] w fun e w' => e = .returned (wrIf b s).v ∧ w = w' := by
  cases b
  all_goals
    go_enter Tryz.func101, Tryz.ntmps101
    go_wp2
    go_ret
    exact ⟨rfl, rfl⟩
def portB (x : Int) : Bool := decide (1 ≤ x) && decide (x ≤ 65535)
set_option maxRecDepth 100000 in
theorem isPort_any (x : Int) (w : World) : Calls Tryz.prog 102 #[.int .u64 x] w fun e w' => e = .returned (.bool (portB x)) ∧ w = w' := by
  obtain ⟨A, qa⟩ : ∃ A, decide (1 ≤ x) = A := ⟨_, rfl⟩
  obtain ⟨B, qb⟩ : ∃ B, decide (x ≤ 65535) = B := ⟨_, rfl⟩
  have e : portB x = (A && B) := by simp only [portB, qa, qb]
  rw [e]
  clear e
  cases A <;> cases B
  all_goals
    go_enter Tryz.func102, Tryz.ntmps102
    go_wp2
    go_ret
    exact ⟨rfl, rfl⟩

theorem ck_four (w : World) (a b c d : Obj) : Below w.heap.size w ((((w.alloc a).alloc b).alloc c).alloc d) :=
  ((((Below.refl _ w).alloc (Nat.le_refl _) _).alloc (by simp) _).alloc (by simp; omega) _).alloc (by simp; omega) _
/-- As with what it keeps: the target holds the fault; what lies below the target is as it was. -/
theorem as_FF' (s : ByteArray) (g : Nat) (old : Value) (w : World) (hg : Ge w) (ht0 : w.cell? ⟨g, 0, none⟩ = some old) (hf0 : w.frozen? ⟨g, 0, none⟩ = false) :
    Calls Tryz.prog 47 #[.iface 93 (.string s), .iface 95 (.pointer (some ⟨g, 0, none⟩))] w fun ev w' => ev = .returned (.bool true) ∧ w'.cell? ⟨g, 0, none⟩ = some (.string s) ∧ Below g w w' ∧ w.heap.size ≤ w'.heap.size := by
  have hlt : g < w.heap.size := World.block_lt_of_cell? w _ ht0
  refine (as_FF s ⟨g, 0, none⟩ old w hg ht0 hf0).mono ?_
  rintro e w' ⟨rfl, rfl⟩
  have h4 := ck_four w (.cells #[.pointer (some ⟨g, 0, none⟩)] 95) (.cells #[.pointer (some ⟨6, 95, none⟩), .pointer (some ⟨w.heap.size, 0, none⟩), .int .u64 150] 129) (.cells #[.pointer (some ⟨6, 95, none⟩), .pointer (some ⟨w.heap.size, 0, none⟩), .int .u64 150] 129) (.cells #[.string s] 93)
  refine ⟨rfl, World.cell?_setCell_same _ _ _ ((h4.cell (p := ⟨g, 0, none⟩) hlt).trans ht0), (h4.mono (Nat.le_of_lt hlt)).setCell (Nat.le_refl _) _, ?_⟩
  simp; omega
theorem as_FP' (s : ByteArray) (t : Addr) (w : World) (hg : Ge w) :
    Calls Tryz.prog 47 #[.iface 93 (.string s), .iface 98 (.pointer (some t))] w fun ev w' => ev = .returned (.bool false) ∧ Below w.heap.size w w' := by
  refine (as_FP s t w hg).mono ?_
  rintro e w' ⟨rfl, rfl⟩
  exact ⟨rfl, (((Below.refl _ w).alloc (Nat.le_refl _) _).alloc (by simp) _).alloc (by simp; omega) _⟩
theorem Ge.past {g : Nat} {w w' : World} (h : Ge w) (hg : 0 < g) (hb : Below g w w') (hs : w.heap.size ≤ w'.heap.size) : Ge w' :=
  ⟨(hb.cell (p := ⟨0, 0, none⟩) hg).trans h.1, Nat.lt_of_lt_of_le h.2 hs⟩

set_option maxRecDepth 100000 in
theorem inWords_no (w : World) : Calls Tryz.prog 35 #[.nilIface] w fun e w' => e = .returned (.string ⟨#[]⟩) ∧ Below w.heap.size w w' := by
  go_enter Tryz.func35, Tryz.ntmps35
  go_wp2_with (go_at_call 47; refine (as_nil _ _).mono ?_; rintro e w' ⟨rfl, rfl⟩)
  go_ret
  exact ⟨rfl, (Below.refl _ _).alloc (Nat.le_refl _) _⟩
set_option maxRecDepth 100000 in
set_option maxHeartbeats 1000000 in
theorem inWords_word (s : ByteArray) (w : World) (hg : Ge w) : Calls Tryz.prog 35 #[.iface 93 (.string s)] w fun e w' => e = .returned (.string s) ∧ Below w.heap.size w w' := by
  have HG := Lib.hid hg
  clear hg
  go_enter Tryz.func35, Tryz.ntmps35
  go_wp2_with fail
  refine (as_FF' s w.heap.size (.string ⟨#[]⟩) _ (HG.out.below ((Below.refl _ _).alloc (Nat.le_refl _) _)) (by simp) (by simp)).mono ?_
  rintro e w2 ⟨rfl, hc, hb, hs⟩
  simp only [World.size_alloc] at hs
  have HG2 := Lib.hid ((HG.out.below ((Below.refl _ _).alloc (Nat.le_refl _) _)).past HG.out.2 hb (by simp; omega))
  have HB := Lib.hid (((Below.refl w.heap.size w).alloc (Nat.le_refl _) (.cells #[.string ⟨#[]⟩] 93)).trans hb)
  have HC := Lib.hid hc
  have HS := Lib.hid hs
  clear hb hc hs
  go_wp2_with fail
  refine (as_FP' s _ _ (HG2.out.below ((Below.refl _ _).alloc (Nat.le_refl _) _))).mono ?_
  rintro e w3 ⟨rfl, hb3⟩
  have hc3 := (((Below.refl w2.heap.size w2).alloc (Nat.le_refl _) _).trans (hb3.mono (by simp))).cell (p := ⟨w.heap.size, 0, none⟩) (show w.heap.size < w2.heap.size by have := HS.out; omega) |>.trans HC.out
  have HB3 := Lib.hid ((HB.out.alloc (by have := HS.out; omega) _).trans (hb3.mono (by have := HS.out; simp; omega)))
  clear hb3
  go_wp2_with fail
  go_ret
  exact ⟨rfl, HB3.out⟩
end Go.Proofs.YtngceccpebdgmaaGreatDoor
