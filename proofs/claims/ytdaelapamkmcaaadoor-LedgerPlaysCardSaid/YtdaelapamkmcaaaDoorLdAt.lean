/- ledger: a Ledger in memory. -/
import Derived.Test.YtdaelapamkmcaaaDoorLdRow
import Derived.Test.YtdaelapamkmcaaaDoorKeep
namespace Go.Proofs.YtdaelapamkmcaaaDoor
open Go.RowKit

/-- Blocks that a Ledger may turn. -/
def Mine (w : World) (B k : Nat) : Prop := B ≤ k ∧ ∃ c T fz, w.heap[k]? = some (.cells c T fz) ∧ (T = 53 ∨ T = 49)
structure Kept (B : Nat) (w w' : World) : Prop where
  os : w'.os = w.os
  tape : w'.tape = w.tape
  output : w'.output = w.output
  size : w.heap.size ≤ w'.heap.size
  block : ∀ k, k < w.heap.size → ¬ Mine w B k → w'.heap[k]? = w.heap[k]?
theorem Kept.refl (B : Nat) (w : World) : Kept B w w := ⟨rfl, rfl, rfl, Nat.le_refl _, fun _ _ _ => rfl⟩
theorem Kept.of {B : Nat} {w w' : World} (h : Below w.heap.size w w') : Kept B w w' := ⟨h.os, h.tape, h.output, h.size, fun k hk _ => h.block k hk⟩
theorem Kept.trans {B : Nat} {w w1 w2 : World} (h : Kept B w w1) (h' : Kept B w1 w2) : Kept B w w2 :=
  ⟨h'.os.trans h.os, h'.tape.trans h.tape, h'.output.trans h.output, Nat.le_trans h.size h'.size, fun k hk hn => by
    have e := h.block k hk hn
    refine (h'.block k (Nat.lt_of_lt_of_le hk h.size) ?_).trans e
    rintro ⟨hb, c, T, fz, hc, hT⟩
    exact hn ⟨hb, c, T, fz, by rw [← e]; exact hc, hT⟩⟩
theorem Kept.below {B : Nat} {w w' : World} (h : Kept B w w') (hB : B ≤ w.heap.size) : Below B w w' :=
  ⟨h.os, h.tape, h.output, h.size, fun k hk => h.block k (by omega) (fun hm => by have := hm.1; omega)⟩
theorem Kept.blk {B : Nat} {w w' : World} {p : Nat} {c : Array Value} {t : TypeId} (h : Kept B w w') (hb : Blk w p c t) (h1 : t ≠ 53) (h2 : t ≠ 49) : Blk w' p c t := by
  refine (h.block p hb.lt ?_).trans hb
  rintro ⟨_, c', T, fz, hc, hT⟩
  rw [show w.heap[p]? = _ from hb] at hc
  injection hc with hc; injection hc with _ e _
  subst e
  rcases hT with e | e
  · exact h1 e
  · exact h2 e
theorem own_at {w w' : World} {base size n : Nat} {e : TypeId} {v : Value} {xs : List Value} (h : w.ownsRow base e size v n xs) (hs : ∀ g, v.ownBlock = some g → w'.heap[g]? = w.heap[g]?) : w'.ownsRow base e size v n xs := by
  refine ⟨h.1, ?_⟩
  rcases h.2 with hn | ⟨g, cap, cur, rfl, hb, hg, rest⟩
  · exact .inl hn
  · exact .inr ⟨g, cap, cur, rfl, hb, (hs g rfl).trans hg, rest⟩
theorem own_heap {w : World} {base size n : Nat} {e : TypeId} {v : Value} {xs : List Value} (h : w.ownsRow base e size v n xs) {g : Nat} (hg : v.ownBlock = some g) : base ≤ g ∧ g < w.heap.size ∧ ∃ c fz, w.heap[g]? = some (.cells c e fz) := by
  rcases h.2 with ⟨rfl, _⟩ | ⟨g', cap, cur, rfl, hb, hh, rest⟩
  · cases hg
  · cases hg
    exact ⟨hb, (Array.getElem?_eq_some_iff.1 hh).1, _, _, hh⟩
theorem Kept.own {B : Nat} {w w' : World} {base size n : Nat} {e : TypeId} {v : Value} {xs : List Value} (h : Kept B w w') (ho : w.ownsRow base e size v n xs) (h1 : e ≠ 53) (h2 : e ≠ 49) : w'.ownsRow base e size v n xs := by
  refine own_at ho fun g hg => ?_
  obtain ⟨_, hlt, c, fz, hc⟩ := own_heap ho hg
  refine h.block g hlt ?_
  rintro ⟨_, c', T, fz', hc', hT⟩
  rw [hc] at hc'
  injection hc' with hc'; injection hc' with _ e' _
  subst e'
  rcases hT with e | e
  · exact h1 e
  · exact h2 e
theorem Kept.row {B base size n : Nat} {w w' : World} {v : Value} {xs : List Value} (ho : w.ownsRow base 49 size v n xs) (hB : B ≤ base) (hg : w.grownBy w' v.ownBlock) : Kept B w w' := by
  refine ⟨hg.os, hg.tape, hg.output, hg.size, fun k hk hn => hg.block k hk fun e => hn ?_⟩
  obtain ⟨h1, _, c, fz, hc⟩ := own_heap ho e.symm
  exact ⟨Nat.le_trans hB h1, c, _, fz, hc, .inr rfl⟩
theorem Kept.set {B l : Nat} {w : World} {c : Array Value} {t : TypeId} (hb : Blk w l c t) (hB : B ≤ l) (ht : t = 53 ∨ t = 49) (j : Nat) (v : Value) : Kept B w (w.setCell ⟨l, j, none⟩ v) := by
  have hg := grown_set w l j v
  refine ⟨hg.os, hg.tape, hg.output, hg.size, fun k hk hn => hg.block k hk fun e => hn ?_⟩
  cases e
  exact ⟨hB, c, t, (0, 0), hb, ht⟩
theorem Blk.ne {w : World} {p q : Nat} {c d : Array Value} {t u : TypeId} (h : Blk w p c t) (h' : Blk w q d u) (ht : t ≠ u) : p ≠ q := by
  rintro rfl
  unfold Blk at h h'
  rw [h] at h'
  injection h' with h'; injection h' with _ e _
  exact ht e
theorem Blk.later {W W' : World} {B : Nat} {c : Array Value} {t : TypeId} (h : Blk W B c t) (hb : Below W.heap.size W W') : Blk W' B c t := h.below hb h.lt

/-- A mark that may be kept. -/
structure MkOk (m : Mk) : Prop where
  x : m.x.size ≤ 64
  d : m.d.size ≤ 256
  q : m.q < 2 ^ 64
  t1 : 1 ≤ m.t
  t5 : m.t ≤ 5
/-- A Ledger at l that holds these marks. -/
structure LdAt (base l : Nat) (v : Value) (ms : List Mk) (w : World) : Prop where
  blk : Blk w l #[v] 53
  row : w.ownsRow base 49 5 v ms.length (mkCells ms)
  bl : base ≤ l
structure MsOk (ms : List Mk) : Prop where
  srt : Srt ms
  len : ms.length ≤ 1024
  ok : ∀ m ∈ ms, MkOk m
def LdIs (base l : Nat) (ms : List Mk) (w : World) : Prop := MsOk ms ∧ ∃ v, LdAt base l v ms w
theorem LdAt.hB {base l : Nat} {v : Value} {ms : List Mk} {w : World} (h : LdAt base l v ms w) : base ≤ w.heap.size := Nat.le_trans h.bl (Nat.le_of_lt h.blk.lt)
theorem LdAt.later {base l : Nat} {v : Value} {ms : List Mk} {w w' : World} (h : LdAt base l v ms w) (hb : Below w.heap.size w w') : LdAt base l v ms w' :=
  ⟨h.blk.later hb, own_below h.row hb, h.bl⟩
theorem LdIs.later {base l : Nat} {ms : List Mk} {w w' : World} (h : LdIs base l ms w) (hb : Below w.heap.size w w') : LdIs base l ms w' := by
  obtain ⟨h1, v, h2⟩ := h
  exact ⟨h1, v, h2.later hb⟩
/-- What reads a Ledger sees. -/
structure RdL (l : Nat) (a : Option Addr) (c : Nat) (ms : List Mk) (w : World) : Prop where
  blk : Blk w l #[.slice a ms.length c] 53
  at' : MksAt w a ms
theorem RdL.later {l c : Nat} {a : Option Addr} {ms : List Mk} {w w' : World} (h : RdL l a c ms w) (hb : Below w.heap.size w w') : RdL l a c ms w' := ⟨h.blk.later hb, h.at'.below hb⟩
theorem LdAt.rd {base l : Nat} {v : Value} {ms : List Mk} {w : World} (h : LdAt base l v ms w) : ∃ a c, v = .slice a ms.length c ∧ RdL l a c ms w := by
  obtain ⟨a, c, rfl⟩ := row_shape h.row
  exact ⟨a, c, rfl, h.blk, mksAt_row h.row⟩
/-- The slice is turned to another row. -/
theorem LdAt.turn {base l : Nat} {v v' : Value} {ms ms' : List Mk} {w w1 : World} (h : Blk w1 l #[v] 53) (hl : base ≤ l) (hrow : w1.ownsRow base 49 5 v' ms'.length (mkCells ms')) (hw : w = w1) :
    LdAt base l v' ms' (w.setCell ⟨l, 0, none⟩ v') ∧ Kept base w (w.setCell ⟨l, 0, none⟩ v') := by
  subst hw
  have hb : Blk (w.setCell ⟨l, 0, none⟩ v') l #[v'] 53 := h.set 0 v'
  refine ⟨⟨hb, own_other hrow (grown_set w l 0 v') (fun g hg e => ?_), hl⟩, Kept.set h hl (.inl rfl) 0 v'⟩
  exact row_block hrow h (by decide) (by rw [e]; exact hg)
end Go.Proofs.YtdaelapamkmcaaaDoor
