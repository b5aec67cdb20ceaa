/- link: a stream in memory, and what its calls keep. -/
import Derived.Test.YtkfbhiggnnjoiaaDoorLkFeed
import Derived.Test.YtkfbhiggnnjoiaaDoorLkPlain
namespace Go.Proofs.YtkfbhiggnnjoiaaDoor
open Go.RowKit Go.Lib

/-- But for streams, readers and rows of bytes from B on, all that was is as it was. -/
def Mine (w : World) (B k : Nat) : Prop := B ≤ k ∧ ∃ c T fz, w.heap[k]? = some (.cells c T fz) ∧ (T = 59 ∨ T = 80 ∨ T = 5)
structure Kept (B : Nat) (w w' : World) : Prop where
  os : w'.os = w.os
  tape : w'.tape = w.tape
  output : w'.output = w.output
  size : w.heap.size ≤ w'.heap.size
  block : ∀ k, k < w.heap.size → ¬ Mine w B k → w'.heap[k]? = w.heap[k]?
theorem Kept.refl (B : Nat) (w : World) : Kept B w w := ⟨rfl, rfl, rfl, Nat.le_refl _, fun _ _ _ => rfl⟩
theorem Kept.of {B : Nat} {w w' : World} (h : Below w.heap.size w w') : Kept B w w' := ⟨h.os, h.tape, h.output, h.size, fun k hk _ => h.block k hk⟩
theorem Kept.trans {B : Nat} {w w1 w2 : World} (h : Kept B w w1) (h' : Kept B w1 w2) : Kept B w w2 :=
  ⟨h'.os.trans h.os, h'.tape.trans h.tape, h'.output.trans h.output, Nat.le_trans h.size h'.size, fun k hk hn => by
    have e := h.block k hk hn
    refine (h'.block k (Nat.lt_of_lt_of_le hk h.size) ?_).trans e
    rintro ⟨hb, c, T, fz, hc, hT⟩
    exact hn ⟨hb, c, T, fz, by rw [← e]; exact hc, hT⟩⟩
theorem Kept.below {B : Nat} {w w' : World} (h : Kept B w w') (hB : B ≤ w.heap.size) : Below B w w' :=
  ⟨h.os, h.tape, h.output, h.size, fun k hk => h.block k (by omega) (fun hm => by have := hm.1; omega)⟩
theorem Kept.blk {B : Nat} {w w' : World} {p : Nat} {c : Array Value} {t : TypeId} (h : Kept B w w') (hb : Blk w p c t) (h1 : t ≠ 59) (h2 : t ≠ 80) (h3 : t ≠ 5) : Blk w' p c t := by
  refine (h.block p hb.lt ?_).trans hb
  rintro ⟨_, c', T, fz, hc, hT⟩
  rw [show w.heap[p]? = _ from hb] at hc
  injection hc with hc; injection hc with _ e _
  subst e
  rcases hT with e | e | e
  · exact h1 e
  · exact h2 e
  · exact h3 e
theorem own_at {w w' : World} {base size n : Nat} {e : TypeId} {v : Value} {xs : List Value} (h : w.ownsRow base e size v n xs) (hs : ∀ g, v.ownBlock = some g → w'.heap[g]? = w.heap[g]?) : w'.ownsRow base e size v n xs := by
  refine ⟨h.1, ?_⟩
  rcases h.2 with hn | ⟨g, cap, cur, rfl, hb, hg, rest⟩
  · exact .inl hn
  · exact .inr ⟨g, cap, cur, rfl, hb, (hs g rfl).trans hg, rest⟩
theorem own_heap {w : World} {base size n : Nat} {e : TypeId} {v : Value} {xs : List Value} (h : w.ownsRow base e size v n xs) {g : Nat} (hg : v.ownBlock = some g) : base ≤ g ∧ g < w.heap.size ∧ ∃ c fz, w.heap[g]? = some (.cells c e fz) := by
  rcases h.2 with ⟨rfl, _⟩ | ⟨g', cap, cur, rfl, hb, hh, rest⟩
  · cases hg
  · cases hg
    exact ⟨hb, (Array.getElem?_eq_some_iff.1 hh).1, _, _, hh⟩
theorem Kept.own {B : Nat} {w w' : World} {base size n : Nat} {e : TypeId} {v : Value} {xs : List Value} (h : Kept B w w') (ho : w.ownsRow base e size v n xs) (h1 : e ≠ 59) (h2 : e ≠ 80) (h3 : e ≠ 5) : w'.ownsRow base e size v n xs := by
  refine own_at ho fun g hg => ?_
  obtain ⟨_, hlt, c, fz, hc⟩ := own_heap ho hg
  refine h.block g hlt ?_
  rintro ⟨_, c', T, fz', hc', hT⟩
  rw [hc] at hc'
  injection hc' with hc'; injection hc' with _ e' _
  subst e'
  rcases hT with e | e | e
  · exact h1 e
  · exact h2 e
  · exact h3 e
theorem Kept.row {B base size n : Nat} {w w' : World} {v : Value} {xs : List Value} (ho : w.ownsRow base 5 size v n xs) (hB : B ≤ base) (hg : w.grownBy w' v.ownBlock) : Kept B w w' := by
  refine ⟨hg.os, hg.tape, hg.output, hg.size, fun k hk hn => hg.block k hk fun e => hn ?_⟩
  obtain ⟨h1, _, c, fz, hc⟩ := own_heap ho e.symm
  exact ⟨Nat.le_trans hB h1, c, _, fz, hc, .inr (.inr rfl)⟩
theorem Kept.set {B l : Nat} {w : World} {c : Array Value} {t : TypeId} (hb : Blk w l c t) (hB : B ≤ l) (ht : t = 59 ∨ t = 80 ∨ t = 5) (j : Nat) (v : Value) : Kept B w (w.setCell ⟨l, j, none⟩ v) := by
  have hg := grown_set w l j v
  refine ⟨hg.os, hg.tape, hg.output, hg.size, fun k hk hn => hg.block k hk fun e => hn ?_⟩
  cases e
  exact ⟨hB, c, t, (0, 0), hb, ht⟩
theorem Kept.but {B r base n : Nat} {w w' : World} {v : Value} {S : List UInt8} (h : But r v w w') (hr : RdAt base r v S n w) (hB : B ≤ base) : Kept B w w' := by
  refine ⟨h.os, h.tape, h.output, h.size, fun k hk hn => h.block k hk ?_ ?_⟩
  · rintro rfl
    exact hn ⟨Nat.le_trans hB hr.br, _, _, _, hr.blk, .inr (.inl rfl)⟩
  · intro e
    obtain ⟨h1, _, c, fz, hc⟩ := own_heap hr.own e
    exact hn ⟨Nat.le_trans hB h1, c, _, fz, hc, .inr (.inr rfl)⟩

/-- A way in memory: its reader, what that has left, the bytes, how many are gone. -/
structure Wa where
  r : Nat
  v : Value
  b : Value
  D : List UInt8
  y : Wy
structure WaAt (base : Nat) (w : World) (x : Wa) : Prop where
  rd : RdAt base x.r x.v x.y.S 0 w
  row : w.ownsRow base 5 1 x.b (x.D ++ x.y.W).length (bytesV (x.D ++ x.y.W))
  ap : ∀ g, x.v.ownBlock = some g → x.b.ownBlock ≠ some g
structure Apart (x z : Wa) : Prop where
  r : x.r ≠ z.r
  vv : ∀ g, x.v.ownBlock = some g → z.v.ownBlock ≠ some g
  vb : ∀ g, x.v.ownBlock = some g → z.b.ownBlock ≠ some g
  bv : ∀ g, x.b.ownBlock = some g → z.v.ownBlock ≠ some g
  bb : ∀ g, x.b.ownBlock = some g → z.b.ownBlock ≠ some g
theorem Apart.symm {x z : Wa} (h : Apart x z) : Apart z x :=
  ⟨fun e => h.r e.symm, fun g h1 h2 => h.vv g h2 h1, fun g h1 h2 => h.bv g h2 h1, fun g h1 h2 => h.vb g h2 h1, fun g h1 h2 => h.bb g h2 h1⟩
def upd (P : Nat → Wa) (k : Nat) (x : Wa) : Nat → Wa := fun i => if i = k then x else P i
theorem upd_same (P : Nat → Wa) (k : Nat) (x : Wa) : upd P k x k = x := if_pos rfl
theorem upd_other (P : Nat → Wa) {k j : Nat} (x : Wa) (h : j ≠ k) : upd P k x j = P j := if_neg h
abbrev lkCells (P : Nat → Wa) (ep tk : Nat) : Array Value := #[.pointer (some ⟨(P 0).r, 0, none⟩), (P 0).b, .int .i64 ((P 0).D.length : Int), .pointer (some ⟨(P 1).r, 0, none⟩), (P 1).b, .int .i64 ((P 1).D.length : Int), .int .u64 (ep : Int), .int .i64 (tk : Int)]
structure LkAt (b : Addr) (base l : Nat) (P : Nat → Wa) (ep tk : Nat) (w : World) : Prop where
  blk : Blk w l (lkCells P ep tk) 59
  wa : ∀ k, k < 2 → WaAt base w (P k)
  ap : ∀ k j, k < 2 → j < 2 → k ≠ j → Apart (P k) (P j)
  bl : base ≤ l
  gs : Gs b w
  ge : Ge w
  h0 : 0 < base
  h1 : 1 < base
theorem LkAt.hB {b : Addr} {base l ep tk : Nat} {P : Nat → Wa} {w : World} (h : LkAt b base l P ep tk w) : base ≤ w.heap.size := Nat.le_trans h.bl (Nat.le_of_lt h.blk.lt)
theorem Blk.ne {w : World} {p q : Nat} {c d : Array Value} {t u : TypeId} (h : Blk w p c t) (h' : Blk w q d u) (ht : t ≠ u) : p ≠ q := by
  rintro rfl
  unfold Blk at h h'
  rw [h] at h'
  injection h' with h'; injection h' with _ e _
  exact ht e

theorem LkAt.move {b : Addr} {base l ep tk ep' tk' : Nat} {P : Nat → Wa} {w w' : World} (h : LkAt b base l P ep tk w) (k : Nat) (hk : k < 2) (x : Wa)
    (hblk : Blk w' l (lkCells (upd P k x) ep' tk') 59) (hx : WaAt base w' x)
    (hkeep : ∀ g, g < w.heap.size → g ≠ l → g ≠ (P k).r → (P k).v.ownBlock ≠ some g → (P k).b.ownBlock ≠ some g → w'.heap[g]? = w.heap[g]?)
    (hr : x.r = (P k).r) (hv : ∀ g, x.v.ownBlock = some g → (P k).v.ownBlock = some g ∨ w.heap.size ≤ g) (hb : ∀ g, x.b.ownBlock = some g → (P k).b.ownBlock = some g ∨ w.heap.size ≤ g)
    (hkept : Kept base w w') : LkAt b base l (upd P k x) ep' tk' w' := by
  have hbel := hkept.below h.hB
  have hap : ∀ j, j < 2 → j ≠ k → Apart x (P j) := by
    intro j hj hjk
    have ha := h.ap k j hk hj (fun e => hjk e.symm)
    have hw := h.wa j hj
    refine ⟨by rw [hr]; exact ha.r, ?_, ?_, ?_, ?_⟩
    · intro g hg hg'
      rcases hv g hg with e | e
      · exact ha.vv g e hg'
      · have := (own_heap hw.rd.own hg').2.1; omega
    · intro g hg hg'
      rcases hv g hg with e | e
      · exact ha.vb g e hg'
      · have := (own_heap hw.row hg').2.1; omega
    · intro g hg hg'
      rcases hb g hg with e | e
      · exact ha.bv g e hg'
      · have := (own_heap hw.rd.own hg').2.1; omega
    · intro g hg hg'
      rcases hb g hg with e | e
      · exact ha.bb g e hg'
      · have := (own_heap hw.row hg').2.1; omega
  have hoth : ∀ j, j < 2 → j ≠ k → WaAt base w' (P j) := by
    intro j hj hjk
    have ha := h.ap k j hk hj (fun e => hjk e.symm)
    have hw := h.wa j hj
    have hwk := h.wa k hk
    have hrow : ∀ g, (P j).v.ownBlock = some g ∨ (P j).b.ownBlock = some g → w'.heap[g]? = w.heap[g]? := by
      intro g hg
      have hlt : g < w.heap.size := hg.elim (fun e => (own_heap hw.rd.own e).2.1) (fun e => (own_heap hw.row e).2.1)
      have hnl : ∀ {q : Nat} {c : Array Value} {t : TypeId}, Blk w q c t → t ≠ 5 → g ≠ q := by
        intro q c t hq ht e
        subst e
        rcases hg with e | e
        · exact row_block hw.rd.own hq ht e
        · exact row_block hw.row hq ht e
      refine hkeep g hlt (hnl h.blk (by decide)) (hnl hwk.rd.blk (by decide)) ?_ ?_
      · exact fun e => hg.elim (ha.vv g e) (ha.vb g e)
      · exact fun e => hg.elim (ha.bv g e) (ha.bb g e)
    refine ⟨⟨?_, own_at hw.rd.own (fun g hg => hrow g (.inl hg)), hw.rd.br⟩, own_at hw.row (fun g hg => hrow g (.inr hg)), hw.ap⟩
    refine (hkeep _ hw.rd.blk.lt (Blk.ne hw.rd.blk h.blk (by decide)) (fun e => ha.r e.symm) (row_block hwk.rd.own hw.rd.blk (by decide)) (row_block hwk.row hw.rd.blk (by decide))).trans hw.rd.blk
  refine ⟨hblk, ?_, ?_, h.bl, h.gs.low hbel h.h1, h.ge.low hbel h.h0, h.h0, h.h1⟩
  · intro j hj
    by_cases e : j = k
    · subst e; rw [upd_same]; exact hx
    · rw [upd_other _ _ e]; exact hoth j hj e
  · intro i j hi hj hij
    by_cases e : i = k
    · subst e
      rw [upd_same, upd_other _ _ (fun e => hij e.symm)]
      exact hap j hj (fun e => hij e.symm)
    · rw [upd_other _ _ e]
      by_cases e' : j = k
      · subst e'; rw [upd_same]; exact (hap i hi e).symm
      · rw [upd_other _ _ e']; exact h.ap i j hi hj hij
theorem LkAt.below {b : Addr} {base l ep tk : Nat} {P : Nat → Wa} {w w' : World} (h : LkAt b base l P ep tk w) (hb : Below w.heap.size w w') : LkAt b base l P ep tk w' := by
  have hbel := hb.mono h.hB
  exact ⟨h.blk.below hb h.blk.lt, fun k hk => ⟨(h.wa k hk).rd.below hb, own_below (h.wa k hk).row hb, (h.wa k hk).ap⟩, h.ap, h.bl, h.gs.low hbel h.h1, h.ge.low hbel h.h0, h.h0, h.h1⟩
theorem LkAt.set {b : Addr} {base l ep tk ep' tk' : Nat} {P : Nat → Wa} {w : World} (h : LkAt b base l P ep tk w) (j : Nat) (v : Value) (hc : (lkCells P ep tk).setIfInBounds j v = lkCells P ep' tk') : LkAt b base l P ep' tk' (w.setCell ⟨l, j, none⟩ v) ∧ Kept base w (w.setCell ⟨l, j, none⟩ v) := by
  have hk := Kept.set h.blk h.bl (.inl rfl) j v
  have hbel := hk.below h.hB
  have hg := grown_set w l j v
  refine ⟨⟨by rw [← hc]; exact h.blk.set j v, fun k hk => ?_, h.ap, h.bl, h.gs.low hbel h.h1, h.ge.low hbel h.h0, h.h0, h.h1⟩, hk⟩
  have hw := h.wa k hk
  have hn : ∀ g, (P k).v.ownBlock = some g → some l ≠ some g := fun g e e' => row_block hw.rd.own h.blk (by decide) (by rw [e, e'])
  have hn' : ∀ g, (P k).b.ownBlock = some g → some l ≠ some g := fun g e e' => row_block hw.row h.blk (by decide) (by rw [e, e'])
  exact ⟨⟨hw.rd.blk.kept hg (fun e => Blk.ne hw.rd.blk h.blk (by decide) (Option.some.inj e)), own_other hw.rd.own hg hn, hw.rd.br⟩, own_other hw.row hg hn', hw.ap⟩

/-- A stream at l, whatever lies where. -/
def LkIs (b : Addr) (base l : Nat) (x : Lk) (w : World) : Prop := ∃ P, LkAt b base l P x.ep x.tk w ∧ x.Ok ∧ ∀ k, k < 2 → (P k).y = x.at k ∧ (P k).D.length ≤ 262144
theorem LkIs.below {b : Addr} {base l : Nat} {x : Lk} {w w' : World} (h : LkIs b base l x w) (hb : Below w.heap.size w w') : LkIs b base l x w' := by
  obtain ⟨P, h1, h2, h3⟩ := h
  exact ⟨P, h1.below hb, h2, h3⟩
theorem LkIs.hB {b : Addr} {base l : Nat} {x : Lk} {w : World} (h : LkIs b base l x w) : base ≤ w.heap.size := by obtain ⟨P, h1, _⟩ := h; exact h1.hB
end Go.Proofs.YtkfbhiggnnjoiaaDoor
