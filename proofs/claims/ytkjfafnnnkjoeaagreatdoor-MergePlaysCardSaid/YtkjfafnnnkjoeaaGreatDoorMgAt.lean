/- merge: a Merge in memory. -/
import Derived.Test.YtkjfafnnnkjoeaaGreatDoorMgKey
import Derived.Test.YtkjfafnnnkjoeaaGreatDoorMgOwn
namespace Go.Proofs.YtkjfafnnnkjoeaaGreatDoor
open Go.RowKit Go.Lib

/-- Blocks that a Merge may turn: maps. -/
def MMine (w : World) (B k : Nat) : Prop := B ≤ k ∧ ∃ es clock, w.heap[k]? = some (.map es clock)
structure KeptM (B : Nat) (w w' : World) : Prop where
  os : w'.os = w.os
  tape : w'.tape = w.tape
  output : w'.output = w.output
  size : w.heap.size ≤ w'.heap.size
  block : ∀ k, k < w.heap.size → ¬ MMine w B k → w'.heap[k]? = w.heap[k]?
theorem KeptM.refl (B : Nat) (w : World) : KeptM B w w := ⟨rfl, rfl, rfl, Nat.le_refl _, fun _ _ _ => rfl⟩
theorem KeptM.of {B : Nat} {w w' : World} (h : Below w.heap.size w w') : KeptM B w w' := ⟨h.os, h.tape, h.output, h.size, fun k hk _ => h.block k hk⟩
theorem KeptM.trans {B : Nat} {w w1 w2 : World} (h : KeptM B w w1) (h' : KeptM B w1 w2) : KeptM B w w2 :=
  ⟨h'.os.trans h.os, h'.tape.trans h.tape, h'.output.trans h.output, Nat.le_trans h.size h'.size, fun k hk hn => by
    have e := h.block k hk hn
    refine (h'.block k (Nat.lt_of_lt_of_le hk h.size) ?_).trans e
    rintro ⟨hb, es, clock, hc⟩
    exact hn ⟨hb, es, clock, by rw [← e]; exact hc⟩⟩
theorem KeptM.grown {B m : Nat} {w w' : World} (hg : w.grownBy w' (some m)) (hB : B ≤ m) (hm : ∃ es clock, w.heap[m]? = some (.map es clock)) : KeptM B w w' :=
  ⟨hg.os, hg.tape, hg.output, hg.size, fun k hk hn => hg.block k hk fun e => hn (by cases e; exact ⟨hB, hm⟩)⟩
theorem KeptM.below {B : Nat} {w w' : World} (h : KeptM B w w') (hB : B ≤ w.heap.size) : Below B w w' :=
  ⟨h.os, h.tape, h.output, h.size, fun k hk => h.block k (by omega) (fun hm => by have := hm.1; omega)⟩
theorem KeptM.blk {B : Nat} {w w' : World} {p : Nat} {c : Array Value} {t : TypeId} (h : KeptM B w w') (hb : Blk w p c t) : Blk w' p c t := by
  refine (h.block p hb.lt ?_).trans hb
  rintro ⟨_, es, clock, hc⟩
  rw [show w.heap[p]? = _ from hb] at hc
  cases hc
theorem cell_kind {w : World} {b off : Nat} {u : Value} (h : w.cell? ⟨b, off, none⟩ = some u) : ¬ ∃ es clock, w.heap[b]? = some (.map es clock) := by
  rintro ⟨es, clock, hc⟩
  simp [World.cell?, hc] at h
theorem KeptM.cell {B : Nat} {w w' : World} {b off : Nat} {u : Value} (h : KeptM B w w') (hc : w.cell? ⟨b, off, none⟩ = some u) : w'.cell? ⟨b, off, none⟩ = some u :=
  (World.cell?_of_block (a := ⟨b, off, none⟩) (h.block b (World.block_lt_of_cell? w _ hc) (fun hm => cell_kind hc hm.2))).trans hc
theorem KeptM.row {B : Nat} {w w' : World} {v : Value} {xs : List Value} (h : KeptM B w w') (hr : RowV w v xs) : RowV w' v xs := by
  obtain ⟨a, c, e, h1, h2, h3⟩ := hr
  refine ⟨a, c, e, h1, h2, fun j u hj => ?_⟩
  obtain ⟨b, off, e', hl, hc⟩ := h3 j u hj
  exact ⟨b, off, e', Nat.lt_of_lt_of_le hl h.size, h.cell hc⟩
theorem KeptM.ts {B : Nat} {w w' : World} {v : Value} {l : List (List UInt8)} (h : KeptM B w w') (hr : TsAt w v l) : TsAt w' v l := KeptM.row h hr
theorem KeptM.set {B : Nat} {w w' : World} {v : Value} {s : Ns} (h : KeptM B w w') (hr : SetAt w v s) : SetAt w' v s := by
  obtain ⟨u, e, hu⟩ := hr
  exact ⟨u, e, h.ts hu⟩

/-- How many name each name: at v. -/
def Tally (w : World) (v : Value) (T : List UInt8 → Nat) : Prop := (v = .map none ∧ ∀ x, T x = 0) ∨ ∃ tb C, v = .map (some tb) ∧ SMap w tb C ∧ ∀ x, C x = if T x = 0 then none else some (.int .i64 (T x : Int))
theorem Tally.later {w w' : World} {v : Value} {T : List UInt8 → Nat} (h : Tally w v T) (hb : Below w.heap.size w w') : Tally w' v T := by
  rcases h with h | ⟨tb, C, e, h1, h2⟩
  · exact .inl h
  · exact .inr ⟨tb, C, e, h1.below hb h1.lt, h2⟩
theorem Tally.kept {w w' : World} {v : Value} {T : List UInt8 → Nat} {row : Option Nat} (h : Tally w v T) (hg : w.grownBy w' row) (hn : ∀ tb, v = .map (some tb) → some tb ≠ row) : Tally w' v T := by
  rcases h with h | ⟨tb, C, e, h1, h2⟩
  · exact .inl h
  · exact .inr ⟨tb, C, e, h1.kept hg (hn tb e), h2⟩
/-- A set in what a Merge keeps. -/
def WSet (w : World) (o : Option Value) (s : Ns) : Prop := match o with
  | none => s = Ns.zero
  | some v => ∃ a c, v = .agg #[.bool s.all, .slice a s.ns.length c] ∧ TsAt w (.slice a s.ns.length c) s.ns
theorem WSet.later {w w' : World} {o : Option Value} {s : Ns} (h : WSet w o s) (hb : Below w.heap.size w w') : WSet w' o s := by
  cases o with
  | none => exact h
  | some v => obtain ⟨a, c, e, h1⟩ := h; exact ⟨a, c, e, h1.later hb⟩
theorem WSet.kept {B : Nat} {w w' : World} {o : Option Value} {s : Ns} (h : WSet w o s) (hk : KeptM B w w') : WSet w' o s := by
  cases o with
  | none => exact h
  | some v => obtain ⟨a, c, e, h1⟩ := h; exact ⟨a, c, e, hk.ts h1⟩
/-- The bounds: how many names may be wanted, how long they are. -/
structure WFit (W : Wants) : Prop where
  n : ∀ k, (nList (uni W k)).length ≤ 64
  l : ∀ i k, ∀ x ∈ (W i k).ns, x.length ≤ 64
/-- A Merge at m. -/
structure MgIn (base m mw mc : Nat) (C : Tk → Option Value) (D : Int → Option Value) (W : Wants) (w : World) : Prop where
  blk : Blk w m #[.map (some mw), .map (some mc)] 65
  bm : base ≤ m
  bw : base ≤ mw
  bc : base ≤ mc
  ne : mw ≠ mc
  wm : TMap w mw C
  wv : ∀ i k, WSet w (C (i, k)) (W i k)
  cm : IMap w mc D
  cv : ∀ k, Tally w ((D k).getD (.map none)) (cnt W k)
  cn : ∀ k tb, D k = some (.map (some tb)) → tb ≠ mw ∧ tb ≠ mc
theorem MgIn.later {base m mw mc : Nat} {C : Tk → Option Value} {D : Int → Option Value} {W : Wants} {w w' : World} (h : MgIn base m mw mc C D W w) (hb : Below w.heap.size w w') : MgIn base m mw mc C D W w' :=
  ⟨h.blk.later hb, h.bm, h.bw, h.bc, h.ne, h.wm.below hb h.wm.lt, fun i k => (h.wv i k).later hb, h.cm.below hb h.cm.lt, fun k => (h.cv k).later hb, h.cn⟩
def MgIs (base m : Nat) (W : Wants) (w : World) : Prop := WOk W ∧ WFit W ∧ ∃ mw mc C D, MgIn base m mw mc C D W w
theorem MgIs.later {base m : Nat} {W : Wants} {w w' : World} (h : MgIs base m W w) (hb : Below w.heap.size w w') : MgIs base m W w' := by
  obtain ⟨h1, h2, mw, mc, C, D, h3⟩ := h
  exact ⟨h1, h2, mw, mc, C, D, h3.later hb⟩
theorem MgIs.hB {base m : Nat} {W : Wants} {w : World} (h : MgIs base m W w) : base ≤ w.heap.size := by
  obtain ⟨_, _, mw, mc, C, D, h3⟩ := h
  exact Nat.le_trans h3.bm (Nat.le_of_lt h3.blk.lt)
end Go.Proofs.YtkjfafnnnkjoeaaGreatDoor
