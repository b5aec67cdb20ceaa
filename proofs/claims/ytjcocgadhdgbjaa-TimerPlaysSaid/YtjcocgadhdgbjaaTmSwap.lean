/- timer: Swap. -/
import Derived.Test.YtjcocgadhdgbjaaTmRow
import Derived.RegionTactic
import Derived.BigRegion
namespace Go.Proofs.Ytjcocgadhdgbjaa
open Go.RowKit

/-- But for the blocks of S, all that was is as it was. -/
structure Kept (S : Nat → Prop) (w w' : World) : Prop where
  os : w'.os = w.os
  tape : w'.tape = w.tape
  output : w'.output = w.output
  size : w.heap.size ≤ w'.heap.size
  block : ∀ k, k < w.heap.size → ¬ S k → w'.heap[k]? = w.heap[k]?
theorem Kept.of {S : Nat → Prop} {n : Nat} {w w' : World} (h : Below n w w') (hn : w.heap.size ≤ n) : Kept S w w' := ⟨h.os, h.tape, h.output, h.size, fun k hk _ => h.block k (by omega)⟩
theorem Kept.grown {S : Nat → Prop} {row : Option Nat} {w w' : World} (h : w.grownBy w' row) (hr : ∀ k, row = some k → k < w.heap.size → S k) : Kept S w w' := ⟨h.os, h.tape, h.output, h.size, fun k hk hn => h.block k hk (fun e => hn (hr k e.symm hk))⟩
theorem Kept.trans {S T : Nat → Prop} {w w1 w2 : World} (h : Kept S w w1) (h' : Kept T w1 w2) (ht : ∀ k, T k → k < w.heap.size → S k) : Kept S w w2 :=
  ⟨h'.os.trans h.os, h'.tape.trans h.tape, h'.output.trans h.output, Nat.le_trans h.size h'.size, fun k hk hn => (h'.block k (Nat.lt_of_lt_of_le hk h.size) (fun e => hn (ht k e hk))).trans (h.block k hk hn)⟩
theorem Kept.below {S : Nat → Prop} {B : Nat} {w w' : World} (h : Kept S w w') (hB : B ≤ w.heap.size) (hS : ∀ k, S k → B ≤ k) : Below B w w' :=
  ⟨h.os, h.tape, h.output, h.size, fun k hk => h.block k (by omega) (fun e => by have := hS k e; omega)⟩
theorem Kept.blk {S : Nat → Prop} {w w' : World} {p : Nat} {c : Array Value} {t : TypeId} (h : Kept S w w') (hb : Blk w p c t) (hn : ¬ S p) : Blk w' p c t := (h.block p hb.lt hn).trans hb
theorem Kept.own {S : Nat → Prop} {w w' : World} {base size n : Nat} {e : TypeId} {v : Value} {xs : List Value} (h : Kept S w w') (ho : w.ownsRow base e size v n xs) (hn : ∀ k, v.ownBlock = some k → ¬ S k) : w'.ownsRow base e size v n xs := by
  refine ⟨ho.1, ?_⟩
  rcases ho.2 with hx | ⟨g, cap, cur, rfl, hb, hg, rest⟩
  · exact .inl hx
  · exact .inr ⟨g, cap, cur, rfl, hb, (h.block g (Array.getElem?_eq_some_iff.1 hg).1 (hn g rfl)).trans hg, rest⟩
theorem Kept.map {S : Nat → Prop} {w w' : World} {m : Nat} {C : List UInt8 → Option Value} (h : Kept S w w') (hm : StrMap w m C) (hn : ¬ S m) : StrMap w' m C := by
  have hlt := hm.lt
  obtain ⟨es, clock, hb, rest⟩ := hm
  exact ⟨es, clock, (h.block m hlt hn).trans hb, rest⟩
/-- The blocks of a pile. -/
def Foot (p m : Nat) (v : Value) (k : Nat) : Prop := k = p ∨ k = m ∨ v.ownBlock = some k
def SwPost (base p m : Nat) (v : Value) (h : List En) (w : World) (e : Ending) (w' : World) : Prop := e = .returned (.tuple #[]) ∧ PileAt base p m v h h w' ∧ Kept (Foot p m v) w w'

set_option maxHeartbeats 4000000 in
set_option maxRecDepth 100000 in
theorem swap_any (base p m : Nat) (v : Value) (h : List En) (i j : Nat) (w : World) (q : PileAt base p m v h h w) (hk : idsOk h) (hi : i < h.length) (hj : j < h.length) (hs : h.length ≤ 1025) (hij : i ≠ j) :
    Calls Try.prog 55 #[.pointer (some ⟨p, 0, none⟩), .int .i64 (i : Int), .int .i64 (j : Int)] w (SwPost base p m v (swp h i j) w) := by
  have k0 : w.cell? ⟨p, 0, none⟩ = some v := q.blk.cell 0
  have hp := q.blk.lt
  obtain ⟨g', cap, rfl, hb, hc, hm, hcell⟩ := row_cells q.own (by omega)
  obtain ⟨c0, c1, c2⟩ := hcell i hi
  obtain ⟨d0, d1, d2⟩ := hcell j hj
  have hfz := q.own.frozenAt
  have fi0 := hfz (i * 3)
  have fi1 := hfz (i * 3 + 1)
  have fi2 := hfz (i * 3 + 2)
  have fj0 := hfz (j * 3)
  have fj1 := hfz (j * 3 + 1)
  have fj2 := hfz (j * 3 + 2)
  have hg := (q.own.lt g' rfl).2
  have b0 : (0 : Int) ≤ (i : Int) := by omega
  have b1 : (i : Int) < (h.length : Int) := by omega
  have b2 : (0 : Int) ≤ (j : Int) := by omega
  have b3 : (j : Int) < (h.length : Int) := by omega
  have HR := row_swap i j hi hj q.own
  have HA := hk.at hi
  have HB := hk.at hj
  have HC := fun s => plC_swap hk hi hj hij s
  have hca := plC_at hk hi
  have hcb := plC_at hk hj
  have hne : (gt h j).id ≠ (gt h i).id := fun e => hij (hk.inj hj hi e).symm
  have hsw : ∀ x, gt (swp h i j) x = _ := fun x => swp_at h i j x hi hj
  have hsi : gt (swp h i j) i = gt h j := by rw [hsw, if_neg hij, if_pos rfl]
  have hsj : gt (swp h i j) j = gt h i := by rw [hsw, if_pos rfl]
  clear hsw
  generalize gt h i = a at *
  generalize gt h j = b at *
  clear hcell hfz
  have HQ := Lib.hid (And.intro (And.intro HR HC) (And.intro (And.intro q hk) (And.intro (And.intro HA HB) (And.intro (And.intro hca hcb) (And.intro hne (And.intro hsi hsj))))))
  clear HR HC q hk HA HB hca hcb hne hsi hsj
  go_enter Try.func55, Try.ntmps55
  go_wp2
  go_region
  obtain ⟨w1, hw1⟩ : ∃ w1 : World, ((((((w.setCell ⟨g', i * 3, none⟩ (.string ⟨b.id.toArray⟩)).setCell ⟨g', i * 3 + 1, none⟩ (.int .u64 (b.t : Int))).setCell ⟨g', i * 3 + 2, none⟩ (.int .u64 (b.k : Int))).setCell ⟨g', j * 3, none⟩ (.string ⟨a.id.toArray⟩)).setCell ⟨g', j * 3 + 1, none⟩ (.int .u64 (a.t : Int))).setCell ⟨g', j * 3 + 2, none⟩ (.int .u64 (a.k : Int))) = w1 := ⟨_, rfl⟩
  rw [hw1]
  obtain ⟨⟨HR, HC⟩, ⟨q, hk⟩, ⟨HA, HB⟩, ⟨hca, hcb⟩, hne, hsi, hsj⟩ := HQ.out
  rw [hw1] at HR
  have HG : w.grownBy w1 (some g') := by
    rw [← hw1]
    have gs := fun (W : World) (o : Nat) (v : Value) => grown_set W g' o v
    have tr : ∀ {x y z : World}, x.grownBy y (some g') → y.grownBy z (some g') → x.grownBy z (some g') := fun h1 h2 => ⟨h2.os.trans h1.os, h2.tape.trans h1.tape, h2.output.trans h1.output, Nat.le_trans h1.size h2.size, fun k hk hn => (h2.block k (Nat.lt_of_lt_of_le hk h1.size) hn).trans (h1.block k hk hn)⟩
    exact tr (tr (tr (tr (tr (gs _ _ _) (gs _ _ _)) (gs _ _ _)) (gs _ _ _)) (gs _ _ _)) (gs _ _ _)
  have hmg : some m ≠ some g' := fun e => q.map.ne_row q.own (by rw [e]; rfl)
  have hpg : some p ≠ some g' := fun e => q.vne (by rw [e]; rfl)
  have hblk1 := q.blk.kept HG hpg
  have hmap1 := q.map.kept HG hmg
  have hfin : ∀ w2, StrMap w2 m (setKey (setKey (plC h) b.id (.int .i64 (i : Int))) a.id (.int .i64 (j : Int))) → w1.grownBy w2 (some m) → PileAt base p m (.slice (some ⟨g', 0, none⟩) h.length cap) (swp h i j) (swp h i j) w2 ∧ Kept (Foot p m (.slice (some ⟨g', 0, none⟩) h.length cap)) w w2 := by
    intro w2 hm2 hg2
    refine ⟨⟨hblk1.kept hg2 (fun e => hmap1.ne_blk hblk1 (Option.some.inj e).symm), ?_, hm2.ext HC, q.bp, q.bm⟩, (Kept.grown HG ?_).trans (Kept.grown (S := fun k => k = m) hg2 (fun k e _ => (Option.some.inj e).symm)) (fun k e _ => .inr (.inl e))⟩
    · rw [swp_len]
      exact HR.kept hg2 (.inr fun e => hmg (show some m = some g' from e.symm))
    · intro k e _; exact .inr (.inr e)
  obtain ⟨c0', c1', c2'⟩ : w1.cell? ⟨g', i * 3, none⟩ = some (.string ⟨b.id.toArray⟩) ∧ w1.cell? ⟨g', j * 3, none⟩ = some (.string ⟨a.id.toArray⟩) ∧ w1.cell? ⟨p, 1, none⟩ = some (.map (some m)) := by
    obtain ⟨a1, _⟩ := enV_at (swp h i j) i _ (gt_some (by rw [swp_len]; exact hi))
    obtain ⟨a2, _⟩ := enV_at (swp h i j) j _ (gt_some (by rw [swp_len]; exact hj))
    rw [hsi] at a1
    rw [hsj] at a2
    exact ⟨(HR.cellAt (i * 3) (by omega)).trans a1, (HR.cellAt (j * 3) (by omega)).trans a2, hblk1.cell 1⟩
  clear HR HG HC c0 c1 c2 d0 d1 d2 fi0 fi1 fi2 fj0 fj1 fj2 k0 hblk1 hsi hsj
  have hmd : StrMap w1.drew.drew m (plC h) := hmap1
  obtain ⟨sb, eb, Eb⟩ := hmd.entry Try.underlying9 Try.underlying53 (s := b.id) (by unfold maxLen; omega) hcb
  obtain ⟨wB, rB, mB, gB, _⟩ := hmd.store (P := Try.prog) (t := 53) Eb (.int .i64 (i : Int))
  obtain ⟨sa2, ea2, Ea2⟩ := mB.entry Try.underlying9 Try.underlying53 (s := a.id) (by unfold maxLen; omega) ((setKey_other (fun e => hne e.symm)).trans hca)
  obtain ⟨wBA2, rBA2, mBA2, gBA2, _⟩ := mB.store (P := Try.prog) (t := 53) Ea2 (.int .i64 (j : Int))
  have HZ := Lib.hid (And.intro gB (And.intro mBA2 gBA2))
  have rBA2' : (Instr.entryStore 53 (.map (some m)) (.int .i64 (sa2 : Int)) (.int .i64 (j : Int))).run Try.prog wB = .ok () wBA2 := rBA2
  have ea2' : (Instr.mapEntry 53 (.map (some m)) (.string ⟨a.id.toArray⟩)).run Try.prog wB = .ok (.tuple #[.int .i64 (i : Int), .int .i64 (sa2 : Int)]) wB := ea2
  clear rBA2 ea2 mBA2 gBA2 Ea2
  have rB' : (Instr.entryStore 53 (.map (some m)) (.int .i64 (sb : Int)) (.int .i64 (i : Int))).run Try.prog w1.drew.drew = .ok () wB := rB
  have eb' : (Instr.mapEntry 53 (.map (some m)) (.string ⟨b.id.toArray⟩)).run Try.prog w1.drew.drew = .ok (.tuple #[.int .i64 (j : Int), .int .i64 (sb : Int)]) w1.drew.drew := eb
  clear rB eb
  have HF := Lib.hid hfin
  clear hfin hmap1 HQ
  have hq : PileAt base p m (.slice (some ⟨g', 0, none⟩) h.length cap) h h w := q
  have HQ := Lib.hid hq
  clear q hq hmd mB gB hk Eb hca hcb hne hmg hpg HA HB
  obtain ⟨wd, hwd⟩ : ∃ wd : World, wd = w1.drew := ⟨_, rfl⟩
  rw [← hwd] at eb' rB'
  have c0d : wd.cell? ⟨g', i * 3, none⟩ = some (.string ⟨b.id.toArray⟩) := by rw [hwd]; exact c0'
  have c1d : wd.cell? ⟨g', j * 3, none⟩ = some (.string ⟨a.id.toArray⟩) := by rw [hwd]; exact c1'
  have c2d : wd.cell? ⟨p, 1, none⟩ = some (.map (some m)) := by rw [hwd]; exact c2'
  rw [← hwd]
  clear hwd c0' c1' c2' hw1
  go_wp2
  go_region
  go_end0
  have hg2 : w1.grownBy wBA2 (some m) := by
    obtain ⟨g1, _, g2⟩ := HZ.out
    exact ⟨g2.os.trans g1.os, g2.tape.trans g1.tape, g2.output.trans g1.output, Nat.le_trans g1.size g2.size, fun k hk hn => (g2.block k (Nat.lt_of_lt_of_le hk g1.size) hn).trans (g1.block k hk hn)⟩
  exact ⟨rfl, HF.out _ HZ.out.2.1 hg2⟩
end Go.Proofs.Ytjcocgadhdgbjaa
