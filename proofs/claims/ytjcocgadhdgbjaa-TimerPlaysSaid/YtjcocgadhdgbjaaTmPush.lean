/- timer: Push of the pile. -/
import Derived.Test.YtjcocgadhdgbjaaTmSwap
import Derived.Deep.RegionLaw
namespace Go.Proofs.Ytjcocgadhdgbjaa
open Go.RowKit

def PuPost (base p m : Nat) (v : Value) (h : List En) (w : World) (e : Ending) (w' : World) : Prop := ∃ v', e = .returned (.tuple #[]) ∧ PileAt base p m v' h h w' ∧ Kept (Foot p m v) w w' ∧ (v'.ownBlock = v.ownBlock ∨ ∃ k, v'.ownBlock = some k ∧ w.heap.size ≤ k)
theorem Try.infoEn : (Try.prog.info? 64).map (fun i => (i.zero, i.size, i.bytes)) = some (some (.agg #[.string ⟨#[]⟩, .int .u64 0, .int .u64 0]), 3, 32) := by kernel_rfl
theorem Try.assertEn (u : Value) (w : World) : (Instr.typeAssert (.iface 64 u) 20 64 false).run Try.prog w = .ok u w := by kernel_rfl
set_option maxHeartbeats 4000000 in
set_option maxRecDepth 100000 in
theorem ppush_any (base p m : Nat) (v : Value) (h : List En) (e : En) (w : World) (q : PileAt base p m v h h w) (hk : idsOk (h ++ [e])) (hs : h.length ≤ 1024) (hbase : base ≤ w.heap.size) :
    Calls Try.prog 54 #[.pointer (some ⟨p, 0, none⟩), .iface 64 (enAgg e)] w (PuPost base p m v (h ++ [e]) w) := by
  have k0 : w.cell? ⟨p, 0, none⟩ = some v := q.blk.cell 0
  have k1 : w.cell? ⟨p, 1, none⟩ = some (.map (some m)) := q.blk.cell 1
  have hp := q.blk.lt
  have hE := hk.2 e (by simp)
  have hmd : StrMap (w.alloc (.cells #[.string ⟨e.id.toArray⟩, .int .u64 (e.t : Int), .int .u64 (e.k : Int)] 64)).drew m (plC h) := q.map.below (n := w.heap.size) (((Below.refl _ _).alloc (Nat.le_refl _) _).drew) q.map.lt
  obtain ⟨w1, hu, hm1, hg1⟩ := hmd.update Try.underlying9 Try.underlying53 (s := e.id) (by unfold maxLen; omega) (.int .i64 (h.length : Int))
  obtain ⟨a, c, rfl⟩ := owns_slice q.own
  have HQ := Lib.hid (And.intro q (And.intro hk (And.intro hm1 hg1)))
  clear q hk hm1 hg1 hmd
  have has := Try.assertEn
  go_enter Try.func54, Try.ntmps54
  go_wp2
  go_region
  obtain ⟨q, hk, hm1, hg1⟩ := HQ.out
  have hB : Below w.heap.size w (w.alloc (.cells #[.string ⟨e.id.toArray⟩, .int .u64 (e.t : Int), .int .u64 (e.k : Int)] 64)).drew := ((Below.refl _ _).alloc (Nat.le_refl _) _).drew
  have qB := q.below hB
  have hmp := q.map.ne_blk q.blk
  have hblk1 := qB.blk.kept hg1 (fun e => hmp (Option.some.inj e).symm)
  have own1 := own_other qB.own hg1 (fun g hg e => q.map.ne_row q.own (by rw [hg]; exact e.symm))
  have hE1 : Blk w1 w.heap.size #[.string ⟨e.id.toArray⟩, .int .u64 (e.t : Int), .int .u64 (e.k : Int)] 64 := Blk.kept (W := w.alloc (.cells #[.string ⟨e.id.toArray⟩, .int .u64 (e.t : Int), .int .u64 (e.k : Int)] 64)) (Blk.new w _ _) ⟨hg1.os, hg1.tape, hg1.output, hg1.size, hg1.block⟩ (fun e => by have := q.map.lt; have := Option.some.inj e; omega)
  have hz1 : w.heap.size + 1 ≤ w1.heap.size := by have := hg1.size; simpa using this
  have kept1 : Kept (Foot p m (.slice a h.length c)) w w1 := (Kept.of hB (Nat.le_refl _)).trans (Kept.grown (S := fun k => k = m) hg1 (fun k e _ => (Option.some.inj e).symm)) (fun k e _ => .inr (.inl e))
  clear HQ hg1 hB qB
  obtain ⟨i0, hi, hz0, hz1', hz2⟩ := info_parts Try.infoEn
  have hnew := Blk.new w1 #[.string ⟨e.id.toArray⟩, .int .u64 (e.t : Int), .int .u64 (e.k : Int)] 64
  have p10 : w1.cell? ⟨p, 0, none⟩ = some (.slice a h.length c) := hblk1.cell 0
  have e10 : w1.cell? ⟨w.heap.size, 0, none⟩ = some (.string ⟨e.id.toArray⟩) := hE1.cell 0
  have e11 : w1.cell? ⟨w.heap.size, 1, none⟩ = some (.int .u64 (e.t : Int)) := hE1.cell 1
  have e12 : w1.cell? ⟨w.heap.size, 2, none⟩ = some (.int .u64 (e.k : Int)) := hE1.cell 2
  have hp1 := hblk1.lt
  have hb1 := hE1.lt
  have HX := Lib.hid (And.intro (And.intro q hk) (And.intro (And.intro hm1 hblk1) (And.intro kept1 hz1)))
  have p1f := hblk1.frozen 0
  have hvp : (Value.slice a h.length c).ownBlock ≠ some p := q.vne
  clear q hk hm1 kept1 hE1 hz1 hmp hu k0 k1
  go_wp2
  go_region_law ((refine step_append_lies _ (by rfl) _ _ 54 (by rfl) base 64 i0 _ 3 32 Try.underlying54 hi hz0 hz1' hz2 rfl (by decide) (.slice a h.length c) h.length (enV h) (by rfl) (own1.alloc _) ⟨w1.heap.size, 0, none⟩ 1 1 (enCells e) (by rfl) rfl (World.news_of_block hnew) (by intro u hu; simp [enCells] at hu; rcases hu with rfl | rfl | rfl <;> rfl) (by decide) (by unfold maxLen; omega) (by omega) (by simp; omega) (w1.heap.size + 1) (by simp) ?_; intro g2 cap2 w2 ho2 hg2 hor hlt2; have hblk2 : Blk w2 p #[.slice a h.length c, .map (some m)] 56 := (hblk1.below (n := w1.heap.size) ((Below.refl _ _).alloc (Nat.le_refl _) _).drew hblk1.lt).kept hg2 (fun e => hvp e.symm); have p20 : w2.cell? ⟨p, 0, none⟩ = some (.slice a h.length c) := hblk2.cell 0; have p2f := hblk2.frozen 0))
  all_goals
    go_end0
    obtain ⟨⟨q, hk⟩, ⟨hm1, hblk1'⟩, kept1, hz1⟩ := HX.out
    have hb2 : Below w1.heap.size w1 (w1.alloc (.cells #[.string ⟨e.id.toArray⟩, .int .u64 (e.t : Int), .int .u64 (e.k : Int)] 64)).drew := ((Below.refl _ _).alloc (Nat.le_refl _) _).drew
    have hgs := grown_set w2 p 0 (.slice (some ⟨g2, 0, none⟩) (h.length + 1) cap2)
    have hmp := hm1.ne_blk hblk1'
    have hvm := q.map.ne_row q.own
    have hm2 := (hm1.below hb2 hm1.lt).kept hg2 (fun e => hvm e.symm)
    have hlen : (h ++ [e]).length = h.length + 1 := by simp
    have hcells : enV h ++ enCells e = enV (h ++ [e]) := by simp [enV]
    rw [hcells] at ho2
    have hne2 := row_block ho2 hblk2 (by decide)
    refine ⟨.slice (some ⟨g2, 0, none⟩) (h.length + 1) cap2, rfl, ⟨hblk2.set 0 _, ?_, ?_, q.bp, q.bm⟩, ?_, ?_⟩
    · rw [hlen]; exact own_other ho2 hgs (fun g hg e => hne2 (hg.trans e.symm))
    · exact (hm2.kept hgs (fun e => hmp (Option.some.inj e))).ext (plC_snoc hk)
    · have k2 : Kept (Foot p m (.slice a h.length c)) w w2 := (kept1.trans (Kept.of (S := fun _ => False) hb2 (Nat.le_refl _)) (fun k e _ => e.elim)).trans (Kept.grown (S := fun k => (Value.slice a h.length c).ownBlock = some k) hg2 (fun k e _ => e)) (fun k e _ => .inr (.inr e))
      exact k2.trans (Kept.grown (S := fun k => k = p) hgs (fun k e _ => (Option.some.inj e).symm)) (fun k e _ => .inl e)
    · rcases hor with hor | rfl
      · exact .inl (by rw [hor]; rfl)
      · exact .inr ⟨w1.heap.size + 1, rfl, by omega⟩
end Go.Proofs.Ytjcocgadhdgbjaa
