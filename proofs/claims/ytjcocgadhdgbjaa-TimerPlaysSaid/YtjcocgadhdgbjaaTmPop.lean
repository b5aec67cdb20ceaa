/- timer: Pop of the pile. -/
import Derived.Test.YtjcocgadhdgbjaaTmPush
namespace Go.Proofs.Ytjcocgadhdgbjaa
open Go.RowKit

/-- A row is cut at its end. -/
theorem own_cut {w : World} {base g n cap size k : Nat} {e : TypeId} {xs : List Value} (ho : w.ownsRow base e size (.slice (some ⟨g, 0, none⟩) n cap) n xs) (hk : k ≤ n) : w.ownsRow base e size (.slice (some ⟨g, 0, none⟩) k cap) k (xs.take (k * size)) := by
  have hl := ho.1
  rcases ho.2 with ⟨h', _⟩ | ⟨g', cap', cur, h', hb, hg, hnc, hcm, hcs, ht⟩
  · simp at h'
  · simp only [Value.slice.injEq, Option.some.injEq, Addr.mk.injEq, and_true, true_and] at h'
    obtain ⟨rfl, rfl⟩ := h'
    have hm : k * size ≤ n * size := Nat.mul_le_mul_right _ hk
    refine ⟨by rw [List.length_take, hl]; omega, .inr ⟨g, cap, cur, rfl, hb, hg, by omega, hcm, hcs, ?_⟩⟩
    rw [← ht, List.take_take, Nat.min_eq_left hm]
theorem enV_take (h : List En) (k : Nat) : (enV h).take (k * 3) = enV (h.take k) := by
  induction h generalizing k with
  | nil => simp [enV]
  | cons a r ih =>
    cases k with
    | zero => simp [enV]
    | succ k =>
      have e1 : enV (a :: r) = enCells a ++ enV r := rfl
      have e2 : enV ((a :: r).take (k + 1)) = enCells a ++ enV (r.take k) := rfl
      rw [e1, e2, ← ih, show (k + 1) * 3 = k * 3 + 3 from by omega]
      rfl
/-- The row h's first ones, the map still of all. -/
def PoPost (base p m : Nat) (v : Value) (h : List En) (w : World) (e : Ending) (w' : World) : Prop := ∃ v', e = .returned (.iface 64 (enAgg (gt h (h.length - 1)))) ∧ PileAt base p m v' (h.take (h.length - 1)) h w' ∧ Kept (Foot p m v) w w' ∧ v'.ownBlock = v.ownBlock
theorem pop_keep (base p m g' cap : Nat) (h : List En) (n : Nat) (a : En) (w : World) (q : PileAt base p m (.slice (some ⟨g', 0, none⟩) h.length cap) h h w) (hn : h.length = n + 1) (hgp : g' ≠ p) :
    PileAt base p m (.slice (some ⟨g', 0, none⟩) n cap) (h.take (h.length - 1)) h (((((w.setCell ⟨g', n * 3, none⟩ (.string ⟨#[]⟩)).setCell ⟨g', n * 3 + 1, none⟩ (.int .u64 0)).setCell ⟨g', n * 3 + 2, none⟩ (.int .u64 0)).setCell ⟨p, 0, none⟩ (.slice (some ⟨g', 0, none⟩) n cap)).alloc (.cells #[.string ⟨a.id.toArray⟩, .int .u64 (a.t : Int), .int .u64 (a.k : Int)] 64)) ∧
      Kept (Foot p m (.slice (some ⟨g', 0, none⟩) (n + 1) cap)) w (((((w.setCell ⟨g', n * 3, none⟩ (.string ⟨#[]⟩)).setCell ⟨g', n * 3 + 1, none⟩ (.int .u64 0)).setCell ⟨g', n * 3 + 2, none⟩ (.int .u64 0)).setCell ⟨p, 0, none⟩ (.slice (some ⟨g', 0, none⟩) n cap)).alloc (.cells #[.string ⟨a.id.toArray⟩, .int .u64 (a.t : Int), .int .u64 (a.k : Int)] 64)) ∧
      (Value.slice (some ⟨g', 0, none⟩) n cap).ownBlock = (Value.slice (some ⟨g', 0, none⟩) (n + 1) cap).ownBlock := by
  have hl : h.length - 1 = n := by omega
  have ho : w.ownsRow base 64 3 (.slice (some ⟨g', 0, none⟩) (n + 1) cap) (n + 1) (enV h) := by have := q.own; rw [hn] at this; exact this
  have h1 := ho
  have h2 := h1.stored (n * 3) (.string ⟨#[]⟩)
  generalize w.setCell ⟨g', n * 3, none⟩ (.string ⟨#[]⟩) = w2 at *
  have h3 := h2.1.stored (n * 3 + 1) (.int .u64 0)
  generalize w2.setCell ⟨g', n * 3 + 1, none⟩ (.int .u64 0) = w3 at *
  have h4 := h3.1.stored (n * 3 + 2) (.int .u64 0)
  generalize w3.setCell ⟨g', n * 3 + 2, none⟩ (.int .u64 0) = w4 at *
  have hcut := own_cut h4.1 (Nat.le_succ n)
  have hxs : (((((enV h).set (n * 3) (.string ⟨#[]⟩)).set (n * 3 + 1) (.int .u64 0)).set (n * 3 + 2) (.int .u64 0)).take (n * 3)) = enV (h.take n) := by
    rw [← enV_take, List.take_set, List.take_set, List.take_set, List.set_eq_of_length_le (by simp; omega), List.set_eq_of_length_le (by simp; omega), List.set_eq_of_length_le (by simp; omega)]
  rw [hxs] at hcut
  have hpg : some p ≠ some g' := fun e => hgp (Option.some.inj e).symm
  have hmg : some m ≠ some g' := fun e => q.map.ne_row q.own e.symm
  have hb4 := ((q.blk.kept h2.2 hpg).kept h3.2 hpg).kept h4.2 hpg
  have hm4 := ((q.map.kept h2.2 hmg).kept h3.2 hmg).kept h4.2 hmg
  have hgs := grown_set w4 p 0 (.slice (some ⟨g', 0, none⟩) n cap)
  have hbs := hb4.set 0 (.slice (some ⟨g', 0, none⟩) n cap)
  generalize w4.setCell ⟨p, 0, none⟩ (.slice (some ⟨g', 0, none⟩) n cap) = w5 at *
  have hF : ∀ k, some g' = some k → Foot p m (.slice (some ⟨g', 0, none⟩) (n + 1) cap) k := fun k e => .inr (.inr e)
  have hR : ∀ {x y : World}, x.grownBy y (some g') → Kept (Foot p m (.slice (some ⟨g', 0, none⟩) (n + 1) cap)) x y := fun hg => Kept.grown hg (fun k e _ => hF k e)
  have kk := ((hR h2.2).trans (hR h3.2) (fun k e _ => e)).trans (hR h4.2) (fun k e _ => e)
  have hA : Below w5.heap.size w5 (w5.alloc (.cells #[.string ⟨a.id.toArray⟩, .int .u64 (a.t : Int), .int .u64 (a.k : Int)] 64)) := (Below.refl _ _).alloc (Nat.le_refl _) _
  suffices hq : PileAt base p m (.slice (some ⟨g', 0, none⟩) n cap) (h.take (h.length - 1)) h w5 ∧ Kept (Foot p m (.slice (some ⟨g', 0, none⟩) (n + 1) cap)) w w5 from ⟨hq.1.below hA, hq.2.trans (Kept.of (S := fun _ => False) hA (Nat.le_refl _)) (fun k e _ => e.elim), rfl⟩
  refine ⟨⟨hbs, ?_, hm4.kept hgs (fun e => hm4.ne_blk hb4 (Option.some.inj e)), q.bp, q.bm⟩, kk.trans (Kept.grown (S := fun k => k = p) hgs (fun k e _ => (Option.some.inj e).symm)) (fun k e _ => .inl e)⟩
  rw [hl, show (h.take n).length = n from by simp; omega]
  exact own_other hcut hgs (fun g hg e => hgp (Option.some.inj (hg.trans e.symm)))
set_option maxHeartbeats 4000000 in
set_option maxRecDepth 100000 in
theorem ppop_any (base p m : Nat) (v : Value) (h : List En) (n : Nat) (w : World) (q : PileAt base p m v h h w) (hn : h.length = n + 1) (hs : h.length ≤ 1025) :
    Calls Try.prog 53 #[.pointer (some ⟨p, 0, none⟩)] w (PoPost base p m v h w) := by
  have k0 : w.cell? ⟨p, 0, none⟩ = some v := q.blk.cell 0
  have f0 := q.blk.frozen 0
  have hp := q.blk.lt
  obtain ⟨g', cap, rfl, hb, hc, hm, hcell⟩ := row_cells q.own (by omega)
  obtain ⟨c0, c1, c2⟩ := hcell n (by omega)
  have hfz := q.own.frozenAt
  have fi0 := hfz (n * 3)
  have fi1 := hfz (n * 3 + 1)
  have fi2 := hfz (n * 3 + 2)
  have hg := (q.own.lt g' rfl).2
  have hgp : g' ≠ p := fun e => q.vne (by rw [e]; rfl)
  have b0 : (0 : Int) ≤ (n : Int) := by omega
  have b1 : (n : Int) ≤ (cap : Int) := by omega
  have b2 : (n : Int) < (h.length : Int) := by omega
  have b3 : n ≤ 1025 := by omega
  have HQ := Lib.hid (And.intro q hn)
  clear hcell hfz q
  rw [hn] at k0 b2 hs ⊢
  generalize hG : gt h n = a at *
  have HG := Lib.hid hG
  clear hG hn
  go_enter Try.func53, Try.ntmps53
  go_wp2
  go_ret
  have hp' := pop_keep base p m g' cap h n a w HQ.out.1 HQ.out.2 hgp
  have hl : h.length - 1 = n := by have := HQ.out.2; omega
  refine ⟨.slice (some ⟨g', 0, none⟩) n cap, ?_, hp'⟩
  rw [hl, HG.out]
  rfl
end Go.Proofs.Ytjcocgadhdgbjaa
