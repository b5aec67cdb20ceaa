/- timer: Less, Swap. -/
import Derived.Test.YtjcocgadhdgbjaaTmLow
namespace Go.Proofs.Ytjcocgadhdgbjaa
open Go.RowKit

abbrev LsS (w : World) (p g n cap i j : Nat) (a b : En) (w' : World) : Prop :=
  w'.cell? ⟨p, 0, none⟩ = some (.slice (some ⟨g, 0, none⟩) n cap) ∧ w'.cell? ⟨g, i * 3, none⟩ = some (.string ⟨a.id.toArray⟩) ∧ w'.cell? ⟨g, i * 3 + 1, none⟩ = some (.int .u64 (a.t : Int)) ∧ w'.cell? ⟨g, i * 3 + 2, none⟩ = some (.int .u64 (a.k : Int)) ∧
    w'.cell? ⟨g, j * 3, none⟩ = some (.string ⟨b.id.toArray⟩) ∧ w'.cell? ⟨g, j * 3 + 1, none⟩ = some (.int .u64 (b.t : Int)) ∧ w'.cell? ⟨g, j * 3 + 2, none⟩ = some (.int .u64 (b.k : Int)) ∧ Below w.heap.size w w'
theorem LsS.next {w : World} {p g n cap i j : Nat} {a b : En} {W W' : World} (hp : p < w.heap.size) (hg : g < w.heap.size) (h : LsS w p g n cap i j a b W) (hb : Below W.heap.size W W') : LsS w p g n cap i j a b W' := by
  obtain ⟨h0, h1, h2, h3, h4, h5, h6, h7⟩ := h
  have hz := h7.size
  have e : ∀ x o, x < w.heap.size → W'.cell? ⟨x, o, none⟩ = W.cell? ⟨x, o, none⟩ := fun x o hx => hb.cell (p := ⟨x, o, none⟩) (Nat.lt_of_lt_of_le hx hz)
  exact ⟨(e p _ hp).trans h0, (e g _ hg).trans h1, (e g _ hg).trans h2, (e g _ hg).trans h3, (e g _ hg).trans h4, (e g _ hg).trans h5, (e g _ hg).trans h6, h7.trans (hb.mono hz)⟩
set_option maxHeartbeats 1000000 in
set_option maxRecDepth 100000 in
theorem less_any (base p m : Nat) (v : Value) (h g : List En) (i j : Nat) (w : World) (q : PileAt base p m v h g w) (hi : i < h.length) (hj : j < h.length) (hs : h.length ≤ 1025) :
    Calls Try.prog 52 #[.pointer (some ⟨p, 0, none⟩), .int .i64 (i : Int), .int .i64 (j : Int)] w fun e w' => e = .returned (.bool (lsB (gt h i) (gt h j))) ∧ Below w.heap.size w w' := by
  have k0 : w.cell? ⟨p, 0, none⟩ = some v := q.blk.cell 0
  have hp := q.blk.lt
  obtain ⟨g', cap, rfl, hb, hc, hm, hcell⟩ := row_cells q.own (by omega)
  obtain ⟨c0, c1, c2⟩ := hcell i hi
  obtain ⟨d0, d1, d2⟩ := hcell j hj
  have hg := (q.own.lt g' rfl).2
  have b0 : (0 : Int) ≤ (i : Int) := by omega
  have b1 : (i : Int) < (h.length : Int) := by omega
  have b2 : (0 : Int) ≤ (j : Int) := by omega
  have b3 : (j : Int) < (h.length : Int) := by omega
  have ST : LsS w p g' h.length cap i j (gt h i) (gt h j) w := ⟨k0, c0, c1, c2, d0, d1, d2, Below.refl _ _⟩
  generalize gt h i = a at *
  generalize gt h j = b at *
  clear hcell q
  go_enter Try.func52, Try.ntmps52
  go_wp2
  go_region_held3 (fun w' => w'.cell? ⟨p, 0, none⟩ = some (.slice (some ⟨g', 0, none⟩) h.length cap) ∧ w'.cell? ⟨g', i * 3, none⟩ = some (.string ⟨a.id.toArray⟩) ∧ w'.cell? ⟨g', i * 3 + 1, none⟩ = some (.int .u64 (a.t : Int)) ∧ w'.cell? ⟨g', i * 3 + 2, none⟩ = some (.int .u64 (a.k : Int)) ∧ w'.cell? ⟨g', j * 3, none⟩ = some (.string ⟨b.id.toArray⟩) ∧ w'.cell? ⟨g', j * 3 + 1, none⟩ = some (.int .u64 (b.t : Int)) ∧ w'.cell? ⟨g', j * 3 + 2, none⟩ = some (.int .u64 (b.k : Int)) ∧ Below w.heap.size w w') (first | exact ⟨k0, c0, c1, c2, d0, d1, d2, below_drewN' 1⟩ | exact LsS.next hp hg (by assumption) (by assumption) | go_keep) ((go_at_call 50; refine (before_any a b _).mono ?_; rintro e w' ⟨rfl, hb'⟩))
  go_wp2
  go_ret
  rename_i hH
  exact ⟨rfl, hH.2.2.2.2.2.2.2⟩
end Go.Proofs.Ytjcocgadhdgbjaa
