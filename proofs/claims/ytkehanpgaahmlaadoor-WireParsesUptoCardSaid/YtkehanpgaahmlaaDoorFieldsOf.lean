/- A slice of fields that came in, read as a list; how long its texts are. -/
import Derived.Test.YtkehanpgaahmlaaDoorRows
import Derived.Test.YtkehanpgaahmlaaDoorOwnWalk
import Derived.Deep.Slices
import Derived.Lib.SmallJoins
import Derived.ChangeArms
namespace Go.Proofs.YtkehanpgaahmlaaDoor.lawParses
open Go.ChangeShapes Go.WideShapes Go.ChangeAt Go.RowKit

theorem list_upto {α : Type} {P : Nat → α → Prop} : ∀ (n : Nat), (∀ i, i < n → ∃ x, P i x) → ∃ l : List α, l.length = n ∧ ∀ i (h : i < l.length), P i l[i]
  | 0, _ => ⟨[], rfl, fun i h => by simp at h⟩
  | n + 1, h => by
    obtain ⟨l, hl, hp⟩ := list_upto n (fun i hi => h i (by omega))
    obtain ⟨x, hx⟩ := h n (by omega)
    refine ⟨l ++ [x], by simp [hl], fun i hi => ?_⟩
    by_cases hin : i < l.length
    · rw [List.getElem_append_left hin]; exact hp i hin
    · have : i = l.length := by simp at hi; omega
      subst this
      rw [List.getElem_append_right (Nat.le_refl _)]
      simp only [Nat.sub_self, List.getElem_cons_zero]
      rw [hl]; exact hx

theorem bulk_le {H : Type} : ∀ (ds : List (DataW H)) (d : DataW H), d ∈ ds → Rows.uptoBulk d ≤ Rows.uptoBulkAll ds
  | [], d, h => by cases h
  | e :: ds, d, h => by
    rcases List.mem_cons.1 h with rfl | h
    · rw [Rows.uptoBulkAll]; omega
    · have := bulk_le ds d h
      rw [Rows.uptoBulkAll]; omega

def dOf {H : Type} (G : Gd) : DataW H := .agg [.lit (.int .i64 G.num), .lit (.int .i64 G.kind), .lit (.int .u64 G.n), .lit (.string G.s.data.toList)]
theorem bulk_dOf {H : Type} (G : Gd) : G.s.size ≤ Rows.uptoBulk (dOf (H := H) G) := by
  have hl : G.s.data.toList.length = G.s.size := by simp
  unfold dOf
  simp only [Rows.uptoBulk, Rows.uptoBulkAll]
  omega

theorem cells_of4 (l : List Value) (h : l.length = 4) : ∃ c0 c1 c2 c3, l = [c0, c1, c2, c3] := by
  match l, h with
  | [c0, c1, c2, c3], _ => exact ⟨c0, c1, c2, c3, rfl⟩

set_option maxRecDepth 100000 in
theorem fields_of {H : Type} {enc : TypeId × Value → H} {W : World} {a : Option Addr} {len cap : Nat} {d : DataW H} {ps : List MemPlace}
    (h : DataW.Trod enc Tryd.prog W 0 (fun _ => true) true 36 (.slice a len cap) d ps) :
    ∃ gs : List Gd, gs.length = len ∧ len ≤ maxLen ∧ (0 < len → ∃ sb so, a = some ⟨sb, so, none⟩ ∧ RowO W sb so gs) ∧ (∀ g ∈ gs, g.s.size ≤ Rows.uptoBulk d ∧ g.n < 2 ^ 64) := by
  obtain ⟨fuel, hf⟩ := h
  rcases Go.Deep.open_slice Tryd.underlying36 hf with ⟨hcs, hx⟩ | ⟨a', len', cap', m, n, D, Pl, hcs, _, hl, hm, hmm, hx, hel⟩
  · simp [Value.cells] at hcs
    obtain ⟨rfl, rfl, rfl⟩ := hcs
    exact ⟨[], rfl, Nat.zero_le _, fun h => absurd h (by omega), fun n h => by cases h⟩
  · simp [Value.cells] at hcs
    obtain ⟨rfl, rfl, rfl⟩ := hcs
    simp only [if_true] at hmm
    simp only [Prod.mk.injEq] at hx
    obtain ⟨hd, _⟩ := hx
    have c4 : Tryd.prog.cellsOf 29 = 4 := by kernel_rfl
    have ci : Tryd.prog.cellsOf 3 = 1 := by kernel_rfl
    have cu : Tryd.prog.cellsOf 22 = 1 := by kernel_rfl
    have cS : Tryd.prog.cellsOf 9 = 1 := by kernel_rfl
    obtain ⟨b, off, spot⟩ := a'
    by_cases h0 : len = 0
    · subst h0
      exact ⟨[], rfl, Nat.zero_le _, fun h => absurd h (by omega), fun n h => by cases h⟩
    have hspot : spot = none := by
      obtain ⟨cs', hc, _⟩ := hel 0 (by omega)
      rw [c4] at hc
      obtain ⟨_, hcl, hcc⟩ := World.cells?_some hc
      obtain ⟨v0, v1, v2, v3, rfl⟩ := cells_of4 cs' hcl
      have hh := hcc 0 (by omega)
      have hz : ∀ a : Addr, a.add 0 = a := fun a => by unfold Addr.add; simp
      rw [Nat.zero_mul, hz, hz] at hh
      have h2 : W.cell? (⟨b, off, spot⟩ : Addr) = some v0 := hh
      exact World.cell?_spot h2
    subst hspot
    have one : ∀ i, i < len → ∃ G : Gd, (W.cell? ⟨b, off + i * 4, none⟩ = some (.int .i64 G.num) ∧ W.cell? ⟨b, off + i * 4 + 1, none⟩ = some (.int .i64 G.kind) ∧ W.cell? ⟨b, off + i * 4 + 2, none⟩ = some (.int .u64 G.n) ∧ W.cell? ⟨b, off + i * 4 + 3, none⟩ = some (.string G.s)) ∧ D i = dOf G ∧ G.n < 2 ^ 64 := by
      intro i hi
      obtain ⟨cs', hc, ht⟩ := hel i (by omega)
      rw [c4] at hc
      obtain ⟨_, hcl, hcc⟩ := World.cells?_some hc
      obtain ⟨v0, v1, v2, v3, rfl⟩ := cells_of4 cs' hcl
      obtain ⟨y0, y1, y2, y3, n', hxy, _, g0, g1, g2, g3⟩ := Go.Joins.trod_struct4 Tryd.underlying29 ht
      simp only [ci, cu, cS, List.drop_zero, List.take_succ_cons, List.take_zero, List.drop_succ_cons] at g0 g1 g2 g3
      obtain ⟨k0, e0, rfl, hk0⟩ := DataW.trod_int Tryd.underlying3 g0
      obtain ⟨k1, e1, rfl, hk1⟩ := DataW.trod_int Tryd.underlying3 g1
      obtain ⟨k2, e2, rfl, hk2⟩ := DataW.trod_int Tryd.underlying22 g2
      obtain ⟨k3, e3, rfl, hk3⟩ := DataW.trod_string Tryd.underlying9 g3
      obtain rfl := List.singleton_inj.1 e0
      obtain rfl := List.singleton_inj.1 e1
      obtain rfl := List.singleton_inj.1 e2
      obtain rfl := List.singleton_inj.1 e3
      have bk2 := bounds_u64 hk2
      obtain ⟨n2, rfl⟩ := Int.eq_ofNat_of_zero_le bk2.1
      simp only [Prod.mk.injEq] at hxy
      have hc4 : ∀ j, j < 4 → W.cell? ⟨b, off + i * 4 + j, none⟩ = ([.int .i64 k0, .int .i64 k1, .int .u64 (n2 : Int), .string k3] : List Value)[j]? := fun j hj => by
        have := hcc j hj
        rw [addr_plain, addr_plain] at this
        exact this
      exact ⟨⟨k0, k1, n2, k3⟩, ⟨hc4 0 (by omega), hc4 1 (by omega), hc4 2 (by omega), hc4 3 (by omega)⟩, hxy.1, by show n2 < _; omega⟩
    obtain ⟨gs, hgl, hgs⟩ := list_upto len one
    refine ⟨gs, hgl, by omega, fun _ => ⟨b, off, rfl, World.block_lt_of_cell? W _ (hgs 0 (by omega)).1.1, fun i hi => (hgs i hi).1⟩, fun g hg => ?_⟩
    obtain ⟨i, hi, rfl⟩ := List.mem_iff_getElem.1 hg
    obtain ⟨_, hD, hn⟩ := hgs i hi
    refine ⟨?_, hn⟩
    have hmem : dOf gs[i] ∈ (List.range len).map D := List.mem_map.2 ⟨i, by simp; omega, hD⟩
    have h1 := bulk_le _ _ hmem
    have h2 := bulk_dOf (H := H) gs[i]
    rw [hd]
    simp only [Rows.uptoBulk]
    omega
end Go.Proofs.YtkehanpgaahmlaaDoor.lawParses
