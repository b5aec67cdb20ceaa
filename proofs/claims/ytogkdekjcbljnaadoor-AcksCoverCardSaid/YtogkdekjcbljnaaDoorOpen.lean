/- A slice of numbers that came in, read as a list of naturals. No program. -/
import Derived.Test.YtogkdekjcbljnaaDoorKeep
import Derived.ChangeSlices
import Derived.WideShapes
import Derived.ChangeShapes
import Derived.Below
namespace Go.Proofs.YtogkdekjcbljnaaDoor
open Go.RowKit Go.ChangeShapes
section
variable {H : Type} {enc : TypeId × Value → H} {P : Program} {W : World}

theorem addr_plain (b o i : Nat) : (⟨b, o, none⟩ : Addr).add i = ⟨b, o + i, none⟩ := by unfold Addr.add; split <;> simp_all

theorem ints_of {t e : TypeId} {k : IntKind} (ht : P.underlying t = some (.slice e)) (he : P.underlying e = some (.int k)) (hc : P.cellsOf e = 1) {a : Option Addr} {len cap : Nat} {d : DataW H} {ps : List MemPlace}
    (h : DataW.Trod enc P W 0 (fun _ => true) true t (.slice a len cap) d ps) :
    ∃ zs : List Int, zs.length = len ∧ len ≤ maxLen ∧ (0 < len → ∃ b o, a = some ⟨b, o, none⟩ ∧ b < W.heap.size ∧ ∀ j (h : j < zs.length), W.cell? ⟨b, o + j, none⟩ = some (.int k zs[j])) ∧ (∀ n ∈ zs, (Lit.int k n).wf = true) := by
  obtain ⟨fuel, hf⟩ := h
  rcases open_ints ht he hc hf with ⟨hcs, hx⟩ | ⟨a', len', cap', zs, hcs, _, hl, hm, hz, hx, hcell, hwz⟩
  · simp [Value.cells] at hcs
    obtain ⟨rfl, rfl, rfl⟩ := hcs
    exact ⟨[], rfl, Nat.zero_le _, fun h => absurd h (by omega), fun n h => by cases h⟩
  · simp [Value.cells] at hcs
    obtain ⟨rfl, rfl, rfl⟩ := hcs
    simp only [if_true] at hz
    refine ⟨zs.take len, by rw [List.length_take]; omega, by omega, fun h0 => ?_, fun n hn => hwz n (List.mem_of_mem_take hn)⟩
    obtain ⟨b, off, spot⟩ := a'
    have hspot : spot = none := by simpa [Addr.add] using World.cell?_spot (hcell 0 (by omega))
    subst hspot
    have h00 := hcell 0 (by omega)
    rw [addr_plain] at h00
    refine ⟨b, off, rfl, World.block_lt_of_cell? W _ h00, fun j hj => ?_⟩
    have hj' : j < zs.length := by rw [List.length_take] at hj; omega
    have := hcell j hj'
    rw [addr_plain] at this
    rw [this, List.getElem_take]
    simp [List.getD, List.getElem?_eq_getElem hj']

/-- The same for a kind without sign. -/
theorem nats_of {t e : TypeId} {k : IntKind} (ht : P.underlying t = some (.slice e)) (he : P.underlying e = some (.int k)) (hc : P.cellsOf e = 1) (hk : k.min = 0) {a : Option Addr} {len cap : Nat} {d : DataW H} {ps : List MemPlace}
    (h : DataW.Trod enc P W 0 (fun _ => true) true t (.slice a len cap) d ps) :
    ∃ zs : List Nat, zs.length = len ∧ len ≤ maxLen ∧ (0 < len → ∃ b o, a = some ⟨b, o, none⟩ ∧ b < W.heap.size ∧ ∀ j (h : j < zs.length), W.cell? ⟨b, o + j, none⟩ = some (.int k (zs[j] : Nat))) ∧ (∀ n ∈ zs, (n : Int) ≤ k.max) := by
  obtain ⟨zs, h1, h2, h3, h4⟩ := ints_of ht he hc h
  have hn : ∀ z ∈ zs, 0 ≤ z ∧ z ≤ k.max := fun z hz => by
    have := h4 z hz
    unfold Lit.wf at this
    simpa [hk] using this
  refine ⟨zs.map Int.toNat, by rw [List.length_map]; exact h1, h2, fun h0 => ?_, fun n hn' => ?_⟩
  · obtain ⟨b, o, e1, e2, e3⟩ := h3 h0
    refine ⟨b, o, e1, e2, fun j hj => ?_⟩
    rw [List.length_map] at hj
    rw [e3 j hj, List.getElem_map, Int.toNat_of_nonneg (hn _ (List.getElem_mem _)).1]
  · obtain ⟨z, hz, rfl⟩ := List.mem_map.1 hn'
    have := hn z hz
    rw [Int.toNat_of_nonneg this.1]; exact this.2
end
end Go.Proofs.YtogkdekjcbljnaaDoor
