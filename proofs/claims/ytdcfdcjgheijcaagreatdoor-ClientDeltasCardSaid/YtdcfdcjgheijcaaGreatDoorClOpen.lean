/- client: bytes, and texts, that came in, as a list (names' NmOpen, over client's laid variables). -/
import Derived.SliceStrings
import Derived.Test.YtdcfdcjgheijcaaGreatDoorClLaid
import Derived.Test.YtdcfdcjgheijcaaGreatDoorNmFew
import Derived.Test.YtdcfdcjgheijcaaGreatDoorOpen
import Derived.Deep.Slices
import Derived.ChangeArms
namespace Go.Proofs.YtdcfdcjgheijcaaGreatDoor
open Go.RowKit Go.ChangeShapes Go.WideShapes Go.ChangeAt

set_option maxRecDepth 100000 in
theorem bytes_of {H : Type} {enc : TypeId × Value → H} {W : World} {d : DataW H} {ps : List MemPlace} {v : Value}
    (ho : Value.okWide Tryz.prog W .any 0 22 v) (h : DataW.Trod enc Tryz.prog W 0 (fun _ => true) true 22 v d ps) :
    ∃ a l c bs, v = .slice a l c ∧ bs.length = l ∧ l ≤ 9223372036854775807 ∧ BytesIn W a bs ∧ ∀ n ∈ bs, n < 256 := by
  obtain ⟨a0, l0, c0, rfl⟩ := okWide_slice Tryz.underlying22 ho
  obtain ⟨zs, z1, z2, z3, z4⟩ := nats_of Tryz.underlying22 Tryz.underlying5 (by kernel_rfl) (by decide) h
  unfold maxLen at z2
  refine ⟨_, _, _, zs, rfl, z1, by omega, fun i n hi => ?_, fun n hn => ?_⟩
  · obtain ⟨hlt, rfl⟩ := List.getElem?_eq_some_iff.1 hi
    obtain ⟨b, o, e1, e2, e3⟩ := z3 (by omega)
    exact ⟨b, o, e1, e2, e3 i hlt⟩
  · have := z4 n hn
    have e : IntKind.u8.max = 255 := rfl
    rw [e] at this; omega
set_option maxRecDepth 100000 in
theorem strs_of {H : Type} {enc : TypeId × Value → H} {W : World} {d : DataW H} {ps : List MemPlace} {v : Value}
    (ho : Value.okWide Tryz.prog W .any 0 24 v) (h : DataW.Trod enc Tryz.prog W 0 (fun _ => true) true 24 v d ps) :
    ∃ a c ms, v = .slice a ms.length c ∧ TsAt W (.slice a ms.length c) ms ∧ (∀ s ∈ ms, s.length ≤ maxLen) ∧ (ms.length = 0 ∨ ∃ es sp, d = .slice es sp ∧ es.length = ms.length) := by
  obtain ⟨a0, l0, c0, rfl⟩ := okWide_slice Tryz.underlying24 ho
  obtain ⟨fuel, hf⟩ := h
  rcases open_strings Tryz.underlying24 Tryz.underlying9 Tryz.cellsStr hf with ⟨hcs, hx⟩ | ⟨a, len, cap, ss, hcs, _, hl, hm, hz, hx, hcell, hw⟩
  · simp [Value.cells] at hcs
    obtain ⟨rfl, rfl, rfl⟩ := hcs
    exact ⟨none, 0, [], rfl, RowV.nil _ _ _ (Nat.zero_le _), fun s hs => (List.not_mem_nil hs).elim, .inl rfl⟩
  · simp [Value.cells] at hcs
    obtain ⟨rfl, rfl, rfl⟩ := hcs
    simp only [Prod.mk.injEq] at hx
    obtain ⟨rfl, rfl⟩ := hx
    simp only [if_true] at hz
    have e1 : ((ss.take l0).map (·.data.toList)).length = l0 := by rw [List.length_map, List.length_take]; omega
    obtain ⟨b, off, spot⟩ := a
    refine ⟨some ⟨b, off, spot⟩, c0, (ss.take l0).map (·.data.toList), by rw [e1], ?_, fun s hs => ?_, .inr ⟨_, _, rfl, by rw [e1]; simp [strs]; omega⟩⟩
    · rw [e1]
      refine ⟨_, c0, by rw [tsV_len, e1], by rw [tsV_len, e1]; exact hl, hm, fun j u hj => ?_⟩
      have hjl : j < l0 := by have := (List.getElem?_eq_some_iff.1 hj).1; rw [tsV_len, e1] at this; exact this
      have hc := hcell j (by omega)
      have hsp : spot = none := by
        have : W.cell? (⟨b, off, spot⟩ : Addr) = some (.string (ss.getD 0 ByteArray.empty)) := by
          have h0 := hcell 0 (by omega)
          have hz0 : ∀ a : Addr, a.add 0 = a := fun a => by unfold Addr.add; simp
          rw [hz0] at h0; exact h0
        exact World.cell?_spot this
      subst hsp
      rw [addr_plain] at hc
      have hu : u = .string (ss.getD j ByteArray.empty) := by
        have e2 : (tsV ((ss.take l0).map (·.data.toList)))[j]? = some (.string (ss.getD j ByteArray.empty)) := by
          rw [tsV, List.getElem?_map, List.getElem?_map, List.getElem?_take, if_pos hjl, List.getElem?_eq_getElem (by omega), List.getD_eq_getElem?_getD, List.getElem?_eq_getElem (by omega)]
          rfl
        rw [e2] at hj
        exact (Option.some.inj hj).symm
      rw [hu]
      exact ⟨b, off, rfl, World.block_lt_of_cell? W _ hc, hc⟩
    · obtain ⟨x, hx, rfl⟩ := List.mem_map.1 hs
      have := hw x (List.mem_of_mem_take hx)
      simpa using this
end Go.Proofs.YtdcfdcjgheijcaaGreatDoor
