/- names: bytes, and texts, that came in, as a list. -/
import Derived.SliceStrings
import Derived.Test.YtkjfafnnnkjoeaaGreatDoorMgLaid
import Derived.Test.YtkjfafnnnkjoeaaGreatDoorMgFew
import Derived.Test.YtkjfafnnnkjoeaaGreatDoorOpen
import Derived.Deep.Slices
import Derived.ChangeArms
namespace Go.Proofs.YtkjfafnnnkjoeaaGreatDoor
open Go.RowKit Go.ChangeShapes Go.WideShapes Go.ChangeAt

set_option maxRecDepth 100000 in
theorem bytes_of {H : Type} {enc : TypeId × Value → H} {W : World} {d : DataW H} {ps : List MemPlace} {v : Value}
    (ho : Value.okWide Tryz.prog W .any 0 34 v) (h : DataW.Trod enc Tryz.prog W 0 (fun _ => true) true 34 v d ps) :
    ∃ a l c bs, v = .slice a l c ∧ bs.length = l ∧ l ≤ 9223372036854775807 ∧ BytesIn W a bs ∧ ∀ n ∈ bs, n < 256 := by
  obtain ⟨a0, l0, c0, rfl⟩ := okWide_slice Tryz.underlying34 ho
  obtain ⟨zs, z1, z2, z3, z4⟩ := nats_of Tryz.underlying34 Tryz.underlying5 (by kernel_rfl) (by decide) h
  unfold maxLen at z2
  refine ⟨_, _, _, zs, rfl, z1, by omega, fun i n hi => ?_, fun n hn => ?_⟩
  · obtain ⟨hlt, rfl⟩ := List.getElem?_eq_some_iff.1 hi
    obtain ⟨b, o, e1, e2, e3⟩ := z3 (by omega)
    exact ⟨b, o, e1, e2, e3 i hlt⟩
  · have := z4 n hn
    have e : IntKind.u8.max = 255 := rfl
    rw [e] at this; omega
end Go.Proofs.YtkjfafnnnkjoeaaGreatDoor
