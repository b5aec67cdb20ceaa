/- acks: a slice of numbers that came in, as a list (out of ledger's LdDeed). -/
import Derived.Test.YtogkdekjcbljnaaDoorAkAt
import Derived.Test.YtogkdekjcbljnaaDoorRows
import Derived.Test.YtogkdekjcbljnaaDoorOpen
import Derived.Deep.Slices
import Derived.Lib.SmallJoins
import Derived.ChangeArms
namespace Go.Proofs.YtogkdekjcbljnaaDoor
open Go.RowKit Go.ChangeShapes Go.WideShapes Go.ChangeAt

/-- Numbers that came in. -/
def NatsIn (W : World) (a : Option Addr) (bs : List Nat) : Prop := ∀ (i : Nat) (n : Nat), bs[i]? = some n → ∃ b o, a = some ⟨b, o, none⟩ ∧ b < W.heap.size ∧ W.cell? ⟨b, o + i, none⟩ = some (.int .u8 (n : Int))
theorem NatsIn.below {W W' : World} {a : Option Addr} {bs : List Nat} (h : NatsIn W a bs) (hb : Below W.heap.size W W') : NatsIn W' a bs := by
  intro i n hi
  obtain ⟨b, o, e, hl, hc⟩ := h i n hi
  exact ⟨b, o, e, Nat.lt_of_lt_of_le hl hb.size, (hb.cell (p := ⟨b, _, none⟩) hl).trans hc⟩
set_option maxRecDepth 100000 in
theorem bytes_of {H : Type} {enc : TypeId × Value → H} {W : World} {d : DataW H} {ps : List MemPlace} {v : Value}
    (ho : Value.okWide Tryd.prog W .any 0 48 v) (h : DataW.Trod enc Tryd.prog W 0 (fun _ => true) true 48 v d ps) :
    ∃ a l c bs, v = .slice a l c ∧ bs.length = l ∧ l ≤ maxLen ∧ NatsIn W a bs ∧ ∀ n ∈ bs, n < 256 := by
  obtain ⟨a0, l0, c0, rfl⟩ := okWide_slice Tryd.underlying48 ho
  obtain ⟨zs, z1, z2, z3, z4⟩ := nats_of Tryd.underlying48 Tryd.underlying5 (by kernel_rfl) (by decide) h
  refine ⟨_, _, _, zs, rfl, z1, z2, fun i n hi => ?_, fun n hn => ?_⟩
  · obtain ⟨hlt, rfl⟩ := List.getElem?_eq_some_iff.1 hi
    obtain ⟨b, o, e1, e2, e3⟩ := z3 (by omega)
    exact ⟨b, o, e1, e2, e3 i hlt⟩
  · have := z4 n hn
    have e : IntKind.u8.max = 255 := rfl
    rw [e] at this; omega
end Go.Proofs.YtogkdekjcbljnaaDoor
