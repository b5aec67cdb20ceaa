/- frame: slices of texts, of bytes and of pieces that came in, read as lists. -/
import Derived.Test.YtkfbhiggnnjoiaaDoorRows
import Derived.Test.YtkfbhiggnnjoiaaDoorOpen
import Derived.Test.YtkfbhiggnnjoiaaDoorFrLow
import Derived.Deep.Slices
import Derived.Lib.SmallJoins
import Derived.ChangeArms
namespace Go.Proofs.YtkfbhiggnnjoiaaDoor
open Go.ChangeShapes Go.WideShapes Go.ChangeAt Go.RowKit

theorem list_upto {α : Type} {P : Nat → α → Prop} : ∀ (n : Nat), (∀ i, i < n → ∃ x, P i x) → ∃ l : List α, l.length = n ∧ ∀ i (h : i < l.length), P i l[i]
  | 0, _ => ⟨[], rfl, fun i h => by simp at h⟩
  | n + 1, h => by
    obtain ⟨l, hl, hp⟩ := list_upto n (fun i hi => h i (by omega))
    obtain ⟨x, hx⟩ := h n (by omega)
    refine ⟨l ++ [x], by simp [hl], fun i hi => ?_⟩
    by_cases hin : i < l.length
    · rw [List.getElem_append_left hin]; exact hp i hin
    · have : i = l.length := by simp at hi; omega
      subst this
      rw [List.getElem_append_right (Nat.le_refl _)]
      simp only [Nat.sub_self, List.getElem_cons_zero]
      rw [hl]; exact hx
theorem bulk_le {H : Type} : ∀ (ds : List (DataW H)) (d : DataW H), d ∈ ds → Rows.uptoBulk d ≤ Rows.uptoBulkAll ds
  | [], d, h => by cases h
  | e :: ds, d, h => by
    rcases List.mem_cons.1 h with rfl | h
    · rw [Rows.uptoBulkAll]; omega
    · have := bulk_le ds d h
      rw [Rows.uptoBulkAll]; omega

/-- Texts that came in. -/
def StrsIn (W : World) (a : Option Addr) (ms : List ByteArray) : Prop := ∀ i s, ms[i]? = some s → ∃ b o, a = some ⟨b, o, none⟩ ∧ b < W.heap.size ∧ W.cell? ⟨b, o + i, none⟩ = some (.string s)
/-- Bytes that came in. -/
def NatsIn (W : World) (a : Option Addr) (ms : List Nat) : Prop := ∀ (i n : Nat), ms[i]? = some n → ∃ b o, a = some ⟨b, o, none⟩ ∧ b < W.heap.size ∧ W.cell? ⟨b, o + i, none⟩ = some (.int .u8 (n : Int))
structure Pc where
  s : ByteArray
  pk : Bool
  cut : Nat
def PcsIn (W : World) (a : Option Addr) (ms : List Pc) : Prop := ∀ i p, ms[i]? = some p → ∃ b o, a = some ⟨b, o, none⟩ ∧ b < W.heap.size ∧ W.cell? ⟨b, o + i * 3, none⟩ = some (.string p.s) ∧ W.cell? ⟨b, o + i * 3 + 1, none⟩ = some (.bool p.pk) ∧ W.cell? ⟨b, o + i * 3 + 2, none⟩ = some (.int .u8 (p.cut : Int))
theorem StrsIn.below {W W' : World} {a : Option Addr} {ms : List ByteArray} (h : StrsIn W a ms) (hb : Below W.heap.size W W') : StrsIn W' a ms := by
  intro i s hs
  obtain ⟨b, o, e, hl, hc⟩ := h i s hs
  exact ⟨b, o, e, Nat.lt_of_lt_of_le hl hb.size, (hb.cell (p := ⟨b, o + i, none⟩) hl).trans hc⟩
theorem NatsIn.below {W W' : World} {a : Option Addr} {ms : List Nat} (h : NatsIn W a ms) (hb : Below W.heap.size W W') : NatsIn W' a ms := by
  intro i s hs
  obtain ⟨b, o, e, hl, hc⟩ := h i s hs
  exact ⟨b, o, e, Nat.lt_of_lt_of_le hl hb.size, (hb.cell (p := ⟨b, o + i, none⟩) hl).trans hc⟩
theorem PcsIn.below {W W' : World} {a : Option Addr} {ms : List Pc} (h : PcsIn W a ms) (hb : Below W.heap.size W W') : PcsIn W' a ms := by
  intro i s hs
  obtain ⟨b, o, e, hl, h0, h1, h2⟩ := h i s hs
  exact ⟨b, o, e, Nat.lt_of_lt_of_le hl hb.size, (hb.cell (p := ⟨b, o + i * 3, none⟩) hl).trans h0, (hb.cell (p := ⟨b, o + i * 3 + 1, none⟩) hl).trans h1, (hb.cell (p := ⟨b, o + i * 3 + 2, none⟩) hl).trans h2⟩

set_option maxRecDepth 100000 in
theorem bytes_of {H : Type} {enc : TypeId × Value → H} {W : World} {d : DataW H} {ps : List MemPlace} {v : Value}
    (ho : Value.okWide Tryd.prog W .any 0 39 v) (h : DataW.Trod enc Tryd.prog W 0 (fun _ => true) true 39 v d ps) :
    ∃ a l c bs, v = .slice a l c ∧ bs.length = l ∧ l ≤ maxLen ∧ NatsIn W a bs ∧ ∀ n ∈ bs, n < 256 := by
  obtain ⟨a0, l0, c0, rfl⟩ := okWide_slice Tryd.underlying39 ho
  obtain ⟨zs, z1, z2, z3, z4⟩ := nats_of Tryd.underlying39 Tryd.underlying5 (by kernel_rfl) (by decide) h
  refine ⟨_, _, _, zs, rfl, z1, z2, fun i n hi => ?_, fun n hn => ?_⟩
  · obtain ⟨hlt, rfl⟩ := List.getElem?_eq_some_iff.1 hi
    obtain ⟨b, o, e1, e2, e3⟩ := z3 (by omega)
    exact ⟨b, o, e1, e2, e3 i hlt⟩
  · have := z4 n hn
    have e : IntKind.u8.max = 255 := rfl
    rw [e] at this; omega

set_option maxRecDepth 100000 in
theorem strs_of {H : Type} {enc : TypeId × Value → H} {W : World} {d : DataW H} {ps : List MemPlace} {v : Value}
    (ho : Value.okWide Tryd.prog W .any 0 33 v) (h : DataW.Trod enc Tryd.prog W 0 (fun _ => true) true 33 v d ps) :
    ∃ a l c ms, v = .slice a l c ∧ ms.length = l ∧ l ≤ maxLen ∧ StrsIn W a ms ∧ ∀ s ∈ ms, s.size ≤ maxLen := by
  obtain ⟨aa, len, cap, rfl⟩ := okWide_slice Tryd.underlying33 ho
  obtain ⟨fuel, hf⟩ := h
  rcases Go.Deep.open_slice Tryd.underlying33 hf with ⟨hcs, hx⟩ | ⟨a', len', cap', m, n, D, Pl, hcs, _, hl, hm, hmm, hx, hel⟩
  · simp [Value.cells] at hcs
    obtain ⟨rfl, rfl, rfl⟩ := hcs
    exact ⟨none, 0, 0, [], rfl, rfl, Nat.zero_le _, fun i r hi => by simp at hi, fun G hG => (List.not_mem_nil hG).elim⟩
  · simp [Value.cells] at hcs
    obtain ⟨rfl, rfl, rfl⟩ := hcs
    simp only [if_true] at hmm
    have cS : Tryd.prog.cellsOf 9 = 1 := by kernel_rfl
    obtain ⟨b, off, spot⟩ := a'
    by_cases h0 : len = 0
    · subst h0
      exact ⟨some ⟨b, off, spot⟩, 0, cap, [], rfl, rfl, Nat.zero_le _, fun i r hi => by simp at hi, fun G hG => (List.not_mem_nil hG).elim⟩
    have one0 : ∀ i, i < len → ∃ s : ByteArray, W.cell? ((⟨b, off, spot⟩ : Addr).add i) = some (.string s) ∧ s.size ≤ maxLen := by
      intro i hi
      obtain ⟨cs', hc, ht⟩ := hel i (by omega)
      rw [cS] at hc
      obtain ⟨_, hcl, hcc⟩ := World.cells?_some hc
      obtain ⟨k0, e0, _, hk0⟩ := DataW.trod_string Tryd.underlying9 ht
      subst e0
      have hh := hcc 0 (by omega)
      have hz : ∀ a : Addr, a.add 0 = a := fun a => by unfold Addr.add; simp
      rw [Nat.mul_one, hz] at hh
      exact ⟨k0, hh, hk0⟩
    have hspot : spot = none := by
      obtain ⟨s, hs, _⟩ := one0 0 (by omega)
      have hz : ∀ a : Addr, a.add 0 = a := fun a => by unfold Addr.add; simp
      rw [hz] at hs
      exact World.cell?_spot hs
    subst hspot
    have one : ∀ i, i < len → ∃ s : ByteArray, W.cell? ⟨b, off + i, none⟩ = some (.string s) ∧ s.size ≤ maxLen := by
      intro i hi
      obtain ⟨s, hs, hk⟩ := one0 i hi
      rw [addr_plain] at hs
      exact ⟨s, hs, hk⟩
    obtain ⟨gs, hgl, hgs⟩ := list_upto len one
    refine ⟨some ⟨b, off, none⟩, len, cap, gs, rfl, hgl, by omega, fun i r hi => ?_, fun G hG => ?_⟩
    · obtain ⟨hi', rfl⟩ := List.getElem?_eq_some_iff.1 hi
      have hh := (hgs i hi').1
      exact ⟨b, off, rfl, World.block_lt_of_cell? W _ hh, hh⟩
    · obtain ⟨i, hi, rfl⟩ := List.mem_iff_getElem.1 hG
      exact (hgs i hi).2

def dPc {H : Type} (G : Pc) : DataW H := .agg [.lit (.string G.s.data.toList), .lit (.bool G.pk), .lit (.int .u8 G.cut)]
theorem cells_of3 (l : List Value) (h : l.length = 3) : ∃ c0 c1 c2, l = [c0, c1, c2] := by
  match l, h with
  | [c0, c1, c2], _ => exact ⟨c0, c1, c2, rfl⟩
end Go.Proofs.YtkfbhiggnnjoiaaDoor
