/- timer: slices of bytes and of deeds that came in, read as lists. -/
import Derived.Test.YtjcocgadhdgbjaaRows
import Derived.Test.YtjcocgadhdgbjaaOpen
import Derived.Test.YtjcocgadhdgbjaaTmEx
import Derived.Deep.Slices
import Derived.Lib.SmallJoins
import Derived.ChangeArms
namespace Go.Proofs.Ytjcocgadhdgbjaa
open Go.ChangeShapes Go.WideShapes Go.ChangeAt Go.RowKit

theorem list_upto {α : Type} {P : Nat → α → Prop} : ∀ (n : Nat), (∀ i, i < n → ∃ x, P i x) → ∃ l : List α, l.length = n ∧ ∀ i (h : i < l.length), P i l[i]
  | 0, _ => ⟨[], rfl, fun i h => by simp at h⟩
  | n + 1, h => by
    obtain ⟨l, hl, hp⟩ := list_upto n (fun i hi => h i (by omega))
    obtain ⟨x, hx⟩ := h n (by omega)
    refine ⟨l ++ [x], by simp [hl], fun i hi => ?_⟩
    by_cases hin : i < l.length
    · rw [List.getElem_append_left hin]; exact hp i hin
    · have : i = l.length := by simp at hi; omega
      subst this
      rw [List.getElem_append_right (Nat.le_refl _)]
      simp only [Nat.sub_self, List.getElem_cons_zero]
      rw [hl]; exact hx
theorem bulk_le {H : Type} : ∀ (ds : List (DataW H)) (d : DataW H), d ∈ ds → Rows.uptoBulk d ≤ Rows.uptoBulkAll ds
  | [], d, h => by cases h
  | e :: ds, d, h => by
    rcases List.mem_cons.1 h with rfl | h
    · rw [Rows.uptoBulkAll]; omega
    · have := bulk_le ds d h
      rw [Rows.uptoBulkAll]; omega

/-- Bytes that came in. -/
def NatsIn (W : World) (a : Option Addr) (ms : List Nat) : Prop := ∀ (i n : Nat), ms[i]? = some n → ∃ b o, a = some ⟨b, o, none⟩ ∧ b < W.heap.size ∧ W.cell? ⟨b, o + i, none⟩ = some (.int .u8 (n : Int))
theorem NatsIn.below {W W' : World} {a : Option Addr} {ms : List Nat} (h : NatsIn W a ms) (hb : Below W.heap.size W W') : NatsIn W' a ms := by
  intro i s hs
  obtain ⟨b, o, e, hl, hc⟩ := h i s hs
  exact ⟨b, o, e, Nat.lt_of_lt_of_le hl hb.size, (hb.cell (p := ⟨b, o + i, none⟩) hl).trans hc⟩
set_option maxRecDepth 100000 in
theorem bytes_of {H : Type} {enc : TypeId × Value → H} {W : World} {d : DataW H} {ps : List MemPlace} {v : Value}
    (ho : Value.okWide Try.prog W .any 0 46 v) (h : DataW.Trod enc Try.prog W 0 (fun _ => true) true 46 v d ps) :
    ∃ a l c bs, v = .slice a l c ∧ bs.length = l ∧ (l ≤ c ∧ c ≤ maxLen) ∧ NatsIn W a bs ∧ ∀ n ∈ bs, n < 256 := by
  obtain ⟨a0, l0, c0, rfl⟩ := okWide_slice Try.underlying46 ho
  obtain ⟨zs, z1, z2, z3, z4⟩ := nats_of Try.underlying46 Try.underlying5 (by kernel_rfl) (by decide) h
  have hc : l0 ≤ c0 ∧ c0 ≤ maxLen := by
    obtain ⟨fuel, hf⟩ := h
    rcases open_ints Try.underlying46 Try.underlying5 (by kernel_rfl) hf with ⟨hcs, _⟩ | ⟨a', len', cap', zs', hcs, _, hl, hm, _⟩
    · simp [Value.cells] at hcs
      obtain ⟨_, rfl, rfl⟩ := hcs
      exact ⟨Nat.le_refl _, Nat.zero_le _⟩
    · simp [Value.cells] at hcs
      obtain ⟨_, rfl, rfl⟩ := hcs
      exact ⟨hl, hm⟩
  refine ⟨_, _, _, zs, rfl, z1, hc, fun i n hi => ?_, fun n hn => ?_⟩
  · obtain ⟨hlt, rfl⟩ := List.getElem?_eq_some_iff.1 hi
    obtain ⟨b, o, e1, e2, e3⟩ := z3 (by omega)
    exact ⟨b, o, e1, e2, e3 i hlt⟩
  · have := z4 n hn
    have e : IntKind.u8.max = 255 := rfl
    rw [e] at this; omega

/-- A deed. -/
structure Dd where
  k : Nat
  i : Nat
  s : ByteArray
  t : Nat
def DdsIn (W : World) (a : Option Addr) (ms : List Dd) : Prop := ∀ i p, ms[i]? = some p → ∃ b o, a = some ⟨b, o, none⟩ ∧ b < W.heap.size ∧ W.cell? ⟨b, o + i * 4, none⟩ = some (.int .u8 (p.k : Int)) ∧ W.cell? ⟨b, o + i * 4 + 1, none⟩ = some (.int .u8 (p.i : Int)) ∧ W.cell? ⟨b, o + i * 4 + 2, none⟩ = some (.string p.s) ∧ W.cell? ⟨b, o + i * 4 + 3, none⟩ = some (.int .u64 (p.t : Int))
theorem DdsIn.below {W W' : World} {a : Option Addr} {ms : List Dd} (h : DdsIn W a ms) (hb : Below W.heap.size W W') : DdsIn W' a ms := by
  intro i s hs
  obtain ⟨b, o, e, hl, h0, h1, h2, h3⟩ := h i s hs
  exact ⟨b, o, e, Nat.lt_of_lt_of_le hl hb.size, (hb.cell (p := ⟨b, o + i * 4, none⟩) hl).trans h0, (hb.cell (p := ⟨b, o + i * 4 + 1, none⟩) hl).trans h1, (hb.cell (p := ⟨b, o + i * 4 + 2, none⟩) hl).trans h2, (hb.cell (p := ⟨b, o + i * 4 + 3, none⟩) hl).trans h3⟩
theorem cells_of4 (l : List Value) (h : l.length = 4) : ∃ c0 c1 c2 c3, l = [c0, c1, c2, c3] := by
  match l, h with
  | [c0, c1, c2, c3], _ => exact ⟨c0, c1, c2, c3, rfl⟩
set_option maxRecDepth 100000 in
theorem deeds_of {H : Type} {enc : TypeId × Value → H} {W : World} {d : DataW H} {ps : List MemPlace} {v : Value}
    (ho : Value.okWide Try.prog W .any 0 22 v) (h : DataW.Trod enc Try.prog W 0 (fun _ => true) true 22 v d ps) :
    ∃ a l c ms, v = .slice a l c ∧ ms.length = l ∧ l ≤ maxLen ∧ DdsIn W a ms ∧ ∀ p ∈ ms, p.s.size ≤ maxLen ∧ p.k < 256 ∧ p.i < 256 ∧ p.s.size ≤ Rows.uptoBulk d := by
  obtain ⟨aa, len, cap, rfl⟩ := okWide_slice Try.underlying22 ho
  obtain ⟨fuel, hf⟩ := h
  rcases Go.Deep.open_slice Try.underlying22 hf with ⟨hcs, hx⟩ | ⟨a', len', cap', m, n, D, Pl, hcs, _, hl, hm, hmm, hx, hel⟩
  · simp [Value.cells] at hcs
    obtain ⟨rfl, rfl, rfl⟩ := hcs
    exact ⟨none, 0, 0, [], rfl, rfl, Nat.zero_le _, fun i r hi => by simp at hi, fun G hG => (List.not_mem_nil hG).elim⟩
  · simp [Value.cells] at hcs
    obtain ⟨rfl, rfl, rfl⟩ := hcs
    simp only [if_true] at hmm
    have hd := congrArg Prod.fst hx
    simp only at hd
    have c4 : Try.prog.cellsOf 32 = 4 := by kernel_rfl
    have cS : Try.prog.cellsOf 9 = 1 := by kernel_rfl
    have cb : Try.prog.cellsOf 30 = 1 := by kernel_rfl
    have cu : Try.prog.cellsOf 5 = 1 := by kernel_rfl
    obtain ⟨b, off, spot⟩ := a'
    by_cases h0 : len = 0
    · subst h0
      exact ⟨some ⟨b, off, spot⟩, 0, cap, [], rfl, rfl, Nat.zero_le _, fun i r hi => by simp at hi, fun G hG => (List.not_mem_nil hG).elim⟩
    have hspot : spot = none := by
      obtain ⟨cs', hc, _⟩ := hel 0 (by omega)
      rw [c4] at hc
      obtain ⟨_, hcl, hcc⟩ := World.cells?_some hc
      obtain ⟨v0, v1, v2, v3, rfl⟩ := cells_of4 cs' hcl
      have hh := hcc 0 (by omega)
      have hz : ∀ a : Addr, a.add 0 = a := fun a => by unfold Addr.add; simp
      rw [Nat.zero_mul, hz, hz] at hh
      have h2 : W.cell? (⟨b, off, spot⟩ : Addr) = some v0 := hh
      exact World.cell?_spot h2
    subst hspot
    have one : ∀ i, i < len → ∃ G : Dd, (W.cell? ⟨b, off + i * 4, none⟩ = some (.int .u8 (G.k : Int)) ∧ W.cell? ⟨b, off + i * 4 + 1, none⟩ = some (.int .u8 (G.i : Int)) ∧ W.cell? ⟨b, off + i * 4 + 2, none⟩ = some (.string G.s) ∧ W.cell? ⟨b, off + i * 4 + 3, none⟩ = some (.int .u64 (G.t : Int))) ∧ D i = .agg [.lit (.int .u8 G.k), .lit (.int .u8 G.i), .lit (.string G.s.data.toList), .lit (.int .u64 G.t)] ∧ (G.s.size ≤ maxLen ∧ G.k < 256 ∧ G.i < 256) := by
      intro i hi
      obtain ⟨cs', hc, ht⟩ := hel i (by omega)
      rw [c4] at hc
      obtain ⟨_, hcl, hcc⟩ := World.cells?_some hc
      obtain ⟨v0, v1, v2, v3, rfl⟩ := cells_of4 cs' hcl
      obtain ⟨ys, n', _, hxy, _, hyl, hgs⟩ := DataW.trod_struct Try.underlying32 ht
      match ys, hyl with
      | [y0, y1, y2, y3], _ =>
      have g0 := hgs 0 _ rfl
      have g1 := hgs 1 _ rfl
      have g2 := hgs 2 _ rfl
      have g3 := hgs 3 _ rfl
      simp only [List.getElem?_cons_zero, List.getElem?_cons_succ] at g0 g1 g2 g3
      obtain ⟨k0, e0, rfl, hk0⟩ := DataW.trod_int Try.underlying5 g0
      obtain ⟨k1, e1, rfl, hk1⟩ := DataW.trod_int Try.underlying5 g1
      obtain ⟨k2, e2, rfl, hk2⟩ := DataW.trod_string Try.underlying9 g2
      obtain ⟨k3, e3, rfl, hk3⟩ := DataW.trod_int Try.underlying30 g3
      obtain rfl := List.singleton_inj.1 e0
      obtain rfl := List.singleton_inj.1 e1
      obtain rfl := List.singleton_inj.1 e2
      obtain rfl := List.singleton_inj.1 e3
      have bk0 := bounds_u8 hk0
      have bk1 := bounds_u8 hk1
      have bk3 := bounds_u64 hk3
      obtain ⟨q0, rfl⟩ := Int.eq_ofNat_of_zero_le bk0.1
      obtain ⟨q1, rfl⟩ := Int.eq_ofNat_of_zero_le bk1.1
      obtain ⟨q3, rfl⟩ := Int.eq_ofNat_of_zero_le bk3.1
      have hD := congrArg Prod.fst hxy
      have hc4 : ∀ j, j < 4 → W.cell? ⟨b, off + i * 4 + j, none⟩ = ([.int .u8 (q0 : Int), .int .u8 (q1 : Int), .string k2, .int .u64 (q3 : Int)] : List Value)[j]? := fun j hj => by
        have := hcc j hj
        rw [addr_plain, addr_plain] at this
        exact this
      exact ⟨⟨q0, q1, k2, q3⟩, ⟨hc4 0 (by omega), hc4 1 (by omega), hc4 2 (by omega), hc4 3 (by omega)⟩, hD, ⟨hk2, by show q0 < _; omega, by show q1 < _; omega⟩⟩
    obtain ⟨gs, hgl, hgs⟩ := list_upto len one
    refine ⟨some ⟨b, off, none⟩, len, cap, gs, rfl, hgl, by omega, fun i r hi => ?_, fun G hG => ?_⟩
    · obtain ⟨hi', rfl⟩ := List.getElem?_eq_some_iff.1 hi
      have hh := (hgs i hi').1
      exact ⟨b, off, rfl, World.block_lt_of_cell? W _ hh.1, hh⟩
    · obtain ⟨i, hi, rfl⟩ := List.mem_iff_getElem.1 hG
      refine ⟨(hgs i hi).2.2.1, (hgs i hi).2.2.2.1, (hgs i hi).2.2.2.2, ?_⟩
      have hmem := List.mem_map.2 ⟨i, (by simp; omega : i ∈ List.range len), (hgs i hi).2.1⟩
      have h1 := bulk_le _ _ hmem
      have hl : gs[i].s.data.toList.length = gs[i].s.size := rfl
      rw [hd]
      simp only [Rows.uptoBulk, Rows.uptoBulkAll] at h1 ⊢
      omega
end Go.Proofs.Ytjcocgadhdgbjaa
