/- link: deeds that came in, each with its text's length among the weights. -/
import Derived.Test.YtkfbhiggnnjoiaaDoorFrOpen
import Derived.Test.YtkfbhiggnnjoiaaDoorLkDo
import Derived.SizedLaws
namespace Go.Proofs.YtkfbhiggnnjoiaaDoor
open Go.ChangeShapes Go.WideShapes Go.ChangeAt Go.RowKit

def DdsIn (W : World) (a : Option Addr) (ms : List Dd) : Prop := ∀ i p, ms[i]? = some p → ∃ b o, a = some ⟨b, o, none⟩ ∧ b < W.heap.size ∧ W.cell? ⟨b, o + i * 5, none⟩ = some (.int .u8 (p.kd : Int)) ∧ W.cell? ⟨b, o + i * 5 + 1, none⟩ = some (.int .i64 p.way) ∧ W.cell? ⟨b, o + i * 5 + 2, none⟩ = some (.string p.s) ∧ W.cell? ⟨b, o + i * 5 + 3, none⟩ = some (.int .i64 p.n) ∧ W.cell? ⟨b, o + i * 5 + 4, none⟩ = some (.bool p.lg)
theorem DdsIn.below {W W' : World} {a : Option Addr} {ms : List Dd} (h : DdsIn W a ms) (hb : Below W.heap.size W W') : DdsIn W' a ms := by
  intro i s hs
  obtain ⟨b, o, e, hl, h0, h1, h2, h3, h4⟩ := h i s hs
  exact ⟨b, o, e, Nat.lt_of_lt_of_le hl hb.size, (hb.cell (p := ⟨b, o + i * 5, none⟩) hl).trans h0, (hb.cell (p := ⟨b, o + i * 5 + 1, none⟩) hl).trans h1, (hb.cell (p := ⟨b, o + i * 5 + 2, none⟩) hl).trans h2, (hb.cell (p := ⟨b, o + i * 5 + 3, none⟩) hl).trans h3, (hb.cell (p := ⟨b, o + i * 5 + 4, none⟩) hl).trans h4⟩
theorem cells_of5 (l : List Value) (h : l.length = 5) : ∃ c0 c1 c2 c3 c4, l = [c0, c1, c2, c3, c4] := by
  match l, h with
  | [c0, c1, c2, c3, c4], _ => exact ⟨c0, c1, c2, c3, c4, rfl⟩
theorem wts_all {H : Type} {P : Program} {e : TypeId} {n : Nat} {d : DataW H} : ∀ (ds : List (DataW H)), d ∈ ds → n ∈ d.weights P e → n ∈ DataW.weightsAll P e ds
  | [], h, _ => by cases h
  | x :: r, h, hn => by
    rw [DataW.weightsAll]
    rcases List.mem_cons.1 h with rfl | h
    · exact List.mem_append_left _ hn
    · exact List.mem_append_right _ (wts_all r h hn)
set_option maxRecDepth 100000 in
theorem deeds_ofW {H : Type} {enc : TypeId × Value → H} {W : World} {d : DataW H} {ps : List MemPlace} {v : Value}
    (ho : Value.okWide Tryd.prog W .any 0 22 v) (h : DataW.Trod enc Tryd.prog W 0 (fun _ => true) true 22 v d ps) :
    ∃ a l c ms, v = .slice a l c ∧ ms.length = l ∧ l ≤ maxLen ∧ DdsIn W a ms ∧ ∀ p ∈ ms, p.s.size ≤ maxLen ∧ p.kd < 256 ∧ p.n ≤ 9223372036854775807 ∧ p.s.size ∈ d.weights Tryd.prog 22 := by
  obtain ⟨aa, len, cap, rfl⟩ := okWide_slice Tryd.underlying22 ho
  obtain ⟨fuel, hf⟩ := h
  rcases Go.Deep.open_slice Tryd.underlying22 hf with ⟨hcs, hx⟩ | ⟨a', len', cap', m, n, D, Pl, hcs, _, hl, hm, hmm, hx, hel⟩
  · simp [Value.cells] at hcs
    obtain ⟨rfl, rfl, rfl⟩ := hcs
    exact ⟨none, 0, 0, [], rfl, rfl, Nat.zero_le _, fun i r hi => by simp at hi, fun G hG => (List.not_mem_nil hG).elim⟩
  · simp [Value.cells] at hcs
    obtain ⟨rfl, rfl, rfl⟩ := hcs
    simp only [if_true] at hmm
    have hd := congrArg Prod.fst hx
    simp only at hd
    have c4 : Tryd.prog.cellsOf 29 = 5 := by kernel_rfl
    have cS : Tryd.prog.cellsOf 9 = 1 := by kernel_rfl
    have cb : Tryd.prog.cellsOf 3 = 1 := by kernel_rfl
    have co : Tryd.prog.cellsOf 4 = 1 := by kernel_rfl
    have cu : Tryd.prog.cellsOf 5 = 1 := by kernel_rfl
    obtain ⟨b, off, spot⟩ := a'
    by_cases h0 : len = 0
    · subst h0
      exact ⟨some ⟨b, off, spot⟩, 0, cap, [], rfl, rfl, Nat.zero_le _, fun i r hi => by simp at hi, fun G hG => (List.not_mem_nil hG).elim⟩
    have hspot : spot = none := by
      obtain ⟨cs', hc, _⟩ := hel 0 (by omega)
      rw [c4] at hc
      obtain ⟨_, hcl, hcc⟩ := World.cells?_some hc
      obtain ⟨v0, v1, v2, v3, v4, rfl⟩ := cells_of5 cs' hcl
      have hh := hcc 0 (by omega)
      have hz : ∀ a : Addr, a.add 0 = a := fun a => by unfold Addr.add; simp
      rw [Nat.zero_mul, hz, hz] at hh
      have h2 : W.cell? (⟨b, off, spot⟩ : Addr) = some v0 := hh
      exact World.cell?_spot h2
    subst hspot
    have one : ∀ i, i < len → ∃ G : Dd, (W.cell? ⟨b, off + i * 5, none⟩ = some (.int .u8 (G.kd : Int)) ∧ W.cell? ⟨b, off + i * 5 + 1, none⟩ = some (.int .i64 G.way) ∧ W.cell? ⟨b, off + i * 5 + 2, none⟩ = some (.string G.s) ∧ W.cell? ⟨b, off + i * 5 + 3, none⟩ = some (.int .i64 G.n) ∧ W.cell? ⟨b, off + i * 5 + 4, none⟩ = some (.bool G.lg)) ∧ D i = .agg [.lit (.int .u8 G.kd), .lit (.int .i64 G.way), .lit (.string G.s.data.toList), .lit (.int .i64 G.n), .lit (.bool G.lg)] ∧ (G.s.size ≤ maxLen ∧ G.kd < 256 ∧ G.n ≤ 9223372036854775807) := by
      intro i hi
      obtain ⟨cs', hc, ht⟩ := hel i (by omega)
      rw [c4] at hc
      obtain ⟨_, hcl, hcc⟩ := World.cells?_some hc
      obtain ⟨v0, v1, v2, v3, v4, rfl⟩ := cells_of5 cs' hcl
      obtain ⟨ys, n', _, hxy, _, hyl, hgs⟩ := DataW.trod_struct Tryd.underlying29 ht
      match ys, hyl with
      | [y0, y1, y2, y3, y4], _ =>
      have g0 := hgs 0 _ rfl
      have g1 := hgs 1 _ rfl
      have g2 := hgs 2 _ rfl
      have g3 := hgs 3 _ rfl
      have g4 := hgs 4 _ rfl
      simp only [List.getElem?_cons_zero, List.getElem?_cons_succ] at g0 g1 g2 g3 g4
      obtain ⟨k0, e0, rfl, hk0⟩ := DataW.trod_int Tryd.underlying5 g0
      obtain ⟨k1, e1, rfl, hk1⟩ := DataW.trod_int Tryd.underlying3 g1
      obtain ⟨k2, e2, rfl, hk2⟩ := DataW.trod_string Tryd.underlying9 g2
      obtain ⟨k3, e3, rfl, hk3⟩ := DataW.trod_int Tryd.underlying3 g3
      obtain ⟨k4, e4, rfl⟩ := DataW.trod_bool Tryd.underlying4 g4
      obtain rfl := List.singleton_inj.1 e0
      obtain rfl := List.singleton_inj.1 e1
      obtain rfl := List.singleton_inj.1 e2
      obtain rfl := List.singleton_inj.1 e3
      obtain rfl := List.singleton_inj.1 e4
      have bk0 := bounds_u8 hk0
      have bk3 : k3 ≤ 9223372036854775807 := (bounds_i64 hk3).2
      obtain ⟨q0, rfl⟩ := Int.eq_ofNat_of_zero_le bk0.1
      have hD := congrArg Prod.fst hxy
      have hc4 : ∀ j, j < 5 → W.cell? ⟨b, off + i * 5 + j, none⟩ = ([.int .u8 (q0 : Int), .int .i64 k1, .string k2, .int .i64 k3, .bool k4] : List Value)[j]? := fun j hj => by
        have := hcc j hj
        rw [addr_plain, addr_plain] at this
        exact this
      exact ⟨⟨q0, k1, k2, k3, k4⟩, ⟨hc4 0 (by omega), hc4 1 (by omega), hc4 2 (by omega), hc4 3 (by omega), hc4 4 (by omega)⟩, hD, ⟨hk2, by show q0 < _; omega, bk3⟩⟩
    obtain ⟨gs, hgl, hgs⟩ := list_upto len one
    refine ⟨some ⟨b, off, none⟩, len, cap, gs, rfl, hgl, by omega, fun i r hi => ?_, fun G hG => ?_⟩
    · obtain ⟨hi', rfl⟩ := List.getElem?_eq_some_iff.1 hi
      have hh := (hgs i hi').1
      exact ⟨b, off, rfl, World.block_lt_of_cell? W _ hh.1, hh⟩
    · obtain ⟨i, hi, rfl⟩ := List.mem_iff_getElem.1 hG
      refine ⟨(hgs i hi).2.2.1, (hgs i hi).2.2.2.1, (hgs i hi).2.2.2.2, ?_⟩
      have hmem := List.mem_map.2 ⟨i, (by simp; omega : i ∈ List.range len), (hgs i hi).2.1⟩
      have hw : gs[i].s.size ∈ DataW.weights Tryd.prog 29 (.agg [.lit (.int .u8 gs[i].kd), .lit (.int .i64 gs[i].way), .lit (.string gs[i].s.data.toList), .lit (.int .i64 gs[i].n), .lit (.bool gs[i].lg)] : DataW H) := by
        simp only [DataW.weights, Tryd.underlying29, List.map_cons, List.map_nil, DataW.weightsEach, List.nil_append, List.append_nil]
        exact List.mem_singleton.2 rfl
      have h1 := wts_all _ hmem hw
      rw [hd]
      simp only [DataW.weights, Tryd.underlying22]
      exact List.mem_cons_of_mem _ (List.mem_append_left _ h1)
end Go.Proofs.YtkfbhiggnnjoiaaDoor
