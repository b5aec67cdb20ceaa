/- ledger: a slice of Deeds that came in, as a list; a slice of numbers. -/
import Derived.Test.YtjcfbpbmieepiaaDoorLdAt
import Derived.Test.YtjcfbpbmieepiaaDoorRows
import Derived.Test.YtjcfbpbmieepiaaDoorOpen
import Derived.Deep.Slices
import Derived.Lib.SmallJoins
import Derived.ChangeArms
namespace Go.Proofs.YtjcfbpbmieepiaaDoor
open Go.RowKit Go.ChangeShapes Go.WideShapes Go.ChangeAt

/-- A Deed. -/
structure Dd where
  kd : Nat
  nm : Nat
  t : Int
  x : ByteArray
  q : Nat
  ok : Bool
  s : ByteArray
abbrev Dd.v (k : Dd) : Value := .agg #[.int .u8 (k.kd : Int), .int .u8 (k.nm : Int), .int .i64 k.t, .string k.x, .int .u64 (k.q : Int), .bool k.ok, .string k.s]
def DdsIn (W : World) (a : Option Addr) (ms : List Dd) : Prop := ∀ (i : Nat) (k : Dd), ms[i]? = some k → ∃ b o, a = some ⟨b, o, none⟩ ∧ b < W.heap.size ∧
  W.cell? ⟨b, o + i * 7, none⟩ = some (.int .u8 (k.kd : Int)) ∧ W.cell? ⟨b, o + i * 7 + 1, none⟩ = some (.int .u8 (k.nm : Int)) ∧ W.cell? ⟨b, o + i * 7 + 2, none⟩ = some (.int .i64 k.t) ∧ W.cell? ⟨b, o + i * 7 + 3, none⟩ = some (.string k.x) ∧
  W.cell? ⟨b, o + i * 7 + 4, none⟩ = some (.int .u64 (k.q : Int)) ∧ W.cell? ⟨b, o + i * 7 + 5, none⟩ = some (.bool k.ok) ∧ W.cell? ⟨b, o + i * 7 + 6, none⟩ = some (.string k.s)
theorem DdsIn.below {W W' : World} {a : Option Addr} {ms : List Dd} (h : DdsIn W a ms) (hb : Below W.heap.size W W') : DdsIn W' a ms := by
  intro i s hs
  obtain ⟨b, o, e, hl, h0, h1, h2, h3, h4, h5, h6⟩ := h i s hs
  exact ⟨b, o, e, Nat.lt_of_lt_of_le hl hb.size, (hb.cell (p := ⟨b, _, none⟩) hl).trans h0, (hb.cell (p := ⟨b, _, none⟩) hl).trans h1, (hb.cell (p := ⟨b, _, none⟩) hl).trans h2, (hb.cell (p := ⟨b, _, none⟩) hl).trans h3, (hb.cell (p := ⟨b, _, none⟩) hl).trans h4, (hb.cell (p := ⟨b, _, none⟩) hl).trans h5, (hb.cell (p := ⟨b, _, none⟩) hl).trans h6⟩
theorem tg_list {α : Type} {P : Nat → α → Prop} : ∀ (n : Nat), (∀ i, i < n → ∃ x, P i x) → ∃ l : List α, l.length = n ∧ ∀ i (h : i < l.length), P i l[i]
  | 0, _ => ⟨[], rfl, fun i h => by simp at h⟩
  | n + 1, h => by
    obtain ⟨l, hl, hp⟩ := tg_list n (fun i hi => h i (by omega))
    obtain ⟨x, hx⟩ := h n (by omega)
    refine ⟨l ++ [x], by simp [hl], fun i hi => ?_⟩
    by_cases hin : i < l.length
    · rw [List.getElem_append_left hin]; exact hp i hin
    · have : i = l.length := by simp at hi; omega
      subst this
      rw [List.getElem_append_right (Nat.le_refl _)]
      simp only [Nat.sub_self, List.getElem_cons_zero]
      rw [hl]; exact hx
theorem cells_of7 (cs : List Value) (h : cs.length = 7) : ∃ v0 v1 v2 v3 v4 v5 v6, cs = [v0, v1, v2, v3, v4, v5, v6] := by
  match cs, h with
  | [v0, v1, v2, v3, v4, v5, v6], _ => exact ⟨v0, v1, v2, v3, v4, v5, v6, rfl⟩
set_option maxRecDepth 100000 in
/-- A slice of Deeds that came in. -/
theorem deeds_of {H : Type} {enc : TypeId × Value → H} {W : World} {d : DataW H} {ps : List MemPlace} {v : Value}
    (ho : Value.okWide Tryd.prog W .any 0 22 v) (h : DataW.Trod enc Tryd.prog W 0 (fun _ => true) true 22 v d ps) :
    ∃ a l c ms, v = .slice a l c ∧ ms.length = l ∧ l ≤ maxLen ∧ DdsIn W a ms ∧ ∀ p ∈ ms, p.kd < 256 ∧ p.nm < 256 ∧ p.q < 2 ^ 64 ∧ p.s.size ≤ maxLen ∧ p.x.size ≤ maxLen ∧ -9223372036854775808 ≤ p.t ∧ p.t ≤ 9223372036854775807 := by
  obtain ⟨aa, len, cap, rfl⟩ := okWide_slice Tryd.underlying22 ho
  obtain ⟨fuel, hf⟩ := h
  rcases Go.Deep.open_slice Tryd.underlying22 hf with ⟨hcs, hx⟩ | ⟨a', len', cap', m, n, D, Pl, hcs, _, hl, hm, hmm, hx, hel⟩
  · simp [Value.cells] at hcs
    obtain ⟨rfl, rfl, rfl⟩ := hcs
    exact ⟨none, 0, 0, [], rfl, rfl, Nat.zero_le _, fun i r hi => by simp at hi, fun G hG => (List.not_mem_nil hG).elim⟩
  · simp [Value.cells] at hcs
    obtain ⟨rfl, rfl, rfl⟩ := hcs
    simp only [if_true] at hmm
    have c7 : Tryd.prog.cellsOf 34 = 7 := by kernel_rfl
    have c26 : Tryd.prog.cellsOf 31 = 2 := by kernel_rfl
    have ci : Tryd.prog.cellsOf 3 = 1 := by kernel_rfl
    have cu : Tryd.prog.cellsOf 32 = 1 := by kernel_rfl
    have c8 : Tryd.prog.cellsOf 5 = 1 := by kernel_rfl
    have cb : Tryd.prog.cellsOf 4 = 1 := by kernel_rfl
    have cS : Tryd.prog.cellsOf 9 = 1 := by kernel_rfl
    obtain ⟨b, off, spot⟩ := a'
    by_cases h0 : len = 0
    · subst h0
      exact ⟨some ⟨b, off, spot⟩, 0, cap, [], rfl, rfl, Nat.zero_le _, fun i r hi => by simp at hi, fun G hG => (List.not_mem_nil hG).elim⟩
    have hspot : spot = none := by
      obtain ⟨cs', hc, _⟩ := hel 0 (by omega)
      rw [c7] at hc
      obtain ⟨_, hcl, hcc⟩ := World.cells?_some hc
      obtain ⟨v0, v1, v2, v3, v4, v5, v6, rfl⟩ := cells_of7 cs' hcl
      have hh := hcc 0 (by omega)
      have hz : ∀ a : Addr, a.add 0 = a := fun a => by unfold Addr.add; simp
      rw [Nat.zero_mul, hz, hz] at hh
      have h2 : W.cell? (⟨b, off, spot⟩ : Addr) = some v0 := hh
      exact World.cell?_spot h2
    subst hspot
    have one : ∀ i, i < len → ∃ G : Dd, (W.cell? ⟨b, off + i * 7, none⟩ = some (.int .u8 (G.kd : Int)) ∧ W.cell? ⟨b, off + i * 7 + 1, none⟩ = some (.int .u8 (G.nm : Int)) ∧ W.cell? ⟨b, off + i * 7 + 2, none⟩ = some (.int .i64 G.t) ∧ W.cell? ⟨b, off + i * 7 + 3, none⟩ = some (.string G.x) ∧
        W.cell? ⟨b, off + i * 7 + 4, none⟩ = some (.int .u64 (G.q : Int)) ∧ W.cell? ⟨b, off + i * 7 + 5, none⟩ = some (.bool G.ok) ∧ W.cell? ⟨b, off + i * 7 + 6, none⟩ = some (.string G.s)) ∧ (G.kd < 256 ∧ G.nm < 256 ∧ G.q < 2 ^ 64 ∧ G.s.size ≤ maxLen ∧ G.x.size ≤ maxLen ∧ -9223372036854775808 ≤ G.t ∧ G.t ≤ 9223372036854775807) := by
      intro i hi
      obtain ⟨cs', hc, ht⟩ := hel i (by omega)
      rw [c7] at hc
      obtain ⟨_, hcl, hcc⟩ := World.cells?_some hc
      obtain ⟨v0, v1, v2, v3, v4, v5, v6, rfl⟩ := cells_of7 cs' hcl
      obtain ⟨zs, nz, _, hz, _, hzl, hks⟩ := DataW.trod_struct Tryd.underlying34 ht
      match zs, hzl with
      | [z0, z1, z2, z3, z4, z5], _ =>
      have k0 := hks 0 _ rfl
      have k1 := hks 1 _ rfl
      have k2 := hks 2 _ rfl
      have k3 := hks 3 _ rfl
      have k4 := hks 4 _ rfl
      have k5 := hks 5 _ rfl
      simp only [List.getElem?_cons_zero, List.getElem?_cons_succ] at k0 k1 k2 k3 k4 k5
      obtain ⟨m0, a0, rfl, hm0⟩ := DataW.trod_int Tryd.underlying5 k0
      obtain ⟨m1, a1, rfl, hm1⟩ := DataW.trod_int Tryd.underlying5 k1
      obtain ⟨m3, a3, rfl, hm3⟩ := DataW.trod_int Tryd.underlying32 k3
      obtain ⟨m4, a4, rfl⟩ := DataW.trod_bool Tryd.underlying4 k4
      obtain ⟨m5, a5, rfl, hm5⟩ := DataW.trod_string Tryd.underlying9 k5
      obtain ⟨ys, m, _, hy, _, hyl, hgs⟩ := DataW.trod_struct Tryd.underlying31 k2
      match ys, hyl with
      | [y0, y1], _ =>
      have g0 := hgs 0 _ rfl
      have g1 := hgs 1 _ rfl
      simp only [List.getElem?_cons_zero, List.getElem?_cons_succ] at g0 g1
      obtain ⟨j0, d0, rfl, hj0⟩ := DataW.trod_int Tryd.underlying3 g0
      obtain ⟨j1, d1, rfl, hj1⟩ := DataW.trod_string Tryd.underlying9 g1
      obtain rfl := List.singleton_inj.1 d0
      obtain rfl := List.singleton_inj.1 d1
      obtain rfl := List.singleton_inj.1 a0
      obtain rfl := List.singleton_inj.1 a1
      obtain rfl := List.singleton_inj.1 a3
      obtain rfl := List.singleton_inj.1 a4
      obtain rfl := List.singleton_inj.1 a5
      have b0 := bounds_i64 hj0
      have b1 := bounds_u64 hm3
      obtain ⟨n1, rfl⟩ := Int.eq_ofNat_of_zero_le b1.1
      have b2 := bounds_u8 hm0
      obtain ⟨n2, rfl⟩ := Int.eq_ofNat_of_zero_le b2.1
      have b3 := bounds_u8 hm1
      obtain ⟨n3, rfl⟩ := Int.eq_ofNat_of_zero_le b3.1
      have hc7 : ∀ j, j < 7 → W.cell? ⟨b, off + i * 7 + j, none⟩ = ([.int .u8 (n2 : Int), .int .u8 (n3 : Int), .int .i64 j0, .string j1, .int .u64 (n1 : Int), .bool m4, .string m5] : List Value)[j]? := fun j hj => by
        have := hcc j hj
        rw [addr_plain, addr_plain] at this
        exact this
      exact ⟨⟨n2, n3, j0, j1, n1, m4, m5⟩, ⟨hc7 0 (by omega), hc7 1 (by omega), hc7 2 (by omega), hc7 3 (by omega), hc7 4 (by omega), hc7 5 (by omega), hc7 6 (by omega)⟩, by show n2 < 256; omega, by show n3 < 256; omega, by show n1 < 2 ^ 64; omega, hm5, hj1, b0.1, b0.2⟩
    obtain ⟨gs, hgl, hgs⟩ := tg_list len one
    refine ⟨some ⟨b, off, none⟩, len, cap, gs, rfl, hgl, by omega, fun i r hi => ?_, fun G hG => ?_⟩
    · obtain ⟨hi', rfl⟩ := List.getElem?_eq_some_iff.1 hi
      have hh := (hgs i hi').1
      exact ⟨b, off, rfl, World.block_lt_of_cell? W _ hh.1, hh⟩
    · obtain ⟨i, hi, rfl⟩ := List.mem_iff_getElem.1 hG
      exact (hgs i hi).2

/-- Numbers that came in. -/
def NatsIn (W : World) (a : Option Addr) (bs : List Nat) : Prop := ∀ (i : Nat) (n : Nat), bs[i]? = some n → ∃ b o, a = some ⟨b, o, none⟩ ∧ b < W.heap.size ∧ W.cell? ⟨b, o + i, none⟩ = some (.int .u8 (n : Int))
theorem NatsIn.below {W W' : World} {a : Option Addr} {bs : List Nat} (h : NatsIn W a bs) (hb : Below W.heap.size W W') : NatsIn W' a bs := by
  intro i n hi
  obtain ⟨b, o, e, hl, hc⟩ := h i n hi
  exact ⟨b, o, e, Nat.lt_of_lt_of_le hl hb.size, (hb.cell (p := ⟨b, _, none⟩) hl).trans hc⟩
set_option maxRecDepth 100000 in
theorem bytes_of {H : Type} {enc : TypeId × Value → H} {W : World} {d : DataW H} {ps : List MemPlace} {v : Value}
    (ho : Value.okWide Tryd.prog W .any 0 55 v) (h : DataW.Trod enc Tryd.prog W 0 (fun _ => true) true 55 v d ps) :
    ∃ a l c bs, v = .slice a l c ∧ bs.length = l ∧ l ≤ maxLen ∧ NatsIn W a bs ∧ ∀ n ∈ bs, n < 256 := by
  obtain ⟨a0, l0, c0, rfl⟩ := okWide_slice Tryd.underlying55 ho
  obtain ⟨zs, z1, z2, z3, z4⟩ := nats_of Tryd.underlying55 Tryd.underlying5 (by kernel_rfl) (by decide) h
  refine ⟨_, _, _, zs, rfl, z1, z2, fun i n hi => ?_, fun n hn => ?_⟩
  · obtain ⟨hlt, rfl⟩ := List.getElem?_eq_some_iff.1 hi
    obtain ⟨b, o, e1, e2, e3⟩ := z3 (by omega)
    exact ⟨b, o, e1, e2, e3 i hlt⟩
  · have := z4 n hn
    have e : IntKind.u8.max = 255 := rfl
    rw [e] at this; omega
end Go.Proofs.YtjcfbpbmieepiaaDoor
