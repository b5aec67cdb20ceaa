/- acks: a slice of Deeds that came in, as a list (what AcksCover reads of them). -/
import Derived.Test.YtogkdekjcbljnaaDoorAkAt
import Derived.Test.YtogkdekjcbljnaaDoorRows
import Derived.Test.YtogkdekjcbljnaaDoorOpen
import Derived.Deep.Slices
import Derived.Lib.SmallJoins
import Derived.ChangeArms
namespace Go.Proofs.YtogkdekjcbljnaaDoor
open Go.RowKit Go.ChangeShapes Go.WideShapes Go.ChangeAt

/-- A Deed. -/
structure Dd where
  kd : Nat
  id : Int
  nm : Nat
  q : Nat
  ok : Bool
  s : ByteArray
  near : Bool
def DdAt (W : World) (b o : Nat) (k : Dd) : Prop :=
  W.cell? ⟨b, o, none⟩ = some (.int .u8 (k.kd : Int)) ∧ W.cell? ⟨b, o + 1, none⟩ = some (.int .i64 k.id) ∧ W.cell? ⟨b, o + 2, none⟩ = some (.int .u8 (k.nm : Int)) ∧ W.cell? ⟨b, o + 3, none⟩ = some (.int .u64 (k.q : Int)) ∧
  W.cell? ⟨b, o + 4, none⟩ = some (.bool k.ok) ∧ W.cell? ⟨b, o + 5, none⟩ = some (.string k.s) ∧ W.cell? ⟨b, o + 7, none⟩ = some (.bool k.near) ∧ b < W.heap.size
theorem DdAt.below {W W' : World} {b o : Nat} {k : Dd} (h : DdAt W b o k) (hb : Below W.heap.size W W') : DdAt W' b o k := by
  obtain ⟨h0, h1, h2, h3, h4, h5, h7, hl⟩ := h
  exact ⟨(hb.cell (p := ⟨b, _, none⟩) hl).trans h0, (hb.cell (p := ⟨b, _, none⟩) hl).trans h1, (hb.cell (p := ⟨b, _, none⟩) hl).trans h2, (hb.cell (p := ⟨b, _, none⟩) hl).trans h3, (hb.cell (p := ⟨b, _, none⟩) hl).trans h4, (hb.cell (p := ⟨b, _, none⟩) hl).trans h5, (hb.cell (p := ⟨b, _, none⟩) hl).trans h7, Nat.lt_of_lt_of_le hl hb.size⟩
structure DdOk (k : Dd) : Prop where
  kd : k.kd < 256
  id : -9223372036854775808 ≤ k.id ∧ k.id ≤ 9223372036854775807
  nm : k.nm < 256
  q : k.q < 2 ^ 64
  s : k.s.size ≤ maxLen
def DdsIn (W : World) (a : Option Addr) (ms : List Dd) : Prop := ∀ (i : Nat) (k : Dd), ms[i]? = some k → ∃ b o, a = some ⟨b, o, none⟩ ∧ DdAt W b (o + i * 8) k
theorem DdsIn.below {W W' : World} {a : Option Addr} {ms : List Dd} (h : DdsIn W a ms) (hb : Below W.heap.size W W') : DdsIn W' a ms := by
  intro i s hs
  obtain ⟨b, o, e, hl⟩ := h i s hs
  exact ⟨b, o, e, hl.below hb⟩
theorem tg_list {α : Type} {P : Nat → α → Prop} : ∀ (n : Nat), (∀ i, i < n → ∃ x, P i x) → ∃ l : List α, l.length = n ∧ ∀ i (h : i < l.length), P i l[i]
  | 0, _ => ⟨[], rfl, fun i h => by simp at h⟩
  | n + 1, h => by
    obtain ⟨l, hl, hp⟩ := tg_list n (fun i hi => h i (by omega))
    obtain ⟨x, hx⟩ := h n (by omega)
    refine ⟨l ++ [x], by simp [hl], fun i hi => ?_⟩
    by_cases hin : i < l.length
    · rw [List.getElem_append_left hin]; exact hp i hin
    · have : i = l.length := by simp at hi; omega
      subst this
      rw [List.getElem_append_right (Nat.le_refl _)]
      simp only [Nat.sub_self, List.getElem_cons_zero]
      rw [hl]; exact hx
theorem cells_of8 (cs : List Value) (h : cs.length = 8) : ∃ v0 v1 v2 v3 v4 v5 v6 v7, cs = [v0, v1, v2, v3, v4, v5, v6, v7] := by
  match cs, h with
  | [v0, v1, v2, v3, v4, v5, v6, v7], _ => exact ⟨v0, v1, v2, v3, v4, v5, v6, v7, rfl⟩
set_option maxRecDepth 100000 in
/-- A slice of Deeds that came in. -/
theorem adeeds_of {H : Type} {enc : TypeId × Value → H} {W : World} {d : DataW H} {ps : List MemPlace} {v : Value}
    (ho : Value.okWide Tryd.prog W .any 0 22 v) (h : DataW.Trod enc Tryd.prog W 0 (fun _ => true) true 22 v d ps) :
    ∃ a l c ms, v = .slice a l c ∧ ms.length = l ∧ l ≤ maxLen ∧ DdsIn W a ms ∧ ∀ p ∈ ms, DdOk p := by
  obtain ⟨aa, len, cap, rfl⟩ := okWide_slice Tryd.underlying22 ho
  obtain ⟨fuel, hf⟩ := h
  rcases Go.Deep.open_slice Tryd.underlying22 hf with ⟨hcs, hx⟩ | ⟨a', len', cap', m, n, D, Pl, hcs, _, hl, hm, hmm, hx, hel⟩
  · simp [Value.cells] at hcs
    obtain ⟨rfl, rfl, rfl⟩ := hcs
    exact ⟨none, 0, 0, [], rfl, rfl, Nat.zero_le _, fun i r hi => by simp at hi, fun G hG => (List.not_mem_nil hG).elim⟩
  · simp [Value.cells] at hcs
    obtain ⟨rfl, rfl, rfl⟩ := hcs
    simp only [if_true] at hmm
    have c7 : Tryd.prog.cellsOf 33 = 8 := by kernel_rfl
    have ci : Tryd.prog.cellsOf 3 = 1 := by kernel_rfl
    have cu : Tryd.prog.cellsOf 29 = 1 := by kernel_rfl
    have c8 : Tryd.prog.cellsOf 5 = 1 := by kernel_rfl
    have cb : Tryd.prog.cellsOf 4 = 1 := by kernel_rfl
    have cT : Tryd.prog.cellsOf 9 = 1 := by kernel_rfl
    have cS : Tryd.prog.cellsOf 28 = 1 := by kernel_rfl
    obtain ⟨b, off, spot⟩ := a'
    by_cases h0 : len = 0
    · subst h0
      exact ⟨some ⟨b, off, spot⟩, 0, cap, [], rfl, rfl, Nat.zero_le _, fun i r hi => by simp at hi, fun G hG => (List.not_mem_nil hG).elim⟩
    have hspot : spot = none := by
      obtain ⟨cs', hc, _⟩ := hel 0 (by omega)
      rw [c7] at hc
      obtain ⟨_, hcl, hcc⟩ := World.cells?_some hc
      obtain ⟨v0, v1, v2, v3, v4, v5, v6, v7, rfl⟩ := cells_of8 cs' hcl
      have hh := hcc 0 (by omega)
      have hz : ∀ a : Addr, a.add 0 = a := fun a => by unfold Addr.add; simp
      rw [Nat.zero_mul, hz, hz] at hh
      have h2 : W.cell? (⟨b, off, spot⟩ : Addr) = some v0 := hh
      exact World.cell?_spot h2
    subst hspot
    have one : ∀ i, i < len → ∃ G : Dd, DdAt W b (off + i * 8) G ∧ DdOk G := by
      intro i hi
      obtain ⟨cs', hc, ht⟩ := hel i (by omega)
      rw [c7] at hc
      obtain ⟨_, hcl, hcc⟩ := World.cells?_some hc
      obtain ⟨v0, v1, v2, v3, v4, v5, v6, v7, rfl⟩ := cells_of8 cs' hcl
      obtain ⟨zs, nz, _, hz, _, hzl, hks⟩ := DataW.trod_struct Tryd.underlying33 ht
      match zs, hzl with
      | [z0, z1, z2, z3, z4, z5, z6, z7], _ =>
      have k0 := hks 0 _ rfl
      have k1 := hks 1 _ rfl
      have k2 := hks 2 _ rfl
      have k3 := hks 3 _ rfl
      have k4 := hks 4 _ rfl
      have k5 := hks 5 _ rfl
      have k7 := hks 7 _ rfl
      simp only [List.getElem?_cons_zero, List.getElem?_cons_succ] at k0 k1 k2 k3 k4 k5 k7
      obtain ⟨m0, a0, rfl, hm0⟩ := DataW.trod_int Tryd.underlying5 k0
      obtain ⟨m1, a1, rfl, hm1⟩ := DataW.trod_int Tryd.underlying3 k1
      obtain ⟨m2, a2, rfl, hm2⟩ := DataW.trod_int Tryd.underlying5 k2
      obtain ⟨m3, a3, rfl, hm3⟩ := DataW.trod_int Tryd.underlying29 k3
      obtain ⟨m4, a4, rfl⟩ := DataW.trod_bool Tryd.underlying4 k4
      obtain ⟨m5, a5, rfl, hm5⟩ := DataW.trod_string Tryd.underlying9 k5
      obtain ⟨m7, a7, rfl⟩ := DataW.trod_bool Tryd.underlying4 k7
      obtain rfl := List.singleton_inj.1 a0
      obtain rfl := List.singleton_inj.1 a1
      obtain rfl := List.singleton_inj.1 a2
      obtain rfl := List.singleton_inj.1 a3
      obtain rfl := List.singleton_inj.1 a4
      obtain rfl := List.singleton_inj.1 a5
      obtain rfl := List.singleton_inj.1 a7
      have b0 := bounds_u8 hm0
      obtain ⟨n0, rfl⟩ := Int.eq_ofNat_of_zero_le b0.1
      have b1 := bounds_i64 hm1
      have b2 := bounds_u8 hm2
      obtain ⟨n2, rfl⟩ := Int.eq_ofNat_of_zero_le b2.1
      have b3 := bounds_u64 hm3
      obtain ⟨n3, rfl⟩ := Int.eq_ofNat_of_zero_le b3.1
      have hc7 : ∀ j, j < 8 → W.cell? ⟨b, off + i * 8 + j, none⟩ = ([.int .u8 (n0 : Int), .int .i64 m1, .int .u8 (n2 : Int), .int .u64 (n3 : Int), .bool m4, .string m5, v6, .bool m7] : List Value)[j]? := fun j hj => by
        have := hcc j hj
        rw [addr_plain, addr_plain] at this
        exact this
      exact ⟨⟨n0, m1, n2, n3, m4, m5, m7⟩, ⟨hc7 0 (by omega), hc7 1 (by omega), hc7 2 (by omega), hc7 3 (by omega), hc7 4 (by omega), hc7 5 (by omega), hc7 7 (by omega), World.block_lt_of_cell? W _ (hc7 0 (by omega))⟩, ⟨by show n0 < 256; omega, b1, by show n2 < 256; omega, by show n3 < 2 ^ 64; omega, hm5⟩⟩
    obtain ⟨gs, hgl, hgs⟩ := tg_list len one
    refine ⟨some ⟨b, off, none⟩, len, cap, gs, rfl, hgl, by omega, fun i r hi => ?_, fun G hG => ?_⟩
    · obtain ⟨hi', rfl⟩ := List.getElem?_eq_some_iff.1 hi
      exact ⟨b, off, rfl, (hgs i hi').1⟩
    · obtain ⟨i, hi, rfl⟩ := List.mem_iff_getElem.1 hG
      exact (hgs i hi).2
end Go.Proofs.YtogkdekjcbljnaaDoor
