/- merge: a slice of Deeds that came in, as a list. -/
import Derived.Test.YtkjfafnnnkjoeaaGreatDoorMgOpen
import Derived.Lib.SmallJoins
namespace Go.Proofs.YtkjfafnnnkjoeaaGreatDoor
open Go.RowKit Go.ChangeShapes Go.WideShapes Go.ChangeAt

/-- A Deed; its bytes lie at a, with room for c. -/
structure Dd where
  kd : Nat
  id : Int
  ty : Int
  near : Bool
  a : Option Addr
  c : Nat
  bs : List Nat
  many : Nat
  nm : Nat
def DdAt (W : World) (b o : Nat) (k : Dd) : Prop :=
  W.cell? ⟨b, o, none⟩ = some (.int .u8 (k.kd : Int)) ∧ W.cell? ⟨b, o + 1, none⟩ = some (.int .i64 k.id) ∧ W.cell? ⟨b, o + 2, none⟩ = some (.int .i64 k.ty) ∧ W.cell? ⟨b, o + 3, none⟩ = some (.bool k.near) ∧
  W.cell? ⟨b, o + 4, none⟩ = some (.slice k.a k.bs.length k.c) ∧ W.cell? ⟨b, o + 5, none⟩ = some (.int .u8 (k.many : Int)) ∧ W.cell? ⟨b, o + 6, none⟩ = some (.int .u8 (k.nm : Int)) ∧ BytesIn W k.a k.bs
theorem DdAt.below {W W' : World} {b o : Nat} {k : Dd} (h : DdAt W b o k) (hb : Below W.heap.size W W') : DdAt W' b o k := by
  obtain ⟨h0, h1, h2, h3, h4, h5, h6, h7⟩ := h
  have hl := World.block_lt_of_cell? W _ h0
  exact ⟨(hb.cell (p := ⟨b, o, none⟩) hl).trans h0, (hb.cell (p := ⟨b, o + 1, none⟩) hl).trans h1, (hb.cell (p := ⟨b, o + 2, none⟩) hl).trans h2, (hb.cell (p := ⟨b, o + 3, none⟩) hl).trans h3, (hb.cell (p := ⟨b, o + 4, none⟩) hl).trans h4, (hb.cell (p := ⟨b, o + 5, none⟩) hl).trans h5, (hb.cell (p := ⟨b, o + 6, none⟩) hl).trans h6, h7.later hb⟩
structure DdOk (k : Dd) : Prop where
  kd : k.kd < 256
  id : -9223372036854775808 ≤ k.id ∧ k.id ≤ 9223372036854775807
  ty : -9223372036854775808 ≤ k.ty ∧ k.ty ≤ 9223372036854775807
  many : k.many < 256
  nm : k.nm < 256
  n : k.bs.length ≤ 9223372036854775807
  b : ∀ x ∈ k.bs, x < 256
def DdsIn (W : World) (a : Option Addr) (ms : List Dd) : Prop := ∀ (i : Nat) (k : Dd), ms[i]? = some k → ∃ b o, a = some ⟨b, o, none⟩ ∧ DdAt W b (o + i * 7) k
theorem DdsIn.below {W W' : World} {a : Option Addr} {ms : List Dd} (h : DdsIn W a ms) (hb : Below W.heap.size W W') : DdsIn W' a ms := by
  intro i s hs
  obtain ⟨b, o, e, hl⟩ := h i s hs
  exact ⟨b, o, e, hl.below hb⟩
theorem tg_list {α : Type} {P : Nat → α → Prop} : ∀ (n : Nat), (∀ i, i < n → ∃ x, P i x) → ∃ l : List α, l.length = n ∧ ∀ i (h : i < l.length), P i l[i]
  | 0, _ => ⟨[], rfl, fun i h => by simp at h⟩
  | n + 1, h => by
    obtain ⟨l, hl, hp⟩ := tg_list n (fun i hi => h i (by omega))
    obtain ⟨x, hx⟩ := h n (by omega)
    refine ⟨l ++ [x], by simp [hl], fun i hi => ?_⟩
    by_cases hin : i < l.length
    · rw [List.getElem_append_left hin]; exact hp i hin
    · have : i = l.length := by simp at hi; omega
      subst this
      rw [List.getElem_append_right (Nat.le_refl _)]
      simp only [Nat.sub_self, List.getElem_cons_zero]
      rw [hl]; exact hx
theorem cells_of7 (cs : List Value) (h : cs.length = 7) : ∃ v0 v1 v2 v3 v4 v5 v6, cs = [v0, v1, v2, v3, v4, v5, v6] := by
  match cs, h with
  | [v0, v1, v2, v3, v4, v5, v6], _ => exact ⟨v0, v1, v2, v3, v4, v5, v6, rfl⟩
theorem slice_form {H : Type} {enc : TypeId × Value → H} {P : Program} {w : World} {base : Nat} {spare : Nat → Bool} {held : Bool} {t e : TypeId} {fuel : Nat} {v : Value} {x : DataW H × List MemPlace} (ht : P.underlying t = some (.slice e)) (h : DataW.trod enc P w base spare held fuel t [v] = some x) :
    ∃ a len cap, v = .slice a len cap := by
  rcases Go.Deep.open_slice ht h with ⟨hcs, _⟩ | ⟨a', len', cap', m, n, D, Pl, hcs, _⟩
  · exact ⟨none, 0, 0, List.singleton_inj.1 hcs⟩
  · exact ⟨some a', len', cap', List.singleton_inj.1 hcs⟩
set_option maxRecDepth 100000 in
/-- A slice of Deeds that came in. -/
theorem mdeeds_of {H : Type} {enc : TypeId × Value → H} {W : World} {d : DataW H} {ps : List MemPlace} {v : Value}
    (ho : Value.okWide Tryz.prog W .any 0 22 v) (h : DataW.Trod enc Tryz.prog W 0 (fun _ => true) true 22 v d ps) :
    ∃ a l c ms, v = .slice a l c ∧ ms.length = l ∧ l ≤ 9223372036854775807 ∧ DdsIn W a ms ∧ ∀ p ∈ ms, DdOk p := by
  obtain ⟨aa, len, cap, rfl⟩ := okWide_slice Tryz.underlying22 ho
  obtain ⟨fuel, hf⟩ := h
  rcases Go.Deep.open_slice Tryz.underlying22 hf with ⟨hcs, hx⟩ | ⟨a', len', cap', m, n, D, Pl, hcs, _, hl, hm, hmm, hx, hel⟩
  · simp [Value.cells] at hcs
    obtain ⟨rfl, rfl, rfl⟩ := hcs
    exact ⟨none, 0, 0, [], rfl, rfl, Nat.zero_le _, fun i r hi => by simp at hi, fun G hG => (List.not_mem_nil hG).elim⟩
  · simp [Value.cells] at hcs
    obtain ⟨rfl, rfl, rfl⟩ := hcs
    simp only [if_true] at hmm
    have c7 : Tryz.prog.cellsOf 36 = 7 := by kernel_rfl
    have ci : Tryz.prog.cellsOf 3 = 1 := by kernel_rfl
    have c8 : Tryz.prog.cellsOf 5 = 1 := by kernel_rfl
    have cb : Tryz.prog.cellsOf 4 = 1 := by kernel_rfl
    have cS : Tryz.prog.cellsOf 34 = 1 := by kernel_rfl
    obtain ⟨b, off, spot⟩ := a'
    by_cases h0 : len = 0
    · subst h0
      exact ⟨some ⟨b, off, spot⟩, 0, cap, [], rfl, rfl, Nat.zero_le _, fun i r hi => by simp at hi, fun G hG => (List.not_mem_nil hG).elim⟩
    have hspot : spot = none := by
      obtain ⟨cs', hc, _⟩ := hel 0 (by omega)
      rw [c7] at hc
      obtain ⟨_, hcl, hcc⟩ := World.cells?_some hc
      obtain ⟨v0, v1, v2, v3, v4, v5, v6, rfl⟩ := cells_of7 cs' hcl
      have hh := hcc 0 (by omega)
      have hz : ∀ a : Addr, a.add 0 = a := fun a => by unfold Addr.add; simp
      rw [Nat.zero_mul, hz, hz] at hh
      have h2 : W.cell? (⟨b, off, spot⟩ : Addr) = some v0 := hh
      exact World.cell?_spot h2
    subst hspot
    have one : ∀ i, i < len → ∃ G : Dd, DdAt W b (off + i * 7) G ∧ DdOk G := by
      intro i hi
      obtain ⟨cs', hc, ht⟩ := hel i (by omega)
      rw [c7] at hc
      obtain ⟨_, hcl, hcc⟩ := World.cells?_some hc
      obtain ⟨v0, v1, v2, v3, v4, v5, v6, rfl⟩ := cells_of7 cs' hcl
      obtain ⟨zs, nz, _, hz, _, hzl, hks⟩ := DataW.trod_struct Tryz.underlying36 ht
      match zs, hzl with
      | [z0, z1, z2, z3, z4, z5, z6], _ =>
      have k0 := hks 0 _ rfl
      have k1 := hks 1 _ rfl
      have k2 := hks 2 _ rfl
      have k3 := hks 3 _ rfl
      have k4 := hks 4 _ rfl
      have k5 := hks 5 _ rfl
      have k6 := hks 6 _ rfl
      simp only [List.getElem?_cons_zero, List.getElem?_cons_succ] at k0 k1 k2 k3 k4 k5 k6
      obtain ⟨m0, a0, rfl, hm0⟩ := DataW.trod_int Tryz.underlying5 k0
      obtain ⟨m1, a1, rfl, hm1⟩ := DataW.trod_int Tryz.underlying3 k1
      obtain ⟨m2, a2, rfl, hm2⟩ := DataW.trod_int Tryz.underlying3 k2
      obtain ⟨m3, a3, rfl⟩ := DataW.trod_bool Tryz.underlying4 k3
      obtain ⟨m5, a5, rfl, hm5⟩ := DataW.trod_int Tryz.underlying5 k5
      obtain ⟨m6, a6, rfl, hm6⟩ := DataW.trod_int Tryz.underlying5 k6
      obtain rfl := List.singleton_inj.1 a0
      obtain rfl := List.singleton_inj.1 a1
      obtain rfl := List.singleton_inj.1 a2
      obtain rfl := List.singleton_inj.1 a3
      obtain rfl := List.singleton_inj.1 a5
      obtain rfl := List.singleton_inj.1 a6
      obtain ⟨sa, sn, sc, rfl⟩ := slice_form Tryz.underlying34 k4
      obtain ⟨bs, z1, z2, z3, z4⟩ := nats_of Tryz.underlying34 Tryz.underlying5 (by kernel_rfl) (by decide) ⟨_, k4⟩
      unfold maxLen at z2
      subst z1
      have b0 := bounds_u8 hm0
      obtain ⟨n0, rfl⟩ := Int.eq_ofNat_of_zero_le b0.1
      have b1 := bounds_i64 hm1
      have b2 := bounds_i64 hm2
      have b5 := bounds_u8 hm5
      obtain ⟨n5, rfl⟩ := Int.eq_ofNat_of_zero_le b5.1
      have b6 := bounds_u8 hm6
      obtain ⟨n6, rfl⟩ := Int.eq_ofNat_of_zero_le b6.1
      have hc7 : ∀ j, j < 7 → W.cell? ⟨b, off + i * 7 + j, none⟩ = ([.int .u8 (n0 : Int), .int .i64 m1, .int .i64 m2, .bool m3, .slice sa bs.length sc, .int .u8 (n5 : Int), .int .u8 (n6 : Int)] : List Value)[j]? := fun j hj => by
        have := hcc j hj
        rw [addr_plain, addr_plain] at this
        exact this
      refine ⟨⟨n0, m1, m2, m3, sa, sc, bs, n5, n6⟩, ⟨hc7 0 (by omega), hc7 1 (by omega), hc7 2 (by omega), hc7 3 (by omega), hc7 4 (by omega), hc7 5 (by omega), hc7 6 (by omega), fun j n hj => ?_⟩, ⟨by show n0 < 256; omega, b1, b2, by show n5 < 256; omega, by show n6 < 256; omega, by show bs.length ≤ _; omega, fun x hx => ?_⟩⟩
      · obtain ⟨hlt, rfl⟩ := List.getElem?_eq_some_iff.1 hj
        have hlt : j < bs.length := hlt
        obtain ⟨b2, o2, e1, e2, e3⟩ := z3 (by omega)
        exact ⟨b2, o2, e1, e2, e3 j hlt⟩
      · have := z4 x hx
        have e : IntKind.u8.max = 255 := rfl
        rw [e] at this; omega
    obtain ⟨gs, hgl, hgs⟩ := tg_list len one
    refine ⟨some ⟨b, off, none⟩, len, cap, gs, rfl, hgl, by unfold maxLen at *; omega, fun i r hi => ?_, fun G hG => ?_⟩
    · obtain ⟨hi', rfl⟩ := List.getElem?_eq_some_iff.1 hi
      exact ⟨b, off, rfl, (hgs i hi').1⟩
    · obtain ⟨i, hi, rfl⟩ := List.mem_iff_getElem.1 hG
      exact (hgs i hi).2
end Go.Proofs.YtkjfafnnnkjoeaaGreatDoor
