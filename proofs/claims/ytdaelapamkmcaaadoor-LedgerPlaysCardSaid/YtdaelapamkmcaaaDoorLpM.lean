/- ledger: a slice of Deeds that came in, as a list; a slice of numbers. LedgerPlays: a Deed's key. LedgerPlays: both ledgers in one world, call by call. -/
import Derived.Test.YtdaelapamkmcaaaDoorLdAt
import Derived.Test.YtdaelapamkmcaaaDoorRows
import Derived.Test.YtdaelapamkmcaaaDoorOpen
import Derived.Deep.Slices
import Derived.Lib.SmallJoins
import Derived.ChangeArms
import Derived.Test.YtdaelapamkmcaaaDoorCkName
import Derived.Test.YtdaelapamkmcaaaDoorLrBgM
namespace Go.Proofs.YtdaelapamkmcaaaDoor
open Go.RowKit Go.ChangeShapes Go.WideShapes Go.ChangeAt

/-- A Deed. -/
structure Dd where
  kd : Nat
  nm : Nat
  t : Int
  x : ByteArray
  q : Nat
  ok : Bool
  s : ByteArray
abbrev Dd.v (k : Dd) : Value := .agg #[.int .u8 (k.kd : Int), .int .u8 (k.nm : Int), .int .i64 k.t, .string k.x, .int .u64 (k.q : Int), .bool k.ok, .string k.s]
def DdsIn (W : World) (a : Option Addr) (ms : List Dd) : Prop := ∀ (i : Nat) (k : Dd), ms[i]? = some k → ∃ b o, a = some ⟨b, o, none⟩ ∧ b < W.heap.size ∧
  W.cell? ⟨b, o + i * 7, none⟩ = some (.int .u8 (k.kd : Int)) ∧ W.cell? ⟨b, o + i * 7 + 1, none⟩ = some (.int .u8 (k.nm : Int)) ∧ W.cell? ⟨b, o + i * 7 + 2, none⟩ = some (.int .i64 k.t) ∧ W.cell? ⟨b, o + i * 7 + 3, none⟩ = some (.string k.x) ∧
  W.cell? ⟨b, o + i * 7 + 4, none⟩ = some (.int .u64 (k.q : Int)) ∧ W.cell? ⟨b, o + i * 7 + 5, none⟩ = some (.bool k.ok) ∧ W.cell? ⟨b, o + i * 7 + 6, none⟩ = some (.string k.s)
theorem DdsIn.below {W W' : World} {a : Option Addr} {ms : List Dd} (h : DdsIn W a ms) (hb : Below W.heap.size W W') : DdsIn W' a ms := by
  intro i s hs
  obtain ⟨b, o, e, hl, h0, h1, h2, h3, h4, h5, h6⟩ := h i s hs
  exact ⟨b, o, e, Nat.lt_of_lt_of_le hl hb.size, (hb.cell (p := ⟨b, _, none⟩) hl).trans h0, (hb.cell (p := ⟨b, _, none⟩) hl).trans h1, (hb.cell (p := ⟨b, _, none⟩) hl).trans h2, (hb.cell (p := ⟨b, _, none⟩) hl).trans h3, (hb.cell (p := ⟨b, _, none⟩) hl).trans h4, (hb.cell (p := ⟨b, _, none⟩) hl).trans h5, (hb.cell (p := ⟨b, _, none⟩) hl).trans h6⟩
theorem tg_list {α : Type} {P : Nat → α → Prop} : ∀ (n : Nat), (∀ i, i < n → ∃ x, P i x) → ∃ l : List α, l.length = n ∧ ∀ i (h : i < l.length), P i l[i]
  | 0, _ => ⟨[], rfl, fun i h => by simp at h⟩
  | n + 1, h => by
    obtain ⟨l, hl, hp⟩ := tg_list n (fun i hi => h i (by omega))
    obtain ⟨x, hx⟩ := h n (by omega)
    refine ⟨l ++ [x], by simp [hl], fun i hi => ?_⟩
    by_cases hin : i < l.length
    · rw [List.getElem_append_left hin]; exact hp i hin
    · have : i = l.length := by simp at hi; omega
      subst this
      rw [List.getElem_append_right (Nat.le_refl _)]
      simp only [Nat.sub_self, List.getElem_cons_zero]
      rw [hl]; exact hx
theorem cells_of7 (cs : List Value) (h : cs.length = 7) : ∃ v0 v1 v2 v3 v4 v5 v6, cs = [v0, v1, v2, v3, v4, v5, v6] := by
  match cs, h with
  | [v0, v1, v2, v3, v4, v5, v6], _ => exact ⟨v0, v1, v2, v3, v4, v5, v6, rfl⟩
set_option maxRecDepth 100000 in
/-- A slice of Deeds that came in. -/
theorem deeds_of {H : Type} {enc : TypeId × Value → H} {W : World} {d : DataW H} {ps : List MemPlace} {v : Value}
    (ho : Value.okWide Tryd.prog W .any 0 22 v) (h : DataW.Trod enc Tryd.prog W 0 (fun _ => true) true 22 v d ps) :
    ∃ a l c ms, v = .slice a l c ∧ ms.length = l ∧ l ≤ maxLen ∧ DdsIn W a ms ∧ ∀ p ∈ ms, p.kd < 256 ∧ p.nm < 256 ∧ p.q < 2 ^ 64 ∧ p.s.size ≤ maxLen ∧ p.x.size ≤ maxLen ∧ -9223372036854775808 ≤ p.t ∧ p.t ≤ 9223372036854775807 := by
  obtain ⟨aa, len, cap, rfl⟩ := okWide_slice Tryd.underlying22 ho
  obtain ⟨fuel, hf⟩ := h
  rcases Go.Deep.open_slice Tryd.underlying22 hf with ⟨hcs, hx⟩ | ⟨a', len', cap', m, n, D, Pl, hcs, _, hl, hm, hmm, hx, hel⟩
  · simp [Value.cells] at hcs
    obtain ⟨rfl, rfl, rfl⟩ := hcs
    exact ⟨none, 0, 0, [], rfl, rfl, Nat.zero_le _, fun i r hi => by simp at hi, fun G hG => (List.not_mem_nil hG).elim⟩
  · simp [Value.cells] at hcs
    obtain ⟨rfl, rfl, rfl⟩ := hcs
    simp only [if_true] at hmm
    have c7 : Tryd.prog.cellsOf 34 = 7 := by kernel_rfl
    have c26 : Tryd.prog.cellsOf 31 = 2 := by kernel_rfl
    have ci : Tryd.prog.cellsOf 3 = 1 := by kernel_rfl
    have cu : Tryd.prog.cellsOf 32 = 1 := by kernel_rfl
    have c8 : Tryd.prog.cellsOf 5 = 1 := by kernel_rfl
    have cb : Tryd.prog.cellsOf 4 = 1 := by kernel_rfl
    have cS : Tryd.prog.cellsOf 9 = 1 := by kernel_rfl
    obtain ⟨b, off, spot⟩ := a'
    by_cases h0 : len = 0
    · subst h0
      exact ⟨some ⟨b, off, spot⟩, 0, cap, [], rfl, rfl, Nat.zero_le _, fun i r hi => by simp at hi, fun G hG => (List.not_mem_nil hG).elim⟩
    have hspot : spot = none := by
      obtain ⟨cs', hc, _⟩ := hel 0 (by omega)
      rw [c7] at hc
      obtain ⟨_, hcl, hcc⟩ := World.cells?_some hc
      obtain ⟨v0, v1, v2, v3, v4, v5, v6, rfl⟩ := cells_of7 cs' hcl
      have hh := hcc 0 (by omega)
      have hz : ∀ a : Addr, a.add 0 = a := fun a => by unfold Addr.add; simp
      rw [Nat.zero_mul, hz, hz] at hh
      have h2 : W.cell? (⟨b, off, spot⟩ : Addr) = some v0 := hh
      exact World.cell?_spot h2
    subst hspot
    have one : ∀ i, i < len → ∃ G : Dd, (W.cell? ⟨b, off + i * 7, none⟩ = some (.int .u8 (G.kd : Int)) ∧ W.cell? ⟨b, off + i * 7 + 1, none⟩ = some (.int .u8 (G.nm : Int)) ∧ W.cell? ⟨b, off + i * 7 + 2, none⟩ = some (.int .i64 G.t) ∧ W.cell? ⟨b, off + i * 7 + 3, none⟩ = some (.string G.x) ∧
        W.cell? ⟨b, off + i * 7 + 4, none⟩ = some (.int .u64 (G.q : Int)) ∧ W.cell? ⟨b, off + i * 7 + 5, none⟩ = some (.bool G.ok) ∧ W.cell? ⟨b, off + i * 7 + 6, none⟩ = some (.string G.s)) ∧ (G.kd < 256 ∧ G.nm < 256 ∧ G.q < 2 ^ 64 ∧ G.s.size ≤ maxLen ∧ G.x.size ≤ maxLen ∧ -9223372036854775808 ≤ G.t ∧ G.t ≤ 9223372036854775807) := by
      intro i hi
      obtain ⟨cs', hc, ht⟩ := hel i (by omega)
      rw [c7] at hc
      obtain ⟨_, hcl, hcc⟩ := World.cells?_some hc
      obtain ⟨v0, v1, v2, v3, v4, v5, v6, rfl⟩ := cells_of7 cs' hcl
      obtain ⟨zs, nz, _, hz, _, hzl, hks⟩ := DataW.trod_struct Tryd.underlying34 ht
      match zs, hzl with
      | [z0, z1, z2, z3, z4, z5], _ =>
      have k0 := hks 0 _ rfl
      have k1 := hks 1 _ rfl
      have k2 := hks 2 _ rfl
      have k3 := hks 3 _ rfl
      have k4 := hks 4 _ rfl
      have k5 := hks 5 _ rfl
      simp only [List.getElem?_cons_zero, List.getElem?_cons_succ] at k0 k1 k2 k3 k4 k5
      obtain ⟨m0, a0, rfl, hm0⟩ := DataW.trod_int Tryd.underlying5 k0
      obtain ⟨m1, a1, rfl, hm1⟩ := DataW.trod_int Tryd.underlying5 k1
      obtain ⟨m3, a3, rfl, hm3⟩ := DataW.trod_int Tryd.underlying32 k3
      obtain ⟨m4, a4, rfl⟩ := DataW.trod_bool Tryd.underlying4 k4
      obtain ⟨m5, a5, rfl, hm5⟩ := DataW.trod_string Tryd.underlying9 k5
      obtain ⟨ys, m, _, hy, _, hyl, hgs⟩ := DataW.trod_struct Tryd.underlying31 k2
      match ys, hyl with
      | [y0, y1], _ =>
      have g0 := hgs 0 _ rfl
      have g1 := hgs 1 _ rfl
      simp only [List.getElem?_cons_zero, List.getElem?_cons_succ] at g0 g1
      obtain ⟨j0, d0, rfl, hj0⟩ := DataW.trod_int Tryd.underlying3 g0
      obtain ⟨j1, d1, rfl, hj1⟩ := DataW.trod_string Tryd.underlying9 g1
      obtain rfl := List.singleton_inj.1 d0
      obtain rfl := List.singleton_inj.1 d1
      obtain rfl := List.singleton_inj.1 a0
      obtain rfl := List.singleton_inj.1 a1
      obtain rfl := List.singleton_inj.1 a3
      obtain rfl := List.singleton_inj.1 a4
      obtain rfl := List.singleton_inj.1 a5
      have b0 := bounds_i64 hj0
      have b1 := bounds_u64 hm3
      obtain ⟨n1, rfl⟩ := Int.eq_ofNat_of_zero_le b1.1
      have b2 := bounds_u8 hm0
      obtain ⟨n2, rfl⟩ := Int.eq_ofNat_of_zero_le b2.1
      have b3 := bounds_u8 hm1
      obtain ⟨n3, rfl⟩ := Int.eq_ofNat_of_zero_le b3.1
      have hc7 : ∀ j, j < 7 → W.cell? ⟨b, off + i * 7 + j, none⟩ = ([.int .u8 (n2 : Int), .int .u8 (n3 : Int), .int .i64 j0, .string j1, .int .u64 (n1 : Int), .bool m4, .string m5] : List Value)[j]? := fun j hj => by
        have := hcc j hj
        rw [addr_plain, addr_plain] at this
        exact this
      exact ⟨⟨n2, n3, j0, j1, n1, m4, m5⟩, ⟨hc7 0 (by omega), hc7 1 (by omega), hc7 2 (by omega), hc7 3 (by omega), hc7 4 (by omega), hc7 5 (by omega), hc7 6 (by omega)⟩, by show n2 < 256; omega, by show n3 < 256; omega, by show n1 < 2 ^ 64; omega, hm5, hj1, b0.1, b0.2⟩
    obtain ⟨gs, hgl, hgs⟩ := tg_list len one
    refine ⟨some ⟨b, off, none⟩, len, cap, gs, rfl, hgl, by omega, fun i r hi => ?_, fun G hG => ?_⟩
    · obtain ⟨hi', rfl⟩ := List.getElem?_eq_some_iff.1 hi
      have hh := (hgs i hi').1
      exact ⟨b, off, rfl, World.block_lt_of_cell? W _ hh.1, hh⟩
    · obtain ⟨i, hi, rfl⟩ := List.mem_iff_getElem.1 hG
      exact (hgs i hi).2

/-- Numbers that came in. -/
def NatsIn (W : World) (a : Option Addr) (bs : List Nat) : Prop := ∀ (i : Nat) (n : Nat), bs[i]? = some n → ∃ b o, a = some ⟨b, o, none⟩ ∧ b < W.heap.size ∧ W.cell? ⟨b, o + i, none⟩ = some (.int .u8 (n : Int))
theorem NatsIn.below {W W' : World} {a : Option Addr} {bs : List Nat} (h : NatsIn W a bs) (hb : Below W.heap.size W W') : NatsIn W' a bs := by
  intro i n hi
  obtain ⟨b, o, e, hl, hc⟩ := h i n hi
  exact ⟨b, o, e, Nat.lt_of_lt_of_le hl hb.size, (hb.cell (p := ⟨b, _, none⟩) hl).trans hc⟩
set_option maxRecDepth 100000 in
theorem bytes_of {H : Type} {enc : TypeId × Value → H} {W : World} {d : DataW H} {ps : List MemPlace} {v : Value}
    (ho : Value.okWide Tryd.prog W .any 0 101 v) (h : DataW.Trod enc Tryd.prog W 0 (fun _ => true) true 101 v d ps) :
    ∃ a l c bs, v = .slice a l c ∧ bs.length = l ∧ l ≤ maxLen ∧ NatsIn W a bs ∧ ∀ n ∈ bs, n < 256 := by
  obtain ⟨a0, l0, c0, rfl⟩ := okWide_slice Tryd.underlying101 ho
  obtain ⟨zs, z1, z2, z3, z4⟩ := nats_of Tryd.underlying101 Tryd.underlying5 (by kernel_rfl) (by decide) h
  refine ⟨_, _, _, zs, rfl, z1, z2, fun i n hi => ?_, fun n hn => ?_⟩
  · obtain ⟨hlt, rfl⟩ := List.getElem?_eq_some_iff.1 hi
    obtain ⟨b, o, e1, e2, e3⟩ := z3 (by omega)
    exact ⟨b, o, e1, e2, e3 i hlt⟩
  · have := z4 n hn
    have e : IntKind.u8.max = 255 := rfl
    rw [e] at this; omega
end Go.Proofs.YtdaelapamkmcaaaDoor
namespace Go.Proofs.YtdaelapamkmcaaaDoor
open Go.RowKit

def Dd.keyT (u : Dd) : Int := if 240 < u.nm then u.t else 1 + ((u.nm % 2 : Nat) : Int)
def Dd.keyX (u : Dd) : ByteArray := if 240 < u.nm then u.x else if u.nm / 2 % 3 = 0 then ⟨#[97]⟩ else if u.nm / 2 % 3 = 1 then ⟨#[98]⟩ else ⟨#[99]⟩
structure DkS (B : Nat) (w' : World) : Prop where
  a : B < w'.heap.size
abbrev DkT (B : Nat) (u : Dd) (w' : World) : Prop := w'.cell? ⟨B, 1, none⟩ = some (.int .u8 (u.nm : Int)) ∧ DkS B w'
theorem DkT.next {B : Nat} {u : Dd} {w w' : World} (h : DkT B u w) (hb : Below w.heap.size w w') : DkT B u w' := ⟨(hb.cell (p := ⟨B, 1, none⟩) h.2.a).trans h.1, ⟨Nat.lt_of_lt_of_le h.2.a hb.size⟩⟩
theorem DkT.make {B : Nat} {u : Dd} {w : World} (h : DkT B u w.drew) (o : Obj) : DkT B u (w.alloc o).drew := h.next ⟨rfl, rfl, rfl, by simp, fun k hk => ((Below.refl w.heap.size w).alloc (Nat.le_refl _) o).block k hk⟩
set_option maxRecDepth 100000 in
set_option maxHeartbeats 4000000 in
theorem dkey_any (u : Dd) (w : World) (hn : u.nm < 256) : Calls Tryd.prog 6 #[u.v] w fun e w' => e = .returned (kyV u.keyT u.keyX) ∧ Below w.heap.size w w' := by
  obtain ⟨w1, hw1⟩ : ∃ w1, w.alloc (.cells #[.int .u8 (u.kd : Int), .int .u8 (u.nm : Int), .int .i64 u.t, .string u.x, .int .u64 (u.q : Int), .bool u.ok, .string u.s] 34) = w1 := ⟨_, rfl⟩
  have hb1 : Below w.heap.size w w1 := by rw [← hw1]; exact (Below.refl _ _).alloc (Nat.le_refl _) _
  have q1 : Blk w1 w.heap.size #[.int .u8 (u.kd : Int), .int .u8 (u.nm : Int), .int .i64 u.t, .string u.x, .int .u64 (u.q : Int), .bool u.ok, .string u.s] 34 := by rw [← hw1]; exact Blk.new _ _ _
  have HW1 := Lib.hid hw1
  have hlt := q1.lt
  have HB1 := Lib.hid hb1
  have HQ1 := Lib.hid q1
  clear hw1 hb1 q1
  have y1 : w1.cell? ⟨w.heap.size, 1, none⟩ = some (.int .u8 (u.nm : Int)) := HQ1.out.cell 1
  by_cases h : 240 < u.nm
  · have e1 : (240 : Int) < (u.nm : Int) := by omega
    have e2 : u.keyT = u.t ∧ u.keyX = u.x := ⟨if_pos h, if_pos h⟩
    rw [e2.1, e2.2]
    have y2 : w1.cell? ⟨w.heap.size, 2, none⟩ = some (.int .i64 u.t) := HQ1.out.cell 2
    have y3 : w1.cell? ⟨w.heap.size, 3, none⟩ = some (.string u.x) := HQ1.out.cell 3
    clear h e2
    go_enter Tryd.func6, Tryd.ntmps6
    go_wp2_with (rw [HW1.out])
    refine bodyPost_ret (v := kyV u.t u.x) (by simp [results, Tryd.results6, go_sem, kyV]) rfl ⟨rfl, ?_⟩
    exact HB1.out.trans ((Below.refl _ _).alloc HB1.out.size _)
  · have e1 : ¬ (240 : Int) < (u.nm : Int) := by omega
    obtain ⟨ρ, hρ⟩ : ∃ ρ, u.nm % 2 = ρ := ⟨_, rfl⟩
    have hρ2 : ρ < 2 := by omega
    obtain ⟨δ, hδ⟩ : ∃ δ, u.nm / 2 = δ := ⟨_, rfl⟩
    obtain ⟨κ, hκ⟩ : ∃ κ, δ % 3 = κ := ⟨_, rfl⟩
    have hκ3 : κ < 3 := by omega
    have a1 : (u.nm : Int).tmod 2 = (ρ : Int) := by rw [Int.tmod_eq_emod_of_nonneg (by omega)]; omega
    have a2 : (u.nm : Int) % 2 = (ρ : Int) := by omega
    have a3 : IntKind.u8.wrap (ρ : Int) = (ρ : Int) := by rw [show IntKind.u8.wrap (ρ : Int) = (ρ : Int) % 256 from rfl]; omega
    have a4 : IntKind.i64.wrap (ρ : Int) = (ρ : Int) := by rw [IntKind.wrap_i64]; omega
    have a5 : IntKind.i64.wrap (1 + (ρ : Int)) = 1 + (ρ : Int) := by rw [IntKind.wrap_i64]; omega
    have d1 : (u.nm : Int).tdiv 2 = (δ : Int) := by rw [Int.tdiv_eq_ediv_of_nonneg (by omega)]; omega
    have d2 : (u.nm : Int) / 2 = (δ : Int) := by omega
    have d3 : IntKind.u8.wrap (δ : Int) = (δ : Int) := by rw [show IntKind.u8.wrap (δ : Int) = (δ : Int) % 256 from rfl]; omega
    have e2 : u.keyT = 1 + (ρ : Int) := by unfold Dd.keyT; rw [if_neg h, hρ]
    have e3 : u.keyX = if κ = 0 then ⟨#[97]⟩ else if κ = 1 then ⟨#[98]⟩ else ⟨#[99]⟩ := by unfold Dd.keyX; rw [if_neg h, hδ, hκ]
    rw [e2, e3]
    clear e2 e3 h hρ hρ2 hn
    rcases (show κ = 0 ∨ κ = 1 ∨ κ = 2 by omega) with rfl | rfl | rfl
    · have c1 : (δ : Int).tmod 3 = 0 := by rw [Int.tmod_eq_emod_of_nonneg (by omega)]; omega
      have c2 : (δ : Int) % 3 = 0 := by omega
      clear hδ hκ hκ3
      have ST : DkT w.heap.size u (w1.alloc (.cells #[.int .i64 0, .string ⟨#[]⟩] 31)).drew := DkT.make ⟨y1, ⟨hlt⟩⟩ _
      go_enter Tryd.func6, Tryd.ntmps6
      go_wp2_with (rw [HW1.out])
      go_region
      have hb : Below w.heap.size w ((w1.alloc (.cells #[.int .i64 (1 + (ρ : Int)), .string ⟨#[97]⟩] 31)).alloc (.cells #[.string ⟨#[97]⟩, .string ⟨#[98]⟩, .string ⟨#[99]⟩] 9)).drew := (((HB1.out.trans ((Below.refl _ _).alloc HB1.out.size _)).trans ((Below.refl _ _).alloc (by have := HB1.out.size; simp; omega) _))).drew
      have q3 : Blk ((w1.alloc (.cells #[.int .i64 (1 + (ρ : Int)), .string ⟨#[97]⟩] 31)).alloc (.cells #[.string ⟨#[97]⟩, .string ⟨#[98]⟩, .string ⟨#[99]⟩] 9)).drew w1.heap.size #[.int .i64 (1 + (ρ : Int)), .string ⟨#[97]⟩] 31 := (Blk.new w1 _ _).below (((Below.refl _ _).alloc (Nat.le_refl _) _).drew) (by simp)
      generalize ((w1.alloc (.cells #[.int .i64 (1 + (ρ : Int)), .string ⟨#[97]⟩] 31)).alloc (.cells #[.string ⟨#[97]⟩, .string ⟨#[98]⟩, .string ⟨#[99]⟩] 9)).drew = w3 at hb q3 ⊢
      have r0 : w3.cell? ⟨w1.heap.size, 0, none⟩ = some (.int .i64 (1 + (ρ : Int))) := q3.cell 0
      have r1 : w3.cell? ⟨w1.heap.size, 1, none⟩ = some (.string ⟨#[97]⟩) := q3.cell 1
      go_wp2_with fail
      refine bodyPost_ret (v := kyV (1 + (ρ : Int)) ⟨#[97]⟩) (by simp [results, Tryd.results6, go_sem, kyV, r0, r1]) rfl ⟨rfl, hb⟩
    · have c1 : (δ : Int).tmod 3 = 1 := by rw [Int.tmod_eq_emod_of_nonneg (by omega)]; omega
      have c2 : (δ : Int) % 3 = 1 := by omega
      clear hδ hκ hκ3
      have ST : DkT w.heap.size u (w1.alloc (.cells #[.int .i64 0, .string ⟨#[]⟩] 31)).drew := DkT.make ⟨y1, ⟨hlt⟩⟩ _
      go_enter Tryd.func6, Tryd.ntmps6
      go_wp2_with (rw [HW1.out])
      go_region
      have hb : Below w.heap.size w ((w1.alloc (.cells #[.int .i64 (1 + (ρ : Int)), .string ⟨#[98]⟩] 31)).alloc (.cells #[.string ⟨#[97]⟩, .string ⟨#[98]⟩, .string ⟨#[99]⟩] 9)).drew := (((HB1.out.trans ((Below.refl _ _).alloc HB1.out.size _)).trans ((Below.refl _ _).alloc (by have := HB1.out.size; simp; omega) _))).drew
      have q3 : Blk ((w1.alloc (.cells #[.int .i64 (1 + (ρ : Int)), .string ⟨#[98]⟩] 31)).alloc (.cells #[.string ⟨#[97]⟩, .string ⟨#[98]⟩, .string ⟨#[99]⟩] 9)).drew w1.heap.size #[.int .i64 (1 + (ρ : Int)), .string ⟨#[98]⟩] 31 := (Blk.new w1 _ _).below (((Below.refl _ _).alloc (Nat.le_refl _) _).drew) (by simp)
      generalize ((w1.alloc (.cells #[.int .i64 (1 + (ρ : Int)), .string ⟨#[98]⟩] 31)).alloc (.cells #[.string ⟨#[97]⟩, .string ⟨#[98]⟩, .string ⟨#[99]⟩] 9)).drew = w3 at hb q3 ⊢
      have r0 : w3.cell? ⟨w1.heap.size, 0, none⟩ = some (.int .i64 (1 + (ρ : Int))) := q3.cell 0
      have r1 : w3.cell? ⟨w1.heap.size, 1, none⟩ = some (.string ⟨#[98]⟩) := q3.cell 1
      go_wp2_with fail
      refine bodyPost_ret (v := kyV (1 + (ρ : Int)) ⟨#[98]⟩) (by simp [results, Tryd.results6, go_sem, kyV, r0, r1]) rfl ⟨rfl, hb⟩
    · have c1 : (δ : Int).tmod 3 = 2 := by rw [Int.tmod_eq_emod_of_nonneg (by omega)]; omega
      have c2 : (δ : Int) % 3 = 2 := by omega
      clear hδ hκ hκ3
      have ST : DkT w.heap.size u (w1.alloc (.cells #[.int .i64 0, .string ⟨#[]⟩] 31)).drew := DkT.make ⟨y1, ⟨hlt⟩⟩ _
      go_enter Tryd.func6, Tryd.ntmps6
      go_wp2_with (rw [HW1.out])
      go_region
      have hb : Below w.heap.size w ((w1.alloc (.cells #[.int .i64 (1 + (ρ : Int)), .string ⟨#[99]⟩] 31)).alloc (.cells #[.string ⟨#[97]⟩, .string ⟨#[98]⟩, .string ⟨#[99]⟩] 9)).drew := (((HB1.out.trans ((Below.refl _ _).alloc HB1.out.size _)).trans ((Below.refl _ _).alloc (by have := HB1.out.size; simp; omega) _))).drew
      have q3 : Blk ((w1.alloc (.cells #[.int .i64 (1 + (ρ : Int)), .string ⟨#[99]⟩] 31)).alloc (.cells #[.string ⟨#[97]⟩, .string ⟨#[98]⟩, .string ⟨#[99]⟩] 9)).drew w1.heap.size #[.int .i64 (1 + (ρ : Int)), .string ⟨#[99]⟩] 31 := (Blk.new w1 _ _).below (((Below.refl _ _).alloc (Nat.le_refl _) _).drew) (by simp)
      generalize ((w1.alloc (.cells #[.int .i64 (1 + (ρ : Int)), .string ⟨#[99]⟩] 31)).alloc (.cells #[.string ⟨#[97]⟩, .string ⟨#[98]⟩, .string ⟨#[99]⟩] 9)).drew = w3 at hb q3 ⊢
      have r0 : w3.cell? ⟨w1.heap.size, 0, none⟩ = some (.int .i64 (1 + (ρ : Int))) := q3.cell 0
      have r1 : w3.cell? ⟨w1.heap.size, 1, none⟩ = some (.string ⟨#[99]⟩) := q3.cell 1
      go_wp2_with fail
      refine bodyPost_ret (v := kyV (1 + (ρ : Int)) ⟨#[99]⟩) (by simp [results, Tryd.results6, go_sem, kyV, r0, r1]) rfl ⟨rfl, hb⟩
end Go.Proofs.YtdaelapamkmcaaaDoor
namespace Go.Proofs.YtdaelapamkmcaaaDoor
open Go.RowKit

/-- What both ledgers may turn. -/
structure K2 (B : Nat) (w w' : World) : Prop where
  os : w'.os = w.os
  tape : w'.tape = w.tape
  output : w'.output = w.output
  size : w.heap.size ≤ w'.heap.size
  block : ∀ k, k < w.heap.size → ¬ (Mine w B k ∨ RMine w B k) → w'.heap[k]? = w.heap[k]?
theorem K2.of {B : Nat} {w w' : World} (h : Kept B w w') : K2 B w w' := ⟨h.os, h.tape, h.output, h.size, fun k hk hn => h.block k hk fun e => hn (.inl e)⟩
theorem K2.rof {B : Nat} {w w' : World} (h : RKept B w w') : K2 B w w' := ⟨h.os, h.tape, h.output, h.size, fun k hk hn => h.block k hk fun e => hn (.inr e)⟩
theorem K2.low {B : Nat} {w w' : World} (h : Below w.heap.size w w') : K2 B w w' := ⟨h.os, h.tape, h.output, h.size, fun k hk _ => h.block k hk⟩
theorem K2.below {B : Nat} {w w' : World} (h : K2 B w w') (hB : B ≤ w.heap.size) : Below B w w' :=
  ⟨h.os, h.tape, h.output, h.size, fun k hk => h.block k (by omega) (fun hm => by rcases hm with hm | hm <;> (have := hm.1; omega))⟩
theorem K2.blk {B : Nat} {w w' : World} {p : Nat} {c : Array Value} {t : TypeId} (h : K2 B w w') (hb : Blk w p c t) (h1 : t ≠ 53) (h2 : t ≠ 49) (h3 : t ≠ 29) (h4 : t ≠ 50) : Blk w' p c t := by
  refine (h.block p hb.lt ?_).trans hb
  rintro (⟨_, c', T, fz, hc, hT⟩ | ⟨_, c', T, fz, hc, hT⟩)
  all_goals
    rw [show w.heap[p]? = _ from hb] at hc
    injection hc with hc; injection hc with _ e _
    subst e
    rcases hT with e | e
    · first | exact h1 e | exact h3 e
    · first | exact h2 e | exact h4 e
/-- The program's ledger at l, the reference's at r. -/
structure Two (B : Nat) (W : World) (g b : Addr) (l r : Nat) (ms ns : List Mk) (w : World) : Prop where
  ld : LdIs B l ms w
  ok : MsOk ns
  pd : PdM ns
  rf : ∃ v, RfAt B r v ns w
  gv : Gv g w
  gn : Gn b w
  be : Below W.heap.size W w
  lo : 1 < B ∧ 0 < B ∧ W.heap.size ≤ B
section
variable {B : Nat} {W : World} {g b : Addr} {l r : Nat} {ms ns : List Mk} {w : World}
theorem Two.hB (h : Two B W g b l r ms ns w) : B ≤ w.heap.size := h.ld.hB
theorem Two.later {w' : World} (h : Two B W g b l r ms ns w) (hb : Below w.heap.size w w') : Two B W g b l r ms ns w' := by
  obtain ⟨v, hv⟩ := h.rf
  exact ⟨h.ld.later hb, h.ok, h.pd, ⟨v, hv.later hb⟩, h.gv.below hb, h.gn.later hb, h.be.trans (hb.mono h.be.size), h.lo⟩
theorem gv_low {g : Addr} {w w' : World} {n : Nat} (hg : Gv g w) (hb : Below n w w') (hn : 1 < n) : Gv g w' := ⟨(hb.cell (p := ⟨1, 0, none⟩) hn).trans hg.1, Nat.lt_of_lt_of_le hg.2 hb.size⟩
theorem gn_low {g : Addr} {w w' : World} {n : Nat} (hg : Gn g w) (hb : Below n w w') (hn : 0 < n) : Gn g w' := ⟨(hb.cell (p := ⟨0, 0, none⟩) hn).trans hg.1, Nat.lt_of_lt_of_le hg.2 hb.size⟩
theorem Two.rest {w' : World} {ms' ns' : List Mk} (h : Two B W g b l r ms ns w) (hk : K2 B w w') (h1 : LdIs B l ms' w') (h2 : MsOk ns') (h3 : PdM ns') (h4 : ∃ v, RfAt B r v ns' w') : Two B W g b l r ms' ns' w' ∧ K2 B w w' := by
  have hb := hk.below h.hB
  exact ⟨⟨h1, h2, h3, h4, gv_low h.gv hb h.lo.1, gn_low h.gn hb h.lo.2.1, h.be.trans (hb.mono h.lo.2.2), h.lo⟩, hk⟩
theorem Two.pp {w' : World} {ms' : List Mk} (h : Two B W g b l r ms ns w) (h1 : LdIs B l ms' w') (hk : Kept B w w') : Two B W g b l r ms' ns w' ∧ K2 B w w' := by
  obtain ⟨v, hv⟩ := h.rf
  exact h.rest (.of hk) h1 h.ok h.pd ⟨v, hv.kept hk⟩
theorem Two.rr {w' : World} {ns' : List Mk} (h : Two B W g b l r ms ns w) (h2 : MsOk ns') (h3 : PdM ns') (h4 : ∃ v, RfAt B r v ns' w') (hk : RKept B w w') : Two B W g b l r ms ns' w' ∧ K2 B w w' :=
  h.rest (.rof hk) (h.ld.rkept hk) h2 h3 h4

theorem begin2 {t : Int} {x : ByteArray} {q : Nat} (h : Two B W g b l r ms ns w) (hq : q < 2 ^ 64) :
    Calls Tryd.prog 11 #[.pointer (some ⟨l, 0, none⟩), .agg #[.int .i64 t, .string x], .int .u64 (q : Int)] w fun e w' => e = .returned (.int .i64 (begE t x q ms)) ∧ Two B W g b l r (begM t x q ms) ns w' ∧ K2 B w w' :=
  (begin_is B l t x q ms w h.ld hq).mono fun _ _ ⟨e1, e2, e3⟩ => ⟨e1, h.pp e2 e3⟩
theorem rbegin2 {t : Int} {x : ByteArray} {q : Nat} (h : Two B W g b l r ms ns w) (hq : q < 2 ^ 64) (hx : x.size ≤ maxLen) :
    Calls Tryd.prog 12 #[.pointer (some ⟨r, 0, none⟩), .agg #[.int .i64 t, .string x], .int .u64 (q : Int)] w fun e w' => e = .returned (.int .i64 (begE t x q ns)) ∧ Two B W g b l r ms (begM t x q ns) w' ∧ K2 B w w' := by
  obtain ⟨v, hv⟩ := h.rf
  exact (rbegin_any B r v t x q ns w hx hv h.ok.srt h.ok.len).mono fun _ _ ⟨e1, e2, e3⟩ => ⟨e1, h.rr (begM_ok h.ok hq) (pd_beg h.pd) e2 e3⟩
theorem note2 {s : St} (h : Two B W g b l r ms ns w) (hq : s.q < 2 ^ 64) :
    Calls Tryd.prog 7 #[.pointer (some ⟨l, 0, none⟩), .agg #[.int .i64 s.t, .string s.x, .int .u64 (s.q : Int), .bool s.f, .string s.s]] w fun e w' => e = .returned (.int .i64 (noteE s ms)) ∧ Two B W g b l r (noteR s ms) ns w' ∧ K2 B w w' :=
  (note_is g b B l s ms w h.gv h.gn hq h.ld).mono fun _ _ ⟨e1, e2, e3⟩ => ⟨e1, h.pp e2 e3⟩
theorem rnote2 {s : St} (h : Two B W g b l r ms ns w) (hq : s.q < 2 ^ 64) (hx : s.x.size ≤ maxLen) :
    Calls Tryd.prog 8 #[.pointer (some ⟨r, 0, none⟩), .agg #[.int .i64 s.t, .string s.x, .int .u64 (s.q : Int), .bool s.f, .string s.s]] w fun e w' => e = .returned (.int .i64 (noteE s ns)) ∧ Two B W g b l r ms (noteR s ns) w' ∧ K2 B w w' := by
  obtain ⟨v, hv⟩ := h.rf
  exact (rnote_any s B r v ns w hx hq (Nat.le_succ_of_le h.ok.len) h.ok.srt h.pd hv).mono fun _ _ ⟨e1, e2, e3⟩ => ⟨e1, h.rr (noteR_ok h.ok) (pd_note h.pd) ⟨v, e2⟩ e3⟩
theorem state2 {t : Int} {x : ByteArray} {q : Nat} (h : Two B W g b l r ms ns w) :
    Calls Tryd.prog 13 #[.pointer (some ⟨l, 0, none⟩), .agg #[.int .i64 t, .string x], .int .u64 (q : Int)] w fun e w' => e = .returned (.tuple #[.int .i64 (stateE t x q ms).1, .string (stateE t x q ms).2]) ∧ Below w.heap.size w w' := state_is B l t x q ms w h.ld
theorem rstate2 {t : Int} {x : ByteArray} {q : Nat} (h : Two B W g b l r ms ns w) :
    Calls Tryd.prog 14 #[.pointer (some ⟨r, 0, none⟩), .agg #[.int .i64 t, .string x], .int .u64 (q : Int)] w fun e w' => e = .returned (.tuple #[.int .i64 (stateE t x q ns).1, .string (stateE t x q ns).2]) ∧ Below w.heap.size w w' := by
  obtain ⟨v, hv⟩ := h.rf
  obtain ⟨a, c, rfl, hr⟩ := hv.rd
  exact rstate_any r c a t x q ns w hr (Nat.le_succ_of_le h.ok.len)
theorem erase2 (h : Two B W g b l r ms ns w) :
    Calls Tryd.prog 9 #[.pointer (some ⟨l, 0, none⟩)] w fun e w' => e = .returned (.tuple #[]) ∧ Two B W g b l r (eraseM ms) ns w' ∧ K2 B w w' :=
  (erase_is B l ms w h.ld).mono fun _ _ ⟨e1, e2, e3⟩ => ⟨e1, h.pp e2 e3⟩
theorem eraseM_ok {ns : List Mk} (h : MsOk ns) : MsOk (eraseM ns) := ⟨h.srt.filter _, Nat.le_trans (List.length_filter_le _ _) h.len, fun m hm => h.ok m (List.mem_filter.1 hm).1⟩
theorem rerase2 (h : Two B W g b l r ms ns w) :
    Calls Tryd.prog 10 #[.pointer (some ⟨r, 0, none⟩)] w fun e w' => e = .returned (.tuple #[]) ∧ Two B W g b l r ms (eraseM ns) w' ∧ K2 B w w' := by
  obtain ⟨v, hv⟩ := h.rf
  exact (rerase_any B r v ns w hv (Nat.le_succ_of_le h.ok.len)).mono fun _ _ ⟨e1, e2, e3⟩ => ⟨e1, h.rr (eraseM_ok h.ok) (pd_erase h.pd) e2 e3⟩
theorem marks2 (h : Two B W g b l r ms ns w) : Calls Tryd.prog 15 #[.pointer (some ⟨l, 0, none⟩)] w (MksPost ms w) := marks_is B l ms w h.ld
end
end Go.Proofs.YtdaelapamkmcaaaDoor
