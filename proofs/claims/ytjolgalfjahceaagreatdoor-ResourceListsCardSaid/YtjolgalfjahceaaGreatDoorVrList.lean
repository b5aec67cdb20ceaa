/- resource: lists of versions in memory; a slice of Things that came in, as a list; things. -/
import Derived.Test.YtjolgalfjahceaaGreatDoorVrThingA
import Derived.Test.YtjolgalfjahceaaGreatDoorRows2
import Derived.Test.YtjolgalfjahceaaGreatDoorRows
import Derived.Test.YtjolgalfjahceaaGreatDoorOpen
import Derived.Deep.Slices
import Derived.Lib.SmallJoins
import Derived.ChangeArms
namespace Go.Proofs.YtjolgalfjahceaaGreatDoor
open Go.RowKit Go.ChangeShapes Go.WideShapes Go.ChangeAt

def vrCells (rs : List Vr) : List Value := rs.flatMap fun r => [.int .i64 r.t, .string r.x, .int .u64 (r.q : Int), .bool r.g, .string r.s]
theorem vrCells_append (a b : List Vr) : vrCells (a ++ b) = vrCells a ++ vrCells b := by simp [vrCells]
theorem vrCells_len (rs : List Vr) : (vrCells rs).length = rs.length * 5 := by
  induction rs with
  | nil => rfl
  | cons x xs ih => simp [vrCells] at ih ⊢; omega
/-- A list of versions at a. -/
def VrsAt (w : World) (a : Option Addr) (rs : List Vr) : Prop := ∀ (i : Nat) (r : Vr), rs[i]? = some r → ∃ g off, a = some ⟨g, off, none⟩ ∧ g < w.heap.size ∧
  w.cell? ⟨g, off + i * 5, none⟩ = some (.int .i64 r.t) ∧ w.cell? ⟨g, off + i * 5 + 1, none⟩ = some (.string r.x) ∧ w.cell? ⟨g, off + i * 5 + 2, none⟩ = some (.int .u64 (r.q : Int)) ∧ w.cell? ⟨g, off + i * 5 + 3, none⟩ = some (.bool r.g) ∧ w.cell? ⟨g, off + i * 5 + 4, none⟩ = some (.string r.s)
theorem VrsAt.below {w w' : World} {a : Option Addr} {rs : List Vr} (h : VrsAt w a rs) (hb : Below w.heap.size w w') : VrsAt w' a rs := by
  intro i r hi
  obtain ⟨g, off, ha, hg, h0, h1, h2, h3, h4⟩ := h i r hi
  exact ⟨g, off, ha, Nat.lt_of_lt_of_le hg hb.size, (hb.cell (p := ⟨g, _, none⟩) hg).trans h0, (hb.cell (p := ⟨g, _, none⟩) hg).trans h1, (hb.cell (p := ⟨g, _, none⟩) hg).trans h2, (hb.cell (p := ⟨g, _, none⟩) hg).trans h3, (hb.cell (p := ⟨g, _, none⟩) hg).trans h4⟩
theorem vrCells_get : ∀ (rs : List Vr) (i : Nat) (r : Vr), rs[i]? = some r → ∀ j, j < 5 → (vrCells rs)[i * 5 + j]? = ([.int .i64 r.t, .string r.x, .int .u64 (r.q : Int), .bool r.g, .string r.s] : List Value)[j]?
  | [], i, x, h, _, _ => by simp at h
  | y :: ys, 0, x, h, j, hj => by
    simp at h; subst h
    have hc : j = 0 ∨ j = 1 ∨ j = 2 ∨ j = 3 ∨ j = 4 := by omega
    rcases hc with rfl | rfl | rfl | rfl | rfl <;> simp [vrCells]
  | y :: ys, i + 1, x, h, j, hj => by
    have := vrCells_get ys i x (by simpa using h) j hj
    have e : (vrCells (y :: ys))[(i + 1) * 5 + j]? = (vrCells ys)[i * 5 + j]? := by
      have : (i + 1) * 5 + j = (i * 5 + j) + 1 + 1 + 1 + 1 + 1 := by omega
      rw [this]; rfl
    rw [e]; exact this
theorem vrsAt_row {w : World} {base c : Nat} {a : Option Addr} {rs : List Vr} (h : w.ownsRow base 27 5 (.slice a rs.length c) rs.length (vrCells rs)) : VrsAt w a rs := by
  intro i r hi
  have hlt := (List.getElem?_eq_some_iff.1 hi).1
  have hg := vrCells_get rs i r hi
  have h0 := h
  rcases h0.2 with ⟨hv, hx⟩ | ⟨g, cap, cur, hv, _⟩
  · omega
  · simp at hv
    obtain ⟨rfl, rfl⟩ := hv
    have d0 := (h.cellAt (i * 5) (by omega)).trans (hg 0 (by omega))
    have d1 := (h.cellAt (i * 5 + 1) (by omega)).trans (hg 1 (by omega))
    have d2 := (h.cellAt (i * 5 + 2) (by omega)).trans (hg 2 (by omega))
    have d3 := (h.cellAt (i * 5 + 3) (by omega)).trans (hg 3 (by omega))
    have d4 := (h.cellAt (i * 5 + 4) (by omega)).trans (hg 4 (by omega))
    exact ⟨g, 0, rfl, World.block_lt_of_cell? w _ d0, by rw [Nat.zero_add]; exact d0, by rw [Nat.zero_add]; exact d1, by rw [Nat.zero_add]; exact d2, by rw [Nat.zero_add]; exact d3, by rw [Nat.zero_add]; exact d4⟩
/-- A list of versions comes out. -/
def VrsPost (rs : List Vr) (w : World) (e : Ending) (w' : World) : Prop := ∃ v, e = .returned v ∧ w'.ownsRow w.heap.size 27 5 v rs.length (vrCells rs) ∧ Below w.heap.size w w'

/-- A Thing. -/
structure Tg where
  t : Int
  x : ByteArray
  q : Nat
  g : Bool
  s : ByteArray
  own : Bool
  n : Nat
abbrev Tg.v (k : Tg) : Value := .agg #[.int .i64 k.t, .string k.x, .int .u64 (k.q : Int), .bool k.g, .string k.s, .bool k.own, .int .u8 (k.n : Int)]
def TgsIn (W : World) (a : Option Addr) (ms : List Tg) : Prop := ∀ (i : Nat) (k : Tg), ms[i]? = some k → ∃ b o, a = some ⟨b, o, none⟩ ∧ b < W.heap.size ∧
  W.cell? ⟨b, o + i * 7, none⟩ = some (.int .i64 k.t) ∧ W.cell? ⟨b, o + i * 7 + 1, none⟩ = some (.string k.x) ∧ W.cell? ⟨b, o + i * 7 + 2, none⟩ = some (.int .u64 (k.q : Int)) ∧ W.cell? ⟨b, o + i * 7 + 3, none⟩ = some (.bool k.g) ∧
  W.cell? ⟨b, o + i * 7 + 4, none⟩ = some (.string k.s) ∧ W.cell? ⟨b, o + i * 7 + 5, none⟩ = some (.bool k.own) ∧ W.cell? ⟨b, o + i * 7 + 6, none⟩ = some (.int .u8 (k.n : Int))
theorem TgsIn.below {W W' : World} {a : Option Addr} {ms : List Tg} (h : TgsIn W a ms) (hb : Below W.heap.size W W') : TgsIn W' a ms := by
  intro i s hs
  obtain ⟨b, o, e, hl, h0, h1, h2, h3, h4, h5, h6⟩ := h i s hs
  exact ⟨b, o, e, Nat.lt_of_lt_of_le hl hb.size, (hb.cell (p := ⟨b, _, none⟩) hl).trans h0, (hb.cell (p := ⟨b, _, none⟩) hl).trans h1, (hb.cell (p := ⟨b, _, none⟩) hl).trans h2, (hb.cell (p := ⟨b, _, none⟩) hl).trans h3, (hb.cell (p := ⟨b, _, none⟩) hl).trans h4, (hb.cell (p := ⟨b, _, none⟩) hl).trans h5, (hb.cell (p := ⟨b, _, none⟩) hl).trans h6⟩
theorem tg_list {α : Type} {P : Nat → α → Prop} : ∀ (n : Nat), (∀ i, i < n → ∃ x, P i x) → ∃ l : List α, l.length = n ∧ ∀ i (h : i < l.length), P i l[i]
  | 0, _ => ⟨[], rfl, fun i h => by simp at h⟩
  | n + 1, h => by
    obtain ⟨l, hl, hp⟩ := tg_list n (fun i hi => h i (by omega))
    obtain ⟨x, hx⟩ := h n (by omega)
    refine ⟨l ++ [x], by simp [hl], fun i hi => ?_⟩
    by_cases hin : i < l.length
    · rw [List.getElem_append_left hin]; exact hp i hin
    · have : i = l.length := by simp at hi; omega
      subst this
      rw [List.getElem_append_right (Nat.le_refl _)]
      simp only [Nat.sub_self, List.getElem_cons_zero]
      rw [hl]; exact hx
theorem cells_of7 (cs : List Value) (h : cs.length = 7) : ∃ v0 v1 v2 v3 v4 v5 v6, cs = [v0, v1, v2, v3, v4, v5, v6] := by
  match cs, h with
  | [v0, v1, v2, v3, v4, v5, v6], _ => exact ⟨v0, v1, v2, v3, v4, v5, v6, rfl⟩
set_option maxRecDepth 100000 in
/-- A slice of Things that came in. -/
theorem things_of {H : Type} {enc : TypeId × Value → H} {W : World} {d : DataW H} {ps : List MemPlace} {v : Value}
    (ho : Value.okWide Tryz.prog W .any 0 22 v) (h : DataW.Trod enc Tryz.prog W 0 (fun _ => true) true 22 v d ps) :
    ∃ a l c ms, v = .slice a l c ∧ ms.length = l ∧ l ≤ maxLen ∧ TgsIn W a ms ∧ ∀ p ∈ ms, p.s.size ≤ maxLen ∧ p.n < 256 ∧ p.q < 2 ^ 64 ∧ p.x.size ≤ maxLen ∧ -9223372036854775808 ≤ p.t ∧ p.t ≤ 9223372036854775807 := by
  obtain ⟨aa, len, cap, rfl⟩ := okWide_slice Tryz.underlying22 ho
  obtain ⟨fuel, hf⟩ := h
  rcases Go.Deep.open_slice Tryz.underlying22 hf with ⟨hcs, hx⟩ | ⟨a', len', cap', m, n, D, Pl, hcs, _, hl, hm, hmm, hx, hel⟩
  · simp [Value.cells] at hcs
    obtain ⟨rfl, rfl, rfl⟩ := hcs
    exact ⟨none, 0, 0, [], rfl, rfl, Nat.zero_le _, fun i r hi => by simp at hi, fun G hG => (List.not_mem_nil hG).elim⟩
  · simp [Value.cells] at hcs
    obtain ⟨rfl, rfl, rfl⟩ := hcs
    simp only [if_true] at hmm
    have c7 : Tryz.prog.cellsOf 29 = 7 := by kernel_rfl
    have c28 : Tryz.prog.cellsOf 27 = 5 := by kernel_rfl
    have c26 : Tryz.prog.cellsOf 24 = 2 := by kernel_rfl
    have ci : Tryz.prog.cellsOf 3 = 1 := by kernel_rfl
    have cu : Tryz.prog.cellsOf 25 = 1 := by kernel_rfl
    have c8 : Tryz.prog.cellsOf 5 = 1 := by kernel_rfl
    have cb : Tryz.prog.cellsOf 4 = 1 := by kernel_rfl
    have cS : Tryz.prog.cellsOf 9 = 1 := by kernel_rfl
    obtain ⟨b, off, spot⟩ := a'
    by_cases h0 : len = 0
    · subst h0
      exact ⟨some ⟨b, off, spot⟩, 0, cap, [], rfl, rfl, Nat.zero_le _, fun i r hi => by simp at hi, fun G hG => (List.not_mem_nil hG).elim⟩
    have hspot : spot = none := by
      obtain ⟨cs', hc, _⟩ := hel 0 (by omega)
      rw [c7] at hc
      obtain ⟨_, hcl, hcc⟩ := World.cells?_some hc
      obtain ⟨v0, v1, v2, v3, v4, v5, v6, rfl⟩ := cells_of7 cs' hcl
      have hh := hcc 0 (by omega)
      have hz : ∀ a : Addr, a.add 0 = a := fun a => by unfold Addr.add; simp
      rw [Nat.zero_mul, hz, hz] at hh
      have h2 : W.cell? (⟨b, off, spot⟩ : Addr) = some v0 := hh
      exact World.cell?_spot h2
    subst hspot
    have one : ∀ i, i < len → ∃ G : Tg, (W.cell? ⟨b, off + i * 7, none⟩ = some (.int .i64 G.t) ∧ W.cell? ⟨b, off + i * 7 + 1, none⟩ = some (.string G.x) ∧ W.cell? ⟨b, off + i * 7 + 2, none⟩ = some (.int .u64 (G.q : Int)) ∧ W.cell? ⟨b, off + i * 7 + 3, none⟩ = some (.bool G.g) ∧
        W.cell? ⟨b, off + i * 7 + 4, none⟩ = some (.string G.s) ∧ W.cell? ⟨b, off + i * 7 + 5, none⟩ = some (.bool G.own) ∧ W.cell? ⟨b, off + i * 7 + 6, none⟩ = some (.int .u8 (G.n : Int))) ∧ (G.s.size ≤ maxLen ∧ G.n < 256 ∧ G.q < 2 ^ 64 ∧ G.x.size ≤ maxLen ∧ -9223372036854775808 ≤ G.t ∧ G.t ≤ 9223372036854775807) := by
      intro i hi
      obtain ⟨cs', hc, ht⟩ := hel i (by omega)
      rw [c7] at hc
      obtain ⟨_, hcl, hcc⟩ := World.cells?_some hc
      obtain ⟨v0, v1, v2, v3, v4, v5, v6, rfl⟩ := cells_of7 cs' hcl
      obtain ⟨zs, nz, _, hz, _, hzl, hks⟩ := DataW.trod_struct Tryz.underlying29 ht
      match zs, hzl with
      | [z0, z1, z2], _ =>
      have k0 := hks 0 _ rfl
      have k1 := hks 1 _ rfl
      have k2 := hks 2 _ rfl
      simp only [List.getElem?_cons_zero, List.getElem?_cons_succ] at k0 k1 k2
      obtain ⟨m1, a1, rfl⟩ := DataW.trod_bool Tryz.underlying4 k1
      obtain ⟨m2, a2, rfl, hm2⟩ := DataW.trod_int Tryz.underlying5 k2
      obtain ⟨xs, nx, _, hx, _, hxl, hfs⟩ := DataW.trod_struct Tryz.underlying27 k0
      match xs, hxl with
      | [x0, x1, x2, x3], _ =>
      have f0 := hfs 0 _ rfl
      have f1 := hfs 1 _ rfl
      have f2 := hfs 2 _ rfl
      have f3 := hfs 3 _ rfl
      simp only [List.getElem?_cons_zero, List.getElem?_cons_succ] at f0 f1 f2 f3
      obtain ⟨p1, e1, rfl, hp1⟩ := DataW.trod_int Tryz.underlying25 f1
      obtain ⟨p2, e2, rfl⟩ := DataW.trod_bool Tryz.underlying4 f2
      obtain ⟨p3, e3, rfl, hp3⟩ := DataW.trod_string Tryz.underlying9 f3
      obtain ⟨ys, m, _, hy, _, hyl, hgs⟩ := DataW.trod_struct Tryz.underlying24 f0
      match ys, hyl with
      | [y0, y1], _ =>
      have g0 := hgs 0 _ rfl
      have g1 := hgs 1 _ rfl
      simp only [List.getElem?_cons_zero, List.getElem?_cons_succ] at g0 g1
      obtain ⟨j0, d0, rfl, hj0⟩ := DataW.trod_int Tryz.underlying3 g0
      obtain ⟨j1, d1, rfl, hj1⟩ := DataW.trod_string Tryz.underlying9 g1
      obtain rfl := List.singleton_inj.1 d0
      obtain rfl := List.singleton_inj.1 d1
      obtain rfl := List.singleton_inj.1 e1
      obtain rfl := List.singleton_inj.1 e2
      obtain rfl := List.singleton_inj.1 e3
      obtain rfl := List.singleton_inj.1 a1
      obtain rfl := List.singleton_inj.1 a2
      have b0 := bounds_i64 hj0
      have b1 := bounds_u64 hp1
      obtain ⟨n1, rfl⟩ := Int.eq_ofNat_of_zero_le b1.1
      have b2 := bounds_u8 hm2
      obtain ⟨n2, rfl⟩ := Int.eq_ofNat_of_zero_le b2.1
      have hc7 : ∀ j, j < 7 → W.cell? ⟨b, off + i * 7 + j, none⟩ = ([.int .i64 j0, .string j1, .int .u64 (n1 : Int), .bool p2, .string p3, .bool m1, .int .u8 (n2 : Int)] : List Value)[j]? := fun j hj => by
        have := hcc j hj
        rw [addr_plain, addr_plain] at this
        exact this
      exact ⟨⟨j0, j1, n1, p2, p3, m1, n2⟩, ⟨hc7 0 (by omega), hc7 1 (by omega), hc7 2 (by omega), hc7 3 (by omega), hc7 4 (by omega), hc7 5 (by omega), hc7 6 (by omega)⟩, hp3, by show n2 < 256; omega, by show n1 < 2 ^ 64; omega, hj1, b0.1, b0.2⟩
    obtain ⟨gs, hgl, hgs⟩ := tg_list len one
    refine ⟨some ⟨b, off, none⟩, len, cap, gs, rfl, hgl, by omega, fun i r hi => ?_, fun G hG => ?_⟩
    · obtain ⟨hi', rfl⟩ := List.getElem?_eq_some_iff.1 hi
      have hh := (hgs i hi').1
      exact ⟨b, off, rfl, World.block_lt_of_cell? W _ hh.1, hh⟩
    · obtain ⟨i, hi, rfl⟩ := List.mem_iff_getElem.1 hG
      exact (hgs i hi).2
end Go.Proofs.YtjolgalfjahceaaGreatDoor
