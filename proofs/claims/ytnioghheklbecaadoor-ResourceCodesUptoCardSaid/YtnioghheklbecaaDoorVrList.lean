/- resource: lists of versions in memory; a slice of Things that came in, as a list; things. -/
import Derived.Test.YtnioghheklbecaaDoorVrThingA
import Derived.Test.YtnioghheklbecaaDoorRows2
import Derived.Test.YtnioghheklbecaaDoorRows
import Derived.Test.YtnioghheklbecaaDoorOpen
import Derived.Deep.Slices
import Derived.Lib.SmallJoins
import Derived.ChangeArms
namespace Go.Proofs.YtnioghheklbecaaDoor
open Go.RowKit Go.ChangeShapes Go.WideShapes Go.ChangeAt

def vrCells (rs : List Vr) : List Value := rs.flatMap fun r => [.int .i64 r.t, .string r.x, .int .u64 (r.q : Int), .bool r.g, .string r.s]
theorem vrCells_append (a b : List Vr) : vrCells (a ++ b) = vrCells a ++ vrCells b := by simp [vrCells]
theorem vrCells_len (rs : List Vr) : (vrCells rs).length = rs.length * 5 := by
  induction rs with
  | nil => rfl
  | cons x xs ih => simp [vrCells] at ih ⊢; omega
/-- A list of versions at a. -/
def VrsAt (w : World) (a : Option Addr) (rs : List Vr) : Prop := ∀ (i : Nat) (r : Vr), rs[i]? = some r → ∃ g off, a = some ⟨g, off, none⟩ ∧ g < w.heap.size ∧
  w.cell? ⟨g, off + i * 5, none⟩ = some (.int .i64 r.t) ∧ w.cell? ⟨g, off + i * 5 + 1, none⟩ = some (.string r.x) ∧ w.cell? ⟨g, off + i * 5 + 2, none⟩ = some (.int .u64 (r.q : Int)) ∧ w.cell? ⟨g, off + i * 5 + 3, none⟩ = some (.bool r.g) ∧ w.cell? ⟨g, off + i * 5 + 4, none⟩ = some (.string r.s)
theorem VrsAt.below {w w' : World} {a : Option Addr} {rs : List Vr} (h : VrsAt w a rs) (hb : Below w.heap.size w w') : VrsAt w' a rs := by
  intro i r hi
  obtain ⟨g, off, ha, hg, h0, h1, h2, h3, h4⟩ := h i r hi
  exact ⟨g, off, ha, Nat.lt_of_lt_of_le hg hb.size, (hb.cell (p := ⟨g, _, none⟩) hg).trans h0, (hb.cell (p := ⟨g, _, none⟩) hg).trans h1, (hb.cell (p := ⟨g, _, none⟩) hg).trans h2, (hb.cell (p := ⟨g, _, none⟩) hg).trans h3, (hb.cell (p := ⟨g, _, none⟩) hg).trans h4⟩
theorem vrCells_get : ∀ (rs : List Vr) (i : Nat) (r : Vr), rs[i]? = some r → ∀ j, j < 5 → (vrCells rs)[i * 5 + j]? = ([.int .i64 r.t, .string r.x, .int .u64 (r.q : Int), .bool r.g, .string r.s] : List Value)[j]?
  | [], i, x, h, _, _ => by simp at h
  | y :: ys, 0, x, h, j, hj => by
    simp at h; subst h
    have hc : j = 0 ∨ j = 1 ∨ j = 2 ∨ j = 3 ∨ j = 4 := by omega
    rcases hc with rfl | rfl | rfl | rfl | rfl <;> simp [vrCells]
  | y :: ys, i + 1, x, h, j, hj => by
    have := vrCells_get ys i x (by simpa using h) j hj
    have e : (vrCells (y :: ys))[(i + 1) * 5 + j]? = (vrCells ys)[i * 5 + j]? := by
      have : (i + 1) * 5 + j = (i * 5 + j) + 1 + 1 + 1 + 1 + 1 := by omega
      rw [this]; rfl
    rw [e]; exact this
theorem vrsAt_row {w : World} {base c : Nat} {a : Option Addr} {rs : List Vr} (h : w.ownsRow base 26 5 (.slice a rs.length c) rs.length (vrCells rs)) : VrsAt w a rs := by
  intro i r hi
  have hlt := (List.getElem?_eq_some_iff.1 hi).1
  have hg := vrCells_get rs i r hi
  have h0 := h
  rcases h0.2 with ⟨hv, hx⟩ | ⟨g, cap, cur, hv, _⟩
  · omega
  · simp at hv
    obtain ⟨rfl, rfl⟩ := hv
    have d0 := (h.cellAt (i * 5) (by omega)).trans (hg 0 (by omega))
    have d1 := (h.cellAt (i * 5 + 1) (by omega)).trans (hg 1 (by omega))
    have d2 := (h.cellAt (i * 5 + 2) (by omega)).trans (hg 2 (by omega))
    have d3 := (h.cellAt (i * 5 + 3) (by omega)).trans (hg 3 (by omega))
    have d4 := (h.cellAt (i * 5 + 4) (by omega)).trans (hg 4 (by omega))
    exact ⟨g, 0, rfl, World.block_lt_of_cell? w _ d0, by rw [Nat.zero_add]; exact d0, by rw [Nat.zero_add]; exact d1, by rw [Nat.zero_add]; exact d2, by rw [Nat.zero_add]; exact d3, by rw [Nat.zero_add]; exact d4⟩
/-- A list of versions comes out. -/
def VrsPost (rs : List Vr) (w : World) (e : Ending) (w' : World) : Prop := ∃ v, e = .returned v ∧ w'.ownsRow w.heap.size 26 5 v rs.length (vrCells rs) ∧ Below w.heap.size w w'

/-- A Thing. -/
structure Tg where
  t : Int
  x : ByteArray
  q : Nat
  g : Bool
  s : ByteArray
  own : Bool
  n : Nat
abbrev Tg.v (k : Tg) : Value := .agg #[.int .i64 k.t, .string k.x, .int .u64 (k.q : Int), .bool k.g, .string k.s, .bool k.own, .int .u8 (k.n : Int)]
def TgsIn (W : World) (a : Option Addr) (ms : List Tg) : Prop := ∀ (i : Nat) (k : Tg), ms[i]? = some k → ∃ b o, a = some ⟨b, o, none⟩ ∧ b < W.heap.size ∧
  W.cell? ⟨b, o + i * 7, none⟩ = some (.int .i64 k.t) ∧ W.cell? ⟨b, o + i * 7 + 1, none⟩ = some (.string k.x) ∧ W.cell? ⟨b, o + i * 7 + 2, none⟩ = some (.int .u64 (k.q : Int)) ∧ W.cell? ⟨b, o + i * 7 + 3, none⟩ = some (.bool k.g) ∧
  W.cell? ⟨b, o + i * 7 + 4, none⟩ = some (.string k.s) ∧ W.cell? ⟨b, o + i * 7 + 5, none⟩ = some (.bool k.own) ∧ W.cell? ⟨b, o + i * 7 + 6, none⟩ = some (.int .u8 (k.n : Int))
theorem TgsIn.below {W W' : World} {a : Option Addr} {ms : List Tg} (h : TgsIn W a ms) (hb : Below W.heap.size W W') : TgsIn W' a ms := by
  intro i s hs
  obtain ⟨b, o, e, hl, h0, h1, h2, h3, h4, h5, h6⟩ := h i s hs
  exact ⟨b, o, e, Nat.lt_of_lt_of_le hl hb.size, (hb.cell (p := ⟨b, _, none⟩) hl).trans h0, (hb.cell (p := ⟨b, _, none⟩) hl).trans h1, (hb.cell (p := ⟨b, _, none⟩) hl).trans h2, (hb.cell (p := ⟨b, _, none⟩) hl).trans h3, (hb.cell (p := ⟨b, _, none⟩) hl).trans h4, (hb.cell (p := ⟨b, _, none⟩) hl).trans h5, (hb.cell (p := ⟨b, _, none⟩) hl).trans h6⟩
theorem tg_list {α : Type} {P : Nat → α → Prop} : ∀ (n : Nat), (∀ i, i < n → ∃ x, P i x) → ∃ l : List α, l.length = n ∧ ∀ i (h : i < l.length), P i l[i]
  | 0, _ => ⟨[], rfl, fun i h => by simp at h⟩
  | n + 1, h => by
    obtain ⟨l, hl, hp⟩ := tg_list n (fun i hi => h i (by omega))
    obtain ⟨x, hx⟩ := h n (by omega)
    refine ⟨l ++ [x], by simp [hl], fun i hi => ?_⟩
    by_cases hin : i < l.length
    · rw [List.getElem_append_left hin]; exact hp i hin
    · have : i = l.length := by simp at hi; omega
      subst this
      rw [List.getElem_append_right (Nat.le_refl _)]
      simp only [Nat.sub_self, List.getElem_cons_zero]
      rw [hl]; exact hx
theorem cells_of7 (cs : List Value) (h : cs.length = 7) : ∃ v0 v1 v2 v3 v4 v5 v6, cs = [v0, v1, v2, v3, v4, v5, v6] := by
  match cs, h with
  | [v0, v1, v2, v3, v4, v5, v6], _ => exact ⟨v0, v1, v2, v3, v4, v5, v6, rfl⟩
end Go.Proofs.YtnioghheklbecaaDoor
