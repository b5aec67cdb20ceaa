/- payload: the fields that Parse gives, as they stand in memory; and how great they may be. -/
import Derived.Test.YtngceccpebdgmaaGreatDoorPlTakeOne
import Derived.Test.YtngceccpebdgmaaGreatDoorAppend
namespace Go.Proofs.YtngceccpebdgmaaGreatDoor
open Go.RowKit Go.Shelf

/-- The fields fs stand in block g. -/
def FdsAt (w : World) (g : Nat) (fs : List Fd) : Prop := g < w.heap.size ∧ ∀ (i : Nat) (f : Fd), fs[i]? = some f → w.cell? ⟨g, i * 4, none⟩ = some (.int .i64 (f.num : Int)) ∧ w.cell? ⟨g, i * 4 + 1, none⟩ = some (.int .i64 (f.kind : Int)) ∧ w.cell? ⟨g, i * 4 + 2, none⟩ = some (.int .u64 (f.n : Int)) ∧ w.cell? ⟨g, i * 4 + 3, none⟩ = some (.string ⟨f.s.toArray⟩)
theorem fdCells_get : ∀ (fs : List Fd) (i : Nat) (f : Fd), fs[i]? = some f → (fdCells fs)[i * 4]? = some (.int .i64 (f.num : Int)) ∧ (fdCells fs)[i * 4 + 1]? = some (.int .i64 (f.kind : Int)) ∧ (fdCells fs)[i * 4 + 2]? = some (.int .u64 (f.n : Int)) ∧ (fdCells fs)[i * 4 + 3]? = some (.string ⟨f.s.toArray⟩)
  | [], i, f, h => by simp at h
  | y :: ys, 0, f, h => by
    simp at h; subst h
    simp [fdCells, Fd.cells]
  | y :: ys, i + 1, f, h => by
    have := fdCells_get ys i f (by simpa using h)
    have e : ∀ j, (fdCells (y :: ys))[(i + 1) * 4 + j]? = (fdCells ys)[i * 4 + j]? := by
      intro j
      have : (i + 1) * 4 + j = y.cells.length + (i * 4 + j) := by simp [Fd.cells]; omega
      rw [this]
      show (y.cells ++ fdCells ys)[y.cells.length + (i * 4 + j)]? = _
      rw [List.getElem?_append_right (by omega)]
      congr 1; omega
    have e0 := e 0
    simp only [Nat.add_zero] at e0
    rw [e0, e 1, e 2, e 3]
    exact this
theorem FdsAt.of_row {w : World} {base e g cap : Nat} {fs : List Fd} (h : w.ownsRow base e 4 (.slice (some ⟨g, 0, none⟩) fs.length cap) fs.length (fdCells fs)) (hx : 0 < fs.length) : FdsAt w g fs := by
  have hlen := fdCells_len fs
  have all : ∀ (i : Nat) (f : Fd), fs[i]? = some f → w.cell? ⟨g, i * 4, none⟩ = some (.int .i64 (f.num : Int)) ∧ w.cell? ⟨g, i * 4 + 1, none⟩ = some (.int .i64 (f.kind : Int)) ∧ w.cell? ⟨g, i * 4 + 2, none⟩ = some (.int .u64 (f.n : Int)) ∧ w.cell? ⟨g, i * 4 + 3, none⟩ = some (.string ⟨f.s.toArray⟩) := fun i f hi => by
    have hlt := (List.getElem?_eq_some_iff.1 hi).1
    obtain ⟨a, b, c, d⟩ := fdCells_get fs i f hi
    exact ⟨(h.cellAt _ (by omega)).trans a, (h.cellAt _ (by omega)).trans b, (h.cellAt _ (by omega)).trans c, (h.cellAt _ (by omega)).trans d⟩
  exact ⟨World.block_lt_of_cell? w _ (all 0 _ (List.getElem?_eq_getElem hx)).1, all⟩
theorem BelowBut.fds {base B g : Nat} {w w' : World} {fs : List Fd} (h : BelowBut base B w w') (hp : FdsAt w g fs) (hg : g < base) (hne : g ≠ B) : FdsAt w' g fs := by
  have hb := h.block g hg hne
  refine ⟨Nat.lt_of_lt_of_le hp.1 h.size, fun i x hx => ?_⟩
  obtain ⟨a, b, c, d⟩ := hp.2 i x hx
  exact ⟨(World.cell?_of_block (a := ⟨g, _, none⟩) hb).trans a, (World.cell?_of_block (a := ⟨g, _, none⟩) hb).trans b, (World.cell?_of_block (a := ⟨g, _, none⟩) hb).trans c, (World.cell?_of_block (a := ⟨g, _, none⟩) hb).trans d⟩
/-- The row that Parse gives: nil, or the fields in a block of their own. -/
theorem fds_row {w : World} {base e : Nat} {v : Value} {fs : List Fd} (h : w.ownsRow base e 4 v fs.length (fdCells fs)) : ∃ a cap, v = .slice a fs.length cap ∧ (0 < fs.length → ∃ g, a = some ⟨g, 0, none⟩ ∧ base ≤ g ∧ FdsAt w g fs) := by
  rcases h.2 with ⟨rfl, hx⟩ | ⟨g, cap, cur, rfl, hb, r⟩
  · have := fdCells_len fs; rw [hx] at this; simp at this
    have h0 : fs.length = 0 := by omega
    exact ⟨none, 0, by rw [h0], fun h => by omega⟩
  · exact ⟨_, cap, rfl, fun hx => ⟨g, rfl, hb, FdsAt.of_row h hx⟩⟩

theorem fieldOf_facts {l : List UInt8} {f : Fd} {k : Nat} (h : fieldOf l = some (f, k)) : f.n < 2 ^ 64 ∧ f.s.length ≤ l.length := by
  unfold fieldOf at h
  split at h
  · simp at h
  · rename_i t k0 ht
    split at h
    · split at h
      · simp at h; obtain ⟨rfl, _⟩ := h; simp; omega
      · simp at h
    · split at h
      · simp at h
      · rename_i v m hr
        have hv := rd_bound hr
        split at h
        · simp at h; obtain ⟨rfl, _⟩ := h; exact ⟨hv, by simp⟩
        · split at h
          · simp at h; obtain ⟨rfl, _⟩ := h; simp; omega
          · simp at h
theorem parse_facts : ∀ (n : Nat) {l : List UInt8} {fs : List Fd}, l.length ≤ n → parse l = some fs → ∀ f ∈ fs, f.n < 2 ^ 64 ∧ f.s.length ≤ l.length
  | 0, l, fs, hl, h => by
    have : l = [] := List.eq_nil_of_length_eq_zero (by omega)
    subst this
    rw [parse_nil] at h; simp at h; subst h; simp
  | n + 1, l, fs, hl, h => by
    by_cases h0 : l.length = 0
    · have : l = [] := List.eq_nil_of_length_eq_zero h0
      subst this
      rw [parse_nil] at h; simp at h; subst h; simp
    · cases hf : fieldOf l with
      | none => rw [parse_none hf (by omega)] at h; simp at h
      | some r =>
        obtain ⟨x, k⟩ := r
        rw [parse_some hf] at h
        have hk := fieldOf_size hf
        obtain ⟨gs, hg, rfl⟩ := Option.map_eq_some_iff.1 h
        have ih := parse_facts n (l := l.drop k) (by simp; omega) hg
        intro f hm
        rcases List.mem_cons.1 hm with rfl | hm
        · exact fieldOf_facts hf
        · have := ih f hm; simp at this; exact ⟨this.1, by omega⟩

/-- What the loop over the fields holds. -/
def TRel {σ : Type} (one : σ → Fd → Option σ) (fs : List Fd) (zero : σ) (j : Nat) (s : σ) : Prop := takes one (fs.drop j) s = takes one fs zero
theorem TRel.step {σ : Type} {one : σ → Fd → Option σ} {fs : List Fd} {zero : σ} {j : Nat} {s s' : σ} {f : Fd} (h : TRel one fs zero j s) (hf : fs[j]? = some f) (ho : one s f = some s') : TRel one fs zero (j + 1) s' := by
  obtain ⟨hj, rfl⟩ := List.getElem?_eq_some_iff.1 hf
  unfold TRel at *
  rw [← h, List.drop_eq_getElem_cons hj]
  simp [takes, ho]
theorem TRel.bad {σ : Type} {one : σ → Fd → Option σ} {fs : List Fd} {zero : σ} {j : Nat} {s : σ} {f : Fd} (h : TRel one fs zero j s) (hf : fs[j]? = some f) (ho : one s f = none) : takes one fs zero = none := by
  obtain ⟨hj, rfl⟩ := List.getElem?_eq_some_iff.1 hf
  unfold TRel at h
  rw [← h, List.drop_eq_getElem_cons hj]
  simp [takes, ho]
theorem TRel.done {σ : Type} {one : σ → Fd → Option σ} {fs : List Fd} {zero : σ} {j : Nat} {s : σ} (h : TRel one fs zero j s) (hj : fs.length ≤ j) : takes one fs zero = some s := by
  unfold TRel at h
  rw [← h, List.drop_of_length_le hj]; rfl
theorem allOf_none {σ : Type} {one : σ → Fd → Option σ} {zero : σ} {l : List UInt8} (h : parse l = none) : allOf one zero l = none := by unfold allOf; rw [h]
theorem allOf_some {σ : Type} {one : σ → Fd → Option σ} {zero : σ} {l : List UInt8} {fs : List Fd} (h : parse l = some fs) : allOf one zero l = takes one fs zero := by unfold allOf; rw [h]
end Go.Proofs.YtngceccpebdgmaaGreatDoor
