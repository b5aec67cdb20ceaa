/- timer: the heap in memory; what only looks. -/
import Derived.Test.YtjcocgadhdgbjaaChecked
import Derived.Test.YtjcocgadhdgbjaaBlk
import Derived.Test.YtjcocgadhdgbjaaStrMap
import Derived.Test.YtjcocgadhdgbjaaTmPlain
namespace Go.Proofs.Ytjcocgadhdgbjaa
open Go.RowKit

def enCells (e : En) : List Value := [.string ⟨e.id.toArray⟩, .int .u64 (e.t : Int), .int .u64 (e.k : Int)]
def enV (h : List En) : List Value := h.flatMap enCells
abbrev enAgg (e : En) : Value := .agg #[.string ⟨e.id.toArray⟩, .int .u64 (e.t : Int), .int .u64 (e.k : Int)]
theorem enV_len (h : List En) : (enV h).length = h.length * 3 := by
  induction h with
  | nil => rfl
  | cons a r ih => simp [enV, enCells] at *; omega
theorem enV_at (h : List En) : ∀ (i : Nat) (e : En), h[i]? = some e → (enV h)[i * 3]? = some (.string ⟨e.id.toArray⟩) ∧ (enV h)[i * 3 + 1]? = some (.int .u64 (e.t : Int)) ∧ (enV h)[i * 3 + 2]? = some (.int .u64 (e.k : Int)) := by
  induction h with
  | nil => intro i e h; simp at h
  | cons a r ih =>
    intro i e h
    cases i with
    | zero => simp at h; subst h; exact ⟨rfl, rfl, rfl⟩
    | succ i =>
      rw [show (i + 1) * 3 = i * 3 + 3 from by omega]
      exact ih i e (by simpa using h)
theorem gt_some {h : List En} {i : Nat} (hi : i < h.length) : h[i]? = some (gt h i) := by
  simp [gt, List.getD_eq_getElem?_getD, List.getElem?_eq_getElem hi]

/-- What the map of places tells. -/
def plC (g : List En) : List UInt8 → Option Value := fun s => (g.findIdx? (fun e => e.id == s)).map fun i => .int .i64 (i : Int)
/-- A pile in block p: its row h, its map of g. -/
structure PileAt (base p m : Nat) (v : Value) (h g : List En) (w : World) : Prop where
  blk : Blk w p #[v, .map (some m)] 56
  own : w.ownsRow base 64 3 v h.length (enV h)
  map : StrMap w m (plC g)
  bp : base ≤ p
  bm : base ≤ m
theorem PileAt.below {base p m : Nat} {v : Value} {h g : List En} {w w' : World} (q : PileAt base p m v h g w) (hb : Below w.heap.size w w') : PileAt base p m v h g w' :=
  ⟨q.blk.below hb q.blk.lt, own_below q.own hb, q.map.below hb q.map.lt, q.bp, q.bm⟩
theorem PileAt.vne {base p m : Nat} {v : Value} {h g : List En} {w : World} (q : PileAt base p m v h g w) : v.ownBlock ≠ some p := row_block q.own q.blk (by decide)
theorem StrMap.ne_blk {w : World} {m p : Nat} {C : List UInt8 → Option Value} {c : Array Value} {t : TypeId} (h : StrMap w m C) (hb : Blk w p c t) : m ≠ p := by
  rintro rfl
  obtain ⟨es, clock, h1, _⟩ := h
  have := h1.symm.trans hb
  simp at this
theorem StrMap.ne_row {w : World} {m base size n : Nat} {e : TypeId} {v : Value} {xs : List Value} {C : List UInt8 → Option Value} (h : StrMap w m C) (ho : w.ownsRow base e size v n xs) : v.ownBlock ≠ some m := by
  rcases ho.2 with ⟨rfl, _⟩ | ⟨g, cap, cur, rfl, _, hg, _⟩
  · simp [Value.ownBlock]
  · intro he
    simp [Value.ownBlock] at he
    subst he
    exact h.ne_blk hg rfl
/-- The row's cells. -/
theorem row_cells {w : World} {base : Nat} {e : TypeId} {v : Value} {h : List En} (ho : w.ownsRow base e 3 v h.length (enV h)) (hn : 0 < h.length) :
    ∃ g cap, v = .slice (some ⟨g, 0, none⟩) h.length cap ∧ base ≤ g ∧ h.length ≤ cap ∧ cap ≤ maxLen ∧ ∀ i, i < h.length → w.cell? ⟨g, i * 3, none⟩ = some (.string ⟨(gt h i).id.toArray⟩) ∧ w.cell? ⟨g, i * 3 + 1, none⟩ = some (.int .u64 ((gt h i).t : Int)) ∧ w.cell? ⟨g, i * 3 + 2, none⟩ = some (.int .u64 ((gt h i).k : Int)) := by
  have h2 := ho.2
  rcases h2 with ⟨rfl, e⟩ | ⟨g, cap, cur, rfl, hb, _, hc, hm, _⟩
  · omega
  · refine ⟨g, cap, rfl, hb, hc, hm, fun i hi => ?_⟩
    obtain ⟨a1, a2, a3⟩ := enV_at h i _ (gt_some hi)
    exact ⟨(ho.cellAt (i * 3) (by omega)).trans a1, (ho.cellAt (i * 3 + 1) (by omega)).trans a2, (ho.cellAt (i * 3 + 2) (by omega)).trans a3⟩

theorem before_any (a b : En) (w : World) :
    Calls Try.prog 50 #[enAgg a, enAgg b] w fun e w' => e = .returned (.bool (lsB a b)) ∧ Below w.heap.size w w' := by
  have hl : lsB a b = if a.t = b.t then decide (a.k < b.k) else decide (a.t < b.t) := by
    unfold lsB En.lt
    split <;> rename_i h
    · simp [h]
    · have : ¬ (a.t = b.t ∧ a.k < b.k) := fun e => h e.1
      simp [this]
  rw [hl]
  by_cases h : a.t = b.t
  · rw [if_pos h]
    have hb : ((a.t : Int) != (b.t : Int)) = false := by simp [h]
    clear hl h
    go_enter Try.func50, Try.ntmps50
    go_wp2
    go_ret
    exact ⟨by simp, ((Below.refl _ _).alloc (Nat.le_refl _) _).alloc (by simp) _⟩
  · rw [if_neg h]
    have hb : ((a.t : Int) != (b.t : Int)) = true := by simp; omega
    clear hl h
    go_enter Try.func50, Try.ntmps50
    go_wp2
    go_ret
    exact ⟨by simp, ((Below.refl _ _).alloc (Nat.le_refl _) _).alloc (by simp) _⟩

theorem plen_any (base p m : Nat) (v : Value) (h g : List En) (w : World) (q : PileAt base p m v h g w) :
    Calls Try.prog 41 #[.pointer (some ⟨p, 0, none⟩)] w fun e w' => e = .returned (.int .i64 (h.length : Int)) ∧ w = w' := by
  have k0 : w.cell? ⟨p, 0, none⟩ = some v := q.blk.cell 0
  obtain ⟨a, c, rfl⟩ := owns_slice q.own
  go_enter Try.func41, Try.ntmps41
  go_wp2
  go_ret
  exact ⟨rfl, rfl⟩

theorem look_any (base p m : Nat) (v : Value) (h g : List En) (i : Nat) (w : World) (q : PileAt base p m v h g w) (hi : i < h.length) (hs : h.length ≤ 1025) :
    Calls Try.prog 43 #[.pointer (some ⟨p, 0, none⟩), .int .i64 (i : Int)] w fun e w' => e = .returned (enAgg (gt h i)) ∧ Below w.heap.size w w' := by
  have k0 : w.cell? ⟨p, 0, none⟩ = some v := q.blk.cell 0
  have hp := q.blk.lt
  obtain ⟨g', cap, rfl, hb, hc, hm, hcell⟩ := row_cells q.own (by omega)
  obtain ⟨c0, c1, c2⟩ := hcell i hi
  have hg := (q.own.lt g' rfl).2
  have b0 : (0 : Int) ≤ (i : Int) := by omega
  have b1 : (i : Int) < (h.length : Int) := by omega
  clear hcell
  go_enter Try.func43, Try.ntmps43
  go_wp2
  exact bodyPost_ret (v := enAgg (gt h i)) (by simp [results, Try.results43, go_sem]) rfl ⟨rfl, (Below.refl _ _).alloc (Nat.le_refl _) _⟩

theorem idx_bd {g : List En} {s : List UInt8} {i : Nat} (h : g.findIdx? (fun e => e.id == s) = some i) : i < g.length := by
  have := List.findIdx?_eq_some_iff_findIdx_eq.1 h; exact this.1
theorem zeroI (w : World) : (zeroValue 3).run Try.prog w = .ok (.int .i64 0) w := by kernel_rfl
theorem find_pl (base p m : Nat) (v : Value) (h g : List En) (s : List UInt8) (w : World) (q : PileAt base p m v h g w) (hs : s.length ≤ 140737488355328) :
    Calls Try.prog 42 #[.pointer (some ⟨p, 0, none⟩), .string ⟨s.toArray⟩] w fun e w' => e = .returned (.tuple #[((plC g s).getD (.int .i64 0)), .bool (plC g s).isSome]) ∧ w = w' := by
  have k1 : w.cell? ⟨p, 1, none⟩ = some (.map (some m)) := q.blk.cell 1
  have hl := q.map.lookup Try.underlying9 Try.underlying53 (zeroI w) (s := s) (by unfold maxLen; omega) true
  simp only [if_true] at hl
  have he : ∀ a b (w : World), (Instr.extract (.tuple #[a, b]) 0).run Try.prog w = .ok a w := fun _ _ _ => rfl
  go_enter Try.func42, Try.ntmps42
  go_wp2
  go_ret2
  exact ⟨rfl, rfl⟩
end Go.Proofs.Ytjcocgadhdgbjaa
