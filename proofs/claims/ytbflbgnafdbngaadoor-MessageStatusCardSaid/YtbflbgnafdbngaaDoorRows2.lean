/- Rows of fields as the laws read them. -/
import Derived.Test.YtbflbgnafdbngaaDoorAppend
import Derived.Test.YtbflbgnafdbngaaDoorEx
import Derived.Laws.StructEq
namespace Go.Proofs.YtbflbgnafdbngaaDoor
open Go.RowKit

theorem fdCells_at {fs : List Fd} {i j : Nat} (h : i < fs.length) (hj : j < 4) : (fdCells fs)[i * 4 + j]? = (fs[i].cells)[j]? := by
  induction fs generalizing i with
  | nil => simp at h
  | cons f fs ih =>
    have hc : fdCells (f :: fs) = f.cells ++ fdCells fs := by simp [fdCells]
    have hl : f.cells.length = 4 := rfl
    rw [hc]
    cases i with
    | zero => rw [List.getElem?_append_left (by omega)]; simp
    | succ i =>
      simp only [List.length_cons] at h
      rw [List.getElem?_append_right (by omega), hl]
      have := ih (i := i) (by omega)
      rw [show (i + 1) * 4 + j - 4 = i * 4 + j by omega, this]
      simp

/-- The row at g holds the fields fs. -/
def RowAt (W : World) (g : Nat) (fs : List Fd) : Prop :=
  g < W.heap.size ∧ ∀ i (h : i < fs.length), W.cell? ⟨g, i * 4, none⟩ = some (.int .i64 fs[i].num) ∧ W.cell? ⟨g, i * 4 + 1, none⟩ = some (.int .i64 fs[i].kind) ∧ W.cell? ⟨g, i * 4 + 2, none⟩ = some (.int .u64 fs[i].n) ∧ W.cell? ⟨g, i * 4 + 3, none⟩ = some (.string ⟨fs[i].s.toArray⟩)
theorem RowAt.below {W W' : World} {g : Nat} {fs : List Fd} (h : RowAt W g fs) (hb : Below W.heap.size W W') : RowAt W' g fs :=
  ⟨Nat.lt_of_lt_of_le h.1 hb.size, fun i hi => by
    obtain ⟨h0, h1, h2, h3⟩ := h.2 i hi
    exact ⟨cell_on hb h.1 h0, cell_on hb h.1 h1, cell_on hb h.1 h2, cell_on hb h.1 h3⟩⟩

theorem parse_row (t : ByteArray) (b : Addr) (w : World) (hs : t.size ≤ 1099511627776) (hg : Gv b w) (fs : List Fd) (hp : parse t.data.toList = some fs) (h0 : 0 < fs.length) :
    Calls Tryd.prog 67 #[.string t] w fun e w' => (∃ g cap, e = .returned (.tuple #[.slice (some ⟨g, 0, none⟩) fs.length cap, .bool true]) ∧ RowAt w' g fs) ∧ Below w.heap.size w w' := by
  refine (parse_any t b w hs hg).mono ?_
  rw [hp]
  rintro e w' ⟨⟨v, rfl, hrow⟩, hb⟩
  obtain ⟨q, hq⟩ : ∃ q, fs.length = q + 1 := ⟨fs.length - 1, by omega⟩
  have hrow' := hrow
  rw [hq] at hrow'
  obtain ⟨g, cap, rfl⟩ := ownsRow_succ hrow'
  rw [← hq] at hrow hrow'
  have hcell : ∀ i j (h : i < fs.length), j < 4 → w'.cell? ⟨g, i * 4 + j, none⟩ = (fs[i].cells)[j]? := fun i j h hj => by
    rw [hrow'.cellAt (i * 4 + j) (by omega), fdCells_at h hj]
  refine ⟨⟨g, cap, by rw [hq], World.block_lt_of_cell? w' _ (hcell 0 0 h0 (by omega)), fun i h => ⟨hcell i 0 h (by omega), hcell i 1 h (by omega), hcell i 2 h (by omega), hcell i 3 h (by omega)⟩⟩, hb⟩

theorem parse_rowN (t : ByteArray) (b : Addr) (w : World) (hs : t.size ≤ 1099511627776) (hg : Gv b w) (fs : List Fd) (n : Nat) (hp : parse t.data.toList = some fs) (hn : fs.length = n) (h0 : 0 < n) :
    Calls Tryd.prog 67 #[.string t] w fun e w' => (∃ g cap, e = .returned (.tuple #[.slice (some ⟨g, 0, none⟩) n cap, .bool true]) ∧ RowAt w' g fs) ∧ Below w.heap.size w w' := by
  subst hn; exact parse_row t b w hs hg fs hp h0

theorem parse_row0 (t : ByteArray) (b : Addr) (w : World) (hs : t.size ≤ 1099511627776) (hg : Gv b w) (hp : parse t.data.toList = some []) :
    Calls Tryd.prog 67 #[.string t] w fun e w' => (∃ a cap, e = .returned (.tuple #[.slice a 0 cap, .bool true])) ∧ Below w.heap.size w w' := by
  refine (parse_any t b w hs hg).mono ?_
  rw [hp]
  rintro e w' ⟨⟨v, rfl, hrow⟩, hb⟩
  obtain ⟨a, c, rfl⟩ := owns_slice hrow
  exact ⟨⟨a, c, rfl⟩, hb⟩

theorem parse_not (t : ByteArray) (b : Addr) (w : World) (hs : t.size ≤ 1099511627776) (hg : Gv b w) (hp : parse t.data.toList = none) :
    Calls Tryd.prog 67 #[.string t] w fun e w' => e = .returned (.tuple #[.slice none 0 0, .bool false]) ∧ Below w.heap.size w w' := by
  refine (parse_any t b w hs hg).mono ?_
  rw [hp]
  rintro e w' ⟨rfl, hb⟩
  exact ⟨rfl, hb⟩

/-- Whatever it is: no word of what it says, but that it ends so. -/
theorem parse_some_way (t : ByteArray) (b : Addr) (w : World) (hs : t.size ≤ 1099511627776) (hg : Gv b w) :
    Calls Tryd.prog 67 #[.string t] w fun e w' => (∃ a n cap o, e = .returned (.tuple #[.slice a n cap, .bool o])) ∧ Below w.heap.size w w' := by
  refine (parse_any t b w hs hg).mono ?_
  cases hp : parse t.data.toList with
  | none => rintro e w' ⟨rfl, hb⟩; exact ⟨⟨_, _, _, _, rfl⟩, hb⟩
  | some fs =>
    rintro e w' ⟨⟨v, rfl, hrow⟩, hb⟩
    obtain ⟨a, c, rfl⟩ := owns_slice hrow
    exact ⟨⟨_, _, _, _, rfl⟩, hb⟩

theorem eq_fields (a k n a' k' n' : Int) (s s' : ByteArray) (w : World) : (Op.equalIn 10000 59 (.agg #[.int .i64 a, .int .i64 k, .int .u64 n, .string s]) (.agg #[.int .i64 a', .int .i64 k', .int .u64 n', .string s'])).run Tryd.prog w = .ok (a == a' && (k == k' && (n == n' && s.toList == s'.toList))) w := by
  have u3 := Tryd.underlying3
  have a3 := Tryd.isAgg3
  have z3 := Tryd.sizeOf3
  have u22 := Tryd.underlying22
  have a22 := Tryd.isAgg22
  have z22 := Tryd.sizeOf22
  have u9 := Tryd.underlying9
  have a9 := Tryd.isAgg9
  have z9 := Tryd.sizeOf9
  have hS : Tryd.prog.underlying 59 = some (.struct (Tryd.prog.fieldsOf 59)) := by kernel_rfl
  have hp : Tryd.prog.stoodInHeld 59 = false := by kernel_rfl
  rw [show (10000 : Nat) = 9999 + 1 from rfl, run_equalIn_agg w 9999 59 _ _ hS hp]
  simp only [Program.fieldsOf, Tryd.underlying59]
  go_simp
  by_cases h1 : a = a' <;> by_cases h2 : k = k' <;> by_cases h3 : n = n' <;> by_cases h4 : s.toList = s'.toList <;> simp [h1, h2, h3, h4]
theorem neq_same (a k n : Int) (s : ByteArray) (w : World) : (binOp .neq 59 (.agg #[.int .i64 a, .int .i64 k, .int .u64 n, .string s]) (.agg #[.int .i64 a, .int .i64 k, .int .u64 n, .string s])).run Tryd.prog w = .ok (.bool false) w := by
  rw [run_neq_struct, eq_fields]
  simp
theorem guard_fd (op : BinOp) (x y : Operand) (xs ys : Array Value) (w : World) : (eqGuard op 59 x y (.agg xs) (.agg ys)).run Tryd.prog w = .ok () w :=
  run_eqGuard_agg w op _ x y xs ys (by kernel_rfl)
end Go.Proofs.YtbflbgnafdbngaaDoor
