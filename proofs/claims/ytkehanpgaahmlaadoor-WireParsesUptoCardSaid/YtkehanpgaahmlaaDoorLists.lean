/- The calls over lists of fields, each as a list, whether there is a row or not. -/
import Derived.Test.YtkehanpgaahmlaaDoorRefAll
import Derived.Test.YtkehanpgaahmlaaDoorAll
namespace Go.Proofs.YtkehanpgaahmlaaDoor
open Go.RowKit

def Fd.g (f : Fd) : Gd := ⟨f.num, f.kind, f.n, ⟨f.s.toArray⟩⟩
theorem gdCells_map (fs : List Fd) : gdCells (fs.map Fd.g) = fdCells fs := by
  induction fs with
  | nil => rfl
  | cons f fs ih =>
    have e1 : gdCells ((f :: fs).map Fd.g) = (Fd.g f).cells ++ gdCells (fs.map Fd.g) := rfl
    have e2 : fdCells (f :: fs) = f.cells ++ fdCells fs := rfl
    rw [e1, e2, ih]; rfl
theorem rowG_at {W : World} {g : Nat} {fs : List Fd} (h : RowAt W g fs) : RowG W g (fs.map Fd.g) := by
  refine ⟨h.1, fun i hi => ?_⟩
  have hi' : i < fs.length := by simpa using hi
  rw [List.getElem_map]
  exact h.2 i hi'
theorem lastCells_fd (fs : List Fd) : ∃ f : Fd, lastCells fs = #[.int .i64 f.num, .int .i64 f.kind, .int .u64 f.n, .string ⟨f.s.toArray⟩] := by
  unfold lastCells; split
  · exact ⟨⟨0, 0, 0, []⟩, rfl⟩
  · exact ⟨_, rfl⟩

theorem parse_l (t : ByteArray) (b : Addr) (w : World) (hs : t.size ≤ 1099511627776) (hg : Gv b w) (fs : List Fd) (n : Nat) (o : Bool) (hn : fs.length = n) (hf : (parse t.data.toList).getD [] = fs) (ho : (parse t.data.toList).isSome = o) :
    Calls Tryd.prog 24 #[.string t] w fun e w' => (∃ a0 g cap, e = .returned (.tuple #[.slice a0 n cap, .bool o]) ∧ (0 < n → a0 = some ⟨g, 0, none⟩) ∧ RowAt w' g fs) ∧ Below w.heap.size w w' := by
  refine (parse_any t b w hs hg).mono ?_
  cases hp : parse t.data.toList with
  | none =>
    rw [hp] at hf ho
    simp only [Option.getD_none, Option.isSome_none] at hf ho
    subst hf ho hn
    rintro e w' ⟨rfl, hb⟩
    exact ⟨⟨none, 0, 0, rfl, fun h => absurd h (by simp), Nat.lt_of_lt_of_le hg.2 hb.size, fun i h => absurd h (by simp)⟩, hb⟩
  | some fs' =>
    rw [hp] at hf ho
    simp only [Option.getD_some, Option.isSome_some] at hf ho
    subst hf ho
    rintro e w' ⟨⟨v, rfl, hrow⟩, hb⟩
    subst hn
    obtain ⟨a0, g, c, rfl, h1, h2⟩ := list_of hrow rfl (Nat.lt_of_lt_of_le hg.2 hb.size)
    exact ⟨⟨a0, g, c, rfl, h1, h2⟩, hb⟩
theorem refParse_l (t : ByteArray) (w : World) (hs : t.size ≤ 1099511627776) (h0 : 0 < w.heap.size) (fs : List Fd) (n : Nat) (o : Bool) (hn : fs.length = n) (hf : (parse t.data.toList).getD [] = fs) (ho : (parse t.data.toList).isSome = o) :
    Calls Tryd.prog 25 #[.string t] w fun e w' => (∃ a0 g cap, e = .returned (.tuple #[.slice a0 n cap, .bool o]) ∧ (0 < n → a0 = some ⟨g, 0, none⟩) ∧ RowAt w' g fs) ∧ Below w.heap.size w w' := by
  refine (refParse_any t w hs).mono ?_
  cases hp : parse t.data.toList with
  | none =>
    rw [hp] at hf ho
    simp only [Option.getD_none, Option.isSome_none] at hf ho
    subst hf ho hn
    rintro e w' ⟨rfl, hb⟩
    exact ⟨⟨none, 0, 0, rfl, fun h => absurd h (by simp), Nat.lt_of_lt_of_le h0 hb.size, fun i h => absurd h (by simp)⟩, hb⟩
  | some fs' =>
    rw [hp] at hf ho
    simp only [Option.getD_some, Option.isSome_some] at hf ho
    subst hf ho
    rintro e w' ⟨⟨v, rfl, hrow⟩, hb⟩
    subst hn
    obtain ⟨a0, g, c, rfl, h1, h2⟩ := list_of hrow rfl (Nat.lt_of_lt_of_le h0 hb.size)
    exact ⟨⟨a0, g, c, rfl, h1, h2⟩, hb⟩

theorem ref_l (a0 : Option Addr) (L cap g : Nat) (fs : List Fd) (w : World) (hL : fs.length = L) (ha : 0 < L → a0 = some ⟨g, 0, none⟩) (hr : RowAt w g fs) (hLb : L ≤ 1099511627776) :
    Calls Tryd.prog 18 #[.slice a0 L cap] w fun e w' => (∃ a1 g1 c1, e = .returned (.slice a1 L c1) ∧ (0 < L → a1 = some ⟨g1, 0, none⟩) ∧ RowAt w' g1 fs) ∧ Below w.heap.size w w' := by
  refine (ref_any a0 L cap g (fs.map Fd.g) w (by rw [List.length_map]; exact hL) ha (rowG_at hr) hLb).mono ?_
  rintro e w' ⟨⟨v, rfl, hv⟩, hb⟩
  rw [gdCells_map] at hv
  obtain ⟨a1, g1, c1, rfl, h1, h2⟩ := list_of hv hL (Nat.lt_of_lt_of_le (Nat.zero_lt_of_lt hr.1) hb.size)
  exact ⟨⟨a1, g1, c1, rfl, h1, h2⟩, hb⟩
theorem all_l (a0 : Option Addr) (L cap g : Nat) (fs Q : List Fd) (q : Nat) (num : Int) (w : World) (hL : fs.length = L) (ha : 0 < L → a0 = some ⟨g, 0, none⟩) (hr : RowAt w g fs) (hLb : L ≤ 1099511627776) (hQ : withL num fs = Q) (hq : Q.length = q) :
    Calls Tryd.prog 29 #[.slice a0 L cap, .int .i64 num] w fun e w' => (∃ a1 g1 c1, e = .returned (.slice a1 q c1) ∧ (0 < q → a1 = some ⟨g1, 0, none⟩) ∧ RowAt w' g1 Q) ∧ Below w.heap.size w w' := by
  refine (callsIn_wide.1 (all0_in g cap L a0 ha num fs hL hLb w hr)).mono ?_
  rw [hQ, hq]
  rintro e w' ⟨⟨v, rfl, hv⟩, hb⟩
  obtain ⟨a1, g1, c1, rfl, h1, h2⟩ := list_of hv hq (Nat.lt_of_lt_of_le (Nat.zero_lt_of_lt hr.1) hb.size)
  exact ⟨⟨a1, g1, c1, rfl, h1, h2⟩, hb⟩
theorem refAll_l (a0 : Option Addr) (L cap g : Nat) (fs Q : List Fd) (q : Nat) (num : Int) (w : World) (hL : fs.length = L) (ha : 0 < L → a0 = some ⟨g, 0, none⟩) (hr : RowAt w g fs) (hLb : L ≤ 1099511627776) (hQ : withL num fs = Q) (hq : Q.length = q) :
    Calls Tryd.prog 30 #[.slice a0 L cap, .int .i64 num] w fun e w' => (∃ a1 g1 c1, e = .returned (.slice a1 q c1) ∧ (0 < q → a1 = some ⟨g1, 0, none⟩) ∧ RowAt w' g1 Q) ∧ Below w.heap.size w w' := by
  refine (refAll_any a0 L cap g fs num w hL ha hr hLb).mono ?_
  rw [hQ, hq]
  rintro e w' ⟨⟨v, rfl, hv⟩, hb⟩
  obtain ⟨a1, g1, c1, rfl, h1, h2⟩ := list_of hv hq (Nat.lt_of_lt_of_le (Nat.zero_lt_of_lt hr.1) hb.size)
  exact ⟨⟨a1, g1, c1, rfl, h1, h2⟩, hb⟩
theorem last_l (a0 : Option Addr) (L cap g : Nat) (fs Q : List Fd) (f : Fd) (o : Bool) (num : Int) (w : World) (hL : fs.length = L) (ha : 0 < L → a0 = some ⟨g, 0, none⟩) (hr : RowAt w g fs) (hLb : L ≤ 1099511627776) (hQ : withL num fs = Q)
    (hf : lastCells Q = #[.int .i64 f.num, .int .i64 f.kind, .int .u64 f.n, .string ⟨f.s.toArray⟩]) (ho : (!Q.isEmpty) = o) :
    Calls Tryd.prog 27 #[.slice a0 L cap, .int .i64 num] w fun e w' => e = .returned (.tuple #[.agg #[.int .i64 f.num, .int .i64 f.kind, .int .u64 f.n, .string ⟨f.s.toArray⟩], .bool o]) ∧ Below w.heap.size w w' := by
  have h := callsIn_wide.1 (last0_in g cap L a0 ha num fs hL hLb w hr)
  rw [hQ, hf, ho] at h
  exact h
theorem refLast_l (a0 : Option Addr) (L cap g : Nat) (fs Q : List Fd) (f : Fd) (o : Bool) (num : Int) (w : World) (hL : fs.length = L) (ha : 0 < L → a0 = some ⟨g, 0, none⟩) (hr : RowAt w g fs) (hLb : L ≤ 1099511627776) (hQ : withL num fs = Q)
    (hf : lastCells Q = #[.int .i64 f.num, .int .i64 f.kind, .int .u64 f.n, .string ⟨f.s.toArray⟩]) (ho : (!Q.isEmpty) = o) :
    Calls Tryd.prog 28 #[.slice a0 L cap, .int .i64 num] w fun e w' => e = .returned (.tuple #[.agg #[.int .i64 f.num, .int .i64 f.kind, .int .u64 f.n, .string ⟨f.s.toArray⟩], .bool o]) ∧ Below w.heap.size w w' := by
  have h := refLast_any a0 L cap g fs num w hL ha hr hLb
  rw [hQ, hf, ho] at h
  exact h
end Go.Proofs.YtkehanpgaahmlaaDoor
