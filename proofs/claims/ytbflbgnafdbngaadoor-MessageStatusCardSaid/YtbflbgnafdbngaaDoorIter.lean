/- fieldsOf: the iterator's contract. -/
import Derived.Test.YtbflbgnafdbngaaDoorRfY
import Derived.Test.YtbflbgnafdbngaaDoorRfZ
import Derived.RangeFuncNested
import Derived.RangeFuncBound
import Derived.RangeFuncCalls
import Derived.RangeFuncLeaves
import Derived.Shelf.Abstract
import Derived.Shelf.RegionOpen
import Derived.OwnWalkIn
import Derived.TacticsInMore
import Derived.LoopNIn
import Derived.LoopIn
namespace Go.Proofs.YtbflbgnafdbngaaDoor
open Go.RowKit Go.Shelf
attribute [local go_sem] Oper.semAt_some

theorem readField_any (s : ByteArray) (b : Addr) (w : World) (hs : s.size ≤ 140737488355328) (hg : Gv b w) :
    Calls Tryd.prog 72 #[.string s] w fun e w' => RfPost b (fieldOf s.data.toList) w e w' := by
  cases ht : tagOf s.data.toList with
  | none => exact readField_tag s b w hs hg ht
  | some p =>
    obtain ⟨t, k⟩ := p
    have hk : t % 8 = 0 ∨ t % 8 = 1 ∨ t % 8 = 2 ∨ t % 8 = 5 := by
      unfold tagOf at ht
      split at ht
      · simp at ht
      · split at ht
        · rename_i h
          simp at ht
          obtain ⟨rfl, rfl⟩ := ht
          have := kindB_cases h.2.2
          omega
        · simp at ht
    rcases hk with hk | hk | hk | hk
    · cases hr : rd (s.data.toList.drop k) with
      | none => exact readField_num0 s b w hs hg t k ht hk hr
      | some q => exact readField_yes0 s b w hs hg t k ht hk q.1 q.2 hr
    · by_cases hl : k + 8 ≤ s.size
      · exact readField_yes1 s b w hs hg t k ht hk hl
      · exact readField_short1 s b w hs hg t k ht hk (by omega)
    · cases hr : rd (s.data.toList.drop k) with
      | none => exact readField_num2 s b w hs hg t k ht hk hr
      | some q =>
        by_cases hl : k + q.2 + q.1 ≤ s.size
        · exact readField_yes2 s b w hs hg t k ht hk q.1 q.2 hr hl
        · exact readField_short2 s b w hs hg t k ht hk q.1 q.2 hr (by omega)
    · by_cases hl : k + 4 ≤ s.size
      · exact readField_yes5 s b w hs hg t k ht hk hl
      · exact readField_short5 s b w hs hg t k ht hk (by omega)

theorem fieldOf_size {l : List UInt8} {f : Fd} {k : Nat} (h : fieldOf l = some (f, k)) : 0 < k ∧ k ≤ l.length := by
  unfold fieldOf at h
  split at h
  · simp at h
  rename_i t k' ht
  have h1 := tagOf_size ht
  split at h
  · split at h
    · rename_i hle
      simp only [Option.some.injEq, Prod.mk.injEq] at h
      obtain ⟨_, rfl⟩ := h
      omega
    · simp at h
  · split at h
    · simp at h
    · rename_i v m hr
      have h2 := rd_size hr
      simp at h2
      split at h
      · simp at h; omega
      · split at h
        · simp at h; omega
        · simp at h

/-- The fields of which l is made. -/
def parseF : Nat → List UInt8 → Option (List Fd)
  | _, [] => some []
  | 0, _ :: _ => none
  | f + 1, b :: l => match fieldOf (b :: l) with
    | none => none
    | some (x, k) => (parseF f ((b :: l).drop k)).map (x :: ·)
def parse (l : List UInt8) : Option (List Fd) := parseF l.length l

theorem parseF_more : ∀ (f : Nat) (l : List UInt8), l.length ≤ f → parseF f l = parseF l.length l
  | f, [], _ => by cases f <;> rfl
  | 0, b :: l, h => by simp at h
  | f + 1, b :: l, h => by
    simp only [List.length_cons] at h ⊢
    unfold parseF
    split
    · rfl
    · rename_i x k hx
      have hk := fieldOf_size hx
      simp only [List.length_cons] at hk
      rw [parseF_more f _ (by simp; omega), parseF_more l.length ((b :: l).drop k) (by simp; omega)]

theorem parse_nil : parse [] = some [] := rfl
theorem parse_none {l : List UInt8} (h : fieldOf l = none) (hl : 0 < l.length) : parse l = none := by
  cases l with
  | nil => simp at hl
  | cons b l => simp [parse, parseF, h]
theorem parse_some {l : List UInt8} {x : Fd} {k : Nat} (h : fieldOf l = some (x, k)) : parse l = (parse (l.drop k)).map (x :: ·) := by
  have hk := fieldOf_size h
  cases l with
  | nil => simp at hk; omega
  | cons b l =>
    show parseF (l.length + 1) (b :: l) = _
    unfold parseF
    rw [h]
    simp only
    rw [parseF_more l.length _ (by simp only [List.length_drop, List.length_cons]; omega)]
    rfl

/-- What the iterator hands over: a field; or that something is wrong. -/
abbrev Ev := Fd ⊕ (Int × Int × Option Int)
def evArgs (b : Addr) : Ev → Array Value
  | .inl f => #[f.v, .nilIface]
  | .inr (i, j, none) => #[fdV 0 0 0 ⟨#[]⟩, flt2 b i j]
  | .inr (i, j, some k) => #[fdV 0 0 0 ⟨#[]⟩, .iface 145 (.agg #[.int .i64 i, flt2 b j k])]
theorem evArgs_size (b : Addr) (x : Ev) : (evArgs b x).size = 2 := by rcases x with f | ⟨i, j, _ | k⟩ <;> rfl

/-- What a round keeps for the iterator. -/
def KpB (B : Nat) (W W' : World) : Prop := W.heap.size ≤ W'.heap.size ∧ W'.heap[B]? = W.heap[B]? ∧ (1 < W.heap.size → W'.heap[1]? = W.heap[1]?)
theorem KpB.trans {B : Nat} {X Y Z : World} (h : KpB B X Y) (k : KpB B Y Z) : KpB B X Z := ⟨Nat.le_trans h.1 k.1, k.2.1.trans h.2.1, fun hE => (k.2.2 (Nat.lt_of_lt_of_le hE h.1)).trans (h.2.2 hE)⟩
theorem KpB.of_below {B : Nat} {W W' : World} (hB : B < W.heap.size) (h : Below W.heap.size W W') : KpB B W W' := ⟨h.size, h.block B hB, fun hE => h.block 1 hE⟩
theorem KpB.cell {B : Nat} {W W' : World} (h : KpB B W W') (o : Nat) : W'.cell? ⟨B, o, none⟩ = W.cell? ⟨B, o, none⟩ := World.cell?_of_block h.2.1
theorem KpB.gv {B : Nat} {W W' : World} {b : Addr} (h : KpB B W W') (hg : Gv b W) : Gv b W' := ⟨(World.cell?_of_block (a := ⟨1, 0, none⟩) (h.2.2 hg.2)).trans hg.1, Nat.lt_of_lt_of_le hg.2 h.1⟩

theorem grown_of_below {W W' : World} (h : Below W.heap.size W W') : W.grownBy W' none := ⟨h.os, h.tape, h.output, h.size, fun k hk _ => h.block k hk⟩

/-- All has come. -/
def SAll (l : List UInt8) (xs : List Ev) : Prop := (∃ fs, parse l = some fs ∧ xs = fs.map Sum.inl) ∨ (parse l = none ∧ ∃ ys e, xs = ys ++ [Sum.inr e])
/-- A part has come. -/
def SPart (l : List UInt8) (pre : List Ev) : Prop := (∃ ys e, pre = ys ++ [Sum.inr e]) → parse l = none
/-- k bytes have been read: fs. -/
def PRel (l : List UInt8) (k : Nat) (fs : List Fd) : Prop := parse l = (parse (l.drop k)).map (fs ++ ·) ∧ fs.length ≤ k
theorem PRel.start (l : List UInt8) : PRel l 0 [] := ⟨by simp, by simp⟩
theorem PRel.done {l : List UInt8} {k : Nat} {fs : List Fd} (h : PRel l k fs) (hk : l.length ≤ k) : parse l = some fs := by
  rw [h.1, List.drop_of_length_le hk, parse_nil]; simp
theorem PRel.bad {l : List UInt8} {k : Nat} {fs : List Fd} (h : PRel l k fs) (hk : k < l.length) (hf : fieldOf (l.drop k) = none) : parse l = none := by
  rw [h.1, parse_none hf (by simp; omega)]; rfl
theorem PRel.step {l : List UInt8} {k m : Nat} {fs : List Fd} {x : Fd} (h : PRel l k fs) (hf : fieldOf (l.drop k) = some (x, m)) : PRel l (k + m) (fs ++ [x]) := by
  have := fieldOf_size hf
  refine ⟨?_, by have := h.2; simp; omega⟩
  rw [h.1, parse_some hf, List.drop_drop]
  cases parse (List.drop (k + m) l) <;> simp
end Go.Proofs.YtbflbgnafdbngaaDoor
