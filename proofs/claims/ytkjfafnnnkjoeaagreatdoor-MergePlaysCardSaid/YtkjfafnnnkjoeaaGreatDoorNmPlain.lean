/- names: sets of names, without a program. -/
import Derived.Lib.SlicesCompact
namespace Go.Proofs.YtkjfafnnnkjoeaaGreatDoor
open Go.Lib

/-- A list of names that rises. -/
def Rises (l : List (List UInt8)) : Prop := l.Pairwise (· < ·)
theorem rises_eq : ∀ {a b : List (List UInt8)}, Rises a → Rises b → (∀ x, x ∈ a ↔ x ∈ b) → a = b
  | [], [], _, _, _ => rfl
  | [], y :: b, _, _, h => absurd ((h y).2 (by simp)) (by simp)
  | x :: a, [], _, _, h => absurd ((h x).1 (by simp)) (by simp)
  | x :: a, y :: b, ha, hb, h => by
    obtain ⟨hx, ha'⟩ := List.pairwise_cons.1 ha
    obtain ⟨hy, hb'⟩ := List.pairwise_cons.1 hb
    have exy : x = y := by
      rcases List.mem_cons.1 ((h x).1 (by simp)) with e | e
      · exact e
      · rcases List.mem_cons.1 ((h y).2 (by simp)) with e' | e'
        · exact e'.symm
        · exact absurd (List.lt_trans (hx y e') (hy x e)) (List.lt_irrefl _)
    subst exy
    congr 1
    refine rises_eq ha' hb' fun z => ⟨fun hz => ?_, fun hz => ?_⟩
    · rcases List.mem_cons.1 ((h z).1 (List.mem_cons_of_mem _ hz)) with e | e
      · subst e; exact absurd (hx _ hz) (List.lt_irrefl _)
      · exact e
    · rcases List.mem_cons.1 ((h z).2 (List.mem_cons_of_mem _ hz)) with e | e
      · subst e; exact absurd (hy _ hz) (List.lt_irrefl _)
      · exact e

theorem upTo_mem (d : Array (List UInt8)) (x : List UInt8) : ∀ m, x ∈ compactUpTo d m ↔ ∃ j, j < m ∧ d[j]! = x
  | 0 => by simp [compactUpTo]
  | m + 1 => by
    rw [compactUpTo_succ, List.mem_append, upTo_mem d x m]
    by_cases hk : keeps d m = true
    · rw [if_pos hk]
      constructor
      · rintro (⟨j, hj, e⟩ | h)
        · exact ⟨j, by omega, e⟩
        · exact ⟨m, by omega, (List.mem_singleton.1 h).symm⟩
      · rintro ⟨j, hj, e⟩
        by_cases hjm : j = m
        · subst hjm; exact .inr (List.mem_singleton.2 e.symm)
        · exact .inl ⟨j, by omega, e⟩
    · rw [if_neg hk]
      have hkf : keeps d m = false := by simpa using hk
      unfold keeps at hkf
      have hkf' := of_decide_eq_false hkf
      have h0 : m ≠ 0 := fun e => hkf' (.inl e)
      have he : d[m]! = d[m - 1]! := Classical.not_not.1 fun e => hkf' (.inr e)
      constructor
      · rintro (⟨j, hj, e⟩ | h)
        · exact ⟨j, by omega, e⟩
        · exact absurd h (by simp)
      · rintro ⟨j, hj, e⟩
        by_cases hjm : j = m
        · subst hjm; exact .inl ⟨j - 1, by omega, he.symm.trans e⟩
        · exact .inl ⟨j, by omega, e⟩
theorem lt_of_le_ne {a b : List UInt8} (h1 : a ≤ b) (h2 : a ≠ b) : a < b := by
  rcases Classical.em (a < b) with h | h
  · exact h
  · exact absurd (List.le_antisymm h1 (List.not_lt.1 h)) h2
theorem lt_of_le_lt {a b c : List UInt8} (h1 : a ≤ b) (h2 : b < c) : a < c := by
  by_cases e : a = b
  · subst e; exact h2
  · exact List.lt_trans (lt_of_le_ne h1 e) h2
theorem upTo_rises (d : Array (List UInt8)) (hd : ∀ i j, i ≤ j → j < d.size → d[i]! ≤ d[j]!) : ∀ m, m ≤ d.size → Rises (compactUpTo d m)
  | 0, _ => by simp [compactUpTo, Rises]
  | m + 1, hm => by
    have ih := upTo_rises d hd m (by omega)
    rw [compactUpTo_succ]
    by_cases hk : keeps d m = true
    · rw [if_pos hk]
      refine List.pairwise_append.2 ⟨ih, List.pairwise_singleton _ _, fun x hx y hy => ?_⟩
      obtain rfl := List.mem_singleton.1 hy
      obtain ⟨j, hj, rfl⟩ := (upTo_mem d x m).1 hx
      unfold keeps at hk
      rcases of_decide_eq_true hk with e | e
      · omega
      · exact lt_of_le_lt (hd j (m - 1) (by omega) (by omega)) (lt_of_le_ne (hd (m - 1) m (by omega) (by omega)) (fun h => e h.symm))
    · rw [if_neg hk, List.append_nil]; exact ih

/-- A list of names, sorted, each once. -/
def srt (l : List (List UInt8)) : List (List UInt8) := compact (l.mergeSort fun x y => decide (x ≤ y))
theorem sorted_le (l : List (List UInt8)) : (l.mergeSort fun x y => decide (x ≤ y)).Pairwise fun x y => decide (x ≤ y) = true :=
  List.pairwise_mergeSort (le := fun x y => decide (x ≤ y)) (fun a b c h1 h2 => decide_eq_true (List.le_trans (of_decide_eq_true h1) (of_decide_eq_true h2))) (fun a b => by
    rcases List.le_total a b with h | h
    · show (decide (a ≤ b) || decide (b ≤ a)) = true
      rw [decide_eq_true h]; rfl
    · show (decide (a ≤ b) || decide (b ≤ a)) = true
      rw [decide_eq_true h, Bool.or_true]) l
theorem sorted_at (l : List (List UInt8)) : ∀ i j, i ≤ j → j < (l.mergeSort fun x y => decide (x ≤ y)).toArray.size → (l.mergeSort fun x y => decide (x ≤ y)).toArray[i]! ≤ (l.mergeSort fun x y => decide (x ≤ y)).toArray[j]! := by
  intro i j hij hj
  by_cases e : i = j
  · subst e; exact List.le_refl _
  · have h := List.pairwise_iff_getElem.1 (sorted_le l) i j (by simp at hj ⊢; omega) (by simpa using hj) (by omega)
    rw [getElem!_pos _ i (by simp at hj ⊢; omega), getElem!_pos _ j (by simpa using hj)]
    exact of_decide_eq_true h
theorem srt_rises (l : List (List UInt8)) : Rises (srt l) := by
  unfold srt compact
  exact upTo_rises _ (sorted_at l) _ (by simp)
theorem srt_mem (l : List (List UInt8)) (x : List UInt8) : x ∈ srt l ↔ x ∈ l := by
  have hp : x ∈ (l.mergeSort fun x y => decide (x ≤ y)) ↔ x ∈ l := List.mem_mergeSort
  unfold srt compact
  rw [upTo_mem, ← hp]
  constructor
  · rintro ⟨j, hj, e⟩
    rw [getElem!_pos _ j (by simpa using hj)] at e
    rw [← e]
    have : (l.mergeSort fun x y => decide (x ≤ y))[j] ∈ (l.mergeSort fun x y => decide (x ≤ y)) := List.getElem_mem hj
    simpa only [List.getElem_toArray] using this
  · intro hx
    obtain ⟨j, hj, e⟩ := List.getElem_of_mem hx
    refine ⟨j, hj, ?_⟩
    rw [getElem!_pos _ j (by simpa using hj)]
    simp only [List.getElem_toArray]; exact e
theorem srt_eq {a b : List (List UInt8)} (hb : Rises b) (h : ∀ x, x ∈ a ↔ x ∈ b) : srt a = b := rises_eq (srt_rises a) hb fun x => (srt_mem a x).trans (h x)
theorem srt_self {a : List (List UInt8)} (h : Rises a) : srt a = a := srt_eq h fun _ => Iff.rfl
theorem srt_len (l : List (List UInt8)) : (srt l).length ≤ l.length := by
  unfold srt compact compactUpTo
  rw [List.length_map]
  refine Nat.le_trans (List.length_filter_le _ _) ?_
  simp

/-- A set of names. -/
structure Ns where
  all : Bool
  ns : List (List UInt8)
def starB' : List UInt8 := [42]
section
variable (ok : List UInt8 → Bool)
def nOf (l : List (List UInt8)) : Ns := ⟨l.contains starB', srt (l.filter ok)⟩
def nHas (s : Ns) (x : List UInt8) : Bool := ok x && (s.all || s.ns.contains x)
end
def nEmpty (s : Ns) : Bool := !s.all && s.ns.isEmpty
def nList (s : Ns) : List (List UInt8) := (if s.all then [starB'] else []) ++ s.ns
def nUnion (l : List Ns) : Ns := ⟨l.any (·.all), srt (l.flatMap (·.ns))⟩
def nLess (a b : Ns) : Ns := ⟨a.all && !b.all, srt (a.ns.filter fun x => !b.ns.contains x)⟩
def nSame (a b : Ns) : Bool := a.all == b.all && decide (srt a.ns = srt b.ns)

theorem ns_eq {a b : Ns} (h1 : a.all = b.all) (h2 : a.ns = b.ns) : a = b := by cases a; cases b; simp_all
/-- A set in order. -/
def Ns.Ok (s : Ns) : Prop := Rises s.ns
theorem nSame_iff {a b : Ns} (ha : a.Ok) (hb : b.Ok) : nSame a b = true ↔ a = b := by
  unfold nSame
  rw [srt_self ha, srt_self hb]
  constructor
  · intro h
    rw [Bool.and_eq_true] at h
    exact ns_eq (by simpa using h.1) (of_decide_eq_true h.2)
  · rintro rfl
    simp
theorem nSame_self {a b : Ns} (h1 : a.all = b.all) (h2 : ∀ x, x ∈ a.ns ↔ x ∈ b.ns) : nSame a b = true := by
  unfold nSame
  have : srt a.ns = srt b.ns := srt_eq (srt_rises _) fun x => (h2 x).trans (srt_mem _ x).symm
  rw [this, h1]; simp
theorem nUnion_ok (l : List Ns) : (nUnion l).Ok := srt_rises _
theorem nLess_ok (a b : Ns) : (nLess a b).Ok := srt_rises _
theorem nOf_ok (ok : List UInt8 → Bool) (l : List (List UInt8)) : (nOf ok l).Ok := srt_rises _
theorem mem_of (ok : List UInt8 → Bool) (l : List (List UInt8)) (x : List UInt8) : x ∈ (nOf ok l).ns ↔ x ∈ l ∧ ok x = true := by
  show x ∈ srt _ ↔ _
  rw [srt_mem, List.mem_filter]
theorem mem_union2 (a b : Ns) (x : List UInt8) : x ∈ (nUnion [a, b]).ns ↔ x ∈ a.ns ∨ x ∈ b.ns := by
  show x ∈ srt _ ↔ _
  rw [srt_mem]; simp
theorem mem_less (a b : Ns) (x : List UInt8) : x ∈ (nLess a b).ns ↔ x ∈ a.ns ∧ x ∉ b.ns := by
  show x ∈ srt _ ↔ _
  rw [srt_mem, List.mem_filter]; simp
theorem mem_list (a : Ns) (x : List UInt8) : x ∈ nList a ↔ (a.all = true ∧ x = starB') ∨ x ∈ a.ns := by
  unfold nList
  rw [List.mem_append]
  cases a.all <;> simp
end Go.Proofs.YtkjfafnnnkjoeaaGreatDoor
