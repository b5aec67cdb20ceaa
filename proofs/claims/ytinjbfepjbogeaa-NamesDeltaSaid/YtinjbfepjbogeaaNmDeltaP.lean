/- NamesDelta: plainly; a map of names. -/
import Derived.Test.YtinjbfepjbogeaaNmEx
import Derived.Test.YtinjbfepjbogeaaNmUnionP
import Derived.Test.YtinjbfepjbogeaaStrMap
namespace Go.Proofs.Ytinjbfepjbogeaa
open Go.RowKit Go.Lib

theorem Blk.set2 {W : World} {B R : Nat} {c : Array Value} {t : TypeId} (h : Blk W B c t) (hR : B ≠ R) (u0 u1 : Value) : Blk ((W.setCell ⟨R, 0, none⟩ u0).setCell ⟨R, 1, none⟩ u1) B c t :=
  (heap_setCell_other _ _ _ _ (by simpa using hR)).trans ((heap_setCell_other _ _ _ _ (by simpa using hR)).trans h)
def tab4 : List (List UInt8) := [[97], [98], [99], [42]]
def tab3 : List (List UInt8) := [[97], [98], [99]]
def tab4V : Array Value := #[.string ⟨#[97]⟩, .string ⟨#[98]⟩, .string ⟨#[99]⟩, .string ⟨#[42]⟩]
theorem tab4_cell (κ : Nat) (h : κ < 4) : tab4V[κ]? = some (encStr (tab4.getD κ [])) := by
  match κ with
  | 0 | 1 | 2 | 3 => rfl
  | κ + 4 => omega
def updT (T : List UInt8 → Bool) (n : List UInt8) (b : Bool) : List UInt8 → Bool := fun x => if x = n then b else T x
/-- The set of those that are there. -/
def cS (T : List UInt8 → Bool) : Ns := ⟨T [42], tab3.filter T⟩
theorem tab3_rises : Rises tab3 := by unfold Rises tab3; decide
theorem cs_rises (T : List UInt8 → Bool) : Rises (cS T).ns := List.Pairwise.sublist List.filter_sublist tab3_rises
theorem cs_mem (T : List UInt8 → Bool) (x : List UInt8) : x ∈ (cS T).ns ↔ x ∈ tab3 ∧ T x = true := List.mem_filter
theorem star_tab3 : ([42] : List UInt8) ∉ tab3 := by unfold tab3; decide
theorem of_one {n : List UInt8} (h : n ∈ tab4) : (nOf okN [n]).all = decide (n = [42]) ∧ ∀ x, x ∈ (nOf okN [n]).ns ↔ x = n ∧ n ∈ tab3 := by
  have h3 : ∀ n ∈ tab3, okN n = true := by unfold tab3; decide
  have hs : okN [42] = false := by decide
  refine ⟨?_, fun x => ?_⟩
  · show [n].contains starB' = _
    unfold starB'
    by_cases e : n = [42]
    · subst e; decide
    · have : ¬ ([42] : List UInt8) = n := fun h => e h.symm
      simp [e, this]
  · rw [mem_of, List.mem_singleton]
    constructor
    · rintro ⟨rfl, hk⟩
      refine ⟨rfl, ?_⟩
      have : x ∈ tab3 ∨ x = [42] := by
        unfold tab4 at h; unfold tab3
        simp only [List.mem_cons, List.not_mem_nil, or_false] at h ⊢
        rcases h with h | h | h | h <;> simp [h]
      rcases this with h | rfl
      · exact h
      · rw [hs] at hk; cases hk
    · rintro ⟨rfl, h⟩
      exact ⟨rfl, h3 _ h⟩
theorem cs_add (T : List UInt8 → Bool) {n : List UInt8} (h : n ∈ tab4) : nUnion [cS T, nOf okN [n]] = cS (updT T n true) := by
  obtain ⟨h1, h2⟩ := of_one h
  refine ns_eq ?_ (rises_eq (nUnion_ok _) (cs_rises _) fun x => ?_)
  · show (List.any [cS T, nOf okN [n]] (·.all)) = _
    simp only [List.any_cons, List.any_nil, Bool.or_false, h1]
    show (T [42] || decide (n = [42])) = updT T n true [42]
    unfold updT
    by_cases e : [42] = n
    · subst e; simp
    · rw [if_neg e, decide_eq_false (fun e' => e e'.symm), Bool.or_false]
  · rw [mem_union2, cs_mem, cs_mem, h2]
    unfold updT
    by_cases e : x = n
    · subst e; simp only [true_and, if_true, and_true]
      exact ⟨fun h => h.elim (fun h => h.1) id, .inr⟩
    · rw [if_neg e]; simp [e]
theorem cs_drop (T : List UInt8 → Bool) {n : List UInt8} (h : n ∈ tab4) : nLess (cS T) (nOf okN [n]) = cS (updT T n false) := by
  obtain ⟨h1, h2⟩ := of_one h
  refine ns_eq ?_ (rises_eq (nLess_ok _ _) (cs_rises _) fun x => ?_)
  · show ((cS T).all && !(nOf okN [n]).all) = _
    rw [h1]
    show (T [42] && !decide (n = [42])) = updT T n false [42]
    unfold updT
    by_cases e : [42] = n
    · subst e; simp
    · rw [if_neg e, decide_eq_false (fun e' => e e'.symm)]; simp
  · rw [mem_less, cs_mem, cs_mem, h2]
    unfold updT
    by_cases e : x = n
    · subst e; simp only [true_and, if_true]
      exact ⟨fun h => absurd h.1.1 h.2, fun h => by simp at h⟩
    · rw [if_neg e]; simp [e]
theorem cs_list (T : List UInt8 → Bool) : nOf okN (tab4.filter T) = cS T := by
  have h3 : ∀ n ∈ tab3, okN n = true := by unfold tab3; decide
  have hs : okN [42] = false := by decide
  refine ns_eq ?_ (rises_eq (nOf_ok _ _) (cs_rises _) fun x => ?_)
  · show (tab4.filter T).contains starB' = T [42]
    rw [Bool.eq_iff_iff, List.contains_iff_mem, List.mem_filter]
    unfold starB'
    exact ⟨fun h => h.2, fun h => ⟨by unfold tab4; decide, h⟩⟩
  · rw [mem_of, cs_mem, List.mem_filter]
    constructor
    · rintro ⟨⟨h, ht⟩, hk⟩
      refine ⟨?_, ht⟩
      unfold tab4 at h; unfold tab3
      simp only [List.mem_cons, List.not_mem_nil, or_false] at h ⊢
      rcases h with h | h | h | h
      · exact .inl h
      · exact .inr (.inl h)
      · exact .inr (.inr h)
      · subst h; rw [hs] at hk; cases hk
    · rintro ⟨h, ht⟩
      refine ⟨⟨?_, ht⟩, h3 x h⟩
      unfold tab3 at h; unfold tab4
      simp only [List.mem_cons, List.not_mem_nil, or_false] at h ⊢
      rcases h with h | h | h <;> simp [h]
theorem cs_fit (T : List UInt8 → Bool) : NmFit (cS T).ns ∧ (cS T).ns.length ≤ 3 := by
  have hl : (cS T).ns.length ≤ 3 := List.length_filter_le T tab3
  refine ⟨⟨fun s hs => ?_, by omega⟩, hl⟩
  have h1 := ((cs_mem T s).1 hs).1
  have h3 : ∀ n ∈ tab3, n.length ≤ 1 := by unfold tab3; decide
  have := h3 s h1
  unfold maxLen; omega
theorem one_fit {n : List UInt8} (h : n ∈ tab4) : NmFit [n] := by
  have h3 : ∀ n ∈ tab4, n.length ≤ 1 := by unfold tab4; decide
  have := h3 n h
  exact ⟨fun s hs => by obtain rfl := List.mem_singleton.1 hs; unfold maxLen; omega, by show 1 * 16 ≤ _; omega⟩
theorem cs_has {T : List UInt8 → Bool} {n : List UInt8} (h : n ∈ tab3) : nHas okN (cS T) n = (T n || T [42]) := by
  have h3 : ∀ n ∈ tab3, okN n = true := by unfold tab3; decide
  unfold nHas
  have e : (cS T).ns.contains n = T n := by
    rw [Bool.eq_iff_iff, List.contains_iff_mem, cs_mem]
    exact ⟨fun x => x.2, fun x => ⟨h, x⟩⟩
  rw [h3 n h, e]
  show (true && (T [42] || T n)) = _
  rw [Bool.true_and, Bool.or_comm]
theorem cs_zz {T : List UInt8 → Bool} : nHas okN (cS T) [122, 122] = T [42] := by
  have h3 : okN [122, 122] = true := by decide
  unfold nHas
  have e : (cS T).ns.contains [122, 122] = false := by
    rw [Bool.eq_false_iff]
    intro h
    rw [List.contains_iff_mem, cs_mem] at h
    exact absurd h.1 (by unfold tab3; decide)
  rw [h3, e]
  show (true && (T [42] || false)) = _
  simp

/-- A map that tells of names whether they are there. -/
def MapAt (w : World) (m : Nat) (T : List UInt8 → Bool) : Prop := ∃ C, StrMap w m C ∧ ∀ s, (C s).getD (.bool false) = .bool (T s)
theorem MapAt.lt {w : World} {m : Nat} {T : List UInt8 → Bool} (h : MapAt w m T) : m < w.heap.size := by obtain ⟨C, h, _⟩ := h; exact h.lt
theorem MapAt.later {w w' : World} {m : Nat} {T : List UInt8 → Bool} (h : MapAt w m T) (hb : Below w.heap.size w w') : MapAt w' m T := by
  obtain ⟨C, h, e⟩ := h
  exact ⟨C, h.below hb h.lt, e⟩
theorem zeroB (w : World) : (zeroValue 4).run Try.prog w = .ok (.bool false) w := by kernel_rfl
theorem MapAt.look {w : World} {m : Nat} {T : List UInt8 → Bool} (h : MapAt w m T) (s : List UInt8) (hs : s.length ≤ maxLen) : (Instr.lookup 56 (.map (some m)) (.string ⟨s.toArray⟩) false).run Try.prog w = .ok (.bool (T s)) w := by
  obtain ⟨C, h, e⟩ := h
  have := h.lookup Try.underlying9 Try.underlying56 (zeroB w) (s := s) hs false
  simp only [Bool.false_eq_true, if_false] at this
  rw [e s] at this
  exact this
theorem MapAt.upd {w : World} {m : Nat} {T : List UInt8 → Bool} (h : MapAt w m T) (s : List UInt8) (hs : s.length ≤ maxLen) (b : Bool) :
    ∃ w', (Instr.mapUpdate 56 (.map (some m)) (.string ⟨s.toArray⟩) (.bool b)).run Try.prog w = .ok () w' ∧ MapAt w' m (updT T s b) ∧ w.grownBy w' (some m) := by
  obtain ⟨C, h, e⟩ := h
  obtain ⟨w', h1, h2, h3⟩ := h.update Try.underlying9 Try.underlying56 (s := s) hs (.bool b)
  refine ⟨w', h1, ⟨_, h2, fun x => ?_⟩, h3⟩
  unfold setKey updT
  by_cases hx : x = s
  · rw [if_pos hx, if_pos hx]; rfl
  · rw [if_neg hx, if_neg hx]; exact e x
theorem map_set {w : World} {m : Nat} {T : List UInt8 → Bool} (h : MapAt w m T) {R : Nat} (hR : m ≠ R) (u0 u1 : Value) : MapAt ((w.setCell ⟨R, 0, none⟩ u0).setCell ⟨R, 1, none⟩ u1) m T := by
  obtain ⟨C, ⟨es, clock, hb, hr⟩, e⟩ := h
  exact ⟨C, ⟨es, clock, (heap_setCell_other _ _ _ _ (by simpa using hR)).trans ((heap_setCell_other _ _ _ _ (by simpa using hR)).trans hb), hr⟩, e⟩
theorem map_new (w : World) : MapAt (w.alloc (.map #[] 0)) w.heap.size (fun _ => false) := ⟨_, strMap_new w, fun _ => rfl⟩
theorem MapAt.look' {w : World} {m : Nat} {T : List UInt8 → Bool} (h : MapAt w m T) {s : List UInt8} (hs : s.length ≤ 3) {b : Bool} (hb : T s = b) : (Instr.lookup 56 (.map (some m)) (.string ⟨s.toArray⟩) false).run Try.prog w = .ok (.bool b) w := by
  rw [← hb]; exact h.look s (by unfold maxLen; omega)
theorem TsAt.grown_map {w w' : World} {v : Value} {l : List (List UInt8)} {m : Nat} {T : List UInt8 → Bool} (h : TsAt w v l) (hm : MapAt w m T) (hg : w.grownBy w' (some m)) : TsAt w' v l := by
  obtain ⟨C, ⟨es, clock, hb, _⟩, _⟩ := hm
  obtain ⟨a, c, e, h1, h2, h3⟩ := h
  refine ⟨a, c, e, h1, h2, fun j u hj => ?_⟩
  obtain ⟨b, off, e', hl, hc⟩ := h3 j u hj
  have hbm : b ≠ m := by
    rintro rfl
    simp [World.cell?, hb] at hc
  refine ⟨b, off, e', Nat.lt_of_lt_of_le hl hg.size, ?_⟩
  have := hg.block b hl (fun e => hbm (Option.some.inj e))
  simp only [World.cell?, this] at hc ⊢
  exact hc
theorem filt_next {T : List UInt8 → Bool} {l : List (List UInt8)} {j : Nat} {x : List UInt8} (h : l[j]? = some x) : (l.take (j + 1)).filter T = (l.take j).filter T ++ (if T x = true then [x] else []) := filt_take T h
end Go.Proofs.Ytinjbfepjbogeaa
