/- NamesLess: plainly. -/
import Derived.Test.YtdcfdcjgheijcaaGreatDoorNmUnionP
namespace Go.Proofs.YtdcfdcjgheijcaaGreatDoor
open Go.RowKit Go.Lib

theorem Blk.set2 {W : World} {B R : Nat} {c : Array Value} {t : TypeId} (h : Blk W B c t) (hR : B ≠ R) (u0 u1 : Value) : Blk ((W.setCell ⟨R, 0, none⟩ u0).setCell ⟨R, 1, none⟩ u1) B c t :=
  (heap_setCell_other _ _ _ _ (by simpa using hR)).trans ((heap_setCell_other _ _ _ _ (by simpa using hR)).trans h)
theorem small_less {aa ba sa : Bool} {al bl sl : List (List UInt8)} (ha : Small al) (h : nLess ⟨aa, al⟩ ⟨ba, bl⟩ = ⟨sa, sl⟩) : Small sl ∧ sl.length ≤ al.length := by
  have e : sl = srt (al.filter fun x => !bl.contains x) := (congrArg Ns.ns h).symm
  have h1 : sl.length ≤ al.length := by rw [e]; exact Nat.le_trans (srt_len _) (List.length_filter_le _ _)
  have h2 := ha.len
  refine ⟨⟨⟨fun s hs => ?_, by omega⟩, by rw [e]; exact srt_rises _, by omega⟩, h1⟩
  rw [e, srt_mem, List.mem_filter] at hs
  exact ha.fit.1 s hs.1
theorem list_fit {aa : Bool} {al L : List (List UInt8)} (ha : Small al) (h : nList ⟨aa, al⟩ = L) : NmFit L ∧ L.length ≤ al.length + 1 := by
  have h2 := ha.len
  have h1 : L.length ≤ al.length + 1 := by rw [← h]; unfold nList; rw [List.length_append]; cases aa <;> simp <;> omega
  refine ⟨⟨fun s hs => ?_, by omega⟩, h1⟩
  rw [← h, mem_list] at hs
  rcases hs with ⟨_, rfl⟩ | hs
  · decide
  · exact ha.fit.1 s hs
theorem ok_star : okN starB' = false := by decide
/-- What a set lists is it again, when all its names are names. -/
theorem of_list {a : Ns} (ho : ∀ x ∈ a.ns, okN x = true) (hr : Rises a.ns) (hs : starB' ∉ a.ns) : nOf okN (nList a) = a := by
  refine ns_eq ?_ (rises_eq (srt_rises _) hr fun x => ?_)
  · show (nList a).contains starB' = a.all
    rw [Bool.eq_iff_iff, List.contains_iff_mem, mem_list]
    constructor
    · rintro (⟨h, _⟩ | h)
      · exact h
      · exact absurd h hs
    · intro h; exact .inl ⟨h, rfl⟩
  · show x ∈ srt _ ↔ _
    rw [srt_mem, List.mem_filter, mem_list]
    constructor
    · rintro ⟨⟨_, rfl⟩ | h, h2⟩
      · rw [ok_star] at h2; cases h2
      · exact h
    · intro h; exact ⟨.inr h, ho x h⟩
structure Real (a : Ns) : Prop where
  ok : ∀ x ∈ a.ns, okN x = true
  rises : Rises a.ns
theorem Real.star {a : Ns} (h : Real a) : starB' ∉ a.ns := fun hm => by have := h.ok _ hm; rw [ok_star] at this; cases this
theorem Real.list {a : Ns} (h : Real a) : nOf okN (nList a) = a := of_list h.ok h.rises h.star
theorem real_of (ms : List (List UInt8)) : Real (nOf okN ms) := ⟨fun x hx => ((mem_of okN ms x).1 hx).2, nOf_ok okN ms⟩
theorem real_less {a b : Ns} (h : Real a) : Real (nLess a b) := ⟨fun x hx => h.ok x ((mem_less a b x).1 hx).1, nLess_ok a b⟩
theorem real_union {a b : Ns} (h : Real a) (h' : Real b) : Real (nUnion [a, b]) := ⟨fun x hx => by
  rcases (mem_union2 a b x).1 hx with hx | hx
  · exact h.ok x hx
  · exact h'.ok x hx, nUnion_ok _⟩
/-- The law, plainly. -/
theorem less_laws {a b more both back grown shrunk ab : Ns} (ha : Real a) (hb : Real b) (h1 : nLess a b = more) (h2 : nLess a more = both) (h3 : nUnion [more, both] = back) (h4 : nUnion [a, nOf okN (nList b)] = grown)
    (h5 : nLess b a = ab) (h6 : nLess grown (nOf okN (nList ab)) = shrunk) :
    nSame back a = true ∧ nEmpty (nLess a a) = true ∧ nSame shrunk a = true ∧ nSame grown (nUnion [a, b]) = true ∧ nSame (nLess a (nOf okN (nList a))) ⟨false, []⟩ = true ∧ nSame (nOf okN (nList a)) a = true := by
  have hab : Real ab := by rw [← h5]; exact real_less hb
  rw [hb.list] at h4
  rw [hab.list] at h6
  rw [ha.list]
  subst h1; subst h2; subst h3; subst h4; subst h5; subst h6
  refine ⟨nSame_self ?_ fun x => ?_, ?_, nSame_self ?_ fun x => ?_, nSame_self rfl fun _ => Iff.rfl, nSame_self ?_ fun x => ?_, nSame_self rfl fun _ => Iff.rfl⟩
  · simp only [nUnion, nLess, List.any_cons, List.any_nil]; cases a.all <;> cases b.all <;> rfl
  · rw [mem_union2, mem_less, mem_less, mem_less]
    by_cases h : x ∈ b.ns <;> simp [h]
  · have e : (nLess a a).ns = [] := by
      cases hc : (nLess a a).ns with
      | nil => rfl
      | cons y ys =>
        have hm : y ∈ (nLess a a).ns := by rw [hc]; simp
        have := (mem_less a a y).1 hm
        exact absurd this.1 this.2
    unfold nEmpty
    rw [e]
    simp [nLess]
  · simp only [nUnion, nLess, List.any_cons, List.any_nil]; cases a.all <;> cases b.all <;> rfl
  · rw [mem_less, mem_union2, mem_less]
    constructor
    · rintro ⟨h | h, h2⟩
      · exact h
      · exact Classical.byContradiction fun h3 => h2 ⟨h, h3⟩
    · intro h; exact ⟨.inl h, fun h2 => h2.2 h⟩
  · simp [nLess]
  · rw [mem_less]; simp
end Go.Proofs.YtdcfdcjgheijcaaGreatDoor
