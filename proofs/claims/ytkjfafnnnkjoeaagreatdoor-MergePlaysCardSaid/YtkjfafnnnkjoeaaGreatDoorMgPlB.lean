/- merge: plain: unions, counts, of what was set. -/
import Derived.Test.YtkjfafnnnkjoeaaGreatDoorMgKeys
namespace Go.Proofs.YtkjfafnnnkjoeaaGreatDoor
open Go.RowKit Go.Lib

theorem mem_uniL (W : Wants) (k : Int) (x : List UInt8) : x ∈ nList (uni W k) ↔ ∃ i ∈ ids, x ∈ nList (W i k) := by
  rw [mem_list_uni]
  unfold cnt
  rw [List.countP_pos_iff]
  simp only [List.contains_iff_mem]
theorem uni_eq {W : Wants} {k : Int} {U : Ns} (hw : WOk W) (hU : NsR U) (h : ∀ x, (∃ i ∈ ids, x ∈ nList (W i k)) ↔ x ∈ nList U) : uni W k = U := ns_ext (nsr_uni hw k) hU fun x => (mem_uniL W k x).trans (h x)
abbrev W0 : Wants := fun _ _ => Ns.zero
theorem w0_ok : WOk W0 := ⟨fun _ _ => nsr_zero, fun _ _ _ => rfl⟩
theorem list_zero : nList Ns.zero = [] := rfl
theorem uni_zero (k : Int) : uni W0 k = Ns.zero := uni_eq w0_ok nsr_zero fun x => ⟨fun ⟨_, _, h⟩ => h, fun h => (by cases h)⟩
theorem uni_kind {W : Wants} {i k k' : Int} {s : Ns} (h : k' ≠ k) : uni (wset W i k s) k' = uni W k' := by unfold uni; simp only [wset_kind h]
theorem badI_ids {i k : Int} (h : badI i k = false) : i ∈ ids := mem_ids.2 (badI_no.1 h).1
/-- One alone wants something. -/
theorem uni_one {W : Wants} {i k : Int} {s : Ns} (hw : WOk W) (hs : NsR s) (hb : badI i k = false) (h0 : ∀ j, j ≠ i → W j k = Ns.zero) : uni (wset W i k s) k = s :=
  uni_eq (wset_ok hw hs hb) hs fun x => by
    constructor
    · rintro ⟨j, _, hj⟩
      by_cases e : j = i
      · subst e; rw [wset_same] at hj; exact hj
      · rw [wset_id e, h0 j e] at hj; cases hj
    · exact fun hx => ⟨i, badI_ids hb, by rw [wset_same]; exact hx⟩
theorem nsr_union {l : List Ns} (h : ∀ s ∈ l, NsR s) : NsR (nUnion l) := ⟨nUnion_ok l, fun x hx => by
  have : x ∈ srt (l.flatMap (·.ns)) := hx
  rw [srt_mem, List.mem_flatMap] at this
  obtain ⟨s, hs, hx'⟩ := this
  exact (h s hs).nm x hx'⟩
theorem mem_unionL (l : List Ns) (x : List UInt8) : x ∈ nList (nUnion l) ↔ ∃ s ∈ l, x ∈ nList s := by
  rw [mem_list]
  have e1 : (nUnion l).all = true ↔ ∃ s ∈ l, s.all = true := by show l.any (·.all) = true ↔ _; simp [List.any_eq_true]
  have e2 : x ∈ (nUnion l).ns ↔ ∃ s ∈ l, x ∈ s.ns := by show x ∈ srt _ ↔ _; rw [srt_mem]; simp [List.mem_flatMap]
  rw [e1, e2]
  constructor
  · rintro (⟨⟨s, hs, ha⟩, rfl⟩ | ⟨s, hs, hx⟩)
    · exact ⟨s, hs, (mem_list s _).2 (.inl ⟨ha, rfl⟩)⟩
    · exact ⟨s, hs, (mem_list s _).2 (.inr hx)⟩
  · rintro ⟨s, hs, hx⟩
    rcases (mem_list s x).1 hx with ⟨ha, rfl⟩ | hx
    · exact .inl ⟨⟨s, hs, ha⟩, rfl⟩
    · exact .inr ⟨s, hs, hx⟩
/-- One more wants something. -/
theorem uni_more {W : Wants} {i k : Int} {s : Ns} (hw : WOk W) (hs : NsR s) (hb : badI i k = false) (h0 : W i k = Ns.zero) : uni (wset W i k s) k = nUnion [uni W k, s] :=
  uni_eq (wset_ok hw hs hb) (nsr_union fun t ht => by
    rcases List.mem_cons.1 ht with e | e
    · subst e; exact nsr_uni hw k
    · rw [List.mem_singleton] at e; subst e; exact hs) fun x => by
    rw [mem_unionL]
    constructor
    · rintro ⟨j, hj, hx⟩
      by_cases e : j = i
      · subst e; rw [wset_same] at hx; exact ⟨s, by simp, hx⟩
      · rw [wset_id e] at hx; exact ⟨uni W k, by simp, (mem_uniL W k x).2 ⟨j, hj, hx⟩⟩
    · rintro ⟨t, ht, hx⟩
      rcases List.mem_cons.1 ht with e | e
      · subst e
        obtain ⟨j, hj, hx'⟩ := (mem_uniL W k x).1 hx
        refine ⟨j, hj, ?_⟩
        have hne : j ≠ i := by rintro rfl; rw [h0] at hx'; cases hx'
        rw [wset_id hne]; exact hx'
      · rw [List.mem_singleton] at e; subst e
        exact ⟨i, badI_ids hb, by rw [wset_same]; exact hx⟩
theorem less_zero {a : Ns} (h : NsR a) : nLess a Ns.zero = a := by
  refine ns_eq ?_ (rises_eq (srt_rises _) h.ok fun x => ?_)
  · show (a.all && !false) = a.all; simp
  · show x ∈ (nLess a Ns.zero).ns ↔ _
    rw [mem_less]; simp
theorem zero_less (a : Ns) : nLess Ns.zero a = Ns.zero := by
  refine ns_eq rfl (rises_eq (srt_rises _) List.Pairwise.nil fun x => ?_)
  show x ∈ (nLess Ns.zero a).ns ↔ _
  rw [mem_less]; simp
/-- There is room: it is set. -/
theorem setE_ok {W : Wants} {i k : Int} {s : Ns} (hb : badI i k = false) (h1 : (nList s).length ≤ 64) (h2 : (nList (uni (wset W i k s) k)).length ≤ 64) : setE W i k s = 0 ∧ setW W i k s = wset W i k s ∧ setM W i k s = nLess (uni (wset W i k s) k) (uni W k) ∧ setL W i k s = nLess (uni W k) (uni (wset W i k s) k) := by
  have e : setE W i k s = 0 := by
    unfold setE
    rw [if_neg (by rw [hb]; decide), if_neg (by omega), if_neg (by omega)]
  exact ⟨e, by unfold setW; rw [if_pos e], by unfold setM; rw [if_pos e], by unfold setL; rw [if_pos e]⟩
theorem list_len (s : Ns) : (nList s).length ≤ s.ns.length + 1 := by
  unfold nList
  rw [List.length_append]
  split <;> simp <;> omega
theorem union_len (l : List Ns) : (nList (nUnion l)).length ≤ (l.flatMap (·.ns)).length + 1 := Nat.le_trans (list_len _) (Nat.succ_le_succ (srt_len _))
theorem of_len (l : List (List UInt8)) : (nList (nOf okN l)).length ≤ l.length + 1 := Nat.le_trans (list_len _) (Nat.succ_le_succ (Nat.le_trans (srt_len _) (List.length_filter_le _ _)))
/-- How many want that name. -/
theorem who_count (W : Wants) (k : Int) (x : List UInt8) : (whoL W k x 32).length = ids.countP fun i => nHas okN (W i k) x := by
  rw [List.countP_eq_length_filter]
  rfl
theorem who_set {W : Wants} {i k : Int} {s : Ns} (hi : i ∈ ids) (x : List UInt8) : (whoL (wset W i k s) k x 32).length + (if nHas okN (W i k) x then 1 else 0) = (whoL W k x 32).length + (if nHas okN s x then 1 else 0) := by
  rw [who_count, who_count]
  have h := countP_set (l := ids) (p := fun j => nHas okN (W j k) x) (q := fun j => nHas okN (wset W i k s j k) x) (a := i) ids_nodup hi (fun b _ hb => by rw [wset_id hb])
  simp only [wset_same] at h
  exact h
theorem who_zero (k : Int) (x : List UInt8) : (whoL W0 k x 32).length = 0 := by
  rw [who_count, List.countP_eq_zero]
  intro i _
  show ¬ (okN x && (false || [].contains x)) = true
  simp
theorem cnt_zero (k : Int) (x : List UInt8) : cnt W0 k x = 0 := by
  unfold cnt
  rw [List.countP_eq_zero]
  intro i _ h
  cases h
end Go.Proofs.YtkjfafnnnkjoeaaGreatDoor
