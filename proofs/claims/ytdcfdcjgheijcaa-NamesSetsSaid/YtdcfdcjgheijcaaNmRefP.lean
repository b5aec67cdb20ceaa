/- names: the reference's listed, with. -/
import Derived.Test.YtdcfdcjgheijcaaNmPlain
namespace Go.Proofs.Ytdcfdcjgheijcaa
open Go.Lib


/-- How many of l, at its head, lie ahead of x. -/
def ahead (x : List UInt8) : List (List UInt8) → Nat
  | [] => 0
  | y :: l => if y < x then ahead x l + 1 else 0
theorem ahead_le (x : List UInt8) : ∀ l : List (List UInt8), ahead x l ≤ l.length
  | [] => Nat.le_refl _
  | y :: l => by
    unfold ahead
    split
    · have := ahead_le x l; simp; omega
    · simp
theorem ahead_lt (x : List UInt8) : ∀ (l : List (List UInt8)) (j : Nat) (h : j < l.length), j < ahead x l → l[j] < x
  | [], j, h, _ => by simp at h
  | y :: l, j, h, hj => by
    unfold ahead at hj
    split at hj
    · rename_i hy
      cases j with
      | zero => exact hy
      | succ j => exact ahead_lt x l j (by simpa using h) (by omega)
    · omega
theorem ahead_stop (x : List UInt8) : ∀ (l : List (List UInt8)) (h : ahead x l < l.length), ¬ l[ahead x l] < x
  | [], h => by simp [ahead] at h
  | y :: l, h => by
    by_cases hy : y < x
    · have e : ahead x (y :: l) = ahead x l + 1 := by rw [ahead, if_pos hy]
      have h' : ahead x l < l.length := by rw [e] at h; simpa using h
      have := ahead_stop x l h'
      simp only [e, List.getElem_cons_succ]
      exact this
    · have e : ahead x (y :: l) = 0 := by rw [ahead, if_neg hy]
      simp only [e, List.getElem_cons_zero]
      exact hy
/-- Names, and one more, at its place. -/
def ins (l : List (List UInt8)) (x : List UInt8) : List (List UInt8) := if l.contains x = true then l else l.take (ahead x l) ++ [x] ++ l.drop (ahead x l)
theorem ins_mem (l : List (List UInt8)) (x y : List UInt8) : y ∈ ins l x ↔ y ∈ l ∨ y = x := by
  unfold ins
  split
  · rename_i h
    rw [List.contains_iff_mem] at h
    exact ⟨.inl, fun h' => h'.elim id (fun e => e ▸ h)⟩
  · rw [List.mem_append, List.mem_append, List.mem_singleton]
    have : y ∈ l ↔ y ∈ l.take (ahead x l) ∨ y ∈ l.drop (ahead x l) := by
      rw [← List.mem_append, List.take_append_drop]
    rw [this]
    constructor
    · rintro ((h | h) | h)
      · exact .inl (.inl h)
      · exact .inr h
      · exact .inl (.inr h)
    · rintro ((h | h) | h)
      · exact .inl (.inl h)
      · exact .inr h
      · exact .inl (.inr h)
theorem ins_len (l : List (List UInt8)) (x : List UInt8) : (ins l x).length ≤ l.length + 1 := by
  unfold ins
  split
  · omega
  · rw [List.length_append, List.length_append, List.length_take, List.length_drop]; simp; omega
theorem ins_rises {l : List (List UInt8)} (h : Rises l) (x : List UInt8) : Rises (ins l x) := by
  unfold ins
  split
  · exact h
  · rename_i hno
    rw [List.contains_iff_mem] at hno
    have hs : l.take (ahead x l) ++ l.drop (ahead x l) = l := List.take_append_drop _ _
    have hd : ∀ y ∈ l.drop (ahead x l), x < y := by
      intro y hy
      obtain ⟨i, hi, rfl⟩ := List.getElem_of_mem hy
      rw [List.getElem_drop]
      rw [List.length_drop] at hi
      have h0 := ahead_stop x l (by omega)
      have hx0 : x < l[ahead x l]'(by omega) := lt_of_le_ne (List.not_lt.1 h0) (fun e => hno (e ▸ List.getElem_mem _))
      by_cases hi0 : i = 0
      · subst hi0; exact hx0
      · exact List.lt_trans hx0 (List.pairwise_iff_getElem.1 h (ahead x l) (ahead x l + i) (by omega) (by omega) (by omega))
    have ht : ∀ y ∈ l.take (ahead x l), y < x := by
      intro y hy
      obtain ⟨i, hi, rfl⟩ := List.getElem_of_mem hy
      rw [List.getElem_take]
      rw [List.length_take] at hi
      exact ahead_lt x l i (by omega) (by omega)
    refine List.pairwise_append.2 ⟨List.pairwise_append.2 ⟨List.Pairwise.sublist (List.take_sublist _ _) h, List.pairwise_singleton _ _, fun a ha b hb => ?_⟩, List.Pairwise.sublist (List.drop_sublist _ _) h, fun a ha b hb => ?_⟩
    · obtain rfl := List.mem_singleton.1 hb; exact ht a ha
    · rcases List.mem_append.1 ha with ha | ha
      · exact List.lt_trans (ht a ha) (hd b hb)
      · obtain rfl := List.mem_singleton.1 ha; exact hd b hb
end Go.Proofs.Ytdcfdcjgheijcaa
