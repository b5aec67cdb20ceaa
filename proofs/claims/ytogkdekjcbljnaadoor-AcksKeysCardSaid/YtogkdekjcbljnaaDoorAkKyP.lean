/- acks: six keys, of which some are noted: plain. -/
import Derived.Test.YtogkdekjcbljnaaDoorAkEx
namespace Go.Proofs.YtogkdekjcbljnaaDoor
open Go.RowKit

def kyI : Nat → Ky
  | 0 => (1, nm1 97)
  | 1 => (1, nm1 98)
  | 2 => (2, nm1 97)
  | 3 => (3, nm1 97)
  | 4 => (4, nm1 97)
  | _ => (5, nm1 122)
def six : List Ky := (List.range 6).map kyI
theorem six_get {i : Nat} (h : i < 6) : six[i]? = some (kyI i) := by
  unfold six
  rw [List.getElem?_map, List.getElem?_range h]; rfl
theorem kyI_cases {i : Nat} (h : i < 6) : i = 0 ∨ i = 1 ∨ i = 2 ∨ i = 3 ∨ i = 4 ∨ i = 5 := by omega
theorem kyI_t {i : Nat} : 1 ≤ (kyI i).1 ∧ (kyI i).1 ≤ 5 := by
  unfold kyI
  split <;> decide
theorem kyI_n {i : Nat} : ∃ c : UInt8, (kyI i).2 = nm1 c ∧ nmB (c.toNat : Int) = true := by
  unfold kyI
  split
  · exact ⟨97, rfl, by decide⟩
  · exact ⟨98, rfl, by decide⟩
  · exact ⟨97, rfl, by decide⟩
  · exact ⟨97, rfl, by decide⟩
  · exact ⟨97, rfl, by decide⟩
  · exact ⟨122, rfl, by decide⟩
theorem kyI_ok {i q : Nat} (hq : 0 < q) : St.ok ⟨(kyI i).1, (kyI i).2, q, true, ⟨#[]⟩⟩ = true := by
  obtain ⟨c, h1, h2⟩ := kyI_n (i := i)
  rw [h1]
  exact stOk_one _ c q true ⟨#[]⟩ kyI_t.1 kyI_t.2 h2 hq (by decide) (fun _ => rfl)
theorem kyI_k {i : Nat} : kyK (kyI i) := by
  obtain ⟨c, h1, _⟩ := kyI_n (i := i)
  have := kyK_one (kyI i).1 c kyI_t.1 kyI_t.2
  rw [← h1] at this; exact this
theorem kyI_ord {i j : Nat} (hij : i < j) (hj : j < 6) : ordK (kyI i).1 (kyI i).2 (kyI j).1 (kyI j).2 < 0 := by
  by_cases h : i = 0 ∧ j = 1
  · obtain ⟨rfl, rfl⟩ := h
    show ordK 1 (nm1 97) 1 (nm1 98) < 0
    have e1 : (nm1 97).toList = [97] := by rw [ByteArray.toList_eq]
    have e2 : (nm1 98).toList = [98] := by rw [ByteArray.toList_eq]
    have h1 : cmpI 1 1 = 0 := by decide
    have h2 : cmpS (nm1 97) (nm1 98) = -1 := by unfold cmpS; rw [e1, e2, if_pos (by decide)]
    unfold ordK orV
    rw [h1, if_pos rfl, h2]
    decide
  · have ht : (kyI i).1 < (kyI j).1 := by
      rcases kyI_cases (i := i) (by omega) with rfl | rfl | rfl | rfl | rfl | rfl <;> rcases kyI_cases hj with rfl | rfl | rfl | rfl | rfl | rfl <;> first | (exfalso; omega) | decide
    unfold ordK orV
    have := (cmpI_le (kyI i).1 (kyI j).1).2 ht
    rw [if_neg (by omega)]; exact this
theorem kyI_inj {i j : Nat} (hi : i < 6) (hj : j < 6) (h : kyI i = kyI j) : i = j := by
  rcases Nat.lt_trichotomy i j with h1 | h1 | h1
  · have := kyI_ord h1 hj
    rw [h] at this
    have := ky_zero.2 (rfl : kyI j = kyI j); omega
  · exact h1
  · have := kyI_ord h1 hi
    rw [h] at this
    have := ky_zero.2 (rfl : kyI j = kyI j); omega
/-- What six keys' greatest versions say of an Acks. -/
structure Six (A : Ak) (M : Nat → Nat) : Prop where
  t : ∀ i, i < 6 → A.T (kyI i) = upd (fun _ => 0) 7 (M i)
  n : ∀ i, i < 6 → ((A.N (kyI i)).isSome ↔ 0 < M i)
  o : ∀ x, (∀ i, i < 6 → x ≠ kyI i) → A.N x = none
theorem six_zero : Six Ak.zero (fun _ => 0) := ⟨fun i _ => by show (fun _ => 0) = _; funext j; by_cases e : j = 7; (· subst e; rw [upd_same]); (· rw [upd_other e]), fun i _ => ⟨fun h => (by cases h), fun h => absurd h (by omega)⟩, fun _ _ => rfl⟩
theorem six_put {A : Ak} {M : Nat → Nat} (h : Six A M) {κ q : Nat} (hκ : κ < 6) (hq : 0 < q) : Six (A.put (kyI κ) 7 q true ⟨#[]⟩) (upd M κ (max (M κ) q)) := by
  unfold Ak.put
  rw [if_pos rfl]
  refine ⟨fun i hi => ?_, fun i hi => ?_, fun x hx => ?_⟩
  · show upd A.T (kyI κ) _ (kyI i) = _
    by_cases e : i = κ
    · subst e
      show upd A.T (kyI i) (upd (A.T (kyI i)) 7 (max (A.T (kyI i) 7) q)) (kyI i) = _
      rw [upd_same, upd_same, h.t i hi, upd_same, upd_upd]
    · rw [upd_other (fun e2 => e (kyI_inj hi hκ e2)), upd_other e]; exact h.t i hi
  · show (upd A.N (kyI κ) _ (kyI i)).isSome ↔ _
    by_cases e : i = κ
    · subst e
      rw [upd_same, upd_same]
      exact ⟨fun _ => by omega, fun _ => rfl⟩
    · rw [upd_other (fun e2 => e (kyI_inj hi hκ e2)), upd_other e]; exact h.n i hi
  · show upd A.N (kyI κ) _ x = none
    rw [upd_other (hx κ hκ)]; exact h.o x hx
theorem six_forget {A : Ak} {M : Nat → Nat} (h : Six A M) {κ : Nat} (hκ : κ < 6) : Six (A.forget (kyI κ)) (upd M κ 0) := by
  refine ⟨fun i hi => ?_, fun i hi => ?_, fun x hx => ?_⟩
  · show upd A.T (kyI κ) _ (kyI i) = _
    by_cases e : i = κ
    · subst e
      rw [upd_same, upd_same]
      funext j
      by_cases e2 : j = 7
      · subst e2; rw [upd_same]
      · rw [upd_other e2]
    · rw [upd_other (fun e2 => e (kyI_inj hi hκ e2)), upd_other e]; exact h.t i hi
  · show (upd A.N (kyI κ) _ (kyI i)).isSome ↔ _
    by_cases e : i = κ
    · subst e
      rw [upd_same, upd_same]
      exact ⟨fun h => (by cases h), fun h => absurd h (by omega)⟩
    · rw [upd_other (fun e2 => e (kyI_inj hi hκ e2)), upd_other e]; exact h.n i hi
  · show upd A.N (kyI κ) _ x = none
    rw [upd_other (hx κ hκ)]; exact h.o x hx
theorem six_least {A : Ak} {M : Nat → Nat} (h : Six A M) {i : Nat} (hi : i < 6) : leastL (A.T (kyI i)) [7] = M i := by
  rw [h.t i hi]
  show upd (fun _ => 0) 7 (M i) 7 = M i
  rw [upd_same]
/-- The keys that are noted, in order. -/
def sixK (M : Nat → Nat) (n : Nat) : List Nat := (List.range n).filter fun i => decide (0 < M i)
theorem six_keys {A : Ak} {M : Nat → Nat} (h : Six A M) {ks : List Ky} (hs : KySrt ks) (hm : ∀ k, k ∈ ks ↔ (A.N k).isSome) : ks = (sixK M 6).map kyI := by
  refine kySrt_ext hs ?_ fun k => ?_
  · unfold KySrt sixK
    rw [List.pairwise_map]
    refine (List.Pairwise.imp_of_mem ?_ ((List.pairwise_lt_range (n := 6)).filter _))
    intro a b ha hb hab
    have := (List.mem_filter.1 hb).1
    rw [List.mem_range] at this
    exact kyI_ord hab this
  · rw [hm, List.mem_map]
    constructor
    · intro hk
      have hx : ∃ i, i < 6 ∧ k = kyI i := Classical.byContradiction fun hn => by
        rw [h.o k (fun i hi e => hn ⟨i, hi, e⟩)] at hk; cases hk
      obtain ⟨i, hi, rfl⟩ := hx
      exact ⟨i, List.mem_filter.2 ⟨List.mem_range.2 hi, decide_eq_true ((h.n i hi).1 hk)⟩, rfl⟩
    · rintro ⟨i, hi, rfl⟩
      obtain ⟨h1, h2⟩ := List.mem_filter.1 hi
      exact (h.n i (List.mem_range.1 h1)).2 (of_decide_eq_true h2)
theorem six_some {A : Ak} {M : Nat → Nat} (h : Six A M) (k : Ky) (hk : (A.N k).isSome) : k ∈ six := by
  have hx : ∃ i, i < 6 ∧ k = kyI i := Classical.byContradiction fun hn => by
    rw [h.o k (fun i hi e => hn ⟨i, hi, e⟩)] at hk; cases hk
  obtain ⟨i, hi, rfl⟩ := hx
  exact List.mem_map.2 ⟨i, List.mem_range.2 hi, rfl⟩
theorem sixK_next (M : Nat → Nat) (n : Nat) : sixK M (n + 1) = sixK M n ++ if 0 < M n then [n] else [] := by
  unfold sixK
  rw [List.range_succ, List.filter_append]
  congr 1
  by_cases h : 0 < M n
  · rw [if_pos h]; simp [h]
  · rw [if_neg h]; simp [h]
theorem sixK_pre {M : Nat → Nat} {i : Nat} : ∀ {n : Nat}, i ≤ n → ∃ r, sixK M n = sixK M i ++ r
  | 0, h => ⟨[], by rw [List.append_nil, show i = 0 by omega]⟩
  | n + 1, h => by
    by_cases e : i = n + 1
    · subst e; exact ⟨[], by rw [List.append_nil]⟩
    · obtain ⟨r, hr⟩ := sixK_pre (M := M) (i := i) (n := n) (by omega)
      exact ⟨r ++ if 0 < M n then [n] else [], by rw [sixK_next, hr, List.append_assoc]⟩
theorem sixK_at {M : Nat → Nat} {i : Nat} (hi : i < 6) (hM : 0 < M i) : (sixK M 6)[(sixK M i).length]? = some i := by
  obtain ⟨r, hr⟩ := sixK_pre (M := M) (i := i + 1) (n := 6) hi
  rw [hr, sixK_next, if_pos hM, List.append_assoc, List.getElem?_append_right (Nat.le_refl _), Nat.sub_self]
  rfl
theorem sixK_len (M : Nat → Nat) (n : Nat) : (sixK M n).length ≤ n := by
  unfold sixK
  have := List.length_filter_le (fun i => decide (0 < M i)) (List.range n)
  rw [List.length_range] at this; exact this
def mV (M : Nat → Nat) : Array Value := ((List.range 6).map fun i => Value.int .u64 (M i : Int)).toArray
theorem mV_get (M : Nat → Nat) {i : Nat} (hi : i < 6) : (mV M)[i]? = some (.int .u64 (M i : Int)) := by
  unfold mV
  rw [List.getElem?_toArray, List.getElem?_map, List.getElem?_range hi]; rfl
theorem mV_set (M : Nat → Nat) {κ : Nat} (v : Nat) : (mV M).setIfInBounds κ (.int .u64 (v : Int)) = mV (upd M κ v) := by
  unfold mV
  rw [List.setIfInBounds_toArray]
  congr 1
  apply List.ext_getElem?
  intro i
  rw [List.getElem?_set, List.getElem?_map, List.getElem?_map]
  by_cases hi : i < 6
  · rw [List.getElem?_range hi]
    by_cases e : κ = i
    · subst e
      rw [if_pos rfl, List.length_map, List.length_range, if_pos hi]
      show _ = some (Value.int .u64 ((upd M κ v κ : Nat) : Int))
      rw [upd_same]
    · rw [if_neg e]
      show _ = some (Value.int .u64 ((upd M κ v i : Nat) : Int))
      rw [upd_other (fun e2 => e e2.symm)]
      rfl
  · rw [List.getElem?_eq_none (by rw [List.length_range]; omega)]
    by_cases e : κ = i
    · subst e
      rw [if_pos rfl, List.length_map, List.length_range, if_neg hi]; rfl
    · rw [if_neg e]; rfl
end Go.Proofs.YtogkdekjcbljnaaDoor
