/- ledger: LedgerKeys, plain. -/
import Derived.Test.YtjcfbpbmieepiaaDoorLdRmP
namespace Go.Proofs.YtjcfbpbmieepiaaDoor
open Go.RowKit

def updL (L : Nat → Nat) (k v : Nat) : Nat → Nat := fun j => if j = k then v else L j
theorem updL_same (L : Nat → Nat) (k v : Nat) : updL L k v k = v := if_pos rfl
theorem updL_other (L : Nat → Nat) {k j : Nat} (v : Nat) (h : j ≠ k) : updL L k v j = L j := if_neg h
abbrev lastV (L : Nat → Nat) : Array Value := #[.int .u64 (L 0 : Int), .int .u64 (L 1 : Int), .int .u64 (L 2 : Int)]
theorem lastV_get (L : Nat → Nat) {k : Nat} (hk : k < 3) : (lastV L)[k]? = some (.int .u64 (L k : Int)) := by
  have : k = 0 ∨ k = 1 ∨ k = 2 := by omega
  rcases this with rfl | rfl | rfl <;> rfl
theorem lastV_set (L : Nat → Nat) {k : Nat} (hk : k < 3) (v : Nat) : (lastV L).setIfInBounds k (.int .u64 (v : Int)) = lastV (updL L k v) := by
  have : k = 0 ∨ k = 1 ∨ k = 2 := by omega
  rcases this with rfl | rfl | rfl <;> rfl
/-- Marks of three keys, none of which is settled. -/
structure KyI (L : Nat → Nat) (n : Nat) (ms : List Mk) : Prop where
  len : ms.length = n
  all : ∀ m ∈ ms, m.x = exK ∧ m.s = 1 ∧ ∃ k : Nat, k < 3 ∧ m.t = 1 + (k : Int) ∧ 1 ≤ m.q ∧ m.q ≤ L k
  top : ∀ k : Nat, k < 3 → 0 < L k → ∃ m ∈ ms, m.x = exK ∧ m.t = 1 + (k : Int) ∧ m.q = L k
theorem ky_zero : KyI (fun _ => 0) 0 [] := ⟨rfl, (fun m hm => by cases hm), (fun k _ h => absurd h (Nat.lt_irrefl _))⟩
theorem ky_next {L : Nat → Nat} {n : Nat} {ms : List Mk} (h : KyI L n ms) (hn : n < 1024) {k : Nat} (hk : k < 3) {q : Nat} (hq : L k < q) :
    begE (1 + (k : Int)) exK q ms = 0 ∧ KyI (updL L k q) (n + 1) (begM (1 + (k : Int)) exK q ms) := by
  have hb := badK_k (1 + (k : Int)) q (by omega) (by omega) (by omega)
  have hs : staleM (1 + (k : Int)) exK q ms = false := by
    unfold staleM
    rw [List.any_eq_false]
    intro m hm
    simp only [Bool.and_eq_true, decide_eq_true_eq, keyM_iff]
    rintro ⟨⟨h1, h2⟩, h3⟩
    obtain ⟨_, _, j, hj, e, _, h4⟩ := h.all m hm
    have : j = k := by omega
    subst this
    omega
  unfold begE begM
  rw [hb, hs]
  refine ⟨rfl, ?_⟩
  simp only [Bool.false_eq_true, if_false]
  have hl := insM_len (posM (1 + (k : Int)) exK q ms) ⟨1 + (k : Int), exK, q, 1, ⟨#[]⟩⟩ ms
  have hf : fullM (insM (posM (1 + (k : Int)) exK q ms) ⟨1 + (k : Int), exK, q, 1, ⟨#[]⟩⟩ ms) = insM (posM (1 + (k : Int)) exK q ms) ⟨1 + (k : Int), exK, q, 1, ⟨#[]⟩⟩ ms := by
    unfold fullM
    rw [if_neg (by rw [hl, h.len]; omega)]
  rw [hf]
  refine ⟨by rw [hl, h.len], fun m hm => ?_, fun j hj hp => ?_⟩
  · rcases insM_mem.1 hm with rfl | hm
    · exact ⟨rfl, rfl, k, hk, rfl, by show 1 ≤ q; omega, by rw [updL_same]; exact Nat.le_refl _⟩
    · obtain ⟨h1, h2, j, hj, e, h3, h4⟩ := h.all m hm
      refine ⟨h1, h2, j, hj, e, h3, ?_⟩
      by_cases hjk : j = k
      · subst hjk; rw [updL_same]; omega
      · rw [updL_other L q hjk]; exact h4
  · by_cases hjk : j = k
    · subst hjk
      exact ⟨_, insM_mem.2 (.inl rfl), rfl, rfl, by rw [updL_same]⟩
    · rw [updL_other L q hjk] at hp ⊢
      obtain ⟨m, hm, h1, h2, h3⟩ := h.top j hj hp
      exact ⟨m, insM_mem.2 (.inr hm), h1, h2, h3⟩
/-- Behind the note: taken are just those of that key. -/
structure KyT (k : Nat) (n : Nat) (ms : List Mk) : Prop where
  len : ms.length = n
  all : ∀ m ∈ ms, m.x = exK ∧ (m.s == 2) = (m.t == 1 + (k : Int))
theorem ky_note {L : Nat → Nat} {n : Nat} {ms : List Mk} (h : KyI L n ms) {k : Nat} (hk : k < 3) : KyT k n (noteR ⟨1 + (k : Int), exK, L k, true, ⟨#[]⟩⟩ ms) := by
  unfold noteR
  rw [stOk_one (1 + (k : Int)) 107 (L k) (by omega) (by omega) (by decide)]
  by_cases h0 : 0 < L k
  · rw [if_pos (decide_eq_true h0)]
    have hh : hasM (1 + (k : Int)) exK (L k) ms = true := by
      rw [hasM_any, List.any_eq_true]
      obtain ⟨m, hm, h1, h2, h3⟩ := h.top k hk h0
      exact ⟨m, hm, by rw [Bool.and_eq_true, keyM_iff, decide_eq_true_eq]; exact ⟨⟨h2, h1⟩, h3⟩⟩
    rw [if_pos hh]
    show KyT k n (noteM (1 + (k : Int)) exK (L k) true ⟨#[]⟩ ms)
    unfold noteM
    rw [if_pos rfl]
    refine ⟨by rw [settleM_len]; exact h.len, fun m hm => ?_⟩
    unfold settleM at hm
    obtain ⟨m0, hm0, rfl⟩ := List.mem_map.1 hm
    obtain ⟨h1, h2, j, hj, e, h3, h4⟩ := h.all m0 hm0
    by_cases hjk : j = k
    · subst hjk
      have hkm : keyM (1 + (j : Int)) exK m0 = true := keyM_iff.2 ⟨e, h1⟩
      rw [if_pos ⟨h2, show (keyM (1 + (j : Int)) exK m0 && decide (m0.q ≤ L j)) = true by rw [hkm, Bool.true_and]; exact decide_eq_true h4⟩]
      refine ⟨h1, ?_⟩
      show ((2 : Int) == 2) = (m0.t == 1 + (j : Int))
      rw [e]; simp
    · have hkm : keyM (1 + (k : Int)) exK m0 = false := by
        cases hc : keyM (1 + (k : Int)) exK m0 with
        | false => rfl
        | true => exact absurd (keyM_iff.1 hc).1 (by omega)
      rw [if_neg (show ¬ (m0.s = 1 ∧ (keyM (1 + (k : Int)) exK m0 && decide (m0.q ≤ L k)) = true) by rw [hkm]; simp)]
      refine ⟨h1, ?_⟩
      rw [h2]
      have : (m0.t == 1 + (k : Int)) = false := beq_eq_false_iff_ne.2 (by omega)
      rw [this]; rfl
  · rw [if_neg (by rw [decide_eq_true_eq]; exact h0)]
    refine ⟨h.len, fun m hm => ?_⟩
    obtain ⟨h1, h2, j, hj, e, h3, h4⟩ := h.all m hm
    refine ⟨h1, ?_⟩
    rw [h2]
    have hne : j ≠ k := by rintro rfl; omega
    have : (m.t == 1 + (k : Int)) = false := beq_eq_false_iff_ne.2 (by omega)
    rw [this]; rfl
/-- Two marks beside one another, of the same name. -/
theorem ky_beside {ms : List Mk} (hs : Srt ms) {i : Nat} {a b : Mk} (ha : ms[i]? = some a) (hb : ms[i + 1]? = some b) (hx : a.x = exK) (hy : b.x = exK) : a.t ≤ b.t ∧ (a.t = b.t → a.q < b.q) := by
  have h := hs.lt ha hb (Nat.lt_succ_self i)
  rw [ordM_lt, hx, hy] at h
  have h2 := (ord_le a.t b.t exK exK)
  rcases h with h | ⟨h1, _, h3⟩
  · have hle : a.t ≤ b.t := by
      rcases h2.1 (by omega) with h4 | ⟨h4, _⟩ <;> omega
    refine ⟨hle, fun e => ?_⟩
    rw [e, ord_self] at h
    omega
  · exact ⟨by omega, fun _ => h3⟩
end Go.Proofs.YtjcfbpbmieepiaaDoor
