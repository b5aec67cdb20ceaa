/- ledger: LedgerErases, plain. -/
import Derived.Test.YtjcfbpbmieepiaaDoorLdEx
namespace Go.Proofs.YtjcfbpbmieepiaaDoor
open Go.RowKit Go.Lib

abbrev exK : ByteArray := nm1 107
/-- n marks of a key, of which the first m are taken. -/
def runM (t : Int) (n m : Nat) : List Mk := (List.range n).map fun i => ⟨t, exK, i + 1, if i < m then 2 else 1, ⟨#[]⟩⟩
theorem runM_len (t : Int) (n m : Nat) : (runM t n m).length = n := by unfold runM; rw [List.length_map, List.length_range]
theorem runM_mem {t : Int} {n m : Nat} {k : Mk} (h : k ∈ runM t n m) : ∃ i, i < n ∧ k = ⟨t, exK, i + 1, if i < m then 2 else 1, ⟨#[]⟩⟩ := by
  unfold runM at h
  obtain ⟨i, hi, rfl⟩ := List.mem_map.1 h
  exact ⟨i, List.mem_range.1 hi, rfl⟩
theorem runM_succ (t : Int) (n : Nat) : runM t (n + 1) 0 = runM t n 0 ++ [⟨t, exK, n + 1, 1, ⟨#[]⟩⟩] := by
  unfold runM
  rw [List.range_succ, List.map_append]
  rfl
theorem badK_k (t : Int) (q : Nat) (ht : 1 ≤ t) (ht' : t ≤ 5) (hq : 0 < q) : badK t exK q = false := badK_one t 107 q ht ht' (by decide) (by decide) hq
theorem run_next (t : Int) (n : Nat) (ht : 1 ≤ t) (ht' : t ≤ 5) (hn : n < 1024) : begE t exK (n + 1) (runM t n 0) = 0 ∧ begM t exK (n + 1) (runM t n 0) = runM t (n + 1) 0 := by
  rw [runM_succ]
  refine beg_last (badK_k t _ ht ht' (by omega)) (by rw [runM_len]; exact hn) fun m hm => ?_
  obtain ⟨i, hi, rfl⟩ := runM_mem hm
  exact ordM_gt_same rfl rfl (by show i + 1 < n + 1; omega)
/-- Noted up to m. -/
theorem run_note (t : Int) (n m : Nat) (ht : 1 ≤ t) (ht' : t ≤ 5) (hm : m ≤ n) : noteR ⟨t, exK, m, true, ⟨#[]⟩⟩ (runM t n 0) = runM t n m := by
  unfold noteR
  rw [stOk_one t 107 m ht ht' (by decide)]
  by_cases h0 : 0 < m
  · rw [if_pos (decide_eq_true h0)]
    have hh : hasM t exK m (runM t n 0) = true := by
      rw [hasM_any, List.any_eq_true]
      refine ⟨⟨t, exK, m, 1, ⟨#[]⟩⟩, ?_, by simp [keyM]⟩
      unfold runM
      rw [List.mem_map]
      exact ⟨m - 1, List.mem_range.2 (by omega), by simp; omega⟩
    rw [if_pos hh]
    show noteM t exK m true ⟨#[]⟩ (runM t n 0) = _
    unfold noteM settleM runM
    rw [if_pos rfl, List.map_map]
    apply List.map_congr_left
    intro i _
    have hk : keyM t exK ⟨t, exK, i + 1, if i < 0 then 2 else 1, ⟨#[]⟩⟩ = true := keyM_self _
    simp only [Function.comp, hk, Bool.true_and, decide_eq_true_eq]
    by_cases hi : i < m
    · rw [if_pos ⟨by simp, by omega⟩, if_pos hi]
    · rw [if_neg (fun h => hi (by omega)), if_neg hi]; simp
  · have : m = 0 := by omega
    subst this
    rw [if_neg (by simp)]
theorem run_beg (t : Int) (n m s : Nat) (ht : 1 ≤ t) (ht' : t ≤ 5) (hn : n < 1024) : begE t exK s (runM t n m) = (if s = 0 then 1 else if s ≤ n then 6 else 0) ∧ (eraseM (begM t exK s (runM t n m))).length = min m n := by
  have he : (eraseM (runM t n m)).length = min m n := by
    unfold eraseM runM
    rw [List.filter_map, List.length_map]
    have : (List.range n).filter ((fun k : Mk => !decide (k.s = 1)) ∘ fun i => (⟨t, exK, i + 1, if i < m then 2 else 1, ⟨#[]⟩⟩ : Mk)) = (List.range n).filter fun i => decide (i < m) := by
      apply List.filter_congr
      intro i _
      simp only [Function.comp]
      by_cases hi : i < m <;> simp [hi]
    rw [this]
    clear this hn
    induction n with
    | zero => simp
    | succ n ih =>
      rw [List.range_succ, List.filter_append, List.length_append, ih]
      by_cases hi : n < m
      · simp [hi]; omega
      · simp [hi]; omega
  by_cases h0 : s = 0
  · subst h0
    have hb : badK t exK 0 = true := by unfold badK; simp
    unfold begE begM
    rw [hb]
    exact ⟨rfl, he⟩
  · have hb := badK_k t s ht ht' (by omega)
    by_cases hs : s ≤ n
    · have hst : staleM t exK s (runM t n m) = true := by
        unfold staleM
        rw [List.any_eq_true]
        refine ⟨⟨t, exK, s, if s - 1 < m then 2 else 1, ⟨#[]⟩⟩, ?_, by simp [keyM]⟩
        unfold runM
        rw [List.mem_map]
        exact ⟨s - 1, List.mem_range.2 (by omega), by simp; omega⟩
      unfold begE begM
      rw [hb, hst, if_neg h0, if_pos hs]
      exact ⟨rfl, he⟩
    · obtain ⟨h1, h2⟩ := beg_last (t := t) (x := exK) (q := s) (ms := runM t n m) hb (by rw [runM_len]; exact hn) (fun k hk => by
        obtain ⟨i, hi, rfl⟩ := runM_mem hk
        exact ordM_gt_same rfl rfl (by show i + 1 < s; omega))
      rw [h1, h2, if_neg h0, if_neg hs]
      refine ⟨rfl, ?_⟩
      rw [← he]
      unfold eraseM
      rw [List.filter_append]
      simp
theorem beg_star (t : Int) (q : Nat) (ms : List Mk) : begE t (nm1 42) q ms = 1 := by
  have : badK t (nm1 42) q = true := by
    have h : starB (nm1 42) = true := by
      unfold starB
      rw [ByteArray.toList_eq]
      rfl
    unfold badK
    rw [h]; simp
  unfold begE
  rw [this]; rfl
end Go.Proofs.YtjcfbpbmieepiaaDoor
