/- ledger: LedgerRoom, plain. -/
import Derived.Test.YtjcfbpbmieepiaaDoorLdErP
namespace Go.Proofs.YtjcfbpbmieepiaaDoor
open Go.RowKit

/-- Behind i versions, the i-th last. -/
structure RmI (i : Nat) (ms : List Mk) : Prop where
  len : ms.length = min i 1024
  perm : (ms.map (·.q)).Perm (List.range' (i + 1 - min i 1024) (min i 1024))
theorem rm_zero : RmI 0 [] := ⟨rfl, by simp⟩
theorem RmI.le {i : Nat} {ms : List Mk} (h : RmI i ms) {m : Mk} (hm : m ∈ ms) : i + 1 - min i 1024 ≤ m.q ∧ m.q ≤ i := by
  have h1 : m.q ∈ ms.map (·.q) := List.mem_map.2 ⟨m, hm, rfl⟩
  have h2 := h.perm.mem_iff.1 h1
  rw [List.mem_range'_1] at h2
  omega
theorem nodup_inj {l : List Nat} (h : l.Nodup) {i j : Nat} {hi : i < l.length} {hj : j < l.length} (e : l[i] = l[j]) : i = j := by
  have hp := List.pairwise_iff_getElem.1 h
  rcases Nat.lt_trichotomy i j with h1 | h1 | h1
  · exact absurd e (hp i j hi hj h1)
  · exact h1
  · exact absurd e.symm (hp j i hj hi h1)
theorem cut_q {is : List Mk} {lo n : Nat} (hp : (is.map (·.q)).Perm (List.range' lo (n + 1))) : ((cutM is).map (·.q)).Perm (List.range' (lo + 1) n) := by
  have hlen : is.length = n + 1 := by have := hp.length_eq; simpa using this
  have hne : is ≠ [] := by intro e; rw [e] at hlen; simp at hlen
  have hmem := minM_mem hne
  have hnd : (is.map (·.q)).Nodup := hp.nodup_iff.2 (List.nodup_range' (step := 1))
  have hlo : (minM is).q = lo := by
    have h1 : lo ∈ is.map (·.q) := hp.mem_iff.2 (by rw [List.mem_range'_1]; omega)
    obtain ⟨m, hm, e⟩ := List.mem_map.1 h1
    have h2 := minM_le hm
    have h3 : (minM is).q ∈ List.range' lo (n + 1) := hp.mem_iff.1 (List.mem_map.2 ⟨_, hmem, rfl⟩)
    rw [List.mem_range'_1] at h3
    omega
  have hinj : ∀ m ∈ is, m.q = lo → m = minM is := by
    intro m hm e
    obtain ⟨i, hi, rfl⟩ := List.mem_iff_getElem.1 hm
    obtain ⟨j, hj, ej⟩ := List.mem_iff_getElem.1 hmem
    rw [← ej]
    have hq : (is.map (·.q))[i]'(by simpa using hi) = (is.map (·.q))[j]'(by simpa using hj) := by
      rw [List.getElem_map, List.getElem_map, ej, hlo, e]
    have hij : i = j := nodup_inj hnd hq
    subst hij; rfl
  have hfil : (cutM is).map (·.q) = (is.map (·.q)).filter fun x => !(x == lo) := by
    unfold cutM
    rw [List.filter_map]
    congr 1
    apply List.filter_congr
    intro m hm
    simp only [Function.comp]
    congr 1
    cases he : eqM m (minM is) with
    | true => rw [(eqM_iff _ _).1 he, hlo]; simp
    | false =>
      symm
      rw [beq_eq_false_iff_ne]
      intro e
      rw [(eqM_iff _ _).2 (hinj m hm e)] at he
      cases he
  rw [hfil]
  have h5 := hp.filter fun x => !(x == lo)
  refine h5.trans ?_
  rw [List.range'_succ, List.filter_cons]
  simp only [beq_self_eq_true, Bool.not_true, Bool.false_eq_true, if_false]
  rw [List.filter_eq_self.2]
  intro x hx
  rw [List.mem_range'_1] at hx
  simp; omega
theorem rm_next {i : Nat} {ms : List Mk} {t : Int} {x : ByteArray} (h : RmI i ms) (hb : badK t x (i + 1) = false) : begE t x (i + 1) ms = 0 ∧ RmI (i + 1) (begM t x (i + 1) ms) := by
  have hs : staleM t x (i + 1) ms = false := by
    unfold staleM
    rw [List.any_eq_false]
    intro m hm
    have := (h.le hm).2
    simp only [Bool.and_eq_true, decide_eq_true_eq]
    omega
  unfold begE begM
  rw [hb, hs]
  refine ⟨rfl, ?_⟩
  simp only [Bool.false_eq_true, if_false]
  have hl := insM_len (posM t x (i + 1) ms) ⟨t, x, i + 1, 1, ⟨#[]⟩⟩ ms
  have hp : ((insM (posM t x (i + 1) ms) ⟨t, x, i + 1, 1, ⟨#[]⟩⟩ ms).map (·.q)).Perm (List.range' (i + 1 - min i 1024) (min i 1024 + 1)) := by
    refine ((insM_perm _ _ _).map (·.q)).trans ?_
    rw [List.map_cons]
    refine (List.Perm.cons _ h.perm).trans ?_
    rw [List.range'_concat]
    have e : i + 1 - min i 1024 + 1 * min i 1024 = i + 1 := by omega
    rw [e]
    exact List.perm_append_comm (l₁ := [i + 1])
  generalize insM (posM t x (i + 1) ms) ⟨t, x, i + 1, 1, ⟨#[]⟩⟩ ms = is at hl hp ⊢
  rw [h.len] at hl
  unfold fullM
  split
  · have hc := cut_q hp
    have e1 : min i 1024 = 1024 := by omega
    have e2 : min (i + 1) 1024 = 1024 := by omega
    rw [e1] at hc
    refine ⟨?_, ?_⟩
    · have := hc.length_eq
      simp at this
      omega
    · rw [e2, show i + 1 + 1 - 1024 = i + 1 - 1024 + 1 by omega]; exact hc
  · have e1 : min i 1024 = i := by omega
    have e2 : min (i + 1) 1024 = i + 1 := by omega
    rw [e1] at hp hl
    refine ⟨by omega, ?_⟩
    rw [e2, show i + 1 + 1 - (i + 1) = 1 by omega]
    rw [show i + 1 - i = 1 by omega] at hp
    exact hp
/-- The least version, of at most 2^62. -/
def leastM (ms : List Mk) : Nat := ms.foldl (fun a m => min a m.q) 4611686018427387904
theorem least_next {ms : List Mk} {j : Nat} {m : Mk} (h : ms[j]? = some m) : leastM (ms.take (j + 1)) = min (leastM (ms.take j)) m.q := by
  unfold leastM
  rw [List.take_add_one, h, List.foldl_append]
  rfl
theorem least_spec : ∀ (ms : List Mk) (a : Nat), (ms.foldl (fun a m => min a m.q) a) ≤ a ∧ (∀ m ∈ ms, (ms.foldl (fun a m => min a m.q) a) ≤ m.q) ∧ ((ms.foldl (fun a m => min a m.q) a) = a ∨ ∃ m ∈ ms, (ms.foldl (fun a m => min a m.q) a) = m.q)
  | [], a => ⟨Nat.le_refl _, ⟨(fun m hm => by cases hm), Or.inl rfl⟩⟩
  | y :: r, a => by
    obtain ⟨h1, h2, h3⟩ := least_spec r (min a y.q)
    rw [List.foldl_cons]
    refine ⟨by omega, fun m hm => ?_, ?_⟩
    · rcases List.mem_cons.1 hm with rfl | hm
      · omega
      · exact h2 m hm
    · rcases h3 with h3 | ⟨m, hm, e⟩
      · rw [h3]
        by_cases hh : a ≤ y.q
        · exact .inl (by omega)
        · exact .inr ⟨y, List.mem_cons_self, by omega⟩
      · exact .inr ⟨m, List.mem_cons_of_mem _ hm, e⟩
theorem rm_least {i : Nat} {ms : List Mk} (h : RmI i ms) (h1 : 1024 ≤ i) (h2 : i ≤ 2000) : leastM ms = i + 1 - 1024 := by
  obtain ⟨a1, a2, a3⟩ := least_spec ms 4611686018427387904
  have e : min i 1024 = 1024 := by omega
  have hlo : i + 1 - 1024 ∈ ms.map (·.q) := h.perm.mem_iff.2 (by rw [e, List.mem_range'_1]; omega)
  obtain ⟨m, hm, em⟩ := List.mem_map.1 hlo
  have h3 := a2 m hm
  unfold leastM
  rcases a3 with a3 | ⟨k, hk, ek⟩
  · omega
  · have := (h.le hk).1
    rw [e] at this
    omega
theorem badK_three (t : Int) (b0 b1 b2 : UInt8) (q : Nat) (ht : 1 ≤ t) (ht' : t ≤ 5) (h0 : nmB (b0.toNat : Int) = true) (h1 : nmB (b1.toNat : Int) = true) (h2 : nmB (b2.toNat : Int) = true) (hq : 0 < q) : badK t ⟨#[b0, b1, b2]⟩ q = false := by
  have hk : nmOk ⟨#[b0, b1, b2]⟩ = true := by
    unfold nmOk
    have h3 : ((⟨#[b0, b1, b2]⟩ : ByteArray).data.toList.all fun x => nmB (x.toNat : Int)) = true := by
      show (nmB (b0.toNat : Int) && (nmB (b1.toNat : Int) && (nmB (b2.toNat : Int) && true))) = true
      rw [h0, h1, h2]; rfl
    rw [h3]; rfl
  have hs : starB ⟨#[b0, b1, b2]⟩ = false := by
    unfold starB
    rw [ByteArray.toList_eq]
    show ([b0, b1, b2] == [42]) = false
    rw [beq_eq_false_iff_ne]
    intro e
    simp at e
  unfold badK kyOk
  rw [hk, hs, decide_eq_true ht, decide_eq_true ht']
  have : ((q : Int) == 0) = false := beq_eq_false_iff_ne.2 (by omega)
  rw [this]; rfl
theorem nmB_az {n : Nat} (h1 : 97 ≤ n) (h2 : n ≤ 122) : nmB ((UInt8.ofNat n).toNat : Int) = true := by
  have e : (UInt8.ofNat n).toNat = n := by rw [UInt8.toNat_ofNat']; omega
  rw [e]
  unfold nmB
  simp only [Bool.or_eq_true, Bool.and_eq_true, decide_eq_true_eq]
  right; right; right; left
  omega
end Go.Proofs.YtjcfbpbmieepiaaDoor
