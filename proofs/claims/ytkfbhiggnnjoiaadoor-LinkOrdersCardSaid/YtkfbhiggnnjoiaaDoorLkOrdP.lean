/- link: what comes of what was sent; plain. -/
import Derived.Test.YtkfbhiggnnjoiaaDoorLkTwo
namespace Go.Proofs.YtkfbhiggnnjoiaaDoor
open Go.RowKit Go.Lib

def cutT (c : UInt8) (s : ByteArray) : ByteArray := (⟨#[c]⟩ : ByteArray) ++ s.extract 0 (min s.size 60)
theorem cutT_size (c : UInt8) (s : ByteArray) : 1 ≤ (cutT c s).size ∧ (cutT c s).size ≤ 61 := by
  have := cut_size' s (min s.size 60) (Nat.min_le_left _ _) c
  unfold cutT; omega
def cutL (c : UInt8) (ms : List ByteArray) (k : Nat) : List (List UInt8) := (ms.take k).map fun s => (cutT c s).data.toList
theorem cutL_len (c : UInt8) (ms : List ByteArray) (k : Nat) : (cutL c ms k).length ≤ k := by unfold cutL; rw [List.length_map, List.length_take]; omega
theorem cutL_more (c : UInt8) (ms : List ByteArray) {k : Nat} (h : k < ms.length) : cutL c ms (k + 1) = cutL c ms k ++ [(cutT c ms[k]).data.toList] := by
  unfold cutL; rw [List.take_succ_eq_append_getElem h, List.map_append]; rfl
theorem cutL_end (c : UInt8) (ms : List ByteArray) {k : Nat} (h : ms.length ≤ k) : cutL c ms (k + 1) = cutL c ms k := by
  unfold cutL; rw [List.take_of_length_le h, List.take_of_length_le (by omega)]
theorem cutL_ok (c : UInt8) (ms : List ByteArray) (k : Nat) : ∀ s ∈ cutL c ms k, okM s ∧ s.length ≤ 61 := by
  intro s hs
  unfold cutL at hs
  obtain ⟨t, _, rfl⟩ := List.mem_map.1 hs
  have := cutT_size c t
  exact ⟨⟨this.1, by show (cutT c t).size ≤ _; omega⟩, this.2⟩
theorem packs_len : ∀ (l : List (List UInt8)), (∀ s ∈ l, okM s ∧ s.length ≤ 61) → (l.flatMap packL).length ≤ 65 * l.length
  | [], _ => by simp
  | s :: l, h => by
    have h1 := packs_len l (fun x hx => h x (List.mem_cons_of_mem _ hx))
    have h2 := (h s List.mem_cons_self).2
    rw [List.flatMap_cons, List.length_append, packL_len, List.length_cons]; omega
/-- What waits when these were sent. -/
def lkW (U D : List (List UInt8)) : Lk := ⟨⟨U.flatMap packL, []⟩, ⟨D.flatMap packL, []⟩, 1, 0⟩
theorem send_w0 {U D : List (List UInt8)} {s : List UInt8} (hU : ∀ s ∈ U, okM s ∧ s.length ≤ 61) (hn : U.length ≤ 100) (h1 : 1 ≤ s.length) (h2 : s.length ≤ 61) : sendL (lkW U D) 0 s = (0, lkW (U ++ [s]) D) := by
  have hp := packs_len U hU
  unfold sendL injL
  rw [if_pos ⟨h1, by omega⟩, if_neg (by rw [packL_len]; show ¬ 262144 < (U.flatMap packL).length + _; omega)]
  simp [lkW, Lk.put]
theorem send_w1 {U D : List (List UInt8)} {s : List UInt8} (hD : ∀ s ∈ D, okM s ∧ s.length ≤ 61) (hn : D.length ≤ 100) (h1 : 1 ≤ s.length) (h2 : s.length ≤ 61) : sendL (lkW U D) 1 s = (0, lkW U (D ++ [s])) := by
  have hp := packs_len D hD
  unfold sendL injL
  rw [if_pos ⟨h1, by omega⟩, if_neg (by rw [packL_len]; show ¬ 262144 < (D.flatMap packL).length + _; omega)]
  simp [lkW, Lk.put]

/-- A step of the cutting. -/
theorem cut_step {S A : List UInt8} {rem : List (List UInt8)} (h : feedL (S ++ A) = ⟨rem, [], none⟩) (N : Nat) :
    ∃ m1 S1 rem', feedL (S ++ A.take N) = ⟨m1, S1, none⟩ ∧ feedL (S1 ++ A.drop N) = ⟨rem', [], none⟩ ∧ rem = m1 ++ rem' := by
  have e : S ++ A = (S ++ A.take N) ++ A.drop N := by rw [List.append_assoc, List.take_append_drop]
  have hb : (feedL (S ++ A.take N)).bad = none := by
    cases hb : (feedL (S ++ A.take N)).bad with
    | none => rfl
    | some n =>
      have := (feedL_bad_append (A.drop N) (S ++ A.take N) (by rw [hb]; simp)).2
      rw [← e, h, hb] at this
      cases this
  have ha := feedL_append (A.drop N) (S ++ A.take N) hb
  rw [← e, h] at ha
  have h1 := congrArg Fed.ms ha
  have h2 := congrArg Fed.rest ha
  have h3 := congrArg Fed.bad ha
  simp only at h1 h2 h3
  refine ⟨(feedL (S ++ A.take N)).ms, (feedL (S ++ A.take N)).rest, (feedL ((feedL (S ++ A.take N)).rest ++ A.drop N)).ms, ?_, ?_, h1⟩
  · rw [← hb]
  · rw [h2, h3]
theorem cut_end {S : List UInt8} {rem : List (List UInt8)} (h : feedL (S ++ []) = ⟨rem, [], none⟩) (hs : takeOf S = .short) : rem = [] := by
  rw [List.append_nil, feedL_short hs] at h
  exact (congrArg Fed.ms h).symm

structure Or2 (WL G : Nat → List (List UInt8)) (x : Lk) (j : Nat) : Prop where
  ep : x.ep = 1
  way : ∀ k, k < 2 → ∃ rem, G k ++ rem = WL k ∧ feedL ((x.at k).S ++ (x.at k).W) = ⟨rem, [], none⟩
  len : ∀ k, k < 2 → (x.at k).W.length ≤ 650
  jb : j ≤ 62
  e0 : 61 ≤ j → (x.at 0).W = []
  e1 : 62 ≤ j → (x.at 1).W = []
theorem Or2.start (U D : List (List UInt8)) (hU : ∀ s ∈ U, okM s ∧ s.length ≤ 61) (hD : ∀ s ∈ D, okM s ∧ s.length ≤ 61) (h1 : U.length ≤ 10) (h2 : D.length ≤ 10) : Or2 (fun k => if k = 0 then U else D) (fun _ => []) (lkW U D) 0 := by
  have hp := packs_len U hU
  have hq := packs_len D hD
  have hf : ∀ (l : List (List UInt8)), (∀ s ∈ l, okM s ∧ s.length ≤ 61) → feedL ([] ++ l.flatMap packL) = ⟨l, [], none⟩ := by
    intro l hl
    have := feedL_packs l [] (fun s hs => (hl s hs).1)
    rw [feedL_nil, List.append_nil, List.append_nil] at this
    exact this
  refine ⟨rfl, ?_, ?_, by omega, fun h => by omega, fun h => by omega⟩
  · intro k hk
    match k, hk with
    | 0, _ => exact ⟨U, rfl, hf U hU⟩
    | 1, _ => exact ⟨D, rfl, hf D hD⟩
  · intro k hk
    match k, hk with
    | 0, _ => show (U.flatMap packL).length ≤ _; omega
    | 1, _ => show (D.flatMap packL).length ≤ _; omega
theorem Or2.step {WL G : Nat → List (List UInt8)} {x : Lk} {j k N : Nat} (h : Or2 WL G x j) (hk : k = j % 2) (hj : j ≤ 61) (hN : 60 ≤ j → 650 ≤ N) :
    ∃ m1 x', takeL x k N = (m1, 0, x') ∧ Or2 WL (updF G k (G k ++ m1)) x' (j + 1) ∧ ((G k).length + m1.length ≤ (WL k).length) := by
  have hk2 : k < 2 := by omega
  obtain ⟨rem, hg, hf⟩ := h.way k hk2
  obtain ⟨m1, S1, rem', f1, f2, e12⟩ := cut_step hf N
  have ht : takeL x k N = (m1, 0, x.put k ⟨(x.at k).W.drop N, S1⟩) := by unfold takeL; simp only [f1]
  have hlen := h.len k hk2
  refine ⟨m1, _, ht, ⟨?_, ?_, ?_, by omega, ?_, ?_⟩, ?_⟩
  · rw [Lk.put_ep]; exact h.ep
  · intro i hi
    by_cases e : i = k
    · subst e
      rw [Lk.put_same, updF_same]
      exact ⟨rem', by rw [List.append_assoc, ← e12]; exact hg, f2⟩
    · rw [Lk.put_other _ _ hk2 hi e, updF_other _ _ e]; exact h.way i hi
  · intro i hi
    by_cases e : i = k
    · subst e; rw [Lk.put_same]; show (List.drop N _).length ≤ _; rw [List.length_drop]; omega
    · rw [Lk.put_other _ _ hk2 hi e]; exact h.len i hi
  · intro h61
    by_cases e : 0 = k
    · subst e; rw [Lk.put_same]; exact List.drop_eq_nil_of_le (by have := hN (by omega); omega)
    · rw [Lk.put_other _ _ hk2 (by omega) e]; exact h.e0 (by omega)
  · intro h62
    have : k = 1 := by omega
    subst this
    rw [Lk.put_same]; exact List.drop_eq_nil_of_le (by have := hN (by omega); omega)
  · have := congrArg List.length hg
    rw [e12, List.length_append, List.length_append] at this; omega
theorem Or2.done {WL G : Nat → List (List UInt8)} {x : Lk} {j k : Nat} (h : Or2 WL G x j) (hx : x.Ok) (hk : k < 2) (hw : (x.at k).W = []) : G k = WL k := by
  obtain ⟨rem, hg, hf⟩ := h.way k hk
  rw [hw] at hf
  have := cut_end hf (hx.at k).short
  rw [this, List.append_nil] at hg; exact hg
end Go.Proofs.YtkfbhiggnnjoiaaDoor
