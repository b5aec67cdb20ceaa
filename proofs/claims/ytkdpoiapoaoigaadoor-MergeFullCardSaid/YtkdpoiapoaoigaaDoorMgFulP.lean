/- merge: what Full says (no program). -/
import Derived.Test.YtkdpoiapoaoigaaDoorMgAgP
namespace Go.Proofs.YtkdpoiapoaoigaaDoor
open Go.RowKit Go.Lib

/-- The i-th of the names that Full makes. -/
def nmF (i : Nat) : List UInt8 := [UInt8.ofNat (97 + i / 20), UInt8.ofNat (97 + i % 20)]
def fL (f n : Nat) : List (List UInt8) := (List.range n).map fun j => nmF (f + j)
theorem fL_len (f n : Nat) : (fL f n).length = n := by simp [fL]
theorem fL_next (f n : Nat) : fL f (n + 1) = fL f n ++ [nmF (f + n)] := by simp [fL, List.range_succ]
theorem mem_fL {f n : Nat} {x : List UInt8} : x ∈ fL f n ↔ ∃ j, j < n ∧ nmF (f + j) = x := by
  unfold fL
  rw [List.mem_map]
  constructor
  · rintro ⟨j, h, e⟩; exact ⟨j, List.mem_range.1 h, e⟩
  · rintro ⟨j, h, e⟩; exact ⟨j, List.mem_range.2 h, e⟩
theorem byteF {j : Nat} (hj : j < 100) : (UInt8.ofNat (97 + j)).toNat = 97 + j := by simp; omega
theorem nmF_lt {i j : Nat} (h : i < j) (hj : j < 180) : nmF i < nmF j := by
  unfold nmF
  rw [List.cons_lt_cons_iff]
  have b1 := byteF (j := i / 20) (by omega)
  have b2 := byteF (j := j / 20) (by omega)
  have b3 := byteF (j := i % 20) (by omega)
  have b4 := byteF (j := j % 20) (by omega)
  by_cases e : i / 20 = j / 20
  · refine .inr ⟨by rw [e], ?_⟩
    rw [List.cons_lt_cons_iff]
    refine .inl ?_
    rw [UInt8.lt_iff_toNat_lt, b3, b4]
    omega
  · refine .inl ?_
    rw [UInt8.lt_iff_toNat_lt, b1, b2]
    omega
theorem nmF_inj {i j : Nat} (hi : i < 180) (hj : j < 180) (h : nmF i = nmF j) : i = j := by
  rcases Nat.lt_trichotomy i j with hlt | e | hlt
  · have := nmF_lt hlt hj; rw [h] at this; exact absurd this (List.lt_irrefl _)
  · exact e
  · have := nmF_lt hlt hi; rw [h] at this; exact absurd this (List.lt_irrefl _)
set_option maxRecDepth 1000000 in
theorem nmF_ok : ∀ i, i < 180 → okN (nmF i) = true := by decide
theorem fL_rises {f n : Nat} (h : f + n ≤ 180) : Rises (fL f n) := by
  unfold Rises fL
  rw [List.pairwise_map]
  refine List.Pairwise.imp_of_mem ?_ List.pairwise_lt_range
  intro a b ha hb hab
  have := List.mem_range.1 hb
  exact nmF_lt (by omega) (by omega)
theorem fL_ok {f n : Nat} (h : f + n ≤ 180) : ∀ x ∈ fL f n, okN x = true := fun x hx => by
  obtain ⟨j, hj, rfl⟩ := mem_fL.1 hx
  exact nmF_ok _ (by omega)
abbrev fS (f n : Nat) : Ns := ⟨false, fL f n⟩
theorem fS_r {f n : Nat} (h : f + n ≤ 180) : NsR (fS f n) := ⟨fL_rises h, fL_ok h⟩
theorem fS_list (f n : Nat) : nList (fS f n) = fL f n := rfl
theorem fS_of {f n : Nat} (h : f + n ≤ 180) : nOf okN (fL f n) = ⟨false, fL f n⟩ := by
  have := of_list (fS_r h)
  rw [fS_list] at this
  exact this
theorem fL_two {f n : Nat} {x : List UInt8} (hx : x ∈ fL f n) : x.length = 2 := by
  obtain ⟨j, _, rfl⟩ := mem_fL.1 hx
  rfl
theorem fL_fit {f n : Nat} (h : n ≤ 200) : NmFit (fL f n) := list_fit (by rw [fL_len]; omega) (fun x hx => by rw [fL_two hx]; decide)
theorem fL_apart {a b x y : Nat} (h1 : a + x ≤ b) (h2 : b + y ≤ 180) {z : List UInt8} (hz : z ∈ fL a x) : z ∉ fL b y := fun hz' => by
  obtain ⟨i, hi, rfl⟩ := mem_fL.1 hz
  obtain ⟨j, hj, e⟩ := mem_fL.1 hz'
  have := nmF_inj (by omega) (by omega) e
  omega

section
variable {x y : Nat}
noncomputable abbrev fW1 (x : Nat) : Wants := wset W0 2 1 (fS 0 x)
noncomputable abbrev fW2 (x y : Nat) : Wants := wset (fW1 x) 3 1 (fS 100 y)
theorem fw1_ok (hx : x ≤ 64) : WOk (fW1 x) := wset_ok w0_ok (fS_r (by omega)) (by decide)
theorem fw1_u (hx : x ≤ 64) : uni (fW1 x) 1 = fS 0 x := uni_one w0_ok (fS_r (by omega)) (by decide) (fun _ _ => rfl)
theorem fw1_set (hx : x ≤ 64) : setE W0 2 1 (fS 0 x) = 0 ∧ setW W0 2 1 (fS 0 x) = fW1 x := by
  obtain ⟨h1, h2, _⟩ := setE_ok (W := W0) (i := 2) (k := 1) (s := fS 0 x) (by decide) (by rw [fS_list, fL_len]; exact hx) (by rw [fw1_u hx, fS_list, fL_len]; exact hx)
  exact ⟨h1, h2⟩
theorem fw2_u (hx : x ≤ 64) (hy : y ≤ 79) : uni (fW2 x y) 1 = nUnion [fS 0 x, fS 100 y] := by
  rw [uni_more (fw1_ok hx) (fS_r (by omega)) (by decide) (wset_id (by decide)), fw1_u hx]
theorem fu_list (hx : x ≤ 64) (hy : y ≤ 79) : nList (nUnion [fS 0 x, fS 100 y]) = fL 0 x ++ fL 100 y := by
  show srt ([fS 0 x, fS 100 y].flatMap (·.ns)) = _
  have e : [fS 0 x, fS 100 y].flatMap (·.ns) = fL 0 x ++ fL 100 y := by simp
  rw [e]
  refine srt_self ?_
  unfold Rises
  rw [List.pairwise_append]
  refine ⟨fL_rises (by omega), fL_rises (by omega), fun a ha b hb => ?_⟩
  obtain ⟨i, hi, rfl⟩ := mem_fL.1 ha
  obtain ⟨j, hj, rfl⟩ := mem_fL.1 hb
  exact nmF_lt (by omega) (by omega)
theorem fw2_e (hx : x ≤ 64) (hy : y ≤ 79) : setE (fW1 x) 3 1 (fS 100 y) = if x + y ≤ 64 then 0 else 4 := by
  have hl : (nList (uni (fW2 x y) 1)).length = x + y := by rw [fw2_u hx hy, fu_list hx hy, List.length_append, fL_len, fL_len]
  unfold setE
  rw [if_neg (by decide), hl, fS_list, fL_len]
  by_cases h : x + y ≤ 64
  · rw [if_pos h, if_neg (by omega), if_neg (by omega)]
  · rw [if_neg h]
    by_cases h' : 64 < y
    · rw [if_pos h']
    · rw [if_neg h', if_pos (by omega)]
theorem fw2_yes (hx : x ≤ 64) (hy : y ≤ 79) (h : x + y ≤ 64) : setE (fW1 x) 3 1 (fS 100 y) = 0 ∧ setM (fW1 x) 3 1 (fS 100 y) = fS 100 y ∧ setL (fW1 x) 3 1 (fS 100 y) = Ns.zero := by
  have e : setE (fW1 x) 3 1 (fS 100 y) = 0 := by rw [fw2_e hx hy, if_pos h]
  have hu : ∀ z, z ∈ (nUnion [fS 0 x, fS 100 y]).ns ↔ z ∈ fL 0 x ∨ z ∈ fL 100 y := fun z => mem_union2 _ _ z
  refine ⟨e, ?_, ?_⟩
  · unfold setM
    rw [if_pos e, fw2_u hx hy, fw1_u hx]
    refine ns_eq rfl (rises_eq (srt_rises _) (fL_rises (by omega)) fun z => ?_)
    refine (mem_less _ _ z).trans ?_
    rw [hu]
    constructor
    · rintro ⟨h1 | h1, h2⟩
      · exact absurd h1 h2
      · exact h1
    · intro h1
      exact ⟨.inr h1, fun h2 => fL_apart (a := 0) (b := 100) (by omega) (by omega) h2 h1⟩
  · unfold setL
    rw [if_pos e, fw2_u hx hy, fw1_u hx]
    refine ns_eq rfl (rises_eq (srt_rises _) List.Pairwise.nil fun z => ?_)
    refine (mem_less _ _ z).trans ?_
    rw [hu]
    constructor
    · rintro ⟨h1, h2⟩; exact absurd (.inl h1) h2
    · intro h1; cases h1
theorem fw2_no (hx : x ≤ 64) (hy : y ≤ 79) (h : ¬ x + y ≤ 64) : setE (fW1 x) 3 1 (fS 100 y) = 4 ∧ setW (fW1 x) 3 1 (fS 100 y) = fW1 x ∧ setM (fW1 x) 3 1 (fS 100 y) = Ns.zero ∧ setL (fW1 x) 3 1 (fS 100 y) = Ns.zero := by
  have e : setE (fW1 x) 3 1 (fS 100 y) = 4 := by rw [fw2_e hx hy, if_neg h]
  refine ⟨e, ?_, ?_, ?_⟩
  · unfold setW; rw [if_neg (by omega)]
  · unfold setM; rw [if_neg (by omega)]
  · unfold setL; rw [if_neg (by omega)]
theorem fw1_31 : fW1 x 3 1 = Ns.zero := wset_id (by decide)
end
end Go.Proofs.YtkdpoiapoaoigaaDoor
