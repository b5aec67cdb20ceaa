/- What parse says of a text that begins with one byte for Num and Kind. -/
import Derived.Test.YtjgelcneamijdaaDoorParse
namespace Go.Proofs.YtjgelcneamijdaaDoor
open Go.RowKit

theorem rd_one {x : UInt8} {bl : List UInt8} (h : x.toNat < 128) : rd (x :: bl) = some (x.toNat, 1) := by
  simp [rd, rdF, h, Nat.mod_eq_of_lt h]
theorem tagOf_one {x : UInt8} {bl : List UInt8} (h : x.toNat < 128) (h8 : 8 ≤ x.toNat) (hk : kindB ((x.toNat % 8 : Nat) : Int) = true) : tagOf (x :: bl) = some (x.toNat, 1) := by
  have h2 := hk
  simp only [tagOf, rd_one h]
  rw [if_pos ⟨by omega, h8, h2⟩]
theorem tagOf_bad {x : UInt8} {bl : List UInt8} (h : x.toNat < 128) (hk : kindB ((x.toNat % 8 : Nat) : Int) = false) : tagOf (x :: bl) = none := by
  simp only [tagOf, rd_one h]
  rw [if_neg (by rintro ⟨_, _, h3⟩; rw [hk] at h3; cases h3)]

theorem head_of {l : List UInt8} {f : Fd} {k : Nat} {fs : List Fd} (hf : fieldOf l = some (f, k)) (h : parse l = some fs) : ∃ rest, fs = f :: rest := by
  rw [parse_some hf] at h
  cases hp : parse (l.drop k) with
  | none => rw [hp] at h; simp at h
  | some r => rw [hp] at h; simp at h; exact ⟨r, h.symm⟩

/-- Kinds 1 and 5. -/
theorem kinds_fixed {x : UInt8} {bl : List UInt8} {κ σ : Nat} (h : x.toNat < 128) (h8 : 8 ≤ x.toNat) (hκ : x.toNat % 8 = κ) (hc : κ = 1 ∧ σ = 8 ∨ κ = 5 ∧ σ = 4) :
    (∀ fs, parse (x :: bl) = some fs → σ ≤ bl.length ∧ ∃ rest, fs = ⟨x.toNat / 8, κ, 0, bl.take σ⟩ :: rest) ∧ (parse (x :: bl) = none → bl.length ≠ σ) := by
  have ht := tagOf_one (bl := bl) h h8 (by rw [hκ]; rcases hc with ⟨rfl, rfl⟩ | ⟨rfl, rfl⟩ <;> rfl)
  have hsz : (fsz ((κ : Nat) : Int)).toNat = σ := by rcases hc with ⟨rfl, rfl⟩ | ⟨rfl, rfl⟩ <;> rfl
  have hor : κ = 1 ∨ κ = 5 := by omega
  have hf : fieldOf (x :: bl) = if 1 + σ ≤ bl.length + 1 then some (⟨x.toNat / 8, κ, 0, bl.take σ⟩, 1 + σ) else none := by
    simp only [fieldOf, ht, hκ]
    rw [if_pos hor, hsz]
    simp
  by_cases hl : σ ≤ bl.length
  · rw [if_pos (by omega)] at hf
    refine ⟨fun fs hp => ⟨hl, head_of hf hp⟩, fun hp he => ?_⟩
    rw [parse_some hf, List.drop_of_length_le (by simp; omega), parse_nil] at hp
    simp at hp
  · rw [if_neg (by omega)] at hf
    have hn := parse_none hf (by simp)
    exact ⟨fun fs hp => (by rw [hn] at hp; cases hp), fun _ => by omega⟩

/-- Kinds 0 and 2. -/
theorem kinds_num {x : UInt8} {bl : List UInt8} {κ : Nat} (h : x.toNat < 128) (h8 : 8 ≤ x.toNat) (hκ : x.toNat % 8 = κ) (hc : κ = 0 ∨ κ = 2) :
    ∀ fs, parse (x :: bl) = some fs → 0 < bl.length ∧ ∃ n s rest, fs = ⟨x.toNat / 8, κ, n, s⟩ :: rest := by
  have ht := tagOf_one (bl := bl) h h8 (by rw [hκ]; rcases hc with rfl | rfl <;> rfl)
  intro fs hp
  cases hf : fieldOf (x :: bl) with
  | none => rw [parse_none hf (by simp)] at hp; cases hp
  | some q =>
    obtain ⟨f, k⟩ := q
    obtain ⟨rest, rfl⟩ := head_of hf hp
    simp only [fieldOf, ht, hκ] at hf
    rw [if_neg (by omega)] at hf
    simp only [List.drop_succ_cons, List.drop_zero] at hf
    cases hr : rd bl with
    | none => rw [hr] at hf; simp at hf
    | some p =>
      have hs := rd_size hr
      rw [hr] at hf
      simp only at hf
      refine ⟨by omega, ?_⟩
      rcases hc with rfl | rfl
      · simp at hf
        exact ⟨_, _, rest, by rw [← hf.1]⟩
      · simp at hf
        exact ⟨_, _, rest, by rw [← hf.2.1]⟩

theorem kinds_bad {x : UInt8} {bl : List UInt8} (h : x.toNat < 128) (hk : kindB ((x.toNat % 8 : Nat) : Int) = false) : parse (x :: bl) = none :=
  parse_none (by simp [fieldOf, tagOf_bad h hk]) (by simp)
end Go.Proofs.YtjgelcneamijdaaDoor
