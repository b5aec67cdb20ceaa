/- Plain mathematics: a number written longer than it need be; no program. -/
import Derived.Test.YtkehanpgaahmlaaDoorPlain
namespace Go.Proofs.YtkehanpgaahmlaaDoor

/-- What the law that writes a number longer holds: q and y are the bytes, y the last. -/
def LRel (n : Nat) (q : List UInt8) (y : UInt8) : Prop :=
  y.toNat < 128 ∧ ∃ acc, (∀ t, rdF 0 0 (q ++ t) = if q.length ≤ 9 then rdF q.length acc t else none) ∧ (q.length ≤ 9 → acc + y.toNat * 128 ^ q.length = n ∧ (q.length = 9 → y.toNat ≤ 1))

theorem vi_split : ∀ (f i n acc : Nat), i + f = 9 → n * 128 ^ i < 2 ^ 64 →
    ∃ pre x, vi f n = pre ++ [x] ∧ x.toNat < 128 ∧ i + pre.length ≤ 9 ∧ (i + pre.length = 9 → x.toNat ≤ 1) ∧ ∃ acc', (∀ t, rdF i acc (pre ++ t) = rdF (i + pre.length) acc' t) ∧ acc' + x.toNat * 128 ^ (i + pre.length) = acc + n * 128 ^ i
  | 0, i, n, acc, hi, hn => by
    obtain rfl : i = 9 := by omega
    have hn' : n < 2 := by
      have : (128 : Nat) ^ 9 = 2 ^ 63 := by decide
      rw [this] at hn; omega
    have e : (UInt8.ofNat (n % 128)).toNat = n := by simp; omega
    exact ⟨[], UInt8.ofNat (n % 128), rfl, by rw [e]; omega, by simp, fun _ => by rw [e]; omega, acc, fun t => rfl, by rw [e]; rfl⟩
  | f + 1, i, n, acc, hi, hn => by
    by_cases h : n < 128
    · have e : (UInt8.ofNat n).toNat = n := by simp; omega
      refine ⟨[], UInt8.ofNat n, vi_lt h, by rw [e]; exact h, by simp; omega, fun h9 => ?_, acc, fun t => rfl, by rw [e]; rfl⟩
      simp at h9; omega
    · have h1 : (UInt8.ofNat (n % 128 + 128)).toNat = n % 128 + 128 := by simp; omega
      have e : n / 128 * 128 ^ (i + 1) + n % 128 * 128 ^ i = n * 128 ^ i := by
        rw [Nat.pow_succ, Nat.mul_comm (128 ^ i), ← Nat.mul_assoc, ← Nat.add_mul]
        congr 1; omega
      obtain ⟨pre, x, h2, h3, h4, h5, acc', h6, h7⟩ := vi_split f (i + 1) (n / 128) (acc + n % 128 * 128 ^ i) (by omega) (by omega)
      have hl : i + (UInt8.ofNat (n % 128 + 128) :: pre).length = i + 1 + pre.length := by simp; omega
      refine ⟨UInt8.ofNat (n % 128 + 128) :: pre, x, by rw [vi_ge (by omega), h2]; rfl, h3, by rw [hl]; exact h4, by rw [hl]; exact h5, acc', fun t => ?_, ?_⟩
      · rw [hl, ← h6 t]
        simp only [List.cons_append, rdF, h1]
        rw [if_neg (by omega), if_neg (by omega), if_neg (by omega), show (n % 128 + 128) % 128 = n % 128 by omega]
      · rw [hl, h7]; omega

theorem LRel.start (n : Nat) (h : n < 2 ^ 64) : ∃ q y, vnt n = q ++ [y] ∧ LRel n q y := by
  obtain ⟨pre, x, h2, h3, h4, h5, acc', h6, h7⟩ := vi_split 9 0 n 0 rfl (by simpa using h)
  simp only [Nat.zero_add, Nat.pow_zero, Nat.mul_one] at h4 h5 h6 h7
  exact ⟨pre, x, h2, h3, acc', fun t => by rw [h6 t, if_pos h4], fun _ => ⟨h7, h5⟩⟩

theorem LRel.step {n : Nat} {q : List UInt8} {y : UInt8} (h : LRel n q y) : LRel n (q ++ [UInt8.ofNat (y.toNat % 128 + 128)]) 0 := by
  obtain ⟨hy, acc, h1, h2⟩ := h
  have e : (UInt8.ofNat (y.toNat % 128 + 128)).toNat = y.toNat + 128 := by simp; omega
  refine ⟨by decide, n, fun t => ?_, fun _ => ⟨by simp, fun _ => by decide⟩⟩
  rw [List.append_assoc, h1]
  by_cases hq : q.length ≤ 9
  · rw [if_pos hq]
    simp only [List.cons_append, List.nil_append, rdF, e, List.length_append, List.length_singleton]
    rw [if_neg (by omega)]
    by_cases h9 : q.length = 9
    · rw [if_pos ⟨h9, by omega⟩, if_neg (by omega)]
    · rw [if_neg (by omega), if_neg (by omega), if_pos (by omega)]
      congr 1
      rw [show (y.toNat + 128) % 128 = y.toNat by omega, (h2 hq).1]
  · rw [if_neg hq, if_neg (by simp; omega)]

theorem LRel.read {n : Nat} {q : List UInt8} {y : UInt8} (h : LRel n q y) (t : List UInt8) : rd (q ++ [y] ++ t) = if q.length + 1 ≤ 10 then some (n, q.length + 1) else none := by
  obtain ⟨hy, acc, h1, h2⟩ := h
  unfold rd
  rw [List.append_assoc, h1]
  by_cases hq : q.length ≤ 9
  · rw [if_pos hq, if_pos (by omega)]
    obtain ⟨h3, h4⟩ := h2 hq
    simp only [List.cons_append, List.nil_append, rdF]
    rw [if_neg (by omega), if_neg (by omega), if_pos hy, Nat.mod_eq_of_lt hy, h3]
  · rw [if_neg hq, if_neg (by omega)]

end Go.Proofs.YtkehanpgaahmlaaDoor
