/- Plain mathematics of wire: numbers as bytes and back; no program. -/
import Derived.KernelRfl
namespace Go.Proofs.YtogkdekjcbljnaaDoor

/-- n in groups of seven bits, the lowest first (f + 1 groups at most). -/
def vi : Nat → Nat → List UInt8
  | 0, n => [UInt8.ofNat (n % 128)]
  | f + 1, n => if n < 128 then [UInt8.ofNat n] else UInt8.ofNat (n % 128 + 128) :: vi f (n / 128)

def vnt (n : Nat) : List UInt8 := vi 9 n

theorem vi_lt {f n : Nat} (h : n < 128) : vi f n = [UInt8.ofNat n] := by
  cases f with
  | zero => simp [vi, Nat.mod_eq_of_lt h]
  | succ f => simp [vi, h]

theorem vi_ge {f n : Nat} (h : 128 ≤ n) : vi (f + 1) n = UInt8.ofNat (n % 128 + 128) :: vi f (n / 128) := by
  simp [vi]; omega

theorem vi_len : ∀ (f n : Nat), 1 ≤ (vi f n).length ∧ (vi f n).length ≤ f + 1
  | 0, n => by simp [vi]
  | f + 1, n => by
    have := vi_len f (n / 128)
    unfold vi; split <;> simp; omega

/-- The number that l begins with, i bytes of it read, acc of them known. -/
def rdF : Nat → Nat → List UInt8 → Option (Nat × Nat)
  | _, _, [] => none
  | i, acc, b :: t =>
    if 10 ≤ i then none
    else if i = 9 ∧ 1 < b.toNat then none
    else if b.toNat < 128 then some (acc + b.toNat % 128 * 128 ^ i, i + 1)
    else rdF (i + 1) (acc + b.toNat % 128 * 128 ^ i) t

def rd (l : List UInt8) : Option (Nat × Nat) := rdF 0 0 l

theorem rdF_stop (i acc : Nat) (l : List UInt8) (h : 10 ≤ i) : rdF i acc l = none := by
  cases l <;> simp [rdF, h]

theorem pow_bound {i acc x : Nat} (ha : acc < 128 ^ i) (hx : x < 128) : acc + x * 128 ^ i < 128 ^ (i + 1) := by
  have : x * 128 ^ i ≤ 127 * 128 ^ i := Nat.mul_le_mul_right _ (by omega)
  rw [Nat.pow_succ]; omega

/-- What is read behind vi's bytes is what was put. -/
theorem rdF_vi : ∀ (f i n acc : Nat) (t : List UInt8), i + f = 9 → n * 128 ^ i < 2 ^ 64 → rdF i acc (vi f n ++ t) = some (acc + n * 128 ^ i, i + (vi f n).length)
  | 0, i, n, acc, t, hi, hn => by
    obtain rfl : i = 9 := by omega
    have hn' : n < 2 := by
      have : (128 : Nat) ^ 9 = 2 ^ 63 := by decide
      rw [this] at hn; omega
    have : n = 0 ∨ n = 1 := by omega
    rcases this with rfl | rfl <;> simp [vi, rdF]
  | f + 1, i, n, acc, t, hi, hn => by
    by_cases h : n < 128
    · rw [vi_lt h]
      have h1 : (UInt8.ofNat n).toNat = n := by simp; omega
      simp only [List.cons_append, List.nil_append, rdF, h1]
      rw [if_neg (by omega), if_neg (by omega), if_pos h, Nat.mod_eq_of_lt h]
      rfl
    · have h1 : (UInt8.ofNat (n % 128 + 128)).toNat = n % 128 + 128 := by simp; omega
      rw [vi_ge (by omega)]
      simp only [List.cons_append, rdF, h1]
      rw [if_neg (by omega), if_neg (by omega), if_neg (by omega)]
      have e : n / 128 * 128 ^ (i + 1) + n % 128 * 128 ^ i = n * 128 ^ i := by
        rw [Nat.pow_succ, Nat.mul_comm (128 ^ i), ← Nat.mul_assoc, ← Nat.add_mul]
        congr 1; omega
      rw [rdF_vi f (i + 1) (n / 128) _ t (by omega) (by omega)]
      have e2 : (n % 128 + 128) % 128 = n % 128 := by omega
      rw [e2, Nat.add_assoc, Nat.add_comm (n % 128 * 128 ^ i), e]
      simp only [List.length_cons]
      congr 2; omega

theorem rd_vnt (n : Nat) (t : List UInt8) (h : n < 2 ^ 64) : rd (vnt n ++ t) = some (n, (vnt n).length) := by
  unfold rd vnt
  rw [rdF_vi 9 0 n 0 t rfl (by simpa using h)]
  simp

/-- How much is read of l. -/
theorem rdF_size : ∀ (l : List UInt8) (i acc v k : Nat), rdF i acc l = some (v, k) → i < k ∧ k ≤ i + l.length ∧ k ≤ 10
  | [], i, acc, v, k, h => by simp [rdF] at h
  | b :: t, i, acc, v, k, h => by
    unfold rdF at h
    split at h
    · simp at h
    split at h
    · simp at h
    split at h
    · simp at h; simp; omega
    · have := rdF_size t _ _ _ _ h; simp; omega

theorem rdF_bound : ∀ (l : List UInt8) (i acc v k : Nat), acc < 128 ^ i → acc < 2 ^ 64 → rdF i acc l = some (v, k) → v < 2 ^ 64
  | [], i, acc, v, k, _, _, h => by simp [rdF] at h
  | b :: t, i, acc, v, k, ha, ha2, h => by
    unfold rdF at h
    split at h
    · simp at h
    rename_i h10
    split at h
    · simp at h
    rename_i h9
    have hp := pow_bound ha (Nat.mod_lt b.toNat (by omega : 0 < 128))
    have h64 : acc + b.toNat % 128 * 128 ^ i < 2 ^ 64 := by
      by_cases hi : i = 9
      · subst hi
        have hb : b.toNat % 128 ≤ 1 := by omega
        have : (128 : Nat) ^ 9 = 2 ^ 63 := by decide
        rw [this] at ha ⊢
        have : b.toNat % 128 * 2 ^ 63 ≤ 1 * 2 ^ 63 := Nat.mul_le_mul_right _ hb
        omega
      · have : (128 : Nat) ^ (i + 1) ≤ 128 ^ 9 := Nat.pow_le_pow_right (by omega) (by omega)
        have e : (128 : Nat) ^ 9 < 2 ^ 64 := by decide
        omega
    split at h
    · simp at h; omega
    · exact rdF_bound t _ _ _ _ hp h64 h

theorem rd_size {l : List UInt8} {v k : Nat} (h : rd l = some (v, k)) : 0 < k ∧ k ≤ l.length ∧ k ≤ 10 := by
  have := rdF_size l 0 0 v k h; omega
theorem rd_bound {l : List UInt8} {v k : Nat} (h : rd l = some (v, k)) : v < 2 ^ 64 :=
  rdF_bound l 0 0 v k (by simp) (by omega) h

/-- One more byte: what the loop's body asks. -/
theorem rdF_cons (i acc : Nat) (b : UInt8) (t : List UInt8) (hi : i < 10) :
    rdF i acc (b :: t) = if i = 9 ∧ 1 < b.toNat then none else if b.toNat < 128 then some (acc + b.toNat % 128 * 128 ^ i, i + 1) else rdF (i + 1) (acc + b.toNat % 128 * 128 ^ i) t := by
  rw [rdF, if_neg (by omega)]

/-- What the loop that writes a number holds: pre has been written, k is left. -/
def VRel (n k : Nat) (pre : List UInt8) : Prop := ∃ f, vnt n = pre ++ vi f k ∧ pre.length + f = 9 ∧ k * 128 ^ pre.length ≤ n

theorem VRel.start (n : Nat) : VRel n n [] := ⟨9, rfl, rfl, by simp⟩
theorem VRel.len {n k : Nat} {pre : List UInt8} (h : VRel n k pre) : pre.length ≤ 9 := by
  obtain ⟨f, _, h, _⟩ := h; omega
theorem VRel.done {n k : Nat} {pre : List UInt8} (h : VRel n k pre) (hk : k < 128) : vnt n = pre ++ [UInt8.ofNat k] := by
  obtain ⟨f, h, _, _⟩ := h; rw [h, vi_lt hk]
theorem VRel.step {n k : Nat} {pre : List UInt8} (hn : n < 2 ^ 64) (h : VRel n k pre) (hk : 128 ≤ k) : VRel n (k / 128) (pre ++ [UInt8.ofNat (k % 128 + 128)]) := by
  obtain ⟨f, h, hl, hp⟩ := h
  cases f with
  | zero =>
    have : pre.length = 9 := by omega
    rw [this] at hp
    have e : (128 : Nat) ^ 9 = 2 ^ 63 := by decide
    rw [e] at hp
    omega
  | succ f =>
    refine ⟨f, by rw [h, vi_ge hk]; simp, by simp; omega, ?_⟩
    rw [List.length_append, List.length_singleton, Nat.pow_succ, Nat.mul_comm (128 ^ pre.length), ← Nat.mul_assoc]
    refine Nat.le_trans (Nat.mul_le_mul_right _ ?_) hp
    omega
theorem VRel.le {n k : Nat} {pre : List UInt8} (h : VRel n k pre) : k ≤ n := by
  obtain ⟨f, _, _, h⟩ := h
  exact Nat.le_trans (Nat.le_mul_of_pos_right _ (Nat.pow_pos (by omega))) h
theorem vnt_len (n : Nat) : 1 ≤ (vnt n).length ∧ (vnt n).length ≤ 10 := vi_len 9 n

/-- What the loop that reads a number holds: i bytes read, acc known. -/
def RRel (l : List UInt8) (i acc : Nat) : Prop := rdF i acc (l.drop i) = rd l ∧ acc < 128 ^ i

theorem RRel.start (l : List UInt8) : RRel l 0 0 := ⟨rfl, by simp⟩
theorem RRel.open {l : List UInt8} {j acc : Nat} (h : RRel l j acc) (hj : j < 10) (hl : j < l.length) :
    rd l = if j = 9 ∧ 1 < l[j].toNat then none else if l[j].toNat < 128 then some (acc + l[j].toNat % 128 * 128 ^ j, j + 1) else rdF (j + 1) (acc + l[j].toNat % 128 * 128 ^ j) (l.drop (j + 1)) := by
  rw [← h.1, List.drop_eq_getElem_cons hl, rdF_cons _ _ _ _ hj]
theorem RRel.bad {l : List UInt8} {j acc : Nat} (h : RRel l j acc) (hj : j = 9) (hl : j < l.length) (hx : 1 < l[j].toNat) : rd l = none := by
  rw [h.open (by omega) hl, if_pos ⟨hj, hx⟩]
theorem RRel.done {l : List UInt8} {j acc : Nat} (h : RRel l j acc) (hj : j < 10) (hl : j < l.length) (hx : ¬ (j = 9 ∧ 1 < l[j].toNat)) (h1 : l[j].toNat < 128) : rd l = some (acc + l[j].toNat % 128 * 128 ^ j, j + 1) := by
  rw [h.open hj hl, if_neg hx, if_pos h1]
theorem RRel.step {l : List UInt8} {j acc : Nat} (h : RRel l j acc) (hj : j < 10) (hl : j < l.length) (hx : ¬ (j = 9 ∧ 1 < l[j].toNat)) (h1 : ¬ l[j].toNat < 128) : RRel l (j + 1) (acc + l[j].toNat % 128 * 128 ^ j) := by
  refine ⟨?_, pow_bound h.2 (Nat.mod_lt _ (by omega))⟩
  rw [h.open hj hl, if_neg hx, if_neg h1]
theorem RRel.ten {l : List UInt8} {j acc : Nat} (h : RRel l j acc) (hj : 10 ≤ j) : rd l = none := by
  rw [← h.1, rdF_stop _ _ _ hj]
theorem RRel.short {l : List UInt8} {j acc : Nat} (h : RRel l j acc) (hl : l.length ≤ j) : rd l = none := by
  rw [← h.1, List.drop_of_length_le hl, rdF]

theorem or_plain {acc x j : Nat} (ha : acc < 128 ^ j) : acc ||| x * 128 ^ j = acc + x * 128 ^ j := by
  have e : (128 : Nat) ^ j = 2 ^ (7 * j) := by rw [Nat.pow_mul]
  rw [e] at ha ⊢
  rw [Nat.or_comm, Nat.mul_comm, ← Nat.two_pow_add_eq_or_of_lt ha, Nat.add_comm]
theorem sum_lt {acc x j : Nat} (ha : acc < 128 ^ j) (hj : j < 10) (hx : ¬ (j = 9 ∧ 1 < x)) (h128 : x < 128) : acc + x * 128 ^ j < 18446744073709551616 ∧ x * 128 ^ j < 18446744073709551616 ∧ acc < 18446744073709551616 := by
  have h9 : (128 : Nat) ^ 9 = 9223372036854775808 := by decide
  by_cases e : j = 9
  · subst e
    rw [h9] at ha ⊢
    have : x ≤ 1 := by omega
    have : x * 9223372036854775808 ≤ 1 * 9223372036854775808 := Nat.mul_le_mul_right _ this
    omega
  · have : (128 : Nat) ^ (j + 1) ≤ 128 ^ 9 := Nat.pow_le_pow_right (by omega) (by omega)
    have := pow_bound ha h128
    rw [h9] at *
    omega

end Go.Proofs.YtogkdekjcbljnaaDoor
