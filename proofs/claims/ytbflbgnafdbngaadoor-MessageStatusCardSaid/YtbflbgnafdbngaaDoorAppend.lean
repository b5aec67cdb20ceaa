/- What parse says of texts put one behind the other. No walk. -/
import Derived.Test.YtbflbgnafdbngaaDoorParse
import Derived.Test.YtbflbgnafdbngaaDoorNum
namespace Go.Proofs.YtbflbgnafdbngaaDoor

theorem rdF_append {t : List UInt8} : ∀ {l : List UInt8} {i acc : Nat} {r : Nat × Nat}, rdF i acc l = some r → rdF i acc (l ++ t) = some r
  | [], i, acc, r, h => by simp [rdF] at h
  | b :: l, i, acc, r, h => by
    unfold rdF at h
    rw [List.cons_append]
    unfold rdF
    split at h
    · cases h
    rename_i h1
    rw [if_neg h1]
    split at h
    · cases h
    rename_i h2
    rw [if_neg h2]
    split at h
    · rename_i h3
      rw [if_pos h3]; exact h
    · rename_i h3
      rw [if_neg h3]; exact rdF_append h
theorem rd_append {l t : List UInt8} {r : Nat × Nat} (h : rd l = some r) : rd (l ++ t) = some r := rdF_append h
theorem tagOf_append {l t : List UInt8} {r : Nat × Nat} (h : tagOf l = some r) : tagOf (l ++ t) = some r := by
  unfold tagOf at h ⊢
  cases hr : rd l with
  | none => rw [hr] at h; cases h
  | some p => rw [hr] at h; rw [rd_append hr]; exact h
theorem drop_append_le {l t : List UInt8} {k : Nat} (h : k ≤ l.length) : (l ++ t).drop k = l.drop k ++ t := List.drop_append_of_le_length h
theorem fieldOf_append {l t : List UInt8} {f : Fd} {k : Nat} (h : fieldOf l = some (f, k)) : fieldOf (l ++ t) = some (f, k) := by
  unfold fieldOf at h ⊢
  cases ht : tagOf l with
  | none => rw [ht] at h; cases h
  | some p =>
    obtain ⟨g, j⟩ := p
    have hj := tagOf_size ht
    rw [ht] at h
    rw [tagOf_append ht]
    simp only at h ⊢
    rw [drop_append_le hj.2.1]
    split at h
    · rename_i h1
      rw [if_pos h1]
      split at h
      · rename_i h2
        rw [if_pos (by rw [List.length_append]; omega), List.take_append_of_le_length (by rw [List.length_drop]; omega)]
        exact h
      · cases h
    · rename_i h1
      rw [if_neg h1]
      cases hr : rd (l.drop j) with
      | none => rw [hr] at h; cases h
      | some q =>
        obtain ⟨v, m⟩ := q
        have hm := rd_size hr
        rw [List.length_drop] at hm
        rw [hr] at h
        rw [rd_append hr]
        simp only at h ⊢
        split at h
        · rename_i h2
          rw [if_pos h2]; exact h
        · rename_i h2
          rw [if_neg h2]
          split at h
          · rename_i h3
            rw [if_pos (by rw [List.length_append]; omega), drop_append_le (by omega), List.take_append_of_le_length (by rw [List.length_drop]; omega)]
            exact h
          · cases h
theorem parse_append {t : List UInt8} : ∀ (n : Nat) {l : List UInt8} {fs : List Fd}, l.length ≤ n → parse l = some fs → parse (l ++ t) = (parse t).map (fs ++ ·)
  | n, [], fs, _, h => by
    rw [parse_nil] at h
    cases h
    simp
  | 0, b :: l, fs, hl, h => by simp at hl
  | n + 1, b :: l, fs, hl, h => by
    cases hf : fieldOf (b :: l) with
    | none => rw [parse_none hf (by simp)] at h; cases h
    | some p =>
      obtain ⟨f, k⟩ := p
      have hk := fieldOf_size hf
      rw [parse_some hf] at h
      cases hp : parse ((b :: l).drop k) with
      | none => rw [hp] at h; cases h
      | some r =>
        rw [hp] at h
        cases h
        rw [parse_some (fieldOf_append hf), drop_append_le hk.2, parse_append n (by rw [List.length_drop]; omega) hp]
        cases parse t <;> simp

/-- No more fields than bytes. -/
theorem parse_len : ∀ (n : Nat) {l : List UInt8} {fs : List Fd}, l.length ≤ n → parse l = some fs → fs.length ≤ l.length
  | n, [], fs, _, h => by
    rw [parse_nil] at h
    cases h
    simp
  | 0, b :: l, fs, hl, h => by simp at hl
  | n + 1, b :: l, fs, hl, h => by
    cases hf : fieldOf (b :: l) with
    | none => rw [parse_none hf (by simp)] at h; cases h
    | some p =>
      obtain ⟨f, k⟩ := p
      have hk := fieldOf_size hf
      rw [parse_some hf] at h
      cases hp : parse ((b :: l).drop k) with
      | none => rw [hp] at h; cases h
      | some r =>
        rw [hp] at h
        cases h
        have := parse_len n (by rw [List.length_drop]; omega) hp
        rw [List.length_drop] at this
        simp only [List.length_cons] at this hk ⊢
        omega

theorem vnt_tag {t : Nat} (h : t < 2 ^ 64) (r : List UInt8) (h1 : t ≤ 4294967295) (h8 : 8 ≤ t) (hk : kindB ((t % 8 : Nat) : Int) = true) : tagOf (vnt t ++ r) = some (t, (vnt t).length) := by
  have := hk
  simp only [tagOf, rd_vnt t r h]
  rw [if_pos ⟨h1, h8, this⟩]
/-- A number that was put is read. -/
theorem fieldOf_number (num : Int) (n : Nat) (r : List UInt8) (hn : n < 2 ^ 64) (h1 : 1 ≤ num) (h2 : num ≤ 536870911) : fieldOf (numberL num n ++ r) = some (⟨num.toNat, 0, n, []⟩, (numberL num n).length) := by
  have hN : numB num = true := by simp [numB, h1, h2]
  have hL : numberL num n = vnt (num.toNat * 8) ++ vnt n := by simp [numberL, hN, putL]
  have hm : num.toNat * 8 % 8 = 0 := by omega
  have ht := vnt_tag (t := num.toNat * 8) (by omega) (vnt n ++ r) (by omega) (by omega) (by rw [hm]; rfl)
  rw [hL, List.append_assoc]
  simp only [fieldOf, ht, hm]
  rw [if_neg (by omega), List.drop_left, rd_vnt n r hn]
  simp
/-- A text that was put is read. -/
theorem fieldOf_text (num : Int) (s : ByteArray) (r : List UInt8) (hs : s.size < 2 ^ 64) (h1 : 1 ≤ num) (h2 : num ≤ 536870911) : fieldOf (textL num s ++ r) = some (⟨num.toNat, 2, 0, s.data.toList⟩, (textL num s).length) := by
  have hN : numB num = true := by simp [numB, h1, h2]
  have hL : textL num s = vnt (num.toNat * 8 + 2) ++ (vnt s.size ++ s.data.toList) := by simp [textL, hN, putL]
  have hm : (num.toNat * 8 + 2) % 8 = 2 := by omega
  have hd : (num.toNat * 8 + 2) / 8 = num.toNat := by omega
  have ht := vnt_tag (t := num.toNat * 8 + 2) (by omega) (vnt s.size ++ (s.data.toList ++ r)) (by omega) (by omega) (by rw [hm]; rfl)
  have hsz : s.data.toList.length = s.size := by simp
  rw [hL]
  simp only [List.append_assoc]
  simp only [fieldOf, ht, hm, hd]
  rw [if_neg (by omega), List.drop_left, rd_vnt s.size _ hs]
  simp only
  rw [if_neg (by omega), if_pos (by simp only [List.length_append]; omega), ← List.drop_drop, List.drop_left, List.drop_left, List.take_append_of_le_length (by omega), List.take_of_length_le (by omega)]
  simp only [List.length_append, hsz, Nat.add_assoc]
theorem parse_number (num : Int) (n : Nat) (r : List UInt8) (hn : n < 2 ^ 64) (h1 : 1 ≤ num) (h2 : num ≤ 536870911) : parse (numberL num n ++ r) = (parse r).map (⟨num.toNat, 0, n, []⟩ :: ·) := by
  rw [parse_some (fieldOf_number num n r hn h1 h2), List.drop_left]
theorem parse_text (num : Int) (s : ByteArray) (r : List UInt8) (hs : s.size < 2 ^ 64) (h1 : 1 ≤ num) (h2 : num ≤ 536870911) : parse (textL num s ++ r) = (parse r).map (⟨num.toNat, 2, 0, s.data.toList⟩ :: ·) := by
  rw [parse_some (fieldOf_text num s r hs h1 h2), List.drop_left]
end Go.Proofs.YtbflbgnafdbngaaDoor
