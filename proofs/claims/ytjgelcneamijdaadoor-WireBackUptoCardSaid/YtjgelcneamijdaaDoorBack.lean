/- WireBack's plain mathematics: four fields and back; a cut within the last. No program. -/
import Derived.Test.YtjgelcneamijdaaDoorAppend
import Derived.Test.YtjgelcneamijdaaDoorLast
namespace Go.Proofs.YtjgelcneamijdaaDoor

/-- A field that fills the text is not told by less of it. -/
theorem fieldOf_cut {l : List UInt8} {f : Fd} (h : fieldOf l = some (f, l.length)) (j : Nat) (hj : j < l.length) : fieldOf (l.take j) = none := by
  cases hp : fieldOf (l.take j) with
  | none => rfl
  | some r =>
    obtain ⟨f', k'⟩ := r
    have h2 := fieldOf_append (t := l.drop j) hp
    rw [List.take_append_drop, h] at h2
    have h3 := (fieldOf_size hp).2
    rw [List.length_take] at h3
    simp only [Option.some.injEq, Prod.mk.injEq] at h2
    omega

theorem parse_cut {l : List UInt8} {f : Fd} (h : fieldOf l = some (f, l.length)) (j : Nat) (h0 : 0 < j) (hj : j < l.length) : parse (l.take j) = none :=
  parse_none (fieldOf_cut h j hj) (by rw [List.length_take]; omega)

theorem textL_whole (num : Int) (s : ByteArray) (hs : s.size < 2 ^ 64) (h1 : 1 ≤ num) (h2 : num ≤ 536870911) : fieldOf (textL num s) = some (⟨num.toNat, 2, 0, s.data.toList⟩, (textL num s).length) := by
  have h := fieldOf_text num s [] hs h1 h2
  rwa [List.append_nil] at h

theorem textL_pos (num : Int) (s : ByteArray) (hs : s.size < 2 ^ 64) (h1 : 1 ≤ num) (h2 : num ≤ 536870911) : 0 < (textL num s).length :=
  (fieldOf_size (textL_whole num s hs h1 h2)).1

/-- The first three fields, and what is behind them. -/
theorem back_three (k : Int) (a b : Nat) (s : ByteArray) (r : List UInt8) (ha : a < 2 ^ 64) (hb : b < 2 ^ 64) (hs : s.size < 2 ^ 64) (h1 : 1 ≤ k) (h2 : k ≤ 65536) :
    parse (numberL k a ++ (textL k s ++ (numberL (k + 1) b ++ r))) = (parse r).map (fun fs => ⟨k.toNat, 0, a, []⟩ :: ⟨k.toNat, 2, 0, s.data.toList⟩ :: ⟨(k + 1).toNat, 0, b, []⟩ :: fs) := by
  rw [parse_number k a _ ha h1 (by omega), parse_text k s _ hs h1 (by omega), parse_number (k + 1) b _ hb (by omega) (by omega)]
  cases parse r <;> rfl

def four (k : Int) (a b : Nat) (s t : ByteArray) : List Fd :=
  [⟨k.toNat, 0, a, []⟩, ⟨k.toNat, 2, 0, s.data.toList⟩, ⟨(k + 1).toNat, 0, b, []⟩, ⟨(k + 1).toNat, 2, 0, t.data.toList⟩]

theorem back_whole (k : Int) (a b : Nat) (s t : ByteArray) (ha : a < 2 ^ 64) (hb : b < 2 ^ 64) (hs : s.size < 2 ^ 64) (ht : t.size < 2 ^ 64) (h1 : 1 ≤ k) (h2 : k ≤ 65536) :
    parse (numberL k a ++ (textL k s ++ (numberL (k + 1) b ++ textL (k + 1) t))) = some (four k a b s t) := by
  have h := parse_text (k + 1) t [] ht (by omega) (by omega)
  rw [List.append_nil, parse_nil] at h
  rw [back_three k a b s _ ha hb hs h1 h2, h]
  rfl

theorem back_cut (k : Int) (a b : Nat) (s t : ByteArray) (j : Nat) (ha : a < 2 ^ 64) (hb : b < 2 ^ 64) (hs : s.size < 2 ^ 64) (ht : t.size < 2 ^ 64) (h1 : 1 ≤ k) (h2 : k ≤ 65536) (h0 : 0 < j) (hj : j < (textL (k + 1) t).length) :
    parse (numberL k a ++ (textL k s ++ (numberL (k + 1) b ++ (textL (k + 1) t).take j))) = none := by
  rw [back_three k a b s _ ha hb hs h1 h2, parse_cut (textL_whole (k + 1) t ht (by omega) (by omega)) j h0 hj]
  rfl

theorem back_none (k : Int) (a b : Nat) (s : ByteArray) (ha : a < 2 ^ 64) (hb : b < 2 ^ 64) (hs : s.size < 2 ^ 64) (h1 : 1 ≤ k) (h2 : k ≤ 65536) :
    parse (numberL k a ++ (textL k s ++ (numberL (k + 1) b ++ []))) = some [⟨k.toNat, 0, a, []⟩, ⟨k.toNat, 2, 0, s.data.toList⟩, ⟨(k + 1).toNat, 0, b, []⟩] := by
  rw [back_three k a b s _ ha hb hs h1 h2, parse_nil]
  rfl

theorem four_lo (k : Int) (a b : Nat) (s t : ByteArray) (h1 : 1 ≤ k) : withL k (four k a b s t) = [⟨k.toNat, 0, a, []⟩, ⟨k.toNat, 2, 0, s.data.toList⟩] := by
  have e1 : ((k.toNat : Nat) : Int) = k := by omega
  have e2 : (((k + 1).toNat : Nat) : Int) = k + 1 := by omega
  have e3 : ¬ k + 1 = k := by omega
  simp [withL, four, hasNum, e1, e2, e3]

theorem four_hi (k : Int) (a b : Nat) (s t : ByteArray) (h1 : 1 ≤ k) : withL (k + 1) (four k a b s t) = [⟨(k + 1).toNat, 0, b, []⟩, ⟨(k + 1).toNat, 2, 0, t.data.toList⟩] := by
  have e1 : ((k.toNat : Nat) : Int) = k := by omega
  have e2 : (((k + 1).toNat : Nat) : Int) = k + 1 := by omega
  have e3 : ¬ k = k + 1 := by omega
  simp [withL, four, hasNum, e1, e2, e3]

theorem four_last (k : Int) (a b : Nat) (s t : ByteArray) (h1 : 1 ≤ k) : lastCells (withL k (four k a b s t)) = #[.int .i64 ((k.toNat : Nat) : Int), .int .i64 ((2 : Nat) : Int), .int .u64 ((0 : Nat) : Int), .string s] := by
  rw [four_lo k a b s t h1]
  rfl
end Go.Proofs.YtjgelcneamijdaaDoor
