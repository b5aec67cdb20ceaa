/- link: a stream, plain. No program. -/
import Derived.Test.YtkfbhiggnnjoiaaDoorFrPlain
namespace Go.Proofs.YtkfbhiggnnjoiaaDoor

/-- One way: what waits, and what the reader has left. -/
structure Wy where
  W : List UInt8
  S : List UInt8
structure Lk where
  a : Wy
  b : Wy
  ep : Nat
  tk : Nat
def Lk.at (x : Lk) (k : Nat) : Wy := if k = 0 then x.a else x.b
def Lk.put (x : Lk) (k : Nat) (y : Wy) : Lk := if k = 0 then { x with a := y } else { x with b := y }
def lk0 (e : Nat) : Lk := ⟨⟨[], []⟩, ⟨[], []⟩, e, 0⟩
@[simp] theorem Lk.at_0 (x : Lk) : x.at 0 = x.a := rfl
@[simp] theorem Lk.at_1 (x : Lk) : x.at 1 = x.b := rfl
theorem Lk.put_ep (x : Lk) (k : Nat) (y : Wy) : (x.put k y).ep = x.ep := by unfold Lk.put; split <;> rfl
theorem Lk.put_tk (x : Lk) (k : Nat) (y : Wy) : (x.put k y).tk = x.tk := by unfold Lk.put; split <;> rfl
theorem Lk.put_same (x : Lk) (k : Nat) (y : Wy) : (x.put k y).at k = y := by unfold Lk.put Lk.at; split <;> rfl
theorem Lk.put_other (x : Lk) {k j : Nat} (y : Wy) (hk : k < 2) (hj : j < 2) (h : j ≠ k) : (x.put k y).at j = x.at j := by
  unfold Lk.put Lk.at
  by_cases h0 : k = 0
  · subst h0; rw [if_pos rfl, if_neg h, if_neg h]
  · rw [if_neg h0]
    obtain rfl : j = 0 := by omega
    rfl
/-- What fits. -/
structure Wy.Ok (y : Wy) : Prop where
  room : y.W.length ≤ 262144
  short : takeOf y.S = .short
theorem Wy.Ok.len {y : Wy} (h : y.Ok) : y.S.length < 65540 := takeOf_short h.short
theorem Wy.ok0 : (⟨[], []⟩ : Wy).Ok := ⟨Nat.zero_le _, takeOf_nil⟩

/-- Bytes laid: the error, and what the stream is behind it. -/
def injL (x : Lk) (k : Nat) (s : List UInt8) : Nat × Lk :=
  if 262144 < (x.at k).W.length + s.length then (4, x) else (0, x.put k ⟨(x.at k).W ++ s, (x.at k).S⟩)
/-- A message sent. -/
def sendL (x : Lk) (k : Nat) (s : List UInt8) : Nat × Lk :=
  if 1 ≤ s.length ∧ s.length ≤ 65536 then injL x k (packL s) else (3, x)
/-- Taken: the messages, the error, the stream. -/
def takeL (x : Lk) (k n : Nat) : List (List UInt8) × Nat × Lk :=
  let f := feedL ((x.at k).S ++ (x.at k).W.take n)
  match f.bad with
  | some m => (f.ms, errN m, lk0 (x.ep + 1))
  | none => (f.ms, 0, x.put k ⟨(x.at k).W.drop n, f.rest⟩)
def Lk.Ok (x : Lk) : Prop := x.a.Ok ∧ x.b.Ok
theorem Lk.Ok.at {x : Lk} (h : x.Ok) (k : Nat) : (x.at k).Ok := by unfold Lk.at; split; exact h.1; exact h.2
theorem Lk.Ok.put {x : Lk} (h : x.Ok) (k : Nat) {y : Wy} (hy : y.Ok) : (x.put k y).Ok := by
  unfold Lk.put; split
  · exact ⟨hy, h.2⟩
  · exact ⟨h.1, hy⟩
theorem lk0_ok (e : Nat) : (lk0 e).Ok := ⟨Wy.ok0, Wy.ok0⟩
/-- What a reader has been fed is within its bounds. -/
theorem feed_small {S c : List UInt8} (hS : S.length < 65540) (hc : c.length ≤ 262144) : (feedL (S ++ c)).ms.length ≤ 65537 := by
  have := feedL_len (S ++ c)
  rw [List.length_append] at this
  omega
theorem take_ok {y : Wy} (h : y.Ok) (n : Nat) (hb : (feedL (y.S ++ y.W.take n)).bad = none) : (⟨y.W.drop n, (feedL (y.S ++ y.W.take n)).rest⟩ : Wy).Ok :=
  ⟨by have := h.room; rw [List.length_drop]; omega, feedL_rest _ hb⟩
end Go.Proofs.YtkfbhiggnnjoiaaDoor
