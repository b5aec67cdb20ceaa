/- Small aids of the walks: owned rows, bytes. -/
import Derived.WalkKit
import Derived.Below
import Derived.Laws.IdiomStrings
import Derived.Laws.OwnMore
import Derived.RangeFuncBox
import Derived.IntWalk
import Derived.Laws.BitsAllLaws
import Derived.Test.YtogkdekjcbljnaaDoorPlain
namespace Go.Proofs.YtogkdekjcbljnaaDoor
open Go.RowKit

theorem owns_block {w : World} {base : Nat} {e : TypeId} {size : Nat} {v : Value} {n : Nat} {xs : List Value} (h : w.ownsRow base e size v n xs) : ∀ k, v.ownBlock = some k → base ≤ k := by
  rcases h.2 with ⟨rfl, _⟩ | ⟨g, cap, cur, rfl, hb, _⟩
  · intro k e; simp [Value.ownBlock] at e
  · intro k e; simp [Value.ownBlock] at e; omega

theorem owns_slice {w : World} {base : Nat} {e : TypeId} {size : Nat} {v : Value} {n : Nat} {xs : List Value} (h : w.ownsRow base e size v n xs) : ∃ a c, v = .slice a n c := by
  rcases h.2 with ⟨rfl, rfl⟩ | ⟨g, cap, cur, rfl, _⟩
  · exact ⟨_, _, rfl⟩
  · exact ⟨_, _, rfl⟩

/-- The number of a byte with its top bit set. -/
theorem bits_or128 : ∀ m : Nat, m < 256 → bits BinOp.or IntKind.u8 (m : Int) 128 = ((m % 128 + 128 : Nat) : Int) := by
  intro m hm
  have : ∀ m : Fin 256, bits BinOp.or IntKind.u8 ((m.val : Nat) : Int) 128 = ((m.val % 128 + 128 : Nat) : Int) := by decide +kernel
  exact this ⟨m, hm⟩

/-- 'string(b)' of a row of the call's own that holds the bytes l. -/
theorem convert_owned {P : Program} {w : World} {base g cap n : Nat} {e src dst : TypeId} {l : List UInt8} (hs : P.underlying src = some (.slice e)) (he : P.underlying e = some (.int .u8)) (hd : P.underlying dst = some .string)
    (hown : w.ownsRow base e 1 (.slice (some ⟨g, 0, none⟩) n cap) n (l.map fun x => Value.int .u8 (x.toNat : Int))) :
    (convert src dst (.slice (some ⟨g, 0, none⟩) n cap)).run P w = .ok (.string ⟨l.toArray⟩) w := by
  have hn : n = l.length := by have := hown.1; simp at this; omega
  subst hn
  refine run_convert_bytes_back w src dst e ⟨g, 0, none⟩ cap l hs he hd fun j hj => ?_
  have h := hown.cellAt j (by omega)
  rw [List.getElem?_map, List.getElem?_eq_getElem hj] at h
  have e : (⟨g, 0, none⟩ : Addr).add j = ⟨g, j, none⟩ := by unfold Addr.add; split <;> simp_all
  rw [e]; exact h

theorem map_snoc_byte (pre : List UInt8) (k : Nat) (hk : k < 256) : (pre.map fun x => Value.int .u8 (x.toNat : Int)) ++ [Value.int .u8 (k : Int)] = (pre ++ [UInt8.ofNat k]).map fun x => Value.int .u8 (x.toNat : Int) := by
  have : (UInt8.ofNat k).toNat = k := by simp; omega
  simp [this]
theorem bits_and127 : ∀ m : Nat, m < 256 → bits BinOp.and IntKind.u8 (m : Int) 127 = ((m % 128 : Nat) : Int) := by
  intro m hm
  have : ∀ m : Fin 256, bits BinOp.and IntKind.u8 ((m.val : Nat) : Int) 127 = ((m.val % 128 : Nat) : Int) := by decide +kernel
  exact this ⟨m, hm⟩

/-- acc, and seven bits more. -/
theorem or_step {acc x j : Nat} (ha : acc < 128 ^ j) (hj : j < 10) (hx : ¬ (j = 9 ∧ 1 < x)) (h128 : x < 128) :
    bits .or .u64 (acc : Int) (IntKind.u64.wrap ((x : Int) * 2 ^ (7 * j))) = ((acc + x * 128 ^ j : Nat) : Int) := by
  obtain ⟨h1, h2, h3⟩ := sum_lt ha hj hx h128
  have e : (x : Int) * 2 ^ (7 * j) = ((x * 128 ^ j : Nat) : Int) := by
    have : (128 : Nat) ^ j = 2 ^ (7 * j) := by rw [Nat.pow_mul]
    rw [this]; simp
  rw [e, IntWalk.u64_in _ (by omega), u64_or_nat _ _ h3 h2, or_plain ha]

theorem or_step8 {acc j : Nat} {x : UInt8} (ha : acc < 128 ^ j) (hj : j < 10) (hx : ¬ (j = 9 ∧ 1 < x.toNat)) :
    bits .or .u64 (acc : Int) (IntKind.u64.wrap (IntKind.u64.wrap (bits BinOp.and IntKind.u8 (x.toNat : Int) 127) * 2 ^ (7 * j))) = ((acc + x.toNat % 128 * 128 ^ j : Nat) : Int) := by
  rw [bits_and127 _ x.toNat_lt, IntWalk.u64_in ((x.toNat % 128 : Nat) : Int) (by omega)]
  exact or_step ha hj (by omega) (by omega)

end Go.Proofs.YtogkdekjcbljnaaDoor
