/- check: the order of keys: plain facts; == of keys. -/
import Derived.Test.YtogkdekjcbljnaaDoorCkOrder
import Derived.Laws.StructEq
namespace Go.Proofs.YtogkdekjcbljnaaDoor
open Go.RowKit

theorem cmpI_neg (a b : Int) : cmpI b a = - cmpI a b := by
  unfold cmpI
  repeat' split
  all_goals omega
theorem cmpI_vals (a b : Int) : cmpI a b = -1 ∨ cmpI a b = 0 ∨ cmpI a b = 1 := by
  unfold cmpI
  repeat' split
  all_goals omega
theorem cmpI_zero (a b : Int) : cmpI a b = 0 ↔ a = b := by
  unfold cmpI
  repeat' split
  all_goals omega
theorem cmpI_le (a b : Int) : cmpI a b < 0 ↔ a < b := by
  unfold cmpI
  repeat' split
  all_goals omega
theorem cmpS_neg (x y : ByteArray) : cmpS y x = - cmpS x y := by
  have h := bl_asymm x.toList y.toList
  unfold cmpS
  cases ha : Op.bytesLess x.toList y.toList
  · cases hb : Op.bytesLess y.toList x.toList <;> simp
  · rw [h ha]; simp
theorem cmpS_vals (x y : ByteArray) : cmpS x y = -1 ∨ cmpS x y = 0 ∨ cmpS x y = 1 := by
  unfold cmpS
  repeat' split
  all_goals omega
theorem cmpS_zero (x y : ByteArray) : cmpS x y = 0 ↔ x.toList = y.toList := by
  have h := bl_tri x.toList y.toList
  unfold cmpS
  cases ha : Op.bytesLess x.toList y.toList
  · cases hb : Op.bytesLess y.toList x.toList
    · simpa using h ha hb
    · simp; intro he; rw [he, bl_irrefl] at hb; cases hb
  · simp; intro he; rw [he, bl_irrefl] at ha; cases ha
theorem cmpS_le (x y : ByteArray) : cmpS x y ≤ 0 ↔ Op.bytesLess y.toList x.toList = false := by
  have h := bl_asymm x.toList y.toList
  unfold cmpS
  cases ha : Op.bytesLess x.toList y.toList
  · cases hb : Op.bytesLess y.toList x.toList <;> simp
  · rw [h ha]; simp
theorem cmpS_trans {x y z : ByteArray} (h : cmpS x y ≤ 0) (k : cmpS y z ≤ 0) : cmpS x z ≤ 0 := by
  rw [cmpS_le] at h k ⊢
  cases hc : Op.bytesLess z.toList x.toList with
  | false => rfl
  | true =>
    cases ha : Op.bytesLess x.toList y.toList with
    | false =>
      have e := bl_tri _ _ ha h
      rw [e, k] at hc
      cases hc
    | true =>
      rw [bl_trans _ _ _ hc ha] at k
      cases k
theorem ord_neg (t u : Int) (x y : ByteArray) : ordK u y t x = - ordK t x u y := by
  have h1 := cmpI_neg t u
  have h2 := cmpS_neg x y
  unfold ordK orV
  rw [h1, h2]
  split <;> split <;> omega
theorem ord_vals (t u : Int) (x y : ByteArray) : ordK t x u y = -1 ∨ ordK t x u y = 0 ∨ ordK t x u y = 1 := by
  have h1 := cmpI_vals t u
  have h2 := cmpS_vals x y
  unfold ordK orV
  split <;> omega
theorem ord_zero (t u : Int) (x y : ByteArray) : ordK t x u y = 0 ↔ (t = u ∧ x.toList = y.toList) := by
  have h1 := cmpI_zero t u
  have h2 := cmpS_zero x y
  unfold ordK orV
  split
  · rename_i h
    rw [h2]
    exact ⟨fun k => ⟨h1.1 h, k⟩, fun k => k.2⟩
  · rename_i h
    exact ⟨fun k => absurd k h, fun k => absurd (h1.2 k.1) h⟩
theorem ord_eq (t u : Int) (x y : ByteArray) : (ordK t x u y == 0) = (t == u && x.toList == y.toList) := by
  have h := ord_zero t u x y
  cases ha : (ordK t x u y == 0)
  · cases hb : (t == u && x.toList == y.toList)
    · rfl
    · exfalso
      simp only [Bool.and_eq_true, beq_iff_eq] at hb
      simp only [beq_eq_false_iff_ne, ne_eq] at ha
      exact ha (h.2 hb)
  · simp only [beq_iff_eq] at ha
    obtain ⟨h1, h2⟩ := h.1 ha
    simp [h1, h2]
theorem ord_le (t u : Int) (x y : ByteArray) : ordK t x u y ≤ 0 ↔ t < u ∨ (t = u ∧ cmpS x y ≤ 0) := by
  have h0 := cmpI_zero t u
  have h1 := cmpI_le t u
  unfold ordK orV
  split <;> omega
theorem ord_trans {t u v : Int} {x y z : ByteArray} (h : ordK t x u y ≤ 0) (k : ordK u y v z ≤ 0) : ordK t x v z ≤ 0 := by
  rw [ord_le] at h k ⊢
  rcases h with h | ⟨h1, h2⟩ <;> rcases k with k | ⟨k1, k2⟩
  · exact Or.inl (by omega)
  · exact Or.inl (by omega)
  · exact Or.inl (by omega)
  · exact Or.inr ⟨by omega, cmpS_trans h2 k2⟩

theorem ck_eqKey (a b : Int) (x y : ByteArray) (w : World) : (Op.equalIn 10000 27 (.agg #[.int .i64 a, .string x]) (.agg #[.int .i64 b, .string y])).run Tryd.prog w = .ok (a == b && x.toList == y.toList) w := by
  have u0 := Tryd.underlying9
  have a0 := Tryd.isAgg9
  have z0 := Tryd.sizeOf9
  have u1 := Tryd.underlying3
  have a1 := Tryd.isAgg3
  have z1 := Tryd.sizeOf3
  have hS : Tryd.prog.underlying 27 = some (.struct (Tryd.prog.fieldsOf 27)) := by kernel_rfl
  have hp : Tryd.prog.stoodInHeld 27 = false := by kernel_rfl
  rw [show (10000 : Nat) = 9999 + 1 from rfl, run_equalIn_agg w 9999 27 _ _ hS hp]
  simp only [Program.fieldsOf, Tryd.underlying27]
  go_simp
  by_cases h1 : a = b <;> by_cases h2 : x.toList = y.toList <;> simp [h1, h2]
theorem ck_eqlKey (a b : Int) (x y : ByteArray) (w : World) : (binOp .eql 27 (.agg #[.int .i64 a, .string x]) (.agg #[.int .i64 b, .string y])).run Tryd.prog w = .ok (.bool (a == b && x.toList == y.toList)) w := by
  rw [run_eql_struct, ck_eqKey]
  rfl
theorem ck_guardKey (op : BinOp) (x y : Operand) (xs ys : Array Value) (w : World) : (eqGuard op 27 x y (.agg xs) (.agg ys)).run Tryd.prog w = .ok () w :=
  run_eqGuard_agg w op _ x y xs ys (by kernel_rfl)
end Go.Proofs.YtogkdekjcbljnaaDoor
