/- check: the order of keys: the walks. -/
import Derived.Test.YtogkdekjcbljnaaDoorCkName
import Derived.StillTailTactics
namespace Go.Proofs.YtogkdekjcbljnaaDoor
open Go.RowKit

theorem bl_irrefl : ∀ x : List UInt8, Op.bytesLess x x = false
  | [] => rfl
  | a :: x => by simp [Op.bytesLess, bl_irrefl x]
theorem bl_asymm : ∀ x y : List UInt8, Op.bytesLess x y = true → Op.bytesLess y x = false
  | _, [], h => by simp [Op.bytesLess] at h
  | [], b :: y, _ => rfl
  | a :: x, b :: y, h => by
    simp only [Op.bytesLess, Bool.or_eq_true, decide_eq_true_eq, Bool.and_eq_true, beq_iff_eq, Bool.or_eq_false_iff, decide_eq_false_iff_not, Bool.and_eq_false_iff, beq_eq_false_iff_ne, UInt8.lt_iff_toNat_lt, ← UInt8.toNat_inj, ne_eq] at h ⊢
    rcases h with h | ⟨h1, h2⟩
    · exact ⟨by omega, Or.inl (by omega)⟩
    · exact ⟨by omega, Or.inr (bl_asymm x y h2)⟩
theorem bl_tri : ∀ x y : List UInt8, Op.bytesLess x y = false → Op.bytesLess y x = false → x = y
  | [], [], _, _ => rfl
  | [], b :: y, h, _ => by simp [Op.bytesLess] at h
  | a :: x, [], _, h => by simp [Op.bytesLess] at h
  | a :: x, b :: y, h, k => by
    simp only [Op.bytesLess, Bool.or_eq_false_iff, decide_eq_false_iff_not, Bool.and_eq_false_iff, beq_eq_false_iff_ne, UInt8.lt_iff_toNat_lt, ne_eq] at h k
    have e : a = b := by rw [← UInt8.toNat_inj]; omega
    subst e
    rw [bl_tri x y (by simpa using h.2) (by simpa using k.2)]
theorem bl_trans : ∀ x y z : List UInt8, Op.bytesLess x y = true → Op.bytesLess y z = true → Op.bytesLess x z = true
  | _, _, [], _, k => by simp [Op.bytesLess] at k
  | _, [], c :: z, h, _ => by simp [Op.bytesLess] at h
  | [], b :: y, c :: z, _, _ => rfl
  | a :: x, b :: y, c :: z, h, k => by
    simp only [Op.bytesLess, Bool.or_eq_true, decide_eq_true_eq, Bool.and_eq_true, beq_iff_eq, UInt8.lt_iff_toNat_lt, ← UInt8.toNat_inj] at h k ⊢
    rcases h with h | ⟨h1, h2⟩ <;> rcases k with k | ⟨k1, k2⟩
    · exact Or.inl (by omega)
    · exact Or.inl (by omega)
    · exact Or.inl (by omega)
    · exact Or.inr ⟨by omega, bl_trans x y z h2 k2⟩

def cmpI (a b : Int) : Int := if a < b then -1 else if b < a then 1 else 0
def cmpS (x y : ByteArray) : Int := if Op.bytesLess x.toList y.toList then -1 else if Op.bytesLess y.toList x.toList then 1 else 0
def orV (x y : Int) : Int := if x = 0 then y else x
def ordK (t : Int) (x : ByteArray) (u : Int) (y : ByteArray) : Int := orV (cmpI t u) (cmpS x y)
theorem beq_refl_list (x : List UInt8) : (x == x) = true := by simp
set_option maxRecDepth 100000 in
theorem nan_int (x : Int) (w : World) : Calls Tryd.prog 64 #[.int .i64 x] w fun e w' => e = .returned (.bool false) ∧ w = w' := by
  go_enter Tryd.func64, Tryd.ntmps64
  go_wp2
  go_ret
  exact ⟨by simp, rfl⟩
set_option maxRecDepth 100000 in
theorem nan_str (x : ByteArray) (w : World) : Calls Tryd.prog 65 #[.string x] w fun e w' => e = .returned (.bool false) ∧ w = w' := by
  go_enter Tryd.func65, Tryd.ntmps65
  go_wp2
  go_ret
  exact ⟨by simp, rfl⟩
set_option maxRecDepth 100000 in
theorem cmp_int (a b : Int) (w : World) : Calls Tryd.prog 38 #[.int .i64 a, .int .i64 b] w fun e w' => e = .returned (.int .i64 (cmpI a b)) ∧ w = w' := by
  obtain ⟨A, qa⟩ : ∃ A, decide (a < b) = A := ⟨_, rfl⟩
  obtain ⟨B, qb⟩ : ∃ B, decide (b < a) = B := ⟨_, rfl⟩
  have e : cmpI a b = if A then -1 else if B then 1 else 0 := by subst qa; subst qb; simp [cmpI]
  rw [e]
  clear e
  cases A <;> cases B
  all_goals
    go_enter Tryd.func38, Tryd.ntmps38
    go_wp2_with (go_at_call 64; refine (nan_int _ _).mono ?_; rintro e w' ⟨rfl, rfl⟩)
    go_ret
    exact ⟨rfl, rfl⟩
set_option maxRecDepth 100000 in
theorem cmp_str (x y : ByteArray) (w : World) : Calls Tryd.prog 39 #[.string x, .string y] w fun e w' => e = .returned (.int .i64 (cmpS x y)) ∧ w = w' := by
  have h1 := bl_asymm x.toList y.toList
  have h2 := bl_tri x.toList y.toList
  have h3 := bl_irrefl x.toList
  have key : (cmpS x y = -1 ∧ Op.bytesLess x.toList y.toList = true) ∨ (cmpS x y = 1 ∧ Op.bytesLess x.toList y.toList = false ∧ (x.toList == y.toList) = false) ∨ (cmpS x y = 0 ∧ Op.bytesLess x.toList y.toList = false ∧ (x.toList == y.toList) = true) := by
    unfold cmpS
    cases ha : Op.bytesLess x.toList y.toList
    · cases hb : Op.bytesLess y.toList x.toList
      · exact Or.inr (Or.inr ⟨by simp, rfl, by simp [h2 ha hb]⟩)
      · refine Or.inr (Or.inl ⟨by simp, rfl, ?_⟩)
        rw [beq_eq_false_iff_ne]
        intro he
        rw [he, bl_irrefl] at hb
        cases hb
    · exact Or.inl ⟨by simp, rfl⟩
  clear h1 h2 h3
  rcases key with ⟨e, q⟩ | ⟨e, q, q2⟩ | ⟨e, q, q2⟩
  all_goals
    rw [e]
    clear e
    go_enter Tryd.func39, Tryd.ntmps39
    go_wp2_with (go_at_call 65; refine (nan_str _ _).mono ?_; rintro e w' ⟨rfl, rfl⟩)
    go_ret
    exact ⟨rfl, rfl⟩
set_option maxRecDepth 100000 in
/-- cmp.Or of two numbers. -/
theorem or_two (x y : Int) (g off cap : Nat) (w : World) (h0 : w.cell? ⟨g, off, none⟩ = some (.int .i64 x)) (h1 : w.cell? ⟨g, off + 1, none⟩ = some (.int .i64 y)) :
    Calls Tryd.prog 37 #[.slice (some ⟨g, off, none⟩) 2 cap] w fun e w' => e = .returned (.int .i64 (orV x y)) ∧ w = w' := by
  by_cases hx : x = 0
  · subst hx
    by_cases hy : y = 0
    · subst hy
      rw [show orV 0 0 = 0 from rfl]
      go_enter Tryd.func37, Tryd.ntmps37
      go_wp2
      refine wp_loop_rounds 3 ?_
      rw [rounds_succ]
      go_wp2
      rw [rounds_succ]
      go_wp2
      rw [rounds_succ]
      go_wp2
      go_ret
      exact ⟨rfl, rfl⟩
    · have q : (y == 0) = false := by simpa using hy
      rw [show orV 0 y = y from if_pos rfl]
      go_enter Tryd.func37, Tryd.ntmps37
      go_wp2
      refine wp_loop_rounds 3 ?_
      rw [rounds_succ]
      go_wp2
      rw [rounds_succ]
      go_wp2
      go_ret
      exact ⟨rfl, rfl⟩
  · have q : (x == 0) = false := by simpa using hx
    rw [show orV x y = x from if_neg hx]
    go_enter Tryd.func37, Tryd.ntmps37
    go_wp2
    refine wp_loop_rounds 3 ?_
    rw [rounds_succ]
    go_wp2
    go_ret
    exact ⟨rfl, rfl⟩
theorem ck_new (W : World) (a b : Value) (t : TypeId) (B : Nat) (hB : B = W.heap.size) : ((W.alloc (.cells #[a, b] t)).drew).cell? ⟨B, 0, none⟩ = some a ∧ ((W.alloc (.cells #[a, b] t)).drew).cell? ⟨B, 0 + 1, none⟩ = some b := by
  subst hB
  have e : ∀ j, ((W.alloc (.cells #[a, b] t)).drew).cell? ⟨W.heap.size, j, none⟩ = (W.alloc (.cells #[a, b] t)).cell? ⟨W.heap.size, j, none⟩ := fun _ => rfl
  rw [e, e]
  simp
theorem ck_size2 (w : World) (o1 o2 : Obj) : w.heap.size + 1 + 1 = ((w.alloc o1).alloc o2).heap.size := by simp
theorem below_one (w : World) (o : Obj) : Below w.heap.size w (w.alloc o) := (Below.refl _ _).alloc (Nat.le_refl _) _
theorem cmp_int_still (a b : Int) (w : World) : Calls Tryd.prog 38 #[.int .i64 a, .int .i64 b] w fun e w' => e = .returned (.int .i64 (cmpI a b)) ∧ w' = w := (cmp_int a b w).mono fun _ _ h => ⟨h.1, h.2.symm⟩
theorem cmp_str_still (a b : ByteArray) (w : World) : Calls Tryd.prog 39 #[.string a, .string b] w fun e w' => e = .returned (.int .i64 (cmpS a b)) ∧ w' = w := (cmp_str a b w).mono fun _ _ h => ⟨h.1, h.2.symm⟩
theorem or_made (W : World) (x y : Int) (B : Nat) (hB : B = W.heap.size) :
    Calls Tryd.prog 37 #[.slice (some ⟨B, 0, none⟩) 2 2] ((W.alloc (.cells #[.int .i64 x, .int .i64 y] 3)).drew) fun e w' => e = .returned (.int .i64 (orV x y)) ∧ (W.alloc (.cells #[.int .i64 x, .int .i64 y] 3)).drew = w' :=
  or_two x y B 0 2 _ (ck_new W _ _ _ B hB).1 (ck_new W _ _ _ B hB).2
set_option maxRecDepth 100000 in
set_option maxHeartbeats 2000000 in
theorem order_any (t u : Int) (x y : ByteArray) (w : World) : Calls Tryd.prog 25 #[kyV t x, kyV u y] w fun e w' => e = .returned (.int .i64 (ordK t x u y)) ∧ Below w.heap.size w w' := by
  go_enter Tryd.func25, Tryd.ntmps25
  go_wp2_with fail
  have k0 := ((below_one ((w.alloc (.cells #[.int .i64 t, .string x] 27))) (.cells #[.int .i64 u, .string y] 27)).cell (p := ⟨w.heap.size, 0, none⟩) (by simp)).trans (by simp : _ = some (.int .i64 t))
  have k1 := ((below_one ((w.alloc (.cells #[.int .i64 t, .string x] 27))) (.cells #[.int .i64 u, .string y] 27)).cell (p := ⟨w.heap.size, 1, none⟩) (by simp)).trans (by simp : _ = some (.string x))
  have k2 : ((w.alloc (.cells #[.int .i64 t, .string x] 27)).alloc (.cells #[.int .i64 u, .string y] 27)).cell? ⟨w.heap.size + 1, 0, none⟩ = some (.int .i64 u) := by simp
  have k3 : ((w.alloc (.cells #[.int .i64 t, .string x] 27)).alloc (.cells #[.int .i64 u, .string y] 27)).cell? ⟨w.heap.size + 1, 1, none⟩ = some (.string y) := by simp
  have HB := Lib.hid (((Below.refl w.heap.size w).alloc (Nat.le_refl _) (.cells #[.int .i64 t, .string x] 27)).alloc (by simp) (.cells #[.int .i64 u, .string y] 27))
  revert k0 k1 k2 k3 HB
  generalize (w.alloc (.cells #[.int .i64 t, .string x] 27)).alloc (.cells #[.int .i64 u, .string y] 27) = w1
  intro k0 k1 k2 k3 HB
  go_still_tail 10, (by kernel_rfl)
  still_call (cmp_int_still _ _ _)
  repeat still_step
  still_call (cmp_str_still _ _ _)
  refine wpStill_nil ?_
  change wpList _ _ _ _ _ w1.drew
  go_wp2_with (go_at_call 37; refine (or_made _ (cmpI t u) (cmpS x y) _ rfl).mono ?_; rintro e w' ⟨rfl, rfl⟩)
  go_ret
  exact ⟨rfl, (HB.out.alloc HB.out.size _).drew⟩
end Go.Proofs.YtogkdekjcbljnaaDoor
