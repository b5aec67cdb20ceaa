/- merge: errors.Is over its faults; errnoOf. -/
import Derived.Test.YtkjfafnnnkjoeaaGreatDoorIs
import Derived.Test.YtkjfafnnnkjoeaaGreatDoorMgTurn
import Derived.Stop.Asserts
import Derived.Stop.IfaceNil
namespace Go.Proofs.YtkjfafnnnkjoeaaGreatDoor
open Go.RowKit Go.Extern.Stop Go.Stop Go.Extern

theorem Tryz.noIsG (v : Value) (xT : TypeId) (w : World) : (Instr.typeAssert (.iface 91 v) xT 114 true).run Tryz.prog w = .ok (.tuple #[.nilIface, .bool false]) w := run_typeAssert_lacksB Tryz.underlying114 (by kernel_rfl) (by kernel_rfl) v xT w
theorem Tryz.hasUnwrapG (v : Value) (xT : TypeId) (w : World) : (Instr.typeAssert (.iface 91 v) xT 117 true).run Tryz.prog w = .ok (.tuple #[.iface 91 v, .bool true]) w := run_typeAssert_hasB Tryz.underlying117 (by kernel_rfl) v xT w
theorem Tryz.methodUnwrapG (n : Nat) (v : Value) (w : World) : (Go.method (n + 1) 91 v "Unwrap").run Tryz.prog w = .ok (116, v) w := by kernel_rfl
theorem Tryz.noIsS (v : Value) (xT : TypeId) (w : World) : (Instr.typeAssert (.iface 157 v) xT 114 true).run Tryz.prog w = .ok (.tuple #[.nilIface, .bool false]) w := run_typeAssert_lacksB Tryz.underlying114 (by kernel_rfl) (by kernel_rfl) v xT w
theorem Tryz.noUnwrapS (v : Value) (xT : TypeId) (w : World) : (Instr.typeAssert (.iface 157 v) xT 117 true).run Tryz.prog w = .ok (.tuple #[.nilIface, .bool false]) w := run_typeAssert_lacksB Tryz.underlying117 (by kernel_rfl) (by kernel_rfl) v xT w
theorem Tryz.noUnwrapsS (v : Value) (xT : TypeId) (w : World) : (Instr.typeAssert (.iface 157 v) xT 119 true).run Tryz.prog w = .ok (.tuple #[.nilIface, .bool false]) w := run_typeAssert_lacksB Tryz.underlying119 (by kernel_rfl) (by kernel_rfl) v xT w

/-- A fault of that id. -/
abbrev fG (k : Int) (b : Addr) : Value := .iface 91 (.agg #[.int .i64 k, .iface 157 (.pointer (some b))])
set_option maxRecDepth 100000 in
theorem gis_in (k0 : Int) (b : Addr) (w : World) :
    Calls Tryz.prog 62 #[fG k0 b, .iface 157 (.pointer (some b)), .bool true] w fun e w' => e = .returned (.bool true) ∧ Below w.heap.size w w' := by
  obtain ⟨i, hi, hcmp⟩ := Option.map_eq_some_iff.1 Tryz.isComp
  obtain ⟨j, hj, hjs⟩ := Option.map_eq_some_iff.1 Tryz.isSize
  have nW := Tryz.noIsG
  have uW := Tryz.hasUnwrapG
  have mU := Tryz.methodUnwrapG
  have heq := fun w => run_eql_iface_ptr_same (P := Tryz.prog) w b Tryz.underlying67 Tryz.underlying157 hi hcmp hj
  have hty0 := fun w => run_eql_iface_types (P := Tryz.prog) 91 157 (.agg #[.int .i64 k0, .iface 157 (.pointer (some b))]) (.pointer (some b)) Tryz.underlying67 (by decide) w
  go_enter Tryz.func62, Tryz.ntmps62
  go_wp2
  refine wp_loop_rounds 2 ?_
  rw [rounds_succ]
  go_wp2
  rw [rounds_succ]
  go_wp2
  go_ret
  exact ⟨rfl, (Below.refl _ _).alloc (Nat.le_refl _) _⟩
/-- Two sentinels that stand apart. -/
structure Apart (a b : Addr) (w : World) : Prop where
  ne : a ≠ b
  ha : ∃ c t, w.heap[a.block]? = some (.cells c t (0, 0))
  hb : ∃ c t, w.heap[b.block]? = some (.cells c t (0, 0))
theorem Apart.later {a b : Addr} {w w' : World} (h : Apart a b w) (hb : Below w.heap.size w w') : Apart a b w' := by
  obtain ⟨ne, ⟨c, t, h1⟩, ⟨c', t', h2⟩⟩ := h
  exact ⟨ne, ⟨c, t, (hb.block _ (Array.getElem?_eq_some_iff.1 h1).1).trans h1⟩, ⟨c', t', (hb.block _ (Array.getElem?_eq_some_iff.1 h2).1).trans h2⟩⟩
set_option maxRecDepth 100000 in
theorem gis_no (k0 : Int) (a b : Addr) (w : World) (hab : Apart a b w) :
    Calls Tryz.prog 62 #[fG k0 a, .iface 157 (.pointer (some b)), .bool true] w fun e w' => e = .returned (.bool false) ∧ Below w.heap.size w w' := by
  obtain ⟨i, hi, hcmp⟩ := Option.map_eq_some_iff.1 Tryz.isComp
  obtain ⟨j, hj, hjs⟩ := Option.map_eq_some_iff.1 Tryz.isSize
  have nW := Tryz.noIsG
  have uW := Tryz.hasUnwrapG
  have mU := Tryz.methodUnwrapG
  have nS := Tryz.noIsS
  have uS := Tryz.noUnwrapS
  have usS := Tryz.noUnwrapsS
  have heq : ∀ w', Below w.heap.size w w' → (binOp .eql 67 (.iface 157 (.pointer (some a))) (.iface 157 (.pointer (some b)))).run Tryz.prog w' = .ok (.bool false) w' := fun w' hb' => by
    obtain ⟨ne, ⟨c, t, h1⟩, ⟨c', t', h2⟩⟩ := hab.later hb'
    exact run_eql_iface_ptr_other (P := Tryz.prog) w' Tryz.underlying67 Tryz.underlying157 hi hcmp hj (by rw [hjs]; decide) ne h1 h2
  have hty0 := fun w => run_eql_iface_types (P := Tryz.prog) 91 157 (.agg #[.int .i64 k0, .iface 157 (.pointer (some a))]) (.pointer (some b)) Tryz.underlying67 (by decide) w
  have heq1 := heq _ (Below.refl _ _)
  have heq2 := heq (w.alloc (.cells #[.int .i64 k0, .iface 157 (.pointer (some a))] 91)) ((Below.refl _ _).alloc (Nat.le_refl _) _)
  clear heq
  go_enter Tryz.func62, Tryz.ntmps62
  go_wp2
  refine wp_loop_rounds 2 ?_
  rw [rounds_succ]
  go_wp2
  rw [rounds_succ]
  go_wp2
  go_ret
  exact ⟨rfl, (Below.refl _ _).alloc (Nat.le_refl _) _⟩
set_option maxRecDepth 100000 in
theorem gIs_yes (k0 : Int) (b : Addr) (w : World) :
    Calls Tryz.prog 47 #[fG k0 b, .iface 157 (.pointer (some b))] w fun e w' => e = .returned (.bool true) ∧ Below w.heap.size w w' := by
  have h8 := Tryz.callTypeOf
  have h32 := Tryz.callComparable
  have hif := Tryz.ifaceErr
  have mR := Tryz.methodComp
  go_enter Tryz.func47, Tryz.ntmps47
  go_wp2_with (go_at_call 62; refine (gis_in k0 b _).mono ?_; rintro e w' ⟨rfl, hb⟩)
  go_ret
  exact ⟨rfl, hb⟩
set_option maxRecDepth 100000 in
theorem gIs_no (k0 : Int) (a b : Addr) (w : World) (hab : Apart a b w) :
    Calls Tryz.prog 47 #[fG k0 a, .iface 157 (.pointer (some b))] w fun e w' => e = .returned (.bool false) ∧ Below w.heap.size w w' := by
  have h8 := Tryz.callTypeOf
  have h32 := Tryz.callComparable
  have hif := Tryz.ifaceErr
  have mR := Tryz.methodComp
  go_enter Tryz.func47, Tryz.ntmps47
  go_wp2_with (go_at_call 62; refine (gis_no k0 a b _ hab).mono ?_; rintro e w' ⟨rfl, hb⟩)
  go_ret
  exact ⟨rfl, hb⟩
/-- The three sentinels: what may not be asked for, what has no room, what there is not. -/
structure Gm (a f n : Addr) (w : World) : Prop where
  ca : w.cell? ⟨1, 0, none⟩ = some (.iface 157 (.pointer (some a)))
  cf : w.cell? ⟨2, 0, none⟩ = some (.iface 157 (.pointer (some f)))
  cn : w.cell? ⟨0, 0, none⟩ = some (.iface 157 (.pointer (some n)))
  la : 1 < w.heap.size
  lf : 2 < w.heap.size
  ln : 0 < w.heap.size
  fa : Apart f a w
  na : Apart n a w
  nf : Apart n f w
theorem Gm.later {a f n : Addr} {w w' : World} (h : Gm a f n w) (hb : Below w.heap.size w w') : Gm a f n w' :=
  ⟨(hb.cell (p := ⟨1, 0, none⟩) h.la).trans h.ca, (hb.cell (p := ⟨2, 0, none⟩) h.lf).trans h.cf, (hb.cell (p := ⟨0, 0, none⟩) h.ln).trans h.cn, Nat.lt_of_lt_of_le h.la hb.size, Nat.lt_of_lt_of_le h.lf hb.size, Nat.lt_of_lt_of_le h.ln hb.size, h.fa.later hb, h.na.later hb, h.nf.later hb⟩
end Go.Proofs.YtkjfafnnnkjoeaaGreatDoor
