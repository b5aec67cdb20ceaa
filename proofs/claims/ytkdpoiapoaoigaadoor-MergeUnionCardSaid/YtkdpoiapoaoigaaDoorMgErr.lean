/- merge: errors.Is over its faults; errnoOf. -/
import Derived.Test.YtkdpoiapoaoigaaDoorIs
import Derived.Test.YtkdpoiapoaoigaaDoorMgTurn
import Derived.Stop.Asserts
import Derived.Stop.IfaceNil
namespace Go.Proofs.YtkdpoiapoaoigaaDoor
open Go.RowKit Go.Extern.Stop Go.Stop Go.Extern

theorem Tryd.noIsG (v : Value) (xT : TypeId) (w : World) : (Instr.typeAssert (.iface 84 v) xT 117 true).run Tryd.prog w = .ok (.tuple #[.nilIface, .bool false]) w := run_typeAssert_lacksB Tryd.underlying117 (by kernel_rfl) (by kernel_rfl) v xT w
theorem Tryd.hasUnwrapG (v : Value) (xT : TypeId) (w : World) : (Instr.typeAssert (.iface 84 v) xT 120 true).run Tryd.prog w = .ok (.tuple #[.iface 84 v, .bool true]) w := run_typeAssert_hasB Tryd.underlying120 (by kernel_rfl) v xT w
theorem Tryd.methodUnwrapG (n : Nat) (v : Value) (w : World) : (Go.method (n + 1) 84 v "Unwrap").run Tryd.prog w = .ok (105, v) w := by kernel_rfl
theorem Tryd.noIsS (v : Value) (xT : TypeId) (w : World) : (Instr.typeAssert (.iface 145 v) xT 117 true).run Tryd.prog w = .ok (.tuple #[.nilIface, .bool false]) w := run_typeAssert_lacksB Tryd.underlying117 (by kernel_rfl) (by kernel_rfl) v xT w
theorem Tryd.noUnwrapS (v : Value) (xT : TypeId) (w : World) : (Instr.typeAssert (.iface 145 v) xT 120 true).run Tryd.prog w = .ok (.tuple #[.nilIface, .bool false]) w := run_typeAssert_lacksB Tryd.underlying120 (by kernel_rfl) (by kernel_rfl) v xT w
theorem Tryd.noUnwrapsS (v : Value) (xT : TypeId) (w : World) : (Instr.typeAssert (.iface 145 v) xT 122 true).run Tryd.prog w = .ok (.tuple #[.nilIface, .bool false]) w := run_typeAssert_lacksB Tryd.underlying122 (by kernel_rfl) (by kernel_rfl) v xT w

/-- A fault of that id. -/
abbrev fG (k : Int) (b : Addr) : Value := .iface 84 (.agg #[.int .i64 k, .iface 145 (.pointer (some b))])
set_option maxRecDepth 100000 in
theorem gis_in (k0 : Int) (b : Addr) (w : World) :
    Calls Tryd.prog 57 #[fG k0 b, .iface 145 (.pointer (some b)), .bool true] w fun e w' => e = .returned (.bool true) ∧ Below w.heap.size w w' := by
  obtain ⟨i, hi, hcmp⟩ := Option.map_eq_some_iff.1 Tryd.isComp
  obtain ⟨j, hj, hjs⟩ := Option.map_eq_some_iff.1 Tryd.isSize
  have nW := Tryd.noIsG
  have uW := Tryd.hasUnwrapG
  have mU := Tryd.methodUnwrapG
  have heq := fun w => run_eql_iface_ptr_same (P := Tryd.prog) w b Tryd.underlying63 Tryd.underlying145 hi hcmp hj
  have hty0 := fun w => run_eql_iface_types (P := Tryd.prog) 84 145 (.agg #[.int .i64 k0, .iface 145 (.pointer (some b))]) (.pointer (some b)) Tryd.underlying63 (by decide) w
  go_enter Tryd.func57, Tryd.ntmps57
  go_wp2
  refine wp_loop_rounds 2 ?_
  rw [rounds_succ]
  go_wp2
  rw [rounds_succ]
  go_wp2
  go_ret
  exact ⟨rfl, (Below.refl _ _).alloc (Nat.le_refl _) _⟩
/-- Two sentinels that stand apart. -/
structure Apart (a b : Addr) (w : World) : Prop where
  ne : a ≠ b
  ha : ∃ c t, w.heap[a.block]? = some (.cells c t (0, 0))
  hb : ∃ c t, w.heap[b.block]? = some (.cells c t (0, 0))
theorem Apart.later {a b : Addr} {w w' : World} (h : Apart a b w) (hb : Below w.heap.size w w') : Apart a b w' := by
  obtain ⟨ne, ⟨c, t, h1⟩, ⟨c', t', h2⟩⟩ := h
  exact ⟨ne, ⟨c, t, (hb.block _ (Array.getElem?_eq_some_iff.1 h1).1).trans h1⟩, ⟨c', t', (hb.block _ (Array.getElem?_eq_some_iff.1 h2).1).trans h2⟩⟩
set_option maxRecDepth 100000 in
theorem gis_no (k0 : Int) (a b : Addr) (w : World) (hab : Apart a b w) :
    Calls Tryd.prog 57 #[fG k0 a, .iface 145 (.pointer (some b)), .bool true] w fun e w' => e = .returned (.bool false) ∧ Below w.heap.size w w' := by
  obtain ⟨i, hi, hcmp⟩ := Option.map_eq_some_iff.1 Tryd.isComp
  obtain ⟨j, hj, hjs⟩ := Option.map_eq_some_iff.1 Tryd.isSize
  have nW := Tryd.noIsG
  have uW := Tryd.hasUnwrapG
  have mU := Tryd.methodUnwrapG
  have nS := Tryd.noIsS
  have uS := Tryd.noUnwrapS
  have usS := Tryd.noUnwrapsS
  have heq : ∀ w', Below w.heap.size w w' → (binOp .eql 63 (.iface 145 (.pointer (some a))) (.iface 145 (.pointer (some b)))).run Tryd.prog w' = .ok (.bool false) w' := fun w' hb' => by
    obtain ⟨ne, ⟨c, t, h1⟩, ⟨c', t', h2⟩⟩ := hab.later hb'
    exact run_eql_iface_ptr_other (P := Tryd.prog) w' Tryd.underlying63 Tryd.underlying145 hi hcmp hj (by rw [hjs]; decide) ne h1 h2
  have hty0 := fun w => run_eql_iface_types (P := Tryd.prog) 84 145 (.agg #[.int .i64 k0, .iface 145 (.pointer (some a))]) (.pointer (some b)) Tryd.underlying63 (by decide) w
  have heq1 := heq _ (Below.refl _ _)
  have heq2 := heq (w.alloc (.cells #[.int .i64 k0, .iface 145 (.pointer (some a))] 84)) ((Below.refl _ _).alloc (Nat.le_refl _) _)
  clear heq
  go_enter Tryd.func57, Tryd.ntmps57
  go_wp2
  refine wp_loop_rounds 2 ?_
  rw [rounds_succ]
  go_wp2
  rw [rounds_succ]
  go_wp2
  go_ret
  exact ⟨rfl, (Below.refl _ _).alloc (Nat.le_refl _) _⟩
set_option maxRecDepth 100000 in
theorem gIs_yes (k0 : Int) (b : Addr) (w : World) :
    Calls Tryd.prog 48 #[fG k0 b, .iface 145 (.pointer (some b))] w fun e w' => e = .returned (.bool true) ∧ Below w.heap.size w w' := by
  have h8 := Tryd.callTypeOf
  have h32 := Tryd.callComparable
  have hif := Tryd.ifaceErr
  have mR := Tryd.methodComp
  go_enter Tryd.func48, Tryd.ntmps48
  go_wp2_with (go_at_call 57; refine (gis_in k0 b _).mono ?_; rintro e w' ⟨rfl, hb⟩)
  go_ret
  exact ⟨rfl, hb⟩
set_option maxRecDepth 100000 in
theorem gIs_no (k0 : Int) (a b : Addr) (w : World) (hab : Apart a b w) :
    Calls Tryd.prog 48 #[fG k0 a, .iface 145 (.pointer (some b))] w fun e w' => e = .returned (.bool false) ∧ Below w.heap.size w w' := by
  have h8 := Tryd.callTypeOf
  have h32 := Tryd.callComparable
  have hif := Tryd.ifaceErr
  have mR := Tryd.methodComp
  go_enter Tryd.func48, Tryd.ntmps48
  go_wp2_with (go_at_call 57; refine (gis_no k0 a b _ hab).mono ?_; rintro e w' ⟨rfl, hb⟩)
  go_ret
  exact ⟨rfl, hb⟩
/-- The three sentinels: what may not be asked for, what has no room, what there is not. -/
structure Gm (a f n : Addr) (w : World) : Prop where
  ca : w.cell? ⟨0, 0, none⟩ = some (.iface 145 (.pointer (some a)))
  cf : w.cell? ⟨1, 0, none⟩ = some (.iface 145 (.pointer (some f)))
  cn : w.cell? ⟨2, 0, none⟩ = some (.iface 145 (.pointer (some n)))
  la : 0 < w.heap.size
  lf : 1 < w.heap.size
  ln : 2 < w.heap.size
  fa : Apart f a w
  na : Apart n a w
  nf : Apart n f w
theorem Gm.later {a f n : Addr} {w w' : World} (h : Gm a f n w) (hb : Below w.heap.size w w') : Gm a f n w' :=
  ⟨(hb.cell (p := ⟨0, 0, none⟩) h.la).trans h.ca, (hb.cell (p := ⟨1, 0, none⟩) h.lf).trans h.cf, (hb.cell (p := ⟨2, 0, none⟩) h.ln).trans h.cn, Nat.lt_of_lt_of_le h.la hb.size, Nat.lt_of_lt_of_le h.lf hb.size, Nat.lt_of_lt_of_le h.ln hb.size, h.fa.later hb, h.na.later hb, h.nf.later hb⟩
end Go.Proofs.YtkdpoiapoaoigaaDoor
