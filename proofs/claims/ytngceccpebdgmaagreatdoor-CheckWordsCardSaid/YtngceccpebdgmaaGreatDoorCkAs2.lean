/- errors.As over a placed fault, at both targets; inWords. -/
import Derived.Test.YtngceccpebdgmaaGreatDoorCkErr
namespace Go.Proofs.YtngceccpebdgmaaGreatDoor
open Go.RowKit Go.Extern.Stop Go.Stop Go.Extern

theorem Tryz.sizeP (w : World) : (sizeOf 97).run Tryz.prog w = .ok 2 w := by kernel_rfl
theorem Tryz.aggP (w : World) : (isAgg 97).run Tryz.prog w = .ok true w := by kernel_rfl
theorem load_P (b : Nat) (i x : Value) (W : World) (h0 : W.cell? ⟨b, 0, none⟩ = some i) (h1 : W.cell? ⟨b, 1, none⟩ = some x) : (loadVar 97 ⟨b, 0, none⟩).run Tryz.prog W = .ok (.agg #[i, x]) W := by
  have q : ∀ w, (isAgg 97).run Tryz.prog w = .ok true w := Tryz.aggP
  have z : ∀ w, (sizeOf 97).run Tryz.prog w = .ok 2 w := Tryz.sizeP
  simp [loadVar, q, z, Result.andThen, loadCells, loadCellsFrom, h0, h1, Addr.add]
theorem store_P (b : Nat) (i : Int) (T : TypeId) (x o0 o1 : Value) (W : World) (h0 : W.cell? ⟨b, 0, none⟩ = some o0) (h1 : W.cell? ⟨b, 1, none⟩ = some o1) (f0 : W.frozen? ⟨b, 0, none⟩ = false) (f1 : W.frozen? ⟨b, 1, none⟩ = false) :
    (storeVar 97 ⟨b, 0, none⟩ (.agg #[.int .i64 i, .iface T x])).run Tryz.prog W = .ok () ((W.setCell ⟨b, 0, none⟩ (.int .i64 i)).setCell ⟨b, 1, none⟩ (.iface T x)) := by
  have z : ∀ w, (sizeOf 97).run Tryz.prog w = .ok 2 w := Tryz.sizeP
  have c1 : (W.setCell ⟨b, 0, none⟩ (.int .i64 i)).cell? ⟨b, 1, none⟩ = some o1 := (World.cell?_setCell_other _ _ _ _ (by simp)).trans h1
  have g1 : (W.setCell ⟨b, 0, none⟩ (.int .i64 i)).frozen? ⟨b, 1, none⟩ = false := by simpa using f1
  simp [storeVar, Value.cells, z, Result.andThen, storeCells, Addr.add]
  rw [run_store Tryz.prog W ⟨b, 0, none⟩ _ _ (by rfl)]
  simp [h0, f0]
  rw [run_store Tryz.prog _ ⟨b, 1, none⟩ _ _ (by rfl)]
  simp [c1, g1]
theorem Tryz.setv_P (ta b : Nat) (i : Int) (T : TypeId) (x o0 o1 : Value) (W : World) (b0 : W.cell? ⟨b, 0, none⟩ = some (.int .i64 i)) (b1 : W.cell? ⟨b, 1, none⟩ = some (.iface T x)) (h0 : W.cell? ⟨ta, 0, none⟩ = some o0) (h1 : W.cell? ⟨ta, 1, none⟩ = some o1) (f0 : W.frozen? ⟨ta, 0, none⟩ = false) (f1 : W.frozen? ⟨ta, 1, none⟩ = false) :
    (ReflectliteValue.set #[.agg #[.pointer (some ⟨6, 97, none⟩), .pointer (some ⟨ta, 0, none⟩), .int .u64 409], .agg #[.pointer (some ⟨6, 97, none⟩), .pointer (some ⟨b, 0, none⟩), .int .u64 153]]).run Tryz.prog W
      = .ok (.tuple #[]) ((W.setCell ⟨ta, 0, none⟩ (.int .i64 i)).setCell ⟨ta, 1, none⟩ (.iface T x)) := by
  rw [rls]
  simp only [Sem.run_bind, Tryz.parts_Pa, Tryz.parts_P, Result.andThen]
  simp [ReflectliteValue.flagAddr, load_P b _ _ W b0 b1, Result.andThen, Tryz.direct_P, store_P ta i T x o0 o1 W h0 h1 f0 f1]

set_option maxRecDepth 100000 in
set_option maxHeartbeats 4000000 in
theorem as_PF (i : Int) (s : ByteArray) (t : Addr) (old : Value) (w : World) (hg : Ge w) (ht0 : w.cell? t = some old) (hf0 : w.frozen? t = false) :
    Calls Tryz.prog 47 #[.iface 97 (.agg #[.int .i64 i, .iface 93 (.string s)]), .iface 95 (.pointer (some t))] w fun ev w' => ev = .returned (.bool true) ∧ w' = (((((w.alloc (.cells #[.pointer (some t)] 95)).alloc (.cells #[.pointer (some ⟨6, 95, none⟩), .pointer (some ⟨w.heap.size, 0, none⟩), .int .u64 150] 129)).alloc (.cells #[.pointer (some ⟨6, 95, none⟩), .pointer (some ⟨w.heap.size, 0, none⟩), .int .u64 150] 129)).alloc (.cells #[.int .i64 i, .iface 93 (.string s)] 97)).alloc (.cells #[.string s] 93)).setCell t (.string s) := by
  have h6 := @run_callFunc_extern Tryz.prog 62 _ (fun args => ReflectliteValue.unpack (args.getD 0 (.tuple #[]))) Tryz.func62 (by kernel_rfl) (by kernel_rfl) (by kernel_rfl) (by kernel_rfl)
  have h7 := @run_callFunc_extern Tryz.prog 63 _ (ReflectliteValue.methodAny (ReflectliteValue.valueError "reflectlite.Value.Type" 0) (fun t _ _ _ => ReflectliteType.toType t)) Tryz.func63 (by kernel_rfl) (by kernel_rfl) (by kernel_rfl) (by kernel_rfl)
  have h8 := @run_callFunc_extern Tryz.prog 64 _ (ReflectliteValue.method (ReflectliteValue.valueError "reflectlite.Value.IsNil" 0) ReflectliteValue.isNil) Tryz.func64 (by kernel_rfl) (by kernel_rfl) (by kernel_rfl) (by kernel_rfl)
  have h27 := @run_callFunc_extern Tryz.prog 189 _ (ReflectliteType.abiMethod fun t => do pure (.int .u8 (← Rtype.kind t))) Tryz.func189 (by kernel_rfl) (by kernel_rfl) (by kernel_rfl) (by kernel_rfl)
  have h37 := @run_callFunc_extern Tryz.prog 202 _ (ReflectliteType.method ReflectliteType.elem) Tryz.func202 (by kernel_rfl) (by kernel_rfl) (by kernel_rfl) (by kernel_rfl)
  have h38 := @run_callFunc_extern Tryz.prog 203 _ (ReflectliteType.relation "Implements" ReflectliteType.implements_) Tryz.func203 (by kernel_rfl) (by kernel_rfl) (by kernel_rfl) (by kernel_rfl)
  have h10 := @run_callFunc_extern Tryz.prog 95 _ ReflectliteType.typeOf Tryz.func95 (by kernel_rfl) (by kernel_rfl) (by kernel_rfl) (by kernel_rfl)
  have h35 := @run_callFunc_extern Tryz.prog 200 _ (ReflectliteType.relation "AssignableTo" ReflectliteType.assignableTo) Tryz.func200 (by kernel_rfl) (by kernel_rfl) (by kernel_rfl) (by kernel_rfl)
  have h11 := @run_callFunc_extern Tryz.prog 96 _ (ReflectliteValue.method (ReflectliteValue.valueError "reflectlite.Value.Elem" 0) ReflectliteValue.elem) Tryz.func96 (by kernel_rfl) (by kernel_rfl) (by kernel_rfl) (by kernel_rfl)
  have h12 := @run_callFunc_extern Tryz.prog 97 _ ReflectliteValue.set Tryz.func97 (by kernel_rfl) (by kernel_rfl) (by kernel_rfl) (by kernel_rfl)
  have mK := Tryz.rtMKind
  have mE := Tryz.rtMElem
  have mI := Tryz.rtMImplements
  have mA := Tryz.rtMAssignableTo
  have f6 := Tryz.valueOf_pF
  have f7 := Tryz.type_pF
  have kp := Tryz.kind_pF
  have kt := Tryz.kind_F
  have ep := Tryz.elem_pF
  have im := Tryz.implements_F
  have tO := Tryz.typeOf_F
  have tP := Tryz.typeOf_P
  have aS := Tryz.assign_FF
  have aP := Tryz.assign_PF
  have vF := Tryz.valueOf_F
  have nA := Tryz.noAs_P
  have nU := Tryz.hasUn_P
  have mU := Tryz.rtMUnwrap
  have n8 := Tryz.isNil_pF ⟨w.heap.size, 0, none⟩ t ((w.alloc (.cells #[.pointer (some t)] 95)).alloc (.cells #[.pointer (some ⟨6, 95, none⟩), .pointer (some ⟨w.heap.size, 0, none⟩), .int .u64 150] 129)) (by simp)
  have hg1 := hg.1
  have hlt := hg.2
  have hg2 : ((w.alloc (.cells #[.pointer (some t)] 95)).alloc (.cells #[.pointer (some ⟨6, 95, none⟩), .pointer (some ⟨w.heap.size, 0, none⟩), .int .u64 150] 129)).cell? ⟨0, 0, none⟩ = some (.iface 162 (.agg #[.pointer (some ⟨6, 76, none⟩)])) := by
    rw [World.cell?_alloc_lt _ _ ⟨0, 0, none⟩ (by simp <;> omega), World.cell?_alloc_lt _ _ ⟨0, 0, none⟩ hlt]; exact hg1
  have htl : t.block < w.heap.size := by
    rcases Nat.lt_or_ge t.block w.heap.size with h | h
    · exact h
    · simp [World.cell?, Array.getElem?_eq_none h] at ht0
  have el := Tryz.elemV_pF ⟨w.heap.size, 0, none⟩ t ((((w.alloc (.cells #[.pointer (some t)] 95)).alloc (.cells #[.pointer (some ⟨6, 95, none⟩), .pointer (some ⟨w.heap.size, 0, none⟩), .int .u64 150] 129)).alloc (.cells #[.pointer (some ⟨6, 95, none⟩), .pointer (some ⟨w.heap.size, 0, none⟩), .int .u64 150] 129)).alloc (.cells #[.int .i64 i, .iface 93 (.string s)] 97)) (by rw [World.cell?_alloc_lt _ _ ⟨w.heap.size, 0, none⟩ (by simp; omega), World.cell?_alloc_lt _ _ ⟨w.heap.size, 0, none⟩ (by simp; omega)]; simp)
  have st := Tryz.setv_F t ⟨w.heap.size + 1 + 1 + 1 + 1, 0, none⟩ s old (((((w.alloc (.cells #[.pointer (some t)] 95)).alloc (.cells #[.pointer (some ⟨6, 95, none⟩), .pointer (some ⟨w.heap.size, 0, none⟩), .int .u64 150] 129)).alloc (.cells #[.pointer (some ⟨6, 95, none⟩), .pointer (some ⟨w.heap.size, 0, none⟩), .int .u64 150] 129)).alloc (.cells #[.int .i64 i, .iface 93 (.string s)] 97)).alloc (.cells #[.string s] 93))
    (by rw [World.cell?_alloc_at _ _ _ _ (by simp)]; rfl)
    (by rw [World.cell?_alloc_lt _ _ t (by simp; omega), World.cell?_alloc_lt _ _ t (by simp; omega), World.cell?_alloc_lt _ _ t (by simp; omega), World.cell?_alloc_lt _ _ t (by simp; omega), World.cell?_alloc_lt _ _ t htl]; exact ht0)
    (by rw [World.frozen?_alloc_old _ _ t (by simp; omega), World.frozen?_alloc_old _ _ t (by simp; omega), World.frozen?_alloc_old _ _ t (by simp; omega), World.frozen?_alloc_old _ _ t (by simp; omega), World.frozen?_alloc_old _ _ t (Nat.ne_of_lt htl)]; exact hf0)
  clear hg
  go_enter Tryz.func47, Tryz.ntmps47
  go_wp2
  refine wp_loop_rounds 2 ?_
  rw [rounds_succ]
  go_wp2
  rw [rounds_succ]
  go_wp2
  go_ret
  exact ⟨rfl, rfl⟩

set_option maxRecDepth 100000 in
set_option maxHeartbeats 4000000 in
theorem as_PP (i : Int) (s : ByteArray) (g : Nat) (o0 o1 : Value) (w : World) (hg : Ge w) (h0 : w.cell? ⟨g, 0, none⟩ = some o0) (h1 : w.cell? ⟨g, 1, none⟩ = some o1) (f0 : w.frozen? ⟨g, 0, none⟩ = false) (f1 : w.frozen? ⟨g, 1, none⟩ = false) :
    Calls Tryz.prog 47 #[.iface 97 (.agg #[.int .i64 i, .iface 93 (.string s)]), .iface 98 (.pointer (some ⟨g, 0, none⟩))] w fun ev w' => ev = .returned (.bool true) ∧ w' = (((((w.alloc (.cells #[.pointer (some ⟨g, 0, none⟩)] 98)).alloc (.cells #[.pointer (some ⟨6, 98, none⟩), .pointer (some ⟨w.heap.size, 0, none⟩), .int .u64 150] 129)).alloc (.cells #[.pointer (some ⟨6, 98, none⟩), .pointer (some ⟨w.heap.size, 0, none⟩), .int .u64 150] 129)).alloc (.cells #[.int .i64 i, .iface 93 (.string s)] 97)).setCell ⟨g, 0, none⟩ (.int .i64 i)).setCell ⟨g, 1, none⟩ (.iface 93 (.string s)) := by
  have h6 := @run_callFunc_extern Tryz.prog 62 _ (fun args => ReflectliteValue.unpack (args.getD 0 (.tuple #[]))) Tryz.func62 (by kernel_rfl) (by kernel_rfl) (by kernel_rfl) (by kernel_rfl)
  have h7 := @run_callFunc_extern Tryz.prog 63 _ (ReflectliteValue.methodAny (ReflectliteValue.valueError "reflectlite.Value.Type" 0) (fun t _ _ _ => ReflectliteType.toType t)) Tryz.func63 (by kernel_rfl) (by kernel_rfl) (by kernel_rfl) (by kernel_rfl)
  have h8 := @run_callFunc_extern Tryz.prog 64 _ (ReflectliteValue.method (ReflectliteValue.valueError "reflectlite.Value.IsNil" 0) ReflectliteValue.isNil) Tryz.func64 (by kernel_rfl) (by kernel_rfl) (by kernel_rfl) (by kernel_rfl)
  have h27 := @run_callFunc_extern Tryz.prog 189 _ (ReflectliteType.abiMethod fun t => do pure (.int .u8 (← Rtype.kind t))) Tryz.func189 (by kernel_rfl) (by kernel_rfl) (by kernel_rfl) (by kernel_rfl)
  have h37 := @run_callFunc_extern Tryz.prog 202 _ (ReflectliteType.method ReflectliteType.elem) Tryz.func202 (by kernel_rfl) (by kernel_rfl) (by kernel_rfl) (by kernel_rfl)
  have h38 := @run_callFunc_extern Tryz.prog 203 _ (ReflectliteType.relation "Implements" ReflectliteType.implements_) Tryz.func203 (by kernel_rfl) (by kernel_rfl) (by kernel_rfl) (by kernel_rfl)
  have h10 := @run_callFunc_extern Tryz.prog 95 _ ReflectliteType.typeOf Tryz.func95 (by kernel_rfl) (by kernel_rfl) (by kernel_rfl) (by kernel_rfl)
  have h35 := @run_callFunc_extern Tryz.prog 200 _ (ReflectliteType.relation "AssignableTo" ReflectliteType.assignableTo) Tryz.func200 (by kernel_rfl) (by kernel_rfl) (by kernel_rfl) (by kernel_rfl)
  have h11 := @run_callFunc_extern Tryz.prog 96 _ (ReflectliteValue.method (ReflectliteValue.valueError "reflectlite.Value.Elem" 0) ReflectliteValue.elem) Tryz.func96 (by kernel_rfl) (by kernel_rfl) (by kernel_rfl) (by kernel_rfl)
  have h12 := @run_callFunc_extern Tryz.prog 97 _ ReflectliteValue.set Tryz.func97 (by kernel_rfl) (by kernel_rfl) (by kernel_rfl) (by kernel_rfl)
  have mK := Tryz.rtMKind
  have mE := Tryz.rtMElem
  have mI := Tryz.rtMImplements
  have mA := Tryz.rtMAssignableTo
  have f6 := Tryz.valueOf_pP
  have f7 := Tryz.type_pP
  have kp := Tryz.kind_pP
  have kt := Tryz.kind_P
  have ep := Tryz.elem_pP
  have im := Tryz.implements_P
  have tP := Tryz.typeOf_P
  have aP := Tryz.assign_PP
  have vP := Tryz.valueOf_P
  have htl : g < w.heap.size := World.block_lt_of_cell? w _ h0
  have n8 := Tryz.isNil_pP ⟨w.heap.size, 0, none⟩ ⟨g, 0, none⟩ ((w.alloc (.cells #[.pointer (some ⟨g, 0, none⟩)] 98)).alloc (.cells #[.pointer (some ⟨6, 98, none⟩), .pointer (some ⟨w.heap.size, 0, none⟩), .int .u64 150] 129)) (by simp)
  have hg1 := hg.1
  have hlt := hg.2
  have hg2 : ((w.alloc (.cells #[.pointer (some ⟨g, 0, none⟩)] 98)).alloc (.cells #[.pointer (some ⟨6, 98, none⟩), .pointer (some ⟨w.heap.size, 0, none⟩), .int .u64 150] 129)).cell? ⟨0, 0, none⟩ = some (.iface 162 (.agg #[.pointer (some ⟨6, 76, none⟩)])) := by
    rw [World.cell?_alloc_lt _ _ ⟨0, 0, none⟩ (by simp <;> omega), World.cell?_alloc_lt _ _ ⟨0, 0, none⟩ hlt]; exact hg1
  have el := Tryz.elemV_pP ⟨w.heap.size, 0, none⟩ ⟨g, 0, none⟩ (((w.alloc (.cells #[.pointer (some ⟨g, 0, none⟩)] 98)).alloc (.cells #[.pointer (some ⟨6, 98, none⟩), .pointer (some ⟨w.heap.size, 0, none⟩), .int .u64 150] 129)).alloc (.cells #[.pointer (some ⟨6, 98, none⟩), .pointer (some ⟨w.heap.size, 0, none⟩), .int .u64 150] 129)) (by rw [World.cell?_alloc_lt _ _ ⟨w.heap.size, 0, none⟩ (by simp; omega)]; simp)
  have hb := ck_four w (.cells #[.pointer (some ⟨g, 0, none⟩)] 98) (.cells #[.pointer (some ⟨6, 98, none⟩), .pointer (some ⟨w.heap.size, 0, none⟩), .int .u64 150] 129) (.cells #[.pointer (some ⟨6, 98, none⟩), .pointer (some ⟨w.heap.size, 0, none⟩), .int .u64 150] 129) (.cells #[.int .i64 i, .iface 93 (.string s)] 97)
  have st := Tryz.setv_P g (w.heap.size + 1 + 1 + 1) i 93 (.string s) o0 o1 ((((w.alloc (.cells #[.pointer (some ⟨g, 0, none⟩)] 98)).alloc (.cells #[.pointer (some ⟨6, 98, none⟩), .pointer (some ⟨w.heap.size, 0, none⟩), .int .u64 150] 129)).alloc (.cells #[.pointer (some ⟨6, 98, none⟩), .pointer (some ⟨w.heap.size, 0, none⟩), .int .u64 150] 129)).alloc (.cells #[.int .i64 i, .iface 93 (.string s)] 97))
    (by rw [World.cell?_alloc_at _ _ _ _ (by simp)]; rfl) (by rw [World.cell?_alloc_at _ _ _ _ (by simp)]; rfl)
    ((hb.cell (p := ⟨g, 0, none⟩) htl).trans h0) ((hb.cell (p := ⟨g, 1, none⟩) htl).trans h1) ((hb.frozen (p := ⟨g, 0, none⟩) htl).trans f0) ((hb.frozen (p := ⟨g, 1, none⟩) htl).trans f1)
  clear hg hb
  go_enter Tryz.func47, Tryz.ntmps47
  go_wp2
  refine wp_loop_rounds 1 ?_
  rw [rounds_succ]
  go_wp2
  go_ret
  exact ⟨rfl, rfl⟩
end Go.Proofs.YtngceccpebdgmaaGreatDoor
