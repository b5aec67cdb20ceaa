/- errors.As at the target *fault of client. -/
import Derived.Test.YtdcfdcjgheijcaaGreatDoorChecked
import Derived.WalkKit
import Derived.WalkLawsBesides
import Derived.LaidEql
import Derived.Stop.Asserts
import Derived.Stop.IfaceNil
import Derived.RowKitTokens
import Derived.Outline
import Derived.Below
import Derived.Lib.Hide
namespace Go.Proofs.YtdcfdcjgheijcaaGreatDoor
open Go.RowKit Go.Extern.Stop Go.Stop Go.Extern

theorem rlm (z : Sem Value) (f : TypeId → Addr → Nat → Nat → Sem Value) (v : Value) :
    ReflectliteValue.method z f #[v] = (do match ← ReflectliteValue.parts v with | none => z | some (t, a, fl) => f t a fl (fl % 32)) := rfl
theorem rls (v x : Value) : ReflectliteValue.set #[v, x] = (do
    let (some (dst, a, fl), some (src, b, _)) := (← ReflectliteValue.parts v, ← ReflectliteValue.parts x)
      | unsupported (.noEntry "extern/(internal/reflectlite.Value).Set.zeroValue")
    if fl / ReflectliteValue.flagAddr % 2 == 0 then unsupported (.noEntry "extern/(internal/reflectlite.Value).Set.unaddressable")
    let val ← loadVar src b
    if ← Rtype.directlyAssignable dst src then storeVar dst a val
    else if ← Rtype.implements dst src then
      if (← Rtype.kind src) == 20 then
        match val with
        | .nilIface => unsupported (.noEntry "extern/reflectlite: a nil value of one interface type handed on as a value of another")
        | _ => storeVar dst a val
      else storeVar dst a (.iface src val)
    else panicString ("reflectlite.Set: value of type " ++ (← Rtype.spelt src) ++ " is not assignable to type " ++ (← Rtype.spelt dst))
    pure (.tuple #[])) := rfl
theorem Tryz.rtMKind (n : Nat) (h : Value) (w : World) : (Go.method (n + 1) 175 (.agg #[h]) "Kind").run Tryz.prog w = .ok (198, h) w := by kernel_rfl
theorem Tryz.rtMElem (n : Nat) (h : Value) (w : World) : (Go.method (n + 1) 175 (.agg #[h]) "Elem").run Tryz.prog w = .ok (209, .agg #[h]) w := by kernel_rfl
theorem Tryz.rtMImplements (n : Nat) (h : Value) (w : World) : (Go.method (n + 1) 175 (.agg #[h]) "Implements").run Tryz.prog w = .ok (210, .agg #[h]) w := by kernel_rfl
theorem Tryz.rtMAssignableTo (n : Nat) (h : Value) (w : World) : (Go.method (n + 1) 175 (.agg #[h]) "AssignableTo").run Tryz.prog w = .ok (207, .agg #[h]) w := by kernel_rfl
theorem Tryz.rtMUnwrap (n : Nat) (v : Value) (w : World) : (Go.method (n + 1) 138 v "Unwrap").run Tryz.prog w = .ok (205, v) w := by kernel_rfl
theorem Tryz.valueOf_pD (t : Addr) (w : World) : (ReflectliteValue.unpack (.iface 143 (.pointer (some t)))).run Tryz.prog w
    = .ok (.agg #[.pointer (some ⟨5, 143, none⟩), .pointer (some ⟨w.heap.size, 0, none⟩), .int .u64 150]) (w.alloc (.cells #[.pointer (some t)] 143)) := by kernel_rfl
theorem Tryz.type_pD (a : Addr) (w : World) : (ReflectliteValue.methodAny (ReflectliteValue.valueError "reflectlite.Value.Type" 0) (fun t _ _ _ => ReflectliteType.toType t) #[.agg #[.pointer (some ⟨5, 143, none⟩), .pointer (some a), .int .u64 150]]).run Tryz.prog w
    = .ok (.iface 175 (.agg #[.pointer (some ⟨5, 143, none⟩)])) w := by kernel_rfl
theorem Tryz.kind_pD (w : World) : ((ReflectliteType.abiMethod fun t => (fun a : Nat => Value.int IntKind.u8 (a : Int)) <$> Rtype.kind t) #[.pointer (some ⟨5, 143, none⟩)]).run Tryz.prog w = .ok (.int .u8 22) w := by kernel_rfl
theorem Tryz.kind_D (w : World) : ((ReflectliteType.abiMethod fun t => (fun a : Nat => Value.int IntKind.u8 (a : Int)) <$> Rtype.kind t) #[.pointer (some ⟨5, 136, none⟩)]).run Tryz.prog w = .ok (.int .u8 25) w := by kernel_rfl
theorem Tryz.parts_pD (a : Addr) (w : World) : (ReflectliteValue.parts (.agg #[.pointer (some ⟨5, 143, none⟩), .pointer (some a), .int .u64 150])).run Tryz.prog w = .ok (some (143, a, 150)) w := by kernel_rfl
theorem Tryz.isNil_pD (a p : Addr) (W : World) (ha : W.cell? a = some (.pointer (some p))) :
    (ReflectliteValue.method (ReflectliteValue.valueError "reflectlite.Value.IsNil" 0) ReflectliteValue.isNil #[.agg #[.pointer (some ⟨5, 143, none⟩), .pointer (some a), .int .u64 150]]).run Tryz.prog W = .ok (.bool false) W := by
  rw [rlm]
  simp only [Sem.run_bind, Tryz.parts_pD, Result.andThen]
  simp [ReflectliteValue.isNil, loadVar, isAgg, underlying, Tryz.underlying143, ha, Result.andThen]
theorem Tryz.elem_pD (w : World) : (ReflectliteType.method ReflectliteType.elem #[.agg #[.pointer (some ⟨5, 143, none⟩)]]).run Tryz.prog w = .ok (.iface 175 (.agg #[.pointer (some ⟨5, 136, none⟩)])) w := by kernel_rfl
theorem Tryz.implements_D (w : World) : (ReflectliteType.relation "Implements" ReflectliteType.implements_ #[.agg #[.pointer (some ⟨5, 136, none⟩)], .iface 175 (.agg #[.pointer (some ⟨5, 86, none⟩)])]).run Tryz.prog w = .ok (.bool true) w := by kernel_rfl
theorem Tryz.typeOf_D (v : Value) (w : World) : (ReflectliteType.typeOf #[.iface 136 v]).run Tryz.prog w = .ok (.iface 175 (.agg #[.pointer (some ⟨5, 136, none⟩)])) w := by kernel_rfl
theorem Tryz.elemOf_pD (w : World) : (Rtype.elem? 143).run Tryz.prog w = .ok (some 136) w := by kernel_rfl
theorem Tryz.mk_D (p : Addr) (w : World) : (ReflectliteValue.mk 136 p ReflectliteValue.flagAddr).run Tryz.prog w = .ok (.agg #[.pointer (some ⟨5, 136, none⟩), .pointer (some p), .int .u64 409]) w := by kernel_rfl
theorem Tryz.elemV_pD (a p : Addr) (W : World) (ha : W.cell? a = some (.pointer (some p))) :
    (ReflectliteValue.method (ReflectliteValue.valueError "reflectlite.Value.Elem" 0) ReflectliteValue.elem #[.agg #[.pointer (some ⟨5, 143, none⟩), .pointer (some a), .int .u64 150]]).run Tryz.prog W
      = .ok (.agg #[.pointer (some ⟨5, 136, none⟩), .pointer (some p), .int .u64 409]) W := by
  rw [rlm]
  simp only [Sem.run_bind, Tryz.parts_pD, Result.andThen]
  simp [ReflectliteValue.elem, loadVar, isAgg, underlying, Tryz.underlying143, ha, Result.andThen, Tryz.elemOf_pD, Tryz.mk_D]
theorem Tryz.parts_Da (a : Addr) (w : World) : (ReflectliteValue.parts (.agg #[.pointer (some ⟨5, 136, none⟩), .pointer (some a), .int .u64 409])).run Tryz.prog w = .ok (some (136, a, 409)) w := by kernel_rfl
theorem Tryz.parts_D (a : Addr) (w : World) : (ReflectliteValue.parts (.agg #[.pointer (some ⟨5, 136, none⟩), .pointer (some a), .int .u64 153])).run Tryz.prog w = .ok (some (136, a, 153)) w := by kernel_rfl
theorem Tryz.direct_D (w : World) : (Rtype.directlyAssignable 136 136).run Tryz.prog w = .ok true w := by kernel_rfl
theorem Tryz.valueOf_D (n : Int) (e : ByteArray) (w : World) : (ReflectliteValue.unpack (.iface 136 (.agg #[.int .i64 n, .string e]))).run Tryz.prog w
    = .ok (.agg #[.pointer (some ⟨5, 136, none⟩), .pointer (some ⟨w.heap.size, 0, none⟩), .int .u64 153]) (w.alloc (.cells #[.int .i64 n, .string e] 136)) := by kernel_rfl
theorem Tryz.typeOf_U (v : Value) (w : World) : (ReflectliteType.typeOf #[.iface 138 v]).run Tryz.prog w = .ok (.iface 175 (.agg #[.pointer (some ⟨5, 138, none⟩)])) w := by kernel_rfl
theorem Tryz.noAs_U (v : Value) (xT : TypeId) (w : World) : (Instr.typeAssert (.iface 138 v) xT 220 true).run Tryz.prog w = .ok (.tuple #[.nilIface, .bool false]) w := run_typeAssert_lacksB Tryz.underlying220 (by kernel_rfl) (by kernel_rfl) v xT w
theorem Tryz.hasUn_U (v : Value) (xT : TypeId) (w : World) : (Instr.typeAssert (.iface 138 v) xT 180 true).run Tryz.prog w = .ok (.tuple #[.iface 138 v, .bool true]) w := run_typeAssert_hasB Tryz.underlying180 (by kernel_rfl) v xT w
theorem Tryz.assign_DD (w : World) : (ReflectliteType.relation "AssignableTo" ReflectliteType.assignableTo #[.agg #[.pointer (some ⟨5, 136, none⟩)], .iface 175 (.agg #[.pointer (some ⟨5, 136, none⟩)])]).run Tryz.prog w = .ok (.bool true) w := by kernel_rfl
theorem Tryz.assign_UD (w : World) : (ReflectliteType.relation "AssignableTo" ReflectliteType.assignableTo #[.agg #[.pointer (some ⟨5, 138, none⟩)], .iface 175 (.agg #[.pointer (some ⟨5, 136, none⟩)])]).run Tryz.prog w = .ok (.bool false) w := by kernel_rfl
theorem Tryz.sizeD (w : World) : (sizeOf 136).run Tryz.prog w = .ok 2 w := by kernel_rfl
theorem Tryz.aggD (w : World) : (isAgg 136).run Tryz.prog w = .ok true w := by kernel_rfl
theorem load_D (b : Nat) (i x : Value) (W : World) (h0 : W.cell? ⟨b, 0, none⟩ = some i) (h1 : W.cell? ⟨b, 1, none⟩ = some x) : (loadVar 136 ⟨b, 0, none⟩).run Tryz.prog W = .ok (.agg #[i, x]) W := by
  have q : ∀ w, (isAgg 136).run Tryz.prog w = .ok true w := Tryz.aggD
  have z : ∀ w, (sizeOf 136).run Tryz.prog w = .ok 2 w := Tryz.sizeD
  simp [loadVar, q, z, Result.andThen, loadCells, loadCellsFrom, h0, h1, Addr.add]
theorem store_D (b : Nat) (i : Int) (x : ByteArray) (o0 o1 : Value) (W : World) (h0 : W.cell? ⟨b, 0, none⟩ = some o0) (h1 : W.cell? ⟨b, 1, none⟩ = some o1) (f0 : W.frozen? ⟨b, 0, none⟩ = false) (f1 : W.frozen? ⟨b, 1, none⟩ = false) :
    (storeVar 136 ⟨b, 0, none⟩ (.agg #[.int .i64 i, .string x])).run Tryz.prog W = .ok () ((W.setCell ⟨b, 0, none⟩ (.int .i64 i)).setCell ⟨b, 1, none⟩ (.string x)) := by
  have z : ∀ w, (sizeOf 136).run Tryz.prog w = .ok 2 w := Tryz.sizeD
  have c1 : (W.setCell ⟨b, 0, none⟩ (.int .i64 i)).cell? ⟨b, 1, none⟩ = some o1 := (World.cell?_setCell_other _ _ _ _ (by simp)).trans h1
  have g1 : (W.setCell ⟨b, 0, none⟩ (.int .i64 i)).frozen? ⟨b, 1, none⟩ = false := by simpa using f1
  simp [storeVar, Value.cells, z, Result.andThen, storeCells, Addr.add]
  rw [run_store Tryz.prog W ⟨b, 0, none⟩ _ _ (by rfl)]
  simp [h0, f0]
  rw [run_store Tryz.prog _ ⟨b, 1, none⟩ _ _ (by rfl)]
  simp [c1, g1]
theorem Tryz.setv_D (ta b : Nat) (i : Int) (x : ByteArray) (o0 o1 : Value) (W : World) (b0 : W.cell? ⟨b, 0, none⟩ = some (.int .i64 i)) (b1 : W.cell? ⟨b, 1, none⟩ = some (.string x)) (h0 : W.cell? ⟨ta, 0, none⟩ = some o0) (h1 : W.cell? ⟨ta, 1, none⟩ = some o1) (f0 : W.frozen? ⟨ta, 0, none⟩ = false) (f1 : W.frozen? ⟨ta, 1, none⟩ = false) :
    (ReflectliteValue.set #[.agg #[.pointer (some ⟨5, 136, none⟩), .pointer (some ⟨ta, 0, none⟩), .int .u64 409], .agg #[.pointer (some ⟨5, 136, none⟩), .pointer (some ⟨b, 0, none⟩), .int .u64 153]]).run Tryz.prog W
      = .ok (.tuple #[]) ((W.setCell ⟨ta, 0, none⟩ (.int .i64 i)).setCell ⟨ta, 1, none⟩ (.string x)) := by
  rw [rls]
  simp only [Sem.run_bind, Tryz.parts_Da, Tryz.parts_D, Result.andThen]
  simp [ReflectliteValue.flagAddr, load_D b _ _ W b0 b1, Result.andThen, Tryz.direct_D, store_D ta i x o0 o1 W h0 h1 f0 f1]


/-- The variable errorType holds the handle of the type error. -/
def Ge (w : World) : Prop := w.cell? ⟨4, 0, none⟩ = some (.iface 175 (.agg #[.pointer (some ⟨5, 86, none⟩)])) ∧ 4 < w.heap.size
theorem Ge.below {w w' : World} (h : Ge w) (hb : Below w.heap.size w w') : Ge w' := ⟨(hb.cell (p := ⟨4, 0, none⟩) h.2).trans h.1, Nat.lt_of_lt_of_le h.2 hb.size⟩
theorem ck_four (w : World) (a b c d : Obj) : Below w.heap.size w ((((w.alloc a).alloc b).alloc c).alloc d) :=
  ((((Below.refl _ w).alloc (Nat.le_refl _) _).alloc (by simp) _).alloc (by simp; omega) _).alloc (by simp; omega) _
theorem ck_five (w : World) (a b c d e : Obj) : Below w.heap.size w (((((w.alloc a).alloc b).alloc c).alloc d).alloc e) :=
  (ck_four w a b c d).alloc (by simp; omega) _

set_option maxRecDepth 100000 in
set_option maxHeartbeats 4000000 in
/-- A fault: it. -/
theorem as_D (n : Int) (e : ByteArray) (g : Nat) (o0 o1 : Value) (w : World) (hg : Ge w) (h0 : w.cell? ⟨g, 0, none⟩ = some o0) (h1 : w.cell? ⟨g, 1, none⟩ = some o1) (f0 : w.frozen? ⟨g, 0, none⟩ = false) (f1 : w.frozen? ⟨g, 1, none⟩ = false) :
    Calls Tryz.prog 95 #[.iface 136 (.agg #[.int .i64 n, .string e]), .iface 143 (.pointer (some ⟨g, 0, none⟩))] w fun ev w' => ev = .returned (.bool true) ∧ w' = (((((w.alloc (.cells #[.pointer (some ⟨g, 0, none⟩)] 143)).alloc (.cells #[.pointer (some ⟨5, 143, none⟩), .pointer (some ⟨w.heap.size, 0, none⟩), .int .u64 150] 191)).alloc (.cells #[.pointer (some ⟨5, 143, none⟩), .pointer (some ⟨w.heap.size, 0, none⟩), .int .u64 150] 191)).alloc (.cells #[.int .i64 n, .string e] 136)).setCell ⟨g, 0, none⟩ (.int .i64 n)).setCell ⟨g, 1, none⟩ (.string e) := by
  have h6 := @run_callFunc_extern Tryz.prog 131 _ (fun args => ReflectliteValue.unpack (args.getD 0 (.tuple #[]))) Tryz.func131 (by kernel_rfl) (by kernel_rfl) (by kernel_rfl) (by kernel_rfl)
  have h7 := @run_callFunc_extern Tryz.prog 132 _ (ReflectliteValue.methodAny (ReflectliteValue.valueError "reflectlite.Value.Type" 0) (fun t _ _ _ => ReflectliteType.toType t)) Tryz.func132 (by kernel_rfl) (by kernel_rfl) (by kernel_rfl) (by kernel_rfl)
  have h8 := @run_callFunc_extern Tryz.prog 133 _ (ReflectliteValue.method (ReflectliteValue.valueError "reflectlite.Value.IsNil" 0) ReflectliteValue.isNil) Tryz.func133 (by kernel_rfl) (by kernel_rfl) (by kernel_rfl) (by kernel_rfl)
  have h27 := @run_callFunc_extern Tryz.prog 198 _ (ReflectliteType.abiMethod fun t => do pure (.int .u8 (← Rtype.kind t))) Tryz.func198 (by kernel_rfl) (by kernel_rfl) (by kernel_rfl) (by kernel_rfl)
  have h37 := @run_callFunc_extern Tryz.prog 209 _ (ReflectliteType.method ReflectliteType.elem) Tryz.func209 (by kernel_rfl) (by kernel_rfl) (by kernel_rfl) (by kernel_rfl)
  have h38 := @run_callFunc_extern Tryz.prog 210 _ (ReflectliteType.relation "Implements" ReflectliteType.implements_) Tryz.func210 (by kernel_rfl) (by kernel_rfl) (by kernel_rfl) (by kernel_rfl)
  have h10 := @run_callFunc_extern Tryz.prog 83 _ ReflectliteType.typeOf Tryz.func83 (by kernel_rfl) (by kernel_rfl) (by kernel_rfl) (by kernel_rfl)
  have h35 := @run_callFunc_extern Tryz.prog 207 _ (ReflectliteType.relation "AssignableTo" ReflectliteType.assignableTo) Tryz.func207 (by kernel_rfl) (by kernel_rfl) (by kernel_rfl) (by kernel_rfl)
  have h11 := @run_callFunc_extern Tryz.prog 161 _ (ReflectliteValue.method (ReflectliteValue.valueError "reflectlite.Value.Elem" 0) ReflectliteValue.elem) Tryz.func161 (by kernel_rfl) (by kernel_rfl) (by kernel_rfl) (by kernel_rfl)
  have h12 := @run_callFunc_extern Tryz.prog 162 _ ReflectliteValue.set Tryz.func162 (by kernel_rfl) (by kernel_rfl) (by kernel_rfl) (by kernel_rfl)
  have mK := Tryz.rtMKind
  have mE := Tryz.rtMElem
  have mI := Tryz.rtMImplements
  have mA := Tryz.rtMAssignableTo
  have f6 := Tryz.valueOf_pD
  have f7 := Tryz.type_pD
  have kp := Tryz.kind_pD
  have kt := Tryz.kind_D
  have ep := Tryz.elem_pD
  have im := Tryz.implements_D
  have tD := Tryz.typeOf_D
  have aD := Tryz.assign_DD
  have vD := Tryz.valueOf_D
  have htl : g < w.heap.size := World.block_lt_of_cell? w _ h0
  have n8 := Tryz.isNil_pD ⟨w.heap.size, 0, none⟩ ⟨g, 0, none⟩ ((w.alloc (.cells #[.pointer (some ⟨g, 0, none⟩)] 143)).alloc (.cells #[.pointer (some ⟨5, 143, none⟩), .pointer (some ⟨w.heap.size, 0, none⟩), .int .u64 150] 191)) (by simp)
  have hg1 := hg.1
  have hlt := hg.2
  have hg2 : ((w.alloc (.cells #[.pointer (some ⟨g, 0, none⟩)] 143)).alloc (.cells #[.pointer (some ⟨5, 143, none⟩), .pointer (some ⟨w.heap.size, 0, none⟩), .int .u64 150] 191)).cell? ⟨4, 0, none⟩ = some (.iface 175 (.agg #[.pointer (some ⟨5, 86, none⟩)])) := by
    rw [World.cell?_alloc_lt _ _ ⟨4, 0, none⟩ (by simp <;> omega), World.cell?_alloc_lt _ _ ⟨4, 0, none⟩ hlt]; exact hg1
  have el := Tryz.elemV_pD ⟨w.heap.size, 0, none⟩ ⟨g, 0, none⟩ (((w.alloc (.cells #[.pointer (some ⟨g, 0, none⟩)] 143)).alloc (.cells #[.pointer (some ⟨5, 143, none⟩), .pointer (some ⟨w.heap.size, 0, none⟩), .int .u64 150] 191)).alloc (.cells #[.pointer (some ⟨5, 143, none⟩), .pointer (some ⟨w.heap.size, 0, none⟩), .int .u64 150] 191)) (by rw [World.cell?_alloc_lt _ _ ⟨w.heap.size, 0, none⟩ (by first | (simp; done) | (simp; omega)), World.cell?_alloc_lt _ _ ⟨w.heap.size, 0, none⟩ (by first | (simp; done) | (simp; omega))]; simp)
  have hb := ck_four w (.cells #[.pointer (some ⟨g, 0, none⟩)] 143) (.cells #[.pointer (some ⟨5, 143, none⟩), .pointer (some ⟨w.heap.size, 0, none⟩), .int .u64 150] 191) (.cells #[.pointer (some ⟨5, 143, none⟩), .pointer (some ⟨w.heap.size, 0, none⟩), .int .u64 150] 191) (.cells #[.int .i64 n, .string e] 136)
  have st := Tryz.setv_D g (w.heap.size + 1 + 1 + 1) n e o0 o1 ((((w.alloc (.cells #[.pointer (some ⟨g, 0, none⟩)] 143)).alloc (.cells #[.pointer (some ⟨5, 143, none⟩), .pointer (some ⟨w.heap.size, 0, none⟩), .int .u64 150] 191)).alloc (.cells #[.pointer (some ⟨5, 143, none⟩), .pointer (some ⟨w.heap.size, 0, none⟩), .int .u64 150] 191)).alloc (.cells #[.int .i64 n, .string e] 136))
    (by rw [World.cell?_alloc_at _ _ _ _ (by simp)]; rfl) (by rw [World.cell?_alloc_at _ _ _ _ (by simp)]; rfl)
    ((hb.cell (p := ⟨g, 0, none⟩) htl).trans h0) ((hb.cell (p := ⟨g, 1, none⟩) htl).trans h1) ((hb.frozen (p := ⟨g, 0, none⟩) htl).trans f0) ((hb.frozen (p := ⟨g, 1, none⟩) htl).trans f1)
  clear hg hb
  go_enter Tryz.func95, Tryz.ntmps95
  go_wp2
  refine wp_loop_rounds 1 ?_
  rw [rounds_succ]
  go_wp2
  go_ret
  exact ⟨rfl, rfl⟩

set_option maxRecDepth 100000 in
set_option maxHeartbeats 4000000 in
/-- An inTopic that holds a fault: it. -/
theorem as_UD (i n : Int) (e : ByteArray) (g : Nat) (o0 o1 : Value) (w : World) (hg : Ge w) (h0 : w.cell? ⟨g, 0, none⟩ = some o0) (h1 : w.cell? ⟨g, 1, none⟩ = some o1) (f0 : w.frozen? ⟨g, 0, none⟩ = false) (f1 : w.frozen? ⟨g, 1, none⟩ = false) :
    Calls Tryz.prog 95 #[.iface 138 (.agg #[.int .i64 i, .iface 136 (.agg #[.int .i64 n, .string e])]), .iface 143 (.pointer (some ⟨g, 0, none⟩))] w fun ev w' => ev = .returned (.bool true) ∧ w' = ((((((w.alloc (.cells #[.pointer (some ⟨g, 0, none⟩)] 143)).alloc (.cells #[.pointer (some ⟨5, 143, none⟩), .pointer (some ⟨w.heap.size, 0, none⟩), .int .u64 150] 191)).alloc (.cells #[.pointer (some ⟨5, 143, none⟩), .pointer (some ⟨w.heap.size, 0, none⟩), .int .u64 150] 191)).alloc (.cells #[.int .i64 i, .iface 136 (.agg #[.int .i64 n, .string e])] 138)).alloc (.cells #[.int .i64 n, .string e] 136)).setCell ⟨g, 0, none⟩ (.int .i64 n)).setCell ⟨g, 1, none⟩ (.string e) := by
  have h6 := @run_callFunc_extern Tryz.prog 131 _ (fun args => ReflectliteValue.unpack (args.getD 0 (.tuple #[]))) Tryz.func131 (by kernel_rfl) (by kernel_rfl) (by kernel_rfl) (by kernel_rfl)
  have h7 := @run_callFunc_extern Tryz.prog 132 _ (ReflectliteValue.methodAny (ReflectliteValue.valueError "reflectlite.Value.Type" 0) (fun t _ _ _ => ReflectliteType.toType t)) Tryz.func132 (by kernel_rfl) (by kernel_rfl) (by kernel_rfl) (by kernel_rfl)
  have h8 := @run_callFunc_extern Tryz.prog 133 _ (ReflectliteValue.method (ReflectliteValue.valueError "reflectlite.Value.IsNil" 0) ReflectliteValue.isNil) Tryz.func133 (by kernel_rfl) (by kernel_rfl) (by kernel_rfl) (by kernel_rfl)
  have h27 := @run_callFunc_extern Tryz.prog 198 _ (ReflectliteType.abiMethod fun t => do pure (.int .u8 (← Rtype.kind t))) Tryz.func198 (by kernel_rfl) (by kernel_rfl) (by kernel_rfl) (by kernel_rfl)
  have h37 := @run_callFunc_extern Tryz.prog 209 _ (ReflectliteType.method ReflectliteType.elem) Tryz.func209 (by kernel_rfl) (by kernel_rfl) (by kernel_rfl) (by kernel_rfl)
  have h38 := @run_callFunc_extern Tryz.prog 210 _ (ReflectliteType.relation "Implements" ReflectliteType.implements_) Tryz.func210 (by kernel_rfl) (by kernel_rfl) (by kernel_rfl) (by kernel_rfl)
  have h10 := @run_callFunc_extern Tryz.prog 83 _ ReflectliteType.typeOf Tryz.func83 (by kernel_rfl) (by kernel_rfl) (by kernel_rfl) (by kernel_rfl)
  have h35 := @run_callFunc_extern Tryz.prog 207 _ (ReflectliteType.relation "AssignableTo" ReflectliteType.assignableTo) Tryz.func207 (by kernel_rfl) (by kernel_rfl) (by kernel_rfl) (by kernel_rfl)
  have h11 := @run_callFunc_extern Tryz.prog 161 _ (ReflectliteValue.method (ReflectliteValue.valueError "reflectlite.Value.Elem" 0) ReflectliteValue.elem) Tryz.func161 (by kernel_rfl) (by kernel_rfl) (by kernel_rfl) (by kernel_rfl)
  have h12 := @run_callFunc_extern Tryz.prog 162 _ ReflectliteValue.set Tryz.func162 (by kernel_rfl) (by kernel_rfl) (by kernel_rfl) (by kernel_rfl)
  have mK := Tryz.rtMKind
  have mE := Tryz.rtMElem
  have mI := Tryz.rtMImplements
  have mA := Tryz.rtMAssignableTo
  have f6 := Tryz.valueOf_pD
  have f7 := Tryz.type_pD
  have kp := Tryz.kind_pD
  have kt := Tryz.kind_D
  have ep := Tryz.elem_pD
  have im := Tryz.implements_D
  have tU := Tryz.typeOf_U
  have tD := Tryz.typeOf_D
  have aU := Tryz.assign_UD
  have aD := Tryz.assign_DD
  have vD := Tryz.valueOf_D
  have nA := Tryz.noAs_U
  have nU := Tryz.hasUn_U
  have mU := Tryz.rtMUnwrap
  have htl : g < w.heap.size := World.block_lt_of_cell? w _ h0
  have n8 := Tryz.isNil_pD ⟨w.heap.size, 0, none⟩ ⟨g, 0, none⟩ ((w.alloc (.cells #[.pointer (some ⟨g, 0, none⟩)] 143)).alloc (.cells #[.pointer (some ⟨5, 143, none⟩), .pointer (some ⟨w.heap.size, 0, none⟩), .int .u64 150] 191)) (by simp)
  have hg1 := hg.1
  have hlt := hg.2
  have hg2 : ((w.alloc (.cells #[.pointer (some ⟨g, 0, none⟩)] 143)).alloc (.cells #[.pointer (some ⟨5, 143, none⟩), .pointer (some ⟨w.heap.size, 0, none⟩), .int .u64 150] 191)).cell? ⟨4, 0, none⟩ = some (.iface 175 (.agg #[.pointer (some ⟨5, 86, none⟩)])) := by
    rw [World.cell?_alloc_lt _ _ ⟨4, 0, none⟩ (by simp <;> omega), World.cell?_alloc_lt _ _ ⟨4, 0, none⟩ hlt]; exact hg1
  have el := Tryz.elemV_pD ⟨w.heap.size, 0, none⟩ ⟨g, 0, none⟩ ((((w.alloc (.cells #[.pointer (some ⟨g, 0, none⟩)] 143)).alloc (.cells #[.pointer (some ⟨5, 143, none⟩), .pointer (some ⟨w.heap.size, 0, none⟩), .int .u64 150] 191)).alloc (.cells #[.pointer (some ⟨5, 143, none⟩), .pointer (some ⟨w.heap.size, 0, none⟩), .int .u64 150] 191)).alloc (.cells #[.int .i64 i, .iface 136 (.agg #[.int .i64 n, .string e])] 138)) (by rw [World.cell?_alloc_lt _ _ ⟨w.heap.size, 0, none⟩ (by first | (simp; done) | (simp; omega)), World.cell?_alloc_lt _ _ ⟨w.heap.size, 0, none⟩ (by first | (simp; done) | (simp; omega))]; simp)
  have hb := ck_five w (.cells #[.pointer (some ⟨g, 0, none⟩)] 143) (.cells #[.pointer (some ⟨5, 143, none⟩), .pointer (some ⟨w.heap.size, 0, none⟩), .int .u64 150] 191) (.cells #[.pointer (some ⟨5, 143, none⟩), .pointer (some ⟨w.heap.size, 0, none⟩), .int .u64 150] 191) (.cells #[.int .i64 i, .iface 136 (.agg #[.int .i64 n, .string e])] 138) (.cells #[.int .i64 n, .string e] 136)
  have st := Tryz.setv_D g (w.heap.size + 1 + 1 + 1 + 1) n e o0 o1 (((((w.alloc (.cells #[.pointer (some ⟨g, 0, none⟩)] 143)).alloc (.cells #[.pointer (some ⟨5, 143, none⟩), .pointer (some ⟨w.heap.size, 0, none⟩), .int .u64 150] 191)).alloc (.cells #[.pointer (some ⟨5, 143, none⟩), .pointer (some ⟨w.heap.size, 0, none⟩), .int .u64 150] 191)).alloc (.cells #[.int .i64 i, .iface 136 (.agg #[.int .i64 n, .string e])] 138)).alloc (.cells #[.int .i64 n, .string e] 136))
    (by rw [World.cell?_alloc_at _ _ _ _ (by simp)]; rfl) (by rw [World.cell?_alloc_at _ _ _ _ (by simp)]; rfl)
    ((hb.cell (p := ⟨g, 0, none⟩) htl).trans h0) ((hb.cell (p := ⟨g, 1, none⟩) htl).trans h1) ((hb.frozen (p := ⟨g, 0, none⟩) htl).trans f0) ((hb.frozen (p := ⟨g, 1, none⟩) htl).trans f1)
  clear hg hb
  go_enter Tryz.func95, Tryz.ntmps95
  go_wp2
  refine wp_loop_rounds 2 ?_
  rw [rounds_succ]
  go_wp2
  rw [rounds_succ]
  go_wp2
  go_ret
  exact ⟨rfl, rfl⟩
end Go.Proofs.YtdcfdcjgheijcaaGreatDoor
