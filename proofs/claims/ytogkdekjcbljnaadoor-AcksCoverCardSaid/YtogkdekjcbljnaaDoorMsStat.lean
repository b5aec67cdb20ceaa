/- message: what is wrong with a status (tools/msright_gen.py). -/
import Derived.Test.YtogkdekjcbljnaaDoorMsIs
import Derived.Test.YtogkdekjcbljnaaDoorMsWrite
import Derived.Test.YtogkdekjcbljnaaDoorCkName
import Derived.Deep.DeepCutAuto
import Derived.Deep.CutRange
import Derived.Deep.CutBlock
import Derived.Laws.Rows
import Derived.Laws.Tables
namespace Go.Proofs.YtogkdekjcbljnaaDoor
open Go.RowKit Go.Lib

/-- A laid block. -/
def Bk (W : World) (B : Nat) (c : Array Value) (t : TypeId) : Prop := W.heap[B]? = some (.cells c t (0, 0))
theorem Bk.lt {W : World} {B : Nat} {c : Array Value} {t : TypeId} (h : Bk W B c t) : B < W.heap.size := (Array.getElem?_eq_some_iff.1 h).1
theorem Bk.later {W W' : World} {B : Nat} {c : Array Value} {t : TypeId} (h : Bk W B c t) (hb : Below W.heap.size W W') : Bk W' B c t := (hb.block B h.lt).trans h
theorem Bk.cell {W : World} {B : Nat} {c : Array Value} {t : TypeId} (h : Bk W B c t) (k : Nat) : W.cell? ⟨B, k, none⟩ = c[k]? := by rw [Lib.cell_of_heap h]
theorem alloc_sized (w : World) (cs : Array Value) (t : TypeId) : ∃ w', w.alloc (.cells cs t) = w' ∧ Below w.heap.size w w' ∧ Bk w' w.heap.size cs t ∧ w'.heap.size = w.heap.size + 1 :=
  ⟨_, rfl, (Below.refl _ _).alloc (Nat.le_refl _) _, heap_alloc_new _ _, by simp⟩
theorem alloc_new (w : World) (cs : Array Value) (t : TypeId) : ∃ w', w.alloc (.cells cs t) = w' ∧ Below w.heap.size w w' ∧ Bk w' w.heap.size cs t := ⟨_, rfl, (Below.refl _ _).alloc (Nat.le_refl _) _, heap_alloc_new _ _⟩
theorem drew_new (w : World) : ∃ w', w.drew = w' ∧ Below w.heap.size w w' := ⟨_, rfl, (Below.refl _ _).drew⟩
def Base (W w : World) : Prop := Below W.heap.size W w
theorem Base.later {W w w' : World} (h : Base W w) (hb : Below w.heap.size w w') : Base W w' := Below.trans h (hb.mono (Below.size h))
theorem istype_any (t : Int) (w : World) : Calls Tryd.prog 44 #[.int .i64 t] w fun e w' => e = .returned (.bool (decide (1 ≤ t) && decide (t ≤ 5))) ∧ Below w.heap.size w w' := by
  by_cases h1 : 1 ≤ t
  · by_cases h5 : t ≤ 5
    · have q1 : decide (1 ≤ t) = true := decide_eq_true h1
      have q5 : decide (t ≤ 5) = true := decide_eq_true h5
      go_enter Tryd.func44, Tryd.ntmps44
      go_wp2_with fail
      go_ret
      exact ⟨by simp [h1, h5], Below.refl _ _⟩
    · have q1 : decide (1 ≤ t) = true := decide_eq_true h1
      have q5 : decide (t ≤ 5) = false := decide_eq_false h5
      go_enter Tryd.func44, Tryd.ntmps44
      go_wp2_with fail
      go_ret
      exact ⟨by simp [h1, h5], Below.refl _ _⟩
  · have q1 : decide (1 ≤ t) = false := decide_eq_false h1
    go_enter Tryd.func44, Tryd.ntmps44
    go_wp2_with fail
    go_ret
    exact ⟨by simp [h1], Below.refl _ _⟩
theorem chkname_any (x : ByteArray) (w : World) : Calls Tryd.prog 45 #[.string x] w fun e w' => e = .returned (.bool (nmOk x)) ∧ Below w.heap.size w w' := by
  refine (name_any x w).mono ?_
  rintro e w' ⟨rfl, rfl⟩
  exact ⟨rfl, Below.refl _ _⟩
theorem oV_one (b : Addr) (o : Option (List Int)) : (oV b o).cells = #[oV b o] := by
  rcases o with _ | ⟨_ | ⟨j, l⟩⟩ <;> rfl
theorem five_cells {b : Addr} {W : World} {B : Nat} {t : TypeId} {o0 o1 o2 o3 o4 : Option (List Int)} {V0 V1 V2 V3 V4 : Value} (hv : oV b o0 = V0 ∧ oV b o1 = V1 ∧ oV b o2 = V2 ∧ oV b o3 = V3 ∧ oV b o4 = V4) (h : Bk W B #[V0, V1, V2, V3, V4] t) : ∀ (k : Nat) o, [o0, o1, o2, o3, o4][k]? = some o → W.cell? ⟨B, k, none⟩ = some (oV b o) := by
  obtain ⟨rfl, rfl, rfl, rfl, rfl⟩ := hv
  intro k o ho
  rw [h.cell k]
  match k, ho with
  | 0, ho => simp at ho; subst ho; rfl
  | 1, ho => simp at ho; subst ho; rfl
  | 2, ho => simp at ho; subst ho; rfl
  | 3, ho => simp at ho; subst ho; rfl
  | 4, ho => simp at ho; subst ho; rfl
  | k + 5, ho => simp at ho
set_option maxRecDepth 100000 in
set_option maxHeartbeats 8000000 in
theorem chkStat_ff (t : Int) (x : ByteArray) (q : Nat) (s : ByteArray) (b : Addr) (w : World) (hg : Gn b w) :
    Calls Tryd.prog 27 #[.agg #[.int .i64 t, .string x, .int .u64 (q : Int), .bool false, .string s]] w fun e w' => e = .returned (oV b (firstO [needO 1 (decide (1 ≤ t) && decide (t ≤ 5)), needO 2 (nmOk x), needO 3 ((q : Int) != 0), needO 5 (decide ((s.size : Int) ≤ 256)), needO 5 true])) ∧ Below w.heap.size w w' := by
  obtain ⟨w0, hw0, hb0, p0, -⟩ := alloc_sized w #[.int .i64 t, .string x, .int .u64 (q : Int), .bool false, .string s] 35
  have H := Lib.hid hb0
  have hGg := hg.later hb0
  have HW := Lib.hid hw0
  have hPr := p0
  have B0 : Base w0 w0 := Below.refl _ _
  have T1 := Lib.hid (fun W => istype_any t W)
  generalize (decide (1 ≤ t) && decide (t ≤ 5)) = Q1 at T1 ⊢
  have T2 := Lib.hid (fun W => chkname_any x W)
  generalize nmOk x = Q2 at T2 ⊢
  obtain ⟨Q3, hQ3⟩ : ∃ B, ((q : Int) != 0) = B := ⟨_, rfl⟩
  rw [hQ3]
  obtain ⟨Z, hZ⟩ : ∃ Z : Int, (s.size : Int) = Z := ⟨_, rfl⟩
  rw [hZ]
  obtain ⟨Q4, hQ4⟩ : ∃ B, decide (Z ≤ 256) = B := ⟨_, rfl⟩
  rw [hQ4]
  obtain ⟨V0, hV0⟩ : ∃ V, oV b (needO 1 Q1) = V := ⟨_, rfl⟩
  have N0 := Lib.hid (fun W hW => need_any 1 Q1 b W hW)
  rw [hV0] at N0
  have hc0 := oV_one b (needO 1 Q1)
  rw [hV0] at hc0
  simp only [Value.cells] at hc0
  obtain ⟨V1, hV1⟩ : ∃ V, oV b (needO 2 Q2) = V := ⟨_, rfl⟩
  have N1 := Lib.hid (fun W hW => need_any 2 Q2 b W hW)
  rw [hV1] at N1
  have hc1 := oV_one b (needO 2 Q2)
  rw [hV1] at hc1
  simp only [Value.cells] at hc1
  obtain ⟨V2, hV2⟩ : ∃ V, oV b (needO 3 Q3) = V := ⟨_, rfl⟩
  have N2 := Lib.hid (fun W hW => need_any 3 Q3 b W hW)
  rw [hV2] at N2
  have hc2 := oV_one b (needO 3 Q3)
  rw [hV2] at hc2
  simp only [Value.cells] at hc2
  obtain ⟨V3, hV3⟩ : ∃ V, oV b (needO 5 Q4) = V := ⟨_, rfl⟩
  have N3 := Lib.hid (fun W hW => need_any 5 Q4 b W hW)
  rw [hV3] at N3
  have hc3 := oV_one b (needO 5 Q4)
  rw [hV3] at hc3
  simp only [Value.cells] at hc3
  obtain ⟨V4, hV4⟩ : ∃ V, oV b (needO 5 true) = V := ⟨_, rfl⟩
  have N4 := Lib.hid (fun W hW => need_any 5 true b W hW)
  rw [hV4] at N4
  have hc4 := oV_one b (needO 5 true)
  rw [hV4] at hc4
  simp only [Value.cells] at hc4
  have HV := Lib.hid (And.intro hV0 (And.intro hV1 (And.intro hV2 (And.intro hV3 hV4))))
  clear hV0 hV1 hV2 hV3 hV4
  clear hb0 hw0 p0 hg
  go_enter Tryd.func27, Tryd.ntmps27
  go_wp2_with (rw [HW.out])
  obtain ⟨w101, hw102, hb103⟩ := drew_new w0
  have q104 := B0.later hb103
  have q105 := hPr.later hb103
  have q106 := hGg.later hb103
  refine wp_region_held_drew (S := (fun w' => w'.cell? ⟨w.heap.size, 0, none⟩ = some (.int .i64 t) ∧ w'.cell? ⟨w.heap.size, 1, none⟩ = some (.string x) ∧ w'.cell? ⟨w.heap.size, 2, none⟩ = some (.int .u64 (q : Int)) ∧ w'.cell? ⟨w.heap.size, 3, none⟩ = some (.bool false) ∧ w'.cell? ⟨w.heap.size, 4, none⟩ = some (.string s) ∧ True)) (by kernel_rfl) (by rw [hw102]; exact ⟨q105.cell 0, q105.cell 1, q105.cell 2, q105.cell 3, q105.cell 4, trivial⟩) (fun hHeld => ?_)
  rw [hw102] at hHeld ⊢
  refine wpAnyH_take (i := 0) (oi := { dst := some 3, op := Op.fieldAddr 35 (Operand.tmp 1) 0, type := 0, pos := "right.go:40", after := #[], guard := none }) (v := ?v1001) rfl (by kernel_rfl) (by kernel_rfl) (by kernel_rfl) (fun _ _ _ h => h) (Or.inl ⟨by rfl, ?hy1001⟩) (by assumption) ?rest1001
  case hy1001 => (intro w1 hSw; (try dsimp only at hSw); obtain ⟨h0, h1, h2, h3, h4, -⟩ := hSw; go_simp; try with_reducible rfl)
  try simp only [Act.put, List.setIfInBounds_toArray, List.set_cons_zero, List.set_cons_succ]
  refine wpAnyH_take (i := 1) (oi := { dst := some 4, op := Op.fieldAddr 27 (Operand.tmp 3) 0, type := 0, pos := "right.go:40", after := #[{ on := 0, ground := Ground.data }], guard := none }) (v := ?v1002) rfl (by kernel_rfl) (by kernel_rfl) (by kernel_rfl) (fun _ _ _ h => h) (Or.inl ⟨by rfl, ?hy1002⟩) (by assumption) ?rest1002
  case hy1002 => (intro w1 hSw; (try dsimp only at hSw); obtain ⟨h0, h1, h2, h3, h4, -⟩ := hSw; go_simp; try with_reducible rfl)
  try simp only [Act.put, List.setIfInBounds_toArray, List.set_cons_zero, List.set_cons_succ]
  refine wpAnyH_take (i := 2) (oi := { dst := some 5, op := Op.load 3 (Operand.tmp 4), type := 3, pos := "right.go:40", after := #[{ on := 1, ground := Ground.data }], guard := none }) (v := ?v1003) rfl (by kernel_rfl) (by kernel_rfl) (by kernel_rfl) (fun _ _ _ h => h) (Or.inl ⟨by rfl, ?hy1003⟩) (by assumption) ?rest1003
  case hy1003 => (intro w1 hSw; (try dsimp only at hSw); obtain ⟨h0, h1, h2, h3, h4, -⟩ := hSw; go_simp; try with_reducible rfl)
  try simp only [Act.put, List.setIfInBounds_toArray, List.set_cons_zero, List.set_cons_succ]
  refine wpAnyH_take (i := 5) (oi := { dst := some 8, op := Op.fieldAddr 35 (Operand.tmp 1) 0, type := 0, pos := "right.go:40", after := #[], guard := none }) (v := ?v1004) rfl (by kernel_rfl) (by kernel_rfl) (by kernel_rfl) (fun _ _ _ h => h) (Or.inl ⟨by rfl, ?hy1004⟩) (by assumption) ?rest1004
  case hy1004 => (intro w1 hSw; (try dsimp only at hSw); obtain ⟨h0, h1, h2, h3, h4, -⟩ := hSw; go_simp; try with_reducible rfl)
  try simp only [Act.put, List.setIfInBounds_toArray, List.set_cons_zero, List.set_cons_succ]
  refine wpAnyH_take (i := 6) (oi := { dst := some 9, op := Op.fieldAddr 27 (Operand.tmp 8) 1, type := 0, pos := "right.go:40", after := #[{ on := 5, ground := Ground.data }], guard := none }) (v := ?v1005) rfl (by kernel_rfl) (by kernel_rfl) (by kernel_rfl) (fun _ _ _ h => h) (Or.inl ⟨by rfl, ?hy1005⟩) (by assumption) ?rest1005
  case hy1005 => (intro w1 hSw; (try dsimp only at hSw); obtain ⟨h0, h1, h2, h3, h4, -⟩ := hSw; go_simp; try with_reducible rfl)
  try simp only [Act.put, List.setIfInBounds_toArray, List.set_cons_zero, List.set_cons_succ]
  refine wpAnyH_take (i := 7) (oi := { dst := some 10, op := Op.load 9 (Operand.tmp 9), type := 9, pos := "right.go:40", after := #[{ on := 6, ground := Ground.data }], guard := none }) (v := ?v1006) rfl (by kernel_rfl) (by kernel_rfl) (by kernel_rfl) (fun _ _ _ h => h) (Or.inl ⟨by rfl, ?hy1006⟩) (by assumption) ?rest1006
  case hy1006 => (intro w1 hSw; (try dsimp only at hSw); obtain ⟨h0, h1, h2, h3, h4, -⟩ := hSw; go_simp; try with_reducible rfl)
  try simp only [Act.put, List.setIfInBounds_toArray, List.set_cons_zero, List.set_cons_succ]
  refine wpAnyH_take (i := 10) (oi := { dst := some 13, op := Op.fieldAddr 35 (Operand.tmp 1) 1, type := 0, pos := "right.go:40", after := #[], guard := none }) (v := ?v1007) rfl (by kernel_rfl) (by kernel_rfl) (by kernel_rfl) (fun _ _ _ h => h) (Or.inl ⟨by rfl, ?hy1007⟩) (by assumption) ?rest1007
  case hy1007 => (intro w1 hSw; (try dsimp only at hSw); obtain ⟨h0, h1, h2, h3, h4, -⟩ := hSw; go_simp; try with_reducible rfl)
  try simp only [Act.put, List.setIfInBounds_toArray, List.set_cons_zero, List.set_cons_succ]
  refine wpAnyH_take (i := 11) (oi := { dst := some 14, op := Op.load 29 (Operand.tmp 13), type := 29, pos := "right.go:40", after := #[{ on := 10, ground := Ground.data }], guard := none }) (v := ?v1008) rfl (by kernel_rfl) (by kernel_rfl) (by kernel_rfl) (fun _ _ _ h => h) (Or.inl ⟨by rfl, ?hy1008⟩) (by assumption) ?rest1008
  case hy1008 => (intro w1 hSw; (try dsimp only at hSw); obtain ⟨h0, h1, h2, h3, h4, -⟩ := hSw; go_simp; try with_reducible rfl)
  try simp only [Act.put, List.setIfInBounds_toArray, List.set_cons_zero, List.set_cons_succ]
  refine wpAnyH_take (i := 12) (oi := { dst := some 15, op := Op.binOp BinOp.neq 29 (Operand.tmp 14) (Operand.const (Value.int IntKind.u64 0)) 29, type := 4, pos := "right.go:40", after := #[{ on := 11, ground := Ground.data }], guard := none }) (v := ?v1009) rfl (by kernel_rfl) (by kernel_rfl) (by kernel_rfl) (fun _ _ _ h => h) (Or.inl ⟨by rfl, ?hy1009⟩) (by assumption) ?rest1009
  case hy1009 => (intro w1 hSw; (try dsimp only at hSw); obtain ⟨h0, h1, h2, h3, h4, -⟩ := hSw; go_simp; try with_reducible rfl)
  try simp only [Act.put, List.setIfInBounds_toArray, List.set_cons_zero, List.set_cons_succ]
  refine wpAnyH_take (i := 14) (oi := { dst := some 17, op := Op.fieldAddr 35 (Operand.tmp 1) 3, type := 0, pos := "right.go:40", after := #[], guard := none }) (v := ?v1010) rfl (by kernel_rfl) (by kernel_rfl) (by kernel_rfl) (fun _ _ _ h => h) (Or.inl ⟨by rfl, ?hy1010⟩) (by assumption) ?rest1010
  case hy1010 => (intro w1 hSw; (try dsimp only at hSw); obtain ⟨h0, h1, h2, h3, h4, -⟩ := hSw; go_simp; try with_reducible rfl)
  try simp only [Act.put, List.setIfInBounds_toArray, List.set_cons_zero, List.set_cons_succ]
  refine wpAnyH_take (i := 15) (oi := { dst := some 18, op := Op.load 9 (Operand.tmp 17), type := 9, pos := "right.go:40", after := #[{ on := 14, ground := Ground.data }], guard := none }) (v := ?v1011) rfl (by kernel_rfl) (by kernel_rfl) (by kernel_rfl) (fun _ _ _ h => h) (Or.inl ⟨by rfl, ?hy1011⟩) (by assumption) ?rest1011
  case hy1011 => (intro w1 hSw; (try dsimp only at hSw); obtain ⟨h0, h1, h2, h3, h4, -⟩ := hSw; go_simp; try with_reducible rfl)
  try simp only [Act.put, List.setIfInBounds_toArray, List.set_cons_zero, List.set_cons_succ]
  refine wpAnyH_take (i := 16) (oi := { dst := some 19, op := Op.call { callee := Callee.builtin Builtin.len, args := #[Operand.tmp 18], argTypes := #[9] }, type := 3, pos := "right.go:40", after := #[{ on := 15, ground := Ground.data }], guard := none }) (v := ?v1012) rfl (by kernel_rfl) (by kernel_rfl) (by kernel_rfl) (fun _ _ _ h => h) (Or.inl ⟨by rfl, ?hy1012⟩) (by assumption) ?rest1012
  case hy1012 => (intro w1 hSw; (try dsimp only at hSw); obtain ⟨h0, h1, h2, h3, h4, -⟩ := hSw; go_simp; try with_reducible rfl)
  try simp only [Act.put, List.setIfInBounds_toArray, List.set_cons_zero, List.set_cons_succ]
  refine wpAnyH_take (i := 17) (oi := { dst := some 20, op := Op.binOp BinOp.leq 3 (Operand.tmp 19) (Operand.const (Value.int IntKind.i64 256)) 3, type := 4, pos := "right.go:40", after := #[{ on := 16, ground := Ground.data }], guard := none }) (v := ?v1013) rfl (by kernel_rfl) (by kernel_rfl) (by kernel_rfl) (fun _ _ _ h => h) (Or.inl ⟨by rfl, ?hy1013⟩) (by assumption) ?rest1013
  case hy1013 => (intro w1 hSw; (try dsimp only at hSw); obtain ⟨h0, h1, h2, h3, h4, -⟩ := hSw; go_simp; try with_reducible rfl)
  try simp only [Act.put, List.setIfInBounds_toArray, List.set_cons_zero, List.set_cons_succ]
  refine wpAnyH_take (i := 19) (oi := { dst := some 22, op := Op.fieldAddr 35 (Operand.tmp 1) 2, type := 0, pos := "right.go:40", after := #[], guard := none }) (v := ?v1014) rfl (by kernel_rfl) (by kernel_rfl) (by kernel_rfl) (fun _ _ _ h => h) (Or.inl ⟨by rfl, ?hy1014⟩) (by assumption) ?rest1014
  case hy1014 => (intro w1 hSw; (try dsimp only at hSw); obtain ⟨h0, h1, h2, h3, h4, -⟩ := hSw; go_simp; try with_reducible rfl)
  try simp only [Act.put, List.setIfInBounds_toArray, List.set_cons_zero, List.set_cons_succ]
  refine wpAnyH_take (i := 20) (oi := { dst := some 23, op := Op.load 4 (Operand.tmp 22), type := 4, pos := "right.go:40", after := #[{ on := 19, ground := Ground.data }], guard := none }) (v := ?v1015) rfl (by kernel_rfl) (by kernel_rfl) (by kernel_rfl) (fun _ _ _ h => h) (Or.inl ⟨by rfl, ?hy1015⟩) (by assumption) ?rest1015
  case hy1015 => (intro w1 hSw; (try dsimp only at hSw); obtain ⟨h0, h1, h2, h3, h4, -⟩ := hSw; go_simp; try with_reducible rfl)
  try simp only [Act.put, List.setIfInBounds_toArray, List.set_cons_zero, List.set_cons_succ]
  refine wpAnyH_take (i := 21) (oi := { dst := some 24, op := Op.unOp UnOp.not 4 (Operand.tmp 23), type := 4, pos := "right.go:40", after := #[{ on := 20, ground := Ground.data }], guard := none }) (v := ?v1016) rfl (by kernel_rfl) (by kernel_rfl) (by kernel_rfl) (fun _ _ _ h => h) (Or.inl ⟨by rfl, ?hy1016⟩) (by assumption) ?rest1016
  case hy1016 => (intro w1 hSw; (try dsimp only at hSw); obtain ⟨h0, h1, h2, h3, h4, -⟩ := hSw; go_simp; try with_reducible rfl)
  try simp only [Act.put, List.setIfInBounds_toArray, List.set_cons_zero, List.set_cons_succ]
  refine wpAnyH_ready (rs := [3]) (by kernel_rfl) (by simp) ?_
  refine AllReadyH.cons (o := { dst := some 6, op := Op.call { callee := Callee.value (Operand.func 44), args := #[Operand.tmp 5], argTypes := #[3] }, type := 4, pos := "right.go:41", after := #[{ on := 2, ground := Ground.data }], guard := none }) rfl (fun K hK => ?_) AllReadyH.nil
  go_simp
  refine (T1.out _).mono ?_
  rintro e w107 ⟨rfl, hb108⟩
  have q109 := q104.later hb108
  have q110 := q105.later hb108
  have q111 := q106.later hb108
  clear q104 q105 q106
  try clear hHeld
  refine hK.out _ _ (⟨q110.cell 0, q110.cell 1, q110.cell 2, q110.cell 3, q110.cell 4, trivial⟩) (fun hHeld => ?_)
  clear hK K
  try simp only [Act.put, List.setIfInBounds_toArray, List.set_cons_zero, List.set_cons_succ]
  refine wpAnyH_ready (rs := [4]) (by kernel_rfl) (by simp) ?_
  refine AllReadyH.cons (o := { dst := some 7, op := Op.call { callee := Callee.value (Operand.func 43), args := #[Operand.const (Value.int IntKind.i64 1), Operand.tmp 6], argTypes := #[3, 4] }, type := 74, pos := "right.go:41", after := #[{ on := 3, ground := Ground.data }, { on := 3, ground := Ground.chain }], guard := none }) rfl (fun K hK => ?_) AllReadyH.nil
  go_simp
  refine (N0.out _ q111).mono ?_
  rintro e w112 ⟨rfl, hb113⟩
  have q114 := q109.later hb113
  have q115 := q110.later hb113
  have q116 := q111.later hb113
  clear q109 q110 q111
  try clear hHeld
  refine hK.out _ _ (⟨q115.cell 0, q115.cell 1, q115.cell 2, q115.cell 3, q115.cell 4, trivial⟩) (fun hHeld => ?_)
  clear hK K
  try simp only [Act.put, List.setIfInBounds_toArray, List.set_cons_zero, List.set_cons_succ]
  refine wpAnyH_ready (rs := [8]) (by kernel_rfl) (by simp) ?_
  refine AllReadyH.cons (o := { dst := some 11, op := Op.call { callee := Callee.value (Operand.func 45), args := #[Operand.tmp 10], argTypes := #[9] }, type := 4, pos := "right.go:42", after := #[{ on := 7, ground := Ground.data }, { on := 4, ground := Ground.chain }], guard := none }) rfl (fun K hK => ?_) AllReadyH.nil
  go_simp
  refine (T2.out _).mono ?_
  rintro e w117 ⟨rfl, hb118⟩
  have q119 := q114.later hb118
  have q120 := q115.later hb118
  have q121 := q116.later hb118
  clear q114 q115 q116
  try clear hHeld
  refine hK.out _ _ (⟨q120.cell 0, q120.cell 1, q120.cell 2, q120.cell 3, q120.cell 4, trivial⟩) (fun hHeld => ?_)
  clear hK K
  try simp only [Act.put, List.setIfInBounds_toArray, List.set_cons_zero, List.set_cons_succ]
  refine wpAnyH_ready (rs := [9]) (by kernel_rfl) (by simp) ?_
  refine AllReadyH.cons (o := { dst := some 12, op := Op.call { callee := Callee.value (Operand.func 43), args := #[Operand.const (Value.int IntKind.i64 2), Operand.tmp 11], argTypes := #[3, 4] }, type := 74, pos := "right.go:42", after := #[{ on := 8, ground := Ground.data }, { on := 8, ground := Ground.chain }], guard := none }) rfl (fun K hK => ?_) AllReadyH.nil
  go_simp
  refine (N1.out _ q121).mono ?_
  rintro e w122 ⟨rfl, hb123⟩
  have q124 := q119.later hb123
  have q125 := q120.later hb123
  have q126 := q121.later hb123
  clear q119 q120 q121
  try clear hHeld
  refine hK.out _ _ (⟨q125.cell 0, q125.cell 1, q125.cell 2, q125.cell 3, q125.cell 4, trivial⟩) (fun hHeld => ?_)
  clear hK K
  try simp only [Act.put, List.setIfInBounds_toArray, List.set_cons_zero, List.set_cons_succ]
  refine wpAnyH_ready (rs := [13]) (by kernel_rfl) (by simp) ?_
  refine AllReadyH.cons (o := { dst := some 16, op := Op.call { callee := Callee.value (Operand.func 43), args := #[Operand.const (Value.int IntKind.i64 3), Operand.tmp 15], argTypes := #[3, 4] }, type := 74, pos := "right.go:43", after := #[{ on := 12, ground := Ground.data }, { on := 9, ground := Ground.chain }], guard := none }) rfl (fun K hK => ?_) AllReadyH.nil
  go_simp
  refine (N2.out _ q126).mono ?_
  rintro e w127 ⟨rfl, hb128⟩
  have q129 := q124.later hb128
  have q130 := q125.later hb128
  have q131 := q126.later hb128
  clear q124 q125 q126
  try clear hHeld
  refine hK.out _ _ (⟨q130.cell 0, q130.cell 1, q130.cell 2, q130.cell 3, q130.cell 4, trivial⟩) (fun hHeld => ?_)
  clear hK K
  try simp only [Act.put, List.setIfInBounds_toArray, List.set_cons_zero, List.set_cons_succ]
  refine wpAnyH_ready (rs := [18]) (by kernel_rfl) (by simp) ?_
  refine AllReadyH.cons (o := { dst := some 21, op := Op.call { callee := Callee.value (Operand.func 43), args := #[Operand.const (Value.int IntKind.i64 5), Operand.tmp 20], argTypes := #[3, 4] }, type := 74, pos := "right.go:44", after := #[{ on := 17, ground := Ground.data }, { on := 13, ground := Ground.chain }], guard := none }) rfl (fun K hK => ?_) AllReadyH.nil
  go_simp
  refine (N3.out _ q131).mono ?_
  rintro e w132 ⟨rfl, hb133⟩
  have q134 := q129.later hb133
  have q135 := q130.later hb133
  have q136 := q131.later hb133
  clear q129 q130 q131
  try clear hHeld
  refine hK.out _ _ (⟨q135.cell 0, q135.cell 1, q135.cell 2, q135.cell 3, q135.cell 4, trivial⟩) (fun hHeld => ?_)
  clear hK K
  try simp only [Act.put, List.setIfInBounds_toArray, List.set_cons_zero, List.set_cons_succ]
  refine wpAnyH_take (i := 22) (oi := { dst := some 25, op := Op.move (Operand.tmp 24), type := 4, pos := "right.go:40", after := #[{ on := 21, ground := Ground.data }, { on := 18, ground := Ground.chain }], guard := none }) (v := ?v1017) rfl (by kernel_rfl) (by kernel_rfl) (by kernel_rfl) (fun _ _ _ h => h) (Or.inl ⟨by rfl, ?hy1017⟩) (by assumption) ?rest1017
  case hy1017 => (intro w1 hSw; (try dsimp only at hSw); obtain ⟨h0, h1, h2, h3, h4, -⟩ := hSw; go_simp; try with_reducible rfl)
  try simp only [Act.put, List.setIfInBounds_toArray, List.set_cons_zero, List.set_cons_succ]
  refine wpAnyH_take (i := 23) (oi := { dst := some 26, op := Op.fieldAddr 35 (Operand.tmp 1) 3, type := 0, pos := "right.go:40", after := #[{ on := 22, ground := Ground.guard }], guard := some (22, false) }) (v := undef) rfl (by kernel_rfl) (by kernel_rfl) (by kernel_rfl) (fun _ _ _ h => h) (Or.inr ⟨by rfl, rfl⟩) (by assumption) ?_
  try simp only [Act.put, List.setIfInBounds_toArray, List.set_cons_zero, List.set_cons_succ]
  refine wpAnyH_take (i := 24) (oi := { dst := some 27, op := Op.load 9 (Operand.tmp 26), type := 9, pos := "right.go:40", after := #[{ on := 23, ground := Ground.data }, { on := 22, ground := Ground.guard }], guard := some (22, false) }) (v := undef) rfl (by kernel_rfl) (by kernel_rfl) (by kernel_rfl) (fun _ _ _ h => h) (Or.inr ⟨by rfl, rfl⟩) (by assumption) ?_
  try simp only [Act.put, List.setIfInBounds_toArray, List.set_cons_zero, List.set_cons_succ]
  refine wpAnyH_take (i := 25) (oi := { dst := some 28, op := Op.binOp BinOp.eql 9 (Operand.tmp 27) (Operand.const (Value.string { data := #[] })) 9, type := 4, pos := "right.go:40", after := #[{ on := 24, ground := Ground.data }, { on := 22, ground := Ground.guard }], guard := some (22, false) }) (v := undef) rfl (by kernel_rfl) (by kernel_rfl) (by kernel_rfl) (fun _ _ _ h => h) (Or.inr ⟨by rfl, rfl⟩) (by assumption) ?_
  try simp only [Act.put, List.setIfInBounds_toArray, List.set_cons_zero, List.set_cons_succ]
  refine wpAnyH_take (i := 26) (oi := { dst := some 29, op := Op.pick (Operand.tmp 25) (Operand.const (Value.bool true)) (Operand.tmp 28), type := 4, pos := "right.go:40", after := #[{ on := 22, ground := Ground.data }, { on := 25, ground := Ground.data }], guard := none }) (v := ?v1021) rfl (by kernel_rfl) (by kernel_rfl) (by kernel_rfl) (fun _ _ _ h => h) (Or.inl ⟨by rfl, ?hy1021⟩) (by assumption) ?rest1021
  case hy1021 => (intro w1 hSw; (try dsimp only at hSw); obtain ⟨h0, h1, h2, h3, h4, -⟩ := hSw; go_simp; try with_reducible rfl)
  try simp only [Act.put, List.setIfInBounds_toArray, List.set_cons_zero, List.set_cons_succ]
  refine wpAnyH_ready (rs := [27]) (by kernel_rfl) (by simp) ?_
  refine AllReadyH.cons (o := { dst := some 30, op := Op.call { callee := Callee.value (Operand.func 43), args := #[Operand.const (Value.int IntKind.i64 5), Operand.tmp 29], argTypes := #[3, 4] }, type := 74, pos := "right.go:45", after := #[{ on := 26, ground := Ground.data }, { on := 22, ground := Ground.chain }], guard := none }) rfl (fun K hK => ?_) AllReadyH.nil
  go_simp
  refine (N4.out _ q136).mono ?_
  rintro e w137 ⟨rfl, hb138⟩
  have q139 := q134.later hb138
  have q140 := q135.later hb138
  have q141 := q136.later hb138
  clear q134 q135 q136
  try clear hHeld
  refine hK.out _ _ (⟨q140.cell 0, q140.cell 1, q140.cell 2, q140.cell 3, q140.cell 4, trivial⟩) (fun hHeld => ?_)
  clear hK K
  try simp only [Act.put, List.setIfInBounds_toArray, List.set_cons_zero, List.set_cons_succ]
  refine wpAnyH_ready (rs := [28]) (by kernel_rfl) (by simp) ?_
  refine AllReadyH.cons (o := { dst := some 31, op := Op.buildSlice 132 5 #[(0, Operand.tmp 7), (1, Operand.tmp 12), (2, Operand.tmp 16), (3, Operand.tmp 21), (4, Operand.tmp 30)], type := 132, pos := "right.go:40", after := #[{ on := 4, ground := Ground.data }, { on := 9, ground := Ground.data }, { on := 13, ground := Ground.data }, { on := 18, ground := Ground.data }, { on := 27, ground := Ground.data }], guard := none }) rfl (fun K hK => ?_) AllReadyH.nil
  go_simp
  obtain ⟨w142, hw143, hb144, p145⟩ := alloc_new w137 #[V0, V1, V2, V3, V4] 74
  have q146 := q139.later hb144
  have q147 := q140.later hb144
  have q148 := q141.later hb144
  rw [hw143]
  try clear hHeld
  refine hK.out _ _ (⟨q147.cell 0, q147.cell 1, q147.cell 2, q147.cell 3, q147.cell 4, trivial⟩) (fun hHeld => ?_)
  clear hK K
  try simp only [Act.put, List.setIfInBounds_toArray, List.set_cons_zero, List.set_cons_succ]
  refine wpAnyH_ready (rs := [29]) (by kernel_rfl) (by simp) ?_
  refine AllReadyH.cons (o := { dst := some 32, op := Op.call { callee := Callee.value (Operand.func 42), args := #[Operand.tmp 31], argTypes := #[132] }, type := 74, pos := "right.go:40", after := #[{ on := 28, ground := Ground.data }, { on := 27, ground := Ground.chain }], guard := none }) rfl (fun K hK => ?_) AllReadyH.nil
  go_simp
  refine (first_any b _ 5 [needO 1 Q1, needO 2 Q2, needO 3 Q3, needO 5 Q4, needO 5 true] _ rfl (by decide) (five_cells HV.out p145)).mono ?_
  rintro e w149 ⟨rfl, hb150⟩
  have q151 := q146.later hb150
  have q152 := q147.later hb150
  have q153 := q148.later hb150
  have q154 := p145.later hb150
  clear q146 q147 q148 p145
  try clear hHeld
  refine hK.out _ _ (⟨q152.cell 0, q152.cell 1, q152.cell 2, q152.cell 3, q152.cell 4, trivial⟩) (fun hHeld => ?_)
  clear hK K
  try simp only [Act.put, List.setIfInBounds_toArray, List.set_cons_zero, List.set_cons_succ]
  refine wpAnyH_take (i := 30) (oi := { dst := some 2, op := Op.assign (Operand.tmp 32), type := 74, pos := "right.go:40", after := #[{ on := 29, ground := Ground.data }, { on := 29, ground := Ground.chain }, { on := 0, ground := Ground.phase }, { on := 1, ground := Ground.phase }, { on := 2, ground := Ground.phase }, { on := 3, ground := Ground.phase }, { on := 4, ground := Ground.phase }, { on := 5, ground := Ground.phase }, { on := 6, ground := Ground.phase }, { on := 7, ground := Ground.phase }, { on := 8, ground := Ground.phase }, { on := 9, ground := Ground.phase }, { on := 10, ground := Ground.phase }, { on := 11, ground := Ground.phase }, { on := 12, ground := Ground.phase }, { on := 13, ground := Ground.phase }, { on := 14, ground := Ground.phase }, { on := 15, ground := Ground.phase }, { on := 16, ground := Ground.phase }, { on := 17, ground := Ground.phase }, { on := 18, ground := Ground.phase }, { on := 19, ground := Ground.phase }, { on := 20, ground := Ground.phase }, { on := 21, ground := Ground.phase }, { on := 22, ground := Ground.phase }, { on := 23, ground := Ground.phase }, { on := 24, ground := Ground.phase }, { on := 25, ground := Ground.phase }, { on := 26, ground := Ground.phase }, { on := 27, ground := Ground.phase }, { on := 28, ground := Ground.phase }, { on := 29, ground := Ground.phase }], guard := none }) (v := ?v1022) rfl (by kernel_rfl) (by kernel_rfl) (by kernel_rfl) (fun _ _ _ h => h) (Or.inl ⟨by rfl, ?hy1022⟩) (by assumption) ?rest1022
  case hy1022 => (intro w1 hSw; (try dsimp only at hSw); obtain ⟨h0, h1, h2, h3, h4, -⟩ := hSw; go_simp; try with_reducible rfl)
  try simp only [Act.put, List.setIfInBounds_toArray, List.set_cons_zero, List.set_cons_succ]
  refine wpAnyH_done (by kernel_rfl) ?_ _
  go_wp2_with fail
  go_ret
  exact ⟨rfl, H.out.trans (q151.mono H.out.size)⟩
set_option maxRecDepth 100000 in
set_option maxHeartbeats 8000000 in
theorem chkStat_te (t : Int) (x : ByteArray) (q : Nat) (b : Addr) (w : World) (hg : Gn b w) :
    Calls Tryd.prog 27 #[.agg #[.int .i64 t, .string x, .int .u64 (q : Int), .bool true, .string ⟨#[]⟩]] w fun e w' => e = .returned (oV b (firstO [needO 1 (decide (1 ≤ t) && decide (t ≤ 5)), needO 2 (nmOk x), needO 3 ((q : Int) != 0), needO 5 true, needO 5 true])) ∧ Below w.heap.size w w' := by
  obtain ⟨w0, hw0, hb0, p0, -⟩ := alloc_sized w #[.int .i64 t, .string x, .int .u64 (q : Int), .bool true, .string ⟨#[]⟩] 35
  have H := Lib.hid hb0
  have hGg := hg.later hb0
  have HW := Lib.hid hw0
  have hPr := p0
  have B0 : Base w0 w0 := Below.refl _ _
  have T1 := Lib.hid (fun W => istype_any t W)
  generalize (decide (1 ≤ t) && decide (t ≤ 5)) = Q1 at T1 ⊢
  have T2 := Lib.hid (fun W => chkname_any x W)
  generalize nmOk x = Q2 at T2 ⊢
  obtain ⟨Q3, hQ3⟩ : ∃ B, ((q : Int) != 0) = B := ⟨_, rfl⟩
  rw [hQ3]
  obtain ⟨V0, hV0⟩ : ∃ V, oV b (needO 1 Q1) = V := ⟨_, rfl⟩
  have N0 := Lib.hid (fun W hW => need_any 1 Q1 b W hW)
  rw [hV0] at N0
  have hc0 := oV_one b (needO 1 Q1)
  rw [hV0] at hc0
  simp only [Value.cells] at hc0
  obtain ⟨V1, hV1⟩ : ∃ V, oV b (needO 2 Q2) = V := ⟨_, rfl⟩
  have N1 := Lib.hid (fun W hW => need_any 2 Q2 b W hW)
  rw [hV1] at N1
  have hc1 := oV_one b (needO 2 Q2)
  rw [hV1] at hc1
  simp only [Value.cells] at hc1
  obtain ⟨V2, hV2⟩ : ∃ V, oV b (needO 3 Q3) = V := ⟨_, rfl⟩
  have N2 := Lib.hid (fun W hW => need_any 3 Q3 b W hW)
  rw [hV2] at N2
  have hc2 := oV_one b (needO 3 Q3)
  rw [hV2] at hc2
  simp only [Value.cells] at hc2
  obtain ⟨V3, hV3⟩ : ∃ V, oV b (needO 5 true) = V := ⟨_, rfl⟩
  have N3 := Lib.hid (fun W hW => need_any 5 true b W hW)
  rw [hV3] at N3
  have hc3 := oV_one b (needO 5 true)
  rw [hV3] at hc3
  simp only [Value.cells] at hc3
  obtain ⟨V4, hV4⟩ : ∃ V, oV b (needO 5 true) = V := ⟨_, rfl⟩
  have N4 := Lib.hid (fun W hW => need_any 5 true b W hW)
  rw [hV4] at N4
  have hc4 := oV_one b (needO 5 true)
  rw [hV4] at hc4
  simp only [Value.cells] at hc4
  have HV := Lib.hid (And.intro hV0 (And.intro hV1 (And.intro hV2 (And.intro hV3 hV4))))
  clear hV0 hV1 hV2 hV3 hV4
  clear hb0 hw0 p0 hg
  go_enter Tryd.func27, Tryd.ntmps27
  go_wp2_with (rw [HW.out])
  obtain ⟨w155, hw156, hb157⟩ := drew_new w0
  have q158 := B0.later hb157
  have q159 := hPr.later hb157
  have q160 := hGg.later hb157
  refine wp_region_held_drew (S := (fun w' => w'.cell? ⟨w.heap.size, 0, none⟩ = some (.int .i64 t) ∧ w'.cell? ⟨w.heap.size, 1, none⟩ = some (.string x) ∧ w'.cell? ⟨w.heap.size, 2, none⟩ = some (.int .u64 (q : Int)) ∧ w'.cell? ⟨w.heap.size, 3, none⟩ = some (.bool true) ∧ w'.cell? ⟨w.heap.size, 4, none⟩ = some (.string ⟨#[]⟩) ∧ True)) (by kernel_rfl) (by rw [hw156]; exact ⟨q159.cell 0, q159.cell 1, q159.cell 2, q159.cell 3, q159.cell 4, trivial⟩) (fun hHeld => ?_)
  rw [hw156] at hHeld ⊢
  refine wpAnyH_take (i := 0) (oi := { dst := some 3, op := Op.fieldAddr 35 (Operand.tmp 1) 0, type := 0, pos := "right.go:40", after := #[], guard := none }) (v := ?v1001) rfl (by kernel_rfl) (by kernel_rfl) (by kernel_rfl) (fun _ _ _ h => h) (Or.inl ⟨by rfl, ?hy1001⟩) (by assumption) ?rest1001
  case hy1001 => (intro w1 hSw; (try dsimp only at hSw); obtain ⟨h0, h1, h2, h3, h4, -⟩ := hSw; go_simp; try with_reducible rfl)
  try simp only [Act.put, List.setIfInBounds_toArray, List.set_cons_zero, List.set_cons_succ]
  refine wpAnyH_take (i := 1) (oi := { dst := some 4, op := Op.fieldAddr 27 (Operand.tmp 3) 0, type := 0, pos := "right.go:40", after := #[{ on := 0, ground := Ground.data }], guard := none }) (v := ?v1002) rfl (by kernel_rfl) (by kernel_rfl) (by kernel_rfl) (fun _ _ _ h => h) (Or.inl ⟨by rfl, ?hy1002⟩) (by assumption) ?rest1002
  case hy1002 => (intro w1 hSw; (try dsimp only at hSw); obtain ⟨h0, h1, h2, h3, h4, -⟩ := hSw; go_simp; try with_reducible rfl)
  try simp only [Act.put, List.setIfInBounds_toArray, List.set_cons_zero, List.set_cons_succ]
  refine wpAnyH_take (i := 2) (oi := { dst := some 5, op := Op.load 3 (Operand.tmp 4), type := 3, pos := "right.go:40", after := #[{ on := 1, ground := Ground.data }], guard := none }) (v := ?v1003) rfl (by kernel_rfl) (by kernel_rfl) (by kernel_rfl) (fun _ _ _ h => h) (Or.inl ⟨by rfl, ?hy1003⟩) (by assumption) ?rest1003
  case hy1003 => (intro w1 hSw; (try dsimp only at hSw); obtain ⟨h0, h1, h2, h3, h4, -⟩ := hSw; go_simp; try with_reducible rfl)
  try simp only [Act.put, List.setIfInBounds_toArray, List.set_cons_zero, List.set_cons_succ]
  refine wpAnyH_take (i := 5) (oi := { dst := some 8, op := Op.fieldAddr 35 (Operand.tmp 1) 0, type := 0, pos := "right.go:40", after := #[], guard := none }) (v := ?v1004) rfl (by kernel_rfl) (by kernel_rfl) (by kernel_rfl) (fun _ _ _ h => h) (Or.inl ⟨by rfl, ?hy1004⟩) (by assumption) ?rest1004
  case hy1004 => (intro w1 hSw; (try dsimp only at hSw); obtain ⟨h0, h1, h2, h3, h4, -⟩ := hSw; go_simp; try with_reducible rfl)
  try simp only [Act.put, List.setIfInBounds_toArray, List.set_cons_zero, List.set_cons_succ]
  refine wpAnyH_take (i := 6) (oi := { dst := some 9, op := Op.fieldAddr 27 (Operand.tmp 8) 1, type := 0, pos := "right.go:40", after := #[{ on := 5, ground := Ground.data }], guard := none }) (v := ?v1005) rfl (by kernel_rfl) (by kernel_rfl) (by kernel_rfl) (fun _ _ _ h => h) (Or.inl ⟨by rfl, ?hy1005⟩) (by assumption) ?rest1005
  case hy1005 => (intro w1 hSw; (try dsimp only at hSw); obtain ⟨h0, h1, h2, h3, h4, -⟩ := hSw; go_simp; try with_reducible rfl)
  try simp only [Act.put, List.setIfInBounds_toArray, List.set_cons_zero, List.set_cons_succ]
  refine wpAnyH_take (i := 7) (oi := { dst := some 10, op := Op.load 9 (Operand.tmp 9), type := 9, pos := "right.go:40", after := #[{ on := 6, ground := Ground.data }], guard := none }) (v := ?v1006) rfl (by kernel_rfl) (by kernel_rfl) (by kernel_rfl) (fun _ _ _ h => h) (Or.inl ⟨by rfl, ?hy1006⟩) (by assumption) ?rest1006
  case hy1006 => (intro w1 hSw; (try dsimp only at hSw); obtain ⟨h0, h1, h2, h3, h4, -⟩ := hSw; go_simp; try with_reducible rfl)
  try simp only [Act.put, List.setIfInBounds_toArray, List.set_cons_zero, List.set_cons_succ]
  refine wpAnyH_take (i := 10) (oi := { dst := some 13, op := Op.fieldAddr 35 (Operand.tmp 1) 1, type := 0, pos := "right.go:40", after := #[], guard := none }) (v := ?v1007) rfl (by kernel_rfl) (by kernel_rfl) (by kernel_rfl) (fun _ _ _ h => h) (Or.inl ⟨by rfl, ?hy1007⟩) (by assumption) ?rest1007
  case hy1007 => (intro w1 hSw; (try dsimp only at hSw); obtain ⟨h0, h1, h2, h3, h4, -⟩ := hSw; go_simp; try with_reducible rfl)
  try simp only [Act.put, List.setIfInBounds_toArray, List.set_cons_zero, List.set_cons_succ]
  refine wpAnyH_take (i := 11) (oi := { dst := some 14, op := Op.load 29 (Operand.tmp 13), type := 29, pos := "right.go:40", after := #[{ on := 10, ground := Ground.data }], guard := none }) (v := ?v1008) rfl (by kernel_rfl) (by kernel_rfl) (by kernel_rfl) (fun _ _ _ h => h) (Or.inl ⟨by rfl, ?hy1008⟩) (by assumption) ?rest1008
  case hy1008 => (intro w1 hSw; (try dsimp only at hSw); obtain ⟨h0, h1, h2, h3, h4, -⟩ := hSw; go_simp; try with_reducible rfl)
  try simp only [Act.put, List.setIfInBounds_toArray, List.set_cons_zero, List.set_cons_succ]
  refine wpAnyH_take (i := 12) (oi := { dst := some 15, op := Op.binOp BinOp.neq 29 (Operand.tmp 14) (Operand.const (Value.int IntKind.u64 0)) 29, type := 4, pos := "right.go:40", after := #[{ on := 11, ground := Ground.data }], guard := none }) (v := ?v1009) rfl (by kernel_rfl) (by kernel_rfl) (by kernel_rfl) (fun _ _ _ h => h) (Or.inl ⟨by rfl, ?hy1009⟩) (by assumption) ?rest1009
  case hy1009 => (intro w1 hSw; (try dsimp only at hSw); obtain ⟨h0, h1, h2, h3, h4, -⟩ := hSw; go_simp; try with_reducible rfl)
  try simp only [Act.put, List.setIfInBounds_toArray, List.set_cons_zero, List.set_cons_succ]
  refine wpAnyH_take (i := 14) (oi := { dst := some 17, op := Op.fieldAddr 35 (Operand.tmp 1) 3, type := 0, pos := "right.go:40", after := #[], guard := none }) (v := ?v1010) rfl (by kernel_rfl) (by kernel_rfl) (by kernel_rfl) (fun _ _ _ h => h) (Or.inl ⟨by rfl, ?hy1010⟩) (by assumption) ?rest1010
  case hy1010 => (intro w1 hSw; (try dsimp only at hSw); obtain ⟨h0, h1, h2, h3, h4, -⟩ := hSw; go_simp; try with_reducible rfl)
  try simp only [Act.put, List.setIfInBounds_toArray, List.set_cons_zero, List.set_cons_succ]
  refine wpAnyH_take (i := 15) (oi := { dst := some 18, op := Op.load 9 (Operand.tmp 17), type := 9, pos := "right.go:40", after := #[{ on := 14, ground := Ground.data }], guard := none }) (v := ?v1011) rfl (by kernel_rfl) (by kernel_rfl) (by kernel_rfl) (fun _ _ _ h => h) (Or.inl ⟨by rfl, ?hy1011⟩) (by assumption) ?rest1011
  case hy1011 => (intro w1 hSw; (try dsimp only at hSw); obtain ⟨h0, h1, h2, h3, h4, -⟩ := hSw; go_simp; try with_reducible rfl)
  try simp only [Act.put, List.setIfInBounds_toArray, List.set_cons_zero, List.set_cons_succ]
  refine wpAnyH_take (i := 16) (oi := { dst := some 19, op := Op.call { callee := Callee.builtin Builtin.len, args := #[Operand.tmp 18], argTypes := #[9] }, type := 3, pos := "right.go:40", after := #[{ on := 15, ground := Ground.data }], guard := none }) (v := ?v1012) rfl (by kernel_rfl) (by kernel_rfl) (by kernel_rfl) (fun _ _ _ h => h) (Or.inl ⟨by rfl, ?hy1012⟩) (by assumption) ?rest1012
  case hy1012 => (intro w1 hSw; (try dsimp only at hSw); obtain ⟨h0, h1, h2, h3, h4, -⟩ := hSw; go_simp; try with_reducible rfl)
  try simp only [Act.put, List.setIfInBounds_toArray, List.set_cons_zero, List.set_cons_succ]
  refine wpAnyH_take (i := 17) (oi := { dst := some 20, op := Op.binOp BinOp.leq 3 (Operand.tmp 19) (Operand.const (Value.int IntKind.i64 256)) 3, type := 4, pos := "right.go:40", after := #[{ on := 16, ground := Ground.data }], guard := none }) (v := ?v1013) rfl (by kernel_rfl) (by kernel_rfl) (by kernel_rfl) (fun _ _ _ h => h) (Or.inl ⟨by rfl, ?hy1013⟩) (by assumption) ?rest1013
  case hy1013 => (intro w1 hSw; (try dsimp only at hSw); obtain ⟨h0, h1, h2, h3, h4, -⟩ := hSw; go_simp; try with_reducible rfl)
  try simp only [Act.put, List.setIfInBounds_toArray, List.set_cons_zero, List.set_cons_succ]
  refine wpAnyH_take (i := 19) (oi := { dst := some 22, op := Op.fieldAddr 35 (Operand.tmp 1) 2, type := 0, pos := "right.go:40", after := #[], guard := none }) (v := ?v1014) rfl (by kernel_rfl) (by kernel_rfl) (by kernel_rfl) (fun _ _ _ h => h) (Or.inl ⟨by rfl, ?hy1014⟩) (by assumption) ?rest1014
  case hy1014 => (intro w1 hSw; (try dsimp only at hSw); obtain ⟨h0, h1, h2, h3, h4, -⟩ := hSw; go_simp; try with_reducible rfl)
  try simp only [Act.put, List.setIfInBounds_toArray, List.set_cons_zero, List.set_cons_succ]
  refine wpAnyH_take (i := 20) (oi := { dst := some 23, op := Op.load 4 (Operand.tmp 22), type := 4, pos := "right.go:40", after := #[{ on := 19, ground := Ground.data }], guard := none }) (v := ?v1015) rfl (by kernel_rfl) (by kernel_rfl) (by kernel_rfl) (fun _ _ _ h => h) (Or.inl ⟨by rfl, ?hy1015⟩) (by assumption) ?rest1015
  case hy1015 => (intro w1 hSw; (try dsimp only at hSw); obtain ⟨h0, h1, h2, h3, h4, -⟩ := hSw; go_simp; try with_reducible rfl)
  try simp only [Act.put, List.setIfInBounds_toArray, List.set_cons_zero, List.set_cons_succ]
  refine wpAnyH_take (i := 21) (oi := { dst := some 24, op := Op.unOp UnOp.not 4 (Operand.tmp 23), type := 4, pos := "right.go:40", after := #[{ on := 20, ground := Ground.data }], guard := none }) (v := ?v1016) rfl (by kernel_rfl) (by kernel_rfl) (by kernel_rfl) (fun _ _ _ h => h) (Or.inl ⟨by rfl, ?hy1016⟩) (by assumption) ?rest1016
  case hy1016 => (intro w1 hSw; (try dsimp only at hSw); obtain ⟨h0, h1, h2, h3, h4, -⟩ := hSw; go_simp; try with_reducible rfl)
  try simp only [Act.put, List.setIfInBounds_toArray, List.set_cons_zero, List.set_cons_succ]
  refine wpAnyH_ready (rs := [3]) (by kernel_rfl) (by simp) ?_
  refine AllReadyH.cons (o := { dst := some 6, op := Op.call { callee := Callee.value (Operand.func 44), args := #[Operand.tmp 5], argTypes := #[3] }, type := 4, pos := "right.go:41", after := #[{ on := 2, ground := Ground.data }], guard := none }) rfl (fun K hK => ?_) AllReadyH.nil
  go_simp
  refine (T1.out _).mono ?_
  rintro e w161 ⟨rfl, hb162⟩
  have q163 := q158.later hb162
  have q164 := q159.later hb162
  have q165 := q160.later hb162
  clear q158 q159 q160
  try clear hHeld
  refine hK.out _ _ (⟨q164.cell 0, q164.cell 1, q164.cell 2, q164.cell 3, q164.cell 4, trivial⟩) (fun hHeld => ?_)
  clear hK K
  try simp only [Act.put, List.setIfInBounds_toArray, List.set_cons_zero, List.set_cons_succ]
  refine wpAnyH_ready (rs := [4]) (by kernel_rfl) (by simp) ?_
  refine AllReadyH.cons (o := { dst := some 7, op := Op.call { callee := Callee.value (Operand.func 43), args := #[Operand.const (Value.int IntKind.i64 1), Operand.tmp 6], argTypes := #[3, 4] }, type := 74, pos := "right.go:41", after := #[{ on := 3, ground := Ground.data }, { on := 3, ground := Ground.chain }], guard := none }) rfl (fun K hK => ?_) AllReadyH.nil
  go_simp
  refine (N0.out _ q165).mono ?_
  rintro e w166 ⟨rfl, hb167⟩
  have q168 := q163.later hb167
  have q169 := q164.later hb167
  have q170 := q165.later hb167
  clear q163 q164 q165
  try clear hHeld
  refine hK.out _ _ (⟨q169.cell 0, q169.cell 1, q169.cell 2, q169.cell 3, q169.cell 4, trivial⟩) (fun hHeld => ?_)
  clear hK K
  try simp only [Act.put, List.setIfInBounds_toArray, List.set_cons_zero, List.set_cons_succ]
  refine wpAnyH_ready (rs := [8]) (by kernel_rfl) (by simp) ?_
  refine AllReadyH.cons (o := { dst := some 11, op := Op.call { callee := Callee.value (Operand.func 45), args := #[Operand.tmp 10], argTypes := #[9] }, type := 4, pos := "right.go:42", after := #[{ on := 7, ground := Ground.data }, { on := 4, ground := Ground.chain }], guard := none }) rfl (fun K hK => ?_) AllReadyH.nil
  go_simp
  refine (T2.out _).mono ?_
  rintro e w171 ⟨rfl, hb172⟩
  have q173 := q168.later hb172
  have q174 := q169.later hb172
  have q175 := q170.later hb172
  clear q168 q169 q170
  try clear hHeld
  refine hK.out _ _ (⟨q174.cell 0, q174.cell 1, q174.cell 2, q174.cell 3, q174.cell 4, trivial⟩) (fun hHeld => ?_)
  clear hK K
  try simp only [Act.put, List.setIfInBounds_toArray, List.set_cons_zero, List.set_cons_succ]
  refine wpAnyH_ready (rs := [9]) (by kernel_rfl) (by simp) ?_
  refine AllReadyH.cons (o := { dst := some 12, op := Op.call { callee := Callee.value (Operand.func 43), args := #[Operand.const (Value.int IntKind.i64 2), Operand.tmp 11], argTypes := #[3, 4] }, type := 74, pos := "right.go:42", after := #[{ on := 8, ground := Ground.data }, { on := 8, ground := Ground.chain }], guard := none }) rfl (fun K hK => ?_) AllReadyH.nil
  go_simp
  refine (N1.out _ q175).mono ?_
  rintro e w176 ⟨rfl, hb177⟩
  have q178 := q173.later hb177
  have q179 := q174.later hb177
  have q180 := q175.later hb177
  clear q173 q174 q175
  try clear hHeld
  refine hK.out _ _ (⟨q179.cell 0, q179.cell 1, q179.cell 2, q179.cell 3, q179.cell 4, trivial⟩) (fun hHeld => ?_)
  clear hK K
  try simp only [Act.put, List.setIfInBounds_toArray, List.set_cons_zero, List.set_cons_succ]
  refine wpAnyH_ready (rs := [13]) (by kernel_rfl) (by simp) ?_
  refine AllReadyH.cons (o := { dst := some 16, op := Op.call { callee := Callee.value (Operand.func 43), args := #[Operand.const (Value.int IntKind.i64 3), Operand.tmp 15], argTypes := #[3, 4] }, type := 74, pos := "right.go:43", after := #[{ on := 12, ground := Ground.data }, { on := 9, ground := Ground.chain }], guard := none }) rfl (fun K hK => ?_) AllReadyH.nil
  go_simp
  refine (N2.out _ q180).mono ?_
  rintro e w181 ⟨rfl, hb182⟩
  have q183 := q178.later hb182
  have q184 := q179.later hb182
  have q185 := q180.later hb182
  clear q178 q179 q180
  try clear hHeld
  refine hK.out _ _ (⟨q184.cell 0, q184.cell 1, q184.cell 2, q184.cell 3, q184.cell 4, trivial⟩) (fun hHeld => ?_)
  clear hK K
  try simp only [Act.put, List.setIfInBounds_toArray, List.set_cons_zero, List.set_cons_succ]
  refine wpAnyH_ready (rs := [18]) (by kernel_rfl) (by simp) ?_
  refine AllReadyH.cons (o := { dst := some 21, op := Op.call { callee := Callee.value (Operand.func 43), args := #[Operand.const (Value.int IntKind.i64 5), Operand.tmp 20], argTypes := #[3, 4] }, type := 74, pos := "right.go:44", after := #[{ on := 17, ground := Ground.data }, { on := 13, ground := Ground.chain }], guard := none }) rfl (fun K hK => ?_) AllReadyH.nil
  go_simp
  refine (N3.out _ q185).mono ?_
  rintro e w186 ⟨rfl, hb187⟩
  have q188 := q183.later hb187
  have q189 := q184.later hb187
  have q190 := q185.later hb187
  clear q183 q184 q185
  try clear hHeld
  refine hK.out _ _ (⟨q189.cell 0, q189.cell 1, q189.cell 2, q189.cell 3, q189.cell 4, trivial⟩) (fun hHeld => ?_)
  clear hK K
  try simp only [Act.put, List.setIfInBounds_toArray, List.set_cons_zero, List.set_cons_succ]
  refine wpAnyH_take (i := 22) (oi := { dst := some 25, op := Op.move (Operand.tmp 24), type := 4, pos := "right.go:40", after := #[{ on := 21, ground := Ground.data }, { on := 18, ground := Ground.chain }], guard := none }) (v := ?v1017) rfl (by kernel_rfl) (by kernel_rfl) (by kernel_rfl) (fun _ _ _ h => h) (Or.inl ⟨by rfl, ?hy1017⟩) (by assumption) ?rest1017
  case hy1017 => (intro w1 hSw; (try dsimp only at hSw); obtain ⟨h0, h1, h2, h3, h4, -⟩ := hSw; go_simp; try with_reducible rfl)
  try simp only [Act.put, List.setIfInBounds_toArray, List.set_cons_zero, List.set_cons_succ]
  refine wpAnyH_take (i := 23) (oi := { dst := some 26, op := Op.fieldAddr 35 (Operand.tmp 1) 3, type := 0, pos := "right.go:40", after := #[{ on := 22, ground := Ground.guard }], guard := some (22, false) }) (v := ?v1018) rfl (by kernel_rfl) (by kernel_rfl) (by kernel_rfl) (fun _ _ _ h => h) (Or.inl ⟨by rfl, ?hy1018⟩) (by assumption) ?rest1018
  case hy1018 => (intro w1 hSw; (try dsimp only at hSw); obtain ⟨h0, h1, h2, h3, h4, -⟩ := hSw; go_simp; try with_reducible rfl)
  try simp only [Act.put, List.setIfInBounds_toArray, List.set_cons_zero, List.set_cons_succ]
  refine wpAnyH_take (i := 24) (oi := { dst := some 27, op := Op.load 9 (Operand.tmp 26), type := 9, pos := "right.go:40", after := #[{ on := 23, ground := Ground.data }, { on := 22, ground := Ground.guard }], guard := some (22, false) }) (v := ?v1019) rfl (by kernel_rfl) (by kernel_rfl) (by kernel_rfl) (fun _ _ _ h => h) (Or.inl ⟨by rfl, ?hy1019⟩) (by assumption) ?rest1019
  case hy1019 => (intro w1 hSw; (try dsimp only at hSw); obtain ⟨h0, h1, h2, h3, h4, -⟩ := hSw; go_simp; try with_reducible rfl)
  try simp only [Act.put, List.setIfInBounds_toArray, List.set_cons_zero, List.set_cons_succ]
  refine wpAnyH_take (i := 25) (oi := { dst := some 28, op := Op.binOp BinOp.eql 9 (Operand.tmp 27) (Operand.const (Value.string { data := #[] })) 9, type := 4, pos := "right.go:40", after := #[{ on := 24, ground := Ground.data }, { on := 22, ground := Ground.guard }], guard := some (22, false) }) (v := ?v1020) rfl (by kernel_rfl) (by kernel_rfl) (by kernel_rfl) (fun _ _ _ h => h) (Or.inl ⟨by rfl, ?hy1020⟩) (by assumption) ?rest1020
  case hy1020 => (intro w1 hSw; (try dsimp only at hSw); obtain ⟨h0, h1, h2, h3, h4, -⟩ := hSw; go_simp; try with_reducible rfl)
  try simp only [Act.put, List.setIfInBounds_toArray, List.set_cons_zero, List.set_cons_succ]
  refine wpAnyH_take (i := 26) (oi := { dst := some 29, op := Op.pick (Operand.tmp 25) (Operand.const (Value.bool true)) (Operand.tmp 28), type := 4, pos := "right.go:40", after := #[{ on := 22, ground := Ground.data }, { on := 25, ground := Ground.data }], guard := none }) (v := ?v1021) rfl (by kernel_rfl) (by kernel_rfl) (by kernel_rfl) (fun _ _ _ h => h) (Or.inl ⟨by rfl, ?hy1021⟩) (by assumption) ?rest1021
  case hy1021 => (intro w1 hSw; (try dsimp only at hSw); obtain ⟨h0, h1, h2, h3, h4, -⟩ := hSw; go_simp; try with_reducible rfl)
  try simp only [Act.put, List.setIfInBounds_toArray, List.set_cons_zero, List.set_cons_succ]
  refine wpAnyH_ready (rs := [27]) (by kernel_rfl) (by simp) ?_
  refine AllReadyH.cons (o := { dst := some 30, op := Op.call { callee := Callee.value (Operand.func 43), args := #[Operand.const (Value.int IntKind.i64 5), Operand.tmp 29], argTypes := #[3, 4] }, type := 74, pos := "right.go:45", after := #[{ on := 26, ground := Ground.data }, { on := 22, ground := Ground.chain }], guard := none }) rfl (fun K hK => ?_) AllReadyH.nil
  go_simp
  refine (N4.out _ q190).mono ?_
  rintro e w191 ⟨rfl, hb192⟩
  have q193 := q188.later hb192
  have q194 := q189.later hb192
  have q195 := q190.later hb192
  clear q188 q189 q190
  try clear hHeld
  refine hK.out _ _ (⟨q194.cell 0, q194.cell 1, q194.cell 2, q194.cell 3, q194.cell 4, trivial⟩) (fun hHeld => ?_)
  clear hK K
  try simp only [Act.put, List.setIfInBounds_toArray, List.set_cons_zero, List.set_cons_succ]
  refine wpAnyH_ready (rs := [28]) (by kernel_rfl) (by simp) ?_
  refine AllReadyH.cons (o := { dst := some 31, op := Op.buildSlice 132 5 #[(0, Operand.tmp 7), (1, Operand.tmp 12), (2, Operand.tmp 16), (3, Operand.tmp 21), (4, Operand.tmp 30)], type := 132, pos := "right.go:40", after := #[{ on := 4, ground := Ground.data }, { on := 9, ground := Ground.data }, { on := 13, ground := Ground.data }, { on := 18, ground := Ground.data }, { on := 27, ground := Ground.data }], guard := none }) rfl (fun K hK => ?_) AllReadyH.nil
  go_simp
  obtain ⟨w196, hw197, hb198, p199⟩ := alloc_new w191 #[V0, V1, V2, V3, V4] 74
  have q200 := q193.later hb198
  have q201 := q194.later hb198
  have q202 := q195.later hb198
  rw [hw197]
  try clear hHeld
  refine hK.out _ _ (⟨q201.cell 0, q201.cell 1, q201.cell 2, q201.cell 3, q201.cell 4, trivial⟩) (fun hHeld => ?_)
  clear hK K
  try simp only [Act.put, List.setIfInBounds_toArray, List.set_cons_zero, List.set_cons_succ]
  refine wpAnyH_ready (rs := [29]) (by kernel_rfl) (by simp) ?_
  refine AllReadyH.cons (o := { dst := some 32, op := Op.call { callee := Callee.value (Operand.func 42), args := #[Operand.tmp 31], argTypes := #[132] }, type := 74, pos := "right.go:40", after := #[{ on := 28, ground := Ground.data }, { on := 27, ground := Ground.chain }], guard := none }) rfl (fun K hK => ?_) AllReadyH.nil
  go_simp
  refine (first_any b _ 5 [needO 1 Q1, needO 2 Q2, needO 3 Q3, needO 5 true, needO 5 true] _ rfl (by decide) (five_cells HV.out p199)).mono ?_
  rintro e w203 ⟨rfl, hb204⟩
  have q205 := q200.later hb204
  have q206 := q201.later hb204
  have q207 := q202.later hb204
  have q208 := p199.later hb204
  clear q200 q201 q202 p199
  try clear hHeld
  refine hK.out _ _ (⟨q206.cell 0, q206.cell 1, q206.cell 2, q206.cell 3, q206.cell 4, trivial⟩) (fun hHeld => ?_)
  clear hK K
  try simp only [Act.put, List.setIfInBounds_toArray, List.set_cons_zero, List.set_cons_succ]
  refine wpAnyH_take (i := 30) (oi := { dst := some 2, op := Op.assign (Operand.tmp 32), type := 74, pos := "right.go:40", after := #[{ on := 29, ground := Ground.data }, { on := 29, ground := Ground.chain }, { on := 0, ground := Ground.phase }, { on := 1, ground := Ground.phase }, { on := 2, ground := Ground.phase }, { on := 3, ground := Ground.phase }, { on := 4, ground := Ground.phase }, { on := 5, ground := Ground.phase }, { on := 6, ground := Ground.phase }, { on := 7, ground := Ground.phase }, { on := 8, ground := Ground.phase }, { on := 9, ground := Ground.phase }, { on := 10, ground := Ground.phase }, { on := 11, ground := Ground.phase }, { on := 12, ground := Ground.phase }, { on := 13, ground := Ground.phase }, { on := 14, ground := Ground.phase }, { on := 15, ground := Ground.phase }, { on := 16, ground := Ground.phase }, { on := 17, ground := Ground.phase }, { on := 18, ground := Ground.phase }, { on := 19, ground := Ground.phase }, { on := 20, ground := Ground.phase }, { on := 21, ground := Ground.phase }, { on := 22, ground := Ground.phase }, { on := 23, ground := Ground.phase }, { on := 24, ground := Ground.phase }, { on := 25, ground := Ground.phase }, { on := 26, ground := Ground.phase }, { on := 27, ground := Ground.phase }, { on := 28, ground := Ground.phase }, { on := 29, ground := Ground.phase }], guard := none }) (v := ?v1022) rfl (by kernel_rfl) (by kernel_rfl) (by kernel_rfl) (fun _ _ _ h => h) (Or.inl ⟨by rfl, ?hy1022⟩) (by assumption) ?rest1022
  case hy1022 => (intro w1 hSw; (try dsimp only at hSw); obtain ⟨h0, h1, h2, h3, h4, -⟩ := hSw; go_simp; try with_reducible rfl)
  try simp only [Act.put, List.setIfInBounds_toArray, List.set_cons_zero, List.set_cons_succ]
  refine wpAnyH_done (by kernel_rfl) ?_ _
  go_wp2_with fail
  go_ret
  exact ⟨rfl, H.out.trans (q205.mono H.out.size)⟩
set_option maxRecDepth 100000 in
set_option maxHeartbeats 8000000 in
theorem chkStat_tn (t : Int) (x : ByteArray) (q : Nat) (s : ByteArray) (b : Addr) (w : World) (hg : Gn b w) (hs : ¬ s.size = 0) :
    Calls Tryd.prog 27 #[.agg #[.int .i64 t, .string x, .int .u64 (q : Int), .bool true, .string s]] w fun e w' => e = .returned (oV b (firstO [needO 1 (decide (1 ≤ t) && decide (t ≤ 5)), needO 2 (nmOk x), needO 3 ((q : Int) != 0), needO 5 (decide ((s.size : Int) ≤ 256)), needO 5 false])) ∧ Below w.heap.size w w' := by
  obtain ⟨w0, hw0, hb0, p0, -⟩ := alloc_sized w #[.int .i64 t, .string x, .int .u64 (q : Int), .bool true, .string s] 35
  have H := Lib.hid hb0
  have hGg := hg.later hb0
  have HW := Lib.hid hw0
  have hPr := p0
  have B0 : Base w0 w0 := Below.refl _ _
  have T1 := Lib.hid (fun W => istype_any t W)
  generalize (decide (1 ≤ t) && decide (t ≤ 5)) = Q1 at T1 ⊢
  have T2 := Lib.hid (fun W => chkname_any x W)
  generalize nmOk x = Q2 at T2 ⊢
  obtain ⟨Q3, hQ3⟩ : ∃ B, ((q : Int) != 0) = B := ⟨_, rfl⟩
  rw [hQ3]
  obtain ⟨Z, hZ⟩ : ∃ Z : Int, (s.size : Int) = Z := ⟨_, rfl⟩
  rw [hZ]
  obtain ⟨Q4, hQ4⟩ : ∃ B, decide (Z ≤ 256) = B := ⟨_, rfl⟩
  rw [hQ4]
  have hne := ba_ne hs
  have hnb : (s.toList == []) = false := by simpa using hne
  clear hs
  obtain ⟨V0, hV0⟩ : ∃ V, oV b (needO 1 Q1) = V := ⟨_, rfl⟩
  have N0 := Lib.hid (fun W hW => need_any 1 Q1 b W hW)
  rw [hV0] at N0
  have hc0 := oV_one b (needO 1 Q1)
  rw [hV0] at hc0
  simp only [Value.cells] at hc0
  obtain ⟨V1, hV1⟩ : ∃ V, oV b (needO 2 Q2) = V := ⟨_, rfl⟩
  have N1 := Lib.hid (fun W hW => need_any 2 Q2 b W hW)
  rw [hV1] at N1
  have hc1 := oV_one b (needO 2 Q2)
  rw [hV1] at hc1
  simp only [Value.cells] at hc1
  obtain ⟨V2, hV2⟩ : ∃ V, oV b (needO 3 Q3) = V := ⟨_, rfl⟩
  have N2 := Lib.hid (fun W hW => need_any 3 Q3 b W hW)
  rw [hV2] at N2
  have hc2 := oV_one b (needO 3 Q3)
  rw [hV2] at hc2
  simp only [Value.cells] at hc2
  obtain ⟨V3, hV3⟩ : ∃ V, oV b (needO 5 Q4) = V := ⟨_, rfl⟩
  have N3 := Lib.hid (fun W hW => need_any 5 Q4 b W hW)
  rw [hV3] at N3
  have hc3 := oV_one b (needO 5 Q4)
  rw [hV3] at hc3
  simp only [Value.cells] at hc3
  obtain ⟨V4, hV4⟩ : ∃ V, oV b (needO 5 false) = V := ⟨_, rfl⟩
  have N4 := Lib.hid (fun W hW => need_any 5 false b W hW)
  rw [hV4] at N4
  have hc4 := oV_one b (needO 5 false)
  rw [hV4] at hc4
  simp only [Value.cells] at hc4
  have HV := Lib.hid (And.intro hV0 (And.intro hV1 (And.intro hV2 (And.intro hV3 hV4))))
  clear hV0 hV1 hV2 hV3 hV4
  clear hb0 hw0 p0 hg
  go_enter Tryd.func27, Tryd.ntmps27
  go_wp2_with (rw [HW.out])
  obtain ⟨w209, hw210, hb211⟩ := drew_new w0
  have q212 := B0.later hb211
  have q213 := hPr.later hb211
  have q214 := hGg.later hb211
  refine wp_region_held_drew (S := (fun w' => w'.cell? ⟨w.heap.size, 0, none⟩ = some (.int .i64 t) ∧ w'.cell? ⟨w.heap.size, 1, none⟩ = some (.string x) ∧ w'.cell? ⟨w.heap.size, 2, none⟩ = some (.int .u64 (q : Int)) ∧ w'.cell? ⟨w.heap.size, 3, none⟩ = some (.bool true) ∧ w'.cell? ⟨w.heap.size, 4, none⟩ = some (.string s) ∧ True)) (by kernel_rfl) (by rw [hw210]; exact ⟨q213.cell 0, q213.cell 1, q213.cell 2, q213.cell 3, q213.cell 4, trivial⟩) (fun hHeld => ?_)
  rw [hw210] at hHeld ⊢
  refine wpAnyH_take (i := 0) (oi := { dst := some 3, op := Op.fieldAddr 35 (Operand.tmp 1) 0, type := 0, pos := "right.go:40", after := #[], guard := none }) (v := ?v1001) rfl (by kernel_rfl) (by kernel_rfl) (by kernel_rfl) (fun _ _ _ h => h) (Or.inl ⟨by rfl, ?hy1001⟩) (by assumption) ?rest1001
  case hy1001 => (intro w1 hSw; (try dsimp only at hSw); obtain ⟨h0, h1, h2, h3, h4, -⟩ := hSw; go_simp; try with_reducible rfl)
  try simp only [Act.put, List.setIfInBounds_toArray, List.set_cons_zero, List.set_cons_succ]
  refine wpAnyH_take (i := 1) (oi := { dst := some 4, op := Op.fieldAddr 27 (Operand.tmp 3) 0, type := 0, pos := "right.go:40", after := #[{ on := 0, ground := Ground.data }], guard := none }) (v := ?v1002) rfl (by kernel_rfl) (by kernel_rfl) (by kernel_rfl) (fun _ _ _ h => h) (Or.inl ⟨by rfl, ?hy1002⟩) (by assumption) ?rest1002
  case hy1002 => (intro w1 hSw; (try dsimp only at hSw); obtain ⟨h0, h1, h2, h3, h4, -⟩ := hSw; go_simp; try with_reducible rfl)
  try simp only [Act.put, List.setIfInBounds_toArray, List.set_cons_zero, List.set_cons_succ]
  refine wpAnyH_take (i := 2) (oi := { dst := some 5, op := Op.load 3 (Operand.tmp 4), type := 3, pos := "right.go:40", after := #[{ on := 1, ground := Ground.data }], guard := none }) (v := ?v1003) rfl (by kernel_rfl) (by kernel_rfl) (by kernel_rfl) (fun _ _ _ h => h) (Or.inl ⟨by rfl, ?hy1003⟩) (by assumption) ?rest1003
  case hy1003 => (intro w1 hSw; (try dsimp only at hSw); obtain ⟨h0, h1, h2, h3, h4, -⟩ := hSw; go_simp; try with_reducible rfl)
  try simp only [Act.put, List.setIfInBounds_toArray, List.set_cons_zero, List.set_cons_succ]
  refine wpAnyH_take (i := 5) (oi := { dst := some 8, op := Op.fieldAddr 35 (Operand.tmp 1) 0, type := 0, pos := "right.go:40", after := #[], guard := none }) (v := ?v1004) rfl (by kernel_rfl) (by kernel_rfl) (by kernel_rfl) (fun _ _ _ h => h) (Or.inl ⟨by rfl, ?hy1004⟩) (by assumption) ?rest1004
  case hy1004 => (intro w1 hSw; (try dsimp only at hSw); obtain ⟨h0, h1, h2, h3, h4, -⟩ := hSw; go_simp; try with_reducible rfl)
  try simp only [Act.put, List.setIfInBounds_toArray, List.set_cons_zero, List.set_cons_succ]
  refine wpAnyH_take (i := 6) (oi := { dst := some 9, op := Op.fieldAddr 27 (Operand.tmp 8) 1, type := 0, pos := "right.go:40", after := #[{ on := 5, ground := Ground.data }], guard := none }) (v := ?v1005) rfl (by kernel_rfl) (by kernel_rfl) (by kernel_rfl) (fun _ _ _ h => h) (Or.inl ⟨by rfl, ?hy1005⟩) (by assumption) ?rest1005
  case hy1005 => (intro w1 hSw; (try dsimp only at hSw); obtain ⟨h0, h1, h2, h3, h4, -⟩ := hSw; go_simp; try with_reducible rfl)
  try simp only [Act.put, List.setIfInBounds_toArray, List.set_cons_zero, List.set_cons_succ]
  refine wpAnyH_take (i := 7) (oi := { dst := some 10, op := Op.load 9 (Operand.tmp 9), type := 9, pos := "right.go:40", after := #[{ on := 6, ground := Ground.data }], guard := none }) (v := ?v1006) rfl (by kernel_rfl) (by kernel_rfl) (by kernel_rfl) (fun _ _ _ h => h) (Or.inl ⟨by rfl, ?hy1006⟩) (by assumption) ?rest1006
  case hy1006 => (intro w1 hSw; (try dsimp only at hSw); obtain ⟨h0, h1, h2, h3, h4, -⟩ := hSw; go_simp; try with_reducible rfl)
  try simp only [Act.put, List.setIfInBounds_toArray, List.set_cons_zero, List.set_cons_succ]
  refine wpAnyH_take (i := 10) (oi := { dst := some 13, op := Op.fieldAddr 35 (Operand.tmp 1) 1, type := 0, pos := "right.go:40", after := #[], guard := none }) (v := ?v1007) rfl (by kernel_rfl) (by kernel_rfl) (by kernel_rfl) (fun _ _ _ h => h) (Or.inl ⟨by rfl, ?hy1007⟩) (by assumption) ?rest1007
  case hy1007 => (intro w1 hSw; (try dsimp only at hSw); obtain ⟨h0, h1, h2, h3, h4, -⟩ := hSw; go_simp; try with_reducible rfl)
  try simp only [Act.put, List.setIfInBounds_toArray, List.set_cons_zero, List.set_cons_succ]
  refine wpAnyH_take (i := 11) (oi := { dst := some 14, op := Op.load 29 (Operand.tmp 13), type := 29, pos := "right.go:40", after := #[{ on := 10, ground := Ground.data }], guard := none }) (v := ?v1008) rfl (by kernel_rfl) (by kernel_rfl) (by kernel_rfl) (fun _ _ _ h => h) (Or.inl ⟨by rfl, ?hy1008⟩) (by assumption) ?rest1008
  case hy1008 => (intro w1 hSw; (try dsimp only at hSw); obtain ⟨h0, h1, h2, h3, h4, -⟩ := hSw; go_simp; try with_reducible rfl)
  try simp only [Act.put, List.setIfInBounds_toArray, List.set_cons_zero, List.set_cons_succ]
  refine wpAnyH_take (i := 12) (oi := { dst := some 15, op := Op.binOp BinOp.neq 29 (Operand.tmp 14) (Operand.const (Value.int IntKind.u64 0)) 29, type := 4, pos := "right.go:40", after := #[{ on := 11, ground := Ground.data }], guard := none }) (v := ?v1009) rfl (by kernel_rfl) (by kernel_rfl) (by kernel_rfl) (fun _ _ _ h => h) (Or.inl ⟨by rfl, ?hy1009⟩) (by assumption) ?rest1009
  case hy1009 => (intro w1 hSw; (try dsimp only at hSw); obtain ⟨h0, h1, h2, h3, h4, -⟩ := hSw; go_simp; try with_reducible rfl)
  try simp only [Act.put, List.setIfInBounds_toArray, List.set_cons_zero, List.set_cons_succ]
  refine wpAnyH_take (i := 14) (oi := { dst := some 17, op := Op.fieldAddr 35 (Operand.tmp 1) 3, type := 0, pos := "right.go:40", after := #[], guard := none }) (v := ?v1010) rfl (by kernel_rfl) (by kernel_rfl) (by kernel_rfl) (fun _ _ _ h => h) (Or.inl ⟨by rfl, ?hy1010⟩) (by assumption) ?rest1010
  case hy1010 => (intro w1 hSw; (try dsimp only at hSw); obtain ⟨h0, h1, h2, h3, h4, -⟩ := hSw; go_simp; try with_reducible rfl)
  try simp only [Act.put, List.setIfInBounds_toArray, List.set_cons_zero, List.set_cons_succ]
  refine wpAnyH_take (i := 15) (oi := { dst := some 18, op := Op.load 9 (Operand.tmp 17), type := 9, pos := "right.go:40", after := #[{ on := 14, ground := Ground.data }], guard := none }) (v := ?v1011) rfl (by kernel_rfl) (by kernel_rfl) (by kernel_rfl) (fun _ _ _ h => h) (Or.inl ⟨by rfl, ?hy1011⟩) (by assumption) ?rest1011
  case hy1011 => (intro w1 hSw; (try dsimp only at hSw); obtain ⟨h0, h1, h2, h3, h4, -⟩ := hSw; go_simp; try with_reducible rfl)
  try simp only [Act.put, List.setIfInBounds_toArray, List.set_cons_zero, List.set_cons_succ]
  refine wpAnyH_take (i := 16) (oi := { dst := some 19, op := Op.call { callee := Callee.builtin Builtin.len, args := #[Operand.tmp 18], argTypes := #[9] }, type := 3, pos := "right.go:40", after := #[{ on := 15, ground := Ground.data }], guard := none }) (v := ?v1012) rfl (by kernel_rfl) (by kernel_rfl) (by kernel_rfl) (fun _ _ _ h => h) (Or.inl ⟨by rfl, ?hy1012⟩) (by assumption) ?rest1012
  case hy1012 => (intro w1 hSw; (try dsimp only at hSw); obtain ⟨h0, h1, h2, h3, h4, -⟩ := hSw; go_simp; try with_reducible rfl)
  try simp only [Act.put, List.setIfInBounds_toArray, List.set_cons_zero, List.set_cons_succ]
  refine wpAnyH_take (i := 17) (oi := { dst := some 20, op := Op.binOp BinOp.leq 3 (Operand.tmp 19) (Operand.const (Value.int IntKind.i64 256)) 3, type := 4, pos := "right.go:40", after := #[{ on := 16, ground := Ground.data }], guard := none }) (v := ?v1013) rfl (by kernel_rfl) (by kernel_rfl) (by kernel_rfl) (fun _ _ _ h => h) (Or.inl ⟨by rfl, ?hy1013⟩) (by assumption) ?rest1013
  case hy1013 => (intro w1 hSw; (try dsimp only at hSw); obtain ⟨h0, h1, h2, h3, h4, -⟩ := hSw; go_simp; try with_reducible rfl)
  try simp only [Act.put, List.setIfInBounds_toArray, List.set_cons_zero, List.set_cons_succ]
  refine wpAnyH_take (i := 19) (oi := { dst := some 22, op := Op.fieldAddr 35 (Operand.tmp 1) 2, type := 0, pos := "right.go:40", after := #[], guard := none }) (v := ?v1014) rfl (by kernel_rfl) (by kernel_rfl) (by kernel_rfl) (fun _ _ _ h => h) (Or.inl ⟨by rfl, ?hy1014⟩) (by assumption) ?rest1014
  case hy1014 => (intro w1 hSw; (try dsimp only at hSw); obtain ⟨h0, h1, h2, h3, h4, -⟩ := hSw; go_simp; try with_reducible rfl)
  try simp only [Act.put, List.setIfInBounds_toArray, List.set_cons_zero, List.set_cons_succ]
  refine wpAnyH_take (i := 20) (oi := { dst := some 23, op := Op.load 4 (Operand.tmp 22), type := 4, pos := "right.go:40", after := #[{ on := 19, ground := Ground.data }], guard := none }) (v := ?v1015) rfl (by kernel_rfl) (by kernel_rfl) (by kernel_rfl) (fun _ _ _ h => h) (Or.inl ⟨by rfl, ?hy1015⟩) (by assumption) ?rest1015
  case hy1015 => (intro w1 hSw; (try dsimp only at hSw); obtain ⟨h0, h1, h2, h3, h4, -⟩ := hSw; go_simp; try with_reducible rfl)
  try simp only [Act.put, List.setIfInBounds_toArray, List.set_cons_zero, List.set_cons_succ]
  refine wpAnyH_take (i := 21) (oi := { dst := some 24, op := Op.unOp UnOp.not 4 (Operand.tmp 23), type := 4, pos := "right.go:40", after := #[{ on := 20, ground := Ground.data }], guard := none }) (v := ?v1016) rfl (by kernel_rfl) (by kernel_rfl) (by kernel_rfl) (fun _ _ _ h => h) (Or.inl ⟨by rfl, ?hy1016⟩) (by assumption) ?rest1016
  case hy1016 => (intro w1 hSw; (try dsimp only at hSw); obtain ⟨h0, h1, h2, h3, h4, -⟩ := hSw; go_simp; try with_reducible rfl)
  try simp only [Act.put, List.setIfInBounds_toArray, List.set_cons_zero, List.set_cons_succ]
  refine wpAnyH_ready (rs := [3]) (by kernel_rfl) (by simp) ?_
  refine AllReadyH.cons (o := { dst := some 6, op := Op.call { callee := Callee.value (Operand.func 44), args := #[Operand.tmp 5], argTypes := #[3] }, type := 4, pos := "right.go:41", after := #[{ on := 2, ground := Ground.data }], guard := none }) rfl (fun K hK => ?_) AllReadyH.nil
  go_simp
  refine (T1.out _).mono ?_
  rintro e w215 ⟨rfl, hb216⟩
  have q217 := q212.later hb216
  have q218 := q213.later hb216
  have q219 := q214.later hb216
  clear q212 q213 q214
  try clear hHeld
  refine hK.out _ _ (⟨q218.cell 0, q218.cell 1, q218.cell 2, q218.cell 3, q218.cell 4, trivial⟩) (fun hHeld => ?_)
  clear hK K
  try simp only [Act.put, List.setIfInBounds_toArray, List.set_cons_zero, List.set_cons_succ]
  refine wpAnyH_ready (rs := [4]) (by kernel_rfl) (by simp) ?_
  refine AllReadyH.cons (o := { dst := some 7, op := Op.call { callee := Callee.value (Operand.func 43), args := #[Operand.const (Value.int IntKind.i64 1), Operand.tmp 6], argTypes := #[3, 4] }, type := 74, pos := "right.go:41", after := #[{ on := 3, ground := Ground.data }, { on := 3, ground := Ground.chain }], guard := none }) rfl (fun K hK => ?_) AllReadyH.nil
  go_simp
  refine (N0.out _ q219).mono ?_
  rintro e w220 ⟨rfl, hb221⟩
  have q222 := q217.later hb221
  have q223 := q218.later hb221
  have q224 := q219.later hb221
  clear q217 q218 q219
  try clear hHeld
  refine hK.out _ _ (⟨q223.cell 0, q223.cell 1, q223.cell 2, q223.cell 3, q223.cell 4, trivial⟩) (fun hHeld => ?_)
  clear hK K
  try simp only [Act.put, List.setIfInBounds_toArray, List.set_cons_zero, List.set_cons_succ]
  refine wpAnyH_ready (rs := [8]) (by kernel_rfl) (by simp) ?_
  refine AllReadyH.cons (o := { dst := some 11, op := Op.call { callee := Callee.value (Operand.func 45), args := #[Operand.tmp 10], argTypes := #[9] }, type := 4, pos := "right.go:42", after := #[{ on := 7, ground := Ground.data }, { on := 4, ground := Ground.chain }], guard := none }) rfl (fun K hK => ?_) AllReadyH.nil
  go_simp
  refine (T2.out _).mono ?_
  rintro e w225 ⟨rfl, hb226⟩
  have q227 := q222.later hb226
  have q228 := q223.later hb226
  have q229 := q224.later hb226
  clear q222 q223 q224
  try clear hHeld
  refine hK.out _ _ (⟨q228.cell 0, q228.cell 1, q228.cell 2, q228.cell 3, q228.cell 4, trivial⟩) (fun hHeld => ?_)
  clear hK K
  try simp only [Act.put, List.setIfInBounds_toArray, List.set_cons_zero, List.set_cons_succ]
  refine wpAnyH_ready (rs := [9]) (by kernel_rfl) (by simp) ?_
  refine AllReadyH.cons (o := { dst := some 12, op := Op.call { callee := Callee.value (Operand.func 43), args := #[Operand.const (Value.int IntKind.i64 2), Operand.tmp 11], argTypes := #[3, 4] }, type := 74, pos := "right.go:42", after := #[{ on := 8, ground := Ground.data }, { on := 8, ground := Ground.chain }], guard := none }) rfl (fun K hK => ?_) AllReadyH.nil
  go_simp
  refine (N1.out _ q229).mono ?_
  rintro e w230 ⟨rfl, hb231⟩
  have q232 := q227.later hb231
  have q233 := q228.later hb231
  have q234 := q229.later hb231
  clear q227 q228 q229
  try clear hHeld
  refine hK.out _ _ (⟨q233.cell 0, q233.cell 1, q233.cell 2, q233.cell 3, q233.cell 4, trivial⟩) (fun hHeld => ?_)
  clear hK K
  try simp only [Act.put, List.setIfInBounds_toArray, List.set_cons_zero, List.set_cons_succ]
  refine wpAnyH_ready (rs := [13]) (by kernel_rfl) (by simp) ?_
  refine AllReadyH.cons (o := { dst := some 16, op := Op.call { callee := Callee.value (Operand.func 43), args := #[Operand.const (Value.int IntKind.i64 3), Operand.tmp 15], argTypes := #[3, 4] }, type := 74, pos := "right.go:43", after := #[{ on := 12, ground := Ground.data }, { on := 9, ground := Ground.chain }], guard := none }) rfl (fun K hK => ?_) AllReadyH.nil
  go_simp
  refine (N2.out _ q234).mono ?_
  rintro e w235 ⟨rfl, hb236⟩
  have q237 := q232.later hb236
  have q238 := q233.later hb236
  have q239 := q234.later hb236
  clear q232 q233 q234
  try clear hHeld
  refine hK.out _ _ (⟨q238.cell 0, q238.cell 1, q238.cell 2, q238.cell 3, q238.cell 4, trivial⟩) (fun hHeld => ?_)
  clear hK K
  try simp only [Act.put, List.setIfInBounds_toArray, List.set_cons_zero, List.set_cons_succ]
  refine wpAnyH_ready (rs := [18]) (by kernel_rfl) (by simp) ?_
  refine AllReadyH.cons (o := { dst := some 21, op := Op.call { callee := Callee.value (Operand.func 43), args := #[Operand.const (Value.int IntKind.i64 5), Operand.tmp 20], argTypes := #[3, 4] }, type := 74, pos := "right.go:44", after := #[{ on := 17, ground := Ground.data }, { on := 13, ground := Ground.chain }], guard := none }) rfl (fun K hK => ?_) AllReadyH.nil
  go_simp
  refine (N3.out _ q239).mono ?_
  rintro e w240 ⟨rfl, hb241⟩
  have q242 := q237.later hb241
  have q243 := q238.later hb241
  have q244 := q239.later hb241
  clear q237 q238 q239
  try clear hHeld
  refine hK.out _ _ (⟨q243.cell 0, q243.cell 1, q243.cell 2, q243.cell 3, q243.cell 4, trivial⟩) (fun hHeld => ?_)
  clear hK K
  try simp only [Act.put, List.setIfInBounds_toArray, List.set_cons_zero, List.set_cons_succ]
  refine wpAnyH_take (i := 22) (oi := { dst := some 25, op := Op.move (Operand.tmp 24), type := 4, pos := "right.go:40", after := #[{ on := 21, ground := Ground.data }, { on := 18, ground := Ground.chain }], guard := none }) (v := ?v1017) rfl (by kernel_rfl) (by kernel_rfl) (by kernel_rfl) (fun _ _ _ h => h) (Or.inl ⟨by rfl, ?hy1017⟩) (by assumption) ?rest1017
  case hy1017 => (intro w1 hSw; (try dsimp only at hSw); obtain ⟨h0, h1, h2, h3, h4, -⟩ := hSw; go_simp; try with_reducible rfl)
  try simp only [Act.put, List.setIfInBounds_toArray, List.set_cons_zero, List.set_cons_succ]
  refine wpAnyH_take (i := 23) (oi := { dst := some 26, op := Op.fieldAddr 35 (Operand.tmp 1) 3, type := 0, pos := "right.go:40", after := #[{ on := 22, ground := Ground.guard }], guard := some (22, false) }) (v := ?v1018) rfl (by kernel_rfl) (by kernel_rfl) (by kernel_rfl) (fun _ _ _ h => h) (Or.inl ⟨by rfl, ?hy1018⟩) (by assumption) ?rest1018
  case hy1018 => (intro w1 hSw; (try dsimp only at hSw); obtain ⟨h0, h1, h2, h3, h4, -⟩ := hSw; go_simp; try with_reducible rfl)
  try simp only [Act.put, List.setIfInBounds_toArray, List.set_cons_zero, List.set_cons_succ]
  refine wpAnyH_take (i := 24) (oi := { dst := some 27, op := Op.load 9 (Operand.tmp 26), type := 9, pos := "right.go:40", after := #[{ on := 23, ground := Ground.data }, { on := 22, ground := Ground.guard }], guard := some (22, false) }) (v := ?v1019) rfl (by kernel_rfl) (by kernel_rfl) (by kernel_rfl) (fun _ _ _ h => h) (Or.inl ⟨by rfl, ?hy1019⟩) (by assumption) ?rest1019
  case hy1019 => (intro w1 hSw; (try dsimp only at hSw); obtain ⟨h0, h1, h2, h3, h4, -⟩ := hSw; go_simp; try with_reducible rfl)
  try simp only [Act.put, List.setIfInBounds_toArray, List.set_cons_zero, List.set_cons_succ]
  refine wpAnyH_take (i := 25) (oi := { dst := some 28, op := Op.binOp BinOp.eql 9 (Operand.tmp 27) (Operand.const (Value.string { data := #[] })) 9, type := 4, pos := "right.go:40", after := #[{ on := 24, ground := Ground.data }, { on := 22, ground := Ground.guard }], guard := some (22, false) }) (v := ?v1020) rfl (by kernel_rfl) (by kernel_rfl) (by kernel_rfl) (fun _ _ _ h => h) (Or.inl ⟨by rfl, ?hy1020⟩) (by assumption) ?rest1020
  case hy1020 => (intro w1 hSw; (try dsimp only at hSw); obtain ⟨h0, h1, h2, h3, h4, -⟩ := hSw; go_simp; try with_reducible rfl)
  try simp only [Act.put, List.setIfInBounds_toArray, List.set_cons_zero, List.set_cons_succ]
  refine wpAnyH_take (i := 26) (oi := { dst := some 29, op := Op.pick (Operand.tmp 25) (Operand.const (Value.bool true)) (Operand.tmp 28), type := 4, pos := "right.go:40", after := #[{ on := 22, ground := Ground.data }, { on := 25, ground := Ground.data }], guard := none }) (v := ?v1021) rfl (by kernel_rfl) (by kernel_rfl) (by kernel_rfl) (fun _ _ _ h => h) (Or.inl ⟨by rfl, ?hy1021⟩) (by assumption) ?rest1021
  case hy1021 => (intro w1 hSw; (try dsimp only at hSw); obtain ⟨h0, h1, h2, h3, h4, -⟩ := hSw; go_simp; try with_reducible rfl)
  try simp only [Act.put, List.setIfInBounds_toArray, List.set_cons_zero, List.set_cons_succ]
  refine wpAnyH_ready (rs := [27]) (by kernel_rfl) (by simp) ?_
  refine AllReadyH.cons (o := { dst := some 30, op := Op.call { callee := Callee.value (Operand.func 43), args := #[Operand.const (Value.int IntKind.i64 5), Operand.tmp 29], argTypes := #[3, 4] }, type := 74, pos := "right.go:45", after := #[{ on := 26, ground := Ground.data }, { on := 22, ground := Ground.chain }], guard := none }) rfl (fun K hK => ?_) AllReadyH.nil
  go_simp
  refine (N4.out _ q244).mono ?_
  rintro e w245 ⟨rfl, hb246⟩
  have q247 := q242.later hb246
  have q248 := q243.later hb246
  have q249 := q244.later hb246
  clear q242 q243 q244
  try clear hHeld
  refine hK.out _ _ (⟨q248.cell 0, q248.cell 1, q248.cell 2, q248.cell 3, q248.cell 4, trivial⟩) (fun hHeld => ?_)
  clear hK K
  try simp only [Act.put, List.setIfInBounds_toArray, List.set_cons_zero, List.set_cons_succ]
  refine wpAnyH_ready (rs := [28]) (by kernel_rfl) (by simp) ?_
  refine AllReadyH.cons (o := { dst := some 31, op := Op.buildSlice 132 5 #[(0, Operand.tmp 7), (1, Operand.tmp 12), (2, Operand.tmp 16), (3, Operand.tmp 21), (4, Operand.tmp 30)], type := 132, pos := "right.go:40", after := #[{ on := 4, ground := Ground.data }, { on := 9, ground := Ground.data }, { on := 13, ground := Ground.data }, { on := 18, ground := Ground.data }, { on := 27, ground := Ground.data }], guard := none }) rfl (fun K hK => ?_) AllReadyH.nil
  go_simp
  obtain ⟨w250, hw251, hb252, p253⟩ := alloc_new w245 #[V0, V1, V2, V3, V4] 74
  have q254 := q247.later hb252
  have q255 := q248.later hb252
  have q256 := q249.later hb252
  rw [hw251]
  try clear hHeld
  refine hK.out _ _ (⟨q255.cell 0, q255.cell 1, q255.cell 2, q255.cell 3, q255.cell 4, trivial⟩) (fun hHeld => ?_)
  clear hK K
  try simp only [Act.put, List.setIfInBounds_toArray, List.set_cons_zero, List.set_cons_succ]
  refine wpAnyH_ready (rs := [29]) (by kernel_rfl) (by simp) ?_
  refine AllReadyH.cons (o := { dst := some 32, op := Op.call { callee := Callee.value (Operand.func 42), args := #[Operand.tmp 31], argTypes := #[132] }, type := 74, pos := "right.go:40", after := #[{ on := 28, ground := Ground.data }, { on := 27, ground := Ground.chain }], guard := none }) rfl (fun K hK => ?_) AllReadyH.nil
  go_simp
  refine (first_any b _ 5 [needO 1 Q1, needO 2 Q2, needO 3 Q3, needO 5 Q4, needO 5 false] _ rfl (by decide) (five_cells HV.out p253)).mono ?_
  rintro e w257 ⟨rfl, hb258⟩
  have q259 := q254.later hb258
  have q260 := q255.later hb258
  have q261 := q256.later hb258
  have q262 := p253.later hb258
  clear q254 q255 q256 p253
  try clear hHeld
  refine hK.out _ _ (⟨q260.cell 0, q260.cell 1, q260.cell 2, q260.cell 3, q260.cell 4, trivial⟩) (fun hHeld => ?_)
  clear hK K
  try simp only [Act.put, List.setIfInBounds_toArray, List.set_cons_zero, List.set_cons_succ]
  refine wpAnyH_take (i := 30) (oi := { dst := some 2, op := Op.assign (Operand.tmp 32), type := 74, pos := "right.go:40", after := #[{ on := 29, ground := Ground.data }, { on := 29, ground := Ground.chain }, { on := 0, ground := Ground.phase }, { on := 1, ground := Ground.phase }, { on := 2, ground := Ground.phase }, { on := 3, ground := Ground.phase }, { on := 4, ground := Ground.phase }, { on := 5, ground := Ground.phase }, { on := 6, ground := Ground.phase }, { on := 7, ground := Ground.phase }, { on := 8, ground := Ground.phase }, { on := 9, ground := Ground.phase }, { on := 10, ground := Ground.phase }, { on := 11, ground := Ground.phase }, { on := 12, ground := Ground.phase }, { on := 13, ground := Ground.phase }, { on := 14, ground := Ground.phase }, { on := 15, ground := Ground.phase }, { on := 16, ground := Ground.phase }, { on := 17, ground := Ground.phase }, { on := 18, ground := Ground.phase }, { on := 19, ground := Ground.phase }, { on := 20, ground := Ground.phase }, { on := 21, ground := Ground.phase }, { on := 22, ground := Ground.phase }, { on := 23, ground := Ground.phase }, { on := 24, ground := Ground.phase }, { on := 25, ground := Ground.phase }, { on := 26, ground := Ground.phase }, { on := 27, ground := Ground.phase }, { on := 28, ground := Ground.phase }, { on := 29, ground := Ground.phase }], guard := none }) (v := ?v1022) rfl (by kernel_rfl) (by kernel_rfl) (by kernel_rfl) (fun _ _ _ h => h) (Or.inl ⟨by rfl, ?hy1022⟩) (by assumption) ?rest1022
  case hy1022 => (intro w1 hSw; (try dsimp only at hSw); obtain ⟨h0, h1, h2, h3, h4, -⟩ := hSw; go_simp; try with_reducible rfl)
  try simp only [Act.put, List.setIfInBounds_toArray, List.set_cons_zero, List.set_cons_succ]
  refine wpAnyH_done (by kernel_rfl) ?_ _
  go_wp2_with fail
  go_ret
  exact ⟨rfl, H.out.trans (q259.mono H.out.size)⟩
end Go.Proofs.YtogkdekjcbljnaaDoor
