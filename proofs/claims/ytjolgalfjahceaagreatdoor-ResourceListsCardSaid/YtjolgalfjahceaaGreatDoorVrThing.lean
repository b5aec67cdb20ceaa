/- resource's law: word; thing (tools/vrthing_gen.py: its drawn region of 38 operations taken by hand, an operation a step). -/
import Derived.Test.YtjolgalfjahceaaGreatDoorVrEx
import Derived.Deep.RegionLaw
namespace Go.Proofs.YtjolgalfjahceaaGreatDoor
open Go.RowKit

def wd : Nat → ByteArray
  | 0 => ⟨#[97]⟩
  | 1 => ⟨#[98]⟩
  | 2 => ⟨#[99, 47, 100]⟩
  | 3 => ⟨#[101, 46, 102]⟩
  | 4 => ⟨#[103, 45, 49]⟩
  | _ => ⟨#[122, 122]⟩
set_option maxRecDepth 100000 in
theorem word_any (n : Nat) (x : ByteArray) (w : World) (hx : wd (n % 6) = x) :
    Calls Tryz.prog 19 #[.int .u8 (n : Int)] w fun e w' => e = .returned (.string x) ∧ Below w.heap.size w w' := by
  subst hx
  obtain ⟨r, hr⟩ : ∃ r, n % 6 = r := ⟨_, rfl⟩
  have hr6 : r < 6 := by omega
  have hi : ((n : Int) % 6) = (r : Int) := by omega
  rw [hr]
  clear hr
  have hcases : r = 0 ∨ r = 1 ∨ r = 2 ∨ r = 3 ∨ r = 4 ∨ r = 5 := by omega
  rcases hcases with rfl | rfl | rfl | rfl | rfl | rfl
  all_goals
    go_enter Tryz.func19, Tryz.ntmps19
    go_wp2
    go_ret
    exact ⟨rfl, (Below.refl _ _).alloc (Nat.le_refl _) _⟩

theorem step_word4 {ops : Array Oper} {o : Oper} {a : Act} {w : World} {K : Act → World → Prop} {Q : Exit → Act → World → Prop} {E : Prop} (hg : o.guard = none) (x : Nat) (ts : Array TypeId)
    (hop : o.op = .call { callee := .value (.func 19), args := #[.tmp x], argTypes := ts }) (v0 : Value) (hx : a.eval (.tmp x) = v0) (s : ByteArray)
    (hc : Calls Tryz.prog 19 #[v0] w fun e w' => e = .returned (.string s) ∧ Below w.heap.size w w') (h : ∀ w', Below w.heap.size w w' → K (a.put o.dst (.string s)) w') : if Region.wanted o (yielded ops a.tmps) = true then Oper.wp Tryz.prog o a w K Q else E := by
  have hw : Region.wanted o (yielded ops a.tmps) = true := by simp [Region.wanted, hg]
  rw [if_pos hw]
  have hent : ∀ (args : Array Value) (w : World), (callFunc 19 args).run Tryz.prog w = .ok (.enter 19 args) w := enters_of Tryz.func19 (by kernel_rfl) rfl
  obtain ⟨dst, op, type, pos, aft, guard⟩ := o
  simp only at hop
  subst hop
  go_simp
  have hx' : a.tmps[x]?.getD undef = v0 := by simpa [Act.eval] using hx
  rw [hx']
  refine hc.mono ?_
  rintro e w' ⟨rfl, hb⟩
  exact h w' hb

/-- The law's box of a Thing at B. -/
abbrev Tx (B : Nat) (t : Int) (q : Int) (g : Bool) (s : ByteArray) (n : Int) (w0 w' : World) : Prop :=
  w'.cell? ⟨B, 0, none⟩ = some (.int .i64 t) ∧ w'.cell? ⟨B, 2, none⟩ = some (.int .u64 q) ∧ w'.cell? ⟨B, 3, none⟩ = some (.bool g) ∧ w'.cell? ⟨B, 4, none⟩ = some (.string s) ∧ w'.cell? ⟨B, 6, none⟩ = some (.int .u8 n) ∧
    B < w'.heap.size ∧ Below w0.heap.size w0 w'
theorem Tx.next {B : Nat} {t : Int} {q : Int} {g : Bool} {s : ByteArray} {n : Int} {w0 wc w' : World} (h : Tx B t q g s n w0 wc) (hb : Below wc.heap.size wc w') : Tx B t q g s n w0 w' := by
  obtain ⟨h0, h2, h3, h4, h6, h7, h8⟩ := h
  exact ⟨(hb.cell (p := ⟨B, 0, none⟩) h7).trans h0, (hb.cell (p := ⟨B, 2, none⟩) h7).trans h2, (hb.cell (p := ⟨B, 3, none⟩) h7).trans h3, (hb.cell (p := ⟨B, 4, none⟩) h7).trans h4, (hb.cell (p := ⟨B, 6, none⟩) h7).trans h6, Nat.lt_of_lt_of_le h7 hb.size, h8.trans (hb.mono h8.size)⟩

theorem Tx.up {B : Nat} {t : Int} {q : Int} {g : Bool} {s : ByteArray} {n : Int} {w0 w' : World} (h : Tx B t q g s n w0 w') : w0.heap.size ≤ w'.heap.size := h.2.2.2.2.2.2.size
theorem Tx.alloc {B : Nat} {t : Int} {q : Int} {g : Bool} {s : ByteArray} {n : Int} {w0 w' : World} (h : Tx B t q g s n w0 w') (o : Obj) : Tx B t q g s n w0 (w'.alloc o) := h.next ((Below.refl _ _).alloc (Nat.le_refl _) o)
theorem Tx.set {B F i : Nat} {t : Int} {q : Int} {g : Bool} {s : ByteArray} {n : Int} {w0 w' : World} (h : Tx B t q g s n w0 w') (hB : B < w0.heap.size) (hF : w0.heap.size ≤ F) (v : Value) : Tx B t q g s n w0 (w'.setCell ⟨F, i, none⟩ v) := by
  obtain ⟨h0, h2, h3, h4, h6, h7, h8⟩ := h
  have hb : ∀ o, (w'.setCell ⟨F, i, none⟩ v).cell? ⟨B, o, none⟩ = w'.cell? ⟨B, o, none⟩ := fun o => World.cell?_of_block (a := ⟨B, o, none⟩) (Below.heap_setCell w' ⟨F, i, none⟩ v B (by show B ≠ F; omega))
  exact ⟨(hb 0).trans h0, (hb 2).trans h2, (hb 3).trans h3, (hb 4).trans h4, (hb 6).trans h6, by simpa [World.setCell] using h7, h8.setCell hF v⟩
def body200 (s : ByteArray) : ByteArray := s.extract 0 (min s.size 200)
theorem z_cells {w0 w' : World} (hb : Below (w0.alloc (.cells #[.int .i64 0, .string ⟨#[]⟩, .int .u64 0, .bool false, .string ⟨#[]⟩] 27)).drew.heap.size (w0.alloc (.cells #[.int .i64 0, .string ⟨#[]⟩, .int .u64 0, .bool false, .string ⟨#[]⟩] 27)).drew w') :
    (w'.cell? ⟨w0.heap.size, 0, none⟩ = some (.int .i64 0) ∧ w'.cell? ⟨w0.heap.size, 1, none⟩ = some (.string ⟨#[]⟩) ∧ w'.cell? ⟨w0.heap.size, 2, none⟩ = some (.int .u64 0) ∧ w'.cell? ⟨w0.heap.size, 3, none⟩ = some (.bool false) ∧ w'.cell? ⟨w0.heap.size, 4, none⟩ = some (.string ⟨#[]⟩)) ∧
    (w'.frozen? ⟨w0.heap.size, 0, none⟩ = false ∧ w'.frozen? ⟨w0.heap.size, 1, none⟩ = false ∧ w'.frozen? ⟨w0.heap.size, 2, none⟩ = false ∧ w'.frozen? ⟨w0.heap.size, 3, none⟩ = false ∧ w'.frozen? ⟨w0.heap.size, 4, none⟩ = false) := by
  have h0 : Blk (w0.alloc (.cells #[.int .i64 0, .string ⟨#[]⟩, .int .u64 0, .bool false, .string ⟨#[]⟩] 27)).drew w0.heap.size #[.int .i64 0, .string ⟨#[]⟩, .int .u64 0, .bool false, .string ⟨#[]⟩] 27 := Blk.new w0 _ _
  have h := h0.below hb (by show w0.heap.size < (w0.alloc (.cells #[.int .i64 0, .string ⟨#[]⟩, .int .u64 0, .bool false, .string ⟨#[]⟩] 27)).heap.size; simp)
  exact ⟨⟨h.cell 0, h.cell 1, h.cell 2, h.cell 3, h.cell 4⟩, h.frozen 0, h.frozen 1, h.frozen 2, h.frozen 3, h.frozen 4⟩

set_option maxRecDepth 100000 in
set_option maxHeartbeats 8000000 in
theorem thing_gf (t : Int) (x : ByteArray) (q : Nat) (s : ByteArray) (n T : Nat) (X : ByteArray) (w : World) (hT : (IntKind.u64.wrap t) % 5 = (T : Int)) (hX : wd (n % 6) = X) (hs : s.size ≤ 9223372036854775807) (M : Nat) (hM : min s.size 200 = M) :
    Calls Tryz.prog 6 #[.agg #[.int .i64 t, .string x, .int .u64 (q : Int), .bool false, .string s, .bool true, .int .u8 (n : Int)]] w fun e w' => e = .returned (.agg #[.int .i64 (1 + (T : Int)), .string X, .int .u64 (((1 + q % 20 : Nat)) : Int), .bool false, .string (s.extract 0 M)]) ∧ Below w.heap.size w w' := by
  have HX := Lib.hid hX; clear hX
  obtain ⟨Q, hQ⟩ : ∃ Q, q % 20 = Q := ⟨_, rfl⟩
  have hQi : ((q : Int) % 20) = (Q : Int) := by omega
  have hQ20 : Q < 20 := by omega
  rw [hQ]
  clear hQ
  have hb0 : Below w.heap.size w ((w.alloc (.cells #[.int .i64 t, .string x, .int .u64 (q : Int), .bool false, .string s, .bool true, .int .u8 (n : Int)] 29)).alloc (.cells #[.int .i64 0, .string ⟨#[]⟩, .int .u64 0, .bool false, .string ⟨#[]⟩] 27)) := ((Below.refl _ _).alloc (Nat.le_refl _) _).alloc (by simp) _
  obtain ⟨w0, hw0⟩ : ∃ w0, (w.alloc (.cells #[.int .i64 t, .string x, .int .u64 (q : Int), .bool false, .string s, .bool true, .int .u8 (n : Int)] 29)).alloc (.cells #[.int .i64 0, .string ⟨#[]⟩, .int .u64 0, .bool false, .string ⟨#[]⟩] 27) = w0 := ⟨_, rfl⟩
  have q0 : Blk w0 w.heap.size #[.int .i64 t, .string x, .int .u64 (q : Int), .bool false, .string s, .bool true, .int .u8 (n : Int)] 29 := by rw [← hw0]; exact (Blk.new w _ _).alloc _
  have r0 : Blk w0 (w.heap.size + 1) #[.int .i64 0, .string ⟨#[]⟩, .int .u64 0, .bool false, .string ⟨#[]⟩] 27 := by
    rw [← hw0]
    have := Blk.new (w.alloc (.cells #[.int .i64 t, .string x, .int .u64 (q : Int), .bool false, .string s, .bool true, .int .u8 (n : Int)] 29)) #[.int .i64 0, .string ⟨#[]⟩, .int .u64 0, .bool false, .string ⟨#[]⟩] 27
    simpa using this
  rw [hw0] at hb0
  have hwt : IntKind.i64.wrap (T : Int) = (T : Int) := IntWalk.i64_in _ (by omega)
  have hwt1 : IntKind.i64.wrap (1 + (T : Int)) = 1 + (T : Int) := IntWalk.i64_in _ (by omega)
  have hwq : IntKind.u64.wrap (1 + (Q : Int)) = 1 + (Q : Int) := IntWalk.u64_in _ (by omega)
  have hT' : (IntKind.u64.wrap t).tmod 5 = (T : Int) := by rw [Int.tmod_eq_emod_of_nonneg (by rw [IntKind.wrap_u64]; omega)]; exact hT
  have hQ' : ((q : Int)).tmod 20 = (Q : Int) := by rw [Int.tmod_eq_emod_of_nonneg (by omega)]; exact hQi
  have hle : (M : Int) ≤ (s.size : Int) := by omega
  have c0 : w0.cell? ⟨w.heap.size, 0, none⟩ = some (.int .i64 t) := q0.cell 0
  have c2 : w0.cell? ⟨w.heap.size, 2, none⟩ = some (.int .u64 (q : Int)) := q0.cell 2
  have c3 : w0.cell? ⟨w.heap.size, 3, none⟩ = some (.bool false) := q0.cell 3
  have c4 : w0.cell? ⟨w.heap.size, 4, none⟩ = some (.string s) := q0.cell 4
  have c6 : w0.cell? ⟨w.heap.size, 6, none⟩ = some (.int .u8 (n : Int)) := q0.cell 6
  have V0 : Tx w.heap.size t (q : Int) false s (n : Int) w0 w0 := ⟨c0, c2, c3, c4, c6, q0.lt, Below.refl _ _⟩
  have HW0 := Lib.hid (And.intro hw0 (And.intro q0 (And.intro r0 hb0))); clear hw0 q0 r0 hb0 hT hQi
  go_enter Tryz.func6, Tryz.ntmps6
  go_wp2_with fail
  rw [HW0.out.1]
  have hlt0 : w.heap.size < w0.heap.size := V0.2.2.2.2.2.1
  have V0d : Tx w.heap.size t (q : Int) false s (n : Int) w0 w0.drew := V0.next ((Below.refl _ _).drew)
  have V0a : ∀ o, Tx w.heap.size t (q : Int) false s (n : Int) w0 (w0.alloc o).drew := fun o => (V0.alloc o).next ((Below.refl _ _).drew)
  have hle' : M ≤ s.size := by omega
  have hmin : min (s.size : Int) 200 = (M : Int) := by omega
  have hmin' : min (200 : Int) (s.size : Int) = (M : Int) := by omega
  refine wp_region_held_drew (S := (fun w' => w'.cell? ⟨w.heap.size, 0, none⟩ = some (.int .i64 t) ∧ w'.cell? ⟨w.heap.size, 2, none⟩ = some (.int .u64 (q : Int)) ∧ w'.cell? ⟨w.heap.size, 3, none⟩ = some (.bool false) ∧ w'.cell? ⟨w.heap.size, 4, none⟩ = some (.string s) ∧ w'.cell? ⟨w.heap.size, 6, none⟩ = some (.int .u8 (n : Int)) ∧ w.heap.size < w'.heap.size ∧ Below w0.heap.size w0 w')) (by kernel_rfl) (show Tx w.heap.size t (q : Int) false s (n : Int) w0 _ from V0d) (fun hHeld => ?_)
  refine wpAnyH_take (i := 0) (oi := { dst := some 9, op := Op.fieldAddr 29 (Operand.tmp 1) 0, type := 0, pos := "law.go:40", after := #[], guard := none }) (v := ?v1) rfl (by kernel_rfl) (by kernel_rfl) (by kernel_rfl) (fun _ _ _ h => h) (Or.inl ⟨by rfl, ?hy1⟩) (by assumption) ?rest1
  case hy1 => (intro w1 hSw; (try dsimp only at hSw); obtain ⟨h0, h2, h3, h4, h6, h7, -⟩ := hSw; go_simp; try with_reducible rfl)
  try simp only [Act.put, List.setIfInBounds_toArray, List.set_cons_zero, List.set_cons_succ]
  refine wpAnyH_take (i := 1) (oi := { dst := some 10, op := Op.fieldAddr 27 (Operand.tmp 9) 0, type := 0, pos := "law.go:40", after := #[{ on := 0, ground := Ground.data }], guard := none }) (v := ?v2) rfl (by kernel_rfl) (by kernel_rfl) (by kernel_rfl) (fun _ _ _ h => h) (Or.inl ⟨by rfl, ?hy2⟩) (by assumption) ?rest2
  case hy2 => (intro w1 hSw; (try dsimp only at hSw); obtain ⟨h0, h2, h3, h4, h6, h7, -⟩ := hSw; go_simp; try with_reducible rfl)
  try simp only [Act.put, List.setIfInBounds_toArray, List.set_cons_zero, List.set_cons_succ]
  refine wpAnyH_take (i := 2) (oi := { dst := some 11, op := Op.fieldAddr 24 (Operand.tmp 10) 0, type := 0, pos := "law.go:40", after := #[{ on := 1, ground := Ground.data }], guard := none }) (v := ?v3) rfl (by kernel_rfl) (by kernel_rfl) (by kernel_rfl) (fun _ _ _ h => h) (Or.inl ⟨by rfl, ?hy3⟩) (by assumption) ?rest3
  case hy3 => (intro w1 hSw; (try dsimp only at hSw); obtain ⟨h0, h2, h3, h4, h6, h7, -⟩ := hSw; go_simp; try with_reducible rfl)
  try simp only [Act.put, List.setIfInBounds_toArray, List.set_cons_zero, List.set_cons_succ]
  refine wpAnyH_take (i := 3) (oi := { dst := some 12, op := Op.load 3 (Operand.tmp 11), type := 3, pos := "law.go:40", after := #[{ on := 2, ground := Ground.data }], guard := none }) (v := ?v4) rfl (by kernel_rfl) (by kernel_rfl) (by kernel_rfl) (fun _ _ _ h => h) (Or.inl ⟨by rfl, ?hy4⟩) (by assumption) ?rest4
  case hy4 => (intro w1 hSw; (try dsimp only at hSw); obtain ⟨h0, h2, h3, h4, h6, h7, -⟩ := hSw; go_simp; try with_reducible rfl)
  try simp only [Act.put, List.setIfInBounds_toArray, List.set_cons_zero, List.set_cons_succ]
  refine wpAnyH_take (i := 4) (oi := { dst := some 13, op := Op.convert 3 45 (Operand.tmp 12), type := 45, pos := "law.go:40", after := #[{ on := 3, ground := Ground.data }], guard := none }) (v := ?v5) rfl (by kernel_rfl) (by kernel_rfl) (by kernel_rfl) (fun _ _ _ h => h) (Or.inl ⟨by rfl, ?hy5⟩) (by assumption) ?rest5
  case hy5 => (intro w1 hSw; (try dsimp only at hSw); obtain ⟨h0, h2, h3, h4, h6, h7, -⟩ := hSw; go_simp; try with_reducible rfl)
  try simp only [Act.put, List.setIfInBounds_toArray, List.set_cons_zero, List.set_cons_succ]
  refine wpAnyH_take (i := 5) (oi := { dst := some 14, op := Op.binOp BinOp.rem 45 (Operand.tmp 13) (Operand.const (Value.int IntKind.u64 5)) 45, type := 45, pos := "law.go:40", after := #[{ on := 4, ground := Ground.data }], guard := none }) (v := ?v6) rfl (by kernel_rfl) (by kernel_rfl) (by kernel_rfl) (fun _ _ _ h => h) (Or.inl ⟨by rfl, ?hy6⟩) (by assumption) ?rest6
  case hy6 => (intro w1 hSw; (try dsimp only at hSw); obtain ⟨h0, h2, h3, h4, h6, h7, -⟩ := hSw; go_simp; try with_reducible rfl)
  try simp only [Act.put, List.setIfInBounds_toArray, List.set_cons_zero, List.set_cons_succ]
  refine wpAnyH_take (i := 6) (oi := { dst := some 15, op := Op.convert 45 3 (Operand.tmp 14), type := 3, pos := "law.go:40", after := #[{ on := 5, ground := Ground.data }], guard := none }) (v := ?v7) rfl (by kernel_rfl) (by kernel_rfl) (by kernel_rfl) (fun _ _ _ h => h) (Or.inl ⟨by rfl, ?hy7⟩) (by assumption) ?rest7
  case hy7 => (intro w1 hSw; (try dsimp only at hSw); obtain ⟨h0, h2, h3, h4, h6, h7, -⟩ := hSw; go_simp; try with_reducible rfl)
  try simp only [Act.put, List.setIfInBounds_toArray, List.set_cons_zero, List.set_cons_succ]
  refine wpAnyH_take (i := 7) (oi := { dst := some 16, op := Op.binOp BinOp.add 3 (Operand.const (Value.int IntKind.i64 1)) (Operand.tmp 15) 3, type := 3, pos := "law.go:40", after := #[{ on := 6, ground := Ground.data }], guard := none }) (v := ?v8) rfl (by kernel_rfl) (by kernel_rfl) (by kernel_rfl) (fun _ _ _ h => h) (Or.inl ⟨by rfl, ?hy8⟩) (by assumption) ?rest8
  case hy8 => (intro w1 hSw; (try dsimp only at hSw); obtain ⟨h0, h2, h3, h4, h6, h7, -⟩ := hSw; go_simp; try with_reducible rfl)
  try simp only [Act.put, List.setIfInBounds_toArray, List.set_cons_zero, List.set_cons_succ]
  refine wpAnyH_take (i := 8) (oi := { dst := some 17, op := Op.fieldAddr 29 (Operand.tmp 1) 2, type := 0, pos := "law.go:40", after := #[], guard := none }) (v := ?v9) rfl (by kernel_rfl) (by kernel_rfl) (by kernel_rfl) (fun _ _ _ h => h) (Or.inl ⟨by rfl, ?hy9⟩) (by assumption) ?rest9
  case hy9 => (intro w1 hSw; (try dsimp only at hSw); obtain ⟨h0, h2, h3, h4, h6, h7, -⟩ := hSw; go_simp; try with_reducible rfl)
  try simp only [Act.put, List.setIfInBounds_toArray, List.set_cons_zero, List.set_cons_succ]
  refine wpAnyH_take (i := 9) (oi := { dst := some 18, op := Op.load 5 (Operand.tmp 17), type := 5, pos := "law.go:40", after := #[{ on := 8, ground := Ground.data }], guard := none }) (v := ?v10) rfl (by kernel_rfl) (by kernel_rfl) (by kernel_rfl) (fun _ _ _ h => h) (Or.inl ⟨by rfl, ?hy10⟩) (by assumption) ?rest10
  case hy10 => (intro w1 hSw; (try dsimp only at hSw); obtain ⟨h0, h2, h3, h4, h6, h7, -⟩ := hSw; go_simp; try with_reducible rfl)
  try simp only [Act.put, List.setIfInBounds_toArray, List.set_cons_zero, List.set_cons_succ]
  refine wpAnyH_take (i := 12) (oi := { dst := some 21, op := Op.fieldAddr 29 (Operand.tmp 1) 0, type := 0, pos := "law.go:40", after := #[], guard := none }) (v := ?v11) rfl (by kernel_rfl) (by kernel_rfl) (by kernel_rfl) (fun _ _ _ h => h) (Or.inl ⟨by rfl, ?hy11⟩) (by assumption) ?rest11
  case hy11 => (intro w1 hSw; (try dsimp only at hSw); obtain ⟨h0, h2, h3, h4, h6, h7, -⟩ := hSw; go_simp; try with_reducible rfl)
  try simp only [Act.put, List.setIfInBounds_toArray, List.set_cons_zero, List.set_cons_succ]
  refine wpAnyH_take (i := 13) (oi := { dst := some 22, op := Op.fieldAddr 27 (Operand.tmp 21) 1, type := 0, pos := "law.go:40", after := #[{ on := 12, ground := Ground.data }], guard := none }) (v := ?v12) rfl (by kernel_rfl) (by kernel_rfl) (by kernel_rfl) (fun _ _ _ h => h) (Or.inl ⟨by rfl, ?hy12⟩) (by assumption) ?rest12
  case hy12 => (intro w1 hSw; (try dsimp only at hSw); obtain ⟨h0, h2, h3, h4, h6, h7, -⟩ := hSw; go_simp; try with_reducible rfl)
  try simp only [Act.put, List.setIfInBounds_toArray, List.set_cons_zero, List.set_cons_succ]
  refine wpAnyH_take (i := 14) (oi := { dst := some 23, op := Op.load 25 (Operand.tmp 22), type := 25, pos := "law.go:40", after := #[{ on := 13, ground := Ground.data }], guard := none }) (v := ?v13) rfl (by kernel_rfl) (by kernel_rfl) (by kernel_rfl) (fun _ _ _ h => h) (Or.inl ⟨by rfl, ?hy13⟩) (by assumption) ?rest13
  case hy13 => (intro w1 hSw; (try dsimp only at hSw); obtain ⟨h0, h2, h3, h4, h6, h7, -⟩ := hSw; go_simp; try with_reducible rfl)
  try simp only [Act.put, List.setIfInBounds_toArray, List.set_cons_zero, List.set_cons_succ]
  refine wpAnyH_take (i := 15) (oi := { dst := some 24, op := Op.binOp BinOp.rem 25 (Operand.tmp 23) (Operand.const (Value.int IntKind.u64 20)) 25, type := 25, pos := "law.go:40", after := #[{ on := 14, ground := Ground.data }], guard := none }) (v := ?v14) rfl (by kernel_rfl) (by kernel_rfl) (by kernel_rfl) (fun _ _ _ h => h) (Or.inl ⟨by rfl, ?hy14⟩) (by assumption) ?rest14
  case hy14 => (intro w1 hSw; (try dsimp only at hSw); obtain ⟨h0, h2, h3, h4, h6, h7, -⟩ := hSw; go_simp; try with_reducible rfl)
  try simp only [Act.put, List.setIfInBounds_toArray, List.set_cons_zero, List.set_cons_succ]
  refine wpAnyH_take (i := 16) (oi := { dst := some 25, op := Op.binOp BinOp.add 25 (Operand.const (Value.int IntKind.u64 1)) (Operand.tmp 24) 25, type := 25, pos := "law.go:40", after := #[{ on := 15, ground := Ground.data }], guard := none }) (v := ?v15) rfl (by kernel_rfl) (by kernel_rfl) (by kernel_rfl) (fun _ _ _ h => h) (Or.inl ⟨by rfl, ?hy15⟩) (by assumption) ?rest15
  case hy15 => (intro w1 hSw; (try dsimp only at hSw); obtain ⟨h0, h2, h3, h4, h6, h7, -⟩ := hSw; go_simp; try with_reducible rfl)
  try simp only [Act.put, List.setIfInBounds_toArray, List.set_cons_zero, List.set_cons_succ]
  refine wpAnyH_take (i := 17) (oi := { dst := some 26, op := Op.fieldAddr 29 (Operand.tmp 1) 0, type := 0, pos := "law.go:40", after := #[], guard := none }) (v := ?v16) rfl (by kernel_rfl) (by kernel_rfl) (by kernel_rfl) (fun _ _ _ h => h) (Or.inl ⟨by rfl, ?hy16⟩) (by assumption) ?rest16
  case hy16 => (intro w1 hSw; (try dsimp only at hSw); obtain ⟨h0, h2, h3, h4, h6, h7, -⟩ := hSw; go_simp; try with_reducible rfl)
  try simp only [Act.put, List.setIfInBounds_toArray, List.set_cons_zero, List.set_cons_succ]
  refine wpAnyH_take (i := 18) (oi := { dst := some 27, op := Op.fieldAddr 27 (Operand.tmp 26) 2, type := 0, pos := "law.go:40", after := #[{ on := 17, ground := Ground.data }], guard := none }) (v := ?v17) rfl (by kernel_rfl) (by kernel_rfl) (by kernel_rfl) (fun _ _ _ h => h) (Or.inl ⟨by rfl, ?hy17⟩) (by assumption) ?rest17
  case hy17 => (intro w1 hSw; (try dsimp only at hSw); obtain ⟨h0, h2, h3, h4, h6, h7, -⟩ := hSw; go_simp; try with_reducible rfl)
  try simp only [Act.put, List.setIfInBounds_toArray, List.set_cons_zero, List.set_cons_succ]
  refine wpAnyH_take (i := 19) (oi := { dst := some 28, op := Op.load 4 (Operand.tmp 27), type := 4, pos := "law.go:40", after := #[{ on := 18, ground := Ground.data }], guard := none }) (v := ?v18) rfl (by kernel_rfl) (by kernel_rfl) (by kernel_rfl) (fun _ _ _ h => h) (Or.inl ⟨by rfl, ?hy18⟩) (by assumption) ?rest18
  case hy18 => (intro w1 hSw; (try dsimp only at hSw); obtain ⟨h0, h2, h3, h4, h6, h7, -⟩ := hSw; go_simp; try with_reducible rfl)
  try simp only [Act.put, List.setIfInBounds_toArray, List.set_cons_zero, List.set_cons_succ]
  refine wpAnyH_take (i := 26) (oi := { dst := some 35, op := Op.fieldAddr 29 (Operand.tmp 1) 0, type := 0, pos := "law.go:40", after := #[], guard := none }) (v := ?v19) rfl (by kernel_rfl) (by kernel_rfl) (by kernel_rfl) (fun _ _ _ h => h) (Or.inl ⟨by rfl, ?hy19⟩) (by assumption) ?rest19
  case hy19 => (intro w1 hSw; (try dsimp only at hSw); obtain ⟨h0, h2, h3, h4, h6, h7, -⟩ := hSw; go_simp; try with_reducible rfl)
  try simp only [Act.put, List.setIfInBounds_toArray, List.set_cons_zero, List.set_cons_succ]
  refine wpAnyH_take (i := 27) (oi := { dst := some 36, op := Op.fieldAddr 27 (Operand.tmp 35) 3, type := 0, pos := "law.go:40", after := #[{ on := 26, ground := Ground.data }], guard := none }) (v := ?v20) rfl (by kernel_rfl) (by kernel_rfl) (by kernel_rfl) (fun _ _ _ h => h) (Or.inl ⟨by rfl, ?hy20⟩) (by assumption) ?rest20
  case hy20 => (intro w1 hSw; (try dsimp only at hSw); obtain ⟨h0, h2, h3, h4, h6, h7, -⟩ := hSw; go_simp; try with_reducible rfl)
  try simp only [Act.put, List.setIfInBounds_toArray, List.set_cons_zero, List.set_cons_succ]
  refine wpAnyH_take (i := 28) (oi := { dst := some 37, op := Op.load 9 (Operand.tmp 36), type := 9, pos := "law.go:40", after := #[{ on := 27, ground := Ground.data }], guard := none }) (v := ?v21) rfl (by kernel_rfl) (by kernel_rfl) (by kernel_rfl) (fun _ _ _ h => h) (Or.inl ⟨by rfl, ?hy21⟩) (by assumption) ?rest21
  case hy21 => (intro w1 hSw; (try dsimp only at hSw); obtain ⟨h0, h2, h3, h4, h6, h7, -⟩ := hSw; go_simp; try with_reducible rfl)
  try simp only [Act.put, List.setIfInBounds_toArray, List.set_cons_zero, List.set_cons_succ]
  refine wpAnyH_take (i := 29) (oi := { dst := some 38, op := Op.fieldAddr 29 (Operand.tmp 1) 0, type := 0, pos := "law.go:40", after := #[], guard := none }) (v := ?v22) rfl (by kernel_rfl) (by kernel_rfl) (by kernel_rfl) (fun _ _ _ h => h) (Or.inl ⟨by rfl, ?hy22⟩) (by assumption) ?rest22
  case hy22 => (intro w1 hSw; (try dsimp only at hSw); obtain ⟨h0, h2, h3, h4, h6, h7, -⟩ := hSw; go_simp; try with_reducible rfl)
  try simp only [Act.put, List.setIfInBounds_toArray, List.set_cons_zero, List.set_cons_succ]
  refine wpAnyH_take (i := 30) (oi := { dst := some 39, op := Op.fieldAddr 27 (Operand.tmp 38) 3, type := 0, pos := "law.go:40", after := #[{ on := 29, ground := Ground.data }], guard := none }) (v := ?v23) rfl (by kernel_rfl) (by kernel_rfl) (by kernel_rfl) (fun _ _ _ h => h) (Or.inl ⟨by rfl, ?hy23⟩) (by assumption) ?rest23
  case hy23 => (intro w1 hSw; (try dsimp only at hSw); obtain ⟨h0, h2, h3, h4, h6, h7, -⟩ := hSw; go_simp; try with_reducible rfl)
  try simp only [Act.put, List.setIfInBounds_toArray, List.set_cons_zero, List.set_cons_succ]
  refine wpAnyH_take (i := 31) (oi := { dst := some 40, op := Op.load 9 (Operand.tmp 39), type := 9, pos := "law.go:40", after := #[{ on := 30, ground := Ground.data }], guard := none }) (v := ?v24) rfl (by kernel_rfl) (by kernel_rfl) (by kernel_rfl) (fun _ _ _ h => h) (Or.inl ⟨by rfl, ?hy24⟩) (by assumption) ?rest24
  case hy24 => (intro w1 hSw; (try dsimp only at hSw); obtain ⟨h0, h2, h3, h4, h6, h7, -⟩ := hSw; go_simp; try with_reducible rfl)
  try simp only [Act.put, List.setIfInBounds_toArray, List.set_cons_zero, List.set_cons_succ]
  refine wpAnyH_take (i := 32) (oi := { dst := some 41, op := Op.call { callee := Callee.builtin Builtin.len, args := #[Operand.tmp 40], argTypes := #[9] }, type := 3, pos := "law.go:40", after := #[{ on := 31, ground := Ground.data }], guard := none }) (v := ?v25) rfl (by kernel_rfl) (by kernel_rfl) (by kernel_rfl) (fun _ _ _ h => h) (Or.inl ⟨by rfl, ?hy25⟩) (by assumption) ?rest25
  case hy25 => (intro w1 hSw; (try dsimp only at hSw); obtain ⟨h0, h2, h3, h4, h6, h7, -⟩ := hSw; go_simp; try with_reducible rfl)
  try simp only [Act.put, List.setIfInBounds_toArray, List.set_cons_zero, List.set_cons_succ]
  refine wpAnyH_take (i := 33) (oi := { dst := some 42, op := Op.call { callee := Callee.builtin Builtin.min, args := #[Operand.tmp 41, Operand.const (Value.int IntKind.i64 200)], argTypes := #[3, 3] }, type := 3, pos := "law.go:40", after := #[{ on := 32, ground := Ground.data }], guard := none }) (v := ?v26) rfl (by kernel_rfl) (by kernel_rfl) (by kernel_rfl) (fun _ _ _ h => h) (Or.inl ⟨by rfl, ?hy26⟩) (by assumption) ?rest26
  case hy26 => (intro w1 hSw; (try dsimp only at hSw); obtain ⟨h0, h2, h3, h4, h6, h7, -⟩ := hSw; go_simp; try with_reducible rfl)
  try simp only [Act.put, List.setIfInBounds_toArray, List.set_cons_zero, List.set_cons_succ]
  refine wpAnyH_take (i := 34) (oi := { dst := some 43, op := Op.slice 9 (Operand.tmp 37) none (some (Operand.tmp 42)) none, type := 9, pos := "law.go:40", after := #[{ on := 28, ground := Ground.data }, { on := 33, ground := Ground.data }], guard := none }) (v := ?v27) rfl (by kernel_rfl) (by kernel_rfl) (by kernel_rfl) (fun _ _ _ h => h) (Or.inl ⟨by rfl, ?hy27⟩) (by assumption) ?rest27
  case hy27 => (intro w1 hSw; (try dsimp only at hSw); obtain ⟨h0, h2, h3, h4, h6, h7, -⟩ := hSw; go_simp; try with_reducible rfl)
  try simp only [Act.put, List.setIfInBounds_toArray, List.set_cons_zero, List.set_cons_succ]
  refine wpAnyH_ready (rs := [10, 36]) (by kernel_rfl) (by simp) ?_
  refine AllReadyH.cons (o := { dst := some 19, op := Op.call { callee := Callee.value (Operand.func 19), args := #[Operand.tmp 18], argTypes := #[5] }, type := 9, pos := "law.go:40", after := #[{ on := 9, ground := Ground.data }], guard := none }) rfl (fun K hK => ?_) ?_
  · refine step_word4 rfl 18 _ rfl (.int .u8 (n : Int)) (by rfl) X (word_any n X _ HX.out) (fun w' hb => ?_)
    refine hK.out _ _ (show Tx w.heap.size t (q : Int) false s (n : Int) w0 _ from V0d.next hb) (fun hHeld => ?_)
    clear hK K
    try simp only [Act.put, List.setIfInBounds_toArray, List.set_cons_zero, List.set_cons_succ]
    refine wpAnyH_take (i := 11) (oi := { dst := some 20, op := Op.build 24 #[(0, Operand.tmp 16), (1, Operand.tmp 19)], type := 24, pos := "law.go:40", after := #[{ on := 7, ground := Ground.data }, { on := 10, ground := Ground.data }], guard := none }) (v := ?v28) rfl (by kernel_rfl) (by kernel_rfl) (by kernel_rfl) (fun _ _ _ h => h) (Or.inl ⟨by rfl, ?hy28⟩) (by assumption) ?rest28
    case hy28 => (intro w1 hSw; (try dsimp only at hSw); obtain ⟨h0, h2, h3, h4, h6, h7, -⟩ := hSw; go_simp; try with_reducible rfl)
    try simp only [Act.put, List.setIfInBounds_toArray, List.set_cons_zero, List.set_cons_succ]
    refine wpAnyH_take (i := 20) (oi := { dst := some 29, op := Op.move (Operand.tmp 28), type := 4, pos := "law.go:40", after := #[{ on := 19, ground := Ground.data }, { on := 10, ground := Ground.chain }], guard := none }) (v := ?v29) rfl (by kernel_rfl) (by kernel_rfl) (by kernel_rfl) (fun _ _ _ h => h) (Or.inl ⟨by rfl, ?hy29⟩) (by assumption) ?rest29
    case hy29 => (intro w1 hSw; (try dsimp only at hSw); obtain ⟨h0, h2, h3, h4, h6, h7, -⟩ := hSw; go_simp; try with_reducible rfl)
    try simp only [Act.put, List.setIfInBounds_toArray, List.set_cons_zero, List.set_cons_succ]
    refine wpAnyH_take (i := 21) (oi := { dst := some 30, op := Op.fieldAddr 29 (Operand.tmp 1) 2, type := 0, pos := "law.go:40", after := #[{ on := 20, ground := Ground.guard }], guard := some (20, true) }) (v := undef) rfl (by kernel_rfl) (by kernel_rfl) (by kernel_rfl) (fun _ _ _ h => h) (Or.inr ⟨by rfl, rfl⟩) (by assumption) ?_
    try simp only [Act.put, List.setIfInBounds_toArray, List.set_cons_zero, List.set_cons_succ]
    refine wpAnyH_take (i := 22) (oi := { dst := some 31, op := Op.load 5 (Operand.tmp 30), type := 5, pos := "law.go:40", after := #[{ on := 21, ground := Ground.data }, { on := 20, ground := Ground.guard }], guard := some (20, true) }) (v := undef) rfl (by kernel_rfl) (by kernel_rfl) (by kernel_rfl) (fun _ _ _ h => h) (Or.inr ⟨by rfl, rfl⟩) (by assumption) ?_
    try simp only [Act.put, List.setIfInBounds_toArray, List.set_cons_zero, List.set_cons_succ]
    refine wpAnyH_take (i := 23) (oi := { dst := some 32, op := Op.binOp BinOp.rem 5 (Operand.tmp 31) (Operand.const (Value.int IntKind.u8 4)) 5, type := 5, pos := "law.go:40", after := #[{ on := 22, ground := Ground.data }, { on := 20, ground := Ground.guard }], guard := some (20, true) }) (v := undef) rfl (by kernel_rfl) (by kernel_rfl) (by kernel_rfl) (fun _ _ _ h => h) (Or.inr ⟨by rfl, rfl⟩) (by assumption) ?_
    try simp only [Act.put, List.setIfInBounds_toArray, List.set_cons_zero, List.set_cons_succ]
    refine wpAnyH_take (i := 24) (oi := { dst := some 33, op := Op.binOp BinOp.eql 5 (Operand.tmp 32) (Operand.const (Value.int IntKind.u8 0)) 5, type := 4, pos := "law.go:40", after := #[{ on := 23, ground := Ground.data }, { on := 20, ground := Ground.guard }], guard := some (20, true) }) (v := undef) rfl (by kernel_rfl) (by kernel_rfl) (by kernel_rfl) (fun _ _ _ h => h) (Or.inr ⟨by rfl, rfl⟩) (by assumption) ?_
    try simp only [Act.put, List.setIfInBounds_toArray, List.set_cons_zero, List.set_cons_succ]
    refine wpAnyH_take (i := 25) (oi := { dst := some 34, op := Op.pick (Operand.tmp 29) (Operand.tmp 33) (Operand.const (Value.bool false)), type := 4, pos := "law.go:40", after := #[{ on := 20, ground := Ground.data }, { on := 24, ground := Ground.data }], guard := none }) (v := ?v34) rfl (by kernel_rfl) (by kernel_rfl) (by kernel_rfl) (fun _ _ _ h => h) (Or.inl ⟨by rfl, ?hy34⟩) (by assumption) ?rest34
    case hy34 => (intro w1 hSw; (try dsimp only at hSw); obtain ⟨h0, h2, h3, h4, h6, h7, -⟩ := hSw; go_simp; try with_reducible rfl)
    try simp only [Act.put, List.setIfInBounds_toArray, List.set_cons_zero, List.set_cons_succ]
    refine wpAnyH_take (i := 35) (oi := { dst := some 44, op := Op.build 27 #[(0, Operand.tmp 20), (1, Operand.tmp 25), (2, Operand.tmp 34), (3, Operand.tmp 43)], type := 27, pos := "law.go:40", after := #[{ on := 11, ground := Ground.data }, { on := 16, ground := Ground.data }, { on := 25, ground := Ground.data }, { on := 34, ground := Ground.data }], guard := none }) (v := ?v35) rfl (by kernel_rfl) (by kernel_rfl) (by kernel_rfl) (fun _ _ _ h => h) (Or.inl ⟨by rfl, ?hy35⟩) (by assumption) ?rest35
    case hy35 => (intro w1 hSw; (try dsimp only at hSw); obtain ⟨h0, h2, h3, h4, h6, h7, -⟩ := hSw; go_simp; try with_reducible rfl)
    try simp only [Act.put, List.setIfInBounds_toArray, List.set_cons_zero, List.set_cons_succ]
    refine wpAnyH_ready (rs := [36]) (by kernel_rfl) (by simp) ?_
    refine AllReadyH.cons (o := { dst := some 3, op := Op.alloc 27, type := 0, pos := "law.go:40", after := #[], guard := none }) rfl (fun K hK => ?_) AllReadyH.nil
    go_simp
    refine hK.out _ _ (show Tx w.heap.size t (q : Int) false s (n : Int) w0 _ from (V0d.next hb).alloc _) (fun hHeld => ?_)
    clear hK K
    try simp only [Act.put, List.setIfInBounds_toArray, List.set_cons_zero, List.set_cons_succ]
    refine wpAnyH_ready (rs := [37]) (by kernel_rfl) (by simp) ?_
    refine AllReadyH.cons (o := _) rfl (fun K hK => ?_) AllReadyH.nil
    go_simp
    refine hK.out _ _ (show Tx w.heap.size t (q : Int) false s (n : Int) w0 _ from (V0d.next hb).alloc _) (fun hHeld => ?_)
    clear hK K
    try simp only [Act.put, List.setIfInBounds_toArray, List.set_cons_zero, List.set_cons_succ]
    have R : Blk (w'.alloc (.cells #[.int .i64 (1 + (T : Int)), .string X, .int .u64 (1 + (Q : Int)), .bool false, .string (s.extract 0 M)] 27)) (w.heap.size + 1) #[.int .i64 0, .string ⟨#[]⟩, .int .u64 0, .bool false, .string ⟨#[]⟩] 27 := (Blk.below (W := w0.drew) HW0.out.2.2.1 hb HW0.out.2.2.1.lt).alloc _
    have FB : Blk (w'.alloc (.cells #[.int .i64 (1 + (T : Int)), .string X, .int .u64 (1 + (Q : Int)), .bool false, .string (s.extract 0 M)] 27)) w'.heap.size #[.int .i64 (1 + (T : Int)), .string X, .int .u64 (1 + (Q : Int)), .bool false, .string (s.extract 0 M)] 27 := Blk.new w' _ _
    have HB : Below w.heap.size w (w'.alloc (.cells #[.int .i64 (1 + (T : Int)), .string X, .int .u64 (1 + (Q : Int)), .bool false, .string (s.extract 0 M)] 27)) := (HW0.out.2.2.2.trans ((((Below.refl w0.heap.size w0).drew).trans hb).mono HW0.out.2.2.2.size)).alloc (by have := HW0.out.2.2.2.size; have := hb.size; simp only [World.drew] at *; omega) _
    have hF : w.heap.size + 1 < w'.heap.size := by have := HW0.out.2.2.1.lt; have := hb.size; simp only [World.drew] at *; omega
    refine wpAnyH_done (by kernel_rfl) ?_ _
    clear hHeld hb
    generalize w'.heap.size = F at FB hF ⊢
    generalize (w'.alloc (.cells #[.int .i64 (1 + (T : Int)), .string X, .int .u64 (1 + (Q : Int)), .bool false, .string (s.extract 0 M)] 27)) = Z at R FB HB ⊢
    have f0 : Z.cell? ⟨F, 0, none⟩ = some (.int .i64 (1 + (T : Int))) := FB.cell 0
    have f1 : Z.cell? ⟨F, 1, none⟩ = some (.string X) := FB.cell 1
    have f2 : Z.cell? ⟨F, 2, none⟩ = some (.int .u64 (1 + (Q : Int))) := FB.cell 2
    have f3 : Z.cell? ⟨F, 3, none⟩ = some (.bool false) := FB.cell 3
    have f4 : Z.cell? ⟨F, 4, none⟩ = some (.string (s.extract 0 M)) := FB.cell 4
    have ff : ∀ j, Z.frozen? ⟨F, j, none⟩ = false := FB.frozen
    have r0 : Z.cell? ⟨w.heap.size + 1, 0, none⟩ = some (.int .i64 0) := R.cell 0
    have r1 : Z.cell? ⟨w.heap.size + 1, 1, none⟩ = some (.string ⟨#[]⟩) := R.cell 1
    have r2 : Z.cell? ⟨w.heap.size + 1, 2, none⟩ = some (.int .u64 0) := R.cell 2
    have r3 : Z.cell? ⟨w.heap.size + 1, 3, none⟩ = some (.bool false) := R.cell 3
    have r4 : Z.cell? ⟨w.heap.size + 1, 4, none⟩ = some (.string ⟨#[]⟩) := R.cell 4
    have rf : ∀ j, Z.frozen? ⟨w.heap.size + 1, j, none⟩ = false := R.frozen
    go_wp2_with fail
    have RR : Blk (((((Z.setCell ⟨w.heap.size + 1, 0, none⟩ (.int .i64 (1 + (T : Int)))).setCell ⟨w.heap.size + 1, 1, none⟩ (.string X)).setCell ⟨w.heap.size + 1, 2, none⟩ (.int .u64 (1 + (Q : Int)))).setCell ⟨w.heap.size + 1, 3, none⟩ (.bool false)).setCell ⟨w.heap.size + 1, 4, none⟩ (.string (s.extract 0 M))) (w.heap.size + 1) #[.int .i64 (1 + (T : Int)), .string X, .int .u64 (1 + (Q : Int)), .bool false, .string (s.extract 0 M)] 27 := ((((R.set 0 _).set 1 _).set 2 _).set 3 _).set 4 _
    have g0 := RR.cell 0
    have g1 := RR.cell 1
    have g2 := RR.cell 2
    have g3 := RR.cell 3
    have g4 := RR.cell 4
    simp only [List.getElem?_toArray, List.getElem?_cons_zero, List.getElem?_cons_succ] at g0 g1 g2 g3 g4
    refine bodyPost_ret (v := .agg #[.int .i64 (1 + (T : Int)), .string X, .int .u64 (1 + (Q : Int)), .bool false, .string (s.extract 0 M)]) ?_ rfl ⟨rfl, ?_⟩
    · generalize (((((Z.setCell ⟨w.heap.size + 1, 0, none⟩ (.int .i64 (1 + (T : Int)))).setCell ⟨w.heap.size + 1, 1, none⟩ (.string X)).setCell ⟨w.heap.size + 1, 2, none⟩ (.int .u64 (1 + (Q : Int)))).setCell ⟨w.heap.size + 1, 3, none⟩ (.bool false)).setCell ⟨w.heap.size + 1, 4, none⟩ (.string (s.extract 0 M))) = Z2 at g0 g1 g2 g3 g4 ⊢
      simp [results, Tryz.results6, go_sem, g0, g1, g2, g3, g4]
    · exact ((((HB.setCell (by show w.heap.size ≤ w.heap.size + 1; omega) _).setCell (by show w.heap.size ≤ w.heap.size + 1; omega) _).setCell (by show w.heap.size ≤ w.heap.size + 1; omega) _).setCell (by show w.heap.size ≤ w.heap.size + 1; omega) _).setCell (by show w.heap.size ≤ w.heap.size + 1; omega) _

  · refine AllReadyH.cons (o := { dst := some 3, op := Op.alloc 27, type := 0, pos := "law.go:40", after := #[], guard := none }) rfl (fun K hK => ?_) AllReadyH.nil
    go_simp
    refine hK.out _ _ (show Tx w.heap.size t (q : Int) false s (n : Int) w0 _ from V0a _) (fun hHeld => ?_)
    clear hK K
    try simp only [Act.put, List.setIfInBounds_toArray, List.set_cons_zero, List.set_cons_succ]
    refine wpAnyH_ready (rs := [10]) (by kernel_rfl) (by simp) ?_
    refine AllReadyH.cons (o := { dst := some 19, op := Op.call { callee := Callee.value (Operand.func 19), args := #[Operand.tmp 18], argTypes := #[5] }, type := 9, pos := "law.go:40", after := #[{ on := 9, ground := Ground.data }], guard := none }) rfl (fun K hK => ?_) AllReadyH.nil
    refine step_word4 rfl 18 _ rfl (.int .u8 (n : Int)) (by rfl) X (word_any n X _ HX.out) (fun w' hb => ?_)
    have hz := z_cells hb
    obtain ⟨⟨z0, z1, z2, z3, z4⟩, y0, y1, y2, y3, y4⟩ := hz
    refine hK.out _ _ (show Tx w.heap.size t (q : Int) false s (n : Int) w0 _ from (V0a _).next hb) (fun hHeld => ?_)
    clear hK K
    try simp only [Act.put, List.setIfInBounds_toArray, List.set_cons_zero, List.set_cons_succ]
    refine wpAnyH_take (i := 11) (oi := { dst := some 20, op := Op.build 24 #[(0, Operand.tmp 16), (1, Operand.tmp 19)], type := 24, pos := "law.go:40", after := #[{ on := 7, ground := Ground.data }, { on := 10, ground := Ground.data }], guard := none }) (v := ?v36) rfl (by kernel_rfl) (by kernel_rfl) (by kernel_rfl) (fun _ _ _ h => h) (Or.inl ⟨by rfl, ?hy36⟩) (by assumption) ?rest36
    case hy36 => (intro w1 hSw; (try dsimp only at hSw); obtain ⟨h0, h2, h3, h4, h6, h7, -⟩ := hSw; go_simp; try with_reducible rfl)
    try simp only [Act.put, List.setIfInBounds_toArray, List.set_cons_zero, List.set_cons_succ]
    refine wpAnyH_take (i := 20) (oi := { dst := some 29, op := Op.move (Operand.tmp 28), type := 4, pos := "law.go:40", after := #[{ on := 19, ground := Ground.data }, { on := 10, ground := Ground.chain }], guard := none }) (v := ?v37) rfl (by kernel_rfl) (by kernel_rfl) (by kernel_rfl) (fun _ _ _ h => h) (Or.inl ⟨by rfl, ?hy37⟩) (by assumption) ?rest37
    case hy37 => (intro w1 hSw; (try dsimp only at hSw); obtain ⟨h0, h2, h3, h4, h6, h7, -⟩ := hSw; go_simp; try with_reducible rfl)
    try simp only [Act.put, List.setIfInBounds_toArray, List.set_cons_zero, List.set_cons_succ]
    refine wpAnyH_take (i := 21) (oi := { dst := some 30, op := Op.fieldAddr 29 (Operand.tmp 1) 2, type := 0, pos := "law.go:40", after := #[{ on := 20, ground := Ground.guard }], guard := some (20, true) }) (v := undef) rfl (by kernel_rfl) (by kernel_rfl) (by kernel_rfl) (fun _ _ _ h => h) (Or.inr ⟨by rfl, rfl⟩) (by assumption) ?_
    try simp only [Act.put, List.setIfInBounds_toArray, List.set_cons_zero, List.set_cons_succ]
    refine wpAnyH_take (i := 22) (oi := { dst := some 31, op := Op.load 5 (Operand.tmp 30), type := 5, pos := "law.go:40", after := #[{ on := 21, ground := Ground.data }, { on := 20, ground := Ground.guard }], guard := some (20, true) }) (v := undef) rfl (by kernel_rfl) (by kernel_rfl) (by kernel_rfl) (fun _ _ _ h => h) (Or.inr ⟨by rfl, rfl⟩) (by assumption) ?_
    try simp only [Act.put, List.setIfInBounds_toArray, List.set_cons_zero, List.set_cons_succ]
    refine wpAnyH_take (i := 23) (oi := { dst := some 32, op := Op.binOp BinOp.rem 5 (Operand.tmp 31) (Operand.const (Value.int IntKind.u8 4)) 5, type := 5, pos := "law.go:40", after := #[{ on := 22, ground := Ground.data }, { on := 20, ground := Ground.guard }], guard := some (20, true) }) (v := undef) rfl (by kernel_rfl) (by kernel_rfl) (by kernel_rfl) (fun _ _ _ h => h) (Or.inr ⟨by rfl, rfl⟩) (by assumption) ?_
    try simp only [Act.put, List.setIfInBounds_toArray, List.set_cons_zero, List.set_cons_succ]
    refine wpAnyH_take (i := 24) (oi := { dst := some 33, op := Op.binOp BinOp.eql 5 (Operand.tmp 32) (Operand.const (Value.int IntKind.u8 0)) 5, type := 4, pos := "law.go:40", after := #[{ on := 23, ground := Ground.data }, { on := 20, ground := Ground.guard }], guard := some (20, true) }) (v := undef) rfl (by kernel_rfl) (by kernel_rfl) (by kernel_rfl) (fun _ _ _ h => h) (Or.inr ⟨by rfl, rfl⟩) (by assumption) ?_
    try simp only [Act.put, List.setIfInBounds_toArray, List.set_cons_zero, List.set_cons_succ]
    refine wpAnyH_take (i := 25) (oi := { dst := some 34, op := Op.pick (Operand.tmp 29) (Operand.tmp 33) (Operand.const (Value.bool false)), type := 4, pos := "law.go:40", after := #[{ on := 20, ground := Ground.data }, { on := 24, ground := Ground.data }], guard := none }) (v := ?v42) rfl (by kernel_rfl) (by kernel_rfl) (by kernel_rfl) (fun _ _ _ h => h) (Or.inl ⟨by rfl, ?hy42⟩) (by assumption) ?rest42
    case hy42 => (intro w1 hSw; (try dsimp only at hSw); obtain ⟨h0, h2, h3, h4, h6, h7, -⟩ := hSw; go_simp; try with_reducible rfl)
    try simp only [Act.put, List.setIfInBounds_toArray, List.set_cons_zero, List.set_cons_succ]
    refine wpAnyH_take (i := 35) (oi := { dst := some 44, op := Op.build 27 #[(0, Operand.tmp 20), (1, Operand.tmp 25), (2, Operand.tmp 34), (3, Operand.tmp 43)], type := 27, pos := "law.go:40", after := #[{ on := 11, ground := Ground.data }, { on := 16, ground := Ground.data }, { on := 25, ground := Ground.data }, { on := 34, ground := Ground.data }], guard := none }) (v := ?v43) rfl (by kernel_rfl) (by kernel_rfl) (by kernel_rfl) (fun _ _ _ h => h) (Or.inl ⟨by rfl, ?hy43⟩) (by assumption) ?rest43
    case hy43 => (intro w1 hSw; (try dsimp only at hSw); obtain ⟨h0, h2, h3, h4, h6, h7, -⟩ := hSw; go_simp; try with_reducible rfl)
    try simp only [Act.put, List.setIfInBounds_toArray, List.set_cons_zero, List.set_cons_succ]
    refine wpAnyH_ready (rs := [37]) (by kernel_rfl) (by simp) ?_
    refine AllReadyH.cons (o := _) rfl (fun K hK => ?_) AllReadyH.nil
    go_simp
    refine hK.out _ _ (show Tx w.heap.size t (q : Int) false s (n : Int) w0 _ from Tx.set (Tx.set (Tx.set (Tx.set (Tx.set ((V0a _).next hb) hlt0 (Nat.le_refl _) _) hlt0 (Nat.le_refl _) _) hlt0 (Nat.le_refl _) _) hlt0 (Nat.le_refl _) _) hlt0 (Nat.le_refl _) _) (fun hHeld => ?_)
    clear hK K
    try simp only [Act.put, List.setIfInBounds_toArray, List.set_cons_zero, List.set_cons_succ]
    have hl1 : w.heap.size + 1 < w0.heap.size := HW0.out.2.2.1.lt
    have hl2 : w0.heap.size < (w0.alloc (.cells #[.int .i64 0, .string ⟨#[]⟩, .int .u64 0, .bool false, .string ⟨#[]⟩] 27)).drew.heap.size := by show w0.heap.size < (w0.alloc (.cells #[.int .i64 0, .string ⟨#[]⟩, .int .u64 0, .bool false, .string ⟨#[]⟩] 27)).heap.size; simp
    have R1 : Blk w' (w.heap.size + 1) #[.int .i64 0, .string ⟨#[]⟩, .int .u64 0, .bool false, .string ⟨#[]⟩] 27 := Blk.below (W := (w0.alloc (.cells #[.int .i64 0, .string ⟨#[]⟩, .int .u64 0, .bool false, .string ⟨#[]⟩] 27)).drew) (show Blk (w0.alloc (.cells #[.int .i64 0, .string ⟨#[]⟩, .int .u64 0, .bool false, .string ⟨#[]⟩] 27)) _ _ _ from HW0.out.2.2.1.alloc _) hb (by omega)
    have R : Blk (((((w'.setCell ⟨w0.heap.size, 0, none⟩ (.int .i64 (1 + (T : Int)))).setCell ⟨w0.heap.size, 1, none⟩ (.string X)).setCell ⟨w0.heap.size, 2, none⟩ (.int .u64 (1 + (Q : Int)))).setCell ⟨w0.heap.size, 3, none⟩ (.bool false)).setCell ⟨w0.heap.size, 4, none⟩ (.string (s.extract 0 M))) (w.heap.size + 1) #[.int .i64 0, .string ⟨#[]⟩, .int .u64 0, .bool false, .string ⟨#[]⟩] 27 := (((((R1.other (by omega) 0 _).other (by omega) 1 _).other (by omega) 2 _).other (by omega) 3 _).other (by omega) 4 _)
    have F1 : Blk w' w0.heap.size #[.int .i64 0, .string ⟨#[]⟩, .int .u64 0, .bool false, .string ⟨#[]⟩] 27 := Blk.below (W := (w0.alloc (.cells #[.int .i64 0, .string ⟨#[]⟩, .int .u64 0, .bool false, .string ⟨#[]⟩] 27)).drew) (show Blk (w0.alloc (.cells #[.int .i64 0, .string ⟨#[]⟩, .int .u64 0, .bool false, .string ⟨#[]⟩] 27)) _ _ _ from Blk.new w0 _ _) hb hl2
    have FB : Blk (((((w'.setCell ⟨w0.heap.size, 0, none⟩ (.int .i64 (1 + (T : Int)))).setCell ⟨w0.heap.size, 1, none⟩ (.string X)).setCell ⟨w0.heap.size, 2, none⟩ (.int .u64 (1 + (Q : Int)))).setCell ⟨w0.heap.size, 3, none⟩ (.bool false)).setCell ⟨w0.heap.size, 4, none⟩ (.string (s.extract 0 M))) w0.heap.size #[.int .i64 (1 + (T : Int)), .string X, .int .u64 (1 + (Q : Int)), .bool false, .string (s.extract 0 M)] 27 := (((((F1.set 0 _).set 1 _).set 2 _).set 3 _).set 4 _)
    have H1 : Below w0.heap.size w0 w' := (((Below.refl w0.heap.size w0).alloc (Nat.le_refl _) _).drew).trans (hb.mono (Nat.le_of_lt hl2))
    have HB0 : Below w.heap.size w w' := HW0.out.2.2.2.trans (H1.mono HW0.out.2.2.2.size)
    have HB : Below w.heap.size w (((((w'.setCell ⟨w0.heap.size, 0, none⟩ (.int .i64 (1 + (T : Int)))).setCell ⟨w0.heap.size, 1, none⟩ (.string X)).setCell ⟨w0.heap.size, 2, none⟩ (.int .u64 (1 + (Q : Int)))).setCell ⟨w0.heap.size, 3, none⟩ (.bool false)).setCell ⟨w0.heap.size, 4, none⟩ (.string (s.extract 0 M))) := (((((HB0.setCell (by show w.heap.size ≤ w0.heap.size; omega) _).setCell (by show w.heap.size ≤ w0.heap.size; omega) _).setCell (by show w.heap.size ≤ w0.heap.size; omega) _).setCell (by show w.heap.size ≤ w0.heap.size; omega) _).setCell (by show w.heap.size ≤ w0.heap.size; omega) _)
    have hF := hl1
    refine wpAnyH_done (by kernel_rfl) ?_ _
    clear hHeld hb z0 z1 z2 z3 z4 y0 y1 y2 y3 y4 R1 F1 H1 HB0
    generalize (((((w'.setCell ⟨w0.heap.size, 0, none⟩ (.int .i64 (1 + (T : Int)))).setCell ⟨w0.heap.size, 1, none⟩ (.string X)).setCell ⟨w0.heap.size, 2, none⟩ (.int .u64 (1 + (Q : Int)))).setCell ⟨w0.heap.size, 3, none⟩ (.bool false)).setCell ⟨w0.heap.size, 4, none⟩ (.string (s.extract 0 M))) = Z at R FB HB ⊢
    generalize w0.heap.size = F at FB hF ⊢
    have f0 : Z.cell? ⟨F, 0, none⟩ = some (.int .i64 (1 + (T : Int))) := FB.cell 0
    have f1 : Z.cell? ⟨F, 1, none⟩ = some (.string X) := FB.cell 1
    have f2 : Z.cell? ⟨F, 2, none⟩ = some (.int .u64 (1 + (Q : Int))) := FB.cell 2
    have f3 : Z.cell? ⟨F, 3, none⟩ = some (.bool false) := FB.cell 3
    have f4 : Z.cell? ⟨F, 4, none⟩ = some (.string (s.extract 0 M)) := FB.cell 4
    have ff : ∀ j, Z.frozen? ⟨F, j, none⟩ = false := FB.frozen
    have r0 : Z.cell? ⟨w.heap.size + 1, 0, none⟩ = some (.int .i64 0) := R.cell 0
    have r1 : Z.cell? ⟨w.heap.size + 1, 1, none⟩ = some (.string ⟨#[]⟩) := R.cell 1
    have r2 : Z.cell? ⟨w.heap.size + 1, 2, none⟩ = some (.int .u64 0) := R.cell 2
    have r3 : Z.cell? ⟨w.heap.size + 1, 3, none⟩ = some (.bool false) := R.cell 3
    have r4 : Z.cell? ⟨w.heap.size + 1, 4, none⟩ = some (.string ⟨#[]⟩) := R.cell 4
    have rf : ∀ j, Z.frozen? ⟨w.heap.size + 1, j, none⟩ = false := R.frozen
    go_wp2_with fail
    have RR : Blk (((((Z.setCell ⟨w.heap.size + 1, 0, none⟩ (.int .i64 (1 + (T : Int)))).setCell ⟨w.heap.size + 1, 1, none⟩ (.string X)).setCell ⟨w.heap.size + 1, 2, none⟩ (.int .u64 (1 + (Q : Int)))).setCell ⟨w.heap.size + 1, 3, none⟩ (.bool false)).setCell ⟨w.heap.size + 1, 4, none⟩ (.string (s.extract 0 M))) (w.heap.size + 1) #[.int .i64 (1 + (T : Int)), .string X, .int .u64 (1 + (Q : Int)), .bool false, .string (s.extract 0 M)] 27 := ((((R.set 0 _).set 1 _).set 2 _).set 3 _).set 4 _
    have g0 := RR.cell 0
    have g1 := RR.cell 1
    have g2 := RR.cell 2
    have g3 := RR.cell 3
    have g4 := RR.cell 4
    simp only [List.getElem?_toArray, List.getElem?_cons_zero, List.getElem?_cons_succ] at g0 g1 g2 g3 g4
    refine bodyPost_ret (v := .agg #[.int .i64 (1 + (T : Int)), .string X, .int .u64 (1 + (Q : Int)), .bool false, .string (s.extract 0 M)]) ?_ rfl ⟨rfl, ?_⟩
    · generalize (((((Z.setCell ⟨w.heap.size + 1, 0, none⟩ (.int .i64 (1 + (T : Int)))).setCell ⟨w.heap.size + 1, 1, none⟩ (.string X)).setCell ⟨w.heap.size + 1, 2, none⟩ (.int .u64 (1 + (Q : Int)))).setCell ⟨w.heap.size + 1, 3, none⟩ (.bool false)).setCell ⟨w.heap.size + 1, 4, none⟩ (.string (s.extract 0 M))) = Z2 at g0 g1 g2 g3 g4 ⊢
      simp [results, Tryz.results6, go_sem, g0, g1, g2, g3, g4]
    · exact ((((HB.setCell (by show w.heap.size ≤ w.heap.size + 1; omega) _).setCell (by show w.heap.size ≤ w.heap.size + 1; omega) _).setCell (by show w.heap.size ≤ w.heap.size + 1; omega) _).setCell (by show w.heap.size ≤ w.heap.size + 1; omega) _).setCell (by show w.heap.size ≤ w.heap.size + 1; omega) _

set_option maxRecDepth 100000 in
set_option maxHeartbeats 8000000 in
theorem thing_gt (t : Int) (x : ByteArray) (q : Nat) (s : ByteArray) (n T : Nat) (X : ByteArray) (w : World) (hT : (IntKind.u64.wrap t) % 5 = (T : Int)) (hX : wd (n % 6) = X) (hs : s.size ≤ 9223372036854775807) (M : Nat) (hM : min s.size 200 = M) (c : Bool) (hc : ((n : Int) % 4 == 0) = c) :
    Calls Tryz.prog 6 #[.agg #[.int .i64 t, .string x, .int .u64 (q : Int), .bool true, .string s, .bool true, .int .u8 (n : Int)]] w fun e w' => e = .returned (.agg #[.int .i64 (1 + (T : Int)), .string X, .int .u64 (((1 + q % 20 : Nat)) : Int), .bool c, .string (if c then ⟨#[]⟩ else s.extract 0 M)]) ∧ Below w.heap.size w w' := by
  have HX := Lib.hid hX; clear hX
  obtain ⟨Q, hQ⟩ : ∃ Q, q % 20 = Q := ⟨_, rfl⟩
  have hQi : ((q : Int) % 20) = (Q : Int) := by omega
  have hQ20 : Q < 20 := by omega
  rw [hQ]
  clear hQ
  have hb0 : Below w.heap.size w ((w.alloc (.cells #[.int .i64 t, .string x, .int .u64 (q : Int), .bool true, .string s, .bool true, .int .u8 (n : Int)] 29)).alloc (.cells #[.int .i64 0, .string ⟨#[]⟩, .int .u64 0, .bool false, .string ⟨#[]⟩] 27)) := ((Below.refl _ _).alloc (Nat.le_refl _) _).alloc (by simp) _
  obtain ⟨w0, hw0⟩ : ∃ w0, (w.alloc (.cells #[.int .i64 t, .string x, .int .u64 (q : Int), .bool true, .string s, .bool true, .int .u8 (n : Int)] 29)).alloc (.cells #[.int .i64 0, .string ⟨#[]⟩, .int .u64 0, .bool false, .string ⟨#[]⟩] 27) = w0 := ⟨_, rfl⟩
  have q0 : Blk w0 w.heap.size #[.int .i64 t, .string x, .int .u64 (q : Int), .bool true, .string s, .bool true, .int .u8 (n : Int)] 29 := by rw [← hw0]; exact (Blk.new w _ _).alloc _
  have r0 : Blk w0 (w.heap.size + 1) #[.int .i64 0, .string ⟨#[]⟩, .int .u64 0, .bool false, .string ⟨#[]⟩] 27 := by
    rw [← hw0]
    have := Blk.new (w.alloc (.cells #[.int .i64 t, .string x, .int .u64 (q : Int), .bool true, .string s, .bool true, .int .u8 (n : Int)] 29)) #[.int .i64 0, .string ⟨#[]⟩, .int .u64 0, .bool false, .string ⟨#[]⟩] 27
    simpa using this
  rw [hw0] at hb0
  have hwt : IntKind.i64.wrap (T : Int) = (T : Int) := IntWalk.i64_in _ (by omega)
  have hwt1 : IntKind.i64.wrap (1 + (T : Int)) = 1 + (T : Int) := IntWalk.i64_in _ (by omega)
  have hwq : IntKind.u64.wrap (1 + (Q : Int)) = 1 + (Q : Int) := IntWalk.u64_in _ (by omega)
  have hT' : (IntKind.u64.wrap t).tmod 5 = (T : Int) := by rw [Int.tmod_eq_emod_of_nonneg (by rw [IntKind.wrap_u64]; omega)]; exact hT
  have hQ' : ((q : Int)).tmod 20 = (Q : Int) := by rw [Int.tmod_eq_emod_of_nonneg (by omega)]; exact hQi
  have hle : (M : Int) ≤ (s.size : Int) := by omega
  have c0 : w0.cell? ⟨w.heap.size, 0, none⟩ = some (.int .i64 t) := q0.cell 0
  have c2 : w0.cell? ⟨w.heap.size, 2, none⟩ = some (.int .u64 (q : Int)) := q0.cell 2
  have c3 : w0.cell? ⟨w.heap.size, 3, none⟩ = some (.bool true) := q0.cell 3
  have c4 : w0.cell? ⟨w.heap.size, 4, none⟩ = some (.string s) := q0.cell 4
  have c6 : w0.cell? ⟨w.heap.size, 6, none⟩ = some (.int .u8 (n : Int)) := q0.cell 6
  have V0 : Tx w.heap.size t (q : Int) true s (n : Int) w0 w0 := ⟨c0, c2, c3, c4, c6, q0.lt, Below.refl _ _⟩
  have HW0 := Lib.hid (And.intro hw0 (And.intro q0 (And.intro r0 hb0))); clear hw0 q0 r0 hb0 hT hQi
  go_enter Tryz.func6, Tryz.ntmps6
  go_wp2_with fail
  rw [HW0.out.1]
  have hlt0 : w.heap.size < w0.heap.size := V0.2.2.2.2.2.1
  have V0d : Tx w.heap.size t (q : Int) true s (n : Int) w0 w0.drew := V0.next ((Below.refl _ _).drew)
  have V0a : ∀ o, Tx w.heap.size t (q : Int) true s (n : Int) w0 (w0.alloc o).drew := fun o => (V0.alloc o).next ((Below.refl _ _).drew)
  have hle' : M ≤ s.size := by omega
  have hmin : min (s.size : Int) 200 = (M : Int) := by omega
  have hmin' : min (200 : Int) (s.size : Int) = (M : Int) := by omega
  have hc' : ((n : Int).tmod 4 == 0) = c := by rw [Int.tmod_eq_emod_of_nonneg (by omega)]; exact hc
  refine wp_region_held_drew (S := (fun w' => w'.cell? ⟨w.heap.size, 0, none⟩ = some (.int .i64 t) ∧ w'.cell? ⟨w.heap.size, 2, none⟩ = some (.int .u64 (q : Int)) ∧ w'.cell? ⟨w.heap.size, 3, none⟩ = some (.bool true) ∧ w'.cell? ⟨w.heap.size, 4, none⟩ = some (.string s) ∧ w'.cell? ⟨w.heap.size, 6, none⟩ = some (.int .u8 (n : Int)) ∧ w.heap.size < w'.heap.size ∧ Below w0.heap.size w0 w')) (by kernel_rfl) (show Tx w.heap.size t (q : Int) true s (n : Int) w0 _ from V0d) (fun hHeld => ?_)
  refine wpAnyH_take (i := 0) (oi := { dst := some 9, op := Op.fieldAddr 29 (Operand.tmp 1) 0, type := 0, pos := "law.go:40", after := #[], guard := none }) (v := ?v1) rfl (by kernel_rfl) (by kernel_rfl) (by kernel_rfl) (fun _ _ _ h => h) (Or.inl ⟨by rfl, ?hy1⟩) (by assumption) ?rest1
  case hy1 => (intro w1 hSw; (try dsimp only at hSw); obtain ⟨h0, h2, h3, h4, h6, h7, -⟩ := hSw; go_simp; try with_reducible rfl)
  try simp only [Act.put, List.setIfInBounds_toArray, List.set_cons_zero, List.set_cons_succ]
  refine wpAnyH_take (i := 1) (oi := { dst := some 10, op := Op.fieldAddr 27 (Operand.tmp 9) 0, type := 0, pos := "law.go:40", after := #[{ on := 0, ground := Ground.data }], guard := none }) (v := ?v2) rfl (by kernel_rfl) (by kernel_rfl) (by kernel_rfl) (fun _ _ _ h => h) (Or.inl ⟨by rfl, ?hy2⟩) (by assumption) ?rest2
  case hy2 => (intro w1 hSw; (try dsimp only at hSw); obtain ⟨h0, h2, h3, h4, h6, h7, -⟩ := hSw; go_simp; try with_reducible rfl)
  try simp only [Act.put, List.setIfInBounds_toArray, List.set_cons_zero, List.set_cons_succ]
  refine wpAnyH_take (i := 2) (oi := { dst := some 11, op := Op.fieldAddr 24 (Operand.tmp 10) 0, type := 0, pos := "law.go:40", after := #[{ on := 1, ground := Ground.data }], guard := none }) (v := ?v3) rfl (by kernel_rfl) (by kernel_rfl) (by kernel_rfl) (fun _ _ _ h => h) (Or.inl ⟨by rfl, ?hy3⟩) (by assumption) ?rest3
  case hy3 => (intro w1 hSw; (try dsimp only at hSw); obtain ⟨h0, h2, h3, h4, h6, h7, -⟩ := hSw; go_simp; try with_reducible rfl)
  try simp only [Act.put, List.setIfInBounds_toArray, List.set_cons_zero, List.set_cons_succ]
  refine wpAnyH_take (i := 3) (oi := { dst := some 12, op := Op.load 3 (Operand.tmp 11), type := 3, pos := "law.go:40", after := #[{ on := 2, ground := Ground.data }], guard := none }) (v := ?v4) rfl (by kernel_rfl) (by kernel_rfl) (by kernel_rfl) (fun _ _ _ h => h) (Or.inl ⟨by rfl, ?hy4⟩) (by assumption) ?rest4
  case hy4 => (intro w1 hSw; (try dsimp only at hSw); obtain ⟨h0, h2, h3, h4, h6, h7, -⟩ := hSw; go_simp; try with_reducible rfl)
  try simp only [Act.put, List.setIfInBounds_toArray, List.set_cons_zero, List.set_cons_succ]
  refine wpAnyH_take (i := 4) (oi := { dst := some 13, op := Op.convert 3 45 (Operand.tmp 12), type := 45, pos := "law.go:40", after := #[{ on := 3, ground := Ground.data }], guard := none }) (v := ?v5) rfl (by kernel_rfl) (by kernel_rfl) (by kernel_rfl) (fun _ _ _ h => h) (Or.inl ⟨by rfl, ?hy5⟩) (by assumption) ?rest5
  case hy5 => (intro w1 hSw; (try dsimp only at hSw); obtain ⟨h0, h2, h3, h4, h6, h7, -⟩ := hSw; go_simp; try with_reducible rfl)
  try simp only [Act.put, List.setIfInBounds_toArray, List.set_cons_zero, List.set_cons_succ]
  refine wpAnyH_take (i := 5) (oi := { dst := some 14, op := Op.binOp BinOp.rem 45 (Operand.tmp 13) (Operand.const (Value.int IntKind.u64 5)) 45, type := 45, pos := "law.go:40", after := #[{ on := 4, ground := Ground.data }], guard := none }) (v := ?v6) rfl (by kernel_rfl) (by kernel_rfl) (by kernel_rfl) (fun _ _ _ h => h) (Or.inl ⟨by rfl, ?hy6⟩) (by assumption) ?rest6
  case hy6 => (intro w1 hSw; (try dsimp only at hSw); obtain ⟨h0, h2, h3, h4, h6, h7, -⟩ := hSw; go_simp; try with_reducible rfl)
  try simp only [Act.put, List.setIfInBounds_toArray, List.set_cons_zero, List.set_cons_succ]
  refine wpAnyH_take (i := 6) (oi := { dst := some 15, op := Op.convert 45 3 (Operand.tmp 14), type := 3, pos := "law.go:40", after := #[{ on := 5, ground := Ground.data }], guard := none }) (v := ?v7) rfl (by kernel_rfl) (by kernel_rfl) (by kernel_rfl) (fun _ _ _ h => h) (Or.inl ⟨by rfl, ?hy7⟩) (by assumption) ?rest7
  case hy7 => (intro w1 hSw; (try dsimp only at hSw); obtain ⟨h0, h2, h3, h4, h6, h7, -⟩ := hSw; go_simp; try with_reducible rfl)
  try simp only [Act.put, List.setIfInBounds_toArray, List.set_cons_zero, List.set_cons_succ]
  refine wpAnyH_take (i := 7) (oi := { dst := some 16, op := Op.binOp BinOp.add 3 (Operand.const (Value.int IntKind.i64 1)) (Operand.tmp 15) 3, type := 3, pos := "law.go:40", after := #[{ on := 6, ground := Ground.data }], guard := none }) (v := ?v8) rfl (by kernel_rfl) (by kernel_rfl) (by kernel_rfl) (fun _ _ _ h => h) (Or.inl ⟨by rfl, ?hy8⟩) (by assumption) ?rest8
  case hy8 => (intro w1 hSw; (try dsimp only at hSw); obtain ⟨h0, h2, h3, h4, h6, h7, -⟩ := hSw; go_simp; try with_reducible rfl)
  try simp only [Act.put, List.setIfInBounds_toArray, List.set_cons_zero, List.set_cons_succ]
  refine wpAnyH_take (i := 8) (oi := { dst := some 17, op := Op.fieldAddr 29 (Operand.tmp 1) 2, type := 0, pos := "law.go:40", after := #[], guard := none }) (v := ?v9) rfl (by kernel_rfl) (by kernel_rfl) (by kernel_rfl) (fun _ _ _ h => h) (Or.inl ⟨by rfl, ?hy9⟩) (by assumption) ?rest9
  case hy9 => (intro w1 hSw; (try dsimp only at hSw); obtain ⟨h0, h2, h3, h4, h6, h7, -⟩ := hSw; go_simp; try with_reducible rfl)
  try simp only [Act.put, List.setIfInBounds_toArray, List.set_cons_zero, List.set_cons_succ]
  refine wpAnyH_take (i := 9) (oi := { dst := some 18, op := Op.load 5 (Operand.tmp 17), type := 5, pos := "law.go:40", after := #[{ on := 8, ground := Ground.data }], guard := none }) (v := ?v10) rfl (by kernel_rfl) (by kernel_rfl) (by kernel_rfl) (fun _ _ _ h => h) (Or.inl ⟨by rfl, ?hy10⟩) (by assumption) ?rest10
  case hy10 => (intro w1 hSw; (try dsimp only at hSw); obtain ⟨h0, h2, h3, h4, h6, h7, -⟩ := hSw; go_simp; try with_reducible rfl)
  try simp only [Act.put, List.setIfInBounds_toArray, List.set_cons_zero, List.set_cons_succ]
  refine wpAnyH_take (i := 12) (oi := { dst := some 21, op := Op.fieldAddr 29 (Operand.tmp 1) 0, type := 0, pos := "law.go:40", after := #[], guard := none }) (v := ?v11) rfl (by kernel_rfl) (by kernel_rfl) (by kernel_rfl) (fun _ _ _ h => h) (Or.inl ⟨by rfl, ?hy11⟩) (by assumption) ?rest11
  case hy11 => (intro w1 hSw; (try dsimp only at hSw); obtain ⟨h0, h2, h3, h4, h6, h7, -⟩ := hSw; go_simp; try with_reducible rfl)
  try simp only [Act.put, List.setIfInBounds_toArray, List.set_cons_zero, List.set_cons_succ]
  refine wpAnyH_take (i := 13) (oi := { dst := some 22, op := Op.fieldAddr 27 (Operand.tmp 21) 1, type := 0, pos := "law.go:40", after := #[{ on := 12, ground := Ground.data }], guard := none }) (v := ?v12) rfl (by kernel_rfl) (by kernel_rfl) (by kernel_rfl) (fun _ _ _ h => h) (Or.inl ⟨by rfl, ?hy12⟩) (by assumption) ?rest12
  case hy12 => (intro w1 hSw; (try dsimp only at hSw); obtain ⟨h0, h2, h3, h4, h6, h7, -⟩ := hSw; go_simp; try with_reducible rfl)
  try simp only [Act.put, List.setIfInBounds_toArray, List.set_cons_zero, List.set_cons_succ]
  refine wpAnyH_take (i := 14) (oi := { dst := some 23, op := Op.load 25 (Operand.tmp 22), type := 25, pos := "law.go:40", after := #[{ on := 13, ground := Ground.data }], guard := none }) (v := ?v13) rfl (by kernel_rfl) (by kernel_rfl) (by kernel_rfl) (fun _ _ _ h => h) (Or.inl ⟨by rfl, ?hy13⟩) (by assumption) ?rest13
  case hy13 => (intro w1 hSw; (try dsimp only at hSw); obtain ⟨h0, h2, h3, h4, h6, h7, -⟩ := hSw; go_simp; try with_reducible rfl)
  try simp only [Act.put, List.setIfInBounds_toArray, List.set_cons_zero, List.set_cons_succ]
  refine wpAnyH_take (i := 15) (oi := { dst := some 24, op := Op.binOp BinOp.rem 25 (Operand.tmp 23) (Operand.const (Value.int IntKind.u64 20)) 25, type := 25, pos := "law.go:40", after := #[{ on := 14, ground := Ground.data }], guard := none }) (v := ?v14) rfl (by kernel_rfl) (by kernel_rfl) (by kernel_rfl) (fun _ _ _ h => h) (Or.inl ⟨by rfl, ?hy14⟩) (by assumption) ?rest14
  case hy14 => (intro w1 hSw; (try dsimp only at hSw); obtain ⟨h0, h2, h3, h4, h6, h7, -⟩ := hSw; go_simp; try with_reducible rfl)
  try simp only [Act.put, List.setIfInBounds_toArray, List.set_cons_zero, List.set_cons_succ]
  refine wpAnyH_take (i := 16) (oi := { dst := some 25, op := Op.binOp BinOp.add 25 (Operand.const (Value.int IntKind.u64 1)) (Operand.tmp 24) 25, type := 25, pos := "law.go:40", after := #[{ on := 15, ground := Ground.data }], guard := none }) (v := ?v15) rfl (by kernel_rfl) (by kernel_rfl) (by kernel_rfl) (fun _ _ _ h => h) (Or.inl ⟨by rfl, ?hy15⟩) (by assumption) ?rest15
  case hy15 => (intro w1 hSw; (try dsimp only at hSw); obtain ⟨h0, h2, h3, h4, h6, h7, -⟩ := hSw; go_simp; try with_reducible rfl)
  try simp only [Act.put, List.setIfInBounds_toArray, List.set_cons_zero, List.set_cons_succ]
  refine wpAnyH_take (i := 17) (oi := { dst := some 26, op := Op.fieldAddr 29 (Operand.tmp 1) 0, type := 0, pos := "law.go:40", after := #[], guard := none }) (v := ?v16) rfl (by kernel_rfl) (by kernel_rfl) (by kernel_rfl) (fun _ _ _ h => h) (Or.inl ⟨by rfl, ?hy16⟩) (by assumption) ?rest16
  case hy16 => (intro w1 hSw; (try dsimp only at hSw); obtain ⟨h0, h2, h3, h4, h6, h7, -⟩ := hSw; go_simp; try with_reducible rfl)
  try simp only [Act.put, List.setIfInBounds_toArray, List.set_cons_zero, List.set_cons_succ]
  refine wpAnyH_take (i := 18) (oi := { dst := some 27, op := Op.fieldAddr 27 (Operand.tmp 26) 2, type := 0, pos := "law.go:40", after := #[{ on := 17, ground := Ground.data }], guard := none }) (v := ?v17) rfl (by kernel_rfl) (by kernel_rfl) (by kernel_rfl) (fun _ _ _ h => h) (Or.inl ⟨by rfl, ?hy17⟩) (by assumption) ?rest17
  case hy17 => (intro w1 hSw; (try dsimp only at hSw); obtain ⟨h0, h2, h3, h4, h6, h7, -⟩ := hSw; go_simp; try with_reducible rfl)
  try simp only [Act.put, List.setIfInBounds_toArray, List.set_cons_zero, List.set_cons_succ]
  refine wpAnyH_take (i := 19) (oi := { dst := some 28, op := Op.load 4 (Operand.tmp 27), type := 4, pos := "law.go:40", after := #[{ on := 18, ground := Ground.data }], guard := none }) (v := ?v18) rfl (by kernel_rfl) (by kernel_rfl) (by kernel_rfl) (fun _ _ _ h => h) (Or.inl ⟨by rfl, ?hy18⟩) (by assumption) ?rest18
  case hy18 => (intro w1 hSw; (try dsimp only at hSw); obtain ⟨h0, h2, h3, h4, h6, h7, -⟩ := hSw; go_simp; try with_reducible rfl)
  try simp only [Act.put, List.setIfInBounds_toArray, List.set_cons_zero, List.set_cons_succ]
  refine wpAnyH_take (i := 26) (oi := { dst := some 35, op := Op.fieldAddr 29 (Operand.tmp 1) 0, type := 0, pos := "law.go:40", after := #[], guard := none }) (v := ?v19) rfl (by kernel_rfl) (by kernel_rfl) (by kernel_rfl) (fun _ _ _ h => h) (Or.inl ⟨by rfl, ?hy19⟩) (by assumption) ?rest19
  case hy19 => (intro w1 hSw; (try dsimp only at hSw); obtain ⟨h0, h2, h3, h4, h6, h7, -⟩ := hSw; go_simp; try with_reducible rfl)
  try simp only [Act.put, List.setIfInBounds_toArray, List.set_cons_zero, List.set_cons_succ]
  refine wpAnyH_take (i := 27) (oi := { dst := some 36, op := Op.fieldAddr 27 (Operand.tmp 35) 3, type := 0, pos := "law.go:40", after := #[{ on := 26, ground := Ground.data }], guard := none }) (v := ?v20) rfl (by kernel_rfl) (by kernel_rfl) (by kernel_rfl) (fun _ _ _ h => h) (Or.inl ⟨by rfl, ?hy20⟩) (by assumption) ?rest20
  case hy20 => (intro w1 hSw; (try dsimp only at hSw); obtain ⟨h0, h2, h3, h4, h6, h7, -⟩ := hSw; go_simp; try with_reducible rfl)
  try simp only [Act.put, List.setIfInBounds_toArray, List.set_cons_zero, List.set_cons_succ]
  refine wpAnyH_take (i := 28) (oi := { dst := some 37, op := Op.load 9 (Operand.tmp 36), type := 9, pos := "law.go:40", after := #[{ on := 27, ground := Ground.data }], guard := none }) (v := ?v21) rfl (by kernel_rfl) (by kernel_rfl) (by kernel_rfl) (fun _ _ _ h => h) (Or.inl ⟨by rfl, ?hy21⟩) (by assumption) ?rest21
  case hy21 => (intro w1 hSw; (try dsimp only at hSw); obtain ⟨h0, h2, h3, h4, h6, h7, -⟩ := hSw; go_simp; try with_reducible rfl)
  try simp only [Act.put, List.setIfInBounds_toArray, List.set_cons_zero, List.set_cons_succ]
  refine wpAnyH_take (i := 29) (oi := { dst := some 38, op := Op.fieldAddr 29 (Operand.tmp 1) 0, type := 0, pos := "law.go:40", after := #[], guard := none }) (v := ?v22) rfl (by kernel_rfl) (by kernel_rfl) (by kernel_rfl) (fun _ _ _ h => h) (Or.inl ⟨by rfl, ?hy22⟩) (by assumption) ?rest22
  case hy22 => (intro w1 hSw; (try dsimp only at hSw); obtain ⟨h0, h2, h3, h4, h6, h7, -⟩ := hSw; go_simp; try with_reducible rfl)
  try simp only [Act.put, List.setIfInBounds_toArray, List.set_cons_zero, List.set_cons_succ]
  refine wpAnyH_take (i := 30) (oi := { dst := some 39, op := Op.fieldAddr 27 (Operand.tmp 38) 3, type := 0, pos := "law.go:40", after := #[{ on := 29, ground := Ground.data }], guard := none }) (v := ?v23) rfl (by kernel_rfl) (by kernel_rfl) (by kernel_rfl) (fun _ _ _ h => h) (Or.inl ⟨by rfl, ?hy23⟩) (by assumption) ?rest23
  case hy23 => (intro w1 hSw; (try dsimp only at hSw); obtain ⟨h0, h2, h3, h4, h6, h7, -⟩ := hSw; go_simp; try with_reducible rfl)
  try simp only [Act.put, List.setIfInBounds_toArray, List.set_cons_zero, List.set_cons_succ]
  refine wpAnyH_take (i := 31) (oi := { dst := some 40, op := Op.load 9 (Operand.tmp 39), type := 9, pos := "law.go:40", after := #[{ on := 30, ground := Ground.data }], guard := none }) (v := ?v24) rfl (by kernel_rfl) (by kernel_rfl) (by kernel_rfl) (fun _ _ _ h => h) (Or.inl ⟨by rfl, ?hy24⟩) (by assumption) ?rest24
  case hy24 => (intro w1 hSw; (try dsimp only at hSw); obtain ⟨h0, h2, h3, h4, h6, h7, -⟩ := hSw; go_simp; try with_reducible rfl)
  try simp only [Act.put, List.setIfInBounds_toArray, List.set_cons_zero, List.set_cons_succ]
  refine wpAnyH_take (i := 32) (oi := { dst := some 41, op := Op.call { callee := Callee.builtin Builtin.len, args := #[Operand.tmp 40], argTypes := #[9] }, type := 3, pos := "law.go:40", after := #[{ on := 31, ground := Ground.data }], guard := none }) (v := ?v25) rfl (by kernel_rfl) (by kernel_rfl) (by kernel_rfl) (fun _ _ _ h => h) (Or.inl ⟨by rfl, ?hy25⟩) (by assumption) ?rest25
  case hy25 => (intro w1 hSw; (try dsimp only at hSw); obtain ⟨h0, h2, h3, h4, h6, h7, -⟩ := hSw; go_simp; try with_reducible rfl)
  try simp only [Act.put, List.setIfInBounds_toArray, List.set_cons_zero, List.set_cons_succ]
  refine wpAnyH_take (i := 33) (oi := { dst := some 42, op := Op.call { callee := Callee.builtin Builtin.min, args := #[Operand.tmp 41, Operand.const (Value.int IntKind.i64 200)], argTypes := #[3, 3] }, type := 3, pos := "law.go:40", after := #[{ on := 32, ground := Ground.data }], guard := none }) (v := ?v26) rfl (by kernel_rfl) (by kernel_rfl) (by kernel_rfl) (fun _ _ _ h => h) (Or.inl ⟨by rfl, ?hy26⟩) (by assumption) ?rest26
  case hy26 => (intro w1 hSw; (try dsimp only at hSw); obtain ⟨h0, h2, h3, h4, h6, h7, -⟩ := hSw; go_simp; try with_reducible rfl)
  try simp only [Act.put, List.setIfInBounds_toArray, List.set_cons_zero, List.set_cons_succ]
  refine wpAnyH_take (i := 34) (oi := { dst := some 43, op := Op.slice 9 (Operand.tmp 37) none (some (Operand.tmp 42)) none, type := 9, pos := "law.go:40", after := #[{ on := 28, ground := Ground.data }, { on := 33, ground := Ground.data }], guard := none }) (v := ?v27) rfl (by kernel_rfl) (by kernel_rfl) (by kernel_rfl) (fun _ _ _ h => h) (Or.inl ⟨by rfl, ?hy27⟩) (by assumption) ?rest27
  case hy27 => (intro w1 hSw; (try dsimp only at hSw); obtain ⟨h0, h2, h3, h4, h6, h7, -⟩ := hSw; go_simp; try with_reducible rfl)
  try simp only [Act.put, List.setIfInBounds_toArray, List.set_cons_zero, List.set_cons_succ]
  refine wpAnyH_ready (rs := [10, 36]) (by kernel_rfl) (by simp) ?_
  refine AllReadyH.cons (o := { dst := some 19, op := Op.call { callee := Callee.value (Operand.func 19), args := #[Operand.tmp 18], argTypes := #[5] }, type := 9, pos := "law.go:40", after := #[{ on := 9, ground := Ground.data }], guard := none }) rfl (fun K hK => ?_) ?_
  · refine step_word4 rfl 18 _ rfl (.int .u8 (n : Int)) (by rfl) X (word_any n X _ HX.out) (fun w' hb => ?_)
    refine hK.out _ _ (show Tx w.heap.size t (q : Int) true s (n : Int) w0 _ from V0d.next hb) (fun hHeld => ?_)
    clear hK K
    try simp only [Act.put, List.setIfInBounds_toArray, List.set_cons_zero, List.set_cons_succ]
    refine wpAnyH_take (i := 11) (oi := { dst := some 20, op := Op.build 24 #[(0, Operand.tmp 16), (1, Operand.tmp 19)], type := 24, pos := "law.go:40", after := #[{ on := 7, ground := Ground.data }, { on := 10, ground := Ground.data }], guard := none }) (v := ?v28) rfl (by kernel_rfl) (by kernel_rfl) (by kernel_rfl) (fun _ _ _ h => h) (Or.inl ⟨by rfl, ?hy28⟩) (by assumption) ?rest28
    case hy28 => (intro w1 hSw; (try dsimp only at hSw); obtain ⟨h0, h2, h3, h4, h6, h7, -⟩ := hSw; go_simp; try with_reducible rfl)
    try simp only [Act.put, List.setIfInBounds_toArray, List.set_cons_zero, List.set_cons_succ]
    refine wpAnyH_take (i := 20) (oi := { dst := some 29, op := Op.move (Operand.tmp 28), type := 4, pos := "law.go:40", after := #[{ on := 19, ground := Ground.data }, { on := 10, ground := Ground.chain }], guard := none }) (v := ?v29) rfl (by kernel_rfl) (by kernel_rfl) (by kernel_rfl) (fun _ _ _ h => h) (Or.inl ⟨by rfl, ?hy29⟩) (by assumption) ?rest29
    case hy29 => (intro w1 hSw; (try dsimp only at hSw); obtain ⟨h0, h2, h3, h4, h6, h7, -⟩ := hSw; go_simp; try with_reducible rfl)
    try simp only [Act.put, List.setIfInBounds_toArray, List.set_cons_zero, List.set_cons_succ]
    refine wpAnyH_take (i := 21) (oi := { dst := some 30, op := Op.fieldAddr 29 (Operand.tmp 1) 2, type := 0, pos := "law.go:40", after := #[{ on := 20, ground := Ground.guard }], guard := some (20, true) }) (v := ?v30) rfl (by kernel_rfl) (by kernel_rfl) (by kernel_rfl) (fun _ _ _ h => h) (Or.inl ⟨by rfl, ?hy30⟩) (by assumption) ?rest30
    case hy30 => (intro w1 hSw; (try dsimp only at hSw); obtain ⟨h0, h2, h3, h4, h6, h7, -⟩ := hSw; go_simp; try with_reducible rfl)
    try simp only [Act.put, List.setIfInBounds_toArray, List.set_cons_zero, List.set_cons_succ]
    refine wpAnyH_take (i := 22) (oi := { dst := some 31, op := Op.load 5 (Operand.tmp 30), type := 5, pos := "law.go:40", after := #[{ on := 21, ground := Ground.data }, { on := 20, ground := Ground.guard }], guard := some (20, true) }) (v := ?v31) rfl (by kernel_rfl) (by kernel_rfl) (by kernel_rfl) (fun _ _ _ h => h) (Or.inl ⟨by rfl, ?hy31⟩) (by assumption) ?rest31
    case hy31 => (intro w1 hSw; (try dsimp only at hSw); obtain ⟨h0, h2, h3, h4, h6, h7, -⟩ := hSw; go_simp; try with_reducible rfl)
    try simp only [Act.put, List.setIfInBounds_toArray, List.set_cons_zero, List.set_cons_succ]
    refine wpAnyH_take (i := 23) (oi := { dst := some 32, op := Op.binOp BinOp.rem 5 (Operand.tmp 31) (Operand.const (Value.int IntKind.u8 4)) 5, type := 5, pos := "law.go:40", after := #[{ on := 22, ground := Ground.data }, { on := 20, ground := Ground.guard }], guard := some (20, true) }) (v := ?v32) rfl (by kernel_rfl) (by kernel_rfl) (by kernel_rfl) (fun _ _ _ h => h) (Or.inl ⟨by rfl, ?hy32⟩) (by assumption) ?rest32
    case hy32 => (intro w1 hSw; (try dsimp only at hSw); obtain ⟨h0, h2, h3, h4, h6, h7, -⟩ := hSw; go_simp; try with_reducible rfl)
    try simp only [Act.put, List.setIfInBounds_toArray, List.set_cons_zero, List.set_cons_succ]
    refine wpAnyH_take (i := 24) (oi := { dst := some 33, op := Op.binOp BinOp.eql 5 (Operand.tmp 32) (Operand.const (Value.int IntKind.u8 0)) 5, type := 4, pos := "law.go:40", after := #[{ on := 23, ground := Ground.data }, { on := 20, ground := Ground.guard }], guard := some (20, true) }) (v := ?v33) rfl (by kernel_rfl) (by kernel_rfl) (by kernel_rfl) (fun _ _ _ h => h) (Or.inl ⟨by rfl, ?hy33⟩) (by assumption) ?rest33
    case hy33 => (intro w1 hSw; (try dsimp only at hSw); obtain ⟨h0, h2, h3, h4, h6, h7, -⟩ := hSw; go_simp; try with_reducible rfl)
    try simp only [Act.put, List.setIfInBounds_toArray, List.set_cons_zero, List.set_cons_succ]
    refine wpAnyH_take (i := 25) (oi := { dst := some 34, op := Op.pick (Operand.tmp 29) (Operand.tmp 33) (Operand.const (Value.bool false)), type := 4, pos := "law.go:40", after := #[{ on := 20, ground := Ground.data }, { on := 24, ground := Ground.data }], guard := none }) (v := ?v34) rfl (by kernel_rfl) (by kernel_rfl) (by kernel_rfl) (fun _ _ _ h => h) (Or.inl ⟨by rfl, ?hy34⟩) (by assumption) ?rest34
    case hy34 => (intro w1 hSw; (try dsimp only at hSw); obtain ⟨h0, h2, h3, h4, h6, h7, -⟩ := hSw; go_simp; try with_reducible rfl)
    try simp only [Act.put, List.setIfInBounds_toArray, List.set_cons_zero, List.set_cons_succ]
    refine wpAnyH_take (i := 35) (oi := { dst := some 44, op := Op.build 27 #[(0, Operand.tmp 20), (1, Operand.tmp 25), (2, Operand.tmp 34), (3, Operand.tmp 43)], type := 27, pos := "law.go:40", after := #[{ on := 11, ground := Ground.data }, { on := 16, ground := Ground.data }, { on := 25, ground := Ground.data }, { on := 34, ground := Ground.data }], guard := none }) (v := ?v35) rfl (by kernel_rfl) (by kernel_rfl) (by kernel_rfl) (fun _ _ _ h => h) (Or.inl ⟨by rfl, ?hy35⟩) (by assumption) ?rest35
    case hy35 => (intro w1 hSw; (try dsimp only at hSw); obtain ⟨h0, h2, h3, h4, h6, h7, -⟩ := hSw; go_simp; try with_reducible rfl)
    try simp only [Act.put, List.setIfInBounds_toArray, List.set_cons_zero, List.set_cons_succ]
    refine wpAnyH_ready (rs := [36]) (by kernel_rfl) (by simp) ?_
    refine AllReadyH.cons (o := { dst := some 3, op := Op.alloc 27, type := 0, pos := "law.go:40", after := #[], guard := none }) rfl (fun K hK => ?_) AllReadyH.nil
    go_simp
    refine hK.out _ _ (show Tx w.heap.size t (q : Int) true s (n : Int) w0 _ from (V0d.next hb).alloc _) (fun hHeld => ?_)
    clear hK K
    try simp only [Act.put, List.setIfInBounds_toArray, List.set_cons_zero, List.set_cons_succ]
    refine wpAnyH_ready (rs := [37]) (by kernel_rfl) (by simp) ?_
    refine AllReadyH.cons (o := _) rfl (fun K hK => ?_) AllReadyH.nil
    go_simp
    refine hK.out _ _ (show Tx w.heap.size t (q : Int) true s (n : Int) w0 _ from (V0d.next hb).alloc _) (fun hHeld => ?_)
    clear hK K
    try simp only [Act.put, List.setIfInBounds_toArray, List.set_cons_zero, List.set_cons_succ]
    have R : Blk (w'.alloc (.cells #[.int .i64 (1 + (T : Int)), .string X, .int .u64 (1 + (Q : Int)), .bool c, .string (s.extract 0 M)] 27)) (w.heap.size + 1) #[.int .i64 0, .string ⟨#[]⟩, .int .u64 0, .bool false, .string ⟨#[]⟩] 27 := (Blk.below (W := w0.drew) HW0.out.2.2.1 hb HW0.out.2.2.1.lt).alloc _
    have FB : Blk (w'.alloc (.cells #[.int .i64 (1 + (T : Int)), .string X, .int .u64 (1 + (Q : Int)), .bool c, .string (s.extract 0 M)] 27)) w'.heap.size #[.int .i64 (1 + (T : Int)), .string X, .int .u64 (1 + (Q : Int)), .bool c, .string (s.extract 0 M)] 27 := Blk.new w' _ _
    have HB : Below w.heap.size w (w'.alloc (.cells #[.int .i64 (1 + (T : Int)), .string X, .int .u64 (1 + (Q : Int)), .bool c, .string (s.extract 0 M)] 27)) := (HW0.out.2.2.2.trans ((((Below.refl w0.heap.size w0).drew).trans hb).mono HW0.out.2.2.2.size)).alloc (by have := HW0.out.2.2.2.size; have := hb.size; simp only [World.drew] at *; omega) _
    have hF : w.heap.size + 1 < w'.heap.size := by have := HW0.out.2.2.1.lt; have := hb.size; simp only [World.drew] at *; omega
    refine wpAnyH_done (by kernel_rfl) ?_ _
    clear hHeld hb
    generalize w'.heap.size = F at FB hF ⊢
    generalize (w'.alloc (.cells #[.int .i64 (1 + (T : Int)), .string X, .int .u64 (1 + (Q : Int)), .bool c, .string (s.extract 0 M)] 27)) = Z at R FB HB ⊢
    have f0 : Z.cell? ⟨F, 0, none⟩ = some (.int .i64 (1 + (T : Int))) := FB.cell 0
    have f1 : Z.cell? ⟨F, 1, none⟩ = some (.string X) := FB.cell 1
    have f2 : Z.cell? ⟨F, 2, none⟩ = some (.int .u64 (1 + (Q : Int))) := FB.cell 2
    have f3 : Z.cell? ⟨F, 3, none⟩ = some (.bool c) := FB.cell 3
    have f4 : Z.cell? ⟨F, 4, none⟩ = some (.string (s.extract 0 M)) := FB.cell 4
    have ff : ∀ j, Z.frozen? ⟨F, j, none⟩ = false := FB.frozen
    have r0 : Z.cell? ⟨w.heap.size + 1, 0, none⟩ = some (.int .i64 0) := R.cell 0
    have r1 : Z.cell? ⟨w.heap.size + 1, 1, none⟩ = some (.string ⟨#[]⟩) := R.cell 1
    have r2 : Z.cell? ⟨w.heap.size + 1, 2, none⟩ = some (.int .u64 0) := R.cell 2
    have r3 : Z.cell? ⟨w.heap.size + 1, 3, none⟩ = some (.bool false) := R.cell 3
    have r4 : Z.cell? ⟨w.heap.size + 1, 4, none⟩ = some (.string ⟨#[]⟩) := R.cell 4
    have rf : ∀ j, Z.frozen? ⟨w.heap.size + 1, j, none⟩ = false := R.frozen
    cases c
    · go_wp2_with fail
      have RR : Blk (((((Z.setCell ⟨w.heap.size + 1, 0, none⟩ (.int .i64 (1 + (T : Int)))).setCell ⟨w.heap.size + 1, 1, none⟩ (.string X)).setCell ⟨w.heap.size + 1, 2, none⟩ (.int .u64 (1 + (Q : Int)))).setCell ⟨w.heap.size + 1, 3, none⟩ (.bool false)).setCell ⟨w.heap.size + 1, 4, none⟩ (.string (s.extract 0 M))) (w.heap.size + 1) #[.int .i64 (1 + (T : Int)), .string X, .int .u64 (1 + (Q : Int)), .bool false, .string (s.extract 0 M)] 27 := ((((R.set 0 _).set 1 _).set 2 _).set 3 _).set 4 _
      have g0 := RR.cell 0
      have g1 := RR.cell 1
      have g2 := RR.cell 2
      have g3 := RR.cell 3
      have g4 := RR.cell 4
      simp only [List.getElem?_toArray, List.getElem?_cons_zero, List.getElem?_cons_succ] at g0 g1 g2 g3 g4
      refine bodyPost_ret (v := .agg #[.int .i64 (1 + (T : Int)), .string X, .int .u64 (1 + (Q : Int)), .bool false, .string (s.extract 0 M)]) ?_ rfl ⟨rfl, ?_⟩
      · generalize (((((Z.setCell ⟨w.heap.size + 1, 0, none⟩ (.int .i64 (1 + (T : Int)))).setCell ⟨w.heap.size + 1, 1, none⟩ (.string X)).setCell ⟨w.heap.size + 1, 2, none⟩ (.int .u64 (1 + (Q : Int)))).setCell ⟨w.heap.size + 1, 3, none⟩ (.bool false)).setCell ⟨w.heap.size + 1, 4, none⟩ (.string (s.extract 0 M))) = Z2 at g0 g1 g2 g3 g4 ⊢
        simp [results, Tryz.results6, go_sem, g0, g1, g2, g3, g4]
      · exact ((((HB.setCell (by show w.heap.size ≤ w.heap.size + 1; omega) _).setCell (by show w.heap.size ≤ w.heap.size + 1; omega) _).setCell (by show w.heap.size ≤ w.heap.size + 1; omega) _).setCell (by show w.heap.size ≤ w.heap.size + 1; omega) _).setCell (by show w.heap.size ≤ w.heap.size + 1; omega) _
    · go_wp2_with fail
      have RR : Blk ((((((Z.setCell ⟨F, 4, none⟩ (.string ⟨#[]⟩)).setCell ⟨w.heap.size + 1, 0, none⟩ (.int .i64 (1 + (T : Int)))).setCell ⟨w.heap.size + 1, 1, none⟩ (.string X)).setCell ⟨w.heap.size + 1, 2, none⟩ (.int .u64 (1 + (Q : Int)))).setCell ⟨w.heap.size + 1, 3, none⟩ (.bool true)).setCell ⟨w.heap.size + 1, 4, none⟩ (.string ⟨#[]⟩)) (w.heap.size + 1) #[.int .i64 (1 + (T : Int)), .string X, .int .u64 (1 + (Q : Int)), .bool true, .string ⟨#[]⟩] 27 := (((((R.other (B' := F) (by omega) 4 _).set 0 _).set 1 _).set 2 _).set 3 _).set 4 _
      have g0 := RR.cell 0
      have g1 := RR.cell 1
      have g2 := RR.cell 2
      have g3 := RR.cell 3
      have g4 := RR.cell 4
      simp only [List.getElem?_toArray, List.getElem?_cons_zero, List.getElem?_cons_succ] at g0 g1 g2 g3 g4
      refine bodyPost_ret (v := .agg #[.int .i64 (1 + (T : Int)), .string X, .int .u64 (1 + (Q : Int)), .bool true, .string ⟨#[]⟩]) ?_ rfl ⟨rfl, ?_⟩
      · generalize ((((((Z.setCell ⟨F, 4, none⟩ (.string ⟨#[]⟩)).setCell ⟨w.heap.size + 1, 0, none⟩ (.int .i64 (1 + (T : Int)))).setCell ⟨w.heap.size + 1, 1, none⟩ (.string X)).setCell ⟨w.heap.size + 1, 2, none⟩ (.int .u64 (1 + (Q : Int)))).setCell ⟨w.heap.size + 1, 3, none⟩ (.bool true)).setCell ⟨w.heap.size + 1, 4, none⟩ (.string ⟨#[]⟩)) = Z2 at g0 g1 g2 g3 g4 ⊢
        simp [results, Tryz.results6, go_sem, g0, g1, g2, g3, g4]
      · exact (((((HB.setCell (by show w.heap.size ≤ F; omega) _).setCell (by show w.heap.size ≤ w.heap.size + 1; omega) _).setCell (by show w.heap.size ≤ w.heap.size + 1; omega) _).setCell (by show w.heap.size ≤ w.heap.size + 1; omega) _).setCell (by show w.heap.size ≤ w.heap.size + 1; omega) _).setCell (by show w.heap.size ≤ w.heap.size + 1; omega) _

  · refine AllReadyH.cons (o := { dst := some 3, op := Op.alloc 27, type := 0, pos := "law.go:40", after := #[], guard := none }) rfl (fun K hK => ?_) AllReadyH.nil
    go_simp
    refine hK.out _ _ (show Tx w.heap.size t (q : Int) true s (n : Int) w0 _ from V0a _) (fun hHeld => ?_)
    clear hK K
    try simp only [Act.put, List.setIfInBounds_toArray, List.set_cons_zero, List.set_cons_succ]
    refine wpAnyH_ready (rs := [10]) (by kernel_rfl) (by simp) ?_
    refine AllReadyH.cons (o := { dst := some 19, op := Op.call { callee := Callee.value (Operand.func 19), args := #[Operand.tmp 18], argTypes := #[5] }, type := 9, pos := "law.go:40", after := #[{ on := 9, ground := Ground.data }], guard := none }) rfl (fun K hK => ?_) AllReadyH.nil
    refine step_word4 rfl 18 _ rfl (.int .u8 (n : Int)) (by rfl) X (word_any n X _ HX.out) (fun w' hb => ?_)
    have hz := z_cells hb
    obtain ⟨⟨z0, z1, z2, z3, z4⟩, y0, y1, y2, y3, y4⟩ := hz
    refine hK.out _ _ (show Tx w.heap.size t (q : Int) true s (n : Int) w0 _ from (V0a _).next hb) (fun hHeld => ?_)
    clear hK K
    try simp only [Act.put, List.setIfInBounds_toArray, List.set_cons_zero, List.set_cons_succ]
    refine wpAnyH_take (i := 11) (oi := { dst := some 20, op := Op.build 24 #[(0, Operand.tmp 16), (1, Operand.tmp 19)], type := 24, pos := "law.go:40", after := #[{ on := 7, ground := Ground.data }, { on := 10, ground := Ground.data }], guard := none }) (v := ?v36) rfl (by kernel_rfl) (by kernel_rfl) (by kernel_rfl) (fun _ _ _ h => h) (Or.inl ⟨by rfl, ?hy36⟩) (by assumption) ?rest36
    case hy36 => (intro w1 hSw; (try dsimp only at hSw); obtain ⟨h0, h2, h3, h4, h6, h7, -⟩ := hSw; go_simp; try with_reducible rfl)
    try simp only [Act.put, List.setIfInBounds_toArray, List.set_cons_zero, List.set_cons_succ]
    refine wpAnyH_take (i := 20) (oi := { dst := some 29, op := Op.move (Operand.tmp 28), type := 4, pos := "law.go:40", after := #[{ on := 19, ground := Ground.data }, { on := 10, ground := Ground.chain }], guard := none }) (v := ?v37) rfl (by kernel_rfl) (by kernel_rfl) (by kernel_rfl) (fun _ _ _ h => h) (Or.inl ⟨by rfl, ?hy37⟩) (by assumption) ?rest37
    case hy37 => (intro w1 hSw; (try dsimp only at hSw); obtain ⟨h0, h2, h3, h4, h6, h7, -⟩ := hSw; go_simp; try with_reducible rfl)
    try simp only [Act.put, List.setIfInBounds_toArray, List.set_cons_zero, List.set_cons_succ]
    refine wpAnyH_take (i := 21) (oi := { dst := some 30, op := Op.fieldAddr 29 (Operand.tmp 1) 2, type := 0, pos := "law.go:40", after := #[{ on := 20, ground := Ground.guard }], guard := some (20, true) }) (v := ?v38) rfl (by kernel_rfl) (by kernel_rfl) (by kernel_rfl) (fun _ _ _ h => h) (Or.inl ⟨by rfl, ?hy38⟩) (by assumption) ?rest38
    case hy38 => (intro w1 hSw; (try dsimp only at hSw); obtain ⟨h0, h2, h3, h4, h6, h7, -⟩ := hSw; go_simp; try with_reducible rfl)
    try simp only [Act.put, List.setIfInBounds_toArray, List.set_cons_zero, List.set_cons_succ]
    refine wpAnyH_take (i := 22) (oi := { dst := some 31, op := Op.load 5 (Operand.tmp 30), type := 5, pos := "law.go:40", after := #[{ on := 21, ground := Ground.data }, { on := 20, ground := Ground.guard }], guard := some (20, true) }) (v := ?v39) rfl (by kernel_rfl) (by kernel_rfl) (by kernel_rfl) (fun _ _ _ h => h) (Or.inl ⟨by rfl, ?hy39⟩) (by assumption) ?rest39
    case hy39 => (intro w1 hSw; (try dsimp only at hSw); obtain ⟨h0, h2, h3, h4, h6, h7, -⟩ := hSw; go_simp; try with_reducible rfl)
    try simp only [Act.put, List.setIfInBounds_toArray, List.set_cons_zero, List.set_cons_succ]
    refine wpAnyH_take (i := 23) (oi := { dst := some 32, op := Op.binOp BinOp.rem 5 (Operand.tmp 31) (Operand.const (Value.int IntKind.u8 4)) 5, type := 5, pos := "law.go:40", after := #[{ on := 22, ground := Ground.data }, { on := 20, ground := Ground.guard }], guard := some (20, true) }) (v := ?v40) rfl (by kernel_rfl) (by kernel_rfl) (by kernel_rfl) (fun _ _ _ h => h) (Or.inl ⟨by rfl, ?hy40⟩) (by assumption) ?rest40
    case hy40 => (intro w1 hSw; (try dsimp only at hSw); obtain ⟨h0, h2, h3, h4, h6, h7, -⟩ := hSw; go_simp; try with_reducible rfl)
    try simp only [Act.put, List.setIfInBounds_toArray, List.set_cons_zero, List.set_cons_succ]
    refine wpAnyH_take (i := 24) (oi := { dst := some 33, op := Op.binOp BinOp.eql 5 (Operand.tmp 32) (Operand.const (Value.int IntKind.u8 0)) 5, type := 4, pos := "law.go:40", after := #[{ on := 23, ground := Ground.data }, { on := 20, ground := Ground.guard }], guard := some (20, true) }) (v := ?v41) rfl (by kernel_rfl) (by kernel_rfl) (by kernel_rfl) (fun _ _ _ h => h) (Or.inl ⟨by rfl, ?hy41⟩) (by assumption) ?rest41
    case hy41 => (intro w1 hSw; (try dsimp only at hSw); obtain ⟨h0, h2, h3, h4, h6, h7, -⟩ := hSw; go_simp; try with_reducible rfl)
    try simp only [Act.put, List.setIfInBounds_toArray, List.set_cons_zero, List.set_cons_succ]
    refine wpAnyH_take (i := 25) (oi := { dst := some 34, op := Op.pick (Operand.tmp 29) (Operand.tmp 33) (Operand.const (Value.bool false)), type := 4, pos := "law.go:40", after := #[{ on := 20, ground := Ground.data }, { on := 24, ground := Ground.data }], guard := none }) (v := ?v42) rfl (by kernel_rfl) (by kernel_rfl) (by kernel_rfl) (fun _ _ _ h => h) (Or.inl ⟨by rfl, ?hy42⟩) (by assumption) ?rest42
    case hy42 => (intro w1 hSw; (try dsimp only at hSw); obtain ⟨h0, h2, h3, h4, h6, h7, -⟩ := hSw; go_simp; try with_reducible rfl)
    try simp only [Act.put, List.setIfInBounds_toArray, List.set_cons_zero, List.set_cons_succ]
    refine wpAnyH_take (i := 35) (oi := { dst := some 44, op := Op.build 27 #[(0, Operand.tmp 20), (1, Operand.tmp 25), (2, Operand.tmp 34), (3, Operand.tmp 43)], type := 27, pos := "law.go:40", after := #[{ on := 11, ground := Ground.data }, { on := 16, ground := Ground.data }, { on := 25, ground := Ground.data }, { on := 34, ground := Ground.data }], guard := none }) (v := ?v43) rfl (by kernel_rfl) (by kernel_rfl) (by kernel_rfl) (fun _ _ _ h => h) (Or.inl ⟨by rfl, ?hy43⟩) (by assumption) ?rest43
    case hy43 => (intro w1 hSw; (try dsimp only at hSw); obtain ⟨h0, h2, h3, h4, h6, h7, -⟩ := hSw; go_simp; try with_reducible rfl)
    try simp only [Act.put, List.setIfInBounds_toArray, List.set_cons_zero, List.set_cons_succ]
    refine wpAnyH_ready (rs := [37]) (by kernel_rfl) (by simp) ?_
    refine AllReadyH.cons (o := _) rfl (fun K hK => ?_) AllReadyH.nil
    go_simp
    refine hK.out _ _ (show Tx w.heap.size t (q : Int) true s (n : Int) w0 _ from Tx.set (Tx.set (Tx.set (Tx.set (Tx.set ((V0a _).next hb) hlt0 (Nat.le_refl _) _) hlt0 (Nat.le_refl _) _) hlt0 (Nat.le_refl _) _) hlt0 (Nat.le_refl _) _) hlt0 (Nat.le_refl _) _) (fun hHeld => ?_)
    clear hK K
    try simp only [Act.put, List.setIfInBounds_toArray, List.set_cons_zero, List.set_cons_succ]
    have hl1 : w.heap.size + 1 < w0.heap.size := HW0.out.2.2.1.lt
    have hl2 : w0.heap.size < (w0.alloc (.cells #[.int .i64 0, .string ⟨#[]⟩, .int .u64 0, .bool false, .string ⟨#[]⟩] 27)).drew.heap.size := by show w0.heap.size < (w0.alloc (.cells #[.int .i64 0, .string ⟨#[]⟩, .int .u64 0, .bool false, .string ⟨#[]⟩] 27)).heap.size; simp
    have R1 : Blk w' (w.heap.size + 1) #[.int .i64 0, .string ⟨#[]⟩, .int .u64 0, .bool false, .string ⟨#[]⟩] 27 := Blk.below (W := (w0.alloc (.cells #[.int .i64 0, .string ⟨#[]⟩, .int .u64 0, .bool false, .string ⟨#[]⟩] 27)).drew) (show Blk (w0.alloc (.cells #[.int .i64 0, .string ⟨#[]⟩, .int .u64 0, .bool false, .string ⟨#[]⟩] 27)) _ _ _ from HW0.out.2.2.1.alloc _) hb (by omega)
    have R : Blk (((((w'.setCell ⟨w0.heap.size, 0, none⟩ (.int .i64 (1 + (T : Int)))).setCell ⟨w0.heap.size, 1, none⟩ (.string X)).setCell ⟨w0.heap.size, 2, none⟩ (.int .u64 (1 + (Q : Int)))).setCell ⟨w0.heap.size, 3, none⟩ (.bool c)).setCell ⟨w0.heap.size, 4, none⟩ (.string (s.extract 0 M))) (w.heap.size + 1) #[.int .i64 0, .string ⟨#[]⟩, .int .u64 0, .bool false, .string ⟨#[]⟩] 27 := (((((R1.other (by omega) 0 _).other (by omega) 1 _).other (by omega) 2 _).other (by omega) 3 _).other (by omega) 4 _)
    have F1 : Blk w' w0.heap.size #[.int .i64 0, .string ⟨#[]⟩, .int .u64 0, .bool false, .string ⟨#[]⟩] 27 := Blk.below (W := (w0.alloc (.cells #[.int .i64 0, .string ⟨#[]⟩, .int .u64 0, .bool false, .string ⟨#[]⟩] 27)).drew) (show Blk (w0.alloc (.cells #[.int .i64 0, .string ⟨#[]⟩, .int .u64 0, .bool false, .string ⟨#[]⟩] 27)) _ _ _ from Blk.new w0 _ _) hb hl2
    have FB : Blk (((((w'.setCell ⟨w0.heap.size, 0, none⟩ (.int .i64 (1 + (T : Int)))).setCell ⟨w0.heap.size, 1, none⟩ (.string X)).setCell ⟨w0.heap.size, 2, none⟩ (.int .u64 (1 + (Q : Int)))).setCell ⟨w0.heap.size, 3, none⟩ (.bool c)).setCell ⟨w0.heap.size, 4, none⟩ (.string (s.extract 0 M))) w0.heap.size #[.int .i64 (1 + (T : Int)), .string X, .int .u64 (1 + (Q : Int)), .bool c, .string (s.extract 0 M)] 27 := (((((F1.set 0 _).set 1 _).set 2 _).set 3 _).set 4 _)
    have H1 : Below w0.heap.size w0 w' := (((Below.refl w0.heap.size w0).alloc (Nat.le_refl _) _).drew).trans (hb.mono (Nat.le_of_lt hl2))
    have HB0 : Below w.heap.size w w' := HW0.out.2.2.2.trans (H1.mono HW0.out.2.2.2.size)
    have HB : Below w.heap.size w (((((w'.setCell ⟨w0.heap.size, 0, none⟩ (.int .i64 (1 + (T : Int)))).setCell ⟨w0.heap.size, 1, none⟩ (.string X)).setCell ⟨w0.heap.size, 2, none⟩ (.int .u64 (1 + (Q : Int)))).setCell ⟨w0.heap.size, 3, none⟩ (.bool c)).setCell ⟨w0.heap.size, 4, none⟩ (.string (s.extract 0 M))) := (((((HB0.setCell (by show w.heap.size ≤ w0.heap.size; omega) _).setCell (by show w.heap.size ≤ w0.heap.size; omega) _).setCell (by show w.heap.size ≤ w0.heap.size; omega) _).setCell (by show w.heap.size ≤ w0.heap.size; omega) _).setCell (by show w.heap.size ≤ w0.heap.size; omega) _)
    have hF := hl1
    refine wpAnyH_done (by kernel_rfl) ?_ _
    clear hHeld hb z0 z1 z2 z3 z4 y0 y1 y2 y3 y4 R1 F1 H1 HB0
    generalize (((((w'.setCell ⟨w0.heap.size, 0, none⟩ (.int .i64 (1 + (T : Int)))).setCell ⟨w0.heap.size, 1, none⟩ (.string X)).setCell ⟨w0.heap.size, 2, none⟩ (.int .u64 (1 + (Q : Int)))).setCell ⟨w0.heap.size, 3, none⟩ (.bool c)).setCell ⟨w0.heap.size, 4, none⟩ (.string (s.extract 0 M))) = Z at R FB HB ⊢
    generalize w0.heap.size = F at FB hF ⊢
    have f0 : Z.cell? ⟨F, 0, none⟩ = some (.int .i64 (1 + (T : Int))) := FB.cell 0
    have f1 : Z.cell? ⟨F, 1, none⟩ = some (.string X) := FB.cell 1
    have f2 : Z.cell? ⟨F, 2, none⟩ = some (.int .u64 (1 + (Q : Int))) := FB.cell 2
    have f3 : Z.cell? ⟨F, 3, none⟩ = some (.bool c) := FB.cell 3
    have f4 : Z.cell? ⟨F, 4, none⟩ = some (.string (s.extract 0 M)) := FB.cell 4
    have ff : ∀ j, Z.frozen? ⟨F, j, none⟩ = false := FB.frozen
    have r0 : Z.cell? ⟨w.heap.size + 1, 0, none⟩ = some (.int .i64 0) := R.cell 0
    have r1 : Z.cell? ⟨w.heap.size + 1, 1, none⟩ = some (.string ⟨#[]⟩) := R.cell 1
    have r2 : Z.cell? ⟨w.heap.size + 1, 2, none⟩ = some (.int .u64 0) := R.cell 2
    have r3 : Z.cell? ⟨w.heap.size + 1, 3, none⟩ = some (.bool false) := R.cell 3
    have r4 : Z.cell? ⟨w.heap.size + 1, 4, none⟩ = some (.string ⟨#[]⟩) := R.cell 4
    have rf : ∀ j, Z.frozen? ⟨w.heap.size + 1, j, none⟩ = false := R.frozen
    cases c
    · go_wp2_with fail
      have RR : Blk (((((Z.setCell ⟨w.heap.size + 1, 0, none⟩ (.int .i64 (1 + (T : Int)))).setCell ⟨w.heap.size + 1, 1, none⟩ (.string X)).setCell ⟨w.heap.size + 1, 2, none⟩ (.int .u64 (1 + (Q : Int)))).setCell ⟨w.heap.size + 1, 3, none⟩ (.bool false)).setCell ⟨w.heap.size + 1, 4, none⟩ (.string (s.extract 0 M))) (w.heap.size + 1) #[.int .i64 (1 + (T : Int)), .string X, .int .u64 (1 + (Q : Int)), .bool false, .string (s.extract 0 M)] 27 := ((((R.set 0 _).set 1 _).set 2 _).set 3 _).set 4 _
      have g0 := RR.cell 0
      have g1 := RR.cell 1
      have g2 := RR.cell 2
      have g3 := RR.cell 3
      have g4 := RR.cell 4
      simp only [List.getElem?_toArray, List.getElem?_cons_zero, List.getElem?_cons_succ] at g0 g1 g2 g3 g4
      refine bodyPost_ret (v := .agg #[.int .i64 (1 + (T : Int)), .string X, .int .u64 (1 + (Q : Int)), .bool false, .string (s.extract 0 M)]) ?_ rfl ⟨rfl, ?_⟩
      · generalize (((((Z.setCell ⟨w.heap.size + 1, 0, none⟩ (.int .i64 (1 + (T : Int)))).setCell ⟨w.heap.size + 1, 1, none⟩ (.string X)).setCell ⟨w.heap.size + 1, 2, none⟩ (.int .u64 (1 + (Q : Int)))).setCell ⟨w.heap.size + 1, 3, none⟩ (.bool false)).setCell ⟨w.heap.size + 1, 4, none⟩ (.string (s.extract 0 M))) = Z2 at g0 g1 g2 g3 g4 ⊢
        simp [results, Tryz.results6, go_sem, g0, g1, g2, g3, g4]
      · exact ((((HB.setCell (by show w.heap.size ≤ w.heap.size + 1; omega) _).setCell (by show w.heap.size ≤ w.heap.size + 1; omega) _).setCell (by show w.heap.size ≤ w.heap.size + 1; omega) _).setCell (by show w.heap.size ≤ w.heap.size + 1; omega) _).setCell (by show w.heap.size ≤ w.heap.size + 1; omega) _
    · go_wp2_with fail
      have RR : Blk ((((((Z.setCell ⟨F, 4, none⟩ (.string ⟨#[]⟩)).setCell ⟨w.heap.size + 1, 0, none⟩ (.int .i64 (1 + (T : Int)))).setCell ⟨w.heap.size + 1, 1, none⟩ (.string X)).setCell ⟨w.heap.size + 1, 2, none⟩ (.int .u64 (1 + (Q : Int)))).setCell ⟨w.heap.size + 1, 3, none⟩ (.bool true)).setCell ⟨w.heap.size + 1, 4, none⟩ (.string ⟨#[]⟩)) (w.heap.size + 1) #[.int .i64 (1 + (T : Int)), .string X, .int .u64 (1 + (Q : Int)), .bool true, .string ⟨#[]⟩] 27 := (((((R.other (B' := F) (by omega) 4 _).set 0 _).set 1 _).set 2 _).set 3 _).set 4 _
      have g0 := RR.cell 0
      have g1 := RR.cell 1
      have g2 := RR.cell 2
      have g3 := RR.cell 3
      have g4 := RR.cell 4
      simp only [List.getElem?_toArray, List.getElem?_cons_zero, List.getElem?_cons_succ] at g0 g1 g2 g3 g4
      refine bodyPost_ret (v := .agg #[.int .i64 (1 + (T : Int)), .string X, .int .u64 (1 + (Q : Int)), .bool true, .string ⟨#[]⟩]) ?_ rfl ⟨rfl, ?_⟩
      · generalize ((((((Z.setCell ⟨F, 4, none⟩ (.string ⟨#[]⟩)).setCell ⟨w.heap.size + 1, 0, none⟩ (.int .i64 (1 + (T : Int)))).setCell ⟨w.heap.size + 1, 1, none⟩ (.string X)).setCell ⟨w.heap.size + 1, 2, none⟩ (.int .u64 (1 + (Q : Int)))).setCell ⟨w.heap.size + 1, 3, none⟩ (.bool true)).setCell ⟨w.heap.size + 1, 4, none⟩ (.string ⟨#[]⟩)) = Z2 at g0 g1 g2 g3 g4 ⊢
        simp [results, Tryz.results6, go_sem, g0, g1, g2, g3, g4]
      · exact (((((HB.setCell (by show w.heap.size ≤ F; omega) _).setCell (by show w.heap.size ≤ w.heap.size + 1; omega) _).setCell (by show w.heap.size ≤ w.heap.size + 1; omega) _).setCell (by show w.heap.size ≤ w.heap.size + 1; omega) _).setCell (by show w.heap.size ≤ w.heap.size + 1; omega) _).setCell (by show w.heap.size ≤ w.heap.size + 1; omega) _

end Go.Proofs.YtjolgalfjahceaaGreatDoor
