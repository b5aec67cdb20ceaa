/- names: the chapter's examples. -/
import Derived.Test.YtdcfdcjgheijcaaNmSame
import Derived.Test.YtdcfdcjgheijcaaNmAdd
import Derived.Test.YtdcfdcjgheijcaaNmFew
namespace Go.Proofs.Ytdcfdcjgheijcaa
open Go.RowKit Go.Lib

/-- A text in memory. -/
def CellAt (w : World) (b o : Nat) (v : Value) : Prop := b < w.heap.size ∧ w.cell? ⟨b, o, none⟩ = some v
theorem CellAt.later {w w' : World} {b o : Nat} {v : Value} (h : CellAt w b o v) (hb : Below w.heap.size w w') : CellAt w' b o v := ⟨Nat.lt_of_lt_of_le h.1 hb.size, (hb.cell (p := ⟨b, o, none⟩) h.1).trans h.2⟩
theorem ts_block {w : World} {B : Nat} {cs : Array Value} {l : List (List UInt8)} (hb : Blk w B cs 9) (hn : cs.size ≤ maxLen) (hl : cs.toList = tsV l) : TsAt w (.slice (some ⟨B, 0, none⟩) cs.size cs.size) l := by
  have e : cs.size = (tsV l).length := by rw [← hl]; simp
  refine ⟨_, cs.size, by rw [e], by rw [e]; exact Nat.le_refl _, hn, fun j u hj => ⟨B, 0, rfl, hb.lt, ?_⟩⟩
  rw [Nat.zero_add, hb.cell j, ← Array.getElem?_toList, hl]
  exact hj
theorem ex_s : nOf okN [[98], [97], [98], [42], [88]] = ⟨true, [[97], [98]]⟩ := by
  have e : ([[98], [97], [98], [42], [88]] : List (List UInt8)).filter okN = [[98], [97], [98]] := by decide
  refine ns_eq (by decide) ?_
  show srt _ = _
  rw [e]
  refine srt_eq (by unfold Rises; decide) (fun x => by simp only [List.mem_cons, List.not_mem_nil, or_false]; exact ⟨by rintro (h | h | h) <;> simp [h], by rintro (h | h) <;> simp [h]⟩)
theorem ex_t : nOf okN [[97]] = ⟨false, [[97]]⟩ := by
  have e : ([[97]] : List (List UInt8)).filter okN = [[97]] := by decide
  refine ns_eq (by decide) ?_
  show srt _ = _
  rw [e]
  exact srt_self (by unfold Rises; decide)
theorem ex_u : nUnion [⟨true, [[97], [98]]⟩, ⟨false, [[97]]⟩] = ⟨true, [[97], [98]]⟩ := by
  refine ns_eq (by decide) ?_
  show srt _ = _
  refine srt_eq (by unfold Rises; decide) (fun x => by simp only [List.flatMap_cons, List.flatMap_nil, List.mem_append, List.mem_cons, List.not_mem_nil, or_false]; exact ⟨by rintro ((h | h) | h) <;> simp [h], by rintro (h | h) <;> simp [h]⟩)
theorem ex_same : nSame ⟨true, [[97], [98]]⟩ ⟨true, [[97], [98]]⟩ = true := nSame_self rfl (fun _ => Iff.rfl)
theorem ex_h1 : nHas okN ⟨true, [[97], [98]]⟩ [122, 122] = true := by decide
theorem ex_h2 : nHas okN ⟨true, [[97], [98]]⟩ [88] = false := by decide
theorem ex_h3 : nHas okN ⟨false, [[97]]⟩ [98] = false := by decide
theorem ex_h4 : nHas okN ⟨false, [[97]]⟩ [97] = true := by decide
theorem fitK {l : List (List UInt8)} (n : Nat) (h : (∀ s ∈ l, s.length ≤ n) ∧ l.length ≤ n) (hn : n ≤ 1000) : NmFit l := ⟨fun s hs => by have := h.1 s hs; unfold maxLen; omega, by have := h.2; omega⟩
theorem ex_l : nList ⟨true, [[97], [98]]⟩ = [[42], [97], [98]] := rfl
theorem ex_fu : NssFit [⟨true, [[97], [98]]⟩, ⟨false, [[97]]⟩] := by
  refine ⟨fun s hs x hx => ?_, by decide, by decide⟩
  have h1 : ∀ s ∈ ([⟨true, [[97], [98]]⟩, ⟨false, [[97]]⟩] : List Ns), ∀ x ∈ s.ns, x.length ≤ 1 := by decide
  have := h1 s hs x hx
  unfold maxLen; omega
set_option maxRecDepth 100000 in
set_option maxHeartbeats 4000000 in
theorem examples_any (w : World) : Calls Try.prog 4 #[] w fun e w' => e = .returned (.bool true) ∧ Below w.heap.size w w' := by
  obtain ⟨w1, hw1, hb1, p1⟩ := alloc_new w #[.string ⟨#[98]⟩, .string ⟨#[97]⟩, .string ⟨#[98]⟩, .string ⟨#[42]⟩, .string ⟨#[88]⟩] 9
  have B1 : Base w w1 := hb1
  have t1 : TsAt w1 (.slice (some ⟨w.heap.size, 0, none⟩) 5 5) [[98], [97], [98], [42], [88]] := ts_block p1 (by show (5 : Nat) ≤ maxLen; unfold maxLen; omega) rfl
  go_enter Try.func4, Try.ntmps4
  go_wp2_with fail
  refine (of_any t1 (fitK 5 (by decide) (by omega)) ex_s).mono ?_
  rintro e w2 ⟨a2, c2, rfl, ts2, hb2⟩
  have B2 := B1.later hb2
  have hl2 : ([[97], [98]] : List (List UInt8)).length = 2 := rfl
  rw [hl2] at ts2
  obtain ⟨w3, hw3, hb3, ps3⟩ := alloc_new w2 #[.bool true, .slice a2 2 c2] 26
  have ts3 := ts2.later hb3
  have B3 := B2.later hb3
  obtain ⟨w4, hw4, hb4, p4⟩ := alloc_new w3 #[.string ⟨#[97]⟩] 9
  have ts4 := ts3.later hb4
  have ps4 := ps3.later hb4
  have B4 := B3.later hb4
  have t4 : TsAt w4 (.slice (some ⟨w3.heap.size, 0, none⟩) 1 1) [[97]] := ts_block p4 (by show (1 : Nat) ≤ maxLen; unfold maxLen; omega) rfl
  clear hw1 hb1 p1 B1 t1 hb2 B2 ts2 hb3 ps3 ts3 B3 hb4 p4
  go_wp2_with fail
  refine (of_any t4 (fitK 5 (by decide) (by omega)) ex_t).mono ?_
  rintro e w5 ⟨a5, c5, rfl, tt5, hb5⟩
  have hl1 : ([[97]] : List (List UInt8)).length = 1 := rfl
  rw [hl1] at tt5
  have ts5 := ts4.later hb5
  have ps5 := ps4.later hb5
  have B5 := B4.later hb5
  obtain ⟨w6, hw6, hb6, pt6⟩ := alloc_new w5 #[.bool false, .slice a5 1 c5] 26
  have ts6 := ts5.later hb6
  have ps6 := ps5.later hb6
  have tt6 := tt5.later hb6
  have B6 := B5.later hb6
  clear hw3 hw4 ts4 ps4 B4 t4 hb5 tt5 ts5 ps5 B5 hb6
  have hn6 := ts6.out
  obtain ⟨a', c', e', h1', h2', h3'⟩ := hn6
  obtain ⟨bb, oo, rfl, hlt', hcell'⟩ := h3' 0 (by decide)
  obtain ⟨rfl, rfl⟩ : a2 = some ⟨bb, oo, none⟩ ∧ c2 = c' := by injection e' with q1 _ q3; exact ⟨q1, q3⟩
  have n6 : CellAt w6 bb oo (.string ⟨#[97]⟩) := ⟨hlt', hcell'⟩
  have hfl := field_set
  clear e' h1' h2' h3' hlt' hcell' hl1 hl2
  go_wp2_with fail
  obtain ⟨w1, hw2, hb3⟩ := drew_new w6
  have q4 := ps6.later hb3
  have q5 := pt6.later hb3
  have q6 := ts6.later hb3
  have q7 := tt6.later hb3
  have q8 := n6.later hb3
  have q9 := B6.later hb3
  refine wp_region_held_drew (S := (fun w' => w'.cell? ⟨w2.heap.size, 0, none⟩ = some (.bool true) ∧ w'.cell? ⟨w2.heap.size, 1, none⟩ = some (.slice (some ⟨bb, oo, none⟩) 2 c2) ∧ w'.cell? ⟨w5.heap.size, 0, none⟩ = some (.bool false) ∧ w'.cell? ⟨w5.heap.size, 1, none⟩ = some (.slice a5 1 c5) ∧ w'.cell? ⟨bb, oo, none⟩ = some (.string ⟨#[97]⟩) ∧ True)) (by kernel_rfl) (by rw [hw2]; exact ⟨q4.cell 0, q4.cell 1, q5.cell 0, q5.cell 1, q8.2, trivial⟩) (fun hHeld => ?_)
  rw [hw2] at hHeld ⊢
  refine wpAnyH_take (i := 0) (oi := { dst := some 7, op := Op.fieldAddr 26 (Operand.tmp 1) 0, type := 0, pos := "law.go:14", after := #[], guard := none }) (v := ?v1) rfl (by kernel_rfl) (by kernel_rfl) (by kernel_rfl) (fun _ _ _ h => h) (Or.inl ⟨by rfl, ?hy1⟩) (by assumption) ?rest1
  case hy1 => (intro w1 hSw; (try dsimp only at hSw); obtain ⟨h0, h1, h2, h3, h4, -⟩ := hSw; go_simp; try with_reducible rfl)
  try simp only [Act.put, List.setIfInBounds_toArray, List.set_cons_zero, List.set_cons_succ]
  refine wpAnyH_take (i := 1) (oi := { dst := some 8, op := Op.load 4 (Operand.tmp 7), type := 4, pos := "law.go:14", after := #[{ on := 0, ground := Ground.data }], guard := none }) (v := ?v2) rfl (by kernel_rfl) (by kernel_rfl) (by kernel_rfl) (fun _ _ _ h => h) (Or.inl ⟨by rfl, ?hy2⟩) (by assumption) ?rest2
  case hy2 => (intro w1 hSw; (try dsimp only at hSw); obtain ⟨h0, h1, h2, h3, h4, -⟩ := hSw; go_simp; try with_reducible rfl)
  try simp only [Act.put, List.setIfInBounds_toArray, List.set_cons_zero, List.set_cons_succ]
  refine wpAnyH_take (i := 2) (oi := { dst := some 9, op := Op.move (Operand.tmp 8), type := 4, pos := "law.go:14", after := #[{ on := 1, ground := Ground.data }], guard := none }) (v := ?v3) rfl (by kernel_rfl) (by kernel_rfl) (by kernel_rfl) (fun _ _ _ h => h) (Or.inl ⟨by rfl, ?hy3⟩) (by assumption) ?rest3
  case hy3 => (intro w1 hSw; (try dsimp only at hSw); obtain ⟨h0, h1, h2, h3, h4, -⟩ := hSw; go_simp; try with_reducible rfl)
  try simp only [Act.put, List.setIfInBounds_toArray, List.set_cons_zero, List.set_cons_succ]
  refine wpAnyH_take (i := 3) (oi := { dst := some 10, op := Op.fieldAddr 26 (Operand.tmp 1) 1, type := 0, pos := "law.go:14", after := #[{ on := 2, ground := Ground.guard }], guard := some (2, true) }) (v := ?v4) rfl (by kernel_rfl) (by kernel_rfl) (by kernel_rfl) (fun _ _ _ h => h) (Or.inl ⟨by rfl, ?hy4⟩) (by assumption) ?rest4
  case hy4 => (intro w1 hSw; (try dsimp only at hSw); obtain ⟨h0, h1, h2, h3, h4, -⟩ := hSw; go_simp; try with_reducible rfl)
  try simp only [Act.put, List.setIfInBounds_toArray, List.set_cons_zero, List.set_cons_succ]
  refine wpAnyH_take (i := 4) (oi := { dst := some 11, op := Op.load 24 (Operand.tmp 10), type := 24, pos := "law.go:14", after := #[{ on := 3, ground := Ground.data }, { on := 2, ground := Ground.guard }], guard := some (2, true) }) (v := ?v5) rfl (by kernel_rfl) (by kernel_rfl) (by kernel_rfl) (fun _ _ _ h => h) (Or.inl ⟨by rfl, ?hy5⟩) (by assumption) ?rest5
  case hy5 => (intro w1 hSw; (try dsimp only at hSw); obtain ⟨h0, h1, h2, h3, h4, -⟩ := hSw; go_simp; try with_reducible rfl)
  try simp only [Act.put, List.setIfInBounds_toArray, List.set_cons_zero, List.set_cons_succ]
  refine wpAnyH_take (i := 5) (oi := { dst := some 12, op := Op.call { callee := Callee.builtin Builtin.len, args := #[Operand.tmp 11], argTypes := #[24] }, type := 3, pos := "law.go:14", after := #[{ on := 4, ground := Ground.data }, { on := 2, ground := Ground.guard }], guard := some (2, true) }) (v := ?v6) rfl (by kernel_rfl) (by kernel_rfl) (by kernel_rfl) (fun _ _ _ h => h) (Or.inl ⟨by rfl, ?hy6⟩) (by assumption) ?rest6
  case hy6 => (intro w1 hSw; (try dsimp only at hSw); obtain ⟨h0, h1, h2, h3, h4, -⟩ := hSw; go_simp; try with_reducible rfl)
  try simp only [Act.put, List.setIfInBounds_toArray, List.set_cons_zero, List.set_cons_succ]
  refine wpAnyH_take (i := 6) (oi := { dst := some 13, op := Op.binOp BinOp.eql 3 (Operand.tmp 12) (Operand.const (Value.int IntKind.i64 2)) 3, type := 4, pos := "law.go:14", after := #[{ on := 5, ground := Ground.data }, { on := 2, ground := Ground.guard }], guard := some (2, true) }) (v := ?v7) rfl (by kernel_rfl) (by kernel_rfl) (by kernel_rfl) (fun _ _ _ h => h) (Or.inl ⟨by rfl, ?hy7⟩) (by assumption) ?rest7
  case hy7 => (intro w1 hSw; (try dsimp only at hSw); obtain ⟨h0, h1, h2, h3, h4, -⟩ := hSw; go_simp; try with_reducible rfl)
  try simp only [Act.put, List.setIfInBounds_toArray, List.set_cons_zero, List.set_cons_succ]
  refine wpAnyH_take (i := 7) (oi := { dst := some 14, op := Op.pick (Operand.tmp 9) (Operand.tmp 13) (Operand.const (Value.bool false)), type := 4, pos := "law.go:14", after := #[{ on := 2, ground := Ground.data }, { on := 6, ground := Ground.data }], guard := none }) (v := ?v8) rfl (by kernel_rfl) (by kernel_rfl) (by kernel_rfl) (fun _ _ _ h => h) (Or.inl ⟨by rfl, ?hy8⟩) (by assumption) ?rest8
  case hy8 => (intro w1 hSw; (try dsimp only at hSw); obtain ⟨h0, h1, h2, h3, h4, -⟩ := hSw; go_simp; try with_reducible rfl)
  try simp only [Act.put, List.setIfInBounds_toArray, List.set_cons_zero, List.set_cons_succ]
  refine wpAnyH_take (i := 8) (oi := { dst := some 15, op := Op.move (Operand.tmp 14), type := 4, pos := "law.go:14", after := #[{ on := 7, ground := Ground.data }, { on := 2, ground := Ground.chain }], guard := none }) (v := ?v9) rfl (by kernel_rfl) (by kernel_rfl) (by kernel_rfl) (fun _ _ _ h => h) (Or.inl ⟨by rfl, ?hy9⟩) (by assumption) ?rest9
  case hy9 => (intro w1 hSw; (try dsimp only at hSw); obtain ⟨h0, h1, h2, h3, h4, -⟩ := hSw; go_simp; try with_reducible rfl)
  try simp only [Act.put, List.setIfInBounds_toArray, List.set_cons_zero, List.set_cons_succ]
  refine wpAnyH_take (i := 9) (oi := { dst := some 16, op := Op.fieldAddr 26 (Operand.tmp 1) 1, type := 0, pos := "law.go:14", after := #[{ on := 8, ground := Ground.guard }], guard := some (8, true) }) (v := ?v10) rfl (by kernel_rfl) (by kernel_rfl) (by kernel_rfl) (fun _ _ _ h => h) (Or.inl ⟨by rfl, ?hy10⟩) (by assumption) ?rest10
  case hy10 => (intro w1 hSw; (try dsimp only at hSw); obtain ⟨h0, h1, h2, h3, h4, -⟩ := hSw; go_simp; try with_reducible rfl)
  try simp only [Act.put, List.setIfInBounds_toArray, List.set_cons_zero, List.set_cons_succ]
  refine wpAnyH_take (i := 10) (oi := { dst := some 17, op := Op.load 24 (Operand.tmp 16), type := 24, pos := "law.go:14", after := #[{ on := 9, ground := Ground.data }, { on := 8, ground := Ground.guard }], guard := some (8, true) }) (v := ?v11) rfl (by kernel_rfl) (by kernel_rfl) (by kernel_rfl) (fun _ _ _ h => h) (Or.inl ⟨by rfl, ?hy11⟩) (by assumption) ?rest11
  case hy11 => (intro w1 hSw; (try dsimp only at hSw); obtain ⟨h0, h1, h2, h3, h4, -⟩ := hSw; go_simp; try with_reducible rfl)
  try simp only [Act.put, List.setIfInBounds_toArray, List.set_cons_zero, List.set_cons_succ]
  refine wpAnyH_take (i := 11) (oi := { dst := some 18, op := Op.indexAddr 24 (Operand.tmp 17) (Operand.const (Value.int IntKind.i64 0)), type := 0, pos := "law.go:14", after := #[{ on := 10, ground := Ground.data }, { on := 8, ground := Ground.guard }], guard := some (8, true) }) (v := ?v12) rfl (by kernel_rfl) (by kernel_rfl) (by kernel_rfl) (fun _ _ _ h => h) (Or.inl ⟨by rfl, ?hy12⟩) (by assumption) ?rest12
  case hy12 => (intro w1 hSw; (try dsimp only at hSw); obtain ⟨h0, h1, h2, h3, h4, -⟩ := hSw; go_simp; try with_reducible rfl)
  try simp only [Act.put, List.setIfInBounds_toArray, List.set_cons_zero, List.set_cons_succ]
  refine wpAnyH_take (i := 12) (oi := { dst := some 19, op := Op.load 9 (Operand.tmp 18), type := 9, pos := "law.go:14", after := #[{ on := 11, ground := Ground.data }, { on := 8, ground := Ground.guard }], guard := some (8, true) }) (v := ?v13) rfl (by kernel_rfl) (by kernel_rfl) (by kernel_rfl) (fun _ _ _ h => h) (Or.inl ⟨by rfl, ?hy13⟩) (by assumption) ?rest13
  case hy13 => (intro w1 hSw; (try dsimp only at hSw); obtain ⟨h0, h1, h2, h3, h4, -⟩ := hSw; go_simp; try with_reducible rfl)
  try simp only [Act.put, List.setIfInBounds_toArray, List.set_cons_zero, List.set_cons_succ]
  refine wpAnyH_take (i := 13) (oi := { dst := some 20, op := Op.binOp BinOp.eql 9 (Operand.tmp 19) (Operand.const (Value.string { data := #[97] })) 9, type := 4, pos := "law.go:14", after := #[{ on := 12, ground := Ground.data }, { on := 8, ground := Ground.guard }], guard := some (8, true) }) (v := ?v14) rfl (by kernel_rfl) (by kernel_rfl) (by kernel_rfl) (fun _ _ _ h => h) (Or.inl ⟨by rfl, ?hy14⟩) (by assumption) ?rest14
  case hy14 => (intro w1 hSw; (try dsimp only at hSw); obtain ⟨h0, h1, h2, h3, h4, -⟩ := hSw; go_simp; try with_reducible rfl)
  try simp only [Act.put, List.setIfInBounds_toArray, List.set_cons_zero, List.set_cons_succ]
  refine wpAnyH_take (i := 14) (oi := { dst := some 21, op := Op.pick (Operand.tmp 15) (Operand.tmp 20) (Operand.const (Value.bool false)), type := 4, pos := "law.go:14", after := #[{ on := 8, ground := Ground.data }, { on := 13, ground := Ground.data }], guard := none }) (v := ?v15) rfl (by kernel_rfl) (by kernel_rfl) (by kernel_rfl) (fun _ _ _ h => h) (Or.inl ⟨by rfl, ?hy15⟩) (by assumption) ?rest15
  case hy15 => (intro w1 hSw; (try dsimp only at hSw); obtain ⟨h0, h1, h2, h3, h4, -⟩ := hSw; go_simp; try with_reducible rfl)
  try simp only [Act.put, List.setIfInBounds_toArray, List.set_cons_zero, List.set_cons_succ]
  refine wpAnyH_take (i := 15) (oi := { dst := some 22, op := Op.move (Operand.tmp 21), type := 4, pos := "law.go:14", after := #[{ on := 14, ground := Ground.data }, { on := 8, ground := Ground.chain }], guard := none }) (v := ?v16) rfl (by kernel_rfl) (by kernel_rfl) (by kernel_rfl) (fun _ _ _ h => h) (Or.inl ⟨by rfl, ?hy16⟩) (by assumption) ?rest16
  case hy16 => (intro w1 hSw; (try dsimp only at hSw); obtain ⟨h0, h1, h2, h3, h4, -⟩ := hSw; go_simp; try with_reducible rfl)
  try simp only [Act.put, List.setIfInBounds_toArray, List.set_cons_zero, List.set_cons_succ]
  refine wpAnyH_take (i := 16) (oi := { dst := some 23, op := Op.load 26 (Operand.tmp 1), type := 26, pos := "law.go:14", after := #[{ on := 15, ground := Ground.guard }], guard := some (15, true) }) (v := ?v17) rfl (by kernel_rfl) (by kernel_rfl) (by kernel_rfl) (fun _ _ _ h => h) (Or.inl ⟨by rfl, ?hy17⟩) (by assumption) ?rest17
  case hy17 => (intro w1 hSw; (try dsimp only at hSw); obtain ⟨h0, h1, h2, h3, h4, -⟩ := hSw; go_simp; try with_reducible rfl)
  try simp only [Act.put, List.setIfInBounds_toArray, List.set_cons_zero, List.set_cons_succ]
  refine wpAnyH_ready (rs := [17]) (by kernel_rfl) (by simp) ?_
  refine AllReadyH.cons (o := { dst := some 24, op := Op.call { callee := Callee.value (Operand.func 21), args := #[Operand.tmp 23, Operand.const (Value.string { data := #[122, 122] })], argTypes := #[26, 9] }, type := 4, pos := "law.go:14", after := #[{ on := 16, ground := Ground.data }, { on := 15, ground := Ground.chain }, { on := 15, ground := Ground.guard }], guard := some (15, true) }) rfl (fun K hK => ?_) AllReadyH.nil
  go_simp
  refine (has_any (sl := [[97], [98]]) q6 ex_h1).mono ?_
  rintro e w10 ⟨rfl, hb11⟩
  have q12 := q4.later hb11
  have q13 := q5.later hb11
  have q14 := q6.later hb11
  have q15 := q7.later hb11
  have q16 := q8.later hb11
  have q17 := q9.later hb11
  refine hK.out _ _ (⟨q12.cell 0, q12.cell 1, q13.cell 0, q13.cell 1, q16.2, trivial⟩) (fun hHeld => ?_)
  clear hK K
  try simp only [Act.put, List.setIfInBounds_toArray, List.set_cons_zero, List.set_cons_succ]
  refine wpAnyH_take (i := 18) (oi := { dst := some 25, op := Op.pick (Operand.tmp 22) (Operand.tmp 24) (Operand.const (Value.bool false)), type := 4, pos := "law.go:14", after := #[{ on := 15, ground := Ground.data }, { on := 17, ground := Ground.data }], guard := none }) (v := ?v18) rfl (by kernel_rfl) (by kernel_rfl) (by kernel_rfl) (fun _ _ _ h => h) (Or.inl ⟨by rfl, ?hy18⟩) (by assumption) ?rest18
  case hy18 => (intro w1 hSw; (try dsimp only at hSw); obtain ⟨h0, h1, h2, h3, h4, -⟩ := hSw; go_simp; try with_reducible rfl)
  try simp only [Act.put, List.setIfInBounds_toArray, List.set_cons_zero, List.set_cons_succ]
  refine wpAnyH_take (i := 19) (oi := { dst := some 26, op := Op.move (Operand.tmp 25), type := 4, pos := "law.go:14", after := #[{ on := 18, ground := Ground.data }, { on := 17, ground := Ground.chain }], guard := none }) (v := ?v19) rfl (by kernel_rfl) (by kernel_rfl) (by kernel_rfl) (fun _ _ _ h => h) (Or.inl ⟨by rfl, ?hy19⟩) (by assumption) ?rest19
  case hy19 => (intro w1 hSw; (try dsimp only at hSw); obtain ⟨h0, h1, h2, h3, h4, -⟩ := hSw; go_simp; try with_reducible rfl)
  try simp only [Act.put, List.setIfInBounds_toArray, List.set_cons_zero, List.set_cons_succ]
  refine wpAnyH_take (i := 20) (oi := { dst := some 27, op := Op.load 26 (Operand.tmp 1), type := 26, pos := "law.go:14", after := #[{ on := 19, ground := Ground.guard }], guard := some (19, true) }) (v := ?v20) rfl (by kernel_rfl) (by kernel_rfl) (by kernel_rfl) (fun _ _ _ h => h) (Or.inl ⟨by rfl, ?hy20⟩) (by assumption) ?rest20
  case hy20 => (intro w1 hSw; (try dsimp only at hSw); obtain ⟨h0, h1, h2, h3, h4, -⟩ := hSw; go_simp; try with_reducible rfl)
  try simp only [Act.put, List.setIfInBounds_toArray, List.set_cons_zero, List.set_cons_succ]
  refine wpAnyH_ready (rs := [21]) (by kernel_rfl) (by simp) ?_
  refine AllReadyH.cons (o := { dst := some 28, op := Op.call { callee := Callee.value (Operand.func 21), args := #[Operand.tmp 27, Operand.const (Value.string { data := #[88] })], argTypes := #[26, 9] }, type := 4, pos := "law.go:14", after := #[{ on := 20, ground := Ground.data }, { on := 19, ground := Ground.chain }, { on := 19, ground := Ground.guard }], guard := some (19, true) }) rfl (fun K hK => ?_) AllReadyH.nil
  go_simp
  refine (has_any (sl := [[97], [98]]) q14 ex_h2).mono ?_
  rintro e w18 ⟨rfl, hb19⟩
  have q20 := q12.later hb19
  have q21 := q13.later hb19
  have q22 := q14.later hb19
  have q23 := q15.later hb19
  have q24 := q16.later hb19
  have q25 := q17.later hb19
  refine hK.out _ _ (⟨q20.cell 0, q20.cell 1, q21.cell 0, q21.cell 1, q24.2, trivial⟩) (fun hHeld => ?_)
  clear hK K
  try simp only [Act.put, List.setIfInBounds_toArray, List.set_cons_zero, List.set_cons_succ]
  refine wpAnyH_take (i := 22) (oi := { dst := some 29, op := Op.unOp UnOp.not 4 (Operand.tmp 28), type := 4, pos := "law.go:14", after := #[{ on := 21, ground := Ground.data }, { on := 19, ground := Ground.guard }], guard := some (19, true) }) (v := ?v21) rfl (by kernel_rfl) (by kernel_rfl) (by kernel_rfl) (fun _ _ _ h => h) (Or.inl ⟨by rfl, ?hy21⟩) (by assumption) ?rest21
  case hy21 => (intro w1 hSw; (try dsimp only at hSw); obtain ⟨h0, h1, h2, h3, h4, -⟩ := hSw; go_simp; try with_reducible rfl)
  try simp only [Act.put, List.setIfInBounds_toArray, List.set_cons_zero, List.set_cons_succ]
  refine wpAnyH_take (i := 23) (oi := { dst := some 30, op := Op.pick (Operand.tmp 26) (Operand.tmp 29) (Operand.const (Value.bool false)), type := 4, pos := "law.go:14", after := #[{ on := 19, ground := Ground.data }, { on := 22, ground := Ground.data }], guard := none }) (v := ?v22) rfl (by kernel_rfl) (by kernel_rfl) (by kernel_rfl) (fun _ _ _ h => h) (Or.inl ⟨by rfl, ?hy22⟩) (by assumption) ?rest22
  case hy22 => (intro w1 hSw; (try dsimp only at hSw); obtain ⟨h0, h1, h2, h3, h4, -⟩ := hSw; go_simp; try with_reducible rfl)
  try simp only [Act.put, List.setIfInBounds_toArray, List.set_cons_zero, List.set_cons_succ]
  refine wpAnyH_take (i := 24) (oi := { dst := some 31, op := Op.move (Operand.tmp 30), type := 4, pos := "law.go:14", after := #[{ on := 23, ground := Ground.data }, { on := 21, ground := Ground.chain }], guard := none }) (v := ?v23) rfl (by kernel_rfl) (by kernel_rfl) (by kernel_rfl) (fun _ _ _ h => h) (Or.inl ⟨by rfl, ?hy23⟩) (by assumption) ?rest23
  case hy23 => (intro w1 hSw; (try dsimp only at hSw); obtain ⟨h0, h1, h2, h3, h4, -⟩ := hSw; go_simp; try with_reducible rfl)
  try simp only [Act.put, List.setIfInBounds_toArray, List.set_cons_zero, List.set_cons_succ]
  refine wpAnyH_take (i := 25) (oi := { dst := some 32, op := Op.load 26 (Operand.tmp 2), type := 26, pos := "law.go:14", after := #[{ on := 24, ground := Ground.guard }], guard := some (24, true) }) (v := ?v24) rfl (by kernel_rfl) (by kernel_rfl) (by kernel_rfl) (fun _ _ _ h => h) (Or.inl ⟨by rfl, ?hy24⟩) (by assumption) ?rest24
  case hy24 => (intro w1 hSw; (try dsimp only at hSw); obtain ⟨h0, h1, h2, h3, h4, -⟩ := hSw; go_simp; try with_reducible rfl)
  try simp only [Act.put, List.setIfInBounds_toArray, List.set_cons_zero, List.set_cons_succ]
  refine wpAnyH_ready (rs := [26]) (by kernel_rfl) (by simp) ?_
  refine AllReadyH.cons (o := { dst := some 33, op := Op.call { callee := Callee.value (Operand.func 21), args := #[Operand.tmp 32, Operand.const (Value.string { data := #[98] })], argTypes := #[26, 9] }, type := 4, pos := "law.go:14", after := #[{ on := 25, ground := Ground.data }, { on := 24, ground := Ground.chain }, { on := 24, ground := Ground.guard }], guard := some (24, true) }) rfl (fun K hK => ?_) AllReadyH.nil
  go_simp
  refine (has_any (sl := [[97]]) q23 ex_h3).mono ?_
  rintro e w26 ⟨rfl, hb27⟩
  have q28 := q20.later hb27
  have q29 := q21.later hb27
  have q30 := q22.later hb27
  have q31 := q23.later hb27
  have q32 := q24.later hb27
  have q33 := q25.later hb27
  refine hK.out _ _ (⟨q28.cell 0, q28.cell 1, q29.cell 0, q29.cell 1, q32.2, trivial⟩) (fun hHeld => ?_)
  clear hK K
  try simp only [Act.put, List.setIfInBounds_toArray, List.set_cons_zero, List.set_cons_succ]
  refine wpAnyH_take (i := 27) (oi := { dst := some 34, op := Op.unOp UnOp.not 4 (Operand.tmp 33), type := 4, pos := "law.go:14", after := #[{ on := 26, ground := Ground.data }, { on := 24, ground := Ground.guard }], guard := some (24, true) }) (v := ?v25) rfl (by kernel_rfl) (by kernel_rfl) (by kernel_rfl) (fun _ _ _ h => h) (Or.inl ⟨by rfl, ?hy25⟩) (by assumption) ?rest25
  case hy25 => (intro w1 hSw; (try dsimp only at hSw); obtain ⟨h0, h1, h2, h3, h4, -⟩ := hSw; go_simp; try with_reducible rfl)
  try simp only [Act.put, List.setIfInBounds_toArray, List.set_cons_zero, List.set_cons_succ]
  refine wpAnyH_take (i := 28) (oi := { dst := some 35, op := Op.pick (Operand.tmp 31) (Operand.tmp 34) (Operand.const (Value.bool false)), type := 4, pos := "law.go:14", after := #[{ on := 24, ground := Ground.data }, { on := 27, ground := Ground.data }], guard := none }) (v := ?v26) rfl (by kernel_rfl) (by kernel_rfl) (by kernel_rfl) (fun _ _ _ h => h) (Or.inl ⟨by rfl, ?hy26⟩) (by assumption) ?rest26
  case hy26 => (intro w1 hSw; (try dsimp only at hSw); obtain ⟨h0, h1, h2, h3, h4, -⟩ := hSw; go_simp; try with_reducible rfl)
  try simp only [Act.put, List.setIfInBounds_toArray, List.set_cons_zero, List.set_cons_succ]
  refine wpAnyH_take (i := 29) (oi := { dst := some 36, op := Op.move (Operand.tmp 35), type := 4, pos := "law.go:14", after := #[{ on := 28, ground := Ground.data }, { on := 26, ground := Ground.chain }], guard := none }) (v := ?v27) rfl (by kernel_rfl) (by kernel_rfl) (by kernel_rfl) (fun _ _ _ h => h) (Or.inl ⟨by rfl, ?hy27⟩) (by assumption) ?rest27
  case hy27 => (intro w1 hSw; (try dsimp only at hSw); obtain ⟨h0, h1, h2, h3, h4, -⟩ := hSw; go_simp; try with_reducible rfl)
  try simp only [Act.put, List.setIfInBounds_toArray, List.set_cons_zero, List.set_cons_succ]
  refine wpAnyH_take (i := 30) (oi := { dst := some 37, op := Op.load 26 (Operand.tmp 2), type := 26, pos := "law.go:14", after := #[{ on := 29, ground := Ground.guard }], guard := some (29, true) }) (v := ?v28) rfl (by kernel_rfl) (by kernel_rfl) (by kernel_rfl) (fun _ _ _ h => h) (Or.inl ⟨by rfl, ?hy28⟩) (by assumption) ?rest28
  case hy28 => (intro w1 hSw; (try dsimp only at hSw); obtain ⟨h0, h1, h2, h3, h4, -⟩ := hSw; go_simp; try with_reducible rfl)
  try simp only [Act.put, List.setIfInBounds_toArray, List.set_cons_zero, List.set_cons_succ]
  refine wpAnyH_ready (rs := [31]) (by kernel_rfl) (by simp) ?_
  refine AllReadyH.cons (o := { dst := some 38, op := Op.call { callee := Callee.value (Operand.func 21), args := #[Operand.tmp 37, Operand.const (Value.string { data := #[97] })], argTypes := #[26, 9] }, type := 4, pos := "law.go:14", after := #[{ on := 30, ground := Ground.data }, { on := 29, ground := Ground.chain }, { on := 29, ground := Ground.guard }], guard := some (29, true) }) rfl (fun K hK => ?_) AllReadyH.nil
  go_simp
  refine (has_any (sl := [[97]]) q31 ex_h4).mono ?_
  rintro e w34 ⟨rfl, hb35⟩
  have q36 := q28.later hb35
  have q37 := q29.later hb35
  have q38 := q30.later hb35
  have q39 := q31.later hb35
  have q40 := q32.later hb35
  have q41 := q33.later hb35
  refine hK.out _ _ (⟨q36.cell 0, q36.cell 1, q37.cell 0, q37.cell 1, q40.2, trivial⟩) (fun hHeld => ?_)
  clear hK K
  try simp only [Act.put, List.setIfInBounds_toArray, List.set_cons_zero, List.set_cons_succ]
  refine wpAnyH_take (i := 32) (oi := { dst := some 39, op := Op.pick (Operand.tmp 36) (Operand.tmp 38) (Operand.const (Value.bool false)), type := 4, pos := "law.go:14", after := #[{ on := 29, ground := Ground.data }, { on := 31, ground := Ground.data }], guard := none }) (v := ?v29) rfl (by kernel_rfl) (by kernel_rfl) (by kernel_rfl) (fun _ _ _ h => h) (Or.inl ⟨by rfl, ?hy29⟩) (by assumption) ?rest29
  case hy29 => (intro w1 hSw; (try dsimp only at hSw); obtain ⟨h0, h1, h2, h3, h4, -⟩ := hSw; go_simp; try with_reducible rfl)
  try simp only [Act.put, List.setIfInBounds_toArray, List.set_cons_zero, List.set_cons_succ]
  refine wpAnyH_take (i := 33) (oi := { dst := some 40, op := Op.move (Operand.tmp 39), type := 4, pos := "law.go:14", after := #[{ on := 32, ground := Ground.data }, { on := 31, ground := Ground.chain }], guard := none }) (v := ?v30) rfl (by kernel_rfl) (by kernel_rfl) (by kernel_rfl) (fun _ _ _ h => h) (Or.inl ⟨by rfl, ?hy30⟩) (by assumption) ?rest30
  case hy30 => (intro w1 hSw; (try dsimp only at hSw); obtain ⟨h0, h1, h2, h3, h4, -⟩ := hSw; go_simp; try with_reducible rfl)
  try simp only [Act.put, List.setIfInBounds_toArray, List.set_cons_zero, List.set_cons_succ]
  refine wpAnyH_take (i := 34) (oi := { dst := some 41, op := Op.load 26 (Operand.tmp 1), type := 26, pos := "law.go:14", after := #[{ on := 33, ground := Ground.guard }], guard := some (33, true) }) (v := ?v31) rfl (by kernel_rfl) (by kernel_rfl) (by kernel_rfl) (fun _ _ _ h => h) (Or.inl ⟨by rfl, ?hy31⟩) (by assumption) ?rest31
  case hy31 => (intro w1 hSw; (try dsimp only at hSw); obtain ⟨h0, h1, h2, h3, h4, -⟩ := hSw; go_simp; try with_reducible rfl)
  try simp only [Act.put, List.setIfInBounds_toArray, List.set_cons_zero, List.set_cons_succ]
  refine wpAnyH_take (i := 35) (oi := { dst := some 42, op := Op.load 26 (Operand.tmp 2), type := 26, pos := "law.go:14", after := #[{ on := 33, ground := Ground.guard }], guard := some (33, true) }) (v := ?v32) rfl (by kernel_rfl) (by kernel_rfl) (by kernel_rfl) (fun _ _ _ h => h) (Or.inl ⟨by rfl, ?hy32⟩) (by assumption) ?rest32
  case hy32 => (intro w1 hSw; (try dsimp only at hSw); obtain ⟨h0, h1, h2, h3, h4, -⟩ := hSw; go_simp; try with_reducible rfl)
  try simp only [Act.put, List.setIfInBounds_toArray, List.set_cons_zero, List.set_cons_succ]
  refine wpAnyH_take (i := 38) (oi := { dst := some 45, op := Op.load 26 (Operand.tmp 1), type := 26, pos := "law.go:14", after := #[{ on := 33, ground := Ground.guard }], guard := some (33, true) }) (v := ?v33) rfl (by kernel_rfl) (by kernel_rfl) (by kernel_rfl) (fun _ _ _ h => h) (Or.inl ⟨by rfl, ?hy33⟩) (by assumption) ?rest33
  case hy33 => (intro w1 hSw; (try dsimp only at hSw); obtain ⟨h0, h1, h2, h3, h4, -⟩ := hSw; go_simp; try with_reducible rfl)
  try simp only [Act.put, List.setIfInBounds_toArray, List.set_cons_zero, List.set_cons_succ]
  refine wpAnyH_ready (rs := [36]) (by kernel_rfl) (by simp) ?_
  refine AllReadyH.cons (o := { dst := some 43, op := Op.buildSlice 54 2 #[(0, Operand.tmp 41), (1, Operand.tmp 42)], type := 54, pos := "law.go:14", after := #[{ on := 34, ground := Ground.data }, { on := 35, ground := Ground.data }, { on := 33, ground := Ground.guard }], guard := some (33, true) }) rfl (fun K hK => ?_) AllReadyH.nil
  go_simp
  obtain ⟨w42, hw43, hb44, p45⟩ := alloc_new w34 #[.bool true, .slice (some ⟨bb, oo, none⟩) 2 c2, .bool false, .slice a5 1 c5] 26
  have q46 := q36.later hb44
  have q47 := q37.later hb44
  have q48 := q38.later hb44
  have q49 := q39.later hb44
  have q50 := q40.later hb44
  have q51 := q41.later hb44
  rw [hw43]
  refine hK.out _ _ (⟨q46.cell 0, q46.cell 1, q47.cell 0, q47.cell 1, q50.2, trivial⟩) (fun hHeld => ?_)
  clear hK K
  try simp only [Act.put, List.setIfInBounds_toArray, List.set_cons_zero, List.set_cons_succ]
  refine wpAnyH_ready (rs := [37]) (by kernel_rfl) (by simp) ?_
  refine AllReadyH.cons (o := { dst := some 44, op := Op.call { callee := Callee.value (Operand.func 9), args := #[Operand.tmp 43], argTypes := #[54] }, type := 26, pos := "law.go:14", after := #[{ on := 36, ground := Ground.data }, { on := 33, ground := Ground.chain }, { on := 33, ground := Ground.guard }], guard := some (33, true) }) rfl (fun K hK => ?_) AllReadyH.nil
  go_simp
  refine (union_any (n := 2) (sets_two (l1 := [[97], [98]]) (l2 := [[97]]) p45 q48 rfl q49 rfl) rfl ex_fu ex_u).mono ?_
  rintro e w55 ⟨a52, c53, rfl, h54, hb56⟩
  have q57 := q46.later hb56
  have q58 := q47.later hb56
  have q59 := q48.later hb56
  have q60 := q49.later hb56
  have q61 := q50.later hb56
  have q62 := q51.later hb56
  have q63 := p45.later hb56
  refine hK.out _ _ (⟨q57.cell 0, q57.cell 1, q58.cell 0, q58.cell 1, q61.2, trivial⟩) (fun hHeld => ?_)
  clear hK K
  try simp only [Act.put, List.setIfInBounds_toArray, List.set_cons_zero, List.set_cons_succ]
  refine wpAnyH_ready (rs := [39]) (by kernel_rfl) (by simp) ?_
  refine AllReadyH.cons (o := { dst := some 46, op := Op.call { callee := Callee.value (Operand.func 19), args := #[Operand.tmp 44, Operand.tmp 45], argTypes := #[26, 26] }, type := 4, pos := "law.go:14", after := #[{ on := 37, ground := Ground.data }, { on := 38, ground := Ground.data }, { on := 37, ground := Ground.chain }, { on := 33, ground := Ground.guard }], guard := some (33, true) }) rfl (fun K hK => ?_) AllReadyH.nil
  go_simp
  refine (same_any (al := [[97], [98]]) (bl := [[97], [98]]) h54 q59 (fitK 5 (by decide) (by omega)) (fitK 5 (by decide) (by omega)) ex_same).mono ?_
  rintro e w64 ⟨rfl, hb65⟩
  have q66 := q57.later hb65
  have q67 := q58.later hb65
  have q68 := q59.later hb65
  have q69 := q60.later hb65
  have q70 := q61.later hb65
  have q71 := q62.later hb65
  have q72 := q63.later hb65
  have q73 := h54.later hb65
  refine hK.out _ _ (⟨q66.cell 0, q66.cell 1, q67.cell 0, q67.cell 1, q70.2, trivial⟩) (fun hHeld => ?_)
  clear hK K
  try simp only [Act.put, List.setIfInBounds_toArray, List.set_cons_zero, List.set_cons_succ]
  refine wpAnyH_take (i := 40) (oi := { dst := some 47, op := Op.pick (Operand.tmp 40) (Operand.tmp 46) (Operand.const (Value.bool false)), type := 4, pos := "law.go:14", after := #[{ on := 33, ground := Ground.data }, { on := 39, ground := Ground.data }], guard := none }) (v := ?v34) rfl (by kernel_rfl) (by kernel_rfl) (by kernel_rfl) (fun _ _ _ h => h) (Or.inl ⟨by rfl, ?hy34⟩) (by assumption) ?rest34
  case hy34 => (intro w1 hSw; (try dsimp only at hSw); obtain ⟨h0, h1, h2, h3, h4, -⟩ := hSw; go_simp; try with_reducible rfl)
  try simp only [Act.put, List.setIfInBounds_toArray, List.set_cons_zero, List.set_cons_succ]
  refine wpAnyH_take (i := 41) (oi := { dst := some 48, op := Op.move (Operand.tmp 47), type := 4, pos := "law.go:14", after := #[{ on := 40, ground := Ground.data }, { on := 39, ground := Ground.chain }], guard := none }) (v := ?v35) rfl (by kernel_rfl) (by kernel_rfl) (by kernel_rfl) (fun _ _ _ h => h) (Or.inl ⟨by rfl, ?hy35⟩) (by assumption) ?rest35
  case hy35 => (intro w1 hSw; (try dsimp only at hSw); obtain ⟨h0, h1, h2, h3, h4, -⟩ := hSw; go_simp; try with_reducible rfl)
  try simp only [Act.put, List.setIfInBounds_toArray, List.set_cons_zero, List.set_cons_succ]
  refine wpAnyH_take (i := 42) (oi := { dst := some 49, op := Op.load 26 (Operand.tmp 1), type := 26, pos := "law.go:14", after := #[{ on := 41, ground := Ground.guard }], guard := some (41, true) }) (v := ?v36) rfl (by kernel_rfl) (by kernel_rfl) (by kernel_rfl) (fun _ _ _ h => h) (Or.inl ⟨by rfl, ?hy36⟩) (by assumption) ?rest36
  case hy36 => (intro w1 hSw; (try dsimp only at hSw); obtain ⟨h0, h1, h2, h3, h4, -⟩ := hSw; go_simp; try with_reducible rfl)
  try simp only [Act.put, List.setIfInBounds_toArray, List.set_cons_zero, List.set_cons_succ]
  refine wpAnyH_ready (rs := [43]) (by kernel_rfl) (by simp) ?_
  refine AllReadyH.cons (o := { dst := some 50, op := Op.call { callee := Callee.value (Operand.func 22), args := #[Operand.tmp 49], argTypes := #[26] }, type := 24, pos := "law.go:14", after := #[{ on := 42, ground := Ground.data }, { on := 41, ground := Ground.chain }, { on := 41, ground := Ground.guard }], guard := some (41, true) }) rfl (fun K hK => ?_) AllReadyH.nil
  go_simp
  refine (list_any (sl := [[97], [98]]) q68 (L := [[42], [97], [98]]) ex_l (by decide)).mono ?_
  rintro e w76 ⟨a74, c75, rfl, -, hb77⟩
  have q78 := q66.later hb77
  have q79 := q67.later hb77
  have q80 := q68.later hb77
  have q81 := q69.later hb77
  have q82 := q70.later hb77
  have q83 := q71.later hb77
  have q84 := q72.later hb77
  have q85 := q73.later hb77
  refine hK.out _ _ (⟨q78.cell 0, q78.cell 1, q79.cell 0, q79.cell 1, q82.2, trivial⟩) (fun hHeld => ?_)
  clear hK K
  try simp only [Act.put, List.setIfInBounds_toArray, List.set_cons_zero, List.set_cons_succ]
  refine wpAnyH_take (i := 44) (oi := { dst := some 51, op := Op.call { callee := Callee.builtin Builtin.len, args := #[Operand.tmp 50], argTypes := #[24] }, type := 3, pos := "law.go:14", after := #[{ on := 43, ground := Ground.data }, { on := 41, ground := Ground.guard }], guard := some (41, true) }) (v := ?v37) rfl (by kernel_rfl) (by kernel_rfl) (by kernel_rfl) (fun _ _ _ h => h) (Or.inl ⟨by rfl, ?hy37⟩) (by assumption) ?rest37
  case hy37 => (intro w1 hSw; (try dsimp only at hSw); obtain ⟨h0, h1, h2, h3, h4, -⟩ := hSw; go_simp; try with_reducible rfl)
  try simp only [Act.put, List.setIfInBounds_toArray, List.set_cons_zero, List.set_cons_succ]
  refine wpAnyH_take (i := 45) (oi := { dst := some 52, op := Op.binOp BinOp.eql 3 (Operand.tmp 51) (Operand.const (Value.int IntKind.i64 3)) 3, type := 4, pos := "law.go:14", after := #[{ on := 44, ground := Ground.data }, { on := 41, ground := Ground.guard }], guard := some (41, true) }) (v := ?v38) rfl (by kernel_rfl) (by kernel_rfl) (by kernel_rfl) (fun _ _ _ h => h) (Or.inl ⟨by rfl, ?hy38⟩) (by assumption) ?rest38
  case hy38 => (intro w1 hSw; (try dsimp only at hSw); obtain ⟨h0, h1, h2, h3, h4, -⟩ := hSw; go_simp; try with_reducible rfl)
  try simp only [Act.put, List.setIfInBounds_toArray, List.set_cons_zero, List.set_cons_succ]
  refine wpAnyH_take (i := 46) (oi := { dst := some 53, op := Op.pick (Operand.tmp 48) (Operand.tmp 52) (Operand.const (Value.bool false)), type := 4, pos := "law.go:14", after := #[{ on := 41, ground := Ground.data }, { on := 45, ground := Ground.data }], guard := none }) (v := ?v39) rfl (by kernel_rfl) (by kernel_rfl) (by kernel_rfl) (fun _ _ _ h => h) (Or.inl ⟨by rfl, ?hy39⟩) (by assumption) ?rest39
  case hy39 => (intro w1 hSw; (try dsimp only at hSw); obtain ⟨h0, h1, h2, h3, h4, -⟩ := hSw; go_simp; try with_reducible rfl)
  try simp only [Act.put, List.setIfInBounds_toArray, List.set_cons_zero, List.set_cons_succ]
  refine wpAnyH_take (i := 47) (oi := { dst := some 54, op := Op.move (Operand.tmp 53), type := 4, pos := "law.go:14", after := #[{ on := 46, ground := Ground.data }, { on := 43, ground := Ground.chain }], guard := none }) (v := ?v40) rfl (by kernel_rfl) (by kernel_rfl) (by kernel_rfl) (fun _ _ _ h => h) (Or.inl ⟨by rfl, ?hy40⟩) (by assumption) ?rest40
  case hy40 => (intro w1 hSw; (try dsimp only at hSw); obtain ⟨h0, h1, h2, h3, h4, -⟩ := hSw; go_simp; try with_reducible rfl)
  try simp only [Act.put, List.setIfInBounds_toArray, List.set_cons_zero, List.set_cons_succ]
  refine wpAnyH_take (i := 48) (oi := { dst := some 55, op := Op.build 26 #[], type := 26, pos := "law.go:14", after := #[{ on := 47, ground := Ground.guard }], guard := some (47, true) }) (v := ?v41) rfl (by kernel_rfl) (by kernel_rfl) (by kernel_rfl) (fun _ _ _ h => h) (Or.inl ⟨by rfl, ?hy41⟩) (by assumption) ?rest41
  case hy41 => (intro w1 hSw; (try dsimp only at hSw); obtain ⟨h0, h1, h2, h3, h4, -⟩ := hSw; go_simp; try with_reducible rfl)
  try simp only [Act.put, List.setIfInBounds_toArray, List.set_cons_zero, List.set_cons_succ]
  refine wpAnyH_ready (rs := [49]) (by kernel_rfl) (by simp) ?_
  refine AllReadyH.cons (o := { dst := some 56, op := Op.call { callee := Callee.value (Operand.func 23), args := #[Operand.tmp 55], argTypes := #[26] }, type := 4, pos := "law.go:14", after := #[{ on := 48, ground := Ground.data }, { on := 47, ground := Ground.chain }, { on := 47, ground := Ground.guard }], guard := some (47, true) }) rfl (fun K hK => ?_) AllReadyH.nil
  go_simp
  refine (empty_any (sl := []) (B := true) rfl).mono ?_
  rintro e w86 ⟨rfl, hb87⟩
  have q88 := q78.later hb87
  have q89 := q79.later hb87
  have q90 := q80.later hb87
  have q91 := q81.later hb87
  have q92 := q82.later hb87
  have q93 := q83.later hb87
  have q94 := q84.later hb87
  have q95 := q85.later hb87
  refine hK.out _ _ (⟨q88.cell 0, q88.cell 1, q89.cell 0, q89.cell 1, q92.2, trivial⟩) (fun hHeld => ?_)
  clear hK K
  try simp only [Act.put, List.setIfInBounds_toArray, List.set_cons_zero, List.set_cons_succ]
  refine wpAnyH_take (i := 50) (oi := { dst := some 57, op := Op.pick (Operand.tmp 54) (Operand.tmp 56) (Operand.const (Value.bool false)), type := 4, pos := "law.go:14", after := #[{ on := 47, ground := Ground.data }, { on := 49, ground := Ground.data }], guard := none }) (v := ?v42) rfl (by kernel_rfl) (by kernel_rfl) (by kernel_rfl) (fun _ _ _ h => h) (Or.inl ⟨by rfl, ?hy42⟩) (by assumption) ?rest42
  case hy42 => (intro w1 hSw; (try dsimp only at hSw); obtain ⟨h0, h1, h2, h3, h4, -⟩ := hSw; go_simp; try with_reducible rfl)
  try simp only [Act.put, List.setIfInBounds_toArray, List.set_cons_zero, List.set_cons_succ]
  refine wpAnyH_take (i := 51) (oi := { dst := some 0, op := Op.assign (Operand.tmp 57), type := 4, pos := "law.go:14", after := #[{ on := 50, ground := Ground.data }, { on := 49, ground := Ground.chain }, { on := 0, ground := Ground.phase }, { on := 1, ground := Ground.phase }, { on := 2, ground := Ground.phase }, { on := 3, ground := Ground.phase }, { on := 4, ground := Ground.phase }, { on := 5, ground := Ground.phase }, { on := 6, ground := Ground.phase }, { on := 7, ground := Ground.phase }, { on := 8, ground := Ground.phase }, { on := 9, ground := Ground.phase }, { on := 10, ground := Ground.phase }, { on := 11, ground := Ground.phase }, { on := 12, ground := Ground.phase }, { on := 13, ground := Ground.phase }, { on := 14, ground := Ground.phase }, { on := 15, ground := Ground.phase }, { on := 16, ground := Ground.phase }, { on := 17, ground := Ground.phase }, { on := 18, ground := Ground.phase }, { on := 19, ground := Ground.phase }, { on := 20, ground := Ground.phase }, { on := 21, ground := Ground.phase }, { on := 22, ground := Ground.phase }, { on := 23, ground := Ground.phase }, { on := 24, ground := Ground.phase }, { on := 25, ground := Ground.phase }, { on := 26, ground := Ground.phase }, { on := 27, ground := Ground.phase }, { on := 28, ground := Ground.phase }, { on := 29, ground := Ground.phase }, { on := 30, ground := Ground.phase }, { on := 31, ground := Ground.phase }, { on := 32, ground := Ground.phase }, { on := 33, ground := Ground.phase }, { on := 34, ground := Ground.phase }, { on := 35, ground := Ground.phase }, { on := 36, ground := Ground.phase }, { on := 37, ground := Ground.phase }, { on := 38, ground := Ground.phase }, { on := 39, ground := Ground.phase }, { on := 40, ground := Ground.phase }, { on := 41, ground := Ground.phase }, { on := 42, ground := Ground.phase }, { on := 43, ground := Ground.phase }, { on := 44, ground := Ground.phase }, { on := 45, ground := Ground.phase }, { on := 46, ground := Ground.phase }, { on := 47, ground := Ground.phase }, { on := 48, ground := Ground.phase }, { on := 49, ground := Ground.phase }, { on := 50, ground := Ground.phase }], guard := none }) (v := ?v43) rfl (by kernel_rfl) (by kernel_rfl) (by kernel_rfl) (fun _ _ _ h => h) (Or.inl ⟨by rfl, ?hy43⟩) (by assumption) ?rest43
  case hy43 => (intro w1 hSw; (try dsimp only at hSw); obtain ⟨h0, h1, h2, h3, h4, -⟩ := hSw; go_simp; try with_reducible rfl)
  try simp only [Act.put, List.setIfInBounds_toArray, List.set_cons_zero, List.set_cons_succ]
  refine wpAnyH_done (by kernel_rfl) ?_ _
  go_wp2_with fail
  go_ret
  exact ⟨rfl, q93⟩
end Go.Proofs.Ytdcfdcjgheijcaa
