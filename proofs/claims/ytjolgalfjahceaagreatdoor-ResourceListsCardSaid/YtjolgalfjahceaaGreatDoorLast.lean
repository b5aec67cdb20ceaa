/- Last: the walk. -/
import Derived.Test.YtjolgalfjahceaaGreatDoorWith
import Derived.RegionIn
import Derived.BigRegionIn
namespace Go.Proofs.YtjolgalfjahceaaGreatDoor
open Go.RowKit Go.Shelf
attribute [local go_sem] Oper.semAt_some

theorem withNum_in (n : Nat) (v : Value) (num : Int) (w : World) (hv : ∃ a l c, v = .slice a l c) :
    CallsIn Fence.wide n Tryz.prog 74 #[v, .int .i64 num] w fun e w' => e = .returned (.func (.func 88) #[] #[.pointer (some ⟨w.heap.size, 0, none⟩), .pointer (some ⟨w.heap.size + 1, 0, none⟩)]) ∧ w' = (w.alloc (.cells #[v] 57)).alloc (.cells #[.int .i64 num] 3) := by
  obtain ⟨a, l, c, rfl⟩ := hv
  refine callsIn_of_wp Tryz.func74 rfl trivial ?_ rfl
  simp only [Tryz.ntmps74, List.size_toArray, List.length_cons, List.length_nil, Nat.reduceAdd, Nat.reduceSub, Array.replicate_succ, Array.replicate_zero, List.push_toArray, List.append_toArray, List.nil_append, List.cons_append]
  gi_wp2
  go_ret
  exact ⟨rfl, rfl⟩

theorem with_stops (n : Nat) (hn : 1 ≤ n) (Bs Bn g cap L : Nat) (a0 : Option Addr) (ha : 0 < L → a0 = some ⟨g, 0, none⟩) (num : Int) (fs : List Fd) (hL : fs.length = L) (hLb : L ≤ 1099511627776) (w : World)
    (hBs : w.cell? ⟨Bs, 0, none⟩ = some (.slice a0 L cap)) (hBsl : Bs < w.heap.size) (hBn : w.cell? ⟨Bn, 0, none⟩ = some (.int .i64 num)) (hBl : Bn < w.heap.size) (hr : RowAt w g fs) :
    SeqStopsK Fence.wide n Tryz.prog 88 #[.pointer (some ⟨Bs, 0, none⟩), .pointer (some ⟨Bn, 0, none⟩)] (fun x : Fd => #[.agg #[.int .i64 x.num, .int .i64 x.kind, .int .u64 x.n, .string ⟨x.s.toArray⟩]]) (KpC Bn g) (fun xs => xs = withL num fs) (fun _ => True) (L + 1) w := fun l J Jx W hW hJ _ hY h0 =>
  with1_in n hn l Bs Bn g cap L a0 ha num fs hL hLb J Jx W hJ hY ((hW.cell (p := ⟨Bs, 0, none⟩) hBsl).trans hBs) ((hW.cell (p := ⟨Bn, 0, none⟩) hBl).trans hBn) (Nat.lt_of_lt_of_le hBl hW.size) (hr.below hW) h0

/-- A store into a block of four. -/
theorem Blk.set {W : World} {B : Nat} {c : Array Value} {t : TypeId} (h : Blk W B c t) (j : Nat) (v : Value) : Blk (W.setCell ⟨B, j, none⟩ v) B (c.setIfInBounds j v) t := by
  obtain ⟨hlt, hk⟩ := Array.getElem?_eq_some_iff.1 h
  show (W.heap.modify B _)[B]? = _
  rw [Array.getElem?_eq_getElem (by rw [Array.size_modify]; exact hlt), Array.getElem_modify_self, hk]
  rfl
theorem Blk.other {W : World} {B B' : Nat} {c : Array Value} {t : TypeId} (h : Blk W B c t) (hne : B ≠ B') (j : Nat) (u : Value) : Blk (W.setCell ⟨B', j, none⟩ u) B c t := by
  show (W.heap.modify B' _)[B]? = _
  rw [Array.getElem?_modify, if_neg (by omega)]
  exact h
theorem Blk.frozen {W : World} {B : Nat} {c : Array Value} {t : TypeId} (h : Blk W B c t) (j : Nat) : W.frozen? ⟨B, j, none⟩ = false := by
  simp [World.frozen?, show W.heap[B]? = _ from h]
theorem Blk.alloc {W : World} {B : Nat} {c : Array Value} {t : TypeId} (h : Blk W B c t) (O : Obj) : Blk (W.alloc O) B c t := h.kept (World.grownBy_alloc W O none) (by simp)

def lastCells (pre : List Fd) : Array Value :=
  match pre.getLast? with
  | none => #[.int .i64 0, .int .i64 0, .int .u64 0, .string ⟨#[]⟩]
  | some f => #[.int .i64 f.num, .int .i64 f.kind, .int .u64 f.n, .string ⟨f.s.toArray⟩]
theorem lastCells_snoc (pre : List Fd) (f : Fd) : lastCells (pre ++ [f]) = #[.int .i64 f.num, .int .i64 f.kind, .int .u64 f.n, .string ⟨f.s.toArray⟩] := by simp [lastCells]

theorem blk_own {β : Type} (B : Nat) (t : TypeId) (f : β → Array Value) : Own (fun s W => Blk W B (f s) t) := fun _ _ _ _ hs hg hrow => hs.own hg hrow

set_option maxRecDepth 100000 in
set_option maxHeartbeats 4000000 in
theorem last0_in (g cap L : Nat) (a0 : Option Addr) (ha : 0 < L → a0 = some ⟨g, 0, none⟩) (num : Int) (fs : List Fd) (hL : fs.length = L) (hLb : L ≤ 1099511627776) (w : World) (hr : RowAt w g fs) :
    CallsIn Fence.wide 9 Tryz.prog 53 #[.slice a0 L cap, .int .i64 num] w fun e w' => e = .returned (.tuple #[.agg (lastCells (withL num fs)), .bool (!(withL num fs).isEmpty)]) ∧ Below w.heap.size w w' := by
  refine callsIn_of_wp_marks Tryz.func53 rfl trivial ?_ rfl
  simp only [Tryz.ntmps53, List.size_toArray, List.length_cons, List.length_nil, Nat.reduceAdd, Nat.reduceSub, Array.replicate_succ, Array.replicate_zero, List.push_toArray, List.append_toArray, List.nil_append, List.cons_append]
  gi_wp2_with (refine ⟨trivial, ?_⟩; gi_at_call 74; refine (withNum_in _ _ _ _ ⟨_, _, _, rfl⟩).mono ?_; rintro e w' ⟨rfl, rfl⟩)
  have q2 : Blk ((((w.alloc (.cells #[.int .i64 0, .int .i64 0, .int .u64 0, .string ⟨#[]⟩] 62)).alloc (.cells #[.bool false] 4)).alloc (.cells #[(.slice a0 L cap)] 57)).alloc (.cells #[.int .i64 num] 3)) w.heap.size #[.int .i64 0, .int .i64 0, .int .u64 0, .string ⟨#[]⟩] 62 := (((Blk.new w #[.int .i64 0, .int .i64 0, .int .u64 0, .string ⟨#[]⟩] 62).alloc _).alloc _).alloc _
  have q3 : Boxed ((((w.alloc (.cells #[.int .i64 0, .int .i64 0, .int .u64 0, .string ⟨#[]⟩] 62)).alloc (.cells #[.bool false] 4)).alloc (.cells #[(.slice a0 L cap)] 57)).alloc (.cells #[.int .i64 num] 3)) (w.heap.size + 1) 4 (.bool false) := by
    have h := ((Boxed.new (w.alloc (.cells #[.int .i64 0, .int .i64 0, .int .u64 0, .string ⟨#[]⟩] 62)) 4 (.bool false)).alloc (.cells #[(.slice a0 L cap)] 57)).alloc (.cells #[.int .i64 num] 3)
    simpa using h
  have qS : Boxed ((((w.alloc (.cells #[.int .i64 0, .int .i64 0, .int .u64 0, .string ⟨#[]⟩] 62)).alloc (.cells #[.bool false] 4)).alloc (.cells #[(.slice a0 L cap)] 57)).alloc (.cells #[.int .i64 num] 3)) (w.heap.size + 1 + 1) 57 (.slice a0 L cap) := by
    have h := (Boxed.new ((w.alloc (.cells #[.int .i64 0, .int .i64 0, .int .u64 0, .string ⟨#[]⟩] 62)).alloc (.cells #[.bool false] 4)) 57 (.slice a0 L cap)).alloc (.cells #[.int .i64 num] 3)
    simpa using h
  have qN : Boxed ((((w.alloc (.cells #[.int .i64 0, .int .i64 0, .int .u64 0, .string ⟨#[]⟩] 62)).alloc (.cells #[.bool false] 4)).alloc (.cells #[(.slice a0 L cap)] 57)).alloc (.cells #[.int .i64 num] 3)) (w.heap.size + 1 + 1 + 1) 3 (.int .i64 num) := by
    have h := Boxed.new (((w.alloc (.cells #[.int .i64 0, .int .i64 0, .int .u64 0, .string ⟨#[]⟩] 62)).alloc (.cells #[.bool false] 4)).alloc (.cells #[(.slice a0 L cap)] 57)) 3 (.int .i64 num)
    simpa using h
  have hB0 : Below w.heap.size w ((((w.alloc (.cells #[.int .i64 0, .int .i64 0, .int .u64 0, .string ⟨#[]⟩] 62)).alloc (.cells #[.bool false] 4)).alloc (.cells #[(.slice a0 L cap)] 57)).alloc (.cells #[.int .i64 num] 3)) := ((((Below.refl _ w).alloc (Nat.le_refl _) _).alloc (by simp) _).alloc (by simp; omega) _).alloc (by simp; omega) _
  have hsz : ((((w.alloc (.cells #[.int .i64 0, .int .i64 0, .int .u64 0, .string ⟨#[]⟩] 62)).alloc (.cells #[.bool false] 4)).alloc (.cells #[(.slice a0 L cap)] 57)).alloc (.cells #[.int .i64 num] 3)).heap.size = w.heap.size + 4 := by simp
  obtain ⟨W0, hW0⟩ : ∃ W0, ((((w.alloc (.cells #[.int .i64 0, .int .i64 0, .int .u64 0, .string ⟨#[]⟩] 62)).alloc (.cells #[.bool false] 4)).alloc (.cells #[(.slice a0 L cap)] 57)).alloc (.cells #[.int .i64 num] 3)) = W0 := ⟨_, rfl⟩
  rw [hW0] at q2 q3 qS qN hB0 hsz ⊢
  clear hW0
  have hgl := hr.1
  refine wpIn_rangeFunc_ownH rfl (by omega) (gf := 88) (lb := #[.pointer (some ⟨w.heap.size + 1 + 1, 0, none⟩), .pointer (some ⟨w.heap.size + 1 + 1 + 1, 0, none⟩)]) rfl trivial (enters_of Tryz.func88 (by kernel_rfl) rfl)
    (with_stops (9 - 1) (by omega) (w.heap.size + 1 + 1) (w.heap.size + 1 + 1 + 1) g cap L a0 ha num fs hL hLb W0 qS.cell qS.lt qN.cell qN.lt (hr.below hB0)) KpC.trans
    (fun W l o o' hl _ _ _ => ⟨by simp, World.putObj_heap_other (by omega), World.putObj_heap_other (by omega)⟩) (Below.refl _ _) (fun _ => rfl)
    (fun pre W => ((Blk W w.heap.size (lastCells pre) 62 ∧ Boxed W (w.heap.size + 1) 4 (.bool (!pre.isEmpty))) ∧ Boxed W (w.heap.size + 1 + 1 + 1) 3 (.int .i64 num)) ∧ Below w.heap.size w W)
    (fun _ _ _ => False)
    (OwnFrom.and (OwnFrom.and (OwnFrom.and (Own.from (blk_own _ _ (fun pre => lastCells pre)) _) (Own.from (boxed_own _ _ (fun pre : List Fd => .bool (!pre.isEmpty))) _)) (Own.from (boxed_own _ _ (fun _ => .int .i64 num)) _)) (ownFrom_below (Nat.le_refl _) (by omega)))
    (fun _ _ _ _ _ hs _ _ => hs)
    ⟨⟨⟨q2, q3⟩, qN⟩, hB0⟩
    (fun x a' W => ∃ Bx, w.heap.size + 1 + 1 + 1 < Bx ∧ Blk W Bx #[.int .i64 x.num, .int .i64 x.kind, .int .u64 x.n, .string ⟨x.s.toArray⟩] 62 ∧ a' = { tmps := #[(.slice a0 L cap), .int .i64 num, undef, undef, .pointer (some ⟨w.heap.size, 0, none⟩), .pointer (some ⟨w.heap.size + 1, 0, none⟩), .pointer (some ⟨Bx, 0, none⟩), (.slice a0 L cap), .int .i64 num, .func (.func 88) #[] #[.pointer (some ⟨w.heap.size + 1 + 1, 0, none⟩), .pointer (some ⟨w.heap.size + 1 + 1 + 1, 0, none⟩)], .agg #[.int .i64 x.num, .int .i64 x.kind, .int .u64 x.n, .string ⟨x.s.toArray⟩], undef, undef, undef], defers := [] })
    (fun x a' _ X Y row hs hg hr => by obtain ⟨Bx, h1, h2, h3⟩ := hs; exact ⟨Bx, h1, h2.own hg (fun r e => (hr r e).2), h3⟩)
    ?assign ?body ?done ?stop
  case assign =>
    rintro l pre x W K ⟨⟨⟨b2, b3⟩, bN⟩, hB⟩ hK
    have hlt := bN.lt
    have HK := Lib.hid hK; clear hK
    have hgW : g < W.heap.size := Nat.lt_of_lt_of_le hgl hB.size
    gi_wp2
    exact HK.out _ _ ((KeepsOthers.alloc _ _).from _) (KpC.of_below hlt hgW ((Below.refl _ _).alloc (Nat.le_refl _) _)) ⟨⟨⟨b2.alloc _, b3.alloc _⟩, bN.alloc _⟩, hB.alloc hB.size _⟩ ⟨W.heap.size, hlt, Blk.new W _ _, rfl⟩
  case body =>
    rintro l pre x a' W hl ⟨r, hrr⟩ ⟨⟨⟨b2, b3⟩, bN⟩, hB⟩ ⟨Bx, hBx, hX, rfl⟩ hlt
    have x0 : W.cell? ⟨Bx, 0, none⟩ = some (.int .i64 x.num) := hX.cell 0
    have x1 : W.cell? ⟨Bx, 1, none⟩ = some (.int .i64 x.kind) := hX.cell 1
    have x2 : W.cell? ⟨Bx, 2, none⟩ = some (.int .u64 x.n) := hX.cell 2
    have x3 : W.cell? ⟨Bx, 3, none⟩ = some (.string ⟨x.s.toArray⟩) := hX.cell 3
    obtain ⟨c0, c1, c2, c3, hcs⟩ : ∃ c0 c1 c2 c3, lastCells pre = #[c0, c1, c2, c3] := by
      unfold lastCells; split <;> exact ⟨_, _, _, _, rfl⟩
    rw [hcs] at b2
    have k0 : W.cell? ⟨w.heap.size, 0, none⟩ = some c0 := b2.cell 0
    have k1 : W.cell? ⟨w.heap.size, 1, none⟩ = some c1 := b2.cell 1
    have k2 : W.cell? ⟨w.heap.size, 2, none⟩ = some c2 := b2.cell 2
    have k3 : W.cell? ⟨w.heap.size, 3, none⟩ = some c3 := b2.cell 3
    have j0 := b2.frozen 0
    have j1 := b2.frozen 1
    have j2 := b2.frozen 2
    have j3 := b2.frozen 3
    have kb := b3.cell
    have jb := b3.frozen
    clear hcs
    gi_wp2
    have d2 := ((((b2.set 0 (.int .i64 x.num)).set 1 (.int .i64 x.kind)).set 2 (.int .u64 x.n)).set 3 (.string ⟨x.s.toArray⟩)).other (B' := w.heap.size + 1) (by omega) 0 (.bool true)
    have g4 : ∀ j v W1, Boxed W1 (w.heap.size + 1) 4 (.bool (!pre.isEmpty)) → Boxed (W1.setCell ⟨w.heap.size, j, none⟩ v) (w.heap.size + 1) 4 (.bool (!pre.isEmpty)) := fun j v W1 h => Blk.other (c := #[.bool (!pre.isEmpty)]) h (by omega) j v
    have g5 : ∀ B' j v W1, B' ≠ w.heap.size + 1 + 1 + 1 → Boxed W1 (w.heap.size + 1 + 1 + 1) 3 (.int .i64 num) → Boxed (W1.setCell ⟨B', j, none⟩ v) (w.heap.size + 1 + 1 + 1) 3 (.int .i64 num) := fun B' j v W1 hne h => Blk.other (c := #[.int .i64 num]) h (Ne.symm hne) j v
    have d3 := (g4 3 (.string ⟨x.s.toArray⟩) _ (g4 2 (.int .u64 x.n) _ (g4 1 (.int .i64 x.kind) _ (g4 0 (.int .i64 x.num) _ b3)))).set (.bool true)
    have dN := g5 (w.heap.size + 1) 0 (.bool true) _ (by omega) (g5 w.heap.size 3 (.string ⟨x.s.toArray⟩) _ (by omega) (g5 w.heap.size 2 (.int .u64 x.n) _ (by omega) (g5 w.heap.size 1 (.int .i64 x.kind) _ (by omega) (g5 w.heap.size 0 (.int .i64 x.num) _ (by omega) bN))))
    have hbel : ∀ W', Below w.heap.size w W' → W'.heap[g]? = w.heap[g]? := fun W' h => h.block g hgl
    have hBW := ((((hB.setCell (p := ⟨w.heap.size, 0, none⟩) (Nat.le_refl _) (.int .i64 x.num)).setCell (p := ⟨w.heap.size, 1, none⟩) (Nat.le_refl _) (.int .i64 x.kind)).setCell (p := ⟨w.heap.size, 2, none⟩) (Nat.le_refl _) (.int .u64 x.n)).setCell (p := ⟨w.heap.size, 3, none⟩) (Nat.le_refl _) (.string ⟨x.s.toArray⟩)).setCell (p := ⟨w.heap.size + 1, 0, none⟩) (by simp) (.bool true)
    refine ⟨(((((KeepsOthers.setCell _ _ _).trans (KeepsOthers.setCell _ _ _)).trans (KeepsOthers.setCell _ _ _)).trans (KeepsOthers.setCell _ _ _)).trans (KeepsOthers.setCell _ _ _)).from _, ⟨?_, dN.trans bN.symm, (hbel _ hBW).trans (hbel _ hB).symm⟩, ⟨⟨?_, ?_⟩, dN⟩, hBW⟩
    · simp
    · rw [lastCells_snoc]; exact d2
    · have e : (!(pre ++ [x]).isEmpty) = true := by simp
      rw [e]; exact d3
  case done =>
    rintro D xs W hD rfl ⟨⟨⟨b2, b3⟩, bN⟩, hB⟩ hK
    obtain ⟨c0, c1, c2, c3, hcs⟩ : ∃ c0 c1 c2 c3, lastCells (withL num fs) = #[.int .i64 c0, .int .i64 c1, .int .u64 c2, .string c3] := by
      unfold lastCells; split <;> exact ⟨_, _, _, _, rfl⟩
    rw [hcs] at b2
    have HC := Lib.hid hcs; clear hcs
    obtain ⟨bb, hbb⟩ : ∃ bb, (!(withL num fs).isEmpty) = bb := ⟨_, rfl⟩
    rw [hbb] at b3
    have HB := Lib.hid hbb; clear hbb
    have m0 : W.cell? ⟨w.heap.size, 0, none⟩ = some (.int .i64 c0) := b2.cell 0
    have m1 : W.cell? ⟨w.heap.size, 1, none⟩ = some (.int .i64 c1) := b2.cell 1
    have m2 : W.cell? ⟨w.heap.size, 2, none⟩ = some (.int .u64 c2) := b2.cell 2
    have m3 : W.cell? ⟨w.heap.size, 3, none⟩ = some (.string c3) := b2.cell 3
    have j0 : W.frozen? ⟨w.heap.size, 0, none⟩ = false := b2.frozen 0
    have j1 : W.frozen? ⟨w.heap.size, 1, none⟩ = false := b2.frozen 1
    have j2 : W.frozen? ⟨w.heap.size, 2, none⟩ = false := b2.frozen 2
    have j3 : W.frozen? ⟨w.heap.size, 3, none⟩ = false := b2.frozen 3
    have mb : W.cell? ⟨w.heap.size + 1, 0, none⟩ = some (.bool bb) := b3.cell
    have jb : W.frozen? ⟨w.heap.size + 1, 0, none⟩ = false := b3.frozen
    gi_wp2
    gi_region
    gi_wp2
    have hK2 : (((((W.setCell ⟨w.heap.size, 0, none⟩ (.int .i64 c0)).setCell ⟨w.heap.size, 1, none⟩ (.int .i64 c1)).setCell ⟨w.heap.size, 2, none⟩ (.int .u64 c2)).setCell ⟨w.heap.size, 3, none⟩ (.string c3)).setCell ⟨w.heap.size + 1, 0, none⟩ (.bool bb)).drew.heap[D]? = some (.deferred (some [])) := ((((((KeepsOthers.setCell _ _ _).trans (KeepsOthers.setCell _ _ _)).trans (KeepsOthers.setCell _ _ _)).trans (KeepsOthers.setCell _ _ _)).trans (KeepsOthers.setCell _ _ _)).trans (KeepsOthers.drew _)).same D _ hK rfl
    have B2 : Blk (((((W.setCell ⟨w.heap.size, 0, none⟩ (.int .i64 c0)).setCell ⟨w.heap.size, 1, none⟩ (.int .i64 c1)).setCell ⟨w.heap.size, 2, none⟩ (.int .u64 c2)).setCell ⟨w.heap.size, 3, none⟩ (.string c3)).setCell ⟨w.heap.size + 1, 0, none⟩ (.bool bb)).drew w.heap.size #[.int .i64 c0, .int .i64 c1, .int .u64 c2, .string c3] 62 := ((((b2.set 0 (.int .i64 c0)).set 1 (.int .i64 c1)).set 2 (.int .u64 c2)).set 3 (.string c3)).other (B' := w.heap.size + 1) (by omega) 0 (.bool bb)
    have g4 : ∀ j v W1, Boxed W1 (w.heap.size + 1) 4 (.bool bb) → Boxed (W1.setCell ⟨w.heap.size, j, none⟩ v) (w.heap.size + 1) 4 (.bool bb) := fun j v W1 h => Blk.other (c := #[.bool bb]) h (by omega) j v
    have B3 : Boxed (((((W.setCell ⟨w.heap.size, 0, none⟩ (.int .i64 c0)).setCell ⟨w.heap.size, 1, none⟩ (.int .i64 c1)).setCell ⟨w.heap.size, 2, none⟩ (.int .u64 c2)).setCell ⟨w.heap.size, 3, none⟩ (.string c3)).setCell ⟨w.heap.size + 1, 0, none⟩ (.bool bb)).drew (w.heap.size + 1) 4 (.bool bb) := (g4 3 (.string c3) _ (g4 2 (.int .u64 c2) _ (g4 1 (.int .i64 c1) _ (g4 0 (.int .i64 c0) _ b3)))).set (.bool bb)
    have HB2 : Below w.heap.size w (((((W.setCell ⟨w.heap.size, 0, none⟩ (.int .i64 c0)).setCell ⟨w.heap.size, 1, none⟩ (.int .i64 c1)).setCell ⟨w.heap.size, 2, none⟩ (.int .u64 c2)).setCell ⟨w.heap.size, 3, none⟩ (.string c3)).setCell ⟨w.heap.size + 1, 0, none⟩ (.bool bb)).drew := (((((hB.setCell (p := ⟨w.heap.size, 0, none⟩) (Nat.le_refl _) (.int .i64 c0)).setCell (p := ⟨w.heap.size, 1, none⟩) (Nat.le_refl _) (.int .i64 c1)).setCell (p := ⟨w.heap.size, 2, none⟩) (Nat.le_refl _) (.int .u64 c2)).setCell (p := ⟨w.heap.size, 3, none⟩) (Nat.le_refl _) (.string c3)).setCell (p := ⟨w.heap.size + 1, 0, none⟩) (by simp) (.bool bb)).drew
    obtain ⟨W2, hW2⟩ : ∃ W2, (((((W.setCell ⟨w.heap.size, 0, none⟩ (.int .i64 c0)).setCell ⟨w.heap.size, 1, none⟩ (.int .i64 c1)).setCell ⟨w.heap.size, 2, none⟩ (.int .u64 c2)).setCell ⟨w.heap.size, 3, none⟩ (.string c3)).setCell ⟨w.heap.size + 1, 0, none⟩ (.bool bb)).drew = W2 := ⟨_, rfl⟩
    rw [hW2] at hK2 B2 B3 HB2 ⊢
    refine ⟨by simp, .inl ⟨_, _, rfl, run_takeDeferred hK2, ?_⟩⟩
    have cl : ∀ (a : Addr) v, W2.cell? a = some v → (W2.putObj D (.deferred none)).cell? a = some v := fun a v h => cell_kept h (grownBy_putObj' _ D (.deferred none)) (fun r e => by cases e; exact ⟨_, hK2, rfl⟩)
    have e0 : (W2.putObj D (.deferred none)).cell? ⟨w.heap.size, 0, none⟩ = some (.int .i64 c0) := cl _ _ (B2.cell 0)
    have e1 : (W2.putObj D (.deferred none)).cell? ⟨w.heap.size, 1, none⟩ = some (.int .i64 c1) := cl _ _ (B2.cell 1)
    have e2 : (W2.putObj D (.deferred none)).cell? ⟨w.heap.size, 2, none⟩ = some (.int .u64 c2) := cl _ _ (B2.cell 2)
    have e3 : (W2.putObj D (.deferred none)).cell? ⟨w.heap.size, 3, none⟩ = some (.string c3) := cl _ _ (B2.cell 3)
    have e4 : (W2.putObj D (.deferred none)).cell? ⟨w.heap.size + 1, 0, none⟩ = some (.bool bb) := cl _ _ B3.cell
    refine ⟨.tuple #[.agg #[.int .i64 c0, .int .i64 c1, .int .u64 c2, .string c3], .bool bb], ?_, ?_⟩
    · simp [results, Tryz.results53, go_sem, e0, e1, e2, e3, e4]
    · show _ ∧ _
      rw [HC.out, HB.out]
      exact ⟨rfl, HB2.trans (belowK_b (w := w) (Nat.le_refl _) _ D _ _ (by omega) hK2 rfl rfl)⟩
  case stop =>
    rintro D c pre W _ _ h _
    exact h.elim
theorem last_in (g cap L : Nat) (num : Int) (fs : List Fd) (hL : fs.length = L) (hLb : L ≤ 1099511627776) (w : World) (hr : RowAt w g fs) :
    CallsIn Fence.wide 9 Tryz.prog 53 #[.slice (some ⟨g, 0, none⟩) L cap, .int .i64 num] w fun e w' => e = .returned (.tuple #[.agg (lastCells (withL num fs)), .bool (!(withL num fs).isEmpty)]) ∧ Below w.heap.size w w' :=
  last0_in g cap L _ (fun _ => rfl) num fs hL hLb w hr
end Go.Proofs.YtjolgalfjahceaaGreatDoor
