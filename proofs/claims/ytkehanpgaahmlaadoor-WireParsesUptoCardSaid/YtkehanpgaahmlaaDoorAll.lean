/- All: the walk of slices.AppendSeq over withNum's iterator. -/
import Derived.Test.YtkehanpgaahmlaaDoorLast
import Derived.Maps.AppendAt
import Derived.Deep.AppendLies
namespace Go.Proofs.YtkehanpgaahmlaaDoor
open Go.RowKit Go.Shelf
attribute [local go_sem] Oper.semAt_some

theorem ownsRow_lower {w : World} {base base' : Nat} {e : TypeId} {size : Nat} {v : Value} {n : Nat} {xs : List Value} (h : w.ownsRow base e size v n xs) (hb : base' ≤ base) : w.ownsRow base' e size v n xs :=
  ⟨h.1, h.2.imp id fun ⟨g, c, cur, e, hg, r⟩ => ⟨g, c, cur, e, Nat.le_trans hb hg, r⟩⟩

set_option maxRecDepth 100000 in
set_option maxHeartbeats 4000000 in
theorem appendSeq_in (Bs Bn g cap L : Nat) (a0 : Option Addr) (ha : 0 < L → a0 = some ⟨g, 0, none⟩) (num : Int) (fs : List Fd) (hL : fs.length = L) (hLb : L ≤ 1099511627776) (w : World)
    (hS : w.cell? ⟨Bs, 0, none⟩ = some (.slice a0 L cap)) (hSl : Bs < w.heap.size) (hN : w.cell? ⟨Bn, 0, none⟩ = some (.int .i64 num)) (hNl : Bn < w.heap.size) (hr : RowAt w g fs) :
    CallsIn Fence.wide 9 Tryd.prog 45 #[.slice none 0 0, .func (.func 44) #[] #[.pointer (some ⟨Bs, 0, none⟩), .pointer (some ⟨Bn, 0, none⟩)]] w fun e w' => (∃ v, e = .returned v ∧ w'.ownsRow w.heap.size 29 4 v (withL num fs).length (fdCells (withL num fs))) ∧ Below w.heap.size w w' := by
  obtain ⟨i0, hi, hz0, hz1, hz2⟩ := info_parts Tryd.infoFd
  refine callsIn_of_wp_marks Tryd.func45 rfl trivial ?_ rfl
  simp only [Tryd.ntmps45, List.size_toArray, List.length_cons, List.length_nil, Nat.reduceAdd, Nat.reduceSub, Array.replicate_succ, Array.replicate_zero, List.push_toArray, List.append_toArray, List.nil_append, List.cons_append]
  gi_wp2
  have q2 : Boxed (w.alloc (.cells #[.slice none 0 0] 36)) w.heap.size 36 (.slice none 0 0) := Boxed.new w _ _
  have hB0 : Below w.heap.size w (w.alloc (.cells #[.slice none 0 0] 36)) := (Below.refl _ w).alloc (Nat.le_refl _) _
  have hsz : (w.alloc (.cells #[.slice none 0 0] 36)).heap.size = w.heap.size + 1 := by simp
  obtain ⟨W0, hW0⟩ : ∃ W0, (w.alloc (.cells #[.slice none 0 0] 36)) = W0 := ⟨_, rfl⟩
  rw [hW0] at q2 hB0 hsz ⊢
  clear hW0
  have hgl := hr.1
  have hwl := withL_len num fs
  refine wpIn_rangeFunc_ownH rfl (by omega) (gf := 44) (lb := #[.pointer (some ⟨Bs, 0, none⟩), .pointer (some ⟨Bn, 0, none⟩)]) rfl trivial (enters_of Tryd.func44 (by kernel_rfl) rfl)
    (with_stops (9 - 1) (by omega) Bs Bn g cap L a0 ha num fs hL hLb W0 ((hB0.cell (p := ⟨Bs, 0, none⟩) hSl).trans hS) (by omega) ((hB0.cell (p := ⟨Bn, 0, none⟩) hNl).trans hN) (by omega) (hr.below hB0)) KpC.trans
    (fun W l o o' hl _ _ _ => ⟨by simp, World.putObj_heap_other (by omega), World.putObj_heap_other (by omega)⟩) (Below.refl _ _) (fun _ => rfl)
    (fun pre W => (∃ v, Boxed W w.heap.size 36 v ∧ W.ownsRow w.heap.size 29 4 v pre.length (fdCells pre) ∧ True) ∧ Below w.heap.size w W)
    (fun _ _ _ => False)
    (OwnFrom.and (Own.from (holdsRow_own w.heap.size w.heap.size 36 29 4 (fun pre : List Fd => pre.length) (fun pre => fdCells pre) (fun _ _ => True)) _) (ownFrom_below (Nat.le_refl _) (by omega)))
    (fun _ _ _ _ _ hs _ _ => hs)
    ⟨⟨_, q2, World.ownsRow_nil _ _ _ _, trivial⟩, hB0⟩
    (fun x a' W => ∃ Bx, w.heap.size < Bx ∧ Blk W Bx #[.int .i64 x.num, .int .i64 x.kind, .int .u64 x.n, .string ⟨x.s.toArray⟩] 29 ∧ a' = { tmps := #[.slice none 0 0, (.func (.func 44) #[] #[.pointer (some ⟨Bs, 0, none⟩), .pointer (some ⟨Bn, 0, none⟩)]), .pointer (some ⟨w.heap.size, 0, none⟩), undef, .slice none 0 0, .pointer (some ⟨Bx, 0, none⟩), (.func (.func 44) #[] #[.pointer (some ⟨Bs, 0, none⟩), .pointer (some ⟨Bn, 0, none⟩)]), .agg #[.int .i64 x.num, .int .i64 x.kind, .int .u64 x.n, .string ⟨x.s.toArray⟩], undef, undef, undef, undef, undef], defers := [] })
    (fun x a' _ X Y row hs hg hr => by obtain ⟨Bx, h1, h2, h3⟩ := hs; exact ⟨Bx, h1, h2.own hg (fun r e => (hr r e).2), h3⟩)
    ?assign ?body ?done ?stop
  case assign =>
    rintro l pre x W K ⟨⟨v, hv, hrow, _⟩, hB⟩ hK
    have hlt := hv.lt
    have HK := Lib.hid hK; clear hK
    have hgW : g < W.heap.size := Nat.lt_of_lt_of_le hgl hB.size
    have hnW : Bn < W.heap.size := Nat.lt_of_lt_of_le hNl hB.size
    gi_wp2
    exact HK.out _ _ ((KeepsOthers.alloc _ _).from _) (KpC.of_below hnW hgW ((Below.refl _ _).alloc (Nat.le_refl _) _)) ⟨⟨v, hv.alloc _, hrow.alloc _, trivial⟩, hB.alloc hB.size _⟩ ⟨W.heap.size, hlt, Blk.new W _ _, rfl⟩
  case body =>
    rintro l pre x a' W hl ⟨r, hrr⟩ ⟨⟨v, hv, hrow, _⟩, hB⟩ ⟨Bx, hBx, hX, rfl⟩ hlt
    have x0 : W.cell? ⟨Bx, 0, none⟩ = some (.int .i64 x.num) := hX.cell 0
    have x1 : W.cell? ⟨Bx, 1, none⟩ = some (.int .i64 x.kind) := hX.cell 1
    have x2 : W.cell? ⟨Bx, 2, none⟩ = some (.int .u64 x.n) := hX.cell 2
    have x3 : W.cell? ⟨Bx, 3, none⟩ = some (.string ⟨x.s.toArray⟩) := hX.cell 3
    have hc := hv.cell
    have hpl : pre.length < L + 1 := by omega
    gi_wp2_with (gi_at_builtin; refine wpListIn_append_own _ rfl _ _ 36 rfl w.heap.size 29 i0 (.agg #[.int .i64 0, .int .i64 0, .int .u64 0, .string ⟨#[]⟩]) 4 40 Tryd.underlying36 hi hz0 hz1 hz2 rfl (by decide) _ _ _ rfl (hrow.alloc _) ⟨W.heap.size, 0, none⟩ 1 1 [.int .i64 x.num, .int .i64 x.kind, .int .u64 x.n, .string ⟨x.s.toArray⟩] rfl rfl (World.news_of_block (cs := #[.int .i64 x.num, .int .i64 x.kind, .int .u64 x.n, .string ⟨x.s.toArray⟩]) (t := 29) (fr := (0, 0)) (heap_alloc_new W _)) (by simp [Value.oneCell']) (by unfold maxLen; omega) (by omega) (by have := hB.size; simp; omega) ?_; intro v' w1 hown' hgrow _; obtain ⟨g', cap', rfl⟩ := ownsRow_succ hown'; obtain ⟨hv1, hv2, hr2, hk2, hb2⟩ := hv.appended (by decide) hrow hB.size (by omega) hown' hgrow; have hc1 := hv1.cell; have hf1 := hv1.frozen)
    refine ⟨hk2.from _, ⟨hb2.size, hb2.block Bn hNl, hb2.block g hgl⟩, ⟨⟨_, hv2, ?_, trivial⟩, hB.trans hb2⟩⟩
    rw [fdCells_snoc]
    simpa [Fd.cells] using hr2
  case done =>
    rintro D xs W hD rfl ⟨⟨v, hv, hrow, _⟩, hB⟩ hK
    obtain ⟨a', c', rfl⟩ := owns_slice hrow
    have hc := hv.cell
    gi_wp2
    refine ⟨by simp, .inl ⟨_, _, rfl, run_takeDeferred hK, ?_⟩⟩
    refine ⟨.slice a' (withL num fs).length c', ?_, ?_⟩
    · simp [results, Tryd.results45, go_sem]
    · exact ⟨⟨_, rfl, ownsRow_putObj hrow _ hK rfl⟩, hB.trans (belowK_b (w := w) (Nat.le_refl _) _ D _ _ (by omega) hK rfl rfl)⟩
  case stop =>
    rintro D c pre W _ _ h _
    exact h.elim

set_option maxRecDepth 100000 in
theorem collect_in (Bs Bn g cap L : Nat) (a0 : Option Addr) (ha : 0 < L → a0 = some ⟨g, 0, none⟩) (num : Int) (fs : List Fd) (hL : fs.length = L) (hLb : L ≤ 1099511627776) (w : World)
    (hS : w.cell? ⟨Bs, 0, none⟩ = some (.slice a0 L cap)) (hSl : Bs < w.heap.size) (hN : w.cell? ⟨Bn, 0, none⟩ = some (.int .i64 num)) (hNl : Bn < w.heap.size) (hr : RowAt w g fs) :
    CallsIn Fence.wide 10 Tryd.prog 36 #[.func (.func 44) #[] #[.pointer (some ⟨Bs, 0, none⟩), .pointer (some ⟨Bn, 0, none⟩)]] w fun e w' => (∃ v, e = .returned v ∧ w'.ownsRow w.heap.size 29 4 v (withL num fs).length (fdCells (withL num fs))) ∧ Below w.heap.size w w' := by
  refine callsIn_of_wp Tryd.func36 rfl trivial ?_ rfl
  simp only [Tryd.ntmps36, List.size_toArray, List.length_cons, List.length_nil, Nat.reduceAdd, Nat.reduceSub, Array.replicate_succ, Array.replicate_zero, List.push_toArray, List.append_toArray, List.nil_append, List.cons_append]
  gi_wp2_with (refine ⟨trivial, ?_⟩; gi_at_call 45; refine (appendSeq_in Bs Bn g cap L a0 ha num fs hL hLb _ hS hSl hN hNl hr).mono ?_; rintro e w' ⟨⟨v, rfl, hv⟩, hb⟩)
  go_ret
  exact ⟨⟨_, rfl, hv⟩, hb⟩

set_option maxRecDepth 100000 in
theorem all0_in (g cap L : Nat) (a0 : Option Addr) (ha : 0 < L → a0 = some ⟨g, 0, none⟩) (num : Int) (fs : List Fd) (hL : fs.length = L) (hLb : L ≤ 1099511627776) (w : World) (hr : RowAt w g fs) :
    CallsIn Fence.wide 11 Tryd.prog 29 #[.slice a0 L cap, .int .i64 num] w fun e w' => (∃ v, e = .returned v ∧ w'.ownsRow w.heap.size 29 4 v (withL num fs).length (fdCells (withL num fs))) ∧ Below w.heap.size w w' := by
  refine callsIn_of_wp Tryd.func29 rfl trivial ?_ rfl
  simp only [Tryd.ntmps29, List.size_toArray, List.length_cons, List.length_nil, Nat.reduceAdd, Nat.reduceSub, Array.replicate_succ, Array.replicate_zero, List.push_toArray, List.append_toArray, List.nil_append, List.cons_append]
  gi_wp2_with (refine ⟨trivial, ?_⟩; gi_at_call 35; refine (withNum_in _ _ _ _ ⟨_, _, _, rfl⟩).mono ?_; rintro e w' ⟨rfl, rfl⟩)
  have qS : Boxed ((w.alloc (.cells #[.slice a0 L cap] 36)).alloc (.cells #[.int .i64 num] 3)) w.heap.size 36 (.slice a0 L cap) := (Boxed.new w _ _).alloc _
  have qN : Boxed ((w.alloc (.cells #[.slice a0 L cap] 36)).alloc (.cells #[.int .i64 num] 3)) (w.heap.size + 1) 3 (.int .i64 num) := by
    have h := Boxed.new (w.alloc (.cells #[.slice a0 L cap] 36)) 3 (.int .i64 num)
    simpa using h
  have hB0 : Below w.heap.size w ((w.alloc (.cells #[.slice a0 L cap] 36)).alloc (.cells #[.int .i64 num] 3)) := ((Below.refl _ w).alloc (Nat.le_refl _) _).alloc (by simp) _
  gi_wp2_with (refine ⟨trivial, ?_⟩; gi_at_call 36; refine (collect_in w.heap.size (w.heap.size + 1) g cap L a0 ha num fs hL hLb _ qS.cell qS.lt qN.cell qN.lt (hr.below hB0)).mono ?_; rintro e w' ⟨⟨v, rfl, hv⟩, hb⟩)
  go_ret
  exact ⟨⟨_, rfl, ownsRow_lower hv (by simp; omega)⟩, hB0.trans (hb.mono (by simp; omega))⟩
theorem all_in (g cap L : Nat) (num : Int) (fs : List Fd) (hL : fs.length = L) (hLb : L ≤ 1099511627776) (w : World) (hr : RowAt w g fs) :
    CallsIn Fence.wide 11 Tryd.prog 29 #[.slice (some ⟨g, 0, none⟩) L cap, .int .i64 num] w fun e w' => (∃ v, e = .returned v ∧ w'.ownsRow w.heap.size 29 4 v (withL num fs).length (fdCells (withL num fs))) ∧ Below w.heap.size w w' :=
  all0_in g cap L _ (fun _ => rfl) num fs hL hLb w hr
end Go.Proofs.YtkehanpgaahmlaaDoor
