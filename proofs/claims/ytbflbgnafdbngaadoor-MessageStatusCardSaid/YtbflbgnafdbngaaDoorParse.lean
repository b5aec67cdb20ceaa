/- Parse: the walk. -/
import Derived.Test.YtbflbgnafdbngaaDoorSeq
import Derived.RangeFuncBox
import Derived.Maps.AppendAt
import Derived.Deep.AppendLies
namespace Go.Proofs.YtbflbgnafdbngaaDoor
open Go.RowKit Go.Shelf
attribute [local go_sem] Oper.semAt_some

theorem Tryd.infoFd : (Tryd.prog.info? 59).map (fun i => (i.zero, i.size, i.bytes)) = some (some (.agg #[.int .i64 0, .int .i64 0, .int .u64 0, .string ⟨#[]⟩]), 4, 40) := by kernel_rfl

def Fd.cells (f : Fd) : List Value := [.int .i64 f.num, .int .i64 f.kind, .int .u64 f.n, .string ⟨f.s.toArray⟩]
def fdCells (fs : List Fd) : List Value := fs.flatMap Fd.cells
theorem fdCells_snoc (fs : List Fd) (f : Fd) : fdCells (fs ++ [f]) = fdCells fs ++ f.cells := by simp [fdCells]
theorem fdCells_len (fs : List Fd) : (fdCells fs).length = fs.length * 4 := by
  induction fs with
  | nil => rfl
  | cons f fs ih => simp [fdCells, Fd.cells] at ih ⊢; omega

/-- The fields among what has come. -/
def fdsOf (pre : List Ev) : List Fd := pre.filterMap fun x => match x with | .inl f => some f | .inr _ => none
theorem fdsOf_map (fs : List Fd) : fdsOf (fs.map Sum.inl) = fs := by
  induction fs with
  | nil => rfl
  | cons f fs ih => simpa [fdsOf] using ih
theorem fdsOf_snoc (pre : List Ev) (f : Fd) : fdsOf (pre ++ [.inl f]) = fdsOf pre ++ [f] := by simp [fdsOf]
theorem fdsOf_len (pre : List Ev) : (fdsOf pre).length ≤ pre.length := List.length_filterMap_le _ _

def evCells : Ev → Array Value
  | .inl f => #[.int .i64 f.num, .int .i64 f.kind, .int .u64 f.n, .string ⟨f.s.toArray⟩]
  | .inr _ => #[.int .i64 0, .int .i64 0, .int .u64 0, .string ⟨#[]⟩]
def evErr (b : Addr) : Ev → Value
  | .inl _ => .nilIface
  | .inr (i, j, none) => flt2 b i j
  | .inr (i, j, some k) => .iface 145 (.agg #[.int .i64 i, flt2 b j k])

/-- A block, whole. -/
def Blk (W : World) (B : Nat) (c : Array Value) (t : TypeId) : Prop := W.heap[B]? = some (.cells c t (0, 0))
theorem Blk.lt {W : World} {B : Nat} {c : Array Value} {t : TypeId} (h : Blk W B c t) : B < W.heap.size := (Array.getElem?_eq_some_iff.1 h).1
theorem Blk.kept {W W' : World} {row : Option Nat} {B : Nat} {c : Array Value} {t : TypeId} (h : Blk W B c t) (hg : W.grownBy W' row) (hne : some B ≠ row) : Blk W' B c t := (hg.block B h.lt hne).trans h
theorem Blk.new (W : World) (c : Array Value) (t : TypeId) : Blk (W.alloc (.cells c t)) W.heap.size c t := World.alloc_heap_new W _
theorem Blk.below {W W' : World} {B n : Nat} {c : Array Value} {t : TypeId} (h : Blk W B c t) (hb : Below n W W') (hB : B < n) : Blk W' B c t := (hb.block B hB).trans h
theorem Blk.cell {W : World} {B : Nat} {c : Array Value} {t : TypeId} (h : Blk W B c t) (j : Nat) : W.cell? ⟨B, j, none⟩ = c[j]? := by
  simp [World.cell?, show W.heap[B]? = _ from h]
theorem Blk.own {W W' : World} {row : Option Nat} {B : Nat} {c : Array Value} {t : TypeId} (h : Blk W B c t) (hg : W.grownBy W' row) (hr : ∀ r, row = some r → ∃ o : Obj, W.heap[r]? = some o ∧ o.isCells = false) : Blk W' B c t :=
  h.kept hg (fun e => by
    obtain ⟨o, ho, hc⟩ := hr B e.symm
    rw [show W.heap[B]? = _ from h] at ho
    cases ho
    simp [Obj.isCells] at hc)

theorem fieldsOf_in (n : Nat) (s : ByteArray) (w : World) :
    CallsIn Fence.wide n Tryd.prog 70 #[.string s] w fun e w' => e = .returned (.func (.func 71) #[] #[.pointer (some ⟨w.heap.size, 0, none⟩)]) ∧ w' = w.alloc (.cells #[.string s] 9) := by
  refine callsIn_of_wp Tryd.func70 rfl trivial ?_ rfl
  simp only [Tryd.ntmps70, List.size_toArray, List.length_cons, List.length_nil, Nat.reduceAdd, Nat.reduceSub, Array.replicate_succ, Array.replicate_zero, List.push_toArray, List.append_toArray, List.nil_append, List.cons_append]
  gi_wp2
  go_ret
  exact ⟨rfl, rfl⟩

theorem fields_stops (n : Nat) (hn : 1 ≤ n) (Bn : Nat) (b : Addr) (s : ByteArray) (hs : s.size ≤ 140737488355328) (w : World) (hBn : w.cell? ⟨Bn, 0, none⟩ = some (.string s)) (hBl : Bn < w.heap.size) (hg : Gv b w) :
    SeqStopsK Fence.wide n Tryd.prog 71 #[.pointer (some ⟨Bn, 0, none⟩)] (evArgs b) (KpB Bn) (SAll s.data.toList) (SPart s.data.toList) (s.size + 1) w := fun l J Jx W hW hJ _ hY h0 =>
  fields1_in n hn l Bn b s hs J Jx W hJ hY ((hW.cell (p := ⟨Bn, 0, none⟩) hBl).trans hBn) (Nat.lt_of_lt_of_le hBl hW.size) (hg.below hW) h0

/-- What Parse comes to: the fields in a row of its own; nil where there is none. -/
def PPost (r : Option (List Fd)) (w : World) (e : Ending) (w' : World) : Prop :=
  match r with
  | some fs => (∃ v, e = .returned (.tuple #[v, .bool true]) ∧ w'.ownsRow w.heap.size 59 4 v fs.length (fdCells fs)) ∧ Below w.heap.size w w'
  | none => e = .returned (.tuple #[.slice none 0 0, .bool false]) ∧ Below w.heap.size w w'

set_option maxRecDepth 100000 in
set_option maxHeartbeats 4000000 in
theorem parse_in (s : ByteArray) (b : Addr) (w : World) (hs : s.size ≤ 1099511627776) (hg : Gv b w) :
    CallsIn Fence.wide 9 Tryd.prog 67 #[.string s] w fun e w' => PPost (parse s.data.toList) w e w' := by
  obtain ⟨i0, hi, hz0, hz1, hz2⟩ := info_parts Tryd.infoFd
  refine callsIn_of_wp_marks Tryd.func67 rfl trivial ?_ rfl
  simp only [Tryd.ntmps67, List.size_toArray, List.length_cons, List.length_nil, Nat.reduceAdd, Nat.reduceSub, Array.replicate_succ, Array.replicate_zero, List.push_toArray, List.append_toArray, List.nil_append, List.cons_append]
  gi_wp2_with (refine ⟨trivial, ?_⟩; gi_at_call 70; refine (fieldsOf_in _ _ _).mono ?_; rintro e w' ⟨rfl, rfl⟩)
  have b2 : Boxed ((((w.alloc (.cells #[.slice none 0 0] 132)).alloc (.cells #[.bool false] 4)).alloc (.cells #[.slice none 0 0] 132)).alloc (.cells #[.string s] 9)) w.heap.size 132 (.slice none 0 0) := (((Boxed.new w 132 (.slice none 0 0)).alloc _).alloc _).alloc _
  have b3 : Boxed ((((w.alloc (.cells #[.slice none 0 0] 132)).alloc (.cells #[.bool false] 4)).alloc (.cells #[.slice none 0 0] 132)).alloc (.cells #[.string s] 9)) (w.heap.size + 1) 4 (.bool false) := by
    have h := ((Boxed.new (w.alloc (.cells #[.slice none 0 0] 132)) 4 (.bool false)).alloc (.cells #[.slice none 0 0] 132)).alloc (.cells #[.string s] 9)
    simpa using h
  have b4 : Boxed ((((w.alloc (.cells #[.slice none 0 0] 132)).alloc (.cells #[.bool false] 4)).alloc (.cells #[.slice none 0 0] 132)).alloc (.cells #[.string s] 9)) (w.heap.size + 1 + 1) 132 (.slice none 0 0) := by
    have h := (Boxed.new ((w.alloc (.cells #[.slice none 0 0] 132)).alloc (.cells #[.bool false] 4)) 132 (.slice none 0 0)).alloc (.cells #[.string s] 9)
    simpa using h
  have bS : Boxed ((((w.alloc (.cells #[.slice none 0 0] 132)).alloc (.cells #[.bool false] 4)).alloc (.cells #[.slice none 0 0] 132)).alloc (.cells #[.string s] 9)) (w.heap.size + 1 + 1 + 1) 9 (.string s) := by
    have h := Boxed.new (((w.alloc (.cells #[.slice none 0 0] 132)).alloc (.cells #[.bool false] 4)).alloc (.cells #[.slice none 0 0] 132)) 9 (.string s)
    simpa using h
  have hB0 : Below w.heap.size w ((((w.alloc (.cells #[.slice none 0 0] 132)).alloc (.cells #[.bool false] 4)).alloc (.cells #[.slice none 0 0] 132)).alloc (.cells #[.string s] 9)) := ((((Below.refl _ w).alloc (Nat.le_refl _) _).alloc (by simp) _).alloc (by simp; omega) _).alloc (by simp; omega) _
  have hsz : ((((w.alloc (.cells #[.slice none 0 0] 132)).alloc (.cells #[.bool false] 4)).alloc (.cells #[.slice none 0 0] 132)).alloc (.cells #[.string s] 9)).heap.size = w.heap.size + 4 := by simp
  obtain ⟨W0, hW0⟩ : ∃ W0, ((((w.alloc (.cells #[.slice none 0 0] 132)).alloc (.cells #[.bool false] 4)).alloc (.cells #[.slice none 0 0] 132)).alloc (.cells #[.string s] 9)) = W0 := ⟨_, rfl⟩
  rw [hW0] at b2 b3 b4 bS hB0 hsz ⊢
  clear hW0
  have hgp := hg.2
  refine wpIn_rangeFunc_ownH rfl (by omega) (gf := 71) (lb := #[.pointer (some ⟨w.heap.size + 1 + 1 + 1, 0, none⟩)]) rfl trivial (enters_of Tryd.func71 (by kernel_rfl) rfl)
    (fields_stops (9 - 1) (by omega) (w.heap.size + 1 + 1 + 1) b s (by omega) W0 bS.cell bS.lt (hg.below hB0)) KpB.trans
    (fun W l o o' hl _ _ _ => ⟨by simp, World.putObj_heap_other (by omega), fun _ => World.putObj_heap_other (by omega)⟩) (Below.refl _ _) (fun x => evArgs_size b x)
    (fun pre W => ((((∃ v, Boxed W (w.heap.size + 1 + 1) 132 v ∧ W.ownsRow w.heap.size 59 4 v (fdsOf pre).length (fdCells (fdsOf pre)) ∧ True) ∧ Boxed W w.heap.size 132 (.slice none 0 0)) ∧ Boxed W (w.heap.size + 1) 4 (.bool false)) ∧ Boxed W (w.heap.size + 1 + 1 + 1) 9 (.string s)) ∧ (Below w.heap.size w W ∧ pre = (fdsOf pre).map Sum.inl))
    (fun c pre W => (Boxed W w.heap.size 132 (.slice none 0 0) ∧ Boxed W (w.heap.size + 1) 4 (.bool false)) ∧ (Below w.heap.size w W ∧ (c = .ret ∧ ∃ ys e, pre = ys ++ [Sum.inr e])))
    (OwnFrom.and (OwnFrom.and (OwnFrom.and (OwnFrom.and (Own.from (holdsRow_own w.heap.size (w.heap.size + 1 + 1) 132 59 4 (fun pre => (fdsOf pre).length) (fun pre => fdCells (fdsOf pre)) (fun _ _ => True)) _) (Own.from (boxed_own _ _ (fun _ => .slice none 0 0)) _)) (Own.from (boxed_own _ _ (fun _ => .bool false)) _)) (Own.from (boxed_own _ _ (fun _ => .string s)) _)) (OwnFrom.and (ownFrom_below (Nat.le_refl _) (by omega)) (ownFrom_pure _ (fun pre => pre = (fdsOf pre).map Sum.inl))))
    (fun c => OwnFrom.and (OwnFrom.and (Own.from (boxed_own _ _ (fun _ => .slice none 0 0)) _) (Own.from (boxed_own _ _ (fun _ => .bool false)) _)) (OwnFrom.and (ownFrom_below (Nat.le_refl _) (by omega)) (ownFrom_pure _ (fun pre => c = .ret ∧ ∃ ys e, pre = ys ++ [Sum.inr e]))))
    ⟨⟨⟨⟨⟨_, b4, World.ownsRow_nil _ _ _ _, trivial⟩, b2⟩, b3⟩, bS⟩, hB0, rfl⟩
    (fun x a' W => ∃ Bx, w.heap.size + 1 + 1 + 1 < Bx ∧ Blk W Bx (evCells x) 59 ∧ a' = { tmps := #[.string s, undef, .pointer (some ⟨w.heap.size, 0, none⟩), .pointer (some ⟨w.heap.size + 1, 0, none⟩), .pointer (some ⟨w.heap.size + 1 + 1, 0, none⟩), .pointer (some ⟨Bx, 0, none⟩), evErr b x, .string s, .func (.func 71) #[] #[.pointer (some ⟨w.heap.size + 1 + 1 + 1, 0, none⟩)], .agg (evCells x), evErr b x, undef, undef, undef, undef, undef, undef, undef, undef], defers := [] })
    (fun x a' _ X Y row hs hg hr => by obtain ⟨Bx, h1, h2, h3⟩ := hs; exact ⟨Bx, h1, h2.own hg (fun r e => (hr r e).2), h3⟩)
    ?assign ?body ?done ?stop
  case assign =>
    rintro l pre x W K ⟨⟨⟨⟨⟨v, hv, hrow, _⟩, b2⟩, b3⟩, bS⟩, hB, hpre⟩ hK
    have hI2 : ∀ O, ((((∃ v, Boxed (W.alloc O) (w.heap.size + 1 + 1) 132 v ∧ (W.alloc O).ownsRow w.heap.size 59 4 v (fdsOf pre).length (fdCells (fdsOf pre)) ∧ True) ∧ Boxed (W.alloc O) w.heap.size 132 (.slice none 0 0)) ∧ Boxed (W.alloc O) (w.heap.size + 1) 4 (.bool false)) ∧ Boxed (W.alloc O) (w.heap.size + 1 + 1 + 1) 9 (.string s)) ∧ (Below w.heap.size w (W.alloc O) ∧ pre = (fdsOf pre).map Sum.inl) :=
      fun O => ⟨⟨⟨⟨⟨v, hv.alloc O, hrow.alloc O, trivial⟩, b2.alloc O⟩, b3.alloc O⟩, bS.alloc O⟩, hB.alloc hB.size O, hpre⟩
    have hlt := bS.lt
    have hKp : ∀ O, KpB (w.heap.size + 1 + 1 + 1) W (W.alloc O) := fun O => KpB.of_below hlt ((Below.refl _ _).alloc (Nat.le_refl _) _)
    have HI2 := Lib.hid hI2; clear hI2 hpre
    have HKp := Lib.hid hKp; clear hKp
    have HK := Lib.hid hK; clear hK
    rcases x with f | ⟨i, j, _ | k⟩
    all_goals
      simp only [evArgs, Fd.v, flt1, flt2]
      gi_wp2
      exact HK.out _ _ ((KeepsOthers.alloc _ _).from _) (HKp.out _) (HI2.out _) ⟨W.heap.size, hlt, Blk.new W _ _, rfl⟩
  case body =>
    rintro l pre x a' W hl ⟨r, hr⟩ ⟨⟨⟨⟨⟨v, hv, hrow, _⟩, b2⟩, b3⟩, bS⟩, hB, hpre⟩ ⟨Bx, hBx, hX, rfl⟩ hlt
    have hgc := (hg.below hB).1
    have HPRE := Lib.hid hpre; clear hpre
    have hfl := fdsOf_len pre
    rcases x with f | ⟨i, j, _ | k⟩
    · have x0 : W.cell? ⟨Bx, 0, none⟩ = some (.int .i64 f.num) := hX.cell 0
      have x1 : W.cell? ⟨Bx, 1, none⟩ = some (.int .i64 f.kind) := hX.cell 1
      have x2 : W.cell? ⟨Bx, 2, none⟩ = some (.int .u64 f.n) := hX.cell 2
      have x3 : W.cell? ⟨Bx, 3, none⟩ = some (.string ⟨f.s.toArray⟩) := hX.cell 3
      have hc := hv.cell
      simp only [evErr, evCells]
      gi_wp2_with (first | (refine ⟨trivial, ?_⟩; gi_at_call 15; refine (CallsIn.inRound l (callsIn_wide.2 (is_nil b _))).mono ?_; rintro e w' ⟨rfl, rfl⟩) | (gi_at_builtin; refine wpListIn_append_own _ rfl _ _ 132 rfl w.heap.size 59 i0 (.agg #[.int .i64 0, .int .i64 0, .int .u64 0, .string ⟨#[]⟩]) 4 40 Tryd.underlying132 hi hz0 hz1 hz2 rfl (by decide) _ _ _ rfl (hrow.alloc _) ⟨W.heap.size, 0, none⟩ 1 1 [.int .i64 f.num, .int .i64 f.kind, .int .u64 f.n, .string ⟨f.s.toArray⟩] rfl rfl (World.news_of_block (cs := #[.int .i64 f.num, .int .i64 f.kind, .int .u64 f.n, .string ⟨f.s.toArray⟩]) (t := 59) (fr := (0, 0)) (heap_alloc_new W _)) (by simp [Value.oneCell']) (by unfold maxLen; omega) (by omega) (by have := hB.size; simp; omega) ?_; intro v' w1 hown' hgrow _; obtain ⟨g', cap', rfl⟩ := ownsRow_succ hown'; obtain ⟨hv1, hv2, hr2, hk2, hb2⟩ := hv.appended (by decide) hrow hB.size (by omega) hown' hgrow; have hc1 := hv1.cell; have hf1 := hv1.frozen))
      have q2 := ((b2.alloc _).kept hgrow (b2.not_row (by decide) hrow)).other (B' := w.heap.size + 1 + 1) (by omega) (.slice (some ⟨g', 0, none⟩) ((fdsOf pre).length + 1) cap')
      have q3 := ((b3.alloc _).kept hgrow (b3.not_row (by decide) hrow)).other (B' := w.heap.size + 1 + 1) (by omega) (.slice (some ⟨g', 0, none⟩) ((fdsOf pre).length + 1) cap')
      have qS := ((bS.alloc _).kept hgrow (bS.not_row (by decide) hrow)).other (B' := w.heap.size + 1 + 1) (by omega) (.slice (some ⟨g', 0, none⟩) ((fdsOf pre).length + 1) cap')
      refine ⟨hk2.from _, ⟨hb2.size, qS.trans bS.symm, fun _ => hb2.block 1 hgp⟩, ⟨⟨⟨⟨_, hv2, ?_, trivial⟩, q2⟩, q3⟩, qS⟩, hB.trans hb2, ?_⟩
      · rw [fdsOf_snoc, fdCells_snoc]
        simpa [Fd.cells] using hr2
      · rw [fdsOf_snoc]
        conv => lhs; rw [HPRE.out]
        simp
    · simp only [evErr, evCells, flt1, flt2]
      gi_wp2_with (refine ⟨trivial, ?_⟩; gi_at_call 15; refine (CallsIn.inRound l (callsIn_wide.2 (is_chain2 i j b _))).mono ?_; rintro e w1 ⟨rfl, hb⟩; have d2 := b2.kept (grown_of_below hb) (by simp); have d3 := b3.kept (grown_of_below hb) (by simp); have k2 := d2.cell; have k3 := d3.cell; have j2 := d2.frozen; have j3 := d3.frozen)
      refine ⟨?_, ⟨(d2.set (.slice none 0 0)).other (by omega) _, (d3.other (by omega) _).set (.bool false)⟩, ?_, rfl, pre, _, rfl⟩
      · exact (((KeepsOthers.mk hb.size (fun q o hq _ => (hb.block q (Array.getElem?_eq_some_iff.1 hq).1).trans hq)).trans (KeepsOthers.setCell _ _ _)).trans (KeepsOthers.setCell _ _ _)).from _
      · exact ((hB.trans (hb.mono hB.size)).setCell (Nat.le_refl _) _).setCell (by simp) _
    · simp only [evErr, evCells, flt1, flt2]
      gi_wp2_with (refine ⟨trivial, ?_⟩; gi_at_call 15; refine (CallsIn.inRound l (callsIn_wide.2 (is_chain3 i j k b _))).mono ?_; rintro e w1 ⟨rfl, hb⟩; have d2 := b2.kept (grown_of_below hb) (by simp); have d3 := b3.kept (grown_of_below hb) (by simp); have k2 := d2.cell; have k3 := d3.cell; have j2 := d2.frozen; have j3 := d3.frozen)
      refine ⟨?_, ⟨(d2.set (.slice none 0 0)).other (by omega) _, (d3.other (by omega) _).set (.bool false)⟩, ?_, rfl, pre, _, rfl⟩
      · exact (((KeepsOthers.mk hb.size (fun q o hq _ => (hb.block q (Array.getElem?_eq_some_iff.1 hq).1).trans hq)).trans (KeepsOthers.setCell _ _ _)).trans (KeepsOthers.setCell _ _ _)).from _
      · exact ((hB.trans (hb.mono hB.size)).setCell (Nat.le_refl _) _).setCell (by simp) _
  case done =>
    rintro D xs W hD hS ⟨⟨⟨⟨⟨v, hv, hrow, _⟩, b2⟩, b3⟩, bS⟩, hB, hpre⟩ hK
    obtain ⟨fs, hfs, rfl⟩ : ∃ fs, parse s.data.toList = some fs ∧ xs = fs.map Sum.inl := by
      rcases hS with h | ⟨_, ys, e, rfl⟩
      · exact h
      · have h2 : (Sum.inr e : Ev) ∈ (fdsOf (ys ++ [Sum.inr e])).map Sum.inl := by rw [← hpre]; simp
        simp at h2
    rw [fdsOf_map] at hrow
    obtain ⟨a', c', rfl⟩ := owns_slice hrow
    clear hpre hS
    have HF := Lib.hid hfs; clear hfs
    have hc := hv.cell
    have k2 := b2.cell
    have k3 := b3.cell
    have j2 := b2.frozen
    have j3 := b3.frozen
    gi_wp2
    have hK2 : ((W.setCell ⟨w.heap.size, 0, none⟩ (.slice a' fs.length c')).setCell ⟨w.heap.size + 1, 0, none⟩ (.bool true)).heap[D]? = some (.deferred (some [])) := ((KeepsOthers.setCell _ _ _).trans (KeepsOthers.setCell _ _ _)).same D _ hK rfl
    refine ⟨by simp, .inl ⟨_, _, rfl, run_takeDeferred hK2, ?_⟩⟩
    refine ⟨.tuple #[.slice a' fs.length c', .bool true], ?_, ?_⟩
    · have e2 := cell_kept ((b2.set (.slice a' fs.length c')).other (B' := w.heap.size + 1) (by omega) (.bool true)).cell (grownBy_putObj' _ D (.deferred none)) (fun r e => by cases e; exact ⟨_, hK2, rfl⟩)
      have e3 := cell_kept ((b3.other (B' := w.heap.size) (by omega) (.slice a' fs.length c')).set (.bool true)).cell (grownBy_putObj' _ D (.deferred none)) (fun r e => by cases e; exact ⟨_, hK2, rfl⟩)
      simp [results, Tryd.results67, go_sem, e2, e3]
    · have r1 := hrow.kept (grownBy_setCell' W w.heap.size (.slice a' fs.length c')) (.inr (b2.not_row (by decide) hrow).symm)
      have r2 := r1.kept (grownBy_setCell' _ (w.heap.size + 1) (.bool true)) (.inr ((b3.other (B' := w.heap.size) (by omega) (.slice a' fs.length c')).not_row (by decide) r1).symm)
      show PPost _ _ _ _
      rw [HF.out]
      exact ⟨⟨_, rfl, ownsRow_putObj r2 _ hK2 rfl⟩, ((hB.setCell (Nat.le_refl _) _).setCell (by simp) _).trans (belowK_b (w := w) (Nat.le_refl _) _ D _ _ (by omega) hK2 rfl rfl)⟩
  case stop =>
    rintro D c pre W hD hSp ⟨⟨b2, b3⟩, hB, rfl, ys, e, rfl⟩ hK
    have HF := Lib.hid (hSp ⟨ys, e, rfl⟩); clear hSp
    have k2 := b2.cell
    have k3 := b3.cell
    gi_wp2
    refine ⟨by simp, .inl ⟨_, _, rfl, run_takeDeferred hK, ?_⟩⟩
    refine ⟨.tuple #[.slice none 0 0, .bool false], ?_, ?_⟩
    · have e2 := cell_kept k2 (grownBy_putObj' _ D (.deferred none)) (fun r e => by cases e; exact ⟨_, hK, rfl⟩)
      have e3 := cell_kept k3 (grownBy_putObj' _ D (.deferred none)) (fun r e => by cases e; exact ⟨_, hK, rfl⟩)
      simp [results, Tryd.results67, go_sem, e2, e3]
    · show PPost _ _ _ _
      rw [HF.out]
      exact ⟨rfl, hB.trans (belowK_b (w := w) (Nat.le_refl _) _ D _ _ (by omega) hK rfl rfl)⟩

theorem parse_any (s : ByteArray) (b : Addr) (w : World) (hs : s.size ≤ 1099511627776) (hg : Gv b w) :
    Calls Tryd.prog 67 #[.string s] w fun e w' => PPost (parse s.data.toList) w e w' :=
  callsIn_wide.1 (parse_in s b w hs hg)
end Go.Proofs.YtbflbgnafdbngaaDoor
