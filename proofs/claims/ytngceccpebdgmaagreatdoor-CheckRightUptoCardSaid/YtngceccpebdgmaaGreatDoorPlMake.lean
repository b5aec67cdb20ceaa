/- payload: the parts are made: the walks. -/
import Derived.Test.YtngceccpebdgmaaGreatDoorPlList
namespace Go.Proofs.YtngceccpebdgmaaGreatDoor
open Go.RowKit Go.Shelf

theorem box_new (w : World) (v : Value) (t : TypeId) : Box (w.alloc (.cells #[v] t)) w.heap.size v := ⟨by rw [World.size_alloc]; omega, (new_cell w _ _ 0).trans rfl⟩
theorem box_alloc {w : World} {b : Nat} {v : Value} (h : Box w b v) (o : Obj) : Box (w.alloc o) b v := h.below ((Below.refl _ _).alloc (Nat.le_refl _) o)
theorem box_at (w : World) (v : Value) (t : TypeId) (n : Nat) (h : w.heap.size = n) : Box (w.alloc (.cells #[v] t)) n v := h ▸ box_new w v t
def SingleLo (lo : Nat) (w : World) (x : PartV) (num kind pg tg ofF putF valF : Nat) : Prop :=
  ∃ bo bp bn bv : Nat, (lo ≤ bo ∧ lo ≤ bp ∧ lo ≤ bn ∧ lo ≤ bv) ∧ x = ⟨num, kind, pg, #[.pointer (some ⟨bo, 0, none⟩), .pointer (some ⟨bp, 0, none⟩), .pointer (some ⟨bn, 0, none⟩)], tg, #[.pointer (some ⟨bv, 0, none⟩), .pointer (some ⟨bo, 0, none⟩)]⟩ ∧ Box w bo (.func (.func ofF) #[] #[]) ∧ Box w bp (.func (.func putF) #[] #[]) ∧ Box w bn (.int .i64 (num : Int)) ∧ Box w bv (.func (.func valF) #[] #[])
theorem SingleLo.at_ {lo : Nat} {w : World} {x : PartV} {num kind pg tg ofF putF valF : Nat} (h : SingleLo lo w x num kind pg tg ofF putF valF) : SingleAt w x num kind pg tg ofF putF valF := by
  obtain ⟨bo, bp, bn, bv, _, r⟩ := h; exact ⟨bo, bp, bn, bv, r⟩
theorem Box.set {w : World} {b g o : Nat} {v u : Value} (h : Box w b v) (hg : g ≠ b) : Box (w.setCell ⟨g, o, none⟩ u) b v :=
  ⟨by simpa [World.setCell] using h.1, (World.cell?_of_block (a := ⟨b, 0, none⟩) (Below.heap_setCell w ⟨g, o, none⟩ u b (fun e => hg e.symm))).trans h.2⟩
theorem SingleLo.set {lo g o : Nat} {u : Value} {w : World} {x : PartV} {num kind pg tg ofF putF valF : Nat} (h : SingleLo lo w x num kind pg tg ofF putF valF) (hg : g < lo) : SingleLo lo (w.setCell ⟨g, o, none⟩ u) x num kind pg tg ofF putF valF := by
  obtain ⟨bo, bp, bn, bv, ⟨l1, l2, l3, l4⟩, hx, a, b, c, d⟩ := h
  exact ⟨bo, bp, bn, bv, ⟨l1, l2, l3, l4⟩, hx, a.set (by omega), b.set (by omega), c.set (by omega), d.set (by omega)⟩
theorem below_more {w0 w : World} (h : Below w0.heap.size w0 w) (o : Obj) : Below w0.heap.size w0 (w.alloc o) := h.alloc h.size o
theorem below_alloc (w : World) (o : Obj) : Below w.heap.size w (w.alloc o) := (Below.refl _ _).alloc (Nat.le_refl _) o

set_option maxRecDepth 100000 in
theorem singlePayloadstring (num kind ofF putF valF : Nat) (w : World) :
    Calls Tryz.prog 106 #[.int .i64 (num : Int), .int .i64 (kind : Int), .func (.func ofF) #[] #[], .func (.func putF) #[] #[], .func (.func valF) #[] #[]] w fun e w' => (∃ x : PartV, e = .returned (.agg #[.int .i64 (x.num : Int), .int .i64 (x.kind : Int), .func (.func x.pg) #[] x.plb, .func (.func x.tg) #[] x.tlb]) ∧ SingleLo w.heap.size w' x num kind 137 138 ofF putF valF) ∧ Below w.heap.size w w' := by
  go_enter Tryz.func106, Tryz.ntmps106
  go_wp2
  refine bodyPost_ret (v := .agg #[.int .i64 (num : Int), .int .i64 (kind : Int), .func (.func 137) #[] #[.pointer (some ⟨w.heap.size + 1, 0, none⟩), .pointer (some ⟨w.heap.size + 2, 0, none⟩), .pointer (some ⟨w.heap.size, 0, none⟩)], .func (.func 138) #[] #[.pointer (some ⟨w.heap.size + 3, 0, none⟩), .pointer (some ⟨w.heap.size + 1, 0, none⟩)]]) (by simp [results, Tryz.results106, go_sem]) rfl ⟨⟨⟨num, kind, 137, #[.pointer (some ⟨w.heap.size + 1, 0, none⟩), .pointer (some ⟨w.heap.size + 2, 0, none⟩), .pointer (some ⟨w.heap.size, 0, none⟩)], 138, #[.pointer (some ⟨w.heap.size + 3, 0, none⟩), .pointer (some ⟨w.heap.size + 1, 0, none⟩)]⟩, rfl, w.heap.size + 1, w.heap.size + 2, w.heap.size, w.heap.size + 3, ⟨by omega, by omega, by omega, by omega⟩, rfl, ?_, ?_, ?_, ?_⟩, ?_⟩
  · exact box_alloc (box_alloc (box_alloc (box_at _ _ _ _ (by simp only [World.size_alloc])) _) _) _
  · exact box_alloc (box_alloc (box_at _ _ _ _ (by simp only [World.size_alloc])) _) _
  · exact box_alloc (box_alloc (box_alloc (box_alloc (box_new _ _ _) _) _) _) _
  · exact box_alloc (box_at _ _ _ _ (by simp only [World.size_alloc])) _
  · exact below_more (below_more (below_more (below_more (below_alloc _ _) _) _) _) _

set_option maxRecDepth 100000 in
theorem singlePayloaduint64 (num kind ofF putF valF : Nat) (w : World) :
    Calls Tryz.prog 109 #[.int .i64 (num : Int), .int .i64 (kind : Int), .func (.func ofF) #[] #[], .func (.func putF) #[] #[], .func (.func valF) #[] #[]] w fun e w' => (∃ x : PartV, e = .returned (.agg #[.int .i64 (x.num : Int), .int .i64 (x.kind : Int), .func (.func x.pg) #[] x.plb, .func (.func x.tg) #[] x.tlb]) ∧ SingleLo w.heap.size w' x num kind 140 141 ofF putF valF) ∧ Below w.heap.size w w' := by
  go_enter Tryz.func109, Tryz.ntmps109
  go_wp2
  refine bodyPost_ret (v := .agg #[.int .i64 (num : Int), .int .i64 (kind : Int), .func (.func 140) #[] #[.pointer (some ⟨w.heap.size + 1, 0, none⟩), .pointer (some ⟨w.heap.size + 2, 0, none⟩), .pointer (some ⟨w.heap.size, 0, none⟩)], .func (.func 141) #[] #[.pointer (some ⟨w.heap.size + 3, 0, none⟩), .pointer (some ⟨w.heap.size + 1, 0, none⟩)]]) (by simp [results, Tryz.results109, go_sem]) rfl ⟨⟨⟨num, kind, 140, #[.pointer (some ⟨w.heap.size + 1, 0, none⟩), .pointer (some ⟨w.heap.size + 2, 0, none⟩), .pointer (some ⟨w.heap.size, 0, none⟩)], 141, #[.pointer (some ⟨w.heap.size + 3, 0, none⟩), .pointer (some ⟨w.heap.size + 1, 0, none⟩)]⟩, rfl, w.heap.size + 1, w.heap.size + 2, w.heap.size, w.heap.size + 3, ⟨by omega, by omega, by omega, by omega⟩, rfl, ?_, ?_, ?_, ?_⟩, ?_⟩
  · exact box_alloc (box_alloc (box_alloc (box_at _ _ _ _ (by simp only [World.size_alloc])) _) _) _
  · exact box_alloc (box_alloc (box_at _ _ _ _ (by simp only [World.size_alloc])) _) _
  · exact box_alloc (box_alloc (box_alloc (box_alloc (box_new _ _ _) _) _) _) _
  · exact box_alloc (box_at _ _ _ _ (by simp only [World.size_alloc])) _
  · exact below_more (below_more (below_more (below_more (below_alloc _ _) _) _) _) _

set_option maxRecDepth 100000 in
theorem singleRulestring (num kind ofF putF valF : Nat) (w : World) :
    Calls Tryz.prog 143 #[.int .i64 (num : Int), .int .i64 (kind : Int), .func (.func ofF) #[] #[], .func (.func putF) #[] #[], .func (.func valF) #[] #[]] w fun e w' => (∃ x : PartV, e = .returned (.agg #[.int .i64 (x.num : Int), .int .i64 (x.kind : Int), .func (.func x.pg) #[] x.plb, .func (.func x.tg) #[] x.tlb]) ∧ SingleLo w.heap.size w' x num kind 160 161 ofF putF valF) ∧ Below w.heap.size w w' := by
  go_enter Tryz.func143, Tryz.ntmps143
  go_wp2
  refine bodyPost_ret (v := .agg #[.int .i64 (num : Int), .int .i64 (kind : Int), .func (.func 160) #[] #[.pointer (some ⟨w.heap.size + 1, 0, none⟩), .pointer (some ⟨w.heap.size + 2, 0, none⟩), .pointer (some ⟨w.heap.size, 0, none⟩)], .func (.func 161) #[] #[.pointer (some ⟨w.heap.size + 3, 0, none⟩), .pointer (some ⟨w.heap.size + 1, 0, none⟩)]]) (by simp [results, Tryz.results143, go_sem]) rfl ⟨⟨⟨num, kind, 160, #[.pointer (some ⟨w.heap.size + 1, 0, none⟩), .pointer (some ⟨w.heap.size + 2, 0, none⟩), .pointer (some ⟨w.heap.size, 0, none⟩)], 161, #[.pointer (some ⟨w.heap.size + 3, 0, none⟩), .pointer (some ⟨w.heap.size + 1, 0, none⟩)]⟩, rfl, w.heap.size + 1, w.heap.size + 2, w.heap.size, w.heap.size + 3, ⟨by omega, by omega, by omega, by omega⟩, rfl, ?_, ?_, ?_, ?_⟩, ?_⟩
  · exact box_alloc (box_alloc (box_alloc (box_at _ _ _ _ (by simp only [World.size_alloc])) _) _) _
  · exact box_alloc (box_alloc (box_at _ _ _ _ (by simp only [World.size_alloc])) _) _
  · exact box_alloc (box_alloc (box_alloc (box_alloc (box_new _ _ _) _) _) _) _
  · exact box_alloc (box_at _ _ _ _ (by simp only [World.size_alloc])) _
  · exact below_more (below_more (below_more (below_more (below_alloc _ _) _) _) _) _

set_option maxRecDepth 100000 in
theorem singleAddrstring (num kind ofF putF valF : Nat) (w : World) :
    Calls Tryz.prog 146 #[.int .i64 (num : Int), .int .i64 (kind : Int), .func (.func ofF) #[] #[], .func (.func putF) #[] #[], .func (.func valF) #[] #[]] w fun e w' => (∃ x : PartV, e = .returned (.agg #[.int .i64 (x.num : Int), .int .i64 (x.kind : Int), .func (.func x.pg) #[] x.plb, .func (.func x.tg) #[] x.tlb]) ∧ SingleLo w.heap.size w' x num kind 162 163 ofF putF valF) ∧ Below w.heap.size w w' := by
  go_enter Tryz.func146, Tryz.ntmps146
  go_wp2
  refine bodyPost_ret (v := .agg #[.int .i64 (num : Int), .int .i64 (kind : Int), .func (.func 162) #[] #[.pointer (some ⟨w.heap.size + 1, 0, none⟩), .pointer (some ⟨w.heap.size + 2, 0, none⟩), .pointer (some ⟨w.heap.size, 0, none⟩)], .func (.func 163) #[] #[.pointer (some ⟨w.heap.size + 3, 0, none⟩), .pointer (some ⟨w.heap.size + 1, 0, none⟩)]]) (by simp [results, Tryz.results146, go_sem]) rfl ⟨⟨⟨num, kind, 162, #[.pointer (some ⟨w.heap.size + 1, 0, none⟩), .pointer (some ⟨w.heap.size + 2, 0, none⟩), .pointer (some ⟨w.heap.size, 0, none⟩)], 163, #[.pointer (some ⟨w.heap.size + 3, 0, none⟩), .pointer (some ⟨w.heap.size + 1, 0, none⟩)]⟩, rfl, w.heap.size + 1, w.heap.size + 2, w.heap.size, w.heap.size + 3, ⟨by omega, by omega, by omega, by omega⟩, rfl, ?_, ?_, ?_, ?_⟩, ?_⟩
  · exact box_alloc (box_alloc (box_alloc (box_at _ _ _ _ (by simp only [World.size_alloc])) _) _) _
  · exact box_alloc (box_alloc (box_at _ _ _ _ (by simp only [World.size_alloc])) _) _
  · exact box_alloc (box_alloc (box_alloc (box_alloc (box_new _ _ _) _) _) _) _
  · exact box_alloc (box_at _ _ _ _ (by simp only [World.size_alloc])) _
  · exact below_more (below_more (below_more (below_more (below_alloc _ _) _) _) _) _

set_option maxRecDepth 100000 in
theorem singleAddruint64 (num kind ofF putF valF : Nat) (w : World) :
    Calls Tryz.prog 148 #[.int .i64 (num : Int), .int .i64 (kind : Int), .func (.func ofF) #[] #[], .func (.func putF) #[] #[], .func (.func valF) #[] #[]] w fun e w' => (∃ x : PartV, e = .returned (.agg #[.int .i64 (x.num : Int), .int .i64 (x.kind : Int), .func (.func x.pg) #[] x.plb, .func (.func x.tg) #[] x.tlb]) ∧ SingleLo w.heap.size w' x num kind 164 165 ofF putF valF) ∧ Below w.heap.size w w' := by
  go_enter Tryz.func148, Tryz.ntmps148
  go_wp2
  refine bodyPost_ret (v := .agg #[.int .i64 (num : Int), .int .i64 (kind : Int), .func (.func 164) #[] #[.pointer (some ⟨w.heap.size + 1, 0, none⟩), .pointer (some ⟨w.heap.size + 2, 0, none⟩), .pointer (some ⟨w.heap.size, 0, none⟩)], .func (.func 165) #[] #[.pointer (some ⟨w.heap.size + 3, 0, none⟩), .pointer (some ⟨w.heap.size + 1, 0, none⟩)]]) (by simp [results, Tryz.results148, go_sem]) rfl ⟨⟨⟨num, kind, 164, #[.pointer (some ⟨w.heap.size + 1, 0, none⟩), .pointer (some ⟨w.heap.size + 2, 0, none⟩), .pointer (some ⟨w.heap.size, 0, none⟩)], 165, #[.pointer (some ⟨w.heap.size + 3, 0, none⟩), .pointer (some ⟨w.heap.size + 1, 0, none⟩)]⟩, rfl, w.heap.size + 1, w.heap.size + 2, w.heap.size, w.heap.size + 3, ⟨by omega, by omega, by omega, by omega⟩, rfl, ?_, ?_, ?_, ?_⟩, ?_⟩
  · exact box_alloc (box_alloc (box_alloc (box_at _ _ _ _ (by simp only [World.size_alloc])) _) _) _
  · exact box_alloc (box_alloc (box_at _ _ _ _ (by simp only [World.size_alloc])) _) _
  · exact box_alloc (box_alloc (box_alloc (box_alloc (box_new _ _ _) _) _) _) _
  · exact box_alloc (box_at _ _ _ _ (by simp only [World.size_alloc])) _
  · exact below_more (below_more (below_more (below_more (below_alloc _ _) _) _) _) _

set_option maxRecDepth 100000 in
theorem textPayload (num ofF : Nat) (w : World) :
    Calls Tryz.prog 79 #[.int .i64 (num : Int), .func (.func ofF) #[] #[]] w fun e w' => (∃ x : PartV, e = .returned (.agg #[.int .i64 (x.num : Int), .int .i64 (x.kind : Int), .func (.func x.pg) #[] x.plb, .func (.func x.tg) #[] x.tlb]) ∧ SingleAt w' x num 2 137 138 ofF 107 108) ∧ Below w.heap.size w w' := by
  go_enter Tryz.func79, Tryz.ntmps79
  go_wp2_with fail
  refine (singlePayloadstring num 2 ofF 107 108 _).mono ?_
  rintro e w2 ⟨⟨x, rfl, hs⟩, hb⟩
  have hblk : w2.heap[w.heap.size]? = some (.cells #[.int .i64 0, .int .i64 0, .nilFunc, .nilFunc] 117 (0, 0)) := (hb.block _ (by simp)).trans (World.alloc_heap_new w _)
  have c0 := (Lib.cell_of_heap hblk 0).trans rfl
  have c1 := (Lib.cell_of_heap hblk 1).trans rfl
  have c2 := (Lib.cell_of_heap hblk 2).trans rfl
  have c3 := (Lib.cell_of_heap hblk 3).trans rfl
  have f0 := Lib.frozen_of_heap hblk 0
  have f1 := Lib.frozen_of_heap hblk 1
  have f2 := Lib.frozen_of_heap hblk 2
  have f3 := Lib.frozen_of_heap hblk 3
  have HX := Lib.hid hs
  have HB := Lib.hid hb
  have HBK := Lib.hid hblk
  clear hs hb hblk
  go_wp2
  refine bodyPost_ret (v := .agg #[.int .i64 (x.num : Int), .int .i64 (x.kind : Int), .func (.func x.pg) #[] x.plb, .func (.func x.tg) #[] x.tlb]) (by simp [results, Tryz.results79, go_sem, c0, c1, c2, c3]) rfl ⟨⟨x, rfl, ?_⟩, ?_⟩
  · exact ((((HX.out.set (by simp)).set (by simp)).set (by simp)).set (by simp)).at_
  · exact (((((below_alloc w _).trans (HB.out.mono (by simp))).setCell (p := ⟨w.heap.size, 0, none⟩) (Nat.le_refl _) _).setCell (p := ⟨w.heap.size, 1, none⟩) (Nat.le_refl _) _).setCell (p := ⟨w.heap.size, 2, none⟩) (Nat.le_refl _) _).setCell (p := ⟨w.heap.size, 3, none⟩) (Nat.le_refl _) _

set_option maxRecDepth 100000 in
theorem numberPayload (num ofF : Nat) (w : World) :
    Calls Tryz.prog 81 #[.int .i64 (num : Int), .func (.func ofF) #[] #[]] w fun e w' => (∃ x : PartV, e = .returned (.agg #[.int .i64 (x.num : Int), .int .i64 (x.kind : Int), .func (.func x.pg) #[] x.plb, .func (.func x.tg) #[] x.tlb]) ∧ SingleAt w' x num 0 140 141 ofF 110 111) ∧ Below w.heap.size w w' := by
  go_enter Tryz.func81, Tryz.ntmps81
  go_wp2_with fail
  refine (singlePayloaduint64 num 0 ofF 110 111 _).mono ?_
  rintro e w2 ⟨⟨x, rfl, hs⟩, hb⟩
  have hblk : w2.heap[w.heap.size]? = some (.cells #[.int .i64 0, .int .i64 0, .nilFunc, .nilFunc] 117 (0, 0)) := (hb.block _ (by simp)).trans (World.alloc_heap_new w _)
  have c0 := (Lib.cell_of_heap hblk 0).trans rfl
  have c1 := (Lib.cell_of_heap hblk 1).trans rfl
  have c2 := (Lib.cell_of_heap hblk 2).trans rfl
  have c3 := (Lib.cell_of_heap hblk 3).trans rfl
  have f0 := Lib.frozen_of_heap hblk 0
  have f1 := Lib.frozen_of_heap hblk 1
  have f2 := Lib.frozen_of_heap hblk 2
  have f3 := Lib.frozen_of_heap hblk 3
  have HX := Lib.hid hs
  have HB := Lib.hid hb
  have HBK := Lib.hid hblk
  clear hs hb hblk
  go_wp2
  refine bodyPost_ret (v := .agg #[.int .i64 (x.num : Int), .int .i64 (x.kind : Int), .func (.func x.pg) #[] x.plb, .func (.func x.tg) #[] x.tlb]) (by simp [results, Tryz.results81, go_sem, c0, c1, c2, c3]) rfl ⟨⟨x, rfl, ?_⟩, ?_⟩
  · exact ((((HX.out.set (by simp)).set (by simp)).set (by simp)).set (by simp)).at_
  · exact (((((below_alloc w _).trans (HB.out.mono (by simp))).setCell (p := ⟨w.heap.size, 0, none⟩) (Nat.le_refl _) _).setCell (p := ⟨w.heap.size, 1, none⟩) (Nat.le_refl _) _).setCell (p := ⟨w.heap.size, 2, none⟩) (Nat.le_refl _) _).setCell (p := ⟨w.heap.size, 3, none⟩) (Nat.le_refl _) _

set_option maxRecDepth 100000 in
theorem textRule (num ofF : Nat) (w : World) :
    Calls Tryz.prog 116 #[.int .i64 (num : Int), .func (.func ofF) #[] #[]] w fun e w' => (∃ x : PartV, e = .returned (.agg #[.int .i64 (x.num : Int), .int .i64 (x.kind : Int), .func (.func x.pg) #[] x.plb, .func (.func x.tg) #[] x.tlb]) ∧ SingleAt w' x num 2 160 161 ofF 107 144) ∧ Below w.heap.size w w' := by
  go_enter Tryz.func116, Tryz.ntmps116
  go_wp2_with fail
  refine (singleRulestring num 2 ofF 107 144 _).mono ?_
  rintro e w2 ⟨⟨x, rfl, hs⟩, hb⟩
  have hblk : w2.heap[w.heap.size]? = some (.cells #[.int .i64 0, .int .i64 0, .nilFunc, .nilFunc] 199 (0, 0)) := (hb.block _ (by simp)).trans (World.alloc_heap_new w _)
  have c0 := (Lib.cell_of_heap hblk 0).trans rfl
  have c1 := (Lib.cell_of_heap hblk 1).trans rfl
  have c2 := (Lib.cell_of_heap hblk 2).trans rfl
  have c3 := (Lib.cell_of_heap hblk 3).trans rfl
  have f0 := Lib.frozen_of_heap hblk 0
  have f1 := Lib.frozen_of_heap hblk 1
  have f2 := Lib.frozen_of_heap hblk 2
  have f3 := Lib.frozen_of_heap hblk 3
  have HX := Lib.hid hs
  have HB := Lib.hid hb
  have HBK := Lib.hid hblk
  clear hs hb hblk
  go_wp2
  refine bodyPost_ret (v := .agg #[.int .i64 (x.num : Int), .int .i64 (x.kind : Int), .func (.func x.pg) #[] x.plb, .func (.func x.tg) #[] x.tlb]) (by simp [results, Tryz.results116, go_sem, c0, c1, c2, c3]) rfl ⟨⟨x, rfl, ?_⟩, ?_⟩
  · exact ((((HX.out.set (by simp)).set (by simp)).set (by simp)).set (by simp)).at_
  · exact (((((below_alloc w _).trans (HB.out.mono (by simp))).setCell (p := ⟨w.heap.size, 0, none⟩) (Nat.le_refl _) _).setCell (p := ⟨w.heap.size, 1, none⟩) (Nat.le_refl _) _).setCell (p := ⟨w.heap.size, 2, none⟩) (Nat.le_refl _) _).setCell (p := ⟨w.heap.size, 3, none⟩) (Nat.le_refl _) _

set_option maxRecDepth 100000 in
theorem textAddr (num ofF : Nat) (w : World) :
    Calls Tryz.prog 123 #[.int .i64 (num : Int), .func (.func ofF) #[] #[]] w fun e w' => (∃ x : PartV, e = .returned (.agg #[.int .i64 (x.num : Int), .int .i64 (x.kind : Int), .func (.func x.pg) #[] x.plb, .func (.func x.tg) #[] x.tlb]) ∧ SingleAt w' x num 2 162 163 ofF 107 147) ∧ Below w.heap.size w w' := by
  go_enter Tryz.func123, Tryz.ntmps123
  go_wp2_with fail
  refine (singleAddrstring num 2 ofF 107 147 _).mono ?_
  rintro e w2 ⟨⟨x, rfl, hs⟩, hb⟩
  have hblk : w2.heap[w.heap.size]? = some (.cells #[.int .i64 0, .int .i64 0, .nilFunc, .nilFunc] 209 (0, 0)) := (hb.block _ (by simp)).trans (World.alloc_heap_new w _)
  have c0 := (Lib.cell_of_heap hblk 0).trans rfl
  have c1 := (Lib.cell_of_heap hblk 1).trans rfl
  have c2 := (Lib.cell_of_heap hblk 2).trans rfl
  have c3 := (Lib.cell_of_heap hblk 3).trans rfl
  have f0 := Lib.frozen_of_heap hblk 0
  have f1 := Lib.frozen_of_heap hblk 1
  have f2 := Lib.frozen_of_heap hblk 2
  have f3 := Lib.frozen_of_heap hblk 3
  have HX := Lib.hid hs
  have HB := Lib.hid hb
  have HBK := Lib.hid hblk
  clear hs hb hblk
  go_wp2
  refine bodyPost_ret (v := .agg #[.int .i64 (x.num : Int), .int .i64 (x.kind : Int), .func (.func x.pg) #[] x.plb, .func (.func x.tg) #[] x.tlb]) (by simp [results, Tryz.results123, go_sem, c0, c1, c2, c3]) rfl ⟨⟨x, rfl, ?_⟩, ?_⟩
  · exact ((((HX.out.set (by simp)).set (by simp)).set (by simp)).set (by simp)).at_
  · exact (((((below_alloc w _).trans (HB.out.mono (by simp))).setCell (p := ⟨w.heap.size, 0, none⟩) (Nat.le_refl _) _).setCell (p := ⟨w.heap.size, 1, none⟩) (Nat.le_refl _) _).setCell (p := ⟨w.heap.size, 2, none⟩) (Nat.le_refl _) _).setCell (p := ⟨w.heap.size, 3, none⟩) (Nat.le_refl _) _

set_option maxRecDepth 100000 in
theorem numberAddr (num ofF : Nat) (w : World) :
    Calls Tryz.prog 125 #[.int .i64 (num : Int), .func (.func ofF) #[] #[]] w fun e w' => (∃ x : PartV, e = .returned (.agg #[.int .i64 (x.num : Int), .int .i64 (x.kind : Int), .func (.func x.pg) #[] x.plb, .func (.func x.tg) #[] x.tlb]) ∧ SingleAt w' x num 0 164 165 ofF 110 149) ∧ Below w.heap.size w w' := by
  go_enter Tryz.func125, Tryz.ntmps125
  go_wp2_with fail
  refine (singleAddruint64 num 0 ofF 110 149 _).mono ?_
  rintro e w2 ⟨⟨x, rfl, hs⟩, hb⟩
  have hblk : w2.heap[w.heap.size]? = some (.cells #[.int .i64 0, .int .i64 0, .nilFunc, .nilFunc] 209 (0, 0)) := (hb.block _ (by simp)).trans (World.alloc_heap_new w _)
  have c0 := (Lib.cell_of_heap hblk 0).trans rfl
  have c1 := (Lib.cell_of_heap hblk 1).trans rfl
  have c2 := (Lib.cell_of_heap hblk 2).trans rfl
  have c3 := (Lib.cell_of_heap hblk 3).trans rfl
  have f0 := Lib.frozen_of_heap hblk 0
  have f1 := Lib.frozen_of_heap hblk 1
  have f2 := Lib.frozen_of_heap hblk 2
  have f3 := Lib.frozen_of_heap hblk 3
  have HX := Lib.hid hs
  have HB := Lib.hid hb
  have HBK := Lib.hid hblk
  clear hs hb hblk
  go_wp2
  refine bodyPost_ret (v := .agg #[.int .i64 (x.num : Int), .int .i64 (x.kind : Int), .func (.func x.pg) #[] x.plb, .func (.func x.tg) #[] x.tlb]) (by simp [results, Tryz.results125, go_sem, c0, c1, c2, c3]) rfl ⟨⟨x, rfl, ?_⟩, ?_⟩
  · exact ((((HX.out.set (by simp)).set (by simp)).set (by simp)).set (by simp)).at_
  · exact (((((below_alloc w _).trans (HB.out.mono (by simp))).setCell (p := ⟨w.heap.size, 0, none⟩) (Nat.le_refl _) _).setCell (p := ⟨w.heap.size, 1, none⟩) (Nat.le_refl _) _).setCell (p := ⟨w.heap.size, 2, none⟩) (Nat.le_refl _) _).setCell (p := ⟨w.heap.size, 3, none⟩) (Nat.le_refl _) _

set_option maxRecDepth 100000 in
theorem listRule (num ofF gp cap : Nat) (w : World) (hp : RuleParts w gp) :
    Calls Tryz.prog 84 #[.int .i64 (num : Int), .func (.func ofF) #[] #[], .slice (some ⟨gp, 0, none⟩) 2 cap] w fun e w' => (∃ x : PartV, e = .returned (.agg #[.int .i64 (x.num : Int), .int .i64 (x.kind : Int), .func (.func x.pg) #[] x.plb, .func (.func x.tg) #[] x.tlb]) ∧ ListAt RuleParts w' x num 112 114 ofF 2) ∧ Below w.heap.size w w' := by
  have HP := Lib.hid hp; clear hp
  go_enter Tryz.func84, Tryz.ntmps84
  go_wp2
  refine bodyPost_ret (v := .agg #[.int .i64 (num : Int), .int .i64 2, .func (.func 112) #[] #[.pointer (some ⟨w.heap.size + 1, 0, none⟩), .pointer (some ⟨w.heap.size, 0, none⟩), .pointer (some ⟨w.heap.size + 2, 0, none⟩)], .func (.func 114) #[] #[.pointer (some ⟨w.heap.size + 1, 0, none⟩), .pointer (some ⟨w.heap.size + 2, 0, none⟩)]]) (by simp [results, Tryz.results84, go_sem]) rfl ⟨⟨⟨num, 2, 112, #[.pointer (some ⟨w.heap.size + 1, 0, none⟩), .pointer (some ⟨w.heap.size, 0, none⟩), .pointer (some ⟨w.heap.size + 2, 0, none⟩)], 114, #[.pointer (some ⟨w.heap.size + 1, 0, none⟩), .pointer (some ⟨w.heap.size + 2, 0, none⟩)]⟩, rfl, w.heap.size + 1, w.heap.size, w.heap.size + 2, gp, cap, rfl, ?_, ?_, ?_, ?_⟩, ?_⟩
  · exact box_alloc (box_alloc (box_at _ _ _ _ (by simp only [World.size_alloc])) _) _
  · exact box_alloc (box_alloc (box_alloc (box_new _ _ _) _) _) _
  · exact box_alloc (box_at _ _ _ _ (by simp only [World.size_alloc])) _
  · exact HP.out.below (below_more (below_more (below_more (below_alloc _ _) _) _) _)
  · exact below_more (below_more (below_more (below_alloc _ _) _) _) _

set_option maxRecDepth 100000 in
theorem listAddr (num ofF gp cap : Nat) (w : World) (hp : AddrParts w gp) :
    Calls Tryz.prog 89 #[.int .i64 (num : Int), .func (.func ofF) #[] #[], .slice (some ⟨gp, 0, none⟩) 3 cap] w fun e w' => (∃ x : PartV, e = .returned (.agg #[.int .i64 (x.num : Int), .int .i64 (x.kind : Int), .func (.func x.pg) #[] x.plb, .func (.func x.tg) #[] x.tlb]) ∧ ListAt AddrParts w' x num 119 121 ofF 3) ∧ Below w.heap.size w w' := by
  have HP := Lib.hid hp; clear hp
  go_enter Tryz.func89, Tryz.ntmps89
  go_wp2
  refine bodyPost_ret (v := .agg #[.int .i64 (num : Int), .int .i64 2, .func (.func 119) #[] #[.pointer (some ⟨w.heap.size + 1, 0, none⟩), .pointer (some ⟨w.heap.size, 0, none⟩), .pointer (some ⟨w.heap.size + 2, 0, none⟩)], .func (.func 121) #[] #[.pointer (some ⟨w.heap.size + 1, 0, none⟩), .pointer (some ⟨w.heap.size + 2, 0, none⟩)]]) (by simp [results, Tryz.results89, go_sem]) rfl ⟨⟨⟨num, 2, 119, #[.pointer (some ⟨w.heap.size + 1, 0, none⟩), .pointer (some ⟨w.heap.size, 0, none⟩), .pointer (some ⟨w.heap.size + 2, 0, none⟩)], 121, #[.pointer (some ⟨w.heap.size + 1, 0, none⟩), .pointer (some ⟨w.heap.size + 2, 0, none⟩)]⟩, rfl, w.heap.size + 1, w.heap.size, w.heap.size + 2, gp, cap, rfl, ?_, ?_, ?_, ?_⟩, ?_⟩
  · exact box_alloc (box_alloc (box_at _ _ _ _ (by simp only [World.size_alloc])) _) _
  · exact box_alloc (box_alloc (box_alloc (box_new _ _ _) _) _) _
  · exact box_alloc (box_at _ _ _ _ (by simp only [World.size_alloc])) _
  · exact HP.out.below (below_more (below_more (below_more (below_alloc _ _) _) _) _)
  · exact below_more (below_more (below_more (below_alloc _ _) _) _) _

set_option maxRecDepth 100000 in
set_option maxHeartbeats 1000000 in
theorem ruleParts_any (w : World) :
    Calls Tryz.prog 86 #[] w fun e w' => (∃ gp cap, e = .returned (.slice (some ⟨gp, 0, none⟩) 2 cap) ∧ RuleParts w' gp) ∧ Below w.heap.size w w' := by
  go_enter Tryz.func86, Tryz.ntmps86
  have HB0 := Lib.hid (Below.refl w.heap.size w)
  go_wp2_with fail
  refine (textRule 1 117 _).mono ?_
  rintro e w1 ⟨⟨x0, rfl, hs⟩, hb⟩
  have HX0 := Lib.hid hs
  have HB1 := Lib.hid (HB0.out.trans (hb.mono HB0.out.size))
  clear hs hb HB0
  go_wp2_with fail
  refine (textRule 2 118 _).mono ?_
  rintro e w2 ⟨⟨x1, rfl, hs⟩, hb⟩
  have HX1 := Lib.hid hs
  replace HX0 := Lib.hid (HX0.out.below hb)
  have HB2 := Lib.hid (HB1.out.trans (hb.mono HB1.out.size))
  clear hs hb HB1
  go_wp2
  go_ret
  have up := below_alloc w2 (.cells #[.int .i64 (x0.num : Int), .int .i64 (x0.kind : Int), .func (.func x0.pg) #[] x0.plb, .func (.func x0.tg) #[] x0.tlb, .int .i64 (x1.num : Int), .int .i64 (x1.kind : Int), .func (.func x1.pg) #[] x1.plb, .func (.func x1.tg) #[] x1.tlb] 199)
  have hblk := World.alloc_heap_new w2 (.cells #[.int .i64 (x0.num : Int), .int .i64 (x0.kind : Int), .func (.func x0.pg) #[] x0.plb, .func (.func x0.tg) #[] x0.tlb, .int .i64 (x1.num : Int), .int .i64 (x1.kind : Int), .func (.func x1.pg) #[] x1.plb, .func (.func x1.tg) #[] x1.tlb] 199)
  refine ⟨⟨w2.heap.size, 2, rfl, x0, x1, ⟨by simp, ?_⟩, HX0.out.below up, HX1.out.below up⟩, HB2.out.trans (up.mono HB2.out.size)⟩
  intro i x hi
  match i with
  | 0 => simp at hi; subst hi; exact ⟨(Lib.cell_of_heap hblk 0).trans rfl, (Lib.cell_of_heap hblk 1).trans rfl, (Lib.cell_of_heap hblk 2).trans rfl, (Lib.cell_of_heap hblk 3).trans rfl⟩
  | 1 => simp at hi; subst hi; exact ⟨(Lib.cell_of_heap hblk 4).trans rfl, (Lib.cell_of_heap hblk 5).trans rfl, (Lib.cell_of_heap hblk 6).trans rfl, (Lib.cell_of_heap hblk 7).trans rfl⟩
  | i + 2 => simp at hi

set_option maxRecDepth 100000 in
set_option maxHeartbeats 1000000 in
theorem addrParts_any (w : World) :
    Calls Tryz.prog 91 #[] w fun e w' => (∃ gp cap, e = .returned (.slice (some ⟨gp, 0, none⟩) 3 cap) ∧ AddrParts w' gp) ∧ Below w.heap.size w w' := by
  go_enter Tryz.func91, Tryz.ntmps91
  have HB0 := Lib.hid (Below.refl w.heap.size w)
  go_wp2_with fail
  refine (textAddr 1 124 _).mono ?_
  rintro e w1 ⟨⟨x0, rfl, hs⟩, hb⟩
  have HX0 := Lib.hid hs
  have HB1 := Lib.hid (HB0.out.trans (hb.mono HB0.out.size))
  clear hs hb HB0
  go_wp2_with fail
  refine (numberAddr 2 126 _).mono ?_
  rintro e w2 ⟨⟨x1, rfl, hs⟩, hb⟩
  have HX1 := Lib.hid hs
  replace HX0 := Lib.hid (HX0.out.below hb)
  have HB2 := Lib.hid (HB1.out.trans (hb.mono HB1.out.size))
  clear hs hb HB1
  go_wp2_with fail
  refine (numberAddr 3 127 _).mono ?_
  rintro e w3 ⟨⟨x2, rfl, hs⟩, hb⟩
  have HX2 := Lib.hid hs
  replace HX0 := Lib.hid (HX0.out.below hb)
  replace HX1 := Lib.hid (HX1.out.below hb)
  have HB3 := Lib.hid (HB2.out.trans (hb.mono HB2.out.size))
  clear hs hb HB2
  go_wp2
  go_ret
  have up := below_alloc w3 (.cells #[.int .i64 (x0.num : Int), .int .i64 (x0.kind : Int), .func (.func x0.pg) #[] x0.plb, .func (.func x0.tg) #[] x0.tlb, .int .i64 (x1.num : Int), .int .i64 (x1.kind : Int), .func (.func x1.pg) #[] x1.plb, .func (.func x1.tg) #[] x1.tlb, .int .i64 (x2.num : Int), .int .i64 (x2.kind : Int), .func (.func x2.pg) #[] x2.plb, .func (.func x2.tg) #[] x2.tlb] 209)
  have hblk := World.alloc_heap_new w3 (.cells #[.int .i64 (x0.num : Int), .int .i64 (x0.kind : Int), .func (.func x0.pg) #[] x0.plb, .func (.func x0.tg) #[] x0.tlb, .int .i64 (x1.num : Int), .int .i64 (x1.kind : Int), .func (.func x1.pg) #[] x1.plb, .func (.func x1.tg) #[] x1.tlb, .int .i64 (x2.num : Int), .int .i64 (x2.kind : Int), .func (.func x2.pg) #[] x2.plb, .func (.func x2.tg) #[] x2.tlb] 209)
  refine ⟨⟨w3.heap.size, 3, rfl, x0, x1, x2, ⟨by simp, ?_⟩, HX0.out.below up, HX1.out.below up, HX2.out.below up⟩, HB3.out.trans (up.mono HB3.out.size)⟩
  intro i x hi
  match i with
  | 0 => simp at hi; subst hi; exact ⟨(Lib.cell_of_heap hblk 0).trans rfl, (Lib.cell_of_heap hblk 1).trans rfl, (Lib.cell_of_heap hblk 2).trans rfl, (Lib.cell_of_heap hblk 3).trans rfl⟩
  | 1 => simp at hi; subst hi; exact ⟨(Lib.cell_of_heap hblk 4).trans rfl, (Lib.cell_of_heap hblk 5).trans rfl, (Lib.cell_of_heap hblk 6).trans rfl, (Lib.cell_of_heap hblk 7).trans rfl⟩
  | 2 => simp at hi; subst hi; exact ⟨(Lib.cell_of_heap hblk 8).trans rfl, (Lib.cell_of_heap hblk 9).trans rfl, (Lib.cell_of_heap hblk 10).trans rfl, (Lib.cell_of_heap hblk 11).trans rfl⟩
  | i + 3 => simp at hi

/-- All eight parts of a payload. -/
def AllParts (w : World) (g : Nat) : Prop := ∃ x0 x1 x2 x3 x4 x5 x6 x7 : PartV, PartsAt w g [x0, x1, x2, x3, x4, x5, x6, x7] ∧ PayPart w 0 x0 ∧ PayPart w 1 x1 ∧ PayPart w 2 x2 ∧ PayPart w 3 x3 ∧ PayPart w 4 x4 ∧ PayPart w 5 x5 ∧ PayPart w 6 x6 ∧ PayPart w 7 x7

set_option maxRecDepth 100000 in
set_option maxHeartbeats 2000000 in
theorem payloadParts_any (w : World) :
    Calls Tryz.prog 57 #[] w fun e w' => (∃ gp cap, e = .returned (.slice (some ⟨gp, 0, none⟩) 8 cap) ∧ AllParts w' gp) ∧ Below w.heap.size w w' := by
  go_enter Tryz.func57, Tryz.ntmps57
  have HB0 := Lib.hid (Below.refl w.heap.size w)
  go_wp2_with fail
  refine (textPayload 1 80 _).mono ?_
  rintro e w1 ⟨⟨x0, rfl, hs⟩, hb⟩
  have HX0 := Lib.hid (show PayPart w1 0 x0 from hs)
  have HB1 := Lib.hid (HB0.out.trans (hb.mono HB0.out.size))
  clear hs hb HB0
  go_wp2_with fail
  refine (numberPayload 2 82 _).mono ?_
  rintro e w2 ⟨⟨x1, rfl, hs⟩, hb⟩
  replace HX0 := Lib.hid (HX0.out.below hb)
  have HX1 := Lib.hid (show PayPart w2 1 x1 from hs)
  have HB2 := Lib.hid (HB1.out.trans (hb.mono HB1.out.size))
  clear hs hb HB1
  go_wp2_with fail
  refine (textPayload 3 83 _).mono ?_
  rintro e w3 ⟨⟨x2, rfl, hs⟩, hb⟩
  replace HX0 := Lib.hid (HX0.out.below hb)
  replace HX1 := Lib.hid (HX1.out.below hb)
  have HX2 := Lib.hid (show PayPart w3 2 x2 from hs)
  have HB3 := Lib.hid (HB2.out.trans (hb.mono HB2.out.size))
  clear hs hb HB2
  go_wp2_with fail
  refine (ruleParts_any _).mono ?_
  rintro e w4 ⟨⟨gp4, cap4, rfl, hs⟩, hb⟩
  have HP := Lib.hid hs
  replace HX0 := Lib.hid (HX0.out.below hb)
  replace HX1 := Lib.hid (HX1.out.below hb)
  replace HX2 := Lib.hid (HX2.out.below hb)
  have HB4 := Lib.hid (HB3.out.trans (hb.mono HB3.out.size))
  clear hs hb HB3
  go_wp2_with fail
  refine (listRule 4 85 gp4 cap4 _ HP.out).mono ?_
  rintro e w5 ⟨⟨x3, rfl, hs⟩, hb⟩
  replace HX0 := Lib.hid (HX0.out.below hb)
  replace HX1 := Lib.hid (HX1.out.below hb)
  replace HX2 := Lib.hid (HX2.out.below hb)
  have HX3 := Lib.hid (show PayPart w5 3 x3 from hs)
  clear HP
  have HB5 := Lib.hid (HB4.out.trans (hb.mono HB4.out.size))
  clear hs hb HB4
  go_wp2_with fail
  refine (numberPayload 5 87 _).mono ?_
  rintro e w6 ⟨⟨x4, rfl, hs⟩, hb⟩
  replace HX0 := Lib.hid (HX0.out.below hb)
  replace HX1 := Lib.hid (HX1.out.below hb)
  replace HX2 := Lib.hid (HX2.out.below hb)
  replace HX3 := Lib.hid (HX3.out.below hb)
  have HX4 := Lib.hid (show PayPart w6 4 x4 from hs)
  have HB6 := Lib.hid (HB5.out.trans (hb.mono HB5.out.size))
  clear hs hb HB5
  go_wp2_with fail
  refine (textPayload 6 88 _).mono ?_
  rintro e w7 ⟨⟨x5, rfl, hs⟩, hb⟩
  replace HX0 := Lib.hid (HX0.out.below hb)
  replace HX1 := Lib.hid (HX1.out.below hb)
  replace HX2 := Lib.hid (HX2.out.below hb)
  replace HX3 := Lib.hid (HX3.out.below hb)
  replace HX4 := Lib.hid (HX4.out.below hb)
  have HX5 := Lib.hid (show PayPart w7 5 x5 from hs)
  have HB7 := Lib.hid (HB6.out.trans (hb.mono HB6.out.size))
  clear hs hb HB6
  go_wp2_with fail
  refine (addrParts_any _).mono ?_
  rintro e w8 ⟨⟨gp8, cap8, rfl, hs⟩, hb⟩
  have HP := Lib.hid hs
  replace HX0 := Lib.hid (HX0.out.below hb)
  replace HX1 := Lib.hid (HX1.out.below hb)
  replace HX2 := Lib.hid (HX2.out.below hb)
  replace HX3 := Lib.hid (HX3.out.below hb)
  replace HX4 := Lib.hid (HX4.out.below hb)
  replace HX5 := Lib.hid (HX5.out.below hb)
  have HB8 := Lib.hid (HB7.out.trans (hb.mono HB7.out.size))
  clear hs hb HB7
  go_wp2_with fail
  refine (listAddr 7 90 gp8 cap8 _ HP.out).mono ?_
  rintro e w9 ⟨⟨x6, rfl, hs⟩, hb⟩
  replace HX0 := Lib.hid (HX0.out.below hb)
  replace HX1 := Lib.hid (HX1.out.below hb)
  replace HX2 := Lib.hid (HX2.out.below hb)
  replace HX3 := Lib.hid (HX3.out.below hb)
  replace HX4 := Lib.hid (HX4.out.below hb)
  replace HX5 := Lib.hid (HX5.out.below hb)
  have HX6 := Lib.hid (show PayPart w9 6 x6 from hs)
  clear HP
  have HB9 := Lib.hid (HB8.out.trans (hb.mono HB8.out.size))
  clear hs hb HB8
  go_wp2_with fail
  refine (textPayload 8 92 _).mono ?_
  rintro e w10 ⟨⟨x7, rfl, hs⟩, hb⟩
  replace HX0 := Lib.hid (HX0.out.below hb)
  replace HX1 := Lib.hid (HX1.out.below hb)
  replace HX2 := Lib.hid (HX2.out.below hb)
  replace HX3 := Lib.hid (HX3.out.below hb)
  replace HX4 := Lib.hid (HX4.out.below hb)
  replace HX5 := Lib.hid (HX5.out.below hb)
  replace HX6 := Lib.hid (HX6.out.below hb)
  have HX7 := Lib.hid (show PayPart w10 7 x7 from hs)
  have HB10 := Lib.hid (HB9.out.trans (hb.mono HB9.out.size))
  clear hs hb HB9
  go_wp2
  go_ret
  have up := below_alloc w10 (.cells #[.int .i64 (x0.num : Int), .int .i64 (x0.kind : Int), .func (.func x0.pg) #[] x0.plb, .func (.func x0.tg) #[] x0.tlb, .int .i64 (x1.num : Int), .int .i64 (x1.kind : Int), .func (.func x1.pg) #[] x1.plb, .func (.func x1.tg) #[] x1.tlb, .int .i64 (x2.num : Int), .int .i64 (x2.kind : Int), .func (.func x2.pg) #[] x2.plb, .func (.func x2.tg) #[] x2.tlb, .int .i64 (x3.num : Int), .int .i64 (x3.kind : Int), .func (.func x3.pg) #[] x3.plb, .func (.func x3.tg) #[] x3.tlb, .int .i64 (x4.num : Int), .int .i64 (x4.kind : Int), .func (.func x4.pg) #[] x4.plb, .func (.func x4.tg) #[] x4.tlb, .int .i64 (x5.num : Int), .int .i64 (x5.kind : Int), .func (.func x5.pg) #[] x5.plb, .func (.func x5.tg) #[] x5.tlb, .int .i64 (x6.num : Int), .int .i64 (x6.kind : Int), .func (.func x6.pg) #[] x6.plb, .func (.func x6.tg) #[] x6.tlb, .int .i64 (x7.num : Int), .int .i64 (x7.kind : Int), .func (.func x7.pg) #[] x7.plb, .func (.func x7.tg) #[] x7.tlb] 117)
  have hblk := World.alloc_heap_new w10 (.cells #[.int .i64 (x0.num : Int), .int .i64 (x0.kind : Int), .func (.func x0.pg) #[] x0.plb, .func (.func x0.tg) #[] x0.tlb, .int .i64 (x1.num : Int), .int .i64 (x1.kind : Int), .func (.func x1.pg) #[] x1.plb, .func (.func x1.tg) #[] x1.tlb, .int .i64 (x2.num : Int), .int .i64 (x2.kind : Int), .func (.func x2.pg) #[] x2.plb, .func (.func x2.tg) #[] x2.tlb, .int .i64 (x3.num : Int), .int .i64 (x3.kind : Int), .func (.func x3.pg) #[] x3.plb, .func (.func x3.tg) #[] x3.tlb, .int .i64 (x4.num : Int), .int .i64 (x4.kind : Int), .func (.func x4.pg) #[] x4.plb, .func (.func x4.tg) #[] x4.tlb, .int .i64 (x5.num : Int), .int .i64 (x5.kind : Int), .func (.func x5.pg) #[] x5.plb, .func (.func x5.tg) #[] x5.tlb, .int .i64 (x6.num : Int), .int .i64 (x6.kind : Int), .func (.func x6.pg) #[] x6.plb, .func (.func x6.tg) #[] x6.tlb, .int .i64 (x7.num : Int), .int .i64 (x7.kind : Int), .func (.func x7.pg) #[] x7.plb, .func (.func x7.tg) #[] x7.tlb] 117)
  refine ⟨⟨w10.heap.size, 8, rfl, x0, x1, x2, x3, x4, x5, x6, x7, ⟨by simp, ?_⟩, HX0.out.below up, HX1.out.below up, HX2.out.below up, HX3.out.below up, HX4.out.below up, HX5.out.below up, HX6.out.below up, HX7.out.below up⟩, HB10.out.trans (up.mono HB10.out.size)⟩
  intro i x hi
  match i with
  | 0 => simp at hi; subst hi; exact ⟨(Lib.cell_of_heap hblk 0).trans rfl, (Lib.cell_of_heap hblk 1).trans rfl, (Lib.cell_of_heap hblk 2).trans rfl, (Lib.cell_of_heap hblk 3).trans rfl⟩
  | 1 => simp at hi; subst hi; exact ⟨(Lib.cell_of_heap hblk 4).trans rfl, (Lib.cell_of_heap hblk 5).trans rfl, (Lib.cell_of_heap hblk 6).trans rfl, (Lib.cell_of_heap hblk 7).trans rfl⟩
  | 2 => simp at hi; subst hi; exact ⟨(Lib.cell_of_heap hblk 8).trans rfl, (Lib.cell_of_heap hblk 9).trans rfl, (Lib.cell_of_heap hblk 10).trans rfl, (Lib.cell_of_heap hblk 11).trans rfl⟩
  | 3 => simp at hi; subst hi; exact ⟨(Lib.cell_of_heap hblk 12).trans rfl, (Lib.cell_of_heap hblk 13).trans rfl, (Lib.cell_of_heap hblk 14).trans rfl, (Lib.cell_of_heap hblk 15).trans rfl⟩
  | 4 => simp at hi; subst hi; exact ⟨(Lib.cell_of_heap hblk 16).trans rfl, (Lib.cell_of_heap hblk 17).trans rfl, (Lib.cell_of_heap hblk 18).trans rfl, (Lib.cell_of_heap hblk 19).trans rfl⟩
  | 5 => simp at hi; subst hi; exact ⟨(Lib.cell_of_heap hblk 20).trans rfl, (Lib.cell_of_heap hblk 21).trans rfl, (Lib.cell_of_heap hblk 22).trans rfl, (Lib.cell_of_heap hblk 23).trans rfl⟩
  | 6 => simp at hi; subst hi; exact ⟨(Lib.cell_of_heap hblk 24).trans rfl, (Lib.cell_of_heap hblk 25).trans rfl, (Lib.cell_of_heap hblk 26).trans rfl, (Lib.cell_of_heap hblk 27).trans rfl⟩
  | 7 => simp at hi; subst hi; exact ⟨(Lib.cell_of_heap hblk 28).trans rfl, (Lib.cell_of_heap hblk 29).trans rfl, (Lib.cell_of_heap hblk 30).trans rfl, (Lib.cell_of_heap hblk 31).trans rfl⟩
  | i + 8 => simp at hi
end Go.Proofs.YtngceccpebdgmaaGreatDoor
