/- message: what takes a number, or a text, into a place. -/
import Derived.Test.YtbflbgnafdbngaaDoorMsStat
import Derived.Test.YtbflbgnafdbngaaDoorRows2
import Derived.Laws.EntriesVeiled
namespace Go.Proofs.YtbflbgnafdbngaaDoor
open Go.RowKit Go.Lib

/-- A field as a value. -/
abbrev fV (f : Fd) : Value := .agg #[.int .i64 (f.num : Int), .int .i64 (f.kind : Int), .int .u64 (f.n : Int), .string ⟨f.s.toArray⟩]
/-- What takes a field: the closure over its Kind, at b2, and over what takes it then, at b3. -/
abbrev clo (b2 b3 : Nat) : Value := .func (.func 68) #[] #[.pointer (some ⟨b2, 0, none⟩), .pointer (some ⟨b3, 0, none⟩)]
def NumT (w : World) (v : Value) (p : Addr) : Prop := ∃ b1 b2 b3, v = clo b2 b3 ∧ Bk w b1 #[.pointer (some p)] 87 ∧ Bk w b2 #[.int .i64 0] 3 ∧ Bk w b3 #[.func (.func 55) #[] #[.pointer (some ⟨b1, 0, none⟩)]] 85
def TxtT (w : World) (v : Value) (p : Addr) : Prop := ∃ b1 b2 b3, v = clo b2 b3 ∧ Bk w b1 #[.pointer (some p)] 89 ∧ Bk w b2 #[.int .i64 2] 3 ∧ Bk w b3 #[.func (.func 56) #[] #[.pointer (some ⟨b1, 0, none⟩)]] 85
/-- All blocks but R are as they were. -/
structure Kpt (R : Nat) (w w' : World) : Prop where
  os : w'.os = w.os
  tape : w'.tape = w.tape
  output : w'.output = w.output
  size : w.heap.size ≤ w'.heap.size
  block : ∀ k, k < w.heap.size → k ≠ R → w'.heap[k]? = w.heap[k]?
theorem Kpt.below {R n : Nat} {w w' : World} (h : Kpt R w w') (hn : n ≤ R) (hs : n ≤ w.heap.size) : Below n w w' := ⟨h.os, h.tape, h.output, h.size, fun k hk => h.block k (by omega) (by omega)⟩
theorem Kpt.bk {R B : Nat} {w w' : World} {c : Array Value} {t : TypeId} (h : Kpt R w w') (hb : Bk w B c t) (hne : B ≠ R) : Bk w' B c t := (h.block B hb.lt hne).trans hb
theorem NumT.later {w w' : World} {v : Value} {p : Addr} (h : NumT w v p) (hb : Below w.heap.size w w') : NumT w' v p := by
  obtain ⟨b1, b2, b3, e, h1, h2, h3⟩ := h
  exact ⟨b1, b2, b3, e, h1.later hb, h2.later hb, h3.later hb⟩
theorem TxtT.later {w w' : World} {v : Value} {p : Addr} (h : TxtT w v p) (hb : Below w.heap.size w w') : TxtT w' v p := by
  obtain ⟨b1, b2, b3, e, h1, h2, h3⟩ := h
  exact ⟨b1, b2, b3, e, h1.later hb, h2.later hb, h3.later hb⟩
theorem bk_ne {w : World} {B R : Nat} {c c' : Array Value} {t t' : TypeId} (h : Bk w B c t) (h' : Bk w R c' t') (ht : t ≠ t') : B ≠ R := by
  rintro rfl
  have := h.symm.trans h'
  injection this with e
  injection e with _ e2
  exact ht e2
theorem NumT.kpt {w w' : World} {v : Value} {p : Addr} {R : Nat} {c : Array Value} {t : TypeId} (h : NumT w v p) (hk : Kpt R w w') (hR : Bk w R c t) (h1 : 87 ≠ t) (h2 : 3 ≠ t) (h3 : 85 ≠ t) : NumT w' v p := by
  obtain ⟨b1, b2, b3, e, k1, k2, k3⟩ := h
  exact ⟨b1, b2, b3, e, hk.bk k1 (bk_ne k1 hR h1), hk.bk k2 (bk_ne k2 hR h2), hk.bk k3 (bk_ne k3 hR h3)⟩
theorem TxtT.kpt {w w' : World} {v : Value} {p : Addr} {R : Nat} {c : Array Value} {t : TypeId} (h : TxtT w v p) (hk : Kpt R w w') (hR : Bk w R c t) (h1 : 89 ≠ t) (h2 : 3 ≠ t) (h3 : 85 ≠ t) : TxtT w' v p := by
  obtain ⟨b1, b2, b3, e, k1, k2, k3⟩ := h
  exact ⟨b1, b2, b3, e, hk.bk k1 (bk_ne k1 hR h1), hk.bk k2 (bk_ne k2 hR h2), hk.bk k3 (bk_ne k3 hR h3)⟩
set_option maxRecDepth 100000 in
theorem ofKind_new (K : Int) (v : Value) (h1 : v.cells = #[v]) (w : World) : Calls Tryd.prog 54 #[.int .i64 K, v] w fun e w' => ∃ b2 b3, e = .returned (clo b2 b3) ∧ Bk w' b2 #[.int .i64 K] 3 ∧ Bk w' b3 #[v] 85 ∧ Below w.heap.size w w' := by
  obtain ⟨w1, hw1, hb1, p1⟩ := alloc_new w #[.int .i64 K] 3
  obtain ⟨w2, hw2, hb2, p2⟩ := alloc_new w1 #[v] 85
  have hs1 : w1.heap.size = w.heap.size + 1 := by rw [← hw1]; simp
  have hc : v.cells = #[v] := h1
  simp only [Value.cells] at hc
  have H := Lib.hid (And.intro (p1.later hb2) (And.intro p2 (And.intro hs1 (hb1.trans (hb2.mono hb1.size)))))
  have HW := Lib.hid (show (w.alloc (.cells #[.int .i64 K] 3)).alloc (.cells #[v] 85) = w2 by rw [hw1, hw2])
  clear hw1 hb1 p1 hw2 hb2 p2 hs1 h1
  go_enter Tryd.func54, Tryd.ntmps54
  go_wp2_with fail
  rw [HW.out]
  go_ret
  exact ⟨_, _, rfl, H.out.1, by have := H.out.2.1; rw [H.out.2.2.1] at this; exact this, H.out.2.2.2⟩
set_option maxRecDepth 100000 in
theorem number_new (p : Addr) (w : World) : Calls Tryd.prog 37 #[.pointer (some p)] w fun e w' => ∃ v, e = .returned v ∧ NumT w' v p ∧ Below w.heap.size w w' := by
  obtain ⟨w1, hw1, hb1, p1⟩ := alloc_new w #[.pointer (some p)] 87
  have HO := Lib.hid (ofKind_new 0 (.func (.func 55) #[] #[.pointer (some ⟨w.heap.size, 0, none⟩)]) rfl w1)
  have HW := Lib.hid hw1
  have H := Lib.hid (And.intro p1 hb1)
  clear hw1 hb1 p1
  go_enter Tryd.func37, Tryd.ntmps37
  go_wp2_with (go_at_call 54; rw [HW.out]; refine HO.out.mono ?_; rintro e w2 ⟨b2, b3, rfl, h2, h3, hb⟩)
  go_ret
  exact ⟨_, rfl, ⟨_, b2, b3, rfl, H.out.1.later hb, h2, h3⟩, H.out.2.trans (hb.mono H.out.2.size)⟩
set_option maxRecDepth 100000 in
theorem text_new (p : Addr) (w : World) : Calls Tryd.prog 38 #[.pointer (some p)] w fun e w' => ∃ v, e = .returned v ∧ TxtT w' v p ∧ Below w.heap.size w w' := by
  obtain ⟨w1, hw1, hb1, p1⟩ := alloc_new w #[.pointer (some p)] 89
  have HO := Lib.hid (ofKind_new 2 (.func (.func 56) #[] #[.pointer (some ⟨w.heap.size, 0, none⟩)]) rfl w1)
  have HW := Lib.hid hw1
  have H := Lib.hid (And.intro p1 hb1)
  clear hw1 hb1 p1
  go_enter Tryd.func38, Tryd.ntmps38
  go_wp2_with (go_at_call 54; rw [HW.out]; refine HO.out.mono ?_; rintro e w2 ⟨b2, b3, rfl, h2, h3, hb⟩)
  go_ret
  exact ⟨_, rfl, ⟨_, b2, b3, rfl, H.out.1.later hb, h2, h3⟩, H.out.2.trans (hb.mono H.out.2.size)⟩
set_option maxRecDepth 100000 in
/-- A field of another Kind is not taken. -/
theorem clo_no (K : Int) (v : Value) (b2 b3 : Nat) (f : Fd) (b : Addr) (w : World) (h2 : Bk w b2 #[.int .i64 K] 3) (hn : Gn b w) (hk : ((f.kind : Int) != K) = true) :
    Calls Tryd.prog 68 #[fV f, .pointer (some ⟨b2, 0, none⟩), .pointer (some ⟨b3, 0, none⟩)] w fun e w' => e = .returned (Tryd.S b) ∧ Below w.heap.size w w' := by
  obtain ⟨num, kind, n, s⟩ := f
  have c0 : w.cell? ⟨b2, 0, none⟩ = some (.int .i64 K) := h2.cell 0
  have l0 := h2.lt
  have c2 := hn.1
  have l2 := hn.2
  dsimp only at hk
  clear h2 hn
  go_enter Tryd.func68, Tryd.ntmps68
  go_wp2_with fail
  go_ret
  exact ⟨rfl, (Below.refl _ _).alloc (Nat.le_refl _) _⟩
theorem bk_set {W : World} {B : Nat} {c : Array Value} {t : TypeId} (h : Bk W B c t) (j : Nat) (v : Value) : Bk (W.setCell ⟨B, j, none⟩ v) B (c.setIfInBounds j v) t := by
  obtain ⟨hlt, hk⟩ := Array.getElem?_eq_some_iff.1 h
  show (W.heap.modify B _)[B]? = _
  rw [Array.getElem?_eq_getElem (by rw [Array.size_modify]; exact hlt), Array.getElem_modify_self, hk]
  rfl
theorem store_bk {w : World} {R : Nat} {cs : Array Value} {T : TypeId} (h : Bk w R cs T) (o : Nat) (v : Value) (ob : Obj) : Bk ((w.setCell ⟨R, o, none⟩ v).alloc ob) R (cs.setIfInBounds o v) T := by
  have hs : Bk (w.setCell ⟨R, o, none⟩ v) R (cs.setIfInBounds o v) T := bk_set h o v
  exact (heap_alloc_old _ _ hs.lt).trans hs
theorem store_kpt (w : World) (R o : Nat) (v : Value) (ob : Obj) : Kpt R w ((w.setCell ⟨R, o, none⟩ v).alloc ob) where
  os := rfl
  tape := rfl
  output := rfl
  size := by simp
  block := fun k hk hne => by
    rw [heap_alloc_old _ _ (by simpa using hk), Below.heap_setCell _ _ _ _ hne]
set_option maxRecDepth 100000 in
/-- A number is stored where it is to be. -/
theorem number_in (f : Fd) (b1 R o : Nat) (cs : Array Value) (T : TypeId) (w : World) (h1 : Bk w b1 #[.pointer (some ⟨R, o, none⟩)] 87) (hR : Bk w R cs T) (ho : o < cs.size) :
    Calls Tryd.prog 55 #[fV f, .pointer (some ⟨b1, 0, none⟩)] w fun e w' => e = .returned .nilIface ∧ Bk w' R (cs.setIfInBounds o (.int .u64 (f.n : Int))) T ∧ Kpt R w w' := by
  obtain ⟨num, kind, n, s⟩ := f
  have c0 : w.cell? ⟨b1, 0, none⟩ = some (.pointer (some ⟨R, o, none⟩)) := h1.cell 0
  have l0 := h1.lt
  have lR := hR.lt
  obtain ⟨u, hu⟩ : ∃ u, cs[o]? = some u := ⟨_, Array.getElem?_eq_getElem ho⟩
  have c1 : w.cell? ⟨R, o, none⟩ = some u := (hR.cell o).trans hu
  have f1 : w.frozen? ⟨R, o, none⟩ = false := Lib.frozen_of_heap hR o
  have HR := Lib.hid hR
  clear h1 hR hu ho
  go_enter Tryd.func55, Tryd.ntmps55
  go_wp2_with fail
  go_ret
  exact ⟨rfl, store_bk HR.out o _ _, store_kpt w R o _ _⟩
set_option maxRecDepth 100000 in
/-- A text is stored where it is to be. -/
theorem text_in (f : Fd) (b1 R o : Nat) (cs : Array Value) (T : TypeId) (w : World) (h1 : Bk w b1 #[.pointer (some ⟨R, o, none⟩)] 89) (hR : Bk w R cs T) (ho : o < cs.size) :
    Calls Tryd.prog 56 #[fV f, .pointer (some ⟨b1, 0, none⟩)] w fun e w' => e = .returned .nilIface ∧ Bk w' R (cs.setIfInBounds o (.string ⟨f.s.toArray⟩)) T ∧ Kpt R w w' := by
  obtain ⟨num, kind, n, s⟩ := f
  have c0 : w.cell? ⟨b1, 0, none⟩ = some (.pointer (some ⟨R, o, none⟩)) := h1.cell 0
  have l0 := h1.lt
  have lR := hR.lt
  obtain ⟨u, hu⟩ : ∃ u, cs[o]? = some u := ⟨_, Array.getElem?_eq_getElem ho⟩
  have c1 : w.cell? ⟨R, o, none⟩ = some u := (hR.cell o).trans hu
  have f1 : w.frozen? ⟨R, o, none⟩ = false := Lib.frozen_of_heap hR o
  have HR := Lib.hid hR
  clear h1 hR hu ho
  go_enter Tryd.func56, Tryd.ntmps56
  go_wp2_with fail
  go_ret
  exact ⟨rfl, store_bk HR.out o _ _, store_kpt w R o _ _⟩
/-- What a taker of one field does: it stores the value in its place, and nothing else. -/
def Stored (R o : Nat) (cs : Array Value) (T : TypeId) (v : Value) (w : World) (e : Ending) (w' : World) : Prop := e = .returned .nilIface ∧ Bk w' R (cs.setIfInBounds o v) T ∧ Kpt R w w'
theorem Kpt.after {R : Nat} {w w1 w' : World} (hb : Below w.heap.size w w1) (h : Kpt R w1 w') : Kpt R w w' where
  os := h.os.trans hb.os
  tape := h.tape.trans hb.tape
  output := h.output.trans hb.output
  size := Nat.le_trans hb.size h.size
  block := fun k hk hne => (h.block k (Nat.lt_of_lt_of_le hk hb.size) hne).trans (hb.block k hk)
set_option maxRecDepth 100000 in
theorem num_yes (f : Fd) (v : Value) (R o : Nat) (cs : Array Value) (T : TypeId) (w : World) (h : NumT w v ⟨R, o, none⟩) (hk : f.kind = 0) (hR : Bk w R cs T) (ho : o < cs.size) :
    ∃ b2 b3, v = clo b2 b3 ∧ Calls Tryd.prog 68 #[fV f, .pointer (some ⟨b2, 0, none⟩), .pointer (some ⟨b3, 0, none⟩)] w (Stored R o cs T (.int .u64 (f.n : Int)) w) := by
  obtain ⟨b1, b2, b3, rfl, h1, h2, h3⟩ := h
  refine ⟨b2, b3, rfl, ?_⟩
  obtain ⟨w1, hw1, hb1, p1⟩ := alloc_new w #[.int .i64 (f.num : Int), .int .i64 (f.kind : Int), .int .u64 (f.n : Int), .string ⟨f.s.toArray⟩] 59
  have HIN := Lib.hid (number_in f b1 R o cs T w1 (h1.later hb1) (hR.later hb1) ho)
  have hent : ∀ (args : Array Value) (w : World), (callFunc 55 args).run Tryd.prog w = .ok (.enter 55 args) w := enters_of Tryd.func55 (by kernel_rfl) rfl
  obtain ⟨num, kind, n, s⟩ := f
  dsimp only at hk
  subst hk
  have HW := Lib.hid (show w.alloc (.cells #[.int .i64 (num : Int), .int .i64 0, .int .u64 (n : Int), .string ⟨s.toArray⟩] 59) = w1 from hw1)
  have HIN2 := Lib.hid (show Calls Tryd.prog 55 #[.agg #[.int .i64 (num : Int), .int .i64 0, .int .u64 (n : Int), .string ⟨s.toArray⟩], .pointer (some ⟨b1, 0, none⟩)] w1 (fun e w' => e = .returned .nilIface ∧ Bk w' R (cs.setIfInBounds o (.int .u64 (n : Int))) T ∧ Kpt R w1 w') from HIN.out)
  have HB := Lib.hid hb1
  have c0 : w.cell? ⟨b2, 0, none⟩ = some (.int .i64 0) := h2.cell 0
  have l0 := h2.lt
  have c1 : w.cell? ⟨b3, 0, none⟩ = some (.func (.func 55) #[] #[.pointer (some ⟨b1, 0, none⟩)]) := h3.cell 0
  have l1 := h3.lt
  clear h1 h2 h3 hw1 hb1 p1 hR
  go_enter Tryd.func68, Tryd.ntmps68
  go_wp2_with fail
  rw [HW.out]
  refine HIN2.out.mono ?_
  rintro e w2 ⟨rfl, hs, hk⟩
  have HS := Lib.hid (And.intro hs (Kpt.after HB.out hk))
  clear hs hk
  go_wp2_with fail
  go_ret
  exact ⟨rfl, HS.out.1, HS.out.2⟩
set_option maxRecDepth 100000 in
theorem txt_yes (f : Fd) (v : Value) (R o : Nat) (cs : Array Value) (T : TypeId) (w : World) (h : TxtT w v ⟨R, o, none⟩) (hk : f.kind = 2) (hR : Bk w R cs T) (ho : o < cs.size) :
    ∃ b2 b3, v = clo b2 b3 ∧ Calls Tryd.prog 68 #[fV f, .pointer (some ⟨b2, 0, none⟩), .pointer (some ⟨b3, 0, none⟩)] w (Stored R o cs T (.string ⟨f.s.toArray⟩) w) := by
  obtain ⟨b1, b2, b3, rfl, h1, h2, h3⟩ := h
  refine ⟨b2, b3, rfl, ?_⟩
  obtain ⟨w1, hw1, hb1, p1⟩ := alloc_new w #[.int .i64 (f.num : Int), .int .i64 (f.kind : Int), .int .u64 (f.n : Int), .string ⟨f.s.toArray⟩] 59
  have HIN := Lib.hid (text_in f b1 R o cs T w1 (h1.later hb1) (hR.later hb1) ho)
  have hent : ∀ (args : Array Value) (w : World), (callFunc 56 args).run Tryd.prog w = .ok (.enter 56 args) w := enters_of Tryd.func56 (by kernel_rfl) rfl
  obtain ⟨num, kind, n, s⟩ := f
  dsimp only at hk
  subst hk
  have HW := Lib.hid (show w.alloc (.cells #[.int .i64 (num : Int), .int .i64 2, .int .u64 (n : Int), .string ⟨s.toArray⟩] 59) = w1 from hw1)
  have HIN2 := Lib.hid (show Calls Tryd.prog 56 #[.agg #[.int .i64 (num : Int), .int .i64 2, .int .u64 (n : Int), .string ⟨s.toArray⟩], .pointer (some ⟨b1, 0, none⟩)] w1 (fun e w' => e = .returned .nilIface ∧ Bk w' R (cs.setIfInBounds o (.string ⟨s.toArray⟩)) T ∧ Kpt R w1 w') from HIN.out)
  have HB := Lib.hid hb1
  have c0 : w.cell? ⟨b2, 0, none⟩ = some (.int .i64 2) := h2.cell 0
  have l0 := h2.lt
  have c1 : w.cell? ⟨b3, 0, none⟩ = some (.func (.func 56) #[] #[.pointer (some ⟨b1, 0, none⟩)]) := h3.cell 0
  have l1 := h3.lt
  clear h1 h2 h3 hw1 hb1 p1 hR
  go_enter Tryd.func68, Tryd.ntmps68
  go_wp2_with fail
  rw [HW.out]
  refine HIN2.out.mono ?_
  rintro e w2 ⟨rfl, hs, hk⟩
  have HS := Lib.hid (And.intro hs (Kpt.after HB.out hk))
  clear hs hk
  go_wp2_with fail
  go_ret
  exact ⟨rfl, HS.out.1, HS.out.2⟩
end Go.Proofs.YtbflbgnafdbngaaDoor
