/- message: what takes texts, one behind the other (tools/mseach_gen.py). -/
import Derived.Test.YtbflbgnafdbngaaDoorMsReqP
import Derived.Deep.AppendLies
namespace Go.Proofs.YtbflbgnafdbngaaDoor
open Go.RowKit Go.Lib

abbrev fSelf : Value := .func (.func 43) #[] #[]
abbrev fReadHave : Value := .func (.func 45) #[] #[]
def EachT (w : World) (v : Value) (p : Addr) : Prop := ∃ b0 b1 b2 b3, v = clo b2 b3 ∧ Bk w b0 #[.pointer (some p)] 95 ∧ Bk w b1 #[fSelf] 96 ∧ Bk w b2 #[.int .i64 2] 3 ∧ Bk w b3 #[.func (.func 60) #[] #[.pointer (some ⟨b1, 0, none⟩), .pointer (some ⟨b0, 0, none⟩)]] 85
theorem EachT.later {w w' : World} {v : Value} {p : Addr} (h : EachT w v p) (hb : Below w.heap.size w w') : EachT w' v p := by
  obtain ⟨b0, b1, b2, b3, e, h0, h1, h2, h3⟩ := h
  exact ⟨b0, b1, b2, b3, e, h0.later hb, h1.later hb, h2.later hb, h3.later hb⟩
theorem EachT.grown {w w' : World} {M : Nat} {C : Int → Option Value} {v : Value} {p : Addr} (h : EachT w v p) (hM : Tks w M C) (hg : w.grownBy w' (some M)) : EachT w' v p := by
  obtain ⟨b0, b1, b2, b3, e, h0, h1, h2, h3⟩ := h
  exact ⟨b0, b1, b2, b3, e, h0.grown hM hg, h1.grown hM hg, h2.grown hM hg, h3.grown hM hg⟩
theorem EachT.kpt {w w' : World} {v : Value} {p : Addr} {R : Nat} {c : Array Value} {t : TypeId} (h : EachT w v p) (hk : Kpt R w w') (hR : Bk w R c t) (h0 : 95 ≠ t) (h1 : 96 ≠ t) (h2 : 3 ≠ t) (h3 : 85 ≠ t) : EachT w' v p := by
  obtain ⟨b0, b1, b2, b3, e, k0, k1, k2, k3⟩ := h
  exact ⟨b0, b1, b2, b3, e, hk.bk k0 (bk_ne k0 hR h0), hk.bk k1 (bk_ne k1 hR h1), hk.bk k2 (bk_ne k2 hR h2), hk.bk k3 (bk_ne k3 hR h3)⟩
set_option maxRecDepth 100000 in
theorem each_new (p : Addr) (w : World) : Calls Tryd.prog 42 #[.pointer (some p), fSelf] w fun e w' => ∃ v, e = .returned v ∧ EachT w' v p ∧ Below w.heap.size w w' := by
  obtain ⟨w1, hw1, hb1, p1⟩ := alloc_new w #[.pointer (some p)] 95
  obtain ⟨w2, hw2, hb2, p2⟩ := alloc_new w1 #[fSelf] 96
  have hs1 : w1.heap.size = w.heap.size + 1 := by rw [← hw1]; simp
  rw [hs1] at p2
  have HO := Lib.hid (ofKind_new 2 (.func (.func 60) #[] #[.pointer (some ⟨w.heap.size + 1, 0, none⟩), .pointer (some ⟨w.heap.size, 0, none⟩)]) rfl w2)
  have HW := Lib.hid (show (w.alloc (.cells #[.pointer (some p)] 95)).alloc (.cells #[fSelf] 96) = w2 by rw [hw1, hw2])
  have H := Lib.hid (And.intro (p1.later hb2) (And.intro p2 (hb1.trans (hb2.mono hb1.size))))
  clear hw1 hb1 p1 hw2 hb2 p2 hs1
  go_enter Tryd.func42, Tryd.ntmps42
  go_wp2_with (go_at_call 54; rw [HW.out]; refine HO.out.mono ?_; rintro e w3 ⟨b2, b3, rfl, h2, h3, hb⟩)
  go_ret
  exact ⟨_, rfl, ⟨_, _, b2, b3, rfl, H.out.1.later hb, H.out.2.1.later hb, h2, h3⟩, H.out.2.2.trans (hb.mono H.out.2.2.size)⟩
/-- What takes what is had: made, and never called here. -/
theorem eachH_new (p : Addr) (w : World) : Calls Tryd.prog 44 #[.pointer (some p), fReadHave] w fun e w' => ∃ v, e = .returned v ∧ Below w.heap.size w w' := by
  obtain ⟨w1, hw1, hb1, p1⟩ := alloc_new w #[.pointer (some p)] 100
  obtain ⟨w2, hw2, hb2, p2⟩ := alloc_new w1 #[fReadHave] 101
  have hs1 : w1.heap.size = w.heap.size + 1 := by rw [← hw1]; simp
  have HO := Lib.hid (ofKind_new 2 (.func (.func 61) #[] #[.pointer (some ⟨w.heap.size + 1, 0, none⟩), .pointer (some ⟨w.heap.size, 0, none⟩)]) rfl w2)
  have HW := Lib.hid (show (w.alloc (.cells #[.pointer (some p)] 100)).alloc (.cells #[fReadHave] 101) = w2 by rw [hw1, hw2])
  have H := Lib.hid (hb1.trans (hb2.mono hb1.size))
  clear hw1 hb1 p1 hw2 hb2 p2 hs1
  go_enter Tryd.func44, Tryd.ntmps44
  go_wp2_with (go_at_call 54; rw [HW.out]; refine HO.out.mono ?_; rintro e w3 ⟨b2, b3, rfl, h2, h3, hb⟩)
  go_ret
  exact ⟨_, rfl, H.out.trans (hb.mono H.out.size)⟩
end Go.Proofs.YtbflbgnafdbngaaDoor
