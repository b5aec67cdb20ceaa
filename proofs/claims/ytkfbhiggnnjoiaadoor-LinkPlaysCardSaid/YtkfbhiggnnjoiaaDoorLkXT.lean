/- link: the reference's Reset, New, Take. -/
import Derived.Test.YtkfbhiggnnjoiaaDoorLkX
namespace Go.Proofs.YtkfbhiggnnjoiaaDoor
open Go.RowKit Go.Lib

/-- Behind Reset. -/
abbrev xsetW (w : World) (m ep : Nat) : World := (((w.setCell ⟨m, 0, none⟩ (.slice (some ⟨w.heap.size, 0, none⟩) 2 2)).setCell ⟨m, 1, none⟩ (.slice (some ⟨w.heap.size + 1 + 1 + 1, 0, none⟩) 2 2)).setCell ⟨m, 2, none⟩ (.int .u64 ((ep : Int) + 1))).setCell ⟨m, 3, none⟩ (.int .i64 0)
abbrev xnewW (w : World) (m ep : Nat) : World := ((((xsetW w m ep).alloc (.cells #[.string ⟨#[]⟩, .string ⟨#[]⟩] 9)).alloc (.cells #[.string ⟨#[]⟩, .int .i64 0] 74)).alloc (.cells #[.string ⟨#[]⟩, .int .i64 0] 74)).alloc (.cells #[.pointer (some ⟨w.heap.size + 1, 0, none⟩), .pointer (some ⟨w.heap.size + 1 + 1, 0, none⟩)] 72)
theorem xreset_world {base m ep : Nat} {v0 v1 v3 : Value} {w : World} (h : Blk w m #[v0, v1, .int .u64 (ep : Int), v3] 36) (hm : base ≤ m) :
    XkAt base ⟨m, w.heap.size, w.heap.size + 1 + 1 + 1, w.heap.size + 1, w.heap.size + 1 + 1⟩ (lk0 (ep + 1)) 0 (xnewW w m ep) ∧ FKept (fun k => k = m) w (xnewW w m ep) := by
  have hlt := h.lt
  have al : ∀ (x : World) (o : Obj), Below x.heap.size x (x.alloc o) := fun x o => (Below.refl _ _).alloc (Nat.le_refl _) _
  have up : ∀ {q : Nat} {c : Array Value} {t : TypeId} {x : World} {o : Obj}, Blk x q c t → Blk (x.alloc o) q c t := fun {q c t x o} hq => hq.below (al x o) hq.lt
  have mA : Blk (xsetW w m ep) m #[.slice (some ⟨w.heap.size, 0, none⟩) 2 2, .slice (some ⟨w.heap.size + 1 + 1 + 1, 0, none⟩) 2 2, .int .u64 ((ep : Int) + 1), .int .i64 0] 36 := (((h.set 0 _).set 1 _).set 2 _).set 3 _
  obtain ⟨wa, hwa⟩ : ∃ wa, xsetW w m ep = wa := ⟨_, rfl⟩
  have sa : wa.heap.size = w.heap.size := by rw [← hwa]; simp [xsetW, World.setCell]
  have kA : FKept (fun k => k = m) w wa := by
    rw [← hwa]
    exact (((FKept.set (F := fun k => k = m) rfl).trans (FKept.set (F := fun k => k = m) rfl) (fun k h => .inl h)).trans (FKept.set (F := fun k => k = m) rfl) (fun k h => .inl h)).trans (FKept.set (F := fun k => k = m) rfl) (fun k h => .inl h)
  unfold xnewW
  rw [hwa] at mA ⊢
  have q0 : Blk (wa.alloc (.cells #[.string ⟨#[]⟩, .string ⟨#[]⟩] 9)) w.heap.size #[.string ⟨#[]⟩, .string ⟨#[]⟩] 9 := by rw [← sa]; exact Blk.new wa _ _
  have r0 : Blk ((wa.alloc (.cells #[.string ⟨#[]⟩, .string ⟨#[]⟩] 9)).alloc (.cells #[.string ⟨#[]⟩, .int .i64 0] 74)) (w.heap.size + 1) #[.string ⟨#[]⟩, .int .i64 0] 74 := by
    have := Blk.new (wa.alloc (.cells #[.string ⟨#[]⟩, .string ⟨#[]⟩] 9)) #[.string ⟨#[]⟩, .int .i64 0] 74
    rw [World.size_alloc, sa] at this; exact this
  have r1 : Blk (((wa.alloc (.cells #[.string ⟨#[]⟩, .string ⟨#[]⟩] 9)).alloc (.cells #[.string ⟨#[]⟩, .int .i64 0] 74)).alloc (.cells #[.string ⟨#[]⟩, .int .i64 0] 74)) (w.heap.size + 1 + 1) #[.string ⟨#[]⟩, .int .i64 0] 74 := by
    have := Blk.new ((wa.alloc (.cells #[.string ⟨#[]⟩, .string ⟨#[]⟩] 9)).alloc (.cells #[.string ⟨#[]⟩, .int .i64 0] 74)) #[.string ⟨#[]⟩, .int .i64 0] 74
    rw [World.size_alloc, World.size_alloc, sa] at this; exact this
  have hrow : Blk ((((wa.alloc (.cells #[.string ⟨#[]⟩, .string ⟨#[]⟩] 9)).alloc (.cells #[.string ⟨#[]⟩, .int .i64 0] 74)).alloc (.cells #[.string ⟨#[]⟩, .int .i64 0] 74)).alloc (.cells #[.pointer (some ⟨w.heap.size + 1, 0, none⟩), .pointer (some ⟨w.heap.size + 1 + 1, 0, none⟩)] 72)) (w.heap.size + 1 + 1 + 1) #[.pointer (some ⟨w.heap.size + 1, 0, none⟩), .pointer (some ⟨w.heap.size + 1 + 1, 0, none⟩)] 72 := by
    have := Blk.new (((wa.alloc (.cells #[.string ⟨#[]⟩, .string ⟨#[]⟩] 9)).alloc (.cells #[.string ⟨#[]⟩, .int .i64 0] 74)).alloc (.cells #[.string ⟨#[]⟩, .int .i64 0] 74)) #[.pointer (some ⟨w.heap.size + 1, 0, none⟩), .pointer (some ⟨w.heap.size + 1 + 1, 0, none⟩)] 72
    rw [World.size_alloc, World.size_alloc, World.size_alloc, sa] at this; exact this
  refine ⟨⟨up (up (up (up mA))), ⟨⟨#[]⟩, ⟨#[]⟩, rfl, rfl, up (up (up q0))⟩, hrow, ⟨⟨#[]⟩, rfl, up (up r0)⟩, ⟨⟨#[]⟩, rfl, up r1⟩, by show w.heap.size + 1 ≠ w.heap.size + 1 + 1; omega, ?_⟩, ?_⟩
  · intro k hk
    have hk : k = m ∨ k = w.heap.size ∨ k = w.heap.size + 1 + 1 + 1 ∨ k = w.heap.size + 1 ∨ k = w.heap.size + 1 + 1 := hk
    omega
  · have k2 : FKept (fun k => k = m) wa _ := (((FKept.of (F := fun k => k = m) (al wa (.cells #[.string ⟨#[]⟩, .string ⟨#[]⟩] 9))).trans (FKept.of (F := fun k => k = m) (al _ (.cells #[.string ⟨#[]⟩, .int .i64 0] 74))) (fun k h => .inl h)).trans (FKept.of (F := fun k => k = m) (al _ (.cells #[.string ⟨#[]⟩, .int .i64 0] 74))) (fun k h => .inl h)).trans (FKept.of (F := fun k => k = m) (al _ (.cells #[.pointer (some ⟨w.heap.size + 1, 0, none⟩), .pointer (some ⟨w.heap.size + 1 + 1, 0, none⟩)] 72))) (fun k h => .inl h)
    exact kA.trans k2 (fun k h => .inl h)

def XrPost (base m ep : Nat) (w : World) (e : Ending) (w' : World) : Prop := e = .returned (.tuple #[]) ∧ ∃ f : Xm, f.m = m ∧ XkAt base f (lk0 (ep + 1)) 0 w' ∧ FKept (fun k => k = m) w w' ∧ ∀ k, Ft f k → k = m ∨ w.heap.size ≤ k
set_option maxRecDepth 100000 in
set_option maxHeartbeats 1000000 in
theorem xreset_any {base m ep : Nat} {v0 v1 v3 : Value} {w : World} (h : Blk w m #[v0, v1, .int .u64 (ep : Int), v3] 36) (hm : base ≤ m) (hep : ep ≤ 1000000) :
    Calls Tryd.prog 25 #[.pointer (some ⟨m, 0, none⟩)] w (XrPost base m ep w) := by
  have HX := Lib.hid (xreset_world h hm)
  have hlt := h.lt
  have n1 : m < w.heap.size + 1 := by omega
  have n2 : m < w.heap.size + 1 + 1 := by omega
  have n3 : m < w.heap.size + 1 + 1 + 1 := by omega
  have c0 : w.cell? ⟨m, 0, none⟩ = some v0 := h.cell 0
  have c1 : w.cell? ⟨m, 1, none⟩ = some v1 := h.cell 1
  have c2 : w.cell? ⟨m, 2, none⟩ = some (.int .u64 (ep : Int)) := h.cell 2
  have c3 : w.cell? ⟨m, 3, none⟩ = some v3 := h.cell 3
  have f0 := h.frozen 0
  have f1 := h.frozen 1
  have f2 := h.frozen 2
  have f3 := h.frozen 3
  go_enter Tryd.func25, Tryd.ntmps25
  go_wp2
  go_end0
  refine ⟨rfl, _, rfl, HX.out.1, HX.out.2, fun k hk => ?_⟩
  have hk : k = m ∨ k = w.heap.size ∨ k = w.heap.size + 1 + 1 + 1 ∨ k = w.heap.size + 1 ∨ k = w.heap.size + 1 + 1 := hk
  omega
theorem xreset_is {base gone : Nat} {f : Xm} {x : Lk} {w : World} (h : XkAt base f x gone w) (hep : x.ep ≤ 1000000) :
    Calls Tryd.prog 25 #[.pointer (some ⟨f.m, 0, none⟩)] w (XkPost base f (.tuple #[]) (lk0 (x.ep + 1)) 0 w) := by
  refine (xreset_any h.blk (h.low _ (.inl rfl)) hep).mono ?_
  rintro e w' ⟨rfl, f', hm, hx, hk, hf⟩
  exact ⟨rfl, f', hm, hx, ⟨hk.os, hk.tape, hk.output, hk.size, fun k hlt hn => hk.block k hlt (fun e => hn (.inl e))⟩, fun k hk => (hf k hk).imp (fun e => .inl e) id⟩
set_option maxRecDepth 100000 in
theorem xnew_any (base : Nat) (w : World) (hB : base ≤ w.heap.size) :
    Calls Tryd.prog 12 #[] w fun e w' => e = .returned (.pointer (some ⟨w.heap.size, 0, none⟩)) ∧ (∃ f : Xm, f.m = w.heap.size ∧ XkAt base f (lk0 1) 0 w' ∧ (∀ k, Ft f k → w.heap.size ≤ k)) ∧ Below w.heap.size w w' := by
  have hA : Blk (w.alloc (.cells #[.slice none 0 0, .slice none 0 0, .int .u64 0, .int .i64 0] 36)) w.heap.size #[.slice none 0 0, .slice none 0 0, .int .u64 ((0 : Nat) : Int), .int .i64 0] 36 := Blk.new w _ _
  have hb : Below w.heap.size w (w.alloc (.cells #[.slice none 0 0, .slice none 0 0, .int .u64 0, .int .i64 0] 36)) := (Below.refl _ _).alloc (Nat.le_refl _) _
  have HA := Lib.hid (And.intro hA hb); clear hA hb
  go_enter Tryd.func12, Tryd.ntmps12
  go_wp2_with fail
  refine (xreset_any HA.out.1 hB (by omega)).mono ?_
  rintro e w' ⟨rfl, f', hm, hx, hk, hf⟩
  have HF := Lib.hid (And.intro hm (And.intro hx (And.intro hk hf))); clear hm hx hk hf
  go_wp2
  go_ret
  have hsz := HA.out.2.size
  exact ⟨rfl, ⟨f', HF.out.1, HF.out.2.1, fun k hk => (HF.out.2.2.2 k hk).elim (fun e => by omega) (fun h => by omega)⟩, HA.out.2.trans (HF.out.2.2.1.below hsz (fun k e => by omega))⟩
end Go.Proofs.YtkfbhiggnnjoiaaDoor
