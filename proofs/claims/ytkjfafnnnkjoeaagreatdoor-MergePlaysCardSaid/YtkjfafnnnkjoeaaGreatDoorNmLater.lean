/- names: what stays behind a call. -/
import Derived.Test.YtkjfafnnnkjoeaaGreatDoorNmUnion
import Derived.Test.YtkjfafnnnkjoeaaGreatDoorNmHas
namespace Go.Proofs.YtkjfafnnnkjoeaaGreatDoor
open Go.RowKit Go.Lib

theorem Blk.later {W W' : World} {B : Nat} {c : Array Value} {t : TypeId} (h : Blk W B c t) (hb : Below W.heap.size W W') : Blk W' B c t := h.below hb h.lt
theorem TsAt.later {w w' : World} {v : Value} {l : List (List UInt8)} (h : TsAt w v l) (hb : Below w.heap.size w w') : TsAt w' v l := h.below hb
theorem SetsAt.later {w w' : World} {a : Option Addr} {ss : List Ns} (h : SetsAt w a ss) (hb : Below w.heap.size w w') : SetsAt w' a ss := h.below hb
theorem LsAt.later {w w' : World} {v : Value} {ls : List (List (List UInt8))} (h : LsAt w v ls) (hb : Below w.heap.size w w') : LsAt w' v ls := h.below hb
/-- All that stood in W is as it was. -/
def Base (W w : World) : Prop := Below W.heap.size W w
theorem Base.later {W w w' : World} (h : Base W w) (hb : Below w.heap.size w w') : Base W w' := Below.trans h (hb.mono (Below.size h))
theorem alloc_new (w : World) (cs : Array Value) (t : TypeId) : ∃ w', w.alloc (.cells cs t) = w' ∧ Below w.heap.size w w' ∧ Blk w' w.heap.size cs t := ⟨_, rfl, (Below.refl _ _).alloc (Nat.le_refl _) _, Blk.new _ _ _⟩
theorem drew_new (w : World) : ∃ w', w.drew = w' ∧ Below w.heap.size w w' := ⟨_, rfl, (Below.refl _ _).drew⟩
theorem field_set (b : Bool) (a : Option Addr) (n c : Nat) (w : World) : (Instr.field 41 (.agg #[.bool b, .slice a n c]) 1).run Tryz.prog w = .ok (.slice a n c) w := by kernel_rfl
/-- Two sets in boxes, behind w. -/
def L2 (w : World) (aa ba : Bool) (av bv : Value) (w' : World) : Prop :=
  w'.cell? ⟨w.heap.size, 0, none⟩ = some (.bool aa) ∧ w'.cell? ⟨w.heap.size, 1, none⟩ = some av ∧ w'.cell? ⟨w.heap.size + 1, 0, none⟩ = some (.bool ba) ∧ w'.cell? ⟨w.heap.size + 1, 1, none⟩ = some bv ∧ w.heap.size + 1 < w'.heap.size ∧ Below w.heap.size w w'
theorem L2.later {w w1 w2 : World} {aa ba : Bool} {av bv : Value} (h : L2 w aa ba av bv w1) (hb : Below w1.heap.size w1 w2) : L2 w aa ba av bv w2 := by
  obtain ⟨h0, h1, h2, h3, h4, h5⟩ := h
  exact ⟨(hb.cell (p := ⟨_, _, none⟩) (by show w.heap.size < _; omega)).trans h0, (hb.cell (p := ⟨_, _, none⟩) (by show w.heap.size < _; omega)).trans h1, (hb.cell (p := ⟨_, _, none⟩) (by show w.heap.size + 1 < _; omega)).trans h2, (hb.cell (p := ⟨_, _, none⟩) (by show w.heap.size + 1 < _; omega)).trans h3, Nat.lt_of_lt_of_le h4 hb.size, h5.trans (hb.mono h5.size)⟩
theorem sets_one {w : World} {B n c : Nat} {a : Option Addr} {t : TypeId} {b : Bool} {l : List (List UInt8)} (hb : Blk w B #[.bool b, .slice a n c] t) (h : TsAt w (.slice a n c) l) (hn : l.length = n) : SetsAt w (some ⟨B, 0, none⟩) [⟨b, l⟩] := by
  subst hn
  intro i s hi
  match i with
  | 0 =>
    obtain rfl := Option.some.inj hi
    exact ⟨B, 0, a, c, rfl, hb.lt, hb.cell 0, hb.cell 1, h⟩
  | i + 1 => simp at hi
theorem sets_two {w : World} {B n1 c1 n2 c2 : Nat} {a1 a2 : Option Addr} {t : TypeId} {b1 b2 : Bool} {l1 l2 : List (List UInt8)} (hb : Blk w B #[.bool b1, .slice a1 n1 c1, .bool b2, .slice a2 n2 c2] t) (h1 : TsAt w (.slice a1 n1 c1) l1) (hn1 : l1.length = n1) (h2 : TsAt w (.slice a2 n2 c2) l2) (hn2 : l2.length = n2) : SetsAt w (some ⟨B, 0, none⟩) [⟨b1, l1⟩, ⟨b2, l2⟩] := by
  subst hn1; subst hn2
  intro i s hi
  match i with
  | 0 =>
    obtain rfl := Option.some.inj hi
    exact ⟨B, 0, a1, c1, rfl, hb.lt, hb.cell 0, hb.cell 1, h1⟩
  | 1 =>
    obtain rfl := Option.some.inj hi
    exact ⟨B, 0, a2, c2, rfl, hb.lt, hb.cell 2, hb.cell 3, h2⟩
  | i + 2 => simp at hi
theorem union_one (b : Bool) (l : List (List UInt8)) : nUnion [⟨b, l⟩] = ⟨b, srt l⟩ := by simp [nUnion]
theorem fit_one {b : Bool} {l : List (List UInt8)} (h : NmFit l) : NssFit [⟨b, l⟩] := ⟨fun s hs x hx => by obtain rfl := List.mem_singleton.1 hs; exact h.1 x hx, by simpa using h.2, by show (1 : Nat) ≤ 1000000; omega⟩
end Go.Proofs.YtkjfafnnnkjoeaaGreatDoor
