/- payload: what the rounds of made find. -/
import Derived.Test.YtlefeihfkgijoaaGreatDoorPlStep
import Derived.Test.YtlefeihfkgijoaaGreatDoorPlGet
namespace Go.Proofs.YtlefeihfkgijoaaGreatDoor
open Go.RowKit Go.Shelf
/-- What an append of the round finds: the payload's block, its two rows, and what has been kept. -/
structure Rd (base P : Nat) (w0 X : World) (cs : Array Value) (v3 v6 : Value) (n3 n6 : Nat) (r3 r6 : List Value) : Prop where
  blk : Blk X P cs 26
  own : X.ownsRow base 62 2 v3 n3 r3
  oth : X.ownsRow base 65 3 v6 n6 r6
  bb : BelowBut base P w0 X
  sz : base ≤ X.heap.size
theorem Rd.next {base P : Nat} {w0 X X' : World} {cs : Array Value} {v3 v6 : Value} {n3 n6 : Nat} {r3 r6 : List Value} (h : Rd base P w0 X cs v3 v6 n3 n6 r3 r6) (hb : Below X.heap.size X X') : Rd base P w0 X' cs v3 v6 n3 n6 r3 r6 :=
  ⟨Blk.below h.blk hb (Blk.lt h.blk), own_below h.own hb, own_below h.oth hb, h.bb.trans (BelowBut.of hb h.sz), Nat.le_trans h.sz hb.size⟩
theorem Rd.app3 {base P : Nat} {w0 X w7 : World} {cs : Array Value} {v3 v6 : Value} {n3 n6 : Nat} {r3 r6 : List Value} (h : Rd base P w0 X cs v3 v6 n3 n6 r3 r6) (hg : X.grownBy w7 v3.ownBlock) :
    Blk w7 P cs 26 ∧ w7.ownsRow base 65 3 v6 n6 r6 ∧ BelowBut base P w0 w7 :=
  ⟨Blk.kept h.blk hg (fun e => row_block h.own h.blk (by decide) e.symm), own_other h.oth hg (rows_apart h.own h.oth (by decide)), h.bb.trans (bb_grown hg (fun k e => (h.own.lt k e).1) h.sz)⟩
theorem Rd.app6 {base P : Nat} {w0 X w7 : World} {cs : Array Value} {v3 v6 : Value} {n3 n6 : Nat} {r3 r6 : List Value} (h : Rd base P w0 X cs v3 v6 n3 n6 r3 r6) (hg : X.grownBy w7 v6.ownBlock) :
    Blk w7 P cs 26 ∧ w7.ownsRow base 62 2 v3 n3 r3 ∧ BelowBut base P w0 w7 :=
  ⟨Blk.kept h.blk hg (fun e => row_block h.oth h.blk (by decide) e.symm), own_other h.own hg (rows_apart h.oth h.own (by decide)), h.bb.trans (bb_grown hg (fun k e => (h.oth.lt k e).1) h.sz)⟩
theorem drew_up {W w5 : World} (h : Below W.drew.heap.size W.drew w5) : Below W.heap.size W w5 := (Below.refl _ _).drew.trans h
theorem drew_up2 {W w5 : World} {o : Obj} (h : Below ((W.alloc o).drew).heap.size ((W.alloc o).drew) w5) : Below W.heap.size W w5 := ((below_f W o).drew).trans (h.mono (by rw [World.size_drew, World.size_alloc]; omega))
theorem drew_cell2 {W w5 : World} {cs : Array Value} {t : TypeId} (h : Below ((W.alloc (.cells cs t)).drew).heap.size ((W.alloc (.cells cs t)).drew) w5) (j : Nat) : w5.cell? ⟨W.heap.size, j, none⟩ = cs[j]? :=
  (h.cell (p := ⟨W.heap.size, j, none⟩) (by rw [World.size_drew, World.size_alloc]; exact Nat.lt_succ_self _)).trans (new_cell W cs t j)
theorem ownsRow_drew {w : World} {base size n : Nat} {e : TypeId} {v : Value} {xs : List Value} (h : w.ownsRow base e size v n xs) : w.drew.ownsRow base e size v n xs := h
end Go.Proofs.YtlefeihfkgijoaaGreatDoor
