/- merge: sets of a few names; what Drops says (no program). merge: what Again says (no program). merge: stores of a set into a block, at any place. merge: what Keys says (no program). merge: the reference's Merge in memory. merge: the reference's Union. merge: the reference's Want, Lean. merge: the reference's Digits. merge: the reference's Set (tools/mgrset_gen.py). merge: the reference's Who, Drop. merge: the reference's Drop. merge: the reference's Keys. -/
import Derived.Test.YtkjfafnnnkjoeaaGreatDoorMgPlB
import Derived.Test.YtkjfafnnnkjoeaaGreatDoorMgFew
import Derived.Test.YtkjfafnnnkjoeaaGreatDoorMgSet
import Derived.Test.YtkjfafnnnkjoeaaGreatDoorNmRM
import Derived.RowKit
import Derived.Test.YtkjfafnnnkjoeaaGreatDoorMgOps
import Derived.Test.YtkjfafnnnkjoeaaGreatDoorMgItoa
import Derived.Test.YtkjfafnnnkjoeaaGreatDoorMgWho
import Derived.Test.YtkjfafnnnkjoeaaGreatDoorMgDrop
import Derived.Deep.AppendLies
namespace Go.Proofs.YtkjfafnnnkjoeaaGreatDoor
open Go.RowKit Go.Lib

/-- A set of a few names. -/
structure FewS (s : Ns) : Prop where
  r : NsR s
  n : s.ns.length ≤ 10
  l : ∀ x ∈ s.ns, x.length ≤ 64
theorem few_set (ms : List Nat) : FewS (nOf okN (nmcL ms 10)) := by
  refine ⟨nsr_of _, Nat.le_trans (srt_len _) (Nat.le_trans (List.length_filter_le _ _) (nmc_len ms 10)), fun x hx => ?_⟩
  have h := ((mem_of okN _ x).1 hx).1
  unfold nmcL at h
  obtain ⟨b, _, rfl⟩ := List.mem_map.1 h
  have := nmC_len b
  omega
theorem FewS.len {s : Ns} (h : FewS s) : (nList s).length ≤ 11 := Nat.le_trans (list_len s) (by have := h.n; omega)
theorem FewS.fit {s : Ns} (h : FewS s) : NmFit s.ns := list_fit (by have := h.n; omega) (fun x hx => by have := h.l x hx; omega)
theorem few_zero : FewS Ns.zero := ⟨nsr_zero, Nat.zero_le _, fun x hx => by cases hx⟩
theorem few_union {a b : Ns} (ha : FewS a) (hb : FewS b) : (nList (nUnion [a, b])).length ≤ 64 := by
  refine Nat.le_trans (union_len _) ?_
  simp only [List.flatMap_cons, List.flatMap_nil, List.length_append, List.length_nil]
  have := ha.n; have := hb.n
  omega
theorem same_self {s : Ns} (h : NsR s) : nSame s s = true := (nSame_iff h.ok h.ok).2 rfl
theorem KeptM.later {B : Nat} {w0 w w' : World} (h : KeptM B w0 w) (hb : Below w.heap.size w w') : KeptM B w0 w' := h.trans (.of hb)
theorem MgIs.at {base m : Nat} {W : Wants} {w w' : World} (h : MgIs base m W w) (hb : Below w.heap.size w w') : MgIs base m W w' := h.later hb
theorem i64_small {k : Int} (h : -1000000 ≤ k ∧ k ≤ 1000000) : i64B k := by unfold i64B; omega

theorem want_is {base m : Nat} {W : Wants} {i k : Int} {sa : Bool} {sl : List (List UInt8)} {w : World} (h : MgIs base m W w) (hi : i64B i) (hk : i64B k) (he : W i k = ⟨sa, sl⟩) :
    Calls Tryz.prog 15 #[.pointer (some ⟨m, 0, none⟩), .int .i64 i, .int .i64 k] w (SetPost sa sl w) := by
  have := mgWant_any h hi hk
  rw [he] at this
  exact this
theorem union_is {base m : Nat} {W : Wants} {k : Int} {sa : Bool} {sl : List (List UInt8)} {w : World} (h : MgIs base m W w) (hk : i64B k) (he : uni W k = ⟨sa, sl⟩) :
    Calls Tryz.prog 13 #[.pointer (some ⟨m, 0, none⟩), .int .i64 k] w (SetPost sa sl w) := by
  have := mgUnion_any h hk
  rw [he] at this
  exact this
theorem lean_is {base m : Nat} {W : Wants} {k : Int} {sa : Bool} {sl : List (List UInt8)} {w : World} (h : MgIs base m W w) (hk : i64B k) (he : leanM (uni W k) = ⟨sa, sl⟩) :
    Calls Tryz.prog 17 #[.pointer (some ⟨m, 0, none⟩), .int .i64 k] w (SetPost sa sl w) := by
  have := mgLean_any h hk
  rw [he] at this
  exact this

section
variable {X Y Z : Ns}
noncomputable abbrev dW1 (X : Ns) : Wants := wset W0 4 1 X
noncomputable abbrev dW2 (X Y : Ns) : Wants := wset (dW1 X) 4 2 Y
noncomputable abbrev dW3 (X Y Z : Ns) : Wants := wset (dW2 X Y) 5 1 Z
noncomputable abbrev dW4 (X Y Z : Ns) : Wants := wdrop (dW3 X Y Z) 4
theorem dw1_ok (hx : FewS X) : WOk (dW1 X) := wset_ok w0_ok hx.r (by decide)
theorem dw2_ok (hx : FewS X) (hy : FewS Y) : WOk (dW2 X Y) := wset_ok (dw1_ok hx) hy.r (by decide)
theorem dw3_ok (hx : FewS X) (hy : FewS Y) (hz : FewS Z) : WOk (dW3 X Y Z) := wset_ok (dw2_ok hx hy) hz.r (by decide)
theorem dw1_set (hx : FewS X) : setE W0 4 1 X = 0 ∧ setW W0 4 1 X = dW1 X := by
  have hu : uni (dW1 X) 1 = X := uni_one w0_ok hx.r (by decide) (fun _ _ => rfl)
  obtain ⟨h1, h2, _⟩ := setE_ok (W := W0) (i := 4) (k := 1) (s := X) (by decide) (by have := hx.len; omega) (by rw [hu]; have := hx.len; omega)
  exact ⟨h1, h2⟩
theorem dw2_set (hx : FewS X) (hy : FewS Y) : setE (dW1 X) 4 2 Y = 0 ∧ setW (dW1 X) 4 2 Y = dW2 X Y := by
  have hu : uni (dW2 X Y) 2 = Y := uni_one (dw1_ok hx) hy.r (by decide) (fun j hj => wset_id hj)
  obtain ⟨h1, h2, _⟩ := setE_ok (W := dW1 X) (i := 4) (k := 2) (s := Y) (by decide) (by have := hy.len; omega) (by rw [hu]; have := hy.len; omega)
  exact ⟨h1, h2⟩
theorem dw3_set (hx : FewS X) (hy : FewS Y) (hz : FewS Z) : setE (dW2 X Y) 5 1 Z = 0 ∧ setW (dW2 X Y) 5 1 Z = dW3 X Y Z := by
  have h0 : dW2 X Y 5 1 = Ns.zero := (wset_id (by decide)).trans (wset_id (by decide))
  have hu : uni (dW3 X Y Z) 1 = nUnion [X, Z] := by
    rw [uni_more (dw2_ok hx hy) hz.r (by decide) h0, uni_kind (by decide), uni_one w0_ok hx.r (by decide) (fun _ _ => rfl)]
  obtain ⟨h1, h2, _⟩ := setE_ok (W := dW2 X Y) (i := 5) (k := 1) (s := Z) (by decide) (by have := hz.len; omega) (by rw [hu]; exact few_union hx hz)
  exact ⟨h1, h2⟩
theorem dw3_41 : dW3 X Y Z 4 1 = X := (wset_id (by decide)).trans ((wset_kind (by decide)).trans (wset_same _ _ _ _))
theorem dw3_42 : dW3 X Y Z 4 2 = Y := (wset_id (by decide)).trans (wset_same _ _ _ _)
theorem dw3_4k {k : Int} (h1 : k ≠ 1) (h2 : k ≠ 2) : dW3 X Y Z 4 k = Ns.zero := (wset_id (by decide)).trans ((wset_kind h2).trans (wset_kind h1))
theorem dw3_any : wantsAny (dW3 X Y Z) 4 = !(nEmpty X && nEmpty Y) := by
  unfold wantsAny
  simp only [List.any_cons, List.any_nil]
  rw [dw3_41, dw3_42, dw3_4k (by decide) (by decide), dw3_4k (by decide) (by decide), dw3_4k (by decide) (by decide)]
  show (!nEmpty X || (!nEmpty Y || (!nEmpty Ns.zero || (!nEmpty Ns.zero || (!nEmpty Ns.zero || false))))) = _
  rw [show nEmpty Ns.zero = true from rfl]
  cases nEmpty X <;> cases nEmpty Y <;> rfl
theorem dw3_e : chkD (dW3 X Y Z) 4 = if nEmpty X && nEmpty Y then 5 else 0 := by
  unfold chkD
  rw [dw3_any]
  cases nEmpty X && nEmpty Y <;> rfl
theorem dw3_ez : ((chkD (dW3 X Y Z) 4 : Nat) : Int) = if nEmpty X && nEmpty Y then 5 else 0 := by
  rw [dw3_e]
  split <;> rfl
theorem dw3_w : dropW (dW3 X Y Z) 4 = dW4 X Y Z := by
  unfold dropW
  rw [dw3_e]
  cases h : nEmpty X && nEmpty Y with
  | false => rfl
  | true =>
    rw [Bool.and_eq_true] at h
    have e1 := empty_zero.1 h.1
    have e2 := empty_zero.1 h.2
    rw [if_neg (by decide)]
    funext i k
    show dW3 X Y Z i k = wdrop (dW3 X Y Z) 4 i k
    unfold wdrop
    split
    · rename_i hi
      subst hi
      by_cases k1 : k = 1
      · subst k1; rw [dw3_41, e1]
      · by_cases k2 : k = 2
        · subst k2; rw [dw3_42, e2]
        · exact dw3_4k k1 k2
    · rfl
theorem dw4_at {i k : Int} : dW4 X Y Z i k = if i = 4 then Ns.zero else dW3 X Y Z i k := by show wdrop _ _ _ _ = _; unfold wdrop; split <;> simp_all
theorem dw4_4 (k : Int) : dW4 X Y Z 4 k = Ns.zero := by rw [dw4_at, if_pos rfl]
theorem dw4_e : chkD (dW4 X Y Z) 4 = 5 ∧ dropW (dW4 X Y Z) 4 = dW4 X Y Z := by
  have h : chkD (dW4 X Y Z) 4 = 5 := by
    unfold chkD wantsAny
    simp only [dw4_4]
    rfl
  exact ⟨h, by unfold dropW; rw [h]; rfl⟩
theorem dw4_ez : ((chkD (dW4 X Y Z) 4 : Nat) : Int) = 5 := by rw [dw4_e.1]; rfl
theorem dw4_ok (hx : FewS X) (hy : FewS Y) (hz : FewS Z) : WOk (dW4 X Y Z) := by
  have h := dw3_ok hx hy hz
  refine ⟨fun i k => ?_, fun i k hb => ?_⟩
  · rw [dw4_at]; split
    · exact nsr_zero
    · exact h.r i k
  · rw [dw4_at]; split
    · rfl
    · exact h.z i k hb
theorem dw4_n (i k : Int) (h : ¬ (i = 5 ∧ k = 1)) : dW4 X Y Z i k = Ns.zero := by
  rw [dw4_at]
  split
  · rfl
  · rename_i hi
    by_cases h5 : i = 5
    · have hk : k ≠ 1 := fun e => h ⟨h5, e⟩
      subst h5
      exact (wset_kind hk).trans ((wset_id (by decide)).trans (wset_id (by decide)))
    · exact (wset_id h5).trans ((wset_id hi).trans (wset_id hi))
theorem dw4_u1 (hx : FewS X) (hy : FewS Y) (hz : FewS Z) : uni (dW4 X Y Z) 1 = Z := by
  refine uni_eq (dw4_ok hx hy hz) hz.r fun x => ⟨fun ⟨i, _, h⟩ => ?_, fun h => ⟨5, by decide, ?_⟩⟩
  · by_cases h5 : i = 5
    · subst h5
      rw [dw4_at, if_neg (by decide), show dW3 X Y Z 5 1 = Z from wset_same _ _ _ _] at h
      exact h
    · rw [dw4_n i 1 (fun e => h5 e.1)] at h
      cases h
  · rw [dw4_at, if_neg (by decide), show dW3 X Y Z 5 1 = Z from wset_same _ _ _ _]
    exact h
theorem dw4_u2 (hx : FewS X) (hy : FewS Y) (hz : FewS Z) : uni (dW4 X Y Z) 2 = Ns.zero := by
  refine uni_eq (dw4_ok hx hy hz) nsr_zero fun x => ⟨fun ⟨i, _, h⟩ => ?_, fun h => (by cases h)⟩
  rw [dw4_n i 2 (fun e => absurd e.2 (by decide))] at h
  exact h
end
end Go.Proofs.YtkjfafnnnkjoeaaGreatDoor
namespace Go.Proofs.YtkjfafnnnkjoeaaGreatDoor
open Go.RowKit Go.Lib

section
variable {X Y Z : Ns}
noncomputable abbrev vW1 (X : Ns) : Wants := wset W0 1 1 X
noncomputable abbrev vW (X Y : Ns) : Wants := wset (vW1 X) 2 1 Y
theorem vw1_ok (hx : FewS X) : WOk (vW1 X) := wset_ok w0_ok hx.r (by decide)
theorem vw_ok (hx : FewS X) (hy : FewS Y) : WOk (vW X Y) := wset_ok (vw1_ok hx) hy.r (by decide)
theorem vw_u (hx : FewS X) (hy : FewS Y) : uni (vW X Y) 1 = nUnion [X, Y] := by
  rw [uni_more (vw1_ok hx) hy.r (by decide) (wset_id (by decide)), uni_one w0_ok hx.r (by decide) (fun _ _ => rfl)]
theorem vw_swap : wset (vW X Y) 1 1 Z = vW Z Y := by
  funext i k
  by_cases h1 : i = 1 ∧ k = 1
  · obtain ⟨rfl, rfl⟩ := h1
    rw [wset_same]
    exact ((wset_id (by decide)).trans (wset_same _ _ _ _)).symm
  · by_cases h2 : i = 2 ∧ k = 1
    · obtain ⟨rfl, rfl⟩ := h2
      rw [wset_id (by decide)]
      exact (wset_same _ _ _ _).trans (wset_same _ _ _ _).symm
    · simp only [wset, h1, h2, if_false]
theorem vw1_set (hx : FewS X) : setE W0 1 1 X = 0 ∧ setW W0 1 1 X = vW1 X := by
  have hu : uni (vW1 X) 1 = X := uni_one w0_ok hx.r (by decide) (fun _ _ => rfl)
  obtain ⟨h1, h2, _⟩ := setE_ok (W := W0) (i := 1) (k := 1) (s := X) (by decide) (by have := hx.len; omega) (by rw [hu]; have := hx.len; omega)
  exact ⟨h1, h2⟩
theorem vw2_set (hx : FewS X) (hy : FewS Y) : setE (vW1 X) 2 1 Y = 0 ∧ setW (vW1 X) 2 1 Y = vW X Y := by
  obtain ⟨h1, h2, _⟩ := setE_ok (W := vW1 X) (i := 2) (k := 1) (s := Y) (by decide) (by have := hy.len; omega) (by rw [vw_u hx hy]; exact few_union hx hy)
  exact ⟨h1, h2⟩
theorem vw_set (hx : FewS X) (hy : FewS Y) (hz : FewS Z) : setE (vW X Y) 1 1 Z = 0 ∧ setW (vW X Y) 1 1 Z = vW Z Y ∧ setM (vW X Y) 1 1 Z = nLess (nUnion [Z, Y]) (nUnion [X, Y]) ∧ setL (vW X Y) 1 1 Z = nLess (nUnion [X, Y]) (nUnion [Z, Y]) := by
  obtain ⟨h1, h2, h3, h4⟩ := setE_ok (W := vW X Y) (i := 1) (k := 1) (s := Z) (by decide) (by have := hz.len; omega) (by rw [vw_swap, vw_u hz hy]; exact few_union hz hy)
  rw [vw_swap, vw_u hz hy, vw_u hx hy] at h3 h4
  rw [vw_swap] at h2
  exact ⟨h1, h2, h3, h4⟩
theorem less_self (a : Ns) : nLess a a = Ns.zero := by
  refine ns_eq ?_ (rises_eq (srt_rises _) List.Pairwise.nil fun x => ?_)
  · show (a.all && !a.all) = false
    cases a.all <;> rfl
  · have := mem_less a a x
    constructor
    · intro h; exact absurd (this.1 h).1 (this.1 h).2
    · intro h; cases h
/-- A set of some names. -/
structure MidS (s : Ns) : Prop where
  r : NsR s
  n : s.ns.length ≤ 64
  l : ∀ x ∈ s.ns, x.length ≤ 64
theorem MidS.fit {s : Ns} (h : MidS s) : NmFit s.ns := list_fit (by have := h.n; omega) (fun x hx => by have := h.l x hx; omega)
theorem mid_union (hx : FewS X) (hy : FewS Y) : MidS (nUnion [X, Y]) := by
  refine ⟨nsr_union fun s hs => ?_, ?_, fun x h => ?_⟩
  · rcases List.mem_cons.1 hs with rfl | hs
    · exact hx.r
    · rcases List.mem_cons.1 hs with rfl | hs
      · exact hy.r
      · cases hs
  · have := few_union hx hy
    have := list_ns (nUnion [X, Y])
    omega
  · rcases (mem_union2 X Y x).1 h with h | h
    · exact hx.l x h
    · exact hy.l x h
theorem mid_less {a b : Ns} (ha : MidS a) : MidS (nLess a b) :=
  ⟨nsr_less ha.r, Nat.le_trans (srt_len _) (Nat.le_trans (List.length_filter_le _ _) ha.n), fun x h => ha.l x ((mem_less a b x).1 h).1⟩
theorem MidS.same {s : Ns} (h : MidS s) : nSame s s = true := same_self h.r
end
end Go.Proofs.YtkjfafnnnkjoeaaGreatDoor
namespace Go.Proofs.YtkjfafnnnkjoeaaGreatDoor
open Go.RowKit Go.Lib

theorem grown_setc (w : World) (R o o' : Nat) (u0 u1 : Value) : w.grownBy ((w.setCell ⟨R, o, none⟩ u0).setCell ⟨R, o', none⟩ u1) (some R) :=
  (grown_set w R o u0).andThen (grown_set _ R o' u1) (fun _ hj => .inr hj)
theorem TsAt.setc {w : World} {v : Value} {l : List (List UInt8)} (h : TsAt w v l) {R o : Nat} {b0 : Bool} {a1 : Option Addr} {n1 c1 : Nat} (u0 u1 : Value) (h0 : w.cell? ⟨R, o, none⟩ = some (.bool b0)) (h1 : w.cell? ⟨R, o + 1, none⟩ = some (.slice a1 n1 c1)) :
    TsAt ((w.setCell ⟨R, o, none⟩ u0).setCell ⟨R, o + 1, none⟩ u1) v l :=
  (h.set u0 h0 (fun s e => by cases e)).set u1 ((World.cell?_setCell_other _ _ _ _ (by simp)).trans h1) (fun s e => by cases e)
theorem MgIs.setc {base m R o : Nat} {W : Wants} {w : World} {c : Array Value} {b0 : Bool} {a0 : Option Addr} {n0 c0 : Nat} {t : TypeId} (h : MgIs base m W w) (hR : Blk w R c t) (ht : t ≠ 65) (u0 u1 : Value) (r0 : w.cell? ⟨R, o, none⟩ = some (.bool b0)) (r1 : w.cell? ⟨R, o + 1, none⟩ = some (.slice a0 n0 c0)) :
    MgIs base m W ((w.setCell ⟨R, o, none⟩ u0).setCell ⟨R, o + 1, none⟩ u1) := by
  obtain ⟨g1, g2, mw, mc, C, D, h⟩ := h
  have hg := grown_setc w R o (o + 1) u0 u1
  refine ⟨g1, g2, mw, mc, C, D, h.blk.kept hg (fun e => ?_), h.bm, h.bw, h.bc, h.ne, h.wm.kept hg (blk_map hR h.wm), fun i k => ?_, h.cm.kept hg (blk_map hR h.cm), fun k => (h.cv k).blk hR hg, h.cn⟩
  · obtain rfl := Option.some.inj e
    have h1 := h.blk
    unfold Blk at h1 hR
    rw [h1] at hR
    injection hR with hR
    injection hR with _ hR
    exact ht hR.symm
  · have := h.wv i k
    cases ho : C (i, k) with
    | none => rw [ho] at this; exact this
    | some v => rw [ho] at this; obtain ⟨a, c, e, ht⟩ := this; exact ⟨a, c, e, ht.setc u0 u1 r0 r1⟩
theorem KeptM.setc {B R o o' : Nat} {w0 w : World} (h : KeptM B w0 w) (hR : w0.heap.size ≤ R) (u0 u1 : Value) : KeptM B w0 ((w.setCell ⟨R, o, none⟩ u0).setCell ⟨R, o', none⟩ u1) := by
  have hg := grown_setc w R o o' u0 u1
  exact ⟨hg.os.trans h.os, hg.tape.trans h.tape, hg.output.trans h.output, Nat.le_trans h.size hg.size, fun k hk hn => (hg.block k (Nat.lt_of_lt_of_le hk h.size) (fun e => by have := Option.some.inj e; omega)).trans (h.block k hk hn)⟩
theorem Blk.setc {w : World} {B R o o' : Nat} {c : Array Value} {t : TypeId} (h : Blk w B c t) (hne : B ≠ R) (u0 u1 : Value) : Blk ((w.setCell ⟨R, o, none⟩ u0).setCell ⟨R, o', none⟩ u1) B c t :=
  h.kept (grown_setc w R o o' u0 u1) (fun e => hne (Option.some.inj e))
end Go.Proofs.YtkjfafnnnkjoeaaGreatDoor
namespace Go.Proofs.YtkjfafnnnkjoeaaGreatDoor
open Go.RowKit Go.Lib

section
variable {X Y Z : Ns}
noncomputable abbrev cW1 (X : Ns) : Wants := wset W0 1 2 X
noncomputable abbrev cW2 (X Y : Ns) : Wants := wset (cW1 X) 2 2 Y
noncomputable abbrev cW3 (X Y Z : Ns) : Wants := wset (cW2 X Y) 3 2 Z
theorem cw1_ok (hx : FewS X) : WOk (cW1 X) := wset_ok w0_ok hx.r (by decide)
theorem cw2_ok (hx : FewS X) (hy : FewS Y) : WOk (cW2 X Y) := wset_ok (cw1_ok hx) hy.r (by decide)
theorem cw3_ok (hx : FewS X) (hy : FewS Y) (hz : FewS Z) : WOk (cW3 X Y Z) := wset_ok (cw2_ok hx hy) hz.r (by decide)
theorem cw2_u (hx : FewS X) (hy : FewS Y) : uni (cW2 X Y) 2 = nUnion [X, Y] := by
  rw [uni_more (cw1_ok hx) hy.r (by decide) (wset_id (by decide)), uni_one w0_ok hx.r (by decide) (fun _ _ => rfl)]
theorem few3_r (hx : FewS X) (hy : FewS Y) (hz : FewS Z) : ∀ s ∈ [X, Y, Z], NsR s := fun s hs => by
  rcases List.mem_cons.1 hs with rfl | hs
  · exact hx.r
  · rcases List.mem_cons.1 hs with rfl | hs
    · exact hy.r
    · rcases List.mem_cons.1 hs with rfl | hs
      · exact hz.r
      · cases hs
theorem cw3_u (hx : FewS X) (hy : FewS Y) (hz : FewS Z) : uni (cW3 X Y Z) 2 = nUnion [X, Y, Z] := by
  rw [uni_more (cw2_ok hx hy) hz.r (by decide) ((wset_id (by decide)).trans (wset_id (by decide))), cw2_u hx hy]
  refine ns_ext (nsr_union fun s hs => ?_) (nsr_union (few3_r hx hy hz)) fun x => ?_
  · rcases List.mem_cons.1 hs with rfl | hs
    · exact (mid_union hx hy).r
    · rcases List.mem_cons.1 hs with rfl | hs
      · exact hz.r
      · cases hs
  · rw [mem_unionL, mem_unionL]
    simp only [List.mem_cons, List.not_mem_nil, or_false, exists_eq_or_imp, exists_eq_left, mem_unionL, or_assoc]
theorem mid_union3 (hx : FewS X) (hy : FewS Y) (hz : FewS Z) : MidS (nUnion [X, Y, Z]) ∧ (nList (nUnion [X, Y, Z])).length ≤ 64 := by
  have hl : (nList (nUnion [X, Y, Z])).length ≤ 64 := by
    refine Nat.le_trans (union_len _) ?_
    simp only [List.flatMap_cons, List.flatMap_nil, List.length_append, List.length_nil]
    have := hx.n; have := hy.n; have := hz.n
    omega
  refine ⟨⟨nsr_union (few3_r hx hy hz), Nat.le_trans (list_ns _) hl, fun x h => ?_⟩, hl⟩
  have h' : x ∈ srt ([X, Y, Z].flatMap (·.ns)) := h
  rw [srt_mem, List.mem_flatMap] at h'
  obtain ⟨s, hs, g⟩ := h'
  rcases List.mem_cons.1 hs with rfl | hs
  · exact hx.l x g
  · rcases List.mem_cons.1 hs with rfl | hs
    · exact hy.l x g
    · rcases List.mem_cons.1 hs with rfl | hs
      · exact hz.l x g
      · cases hs
theorem cw1_set (hx : FewS X) : setE W0 1 2 X = 0 ∧ setW W0 1 2 X = cW1 X := by
  have hu : uni (cW1 X) 2 = X := uni_one w0_ok hx.r (by decide) (fun _ _ => rfl)
  obtain ⟨h1, h2, _⟩ := setE_ok (W := W0) (i := 1) (k := 2) (s := X) (by decide) (by have := hx.len; omega) (by rw [hu]; have := hx.len; omega)
  exact ⟨h1, h2⟩
theorem cw2_set (hx : FewS X) (hy : FewS Y) : setE (cW1 X) 2 2 Y = 0 ∧ setW (cW1 X) 2 2 Y = cW2 X Y := by
  obtain ⟨h1, h2, _⟩ := setE_ok (W := cW1 X) (i := 2) (k := 2) (s := Y) (by decide) (by have := hy.len; omega) (by rw [cw2_u hx hy]; exact few_union hx hy)
  exact ⟨h1, h2⟩
theorem cw3_set (hx : FewS X) (hy : FewS Y) (hz : FewS Z) : setE (cW2 X Y) 3 2 Z = 0 ∧ setW (cW2 X Y) 3 2 Z = cW3 X Y Z := by
  obtain ⟨h1, h2, _⟩ := setE_ok (W := cW2 X Y) (i := 3) (k := 2) (s := Z) (by decide) (by have := hz.len; omega) (by rw [cw3_u hx hy hz]; exact (mid_union3 hx hy hz).2)
  exact ⟨h1, h2⟩
def hitN (s : Ns) (x : List UInt8) : Nat := (nList s).countP (· == x)
theorem hit_of {s : Ns} (h : NsR s) (x : List UInt8) : hitN s x = if (nList s).contains x then 1 else 0 := by
  unfold hitN
  have hn := list_nodup h
  generalize nList s = l at hn
  induction l with
  | nil => rfl
  | cons a l ih =>
    obtain ⟨h1, h2⟩ := List.nodup_cons.1 hn
    rw [List.countP_cons, ih h2, List.contains_cons]
    by_cases e : a = x
    · subst e
      have : l.contains a = false := by
        cases hc : l.contains a with
        | false => rfl
        | true => exact absurd (List.contains_iff_mem.1 hc) h1
      rw [this]
      simp
    · have e1 : (a == x) = false := by simpa using e
      have e2 : (x == a) = false := by simpa using fun h => e h.symm
      rw [e1, e2]
      simp
theorem hit_le {s : Ns} (h : NsR s) (x : List UInt8) : hitN s x ≤ 1 := by rw [hit_of h]; split <;> omega
theorem cw3_cnt (hx : FewS X) (hy : FewS Y) (hz : FewS Z) (x : List UInt8) : cnt (cW3 X Y Z) 2 x = hitN X x + hitN Y x + hitN Z x := by
  have h1 := cnt_set (W := W0) (i := 1) (k := 2) (s := X) (by decide) x
  have h2 := cnt_set (W := cW1 X) (i := 2) (k := 2) (s := Y) (by decide) x
  have h3 := cnt_set (W := cW2 X Y) (i := 3) (k := 2) (s := Z) (by decide) x
  rw [cnt_zero] at h1
  rw [show cW1 X 2 2 = Ns.zero from wset_id (by decide)] at h2
  rw [show cW2 X Y 3 2 = Ns.zero from (wset_id (by decide)).trans (wset_id (by decide))] at h3
  simp only [list_zero, List.contains_nil, Bool.false_eq_true, if_false, Nat.add_zero, Nat.zero_add] at h1 h2 h3
  rw [h3, h2, h1, hit_of hx.r, hit_of hy.r, hit_of hz.r]
theorem dg_small {n : Nat} (h : n ≤ 3) : dgT n = [UInt8.ofNat (48 + n)] := by
  match n, h with
  | 0, _ | 1, _ | 2, _ | 3, _ => rfl
  | n + 4, h => omega
theorem cw3_key (hx : FewS X) (hy : FewS Y) (hz : FewS Z) (x : List UInt8) : keyT (cW3 X Y Z) 2 x = x ++ [32, UInt8.ofNat (48 + (hitN X x + hitN Y x + hitN Z x))] := by
  unfold keyT
  rw [cw3_cnt hx hy hz, dg_small (by have := hit_le hx.r x; have := hit_le hy.r x; have := hit_le hz.r x; omega), List.append_assoc]
  rfl
theorem uni_far {k : Int} (hk : k ≠ 2) : uni (cW3 X Y Z) k = Ns.zero := by rw [uni_kind hk, uni_kind hk, uni_kind hk, uni_zero]
theorem key_none {k : Int} (hk : k ≠ 2) : keyL (cW3 X Y Z) k = [] := by unfold keyL; rw [uni_far hk]; rfl
theorem mk_sets3 {w : World} {B n1 c1 n2 c2 n3 c3 : Nat} {a1 a2 a3 : Option Addr} {t : TypeId} {b1 b2 b3 : Bool} {l1 l2 l3 : List (List UInt8)} (hb : Blk w B #[.bool b1, .slice a1 n1 c1, .bool b2, .slice a2 n2 c2, .bool b3, .slice a3 n3 c3] t) (h1 : TsAt w (.slice a1 n1 c1) l1) (hn1 : l1.length = n1) (h2 : TsAt w (.slice a2 n2 c2) l2) (hn2 : l2.length = n2) (h3 : TsAt w (.slice a3 n3 c3) l3) (hn3 : l3.length = n3) : SetsAt w (some ⟨B, 0, none⟩) [⟨b1, l1⟩, ⟨b2, l2⟩, ⟨b3, l3⟩] := by
  subst hn1; subst hn2; subst hn3
  intro i s hi
  match i with
  | 0 =>
    obtain rfl := Option.some.inj hi
    exact ⟨B, 0, a1, c1, rfl, hb.lt, hb.cell 0, hb.cell 1, h1⟩
  | 1 =>
    obtain rfl := Option.some.inj hi
    exact ⟨B, 0, a2, c2, rfl, hb.lt, hb.cell 2, hb.cell 3, h2⟩
  | 2 =>
    obtain rfl := Option.some.inj hi
    exact ⟨B, 0, a3, c3, rfl, hb.lt, hb.cell 4, hb.cell 5, h3⟩
  | i + 3 => simp at hi
theorem mk_fit3 (hx : FewS X) (hy : FewS Y) (hz : FewS Z) : NssFit [X, Y, Z] := ⟨fun s hs x hx' => by
    rcases List.mem_cons.1 hs with rfl | hs
    · exact hx.fit.1 x hx'
    · rcases List.mem_cons.1 hs with rfl | hs
      · exact hy.fit.1 x hx'
      · obtain rfl := List.mem_singleton.1 hs; exact hz.fit.1 x hx', by
    simp only [List.flatMap_cons, List.flatMap_nil, List.append_nil, List.length_append]
    have := hx.n; have := hy.n; have := hz.n
    omega, by show (3 : Nat) ≤ 1000000; omega⟩
theorem hit_all {s : Ns} {L : List (List UInt8)} (h : nList s = L) (x : List UInt8) {j : Nat} (hj : L.length ≤ j) : (L.take j).countP (· == x) = hitN s x := by
  subst h; unfold hitN; rw [List.take_of_length_le hj]
theorem hit_yes {L : List (List UInt8)} {x : List UInt8} {j : Nat} (hj : j < L.length) (h : L[j] = x) : (L.take (j + 1)).countP (· == x) = (L.take j).countP (· == x) + 1 := by
  rw [List.take_add_one, List.getElem?_eq_getElem hj, List.countP_append, h]
  simp
theorem hit_no {L : List (List UInt8)} {x : List UInt8} {j : Nat} (hj : j < L.length) (h : ¬ L[j] = x) : (L.take (j + 1)).countP (· == x) = (L.take j).countP (· == x) := by
  rw [List.take_add_one, List.getElem?_eq_getElem hj, List.countP_append]
  simp [h]
theorem ts_cell {w : World} {a : Option Addr} {c n : Nat} {L : List (List UInt8)} (h : TsAt w (.slice a n c) L) {j : Nat} (hj : j < L.length) : ∃ b off, a = some ⟨b, off, none⟩ ∧ w.cell? ⟨b, off + j, none⟩ = some (.string ⟨L[j].toArray⟩) := by
  obtain ⟨a', c', e, _, _, h3⟩ := h.out
  injection e with e1 e2 e3
  subst e1
  obtain ⟨b, off, e, _, h0⟩ := h3 j hj
  exact ⟨b, off, e, h0⟩
theorem mid_len {s : Ns} (h : MidS s) {x : List UInt8} (hx : x ∈ nList s) : x.length ≤ 64 := by
  rcases (mem_list s x).1 hx with ⟨_, rfl⟩ | hx
  · decide
  · exact h.l x hx
theorem byteD {j : Nat} (hj : j ≤ 3) : (UInt8.ofNat (48 + j)).toNat = 48 + j := by
  match j, hj with
  | 0, _ | 1, _ | 2, _ | 3, _ => rfl
  | j + 4, h => omega
theorem cat_two {x : List UInt8} {u : UInt8} : (({ data := x.toArray } : ByteArray) ++ { data := #[u] }) = { data := (x ++ [u]).toArray } := by
  apply ByteArray.ext; simp
end
end Go.Proofs.YtkjfafnnnkjoeaaGreatDoor
namespace Go.Proofs.YtkjfafnnnkjoeaaGreatDoor
open Go.RowKit Go.Lib

/-- The reference's Merge at x: 33 times 6 sets. -/
def RfM (w : World) (x : Nat) (W : Wants) : Prop := ∃ cs : Array Value, Blk w x cs 33 ∧ cs.size = 396 ∧
  ∀ i k : Nat, i < 33 → k < 6 → ∃ a c, cs[i * 12 + k * 2]? = some (.bool (W i k).all) ∧ cs[i * 12 + k * 2 + 1]? = some (.slice a (W i k).ns.length c) ∧ TsAt w (.slice a (W i k).ns.length c) (W i k).ns
theorem RfM.at {w : World} {x : Nat} {W : Wants} (h : RfM w x W) {i k : Nat} (hi : i < 33) (hk : k < 6) : ∃ a c, w.cell? ⟨x, i * 12 + k * 2, none⟩ = some (.bool (W i k).all) ∧ w.cell? ⟨x, i * 12 + k * 2 + 1, none⟩ = some (.slice a (W i k).ns.length c) ∧ TsAt w (.slice a (W i k).ns.length c) (W i k).ns := by
  obtain ⟨cs, hb, _, h⟩ := h
  obtain ⟨a, c, h1, h2, h3⟩ := h i k hi hk
  exact ⟨a, c, (hb.cell _).trans h1, (hb.cell _).trans h2, h3⟩
theorem RfM.lt {w : World} {x : Nat} {W : Wants} (h : RfM w x W) : x < w.heap.size := by
  obtain ⟨cs, hb, _⟩ := h
  exact hb.lt
theorem RfM.frozen {w : World} {x : Nat} {W : Wants} (h : RfM w x W) (j : Nat) : w.frozen? ⟨x, j, none⟩ = false := by
  obtain ⟨cs, hb, _⟩ := h
  exact hb.frozen j
theorem RfM.later {w w' : World} {x : Nat} {W : Wants} (h : RfM w x W) (hb : Below w.heap.size w w') : RfM w' x W := by
  obtain ⟨cs, h0, h1, h2⟩ := h
  refine ⟨cs, h0.later hb, h1, fun i k hi hk => ?_⟩
  obtain ⟨a, c, g1, g2, g3⟩ := h2 i k hi hk
  exact ⟨a, c, g1, g2, g3.later hb⟩
theorem RfM.kept {B : Nat} {w w' : World} {x : Nat} {W : Wants} (h : RfM w x W) (hb : KeptM B w w') : RfM w' x W := by
  obtain ⟨cs, h0, h1, h2⟩ := h
  refine ⟨cs, hb.blk h0, h1, fun i k hi hk => ?_⟩
  obtain ⟨a, c, g1, g2, g3⟩ := h2 i k hi hk
  exact ⟨a, c, g1, g2, hb.ts g3⟩
/-- No text stands in it. -/
theorem RfM.cells {w : World} {x : Nat} {W : Wants} (h : RfM w x W) (j : Nat) (s : ByteArray) : w.cell? ⟨x, j, none⟩ ≠ some (.string s) := by
  obtain ⟨cs, h0, h1, h2⟩ := h
  rw [h0.cell j]
  by_cases hj : j < 396
  · obtain ⟨a, c, g1, g2, _⟩ := h2 (j / 12) (j % 12 / 2) (by omega) (by omega)
    rcases Nat.mod_two_eq_zero_or_one j with e | e
    · rw [show j / 12 * 12 + j % 12 / 2 * 2 = j by omega] at g1
      rw [g1]; intro e; cases e
    · rw [show j / 12 * 12 + j % 12 / 2 * 2 + 1 = j by omega] at g2
      rw [g2]; intro e; cases e
  · rw [Array.getElem?_eq_none (by omega)]; intro e; cases e
/-- Only that block has changed. -/
def OnlyX (x : Nat) (w w' : World) : Prop := w.grownBy w' (some x)
theorem RfM.ts {w w' : World} {x : Nat} {W : Wants} {v : Value} {l : List (List UInt8)} (h : RfM w x W) (hg : OnlyX x w w') (ht : TsAt w v l) : TsAt w' v l := by
  obtain ⟨a, c, e, h1, h2, h3⟩ := ht
  refine ⟨a, c, e, h1, h2, fun j u hj => ?_⟩
  obtain ⟨b, off, e', hl, hc⟩ := h3 j u hj
  have hne : b ≠ x := by
    rintro rfl
    have hu : ∃ s, u = .string s := by
      obtain ⟨y, _, rfl⟩ := List.mem_map.1 (List.mem_of_getElem? hj)
      exact ⟨_, rfl⟩
    obtain ⟨s, rfl⟩ := hu
    exact h.cells _ s hc
  exact ⟨b, off, e', Nat.lt_of_lt_of_le hl hg.size, (World.cell?_of_block (a := ⟨b, _, none⟩) (hg.block b hl (fun e => hne (Option.some.inj e)))).trans hc⟩
theorem RfM.mg {w w' : World} {base m x : Nat} {W V : Wants} (h : RfM w x W) (hg : OnlyX x w w') (hm : MgIs base m V w) : MgIs base m V w' := by
  obtain ⟨g1, g2, mw, mc, C, D, k⟩ := hm
  have hr := h
  obtain ⟨cs, hR, _⟩ := hr
  have hg' : w.grownBy w' (some x) := hg
  refine ⟨g1, g2, mw, mc, C, D, k.blk.kept hg' (fun e => ?_), k.bm, k.bw, k.bc, k.ne, k.wm.kept hg' (blk_map hR k.wm), fun i j => ?_, k.cm.kept hg' (blk_map hR k.cm), fun j => (k.cv j).blk hR hg', k.cn⟩
  · obtain rfl := Option.some.inj e
    have h1 := k.blk
    unfold Blk at h1 hR
    rw [h1] at hR
    injection hR with hR
    injection hR with _ hR
    exact absurd hR (by decide)
  · have := k.wv i j
    cases ho : C (i, j) with
    | none => rw [ho] at this; exact this
    | some v => rw [ho] at this; obtain ⟨a, c, e, ht⟩ := this; exact ⟨a, c, e, h.ts hg ht⟩
theorem KeptM.only {B x : Nat} {w0 w w' : World} (h : KeptM B w0 w) (hg : OnlyX x w w') (hx : w0.heap.size ≤ x) : KeptM B w0 w' :=
  ⟨hg.os.trans h.os, hg.tape.trans h.tape, hg.output.trans h.output, Nat.le_trans h.size hg.size, fun k hk hn => (hg.block k (Nat.lt_of_lt_of_le hk h.size) (fun e => by have := Option.some.inj e; omega)).trans (h.block k hk hn)⟩
theorem Blk.only {w w' : World} {B x : Nat} {c : Array Value} {t : TypeId} (h : Blk w B c t) (hg : OnlyX x w w') (hne : B ≠ x) : Blk w' B c t := h.kept hg (fun e => hne (Option.some.inj e))
theorem OnlyX.of {x : Nat} {w w' : World} (h : Below w.heap.size w w') : OnlyX x w w' := ⟨h.os, h.tape, h.output, h.size, fun k hk _ => h.block k hk⟩
theorem OnlyX.trans {x : Nat} {w w1 w2 : World} (h : OnlyX x w w1) (h' : OnlyX x w1 w2) : OnlyX x w w2 := World.grownBy.andThen h h' (fun _ hj => .inr hj)
/-- One set is put into it. -/
theorem RfM.put {w : World} {x : Nat} {W : Wants} (h : RfM w x W) {i k : Nat} (hi : i < 33) (hk : k < 6) {s : Ns} {a : Option Addr} {c : Nat} (ht : TsAt w (.slice a s.ns.length c) s.ns) :
    RfM ((w.setCell ⟨x, i * 12 + k * 2, none⟩ (.bool s.all)).setCell ⟨x, i * 12 + k * 2 + 1, none⟩ (.slice a s.ns.length c)) x (wset W i k s) := by
  have hg : OnlyX x w ((w.setCell ⟨x, i * 12 + k * 2, none⟩ (.bool s.all)).setCell ⟨x, i * 12 + k * 2 + 1, none⟩ (.slice a s.ns.length c)) := grown_setc w x _ _ _ _
  have h0 := h
  obtain ⟨cs, hb, hs, hc⟩ := h
  refine ⟨_, (hb.set _ _).set _ _, by simpa using hs, fun i' k' hi' hk' => ?_⟩
  by_cases e : i' = i ∧ k' = k
  · obtain ⟨rfl, rfl⟩ := e
    refine ⟨a, c, ?_, ?_, ?_⟩
    · rw [wset_same, Array.getElem?_setIfInBounds_ne (by omega), Array.getElem?_setIfInBounds_self, if_pos (by omega)]
    · rw [wset_same, Array.getElem?_setIfInBounds_self, if_pos (by simp; omega)]
    · rw [wset_same]; exact h0.ts hg ht
  · obtain ⟨a', c', g1, g2, g3⟩ := hc i' k' hi' hk'
    have ew : wset W i k s i' k' = W i' k' := by
      unfold wset
      rw [if_neg (by omega)]
    refine ⟨a', c', ?_, ?_, ?_⟩
    · rw [ew, Array.getElem?_setIfInBounds_ne (by omega), Array.getElem?_setIfInBounds_ne (by omega)]; exact g1
    · rw [ew, Array.getElem?_setIfInBounds_ne (by omega), Array.getElem?_setIfInBounds_ne (by omega)]; exact g2
    · rw [ew]; exact h0.ts hg g3
/-- What the walks ask of the wants: how long names are, how many there are. -/
structure RFit (W : Wants) : Prop where
  ok : WOk W
  l : ∀ i k, ∀ x ∈ (W i k).ns, x.length ≤ 64
  n : ∀ i k, (W i k).ns.length ≤ 200
theorem RFit.fit {W : Wants} (h : RFit W) (i k : Int) : NmFit (W i k).ns := list_fit (by have := h.n i k; omega) (fun x hx => by have := h.l i k x hx; omega)
end Go.Proofs.YtkjfafnnnkjoeaaGreatDoor
namespace Go.Proofs.YtkjfafnnnkjoeaaGreatDoor
open Go.RowKit Go.Lib

/-- A set, and where its names lie. -/
structure Sx where
  s : Ns
  a : Option Addr
  c : Nat
abbrev Sx.cells (r : Sx) : List Value := [.bool r.s.all, .slice r.a r.s.ns.length r.c]
def sxCells (rs : List Sx) : List Value := rs.flatMap Sx.cells
theorem sxCells_append (a b : List Sx) : sxCells (a ++ b) = sxCells a ++ sxCells b := by simp [sxCells]
theorem sxCells_len (rs : List Sx) : (sxCells rs).length = rs.length * 2 := by
  induction rs with
  | nil => rfl
  | cons x xs ih => simp [sxCells] at ih ⊢; omega
theorem sxCells_get : ∀ (rs : List Sx) (i : Nat) (r : Sx), rs[i]? = some r → ∀ j, j < 2 → (sxCells rs)[i * 2 + j]? = r.cells[j]?
  | [], i, x, h, _, _ => by simp at h
  | y :: ys, 0, x, h, j, hj => by
    simp at h; subst h
    have hc : j = 0 ∨ j = 1 := by omega
    rcases hc with rfl | rfl <;> simp [sxCells]
  | y :: ys, i + 1, x, h, j, hj => by
    have := sxCells_get ys i x (by simpa using h) j hj
    have e : (sxCells (y :: ys))[(i + 1) * 2 + j]? = (sxCells ys)[i * 2 + j]? := by
      have : (i + 1) * 2 + j = (i * 2 + j) + 1 + 1 := by omega
      rw [this]; rfl
    rw [e]; exact this
theorem sx_one (r : Sx) : ∀ u ∈ sxCells [r], u.oneCell' = true := by intro u hu; simp [sxCells] at hu; rcases hu with rfl | rfl <;> rfl
theorem setsAt_row {w : World} {base c : Nat} {a : Option Addr} {rs : List Sx} (h : w.ownsRow base 29 2 (.slice a rs.length c) rs.length (sxCells rs)) (ht : ∀ r ∈ rs, TsAt w (.slice r.a r.s.ns.length r.c) r.s.ns) : SetsAt w a (rs.map Sx.s) := by
  intro i s hi
  rw [List.getElem?_map] at hi
  obtain ⟨r, hr, rfl⟩ := Option.map_eq_some_iff.1 hi
  have hlt := (List.getElem?_eq_some_iff.1 hr).1
  have hg := sxCells_get rs i r hr
  have h0 := h
  rcases h0.2 with ⟨hv, hx⟩ | ⟨g, cap, cur, hv, _⟩
  · omega
  · simp at hv
    obtain ⟨rfl, rfl⟩ := hv
    have d0 := (h.cellAt (i * 2) (by omega)).trans (hg 0 (by omega))
    have d1 := (h.cellAt (i * 2 + 1) (by omega)).trans (hg 1 (by omega))
    exact ⟨g, 0, r.a, r.c, rfl, World.block_lt_of_cell? w _ d0, by rw [Nat.zero_add]; exact d0, by rw [Nat.zero_add]; exact d1, ht r (List.mem_of_getElem? hr)⟩
theorem Tryz.infoSt9 : (Tryz.prog.info? 29).map (fun i => (i.zero, i.size, i.bytes)) = some (some (.agg #[.bool false, .slice none 0 0]), 2, 32) := by kernel_rfl
/-- A column of the reference's Merge. -/
theorem RfM.col {w : World} {x : Nat} {W : Wants} (h : RfM w x W) {k : Nat} (hk : k < 6) : ∃ F : Nat → Sx, ∀ i : Nat, i < 33 → (F i).s = W i k ∧ w.cell? ⟨x, i * 12 + k * 2, none⟩ = some (.bool (F i).s.all) ∧ w.cell? ⟨x, i * 12 + k * 2 + 1, none⟩ = some (.slice (F i).a (F i).s.ns.length (F i).c) ∧ TsAt w (.slice (F i).a (F i).s.ns.length (F i).c) (F i).s.ns := by
  have one : ∀ i : Nat, ∃ r : Sx, i < 33 → r.s = W i k ∧ w.cell? ⟨x, i * 12 + k * 2, none⟩ = some (.bool r.s.all) ∧ w.cell? ⟨x, i * 12 + k * 2 + 1, none⟩ = some (.slice r.a r.s.ns.length r.c) ∧ TsAt w (.slice r.a r.s.ns.length r.c) r.s.ns := by
    intro i
    by_cases hi : i < 33
    · obtain ⟨a, c, h1, h2, h3⟩ := h.at hi hk
      exact ⟨⟨W i k, a, c⟩, fun _ => ⟨rfl, h1, h2, h3⟩⟩
    · exact ⟨⟨Ns.zero, none, 0⟩, fun h => absurd h hi⟩
  exact ⟨fun i => (one i).choose, fun i hi => (one i).choose_spec hi⟩
def rowsF (F : Nat → Sx) (n : Nat) : List Sx := (List.range n).map fun j => F (j + 1)
theorem rowsF_next (F : Nat → Sx) (n : Nat) : rowsF F (n + 1) = rowsF F n ++ [F (n + 1)] := by unfold rowsF; rw [List.range_succ, List.map_append]; rfl
theorem rowsF_len (F : Nat → Sx) (n : Nat) : (rowsF F n).length = n := by simp [rowsF]
theorem rowsF_mem {F : Nat → Sx} {n : Nat} {r : Sx} (h : r ∈ rowsF F n) : ∃ i, 1 ≤ i ∧ i ≤ n ∧ F i = r := by
  obtain ⟨j, hj, rfl⟩ := List.mem_map.1 h
  rw [List.mem_range] at hj
  exact ⟨j + 1, by omega, by omega, rfl⟩
theorem rowsF_uni {F : Nat → Sx} {W : Wants} {k : Nat} (h : ∀ i, i < 33 → (F i).s = W i k) : nUnion ((rowsF F 32).map Sx.s) = uni W k := by
  unfold uni rowsF ids
  rw [List.map_map, List.map_map]
  congr 1
  refine List.map_congr_left fun j hj => ?_
  rw [List.mem_range] at hj
  exact h (j + 1) (by omega)
theorem flats_le {l : List Ns} {n : Nat} (h : ∀ s ∈ l, s.ns.length ≤ n) : (l.flatMap (·.ns)).length ≤ l.length * n := by
  induction l with
  | nil => simp
  | cons s l ih =>
    rw [List.flatMap_cons, List.length_append, List.length_cons, Nat.succ_mul]
    have h1 := h s (by simp)
    have h2 := ih fun s hs => h s (by simp [hs])
    omega
theorem rows_fit {F : Nat → Sx} {W : Wants} {k : Nat} (hf : RFit W) (h : ∀ i, i < 33 → (F i).s = W i k) : NssFit ((rowsF F 32).map Sx.s) ∧ ((((rowsF F 32).map Sx.s).flatMap (·.ns)).length + 1) * 16 ≤ 140737488355328 := by
  have hs : ∀ s ∈ (rowsF F 32).map Sx.s, ∃ i : Int, s = W i k := fun s hs => by
    obtain ⟨r, hr, rfl⟩ := List.mem_map.1 hs
    obtain ⟨i, _, hi, rfl⟩ := rowsF_mem hr
    exact ⟨i, h i (by omega)⟩
  have hl := flats_le (n := 200) (l := (rowsF F 32).map Sx.s) fun s h' => by
    obtain ⟨i, rfl⟩ := hs s h'
    exact hf.n i k
  have hn : ((rowsF F 32).map Sx.s).length = 32 := by rw [List.length_map, rowsF_len]
  rw [hn] at hl
  refine ⟨⟨fun s h' x hx => ?_, by omega, by rw [hn]; omega⟩, by omega⟩
  obtain ⟨i, rfl⟩ := hs s h'
  exact (hf.fit i k).1 x hx
theorem uni_bad {W : Wants} (hw : WOk W) {k : Int} (hk : k < 1 ∨ 5 < k) : uni W k = Ns.zero :=
  uni_eq hw nsr_zero fun x => ⟨fun ⟨i, _, h⟩ => (by rw [hw.z i k (by unfold badI; simp; omega)] at h; exact h), fun h => (by cases h)⟩

/-- A set comes out of a box. -/
theorem box_set9 {w w' : World} {R : Nat} {sa : Bool} {sl : List (List UInt8)} {a : Option Addr} {c : Nat} (hq : Blk w' R #[.bool false, .slice none 0 0] 29) (ht : TsAt w' (.slice a sl.length c) sl) (hb : Below w.heap.size w w') (hR : w.heap.size ≤ R) :
    ∃ w9, (w'.setCell ⟨R, 0, none⟩ (.bool sa)).setCell ⟨R, 1, none⟩ (.slice a sl.length c) = w9 ∧ w9.cell? ⟨R, 0, none⟩ = some (.bool sa) ∧ w9.cell? ⟨R, 1, none⟩ = some (.slice a sl.length c) ∧ SetPost sa sl w (.returned (.agg #[.bool sa, .slice a sl.length c])) w9 := by
  have r0 : w'.cell? ⟨R, 0, none⟩ = some (.bool false) := hq.cell 0
  have r1 : w'.cell? ⟨R, 1, none⟩ = some (.slice none 0 0) := hq.cell 1
  obtain ⟨t0, t1⟩ := two_cells (.bool sa) (.slice a sl.length c) r0 r1
  exact ⟨_, rfl, t0, t1, a, c, rfl, ht.set2 _ _ r0 r1, below_set2 (R := R) hb hR _ _⟩
theorem below_cell {w w' : World} {b o : Nat} {v : Value} (h : Below w.heap.size w w') (hc : w.cell? ⟨b, o, none⟩ = some v) : w'.cell? ⟨b, o, none⟩ = some v := (h.cell (p := ⟨b, o, none⟩) (World.block_lt_of_cell? w _ hc)).trans hc
set_option maxRecDepth 100000 in
set_option maxHeartbeats 4000000 in
theorem runi_any {x : Nat} {k : Int} {W : Wants} {w : World} {sa : Bool} {sl : List (List UInt8)} (h : RfM w x W) (hf : RFit W) (hk : i64B k) (he : uni W k = ⟨sa, sl⟩) :
    Calls Tryz.prog 14 #[.pointer (some ⟨x, 0, none⟩), .int .i64 k] w (SetPost sa sl w) := by
  obtain ⟨w1, hw1, hb1, q1⟩ := alloc_new w #[.bool false, .slice none 0 0] 29
  have HW := Lib.hid hw1
  have HB := Lib.hid hb1
  have HQ := Lib.hid q1
  have H := Lib.hid (h.later hb1)
  have HF := Lib.hid hf
  have HE := Lib.hid he
  clear hw1 hb1 q1 h hf he
  by_cases hg : 1 ≤ k ∧ k ≤ 5
  · obtain ⟨g1, g5⟩ := hg
    obtain ⟨kn, rfl⟩ := Int.eq_ofNat_of_zero_le (show 0 ≤ k by omega)
    have k6 : kn < 6 := by omega
    obtain ⟨Fc, hF⟩ := H.out.col k6
    have HFc := Lib.hid hF
    have hU := (rowsF_uni (k := kn) fun i hi => (hF i hi).1).trans HE.out
    have HU := Lib.hid hU
    have HRF := Lib.hid (rows_fit (k := kn) HF.out fun i hi => (hF i hi).1)
    obtain ⟨i0, hi, hz0, hz1, hz2⟩ := info_parts Tryz.infoSt9
    have d1 : (1 : Int) ≤ (kn : Int) := g1
    have d5 : (kn : Int) ≤ 5 := g5
    have d0 : (0 : Int) ≤ (kn : Int) := by omega
    have d6 : (kn : Int) < 6 := by omega
    clear hF hU g1 g5 hk k6
    go_enter Tryz.func14, Tryz.ntmps14
    go_wp2_with fail
    rw [HW.out]
    go_loopw [5, 6] (fun v i wr => ∃ n : Nat, i = .int .i64 ((n + 1 : Nat) : Int) ∧ n ≤ 32 ∧ wr.ownsRow w1.heap.size 29 2 v (rowsF Fc n).length (sxCells (rowsF Fc n)) ∧ Below w1.heap.size w1 wr) (fun _ i _ => 33 - (RowKit.intOf i).toNat)
    case atStart => exact ⟨0, rfl, Nat.zero_le _, World.ownsRow_nil _ _ _ _, Below.refl _ _⟩
    case round =>
      obtain ⟨n, rfl, hn, hown, hb⟩ := hrel
      rw [rowsF_len] at hown
      obtain ⟨j, hj⟩ : ∃ j, n + 1 = j := ⟨_, rfl⟩
      rw [hj]
      by_cases hlt : n < 32
      · obtain ⟨e1, e2, e3, e4⟩ := HFc.out j (by omega)
        have c0 := below_cell hb e2
        have c1 := below_cell hb e3
        have b1 : (j : Int) ≤ 32 := by omega
        have b2 : (0 : Int) ≤ (j : Int) := by omega
        have b3 : (j : Int) < 33 := by omega
        have b4 : IntKind.i64.wrap ((j : Int) + 1) = (j : Int) + 1 := by rw [IntKind.wrap_i64]; omega
        have hnx : rowsF Fc j = rowsF Fc n ++ [Fc j] := by rw [← hj]; exact rowsF_next Fc n
        have HX := Lib.hid (And.intro hnx (And.intro hlt hj))
        have HO := Lib.hid hown
        have HL := Lib.hid hb
        have hs1 : w1.heap.size ≤ wr.heap.size := HL.out.size
        clear hown hb hnx e1 e2 e3 e4 hn hlt hj
        go_wp2_with (at_builtin; go_must (refine wpList_append_own _ rfl _ _ 82 rfl w1.heap.size 29 i0 _ 2 32 Tryz.underlying82 hi hz0 hz1 hz2 rfl (by omega) _ _ _ rfl (HO.out.alloc _) ⟨wr.heap.size, 0, none⟩ 1 1 (sxCells [Fc j]) rfl rfl (World.news_of_block (cs := #[.bool (Fc j).s.all, .slice (Fc j).a (Fc j).s.ns.length (Fc j).c]) (t := 29) (fr := (0, 0)) (heap_alloc_new wr _)) (sx_one (Fc j)) (by have := HX.out.2.1; unfold maxLen; omega) (by have := HX.out.2.1; omega) (by have := HX.out.2.1; simp; omega) ?_; intro v' w4 hown4 hgrow4 _))
        have HO4 := Lib.hid (show w4.ownsRow w1.heap.size 29 2 v' (rowsF Fc j).length (sxCells (rowsF Fc j)) by rw [rowsF_len, HX.out.1, sxCells_append]; rw [HX.out.2.2] at hown4; exact hown4)
        have HB4 := Lib.hid ((HL.out.alloc hs1 _).grown hgrow4 (by simp; omega) (fun j hj => (HO.out.lt j hj).1))
        clear hown4 hgrow4
        go_wp2_with fail
        go_roundw
        case rel => exact ⟨j, by go_num, by have := HX.out.2; omega, HO4.out, HB4.out⟩
        case measure => have := HX.out.2; simp [RowKit.intOf]; omega
      · obtain rfl : n = 32 := by omega
        subst hj
        have b1 : ¬ (((32 + 1 : Nat)) : Int) ≤ 32 := by decide
        have HL := Lib.hid hb
        have hrow := hown
        obtain ⟨a3, c3, rfl⟩ := owns_slice hown
        rw [← rowsF_len Fc 32] at hrow
        have HS := Lib.hid (setsAt_row (a := a3) (c := c3) (by rw [rowsF_len] at hrow ⊢; exact hrow) (fun r hr => by
          obtain ⟨i, h1, h2, rfl⟩ := rowsF_mem hr
          exact (HFc.out i (by omega)).2.2.2.later hb))
        clear hown hb hn hlt hrow
        go_wp2_with fail
        refine (runion_any HS.out (by rw [List.length_map, rowsF_len]) HRF.out.1 HRF.out.2 HU.out).mono ?_
        rintro e w2 ⟨a2, c2, rfl, ht, hb⟩
        dsimp only
        have q2 := (HQ.out.later HL.out).later hb
        have r0 : w2.cell? ⟨w.heap.size, 0, none⟩ = some (.bool false) := q2.cell 0
        have r1 : w2.cell? ⟨w.heap.size, 1, none⟩ = some (.slice none 0 0) := q2.cell 1
        have z0 := q2.frozen 0
        have z1 := q2.frozen 1
        have HBE := Lib.hid (box_set9 (w := w) (sa := sa) q2 ht (HB.out.trans ((HL.out.trans (hb.mono HL.out.size)).mono HB.out.size)) (Nat.le_refl _))
        clear ht hb q2
        go_wp2_with fail
        obtain ⟨w9, e9, t0, t1, hp⟩ := HBE.out
        rw [e9]
        exact bodyPost_ret (v := .agg #[.bool sa, .slice a2 sl.length c2]) (by simp [results, Tryz.results14, go_sem, t0, t1]) rfl hp
  · have hz : (⟨false, []⟩ : Ns) = ⟨sa, sl⟩ := (uni_bad HF.out.ok (by omega)).symm.trans HE.out
    injection hz with h1 h2
    subst h1; subst h2
    have hgo : (¬ (1 : Int) ≤ k) ∨ ((1 : Int) ≤ k ∧ ¬ k ≤ 5) := by omega
    have HU0 := Lib.hid (show nUnion [] = ⟨false, []⟩ from ns_eq rfl (List.eq_nil_of_length_eq_zero (Nat.le_zero.1 (srt_len []))))
    clear hg
    rcases hgo with d1 | ⟨d1, d5⟩
    all_goals
      go_enter Tryz.func14, Tryz.ntmps14
      go_wp2_with fail
      rw [HW.out]
      refine wp_loop_rounds 1 ?_
      rw [rounds_succ]
      go_wp2_with fail
      refine (runion_any (ss := []) (fun i s hi => by simp at hi) rfl ⟨fun s hs => (List.not_mem_nil hs).elim, by simp, by simp⟩ (by simp) HU0.out).mono ?_
      rintro e w2 ⟨a2, c2, rfl, ht, hb⟩
      dsimp only
      have q2 := HQ.out.later hb
      have r0 : w2.cell? ⟨w.heap.size, 0, none⟩ = some (.bool false) := q2.cell 0
      have r1 : w2.cell? ⟨w.heap.size, 1, none⟩ = some (.slice none 0 0) := q2.cell 1
      have z0 := q2.frozen 0
      have z1 := q2.frozen 1
      have HBE := Lib.hid (box_set9 (w := w) (sa := false) q2 ht (HB.out.trans (hb.mono HB.out.size)) (Nat.le_refl _))
      clear ht hb q2
      go_wp2_with fail
      obtain ⟨w9, e9, t0, t1, hp⟩ := HBE.out
      rw [show (Value.slice a2 0 c2) = .slice a2 ([] : List (List UInt8)).length c2 from rfl, e9]
      exact bodyPost_ret (v := .agg #[.bool false, .slice a2 0 c2]) (by simp [results, Tryz.results14, go_sem, t0, t1]) rfl hp
end Go.Proofs.YtkjfafnnnkjoeaaGreatDoor
namespace Go.Proofs.YtkjfafnnnkjoeaaGreatDoor
open Go.RowKit Go.Lib

theorem bad_cases {i k : Int} (h : badI i k = true) : i < 1 ∨ (¬ i < 1 ∧ 32 < i) ∨ (¬ i < 1 ∧ ¬ 32 < i ∧ k < 1) ∨ (¬ i < 1 ∧ ¬ 32 < i ∧ ¬ k < 1 ∧ 5 < k) := by
  unfold badI at h
  simp only [Bool.or_eq_true, decide_eq_true_eq] at h
  omega
set_option maxRecDepth 100000 in
set_option maxHeartbeats 4000000 in
theorem rwant_any {x : Nat} {i k : Int} {W : Wants} {w : World} {sa : Bool} {sl : List (List UInt8)} (h : RfM w x W) (hf : WOk W) (he : W i k = ⟨sa, sl⟩) :
    Calls Tryz.prog 16 #[.pointer (some ⟨x, 0, none⟩), .int .i64 i, .int .i64 k] w (SetPost sa sl w) := by
  obtain ⟨w1, hw1, hb1, q1⟩ := alloc_new w #[.bool false, .slice none 0 0] 29
  have HW := Lib.hid hw1
  have HB := Lib.hid hb1
  have r0 : w1.cell? ⟨w.heap.size, 0, none⟩ = some (.bool false) := q1.cell 0
  have r1 : w1.cell? ⟨w.heap.size, 1, none⟩ = some (.slice none 0 0) := q1.cell 1
  have z0 := q1.frozen 0
  have z1 := q1.frozen 1
  by_cases hg : badI i k = true
  · have hz : (⟨false, []⟩ : Ns) = ⟨sa, sl⟩ := (hf.z i k hg).symm.trans he
    injection hz with h1 h2
    subst h1; subst h2
    have HBE := Lib.hid (box_set9 (w := w) (sa := false) (sl := []) (a := none) (c := 0) q1 (RowV.nil _ _ _ (Nat.zero_le _)) hb1 (Nat.le_refl _))
    have hc := bad_cases hg
    clear hg hb1 q1 hw1 h hf he
    rcases hc with d1 | ⟨d1, d2⟩ | ⟨d1, d2, d3⟩ | ⟨d1, d2, d3, d4⟩
    all_goals
      go_enter Tryz.func16, Tryz.ntmps16
      go_wp2_with (rw [HW.out])
      obtain ⟨w9, e9, t0, t1, hp⟩ := HBE.out
      rw [show (Value.slice none 0 0) = .slice none ([] : List (List UInt8)).length 0 from rfl, e9]
      exact bodyPost_ret (v := .agg #[.bool false, .slice none ([] : List (List UInt8)).length 0]) (by simp [results, Tryz.results16, go_sem, t0, t1]) rfl hp
  · have hn : badI i k = false := by simpa using hg
    obtain ⟨⟨i1, i2⟩, k1, k2⟩ := badI_no.1 hn
    obtain ⟨im, rfl⟩ := Int.eq_ofNat_of_zero_le (show 0 ≤ i by omega)
    obtain ⟨km, rfl⟩ := Int.eq_ofNat_of_zero_le (show 0 ≤ k by omega)
    obtain ⟨a, c, c0, c1, ht⟩ := (h.later hb1).at (i := im) (k := km) (by omega) (by omega)
    rw [he] at c0 c1 ht
    dsimp only at c0 c1 ht
    have HBE := Lib.hid (box_set9 (w := w) (sa := sa) (sl := sl) q1 ht hb1 (Nat.le_refl _))
    have d1 : ¬ (im : Int) < 1 := by omega
    have d2 : ¬ (32 : Int) < (im : Int) := by omega
    have d3 : ¬ (km : Int) < 1 := by omega
    have d4 : ¬ (5 : Int) < (km : Int) := by omega
    have b1 : (0 : Int) ≤ (im : Int) := by omega
    have b2 : (im : Int) < 33 := by omega
    have b3 : (0 : Int) ≤ (km : Int) := by omega
    have b4 : (km : Int) < 6 := by omega
    clear hg hn hb1 q1 hw1 h hf he i1 i2 k1 k2 ht
    go_enter Tryz.func16, Tryz.ntmps16
    go_wp2_with (rw [HW.out])
    obtain ⟨w9, e9, t0, t1, hp⟩ := HBE.out
    rw [e9]
    exact bodyPost_ret (v := .agg #[.bool sa, .slice a sl.length c]) (by simp [results, Tryz.results16, go_sem, t0, t1]) rfl hp
set_option maxRecDepth 100000 in
set_option maxHeartbeats 2000000 in
theorem rlean_any {x : Nat} {k : Int} {W : Wants} {w : World} {sa : Bool} {sl : List (List UInt8)} (h : RfM w x W) (hf : RFit W) (hk : i64B k) (he : leanM (uni W k) = ⟨sa, sl⟩) :
    Calls Tryz.prog 18 #[.pointer (some ⟨x, 0, none⟩), .int .i64 k] w (SetPost sa sl w) := by
  obtain ⟨w1, hw1, hb1, q1⟩ := alloc_new w #[.bool false, .slice none 0 0] 29
  obtain ⟨ua, ul, hU⟩ : ∃ ua ul, uni W k = ⟨ua, ul⟩ := ⟨_, _, rfl⟩
  have HC := Lib.hid (runi_any (h.later hb1) hf hk hU)
  rw [hU] at he
  have HW := Lib.hid hw1
  have HB := Lib.hid hb1
  have HQ := Lib.hid q1
  have hlt : w.heap.size < w1.heap.size := q1.lt
  have HE := Lib.hid he
  clear hw1 hb1 q1 h hU he hf
  go_enter Tryz.func18, Tryz.ntmps18
  go_wp2_with (rw [HW.out])
  refine HC.out.mono ?_
  rintro e w2 ⟨a2, c2, rfl, ht, hb⟩
  obtain ⟨w3, hw3, hb3, q3⟩ := alloc_new w2 #[.bool ua, .slice a2 ul.length c2] 29
  have q2 := (HQ.out.later hb).later hb3
  have HB3 := Lib.hid ((HB.out.trans (hb.mono HB.out.size)).trans (hb3.mono (Nat.le_trans HB.out.size hb.size)))
  have HT := Lib.hid (ht.later hb3)
  have HW3 := Lib.hid hw3
  have y0 : w3.cell? ⟨w2.heap.size, 0, none⟩ = some (.bool ua) := q3.cell 0
  have y1 : w3.cell? ⟨w2.heap.size, 1, none⟩ = some (.slice a2 ul.length c2) := q3.cell 1
  have r0 : w3.cell? ⟨w.heap.size, 0, none⟩ = some (.bool false) := q2.cell 0
  have r1 : w3.cell? ⟨w.heap.size, 1, none⟩ = some (.slice none 0 0) := q2.cell 1
  have z0 := q2.frozen 0
  have z1 := q2.frozen 1
  have HQ2 := Lib.hid q2
  clear ht hb hw3 hb3 q2 q3
  cases ua with
  | true =>
    have hE : (⟨true, []⟩ : Ns) = ⟨sa, sl⟩ := HE.out
    injection hE with h1 h2
    subst h1; subst h2
    have HBE := Lib.hid (box_set9 (w := w) (sa := true) (sl := []) (a := none) (c := 0) HQ2.out (RowV.nil _ _ _ (Nat.zero_le _)) HB3.out (Nat.le_refl _))
    go_wp2_with (rw [HW3.out])
    obtain ⟨w9, e9, t0, t1, hp⟩ := HBE.out
    rw [show (Value.slice none 0 0) = .slice none ([] : List (List UInt8)).length 0 from rfl, e9]
    exact bodyPost_ret (v := .agg #[.bool true, .slice none ([] : List (List UInt8)).length 0]) (by simp [results, Tryz.results18, go_sem, t0, t1]) rfl hp
  | false =>
    have hE : (⟨false, ul⟩ : Ns) = ⟨sa, sl⟩ := HE.out
    injection hE with h1 h2
    subst h1; subst h2
    have HBE := Lib.hid (box_set9 (w := w) (sa := false) HQ2.out HT.out HB3.out (Nat.le_refl _))
    go_wp2_with (rw [HW3.out])
    obtain ⟨w9, e9, t0, t1, hp⟩ := HBE.out
    rw [e9]
    exact bodyPost_ret (v := .agg #[.bool false, .slice a2 ul.length c2]) (by simp [results, Tryz.results18, go_sem, t0, t1]) rfl hp
end Go.Proofs.YtkjfafnnnkjoeaaGreatDoor
namespace Go.Proofs.YtkjfafnnnkjoeaaGreatDoor
open Go.RowKit Go.Lib

theorem u64_small {z : Int} (h : 0 ≤ z ∧ z < 1000000) : IntKind.u64.wrap z = z := by rw [show IntKind.u64.wrap z = z % 18446744073709551616 from rfl]; omega
theorem u8_small' {z : Int} (h : 0 ≤ z ∧ z < 256) : IntKind.u8.wrap z = z := by rw [show IntKind.u8.wrap z = z % 256 from rfl]; omega
theorem byteD9 {j : Nat} (hj : j ≤ 9) : (UInt8.ofNat (48 + j)).toNat = 48 + j := by simp; omega
theorem conv1 {g c D : Nat} {u : UInt8} {W : World} (hu : u.toNat = D) (hg : Blk W g #[.int .u8 (D : Int)] 5) :
    (convert 34 9 (.slice (some ⟨g, 0, none⟩) 1 c)).run Tryz.prog W = .ok (.string ⟨#[u]⟩) W :=
  bytes_conv (l := [u]) (by simp [hu]) hg
set_option maxRecDepth 100000 in
set_option maxHeartbeats 2000000 in
theorem rdigits_any {n : Nat} {w : World} (hn : n ≤ 99) : Calls Tryz.prog 43 #[.int .u64 (n : Int)] w fun e w' => e = .returned (.string ⟨(dgT n).toArray⟩) ∧ Below w.heap.size w w' := by
  obtain ⟨r, hr⟩ : ∃ r, n % 10 = r := ⟨_, rfl⟩
  obtain ⟨D, hD⟩ : ∃ D, 48 + r = D := ⟨_, rfl⟩
  have e1 : (n : Int).tmod 10 = (r : Int) := by rw [Int.tmod_eq_emod_of_nonneg (by omega)]; omega
  have e1' : (n : Int) % 10 = (r : Int) := by omega
  have g1 : IntKind.u64.wrap (r : Int) = (r : Int) := u64_small (by omega)
  have g2 : IntKind.u64.wrap (48 + (r : Int)) = (D : Int) := by rw [u64_small (by omega)]; omega
  have g3 : IntKind.u8.wrap (D : Int) = (D : Int) := u8_small' (by omega)
  obtain ⟨u, hu, hul⟩ : ∃ u : UInt8, UInt8.ofNat (48 + r) = u ∧ u.toNat = D := ⟨_, rfl, (byteD9 (by omega)).trans hD⟩
  obtain ⟨w1, hw1, hb1, q1⟩ := alloc_new w #[.int .u8 (D : Int)] 5
  have cv := conv1 (c := 1) hul q1
  have HW := Lib.hid hw1
  have HB := Lib.hid hb1
  clear hw1 hb1 q1
  by_cases h9 : n ≤ 9
  · have b1 : ¬ (9 : Int) < (n : Int) := by omega
    have HD := Lib.hid (show dgT n = [u] by unfold dgT; rw [if_pos (by omega), ← hu, show r = n by omega])
    clear hr hD hu hul h9 hn
    go_enter Tryz.func43, Tryz.ntmps43
    go_wp2_with (rw [HW.out])
    refine wp_loop_rounds 1 ?_
    rw [rounds_succ]
    go_wp2_with fail
    go_ret
    exact ⟨by rw [HD.out]; rfl, HB.out⟩
  · have b1 : (9 : Int) < (n : Int) := by omega
    obtain ⟨p, hp⟩ : ∃ p, n / 10 = p := ⟨_, rfl⟩
    obtain ⟨E, hE⟩ : ∃ E, 48 + p = E := ⟨_, rfl⟩
    have f1 : (n : Int).tdiv 10 = (p : Int) := by rw [Int.tdiv_eq_ediv_of_nonneg (by omega)]; omega
    have f1' : (n : Int) / 10 = (p : Int) := by omega
    have f2 : IntKind.u64.wrap (p : Int) = (p : Int) := u64_small (by omega)
    have f3 : (p : Int).tmod 10 = (p : Int) := by rw [Int.tmod_eq_emod_of_nonneg (by omega)]; omega
    have f3' : (p : Int) % 10 = (p : Int) := by omega
    have f4 : IntKind.u64.wrap (48 + (p : Int)) = (E : Int) := by rw [u64_small (by omega)]; omega
    have f5 : IntKind.u8.wrap (E : Int) = (E : Int) := u8_small' (by omega)
    have b2 : ¬ (9 : Int) < (p : Int) := by omega
    obtain ⟨v, hv, hvl⟩ : ∃ v : UInt8, UInt8.ofNat (48 + p) = v ∧ v.toNat = E := ⟨_, rfl, (byteD9 (by omega)).trans hE⟩
    obtain ⟨w2, hw2, hb2, q2⟩ := alloc_new w1 #[.int .u8 (E : Int)] 5
    have cv2 := conv1 (c := 1) hvl q2
    have HW2 := Lib.hid hw2
    have HB2 := Lib.hid (HB.out.trans (hb2.mono HB.out.size))
    have hcat : ({ data := #[v] } : ByteArray) ++ { data := #[u] } = { data := #[v, u] } := by apply ByteArray.ext; simp
    have HD := Lib.hid (show dgT n = [v, u] by unfold dgT; rw [if_neg (by omega), hp, hr, hu, hv])
    clear hw2 hb2 q2 hr hD hu hul h9 hn hp hE hv hvl
    go_enter Tryz.func43, Tryz.ntmps43
    go_wp2_with (rw [HW.out])
    refine wp_loop_rounds 2 ?_
    rw [rounds_succ]
    go_wp2_with (rw [HW2.out])
    rw [rounds_succ]
    go_wp2_with fail
    go_ret
    exact ⟨by rw [HD.out]; rfl, HB2.out⟩
end Go.Proofs.YtkjfafnnnkjoeaaGreatDoor
namespace Go.Proofs.YtkjfafnnnkjoeaaGreatDoor
open Go.RowKit Go.Lib

/-- What comes of Set. -/
def RSetIs (X : Nat) (W : Wants) (i k : Int) (s : Ns) (w : World) (e : Ending) (w' : World) : Prop :=
  ∃ v1 v2, e = .returned (.tuple #[v1, v2, .int .i64 (setE W i k s : Int)]) ∧ SetAt w' v1 (setM W i k s) ∧ SetAt w' v2 (setL W i k s) ∧ RfM w' X (setW W i k s) ∧ OnlyX X w w'
theorem RfM.set2 {w : World} {X R : Nat} {W : Wants} {b0 : Bool} {a0 : Option Addr} {n0 c0 : Nat} {t : TypeId} (h : RfM w X W) (hR : Blk w R #[.bool b0, .slice a0 n0 c0] t) (hne : X ≠ R) (u0 u1 : Value) : RfM ((w.setCell ⟨R, 0, none⟩ u0).setCell ⟨R, 1, none⟩ u1) X W := by
  obtain ⟨cs, h0, h1, h2⟩ := h
  refine ⟨cs, h0.setc hne _ _, h1, fun i k hi hk => ?_⟩
  obtain ⟨a, c, g1, g2, g3⟩ := h2 i k hi hk
  exact ⟨a, c, g1, g2, g3.set2 u0 u1 (hR.cell 0) (hR.cell 1)⟩
theorem OnlyX.box {w0 w : World} {X R : Nat} (h : OnlyX X w0 w) (hR : w0.heap.size ≤ R) (u0 u1 : Value) : OnlyX X w0 ((w.setCell ⟨R, 0, none⟩ u0).setCell ⟨R, 1, none⟩ u1) := by
  have hg := grown_set2 w R u0 u1
  exact ⟨hg.os.trans h.os, hg.tape.trans h.tape, hg.output.trans h.output, Nat.le_trans h.size hg.size, fun k hk hn => (hg.block k (Nat.lt_of_lt_of_le hk h.size) (fun e => by have := Option.some.inj e; omega)).trans (h.block k hk hn)⟩
theorem OnlyX.later {w0 w w' : World} {X : Nat} (h : OnlyX X w0 w) (hb : Below w.heap.size w w') : OnlyX X w0 w' := h.trans (.of hb)
theorem rfit_set {W : Wants} {i k : Int} {s : Ns} (h : RFit W) (hb : badI i k = false) (hs : NsR s) (hl : ∀ x ∈ s.ns, x.length ≤ 64) (hn : s.ns.length ≤ 200) : RFit (wset W i k s) := by
  refine ⟨wset_ok h.ok hs hb, fun i' k' => ?_, fun i' k' => ?_⟩
  · unfold wset; split
    · exact hl
    · exact h.l i' k'
  · unfold wset; split
    · exact hn
    · exact h.n i' k'
theorem wset_back (W : Wants) (i k : Int) (s : Ns) : wset (wset W i k s) i k (W i k) = W := by
  funext i' k'
  by_cases e : i' = i ∧ k' = k
  · obtain ⟨rfl, rfl⟩ := e; exact wset_same _ _ _ _
  · simp only [wset, e, if_false]
theorem uni_rfit {W : Wants} (h : RFit W) (k : Int) : NsR (uni W k) ∧ NmFit (uni W k).ns ∧ (nList (uni W k)).length ≤ 10000 := by
  have hl : (uni W k).ns.length ≤ 32 * 200 := by
    refine Nat.le_trans (srt_len _) ?_
    have := flats_le (n := 200) (l := ids.map fun i => W i k) fun s hs => by
      obtain ⟨i, _, rfl⟩ := List.mem_map.1 hs
      exact h.n i k
    rw [List.length_map] at this
    exact this
  refine ⟨nsr_uni h.ok k, ⟨fun x hx => ?_, by omega⟩, ?_⟩
  · obtain ⟨i, _, hi⟩ := (mem_uni W k x).1 hx
    have := h.l i k x hi
    unfold maxLen; omega
  · have := list_len (uni W k); omega
theorem rlist_len {s : Ns} (h : ∀ x ∈ s.ns, x.length ≤ 64) {x : List UInt8} (hx : x ∈ nList s) : x.length ≤ 1000 := by
  rcases (mem_list s x).1 hx with ⟨_, e⟩ | h'
  · rw [e]; decide
  · have := h x h'; omega
theorem rset_no {W : Wants} {i k : Int} {s : Ns} {E : Nat} (h : setE W i k s = E) (h0 : ¬ E = 0) : setW W i k s = W ∧ setM W i k s = Ns.zero ∧ setL W i k s = Ns.zero := by
  subst h
  exact ⟨by unfold setW; rw [if_neg h0], by unfold setM; rw [if_neg h0], by unfold setL; rw [if_neg h0]⟩
theorem rset_yes {X : Nat} {W V : Wants} {i k : Int} {s U U2 : Ns} {ma la : Bool} {ml ll : List (List UInt8)} {om ol : Option Addr} {dm dl : Nat} {w w' : World} (h : setE W i k s = 0) (hV : wset W i k s = V) (hu : uni W k = U) (hv : uni V k = U2) (hm : nLess U2 U = ⟨ma, ml⟩) (hl : nLess U U2 = ⟨la, ll⟩) (hr : RfM w' X V) (ho : OnlyX X w w') (t1 : TsAt w' (.slice om ml.length dm) ml) (t2 : TsAt w' (.slice ol ll.length dl) ll) :
    RSetIs X W i k s w (.returned (.tuple #[.agg #[.bool ma, .slice om ml.length dm], .agg #[.bool la, .slice ol ll.length dl], .int .i64 0])) w' := by
  subst hV; subst hu; subst hv
  refine ⟨_, _, by rw [h]; rfl, ?_, ?_, by unfold setW; rw [if_pos h]; exact hr, ho⟩
  · unfold setM; rw [if_pos h, hm]; exact ⟨_, rfl, t1⟩
  · unfold setL; rw [if_pos h, hl]; exact ⟨_, rfl, t2⟩
theorem rset_ret {X : Nat} {W : Wants} {i k : Int} {s : Ns} {E : Nat} {w w' : World} (h : setE W i k s = E) (h0 : ¬ E = 0) (hr : RfM w' X W) (ho : OnlyX X w w') : RSetIs X W i k s w (.returned (.tuple #[.agg #[.bool false, .slice none 0 0], .agg #[.bool false, .slice none 0 0], .int .i64 (E : Int)])) w' := by
  obtain ⟨e1, e2, e3⟩ := rset_no h h0
  refine ⟨_, _, by rw [h], ?_, ?_, by rw [e1]; exact hr, ho⟩
  · rw [e2]; exact ⟨_, rfl, RowV.nil _ _ _ (Nat.zero_le _)⟩
  · rw [e3]; exact ⟨_, rfl, RowV.nil _ _ _ (Nat.zero_le _)⟩

set_option maxRecDepth 100000 in
set_option maxHeartbeats 8000000 in
theorem rset_any {X : Nat} {i k : Int} {W : Wants} {sa : Bool} {sl : List (List UInt8)} {os : Option Addr} {ds : Nat} {w : World} (h : RfM w X W) (hf : RFit W) (hs : TsAt w (.slice os sl.length ds) sl) (hsr : NsR ⟨sa, sl⟩) (hsn : sl.length ≤ 200) (hsx : ∀ x ∈ sl, x.length ≤ 64) (hk : i64B k) :
    Calls Tryz.prog 10 #[.pointer (some ⟨X, 0, none⟩), .int .i64 i, .int .i64 k, .agg #[.bool sa, .slice os sl.length ds]] w (RSetIs X W i k ⟨sa, sl⟩ w) := by
  have H := Lib.hid h
  have HF := Lib.hid hf
  have Ts := Lib.hid hs
  have HS := Lib.hid (And.intro hsr (And.intro hsn hsx))
  have O := Lib.hid (OnlyX.of (x := X) (Below.refl w.heap.size w))
  have HX := Lib.hid h.lt
  clear h hf hs hsr hsn hsx
  obtain ⟨x1, hw2, hb3, hq4⟩ := alloc_new w #[.bool sa, .slice os sl.length ds] 29
  have H := Lib.hid (H.out.later hb3)
  have O := Lib.hid (O.out.later hb3)
  have Ts := Lib.hid (Ts.out.later hb3)
  have Q7 := Lib.hid hq4
  have HW5 := Lib.hid hw2
  have HZ6 := Lib.hid (show w.heap.size + 1 = x1.heap.size by rw [← hw2]; simp)
  clear hw2 hb3 hq4
  obtain ⟨x7, hw8, hb9, hq10⟩ := alloc_new x1 #[.bool false, .slice none 0 0] 29
  have H := Lib.hid (H.out.later hb9)
  have O := Lib.hid (O.out.later hb9)
  have Q7 := Lib.hid (Q7.out.later hb9)
  have Ts := Lib.hid (Ts.out.later hb9)
  have Q8 := Lib.hid hq10
  have HW11 := Lib.hid hw8
  have HZ12 := Lib.hid (show x1.heap.size + 1 = x7.heap.size by rw [← hw8]; simp)
  clear hw8 hb9 hq10
  obtain ⟨x13, hw14, hb15, hq16⟩ := alloc_new x7 #[.bool false, .slice none 0 0] 29
  have H := Lib.hid (H.out.later hb15)
  have O := Lib.hid (O.out.later hb15)
  have Q7 := Lib.hid (Q7.out.later hb15)
  have Q8 := Lib.hid (Q8.out.later hb15)
  have Ts := Lib.hid (Ts.out.later hb15)
  have Q9 := Lib.hid hq16
  have HW17 := Lib.hid hw14
  have HZ18 := Lib.hid (show x7.heap.size + 1 = x13.heap.size by rw [← hw14]; simp)
  clear hw14 hb15 hq16
  obtain ⟨x19, hw20, hb21, hq22⟩ := alloc_new x13 #[.bool false, .slice none 0 0] 29
  have H := Lib.hid (H.out.later hb21)
  have O := Lib.hid (O.out.later hb21)
  have Q7 := Lib.hid (Q7.out.later hb21)
  have Q8 := Lib.hid (Q8.out.later hb21)
  have Q9 := Lib.hid (Q9.out.later hb21)
  have Ts := Lib.hid (Ts.out.later hb21)
  have Q11 := Lib.hid hq22
  have HW23 := Lib.hid hw20
  have HZ24 := Lib.hid (show x13.heap.size + 1 = x19.heap.size by rw [← hw20]; simp)
  clear hw20 hb21 hq22
  have HR := Lib.hid (show X < w.heap.size ∧ w.heap.size ≤ w.heap.size ∧ w.heap.size < x1.heap.size ∧ x1.heap.size < x7.heap.size ∧ x7.heap.size < x13.heap.size ∧ x13.heap.size < x19.heap.size by have := HX.out; have := HZ6.out; have := HZ12.out; have := HZ18.out; have := HZ24.out; omega)
  by_cases hg : badI i k = true
  · have he1 : setE W i k ⟨sa, sl⟩ = 1 := by unfold setE; rw [if_pos hg]
    have HE := Lib.hid he1
    have hc := bad_cases hg
    clear hg he1
    rcases hc with d1 | ⟨d1, d2⟩ | ⟨d1, d2, d3⟩ | ⟨d1, d2, d3, d4⟩
    · go_enter Tryz.func10, Tryz.ntmps10
      go_wp2_with fail
      rw [HW5.out, HW11.out, HW17.out, HW23.out, HZ6.out, HZ12.out, HZ18.out]
      clear HW5 HZ6 HW11 HZ12 HW17 HZ18 HW23 HZ24
      have HB := Lib.hid (Nat.le_refl w.heap.size)
      obtain ⟨R7, hR7⟩ : ∃ R, w.heap.size = R := ⟨_, rfl⟩
      rw [hR7] at Q7 ⊢
      have HR := Lib.hid (show X < R7 ∧ w.heap.size ≤ R7 ∧ R7 < x1.heap.size ∧ x1.heap.size < x7.heap.size ∧ x7.heap.size < x13.heap.size ∧ x13.heap.size < x19.heap.size by rw [← hR7]; exact HR.out)
      clear hR7
      obtain ⟨R8, hR8⟩ : ∃ R, x1.heap.size = R := ⟨_, rfl⟩
      rw [hR8] at Q8 HR ⊢
      clear hR8
      obtain ⟨R9, hR9⟩ : ∃ R, x7.heap.size = R := ⟨_, rfl⟩
      rw [hR9] at Q9 HR ⊢
      clear hR9
      obtain ⟨R11, hR11⟩ : ∃ R, x13.heap.size = R := ⟨_, rfl⟩
      rw [hR11] at Q11 HR ⊢
      clear hR11
      obtain ⟨w1001, hw1002, hb1003⟩ := drew_new x19
      have q1004 := H.out.later hb1003
      have q1005 := O.out.later hb1003
      have q1006 := Q8.out.later hb1003
      have q1007 := Q9.out.later hb1003
      have q1008 := Q11.out.later hb1003
      refine wp_region_held_drew (S := (fun w' => w'.cell? ⟨R11, 0, none⟩ = some (.bool false) ∧ w'.cell? ⟨R11, 1, none⟩ = some (.slice none 0 0) ∧ True)) (by kernel_rfl) (by rw [hw1002]; exact ⟨q1008.cell 0, q1008.cell 1, trivial⟩) (fun hHeld => ?_)
      rw [hw1002] at hHeld ⊢
      refine wpAnyH_take (i := 0) (oi := { dst := some 30, op := Op.load 29 (Operand.tmp 11), type := 29, pos := "ref.go:32", after := #[], guard := none }) (v := ?v1001) rfl (by kernel_rfl) (by kernel_rfl) (by kernel_rfl) (fun _ _ _ h => h) (Or.inl ⟨by rfl, ?hy1001⟩) (by assumption) ?rest1001
      case hy1001 => (intro w1 hSw; (try dsimp only at hSw); obtain ⟨h0, h1, -⟩ := hSw; go_simp; try with_reducible rfl)
      try simp only [Act.put, List.setIfInBounds_toArray, List.set_cons_zero, List.set_cons_succ]
      refine wpAnyH_take (i := 1) (oi := { dst := some 31, op := Op.load 29 (Operand.tmp 11), type := 29, pos := "ref.go:32", after := #[{ on := 2, ground := Ground.gcOnly Departure.lateStores }], guard := none }) (v := ?v1002) rfl (by kernel_rfl) (by kernel_rfl) (by kernel_rfl) (fun _ _ _ h => h) (Or.inl ⟨by rfl, ?hy1002⟩) (by assumption) ?rest1002
      case hy1002 => (intro w1 hSw; (try dsimp only at hSw); obtain ⟨h0, h1, -⟩ := hSw; go_simp; try with_reducible rfl)
      try simp only [Act.put, List.setIfInBounds_toArray, List.set_cons_zero, List.set_cons_succ]
      refine wpAnyH_ready (rs := [2]) (by kernel_rfl) (by simp) ?_
      refine AllReadyH.cons (o := { dst := none, op := Op.store 29 (Operand.tmp 8) (Operand.tmp 30), type := 0, pos := "ref.go:32", after := #[{ on := 0, ground := Ground.data }, { on := 0, ground := Ground.phase }, { on := 1, ground := Ground.textOnly Departure.lateStores }], guard := none }) rfl (fun K hK => ?_) AllReadyH.nil
      rw [if_pos (by rfl)]
      have c1011 := q1006.cell 0
      have c1012 := q1006.cell 1
      have z1013 := q1006.frozen 0
      have z1014 := q1006.frozen 1
      obtain ⟨wS1009, hS1010⟩ : ∃ w1, (w1001.setCell ⟨R8, 0, none⟩ (.bool false)).setCell ⟨R8, 1, none⟩ (.slice none 0 0) = w1 := ⟨_, rfl⟩
      have q1015 := q1004.set2 q1006 (by have := HR.out; omega) (.bool false) (.slice none 0 0)
      rw [hS1010] at q1015
      have q1016 := q1005.box (R := R8) (by have := HR.out; omega) (.bool false) (.slice none 0 0)
      rw [hS1010] at q1016
      have q1017 := q1007.setc (R := R8) (o := 0) (o' := 1) (by have := HR.out; omega) (.bool false) (.slice none 0 0)
      rw [hS1010] at q1017
      have q1018 := q1008.setc (R := R8) (o := 0) (o' := 1) (by have := HR.out; omega) (.bool false) (.slice none 0 0)
      rw [hS1010] at q1018
      have q1019 : Blk wS1009 R8 #[.bool false, .slice none 0 0] 29 := by rw [← hS1010]; exact (q1006.set 0 _).set 1 _
      go_simp
      try rw [hS1010]
      clear hS1010 c1011 c1012 z1013 z1014
      refine hK.out _ _ (⟨q1018.cell 0, q1018.cell 1, trivial⟩) (fun hHeld => ?_)
      clear hK K
      try simp only [Act.put, List.setIfInBounds_toArray, List.set_cons_zero, List.set_cons_succ]
      refine wpAnyH_ready (rs := [3]) (by kernel_rfl) (by simp) ?_
      refine AllReadyH.cons (o := { dst := none, op := Op.store 29 (Operand.tmp 9) (Operand.tmp 31), type := 0, pos := "ref.go:32", after := #[{ on := 1, ground := Ground.data }, { on := 2, ground := Ground.chain }, { on := 0, ground := Ground.phase }, { on := 1, ground := Ground.phase }, { on := 2, ground := Ground.phase }], guard := none }) rfl (fun K hK => ?_) AllReadyH.nil
      rw [if_pos (by rfl)]
      have c1022 := q1017.cell 0
      have c1023 := q1017.cell 1
      have z1024 := q1017.frozen 0
      have z1025 := q1017.frozen 1
      obtain ⟨wS1020, hS1021⟩ : ∃ w1, (wS1009.setCell ⟨R9, 0, none⟩ (.bool false)).setCell ⟨R9, 1, none⟩ (.slice none 0 0) = w1 := ⟨_, rfl⟩
      have q1026 := q1015.set2 q1017 (by have := HR.out; omega) (.bool false) (.slice none 0 0)
      rw [hS1021] at q1026
      have q1027 := q1016.box (R := R9) (by have := HR.out; omega) (.bool false) (.slice none 0 0)
      rw [hS1021] at q1027
      have q1028 := q1019.setc (R := R9) (o := 0) (o' := 1) (by have := HR.out; omega) (.bool false) (.slice none 0 0)
      rw [hS1021] at q1028
      have q1029 := q1018.setc (R := R9) (o := 0) (o' := 1) (by have := HR.out; omega) (.bool false) (.slice none 0 0)
      rw [hS1021] at q1029
      have q1030 : Blk wS1020 R9 #[.bool false, .slice none 0 0] 29 := by rw [← hS1021]; exact (q1017.set 0 _).set 1 _
      go_simp
      try rw [hS1021]
      clear hS1021 c1022 c1023 z1024 z1025
      refine hK.out _ _ (⟨q1029.cell 0, q1029.cell 1, trivial⟩) (fun hHeld => ?_)
      clear hK K
      try simp only [Act.put, List.setIfInBounds_toArray, List.set_cons_zero, List.set_cons_succ]
      refine wpAnyH_take (i := 4) (oi := { dst := some 10, op := Op.assign (Operand.const (Value.int IntKind.i64 1)), type := 3, pos := "ref.go:32", after := #[{ on := 3, ground := Ground.chain }, { on := 0, ground := Ground.phase }, { on := 1, ground := Ground.phase }, { on := 2, ground := Ground.phase }, { on := 3, ground := Ground.phase }], guard := none }) (v := ?v1003) rfl (by kernel_rfl) (by kernel_rfl) (by kernel_rfl) (fun _ _ _ h => h) (Or.inl ⟨by rfl, ?hy1003⟩) (by assumption) ?rest1003
      case hy1003 => (intro w1 hSw; (try dsimp only at hSw); obtain ⟨h0, h1, -⟩ := hSw; go_simp; try with_reducible rfl)
      try simp only [Act.put, List.setIfInBounds_toArray, List.set_cons_zero, List.set_cons_succ]
      refine wpAnyH_done (by kernel_rfl) ?_ _
      go_wp2_with fail
      have c1031 := q1028.cell 0
      have c1032 := q1028.cell 1
      have c1033 := q1030.cell 0
      have c1034 := q1030.cell 1
      exact bodyPost_ret (v := .tuple #[.agg #[.bool false, .slice none 0 0], .agg #[.bool false, .slice none 0 0], .int .i64 1]) (by simp [results, Tryz.results10, go_sem, c1031, c1032, c1033, c1034]) rfl (rset_ret HE.out (by decide) q1026 q1027)
    · go_enter Tryz.func10, Tryz.ntmps10
      go_wp2_with fail
      rw [HW5.out, HW11.out, HW17.out, HW23.out, HZ6.out, HZ12.out, HZ18.out]
      clear HW5 HZ6 HW11 HZ12 HW17 HZ18 HW23 HZ24
      have HB := Lib.hid (Nat.le_refl w.heap.size)
      obtain ⟨R7, hR7⟩ : ∃ R, w.heap.size = R := ⟨_, rfl⟩
      rw [hR7] at Q7 ⊢
      have HR := Lib.hid (show X < R7 ∧ w.heap.size ≤ R7 ∧ R7 < x1.heap.size ∧ x1.heap.size < x7.heap.size ∧ x7.heap.size < x13.heap.size ∧ x13.heap.size < x19.heap.size by rw [← hR7]; exact HR.out)
      clear hR7
      obtain ⟨R8, hR8⟩ : ∃ R, x1.heap.size = R := ⟨_, rfl⟩
      rw [hR8] at Q8 HR ⊢
      clear hR8
      obtain ⟨R9, hR9⟩ : ∃ R, x7.heap.size = R := ⟨_, rfl⟩
      rw [hR9] at Q9 HR ⊢
      clear hR9
      obtain ⟨R11, hR11⟩ : ∃ R, x13.heap.size = R := ⟨_, rfl⟩
      rw [hR11] at Q11 HR ⊢
      clear hR11
      obtain ⟨w1035, hw1036, hb1037⟩ := drew_new x19
      have q1038 := H.out.later hb1037
      have q1039 := O.out.later hb1037
      have q1040 := Q8.out.later hb1037
      have q1041 := Q9.out.later hb1037
      have q1042 := Q11.out.later hb1037
      refine wp_region_held_drew (S := (fun w' => w'.cell? ⟨R11, 0, none⟩ = some (.bool false) ∧ w'.cell? ⟨R11, 1, none⟩ = some (.slice none 0 0) ∧ True)) (by kernel_rfl) (by rw [hw1036]; exact ⟨q1042.cell 0, q1042.cell 1, trivial⟩) (fun hHeld => ?_)
      rw [hw1036] at hHeld ⊢
      refine wpAnyH_take (i := 0) (oi := { dst := some 30, op := Op.load 29 (Operand.tmp 11), type := 29, pos := "ref.go:32", after := #[], guard := none }) (v := ?v1035) rfl (by kernel_rfl) (by kernel_rfl) (by kernel_rfl) (fun _ _ _ h => h) (Or.inl ⟨by rfl, ?hy1035⟩) (by assumption) ?rest1035
      case hy1035 => (intro w1 hSw; (try dsimp only at hSw); obtain ⟨h0, h1, -⟩ := hSw; go_simp; try with_reducible rfl)
      try simp only [Act.put, List.setIfInBounds_toArray, List.set_cons_zero, List.set_cons_succ]
      refine wpAnyH_take (i := 1) (oi := { dst := some 31, op := Op.load 29 (Operand.tmp 11), type := 29, pos := "ref.go:32", after := #[{ on := 2, ground := Ground.gcOnly Departure.lateStores }], guard := none }) (v := ?v1036) rfl (by kernel_rfl) (by kernel_rfl) (by kernel_rfl) (fun _ _ _ h => h) (Or.inl ⟨by rfl, ?hy1036⟩) (by assumption) ?rest1036
      case hy1036 => (intro w1 hSw; (try dsimp only at hSw); obtain ⟨h0, h1, -⟩ := hSw; go_simp; try with_reducible rfl)
      try simp only [Act.put, List.setIfInBounds_toArray, List.set_cons_zero, List.set_cons_succ]
      refine wpAnyH_ready (rs := [2]) (by kernel_rfl) (by simp) ?_
      refine AllReadyH.cons (o := { dst := none, op := Op.store 29 (Operand.tmp 8) (Operand.tmp 30), type := 0, pos := "ref.go:32", after := #[{ on := 0, ground := Ground.data }, { on := 0, ground := Ground.phase }, { on := 1, ground := Ground.textOnly Departure.lateStores }], guard := none }) rfl (fun K hK => ?_) AllReadyH.nil
      rw [if_pos (by rfl)]
      have c1045 := q1040.cell 0
      have c1046 := q1040.cell 1
      have z1047 := q1040.frozen 0
      have z1048 := q1040.frozen 1
      obtain ⟨wS1043, hS1044⟩ : ∃ w1, (w1035.setCell ⟨R8, 0, none⟩ (.bool false)).setCell ⟨R8, 1, none⟩ (.slice none 0 0) = w1 := ⟨_, rfl⟩
      have q1049 := q1038.set2 q1040 (by have := HR.out; omega) (.bool false) (.slice none 0 0)
      rw [hS1044] at q1049
      have q1050 := q1039.box (R := R8) (by have := HR.out; omega) (.bool false) (.slice none 0 0)
      rw [hS1044] at q1050
      have q1051 := q1041.setc (R := R8) (o := 0) (o' := 1) (by have := HR.out; omega) (.bool false) (.slice none 0 0)
      rw [hS1044] at q1051
      have q1052 := q1042.setc (R := R8) (o := 0) (o' := 1) (by have := HR.out; omega) (.bool false) (.slice none 0 0)
      rw [hS1044] at q1052
      have q1053 : Blk wS1043 R8 #[.bool false, .slice none 0 0] 29 := by rw [← hS1044]; exact (q1040.set 0 _).set 1 _
      go_simp
      try rw [hS1044]
      clear hS1044 c1045 c1046 z1047 z1048
      refine hK.out _ _ (⟨q1052.cell 0, q1052.cell 1, trivial⟩) (fun hHeld => ?_)
      clear hK K
      try simp only [Act.put, List.setIfInBounds_toArray, List.set_cons_zero, List.set_cons_succ]
      refine wpAnyH_ready (rs := [3]) (by kernel_rfl) (by simp) ?_
      refine AllReadyH.cons (o := { dst := none, op := Op.store 29 (Operand.tmp 9) (Operand.tmp 31), type := 0, pos := "ref.go:32", after := #[{ on := 1, ground := Ground.data }, { on := 2, ground := Ground.chain }, { on := 0, ground := Ground.phase }, { on := 1, ground := Ground.phase }, { on := 2, ground := Ground.phase }], guard := none }) rfl (fun K hK => ?_) AllReadyH.nil
      rw [if_pos (by rfl)]
      have c1056 := q1051.cell 0
      have c1057 := q1051.cell 1
      have z1058 := q1051.frozen 0
      have z1059 := q1051.frozen 1
      obtain ⟨wS1054, hS1055⟩ : ∃ w1, (wS1043.setCell ⟨R9, 0, none⟩ (.bool false)).setCell ⟨R9, 1, none⟩ (.slice none 0 0) = w1 := ⟨_, rfl⟩
      have q1060 := q1049.set2 q1051 (by have := HR.out; omega) (.bool false) (.slice none 0 0)
      rw [hS1055] at q1060
      have q1061 := q1050.box (R := R9) (by have := HR.out; omega) (.bool false) (.slice none 0 0)
      rw [hS1055] at q1061
      have q1062 := q1053.setc (R := R9) (o := 0) (o' := 1) (by have := HR.out; omega) (.bool false) (.slice none 0 0)
      rw [hS1055] at q1062
      have q1063 := q1052.setc (R := R9) (o := 0) (o' := 1) (by have := HR.out; omega) (.bool false) (.slice none 0 0)
      rw [hS1055] at q1063
      have q1064 : Blk wS1054 R9 #[.bool false, .slice none 0 0] 29 := by rw [← hS1055]; exact (q1051.set 0 _).set 1 _
      go_simp
      try rw [hS1055]
      clear hS1055 c1056 c1057 z1058 z1059
      refine hK.out _ _ (⟨q1063.cell 0, q1063.cell 1, trivial⟩) (fun hHeld => ?_)
      clear hK K
      try simp only [Act.put, List.setIfInBounds_toArray, List.set_cons_zero, List.set_cons_succ]
      refine wpAnyH_take (i := 4) (oi := { dst := some 10, op := Op.assign (Operand.const (Value.int IntKind.i64 1)), type := 3, pos := "ref.go:32", after := #[{ on := 3, ground := Ground.chain }, { on := 0, ground := Ground.phase }, { on := 1, ground := Ground.phase }, { on := 2, ground := Ground.phase }, { on := 3, ground := Ground.phase }], guard := none }) (v := ?v1037) rfl (by kernel_rfl) (by kernel_rfl) (by kernel_rfl) (fun _ _ _ h => h) (Or.inl ⟨by rfl, ?hy1037⟩) (by assumption) ?rest1037
      case hy1037 => (intro w1 hSw; (try dsimp only at hSw); obtain ⟨h0, h1, -⟩ := hSw; go_simp; try with_reducible rfl)
      try simp only [Act.put, List.setIfInBounds_toArray, List.set_cons_zero, List.set_cons_succ]
      refine wpAnyH_done (by kernel_rfl) ?_ _
      go_wp2_with fail
      have c1065 := q1062.cell 0
      have c1066 := q1062.cell 1
      have c1067 := q1064.cell 0
      have c1068 := q1064.cell 1
      exact bodyPost_ret (v := .tuple #[.agg #[.bool false, .slice none 0 0], .agg #[.bool false, .slice none 0 0], .int .i64 1]) (by simp [results, Tryz.results10, go_sem, c1065, c1066, c1067, c1068]) rfl (rset_ret HE.out (by decide) q1060 q1061)
    · go_enter Tryz.func10, Tryz.ntmps10
      go_wp2_with fail
      rw [HW5.out, HW11.out, HW17.out, HW23.out, HZ6.out, HZ12.out, HZ18.out]
      clear HW5 HZ6 HW11 HZ12 HW17 HZ18 HW23 HZ24
      have HB := Lib.hid (Nat.le_refl w.heap.size)
      obtain ⟨R7, hR7⟩ : ∃ R, w.heap.size = R := ⟨_, rfl⟩
      rw [hR7] at Q7 ⊢
      have HR := Lib.hid (show X < R7 ∧ w.heap.size ≤ R7 ∧ R7 < x1.heap.size ∧ x1.heap.size < x7.heap.size ∧ x7.heap.size < x13.heap.size ∧ x13.heap.size < x19.heap.size by rw [← hR7]; exact HR.out)
      clear hR7
      obtain ⟨R8, hR8⟩ : ∃ R, x1.heap.size = R := ⟨_, rfl⟩
      rw [hR8] at Q8 HR ⊢
      clear hR8
      obtain ⟨R9, hR9⟩ : ∃ R, x7.heap.size = R := ⟨_, rfl⟩
      rw [hR9] at Q9 HR ⊢
      clear hR9
      obtain ⟨R11, hR11⟩ : ∃ R, x13.heap.size = R := ⟨_, rfl⟩
      rw [hR11] at Q11 HR ⊢
      clear hR11
      obtain ⟨w1069, hw1070, hb1071⟩ := drew_new x19
      have q1072 := H.out.later hb1071
      have q1073 := O.out.later hb1071
      have q1074 := Q8.out.later hb1071
      have q1075 := Q9.out.later hb1071
      have q1076 := Q11.out.later hb1071
      refine wp_region_held_drew (S := (fun w' => w'.cell? ⟨R11, 0, none⟩ = some (.bool false) ∧ w'.cell? ⟨R11, 1, none⟩ = some (.slice none 0 0) ∧ True)) (by kernel_rfl) (by rw [hw1070]; exact ⟨q1076.cell 0, q1076.cell 1, trivial⟩) (fun hHeld => ?_)
      rw [hw1070] at hHeld ⊢
      refine wpAnyH_take (i := 0) (oi := { dst := some 30, op := Op.load 29 (Operand.tmp 11), type := 29, pos := "ref.go:32", after := #[], guard := none }) (v := ?v1069) rfl (by kernel_rfl) (by kernel_rfl) (by kernel_rfl) (fun _ _ _ h => h) (Or.inl ⟨by rfl, ?hy1069⟩) (by assumption) ?rest1069
      case hy1069 => (intro w1 hSw; (try dsimp only at hSw); obtain ⟨h0, h1, -⟩ := hSw; go_simp; try with_reducible rfl)
      try simp only [Act.put, List.setIfInBounds_toArray, List.set_cons_zero, List.set_cons_succ]
      refine wpAnyH_take (i := 1) (oi := { dst := some 31, op := Op.load 29 (Operand.tmp 11), type := 29, pos := "ref.go:32", after := #[{ on := 2, ground := Ground.gcOnly Departure.lateStores }], guard := none }) (v := ?v1070) rfl (by kernel_rfl) (by kernel_rfl) (by kernel_rfl) (fun _ _ _ h => h) (Or.inl ⟨by rfl, ?hy1070⟩) (by assumption) ?rest1070
      case hy1070 => (intro w1 hSw; (try dsimp only at hSw); obtain ⟨h0, h1, -⟩ := hSw; go_simp; try with_reducible rfl)
      try simp only [Act.put, List.setIfInBounds_toArray, List.set_cons_zero, List.set_cons_succ]
      refine wpAnyH_ready (rs := [2]) (by kernel_rfl) (by simp) ?_
      refine AllReadyH.cons (o := { dst := none, op := Op.store 29 (Operand.tmp 8) (Operand.tmp 30), type := 0, pos := "ref.go:32", after := #[{ on := 0, ground := Ground.data }, { on := 0, ground := Ground.phase }, { on := 1, ground := Ground.textOnly Departure.lateStores }], guard := none }) rfl (fun K hK => ?_) AllReadyH.nil
      rw [if_pos (by rfl)]
      have c1079 := q1074.cell 0
      have c1080 := q1074.cell 1
      have z1081 := q1074.frozen 0
      have z1082 := q1074.frozen 1
      obtain ⟨wS1077, hS1078⟩ : ∃ w1, (w1069.setCell ⟨R8, 0, none⟩ (.bool false)).setCell ⟨R8, 1, none⟩ (.slice none 0 0) = w1 := ⟨_, rfl⟩
      have q1083 := q1072.set2 q1074 (by have := HR.out; omega) (.bool false) (.slice none 0 0)
      rw [hS1078] at q1083
      have q1084 := q1073.box (R := R8) (by have := HR.out; omega) (.bool false) (.slice none 0 0)
      rw [hS1078] at q1084
      have q1085 := q1075.setc (R := R8) (o := 0) (o' := 1) (by have := HR.out; omega) (.bool false) (.slice none 0 0)
      rw [hS1078] at q1085
      have q1086 := q1076.setc (R := R8) (o := 0) (o' := 1) (by have := HR.out; omega) (.bool false) (.slice none 0 0)
      rw [hS1078] at q1086
      have q1087 : Blk wS1077 R8 #[.bool false, .slice none 0 0] 29 := by rw [← hS1078]; exact (q1074.set 0 _).set 1 _
      go_simp
      try rw [hS1078]
      clear hS1078 c1079 c1080 z1081 z1082
      refine hK.out _ _ (⟨q1086.cell 0, q1086.cell 1, trivial⟩) (fun hHeld => ?_)
      clear hK K
      try simp only [Act.put, List.setIfInBounds_toArray, List.set_cons_zero, List.set_cons_succ]
      refine wpAnyH_ready (rs := [3]) (by kernel_rfl) (by simp) ?_
      refine AllReadyH.cons (o := { dst := none, op := Op.store 29 (Operand.tmp 9) (Operand.tmp 31), type := 0, pos := "ref.go:32", after := #[{ on := 1, ground := Ground.data }, { on := 2, ground := Ground.chain }, { on := 0, ground := Ground.phase }, { on := 1, ground := Ground.phase }, { on := 2, ground := Ground.phase }], guard := none }) rfl (fun K hK => ?_) AllReadyH.nil
      rw [if_pos (by rfl)]
      have c1090 := q1085.cell 0
      have c1091 := q1085.cell 1
      have z1092 := q1085.frozen 0
      have z1093 := q1085.frozen 1
      obtain ⟨wS1088, hS1089⟩ : ∃ w1, (wS1077.setCell ⟨R9, 0, none⟩ (.bool false)).setCell ⟨R9, 1, none⟩ (.slice none 0 0) = w1 := ⟨_, rfl⟩
      have q1094 := q1083.set2 q1085 (by have := HR.out; omega) (.bool false) (.slice none 0 0)
      rw [hS1089] at q1094
      have q1095 := q1084.box (R := R9) (by have := HR.out; omega) (.bool false) (.slice none 0 0)
      rw [hS1089] at q1095
      have q1096 := q1087.setc (R := R9) (o := 0) (o' := 1) (by have := HR.out; omega) (.bool false) (.slice none 0 0)
      rw [hS1089] at q1096
      have q1097 := q1086.setc (R := R9) (o := 0) (o' := 1) (by have := HR.out; omega) (.bool false) (.slice none 0 0)
      rw [hS1089] at q1097
      have q1098 : Blk wS1088 R9 #[.bool false, .slice none 0 0] 29 := by rw [← hS1089]; exact (q1085.set 0 _).set 1 _
      go_simp
      try rw [hS1089]
      clear hS1089 c1090 c1091 z1092 z1093
      refine hK.out _ _ (⟨q1097.cell 0, q1097.cell 1, trivial⟩) (fun hHeld => ?_)
      clear hK K
      try simp only [Act.put, List.setIfInBounds_toArray, List.set_cons_zero, List.set_cons_succ]
      refine wpAnyH_take (i := 4) (oi := { dst := some 10, op := Op.assign (Operand.const (Value.int IntKind.i64 1)), type := 3, pos := "ref.go:32", after := #[{ on := 3, ground := Ground.chain }, { on := 0, ground := Ground.phase }, { on := 1, ground := Ground.phase }, { on := 2, ground := Ground.phase }, { on := 3, ground := Ground.phase }], guard := none }) (v := ?v1071) rfl (by kernel_rfl) (by kernel_rfl) (by kernel_rfl) (fun _ _ _ h => h) (Or.inl ⟨by rfl, ?hy1071⟩) (by assumption) ?rest1071
      case hy1071 => (intro w1 hSw; (try dsimp only at hSw); obtain ⟨h0, h1, -⟩ := hSw; go_simp; try with_reducible rfl)
      try simp only [Act.put, List.setIfInBounds_toArray, List.set_cons_zero, List.set_cons_succ]
      refine wpAnyH_done (by kernel_rfl) ?_ _
      go_wp2_with fail
      have c1099 := q1096.cell 0
      have c1100 := q1096.cell 1
      have c1101 := q1098.cell 0
      have c1102 := q1098.cell 1
      exact bodyPost_ret (v := .tuple #[.agg #[.bool false, .slice none 0 0], .agg #[.bool false, .slice none 0 0], .int .i64 1]) (by simp [results, Tryz.results10, go_sem, c1099, c1100, c1101, c1102]) rfl (rset_ret HE.out (by decide) q1094 q1095)
    · go_enter Tryz.func10, Tryz.ntmps10
      go_wp2_with fail
      rw [HW5.out, HW11.out, HW17.out, HW23.out, HZ6.out, HZ12.out, HZ18.out]
      clear HW5 HZ6 HW11 HZ12 HW17 HZ18 HW23 HZ24
      have HB := Lib.hid (Nat.le_refl w.heap.size)
      obtain ⟨R7, hR7⟩ : ∃ R, w.heap.size = R := ⟨_, rfl⟩
      rw [hR7] at Q7 ⊢
      have HR := Lib.hid (show X < R7 ∧ w.heap.size ≤ R7 ∧ R7 < x1.heap.size ∧ x1.heap.size < x7.heap.size ∧ x7.heap.size < x13.heap.size ∧ x13.heap.size < x19.heap.size by rw [← hR7]; exact HR.out)
      clear hR7
      obtain ⟨R8, hR8⟩ : ∃ R, x1.heap.size = R := ⟨_, rfl⟩
      rw [hR8] at Q8 HR ⊢
      clear hR8
      obtain ⟨R9, hR9⟩ : ∃ R, x7.heap.size = R := ⟨_, rfl⟩
      rw [hR9] at Q9 HR ⊢
      clear hR9
      obtain ⟨R11, hR11⟩ : ∃ R, x13.heap.size = R := ⟨_, rfl⟩
      rw [hR11] at Q11 HR ⊢
      clear hR11
      obtain ⟨w1103, hw1104, hb1105⟩ := drew_new x19
      have q1106 := H.out.later hb1105
      have q1107 := O.out.later hb1105
      have q1108 := Q8.out.later hb1105
      have q1109 := Q9.out.later hb1105
      have q1110 := Q11.out.later hb1105
      refine wp_region_held_drew (S := (fun w' => w'.cell? ⟨R11, 0, none⟩ = some (.bool false) ∧ w'.cell? ⟨R11, 1, none⟩ = some (.slice none 0 0) ∧ True)) (by kernel_rfl) (by rw [hw1104]; exact ⟨q1110.cell 0, q1110.cell 1, trivial⟩) (fun hHeld => ?_)
      rw [hw1104] at hHeld ⊢
      refine wpAnyH_take (i := 0) (oi := { dst := some 30, op := Op.load 29 (Operand.tmp 11), type := 29, pos := "ref.go:32", after := #[], guard := none }) (v := ?v1103) rfl (by kernel_rfl) (by kernel_rfl) (by kernel_rfl) (fun _ _ _ h => h) (Or.inl ⟨by rfl, ?hy1103⟩) (by assumption) ?rest1103
      case hy1103 => (intro w1 hSw; (try dsimp only at hSw); obtain ⟨h0, h1, -⟩ := hSw; go_simp; try with_reducible rfl)
      try simp only [Act.put, List.setIfInBounds_toArray, List.set_cons_zero, List.set_cons_succ]
      refine wpAnyH_take (i := 1) (oi := { dst := some 31, op := Op.load 29 (Operand.tmp 11), type := 29, pos := "ref.go:32", after := #[{ on := 2, ground := Ground.gcOnly Departure.lateStores }], guard := none }) (v := ?v1104) rfl (by kernel_rfl) (by kernel_rfl) (by kernel_rfl) (fun _ _ _ h => h) (Or.inl ⟨by rfl, ?hy1104⟩) (by assumption) ?rest1104
      case hy1104 => (intro w1 hSw; (try dsimp only at hSw); obtain ⟨h0, h1, -⟩ := hSw; go_simp; try with_reducible rfl)
      try simp only [Act.put, List.setIfInBounds_toArray, List.set_cons_zero, List.set_cons_succ]
      refine wpAnyH_ready (rs := [2]) (by kernel_rfl) (by simp) ?_
      refine AllReadyH.cons (o := { dst := none, op := Op.store 29 (Operand.tmp 8) (Operand.tmp 30), type := 0, pos := "ref.go:32", after := #[{ on := 0, ground := Ground.data }, { on := 0, ground := Ground.phase }, { on := 1, ground := Ground.textOnly Departure.lateStores }], guard := none }) rfl (fun K hK => ?_) AllReadyH.nil
      rw [if_pos (by rfl)]
      have c1113 := q1108.cell 0
      have c1114 := q1108.cell 1
      have z1115 := q1108.frozen 0
      have z1116 := q1108.frozen 1
      obtain ⟨wS1111, hS1112⟩ : ∃ w1, (w1103.setCell ⟨R8, 0, none⟩ (.bool false)).setCell ⟨R8, 1, none⟩ (.slice none 0 0) = w1 := ⟨_, rfl⟩
      have q1117 := q1106.set2 q1108 (by have := HR.out; omega) (.bool false) (.slice none 0 0)
      rw [hS1112] at q1117
      have q1118 := q1107.box (R := R8) (by have := HR.out; omega) (.bool false) (.slice none 0 0)
      rw [hS1112] at q1118
      have q1119 := q1109.setc (R := R8) (o := 0) (o' := 1) (by have := HR.out; omega) (.bool false) (.slice none 0 0)
      rw [hS1112] at q1119
      have q1120 := q1110.setc (R := R8) (o := 0) (o' := 1) (by have := HR.out; omega) (.bool false) (.slice none 0 0)
      rw [hS1112] at q1120
      have q1121 : Blk wS1111 R8 #[.bool false, .slice none 0 0] 29 := by rw [← hS1112]; exact (q1108.set 0 _).set 1 _
      go_simp
      try rw [hS1112]
      clear hS1112 c1113 c1114 z1115 z1116
      refine hK.out _ _ (⟨q1120.cell 0, q1120.cell 1, trivial⟩) (fun hHeld => ?_)
      clear hK K
      try simp only [Act.put, List.setIfInBounds_toArray, List.set_cons_zero, List.set_cons_succ]
      refine wpAnyH_ready (rs := [3]) (by kernel_rfl) (by simp) ?_
      refine AllReadyH.cons (o := { dst := none, op := Op.store 29 (Operand.tmp 9) (Operand.tmp 31), type := 0, pos := "ref.go:32", after := #[{ on := 1, ground := Ground.data }, { on := 2, ground := Ground.chain }, { on := 0, ground := Ground.phase }, { on := 1, ground := Ground.phase }, { on := 2, ground := Ground.phase }], guard := none }) rfl (fun K hK => ?_) AllReadyH.nil
      rw [if_pos (by rfl)]
      have c1124 := q1119.cell 0
      have c1125 := q1119.cell 1
      have z1126 := q1119.frozen 0
      have z1127 := q1119.frozen 1
      obtain ⟨wS1122, hS1123⟩ : ∃ w1, (wS1111.setCell ⟨R9, 0, none⟩ (.bool false)).setCell ⟨R9, 1, none⟩ (.slice none 0 0) = w1 := ⟨_, rfl⟩
      have q1128 := q1117.set2 q1119 (by have := HR.out; omega) (.bool false) (.slice none 0 0)
      rw [hS1123] at q1128
      have q1129 := q1118.box (R := R9) (by have := HR.out; omega) (.bool false) (.slice none 0 0)
      rw [hS1123] at q1129
      have q1130 := q1121.setc (R := R9) (o := 0) (o' := 1) (by have := HR.out; omega) (.bool false) (.slice none 0 0)
      rw [hS1123] at q1130
      have q1131 := q1120.setc (R := R9) (o := 0) (o' := 1) (by have := HR.out; omega) (.bool false) (.slice none 0 0)
      rw [hS1123] at q1131
      have q1132 : Blk wS1122 R9 #[.bool false, .slice none 0 0] 29 := by rw [← hS1123]; exact (q1119.set 0 _).set 1 _
      go_simp
      try rw [hS1123]
      clear hS1123 c1124 c1125 z1126 z1127
      refine hK.out _ _ (⟨q1131.cell 0, q1131.cell 1, trivial⟩) (fun hHeld => ?_)
      clear hK K
      try simp only [Act.put, List.setIfInBounds_toArray, List.set_cons_zero, List.set_cons_succ]
      refine wpAnyH_take (i := 4) (oi := { dst := some 10, op := Op.assign (Operand.const (Value.int IntKind.i64 1)), type := 3, pos := "ref.go:32", after := #[{ on := 3, ground := Ground.chain }, { on := 0, ground := Ground.phase }, { on := 1, ground := Ground.phase }, { on := 2, ground := Ground.phase }, { on := 3, ground := Ground.phase }], guard := none }) (v := ?v1105) rfl (by kernel_rfl) (by kernel_rfl) (by kernel_rfl) (fun _ _ _ h => h) (Or.inl ⟨by rfl, ?hy1105⟩) (by assumption) ?rest1105
      case hy1105 => (intro w1 hSw; (try dsimp only at hSw); obtain ⟨h0, h1, -⟩ := hSw; go_simp; try with_reducible rfl)
      try simp only [Act.put, List.setIfInBounds_toArray, List.set_cons_zero, List.set_cons_succ]
      refine wpAnyH_done (by kernel_rfl) ?_ _
      go_wp2_with fail
      have c1133 := q1130.cell 0
      have c1134 := q1130.cell 1
      have c1135 := q1132.cell 0
      have c1136 := q1132.cell 1
      exact bodyPost_ret (v := .tuple #[.agg #[.bool false, .slice none 0 0], .agg #[.bool false, .slice none 0 0], .int .i64 1]) (by simp [results, Tryz.results10, go_sem, c1133, c1134, c1135, c1136]) rfl (rset_ret HE.out (by decide) q1128 q1129)
  · have hnb : badI i k = false := by simpa using hg
    obtain ⟨⟨i1, i2⟩, k1, k2⟩ := badI_no.1 hnb
    obtain ⟨im, rfl⟩ := Int.eq_ofNat_of_zero_le (show 0 ≤ i by omega)
    obtain ⟨km, rfl⟩ := Int.eq_ofNat_of_zero_le (show 0 ≤ k by omega)
    have d1 : ¬ (im : Int) < 1 := by omega
    have d2 : ¬ (32 : Int) < (im : Int) := by omega
    have d3 : ¬ (km : Int) < 1 := by omega
    have d4 : ¬ (5 : Int) < (km : Int) := by omega
    have b1 : (0 : Int) ≤ (im : Int) := by omega
    have b2 : (im : Int) < 33 := by omega
    have b3 : (0 : Int) ≤ (km : Int) := by omega
    have b4 : (km : Int) < 6 := by omega
    have HI := Lib.hid (show im < 33 ∧ km < 6 by omega)
    have HNB := Lib.hid hnb
    have HKB := Lib.hid hk
    clear hg hnb i1 i2 k1 k2 hk
    have hW2 := rfit_set HF.out HNB.out HS.out.1 HS.out.2.2 HS.out.2.1
    obtain ⟨V, hV⟩ : ∃ V, wset W im km ⟨sa, sl⟩ = V := ⟨_, rfl⟩
    rw [hV] at hW2
    have HF2 := Lib.hid hW2
    have HV := Lib.hid hV
    clear hW2 hV
    obtain ⟨P, hP⟩ : ∃ P, nList ⟨sa, sl⟩ = P := ⟨_, rfl⟩
    have hPl : P.length ≤ 201 := by rw [← hP]; have h1 := list_len (⟨sa, sl⟩ : Ns); have h2 := HS.out.2.1; dsimp only at h1; omega
    have HPf := Lib.hid (show NmFit P from list_fit (by omega) (fun x hx => rlist_len HS.out.2.2 (by rw [hP]; exact hx)))
    have HPo := Lib.hid (show nOf okN P = ⟨sa, sl⟩ by rw [← hP]; exact of_list HS.out.1)
    have HP := Lib.hid hP
    clear hP
    obtain ⟨ua, ul, hu⟩ : ∃ ua ul, uni W km = ⟨ua, ul⟩ := ⟨_, _, rfl⟩
    obtain ⟨va, vl, hv⟩ : ∃ va vl, uni V km = ⟨va, vl⟩ := ⟨_, _, rfl⟩
    have hu1 := uni_rfit HF.out km
    have hv1 := uni_rfit HF2.out km
    rw [hu] at hu1
    rw [hv] at hv1
    have HU := Lib.hid (And.intro hu hu1)
    have HVU := Lib.hid (And.intro hv hv1)
    clear hu hv hu1 hv1
    go_enter Tryz.func10, Tryz.ntmps10
    go_wp2_with fail
    rw [HW5.out, HW11.out, HW17.out, HW23.out, HZ6.out, HZ12.out, HZ18.out]
    clear HW5 HZ6 HW11 HZ12 HW17 HZ18 HW23 HZ24
    have HB := Lib.hid (Nat.le_refl w.heap.size)
    obtain ⟨R7, hR7⟩ : ∃ R, w.heap.size = R := ⟨_, rfl⟩
    rw [hR7] at Q7 ⊢
    have HR := Lib.hid (show X < R7 ∧ w.heap.size ≤ R7 ∧ R7 < x1.heap.size ∧ x1.heap.size < x7.heap.size ∧ x7.heap.size < x13.heap.size ∧ x13.heap.size < x19.heap.size by rw [← hR7]; exact HR.out)
    clear hR7
    obtain ⟨R8, hR8⟩ : ∃ R, x1.heap.size = R := ⟨_, rfl⟩
    rw [hR8] at Q8 HR ⊢
    clear hR8
    obtain ⟨R9, hR9⟩ : ∃ R, x7.heap.size = R := ⟨_, rfl⟩
    rw [hR9] at Q9 HR ⊢
    clear hR9
    obtain ⟨R11, hR11⟩ : ∃ R, x13.heap.size = R := ⟨_, rfl⟩
    rw [hR11] at Q11 HR ⊢
    clear hR11
    refine (rlist_any (sa := sa) (sl := sl) (L := P) Ts.out HP.out (by omega)).mono ?_
    rintro e w4 ⟨a4, c4, rfl, hrow, hb⟩
    dsimp only
    have H := Lib.hid (H.out.later hb)
    have O := Lib.hid (O.out.later hb)
    have Q7 := Lib.hid (Q7.out.later hb)
    have Q8 := Lib.hid (Q8.out.later hb)
    have Q9 := Lib.hid (Q9.out.later hb)
    have Q11 := Lib.hid (Q11.out.later hb)
    have Ts := Lib.hid (Ts.out.later hb)
    have T4 := Lib.hid (show TsAt w4 (.slice a4 P.length c4) P from RowV.own hrow)
    clear hrow hb
    go_wp2_with fail
    refine (refOf_any T4.out HPf.out (by omega) HPo.out).mono ?_
    rintro e w5 ⟨o7, d7, rfl, ht, hb⟩
    dsimp only
    have H := Lib.hid (H.out.later hb)
    have O := Lib.hid (O.out.later hb)
    have Q7 := Lib.hid (Q7.out.later hb)
    have Q8 := Lib.hid (Q8.out.later hb)
    have Q9 := Lib.hid (Q9.out.later hb)
    have Q11 := Lib.hid (Q11.out.later hb)
    have Ts := Lib.hid (Ts.out.later hb)
    have T4 := Lib.hid (T4.out.later hb)
    have T7 := Lib.hid ht
    clear ht hb T4 Ts
    have y0 := Q7.out.cell 0
    have y1 := Q7.out.cell 1
    have z0 := Q7.out.frozen 0
    have z1 := Q7.out.frozen 1
    simp only [List.getElem?_toArray, List.getElem?_cons_zero, List.getElem?_cons_succ] at y0 y1
    obtain ⟨wB25, hB26⟩ : ∃ w1, (w5.setCell ⟨R7, 0, none⟩ (.bool sa)).setCell ⟨R7, 1, none⟩ (.slice o7 sl.length d7) = w1 := ⟨_, rfl⟩
    have nH := H.out.set2 Q7.out (by have := HR.out; omega) (.bool sa) (.slice o7 sl.length d7)
    rw [hB26] at nH
    have nO := O.out.box (R := R7) (by have := HR.out; omega) (.bool sa) (.slice o7 sl.length d7)
    rw [hB26] at nO
    have nQ8 := Q8.out.setc (R := R7) (o := 0) (o' := 1) (by have := HR.out; omega) (.bool sa) (.slice o7 sl.length d7)
    rw [hB26] at nQ8
    have nQ9 := Q9.out.setc (R := R7) (o := 0) (o' := 1) (by have := HR.out; omega) (.bool sa) (.slice o7 sl.length d7)
    rw [hB26] at nQ9
    have nQ11 := Q11.out.setc (R := R7) (o := 0) (o' := 1) (by have := HR.out; omega) (.bool sa) (.slice o7 sl.length d7)
    rw [hB26] at nQ11
    have nT7 := T7.out.set2 (.bool sa) (.slice o7 sl.length d7) y0 y1
    rw [hB26] at nT7
    have nQ7 : Blk wB25 R7 #[.bool sa, .slice o7 sl.length d7] 29 := by rw [← hB26]; exact (Q7.out.set 0 _).set 1 _
    have H := Lib.hid nH
    have O := Lib.hid nO
    have Q7 := Lib.hid nQ7
    have Q8 := Lib.hid nQ8
    have Q9 := Lib.hid nQ9
    have Q11 := Lib.hid nQ11
    have T7 := Lib.hid nT7
    clear nH nO nQ7 nQ8 nQ9 nQ11 nT7
    have HWB := Lib.hid hB26
    clear hB26
    go_wp2_with (rw [HWB.out])
    clear HWB y0 y1 z0 z1
    refine (runi_any H.out HF.out HKB.out HU.out.1).mono ?_
    rintro e w6 ⟨ou, du, rfl, ht, hb⟩
    dsimp only
    have H := Lib.hid (H.out.later hb)
    have O := Lib.hid (O.out.later hb)
    have Q7 := Lib.hid (Q7.out.later hb)
    have Q8 := Lib.hid (Q8.out.later hb)
    have Q9 := Lib.hid (Q9.out.later hb)
    have Q11 := Lib.hid (Q11.out.later hb)
    have T7 := Lib.hid (T7.out.later hb)
    have Tu := Lib.hid ht
    clear ht hb
    have HZ12 := Lib.hid Q9.out.lt
    have HN12 := Lib.hid (Nat.lt_of_lt_of_le HX.out (show w.grownBy _ _ from O.out).size)
    obtain ⟨x27, hw28, hb29, hq30⟩ := alloc_new w6 #[.bool ua, .slice ou ul.length du] 29
    have H := Lib.hid (H.out.later hb29)
    have O := Lib.hid (O.out.later hb29)
    have Q7 := Lib.hid (Q7.out.later hb29)
    have Q8 := Lib.hid (Q8.out.later hb29)
    have Q9 := Lib.hid (Q9.out.later hb29)
    have Q11 := Lib.hid (Q11.out.later hb29)
    have T7 := Lib.hid (T7.out.later hb29)
    have Tu := Lib.hid (Tu.out.later hb29)
    have Q12 := Lib.hid hq30
    have HW31 := Lib.hid hw28
    have HZ32 := Lib.hid (show w6.heap.size + 1 = x27.heap.size by rw [← hw28]; simp)
    clear hw28 hb29 hq30
    obtain ⟨aw, cw, p0, p1, htw⟩ := H.out.at (i := im) (k := km) HI.out.1 HI.out.2
    have Tw := Lib.hid htw
    clear htw
    obtain ⟨wa, wl, hww⟩ : ∃ wa wl, W im km = ⟨wa, wl⟩ := ⟨_, _, rfl⟩
    rw [hww] at p0 p1 Tw
    have HWW := Lib.hid hww
    clear hww
    dsimp only at p0 p1 Tw
    have HN13 := Lib.hid (Nat.lt_of_lt_of_le HX.out (show w.grownBy _ _ from O.out).size)
    obtain ⟨x33, hw34, hb35, hq36⟩ := alloc_new x27 #[.bool wa, .slice aw wl.length cw] 29
    have H := Lib.hid (H.out.later hb35)
    have O := Lib.hid (O.out.later hb35)
    have Q7 := Lib.hid (Q7.out.later hb35)
    have Q8 := Lib.hid (Q8.out.later hb35)
    have Q9 := Lib.hid (Q9.out.later hb35)
    have Q11 := Lib.hid (Q11.out.later hb35)
    have Q12 := Lib.hid (Q12.out.later hb35)
    have T7 := Lib.hid (T7.out.later hb35)
    have Tu := Lib.hid (Tu.out.later hb35)
    have Tw := Lib.hid (Tw.out.later hb35)
    have Q13 := Lib.hid hq36
    have HW37 := Lib.hid hw34
    have HZ38 := Lib.hid (show x27.heap.size + 1 = x33.heap.size by rw [← hw34]; simp)
    clear hw34 hb35 hq36
    go_wp2_with (first | rw [HW31.out] | rw [HW37.out])
    clear HW31 HZ32 HW37 HZ38 p0 p1
    obtain ⟨R12, hR12⟩ : ∃ R, w6.heap.size = R := ⟨_, rfl⟩
    rw [hR12] at Q12 HN12 HZ12 ⊢
    clear hR12
    obtain ⟨R13, hR13⟩ : ∃ R, x27.heap.size = R := ⟨_, rfl⟩
    rw [hR13] at Q13 HN13 ⊢
    clear hR13
    obtain ⟨w1137, hw1138, hb1139⟩ := drew_new x33
    have q1140 := H.out.later hb1139
    have q1141 := O.out.later hb1139
    have q1142 := Q7.out.later hb1139
    have q1143 := Q8.out.later hb1139
    have q1144 := Q9.out.later hb1139
    have q1145 := Q11.out.later hb1139
    have q1146 := Q12.out.later hb1139
    have q1147 := Q13.out.later hb1139
    have q1148 := T7.out.later hb1139
    have q1149 := Tu.out.later hb1139
    have q1150 := Tw.out.later hb1139
    refine wp_region_held_drew (S := (fun w' => w'.cell? ⟨R7, 0, none⟩ = some (.bool sa) ∧ w'.cell? ⟨R7, 1, none⟩ = some (.slice o7 sl.length d7) ∧ True)) (by kernel_rfl) (by rw [hw1138]; exact ⟨q1142.cell 0, q1142.cell 1, trivial⟩) (fun hHeld => ?_)
    rw [hw1138] at hHeld ⊢
    refine wpAnyH_take (i := 0) (oi := { dst := some 46, op := Op.move (Operand.tmp 0), type := 26, pos := "ref.go:37", after := #[], guard := none }) (v := ?v1137) rfl (by kernel_rfl) (by kernel_rfl) (by kernel_rfl) (fun _ _ _ h => h) (Or.inl ⟨by rfl, ?hy1137⟩) (by assumption) ?rest1137
    case hy1137 => (intro w1 hSw; (try dsimp only at hSw); obtain ⟨h0, h1, -⟩ := hSw; go_simp; try with_reducible rfl)
    try simp only [Act.put, List.setIfInBounds_toArray, List.set_cons_zero, List.set_cons_succ]
    refine wpAnyH_take (i := 1) (oi := { dst := some 47, op := Op.move (Operand.tmp 1), type := 3, pos := "ref.go:37", after := #[], guard := none }) (v := ?v1138) rfl (by kernel_rfl) (by kernel_rfl) (by kernel_rfl) (fun _ _ _ h => h) (Or.inl ⟨by rfl, ?hy1138⟩) (by assumption) ?rest1138
    case hy1138 => (intro w1 hSw; (try dsimp only at hSw); obtain ⟨h0, h1, -⟩ := hSw; go_simp; try with_reducible rfl)
    try simp only [Act.put, List.setIfInBounds_toArray, List.set_cons_zero, List.set_cons_succ]
    refine wpAnyH_take (i := 2) (oi := { dst := some 48, op := Op.move (Operand.tmp 2), type := 3, pos := "ref.go:37", after := #[], guard := none }) (v := ?v1139) rfl (by kernel_rfl) (by kernel_rfl) (by kernel_rfl) (fun _ _ _ h => h) (Or.inl ⟨by rfl, ?hy1139⟩) (by assumption) ?rest1139
    case hy1139 => (intro w1 hSw; (try dsimp only at hSw); obtain ⟨h0, h1, -⟩ := hSw; go_simp; try with_reducible rfl)
    try simp only [Act.put, List.setIfInBounds_toArray, List.set_cons_zero, List.set_cons_succ]
    refine wpAnyH_take (i := 3) (oi := { dst := some 49, op := Op.load 29 (Operand.tmp 7), type := 29, pos := "ref.go:37", after := #[], guard := none }) (v := ?v1140) rfl (by kernel_rfl) (by kernel_rfl) (by kernel_rfl) (fun _ _ _ h => h) (Or.inl ⟨by rfl, ?hy1140⟩) (by assumption) ?rest1140
    case hy1140 => (intro w1 hSw; (try dsimp only at hSw); obtain ⟨h0, h1, -⟩ := hSw; go_simp; try with_reducible rfl)
    try simp only [Act.put, List.setIfInBounds_toArray, List.set_cons_zero, List.set_cons_succ]
    refine wpAnyH_take (i := 4) (oi := { dst := some 50, op := Op.nilCheck (Operand.tmp 46), type := 0, pos := "ref.go:37", after := #[{ on := 0, ground := Ground.data }], guard := none }) (v := ?v1141) rfl (by kernel_rfl) (by kernel_rfl) (by kernel_rfl) (fun _ _ _ h => h) (Or.inl ⟨by rfl, ?hy1141⟩) (by assumption) ?rest1141
    case hy1141 => (intro w1 hSw; (try dsimp only at hSw); obtain ⟨h0, h1, -⟩ := hSw; go_simp; try with_reducible rfl)
    try simp only [Act.put, List.setIfInBounds_toArray, List.set_cons_zero, List.set_cons_succ]
    refine wpAnyH_take (i := 5) (oi := { dst := some 51, op := Op.fieldAddr 33 (Operand.tmp 50) 0, type := 0, pos := "ref.go:37", after := #[{ on := 4, ground := Ground.data }], guard := none }) (v := ?v1142) rfl (by kernel_rfl) (by kernel_rfl) (by kernel_rfl) (fun _ _ _ h => h) (Or.inl ⟨by rfl, ?hy1142⟩) (by assumption) ?rest1142
    case hy1142 => (intro w1 hSw; (try dsimp only at hSw); obtain ⟨h0, h1, -⟩ := hSw; go_simp; try with_reducible rfl)
    try simp only [Act.put, List.setIfInBounds_toArray, List.set_cons_zero, List.set_cons_succ]
    refine wpAnyH_take (i := 6) (oi := { dst := some 52, op := Op.indexAddr 31 (Operand.tmp 51) (Operand.tmp 47), type := 0, pos := "ref.go:37", after := #[{ on := 5, ground := Ground.data }, { on := 1, ground := Ground.data }], guard := none }) (v := ?v1143) rfl (by kernel_rfl) (by kernel_rfl) (by kernel_rfl) (fun _ _ _ h => h) (Or.inl ⟨by rfl, ?hy1143⟩) (by assumption) ?rest1143
    case hy1143 => (intro w1 hSw; (try dsimp only at hSw); obtain ⟨h0, h1, -⟩ := hSw; go_simp; try with_reducible rfl)
    try simp only [Act.put, List.setIfInBounds_toArray, List.set_cons_zero, List.set_cons_succ]
    refine wpAnyH_take (i := 7) (oi := { dst := some 53, op := Op.indexAddr 30 (Operand.tmp 52) (Operand.tmp 48), type := 0, pos := "ref.go:37", after := #[{ on := 6, ground := Ground.data }, { on := 2, ground := Ground.data }, { on := 0, ground := Ground.phase }, { on := 1, ground := Ground.phase }, { on := 2, ground := Ground.phase }, { on := 3, ground := Ground.phase }], guard := none }) (v := ?v1144) rfl (by kernel_rfl) (by kernel_rfl) (by kernel_rfl) (fun _ _ _ h => h) (Or.inl ⟨by rfl, ?hy1144⟩) (by assumption) ?rest1144
    case hy1144 => (intro w1 hSw; (try dsimp only at hSw); obtain ⟨h0, h1, -⟩ := hSw; go_simp; try with_reducible rfl)
    try simp only [Act.put, List.setIfInBounds_toArray, List.set_cons_zero, List.set_cons_succ]
    refine wpAnyH_ready (rs := [8]) (by kernel_rfl) (by simp) ?_
    refine AllReadyH.cons (o := { dst := none, op := Op.store 29 (Operand.tmp 53) (Operand.tmp 49), type := 0, pos := "ref.go:37", after := #[{ on := 7, ground := Ground.data }, { on := 3, ground := Ground.data }, { on := 0, ground := Ground.phase }, { on := 1, ground := Ground.phase }, { on := 2, ground := Ground.phase }, { on := 3, ground := Ground.phase }], guard := none }) rfl (fun K hK => ?_) AllReadyH.nil
    rw [if_pos (by rfl)]
    obtain ⟨xa, xc, p1154, p1155, -⟩ := q1140.at (i := im) (k := km) HI.out.1 HI.out.2
    have z1156 := q1140.frozen (im * 12 + km * 2)
    have z1157 := q1140.frozen (im * 12 + km * 2 + 1)
    obtain ⟨wX1151, hX1152⟩ : ∃ w1, (w1137.setCell ⟨X, im * 12 + km * 2, none⟩ (.bool sa)).setCell ⟨X, im * 12 + km * 2 + 1, none⟩ (.slice o7 sl.length d7) = w1 := ⟨_, rfl⟩
    have hG1153 : OnlyX X w1137 wX1151 := by rw [← hX1152]; exact grown_setc _ _ _ _ _ _
    have q1158 := q1141.trans hG1153
    have q1159 := q1142.only hG1153 (by have := HR.out; omega)
    have q1160 := q1143.only hG1153 (by have := HR.out; omega)
    have q1161 := q1144.only hG1153 (by have := HR.out; omega)
    have q1162 := q1145.only hG1153 (by have := HR.out; omega)
    have q1163 := q1146.only hG1153 (Nat.ne_of_gt HN12.out)
    have q1164 := q1147.only hG1153 (Nat.ne_of_gt HN13.out)
    have q1165 := q1140.ts hG1153 q1148
    have q1166 := q1140.ts hG1153 q1149
    have q1167 := q1140.ts hG1153 q1150
    have q1168 : RfM wX1151 X (wset W (im : Int) (km : Int) ⟨sa, sl⟩) := by rw [← hX1152]; exact q1140.put HI.out.1 HI.out.2 (s := ⟨sa, sl⟩) q1148
    go_simp
    try rw [hX1152]
    clear hX1152 p1154 p1155 z1156 z1157
    refine hK.out _ _ (⟨q1159.cell 0, q1159.cell 1, trivial⟩) (fun hHeld => ?_)
    clear hK K
    refine wpAnyH_done (by kernel_rfl) ?_ _
    have H := Lib.hid q1168
    have O := Lib.hid q1158
    have Q7 := Lib.hid q1159
    have Q8 := Lib.hid q1160
    have Q9 := Lib.hid q1161
    have Q11 := Lib.hid q1162
    have Q12 := Lib.hid q1163
    have Q13 := Lib.hid q1164
    have T7 := Lib.hid q1165
    have Tu := Lib.hid q1166
    have Tw := Lib.hid q1167
    clear q1168 q1158 q1159 q1160 q1161 q1162 q1163 q1164 q1165 q1166 q1167
    obtain ⟨wq, hwq⟩ : ∃ w1 : World, wX1151 = w1 := ⟨_, rfl⟩
    rw [hwq] at H O Q7 Q8 Q9 Q11 Q12 Q13 T7 Tu Tw ⊢
    clear hwq
    rw [HV.out] at H
    go_wp2_with fail
    refine (runi_any H.out HF2.out HKB.out HVU.out.1).mono ?_
    rintro e w8 ⟨ov, dv, rfl, ht, hb⟩
    dsimp only
    have H := Lib.hid (H.out.later hb)
    have O := Lib.hid (O.out.later hb)
    have Q7 := Lib.hid (Q7.out.later hb)
    have Q8 := Lib.hid (Q8.out.later hb)
    have Q9 := Lib.hid (Q9.out.later hb)
    have Q11 := Lib.hid (Q11.out.later hb)
    have Q12 := Lib.hid (Q12.out.later hb)
    have Q13 := Lib.hid (Q13.out.later hb)
    have T7 := Lib.hid (T7.out.later hb)
    have Tu := Lib.hid (Tu.out.later hb)
    have Tw := Lib.hid (Tw.out.later hb)
    have Tv := Lib.hid ht
    clear ht hb
    have HZ14 := Lib.hid Q9.out.lt
    have HN14 := Lib.hid (Nat.lt_of_lt_of_le HX.out (show w.grownBy _ _ from O.out).size)
    obtain ⟨x39, hw40, hb41, hq42⟩ := alloc_new w8 #[.bool va, .slice ov vl.length dv] 29
    have H := Lib.hid (H.out.later hb41)
    have O := Lib.hid (O.out.later hb41)
    have Q7 := Lib.hid (Q7.out.later hb41)
    have Q8 := Lib.hid (Q8.out.later hb41)
    have Q9 := Lib.hid (Q9.out.later hb41)
    have Q11 := Lib.hid (Q11.out.later hb41)
    have Q12 := Lib.hid (Q12.out.later hb41)
    have Q13 := Lib.hid (Q13.out.later hb41)
    have T7 := Lib.hid (T7.out.later hb41)
    have Tu := Lib.hid (Tu.out.later hb41)
    have Tw := Lib.hid (Tw.out.later hb41)
    have Tv := Lib.hid (Tv.out.later hb41)
    have Q14 := Lib.hid hq42
    have HW43 := Lib.hid hw40
    have HZ44 := Lib.hid (show w8.heap.size + 1 = x39.heap.size by rw [← hw40]; simp)
    clear hw40 hb41 hq42
    have y0 : x39.cell? ⟨R7, 0, none⟩ = some (.bool sa) := Q7.out.cell 0
    have y1 : x39.cell? ⟨R7, 1, none⟩ = some (.slice o7 sl.length d7) := Q7.out.cell 1
    go_wp2_with (rw [HW43.out])
    clear HW43 HZ44 y0 y1
    obtain ⟨R14, hR14⟩ : ∃ R, w8.heap.size = R := ⟨_, rfl⟩
    rw [hR14] at Q14 HN14 HZ14 ⊢
    clear hR14
    have HN9 := Lib.hid (And.intro HZ12.out HZ14.out)
    refine (rlist_any (sa := sa) (sl := sl) (L := P) T7.out HP.out (by omega)).mono ?_
    rintro e w9 ⟨a9, c9, rfl, -, hb⟩
    dsimp only
    have H := Lib.hid (H.out.later hb)
    have O := Lib.hid (O.out.later hb)
    have Q7 := Lib.hid (Q7.out.later hb)
    have Q8 := Lib.hid (Q8.out.later hb)
    have Q9 := Lib.hid (Q9.out.later hb)
    have Q11 := Lib.hid (Q11.out.later hb)
    have Q12 := Lib.hid (Q12.out.later hb)
    have Q13 := Lib.hid (Q13.out.later hb)
    have Q14 := Lib.hid (Q14.out.later hb)
    have T7 := Lib.hid (T7.out.later hb)
    have Tu := Lib.hid (Tu.out.later hb)
    have Tw := Lib.hid (Tw.out.later hb)
    have Tv := Lib.hid (Tv.out.later hb)
    clear hb T7
    by_cases h64 : 64 < P.length
    · have x1 : (64 : Int) < (P.length : Int) := by omega
      have HE := Lib.hid (show setE W (im : Int) (km : Int) ⟨sa, sl⟩ = 4 by unfold setE; rw [if_neg (by rw [HNB.out]; decide), if_pos (by rw [HP.out]; exact h64)])
      clear h64
      go_wp2_with fail
      obtain ⟨w1169, hw1170, hb1171⟩ := drew_new w9
      have q1172 := H.out.later hb1171
      have q1173 := O.out.later hb1171
      have q1174 := Q8.out.later hb1171
      have q1175 := Q9.out.later hb1171
      have q1176 := Q11.out.later hb1171
      have q1177 := Q13.out.later hb1171
      have q1178 := Tw.out.later hb1171
      refine wp_region_held_drew (S := (fun w' => w'.cell? ⟨R13, 0, none⟩ = some (.bool wa) ∧ w'.cell? ⟨R13, 1, none⟩ = some (.slice aw wl.length cw) ∧ True)) (by kernel_rfl) (by rw [hw1170]; exact ⟨q1177.cell 0, q1177.cell 1, trivial⟩) (fun hHeld => ?_)
      rw [hw1170] at hHeld ⊢
      refine wpAnyH_take (i := 0) (oi := { dst := some 67, op := Op.move (Operand.tmp 0), type := 26, pos := "ref.go:40", after := #[], guard := none }) (v := ?v1169) rfl (by kernel_rfl) (by kernel_rfl) (by kernel_rfl) (fun _ _ _ h => h) (Or.inl ⟨by rfl, ?hy1169⟩) (by assumption) ?rest1169
      case hy1169 => (intro w1 hSw; (try dsimp only at hSw); obtain ⟨h0, h1, -⟩ := hSw; go_simp; try with_reducible rfl)
      try simp only [Act.put, List.setIfInBounds_toArray, List.set_cons_zero, List.set_cons_succ]
      refine wpAnyH_take (i := 1) (oi := { dst := some 68, op := Op.move (Operand.tmp 1), type := 3, pos := "ref.go:40", after := #[], guard := none }) (v := ?v1170) rfl (by kernel_rfl) (by kernel_rfl) (by kernel_rfl) (fun _ _ _ h => h) (Or.inl ⟨by rfl, ?hy1170⟩) (by assumption) ?rest1170
      case hy1170 => (intro w1 hSw; (try dsimp only at hSw); obtain ⟨h0, h1, -⟩ := hSw; go_simp; try with_reducible rfl)
      try simp only [Act.put, List.setIfInBounds_toArray, List.set_cons_zero, List.set_cons_succ]
      refine wpAnyH_take (i := 2) (oi := { dst := some 69, op := Op.move (Operand.tmp 2), type := 3, pos := "ref.go:40", after := #[], guard := none }) (v := ?v1171) rfl (by kernel_rfl) (by kernel_rfl) (by kernel_rfl) (fun _ _ _ h => h) (Or.inl ⟨by rfl, ?hy1171⟩) (by assumption) ?rest1171
      case hy1171 => (intro w1 hSw; (try dsimp only at hSw); obtain ⟨h0, h1, -⟩ := hSw; go_simp; try with_reducible rfl)
      try simp only [Act.put, List.setIfInBounds_toArray, List.set_cons_zero, List.set_cons_succ]
      refine wpAnyH_take (i := 3) (oi := { dst := some 70, op := Op.load 29 (Operand.tmp 13), type := 29, pos := "ref.go:40", after := #[], guard := none }) (v := ?v1172) rfl (by kernel_rfl) (by kernel_rfl) (by kernel_rfl) (fun _ _ _ h => h) (Or.inl ⟨by rfl, ?hy1172⟩) (by assumption) ?rest1172
      case hy1172 => (intro w1 hSw; (try dsimp only at hSw); obtain ⟨h0, h1, -⟩ := hSw; go_simp; try with_reducible rfl)
      try simp only [Act.put, List.setIfInBounds_toArray, List.set_cons_zero, List.set_cons_succ]
      refine wpAnyH_take (i := 4) (oi := { dst := some 71, op := Op.nilCheck (Operand.tmp 67), type := 0, pos := "ref.go:40", after := #[{ on := 0, ground := Ground.data }], guard := none }) (v := ?v1173) rfl (by kernel_rfl) (by kernel_rfl) (by kernel_rfl) (fun _ _ _ h => h) (Or.inl ⟨by rfl, ?hy1173⟩) (by assumption) ?rest1173
      case hy1173 => (intro w1 hSw; (try dsimp only at hSw); obtain ⟨h0, h1, -⟩ := hSw; go_simp; try with_reducible rfl)
      try simp only [Act.put, List.setIfInBounds_toArray, List.set_cons_zero, List.set_cons_succ]
      refine wpAnyH_take (i := 5) (oi := { dst := some 72, op := Op.fieldAddr 33 (Operand.tmp 71) 0, type := 0, pos := "ref.go:40", after := #[{ on := 4, ground := Ground.data }], guard := none }) (v := ?v1174) rfl (by kernel_rfl) (by kernel_rfl) (by kernel_rfl) (fun _ _ _ h => h) (Or.inl ⟨by rfl, ?hy1174⟩) (by assumption) ?rest1174
      case hy1174 => (intro w1 hSw; (try dsimp only at hSw); obtain ⟨h0, h1, -⟩ := hSw; go_simp; try with_reducible rfl)
      try simp only [Act.put, List.setIfInBounds_toArray, List.set_cons_zero, List.set_cons_succ]
      refine wpAnyH_take (i := 6) (oi := { dst := some 73, op := Op.indexAddr 31 (Operand.tmp 72) (Operand.tmp 68), type := 0, pos := "ref.go:40", after := #[{ on := 5, ground := Ground.data }, { on := 1, ground := Ground.data }], guard := none }) (v := ?v1175) rfl (by kernel_rfl) (by kernel_rfl) (by kernel_rfl) (fun _ _ _ h => h) (Or.inl ⟨by rfl, ?hy1175⟩) (by assumption) ?rest1175
      case hy1175 => (intro w1 hSw; (try dsimp only at hSw); obtain ⟨h0, h1, -⟩ := hSw; go_simp; try with_reducible rfl)
      try simp only [Act.put, List.setIfInBounds_toArray, List.set_cons_zero, List.set_cons_succ]
      refine wpAnyH_take (i := 7) (oi := { dst := some 74, op := Op.indexAddr 30 (Operand.tmp 73) (Operand.tmp 69), type := 0, pos := "ref.go:40", after := #[{ on := 6, ground := Ground.data }, { on := 2, ground := Ground.data }, { on := 0, ground := Ground.phase }, { on := 1, ground := Ground.phase }, { on := 2, ground := Ground.phase }, { on := 3, ground := Ground.phase }], guard := none }) (v := ?v1176) rfl (by kernel_rfl) (by kernel_rfl) (by kernel_rfl) (fun _ _ _ h => h) (Or.inl ⟨by rfl, ?hy1176⟩) (by assumption) ?rest1176
      case hy1176 => (intro w1 hSw; (try dsimp only at hSw); obtain ⟨h0, h1, -⟩ := hSw; go_simp; try with_reducible rfl)
      try simp only [Act.put, List.setIfInBounds_toArray, List.set_cons_zero, List.set_cons_succ]
      refine wpAnyH_ready (rs := [8]) (by kernel_rfl) (by simp) ?_
      refine AllReadyH.cons (o := { dst := none, op := Op.store 29 (Operand.tmp 74) (Operand.tmp 70), type := 0, pos := "ref.go:40", after := #[{ on := 7, ground := Ground.data }, { on := 3, ground := Ground.data }, { on := 0, ground := Ground.phase }, { on := 1, ground := Ground.phase }, { on := 2, ground := Ground.phase }, { on := 3, ground := Ground.phase }], guard := none }) rfl (fun K hK => ?_) AllReadyH.nil
      rw [if_pos (by rfl)]
      obtain ⟨xa, xc, p1182, p1183, -⟩ := q1172.at (i := im) (k := km) HI.out.1 HI.out.2
      have z1184 := q1172.frozen (im * 12 + km * 2)
      have z1185 := q1172.frozen (im * 12 + km * 2 + 1)
      obtain ⟨wX1179, hX1180⟩ : ∃ w1, (w1169.setCell ⟨X, im * 12 + km * 2, none⟩ (.bool wa)).setCell ⟨X, im * 12 + km * 2 + 1, none⟩ (.slice aw wl.length cw) = w1 := ⟨_, rfl⟩
      have hG1181 : OnlyX X w1169 wX1179 := by rw [← hX1180]; exact grown_setc _ _ _ _ _ _
      have q1186 := q1173.trans hG1181
      have q1187 := q1174.only hG1181 (by have := HR.out; omega)
      have q1188 := q1175.only hG1181 (by have := HR.out; omega)
      have q1189 := q1176.only hG1181 (by have := HR.out; omega)
      have q1190 := q1177.only hG1181 (Nat.ne_of_gt HN13.out)
      have q1191 := q1172.ts hG1181 q1178
      have q1192 : RfM wX1179 X (wset V (im : Int) (km : Int) ⟨wa, wl⟩) := by rw [← hX1180]; exact q1172.put HI.out.1 HI.out.2 (s := ⟨wa, wl⟩) q1178
      go_simp
      try rw [hX1180]
      clear hX1180 p1182 p1183 z1184 z1185
      refine hK.out _ _ (⟨q1190.cell 0, q1190.cell 1, trivial⟩) (fun hHeld => ?_)
      clear hK K
      refine wpAnyH_done (by kernel_rfl) ?_ _
      have H := Lib.hid q1192
      have O := Lib.hid q1186
      have Q8 := Lib.hid q1187
      have Q9 := Lib.hid q1188
      have Q11 := Lib.hid q1189
      have Q13 := Lib.hid q1190
      have Tw := Lib.hid q1191
      clear q1192 q1186 q1187 q1188 q1189 q1190 q1191
      obtain ⟨wq, hwq⟩ : ∃ w1 : World, wX1179 = w1 := ⟨_, rfl⟩
      rw [hwq] at H O Q8 Q9 Q11 Q13 Tw ⊢
      clear hwq
      have hback : wset V (im : Int) (km : Int) ⟨wa, wl⟩ = W := by rw [← HWW.out, ← HV.out]; exact wset_back _ _ _ _
      rw [hback] at H
      clear hback
      go_wp2_with fail
      obtain ⟨w1193, hw1194, hb1195⟩ := drew_new wq
      have q1196 := H.out.later hb1195
      have q1197 := O.out.later hb1195
      have q1198 := Q8.out.later hb1195
      have q1199 := Q9.out.later hb1195
      have q1200 := Q11.out.later hb1195
      refine wp_region_held_drew (S := (fun w' => w'.cell? ⟨R11, 0, none⟩ = some (.bool false) ∧ w'.cell? ⟨R11, 1, none⟩ = some (.slice none 0 0) ∧ True)) (by kernel_rfl) (by rw [hw1194]; exact ⟨q1200.cell 0, q1200.cell 1, trivial⟩) (fun hHeld => ?_)
      rw [hw1194] at hHeld ⊢
      refine wpAnyH_take (i := 0) (oi := { dst := some 75, op := Op.load 29 (Operand.tmp 11), type := 29, pos := "ref.go:41", after := #[], guard := none }) (v := ?v1193) rfl (by kernel_rfl) (by kernel_rfl) (by kernel_rfl) (fun _ _ _ h => h) (Or.inl ⟨by rfl, ?hy1193⟩) (by assumption) ?rest1193
      case hy1193 => (intro w1 hSw; (try dsimp only at hSw); obtain ⟨h0, h1, -⟩ := hSw; go_simp; try with_reducible rfl)
      try simp only [Act.put, List.setIfInBounds_toArray, List.set_cons_zero, List.set_cons_succ]
      refine wpAnyH_take (i := 1) (oi := { dst := some 76, op := Op.load 29 (Operand.tmp 11), type := 29, pos := "ref.go:41", after := #[{ on := 2, ground := Ground.gcOnly Departure.lateStores }], guard := none }) (v := ?v1194) rfl (by kernel_rfl) (by kernel_rfl) (by kernel_rfl) (fun _ _ _ h => h) (Or.inl ⟨by rfl, ?hy1194⟩) (by assumption) ?rest1194
      case hy1194 => (intro w1 hSw; (try dsimp only at hSw); obtain ⟨h0, h1, -⟩ := hSw; go_simp; try with_reducible rfl)
      try simp only [Act.put, List.setIfInBounds_toArray, List.set_cons_zero, List.set_cons_succ]
      refine wpAnyH_ready (rs := [2]) (by kernel_rfl) (by simp) ?_
      refine AllReadyH.cons (o := { dst := none, op := Op.store 29 (Operand.tmp 8) (Operand.tmp 75), type := 0, pos := "ref.go:41", after := #[{ on := 0, ground := Ground.data }, { on := 0, ground := Ground.phase }, { on := 1, ground := Ground.textOnly Departure.lateStores }], guard := none }) rfl (fun K hK => ?_) AllReadyH.nil
      rw [if_pos (by rfl)]
      have c1203 := q1198.cell 0
      have c1204 := q1198.cell 1
      have z1205 := q1198.frozen 0
      have z1206 := q1198.frozen 1
      obtain ⟨wS1201, hS1202⟩ : ∃ w1, (w1193.setCell ⟨R8, 0, none⟩ (.bool false)).setCell ⟨R8, 1, none⟩ (.slice none 0 0) = w1 := ⟨_, rfl⟩
      have q1207 := q1196.set2 q1198 (by have := HR.out; omega) (.bool false) (.slice none 0 0)
      rw [hS1202] at q1207
      have q1208 := q1197.box (R := R8) (by have := HR.out; omega) (.bool false) (.slice none 0 0)
      rw [hS1202] at q1208
      have q1209 := q1199.setc (R := R8) (o := 0) (o' := 1) (by have := HR.out; omega) (.bool false) (.slice none 0 0)
      rw [hS1202] at q1209
      have q1210 := q1200.setc (R := R8) (o := 0) (o' := 1) (by have := HR.out; omega) (.bool false) (.slice none 0 0)
      rw [hS1202] at q1210
      have q1211 : Blk wS1201 R8 #[.bool false, .slice none 0 0] 29 := by rw [← hS1202]; exact (q1198.set 0 _).set 1 _
      go_simp
      try rw [hS1202]
      clear hS1202 c1203 c1204 z1205 z1206
      refine hK.out _ _ (⟨q1210.cell 0, q1210.cell 1, trivial⟩) (fun hHeld => ?_)
      clear hK K
      try simp only [Act.put, List.setIfInBounds_toArray, List.set_cons_zero, List.set_cons_succ]
      refine wpAnyH_ready (rs := [3]) (by kernel_rfl) (by simp) ?_
      refine AllReadyH.cons (o := { dst := none, op := Op.store 29 (Operand.tmp 9) (Operand.tmp 76), type := 0, pos := "ref.go:41", after := #[{ on := 1, ground := Ground.data }, { on := 2, ground := Ground.chain }, { on := 0, ground := Ground.phase }, { on := 1, ground := Ground.phase }, { on := 2, ground := Ground.phase }], guard := none }) rfl (fun K hK => ?_) AllReadyH.nil
      rw [if_pos (by rfl)]
      have c1214 := q1209.cell 0
      have c1215 := q1209.cell 1
      have z1216 := q1209.frozen 0
      have z1217 := q1209.frozen 1
      obtain ⟨wS1212, hS1213⟩ : ∃ w1, (wS1201.setCell ⟨R9, 0, none⟩ (.bool false)).setCell ⟨R9, 1, none⟩ (.slice none 0 0) = w1 := ⟨_, rfl⟩
      have q1218 := q1207.set2 q1209 (by have := HR.out; omega) (.bool false) (.slice none 0 0)
      rw [hS1213] at q1218
      have q1219 := q1208.box (R := R9) (by have := HR.out; omega) (.bool false) (.slice none 0 0)
      rw [hS1213] at q1219
      have q1220 := q1211.setc (R := R9) (o := 0) (o' := 1) (by have := HR.out; omega) (.bool false) (.slice none 0 0)
      rw [hS1213] at q1220
      have q1221 := q1210.setc (R := R9) (o := 0) (o' := 1) (by have := HR.out; omega) (.bool false) (.slice none 0 0)
      rw [hS1213] at q1221
      have q1222 : Blk wS1212 R9 #[.bool false, .slice none 0 0] 29 := by rw [← hS1213]; exact (q1209.set 0 _).set 1 _
      go_simp
      try rw [hS1213]
      clear hS1213 c1214 c1215 z1216 z1217
      refine hK.out _ _ (⟨q1221.cell 0, q1221.cell 1, trivial⟩) (fun hHeld => ?_)
      clear hK K
      try simp only [Act.put, List.setIfInBounds_toArray, List.set_cons_zero, List.set_cons_succ]
      refine wpAnyH_take (i := 4) (oi := { dst := some 10, op := Op.assign (Operand.const (Value.int IntKind.i64 4)), type := 3, pos := "ref.go:41", after := #[{ on := 3, ground := Ground.chain }, { on := 0, ground := Ground.phase }, { on := 1, ground := Ground.phase }, { on := 2, ground := Ground.phase }, { on := 3, ground := Ground.phase }], guard := none }) (v := ?v1195) rfl (by kernel_rfl) (by kernel_rfl) (by kernel_rfl) (fun _ _ _ h => h) (Or.inl ⟨by rfl, ?hy1195⟩) (by assumption) ?rest1195
      case hy1195 => (intro w1 hSw; (try dsimp only at hSw); obtain ⟨h0, h1, -⟩ := hSw; go_simp; try with_reducible rfl)
      try simp only [Act.put, List.setIfInBounds_toArray, List.set_cons_zero, List.set_cons_succ]
      refine wpAnyH_done (by kernel_rfl) ?_ _
      go_wp2_with fail
      have c1223 := q1220.cell 0
      have c1224 := q1220.cell 1
      have c1225 := q1222.cell 0
      have c1226 := q1222.cell 1
      exact bodyPost_ret (v := .tuple #[.agg #[.bool false, .slice none 0 0], .agg #[.bool false, .slice none 0 0], .int .i64 4]) (by simp [results, Tryz.results10, go_sem, c1223, c1224, c1225, c1226]) rfl (rset_ret HE.out (by decide) q1218 q1219)
    · have x1 : ¬ (64 : Int) < (P.length : Int) := by omega
      have HP64 := Lib.hid h64
      obtain ⟨Qn, hQ⟩ : ∃ Qn, nList ⟨va, vl⟩ = Qn := ⟨_, rfl⟩
      have hQl : Qn.length ≤ 10000 := by rw [← hQ]; exact HVU.out.2.2.2
      have HQn := Lib.hid hQ
      clear hQ h64
      have y0 : w9.cell? ⟨R14, 0, none⟩ = some (.bool va) := Q14.out.cell 0
      have y1 : w9.cell? ⟨R14, 1, none⟩ = some (.slice ov vl.length dv) := Q14.out.cell 1
      go_wp2_with fail
      clear y0 y1
      refine (rlist_any (sa := va) (sl := vl) (L := Qn) Tv.out HQn.out (by omega)).mono ?_
      rintro e w10 ⟨a10, c10, rfl, -, hb⟩
      dsimp only
      have H := Lib.hid (H.out.later hb)
      have O := Lib.hid (O.out.later hb)
      have Q7 := Lib.hid (Q7.out.later hb)
      have Q8 := Lib.hid (Q8.out.later hb)
      have Q9 := Lib.hid (Q9.out.later hb)
      have Q11 := Lib.hid (Q11.out.later hb)
      have Q12 := Lib.hid (Q12.out.later hb)
      have Q13 := Lib.hid (Q13.out.later hb)
      have Q14 := Lib.hid (Q14.out.later hb)
      have Tu := Lib.hid (Tu.out.later hb)
      have Tw := Lib.hid (Tw.out.later hb)
      have Tv := Lib.hid (Tv.out.later hb)
      clear hb
      by_cases h64 : 64 < Qn.length
      · have x2 : (64 : Int) < (Qn.length : Int) := by omega
        have HE := Lib.hid (show setE W (im : Int) (km : Int) ⟨sa, sl⟩ = 4 by unfold setE; rw [if_neg (by rw [HNB.out]; decide), if_neg (by rw [HP.out]; exact HP64.out), if_pos (by rw [HV.out, HVU.out.1, HQn.out]; exact h64)])
        clear h64
        go_wp2_with fail
        obtain ⟨w1227, hw1228, hb1229⟩ := drew_new w10
        have q1230 := H.out.later hb1229
        have q1231 := O.out.later hb1229
        have q1232 := Q8.out.later hb1229
        have q1233 := Q9.out.later hb1229
        have q1234 := Q11.out.later hb1229
        have q1235 := Q13.out.later hb1229
        have q1236 := Tw.out.later hb1229
        refine wp_region_held_drew (S := (fun w' => w'.cell? ⟨R13, 0, none⟩ = some (.bool wa) ∧ w'.cell? ⟨R13, 1, none⟩ = some (.slice aw wl.length cw) ∧ True)) (by kernel_rfl) (by rw [hw1228]; exact ⟨q1235.cell 0, q1235.cell 1, trivial⟩) (fun hHeld => ?_)
        rw [hw1228] at hHeld ⊢
        refine wpAnyH_take (i := 0) (oi := { dst := some 67, op := Op.move (Operand.tmp 0), type := 26, pos := "ref.go:40", after := #[], guard := none }) (v := ?v1227) rfl (by kernel_rfl) (by kernel_rfl) (by kernel_rfl) (fun _ _ _ h => h) (Or.inl ⟨by rfl, ?hy1227⟩) (by assumption) ?rest1227
        case hy1227 => (intro w1 hSw; (try dsimp only at hSw); obtain ⟨h0, h1, -⟩ := hSw; go_simp; try with_reducible rfl)
        try simp only [Act.put, List.setIfInBounds_toArray, List.set_cons_zero, List.set_cons_succ]
        refine wpAnyH_take (i := 1) (oi := { dst := some 68, op := Op.move (Operand.tmp 1), type := 3, pos := "ref.go:40", after := #[], guard := none }) (v := ?v1228) rfl (by kernel_rfl) (by kernel_rfl) (by kernel_rfl) (fun _ _ _ h => h) (Or.inl ⟨by rfl, ?hy1228⟩) (by assumption) ?rest1228
        case hy1228 => (intro w1 hSw; (try dsimp only at hSw); obtain ⟨h0, h1, -⟩ := hSw; go_simp; try with_reducible rfl)
        try simp only [Act.put, List.setIfInBounds_toArray, List.set_cons_zero, List.set_cons_succ]
        refine wpAnyH_take (i := 2) (oi := { dst := some 69, op := Op.move (Operand.tmp 2), type := 3, pos := "ref.go:40", after := #[], guard := none }) (v := ?v1229) rfl (by kernel_rfl) (by kernel_rfl) (by kernel_rfl) (fun _ _ _ h => h) (Or.inl ⟨by rfl, ?hy1229⟩) (by assumption) ?rest1229
        case hy1229 => (intro w1 hSw; (try dsimp only at hSw); obtain ⟨h0, h1, -⟩ := hSw; go_simp; try with_reducible rfl)
        try simp only [Act.put, List.setIfInBounds_toArray, List.set_cons_zero, List.set_cons_succ]
        refine wpAnyH_take (i := 3) (oi := { dst := some 70, op := Op.load 29 (Operand.tmp 13), type := 29, pos := "ref.go:40", after := #[], guard := none }) (v := ?v1230) rfl (by kernel_rfl) (by kernel_rfl) (by kernel_rfl) (fun _ _ _ h => h) (Or.inl ⟨by rfl, ?hy1230⟩) (by assumption) ?rest1230
        case hy1230 => (intro w1 hSw; (try dsimp only at hSw); obtain ⟨h0, h1, -⟩ := hSw; go_simp; try with_reducible rfl)
        try simp only [Act.put, List.setIfInBounds_toArray, List.set_cons_zero, List.set_cons_succ]
        refine wpAnyH_take (i := 4) (oi := { dst := some 71, op := Op.nilCheck (Operand.tmp 67), type := 0, pos := "ref.go:40", after := #[{ on := 0, ground := Ground.data }], guard := none }) (v := ?v1231) rfl (by kernel_rfl) (by kernel_rfl) (by kernel_rfl) (fun _ _ _ h => h) (Or.inl ⟨by rfl, ?hy1231⟩) (by assumption) ?rest1231
        case hy1231 => (intro w1 hSw; (try dsimp only at hSw); obtain ⟨h0, h1, -⟩ := hSw; go_simp; try with_reducible rfl)
        try simp only [Act.put, List.setIfInBounds_toArray, List.set_cons_zero, List.set_cons_succ]
        refine wpAnyH_take (i := 5) (oi := { dst := some 72, op := Op.fieldAddr 33 (Operand.tmp 71) 0, type := 0, pos := "ref.go:40", after := #[{ on := 4, ground := Ground.data }], guard := none }) (v := ?v1232) rfl (by kernel_rfl) (by kernel_rfl) (by kernel_rfl) (fun _ _ _ h => h) (Or.inl ⟨by rfl, ?hy1232⟩) (by assumption) ?rest1232
        case hy1232 => (intro w1 hSw; (try dsimp only at hSw); obtain ⟨h0, h1, -⟩ := hSw; go_simp; try with_reducible rfl)
        try simp only [Act.put, List.setIfInBounds_toArray, List.set_cons_zero, List.set_cons_succ]
        refine wpAnyH_take (i := 6) (oi := { dst := some 73, op := Op.indexAddr 31 (Operand.tmp 72) (Operand.tmp 68), type := 0, pos := "ref.go:40", after := #[{ on := 5, ground := Ground.data }, { on := 1, ground := Ground.data }], guard := none }) (v := ?v1233) rfl (by kernel_rfl) (by kernel_rfl) (by kernel_rfl) (fun _ _ _ h => h) (Or.inl ⟨by rfl, ?hy1233⟩) (by assumption) ?rest1233
        case hy1233 => (intro w1 hSw; (try dsimp only at hSw); obtain ⟨h0, h1, -⟩ := hSw; go_simp; try with_reducible rfl)
        try simp only [Act.put, List.setIfInBounds_toArray, List.set_cons_zero, List.set_cons_succ]
        refine wpAnyH_take (i := 7) (oi := { dst := some 74, op := Op.indexAddr 30 (Operand.tmp 73) (Operand.tmp 69), type := 0, pos := "ref.go:40", after := #[{ on := 6, ground := Ground.data }, { on := 2, ground := Ground.data }, { on := 0, ground := Ground.phase }, { on := 1, ground := Ground.phase }, { on := 2, ground := Ground.phase }, { on := 3, ground := Ground.phase }], guard := none }) (v := ?v1234) rfl (by kernel_rfl) (by kernel_rfl) (by kernel_rfl) (fun _ _ _ h => h) (Or.inl ⟨by rfl, ?hy1234⟩) (by assumption) ?rest1234
        case hy1234 => (intro w1 hSw; (try dsimp only at hSw); obtain ⟨h0, h1, -⟩ := hSw; go_simp; try with_reducible rfl)
        try simp only [Act.put, List.setIfInBounds_toArray, List.set_cons_zero, List.set_cons_succ]
        refine wpAnyH_ready (rs := [8]) (by kernel_rfl) (by simp) ?_
        refine AllReadyH.cons (o := { dst := none, op := Op.store 29 (Operand.tmp 74) (Operand.tmp 70), type := 0, pos := "ref.go:40", after := #[{ on := 7, ground := Ground.data }, { on := 3, ground := Ground.data }, { on := 0, ground := Ground.phase }, { on := 1, ground := Ground.phase }, { on := 2, ground := Ground.phase }, { on := 3, ground := Ground.phase }], guard := none }) rfl (fun K hK => ?_) AllReadyH.nil
        rw [if_pos (by rfl)]
        obtain ⟨xa, xc, p1240, p1241, -⟩ := q1230.at (i := im) (k := km) HI.out.1 HI.out.2
        have z1242 := q1230.frozen (im * 12 + km * 2)
        have z1243 := q1230.frozen (im * 12 + km * 2 + 1)
        obtain ⟨wX1237, hX1238⟩ : ∃ w1, (w1227.setCell ⟨X, im * 12 + km * 2, none⟩ (.bool wa)).setCell ⟨X, im * 12 + km * 2 + 1, none⟩ (.slice aw wl.length cw) = w1 := ⟨_, rfl⟩
        have hG1239 : OnlyX X w1227 wX1237 := by rw [← hX1238]; exact grown_setc _ _ _ _ _ _
        have q1244 := q1231.trans hG1239
        have q1245 := q1232.only hG1239 (by have := HR.out; omega)
        have q1246 := q1233.only hG1239 (by have := HR.out; omega)
        have q1247 := q1234.only hG1239 (by have := HR.out; omega)
        have q1248 := q1235.only hG1239 (Nat.ne_of_gt HN13.out)
        have q1249 := q1230.ts hG1239 q1236
        have q1250 : RfM wX1237 X (wset V (im : Int) (km : Int) ⟨wa, wl⟩) := by rw [← hX1238]; exact q1230.put HI.out.1 HI.out.2 (s := ⟨wa, wl⟩) q1236
        go_simp
        try rw [hX1238]
        clear hX1238 p1240 p1241 z1242 z1243
        refine hK.out _ _ (⟨q1248.cell 0, q1248.cell 1, trivial⟩) (fun hHeld => ?_)
        clear hK K
        refine wpAnyH_done (by kernel_rfl) ?_ _
        have H := Lib.hid q1250
        have O := Lib.hid q1244
        have Q8 := Lib.hid q1245
        have Q9 := Lib.hid q1246
        have Q11 := Lib.hid q1247
        have Q13 := Lib.hid q1248
        have Tw := Lib.hid q1249
        clear q1250 q1244 q1245 q1246 q1247 q1248 q1249
        obtain ⟨wq, hwq⟩ : ∃ w1 : World, wX1237 = w1 := ⟨_, rfl⟩
        rw [hwq] at H O Q8 Q9 Q11 Q13 Tw ⊢
        clear hwq
        have hback : wset V (im : Int) (km : Int) ⟨wa, wl⟩ = W := by rw [← HWW.out, ← HV.out]; exact wset_back _ _ _ _
        rw [hback] at H
        clear hback
        go_wp2_with fail
        obtain ⟨w1251, hw1252, hb1253⟩ := drew_new wq
        have q1254 := H.out.later hb1253
        have q1255 := O.out.later hb1253
        have q1256 := Q8.out.later hb1253
        have q1257 := Q9.out.later hb1253
        have q1258 := Q11.out.later hb1253
        refine wp_region_held_drew (S := (fun w' => w'.cell? ⟨R11, 0, none⟩ = some (.bool false) ∧ w'.cell? ⟨R11, 1, none⟩ = some (.slice none 0 0) ∧ True)) (by kernel_rfl) (by rw [hw1252]; exact ⟨q1258.cell 0, q1258.cell 1, trivial⟩) (fun hHeld => ?_)
        rw [hw1252] at hHeld ⊢
        refine wpAnyH_take (i := 0) (oi := { dst := some 75, op := Op.load 29 (Operand.tmp 11), type := 29, pos := "ref.go:41", after := #[], guard := none }) (v := ?v1251) rfl (by kernel_rfl) (by kernel_rfl) (by kernel_rfl) (fun _ _ _ h => h) (Or.inl ⟨by rfl, ?hy1251⟩) (by assumption) ?rest1251
        case hy1251 => (intro w1 hSw; (try dsimp only at hSw); obtain ⟨h0, h1, -⟩ := hSw; go_simp; try with_reducible rfl)
        try simp only [Act.put, List.setIfInBounds_toArray, List.set_cons_zero, List.set_cons_succ]
        refine wpAnyH_take (i := 1) (oi := { dst := some 76, op := Op.load 29 (Operand.tmp 11), type := 29, pos := "ref.go:41", after := #[{ on := 2, ground := Ground.gcOnly Departure.lateStores }], guard := none }) (v := ?v1252) rfl (by kernel_rfl) (by kernel_rfl) (by kernel_rfl) (fun _ _ _ h => h) (Or.inl ⟨by rfl, ?hy1252⟩) (by assumption) ?rest1252
        case hy1252 => (intro w1 hSw; (try dsimp only at hSw); obtain ⟨h0, h1, -⟩ := hSw; go_simp; try with_reducible rfl)
        try simp only [Act.put, List.setIfInBounds_toArray, List.set_cons_zero, List.set_cons_succ]
        refine wpAnyH_ready (rs := [2]) (by kernel_rfl) (by simp) ?_
        refine AllReadyH.cons (o := { dst := none, op := Op.store 29 (Operand.tmp 8) (Operand.tmp 75), type := 0, pos := "ref.go:41", after := #[{ on := 0, ground := Ground.data }, { on := 0, ground := Ground.phase }, { on := 1, ground := Ground.textOnly Departure.lateStores }], guard := none }) rfl (fun K hK => ?_) AllReadyH.nil
        rw [if_pos (by rfl)]
        have c1261 := q1256.cell 0
        have c1262 := q1256.cell 1
        have z1263 := q1256.frozen 0
        have z1264 := q1256.frozen 1
        obtain ⟨wS1259, hS1260⟩ : ∃ w1, (w1251.setCell ⟨R8, 0, none⟩ (.bool false)).setCell ⟨R8, 1, none⟩ (.slice none 0 0) = w1 := ⟨_, rfl⟩
        have q1265 := q1254.set2 q1256 (by have := HR.out; omega) (.bool false) (.slice none 0 0)
        rw [hS1260] at q1265
        have q1266 := q1255.box (R := R8) (by have := HR.out; omega) (.bool false) (.slice none 0 0)
        rw [hS1260] at q1266
        have q1267 := q1257.setc (R := R8) (o := 0) (o' := 1) (by have := HR.out; omega) (.bool false) (.slice none 0 0)
        rw [hS1260] at q1267
        have q1268 := q1258.setc (R := R8) (o := 0) (o' := 1) (by have := HR.out; omega) (.bool false) (.slice none 0 0)
        rw [hS1260] at q1268
        have q1269 : Blk wS1259 R8 #[.bool false, .slice none 0 0] 29 := by rw [← hS1260]; exact (q1256.set 0 _).set 1 _
        go_simp
        try rw [hS1260]
        clear hS1260 c1261 c1262 z1263 z1264
        refine hK.out _ _ (⟨q1268.cell 0, q1268.cell 1, trivial⟩) (fun hHeld => ?_)
        clear hK K
        try simp only [Act.put, List.setIfInBounds_toArray, List.set_cons_zero, List.set_cons_succ]
        refine wpAnyH_ready (rs := [3]) (by kernel_rfl) (by simp) ?_
        refine AllReadyH.cons (o := { dst := none, op := Op.store 29 (Operand.tmp 9) (Operand.tmp 76), type := 0, pos := "ref.go:41", after := #[{ on := 1, ground := Ground.data }, { on := 2, ground := Ground.chain }, { on := 0, ground := Ground.phase }, { on := 1, ground := Ground.phase }, { on := 2, ground := Ground.phase }], guard := none }) rfl (fun K hK => ?_) AllReadyH.nil
        rw [if_pos (by rfl)]
        have c1272 := q1267.cell 0
        have c1273 := q1267.cell 1
        have z1274 := q1267.frozen 0
        have z1275 := q1267.frozen 1
        obtain ⟨wS1270, hS1271⟩ : ∃ w1, (wS1259.setCell ⟨R9, 0, none⟩ (.bool false)).setCell ⟨R9, 1, none⟩ (.slice none 0 0) = w1 := ⟨_, rfl⟩
        have q1276 := q1265.set2 q1267 (by have := HR.out; omega) (.bool false) (.slice none 0 0)
        rw [hS1271] at q1276
        have q1277 := q1266.box (R := R9) (by have := HR.out; omega) (.bool false) (.slice none 0 0)
        rw [hS1271] at q1277
        have q1278 := q1269.setc (R := R9) (o := 0) (o' := 1) (by have := HR.out; omega) (.bool false) (.slice none 0 0)
        rw [hS1271] at q1278
        have q1279 := q1268.setc (R := R9) (o := 0) (o' := 1) (by have := HR.out; omega) (.bool false) (.slice none 0 0)
        rw [hS1271] at q1279
        have q1280 : Blk wS1270 R9 #[.bool false, .slice none 0 0] 29 := by rw [← hS1271]; exact (q1267.set 0 _).set 1 _
        go_simp
        try rw [hS1271]
        clear hS1271 c1272 c1273 z1274 z1275
        refine hK.out _ _ (⟨q1279.cell 0, q1279.cell 1, trivial⟩) (fun hHeld => ?_)
        clear hK K
        try simp only [Act.put, List.setIfInBounds_toArray, List.set_cons_zero, List.set_cons_succ]
        refine wpAnyH_take (i := 4) (oi := { dst := some 10, op := Op.assign (Operand.const (Value.int IntKind.i64 4)), type := 3, pos := "ref.go:41", after := #[{ on := 3, ground := Ground.chain }, { on := 0, ground := Ground.phase }, { on := 1, ground := Ground.phase }, { on := 2, ground := Ground.phase }, { on := 3, ground := Ground.phase }], guard := none }) (v := ?v1253) rfl (by kernel_rfl) (by kernel_rfl) (by kernel_rfl) (fun _ _ _ h => h) (Or.inl ⟨by rfl, ?hy1253⟩) (by assumption) ?rest1253
        case hy1253 => (intro w1 hSw; (try dsimp only at hSw); obtain ⟨h0, h1, -⟩ := hSw; go_simp; try with_reducible rfl)
        try simp only [Act.put, List.setIfInBounds_toArray, List.set_cons_zero, List.set_cons_succ]
        refine wpAnyH_done (by kernel_rfl) ?_ _
        go_wp2_with fail
        have c1281 := q1278.cell 0
        have c1282 := q1278.cell 1
        have c1283 := q1280.cell 0
        have c1284 := q1280.cell 1
        exact bodyPost_ret (v := .tuple #[.agg #[.bool false, .slice none 0 0], .agg #[.bool false, .slice none 0 0], .int .i64 4]) (by simp [results, Tryz.results10, go_sem, c1281, c1282, c1283, c1284]) rfl (rset_ret HE.out (by decide) q1276 q1277)
      · have x2 : ¬ (64 : Int) < (Qn.length : Int) := by omega
        have HE := Lib.hid (show setE W (im : Int) (km : Int) ⟨sa, sl⟩ = 0 by unfold setE; rw [if_neg (by rw [HNB.out]; decide), if_neg (by rw [HP.out]; exact HP64.out), if_neg (by rw [HV.out, HVU.out.1, HQn.out]; exact h64)])
        clear h64
        obtain ⟨ma, ml, hm⟩ : ∃ ma ml, nLess ⟨va, vl⟩ ⟨ua, ul⟩ = ⟨ma, ml⟩ := ⟨_, _, rfl⟩
        obtain ⟨la, ll, hl⟩ : ∃ la ll, nLess ⟨ua, ul⟩ ⟨va, vl⟩ = ⟨la, ll⟩ := ⟨_, _, rfl⟩
        have HMe := Lib.hid hm
        have HLe := Lib.hid hl
        clear hm hl
        go_wp2_with fail
        have HR := Lib.hid (show (X < R7 ∧ w.heap.size ≤ R7 ∧ R7 < R8 ∧ R8 < R9 ∧ R9 < R11) ∧ R9 < R12 ∧ R9 < R14 by have h1 := HR.out; have h2 := HN9.out; omega)
        obtain ⟨w1285, hw1286, hb1287⟩ := drew_new w10
        have q1288 := H.out.later hb1287
        have q1289 := O.out.later hb1287
        have q1290 := Q8.out.later hb1287
        have q1291 := Q9.out.later hb1287
        have q1292 := Q12.out.later hb1287
        have q1293 := Q14.out.later hb1287
        have q1294 := Tu.out.later hb1287
        have q1295 := Tv.out.later hb1287
        refine wp_region_held_drew (S := (fun w' => w'.cell? ⟨R12, 0, none⟩ = some (.bool ua) ∧ w'.cell? ⟨R12, 1, none⟩ = some (.slice ou ul.length du) ∧ w'.cell? ⟨R14, 0, none⟩ = some (.bool va) ∧ w'.cell? ⟨R14, 1, none⟩ = some (.slice ov vl.length dv) ∧ True)) (by kernel_rfl) (by rw [hw1286]; exact ⟨q1292.cell 0, q1292.cell 1, q1293.cell 0, q1293.cell 1, trivial⟩) (fun hHeld => ?_)
        rw [hw1286] at hHeld ⊢
        refine wpAnyH_take (i := 0) (oi := { dst := some 77, op := Op.load 29 (Operand.tmp 14), type := 29, pos := "ref.go:43", after := #[], guard := none }) (v := ?v1285) rfl (by kernel_rfl) (by kernel_rfl) (by kernel_rfl) (fun _ _ _ h => h) (Or.inl ⟨by rfl, ?hy1285⟩) (by assumption) ?rest1285
        case hy1285 => (intro w1 hSw; (try dsimp only at hSw); obtain ⟨h0, h1, h2, h3, -⟩ := hSw; go_simp; try with_reducible rfl)
        try simp only [Act.put, List.setIfInBounds_toArray, List.set_cons_zero, List.set_cons_succ]
        refine wpAnyH_take (i := 1) (oi := { dst := some 78, op := Op.load 29 (Operand.tmp 12), type := 29, pos := "ref.go:43", after := #[], guard := none }) (v := ?v1286) rfl (by kernel_rfl) (by kernel_rfl) (by kernel_rfl) (fun _ _ _ h => h) (Or.inl ⟨by rfl, ?hy1286⟩) (by assumption) ?rest1286
        case hy1286 => (intro w1 hSw; (try dsimp only at hSw); obtain ⟨h0, h1, h2, h3, -⟩ := hSw; go_simp; try with_reducible rfl)
        try simp only [Act.put, List.setIfInBounds_toArray, List.set_cons_zero, List.set_cons_succ]
        refine wpAnyH_take (i := 3) (oi := { dst := some 80, op := Op.load 29 (Operand.tmp 12), type := 29, pos := "ref.go:43", after := #[], guard := none }) (v := ?v1287) rfl (by kernel_rfl) (by kernel_rfl) (by kernel_rfl) (fun _ _ _ h => h) (Or.inl ⟨by rfl, ?hy1287⟩) (by assumption) ?rest1287
        case hy1287 => (intro w1 hSw; (try dsimp only at hSw); obtain ⟨h0, h1, h2, h3, -⟩ := hSw; go_simp; try with_reducible rfl)
        try simp only [Act.put, List.setIfInBounds_toArray, List.set_cons_zero, List.set_cons_succ]
        refine wpAnyH_take (i := 4) (oi := { dst := some 81, op := Op.load 29 (Operand.tmp 14), type := 29, pos := "ref.go:43", after := #[], guard := none }) (v := ?v1288) rfl (by kernel_rfl) (by kernel_rfl) (by kernel_rfl) (fun _ _ _ h => h) (Or.inl ⟨by rfl, ?hy1288⟩) (by assumption) ?rest1288
        case hy1288 => (intro w1 hSw; (try dsimp only at hSw); obtain ⟨h0, h1, h2, h3, -⟩ := hSw; go_simp; try with_reducible rfl)
        try simp only [Act.put, List.setIfInBounds_toArray, List.set_cons_zero, List.set_cons_succ]
        refine wpAnyH_ready (rs := [2]) (by kernel_rfl) (by simp) ?_
        refine AllReadyH.cons (o := { dst := some 79, op := Op.call { callee := Callee.value (Operand.func 37), args := #[Operand.tmp 77, Operand.tmp 78], argTypes := #[29, 29] }, type := 29, pos := "ref.go:43", after := #[{ on := 0, ground := Ground.data }, { on := 1, ground := Ground.data }], guard := none }) rfl (fun K hK => ?_) AllReadyH.nil
        go_simp
        refine (rless_any (al := vl) (bl := ul) q1295 q1294 HVU.out.2.2.1 HVU.out.2.1.ok HMe.out).mono ?_
        rintro e w1297 ⟨om, dm, rfl, h1296, hb1298⟩
        have q1299 := q1288.later hb1298
        have q1300 := q1289.later hb1298
        have q1301 := q1290.later hb1298
        have q1302 := q1291.later hb1298
        have q1303 := q1292.later hb1298
        have q1304 := q1293.later hb1298
        have q1305 := q1294.later hb1298
        have q1306 := q1295.later hb1298
        refine hK.out _ _ (⟨q1303.cell 0, q1303.cell 1, q1304.cell 0, q1304.cell 1, trivial⟩) (fun hHeld => ?_)
        clear hK K
        try simp only [Act.put, List.setIfInBounds_toArray, List.set_cons_zero, List.set_cons_succ]
        refine wpAnyH_ready (rs := [5]) (by kernel_rfl) (by simp) ?_
        refine AllReadyH.cons (o := { dst := some 82, op := Op.call { callee := Callee.value (Operand.func 37), args := #[Operand.tmp 80, Operand.tmp 81], argTypes := #[29, 29] }, type := 29, pos := "ref.go:43", after := #[{ on := 3, ground := Ground.data }, { on := 4, ground := Ground.data }, { on := 2, ground := Ground.chain }], guard := none }) rfl (fun K hK => ?_) AllReadyH.nil
        go_simp
        refine (rless_any (al := ul) (bl := vl) q1305 q1306 HU.out.2.2.1 HU.out.2.1.ok HLe.out).mono ?_
        rintro e w1308 ⟨ol, dl, rfl, h1307, hb1309⟩
        have q1310 := q1299.later hb1309
        have q1311 := q1300.later hb1309
        have q1312 := q1301.later hb1309
        have q1313 := q1302.later hb1309
        have q1314 := q1303.later hb1309
        have q1315 := q1304.later hb1309
        have q1316 := q1305.later hb1309
        have q1317 := q1306.later hb1309
        have q1318 := h1296.later hb1309
        refine hK.out _ _ (⟨q1314.cell 0, q1314.cell 1, q1315.cell 0, q1315.cell 1, trivial⟩) (fun hHeld => ?_)
        clear hK K
        try simp only [Act.put, List.setIfInBounds_toArray, List.set_cons_zero, List.set_cons_succ]
        refine wpAnyH_ready (rs := [6]) (by kernel_rfl) (by simp) ?_
        refine AllReadyH.cons (o := { dst := none, op := Op.store 29 (Operand.tmp 8) (Operand.tmp 79), type := 0, pos := "ref.go:43", after := #[{ on := 2, ground := Ground.data }, { on := 5, ground := Ground.chain }, { on := 0, ground := Ground.phase }, { on := 1, ground := Ground.phase }, { on := 2, ground := Ground.phase }, { on := 3, ground := Ground.textOnly Departure.lateStores }, { on := 4, ground := Ground.textOnly Departure.lateStores }, { on := 5, ground := Ground.textOnly Departure.lateStoresUnsure }], guard := none }) rfl (fun K hK => ?_) AllReadyH.nil
        rw [if_pos (by rfl)]
        have c1321 := q1312.cell 0
        have c1322 := q1312.cell 1
        have z1323 := q1312.frozen 0
        have z1324 := q1312.frozen 1
        obtain ⟨wS1319, hS1320⟩ : ∃ w1, (w1308.setCell ⟨R8, 0, none⟩ (.bool ma)).setCell ⟨R8, 1, none⟩ (.slice om ml.length dm) = w1 := ⟨_, rfl⟩
        have q1325 := q1310.set2 q1312 (by have := HR.out; omega) (.bool ma) (.slice om ml.length dm)
        rw [hS1320] at q1325
        have q1326 := q1311.box (R := R8) (by have := HR.out; omega) (.bool ma) (.slice om ml.length dm)
        rw [hS1320] at q1326
        have q1327 := q1313.setc (R := R8) (o := 0) (o' := 1) (by have := HR.out; omega) (.bool ma) (.slice om ml.length dm)
        rw [hS1320] at q1327
        have q1328 := q1314.setc (R := R8) (o := 0) (o' := 1) (by have := HR.out; omega) (.bool ma) (.slice om ml.length dm)
        rw [hS1320] at q1328
        have q1329 := q1315.setc (R := R8) (o := 0) (o' := 1) (by have := HR.out; omega) (.bool ma) (.slice om ml.length dm)
        rw [hS1320] at q1329
        have q1330 := q1316.set2 (.bool ma) (.slice om ml.length dm) c1321 c1322
        rw [hS1320] at q1330
        have q1331 := q1317.set2 (.bool ma) (.slice om ml.length dm) c1321 c1322
        rw [hS1320] at q1331
        have q1332 := q1318.set2 (.bool ma) (.slice om ml.length dm) c1321 c1322
        rw [hS1320] at q1332
        have q1333 := h1307.set2 (.bool ma) (.slice om ml.length dm) c1321 c1322
        rw [hS1320] at q1333
        have q1334 : Blk wS1319 R8 #[.bool ma, .slice om ml.length dm] 29 := by rw [← hS1320]; exact (q1312.set 0 _).set 1 _
        go_simp
        try rw [hS1320]
        clear hS1320 c1321 c1322 z1323 z1324
        refine hK.out _ _ (⟨q1328.cell 0, q1328.cell 1, q1329.cell 0, q1329.cell 1, trivial⟩) (fun hHeld => ?_)
        clear hK K
        try simp only [Act.put, List.setIfInBounds_toArray, List.set_cons_zero, List.set_cons_succ]
        refine wpAnyH_ready (rs := [7]) (by kernel_rfl) (by simp) ?_
        refine AllReadyH.cons (o := { dst := none, op := Op.store 29 (Operand.tmp 9) (Operand.tmp 82), type := 0, pos := "ref.go:43", after := #[{ on := 5, ground := Ground.data }, { on := 6, ground := Ground.chain }, { on := 0, ground := Ground.phase }, { on := 1, ground := Ground.phase }, { on := 2, ground := Ground.phase }, { on := 3, ground := Ground.phase }, { on := 4, ground := Ground.phase }, { on := 5, ground := Ground.phase }, { on := 6, ground := Ground.phase }], guard := none }) rfl (fun K hK => ?_) AllReadyH.nil
        rw [if_pos (by rfl)]
        have c1337 := q1327.cell 0
        have c1338 := q1327.cell 1
        have z1339 := q1327.frozen 0
        have z1340 := q1327.frozen 1
        obtain ⟨wS1335, hS1336⟩ : ∃ w1, (wS1319.setCell ⟨R9, 0, none⟩ (.bool la)).setCell ⟨R9, 1, none⟩ (.slice ol ll.length dl) = w1 := ⟨_, rfl⟩
        have q1341 := q1325.set2 q1327 (by have := HR.out; omega) (.bool la) (.slice ol ll.length dl)
        rw [hS1336] at q1341
        have q1342 := q1326.box (R := R9) (by have := HR.out; omega) (.bool la) (.slice ol ll.length dl)
        rw [hS1336] at q1342
        have q1343 := q1334.setc (R := R9) (o := 0) (o' := 1) (by have := HR.out; omega) (.bool la) (.slice ol ll.length dl)
        rw [hS1336] at q1343
        have q1344 := q1328.setc (R := R9) (o := 0) (o' := 1) (by have := HR.out; omega) (.bool la) (.slice ol ll.length dl)
        rw [hS1336] at q1344
        have q1345 := q1329.setc (R := R9) (o := 0) (o' := 1) (by have := HR.out; omega) (.bool la) (.slice ol ll.length dl)
        rw [hS1336] at q1345
        have q1346 := q1330.set2 (.bool la) (.slice ol ll.length dl) c1337 c1338
        rw [hS1336] at q1346
        have q1347 := q1331.set2 (.bool la) (.slice ol ll.length dl) c1337 c1338
        rw [hS1336] at q1347
        have q1348 := q1332.set2 (.bool la) (.slice ol ll.length dl) c1337 c1338
        rw [hS1336] at q1348
        have q1349 := q1333.set2 (.bool la) (.slice ol ll.length dl) c1337 c1338
        rw [hS1336] at q1349
        have q1350 : Blk wS1335 R9 #[.bool la, .slice ol ll.length dl] 29 := by rw [← hS1336]; exact (q1327.set 0 _).set 1 _
        go_simp
        try rw [hS1336]
        clear hS1336 c1337 c1338 z1339 z1340
        refine hK.out _ _ (⟨q1344.cell 0, q1344.cell 1, q1345.cell 0, q1345.cell 1, trivial⟩) (fun hHeld => ?_)
        clear hK K
        try simp only [Act.put, List.setIfInBounds_toArray, List.set_cons_zero, List.set_cons_succ]
        refine wpAnyH_take (i := 8) (oi := { dst := some 10, op := Op.assign (Operand.const (Value.int IntKind.i64 0)), type := 3, pos := "ref.go:43", after := #[{ on := 7, ground := Ground.chain }, { on := 0, ground := Ground.phase }, { on := 1, ground := Ground.phase }, { on := 2, ground := Ground.phase }, { on := 3, ground := Ground.phase }, { on := 4, ground := Ground.phase }, { on := 5, ground := Ground.phase }, { on := 6, ground := Ground.phase }, { on := 7, ground := Ground.phase }], guard := none }) (v := ?v1289) rfl (by kernel_rfl) (by kernel_rfl) (by kernel_rfl) (fun _ _ _ h => h) (Or.inl ⟨by rfl, ?hy1289⟩) (by assumption) ?rest1289
        case hy1289 => (intro w1 hSw; (try dsimp only at hSw); obtain ⟨h0, h1, h2, h3, -⟩ := hSw; go_simp; try with_reducible rfl)
        try simp only [Act.put, List.setIfInBounds_toArray, List.set_cons_zero, List.set_cons_succ]
        refine wpAnyH_done (by kernel_rfl) ?_ _
        go_wp2_with fail
        have c1351 := q1343.cell 0
        have c1352 := q1343.cell 1
        have c1353 := q1350.cell 0
        have c1354 := q1350.cell 1
        exact bodyPost_ret (v := .tuple #[.agg #[.bool ma, .slice om ml.length dm], .agg #[.bool la, .slice ol ll.length dl], .int .i64 0]) (by simp [results, Tryz.results10, go_sem, c1351, c1352, c1353, c1354]) rfl (rset_yes HE.out HV.out HU.out.1 HVU.out.1 HMe.out HLe.out q1341 q1342 q1348 q1349)
end Go.Proofs.YtkjfafnnnkjoeaaGreatDoor
namespace Go.Proofs.YtkjfafnnnkjoeaaGreatDoor
open Go.RowKit Go.Lib

set_option maxRecDepth 100000 in
set_option maxHeartbeats 4000000 in
theorem rwho_any {X : Nat} {k : Int} {W : Wants} {w : World} {x : List UInt8} (h : RfM w X W) (hf : RFit W) (hx : x.length ≤ maxLen) :
    Calls Tryz.prog 21 #[.pointer (some ⟨X, 0, none⟩), .agg #[.int .i64 k, .string ⟨x.toArray⟩]] w (IntsPost (whoL W k x 32) w) := by
  obtain ⟨i0, hi, hz0, hz1, hz2⟩ := info_parts Tryz.infoIntM
  obtain ⟨w1, hw1, hb1, q1⟩ := alloc_new w #[.int .i64 k, .string ⟨x.toArray⟩] 55
  have H := Lib.hid (h.later hb1)
  have HW := Lib.hid hw1
  have HB := Lib.hid hb1
  have HQ := Lib.hid q1
  have HF := Lib.hid hf
  have HXL := Lib.hid hx
  clear hw1 hb1 q1 h hf hx
  go_enter Tryz.func21, Tryz.ntmps21
  go_wp2_with fail
  rw [HW.out]
  go_loopw [5, 6] (fun vl vi wr => ∃ n : Nat, vi = .int .i64 ((n : Int) + 1) ∧ n ≤ 32 ∧ wr.ownsRow w1.heap.size 3 1 vl (whoL W k x n).length (isV (whoL W k x n)) ∧ Below w1.heap.size w1 wr) (fun _ vi _ => 33 - (intOf vi).toNat)
  case atStart => exact ⟨0, rfl, Nat.zero_le _, World.ownsRow_nil _ _ _ _, Below.refl _ _⟩
  case round =>
    obtain ⟨n, rfl, hn, hown, hb⟩ := hrel
    by_cases hlt : n < 32
    · have b1 : (n : Int) + 1 ≤ 32 := by omega
      have b2 : IntKind.i64.wrap ((n : Int) + 1 + 1) = (n : Int) + 1 + 1 := by rw [IntKind.wrap_i64]; omega
      obtain ⟨ga, gl, hG⟩ : ∃ ga gl, W ((n : Int) + 1) k = ⟨ga, gl⟩ := ⟨_, _, rfl⟩
      obtain ⟨B, hB⟩ : ∃ B, nHas okN ⟨ga, gl⟩ x = B := ⟨_, rfl⟩
      have HBB := Lib.hid (show nHas okN (W ((n : Int) + 1) k) x = B by rw [hG]; exact hB)
      have HBn := Lib.hid hB
      have HG := Lib.hid hG
      have HOW := Lib.hid hown
      have HBW := Lib.hid hb
      have HM := Lib.hid (H.out.later hb)
      have HQr := Lib.hid (HQ.out.later hb)
      have HBD := Lib.hid (Below.refl wr.heap.size wr)
      clear hown hb hB hG hlt
      go_wp2_with fail
      obtain ⟨w1001, hw1002, hb1003⟩ := drew_new wr
      have q1004 := HM.out.later hb1003
      have q1005 := HQr.out.later hb1003
      have q1006 := HBW.out.trans (hb1003.mono HBW.out.size)
      have q1007 := HBD.out.trans (hb1003.mono HBD.out.size)
      refine wp_region_held_drew (S := (fun w' => w'.cell? ⟨w.heap.size, 0, none⟩ = some (.int .i64 k) ∧ w'.cell? ⟨w.heap.size, 1, none⟩ = some (.string ⟨x.toArray⟩) ∧ True)) (by kernel_rfl) (by rw [hw1002]; exact ⟨q1005.cell 0, q1005.cell 1, trivial⟩) (fun hHeld => ?_)
      rw [hw1002] at hHeld ⊢
      refine wpAnyH_take (i := 0) (oi := { dst := some 12, op := Op.move (Operand.tmp 0), type := 26, pos := "ref.go:72", after := #[], guard := none }) (v := ?v101) rfl (by kernel_rfl) (by kernel_rfl) (by kernel_rfl) (fun _ _ _ h => h) (Or.inl ⟨by rfl, ?hy101⟩) (by assumption) ?rest101
      case hy101 => (intro w1 hSw; (try dsimp only at hSw); obtain ⟨h0, h1, -⟩ := hSw; go_simp; try with_reducible rfl)
      try simp only [Act.put, List.setIfInBounds_toArray, List.set_cons_zero, List.set_cons_succ]
      refine wpAnyH_take (i := 1) (oi := { dst := some 13, op := Op.move (Operand.tmp 6), type := 3, pos := "ref.go:72", after := #[], guard := none }) (v := ?v102) rfl (by kernel_rfl) (by kernel_rfl) (by kernel_rfl) (fun _ _ _ h => h) (Or.inl ⟨by rfl, ?hy102⟩) (by assumption) ?rest102
      case hy102 => (intro w1 hSw; (try dsimp only at hSw); obtain ⟨h0, h1, -⟩ := hSw; go_simp; try with_reducible rfl)
      try simp only [Act.put, List.setIfInBounds_toArray, List.set_cons_zero, List.set_cons_succ]
      refine wpAnyH_take (i := 2) (oi := { dst := some 14, op := Op.fieldAddr 55 (Operand.tmp 3) 0, type := 0, pos := "ref.go:72", after := #[], guard := none }) (v := ?v103) rfl (by kernel_rfl) (by kernel_rfl) (by kernel_rfl) (fun _ _ _ h => h) (Or.inl ⟨by rfl, ?hy103⟩) (by assumption) ?rest103
      case hy103 => (intro w1 hSw; (try dsimp only at hSw); obtain ⟨h0, h1, -⟩ := hSw; go_simp; try with_reducible rfl)
      try simp only [Act.put, List.setIfInBounds_toArray, List.set_cons_zero, List.set_cons_succ]
      refine wpAnyH_take (i := 3) (oi := { dst := some 15, op := Op.load 3 (Operand.tmp 14), type := 3, pos := "ref.go:72", after := #[{ on := 2, ground := Ground.data }], guard := none }) (v := ?v104) rfl (by kernel_rfl) (by kernel_rfl) (by kernel_rfl) (fun _ _ _ h => h) (Or.inl ⟨by rfl, ?hy104⟩) (by assumption) ?rest104
      case hy104 => (intro w1 hSw; (try dsimp only at hSw); obtain ⟨h0, h1, -⟩ := hSw; go_simp; try with_reducible rfl)
      try simp only [Act.put, List.setIfInBounds_toArray, List.set_cons_zero, List.set_cons_succ]
      refine wpAnyH_take (i := 5) (oi := { dst := some 17, op := Op.fieldAddr 55 (Operand.tmp 3) 1, type := 0, pos := "ref.go:72", after := #[], guard := none }) (v := ?v105) rfl (by kernel_rfl) (by kernel_rfl) (by kernel_rfl) (fun _ _ _ h => h) (Or.inl ⟨by rfl, ?hy105⟩) (by assumption) ?rest105
      case hy105 => (intro w1 hSw; (try dsimp only at hSw); obtain ⟨h0, h1, -⟩ := hSw; go_simp; try with_reducible rfl)
      try simp only [Act.put, List.setIfInBounds_toArray, List.set_cons_zero, List.set_cons_succ]
      refine wpAnyH_take (i := 6) (oi := { dst := some 18, op := Op.load 9 (Operand.tmp 17), type := 9, pos := "ref.go:72", after := #[{ on := 5, ground := Ground.data }], guard := none }) (v := ?v106) rfl (by kernel_rfl) (by kernel_rfl) (by kernel_rfl) (fun _ _ _ h => h) (Or.inl ⟨by rfl, ?hy106⟩) (by assumption) ?rest106
      case hy106 => (intro w1 hSw; (try dsimp only at hSw); obtain ⟨h0, h1, -⟩ := hSw; go_simp; try with_reducible rfl)
      try simp only [Act.put, List.setIfInBounds_toArray, List.set_cons_zero, List.set_cons_succ]
      refine wpAnyH_ready (rs := [4]) (by kernel_rfl) (by simp) ?_
      refine AllReadyH.cons (o := { dst := some 16, op := Op.call { callee := Callee.value (Operand.func 16), args := #[Operand.tmp 12, Operand.tmp 13, Operand.tmp 15], argTypes := #[26, 3, 3] }, type := 29, pos := "ref.go:72", after := #[{ on := 0, ground := Ground.data }, { on := 1, ground := Ground.data }, { on := 3, ground := Ground.data }], guard := none }) rfl (fun K hK => ?_) AllReadyH.nil
      go_simp
      refine (rwant_any (sa := ga) (sl := gl) q1004 HF.out.ok HG.out).mono ?_
      rintro e w1009 ⟨ca, cc, rfl, h1008, hb1010⟩
      have q1011 := q1004.later hb1010
      have q1012 := q1005.later hb1010
      have q1013 := q1006.trans (hb1010.mono q1006.size)
      have q1014 := q1007.trans (hb1010.mono q1007.size)
      refine hK.out _ _ (⟨q1012.cell 0, q1012.cell 1, trivial⟩) (fun hHeld => ?_)
      clear hK K
      try simp only [Act.put, List.setIfInBounds_toArray, List.set_cons_zero, List.set_cons_succ]
      refine wpAnyH_ready (rs := [7]) (by kernel_rfl) (by simp) ?_
      refine AllReadyH.cons (o := { dst := some 19, op := Op.call { callee := Callee.value (Operand.func 41), args := #[Operand.tmp 16, Operand.tmp 18], argTypes := #[29, 9] }, type := 4, pos := "ref.go:72", after := #[{ on := 4, ground := Ground.data }, { on := 6, ground := Ground.data }, { on := 4, ground := Ground.chain }], guard := none }) rfl (fun K hK => ?_) AllReadyH.nil
      go_simp
      refine (rhas_any (sa := ga) (sl := gl) h1008 HXL.out HBn.out).mono ?_
      rintro e w1015 ⟨rfl, hb1016⟩
      have q1017 := q1011.later hb1016
      have q1018 := q1012.later hb1016
      have q1019 := q1013.trans (hb1016.mono q1013.size)
      have q1020 := q1014.trans (hb1016.mono q1014.size)
      have q1021 := h1008.later hb1016
      refine hK.out _ _ (⟨q1018.cell 0, q1018.cell 1, trivial⟩) (fun hHeld => ?_)
      clear hK K
      try simp only [Act.put, List.setIfInBounds_toArray, List.set_cons_zero, List.set_cons_succ]
      refine wpAnyH_take (i := 8) (oi := { dst := some 7, op := Op.assign (Operand.tmp 19), type := 4, pos := "ref.go:72", after := #[{ on := 7, ground := Ground.data }, { on := 7, ground := Ground.chain }, { on := 0, ground := Ground.phase }, { on := 1, ground := Ground.phase }, { on := 2, ground := Ground.phase }, { on := 3, ground := Ground.phase }, { on := 4, ground := Ground.phase }, { on := 5, ground := Ground.phase }, { on := 6, ground := Ground.phase }, { on := 7, ground := Ground.phase }], guard := none }) (v := ?v107) rfl (by kernel_rfl) (by kernel_rfl) (by kernel_rfl) (fun _ _ _ h => h) (Or.inl ⟨by rfl, ?hy107⟩) (by assumption) ?rest107
      case hy107 => (intro w1 hSw; (try dsimp only at hSw); obtain ⟨h0, h1, -⟩ := hSw; go_simp; try with_reducible rfl)
      try simp only [Act.put, List.setIfInBounds_toArray, List.set_cons_zero, List.set_cons_succ]
      refine wpAnyH_done (by kernel_rfl) ?_ _
      have HOW := Lib.hid (ownsRow_later HOW.out q1020)
      have HBW := Lib.hid q1019
      obtain ⟨w3, hw3⟩ : ∃ w3 : World, w1015 = w3 := ⟨_, rfl⟩
      rw [hw3] at HOW HBW ⊢
      clear hw3 q1017 q1018 q1019 q1020 q1021
      cases B with
      | false =>
        have HNX := Lib.hid (show whoL W k x (n + 1) = whoL W k x n by rw [whoL_next, HBB.out]; simp)
        go_wp2_with fail
        go_roundw
        case rel => exact ⟨n + 1, by go_num, by omega, by rw [HNX.out]; exact HOW.out, HBW.out⟩
        case measure => simp [intOf]; omega
      | true =>
        have HNX := Lib.hid (show whoL W k x (n + 1) = whoL W k x n ++ [(n : Int) + 1] by rw [whoL_next, HBB.out]; simp)
        have hwl := whoL_len W k x n
        have hs3 : w1.heap.size ≤ w3.heap.size := HBW.out.size
        go_wp2_with (at_builtin; go_must (refine wpList_append_own _ rfl _ _ 56 rfl w1.heap.size 3 i0 _ 1 8 Tryz.underlying56 hi hz0 hz1 hz2 rfl (by omega) _ _ _ rfl (HOW.out.alloc _) ⟨w3.heap.size, 0, none⟩ 1 1 (isV [(n : Int) + 1]) rfl rfl (World.news_of_block (cs := #[.int .i64 ((n : Int) + 1)]) (t := 3) (fr := (0, 0)) (heap_alloc_new w3 _)) (isV_one _) (by unfold maxLen; omega) (by omega) (by simp; omega) ?_; intro v4 w4 hown4 hgrow4 _))
        have HOW4 := Lib.hid (show w4.ownsRow w1.heap.size 3 1 v4 (whoL W k x (n + 1)).length (isV (whoL W k x (n + 1))) by rw [HNX.out, isV_append, List.length_append]; exact hown4)
        have HBW4 := Lib.hid ((HBW.out.alloc hs3 _).grown hgrow4 (by simp; omega) (fun j hj => (HOW.out.lt j hj).1))
        clear hown4 hgrow4
        go_wp2_with fail
        go_roundw
        case rel => exact ⟨n + 1, by go_num, by omega, HOW4.out, HBW4.out⟩
        case measure => simp [intOf]; omega
    · obtain rfl : n = 32 := by omega
      have b1 : ¬ (((32 : Nat) : Int) + 1 ≤ 32) := by omega
      rw [show ((32 : Nat) : Int) + 1 = 33 from rfl] at b1 ⊢
      have HR := Lib.hid (RowV.own hown)
      have HBB := Lib.hid (HB.out.trans (hb.mono HB.out.size))
      obtain ⟨a4, c4, rfl⟩ := owns_slice hown
      clear hown hb hn hlt
      go_wp2_with fail
      go_ret
      exact ⟨a4, c4, rfl, HR.out, HBB.out⟩
end Go.Proofs.YtkjfafnnnkjoeaaGreatDoor
namespace Go.Proofs.YtkjfafnnnkjoeaaGreatDoor
open Go.RowKit Go.Lib

def anyN (W : Wants) (i : Int) : Nat → Bool
  | 0 => false
  | n + 1 => anyN W i n || !nEmpty (W i ((n + 1 : Nat) : Int))
theorem any_wants (W : Wants) (i : Int) : wantsAny W i = anyN W i 5 := by
  unfold wantsAny
  simp only [List.any_cons, List.any_nil, anyN, Bool.false_or, Bool.or_false]
  simp only [Bool.or_assoc]
  rfl
theorem any_bad {W : Wants} (hw : WOk W) {i : Int} (h : i < 1 ∨ 32 < i) : wantsAny W i = false := by
  rw [any_wants]
  have hz : ∀ k, W i k = Ns.zero := fun k => hw.z i k (by unfold badI; simp; omega)
  simp only [anyN, hz]
  rfl
/-- What comes of Drop. -/
def RDrop (x : Nat) (W : Wants) (i : Int) (w : World) (e : Ending) (w' : World) : Prop := e = .returned (.int .i64 (chkD W i : Int)) ∧ RfM w' x (dropW W i) ∧ OnlyX x w w'
theorem drop_none {W : Wants} {i : Int} (h : wantsAny W i = false) : chkD W i = 5 ∧ dropW W i = W := by
  have e : chkD W i = 5 := by unfold chkD; rw [h]; rfl
  exact ⟨e, by unfold dropW; rw [e]; rfl⟩
theorem drop_some {W : Wants} {i : Int} (h : wantsAny W i = true) : chkD W i = 0 ∧ dropW W i = wdrop W i := by
  have e : chkD W i = 0 := by unfold chkD; rw [h]; rfl
  exact ⟨e, by unfold dropW; rw [e]; rfl⟩
/-- Six sets that are taken out. -/
theorem RfM.drop {w : World} {x : Nat} {W : Wants} (h : RfM w x W) (hw : WOk W) {i : Nat} (hi : i < 33) :
    RfM ((((((((((((w.setCell ⟨x, i * 12, none⟩ (.bool false)).setCell ⟨x, i * 12 + 1, none⟩ (.slice none 0 0)).setCell ⟨x, i * 12 + 2, none⟩ (.bool false)).setCell ⟨x, i * 12 + 3, none⟩ (.slice none 0 0)).setCell ⟨x, i * 12 + 4, none⟩ (.bool false)).setCell ⟨x, i * 12 + 5, none⟩ (.slice none 0 0)).setCell ⟨x, i * 12 + 6, none⟩ (.bool false)).setCell ⟨x, i * 12 + 7, none⟩ (.slice none 0 0)).setCell ⟨x, i * 12 + 8, none⟩ (.bool false)).setCell ⟨x, i * 12 + 9, none⟩ (.slice none 0 0)).setCell ⟨x, i * 12 + 10, none⟩ (.bool false)).setCell ⟨x, i * 12 + 11, none⟩ (.slice none 0 0)) x (wdrop W i) ∧
    OnlyX x w ((((((((((((w.setCell ⟨x, i * 12, none⟩ (.bool false)).setCell ⟨x, i * 12 + 1, none⟩ (.slice none 0 0)).setCell ⟨x, i * 12 + 2, none⟩ (.bool false)).setCell ⟨x, i * 12 + 3, none⟩ (.slice none 0 0)).setCell ⟨x, i * 12 + 4, none⟩ (.bool false)).setCell ⟨x, i * 12 + 5, none⟩ (.slice none 0 0)).setCell ⟨x, i * 12 + 6, none⟩ (.bool false)).setCell ⟨x, i * 12 + 7, none⟩ (.slice none 0 0)).setCell ⟨x, i * 12 + 8, none⟩ (.bool false)).setCell ⟨x, i * 12 + 9, none⟩ (.slice none 0 0)).setCell ⟨x, i * 12 + 10, none⟩ (.bool false)).setCell ⟨x, i * 12 + 11, none⟩ (.slice none 0 0)) := by
  have z : ∀ w : World, TsAt w (.slice none Ns.zero.ns.length 0) Ns.zero.ns := fun w => RowV.nil w none 0 (Nat.zero_le _)
  have h0 := h.put hi (k := 0) (by omega) (z _)
  have h1 := h0.put hi (k := 1) (by omega) (z _)
  have h2 := h1.put hi (k := 2) (by omega) (z _)
  have h3 := h2.put hi (k := 3) (by omega) (z _)
  have h4 := h3.put hi (k := 4) (by omega) (z _)
  have h5 := h4.put hi (k := 5) (by omega) (z _)
  have g : ∀ (w : World) (j j' : Nat) (u u' : Value), OnlyX x w ((w.setCell ⟨x, j, none⟩ u).setCell ⟨x, j', none⟩ u') := fun w j j' u u' => grown_setc w x j j' u u'
  refine ⟨?_, (((((g w _ _ _ _).trans (g _ _ _ _ _)).trans (g _ _ _ _ _)).trans (g _ _ _ _ _)).trans (g _ _ _ _ _)).trans (g _ _ _ _ _)⟩
  have e : wset (wset (wset (wset (wset (wset W i (0 : Nat) Ns.zero) i (1 : Nat) Ns.zero) i (2 : Nat) Ns.zero) i (3 : Nat) Ns.zero) i (4 : Nat) Ns.zero) i (5 : Nat) Ns.zero = wdrop W i := by
    funext i' k'
    unfold wdrop
    by_cases hi' : i' = (i : Int)
    · subst hi'
      rw [if_pos rfl]
      by_cases hk : k' < 0 ∨ 5 < k'
      · have hz : W i k' = Ns.zero := hw.z _ _ (by unfold badI; simp; omega)
        rw [wset_kind (by omega), wset_kind (by omega), wset_kind (by omega), wset_kind (by omega), wset_kind (by omega), wset_kind (by omega)]
        exact hz
      · have hc : k' = 0 ∨ k' = 1 ∨ k' = 2 ∨ k' = 3 ∨ k' = 4 ∨ k' = 5 := by omega
        unfold wset
        rcases hc with rfl | rfl | rfl | rfl | rfl | rfl <;> simp
    · rw [if_neg hi', wset_id hi', wset_id hi', wset_id hi', wset_id hi', wset_id hi', wset_id hi']
  rw [e] at h5
  exact h5
set_option maxRecDepth 100000 in
set_option maxHeartbeats 4000000 in
theorem rdrop_any {x : Nat} {i : Int} {W : Wants} {w : World} (h : RfM w x W) (hw : WOk W) :
    Calls Tryz.prog 7 #[.pointer (some ⟨x, 0, none⟩), .int .i64 i] w (RDrop x W i w) := by
  have H := Lib.hid h
  have HF := Lib.hid hw
  clear h hw
  by_cases hg : 1 ≤ i ∧ i ≤ 32
  · obtain ⟨g1, g5⟩ := hg
    obtain ⟨im, rfl⟩ := Int.eq_ofNat_of_zero_le (show 0 ≤ i by omega)
    have hi33 : im < 33 := by omega
    have d1 : (1 : Int) ≤ (im : Int) := g1
    have d5 : (im : Int) ≤ 32 := g5
    have d0 : (0 : Int) ≤ (im : Int) := by omega
    have d6 : (im : Int) < 33 := by omega
    clear g1 g5
    go_enter Tryz.func7, Tryz.ntmps7
    go_wp2_with fail
    go_loopw [5, 6] (fun v k wr => ∃ n : Nat, k = .int .i64 ((n + 1 : Nat) : Int) ∧ n ≤ 5 ∧ v = .bool (anyN W im n) ∧ Below w.heap.size w wr) (fun _ k _ => 6 - (RowKit.intOf k).toNat)
    case atStart => exact ⟨0, rfl, Nat.zero_le _, rfl, Below.refl _ _⟩
    case round =>
      obtain ⟨n, rfl, hn, rfl, hb⟩ := hrel
      obtain ⟨k, hk⟩ : ∃ k, n + 1 = k := ⟨_, rfl⟩
      rw [hk]
      by_cases hlt : n < 5
      · obtain ⟨a, c, c0, c1, -⟩ := (H.out.later hb).at (i := im) (k := k) hi33 (by omega)
        have b1 : (k : Int) ≤ 5 := by omega
        have b2 : (0 : Int) ≤ (k : Int) := by omega
        have b3 : (k : Int) < 6 := by omega
        have b4 : IntKind.i64.wrap ((k : Int) + 1) = (k : Int) + 1 := by rw [IntKind.wrap_i64]; omega
        obtain ⟨P, hP⟩ : ∃ P, anyN W im n = P := ⟨_, rfl⟩
        obtain ⟨E, hE⟩ : ∃ E, nEmpty (W im k) = E := ⟨_, rfl⟩
        have HN := Lib.hid (show anyN W im k = (P || !E) by rw [← hk]; show (anyN W im n || !nEmpty (W im ((n + 1 : Nat) : Int))) = _; rw [hk, hP, hE])
        have HE := Lib.hid hE
        have HL := Lib.hid hb
        have HK := Lib.hid (And.intro hk hlt)
        rw [hP]
        clear hb hP hE hk hlt hn
        go_wp2_with fail
        refine (rempty_any (sa := (W im k).all) (sl := (W im k).ns) HE.out).mono ?_
        rintro e w2 ⟨rfl, hb⟩
        have HL := Lib.hid (HL.out.trans (hb.mono HL.out.size))
        clear hb
        cases P <;> cases E
        all_goals
          go_wp2_with fail
          go_roundw
          case rel => exact ⟨k, by go_num, by have := HK.out; omega, by rw [HN.out]; rfl, HL.out⟩
          case measure => have := HK.out; simp [RowKit.intOf]; omega
      · obtain rfl : n = 5 := by omega
        subst hk
        have b1 : ¬ (((5 + 1 : Nat)) : Int) ≤ 5 := by decide
        have hr := H.out.later hb
        have hd := hr.drop HF.out hi33
        have HR := Lib.hid hr
        have HD := Lib.hid hd
        have HL := Lib.hid hb
        obtain ⟨P, hP⟩ : ∃ P, anyN W im 5 = P := ⟨_, rfl⟩
        have HP := Lib.hid ((any_wants W im).trans hP)
        rw [hP]
        clear hb hr hd hP hlt hn
        cases P with
        | false =>
          go_wp2_with fail
          go_ret
          have hdn := drop_none HP.out
          exact ⟨by rw [hdn.1]; rfl, by rw [hdn.2]; exact HR.out, OnlyX.of HL.out⟩
        | true =>
          obtain ⟨A0, C0, p0, p1, -⟩ := HR.out.at (i := im) (k := 0) hi33 (by omega)
          obtain ⟨A1, C1, p2, p3, -⟩ := HR.out.at (i := im) (k := 1) hi33 (by omega)
          obtain ⟨A2, C2, p4, p5, -⟩ := HR.out.at (i := im) (k := 2) hi33 (by omega)
          obtain ⟨A3, C3, p6, p7, -⟩ := HR.out.at (i := im) (k := 3) hi33 (by omega)
          obtain ⟨A4, C4, p8, p9, -⟩ := HR.out.at (i := im) (k := 4) hi33 (by omega)
          obtain ⟨A5, C5, p10, p11, -⟩ := HR.out.at (i := im) (k := 5) hi33 (by omega)
          simp only [Nat.zero_mul, Nat.add_zero, Nat.one_mul, Nat.reduceMul, Nat.add_assoc, Nat.reduceAdd] at p0 p1 p2 p3 p4 p5 p6 p7 p8 p9 p10 p11
          have z0 := HR.out.frozen (im * 12)
          have z1 := HR.out.frozen (im * 12 + 1)
          have z2 := HR.out.frozen (im * 12 + 2)
          have z3 := HR.out.frozen (im * 12 + 3)
          have z4 := HR.out.frozen (im * 12 + 4)
          have z5 := HR.out.frozen (im * 12 + 5)
          have z6 := HR.out.frozen (im * 12 + 6)
          have z7 := HR.out.frozen (im * 12 + 7)
          have z8 := HR.out.frozen (im * 12 + 8)
          have z9 := HR.out.frozen (im * 12 + 9)
          have z10 := HR.out.frozen (im * 12 + 10)
          have z11 := HR.out.frozen (im * 12 + 11)
          go_wp2_with fail
          go_ret
          have hdn := drop_some HP.out
          exact ⟨by rw [hdn.1]; rfl, by rw [hdn.2]; exact HD.out.1, (OnlyX.of HL.out).trans HD.out.2⟩
  · have hgo : (¬ (1 : Int) ≤ i) ∨ ((1 : Int) ≤ i ∧ ¬ i ≤ 32) := by omega
    have hdn := drop_none (any_bad HF.out (i := i) (by omega))
    have HD := Lib.hid hdn
    clear hg hdn
    rcases hgo with d1 | ⟨d1, d5⟩
    all_goals
      go_enter Tryz.func7, Tryz.ntmps7
      go_wp2_with fail
      refine wp_loop_rounds 1 ?_
      rw [rounds_succ]
      go_wp2_with fail
      go_ret
      exact ⟨by rw [HD.out.1]; rfl, by rw [HD.out.2]; exact H.out, OnlyX.of (Below.refl _ _)⟩
end Go.Proofs.YtkjfafnnnkjoeaaGreatDoor
namespace Go.Proofs.YtkjfafnnnkjoeaaGreatDoor
open Go.RowKit Go.Lib

/-- How often the first of them name it. -/
def hitsN (W : Wants) (k : Int) (x : List UInt8) : Nat → Nat
  | 0 => 0
  | j + 1 => hitsN W k x j + hitN (W ((j + 1 : Nat) : Int) k) x
theorem hits_le {W : Wants} (hw : WOk W) (k : Int) (x : List UInt8) : ∀ j, hitsN W k x j ≤ j
  | 0 => Nat.le_refl _
  | j + 1 => by have := hits_le hw k x j; have := hit_le (hw.r ((j + 1 : Nat) : Int) k) x; unfold hitsN; omega
theorem hits_count {W : Wants} (hw : WOk W) (k : Int) (x : List UInt8) : ∀ n, hitsN W k x n = ((List.range n).map fun j => ((j + 1 : Nat) : Int)).countP fun i => (nList (W i k)).contains x
  | 0 => rfl
  | n + 1 => by
    rw [List.range_succ, List.map_append, List.countP_append, ← hits_count hw k x n]
    show hitsN W k x n + hitN (W ((n + 1 : Nat) : Int) k) x = _
    rw [hit_of (hw.r _ k)]
    simp [List.countP_cons]
theorem hits_all {W : Wants} (hw : WOk W) (k : Int) (x : List UInt8) : hitsN W k x 32 = cnt W k x := hits_count hw k x 32
structure OwnT (B : Nat) (v : Value) (l : List (List UInt8)) (w : World) : Prop where
  own : w.ownsRow B 9 1 v l.length (tsV l)
theorem OwnT.later {B : Nat} {v : Value} {l : List (List UInt8)} {w w' : World} (h : OwnT B v l w) (hb : Below w.heap.size w w') : OwnT B v l w' := ⟨ownsRow_later h.own hb⟩
theorem rdigits_is {n : Nat} {D : List UInt8} {w : World} (hn : n ≤ 99) (hD : dgT n = D) : Calls Tryz.prog 43 #[.int .u64 (n : Int)] w fun e w' => e = .returned (.string ⟨D.toArray⟩) ∧ Below w.heap.size w w' := by
  subst hD
  exact rdigits_any hn
theorem keyT_len (W : Wants) (k : Int) (x : List UInt8) : (keyT W k x).length ≤ x.length + 3 := by
  unfold keyT
  have := dgT_len (cnt W k x)
  simp only [List.length_append, List.length_singleton]
  omega
set_option maxRecDepth 100000 in
set_option maxHeartbeats 8000000 in
theorem rkeys_any {X km : Nat} {W : Wants} {w : World} (h : RfM w X W) (hf : RFit W) (hk : 1 ≤ km ∧ km ≤ 5) :
    Calls Tryz.prog 24 #[.pointer (some ⟨X, 0, none⟩), .int .i64 (km : Int)] w (TextsPost (keyL W km) w) := by
  obtain ⟨i0, hi, hz0, hz1, hz2⟩ := info_parts Tryz.infoStr
  have H := Lib.hid h
  have HF := Lib.hid hf
  obtain ⟨ua, ul, hu⟩ : ∃ ua ul, uni W km = ⟨ua, ul⟩ := ⟨_, _, rfl⟩
  have hu1 := uni_rfit hf km
  rw [hu] at hu1
  obtain ⟨UL, hUL⟩ : ∃ UL, nList ⟨ua, ul⟩ = UL := ⟨_, rfl⟩
  have hKL : keyL W km = UL.map (keyT W km) := by unfold keyL; rw [hu, hUL]
  rw [hKL]
  have hn : UL.length ≤ 10000 := by rw [← hUL]; exact hu1.2.2
  have hx64 : ∀ x ∈ UL, x.length ≤ 1000 := fun x hx => by
    rw [← hUL] at hx
    exact rlist_len (s := ⟨ua, ul⟩) (fun y hy => by
      have hy' : y ∈ (uni W km).ns := by rw [hu]; exact hy
      obtain ⟨i, _, hi⟩ := (mem_uni W km y).1 hy'
      exact hf.l i km y hi) hx
  have HX64 := Lib.hid hx64
  have HU := Lib.hid hu
  have HUL := Lib.hid hUL
  have HKB := Lib.hid (show i64B (km : Int) from i64_small (by omega))
  have b3 : (0 : Int) ≤ (km : Int) := by omega
  have b4 : (km : Int) < 6 := by omega
  have k6 : km < 6 := by omega
  clear h hf hu hu1 hUL hKL hx64 hk
  go_enter Tryz.func24, Tryz.ntmps24
  go_wp2_with fail
  refine (runi_any H.out HF.out HKB.out HU.out).mono ?_
  rintro e w1 ⟨ou, du, rfl, ht, hb⟩
  dsimp only
  have HT := Lib.hid ht
  have H := Lib.hid (H.out.later hb)
  have HB := Lib.hid hb
  clear ht hb
  go_wp2_with fail
  refine (rlist_any (sa := ua) (sl := ul) (L := UL) HT.out HUL.out (by omega)).mono ?_
  rintro e w2 ⟨uA, uC, rfl, hrow, hb⟩
  dsimp only
  have HTU := Lib.hid (show TsAt w2 (.slice uA UL.length uC) UL from RowV.own hrow)
  have H := Lib.hid (H.out.later hb)
  have HB := Lib.hid (HB.out.trans (hb.mono HB.out.size))
  clear hrow hb HT
  go_wp2_with fail
  go_loopw [6, 7] (fun v vi wr => ∃ i : Nat, vi = .int .i64 (i : Int) ∧ i ≤ UL.length ∧ OwnT w2.heap.size v ((UL.take i).map (keyT W km)) wr ∧ Below w2.heap.size w2 wr) (fun _ vi _ => UL.length - (intOf vi).toNat)
  case atStart => exact ⟨0, rfl, Nat.zero_le _, ⟨World.ownsRow_nil _ _ _ _⟩, Below.refl _ _⟩
  case round =>
    obtain ⟨i, rfl, hil, hown, hb⟩ := hrel
    by_cases hlt : i < UL.length
    · have c1 : (i : Int) < (UL.length : Int) := by omega
      have c2 : IntKind.i64.wrap ((i : Int) + 1) = (i : Int) + 1 := by rw [IntKind.wrap_i64]; omega
      have c3 : (0 : Int) ≤ (i : Int) := by omega
      obtain ⟨x, hx⟩ : ∃ x, UL[i] = x := ⟨_, rfl⟩
      obtain ⟨KL, hKL⟩ : ∃ KL, (UL.take i).map (keyT W km) = KL := ⟨_, rfl⟩
      rw [hKL] at hown
      have hKn : KL.length = i := by rw [← hKL, List.length_map, List.length_take]; omega
      have HNX := Lib.hid (show (UL.take (i + 1)).map (keyT W km) = KL ++ [keyT W km x] by rw [List.take_add_one, List.getElem?_eq_getElem hlt, List.map_append, hKL, hx]; rfl)
      have hxl : x.length ≤ 1000 := HX64.out x (hx ▸ List.getElem_mem hlt)
      obtain ⟨oA, oC, rfl⟩ := owns_slice hown.own
      have HOW := Lib.hid hown
      have HBW := Lib.hid hb
      obtain ⟨ub, uo, hua, u0⟩ := ts_cell HTU.out hlt
      subst hua
      rw [hx] at u0
      have HU0 := Lib.hid u0
      have HLT := Lib.hid hlt
      have HKN := Lib.hid hKn
      clear hown hb hx u0 hlt hKL hKn
      go_wp2_with fail
      go_loopw [8, 9] (fun vn vid wr => ∃ j : Nat, vid = .int .i64 ((j + 1 : Nat) : Int) ∧ j ≤ 32 ∧ vn = .int .u64 (hitsN W km x j : Int) ∧ OwnT w2.heap.size (.slice oA KL.length oC) KL wr ∧ Below w2.heap.size w2 wr) (fun _ vid _ => 33 - (intOf vid).toNat)
      case atStart => exact ⟨0, rfl, Nat.zero_le _, rfl, HOW.out, HBW.out⟩
      case round =>
        clear HOW HBW
        obtain ⟨j, rfl, hj, rfl, hown, hb⟩ := hrel
        obtain ⟨d, hd⟩ : ∃ d, j + 1 = d := ⟨_, rfl⟩
        rw [hd]
        by_cases hjl : j < 32
        · have e1 : (d : Int) ≤ 32 := by omega
          have e2 : (0 : Int) ≤ (d : Int) := by omega
          have e3 : (d : Int) < 33 := by omega
          have e4 : IntKind.i64.wrap ((d : Int) + 1) = (d : Int) + 1 := by rw [IntKind.wrap_i64]; omega
          have hh := hits_le HF.out.ok (km : Int) x j
          obtain ⟨g, hg⟩ : ∃ g, hitsN W km x j = g := ⟨_, rfl⟩
          rw [hg] at hh ⊢
          have HG := Lib.hid (show hitsN W km x d = g + hitN (W d km) x by rw [← hd]; show hitsN W km x j + hitN (W ((j + 1 : Nat) : Int) km) x = _; rw [hg])
          obtain ⟨a, c, p0, p1, ht⟩ := (H.out.later hb).at (i := d) (k := km) (by omega) k6
          obtain ⟨wa, wl, hw⟩ : ∃ wa wl, W d km = ⟨wa, wl⟩ := ⟨_, _, rfl⟩
          have hn2 := HF.out.n d km
          rw [hw] at p0 p1 ht hn2 HG
          dsimp only at p0 p1 ht hn2
          obtain ⟨L, hL⟩ : ∃ L, nList ⟨wa, wl⟩ = L := ⟨_, rfl⟩
          have hLn : L.length ≤ 201 := by rw [← hL]; have := list_len (⟨wa, wl⟩ : Ns); dsimp only at this; omega
          have HLL := Lib.hid hL
          have HTW := Lib.hid ht
          have HOW := Lib.hid hown
          have HBW := Lib.hid hb
          have HD := Lib.hid (And.intro hd hjl)
          have hgl : g ≤ 32 := by omega
          clear hown hb hd hj hjl hg hw ht hL hn2
          go_wp2_with fail
          refine (rlist_any (sa := wa) (sl := wl) (L := L) HTW.out HLL.out (by omega)).mono ?_
          rintro e w3 ⟨lA, lC, rfl, hrow, hb⟩
          dsimp only
          have HTL := Lib.hid (show TsAt w3 (.slice lA L.length lC) L from RowV.own hrow)
          have HOW := Lib.hid (HOW.out.later hb)
          have HBW := Lib.hid (HBW.out.trans (hb.mono HBW.out.size))
          clear hrow hb p0 p1 HTW
          go_wp2_with fail
          go_loopw [8, 11] (fun vn vj wr => ∃ t : Nat, vj = .int .i64 (t : Int) ∧ t ≤ L.length ∧ vn = .int .u64 ((g + (L.take t).countP (· == x) : Nat) : Int) ∧ Below w3.heap.size w3 wr) (fun _ vj _ => L.length - (intOf vj).toNat)
          case atStart => exact ⟨0, rfl, Nat.zero_le _, by simp, Below.refl _ _⟩
          case round =>
            obtain ⟨t, rfl, htl, rfl, hb⟩ := hrel
            by_cases hlt : t < L.length
            · have f1 : (t : Int) < (L.length : Int) := by omega
              have f2 : IntKind.i64.wrap ((t : Int) + 1) = (t : Int) + 1 := by rw [IntKind.wrap_i64]; omega
              obtain ⟨q, hq⟩ : ∃ q : Nat, g + (L.take t).countP (· == x) = q := ⟨_, rfl⟩
              have hql : q ≤ 1000 := by have := List.countP_le_length (p := (· == x)) (l := L.take t); rw [List.length_take] at this; omega
              rw [hq]
              have f3 : IntKind.u64.wrap ((q : Int) + 1) = (q : Int) + 1 := u64_small (by omega)
              obtain ⟨gb, go, hga, g1⟩ := ts_cell (HTL.out.later hb) hlt
              subst hga
              have u1 := below_cell (HBW.out.trans (hb.mono HBW.out.size)) HU0.out
              obtain ⟨y, hy⟩ : ∃ y, L[t] = y := ⟨_, rfl⟩
              rw [hy] at g1
              have HY := Lib.hid hy
              have HQ := Lib.hid hq
              have HBj := Lib.hid hb
              clear hy hq hb htl
              go_wp2_with fail
              go_region_held3 (fun w' => w'.cell? ⟨gb, go + t, none⟩ = some (.string ⟨y.toArray⟩) ∧ w'.cell? ⟨ub, uo + i, none⟩ = some (.string ⟨x.toArray⟩)) (with_reducible first | exact ⟨g1, u1⟩ | go_keep) (fail)
              obtain ⟨B, hB⟩ : ∃ B, (y == x) = B := ⟨_, rfl⟩
              rw [hB]
              cases B with
              | true =>
                have HN := Lib.hid (show g + (L.take (t + 1)).countP (· == x) = q + 1 by rw [hit_yes hlt (HY.out.trans (by simpa using hB)), ← HQ.out]; omega)
                clear hB g1 u1
                go_wp2_with fail
                go_roundw
                case rel => exact ⟨t + 1, by go_num, by omega, by rw [HN.out]; go_num, by first | exact HBj.out.drew | exact HBj.out⟩
                case measure => simp [intOf]; omega
              | false =>
                have HN := Lib.hid (show g + (L.take (t + 1)).countP (· == x) = q by rw [hit_no hlt (fun e => by rw [HY.out] at e; rw [e] at hB; simp at hB), ← HQ.out])
                clear hB g1 u1
                go_wp2_with fail
                go_roundw
                case rel => exact ⟨t + 1, by go_num, by omega, by rw [HN.out], by first | exact HBj.out.drew | exact HBj.out⟩
                case measure => simp [intOf]; omega
            · have HN := Lib.hid (show g + (L.take t).countP (· == x) = hitsN W km x d by rw [hit_all HLL.out x (by omega), HG.out])
              have f1 : ¬ (t : Int) < (L.length : Int) := by omega
              rw [HN.out]
              have HOW := Lib.hid (HOW.out.later hb)
              have HBW := Lib.hid (HBW.out.trans (hb.mono HBW.out.size))
              clear hb htl hlt
              go_wp2_with fail
              go_roundw
              case rel => exact ⟨d, by go_num, by have := HD.out; omega, rfl, HOW.out, HBW.out⟩
              case measure => have := HD.out; simp [intOf]; omega
        · obtain rfl : j = 32 := by omega
          subst hd
          have e1 : ¬ (((32 + 1 : Nat)) : Int) ≤ 32 := by decide
          have HCN := hits_all HF.out.ok (km : Int) x
          rw [HCN]
          have hcl := cnt_le W (km : Int) x
          have HKT := Lib.hid (show keyT W km x = x ++ [32] ++ dgT (cnt W km x) from rfl)
          obtain ⟨q, hq⟩ : ∃ q, cnt W km x = q := ⟨_, rfl⟩
          rw [hq] at hcl HKT ⊢
          have HOW := Lib.hid hown
          have HBW := Lib.hid hb
          clear hown hb hj hjl hq HCN
          go_wp2_with fail
/- region 16 -/
          obtain ⟨D, hD⟩ : ∃ D, dgT q = D := ⟨_, rfl⟩
          have hDl : D.length ≤ 2 := by rw [← hD]; exact dgT_len q
          rw [hD] at HKT
          have HDD := Lib.hid hD
          obtain ⟨y1, hy1⟩ : ∃ y1, x ++ [32] = y1 := ⟨_, rfl⟩
          obtain ⟨z, hz⟩ : ∃ z, y1 ++ D = z := ⟨_, rfl⟩
          have hyl : y1.length = x.length + 1 := by rw [← hy1, List.length_append]; rfl
          rw [hy1, hz] at HKT
          have hcat1 : ({ data := x.toArray } : ByteArray) ++ { data := #[32] } = { data := y1.toArray } := by rw [← hy1]; exact cat_two
          have hcat2 : ({ data := y1.toArray } : ByteArray) ++ { data := D.toArray } = { data := z.toArray } := by rw [← hz]; exact cat_bytes y1 D
          have hxn1 : ¬ 9223372036854775807 < x.length + 1 := by omega
          have hxn2 : ¬ 9223372036854775807 < y1.length + D.length := by omega
          have HQ99 := Lib.hid (show q ≤ 99 by omega)
          clear hD hy1 hz hcl hyl
          obtain ⟨w1001, hw1002, hb1003⟩ := drew_new wr
          have q1004 := HOW.out.later hb1003
          have q1005 := HBW.out.trans (hb1003.mono HBW.out.size)
          refine wp_region_held_drew (S := (fun w' => w'.cell? ⟨ub, uo + i, none⟩ = some (.string ⟨x.toArray⟩) ∧ True)) (by kernel_rfl) (by rw [hw1002]; exact ⟨below_cell q1005 HU0.out, trivial⟩) (fun hHeld => ?_)
          rw [hw1002] at hHeld ⊢
          refine wpAnyH_take (i := 0) (oi := { dst := some 52, op := Op.move (Operand.tmp 6), type := 27, pos := "ref.go:94", after := #[], guard := none }) (v := ?v101) rfl (by kernel_rfl) (by kernel_rfl) (by kernel_rfl) (fun _ _ _ h => h) (Or.inl ⟨by rfl, ?hy101⟩) (by assumption) ?rest101
          case hy101 => (intro w1 hSw; (try dsimp only at hSw); obtain ⟨h0, -⟩ := hSw; go_simp; try with_reducible rfl)
          try simp only [Act.put, List.setIfInBounds_toArray, List.set_cons_zero, List.set_cons_succ]
          refine wpAnyH_take (i := 1) (oi := { dst := some 53, op := Op.move (Operand.tmp 5), type := 27, pos := "ref.go:94", after := #[], guard := none }) (v := ?v102) rfl (by kernel_rfl) (by kernel_rfl) (by kernel_rfl) (fun _ _ _ h => h) (Or.inl ⟨by rfl, ?hy102⟩) (by assumption) ?rest102
          case hy102 => (intro w1 hSw; (try dsimp only at hSw); obtain ⟨h0, -⟩ := hSw; go_simp; try with_reducible rfl)
          try simp only [Act.put, List.setIfInBounds_toArray, List.set_cons_zero, List.set_cons_succ]
          refine wpAnyH_take (i := 2) (oi := { dst := some 54, op := Op.move (Operand.tmp 7), type := 3, pos := "ref.go:94", after := #[], guard := none }) (v := ?v103) rfl (by kernel_rfl) (by kernel_rfl) (by kernel_rfl) (fun _ _ _ h => h) (Or.inl ⟨by rfl, ?hy103⟩) (by assumption) ?rest103
          case hy103 => (intro w1 hSw; (try dsimp only at hSw); obtain ⟨h0, -⟩ := hSw; go_simp; try with_reducible rfl)
          try simp only [Act.put, List.setIfInBounds_toArray, List.set_cons_zero, List.set_cons_succ]
          refine wpAnyH_take (i := 3) (oi := { dst := some 55, op := Op.indexAddr 27 (Operand.tmp 53) (Operand.tmp 54), type := 0, pos := "ref.go:94", after := #[{ on := 1, ground := Ground.data }, { on := 2, ground := Ground.data }], guard := none }) (v := ?v104) rfl (by kernel_rfl) (by kernel_rfl) (by kernel_rfl) (fun _ _ _ h => h) (Or.inl ⟨by rfl, ?hy104⟩) (by assumption) ?rest104
          case hy104 => (intro w1 hSw; (try dsimp only at hSw); obtain ⟨h0, -⟩ := hSw; go_simp; try with_reducible rfl)
          try simp only [Act.put, List.setIfInBounds_toArray, List.set_cons_zero, List.set_cons_succ]
          refine wpAnyH_take (i := 4) (oi := { dst := some 56, op := Op.load 9 (Operand.tmp 55), type := 9, pos := "ref.go:94", after := #[{ on := 3, ground := Ground.data }], guard := none }) (v := ?v105) rfl (by kernel_rfl) (by kernel_rfl) (by kernel_rfl) (fun _ _ _ h => h) (Or.inl ⟨by rfl, ?hy105⟩) (by assumption) ?rest105
          case hy105 => (intro w1 hSw; (try dsimp only at hSw); obtain ⟨h0, -⟩ := hSw; go_simp; try with_reducible rfl)
          try simp only [Act.put, List.setIfInBounds_toArray, List.set_cons_zero, List.set_cons_succ]
          refine wpAnyH_take (i := 5) (oi := { dst := some 57, op := Op.binOp BinOp.add 9 (Operand.tmp 56) (Operand.const (Value.string { data := #[32] })) 9, type := 9, pos := "ref.go:94", after := #[{ on := 4, ground := Ground.data }], guard := none }) (v := ?v106) rfl (by kernel_rfl) (by kernel_rfl) (by kernel_rfl) (fun _ _ _ h => h) (Or.inl ⟨by rfl, ?hy106⟩) (by assumption) ?rest106
          case hy106 => (intro w1 hSw; (try dsimp only at hSw); obtain ⟨h0, -⟩ := hSw; go_simp; try with_reducible rfl)
          try simp only [Act.put, List.setIfInBounds_toArray, List.set_cons_zero, List.set_cons_succ]
          refine wpAnyH_take (i := 6) (oi := { dst := some 58, op := Op.move (Operand.tmp 8), type := 86, pos := "ref.go:94", after := #[], guard := none }) (v := ?v107) rfl (by kernel_rfl) (by kernel_rfl) (by kernel_rfl) (fun _ _ _ h => h) (Or.inl ⟨by rfl, ?hy107⟩) (by assumption) ?rest107
          case hy107 => (intro w1 hSw; (try dsimp only at hSw); obtain ⟨h0, -⟩ := hSw; go_simp; try with_reducible rfl)
          try simp only [Act.put, List.setIfInBounds_toArray, List.set_cons_zero, List.set_cons_succ]
          refine wpAnyH_ready (rs := [7]) (by kernel_rfl) (by simp) ?_
          refine AllReadyH.cons (o := { dst := some 59, op := Op.call { callee := Callee.value (Operand.func 43), args := #[Operand.tmp 58], argTypes := #[86] }, type := 9, pos := "ref.go:94", after := #[{ on := 6, ground := Ground.data }], guard := none }) rfl (fun K hK => ?_) AllReadyH.nil
          go_simp
          refine (rdigits_is HQ99.out HDD.out).mono ?_
          rintro e w1006 ⟨rfl, hb1007⟩
          have q1008 := q1004.later hb1007
          have q1009 := q1005.trans (hb1007.mono q1005.size)
          refine hK.out _ _ (⟨below_cell q1009 HU0.out, trivial⟩) (fun hHeld => ?_)
          clear hK K
          try simp only [Act.put, List.setIfInBounds_toArray, List.set_cons_zero, List.set_cons_succ]
          refine wpAnyH_take (i := 8) (oi := { dst := some 60, op := Op.binOp BinOp.add 9 (Operand.tmp 57) (Operand.tmp 59) 9, type := 9, pos := "ref.go:94", after := #[{ on := 5, ground := Ground.data }, { on := 7, ground := Ground.data }], guard := none }) (v := ?v108) rfl (by kernel_rfl) (by kernel_rfl) (by kernel_rfl) (fun _ _ _ h => h) (Or.inl ⟨by rfl, ?hy108⟩) (by assumption) ?rest108
          case hy108 => (intro w1 hSw; (try dsimp only at hSw); obtain ⟨h0, -⟩ := hSw; go_simp; try with_reducible rfl)
          try simp only [Act.put, List.setIfInBounds_toArray, List.set_cons_zero, List.set_cons_succ]
          refine wpAnyH_ready (rs := [9]) (by kernel_rfl) (by simp) ?_
          refine AllReadyH.cons (o := { dst := some 61, op := Op.buildSlice 27 1 #[(0, Operand.tmp 60)], type := 27, pos := "ref.go:94", after := #[{ on := 8, ground := Ground.data }], guard := none }) rfl (fun K hK => ?_) AllReadyH.nil
          go_simp
          obtain ⟨w1010, hw1011, hb1012, p1013⟩ := alloc_new w1006 #[.string ⟨z.toArray⟩] 9
          have q1014 := q1008.later hb1012
          have q1015 := q1009.trans (hb1012.mono q1009.size)
          rw [hw1011]
          refine hK.out _ _ (⟨below_cell q1015 HU0.out, trivial⟩) (fun hHeld => ?_)
          clear hK K
          try simp only [Act.put, List.setIfInBounds_toArray, List.set_cons_zero, List.set_cons_succ]
          refine wpAnyH_ready (rs := [10]) (by kernel_rfl) (by simp) ?_
          refine AllReadyH.cons (o := { dst := some 62, op := Op.call { callee := Callee.builtin Builtin.append, args := #[Operand.tmp 52, Operand.tmp 61], argTypes := #[27, 27] }, type := 27, pos := "ref.go:94", after := #[{ on := 0, ground := Ground.data }, { on := 9, ground := Ground.data }, { on := 7, ground := Ground.chain }], guard := none }) rfl (fun K hK => ?_) AllReadyH.nil
          skip
          refine step_append_lies _ (by rfl) _ _ _ (by rfl) w2.heap.size 9 i0 _ 1 16 Tryz.underlying27 hi hz0 hz1 hz2 rfl (by omega) _ _ _ (by rfl) q1014.own ⟨w1006.heap.size, 0, none⟩ 1 1 (tsV [z]) (by rfl) (by rfl) (World.news_of_block (cs := #[.string ⟨z.toArray⟩]) (t := 9) (fr := (0, 0)) p1013) (tsV_one _) (by omega) (by have := HKN.out; unfold maxLen; omega) (by have := HKN.out; omega) (by have := q1015.size; omega) _ rfl ?_
          intro gg cc w1016 hown7 hgrow7 _ _
          have hlen7 : (KL ++ [z]).length = KL.length + 1 := by simp
          rw [← tsV_append, ← hlen7] at hown7
          have OW7 : OwnT w2.heap.size _ (KL ++ [z]) w1016 := ⟨hown7⟩
          have LB7 := q1015.grown hgrow7 q1015.size (fun j hj => (q1014.own.lt j hj).1)
          refine hK.out _ _ (⟨below_cell LB7 HU0.out, trivial⟩) (fun hHeld => ?_)
          clear hK K
          try simp only [Act.put, List.setIfInBounds_toArray, List.set_cons_zero, List.set_cons_succ]
          refine wpAnyH_take (i := 11) (oi := { dst := some 6, op := Op.assign (Operand.tmp 62), type := 27, pos := "ref.go:94", after := #[{ on := 10, ground := Ground.data }, { on := 10, ground := Ground.chain }, { on := 0, ground := Ground.phase }, { on := 1, ground := Ground.phase }, { on := 2, ground := Ground.phase }, { on := 3, ground := Ground.phase }, { on := 4, ground := Ground.phase }, { on := 5, ground := Ground.phase }, { on := 6, ground := Ground.phase }, { on := 7, ground := Ground.phase }, { on := 8, ground := Ground.phase }, { on := 9, ground := Ground.phase }, { on := 10, ground := Ground.phase }], guard := none }) (v := ?v109) rfl (by kernel_rfl) (by kernel_rfl) (by kernel_rfl) (fun _ _ _ h => h) (Or.inl ⟨by rfl, ?hy109⟩) (by assumption) ?rest109
          case hy109 => (intro w1 hSw; (try dsimp only at hSw); obtain ⟨h0, -⟩ := hSw; go_simp; try with_reducible rfl)
          try simp only [Act.put, List.setIfInBounds_toArray, List.set_cons_zero, List.set_cons_succ]
          refine wpAnyH_done (by kernel_rfl) ?_ _
          go_wp2_with fail
          go_roundw
          case rel => exact ⟨i + 1, by go_num, by have := HLT.out; omega, by rw [HNX.out, HKT.out]; first | exact OW7 | (rw [hlen7]; exact OW7) | (rw [hlen7] at OW7; exact OW7), LB7⟩
          case measure => have := HLT.out; simp [intOf]; omega
    · obtain rfl : i = UL.length := by omega
      have c1 : ¬ (UL.length : Int) < (UL.length : Int) := by omega
      rw [List.take_length] at hown
      have HR := Lib.hid (RowV.own hown.own)
      have HBB := Lib.hid (HB.out.trans (hb.mono HB.out.size))
      obtain ⟨a4, c4, rfl⟩ := owns_slice hown.own
      clear hown hb hil hlt
      go_wp2_with fail
      go_ret
      exact ⟨a4, c4, by rw [List.length_map]; rfl, HR.out, HBB.out⟩
end Go.Proofs.YtkjfafnnnkjoeaaGreatDoor
