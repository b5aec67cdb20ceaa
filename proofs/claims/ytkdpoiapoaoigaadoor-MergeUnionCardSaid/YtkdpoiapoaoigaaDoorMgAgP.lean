/- merge: what Again says (no program). -/
import Derived.Test.YtkdpoiapoaoigaaDoorMgLawP
namespace Go.Proofs.YtkdpoiapoaoigaaDoor
open Go.RowKit Go.Lib

section
variable {X Y Z : Ns}
noncomputable abbrev vW1 (X : Ns) : Wants := wset W0 1 1 X
noncomputable abbrev vW (X Y : Ns) : Wants := wset (vW1 X) 2 1 Y
theorem vw1_ok (hx : FewS X) : WOk (vW1 X) := wset_ok w0_ok hx.r (by decide)
theorem vw_ok (hx : FewS X) (hy : FewS Y) : WOk (vW X Y) := wset_ok (vw1_ok hx) hy.r (by decide)
theorem vw_u (hx : FewS X) (hy : FewS Y) : uni (vW X Y) 1 = nUnion [X, Y] := by
  rw [uni_more (vw1_ok hx) hy.r (by decide) (wset_id (by decide)), uni_one w0_ok hx.r (by decide) (fun _ _ => rfl)]
theorem vw_swap : wset (vW X Y) 1 1 Z = vW Z Y := by
  funext i k
  by_cases h1 : i = 1 ∧ k = 1
  · obtain ⟨rfl, rfl⟩ := h1
    rw [wset_same]
    exact ((wset_id (by decide)).trans (wset_same _ _ _ _)).symm
  · by_cases h2 : i = 2 ∧ k = 1
    · obtain ⟨rfl, rfl⟩ := h2
      rw [wset_id (by decide)]
      exact (wset_same _ _ _ _).trans (wset_same _ _ _ _).symm
    · simp only [wset, h1, h2, if_false]
theorem vw1_set (hx : FewS X) : setE W0 1 1 X = 0 ∧ setW W0 1 1 X = vW1 X := by
  have hu : uni (vW1 X) 1 = X := uni_one w0_ok hx.r (by decide) (fun _ _ => rfl)
  obtain ⟨h1, h2, _⟩ := setE_ok (W := W0) (i := 1) (k := 1) (s := X) (by decide) (by have := hx.len; omega) (by rw [hu]; have := hx.len; omega)
  exact ⟨h1, h2⟩
theorem vw2_set (hx : FewS X) (hy : FewS Y) : setE (vW1 X) 2 1 Y = 0 ∧ setW (vW1 X) 2 1 Y = vW X Y := by
  obtain ⟨h1, h2, _⟩ := setE_ok (W := vW1 X) (i := 2) (k := 1) (s := Y) (by decide) (by have := hy.len; omega) (by rw [vw_u hx hy]; exact few_union hx hy)
  exact ⟨h1, h2⟩
theorem vw_set (hx : FewS X) (hy : FewS Y) (hz : FewS Z) : setE (vW X Y) 1 1 Z = 0 ∧ setW (vW X Y) 1 1 Z = vW Z Y ∧ setM (vW X Y) 1 1 Z = nLess (nUnion [Z, Y]) (nUnion [X, Y]) ∧ setL (vW X Y) 1 1 Z = nLess (nUnion [X, Y]) (nUnion [Z, Y]) := by
  obtain ⟨h1, h2, h3, h4⟩ := setE_ok (W := vW X Y) (i := 1) (k := 1) (s := Z) (by decide) (by have := hz.len; omega) (by rw [vw_swap, vw_u hz hy]; exact few_union hz hy)
  rw [vw_swap, vw_u hz hy, vw_u hx hy] at h3 h4
  rw [vw_swap] at h2
  exact ⟨h1, h2, h3, h4⟩
theorem less_self (a : Ns) : nLess a a = Ns.zero := by
  refine ns_eq ?_ (rises_eq (srt_rises _) List.Pairwise.nil fun x => ?_)
  · show (a.all && !a.all) = false
    cases a.all <;> rfl
  · have := mem_less a a x
    constructor
    · intro h; exact absurd (this.1 h).1 (this.1 h).2
    · intro h; cases h
/-- A set of some names. -/
structure MidS (s : Ns) : Prop where
  r : NsR s
  n : s.ns.length ≤ 64
  l : ∀ x ∈ s.ns, x.length ≤ 64
theorem MidS.fit {s : Ns} (h : MidS s) : NmFit s.ns := list_fit (by have := h.n; omega) (fun x hx => by have := h.l x hx; omega)
theorem mid_union (hx : FewS X) (hy : FewS Y) : MidS (nUnion [X, Y]) := by
  refine ⟨nsr_union fun s hs => ?_, ?_, fun x h => ?_⟩
  · rcases List.mem_cons.1 hs with rfl | hs
    · exact hx.r
    · rcases List.mem_cons.1 hs with rfl | hs
      · exact hy.r
      · cases hs
  · have := few_union hx hy
    have := list_ns (nUnion [X, Y])
    omega
  · rcases (mem_union2 X Y x).1 h with h | h
    · exact hx.l x h
    · exact hy.l x h
theorem mid_less {a b : Ns} (ha : MidS a) : MidS (nLess a b) :=
  ⟨nsr_less ha.r, Nat.le_trans (srt_len _) (Nat.le_trans (List.length_filter_le _ _) ha.n), fun x h => ha.l x ((mem_less a b x).1 h).1⟩
theorem MidS.same {s : Ns} (h : MidS s) : nSame s s = true := same_self h.r
end
end Go.Proofs.YtkdpoiapoaoigaaDoor
