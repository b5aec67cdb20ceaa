/- merge: sets of a few names; what Drops says (no program). -/
import Derived.Test.YtkdpoiapoaoigaaDoorMgPlB
import Derived.Test.YtkdpoiapoaoigaaDoorMgFew
namespace Go.Proofs.YtkdpoiapoaoigaaDoor
open Go.RowKit Go.Lib

/-- A set of a few names. -/
structure FewS (s : Ns) : Prop where
  r : NsR s
  n : s.ns.length ≤ 10
  l : ∀ x ∈ s.ns, x.length ≤ 64
theorem few_set (ms : List Nat) : FewS (nOf okN (nmcL ms 10)) := by
  refine ⟨nsr_of _, Nat.le_trans (srt_len _) (Nat.le_trans (List.length_filter_le _ _) (nmc_len ms 10)), fun x hx => ?_⟩
  have h := ((mem_of okN _ x).1 hx).1
  unfold nmcL at h
  obtain ⟨b, _, rfl⟩ := List.mem_map.1 h
  have := nmC_len b
  omega
theorem FewS.len {s : Ns} (h : FewS s) : (nList s).length ≤ 11 := Nat.le_trans (list_len s) (by have := h.n; omega)
theorem FewS.fit {s : Ns} (h : FewS s) : NmFit s.ns := list_fit (by have := h.n; omega) (fun x hx => by have := h.l x hx; omega)
theorem few_zero : FewS Ns.zero := ⟨nsr_zero, Nat.zero_le _, fun x hx => by cases hx⟩
theorem few_union {a b : Ns} (ha : FewS a) (hb : FewS b) : (nList (nUnion [a, b])).length ≤ 64 := by
  refine Nat.le_trans (union_len _) ?_
  simp only [List.flatMap_cons, List.flatMap_nil, List.length_append, List.length_nil]
  have := ha.n; have := hb.n
  omega
theorem same_self {s : Ns} (h : NsR s) : nSame s s = true := (nSame_iff h.ok h.ok).2 rfl
theorem KeptM.later {B : Nat} {w0 w w' : World} (h : KeptM B w0 w) (hb : Below w.heap.size w w') : KeptM B w0 w' := h.trans (.of hb)
theorem MgIs.at {base m : Nat} {W : Wants} {w w' : World} (h : MgIs base m W w) (hb : Below w.heap.size w w') : MgIs base m W w' := h.later hb
theorem i64_small {k : Int} (h : -1000000 ≤ k ∧ k ≤ 1000000) : i64B k := by unfold i64B; omega

theorem want_is {base m : Nat} {W : Wants} {i k : Int} {sa : Bool} {sl : List (List UInt8)} {w : World} (h : MgIs base m W w) (hi : i64B i) (hk : i64B k) (he : W i k = ⟨sa, sl⟩) :
    Calls Tryd.prog 17 #[.pointer (some ⟨m, 0, none⟩), .int .i64 i, .int .i64 k] w (SetPost sa sl w) := by
  have := mgWant_any h hi hk
  rw [he] at this
  exact this
theorem union_is {base m : Nat} {W : Wants} {k : Int} {sa : Bool} {sl : List (List UInt8)} {w : World} (h : MgIs base m W w) (hk : i64B k) (he : uni W k = ⟨sa, sl⟩) :
    Calls Tryd.prog 16 #[.pointer (some ⟨m, 0, none⟩), .int .i64 k] w (SetPost sa sl w) := by
  have := mgUnion_any h hk
  rw [he] at this
  exact this
theorem lean_is {base m : Nat} {W : Wants} {k : Int} {sa : Bool} {sl : List (List UInt8)} {w : World} (h : MgIs base m W w) (hk : i64B k) (he : leanM (uni W k) = ⟨sa, sl⟩) :
    Calls Tryd.prog 22 #[.pointer (some ⟨m, 0, none⟩), .int .i64 k] w (SetPost sa sl w) := by
  have := mgLean_any h hk
  rw [he] at this
  exact this

section
variable {X Y Z : Ns}
noncomputable abbrev dW1 (X : Ns) : Wants := wset W0 4 1 X
noncomputable abbrev dW2 (X Y : Ns) : Wants := wset (dW1 X) 4 2 Y
noncomputable abbrev dW3 (X Y Z : Ns) : Wants := wset (dW2 X Y) 5 1 Z
noncomputable abbrev dW4 (X Y Z : Ns) : Wants := wdrop (dW3 X Y Z) 4
theorem dw1_ok (hx : FewS X) : WOk (dW1 X) := wset_ok w0_ok hx.r (by decide)
theorem dw2_ok (hx : FewS X) (hy : FewS Y) : WOk (dW2 X Y) := wset_ok (dw1_ok hx) hy.r (by decide)
theorem dw3_ok (hx : FewS X) (hy : FewS Y) (hz : FewS Z) : WOk (dW3 X Y Z) := wset_ok (dw2_ok hx hy) hz.r (by decide)
theorem dw1_set (hx : FewS X) : setE W0 4 1 X = 0 ∧ setW W0 4 1 X = dW1 X := by
  have hu : uni (dW1 X) 1 = X := uni_one w0_ok hx.r (by decide) (fun _ _ => rfl)
  obtain ⟨h1, h2, _⟩ := setE_ok (W := W0) (i := 4) (k := 1) (s := X) (by decide) (by have := hx.len; omega) (by rw [hu]; have := hx.len; omega)
  exact ⟨h1, h2⟩
theorem dw2_set (hx : FewS X) (hy : FewS Y) : setE (dW1 X) 4 2 Y = 0 ∧ setW (dW1 X) 4 2 Y = dW2 X Y := by
  have hu : uni (dW2 X Y) 2 = Y := uni_one (dw1_ok hx) hy.r (by decide) (fun j hj => wset_id hj)
  obtain ⟨h1, h2, _⟩ := setE_ok (W := dW1 X) (i := 4) (k := 2) (s := Y) (by decide) (by have := hy.len; omega) (by rw [hu]; have := hy.len; omega)
  exact ⟨h1, h2⟩
theorem dw3_set (hx : FewS X) (hy : FewS Y) (hz : FewS Z) : setE (dW2 X Y) 5 1 Z = 0 ∧ setW (dW2 X Y) 5 1 Z = dW3 X Y Z := by
  have h0 : dW2 X Y 5 1 = Ns.zero := (wset_id (by decide)).trans (wset_id (by decide))
  have hu : uni (dW3 X Y Z) 1 = nUnion [X, Z] := by
    rw [uni_more (dw2_ok hx hy) hz.r (by decide) h0, uni_kind (by decide), uni_one w0_ok hx.r (by decide) (fun _ _ => rfl)]
  obtain ⟨h1, h2, _⟩ := setE_ok (W := dW2 X Y) (i := 5) (k := 1) (s := Z) (by decide) (by have := hz.len; omega) (by rw [hu]; exact few_union hx hz)
  exact ⟨h1, h2⟩
theorem dw3_41 : dW3 X Y Z 4 1 = X := (wset_id (by decide)).trans ((wset_kind (by decide)).trans (wset_same _ _ _ _))
theorem dw3_42 : dW3 X Y Z 4 2 = Y := (wset_id (by decide)).trans (wset_same _ _ _ _)
theorem dw3_4k {k : Int} (h1 : k ≠ 1) (h2 : k ≠ 2) : dW3 X Y Z 4 k = Ns.zero := (wset_id (by decide)).trans ((wset_kind h2).trans (wset_kind h1))
theorem dw3_any : wantsAny (dW3 X Y Z) 4 = !(nEmpty X && nEmpty Y) := by
  unfold wantsAny
  simp only [List.any_cons, List.any_nil]
  rw [dw3_41, dw3_42, dw3_4k (by decide) (by decide), dw3_4k (by decide) (by decide), dw3_4k (by decide) (by decide)]
  show (!nEmpty X || (!nEmpty Y || (!nEmpty Ns.zero || (!nEmpty Ns.zero || (!nEmpty Ns.zero || false))))) = _
  rw [show nEmpty Ns.zero = true from rfl]
  cases nEmpty X <;> cases nEmpty Y <;> rfl
theorem dw3_e : chkD (dW3 X Y Z) 4 = if nEmpty X && nEmpty Y then 5 else 0 := by
  unfold chkD
  rw [dw3_any]
  cases nEmpty X && nEmpty Y <;> rfl
theorem dw3_ez : ((chkD (dW3 X Y Z) 4 : Nat) : Int) = if nEmpty X && nEmpty Y then 5 else 0 := by
  rw [dw3_e]
  split <;> rfl
theorem dw3_w : dropW (dW3 X Y Z) 4 = dW4 X Y Z := by
  unfold dropW
  rw [dw3_e]
  cases h : nEmpty X && nEmpty Y with
  | false => rfl
  | true =>
    rw [Bool.and_eq_true] at h
    have e1 := empty_zero.1 h.1
    have e2 := empty_zero.1 h.2
    rw [if_neg (by decide)]
    funext i k
    show dW3 X Y Z i k = wdrop (dW3 X Y Z) 4 i k
    unfold wdrop
    split
    · rename_i hi
      subst hi
      by_cases k1 : k = 1
      · subst k1; rw [dw3_41, e1]
      · by_cases k2 : k = 2
        · subst k2; rw [dw3_42, e2]
        · exact dw3_4k k1 k2
    · rfl
theorem dw4_at {i k : Int} : dW4 X Y Z i k = if i = 4 then Ns.zero else dW3 X Y Z i k := by show wdrop _ _ _ _ = _; unfold wdrop; split <;> simp_all
theorem dw4_4 (k : Int) : dW4 X Y Z 4 k = Ns.zero := by rw [dw4_at, if_pos rfl]
theorem dw4_e : chkD (dW4 X Y Z) 4 = 5 ∧ dropW (dW4 X Y Z) 4 = dW4 X Y Z := by
  have h : chkD (dW4 X Y Z) 4 = 5 := by
    unfold chkD wantsAny
    simp only [dw4_4]
    rfl
  exact ⟨h, by unfold dropW; rw [h]; rfl⟩
theorem dw4_ez : ((chkD (dW4 X Y Z) 4 : Nat) : Int) = 5 := by rw [dw4_e.1]; rfl
theorem dw4_ok (hx : FewS X) (hy : FewS Y) (hz : FewS Z) : WOk (dW4 X Y Z) := by
  have h := dw3_ok hx hy hz
  refine ⟨fun i k => ?_, fun i k hb => ?_⟩
  · rw [dw4_at]; split
    · exact nsr_zero
    · exact h.r i k
  · rw [dw4_at]; split
    · rfl
    · exact h.z i k hb
theorem dw4_n (i k : Int) (h : ¬ (i = 5 ∧ k = 1)) : dW4 X Y Z i k = Ns.zero := by
  rw [dw4_at]
  split
  · rfl
  · rename_i hi
    by_cases h5 : i = 5
    · have hk : k ≠ 1 := fun e => h ⟨h5, e⟩
      subst h5
      exact (wset_kind hk).trans ((wset_id (by decide)).trans (wset_id (by decide)))
    · exact (wset_id h5).trans ((wset_id hi).trans (wset_id hi))
theorem dw4_u1 (hx : FewS X) (hy : FewS Y) (hz : FewS Z) : uni (dW4 X Y Z) 1 = Z := by
  refine uni_eq (dw4_ok hx hy hz) hz.r fun x => ⟨fun ⟨i, _, h⟩ => ?_, fun h => ⟨5, by decide, ?_⟩⟩
  · by_cases h5 : i = 5
    · subst h5
      rw [dw4_at, if_neg (by decide), show dW3 X Y Z 5 1 = Z from wset_same _ _ _ _] at h
      exact h
    · rw [dw4_n i 1 (fun e => h5 e.1)] at h
      cases h
  · rw [dw4_at, if_neg (by decide), show dW3 X Y Z 5 1 = Z from wset_same _ _ _ _]
    exact h
theorem dw4_u2 (hx : FewS X) (hy : FewS Y) (hz : FewS Z) : uni (dW4 X Y Z) 2 = Ns.zero := by
  refine uni_eq (dw4_ok hx hy hz) nsr_zero fun x => ⟨fun ⟨i, _, h⟩ => ?_, fun h => (by cases h)⟩
  rw [dw4_n i 2 (fun e => absurd e.2 (by decide))] at h
  exact h
end
end Go.Proofs.YtkdpoiapoaoigaaDoor
