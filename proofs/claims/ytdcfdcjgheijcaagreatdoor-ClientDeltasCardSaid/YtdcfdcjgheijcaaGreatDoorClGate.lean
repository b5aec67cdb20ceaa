/- A load may be taken first in a drawn region where its cell is written by an operation z that waits for the load: what is asked of the world (S) is asked only while z has not come up. -/
import Derived.Test.YtdcfdcjgheijcaaGreatDoorClPlain
import Derived.OrdersHeld
import Derived.Deep.RegionHeld
namespace Go.Proofs.YtdcfdcjgheijcaaGreatDoor
open Go

section
variable {P : Program} {ops : Array Oper} {Q : Exit → Act → World → Prop} {md : Region.Mode} {S : World → Prop} {z : Nat}

/-- What is asked of the world while z has not come up. -/
def Ahead (S : World → Prop) (z : Nat) (listed : Array Bool) (w : World) : Prop := listed.getD z true = false → S w
theorem ahead_off {listed : Array Bool} {w : World} (h : listed.getD z true = true) : Ahead S z listed w := fun h' => by rw [h] at h'; cases h'
def gateAny (P : Program) (md : Region.Mode) (ops : Array Oper) (Q : Exit → Act → World → Prop) (S : World → Prop) (z : Nat) : Nat → Array Bool → Act → World → Prop
  | 0, listed, a, _w => Region.ready md ops listed = [] ∧ Q .normal a _w
  | fuel + 1, listed, a, w => (Region.ready md ops listed = [] → Q .normal a w) ∧
    ∀ i ∈ Region.ready md ops listed, wpOp P ops Q i (fun a' w' => Ahead S z (listed.setIfInBounds i true) w' ∧ gateAny P md ops Q S z fuel (listed.setIfInBounds i true) a' w') a w
theorem any_of_gate : ∀ (fuel : Nat) (listed : Array Bool) (a : Act) (w : World), gateAny P md ops Q S z fuel listed a w → wpAny P md ops Q fuel listed a w
  | 0, _, _, _, h => h
  | fuel + 1, _, _, _, h => ⟨h.1, fun i hi => wpOp_mono (fun a' w' h' => any_of_gate fuel _ a' w' h'.2) (h.2 i hi)⟩
/-- The op z waits for i. -/
def waitsB (md : Region.Mode) (ops : Array Oper) (z i : Nat) : Bool := match ops[z]? with
  | some o => o.after.any fun e => Region.binds md e && e.on == i
  | none => false
theorem not_ready {i : Nat} {listed : Array Bool} (h : waitsB md ops z i = true) (hu : listed.getD i true = false) : z ∉ Region.ready md ops listed := by
  intro hz
  obtain ⟨_, oz, hoz, hall⟩ := mem_ready.1 hz
  unfold waitsB at h
  rw [hoz] at h
  simp only [Array.any_eq_true] at h
  obtain ⟨k, hk, he⟩ := h
  simp only [Bool.and_eq_true, beq_iff_eq] at he
  have h1 := hall _ (Array.getElem_mem hk) he.1
  rw [he.2] at h1
  rcases Nat.lt_or_ge i listed.size with h' | h'
  · simp [h'] at hu h1; rw [hu] at h1; cases h1
  · simp [Array.getElem?_eq_none h'] at h1
theorem gate_first {i : Nat} {oi : Oper} {v : Value} (T : World → Prop) (hi : ops[i]? = some oi) (hsel : ∀ (j : Nat) (o : Oper) cs b, ops[j]? = some o → o.op ≠ .select cs b)
    (hQ : ∀ c a w, Q (.panic c) (a.put oi.dst v) w → Q (.panic c) a w) (hzi : z ≠ i)
    (hT : ∀ (listed : Array Bool) w, listed.getD i true = false → Ahead S z listed w → (∀ j, j ∈ Region.ready md ops listed → j ≠ i → True) → listed.getD z true = false ∨ (∀ w, T w) → T w)
    (hz : waitsB md ops z i = true ∨ ∀ w, T w) :
    ∀ (fuel : Nat) (listed : Array Bool) (a : Act) (w : World),
      (∀ j oj, ops[j]? = some oj → j ≠ i → listed.getD j true = false → (∀ e ∈ oj.after, Region.binds md e = true → e.on ≠ i) → oi.apart ops oj = true) →
      i ∈ Region.ready md ops listed → (listed.getD z true = false ∨ ∀ w, T w) → YieldsIf P ops T oi v a → Ahead S z listed w →
      gateAny P md ops Q S z fuel (listed.setIfInBounds i true) (a.put oi.dst v) w → gateAny P md ops Q S z (fuel + 1) listed a w := by
  have same : ∀ (l : Array Bool) w, Ahead S z l w → Ahead S z (l.setIfInBounds i true) w := fun l w h hl => h (by rw [getD_set_ne true (Ne.symm hzi)] at hl; exact hl)
  have back : ∀ (l : Array Bool) w, Ahead S z (l.setIfInBounds i true) w → Ahead S z l w := fun l w h hl => h (by rw [getD_set_ne true (Ne.symm hzi)]; exact hl)
  intro fuel
  induction fuel with
  | zero =>
    intro listed a w _ hr hzl hy hS H
    have hT' : T w := hT listed w (mem_ready.1 hr).1 hS (fun _ _ _ => trivial) hzl
    refine ⟨fun h => (by rw [h] at hr; cases hr), fun j hj => ?_⟩
    by_cases hji : j = i
    · subst hji; exact hy.wpOp hi hT' ⟨same _ _ hS, H⟩
    · have := ready_mono hj hji
      rw [H.1] at this
      cases this
  | succ fuel ih =>
    intro listed a w hfree hr hzl hy hS H
    have hT' : T w := hT listed w (mem_ready.1 hr).1 hS (fun _ _ _ => trivial) hzl
    refine ⟨fun h => (by rw [h] at hr; cases hr), fun j hj => ?_⟩
    by_cases hji : j = i
    · subst hji; exact hy.wpOp hi hT' ⟨same _ _ hS, H⟩
    · have h1 := H.2 j (ready_mono hj hji)
      obtain ⟨hjun, oj, hoj, hall⟩ := mem_ready.1 hj
      have hnot : ∀ e ∈ oj.after, Region.binds md e = true → e.on ≠ i := fun e he hb heq => by
        have h1 := hall e he hb
        have h0 := (mem_ready.1 hr).1
        rw [heq] at h1
        rcases Nat.lt_or_ge i listed.size with h' | h'
        · simp [h'] at h0 h1; rw [h0] at h1; cases h1
        · simp [Array.getElem?_eq_none h'] at h1
      have h2 := wpOp_putIf hoj (hfree j oj hoj hji hjun hnot) (fun cs b => hsel i oi cs b hi) (fun cs b => hsel j oj cs b hoj) hQ hy h1
      have hfree' : ∀ k ok, ops[k]? = some ok → k ≠ i → (listed.setIfInBounds j true).getD k true = false →
          (∀ e ∈ ok.after, Region.binds md e = true → e.on ≠ i) → oi.apart ops ok = true := fun k ok hk hki hun hno => by
        refine hfree k ok hk hki ?_ hno
        by_cases hjk : j = k
        · subst hjk; exact hjun
        · rw [getD_set_ne true hjk] at hun; exact hun
      have hzl' : (listed.setIfInBounds j true).getD z true = false ∨ ∀ w, T w := by
        rcases hz with hz | hz
        · rcases hzl with hzl | hzl
          · have hjz : j ≠ z := by
              rintro rfl
              exact not_ready hz (mem_ready.1 hr).1 hj
            exact .inl (by rw [getD_set_ne true hjz]; exact hzl)
          · exact .inr hzl
        · exact .inr hz
      refine wpOp_mono (fun a' w' h3 => ?_) h2
      have hA : Ahead S z (listed.setIfInBounds j true) w' := by
        have := h3.2.1
        rw [Array.setIfInBounds_comm _ _ (Ne.symm hji)] at this
        exact back _ _ this
      refine ⟨hA, ih (listed.setIfInBounds j true) a' w' hfree' (ready_mono hr (Ne.symm hji)) hzl' h3.1 hA ?_⟩
      rw [Array.setIfInBounds_comm _ _ hji]
      exact h3.2.2
/-- A load whose cell z alone writes. -/
theorem gate_load {i : Nat} {oi : Oper} {v : Value} {fuel : Nat} {listed : Array Bool} {a : Act} {w : World} (hi : ops[i]? = some oi) (hzi : z ≠ i) (hz : waitsB md ops z i = true) (hzl : listed.getD z true = false)
    (hs : Region.noSelect ops = true) (hf : Region.free md ops listed i = true) (hr : (Region.ready md ops listed).contains i = true)
    (hQ : ∀ c a w, Q (.panic c) (a.put oi.dst v) w → Q (.panic c) a w) (hy : YieldsIf P ops S oi v a) (hS : S w)
    (h : gateAny P md ops Q S z fuel (listed.setIfInBounds i true) (a.put oi.dst v) w) : gateAny P md ops Q S z (fuel + 1) listed a w := by
  refine gate_first S hi (Region.noSelect_spec hs) hQ hzi (fun l w _ hA _ hl => ?_) (.inl hz) fuel listed a w (Region.free_spec hi hf) (by simpa using hr) (.inl hzl) hy (fun _ => hS) h
  rcases hl with hl | hl
  · exact hA hl
  · exact hl w
/-- An operation that yields in whatever world. -/
theorem gate_take {i : Nat} {oi : Oper} {v : Value} {fuel : Nat} {listed : Array Bool} {a : Act} {w : World} (hi : ops[i]? = some oi) (hzi : z ≠ i)
    (hs : Region.noSelect ops = true) (hf : Region.free md ops listed i = true) (hr : (Region.ready md ops listed).contains i = true)
    (hQ : ∀ c a w, Q (.panic c) (a.put oi.dst v) w → Q (.panic c) a w) (hy : YieldsIf P ops (fun _ => True) oi v a) (hS : Ahead S z listed w)
    (h : gateAny P md ops Q S z fuel (listed.setIfInBounds i true) (a.put oi.dst v) w) : gateAny P md ops Q S z (fuel + 1) listed a w :=
  gate_first (fun _ => True) hi (Region.noSelect_spec hs) hQ hzi (fun _ _ _ _ _ _ => trivial) (.inr fun _ => trivial) fuel listed a w (Region.free_spec hi hf) (by simpa using hr) (.inr fun _ => trivial) hy hS h
theorem gate_done {listed : Array Bool} {a : Act} {w : World} (hr : Region.ready md ops listed = []) (h : Q .normal a w) : ∀ fuel, gateAny P md ops Q S z fuel listed a w
  | 0 => ⟨hr, h⟩
  | _ + 1 => ⟨fun _ => h, by rw [hr]; simp⟩
def AllGate (P : Program) (md : Region.Mode) (ops : Array Oper) (Q : Exit → Act → World → Prop) (S : World → Prop) (z : Nat) (fuel : Nat) (listed : Array Bool) (a : Act) (w : World) (rs : List Nat) : Prop :=
  ∀ i ∈ rs, wpOp P ops Q i (fun a' w' => Ahead S z (listed.setIfInBounds i true) w' ∧ gateAny P md ops Q S z fuel (listed.setIfInBounds i true) a' w') a w
theorem AllGate.nil {fuel : Nat} {listed : Array Bool} {a : Act} {w : World} : AllGate P md ops Q S z fuel listed a w [] := fun _ h => by cases h
theorem AllGate.cons {fuel : Nat} {listed : Array Bool} {a : Act} {w : World} {i : Nat} {o : Oper} {rs : List Nat} (ho : ops[i]? = some o)
    (h : ∀ K' : Act → World → Prop, Shut (∀ a w, Ahead S z (listed.setIfInBounds i true) w → gateAny P md ops Q S z fuel (listed.setIfInBounds i true) a w → K' a w) → if Region.wanted o (yielded ops a.tmps) = true then Oper.wp P o a w K' Q else K' (a.put o.dst undef) w)
    (hs : AllGate P md ops Q S z fuel listed a w rs) : AllGate P md ops Q S z fuel listed a w (i :: rs) := fun j hj => by
  rcases List.mem_cons.1 hj with rfl | hj
  · exact wpOp_step ho (fun K' hK => h K' (fun a w hS hW => hK a w ⟨hS, hW⟩))
  · exact hs j hj
theorem gate_ready {rs : List Nat} {fuel : Nat} {listed : Array Bool} {a : Act} {w : World} (hr : Region.ready md ops listed = rs) (hne : rs ≠ []) (h : AllGate P md ops Q S z fuel listed a w rs) : gateAny P md ops Q S z (fuel + 1) listed a w :=
  ⟨fun h0 => absurd (hr ▸ h0) hne, hr ▸ h⟩
theorem region_gate {id : Nat} {a : Act} {w : World} (hm : P.follows .mixedOrders = true) (h : gateAny P .any ops Q S z ops.size (Array.replicate ops.size false) a w.drew) : (Code.region id ops true).wp P Q a w :=
  wp_region_any hm (any_of_gate _ _ _ _ h)
end
end Go.Proofs.YtdcfdcjgheijcaaGreatDoor
