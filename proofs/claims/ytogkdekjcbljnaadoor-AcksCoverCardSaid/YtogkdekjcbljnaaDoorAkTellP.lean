/- acks: what is refused of a key, told: plain; the row in the map, turned in its place; rows of statuses. -/
import Derived.Test.YtogkdekjcbljnaaDoorAkDrop
namespace Go.Proofs.YtogkdekjcbljnaaDoor
open Go.RowKit

def tellP (l : List Bd) (i : Nat) : List Bd := bdTell (l.take i) ++ l.drop i
theorem tellP_zero (l : List Bd) : tellP l 0 = l := by simp [tellP, bdTell]
theorem tellP_all (l : List Bd) : tellP l l.length = bdTell l := by simp [tellP]
theorem tellP_len {l : List Bd} {i : Nat} (hi : i ≤ l.length) : (tellP l i).length = l.length := by
  unfold tellP bdTell
  rw [List.length_append, List.length_map, List.length_take, List.length_drop]
  omega
theorem tellP_get {l : List Bd} {i : Nat} {b : Bd} (h : l[i]? = some b) : (tellP l i)[i]? = some b := by
  have hi := (List.getElem?_eq_some_iff.1 h).1
  unfold tellP bdTell
  have hl : ((l.take i).map fun b => if b.f then b else (⟨b.q, true, ⟨#[]⟩⟩ : Bd)).length = i := by rw [List.length_map, List.length_take]; omega
  rw [List.getElem?_append_right (by rw [hl]; omega), hl, Nat.sub_self, List.getElem?_drop]
  exact h
theorem tellP_split {l : List Bd} {i : Nat} {b : Bd} (h : l[i]? = some b) : tellP l i = bdTell (l.take i) ++ b :: l.drop (i + 1) ∧ tellP l (i + 1) = bdTell (l.take i) ++ (if b.f then b else ⟨b.q, true, ⟨#[]⟩⟩) :: l.drop (i + 1) := by
  have hi := (List.getElem?_eq_some_iff.1 h).1
  have e : l[i] = b := (List.getElem?_eq_some_iff.1 h).2
  refine ⟨?_, ?_⟩
  · unfold tellP
    rw [List.drop_eq_getElem_cons hi, e]
  · unfold tellP
    rw [List.take_succ_eq_append_getElem hi, e]
    simp [bdTell]
theorem tellP_yes {l : List Bd} {i : Nat} {b : Bd} (h : l[i]? = some b) (hf : b.f = true) : tellP l (i + 1) = tellP l i := by
  obtain ⟨h1, h2⟩ := tellP_split h
  rw [h1, h2, if_pos hf]
theorem tellP_no {l : List Bd} {i : Nat} {b : Bd} (h : l[i]? = some b) (hf : b.f = false) : tellP l (i + 1) = (tellP l i).set i ⟨b.q, true, ⟨#[]⟩⟩ := by
  have hi := (List.getElem?_eq_some_iff.1 h).1
  obtain ⟨h1, h2⟩ := tellP_split h
  rw [h1, h2, if_neg (by rw [hf]; decide)]
  have hl : (bdTell (l.take i)).length = i := by unfold bdTell; rw [List.length_map, List.length_take]; omega
  rw [List.set_append_right _ _ (by omega), hl, Nat.sub_self]
  rfl
theorem outP_yes {k : Ky} {l : List Bd} {i : Nat} {b : Bd} (h : l[i]? = some b) (hf : b.f = true) : bdOut k (l.take (i + 1)) = bdOut k (l.take i) := by
  have hi := (List.getElem?_eq_some_iff.1 h).1
  have e : l[i] = b := (List.getElem?_eq_some_iff.1 h).2
  unfold bdOut
  rw [List.take_succ_eq_append_getElem hi, e, List.filter_append]
  simp [hf]
theorem outP_no {k : Ky} {l : List Bd} {i : Nat} {b : Bd} (h : l[i]? = some b) (hf : b.f = false) : bdOut k (l.take (i + 1)) = bdOut k (l.take i) ++ [⟨k.1, k.2, b.q, false, b.s⟩] := by
  have hi := (List.getElem?_eq_some_iff.1 h).1
  have e : l[i] = b := (List.getElem?_eq_some_iff.1 h).2
  unfold bdOut
  rw [List.take_succ_eq_append_getElem hi, e, List.filter_append]
  simp [hf]
theorem bdOut_len (k : Ky) (l : List Bd) : (bdOut k l).length ≤ l.length := by
  unfold bdOut
  rw [List.length_map]
  exact List.length_filter_le _ _
section
variable {base : Nat} {b : AkB} {A : Ak} {CT : Tk → Option Value} {CR CN : Ky → Option Value} {w w' : World}
theorem AkIn.rowR (h : AkIn base b A CT CR CN w) (k : Ky) : ∃ a c, (CR k).getD (.slice none 0 0) = .slice a (A.R k).length c ∧ w.ownsRow base 82 3 (.slice a (A.R k).length c) (A.R k).length (bdCells (A.R k)) := by
  have hv := h.rv k
  cases hC : CR k with
  | none =>
    rw [hC] at hv
    have hv : A.R k = [] := hv
    rw [hv]
    exact ⟨none, 0, rfl, World.ownsRow_nil _ _ _ _⟩
  | some v =>
    rw [hC] at hv
    have hv : w.ownsRow base 82 3 v (A.R k).length (bdCells (A.R k)) := hv
    obtain ⟨a, c, rfl⟩ := row_shape hv
    exact ⟨a, c, rfl, hv⟩
/-- What is refused of a key, turned where it stands. -/
theorem AkIn.rowTurn (h : AkIn base b A CT CR CN w) {k : Ky} {a : Option Addr} {n c : Nat} {l : List Bd} (hv : (CR k).getD (.slice none 0 0) = .slice a n c) (ha : a ≠ none) (hg : w.grownBy w' (Value.slice a n c).ownBlock) (hrow : w'.ownsRow base 82 3 (.slice a n c) l.length (bdCells l)) :
    AkIn base b { A with R := upd A.R k l } CT CR CN w' ∧ KeptA b base w w' := by
  have hC : CR k = some (.slice a n c) := by
    cases hC : CR k with
    | none => rw [hC] at hv; cases hv; exact absurd rfl ha
    | some u => rw [hC] at hv; cases hv; rfl
  have hold : w.ownsRow base 82 3 (.slice a n c) (A.R k).length (bdCells (A.R k)) := by
    have := h.rv k
    rw [hC] at this; exact this
  have hcell : ∀ g, (Value.slice a n c).ownBlock = some g → ∃ c fz, w.heap[g]? = some (.cells c 82 fz) := fun g hg => (own_heap hold hg).2.2
  have hkm : ∀ {κ : Type} {enc : κ → Value} {ok : κ → Prop} {m : Nat} {C : κ → Option Value}, KMap enc ok w m C → KMap enc ok w' m C := fun hm => hm.kept hg (fun e => by
    obtain ⟨c, fz, hc⟩ := hcell _ e.symm
    exact kmap_ne hm hc rfl)
  refine ⟨⟨h.blk.kept hg (fun e => ?_), h.bm, h.bt, h.br, h.bo, h.n1, h.n2, h.n3, hkm h.tm, h.tv, hkm h.rm, fun k' => ?_, h.rd, hkm h.nm, h.nv⟩, .row hold (Nat.le_refl _) hg⟩
  · obtain ⟨c, fz, hc⟩ := hcell _ e.symm
    have hb := h.blk
    unfold Blk at hb
    rw [hb] at hc
    injection hc with hc; injection hc with _ e2 _
    exact absurd e2 (by decide)
  · show RfAt base w' (CR k') (upd A.R k l k')
    by_cases e : k' = k
    · subst e
      rw [upd_same, hC]; exact hrow
    · rw [upd_other e]
      have hr := h.rv k'
      cases hC' : CR k' with
      | none => rw [hC'] at hr; exact hr
      | some u =>
        rw [hC'] at hr
        refine own_other (v := u) hr hg fun g hgu e2 => ?_
        exact h.rd k k' _ u g (fun e3 => e e3.symm) hC hC' e2 hgu
end
theorem Tryd.infoSt : (Tryd.prog.info? 35).map (fun i => (i.zero, i.size, i.bytes)) = some (some (.agg #[.int .i64 0, .string ⟨#[]⟩, .int .u64 0, .bool false, .string ⟨#[]⟩]), 5, 56) := by kernel_rfl
def stCells (l : List St) : List Value := l.flatMap fun r => [.int .i64 r.t, .string r.x, .int .u64 (r.q : Int), .bool r.f, .string r.s]
theorem stCells_append (a b : List St) : stCells (a ++ b) = stCells a ++ stCells b := by simp [stCells]
theorem stCells_len (rs : List St) : (stCells rs).length = rs.length * 5 := by
  induction rs with
  | nil => rfl
  | cons x xs ih => simp [stCells] at ih ⊢; omega
theorem st_one {l : List St} : ∀ u ∈ stCells l, u.oneCell' = true := by
  intro u hu
  unfold stCells at hu
  obtain ⟨r, _, h⟩ := List.mem_flatMap.1 hu
  simp only [List.mem_cons, List.not_mem_nil, or_false] at h
  rcases h with rfl | rfl | rfl | rfl | rfl <;> rfl
theorem stCells_get : ∀ (rs : List St) (i : Nat) (r : St), rs[i]? = some r → ∀ j, j < 5 → (stCells rs)[i * 5 + j]? = ([.int .i64 r.t, .string r.x, .int .u64 (r.q : Int), .bool r.f, .string r.s] : List Value)[j]?
  | [], i, x, h, _, _ => by simp at h
  | y :: ys, 0, x, h, j, hj => by
    simp at h; subst h
    have hc : j = 0 ∨ j = 1 ∨ j = 2 ∨ j = 3 ∨ j = 4 := by omega
    rcases hc with rfl | rfl | rfl | rfl | rfl <;> simp [stCells]
  | y :: ys, i + 1, x, h, j, hj => by
    have := stCells_get ys i x (by simpa using h) j hj
    have e : (stCells (y :: ys))[(i + 1) * 5 + j]? = (stCells ys)[i * 5 + j]? := by
      have : (i + 1) * 5 + j = (i * 5 + j) + 1 + 1 + 1 + 1 + 1 := by omega
      rw [this]; rfl
    rw [e]; exact this
end Go.Proofs.YtogkdekjcbljnaaDoor
