/- A row of one-cell elements whose block bears whatever mark behind its cells (what a conversion of a string to bytes makes): appending one, writing one, reading. No program. -/
import Derived.Test.YtdaelapamkmcaaaDoorAid
namespace Go.Proofs.YtdaelapamkmcaaaDoor
open Go.RowKit

def OwnM (w : World) (base : Nat) (e : TypeId) (v : Value) (xs : List Value) : Prop :=
  ∃ g cap cur fz, v = .slice (some ⟨g, 0, none⟩) xs.length cap ∧ base ≤ g ∧ w.heap[g]? = some (.cells cur e fz) ∧ (fz.2 = 0 ∨ cap ≤ fz.1) ∧ xs.length ≤ cap ∧ cap ≤ maxLen ∧ cur.size = cap ∧ cur.toList.take xs.length = xs

theorem fz_free {fz : Nat × Nat} {cap j : Nat} (h : fz.2 = 0 ∨ cap ≤ fz.1) (hj : j < cap) : (decide (fz.1 ≤ j) && decide (j < fz.2)) = false := by
  simp only [Bool.and_eq_false_iff, decide_eq_false_iff_not]; omega

theorem frozen_at {w : World} {g j : Nat} {cur : Array Value} {e : TypeId} {fz : Nat × Nat} (hg : w.heap[g]? = some (.cells cur e fz)) : w.frozen? ⟨g, j, none⟩ = (decide (fz.1 ≤ j) && decide (j < fz.2)) := by
  obtain ⟨lo, hi⟩ := fz; simp [World.frozen?, hg]

theorem setCell_heap {w : World} {g j : Nat} {cur : Array Value} {e : TypeId} {fz : Nat × Nat} {u : Value} (hg : w.heap[g]? = some (.cells cur e fz)) : (w.setCell ⟨g, j, none⟩ u).heap[g]? = some (.cells (cur.setIfInBounds j u) e fz) := by
  rw [setCell_eq_setRow w g j cur e fz u hg]; exact setRow_heap w g cur _ e _ hg

theorem OwnM.lt {w : World} {base : Nat} {e : TypeId} {v : Value} {xs : List Value} (h : OwnM w base e v xs) : ∀ k, v.ownBlock = some k → base ≤ k ∧ k < w.heap.size := by
  obtain ⟨g, cap, cur, fz, rfl, hb, hg, _⟩ := h
  intro k hk
  simp [Value.ownBlock] at hk
  subst hk
  exact ⟨hb, (Array.getElem?_eq_some_iff.1 hg).1⟩

theorem OwnM.kept {w w' : World} {base : Nat} {e : TypeId} {v : Value} {xs : List Value} {row : Option Nat} (h : OwnM w base e v xs) (hg : w.grownBy w' row) (hne : v.ownBlock ≠ row) : OwnM w' base e v xs := by
  obtain ⟨g, cap, cur, fz, rfl, hb, hgg, rest⟩ := h
  exact ⟨g, cap, cur, fz, rfl, hb, (hg.block g (Array.getElem?_eq_some_iff.1 hgg).1 hne).trans hgg, rest⟩
theorem OwnM.alloc {w : World} {base : Nat} {e : TypeId} {v : Value} {xs : List Value} (h : OwnM w base e v xs) (o : Obj) : OwnM (w.alloc o) base e v xs := by
  have hs : v.ownBlock ≠ none := by obtain ⟨g, cap, cur, fz, rfl, _⟩ := h; simp [Value.ownBlock]
  exact h.kept (World.grownBy_alloc w o none) hs

theorem OwnM.drew {w : World} {base : Nat} {e : TypeId} {v : Value} {xs : List Value} (h : OwnM w base e v xs) : OwnM w.drew base e v xs := h

/-- The row's block known. -/
def RowM (w : World) (base : Nat) (e : TypeId) (g cap : Nat) (xs : List Value) : Prop :=
  ∃ cur fz, base ≤ g ∧ w.heap[g]? = some (.cells cur e fz) ∧ (fz.2 = 0 ∨ cap ≤ fz.1) ∧ xs.length ≤ cap ∧ cap ≤ maxLen ∧ cur.size = cap ∧ cur.toList.take xs.length = xs
theorem OwnM.row {w : World} {base : Nat} {e : TypeId} {v : Value} {xs : List Value} (h : OwnM w base e v xs) : ∃ g cap, v = .slice (some ⟨g, 0, none⟩) xs.length cap ∧ RowM w base e g cap xs := by
  obtain ⟨g, cap, cur, fz, hv, r⟩ := h; exact ⟨g, cap, hv, cur, fz, r⟩
theorem RowM.own {w : World} {base : Nat} {e : TypeId} {g cap : Nat} {xs : List Value} {n : Nat} (h : RowM w base e g cap xs) (hn : xs.length = n) : OwnM w base e (.slice (some ⟨g, 0, none⟩) n cap) xs := by
  subst hn; obtain ⟨cur, fz, r⟩ := h; exact ⟨g, cap, cur, fz, rfl, r⟩
theorem RowM.cell {w : World} {base : Nat} {e : TypeId} {g cap : Nat} {xs : List Value} (h : RowM w base e g cap xs) {j : Nat} {u : Value} (hu : xs[j]? = some u) : w.cell? ⟨g, j, none⟩ = some u := by
  obtain ⟨cur, fz, _, hg, _, _, _, _, ht⟩ := h
  have hj := (List.getElem?_eq_some_iff.1 hu).1
  rw [cell_of_row w g j cur e fz hg]
  rw [← ht, List.getElem?_take, if_pos hj] at hu
  simpa using hu
theorem RowM.free {w : World} {base : Nat} {e : TypeId} {g cap : Nat} {xs : List Value} (h : RowM w base e g cap xs) {j : Nat} (hj : j < xs.length) : w.frozen? ⟨g, j, none⟩ = false := by
  obtain ⟨cur, fz, _, hg, hf, hl, _⟩ := h
  rw [frozen_at hg]; exact fz_free hf (by omega)
theorem RowM.lt {w : World} {base : Nat} {e : TypeId} {g cap : Nat} {xs : List Value} (h : RowM w base e g cap xs) : base ≤ g ∧ g < w.heap.size := by
  obtain ⟨cur, fz, hb, hg, _⟩ := h
  exact ⟨hb, (Array.getElem?_eq_some_iff.1 hg).1⟩
theorem RowM.set {w : World} {base : Nat} {e : TypeId} {g cap : Nat} {xs : List Value} (h : RowM w base e g cap xs) (j : Nat) (u : Value) : RowM (w.setCell ⟨g, j, none⟩ u) base e g cap (xs.set j u) := by
  obtain ⟨cur, fz, hb, hg, hf, hl, hm, hs, ht⟩ := h
  refine ⟨_, fz, hb, setCell_heap hg, hf, by simpa using hl, hm, by simpa using hs, ?_⟩
  rw [Array.toList_setIfInBounds, List.length_set, List.take_set, ht]
theorem RowM.alloc {w : World} {base : Nat} {e : TypeId} {g cap : Nat} {xs : List Value} (h : RowM w base e g cap xs) (o : Obj) : RowM (w.alloc o) base e g cap xs := by
  have hl := h.lt
  obtain ⟨cur, fz, hb, hg, r⟩ := h
  exact ⟨cur, fz, hb, (Go.heap_alloc_old w o hl.2).trans hg, r⟩
theorem RowM.below {w w' : World} {base : Nat} {e : TypeId} {g cap : Nat} {xs : List Value} (h : RowM w base e g cap xs) (hb : Below w.heap.size w w') : RowM w' base e g cap xs := by
  have hl := h.lt
  obtain ⟨cur, fz, hbb, hg, r⟩ := h
  exact ⟨cur, fz, hbb, (hb.block g hl.2).trans hg, r⟩

/-- '[]byte(s)'. -/
theorem rowM_of_string (w : World) (base : Nat) (e : TypeId) (s : ByteArray) (hb : base ≤ w.heap.size) (hs : s.size ≤ maxLen) :
    RowM (w.drew.alloc (.cells (bytesRow s (grownCap w s.size 0 e)) e ((bytesRow s (grownCap w s.size 0 e)).size, (bytesRow s (grownCap w s.size 0 e)).size + 1))) base e w.heap.size (grownCap w s.size 0 e) (s.data.toList.map fun x => Value.int .u8 (x.toNat : Int)) := by
  have hge := grownCap_ge w s.size 0 e
  have hd : s.data.size = s.size := rfl
  have hsz : (bytesRow s (grownCap w s.size 0 e)).size = grownCap w s.size 0 e := by simp [bytesRow]; omega
  refine ⟨_, _, hb, heap_alloc_new w.drew _, .inr (by rw [hsz]; exact Nat.le_refl _), by simpa [hd] using hge, grownCap_le_maxLen w _ _ e hs, hsz, ?_⟩
  simp [bytesRow]

section
variable {P : Program} (w : World)

theorem run_store_one (g n : Nat) (t : TypeId) (fz : Nat × Nat) (cur : Array Value) (u : Value) (hg : w.heap[g]? = some (.cells cur t fz)) (hn : n < cur.size) (hf : fz.2 = 0 ∨ cur.size ≤ fz.1) (h1 : u.oneCell' = true) :
    (storeCells ⟨g, n, none⟩ [u] 0).run P w = .ok () (w.setCell ⟨g, n, none⟩ u) := by
  have hadd : (⟨g, n, none⟩ : Addr).add 0 = ⟨g, n, none⟩ := by unfold Addr.add; split <;> simp_all
  have hcell : w.cell? ⟨g, n, none⟩ = some cur[n] := by simp [World.cell?, hg, hn]
  have hfro : w.frozen? ⟨g, n, none⟩ = false := by rw [frozen_at hg]; exact fz_free hf hn
  have hst : (store ((⟨g, n, none⟩ : Addr).add 0) u).run P w = .ok () (w.setCell ⟨g, n, none⟩ u) := by
    rw [hadd, run_store P w _ u _ h1, hcell]
    simp [hfro]
  simp only [storeCells, Sem.run_bind, hst, Result.andThen_ok]
  rfl

theorem run_append_m (base : Nat) (t ty e : TypeId) (i : TypeInfo) (z : Value) (bytes : Nat) (ht : P.underlying t = some (.slice e)) (hi : P.info? e = some i) (hz : i.zero = some z)
    (hsize : i.size = 1) (hby : i.bytes = bytes) (hzs : z.cells.size = 1)
    (v : Value) (xs : List Value) (hown : OwnM w base e v xs)
    (a : Addr) (c : Nat) (u : Value) (hnew : w.cell? a = some u) (h1 : u.oneCell' = true)
    (h63 : xs.length + 1 ≤ maxLen) (hbytes : (xs.length + 1) * bytes ≤ 140737488355328) (hbase : base ≤ w.heap.size) :
    ∃ v' w', (Builtin.append_ #[t, t] ty #[v, .slice (some a) 1 c]).run P w = .ok v' w' ∧ OwnM w' base e v' (xs ++ [u]) ∧ w.grownBy w' v.ownBlock := by
  subst hby
  obtain ⟨g, cap, cur, fz, rfl, hbg, hg, hf, hnc, hcm, hcs, htake⟩ := hown
  have hadd : a.add 0 = a := by unfold Addr.add; split <;> simp_all
  have hnews : ∀ j v, [u][j]? = some v → w.cell? (a.add j) = some v := by
    intro j v hv
    cases j with
    | zero => rw [hadd]; simp at hv; rw [hnew, hv]
    | succ j => simp at hv
  have h63' : xs.length + 1 ≤ 9223372036854775807 := by simp only [maxLen] at h63; omega
  by_cases hroom : xs.length + 1 ≤ cap
  · have hfc := run_firstCells_some (P := P) w 1 1 a 1 c [u] (by simp) hnews
    have hst := run_store_one (P := P) w g xs.length e fz cur u hg (by omega) (by rw [hcs]; exact hf) h1
    have hr : (Builtin.append_ #[t, t] ty #[.slice (some ⟨g, 0, none⟩) xs.length cap, .slice (some a) 1 c]).run P w = .ok (.slice (some ⟨g, 0, none⟩) (xs.length + 1) cap) (w.setCell ⟨g, xs.length, none⟩ u) := by
      simp [Builtin.append_, run_underlying ht, sizeOf, typeInfo, hi, hsize, Builtin.lenOf, hroom, hfc, Addr.add_lit, hst]
    refine ⟨_, _, hr, ⟨g, cap, _, fz, by simp, hbg, setCell_heap hg, hf, by simpa using hroom, hcm, by simpa using hcs, ?_⟩, ⟨rfl, rfl, rfl, by simp [World.setCell], fun k _ hk => Below.heap_setCell _ _ _ _ (fun e => hk (by simp [Value.ownBlock, e]))⟩⟩
    rw [Array.toList_setIfInBounds, List.length_append, List.length_singleton, List.take_succ_eq_append_getElem (by simp; omega), List.take_set_of_le (by omega), htake]
    simp
  · have holds : ∀ j u, xs[j]? = some u → w.cell? ((⟨g, 0, none⟩ : Addr).add j) = some u := by
      intro j u hu
      have hadd : (⟨g, 0, none⟩ : Addr).add j = ⟨g, j, none⟩ := by unfold Addr.add; split <;> simp_all
      rw [hadd]
      exact RowM.cell (cap := cap) ⟨cur, fz, hbg, hg, hf, hnc, hcm, hcs, htake⟩ hu
    have hr := run_append_grow (P := P) w t ty e i z ht hi hz ⟨g, 0, none⟩ xs.length cap xs (by simp [hsize]) holds a 1 c [u] (by simp [hsize]) hnews (by omega) (by omega) (growslice_fits (by omega) hbytes)
    have hge := grownCap_ge w (xs.length + 1) cap e
    have hcm := grownCap_le_maxLen w (xs.length + 1) cap e h63
    refine ⟨_, _, hr, ⟨w.heap.size, _, _, (0, 0), by simp, hbase, heap_alloc_new w.drew _, .inl rfl, by simpa using hge, hcm, ?_, ?_⟩, ⟨rfl, rfl, rfl, by simp, fun k hk _ => Go.heap_alloc_old w.drew _ hk⟩⟩
    · simp only [Array.size_append, List.size_toArray, size_zeroCells, hzs, List.length_singleton]
      omega
    · simp only [Array.toList_append]
      exact List.take_left

theorem wpList_append_m {ops : Array Oper} {rest : List Oper} {o : Oper} {a : Act} {Q : Exit → Act → World → Prop} (hgd : o.guard = none) (s x : Operand) (t : TypeId)
    (ho : o.op = .call { callee := .builtin .append, args := #[s, x], argTypes := #[t, t] })
    (base : Nat) (e : TypeId) (i : TypeInfo) (z : Value) (bytes : Nat) (ht : P.underlying t = some (.slice e)) (hi : P.info? e = some i) (hz : i.zero = some z)
    (hsize : i.size = 1) (hby : i.bytes = bytes) (hzs : z.cells.size = 1)
    (v : Value) (xs : List Value) (hs : a.eval s = v) (hown : OwnM w base e v xs)
    (ad : Addr) (c : Nat) (u : Value) (hx : a.eval x = .slice (some ad) 1 c) (hnew : w.cell? ad = some u) (h1 : u.oneCell' = true)
    (h63 : xs.length + 1 ≤ maxLen) (hbytes : (xs.length + 1) * bytes ≤ 140737488355328) (hbase : base ≤ w.heap.size)
    (h : ∀ v' w', OwnM w' base e v' (xs ++ [u]) → w.grownBy w' v.ownBlock → wpList P ops Q rest (a.put o.dst v') w') : wpList P ops Q (o :: rest) a w := by
  refine wpList_plain hgd fun K hK => ?_
  obtain ⟨v', w', hr, h2, h3⟩ := run_append_m (P := P) w base t o.type e i z bytes ht hi hz hsize hby hzs v xs hown ad c u hnew h1 h63 hbytes hbase
  unfold Oper.wp execOp
  simp only [ho, resolve, invoke, builtin, Sem.run_bind, Sem.run_pure, Result.andThen_ok, List.map_toArray, List.map_cons, List.map_nil, hs, hx, hr]
  exact hK _ _ (h v' w' h2 h3)
end
end Go.Proofs.YtdaelapamkmcaaaDoor
