/- acks: slices.Delete of the first refusal. -/
import Derived.Test.YtogkdekjcbljnaaDoorAkTellP
import Derived.Deep.RegionLaw
import Derived.Lib.AppendZeros
namespace Go.Proofs.YtogkdekjcbljnaaDoor
open Go.RowKit Go.Shelf Go.Lib

theorem run_clear_wide {P : Program} (σ : Nat) (w : World) (t e ty : TypeId) (z : Value) (ht : P.underlying t = some (.slice e)) (hv : ∀ w, (zeroValue e).run P w = .ok z w) (hz : z.cells.size = σ) (hσ : 0 < σ) (h1 : ∀ v ∈ z.cells, v.oneCell' = true)
    (g o n c : Nat) (cur : Array Value) (T : TypeId) (hn : 0 < n) (hg : w.heap[g]? = some (.cells cur T (0, 0))) (hfit : o + n * σ ≤ cur.size) :
    (Builtin.clear_ #[t] ty #[.slice (some ⟨g, o, none⟩) n c]).run P w = .ok (.tuple #[]) (w.setRow g (splice cur.toList o (Builtin.zeroCells z.cells n).toList).toArray) := by
  have hl : (Builtin.zeroCells z.cells n).toList.length = n * σ := by simp [Builtin.zeroCells, hz]
  have hone : ∀ v ∈ (Builtin.zeroCells z.cells n).toList, v.oneCell' = true := by
    intro v hv
    simp only [Builtin.zeroCells, Array.toList_map, List.mem_map] at hv
    obtain ⟨i, _, rfl⟩ := hv
    have hlt : i % z.cells.size < z.cells.size := Nat.mod_lt _ (by omega)
    rw [getElem!_pos z.cells _ hlt]
    exact h1 _ (Array.getElem_mem hlt)
  have hst := run_storeCells_at (P := P) g o T (Builtin.zeroCells z.cells n).toList 0 cur w hg (by rw [hl]; simpa using hfit) hone
  simp only [Nat.add_zero] at hst
  obtain ⟨m, rfl⟩ : ∃ m, n = m + 1 := ⟨n - 1, by omega⟩
  simp [Builtin.clear_, run_underlying ht, hv, hst, splice]
theorem blk_row {w : World} {base g cap n : Nat} {t : TypeId} {cur : Array Value} {xs : List Value} (hb : base ≤ g) (hg : Blk w g cur t) (h1 : n ≤ cap) (h2 : cap ≤ maxLen) (h3 : cur.size = cap * 3) (h4 : cur.toList.take (n * 3) = xs) (hl : xs.length = n * 3) : w.ownsRow base t 3 (.slice (some ⟨g, 0, none⟩) n cap) n xs :=
  ⟨hl, .inr ⟨g, cap, cur, rfl, hb, hg, h1, h2, h3, h4⟩⟩

theorem step_append_run {P : Program} {ops : Array Oper} {o : Oper} {a : Act} {w : World} {K : Act → World → Prop} {Q : Exit → Act → World → Prop} {E : Prop} (hg : o.guard = none) (s x : Operand) (t tn : TypeId)
    (hop : o.op = .call { callee := .builtin .append, args := #[s, x], argTypes := #[t, tn] }) (vs vx : Value) (hs : a.eval s = vs) (hx : a.eval x = vx) (v' : Value) (w' : World) (hr : (Builtin.append_ #[t, tn] o.type #[vs, vx]).run P w = .ok v' w') (hK : K (a.put o.dst v') w') :
    if Region.wanted o (yielded ops a.tmps) = true then Oper.wp P o a w K Q else E := by
  have hw : Region.wanted o (yielded ops a.tmps) = true := by simp [Region.wanted, hg]
  rw [if_pos hw]
  exact Lib.wp_append_run w s x t tn hop vs vx hs hx v' w' hr hK
set_option maxRecDepth 100000 in
set_option maxHeartbeats 4000000 in
theorem del_first {base g c K : Nat} {rs : List Bd} {w : World} (hL : rs.length = K + 1) (hK : 1 ≤ K) (hrow : w.ownsRow base 82 3 (.slice (some ⟨g, 0, none⟩) (K + 1) c) (K + 1) (bdCells rs)) :
    Calls Tryd.prog 33 #[.slice (some ⟨g, 0, none⟩) (K + 1) c, .int .i64 0, .int .i64 1] w fun e w' => e = .returned (.slice (some ⟨g, 0, none⟩) K c) ∧ w'.ownsRow base 82 3 (.slice (some ⟨g, 0, none⟩) K c) K (bdCells (rs.drop 1)) ∧ w.grownBy w' (some g) := by
  obtain ⟨i0, hi0, hz0, hzs, hzb⟩ := info_parts Tryd.infoBd
  rcases hrow.2 with ⟨e, _⟩ | ⟨g', cap, cur, e, hbg, hg, hnc, hcm, hsz, htk⟩
  · cases e
  cases e
  unfold maxLen at hcm
  have hnl : (bdCells (rs.drop 1)).length = K * 3 := by rw [bdCells_len, List.length_drop, hL]; omega
  obtain ⟨NS, hNS⟩ : ∃ NS, bdCells (rs.drop 1) = NS := ⟨_, rfl⟩
  have hNSe : NS = (bdCells rs).drop 3 := by rw [← hNS, bdCells_drop rs 1 (by omega)]
  have hone : ∀ u ∈ NS, u.oneCell' = true := by rw [← hNS]; exact bd_one
  rw [hNS] at hnl
  have hcl : cur.toList.length = c * 3 := by rw [Array.length_toList]; exact hsz
  have hd : w.drew.heap[g]? = some (.cells cur 82 (0, 0)) := hg
  have hsrc : ∀ j u, NS[j]? = some u → w.drew.cell? ((⟨g, 3, none⟩ : Addr).add j) = some u := fun j u hj => by
    have hjl := (List.getElem?_eq_some_iff.1 hj).1
    rw [addr_plain]
    have hc : w.drew.cell? ⟨g, 3 + j, none⟩ = cur[3 + j]? := Blk.cell (show Blk w.drew g cur 82 from hd) (3 + j)
    rw [hc, ← hj, hNSe, ← htk, List.getElem?_drop, List.getElem?_take, if_pos (by omega)]
    simp
  have happ : ∀ ty, (Builtin.append_ #[78, 78] ty #[.slice (some ⟨g, 0, none⟩) 0 c, .slice (some ⟨g, 3, none⟩) K (c - 1)]).run Tryd.prog w.drew = .ok (.slice (some ⟨g, 0, none⟩) K c) (w.drew.setRow g (NS ++ cur.toList.drop (K * 3)).toArray) := fun ty => by
    have h := run_append_room (P := Tryd.prog) w.drew 78 ty 82 i0 Tryd.underlying78 hi0 g 0 c cur hd ⟨g, 3, none⟩ K (c - 1) NS (by rw [hnl, hzs]) hsrc hone (by omega) (by rw [hnl, hsz]; omega)
    simp only [Nat.zero_mul, List.take_zero, List.nil_append, Nat.zero_add, hnl] at h
    exact h
  obtain ⟨X1, hX1⟩ : ∃ X1, NS ++ cur.toList.drop (K * 3) = X1 := ⟨_, rfl⟩
  have hX1l : X1.length = c * 3 := by rw [← hX1, List.length_append, List.length_drop, hnl, hcl]; omega
  have hX1t : X1.take (K * 3) = NS := by rw [← hX1, ← hnl, List.take_left]
  rw [hX1] at happ
  obtain ⟨W1, hW1⟩ : ∃ W1, w.drew.setRow g X1.toArray = W1 := ⟨_, rfl⟩
  have hg1 : W1.heap[g]? = some (.cells X1.toArray 82 (0, 0)) := by rw [← hW1]; exact setRow_heap w.drew g cur _ _ _ hd
  have hgr1 : w.grownBy W1 (some g) := by rw [← hW1]; exact (grown_weak (grown_of_below (Below.refl w.heap.size w).drew)).trans (grown_setRow w.drew g _)
  rw [hW1] at happ
  have hZ : ∀ w, (zeroValue 82).run Tryd.prog w = .ok (.agg #[.int .u64 0, .bool false, .string ⟨#[]⟩]) w := fun w => by kernel_rfl
  have hclr : ∀ ty, (Builtin.clear_ #[78] ty #[.slice (some ⟨g, K * 3, none⟩) 1 (c - K)]).run Tryd.prog W1 = .ok (.tuple #[]) (W1.setRow g (splice X1 (K * 3) (Builtin.zeroCells (Value.agg #[.int .u64 0, .bool false, .string ⟨#[]⟩]).cells 1).toList).toArray) := fun ty =>
    run_clear_wide 3 W1 78 82 ty _ Tryd.underlying78 hZ rfl (by omega) (by decide) g (K * 3) 1 (c - K) X1.toArray 82 (by omega) hg1 (by rw [List.size_toArray, hX1l]; omega)
  obtain ⟨Zs, hZs⟩ : ∃ Zs, (Builtin.zeroCells (Value.agg #[.int .u64 0, .bool false, .string ⟨#[]⟩]).cells 1).toList = Zs := ⟨_, rfl⟩
  have hZl : Zs.length = 1 * 3 := by rw [← hZs]; simp [Builtin.zeroCells]; rfl
  rw [hZs] at hclr
  have hX2l : (splice X1 (K * 3) Zs).length = X1.length := length_splice _ _ _ (by rw [hZl, hX1l]; omega)
  have hfin : (W1.setRow g (splice X1 (K * 3) Zs).toArray).ownsRow base 82 3 (.slice (some ⟨g, 0, none⟩) K c) K NS := by
    refine ⟨hnl, .inr ⟨g, c, (splice X1 (K * 3) Zs).toArray, rfl, hbg, setRow_heap W1 g _ _ _ _ hg1, by omega, by unfold maxLen; omega, by rw [List.size_toArray, hX2l, hX1l], ?_⟩⟩
    show (splice X1 (K * 3) Zs).take (K * 3) = NS
    unfold splice
    rw [List.take_append_of_le_length (by rw [List.length_take, hX1l]; omega), List.take_take, Nat.min_self, hX1t]
  have HNI := Lib.hid hNS
  have HFIN := Lib.hid (And.intro hfin (hgr1.trans (grown_setRow W1 g (splice X1 (K * 3) Zs).toArray)))
  have b1 : ¬ (c = 1) := by omega
  have b2 : ¬ (c = K) := by omega
  have b3 : ¬ (c = 0) := by omega
  have b4 : (1 : Int) ≤ (K : Int) + 1 := by omega
  have b5 : (0 : Int) ≤ (K : Int) := by omega
  have b6 : (K : Int) ≤ (K : Int) + 1 := by omega
  have b7 : (K : Int) + 1 ≤ (c : Int) := by omega
  have b8 : (0 : Int) ≤ (c : Int) := by omega
  have b9 : (0 : Int) ≤ (K : Int) + 1 := by omega
  have t1 : ((K : Int) + 1).toNat = K + 1 := by omega
  clear hfin hgr1 hX2l hZl hZs hZ hg1 hW1 hX1t hX1l hX1 hsrc hd hcl hone hNSe hnl hg hsz htk hrow hL
  go_enter Tryd.func33, Tryd.ntmps33
  go_wp2_with fail
  go_region_law (refine step_append_run rfl (.tmp 22) (.tmp 25) 78 78 rfl _ _ (by simp [Act.eval, Act.put]) (by simp [Act.eval, Act.put]) _ _ (happ _) ?_)
  all_goals
    clear happ
    go_wp2_with fail
    go_ret
    exact ⟨rfl, by rw [HNI.out]; exact HFIN.out.1, HFIN.out.2⟩
end Go.Proofs.YtogkdekjcbljnaaDoor
