/- ledger: marks in rows; slices.Insert of one mark (tools/ldrow.sh, out of resource's VrList, VrCopy, VrIns, VrGrow, VrSetL, RsNew). -/
import Derived.Test.YtdaelapamkmcaaaDoorLdPlain
import Derived.Test.YtdaelapamkmcaaaDoorLdBlk
import Derived.Test.YtdaelapamkmcaaaDoorOpen
import Derived.Test.YtdaelapamkmcaaaDoorAid
import Derived.Laws.CopyOwn
import Derived.Laws.OwnMore
import Derived.Lib.Overlaps
import Derived.Carry
import Derived.Shelf.Spec.SlicesInsert
import Derived.Shelf.Spec.SlicesInsertGrow
namespace Go.Proofs.YtdaelapamkmcaaaDoor
open Go.RowKit Go.Shelf Go.Lib

theorem Tryd.infoMk : (Tryd.prog.info? 49).map (fun i => (i.zero, i.size, i.bytes)) = some (some (.agg #[.int .i64 0, .string ⟨#[]⟩, .int .u64 0, .int .i64 0, .string ⟨#[]⟩]), 5, 56) := by kernel_rfl
theorem own_low {w : World} {base base' e size n : Nat} {v : Value} {xs : List Value} (h : w.ownsRow base e size v n xs) (hb : base' ≤ base) : w.ownsRow base' e size v n xs := own_less h hb
def mkCells (rs : List Mk) : List Value := rs.flatMap fun r => [.int .i64 r.t, .string r.x, .int .u64 (r.q : Int), .int .i64 r.s, .string r.d]
theorem mkCells_append (a b : List Mk) : mkCells (a ++ b) = mkCells a ++ mkCells b := by simp [mkCells]
theorem mkCells_len (rs : List Mk) : (mkCells rs).length = rs.length * 5 := by
  induction rs with
  | nil => rfl
  | cons x xs ih => simp [mkCells] at ih ⊢; omega
/-- A list of versions at a. -/
def MksAt (w : World) (a : Option Addr) (rs : List Mk) : Prop := ∀ (i : Nat) (r : Mk), rs[i]? = some r → ∃ g off, a = some ⟨g, off, none⟩ ∧ g < w.heap.size ∧
  w.cell? ⟨g, off + i * 5, none⟩ = some (.int .i64 r.t) ∧ w.cell? ⟨g, off + i * 5 + 1, none⟩ = some (.string r.x) ∧ w.cell? ⟨g, off + i * 5 + 2, none⟩ = some (.int .u64 (r.q : Int)) ∧ w.cell? ⟨g, off + i * 5 + 3, none⟩ = some (.int .i64 r.s) ∧ w.cell? ⟨g, off + i * 5 + 4, none⟩ = some (.string r.d)
theorem MksAt.below {w w' : World} {a : Option Addr} {rs : List Mk} (h : MksAt w a rs) (hb : Below w.heap.size w w') : MksAt w' a rs := by
  intro i r hi
  obtain ⟨g, off, ha, hg, h0, h1, h2, h3, h4⟩ := h i r hi
  exact ⟨g, off, ha, Nat.lt_of_lt_of_le hg hb.size, (hb.cell (p := ⟨g, _, none⟩) hg).trans h0, (hb.cell (p := ⟨g, _, none⟩) hg).trans h1, (hb.cell (p := ⟨g, _, none⟩) hg).trans h2, (hb.cell (p := ⟨g, _, none⟩) hg).trans h3, (hb.cell (p := ⟨g, _, none⟩) hg).trans h4⟩
theorem mkCells_get : ∀ (rs : List Mk) (i : Nat) (r : Mk), rs[i]? = some r → ∀ j, j < 5 → (mkCells rs)[i * 5 + j]? = ([.int .i64 r.t, .string r.x, .int .u64 (r.q : Int), .int .i64 r.s, .string r.d] : List Value)[j]?
  | [], i, x, h, _, _ => by simp at h
  | y :: ys, 0, x, h, j, hj => by
    simp at h; subst h
    have hc : j = 0 ∨ j = 1 ∨ j = 2 ∨ j = 3 ∨ j = 4 := by omega
    rcases hc with rfl | rfl | rfl | rfl | rfl <;> simp [mkCells]
  | y :: ys, i + 1, x, h, j, hj => by
    have := mkCells_get ys i x (by simpa using h) j hj
    have e : (mkCells (y :: ys))[(i + 1) * 5 + j]? = (mkCells ys)[i * 5 + j]? := by
      have : (i + 1) * 5 + j = (i * 5 + j) + 1 + 1 + 1 + 1 + 1 := by omega
      rw [this]; rfl
    rw [e]; exact this
theorem mksAt_row {w : World} {base c : Nat} {a : Option Addr} {rs : List Mk} (h : w.ownsRow base 49 5 (.slice a rs.length c) rs.length (mkCells rs)) : MksAt w a rs := by
  intro i r hi
  have hlt := (List.getElem?_eq_some_iff.1 hi).1
  have hg := mkCells_get rs i r hi
  have h0 := h
  rcases h0.2 with ⟨hv, hx⟩ | ⟨g, cap, cur, hv, _⟩
  · omega
  · simp at hv
    obtain ⟨rfl, rfl⟩ := hv
    have d0 := (h.cellAt (i * 5) (by omega)).trans (hg 0 (by omega))
    have d1 := (h.cellAt (i * 5 + 1) (by omega)).trans (hg 1 (by omega))
    have d2 := (h.cellAt (i * 5 + 2) (by omega)).trans (hg 2 (by omega))
    have d3 := (h.cellAt (i * 5 + 3) (by omega)).trans (hg 3 (by omega))
    have d4 := (h.cellAt (i * 5 + 4) (by omega)).trans (hg 4 (by omega))
    exact ⟨g, 0, rfl, World.block_lt_of_cell? w _ d0, by rw [Nat.zero_add]; exact d0, by rw [Nat.zero_add]; exact d1, by rw [Nat.zero_add]; exact d2, by rw [Nat.zero_add]; exact d3, by rw [Nat.zero_add]; exact d4⟩
/-- A list of versions comes out. -/
def MksPost (rs : List Mk) (w : World) (e : Ending) (w' : World) : Prop := ∃ v, e = .returned v ∧ w'.ownsRow w.heap.size 49 5 v rs.length (mkCells rs) ∧ Below w.heap.size w w'



theorem run_copy_wide {P : Program} (σ : Nat) (w : World) (dT sT ty elem : TypeId) (g o dLen dCap : Nat) (a : Addr) (sLen sCap N : Nat) (cur : Array Value) (t : TypeId) (cs : List Value)
    (hu : P.underlying dT = some (.slice elem)) (hs : (P.info? elem).map (·.size) = some σ)
    (hg : w.heap[g]? = some (.cells cur t (0, 0))) (hN : N = Nat.min sLen dLen) (hn : cs.length = N * σ)
    (hsrc : ∀ j v, cs[j]? = some v → w.cell? (a.add j) = some v) (hfit : o + cs.length ≤ cur.size) (h1 : ∀ v ∈ cs, v.oneCell' = true) :
    (Builtin.copy_ #[dT, sT] ty #[.slice (some ⟨g, o, none⟩) dLen dCap, .slice (some a) sLen sCap]).run P w =
      .ok (goInt N) (w.setRow g (splice cur.toList o cs).toArray) := by
  have hl := run_loadCells_list (P := P) w a cs hsrc
  have hst := run_storeCells_at (P := P) g o t cs 0 cur w hg (by simpa using hfit) h1
  cases hq : P.info? elem with
  | none => simp [hq] at hs
  | some i =>
    have hi : i.size = σ := by simpa [hq] using hs
    rw [hn] at hl
    subst hN
    simp [Builtin.copy_, run_underlying hu, Builtin.lenOf, Builtin.firstCells, sizeOf, typeInfo, hq, hi, hl, hst, splice]


/-- A list of versions comes out, in a row of its own from base on. -/
def RowPost (v0 : Value) (base : Nat) (rs : List Mk) (w : World) (e : Ending) (w' : World) : Prop := ∃ v, e = .returned v ∧ w'.ownsRow base 49 5 v rs.length (mkCells rs) ∧ w.grownBy w' v0.ownBlock
theorem grown_weak {w w' : World} {r : Option Nat} (h : w.grownBy w' none) : w.grownBy w' r := ⟨h.os, h.tape, h.output, h.size, fun k hk _ => h.block k hk (by simp)⟩
theorem own_len {w w' : World} {a : Option Addr} {L c L' c' : Nat} (h : w.grownBy w' (Value.slice a L c).ownBlock) : w.grownBy w' (Value.slice a L' c').ownBlock := by
  rwa [show (Value.slice a L' c').ownBlock = (Value.slice a L c).ownBlock by cases a <;> rfl]
theorem grown_setRow (w : World) (g : Nat) (cs : Array Value) : w.grownBy (w.setRow g cs) (some g) := ⟨rfl, rfl, rfl, by simp [World.setRow], fun k _ hne => setRow_other w g k _ (fun e => hne (by rw [e]))⟩

set_option maxRecDepth 100000 in
set_option maxHeartbeats 2000000 in
theorem insert_end (base : Nat) (v : Value) (rs : List Mk) (L : Nat) (hL : rs.length = L) (r : Mk) (B : Nat) (w : World) (hLb : L ≤ 1099511627776) (hrow : w.ownsRow base 49 5 v L (mkCells rs)) (hB : w.heap[B]? = some (.cells #[.int .i64 r.t, .string r.x, .int .u64 (r.q : Int), .int .i64 r.s, .string r.d] 49 (0, 0))) (hbase : base ≤ w.heap.size) :
    Calls Tryd.prog 26 #[v, .int .i64 (L : Int), .slice (some ⟨B, 0, none⟩) 1 1] w (RowPost v base (rs ++ [r]) w) := by
  obtain ⟨a, c, rfl⟩ := owns_slice hrow
  obtain ⟨i0, hi, hz0, hz1, hz2⟩ := info_parts Tryd.infoMk
  have hlc : ((L : Int)) ≤ (L : Int) := Int.le_refl _
  have hl0 : (0 : Int) ≤ (L : Int) := by omega
  have HROW := Lib.hid hrow
  have HB := Lib.hid hB
  have HL := Lib.hid hL
  clear hrow hB hL
  go_enter Tryd.func26, Tryd.ntmps26
  go_wp2_with (at_builtin; go_must (refine wpList_append_own _ rfl _ _ 46 rfl base 49 i0 _ 5 56 Tryd.underlying46 hi hz0 hz1 hz2 rfl (by omega) _ _ _ rfl HROW.out ⟨B, 0, none⟩ 1 1 (mkCells [r]) rfl rfl (World.news_of_block (cs := #[.int .i64 r.t, .string r.x, .int .u64 (r.q : Int), .int .i64 r.s, .string r.d]) (t := 49) (fr := (0, 0)) HB.out) (by simp [Value.oneCell', mkCells]) (by unfold maxLen; omega) (by omega) hbase ?_; intro v' w3 hown3 hgrow3 _))
  all_goals
    have HB3 := Lib.hid (show w.grownBy w3 (Value.slice a L c).ownBlock from hgrow3)
    have HR3 := Lib.hid hown3
    clear hown3 hgrow3
    go_wp2_with fail
    go_ret
    refine ⟨_, rfl, ?_, own_len HB3.out⟩
    rw [mkCells_append, List.length_append, HL.out]; exact HR3.out

theorem Tryd.sizeMk (w : World) : (Go.sizeOf 49).run Tryd.prog w = .ok 5 w := by
  obtain ⟨i0, hi, hz0, hz1, hz2⟩ := info_parts Tryd.infoMk
  simp [sizeOf, typeInfo, hi, hz1]
theorem overlaps_no (w : World) (B g o lb cb k1 k2 : Nat) (t1 t2 : TypeId) (hne : B ≠ g) (h1 : w.shape? B = some (t1, k1)) (h2 : w.shape? g = some (t2, k2)) (hk : k2 ≠ 0) (hf : w.frozen? ⟨B, 0, none⟩ = false) (hf2 : w.frozen? ⟨B, k1, none⟩ = false) :
    (callFunc 47 #[.slice (some ⟨B, 0, none⟩) 1 1, .slice (some ⟨g, o, none⟩) lb cb]).run Tryd.prog w = .ok (.value (.bool false)) w := by
  rw [run_callFunc_extern Tryd.func47 (by kernel_rfl) (by kernel_rfl) (by kernel_rfl) (e := Extern.SlicesOverlaps.overlaps #[46, 46] #[4]) (by kernel_rfl),
    Lib.run_overlaps_apart w 46 4 49 Tryd.underlying46 5 Tryd.sizeMk ⟨B, 0, none⟩ ⟨g, o, none⟩ 1 1 lb cb hne t1 t2 k1 k2 h1 h2 hk hf hf2]
  rfl

theorem mkCells_take_len (rs : List Mk) (i : Nat) (hi : i ≤ rs.length) : (mkCells (rs.take i)).length = i * 5 := by rw [mkCells_len, List.length_take, Nat.min_eq_left hi]
theorem mkCells_drop (rs : List Mk) (i : Nat) (hi : i ≤ rs.length) : mkCells (rs.drop i) = (mkCells rs).drop (i * 5) := by
  have h := mkCells_append (rs.take i) (rs.drop i)
  rw [List.take_append_drop] at h
  rw [h]; exact (List.drop_left' (mkCells_take_len rs i hi)).symm
theorem mkCells_take (rs : List Mk) (i : Nat) (hi : i ≤ rs.length) : mkCells (rs.take i) = (mkCells rs).take (i * 5) := by
  have h := mkCells_append (rs.take i) (rs.drop i)
  rw [List.take_append_drop] at h
  rw [h]; exact (List.take_left' (mkCells_take_len rs i hi)).symm
theorem mk_one {rs : List Mk} : ∀ u ∈ mkCells rs, u.oneCell' = true := by
  intro u hu
  unfold mkCells at hu
  obtain ⟨r, _, h⟩ := List.mem_flatMap.1 hu
  simp only [List.mem_cons, List.not_mem_nil, or_false] at h
  rcases h with rfl | rfl | rfl | rfl | rfl <;> rfl
theorem ins_list {X : List Value} {rs : List Mk} {i L c : Nat} (r : Mk) (hL : rs.length = L) (hi : i < L) (hroom : L + 1 ≤ c) (hX : X.length = c * 5) (htk : X.take (L * 5) = mkCells rs) :
    (splice (splice X ((i + 1) * 5) (mkCells (rs.drop i))) (i * 5) (mkCells [r])).take ((L + 1) * 5) = mkCells (rs.take i ++ r :: rs.drop i) := by
  have l1 : (mkCells [r]).length = 5 := rfl
  have l2 : (mkCells (rs.drop i)).length = (L - i) * 5 := by rw [mkCells_len, List.length_drop, hL]
  have e1 : mkCells (rs.take i) = X.take (i * 5) := by rw [mkCells_take rs i (by omega), ← htk, List.take_take]; congr 1; omega
  have l3 : (X.take (i * 5)).length = i * 5 := by rw [List.length_take]; omega
  have l4 : (X.take ((i + 1) * 5)).length = (i + 1) * 5 := by rw [List.length_take]; omega
  have s1 : (splice X ((i + 1) * 5) (mkCells (rs.drop i))).take (i * 5) = X.take (i * 5) := by
    unfold splice
    rw [List.take_append_of_le_length (by omega), List.take_take]; congr 1; omega
  have s2 : (splice X ((i + 1) * 5) (mkCells (rs.drop i))).drop (i * 5 + 5) = mkCells (rs.drop i) ++ X.drop ((i + 1) * 5 + (mkCells (rs.drop i)).length) := by
    unfold splice
    rw [List.drop_append_of_le_length (by omega), List.drop_of_length_le (by omega), List.nil_append]
  have e2 : mkCells (rs.take i ++ r :: rs.drop i) = X.take (i * 5) ++ (mkCells [r] ++ mkCells (rs.drop i)) := by
    rw [mkCells_append, e1, show r :: rs.drop i = [r] ++ rs.drop i from rfl, mkCells_append]
  rw [e2]
  have e3 : splice (splice X ((i + 1) * 5) (mkCells (rs.drop i))) (i * 5) (mkCells [r]) = (X.take (i * 5) ++ (mkCells [r] ++ mkCells (rs.drop i))) ++ X.drop ((i + 1) * 5 + (mkCells (rs.drop i)).length) := by
    rw [splice, s1, l1, s2]; simp
  rw [e3, List.take_append_of_le_length (by simp only [List.length_append]; omega), List.take_of_length_le (by simp only [List.length_append]; omega)]

set_option maxRecDepth 100000 in
set_option maxHeartbeats 4000000 in
theorem insert_room (base g c : Nat) (cur : Array Value) (rs : List Mk) (L i : Nat) (hL : rs.length = L) (hi : i < L) (r : Mk) (B : Nat) (w : World) (hLb : L ≤ 1099511627776) (hc63 : c ≤ maxLen) (hroom : L + 1 ≤ c)
    (hbg : base ≤ g) (hcur : w.heap[g]? = some (.cells cur 49 (0, 0))) (hsz : cur.size = c * 5) (htk : cur.toList.take (L * 5) = mkCells rs)
    (hB : w.heap[B]? = some (.cells #[.int .i64 r.t, .string r.x, .int .u64 (r.q : Int), .int .i64 r.s, .string r.d] 49 (0, 0))) (hBg : B ≠ g) :
    Calls Tryd.prog 26 #[.slice (some ⟨g, 0, none⟩) L c, .int .i64 (i : Int), .slice (some ⟨B, 0, none⟩) 1 1] w (RowPost (.slice (some ⟨g, 0, none⟩) L c) base (rs.take i ++ r :: rs.drop i) w) := by
  unfold maxLen at hc63
  have hov : ∀ o lb cb, (callFunc 47 #[.slice (some ⟨B, 0, none⟩) 1 1, .slice (some ⟨g, o, none⟩) lb cb]).run Tryd.prog w = .ok (.value (.bool false)) w := fun o lb cb =>
    overlaps_no w B g o lb cb 5 (c * 5) 49 49 hBg (by simp [World.shape?, hB]) (by simp [World.shape?, hcur, hsz]) (by omega) (by simp [World.frozen?, hB]) (by simp [World.frozen?, hB])
  have hz2 : ¬ ((i : Int) = (L : Int)) := by omega
  have hz3 : (i : Int) ≤ (L : Int) := by omega
  have hz0 : (0 : Int) ≤ (i : Int) := by omega
  have hw1 : IntKind.i64.wrap ((i : Int) + 1) = (i : Int) + 1 := by rw [IntKind.wrap_i64]; omega
  have hw2 : IntKind.i64.wrap ((L : Int) + 1) = (L : Int) + 1 := by rw [IntKind.wrap_i64]; omega
  have hb1 : (0 : Int) ≤ (i : Int) + 1 := by omega
  have hb5 : (0 : Int) ≤ (L : Int) + 1 := by omega
  have hb6 : (L : Int) + 1 ≤ (c : Int) := by omega
  have hb7 : (i : Int) + 1 ≤ (L : Int) + 1 := by omega
  have htn : ((i : Int) + 1).toNat = i + 1 := by omega
  have htL : ((L : Int) + 1).toNat = L + 1 := by omega
  have hb2 : ¬ (c = i + 1) := by omega
  have hb3 : (i : Int) ≤ (L : Int) + 1 := by omega
  have hb4 : ¬ (c = i) := by omega
  have hX : cur.toList.length = c * 5 := by rw [Array.length_toList]; exact hsz
  have hds : (mkCells (rs.drop i)).length = (L - i) * 5 := by rw [mkCells_len, List.length_drop, hL]
  have hin := ins_list r hL hi hroom hX htk
  obtain ⟨CS, hCS⟩ : ∃ CS, mkCells (rs.drop i) = CS := ⟨_, rfl⟩
  have hone : ∀ u ∈ CS, u.oneCell' = true := by rw [← hCS]; exact mk_one
  have hCSe : CS = (mkCells rs).drop (i * 5) := by rw [← hCS, mkCells_drop rs i (by omega)]
  rw [hCS] at hds hin
  have hsz5 : (Tryd.prog.info? 49).map (·.size) = some 5 := by
    obtain ⟨i0, hi0, hz0, hz1, hz2⟩ := info_parts Tryd.infoMk
    rw [hi0]; simp [hz1]
  have hcp1 : ∀ ty dc sc, (Builtin.copy_ #[46, 46] ty #[.slice (some ⟨g, (i + 1) * 5, none⟩) (L - i) dc, .slice (some ⟨g, i * 5, none⟩) (L + 1 - i) sc]).run Tryd.prog w.drew = .ok (goInt (L - i : Nat)) (w.drew.setRow g (splice cur.toList ((i + 1) * 5) CS).toArray) := fun ty dc sc =>
    run_copy_wide 5 w.drew _ _ ty 49 g ((i + 1) * 5) _ dc ⟨g, i * 5, none⟩ _ sc (L - i) cur 49 CS Tryd.underlying46 hsz5 hcur (by simp only [Nat.min_def]; split <;> omega) hds
      (fun j v hj => by
        rw [addr_plain]
        have hjl := (List.getElem?_eq_some_iff.1 hj).1
        have hc : w.drew.cell? ⟨g, i * 5 + j, none⟩ = cur[i * 5 + j]? := Blk.cell (show Blk w.drew g cur 49 from hcur) (i * 5 + j)
        rw [hc, ← hj, hCSe, ← htk, List.getElem?_drop, List.getElem?_take, if_pos (by omega)]
        simp)
      (by omega) hone
  obtain ⟨X1, hX1⟩ : ∃ X1, splice cur.toList ((i + 1) * 5) CS = X1 := ⟨_, rfl⟩
  have hX1l : X1.length = c * 5 := by rw [← hX1, length_splice _ _ _ (by omega)]; exact hX
  rw [hX1] at hcp1 hin
  obtain ⟨W1, hW1⟩ : ∃ W1, w.drew.setRow g X1.toArray = W1 := ⟨_, rfl⟩
  have hg1 : W1.heap[g]? = some (.cells X1.toArray 49 (0, 0)) := by rw [← hW1]; exact setRow_heap w.drew g cur _ _ _ hcur
  have hB1 : Blk W1 B #[.int .i64 r.t, .string r.x, .int .u64 (r.q : Int), .int .i64 r.s, .string r.d] 49 := by
    rw [← hW1]; exact (setRow_other w.drew g B _ hBg).trans hB
  have hbl1 : w.grownBy W1 (some g) := by rw [← hW1]; exact (grown_weak (grown_of_below (Below.refl w.heap.size w).drew)).trans (grown_setRow w.drew g _)
  rw [hW1] at hcp1
  have hcp2 : ∀ ty dc, (Builtin.copy_ #[46, 46] ty #[.slice (some ⟨g, i * 5, none⟩) (L + 1 - i) dc, .slice (some ⟨B, 0, none⟩) 1 1]).run Tryd.prog W1 = .ok (goInt (1 : Nat)) (W1.setRow g (splice X1 (i * 5) (mkCells [r])).toArray) := fun ty dc =>
    run_copy_wide 5 W1 _ _ ty 49 g (i * 5) _ dc ⟨B, 0, none⟩ 1 1 1 X1.toArray 49 (mkCells [r]) Tryd.underlying46 hsz5 hg1 (by simp only [Nat.min_def]; split <;> omega) rfl
      (World.news_of_block (cs := #[.int .i64 r.t, .string r.x, .int .u64 (r.q : Int), .int .i64 r.s, .string r.d]) (t := 49) (fr := (0, 0)) hB1)
      (by simp only [List.size_toArray, hX1l]; show i * 5 + 5 ≤ c * 5; omega) mk_one
  have hg2 : (W1.setRow g (splice X1 (i * 5) (mkCells [r])).toArray).heap[g]? = some (.cells (splice X1 (i * 5) (mkCells [r])).toArray 49 (0, 0)) := setRow_heap W1 g _ _ _ _ hg1
  have hbl2 : w.grownBy (W1.setRow g (splice X1 (i * 5) (mkCells [r])).toArray) (some g) := hbl1.trans (grown_setRow W1 g _)
  have hX2l : (splice X1 (i * 5) (mkCells [r])).length = c * 5 := by rw [length_splice _ _ _ (by rw [hX1l]; show i * 5 + 5 ≤ c * 5; omega)]; exact hX1l
  obtain ⟨X2, hX2⟩ : ∃ X2, splice X1 (i * 5) (mkCells [r]) = X2 := ⟨_, rfl⟩
  rw [hX2] at hcp2 hin hg2 hbl2 hX2l
  have HE := Lib.hid (And.intro hg2 (And.intro hbl2 (And.intro hX2l (And.intro hin hL))))
  clear hg2 hbl2 hX2l hin hX2 hbl1 hB1 hg1 hX1l hX1 hW1 hCSe hone hCS hds hX hL
  have HCUR := Lib.hid hcur
  have HBK := Lib.hid hB
  have HTK := Lib.hid htk
  have HSZ := Lib.hid hsz
  clear hcur hB htk hsz
  go_enter Tryd.func26, Tryd.ntmps26
  go_wp2_with (simp only [hov])
  go_region_law (refine step_copy_runI rfl (.tmp 73) (.tmp 76) 46 46 rfl _ _ (by simp [Act.eval, Act.put]) (by simp [Act.eval, Act.put]) (hcp1 _ _ _) ?_)
  all_goals
    go_wp2_with (at_builtin; go_must (refine wpList_copy_runI _ rfl _ _ 46 46 rfl _ _ rfl rfl (hcp2 _ _) ?_))
    go_ret
    refine ⟨_, rfl, ?_, HE.out.2.1⟩
    have hlen : (rs.take i ++ r :: rs.drop i).length = L + 1 := by rw [List.length_append, List.length_cons, List.length_take, List.length_drop, HE.out.2.2.2.2]; omega
    rw [hlen]
    exact ⟨by rw [mkCells_len, hlen], .inr ⟨g, c, X2.toArray, rfl, hbg, HE.out.1, hroom, by unfold maxLen; omega, by simp only [List.size_toArray]; exact HE.out.2.2.1, HE.out.2.2.2.1⟩⟩


theorem ins_list2 {X : List Value} {rs : List Mk} {i L G : Nat} (r : Mk) (hL : rs.length = L) (hi : i < L) (hG : L + 1 ≤ G) (hX : X.length = G * 5) (htk : X.take (i * 5) = mkCells (rs.take i)) :
    (splice (splice X (i * 5) (mkCells [r])) ((i + 1) * 5) (mkCells (rs.drop i))).take ((L + 1) * 5) = mkCells (rs.take i ++ r :: rs.drop i) := by
  have l1 : (mkCells [r]).length = 5 := rfl
  have l2 : (mkCells (rs.drop i)).length = (L - i) * 5 := by rw [mkCells_len, List.length_drop, hL]
  have l3 : (X.take (i * 5)).length = i * 5 := by rw [List.length_take]; omega
  have s1 : (splice X (i * 5) (mkCells [r])).take ((i + 1) * 5) = X.take (i * 5) ++ mkCells [r] := by
    unfold splice
    rw [← List.append_assoc, List.take_append_of_le_length (by rw [List.length_append]; omega), List.take_of_length_le (by rw [List.length_append]; omega)]
  have e2 : mkCells (rs.take i ++ r :: rs.drop i) = (X.take (i * 5) ++ mkCells [r]) ++ mkCells (rs.drop i) := by
    rw [mkCells_append, ← htk, show r :: rs.drop i = [r] ++ rs.drop i from rfl, mkCells_append, List.append_assoc]
  rw [e2, splice, s1, ← List.append_assoc, List.take_append_of_le_length (by simp only [List.length_append]; omega), List.take_of_length_le (by simp only [List.length_append]; omega)]

set_option maxRecDepth 100000 in
set_option maxHeartbeats 4000000 in
theorem insert_grow (base g c : Nat) (cur : Array Value) (rs : List Mk) (L i : Nat) (hL : rs.length = L) (hi : i < L) (r : Mk) (B : Nat) (w : World) (hLb : L ≤ 1099511627776) (hroom : c < L + 1) (hLc : L ≤ c)
    (hbase : base ≤ w.heap.size) (hcur : w.heap[g]? = some (.cells cur 49 (0, 0))) (htk : cur.toList.take (L * 5) = mkCells rs)
    (hB : w.heap[B]? = some (.cells #[.int .i64 r.t, .string r.x, .int .u64 (r.q : Int), .int .i64 r.s, .string r.d] 49 (0, 0))) :
    Calls Tryd.prog 26 #[.slice (some ⟨g, 0, none⟩) L c, .int .i64 (i : Int), .slice (some ⟨B, 0, none⟩) 1 1] w (RowPost (.slice (some ⟨g, 0, none⟩) L c) base (rs.take i ++ r :: rs.drop i) w) := by
  obtain ⟨i0, hi0, hz0, hzs, hzb⟩ := info_parts Tryd.infoMk
  obtain ⟨Z, hZ⟩ : ∃ Z : Value, (.agg #[.int .i64 0, .string ⟨#[]⟩, .int .u64 0, .int .i64 0, .string ⟨#[]⟩]) = Z := ⟨_, rfl⟩
  have hZ5 : Z.cells.size = 5 := by rw [← hZ]; rfl
  rw [hZ] at hz0
  have hgw : g < w.heap.size := (Array.getElem?_eq_some_iff.1 hcur).1
  have hBw : B < w.heap.size := (Array.getElem?_eq_some_iff.1 hB).1
  have hci : i ≤ rs.length := by omega
  have hkk : (L : Int) + 1 - (i : Int) = ((L + 1 - i : Nat) : Int) := by omega
  have hik : i + (L + 1 - i) = L + 1 := by omega
  have hct : mkCells (rs.take i) = cur.toList.take (i * 5) := by rw [mkCells_take rs i hci, ← htk, List.take_take]; congr 1; omega
  have hsrc0 : ∀ j v, (mkCells rs)[j]? = some v → w.cell? ⟨g, j, none⟩ = some v := fun j v hj => by
    rw [show w.cell? ⟨g, j, none⟩ = cur[j]? from Blk.cell (show Blk w g cur 49 from hcur) j, ← hj, ← htk, List.getElem?_take]
    have hjl := (List.getElem?_eq_some_iff.1 hj).1
    rw [mkCells_len] at hjl
    rw [if_pos (by omega)]; simp
  have hold : (Builtin.firstCells i0.size i (.slice (some ⟨g, 0, none⟩) i c)).run Tryd.prog w.drew = .ok (mkCells (rs.take i)).toArray w.drew := by
    rw [hzs]
    exact run_firstCells_some w.drew 5 i ⟨g, 0, none⟩ i c (mkCells (rs.take i)) (by rw [mkCells_take_len rs i hci]) (fun j v hj => by
      rw [addr_plain, Nat.zero_add]
      refine hsrc0 j v ?_
      rw [mkCells_take rs i hci, List.getElem?_take] at hj
      split at hj
      · exact hj
      · cases hj)
  have hrz : ∀ ty, (Builtin.append_ #[46, 3] ty #[.slice (some ⟨g, 0, none⟩) i c, .int .i64 ((L : Int) + 1 - (i : Int))]).run Tryd.prog w =
      .ok (.slice (some ⟨w.heap.size, 0, none⟩) (L + 1) (grownCap w (L + 1) c 49)) (w.drew.alloc (.cells ((mkCells (rs.take i)).toArray ++ Builtin.zeroCells Z.cells (L + 1 - i) ++ Builtin.zeroCells Z.cells (grownCap w (L + 1) c 49 - (L + 1))) 49)) := fun ty => by
    have h := Lib.run_append_grow_zeros w 46 3 ty 49 i0 _ .i64 .i64 Tryd.underlying46 Tryd.underlying3 hi0 hz0 (some ⟨g, 0, none⟩) i c (mkCells (rs.take i)) hold (L + 1 - i) (by omega) (by omega) (by omega) (by omega) (by rw [hzb]; omega) (by rw [hzb, hik]; exact growslice_fits hroom (by omega))
    rw [hik] at h
    rw [hkk]
    exact h
  have hGn : L + 1 ≤ grownCap w (L + 1) c 49 := grownCap_ge w _ _ _
  have hG63 : grownCap w (L + 1) c 49 ≤ maxLen := grownCap_le_maxLen w (L + 1) c 49 (by unfold maxLen; omega)
  generalize grownCap w (L + 1) c 49 = G at hrz hGn hG63
  obtain ⟨ROW, hROW⟩ : ∃ ROW : Array Value, (mkCells (rs.take i)).toArray ++ Builtin.zeroCells Z.cells (L + 1 - i) ++ Builtin.zeroCells Z.cells (G - (L + 1)) = ROW := ⟨_, rfl⟩
  rw [hROW] at hrz
  have hRl : ROW.size = G * 5 := by
    rw [← hROW]
    have := mkCells_take_len rs i hci
    simp [Builtin.zeroCells, hZ5, this]
    omega
  have hRt : ROW.toList.take (i * 5) = mkCells (rs.take i) := by
    rw [← hROW]
    simp only [Array.toList_append, List.append_assoc]
    exact List.take_left' (mkCells_take_len rs i hci)
  have hsz5 : (Tryd.prog.info? 49).map (·.size) = some 5 := by rw [hi0]; simp [hzs]
  have hds : (mkCells (rs.drop i)).length = (L - i) * 5 := by rw [mkCells_len, List.length_drop, hL]
  have hfin := ins_list2 r hL hi hGn (by rw [Array.length_toList]; exact hRl) hRt
  obtain ⟨CS, hCS⟩ : ∃ CS, mkCells (rs.drop i) = CS := ⟨_, rfl⟩
  have hone : ∀ u ∈ CS, u.oneCell' = true := by rw [← hCS]; exact mk_one
  have hCSe : ∀ j v, CS[j]? = some v → w.cell? ⟨g, i * 5 + j, none⟩ = some v := fun j v hj => hsrc0 _ v (by rw [← hCS, mkCells_drop rs i hci, List.getElem?_drop] at hj; exact hj)
  rw [hCS] at hds hfin
  obtain ⟨N, hN⟩ : ∃ N, w.heap.size = N := ⟨_, rfl⟩
  have hcpA : ∀ W : World, W.heap[N]? = some (.cells ROW 49 (0, 0)) → W.heap[B]? = w.heap[B]? → ∀ ty dc, (Builtin.copy_ #[46, 46] ty #[.slice (some ⟨N, i * 5, none⟩) (L + 1 - i) dc, .slice (some ⟨B, 0, none⟩) 1 1]).run Tryd.prog W = .ok (goInt (1 : Nat)) (W.setRow N (splice ROW.toList (i * 5) (mkCells [r])).toArray) := fun W hWN hWB ty dc =>
    run_copy_wide 5 W _ _ ty 49 N (i * 5) _ dc ⟨B, 0, none⟩ 1 1 1 ROW 49 (mkCells [r]) Tryd.underlying46 hsz5 hWN (by simp only [Nat.min_def]; split <;> omega) rfl
      (World.news_of_block (cs := #[.int .i64 r.t, .string r.x, .int .u64 (r.q : Int), .int .i64 r.s, .string r.d]) (t := 49) (fr := (0, 0)) (hWB.trans hB))
      (by rw [hRl]; show i * 5 + 5 ≤ G * 5; omega) mk_one
  have hX1l : (splice ROW.toList (i * 5) (mkCells [r])).length = G * 5 := (length_splice _ _ _ (by show i * 5 + 5 ≤ ROW.size; omega)).trans hRl
  obtain ⟨X1, hX1⟩ : ∃ X1, splice ROW.toList (i * 5) (mkCells [r]) = X1 := ⟨_, rfl⟩
  rw [hX1] at hcpA hfin hX1l
  have hcpB : ∀ W : World, W.heap[N]? = some (.cells X1.toArray 49 (0, 0)) → W.heap[g]? = w.heap[g]? → ∀ ty dc sc, (Builtin.copy_ #[46, 46] ty #[.slice (some ⟨N, (i + 1) * 5, none⟩) (L - i) dc, .slice (some ⟨g, i * 5, none⟩) (L - i) sc]).run Tryd.prog W = .ok (goInt (L - i : Nat)) (W.setRow N (splice X1 ((i + 1) * 5) CS).toArray) := fun W hWN hWg ty dc sc => by
    have h := run_copy_wide 5 W 46 46 ty 49 N ((i + 1) * 5) (L - i) dc ⟨g, i * 5, none⟩ (L - i) sc (L - i) X1.toArray 49 CS Tryd.underlying46 hsz5 hWN (by simp) hds
      (fun j v hj => by rw [addr_plain, World.cell?_of_block (a := ⟨g, i * 5 + j, none⟩) hWg]; exact hCSe j v hj)
      (by rw [List.size_toArray, hX1l, hds]; omega) hone
    exact h
  have hX2l : (splice X1 ((i + 1) * 5) CS).length = G * 5 := by rw [length_splice _ _ _ (by rw [hX1l, hds]; omega)]; exact hX1l
  obtain ⟨X2, hX2⟩ : ∃ X2, splice X1 ((i + 1) * 5) CS = X2 := ⟨_, rfl⟩
  rw [hX2] at hcpB hfin hX2l
  rw [hN] at hrz hgw hBw hbase
  have hNA : (w.alloc (.cells ROW 49)).heap[N]? = some (.cells ROW 49 (0, 0)) := by rw [← hN]; exact World.alloc_heap_new w _
  have hBA : (w.alloc (.cells ROW 49)).heap[B]? = w.heap[B]? := ((Below.refl w.heap.size w).alloc (Nat.le_refl _) _).block B (by omega)
  have hgA : (w.alloc (.cells ROW 49)).heap[g]? = w.heap[g]? := ((Below.refl w.heap.size w).alloc (Nat.le_refl _) _).block g (by omega)
  have hz2 : ¬ ((i : Int) = (L : Int)) := by omega
  have hz3 : (c : Int) < (L : Int) + 1 := by omega
  have hz4 : (0 : Int) ≤ (i : Int) := by omega
  have hw1 : IntKind.i64.wrap ((i : Int) + 1) = (i : Int) + 1 := by rw [IntKind.wrap_i64]; omega
  have hw2 : IntKind.i64.wrap ((L : Int) + 1) = (L : Int) + 1 := by rw [IntKind.wrap_i64]; omega
  have hw3 : IntKind.i64.wrap ((L : Int) + 1 - (i : Int)) = (L : Int) + 1 - (i : Int) := by rw [IntKind.wrap_i64]; omega
  have hb1 : (0 : Int) ≤ (i : Int) + 1 := by omega
  have hb3 : (i : Int) ≤ (L : Int) := by omega
  have hb5 : (i : Int) ≤ (c : Int) := by omega
  have hb6 : (i : Int) ≤ (L : Int) + 1 := by omega
  have hb7 : (i : Int) + 1 ≤ (L : Int) + 1 := by omega
  have htn : ((i : Int) + 1).toNat = i + 1 := by omega
  have hGi : ¬ (G = i) := by omega
  have hGim : ¬ (G = i + 1) := by omega
  have hcci : ¬ (c = i) := by omega
  have HE := Lib.hid (And.intro hfin (And.intro hX2l (And.intro hNA (And.intro hBA (And.intro hgA (And.intro hbase (And.intro hN (And.intro hGn (And.intro hG63 hL)))))))))
  have hcpA' := hcpA ((w.alloc (.cells ROW 49)).drew) hNA hBA
  clear hcpA hfin hX2l hNA hBA hgA hX2 hX1l hX1 hCSe hone hCS hds hRt hRl hROW hold hsrc0 hct hik hkk hci hcur hB htk hsz5 hZ5 hz0 hZ hzs hzb hi0 hL hN
  go_enter Tryd.func26, Tryd.ntmps26
  go_wp2_with (first
    | (at_builtin; refine Lib.wpList_append_run _ rfl _ _ _ _ rfl _ _ rfl rfl _ _ (hrz _) ?_)
    | (at_builtin; refine wpList_copy_runI _ rfl _ _ 46 46 rfl _ _ rfl rfl (hcpA' _ _) ?_))
  have hN1 : ((((w.alloc (.cells ROW 49)).drew).setRow N X1.toArray).drew).heap[N]? = some (.cells X1.toArray 49 (0, 0)) := setRow_heap ((w.alloc (.cells ROW 49)).drew) N ROW _ _ _ HE.out.2.2.1
  have hgo : ((((w.alloc (.cells ROW 49)).drew).setRow N X1.toArray).drew).heap[g]? = w.heap[g]? := (setRow_other ((w.alloc (.cells ROW 49)).drew) N g _ (by omega)).trans HE.out.2.2.2.2.1
  have hNw : w.heap.size ≤ N := by have := HE.out.2.2.2.2.2.2.1; omega
  have hbl : Below w.heap.size w ((((w.alloc (.cells ROW 49)).drew).setRow N X1.toArray).drew) := (below_setRow (((Below.refl w.heap.size w).alloc (Nat.le_refl _) _).drew) hNw _).drew
  have hcpB' := hcpB _ hN1 hgo
  have hW2 : (((((w.alloc (.cells ROW 49)).drew).setRow N X1.toArray).drew).setRow N X2.toArray).heap[N]? = some (.cells X2.toArray 49 (0, 0)) := setRow_heap _ N _ _ _ _ hN1
  have hbl2 : w.grownBy (((((w.alloc (.cells ROW 49)).drew).setRow N X1.toArray).drew).setRow N X2.toArray) (some g) := grown_weak (grown_of_below (below_setRow hbl hNw _))
  have HF := Lib.hid (And.intro hW2 hbl2)
  clear hN1 hgo hbl hW2 hbl2 hcpB hNw
  go_region_law (refine step_copy_runI rfl (.tmp 50) (.tmp 53) 46 46 rfl _ _ (by simp [Act.eval, Act.put]) (by simp [Act.eval, Act.put]) (hcpB' _ _ _) ?_)
  all_goals
    go_wp2_with fail
    go_ret
    refine ⟨_, rfl, ?_, HF.out.2⟩
    have hlen : (rs.take i ++ r :: rs.drop i).length = L + 1 := by rw [List.length_append, List.length_cons, List.length_take, List.length_drop, HE.out.2.2.2.2.2.2.2.2.2]; omega
    rw [hlen]
    exact ⟨by rw [mkCells_len, hlen], .inr ⟨N, G, X2.toArray, rfl, hbase, HF.out.1, hGn, hG63, by rw [List.size_toArray]; exact HE.out.2.1, HE.out.1⟩⟩


theorem insert_any (base : Nat) (v : Value) (rs : List Mk) (L i : Nat) (hL : rs.length = L) (hi : i ≤ L) (r : Mk) (B : Nat) (w : World) (hLb : L ≤ 1099511627776) (hrow : w.ownsRow base 49 5 v L (mkCells rs)) (hB : w.heap[B]? = some (.cells #[.int .i64 r.t, .string r.x, .int .u64 (r.q : Int), .int .i64 r.s, .string r.d] 49 (0, 0))) (hbase : base ≤ w.heap.size)
    (hne : ∀ g, v.ownBlock = some g → B ≠ g) :
    Calls Tryd.prog 26 #[v, .int .i64 (i : Int), .slice (some ⟨B, 0, none⟩) 1 1] w (RowPost v base (rs.take i ++ r :: rs.drop i) w) := by
  by_cases he : i = L
  · subst he
    rw [List.take_of_length_le (by omega), List.drop_of_length_le (by omega)]
    exact insert_end base v rs i hL r B w hLb hrow hB hbase
  · rcases hrow.2 with ⟨_, h0⟩ | ⟨g, cap, cur, rfl, hbg, hg, hnc, hc63, hsz, htk⟩
    · omega
    · by_cases hroom : L + 1 ≤ cap
      · exact insert_room base g cap cur rs L i hL (by omega) r B w hLb hc63 hroom hbg hg hsz htk hB (hne g rfl)
      · exact insert_grow base g cap cur rs L i hL (by omega) r B w hLb (by omega) hnc hbase hg htk hB


theorem row_some {w : World} {base e size n : Nat} {v : Value} {xs : List Value} (h : w.ownsRow base e size v n xs) (hn : 0 < n) : ∃ g cap, v = .slice (some ⟨g, 0, none⟩) n cap ∧ base ≤ g ∧ g < w.heap.size := by
  rcases h.2 with ⟨_, hx⟩ | ⟨g, cap, cur, hv, hb, hg, _⟩
  · omega
  · exact ⟨g, cap, hv, hb, (Array.getElem?_eq_some_iff.1 hg).1⟩
theorem row_shape {w : World} {base e size n : Nat} {v : Value} {xs : List Value} (h : w.ownsRow base e size v n xs) : ∃ a c, v = .slice a n c := by
  rcases h.2 with ⟨hv, hn⟩ | ⟨g, cap, cur, hv, _⟩
  · exact ⟨none, 0, by rw [hv, hn]⟩
  · exact ⟨_, _, hv⟩
theorem own_ne {w : World} {base e size n : Nat} {v : Value} {xs : List Value} (h : w.ownsRow (base + 1) e size v n xs) : v.ownBlock ≠ some base := fun e' => by have := (h.lt _ e').1; omega
theorem mkCells_set : ∀ (out : List Mk) (i : Nat) (r : Mk), i < out.length → mkCells (out.set i r) = (((((mkCells out).set (i * 5) (.int .i64 r.t)).set (i * 5 + 1) (.string r.x)).set (i * 5 + 2) (.int .u64 (r.q : Int))).set (i * 5 + 3) (.int .i64 r.s)).set (i * 5 + 4) (.string r.d)
  | [], _, _, h => by simp at h
  | y :: ys, 0, r, _ => by simp [mkCells]
  | y :: ys, i + 1, r, h => by
    have ih := mkCells_set ys i r (by simpa using h)
    have e : ∀ z zs, mkCells (z :: zs) = [.int .i64 z.t, .string z.x, .int .u64 (z.q : Int), .int .i64 z.s, .string z.d] ++ mkCells zs := fun z zs => by simp [mkCells]
    rw [List.set_cons_succ, e, e, ih]
    have f : ∀ j (l : List Value) (u : Value), ([Value.int .i64 y.t, .string y.x, .int .u64 (y.q : Int), .int .i64 y.s, .string y.d] ++ l).set ((i + 1) * 5 + j) u = [Value.int .i64 y.t, .string y.x, .int .u64 (y.q : Int), .int .i64 y.s, .string y.d] ++ l.set (i * 5 + j) u := fun j l u => by
      rw [List.set_append_right _ _ (by simp; omega)]
      congr 2
      simp; omega
    have f0 : ∀ (l : List Value) (u : Value), ([Value.int .i64 y.t, .string y.x, .int .u64 (y.q : Int), .int .i64 y.s, .string y.d] ++ l).set ((i + 1) * 5) u = [Value.int .i64 y.t, .string y.x, .int .u64 (y.q : Int), .int .i64 y.s, .string y.d] ++ l.set (i * 5) u := f 0
    rw [f0, f 1, f 2, f 3, f 4]

/-- A version in a row. -/
def MkAt (w : World) (R o : Nat) (s : Mk) : Prop := R < w.heap.size ∧ w.cell? ⟨R, o, none⟩ = some (.int .i64 s.t) ∧ w.cell? ⟨R, o + 1, none⟩ = some (.string s.x) ∧ w.cell? ⟨R, o + 2, none⟩ = some (.int .u64 (s.q : Int)) ∧ w.cell? ⟨R, o + 3, none⟩ = some (.int .i64 s.s) ∧ w.cell? ⟨R, o + 4, none⟩ = some (.string s.d)
theorem MkAt.later {w w' : World} {R o : Nat} {s : Mk} (h : MkAt w R o s) (hb : Below w.heap.size w w') : MkAt w' R o s := by
  obtain ⟨hl, h0, h1, h2, h3, h4⟩ := h
  exact ⟨Nat.lt_of_lt_of_le hl hb.size, (hb.cell (p := ⟨R, _, none⟩) hl).trans h0, (hb.cell (p := ⟨R, _, none⟩) hl).trans h1, (hb.cell (p := ⟨R, _, none⟩) hl).trans h2, (hb.cell (p := ⟨R, _, none⟩) hl).trans h3, (hb.cell (p := ⟨R, _, none⟩) hl).trans h4⟩
def rowSet (w : World) (R i : Nat) (r : Mk) : World := ((((w.setCell ⟨R, i * 5, none⟩ (.int .i64 r.t)).setCell ⟨R, i * 5 + 1, none⟩ (.string r.x)).setCell ⟨R, i * 5 + 2, none⟩ (.int .u64 (r.q : Int))).setCell ⟨R, i * 5 + 3, none⟩ (.int .i64 r.s)).setCell ⟨R, i * 5 + 4, none⟩ (.string r.d)
theorem row_set {w : World} {base R cap n i : Nat} {t : TypeId} {out : List Mk} {r : Mk} (h : w.ownsRow base t 5 (.slice (some ⟨R, 0, none⟩) n cap) n (mkCells out)) (hi : i < out.length) :
    (rowSet w R i r).ownsRow base t 5 (.slice (some ⟨R, 0, none⟩) n cap) n (mkCells (out.set i r)) ∧ w.grownBy (rowSet w R i r) (some R) := by
  obtain ⟨h1, g1⟩ := h.stored (i * 5) (.int .i64 r.t)
  obtain ⟨h2, g2⟩ := h1.stored (i * 5 + 1) (.string r.x)
  obtain ⟨h3, g3⟩ := h2.stored (i * 5 + 2) (.int .u64 (r.q : Int))
  obtain ⟨h4, g4⟩ := h3.stored (i * 5 + 3) (.int .i64 r.s)
  obtain ⟨h5, g5⟩ := h4.stored (i * 5 + 4) (.string r.d)
  rw [mkCells_set out i r hi]
  exact ⟨h5, (((g1.trans g2).trans g3).trans g4).trans g5⟩


end Go.Proofs.YtdaelapamkmcaaaDoor
