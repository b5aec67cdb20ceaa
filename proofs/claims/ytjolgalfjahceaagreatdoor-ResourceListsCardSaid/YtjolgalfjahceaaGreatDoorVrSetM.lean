/- resource: Insert and Set of any list (VrCopy, VrIns, VrGrow, VrSetL, VrSetP in one, as a claim has at most 60 files). -/
import Derived.Test.YtjolgalfjahceaaGreatDoorVrBeh
import Derived.Laws.CopyOwn
import Derived.Lib.Overlaps
import Derived.Shelf.Spec.SlicesInsert
import Derived.Shelf.Spec.SlicesInsertGrow
namespace Go.Proofs.YtjolgalfjahceaaGreatDoor
section
open Go.RowKit

theorem run_copy_wide {P : Program} (σ : Nat) (w : World) (dT sT ty elem : TypeId) (g o dLen dCap : Nat) (a : Addr) (sLen sCap N : Nat) (cur : Array Value) (t : TypeId) (cs : List Value)
    (hu : P.underlying dT = some (.slice elem)) (hs : (P.info? elem).map (·.size) = some σ)
    (hg : w.heap[g]? = some (.cells cur t (0, 0))) (hN : N = Nat.min sLen dLen) (hn : cs.length = N * σ)
    (hsrc : ∀ j v, cs[j]? = some v → w.cell? (a.add j) = some v) (hfit : o + cs.length ≤ cur.size) (h1 : ∀ v ∈ cs, v.oneCell' = true) :
    (Builtin.copy_ #[dT, sT] ty #[.slice (some ⟨g, o, none⟩) dLen dCap, .slice (some a) sLen sCap]).run P w =
      .ok (goInt N) (w.setRow g (splice cur.toList o cs).toArray) := by
  have hl := run_loadCells_list (P := P) w a cs hsrc
  have hst := run_storeCells_at (P := P) g o t cs 0 cur w hg (by simpa using hfit) h1
  cases hq : P.info? elem with
  | none => simp [hq] at hs
  | some i =>
    have hi : i.size = σ := by simpa [hq] using hs
    rw [hn] at hl
    subst hN
    simp [Builtin.copy_, run_underlying hu, Builtin.lenOf, Builtin.firstCells, sizeOf, typeInfo, hq, hi, hl, hst, splice]
end
section
open Go.RowKit

/-- A list of versions comes out, in a row of its own from base on. -/
def RowPost (base : Nat) (rs : List Vr) (w : World) (e : Ending) (w' : World) : Prop := ∃ v, e = .returned v ∧ w'.ownsRow base 27 5 v rs.length (vrCells rs) ∧ Below base w w'

set_option maxRecDepth 100000 in
set_option maxHeartbeats 2000000 in
theorem insert_end (base : Nat) (v : Value) (rs : List Vr) (L : Nat) (hL : rs.length = L) (r : Vr) (B : Nat) (w : World) (hLb : L ≤ 1099511627776) (hrow : w.ownsRow base 27 5 v L (vrCells rs)) (hB : w.heap[B]? = some (.cells #[.int .i64 r.t, .string r.x, .int .u64 (r.q : Int), .bool r.g, .string r.s] 27 (0, 0))) (hbase : base ≤ w.heap.size) :
    Calls Tryz.prog 28 #[v, .int .i64 (L : Int), .slice (some ⟨B, 0, none⟩) 1 1] w (RowPost base (rs ++ [r]) w) := by
  obtain ⟨a, c, rfl⟩ := owns_slice hrow
  obtain ⟨i0, hi, hz0, hz1, hz2⟩ := info_parts Tryz.infoRs
  have hlc : ((L : Int)) ≤ (L : Int) := Int.le_refl _
  have hl0 : (0 : Int) ≤ (L : Int) := by omega
  have HROW := Lib.hid hrow
  have HB := Lib.hid hB
  have HL := Lib.hid hL
  clear hrow hB hL
  go_enter Tryz.func28, Tryz.ntmps28
  go_wp2_with (at_builtin; go_must (refine wpList_append_own _ rfl _ _ 31 rfl base 27 i0 _ 5 56 Tryz.underlying31 hi hz0 hz1 hz2 rfl (by omega) _ _ _ rfl HROW.out ⟨B, 0, none⟩ 1 1 (vrCells [r]) rfl rfl (World.news_of_block (cs := #[.int .i64 r.t, .string r.x, .int .u64 (r.q : Int), .bool r.g, .string r.s]) (t := 27) (fr := (0, 0)) HB.out) (by simp [Value.oneCell', vrCells]) (by unfold maxLen; omega) (by omega) hbase ?_; intro v' w3 hown3 hgrow3 _))
  all_goals
    have HB3 := Lib.hid ((Below.refl base w).grown hgrow3 hbase (fun j hj => (HROW.out.lt j hj).1))
    have HR3 := Lib.hid hown3
    clear hown3 hgrow3
    go_wp2_with fail
    go_ret
    refine ⟨_, rfl, ?_, HB3.out⟩
    rw [vrCells_append, List.length_append, HL.out]; exact HR3.out

theorem Tryz.sizeRs (w : World) : (Go.sizeOf 27).run Tryz.prog w = .ok 5 w := by
  obtain ⟨i0, hi, hz0, hz1, hz2⟩ := info_parts Tryz.infoRs
  simp [sizeOf, typeInfo, hi, hz1]
theorem overlaps_no (w : World) (B g o lb cb k1 k2 : Nat) (t1 t2 : TypeId) (hne : B ≠ g) (h1 : w.shape? B = some (t1, k1)) (h2 : w.shape? g = some (t2, k2)) (hk : k2 ≠ 0) (hf : w.frozen? ⟨B, 0, none⟩ = false) (hf2 : w.frozen? ⟨B, k1, none⟩ = false) :
    (callFunc 45 #[.slice (some ⟨B, 0, none⟩) 1 1, .slice (some ⟨g, o, none⟩) lb cb]).run Tryz.prog w = .ok (.value (.bool false)) w := by
  rw [run_callFunc_extern Tryz.func45 (by kernel_rfl) (by kernel_rfl) (by kernel_rfl) (e := Extern.SlicesOverlaps.overlaps #[31, 31] #[4]) (by kernel_rfl),
    Lib.run_overlaps_apart w 31 4 27 Tryz.underlying31 5 Tryz.sizeRs ⟨B, 0, none⟩ ⟨g, o, none⟩ 1 1 lb cb hne t1 t2 k1 k2 h1 h2 hk hf hf2]
  rfl

theorem vrCells_take_len (rs : List Vr) (i : Nat) (hi : i ≤ rs.length) : (vrCells (rs.take i)).length = i * 5 := by rw [vrCells_len, List.length_take, Nat.min_eq_left hi]
theorem vrCells_drop (rs : List Vr) (i : Nat) (hi : i ≤ rs.length) : vrCells (rs.drop i) = (vrCells rs).drop (i * 5) := by
  have h := vrCells_append (rs.take i) (rs.drop i)
  rw [List.take_append_drop] at h
  rw [h]; exact (List.drop_left' (vrCells_take_len rs i hi)).symm
theorem vrCells_take (rs : List Vr) (i : Nat) (hi : i ≤ rs.length) : vrCells (rs.take i) = (vrCells rs).take (i * 5) := by
  have h := vrCells_append (rs.take i) (rs.drop i)
  rw [List.take_append_drop] at h
  rw [h]; exact (List.take_left' (vrCells_take_len rs i hi)).symm
theorem vr_one {rs : List Vr} : ∀ u ∈ vrCells rs, u.oneCell' = true := by
  intro u hu
  unfold vrCells at hu
  obtain ⟨r, _, h⟩ := List.mem_flatMap.1 hu
  simp only [List.mem_cons, List.not_mem_nil, or_false] at h
  rcases h with rfl | rfl | rfl | rfl | rfl <;> rfl
theorem ins_list {X : List Value} {rs : List Vr} {i L c : Nat} (r : Vr) (hL : rs.length = L) (hi : i < L) (hroom : L + 1 ≤ c) (hX : X.length = c * 5) (htk : X.take (L * 5) = vrCells rs) :
    (splice (splice X ((i + 1) * 5) (vrCells (rs.drop i))) (i * 5) (vrCells [r])).take ((L + 1) * 5) = vrCells (rs.take i ++ r :: rs.drop i) := by
  have l1 : (vrCells [r]).length = 5 := rfl
  have l2 : (vrCells (rs.drop i)).length = (L - i) * 5 := by rw [vrCells_len, List.length_drop, hL]
  have e1 : vrCells (rs.take i) = X.take (i * 5) := by rw [vrCells_take rs i (by omega), ← htk, List.take_take]; congr 1; omega
  have l3 : (X.take (i * 5)).length = i * 5 := by rw [List.length_take]; omega
  have l4 : (X.take ((i + 1) * 5)).length = (i + 1) * 5 := by rw [List.length_take]; omega
  have s1 : (splice X ((i + 1) * 5) (vrCells (rs.drop i))).take (i * 5) = X.take (i * 5) := by
    unfold splice
    rw [List.take_append_of_le_length (by omega), List.take_take]; congr 1; omega
  have s2 : (splice X ((i + 1) * 5) (vrCells (rs.drop i))).drop (i * 5 + 5) = vrCells (rs.drop i) ++ X.drop ((i + 1) * 5 + (vrCells (rs.drop i)).length) := by
    unfold splice
    rw [List.drop_append_of_le_length (by omega), List.drop_of_length_le (by omega), List.nil_append]
  have e2 : vrCells (rs.take i ++ r :: rs.drop i) = X.take (i * 5) ++ (vrCells [r] ++ vrCells (rs.drop i)) := by
    rw [vrCells_append, e1, show r :: rs.drop i = [r] ++ rs.drop i from rfl, vrCells_append]
  rw [e2]
  have e3 : splice (splice X ((i + 1) * 5) (vrCells (rs.drop i))) (i * 5) (vrCells [r]) = (X.take (i * 5) ++ (vrCells [r] ++ vrCells (rs.drop i))) ++ X.drop ((i + 1) * 5 + (vrCells (rs.drop i)).length) := by
    rw [splice, s1, l1, s2]; simp
  rw [e3, List.take_append_of_le_length (by simp only [List.length_append]; omega), List.take_of_length_le (by simp only [List.length_append]; omega)]

set_option maxRecDepth 100000 in
set_option maxHeartbeats 4000000 in
theorem insert_room (base g c : Nat) (cur : Array Value) (rs : List Vr) (L i : Nat) (hL : rs.length = L) (hi : i < L) (r : Vr) (B : Nat) (w : World) (hLb : L ≤ 1099511627776) (hc63 : c ≤ maxLen) (hroom : L + 1 ≤ c)
    (hbg : base ≤ g) (hcur : w.heap[g]? = some (.cells cur 27 (0, 0))) (hsz : cur.size = c * 5) (htk : cur.toList.take (L * 5) = vrCells rs)
    (hB : w.heap[B]? = some (.cells #[.int .i64 r.t, .string r.x, .int .u64 (r.q : Int), .bool r.g, .string r.s] 27 (0, 0))) (hBg : B ≠ g) :
    Calls Tryz.prog 28 #[.slice (some ⟨g, 0, none⟩) L c, .int .i64 (i : Int), .slice (some ⟨B, 0, none⟩) 1 1] w (RowPost base (rs.take i ++ r :: rs.drop i) w) := by
  unfold maxLen at hc63
  have hov : ∀ o lb cb, (callFunc 45 #[.slice (some ⟨B, 0, none⟩) 1 1, .slice (some ⟨g, o, none⟩) lb cb]).run Tryz.prog w = .ok (.value (.bool false)) w := fun o lb cb =>
    overlaps_no w B g o lb cb 5 (c * 5) 27 27 hBg (by simp [World.shape?, hB]) (by simp [World.shape?, hcur, hsz]) (by omega) (by simp [World.frozen?, hB]) (by simp [World.frozen?, hB])
  have hz2 : ¬ ((i : Int) = (L : Int)) := by omega
  have hz3 : (i : Int) ≤ (L : Int) := by omega
  have hz0 : (0 : Int) ≤ (i : Int) := by omega
  have hw1 : IntKind.i64.wrap ((i : Int) + 1) = (i : Int) + 1 := by rw [IntKind.wrap_i64]; omega
  have hw2 : IntKind.i64.wrap ((L : Int) + 1) = (L : Int) + 1 := by rw [IntKind.wrap_i64]; omega
  have hb1 : (0 : Int) ≤ (i : Int) + 1 := by omega
  have hb5 : (0 : Int) ≤ (L : Int) + 1 := by omega
  have hb6 : (L : Int) + 1 ≤ (c : Int) := by omega
  have hb7 : (i : Int) + 1 ≤ (L : Int) + 1 := by omega
  have htn : ((i : Int) + 1).toNat = i + 1 := by omega
  have htL : ((L : Int) + 1).toNat = L + 1 := by omega
  have hb2 : ¬ (c = i + 1) := by omega
  have hb3 : (i : Int) ≤ (L : Int) + 1 := by omega
  have hb4 : ¬ (c = i) := by omega
  have hX : cur.toList.length = c * 5 := by rw [Array.length_toList]; exact hsz
  have hds : (vrCells (rs.drop i)).length = (L - i) * 5 := by rw [vrCells_len, List.length_drop, hL]
  have hin := ins_list r hL hi hroom hX htk
  obtain ⟨CS, hCS⟩ : ∃ CS, vrCells (rs.drop i) = CS := ⟨_, rfl⟩
  have hone : ∀ u ∈ CS, u.oneCell' = true := by rw [← hCS]; exact vr_one
  have hCSe : CS = (vrCells rs).drop (i * 5) := by rw [← hCS, vrCells_drop rs i (by omega)]
  rw [hCS] at hds hin
  have hsz5 : (Tryz.prog.info? 27).map (·.size) = some 5 := by
    obtain ⟨i0, hi0, hz0, hz1, hz2⟩ := info_parts Tryz.infoRs
    rw [hi0]; simp [hz1]
  have hcp1 : ∀ ty dc sc, (Builtin.copy_ #[31, 31] ty #[.slice (some ⟨g, (i + 1) * 5, none⟩) (L - i) dc, .slice (some ⟨g, i * 5, none⟩) (L + 1 - i) sc]).run Tryz.prog w.drew = .ok (goInt (L - i : Nat)) (w.drew.setRow g (splice cur.toList ((i + 1) * 5) CS).toArray) := fun ty dc sc =>
    run_copy_wide 5 w.drew _ _ ty 27 g ((i + 1) * 5) _ dc ⟨g, i * 5, none⟩ _ sc (L - i) cur 27 CS Tryz.underlying31 hsz5 hcur (by simp only [Nat.min_def]; split <;> omega) hds
      (fun j v hj => by
        rw [addr_plain]
        have hjl := (List.getElem?_eq_some_iff.1 hj).1
        have hc : w.drew.cell? ⟨g, i * 5 + j, none⟩ = cur[i * 5 + j]? := Blk.cell (show Blk w.drew g cur 27 from hcur) (i * 5 + j)
        rw [hc, ← hj, hCSe, ← htk, List.getElem?_drop, List.getElem?_take, if_pos (by omega)]
        simp)
      (by omega) hone
  obtain ⟨X1, hX1⟩ : ∃ X1, splice cur.toList ((i + 1) * 5) CS = X1 := ⟨_, rfl⟩
  have hX1l : X1.length = c * 5 := by rw [← hX1, length_splice _ _ _ (by omega)]; exact hX
  rw [hX1] at hcp1 hin
  obtain ⟨W1, hW1⟩ : ∃ W1, w.drew.setRow g X1.toArray = W1 := ⟨_, rfl⟩
  have hg1 : W1.heap[g]? = some (.cells X1.toArray 27 (0, 0)) := by rw [← hW1]; exact setRow_heap w.drew g cur _ _ _ hcur
  have hB1 : Blk W1 B #[.int .i64 r.t, .string r.x, .int .u64 (r.q : Int), .bool r.g, .string r.s] 27 := by
    rw [← hW1]; exact (setRow_other w.drew g B _ hBg).trans hB
  have hbl1 : Below base w W1 := by rw [← hW1]; exact below_setRow ((Below.refl base w).drew) hbg _
  rw [hW1] at hcp1
  have hcp2 : ∀ ty dc, (Builtin.copy_ #[31, 31] ty #[.slice (some ⟨g, i * 5, none⟩) (L + 1 - i) dc, .slice (some ⟨B, 0, none⟩) 1 1]).run Tryz.prog W1 = .ok (goInt (1 : Nat)) (W1.setRow g (splice X1 (i * 5) (vrCells [r])).toArray) := fun ty dc =>
    run_copy_wide 5 W1 _ _ ty 27 g (i * 5) _ dc ⟨B, 0, none⟩ 1 1 1 X1.toArray 27 (vrCells [r]) Tryz.underlying31 hsz5 hg1 (by simp only [Nat.min_def]; split <;> omega) rfl
      (World.news_of_block (cs := #[.int .i64 r.t, .string r.x, .int .u64 (r.q : Int), .bool r.g, .string r.s]) (t := 27) (fr := (0, 0)) hB1)
      (by simp only [List.size_toArray, hX1l]; show i * 5 + 5 ≤ c * 5; omega) vr_one
  have hg2 : (W1.setRow g (splice X1 (i * 5) (vrCells [r])).toArray).heap[g]? = some (.cells (splice X1 (i * 5) (vrCells [r])).toArray 27 (0, 0)) := setRow_heap W1 g _ _ _ _ hg1
  have hbl2 : Below base w (W1.setRow g (splice X1 (i * 5) (vrCells [r])).toArray) := below_setRow hbl1 hbg _
  have hX2l : (splice X1 (i * 5) (vrCells [r])).length = c * 5 := by rw [length_splice _ _ _ (by rw [hX1l]; show i * 5 + 5 ≤ c * 5; omega)]; exact hX1l
  obtain ⟨X2, hX2⟩ : ∃ X2, splice X1 (i * 5) (vrCells [r]) = X2 := ⟨_, rfl⟩
  rw [hX2] at hcp2 hin hg2 hbl2 hX2l
  have HE := Lib.hid (And.intro hg2 (And.intro hbl2 (And.intro hX2l (And.intro hin hL))))
  clear hg2 hbl2 hX2l hin hX2 hbl1 hB1 hg1 hX1l hX1 hW1 hCSe hone hCS hds hX hL
  have HCUR := Lib.hid hcur
  have HBK := Lib.hid hB
  have HTK := Lib.hid htk
  have HSZ := Lib.hid hsz
  clear hcur hB htk hsz
  go_enter Tryz.func28, Tryz.ntmps28
  go_wp2_with (simp only [hov])
  go_region_law (refine step_copy_runI rfl (.tmp 73) (.tmp 76) 31 31 rfl _ _ (by simp [Act.eval, Act.put]) (by simp [Act.eval, Act.put]) (hcp1 _ _ _) ?_)
  all_goals
    go_wp2_with (at_builtin; go_must (refine wpList_copy_runI _ rfl _ _ 31 31 rfl _ _ rfl rfl (hcp2 _ _) ?_))
    go_ret
    refine ⟨_, rfl, ?_, HE.out.2.1⟩
    have hlen : (rs.take i ++ r :: rs.drop i).length = L + 1 := by rw [List.length_append, List.length_cons, List.length_take, List.length_drop, HE.out.2.2.2.2]; omega
    rw [hlen]
    exact ⟨by rw [vrCells_len, hlen], .inr ⟨g, c, X2.toArray, rfl, hbg, HE.out.1, hroom, by unfold maxLen; omega, by simp only [List.size_toArray]; exact HE.out.2.2.1, HE.out.2.2.2.1⟩⟩
end
section
open Go.RowKit Go.Shelf Go.Lib

theorem ins_list2 {X : List Value} {rs : List Vr} {i L G : Nat} (r : Vr) (hL : rs.length = L) (hi : i < L) (hG : L + 1 ≤ G) (hX : X.length = G * 5) (htk : X.take (i * 5) = vrCells (rs.take i)) :
    (splice (splice X (i * 5) (vrCells [r])) ((i + 1) * 5) (vrCells (rs.drop i))).take ((L + 1) * 5) = vrCells (rs.take i ++ r :: rs.drop i) := by
  have l1 : (vrCells [r]).length = 5 := rfl
  have l2 : (vrCells (rs.drop i)).length = (L - i) * 5 := by rw [vrCells_len, List.length_drop, hL]
  have l3 : (X.take (i * 5)).length = i * 5 := by rw [List.length_take]; omega
  have s1 : (splice X (i * 5) (vrCells [r])).take ((i + 1) * 5) = X.take (i * 5) ++ vrCells [r] := by
    unfold splice
    rw [← List.append_assoc, List.take_append_of_le_length (by rw [List.length_append]; omega), List.take_of_length_le (by rw [List.length_append]; omega)]
  have e2 : vrCells (rs.take i ++ r :: rs.drop i) = (X.take (i * 5) ++ vrCells [r]) ++ vrCells (rs.drop i) := by
    rw [vrCells_append, ← htk, show r :: rs.drop i = [r] ++ rs.drop i from rfl, vrCells_append, List.append_assoc]
  rw [e2, splice, s1, ← List.append_assoc, List.take_append_of_le_length (by simp only [List.length_append]; omega), List.take_of_length_le (by simp only [List.length_append]; omega)]

set_option maxRecDepth 100000 in
set_option maxHeartbeats 4000000 in
theorem insert_grow (base g c : Nat) (cur : Array Value) (rs : List Vr) (L i : Nat) (hL : rs.length = L) (hi : i < L) (r : Vr) (B : Nat) (w : World) (hLb : L ≤ 1099511627776) (hroom : c < L + 1) (hLc : L ≤ c)
    (hbase : base ≤ w.heap.size) (hcur : w.heap[g]? = some (.cells cur 27 (0, 0))) (htk : cur.toList.take (L * 5) = vrCells rs)
    (hB : w.heap[B]? = some (.cells #[.int .i64 r.t, .string r.x, .int .u64 (r.q : Int), .bool r.g, .string r.s] 27 (0, 0))) :
    Calls Tryz.prog 28 #[.slice (some ⟨g, 0, none⟩) L c, .int .i64 (i : Int), .slice (some ⟨B, 0, none⟩) 1 1] w (RowPost base (rs.take i ++ r :: rs.drop i) w) := by
  obtain ⟨i0, hi0, hz0, hzs, hzb⟩ := info_parts Tryz.infoRs
  obtain ⟨Z, hZ⟩ : ∃ Z : Value, (.agg #[.int .i64 0, .string ⟨#[]⟩, .int .u64 0, .bool false, .string ⟨#[]⟩]) = Z := ⟨_, rfl⟩
  have hZ5 : Z.cells.size = 5 := by rw [← hZ]; rfl
  rw [hZ] at hz0
  have hgw : g < w.heap.size := (Array.getElem?_eq_some_iff.1 hcur).1
  have hBw : B < w.heap.size := (Array.getElem?_eq_some_iff.1 hB).1
  have hci : i ≤ rs.length := by omega
  have hkk : (L : Int) + 1 - (i : Int) = ((L + 1 - i : Nat) : Int) := by omega
  have hik : i + (L + 1 - i) = L + 1 := by omega
  have hct : vrCells (rs.take i) = cur.toList.take (i * 5) := by rw [vrCells_take rs i hci, ← htk, List.take_take]; congr 1; omega
  have hsrc0 : ∀ j v, (vrCells rs)[j]? = some v → w.cell? ⟨g, j, none⟩ = some v := fun j v hj => by
    rw [show w.cell? ⟨g, j, none⟩ = cur[j]? from Blk.cell (show Blk w g cur 27 from hcur) j, ← hj, ← htk, List.getElem?_take]
    have hjl := (List.getElem?_eq_some_iff.1 hj).1
    rw [vrCells_len] at hjl
    rw [if_pos (by omega)]; simp
  have hold : (Builtin.firstCells i0.size i (.slice (some ⟨g, 0, none⟩) i c)).run Tryz.prog w.drew = .ok (vrCells (rs.take i)).toArray w.drew := by
    rw [hzs]
    exact run_firstCells_some w.drew 5 i ⟨g, 0, none⟩ i c (vrCells (rs.take i)) (by rw [vrCells_take_len rs i hci]) (fun j v hj => by
      rw [addr_plain, Nat.zero_add]
      refine hsrc0 j v ?_
      rw [vrCells_take rs i hci, List.getElem?_take] at hj
      split at hj
      · exact hj
      · cases hj)
  have hrz : ∀ ty, (Builtin.append_ #[31, 3] ty #[.slice (some ⟨g, 0, none⟩) i c, .int .i64 ((L : Int) + 1 - (i : Int))]).run Tryz.prog w =
      .ok (.slice (some ⟨w.heap.size, 0, none⟩) (L + 1) (grownCap w (L + 1) c 27)) (w.drew.alloc (.cells ((vrCells (rs.take i)).toArray ++ Builtin.zeroCells Z.cells (L + 1 - i) ++ Builtin.zeroCells Z.cells (grownCap w (L + 1) c 27 - (L + 1))) 27)) := fun ty => by
    have h := Lib.run_append_grow_zeros w 31 3 ty 27 i0 _ .i64 .i64 Tryz.underlying31 Tryz.underlying3 hi0 hz0 (some ⟨g, 0, none⟩) i c (vrCells (rs.take i)) hold (L + 1 - i) (by omega) (by omega) (by omega) (by omega) (by rw [hzb]; omega) (by rw [hzb, hik]; exact growslice_fits hroom (by omega))
    rw [hik] at h
    rw [hkk]
    exact h
  have hGn : L + 1 ≤ grownCap w (L + 1) c 27 := grownCap_ge w _ _ _
  have hG63 : grownCap w (L + 1) c 27 ≤ maxLen := grownCap_le_maxLen w (L + 1) c 27 (by unfold maxLen; omega)
  generalize grownCap w (L + 1) c 27 = G at hrz hGn hG63
  obtain ⟨ROW, hROW⟩ : ∃ ROW : Array Value, (vrCells (rs.take i)).toArray ++ Builtin.zeroCells Z.cells (L + 1 - i) ++ Builtin.zeroCells Z.cells (G - (L + 1)) = ROW := ⟨_, rfl⟩
  rw [hROW] at hrz
  have hRl : ROW.size = G * 5 := by
    rw [← hROW]
    have := vrCells_take_len rs i hci
    simp [Builtin.zeroCells, hZ5, this]
    omega
  have hRt : ROW.toList.take (i * 5) = vrCells (rs.take i) := by
    rw [← hROW]
    simp only [Array.toList_append, List.append_assoc]
    exact List.take_left' (vrCells_take_len rs i hci)
  have hsz5 : (Tryz.prog.info? 27).map (·.size) = some 5 := by rw [hi0]; simp [hzs]
  have hds : (vrCells (rs.drop i)).length = (L - i) * 5 := by rw [vrCells_len, List.length_drop, hL]
  have hfin := ins_list2 r hL hi hGn (by rw [Array.length_toList]; exact hRl) hRt
  obtain ⟨CS, hCS⟩ : ∃ CS, vrCells (rs.drop i) = CS := ⟨_, rfl⟩
  have hone : ∀ u ∈ CS, u.oneCell' = true := by rw [← hCS]; exact vr_one
  have hCSe : ∀ j v, CS[j]? = some v → w.cell? ⟨g, i * 5 + j, none⟩ = some v := fun j v hj => hsrc0 _ v (by rw [← hCS, vrCells_drop rs i hci, List.getElem?_drop] at hj; exact hj)
  rw [hCS] at hds hfin
  obtain ⟨N, hN⟩ : ∃ N, w.heap.size = N := ⟨_, rfl⟩
  have hcpA : ∀ W : World, W.heap[N]? = some (.cells ROW 27 (0, 0)) → W.heap[B]? = w.heap[B]? → ∀ ty dc, (Builtin.copy_ #[31, 31] ty #[.slice (some ⟨N, i * 5, none⟩) (L + 1 - i) dc, .slice (some ⟨B, 0, none⟩) 1 1]).run Tryz.prog W = .ok (goInt (1 : Nat)) (W.setRow N (splice ROW.toList (i * 5) (vrCells [r])).toArray) := fun W hWN hWB ty dc =>
    run_copy_wide 5 W _ _ ty 27 N (i * 5) _ dc ⟨B, 0, none⟩ 1 1 1 ROW 27 (vrCells [r]) Tryz.underlying31 hsz5 hWN (by simp only [Nat.min_def]; split <;> omega) rfl
      (World.news_of_block (cs := #[.int .i64 r.t, .string r.x, .int .u64 (r.q : Int), .bool r.g, .string r.s]) (t := 27) (fr := (0, 0)) (hWB.trans hB))
      (by rw [hRl]; show i * 5 + 5 ≤ G * 5; omega) vr_one
  have hX1l : (splice ROW.toList (i * 5) (vrCells [r])).length = G * 5 := (length_splice _ _ _ (by show i * 5 + 5 ≤ ROW.size; omega)).trans hRl
  obtain ⟨X1, hX1⟩ : ∃ X1, splice ROW.toList (i * 5) (vrCells [r]) = X1 := ⟨_, rfl⟩
  rw [hX1] at hcpA hfin hX1l
  have hcpB : ∀ W : World, W.heap[N]? = some (.cells X1.toArray 27 (0, 0)) → W.heap[g]? = w.heap[g]? → ∀ ty dc sc, (Builtin.copy_ #[31, 31] ty #[.slice (some ⟨N, (i + 1) * 5, none⟩) (L - i) dc, .slice (some ⟨g, i * 5, none⟩) (L - i) sc]).run Tryz.prog W = .ok (goInt (L - i : Nat)) (W.setRow N (splice X1 ((i + 1) * 5) CS).toArray) := fun W hWN hWg ty dc sc => by
    have h := run_copy_wide 5 W 31 31 ty 27 N ((i + 1) * 5) (L - i) dc ⟨g, i * 5, none⟩ (L - i) sc (L - i) X1.toArray 27 CS Tryz.underlying31 hsz5 hWN (by simp) hds
      (fun j v hj => by rw [addr_plain, World.cell?_of_block (a := ⟨g, i * 5 + j, none⟩) hWg]; exact hCSe j v hj)
      (by rw [List.size_toArray, hX1l, hds]; omega) hone
    exact h
  have hX2l : (splice X1 ((i + 1) * 5) CS).length = G * 5 := by rw [length_splice _ _ _ (by rw [hX1l, hds]; omega)]; exact hX1l
  obtain ⟨X2, hX2⟩ : ∃ X2, splice X1 ((i + 1) * 5) CS = X2 := ⟨_, rfl⟩
  rw [hX2] at hcpB hfin hX2l
  rw [hN] at hrz hgw hBw hbase
  have hNA : (w.alloc (.cells ROW 27)).heap[N]? = some (.cells ROW 27 (0, 0)) := by rw [← hN]; exact World.alloc_heap_new w _
  have hBA : (w.alloc (.cells ROW 27)).heap[B]? = w.heap[B]? := ((Below.refl w.heap.size w).alloc (Nat.le_refl _) _).block B (by omega)
  have hgA : (w.alloc (.cells ROW 27)).heap[g]? = w.heap[g]? := ((Below.refl w.heap.size w).alloc (Nat.le_refl _) _).block g (by omega)
  have hz2 : ¬ ((i : Int) = (L : Int)) := by omega
  have hz3 : (c : Int) < (L : Int) + 1 := by omega
  have hz4 : (0 : Int) ≤ (i : Int) := by omega
  have hw1 : IntKind.i64.wrap ((i : Int) + 1) = (i : Int) + 1 := by rw [IntKind.wrap_i64]; omega
  have hw2 : IntKind.i64.wrap ((L : Int) + 1) = (L : Int) + 1 := by rw [IntKind.wrap_i64]; omega
  have hw3 : IntKind.i64.wrap ((L : Int) + 1 - (i : Int)) = (L : Int) + 1 - (i : Int) := by rw [IntKind.wrap_i64]; omega
  have hb1 : (0 : Int) ≤ (i : Int) + 1 := by omega
  have hb3 : (i : Int) ≤ (L : Int) := by omega
  have hb5 : (i : Int) ≤ (c : Int) := by omega
  have hb6 : (i : Int) ≤ (L : Int) + 1 := by omega
  have hb7 : (i : Int) + 1 ≤ (L : Int) + 1 := by omega
  have htn : ((i : Int) + 1).toNat = i + 1 := by omega
  have hGi : ¬ (G = i) := by omega
  have hGim : ¬ (G = i + 1) := by omega
  have hcci : ¬ (c = i) := by omega
  have HE := Lib.hid (And.intro hfin (And.intro hX2l (And.intro hNA (And.intro hBA (And.intro hgA (And.intro hbase (And.intro hN (And.intro hGn (And.intro hG63 hL)))))))))
  have hcpA' := hcpA ((w.alloc (.cells ROW 27)).drew) hNA hBA
  clear hcpA hfin hX2l hNA hBA hgA hX2 hX1l hX1 hCSe hone hCS hds hRt hRl hROW hold hsrc0 hct hik hkk hci hcur hB htk hsz5 hZ5 hz0 hZ hzs hzb hi0 hL hN
  go_enter Tryz.func28, Tryz.ntmps28
  go_wp2_with (first
    | (at_builtin; refine Lib.wpList_append_run _ rfl _ _ _ _ rfl _ _ rfl rfl _ _ (hrz _) ?_)
    | (at_builtin; refine wpList_copy_runI _ rfl _ _ 31 31 rfl _ _ rfl rfl (hcpA' _ _) ?_))
  have hN1 : ((((w.alloc (.cells ROW 27)).drew).setRow N X1.toArray).drew).heap[N]? = some (.cells X1.toArray 27 (0, 0)) := setRow_heap ((w.alloc (.cells ROW 27)).drew) N ROW _ _ _ HE.out.2.2.1
  have hgo : ((((w.alloc (.cells ROW 27)).drew).setRow N X1.toArray).drew).heap[g]? = w.heap[g]? := (setRow_other ((w.alloc (.cells ROW 27)).drew) N g _ (by omega)).trans HE.out.2.2.2.2.1
  have hbl : Below base w ((((w.alloc (.cells ROW 27)).drew).setRow N X1.toArray).drew) := (below_setRow (((Below.refl base w).alloc (by have := HE.out.2.2.2.2.2.2.1; omega) _).drew) hbase _).drew
  have hcpB' := hcpB _ hN1 hgo
  have hW2 : (((((w.alloc (.cells ROW 27)).drew).setRow N X1.toArray).drew).setRow N X2.toArray).heap[N]? = some (.cells X2.toArray 27 (0, 0)) := setRow_heap _ N _ _ _ _ hN1
  have hbl2 : Below base w (((((w.alloc (.cells ROW 27)).drew).setRow N X1.toArray).drew).setRow N X2.toArray) := below_setRow hbl hbase _
  have HF := Lib.hid (And.intro hW2 hbl2)
  clear hN1 hgo hbl hW2 hbl2 hcpB
  go_region_law (refine step_copy_runI rfl (.tmp 50) (.tmp 53) 31 31 rfl _ _ (by simp [Act.eval, Act.put]) (by simp [Act.eval, Act.put]) (hcpB' _ _ _) ?_)
  all_goals
    go_wp2_with fail
    go_ret
    refine ⟨_, rfl, ?_, HF.out.2⟩
    have hlen : (rs.take i ++ r :: rs.drop i).length = L + 1 := by rw [List.length_append, List.length_cons, List.length_take, List.length_drop, HE.out.2.2.2.2.2.2.2.2.2]; omega
    rw [hlen]
    exact ⟨by rw [vrCells_len, hlen], .inr ⟨N, G, X2.toArray, rfl, hbase, HF.out.1, hGn, hG63, by rw [List.size_toArray]; exact HE.out.2.1, HE.out.1⟩⟩
end
section
open Go.RowKit

theorem insert_any (base : Nat) (v : Value) (rs : List Vr) (L i : Nat) (hL : rs.length = L) (hi : i ≤ L) (r : Vr) (B : Nat) (w : World) (hLb : L ≤ 1099511627776) (hrow : w.ownsRow base 27 5 v L (vrCells rs)) (hB : w.heap[B]? = some (.cells #[.int .i64 r.t, .string r.x, .int .u64 (r.q : Int), .bool r.g, .string r.s] 27 (0, 0))) (hbase : base ≤ w.heap.size)
    (hne : ∀ g, v.ownBlock = some g → B ≠ g) :
    Calls Tryz.prog 28 #[v, .int .i64 (i : Int), .slice (some ⟨B, 0, none⟩) 1 1] w (RowPost base (rs.take i ++ r :: rs.drop i) w) := by
  by_cases he : i = L
  · subst he
    rw [List.take_of_length_le (by omega), List.drop_of_length_le (by omega)]
    exact insert_end base v rs i hL r B w hLb hrow hB hbase
  · rcases hrow.2 with ⟨_, h0⟩ | ⟨g, cap, cur, rfl, hbg, hg, hnc, hc63, hsz, htk⟩
    · omega
    · by_cases hroom : L + 1 ≤ cap
      · exact insert_room base g cap cur rs L i hL (by omega) r B w hLb hc63 hroom hbg hg hsz htk hB (hne g rfl)
      · exact insert_grow base g cap cur rs L i hL (by omega) r B w hLb (by omega) hnc hbase hg htk hB

/-- The list in which r is set. -/
def posL (r : Vr) (rs : List Vr) : Nat := if rs.any (behB r.t r.x) then rs.findIdx (behB r.t r.x) else rs.length
def setL (r : Vr) (rs : List Vr) : List Vr := (cutL r.t r.x rs).take (posL r (cutL r.t r.x rs)) ++ r :: (cutL r.t r.x rs).drop (posL r (cutL r.t r.x rs))
theorem posL_cases (r : Vr) (rs : List Vr) : (idxV (behB r.t r.x) rs = -1 ∧ posL r rs = rs.length) ∨ (idxV (behB r.t r.x) rs = (posL r rs : Int) ∧ posL r rs ≤ rs.length) := by
  unfold idxV posL
  by_cases h : rs.any (behB r.t r.x) = true
  · right
    rw [if_pos h, if_pos h]
    exact ⟨rfl, List.findIdx_le_length⟩
  · left
    rw [if_neg h, if_neg h]
    exact ⟨rfl, rfl⟩

set_option maxRecDepth 100000 in
set_option maxHeartbeats 2000000 in
theorem set_any (r : Vr) (a : Option Addr) (c : Nat) (rs : List Vr) (w : World) (hr : VrsAt w a rs) (hLb : rs.length ≤ 1000000) :
    Calls Tryz.prog 12 #[.slice a rs.length c, r.v] w (VrsPost (setL r rs) w) := by
  obtain ⟨t, x, q, g, s⟩ := r
  have hcut := Lib.hid (fun W h => cut_any t x a c rs W h (by omega))
  have hR := Lib.hid hr
  have hcl : (cutL t x rs).length ≤ rs.length := List.length_filter_le _ _
  have hpc := posL_cases ⟨t, x, q, g, s⟩ (cutL t x rs)
  unfold setL
  simp only at hpc ⊢
  obtain ⟨cs, hcs⟩ : ∃ cs, cutL t x rs = cs := ⟨_, rfl⟩
  rw [hcs] at hcut hcl hpc ⊢
  obtain ⟨p, hp⟩ : ∃ p, posL ⟨t, x, q, g, s⟩ cs = p := ⟨_, rfl⟩
  rw [hp] at hpc ⊢
  obtain ⟨L, hL⟩ : ∃ L, rs.length = L := ⟨_, rfl⟩
  rw [hL] at hcut hLb hcl ⊢
  obtain ⟨M, hM⟩ : ∃ M, cs.length = M := ⟨_, rfl⟩
  rw [hM] at hcl hpc
  have hb0 : Below w.heap.size w (w.alloc (.cells #[.int .i64 t, .string x, .int .u64 (q : Int), .bool g, .string s] 27)) := (Below.refl _ _).alloc (Nat.le_refl _) _
  obtain ⟨w0, hw0⟩ : ∃ w0, w.alloc (.cells #[.int .i64 t, .string x, .int .u64 (q : Int), .bool g, .string s] 27) = w0 := ⟨_, rfl⟩
  have q0 : Blk w0 w.heap.size #[.int .i64 t, .string x, .int .u64 (q : Int), .bool g, .string s] 27 := by rw [← hw0]; exact Blk.new _ _ _
  rw [hw0] at hb0
  have HW0 := Lib.hid hw0
  have HM := Lib.hid hM
  clear hw0 hcs hp hL hr hM
  go_enter Tryz.func12, Tryz.ntmps12
  go_wp2_with fail
  rw [HW0.out]
  refine (hcut.out w0 (hR.out.below hb0)).mono ?_
  rintro e w1 ⟨v1, rfl, hrow1, hb1⟩
  rw [HM.out] at hrow1
  obtain ⟨a1, c1, rfl⟩ := owns_slice hrow1
  have q1 := q0.below hb1 q0.lt
  have hbw1 : Below w.heap.size w w1 := hb0.trans (hb1.mono hb0.size)
  have hlow := own_low hrow1 hb0.size
  have hv1 : VrsAt w1 a1 cs := vrsAt_row (c := c1) (by rw [HM.out]; exact hrow1)
  have HV1 := Lib.hid hv1
  have HROW1 := Lib.hid hlow
  have HBW1 := Lib.hid hbw1
  have z0 : w1.cell? ⟨w.heap.size, 0, none⟩ = some (.int .i64 t) := q1.cell 0
  have z1 : w1.cell? ⟨w.heap.size, 1, none⟩ = some (.string x) := q1.cell 1
  clear hb1 hrow1 hbw1 hlow hv1 q0 hb0 HW0
  go_wp2_with fail
  refine (isBehind_any t x w1).mono ?_
  rintro e w2 ⟨K, rfl, hK, hb2⟩
  have q2 := q1.below hb2 q1.lt
  have HV2 := Lib.hid (HV1.out.below hb2)
  have HROW2 := Lib.hid (ownsRow_later HROW1.out hb2)
  have HBW2 := Lib.hid (HBW1.out.trans (hb2.mono HBW1.out.size))
  clear hb2 q1 z0 z1 HV1 HROW1 HBW1
  have hidx := idx_behind K t x a1 c1 cs w2 hK HV2.out (by rw [HM.out]; omega)
  rw [HM.out] at hidx
  have HI := Lib.hid hidx
  clear hidx hK
  go_wp2_with fail
  refine HI.out.mono ?_
  rintro e w3 ⟨rfl, hb3⟩
  have q3 := q2.below hb3 q2.lt
  have HROW3 := Lib.hid (ownsRow_later HROW2.out hb3)
  have HBW3 := Lib.hid (HBW2.out.trans (hb3.mono HBW2.out.size))
  have z0 : w3.cell? ⟨w.heap.size, 0, none⟩ = some (.int .i64 t) := q3.cell 0
  have z1 : w3.cell? ⟨w.heap.size, 1, none⟩ = some (.string x) := q3.cell 1
  have z2 : w3.cell? ⟨w.heap.size, 2, none⟩ = some (.int .u64 (q : Int)) := q3.cell 2
  have z3 : w3.cell? ⟨w.heap.size, 3, none⟩ = some (.bool g) := q3.cell 3
  have z4 : w3.cell? ⟨w.heap.size, 4, none⟩ = some (.string s) := q3.cell 4
  clear hb3 q2 q3 HV2 HROW2 HBW2 HI
  have hpM : p ≤ M := by rcases hpc with h | h <;> omega
  have hins := insert_any w.heap.size (.slice a1 M c1) cs M p HM.out hpM ⟨t, x, q, g, s⟩ w3.heap.size (w3.alloc (.cells #[.int .i64 t, .string x, .int .u64 (q : Int), .bool g, .string s] 27)) (by omega) (HROW3.out.alloc _) (World.alloc_heap_new w3 _) (by have := HBW3.out.size; simp; omega) (fun k hk e => by have := (HROW3.out.lt k hk).2; omega)
  have HINS := Lib.hid hins
  clear hins
  rcases hpc with ⟨he, rfl⟩ | ⟨he, _⟩
  · rw [he]
    clear he
    go_wp2_with fail
    refine HINS.out.mono ?_
    rintro e w4 ⟨v4, rfl, hrow4, hb4⟩
    have HR4 := Lib.hid hrow4
    have HB4 := Lib.hid ((HBW3.out.alloc HBW3.out.size _).trans hb4)
    clear hrow4 hb4
    go_wp2_with fail
    go_ret
    exact ⟨_, rfl, HR4.out, HB4.out⟩
  · rw [he]
    clear he
    have hp0 : (0 : Int) ≤ (p : Int) := by omega
    have hp1 : ¬ (p : Int) < 0 := by omega
    go_wp2_with fail
    refine HINS.out.mono ?_
    rintro e w4 ⟨v4, rfl, hrow4, hb4⟩
    have HR4 := Lib.hid hrow4
    have HB4 := Lib.hid ((HBW3.out.alloc HBW3.out.size _).trans hb4)
    clear hrow4 hb4
    go_wp2_with fail
    go_ret
    exact ⟨_, rfl, HR4.out, HB4.out⟩
end
section
theorem keyB_own (r : Vr) : keyB r.t r.x r = true := by simp [keyB]
theorem cutL_none (t : Int) (x : ByteArray) (rs : List Vr) : ∀ y ∈ cutL t x rs, keyB t x y = false := fun y hy => by
  have := (List.mem_filter.1 hy).2
  simpa using this
theorem cutL_again (t : Int) (x : ByteArray) (l : List Vr) (h : ∀ y ∈ l, keyB t x y = false) : cutL t x l = l := by
  unfold cutL
  rw [List.filter_eq_self]
  intro y hy
  rw [h y hy]; rfl
theorem find_cut (t : Int) (x : ByteArray) (rs : List Vr) : (cutL t x rs).find? (keyB t x) = none := by
  rw [List.find?_eq_none]
  intro y hy
  rw [cutL_none t x rs y hy]; simp
theorem setL_find (r : Vr) (rs : List Vr) : (setL r rs).find? (keyB r.t r.x) = some r := by
  unfold setL
  rw [List.find?_append, List.find?_cons, keyB_own]
  have : ((cutL r.t r.x rs).take (posL r (cutL r.t r.x rs))).find? (keyB r.t r.x) = none := by
    rw [List.find?_eq_none]
    intro y hy
    rw [cutL_none r.t r.x rs y (List.mem_of_mem_take hy)]; simp
  rw [this]; rfl
theorem setL_cut (r : Vr) (rs : List Vr) : cutL r.t r.x (setL r rs) = cutL r.t r.x rs := by
  have h := cutL_again r.t r.x _ (cutL_none r.t r.x rs)
  unfold setL
  generalize cutL r.t r.x rs = l at h ⊢
  generalize posL r l = p
  have h1 : cutL r.t r.x (l.take p ++ r :: l.drop p) = cutL r.t r.x (l.take p) ++ cutL r.t r.x (l.drop p) := by
    unfold cutL
    rw [List.filter_append, List.filter_cons, keyB_own]; simp
  have h2 : cutL r.t r.x l = cutL r.t r.x (l.take p) ++ cutL r.t r.x (l.drop p) := by
    unfold cutL
    rw [← List.filter_append, List.take_append_drop]
  rw [h1, ← h2, h]
theorem setL_count (r : Vr) (rs : List Vr) : (setL r rs).countP (keyB r.t r.x) = 1 := by
  have hz : ∀ l : List Vr, (∀ y ∈ l, keyB r.t r.x y = false) → l.countP (keyB r.t r.x) = 0 := fun l h => by
    rw [List.countP_eq_zero]
    intro y hy; rw [h y hy]; simp
  unfold setL
  rw [List.countP_append, List.countP_cons, hz _ (fun y hy => cutL_none r.t r.x rs y (List.mem_of_mem_take hy)), hz _ (fun y hy => cutL_none r.t r.x rs y (List.mem_of_mem_drop hy)), keyB_own]
  rfl
theorem setL_other (r : Vr) (rs : List Vr) (t : Int) (x : ByteArray) (hne : ¬ (t = r.t ∧ x.toList = r.x.toList)) : (setL r rs).find? (keyB t x) = rs.find? (keyB t x) := by
  have hr : keyB t x r = false := by
    unfold keyB
    rw [Bool.and_eq_false_iff]
    by_cases h : r.t = t
    · right
      have : ¬ r.x.toList = x.toList := fun e => hne ⟨h.symm, e.symm⟩
      simpa using this
    · left; simpa using h
  have hf : ∀ l : List Vr, (cutL r.t r.x l).find? (keyB t x) = l.find? (keyB t x) := fun l => by
    unfold cutL
    rw [List.find?_filter]
    congr 1
    funext y
    by_cases hy : keyB t x y = true
    · have : keyB r.t r.x y = false := by
        unfold keyB at hy ⊢
        rw [Bool.and_eq_true] at hy
        rw [Bool.and_eq_false_iff]
        by_cases h : t = r.t
        · right
          have e1 : y.x.toList = x.toList := by simpa using hy.2
          have : ¬ y.x.toList = r.x.toList := fun e => hne ⟨h, e1.symm.trans e⟩
          simpa using this
        · left
          have e1 : y.t = t := by simpa using hy.1
          simpa [e1] using h
      simp [hy, this]
    · simp [hy]
  rw [← hf rs]
  unfold setL
  generalize cutL r.t r.x rs = l
  rw [List.find?_append, List.find?_cons, hr]
  simp only
  rw [← List.find?_append, List.take_append_drop]
end
end Go.Proofs.YtjolgalfjahceaaGreatDoor
