/- acks: refusals in rows; slices.Insert of one refusal (tools/akrow_gen.py, out of ledger's LdRow). -/
import Derived.Test.YtogkdekjcbljnaaDoorAkBd
import Derived.Test.YtogkdekjcbljnaaDoorLdBlk
import Derived.Test.YtogkdekjcbljnaaDoorOpen
import Derived.Test.YtogkdekjcbljnaaDoorAid
import Derived.Laws.CopyOwn
import Derived.Laws.OwnMore
import Derived.Lib.Overlaps
import Derived.Carry
import Derived.Maps.AppendAt
import Derived.Shelf.Spec.SlicesInsert
import Derived.Shelf.Spec.SlicesInsertGrow
namespace Go.Proofs.YtogkdekjcbljnaaDoor
open Go.RowKit Go.Shelf Go.Lib

theorem Tryd.infoBd : (Tryd.prog.info? 82).map (fun i => (i.zero, i.size, i.bytes)) = some (some (.agg #[.int .u64 0, .bool false, .string ⟨#[]⟩]), 3, 32) := by kernel_rfl
theorem own_low {w : World} {base base' e size n : Nat} {v : Value} {xs : List Value} (h : w.ownsRow base e size v n xs) (hb : base' ≤ base) : w.ownsRow base' e size v n xs := own_less h hb
def bdCells (rs : List Bd) : List Value := rs.flatMap fun r => [.int .u64 (r.q : Int), .bool r.f, .string r.s]
theorem bdCells_append (a b : List Bd) : bdCells (a ++ b) = bdCells a ++ bdCells b := by simp [bdCells]
theorem bdCells_len (rs : List Bd) : (bdCells rs).length = rs.length * 3 := by
  induction rs with
  | nil => rfl
  | cons x xs ih => simp [bdCells] at ih ⊢; omega
/-- A list of refusals at a. -/
def BdsAt (w : World) (a : Option Addr) (rs : List Bd) : Prop := ∀ (i : Nat) (r : Bd), rs[i]? = some r → ∃ g off, a = some ⟨g, off, none⟩ ∧ g < w.heap.size ∧
  w.cell? ⟨g, off + i * 3, none⟩ = some (.int .u64 (r.q : Int)) ∧ w.cell? ⟨g, off + i * 3 + 1, none⟩ = some (.bool r.f) ∧ w.cell? ⟨g, off + i * 3 + 2, none⟩ = some (.string r.s)
theorem BdsAt.below {w w' : World} {a : Option Addr} {rs : List Bd} (h : BdsAt w a rs) (hb : Below w.heap.size w w') : BdsAt w' a rs := by
  intro i r hi
  obtain ⟨g, off, ha, hg, h0, h1, h2⟩ := h i r hi
  exact ⟨g, off, ha, Nat.lt_of_lt_of_le hg hb.size, (hb.cell (p := ⟨g, _, none⟩) hg).trans h0, (hb.cell (p := ⟨g, _, none⟩) hg).trans h1, (hb.cell (p := ⟨g, _, none⟩) hg).trans h2⟩
theorem bdCells_get : ∀ (rs : List Bd) (i : Nat) (r : Bd), rs[i]? = some r → ∀ j, j < 3 → (bdCells rs)[i * 3 + j]? = ([.int .u64 (r.q : Int), .bool r.f, .string r.s] : List Value)[j]?
  | [], i, x, h, _, _ => by simp at h
  | y :: ys, 0, x, h, j, hj => by
    simp at h; subst h
    have hc : j = 0 ∨ j = 1 ∨ j = 2 := by omega
    rcases hc with rfl | rfl | rfl <;> simp [bdCells]
  | y :: ys, i + 1, x, h, j, hj => by
    have := bdCells_get ys i x (by simpa using h) j hj
    have e : (bdCells (y :: ys))[(i + 1) * 3 + j]? = (bdCells ys)[i * 3 + j]? := by
      have : (i + 1) * 3 + j = (i * 3 + j) + 1 + 1 + 1 := by omega
      rw [this]; rfl
    rw [e]; exact this
theorem bdsAt_row {w : World} {base c : Nat} {a : Option Addr} {rs : List Bd} (h : w.ownsRow base 82 3 (.slice a rs.length c) rs.length (bdCells rs)) : BdsAt w a rs := by
  intro i r hi
  have hlt := (List.getElem?_eq_some_iff.1 hi).1
  have hg := bdCells_get rs i r hi
  have h0 := h
  rcases h0.2 with ⟨hv, hx⟩ | ⟨g, cap, cur, hv, _⟩
  · omega
  · simp at hv
    obtain ⟨rfl, rfl⟩ := hv
    have d0 := (h.cellAt (i * 3) (by omega)).trans (hg 0 (by omega))
    have d1 := (h.cellAt (i * 3 + 1) (by omega)).trans (hg 1 (by omega))
    have d2 := (h.cellAt (i * 3 + 2) (by omega)).trans (hg 2 (by omega))
    exact ⟨g, 0, rfl, World.block_lt_of_cell? w _ d0, by rw [Nat.zero_add]; exact d0, by rw [Nat.zero_add]; exact d1, by rw [Nat.zero_add]; exact d2⟩
/-- A list of versions comes out. -/
def BdsPost (rs : List Bd) (w : World) (e : Ending) (w' : World) : Prop := ∃ v, e = .returned v ∧ w'.ownsRow w.heap.size 82 3 v rs.length (bdCells rs) ∧ Below w.heap.size w w'



theorem run_copy_wide {P : Program} (σ : Nat) (w : World) (dT sT ty elem : TypeId) (g o dLen dCap : Nat) (a : Addr) (sLen sCap N : Nat) (cur : Array Value) (t : TypeId) (cs : List Value)
    (hu : P.underlying dT = some (.slice elem)) (hs : (P.info? elem).map (·.size) = some σ)
    (hg : w.heap[g]? = some (.cells cur t (0, 0))) (hN : N = Nat.min sLen dLen) (hn : cs.length = N * σ)
    (hsrc : ∀ j v, cs[j]? = some v → w.cell? (a.add j) = some v) (hfit : o + cs.length ≤ cur.size) (h1 : ∀ v ∈ cs, v.oneCell' = true) :
    (Builtin.copy_ #[dT, sT] ty #[.slice (some ⟨g, o, none⟩) dLen dCap, .slice (some a) sLen sCap]).run P w =
      .ok (goInt N) (w.setRow g (splice cur.toList o cs).toArray) := by
  have hl := run_loadCells_list (P := P) w a cs hsrc
  have hst := run_storeCells_at (P := P) g o t cs 0 cur w hg (by simpa using hfit) h1
  cases hq : P.info? elem with
  | none => simp [hq] at hs
  | some i =>
    have hi : i.size = σ := by simpa [hq] using hs
    rw [hn] at hl
    subst hN
    simp [Builtin.copy_, run_underlying hu, Builtin.lenOf, Builtin.firstCells, sizeOf, typeInfo, hq, hi, hl, hst, splice]


/-- A list of versions comes out, in a row of its own from base on. -/
def RowPost (v0 : Value) (base : Nat) (rs : List Bd) (w : World) (e : Ending) (w' : World) : Prop := ∃ v, e = .returned v ∧ w'.ownsRow base 82 3 v rs.length (bdCells rs) ∧ w.grownBy w' v0.ownBlock ∧ ∀ g, v.ownBlock = some g → v0.ownBlock = some g ∨ w.heap.size ≤ g
theorem own_blk (a : Option Addr) (L c L' c' : Nat) : (Value.slice a L c).ownBlock = (Value.slice a L' c').ownBlock := by cases a <;> rfl
theorem grown_weak {w w' : World} {r : Option Nat} (h : w.grownBy w' none) : w.grownBy w' r := ⟨h.os, h.tape, h.output, h.size, fun k hk _ => h.block k hk (by simp)⟩
theorem own_len {w w' : World} {a : Option Addr} {L c L' c' : Nat} (h : w.grownBy w' (Value.slice a L c).ownBlock) : w.grownBy w' (Value.slice a L' c').ownBlock := by
  rwa [show (Value.slice a L' c').ownBlock = (Value.slice a L c).ownBlock by cases a <;> rfl]
theorem grown_setRow (w : World) (g : Nat) (cs : Array Value) : w.grownBy (w.setRow g cs) (some g) := ⟨rfl, rfl, rfl, by simp [World.setRow], fun k _ hne => setRow_other w g k _ (fun e => hne (by rw [e]))⟩

set_option maxRecDepth 100000 in
set_option maxHeartbeats 2000000 in
theorem insert_end (base : Nat) (v : Value) (rs : List Bd) (L : Nat) (hL : rs.length = L) (r : Bd) (B : Nat) (w : World) (hLb : L ≤ 1099511627776) (hrow : w.ownsRow base 82 3 v L (bdCells rs)) (hB : w.heap[B]? = some (.cells #[.int .u64 (r.q : Int), .bool r.f, .string r.s] 82 (0, 0))) (hbase : base ≤ w.heap.size) :
    Calls Tryd.prog 32 #[v, .int .i64 (L : Int), .slice (some ⟨B, 0, none⟩) 1 1] w (RowPost v base (rs ++ [r]) w) := by
  obtain ⟨a, c, rfl⟩ := owns_slice hrow
  obtain ⟨i0, hi, hz0, hz1, hz2⟩ := info_parts Tryd.infoBd
  have hlc : ((L : Int)) ≤ (L : Int) := Int.le_refl _
  have hl0 : (0 : Int) ≤ (L : Int) := by omega
  have HROW := Lib.hid hrow
  have HB := Lib.hid hB
  have HL := Lib.hid hL
  clear hrow hB hL
  go_enter Tryd.func32, Tryd.ntmps32
  go_wp2_with (at_builtin; go_must (refine wpList_append_own_at _ rfl _ _ 78 rfl base 82 i0 _ 3 32 Tryd.underlying78 hi hz0 hz1 hz2 rfl (by omega) _ _ _ rfl HROW.out ⟨B, 0, none⟩ 1 1 (bdCells [r]) rfl rfl (World.news_of_block (cs := #[.int .u64 (r.q : Int), .bool r.f, .string r.s]) (t := 82) (fr := (0, 0)) HB.out) (by simp [Value.oneCell', bdCells]) (by unfold maxLen; omega) (by omega) hbase ?_; intro v' w3 hown3 hgrow3 _ hat3))
  all_goals
    have HB3 := Lib.hid (show w.grownBy w3 (Value.slice a L c).ownBlock from hgrow3)
    have HR3 := Lib.hid hown3
    have HAT3 := Lib.hid (show v'.ownBlock = (Value.slice a L c).ownBlock ∨ v'.ownBlock = some w.heap.size from hat3)
    clear hown3 hgrow3 hat3
    go_wp2_with fail
    go_ret
    refine ⟨_, rfl, ?_, own_len HB3.out, fun g hg => HAT3.out.elim (fun e => .inl ((own_blk a _ _ _ _).trans (e.symm.trans (show v'.ownBlock = some g from hg)))) (fun e => .inr (Nat.le_of_eq (Option.some.inj (e.symm.trans (show v'.ownBlock = some g from hg)))))⟩
    rw [bdCells_append, List.length_append, HL.out]; exact HR3.out

theorem Tryd.sizeBd (w : World) : (Go.sizeOf 82).run Tryd.prog w = .ok 3 w := by
  obtain ⟨i0, hi, hz0, hz1, hz2⟩ := info_parts Tryd.infoBd
  simp [sizeOf, typeInfo, hi, hz1]
theorem overlaps_no (w : World) (B g o lb cb k1 k2 : Nat) (t1 t2 : TypeId) (hne : B ≠ g) (h1 : w.shape? B = some (t1, k1)) (h2 : w.shape? g = some (t2, k2)) (hk : k2 ≠ 0) (hf : w.frozen? ⟨B, 0, none⟩ = false) (hf2 : w.frozen? ⟨B, k1, none⟩ = false) :
    (callFunc 52 #[.slice (some ⟨B, 0, none⟩) 1 1, .slice (some ⟨g, o, none⟩) lb cb]).run Tryd.prog w = .ok (.value (.bool false)) w := by
  rw [run_callFunc_extern Tryd.func52 (by kernel_rfl) (by kernel_rfl) (by kernel_rfl) (e := Extern.SlicesOverlaps.overlaps #[78, 78] #[4]) (by kernel_rfl),
    Lib.run_overlaps_apart w 78 4 82 Tryd.underlying78 3 Tryd.sizeBd ⟨B, 0, none⟩ ⟨g, o, none⟩ 1 1 lb cb hne t1 t2 k1 k2 h1 h2 hk hf hf2]
  rfl

theorem bdCells_take_len (rs : List Bd) (i : Nat) (hi : i ≤ rs.length) : (bdCells (rs.take i)).length = i * 3 := by rw [bdCells_len, List.length_take, Nat.min_eq_left hi]
theorem bdCells_drop (rs : List Bd) (i : Nat) (hi : i ≤ rs.length) : bdCells (rs.drop i) = (bdCells rs).drop (i * 3) := by
  have h := bdCells_append (rs.take i) (rs.drop i)
  rw [List.take_append_drop] at h
  rw [h]; exact (List.drop_left' (bdCells_take_len rs i hi)).symm
theorem bdCells_take (rs : List Bd) (i : Nat) (hi : i ≤ rs.length) : bdCells (rs.take i) = (bdCells rs).take (i * 3) := by
  have h := bdCells_append (rs.take i) (rs.drop i)
  rw [List.take_append_drop] at h
  rw [h]; exact (List.take_left' (bdCells_take_len rs i hi)).symm
theorem bd_one {rs : List Bd} : ∀ u ∈ bdCells rs, u.oneCell' = true := by
  intro u hu
  unfold bdCells at hu
  obtain ⟨r, _, h⟩ := List.mem_flatMap.1 hu
  simp only [List.mem_cons, List.not_mem_nil, or_false] at h
  rcases h with rfl | rfl | rfl <;> rfl
theorem ins_list {X : List Value} {rs : List Bd} {i L c : Nat} (r : Bd) (hL : rs.length = L) (hi : i < L) (hroom : L + 1 ≤ c) (hX : X.length = c * 3) (htk : X.take (L * 3) = bdCells rs) :
    (splice (splice X ((i + 1) * 3) (bdCells (rs.drop i))) (i * 3) (bdCells [r])).take ((L + 1) * 3) = bdCells (rs.take i ++ r :: rs.drop i) := by
  have l1 : (bdCells [r]).length = 3 := rfl
  have l2 : (bdCells (rs.drop i)).length = (L - i) * 3 := by rw [bdCells_len, List.length_drop, hL]
  have e1 : bdCells (rs.take i) = X.take (i * 3) := by rw [bdCells_take rs i (by omega), ← htk, List.take_take]; congr 1; omega
  have l3 : (X.take (i * 3)).length = i * 3 := by rw [List.length_take]; omega
  have l4 : (X.take ((i + 1) * 3)).length = (i + 1) * 3 := by rw [List.length_take]; omega
  have s1 : (splice X ((i + 1) * 3) (bdCells (rs.drop i))).take (i * 3) = X.take (i * 3) := by
    unfold splice
    rw [List.take_append_of_le_length (by omega), List.take_take]; congr 1; omega
  have s2 : (splice X ((i + 1) * 3) (bdCells (rs.drop i))).drop (i * 3 + 3) = bdCells (rs.drop i) ++ X.drop ((i + 1) * 3 + (bdCells (rs.drop i)).length) := by
    unfold splice
    rw [List.drop_append_of_le_length (by omega), List.drop_of_length_le (by omega), List.nil_append]
  have e2 : bdCells (rs.take i ++ r :: rs.drop i) = X.take (i * 3) ++ (bdCells [r] ++ bdCells (rs.drop i)) := by
    rw [bdCells_append, e1, show r :: rs.drop i = [r] ++ rs.drop i from rfl, bdCells_append]
  rw [e2]
  have e3 : splice (splice X ((i + 1) * 3) (bdCells (rs.drop i))) (i * 3) (bdCells [r]) = (X.take (i * 3) ++ (bdCells [r] ++ bdCells (rs.drop i))) ++ X.drop ((i + 1) * 3 + (bdCells (rs.drop i)).length) := by
    rw [splice, s1, l1, s2]; simp
  rw [e3, List.take_append_of_le_length (by simp only [List.length_append]; omega), List.take_of_length_le (by simp only [List.length_append]; omega)]

set_option maxRecDepth 100000 in
set_option maxHeartbeats 4000000 in
theorem insert_room (base g c : Nat) (cur : Array Value) (rs : List Bd) (L i : Nat) (hL : rs.length = L) (hi : i < L) (r : Bd) (B : Nat) (w : World) (hLb : L ≤ 1099511627776) (hc63 : c ≤ maxLen) (hroom : L + 1 ≤ c)
    (hbg : base ≤ g) (hcur : w.heap[g]? = some (.cells cur 82 (0, 0))) (hsz : cur.size = c * 3) (htk : cur.toList.take (L * 3) = bdCells rs)
    (hB : w.heap[B]? = some (.cells #[.int .u64 (r.q : Int), .bool r.f, .string r.s] 82 (0, 0))) (hBg : B ≠ g) :
    Calls Tryd.prog 32 #[.slice (some ⟨g, 0, none⟩) L c, .int .i64 (i : Int), .slice (some ⟨B, 0, none⟩) 1 1] w (RowPost (.slice (some ⟨g, 0, none⟩) L c) base (rs.take i ++ r :: rs.drop i) w) := by
  unfold maxLen at hc63
  have hov : ∀ o lb cb, (callFunc 52 #[.slice (some ⟨B, 0, none⟩) 1 1, .slice (some ⟨g, o, none⟩) lb cb]).run Tryd.prog w = .ok (.value (.bool false)) w := fun o lb cb =>
    overlaps_no w B g o lb cb 3 (c * 3) 82 82 hBg (by simp [World.shape?, hB]) (by simp [World.shape?, hcur, hsz]) (by omega) (by simp [World.frozen?, hB]) (by simp [World.frozen?, hB])
  have hz2 : ¬ ((i : Int) = (L : Int)) := by omega
  have hz3 : (i : Int) ≤ (L : Int) := by omega
  have hz0 : (0 : Int) ≤ (i : Int) := by omega
  have hw1 : IntKind.i64.wrap ((i : Int) + 1) = (i : Int) + 1 := by rw [IntKind.wrap_i64]; omega
  have hw2 : IntKind.i64.wrap ((L : Int) + 1) = (L : Int) + 1 := by rw [IntKind.wrap_i64]; omega
  have hb1 : (0 : Int) ≤ (i : Int) + 1 := by omega
  have hb5 : (0 : Int) ≤ (L : Int) + 1 := by omega
  have hb6 : (L : Int) + 1 ≤ (c : Int) := by omega
  have hb7 : (i : Int) + 1 ≤ (L : Int) + 1 := by omega
  have htn : ((i : Int) + 1).toNat = i + 1 := by omega
  have htL : ((L : Int) + 1).toNat = L + 1 := by omega
  have hb2 : ¬ (c = i + 1) := by omega
  have hb3 : (i : Int) ≤ (L : Int) + 1 := by omega
  have hb4 : ¬ (c = i) := by omega
  have hX : cur.toList.length = c * 3 := by rw [Array.length_toList]; exact hsz
  have hds : (bdCells (rs.drop i)).length = (L - i) * 3 := by rw [bdCells_len, List.length_drop, hL]
  have hin := ins_list r hL hi hroom hX htk
  obtain ⟨CS, hCS⟩ : ∃ CS, bdCells (rs.drop i) = CS := ⟨_, rfl⟩
  have hone : ∀ u ∈ CS, u.oneCell' = true := by rw [← hCS]; exact bd_one
  have hCSe : CS = (bdCells rs).drop (i * 3) := by rw [← hCS, bdCells_drop rs i (by omega)]
  rw [hCS] at hds hin
  have hsz5 : (Tryd.prog.info? 82).map (·.size) = some 3 := by
    obtain ⟨i0, hi0, hz0, hz1, hz2⟩ := info_parts Tryd.infoBd
    rw [hi0]; simp [hz1]
  have hcp1 : ∀ ty dc sc, (Builtin.copy_ #[78, 78] ty #[.slice (some ⟨g, (i + 1) * 3, none⟩) (L - i) dc, .slice (some ⟨g, i * 3, none⟩) (L + 1 - i) sc]).run Tryd.prog w.drew = .ok (goInt (L - i : Nat)) (w.drew.setRow g (splice cur.toList ((i + 1) * 3) CS).toArray) := fun ty dc sc =>
    run_copy_wide 3 w.drew _ _ ty 82 g ((i + 1) * 3) _ dc ⟨g, i * 3, none⟩ _ sc (L - i) cur 82 CS Tryd.underlying78 hsz5 hcur (by simp only [Nat.min_def]; split <;> omega) hds
      (fun j v hj => by
        rw [addr_plain]
        have hjl := (List.getElem?_eq_some_iff.1 hj).1
        have hc : w.drew.cell? ⟨g, i * 3 + j, none⟩ = cur[i * 3 + j]? := Blk.cell (show Blk w.drew g cur 82 from hcur) (i * 3 + j)
        rw [hc, ← hj, hCSe, ← htk, List.getElem?_drop, List.getElem?_take, if_pos (by omega)]
        simp)
      (by omega) hone
  obtain ⟨X1, hX1⟩ : ∃ X1, splice cur.toList ((i + 1) * 3) CS = X1 := ⟨_, rfl⟩
  have hX1l : X1.length = c * 3 := by rw [← hX1, length_splice _ _ _ (by omega)]; exact hX
  rw [hX1] at hcp1 hin
  obtain ⟨W1, hW1⟩ : ∃ W1, w.drew.setRow g X1.toArray = W1 := ⟨_, rfl⟩
  have hg1 : W1.heap[g]? = some (.cells X1.toArray 82 (0, 0)) := by rw [← hW1]; exact setRow_heap w.drew g cur _ _ _ hcur
  have hB1 : Blk W1 B #[.int .u64 (r.q : Int), .bool r.f, .string r.s] 82 := by
    rw [← hW1]; exact (setRow_other w.drew g B _ hBg).trans hB
  have hbl1 : w.grownBy W1 (some g) := by rw [← hW1]; exact (grown_weak (grown_of_below (Below.refl w.heap.size w).drew)).trans (grown_setRow w.drew g _)
  rw [hW1] at hcp1
  have hcp2 : ∀ ty dc, (Builtin.copy_ #[78, 78] ty #[.slice (some ⟨g, i * 3, none⟩) (L + 1 - i) dc, .slice (some ⟨B, 0, none⟩) 1 1]).run Tryd.prog W1 = .ok (goInt (1 : Nat)) (W1.setRow g (splice X1 (i * 3) (bdCells [r])).toArray) := fun ty dc =>
    run_copy_wide 3 W1 _ _ ty 82 g (i * 3) _ dc ⟨B, 0, none⟩ 1 1 1 X1.toArray 82 (bdCells [r]) Tryd.underlying78 hsz5 hg1 (by simp only [Nat.min_def]; split <;> omega) rfl
      (World.news_of_block (cs := #[.int .u64 (r.q : Int), .bool r.f, .string r.s]) (t := 82) (fr := (0, 0)) hB1)
      (by simp only [List.size_toArray, hX1l]; show i * 3 + 3 ≤ c * 3; omega) bd_one
  have hg2 : (W1.setRow g (splice X1 (i * 3) (bdCells [r])).toArray).heap[g]? = some (.cells (splice X1 (i * 3) (bdCells [r])).toArray 82 (0, 0)) := setRow_heap W1 g _ _ _ _ hg1
  have hbl2 : w.grownBy (W1.setRow g (splice X1 (i * 3) (bdCells [r])).toArray) (some g) := hbl1.trans (grown_setRow W1 g _)
  have hX2l : (splice X1 (i * 3) (bdCells [r])).length = c * 3 := by rw [length_splice _ _ _ (by rw [hX1l]; show i * 3 + 3 ≤ c * 3; omega)]; exact hX1l
  obtain ⟨X2, hX2⟩ : ∃ X2, splice X1 (i * 3) (bdCells [r]) = X2 := ⟨_, rfl⟩
  rw [hX2] at hcp2 hin hg2 hbl2 hX2l
  have HE := Lib.hid (And.intro hg2 (And.intro hbl2 (And.intro hX2l (And.intro hin hL))))
  clear hg2 hbl2 hX2l hin hX2 hbl1 hB1 hg1 hX1l hX1 hW1 hCSe hone hCS hds hX hL
  have HCUR := Lib.hid hcur
  have HBK := Lib.hid hB
  have HTK := Lib.hid htk
  have HSZ := Lib.hid hsz
  clear hcur hB htk hsz
  go_enter Tryd.func32, Tryd.ntmps32
  go_wp2_with (simp only [hov])
  go_region_law (refine step_copy_runI rfl (.tmp 73) (.tmp 76) 78 78 rfl _ _ (by simp [Act.eval, Act.put]) (by simp [Act.eval, Act.put]) (hcp1 _ _ _) ?_)
  all_goals
    go_wp2_with (at_builtin; go_must (refine wpList_copy_runI _ rfl _ _ 78 78 rfl _ _ rfl rfl (hcp2 _ _) ?_))
    go_ret
    refine ⟨_, rfl, ?_, HE.out.2.1, fun g' hg' => .inl hg'⟩
    have hlen : (rs.take i ++ r :: rs.drop i).length = L + 1 := by rw [List.length_append, List.length_cons, List.length_take, List.length_drop, HE.out.2.2.2.2]; omega
    rw [hlen]
    exact ⟨by rw [bdCells_len, hlen], .inr ⟨g, c, X2.toArray, rfl, hbg, HE.out.1, hroom, by unfold maxLen; omega, by simp only [List.size_toArray]; exact HE.out.2.2.1, HE.out.2.2.2.1⟩⟩


theorem ins_list2 {X : List Value} {rs : List Bd} {i L G : Nat} (r : Bd) (hL : rs.length = L) (hi : i < L) (hG : L + 1 ≤ G) (hX : X.length = G * 3) (htk : X.take (i * 3) = bdCells (rs.take i)) :
    (splice (splice X (i * 3) (bdCells [r])) ((i + 1) * 3) (bdCells (rs.drop i))).take ((L + 1) * 3) = bdCells (rs.take i ++ r :: rs.drop i) := by
  have l1 : (bdCells [r]).length = 3 := rfl
  have l2 : (bdCells (rs.drop i)).length = (L - i) * 3 := by rw [bdCells_len, List.length_drop, hL]
  have l3 : (X.take (i * 3)).length = i * 3 := by rw [List.length_take]; omega
  have s1 : (splice X (i * 3) (bdCells [r])).take ((i + 1) * 3) = X.take (i * 3) ++ bdCells [r] := by
    unfold splice
    rw [← List.append_assoc, List.take_append_of_le_length (by rw [List.length_append]; omega), List.take_of_length_le (by rw [List.length_append]; omega)]
  have e2 : bdCells (rs.take i ++ r :: rs.drop i) = (X.take (i * 3) ++ bdCells [r]) ++ bdCells (rs.drop i) := by
    rw [bdCells_append, ← htk, show r :: rs.drop i = [r] ++ rs.drop i from rfl, bdCells_append, List.append_assoc]
  rw [e2, splice, s1, ← List.append_assoc, List.take_append_of_le_length (by simp only [List.length_append]; omega), List.take_of_length_le (by simp only [List.length_append]; omega)]

set_option maxRecDepth 100000 in
set_option maxHeartbeats 4000000 in
theorem insert_grow (base g c : Nat) (cur : Array Value) (rs : List Bd) (L i : Nat) (hL : rs.length = L) (hi : i < L) (r : Bd) (B : Nat) (w : World) (hLb : L ≤ 1099511627776) (hroom : c < L + 1) (hLc : L ≤ c)
    (hbase : base ≤ w.heap.size) (hcur : w.heap[g]? = some (.cells cur 82 (0, 0))) (htk : cur.toList.take (L * 3) = bdCells rs)
    (hB : w.heap[B]? = some (.cells #[.int .u64 (r.q : Int), .bool r.f, .string r.s] 82 (0, 0))) :
    Calls Tryd.prog 32 #[.slice (some ⟨g, 0, none⟩) L c, .int .i64 (i : Int), .slice (some ⟨B, 0, none⟩) 1 1] w (RowPost (.slice (some ⟨g, 0, none⟩) L c) base (rs.take i ++ r :: rs.drop i) w) := by
  obtain ⟨i0, hi0, hz0, hzs, hzb⟩ := info_parts Tryd.infoBd
  obtain ⟨Z, hZ⟩ : ∃ Z : Value, (.agg #[.int .u64 0, .bool false, .string ⟨#[]⟩]) = Z := ⟨_, rfl⟩
  have hZ5 : Z.cells.size = 3 := by rw [← hZ]; rfl
  rw [hZ] at hz0
  have hgw : g < w.heap.size := (Array.getElem?_eq_some_iff.1 hcur).1
  have hBw : B < w.heap.size := (Array.getElem?_eq_some_iff.1 hB).1
  have hci : i ≤ rs.length := by omega
  have hkk : (L : Int) + 1 - (i : Int) = ((L + 1 - i : Nat) : Int) := by omega
  have hik : i + (L + 1 - i) = L + 1 := by omega
  have hct : bdCells (rs.take i) = cur.toList.take (i * 3) := by rw [bdCells_take rs i hci, ← htk, List.take_take]; congr 1; omega
  have hsrc0 : ∀ j v, (bdCells rs)[j]? = some v → w.cell? ⟨g, j, none⟩ = some v := fun j v hj => by
    rw [show w.cell? ⟨g, j, none⟩ = cur[j]? from Blk.cell (show Blk w g cur 82 from hcur) j, ← hj, ← htk, List.getElem?_take]
    have hjl := (List.getElem?_eq_some_iff.1 hj).1
    rw [bdCells_len] at hjl
    rw [if_pos (by omega)]; simp
  have hold : (Builtin.firstCells i0.size i (.slice (some ⟨g, 0, none⟩) i c)).run Tryd.prog w.drew = .ok (bdCells (rs.take i)).toArray w.drew := by
    rw [hzs]
    exact run_firstCells_some w.drew 3 i ⟨g, 0, none⟩ i c (bdCells (rs.take i)) (by rw [bdCells_take_len rs i hci]) (fun j v hj => by
      rw [addr_plain, Nat.zero_add]
      refine hsrc0 j v ?_
      rw [bdCells_take rs i hci, List.getElem?_take] at hj
      split at hj
      · exact hj
      · cases hj)
  have hrz : ∀ ty, (Builtin.append_ #[78, 3] ty #[.slice (some ⟨g, 0, none⟩) i c, .int .i64 ((L : Int) + 1 - (i : Int))]).run Tryd.prog w =
      .ok (.slice (some ⟨w.heap.size, 0, none⟩) (L + 1) (grownCap w (L + 1) c 82)) (w.drew.alloc (.cells ((bdCells (rs.take i)).toArray ++ Builtin.zeroCells Z.cells (L + 1 - i) ++ Builtin.zeroCells Z.cells (grownCap w (L + 1) c 82 - (L + 1))) 82)) := fun ty => by
    have h := Lib.run_append_grow_zeros w 78 3 ty 82 i0 _ .i64 .i64 Tryd.underlying78 Tryd.underlying3 hi0 hz0 (some ⟨g, 0, none⟩) i c (bdCells (rs.take i)) hold (L + 1 - i) (by omega) (by omega) (by omega) (by omega) (by rw [hzb]; omega) (by rw [hzb, hik]; exact growslice_fits hroom (by omega))
    rw [hik] at h
    rw [hkk]
    exact h
  have hGn : L + 1 ≤ grownCap w (L + 1) c 82 := grownCap_ge w _ _ _
  have hG63 : grownCap w (L + 1) c 82 ≤ maxLen := grownCap_le_maxLen w (L + 1) c 82 (by unfold maxLen; omega)
  generalize grownCap w (L + 1) c 82 = G at hrz hGn hG63
  obtain ⟨ROW, hROW⟩ : ∃ ROW : Array Value, (bdCells (rs.take i)).toArray ++ Builtin.zeroCells Z.cells (L + 1 - i) ++ Builtin.zeroCells Z.cells (G - (L + 1)) = ROW := ⟨_, rfl⟩
  rw [hROW] at hrz
  have hRl : ROW.size = G * 3 := by
    rw [← hROW]
    have := bdCells_take_len rs i hci
    simp [Builtin.zeroCells, hZ5, this]
    omega
  have hRt : ROW.toList.take (i * 3) = bdCells (rs.take i) := by
    rw [← hROW]
    simp only [Array.toList_append, List.append_assoc]
    exact List.take_left' (bdCells_take_len rs i hci)
  have hsz5 : (Tryd.prog.info? 82).map (·.size) = some 3 := by rw [hi0]; simp [hzs]
  have hds : (bdCells (rs.drop i)).length = (L - i) * 3 := by rw [bdCells_len, List.length_drop, hL]
  have hfin := ins_list2 r hL hi hGn (by rw [Array.length_toList]; exact hRl) hRt
  obtain ⟨CS, hCS⟩ : ∃ CS, bdCells (rs.drop i) = CS := ⟨_, rfl⟩
  have hone : ∀ u ∈ CS, u.oneCell' = true := by rw [← hCS]; exact bd_one
  have hCSe : ∀ j v, CS[j]? = some v → w.cell? ⟨g, i * 3 + j, none⟩ = some v := fun j v hj => hsrc0 _ v (by rw [← hCS, bdCells_drop rs i hci, List.getElem?_drop] at hj; exact hj)
  rw [hCS] at hds hfin
  obtain ⟨N, hN⟩ : ∃ N, w.heap.size = N := ⟨_, rfl⟩
  have hcpA : ∀ W : World, W.heap[N]? = some (.cells ROW 82 (0, 0)) → W.heap[B]? = w.heap[B]? → ∀ ty dc, (Builtin.copy_ #[78, 78] ty #[.slice (some ⟨N, i * 3, none⟩) (L + 1 - i) dc, .slice (some ⟨B, 0, none⟩) 1 1]).run Tryd.prog W = .ok (goInt (1 : Nat)) (W.setRow N (splice ROW.toList (i * 3) (bdCells [r])).toArray) := fun W hWN hWB ty dc =>
    run_copy_wide 3 W _ _ ty 82 N (i * 3) _ dc ⟨B, 0, none⟩ 1 1 1 ROW 82 (bdCells [r]) Tryd.underlying78 hsz5 hWN (by simp only [Nat.min_def]; split <;> omega) rfl
      (World.news_of_block (cs := #[.int .u64 (r.q : Int), .bool r.f, .string r.s]) (t := 82) (fr := (0, 0)) (hWB.trans hB))
      (by rw [hRl]; show i * 3 + 3 ≤ G * 3; omega) bd_one
  have hX1l : (splice ROW.toList (i * 3) (bdCells [r])).length = G * 3 := (length_splice _ _ _ (by show i * 3 + 3 ≤ ROW.size; omega)).trans hRl
  obtain ⟨X1, hX1⟩ : ∃ X1, splice ROW.toList (i * 3) (bdCells [r]) = X1 := ⟨_, rfl⟩
  rw [hX1] at hcpA hfin hX1l
  have hcpB : ∀ W : World, W.heap[N]? = some (.cells X1.toArray 82 (0, 0)) → W.heap[g]? = w.heap[g]? → ∀ ty dc sc, (Builtin.copy_ #[78, 78] ty #[.slice (some ⟨N, (i + 1) * 3, none⟩) (L - i) dc, .slice (some ⟨g, i * 3, none⟩) (L - i) sc]).run Tryd.prog W = .ok (goInt (L - i : Nat)) (W.setRow N (splice X1 ((i + 1) * 3) CS).toArray) := fun W hWN hWg ty dc sc => by
    have h := run_copy_wide 3 W 78 78 ty 82 N ((i + 1) * 3) (L - i) dc ⟨g, i * 3, none⟩ (L - i) sc (L - i) X1.toArray 82 CS Tryd.underlying78 hsz5 hWN (by simp) hds
      (fun j v hj => by rw [addr_plain, World.cell?_of_block (a := ⟨g, i * 3 + j, none⟩) hWg]; exact hCSe j v hj)
      (by rw [List.size_toArray, hX1l, hds]; omega) hone
    exact h
  have hX2l : (splice X1 ((i + 1) * 3) CS).length = G * 3 := by rw [length_splice _ _ _ (by rw [hX1l, hds]; omega)]; exact hX1l
  obtain ⟨X2, hX2⟩ : ∃ X2, splice X1 ((i + 1) * 3) CS = X2 := ⟨_, rfl⟩
  rw [hX2] at hcpB hfin hX2l
  rw [hN] at hrz hgw hBw hbase
  have hNA : (w.alloc (.cells ROW 82)).heap[N]? = some (.cells ROW 82 (0, 0)) := by rw [← hN]; exact World.alloc_heap_new w _
  have hBA : (w.alloc (.cells ROW 82)).heap[B]? = w.heap[B]? := ((Below.refl w.heap.size w).alloc (Nat.le_refl _) _).block B (by omega)
  have hgA : (w.alloc (.cells ROW 82)).heap[g]? = w.heap[g]? := ((Below.refl w.heap.size w).alloc (Nat.le_refl _) _).block g (by omega)
  have hz2 : ¬ ((i : Int) = (L : Int)) := by omega
  have hz3 : (c : Int) < (L : Int) + 1 := by omega
  have hz4 : (0 : Int) ≤ (i : Int) := by omega
  have hw1 : IntKind.i64.wrap ((i : Int) + 1) = (i : Int) + 1 := by rw [IntKind.wrap_i64]; omega
  have hw2 : IntKind.i64.wrap ((L : Int) + 1) = (L : Int) + 1 := by rw [IntKind.wrap_i64]; omega
  have hw3 : IntKind.i64.wrap ((L : Int) + 1 - (i : Int)) = (L : Int) + 1 - (i : Int) := by rw [IntKind.wrap_i64]; omega
  have hb1 : (0 : Int) ≤ (i : Int) + 1 := by omega
  have hb3 : (i : Int) ≤ (L : Int) := by omega
  have hb5 : (i : Int) ≤ (c : Int) := by omega
  have hb6 : (i : Int) ≤ (L : Int) + 1 := by omega
  have hb7 : (i : Int) + 1 ≤ (L : Int) + 1 := by omega
  have htn : ((i : Int) + 1).toNat = i + 1 := by omega
  have hGi : ¬ (G = i) := by omega
  have hGim : ¬ (G = i + 1) := by omega
  have hcci : ¬ (c = i) := by omega
  have HE := Lib.hid (And.intro hfin (And.intro hX2l (And.intro hNA (And.intro hBA (And.intro hgA (And.intro hbase (And.intro hN (And.intro hGn (And.intro hG63 hL)))))))))
  have hcpA' := hcpA ((w.alloc (.cells ROW 82)).drew) hNA hBA
  clear hcpA hfin hX2l hNA hBA hgA hX2 hX1l hX1 hCSe hone hCS hds hRt hRl hROW hold hsrc0 hct hik hkk hci hcur hB htk hsz5 hZ5 hz0 hZ hzs hzb hi0 hL hN
  go_enter Tryd.func32, Tryd.ntmps32
  go_wp2_with (first
    | (at_builtin; refine Lib.wpList_append_run _ rfl _ _ _ _ rfl _ _ rfl rfl _ _ (hrz _) ?_)
    | (at_builtin; refine wpList_copy_runI _ rfl _ _ 78 78 rfl _ _ rfl rfl (hcpA' _ _) ?_))
  have hN1 : ((((w.alloc (.cells ROW 82)).drew).setRow N X1.toArray).drew).heap[N]? = some (.cells X1.toArray 82 (0, 0)) := setRow_heap ((w.alloc (.cells ROW 82)).drew) N ROW _ _ _ HE.out.2.2.1
  have hgo : ((((w.alloc (.cells ROW 82)).drew).setRow N X1.toArray).drew).heap[g]? = w.heap[g]? := (setRow_other ((w.alloc (.cells ROW 82)).drew) N g _ (by omega)).trans HE.out.2.2.2.2.1
  have hNw : w.heap.size ≤ N := by have := HE.out.2.2.2.2.2.2.1; omega
  have hbl : Below w.heap.size w ((((w.alloc (.cells ROW 82)).drew).setRow N X1.toArray).drew) := (below_setRow (((Below.refl w.heap.size w).alloc (Nat.le_refl _) _).drew) hNw _).drew
  have hcpB' := hcpB _ hN1 hgo
  have hW2 : (((((w.alloc (.cells ROW 82)).drew).setRow N X1.toArray).drew).setRow N X2.toArray).heap[N]? = some (.cells X2.toArray 82 (0, 0)) := setRow_heap _ N _ _ _ _ hN1
  have hbl2 : w.grownBy (((((w.alloc (.cells ROW 82)).drew).setRow N X1.toArray).drew).setRow N X2.toArray) (some g) := grown_weak (grown_of_below (below_setRow hbl hNw _))
  have HF := Lib.hid (And.intro hW2 hbl2)
  clear hN1 hgo hbl hW2 hbl2 hcpB hNw
  go_region_law (refine step_copy_runI rfl (.tmp 50) (.tmp 53) 78 78 rfl _ _ (by simp [Act.eval, Act.put]) (by simp [Act.eval, Act.put]) (hcpB' _ _ _) ?_)
  all_goals
    go_wp2_with fail
    go_ret
    refine ⟨_, rfl, ?_, HF.out.2, fun g' hg' => .inr (by have h0 := HE.out.2.2.2.2.2.2.1; have h1 : N = g' := Option.some.inj hg'; omega)⟩
    have hlen : (rs.take i ++ r :: rs.drop i).length = L + 1 := by rw [List.length_append, List.length_cons, List.length_take, List.length_drop, HE.out.2.2.2.2.2.2.2.2.2]; omega
    rw [hlen]
    exact ⟨by rw [bdCells_len, hlen], .inr ⟨N, G, X2.toArray, rfl, hbase, HF.out.1, hGn, hG63, by rw [List.size_toArray]; exact HE.out.2.1, HE.out.1⟩⟩


theorem insert_any (base : Nat) (v : Value) (rs : List Bd) (L i : Nat) (hL : rs.length = L) (hi : i ≤ L) (r : Bd) (B : Nat) (w : World) (hLb : L ≤ 1099511627776) (hrow : w.ownsRow base 82 3 v L (bdCells rs)) (hB : w.heap[B]? = some (.cells #[.int .u64 (r.q : Int), .bool r.f, .string r.s] 82 (0, 0))) (hbase : base ≤ w.heap.size)
    (hne : ∀ g, v.ownBlock = some g → B ≠ g) :
    Calls Tryd.prog 32 #[v, .int .i64 (i : Int), .slice (some ⟨B, 0, none⟩) 1 1] w (RowPost v base (rs.take i ++ r :: rs.drop i) w) := by
  by_cases he : i = L
  · subst he
    rw [List.take_of_length_le (by omega), List.drop_of_length_le (by omega)]
    exact insert_end base v rs i hL r B w hLb hrow hB hbase
  · rcases hrow.2 with ⟨_, h0⟩ | ⟨g, cap, cur, rfl, hbg, hg, hnc, hc63, hsz, htk⟩
    · omega
    · by_cases hroom : L + 1 ≤ cap
      · exact insert_room base g cap cur rs L i hL (by omega) r B w hLb hc63 hroom hbg hg hsz htk hB (hne g rfl)
      · exact insert_grow base g cap cur rs L i hL (by omega) r B w hLb (by omega) hnc hbase hg htk hB


theorem row_some {w : World} {base e size n : Nat} {v : Value} {xs : List Value} (h : w.ownsRow base e size v n xs) (hn : 0 < n) : ∃ g cap, v = .slice (some ⟨g, 0, none⟩) n cap ∧ base ≤ g ∧ g < w.heap.size := by
  rcases h.2 with ⟨_, hx⟩ | ⟨g, cap, cur, hv, hb, hg, _⟩
  · omega
  · exact ⟨g, cap, hv, hb, (Array.getElem?_eq_some_iff.1 hg).1⟩
theorem row_shape {w : World} {base e size n : Nat} {v : Value} {xs : List Value} (h : w.ownsRow base e size v n xs) : ∃ a c, v = .slice a n c := by
  rcases h.2 with ⟨hv, hn⟩ | ⟨g, cap, cur, hv, _⟩
  · exact ⟨none, 0, by rw [hv, hn]⟩
  · exact ⟨_, _, hv⟩
theorem own_ne {w : World} {base e size n : Nat} {v : Value} {xs : List Value} (h : w.ownsRow (base + 1) e size v n xs) : v.ownBlock ≠ some base := fun e' => by have := (h.lt _ e').1; omega
theorem bdCells_set : ∀ (out : List Bd) (i : Nat) (r : Bd), i < out.length → bdCells (out.set i r) = (((bdCells out).set (i * 3) (.int .u64 (r.q : Int))).set (i * 3 + 1) (.bool r.f)).set (i * 3 + 2) (.string r.s)
  | [], _, _, h => by simp at h
  | y :: ys, 0, r, _ => by simp [bdCells]
  | y :: ys, i + 1, r, h => by
    have ih := bdCells_set ys i r (by simpa using h)
    have e : ∀ z zs, bdCells (z :: zs) = [.int .u64 (z.q : Int), .bool z.f, .string z.s] ++ bdCells zs := fun z zs => by simp [bdCells]
    rw [List.set_cons_succ, e, e, ih]
    have f : ∀ j (l : List Value) (u : Value), ([Value.int .u64 (y.q : Int), .bool y.f, .string y.s] ++ l).set ((i + 1) * 3 + j) u = [Value.int .u64 (y.q : Int), .bool y.f, .string y.s] ++ l.set (i * 3 + j) u := fun j l u => by
      rw [List.set_append_right _ _ (by simp; omega)]
      congr 2
      simp; omega
    have f0 : ∀ (l : List Value) (u : Value), ([Value.int .u64 (y.q : Int), .bool y.f, .string y.s] ++ l).set ((i + 1) * 3) u = [Value.int .u64 (y.q : Int), .bool y.f, .string y.s] ++ l.set (i * 3) u := f 0
    rw [f0, f 1, f 2]

/-- A refusal in a row. -/
def BdAt (w : World) (R o : Nat) (s : Bd) : Prop := R < w.heap.size ∧ w.cell? ⟨R, o, none⟩ = some (.int .u64 (s.q : Int)) ∧ w.cell? ⟨R, o + 1, none⟩ = some (.bool s.f) ∧ w.cell? ⟨R, o + 2, none⟩ = some (.string s.s)
theorem BdAt.later {w w' : World} {R o : Nat} {s : Bd} (h : BdAt w R o s) (hb : Below w.heap.size w w') : BdAt w' R o s := by
  obtain ⟨hl, h0, h1, h2⟩ := h
  exact ⟨Nat.lt_of_lt_of_le hl hb.size, (hb.cell (p := ⟨R, _, none⟩) hl).trans h0, (hb.cell (p := ⟨R, _, none⟩) hl).trans h1, (hb.cell (p := ⟨R, _, none⟩) hl).trans h2⟩
def rowSet (w : World) (R i : Nat) (r : Bd) : World := ((w.setCell ⟨R, i * 3, none⟩ (.int .u64 (r.q : Int))).setCell ⟨R, i * 3 + 1, none⟩ (.bool r.f)).setCell ⟨R, i * 3 + 2, none⟩ (.string r.s)
theorem row_set {w : World} {base R cap n i : Nat} {t : TypeId} {out : List Bd} {r : Bd} (h : w.ownsRow base t 3 (.slice (some ⟨R, 0, none⟩) n cap) n (bdCells out)) (hi : i < out.length) :
    (rowSet w R i r).ownsRow base t 3 (.slice (some ⟨R, 0, none⟩) n cap) n (bdCells (out.set i r)) ∧ w.grownBy (rowSet w R i r) (some R) := by
  obtain ⟨h1, g1⟩ := h.stored (i * 3) (.int .u64 (r.q : Int))
  obtain ⟨h2, g2⟩ := h1.stored (i * 3 + 1) (.bool r.f)
  obtain ⟨h3, g3⟩ := h2.stored (i * 3 + 2) (.string r.s)
  rw [bdCells_set out i r hi]
  exact ⟨h3, ((g1.trans g2).trans g3)⟩

end Go.Proofs.YtogkdekjcbljnaaDoor
