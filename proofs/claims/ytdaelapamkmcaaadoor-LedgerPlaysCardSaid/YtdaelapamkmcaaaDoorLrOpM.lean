/- ledger's reference: its Ledger in memory. ledger's reference: find, State. ledger's reference: State, Erase. -/
import Derived.Test.YtdaelapamkmcaaaDoorLdIs
import Derived.BigQuiet
namespace Go.Proofs.YtdaelapamkmcaaaDoor
open Go.RowKit

theorem mksAt_rowT {T : TypeId} {w : World} {base c : Nat} {a : Option Addr} {rs : List Mk} (h : w.ownsRow base T 5 (.slice a rs.length c) rs.length (mkCells rs)) : MksAt w a rs := by
  intro i r hi
  have hlt := (List.getElem?_eq_some_iff.1 hi).1
  have hg := mkCells_get rs i r hi
  have h0 := h
  rcases h0.2 with ⟨hv, hx⟩ | ⟨g, cap, cur, hv, _⟩
  · omega
  · simp at hv
    obtain ⟨rfl, rfl⟩ := hv
    have d0 := (h.cellAt (i * 5) (by omega)).trans (hg 0 (by omega))
    have d1 := (h.cellAt (i * 5 + 1) (by omega)).trans (hg 1 (by omega))
    have d2 := (h.cellAt (i * 5 + 2) (by omega)).trans (hg 2 (by omega))
    have d3 := (h.cellAt (i * 5 + 3) (by omega)).trans (hg 3 (by omega))
    have d4 := (h.cellAt (i * 5 + 4) (by omega)).trans (hg 4 (by omega))
    exact ⟨g, 0, rfl, World.block_lt_of_cell? w _ d0, by rw [Nat.zero_add]; exact d0, by rw [Nat.zero_add]; exact d1, by rw [Nat.zero_add]; exact d2, by rw [Nat.zero_add]; exact d3, by rw [Nat.zero_add]; exact d4⟩
/-- Blocks that a Ledger may turn. -/
def RMine (w : World) (B k : Nat) : Prop := B ≤ k ∧ ∃ c T fz, w.heap[k]? = some (.cells c T fz) ∧ (T = 29 ∨ T = 50)
structure RKept (B : Nat) (w w' : World) : Prop where
  os : w'.os = w.os
  tape : w'.tape = w.tape
  output : w'.output = w.output
  size : w.heap.size ≤ w'.heap.size
  block : ∀ k, k < w.heap.size → ¬ RMine w B k → w'.heap[k]? = w.heap[k]?
theorem RKept.refl (B : Nat) (w : World) : RKept B w w := ⟨rfl, rfl, rfl, Nat.le_refl _, fun _ _ _ => rfl⟩
theorem RKept.of {B : Nat} {w w' : World} (h : Below w.heap.size w w') : RKept B w w' := ⟨h.os, h.tape, h.output, h.size, fun k hk _ => h.block k hk⟩
theorem RKept.trans {B : Nat} {w w1 w2 : World} (h : RKept B w w1) (h' : RKept B w1 w2) : RKept B w w2 :=
  ⟨h'.os.trans h.os, h'.tape.trans h.tape, h'.output.trans h.output, Nat.le_trans h.size h'.size, fun k hk hn => by
    have e := h.block k hk hn
    refine (h'.block k (Nat.lt_of_lt_of_le hk h.size) ?_).trans e
    rintro ⟨hb, c, T, fz, hc, hT⟩
    exact hn ⟨hb, c, T, fz, by rw [← e]; exact hc, hT⟩⟩
theorem RKept.below {B : Nat} {w w' : World} (h : RKept B w w') (hB : B ≤ w.heap.size) : Below B w w' :=
  ⟨h.os, h.tape, h.output, h.size, fun k hk => h.block k (by omega) (fun hm => by have := hm.1; omega)⟩
theorem RKept.blk {B : Nat} {w w' : World} {p : Nat} {c : Array Value} {t : TypeId} (h : RKept B w w') (hb : Blk w p c t) (h1 : t ≠ 29) (h2 : t ≠ 50) : Blk w' p c t := by
  refine (h.block p hb.lt ?_).trans hb
  rintro ⟨_, c', T, fz, hc, hT⟩
  rw [show w.heap[p]? = _ from hb] at hc
  injection hc with hc; injection hc with _ e _
  subst e
  rcases hT with e | e
  · exact h1 e
  · exact h2 e
theorem RKept.own {B : Nat} {w w' : World} {base size n : Nat} {e : TypeId} {v : Value} {xs : List Value} (h : RKept B w w') (ho : w.ownsRow base e size v n xs) (h1 : e ≠ 29) (h2 : e ≠ 50) : w'.ownsRow base e size v n xs := by
  refine own_at ho fun g hg => ?_
  obtain ⟨_, hlt, c, fz, hc⟩ := own_heap ho hg
  refine h.block g hlt ?_
  rintro ⟨_, c', T, fz', hc', hT⟩
  rw [hc] at hc'
  injection hc' with hc'; injection hc' with _ e' _
  subst e'
  rcases hT with e | e
  · exact h1 e
  · exact h2 e
theorem RKept.row {B base size n : Nat} {w w' : World} {v : Value} {xs : List Value} (ho : w.ownsRow base 50 size v n xs) (hB : B ≤ base) (hg : w.grownBy w' v.ownBlock) : RKept B w w' := by
  refine ⟨hg.os, hg.tape, hg.output, hg.size, fun k hk hn => hg.block k hk fun e => hn ?_⟩
  obtain ⟨h1, _, c, fz, hc⟩ := own_heap ho e.symm
  exact ⟨Nat.le_trans hB h1, c, _, fz, hc, .inr rfl⟩
theorem RKept.set {B l : Nat} {w : World} {c : Array Value} {t : TypeId} (hb : Blk w l c t) (hB : B ≤ l) (ht : t = 29 ∨ t = 50) (j : Nat) (v : Value) : RKept B w (w.setCell ⟨l, j, none⟩ v) := by
  have hg := grown_set w l j v
  refine ⟨hg.os, hg.tape, hg.output, hg.size, fun k hk hn => hg.block k hk fun e => hn ?_⟩
  cases e
  exact ⟨hB, c, t, (0, 0), hb, ht⟩
/-- A Ledger at l that holds these marks. -/
structure RfAt (base l : Nat) (v : Value) (ms : List Mk) (w : World) : Prop where
  blk : Blk w l #[v] 29
  row : w.ownsRow base 50 5 v ms.length (mkCells ms)
  bl : base ≤ l
theorem RfAt.hB {base l : Nat} {v : Value} {ms : List Mk} {w : World} (h : RfAt base l v ms w) : base ≤ w.heap.size := Nat.le_trans h.bl (Nat.le_of_lt h.blk.lt)
theorem RfAt.later {base l : Nat} {v : Value} {ms : List Mk} {w w' : World} (h : RfAt base l v ms w) (hb : Below w.heap.size w w') : RfAt base l v ms w' :=
  ⟨h.blk.later hb, own_below h.row hb, h.bl⟩
/-- What reads a Ledger sees. -/
structure RfRd (l : Nat) (a : Option Addr) (c : Nat) (ms : List Mk) (w : World) : Prop where
  blk : Blk w l #[.slice a ms.length c] 29
  at' : MksAt w a ms
theorem RfRd.later {l c : Nat} {a : Option Addr} {ms : List Mk} {w w' : World} (h : RfRd l a c ms w) (hb : Below w.heap.size w w') : RfRd l a c ms w' := ⟨h.blk.later hb, h.at'.below hb⟩
theorem RfAt.rd {base l : Nat} {v : Value} {ms : List Mk} {w : World} (h : RfAt base l v ms w) : ∃ a c, v = .slice a ms.length c ∧ RfRd l a c ms w := by
  obtain ⟨a, c, rfl⟩ := row_shape h.row
  exact ⟨a, c, rfl, h.blk, mksAt_rowT h.row⟩
/-- The slice is turned to another row. -/
theorem RfAt.turn {base l : Nat} {v v' : Value} {ms ms' : List Mk} {w w1 : World} (h : Blk w1 l #[v] 29) (hl : base ≤ l) (hrow : w1.ownsRow base 50 5 v' ms'.length (mkCells ms')) (hw : w = w1) :
    RfAt base l v' ms' (w.setCell ⟨l, 0, none⟩ v') ∧ RKept base w (w.setCell ⟨l, 0, none⟩ v') := by
  subst hw
  have hb : Blk (w.setCell ⟨l, 0, none⟩ v') l #[v'] 29 := h.set 0 v'
  refine ⟨⟨hb, own_other hrow (grown_set w l 0 v') (fun g hg e => ?_), hl⟩, RKept.set h hl (.inl rfl) 0 v'⟩
  exact row_block hrow h (by decide) (by rw [e]; exact hg)
/-- Each keeps the other's. -/
theorem RfAt.kept {base base' l : Nat} {v : Value} {ms : List Mk} {w w' : World} (h : RfAt base l v ms w) (hk : Kept base' w w') : RfAt base l v ms w' :=
  ⟨hk.blk h.blk (by decide) (by decide), hk.own h.row (by decide) (by decide), h.bl⟩
theorem LdIs.rkept {base base' l : Nat} {ms : List Mk} {w w' : World} (h : LdIs base l ms w) (hk : RKept base' w w') : LdIs base l ms w' := by
  obtain ⟨h1, v, h2⟩ := h
  exact ⟨h1, v, hk.blk h2.blk (by decide) (by decide), hk.own h2.row (by decide) (by decide), h2.bl⟩
end Go.Proofs.YtdaelapamkmcaaaDoor
namespace Go.Proofs.YtdaelapamkmcaaaDoor
open Go.RowKit

/-- Where the mark of a version stands; -1: nowhere. -/
def rposM (t : Int) (x : ByteArray) (q : Nat) (ms : List Mk) : Int := if ms.any (fun m => keyM t x m && decide (m.q = q)) then (ms.findIdx (fun m => keyM t x m && decide (m.q = q)) : Int) else -1
set_option maxRecDepth 100000 in
set_option maxHeartbeats 4000000 in
theorem rfind_any (l c : Nat) (a : Option Addr) (t : Int) (x : ByteArray) (q : Nat) (ms : List Mk) (w : World) (hr : RfRd l a c ms w) (hn : ms.length ≤ 1025) :
    Calls Tryd.prog 22 #[.pointer (some ⟨l, 0, none⟩), kyV t x, .int .u64 (q : Int)] w fun e w' => e = .returned (.int .i64 (rposM t x q ms)) ∧ Below w.heap.size w w' := by
  obtain ⟨w1, hw1⟩ : ∃ w1, w.alloc (.cells #[.int .i64 t, .string x] 31) = w1 := ⟨_, rfl⟩
  have hb1 : Below w.heap.size w w1 := by rw [← hw1]; exact (Below.refl _ _).alloc (Nat.le_refl _) _
  have q1 : Blk w1 w.heap.size #[.int .i64 t, .string x] 31 := by rw [← hw1]; exact Blk.new _ _ _
  obtain ⟨L, hL⟩ : ∃ L, ms.length = L := ⟨_, rfl⟩
  rw [hL] at hn
  have HL := Lib.hid hL
  have HR := Lib.hid (hr.later hb1)
  have HW1 := Lib.hid hw1
  have HB1 := Lib.hid hb1
  have HQ1 := Lib.hid q1
  obtain ⟨p, hp⟩ : ∃ p : Mk → Bool, (fun m => keyM t x m && decide (m.q = q)) = p := ⟨_, rfl⟩
  unfold rposM
  rw [hp]
  have HP := Lib.hid (fun m => congrFun hp m)
  obtain ⟨V, hV⟩ : ∃ V : Int, (if ms.any p then (ms.findIdx p : Int) else -1) = V := ⟨_, rfl⟩
  rw [hV]
  have HV := Lib.hid (show idxV p ms = V from hV)
  clear hL hr hw1 hb1 q1 hp hV
  go_enter Tryd.func22, Tryd.ntmps22
  go_wp2_with (rw [HW1.out])
  go_loopw [7] (fun i wx => ∃ k : Nat, k ≤ L ∧ i = .int .i64 (k : Int) ∧ (ms.take k).any p = false ∧ Below w1.heap.size w1 wx) (fun i _ => L - (intOf i).toNat)
  case atStart => exact ⟨0, Nat.zero_le _, rfl, rfl, Below.refl _ _⟩
  case round =>
    obtain ⟨k, hk, rfl, hno, hb⟩ := hrel
    have HNO := Lib.hid hno; clear hno
    have hr2 := HR.out.later hb
    have q2 := HQ1.out.later hb
    have c0 : wr.cell? ⟨l, 0, none⟩ = some (.slice a L c) := by rw [← HL.out]; exact hr2.blk.cell 0
    have y0 : wr.cell? ⟨w.heap.size, 0, none⟩ = some (.int .i64 t) := q2.cell 0
    have y1 : wr.cell? ⟨w.heap.size, 1, none⟩ = some (.string x) := q2.cell 1
    by_cases hlt : k < L
    · obtain ⟨m, hx⟩ : ∃ m, ms[k]? = some m := ⟨_, List.getElem?_eq_getElem (by have := HL.out; omega)⟩
      obtain ⟨g, off, rfl, hgl, p0, p1, p2, p3, p4⟩ := hr2.at' k m hx
      have HX := Lib.hid hx; clear hx
      have b1 : (k : Int) < (L : Int) := by omega
      have b0 : (0 : Int) ≤ (k : Int) := by omega
      have hkk := keyM_eq t x m
      have e1 := fun w => ck_eqlKey m.t t m.x x w
      rw [hkk] at e1
      have g1 := fun op a b xs ys w => ck_guardKey op a b xs ys w
      have hpm := HP.out m
      obtain ⟨K, hK⟩ : ∃ K, keyM t x m = K := ⟨_, rfl⟩
      rw [hK] at e1 hpm
      obtain ⟨Q, hQ⟩ : ∃ Q, decide (m.q = q) = Q := ⟨_, rfl⟩
      rw [hQ] at hpm
      have hQ2 : ((m.q : Int) == (q : Int)) = Q := by rw [← hQ]; by_cases e : m.q = q <;> simp [e]; omega
      have HPM := Lib.hid hpm
      have HBB := Lib.hid hb
      have HDR := Lib.hid (fun n => hb.trans ((below_drewM (B := wr.heap.size) (w := wr) n).mono hb.size))
      clear hkk hpm hK hr2 q2 hgl hb p3 p4
      cases K with
      | false =>
        have HO := Lib.hid (show p m = false by rw [← HPM.out]; rfl)
        clear hQ hQ2
        go_wp2_with fail
        go_quiet (fail)
        have HDN := Lib.hid (HDR.out nq)
        generalize wr.drewN nq = wz at HDN ⊢
        clear p0 p1 p2 c0 y0 y1 e1 g1
        go_wp2_with fail
        go_roundw
        case rel => exact ⟨k + 1, by omega, by go_num, any_take HX.out HNO.out HO.out, HDN.out⟩
        case measure => simp [intOf]; omega
      | true =>
        cases Q with
        | false =>
          have HO := Lib.hid (show p m = false by rw [← HPM.out]; rfl)
          go_wp2_with fail
          go_quiet (fail)
          have HDN := Lib.hid (HDR.out nq)
          generalize wr.drewN nq = wz at HDN ⊢
          clear p0 p1 p2 c0 y0 y1 e1 g1 hQ hQ2
          go_wp2_with fail
          go_roundw
          case rel => exact ⟨k + 1, by omega, by go_num, any_take HX.out HNO.out HO.out, HDN.out⟩
          case measure => simp [intOf]; omega
        | true =>
          have HO := Lib.hid (show p m = true by rw [← HPM.out]; rfl)
          have hV2 : (k : Int) = V := by rw [← HV.out, idx_yes HX.out HNO.out HO.out]
          have HV2 := Lib.hid hV2
          clear hV2
          go_wp2_with fail
          go_quiet (fail)
          have HDN := Lib.hid (HDR.out nq)
          generalize wr.drewN nq = wz at HDN ⊢
          clear p0 p1 p2 c0 y0 y1 e1 g1 hQ hQ2
          go_wp2_with fail
          go_ret
          exact ⟨by rw [← HV2.out]; rfl, HB1.out.trans (HDN.out.mono HB1.out.size)⟩
    · obtain rfl : k = L := by omega
      have hall : ms.any p = false := by have := HNO.out; rw [List.take_of_length_le (by have := HL.out; omega)] at this; exact this
      have hV2 : (-1 : Int) = V := by rw [← HV.out]; unfold idxV; rw [hall]; rfl
      have HV2 := Lib.hid hV2
      have HBB := Lib.hid (HB1.out.trans (hb.mono HB1.out.size))
      clear hall hV2 hr2 q2 y0 y1 hb
      go_wp2_with fail
      go_ret
      exact ⟨by rw [← HV2.out]; rfl, HBB.out⟩
end Go.Proofs.YtdaelapamkmcaaaDoor
namespace Go.Proofs.YtdaelapamkmcaaaDoor
open Go.RowKit

theorem rpos_cases (t : Int) (x : ByteArray) (q : Nat) (ms : List Mk) : (rposM t x q ms = -1 ∧ findM t x q ms = none) ∨ ∃ (k : Nat) (m : Mk), ms[k]? = some m ∧ rposM t x q ms = (k : Int) ∧ findM t x q ms = some m := by
  unfold rposM findM
  generalize (fun m => keyM t x m && decide (m.q = q)) = p
  by_cases h : ms.any p = true
  · right
    have hlt : ms.findIdx p < ms.length := List.findIdx_lt_length_of_exists (List.any_eq_true.1 h)
    refine ⟨ms.findIdx p, ms[ms.findIdx p], List.getElem?_eq_getElem hlt, by rw [if_pos h], ?_⟩
    rw [List.find?_eq_some_iff_getElem]
    refine ⟨List.findIdx_getElem (w := hlt), _, hlt, rfl, fun j hj => ?_⟩
    have := List.not_of_lt_findIdx hj
    simpa using this
  · left
    refine ⟨by rw [if_neg h], ?_⟩
    rw [List.find?_eq_none]
    intro m hm hp
    exact h (List.any_eq_true.2 ⟨m, hm, hp⟩)
set_option maxRecDepth 100000 in
set_option maxHeartbeats 4000000 in
theorem rstate_any (l c : Nat) (a : Option Addr) (t : Int) (x : ByteArray) (q : Nat) (ms : List Mk) (w : World) (hr : RfRd l a c ms w) (hn : ms.length ≤ 1025) :
    Calls Tryd.prog 14 #[.pointer (some ⟨l, 0, none⟩), kyV t x, .int .u64 (q : Int)] w fun e w' => e = .returned (.tuple #[.int .i64 (stateE t x q ms).1, .string (stateE t x q ms).2]) ∧ Below w.heap.size w w' := by
  obtain ⟨w1, hw1⟩ : ∃ w1, w.alloc (.cells #[.int .i64 t, .string x] 31) = w1 := ⟨_, rfl⟩
  have hb1 : Below w.heap.size w w1 := by rw [← hw1]; exact (Below.refl _ _).alloc (Nat.le_refl _) _
  have q1 : Blk w1 w.heap.size #[.int .i64 t, .string x] 31 := by rw [← hw1]; exact Blk.new _ _ _
  have y0 : w1.cell? ⟨w.heap.size, 0, none⟩ = some (.int .i64 t) := q1.cell 0
  have y1 : w1.cell? ⟨w.heap.size, 1, none⟩ = some (.string x) := q1.cell 1
  have hfi := rfind_any l c a t x q ms w1 (hr.later hb1) hn
  obtain ⟨L, hL⟩ : ∃ L, ms.length = L := ⟨_, rfl⟩
  have HL := Lib.hid hL
  have HR := Lib.hid (hr.later hb1)
  have HW1 := Lib.hid hw1
  have HB1 := Lib.hid hb1
  have hcs := rpos_cases t x q ms
  unfold stateE
  generalize rposM t x q ms = V at hfi hcs
  have HFI := Lib.hid hfi
  clear hL hr hw1 hb1 q1 hfi
  rcases hcs with ⟨rfl, hf⟩ | ⟨k, m, hx, rfl, hf⟩
  · rw [hf]
    clear hf
    go_enter Tryd.func14, Tryd.ntmps14
    go_wp2_with (rw [HW1.out])
    refine HFI.out.mono ?_
    rintro e w2 ⟨rfl, hb⟩
    have HB2 := Lib.hid (HB1.out.trans (hb.mono HB1.out.size))
    clear hb
    go_wp2_with fail
    go_ret2
    exact ⟨rfl, HB2.out⟩
  · rw [hf]
    clear hf
    have hlt := (List.getElem?_eq_some_iff.1 hx).1
    rw [HL.out] at hlt
    have HX := Lib.hid hx
    have b0 : (0 : Int) ≤ (k : Int) := by omega
    have b1 : (k : Int) < (L : Int) := by omega
    have b2 : ¬ (k : Int) < 0 := by omega
    clear hx
    go_enter Tryd.func14, Tryd.ntmps14
    go_wp2_with (rw [HW1.out])
    refine HFI.out.mono ?_
    rintro e w2 ⟨rfl, hb⟩
    have hr2 := HR.out.later hb
    have c2 : w2.cell? ⟨l, 0, none⟩ = some (.slice a L c) := by rw [← HL.out]; exact hr2.blk.cell 0
    obtain ⟨g, off, rfl, hgl, p0, p1, p2, p3, p4⟩ := hr2.at' k m HX.out
    have HB2 := Lib.hid (HB1.out.trans (hb.mono HB1.out.size))
    have HDR := Lib.hid (fun n => HB2.out.trans (below_drewM (B := w.heap.size) (w := w2) n))
    clear hb hr2 hgl p0 p1 p2
    go_wp2_with fail
    go_quiet (fail)
    have HDN := Lib.hid (HDR.out nq)
    generalize w2.drewN nq = wz at HDN ⊢
    clear p3 p4 c2
    go_wp2_with fail
    go_ret2
    exact ⟨rfl, HDN.out⟩
theorem erase_next {ms : List Mk} {k : Nat} {m : Mk} (h : ms[k]? = some m) : eraseM (ms.take (k + 1)) = eraseM (ms.take k) ++ (if m.s = 1 then [] else [m]) := by
  unfold eraseM
  rw [List.take_add_one, h, List.filter_append]
  by_cases e : m.s = 1 <;> simp [e]
theorem Tryd.infoRMk : (Tryd.prog.info? 50).map (fun i => (i.zero, i.size, i.bytes)) = some (some (.agg #[.int .i64 0, .string ⟨#[]⟩, .int .u64 0, .int .i64 0, .string ⟨#[]⟩]), 5, 56) := by kernel_rfl
set_option maxRecDepth 100000 in
set_option maxHeartbeats 4000000 in
theorem rerase_any (base l : Nat) (v : Value) (ms : List Mk) (w : World) (h : RfAt base l v ms w) (hn : ms.length ≤ 1025) :
    Calls Tryd.prog 10 #[.pointer (some ⟨l, 0, none⟩)] w fun e w' => e = .returned (.tuple #[]) ∧ (∃ v', RfAt base l v' (eraseM ms) w') ∧ RKept base w w' := by
  obtain ⟨a, c, rfl, hrd⟩ := h.rd
  obtain ⟨L, hL⟩ : ∃ L, ms.length = L := ⟨_, rfl⟩
  rw [hL] at hn
  have HL := Lib.hid hL
  have HR := Lib.hid hrd
  have H := Lib.hid h
  obtain ⟨i0, hi, hz0, hz1, hz2⟩ := info_parts Tryd.infoRMk
  clear hL hrd h
  go_enter Tryd.func10, Tryd.ntmps10
  go_wp2_with fail
  go_loopw [2, 3] (fun va vi wr => ∃ k : Nat, k ≤ L ∧ vi = .int .i64 (k : Int) ∧ wr.ownsRow w.heap.size 50 5 va (eraseM (ms.take k)).length (mkCells (eraseM (ms.take k))) ∧ Below w.heap.size w wr) (fun _ vi _ => L - (intOf vi).toNat)
  case atStart => exact ⟨0, Nat.zero_le _, rfl, World.ownsRow_nil _ _ _ _, Below.refl _ _⟩
  case round =>
    obtain ⟨k, hk, rfl, hrow, hb⟩ := hrel
    have hr2 := HR.out.later hb
    have c0 : wr.cell? ⟨l, 0, none⟩ = some (.slice a L c) := by rw [← HL.out]; exact hr2.blk.cell 0
    by_cases hlt : k < L
    · obtain ⟨m, hx⟩ : ∃ m, ms[k]? = some m := ⟨_, List.getElem?_eq_getElem (by have := HL.out; omega)⟩
      obtain ⟨g, off, rfl, hgl, p0, p1, p2, p3, p4⟩ := hr2.at' k m hx
      have b1 : (k : Int) < (L : Int) := by omega
      have b0 : (0 : Int) ≤ (k : Int) := by omega
      have hlen : (eraseM (ms.take k)).length ≤ k := by
        unfold eraseM
        exact Nat.le_trans (List.length_filter_le _ _) (by rw [List.length_take]; omega)
      have hnx := erase_next hx
      generalize eraseM (ms.take k) = out at hrow hlen hnx
      obtain ⟨va', vc', rfl⟩ := row_shape hrow
      have HNX := Lib.hid hnx
      have HROW := Lib.hid hrow
      have HB := Lib.hid hb
      clear hx hnx hrow hb hr2 hgl
      obtain ⟨u, y, r, s, d⟩ := m
      simp only at p0 p1 p2 p3 p4
      by_cases hs : s = 1
      · have h1 : (s == 1) = true := by rw [hs]; rfl
        have h2 : (s != 1) = false := by rw [hs]; rfl
        have HN := Lib.hid (show eraseM (ms.take (k + 1)) = out by rw [HNX.out, if_pos hs, List.append_nil])
        clear hs
        go_wp2_with fail
        go_roundw
        case rel => exact ⟨k + 1, by omega, by go_num, by rw [HN.out]; exact HROW.out, HB.out⟩
        case measure => simp [intOf]; omega
      · have h1 : (s == 1) = false := beq_eq_false_iff_ne.2 hs
        have h2 : (s != 1) = true := by rw [bne_iff_ne]; exact hs
        have HN := Lib.hid (show eraseM (ms.take (k + 1)) = out ++ [⟨u, y, r, s, d⟩] by rw [HNX.out, if_neg hs])
        clear hs
        go_wp2_with (at_builtin; go_must (refine wpList_append_own _ rfl _ _ 27 rfl w.heap.size 50 i0 _ 5 56 Tryd.underlying27 hi hz0 hz1 hz2 rfl (by omega) _ _ _ rfl (HROW.out.alloc _) ⟨wr.heap.size, 0, none⟩ 1 1 (mkCells [⟨u, y, r, s, d⟩]) rfl rfl (World.news_of_block (cs := #[.int .i64 u, .string y, .int .u64 (r : Int), .int .i64 s, .string d]) (t := 50) (fr := (0, 0)) (heap_alloc_new wr _)) (by simp [Value.oneCell', mkCells]) (by unfold maxLen; omega) (by omega) (by have := HB.out.size; simp; omega) ?_; intro v' w3 hown3 hgrow3 _))
        have HR3 := Lib.hid (show w3.ownsRow w.heap.size 50 5 v' (eraseM (ms.take (k + 1))).length (mkCells (eraseM (ms.take (k + 1)))) by rw [HN.out, mkCells_append, List.length_append]; exact hown3)
        have HB3 := Lib.hid ((HB.out.alloc HB.out.size (.cells #[.int .i64 u, .string y, .int .u64 (r : Int), .int .i64 s, .string d] 50)).grown hgrow3 (by have := HB.out.size; simp; omega) (fun j hj => (HROW.out.lt j hj).1))
        clear hown3 hgrow3 p0 p1 p2 p3 p4 c0
        go_wp2_with fail
        go_roundw
        case rel => exact ⟨k + 1, by omega, by go_num, HR3.out, HB3.out⟩
        case measure => simp [intOf]; omega
    · obtain rfl : k = L := by omega
      rw [List.take_of_length_le (by have := HL.out; omega)] at hrow
      obtain ⟨va', vc', rfl⟩ := row_shape hrow
      have hlr := hr2.blk
      rw [HL.out] at hlr
      have f0 : wr.frozen? ⟨l, 0, none⟩ = false := hlr.frozen 0
      have hturn := RfAt.turn (ms := ms) (base := base) (ms' := eraseM ms) hlr H.out.bl (own_less hrow H.out.hB) rfl
      have HT := Lib.hid (And.intro hturn.1 ((RKept.of (B := base) hb).trans hturn.2))
      clear hturn hlr hr2 hrow hb
      go_wp2_with fail
      go_end0
      exact ⟨rfl, ⟨_, HT.out.1⟩, HT.out.2⟩
end Go.Proofs.YtdaelapamkmcaaaDoor
