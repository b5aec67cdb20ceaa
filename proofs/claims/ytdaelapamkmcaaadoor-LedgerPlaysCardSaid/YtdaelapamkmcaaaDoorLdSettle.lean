/- ledger: settle (tools/ldsettle_gen.py). -/
import Derived.Test.YtdaelapamkmcaaaDoorLdDel
namespace Go.Proofs.YtdaelapamkmcaaaDoor
open Go.RowKit

structure SeS (l g : Nat) (w' : World) : Prop where
  lt : l < w'.heap.size
  ne : l ≠ g
abbrev SeT (l g L c : Nat) (w' : World) : Prop := w'.cell? ⟨l, 0, none⟩ = some (.slice (some ⟨g, 0, none⟩) L c) ∧ SeS l g w'
theorem SeT.next {l g L c : Nat} {w w' : World} (h : SeT l g L c w) (hb : Below w.heap.size w w') : SeT l g L c w' := ⟨(hb.cell (p := ⟨l, 0, none⟩) h.2.lt).trans h.1, Nat.lt_of_lt_of_le h.2.lt hb.size, h.2.ne⟩
theorem SeT.set {l g L c : Nat} {w : World} (h : SeT l g L c w) (j : Nat) (v : Value) : SeT l g L c (w.setCell ⟨g, j, none⟩ v) := by
  have hg := grown_set w g j v
  refine ⟨?_, Nat.lt_of_lt_of_le h.2.lt hg.size, h.2.ne⟩
  have : (w.setCell ⟨g, j, none⟩ v).heap[l]? = w.heap[l]? := hg.block l h.2.lt (fun e => h.2.ne (Option.some.inj e))
  rw [World.cell?_of_block (a := ⟨l, 0, none⟩) this]; exact h.1
theorem settle_next {p : Mk → Bool} {s : Int} {d : ByteArray} {ms : List Mk} {k : Nat} {m : Mk} (h : ms[k]? = some m) : settleM p s d (ms.take (k + 1)) = settleM p s d (ms.take k) ++ [if m.s = 1 ∧ p m = true then ⟨m.t, m.x, m.q, s, d⟩ else m] := by
  unfold settleM
  rw [List.take_add_one, h, List.map_append]
  rfl
theorem row_set2 {w : World} {base g n c i : Nat} {t : TypeId} {out : List Mk} {r : Mk} (h : w.ownsRow base t 5 (.slice (some ⟨g, 0, none⟩) n c) n (mkCells out)) (hr : out[i]? = some r) (s : Int) (d : ByteArray) :
    ((w.setCell ⟨g, i * 5 + 3, none⟩ (.int .i64 s)).setCell ⟨g, i * 5 + 4, none⟩ (.string d)).ownsRow base t 5 (.slice (some ⟨g, 0, none⟩) n c) n (mkCells (out.set i ⟨r.t, r.x, r.q, s, d⟩)) ∧ w.grownBy ((w.setCell ⟨g, i * 5 + 3, none⟩ (.int .i64 s)).setCell ⟨g, i * 5 + 4, none⟩ (.string d)) (some g) := by
  obtain ⟨hl, _⟩ := List.getElem?_eq_some_iff.1 hr
  obtain ⟨h4, g4⟩ := h.stored (i * 5 + 3) (.int .i64 s)
  obtain ⟨h5, g5⟩ := h4.stored (i * 5 + 4) (.string d)
  have e : mkCells (out.set i ⟨r.t, r.x, r.q, s, d⟩) = ((mkCells out).set (i * 5 + 3) (.int .i64 s)).set (i * 5 + 4) (.string d) := by
    rw [mkCells_set out i _ hl]
    have hg := mkCells_get out i r hr
    have f : ∀ (l : List Value) (j : Nat) (v : Value), l[j]? = some v → l.set j v = l := fun l j v hh => by
      obtain ⟨hj, rfl⟩ := List.getElem?_eq_some_iff.1 hh
      exact List.set_getElem_self hj
    rw [f (mkCells out) (i * 5) _ (by have := hg 0 (by omega); simpa using this), f (mkCells out) (i * 5 + 1) _ (hg 1 (by omega)), f (mkCells out) (i * 5 + 2) _ (hg 2 (by omega))]
  rw [e]
  exact ⟨h5, g4.trans g5⟩

theorem cells_34 {w : World} {base g L c k : Nat} {cs : List Mk} (h : w.ownsRow base 49 5 (.slice (some ⟨g, 0, none⟩) L c) L (mkCells cs)) (hk : (k : Int) < (L : Int)) :
    ∃ o3, w.cell? ⟨g, k * 5 + 3, none⟩ = some o3 ∧ ∃ o4, w.cell? ⟨g, k * 5 + 4, none⟩ = some o4 ∧ w.frozen? ⟨g, k * 5 + 3, none⟩ = false ∧ w.frozen? ⟨g, k * 5 + 4, none⟩ = false := by
  obtain ⟨g', cap', cur, hv, hbg, hblk, hnc, _, hsz, hcur⟩ := row_blk h (by omega)
  cases hv
  exact ⟨_, (hblk.cell (k * 5 + 3)).trans (Array.getElem?_eq_getElem (by rw [hsz]; omega)), _, (hblk.cell (k * 5 + 4)).trans (Array.getElem?_eq_getElem (by rw [hsz]; omega)), hblk.frozen _, hblk.frozen _⟩

set_option maxRecDepth 100000 in
set_option maxHeartbeats 4000000 in
theorem settle_upto (b : Nat) (t : Int) (x : ByteArray) (q : Nat) (f : Bool) (dd : ByteArray) (s : Int) (d : ByteArray) (base l : Nat) (v : Value) (ms : List Mk) (w : World) (hbx : StBx b t x q f dd w) (h : LdAt base l v ms w) (hLb : ms.length ≤ 1024) (hd : d.size ≤ 140737488355328) :
    Calls Tryd.prog 19 #[.pointer (some ⟨l, 0, none⟩), .func (.func 18) #[] #[.pointer (some ⟨b, 0, none⟩)], .int .i64 s, .string d] w fun e w' => e = .returned (.tuple #[]) ∧ LdAt base l v (settleM (fun m : Mk => keyM t x m && decide (m.q ≤ q)) s d ms) w' ∧ Kept base w w' := by
  obtain ⟨a, c, rfl, hrd⟩ := h.rd
  have c0 : w.cell? ⟨l, 0, none⟩ = some (.slice a ms.length c) := hrd.blk.cell 0
  obtain ⟨L, hL⟩ : ∃ L, ms.length = L := ⟨_, rfl⟩
  have HL := Lib.hid hL
  rw [hL] at c0 hLb
  obtain ⟨p, hp⟩ : ∃ p : Mk → Bool, (fun m : Mk => keyM t x m && decide (m.q ≤ q)) = p := ⟨_, rfl⟩
  rw [hp]
  have HP := Lib.hid (fun m => congrFun hp m)
  have hrow := h.row
  rw [hL] at hrow
  have H := Lib.hid h
  have HX := Lib.hid hbx
  have HD := Lib.hid hd
  clear hp hL h hbx hd hrd
  have hne := row_block H.out.row H.out.blk (by decide)
  have hneb := row_block H.out.row HX.out (by decide)
  rw [HL.out] at hne hneb
  have HNE := Lib.hid (And.intro hne hneb)
  have HROW := Lib.hid hrow
  clear hne hneb
  -- the end: the ledger's own cell is as it was
  have HEND := Lib.hid (fun (w' : World) (cs : List Mk) (hl : cs.length = L) (ho : w'.ownsRow base 49 5 (.slice a L c) L (mkCells cs)) (hg : w.grownBy w' (Value.slice a L c).ownBlock) =>
    (And.intro (LdAt.mk (base := base) (l := l) (v := .slice a ms.length c) (ms := cs) (w := w') (H.out.blk.kept hg (fun e => HNE.out.1 e.symm)) (by rw [HL.out, hl]; exact ho) H.out.bl) (Kept.row (B := base) H.out.row (Nat.le_refl _) (own_len hg))))
  go_enter Tryd.func19, Tryd.ntmps19
  go_wp2_with fail
  go_loopw [8, 9, 15] (fun _ _ vi wr => ∃ (k : Nat) (cs : List Mk), vi = .int .i64 (k : Int) ∧ k ≤ L ∧ cs.length = L ∧ cs = settleM p s d (ms.take k) ++ ms.drop k ∧ wr.ownsRow base 49 5 (.slice a L c) L (mkCells cs) ∧ w.grownBy wr (Value.slice a L c).ownBlock) (fun _ _ vi _ => L - (intOf vi).toNat)
  case atStart => exact ⟨0, ms, rfl, Nat.zero_le _, HL.out, rfl, hrow, grown_refl _ _⟩
  case round =>
    obtain ⟨k, cs, rfl, hk, hcl, hcs, hown, hgr⟩ := hrel
    by_cases hlt : k < L
    · obtain ⟨g, cap, cur, hv, hbg, hblk, hnc, hcm, hsz, hcur⟩ := row_blk hown (by omega)
      cases hv
      obtain ⟨m, hx⟩ : ∃ m, ms[k]? = some m := ⟨_, List.getElem?_eq_getElem (by have := HL.out; omega)⟩
      have hsl : (settleM p s d (ms.take k)).length = k := by rw [settleM_len, List.length_take, HL.out]; omega
      have hxc : cs[k]? = some m := by rw [hcs, List.getElem?_append_right (by omega), hsl, Nat.sub_self, List.getElem?_drop, Nat.add_zero, hx]
      have hMA := mksAt_row (by rw [hcl]; exact hown)
      obtain ⟨g2, off2, ha, hgl, p0, p1, p2, p3, p4⟩ := hMA k m hxc
      simp only [Option.some.injEq, Addr.mk.injEq, and_true] at ha
      obtain ⟨rfl, rfl⟩ := ha
      rw [Nat.zero_add] at p0 p1 p2 p3 p4
      have b1 : (k : Int) < (L : Int) := by omega
      have b0 : (0 : Int) ≤ (k : Int) := by omega
      obtain ⟨w2, hw2⟩ : ∃ w2, wr.alloc (.cells (mkArr m) 49) = w2 := ⟨_, rfl⟩
      have hb2 : Below wr.heap.size wr w2 := by rw [← hw2]; exact (Below.refl _ _).alloc (Nat.le_refl _) _
      have q2 : Blk w2 wr.heap.size (mkArr m) 49 := by rw [← hw2]; exact Blk.new _ _ _
      have hgr2 := grown_later hgr hb2
      have y0 : w2.cell? ⟨wr.heap.size, 0, none⟩ = some (.int .i64 m.t) := q2.cell 0
      have y1 : w2.cell? ⟨wr.heap.size, 1, none⟩ = some (.string m.x) := q2.cell 1
      have y2 : w2.cell? ⟨wr.heap.size, 2, none⟩ = some (.int .u64 (m.q : Int)) := q2.cell 2
      have y3 : w2.cell? ⟨wr.heap.size, 3, none⟩ = some (.int .i64 m.s) := q2.cell 3
      have y4 : w2.cell? ⟨wr.heap.size, 4, none⟩ = some (.string m.d) := q2.cell 4
      have HW2 := Lib.hid hw2
      have HQ2 := Lib.hid q2
      have HO2 := Lib.hid (own_below hown hb2)
      have HG2 := Lib.hid hgr2
      have HC := Lib.hid (And.intro hcl (And.intro hcs (And.intro hsl (And.intro hx hxc))))
      have HPE := Lib.hid (pending_any m w2)
      clear hw2 q2 hb2 hown hgr hgr2 hcl hcs hsl hx hxc hMA hblk hsz hcur hnc hcm hbg hgl
      obtain ⟨P, hP⟩ : ∃ P, decide (m.s = 1) = P := ⟨_, rfl⟩
      rw [hP] at HPE
      have HPP := Lib.hid hP
      clear hP
      go_wp2_with (rw [HW2.out])
      refine HPE.out.mono ?_
      rintro e w3 ⟨rfl, hb3⟩
      have q3 := HQ2.out.later hb3
      have ho3 := own_below HO2.out hb3
      have hg3 := grown_later HG2.out hb3
      have x0 : w3.cell? ⟨wr.heap.size, 0, none⟩ = some (.int .i64 m.t) := q3.cell 0
      have x1 : w3.cell? ⟨wr.heap.size, 1, none⟩ = some (.string m.x) := q3.cell 1
      have x2 : w3.cell? ⟨wr.heap.size, 2, none⟩ = some (.int .u64 (m.q : Int)) := q3.cell 2
      have x3 : w3.cell? ⟨wr.heap.size, 3, none⟩ = some (.int .i64 m.s) := q3.cell 3
      have x4 : w3.cell? ⟨wr.heap.size, 4, none⟩ = some (.string m.d) := q3.cell 4
      have hm := note1_any b t x q f dd m w3 (HX.out.kept hg3 (fun e => HNE.out.2 e.symm))
      rw [HP.out m] at hm
      have HM := Lib.hid hm
      have HO3 := Lib.hid ho3
      have HG3 := Lib.hid hg3
      clear hb3 y0 y1 y2 y3 y4 hm ho3 hg3 q3 p0 p1 p2 p3 p4 HPE HW2 HQ2 HO2 HG2
      cases P with
      | false =>
        have HSM := Lib.hid (show (if m.s = 1 ∧ p m = true then (⟨m.t, m.x, m.q, s, d⟩ : Mk) else m) = m from if_neg (fun h => (of_decide_eq_false HPP.out) h.1))
        go_wp2_with fail
        go_roundw
        case rel =>
          refine ⟨k + 1, cs, by go_num, by omega, HC.out.1, ?_, HO3.out, HG3.out⟩
          rw [settle_next HC.out.2.2.2.1, HSM.out, List.append_assoc, HC.out.2.1]
          congr 1
          have := List.drop_eq_getElem?_toList_append (l := ms) (i := k)
          rw [this, HC.out.2.2.2.1]; rfl
        case measure => simp [intOf]; omega
      | true =>
        obtain ⟨Q, hQ⟩ : ∃ Q, p m = Q := ⟨_, rfl⟩
        rw [hQ] at HM
        have HQQ := Lib.hid hQ
        clear hQ
        go_wp2_with fail
        refine HM.out.mono ?_
        rintro e w4 ⟨rfl, hb4⟩
        have ho4 := own_below HO3.out hb4
        have hg4 := grown_later HG3.out hb4
        have HO4 := Lib.hid ho4
        have HG4 := Lib.hid hg4
        clear hb4 x0 x1 x2 x3 x4 HO3 HG3 HM
        cases Q with
        | false =>
          have HSM := Lib.hid (show (if m.s = 1 ∧ p m = true then (⟨m.t, m.x, m.q, s, d⟩ : Mk) else m) = m from if_neg (fun h => by rw [HQQ.out] at h; exact absurd h.2 (by decide)))
          clear ho4 hg4
          go_wp2_with fail
          go_roundw
          case rel =>
            refine ⟨k + 1, cs, by go_num, by omega, HC.out.1, ?_, HO4.out, HG4.out⟩
            rw [settle_next HC.out.2.2.2.1, HSM.out, List.append_assoc, HC.out.2.1]
            congr 1
            have := List.drop_eq_getElem?_toList_append (l := ms) (i := k)
            rw [this, HC.out.2.2.2.1]; rfl
          case measure => simp [intOf]; omega
        | true =>
          have HSM := Lib.hid (show (if m.s = 1 ∧ p m = true then (⟨m.t, m.x, m.q, s, d⟩ : Mk) else m) = ⟨m.t, m.x, m.q, s, d⟩ from if_pos ⟨of_decide_eq_true HPP.out, HQQ.out⟩)
          have hend := HEND.out w4 cs HC.out.1 ho4 hg4
          have hw4 : Below w4.heap.size w4 w4.drew := (Below.refl _ _).drew
          have ST : SeT l g L c w4 := ⟨by have := hend.1.blk.cell 0; rw [HL.out] at this; exact this, hend.1.blk.lt, fun e => HNE.out.1 (by rw [e]; rfl)⟩
          have ST2 : SeT l g L c w4.drew := ST.next hw4
          have HW4 := Lib.hid hw4
          clear hend hg4 ST ho4 hw4
          go_wp2_with fail
          go_region_held3 (fun w' => w'.cell? ⟨l, 0, none⟩ = some (.slice (some ⟨g, 0, none⟩) L c) ∧ SeS l g w') (with_reducible first | exact ST2 | exact SeT.next (by assumption) (by assumption) | exact SeT.set (by assumption) _ _ | go_keep) ((go_at_call 40; refine (clone_any _ _ HD.out).mono ?_; rintro e wC ⟨rfl, hbC⟩; obtain ⟨o3, z3, o4, z4, f3, f4⟩ := cells_34 (own_below (own_below HO4.out HW4.out) hbC) b1))
          rename_i hH
          have hrs := row_set2 (own_below (own_below HO4.out HW4.out) hbC) HC.out.2.2.2.2 s d
          have HRS := Lib.hid (And.intro hrs.1 ((grown_later (grown_later HG4.out HW4.out) hbC).trans hrs.2))
          clear hH hrs ST2 hbC z3 z4 f3 f4
          go_wp2_with fail
          go_roundw
          case rel =>
            refine ⟨k + 1, cs.set k ⟨m.t, m.x, m.q, s, d⟩, by go_num, by omega, by rw [List.length_set]; exact HC.out.1, ?_, HRS.out.1, HRS.out.2⟩
            rw [settle_next HC.out.2.2.2.1, HSM.out, List.append_assoc]
            have e := HC.out.2.1
            have e2 : cs.set k ⟨m.t, m.x, m.q, s, d⟩ = cs.take k ++ ⟨m.t, m.x, m.q, s, d⟩ :: cs.drop (k + 1) := by rw [List.set_eq_take_append_cons_drop, if_pos (by rw [HC.out.1]; exact hlt)]
            rw [e2, e, List.take_left' HC.out.2.2.1]
            congr 2
            rw [List.drop_append, HC.out.2.2.1, List.drop_of_length_le (by rw [HC.out.2.2.1]; omega), List.nil_append, List.drop_drop]
            congr 1
            omega
          case measure => simp [intOf]; omega
    · obtain rfl : k = L := by omega
      have hfin := HEND.out wr cs hcl hown hgr
      have hcs2 : cs = settleM p s d ms := by rw [hcs, List.take_of_length_le (by have := HL.out; omega), List.drop_of_length_le (by have := HL.out; omega), List.append_nil]
      rw [hcs2] at hfin
      have HF := Lib.hid hfin
      clear hfin hcs2 hcs hcl hown hgr
      go_wp2_with fail
      go_end0
      exact ⟨rfl, HF.out.1, HF.out.2⟩

set_option maxRecDepth 100000 in
set_option maxHeartbeats 4000000 in
theorem settle_alone (b : Nat) (t : Int) (x : ByteArray) (q : Nat) (f : Bool) (dd : ByteArray) (s : Int) (d : ByteArray) (base l : Nat) (v : Value) (ms : List Mk) (w : World) (hbx : StBx b t x q f dd w) (h : LdAt base l v ms w) (hLb : ms.length ≤ 1024) (hd : d.size ≤ 140737488355328) :
    Calls Tryd.prog 19 #[.pointer (some ⟨l, 0, none⟩), .func (.func 20) #[] #[.pointer (some ⟨b, 0, none⟩)], .int .i64 s, .string d] w fun e w' => e = .returned (.tuple #[]) ∧ LdAt base l v (settleM (fun m : Mk => keyM t x m && decide (m.q = q)) s d ms) w' ∧ Kept base w w' := by
  obtain ⟨a, c, rfl, hrd⟩ := h.rd
  have c0 : w.cell? ⟨l, 0, none⟩ = some (.slice a ms.length c) := hrd.blk.cell 0
  obtain ⟨L, hL⟩ : ∃ L, ms.length = L := ⟨_, rfl⟩
  have HL := Lib.hid hL
  rw [hL] at c0 hLb
  obtain ⟨p, hp⟩ : ∃ p : Mk → Bool, (fun m : Mk => keyM t x m && decide (m.q = q)) = p := ⟨_, rfl⟩
  rw [hp]
  have HP := Lib.hid (fun m => congrFun hp m)
  have hrow := h.row
  rw [hL] at hrow
  have H := Lib.hid h
  have HX := Lib.hid hbx
  have HD := Lib.hid hd
  clear hp hL h hbx hd hrd
  have hne := row_block H.out.row H.out.blk (by decide)
  have hneb := row_block H.out.row HX.out (by decide)
  rw [HL.out] at hne hneb
  have HNE := Lib.hid (And.intro hne hneb)
  have HROW := Lib.hid hrow
  clear hne hneb
  -- the end: the ledger's own cell is as it was
  have HEND := Lib.hid (fun (w' : World) (cs : List Mk) (hl : cs.length = L) (ho : w'.ownsRow base 49 5 (.slice a L c) L (mkCells cs)) (hg : w.grownBy w' (Value.slice a L c).ownBlock) =>
    (And.intro (LdAt.mk (base := base) (l := l) (v := .slice a ms.length c) (ms := cs) (w := w') (H.out.blk.kept hg (fun e => HNE.out.1 e.symm)) (by rw [HL.out, hl]; exact ho) H.out.bl) (Kept.row (B := base) H.out.row (Nat.le_refl _) (own_len hg))))
  go_enter Tryd.func19, Tryd.ntmps19
  go_wp2_with fail
  go_loopw [8, 9, 15] (fun _ _ vi wr => ∃ (k : Nat) (cs : List Mk), vi = .int .i64 (k : Int) ∧ k ≤ L ∧ cs.length = L ∧ cs = settleM p s d (ms.take k) ++ ms.drop k ∧ wr.ownsRow base 49 5 (.slice a L c) L (mkCells cs) ∧ w.grownBy wr (Value.slice a L c).ownBlock) (fun _ _ vi _ => L - (intOf vi).toNat)
  case atStart => exact ⟨0, ms, rfl, Nat.zero_le _, HL.out, rfl, hrow, grown_refl _ _⟩
  case round =>
    obtain ⟨k, cs, rfl, hk, hcl, hcs, hown, hgr⟩ := hrel
    by_cases hlt : k < L
    · obtain ⟨g, cap, cur, hv, hbg, hblk, hnc, hcm, hsz, hcur⟩ := row_blk hown (by omega)
      cases hv
      obtain ⟨m, hx⟩ : ∃ m, ms[k]? = some m := ⟨_, List.getElem?_eq_getElem (by have := HL.out; omega)⟩
      have hsl : (settleM p s d (ms.take k)).length = k := by rw [settleM_len, List.length_take, HL.out]; omega
      have hxc : cs[k]? = some m := by rw [hcs, List.getElem?_append_right (by omega), hsl, Nat.sub_self, List.getElem?_drop, Nat.add_zero, hx]
      have hMA := mksAt_row (by rw [hcl]; exact hown)
      obtain ⟨g2, off2, ha, hgl, p0, p1, p2, p3, p4⟩ := hMA k m hxc
      simp only [Option.some.injEq, Addr.mk.injEq, and_true] at ha
      obtain ⟨rfl, rfl⟩ := ha
      rw [Nat.zero_add] at p0 p1 p2 p3 p4
      have b1 : (k : Int) < (L : Int) := by omega
      have b0 : (0 : Int) ≤ (k : Int) := by omega
      obtain ⟨w2, hw2⟩ : ∃ w2, wr.alloc (.cells (mkArr m) 49) = w2 := ⟨_, rfl⟩
      have hb2 : Below wr.heap.size wr w2 := by rw [← hw2]; exact (Below.refl _ _).alloc (Nat.le_refl _) _
      have q2 : Blk w2 wr.heap.size (mkArr m) 49 := by rw [← hw2]; exact Blk.new _ _ _
      have hgr2 := grown_later hgr hb2
      have y0 : w2.cell? ⟨wr.heap.size, 0, none⟩ = some (.int .i64 m.t) := q2.cell 0
      have y1 : w2.cell? ⟨wr.heap.size, 1, none⟩ = some (.string m.x) := q2.cell 1
      have y2 : w2.cell? ⟨wr.heap.size, 2, none⟩ = some (.int .u64 (m.q : Int)) := q2.cell 2
      have y3 : w2.cell? ⟨wr.heap.size, 3, none⟩ = some (.int .i64 m.s) := q2.cell 3
      have y4 : w2.cell? ⟨wr.heap.size, 4, none⟩ = some (.string m.d) := q2.cell 4
      have HW2 := Lib.hid hw2
      have HQ2 := Lib.hid q2
      have HO2 := Lib.hid (own_below hown hb2)
      have HG2 := Lib.hid hgr2
      have HC := Lib.hid (And.intro hcl (And.intro hcs (And.intro hsl (And.intro hx hxc))))
      have HPE := Lib.hid (pending_any m w2)
      clear hw2 q2 hb2 hown hgr hgr2 hcl hcs hsl hx hxc hMA hblk hsz hcur hnc hcm hbg hgl
      obtain ⟨P, hP⟩ : ∃ P, decide (m.s = 1) = P := ⟨_, rfl⟩
      rw [hP] at HPE
      have HPP := Lib.hid hP
      clear hP
      go_wp2_with (rw [HW2.out])
      refine HPE.out.mono ?_
      rintro e w3 ⟨rfl, hb3⟩
      have q3 := HQ2.out.later hb3
      have ho3 := own_below HO2.out hb3
      have hg3 := grown_later HG2.out hb3
      have x0 : w3.cell? ⟨wr.heap.size, 0, none⟩ = some (.int .i64 m.t) := q3.cell 0
      have x1 : w3.cell? ⟨wr.heap.size, 1, none⟩ = some (.string m.x) := q3.cell 1
      have x2 : w3.cell? ⟨wr.heap.size, 2, none⟩ = some (.int .u64 (m.q : Int)) := q3.cell 2
      have x3 : w3.cell? ⟨wr.heap.size, 3, none⟩ = some (.int .i64 m.s) := q3.cell 3
      have x4 : w3.cell? ⟨wr.heap.size, 4, none⟩ = some (.string m.d) := q3.cell 4
      have hm := note2_any b t x q f dd m w3 (HX.out.kept hg3 (fun e => HNE.out.2 e.symm))
      rw [HP.out m] at hm
      have HM := Lib.hid hm
      have HO3 := Lib.hid ho3
      have HG3 := Lib.hid hg3
      clear hb3 y0 y1 y2 y3 y4 hm ho3 hg3 q3 p0 p1 p2 p3 p4 HPE HW2 HQ2 HO2 HG2
      cases P with
      | false =>
        have HSM := Lib.hid (show (if m.s = 1 ∧ p m = true then (⟨m.t, m.x, m.q, s, d⟩ : Mk) else m) = m from if_neg (fun h => (of_decide_eq_false HPP.out) h.1))
        go_wp2_with fail
        go_roundw
        case rel =>
          refine ⟨k + 1, cs, by go_num, by omega, HC.out.1, ?_, HO3.out, HG3.out⟩
          rw [settle_next HC.out.2.2.2.1, HSM.out, List.append_assoc, HC.out.2.1]
          congr 1
          have := List.drop_eq_getElem?_toList_append (l := ms) (i := k)
          rw [this, HC.out.2.2.2.1]; rfl
        case measure => simp [intOf]; omega
      | true =>
        obtain ⟨Q, hQ⟩ : ∃ Q, p m = Q := ⟨_, rfl⟩
        rw [hQ] at HM
        have HQQ := Lib.hid hQ
        clear hQ
        go_wp2_with fail
        refine HM.out.mono ?_
        rintro e w4 ⟨rfl, hb4⟩
        have ho4 := own_below HO3.out hb4
        have hg4 := grown_later HG3.out hb4
        have HO4 := Lib.hid ho4
        have HG4 := Lib.hid hg4
        clear hb4 x0 x1 x2 x3 x4 HO3 HG3 HM
        cases Q with
        | false =>
          have HSM := Lib.hid (show (if m.s = 1 ∧ p m = true then (⟨m.t, m.x, m.q, s, d⟩ : Mk) else m) = m from if_neg (fun h => by rw [HQQ.out] at h; exact absurd h.2 (by decide)))
          clear ho4 hg4
          go_wp2_with fail
          go_roundw
          case rel =>
            refine ⟨k + 1, cs, by go_num, by omega, HC.out.1, ?_, HO4.out, HG4.out⟩
            rw [settle_next HC.out.2.2.2.1, HSM.out, List.append_assoc, HC.out.2.1]
            congr 1
            have := List.drop_eq_getElem?_toList_append (l := ms) (i := k)
            rw [this, HC.out.2.2.2.1]; rfl
          case measure => simp [intOf]; omega
        | true =>
          have HSM := Lib.hid (show (if m.s = 1 ∧ p m = true then (⟨m.t, m.x, m.q, s, d⟩ : Mk) else m) = ⟨m.t, m.x, m.q, s, d⟩ from if_pos ⟨of_decide_eq_true HPP.out, HQQ.out⟩)
          have hend := HEND.out w4 cs HC.out.1 ho4 hg4
          have hw4 : Below w4.heap.size w4 w4.drew := (Below.refl _ _).drew
          have ST : SeT l g L c w4 := ⟨by have := hend.1.blk.cell 0; rw [HL.out] at this; exact this, hend.1.blk.lt, fun e => HNE.out.1 (by rw [e]; rfl)⟩
          have ST2 : SeT l g L c w4.drew := ST.next hw4
          have HW4 := Lib.hid hw4
          clear hend hg4 ST ho4 hw4
          go_wp2_with fail
          go_region_held3 (fun w' => w'.cell? ⟨l, 0, none⟩ = some (.slice (some ⟨g, 0, none⟩) L c) ∧ SeS l g w') (with_reducible first | exact ST2 | exact SeT.next (by assumption) (by assumption) | exact SeT.set (by assumption) _ _ | go_keep) ((go_at_call 40; refine (clone_any _ _ HD.out).mono ?_; rintro e wC ⟨rfl, hbC⟩; obtain ⟨o3, z3, o4, z4, f3, f4⟩ := cells_34 (own_below (own_below HO4.out HW4.out) hbC) b1))
          rename_i hH
          have hrs := row_set2 (own_below (own_below HO4.out HW4.out) hbC) HC.out.2.2.2.2 s d
          have HRS := Lib.hid (And.intro hrs.1 ((grown_later (grown_later HG4.out HW4.out) hbC).trans hrs.2))
          clear hH hrs ST2 hbC z3 z4 f3 f4
          go_wp2_with fail
          go_roundw
          case rel =>
            refine ⟨k + 1, cs.set k ⟨m.t, m.x, m.q, s, d⟩, by go_num, by omega, by rw [List.length_set]; exact HC.out.1, ?_, HRS.out.1, HRS.out.2⟩
            rw [settle_next HC.out.2.2.2.1, HSM.out, List.append_assoc]
            have e := HC.out.2.1
            have e2 : cs.set k ⟨m.t, m.x, m.q, s, d⟩ = cs.take k ++ ⟨m.t, m.x, m.q, s, d⟩ :: cs.drop (k + 1) := by rw [List.set_eq_take_append_cons_drop, if_pos (by rw [HC.out.1]; exact hlt)]
            rw [e2, e, List.take_left' HC.out.2.2.1]
            congr 2
            rw [List.drop_append, HC.out.2.2.1, List.drop_of_length_le (by rw [HC.out.2.2.1]; omega), List.nil_append, List.drop_drop]
            congr 1
            omega
          case measure => simp [intOf]; omega
    · obtain rfl : k = L := by omega
      have hfin := HEND.out wr cs hcl hown hgr
      have hcs2 : cs = settleM p s d ms := by rw [hcs, List.take_of_length_le (by have := HL.out; omega), List.drop_of_length_le (by have := HL.out; omega), List.append_nil]
      rw [hcs2] at hfin
      have HF := Lib.hid hfin
      clear hfin hcs2 hcs hcl hown hgr
      go_wp2_with fail
      go_end0
      exact ⟨rfl, HF.out.1, HF.out.2⟩
end Go.Proofs.YtdaelapamkmcaaaDoor
