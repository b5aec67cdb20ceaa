/- ledger's reference: Note. ledger's reference: Note's walks. ledger's reference: cut (tools/lrcut_gen.py). ledger's reference: cut. ledger's reference: Begin. ledger's reference: Begin, whole. -/
import Derived.Test.YtdaelapamkmcaaaDoorLrOpM
import Derived.Test.YtdaelapamkmcaaaDoorLrStat
import Derived.Deep.RegionWith
namespace Go.Proofs.YtdaelapamkmcaaaDoor
open Go.RowKit

/-- What is Pending has no Detail. -/
def PdM (ms : List Mk) : Prop := ∀ m ∈ ms, m.s = 1 → m.d = ⟨#[]⟩
theorem settle_eq {p q : Mk → Bool} {s : Int} {d : ByteArray} {ms : List Mk} (h : ∀ m ∈ ms, p m = q m) : settleM p s d ms = settleM q s d ms := by
  unfold settleM
  apply List.map_congr_left
  intro m hm
  rw [h m hm]
/-- Of marks that stand so just one is of a version. -/
theorem settle_one {t : Int} {x : ByteArray} {q : Nat} {ms : List Mk} (hs : Srt ms) {k : Nat} {m : Mk} (hx : ms[k]? = some m) (ht : m.t = t) (hxx : m.x = x) (hq : m.q = q) (s : Int) (d : ByteArray) :
    settleM (fun m => keyM t x m && decide (m.q = q)) s d ms = if m.s = 1 then ms.set k ⟨m.t, m.x, m.q, s, d⟩ else ms := by
  obtain ⟨hk, rfl⟩ := List.getElem?_eq_some_iff.1 hx
  have hone : ∀ i (hi : i < ms.length), (keyM t x ms[i] && decide (ms[i].q = q)) = decide (i = k) := by
    intro i hi
    by_cases e : i = k
    · subst e
      rw [decide_eq_true rfl, keyM_iff.2 ⟨ht, hxx⟩, decide_eq_true hq]; rfl
    · rw [decide_eq_false e]
      cases hb : (keyM t x ms[i] && decide (ms[i].q = q)) with
      | false => rfl
      | true =>
        rw [Bool.and_eq_true, keyM_iff, decide_eq_true_eq] at hb
        have h1 := findM_at hs (List.getElem_mem hi) hb.1.1 hb.1.2 hb.2
        have h2 := findM_at hs (List.getElem_mem hk) ht hxx hq
        rw [h1] at h2
        rcases Nat.lt_or_gt_of_ne e with h3 | h3
        · have := hs.lt (List.getElem?_eq_getElem hi) (List.getElem?_eq_getElem hk) h3
          rw [Option.some.inj h2] at this
          have h0 := ordM_zero (t := ms[k].t) (x := ms[k].x) (q := ms[k].q) (m := ms[k]) |>.2 ⟨rfl, rfl, rfl⟩
          omega
        · have := hs.lt (List.getElem?_eq_getElem hk) (List.getElem?_eq_getElem hi) h3
          rw [Option.some.inj h2] at this
          have h0 := ordM_zero (t := ms[k].t) (x := ms[k].x) (q := ms[k].q) (m := ms[k]) |>.2 ⟨rfl, rfl, rfl⟩
          omega
  unfold settleM
  apply List.ext_getElem
  · split <;> simp
  · intro i h1 h2
    rw [List.length_map] at h1
    rw [List.getElem_map]
    show (if ms[i].s = 1 ∧ (keyM t x ms[i] && decide (ms[i].q = q)) = true then (⟨ms[i].t, ms[i].x, ms[i].q, s, d⟩ : Mk) else ms[i]) = _
    rw [hone i h1]
    by_cases e : i = k
    · subst e
      by_cases hs1 : ms[i].s = 1
      · rw [if_pos ⟨hs1, decide_eq_true rfl⟩]
        simp only [hs1, if_true]
        rw [List.getElem_set_self]
      · rw [if_neg (fun h => hs1 h.1)]
        simp only [hs1, if_false]
    · rw [if_neg (fun h => e (of_decide_eq_true h.2))]
      by_cases hs1 : ms[k].s = 1
      · simp only [hs1, if_true]
        rw [List.getElem_set_ne (fun h => e h.symm)]
      · simp only [hs1, if_false]
theorem pd_beg {t : Int} {x : ByteArray} {q : Nat} {ms : List Mk} (h : PdM ms) : PdM (begM t x q ms) := by
  unfold begM
  split
  · exact h
  · split
    · exact h
    · have hi : PdM (insM (posM t x q ms) ⟨t, x, q, 1, ⟨#[]⟩⟩ ms) := fun m hm hs => by
        rcases insM_mem.1 hm with rfl | hm
        · rfl
        · exact h m hm hs
      unfold fullM
      split
      · exact fun m hm hs => hi m (List.mem_filter.1 hm).1 hs
      · exact hi
theorem pd_note {r : St} {ms : List Mk} (h : PdM ms) : PdM (noteR r ms) := by
  unfold noteR noteM
  have hset : ∀ (p : Mk → Bool) (s : Int) (d : ByteArray), s ≠ 1 → PdM (settleM p s d ms) := fun p s d hs m hm h1 => by
    unfold settleM at hm
    obtain ⟨m0, h0, rfl⟩ := List.mem_map.1 hm
    split at h1
    · exact absurd h1 hs
    · rename_i hc
      rw [if_neg hc]
      exact h m0 h0 h1
  split
  · split
    · split
      · exact hset _ 2 _ (by decide)
      · exact hset _ 3 _ (by decide)
    · exact h
  · exact h
theorem pd_erase {ms : List Mk} (h : PdM ms) : PdM (eraseM ms) := fun m hm hs => h m (List.mem_filter.1 hm).1 hs
end Go.Proofs.YtdaelapamkmcaaaDoor
namespace Go.Proofs.YtdaelapamkmcaaaDoor
open Go.RowKit

theorem row_set3 {w : World} {base g n c i : Nat} {t : TypeId} {out : List Mk} {r : Mk} (h : w.ownsRow base t 5 (.slice (some ⟨g, 0, none⟩) n c) n (mkCells out)) (hr : out[i]? = some r) (s : Int) :
    (w.setCell ⟨g, i * 5 + 3, none⟩ (.int .i64 s)).ownsRow base t 5 (.slice (some ⟨g, 0, none⟩) n c) n (mkCells (out.set i ⟨r.t, r.x, r.q, s, r.d⟩)) ∧ w.grownBy (w.setCell ⟨g, i * 5 + 3, none⟩ (.int .i64 s)) (some g) := by
  obtain ⟨hl, _⟩ := List.getElem?_eq_some_iff.1 hr
  obtain ⟨h4, g4⟩ := h.stored (i * 5 + 3) (.int .i64 s)
  have e : mkCells (out.set i ⟨r.t, r.x, r.q, s, r.d⟩) = ((mkCells out).set (i * 5 + 3) (.int .i64 s)) := by
    rw [mkCells_set out i _ hl]
    have hg := mkCells_get out i r hr
    have f : ∀ (l : List Value) (j : Nat) (v : Value), l[j]? = some v → l.set j v = l := fun l j v hh => by
      obtain ⟨hj, rfl⟩ := List.getElem?_eq_some_iff.1 hh
      exact List.set_getElem_self hj
    rw [f (mkCells out) (i * 5) _ (by have := hg 0 (by omega); simpa using this), f (mkCells out) (i * 5 + 1) _ (hg 1 (by omega)), f (mkCells out) (i * 5 + 2) _ (hg 2 (by omega))]
    exact f _ (i * 5 + 4) _ (by rw [List.getElem?_set_ne (by omega)]; exact hg 4 (by omega))
  rw [e]
  exact ⟨h4, g4⟩
theorem cells_34T {T : TypeId} {w : World} {base g L c k : Nat} {cs : List Mk} (h : w.ownsRow base T 5 (.slice (some ⟨g, 0, none⟩) L c) L (mkCells cs)) (hk : (k : Int) < (L : Int)) :
    ∃ o3, w.cell? ⟨g, k * 5 + 3, none⟩ = some o3 ∧ ∃ o4, w.cell? ⟨g, k * 5 + 4, none⟩ = some o4 ∧ w.frozen? ⟨g, k * 5 + 3, none⟩ = false ∧ w.frozen? ⟨g, k * 5 + 4, none⟩ = false := by
  obtain ⟨g', cap', cur, hv, hbg, hblk, hnc, _, hsz, hcur⟩ := row_blk h (by omega)
  cases hv
  exact ⟨_, (hblk.cell (k * 5 + 3)).trans (Array.getElem?_eq_getElem (by rw [hsz]; omega)), _, (hblk.cell (k * 5 + 4)).trans (Array.getElem?_eq_getElem (by rw [hsz]; omega)), hblk.frozen _, hblk.frozen _⟩
set_option maxRecDepth 100000 in
set_option maxHeartbeats 4000000 in
theorem rnote_wrong (t : Int) (x : ByteArray) (q : Nat) (f : Bool) (d : ByteArray) (base l : Nat) (v : Value) (ms : List Mk) (w : World) (hx : x.size ≤ maxLen) (hq : q < 2 ^ 64) (hn : ms.length ≤ 1025) (h : RfAt base l v ms w) (hok : (⟨t, x, q, f, d⟩ : St).ok = false) :
    Calls Tryd.prog 8 #[.pointer (some ⟨l, 0, none⟩), (⟨t, x, q, f, d⟩ : St).v] w fun e w' => e = .returned (.int .i64 1) ∧ RfAt base l v ms w' ∧ RKept base w w' := by
  obtain ⟨w1, hw1⟩ : ∃ w1, w.alloc (.cells #[.int .i64 t, .string x, .int .u64 (q : Int), .bool f, .string d] 41) = w1 := ⟨_, rfl⟩
  have hb1 : Below w.heap.size w w1 := by rw [← hw1]; exact (Below.refl _ _).alloc (Nat.le_refl _) _
  have q1 : Blk w1 w.heap.size #[.int .i64 t, .string x, .int .u64 (q : Int), .bool f, .string d] 41 := by rw [← hw1]; exact Blk.new _ _ _
  have y0 : w1.cell? ⟨w.heap.size, 0, none⟩ = some (.int .i64 t) := q1.cell 0
  have y1 : w1.cell? ⟨w.heap.size, 1, none⟩ = some (.string x) := q1.cell 1
  have y2 : w1.cell? ⟨w.heap.size, 2, none⟩ = some (.int .u64 (q : Int)) := q1.cell 2
  have y3 : w1.cell? ⟨w.heap.size, 3, none⟩ = some (.bool f) := q1.cell 3
  have y4 : w1.cell? ⟨w.heap.size, 4, none⟩ = some (.string d) := q1.cell 4
  have hps := rput5_any ⟨t, x, q, f, d⟩ w1 hx hq
  obtain ⟨a, c, rfl, hrd⟩ := h.rd
  have hfi := fun W (hb : Below w1.heap.size w1 W) => rfind_any l c a t x q ms W ((hrd.later hb1).later hb) hn
  obtain ⟨L, hL⟩ : ∃ L, ms.length = L := ⟨_, rfl⟩
  have HL := Lib.hid hL
  have H := Lib.hid (h.later hb1)
  have HW1 := Lib.hid hw1
  have HB1 := Lib.hid hb1
  have HQ1 := Lib.hid q1
  rw [hok] at hps
  have HPS := Lib.hid hps
  clear hps hfi hrd hL hw1 hb1 q1 hx hq hok h
  go_enter Tryd.func8, Tryd.ntmps8
  go_wp2_with (rw [HW1.out])
  refine HPS.out.mono ?_
  rintro e w2 ⟨⟨X, rfl⟩, hb2⟩
  have H2 := Lib.hid (And.intro (H.out.later hb2) (RKept.of (B := base) (HB1.out.trans (hb2.mono HB1.out.size))))
  clear hb2
  go_wp2_with fail
  go_ret
  exact ⟨rfl, H2.out.1, H2.out.2⟩
set_option maxRecDepth 100000 in
set_option maxHeartbeats 4000000 in
theorem rnote_none (t : Int) (x : ByteArray) (q : Nat) (f : Bool) (d : ByteArray) (base l : Nat) (v : Value) (ms : List Mk) (w : World) (hx : x.size ≤ maxLen) (hq : q < 2 ^ 64) (hn : ms.length ≤ 1025) (h : RfAt base l v ms w) (hok : (⟨t, x, q, f, d⟩ : St).ok = true) (hv : rposM t x q ms = -1) :
    Calls Tryd.prog 8 #[.pointer (some ⟨l, 0, none⟩), (⟨t, x, q, f, d⟩ : St).v] w fun e w' => e = .returned (.int .i64 5) ∧ RfAt base l v ms w' ∧ RKept base w w' := by
  obtain ⟨w1, hw1⟩ : ∃ w1, w.alloc (.cells #[.int .i64 t, .string x, .int .u64 (q : Int), .bool f, .string d] 41) = w1 := ⟨_, rfl⟩
  have hb1 : Below w.heap.size w w1 := by rw [← hw1]; exact (Below.refl _ _).alloc (Nat.le_refl _) _
  have q1 : Blk w1 w.heap.size #[.int .i64 t, .string x, .int .u64 (q : Int), .bool f, .string d] 41 := by rw [← hw1]; exact Blk.new _ _ _
  have y0 : w1.cell? ⟨w.heap.size, 0, none⟩ = some (.int .i64 t) := q1.cell 0
  have y1 : w1.cell? ⟨w.heap.size, 1, none⟩ = some (.string x) := q1.cell 1
  have y2 : w1.cell? ⟨w.heap.size, 2, none⟩ = some (.int .u64 (q : Int)) := q1.cell 2
  have y3 : w1.cell? ⟨w.heap.size, 3, none⟩ = some (.bool f) := q1.cell 3
  have y4 : w1.cell? ⟨w.heap.size, 4, none⟩ = some (.string d) := q1.cell 4
  have hps := rput5_any ⟨t, x, q, f, d⟩ w1 hx hq
  obtain ⟨a, c, rfl, hrd⟩ := h.rd
  have hfi := fun W (hb : Below w1.heap.size w1 W) => rfind_any l c a t x q ms W ((hrd.later hb1).later hb) hn
  obtain ⟨L, hL⟩ : ∃ L, ms.length = L := ⟨_, rfl⟩
  have HL := Lib.hid hL
  have H := Lib.hid (h.later hb1)
  have HW1 := Lib.hid hw1
  have HB1 := Lib.hid hb1
  have HQ1 := Lib.hid q1
  rw [hok] at hps
  simp only [hv] at hfi
  have HPS := Lib.hid hps
  have HFI := Lib.hid hfi
  clear hps hfi hrd hL hw1 hb1 q1 hx hq hok h hv
  go_enter Tryd.func8, Tryd.ntmps8
  go_wp2_with (rw [HW1.out])
  refine HPS.out.mono ?_
  rintro e w2 ⟨⟨X, rfl⟩, hb2⟩
  have q2 := HQ1.out.later hb2
  have z0 : w2.cell? ⟨w.heap.size, 0, none⟩ = some (.int .i64 t) := q2.cell 0
  have z1 : w2.cell? ⟨w.heap.size, 1, none⟩ = some (.string x) := q2.cell 1
  have z2 : w2.cell? ⟨w.heap.size, 2, none⟩ = some (.int .u64 (q : Int)) := q2.cell 2
  have HF2 := Lib.hid (HFI.out w2 hb2)
  have H2 := Lib.hid (H.out.later hb2)
  have HB2 := Lib.hid (HB1.out.trans (hb2.mono HB1.out.size))
  have HQ2 := Lib.hid q2
  clear hb2 q2 y0 y1 y2 y3 y4
  go_wp2_with fail
  refine HF2.out.mono ?_
  rintro e w3 ⟨rfl, hb3⟩
  have H3 := Lib.hid (H2.out.later hb3)
  have HB3 := Lib.hid (HB2.out.trans (hb3.mono HB2.out.size))
  have HQ3 := Lib.hid (HQ2.out.later hb3)
  clear hb3 z0 z1 z2
  go_wp2_with fail
  go_ret
  exact ⟨rfl, H3.out, RKept.of HB3.out⟩
set_option maxRecDepth 100000 in
set_option maxHeartbeats 4000000 in
theorem rnote_t (t : Int) (x : ByteArray) (q : Nat) (d : ByteArray) (base l : Nat) (v : Value) (ms : List Mk) (w : World) (hx : x.size ≤ maxLen) (hq : q < 2 ^ 64) (hn : ms.length ≤ 1025) (hpd : PdM ms) (h : RfAt base l v ms w) (hok : (⟨t, x, q, true, d⟩ : St).ok = true) {k0 : Nat} (hv : rposM t x q ms = (k0 : Int)) :
    Calls Tryd.prog 8 #[.pointer (some ⟨l, 0, none⟩), (⟨t, x, q, true, d⟩ : St).v] w fun e w' => e = .returned (.int .i64 0) ∧ RfAt base l v (settleM (fun m => keyM t x m && decide (m.q ≤ q)) 2 ⟨#[]⟩ ms) w' ∧ RKept base w w' := by
  obtain ⟨w1, hw1⟩ : ∃ w1, w.alloc (.cells #[.int .i64 t, .string x, .int .u64 (q : Int), .bool true, .string d] 41) = w1 := ⟨_, rfl⟩
  have hb1 : Below w.heap.size w w1 := by rw [← hw1]; exact (Below.refl _ _).alloc (Nat.le_refl _) _
  have q1 : Blk w1 w.heap.size #[.int .i64 t, .string x, .int .u64 (q : Int), .bool true, .string d] 41 := by rw [← hw1]; exact Blk.new _ _ _
  have y0 : w1.cell? ⟨w.heap.size, 0, none⟩ = some (.int .i64 t) := q1.cell 0
  have y1 : w1.cell? ⟨w.heap.size, 1, none⟩ = some (.string x) := q1.cell 1
  have y2 : w1.cell? ⟨w.heap.size, 2, none⟩ = some (.int .u64 (q : Int)) := q1.cell 2
  have y3 : w1.cell? ⟨w.heap.size, 3, none⟩ = some (.bool true) := q1.cell 3
  have y4 : w1.cell? ⟨w.heap.size, 4, none⟩ = some (.string d) := q1.cell 4
  have hps := rput5_any ⟨t, x, q, true, d⟩ w1 hx hq
  obtain ⟨a, c, rfl, hrd⟩ := h.rd
  have hfi := fun W (hb : Below w1.heap.size w1 W) => rfind_any l c a t x q ms W ((hrd.later hb1).later hb) hn
  obtain ⟨L, hL⟩ : ∃ L, ms.length = L := ⟨_, rfl⟩
  have HL := Lib.hid hL
  have H := Lib.hid (h.later hb1)
  have HW1 := Lib.hid hw1
  have HB1 := Lib.hid hb1
  have HQ1 := Lib.hid q1
  rw [hok] at hps
  simp only [hv] at hfi
  have HPS := Lib.hid hps
  have HFI := Lib.hid hfi
  have HPD := Lib.hid hpd
  obtain ⟨p, hp⟩ : ∃ p : Mk → Bool, (fun m : Mk => keyM t x m && decide (m.q ≤ q)) = p := ⟨_, rfl⟩
  rw [hp]
  have HP := Lib.hid (fun m => congrFun hp m)
  have b2 : ¬ (k0 : Int) < 0 := by omega
  clear hp hps hfi hrd hL hw1 hb1 q1 hx hq hok h hv hpd
  go_enter Tryd.func8, Tryd.ntmps8
  go_wp2_with (rw [HW1.out])
  refine HPS.out.mono ?_
  rintro e w2 ⟨⟨X, rfl⟩, hb2⟩
  have q2 := HQ1.out.later hb2
  have z0 : w2.cell? ⟨w.heap.size, 0, none⟩ = some (.int .i64 t) := q2.cell 0
  have z1 : w2.cell? ⟨w.heap.size, 1, none⟩ = some (.string x) := q2.cell 1
  have z2 : w2.cell? ⟨w.heap.size, 2, none⟩ = some (.int .u64 (q : Int)) := q2.cell 2
  have HF2 := Lib.hid (HFI.out w2 hb2)
  have H2 := Lib.hid (H.out.later hb2)
  have HB2 := Lib.hid (HB1.out.trans (hb2.mono HB1.out.size))
  have HQ2 := Lib.hid q2
  clear hb2 q2 y0 y1 y2 y3 y4
  go_wp2_with fail
  refine HF2.out.mono ?_
  rintro e w3 ⟨rfl, hb3⟩
  have H3 := Lib.hid (H2.out.later hb3)
  have HB3 := Lib.hid (HB2.out.trans (hb3.mono HB2.out.size))
  have HQ3 := Lib.hid (HQ2.out.later hb3)
  clear hb3 z0 z1 z2
  have hrow := H3.out.row
  rw [HL.out] at hrow hn
  have hne := row_block H3.out.row H3.out.blk (by decide)
  have hneb := row_block H3.out.row HQ3.out (by decide)
  rw [HL.out] at hne hneb
  have HEND := Lib.hid (fun (w' : World) (cs : List Mk) (hl : cs.length = L) (ho : w'.ownsRow base 50 5 (.slice a L c) L (mkCells cs)) (hg : w3.grownBy w' (Value.slice a L c).ownBlock) =>
    (And.intro (RfAt.mk (base := base) (l := l) (v := .slice a ms.length c) (ms := cs) (w := w') (H3.out.blk.kept hg (fun e => hne e.symm)) (by rw [HL.out, hl]; exact ho) H3.out.bl) (And.intro ((RKept.of HB3.out).trans (RKept.row (B := base) H3.out.row (Nat.le_refl _) (own_len hg))) (HQ3.out.kept hg (fun e => hneb e.symm)))))
  have HROW := Lib.hid hrow
  clear hne hneb
  go_wp2_with fail
  go_loopw [8] (fun vi wr => ∃ (k : Nat) (cs : List Mk), vi = .int .i64 (k : Int) ∧ k ≤ L ∧ cs.length = L ∧ cs = settleM p 2 ⟨#[]⟩ (ms.take k) ++ ms.drop k ∧ wr.ownsRow base 50 5 (.slice a L c) L (mkCells cs) ∧ w3.grownBy wr (Value.slice a L c).ownBlock) (fun vi _ => L - (intOf vi).toNat)
  case atStart => exact ⟨0, ms, rfl, Nat.zero_le _, HL.out, rfl, hrow, grown_refl _ _⟩
  case round =>
    obtain ⟨k, cs, rfl, hk, hcl, hcs, hown, hgr⟩ := hrel
    have hend := HEND.out wr cs hcl hown hgr
    have c0 : wr.cell? ⟨l, 0, none⟩ = some (.slice a L c) := by rw [← HL.out]; exact hend.1.blk.cell 0
    have q4 := hend.2.2
    have z3 : wr.cell? ⟨w.heap.size, 3, none⟩ = some (.bool true) := q4.cell 3
    by_cases hlt : k < L
    · have z0 : wr.cell? ⟨w.heap.size, 0, none⟩ = some (.int .i64 t) := q4.cell 0
      have z1 : wr.cell? ⟨w.heap.size, 1, none⟩ = some (.string x) := q4.cell 1
      have z2 : wr.cell? ⟨w.heap.size, 2, none⟩ = some (.int .u64 (q : Int)) := q4.cell 2
      obtain ⟨g, cap, cur, hv, hbg, hblk, hnc, hcm, hsz, hcur⟩ := row_blk hown (by omega)
      cases hv
      obtain ⟨m, hx⟩ : ∃ m, ms[k]? = some m := ⟨_, List.getElem?_eq_getElem (by have := HL.out; omega)⟩
      have hsl : (settleM p 2 ⟨#[]⟩ (ms.take k)).length = k := by rw [settleM_len, List.length_take, HL.out]; omega
      have hxc : cs[k]? = some m := by rw [hcs, List.getElem?_append_right (by omega), hsl, Nat.sub_self, List.getElem?_drop, Nat.add_zero, hx]
      have hMA := mksAt_rowT (by rw [hcl]; exact hown)
      obtain ⟨g2, off2, ha, hgl, p0, p1, p2, p3, p4⟩ := hMA k m hxc
      simp only [Option.some.injEq, Addr.mk.injEq, and_true] at ha
      obtain ⟨rfl, rfl⟩ := ha
      rw [Nat.zero_add] at p0 p1 p2 p3 p4
      have b1 : (k : Int) < (L : Int) := by omega
      have b0 : (0 : Int) ≤ (k : Int) := by omega
      have hkk := keyM_eq t x m
      have e1 := fun w => ck_eqlKey m.t t m.x x w
      rw [hkk] at e1
      have g1 := fun op a b xs ys w => ck_guardKey op a b xs ys w
      have hpm := HP.out m
      obtain ⟨K, hK⟩ : ∃ K, keyM t x m = K := ⟨_, rfl⟩
      rw [hK] at e1 hpm
      obtain ⟨Q, hQ⟩ : ∃ Q, decide (m.q ≤ q) = Q := ⟨_, rfl⟩
      rw [hQ] at hpm
      have hQ2 : decide ((m.q : Int) ≤ (q : Int)) = Q := by rw [← hQ]; by_cases e : m.q ≤ q <;> simp [e]
      obtain ⟨P, hP⟩ : ∃ P, decide (m.s = 1) = P := ⟨_, rfl⟩
      have hP2 : (m.s == 1) = P := by rw [← hP]; by_cases e : m.s = 1 <;> simp [e]
      have HPM := Lib.hid (And.intro hpm hP)
      have HDR := Lib.hid (fun n => And.intro (own_below hown (below_drewM (B := wr.heap.size) (w := wr) n)) (grown_later hgr (below_drewM (B := wr.heap.size) (w := wr) n)))
      have HC := Lib.hid (And.intro hcl (And.intro hcs (And.intro hsl (And.intro hx hxc))))
      clear hown hgr hcl hcs hsl hx hxc hMA hblk hsz hcur hnc hcm hbg hgl hend q4 hkk hpm hK hP p4
      cases K with
      | false =>
        have HSM := Lib.hid (show (if m.s = 1 ∧ p m = true then (⟨m.t, m.x, m.q, 2, ⟨#[]⟩⟩ : Mk) else m) = m from if_neg (fun h => by rw [← HPM.out.1] at h; exact absurd h.2 (by simp)))
        clear hQ hQ2 hP2
        go_wp2_with fail
        go_quiet (fail)
        have HDN := Lib.hid (HDR.out nq)
        generalize wr.drewN nq = wz at HDN ⊢
        clear p0 p1 p2 p3 c0 z0 z1 z2 z3 e1 g1
        go_wp2_with fail
        go_roundw
        case rel =>
          refine ⟨k + 1, cs, by go_num, by omega, HC.out.1, ?_, HDN.out.1, HDN.out.2⟩
          rw [settle_next HC.out.2.2.2.1, HSM.out, List.append_assoc, HC.out.2.1]
          congr 1
          have := List.drop_eq_getElem?_toList_append (l := ms) (i := k)
          rw [this, HC.out.2.2.2.1]; rfl
        case measure => simp [intOf]; omega
      | true =>
        cases Q with
        | false =>
          have HSM := Lib.hid (show (if m.s = 1 ∧ p m = true then (⟨m.t, m.x, m.q, 2, ⟨#[]⟩⟩ : Mk) else m) = m from if_neg (fun h => by rw [← HPM.out.1] at h; exact absurd h.2 (by simp)))
          clear hP2
          go_wp2_with fail
          go_quiet (fail)
          have HDN := Lib.hid (HDR.out nq)
          generalize wr.drewN nq = wz at HDN ⊢
          clear p0 p1 p2 p3 c0 z0 z1 z2 z3 e1 g1
          go_wp2_with fail
          go_roundw
          case rel =>
            refine ⟨k + 1, cs, by go_num, by omega, HC.out.1, ?_, HDN.out.1, HDN.out.2⟩
            rw [settle_next HC.out.2.2.2.1, HSM.out, List.append_assoc, HC.out.2.1]
            congr 1
            have := List.drop_eq_getElem?_toList_append (l := ms) (i := k)
            rw [this, HC.out.2.2.2.1]; rfl
          case measure => simp [intOf]; omega
        | true =>
          cases P with
          | false =>
            have HSM := Lib.hid (show (if m.s = 1 ∧ p m = true then (⟨m.t, m.x, m.q, 2, ⟨#[]⟩⟩ : Mk) else m) = m from if_neg (fun h => (of_decide_eq_false HPM.out.2) h.1))
            go_wp2_with fail
            go_quiet (fail)
            have HDN := Lib.hid (HDR.out nq)
            generalize wr.drewN nq = wz at HDN ⊢
            clear p0 p1 p2 p3 c0 z0 z1 z2 z3 e1 g1
            go_wp2_with fail
            go_roundw
            case rel =>
              refine ⟨k + 1, cs, by go_num, by omega, HC.out.1, ?_, HDN.out.1, HDN.out.2⟩
              rw [settle_next HC.out.2.2.2.1, HSM.out, List.append_assoc, HC.out.2.1]
              congr 1
              have := List.drop_eq_getElem?_toList_append (l := ms) (i := k)
              rw [this, HC.out.2.2.2.1]; rfl
            case measure => simp [intOf]; omega
          | true =>
            have hdm : m.d = ⟨#[]⟩ := HPD.out m (List.mem_of_getElem? HC.out.2.2.2.1) (of_decide_eq_true HPM.out.2)
            have HSM := Lib.hid (show (if m.s = 1 ∧ p m = true then (⟨m.t, m.x, m.q, 2, ⟨#[]⟩⟩ : Mk) else m) = ⟨m.t, m.x, m.q, 2, m.d⟩ by rw [if_pos ⟨of_decide_eq_true HPM.out.2, by rw [← HPM.out.1]; rfl⟩, hdm])
            clear hdm
            go_wp2_with fail
            go_quiet (fail)
            have HDN := Lib.hid (HDR.out nq)
            generalize wr.drewN nq = wz at HDN ⊢
            clear p0 p1 p2 p3 c0 z0 z1 z2 z3 e1 g1 hQ hQ2 hP2
            have c0 : wz.cell? ⟨l, 0, none⟩ = some (.slice (some ⟨g, 0, none⟩) L c) := by rw [← HL.out]; exact (HEND.out wz cs HC.out.1 HDN.out.1 HDN.out.2).1.blk.cell 0
            obtain ⟨o3, u3, o4, u4, f3, f4⟩ := cells_34T HDN.out.1 b1
            have hrs := row_set3 HDN.out.1 HC.out.2.2.2.2 2
            have HRS := Lib.hid (And.intro hrs.1 (HDN.out.2.trans hrs.2))
            clear hrs u4 f4
            go_wp2_with fail
            go_roundw
            case rel =>
              refine ⟨k + 1, cs.set k ⟨m.t, m.x, m.q, 2, m.d⟩, by go_num, by omega, by rw [List.length_set]; exact HC.out.1, ?_, HRS.out.1, HRS.out.2⟩
              rw [settle_next HC.out.2.2.2.1, HSM.out, List.append_assoc]
              have e := HC.out.2.1
              have e2 : cs.set k ⟨m.t, m.x, m.q, 2, m.d⟩ = cs.take k ++ ⟨m.t, m.x, m.q, 2, m.d⟩ :: cs.drop (k + 1) := by rw [List.set_eq_take_append_cons_drop, if_pos (by rw [HC.out.1]; exact hlt)]
              rw [e2, e, List.take_left' HC.out.2.2.1]
              congr 2
              rw [List.drop_append, HC.out.2.2.1, List.drop_of_length_le (by rw [HC.out.2.2.1]; omega), List.nil_append, List.drop_drop]
              congr 1
              omega
            case measure => simp [intOf]; omega
    · obtain rfl : k = L := by omega
      have hcs2 : cs = settleM p 2 ⟨#[]⟩ ms := by rw [hcs, List.take_of_length_le (by have := HL.out; omega), List.drop_of_length_le (by have := HL.out; omega), List.append_nil]
      rw [hcs2] at hend
      have HF := Lib.hid (And.intro hend.1 hend.2.1)
      clear hend hcs2 hcs hcl hown hgr q4
      go_wp2_with fail
      go_ret
      exact ⟨rfl, HF.out.1, HF.out.2⟩
set_option maxRecDepth 100000 in
set_option maxHeartbeats 4000000 in
theorem rnote_f (t : Int) (x : ByteArray) (q : Nat) (d : ByteArray) (base l : Nat) (v : Value) (ms : List Mk) (w : World) (hx : x.size ≤ maxLen) (hq : q < 2 ^ 64) (hn : ms.length ≤ 1025) (hs : Srt ms) (h : RfAt base l v ms w) (hok : (⟨t, x, q, false, d⟩ : St).ok = true) {k0 : Nat} {m : Mk} (hv : rposM t x q ms = (k0 : Int)) (hxm : ms[k0]? = some m) (hk : keyM t x m = true) (hqm : m.q = q) :
    Calls Tryd.prog 8 #[.pointer (some ⟨l, 0, none⟩), (⟨t, x, q, false, d⟩ : St).v] w fun e w' => e = .returned (.int .i64 0) ∧ RfAt base l v (settleM (fun m => keyM t x m && decide (m.q = q)) 3 d ms) w' ∧ RKept base w w' := by
  obtain ⟨w1, hw1⟩ : ∃ w1, w.alloc (.cells #[.int .i64 t, .string x, .int .u64 (q : Int), .bool false, .string d] 41) = w1 := ⟨_, rfl⟩
  have hb1 : Below w.heap.size w w1 := by rw [← hw1]; exact (Below.refl _ _).alloc (Nat.le_refl _) _
  have q1 : Blk w1 w.heap.size #[.int .i64 t, .string x, .int .u64 (q : Int), .bool false, .string d] 41 := by rw [← hw1]; exact Blk.new _ _ _
  have y0 : w1.cell? ⟨w.heap.size, 0, none⟩ = some (.int .i64 t) := q1.cell 0
  have y1 : w1.cell? ⟨w.heap.size, 1, none⟩ = some (.string x) := q1.cell 1
  have y2 : w1.cell? ⟨w.heap.size, 2, none⟩ = some (.int .u64 (q : Int)) := q1.cell 2
  have y3 : w1.cell? ⟨w.heap.size, 3, none⟩ = some (.bool false) := q1.cell 3
  have y4 : w1.cell? ⟨w.heap.size, 4, none⟩ = some (.string d) := q1.cell 4
  have hps := rput5_any ⟨t, x, q, false, d⟩ w1 hx hq
  obtain ⟨a, c, rfl, hrd⟩ := h.rd
  have hfi := fun W (hb : Below w1.heap.size w1 W) => rfind_any l c a t x q ms W ((hrd.later hb1).later hb) hn
  obtain ⟨L, hL⟩ : ∃ L, ms.length = L := ⟨_, rfl⟩
  have HL := Lib.hid hL
  have H := Lib.hid (h.later hb1)
  have HW1 := Lib.hid hw1
  have HB1 := Lib.hid hb1
  have HQ1 := Lib.hid q1
  rw [hok] at hps
  simp only [hv] at hfi
  have HPS := Lib.hid hps
  have HFI := Lib.hid hfi
  have hset := settle_one hs hxm (keyM_iff.1 hk).1 (keyM_iff.1 hk).2 hqm 3 d
  obtain ⟨R, hR⟩ : ∃ R, settleM (fun m => keyM t x m && decide (m.q = q)) 3 d ms = R := ⟨_, rfl⟩
  rw [hR] at hset ⊢
  have HSET := Lib.hid hset
  have HXM := Lib.hid hxm
  have hlt0 := (List.getElem?_eq_some_iff.1 hxm).1
  rw [hL] at hlt0
  have b2 : ¬ (k0 : Int) < 0 := by omega
  have b3 : (0 : Int) ≤ (k0 : Int) := by omega
  have b4 : (k0 : Int) < (L : Int) := by omega
  clear hset hR hps hfi hrd hL hw1 hb1 q1 hx hq hok h hv hs hxm hk hqm hlt0
  go_enter Tryd.func8, Tryd.ntmps8
  go_wp2_with (rw [HW1.out])
  refine HPS.out.mono ?_
  rintro e w2 ⟨⟨X, rfl⟩, hb2⟩
  have q2 := HQ1.out.later hb2
  have z0 : w2.cell? ⟨w.heap.size, 0, none⟩ = some (.int .i64 t) := q2.cell 0
  have z1 : w2.cell? ⟨w.heap.size, 1, none⟩ = some (.string x) := q2.cell 1
  have z2 : w2.cell? ⟨w.heap.size, 2, none⟩ = some (.int .u64 (q : Int)) := q2.cell 2
  have HF2 := Lib.hid (HFI.out w2 hb2)
  have H2 := Lib.hid (H.out.later hb2)
  have HB2 := Lib.hid (HB1.out.trans (hb2.mono HB1.out.size))
  have HQ2 := Lib.hid q2
  clear hb2 q2 y0 y1 y2 y3 y4
  go_wp2_with fail
  refine HF2.out.mono ?_
  rintro e w3 ⟨rfl, hb3⟩
  have H3 := Lib.hid (H2.out.later hb3)
  have HB3 := Lib.hid (HB2.out.trans (hb3.mono HB2.out.size))
  have HQ3 := Lib.hid (HQ2.out.later hb3)
  clear hb3 z0 z1 z2
  rw [HL.out] at hn
  go_wp2_with fail
  go_loopw [8] (fun vi wr => ∃ k : Nat, vi = .int .i64 (k : Int) ∧ k ≤ L ∧ Below w3.heap.size w3 wr) (fun vi _ => L - (intOf vi).toNat)
  case atStart => exact ⟨0, rfl, Nat.zero_le _, Below.refl _ _⟩
  case round =>
    obtain ⟨k, rfl, hk, hb⟩ := hrel
    have h4 := H3.out.later hb
    have q4 := HQ3.out.later hb
    have c0 : wr.cell? ⟨l, 0, none⟩ = some (.slice a L c) := by rw [← HL.out]; exact h4.blk.cell 0
    have z3 : wr.cell? ⟨w.heap.size, 3, none⟩ = some (.bool false) := q4.cell 3
    by_cases hlt : k < L
    · have b1 : (k : Int) < (L : Int) := by omega
      have b0 : (0 : Int) ≤ (k : Int) := by omega
      have HDR := Lib.hid (fun n => hb.trans ((below_drewM (B := wr.heap.size) (w := wr) n).mono hb.size))
      clear h4 q4 hb
      go_wp2_with fail
      go_quiet (fail)
      have HDN := Lib.hid (HDR.out nq)
      generalize wr.drewN nq = wz at HDN ⊢
      clear c0 z3
      go_wp2_with fail
      go_roundw
      case rel => exact ⟨k + 1, by go_num, by omega, HDN.out⟩
      case measure => simp [intOf]; omega
    · obtain rfl : k = L := by omega
      have z4 : wr.cell? ⟨w.heap.size, 4, none⟩ = some (.string d) := q4.cell 4
      have hrow := h4.row
      rw [HL.out] at hrow
      obtain ⟨g, cap, cur, hv, hbg, hblk, hnc, hcm, hsz, hcur⟩ := row_blk hrow (by omega)
      cases hv
      have hMA := mksAt_rowT h4.row
      obtain ⟨g2, off2, ha, hgl, p0, p1, p2, p3, p4⟩ := hMA k0 m HXM.out
      simp only [Option.some.injEq, Addr.mk.injEq, and_true] at ha
      obtain ⟨rfl, rfl⟩ := ha
      rw [Nat.zero_add] at p3
      obtain ⟨o3, u3, o4, u4, f3, f4⟩ := cells_34T hrow b4
      have H4 := Lib.hid h4
      have HROW := Lib.hid hrow
      have HB4 := Lib.hid (HB3.out.trans (hb.mono HB3.out.size))
      obtain ⟨P, hP⟩ : ∃ P, decide (m.s = 1) = P := ⟨_, rfl⟩
      have hP2 : (m.s == 1) = P := by rw [← hP]; by_cases e : m.s = 1 <;> simp [e]
      have HP := Lib.hid hP
      clear hP hMA hgl p0 p1 p2 p4 hblk hnc hcm hsz hcur hbg h4 hrow
      cases P with
      | false =>
        have HSM := Lib.hid (show R = ms from HSET.out.trans (if_neg (of_decide_eq_false HP.out)))
        clear u3 u4 f3 f4 q4
        go_wp2_with fail
        go_ret
        exact ⟨rfl, by rw [HSM.out]; exact H4.out, RKept.of HB4.out⟩
      | true =>
        have HSM := Lib.hid (show R = ms.set k0 ⟨m.t, m.x, m.q, 3, d⟩ from HSET.out.trans (if_pos (of_decide_eq_true HP.out)))
        go_wp2_with fail
        have hrs := row_set2 HROW.out HXM.out 3 d
        have hg3 := grown_set wr g (k0 * 5 + 3) (.int .i64 3)
        have hne : g ≠ l := fun e => row_block HROW.out H4.out.blk (by decide) (by rw [e]; rfl)
        have hneb : g ≠ w.heap.size := fun e => row_block HROW.out q4 (by decide) (by rw [e]; rfl)
        have c6 : (wr.setCell ⟨g, k0 * 5 + 3, none⟩ (.int .i64 3)).cell? ⟨l, 0, none⟩ = some (.slice (some ⟨g, 0, none⟩) k c) := by rw [← HL.out]; exact (H4.out.blk.kept hg3 (fun e => hne (Option.some.inj e).symm)).cell 0
        have z6 : (wr.setCell ⟨g, k0 * 5 + 3, none⟩ (.int .i64 3)).cell? ⟨w.heap.size, 4, none⟩ = some (.string d) := (q4.kept hg3 (fun e => hneb (Option.some.inj e).symm)).cell 4
        obtain ⟨r3, _⟩ := row_set3 HROW.out HXM.out 3
        obtain ⟨o3', u3', o4', u4', f3', f4'⟩ := cells_34T r3 b4
        have HRS := Lib.hid hrs
        clear u3 u4 f3 f4 q4 u3' f3' hrs hg3 r3 c0 z3 z4 p3 hP2
        obtain ⟨w6, hw6⟩ : ∃ w6, wr.setCell ⟨g, k0 * 5 + 3, none⟩ (.int .i64 3) = w6 := ⟨_, rfl⟩
        rw [hw6] at HRS c6 z6 u4' f4' ⊢
        clear hw6
        have hfin := And.intro (RfAt.mk (base := base) (l := l) (v := .slice (some ⟨g, 0, none⟩) ms.length c) (ms := ms.set k0 ⟨m.t, m.x, m.q, 3, d⟩) (H4.out.blk.kept HRS.out.2 (fun e => hne (Option.some.inj e).symm)) (by rw [List.length_set, HL.out]; exact HRS.out.1) H4.out.bl) ((RKept.of (B := base) HB4.out).trans (RKept.row (B := base) H4.out.row (Nat.le_refl _) (own_len (a := some ⟨g, 0, none⟩) (L := k) (c := c) HRS.out.2)))
        have hdr : Below (w6.setCell ⟨g, k0 * 5 + 4, none⟩ (.string d)).heap.size (w6.setCell ⟨g, k0 * 5 + 4, none⟩ (.string d)) (w6.setCell ⟨g, k0 * 5 + 4, none⟩ (.string d)).drew := (Below.refl _ _).drew
        have HFIN := Lib.hid (And.intro (hfin.1.later hdr) (hfin.2.trans (RKept.of (B := base) hdr)))
        clear hfin hdr hne hneb
        go_region
        go_wp2_with fail
        go_ret
        exact ⟨rfl, by rw [HSM.out]; exact HFIN.out.1, HFIN.out.2⟩
theorem rnote_any (r : St) (base l : Nat) (v : Value) (ms : List Mk) (w : World) (hx : r.x.size ≤ maxLen) (hq : r.q < 2 ^ 64) (hn : ms.length ≤ 1025) (hs : Srt ms) (hpd : PdM ms) (h : RfAt base l v ms w) :
    Calls Tryd.prog 8 #[.pointer (some ⟨l, 0, none⟩), r.v] w fun e w' => e = .returned (.int .i64 (noteE r ms)) ∧ RfAt base l v (noteR r ms) w' ∧ RKept base w w' := by
  obtain ⟨t, x, q, f, d⟩ := r
  unfold noteE noteR
  cases hok : (⟨t, x, q, f, d⟩ : St).ok with
  | false => exact rnote_wrong t x q f d base l v ms w hx hq hn h hok
  | true =>
    simp only [if_true]
    rcases rpos_cases t x q ms with ⟨hv, hf⟩ | ⟨k, m, hxm, hv, hf⟩
    · have hh : hasM t x q ms = false := by unfold hasM; rw [hf]; rfl
      simp only [hh]
      exact rnote_none t x q f d base l v ms w hx hq hn h hok hv
    · have hh : hasM t x q ms = true := by unfold hasM; rw [hf]; rfl
      have hp := List.find?_some hf
      rw [Bool.and_eq_true, decide_eq_true_eq] at hp
      simp only [hh, if_true]
      unfold noteM
      cases f with
      | true => exact rnote_t t x q d base l v ms w hx hq hn hpd h hok hv
      | false => exact rnote_f t x q d base l v ms w hx hq hn hs h hok hv hxm hp.1 hp.2
end Go.Proofs.YtdaelapamkmcaaaDoor
namespace Go.Proofs.YtdaelapamkmcaaaDoor
open Go.RowKit

/-- An append of nothing. -/
theorem append_nil_any {P : Program} {w : World} {base e size n c : Nat} {t ty : TypeId} {i : TypeInfo} {v : Value} {xs : List Value} (ht : P.underlying t = some (.slice e)) (hi : P.info? e = some i) (hown : w.ownsRow base e size v n xs) : (Builtin.append_ #[t, t] ty #[v, .slice none 0 c]).run P w = .ok v w := by
  rcases hown.2 with ⟨rfl, _⟩ | ⟨g, cap, cur, rfl, _, _, hnc, _⟩
  · simp [Builtin.append_, run_underlying ht, sizeOf, typeInfo, hi, Builtin.lenOf, Builtin.firstCells]
  · simp [Builtin.append_, run_underlying ht, sizeOf, typeInfo, hi, Builtin.lenOf, Builtin.firstCells, hnc, storeCells]
theorem wpList_append_none {P : Program} {w : World} {ops : Array Oper} {rest : List Oper} {o : Oper} {a : Act} {Q : Exit → Act → World → Prop} (hgd : o.guard = none) (s x : Operand) (t : TypeId)
    (ho : o.op = .call { callee := .builtin .append, args := #[s, x], argTypes := #[t, t] }) (base e size n c : Nat) (i : TypeInfo) (v : Value) (xs : List Value) (ht : P.underlying t = some (.slice e)) (hi : P.info? e = some i)
    (hs : a.eval s = v) (hx : a.eval x = .slice none 0 c) (hown : w.ownsRow base e size v n xs) (h : wpList P ops Q rest (a.put o.dst v) w) : wpList P ops Q (o :: rest) a w := by
  refine wpList_plain hgd fun K hK => ?_
  have hr := append_nil_any (ty := o.type) (c := c) ht hi hown
  unfold Oper.wp execOp
  simp only [ho, resolve, invoke, builtin, Sem.run_bind, Sem.run_pure, Result.andThen_ok, List.map_toArray, List.map_cons, List.map_nil, hs, hx, hr]
  exact hK _ _ h
/-- An append of a slice that may be nil. -/
theorem wpList_append_row {P : Program} (w : World) {ops : Array Oper} {rest : List Oper} {o : Oper} {a : Act} {Q : Exit → Act → World → Prop} (hgd : o.guard = none) (s x : Operand) (t : TypeId)
    (ho : o.op = .call { callee := .builtin .append, args := #[s, x], argTypes := #[t, t] })
    (base : Nat) (e : TypeId) (i : TypeInfo) (z : Value) (size bytes : Nat) (ht : P.underlying t = some (.slice e)) (hi : P.info? e = some i) (hz : i.zero = some z)
    (hsize : i.size = size) (hby : i.bytes = bytes) (hzs : z.cells.size = size) (hsz : 0 < size)
    (v : Value) (n : Nat) (xs : List Value) (hs : a.eval s = v) (hown : w.ownsRow base e size v n xs)
    (ad : Option Addr) (m c : Nat) (news : List Value) (hx : a.eval x = .slice ad m c) (hl : news.length = m * size) (h0 : ad = none → m = 0) (hnews : ∀ j u, news[j]? = some u → ∃ b, ad = some b ∧ w.cell? (b.add j) = some u) (h1 : ∀ u ∈ news, u.oneCell' = true)
    (h63 : n + m ≤ maxLen) (hbytes : (n + m) * bytes ≤ 140737488355328) (hbase : base ≤ w.heap.size)
    (h : ∀ v' w', w'.ownsRow base e size v' (n + m) (xs ++ news) → w.grownBy w' v.ownBlock → wpList P ops Q rest (a.put o.dst v') w') : wpList P ops Q (o :: rest) a w := by
  cases ad with
  | none =>
    obtain rfl := h0 rfl
    have hn : news = [] := List.eq_nil_of_length_eq_zero (by simpa using hl)
    subst hn
    exact wpList_append_none hgd s x t ho base e size n c i v xs ht hi hs hx hown (h v w (by simpa using hown) (grown_refl _ _))
  | some b =>
    exact wpList_append_own w hgd s x t ho base e i z size bytes ht hi hz hsize hby hzs hsz v n xs hs hown b m c news hx hl (fun j u hj => by
      obtain ⟨b', e, h⟩ := hnews j u hj
      cases e
      exact h) h1 h63 hbytes hbase (fun v' w' h1 h2 _ => h v' w' h1 h2)

theorem cut_at {ms : List Mk} (hs : Srt ms) {j : Nat} (hj : ms[j]? = some (minM ms)) : cutM ms = ms.take j ++ ms.drop (j + 1) := by
  obtain ⟨hlt, hm⟩ := List.getElem?_eq_some_iff.1 hj
  have e : ms = ms.take j ++ minM ms :: ms.drop (j + 1) := by
    conv => lhs; rw [← List.take_append_drop j ms, List.drop_eq_getElem_cons hlt, hm]
  have hne : ∀ i a, ms[i]? = some a → i ≠ j → eqM a (minM ms) = false := by
    intro i a hi hij
    cases hb : eqM a (minM ms) with
    | false => rfl
    | true =>
      rw [eqM_iff] at hb
      subst hb
      have h0 := ordM_zero (t := (minM ms).t) (x := (minM ms).x) (q := (minM ms).q) (m := minM ms) |>.2 ⟨rfl, rfl, rfl⟩
      rcases Nat.lt_or_gt_of_ne hij with h | h
      · have := hs.lt hi hj h
        omega
      · have := hs.lt hj hi h
        omega
  have h1 : (ms.take j).filter (fun m => !eqM m (minM ms)) = ms.take j := List.filter_eq_self.2 fun a ha => by
    obtain ⟨i, hi⟩ := List.mem_iff_getElem?.1 ha
    rw [List.getElem?_take] at hi
    split at hi
    · rw [hne i a hi (by omega)]; rfl
    · cases hi
  have h2 : (ms.drop (j + 1)).filter (fun m => !eqM m (minM ms)) = ms.drop (j + 1) := List.filter_eq_self.2 fun a ha => by
    obtain ⟨i, hi⟩ := List.mem_iff_getElem?.1 ha
    rw [List.getElem?_drop] at hi
    rw [hne _ a hi (by omega)]; rfl
  have h3 : eqM (minM ms) (minM ms) = true := (eqM_iff _ _).2 rfl
  have h4 : ∀ M, M = minM ms → (ms.take j ++ M :: ms.drop (j + 1)).filter (fun m => !eqM m (minM ms)) = ms.take j ++ ms.drop (j + 1) := by
    intro M hM
    rw [List.filter_append, h1, List.filter_cons, hM, h3, h2]; rfl
  have h5 := h4 (minM ms) rfl
  rw [← e] at h5
  exact h5
/-- Marks that stand in a row, a part of them. -/
theorem mks_news {w : World} {a : Option Addr} {g i n : Nat} {ms : List Mk} (h : MksAt w a ms) (ha : a = some ⟨g, 0, none⟩) (hn : i + n ≤ ms.length) :
    (mkCells ((ms.drop i).take n)).length = n * 5 ∧ ∀ j u, (mkCells ((ms.drop i).take n))[j]? = some u → ∃ b, (some ⟨g, i * 5, none⟩ : Option Addr) = some b ∧ w.cell? (b.add j) = some u := by
  subst ha
  have hlen : ((ms.drop i).take n).length = n := by rw [List.length_take, List.length_drop]; omega
  refine ⟨by rw [mkCells_len, hlen], fun j u hu => ⟨_, rfl, ?_⟩⟩
  have hj : j < n * 5 := by
    have := (List.getElem?_eq_some_iff.1 hu).1
    rw [mkCells_len, hlen] at this; exact this
  obtain ⟨m, hx⟩ : ∃ m, ((ms.drop i).take n)[j / 5]? = some m := ⟨_, List.getElem?_eq_getElem (by rw [hlen]; omega)⟩
  have hx2 : ms[i + j / 5]? = some m := by
    rw [List.getElem?_take, if_pos (by omega), List.getElem?_drop] at hx; exact hx
  have hg := mkCells_get _ _ _ hx
  obtain ⟨g2, off2, e, _, p0, p1, p2, p3, p4⟩ := h _ m hx2
  simp only [Option.some.injEq, Addr.mk.injEq, and_true] at e
  obtain ⟨rfl, rfl⟩ := e
  have hr : j = j / 5 * 5 + j % 5 := by omega
  have hlt5 : j % 5 < 5 := Nat.mod_lt _ (by omega)
  rw [addr_plain]
  generalize j / 5 = D at *
  generalize j % 5 = M at *
  subst hr
  have e1 : i * 5 + (D * 5 + M) = 0 + (i + D) * 5 + M := by omega
  rw [e1]
  have hgM := hg M hlt5
  rw [hgM] at hu
  clear hgM hg
  match M, hlt5, hu with
  | 0, _, hu => exact p0.trans hu
  | 1, _, hu => exact p1.trans hu
  | 2, _, hu => exact p2.trans hu
  | 3, _, hu => exact p3.trans hu
  | 4, _, hu => exact p4.trans hu
/-- .. what stands from a place on. -/
theorem mks_tail {w : World} {g P L cap : Nat} {ms : List Mk} (h : MksAt w (some ⟨g, 0, none⟩) ms) (hL : ms.length = L) (hP : P ≤ L) (hc : L ≤ cap) :
    (mkCells (ms.drop P)).length = (L - P) * 5 ∧ ((if cap = P then some (⟨g, 0, none⟩ : Addr) else some ⟨g, P * 5, none⟩) = none → L - P = 0) ∧ ∀ j u, (mkCells (ms.drop P))[j]? = some u → ∃ b, (if cap = P then some (⟨g, 0, none⟩ : Addr) else some ⟨g, P * 5, none⟩) = some b ∧ w.cell? (b.add j) = some u := by
  obtain ⟨h1, h2⟩ := mks_news (i := P) (n := L - P) h rfl (by omega)
  rw [List.take_of_length_le (by rw [List.length_drop]; omega)] at h1 h2
  refine ⟨h1, fun e => (by split at e <;> cases e), fun j u hu => ?_⟩
  have hj := (List.getElem?_eq_some_iff.1 hu).1
  rw [h1] at hj
  rw [if_neg (by omega)]
  exact h2 j u hu
end Go.Proofs.YtdaelapamkmcaaaDoor
namespace Go.Proofs.YtdaelapamkmcaaaDoor
open Go.RowKit

set_option maxRecDepth 100000 in
set_option maxHeartbeats 4000000 in
theorem rcut_any (base l : Nat) (v : Value) (ms : List Mk) (w : World) (h : RfAt base l v ms w) (hs : Srt ms) (hn : ms.length ≤ 1025) (h1 : 1 ≤ ms.length) :
    Calls Tryd.prog 31 #[.pointer (some ⟨l, 0, none⟩)] w fun e w' => e = .returned (.tuple #[]) ∧ (∃ v', RfAt base l v' (cutM ms) w') ∧ RKept base w w' := by
  obtain ⟨g, cap, cur, hv, hbg, hblk, hnc, hcm, hsz, hcur⟩ := row_blk h.row (by omega)
  subst hv
  obtain ⟨a, c, he, hrd⟩ := h.rd
  cases he
  obtain ⟨L, hL⟩ : ∃ L, ms.length = L := ⟨_, rfl⟩
  rw [hL] at hn h1 hnc
  have HL := Lib.hid hL
  have HR := Lib.hid hrd
  have H := Lib.hid h
  have HS := Lib.hid hs
  obtain ⟨i0, hi, hz0, hz1, hz2⟩ := info_parts Tryd.infoRMk
  clear hL hrd h hs hblk hcm hsz hcur
  obtain ⟨m0, hm0⟩ : ∃ m, ms[0]? = some m := ⟨_, List.getElem?_eq_getElem (by have := HL.out; omega)⟩
  have HM0 := Lib.hid hm0
  clear hm0
  go_enter Tryd.func31, Tryd.ntmps31
  go_wp2_with fail
  go_loopw [2, 3] (fun va vi wr => ∃ (k j : Nat) (m : Mk), k ≤ L ∧ j < L ∧ va = .int .i64 (j : Int) ∧ vi = .int .i64 (k : Int) ∧ ms[j]? = some m ∧ ((k = 0 ∧ j = 0) ∨ (1 ≤ k ∧ minM (ms.take k) = m)) ∧ Below w.heap.size w wr) (fun _ vi _ => L - (intOf vi).toNat)
  case atStart => exact ⟨0, 0, m0, Nat.zero_le _, h1, rfl, rfl, HM0.out, .inl ⟨rfl, rfl⟩, Below.refl _ _⟩
  case round =>
    obtain ⟨k, j, m, hk, hj, rfl, rfl, hxm, hkj, hb⟩ := hrel
    have hr2 := HR.out.later hb
    have c0 : wr.cell? ⟨l, 0, none⟩ = some (.slice (some ⟨g, 0, none⟩) L cap) := by rw [← HL.out]; exact hr2.blk.cell 0
    have b2 : (j : Int) < (L : Int) := by omega
    have b3 : (0 : Int) ≤ (j : Int) := by omega
    by_cases hlt : k < L
    · obtain ⟨y, hy⟩ : ∃ y, ms[k]? = some y := ⟨_, List.getElem?_eq_getElem (by have := HL.out; omega)⟩
      obtain ⟨g2, off2, ha, hgl, p0, p1, p2, p3, p4⟩ := hr2.at' k y hy
      simp only [Option.some.injEq, Addr.mk.injEq, and_true] at ha
      obtain ⟨rfl, rfl⟩ := ha
      obtain ⟨g3, off3, ha, hgl3, q0, q1, q2, q3, q4⟩ := hr2.at' j m hxm
      simp only [Option.some.injEq, Addr.mk.injEq, and_true] at ha
      obtain ⟨rfl, rfl⟩ := ha
      rw [Nat.zero_add] at p2 q2
      have b1 : (k : Int) < (L : Int) := by omega
      have b0 : (0 : Int) ≤ (k : Int) := by omega
      have HX := Lib.hid (And.intro hxm (And.intro hy hkj))
      have HDR := Lib.hid (fun n => hb.trans ((below_drewM (B := wr.heap.size) (w := wr) n).mono hb.size))
      clear hxm hy hkj hb hr2 hgl hgl3 p0 p1 p3 p4 q0 q1 q3 q4
      by_cases hq : y.q < m.q
      · have hq1 : decide (y.q < m.q) = true := decide_eq_true hq
        have hq2 : (y.q : Int) < (m.q : Int) := by omega
        have HN := Lib.hid (show minM (ms.take (k + 1)) = y by
          rcases HX.out.2.2 with ⟨rfl, rfl⟩ | ⟨h1, h2⟩
          · have := HX.out.1.symm.trans HX.out.2.1
            rw [Option.some.inj this] at hq; omega
          · rw [minM_next HX.out.2.1 h1, h2]; unfold minStep; rw [if_pos hq])
        clear hq
        go_wp2_with fail
        go_quiet (fail)
        have HDN := Lib.hid (HDR.out nq)
        generalize wr.drewN nq = wz at HDN ⊢
        clear p2 q2 c0 hq1 hq2
        go_wp2_with fail
        go_roundw
        case rel => exact ⟨k + 1, k, y, by omega, hlt, rfl, by go_num, HX.out.2.1, .inr ⟨by omega, HN.out⟩, HDN.out⟩
        case measure => simp [intOf]; omega
      · have hq1 : decide (y.q < m.q) = false := decide_eq_false hq
        have hq2 : ¬ (y.q : Int) < (m.q : Int) := by omega
        have HN := Lib.hid (show minM (ms.take (k + 1)) = m by
          rcases HX.out.2.2 with ⟨rfl, rfl⟩ | ⟨h1, h2⟩
          · exact minM_one HX.out.1
          · rw [minM_next HX.out.2.1 h1, h2]; unfold minStep; rw [if_neg hq])
        clear hq
        go_wp2_with fail
        go_quiet (fail)
        have HDN := Lib.hid (HDR.out nq)
        generalize wr.drewN nq = wz at HDN ⊢
        clear p2 q2 c0 hq1 hq2
        go_wp2_with fail
        go_roundw
        case rel => exact ⟨k + 1, j, m, by omega, hj, rfl, by go_num, HX.out.1, .inr ⟨by omega, HN.out⟩, HDN.out⟩
        case measure => simp [intOf]; omega
    · obtain rfl : k = L := by omega
      have hmin : minM ms = m := by
        rcases hkj with ⟨h0, _⟩ | ⟨_, h2⟩
        · omega
        · rw [List.take_of_length_le (by have := HL.out; omega)] at h2; exact h2
      have HCUT := Lib.hid (cut_at HS.out (by rw [hmin]; exact hxm))
      have hn1 := mks_news (i := 0) (n := j) hr2.at' rfl (by have := HL.out; omega)
      rw [Nat.zero_mul, List.drop_zero] at hn1
      have HN1 := Lib.hid hn1
      have HR2 := Lib.hid hr2
      have HB := Lib.hid hb
      clear hmin hxm hkj hr2 hb hn1
      obtain ⟨P, hP⟩ : ∃ P : Nat, (j : Int) + 1 = (P : Int) := ⟨j + 1, by omega⟩
      have hPj : P = j + 1 := by omega
      have HPJ := Lib.hid hPj
      have b4 : (0 : Int) ≤ (P : Int) := by omega
      have b5 : (P : Int) ≤ (k : Int) := by omega
      have b6 : P ≤ k := by omega
      have b7 : (j : Int) ≤ (k : Int) := by omega
      have b8 : IntKind.i64.wrap (P : Int) = (P : Int) := by rw [IntKind.wrap_i64]; omega
      have HLAST := Lib.hid (fun (W : World) (V : Value) (ho : W.ownsRow base 50 5 V (j + (k - P)) (mkCells (ms.take j) ++ mkCells (ms.drop P))) => show W.ownsRow base 50 5 V (cutM ms).length (mkCells (cutM ms)) by
        rw [HCUT.out, ← HPJ.out, mkCells_append, List.length_append, List.length_take, List.length_drop, HL.out, Nat.min_eq_left (by omega)]; exact ho)
      clear hPj
      go_wp2_with (first | (at_builtin; refine wpList_append_row wr rfl _ _ 27 rfl w.heap.size 50 i0 _ 5 56 Tryd.underlying27 hi hz0 hz1 hz2 rfl (by omega) (.slice none 0 0) 0 [] rfl (World.ownsRow_nil _ _ _ _) (some ⟨g, 0, none⟩) j cap (mkCells (ms.take j)) rfl HN1.out.1 (fun e => by cases e) HN1.out.2 mk_one (by unfold maxLen; omega) (by omega) HB.out.size ?_; intro v2 w2 hown2 hgrow2; obtain ⟨a2, c2, rfl⟩ := row_shape hown2; rw [Nat.zero_add, List.nil_append] at hown2; have hg2 := (Below.refl wr.heap.size wr).grown hgrow2 (Nat.le_refl _) (fun k e => by simp [Value.ownBlock] at e); have hr3 := HR2.out.later hg2; have HG := Lib.hid (And.intro hown2 (And.intro hg2 (And.intro hr3 (mks_tail hr3.at' HL.out b6 hnc)))); clear hown2 hgrow2 c0; have c0 : w2.cell? ⟨l, 0, none⟩ = some (.slice (some ⟨g, 0, none⟩) k cap) := (by rw [← HL.out]; exact hr3.blk.cell 0); clear hg2 hr3) | (at_builtin; go_must (refine wpList_append_row _ rfl _ _ 27 rfl w.heap.size 50 i0 _ 5 56 Tryd.underlying27 hi hz0 hz1 hz2 rfl (by omega) _ j (mkCells (ms.take j)) rfl HG.out.1 _ (k - P) (cap - P) (mkCells (ms.drop P)) rfl HG.out.2.2.2.1 HG.out.2.2.2.2.1 HG.out.2.2.2.2.2 mk_one (by unfold maxLen; omega) (by omega) (Nat.le_trans HB.out.size HG.out.2.1.size) ?_; intro v3 w3 hown3 hgrow3; obtain ⟨a3, c3, rfl⟩ := row_shape hown3; have hl3 := HG.out.2.2.1.blk.kept hgrow3 (fun e => row_block HG.out.1 HG.out.2.2.1.blk (by decide) e.symm); have c1 := hl3.cell 0; have f1 : w3.frozen? ⟨l, 0, none⟩ = false := hl3.frozen 0; have hturn := RfAt.turn (ms := ms) (base := base) (ms' := cutM ms) hl3 H.out.bl (HLAST.out _ _ (own_less hown3 H.out.hB)) rfl; have HT := Lib.hid (And.intro hturn.1 (((RKept.of (B := base) (HB.out.trans (HG.out.2.1.mono HB.out.size))).trans (RKept.row HG.out.1 H.out.hB hgrow3)).trans hturn.2)); have c2 : w3.cell? ⟨l, 0, none⟩ = some (.slice (some ⟨g, 0, none⟩) k cap) := (by rw [← HL.out]; exact c1); clear c1 hl3 hturn hown3 hgrow3)))
      all_goals (go_end0; exact ⟨rfl, ⟨_, HT.out.1⟩, HT.out.2⟩)
end Go.Proofs.YtdaelapamkmcaaaDoor
namespace Go.Proofs.YtdaelapamkmcaaaDoor
open Go.RowKit

theorem ord_pos {t : Int} {x : ByteArray} {q : Nat} {ms : List Mk} (hs : Srt ms) {i : Nat} {m : Mk} (hm : ms[i]? = some m) (hst : (keyM t x m && decide (q ≤ m.q)) = false) : decide (ordK m.t m.x t x ≤ 0) = decide (i < posM t x q ms) := by
  have hn := ord_neg m.t t m.x x
  by_cases h : i < posM t x q ms
  · rw [decide_eq_true h, decide_eq_true_eq]
    have h1 := posM_low hm h
    have h2 : ¬ ordM t x q m ≤ 0 := by omega
    rw [ordM_le] at h2
    have : ¬ ordK t x m.t m.x < 0 := fun k => h2 (.inl k)
    omega
  · rw [decide_eq_false h, decide_eq_false_iff_not]
    have h1 := posM_high hs hm (Nat.le_of_not_lt h)
    rw [ordM_le] at h1
    rcases h1 with h1 | ⟨h1, h2, h3⟩
    · omega
    · exfalso
      rw [keyM_iff.2 ⟨h1.symm, h2.symm⟩, decide_eq_true h3] at hst
      cases hst
set_option maxRecDepth 100000 in
set_option maxHeartbeats 4000000 in
theorem rbegin_bad (base l : Nat) (v : Value) (t : Int) (x : ByteArray) (q : Nat) (ms : List Mk) (w : World) (hx : x.size ≤ maxLen) (h : RfAt base l v ms w) (hbad : badK t x q = true) :
    Calls Tryd.prog 12 #[.pointer (some ⟨l, 0, none⟩), kyV t x, .int .u64 (q : Int)] w fun e w' => e = .returned (.int .i64 1) ∧ RfAt base l v ms w' ∧ RKept base w w' := by
  obtain ⟨w1, hw1⟩ : ∃ w1, w.alloc (.cells #[.int .i64 t, .string x] 31) = w1 := ⟨_, rfl⟩
  have hb1 : Below w.heap.size w w1 := by rw [← hw1]; exact (Below.refl _ _).alloc (Nat.le_refl _) _
  have q1 : Blk w1 w.heap.size #[.int .i64 t, .string x] 31 := by rw [← hw1]; exact Blk.new _ _ _
  have y0 : w1.cell? ⟨w.heap.size, 0, none⟩ = some (.int .i64 t) := q1.cell 0
  have y1 : w1.cell? ⟨w.heap.size, 1, none⟩ = some (.string x) := q1.cell 1
  have HW1 := Lib.hid hw1
  have HB1 := Lib.hid hb1
  have HQ1 := Lib.hid q1
  have H := Lib.hid h
  have hb' := hbad
  unfold badK starB at hb'
  have hky := fun W => rkey_any t x W hx
  generalize kyOk t x = A at hky hb'
  obtain ⟨B, hB⟩ : ∃ B, (x.toList == [42]) = B := ⟨_, rfl⟩
  obtain ⟨C, hC⟩ : ∃ C, ((q : Int) == 0) = C := ⟨_, rfl⟩
  rw [hB, hC] at hb'
  have HKY := Lib.hid hky
  clear hky hbad hw1 hb1 q1 h
  have hfin : ∀ w2, Below w1.heap.size w1 w2 → (RfAt base l v ms w2 ∧ RKept base w w2) := fun w2 hb => by
    have hb2 := HB1.out.trans (hb.mono HB1.out.size)
    exact ⟨H.out.later hb2, RKept.of hb2⟩
  have HF := Lib.hid hfin
  clear hfin
  cases A <;> cases B <;> cases C
  all_goals first | (exfalso; revert hb'; decide) | skip
  all_goals
    clear hb'
    go_enter Tryd.func12, Tryd.ntmps12
    go_wp2_with (rw [HW1.out])
    refine (HKY.out _).mono ?_
    rintro e w2 ⟨rfl, hb⟩
    have q2 := HQ1.out.later hb
    have z1 : w2.cell? ⟨w.heap.size, 1, none⟩ = some (.string x) := q2.cell 1
    have HF2 := Lib.hid (HF.out w2 hb)
    clear hb q2
    go_wp2_with fail
    go_ret
    exact ⟨rfl, HF2.out.1, HF2.out.2⟩
theorem tail_nil (w : World) : (mkCells ([] : List Mk)).length = 0 * 5 ∧ ((none : Option Addr) = none → 0 = 0) ∧ ∀ j u, (mkCells ([] : List Mk))[j]? = some u → ∃ b, (none : Option Addr) = some b ∧ w.cell? (b.add j) = some u := ⟨rfl, fun _ => rfl, fun j u h => by simp [mkCells] at h⟩
set_option maxRecDepth 100000 in
set_option maxHeartbeats 4000000 in
theorem rbegin_good (base l : Nat) (v : Value) (t : Int) (x : ByteArray) (q : Nat) (ms : List Mk) (w : World) (hx : x.size ≤ maxLen) (h : RfAt base l v ms w) (hs : Srt ms) (hn : ms.length ≤ 1024) (hbad : badK t x q = false) :
    Calls Tryd.prog 12 #[.pointer (some ⟨l, 0, none⟩), kyV t x, .int .u64 (q : Int)] w fun e w' => e = .returned (.int .i64 (begE t x q ms)) ∧ (∃ v', RfAt base l v' (begM t x q ms) w') ∧ RKept base w w' := by
  obtain ⟨w1, hw1⟩ : ∃ w1, w.alloc (.cells #[.int .i64 t, .string x] 31) = w1 := ⟨_, rfl⟩
  have hb1 : Below w.heap.size w w1 := by rw [← hw1]; exact (Below.refl _ _).alloc (Nat.le_refl _) _
  have q1 : Blk w1 w.heap.size #[.int .i64 t, .string x] 31 := by rw [← hw1]; exact Blk.new _ _ _
  have y0 : w1.cell? ⟨w.heap.size, 0, none⟩ = some (.int .i64 t) := q1.cell 0
  have y1 : w1.cell? ⟨w.heap.size, 1, none⟩ = some (.string x) := q1.cell 1
  obtain ⟨hA, hB, hC, hnm, ht1, ht5, hxs⟩ := badK_no hbad
  unfold starB at hB
  have hky := fun W => rkey_any t x W hx
  rw [hA] at hky
  have HKY := Lib.hid hky
  obtain ⟨a, c, rfl, hrd⟩ := h.rd
  obtain ⟨L, hL⟩ : ∃ L, ms.length = L := ⟨_, rfl⟩
  obtain ⟨p, hp⟩ : ∃ p, posM t x q ms = p := ⟨_, rfl⟩
  have hpl := posM_le t x q ms
  rw [hp, hL] at hpl
  rw [hL] at hn
  have HP := Lib.hid hp
  have HL := Lib.hid hL
  have HW1 := Lib.hid hw1
  have HB1 := Lib.hid hb1
  have HQ1 := Lib.hid q1
  have HR := Lib.hid (hrd.later hb1)
  have H := Lib.hid (h.later hb1)
  have HS := Lib.hid hs
  have HW0 := Lib.hid (And.intro h hrd)
  have HE := Lib.hid (show begE t x q ms = if staleM t x q ms then 6 else 0 by unfold begE; rw [if_neg (by rw [hbad]; decide)])
  have HM := Lib.hid (show begM t x q ms = if staleM t x q ms then ms else fullM (insM p ⟨t, x, q, 1, ⟨#[]⟩⟩ ms) by unfold begM; rw [if_neg (by rw [hbad]; decide), hp])
  generalize begE t x q ms = e0 at HE
  generalize begM t x q ms = M0 at HM
  clear hw1 hb1 q1 h hs hrd hbad hA hky hL hp hnm ht1 ht5 hxs hx
  go_enter Tryd.func12, Tryd.ntmps12
  go_wp2_with (rw [HW1.out])
  refine (HKY.out _).mono ?_
  rintro e w2 ⟨rfl, hb⟩
  have z1 : w2.cell? ⟨w.heap.size, 1, none⟩ = some (.string x) := (HQ1.out.later hb).cell 1
  have HR2 := Lib.hid (HR.out.later hb)
  have HQ2 := Lib.hid (HQ1.out.later hb)
  have H2 := Lib.hid (H.out.later hb)
  have HB2 := Lib.hid (HB1.out.trans (hb.mono HB1.out.size))
  clear hb y0 y1
  go_wp2_with fail
  go_loopw [8, 9, 10] (fun va vi _ wr => ∃ k : Nat, k ≤ L ∧ va = .int .i64 (min k p : Nat) ∧ vi = .int .i64 (k : Int) ∧ (ms.take k).any (fun m => keyM t x m && decide (q ≤ m.q)) = false ∧ Below w2.heap.size w2 wr) (fun _ vi _ _ => L - (intOf vi).toNat)
  case atStart => exact ⟨0, Nat.zero_le _, by simp, rfl, rfl, Below.refl _ _⟩
  case round =>
    obtain ⟨k, hk, rfl, rfl, hno, hb⟩ := hrel
    have hr2 := HR2.out.later hb
    have q3 := HQ2.out.later hb
    have c0 : wr.cell? ⟨l, 0, none⟩ = some (.slice a L c) := by rw [← HL.out]; exact hr2.blk.cell 0
    have y0 : wr.cell? ⟨w.heap.size, 0, none⟩ = some (.int .i64 t) := q3.cell 0
    have y1 : wr.cell? ⟨w.heap.size, 1, none⟩ = some (.string x) := q3.cell 1
    by_cases hlt : k < L
    · obtain ⟨m, hxm⟩ : ∃ m, ms[k]? = some m := ⟨_, List.getElem?_eq_getElem (by have := HL.out; omega)⟩
      obtain ⟨g, off, rfl, hgl, p0, p1, p2, p3, p4⟩ := hr2.at' k m hxm
      have b1 : (k : Int) < (L : Int) := by omega
      have b0 : (0 : Int) ≤ (k : Int) := by omega
      have HX := Lib.hid (And.intro hxm hno)
      have HB := Lib.hid hb
      obtain ⟨J, hJ⟩ : ∃ J, min k p = J := ⟨_, rfl⟩
      rw [hJ]
      have HJ := Lib.hid hJ
      clear hxm hno hr2 q3 p3 p4 hJ z1 hb
      go_wp2_with fail
      go_region_with (first | (go_at_call 30; refine (rorder_any m.t t m.x x _).mono ?_; rintro e wO ⟨rfl, hbO⟩))
      all_goals
        have hw : Below wr.heap.size wr wO := (Below.refl wr.heap.size wr).drew.trans hbO
        have c5 : wO.cell? ⟨l, 0, none⟩ = some (.slice (some ⟨g, off, none⟩) L c) := (hw.cell (p := ⟨l, 0, none⟩) (HR2.out.later HB.out).blk.lt).trans c0
        have p5 : wO.cell? ⟨g, off + k * 5 + 2, none⟩ = some (.int .u64 (m.q : Int)) := (hw.cell (p := ⟨g, off + k * 5 + 2, none⟩) hgl).trans p2
        have HBO := Lib.hid (HB.out.trans (hw.mono HB.out.size))
        have ho0 : (ordK m.t m.x t x == 0) = keyM t x m := (ord_eq m.t t m.x x).trans (keyM_eq t x m)
        have HOP := Lib.hid (fun hst => ord_pos (t := t) (x := x) (q := q) HS.out HX.out.1 hst)
        clear hw hbO c0 p0 p1 p2 y0 y1 hgl
        generalize ordK m.t m.x t x = o at ho0 HOP ⊢
        obtain ⟨K, hK⟩ : ∃ K, keyM t x m = K := ⟨_, rfl⟩
        rw [hK] at ho0
        have HK := Lib.hid hK
        clear hK
        cases K with
        | false =>
          have HST := Lib.hid (show (keyM t x m && decide (q ≤ m.q)) = false by rw [HK.out]; rfl)
          by_cases hkp : k < p
          · have ho1 : decide (o ≤ 0) = true := (HOP.out HST.out).trans (decide_eq_true (by rw [HP.out]; exact hkp))
            have ho2 : o ≤ 0 := of_decide_eq_true ho1
            go_wp2_with fail
            go_roundw
            case rel => exact ⟨k + 1, by omega, by rw [show min (k + 1) p = k + 1 by omega]; go_num, by go_num, any_take HX.out.1 HX.out.2 HST.out, HBO.out⟩
            case measure => simp [intOf]; omega
          · have ho1 : decide (o ≤ 0) = false := (HOP.out HST.out).trans (decide_eq_false (by rw [HP.out]; exact hkp))
            have ho2 : ¬ o ≤ 0 := of_decide_eq_false ho1
            go_wp2_with fail
            go_roundw
            case rel => exact ⟨k + 1, by omega, by rw [show min (k + 1) p = J by have := HJ.out; omega], by go_num, any_take HX.out.1 HX.out.2 HST.out, HBO.out⟩
            case measure => simp [intOf]; omega
        | true =>
          by_cases hQ : q ≤ m.q
          · have hq1 : decide (q ≤ m.q) = true := decide_eq_true hQ
            have hq2 : (q : Int) ≤ (m.q : Int) := by omega
            have HST := Lib.hid (show staleM t x q ms = true from List.any_eq_true.2 ⟨m, List.mem_of_getElem? HX.out.1, by rw [HK.out, hq1]; rfl⟩)
            clear hQ
            go_wp2_with fail
            go_ret
            exact ⟨by rw [HE.out, if_pos HST.out]; rfl, ⟨_, by rw [HM.out, if_pos HST.out]; exact H2.out.later HBO.out⟩, RKept.of (HB2.out.trans (HBO.out.mono HB2.out.size))⟩
          · have hq1 : decide (q ≤ m.q) = false := decide_eq_false hQ
            have hq2 : ¬ (q : Int) ≤ (m.q : Int) := by omega
            have HST := Lib.hid (show (keyM t x m && decide (q ≤ m.q)) = false by rw [HK.out, hq1]; rfl)
            clear hQ
            by_cases hkp : k < p
            · have ho1 : decide (o ≤ 0) = true := (HOP.out HST.out).trans (decide_eq_true (by rw [HP.out]; exact hkp))
              have ho2 : o ≤ 0 := of_decide_eq_true ho1
              go_wp2_with fail
              go_roundw
              case rel => exact ⟨k + 1, by omega, by rw [show min (k + 1) p = k + 1 by omega]; go_num, by go_num, any_take HX.out.1 HX.out.2 HST.out, HBO.out⟩
              case measure => simp [intOf]; omega
            · have ho1 : decide (o ≤ 0) = false := (HOP.out HST.out).trans (decide_eq_false (by rw [HP.out]; exact hkp))
              have ho2 : ¬ o ≤ 0 := of_decide_eq_false ho1
              go_wp2_with fail
              go_roundw
              case rel => exact ⟨k + 1, by omega, by rw [show min (k + 1) p = J by have := HJ.out; omega], by go_num, any_take HX.out.1 HX.out.2 HST.out, HBO.out⟩
              case measure => simp [intOf]; omega
    · obtain rfl : k = L := by omega
      rw [show min k p = p by omega]
      have hst : staleM t x q ms = false := by have := hno; rw [List.take_of_length_le (by have := HL.out; omega)] at this; exact this
      have HE0 := Lib.hid (show e0 = 0 by rw [HE.out, hst]; rfl)
      obtain ⟨IS, hIS⟩ : ∃ IS, insM p ⟨t, x, q, 1, ⟨#[]⟩⟩ ms = IS := ⟨_, rfl⟩
      have HM0 := Lib.hid (show M0 = fullM IS by rw [HM.out, hst, ← hIS]; rfl)
      have hsr := insM_srt HS.out hst 1 ⟨#[]⟩
      rw [HP.out, hIS] at hsr
      have HSR := Lib.hid hsr
      have hisl : IS.length = k + 1 := by rw [← hIS, insM_len, HL.out]
      have HISL := Lib.hid hisl
      have HN5 := Lib.hid (show p + 1 + (k - p) = k + 1 by omega)
      have HLAST := Lib.hid (fun (W : World) (V : Value) (ho : W.ownsRow base 50 5 V (k + 1) (mkCells (ms.take p) ++ mkCells [⟨t, x, q, 1, ⟨#[]⟩⟩] ++ mkCells (ms.drop p))) => show W.ownsRow base 50 5 V IS.length (mkCells IS) by
        rw [HISL.out, ← hIS]; unfold insM; rw [mkCells_append, show (⟨t, x, q, 1, ⟨#[]⟩⟩ : Mk) :: ms.drop p = [⟨t, x, q, 1, ⟨#[]⟩⟩] ++ ms.drop p from rfl, mkCells_append, ← List.append_assoc]; exact ho)
      have HBR := Lib.hid (HB2.out.trans (hb.mono HB2.out.size))
      have HQR := Lib.hid q3
      obtain ⟨i0, hi, hz0, hz1, hz2⟩ := info_parts Tryd.infoRMk
      have b0 : (0 : Int) ≤ (p : Int) := by omega
      have b1 : (p : Int) ≤ (k : Int) := by omega
      have hdl : (ms.drop p).length = k - p := by rw [List.length_drop, HL.out]
      clear hno hst hIS hsr hb q3 hr2 y0 y1 z1
      have hrow := HW0.out.1.row
      rcases hrow.2 with ⟨hv, hn0⟩ | ⟨g, cap, cur, hv, hbg, hblk, hnc, _⟩
      · have hm0 : ms = [] := List.eq_nil_of_length_eq_zero (by
          have h1 : ms.length = 0 := by injection hv
          exact h1)
        subst hm0
        obtain rfl : k = 0 := by have := HL.out; exact this.symm
        obtain rfl : p = 0 := by omega
        obtain ⟨rfl, rfl⟩ : a = none ∧ c = 0 := by simpa using hv
        have HN1 := Lib.hid (tail_nil wr)
        have hbig : ¬ 1024 < 0 + 1 := by omega
        clear hrow hv
        go_wp2_with (first
          | (at_builtin; refine wpList_append_row wr rfl _ _ 27 rfl w.heap.size 50 i0 _ 5 56 Tryd.underlying27 hi hz0 hz1 hz2 rfl (by omega) (.slice none 0 0) 0 [] rfl (World.ownsRow_nil _ _ _ _) none 0 0 (mkCells ([] : List Mk)) rfl HN1.out.1 HN1.out.2.1 HN1.out.2.2 mk_one (by unfold maxLen; omega) (by omega) HBR.out.size ?_; intro v3 w3 hown3 hgrow3; obtain ⟨a3, c3, rfl⟩ := row_shape hown3; rw [Nat.zero_add, List.nil_append] at hown3; have hg3 := (Below.refl wr.heap.size wr).grown hgrow3 (Nat.le_refl _) (fun k e => by simp [Value.ownBlock] at e); have HG := Lib.hid (And.intro hown3 (HBR.out.trans (hg3.mono HBR.out.size))); have q4 := HQR.out.later hg3; have x0 : w3.cell? ⟨w.heap.size, 0, none⟩ = some (.int .i64 t) := q4.cell 0; have x1 : w3.cell? ⟨w.heap.size, 1, none⟩ = some (.string x) := q4.cell 1; clear hown3 hgrow3 hg3 q4 c0)
          | (at_builtin; refine wpList_append_own _ rfl _ _ 27 rfl w.heap.size 50 i0 _ 5 56 Tryd.underlying27 hi hz0 hz1 hz2 rfl (by omega) _ _ _ rfl (HG.out.1.alloc _) ⟨w3.heap.size, 0, none⟩ 1 1 (mkCells [⟨t, x, q, 1, ⟨#[]⟩⟩]) rfl rfl (World.news_of_block (cs := #[.int .i64 t, .string x, .int .u64 (q : Int), .int .i64 1, .string ⟨#[]⟩]) (t := 50) (fr := (0, 0)) (heap_alloc_new w3 _)) mk_one (by unfold maxLen; omega) (by omega) (by have := HG.out.2.size; simp; omega) ?_; intro v4 w4 hown4 hgrow4 _; obtain ⟨a4, c4, rfl⟩ := row_shape hown4; have HG4 := Lib.hid (And.intro hown4 ((HG.out.2.alloc HG.out.2.size (.cells #[.int .i64 t, .string x, .int .u64 (q : Int), .int .i64 1, .string ⟨#[]⟩] 50)).grown hgrow4 (by have := HG.out.2.size; simp; omega) (fun j hj => (HG.out.1.lt j hj).1))); clear hown4 hgrow4 x0 x1; have c0 : w4.cell? ⟨l, 0, none⟩ = some (  .slice none 0 0) := (by exact (HW0.out.1.later HG4.out.2).blk.cell 0); have HN4 := Lib.hid (tail_nil w4))
          | (at_builtin; go_must (refine wpList_append_row _ rfl _ _ 27 rfl w.heap.size 50 i0 _ 5 56 Tryd.underlying27 hi hz0 hz1 hz2 rfl (by omega) _ (0 + 1) (mkCells ([] : List Mk) ++ mkCells [⟨t, x, q, 1, ⟨#[]⟩⟩]) rfl HG4.out.1 _ 0 0 (mkCells ([] : List Mk)) rfl HN4.out.1 HN4.out.2.1 HN4.out.2.2 mk_one (by unfold maxLen; omega) (by omega) HG4.out.2.size ?_; intro v5 w5 hown5 hgrow5; obtain ⟨a5, c5, rfl⟩ := row_shape hown5; have hb5 := HG4.out.2.grown hgrow5 HG4.out.2.size (fun j hj => (HG4.out.1.lt j hj).1); have hl5 := (HW0.out.1.later hb5).blk; have hturn := RfAt.turn (ms := []) (base := base) (ms' := IS) hl5 H2.out.bl (HLAST.out _ _ (own_less hown5 HW0.out.1.hB)) rfl; have HT := Lib.hid (And.intro hturn.1 ((RKept.of (B := base) hb5).trans hturn.2)); have c6 : w5.cell? ⟨l, 0, none⟩ = some (  .slice none 0 0) := (by exact hl5.cell 0); have f6 : w5.frozen? ⟨l, 0, none⟩ = false := hl5.frozen 0; have c8 : (w5.setCell ⟨l, 0, none⟩ (.slice a5 (0 + 1) c5)).cell? ⟨l, 0, none⟩ = some (.slice a5 (0 + 1) c5) := (by have := hturn.1.blk.cell 0; exact this); clear hl5 hturn hb5 hown5 hgrow5 c0)))
        all_goals (go_ret; exact ⟨by rw [HE0.out]; rfl, ⟨_, by rw [HM0.out]; unfold fullM; rw [if_neg (by rw [HISL.out]; exact hbig)]; exact HT.out.1⟩, HT.out.2⟩)
      · rw [HL.out] at hv hnc
        obtain ⟨rfl, rfl⟩ : a = some ⟨g, 0, none⟩ ∧ c = cap := by simpa using hv
        clear hrow hblk hbg hv
        have hn1 := mks_news (i := 0) (n := p) (HW0.out.2.at'.below HBR.out) rfl (by have := HL.out; omega)
        rw [Nat.zero_mul, List.drop_zero] at hn1
        have HN1 := Lib.hid (And.intro hn1.1 (And.intro (show (some (⟨g, 0, none⟩ : Addr)) = none → p = 0 from fun e => by cases e) hn1.2))
        clear hn1
        by_cases hbig : 1024 < k + 1
        · have hb2 : (1024 : Int) < (k : Int) + 1 := by omega
          go_wp2_with (first
            | (at_builtin; refine wpList_append_row wr rfl _ _ 27 rfl w.heap.size 50 i0 _ 5 56 Tryd.underlying27 hi hz0 hz1 hz2 rfl (by omega) (.slice none 0 0) 0 [] rfl (World.ownsRow_nil _ _ _ _) (some ⟨g, 0, none⟩) p c (mkCells (ms.take p)) rfl HN1.out.1 HN1.out.2.1 HN1.out.2.2 mk_one (by unfold maxLen; omega) (by omega) HBR.out.size ?_; intro v3 w3 hown3 hgrow3; obtain ⟨a3, c3, rfl⟩ := row_shape hown3; rw [Nat.zero_add, List.nil_append] at hown3; have hg3 := (Below.refl wr.heap.size wr).grown hgrow3 (Nat.le_refl _) (fun k e => by simp [Value.ownBlock] at e); have HG := Lib.hid (And.intro hown3 (HBR.out.trans (hg3.mono HBR.out.size))); have q4 := HQR.out.later hg3; have x0 : w3.cell? ⟨w.heap.size, 0, none⟩ = some (.int .i64 t) := q4.cell 0; have x1 : w3.cell? ⟨w.heap.size, 1, none⟩ = some (.string x) := q4.cell 1; clear hown3 hgrow3 hg3 q4 c0)
            | (at_builtin; refine wpList_append_own _ rfl _ _ 27 rfl w.heap.size 50 i0 _ 5 56 Tryd.underlying27 hi hz0 hz1 hz2 rfl (by omega) _ _ _ rfl (HG.out.1.alloc _) ⟨w3.heap.size, 0, none⟩ 1 1 (mkCells [⟨t, x, q, 1, ⟨#[]⟩⟩]) rfl rfl (World.news_of_block (cs := #[.int .i64 t, .string x, .int .u64 (q : Int), .int .i64 1, .string ⟨#[]⟩]) (t := 50) (fr := (0, 0)) (heap_alloc_new w3 _)) mk_one (by unfold maxLen; omega) (by omega) (by have := HG.out.2.size; simp; omega) ?_; intro v4 w4 hown4 hgrow4 _; obtain ⟨a4, c4, rfl⟩ := row_shape hown4; have HG4 := Lib.hid (And.intro hown4 ((HG.out.2.alloc HG.out.2.size (.cells #[.int .i64 t, .string x, .int .u64 (q : Int), .int .i64 1, .string ⟨#[]⟩] 50)).grown hgrow4 (by have := HG.out.2.size; simp; omega) (fun j hj => (HG.out.1.lt j hj).1))); clear hown4 hgrow4 x0 x1; have c0 : w4.cell? ⟨l, 0, none⟩ = some (.slice (some ⟨g, 0, none⟩) k c) := (by rw [← HL.out]; exact (HW0.out.1.later HG4.out.2).blk.cell 0); have HN4 := Lib.hid (mks_tail (HW0.out.2.at'.below HG4.out.2) HL.out hpl hnc))
            | (at_builtin; go_must (refine wpList_append_row _ rfl _ _ 27 rfl w.heap.size 50 i0 _ 5 56 Tryd.underlying27 hi hz0 hz1 hz2 rfl (by omega) _ (p + 1) (mkCells (ms.take p) ++ mkCells [⟨t, x, q, 1, ⟨#[]⟩⟩]) rfl HG4.out.1 _ (k - p) (c - p) (mkCells (ms.drop p)) rfl HN4.out.1 HN4.out.2.1 HN4.out.2.2 mk_one (by unfold maxLen; omega) (by omega) HG4.out.2.size ?_; intro v5 w5 hown5 hgrow5; rw [HN5.out] at hown5; obtain ⟨a5, c5, rfl⟩ := row_shape hown5; have hb5 := HG4.out.2.grown hgrow5 HG4.out.2.size (fun j hj => (HG4.out.1.lt j hj).1); have hl5 := (HW0.out.1.later hb5).blk; have hturn := RfAt.turn (ms := ms) (base := base) (ms' := IS) hl5 H2.out.bl (HLAST.out _ _ (own_less hown5 HW0.out.1.hB)) rfl; have HT := Lib.hid (And.intro hturn.1 ((RKept.of (B := base) hb5).trans hturn.2)); have c6 : w5.cell? ⟨l, 0, none⟩ = some (.slice (some ⟨g, 0, none⟩) k c) := (by rw [← HL.out]; exact hl5.cell 0); have f6 : w5.frozen? ⟨l, 0, none⟩ = false := hl5.frozen 0; have c8 : (w5.setCell ⟨l, 0, none⟩ (.slice a5 (k + 1) c5)).cell? ⟨l, 0, none⟩ = some (.slice a5 (k + 1) c5) := (by have := hturn.1.blk.cell 0; exact this); clear hl5 hturn hb5 hown5 hgrow5 c0)))
          all_goals
            refine (rcut_any base l _ IS _ HT.out.1 HSR.out (by rw [HISL.out]; omega) (by rw [HISL.out]; omega)).mono ?_
            rintro e w7 ⟨rfl, ⟨v7, h7⟩, hk7⟩
            have H7 := Lib.hid (And.intro h7 (HT.out.2.trans hk7))
            clear h7 hk7 c8
            go_wp2_with fail
            go_ret
            exact ⟨by rw [HE0.out]; rfl, ⟨v7, by rw [HM0.out]; unfold fullM; rw [if_pos (by rw [HISL.out]; exact hbig)]; exact H7.out.1⟩, H7.out.2⟩
        have hb2 : ¬ (1024 : Int) < (k : Int) + 1 := by omega
        go_wp2_with (first
          | (at_builtin; refine wpList_append_row wr rfl _ _ 27 rfl w.heap.size 50 i0 _ 5 56 Tryd.underlying27 hi hz0 hz1 hz2 rfl (by omega) (.slice none 0 0) 0 [] rfl (World.ownsRow_nil _ _ _ _) (some ⟨g, 0, none⟩) p c (mkCells (ms.take p)) rfl HN1.out.1 HN1.out.2.1 HN1.out.2.2 mk_one (by unfold maxLen; omega) (by omega) HBR.out.size ?_; intro v3 w3 hown3 hgrow3; obtain ⟨a3, c3, rfl⟩ := row_shape hown3; rw [Nat.zero_add, List.nil_append] at hown3; have hg3 := (Below.refl wr.heap.size wr).grown hgrow3 (Nat.le_refl _) (fun k e => by simp [Value.ownBlock] at e); have HG := Lib.hid (And.intro hown3 (HBR.out.trans (hg3.mono HBR.out.size))); have q4 := HQR.out.later hg3; have x0 : w3.cell? ⟨w.heap.size, 0, none⟩ = some (.int .i64 t) := q4.cell 0; have x1 : w3.cell? ⟨w.heap.size, 1, none⟩ = some (.string x) := q4.cell 1; clear hown3 hgrow3 hg3 q4 c0)
          | (at_builtin; refine wpList_append_own _ rfl _ _ 27 rfl w.heap.size 50 i0 _ 5 56 Tryd.underlying27 hi hz0 hz1 hz2 rfl (by omega) _ _ _ rfl (HG.out.1.alloc _) ⟨w3.heap.size, 0, none⟩ 1 1 (mkCells [⟨t, x, q, 1, ⟨#[]⟩⟩]) rfl rfl (World.news_of_block (cs := #[.int .i64 t, .string x, .int .u64 (q : Int), .int .i64 1, .string ⟨#[]⟩]) (t := 50) (fr := (0, 0)) (heap_alloc_new w3 _)) mk_one (by unfold maxLen; omega) (by omega) (by have := HG.out.2.size; simp; omega) ?_; intro v4 w4 hown4 hgrow4 _; obtain ⟨a4, c4, rfl⟩ := row_shape hown4; have HG4 := Lib.hid (And.intro hown4 ((HG.out.2.alloc HG.out.2.size (.cells #[.int .i64 t, .string x, .int .u64 (q : Int), .int .i64 1, .string ⟨#[]⟩] 50)).grown hgrow4 (by have := HG.out.2.size; simp; omega) (fun j hj => (HG.out.1.lt j hj).1))); clear hown4 hgrow4 x0 x1; have c0 : w4.cell? ⟨l, 0, none⟩ = some (.slice (some ⟨g, 0, none⟩) k c) := (by rw [← HL.out]; exact (HW0.out.1.later HG4.out.2).blk.cell 0); have HN4 := Lib.hid (mks_tail (HW0.out.2.at'.below HG4.out.2) HL.out hpl hnc))
          | (at_builtin; go_must (refine wpList_append_row _ rfl _ _ 27 rfl w.heap.size 50 i0 _ 5 56 Tryd.underlying27 hi hz0 hz1 hz2 rfl (by omega) _ (p + 1) (mkCells (ms.take p) ++ mkCells [⟨t, x, q, 1, ⟨#[]⟩⟩]) rfl HG4.out.1 _ (k - p) (c - p) (mkCells (ms.drop p)) rfl HN4.out.1 HN4.out.2.1 HN4.out.2.2 mk_one (by unfold maxLen; omega) (by omega) HG4.out.2.size ?_; intro v5 w5 hown5 hgrow5; rw [HN5.out] at hown5; obtain ⟨a5, c5, rfl⟩ := row_shape hown5; have hb5 := HG4.out.2.grown hgrow5 HG4.out.2.size (fun j hj => (HG4.out.1.lt j hj).1); have hl5 := (HW0.out.1.later hb5).blk; have hturn := RfAt.turn (ms := ms) (base := base) (ms' := IS) hl5 H2.out.bl (HLAST.out _ _ (own_less hown5 HW0.out.1.hB)) rfl; have HT := Lib.hid (And.intro hturn.1 ((RKept.of (B := base) hb5).trans hturn.2)); have c6 : w5.cell? ⟨l, 0, none⟩ = some (.slice (some ⟨g, 0, none⟩) k c) := (by rw [← HL.out]; exact hl5.cell 0); have f6 : w5.frozen? ⟨l, 0, none⟩ = false := hl5.frozen 0; have c8 : (w5.setCell ⟨l, 0, none⟩ (.slice a5 (k + 1) c5)).cell? ⟨l, 0, none⟩ = some (.slice a5 (k + 1) c5) := (by have := hturn.1.blk.cell 0; exact this); clear hl5 hturn hb5 hown5 hgrow5 c0)))
        all_goals (go_ret; exact ⟨by rw [HE0.out]; rfl, ⟨_, by rw [HM0.out]; unfold fullM; rw [if_neg (by rw [HISL.out]; exact hbig)]; exact HT.out.1⟩, HT.out.2⟩)
end Go.Proofs.YtdaelapamkmcaaaDoor
namespace Go.Proofs.YtdaelapamkmcaaaDoor
open Go.RowKit

theorem rbegin_any (base l : Nat) (v : Value) (t : Int) (x : ByteArray) (q : Nat) (ms : List Mk) (w : World) (hx : x.size ≤ maxLen) (h : RfAt base l v ms w) (hs : Srt ms) (hn : ms.length ≤ 1024) :
    Calls Tryd.prog 12 #[.pointer (some ⟨l, 0, none⟩), kyV t x, .int .u64 (q : Int)] w fun e w' => e = .returned (.int .i64 (begE t x q ms)) ∧ (∃ v', RfAt base l v' (begM t x q ms) w') ∧ RKept base w w' := by
  cases hbad : badK t x q with
  | false => exact rbegin_good base l v t x q ms w hx h hs hn hbad
  | true =>
    have e1 : begE t x q ms = 1 := by unfold begE; rw [if_pos hbad]
    have e2 : begM t x q ms = ms := by unfold begM; rw [if_pos hbad]
    rw [e1, e2]
    exact (rbegin_bad base l v t x q ms w hx h hbad).mono fun _ _ ⟨a, b, c⟩ => ⟨a, ⟨v, b⟩, c⟩
end Go.Proofs.YtdaelapamkmcaaaDoor
