/- ledger: slices.IndexFunc and DeleteFunc of marks (tools/lddel_gen.py). -/
import Derived.Test.YtdaelapamkmcaaaDoorLdMin
import Derived.Laws.CopyRow
namespace Go.Proofs.YtdaelapamkmcaaaDoor
open Go.RowKit

def idxV (p : Mk → Bool) (rs : List Mk) : Int := if rs.any p then (rs.findIdx p : Int) else -1
theorem idx_yes {p : Mk → Bool} {rs : List Mk} {k : Nat} {r : Mk} (hx : rs[k]? = some r) (h0 : (rs.take k).any p = false) (h1 : p r = true) : idxV p rs = (k : Int) := by
  obtain ⟨hk, rfl⟩ := List.getElem?_eq_some_iff.1 hx
  unfold idxV
  rw [if_pos (List.any_eq_true.2 ⟨_, List.getElem_mem hk, h1⟩)]
  have : rs.findIdx p = k := by
    rw [List.findIdx_eq hk]
    refine ⟨h1, fun j hj => ?_⟩
    rw [List.any_eq_false] at h0
    have := h0 (rs[j]) (by rw [List.mem_take_iff_getElem]; exact ⟨j, by omega, rfl⟩)
    simpa using this
  rw [this]
theorem any_take {p : Mk → Bool} {rs : List Mk} {k : Nat} {r : Mk} (hx : rs[k]? = some r) (h0 : (rs.take k).any p = false) (h1 : p r = false) : (rs.take (k + 1)).any p = false := by
  rw [List.take_add_one, hx, List.any_append, h0]; simp [h1]
theorem filter_of_none {p : Mk → Bool} {l : List Mk} (h : l.any p = false) : (l.filter fun m => !p m) = l := by
  rw [List.filter_eq_self]
  intro m hm
  rw [List.any_eq_false] at h
  have := h m hm
  simpa using this
theorem idx_split (p : Mk → Bool) (ms : List Mk) : (idxV p ms = -1 ∧ (ms.filter fun m => !p m) = ms) ∨ ∃ (k : Nat) (m : Mk), ms[k]? = some m ∧ idxV p ms = (k : Int) ∧ p m = true ∧ ((ms.take k).filter fun m => !p m) = ms.take k := by
  by_cases h : ms.any p = true
  · right
    have hlt : ms.findIdx p < ms.length := List.findIdx_lt_length_of_exists (List.any_eq_true.1 h)
    refine ⟨ms.findIdx p, ms[ms.findIdx p], List.getElem?_eq_getElem hlt, by unfold idxV; rw [if_pos h], List.findIdx_getElem (w := hlt), ?_⟩
    refine filter_of_none ?_
    rw [List.any_eq_false]
    intro m hm
    obtain ⟨i, hi, rfl⟩ := List.mem_take_iff_getElem.1 hm
    have := List.not_of_lt_findIdx (p := p) (xs := ms) (i := i) (by omega)
    simpa using this
  · left
    have h' : ms.any p = false := by simpa using h
    exact ⟨by unfold idxV; rw [if_neg h], filter_of_none h'⟩
theorem run_clear_wide {P : Program} (σ : Nat) (w : World) (t e ty : TypeId) (z : Value) (ht : P.underlying t = some (.slice e)) (hv : ∀ w, (zeroValue e).run P w = .ok z w) (hz : z.cells.size = σ) (hσ : 0 < σ) (h1 : ∀ v ∈ z.cells, v.oneCell' = true)
    (g o n c : Nat) (cur : Array Value) (T : TypeId) (hn : 0 < n) (hg : w.heap[g]? = some (.cells cur T (0, 0))) (hfit : o + n * σ ≤ cur.size) :
    (Builtin.clear_ #[t] ty #[.slice (some ⟨g, o, none⟩) n c]).run P w = .ok (.tuple #[]) (w.setRow g (splice cur.toList o (Builtin.zeroCells z.cells n).toList).toArray) := by
  have hl : (Builtin.zeroCells z.cells n).toList.length = n * σ := by simp [Builtin.zeroCells, hz]
  have hone : ∀ v ∈ (Builtin.zeroCells z.cells n).toList, v.oneCell' = true := by
    intro v hv
    simp only [Builtin.zeroCells, Array.toList_map, List.mem_map] at hv
    obtain ⟨i, _, rfl⟩ := hv
    have hlt : i % z.cells.size < z.cells.size := Nat.mod_lt _ (by omega)
    rw [getElem!_pos z.cells _ hlt]
    exact h1 _ (Array.getElem_mem hlt)
  have hst := run_storeCells_at (P := P) g o T (Builtin.zeroCells z.cells n).toList 0 cur w hg (by rw [hl]; simpa using hfit) hone
  simp only [Nat.add_zero] at hst
  obtain ⟨m, rfl⟩ : ∃ m, n = m + 1 := ⟨n - 1, by omega⟩
  simp [Builtin.clear_, run_underlying ht, hv, hst, splice]
theorem row_blk {w : World} {base n : Nat} {t : TypeId} {v : Value} {xs : List Value} (h : w.ownsRow base t 5 v n xs) (hn : 0 < n) : ∃ g cap cur, v = .slice (some ⟨g, 0, none⟩) n cap ∧ base ≤ g ∧ Blk w g cur t ∧ n ≤ cap ∧ cap ≤ maxLen ∧ cur.size = cap * 5 ∧ cur.toList.take (n * 5) = xs := by
  rcases h.2 with ⟨_, hx⟩ | ⟨g, cap, cur, hv, hb, hg, h1, h2, h3, h4⟩
  · omega
  · exact ⟨g, cap, cur, hv, hb, hg, h1, h2, h3, h4⟩
theorem blk_row {w : World} {base g cap n : Nat} {t : TypeId} {cur : Array Value} {xs : List Value} (hb : base ≤ g) (hg : Blk w g cur t) (h1 : n ≤ cap) (h2 : cap ≤ maxLen) (h3 : cur.size = cap * 5) (h4 : cur.toList.take (n * 5) = xs) (hl : xs.length = n * 5) : w.ownsRow base t 5 (.slice (some ⟨g, 0, none⟩) n cap) n xs :=
  ⟨hl, .inr ⟨g, cap, cur, rfl, hb, hg, h1, h2, h3, h4⟩⟩
theorem grown_later {w w1 w2 : World} {r : Option Nat} (h : w.grownBy w1 r) (hb : Below w1.heap.size w1 w2) : w.grownBy w2 r := h.trans (grown_weak (grown_of_below hb))
theorem set_take {cs : List Mk} {i : Nat} (m : Mk) (hi : i < cs.length) : (cs.set i m).take (i + 1) = cs.take i ++ [m] := by
  rw [List.take_add_one, List.take_set_of_le (Nat.le_refl _)]
  simp [hi]
theorem filter_take {p : Mk → Bool} {ms : List Mk} {j : Nat} {m : Mk} (h : ms[j]? = some m) : ((ms.take (j + 1)).filter fun m => !p m) = ((ms.take j).filter fun m => !p m) ++ (if p m = true then [] else [m]) := by
  rw [List.take_add_one, h, List.filter_append]
  cases hp : p m <;> simp [hp]

/-- The row of a slice of marks, rid of what a test says. -/
def DelPost (base : Nat) (v : Value) (ms : List Mk) (w : World) (e : Ending) (w' : World) : Prop :=
  ∃ v', e = .returned v' ∧ w'.ownsRow base 49 5 v' ms.length (mkCells ms) ∧ w.grownBy w' v.ownBlock

set_option maxRecDepth 100000 in
set_option maxHeartbeats 1000000 in
theorem idx_pending  (a : Option Addr) (c : Nat) (rs : List Mk) (w : World)  (hr : MksAt w a rs) (hLb : rs.length ≤ 1025) :
    Calls Tryd.prog 45 #[.slice a rs.length c, .func (.func 24) #[] #[]] w fun e w' => e = .returned (.int .i64 (idxV (fun m : Mk => decide (m.s = 1)) rs)) ∧ Below w.heap.size w w' := by
  obtain ⟨L, hL⟩ : ∃ L, rs.length = L := ⟨_, rfl⟩
  rw [hL] at hLb ⊢
  have HL := Lib.hid hL; clear hL
  have HR := Lib.hid hr; clear hr
  skip
  obtain ⟨p, hp⟩ : ∃ p : Mk → Bool, (fun m : Mk => decide (m.s = 1)) = p := ⟨_, rfl⟩
  rw [hp]
  have HP := Lib.hid (fun m => congrFun hp m)
  clear hp
  go_enter Tryd.func45, Tryd.ntmps45
  go_wp2_with fail
  go_loopw [8] (fun i wx => ∃ k : Nat, k ≤ L ∧ i = .int .i64 (k : Int) ∧ (rs.take k).any p = false ∧ Below w.heap.size w wx) (fun i _ => L - (intOf i).toNat)
  case atStart => exact ⟨0, Nat.zero_le _, rfl, rfl, Below.refl _ _⟩
  case round =>
    obtain ⟨k, hk, rfl, hno, hb⟩ := hrel
    have HNO := Lib.hid hno; clear hno
    by_cases hlt : k < L
    · obtain ⟨r, hx⟩ : ∃ r, rs[k]? = some r := ⟨_, List.getElem?_eq_getElem (by have := HL.out; omega)⟩
      obtain ⟨g, off, rfl, hgl, p0, p1, p2, p3, p4⟩ := (HR.out.below hb) k r hx
      have HX := Lib.hid hx; clear hx
      have hc := pending_any r wr
      rw [HP.out r] at hc
      have HC := Lib.hid hc
      clear hc
      cases ho : p r with
      | true =>
        have HO := Lib.hid ho; clear ho
        go_wp2_with fail
        refine HC.out.mono ?_
        rw [HO.out]
        rintro e w1 ⟨rfl, hb1⟩
        go_wp2_with fail
        go_ret
        exact ⟨by rw [idx_yes HX.out HNO.out HO.out]; rfl, hb.trans (hb1.mono hb.size)⟩
      | false =>
        have HO := Lib.hid ho; clear ho
        go_wp2_with fail
        refine HC.out.mono ?_
        rw [HO.out]
        rintro e w1 ⟨rfl, hb1⟩
        go_wp2_with fail
        go_roundw
        case rel => exact ⟨k + 1, by omega, by go_num, any_take HX.out HNO.out HO.out, hb.trans (hb1.mono hb.size)⟩
        case measure => simp [intOf]; omega
    · obtain rfl : k = L := by omega
      have hall : rs.any p = false := by have := HNO.out; rw [List.take_of_length_le (by have := HL.out; omega)] at this; exact this
      have HF := Lib.hid hall; clear hall
      go_wp2_with fail
      go_ret
      exact ⟨by unfold idxV; rw [HF.out]; rfl, hb⟩

set_option maxRecDepth 100000 in
set_option maxHeartbeats 1000000 in
theorem idx_oldest (b : Nat) (o : Mk) (a : Option Addr) (c : Nat) (rs : List Mk) (w : World) (hk : MkBx b o w) (hr : MksAt w a rs) (hLb : rs.length ≤ 1025) :
    Calls Tryd.prog 45 #[.slice a rs.length c, .func (.func 51) #[] #[.pointer (some ⟨b, 0, none⟩)]] w fun e w' => e = .returned (.int .i64 (idxV (fun m : Mk => eqM m o) rs)) ∧ Below w.heap.size w w' := by
  obtain ⟨L, hL⟩ : ∃ L, rs.length = L := ⟨_, rfl⟩
  rw [hL] at hLb ⊢
  have HL := Lib.hid hL; clear hL
  have HR := Lib.hid hr; clear hr
  have HK := Lib.hid hk; clear hk
  obtain ⟨p, hp⟩ : ∃ p : Mk → Bool, (fun m : Mk => eqM m o) = p := ⟨_, rfl⟩
  rw [hp]
  have HP := Lib.hid (fun m => congrFun hp m)
  clear hp
  go_enter Tryd.func45, Tryd.ntmps45
  go_wp2_with fail
  go_loopw [8] (fun i wx => ∃ k : Nat, k ≤ L ∧ i = .int .i64 (k : Int) ∧ (rs.take k).any p = false ∧ Below w.heap.size w wx) (fun i _ => L - (intOf i).toNat)
  case atStart => exact ⟨0, Nat.zero_le _, rfl, rfl, Below.refl _ _⟩
  case round =>
    obtain ⟨k, hk, rfl, hno, hb⟩ := hrel
    have HNO := Lib.hid hno; clear hno
    by_cases hlt : k < L
    · obtain ⟨r, hx⟩ : ∃ r, rs[k]? = some r := ⟨_, List.getElem?_eq_getElem (by have := HL.out; omega)⟩
      obtain ⟨g, off, rfl, hgl, p0, p1, p2, p3, p4⟩ := (HR.out.below hb) k r hx
      have HX := Lib.hid hx; clear hx
      have hc := oldest_any b o r wr (HK.out.later hb)
      rw [HP.out r] at hc
      have HC := Lib.hid hc
      clear hc
      cases ho : p r with
      | true =>
        have HO := Lib.hid ho; clear ho
        go_wp2_with fail
        refine HC.out.mono ?_
        rw [HO.out]
        rintro e w1 ⟨rfl, hb1⟩
        go_wp2_with fail
        go_ret
        exact ⟨by rw [idx_yes HX.out HNO.out HO.out]; rfl, hb.trans (hb1.mono hb.size)⟩
      | false =>
        have HO := Lib.hid ho; clear ho
        go_wp2_with fail
        refine HC.out.mono ?_
        rw [HO.out]
        rintro e w1 ⟨rfl, hb1⟩
        go_wp2_with fail
        go_roundw
        case rel => exact ⟨k + 1, by omega, by go_num, any_take HX.out HNO.out HO.out, hb.trans (hb1.mono hb.size)⟩
        case measure => simp [intOf]; omega
    · obtain rfl : k = L := by omega
      have hall : rs.any p = false := by have := HNO.out; rw [List.take_of_length_le (by have := HL.out; omega)] at this; exact this
      have HF := Lib.hid hall; clear hall
      go_wp2_with fail
      go_ret
      exact ⟨by unfold idxV; rw [HF.out]; rfl, hb⟩

set_option maxRecDepth 100000 in
set_option maxHeartbeats 4000000 in
theorem del_pending  (base : Nat) (v : Value) (ms : List Mk) (w : World)  (hrow : w.ownsRow base 49 5 v ms.length (mkCells ms)) (hLb : ms.length ≤ 1025) :
    Calls Tryd.prog 23 #[v, .func (.func 24) #[] #[]] w (DelPost base v (ms.filter fun m => !(fun m : Mk => decide (m.s = 1)) m) w) := by
  obtain ⟨a, c, rfl⟩ := row_shape hrow
  have hI := idx_pending a c ms w (mksAt_row hrow) hLb
  skip
  obtain ⟨p, hp⟩ : ∃ p : Mk → Bool, (fun m : Mk => decide (m.s = 1)) = p := ⟨_, rfl⟩
  rw [hp] at hI ⊢
  have HP := Lib.hid (fun m => congrFun hp m)
  clear hp
  obtain ⟨L, hL⟩ : ∃ L, ms.length = L := ⟨_, rfl⟩
  rw [hL] at hrow hLb hI ⊢
  have HI := Lib.hid hI
  have HROW := Lib.hid hrow
  have HL := Lib.hid hL
  clear hI hL
  rcases idx_split p ms with ⟨h1, h2⟩ | ⟨k0, m0, hx0, h1, hp0, hf0⟩
  · rw [h1] at HI
    rw [h2]
    clear hrow h1 h2
    go_enter Tryd.func23, Tryd.ntmps23
    go_wp2_with fail
    refine HI.out.mono ?_
    rintro e w1 ⟨rfl, hb⟩
    have HB := Lib.hid hb
    clear hb
    go_wp2_with fail
    go_ret
    exact ⟨_, rfl, by rw [HL.out]; exact own_below HROW.out HB.out, grown_weak (grown_of_below HB.out)⟩
  · rw [h1] at HI
    have hk0 : k0 < L := by have := (List.getElem?_eq_some_iff.1 hx0).1; have := HL.out; omega
    obtain ⟨g, cap, cur0, hv, hbg, hblk0, hnc, hcm, hsz0, htk0⟩ := row_blk hrow (by omega)
    cases hv
    have hcm' : c ≤ 9223372036854775807 := hcm
    have HST := Lib.hid (And.intro hx0 (And.intro hp0 hf0))
    have HCAP := Lib.hid (And.intro hbg (And.intro hnc hcm))
    have hne1 : ((k0 : Int) == -1) = false := by rw [beq_eq_false_iff_ne]; omega
    clear hrow h1 hblk0 hsz0 htk0 hx0 hp0 hf0 hbg
    go_enter Tryd.func23, Tryd.ntmps23
    go_wp2_with fail
    refine HI.out.mono ?_
    rintro e w1 ⟨rfl, hb⟩
    have HB := Lib.hid hb
    have HR1 := Lib.hid (own_below HROW.out hb)
    clear hb
    go_wp2_with fail
    go_loopw [5, 6, 7] (fun vi vj _ wr => ∃ (i j : Nat) (cs : List Mk), vi = .int .i64 (i : Int) ∧ vj = .int .i64 (j : Int) ∧ i < j ∧ j ≤ L ∧ cs.length = L ∧ cs.take i = ((ms.take j).filter fun m => !p m) ∧ cs.drop j = ms.drop j ∧ wr.ownsRow base 49 5 (.slice (some ⟨g, 0, none⟩) L c) L (mkCells cs) ∧ w.grownBy wr (some g)) (fun _ vj _ _ => L - (intOf vj).toNat)
    case atStart => exact ⟨k0, k0 + 1, ms, rfl, by go_num, by omega, by omega, HL.out, by rw [filter_take HST.out.1, HST.out.2.2, if_pos HST.out.2.1, List.append_nil], rfl, HR1.out, grown_weak (grown_of_below HB.out)⟩
    case round =>
      obtain ⟨i, j, cs, rfl, rfl, hij, hjL, hcl, htk, hdr, hown, hgr⟩ := hrel
      obtain ⟨g', c', cur, hv, hbg, hblk, _, _, hsz, hcur⟩ := row_blk hown (by omega)
      cases hv
      by_cases hlt : j < L
      · obtain ⟨m, hx⟩ : ∃ m, ms[j]? = some m := ⟨_, List.getElem?_eq_getElem (by have := HL.out; omega)⟩
        have hxc : cs[j]? = some m := by
          have e := congrArg (fun l => l[0]?) hdr
          simp only [List.getElem?_drop, Nat.add_zero] at e
          rw [e, hx]
        have hMA := mksAt_row (by rw [hcl]; exact hown)
        obtain ⟨g2, off2, ha, hgl, p0, p1, p2, p3, p4⟩ := hMA j m hxc
        simp only [Option.some.injEq, Addr.mk.injEq, and_true] at ha
        obtain ⟨rfl, rfl⟩ := ha
        rw [Nat.zero_add] at p0 p1 p2 p3 p4
        have b1 : (j : Int) < (L : Int) := by omega
        have b0 : (0 : Int) ≤ (j : Int) := by omega
        have b2 : (i : Int) < (L : Int) := by omega
        have b3 : (0 : Int) ≤ (i : Int) := by omega
        obtain ⟨w2, hw2⟩ : ∃ w2, wr.alloc (.cells (mkArr m) 49) = w2 := ⟨_, rfl⟩
        have hb2 : Below wr.heap.size wr w2 := by rw [← hw2]; exact (Below.refl _ _).alloc (Nat.le_refl _) _
        have q2 : Blk w2 wr.heap.size (mkArr m) 49 := by rw [← hw2]; exact Blk.new _ _ _
        have hgr2 : w.grownBy w2 (some g) := grown_later hgr hb2
        have hc := pending_any m w2
        rw [HP.out m] at hc
        have y0 : w2.cell? ⟨wr.heap.size, 0, none⟩ = some (.int .i64 m.t) := q2.cell 0
        have y1 : w2.cell? ⟨wr.heap.size, 1, none⟩ = some (.string m.x) := q2.cell 1
        have y2 : w2.cell? ⟨wr.heap.size, 2, none⟩ = some (.int .u64 (m.q : Int)) := q2.cell 2
        have y3 : w2.cell? ⟨wr.heap.size, 3, none⟩ = some (.int .i64 m.s) := q2.cell 3
        have y4 : w2.cell? ⟨wr.heap.size, 4, none⟩ = some (.string m.d) := q2.cell 4
        have HW2 := Lib.hid hw2
        have HC := Lib.hid hc
        have HOWN := Lib.hid (own_below hown hb2)
        have HQ2 := Lib.hid q2
        have HG2 := Lib.hid hgr2
        have HX := Lib.hid (And.intro (filter_take (p := p) hx) (And.intro htk (And.intro hdr hcl)))
        clear hw2 hc hown q2 hgr2 hgr hx hxc htk hdr hcl hMA hblk hcur hsz hb2 hbg
        go_wp2_with (rw [HW2.out])
        refine HC.out.mono ?_
        rintro e w3 ⟨rfl, hb3⟩
        have q3 := HQ2.out.later hb3
        have hown3 := own_below HOWN.out hb3
        have hgr3 := grown_later HG2.out hb3
        obtain ⟨g', c', cur, hv, hbg, hblk, _, _, hsz, hcur⟩ := row_blk hown3 (by omega)
        cases hv
        have HGR3 := Lib.hid hgr3
        have HOWN3 := Lib.hid hown3
        clear hb3 y0 y1 y2 y3 y4 hgr3 hown3 HC HW2 HOWN HG2 HQ2 hcur p0 p1 p2 p3 p4 hgl
        cases ho : p m with
        | true =>
          have HO := Lib.hid ho; clear ho
          clear hblk hsz
          go_wp2_with fail
          go_roundw
          case rel => exact ⟨i, j + 1, cs, rfl, by go_num, by omega, by omega, HX.out.2.2.2, by rw [HX.out.1, if_pos HO.out, List.append_nil]; exact HX.out.2.1, by rw [← List.drop_drop, ← List.drop_drop, HX.out.2.2.1], HOWN3.out, HGR3.out⟩
          case measure => simp [intOf]; omega
        | false =>
          have HO := Lib.hid ho; clear ho
          have hcc : ∀ u, u < 5 → ∃ old, w3.cell? ⟨g, i * 5 + u, none⟩ = some old := fun u hu => by
            rw [hblk.cell (i * 5 + u)]
            exact ⟨_, Array.getElem?_eq_getElem (by rw [hsz]; omega)⟩
          obtain ⟨o0, z0⟩ := hcc 0 (by omega)
          obtain ⟨o1, z1⟩ := hcc 1 (by omega)
          obtain ⟨o2, z2⟩ := hcc 2 (by omega)
          obtain ⟨o3, z3⟩ := hcc 3 (by omega)
          obtain ⟨o4, z4⟩ := hcc 4 (by omega)
          rw [Nat.add_zero] at z0
          have f0 : w3.frozen? ⟨g, i * 5, none⟩ = false := hblk.frozen (i * 5)
          have f1 := hblk.frozen (i * 5 + 1)
          have f2 := hblk.frozen (i * 5 + 2)
          have f3 := hblk.frozen (i * 5 + 3)
          have f4 := hblk.frozen (i * 5 + 4)
          have y0 : w3.cell? ⟨wr.heap.size, 0, none⟩ = some (.int .i64 m.t) := q3.cell 0
          have y1 : w3.cell? ⟨wr.heap.size, 1, none⟩ = some (.string m.x) := q3.cell 1
          have y2 : w3.cell? ⟨wr.heap.size, 2, none⟩ = some (.int .u64 (m.q : Int)) := q3.cell 2
          have y3 : w3.cell? ⟨wr.heap.size, 3, none⟩ = some (.int .i64 m.s) := q3.cell 3
          have y4 : w3.cell? ⟨wr.heap.size, 4, none⟩ = some (.string m.d) := q3.cell 4
          have hrs := row_set (r := m) HOWN3.out (i := i) (by rw [HX.out.2.2.2]; omega)
          have HRS := Lib.hid (And.intro hrs.1 (HGR3.out.trans hrs.2))
          clear hrs q3 hblk hsz hcc
          go_wp2_with fail
          go_roundw
          case rel => exact ⟨i + 1, j + 1, cs.set i m, by go_num, by go_num, by omega, by omega, by rw [List.length_set]; exact HX.out.2.2.2, by rw [set_take m (by rw [HX.out.2.2.2]; omega), HX.out.1, HX.out.2.1, HO.out]; rfl, by rw [List.drop_set, if_pos (by omega), ← List.drop_drop, ← List.drop_drop, HX.out.2.2.1], HRS.out.1, HRS.out.2⟩
          case measure => simp [intOf]; omega
      · obtain rfl : j = L := by omega
        have hfil : cs.take i = ms.filter fun m => !p m := by rw [htk, List.take_of_length_le (by have := HL.out; omega)]
        have hci : i ≤ cs.length := by omega
        have hjc := HCAP.out.2.1
        have b4 : ¬ (c = i) := by omega
        have b5 : (0 : Int) ≤ (i : Int) := by omega
        have b6 : (i : Int) ≤ (j : Int) := by omega
        have b7 : (i : Int) ≤ (c : Int) := by omega
        have hlen : (cs.take i).length = i := by rw [List.length_take]; omega
        have hZ : ∀ w, (zeroValue 49).run Tryd.prog w = .ok (.agg #[.int .i64 0, .string ⟨#[]⟩, .int .u64 0, .int .i64 0, .string ⟨#[]⟩]) w := fun w => by kernel_rfl
        have hclr : ∀ ty, (Builtin.clear_ #[46] ty #[.slice (some ⟨g, i * 5, none⟩) (j - i) (c - i)]).run Tryd.prog wr = .ok (.tuple #[]) (wr.setRow g (splice cur.toList (i * 5) (Builtin.zeroCells (Value.agg #[.int .i64 0, .string ⟨#[]⟩, .int .u64 0, .int .i64 0, .string ⟨#[]⟩]).cells (j - i)).toList).toArray) := fun ty =>
          run_clear_wide 5 wr 46 49 ty _ Tryd.underlying46 hZ rfl (by omega) (by decide) g (i * 5) (j - i) (c - i) cur 49 (by omega) hblk (by rw [hsz]; omega)
        obtain ⟨Zs, hZs⟩ : ∃ Zs, (Builtin.zeroCells (Value.agg #[.int .i64 0, .string ⟨#[]⟩, .int .u64 0, .int .i64 0, .string ⟨#[]⟩]).cells (j - i)).toList = Zs := ⟨_, rfl⟩
        have hZl : Zs.length = (j - i) * 5 := by rw [← hZs]; simp [Builtin.zeroCells]; rfl
        rw [hZs] at hclr
        have hsp : (splice cur.toList (i * 5) Zs).length = cur.toList.length := length_splice _ _ _ (by rw [hZl, Array.length_toList, hsz]; omega)
        have hfin : (wr.setRow g (splice cur.toList (i * 5) Zs).toArray).ownsRow base 49 5 (.slice (some ⟨g, 0, none⟩) i c) i (mkCells (cs.take i)) := by
          refine blk_row hbg (setRow_heap wr g _ _ _ _ hblk) (by omega) HCAP.out.2.2 (by rw [List.size_toArray, hsp, Array.length_toList, hsz]) ?_ (by rw [mkCells_len, hlen])
          show (splice cur.toList (i * 5) Zs).take (i * 5) = _
          unfold splice
          rw [List.take_append_of_le_length (by rw [List.length_take, Array.length_toList, hsz]; omega), List.take_take, Nat.min_self, mkCells_take cs i hci, ← hcur, List.take_take, Nat.min_eq_left (by omega)]
        have hgf : w.grownBy (wr.setRow g (splice cur.toList (i * 5) Zs).toArray) (some g) := hgr.trans ⟨rfl, rfl, rfl, by simp [World.setRow], fun k _ hne => setRow_other wr g k _ (fun e => hne (by rw [e]))⟩
        have HFIN := Lib.hid (And.intro hfin (And.intro hgf (And.intro hfil hlen)))
        clear hfin hgf hfil hlen hsp hZl hZs hZ htk hdr hcl hown hgr hblk hsz hcur hbg hci
        go_wp2_with fail
        go_ret
        refine ⟨_, rfl, ?_, HFIN.out.2.1⟩
        rw [← HFIN.out.2.2.1, HFIN.out.2.2.2]
        exact HFIN.out.1

set_option maxRecDepth 100000 in
set_option maxHeartbeats 4000000 in
theorem del_oldest (b : Nat) (o : Mk) (base : Nat) (v : Value) (ms : List Mk) (w : World) (hk : MkBx b o w) (hbg : ∀ g, v.ownBlock = some g → b ≠ g) (hrow : w.ownsRow base 49 5 v ms.length (mkCells ms)) (hLb : ms.length ≤ 1025) :
    Calls Tryd.prog 23 #[v, .func (.func 51) #[] #[.pointer (some ⟨b, 0, none⟩)]] w (DelPost base v (ms.filter fun m => !(fun m : Mk => eqM m o) m) w) := by
  obtain ⟨a, c, rfl⟩ := row_shape hrow
  have hI := idx_oldest b o a c ms w hk (mksAt_row hrow) hLb
  have HK := Lib.hid (And.intro hk hbg); clear hk hbg
  obtain ⟨p, hp⟩ : ∃ p : Mk → Bool, (fun m : Mk => eqM m o) = p := ⟨_, rfl⟩
  rw [hp] at hI ⊢
  have HP := Lib.hid (fun m => congrFun hp m)
  clear hp
  obtain ⟨L, hL⟩ : ∃ L, ms.length = L := ⟨_, rfl⟩
  rw [hL] at hrow hLb hI ⊢
  have HI := Lib.hid hI
  have HROW := Lib.hid hrow
  have HL := Lib.hid hL
  clear hI hL
  rcases idx_split p ms with ⟨h1, h2⟩ | ⟨k0, m0, hx0, h1, hp0, hf0⟩
  · rw [h1] at HI
    rw [h2]
    clear hrow h1 h2
    go_enter Tryd.func23, Tryd.ntmps23
    go_wp2_with fail
    refine HI.out.mono ?_
    rintro e w1 ⟨rfl, hb⟩
    have HB := Lib.hid hb
    clear hb
    go_wp2_with fail
    go_ret
    exact ⟨_, rfl, by rw [HL.out]; exact own_below HROW.out HB.out, grown_weak (grown_of_below HB.out)⟩
  · rw [h1] at HI
    have hk0 : k0 < L := by have := (List.getElem?_eq_some_iff.1 hx0).1; have := HL.out; omega
    obtain ⟨g, cap, cur0, hv, hbg, hblk0, hnc, hcm, hsz0, htk0⟩ := row_blk hrow (by omega)
    cases hv
    have hcm' : c ≤ 9223372036854775807 := hcm
    have HST := Lib.hid (And.intro hx0 (And.intro hp0 hf0))
    have HCAP := Lib.hid (And.intro hbg (And.intro hnc hcm))
    have hne1 : ((k0 : Int) == -1) = false := by rw [beq_eq_false_iff_ne]; omega
    clear hrow h1 hblk0 hsz0 htk0 hx0 hp0 hf0 hbg
    go_enter Tryd.func23, Tryd.ntmps23
    go_wp2_with fail
    refine HI.out.mono ?_
    rintro e w1 ⟨rfl, hb⟩
    have HB := Lib.hid hb
    have HR1 := Lib.hid (own_below HROW.out hb)
    clear hb
    go_wp2_with fail
    go_loopw [5, 6, 7] (fun vi vj _ wr => ∃ (i j : Nat) (cs : List Mk), vi = .int .i64 (i : Int) ∧ vj = .int .i64 (j : Int) ∧ i < j ∧ j ≤ L ∧ cs.length = L ∧ cs.take i = ((ms.take j).filter fun m => !p m) ∧ cs.drop j = ms.drop j ∧ wr.ownsRow base 49 5 (.slice (some ⟨g, 0, none⟩) L c) L (mkCells cs) ∧ w.grownBy wr (some g)) (fun _ vj _ _ => L - (intOf vj).toNat)
    case atStart => exact ⟨k0, k0 + 1, ms, rfl, by go_num, by omega, by omega, HL.out, by rw [filter_take HST.out.1, HST.out.2.2, if_pos HST.out.2.1, List.append_nil], rfl, HR1.out, grown_weak (grown_of_below HB.out)⟩
    case round =>
      obtain ⟨i, j, cs, rfl, rfl, hij, hjL, hcl, htk, hdr, hown, hgr⟩ := hrel
      obtain ⟨g', c', cur, hv, hbg, hblk, _, _, hsz, hcur⟩ := row_blk hown (by omega)
      cases hv
      by_cases hlt : j < L
      · obtain ⟨m, hx⟩ : ∃ m, ms[j]? = some m := ⟨_, List.getElem?_eq_getElem (by have := HL.out; omega)⟩
        have hxc : cs[j]? = some m := by
          have e := congrArg (fun l => l[0]?) hdr
          simp only [List.getElem?_drop, Nat.add_zero] at e
          rw [e, hx]
        have hMA := mksAt_row (by rw [hcl]; exact hown)
        obtain ⟨g2, off2, ha, hgl, p0, p1, p2, p3, p4⟩ := hMA j m hxc
        simp only [Option.some.injEq, Addr.mk.injEq, and_true] at ha
        obtain ⟨rfl, rfl⟩ := ha
        rw [Nat.zero_add] at p0 p1 p2 p3 p4
        have b1 : (j : Int) < (L : Int) := by omega
        have b0 : (0 : Int) ≤ (j : Int) := by omega
        have b2 : (i : Int) < (L : Int) := by omega
        have b3 : (0 : Int) ≤ (i : Int) := by omega
        obtain ⟨w2, hw2⟩ : ∃ w2, wr.alloc (.cells (mkArr m) 49) = w2 := ⟨_, rfl⟩
        have hb2 : Below wr.heap.size wr w2 := by rw [← hw2]; exact (Below.refl _ _).alloc (Nat.le_refl _) _
        have q2 : Blk w2 wr.heap.size (mkArr m) 49 := by rw [← hw2]; exact Blk.new _ _ _
        have hgr2 : w.grownBy w2 (some g) := grown_later hgr hb2
        have hc := oldest_any b o m w2 (HK.out.1.kept hgr2 (fun e => HK.out.2 g rfl (Option.some.inj e)))
        rw [HP.out m] at hc
        have y0 : w2.cell? ⟨wr.heap.size, 0, none⟩ = some (.int .i64 m.t) := q2.cell 0
        have y1 : w2.cell? ⟨wr.heap.size, 1, none⟩ = some (.string m.x) := q2.cell 1
        have y2 : w2.cell? ⟨wr.heap.size, 2, none⟩ = some (.int .u64 (m.q : Int)) := q2.cell 2
        have y3 : w2.cell? ⟨wr.heap.size, 3, none⟩ = some (.int .i64 m.s) := q2.cell 3
        have y4 : w2.cell? ⟨wr.heap.size, 4, none⟩ = some (.string m.d) := q2.cell 4
        have HW2 := Lib.hid hw2
        have HC := Lib.hid hc
        have HOWN := Lib.hid (own_below hown hb2)
        have HQ2 := Lib.hid q2
        have HG2 := Lib.hid hgr2
        have HX := Lib.hid (And.intro (filter_take (p := p) hx) (And.intro htk (And.intro hdr hcl)))
        clear hw2 hc hown q2 hgr2 hgr hx hxc htk hdr hcl hMA hblk hcur hsz hb2 hbg
        go_wp2_with (rw [HW2.out])
        refine HC.out.mono ?_
        rintro e w3 ⟨rfl, hb3⟩
        have q3 := HQ2.out.later hb3
        have hown3 := own_below HOWN.out hb3
        have hgr3 := grown_later HG2.out hb3
        obtain ⟨g', c', cur, hv, hbg, hblk, _, _, hsz, hcur⟩ := row_blk hown3 (by omega)
        cases hv
        have HGR3 := Lib.hid hgr3
        have HOWN3 := Lib.hid hown3
        clear hb3 y0 y1 y2 y3 y4 hgr3 hown3 HC HW2 HOWN HG2 HQ2 hcur p0 p1 p2 p3 p4 hgl
        cases ho : p m with
        | true =>
          have HO := Lib.hid ho; clear ho
          clear hblk hsz
          go_wp2_with fail
          go_roundw
          case rel => exact ⟨i, j + 1, cs, rfl, by go_num, by omega, by omega, HX.out.2.2.2, by rw [HX.out.1, if_pos HO.out, List.append_nil]; exact HX.out.2.1, by rw [← List.drop_drop, ← List.drop_drop, HX.out.2.2.1], HOWN3.out, HGR3.out⟩
          case measure => simp [intOf]; omega
        | false =>
          have HO := Lib.hid ho; clear ho
          have hcc : ∀ u, u < 5 → ∃ old, w3.cell? ⟨g, i * 5 + u, none⟩ = some old := fun u hu => by
            rw [hblk.cell (i * 5 + u)]
            exact ⟨_, Array.getElem?_eq_getElem (by rw [hsz]; omega)⟩
          obtain ⟨o0, z0⟩ := hcc 0 (by omega)
          obtain ⟨o1, z1⟩ := hcc 1 (by omega)
          obtain ⟨o2, z2⟩ := hcc 2 (by omega)
          obtain ⟨o3, z3⟩ := hcc 3 (by omega)
          obtain ⟨o4, z4⟩ := hcc 4 (by omega)
          rw [Nat.add_zero] at z0
          have f0 : w3.frozen? ⟨g, i * 5, none⟩ = false := hblk.frozen (i * 5)
          have f1 := hblk.frozen (i * 5 + 1)
          have f2 := hblk.frozen (i * 5 + 2)
          have f3 := hblk.frozen (i * 5 + 3)
          have f4 := hblk.frozen (i * 5 + 4)
          have y0 : w3.cell? ⟨wr.heap.size, 0, none⟩ = some (.int .i64 m.t) := q3.cell 0
          have y1 : w3.cell? ⟨wr.heap.size, 1, none⟩ = some (.string m.x) := q3.cell 1
          have y2 : w3.cell? ⟨wr.heap.size, 2, none⟩ = some (.int .u64 (m.q : Int)) := q3.cell 2
          have y3 : w3.cell? ⟨wr.heap.size, 3, none⟩ = some (.int .i64 m.s) := q3.cell 3
          have y4 : w3.cell? ⟨wr.heap.size, 4, none⟩ = some (.string m.d) := q3.cell 4
          have hrs := row_set (r := m) HOWN3.out (i := i) (by rw [HX.out.2.2.2]; omega)
          have HRS := Lib.hid (And.intro hrs.1 (HGR3.out.trans hrs.2))
          clear hrs q3 hblk hsz hcc
          go_wp2_with fail
          go_roundw
          case rel => exact ⟨i + 1, j + 1, cs.set i m, by go_num, by go_num, by omega, by omega, by rw [List.length_set]; exact HX.out.2.2.2, by rw [set_take m (by rw [HX.out.2.2.2]; omega), HX.out.1, HX.out.2.1, HO.out]; rfl, by rw [List.drop_set, if_pos (by omega), ← List.drop_drop, ← List.drop_drop, HX.out.2.2.1], HRS.out.1, HRS.out.2⟩
          case measure => simp [intOf]; omega
      · obtain rfl : j = L := by omega
        have hfil : cs.take i = ms.filter fun m => !p m := by rw [htk, List.take_of_length_le (by have := HL.out; omega)]
        have hci : i ≤ cs.length := by omega
        have hjc := HCAP.out.2.1
        have b4 : ¬ (c = i) := by omega
        have b5 : (0 : Int) ≤ (i : Int) := by omega
        have b6 : (i : Int) ≤ (j : Int) := by omega
        have b7 : (i : Int) ≤ (c : Int) := by omega
        have hlen : (cs.take i).length = i := by rw [List.length_take]; omega
        have hZ : ∀ w, (zeroValue 49).run Tryd.prog w = .ok (.agg #[.int .i64 0, .string ⟨#[]⟩, .int .u64 0, .int .i64 0, .string ⟨#[]⟩]) w := fun w => by kernel_rfl
        have hclr : ∀ ty, (Builtin.clear_ #[46] ty #[.slice (some ⟨g, i * 5, none⟩) (j - i) (c - i)]).run Tryd.prog wr = .ok (.tuple #[]) (wr.setRow g (splice cur.toList (i * 5) (Builtin.zeroCells (Value.agg #[.int .i64 0, .string ⟨#[]⟩, .int .u64 0, .int .i64 0, .string ⟨#[]⟩]).cells (j - i)).toList).toArray) := fun ty =>
          run_clear_wide 5 wr 46 49 ty _ Tryd.underlying46 hZ rfl (by omega) (by decide) g (i * 5) (j - i) (c - i) cur 49 (by omega) hblk (by rw [hsz]; omega)
        obtain ⟨Zs, hZs⟩ : ∃ Zs, (Builtin.zeroCells (Value.agg #[.int .i64 0, .string ⟨#[]⟩, .int .u64 0, .int .i64 0, .string ⟨#[]⟩]).cells (j - i)).toList = Zs := ⟨_, rfl⟩
        have hZl : Zs.length = (j - i) * 5 := by rw [← hZs]; simp [Builtin.zeroCells]; rfl
        rw [hZs] at hclr
        have hsp : (splice cur.toList (i * 5) Zs).length = cur.toList.length := length_splice _ _ _ (by rw [hZl, Array.length_toList, hsz]; omega)
        have hfin : (wr.setRow g (splice cur.toList (i * 5) Zs).toArray).ownsRow base 49 5 (.slice (some ⟨g, 0, none⟩) i c) i (mkCells (cs.take i)) := by
          refine blk_row hbg (setRow_heap wr g _ _ _ _ hblk) (by omega) HCAP.out.2.2 (by rw [List.size_toArray, hsp, Array.length_toList, hsz]) ?_ (by rw [mkCells_len, hlen])
          show (splice cur.toList (i * 5) Zs).take (i * 5) = _
          unfold splice
          rw [List.take_append_of_le_length (by rw [List.length_take, Array.length_toList, hsz]; omega), List.take_take, Nat.min_self, mkCells_take cs i hci, ← hcur, List.take_take, Nat.min_eq_left (by omega)]
        have hgf : w.grownBy (wr.setRow g (splice cur.toList (i * 5) Zs).toArray) (some g) := hgr.trans ⟨rfl, rfl, rfl, by simp [World.setRow], fun k _ hne => setRow_other wr g k _ (fun e => hne (by rw [e]))⟩
        have HFIN := Lib.hid (And.intro hfin (And.intro hgf (And.intro hfil hlen)))
        clear hfin hgf hfil hlen hsp hZl hZs hZ htk hdr hcl hown hgr hblk hsz hcur hbg hci
        go_wp2_with fail
        go_ret
        refine ⟨_, rfl, ?_, HFIN.out.2.1⟩
        rw [← HFIN.out.2.2.1, HFIN.out.2.2.2]
        exact HFIN.out.1
end Go.Proofs.YtdaelapamkmcaaaDoor
