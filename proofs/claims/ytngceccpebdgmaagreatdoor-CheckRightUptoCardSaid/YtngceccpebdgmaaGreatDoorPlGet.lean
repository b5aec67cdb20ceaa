/- payload: takeAll of a payload, and Get: the walks. -/
import Derived.Test.YtngceccpebdgmaaGreatDoorPlListTake
import Derived.Test.YtngceccpebdgmaaGreatDoorPlPutC
namespace Go.Proofs.YtngceccpebdgmaaGreatDoor
open Go.RowKit Go.Shelf

theorem rpay_set {base B : Nat} {w w' : World} {p : Pl} {a3 a6 : Option Addr} {c3 c6 : Nat} {cs : Array Value} (h3 : w.ownsRow base 42 2 (.slice a3 p.rules.length c3) p.rules.length (rlCells p.rules)) (h6 : w.ownsRow base 44 3 (.slice a6 p.addrs.length c6) p.addrs.length (adCells p.addrs)) (hb : Blk w B cs 36) (hg : w.grownBy w' (some B)) :
    w'.ownsRow base 42 2 (.slice a3 p.rules.length c3) p.rules.length (rlCells p.rules) ∧ w'.ownsRow base 44 3 (.slice a6 p.addrs.length c6) p.addrs.length (adCells p.addrs) :=
  ⟨own_other h3 hg (fun g e he => row_block h3 hb (by decide) (by rw [e, he])), own_other h6 hg (fun g e he => row_block h6 hb (by decide) (by rw [e, he]))⟩
theorem payPart_takes {i : Nat} {x : PartV} {w0 : World} {base B : Nat} {b : Addr} (hg : Gv b w0) (hx : PayPart w0 i x) (hB : w0.heap.size ≤ B) (hBb : B < base) : TakesAs w0.heap.size base B (RPay base B) w0 x (Pl.take i) := by
  match i, hx with
  | 0, hx =>
    obtain ⟨bo, bp, bn, bv, rfl, a, b1, c, d⟩ := hx
    refine ⟨enters_of Tryz.func138 (by kernel_rfl) rfl, fun W s f hW hbase hR _ _ _ => ?_⟩
    obtain ⟨a3, c3, a6, c6, hblk, h3, h6, l3, l6⟩ := hR
    have hbo := a.1
    have hbv := d.1
    refine (takePayload_0 B bv bo _ f W hblk rfl (d.below hW) (a.below hW) (by omega) (by omega)).mono ?_
    rintro e w' ⟨rfl, hb, hg'⟩
    obtain ⟨k3, k6⟩ := rpay_set h3 h6 hblk hg'
    exact ⟨BelowBut.grown hg' hbase, rfl, a3, c3, a6, c6, hb, k3, k6, l3, l6⟩
  | 1, hx =>
    obtain ⟨bo, bp, bn, bv, rfl, a, b1, c, d⟩ := hx
    refine ⟨enters_of Tryz.func141 (by kernel_rfl) rfl, fun W s f hW hbase hR _ _ _ => ?_⟩
    obtain ⟨a3, c3, a6, c6, hblk, h3, h6, l3, l6⟩ := hR
    have hbo := a.1
    have hbv := d.1
    refine (takePayload_1 B bv bo _ f W hblk rfl (d.below hW) (a.below hW) (by omega) (by omega)).mono ?_
    rintro e w' ⟨rfl, hb, hg'⟩
    obtain ⟨k3, k6⟩ := rpay_set h3 h6 hblk hg'
    exact ⟨BelowBut.grown hg' hbase, rfl, a3, c3, a6, c6, hb, k3, k6, l3, l6⟩
  | 2, hx =>
    obtain ⟨bo, bp, bn, bv, rfl, a, b1, c, d⟩ := hx
    refine ⟨enters_of Tryz.func138 (by kernel_rfl) rfl, fun W s f hW hbase hR _ _ _ => ?_⟩
    obtain ⟨a3, c3, a6, c6, hblk, h3, h6, l3, l6⟩ := hR
    have hbo := a.1
    have hbv := d.1
    refine (takePayload_2 B bv bo _ f W hblk rfl (d.below hW) (a.below hW) (by omega) (by omega)).mono ?_
    rintro e w' ⟨rfl, hb, hg'⟩
    obtain ⟨k3, k6⟩ := rpay_set h3 h6 hblk hg'
    exact ⟨BelowBut.grown hg' hbase, rfl, a3, c3, a6, c6, hb, k3, k6, l3, l6⟩
  | 3, hx =>
    obtain ⟨bo, bn, bp, gp, cap, rfl, a1, a2, a3, a4⟩ := hx
    exact ⟨enters_of Tryz.func114 (by kernel_rfl) rfl, fun W s f hW hbase hR _ _ hfs => listRule_take base B bo bp gp cap b s f W hR (a1.below hW) (a3.below hW) (a4.below hW) (hg.below hW) hbase hBb hfs⟩
  | 4, hx =>
    obtain ⟨bo, bp, bn, bv, rfl, a, b1, c, d⟩ := hx
    refine ⟨enters_of Tryz.func141 (by kernel_rfl) rfl, fun W s f hW hbase hR _ _ _ => ?_⟩
    obtain ⟨a3, c3, a6, c6, hblk, h3, h6, l3, l6⟩ := hR
    have hbo := a.1
    have hbv := d.1
    refine (takePayload_4 B bv bo _ f W hblk rfl (d.below hW) (a.below hW) (by omega) (by omega)).mono ?_
    rintro e w' ⟨rfl, hb, hg'⟩
    obtain ⟨k3, k6⟩ := rpay_set h3 h6 hblk hg'
    exact ⟨BelowBut.grown hg' hbase, rfl, a3, c3, a6, c6, hb, k3, k6, l3, l6⟩
  | 5, hx =>
    obtain ⟨bo, bp, bn, bv, rfl, a, b1, c, d⟩ := hx
    refine ⟨enters_of Tryz.func138 (by kernel_rfl) rfl, fun W s f hW hbase hR _ _ _ => ?_⟩
    obtain ⟨a3, c3, a6, c6, hblk, h3, h6, l3, l6⟩ := hR
    have hbo := a.1
    have hbv := d.1
    refine (takePayload_5 B bv bo _ f W hblk rfl (d.below hW) (a.below hW) (by omega) (by omega)).mono ?_
    rintro e w' ⟨rfl, hb, hg'⟩
    obtain ⟨k3, k6⟩ := rpay_set h3 h6 hblk hg'
    exact ⟨BelowBut.grown hg' hbase, rfl, a3, c3, a6, c6, hb, k3, k6, l3, l6⟩
  | 6, hx =>
    obtain ⟨bo, bn, bp, gp, cap, rfl, a1, a2, a3, a4⟩ := hx
    exact ⟨enters_of Tryz.func121 (by kernel_rfl) rfl, fun W s f hW hbase hR _ _ hfs => listAddr_take base B bo bp gp cap b s f W hR (a1.below hW) (a3.below hW) (a4.below hW) (hg.below hW) hbase hBb hfs⟩
  | 7, hx =>
    obtain ⟨bo, bp, bn, bv, rfl, a, b1, c, d⟩ := hx
    refine ⟨enters_of Tryz.func138 (by kernel_rfl) rfl, fun W s f hW hbase hR _ _ _ => ?_⟩
    obtain ⟨a3, c3, a6, c6, hblk, h3, h6, l3, l6⟩ := hR
    have hbo := a.1
    have hbv := d.1
    refine (takePayload_7 B bv bo _ f W hblk rfl (d.below hW) (a.below hW) (by omega) (by omega)).mono ?_
    rintro e w' ⟨rfl, hb, hg'⟩
    obtain ⟨k3, k6⟩ := rpay_set h3 h6 hblk hg'
    exact ⟨BelowBut.grown hg' hbase, rfl, a3, c3, a6, c6, hb, k3, k6, l3, l6⟩
  | _ + 8, hx => exact hx.elim
theorem pay_takes {w0 : World} {is : List Nat} {xs : List PartV} {base B : Nat} {b : Addr} (hg : Gv b w0) (hx : PartsIdx w0 is xs) (hB : w0.heap.size ≤ B) (hBb : B < base) : TakeParts w0.heap.size base B (RPay base B) w0 plKind Pl.take is xs :=
  ⟨hx.1, fun j i x hi hj => ⟨(hx.2 j i x hi hj).num.1, (hx.2 j i x hi hj).num.2.1, payPart_takes hg (hx.2 j i x hi hj) hB hBb⟩⟩

theorem rlCells_get : ∀ (rs : List Rl) (i : Nat) (r : Rl), rs[i]? = some r → (rlCells rs)[i * 2]? = some (.string r.pre) ∧ (rlCells rs)[i * 2 + 1]? = some (.string r.clu)
  | [], i, x, h => by simp at h
  | y :: ys, 0, x, h => by simp at h; subst h; simp [rlCells]
  | y :: ys, i + 1, x, h => by
    have := rlCells_get ys i x (by simpa using h)
    have e : ∀ j, (rlCells (y :: ys))[(i + 1) * 2 + j]? = (rlCells ys)[i * 2 + j]? := fun j => by
      have : (i + 1) * 2 + j = (i * 2 + j) + 1 + 1 := by omega
      rw [this]; rfl
    have e0 := e 0
    simp only [Nat.add_zero] at e0
    rw [e0, e 1]; exact this
theorem adCells_get : ∀ (rs : List Ad) (i : Nat) (r : Ad), rs[i]? = some r → (adCells rs)[i * 3]? = some (.string r.host) ∧ (adCells rs)[i * 3 + 1]? = some (.int .u64 (r.port : Int)) ∧ (adCells rs)[i * 3 + 2]? = some (.int .u64 (r.wt : Int))
  | [], i, x, h => by simp at h
  | y :: ys, 0, x, h => by simp at h; subst h; simp [adCells]
  | y :: ys, i + 1, x, h => by
    have := adCells_get ys i x (by simpa using h)
    have e : ∀ j, (adCells (y :: ys))[(i + 1) * 3 + j]? = (adCells ys)[i * 3 + j]? := fun j => by
      have : (i + 1) * 3 + j = (i * 3 + j) + 1 + 1 + 1 := by omega
      rw [this]; rfl
    have e0 := e 0
    simp only [Nat.add_zero] at e0
    rw [e0, e 1, e 2]; exact this
theorem rulesAt_row {w : World} {base c : Nat} {a : Option Addr} {rs : List Rl} (h : w.ownsRow base 42 2 (.slice a rs.length c) rs.length (rlCells rs)) : RulesAt w a rs := by
  intro i r hi
  have hlt := (List.getElem?_eq_some_iff.1 hi).1
  obtain ⟨e0, e1⟩ := rlCells_get rs i r hi
  have h0 := h
  rcases h0.2 with ⟨hv, hx⟩ | ⟨g, cap, cur, hv, _⟩
  · omega
  · simp at hv
    obtain ⟨rfl, rfl⟩ := hv
    have d0 := (h.cellAt (i * 2) (by omega)).trans e0
    have d1 := (h.cellAt (i * 2 + 1) (by omega)).trans e1
    exact ⟨g, 0, rfl, World.block_lt_of_cell? w _ d0, by rw [Nat.zero_add]; exact d0, by rw [Nat.zero_add]; exact d1⟩
theorem addrsAt_row {w : World} {base c : Nat} {a : Option Addr} {rs : List Ad} (h : w.ownsRow base 44 3 (.slice a rs.length c) rs.length (adCells rs)) : AddrsAt w a rs := by
  intro i r hi
  have hlt := (List.getElem?_eq_some_iff.1 hi).1
  obtain ⟨e0, e1, e2⟩ := adCells_get rs i r hi
  have h0 := h
  rcases h0.2 with ⟨hv, hx⟩ | ⟨g, cap, cur, hv, _⟩
  · omega
  · simp at hv
    obtain ⟨rfl, rfl⟩ := hv
    have d0 := (h.cellAt (i * 3) (by omega)).trans e0
    have d1 := (h.cellAt (i * 3 + 1) (by omega)).trans e1
    have d2 := (h.cellAt (i * 3 + 2) (by omega)).trans e2
    exact ⟨g, 0, rfl, World.block_lt_of_cell? w _ d0, by rw [Nat.zero_add]; exact d0, by rw [Nat.zero_add]; exact d1, by rw [Nat.zero_add]; exact d2⟩

theorem set8_own {w : World} {base size n h : Nat} {e : TypeId} {v : Value} {xs : List Value} {u0 u1 u2 u3 u4 u5 u6 u7 : Value} (hh : w.ownsRow base e size v n xs) (hl : h < base) : (((((((((w).setCell ⟨h, 0, none⟩ u0).setCell ⟨h, 1, none⟩ u1).setCell ⟨h, 2, none⟩ u2).setCell ⟨h, 3, none⟩ u3).setCell ⟨h, 4, none⟩ u4).setCell ⟨h, 5, none⟩ u5).setCell ⟨h, 6, none⟩ u6).setCell ⟨h, 7, none⟩ u7).ownsRow base e size v n xs := by
  refine ownsRow_setCell_below ?_ hl _
  refine ownsRow_setCell_below ?_ hl _
  refine ownsRow_setCell_below ?_ hl _
  refine ownsRow_setCell_below ?_ hl _
  refine ownsRow_setCell_below ?_ hl _
  refine ownsRow_setCell_below ?_ hl _
  refine ownsRow_setCell_below ?_ hl _
  exact ownsRow_setCell_below hh hl _
abbrev zeroPl : Value := .agg #[.string ⟨#[]⟩, .int .u64 0, .string ⟨#[]⟩, .slice none 0 0, .int .u64 0, .string ⟨#[]⟩, .slice none 0 0, .string ⟨#[]⟩]
def PayPost (r : Option Pl) (w : World) (e : Ending) (w' : World) : Prop := (match r with
  | none => e = .returned (.tuple #[zeroPl, .bool false])
  | some r => ∃ a3 c3 a6 c6, e = .returned (.tuple #[plV r a3 c3 a6 c6, .bool true]) ∧ w'.ownsRow w.heap.size 42 2 (.slice a3 r.rules.length c3) r.rules.length (rlCells r.rules) ∧ w'.ownsRow w.heap.size 44 3 (.slice a6 r.addrs.length c6) r.addrs.length (adCells r.addrs) ∧ r.rules.length ≤ 64 ∧ r.addrs.length ≤ 64) ∧ Below w.heap.size w w'
set_option maxRecDepth 100000 in
set_option maxHeartbeats 4000000 in
theorem takeAllPayload_any (is : List Nat) (xs : List PartV) (g cap n : Nat) (s : ByteArray) (b : Addr) (w : World) (hg : Gv b w) (hn : xs.length = n) (hn64 : n ≤ 64) (hp : PartsAt w g xs) (hx : PartsIdx w is xs) (hs : s.size ≤ 1099511627776) :
    Calls Tryz.prog 67 #[.slice (some ⟨g, 0, none⟩) n cap, .string s] w (PayPost (allOf (Pl.one is) Pl.zero s.data.toList) w) := by
  have HG := Lib.hid hg
  have HX := Lib.hid hx
  have HXP := Lib.hid hp
  have HXL := Lib.hid hn
  have HSZ := Lib.hid hs
  clear hg hx hs hp hn
  go_enter Tryz.func67, Tryz.ntmps67
  go_wp2_with fail
  have up := below_up (below_up (below_f w (.cells #[.string ⟨#[]⟩, .int .u64 0, .string ⟨#[]⟩, .slice none 0 0, .int .u64 0, .string ⟨#[]⟩, .slice none 0 0, .string ⟨#[]⟩] 36)) (.cells #[.string ⟨#[]⟩, .int .u64 0, .string ⟨#[]⟩, .slice none 0 0, .int .u64 0, .string ⟨#[]⟩, .slice none 0 0, .string ⟨#[]⟩] 36)) (.cells #[.string ⟨#[]⟩, .int .u64 0, .string ⟨#[]⟩, .slice none 0 0, .int .u64 0, .string ⟨#[]⟩, .slice none 0 0, .string ⟨#[]⟩] 36)
  obtain ⟨k0, k1, k2⟩ := three_new w (.cells #[.string ⟨#[]⟩, .int .u64 0, .string ⟨#[]⟩, .slice none 0 0, .int .u64 0, .string ⟨#[]⟩, .slice none 0 0, .string ⟨#[]⟩] 36) (.cells #[.string ⟨#[]⟩, .int .u64 0, .string ⟨#[]⟩, .slice none 0 0, .int .u64 0, .string ⟨#[]⟩, .slice none 0 0, .string ⟨#[]⟩] 36) (.cells #[.string ⟨#[]⟩, .int .u64 0, .string ⟨#[]⟩, .slice none 0 0, .int .u64 0, .string ⟨#[]⟩, .slice none 0 0, .string ⟨#[]⟩] 36)
  have HUP := Lib.hid up
  have HK0 := Lib.hid k0
  have HK1 := Lib.hid k1
  have HK2 := Lib.hid k2
  clear up k0 k1 k2
  cases hpar : parse s.data.toList with
  | none =>
    have HPN := Lib.hid hpar
    have HPA := Lib.hid (parse_any s b _ HSZ.out (HG.out.below HUP.out))
    rw [hpar] at HPA
    clear hpar
    refine HPA.out.mono ?_
    rintro e w3 ⟨rfl, hb3⟩
    have m0 := (hb3.block _ (by simp; omega)).trans HK0.out
    have m2 := (hb3.block _ (by simp)).trans HK2.out
    have r0 := (Lib.cell_of_heap m0 0).trans rfl
    have rf0 := Lib.frozen_of_heap m0 0
    have r1 := (Lib.cell_of_heap m0 1).trans rfl
    have rf1 := Lib.frozen_of_heap m0 1
    have r2 := (Lib.cell_of_heap m0 2).trans rfl
    have rf2 := Lib.frozen_of_heap m0 2
    have r3 := (Lib.cell_of_heap m0 3).trans rfl
    have rf3 := Lib.frozen_of_heap m0 3
    have r4 := (Lib.cell_of_heap m0 4).trans rfl
    have rf4 := Lib.frozen_of_heap m0 4
    have r5 := (Lib.cell_of_heap m0 5).trans rfl
    have rf5 := Lib.frozen_of_heap m0 5
    have r6 := (Lib.cell_of_heap m0 6).trans rfl
    have rf6 := Lib.frozen_of_heap m0 6
    have r7 := (Lib.cell_of_heap m0 7).trans rfl
    have rf7 := Lib.frozen_of_heap m0 7
    have z0 := (Lib.cell_of_heap m2 0).trans rfl
    have zf0 := Lib.frozen_of_heap m2 0
    have z1 := (Lib.cell_of_heap m2 1).trans rfl
    have zf1 := Lib.frozen_of_heap m2 1
    have z2 := (Lib.cell_of_heap m2 2).trans rfl
    have zf2 := Lib.frozen_of_heap m2 2
    have z3 := (Lib.cell_of_heap m2 3).trans rfl
    have zf3 := Lib.frozen_of_heap m2 3
    have z4 := (Lib.cell_of_heap m2 4).trans rfl
    have zf4 := Lib.frozen_of_heap m2 4
    have z5 := (Lib.cell_of_heap m2 5).trans rfl
    have zf5 := Lib.frozen_of_heap m2 5
    have z6 := (Lib.cell_of_heap m2 6).trans rfl
    have zf6 := Lib.frozen_of_heap m2 6
    have z7 := (Lib.cell_of_heap m2 7).trans rfl
    have zf7 := Lib.frozen_of_heap m2 7
    have hz3 : w.heap.size + 1 + 1 < w3.heap.size := by have := hb3.size; simp at this; omega
    have HB3 := Lib.hid (HUP.out.trans (hb3.mono (by simp; omega)))
    clear m0 m2 hb3
    go_wp2
    refine bodyPost_ret (v := .tuple #[.agg #[.string ⟨#[]⟩, .int .u64 0, .string ⟨#[]⟩, .slice none 0 0, .int .u64 0, .string ⟨#[]⟩, .slice none 0 0, .string ⟨#[]⟩], .bool false]) (by simp [results, Tryz.results67, go_sem, r0, r1, r2, r3, r4, r5, r6, r7]) rfl ⟨?_, ?_⟩
    · rw [allOf_none HPN.out]
    · exact ((((((((HB3.out.setCell (p := ⟨w.heap.size, 0, none⟩) (Nat.le_refl _) _).setCell (p := ⟨w.heap.size, 1, none⟩) (Nat.le_refl _) _).setCell (p := ⟨w.heap.size, 2, none⟩) (Nat.le_refl _) _).setCell (p := ⟨w.heap.size, 3, none⟩) (Nat.le_refl _) _).setCell (p := ⟨w.heap.size, 4, none⟩) (Nat.le_refl _) _).setCell (p := ⟨w.heap.size, 5, none⟩) (Nat.le_refl _) _).setCell (p := ⟨w.heap.size, 6, none⟩) (Nat.le_refl _) _).setCell (p := ⟨w.heap.size, 7, none⟩) (Nat.le_refl _) _)
  | some fs =>
    have HPS := Lib.hid hpar
    have HPA := Lib.hid (parse_any s b _ HSZ.out (HG.out.below HUP.out))
    rw [hpar] at HPA
    have HPF := Lib.hid (parse_facts _ (Nat.le_refl _) hpar)
    clear hpar
    refine HPA.out.mono ?_
    rintro e w3 ⟨⟨v, rfl, hrow⟩, hb3⟩
    obtain ⟨a, cl, rfl, hfa⟩ := fds_row hrow
    obtain ⟨L, hL⟩ : ∃ L, fs.length = L := ⟨_, rfl⟩
    rw [hL] at hfa ⊢
    have HL := Lib.hid hL
    have HFA := Lib.hid hfa
    have hLm : L ≤ 1099511627776 := by
      have h1 := parse_len _ (Nat.le_refl _) HPS.out
      have h2 := HSZ.out
      have h3 : s.data.toList.length = s.size := by simp
      omega
    have m0 := (hb3.block _ (by simp; omega)).trans HK0.out
    have m1 := (hb3.block _ (by simp)).trans HK1.out
    have m2 := (hb3.block _ (by simp)).trans HK2.out
    have hz3 : w.heap.size + 1 + 1 < w3.heap.size := by have := hb3.size; simp at this; omega
    have HB3 := Lib.hid (HUP.out.trans (hb3.mono (by simp; omega)))
    have HM0 := Lib.hid m0
    have HM1 := Lib.hid m1
    have HM2 := Lib.hid m2
    have HTP := Lib.hid (pay_takes (base := w3.heap.size) (B := w.heap.size + 1) HG.out HX.out (by omega) (by omega))
    clear hrow hL hfa m0 m1 m2 hb3
    go_wp2_with fail
    go_loopw [22] (fun i wr => ∃ (j : Nat) (r : Pl), j ≤ L ∧ i = .int .i64 j ∧ TRel (Pl.one is) fs Pl.zero j r ∧ RPay w3.heap.size (w.heap.size + 1) wr r ∧ BelowBut w3.heap.size (w.heap.size + 1) w3 wr) (fun i _ => L - (intOf i).toNat)
    case atStart => exact ⟨0, Pl.zero, Nat.zero_le _, rfl, rfl, ⟨none, 0, none, 0, HM1.out, World.ownsRow_nil _ _ _ _, World.ownsRow_nil _ _ _ _, by decide, by decide⟩, BelowBut.refl _ _ _⟩
    case round =>
      obtain ⟨j, r, hj, rfl, htr, hr, hbb⟩ := hrel
      have hsz := hbb.size
      have HW := Lib.hid (HB3.out.trans (hbb.below (by omega) (by omega)))
      by_cases hlt : j < L
      · obtain ⟨f, hf⟩ : ∃ f, fs[j]? = some f := ⟨_, List.getElem?_eq_getElem (by have := HL.out; omega)⟩
        obtain ⟨g2, rfl, hg2, hfd⟩ := HFA.out (by omega)
        rw [World.size_alloc, World.size_alloc, World.size_alloc] at hg2
        obtain ⟨c0, c1, c2, c3⟩ := (hbb.fds hfd hfd.1 (by omega)).2 j f hf
        have HF := Lib.hid hf
        have HPR := Lib.hid (HPF.out f (List.mem_of_getElem? hf))
        have HTR := Lib.hid htr
        have HR := Lib.hid hr
        have HBB := Lib.hid hbb
        clear hf hfd htr hr hbb
        have b0 : (0 : Int) ≤ (j : Int) := by omega
        have b1 : (j : Int) < (L : Int) := by omega
        go_wp2_with fail
        refine (takeOnePayload_any (RPay w3.heap.size (w.heap.size + 1)) w.heap.size w3.heap.size (w.heap.size + 1) g cap n plKind Pl.take is xs r f w _ (keeps_Pay _ _) (HXP.out.below (HW.out.trans ((below_f wr _).mono (by omega))) HXP.out.1) HXL.out hn64 HTP.out (HW.out.trans ((below_f wr _).mono (by omega))) (by rw [World.size_alloc]; omega) (by rw [World.size_alloc]; omega) (keeps_Pay _ _ _ _ _ HR.out (below_f wr _)) HPR.out.1 (by have h1 := HPR.out.2; have h2 := HSZ.out; have h3 : s.data.toList.length = s.size := (by simp); omega)).mono ?_
        intro e w5 hpost
        have HBP := Lib.hid (HBB.out.trans ((BelowBut.of (below_f wr _) (by omega)).trans hpost.1))
        have hsz5 := hpost.1.size
        rw [World.size_alloc] at hsz5
        cases ho : Pl.one is r f with
        | none =>
          have hp2 := hpost.2
          rw [show oneOf plKind Pl.take is r f = none from ho] at hp2
          obtain rfl := hp2
          have HBAD := Lib.hid (HTR.out.bad HF.out ho)
          have m0 := (HBP.out.block _ (by omega) (by omega)).trans HM0.out
          have m2 := (HBP.out.block _ (by omega) (by omega)).trans HM2.out
          have r0 := (Lib.cell_of_heap m0 0).trans rfl
          have rf0 := Lib.frozen_of_heap m0 0
          have r1 := (Lib.cell_of_heap m0 1).trans rfl
          have rf1 := Lib.frozen_of_heap m0 1
          have r2 := (Lib.cell_of_heap m0 2).trans rfl
          have rf2 := Lib.frozen_of_heap m0 2
          have r3 := (Lib.cell_of_heap m0 3).trans rfl
          have rf3 := Lib.frozen_of_heap m0 3
          have r4 := (Lib.cell_of_heap m0 4).trans rfl
          have rf4 := Lib.frozen_of_heap m0 4
          have r5 := (Lib.cell_of_heap m0 5).trans rfl
          have rf5 := Lib.frozen_of_heap m0 5
          have r6 := (Lib.cell_of_heap m0 6).trans rfl
          have rf6 := Lib.frozen_of_heap m0 6
          have r7 := (Lib.cell_of_heap m0 7).trans rfl
          have rf7 := Lib.frozen_of_heap m0 7
          have z0 := (Lib.cell_of_heap m2 0).trans rfl
          have zf0 := Lib.frozen_of_heap m2 0
          have z1 := (Lib.cell_of_heap m2 1).trans rfl
          have zf1 := Lib.frozen_of_heap m2 1
          have z2 := (Lib.cell_of_heap m2 2).trans rfl
          have zf2 := Lib.frozen_of_heap m2 2
          have z3 := (Lib.cell_of_heap m2 3).trans rfl
          have zf3 := Lib.frozen_of_heap m2 3
          have z4 := (Lib.cell_of_heap m2 4).trans rfl
          have zf4 := Lib.frozen_of_heap m2 4
          have z5 := (Lib.cell_of_heap m2 5).trans rfl
          have zf5 := Lib.frozen_of_heap m2 5
          have z6 := (Lib.cell_of_heap m2 6).trans rfl
          have zf6 := Lib.frozen_of_heap m2 6
          have z7 := (Lib.cell_of_heap m2 7).trans rfl
          have zf7 := Lib.frozen_of_heap m2 7
          have HB5 := Lib.hid (HB3.out.trans (HBP.out.below (by omega) (by omega)))
          have hz5 : w.heap.size + 1 + 1 < w5.heap.size := by have := HBP.out.size; omega
          clear m0 m2 hpost ho
          go_wp2
          refine bodyPost_ret (v := .tuple #[.agg #[.string ⟨#[]⟩, .int .u64 0, .string ⟨#[]⟩, .slice none 0 0, .int .u64 0, .string ⟨#[]⟩, .slice none 0 0, .string ⟨#[]⟩], .bool false]) (by simp [results, Tryz.results67, go_sem, r0, r1, r2, r3, r4, r5, r6, r7]) rfl ⟨?_, ?_⟩
          · rw [show allOf (Pl.one is) Pl.zero s.data.toList = none from (allOf_some HPS.out).trans HBAD.out]
          · exact ((((((((HB5.out.setCell (p := ⟨w.heap.size, 0, none⟩) (Nat.le_refl _) _).setCell (p := ⟨w.heap.size, 1, none⟩) (Nat.le_refl _) _).setCell (p := ⟨w.heap.size, 2, none⟩) (Nat.le_refl _) _).setCell (p := ⟨w.heap.size, 3, none⟩) (Nat.le_refl _) _).setCell (p := ⟨w.heap.size, 4, none⟩) (Nat.le_refl _) _).setCell (p := ⟨w.heap.size, 5, none⟩) (Nat.le_refl _) _).setCell (p := ⟨w.heap.size, 6, none⟩) (Nat.le_refl _) _).setCell (p := ⟨w.heap.size, 7, none⟩) (Nat.le_refl _) _)
        | some r' =>
          have hp2 := hpost.2
          rw [show oneOf plKind Pl.take is r f = some r' from ho] at hp2
          obtain ⟨rfl, hr5⟩ := hp2
          have HT5 := Lib.hid (HTR.out.step HF.out ho)
          have HR5 := Lib.hid hr5
          clear hpost ho hr5
          go_wp2_with fail
          go_roundw
          case rel => exact ⟨j + 1, r', by omega, by go_num, HT5.out, HR5.out, HBP.out⟩
          case measure => simp [intOf]; omega
      · obtain rfl : j = L := by omega
        have HDN := Lib.hid (htr.done (by have := HL.out; omega))
        have m0 := (hbb.block _ (by omega) (by omega)).trans HM0.out
        obtain ⟨a3, c3, a6, c6, m1, hr3, hr6, hl3, hl6⟩ := hr
        unfold Blk at m1
        have r0 := (Lib.cell_of_heap m0 0).trans rfl
        have rf0 := Lib.frozen_of_heap m0 0
        have r1 := (Lib.cell_of_heap m0 1).trans rfl
        have rf1 := Lib.frozen_of_heap m0 1
        have r2 := (Lib.cell_of_heap m0 2).trans rfl
        have rf2 := Lib.frozen_of_heap m0 2
        have r3 := (Lib.cell_of_heap m0 3).trans rfl
        have rf3 := Lib.frozen_of_heap m0 3
        have r4 := (Lib.cell_of_heap m0 4).trans rfl
        have rf4 := Lib.frozen_of_heap m0 4
        have r5 := (Lib.cell_of_heap m0 5).trans rfl
        have rf5 := Lib.frozen_of_heap m0 5
        have r6 := (Lib.cell_of_heap m0 6).trans rfl
        have rf6 := Lib.frozen_of_heap m0 6
        have r7 := (Lib.cell_of_heap m0 7).trans rfl
        have rf7 := Lib.frozen_of_heap m0 7
        have z0 := (Lib.cell_of_heap m1 0).trans rfl
        have zf0 := Lib.frozen_of_heap m1 0
        have z1 := (Lib.cell_of_heap m1 1).trans rfl
        have zf1 := Lib.frozen_of_heap m1 1
        have z2 := (Lib.cell_of_heap m1 2).trans rfl
        have zf2 := Lib.frozen_of_heap m1 2
        have z3 := (Lib.cell_of_heap m1 3).trans rfl
        have zf3 := Lib.frozen_of_heap m1 3
        have z4 := (Lib.cell_of_heap m1 4).trans rfl
        have zf4 := Lib.frozen_of_heap m1 4
        have z5 := (Lib.cell_of_heap m1 5).trans rfl
        have zf5 := Lib.frozen_of_heap m1 5
        have z6 := (Lib.cell_of_heap m1 6).trans rfl
        have zf6 := Lib.frozen_of_heap m1 6
        have z7 := (Lib.cell_of_heap m1 7).trans rfl
        have zf7 := Lib.frozen_of_heap m1 7
        have H3 := Lib.hid (hr3)
        have H6 := Lib.hid (hr6)
        have HL3 := Lib.hid (show r.rules.length ≤ 64 ∧ r.addrs.length ≤ 64 from ⟨hl3, hl6⟩)
        clear m0 m1 htr hbb hr3 hr6
        go_wp2
        refine bodyPost_ret (v := .tuple #[.agg #[.string r.name, .int .u64 (r.port : Int), .string r.route, .slice a3 r.rules.length c3, .int .u64 (r.policy : Int), .string r.secret, .slice a6 r.addrs.length c6, .string r.key], .bool true]) (by simp [results, Tryz.results67, go_sem, r0, r1, r2, r3, r4, r5, r6, r7]) rfl ⟨?_, ?_⟩
        · rw [show allOf (Pl.one is) Pl.zero s.data.toList = some r from (allOf_some HPS.out).trans HDN.out]
          exact ⟨a3, c3, a6, c6, rfl, ownsRow_base (set8_own H3.out (by omega)) (by omega), ownsRow_base (set8_own H6.out (by omega)) (by omega), HL3.out.1, HL3.out.2⟩
        · exact ((((((((HW.out.setCell (p := ⟨w.heap.size, 0, none⟩) (Nat.le_refl _) _).setCell (p := ⟨w.heap.size, 1, none⟩) (Nat.le_refl _) _).setCell (p := ⟨w.heap.size, 2, none⟩) (Nat.le_refl _) _).setCell (p := ⟨w.heap.size, 3, none⟩) (Nat.le_refl _) _).setCell (p := ⟨w.heap.size, 4, none⟩) (Nat.le_refl _) _).setCell (p := ⟨w.heap.size, 5, none⟩) (Nat.le_refl _) _).setCell (p := ⟨w.heap.size, 6, none⟩) (Nat.le_refl _) _).setCell (p := ⟨w.heap.size, 7, none⟩) (Nat.le_refl _) _)

theorem getOf_no {k : Int} {l : List UInt8} (h : (hasOf k).2 = false) : Pl.getOf k l = none := by unfold Pl.getOf; rw [h]; rfl
theorem getOf_yes {k : Int} {l : List UInt8} (h : (hasOf k).2 = true) : Pl.getOf k l = allOf (Pl.one (hasI k)) Pl.zero l := by unfold Pl.getOf; rw [if_pos h]
set_option maxRecDepth 100000 in
set_option maxHeartbeats 4000000 in
theorem get_any (k : Int) (s : ByteArray) (b : Addr) (w : World) (hg : Gv b w) (hs : s.size ≤ 1099511627776) :
    Calls Tryz.prog 49 #[.int .i64 k, .string s] w (PayPost (Pl.getOf k s.data.toList) w) := by
  have HG := Lib.hid hg
  have HSZ := Lib.hid hs
  clear hg hs
  cases hk : (hasOf k).2 with
  | false =>
    rw [getOf_no hk]
    have HK := Lib.hid hk
    clear hk
    go_enter Tryz.func49, Tryz.ntmps49
    go_wp2_with fail
    refine (partsOf_no k _ HK.out).mono ?_
    rintro e w2 ⟨rfl, rfl⟩
    go_wp2
    refine bodyPost_ret (v := .tuple #[.agg #[.string ⟨#[]⟩, .int .u64 0, .string ⟨#[]⟩, .slice none 0 0, .int .u64 0, .string ⟨#[]⟩, .slice none 0 0, .string ⟨#[]⟩], .bool false]) (by simp [results, Tryz.results49, go_sem]) rfl ⟨rfl, ?_⟩
    exact below_f w _
  | true =>
    rw [getOf_yes hk]
    have HK := Lib.hid hk
    have HL := Lib.hid (hasI_len hk)
    clear hk
    go_enter Tryz.func49, Tryz.ntmps49
    go_wp2_with fail
    refine (partsOf_yes k _ HK.out).mono ?_
    rintro e w2 ⟨⟨v1, v2, xs1, xs2, rfl, htwo, hi1, hi2⟩, hb2⟩
    obtain ⟨g1, cap1, rfl, hp1⟩ := htwo.first (by have := HL.out; have := hi1.1; omega)
    obtain ⟨n1, hn1⟩ : ∃ n1, xs1.length = n1 := ⟨_, rfl⟩
    rw [hn1]
    have HN1 := Lib.hid (show xs1.length = n1 ∧ n1 ≤ 64 by have := HL.out; have := hi1.1; omega)
    have up := (below_f w (.cells #[.string ⟨#[]⟩, .int .u64 0, .string ⟨#[]⟩, .slice none 0 0, .int .u64 0, .string ⟨#[]⟩, .slice none 0 0, .string ⟨#[]⟩] 36)).trans (hb2.mono (by simp))
    have HU := Lib.hid up
    have HP1 := Lib.hid hp1
    have HI1 := Lib.hid hi1
    have m0 := (hb2.block w.heap.size (by simp)).trans (World.alloc_heap_new w _)
    have HM0 := Lib.hid m0
    have hsz : w.heap.size < w2.heap.size := by have := hb2.size; simp at this; omega
    clear up hp1 hi1 hi2 htwo hb2 hn1 m0
    go_wp2_with fail
    refine (takeAllPayload_any (hasI k) xs1 g1 cap1 n1 s b _ (HG.out.below HU.out) HN1.out.1 HN1.out.2 HP1.out HI1.out HSZ.out).mono ?_
    intro e w3 hpost
    have hb3 := hpost.2
    have hpo := hpost.1
    have m0 := (hb3.block w.heap.size hsz).trans HM0.out
    have hsz3 := hb3.size
    have HU3 := Lib.hid (HU.out.trans (hb3.mono HU.out.size))
    clear hb3 hpost
    have r0 := (Lib.cell_of_heap m0 0).trans rfl
    have rf0 := Lib.frozen_of_heap m0 0
    have r1 := (Lib.cell_of_heap m0 1).trans rfl
    have rf1 := Lib.frozen_of_heap m0 1
    have r2 := (Lib.cell_of_heap m0 2).trans rfl
    have rf2 := Lib.frozen_of_heap m0 2
    have r3 := (Lib.cell_of_heap m0 3).trans rfl
    have rf3 := Lib.frozen_of_heap m0 3
    have r4 := (Lib.cell_of_heap m0 4).trans rfl
    have rf4 := Lib.frozen_of_heap m0 4
    have r5 := (Lib.cell_of_heap m0 5).trans rfl
    have rf5 := Lib.frozen_of_heap m0 5
    have r6 := (Lib.cell_of_heap m0 6).trans rfl
    have rf6 := Lib.frozen_of_heap m0 6
    have r7 := (Lib.cell_of_heap m0 7).trans rfl
    have rf7 := Lib.frozen_of_heap m0 7
    cases hr : allOf (Pl.one (hasI k)) Pl.zero s.data.toList with
    | none =>
      rw [hr] at hpo
      simp only at hpo
      subst hpo
      have HR := Lib.hid hr
      clear m0 hr
      go_wp2
      refine bodyPost_ret (v := .tuple #[.agg #[.string ⟨#[]⟩, .int .u64 0, .string ⟨#[]⟩, .slice none 0 0, .int .u64 0, .string ⟨#[]⟩, .slice none 0 0, .string ⟨#[]⟩], .bool false]) (by simp [results, Tryz.results49, go_sem, r0, r1, r2, r3, r4, r5, r6, r7]) rfl ⟨by rw [HR.out], ?_⟩
      exact ((((((((HU3.out.setCell (p := ⟨w.heap.size, 0, none⟩) (Nat.le_refl _) _).setCell (p := ⟨w.heap.size, 1, none⟩) (Nat.le_refl _) _).setCell (p := ⟨w.heap.size, 2, none⟩) (Nat.le_refl _) _).setCell (p := ⟨w.heap.size, 3, none⟩) (Nat.le_refl _) _).setCell (p := ⟨w.heap.size, 4, none⟩) (Nat.le_refl _) _).setCell (p := ⟨w.heap.size, 5, none⟩) (Nat.le_refl _) _).setCell (p := ⟨w.heap.size, 6, none⟩) (Nat.le_refl _) _).setCell (p := ⟨w.heap.size, 7, none⟩) (Nat.le_refl _) _)
    | some r =>
      rw [hr] at hpo
      simp only at hpo
      obtain ⟨a3, c3, a6, c6, rfl, h3, h6, l3, l6⟩ := hpo
      have H3 := Lib.hid h3
      have H6 := Lib.hid h6
      have HL3 := Lib.hid (show r.rules.length ≤ 64 ∧ r.addrs.length ≤ 64 from ⟨l3, l6⟩)
      have HR := Lib.hid hr
      clear m0 hr h3 h6
      go_wp2
      refine bodyPost_ret (v := .tuple #[.agg #[.string r.name, .int .u64 (r.port : Int), .string r.route, .slice a3 r.rules.length c3, .int .u64 (r.policy : Int), .string r.secret, .slice a6 r.addrs.length c6, .string r.key], .bool true]) (by simp [results, Tryz.results49, go_sem, r0, r1, r2, r3, r4, r5, r6, r7]) rfl ⟨?_, ?_⟩
      · rw [HR.out]
        exact ⟨a3, c3, a6, c6, rfl, ownsRow_base (set8_own H3.out hsz) (by omega), ownsRow_base (set8_own H6.out hsz) (by omega), HL3.out.1, HL3.out.2⟩
      · exact ((((((((HU3.out.setCell (p := ⟨w.heap.size, 0, none⟩) (Nat.le_refl _) _).setCell (p := ⟨w.heap.size, 1, none⟩) (Nat.le_refl _) _).setCell (p := ⟨w.heap.size, 2, none⟩) (Nat.le_refl _) _).setCell (p := ⟨w.heap.size, 3, none⟩) (Nat.le_refl _) _).setCell (p := ⟨w.heap.size, 4, none⟩) (Nat.le_refl _) _).setCell (p := ⟨w.heap.size, 5, none⟩) (Nat.le_refl _) _).setCell (p := ⟨w.heap.size, 6, none⟩) (Nat.le_refl _) _).setCell (p := ⟨w.heap.size, 7, none⟩) (Nat.le_refl _) _)
end Go.Proofs.YtngceccpebdgmaaGreatDoor
