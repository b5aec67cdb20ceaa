/- names: resources in memory. -/
import Derived.Test.YtdcfdcjgheijcaaNmAsked
namespace Go.Proofs.Ytdcfdcjgheijcaa
open Go.RowKit Go.Lib

/-- A resource. -/
structure Rz where
  t : Int
  x : List UInt8
  q : Nat
  g : Bool
  s : ByteArray
abbrev Rz.cells (r : Rz) : List Value := [.int .i64 r.t, .string ⟨r.x.toArray⟩, .int .u64 (r.q : Int), .bool r.g, .string r.s]
def rzCells (rs : List Rz) : List Value := rs.flatMap Rz.cells
theorem rzCells_append (a b : List Rz) : rzCells (a ++ b) = rzCells a ++ rzCells b := by simp [rzCells]
theorem rzCells_len (rs : List Rz) : (rzCells rs).length = rs.length * 5 := by
  induction rs with
  | nil => rfl
  | cons x xs ih => simp [rzCells] at ih ⊢; omega
/-- Resources at a. -/
def RzAt (w : World) (a : Option Addr) (rs : List Rz) : Prop := ∀ (i : Nat) (r : Rz), rs[i]? = some r → ∃ g off, a = some ⟨g, off, none⟩ ∧ g < w.heap.size ∧
  w.cell? ⟨g, off + i * 5, none⟩ = some (.int .i64 r.t) ∧ w.cell? ⟨g, off + i * 5 + 1, none⟩ = some (.string ⟨r.x.toArray⟩) ∧ w.cell? ⟨g, off + i * 5 + 2, none⟩ = some (.int .u64 (r.q : Int)) ∧ w.cell? ⟨g, off + i * 5 + 3, none⟩ = some (.bool r.g) ∧ w.cell? ⟨g, off + i * 5 + 4, none⟩ = some (.string r.s)
theorem RzAt.below {w w' : World} {a : Option Addr} {rs : List Rz} (h : RzAt w a rs) (hb : Below w.heap.size w w') : RzAt w' a rs := by
  intro i r hi
  obtain ⟨g, off, ha, hg, h0, h1, h2, h3, h4⟩ := h i r hi
  exact ⟨g, off, ha, Nat.lt_of_lt_of_le hg hb.size, (hb.cell (p := ⟨g, _, none⟩) hg).trans h0, (hb.cell (p := ⟨g, _, none⟩) hg).trans h1, (hb.cell (p := ⟨g, _, none⟩) hg).trans h2, (hb.cell (p := ⟨g, _, none⟩) hg).trans h3, (hb.cell (p := ⟨g, _, none⟩) hg).trans h4⟩
theorem RzAt.later {w w' : World} {a : Option Addr} {rs : List Rz} (h : RzAt w a rs) (hb : Below w.heap.size w w') : RzAt w' a rs := h.below hb
theorem rzCells_get : ∀ (rs : List Rz) (i : Nat) (r : Rz), rs[i]? = some r → ∀ j, j < 5 → (rzCells rs)[i * 5 + j]? = r.cells[j]?
  | [], i, x, h, _, _ => by simp at h
  | y :: ys, 0, x, h, j, hj => by
    simp at h; subst h
    have hc : j = 0 ∨ j = 1 ∨ j = 2 ∨ j = 3 ∨ j = 4 := by omega
    rcases hc with rfl | rfl | rfl | rfl | rfl <;> simp [rzCells]
  | y :: ys, i + 1, x, h, j, hj => by
    have := rzCells_get ys i x (by simpa using h) j hj
    have e : (rzCells (y :: ys))[(i + 1) * 5 + j]? = (rzCells ys)[i * 5 + j]? := by
      have : (i + 1) * 5 + j = (i * 5 + j) + 1 + 1 + 1 + 1 + 1 := by omega
      rw [this]; rfl
    rw [e]; exact this
theorem rzAt_row {w : World} {base c : Nat} {a : Option Addr} {rs : List Rz} (h : w.ownsRow base 43 5 (.slice a rs.length c) rs.length (rzCells rs)) : RzAt w a rs := by
  intro i r hi
  have hlt := (List.getElem?_eq_some_iff.1 hi).1
  have hg := rzCells_get rs i r hi
  have h0 := h
  rcases h0.2 with ⟨hv, hx⟩ | ⟨g, cap, cur, hv, _⟩
  · omega
  · simp at hv
    obtain ⟨rfl, rfl⟩ := hv
    have d0 := (h.cellAt (i * 5) (by omega)).trans (hg 0 (by omega))
    have d1 := (h.cellAt (i * 5 + 1) (by omega)).trans (hg 1 (by omega))
    have d2 := (h.cellAt (i * 5 + 2) (by omega)).trans (hg 2 (by omega))
    have d3 := (h.cellAt (i * 5 + 3) (by omega)).trans (hg 3 (by omega))
    have d4 := (h.cellAt (i * 5 + 4) (by omega)).trans (hg 4 (by omega))
    exact ⟨g, 0, rfl, World.block_lt_of_cell? w _ d0, by rw [Nat.zero_add]; exact d0, by rw [Nat.zero_add]; exact d1, by rw [Nat.zero_add]; exact d2, by rw [Nat.zero_add]; exact d3, by rw [Nat.zero_add]; exact d4⟩
theorem Try.infoRs : (Try.prog.info? 43).map (fun i => (i.zero, i.size, i.bytes)) = some (some (.agg #[.int .i64 0, .string ⟨#[]⟩, .int .u64 0, .bool false, .string ⟨#[]⟩]), 5, 56) := by kernel_rfl
/-- Resources come out. -/
def RzPost (rs : List Rz) (w : World) (e : Ending) (w' : World) : Prop := ∃ a c, e = .returned (.slice a rs.length c) ∧ RzAt w' a rs ∧ Below w.heap.size w w'
theorem rz_snoc (p : List UInt8 → Bool) {l : List Rz} {k : Nat} {r : Rz} (h : l[k]? = some r) : (l.take (k + 1)).filter (fun r => p r.x) = (l.take k).filter (fun r => p r.x) ++ if p r.x then [r] else [] := by
  rw [List.take_add_one, h, List.filter_append]
  cases hp : p r.x <;> simp [hp]
theorem rz_one (r : Rz) : ∀ u ∈ rzCells [r], u.oneCell' = true := by intro u hu; simp [rzCells] at hu; rcases hu with rfl | rfl | rfl | rfl | rfl <;> rfl

set_option maxRecDepth 100000 in
set_option maxHeartbeats 2000000 in
theorem pick_any {sa : Bool} {sl : List (List UInt8)} {a b : Option Addr} {c d : Nat} {n : Nat} {l rs : List Rz} {w : World} (h : TsAt w (.slice a sl.length c) sl) (hs : ∀ s ∈ sl, s.length ≤ maxLen) (hr : RzAt w b l) (hl : l.length = n) (hn : n ≤ 1000000) (hx : ∀ r ∈ l, r.x.length ≤ maxLen) (he : l.filter (fun r => nHas okN ⟨sa, sl⟩ r.x) = rs) :
    Calls Try.prog 17 #[.agg #[.bool sa, .slice a sl.length c], .slice b n d] w (RzPost rs w) := by
  obtain ⟨w0, hw0, hb0, p0⟩ := alloc_new w #[.bool sa, .slice a sl.length c] 26
  obtain ⟨i0, hi, hz0, hz1, hz2⟩ := info_parts Try.infoRs
  have HA := Lib.hid (asked_any (sa := sa) (h.later hb0) hs)
  have HR := Lib.hid (hr.later hb0)
  have HB := Lib.hid hb0
  have HW := Lib.hid hw0
  have HL := Lib.hid hl
  have HX := Lib.hid hx
  have HE := Lib.hid he
  have c0 := p0.cell 0
  have c1 := p0.cell 1
  simp only [List.getElem?_toArray, List.getElem?_cons_zero, List.getElem?_cons_succ] at c0 c1
  clear h hb0 hw0 p0 hs hr hl hx he
  go_enter Try.func17, Try.ntmps17
  go_wp2_with fail
  rw [HW.out]
  refine HA.out.mono ?_
  rintro e w1 ⟨g, cp, rfl, hT, hb1⟩
  obtain ⟨p, hp⟩ : ∃ p, nHas okN ⟨sa, sl⟩ = p := ⟨_, rfl⟩
  rw [hp] at hT
  have HP := Lib.hid hp
  have hent := hT.1
  have HT := Lib.hid hT
  have HR1 := Lib.hid (HR.out.later hb1)
  have HB1 := Lib.hid (HB.out.trans (hb1.mono HB.out.size))
  clear hT hb1 hp
  go_wp2_with fail
  go_loopw [13, 5] (fun i v wr => ∃ k : Nat, k ≤ n ∧ i = .int .i64 k ∧ wr.ownsRow w1.heap.size 43 5 v ((l.take k).filter (fun r => p r.x)).length (rzCells ((l.take k).filter (fun r => p r.x))) ∧ Below w1.heap.size w1 wr) (fun i _ _ => n - (RowKit.intOf i).toNat)
  case atStart => exact ⟨0, Nat.zero_le _, rfl, ⟨by simp [rzCells], .inl ⟨rfl, by simp⟩⟩, Below.refl _ _⟩
  case round =>
    obtain ⟨k, hk, rfl, hown, hb⟩ := hrel
    by_cases hlt : k < n
    · obtain ⟨r, hr⟩ : ∃ r, l[k]? = some r := ⟨_, List.getElem?_eq_getElem (by have := HL.out; omega)⟩
      obtain ⟨bb, off, rfl, hbl, q0, q1, q2, q3, q4⟩ := HR1.out k r hr
      have hxl := HX.out r (List.mem_of_getElem? hr)
      have d0 := (hb.cell (p := ⟨bb, _, none⟩) hbl).trans q0
      have d1 := (hb.cell (p := ⟨bb, _, none⟩) hbl).trans q1
      have d2 := (hb.cell (p := ⟨bb, _, none⟩) hbl).trans q2
      have d3 := (hb.cell (p := ⟨bb, _, none⟩) hbl).trans q3
      have d4 := (hb.cell (p := ⟨bb, _, none⟩) hbl).trans q4
      have b0 : (0 : Int) ≤ (k : Int) := by omega
      have b1 : (k : Int) < (n : Int) := by omega
      have hsn := rz_snoc p hr
      have hfl : ((l.take k).filter (fun r => p r.x)).length ≤ k := Nat.le_trans (List.length_filter_le _ _) (by rw [List.length_take]; omega)
      obtain ⟨w2, hw2, hb2, p2⟩ := alloc_new wr #[.int .i64 r.t, .string ⟨r.x.toArray⟩, .int .u64 (r.q : Int), .bool r.g, .string r.s] 43
      have HC2 := Lib.hid (HT.out.2 w2 (Base.later hb hb2) r.x hxl)
      have HO := Lib.hid (And.intro (ownsRow_later hown hb2) (And.intro (Base.later hb hb2) (And.intro hsn p2)))
      have HW2 := Lib.hid hw2
      have e0 := p2.cell 0
      have e1 := p2.cell 1
      have e2 := p2.cell 2
      have e3 := p2.cell 3
      have e4 := p2.cell 4
      simp only [List.getElem?_toArray, List.getElem?_cons_zero, List.getElem?_cons_succ] at e0 e1 e2 e3 e4
      clear hown hb hsn hr q0 q1 q2 q3 q4 hb2 p2 hw2 hxl
      go_wp2_with fail
      rw [HW2.out]
      refine HC2.out.mono ?_
      rintro e w3 ⟨rfl, hb3⟩
      have P3 := HO.out.2.2.2.later hb3
      have f0 := P3.cell 0
      have f1 := P3.cell 1
      have f2 := P3.cell 2
      have f3 := P3.cell 3
      have f4 := P3.cell 4
      simp only [List.getElem?_toArray, List.getElem?_cons_zero, List.getElem?_cons_succ] at f0 f1 f2 f3 f4
      have HO3 := Lib.hid (And.intro (ownsRow_later HO.out.1 hb3) (Base.later HO.out.2.1 hb3))
      clear hb3 P3 e0 e1 e2 e3 e4
      cases hp : p r.x with
      | false =>
        have HS := Lib.hid (show (l.take (k + 1)).filter (fun r => p r.x) = (l.take k).filter (fun r => p r.x) by rw [HO.out.2.2.1, hp]; simp)
        clear hp
        go_wp2_with fail
        go_roundw
        case rel => exact ⟨k + 1, by omega, by go_num, by rw [HS.out]; exact HO3.out.1, HO3.out.2⟩
        case measure => simp [RowKit.intOf]; omega
      | true =>
        have HS := Lib.hid (show (l.take (k + 1)).filter (fun r => p r.x) = (l.take k).filter (fun r => p r.x) ++ [r] by rw [HO.out.2.2.1, hp]; simp)
        clear hp
        have hws : w1.heap.size ≤ w3.heap.size := HO3.out.2.size
        go_wp2_with (at_builtin; go_must (refine wpList_append_own _ rfl _ _ 38 rfl w1.heap.size 43 i0 _ 5 56 Try.underlying38 hi hz0 hz1 hz2 rfl (by omega) _ _ _ rfl (HO3.out.1.alloc _) ⟨w3.heap.size, 0, none⟩ 1 1 (rzCells [r]) rfl rfl (World.news_of_block (cs := #[.int .i64 r.t, .string ⟨r.x.toArray⟩, .int .u64 (r.q : Int), .bool r.g, .string r.s]) (t := 43) (fr := (0, 0)) (heap_alloc_new w3 _)) (rz_one r) (by unfold maxLen; omega) (by omega) (by simp; omega) ?_; intro v' w4 hown4 hgrow4 _))
        have HRow4 := Lib.hid (show w4.ownsRow w1.heap.size 43 5 v' ((l.take (k + 1)).filter (fun r => p r.x)).length (rzCells ((l.take (k + 1)).filter (fun r => p r.x))) by rw [HS.out, rzCells_append, List.length_append]; exact hown4)
        have HB4 := Lib.hid ((HO3.out.2.alloc hws (.cells #[.int .i64 r.t, .string ⟨r.x.toArray⟩, .int .u64 (r.q : Int), .bool r.g, .string r.s] 43)).grown hgrow4 (by simp; omega) (fun j hj => (HO3.out.1.lt j hj).1))
        clear hown4 hgrow4
        go_wp2_with fail
        go_roundw
        case rel => exact ⟨k + 1, by omega, by go_num, HRow4.out, HB4.out⟩
        case measure => simp [RowKit.intOf]; omega
    · obtain rfl : k = n := by omega
      have hE : l.take k = l := List.take_of_length_le (by have := HL.out; omega)
      rw [hE, ← HP.out, HE.out] at hown
      obtain ⟨a4, c4, rfl⟩ := owns_slice hown
      have HO := Lib.hid (And.intro hown hb)
      clear hown hb hE
      go_wp2_with fail
      go_ret
      exact ⟨_, _, rfl, rzAt_row HO.out.1, HB1.out.trans (HO.out.2.mono HB1.out.size)⟩
end Go.Proofs.Ytdcfdcjgheijcaa
