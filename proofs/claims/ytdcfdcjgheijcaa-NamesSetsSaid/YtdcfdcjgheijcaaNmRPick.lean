/- names: the reference's Pick. -/
import Derived.Test.YtdcfdcjgheijcaaNmRz
import Derived.Test.YtdcfdcjgheijcaaNmRefHas
namespace Go.Proofs.Ytdcfdcjgheijcaa
open Go.RowKit Go.Lib

/-- A row of one's own, and what lies behind. -/
def OwnB (w0 : World) (v : Value) (n : Nat) (xs : List Value) (w : World) : Prop := w.ownsRow w0.heap.size 43 5 v n xs ∧ Below w0.heap.size w0 w
theorem OwnB.mk {w0 w : World} {v : Value} {n : Nat} {xs : List Value} (h : w.ownsRow w0.heap.size 43 5 v n xs) (hb : Below w0.heap.size w0 w) : OwnB w0 v n xs w := ⟨h, hb⟩
theorem OwnB.later {w0 w w' : World} {v : Value} {n : Nat} {xs : List Value} (h : OwnB w0 v n xs w) (hb : Below w.heap.size w w') : OwnB w0 v n xs w' := ⟨ownsRow_later h.1 hb, Base.later h.2 hb⟩

set_option maxRecDepth 100000 in
set_option maxHeartbeats 2000000 in
theorem rpick_any {sa : Bool} {sl : List (List UInt8)} {a b : Option Addr} {c d : Nat} {n : Nat} {l rs : List Rz} {w : World} (h : TsAt w (.slice a sl.length c) sl) (hr : RzAt w b l) (hl : l.length = n) (hn : n ≤ 1000000) (hx : ∀ r ∈ l, r.x.length ≤ maxLen) (he : l.filter (fun r => nHas okN ⟨sa, sl⟩ r.x) = rs) :
    Calls Try.prog 18 #[.agg #[.bool sa, .slice a sl.length c], .slice b n d] w (RzPost rs w) := by
  obtain ⟨w0, hw0, hb0, p0⟩ := alloc_new w #[.bool sa, .slice a sl.length c] 29
  obtain ⟨i0, hi, hz0, hz1, hz2⟩ := info_parts Try.infoRs
  have HR := Lib.hid (hr.later hb0)
  have HTS := Lib.hid (h.later hb0)
  have HB := Lib.hid hb0
  have HW := Lib.hid hw0
  have HL := Lib.hid hl
  have HX := Lib.hid hx
  have HE := Lib.hid he
  have HP := Lib.hid p0
  obtain ⟨R, hRR⟩ : ∃ R, w.heap.size = R := ⟨_, rfl⟩
  have HRR := Lib.hid hRR
  obtain ⟨p, hp⟩ : ∃ p, nHas okN ⟨sa, sl⟩ = p := ⟨_, rfl⟩
  have HPP := Lib.hid hp
  clear h hb0 hw0 p0 hr hl hx he hp hRR
  go_enter Try.func18, Try.ntmps18
  go_wp2_with fail
  rw [HW.out, HRR.out]
  go_loopw [6, 5] (fun i v wr => ∃ k : Nat, k ≤ n ∧ i = .int .i64 k ∧ wr.ownsRow w0.heap.size 43 5 v ((l.take k).filter (fun r => p r.x)).length (rzCells ((l.take k).filter (fun r => p r.x))) ∧ Below w0.heap.size w0 wr) (fun i _ _ => n - (RowKit.intOf i).toNat)
  case atStart => exact ⟨0, Nat.zero_le _, rfl, ⟨by simp [rzCells], .inl ⟨rfl, by simp⟩⟩, Below.refl _ _⟩
  case round =>
    obtain ⟨k, hk, rfl, hown, hb⟩ := hrel
    by_cases hlt : k < n
    · obtain ⟨r, hr⟩ : ∃ r, l[k]? = some r := ⟨_, List.getElem?_eq_getElem (by have := HL.out; omega)⟩
      obtain ⟨bb, off, rfl, hbl, q0, q1, q2, q3, q4⟩ := HR.out k r hr
      have hxl := HX.out r (List.mem_of_getElem? hr)
      have N1 : CellAt wr bb (off + k * 5 + 1) (.string ⟨r.x.toArray⟩) := ⟨Nat.lt_of_lt_of_le hbl hb.size, (hb.cell (p := ⟨bb, _, none⟩) hbl).trans q1⟩
      have PB := HP.out.later hb
      rw [HRR.out] at PB
      have TS := HTS.out.later hb
      have b0 : (0 : Int) ≤ (k : Int) := by omega
      have b1 : (k : Int) < (n : Int) := by omega
      have hsn := rz_snoc p hr
      have hfl : ((l.take k).filter (fun r => p r.x)).length ≤ k := Nat.le_trans (List.length_filter_le _ _) (by rw [List.length_take]; omega)
      have HO := Lib.hid (And.intro hown (And.intro hb (And.intro hsn (And.intro N1 (And.intro PB TS)))))
      have HQ := Lib.hid (And.intro q0 (And.intro q1 (And.intro q2 (And.intro q3 q4))))
      have HXL := Lib.hid (And.intro hxl hbl)
      clear hown hb hsn hr q0 q1 q2 q3 q4 N1 PB TS hxl hbl
      obtain ⟨BB, hBB⟩ : ∃ BB, p r.x = BB := ⟨_, rfl⟩
      have HBB := Lib.hid hBB
      clear hBB
      go_wp2_with fail
      obtain ⟨w1, hw2, hb3⟩ := drew_new wr
      have q4 := HO.out.2.2.2.2.1.later hb3
      have q5 := HO.out.2.2.2.2.2.later hb3
      have q6 := HO.out.2.2.2.1.later hb3
      have q7 := (OwnB.mk HO.out.1 HO.out.2.1).later hb3
      refine wp_region_held_drew (S := (fun w' => w'.cell? ⟨R, 0, none⟩ = some (.bool sa) ∧ w'.cell? ⟨R, 1, none⟩ = some (.slice a sl.length c) ∧ w'.cell? ⟨bb, off + k * 5 + 1, none⟩ = some (.string ⟨r.x.toArray⟩))) (by kernel_rfl) (by rw [hw2]; exact ⟨q4.cell 0, q4.cell 1, q6.2⟩) (fun hHeld => ?_)
      rw [hw2] at hHeld ⊢
      refine wpAnyH_take (i := 0) (oi := { dst := some 14, op := Op.load 29 (Operand.tmp 2), type := 29, pos := "ref.go:121", after := #[], guard := none }) (v := ?v1) rfl (by kernel_rfl) (by kernel_rfl) (by kernel_rfl) (fun _ _ _ h => h) (Or.inl ⟨by rfl, ?hy1⟩) (by assumption) ?rest1
      case hy1 => (intro w1 hSw; (try dsimp only at hSw); obtain ⟨h0, h1, h2⟩ := hSw; go_simp; try with_reducible rfl)
      try simp only [Act.put, List.setIfInBounds_toArray, List.set_cons_zero, List.set_cons_succ]
      refine wpAnyH_take (i := 1) (oi := { dst := some 15, op := Op.move (Operand.tmp 1), type := 38, pos := "ref.go:121", after := #[], guard := none }) (v := ?v2) rfl (by kernel_rfl) (by kernel_rfl) (by kernel_rfl) (fun _ _ _ h => h) (Or.inl ⟨by rfl, ?hy2⟩) (by assumption) ?rest2
      case hy2 => (intro w1 hSw; (try dsimp only at hSw); obtain ⟨h0, h1, h2⟩ := hSw; go_simp; try with_reducible rfl)
      try simp only [Act.put, List.setIfInBounds_toArray, List.set_cons_zero, List.set_cons_succ]
      refine wpAnyH_take (i := 2) (oi := { dst := some 16, op := Op.move (Operand.tmp 6), type := 3, pos := "ref.go:121", after := #[], guard := none }) (v := ?v3) rfl (by kernel_rfl) (by kernel_rfl) (by kernel_rfl) (fun _ _ _ h => h) (Or.inl ⟨by rfl, ?hy3⟩) (by assumption) ?rest3
      case hy3 => (intro w1 hSw; (try dsimp only at hSw); obtain ⟨h0, h1, h2⟩ := hSw; go_simp; try with_reducible rfl)
      try simp only [Act.put, List.setIfInBounds_toArray, List.set_cons_zero, List.set_cons_succ]
      refine wpAnyH_take (i := 3) (oi := { dst := some 17, op := Op.indexAddr 38 (Operand.tmp 15) (Operand.tmp 16), type := 0, pos := "ref.go:121", after := #[{ on := 1, ground := Ground.data }, { on := 2, ground := Ground.data }], guard := none }) (v := ?v4) rfl (by kernel_rfl) (by kernel_rfl) (by kernel_rfl) (fun _ _ _ h => h) (Or.inl ⟨by rfl, ?hy4⟩) (by assumption) ?rest4
      case hy4 => (intro w1 hSw; (try dsimp only at hSw); obtain ⟨h0, h1, h2⟩ := hSw; go_simp; try with_reducible rfl)
      try simp only [Act.put, List.setIfInBounds_toArray, List.set_cons_zero, List.set_cons_succ]
      refine wpAnyH_take (i := 4) (oi := { dst := some 18, op := Op.fieldAddr 43 (Operand.tmp 17) 0, type := 0, pos := "ref.go:121", after := #[{ on := 3, ground := Ground.data }], guard := none }) (v := ?v5) rfl (by kernel_rfl) (by kernel_rfl) (by kernel_rfl) (fun _ _ _ h => h) (Or.inl ⟨by rfl, ?hy5⟩) (by assumption) ?rest5
      case hy5 => (intro w1 hSw; (try dsimp only at hSw); obtain ⟨h0, h1, h2⟩ := hSw; go_simp; try with_reducible rfl)
      try simp only [Act.put, List.setIfInBounds_toArray, List.set_cons_zero, List.set_cons_succ]
      refine wpAnyH_take (i := 5) (oi := { dst := some 19, op := Op.fieldAddr 40 (Operand.tmp 18) 1, type := 0, pos := "ref.go:121", after := #[{ on := 4, ground := Ground.data }], guard := none }) (v := ?v6) rfl (by kernel_rfl) (by kernel_rfl) (by kernel_rfl) (fun _ _ _ h => h) (Or.inl ⟨by rfl, ?hy6⟩) (by assumption) ?rest6
      case hy6 => (intro w1 hSw; (try dsimp only at hSw); obtain ⟨h0, h1, h2⟩ := hSw; go_simp; try with_reducible rfl)
      try simp only [Act.put, List.setIfInBounds_toArray, List.set_cons_zero, List.set_cons_succ]
      refine wpAnyH_take (i := 6) (oi := { dst := some 20, op := Op.load 9 (Operand.tmp 19), type := 9, pos := "ref.go:121", after := #[{ on := 5, ground := Ground.data }], guard := none }) (v := ?v7) rfl (by kernel_rfl) (by kernel_rfl) (by kernel_rfl) (fun _ _ _ h => h) (Or.inl ⟨by rfl, ?hy7⟩) (by assumption) ?rest7
      case hy7 => (intro w1 hSw; (try dsimp only at hSw); obtain ⟨h0, h1, h2⟩ := hSw; go_simp; try with_reducible rfl)
      try simp only [Act.put, List.setIfInBounds_toArray, List.set_cons_zero, List.set_cons_succ]
      refine wpAnyH_ready (rs := [7]) (by kernel_rfl) (by simp) ?_
      refine AllReadyH.cons (o := { dst := some 21, op := Op.call { callee := Callee.value (Operand.func 34), args := #[Operand.tmp 14, Operand.tmp 20], argTypes := #[29, 9] }, type := 4, pos := "ref.go:121", after := #[{ on := 0, ground := Ground.data }, { on := 6, ground := Ground.data }], guard := none }) rfl (fun K hK => ?_) AllReadyH.nil
      go_simp
      refine (rhas_any (sa := sa) q5 HXL.out.1 (by rw [HPP.out, HBB.out])).mono ?_
      rintro e w8 ⟨rfl, hb9⟩
      have q10 := q4.later hb9
      have q11 := q5.later hb9
      have q12 := q6.later hb9
      have q13 := q7.later hb9
      refine hK.out _ _ (⟨q10.cell 0, q10.cell 1, q12.2⟩) (fun hHeld => ?_)
      clear hK K
      try simp only [Act.put, List.setIfInBounds_toArray, List.set_cons_zero, List.set_cons_succ]
      refine wpAnyH_take (i := 8) (oi := { dst := some 7, op := Op.assign (Operand.tmp 21), type := 4, pos := "ref.go:121", after := #[{ on := 7, ground := Ground.data }, { on := 7, ground := Ground.chain }, { on := 0, ground := Ground.phase }, { on := 1, ground := Ground.phase }, { on := 2, ground := Ground.phase }, { on := 3, ground := Ground.phase }, { on := 4, ground := Ground.phase }, { on := 5, ground := Ground.phase }, { on := 6, ground := Ground.phase }, { on := 7, ground := Ground.phase }], guard := none }) (v := ?v8) rfl (by kernel_rfl) (by kernel_rfl) (by kernel_rfl) (fun _ _ _ h => h) (Or.inl ⟨by rfl, ?hy8⟩) (by assumption) ?rest8
      case hy8 => (intro w1 hSw; (try dsimp only at hSw); obtain ⟨h0, h1, h2⟩ := hSw; go_simp; try with_reducible rfl)
      try simp only [Act.put, List.setIfInBounds_toArray, List.set_cons_zero, List.set_cons_succ]
      refine wpAnyH_done (by kernel_rfl) ?_ _
      have HN := Lib.hid (And.intro q13.1 q13.2)
      cases BB with
      | false =>
        have HBV := HBB.out
        have HS := Lib.hid (show (l.take (k + 1)).filter (fun r => p r.x) = (l.take k).filter (fun r => p r.x) by rw [HO.out.2.2.1, HBV]; simp)
        go_wp2_with fail
        go_roundw
        case rel => exact ⟨k + 1, by omega, by go_num, by rw [HS.out]; exact HN.out.1, HN.out.2⟩
        case measure => simp [RowKit.intOf]; omega
      | true =>
        have HBV := HBB.out
        have HS := Lib.hid (show (l.take (k + 1)).filter (fun r => p r.x) = (l.take k).filter (fun r => p r.x) ++ [r] by rw [HO.out.2.2.1, HBV]; simp)
        clear HBV
        have d0 : w8.cell? ⟨bb, off + k * 5, none⟩ = _ := (HN.out.2.cell (p := ⟨bb, _, none⟩) HXL.out.2).trans HQ.out.1
        have d1 : w8.cell? ⟨bb, off + k * 5 + 1, none⟩ = _ := (HN.out.2.cell (p := ⟨bb, _, none⟩) HXL.out.2).trans HQ.out.2.1
        have d2 : w8.cell? ⟨bb, off + k * 5 + 2, none⟩ = _ := (HN.out.2.cell (p := ⟨bb, _, none⟩) HXL.out.2).trans HQ.out.2.2.1
        have d3 : w8.cell? ⟨bb, off + k * 5 + 3, none⟩ = _ := (HN.out.2.cell (p := ⟨bb, _, none⟩) HXL.out.2).trans HQ.out.2.2.2.1
        have d4 : w8.cell? ⟨bb, off + k * 5 + 4, none⟩ = _ := (HN.out.2.cell (p := ⟨bb, _, none⟩) HXL.out.2).trans HQ.out.2.2.2.2
        have hws : w0.heap.size ≤ w8.heap.size := HN.out.2.size
        go_wp2_with (at_builtin; go_must (refine wpList_append_own _ rfl _ _ 38 rfl w0.heap.size 43 i0 _ 5 56 Try.underlying38 hi hz0 hz1 hz2 rfl (by omega) _ _ _ rfl (HN.out.1.alloc _) ⟨w8.heap.size, 0, none⟩ 1 1 (rzCells [r]) rfl rfl (World.news_of_block (cs := #[.int .i64 r.t, .string ⟨r.x.toArray⟩, .int .u64 (r.q : Int), .bool r.g, .string r.s]) (t := 43) (fr := (0, 0)) (heap_alloc_new w8 _)) (rz_one r) (by unfold maxLen; omega) (by omega) (by simp; omega) ?_; intro v' w4 hown4 hgrow4 _))
        have HRow4 := Lib.hid (show w4.ownsRow w0.heap.size 43 5 v' ((l.take (k + 1)).filter (fun r => p r.x)).length (rzCells ((l.take (k + 1)).filter (fun r => p r.x))) by rw [HS.out, rzCells_append, List.length_append]; exact hown4)
        have HB4 := Lib.hid ((HN.out.2.alloc hws (.cells #[.int .i64 r.t, .string ⟨r.x.toArray⟩, .int .u64 (r.q : Int), .bool r.g, .string r.s] 43)).grown hgrow4 (by simp; omega) (fun j hj => (HN.out.1.lt j hj).1))
        clear hown4 hgrow4
        go_wp2_with fail
        go_roundw
        case rel => exact ⟨k + 1, by omega, by go_num, HRow4.out, HB4.out⟩
        case measure => simp [RowKit.intOf]; omega
    · obtain rfl : k = n := by omega
      have hE : l.take k = l := List.take_of_length_le (by have := HL.out; omega)
      rw [hE, ← HPP.out, HE.out] at hown
      obtain ⟨a4, c4, rfl⟩ := owns_slice hown
      have HO := Lib.hid (And.intro hown hb)
      clear hown hb hE
      go_wp2_with fail
      go_ret
      exact ⟨_, _, rfl, rzAt_row HO.out.1, HB.out.trans (HO.out.2.mono HB.out.size)⟩
end Go.Proofs.Ytdcfdcjgheijcaa
