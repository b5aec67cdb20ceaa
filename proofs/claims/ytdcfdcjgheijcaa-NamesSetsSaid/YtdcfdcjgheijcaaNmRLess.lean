/- names: the reference's Less. -/
import Derived.Test.YtdcfdcjgheijcaaNmRefHas
import Derived.Test.YtdcfdcjgheijcaaNmUnionP
import Derived.Test.YtdcfdcjgheijcaaNmRefOf
import Derived.Deep.AppendLies
namespace Go.Proofs.Ytdcfdcjgheijcaa
open Go.RowKit Go.Lib

theorem less_ext {aa ba : Bool} {al bl : List (List UInt8)} (h : Rises al) : nLess ⟨aa, al⟩ ⟨ba, bl⟩ = ⟨aa && !ba, al.filter fun x => !bl.contains x⟩ := by
  refine ns_eq rfl ?_
  exact srt_self (List.Pairwise.sublist List.filter_sublist h)
/-- What the loop holds. -/
structure Rl (w : World) (R : Nat) (aa ba sa : Bool) (av bv : Value) (ns : List (List UInt8)) (a : Option Addr) (c : Nat) (wr : World) : Prop where
  pa : Blk wr R #[.bool aa, av] 29
  pb : Blk wr (R + 1) #[.bool ba, bv] 29
  res : Blk wr (R + 2) #[.bool false, .slice none 0 0] 29
  box : Blk wr (R + 3) #[.bool sa, .slice a ns.length c] 29
  own : wr.ownsRow (R + 4) 9 1 (.slice a ns.length c) ns.length (tsV ns)
  bel : Below w.heap.size w wr
theorem Rl.later {w : World} {R : Nat} {aa ba sa : Bool} {av bv : Value} {ns : List (List UInt8)} {a : Option Addr} {c : Nat} {wr w' : World} (h : Rl w R aa ba sa av bv ns a c wr) (hb : Below wr.heap.size wr w') : Rl w R aa ba sa av bv ns a c w' :=
  ⟨h.pa.later hb, h.pb.later hb, h.res.later hb, h.box.later hb, ownsRow_later h.own hb, h.bel.trans (hb.mono h.bel.size)⟩
/-- Behind the append, ahead of the store. -/
structure Rg (w : World) (R : Nat) (aa ba sa : Bool) (av bv u : Value) (ns : List (List UInt8)) (v : Value) (wr : World) : Prop where
  pa : Blk wr R #[.bool aa, av] 29
  pb : Blk wr (R + 1) #[.bool ba, bv] 29
  res : Blk wr (R + 2) #[.bool false, .slice none 0 0] 29
  box : Blk wr (R + 3) #[.bool sa, u] 29
  own : wr.ownsRow (R + 4) 9 1 v ns.length (tsV ns)
  bel : Below w.heap.size w wr
theorem Rl.grown {w : World} {R : Nat} {aa ba sa : Bool} {av bv v : Value} {ns ns' : List (List UInt8)} {a : Option Addr} {c : Nat} {wr w' : World} (h : Rl w R aa ba sa av bv ns a c wr) (hR : w.heap.size = R) (hg : wr.grownBy w' (Value.slice a ns.length c).ownBlock) (ho : w'.ownsRow (R + 4) 9 1 v ns'.length (tsV ns')) : Rg w R aa ba sa av bv (.slice a ns.length c) ns' v w' := by
  have hlt : ∀ j, (Value.slice a ns.length c).ownBlock = some j → R + 4 ≤ j := fun j hj => (h.own.lt j hj).1
  have hne : ∀ j, j < R + 4 → some j ≠ (Value.slice a ns.length c).ownBlock := fun j hj e => by have := hlt j e.symm; omega
  exact ⟨h.pa.kept hg (hne _ (by omega)), h.pb.kept hg (hne _ (by omega)), h.res.kept hg (hne _ (by omega)), h.box.kept hg (hne _ (by omega)), ho, h.bel.grown hg h.bel.size (fun j hj => by have := hlt j hj; omega)⟩
theorem Rg.later {w : World} {R : Nat} {aa ba sa : Bool} {av bv u v : Value} {ns : List (List UInt8)} {wr w' : World} (h : Rg w R aa ba sa av bv u ns v wr) (hb : Below wr.heap.size wr w') : Rg w R aa ba sa av bv u ns v w' :=
  ⟨h.pa.later hb, h.pb.later hb, h.res.later hb, h.box.later hb, ownsRow_later h.own hb, h.bel.trans (hb.mono h.bel.size)⟩
theorem Rg.store {w : World} {R : Nat} {aa ba sa : Bool} {av bv u : Value} {ns : List (List UInt8)} {n : Nat} {a : Option Addr} {c : Nat} {wr : World} (h : Rg w R aa ba sa av bv u ns (.slice a n c) wr) (hn : ns.length = n) (hR : w.heap.size = R) : Rl w R aa ba sa av bv ns a c (wr.setCell ⟨R + 3, 1, none⟩ (.slice a n c)) where
  pa := h.pa.kept (grown_set wr (R + 3) 1 _) (by simp)
  pb := h.pb.kept (grown_set wr (R + 3) 1 _) (by simp)
  res := h.res.kept (grown_set wr (R + 3) 1 _) (by simp)
  box := by rw [hn]; exact h.box.set 1 _
  own := by rw [hn]; have := ownsRow_setCell_below h.own (a := ⟨R + 3, 1, none⟩) (by show R + 3 < R + 4; omega) (.slice a n c); rw [hn] at this; exact this
  bel := h.bel.setCell (p := ⟨R + 3, 1, none⟩) (by show w.heap.size ≤ R + 3; omega) _
theorem cell_far {w : World} {b o R j : Nat} {v u : Value} (h : w.cell? ⟨b, o, none⟩ = some v) (hn : b ≠ R) : (w.setCell ⟨R, j, none⟩ u).cell? ⟨b, o, none⟩ = some v :=
  (World.cell?_setCell_other _ _ _ _ (by intro e; injection e with e1; exact hn e1.symm)).trans h
theorem filt_snoc (p : List UInt8 → Bool) {l : List (List UInt8)} {k : Nat} {y : List UInt8} (h : l[k]? = some y) : (l.take (k + 1)).filter p = (l.take k).filter p ++ if p y then [y] else [] := by
  rw [List.take_add_one, h, List.filter_append]
  cases hp : p y <;> simp [hp]

set_option maxRecDepth 100000 in
set_option maxHeartbeats 4000000 in
theorem rless_any {aa ba : Bool} {al bl : List (List UInt8)} {a1 a2 : Option Addr} {c1 c2 : Nat} {w : World} {sa : Bool} {sl : List (List UInt8)} (h1 : TsAt w (.slice a1 al.length c1) al) (h2 : TsAt w (.slice a2 bl.length c2) bl) (hf1 : NmFit al) (hr : Rises al) (he : nLess ⟨aa, al⟩ ⟨ba, bl⟩ = ⟨sa, sl⟩) :
    Calls Try.prog 12 #[.agg #[.bool aa, .slice a1 al.length c1], .agg #[.bool ba, .slice a2 bl.length c2]] w (SetPost sa sl w) := by
  rw [less_ext hr] at he
  have he1 : (aa && !ba) = sa := congrArg Ns.all he
  have HSL := Lib.hid (show (al.filter fun x => !bl.contains x) = sl from congrArg Ns.ns he)
  have H1 := Lib.hid h1
  have H2 := Lib.hid h2
  have HF := Lib.hid hf1
  have hz := hf1.2
  obtain ⟨i0, hi, hz0, hz1, hz2⟩ := info_parts Try.infoStr
  obtain ⟨R, hR⟩ : ∃ R, w.heap.size = R := ⟨_, rfl⟩
  have HR := Lib.hid hR
  obtain ⟨w1, hw1, hb1, p1⟩ := alloc_new w #[.bool aa, .slice a1 al.length c1] 29
  obtain ⟨w2, hw2, hb2, p2⟩ := alloc_new w1 #[.bool ba, .slice a2 bl.length c2] 29
  obtain ⟨w3, hw3, hb3, p3⟩ := alloc_new w2 #[.bool false, .slice none 0 0] 29
  obtain ⟨w4, hw4, hb4, p4⟩ := alloc_new w3 #[.bool sa, .slice none 0 0] 29
  have e1 : w1.heap.size = R + 1 := by rw [← hw1, World.size_alloc, hR]
  have e2 : w2.heap.size = R + 2 := by rw [← hw2, World.size_alloc, e1]
  have e3 : w3.heap.size = R + 3 := by rw [← hw3, World.size_alloc, e2]
  have D0 : Rl w R aa ba sa (.slice a1 al.length c1) (.slice a2 bl.length c2) [] none 0 w4 := by
    have q1 := ((p1.later hb2).later hb3).later hb4
    have q2 := (p2.later hb3).later hb4
    have q3 := p3.later hb4
    rw [hR] at q1; rw [e1] at q2; rw [e2] at q3; rw [e3] at p4
    exact ⟨q1, q2, q3, p4, ⟨rfl, .inl ⟨rfl, rfl⟩⟩, Base.later (Base.later (Base.later hb1 hb2) hb3) hb4⟩
  have HD0 := Lib.hid D0
  have hal63 : (al.length : Int) ≤ 9223372036854775807 := by omega
  have h12 : R + 1 + 1 = R + 2 := rfl
  have HW := Lib.hid (And.intro hw1 (And.intro hw2 (And.intro hw3 hw4)))
  clear h1 h2 hf1 he D0 hb1 hb2 hb3 hb4 p1 p2 p3 p4 hw1 hw2 hw3 hw4
  go_enter Try.func12, Try.ntmps12
  cases aa
  all_goals
    simp only [Bool.false_and, Bool.true_and] at he1
    subst he1
    go_wp2_with fail
    rw [HW.out.1, HW.out.2.1, HW.out.2.2.1, HW.out.2.2.2]
    simp only [show R + 2 + 1 = R + 3 from rfl]
  · go_loopw [6] (fun i wr => ∃ (k : Nat) (ns : List (List UInt8)) (a' : Option Addr) (c' : Nat), k ≤ al.length ∧ i = .int .i64 k ∧ (al.take k).filter (fun x => !bl.contains x) = ns ∧ Rl w R false ba false (.slice a1 al.length c1) (.slice a2 bl.length c2) ns a' c' wr) (fun i _ => al.length - (RowKit.intOf i).toNat)
    case atStart => exact ⟨0, _, _, _, Nat.zero_le _, rfl, rfl, HD0.out⟩
    case round =>
      obtain ⟨k, ns, a', c', hk, rfl, hns, hr⟩ := hrel
      have HNS := Lib.hid hns
      have HRo := Lib.hid hr
      have d0 : wr.cell? ⟨R, 1, none⟩ = some (.slice a1 al.length c1) := hr.pa.cell 1
      by_cases hlt : k < al.length
      · obtain ⟨y, hy⟩ : ∃ y, al[k]? = some y := ⟨_, List.getElem?_eq_getElem hlt⟩
        obtain ⟨a1', c1', e1, _, _, h3⟩ := H1.out.out
        injection e1 with q1 _ q3
        subst q1; subst q3
        obtain ⟨b, off, rfl, hbl, hc⟩ := h3 k hlt
        clear h3
        rw [(List.getElem?_eq_some_iff.1 hy).2] at hc
        have d1 : CellAt wr b (off + k) (.string ⟨y.toArray⟩) := ⟨Nat.lt_of_lt_of_le hbl hr.bel.size, (hr.bel.cell (p := ⟨b, _, none⟩) hbl).trans hc⟩
        have T2 := H2.out.below hr.bel
        have b0 : (0 : Int) ≤ (k : Int) := by omega
        have b1 : (k : Int) < (al.length : Int) := by omega
        have hbR : b < R := by have := HR.out; omega
        have hns1 := filt_snoc (fun x => !bl.contains x) hy
        rw [hns] at hns1
        have hnl : ns.length ≤ k := by rw [← hns]; exact Nat.le_trans (List.length_filter_le _ _) (by rw [List.length_take]; omega)
        have HY := Lib.hid hns1
        have DD := Lib.hid (And.intro d1 T2)
        clear hy hc hbl hr hns hns1 d1 T2
        obtain ⟨BB, hBB⟩ : ∃ BB, bl.contains y = BB := ⟨_, rfl⟩
        have HB := Lib.hid hBB
        clear hBB
        go_wp2_with fail
        obtain ⟨w1, hw2, hb3⟩ := drew_new wr
        have q4 := HRo.out.later hb3
        have q5 := DD.out.1.later hb3
        have q6 := DD.out.2.later hb3
        refine wp_region_held_drew (S := (fun w' => w'.cell? ⟨R + 1, 1, none⟩ = some (.slice a2 bl.length c2) ∧ w'.cell? ⟨R, 1, none⟩ = some (.slice (some ⟨b, off, none⟩) al.length c1) ∧ w'.cell? ⟨b, off + k, none⟩ = some (.string ⟨y.toArray⟩))) (by kernel_rfl) (by rw [hw2]; exact ⟨q4.pb.cell 1, q4.pa.cell 1, q5.2⟩) (fun hHeld => ?_)
        rw [hw2] at hHeld ⊢
        refine wpAnyH_take (i := 0) (oi := { dst := some 23, op := Op.fieldAddr 29 (Operand.tmp 3) 1, type := 0, pos := "ref.go:90", after := #[], guard := none }) (v := ?v1001) rfl (by kernel_rfl) (by kernel_rfl) (by kernel_rfl) (fun _ _ _ h => h) (Or.inl ⟨by rfl, ?hy1001⟩) (by assumption) ?rest1001
        case hy1001 => (intro w1 hSw; (try dsimp only at hSw); obtain ⟨h0, h1, h2⟩ := hSw; go_simp; try with_reducible rfl)
        try simp only [Act.put, List.setIfInBounds_toArray, List.set_cons_zero, List.set_cons_succ]
        refine wpAnyH_take (i := 1) (oi := { dst := some 24, op := Op.load 24 (Operand.tmp 23), type := 24, pos := "ref.go:90", after := #[{ on := 0, ground := Ground.data }], guard := none }) (v := ?v1002) rfl (by kernel_rfl) (by kernel_rfl) (by kernel_rfl) (fun _ _ _ h => h) (Or.inl ⟨by rfl, ?hy1002⟩) (by assumption) ?rest1002
        case hy1002 => (intro w1 hSw; (try dsimp only at hSw); obtain ⟨h0, h1, h2⟩ := hSw; go_simp; try with_reducible rfl)
        try simp only [Act.put, List.setIfInBounds_toArray, List.set_cons_zero, List.set_cons_succ]
        refine wpAnyH_take (i := 2) (oi := { dst := some 25, op := Op.fieldAddr 29 (Operand.tmp 2) 1, type := 0, pos := "ref.go:90", after := #[], guard := none }) (v := ?v1003) rfl (by kernel_rfl) (by kernel_rfl) (by kernel_rfl) (fun _ _ _ h => h) (Or.inl ⟨by rfl, ?hy1003⟩) (by assumption) ?rest1003
        case hy1003 => (intro w1 hSw; (try dsimp only at hSw); obtain ⟨h0, h1, h2⟩ := hSw; go_simp; try with_reducible rfl)
        try simp only [Act.put, List.setIfInBounds_toArray, List.set_cons_zero, List.set_cons_succ]
        refine wpAnyH_take (i := 3) (oi := { dst := some 26, op := Op.load 24 (Operand.tmp 25), type := 24, pos := "ref.go:90", after := #[{ on := 2, ground := Ground.data }], guard := none }) (v := ?v1004) rfl (by kernel_rfl) (by kernel_rfl) (by kernel_rfl) (fun _ _ _ h => h) (Or.inl ⟨by rfl, ?hy1004⟩) (by assumption) ?rest1004
        case hy1004 => (intro w1 hSw; (try dsimp only at hSw); obtain ⟨h0, h1, h2⟩ := hSw; go_simp; try with_reducible rfl)
        try simp only [Act.put, List.setIfInBounds_toArray, List.set_cons_zero, List.set_cons_succ]
        refine wpAnyH_take (i := 4) (oi := { dst := some 27, op := Op.move (Operand.tmp 6), type := 3, pos := "ref.go:90", after := #[], guard := none }) (v := ?v1005) rfl (by kernel_rfl) (by kernel_rfl) (by kernel_rfl) (fun _ _ _ h => h) (Or.inl ⟨by rfl, ?hy1005⟩) (by assumption) ?rest1005
        case hy1005 => (intro w1 hSw; (try dsimp only at hSw); obtain ⟨h0, h1, h2⟩ := hSw; go_simp; try with_reducible rfl)
        try simp only [Act.put, List.setIfInBounds_toArray, List.set_cons_zero, List.set_cons_succ]
        refine wpAnyH_take (i := 5) (oi := { dst := some 28, op := Op.indexAddr 24 (Operand.tmp 26) (Operand.tmp 27), type := 0, pos := "ref.go:90", after := #[{ on := 3, ground := Ground.data }, { on := 4, ground := Ground.data }], guard := none }) (v := ?v1006) rfl (by kernel_rfl) (by kernel_rfl) (by kernel_rfl) (fun _ _ _ h => h) (Or.inl ⟨by rfl, ?hy1006⟩) (by assumption) ?rest1006
        case hy1006 => (intro w1 hSw; (try dsimp only at hSw); obtain ⟨h0, h1, h2⟩ := hSw; go_simp; try with_reducible rfl)
        try simp only [Act.put, List.setIfInBounds_toArray, List.set_cons_zero, List.set_cons_succ]
        refine wpAnyH_take (i := 6) (oi := { dst := some 29, op := Op.load 9 (Operand.tmp 28), type := 9, pos := "ref.go:90", after := #[{ on := 5, ground := Ground.data }], guard := none }) (v := ?v1007) rfl (by kernel_rfl) (by kernel_rfl) (by kernel_rfl) (fun _ _ _ h => h) (Or.inl ⟨by rfl, ?hy1007⟩) (by assumption) ?rest1007
        case hy1007 => (intro w1 hSw; (try dsimp only at hSw); obtain ⟨h0, h1, h2⟩ := hSw; go_simp; try with_reducible rfl)
        try simp only [Act.put, List.setIfInBounds_toArray, List.set_cons_zero, List.set_cons_succ]
        refine wpAnyH_ready (rs := [7]) (by kernel_rfl) (by simp) ?_
        refine AllReadyH.cons (o := { dst := some 30, op := Op.call { callee := Callee.value (Operand.func 31), args := #[Operand.tmp 24, Operand.tmp 29], argTypes := #[24, 9] }, type := 4, pos := "ref.go:90", after := #[{ on := 1, ground := Ground.data }, { on := 6, ground := Ground.data }], guard := none }) rfl (fun K hK => ?_) AllReadyH.nil
        go_simp
        refine (listed_any (x := y) q6 HB.out).mono ?_
        rintro e w7 ⟨rfl, hb8⟩
        have q9 := q4.later hb8
        have q10 := q5.later hb8
        have q11 := q6.later hb8
        refine hK.out _ _ (⟨q9.pb.cell 1, q9.pa.cell 1, q10.2⟩) (fun hHeld => ?_)
        clear hK K
        try simp only [Act.put, List.setIfInBounds_toArray, List.set_cons_zero, List.set_cons_succ]
        refine wpAnyH_take (i := 8) (oi := { dst := some 7, op := Op.assign (Operand.tmp 30), type := 4, pos := "ref.go:90", after := #[{ on := 7, ground := Ground.data }, { on := 7, ground := Ground.chain }, { on := 0, ground := Ground.phase }, { on := 1, ground := Ground.phase }, { on := 2, ground := Ground.phase }, { on := 3, ground := Ground.phase }, { on := 4, ground := Ground.phase }, { on := 5, ground := Ground.phase }, { on := 6, ground := Ground.phase }, { on := 7, ground := Ground.phase }], guard := none }) (v := ?v1008) rfl (by kernel_rfl) (by kernel_rfl) (by kernel_rfl) (fun _ _ _ h => h) (Or.inl ⟨by rfl, ?hy1008⟩) (by assumption) ?rest1008
        case hy1008 => (intro w1 hSw; (try dsimp only at hSw); obtain ⟨h0, h1, h2⟩ := hSw; go_simp; try with_reducible rfl)
        try simp only [Act.put, List.setIfInBounds_toArray, List.set_cons_zero, List.set_cons_succ]
        refine wpAnyH_done (by kernel_rfl) ?_ _
        clear d0
        have HD1 := Lib.hid q9
        have HN1 := Lib.hid q10
        cases BB with
        | true =>
          have HB1 := HB.out
          go_wp2_with fail
          go_roundw
          case rel => exact ⟨k + 1, ns, _, _, by omega, by go_num, by rw [HY.out, HB1]; simp, HD1.out⟩
          case measure => simp [RowKit.intOf]; omega
        | false =>
          have HB1 := HB.out
          have d0 := q9.pa.cell 1
          simp only [List.getElem?_toArray, List.getElem?_cons_zero, List.getElem?_cons_succ] at d0
          go_wp2_with fail
          obtain ⟨w12, hw13, hb14⟩ := drew_new w7
          have q15 := HD1.out.later hb14
          have q16 := HN1.out.later hb14
          refine wp_region_held_drew (S := (fun w' => w'.cell? ⟨R, 1, none⟩ = some (.slice (some ⟨b, off, none⟩) al.length c1) ∧ w'.cell? ⟨b, off + k, none⟩ = some (.string ⟨y.toArray⟩))) (by kernel_rfl) (by rw [hw13]; exact ⟨q15.pa.cell 1, q16.2⟩) (fun hHeld => ?_)
          rw [hw13] at hHeld ⊢
          have r1d := q15.box.cell 1
          have g1d := q15.box.frozen 1
          simp only [List.getElem?_toArray, List.getElem?_cons_zero, List.getElem?_cons_succ] at r1d
          refine wpAnyH_take (i := 0) (oi := { dst := some 33, op := Op.fieldAddr 29 (Operand.tmp 5) 1, type := 0, pos := "ref.go:92", after := #[], guard := none }) (v := ?v1101) rfl (by kernel_rfl) (by kernel_rfl) (by kernel_rfl) (fun _ _ _ h => h) (Or.inl ⟨by rfl, ?hy1101⟩) (by assumption) ?rest1101
          case hy1101 => (intro w1 hSw; (try dsimp only at hSw); obtain ⟨h0, h1⟩ := hSw; go_simp; try with_reducible rfl)
          try simp only [Act.put, List.setIfInBounds_toArray, List.set_cons_zero, List.set_cons_succ]
          refine wpAnyH_take (i := 2) (oi := { dst := some 35, op := Op.fieldAddr 29 (Operand.tmp 2) 1, type := 0, pos := "ref.go:92", after := #[], guard := none }) (v := ?v1102) rfl (by kernel_rfl) (by kernel_rfl) (by kernel_rfl) (fun _ _ _ h => h) (Or.inl ⟨by rfl, ?hy1102⟩) (by assumption) ?rest1102
          case hy1102 => (intro w1 hSw; (try dsimp only at hSw); obtain ⟨h0, h1⟩ := hSw; go_simp; try with_reducible rfl)
          try simp only [Act.put, List.setIfInBounds_toArray, List.set_cons_zero, List.set_cons_succ]
          refine wpAnyH_take (i := 3) (oi := { dst := some 36, op := Op.load 24 (Operand.tmp 35), type := 24, pos := "ref.go:92", after := #[{ on := 2, ground := Ground.data }], guard := none }) (v := ?v1103) rfl (by kernel_rfl) (by kernel_rfl) (by kernel_rfl) (fun _ _ _ h => h) (Or.inl ⟨by rfl, ?hy1103⟩) (by assumption) ?rest1103
          case hy1103 => (intro w1 hSw; (try dsimp only at hSw); obtain ⟨h0, h1⟩ := hSw; go_simp; try with_reducible rfl)
          try simp only [Act.put, List.setIfInBounds_toArray, List.set_cons_zero, List.set_cons_succ]
          refine wpAnyH_take (i := 4) (oi := { dst := some 37, op := Op.move (Operand.tmp 6), type := 3, pos := "ref.go:92", after := #[], guard := none }) (v := ?v1104) rfl (by kernel_rfl) (by kernel_rfl) (by kernel_rfl) (fun _ _ _ h => h) (Or.inl ⟨by rfl, ?hy1104⟩) (by assumption) ?rest1104
          case hy1104 => (intro w1 hSw; (try dsimp only at hSw); obtain ⟨h0, h1⟩ := hSw; go_simp; try with_reducible rfl)
          try simp only [Act.put, List.setIfInBounds_toArray, List.set_cons_zero, List.set_cons_succ]
          refine wpAnyH_take (i := 5) (oi := { dst := some 38, op := Op.indexAddr 24 (Operand.tmp 36) (Operand.tmp 37), type := 0, pos := "ref.go:92", after := #[{ on := 3, ground := Ground.data }, { on := 4, ground := Ground.data }], guard := none }) (v := ?v1105) rfl (by kernel_rfl) (by kernel_rfl) (by kernel_rfl) (fun _ _ _ h => h) (Or.inl ⟨by rfl, ?hy1105⟩) (by assumption) ?rest1105
          case hy1105 => (intro w1 hSw; (try dsimp only at hSw); obtain ⟨h0, h1⟩ := hSw; go_simp; try with_reducible rfl)
          try simp only [Act.put, List.setIfInBounds_toArray, List.set_cons_zero, List.set_cons_succ]
          refine wpAnyH_take (i := 6) (oi := { dst := some 39, op := Op.load 9 (Operand.tmp 38), type := 9, pos := "ref.go:92", after := #[{ on := 5, ground := Ground.data }], guard := none }) (v := ?v1106) rfl (by kernel_rfl) (by kernel_rfl) (by kernel_rfl) (fun _ _ _ h => h) (Or.inl ⟨by rfl, ?hy1106⟩) (by assumption) ?rest1106
          case hy1106 => (intro w1 hSw; (try dsimp only at hSw); obtain ⟨h0, h1⟩ := hSw; go_simp; try with_reducible rfl)
          try simp only [Act.put, List.setIfInBounds_toArray, List.set_cons_zero, List.set_cons_succ]
          refine wpAnyH_ready (rs := [1, 7]) (by kernel_rfl) (by simp) ?_
          refine AllReadyH.cons (o := { dst := some 34, op := Op.load 24 (Operand.tmp 33), type := 24, pos := "ref.go:92", after := #[{ on := 0, ground := Ground.data }], guard := none }) rfl (fun K hK => ?_) ?_
          · go_simp
            refine hK.out _ _ (⟨q15.pa.cell 1, q16.2⟩) (fun hHeld => ?_)
            clear hK K
            try simp only [Act.put, List.setIfInBounds_toArray, List.set_cons_zero, List.set_cons_succ]
            refine wpAnyH_ready (rs := [7]) (by kernel_rfl) (by simp) ?_
            refine AllReadyH.cons (o := { dst := some 40, op := Op.buildSlice 24 1 #[(0, Operand.tmp 39)], type := 24, pos := "ref.go:92", after := #[{ on := 6, ground := Ground.data }], guard := none }) rfl (fun K hK => ?_) AllReadyH.nil
            go_simp
            obtain ⟨w17, hw18, hb19, p20⟩ := alloc_new w12 #[.string ⟨y.toArray⟩] 9
            have q21 := q15.later hb19
            have q22 := q16.later hb19
            rw [hw18]
            refine hK.out _ _ (⟨q21.pa.cell 1, q22.2⟩) (fun hHeld => ?_)
            clear hK K
            try simp only [Act.put, List.setIfInBounds_toArray, List.set_cons_zero, List.set_cons_succ]
            refine wpAnyH_ready (rs := [8]) (by kernel_rfl) (by simp) ?_
            refine AllReadyH.cons (o := { dst := some 41, op := Op.call { callee := Callee.builtin Builtin.append, args := #[Operand.tmp 34, Operand.tmp 40], argTypes := #[24, 24] }, type := 24, pos := "ref.go:92", after := #[{ on := 1, ground := Ground.data }, { on := 7, ground := Ground.data }], guard := none }) rfl (fun K hK => ?_) AllReadyH.nil
            skip
            refine step_append_lies _ (by rfl) _ _ _ (by rfl) (R + 4) 9 i0 _ 1 16 Try.underlying24 hi hz0 hz1 hz2 rfl (by omega) _ _ _ (by rfl) q21.own ⟨w12.heap.size, 0, none⟩ 1 1 (tsV [y]) (by rfl) (by rfl) (World.news_of_block (cs := #[.string ⟨y.toArray⟩]) (t := 9) (fr := (0, 0)) p20) (tsV_one _) (by omega) (by unfold maxLen; omega) (by omega) (by have := q21.box.lt; omega) _ rfl ?_
            intro gg cc w23 hown7 hgrow7 _ _
            have hlen7 : (ns ++ [y]).length = ns.length + 1 := by simp
            rw [← tsV_append, ← hlen7] at hown7
            have RG := q21.grown HR.out hgrow7 hown7
            rw [hlen7] at RG
            have NN : CellAt w23 b (off + k) (.string ⟨y.toArray⟩) := ⟨Nat.lt_of_lt_of_le hbR (by have := RG.bel.size; have := HR.out; omega), (RG.bel.cell (p := ⟨b, _, none⟩) (by show b < w.heap.size; have := HR.out; omega)).trans (((q21.bel.cell (p := ⟨b, off + k, none⟩) (by show b < w.heap.size; have := HR.out; omega)).symm.trans q22.2))⟩
            have r7 := RG.box.cell 1
            have g7 := RG.box.frozen 1
            simp only [List.getElem?_toArray, List.getElem?_cons_zero, List.getElem?_cons_succ] at r7
            refine hK.out _ _ (⟨RG.pa.cell 1, NN.2⟩) (fun hHeld => ?_)
            clear hK K
            try simp only [Act.put, List.setIfInBounds_toArray, List.set_cons_zero, List.set_cons_succ]
            refine wpAnyH_take (i := 9) (oi := { dst := some 42, op := Op.fieldAddr 29 (Operand.tmp 5) 1, type := 0, pos := "ref.go:92", after := #[{ on := 0, ground := Ground.phase }, { on := 1, ground := Ground.phase }, { on := 2, ground := Ground.phase }, { on := 3, ground := Ground.phase }, { on := 4, ground := Ground.phase }, { on := 5, ground := Ground.phase }, { on := 6, ground := Ground.phase }, { on := 7, ground := Ground.phase }, { on := 8, ground := Ground.phase }], guard := none }) (v := ?v1107) rfl (by kernel_rfl) (by kernel_rfl) (by kernel_rfl) (fun _ _ _ h => h) (Or.inl ⟨by rfl, ?hy1107⟩) (by assumption) ?rest1107
            case hy1107 => (intro w1 hSw; (try dsimp only at hSw); obtain ⟨h0, h1⟩ := hSw; go_simp; try with_reducible rfl)
            try simp only [Act.put, List.setIfInBounds_toArray, List.set_cons_zero, List.set_cons_succ]
            refine wpAnyH_ready (rs := [10]) (by kernel_rfl) (by simp) ?_
            refine AllReadyH.cons (o := { dst := none, op := Op.store 24 (Operand.tmp 42) (Operand.tmp 41), type := 0, pos := "ref.go:92", after := #[{ on := 9, ground := Ground.data }, { on := 8, ground := Ground.data }, { on := 8, ground := Ground.chain }, { on := 0, ground := Ground.phase }, { on := 1, ground := Ground.phase }, { on := 2, ground := Ground.phase }, { on := 3, ground := Ground.phase }, { on := 4, ground := Ground.phase }, { on := 5, ground := Ground.phase }, { on := 6, ground := Ground.phase }, { on := 7, ground := Ground.phase }, { on := 8, ground := Ground.phase }], guard := none }) rfl (fun K hK => ?_) AllReadyH.nil
            go_simp
            refine hK.out _ _ (⟨cell_far (R := R + 3) (RG.pa.cell 1) (by omega), cell_far (R := R + 3) NN.2 (by omega)⟩) (fun hHeld => ?_)
            clear hK K
            refine wpAnyH_done (by kernel_rfl) ?_ _
            go_wp2_with fail
            go_roundw
            case rel => exact ⟨k + 1, ns ++ [y], _, _, by omega, by go_num, by rw [HY.out, HB1]; simp, RG.store hlen7 HR.out⟩
            case measure => simp [RowKit.intOf]; omega
          refine AllReadyH.cons (o := { dst := some 40, op := Op.buildSlice 24 1 #[(0, Operand.tmp 39)], type := 24, pos := "ref.go:92", after := #[{ on := 6, ground := Ground.data }], guard := none }) rfl (fun K hK => ?_) AllReadyH.nil
          go_simp
          obtain ⟨w24, hw25, hb26, p27⟩ := alloc_new w12 #[.string ⟨y.toArray⟩] 9
          have q28 := q15.later hb26
          have q29 := q16.later hb26
          rw [hw25]
          have r1 := q28.box.cell 1
          simp only [List.getElem?_toArray, List.getElem?_cons_zero, List.getElem?_cons_succ] at r1
          refine hK.out _ _ (⟨q28.pa.cell 1, q29.2⟩) (fun hHeld => ?_)
          clear hK K
          try simp only [Act.put, List.setIfInBounds_toArray, List.set_cons_zero, List.set_cons_succ]
          refine wpAnyH_ready (rs := [1]) (by kernel_rfl) (by simp) ?_
          refine AllReadyH.cons (o := { dst := some 34, op := Op.load 24 (Operand.tmp 33), type := 24, pos := "ref.go:92", after := #[{ on := 0, ground := Ground.data }], guard := none }) rfl (fun K hK => ?_) AllReadyH.nil
          go_simp
          refine hK.out _ _ (⟨q28.pa.cell 1, q29.2⟩) (fun hHeld => ?_)
          clear hK K
          try simp only [Act.put, List.setIfInBounds_toArray, List.set_cons_zero, List.set_cons_succ]
          refine wpAnyH_ready (rs := [8]) (by kernel_rfl) (by simp) ?_
          refine AllReadyH.cons (o := { dst := some 41, op := Op.call { callee := Callee.builtin Builtin.append, args := #[Operand.tmp 34, Operand.tmp 40], argTypes := #[24, 24] }, type := 24, pos := "ref.go:92", after := #[{ on := 1, ground := Ground.data }, { on := 7, ground := Ground.data }], guard := none }) rfl (fun K hK => ?_) AllReadyH.nil
          skip
          refine step_append_lies _ (by rfl) _ _ _ (by rfl) (R + 4) 9 i0 _ 1 16 Try.underlying24 hi hz0 hz1 hz2 rfl (by omega) _ _ _ (by rfl) q28.own ⟨w12.heap.size, 0, none⟩ 1 1 (tsV [y]) (by rfl) (by rfl) (World.news_of_block (cs := #[.string ⟨y.toArray⟩]) (t := 9) (fr := (0, 0)) p27) (tsV_one _) (by omega) (by unfold maxLen; omega) (by omega) (by have := q28.box.lt; omega) _ rfl ?_
          intro gg cc w30 hown7 hgrow7 _ _
          have hlen7 : (ns ++ [y]).length = ns.length + 1 := by simp
          rw [← tsV_append, ← hlen7] at hown7
          have RG := q28.grown HR.out hgrow7 hown7
          rw [hlen7] at RG
          have NN : CellAt w30 b (off + k) (.string ⟨y.toArray⟩) := ⟨Nat.lt_of_lt_of_le hbR (by have := RG.bel.size; have := HR.out; omega), (RG.bel.cell (p := ⟨b, _, none⟩) (by show b < w.heap.size; have := HR.out; omega)).trans (((q28.bel.cell (p := ⟨b, off + k, none⟩) (by show b < w.heap.size; have := HR.out; omega)).symm.trans q29.2))⟩
          have r7 := RG.box.cell 1
          have g7 := RG.box.frozen 1
          simp only [List.getElem?_toArray, List.getElem?_cons_zero, List.getElem?_cons_succ] at r7
          refine hK.out _ _ (⟨RG.pa.cell 1, NN.2⟩) (fun hHeld => ?_)
          clear hK K
          try simp only [Act.put, List.setIfInBounds_toArray, List.set_cons_zero, List.set_cons_succ]
          refine wpAnyH_take (i := 9) (oi := { dst := some 42, op := Op.fieldAddr 29 (Operand.tmp 5) 1, type := 0, pos := "ref.go:92", after := #[{ on := 0, ground := Ground.phase }, { on := 1, ground := Ground.phase }, { on := 2, ground := Ground.phase }, { on := 3, ground := Ground.phase }, { on := 4, ground := Ground.phase }, { on := 5, ground := Ground.phase }, { on := 6, ground := Ground.phase }, { on := 7, ground := Ground.phase }, { on := 8, ground := Ground.phase }], guard := none }) (v := ?v1108) rfl (by kernel_rfl) (by kernel_rfl) (by kernel_rfl) (fun _ _ _ h => h) (Or.inl ⟨by rfl, ?hy1108⟩) (by assumption) ?rest1108
          case hy1108 => (intro w1 hSw; (try dsimp only at hSw); obtain ⟨h0, h1⟩ := hSw; go_simp; try with_reducible rfl)
          try simp only [Act.put, List.setIfInBounds_toArray, List.set_cons_zero, List.set_cons_succ]
          refine wpAnyH_ready (rs := [10]) (by kernel_rfl) (by simp) ?_
          refine AllReadyH.cons (o := { dst := none, op := Op.store 24 (Operand.tmp 42) (Operand.tmp 41), type := 0, pos := "ref.go:92", after := #[{ on := 9, ground := Ground.data }, { on := 8, ground := Ground.data }, { on := 8, ground := Ground.chain }, { on := 0, ground := Ground.phase }, { on := 1, ground := Ground.phase }, { on := 2, ground := Ground.phase }, { on := 3, ground := Ground.phase }, { on := 4, ground := Ground.phase }, { on := 5, ground := Ground.phase }, { on := 6, ground := Ground.phase }, { on := 7, ground := Ground.phase }, { on := 8, ground := Ground.phase }], guard := none }) rfl (fun K hK => ?_) AllReadyH.nil
          go_simp
          refine hK.out _ _ (⟨cell_far (R := R + 3) (RG.pa.cell 1) (by omega), cell_far (R := R + 3) NN.2 (by omega)⟩) (fun hHeld => ?_)
          clear hK K
          refine wpAnyH_done (by kernel_rfl) ?_ _
          go_wp2_with fail
          go_roundw
          case rel => exact ⟨k + 1, ns ++ [y], _, _, by omega, by go_num, by rw [HY.out, HB1]; simp, RG.store hlen7 HR.out⟩
          case measure => simp [RowKit.intOf]; omega
      · have b1 : ¬ (k : Int) < (al.length : Int) := by omega
        have hE : al.take k = al := List.take_of_length_le (by omega)
        rw [hE, HSL.out] at hns
        subst hns
        have t0 := hr.box.cell 0
        have t1 := hr.box.cell 1
        have r0 := hr.res.cell 0
        have r1 := hr.res.cell 1
        have g0 := hr.res.frozen 0
        have g1 := hr.res.frozen 1
        simp only [List.getElem?_toArray, List.getElem?_cons_zero, List.getElem?_cons_succ] at t0 t1 r0 r1
        obtain ⟨z0, z1⟩ := two_cells (.bool false) (.slice a' sl.length c') r0 r1
        have ht0 : TsAt wr (.slice a' sl.length c') sl := RowV.own hr.own
        have ht := TsAt.set2 ht0 (.bool false) (.slice a' sl.length c') r0 r1
        have hb := below_set2 hr.bel (R := R + 2) (by have := HR.out; omega) (.bool false) (.slice a' sl.length c')
        have HX := Lib.hid (And.intro z0 (And.intro z1 (And.intro ht hb)))
        clear z0 z1 ht ht0 hb hr hE
        go_wp2_with fail
        obtain ⟨z0, z1, ht, hb⟩ := HX.out
        refine bodyPost_ret (v := .agg #[.bool false, .slice a' sl.length c']) ?_ rfl ⟨_, _, rfl, ht, hb⟩
        simp [results, Try.results12, go_sem, z0, z1]
  · go_loopw [6] (fun i wr => ∃ (k : Nat) (ns : List (List UInt8)) (a' : Option Addr) (c' : Nat), k ≤ al.length ∧ i = .int .i64 k ∧ (al.take k).filter (fun x => !bl.contains x) = ns ∧ Rl w R true ba (!ba) (.slice a1 al.length c1) (.slice a2 bl.length c2) ns a' c' wr) (fun i _ => al.length - (RowKit.intOf i).toNat)
    case atStart => exact ⟨0, _, _, _, Nat.zero_le _, rfl, rfl, HD0.out⟩
    case round =>
      obtain ⟨k, ns, a', c', hk, rfl, hns, hr⟩ := hrel
      have HNS := Lib.hid hns
      have HRo := Lib.hid hr
      have d0 : wr.cell? ⟨R, 1, none⟩ = some (.slice a1 al.length c1) := hr.pa.cell 1
      by_cases hlt : k < al.length
      · obtain ⟨y, hy⟩ : ∃ y, al[k]? = some y := ⟨_, List.getElem?_eq_getElem hlt⟩
        obtain ⟨a1', c1', e1, _, _, h3⟩ := H1.out.out
        injection e1 with q1 _ q3
        subst q1; subst q3
        obtain ⟨b, off, rfl, hbl, hc⟩ := h3 k hlt
        clear h3
        rw [(List.getElem?_eq_some_iff.1 hy).2] at hc
        have d1 : CellAt wr b (off + k) (.string ⟨y.toArray⟩) := ⟨Nat.lt_of_lt_of_le hbl hr.bel.size, (hr.bel.cell (p := ⟨b, _, none⟩) hbl).trans hc⟩
        have T2 := H2.out.below hr.bel
        have b0 : (0 : Int) ≤ (k : Int) := by omega
        have b1 : (k : Int) < (al.length : Int) := by omega
        have hbR : b < R := by have := HR.out; omega
        have hns1 := filt_snoc (fun x => !bl.contains x) hy
        rw [hns] at hns1
        have hnl : ns.length ≤ k := by rw [← hns]; exact Nat.le_trans (List.length_filter_le _ _) (by rw [List.length_take]; omega)
        have HY := Lib.hid hns1
        have DD := Lib.hid (And.intro d1 T2)
        clear hy hc hbl hr hns hns1 d1 T2
        obtain ⟨BB, hBB⟩ : ∃ BB, bl.contains y = BB := ⟨_, rfl⟩
        have HB := Lib.hid hBB
        clear hBB
        go_wp2_with fail
        obtain ⟨w31, hw32, hb33⟩ := drew_new wr
        have q34 := HRo.out.later hb33
        have q35 := DD.out.1.later hb33
        have q36 := DD.out.2.later hb33
        refine wp_region_held_drew (S := (fun w' => w'.cell? ⟨R + 1, 1, none⟩ = some (.slice a2 bl.length c2) ∧ w'.cell? ⟨R, 1, none⟩ = some (.slice (some ⟨b, off, none⟩) al.length c1) ∧ w'.cell? ⟨b, off + k, none⟩ = some (.string ⟨y.toArray⟩))) (by kernel_rfl) (by rw [hw32]; exact ⟨q34.pb.cell 1, q34.pa.cell 1, q35.2⟩) (fun hHeld => ?_)
        rw [hw32] at hHeld ⊢
        refine wpAnyH_take (i := 0) (oi := { dst := some 23, op := Op.fieldAddr 29 (Operand.tmp 3) 1, type := 0, pos := "ref.go:90", after := #[], guard := none }) (v := ?v2001) rfl (by kernel_rfl) (by kernel_rfl) (by kernel_rfl) (fun _ _ _ h => h) (Or.inl ⟨by rfl, ?hy2001⟩) (by assumption) ?rest2001
        case hy2001 => (intro w1 hSw; (try dsimp only at hSw); obtain ⟨h0, h1, h2⟩ := hSw; go_simp; try with_reducible rfl)
        try simp only [Act.put, List.setIfInBounds_toArray, List.set_cons_zero, List.set_cons_succ]
        refine wpAnyH_take (i := 1) (oi := { dst := some 24, op := Op.load 24 (Operand.tmp 23), type := 24, pos := "ref.go:90", after := #[{ on := 0, ground := Ground.data }], guard := none }) (v := ?v2002) rfl (by kernel_rfl) (by kernel_rfl) (by kernel_rfl) (fun _ _ _ h => h) (Or.inl ⟨by rfl, ?hy2002⟩) (by assumption) ?rest2002
        case hy2002 => (intro w1 hSw; (try dsimp only at hSw); obtain ⟨h0, h1, h2⟩ := hSw; go_simp; try with_reducible rfl)
        try simp only [Act.put, List.setIfInBounds_toArray, List.set_cons_zero, List.set_cons_succ]
        refine wpAnyH_take (i := 2) (oi := { dst := some 25, op := Op.fieldAddr 29 (Operand.tmp 2) 1, type := 0, pos := "ref.go:90", after := #[], guard := none }) (v := ?v2003) rfl (by kernel_rfl) (by kernel_rfl) (by kernel_rfl) (fun _ _ _ h => h) (Or.inl ⟨by rfl, ?hy2003⟩) (by assumption) ?rest2003
        case hy2003 => (intro w1 hSw; (try dsimp only at hSw); obtain ⟨h0, h1, h2⟩ := hSw; go_simp; try with_reducible rfl)
        try simp only [Act.put, List.setIfInBounds_toArray, List.set_cons_zero, List.set_cons_succ]
        refine wpAnyH_take (i := 3) (oi := { dst := some 26, op := Op.load 24 (Operand.tmp 25), type := 24, pos := "ref.go:90", after := #[{ on := 2, ground := Ground.data }], guard := none }) (v := ?v2004) rfl (by kernel_rfl) (by kernel_rfl) (by kernel_rfl) (fun _ _ _ h => h) (Or.inl ⟨by rfl, ?hy2004⟩) (by assumption) ?rest2004
        case hy2004 => (intro w1 hSw; (try dsimp only at hSw); obtain ⟨h0, h1, h2⟩ := hSw; go_simp; try with_reducible rfl)
        try simp only [Act.put, List.setIfInBounds_toArray, List.set_cons_zero, List.set_cons_succ]
        refine wpAnyH_take (i := 4) (oi := { dst := some 27, op := Op.move (Operand.tmp 6), type := 3, pos := "ref.go:90", after := #[], guard := none }) (v := ?v2005) rfl (by kernel_rfl) (by kernel_rfl) (by kernel_rfl) (fun _ _ _ h => h) (Or.inl ⟨by rfl, ?hy2005⟩) (by assumption) ?rest2005
        case hy2005 => (intro w1 hSw; (try dsimp only at hSw); obtain ⟨h0, h1, h2⟩ := hSw; go_simp; try with_reducible rfl)
        try simp only [Act.put, List.setIfInBounds_toArray, List.set_cons_zero, List.set_cons_succ]
        refine wpAnyH_take (i := 5) (oi := { dst := some 28, op := Op.indexAddr 24 (Operand.tmp 26) (Operand.tmp 27), type := 0, pos := "ref.go:90", after := #[{ on := 3, ground := Ground.data }, { on := 4, ground := Ground.data }], guard := none }) (v := ?v2006) rfl (by kernel_rfl) (by kernel_rfl) (by kernel_rfl) (fun _ _ _ h => h) (Or.inl ⟨by rfl, ?hy2006⟩) (by assumption) ?rest2006
        case hy2006 => (intro w1 hSw; (try dsimp only at hSw); obtain ⟨h0, h1, h2⟩ := hSw; go_simp; try with_reducible rfl)
        try simp only [Act.put, List.setIfInBounds_toArray, List.set_cons_zero, List.set_cons_succ]
        refine wpAnyH_take (i := 6) (oi := { dst := some 29, op := Op.load 9 (Operand.tmp 28), type := 9, pos := "ref.go:90", after := #[{ on := 5, ground := Ground.data }], guard := none }) (v := ?v2007) rfl (by kernel_rfl) (by kernel_rfl) (by kernel_rfl) (fun _ _ _ h => h) (Or.inl ⟨by rfl, ?hy2007⟩) (by assumption) ?rest2007
        case hy2007 => (intro w1 hSw; (try dsimp only at hSw); obtain ⟨h0, h1, h2⟩ := hSw; go_simp; try with_reducible rfl)
        try simp only [Act.put, List.setIfInBounds_toArray, List.set_cons_zero, List.set_cons_succ]
        refine wpAnyH_ready (rs := [7]) (by kernel_rfl) (by simp) ?_
        refine AllReadyH.cons (o := { dst := some 30, op := Op.call { callee := Callee.value (Operand.func 31), args := #[Operand.tmp 24, Operand.tmp 29], argTypes := #[24, 9] }, type := 4, pos := "ref.go:90", after := #[{ on := 1, ground := Ground.data }, { on := 6, ground := Ground.data }], guard := none }) rfl (fun K hK => ?_) AllReadyH.nil
        go_simp
        refine (listed_any (x := y) q36 HB.out).mono ?_
        rintro e w37 ⟨rfl, hb38⟩
        have q39 := q34.later hb38
        have q40 := q35.later hb38
        have q41 := q36.later hb38
        refine hK.out _ _ (⟨q39.pb.cell 1, q39.pa.cell 1, q40.2⟩) (fun hHeld => ?_)
        clear hK K
        try simp only [Act.put, List.setIfInBounds_toArray, List.set_cons_zero, List.set_cons_succ]
        refine wpAnyH_take (i := 8) (oi := { dst := some 7, op := Op.assign (Operand.tmp 30), type := 4, pos := "ref.go:90", after := #[{ on := 7, ground := Ground.data }, { on := 7, ground := Ground.chain }, { on := 0, ground := Ground.phase }, { on := 1, ground := Ground.phase }, { on := 2, ground := Ground.phase }, { on := 3, ground := Ground.phase }, { on := 4, ground := Ground.phase }, { on := 5, ground := Ground.phase }, { on := 6, ground := Ground.phase }, { on := 7, ground := Ground.phase }], guard := none }) (v := ?v2008) rfl (by kernel_rfl) (by kernel_rfl) (by kernel_rfl) (fun _ _ _ h => h) (Or.inl ⟨by rfl, ?hy2008⟩) (by assumption) ?rest2008
        case hy2008 => (intro w1 hSw; (try dsimp only at hSw); obtain ⟨h0, h1, h2⟩ := hSw; go_simp; try with_reducible rfl)
        try simp only [Act.put, List.setIfInBounds_toArray, List.set_cons_zero, List.set_cons_succ]
        refine wpAnyH_done (by kernel_rfl) ?_ _
        clear d0
        have HD1 := Lib.hid q39
        have HN1 := Lib.hid q40
        cases BB with
        | true =>
          have HB1 := HB.out
          go_wp2_with fail
          go_roundw
          case rel => exact ⟨k + 1, ns, _, _, by omega, by go_num, by rw [HY.out, HB1]; simp, HD1.out⟩
          case measure => simp [RowKit.intOf]; omega
        | false =>
          have HB1 := HB.out
          have d0 := q39.pa.cell 1
          simp only [List.getElem?_toArray, List.getElem?_cons_zero, List.getElem?_cons_succ] at d0
          go_wp2_with fail
          obtain ⟨w42, hw43, hb44⟩ := drew_new w37
          have q45 := HD1.out.later hb44
          have q46 := HN1.out.later hb44
          refine wp_region_held_drew (S := (fun w' => w'.cell? ⟨R, 1, none⟩ = some (.slice (some ⟨b, off, none⟩) al.length c1) ∧ w'.cell? ⟨b, off + k, none⟩ = some (.string ⟨y.toArray⟩))) (by kernel_rfl) (by rw [hw43]; exact ⟨q45.pa.cell 1, q46.2⟩) (fun hHeld => ?_)
          rw [hw43] at hHeld ⊢
          have r1d := q45.box.cell 1
          have g1d := q45.box.frozen 1
          simp only [List.getElem?_toArray, List.getElem?_cons_zero, List.getElem?_cons_succ] at r1d
          refine wpAnyH_take (i := 0) (oi := { dst := some 33, op := Op.fieldAddr 29 (Operand.tmp 5) 1, type := 0, pos := "ref.go:92", after := #[], guard := none }) (v := ?v2101) rfl (by kernel_rfl) (by kernel_rfl) (by kernel_rfl) (fun _ _ _ h => h) (Or.inl ⟨by rfl, ?hy2101⟩) (by assumption) ?rest2101
          case hy2101 => (intro w1 hSw; (try dsimp only at hSw); obtain ⟨h0, h1⟩ := hSw; go_simp; try with_reducible rfl)
          try simp only [Act.put, List.setIfInBounds_toArray, List.set_cons_zero, List.set_cons_succ]
          refine wpAnyH_take (i := 2) (oi := { dst := some 35, op := Op.fieldAddr 29 (Operand.tmp 2) 1, type := 0, pos := "ref.go:92", after := #[], guard := none }) (v := ?v2102) rfl (by kernel_rfl) (by kernel_rfl) (by kernel_rfl) (fun _ _ _ h => h) (Or.inl ⟨by rfl, ?hy2102⟩) (by assumption) ?rest2102
          case hy2102 => (intro w1 hSw; (try dsimp only at hSw); obtain ⟨h0, h1⟩ := hSw; go_simp; try with_reducible rfl)
          try simp only [Act.put, List.setIfInBounds_toArray, List.set_cons_zero, List.set_cons_succ]
          refine wpAnyH_take (i := 3) (oi := { dst := some 36, op := Op.load 24 (Operand.tmp 35), type := 24, pos := "ref.go:92", after := #[{ on := 2, ground := Ground.data }], guard := none }) (v := ?v2103) rfl (by kernel_rfl) (by kernel_rfl) (by kernel_rfl) (fun _ _ _ h => h) (Or.inl ⟨by rfl, ?hy2103⟩) (by assumption) ?rest2103
          case hy2103 => (intro w1 hSw; (try dsimp only at hSw); obtain ⟨h0, h1⟩ := hSw; go_simp; try with_reducible rfl)
          try simp only [Act.put, List.setIfInBounds_toArray, List.set_cons_zero, List.set_cons_succ]
          refine wpAnyH_take (i := 4) (oi := { dst := some 37, op := Op.move (Operand.tmp 6), type := 3, pos := "ref.go:92", after := #[], guard := none }) (v := ?v2104) rfl (by kernel_rfl) (by kernel_rfl) (by kernel_rfl) (fun _ _ _ h => h) (Or.inl ⟨by rfl, ?hy2104⟩) (by assumption) ?rest2104
          case hy2104 => (intro w1 hSw; (try dsimp only at hSw); obtain ⟨h0, h1⟩ := hSw; go_simp; try with_reducible rfl)
          try simp only [Act.put, List.setIfInBounds_toArray, List.set_cons_zero, List.set_cons_succ]
          refine wpAnyH_take (i := 5) (oi := { dst := some 38, op := Op.indexAddr 24 (Operand.tmp 36) (Operand.tmp 37), type := 0, pos := "ref.go:92", after := #[{ on := 3, ground := Ground.data }, { on := 4, ground := Ground.data }], guard := none }) (v := ?v2105) rfl (by kernel_rfl) (by kernel_rfl) (by kernel_rfl) (fun _ _ _ h => h) (Or.inl ⟨by rfl, ?hy2105⟩) (by assumption) ?rest2105
          case hy2105 => (intro w1 hSw; (try dsimp only at hSw); obtain ⟨h0, h1⟩ := hSw; go_simp; try with_reducible rfl)
          try simp only [Act.put, List.setIfInBounds_toArray, List.set_cons_zero, List.set_cons_succ]
          refine wpAnyH_take (i := 6) (oi := { dst := some 39, op := Op.load 9 (Operand.tmp 38), type := 9, pos := "ref.go:92", after := #[{ on := 5, ground := Ground.data }], guard := none }) (v := ?v2106) rfl (by kernel_rfl) (by kernel_rfl) (by kernel_rfl) (fun _ _ _ h => h) (Or.inl ⟨by rfl, ?hy2106⟩) (by assumption) ?rest2106
          case hy2106 => (intro w1 hSw; (try dsimp only at hSw); obtain ⟨h0, h1⟩ := hSw; go_simp; try with_reducible rfl)
          try simp only [Act.put, List.setIfInBounds_toArray, List.set_cons_zero, List.set_cons_succ]
          refine wpAnyH_ready (rs := [1, 7]) (by kernel_rfl) (by simp) ?_
          refine AllReadyH.cons (o := { dst := some 34, op := Op.load 24 (Operand.tmp 33), type := 24, pos := "ref.go:92", after := #[{ on := 0, ground := Ground.data }], guard := none }) rfl (fun K hK => ?_) ?_
          · go_simp
            refine hK.out _ _ (⟨q45.pa.cell 1, q46.2⟩) (fun hHeld => ?_)
            clear hK K
            try simp only [Act.put, List.setIfInBounds_toArray, List.set_cons_zero, List.set_cons_succ]
            refine wpAnyH_ready (rs := [7]) (by kernel_rfl) (by simp) ?_
            refine AllReadyH.cons (o := { dst := some 40, op := Op.buildSlice 24 1 #[(0, Operand.tmp 39)], type := 24, pos := "ref.go:92", after := #[{ on := 6, ground := Ground.data }], guard := none }) rfl (fun K hK => ?_) AllReadyH.nil
            go_simp
            obtain ⟨w47, hw48, hb49, p50⟩ := alloc_new w42 #[.string ⟨y.toArray⟩] 9
            have q51 := q45.later hb49
            have q52 := q46.later hb49
            rw [hw48]
            refine hK.out _ _ (⟨q51.pa.cell 1, q52.2⟩) (fun hHeld => ?_)
            clear hK K
            try simp only [Act.put, List.setIfInBounds_toArray, List.set_cons_zero, List.set_cons_succ]
            refine wpAnyH_ready (rs := [8]) (by kernel_rfl) (by simp) ?_
            refine AllReadyH.cons (o := { dst := some 41, op := Op.call { callee := Callee.builtin Builtin.append, args := #[Operand.tmp 34, Operand.tmp 40], argTypes := #[24, 24] }, type := 24, pos := "ref.go:92", after := #[{ on := 1, ground := Ground.data }, { on := 7, ground := Ground.data }], guard := none }) rfl (fun K hK => ?_) AllReadyH.nil
            skip
            refine step_append_lies _ (by rfl) _ _ _ (by rfl) (R + 4) 9 i0 _ 1 16 Try.underlying24 hi hz0 hz1 hz2 rfl (by omega) _ _ _ (by rfl) q51.own ⟨w42.heap.size, 0, none⟩ 1 1 (tsV [y]) (by rfl) (by rfl) (World.news_of_block (cs := #[.string ⟨y.toArray⟩]) (t := 9) (fr := (0, 0)) p50) (tsV_one _) (by omega) (by unfold maxLen; omega) (by omega) (by have := q51.box.lt; omega) _ rfl ?_
            intro gg cc w53 hown7 hgrow7 _ _
            have hlen7 : (ns ++ [y]).length = ns.length + 1 := by simp
            rw [← tsV_append, ← hlen7] at hown7
            have RG := q51.grown HR.out hgrow7 hown7
            rw [hlen7] at RG
            have NN : CellAt w53 b (off + k) (.string ⟨y.toArray⟩) := ⟨Nat.lt_of_lt_of_le hbR (by have := RG.bel.size; have := HR.out; omega), (RG.bel.cell (p := ⟨b, _, none⟩) (by show b < w.heap.size; have := HR.out; omega)).trans (((q51.bel.cell (p := ⟨b, off + k, none⟩) (by show b < w.heap.size; have := HR.out; omega)).symm.trans q52.2))⟩
            have r7 := RG.box.cell 1
            have g7 := RG.box.frozen 1
            simp only [List.getElem?_toArray, List.getElem?_cons_zero, List.getElem?_cons_succ] at r7
            refine hK.out _ _ (⟨RG.pa.cell 1, NN.2⟩) (fun hHeld => ?_)
            clear hK K
            try simp only [Act.put, List.setIfInBounds_toArray, List.set_cons_zero, List.set_cons_succ]
            refine wpAnyH_take (i := 9) (oi := { dst := some 42, op := Op.fieldAddr 29 (Operand.tmp 5) 1, type := 0, pos := "ref.go:92", after := #[{ on := 0, ground := Ground.phase }, { on := 1, ground := Ground.phase }, { on := 2, ground := Ground.phase }, { on := 3, ground := Ground.phase }, { on := 4, ground := Ground.phase }, { on := 5, ground := Ground.phase }, { on := 6, ground := Ground.phase }, { on := 7, ground := Ground.phase }, { on := 8, ground := Ground.phase }], guard := none }) (v := ?v2107) rfl (by kernel_rfl) (by kernel_rfl) (by kernel_rfl) (fun _ _ _ h => h) (Or.inl ⟨by rfl, ?hy2107⟩) (by assumption) ?rest2107
            case hy2107 => (intro w1 hSw; (try dsimp only at hSw); obtain ⟨h0, h1⟩ := hSw; go_simp; try with_reducible rfl)
            try simp only [Act.put, List.setIfInBounds_toArray, List.set_cons_zero, List.set_cons_succ]
            refine wpAnyH_ready (rs := [10]) (by kernel_rfl) (by simp) ?_
            refine AllReadyH.cons (o := { dst := none, op := Op.store 24 (Operand.tmp 42) (Operand.tmp 41), type := 0, pos := "ref.go:92", after := #[{ on := 9, ground := Ground.data }, { on := 8, ground := Ground.data }, { on := 8, ground := Ground.chain }, { on := 0, ground := Ground.phase }, { on := 1, ground := Ground.phase }, { on := 2, ground := Ground.phase }, { on := 3, ground := Ground.phase }, { on := 4, ground := Ground.phase }, { on := 5, ground := Ground.phase }, { on := 6, ground := Ground.phase }, { on := 7, ground := Ground.phase }, { on := 8, ground := Ground.phase }], guard := none }) rfl (fun K hK => ?_) AllReadyH.nil
            go_simp
            refine hK.out _ _ (⟨cell_far (R := R + 3) (RG.pa.cell 1) (by omega), cell_far (R := R + 3) NN.2 (by omega)⟩) (fun hHeld => ?_)
            clear hK K
            refine wpAnyH_done (by kernel_rfl) ?_ _
            go_wp2_with fail
            go_roundw
            case rel => exact ⟨k + 1, ns ++ [y], _, _, by omega, by go_num, by rw [HY.out, HB1]; simp, RG.store hlen7 HR.out⟩
            case measure => simp [RowKit.intOf]; omega
          refine AllReadyH.cons (o := { dst := some 40, op := Op.buildSlice 24 1 #[(0, Operand.tmp 39)], type := 24, pos := "ref.go:92", after := #[{ on := 6, ground := Ground.data }], guard := none }) rfl (fun K hK => ?_) AllReadyH.nil
          go_simp
          obtain ⟨w54, hw55, hb56, p57⟩ := alloc_new w42 #[.string ⟨y.toArray⟩] 9
          have q58 := q45.later hb56
          have q59 := q46.later hb56
          rw [hw55]
          have r1 := q58.box.cell 1
          simp only [List.getElem?_toArray, List.getElem?_cons_zero, List.getElem?_cons_succ] at r1
          refine hK.out _ _ (⟨q58.pa.cell 1, q59.2⟩) (fun hHeld => ?_)
          clear hK K
          try simp only [Act.put, List.setIfInBounds_toArray, List.set_cons_zero, List.set_cons_succ]
          refine wpAnyH_ready (rs := [1]) (by kernel_rfl) (by simp) ?_
          refine AllReadyH.cons (o := { dst := some 34, op := Op.load 24 (Operand.tmp 33), type := 24, pos := "ref.go:92", after := #[{ on := 0, ground := Ground.data }], guard := none }) rfl (fun K hK => ?_) AllReadyH.nil
          go_simp
          refine hK.out _ _ (⟨q58.pa.cell 1, q59.2⟩) (fun hHeld => ?_)
          clear hK K
          try simp only [Act.put, List.setIfInBounds_toArray, List.set_cons_zero, List.set_cons_succ]
          refine wpAnyH_ready (rs := [8]) (by kernel_rfl) (by simp) ?_
          refine AllReadyH.cons (o := { dst := some 41, op := Op.call { callee := Callee.builtin Builtin.append, args := #[Operand.tmp 34, Operand.tmp 40], argTypes := #[24, 24] }, type := 24, pos := "ref.go:92", after := #[{ on := 1, ground := Ground.data }, { on := 7, ground := Ground.data }], guard := none }) rfl (fun K hK => ?_) AllReadyH.nil
          skip
          refine step_append_lies _ (by rfl) _ _ _ (by rfl) (R + 4) 9 i0 _ 1 16 Try.underlying24 hi hz0 hz1 hz2 rfl (by omega) _ _ _ (by rfl) q58.own ⟨w42.heap.size, 0, none⟩ 1 1 (tsV [y]) (by rfl) (by rfl) (World.news_of_block (cs := #[.string ⟨y.toArray⟩]) (t := 9) (fr := (0, 0)) p57) (tsV_one _) (by omega) (by unfold maxLen; omega) (by omega) (by have := q58.box.lt; omega) _ rfl ?_
          intro gg cc w60 hown7 hgrow7 _ _
          have hlen7 : (ns ++ [y]).length = ns.length + 1 := by simp
          rw [← tsV_append, ← hlen7] at hown7
          have RG := q58.grown HR.out hgrow7 hown7
          rw [hlen7] at RG
          have NN : CellAt w60 b (off + k) (.string ⟨y.toArray⟩) := ⟨Nat.lt_of_lt_of_le hbR (by have := RG.bel.size; have := HR.out; omega), (RG.bel.cell (p := ⟨b, _, none⟩) (by show b < w.heap.size; have := HR.out; omega)).trans (((q58.bel.cell (p := ⟨b, off + k, none⟩) (by show b < w.heap.size; have := HR.out; omega)).symm.trans q59.2))⟩
          have r7 := RG.box.cell 1
          have g7 := RG.box.frozen 1
          simp only [List.getElem?_toArray, List.getElem?_cons_zero, List.getElem?_cons_succ] at r7
          refine hK.out _ _ (⟨RG.pa.cell 1, NN.2⟩) (fun hHeld => ?_)
          clear hK K
          try simp only [Act.put, List.setIfInBounds_toArray, List.set_cons_zero, List.set_cons_succ]
          refine wpAnyH_take (i := 9) (oi := { dst := some 42, op := Op.fieldAddr 29 (Operand.tmp 5) 1, type := 0, pos := "ref.go:92", after := #[{ on := 0, ground := Ground.phase }, { on := 1, ground := Ground.phase }, { on := 2, ground := Ground.phase }, { on := 3, ground := Ground.phase }, { on := 4, ground := Ground.phase }, { on := 5, ground := Ground.phase }, { on := 6, ground := Ground.phase }, { on := 7, ground := Ground.phase }, { on := 8, ground := Ground.phase }], guard := none }) (v := ?v2108) rfl (by kernel_rfl) (by kernel_rfl) (by kernel_rfl) (fun _ _ _ h => h) (Or.inl ⟨by rfl, ?hy2108⟩) (by assumption) ?rest2108
          case hy2108 => (intro w1 hSw; (try dsimp only at hSw); obtain ⟨h0, h1⟩ := hSw; go_simp; try with_reducible rfl)
          try simp only [Act.put, List.setIfInBounds_toArray, List.set_cons_zero, List.set_cons_succ]
          refine wpAnyH_ready (rs := [10]) (by kernel_rfl) (by simp) ?_
          refine AllReadyH.cons (o := { dst := none, op := Op.store 24 (Operand.tmp 42) (Operand.tmp 41), type := 0, pos := "ref.go:92", after := #[{ on := 9, ground := Ground.data }, { on := 8, ground := Ground.data }, { on := 8, ground := Ground.chain }, { on := 0, ground := Ground.phase }, { on := 1, ground := Ground.phase }, { on := 2, ground := Ground.phase }, { on := 3, ground := Ground.phase }, { on := 4, ground := Ground.phase }, { on := 5, ground := Ground.phase }, { on := 6, ground := Ground.phase }, { on := 7, ground := Ground.phase }, { on := 8, ground := Ground.phase }], guard := none }) rfl (fun K hK => ?_) AllReadyH.nil
          go_simp
          refine hK.out _ _ (⟨cell_far (R := R + 3) (RG.pa.cell 1) (by omega), cell_far (R := R + 3) NN.2 (by omega)⟩) (fun hHeld => ?_)
          clear hK K
          refine wpAnyH_done (by kernel_rfl) ?_ _
          go_wp2_with fail
          go_roundw
          case rel => exact ⟨k + 1, ns ++ [y], _, _, by omega, by go_num, by rw [HY.out, HB1]; simp, RG.store hlen7 HR.out⟩
          case measure => simp [RowKit.intOf]; omega
      · have b1 : ¬ (k : Int) < (al.length : Int) := by omega
        have hE : al.take k = al := List.take_of_length_le (by omega)
        rw [hE, HSL.out] at hns
        subst hns
        have t0 := hr.box.cell 0
        have t1 := hr.box.cell 1
        have r0 := hr.res.cell 0
        have r1 := hr.res.cell 1
        have g0 := hr.res.frozen 0
        have g1 := hr.res.frozen 1
        simp only [List.getElem?_toArray, List.getElem?_cons_zero, List.getElem?_cons_succ] at t0 t1 r0 r1
        obtain ⟨z0, z1⟩ := two_cells (.bool (!ba)) (.slice a' sl.length c') r0 r1
        have ht0 : TsAt wr (.slice a' sl.length c') sl := RowV.own hr.own
        have ht := TsAt.set2 ht0 (.bool (!ba)) (.slice a' sl.length c') r0 r1
        have hb := below_set2 hr.bel (R := R + 2) (by have := HR.out; omega) (.bool (!ba)) (.slice a' sl.length c')
        have HX := Lib.hid (And.intro z0 (And.intro z1 (And.intro ht hb)))
        clear z0 z1 ht ht0 hb hr hE
        go_wp2_with fail
        obtain ⟨z0, z1, ht, hb⟩ := HX.out
        refine bodyPost_ret (v := .agg #[.bool (!ba), .slice a' sl.length c']) ?_ rfl ⟨_, _, rfl, ht, hb⟩
        simp [results, Try.results12, go_sem, z0, z1]
end Go.Proofs.Ytdcfdcjgheijcaa
