/- NamesRise: the walk. -/
import Derived.Test.YtinjbfepjbogeaaNmUnionP
namespace Go.Proofs.Ytinjbfepjbogeaa
open Go.RowKit Go.Lib

theorem rise_at {l : List (List UInt8)} (h : Rises l) {i : Nat} (hi : i + 1 < l.length) : l[i] < l[i + 1] := List.pairwise_iff_getElem.1 h i (i + 1) (by omega) hi (by omega)
theorem geq_false {x y : List UInt8} (h : x < y) (t : TypeId) : binOp .geq t (.string ⟨x.toArray⟩) (.string ⟨y.toArray⟩) = pure (.bool false) := by
  have e : binOp .geq t (.string ⟨x.toArray⟩) (.string ⟨y.toArray⟩) = pure (.bool !(Op.bytesLess (⟨x.toArray⟩ : ByteArray).toList (⟨y.toArray⟩ : ByteArray).toList)) := by simp [binOp, Op.stringOp]
  rw [e, ByteArray.toList_eq, ByteArray.toList_eq]
  show pure (Value.bool !(Op.bytesLess x y)) = _
  rw [bytesLess_eq, decide_eq_true h]; rfl
theorem has_own {a : Ns} {x : List UInt8} (h : x ∈ a.ns) (hk : okN x = true) : nHas okN a x = true := by
  unfold nHas
  have : a.ns.contains x = true := List.contains_iff_mem.2 h
  rw [hk, this, Bool.or_true]; rfl
set_option maxRecDepth 100000 in
set_option maxHeartbeats 8000000 in
theorem rise_walk (a1 a2 : Option Addr) (c1 c2 n2 : Nat) (l : List (List UInt8)) (ms : List Nat) (w : World) (h1 : TsAt w (.slice a1 l.length c1) l) (hs : ∀ s ∈ l, s.length ≤ maxLen) (hz : (l.length + 200) * 16 ≤ 140737488355328) (h2 : BytesIn w a2 ms) (hl2 : ms.length = n2) (hn2 : n2 ≤ 9223372036854775807) :
    Calls Try.prog 7 #[.slice a1 l.length c1, .slice a2 n2 c2] w fun e w' => e = .returned (.bool true) ∧ Below w.heap.size w w' := by
  obtain ⟨i0, hi, hz0, hz1, hz2⟩ := info_parts Try.infoStr
  have hfl := few_len ms
  have hm1 : l.length ≤ maxLen := by unfold maxLen; omega
  have hm2 : l.length + (fewL ms).length ≤ maxLen := by unfold maxLen; omega
  have H2 := Lib.hid h2
  have H1 := Lib.hid h1
  clear h1 h2
  go_enter Try.func7, Try.ntmps7
  go_wp2_with fail
  refine (examples_any w).mono ?_
  rintro e w1 ⟨rfl, hb1⟩
  obtain ⟨n1, n2', n3⟩ := ts_news (H1.out.later hb1)
  have H21 := Lib.hid (H2.out.later hb1)
  have hsz1 := hb1.size
  go_wp2_with (at_builtin; go_must (refine wpList_append_row _ rfl _ _ 23 rfl w.heap.size 9 i0 _ 1 16 Try.underlying23 hi hz0 hz1 hz2 rfl (by omega) _ _ _ rfl (World.ownsRow_nil _ _ _ _) a1 l.length c1 (tsV l) rfl n1 n2' n3 (tsV_one _) (by omega) (by omega) (by omega) ?_; intro v2 w2 hown2 hgrow2))
  rw [Nat.zero_add, List.nil_append] at hown2
  have hb2 : Below w.heap.size w w2 := hb1.grown hgrow2 hb1.size (fun j hj => by cases hj)
  have hb12 : Below w1.heap.size w1 w2 := (Below.refl _ _).grown hgrow2 (Nat.le_refl _) (fun j hj => by cases hj)
  obtain ⟨av2, cv2, rfl⟩ := owns_slice hown2
  refine (few_any (H21.out.later hb12) hl2 hn2).mono ?_
  rintro e w3 ⟨a3, c3, rfl, ho3, hb3⟩
  have hown3 := ownsRow_later hown2 hb3
  have hb03 := hb2.trans (hb3.mono hb2.size)
  obtain ⟨m1, m2, m3⟩ := ts_news (RowV.own ho3)
  have hsz3 := hb03.size
  clear n1 n2' n3 hown2 hgrow2 hb12
  go_wp2_with (at_builtin; go_must (refine wpList_append_row _ rfl _ _ 23 rfl w.heap.size 9 i0 _ 1 16 Try.underlying23 hi hz0 hz1 hz2 rfl (by omega) _ _ _ rfl hown3 a3 (fewL ms).length c3 (tsV (fewL ms)) rfl m1 m2 m3 (tsV_one _) (by omega) (by omega) (by omega) ?_; intro v4 w4 hown4 hgrow4))
  rw [← tsV_append, ← List.length_append] at hown4
  have hb04 : Below w.heap.size w w4 := hb03.grown hgrow4 hb03.size (fun j hj => (hown3.lt j hj).1)
  obtain ⟨av4, cv4, rfl⟩ := owns_slice hown4
  have t4 : TsAt w4 (.slice av4 (l ++ fewL ms).length cv4) (l ++ fewL ms) := RowV.own hown4
  have hfit : NmFit (l ++ fewL ms) := ⟨fun s hs' => by
    rcases List.mem_append.1 hs' with h | h
    · exact hs s h
    · exact (few_fit ms).1 s h, by rw [List.length_append]; omega⟩
  obtain ⟨sa, sl, hset⟩ : ∃ sa sl, nOf okN (l ++ fewL ms) = ⟨sa, sl⟩ := ⟨_, _, rfl⟩
  refine (of_any t4 hfit hset).mono ?_
  rintro e w5 ⟨a5, c5, rfl, t5, hb5⟩
  have hb05 := hb04.trans (hb5.mono hb04.size)
  have hrise : Rises sl := by have := nOf_ok okN (l ++ fewL ms); rw [hset] at this; exact this
  have hnm : ∀ x ∈ sl, okN x = true := fun x hx => ((mem_of okN (l ++ fewL ms) x).1 (by rw [hset]; exact hx)).2
  have hfit2 := (of_fit hfit hset).1
  have hlen2 : sl.length ≤ l.length + 20 := by have := (of_fit hfit hset).2; rw [List.length_append] at this; omega
  obtain ⟨w6, hw6, hb6, p6⟩ := alloc_new w5 #[.bool sa, .slice a5 sl.length c5] 27
  have t6 := t5.later hb6
  have B6 : Base w w6 := hb05.trans (hb6.mono hb05.size)
  have HF := Lib.hid (And.intro hrise (And.intro hnm (And.intro t6 (And.intro p6 (And.intro B6 hfit2)))))
  clear hb1 hb2 hb3 hb03 m1 m2 m3 hown3 ho3 hown4 hgrow4 hb04 t4 hfit hset t5 hb5 hb05 hrise hnm hfit2 hb6 t6 p6 B6 hm1 hm2 hsz1 hsz3 H21
  go_wp2_with fail
  go_loopw [7] (fun i wr => ∃ j : Nat, j ≤ sl.length ∧ i = .int .i64 j ∧ Below w6.heap.size w6 wr) (fun i _ => sl.length - (RowKit.intOf i).toNat)
  case atStart => exact ⟨0, Nat.zero_le _, rfl, Below.refl _ _⟩
  case round =>
    obtain ⟨j, hj, rfl, hb⟩ := hrel
    obtain ⟨hrise, hnm, t6, p6, B6, hfit2⟩ := HF.out
    have tr := t6.later hb
    have pr := p6.later hb
    have Br := B6.later hb
    have c0 := pr.cell 0
    have c1' := pr.cell 1
    simp only [List.getElem?_toArray, List.getElem?_cons_zero, List.getElem?_cons_succ] at c0 c1'
    have hN63 : (sl.length : Int) ≤ 9223372036854775807 := by omega
    have HT := Lib.hid (And.intro hrise (And.intro hnm hfit2))
    have P0 := pr
    have T0 := tr
    have B0 := Br
    have L0 : Base w6 wr := hb
    clear hrise hnm t6 p6 B6 hfit2 hb
    by_cases hlt : j < sl.length
    · obtain ⟨y, hy⟩ : ∃ y, sl[j]? = some y := ⟨_, List.getElem?_eq_getElem hlt⟩
      obtain ⟨a', c', e', _, _, h3⟩ := tr.out
      obtain ⟨bb, oo, ha', hbl, hc⟩ := h3 j hlt
      obtain ⟨rfl, rfl⟩ : a5 = a' ∧ c5 = c' := by injection e' with q1 _ q3; exact ⟨q1, q3⟩
      rw [(List.getElem?_eq_some_iff.1 hy).2] at hc
      have d1 : CellAt wr bb (oo + j) (.string ⟨y.toArray⟩) := ⟨hbl, hc⟩
      have b0 : (0 : Int) ≤ (j : Int) := by omega
      have b1 : (j : Int) < (sl.length : Int) := by omega
      have hhas := has_own (a := ⟨sa, sl⟩) (List.mem_of_getElem? hy) (HT.out.2.1 y (List.mem_of_getElem? hy))
      by_cases h0 : 0 < j
      · have hgt : (0 : Int) < (j : Int) := by omega
        obtain ⟨p, hp⟩ : ∃ p, j = p + 1 := ⟨j - 1, by omega⟩
        obtain ⟨x, hx⟩ : ∃ x, sl[p]? = some x := ⟨_, List.getElem?_eq_getElem (by omega)⟩
        obtain ⟨b', o', ha'', hbl', hc'⟩ := h3 p (by omega)
        obtain ⟨rfl, rfl⟩ : bb = b' ∧ oo = o' := by rw [ha'] at ha''; injection (Option.some.inj ha'') with q1 q2 _; exact ⟨q1, q2⟩
        rw [(List.getElem?_eq_some_iff.1 hx).2] at hc'
        have d0 : CellAt wr bb (oo + p) (.string ⟨x.toArray⟩) := ⟨hbl', hc'⟩
        have hxy : x < y := by
          have h1 := (List.getElem?_eq_some_iff.1 hx).2
          have h2 := (List.getElem?_eq_some_iff.1 hy).2
          subst hp
          rw [← h1, ← h2]; exact rise_at HT.out.1 hlt
        have hge := geq_false hxy
        have hw1 : IntKind.i64.wrap ((j : Int) - 1) = (p : Int) := by rw [IntKind.wrap_i64]; omega
        have p0 : (0 : Int) ≤ (p : Int) := by omega
        have p1 : (p : Int) < (sl.length : Int) := by omega
        clear h3 hc hc' e' hy hx hxy ha'' hbl hbl' hp tr pr Br
        subst ha'
        go_wp2_with fail
        obtain ⟨w1, hw2, hb3⟩ := drew_new wr
        have q4 := P0.later hb3
        have q5 := T0.later hb3
        have q6 := d1.later hb3
        have q7 := L0.later hb3
        have q8 := B0.later hb3
        have q9 := d0.later hb3
        refine wp_region_held_drew (S := (fun w' => w'.cell? ⟨w5.heap.size, 0, none⟩ = some (.bool sa) ∧ w'.cell? ⟨w5.heap.size, 1, none⟩ = some (.slice (some ⟨bb, oo, none⟩) sl.length c5) ∧ w'.cell? ⟨bb, oo + j, none⟩ = some (.string ⟨y.toArray⟩) ∧ w'.cell? ⟨bb, oo + p, none⟩ = some (.string ⟨x.toArray⟩) ∧ True)) (by kernel_rfl) (by rw [hw2]; exact ⟨q4.cell 0, q4.cell 1, q6.2, q9.2, trivial⟩) (fun hHeld => ?_)
        rw [hw2] at hHeld ⊢
        refine wpAnyH_take (i := 0) (oi := { dst := some 25, op := Op.move (Operand.tmp 7), type := 3, pos := "keeps.go:42", after := #[], guard := none }) (v := ?v1) rfl (by kernel_rfl) (by kernel_rfl) (by kernel_rfl) (fun _ _ _ h => h) (Or.inl ⟨by rfl, ?hy1⟩) (by assumption) ?rest1
        case hy1 => (intro w1 hSw; (try dsimp only at hSw); obtain ⟨h0, h1, h2, h3, -⟩ := hSw; go_simp; try with_reducible rfl)
        try simp only [Act.put, List.setIfInBounds_toArray, List.set_cons_zero, List.set_cons_succ]
        refine wpAnyH_take (i := 1) (oi := { dst := some 26, op := Op.binOp BinOp.gtr 3 (Operand.tmp 25) (Operand.const (Value.int IntKind.i64 0)) 3, type := 4, pos := "keeps.go:42", after := #[{ on := 0, ground := Ground.data }], guard := none }) (v := ?v2) rfl (by kernel_rfl) (by kernel_rfl) (by kernel_rfl) (fun _ _ _ h => h) (Or.inl ⟨by rfl, ?hy2⟩) (by assumption) ?rest2
        case hy2 => (intro w1 hSw; (try dsimp only at hSw); obtain ⟨h0, h1, h2, h3, -⟩ := hSw; go_simp; try with_reducible rfl)
        try simp only [Act.put, List.setIfInBounds_toArray, List.set_cons_zero, List.set_cons_succ]
        refine wpAnyH_take (i := 2) (oi := { dst := some 27, op := Op.move (Operand.tmp 26), type := 4, pos := "keeps.go:42", after := #[{ on := 1, ground := Ground.data }], guard := none }) (v := ?v3) rfl (by kernel_rfl) (by kernel_rfl) (by kernel_rfl) (fun _ _ _ h => h) (Or.inl ⟨by rfl, ?hy3⟩) (by assumption) ?rest3
        case hy3 => (intro w1 hSw; (try dsimp only at hSw); obtain ⟨h0, h1, h2, h3, -⟩ := hSw; go_simp; try with_reducible rfl)
        try simp only [Act.put, List.setIfInBounds_toArray, List.set_cons_zero, List.set_cons_succ]
        refine wpAnyH_take (i := 3) (oi := { dst := some 28, op := Op.fieldAddr 27 (Operand.tmp 6) 1, type := 0, pos := "keeps.go:42", after := #[{ on := 2, ground := Ground.guard }], guard := some (2, true) }) (v := ?v4) rfl (by kernel_rfl) (by kernel_rfl) (by kernel_rfl) (fun _ _ _ h => h) (Or.inl ⟨by rfl, ?hy4⟩) (by assumption) ?rest4
        case hy4 => (intro w1 hSw; (try dsimp only at hSw); obtain ⟨h0, h1, h2, h3, -⟩ := hSw; go_simp; try with_reducible rfl)
        try simp only [Act.put, List.setIfInBounds_toArray, List.set_cons_zero, List.set_cons_succ]
        refine wpAnyH_take (i := 4) (oi := { dst := some 29, op := Op.load 23 (Operand.tmp 28), type := 23, pos := "keeps.go:42", after := #[{ on := 3, ground := Ground.data }, { on := 2, ground := Ground.guard }], guard := some (2, true) }) (v := ?v5) rfl (by kernel_rfl) (by kernel_rfl) (by kernel_rfl) (fun _ _ _ h => h) (Or.inl ⟨by rfl, ?hy5⟩) (by assumption) ?rest5
        case hy5 => (intro w1 hSw; (try dsimp only at hSw); obtain ⟨h0, h1, h2, h3, -⟩ := hSw; go_simp; try with_reducible rfl)
        try simp only [Act.put, List.setIfInBounds_toArray, List.set_cons_zero, List.set_cons_succ]
        refine wpAnyH_take (i := 5) (oi := { dst := some 30, op := Op.move (Operand.tmp 7), type := 3, pos := "keeps.go:42", after := #[{ on := 2, ground := Ground.guard }], guard := some (2, true) }) (v := ?v6) rfl (by kernel_rfl) (by kernel_rfl) (by kernel_rfl) (fun _ _ _ h => h) (Or.inl ⟨by rfl, ?hy6⟩) (by assumption) ?rest6
        case hy6 => (intro w1 hSw; (try dsimp only at hSw); obtain ⟨h0, h1, h2, h3, -⟩ := hSw; go_simp; try with_reducible rfl)
        try simp only [Act.put, List.setIfInBounds_toArray, List.set_cons_zero, List.set_cons_succ]
        refine wpAnyH_take (i := 6) (oi := { dst := some 31, op := Op.binOp BinOp.sub 3 (Operand.tmp 30) (Operand.const (Value.int IntKind.i64 1)) 3, type := 3, pos := "keeps.go:42", after := #[{ on := 5, ground := Ground.data }, { on := 2, ground := Ground.guard }], guard := some (2, true) }) (v := ?v7) rfl (by kernel_rfl) (by kernel_rfl) (by kernel_rfl) (fun _ _ _ h => h) (Or.inl ⟨by rfl, ?hy7⟩) (by assumption) ?rest7
        case hy7 => (intro w1 hSw; (try dsimp only at hSw); obtain ⟨h0, h1, h2, h3, -⟩ := hSw; go_simp; try with_reducible rfl)
        try simp only [Act.put, List.setIfInBounds_toArray, List.set_cons_zero, List.set_cons_succ]
        refine wpAnyH_take (i := 7) (oi := { dst := some 32, op := Op.indexAddr 23 (Operand.tmp 29) (Operand.tmp 31), type := 0, pos := "keeps.go:42", after := #[{ on := 4, ground := Ground.data }, { on := 6, ground := Ground.data }, { on := 2, ground := Ground.guard }], guard := some (2, true) }) (v := ?v8) rfl (by kernel_rfl) (by kernel_rfl) (by kernel_rfl) (fun _ _ _ h => h) (Or.inl ⟨by rfl, ?hy8⟩) (by assumption) ?rest8
        case hy8 => (intro w1 hSw; (try dsimp only at hSw); obtain ⟨h0, h1, h2, h3, -⟩ := hSw; go_simp; try with_reducible rfl)
        try simp only [Act.put, List.setIfInBounds_toArray, List.set_cons_zero, List.set_cons_succ]
        refine wpAnyH_take (i := 8) (oi := { dst := some 33, op := Op.load 9 (Operand.tmp 32), type := 9, pos := "keeps.go:42", after := #[{ on := 7, ground := Ground.data }, { on := 2, ground := Ground.guard }], guard := some (2, true) }) (v := ?v9) rfl (by kernel_rfl) (by kernel_rfl) (by kernel_rfl) (fun _ _ _ h => h) (Or.inl ⟨by rfl, ?hy9⟩) (by assumption) ?rest9
        case hy9 => (intro w1 hSw; (try dsimp only at hSw); obtain ⟨h0, h1, h2, h3, -⟩ := hSw; go_simp; try with_reducible rfl)
        try simp only [Act.put, List.setIfInBounds_toArray, List.set_cons_zero, List.set_cons_succ]
        refine wpAnyH_take (i := 9) (oi := { dst := some 34, op := Op.fieldAddr 27 (Operand.tmp 6) 1, type := 0, pos := "keeps.go:42", after := #[{ on := 2, ground := Ground.guard }], guard := some (2, true) }) (v := ?v10) rfl (by kernel_rfl) (by kernel_rfl) (by kernel_rfl) (fun _ _ _ h => h) (Or.inl ⟨by rfl, ?hy10⟩) (by assumption) ?rest10
        case hy10 => (intro w1 hSw; (try dsimp only at hSw); obtain ⟨h0, h1, h2, h3, -⟩ := hSw; go_simp; try with_reducible rfl)
        try simp only [Act.put, List.setIfInBounds_toArray, List.set_cons_zero, List.set_cons_succ]
        refine wpAnyH_take (i := 10) (oi := { dst := some 35, op := Op.load 23 (Operand.tmp 34), type := 23, pos := "keeps.go:42", after := #[{ on := 9, ground := Ground.data }, { on := 2, ground := Ground.guard }], guard := some (2, true) }) (v := ?v11) rfl (by kernel_rfl) (by kernel_rfl) (by kernel_rfl) (fun _ _ _ h => h) (Or.inl ⟨by rfl, ?hy11⟩) (by assumption) ?rest11
        case hy11 => (intro w1 hSw; (try dsimp only at hSw); obtain ⟨h0, h1, h2, h3, -⟩ := hSw; go_simp; try with_reducible rfl)
        try simp only [Act.put, List.setIfInBounds_toArray, List.set_cons_zero, List.set_cons_succ]
        refine wpAnyH_take (i := 11) (oi := { dst := some 36, op := Op.move (Operand.tmp 7), type := 3, pos := "keeps.go:42", after := #[{ on := 2, ground := Ground.guard }], guard := some (2, true) }) (v := ?v12) rfl (by kernel_rfl) (by kernel_rfl) (by kernel_rfl) (fun _ _ _ h => h) (Or.inl ⟨by rfl, ?hy12⟩) (by assumption) ?rest12
        case hy12 => (intro w1 hSw; (try dsimp only at hSw); obtain ⟨h0, h1, h2, h3, -⟩ := hSw; go_simp; try with_reducible rfl)
        try simp only [Act.put, List.setIfInBounds_toArray, List.set_cons_zero, List.set_cons_succ]
        refine wpAnyH_take (i := 12) (oi := { dst := some 37, op := Op.indexAddr 23 (Operand.tmp 35) (Operand.tmp 36), type := 0, pos := "keeps.go:42", after := #[{ on := 10, ground := Ground.data }, { on := 11, ground := Ground.data }, { on := 2, ground := Ground.guard }], guard := some (2, true) }) (v := ?v13) rfl (by kernel_rfl) (by kernel_rfl) (by kernel_rfl) (fun _ _ _ h => h) (Or.inl ⟨by rfl, ?hy13⟩) (by assumption) ?rest13
        case hy13 => (intro w1 hSw; (try dsimp only at hSw); obtain ⟨h0, h1, h2, h3, -⟩ := hSw; go_simp; try with_reducible rfl)
        try simp only [Act.put, List.setIfInBounds_toArray, List.set_cons_zero, List.set_cons_succ]
        refine wpAnyH_take (i := 13) (oi := { dst := some 38, op := Op.load 9 (Operand.tmp 37), type := 9, pos := "keeps.go:42", after := #[{ on := 12, ground := Ground.data }, { on := 2, ground := Ground.guard }], guard := some (2, true) }) (v := ?v14) rfl (by kernel_rfl) (by kernel_rfl) (by kernel_rfl) (fun _ _ _ h => h) (Or.inl ⟨by rfl, ?hy14⟩) (by assumption) ?rest14
        case hy14 => (intro w1 hSw; (try dsimp only at hSw); obtain ⟨h0, h1, h2, h3, -⟩ := hSw; go_simp; try with_reducible rfl)
        try simp only [Act.put, List.setIfInBounds_toArray, List.set_cons_zero, List.set_cons_succ]
        refine wpAnyH_take (i := 14) (oi := { dst := some 39, op := Op.binOp BinOp.geq 9 (Operand.tmp 33) (Operand.tmp 38) 9, type := 4, pos := "keeps.go:42", after := #[{ on := 8, ground := Ground.data }, { on := 13, ground := Ground.data }, { on := 2, ground := Ground.guard }], guard := some (2, true) }) (v := ?v15) rfl (by kernel_rfl) (by kernel_rfl) (by kernel_rfl) (fun _ _ _ h => h) (Or.inl ⟨by rfl, ?hy15⟩) (by assumption) ?rest15
        case hy15 => (intro w1 hSw; (try dsimp only at hSw); obtain ⟨h0, h1, h2, h3, -⟩ := hSw; go_simp; try with_reducible rfl)
        try simp only [Act.put, List.setIfInBounds_toArray, List.set_cons_zero, List.set_cons_succ]
        refine wpAnyH_take (i := 15) (oi := { dst := some 40, op := Op.pick (Operand.tmp 27) (Operand.tmp 39) (Operand.const (Value.bool false)), type := 4, pos := "keeps.go:42", after := #[{ on := 2, ground := Ground.data }, { on := 14, ground := Ground.data }], guard := none }) (v := ?v16) rfl (by kernel_rfl) (by kernel_rfl) (by kernel_rfl) (fun _ _ _ h => h) (Or.inl ⟨by rfl, ?hy16⟩) (by assumption) ?rest16
        case hy16 => (intro w1 hSw; (try dsimp only at hSw); obtain ⟨h0, h1, h2, h3, -⟩ := hSw; go_simp; try with_reducible rfl)
        try simp only [Act.put, List.setIfInBounds_toArray, List.set_cons_zero, List.set_cons_succ]
        refine wpAnyH_take (i := 16) (oi := { dst := some 41, op := Op.move (Operand.tmp 40), type := 4, pos := "keeps.go:42", after := #[{ on := 15, ground := Ground.data }, { on := 2, ground := Ground.chain }], guard := none }) (v := ?v17) rfl (by kernel_rfl) (by kernel_rfl) (by kernel_rfl) (fun _ _ _ h => h) (Or.inl ⟨by rfl, ?hy17⟩) (by assumption) ?rest17
        case hy17 => (intro w1 hSw; (try dsimp only at hSw); obtain ⟨h0, h1, h2, h3, -⟩ := hSw; go_simp; try with_reducible rfl)
        try simp only [Act.put, List.setIfInBounds_toArray, List.set_cons_zero, List.set_cons_succ]
        refine wpAnyH_take (i := 17) (oi := { dst := some 42, op := Op.load 27 (Operand.tmp 6), type := 27, pos := "keeps.go:42", after := #[{ on := 16, ground := Ground.guard }], guard := some (16, false) }) (v := ?v18) rfl (by kernel_rfl) (by kernel_rfl) (by kernel_rfl) (fun _ _ _ h => h) (Or.inl ⟨by rfl, ?hy18⟩) (by assumption) ?rest18
        case hy18 => (intro w1 hSw; (try dsimp only at hSw); obtain ⟨h0, h1, h2, h3, -⟩ := hSw; go_simp; try with_reducible rfl)
        try simp only [Act.put, List.setIfInBounds_toArray, List.set_cons_zero, List.set_cons_succ]
        refine wpAnyH_take (i := 18) (oi := { dst := some 43, op := Op.fieldAddr 27 (Operand.tmp 6) 1, type := 0, pos := "keeps.go:42", after := #[{ on := 16, ground := Ground.guard }], guard := some (16, false) }) (v := ?v19) rfl (by kernel_rfl) (by kernel_rfl) (by kernel_rfl) (fun _ _ _ h => h) (Or.inl ⟨by rfl, ?hy19⟩) (by assumption) ?rest19
        case hy19 => (intro w1 hSw; (try dsimp only at hSw); obtain ⟨h0, h1, h2, h3, -⟩ := hSw; go_simp; try with_reducible rfl)
        try simp only [Act.put, List.setIfInBounds_toArray, List.set_cons_zero, List.set_cons_succ]
        refine wpAnyH_take (i := 19) (oi := { dst := some 44, op := Op.load 23 (Operand.tmp 43), type := 23, pos := "keeps.go:42", after := #[{ on := 18, ground := Ground.data }, { on := 16, ground := Ground.guard }], guard := some (16, false) }) (v := ?v20) rfl (by kernel_rfl) (by kernel_rfl) (by kernel_rfl) (fun _ _ _ h => h) (Or.inl ⟨by rfl, ?hy20⟩) (by assumption) ?rest20
        case hy20 => (intro w1 hSw; (try dsimp only at hSw); obtain ⟨h0, h1, h2, h3, -⟩ := hSw; go_simp; try with_reducible rfl)
        try simp only [Act.put, List.setIfInBounds_toArray, List.set_cons_zero, List.set_cons_succ]
        refine wpAnyH_take (i := 20) (oi := { dst := some 45, op := Op.move (Operand.tmp 7), type := 3, pos := "keeps.go:42", after := #[{ on := 16, ground := Ground.guard }], guard := some (16, false) }) (v := ?v21) rfl (by kernel_rfl) (by kernel_rfl) (by kernel_rfl) (fun _ _ _ h => h) (Or.inl ⟨by rfl, ?hy21⟩) (by assumption) ?rest21
        case hy21 => (intro w1 hSw; (try dsimp only at hSw); obtain ⟨h0, h1, h2, h3, -⟩ := hSw; go_simp; try with_reducible rfl)
        try simp only [Act.put, List.setIfInBounds_toArray, List.set_cons_zero, List.set_cons_succ]
        refine wpAnyH_take (i := 21) (oi := { dst := some 46, op := Op.indexAddr 23 (Operand.tmp 44) (Operand.tmp 45), type := 0, pos := "keeps.go:42", after := #[{ on := 19, ground := Ground.data }, { on := 20, ground := Ground.data }, { on := 16, ground := Ground.guard }], guard := some (16, false) }) (v := ?v22) rfl (by kernel_rfl) (by kernel_rfl) (by kernel_rfl) (fun _ _ _ h => h) (Or.inl ⟨by rfl, ?hy22⟩) (by assumption) ?rest22
        case hy22 => (intro w1 hSw; (try dsimp only at hSw); obtain ⟨h0, h1, h2, h3, -⟩ := hSw; go_simp; try with_reducible rfl)
        try simp only [Act.put, List.setIfInBounds_toArray, List.set_cons_zero, List.set_cons_succ]
        refine wpAnyH_take (i := 22) (oi := { dst := some 47, op := Op.load 9 (Operand.tmp 46), type := 9, pos := "keeps.go:42", after := #[{ on := 21, ground := Ground.data }, { on := 16, ground := Ground.guard }], guard := some (16, false) }) (v := ?v23) rfl (by kernel_rfl) (by kernel_rfl) (by kernel_rfl) (fun _ _ _ h => h) (Or.inl ⟨by rfl, ?hy23⟩) (by assumption) ?rest23
        case hy23 => (intro w1 hSw; (try dsimp only at hSw); obtain ⟨h0, h1, h2, h3, -⟩ := hSw; go_simp; try with_reducible rfl)
        try simp only [Act.put, List.setIfInBounds_toArray, List.set_cons_zero, List.set_cons_succ]
        refine wpAnyH_ready (rs := [23]) (by kernel_rfl) (by simp) ?_
        refine AllReadyH.cons (o := { dst := some 48, op := Op.call { callee := Callee.value (Operand.func 17), args := #[Operand.tmp 42, Operand.tmp 47], argTypes := #[27, 9] }, type := 4, pos := "keeps.go:42", after := #[{ on := 17, ground := Ground.data }, { on := 22, ground := Ground.data }, { on := 16, ground := Ground.chain }, { on := 16, ground := Ground.guard }], guard := some (16, false) }) rfl (fun K hK => ?_) AllReadyH.nil
        go_simp
        refine (has_any (sl := sl) q5 hhas).mono ?_
        rintro e w10 ⟨rfl, hb11⟩
        have q12 := q4.later hb11
        have q13 := q5.later hb11
        have q14 := q6.later hb11
        have q15 := q7.later hb11
        have q16 := q8.later hb11
        have q17 := q9.later hb11
        refine hK.out _ _ (⟨q12.cell 0, q12.cell 1, q14.2, q17.2, trivial⟩) (fun hHeld => ?_)
        clear hK K
        try simp only [Act.put, List.setIfInBounds_toArray, List.set_cons_zero, List.set_cons_succ]
        refine wpAnyH_take (i := 24) (oi := { dst := some 49, op := Op.unOp UnOp.not 4 (Operand.tmp 48), type := 4, pos := "keeps.go:42", after := #[{ on := 23, ground := Ground.data }, { on := 16, ground := Ground.guard }], guard := some (16, false) }) (v := ?v24) rfl (by kernel_rfl) (by kernel_rfl) (by kernel_rfl) (fun _ _ _ h => h) (Or.inl ⟨by rfl, ?hy24⟩) (by assumption) ?rest24
        case hy24 => (intro w1 hSw; (try dsimp only at hSw); obtain ⟨h0, h1, h2, h3, -⟩ := hSw; go_simp; try with_reducible rfl)
        try simp only [Act.put, List.setIfInBounds_toArray, List.set_cons_zero, List.set_cons_succ]
        refine wpAnyH_take (i := 25) (oi := { dst := some 50, op := Op.pick (Operand.tmp 41) (Operand.const (Value.bool true)) (Operand.tmp 49), type := 4, pos := "keeps.go:42", after := #[{ on := 16, ground := Ground.data }, { on := 24, ground := Ground.data }], guard := none }) (v := ?v25) rfl (by kernel_rfl) (by kernel_rfl) (by kernel_rfl) (fun _ _ _ h => h) (Or.inl ⟨by rfl, ?hy25⟩) (by assumption) ?rest25
        case hy25 => (intro w1 hSw; (try dsimp only at hSw); obtain ⟨h0, h1, h2, h3, -⟩ := hSw; go_simp; try with_reducible rfl)
        try simp only [Act.put, List.setIfInBounds_toArray, List.set_cons_zero, List.set_cons_succ]
        refine wpAnyH_done (by kernel_rfl) ?_ _
        go_wp2_with fail
        go_roundw
        case rel => exact ⟨j + 1, by omega, by go_num, q15⟩
        case measure => simp [RowKit.intOf]; omega
      · have hgt : ¬ (0 : Int) < (j : Int) := by omega
        clear h3 hc e' hy hbl tr pr Br
        subst ha'
        go_wp2_with fail
        obtain ⟨w18, hw19, hb20⟩ := drew_new wr
        have q21 := P0.later hb20
        have q22 := T0.later hb20
        have q23 := d1.later hb20
        have q24 := L0.later hb20
        have q25 := B0.later hb20
        refine wp_region_held_drew (S := (fun w' => w'.cell? ⟨w5.heap.size, 0, none⟩ = some (.bool sa) ∧ w'.cell? ⟨w5.heap.size, 1, none⟩ = some (.slice (some ⟨bb, oo, none⟩) sl.length c5) ∧ w'.cell? ⟨bb, oo + j, none⟩ = some (.string ⟨y.toArray⟩) ∧ True)) (by kernel_rfl) (by rw [hw19]; exact ⟨q21.cell 0, q21.cell 1, q23.2, trivial⟩) (fun hHeld => ?_)
        rw [hw19] at hHeld ⊢
        refine wpAnyH_take (i := 0) (oi := { dst := some 25, op := Op.move (Operand.tmp 7), type := 3, pos := "keeps.go:42", after := #[], guard := none }) (v := ?v26) rfl (by kernel_rfl) (by kernel_rfl) (by kernel_rfl) (fun _ _ _ h => h) (Or.inl ⟨by rfl, ?hy26⟩) (by assumption) ?rest26
        case hy26 => (intro w1 hSw; (try dsimp only at hSw); obtain ⟨h0, h1, h2, -⟩ := hSw; go_simp; try with_reducible rfl)
        try simp only [Act.put, List.setIfInBounds_toArray, List.set_cons_zero, List.set_cons_succ]
        refine wpAnyH_take (i := 1) (oi := { dst := some 26, op := Op.binOp BinOp.gtr 3 (Operand.tmp 25) (Operand.const (Value.int IntKind.i64 0)) 3, type := 4, pos := "keeps.go:42", after := #[{ on := 0, ground := Ground.data }], guard := none }) (v := ?v27) rfl (by kernel_rfl) (by kernel_rfl) (by kernel_rfl) (fun _ _ _ h => h) (Or.inl ⟨by rfl, ?hy27⟩) (by assumption) ?rest27
        case hy27 => (intro w1 hSw; (try dsimp only at hSw); obtain ⟨h0, h1, h2, -⟩ := hSw; go_simp; try with_reducible rfl)
        try simp only [Act.put, List.setIfInBounds_toArray, List.set_cons_zero, List.set_cons_succ]
        refine wpAnyH_take (i := 2) (oi := { dst := some 27, op := Op.move (Operand.tmp 26), type := 4, pos := "keeps.go:42", after := #[{ on := 1, ground := Ground.data }], guard := none }) (v := ?v28) rfl (by kernel_rfl) (by kernel_rfl) (by kernel_rfl) (fun _ _ _ h => h) (Or.inl ⟨by rfl, ?hy28⟩) (by assumption) ?rest28
        case hy28 => (intro w1 hSw; (try dsimp only at hSw); obtain ⟨h0, h1, h2, -⟩ := hSw; go_simp; try with_reducible rfl)
        try simp only [Act.put, List.setIfInBounds_toArray, List.set_cons_zero, List.set_cons_succ]
        refine wpAnyH_take (i := 3) (oi := { dst := some 28, op := Op.fieldAddr 27 (Operand.tmp 6) 1, type := 0, pos := "keeps.go:42", after := #[{ on := 2, ground := Ground.guard }], guard := some (2, true) }) (v := undef) rfl (by kernel_rfl) (by kernel_rfl) (by kernel_rfl) (fun _ _ _ h => h) (Or.inr ⟨by rfl, rfl⟩) (by assumption) ?_
        try simp only [Act.put, List.setIfInBounds_toArray, List.set_cons_zero, List.set_cons_succ]
        refine wpAnyH_take (i := 4) (oi := { dst := some 29, op := Op.load 23 (Operand.tmp 28), type := 23, pos := "keeps.go:42", after := #[{ on := 3, ground := Ground.data }, { on := 2, ground := Ground.guard }], guard := some (2, true) }) (v := undef) rfl (by kernel_rfl) (by kernel_rfl) (by kernel_rfl) (fun _ _ _ h => h) (Or.inr ⟨by rfl, rfl⟩) (by assumption) ?_
        try simp only [Act.put, List.setIfInBounds_toArray, List.set_cons_zero, List.set_cons_succ]
        refine wpAnyH_take (i := 5) (oi := { dst := some 30, op := Op.move (Operand.tmp 7), type := 3, pos := "keeps.go:42", after := #[{ on := 2, ground := Ground.guard }], guard := some (2, true) }) (v := undef) rfl (by kernel_rfl) (by kernel_rfl) (by kernel_rfl) (fun _ _ _ h => h) (Or.inr ⟨by rfl, rfl⟩) (by assumption) ?_
        try simp only [Act.put, List.setIfInBounds_toArray, List.set_cons_zero, List.set_cons_succ]
        refine wpAnyH_take (i := 6) (oi := { dst := some 31, op := Op.binOp BinOp.sub 3 (Operand.tmp 30) (Operand.const (Value.int IntKind.i64 1)) 3, type := 3, pos := "keeps.go:42", after := #[{ on := 5, ground := Ground.data }, { on := 2, ground := Ground.guard }], guard := some (2, true) }) (v := undef) rfl (by kernel_rfl) (by kernel_rfl) (by kernel_rfl) (fun _ _ _ h => h) (Or.inr ⟨by rfl, rfl⟩) (by assumption) ?_
        try simp only [Act.put, List.setIfInBounds_toArray, List.set_cons_zero, List.set_cons_succ]
        refine wpAnyH_take (i := 7) (oi := { dst := some 32, op := Op.indexAddr 23 (Operand.tmp 29) (Operand.tmp 31), type := 0, pos := "keeps.go:42", after := #[{ on := 4, ground := Ground.data }, { on := 6, ground := Ground.data }, { on := 2, ground := Ground.guard }], guard := some (2, true) }) (v := undef) rfl (by kernel_rfl) (by kernel_rfl) (by kernel_rfl) (fun _ _ _ h => h) (Or.inr ⟨by rfl, rfl⟩) (by assumption) ?_
        try simp only [Act.put, List.setIfInBounds_toArray, List.set_cons_zero, List.set_cons_succ]
        refine wpAnyH_take (i := 8) (oi := { dst := some 33, op := Op.load 9 (Operand.tmp 32), type := 9, pos := "keeps.go:42", after := #[{ on := 7, ground := Ground.data }, { on := 2, ground := Ground.guard }], guard := some (2, true) }) (v := undef) rfl (by kernel_rfl) (by kernel_rfl) (by kernel_rfl) (fun _ _ _ h => h) (Or.inr ⟨by rfl, rfl⟩) (by assumption) ?_
        try simp only [Act.put, List.setIfInBounds_toArray, List.set_cons_zero, List.set_cons_succ]
        refine wpAnyH_take (i := 9) (oi := { dst := some 34, op := Op.fieldAddr 27 (Operand.tmp 6) 1, type := 0, pos := "keeps.go:42", after := #[{ on := 2, ground := Ground.guard }], guard := some (2, true) }) (v := undef) rfl (by kernel_rfl) (by kernel_rfl) (by kernel_rfl) (fun _ _ _ h => h) (Or.inr ⟨by rfl, rfl⟩) (by assumption) ?_
        try simp only [Act.put, List.setIfInBounds_toArray, List.set_cons_zero, List.set_cons_succ]
        refine wpAnyH_take (i := 10) (oi := { dst := some 35, op := Op.load 23 (Operand.tmp 34), type := 23, pos := "keeps.go:42", after := #[{ on := 9, ground := Ground.data }, { on := 2, ground := Ground.guard }], guard := some (2, true) }) (v := undef) rfl (by kernel_rfl) (by kernel_rfl) (by kernel_rfl) (fun _ _ _ h => h) (Or.inr ⟨by rfl, rfl⟩) (by assumption) ?_
        try simp only [Act.put, List.setIfInBounds_toArray, List.set_cons_zero, List.set_cons_succ]
        refine wpAnyH_take (i := 11) (oi := { dst := some 36, op := Op.move (Operand.tmp 7), type := 3, pos := "keeps.go:42", after := #[{ on := 2, ground := Ground.guard }], guard := some (2, true) }) (v := undef) rfl (by kernel_rfl) (by kernel_rfl) (by kernel_rfl) (fun _ _ _ h => h) (Or.inr ⟨by rfl, rfl⟩) (by assumption) ?_
        try simp only [Act.put, List.setIfInBounds_toArray, List.set_cons_zero, List.set_cons_succ]
        refine wpAnyH_take (i := 12) (oi := { dst := some 37, op := Op.indexAddr 23 (Operand.tmp 35) (Operand.tmp 36), type := 0, pos := "keeps.go:42", after := #[{ on := 10, ground := Ground.data }, { on := 11, ground := Ground.data }, { on := 2, ground := Ground.guard }], guard := some (2, true) }) (v := undef) rfl (by kernel_rfl) (by kernel_rfl) (by kernel_rfl) (fun _ _ _ h => h) (Or.inr ⟨by rfl, rfl⟩) (by assumption) ?_
        try simp only [Act.put, List.setIfInBounds_toArray, List.set_cons_zero, List.set_cons_succ]
        refine wpAnyH_take (i := 13) (oi := { dst := some 38, op := Op.load 9 (Operand.tmp 37), type := 9, pos := "keeps.go:42", after := #[{ on := 12, ground := Ground.data }, { on := 2, ground := Ground.guard }], guard := some (2, true) }) (v := undef) rfl (by kernel_rfl) (by kernel_rfl) (by kernel_rfl) (fun _ _ _ h => h) (Or.inr ⟨by rfl, rfl⟩) (by assumption) ?_
        try simp only [Act.put, List.setIfInBounds_toArray, List.set_cons_zero, List.set_cons_succ]
        refine wpAnyH_take (i := 14) (oi := { dst := some 39, op := Op.binOp BinOp.geq 9 (Operand.tmp 33) (Operand.tmp 38) 9, type := 4, pos := "keeps.go:42", after := #[{ on := 8, ground := Ground.data }, { on := 13, ground := Ground.data }, { on := 2, ground := Ground.guard }], guard := some (2, true) }) (v := undef) rfl (by kernel_rfl) (by kernel_rfl) (by kernel_rfl) (fun _ _ _ h => h) (Or.inr ⟨by rfl, rfl⟩) (by assumption) ?_
        try simp only [Act.put, List.setIfInBounds_toArray, List.set_cons_zero, List.set_cons_succ]
        refine wpAnyH_take (i := 15) (oi := { dst := some 40, op := Op.pick (Operand.tmp 27) (Operand.tmp 39) (Operand.const (Value.bool false)), type := 4, pos := "keeps.go:42", after := #[{ on := 2, ground := Ground.data }, { on := 14, ground := Ground.data }], guard := none }) (v := ?v41) rfl (by kernel_rfl) (by kernel_rfl) (by kernel_rfl) (fun _ _ _ h => h) (Or.inl ⟨by rfl, ?hy41⟩) (by assumption) ?rest41
        case hy41 => (intro w1 hSw; (try dsimp only at hSw); obtain ⟨h0, h1, h2, -⟩ := hSw; go_simp; try with_reducible rfl)
        try simp only [Act.put, List.setIfInBounds_toArray, List.set_cons_zero, List.set_cons_succ]
        refine wpAnyH_take (i := 16) (oi := { dst := some 41, op := Op.move (Operand.tmp 40), type := 4, pos := "keeps.go:42", after := #[{ on := 15, ground := Ground.data }, { on := 2, ground := Ground.chain }], guard := none }) (v := ?v42) rfl (by kernel_rfl) (by kernel_rfl) (by kernel_rfl) (fun _ _ _ h => h) (Or.inl ⟨by rfl, ?hy42⟩) (by assumption) ?rest42
        case hy42 => (intro w1 hSw; (try dsimp only at hSw); obtain ⟨h0, h1, h2, -⟩ := hSw; go_simp; try with_reducible rfl)
        try simp only [Act.put, List.setIfInBounds_toArray, List.set_cons_zero, List.set_cons_succ]
        refine wpAnyH_take (i := 17) (oi := { dst := some 42, op := Op.load 27 (Operand.tmp 6), type := 27, pos := "keeps.go:42", after := #[{ on := 16, ground := Ground.guard }], guard := some (16, false) }) (v := ?v43) rfl (by kernel_rfl) (by kernel_rfl) (by kernel_rfl) (fun _ _ _ h => h) (Or.inl ⟨by rfl, ?hy43⟩) (by assumption) ?rest43
        case hy43 => (intro w1 hSw; (try dsimp only at hSw); obtain ⟨h0, h1, h2, -⟩ := hSw; go_simp; try with_reducible rfl)
        try simp only [Act.put, List.setIfInBounds_toArray, List.set_cons_zero, List.set_cons_succ]
        refine wpAnyH_take (i := 18) (oi := { dst := some 43, op := Op.fieldAddr 27 (Operand.tmp 6) 1, type := 0, pos := "keeps.go:42", after := #[{ on := 16, ground := Ground.guard }], guard := some (16, false) }) (v := ?v44) rfl (by kernel_rfl) (by kernel_rfl) (by kernel_rfl) (fun _ _ _ h => h) (Or.inl ⟨by rfl, ?hy44⟩) (by assumption) ?rest44
        case hy44 => (intro w1 hSw; (try dsimp only at hSw); obtain ⟨h0, h1, h2, -⟩ := hSw; go_simp; try with_reducible rfl)
        try simp only [Act.put, List.setIfInBounds_toArray, List.set_cons_zero, List.set_cons_succ]
        refine wpAnyH_take (i := 19) (oi := { dst := some 44, op := Op.load 23 (Operand.tmp 43), type := 23, pos := "keeps.go:42", after := #[{ on := 18, ground := Ground.data }, { on := 16, ground := Ground.guard }], guard := some (16, false) }) (v := ?v45) rfl (by kernel_rfl) (by kernel_rfl) (by kernel_rfl) (fun _ _ _ h => h) (Or.inl ⟨by rfl, ?hy45⟩) (by assumption) ?rest45
        case hy45 => (intro w1 hSw; (try dsimp only at hSw); obtain ⟨h0, h1, h2, -⟩ := hSw; go_simp; try with_reducible rfl)
        try simp only [Act.put, List.setIfInBounds_toArray, List.set_cons_zero, List.set_cons_succ]
        refine wpAnyH_take (i := 20) (oi := { dst := some 45, op := Op.move (Operand.tmp 7), type := 3, pos := "keeps.go:42", after := #[{ on := 16, ground := Ground.guard }], guard := some (16, false) }) (v := ?v46) rfl (by kernel_rfl) (by kernel_rfl) (by kernel_rfl) (fun _ _ _ h => h) (Or.inl ⟨by rfl, ?hy46⟩) (by assumption) ?rest46
        case hy46 => (intro w1 hSw; (try dsimp only at hSw); obtain ⟨h0, h1, h2, -⟩ := hSw; go_simp; try with_reducible rfl)
        try simp only [Act.put, List.setIfInBounds_toArray, List.set_cons_zero, List.set_cons_succ]
        refine wpAnyH_take (i := 21) (oi := { dst := some 46, op := Op.indexAddr 23 (Operand.tmp 44) (Operand.tmp 45), type := 0, pos := "keeps.go:42", after := #[{ on := 19, ground := Ground.data }, { on := 20, ground := Ground.data }, { on := 16, ground := Ground.guard }], guard := some (16, false) }) (v := ?v47) rfl (by kernel_rfl) (by kernel_rfl) (by kernel_rfl) (fun _ _ _ h => h) (Or.inl ⟨by rfl, ?hy47⟩) (by assumption) ?rest47
        case hy47 => (intro w1 hSw; (try dsimp only at hSw); obtain ⟨h0, h1, h2, -⟩ := hSw; go_simp; try with_reducible rfl)
        try simp only [Act.put, List.setIfInBounds_toArray, List.set_cons_zero, List.set_cons_succ]
        refine wpAnyH_take (i := 22) (oi := { dst := some 47, op := Op.load 9 (Operand.tmp 46), type := 9, pos := "keeps.go:42", after := #[{ on := 21, ground := Ground.data }, { on := 16, ground := Ground.guard }], guard := some (16, false) }) (v := ?v48) rfl (by kernel_rfl) (by kernel_rfl) (by kernel_rfl) (fun _ _ _ h => h) (Or.inl ⟨by rfl, ?hy48⟩) (by assumption) ?rest48
        case hy48 => (intro w1 hSw; (try dsimp only at hSw); obtain ⟨h0, h1, h2, -⟩ := hSw; go_simp; try with_reducible rfl)
        try simp only [Act.put, List.setIfInBounds_toArray, List.set_cons_zero, List.set_cons_succ]
        refine wpAnyH_ready (rs := [23]) (by kernel_rfl) (by simp) ?_
        refine AllReadyH.cons (o := { dst := some 48, op := Op.call { callee := Callee.value (Operand.func 17), args := #[Operand.tmp 42, Operand.tmp 47], argTypes := #[27, 9] }, type := 4, pos := "keeps.go:42", after := #[{ on := 17, ground := Ground.data }, { on := 22, ground := Ground.data }, { on := 16, ground := Ground.chain }, { on := 16, ground := Ground.guard }], guard := some (16, false) }) rfl (fun K hK => ?_) AllReadyH.nil
        go_simp
        refine (has_any (sl := sl) q22 hhas).mono ?_
        rintro e w26 ⟨rfl, hb27⟩
        have q28 := q21.later hb27
        have q29 := q22.later hb27
        have q30 := q23.later hb27
        have q31 := q24.later hb27
        have q32 := q25.later hb27
        refine hK.out _ _ (⟨q28.cell 0, q28.cell 1, q30.2, trivial⟩) (fun hHeld => ?_)
        clear hK K
        try simp only [Act.put, List.setIfInBounds_toArray, List.set_cons_zero, List.set_cons_succ]
        refine wpAnyH_take (i := 24) (oi := { dst := some 49, op := Op.unOp UnOp.not 4 (Operand.tmp 48), type := 4, pos := "keeps.go:42", after := #[{ on := 23, ground := Ground.data }, { on := 16, ground := Ground.guard }], guard := some (16, false) }) (v := ?v49) rfl (by kernel_rfl) (by kernel_rfl) (by kernel_rfl) (fun _ _ _ h => h) (Or.inl ⟨by rfl, ?hy49⟩) (by assumption) ?rest49
        case hy49 => (intro w1 hSw; (try dsimp only at hSw); obtain ⟨h0, h1, h2, -⟩ := hSw; go_simp; try with_reducible rfl)
        try simp only [Act.put, List.setIfInBounds_toArray, List.set_cons_zero, List.set_cons_succ]
        refine wpAnyH_take (i := 25) (oi := { dst := some 50, op := Op.pick (Operand.tmp 41) (Operand.const (Value.bool true)) (Operand.tmp 49), type := 4, pos := "keeps.go:42", after := #[{ on := 16, ground := Ground.data }, { on := 24, ground := Ground.data }], guard := none }) (v := ?v50) rfl (by kernel_rfl) (by kernel_rfl) (by kernel_rfl) (fun _ _ _ h => h) (Or.inl ⟨by rfl, ?hy50⟩) (by assumption) ?rest50
        case hy50 => (intro w1 hSw; (try dsimp only at hSw); obtain ⟨h0, h1, h2, -⟩ := hSw; go_simp; try with_reducible rfl)
        try simp only [Act.put, List.setIfInBounds_toArray, List.set_cons_zero, List.set_cons_succ]
        refine wpAnyH_done (by kernel_rfl) ?_ _
        go_wp2_with fail
        go_roundw
        case rel => exact ⟨j + 1, by omega, by go_num, q31⟩
        case measure => simp [RowKit.intOf]; omega
    · have b1 : ¬ (j : Int) < (sl.length : Int) := by omega
      clear tr pr Br hj hlt
      cases sa with
      | true =>
        obtain ⟨L, hL⟩ : ∃ L, nList ⟨true, sl⟩ = L := ⟨_, rfl⟩
        have hLl : L.length = sl.length + 1 := by rw [← hL]; rfl
        have hLi : (L.length : Int) = (sl.length : Int) + 1 := by omega
        have hLz : L.length * 16 ≤ 140737488355328 ∨ True := .inr trivial
        have hw1 : IntKind.i64.wrap ((sl.length : Int) + 1) = (sl.length : Int) + 1 := by rw [IntKind.wrap_i64]; omega
        have hne : ¬ (sl.length : Int) + 1 = 0 := by omega
        have HLL := Lib.hid (And.intro hL hLl)
        clear hL hLl hLz
        go_wp2_with fail
        refine (list_any (L := L) (sl := sl) T0 HLL.out.1 (by have := HLL.out.2; omega)).mono ?_
        rintro e w8 ⟨la, lc, rfl, -, hb8⟩
        have P8 := P0.later hb8
        have B8 := B0.later hb8
        clear c0 c1'
        have c0 := P8.cell 0
        have c1' := P8.cell 1
        simp only [List.getElem?_toArray, List.getElem?_cons_zero, List.getElem?_cons_succ] at c0 c1'
        go_wp2_with fail
        refine (empty_any (sl := sl) (B := false) rfl).mono ?_
        rintro e w9 ⟨rfl, hb9⟩
        have B9 := B8.later hb9
        go_wp2_with fail
        go_ret
        exact ⟨rfl, B9⟩
      | false =>
        by_cases h0 : sl.length = 0
        · have hz0 : (sl.length : Int) = 0 := by omega
          have hem : nEmpty ⟨false, sl⟩ = true := by rw [List.eq_nil_of_length_eq_zero h0]; rfl
          have HE := Lib.hid (And.intro hem h0)
          clear hem h0
          go_wp2_with fail
          refine (list_any (L := sl) (sl := sl) T0 rfl (by omega)).mono ?_
          rintro e w8 ⟨la, lc, rfl, -, hb8⟩
          have P8 := P0.later hb8
          have B8 := B0.later hb8
          clear c0 c1'
          have c0 := P8.cell 0
          have c1' := P8.cell 1
          simp only [List.getElem?_toArray, List.getElem?_cons_zero, List.getElem?_cons_succ] at c0 c1'
          go_wp2_with fail
          refine (empty_any (sl := sl) HE.out.1).mono ?_
          rintro e w9 ⟨rfl, hb9⟩
          have B9 := B8.later hb9
          go_wp2_with fail
          go_ret
          exact ⟨rfl, B9⟩
        · have hz0 : ¬ (sl.length : Int) = 0 := by omega
          have hz1 : ((sl.length : Int) == 0) = false := by simpa using hz0
          have hem : nEmpty ⟨false, sl⟩ = false := by
            cases sl with
            | nil => exact absurd rfl h0
            | cons x xs => rfl
          have HE := Lib.hid (And.intro hem h0)
          clear hem h0
          go_wp2_with fail
          refine (list_any (L := sl) (sl := sl) T0 rfl (by omega)).mono ?_
          rintro e w8 ⟨la, lc, rfl, -, hb8⟩
          have P8 := P0.later hb8
          have B8 := B0.later hb8
          clear c0 c1'
          have c0 := P8.cell 0
          have c1' := P8.cell 1
          simp only [List.getElem?_toArray, List.getElem?_cons_zero, List.getElem?_cons_succ] at c0 c1'
          go_wp2_with fail
          refine (empty_any (sl := sl) HE.out.1).mono ?_
          rintro e w9 ⟨rfl, hb9⟩
          have B9 := B8.later hb9
          go_wp2_with fail
          go_ret
          exact ⟨rfl, B9⟩
end Go.Proofs.Ytinjbfepjbogeaa
