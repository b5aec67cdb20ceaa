/- NamesOf: the walk. -/
import Derived.Test.YtinjbfepjbogeaaNmRefHas
import Derived.Test.YtinjbfepjbogeaaNmUnionP
import Derived.Deep.DeepCutAuto
import Derived.Deep.CutRange
import Derived.Deep.CutBlock
namespace Go.Proofs.Ytinjbfepjbogeaa
open Go.RowKit Go.Lib

theorem list_len {aa : Bool} {al L : List (List UInt8)} (h : nList ⟨aa, al⟩ = L) : L.length ≤ al.length + 1 := by
  rw [← h]; unfold nList; rw [List.length_append]; cases aa <;> simp <;> omega
set_option maxRecDepth 100000 in
set_option maxHeartbeats 8000000 in
theorem of_walk (a1 a2 : Option Addr) (n1 c1 c2 : Nat) (ms : List Nat) (l2 : List (List UInt8)) (own : Bool) (x : List UInt8) (w : World) (h1 : BytesIn w a1 ms) (hl1 : ms.length = n1) (hn1 : n1 ≤ 9223372036854775807) (h2 : TsAt w (.slice a2 l2.length c2) l2)
    (hs : ∀ s ∈ l2, s.length ≤ maxLen) (hz : (l2.length + 200) * 16 ≤ 140737488355328) (hx : x.length ≤ maxLen) :
    Calls Try.prog 3 #[.slice a1 n1 c1, .slice a2 l2.length c2, .bool own, .string ⟨x.toArray⟩] w fun e w' => e = .returned (.bool true) ∧ Below w.heap.size w w' := by
  have B0 : Base w w := Below.refl _ _
  have hfl := few_len ms
  have HX := Lib.hid hx
  clear hx
  go_enter Try.func3, Try.ntmps3
  cases own
  · go_wp2_with fail
    refine (examples_any w).mono ?_
    rintro e w1 ⟨rfl, hb2⟩
    have q3 := B0.later hb2
    have q4 := h1.later hb2
    have q5 := h2.later hb2
    go_wp2_with fail
    have hfit : NmFit l2 := ⟨hs, by omega⟩
    have hlen : (l2.length + 100) * 16 ≤ 140737488355328 := by omega
    obtain ⟨sa, sl, hset⟩ : ∃ sa sl, nOf okN l2 = ⟨sa, sl⟩ := ⟨_, _, rfl⟩
    obtain ⟨hf2, hl2⟩ := of_fit hfit hset
    obtain ⟨LL, hLL⟩ : ∃ L, nList ⟨sa, sl⟩ = L := ⟨_, rfl⟩
    have hLl := list_len hLL
    obtain ⟨Bx, hBx⟩ : ∃ B, nHas okN ⟨sa, sl⟩ x = B := ⟨_, rfl⟩
    obtain ⟨Ba, hBa⟩ : ∃ B, nHas okN ⟨sa, sl⟩ [97] = B := ⟨_, rfl⟩
    obtain ⟨Be, hBe⟩ : ∃ B, nEmpty ⟨sa, sl⟩ = B := ⟨_, rfl⟩
    have HH := Lib.hid (And.intro hset (And.intro hfit (And.intro hf2 (And.intro hLL (And.intro hBx (And.intro hBa hBe))))))
    have hlz : LL.length * 16 ≤ 140737488355328 := by omega
    have hl1z : (l2.length + 1) * 16 ≤ 140737488355328 := by omega
    clear hset hfit hf2 hLL hBx hBa hBe
    refine (of_any q5 HH.out.2.1 HH.out.1).mono ?_
    rintro e w9 ⟨a6, c7, rfl, h8, hb10⟩
    have q11 := q3.later hb10
    have q12 := q5.later hb10
    obtain ⟨w13, hw14, hb15, p16⟩ := alloc_new w9 #[.bool sa, .slice a6 sl.length c7] 27
    have q17 := q11.later hb15
    have q18 := q12.later hb15
    have q19 := h8.later hb15
    go_wp2_with fail
    refine (refOf_any q18 HH.out.2.1 hl1z HH.out.1).mono ?_
    rintro e w23 ⟨a20, c21, rfl, h22, hb24⟩
    have q25 := q17.later hb24
    have q26 := q18.later hb24
    have q27 := q19.later hb24
    have q28 := p16.later hb24
    obtain ⟨w29, hw30, hb31, p32⟩ := alloc_new w23 #[.bool sa, .slice a20 sl.length c21] 29
    have q33 := q25.later hb31
    have q34 := q26.later hb31
    have q35 := q27.later hb31
    have q36 := q28.later hb31
    have q37 := h22.later hb31
    have c38 := q36.cell 0
    have c39 := q36.cell 1
    have c40 := p32.cell 0
    have c41 := p32.cell 1
    simp only [List.getElem?_toArray, List.getElem?_cons_zero, List.getElem?_cons_succ] at c38 c39 c40 c41
    go_wp2_with fail
    refine (same9_any (l := sl) q35 q37).mono ?_
    rintro e w42 ⟨rfl, hb43⟩
    have q44 := q33.later hb43
    have q45 := q34.later hb43
    have q46 := q35.later hb43
    have q47 := q36.later hb43
    have q48 := q37.later hb43
    have q49 := p32.later hb43
    clear c38 c39 c40 c41
    go_wp2_with fail
    go_cut [13] (fun s13 wx => s13 = .bool true ∧ Below w42.heap.size w42 wx)
    case first =>
      have b50 : Base w42 w42 := Below.refl _ _
      obtain ⟨w51, hw52, hb53⟩ := drew_new w42
      have q54 := q44.later hb53
      have q55 := q45.later hb53
      have q56 := q46.later hb53
      have q57 := q47.later hb53
      have q58 := q48.later hb53
      have q59 := q49.later hb53
      have q60 := b50.later hb53
      refine wp_region_held_drew (S := (fun w' => w'.cell? ⟨w9.heap.size, 0, none⟩ = some (.bool sa) ∧ w'.cell? ⟨w9.heap.size, 1, none⟩ = some (.slice a6 sl.length c7) ∧ w'.cell? ⟨w23.heap.size, 0, none⟩ = some (.bool sa) ∧ w'.cell? ⟨w23.heap.size, 1, none⟩ = some (.slice a20 sl.length c21) ∧ True)) (by kernel_rfl) (by rw [hw52]; exact ⟨q57.cell 0, q57.cell 1, q59.cell 0, q59.cell 1, trivial⟩) (fun hHeld => ?_)
      rw [hw52] at hHeld ⊢
      refine wpAnyH_take (i := 0) (oi := { dst := some 27, op := Op.load 27 (Operand.tmp 10), type := 27, pos := "law.go:60", after := #[], guard := none }) (v := ?v1) rfl (by kernel_rfl) (by kernel_rfl) (by kernel_rfl) (fun _ _ _ h => h) (Or.inl ⟨by rfl, ?hy1⟩) (by assumption) ?rest1
      case hy1 => (intro w1 hSw; (try dsimp only at hSw); obtain ⟨h0, h1, h2, h3, -⟩ := hSw; go_simp; try with_reducible rfl)
      try simp only [Act.put, List.setIfInBounds_toArray, List.set_cons_zero, List.set_cons_succ]
      refine wpAnyH_take (i := 2) (oi := { dst := some 29, op := Op.load 29 (Operand.tmp 11), type := 29, pos := "law.go:60", after := #[], guard := none }) (v := ?v2) rfl (by kernel_rfl) (by kernel_rfl) (by kernel_rfl) (fun _ _ _ h => h) (Or.inl ⟨by rfl, ?hy2⟩) (by assumption) ?rest2
      case hy2 => (intro w1 hSw; (try dsimp only at hSw); obtain ⟨h0, h1, h2, h3, -⟩ := hSw; go_simp; try with_reducible rfl)
      try simp only [Act.put, List.setIfInBounds_toArray, List.set_cons_zero, List.set_cons_succ]
      refine wpAnyH_ready (rs := [1]) (by kernel_rfl) (by simp) ?_
      refine AllReadyH.cons (o := { dst := some 28, op := Op.call { callee := Callee.value (Operand.func 15), args := #[Operand.tmp 27], argTypes := #[27] }, type := 23, pos := "law.go:60", after := #[{ on := 0, ground := Ground.data }], guard := none }) rfl (fun K hK => ?_) AllReadyH.nil
      go_simp
      refine (list_any (L := LL) q56 HH.out.2.2.2.1 hlz).mono ?_
      rintro e w65 ⟨la62, lc63, rfl, lo61, hb66⟩
      have q67 := q54.later hb66
      have q68 := q55.later hb66
      have q69 := q56.later hb66
      have q70 := q57.later hb66
      have q71 := q58.later hb66
      have q72 := q59.later hb66
      have q73 := q60.later hb66
      have q64 : TsAt w65 _ LL := RowV.own lo61
      refine hK.out _ _ (⟨q70.cell 0, q70.cell 1, q72.cell 0, q72.cell 1, trivial⟩) (fun hHeld => ?_)
      clear hK K
      try simp only [Act.put, List.setIfInBounds_toArray, List.set_cons_zero, List.set_cons_succ]
      refine wpAnyH_ready (rs := [3]) (by kernel_rfl) (by simp) ?_
      refine AllReadyH.cons (o := { dst := some 30, op := Op.call { callee := Callee.value (Operand.func 16), args := #[Operand.tmp 29], argTypes := #[29] }, type := 23, pos := "law.go:60", after := #[{ on := 2, ground := Ground.data }, { on := 1, ground := Ground.chain }], guard := none }) rfl (fun K hK => ?_) AllReadyH.nil
      go_simp
      refine (rlist_any (L := LL) q71 HH.out.2.2.2.1 hlz).mono ?_
      rintro e w78 ⟨la75, lc76, rfl, lo74, hb79⟩
      have q80 := q67.later hb79
      have q81 := q68.later hb79
      have q82 := q69.later hb79
      have q83 := q70.later hb79
      have q84 := q71.later hb79
      have q85 := q72.later hb79
      have q86 := q73.later hb79
      have q87 := q64.later hb79
      have q77 : TsAt w78 _ LL := RowV.own lo74
      refine hK.out _ _ (⟨q83.cell 0, q83.cell 1, q85.cell 0, q85.cell 1, trivial⟩) (fun hHeld => ?_)
      clear hK K
      try simp only [Act.put, List.setIfInBounds_toArray, List.set_cons_zero, List.set_cons_succ]
      refine wpAnyH_ready (rs := [4]) (by kernel_rfl) (by simp) ?_
      refine AllReadyH.cons (o := { dst := some 31, op := Op.call { callee := Callee.value (Operand.func 14), args := #[Operand.tmp 28, Operand.tmp 30], argTypes := #[23, 23] }, type := 4, pos := "law.go:60", after := #[{ on := 1, ground := Ground.data }, { on := 3, ground := Ground.data }, { on := 3, ground := Ground.chain }], guard := none }) rfl (fun K hK => ?_) AllReadyH.nil
      go_simp
      refine (texts_any (l := LL) q87 q77).mono ?_
      rintro e w88 ⟨rfl, hb89⟩
      have q90 := q80.later hb89
      have q91 := q81.later hb89
      have q92 := q82.later hb89
      have q93 := q83.later hb89
      have q94 := q84.later hb89
      have q95 := q85.later hb89
      have q96 := q86.later hb89
      have q97 := q87.later hb89
      have q98 := q77.later hb89
      refine hK.out _ _ (⟨q93.cell 0, q93.cell 1, q95.cell 0, q95.cell 1, trivial⟩) (fun hHeld => ?_)
      clear hK K
      try simp only [Act.put, List.setIfInBounds_toArray, List.set_cons_zero, List.set_cons_succ]
      refine wpAnyH_take (i := 5) (oi := { dst := some 13, op := Op.assign (Operand.tmp 31), type := 4, pos := "law.go:60", after := #[{ on := 4, ground := Ground.data }, { on := 4, ground := Ground.chain }, { on := 0, ground := Ground.phase }, { on := 1, ground := Ground.phase }, { on := 2, ground := Ground.phase }, { on := 3, ground := Ground.phase }, { on := 4, ground := Ground.phase }], guard := none }) (v := ?v3) rfl (by kernel_rfl) (by kernel_rfl) (by kernel_rfl) (fun _ _ _ h => h) (Or.inl ⟨by rfl, ?hy3⟩) (by assumption) ?rest3
      case hy3 => (intro w1 hSw; (try dsimp only at hSw); obtain ⟨h0, h1, h2, h3, -⟩ := hSw; go_simp; try with_reducible rfl)
      try simp only [Act.put, List.setIfInBounds_toArray, List.set_cons_zero, List.set_cons_succ]
      refine wpAnyH_done (by kernel_rfl) ?_ _
      go_wp2_with fail
      go_meet
      exact ⟨rfl, q96⟩
    case rest =>
    obtain ⟨rfl, hb99⟩ := hcut
    have q100 := q44.later hb99
    have q101 := q45.later hb99
    have q102 := q46.later hb99
    have q103 := q47.later hb99
    have q104 := q48.later hb99
    have q105 := q49.later hb99
    go_wp2_with fail
    obtain ⟨w106, hw107, hb108⟩ := drew_new wc
    have q109 := q100.later hb108
    have q110 := q101.later hb108
    have q111 := q102.later hb108
    have q112 := q103.later hb108
    have q113 := q104.later hb108
    have q114 := q105.later hb108
    refine wp_region_held_drew (S := (fun w' => w'.cell? ⟨w9.heap.size, 0, none⟩ = some (.bool sa) ∧ w'.cell? ⟨w9.heap.size, 1, none⟩ = some (.slice a6 sl.length c7) ∧ w'.cell? ⟨w23.heap.size, 0, none⟩ = some (.bool sa) ∧ w'.cell? ⟨w23.heap.size, 1, none⟩ = some (.slice a20 sl.length c21) ∧ True)) (by kernel_rfl) (by rw [hw107]; exact ⟨q112.cell 0, q112.cell 1, q114.cell 0, q114.cell 1, trivial⟩) (fun hHeld => ?_)
    rw [hw107] at hHeld ⊢
    refine wpAnyH_take (i := 0) (oi := { dst := some 32, op := Op.move (Operand.tmp 9), type := 4, pos := "law.go:61", after := #[], guard := none }) (v := ?v4) rfl (by kernel_rfl) (by kernel_rfl) (by kernel_rfl) (fun _ _ _ h => h) (Or.inl ⟨by rfl, ?hy4⟩) (by assumption) ?rest4
    case hy4 => (intro w1 hSw; (try dsimp only at hSw); obtain ⟨h0, h1, h2, h3, -⟩ := hSw; go_simp; try with_reducible rfl)
    try simp only [Act.put, List.setIfInBounds_toArray, List.set_cons_zero, List.set_cons_succ]
    refine wpAnyH_take (i := 1) (oi := { dst := some 33, op := Op.move (Operand.tmp 32), type := 4, pos := "law.go:61", after := #[{ on := 0, ground := Ground.data }], guard := none }) (v := ?v5) rfl (by kernel_rfl) (by kernel_rfl) (by kernel_rfl) (fun _ _ _ h => h) (Or.inl ⟨by rfl, ?hy5⟩) (by assumption) ?rest5
    case hy5 => (intro w1 hSw; (try dsimp only at hSw); obtain ⟨h0, h1, h2, h3, -⟩ := hSw; go_simp; try with_reducible rfl)
    try simp only [Act.put, List.setIfInBounds_toArray, List.set_cons_zero, List.set_cons_succ]
    refine wpAnyH_take (i := 2) (oi := { dst := some 34, op := Op.move (Operand.tmp 12), type := 4, pos := "law.go:61", after := #[{ on := 1, ground := Ground.guard }], guard := some (1, true) }) (v := ?v6) rfl (by kernel_rfl) (by kernel_rfl) (by kernel_rfl) (fun _ _ _ h => h) (Or.inl ⟨by rfl, ?hy6⟩) (by assumption) ?rest6
    case hy6 => (intro w1 hSw; (try dsimp only at hSw); obtain ⟨h0, h1, h2, h3, -⟩ := hSw; go_simp; try with_reducible rfl)
    try simp only [Act.put, List.setIfInBounds_toArray, List.set_cons_zero, List.set_cons_succ]
    refine wpAnyH_take (i := 3) (oi := { dst := some 35, op := Op.pick (Operand.tmp 33) (Operand.tmp 34) (Operand.const (Value.bool false)), type := 4, pos := "law.go:61", after := #[{ on := 1, ground := Ground.data }, { on := 2, ground := Ground.data }], guard := none }) (v := ?v7) rfl (by kernel_rfl) (by kernel_rfl) (by kernel_rfl) (fun _ _ _ h => h) (Or.inl ⟨by rfl, ?hy7⟩) (by assumption) ?rest7
    case hy7 => (intro w1 hSw; (try dsimp only at hSw); obtain ⟨h0, h1, h2, h3, -⟩ := hSw; go_simp; try with_reducible rfl)
    try simp only [Act.put, List.setIfInBounds_toArray, List.set_cons_zero, List.set_cons_succ]
    refine wpAnyH_take (i := 4) (oi := { dst := some 36, op := Op.move (Operand.tmp 35), type := 4, pos := "law.go:61", after := #[{ on := 3, ground := Ground.data }, { on := 1, ground := Ground.chain }], guard := none }) (v := ?v8) rfl (by kernel_rfl) (by kernel_rfl) (by kernel_rfl) (fun _ _ _ h => h) (Or.inl ⟨by rfl, ?hy8⟩) (by assumption) ?rest8
    case hy8 => (intro w1 hSw; (try dsimp only at hSw); obtain ⟨h0, h1, h2, h3, -⟩ := hSw; go_simp; try with_reducible rfl)
    try simp only [Act.put, List.setIfInBounds_toArray, List.set_cons_zero, List.set_cons_succ]
    refine wpAnyH_take (i := 5) (oi := { dst := some 37, op := Op.move (Operand.tmp 13), type := 4, pos := "law.go:61", after := #[{ on := 4, ground := Ground.guard }], guard := some (4, true) }) (v := ?v9) rfl (by kernel_rfl) (by kernel_rfl) (by kernel_rfl) (fun _ _ _ h => h) (Or.inl ⟨by rfl, ?hy9⟩) (by assumption) ?rest9
    case hy9 => (intro w1 hSw; (try dsimp only at hSw); obtain ⟨h0, h1, h2, h3, -⟩ := hSw; go_simp; try with_reducible rfl)
    try simp only [Act.put, List.setIfInBounds_toArray, List.set_cons_zero, List.set_cons_succ]
    refine wpAnyH_take (i := 6) (oi := { dst := some 38, op := Op.pick (Operand.tmp 36) (Operand.tmp 37) (Operand.const (Value.bool false)), type := 4, pos := "law.go:61", after := #[{ on := 4, ground := Ground.data }, { on := 5, ground := Ground.data }], guard := none }) (v := ?v10) rfl (by kernel_rfl) (by kernel_rfl) (by kernel_rfl) (fun _ _ _ h => h) (Or.inl ⟨by rfl, ?hy10⟩) (by assumption) ?rest10
    case hy10 => (intro w1 hSw; (try dsimp only at hSw); obtain ⟨h0, h1, h2, h3, -⟩ := hSw; go_simp; try with_reducible rfl)
    try simp only [Act.put, List.setIfInBounds_toArray, List.set_cons_zero, List.set_cons_succ]
    refine wpAnyH_take (i := 7) (oi := { dst := some 39, op := Op.move (Operand.tmp 38), type := 4, pos := "law.go:61", after := #[{ on := 6, ground := Ground.data }, { on := 4, ground := Ground.chain }], guard := none }) (v := ?v11) rfl (by kernel_rfl) (by kernel_rfl) (by kernel_rfl) (fun _ _ _ h => h) (Or.inl ⟨by rfl, ?hy11⟩) (by assumption) ?rest11
    case hy11 => (intro w1 hSw; (try dsimp only at hSw); obtain ⟨h0, h1, h2, h3, -⟩ := hSw; go_simp; try with_reducible rfl)
    try simp only [Act.put, List.setIfInBounds_toArray, List.set_cons_zero, List.set_cons_succ]
    refine wpAnyH_take (i := 8) (oi := { dst := some 40, op := Op.load 27 (Operand.tmp 10), type := 27, pos := "law.go:61", after := #[{ on := 7, ground := Ground.guard }], guard := some (7, true) }) (v := ?v12) rfl (by kernel_rfl) (by kernel_rfl) (by kernel_rfl) (fun _ _ _ h => h) (Or.inl ⟨by rfl, ?hy12⟩) (by assumption) ?rest12
    case hy12 => (intro w1 hSw; (try dsimp only at hSw); obtain ⟨h0, h1, h2, h3, -⟩ := hSw; go_simp; try with_reducible rfl)
    try simp only [Act.put, List.setIfInBounds_toArray, List.set_cons_zero, List.set_cons_succ]
    refine wpAnyH_take (i := 9) (oi := { dst := some 41, op := Op.move (Operand.tmp 3), type := 9, pos := "law.go:61", after := #[{ on := 7, ground := Ground.guard }], guard := some (7, true) }) (v := ?v13) rfl (by kernel_rfl) (by kernel_rfl) (by kernel_rfl) (fun _ _ _ h => h) (Or.inl ⟨by rfl, ?hy13⟩) (by assumption) ?rest13
    case hy13 => (intro w1 hSw; (try dsimp only at hSw); obtain ⟨h0, h1, h2, h3, -⟩ := hSw; go_simp; try with_reducible rfl)
    try simp only [Act.put, List.setIfInBounds_toArray, List.set_cons_zero, List.set_cons_succ]
    refine wpAnyH_take (i := 11) (oi := { dst := some 43, op := Op.load 29 (Operand.tmp 11), type := 29, pos := "law.go:61", after := #[{ on := 7, ground := Ground.guard }], guard := some (7, true) }) (v := ?v14) rfl (by kernel_rfl) (by kernel_rfl) (by kernel_rfl) (fun _ _ _ h => h) (Or.inl ⟨by rfl, ?hy14⟩) (by assumption) ?rest14
    case hy14 => (intro w1 hSw; (try dsimp only at hSw); obtain ⟨h0, h1, h2, h3, -⟩ := hSw; go_simp; try with_reducible rfl)
    try simp only [Act.put, List.setIfInBounds_toArray, List.set_cons_zero, List.set_cons_succ]
    refine wpAnyH_take (i := 12) (oi := { dst := some 44, op := Op.move (Operand.tmp 3), type := 9, pos := "law.go:61", after := #[{ on := 7, ground := Ground.guard }], guard := some (7, true) }) (v := ?v15) rfl (by kernel_rfl) (by kernel_rfl) (by kernel_rfl) (fun _ _ _ h => h) (Or.inl ⟨by rfl, ?hy15⟩) (by assumption) ?rest15
    case hy15 => (intro w1 hSw; (try dsimp only at hSw); obtain ⟨h0, h1, h2, h3, -⟩ := hSw; go_simp; try with_reducible rfl)
    try simp only [Act.put, List.setIfInBounds_toArray, List.set_cons_zero, List.set_cons_succ]
    refine wpAnyH_ready (rs := [10]) (by kernel_rfl) (by simp) ?_
    refine AllReadyH.cons (o := { dst := some 42, op := Op.call { callee := Callee.value (Operand.func 17), args := #[Operand.tmp 40, Operand.tmp 41], argTypes := #[27, 9] }, type := 4, pos := "law.go:61", after := #[{ on := 8, ground := Ground.data }, { on := 9, ground := Ground.data }, { on := 7, ground := Ground.chain }, { on := 7, ground := Ground.guard }], guard := some (7, true) }) rfl (fun K hK => ?_) AllReadyH.nil
    go_simp
    refine (has_any (sl := sl) q111 HH.out.2.2.2.2.1).mono ?_
    rintro e w115 ⟨rfl, hb116⟩
    have q117 := q109.later hb116
    have q118 := q110.later hb116
    have q119 := q111.later hb116
    have q120 := q112.later hb116
    have q121 := q113.later hb116
    have q122 := q114.later hb116
    refine hK.out _ _ (⟨q120.cell 0, q120.cell 1, q122.cell 0, q122.cell 1, trivial⟩) (fun hHeld => ?_)
    clear hK K
    try simp only [Act.put, List.setIfInBounds_toArray, List.set_cons_zero, List.set_cons_succ]
    refine wpAnyH_ready (rs := [13]) (by kernel_rfl) (by simp) ?_
    refine AllReadyH.cons (o := { dst := some 45, op := Op.call { callee := Callee.value (Operand.func 18), args := #[Operand.tmp 43, Operand.tmp 44], argTypes := #[29, 9] }, type := 4, pos := "law.go:61", after := #[{ on := 11, ground := Ground.data }, { on := 12, ground := Ground.data }, { on := 10, ground := Ground.chain }, { on := 7, ground := Ground.guard }], guard := some (7, true) }) rfl (fun K hK => ?_) AllReadyH.nil
    go_simp
    refine (rhas_any (sl := sl) q121 HX.out HH.out.2.2.2.2.1).mono ?_
    rintro e w123 ⟨rfl, hb124⟩
    have q125 := q117.later hb124
    have q126 := q118.later hb124
    have q127 := q119.later hb124
    have q128 := q120.later hb124
    have q129 := q121.later hb124
    have q130 := q122.later hb124
    refine hK.out _ _ (⟨q128.cell 0, q128.cell 1, q130.cell 0, q130.cell 1, trivial⟩) (fun hHeld => ?_)
    clear hK K
    try simp only [Act.put, List.setIfInBounds_toArray, List.set_cons_zero, List.set_cons_succ]
    refine wpAnyH_take (i := 14) (oi := { dst := some 46, op := Op.binOp BinOp.eql 4 (Operand.tmp 42) (Operand.tmp 45) 4, type := 4, pos := "law.go:61", after := #[{ on := 10, ground := Ground.data }, { on := 13, ground := Ground.data }, { on := 7, ground := Ground.guard }], guard := some (7, true) }) (v := ?v16) rfl (by kernel_rfl) (by kernel_rfl) (by kernel_rfl) (fun _ _ _ h => h) (Or.inl ⟨by rfl, ?hy16⟩) (by assumption) ?rest16
    case hy16 => (intro w1 hSw; (try dsimp only at hSw); obtain ⟨h0, h1, h2, h3, -⟩ := hSw; go_simp; try with_reducible rfl)
    try simp only [Act.put, List.setIfInBounds_toArray, List.set_cons_zero, List.set_cons_succ]
    refine wpAnyH_take (i := 15) (oi := { dst := some 47, op := Op.pick (Operand.tmp 39) (Operand.tmp 46) (Operand.const (Value.bool false)), type := 4, pos := "law.go:61", after := #[{ on := 7, ground := Ground.data }, { on := 14, ground := Ground.data }], guard := none }) (v := ?v17) rfl (by kernel_rfl) (by kernel_rfl) (by kernel_rfl) (fun _ _ _ h => h) (Or.inl ⟨by rfl, ?hy17⟩) (by assumption) ?rest17
    case hy17 => (intro w1 hSw; (try dsimp only at hSw); obtain ⟨h0, h1, h2, h3, -⟩ := hSw; go_simp; try with_reducible rfl)
    try simp only [Act.put, List.setIfInBounds_toArray, List.set_cons_zero, List.set_cons_succ]
    refine wpAnyH_take (i := 16) (oi := { dst := some 48, op := Op.move (Operand.tmp 47), type := 4, pos := "law.go:61", after := #[{ on := 15, ground := Ground.data }, { on := 13, ground := Ground.chain }], guard := none }) (v := ?v18) rfl (by kernel_rfl) (by kernel_rfl) (by kernel_rfl) (fun _ _ _ h => h) (Or.inl ⟨by rfl, ?hy18⟩) (by assumption) ?rest18
    case hy18 => (intro w1 hSw; (try dsimp only at hSw); obtain ⟨h0, h1, h2, h3, -⟩ := hSw; go_simp; try with_reducible rfl)
    try simp only [Act.put, List.setIfInBounds_toArray, List.set_cons_zero, List.set_cons_succ]
    refine wpAnyH_take (i := 17) (oi := { dst := some 49, op := Op.load 27 (Operand.tmp 10), type := 27, pos := "law.go:61", after := #[{ on := 16, ground := Ground.guard }], guard := some (16, true) }) (v := ?v19) rfl (by kernel_rfl) (by kernel_rfl) (by kernel_rfl) (fun _ _ _ h => h) (Or.inl ⟨by rfl, ?hy19⟩) (by assumption) ?rest19
    case hy19 => (intro w1 hSw; (try dsimp only at hSw); obtain ⟨h0, h1, h2, h3, -⟩ := hSw; go_simp; try with_reducible rfl)
    try simp only [Act.put, List.setIfInBounds_toArray, List.set_cons_zero, List.set_cons_succ]
    refine wpAnyH_take (i := 19) (oi := { dst := some 51, op := Op.load 29 (Operand.tmp 11), type := 29, pos := "law.go:61", after := #[{ on := 16, ground := Ground.guard }], guard := some (16, true) }) (v := ?v20) rfl (by kernel_rfl) (by kernel_rfl) (by kernel_rfl) (fun _ _ _ h => h) (Or.inl ⟨by rfl, ?hy20⟩) (by assumption) ?rest20
    case hy20 => (intro w1 hSw; (try dsimp only at hSw); obtain ⟨h0, h1, h2, h3, -⟩ := hSw; go_simp; try with_reducible rfl)
    try simp only [Act.put, List.setIfInBounds_toArray, List.set_cons_zero, List.set_cons_succ]
    refine wpAnyH_ready (rs := [18]) (by kernel_rfl) (by simp) ?_
    refine AllReadyH.cons (o := { dst := some 50, op := Op.call { callee := Callee.value (Operand.func 17), args := #[Operand.tmp 49, Operand.const (Value.string { data := #[97] })], argTypes := #[27, 9] }, type := 4, pos := "law.go:61", after := #[{ on := 17, ground := Ground.data }, { on := 16, ground := Ground.chain }, { on := 16, ground := Ground.guard }], guard := some (16, true) }) rfl (fun K hK => ?_) AllReadyH.nil
    go_simp
    refine (has_any (sl := sl) q127 HH.out.2.2.2.2.2.1).mono ?_
    rintro e w131 ⟨rfl, hb132⟩
    have q133 := q125.later hb132
    have q134 := q126.later hb132
    have q135 := q127.later hb132
    have q136 := q128.later hb132
    have q137 := q129.later hb132
    have q138 := q130.later hb132
    refine hK.out _ _ (⟨q136.cell 0, q136.cell 1, q138.cell 0, q138.cell 1, trivial⟩) (fun hHeld => ?_)
    clear hK K
    try simp only [Act.put, List.setIfInBounds_toArray, List.set_cons_zero, List.set_cons_succ]
    refine wpAnyH_ready (rs := [20]) (by kernel_rfl) (by simp) ?_
    refine AllReadyH.cons (o := { dst := some 52, op := Op.call { callee := Callee.value (Operand.func 18), args := #[Operand.tmp 51, Operand.const (Value.string { data := #[97] })], argTypes := #[29, 9] }, type := 4, pos := "law.go:61", after := #[{ on := 19, ground := Ground.data }, { on := 18, ground := Ground.chain }, { on := 16, ground := Ground.guard }], guard := some (16, true) }) rfl (fun K hK => ?_) AllReadyH.nil
    go_simp
    refine (rhas_any (sl := sl) (x := [97]) q137 (by decide) HH.out.2.2.2.2.2.1).mono ?_
    rintro e w139 ⟨rfl, hb140⟩
    have q141 := q133.later hb140
    have q142 := q134.later hb140
    have q143 := q135.later hb140
    have q144 := q136.later hb140
    have q145 := q137.later hb140
    have q146 := q138.later hb140
    refine hK.out _ _ (⟨q144.cell 0, q144.cell 1, q146.cell 0, q146.cell 1, trivial⟩) (fun hHeld => ?_)
    clear hK K
    try simp only [Act.put, List.setIfInBounds_toArray, List.set_cons_zero, List.set_cons_succ]
    refine wpAnyH_take (i := 21) (oi := { dst := some 53, op := Op.binOp BinOp.eql 4 (Operand.tmp 50) (Operand.tmp 52) 4, type := 4, pos := "law.go:61", after := #[{ on := 18, ground := Ground.data }, { on := 20, ground := Ground.data }, { on := 16, ground := Ground.guard }], guard := some (16, true) }) (v := ?v21) rfl (by kernel_rfl) (by kernel_rfl) (by kernel_rfl) (fun _ _ _ h => h) (Or.inl ⟨by rfl, ?hy21⟩) (by assumption) ?rest21
    case hy21 => (intro w1 hSw; (try dsimp only at hSw); obtain ⟨h0, h1, h2, h3, -⟩ := hSw; go_simp; try with_reducible rfl)
    try simp only [Act.put, List.setIfInBounds_toArray, List.set_cons_zero, List.set_cons_succ]
    refine wpAnyH_take (i := 22) (oi := { dst := some 54, op := Op.pick (Operand.tmp 48) (Operand.tmp 53) (Operand.const (Value.bool false)), type := 4, pos := "law.go:61", after := #[{ on := 16, ground := Ground.data }, { on := 21, ground := Ground.data }], guard := none }) (v := ?v22) rfl (by kernel_rfl) (by kernel_rfl) (by kernel_rfl) (fun _ _ _ h => h) (Or.inl ⟨by rfl, ?hy22⟩) (by assumption) ?rest22
    case hy22 => (intro w1 hSw; (try dsimp only at hSw); obtain ⟨h0, h1, h2, h3, -⟩ := hSw; go_simp; try with_reducible rfl)
    try simp only [Act.put, List.setIfInBounds_toArray, List.set_cons_zero, List.set_cons_succ]
    refine wpAnyH_take (i := 23) (oi := { dst := some 55, op := Op.move (Operand.tmp 54), type := 4, pos := "law.go:61", after := #[{ on := 22, ground := Ground.data }, { on := 20, ground := Ground.chain }], guard := none }) (v := ?v23) rfl (by kernel_rfl) (by kernel_rfl) (by kernel_rfl) (fun _ _ _ h => h) (Or.inl ⟨by rfl, ?hy23⟩) (by assumption) ?rest23
    case hy23 => (intro w1 hSw; (try dsimp only at hSw); obtain ⟨h0, h1, h2, h3, -⟩ := hSw; go_simp; try with_reducible rfl)
    try simp only [Act.put, List.setIfInBounds_toArray, List.set_cons_zero, List.set_cons_succ]
    refine wpAnyH_take (i := 24) (oi := { dst := some 56, op := Op.load 27 (Operand.tmp 10), type := 27, pos := "law.go:61", after := #[{ on := 23, ground := Ground.guard }], guard := some (23, true) }) (v := ?v24) rfl (by kernel_rfl) (by kernel_rfl) (by kernel_rfl) (fun _ _ _ h => h) (Or.inl ⟨by rfl, ?hy24⟩) (by assumption) ?rest24
    case hy24 => (intro w1 hSw; (try dsimp only at hSw); obtain ⟨h0, h1, h2, h3, -⟩ := hSw; go_simp; try with_reducible rfl)
    try simp only [Act.put, List.setIfInBounds_toArray, List.set_cons_zero, List.set_cons_succ]
    refine wpAnyH_take (i := 26) (oi := { dst := some 58, op := Op.load 29 (Operand.tmp 11), type := 29, pos := "law.go:61", after := #[{ on := 23, ground := Ground.guard }], guard := some (23, true) }) (v := ?v25) rfl (by kernel_rfl) (by kernel_rfl) (by kernel_rfl) (fun _ _ _ h => h) (Or.inl ⟨by rfl, ?hy25⟩) (by assumption) ?rest25
    case hy25 => (intro w1 hSw; (try dsimp only at hSw); obtain ⟨h0, h1, h2, h3, -⟩ := hSw; go_simp; try with_reducible rfl)
    try simp only [Act.put, List.setIfInBounds_toArray, List.set_cons_zero, List.set_cons_succ]
    refine wpAnyH_ready (rs := [25]) (by kernel_rfl) (by simp) ?_
    refine AllReadyH.cons (o := { dst := some 57, op := Op.call { callee := Callee.value (Operand.func 19), args := #[Operand.tmp 56], argTypes := #[27] }, type := 4, pos := "law.go:61", after := #[{ on := 24, ground := Ground.data }, { on := 23, ground := Ground.chain }, { on := 23, ground := Ground.guard }], guard := some (23, true) }) rfl (fun K hK => ?_) AllReadyH.nil
    go_simp
    refine (empty_any (sl := sl) HH.out.2.2.2.2.2.2).mono ?_
    rintro e w147 ⟨rfl, hb148⟩
    have q149 := q141.later hb148
    have q150 := q142.later hb148
    have q151 := q143.later hb148
    have q152 := q144.later hb148
    have q153 := q145.later hb148
    have q154 := q146.later hb148
    refine hK.out _ _ (⟨q152.cell 0, q152.cell 1, q154.cell 0, q154.cell 1, trivial⟩) (fun hHeld => ?_)
    clear hK K
    try simp only [Act.put, List.setIfInBounds_toArray, List.set_cons_zero, List.set_cons_succ]
    refine wpAnyH_ready (rs := [27]) (by kernel_rfl) (by simp) ?_
    refine AllReadyH.cons (o := { dst := some 59, op := Op.call { callee := Callee.value (Operand.func 20), args := #[Operand.tmp 58], argTypes := #[29] }, type := 4, pos := "law.go:61", after := #[{ on := 26, ground := Ground.data }, { on := 25, ground := Ground.chain }, { on := 23, ground := Ground.guard }], guard := some (23, true) }) rfl (fun K hK => ?_) AllReadyH.nil
    go_simp
    refine (rempty_any (sl := sl) HH.out.2.2.2.2.2.2).mono ?_
    rintro e w155 ⟨rfl, hb156⟩
    have q157 := q149.later hb156
    have q158 := q150.later hb156
    have q159 := q151.later hb156
    have q160 := q152.later hb156
    have q161 := q153.later hb156
    have q162 := q154.later hb156
    refine hK.out _ _ (⟨q160.cell 0, q160.cell 1, q162.cell 0, q162.cell 1, trivial⟩) (fun hHeld => ?_)
    clear hK K
    try simp only [Act.put, List.setIfInBounds_toArray, List.set_cons_zero, List.set_cons_succ]
    refine wpAnyH_take (i := 28) (oi := { dst := some 60, op := Op.binOp BinOp.eql 4 (Operand.tmp 57) (Operand.tmp 59) 4, type := 4, pos := "law.go:61", after := #[{ on := 25, ground := Ground.data }, { on := 27, ground := Ground.data }, { on := 23, ground := Ground.guard }], guard := some (23, true) }) (v := ?v26) rfl (by kernel_rfl) (by kernel_rfl) (by kernel_rfl) (fun _ _ _ h => h) (Or.inl ⟨by rfl, ?hy26⟩) (by assumption) ?rest26
    case hy26 => (intro w1 hSw; (try dsimp only at hSw); obtain ⟨h0, h1, h2, h3, -⟩ := hSw; go_simp; try with_reducible rfl)
    try simp only [Act.put, List.setIfInBounds_toArray, List.set_cons_zero, List.set_cons_succ]
    refine wpAnyH_take (i := 29) (oi := { dst := some 61, op := Op.pick (Operand.tmp 55) (Operand.tmp 60) (Operand.const (Value.bool false)), type := 4, pos := "law.go:61", after := #[{ on := 23, ground := Ground.data }, { on := 28, ground := Ground.data }], guard := none }) (v := ?v27) rfl (by kernel_rfl) (by kernel_rfl) (by kernel_rfl) (fun _ _ _ h => h) (Or.inl ⟨by rfl, ?hy27⟩) (by assumption) ?rest27
    case hy27 => (intro w1 hSw; (try dsimp only at hSw); obtain ⟨h0, h1, h2, h3, -⟩ := hSw; go_simp; try with_reducible rfl)
    try simp only [Act.put, List.setIfInBounds_toArray, List.set_cons_zero, List.set_cons_succ]
    refine wpAnyH_take (i := 30) (oi := { dst := some 8, op := Op.assign (Operand.tmp 61), type := 4, pos := "law.go:61", after := #[{ on := 29, ground := Ground.data }, { on := 27, ground := Ground.chain }, { on := 0, ground := Ground.phase }, { on := 1, ground := Ground.phase }, { on := 2, ground := Ground.phase }, { on := 3, ground := Ground.phase }, { on := 4, ground := Ground.phase }, { on := 5, ground := Ground.phase }, { on := 6, ground := Ground.phase }, { on := 7, ground := Ground.phase }, { on := 8, ground := Ground.phase }, { on := 9, ground := Ground.phase }, { on := 10, ground := Ground.phase }, { on := 11, ground := Ground.phase }, { on := 12, ground := Ground.phase }, { on := 13, ground := Ground.phase }, { on := 14, ground := Ground.phase }, { on := 15, ground := Ground.phase }, { on := 16, ground := Ground.phase }, { on := 17, ground := Ground.phase }, { on := 18, ground := Ground.phase }, { on := 19, ground := Ground.phase }, { on := 20, ground := Ground.phase }, { on := 21, ground := Ground.phase }, { on := 22, ground := Ground.phase }, { on := 23, ground := Ground.phase }, { on := 24, ground := Ground.phase }, { on := 25, ground := Ground.phase }, { on := 26, ground := Ground.phase }, { on := 27, ground := Ground.phase }, { on := 28, ground := Ground.phase }, { on := 29, ground := Ground.phase }], guard := none }) (v := ?v28) rfl (by kernel_rfl) (by kernel_rfl) (by kernel_rfl) (fun _ _ _ h => h) (Or.inl ⟨by rfl, ?hy28⟩) (by assumption) ?rest28
    case hy28 => (intro w1 hSw; (try dsimp only at hSw); obtain ⟨h0, h1, h2, h3, -⟩ := hSw; go_simp; try with_reducible rfl)
    try simp only [Act.put, List.setIfInBounds_toArray, List.set_cons_zero, List.set_cons_succ]
    refine wpAnyH_done (by kernel_rfl) ?_ _
    go_wp2_with fail
    go_ret
    exact ⟨rfl, q157⟩
  · go_wp2_with fail
    refine (examples_any w).mono ?_
    rintro e w163 ⟨rfl, hb164⟩
    have q165 := B0.later hb164
    have q166 := h1.later hb164
    have q167 := h2.later hb164
    go_wp2_with fail
    refine (few_any q166 hl1 hn1).mono ?_
    rintro e w171 ⟨fa168, fc169, rfl, fo170, hb172⟩
    have q173 := q165.later hb172
    have q174 := q166.later hb172
    have q175 := q167.later hb172
    have q176 : TsAt w171 _ (fewL ms) := RowV.own fo170
    have hfit : NmFit (fewL ms) := few_fit ms
    have hlen : ((fewL ms).length + 100) * 16 ≤ 140737488355328 := by omega
    obtain ⟨sa, sl, hset⟩ : ∃ sa sl, nOf okN (fewL ms) = ⟨sa, sl⟩ := ⟨_, _, rfl⟩
    obtain ⟨hf2, hl2⟩ := of_fit hfit hset
    obtain ⟨LL, hLL⟩ : ∃ L, nList ⟨sa, sl⟩ = L := ⟨_, rfl⟩
    have hLl := list_len hLL
    obtain ⟨Bx, hBx⟩ : ∃ B, nHas okN ⟨sa, sl⟩ x = B := ⟨_, rfl⟩
    obtain ⟨Ba, hBa⟩ : ∃ B, nHas okN ⟨sa, sl⟩ [97] = B := ⟨_, rfl⟩
    obtain ⟨Be, hBe⟩ : ∃ B, nEmpty ⟨sa, sl⟩ = B := ⟨_, rfl⟩
    have HH := Lib.hid (And.intro hset (And.intro hfit (And.intro hf2 (And.intro hLL (And.intro hBx (And.intro hBa hBe))))))
    have hlz : LL.length * 16 ≤ 140737488355328 := by omega
    have hl1z : ((fewL ms).length + 1) * 16 ≤ 140737488355328 := by omega
    clear hset hfit hf2 hLL hBx hBa hBe
    go_wp2_with fail
    refine (of_any q176 HH.out.2.1 HH.out.1).mono ?_
    rintro e w180 ⟨a177, c178, rfl, h179, hb181⟩
    have q182 := q173.later hb181
    have q183 := q176.later hb181
    obtain ⟨w184, hw185, hb186, p187⟩ := alloc_new w180 #[.bool sa, .slice a177 sl.length c178] 27
    have q188 := q182.later hb186
    have q189 := q183.later hb186
    have q190 := h179.later hb186
    go_wp2_with fail
    refine (refOf_any q189 HH.out.2.1 hl1z HH.out.1).mono ?_
    rintro e w194 ⟨a191, c192, rfl, h193, hb195⟩
    have q196 := q188.later hb195
    have q197 := q189.later hb195
    have q198 := q190.later hb195
    have q199 := p187.later hb195
    obtain ⟨w200, hw201, hb202, p203⟩ := alloc_new w194 #[.bool sa, .slice a191 sl.length c192] 29
    have q204 := q196.later hb202
    have q205 := q197.later hb202
    have q206 := q198.later hb202
    have q207 := q199.later hb202
    have q208 := h193.later hb202
    have c209 := q207.cell 0
    have c210 := q207.cell 1
    have c211 := p203.cell 0
    have c212 := p203.cell 1
    simp only [List.getElem?_toArray, List.getElem?_cons_zero, List.getElem?_cons_succ] at c209 c210 c211 c212
    go_wp2_with fail
    refine (same9_any (l := sl) q206 q208).mono ?_
    rintro e w213 ⟨rfl, hb214⟩
    have q215 := q204.later hb214
    have q216 := q205.later hb214
    have q217 := q206.later hb214
    have q218 := q207.later hb214
    have q219 := q208.later hb214
    have q220 := p203.later hb214
    clear c209 c210 c211 c212
    go_wp2_with fail
    go_cut [13] (fun s13 wx => s13 = .bool true ∧ Below w213.heap.size w213 wx)
    case first =>
      have b221 : Base w213 w213 := Below.refl _ _
      obtain ⟨w222, hw223, hb224⟩ := drew_new w213
      have q225 := q215.later hb224
      have q226 := q216.later hb224
      have q227 := q217.later hb224
      have q228 := q218.later hb224
      have q229 := q219.later hb224
      have q230 := q220.later hb224
      have q231 := b221.later hb224
      refine wp_region_held_drew (S := (fun w' => w'.cell? ⟨w180.heap.size, 0, none⟩ = some (.bool sa) ∧ w'.cell? ⟨w180.heap.size, 1, none⟩ = some (.slice a177 sl.length c178) ∧ w'.cell? ⟨w194.heap.size, 0, none⟩ = some (.bool sa) ∧ w'.cell? ⟨w194.heap.size, 1, none⟩ = some (.slice a191 sl.length c192) ∧ True)) (by kernel_rfl) (by rw [hw223]; exact ⟨q228.cell 0, q228.cell 1, q230.cell 0, q230.cell 1, trivial⟩) (fun hHeld => ?_)
      rw [hw223] at hHeld ⊢
      refine wpAnyH_take (i := 0) (oi := { dst := some 27, op := Op.load 27 (Operand.tmp 10), type := 27, pos := "law.go:60", after := #[], guard := none }) (v := ?v29) rfl (by kernel_rfl) (by kernel_rfl) (by kernel_rfl) (fun _ _ _ h => h) (Or.inl ⟨by rfl, ?hy29⟩) (by assumption) ?rest29
      case hy29 => (intro w1 hSw; (try dsimp only at hSw); obtain ⟨h0, h1, h2, h3, -⟩ := hSw; go_simp; try with_reducible rfl)
      try simp only [Act.put, List.setIfInBounds_toArray, List.set_cons_zero, List.set_cons_succ]
      refine wpAnyH_take (i := 2) (oi := { dst := some 29, op := Op.load 29 (Operand.tmp 11), type := 29, pos := "law.go:60", after := #[], guard := none }) (v := ?v30) rfl (by kernel_rfl) (by kernel_rfl) (by kernel_rfl) (fun _ _ _ h => h) (Or.inl ⟨by rfl, ?hy30⟩) (by assumption) ?rest30
      case hy30 => (intro w1 hSw; (try dsimp only at hSw); obtain ⟨h0, h1, h2, h3, -⟩ := hSw; go_simp; try with_reducible rfl)
      try simp only [Act.put, List.setIfInBounds_toArray, List.set_cons_zero, List.set_cons_succ]
      refine wpAnyH_ready (rs := [1]) (by kernel_rfl) (by simp) ?_
      refine AllReadyH.cons (o := { dst := some 28, op := Op.call { callee := Callee.value (Operand.func 15), args := #[Operand.tmp 27], argTypes := #[27] }, type := 23, pos := "law.go:60", after := #[{ on := 0, ground := Ground.data }], guard := none }) rfl (fun K hK => ?_) AllReadyH.nil
      go_simp
      refine (list_any (L := LL) q227 HH.out.2.2.2.1 hlz).mono ?_
      rintro e w236 ⟨la233, lc234, rfl, lo232, hb237⟩
      have q238 := q225.later hb237
      have q239 := q226.later hb237
      have q240 := q227.later hb237
      have q241 := q228.later hb237
      have q242 := q229.later hb237
      have q243 := q230.later hb237
      have q244 := q231.later hb237
      have q235 : TsAt w236 _ LL := RowV.own lo232
      refine hK.out _ _ (⟨q241.cell 0, q241.cell 1, q243.cell 0, q243.cell 1, trivial⟩) (fun hHeld => ?_)
      clear hK K
      try simp only [Act.put, List.setIfInBounds_toArray, List.set_cons_zero, List.set_cons_succ]
      refine wpAnyH_ready (rs := [3]) (by kernel_rfl) (by simp) ?_
      refine AllReadyH.cons (o := { dst := some 30, op := Op.call { callee := Callee.value (Operand.func 16), args := #[Operand.tmp 29], argTypes := #[29] }, type := 23, pos := "law.go:60", after := #[{ on := 2, ground := Ground.data }, { on := 1, ground := Ground.chain }], guard := none }) rfl (fun K hK => ?_) AllReadyH.nil
      go_simp
      refine (rlist_any (L := LL) q242 HH.out.2.2.2.1 hlz).mono ?_
      rintro e w249 ⟨la246, lc247, rfl, lo245, hb250⟩
      have q251 := q238.later hb250
      have q252 := q239.later hb250
      have q253 := q240.later hb250
      have q254 := q241.later hb250
      have q255 := q242.later hb250
      have q256 := q243.later hb250
      have q257 := q244.later hb250
      have q258 := q235.later hb250
      have q248 : TsAt w249 _ LL := RowV.own lo245
      refine hK.out _ _ (⟨q254.cell 0, q254.cell 1, q256.cell 0, q256.cell 1, trivial⟩) (fun hHeld => ?_)
      clear hK K
      try simp only [Act.put, List.setIfInBounds_toArray, List.set_cons_zero, List.set_cons_succ]
      refine wpAnyH_ready (rs := [4]) (by kernel_rfl) (by simp) ?_
      refine AllReadyH.cons (o := { dst := some 31, op := Op.call { callee := Callee.value (Operand.func 14), args := #[Operand.tmp 28, Operand.tmp 30], argTypes := #[23, 23] }, type := 4, pos := "law.go:60", after := #[{ on := 1, ground := Ground.data }, { on := 3, ground := Ground.data }, { on := 3, ground := Ground.chain }], guard := none }) rfl (fun K hK => ?_) AllReadyH.nil
      go_simp
      refine (texts_any (l := LL) q258 q248).mono ?_
      rintro e w259 ⟨rfl, hb260⟩
      have q261 := q251.later hb260
      have q262 := q252.later hb260
      have q263 := q253.later hb260
      have q264 := q254.later hb260
      have q265 := q255.later hb260
      have q266 := q256.later hb260
      have q267 := q257.later hb260
      have q268 := q258.later hb260
      have q269 := q248.later hb260
      refine hK.out _ _ (⟨q264.cell 0, q264.cell 1, q266.cell 0, q266.cell 1, trivial⟩) (fun hHeld => ?_)
      clear hK K
      try simp only [Act.put, List.setIfInBounds_toArray, List.set_cons_zero, List.set_cons_succ]
      refine wpAnyH_take (i := 5) (oi := { dst := some 13, op := Op.assign (Operand.tmp 31), type := 4, pos := "law.go:60", after := #[{ on := 4, ground := Ground.data }, { on := 4, ground := Ground.chain }, { on := 0, ground := Ground.phase }, { on := 1, ground := Ground.phase }, { on := 2, ground := Ground.phase }, { on := 3, ground := Ground.phase }, { on := 4, ground := Ground.phase }], guard := none }) (v := ?v31) rfl (by kernel_rfl) (by kernel_rfl) (by kernel_rfl) (fun _ _ _ h => h) (Or.inl ⟨by rfl, ?hy31⟩) (by assumption) ?rest31
      case hy31 => (intro w1 hSw; (try dsimp only at hSw); obtain ⟨h0, h1, h2, h3, -⟩ := hSw; go_simp; try with_reducible rfl)
      try simp only [Act.put, List.setIfInBounds_toArray, List.set_cons_zero, List.set_cons_succ]
      refine wpAnyH_done (by kernel_rfl) ?_ _
      go_wp2_with fail
      go_meet
      exact ⟨rfl, q267⟩
    case rest =>
    obtain ⟨rfl, hb270⟩ := hcut
    have q271 := q215.later hb270
    have q272 := q216.later hb270
    have q273 := q217.later hb270
    have q274 := q218.later hb270
    have q275 := q219.later hb270
    have q276 := q220.later hb270
    go_wp2_with fail
    obtain ⟨w277, hw278, hb279⟩ := drew_new wc
    have q280 := q271.later hb279
    have q281 := q272.later hb279
    have q282 := q273.later hb279
    have q283 := q274.later hb279
    have q284 := q275.later hb279
    have q285 := q276.later hb279
    refine wp_region_held_drew (S := (fun w' => w'.cell? ⟨w180.heap.size, 0, none⟩ = some (.bool sa) ∧ w'.cell? ⟨w180.heap.size, 1, none⟩ = some (.slice a177 sl.length c178) ∧ w'.cell? ⟨w194.heap.size, 0, none⟩ = some (.bool sa) ∧ w'.cell? ⟨w194.heap.size, 1, none⟩ = some (.slice a191 sl.length c192) ∧ True)) (by kernel_rfl) (by rw [hw278]; exact ⟨q283.cell 0, q283.cell 1, q285.cell 0, q285.cell 1, trivial⟩) (fun hHeld => ?_)
    rw [hw278] at hHeld ⊢
    refine wpAnyH_take (i := 0) (oi := { dst := some 32, op := Op.move (Operand.tmp 9), type := 4, pos := "law.go:61", after := #[], guard := none }) (v := ?v32) rfl (by kernel_rfl) (by kernel_rfl) (by kernel_rfl) (fun _ _ _ h => h) (Or.inl ⟨by rfl, ?hy32⟩) (by assumption) ?rest32
    case hy32 => (intro w1 hSw; (try dsimp only at hSw); obtain ⟨h0, h1, h2, h3, -⟩ := hSw; go_simp; try with_reducible rfl)
    try simp only [Act.put, List.setIfInBounds_toArray, List.set_cons_zero, List.set_cons_succ]
    refine wpAnyH_take (i := 1) (oi := { dst := some 33, op := Op.move (Operand.tmp 32), type := 4, pos := "law.go:61", after := #[{ on := 0, ground := Ground.data }], guard := none }) (v := ?v33) rfl (by kernel_rfl) (by kernel_rfl) (by kernel_rfl) (fun _ _ _ h => h) (Or.inl ⟨by rfl, ?hy33⟩) (by assumption) ?rest33
    case hy33 => (intro w1 hSw; (try dsimp only at hSw); obtain ⟨h0, h1, h2, h3, -⟩ := hSw; go_simp; try with_reducible rfl)
    try simp only [Act.put, List.setIfInBounds_toArray, List.set_cons_zero, List.set_cons_succ]
    refine wpAnyH_take (i := 2) (oi := { dst := some 34, op := Op.move (Operand.tmp 12), type := 4, pos := "law.go:61", after := #[{ on := 1, ground := Ground.guard }], guard := some (1, true) }) (v := ?v34) rfl (by kernel_rfl) (by kernel_rfl) (by kernel_rfl) (fun _ _ _ h => h) (Or.inl ⟨by rfl, ?hy34⟩) (by assumption) ?rest34
    case hy34 => (intro w1 hSw; (try dsimp only at hSw); obtain ⟨h0, h1, h2, h3, -⟩ := hSw; go_simp; try with_reducible rfl)
    try simp only [Act.put, List.setIfInBounds_toArray, List.set_cons_zero, List.set_cons_succ]
    refine wpAnyH_take (i := 3) (oi := { dst := some 35, op := Op.pick (Operand.tmp 33) (Operand.tmp 34) (Operand.const (Value.bool false)), type := 4, pos := "law.go:61", after := #[{ on := 1, ground := Ground.data }, { on := 2, ground := Ground.data }], guard := none }) (v := ?v35) rfl (by kernel_rfl) (by kernel_rfl) (by kernel_rfl) (fun _ _ _ h => h) (Or.inl ⟨by rfl, ?hy35⟩) (by assumption) ?rest35
    case hy35 => (intro w1 hSw; (try dsimp only at hSw); obtain ⟨h0, h1, h2, h3, -⟩ := hSw; go_simp; try with_reducible rfl)
    try simp only [Act.put, List.setIfInBounds_toArray, List.set_cons_zero, List.set_cons_succ]
    refine wpAnyH_take (i := 4) (oi := { dst := some 36, op := Op.move (Operand.tmp 35), type := 4, pos := "law.go:61", after := #[{ on := 3, ground := Ground.data }, { on := 1, ground := Ground.chain }], guard := none }) (v := ?v36) rfl (by kernel_rfl) (by kernel_rfl) (by kernel_rfl) (fun _ _ _ h => h) (Or.inl ⟨by rfl, ?hy36⟩) (by assumption) ?rest36
    case hy36 => (intro w1 hSw; (try dsimp only at hSw); obtain ⟨h0, h1, h2, h3, -⟩ := hSw; go_simp; try with_reducible rfl)
    try simp only [Act.put, List.setIfInBounds_toArray, List.set_cons_zero, List.set_cons_succ]
    refine wpAnyH_take (i := 5) (oi := { dst := some 37, op := Op.move (Operand.tmp 13), type := 4, pos := "law.go:61", after := #[{ on := 4, ground := Ground.guard }], guard := some (4, true) }) (v := ?v37) rfl (by kernel_rfl) (by kernel_rfl) (by kernel_rfl) (fun _ _ _ h => h) (Or.inl ⟨by rfl, ?hy37⟩) (by assumption) ?rest37
    case hy37 => (intro w1 hSw; (try dsimp only at hSw); obtain ⟨h0, h1, h2, h3, -⟩ := hSw; go_simp; try with_reducible rfl)
    try simp only [Act.put, List.setIfInBounds_toArray, List.set_cons_zero, List.set_cons_succ]
    refine wpAnyH_take (i := 6) (oi := { dst := some 38, op := Op.pick (Operand.tmp 36) (Operand.tmp 37) (Operand.const (Value.bool false)), type := 4, pos := "law.go:61", after := #[{ on := 4, ground := Ground.data }, { on := 5, ground := Ground.data }], guard := none }) (v := ?v38) rfl (by kernel_rfl) (by kernel_rfl) (by kernel_rfl) (fun _ _ _ h => h) (Or.inl ⟨by rfl, ?hy38⟩) (by assumption) ?rest38
    case hy38 => (intro w1 hSw; (try dsimp only at hSw); obtain ⟨h0, h1, h2, h3, -⟩ := hSw; go_simp; try with_reducible rfl)
    try simp only [Act.put, List.setIfInBounds_toArray, List.set_cons_zero, List.set_cons_succ]
    refine wpAnyH_take (i := 7) (oi := { dst := some 39, op := Op.move (Operand.tmp 38), type := 4, pos := "law.go:61", after := #[{ on := 6, ground := Ground.data }, { on := 4, ground := Ground.chain }], guard := none }) (v := ?v39) rfl (by kernel_rfl) (by kernel_rfl) (by kernel_rfl) (fun _ _ _ h => h) (Or.inl ⟨by rfl, ?hy39⟩) (by assumption) ?rest39
    case hy39 => (intro w1 hSw; (try dsimp only at hSw); obtain ⟨h0, h1, h2, h3, -⟩ := hSw; go_simp; try with_reducible rfl)
    try simp only [Act.put, List.setIfInBounds_toArray, List.set_cons_zero, List.set_cons_succ]
    refine wpAnyH_take (i := 8) (oi := { dst := some 40, op := Op.load 27 (Operand.tmp 10), type := 27, pos := "law.go:61", after := #[{ on := 7, ground := Ground.guard }], guard := some (7, true) }) (v := ?v40) rfl (by kernel_rfl) (by kernel_rfl) (by kernel_rfl) (fun _ _ _ h => h) (Or.inl ⟨by rfl, ?hy40⟩) (by assumption) ?rest40
    case hy40 => (intro w1 hSw; (try dsimp only at hSw); obtain ⟨h0, h1, h2, h3, -⟩ := hSw; go_simp; try with_reducible rfl)
    try simp only [Act.put, List.setIfInBounds_toArray, List.set_cons_zero, List.set_cons_succ]
    refine wpAnyH_take (i := 9) (oi := { dst := some 41, op := Op.move (Operand.tmp 3), type := 9, pos := "law.go:61", after := #[{ on := 7, ground := Ground.guard }], guard := some (7, true) }) (v := ?v41) rfl (by kernel_rfl) (by kernel_rfl) (by kernel_rfl) (fun _ _ _ h => h) (Or.inl ⟨by rfl, ?hy41⟩) (by assumption) ?rest41
    case hy41 => (intro w1 hSw; (try dsimp only at hSw); obtain ⟨h0, h1, h2, h3, -⟩ := hSw; go_simp; try with_reducible rfl)
    try simp only [Act.put, List.setIfInBounds_toArray, List.set_cons_zero, List.set_cons_succ]
    refine wpAnyH_take (i := 11) (oi := { dst := some 43, op := Op.load 29 (Operand.tmp 11), type := 29, pos := "law.go:61", after := #[{ on := 7, ground := Ground.guard }], guard := some (7, true) }) (v := ?v42) rfl (by kernel_rfl) (by kernel_rfl) (by kernel_rfl) (fun _ _ _ h => h) (Or.inl ⟨by rfl, ?hy42⟩) (by assumption) ?rest42
    case hy42 => (intro w1 hSw; (try dsimp only at hSw); obtain ⟨h0, h1, h2, h3, -⟩ := hSw; go_simp; try with_reducible rfl)
    try simp only [Act.put, List.setIfInBounds_toArray, List.set_cons_zero, List.set_cons_succ]
    refine wpAnyH_take (i := 12) (oi := { dst := some 44, op := Op.move (Operand.tmp 3), type := 9, pos := "law.go:61", after := #[{ on := 7, ground := Ground.guard }], guard := some (7, true) }) (v := ?v43) rfl (by kernel_rfl) (by kernel_rfl) (by kernel_rfl) (fun _ _ _ h => h) (Or.inl ⟨by rfl, ?hy43⟩) (by assumption) ?rest43
    case hy43 => (intro w1 hSw; (try dsimp only at hSw); obtain ⟨h0, h1, h2, h3, -⟩ := hSw; go_simp; try with_reducible rfl)
    try simp only [Act.put, List.setIfInBounds_toArray, List.set_cons_zero, List.set_cons_succ]
    refine wpAnyH_ready (rs := [10]) (by kernel_rfl) (by simp) ?_
    refine AllReadyH.cons (o := { dst := some 42, op := Op.call { callee := Callee.value (Operand.func 17), args := #[Operand.tmp 40, Operand.tmp 41], argTypes := #[27, 9] }, type := 4, pos := "law.go:61", after := #[{ on := 8, ground := Ground.data }, { on := 9, ground := Ground.data }, { on := 7, ground := Ground.chain }, { on := 7, ground := Ground.guard }], guard := some (7, true) }) rfl (fun K hK => ?_) AllReadyH.nil
    go_simp
    refine (has_any (sl := sl) q282 HH.out.2.2.2.2.1).mono ?_
    rintro e w286 ⟨rfl, hb287⟩
    have q288 := q280.later hb287
    have q289 := q281.later hb287
    have q290 := q282.later hb287
    have q291 := q283.later hb287
    have q292 := q284.later hb287
    have q293 := q285.later hb287
    refine hK.out _ _ (⟨q291.cell 0, q291.cell 1, q293.cell 0, q293.cell 1, trivial⟩) (fun hHeld => ?_)
    clear hK K
    try simp only [Act.put, List.setIfInBounds_toArray, List.set_cons_zero, List.set_cons_succ]
    refine wpAnyH_ready (rs := [13]) (by kernel_rfl) (by simp) ?_
    refine AllReadyH.cons (o := { dst := some 45, op := Op.call { callee := Callee.value (Operand.func 18), args := #[Operand.tmp 43, Operand.tmp 44], argTypes := #[29, 9] }, type := 4, pos := "law.go:61", after := #[{ on := 11, ground := Ground.data }, { on := 12, ground := Ground.data }, { on := 10, ground := Ground.chain }, { on := 7, ground := Ground.guard }], guard := some (7, true) }) rfl (fun K hK => ?_) AllReadyH.nil
    go_simp
    refine (rhas_any (sl := sl) q292 HX.out HH.out.2.2.2.2.1).mono ?_
    rintro e w294 ⟨rfl, hb295⟩
    have q296 := q288.later hb295
    have q297 := q289.later hb295
    have q298 := q290.later hb295
    have q299 := q291.later hb295
    have q300 := q292.later hb295
    have q301 := q293.later hb295
    refine hK.out _ _ (⟨q299.cell 0, q299.cell 1, q301.cell 0, q301.cell 1, trivial⟩) (fun hHeld => ?_)
    clear hK K
    try simp only [Act.put, List.setIfInBounds_toArray, List.set_cons_zero, List.set_cons_succ]
    refine wpAnyH_take (i := 14) (oi := { dst := some 46, op := Op.binOp BinOp.eql 4 (Operand.tmp 42) (Operand.tmp 45) 4, type := 4, pos := "law.go:61", after := #[{ on := 10, ground := Ground.data }, { on := 13, ground := Ground.data }, { on := 7, ground := Ground.guard }], guard := some (7, true) }) (v := ?v44) rfl (by kernel_rfl) (by kernel_rfl) (by kernel_rfl) (fun _ _ _ h => h) (Or.inl ⟨by rfl, ?hy44⟩) (by assumption) ?rest44
    case hy44 => (intro w1 hSw; (try dsimp only at hSw); obtain ⟨h0, h1, h2, h3, -⟩ := hSw; go_simp; try with_reducible rfl)
    try simp only [Act.put, List.setIfInBounds_toArray, List.set_cons_zero, List.set_cons_succ]
    refine wpAnyH_take (i := 15) (oi := { dst := some 47, op := Op.pick (Operand.tmp 39) (Operand.tmp 46) (Operand.const (Value.bool false)), type := 4, pos := "law.go:61", after := #[{ on := 7, ground := Ground.data }, { on := 14, ground := Ground.data }], guard := none }) (v := ?v45) rfl (by kernel_rfl) (by kernel_rfl) (by kernel_rfl) (fun _ _ _ h => h) (Or.inl ⟨by rfl, ?hy45⟩) (by assumption) ?rest45
    case hy45 => (intro w1 hSw; (try dsimp only at hSw); obtain ⟨h0, h1, h2, h3, -⟩ := hSw; go_simp; try with_reducible rfl)
    try simp only [Act.put, List.setIfInBounds_toArray, List.set_cons_zero, List.set_cons_succ]
    refine wpAnyH_take (i := 16) (oi := { dst := some 48, op := Op.move (Operand.tmp 47), type := 4, pos := "law.go:61", after := #[{ on := 15, ground := Ground.data }, { on := 13, ground := Ground.chain }], guard := none }) (v := ?v46) rfl (by kernel_rfl) (by kernel_rfl) (by kernel_rfl) (fun _ _ _ h => h) (Or.inl ⟨by rfl, ?hy46⟩) (by assumption) ?rest46
    case hy46 => (intro w1 hSw; (try dsimp only at hSw); obtain ⟨h0, h1, h2, h3, -⟩ := hSw; go_simp; try with_reducible rfl)
    try simp only [Act.put, List.setIfInBounds_toArray, List.set_cons_zero, List.set_cons_succ]
    refine wpAnyH_take (i := 17) (oi := { dst := some 49, op := Op.load 27 (Operand.tmp 10), type := 27, pos := "law.go:61", after := #[{ on := 16, ground := Ground.guard }], guard := some (16, true) }) (v := ?v47) rfl (by kernel_rfl) (by kernel_rfl) (by kernel_rfl) (fun _ _ _ h => h) (Or.inl ⟨by rfl, ?hy47⟩) (by assumption) ?rest47
    case hy47 => (intro w1 hSw; (try dsimp only at hSw); obtain ⟨h0, h1, h2, h3, -⟩ := hSw; go_simp; try with_reducible rfl)
    try simp only [Act.put, List.setIfInBounds_toArray, List.set_cons_zero, List.set_cons_succ]
    refine wpAnyH_take (i := 19) (oi := { dst := some 51, op := Op.load 29 (Operand.tmp 11), type := 29, pos := "law.go:61", after := #[{ on := 16, ground := Ground.guard }], guard := some (16, true) }) (v := ?v48) rfl (by kernel_rfl) (by kernel_rfl) (by kernel_rfl) (fun _ _ _ h => h) (Or.inl ⟨by rfl, ?hy48⟩) (by assumption) ?rest48
    case hy48 => (intro w1 hSw; (try dsimp only at hSw); obtain ⟨h0, h1, h2, h3, -⟩ := hSw; go_simp; try with_reducible rfl)
    try simp only [Act.put, List.setIfInBounds_toArray, List.set_cons_zero, List.set_cons_succ]
    refine wpAnyH_ready (rs := [18]) (by kernel_rfl) (by simp) ?_
    refine AllReadyH.cons (o := { dst := some 50, op := Op.call { callee := Callee.value (Operand.func 17), args := #[Operand.tmp 49, Operand.const (Value.string { data := #[97] })], argTypes := #[27, 9] }, type := 4, pos := "law.go:61", after := #[{ on := 17, ground := Ground.data }, { on := 16, ground := Ground.chain }, { on := 16, ground := Ground.guard }], guard := some (16, true) }) rfl (fun K hK => ?_) AllReadyH.nil
    go_simp
    refine (has_any (sl := sl) q298 HH.out.2.2.2.2.2.1).mono ?_
    rintro e w302 ⟨rfl, hb303⟩
    have q304 := q296.later hb303
    have q305 := q297.later hb303
    have q306 := q298.later hb303
    have q307 := q299.later hb303
    have q308 := q300.later hb303
    have q309 := q301.later hb303
    refine hK.out _ _ (⟨q307.cell 0, q307.cell 1, q309.cell 0, q309.cell 1, trivial⟩) (fun hHeld => ?_)
    clear hK K
    try simp only [Act.put, List.setIfInBounds_toArray, List.set_cons_zero, List.set_cons_succ]
    refine wpAnyH_ready (rs := [20]) (by kernel_rfl) (by simp) ?_
    refine AllReadyH.cons (o := { dst := some 52, op := Op.call { callee := Callee.value (Operand.func 18), args := #[Operand.tmp 51, Operand.const (Value.string { data := #[97] })], argTypes := #[29, 9] }, type := 4, pos := "law.go:61", after := #[{ on := 19, ground := Ground.data }, { on := 18, ground := Ground.chain }, { on := 16, ground := Ground.guard }], guard := some (16, true) }) rfl (fun K hK => ?_) AllReadyH.nil
    go_simp
    refine (rhas_any (sl := sl) (x := [97]) q308 (by decide) HH.out.2.2.2.2.2.1).mono ?_
    rintro e w310 ⟨rfl, hb311⟩
    have q312 := q304.later hb311
    have q313 := q305.later hb311
    have q314 := q306.later hb311
    have q315 := q307.later hb311
    have q316 := q308.later hb311
    have q317 := q309.later hb311
    refine hK.out _ _ (⟨q315.cell 0, q315.cell 1, q317.cell 0, q317.cell 1, trivial⟩) (fun hHeld => ?_)
    clear hK K
    try simp only [Act.put, List.setIfInBounds_toArray, List.set_cons_zero, List.set_cons_succ]
    refine wpAnyH_take (i := 21) (oi := { dst := some 53, op := Op.binOp BinOp.eql 4 (Operand.tmp 50) (Operand.tmp 52) 4, type := 4, pos := "law.go:61", after := #[{ on := 18, ground := Ground.data }, { on := 20, ground := Ground.data }, { on := 16, ground := Ground.guard }], guard := some (16, true) }) (v := ?v49) rfl (by kernel_rfl) (by kernel_rfl) (by kernel_rfl) (fun _ _ _ h => h) (Or.inl ⟨by rfl, ?hy49⟩) (by assumption) ?rest49
    case hy49 => (intro w1 hSw; (try dsimp only at hSw); obtain ⟨h0, h1, h2, h3, -⟩ := hSw; go_simp; try with_reducible rfl)
    try simp only [Act.put, List.setIfInBounds_toArray, List.set_cons_zero, List.set_cons_succ]
    refine wpAnyH_take (i := 22) (oi := { dst := some 54, op := Op.pick (Operand.tmp 48) (Operand.tmp 53) (Operand.const (Value.bool false)), type := 4, pos := "law.go:61", after := #[{ on := 16, ground := Ground.data }, { on := 21, ground := Ground.data }], guard := none }) (v := ?v50) rfl (by kernel_rfl) (by kernel_rfl) (by kernel_rfl) (fun _ _ _ h => h) (Or.inl ⟨by rfl, ?hy50⟩) (by assumption) ?rest50
    case hy50 => (intro w1 hSw; (try dsimp only at hSw); obtain ⟨h0, h1, h2, h3, -⟩ := hSw; go_simp; try with_reducible rfl)
    try simp only [Act.put, List.setIfInBounds_toArray, List.set_cons_zero, List.set_cons_succ]
    refine wpAnyH_take (i := 23) (oi := { dst := some 55, op := Op.move (Operand.tmp 54), type := 4, pos := "law.go:61", after := #[{ on := 22, ground := Ground.data }, { on := 20, ground := Ground.chain }], guard := none }) (v := ?v51) rfl (by kernel_rfl) (by kernel_rfl) (by kernel_rfl) (fun _ _ _ h => h) (Or.inl ⟨by rfl, ?hy51⟩) (by assumption) ?rest51
    case hy51 => (intro w1 hSw; (try dsimp only at hSw); obtain ⟨h0, h1, h2, h3, -⟩ := hSw; go_simp; try with_reducible rfl)
    try simp only [Act.put, List.setIfInBounds_toArray, List.set_cons_zero, List.set_cons_succ]
    refine wpAnyH_take (i := 24) (oi := { dst := some 56, op := Op.load 27 (Operand.tmp 10), type := 27, pos := "law.go:61", after := #[{ on := 23, ground := Ground.guard }], guard := some (23, true) }) (v := ?v52) rfl (by kernel_rfl) (by kernel_rfl) (by kernel_rfl) (fun _ _ _ h => h) (Or.inl ⟨by rfl, ?hy52⟩) (by assumption) ?rest52
    case hy52 => (intro w1 hSw; (try dsimp only at hSw); obtain ⟨h0, h1, h2, h3, -⟩ := hSw; go_simp; try with_reducible rfl)
    try simp only [Act.put, List.setIfInBounds_toArray, List.set_cons_zero, List.set_cons_succ]
    refine wpAnyH_take (i := 26) (oi := { dst := some 58, op := Op.load 29 (Operand.tmp 11), type := 29, pos := "law.go:61", after := #[{ on := 23, ground := Ground.guard }], guard := some (23, true) }) (v := ?v53) rfl (by kernel_rfl) (by kernel_rfl) (by kernel_rfl) (fun _ _ _ h => h) (Or.inl ⟨by rfl, ?hy53⟩) (by assumption) ?rest53
    case hy53 => (intro w1 hSw; (try dsimp only at hSw); obtain ⟨h0, h1, h2, h3, -⟩ := hSw; go_simp; try with_reducible rfl)
    try simp only [Act.put, List.setIfInBounds_toArray, List.set_cons_zero, List.set_cons_succ]
    refine wpAnyH_ready (rs := [25]) (by kernel_rfl) (by simp) ?_
    refine AllReadyH.cons (o := { dst := some 57, op := Op.call { callee := Callee.value (Operand.func 19), args := #[Operand.tmp 56], argTypes := #[27] }, type := 4, pos := "law.go:61", after := #[{ on := 24, ground := Ground.data }, { on := 23, ground := Ground.chain }, { on := 23, ground := Ground.guard }], guard := some (23, true) }) rfl (fun K hK => ?_) AllReadyH.nil
    go_simp
    refine (empty_any (sl := sl) HH.out.2.2.2.2.2.2).mono ?_
    rintro e w318 ⟨rfl, hb319⟩
    have q320 := q312.later hb319
    have q321 := q313.later hb319
    have q322 := q314.later hb319
    have q323 := q315.later hb319
    have q324 := q316.later hb319
    have q325 := q317.later hb319
    refine hK.out _ _ (⟨q323.cell 0, q323.cell 1, q325.cell 0, q325.cell 1, trivial⟩) (fun hHeld => ?_)
    clear hK K
    try simp only [Act.put, List.setIfInBounds_toArray, List.set_cons_zero, List.set_cons_succ]
    refine wpAnyH_ready (rs := [27]) (by kernel_rfl) (by simp) ?_
    refine AllReadyH.cons (o := { dst := some 59, op := Op.call { callee := Callee.value (Operand.func 20), args := #[Operand.tmp 58], argTypes := #[29] }, type := 4, pos := "law.go:61", after := #[{ on := 26, ground := Ground.data }, { on := 25, ground := Ground.chain }, { on := 23, ground := Ground.guard }], guard := some (23, true) }) rfl (fun K hK => ?_) AllReadyH.nil
    go_simp
    refine (rempty_any (sl := sl) HH.out.2.2.2.2.2.2).mono ?_
    rintro e w326 ⟨rfl, hb327⟩
    have q328 := q320.later hb327
    have q329 := q321.later hb327
    have q330 := q322.later hb327
    have q331 := q323.later hb327
    have q332 := q324.later hb327
    have q333 := q325.later hb327
    refine hK.out _ _ (⟨q331.cell 0, q331.cell 1, q333.cell 0, q333.cell 1, trivial⟩) (fun hHeld => ?_)
    clear hK K
    try simp only [Act.put, List.setIfInBounds_toArray, List.set_cons_zero, List.set_cons_succ]
    refine wpAnyH_take (i := 28) (oi := { dst := some 60, op := Op.binOp BinOp.eql 4 (Operand.tmp 57) (Operand.tmp 59) 4, type := 4, pos := "law.go:61", after := #[{ on := 25, ground := Ground.data }, { on := 27, ground := Ground.data }, { on := 23, ground := Ground.guard }], guard := some (23, true) }) (v := ?v54) rfl (by kernel_rfl) (by kernel_rfl) (by kernel_rfl) (fun _ _ _ h => h) (Or.inl ⟨by rfl, ?hy54⟩) (by assumption) ?rest54
    case hy54 => (intro w1 hSw; (try dsimp only at hSw); obtain ⟨h0, h1, h2, h3, -⟩ := hSw; go_simp; try with_reducible rfl)
    try simp only [Act.put, List.setIfInBounds_toArray, List.set_cons_zero, List.set_cons_succ]
    refine wpAnyH_take (i := 29) (oi := { dst := some 61, op := Op.pick (Operand.tmp 55) (Operand.tmp 60) (Operand.const (Value.bool false)), type := 4, pos := "law.go:61", after := #[{ on := 23, ground := Ground.data }, { on := 28, ground := Ground.data }], guard := none }) (v := ?v55) rfl (by kernel_rfl) (by kernel_rfl) (by kernel_rfl) (fun _ _ _ h => h) (Or.inl ⟨by rfl, ?hy55⟩) (by assumption) ?rest55
    case hy55 => (intro w1 hSw; (try dsimp only at hSw); obtain ⟨h0, h1, h2, h3, -⟩ := hSw; go_simp; try with_reducible rfl)
    try simp only [Act.put, List.setIfInBounds_toArray, List.set_cons_zero, List.set_cons_succ]
    refine wpAnyH_take (i := 30) (oi := { dst := some 8, op := Op.assign (Operand.tmp 61), type := 4, pos := "law.go:61", after := #[{ on := 29, ground := Ground.data }, { on := 27, ground := Ground.chain }, { on := 0, ground := Ground.phase }, { on := 1, ground := Ground.phase }, { on := 2, ground := Ground.phase }, { on := 3, ground := Ground.phase }, { on := 4, ground := Ground.phase }, { on := 5, ground := Ground.phase }, { on := 6, ground := Ground.phase }, { on := 7, ground := Ground.phase }, { on := 8, ground := Ground.phase }, { on := 9, ground := Ground.phase }, { on := 10, ground := Ground.phase }, { on := 11, ground := Ground.phase }, { on := 12, ground := Ground.phase }, { on := 13, ground := Ground.phase }, { on := 14, ground := Ground.phase }, { on := 15, ground := Ground.phase }, { on := 16, ground := Ground.phase }, { on := 17, ground := Ground.phase }, { on := 18, ground := Ground.phase }, { on := 19, ground := Ground.phase }, { on := 20, ground := Ground.phase }, { on := 21, ground := Ground.phase }, { on := 22, ground := Ground.phase }, { on := 23, ground := Ground.phase }, { on := 24, ground := Ground.phase }, { on := 25, ground := Ground.phase }, { on := 26, ground := Ground.phase }, { on := 27, ground := Ground.phase }, { on := 28, ground := Ground.phase }, { on := 29, ground := Ground.phase }], guard := none }) (v := ?v56) rfl (by kernel_rfl) (by kernel_rfl) (by kernel_rfl) (fun _ _ _ h => h) (Or.inl ⟨by rfl, ?hy56⟩) (by assumption) ?rest56
    case hy56 => (intro w1 hSw; (try dsimp only at hSw); obtain ⟨h0, h1, h2, h3, -⟩ := hSw; go_simp; try with_reducible rfl)
    try simp only [Act.put, List.setIfInBounds_toArray, List.set_cons_zero, List.set_cons_succ]
    refine wpAnyH_done (by kernel_rfl) ?_ _
    go_wp2_with fail
    go_ret
    exact ⟨rfl, q328⟩
end Go.Proofs.Ytinjbfepjbogeaa
