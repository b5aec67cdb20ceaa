/- NamesDelta: the walk. -/
import Derived.Test.YtinjbfepjbogeaaNmDeltaP
namespace Go.Proofs.Ytinjbfepjbogeaa
open Go.RowKit Go.Lib

/-- A set that lies in a box, and a map beside it, of the same names. -/
structure Dl (w : World) (R m : Nat) (T : List UInt8 → Bool) (sa : Bool) (sl : List (List UInt8)) (a : Option Addr) (c : Nat) (wr : World) : Prop where
  set : cS T = ⟨sa, sl⟩
  box : Blk wr R #[.bool sa, .slice a sl.length c] 27
  ts : TsAt wr (.slice a sl.length c) sl
  map : MapAt wr m T
  bel : Below w.heap.size w wr
theorem Dl.fit {w : World} {R m : Nat} {T : List UInt8 → Bool} {sa : Bool} {sl : List (List UInt8)} {a : Option Addr} {c : Nat} {wr : World} (h : Dl w R m T sa sl a c wr) : NmFit sl ∧ sl.length ≤ 3 := by
  have := cs_fit T; rw [h.set] at this; exact this
set_option maxRecDepth 100000 in
set_option maxHeartbeats 8000000 in
theorem delta_walk (a1 : Option Addr) (n c1 : Nat) (ms : List Nat) (w : World) (h1 : BytesIn w a1 ms) (hl1 : ms.length = n) (hn1 : n ≤ 9223372036854775807) (hby : ∀ b ∈ ms, b < 256) :
    Calls Try.prog 8 #[.slice a1 n c1] w fun e w' => e = .returned (.bool true) ∧ Below w.heap.size w w' := by
  have hmm := @run_makeMap Try.prog
  have HBY := Lib.hid hby
  have H1 := Lib.hid h1
  have HL := Lib.hid hl1
  clear hby h1 hl1
  go_enter Try.func8, Try.ntmps8
  go_wp2_with fail
  refine (examples_any w).mono ?_
  rintro e w1 ⟨rfl, hb1⟩
  have D0 : Dl w w1.heap.size (w1.heap.size + 1) (fun _ => false) false [] none 0 ((w1.alloc (.cells #[.bool false, .slice none 0 0] 27)).alloc (.map #[] 0)) := by
    have b0 := (Blk.new w1 #[.bool false, .slice none 0 0] 27).later ((Below.refl _ _).alloc (Nat.le_refl _) (.map #[] 0))
    have m0 := map_new (w1.alloc (.cells #[.bool false, .slice none 0 0] 27))
    rw [World.size_alloc] at m0
    exact ⟨ns_eq rfl rfl, b0, RowV.nil _ _ _ (Nat.zero_le _), m0, (hb1.alloc hb1.size _).alloc (by simp; have := hb1.size; omega) _⟩
  have hRm : w.heap.size ≤ w1.heap.size := hb1.size
  clear hb1
  obtain ⟨w2, hw2⟩ : ∃ w2, (w1.alloc (.cells #[.bool false, .slice none 0 0] 27)).alloc (.map #[] 0) = w2 := ⟨_, rfl⟩
  rw [hw2] at D0
  have HD0 := Lib.hid D0
  have HW2 := Lib.hid hw2
  obtain ⟨R, hR⟩ : ∃ R, w1.heap.size = R := ⟨_, rfl⟩
  clear hw2 D0
  go_wp2_with fail
  rw [HW2.out]
  clear HW2
  rw [hR] at HD0 hRm
  clear hR
  go_loopw [6] (fun i wr => ∃ (k : Nat) (T : List UInt8 → Bool) (sa : Bool) (sl : List (List UInt8)) (a : Option Addr) (c : Nat), k ≤ n ∧ k ≤ 30 ∧ i = .int .i64 k ∧ Dl w R (R + 1) T sa sl a c wr) (fun i _ => n - (RowKit.intOf i).toNat)
  case atStart => exact ⟨0, _, _, _, _, _, Nat.zero_le _, Nat.zero_le _, rfl, HD0.out⟩
  case round =>
    obtain ⟨k, T, sa, sl, a, c, hk, hk30, rfl, hd⟩ := hrel
    by_cases hin : k < n ∧ k < 30
    · obtain ⟨hlt, hlt30⟩ := hin
      obtain ⟨b, hx⟩ : ∃ b, ms[k]? = some b := ⟨_, List.getElem?_eq_getElem (by have := HL.out; omega)⟩
      have hb256 := HBY.out b (List.mem_of_getElem? hx)
      obtain ⟨g, off, rfl, hgl, hcell⟩ := H1.out k b hx
      have d1 : wr.cell? ⟨g, off + k, none⟩ = some (.int .u8 (b : Int)) := (hd.bel.cell (p := ⟨g, _, none⟩) hgl).trans hcell
      have hgw : g < wr.heap.size := Nat.lt_of_lt_of_le hgl hd.bel.size
      have b0 : (0 : Int) ≤ (k : Int) := by omega
      have b1 : (k : Int) < (n : Int) := by omega
      have b2 : (k : Int) < 30 := by omega
      obtain ⟨κ, hκ⟩ : ∃ κ, b % 4 = κ := ⟨_, rfl⟩
      have hκ4 : κ < 4 := by omega
      have k0 : (0 : Int) ≤ (κ : Int) := by omega
      have k1 : (κ : Int) < 4 := by omega
      have hm : (b : Int).tmod 4 = (κ : Int) := by rw [Int.tmod_eq_emod_of_nonneg (by omega)]; omega
      have hm' : (b : Int) % 4 = (κ : Int) := by omega
      obtain ⟨x, hxx⟩ : ∃ x, tab4.getD κ [] = x := ⟨_, rfl⟩
      have htc := tab4_cell κ hκ4
      rw [hxx] at htc
      have hx4 : x ∈ tab4 := by
        rw [← hxx, List.getD_eq_getElem?_getD, List.getElem?_eq_getElem (by exact hκ4)]; exact List.getElem_mem _
      have hlit : ∀ W : World, (W.alloc (.cells #[.string ⟨#[97]⟩, .string ⟨#[98]⟩, .string ⟨#[99]⟩, .string ⟨#[42]⟩] 9)).cell? ⟨W.heap.size, κ, none⟩ = some (.string ⟨x.toArray⟩) := fun W => (Blk.new W tab4V 9).cell κ |>.trans htc
      obtain ⟨hf, hf3⟩ := hd.fit
      have hx3 : x.length ≤ 3 := by have h3 : ∀ n ∈ tab4, n.length ≤ 3 := by { unfold tab4; decide }; exact h3 x hx4
      have HX := Lib.hid (And.intro hx4 (And.intro hf (And.intro hf3 hx3)))
      have HD := Lib.hid hd
      clear hd hκ hx hcell hxx htc hx4 hf hf3
      obtain ⟨w3, hw3, hb3, -⟩ := alloc_new wr #[.string ⟨#[97]⟩, .string ⟨#[98]⟩, .string ⟨#[99]⟩, .string ⟨#[42]⟩] 9
      have d3 : w3.cell? ⟨g, off + k, none⟩ = some (.int .u8 (b : Int)) := (hb3.cell (p := ⟨g, _, none⟩) hgw).trans d1
      have l3 : w3.cell? ⟨wr.heap.size, κ, none⟩ = some (.string ⟨x.toArray⟩) := by rw [← hw3]; exact hlit wr
      have hbox := HD.out.box.later hb3
      have c0 := hbox.cell 0
      have c1' := hbox.cell 1
      simp only [List.getElem?_toArray, List.getElem?_cons_zero, List.getElem?_cons_succ] at c0 c1'
      obtain ⟨w4, hw4, hb4, p4⟩ := alloc_new w3 #[.string ⟨x.toArray⟩] 9
      have T4 := (HD.out.ts.later hb3).later hb4
      have X4 : TsAt w4 (.slice (some ⟨w3.heap.size, 0, none⟩) 1 1) [x] := ts_block p4 (by show (1 : Nat) ≤ maxLen; unfold maxLen; omega) rfl
      have B4 := hbox.later hb4
      have M4 := (HD.out.map.later hb3).later hb4
      have hb04 : Below w.heap.size w w4 := (HD.out.bel.trans (hb3.mono HD.out.bel.size)).trans (hb4.mono (by have := HD.out.bel.size; have := hb3.size; omega))
      have HF4 := Lib.hid (And.intro T4 (And.intro X4 (And.intro B4 (And.intro M4 hb04))))
      clear d1 hlit hb3 hbox hb4 p4 T4 X4 B4 M4 hb04
      by_cases hge : 128 ≤ b
      · have h128 : (128 : Int) ≤ (b : Int) := by omega
        obtain ⟨T', hT'⟩ : ∃ T', updT T x true = T' := ⟨_, rfl⟩
        obtain ⟨na, nl, hn⟩ : ∃ na nl, cS T' = ⟨na, nl⟩ := ⟨_, _, rfl⟩
        have hadd := cs_add T HX.out.1
        rw [hT', hn, HD.out.set] at hadd
        have hna : T' [42] = na := congrArg Ns.all hn
        have HN := Lib.hid (And.intro hadd (And.intro hn (And.intro hT' hna)))
        clear hadd hn hT' hna
        go_wp2_with fail
        refine (add_any HF4.out.1 HF4.out.2.1 ⟨HX.out.2.1, one_fit HX.out.1, by have := HX.out.2.2.1; show (sl.length + 1) * 16 ≤ _; omega⟩ HN.out.1).mono ?_
        rintro e w5 ⟨a5, c5, rfl, t5, hb5⟩
        have B5 := HF4.out.2.2.1.later hb5
        have M5 := HF4.out.2.2.2.1.later hb5
        have hb05 : Below w.heap.size w w5 := HF4.out.2.2.2.2.trans (hb5.mono HF4.out.2.2.2.2.size)
        have r0 := B5.cell 0
        have r1 := B5.cell 1
        have f0 := B5.frozen 0
        have f1 := B5.frozen 1
        simp only [List.getElem?_toArray, List.getElem?_cons_zero, List.getElem?_cons_succ] at r0 r1
        obtain ⟨w6, hw6⟩ : ∃ w6, (w5.setCell ⟨R, 0, none⟩ (.bool na)).setCell ⟨R, 1, none⟩ (.slice a5 nl.length c5) = w6 := ⟨_, rfl⟩
        have B6 : Blk w6 R #[.bool na, .slice a5 nl.length c5] 27 := by rw [← hw6]; exact (B5.set 0 _).set 1 _
        have T6 : TsAt w6 (.slice a5 nl.length c5) nl := by rw [← hw6]; exact t5.set2 _ _ r0 r1
        have M6 : MapAt w6 (R + 1) T := by rw [← hw6]; exact map_set M5 (by omega) _ _
        have hb06 : Below w.heap.size w w6 := by rw [← hw6]; exact below_set2 hb05 hRm _ _
        obtain ⟨w7, hu7, M7, hg7⟩ := M6.upd x (by have := HX.out.2.2.2; unfold maxLen; omega) true
        have T7 := T6.grown_map M6 hg7
        have B7 := B6.kept hg7 (by simp)
        have hb07 : Base w w7 := hb06.grown hg7 hb06.size (fun j hj => by cases hj; omega)
        rw [HN.out.2.2.1] at M7
        clear B5 M5 hb05 B6 T6 M6 hb06 hg7 t5 hb5
        go_wp2_with fail
        have hha := cs_has (T := T') (n := [97]) (by unfold tab3; decide)
        have hcc := cs_has (T := T') (n := [99]) (by unfold tab3; decide)
        have hzz := cs_zz (T := T')
        rw [HN.out.2.1, HN.out.2.2.2] at hha hcc
        rw [HN.out.2.1, HN.out.2.2.2] at hzz
        clear hw3 hw4 hw6 hu7 c0 c1' d3 l3 h128 hm hm' k0 k1 r0 r1 f0 f1
        cases ta : T' [97]
        · cases tc : T' [99]
          · rw [ta, Bool.false_or] at hha
            rw [tc, Bool.false_or] at hcc
            obtain ⟨w1, hw2, hb3⟩ := drew_new w7
            have q4 := B7.later hb3
            have q5 := T7.later hb3
            have q6 := M7.later hb3
            have q7 := hb07.later hb3
            refine wp_region_held_drew (S := (fun w' => w'.cell? ⟨R, 0, none⟩ = some (.bool na) ∧ w'.cell? ⟨R, 1, none⟩ = some (.slice a5 nl.length c5) ∧ (Instr.lookup 56 (.map (some (R + 1))) (.string ⟨#[97]⟩) false).run Try.prog w' = .ok (.bool false) w' ∧ (Instr.lookup 56 (.map (some (R + 1))) (.string ⟨#[99]⟩) false).run Try.prog w' = .ok (.bool false) w' ∧ (Instr.lookup 56 (.map (some (R + 1))) (.string ⟨#[42]⟩) false).run Try.prog w' = .ok (.bool na) w' ∧ True)) (by kernel_rfl) (by rw [hw2]; exact ⟨q4.cell 0, q4.cell 1, q6.look' (s := [97]) (by decide) ta, q6.look' (s := [99]) (by decide) tc, q6.look' (s := [42]) (by decide) HN.out.2.2.2, trivial⟩) (fun hHeld => ?_)
            rw [hw2] at hHeld ⊢
            refine wpAnyH_take (i := 0) (oi := { dst := some 50, op := Op.fieldAddr 27 (Operand.tmp 4) 0, type := 0, pos := "keeps.go:70", after := #[], guard := none }) (v := ?v1) rfl (by kernel_rfl) (by kernel_rfl) (by kernel_rfl) (fun _ _ _ h => h) (Or.inl ⟨by rfl, ?hy1⟩) (by assumption) ?rest1
            case hy1 => (intro w1 hSw; (try dsimp only at hSw); obtain ⟨h0, h1, h2, h3, h4, -⟩ := hSw; go_simp; try with_reducible rfl)
            try simp only [Act.put, List.setIfInBounds_toArray, List.set_cons_zero, List.set_cons_succ]
            refine wpAnyH_take (i := 1) (oi := { dst := some 51, op := Op.load 4 (Operand.tmp 50), type := 4, pos := "keeps.go:70", after := #[{ on := 0, ground := Ground.data }], guard := none }) (v := ?v2) rfl (by kernel_rfl) (by kernel_rfl) (by kernel_rfl) (fun _ _ _ h => h) (Or.inl ⟨by rfl, ?hy2⟩) (by assumption) ?rest2
            case hy2 => (intro w1 hSw; (try dsimp only at hSw); obtain ⟨h0, h1, h2, h3, h4, -⟩ := hSw; go_simp; try with_reducible rfl)
            try simp only [Act.put, List.setIfInBounds_toArray, List.set_cons_zero, List.set_cons_succ]
            refine wpAnyH_take (i := 2) (oi := { dst := some 52, op := Op.move (Operand.tmp 5), type := 56, pos := "keeps.go:70", after := #[], guard := none }) (v := ?v3) rfl (by kernel_rfl) (by kernel_rfl) (by kernel_rfl) (fun _ _ _ h => h) (Or.inl ⟨by rfl, ?hy3⟩) (by assumption) ?rest3
            case hy3 => (intro w1 hSw; (try dsimp only at hSw); obtain ⟨h0, h1, h2, h3, h4, -⟩ := hSw; go_simp; try with_reducible rfl)
            try simp only [Act.put, List.setIfInBounds_toArray, List.set_cons_zero, List.set_cons_succ]
            refine wpAnyH_take (i := 3) (oi := { dst := some 53, op := Op.lookup 56 (Operand.tmp 52) (Operand.const (Value.string { data := #[42] })) false, type := 4, pos := "keeps.go:70", after := #[{ on := 2, ground := Ground.data }], guard := none }) (v := ?v4) rfl (by kernel_rfl) (by kernel_rfl) (by kernel_rfl) (fun _ _ _ h => h) (Or.inl ⟨by rfl, ?hy4⟩) (by assumption) ?rest4
            case hy4 => (intro w1 hSw; (try dsimp only at hSw); obtain ⟨h0, h1, h2, h3, h4, -⟩ := hSw; go_simp; try with_reducible rfl)
            try simp only [Act.put, List.setIfInBounds_toArray, List.set_cons_zero, List.set_cons_succ]
            refine wpAnyH_take (i := 4) (oi := { dst := some 54, op := Op.binOp BinOp.neq 4 (Operand.tmp 51) (Operand.tmp 53) 4, type := 4, pos := "keeps.go:70", after := #[{ on := 1, ground := Ground.data }, { on := 3, ground := Ground.data }], guard := none }) (v := ?v5) rfl (by kernel_rfl) (by kernel_rfl) (by kernel_rfl) (fun _ _ _ h => h) (Or.inl ⟨by rfl, ?hy5⟩) (by assumption) ?rest5
            case hy5 => (intro w1 hSw; (try dsimp only at hSw); obtain ⟨h0, h1, h2, h3, h4, -⟩ := hSw; go_simp; try with_reducible rfl)
            try simp only [Act.put, List.setIfInBounds_toArray, List.set_cons_zero, List.set_cons_succ]
            refine wpAnyH_take (i := 5) (oi := { dst := some 55, op := Op.move (Operand.tmp 54), type := 4, pos := "keeps.go:70", after := #[{ on := 4, ground := Ground.data }], guard := none }) (v := ?v6) rfl (by kernel_rfl) (by kernel_rfl) (by kernel_rfl) (fun _ _ _ h => h) (Or.inl ⟨by rfl, ?hy6⟩) (by assumption) ?rest6
            case hy6 => (intro w1 hSw; (try dsimp only at hSw); obtain ⟨h0, h1, h2, h3, h4, -⟩ := hSw; go_simp; try with_reducible rfl)
            try simp only [Act.put, List.setIfInBounds_toArray, List.set_cons_zero, List.set_cons_succ]
            refine wpAnyH_take (i := 6) (oi := { dst := some 56, op := Op.load 27 (Operand.tmp 4), type := 27, pos := "keeps.go:70", after := #[{ on := 5, ground := Ground.guard }], guard := some (5, false) }) (v := ?v7) rfl (by kernel_rfl) (by kernel_rfl) (by kernel_rfl) (fun _ _ _ h => h) (Or.inl ⟨by rfl, ?hy7⟩) (by assumption) ?rest7
            case hy7 => (intro w1 hSw; (try dsimp only at hSw); obtain ⟨h0, h1, h2, h3, h4, -⟩ := hSw; go_simp; try with_reducible rfl)
            try simp only [Act.put, List.setIfInBounds_toArray, List.set_cons_zero, List.set_cons_succ]
            refine wpAnyH_take (i := 8) (oi := { dst := some 58, op := Op.move (Operand.tmp 5), type := 56, pos := "keeps.go:70", after := #[{ on := 5, ground := Ground.guard }], guard := some (5, false) }) (v := ?v8) rfl (by kernel_rfl) (by kernel_rfl) (by kernel_rfl) (fun _ _ _ h => h) (Or.inl ⟨by rfl, ?hy8⟩) (by assumption) ?rest8
            case hy8 => (intro w1 hSw; (try dsimp only at hSw); obtain ⟨h0, h1, h2, h3, h4, -⟩ := hSw; go_simp; try with_reducible rfl)
            try simp only [Act.put, List.setIfInBounds_toArray, List.set_cons_zero, List.set_cons_succ]
            refine wpAnyH_take (i := 9) (oi := { dst := some 59, op := Op.lookup 56 (Operand.tmp 58) (Operand.const (Value.string { data := #[97] })) false, type := 4, pos := "keeps.go:70", after := #[{ on := 8, ground := Ground.data }, { on := 5, ground := Ground.guard }], guard := some (5, false) }) (v := ?v9) rfl (by kernel_rfl) (by kernel_rfl) (by kernel_rfl) (fun _ _ _ h => h) (Or.inl ⟨by rfl, ?hy9⟩) (by assumption) ?rest9
            case hy9 => (intro w1 hSw; (try dsimp only at hSw); obtain ⟨h0, h1, h2, h3, h4, -⟩ := hSw; go_simp; try with_reducible rfl)
            try simp only [Act.put, List.setIfInBounds_toArray, List.set_cons_zero, List.set_cons_succ]
            refine wpAnyH_ready (rs := [7]) (by kernel_rfl) (by simp) ?_
            refine AllReadyH.cons (o := { dst := some 57, op := Op.call { callee := Callee.value (Operand.func 17), args := #[Operand.tmp 56, Operand.const (Value.string { data := #[97] })], argTypes := #[27, 9] }, type := 4, pos := "keeps.go:70", after := #[{ on := 6, ground := Ground.data }, { on := 5, ground := Ground.chain }, { on := 5, ground := Ground.guard }], guard := some (5, false) }) rfl (fun K hK => ?_) AllReadyH.nil
            go_simp
            refine (has_any (sl := nl) q5 hha).mono ?_
            rintro e w8 ⟨rfl, hb9⟩
            have q10 := q4.later hb9
            have q11 := q5.later hb9
            have q12 := q6.later hb9
            have q13 := q7.later hb9
            refine hK.out _ _ (⟨q10.cell 0, q10.cell 1, q12.look' (s := [97]) (by decide) ta, q12.look' (s := [99]) (by decide) tc, q12.look' (s := [42]) (by decide) HN.out.2.2.2, trivial⟩) (fun hHeld => ?_)
            clear hK K
            try simp only [Act.put, List.setIfInBounds_toArray, List.set_cons_zero, List.set_cons_succ]
            refine wpAnyH_take (i := 10) (oi := { dst := some 60, op := Op.move (Operand.tmp 59), type := 4, pos := "keeps.go:70", after := #[{ on := 9, ground := Ground.data }, { on := 7, ground := Ground.chain }, { on := 5, ground := Ground.guard }], guard := some (5, false) }) (v := ?v10) rfl (by kernel_rfl) (by kernel_rfl) (by kernel_rfl) (fun _ _ _ h => h) (Or.inl ⟨by rfl, ?hy10⟩) (by assumption) ?rest10
            case hy10 => (intro w1 hSw; (try dsimp only at hSw); obtain ⟨h0, h1, h2, h3, h4, -⟩ := hSw; go_simp; try with_reducible rfl)
            try simp only [Act.put, List.setIfInBounds_toArray, List.set_cons_zero, List.set_cons_succ]
            refine wpAnyH_take (i := 11) (oi := { dst := some 61, op := Op.move (Operand.tmp 5), type := 56, pos := "keeps.go:70", after := #[{ on := 10, ground := Ground.guard }], guard := some (10, false) }) (v := ?v11) rfl (by kernel_rfl) (by kernel_rfl) (by kernel_rfl) (fun _ _ _ h => h) (Or.inl ⟨by rfl, ?hy11⟩) (by assumption) ?rest11
            case hy11 => (intro w1 hSw; (try dsimp only at hSw); obtain ⟨h0, h1, h2, h3, h4, -⟩ := hSw; go_simp; try with_reducible rfl)
            try simp only [Act.put, List.setIfInBounds_toArray, List.set_cons_zero, List.set_cons_succ]
            refine wpAnyH_take (i := 12) (oi := { dst := some 62, op := Op.lookup 56 (Operand.tmp 61) (Operand.const (Value.string { data := #[42] })) false, type := 4, pos := "keeps.go:70", after := #[{ on := 11, ground := Ground.data }, { on := 10, ground := Ground.guard }], guard := some (10, false) }) (v := ?v12) rfl (by kernel_rfl) (by kernel_rfl) (by kernel_rfl) (fun _ _ _ h => h) (Or.inl ⟨by rfl, ?hy12⟩) (by assumption) ?rest12
            case hy12 => (intro w1 hSw; (try dsimp only at hSw); obtain ⟨h0, h1, h2, h3, h4, -⟩ := hSw; go_simp; try with_reducible rfl)
            try simp only [Act.put, List.setIfInBounds_toArray, List.set_cons_zero, List.set_cons_succ]
            refine wpAnyH_take (i := 13) (oi := { dst := some 63, op := Op.pick (Operand.tmp 60) (Operand.const (Value.bool true)) (Operand.tmp 62), type := 4, pos := "keeps.go:70", after := #[{ on := 10, ground := Ground.data }, { on := 12, ground := Ground.data }, { on := 5, ground := Ground.guard }], guard := some (5, false) }) (v := ?v13) rfl (by kernel_rfl) (by kernel_rfl) (by kernel_rfl) (fun _ _ _ h => h) (Or.inl ⟨by rfl, ?hy13⟩) (by assumption) ?rest13
            case hy13 => (intro w1 hSw; (try dsimp only at hSw); obtain ⟨h0, h1, h2, h3, h4, -⟩ := hSw; go_simp; try with_reducible rfl)
            try simp only [Act.put, List.setIfInBounds_toArray, List.set_cons_zero, List.set_cons_succ]
            refine wpAnyH_take (i := 14) (oi := { dst := some 64, op := Op.binOp BinOp.neq 4 (Operand.tmp 57) (Operand.tmp 63) 4, type := 4, pos := "keeps.go:70", after := #[{ on := 7, ground := Ground.data }, { on := 13, ground := Ground.data }, { on := 5, ground := Ground.guard }], guard := some (5, false) }) (v := ?v14) rfl (by kernel_rfl) (by kernel_rfl) (by kernel_rfl) (fun _ _ _ h => h) (Or.inl ⟨by rfl, ?hy14⟩) (by assumption) ?rest14
            case hy14 => (intro w1 hSw; (try dsimp only at hSw); obtain ⟨h0, h1, h2, h3, h4, -⟩ := hSw; go_simp; try with_reducible rfl)
            try simp only [Act.put, List.setIfInBounds_toArray, List.set_cons_zero, List.set_cons_succ]
            refine wpAnyH_take (i := 15) (oi := { dst := some 65, op := Op.pick (Operand.tmp 55) (Operand.const (Value.bool true)) (Operand.tmp 64), type := 4, pos := "keeps.go:70", after := #[{ on := 5, ground := Ground.data }, { on := 14, ground := Ground.data }], guard := none }) (v := ?v15) rfl (by kernel_rfl) (by kernel_rfl) (by kernel_rfl) (fun _ _ _ h => h) (Or.inl ⟨by rfl, ?hy15⟩) (by assumption) ?rest15
            case hy15 => (intro w1 hSw; (try dsimp only at hSw); obtain ⟨h0, h1, h2, h3, h4, -⟩ := hSw; go_simp; try with_reducible rfl)
            try simp only [Act.put, List.setIfInBounds_toArray, List.set_cons_zero, List.set_cons_succ]
            refine wpAnyH_take (i := 16) (oi := { dst := some 66, op := Op.move (Operand.tmp 65), type := 4, pos := "keeps.go:70", after := #[{ on := 15, ground := Ground.data }, { on := 10, ground := Ground.chain }], guard := none }) (v := ?v16) rfl (by kernel_rfl) (by kernel_rfl) (by kernel_rfl) (fun _ _ _ h => h) (Or.inl ⟨by rfl, ?hy16⟩) (by assumption) ?rest16
            case hy16 => (intro w1 hSw; (try dsimp only at hSw); obtain ⟨h0, h1, h2, h3, h4, -⟩ := hSw; go_simp; try with_reducible rfl)
            try simp only [Act.put, List.setIfInBounds_toArray, List.set_cons_zero, List.set_cons_succ]
            refine wpAnyH_take (i := 17) (oi := { dst := some 67, op := Op.load 27 (Operand.tmp 4), type := 27, pos := "keeps.go:70", after := #[{ on := 16, ground := Ground.guard }], guard := some (16, false) }) (v := ?v17) rfl (by kernel_rfl) (by kernel_rfl) (by kernel_rfl) (fun _ _ _ h => h) (Or.inl ⟨by rfl, ?hy17⟩) (by assumption) ?rest17
            case hy17 => (intro w1 hSw; (try dsimp only at hSw); obtain ⟨h0, h1, h2, h3, h4, -⟩ := hSw; go_simp; try with_reducible rfl)
            try simp only [Act.put, List.setIfInBounds_toArray, List.set_cons_zero, List.set_cons_succ]
            refine wpAnyH_take (i := 19) (oi := { dst := some 69, op := Op.move (Operand.tmp 5), type := 56, pos := "keeps.go:70", after := #[{ on := 16, ground := Ground.guard }], guard := some (16, false) }) (v := ?v18) rfl (by kernel_rfl) (by kernel_rfl) (by kernel_rfl) (fun _ _ _ h => h) (Or.inl ⟨by rfl, ?hy18⟩) (by assumption) ?rest18
            case hy18 => (intro w1 hSw; (try dsimp only at hSw); obtain ⟨h0, h1, h2, h3, h4, -⟩ := hSw; go_simp; try with_reducible rfl)
            try simp only [Act.put, List.setIfInBounds_toArray, List.set_cons_zero, List.set_cons_succ]
            refine wpAnyH_take (i := 20) (oi := { dst := some 70, op := Op.lookup 56 (Operand.tmp 69) (Operand.const (Value.string { data := #[99] })) false, type := 4, pos := "keeps.go:70", after := #[{ on := 19, ground := Ground.data }, { on := 16, ground := Ground.guard }], guard := some (16, false) }) (v := ?v19) rfl (by kernel_rfl) (by kernel_rfl) (by kernel_rfl) (fun _ _ _ h => h) (Or.inl ⟨by rfl, ?hy19⟩) (by assumption) ?rest19
            case hy19 => (intro w1 hSw; (try dsimp only at hSw); obtain ⟨h0, h1, h2, h3, h4, -⟩ := hSw; go_simp; try with_reducible rfl)
            try simp only [Act.put, List.setIfInBounds_toArray, List.set_cons_zero, List.set_cons_succ]
            refine wpAnyH_ready (rs := [18]) (by kernel_rfl) (by simp) ?_
            refine AllReadyH.cons (o := { dst := some 68, op := Op.call { callee := Callee.value (Operand.func 17), args := #[Operand.tmp 67, Operand.const (Value.string { data := #[99] })], argTypes := #[27, 9] }, type := 4, pos := "keeps.go:70", after := #[{ on := 17, ground := Ground.data }, { on := 16, ground := Ground.chain }, { on := 16, ground := Ground.guard }], guard := some (16, false) }) rfl (fun K hK => ?_) AllReadyH.nil
            go_simp
            refine (has_any (sl := nl) q11 hcc).mono ?_
            rintro e w14 ⟨rfl, hb15⟩
            have q16 := q10.later hb15
            have q17 := q11.later hb15
            have q18 := q12.later hb15
            have q19 := q13.later hb15
            refine hK.out _ _ (⟨q16.cell 0, q16.cell 1, q18.look' (s := [97]) (by decide) ta, q18.look' (s := [99]) (by decide) tc, q18.look' (s := [42]) (by decide) HN.out.2.2.2, trivial⟩) (fun hHeld => ?_)
            clear hK K
            try simp only [Act.put, List.setIfInBounds_toArray, List.set_cons_zero, List.set_cons_succ]
            refine wpAnyH_take (i := 21) (oi := { dst := some 71, op := Op.move (Operand.tmp 70), type := 4, pos := "keeps.go:70", after := #[{ on := 20, ground := Ground.data }, { on := 18, ground := Ground.chain }, { on := 16, ground := Ground.guard }], guard := some (16, false) }) (v := ?v20) rfl (by kernel_rfl) (by kernel_rfl) (by kernel_rfl) (fun _ _ _ h => h) (Or.inl ⟨by rfl, ?hy20⟩) (by assumption) ?rest20
            case hy20 => (intro w1 hSw; (try dsimp only at hSw); obtain ⟨h0, h1, h2, h3, h4, -⟩ := hSw; go_simp; try with_reducible rfl)
            try simp only [Act.put, List.setIfInBounds_toArray, List.set_cons_zero, List.set_cons_succ]
            refine wpAnyH_take (i := 22) (oi := { dst := some 72, op := Op.move (Operand.tmp 5), type := 56, pos := "keeps.go:70", after := #[{ on := 21, ground := Ground.guard }], guard := some (21, false) }) (v := ?v21) rfl (by kernel_rfl) (by kernel_rfl) (by kernel_rfl) (fun _ _ _ h => h) (Or.inl ⟨by rfl, ?hy21⟩) (by assumption) ?rest21
            case hy21 => (intro w1 hSw; (try dsimp only at hSw); obtain ⟨h0, h1, h2, h3, h4, -⟩ := hSw; go_simp; try with_reducible rfl)
            try simp only [Act.put, List.setIfInBounds_toArray, List.set_cons_zero, List.set_cons_succ]
            refine wpAnyH_take (i := 23) (oi := { dst := some 73, op := Op.lookup 56 (Operand.tmp 72) (Operand.const (Value.string { data := #[42] })) false, type := 4, pos := "keeps.go:70", after := #[{ on := 22, ground := Ground.data }, { on := 21, ground := Ground.guard }], guard := some (21, false) }) (v := ?v22) rfl (by kernel_rfl) (by kernel_rfl) (by kernel_rfl) (fun _ _ _ h => h) (Or.inl ⟨by rfl, ?hy22⟩) (by assumption) ?rest22
            case hy22 => (intro w1 hSw; (try dsimp only at hSw); obtain ⟨h0, h1, h2, h3, h4, -⟩ := hSw; go_simp; try with_reducible rfl)
            try simp only [Act.put, List.setIfInBounds_toArray, List.set_cons_zero, List.set_cons_succ]
            refine wpAnyH_take (i := 24) (oi := { dst := some 74, op := Op.pick (Operand.tmp 71) (Operand.const (Value.bool true)) (Operand.tmp 73), type := 4, pos := "keeps.go:70", after := #[{ on := 21, ground := Ground.data }, { on := 23, ground := Ground.data }, { on := 16, ground := Ground.guard }], guard := some (16, false) }) (v := ?v23) rfl (by kernel_rfl) (by kernel_rfl) (by kernel_rfl) (fun _ _ _ h => h) (Or.inl ⟨by rfl, ?hy23⟩) (by assumption) ?rest23
            case hy23 => (intro w1 hSw; (try dsimp only at hSw); obtain ⟨h0, h1, h2, h3, h4, -⟩ := hSw; go_simp; try with_reducible rfl)
            try simp only [Act.put, List.setIfInBounds_toArray, List.set_cons_zero, List.set_cons_succ]
            refine wpAnyH_take (i := 25) (oi := { dst := some 75, op := Op.binOp BinOp.neq 4 (Operand.tmp 68) (Operand.tmp 74) 4, type := 4, pos := "keeps.go:70", after := #[{ on := 18, ground := Ground.data }, { on := 24, ground := Ground.data }, { on := 16, ground := Ground.guard }], guard := some (16, false) }) (v := ?v24) rfl (by kernel_rfl) (by kernel_rfl) (by kernel_rfl) (fun _ _ _ h => h) (Or.inl ⟨by rfl, ?hy24⟩) (by assumption) ?rest24
            case hy24 => (intro w1 hSw; (try dsimp only at hSw); obtain ⟨h0, h1, h2, h3, h4, -⟩ := hSw; go_simp; try with_reducible rfl)
            try simp only [Act.put, List.setIfInBounds_toArray, List.set_cons_zero, List.set_cons_succ]
            refine wpAnyH_take (i := 26) (oi := { dst := some 76, op := Op.pick (Operand.tmp 66) (Operand.const (Value.bool true)) (Operand.tmp 75), type := 4, pos := "keeps.go:70", after := #[{ on := 16, ground := Ground.data }, { on := 25, ground := Ground.data }], guard := none }) (v := ?v25) rfl (by kernel_rfl) (by kernel_rfl) (by kernel_rfl) (fun _ _ _ h => h) (Or.inl ⟨by rfl, ?hy25⟩) (by assumption) ?rest25
            case hy25 => (intro w1 hSw; (try dsimp only at hSw); obtain ⟨h0, h1, h2, h3, h4, -⟩ := hSw; go_simp; try with_reducible rfl)
            try simp only [Act.put, List.setIfInBounds_toArray, List.set_cons_zero, List.set_cons_succ]
            refine wpAnyH_take (i := 27) (oi := { dst := some 77, op := Op.move (Operand.tmp 76), type := 4, pos := "keeps.go:70", after := #[{ on := 26, ground := Ground.data }, { on := 21, ground := Ground.chain }], guard := none }) (v := ?v26) rfl (by kernel_rfl) (by kernel_rfl) (by kernel_rfl) (fun _ _ _ h => h) (Or.inl ⟨by rfl, ?hy26⟩) (by assumption) ?rest26
            case hy26 => (intro w1 hSw; (try dsimp only at hSw); obtain ⟨h0, h1, h2, h3, h4, -⟩ := hSw; go_simp; try with_reducible rfl)
            try simp only [Act.put, List.setIfInBounds_toArray, List.set_cons_zero, List.set_cons_succ]
            refine wpAnyH_take (i := 28) (oi := { dst := some 78, op := Op.load 27 (Operand.tmp 4), type := 27, pos := "keeps.go:70", after := #[{ on := 27, ground := Ground.guard }], guard := some (27, false) }) (v := ?v27) rfl (by kernel_rfl) (by kernel_rfl) (by kernel_rfl) (fun _ _ _ h => h) (Or.inl ⟨by rfl, ?hy27⟩) (by assumption) ?rest27
            case hy27 => (intro w1 hSw; (try dsimp only at hSw); obtain ⟨h0, h1, h2, h3, h4, -⟩ := hSw; go_simp; try with_reducible rfl)
            try simp only [Act.put, List.setIfInBounds_toArray, List.set_cons_zero, List.set_cons_succ]
            refine wpAnyH_take (i := 30) (oi := { dst := some 80, op := Op.move (Operand.tmp 5), type := 56, pos := "keeps.go:70", after := #[{ on := 27, ground := Ground.guard }], guard := some (27, false) }) (v := ?v28) rfl (by kernel_rfl) (by kernel_rfl) (by kernel_rfl) (fun _ _ _ h => h) (Or.inl ⟨by rfl, ?hy28⟩) (by assumption) ?rest28
            case hy28 => (intro w1 hSw; (try dsimp only at hSw); obtain ⟨h0, h1, h2, h3, h4, -⟩ := hSw; go_simp; try with_reducible rfl)
            try simp only [Act.put, List.setIfInBounds_toArray, List.set_cons_zero, List.set_cons_succ]
            refine wpAnyH_take (i := 31) (oi := { dst := some 81, op := Op.lookup 56 (Operand.tmp 80) (Operand.const (Value.string { data := #[42] })) false, type := 4, pos := "keeps.go:70", after := #[{ on := 30, ground := Ground.data }, { on := 27, ground := Ground.guard }], guard := some (27, false) }) (v := ?v29) rfl (by kernel_rfl) (by kernel_rfl) (by kernel_rfl) (fun _ _ _ h => h) (Or.inl ⟨by rfl, ?hy29⟩) (by assumption) ?rest29
            case hy29 => (intro w1 hSw; (try dsimp only at hSw); obtain ⟨h0, h1, h2, h3, h4, -⟩ := hSw; go_simp; try with_reducible rfl)
            try simp only [Act.put, List.setIfInBounds_toArray, List.set_cons_zero, List.set_cons_succ]
            refine wpAnyH_ready (rs := [29]) (by kernel_rfl) (by simp) ?_
            refine AllReadyH.cons (o := { dst := some 79, op := Op.call { callee := Callee.value (Operand.func 17), args := #[Operand.tmp 78, Operand.const (Value.string { data := #[122, 122] })], argTypes := #[27, 9] }, type := 4, pos := "keeps.go:70", after := #[{ on := 28, ground := Ground.data }, { on := 27, ground := Ground.chain }, { on := 27, ground := Ground.guard }], guard := some (27, false) }) rfl (fun K hK => ?_) AllReadyH.nil
            go_simp
            refine (has_any (sl := nl) q17 hzz).mono ?_
            rintro e w20 ⟨rfl, hb21⟩
            have q22 := q16.later hb21
            have q23 := q17.later hb21
            have q24 := q18.later hb21
            have q25 := q19.later hb21
            refine hK.out _ _ (⟨q22.cell 0, q22.cell 1, q24.look' (s := [97]) (by decide) ta, q24.look' (s := [99]) (by decide) tc, q24.look' (s := [42]) (by decide) HN.out.2.2.2, trivial⟩) (fun hHeld => ?_)
            clear hK K
            try simp only [Act.put, List.setIfInBounds_toArray, List.set_cons_zero, List.set_cons_succ]
            refine wpAnyH_take (i := 32) (oi := { dst := some 82, op := Op.binOp BinOp.neq 4 (Operand.tmp 79) (Operand.tmp 81) 4, type := 4, pos := "keeps.go:70", after := #[{ on := 29, ground := Ground.data }, { on := 31, ground := Ground.data }, { on := 27, ground := Ground.guard }], guard := some (27, false) }) (v := ?v30) rfl (by kernel_rfl) (by kernel_rfl) (by kernel_rfl) (fun _ _ _ h => h) (Or.inl ⟨by rfl, ?hy30⟩) (by assumption) ?rest30
            case hy30 => (intro w1 hSw; (try dsimp only at hSw); obtain ⟨h0, h1, h2, h3, h4, -⟩ := hSw; go_simp; try with_reducible rfl)
            try simp only [Act.put, List.setIfInBounds_toArray, List.set_cons_zero, List.set_cons_succ]
            refine wpAnyH_take (i := 33) (oi := { dst := some 83, op := Op.pick (Operand.tmp 77) (Operand.const (Value.bool true)) (Operand.tmp 82), type := 4, pos := "keeps.go:70", after := #[{ on := 27, ground := Ground.data }, { on := 32, ground := Ground.data }], guard := none }) (v := ?v31) rfl (by kernel_rfl) (by kernel_rfl) (by kernel_rfl) (fun _ _ _ h => h) (Or.inl ⟨by rfl, ?hy31⟩) (by assumption) ?rest31
            case hy31 => (intro w1 hSw; (try dsimp only at hSw); obtain ⟨h0, h1, h2, h3, h4, -⟩ := hSw; go_simp; try with_reducible rfl)
            try simp only [Act.put, List.setIfInBounds_toArray, List.set_cons_zero, List.set_cons_succ]
            refine wpAnyH_done (by kernel_rfl) ?_ _
            go_wp2_with fail
            go_roundw
            case rel => exact ⟨k + 1, T', na, nl, a5, c5, by omega, by omega, by go_num, ⟨HN.out.2.1, q22, q23, q24, q25⟩⟩
            case measure => simp [RowKit.intOf]; omega
          · rw [ta, Bool.false_or] at hha
            rw [tc, Bool.true_or] at hcc
            obtain ⟨w26, hw27, hb28⟩ := drew_new w7
            have q29 := B7.later hb28
            have q30 := T7.later hb28
            have q31 := M7.later hb28
            have q32 := hb07.later hb28
            refine wp_region_held_drew (S := (fun w' => w'.cell? ⟨R, 0, none⟩ = some (.bool na) ∧ w'.cell? ⟨R, 1, none⟩ = some (.slice a5 nl.length c5) ∧ (Instr.lookup 56 (.map (some (R + 1))) (.string ⟨#[97]⟩) false).run Try.prog w' = .ok (.bool false) w' ∧ (Instr.lookup 56 (.map (some (R + 1))) (.string ⟨#[99]⟩) false).run Try.prog w' = .ok (.bool true) w' ∧ (Instr.lookup 56 (.map (some (R + 1))) (.string ⟨#[42]⟩) false).run Try.prog w' = .ok (.bool na) w' ∧ True)) (by kernel_rfl) (by rw [hw27]; exact ⟨q29.cell 0, q29.cell 1, q31.look' (s := [97]) (by decide) ta, q31.look' (s := [99]) (by decide) tc, q31.look' (s := [42]) (by decide) HN.out.2.2.2, trivial⟩) (fun hHeld => ?_)
            rw [hw27] at hHeld ⊢
            refine wpAnyH_take (i := 0) (oi := { dst := some 50, op := Op.fieldAddr 27 (Operand.tmp 4) 0, type := 0, pos := "keeps.go:70", after := #[], guard := none }) (v := ?v32) rfl (by kernel_rfl) (by kernel_rfl) (by kernel_rfl) (fun _ _ _ h => h) (Or.inl ⟨by rfl, ?hy32⟩) (by assumption) ?rest32
            case hy32 => (intro w1 hSw; (try dsimp only at hSw); obtain ⟨h0, h1, h2, h3, h4, -⟩ := hSw; go_simp; try with_reducible rfl)
            try simp only [Act.put, List.setIfInBounds_toArray, List.set_cons_zero, List.set_cons_succ]
            refine wpAnyH_take (i := 1) (oi := { dst := some 51, op := Op.load 4 (Operand.tmp 50), type := 4, pos := "keeps.go:70", after := #[{ on := 0, ground := Ground.data }], guard := none }) (v := ?v33) rfl (by kernel_rfl) (by kernel_rfl) (by kernel_rfl) (fun _ _ _ h => h) (Or.inl ⟨by rfl, ?hy33⟩) (by assumption) ?rest33
            case hy33 => (intro w1 hSw; (try dsimp only at hSw); obtain ⟨h0, h1, h2, h3, h4, -⟩ := hSw; go_simp; try with_reducible rfl)
            try simp only [Act.put, List.setIfInBounds_toArray, List.set_cons_zero, List.set_cons_succ]
            refine wpAnyH_take (i := 2) (oi := { dst := some 52, op := Op.move (Operand.tmp 5), type := 56, pos := "keeps.go:70", after := #[], guard := none }) (v := ?v34) rfl (by kernel_rfl) (by kernel_rfl) (by kernel_rfl) (fun _ _ _ h => h) (Or.inl ⟨by rfl, ?hy34⟩) (by assumption) ?rest34
            case hy34 => (intro w1 hSw; (try dsimp only at hSw); obtain ⟨h0, h1, h2, h3, h4, -⟩ := hSw; go_simp; try with_reducible rfl)
            try simp only [Act.put, List.setIfInBounds_toArray, List.set_cons_zero, List.set_cons_succ]
            refine wpAnyH_take (i := 3) (oi := { dst := some 53, op := Op.lookup 56 (Operand.tmp 52) (Operand.const (Value.string { data := #[42] })) false, type := 4, pos := "keeps.go:70", after := #[{ on := 2, ground := Ground.data }], guard := none }) (v := ?v35) rfl (by kernel_rfl) (by kernel_rfl) (by kernel_rfl) (fun _ _ _ h => h) (Or.inl ⟨by rfl, ?hy35⟩) (by assumption) ?rest35
            case hy35 => (intro w1 hSw; (try dsimp only at hSw); obtain ⟨h0, h1, h2, h3, h4, -⟩ := hSw; go_simp; try with_reducible rfl)
            try simp only [Act.put, List.setIfInBounds_toArray, List.set_cons_zero, List.set_cons_succ]
            refine wpAnyH_take (i := 4) (oi := { dst := some 54, op := Op.binOp BinOp.neq 4 (Operand.tmp 51) (Operand.tmp 53) 4, type := 4, pos := "keeps.go:70", after := #[{ on := 1, ground := Ground.data }, { on := 3, ground := Ground.data }], guard := none }) (v := ?v36) rfl (by kernel_rfl) (by kernel_rfl) (by kernel_rfl) (fun _ _ _ h => h) (Or.inl ⟨by rfl, ?hy36⟩) (by assumption) ?rest36
            case hy36 => (intro w1 hSw; (try dsimp only at hSw); obtain ⟨h0, h1, h2, h3, h4, -⟩ := hSw; go_simp; try with_reducible rfl)
            try simp only [Act.put, List.setIfInBounds_toArray, List.set_cons_zero, List.set_cons_succ]
            refine wpAnyH_take (i := 5) (oi := { dst := some 55, op := Op.move (Operand.tmp 54), type := 4, pos := "keeps.go:70", after := #[{ on := 4, ground := Ground.data }], guard := none }) (v := ?v37) rfl (by kernel_rfl) (by kernel_rfl) (by kernel_rfl) (fun _ _ _ h => h) (Or.inl ⟨by rfl, ?hy37⟩) (by assumption) ?rest37
            case hy37 => (intro w1 hSw; (try dsimp only at hSw); obtain ⟨h0, h1, h2, h3, h4, -⟩ := hSw; go_simp; try with_reducible rfl)
            try simp only [Act.put, List.setIfInBounds_toArray, List.set_cons_zero, List.set_cons_succ]
            refine wpAnyH_take (i := 6) (oi := { dst := some 56, op := Op.load 27 (Operand.tmp 4), type := 27, pos := "keeps.go:70", after := #[{ on := 5, ground := Ground.guard }], guard := some (5, false) }) (v := ?v38) rfl (by kernel_rfl) (by kernel_rfl) (by kernel_rfl) (fun _ _ _ h => h) (Or.inl ⟨by rfl, ?hy38⟩) (by assumption) ?rest38
            case hy38 => (intro w1 hSw; (try dsimp only at hSw); obtain ⟨h0, h1, h2, h3, h4, -⟩ := hSw; go_simp; try with_reducible rfl)
            try simp only [Act.put, List.setIfInBounds_toArray, List.set_cons_zero, List.set_cons_succ]
            refine wpAnyH_take (i := 8) (oi := { dst := some 58, op := Op.move (Operand.tmp 5), type := 56, pos := "keeps.go:70", after := #[{ on := 5, ground := Ground.guard }], guard := some (5, false) }) (v := ?v39) rfl (by kernel_rfl) (by kernel_rfl) (by kernel_rfl) (fun _ _ _ h => h) (Or.inl ⟨by rfl, ?hy39⟩) (by assumption) ?rest39
            case hy39 => (intro w1 hSw; (try dsimp only at hSw); obtain ⟨h0, h1, h2, h3, h4, -⟩ := hSw; go_simp; try with_reducible rfl)
            try simp only [Act.put, List.setIfInBounds_toArray, List.set_cons_zero, List.set_cons_succ]
            refine wpAnyH_take (i := 9) (oi := { dst := some 59, op := Op.lookup 56 (Operand.tmp 58) (Operand.const (Value.string { data := #[97] })) false, type := 4, pos := "keeps.go:70", after := #[{ on := 8, ground := Ground.data }, { on := 5, ground := Ground.guard }], guard := some (5, false) }) (v := ?v40) rfl (by kernel_rfl) (by kernel_rfl) (by kernel_rfl) (fun _ _ _ h => h) (Or.inl ⟨by rfl, ?hy40⟩) (by assumption) ?rest40
            case hy40 => (intro w1 hSw; (try dsimp only at hSw); obtain ⟨h0, h1, h2, h3, h4, -⟩ := hSw; go_simp; try with_reducible rfl)
            try simp only [Act.put, List.setIfInBounds_toArray, List.set_cons_zero, List.set_cons_succ]
            refine wpAnyH_ready (rs := [7]) (by kernel_rfl) (by simp) ?_
            refine AllReadyH.cons (o := { dst := some 57, op := Op.call { callee := Callee.value (Operand.func 17), args := #[Operand.tmp 56, Operand.const (Value.string { data := #[97] })], argTypes := #[27, 9] }, type := 4, pos := "keeps.go:70", after := #[{ on := 6, ground := Ground.data }, { on := 5, ground := Ground.chain }, { on := 5, ground := Ground.guard }], guard := some (5, false) }) rfl (fun K hK => ?_) AllReadyH.nil
            go_simp
            refine (has_any (sl := nl) q30 hha).mono ?_
            rintro e w33 ⟨rfl, hb34⟩
            have q35 := q29.later hb34
            have q36 := q30.later hb34
            have q37 := q31.later hb34
            have q38 := q32.later hb34
            refine hK.out _ _ (⟨q35.cell 0, q35.cell 1, q37.look' (s := [97]) (by decide) ta, q37.look' (s := [99]) (by decide) tc, q37.look' (s := [42]) (by decide) HN.out.2.2.2, trivial⟩) (fun hHeld => ?_)
            clear hK K
            try simp only [Act.put, List.setIfInBounds_toArray, List.set_cons_zero, List.set_cons_succ]
            refine wpAnyH_take (i := 10) (oi := { dst := some 60, op := Op.move (Operand.tmp 59), type := 4, pos := "keeps.go:70", after := #[{ on := 9, ground := Ground.data }, { on := 7, ground := Ground.chain }, { on := 5, ground := Ground.guard }], guard := some (5, false) }) (v := ?v41) rfl (by kernel_rfl) (by kernel_rfl) (by kernel_rfl) (fun _ _ _ h => h) (Or.inl ⟨by rfl, ?hy41⟩) (by assumption) ?rest41
            case hy41 => (intro w1 hSw; (try dsimp only at hSw); obtain ⟨h0, h1, h2, h3, h4, -⟩ := hSw; go_simp; try with_reducible rfl)
            try simp only [Act.put, List.setIfInBounds_toArray, List.set_cons_zero, List.set_cons_succ]
            refine wpAnyH_take (i := 11) (oi := { dst := some 61, op := Op.move (Operand.tmp 5), type := 56, pos := "keeps.go:70", after := #[{ on := 10, ground := Ground.guard }], guard := some (10, false) }) (v := ?v42) rfl (by kernel_rfl) (by kernel_rfl) (by kernel_rfl) (fun _ _ _ h => h) (Or.inl ⟨by rfl, ?hy42⟩) (by assumption) ?rest42
            case hy42 => (intro w1 hSw; (try dsimp only at hSw); obtain ⟨h0, h1, h2, h3, h4, -⟩ := hSw; go_simp; try with_reducible rfl)
            try simp only [Act.put, List.setIfInBounds_toArray, List.set_cons_zero, List.set_cons_succ]
            refine wpAnyH_take (i := 12) (oi := { dst := some 62, op := Op.lookup 56 (Operand.tmp 61) (Operand.const (Value.string { data := #[42] })) false, type := 4, pos := "keeps.go:70", after := #[{ on := 11, ground := Ground.data }, { on := 10, ground := Ground.guard }], guard := some (10, false) }) (v := ?v43) rfl (by kernel_rfl) (by kernel_rfl) (by kernel_rfl) (fun _ _ _ h => h) (Or.inl ⟨by rfl, ?hy43⟩) (by assumption) ?rest43
            case hy43 => (intro w1 hSw; (try dsimp only at hSw); obtain ⟨h0, h1, h2, h3, h4, -⟩ := hSw; go_simp; try with_reducible rfl)
            try simp only [Act.put, List.setIfInBounds_toArray, List.set_cons_zero, List.set_cons_succ]
            refine wpAnyH_take (i := 13) (oi := { dst := some 63, op := Op.pick (Operand.tmp 60) (Operand.const (Value.bool true)) (Operand.tmp 62), type := 4, pos := "keeps.go:70", after := #[{ on := 10, ground := Ground.data }, { on := 12, ground := Ground.data }, { on := 5, ground := Ground.guard }], guard := some (5, false) }) (v := ?v44) rfl (by kernel_rfl) (by kernel_rfl) (by kernel_rfl) (fun _ _ _ h => h) (Or.inl ⟨by rfl, ?hy44⟩) (by assumption) ?rest44
            case hy44 => (intro w1 hSw; (try dsimp only at hSw); obtain ⟨h0, h1, h2, h3, h4, -⟩ := hSw; go_simp; try with_reducible rfl)
            try simp only [Act.put, List.setIfInBounds_toArray, List.set_cons_zero, List.set_cons_succ]
            refine wpAnyH_take (i := 14) (oi := { dst := some 64, op := Op.binOp BinOp.neq 4 (Operand.tmp 57) (Operand.tmp 63) 4, type := 4, pos := "keeps.go:70", after := #[{ on := 7, ground := Ground.data }, { on := 13, ground := Ground.data }, { on := 5, ground := Ground.guard }], guard := some (5, false) }) (v := ?v45) rfl (by kernel_rfl) (by kernel_rfl) (by kernel_rfl) (fun _ _ _ h => h) (Or.inl ⟨by rfl, ?hy45⟩) (by assumption) ?rest45
            case hy45 => (intro w1 hSw; (try dsimp only at hSw); obtain ⟨h0, h1, h2, h3, h4, -⟩ := hSw; go_simp; try with_reducible rfl)
            try simp only [Act.put, List.setIfInBounds_toArray, List.set_cons_zero, List.set_cons_succ]
            refine wpAnyH_take (i := 15) (oi := { dst := some 65, op := Op.pick (Operand.tmp 55) (Operand.const (Value.bool true)) (Operand.tmp 64), type := 4, pos := "keeps.go:70", after := #[{ on := 5, ground := Ground.data }, { on := 14, ground := Ground.data }], guard := none }) (v := ?v46) rfl (by kernel_rfl) (by kernel_rfl) (by kernel_rfl) (fun _ _ _ h => h) (Or.inl ⟨by rfl, ?hy46⟩) (by assumption) ?rest46
            case hy46 => (intro w1 hSw; (try dsimp only at hSw); obtain ⟨h0, h1, h2, h3, h4, -⟩ := hSw; go_simp; try with_reducible rfl)
            try simp only [Act.put, List.setIfInBounds_toArray, List.set_cons_zero, List.set_cons_succ]
            refine wpAnyH_take (i := 16) (oi := { dst := some 66, op := Op.move (Operand.tmp 65), type := 4, pos := "keeps.go:70", after := #[{ on := 15, ground := Ground.data }, { on := 10, ground := Ground.chain }], guard := none }) (v := ?v47) rfl (by kernel_rfl) (by kernel_rfl) (by kernel_rfl) (fun _ _ _ h => h) (Or.inl ⟨by rfl, ?hy47⟩) (by assumption) ?rest47
            case hy47 => (intro w1 hSw; (try dsimp only at hSw); obtain ⟨h0, h1, h2, h3, h4, -⟩ := hSw; go_simp; try with_reducible rfl)
            try simp only [Act.put, List.setIfInBounds_toArray, List.set_cons_zero, List.set_cons_succ]
            refine wpAnyH_take (i := 17) (oi := { dst := some 67, op := Op.load 27 (Operand.tmp 4), type := 27, pos := "keeps.go:70", after := #[{ on := 16, ground := Ground.guard }], guard := some (16, false) }) (v := ?v48) rfl (by kernel_rfl) (by kernel_rfl) (by kernel_rfl) (fun _ _ _ h => h) (Or.inl ⟨by rfl, ?hy48⟩) (by assumption) ?rest48
            case hy48 => (intro w1 hSw; (try dsimp only at hSw); obtain ⟨h0, h1, h2, h3, h4, -⟩ := hSw; go_simp; try with_reducible rfl)
            try simp only [Act.put, List.setIfInBounds_toArray, List.set_cons_zero, List.set_cons_succ]
            refine wpAnyH_take (i := 19) (oi := { dst := some 69, op := Op.move (Operand.tmp 5), type := 56, pos := "keeps.go:70", after := #[{ on := 16, ground := Ground.guard }], guard := some (16, false) }) (v := ?v49) rfl (by kernel_rfl) (by kernel_rfl) (by kernel_rfl) (fun _ _ _ h => h) (Or.inl ⟨by rfl, ?hy49⟩) (by assumption) ?rest49
            case hy49 => (intro w1 hSw; (try dsimp only at hSw); obtain ⟨h0, h1, h2, h3, h4, -⟩ := hSw; go_simp; try with_reducible rfl)
            try simp only [Act.put, List.setIfInBounds_toArray, List.set_cons_zero, List.set_cons_succ]
            refine wpAnyH_take (i := 20) (oi := { dst := some 70, op := Op.lookup 56 (Operand.tmp 69) (Operand.const (Value.string { data := #[99] })) false, type := 4, pos := "keeps.go:70", after := #[{ on := 19, ground := Ground.data }, { on := 16, ground := Ground.guard }], guard := some (16, false) }) (v := ?v50) rfl (by kernel_rfl) (by kernel_rfl) (by kernel_rfl) (fun _ _ _ h => h) (Or.inl ⟨by rfl, ?hy50⟩) (by assumption) ?rest50
            case hy50 => (intro w1 hSw; (try dsimp only at hSw); obtain ⟨h0, h1, h2, h3, h4, -⟩ := hSw; go_simp; try with_reducible rfl)
            try simp only [Act.put, List.setIfInBounds_toArray, List.set_cons_zero, List.set_cons_succ]
            refine wpAnyH_ready (rs := [18]) (by kernel_rfl) (by simp) ?_
            refine AllReadyH.cons (o := { dst := some 68, op := Op.call { callee := Callee.value (Operand.func 17), args := #[Operand.tmp 67, Operand.const (Value.string { data := #[99] })], argTypes := #[27, 9] }, type := 4, pos := "keeps.go:70", after := #[{ on := 17, ground := Ground.data }, { on := 16, ground := Ground.chain }, { on := 16, ground := Ground.guard }], guard := some (16, false) }) rfl (fun K hK => ?_) AllReadyH.nil
            go_simp
            refine (has_any (sl := nl) q36 hcc).mono ?_
            rintro e w39 ⟨rfl, hb40⟩
            have q41 := q35.later hb40
            have q42 := q36.later hb40
            have q43 := q37.later hb40
            have q44 := q38.later hb40
            refine hK.out _ _ (⟨q41.cell 0, q41.cell 1, q43.look' (s := [97]) (by decide) ta, q43.look' (s := [99]) (by decide) tc, q43.look' (s := [42]) (by decide) HN.out.2.2.2, trivial⟩) (fun hHeld => ?_)
            clear hK K
            try simp only [Act.put, List.setIfInBounds_toArray, List.set_cons_zero, List.set_cons_succ]
            refine wpAnyH_take (i := 21) (oi := { dst := some 71, op := Op.move (Operand.tmp 70), type := 4, pos := "keeps.go:70", after := #[{ on := 20, ground := Ground.data }, { on := 18, ground := Ground.chain }, { on := 16, ground := Ground.guard }], guard := some (16, false) }) (v := ?v51) rfl (by kernel_rfl) (by kernel_rfl) (by kernel_rfl) (fun _ _ _ h => h) (Or.inl ⟨by rfl, ?hy51⟩) (by assumption) ?rest51
            case hy51 => (intro w1 hSw; (try dsimp only at hSw); obtain ⟨h0, h1, h2, h3, h4, -⟩ := hSw; go_simp; try with_reducible rfl)
            try simp only [Act.put, List.setIfInBounds_toArray, List.set_cons_zero, List.set_cons_succ]
            refine wpAnyH_take (i := 22) (oi := { dst := some 72, op := Op.move (Operand.tmp 5), type := 56, pos := "keeps.go:70", after := #[{ on := 21, ground := Ground.guard }], guard := some (21, false) }) (v := undef) rfl (by kernel_rfl) (by kernel_rfl) (by kernel_rfl) (fun _ _ _ h => h) (Or.inr ⟨by rfl, rfl⟩) (by assumption) ?_
            try simp only [Act.put, List.setIfInBounds_toArray, List.set_cons_zero, List.set_cons_succ]
            refine wpAnyH_take (i := 23) (oi := { dst := some 73, op := Op.lookup 56 (Operand.tmp 72) (Operand.const (Value.string { data := #[42] })) false, type := 4, pos := "keeps.go:70", after := #[{ on := 22, ground := Ground.data }, { on := 21, ground := Ground.guard }], guard := some (21, false) }) (v := undef) rfl (by kernel_rfl) (by kernel_rfl) (by kernel_rfl) (fun _ _ _ h => h) (Or.inr ⟨by rfl, rfl⟩) (by assumption) ?_
            try simp only [Act.put, List.setIfInBounds_toArray, List.set_cons_zero, List.set_cons_succ]
            refine wpAnyH_take (i := 24) (oi := { dst := some 74, op := Op.pick (Operand.tmp 71) (Operand.const (Value.bool true)) (Operand.tmp 73), type := 4, pos := "keeps.go:70", after := #[{ on := 21, ground := Ground.data }, { on := 23, ground := Ground.data }, { on := 16, ground := Ground.guard }], guard := some (16, false) }) (v := ?v54) rfl (by kernel_rfl) (by kernel_rfl) (by kernel_rfl) (fun _ _ _ h => h) (Or.inl ⟨by rfl, ?hy54⟩) (by assumption) ?rest54
            case hy54 => (intro w1 hSw; (try dsimp only at hSw); obtain ⟨h0, h1, h2, h3, h4, -⟩ := hSw; go_simp; try with_reducible rfl)
            try simp only [Act.put, List.setIfInBounds_toArray, List.set_cons_zero, List.set_cons_succ]
            refine wpAnyH_take (i := 25) (oi := { dst := some 75, op := Op.binOp BinOp.neq 4 (Operand.tmp 68) (Operand.tmp 74) 4, type := 4, pos := "keeps.go:70", after := #[{ on := 18, ground := Ground.data }, { on := 24, ground := Ground.data }, { on := 16, ground := Ground.guard }], guard := some (16, false) }) (v := ?v55) rfl (by kernel_rfl) (by kernel_rfl) (by kernel_rfl) (fun _ _ _ h => h) (Or.inl ⟨by rfl, ?hy55⟩) (by assumption) ?rest55
            case hy55 => (intro w1 hSw; (try dsimp only at hSw); obtain ⟨h0, h1, h2, h3, h4, -⟩ := hSw; go_simp; try with_reducible rfl)
            try simp only [Act.put, List.setIfInBounds_toArray, List.set_cons_zero, List.set_cons_succ]
            refine wpAnyH_take (i := 26) (oi := { dst := some 76, op := Op.pick (Operand.tmp 66) (Operand.const (Value.bool true)) (Operand.tmp 75), type := 4, pos := "keeps.go:70", after := #[{ on := 16, ground := Ground.data }, { on := 25, ground := Ground.data }], guard := none }) (v := ?v56) rfl (by kernel_rfl) (by kernel_rfl) (by kernel_rfl) (fun _ _ _ h => h) (Or.inl ⟨by rfl, ?hy56⟩) (by assumption) ?rest56
            case hy56 => (intro w1 hSw; (try dsimp only at hSw); obtain ⟨h0, h1, h2, h3, h4, -⟩ := hSw; go_simp; try with_reducible rfl)
            try simp only [Act.put, List.setIfInBounds_toArray, List.set_cons_zero, List.set_cons_succ]
            refine wpAnyH_take (i := 27) (oi := { dst := some 77, op := Op.move (Operand.tmp 76), type := 4, pos := "keeps.go:70", after := #[{ on := 26, ground := Ground.data }, { on := 21, ground := Ground.chain }], guard := none }) (v := ?v57) rfl (by kernel_rfl) (by kernel_rfl) (by kernel_rfl) (fun _ _ _ h => h) (Or.inl ⟨by rfl, ?hy57⟩) (by assumption) ?rest57
            case hy57 => (intro w1 hSw; (try dsimp only at hSw); obtain ⟨h0, h1, h2, h3, h4, -⟩ := hSw; go_simp; try with_reducible rfl)
            try simp only [Act.put, List.setIfInBounds_toArray, List.set_cons_zero, List.set_cons_succ]
            refine wpAnyH_take (i := 28) (oi := { dst := some 78, op := Op.load 27 (Operand.tmp 4), type := 27, pos := "keeps.go:70", after := #[{ on := 27, ground := Ground.guard }], guard := some (27, false) }) (v := ?v58) rfl (by kernel_rfl) (by kernel_rfl) (by kernel_rfl) (fun _ _ _ h => h) (Or.inl ⟨by rfl, ?hy58⟩) (by assumption) ?rest58
            case hy58 => (intro w1 hSw; (try dsimp only at hSw); obtain ⟨h0, h1, h2, h3, h4, -⟩ := hSw; go_simp; try with_reducible rfl)
            try simp only [Act.put, List.setIfInBounds_toArray, List.set_cons_zero, List.set_cons_succ]
            refine wpAnyH_take (i := 30) (oi := { dst := some 80, op := Op.move (Operand.tmp 5), type := 56, pos := "keeps.go:70", after := #[{ on := 27, ground := Ground.guard }], guard := some (27, false) }) (v := ?v59) rfl (by kernel_rfl) (by kernel_rfl) (by kernel_rfl) (fun _ _ _ h => h) (Or.inl ⟨by rfl, ?hy59⟩) (by assumption) ?rest59
            case hy59 => (intro w1 hSw; (try dsimp only at hSw); obtain ⟨h0, h1, h2, h3, h4, -⟩ := hSw; go_simp; try with_reducible rfl)
            try simp only [Act.put, List.setIfInBounds_toArray, List.set_cons_zero, List.set_cons_succ]
            refine wpAnyH_take (i := 31) (oi := { dst := some 81, op := Op.lookup 56 (Operand.tmp 80) (Operand.const (Value.string { data := #[42] })) false, type := 4, pos := "keeps.go:70", after := #[{ on := 30, ground := Ground.data }, { on := 27, ground := Ground.guard }], guard := some (27, false) }) (v := ?v60) rfl (by kernel_rfl) (by kernel_rfl) (by kernel_rfl) (fun _ _ _ h => h) (Or.inl ⟨by rfl, ?hy60⟩) (by assumption) ?rest60
            case hy60 => (intro w1 hSw; (try dsimp only at hSw); obtain ⟨h0, h1, h2, h3, h4, -⟩ := hSw; go_simp; try with_reducible rfl)
            try simp only [Act.put, List.setIfInBounds_toArray, List.set_cons_zero, List.set_cons_succ]
            refine wpAnyH_ready (rs := [29]) (by kernel_rfl) (by simp) ?_
            refine AllReadyH.cons (o := { dst := some 79, op := Op.call { callee := Callee.value (Operand.func 17), args := #[Operand.tmp 78, Operand.const (Value.string { data := #[122, 122] })], argTypes := #[27, 9] }, type := 4, pos := "keeps.go:70", after := #[{ on := 28, ground := Ground.data }, { on := 27, ground := Ground.chain }, { on := 27, ground := Ground.guard }], guard := some (27, false) }) rfl (fun K hK => ?_) AllReadyH.nil
            go_simp
            refine (has_any (sl := nl) q42 hzz).mono ?_
            rintro e w45 ⟨rfl, hb46⟩
            have q47 := q41.later hb46
            have q48 := q42.later hb46
            have q49 := q43.later hb46
            have q50 := q44.later hb46
            refine hK.out _ _ (⟨q47.cell 0, q47.cell 1, q49.look' (s := [97]) (by decide) ta, q49.look' (s := [99]) (by decide) tc, q49.look' (s := [42]) (by decide) HN.out.2.2.2, trivial⟩) (fun hHeld => ?_)
            clear hK K
            try simp only [Act.put, List.setIfInBounds_toArray, List.set_cons_zero, List.set_cons_succ]
            refine wpAnyH_take (i := 32) (oi := { dst := some 82, op := Op.binOp BinOp.neq 4 (Operand.tmp 79) (Operand.tmp 81) 4, type := 4, pos := "keeps.go:70", after := #[{ on := 29, ground := Ground.data }, { on := 31, ground := Ground.data }, { on := 27, ground := Ground.guard }], guard := some (27, false) }) (v := ?v61) rfl (by kernel_rfl) (by kernel_rfl) (by kernel_rfl) (fun _ _ _ h => h) (Or.inl ⟨by rfl, ?hy61⟩) (by assumption) ?rest61
            case hy61 => (intro w1 hSw; (try dsimp only at hSw); obtain ⟨h0, h1, h2, h3, h4, -⟩ := hSw; go_simp; try with_reducible rfl)
            try simp only [Act.put, List.setIfInBounds_toArray, List.set_cons_zero, List.set_cons_succ]
            refine wpAnyH_take (i := 33) (oi := { dst := some 83, op := Op.pick (Operand.tmp 77) (Operand.const (Value.bool true)) (Operand.tmp 82), type := 4, pos := "keeps.go:70", after := #[{ on := 27, ground := Ground.data }, { on := 32, ground := Ground.data }], guard := none }) (v := ?v62) rfl (by kernel_rfl) (by kernel_rfl) (by kernel_rfl) (fun _ _ _ h => h) (Or.inl ⟨by rfl, ?hy62⟩) (by assumption) ?rest62
            case hy62 => (intro w1 hSw; (try dsimp only at hSw); obtain ⟨h0, h1, h2, h3, h4, -⟩ := hSw; go_simp; try with_reducible rfl)
            try simp only [Act.put, List.setIfInBounds_toArray, List.set_cons_zero, List.set_cons_succ]
            refine wpAnyH_done (by kernel_rfl) ?_ _
            go_wp2_with fail
            go_roundw
            case rel => exact ⟨k + 1, T', na, nl, a5, c5, by omega, by omega, by go_num, ⟨HN.out.2.1, q47, q48, q49, q50⟩⟩
            case measure => simp [RowKit.intOf]; omega
        · cases tc : T' [99]
          · rw [ta, Bool.true_or] at hha
            rw [tc, Bool.false_or] at hcc
            obtain ⟨w51, hw52, hb53⟩ := drew_new w7
            have q54 := B7.later hb53
            have q55 := T7.later hb53
            have q56 := M7.later hb53
            have q57 := hb07.later hb53
            refine wp_region_held_drew (S := (fun w' => w'.cell? ⟨R, 0, none⟩ = some (.bool na) ∧ w'.cell? ⟨R, 1, none⟩ = some (.slice a5 nl.length c5) ∧ (Instr.lookup 56 (.map (some (R + 1))) (.string ⟨#[97]⟩) false).run Try.prog w' = .ok (.bool true) w' ∧ (Instr.lookup 56 (.map (some (R + 1))) (.string ⟨#[99]⟩) false).run Try.prog w' = .ok (.bool false) w' ∧ (Instr.lookup 56 (.map (some (R + 1))) (.string ⟨#[42]⟩) false).run Try.prog w' = .ok (.bool na) w' ∧ True)) (by kernel_rfl) (by rw [hw52]; exact ⟨q54.cell 0, q54.cell 1, q56.look' (s := [97]) (by decide) ta, q56.look' (s := [99]) (by decide) tc, q56.look' (s := [42]) (by decide) HN.out.2.2.2, trivial⟩) (fun hHeld => ?_)
            rw [hw52] at hHeld ⊢
            refine wpAnyH_take (i := 0) (oi := { dst := some 50, op := Op.fieldAddr 27 (Operand.tmp 4) 0, type := 0, pos := "keeps.go:70", after := #[], guard := none }) (v := ?v63) rfl (by kernel_rfl) (by kernel_rfl) (by kernel_rfl) (fun _ _ _ h => h) (Or.inl ⟨by rfl, ?hy63⟩) (by assumption) ?rest63
            case hy63 => (intro w1 hSw; (try dsimp only at hSw); obtain ⟨h0, h1, h2, h3, h4, -⟩ := hSw; go_simp; try with_reducible rfl)
            try simp only [Act.put, List.setIfInBounds_toArray, List.set_cons_zero, List.set_cons_succ]
            refine wpAnyH_take (i := 1) (oi := { dst := some 51, op := Op.load 4 (Operand.tmp 50), type := 4, pos := "keeps.go:70", after := #[{ on := 0, ground := Ground.data }], guard := none }) (v := ?v64) rfl (by kernel_rfl) (by kernel_rfl) (by kernel_rfl) (fun _ _ _ h => h) (Or.inl ⟨by rfl, ?hy64⟩) (by assumption) ?rest64
            case hy64 => (intro w1 hSw; (try dsimp only at hSw); obtain ⟨h0, h1, h2, h3, h4, -⟩ := hSw; go_simp; try with_reducible rfl)
            try simp only [Act.put, List.setIfInBounds_toArray, List.set_cons_zero, List.set_cons_succ]
            refine wpAnyH_take (i := 2) (oi := { dst := some 52, op := Op.move (Operand.tmp 5), type := 56, pos := "keeps.go:70", after := #[], guard := none }) (v := ?v65) rfl (by kernel_rfl) (by kernel_rfl) (by kernel_rfl) (fun _ _ _ h => h) (Or.inl ⟨by rfl, ?hy65⟩) (by assumption) ?rest65
            case hy65 => (intro w1 hSw; (try dsimp only at hSw); obtain ⟨h0, h1, h2, h3, h4, -⟩ := hSw; go_simp; try with_reducible rfl)
            try simp only [Act.put, List.setIfInBounds_toArray, List.set_cons_zero, List.set_cons_succ]
            refine wpAnyH_take (i := 3) (oi := { dst := some 53, op := Op.lookup 56 (Operand.tmp 52) (Operand.const (Value.string { data := #[42] })) false, type := 4, pos := "keeps.go:70", after := #[{ on := 2, ground := Ground.data }], guard := none }) (v := ?v66) rfl (by kernel_rfl) (by kernel_rfl) (by kernel_rfl) (fun _ _ _ h => h) (Or.inl ⟨by rfl, ?hy66⟩) (by assumption) ?rest66
            case hy66 => (intro w1 hSw; (try dsimp only at hSw); obtain ⟨h0, h1, h2, h3, h4, -⟩ := hSw; go_simp; try with_reducible rfl)
            try simp only [Act.put, List.setIfInBounds_toArray, List.set_cons_zero, List.set_cons_succ]
            refine wpAnyH_take (i := 4) (oi := { dst := some 54, op := Op.binOp BinOp.neq 4 (Operand.tmp 51) (Operand.tmp 53) 4, type := 4, pos := "keeps.go:70", after := #[{ on := 1, ground := Ground.data }, { on := 3, ground := Ground.data }], guard := none }) (v := ?v67) rfl (by kernel_rfl) (by kernel_rfl) (by kernel_rfl) (fun _ _ _ h => h) (Or.inl ⟨by rfl, ?hy67⟩) (by assumption) ?rest67
            case hy67 => (intro w1 hSw; (try dsimp only at hSw); obtain ⟨h0, h1, h2, h3, h4, -⟩ := hSw; go_simp; try with_reducible rfl)
            try simp only [Act.put, List.setIfInBounds_toArray, List.set_cons_zero, List.set_cons_succ]
            refine wpAnyH_take (i := 5) (oi := { dst := some 55, op := Op.move (Operand.tmp 54), type := 4, pos := "keeps.go:70", after := #[{ on := 4, ground := Ground.data }], guard := none }) (v := ?v68) rfl (by kernel_rfl) (by kernel_rfl) (by kernel_rfl) (fun _ _ _ h => h) (Or.inl ⟨by rfl, ?hy68⟩) (by assumption) ?rest68
            case hy68 => (intro w1 hSw; (try dsimp only at hSw); obtain ⟨h0, h1, h2, h3, h4, -⟩ := hSw; go_simp; try with_reducible rfl)
            try simp only [Act.put, List.setIfInBounds_toArray, List.set_cons_zero, List.set_cons_succ]
            refine wpAnyH_take (i := 6) (oi := { dst := some 56, op := Op.load 27 (Operand.tmp 4), type := 27, pos := "keeps.go:70", after := #[{ on := 5, ground := Ground.guard }], guard := some (5, false) }) (v := ?v69) rfl (by kernel_rfl) (by kernel_rfl) (by kernel_rfl) (fun _ _ _ h => h) (Or.inl ⟨by rfl, ?hy69⟩) (by assumption) ?rest69
            case hy69 => (intro w1 hSw; (try dsimp only at hSw); obtain ⟨h0, h1, h2, h3, h4, -⟩ := hSw; go_simp; try with_reducible rfl)
            try simp only [Act.put, List.setIfInBounds_toArray, List.set_cons_zero, List.set_cons_succ]
            refine wpAnyH_take (i := 8) (oi := { dst := some 58, op := Op.move (Operand.tmp 5), type := 56, pos := "keeps.go:70", after := #[{ on := 5, ground := Ground.guard }], guard := some (5, false) }) (v := ?v70) rfl (by kernel_rfl) (by kernel_rfl) (by kernel_rfl) (fun _ _ _ h => h) (Or.inl ⟨by rfl, ?hy70⟩) (by assumption) ?rest70
            case hy70 => (intro w1 hSw; (try dsimp only at hSw); obtain ⟨h0, h1, h2, h3, h4, -⟩ := hSw; go_simp; try with_reducible rfl)
            try simp only [Act.put, List.setIfInBounds_toArray, List.set_cons_zero, List.set_cons_succ]
            refine wpAnyH_take (i := 9) (oi := { dst := some 59, op := Op.lookup 56 (Operand.tmp 58) (Operand.const (Value.string { data := #[97] })) false, type := 4, pos := "keeps.go:70", after := #[{ on := 8, ground := Ground.data }, { on := 5, ground := Ground.guard }], guard := some (5, false) }) (v := ?v71) rfl (by kernel_rfl) (by kernel_rfl) (by kernel_rfl) (fun _ _ _ h => h) (Or.inl ⟨by rfl, ?hy71⟩) (by assumption) ?rest71
            case hy71 => (intro w1 hSw; (try dsimp only at hSw); obtain ⟨h0, h1, h2, h3, h4, -⟩ := hSw; go_simp; try with_reducible rfl)
            try simp only [Act.put, List.setIfInBounds_toArray, List.set_cons_zero, List.set_cons_succ]
            refine wpAnyH_ready (rs := [7]) (by kernel_rfl) (by simp) ?_
            refine AllReadyH.cons (o := { dst := some 57, op := Op.call { callee := Callee.value (Operand.func 17), args := #[Operand.tmp 56, Operand.const (Value.string { data := #[97] })], argTypes := #[27, 9] }, type := 4, pos := "keeps.go:70", after := #[{ on := 6, ground := Ground.data }, { on := 5, ground := Ground.chain }, { on := 5, ground := Ground.guard }], guard := some (5, false) }) rfl (fun K hK => ?_) AllReadyH.nil
            go_simp
            refine (has_any (sl := nl) q55 hha).mono ?_
            rintro e w58 ⟨rfl, hb59⟩
            have q60 := q54.later hb59
            have q61 := q55.later hb59
            have q62 := q56.later hb59
            have q63 := q57.later hb59
            refine hK.out _ _ (⟨q60.cell 0, q60.cell 1, q62.look' (s := [97]) (by decide) ta, q62.look' (s := [99]) (by decide) tc, q62.look' (s := [42]) (by decide) HN.out.2.2.2, trivial⟩) (fun hHeld => ?_)
            clear hK K
            try simp only [Act.put, List.setIfInBounds_toArray, List.set_cons_zero, List.set_cons_succ]
            refine wpAnyH_take (i := 10) (oi := { dst := some 60, op := Op.move (Operand.tmp 59), type := 4, pos := "keeps.go:70", after := #[{ on := 9, ground := Ground.data }, { on := 7, ground := Ground.chain }, { on := 5, ground := Ground.guard }], guard := some (5, false) }) (v := ?v72) rfl (by kernel_rfl) (by kernel_rfl) (by kernel_rfl) (fun _ _ _ h => h) (Or.inl ⟨by rfl, ?hy72⟩) (by assumption) ?rest72
            case hy72 => (intro w1 hSw; (try dsimp only at hSw); obtain ⟨h0, h1, h2, h3, h4, -⟩ := hSw; go_simp; try with_reducible rfl)
            try simp only [Act.put, List.setIfInBounds_toArray, List.set_cons_zero, List.set_cons_succ]
            refine wpAnyH_take (i := 11) (oi := { dst := some 61, op := Op.move (Operand.tmp 5), type := 56, pos := "keeps.go:70", after := #[{ on := 10, ground := Ground.guard }], guard := some (10, false) }) (v := undef) rfl (by kernel_rfl) (by kernel_rfl) (by kernel_rfl) (fun _ _ _ h => h) (Or.inr ⟨by rfl, rfl⟩) (by assumption) ?_
            try simp only [Act.put, List.setIfInBounds_toArray, List.set_cons_zero, List.set_cons_succ]
            refine wpAnyH_take (i := 12) (oi := { dst := some 62, op := Op.lookup 56 (Operand.tmp 61) (Operand.const (Value.string { data := #[42] })) false, type := 4, pos := "keeps.go:70", after := #[{ on := 11, ground := Ground.data }, { on := 10, ground := Ground.guard }], guard := some (10, false) }) (v := undef) rfl (by kernel_rfl) (by kernel_rfl) (by kernel_rfl) (fun _ _ _ h => h) (Or.inr ⟨by rfl, rfl⟩) (by assumption) ?_
            try simp only [Act.put, List.setIfInBounds_toArray, List.set_cons_zero, List.set_cons_succ]
            refine wpAnyH_take (i := 13) (oi := { dst := some 63, op := Op.pick (Operand.tmp 60) (Operand.const (Value.bool true)) (Operand.tmp 62), type := 4, pos := "keeps.go:70", after := #[{ on := 10, ground := Ground.data }, { on := 12, ground := Ground.data }, { on := 5, ground := Ground.guard }], guard := some (5, false) }) (v := ?v75) rfl (by kernel_rfl) (by kernel_rfl) (by kernel_rfl) (fun _ _ _ h => h) (Or.inl ⟨by rfl, ?hy75⟩) (by assumption) ?rest75
            case hy75 => (intro w1 hSw; (try dsimp only at hSw); obtain ⟨h0, h1, h2, h3, h4, -⟩ := hSw; go_simp; try with_reducible rfl)
            try simp only [Act.put, List.setIfInBounds_toArray, List.set_cons_zero, List.set_cons_succ]
            refine wpAnyH_take (i := 14) (oi := { dst := some 64, op := Op.binOp BinOp.neq 4 (Operand.tmp 57) (Operand.tmp 63) 4, type := 4, pos := "keeps.go:70", after := #[{ on := 7, ground := Ground.data }, { on := 13, ground := Ground.data }, { on := 5, ground := Ground.guard }], guard := some (5, false) }) (v := ?v76) rfl (by kernel_rfl) (by kernel_rfl) (by kernel_rfl) (fun _ _ _ h => h) (Or.inl ⟨by rfl, ?hy76⟩) (by assumption) ?rest76
            case hy76 => (intro w1 hSw; (try dsimp only at hSw); obtain ⟨h0, h1, h2, h3, h4, -⟩ := hSw; go_simp; try with_reducible rfl)
            try simp only [Act.put, List.setIfInBounds_toArray, List.set_cons_zero, List.set_cons_succ]
            refine wpAnyH_take (i := 15) (oi := { dst := some 65, op := Op.pick (Operand.tmp 55) (Operand.const (Value.bool true)) (Operand.tmp 64), type := 4, pos := "keeps.go:70", after := #[{ on := 5, ground := Ground.data }, { on := 14, ground := Ground.data }], guard := none }) (v := ?v77) rfl (by kernel_rfl) (by kernel_rfl) (by kernel_rfl) (fun _ _ _ h => h) (Or.inl ⟨by rfl, ?hy77⟩) (by assumption) ?rest77
            case hy77 => (intro w1 hSw; (try dsimp only at hSw); obtain ⟨h0, h1, h2, h3, h4, -⟩ := hSw; go_simp; try with_reducible rfl)
            try simp only [Act.put, List.setIfInBounds_toArray, List.set_cons_zero, List.set_cons_succ]
            refine wpAnyH_take (i := 16) (oi := { dst := some 66, op := Op.move (Operand.tmp 65), type := 4, pos := "keeps.go:70", after := #[{ on := 15, ground := Ground.data }, { on := 10, ground := Ground.chain }], guard := none }) (v := ?v78) rfl (by kernel_rfl) (by kernel_rfl) (by kernel_rfl) (fun _ _ _ h => h) (Or.inl ⟨by rfl, ?hy78⟩) (by assumption) ?rest78
            case hy78 => (intro w1 hSw; (try dsimp only at hSw); obtain ⟨h0, h1, h2, h3, h4, -⟩ := hSw; go_simp; try with_reducible rfl)
            try simp only [Act.put, List.setIfInBounds_toArray, List.set_cons_zero, List.set_cons_succ]
            refine wpAnyH_take (i := 17) (oi := { dst := some 67, op := Op.load 27 (Operand.tmp 4), type := 27, pos := "keeps.go:70", after := #[{ on := 16, ground := Ground.guard }], guard := some (16, false) }) (v := ?v79) rfl (by kernel_rfl) (by kernel_rfl) (by kernel_rfl) (fun _ _ _ h => h) (Or.inl ⟨by rfl, ?hy79⟩) (by assumption) ?rest79
            case hy79 => (intro w1 hSw; (try dsimp only at hSw); obtain ⟨h0, h1, h2, h3, h4, -⟩ := hSw; go_simp; try with_reducible rfl)
            try simp only [Act.put, List.setIfInBounds_toArray, List.set_cons_zero, List.set_cons_succ]
            refine wpAnyH_take (i := 19) (oi := { dst := some 69, op := Op.move (Operand.tmp 5), type := 56, pos := "keeps.go:70", after := #[{ on := 16, ground := Ground.guard }], guard := some (16, false) }) (v := ?v80) rfl (by kernel_rfl) (by kernel_rfl) (by kernel_rfl) (fun _ _ _ h => h) (Or.inl ⟨by rfl, ?hy80⟩) (by assumption) ?rest80
            case hy80 => (intro w1 hSw; (try dsimp only at hSw); obtain ⟨h0, h1, h2, h3, h4, -⟩ := hSw; go_simp; try with_reducible rfl)
            try simp only [Act.put, List.setIfInBounds_toArray, List.set_cons_zero, List.set_cons_succ]
            refine wpAnyH_take (i := 20) (oi := { dst := some 70, op := Op.lookup 56 (Operand.tmp 69) (Operand.const (Value.string { data := #[99] })) false, type := 4, pos := "keeps.go:70", after := #[{ on := 19, ground := Ground.data }, { on := 16, ground := Ground.guard }], guard := some (16, false) }) (v := ?v81) rfl (by kernel_rfl) (by kernel_rfl) (by kernel_rfl) (fun _ _ _ h => h) (Or.inl ⟨by rfl, ?hy81⟩) (by assumption) ?rest81
            case hy81 => (intro w1 hSw; (try dsimp only at hSw); obtain ⟨h0, h1, h2, h3, h4, -⟩ := hSw; go_simp; try with_reducible rfl)
            try simp only [Act.put, List.setIfInBounds_toArray, List.set_cons_zero, List.set_cons_succ]
            refine wpAnyH_ready (rs := [18]) (by kernel_rfl) (by simp) ?_
            refine AllReadyH.cons (o := { dst := some 68, op := Op.call { callee := Callee.value (Operand.func 17), args := #[Operand.tmp 67, Operand.const (Value.string { data := #[99] })], argTypes := #[27, 9] }, type := 4, pos := "keeps.go:70", after := #[{ on := 17, ground := Ground.data }, { on := 16, ground := Ground.chain }, { on := 16, ground := Ground.guard }], guard := some (16, false) }) rfl (fun K hK => ?_) AllReadyH.nil
            go_simp
            refine (has_any (sl := nl) q61 hcc).mono ?_
            rintro e w64 ⟨rfl, hb65⟩
            have q66 := q60.later hb65
            have q67 := q61.later hb65
            have q68 := q62.later hb65
            have q69 := q63.later hb65
            refine hK.out _ _ (⟨q66.cell 0, q66.cell 1, q68.look' (s := [97]) (by decide) ta, q68.look' (s := [99]) (by decide) tc, q68.look' (s := [42]) (by decide) HN.out.2.2.2, trivial⟩) (fun hHeld => ?_)
            clear hK K
            try simp only [Act.put, List.setIfInBounds_toArray, List.set_cons_zero, List.set_cons_succ]
            refine wpAnyH_take (i := 21) (oi := { dst := some 71, op := Op.move (Operand.tmp 70), type := 4, pos := "keeps.go:70", after := #[{ on := 20, ground := Ground.data }, { on := 18, ground := Ground.chain }, { on := 16, ground := Ground.guard }], guard := some (16, false) }) (v := ?v82) rfl (by kernel_rfl) (by kernel_rfl) (by kernel_rfl) (fun _ _ _ h => h) (Or.inl ⟨by rfl, ?hy82⟩) (by assumption) ?rest82
            case hy82 => (intro w1 hSw; (try dsimp only at hSw); obtain ⟨h0, h1, h2, h3, h4, -⟩ := hSw; go_simp; try with_reducible rfl)
            try simp only [Act.put, List.setIfInBounds_toArray, List.set_cons_zero, List.set_cons_succ]
            refine wpAnyH_take (i := 22) (oi := { dst := some 72, op := Op.move (Operand.tmp 5), type := 56, pos := "keeps.go:70", after := #[{ on := 21, ground := Ground.guard }], guard := some (21, false) }) (v := ?v83) rfl (by kernel_rfl) (by kernel_rfl) (by kernel_rfl) (fun _ _ _ h => h) (Or.inl ⟨by rfl, ?hy83⟩) (by assumption) ?rest83
            case hy83 => (intro w1 hSw; (try dsimp only at hSw); obtain ⟨h0, h1, h2, h3, h4, -⟩ := hSw; go_simp; try with_reducible rfl)
            try simp only [Act.put, List.setIfInBounds_toArray, List.set_cons_zero, List.set_cons_succ]
            refine wpAnyH_take (i := 23) (oi := { dst := some 73, op := Op.lookup 56 (Operand.tmp 72) (Operand.const (Value.string { data := #[42] })) false, type := 4, pos := "keeps.go:70", after := #[{ on := 22, ground := Ground.data }, { on := 21, ground := Ground.guard }], guard := some (21, false) }) (v := ?v84) rfl (by kernel_rfl) (by kernel_rfl) (by kernel_rfl) (fun _ _ _ h => h) (Or.inl ⟨by rfl, ?hy84⟩) (by assumption) ?rest84
            case hy84 => (intro w1 hSw; (try dsimp only at hSw); obtain ⟨h0, h1, h2, h3, h4, -⟩ := hSw; go_simp; try with_reducible rfl)
            try simp only [Act.put, List.setIfInBounds_toArray, List.set_cons_zero, List.set_cons_succ]
            refine wpAnyH_take (i := 24) (oi := { dst := some 74, op := Op.pick (Operand.tmp 71) (Operand.const (Value.bool true)) (Operand.tmp 73), type := 4, pos := "keeps.go:70", after := #[{ on := 21, ground := Ground.data }, { on := 23, ground := Ground.data }, { on := 16, ground := Ground.guard }], guard := some (16, false) }) (v := ?v85) rfl (by kernel_rfl) (by kernel_rfl) (by kernel_rfl) (fun _ _ _ h => h) (Or.inl ⟨by rfl, ?hy85⟩) (by assumption) ?rest85
            case hy85 => (intro w1 hSw; (try dsimp only at hSw); obtain ⟨h0, h1, h2, h3, h4, -⟩ := hSw; go_simp; try with_reducible rfl)
            try simp only [Act.put, List.setIfInBounds_toArray, List.set_cons_zero, List.set_cons_succ]
            refine wpAnyH_take (i := 25) (oi := { dst := some 75, op := Op.binOp BinOp.neq 4 (Operand.tmp 68) (Operand.tmp 74) 4, type := 4, pos := "keeps.go:70", after := #[{ on := 18, ground := Ground.data }, { on := 24, ground := Ground.data }, { on := 16, ground := Ground.guard }], guard := some (16, false) }) (v := ?v86) rfl (by kernel_rfl) (by kernel_rfl) (by kernel_rfl) (fun _ _ _ h => h) (Or.inl ⟨by rfl, ?hy86⟩) (by assumption) ?rest86
            case hy86 => (intro w1 hSw; (try dsimp only at hSw); obtain ⟨h0, h1, h2, h3, h4, -⟩ := hSw; go_simp; try with_reducible rfl)
            try simp only [Act.put, List.setIfInBounds_toArray, List.set_cons_zero, List.set_cons_succ]
            refine wpAnyH_take (i := 26) (oi := { dst := some 76, op := Op.pick (Operand.tmp 66) (Operand.const (Value.bool true)) (Operand.tmp 75), type := 4, pos := "keeps.go:70", after := #[{ on := 16, ground := Ground.data }, { on := 25, ground := Ground.data }], guard := none }) (v := ?v87) rfl (by kernel_rfl) (by kernel_rfl) (by kernel_rfl) (fun _ _ _ h => h) (Or.inl ⟨by rfl, ?hy87⟩) (by assumption) ?rest87
            case hy87 => (intro w1 hSw; (try dsimp only at hSw); obtain ⟨h0, h1, h2, h3, h4, -⟩ := hSw; go_simp; try with_reducible rfl)
            try simp only [Act.put, List.setIfInBounds_toArray, List.set_cons_zero, List.set_cons_succ]
            refine wpAnyH_take (i := 27) (oi := { dst := some 77, op := Op.move (Operand.tmp 76), type := 4, pos := "keeps.go:70", after := #[{ on := 26, ground := Ground.data }, { on := 21, ground := Ground.chain }], guard := none }) (v := ?v88) rfl (by kernel_rfl) (by kernel_rfl) (by kernel_rfl) (fun _ _ _ h => h) (Or.inl ⟨by rfl, ?hy88⟩) (by assumption) ?rest88
            case hy88 => (intro w1 hSw; (try dsimp only at hSw); obtain ⟨h0, h1, h2, h3, h4, -⟩ := hSw; go_simp; try with_reducible rfl)
            try simp only [Act.put, List.setIfInBounds_toArray, List.set_cons_zero, List.set_cons_succ]
            refine wpAnyH_take (i := 28) (oi := { dst := some 78, op := Op.load 27 (Operand.tmp 4), type := 27, pos := "keeps.go:70", after := #[{ on := 27, ground := Ground.guard }], guard := some (27, false) }) (v := ?v89) rfl (by kernel_rfl) (by kernel_rfl) (by kernel_rfl) (fun _ _ _ h => h) (Or.inl ⟨by rfl, ?hy89⟩) (by assumption) ?rest89
            case hy89 => (intro w1 hSw; (try dsimp only at hSw); obtain ⟨h0, h1, h2, h3, h4, -⟩ := hSw; go_simp; try with_reducible rfl)
            try simp only [Act.put, List.setIfInBounds_toArray, List.set_cons_zero, List.set_cons_succ]
            refine wpAnyH_take (i := 30) (oi := { dst := some 80, op := Op.move (Operand.tmp 5), type := 56, pos := "keeps.go:70", after := #[{ on := 27, ground := Ground.guard }], guard := some (27, false) }) (v := ?v90) rfl (by kernel_rfl) (by kernel_rfl) (by kernel_rfl) (fun _ _ _ h => h) (Or.inl ⟨by rfl, ?hy90⟩) (by assumption) ?rest90
            case hy90 => (intro w1 hSw; (try dsimp only at hSw); obtain ⟨h0, h1, h2, h3, h4, -⟩ := hSw; go_simp; try with_reducible rfl)
            try simp only [Act.put, List.setIfInBounds_toArray, List.set_cons_zero, List.set_cons_succ]
            refine wpAnyH_take (i := 31) (oi := { dst := some 81, op := Op.lookup 56 (Operand.tmp 80) (Operand.const (Value.string { data := #[42] })) false, type := 4, pos := "keeps.go:70", after := #[{ on := 30, ground := Ground.data }, { on := 27, ground := Ground.guard }], guard := some (27, false) }) (v := ?v91) rfl (by kernel_rfl) (by kernel_rfl) (by kernel_rfl) (fun _ _ _ h => h) (Or.inl ⟨by rfl, ?hy91⟩) (by assumption) ?rest91
            case hy91 => (intro w1 hSw; (try dsimp only at hSw); obtain ⟨h0, h1, h2, h3, h4, -⟩ := hSw; go_simp; try with_reducible rfl)
            try simp only [Act.put, List.setIfInBounds_toArray, List.set_cons_zero, List.set_cons_succ]
            refine wpAnyH_ready (rs := [29]) (by kernel_rfl) (by simp) ?_
            refine AllReadyH.cons (o := { dst := some 79, op := Op.call { callee := Callee.value (Operand.func 17), args := #[Operand.tmp 78, Operand.const (Value.string { data := #[122, 122] })], argTypes := #[27, 9] }, type := 4, pos := "keeps.go:70", after := #[{ on := 28, ground := Ground.data }, { on := 27, ground := Ground.chain }, { on := 27, ground := Ground.guard }], guard := some (27, false) }) rfl (fun K hK => ?_) AllReadyH.nil
            go_simp
            refine (has_any (sl := nl) q67 hzz).mono ?_
            rintro e w70 ⟨rfl, hb71⟩
            have q72 := q66.later hb71
            have q73 := q67.later hb71
            have q74 := q68.later hb71
            have q75 := q69.later hb71
            refine hK.out _ _ (⟨q72.cell 0, q72.cell 1, q74.look' (s := [97]) (by decide) ta, q74.look' (s := [99]) (by decide) tc, q74.look' (s := [42]) (by decide) HN.out.2.2.2, trivial⟩) (fun hHeld => ?_)
            clear hK K
            try simp only [Act.put, List.setIfInBounds_toArray, List.set_cons_zero, List.set_cons_succ]
            refine wpAnyH_take (i := 32) (oi := { dst := some 82, op := Op.binOp BinOp.neq 4 (Operand.tmp 79) (Operand.tmp 81) 4, type := 4, pos := "keeps.go:70", after := #[{ on := 29, ground := Ground.data }, { on := 31, ground := Ground.data }, { on := 27, ground := Ground.guard }], guard := some (27, false) }) (v := ?v92) rfl (by kernel_rfl) (by kernel_rfl) (by kernel_rfl) (fun _ _ _ h => h) (Or.inl ⟨by rfl, ?hy92⟩) (by assumption) ?rest92
            case hy92 => (intro w1 hSw; (try dsimp only at hSw); obtain ⟨h0, h1, h2, h3, h4, -⟩ := hSw; go_simp; try with_reducible rfl)
            try simp only [Act.put, List.setIfInBounds_toArray, List.set_cons_zero, List.set_cons_succ]
            refine wpAnyH_take (i := 33) (oi := { dst := some 83, op := Op.pick (Operand.tmp 77) (Operand.const (Value.bool true)) (Operand.tmp 82), type := 4, pos := "keeps.go:70", after := #[{ on := 27, ground := Ground.data }, { on := 32, ground := Ground.data }], guard := none }) (v := ?v93) rfl (by kernel_rfl) (by kernel_rfl) (by kernel_rfl) (fun _ _ _ h => h) (Or.inl ⟨by rfl, ?hy93⟩) (by assumption) ?rest93
            case hy93 => (intro w1 hSw; (try dsimp only at hSw); obtain ⟨h0, h1, h2, h3, h4, -⟩ := hSw; go_simp; try with_reducible rfl)
            try simp only [Act.put, List.setIfInBounds_toArray, List.set_cons_zero, List.set_cons_succ]
            refine wpAnyH_done (by kernel_rfl) ?_ _
            go_wp2_with fail
            go_roundw
            case rel => exact ⟨k + 1, T', na, nl, a5, c5, by omega, by omega, by go_num, ⟨HN.out.2.1, q72, q73, q74, q75⟩⟩
            case measure => simp [RowKit.intOf]; omega
          · rw [ta, Bool.true_or] at hha
            rw [tc, Bool.true_or] at hcc
            obtain ⟨w76, hw77, hb78⟩ := drew_new w7
            have q79 := B7.later hb78
            have q80 := T7.later hb78
            have q81 := M7.later hb78
            have q82 := hb07.later hb78
            refine wp_region_held_drew (S := (fun w' => w'.cell? ⟨R, 0, none⟩ = some (.bool na) ∧ w'.cell? ⟨R, 1, none⟩ = some (.slice a5 nl.length c5) ∧ (Instr.lookup 56 (.map (some (R + 1))) (.string ⟨#[97]⟩) false).run Try.prog w' = .ok (.bool true) w' ∧ (Instr.lookup 56 (.map (some (R + 1))) (.string ⟨#[99]⟩) false).run Try.prog w' = .ok (.bool true) w' ∧ (Instr.lookup 56 (.map (some (R + 1))) (.string ⟨#[42]⟩) false).run Try.prog w' = .ok (.bool na) w' ∧ True)) (by kernel_rfl) (by rw [hw77]; exact ⟨q79.cell 0, q79.cell 1, q81.look' (s := [97]) (by decide) ta, q81.look' (s := [99]) (by decide) tc, q81.look' (s := [42]) (by decide) HN.out.2.2.2, trivial⟩) (fun hHeld => ?_)
            rw [hw77] at hHeld ⊢
            refine wpAnyH_take (i := 0) (oi := { dst := some 50, op := Op.fieldAddr 27 (Operand.tmp 4) 0, type := 0, pos := "keeps.go:70", after := #[], guard := none }) (v := ?v94) rfl (by kernel_rfl) (by kernel_rfl) (by kernel_rfl) (fun _ _ _ h => h) (Or.inl ⟨by rfl, ?hy94⟩) (by assumption) ?rest94
            case hy94 => (intro w1 hSw; (try dsimp only at hSw); obtain ⟨h0, h1, h2, h3, h4, -⟩ := hSw; go_simp; try with_reducible rfl)
            try simp only [Act.put, List.setIfInBounds_toArray, List.set_cons_zero, List.set_cons_succ]
            refine wpAnyH_take (i := 1) (oi := { dst := some 51, op := Op.load 4 (Operand.tmp 50), type := 4, pos := "keeps.go:70", after := #[{ on := 0, ground := Ground.data }], guard := none }) (v := ?v95) rfl (by kernel_rfl) (by kernel_rfl) (by kernel_rfl) (fun _ _ _ h => h) (Or.inl ⟨by rfl, ?hy95⟩) (by assumption) ?rest95
            case hy95 => (intro w1 hSw; (try dsimp only at hSw); obtain ⟨h0, h1, h2, h3, h4, -⟩ := hSw; go_simp; try with_reducible rfl)
            try simp only [Act.put, List.setIfInBounds_toArray, List.set_cons_zero, List.set_cons_succ]
            refine wpAnyH_take (i := 2) (oi := { dst := some 52, op := Op.move (Operand.tmp 5), type := 56, pos := "keeps.go:70", after := #[], guard := none }) (v := ?v96) rfl (by kernel_rfl) (by kernel_rfl) (by kernel_rfl) (fun _ _ _ h => h) (Or.inl ⟨by rfl, ?hy96⟩) (by assumption) ?rest96
            case hy96 => (intro w1 hSw; (try dsimp only at hSw); obtain ⟨h0, h1, h2, h3, h4, -⟩ := hSw; go_simp; try with_reducible rfl)
            try simp only [Act.put, List.setIfInBounds_toArray, List.set_cons_zero, List.set_cons_succ]
            refine wpAnyH_take (i := 3) (oi := { dst := some 53, op := Op.lookup 56 (Operand.tmp 52) (Operand.const (Value.string { data := #[42] })) false, type := 4, pos := "keeps.go:70", after := #[{ on := 2, ground := Ground.data }], guard := none }) (v := ?v97) rfl (by kernel_rfl) (by kernel_rfl) (by kernel_rfl) (fun _ _ _ h => h) (Or.inl ⟨by rfl, ?hy97⟩) (by assumption) ?rest97
            case hy97 => (intro w1 hSw; (try dsimp only at hSw); obtain ⟨h0, h1, h2, h3, h4, -⟩ := hSw; go_simp; try with_reducible rfl)
            try simp only [Act.put, List.setIfInBounds_toArray, List.set_cons_zero, List.set_cons_succ]
            refine wpAnyH_take (i := 4) (oi := { dst := some 54, op := Op.binOp BinOp.neq 4 (Operand.tmp 51) (Operand.tmp 53) 4, type := 4, pos := "keeps.go:70", after := #[{ on := 1, ground := Ground.data }, { on := 3, ground := Ground.data }], guard := none }) (v := ?v98) rfl (by kernel_rfl) (by kernel_rfl) (by kernel_rfl) (fun _ _ _ h => h) (Or.inl ⟨by rfl, ?hy98⟩) (by assumption) ?rest98
            case hy98 => (intro w1 hSw; (try dsimp only at hSw); obtain ⟨h0, h1, h2, h3, h4, -⟩ := hSw; go_simp; try with_reducible rfl)
            try simp only [Act.put, List.setIfInBounds_toArray, List.set_cons_zero, List.set_cons_succ]
            refine wpAnyH_take (i := 5) (oi := { dst := some 55, op := Op.move (Operand.tmp 54), type := 4, pos := "keeps.go:70", after := #[{ on := 4, ground := Ground.data }], guard := none }) (v := ?v99) rfl (by kernel_rfl) (by kernel_rfl) (by kernel_rfl) (fun _ _ _ h => h) (Or.inl ⟨by rfl, ?hy99⟩) (by assumption) ?rest99
            case hy99 => (intro w1 hSw; (try dsimp only at hSw); obtain ⟨h0, h1, h2, h3, h4, -⟩ := hSw; go_simp; try with_reducible rfl)
            try simp only [Act.put, List.setIfInBounds_toArray, List.set_cons_zero, List.set_cons_succ]
            refine wpAnyH_take (i := 6) (oi := { dst := some 56, op := Op.load 27 (Operand.tmp 4), type := 27, pos := "keeps.go:70", after := #[{ on := 5, ground := Ground.guard }], guard := some (5, false) }) (v := ?v100) rfl (by kernel_rfl) (by kernel_rfl) (by kernel_rfl) (fun _ _ _ h => h) (Or.inl ⟨by rfl, ?hy100⟩) (by assumption) ?rest100
            case hy100 => (intro w1 hSw; (try dsimp only at hSw); obtain ⟨h0, h1, h2, h3, h4, -⟩ := hSw; go_simp; try with_reducible rfl)
            try simp only [Act.put, List.setIfInBounds_toArray, List.set_cons_zero, List.set_cons_succ]
            refine wpAnyH_take (i := 8) (oi := { dst := some 58, op := Op.move (Operand.tmp 5), type := 56, pos := "keeps.go:70", after := #[{ on := 5, ground := Ground.guard }], guard := some (5, false) }) (v := ?v101) rfl (by kernel_rfl) (by kernel_rfl) (by kernel_rfl) (fun _ _ _ h => h) (Or.inl ⟨by rfl, ?hy101⟩) (by assumption) ?rest101
            case hy101 => (intro w1 hSw; (try dsimp only at hSw); obtain ⟨h0, h1, h2, h3, h4, -⟩ := hSw; go_simp; try with_reducible rfl)
            try simp only [Act.put, List.setIfInBounds_toArray, List.set_cons_zero, List.set_cons_succ]
            refine wpAnyH_take (i := 9) (oi := { dst := some 59, op := Op.lookup 56 (Operand.tmp 58) (Operand.const (Value.string { data := #[97] })) false, type := 4, pos := "keeps.go:70", after := #[{ on := 8, ground := Ground.data }, { on := 5, ground := Ground.guard }], guard := some (5, false) }) (v := ?v102) rfl (by kernel_rfl) (by kernel_rfl) (by kernel_rfl) (fun _ _ _ h => h) (Or.inl ⟨by rfl, ?hy102⟩) (by assumption) ?rest102
            case hy102 => (intro w1 hSw; (try dsimp only at hSw); obtain ⟨h0, h1, h2, h3, h4, -⟩ := hSw; go_simp; try with_reducible rfl)
            try simp only [Act.put, List.setIfInBounds_toArray, List.set_cons_zero, List.set_cons_succ]
            refine wpAnyH_ready (rs := [7]) (by kernel_rfl) (by simp) ?_
            refine AllReadyH.cons (o := { dst := some 57, op := Op.call { callee := Callee.value (Operand.func 17), args := #[Operand.tmp 56, Operand.const (Value.string { data := #[97] })], argTypes := #[27, 9] }, type := 4, pos := "keeps.go:70", after := #[{ on := 6, ground := Ground.data }, { on := 5, ground := Ground.chain }, { on := 5, ground := Ground.guard }], guard := some (5, false) }) rfl (fun K hK => ?_) AllReadyH.nil
            go_simp
            refine (has_any (sl := nl) q80 hha).mono ?_
            rintro e w83 ⟨rfl, hb84⟩
            have q85 := q79.later hb84
            have q86 := q80.later hb84
            have q87 := q81.later hb84
            have q88 := q82.later hb84
            refine hK.out _ _ (⟨q85.cell 0, q85.cell 1, q87.look' (s := [97]) (by decide) ta, q87.look' (s := [99]) (by decide) tc, q87.look' (s := [42]) (by decide) HN.out.2.2.2, trivial⟩) (fun hHeld => ?_)
            clear hK K
            try simp only [Act.put, List.setIfInBounds_toArray, List.set_cons_zero, List.set_cons_succ]
            refine wpAnyH_take (i := 10) (oi := { dst := some 60, op := Op.move (Operand.tmp 59), type := 4, pos := "keeps.go:70", after := #[{ on := 9, ground := Ground.data }, { on := 7, ground := Ground.chain }, { on := 5, ground := Ground.guard }], guard := some (5, false) }) (v := ?v103) rfl (by kernel_rfl) (by kernel_rfl) (by kernel_rfl) (fun _ _ _ h => h) (Or.inl ⟨by rfl, ?hy103⟩) (by assumption) ?rest103
            case hy103 => (intro w1 hSw; (try dsimp only at hSw); obtain ⟨h0, h1, h2, h3, h4, -⟩ := hSw; go_simp; try with_reducible rfl)
            try simp only [Act.put, List.setIfInBounds_toArray, List.set_cons_zero, List.set_cons_succ]
            refine wpAnyH_take (i := 11) (oi := { dst := some 61, op := Op.move (Operand.tmp 5), type := 56, pos := "keeps.go:70", after := #[{ on := 10, ground := Ground.guard }], guard := some (10, false) }) (v := undef) rfl (by kernel_rfl) (by kernel_rfl) (by kernel_rfl) (fun _ _ _ h => h) (Or.inr ⟨by rfl, rfl⟩) (by assumption) ?_
            try simp only [Act.put, List.setIfInBounds_toArray, List.set_cons_zero, List.set_cons_succ]
            refine wpAnyH_take (i := 12) (oi := { dst := some 62, op := Op.lookup 56 (Operand.tmp 61) (Operand.const (Value.string { data := #[42] })) false, type := 4, pos := "keeps.go:70", after := #[{ on := 11, ground := Ground.data }, { on := 10, ground := Ground.guard }], guard := some (10, false) }) (v := undef) rfl (by kernel_rfl) (by kernel_rfl) (by kernel_rfl) (fun _ _ _ h => h) (Or.inr ⟨by rfl, rfl⟩) (by assumption) ?_
            try simp only [Act.put, List.setIfInBounds_toArray, List.set_cons_zero, List.set_cons_succ]
            refine wpAnyH_take (i := 13) (oi := { dst := some 63, op := Op.pick (Operand.tmp 60) (Operand.const (Value.bool true)) (Operand.tmp 62), type := 4, pos := "keeps.go:70", after := #[{ on := 10, ground := Ground.data }, { on := 12, ground := Ground.data }, { on := 5, ground := Ground.guard }], guard := some (5, false) }) (v := ?v106) rfl (by kernel_rfl) (by kernel_rfl) (by kernel_rfl) (fun _ _ _ h => h) (Or.inl ⟨by rfl, ?hy106⟩) (by assumption) ?rest106
            case hy106 => (intro w1 hSw; (try dsimp only at hSw); obtain ⟨h0, h1, h2, h3, h4, -⟩ := hSw; go_simp; try with_reducible rfl)
            try simp only [Act.put, List.setIfInBounds_toArray, List.set_cons_zero, List.set_cons_succ]
            refine wpAnyH_take (i := 14) (oi := { dst := some 64, op := Op.binOp BinOp.neq 4 (Operand.tmp 57) (Operand.tmp 63) 4, type := 4, pos := "keeps.go:70", after := #[{ on := 7, ground := Ground.data }, { on := 13, ground := Ground.data }, { on := 5, ground := Ground.guard }], guard := some (5, false) }) (v := ?v107) rfl (by kernel_rfl) (by kernel_rfl) (by kernel_rfl) (fun _ _ _ h => h) (Or.inl ⟨by rfl, ?hy107⟩) (by assumption) ?rest107
            case hy107 => (intro w1 hSw; (try dsimp only at hSw); obtain ⟨h0, h1, h2, h3, h4, -⟩ := hSw; go_simp; try with_reducible rfl)
            try simp only [Act.put, List.setIfInBounds_toArray, List.set_cons_zero, List.set_cons_succ]
            refine wpAnyH_take (i := 15) (oi := { dst := some 65, op := Op.pick (Operand.tmp 55) (Operand.const (Value.bool true)) (Operand.tmp 64), type := 4, pos := "keeps.go:70", after := #[{ on := 5, ground := Ground.data }, { on := 14, ground := Ground.data }], guard := none }) (v := ?v108) rfl (by kernel_rfl) (by kernel_rfl) (by kernel_rfl) (fun _ _ _ h => h) (Or.inl ⟨by rfl, ?hy108⟩) (by assumption) ?rest108
            case hy108 => (intro w1 hSw; (try dsimp only at hSw); obtain ⟨h0, h1, h2, h3, h4, -⟩ := hSw; go_simp; try with_reducible rfl)
            try simp only [Act.put, List.setIfInBounds_toArray, List.set_cons_zero, List.set_cons_succ]
            refine wpAnyH_take (i := 16) (oi := { dst := some 66, op := Op.move (Operand.tmp 65), type := 4, pos := "keeps.go:70", after := #[{ on := 15, ground := Ground.data }, { on := 10, ground := Ground.chain }], guard := none }) (v := ?v109) rfl (by kernel_rfl) (by kernel_rfl) (by kernel_rfl) (fun _ _ _ h => h) (Or.inl ⟨by rfl, ?hy109⟩) (by assumption) ?rest109
            case hy109 => (intro w1 hSw; (try dsimp only at hSw); obtain ⟨h0, h1, h2, h3, h4, -⟩ := hSw; go_simp; try with_reducible rfl)
            try simp only [Act.put, List.setIfInBounds_toArray, List.set_cons_zero, List.set_cons_succ]
            refine wpAnyH_take (i := 17) (oi := { dst := some 67, op := Op.load 27 (Operand.tmp 4), type := 27, pos := "keeps.go:70", after := #[{ on := 16, ground := Ground.guard }], guard := some (16, false) }) (v := ?v110) rfl (by kernel_rfl) (by kernel_rfl) (by kernel_rfl) (fun _ _ _ h => h) (Or.inl ⟨by rfl, ?hy110⟩) (by assumption) ?rest110
            case hy110 => (intro w1 hSw; (try dsimp only at hSw); obtain ⟨h0, h1, h2, h3, h4, -⟩ := hSw; go_simp; try with_reducible rfl)
            try simp only [Act.put, List.setIfInBounds_toArray, List.set_cons_zero, List.set_cons_succ]
            refine wpAnyH_take (i := 19) (oi := { dst := some 69, op := Op.move (Operand.tmp 5), type := 56, pos := "keeps.go:70", after := #[{ on := 16, ground := Ground.guard }], guard := some (16, false) }) (v := ?v111) rfl (by kernel_rfl) (by kernel_rfl) (by kernel_rfl) (fun _ _ _ h => h) (Or.inl ⟨by rfl, ?hy111⟩) (by assumption) ?rest111
            case hy111 => (intro w1 hSw; (try dsimp only at hSw); obtain ⟨h0, h1, h2, h3, h4, -⟩ := hSw; go_simp; try with_reducible rfl)
            try simp only [Act.put, List.setIfInBounds_toArray, List.set_cons_zero, List.set_cons_succ]
            refine wpAnyH_take (i := 20) (oi := { dst := some 70, op := Op.lookup 56 (Operand.tmp 69) (Operand.const (Value.string { data := #[99] })) false, type := 4, pos := "keeps.go:70", after := #[{ on := 19, ground := Ground.data }, { on := 16, ground := Ground.guard }], guard := some (16, false) }) (v := ?v112) rfl (by kernel_rfl) (by kernel_rfl) (by kernel_rfl) (fun _ _ _ h => h) (Or.inl ⟨by rfl, ?hy112⟩) (by assumption) ?rest112
            case hy112 => (intro w1 hSw; (try dsimp only at hSw); obtain ⟨h0, h1, h2, h3, h4, -⟩ := hSw; go_simp; try with_reducible rfl)
            try simp only [Act.put, List.setIfInBounds_toArray, List.set_cons_zero, List.set_cons_succ]
            refine wpAnyH_ready (rs := [18]) (by kernel_rfl) (by simp) ?_
            refine AllReadyH.cons (o := { dst := some 68, op := Op.call { callee := Callee.value (Operand.func 17), args := #[Operand.tmp 67, Operand.const (Value.string { data := #[99] })], argTypes := #[27, 9] }, type := 4, pos := "keeps.go:70", after := #[{ on := 17, ground := Ground.data }, { on := 16, ground := Ground.chain }, { on := 16, ground := Ground.guard }], guard := some (16, false) }) rfl (fun K hK => ?_) AllReadyH.nil
            go_simp
            refine (has_any (sl := nl) q86 hcc).mono ?_
            rintro e w89 ⟨rfl, hb90⟩
            have q91 := q85.later hb90
            have q92 := q86.later hb90
            have q93 := q87.later hb90
            have q94 := q88.later hb90
            refine hK.out _ _ (⟨q91.cell 0, q91.cell 1, q93.look' (s := [97]) (by decide) ta, q93.look' (s := [99]) (by decide) tc, q93.look' (s := [42]) (by decide) HN.out.2.2.2, trivial⟩) (fun hHeld => ?_)
            clear hK K
            try simp only [Act.put, List.setIfInBounds_toArray, List.set_cons_zero, List.set_cons_succ]
            refine wpAnyH_take (i := 21) (oi := { dst := some 71, op := Op.move (Operand.tmp 70), type := 4, pos := "keeps.go:70", after := #[{ on := 20, ground := Ground.data }, { on := 18, ground := Ground.chain }, { on := 16, ground := Ground.guard }], guard := some (16, false) }) (v := ?v113) rfl (by kernel_rfl) (by kernel_rfl) (by kernel_rfl) (fun _ _ _ h => h) (Or.inl ⟨by rfl, ?hy113⟩) (by assumption) ?rest113
            case hy113 => (intro w1 hSw; (try dsimp only at hSw); obtain ⟨h0, h1, h2, h3, h4, -⟩ := hSw; go_simp; try with_reducible rfl)
            try simp only [Act.put, List.setIfInBounds_toArray, List.set_cons_zero, List.set_cons_succ]
            refine wpAnyH_take (i := 22) (oi := { dst := some 72, op := Op.move (Operand.tmp 5), type := 56, pos := "keeps.go:70", after := #[{ on := 21, ground := Ground.guard }], guard := some (21, false) }) (v := undef) rfl (by kernel_rfl) (by kernel_rfl) (by kernel_rfl) (fun _ _ _ h => h) (Or.inr ⟨by rfl, rfl⟩) (by assumption) ?_
            try simp only [Act.put, List.setIfInBounds_toArray, List.set_cons_zero, List.set_cons_succ]
            refine wpAnyH_take (i := 23) (oi := { dst := some 73, op := Op.lookup 56 (Operand.tmp 72) (Operand.const (Value.string { data := #[42] })) false, type := 4, pos := "keeps.go:70", after := #[{ on := 22, ground := Ground.data }, { on := 21, ground := Ground.guard }], guard := some (21, false) }) (v := undef) rfl (by kernel_rfl) (by kernel_rfl) (by kernel_rfl) (fun _ _ _ h => h) (Or.inr ⟨by rfl, rfl⟩) (by assumption) ?_
            try simp only [Act.put, List.setIfInBounds_toArray, List.set_cons_zero, List.set_cons_succ]
            refine wpAnyH_take (i := 24) (oi := { dst := some 74, op := Op.pick (Operand.tmp 71) (Operand.const (Value.bool true)) (Operand.tmp 73), type := 4, pos := "keeps.go:70", after := #[{ on := 21, ground := Ground.data }, { on := 23, ground := Ground.data }, { on := 16, ground := Ground.guard }], guard := some (16, false) }) (v := ?v116) rfl (by kernel_rfl) (by kernel_rfl) (by kernel_rfl) (fun _ _ _ h => h) (Or.inl ⟨by rfl, ?hy116⟩) (by assumption) ?rest116
            case hy116 => (intro w1 hSw; (try dsimp only at hSw); obtain ⟨h0, h1, h2, h3, h4, -⟩ := hSw; go_simp; try with_reducible rfl)
            try simp only [Act.put, List.setIfInBounds_toArray, List.set_cons_zero, List.set_cons_succ]
            refine wpAnyH_take (i := 25) (oi := { dst := some 75, op := Op.binOp BinOp.neq 4 (Operand.tmp 68) (Operand.tmp 74) 4, type := 4, pos := "keeps.go:70", after := #[{ on := 18, ground := Ground.data }, { on := 24, ground := Ground.data }, { on := 16, ground := Ground.guard }], guard := some (16, false) }) (v := ?v117) rfl (by kernel_rfl) (by kernel_rfl) (by kernel_rfl) (fun _ _ _ h => h) (Or.inl ⟨by rfl, ?hy117⟩) (by assumption) ?rest117
            case hy117 => (intro w1 hSw; (try dsimp only at hSw); obtain ⟨h0, h1, h2, h3, h4, -⟩ := hSw; go_simp; try with_reducible rfl)
            try simp only [Act.put, List.setIfInBounds_toArray, List.set_cons_zero, List.set_cons_succ]
            refine wpAnyH_take (i := 26) (oi := { dst := some 76, op := Op.pick (Operand.tmp 66) (Operand.const (Value.bool true)) (Operand.tmp 75), type := 4, pos := "keeps.go:70", after := #[{ on := 16, ground := Ground.data }, { on := 25, ground := Ground.data }], guard := none }) (v := ?v118) rfl (by kernel_rfl) (by kernel_rfl) (by kernel_rfl) (fun _ _ _ h => h) (Or.inl ⟨by rfl, ?hy118⟩) (by assumption) ?rest118
            case hy118 => (intro w1 hSw; (try dsimp only at hSw); obtain ⟨h0, h1, h2, h3, h4, -⟩ := hSw; go_simp; try with_reducible rfl)
            try simp only [Act.put, List.setIfInBounds_toArray, List.set_cons_zero, List.set_cons_succ]
            refine wpAnyH_take (i := 27) (oi := { dst := some 77, op := Op.move (Operand.tmp 76), type := 4, pos := "keeps.go:70", after := #[{ on := 26, ground := Ground.data }, { on := 21, ground := Ground.chain }], guard := none }) (v := ?v119) rfl (by kernel_rfl) (by kernel_rfl) (by kernel_rfl) (fun _ _ _ h => h) (Or.inl ⟨by rfl, ?hy119⟩) (by assumption) ?rest119
            case hy119 => (intro w1 hSw; (try dsimp only at hSw); obtain ⟨h0, h1, h2, h3, h4, -⟩ := hSw; go_simp; try with_reducible rfl)
            try simp only [Act.put, List.setIfInBounds_toArray, List.set_cons_zero, List.set_cons_succ]
            refine wpAnyH_take (i := 28) (oi := { dst := some 78, op := Op.load 27 (Operand.tmp 4), type := 27, pos := "keeps.go:70", after := #[{ on := 27, ground := Ground.guard }], guard := some (27, false) }) (v := ?v120) rfl (by kernel_rfl) (by kernel_rfl) (by kernel_rfl) (fun _ _ _ h => h) (Or.inl ⟨by rfl, ?hy120⟩) (by assumption) ?rest120
            case hy120 => (intro w1 hSw; (try dsimp only at hSw); obtain ⟨h0, h1, h2, h3, h4, -⟩ := hSw; go_simp; try with_reducible rfl)
            try simp only [Act.put, List.setIfInBounds_toArray, List.set_cons_zero, List.set_cons_succ]
            refine wpAnyH_take (i := 30) (oi := { dst := some 80, op := Op.move (Operand.tmp 5), type := 56, pos := "keeps.go:70", after := #[{ on := 27, ground := Ground.guard }], guard := some (27, false) }) (v := ?v121) rfl (by kernel_rfl) (by kernel_rfl) (by kernel_rfl) (fun _ _ _ h => h) (Or.inl ⟨by rfl, ?hy121⟩) (by assumption) ?rest121
            case hy121 => (intro w1 hSw; (try dsimp only at hSw); obtain ⟨h0, h1, h2, h3, h4, -⟩ := hSw; go_simp; try with_reducible rfl)
            try simp only [Act.put, List.setIfInBounds_toArray, List.set_cons_zero, List.set_cons_succ]
            refine wpAnyH_take (i := 31) (oi := { dst := some 81, op := Op.lookup 56 (Operand.tmp 80) (Operand.const (Value.string { data := #[42] })) false, type := 4, pos := "keeps.go:70", after := #[{ on := 30, ground := Ground.data }, { on := 27, ground := Ground.guard }], guard := some (27, false) }) (v := ?v122) rfl (by kernel_rfl) (by kernel_rfl) (by kernel_rfl) (fun _ _ _ h => h) (Or.inl ⟨by rfl, ?hy122⟩) (by assumption) ?rest122
            case hy122 => (intro w1 hSw; (try dsimp only at hSw); obtain ⟨h0, h1, h2, h3, h4, -⟩ := hSw; go_simp; try with_reducible rfl)
            try simp only [Act.put, List.setIfInBounds_toArray, List.set_cons_zero, List.set_cons_succ]
            refine wpAnyH_ready (rs := [29]) (by kernel_rfl) (by simp) ?_
            refine AllReadyH.cons (o := { dst := some 79, op := Op.call { callee := Callee.value (Operand.func 17), args := #[Operand.tmp 78, Operand.const (Value.string { data := #[122, 122] })], argTypes := #[27, 9] }, type := 4, pos := "keeps.go:70", after := #[{ on := 28, ground := Ground.data }, { on := 27, ground := Ground.chain }, { on := 27, ground := Ground.guard }], guard := some (27, false) }) rfl (fun K hK => ?_) AllReadyH.nil
            go_simp
            refine (has_any (sl := nl) q92 hzz).mono ?_
            rintro e w95 ⟨rfl, hb96⟩
            have q97 := q91.later hb96
            have q98 := q92.later hb96
            have q99 := q93.later hb96
            have q100 := q94.later hb96
            refine hK.out _ _ (⟨q97.cell 0, q97.cell 1, q99.look' (s := [97]) (by decide) ta, q99.look' (s := [99]) (by decide) tc, q99.look' (s := [42]) (by decide) HN.out.2.2.2, trivial⟩) (fun hHeld => ?_)
            clear hK K
            try simp only [Act.put, List.setIfInBounds_toArray, List.set_cons_zero, List.set_cons_succ]
            refine wpAnyH_take (i := 32) (oi := { dst := some 82, op := Op.binOp BinOp.neq 4 (Operand.tmp 79) (Operand.tmp 81) 4, type := 4, pos := "keeps.go:70", after := #[{ on := 29, ground := Ground.data }, { on := 31, ground := Ground.data }, { on := 27, ground := Ground.guard }], guard := some (27, false) }) (v := ?v123) rfl (by kernel_rfl) (by kernel_rfl) (by kernel_rfl) (fun _ _ _ h => h) (Or.inl ⟨by rfl, ?hy123⟩) (by assumption) ?rest123
            case hy123 => (intro w1 hSw; (try dsimp only at hSw); obtain ⟨h0, h1, h2, h3, h4, -⟩ := hSw; go_simp; try with_reducible rfl)
            try simp only [Act.put, List.setIfInBounds_toArray, List.set_cons_zero, List.set_cons_succ]
            refine wpAnyH_take (i := 33) (oi := { dst := some 83, op := Op.pick (Operand.tmp 77) (Operand.const (Value.bool true)) (Operand.tmp 82), type := 4, pos := "keeps.go:70", after := #[{ on := 27, ground := Ground.data }, { on := 32, ground := Ground.data }], guard := none }) (v := ?v124) rfl (by kernel_rfl) (by kernel_rfl) (by kernel_rfl) (fun _ _ _ h => h) (Or.inl ⟨by rfl, ?hy124⟩) (by assumption) ?rest124
            case hy124 => (intro w1 hSw; (try dsimp only at hSw); obtain ⟨h0, h1, h2, h3, h4, -⟩ := hSw; go_simp; try with_reducible rfl)
            try simp only [Act.put, List.setIfInBounds_toArray, List.set_cons_zero, List.set_cons_succ]
            refine wpAnyH_done (by kernel_rfl) ?_ _
            go_wp2_with fail
            go_roundw
            case rel => exact ⟨k + 1, T', na, nl, a5, c5, by omega, by omega, by go_num, ⟨HN.out.2.1, q97, q98, q99, q100⟩⟩
            case measure => simp [RowKit.intOf]; omega
      · have h128 : ¬ (128 : Int) ≤ (b : Int) := by omega
        obtain ⟨T', hT'⟩ : ∃ T', updT T x false = T' := ⟨_, rfl⟩
        obtain ⟨na, nl, hn⟩ : ∃ na nl, cS T' = ⟨na, nl⟩ := ⟨_, _, rfl⟩
        have hadd := cs_drop T HX.out.1
        rw [hT', hn, HD.out.set] at hadd
        have hna : T' [42] = na := congrArg Ns.all hn
        have HN := Lib.hid (And.intro hadd (And.intro hn (And.intro hT' hna)))
        clear hadd hn hT' hna
        go_wp2_with fail
        refine (drop_any HF4.out.1 HF4.out.2.1 ⟨HX.out.2.1, one_fit HX.out.1, by have := HX.out.2.2.1; show (sl.length + 1) * 16 ≤ _; omega⟩ HN.out.1).mono ?_
        rintro e w5 ⟨a5, c5, rfl, t5, hb5⟩
        have B5 := HF4.out.2.2.1.later hb5
        have M5 := HF4.out.2.2.2.1.later hb5
        have hb05 : Below w.heap.size w w5 := HF4.out.2.2.2.2.trans (hb5.mono HF4.out.2.2.2.2.size)
        have r0 := B5.cell 0
        have r1 := B5.cell 1
        have f0 := B5.frozen 0
        have f1 := B5.frozen 1
        simp only [List.getElem?_toArray, List.getElem?_cons_zero, List.getElem?_cons_succ] at r0 r1
        obtain ⟨w6, hw6⟩ : ∃ w6, (w5.setCell ⟨R, 0, none⟩ (.bool na)).setCell ⟨R, 1, none⟩ (.slice a5 nl.length c5) = w6 := ⟨_, rfl⟩
        have B6 : Blk w6 R #[.bool na, .slice a5 nl.length c5] 27 := by rw [← hw6]; exact (B5.set 0 _).set 1 _
        have T6 : TsAt w6 (.slice a5 nl.length c5) nl := by rw [← hw6]; exact t5.set2 _ _ r0 r1
        have M6 : MapAt w6 (R + 1) T := by rw [← hw6]; exact map_set M5 (by omega) _ _
        have hb06 : Below w.heap.size w w6 := by rw [← hw6]; exact below_set2 hb05 hRm _ _
        obtain ⟨w7, hu7, M7, hg7⟩ := M6.upd x (by have := HX.out.2.2.2; unfold maxLen; omega) false
        have T7 := T6.grown_map M6 hg7
        have B7 := B6.kept hg7 (by simp)
        have hb07 : Base w w7 := hb06.grown hg7 hb06.size (fun j hj => by cases hj; omega)
        rw [HN.out.2.2.1] at M7
        clear B5 M5 hb05 B6 T6 M6 hb06 hg7 t5 hb5
        go_wp2_with fail
        have hha := cs_has (T := T') (n := [97]) (by unfold tab3; decide)
        have hcc := cs_has (T := T') (n := [99]) (by unfold tab3; decide)
        have hzz := cs_zz (T := T')
        rw [HN.out.2.1, HN.out.2.2.2] at hha hcc
        rw [HN.out.2.1, HN.out.2.2.2] at hzz
        clear hw3 hw4 hw6 hu7 c0 c1' d3 l3 h128 hm hm' k0 k1 r0 r1 f0 f1
        cases ta : T' [97]
        · cases tc : T' [99]
          · rw [ta, Bool.false_or] at hha
            rw [tc, Bool.false_or] at hcc
            obtain ⟨w101, hw102, hb103⟩ := drew_new w7
            have q104 := B7.later hb103
            have q105 := T7.later hb103
            have q106 := M7.later hb103
            have q107 := hb07.later hb103
            refine wp_region_held_drew (S := (fun w' => w'.cell? ⟨R, 0, none⟩ = some (.bool na) ∧ w'.cell? ⟨R, 1, none⟩ = some (.slice a5 nl.length c5) ∧ (Instr.lookup 56 (.map (some (R + 1))) (.string ⟨#[97]⟩) false).run Try.prog w' = .ok (.bool false) w' ∧ (Instr.lookup 56 (.map (some (R + 1))) (.string ⟨#[99]⟩) false).run Try.prog w' = .ok (.bool false) w' ∧ (Instr.lookup 56 (.map (some (R + 1))) (.string ⟨#[42]⟩) false).run Try.prog w' = .ok (.bool na) w' ∧ True)) (by kernel_rfl) (by rw [hw102]; exact ⟨q104.cell 0, q104.cell 1, q106.look' (s := [97]) (by decide) ta, q106.look' (s := [99]) (by decide) tc, q106.look' (s := [42]) (by decide) HN.out.2.2.2, trivial⟩) (fun hHeld => ?_)
            rw [hw102] at hHeld ⊢
            refine wpAnyH_take (i := 0) (oi := { dst := some 50, op := Op.fieldAddr 27 (Operand.tmp 4) 0, type := 0, pos := "keeps.go:70", after := #[], guard := none }) (v := ?v125) rfl (by kernel_rfl) (by kernel_rfl) (by kernel_rfl) (fun _ _ _ h => h) (Or.inl ⟨by rfl, ?hy125⟩) (by assumption) ?rest125
            case hy125 => (intro w1 hSw; (try dsimp only at hSw); obtain ⟨h0, h1, h2, h3, h4, -⟩ := hSw; go_simp; try with_reducible rfl)
            try simp only [Act.put, List.setIfInBounds_toArray, List.set_cons_zero, List.set_cons_succ]
            refine wpAnyH_take (i := 1) (oi := { dst := some 51, op := Op.load 4 (Operand.tmp 50), type := 4, pos := "keeps.go:70", after := #[{ on := 0, ground := Ground.data }], guard := none }) (v := ?v126) rfl (by kernel_rfl) (by kernel_rfl) (by kernel_rfl) (fun _ _ _ h => h) (Or.inl ⟨by rfl, ?hy126⟩) (by assumption) ?rest126
            case hy126 => (intro w1 hSw; (try dsimp only at hSw); obtain ⟨h0, h1, h2, h3, h4, -⟩ := hSw; go_simp; try with_reducible rfl)
            try simp only [Act.put, List.setIfInBounds_toArray, List.set_cons_zero, List.set_cons_succ]
            refine wpAnyH_take (i := 2) (oi := { dst := some 52, op := Op.move (Operand.tmp 5), type := 56, pos := "keeps.go:70", after := #[], guard := none }) (v := ?v127) rfl (by kernel_rfl) (by kernel_rfl) (by kernel_rfl) (fun _ _ _ h => h) (Or.inl ⟨by rfl, ?hy127⟩) (by assumption) ?rest127
            case hy127 => (intro w1 hSw; (try dsimp only at hSw); obtain ⟨h0, h1, h2, h3, h4, -⟩ := hSw; go_simp; try with_reducible rfl)
            try simp only [Act.put, List.setIfInBounds_toArray, List.set_cons_zero, List.set_cons_succ]
            refine wpAnyH_take (i := 3) (oi := { dst := some 53, op := Op.lookup 56 (Operand.tmp 52) (Operand.const (Value.string { data := #[42] })) false, type := 4, pos := "keeps.go:70", after := #[{ on := 2, ground := Ground.data }], guard := none }) (v := ?v128) rfl (by kernel_rfl) (by kernel_rfl) (by kernel_rfl) (fun _ _ _ h => h) (Or.inl ⟨by rfl, ?hy128⟩) (by assumption) ?rest128
            case hy128 => (intro w1 hSw; (try dsimp only at hSw); obtain ⟨h0, h1, h2, h3, h4, -⟩ := hSw; go_simp; try with_reducible rfl)
            try simp only [Act.put, List.setIfInBounds_toArray, List.set_cons_zero, List.set_cons_succ]
            refine wpAnyH_take (i := 4) (oi := { dst := some 54, op := Op.binOp BinOp.neq 4 (Operand.tmp 51) (Operand.tmp 53) 4, type := 4, pos := "keeps.go:70", after := #[{ on := 1, ground := Ground.data }, { on := 3, ground := Ground.data }], guard := none }) (v := ?v129) rfl (by kernel_rfl) (by kernel_rfl) (by kernel_rfl) (fun _ _ _ h => h) (Or.inl ⟨by rfl, ?hy129⟩) (by assumption) ?rest129
            case hy129 => (intro w1 hSw; (try dsimp only at hSw); obtain ⟨h0, h1, h2, h3, h4, -⟩ := hSw; go_simp; try with_reducible rfl)
            try simp only [Act.put, List.setIfInBounds_toArray, List.set_cons_zero, List.set_cons_succ]
            refine wpAnyH_take (i := 5) (oi := { dst := some 55, op := Op.move (Operand.tmp 54), type := 4, pos := "keeps.go:70", after := #[{ on := 4, ground := Ground.data }], guard := none }) (v := ?v130) rfl (by kernel_rfl) (by kernel_rfl) (by kernel_rfl) (fun _ _ _ h => h) (Or.inl ⟨by rfl, ?hy130⟩) (by assumption) ?rest130
            case hy130 => (intro w1 hSw; (try dsimp only at hSw); obtain ⟨h0, h1, h2, h3, h4, -⟩ := hSw; go_simp; try with_reducible rfl)
            try simp only [Act.put, List.setIfInBounds_toArray, List.set_cons_zero, List.set_cons_succ]
            refine wpAnyH_take (i := 6) (oi := { dst := some 56, op := Op.load 27 (Operand.tmp 4), type := 27, pos := "keeps.go:70", after := #[{ on := 5, ground := Ground.guard }], guard := some (5, false) }) (v := ?v131) rfl (by kernel_rfl) (by kernel_rfl) (by kernel_rfl) (fun _ _ _ h => h) (Or.inl ⟨by rfl, ?hy131⟩) (by assumption) ?rest131
            case hy131 => (intro w1 hSw; (try dsimp only at hSw); obtain ⟨h0, h1, h2, h3, h4, -⟩ := hSw; go_simp; try with_reducible rfl)
            try simp only [Act.put, List.setIfInBounds_toArray, List.set_cons_zero, List.set_cons_succ]
            refine wpAnyH_take (i := 8) (oi := { dst := some 58, op := Op.move (Operand.tmp 5), type := 56, pos := "keeps.go:70", after := #[{ on := 5, ground := Ground.guard }], guard := some (5, false) }) (v := ?v132) rfl (by kernel_rfl) (by kernel_rfl) (by kernel_rfl) (fun _ _ _ h => h) (Or.inl ⟨by rfl, ?hy132⟩) (by assumption) ?rest132
            case hy132 => (intro w1 hSw; (try dsimp only at hSw); obtain ⟨h0, h1, h2, h3, h4, -⟩ := hSw; go_simp; try with_reducible rfl)
            try simp only [Act.put, List.setIfInBounds_toArray, List.set_cons_zero, List.set_cons_succ]
            refine wpAnyH_take (i := 9) (oi := { dst := some 59, op := Op.lookup 56 (Operand.tmp 58) (Operand.const (Value.string { data := #[97] })) false, type := 4, pos := "keeps.go:70", after := #[{ on := 8, ground := Ground.data }, { on := 5, ground := Ground.guard }], guard := some (5, false) }) (v := ?v133) rfl (by kernel_rfl) (by kernel_rfl) (by kernel_rfl) (fun _ _ _ h => h) (Or.inl ⟨by rfl, ?hy133⟩) (by assumption) ?rest133
            case hy133 => (intro w1 hSw; (try dsimp only at hSw); obtain ⟨h0, h1, h2, h3, h4, -⟩ := hSw; go_simp; try with_reducible rfl)
            try simp only [Act.put, List.setIfInBounds_toArray, List.set_cons_zero, List.set_cons_succ]
            refine wpAnyH_ready (rs := [7]) (by kernel_rfl) (by simp) ?_
            refine AllReadyH.cons (o := { dst := some 57, op := Op.call { callee := Callee.value (Operand.func 17), args := #[Operand.tmp 56, Operand.const (Value.string { data := #[97] })], argTypes := #[27, 9] }, type := 4, pos := "keeps.go:70", after := #[{ on := 6, ground := Ground.data }, { on := 5, ground := Ground.chain }, { on := 5, ground := Ground.guard }], guard := some (5, false) }) rfl (fun K hK => ?_) AllReadyH.nil
            go_simp
            refine (has_any (sl := nl) q105 hha).mono ?_
            rintro e w108 ⟨rfl, hb109⟩
            have q110 := q104.later hb109
            have q111 := q105.later hb109
            have q112 := q106.later hb109
            have q113 := q107.later hb109
            refine hK.out _ _ (⟨q110.cell 0, q110.cell 1, q112.look' (s := [97]) (by decide) ta, q112.look' (s := [99]) (by decide) tc, q112.look' (s := [42]) (by decide) HN.out.2.2.2, trivial⟩) (fun hHeld => ?_)
            clear hK K
            try simp only [Act.put, List.setIfInBounds_toArray, List.set_cons_zero, List.set_cons_succ]
            refine wpAnyH_take (i := 10) (oi := { dst := some 60, op := Op.move (Operand.tmp 59), type := 4, pos := "keeps.go:70", after := #[{ on := 9, ground := Ground.data }, { on := 7, ground := Ground.chain }, { on := 5, ground := Ground.guard }], guard := some (5, false) }) (v := ?v134) rfl (by kernel_rfl) (by kernel_rfl) (by kernel_rfl) (fun _ _ _ h => h) (Or.inl ⟨by rfl, ?hy134⟩) (by assumption) ?rest134
            case hy134 => (intro w1 hSw; (try dsimp only at hSw); obtain ⟨h0, h1, h2, h3, h4, -⟩ := hSw; go_simp; try with_reducible rfl)
            try simp only [Act.put, List.setIfInBounds_toArray, List.set_cons_zero, List.set_cons_succ]
            refine wpAnyH_take (i := 11) (oi := { dst := some 61, op := Op.move (Operand.tmp 5), type := 56, pos := "keeps.go:70", after := #[{ on := 10, ground := Ground.guard }], guard := some (10, false) }) (v := ?v135) rfl (by kernel_rfl) (by kernel_rfl) (by kernel_rfl) (fun _ _ _ h => h) (Or.inl ⟨by rfl, ?hy135⟩) (by assumption) ?rest135
            case hy135 => (intro w1 hSw; (try dsimp only at hSw); obtain ⟨h0, h1, h2, h3, h4, -⟩ := hSw; go_simp; try with_reducible rfl)
            try simp only [Act.put, List.setIfInBounds_toArray, List.set_cons_zero, List.set_cons_succ]
            refine wpAnyH_take (i := 12) (oi := { dst := some 62, op := Op.lookup 56 (Operand.tmp 61) (Operand.const (Value.string { data := #[42] })) false, type := 4, pos := "keeps.go:70", after := #[{ on := 11, ground := Ground.data }, { on := 10, ground := Ground.guard }], guard := some (10, false) }) (v := ?v136) rfl (by kernel_rfl) (by kernel_rfl) (by kernel_rfl) (fun _ _ _ h => h) (Or.inl ⟨by rfl, ?hy136⟩) (by assumption) ?rest136
            case hy136 => (intro w1 hSw; (try dsimp only at hSw); obtain ⟨h0, h1, h2, h3, h4, -⟩ := hSw; go_simp; try with_reducible rfl)
            try simp only [Act.put, List.setIfInBounds_toArray, List.set_cons_zero, List.set_cons_succ]
            refine wpAnyH_take (i := 13) (oi := { dst := some 63, op := Op.pick (Operand.tmp 60) (Operand.const (Value.bool true)) (Operand.tmp 62), type := 4, pos := "keeps.go:70", after := #[{ on := 10, ground := Ground.data }, { on := 12, ground := Ground.data }, { on := 5, ground := Ground.guard }], guard := some (5, false) }) (v := ?v137) rfl (by kernel_rfl) (by kernel_rfl) (by kernel_rfl) (fun _ _ _ h => h) (Or.inl ⟨by rfl, ?hy137⟩) (by assumption) ?rest137
            case hy137 => (intro w1 hSw; (try dsimp only at hSw); obtain ⟨h0, h1, h2, h3, h4, -⟩ := hSw; go_simp; try with_reducible rfl)
            try simp only [Act.put, List.setIfInBounds_toArray, List.set_cons_zero, List.set_cons_succ]
            refine wpAnyH_take (i := 14) (oi := { dst := some 64, op := Op.binOp BinOp.neq 4 (Operand.tmp 57) (Operand.tmp 63) 4, type := 4, pos := "keeps.go:70", after := #[{ on := 7, ground := Ground.data }, { on := 13, ground := Ground.data }, { on := 5, ground := Ground.guard }], guard := some (5, false) }) (v := ?v138) rfl (by kernel_rfl) (by kernel_rfl) (by kernel_rfl) (fun _ _ _ h => h) (Or.inl ⟨by rfl, ?hy138⟩) (by assumption) ?rest138
            case hy138 => (intro w1 hSw; (try dsimp only at hSw); obtain ⟨h0, h1, h2, h3, h4, -⟩ := hSw; go_simp; try with_reducible rfl)
            try simp only [Act.put, List.setIfInBounds_toArray, List.set_cons_zero, List.set_cons_succ]
            refine wpAnyH_take (i := 15) (oi := { dst := some 65, op := Op.pick (Operand.tmp 55) (Operand.const (Value.bool true)) (Operand.tmp 64), type := 4, pos := "keeps.go:70", after := #[{ on := 5, ground := Ground.data }, { on := 14, ground := Ground.data }], guard := none }) (v := ?v139) rfl (by kernel_rfl) (by kernel_rfl) (by kernel_rfl) (fun _ _ _ h => h) (Or.inl ⟨by rfl, ?hy139⟩) (by assumption) ?rest139
            case hy139 => (intro w1 hSw; (try dsimp only at hSw); obtain ⟨h0, h1, h2, h3, h4, -⟩ := hSw; go_simp; try with_reducible rfl)
            try simp only [Act.put, List.setIfInBounds_toArray, List.set_cons_zero, List.set_cons_succ]
            refine wpAnyH_take (i := 16) (oi := { dst := some 66, op := Op.move (Operand.tmp 65), type := 4, pos := "keeps.go:70", after := #[{ on := 15, ground := Ground.data }, { on := 10, ground := Ground.chain }], guard := none }) (v := ?v140) rfl (by kernel_rfl) (by kernel_rfl) (by kernel_rfl) (fun _ _ _ h => h) (Or.inl ⟨by rfl, ?hy140⟩) (by assumption) ?rest140
            case hy140 => (intro w1 hSw; (try dsimp only at hSw); obtain ⟨h0, h1, h2, h3, h4, -⟩ := hSw; go_simp; try with_reducible rfl)
            try simp only [Act.put, List.setIfInBounds_toArray, List.set_cons_zero, List.set_cons_succ]
            refine wpAnyH_take (i := 17) (oi := { dst := some 67, op := Op.load 27 (Operand.tmp 4), type := 27, pos := "keeps.go:70", after := #[{ on := 16, ground := Ground.guard }], guard := some (16, false) }) (v := ?v141) rfl (by kernel_rfl) (by kernel_rfl) (by kernel_rfl) (fun _ _ _ h => h) (Or.inl ⟨by rfl, ?hy141⟩) (by assumption) ?rest141
            case hy141 => (intro w1 hSw; (try dsimp only at hSw); obtain ⟨h0, h1, h2, h3, h4, -⟩ := hSw; go_simp; try with_reducible rfl)
            try simp only [Act.put, List.setIfInBounds_toArray, List.set_cons_zero, List.set_cons_succ]
            refine wpAnyH_take (i := 19) (oi := { dst := some 69, op := Op.move (Operand.tmp 5), type := 56, pos := "keeps.go:70", after := #[{ on := 16, ground := Ground.guard }], guard := some (16, false) }) (v := ?v142) rfl (by kernel_rfl) (by kernel_rfl) (by kernel_rfl) (fun _ _ _ h => h) (Or.inl ⟨by rfl, ?hy142⟩) (by assumption) ?rest142
            case hy142 => (intro w1 hSw; (try dsimp only at hSw); obtain ⟨h0, h1, h2, h3, h4, -⟩ := hSw; go_simp; try with_reducible rfl)
            try simp only [Act.put, List.setIfInBounds_toArray, List.set_cons_zero, List.set_cons_succ]
            refine wpAnyH_take (i := 20) (oi := { dst := some 70, op := Op.lookup 56 (Operand.tmp 69) (Operand.const (Value.string { data := #[99] })) false, type := 4, pos := "keeps.go:70", after := #[{ on := 19, ground := Ground.data }, { on := 16, ground := Ground.guard }], guard := some (16, false) }) (v := ?v143) rfl (by kernel_rfl) (by kernel_rfl) (by kernel_rfl) (fun _ _ _ h => h) (Or.inl ⟨by rfl, ?hy143⟩) (by assumption) ?rest143
            case hy143 => (intro w1 hSw; (try dsimp only at hSw); obtain ⟨h0, h1, h2, h3, h4, -⟩ := hSw; go_simp; try with_reducible rfl)
            try simp only [Act.put, List.setIfInBounds_toArray, List.set_cons_zero, List.set_cons_succ]
            refine wpAnyH_ready (rs := [18]) (by kernel_rfl) (by simp) ?_
            refine AllReadyH.cons (o := { dst := some 68, op := Op.call { callee := Callee.value (Operand.func 17), args := #[Operand.tmp 67, Operand.const (Value.string { data := #[99] })], argTypes := #[27, 9] }, type := 4, pos := "keeps.go:70", after := #[{ on := 17, ground := Ground.data }, { on := 16, ground := Ground.chain }, { on := 16, ground := Ground.guard }], guard := some (16, false) }) rfl (fun K hK => ?_) AllReadyH.nil
            go_simp
            refine (has_any (sl := nl) q111 hcc).mono ?_
            rintro e w114 ⟨rfl, hb115⟩
            have q116 := q110.later hb115
            have q117 := q111.later hb115
            have q118 := q112.later hb115
            have q119 := q113.later hb115
            refine hK.out _ _ (⟨q116.cell 0, q116.cell 1, q118.look' (s := [97]) (by decide) ta, q118.look' (s := [99]) (by decide) tc, q118.look' (s := [42]) (by decide) HN.out.2.2.2, trivial⟩) (fun hHeld => ?_)
            clear hK K
            try simp only [Act.put, List.setIfInBounds_toArray, List.set_cons_zero, List.set_cons_succ]
            refine wpAnyH_take (i := 21) (oi := { dst := some 71, op := Op.move (Operand.tmp 70), type := 4, pos := "keeps.go:70", after := #[{ on := 20, ground := Ground.data }, { on := 18, ground := Ground.chain }, { on := 16, ground := Ground.guard }], guard := some (16, false) }) (v := ?v144) rfl (by kernel_rfl) (by kernel_rfl) (by kernel_rfl) (fun _ _ _ h => h) (Or.inl ⟨by rfl, ?hy144⟩) (by assumption) ?rest144
            case hy144 => (intro w1 hSw; (try dsimp only at hSw); obtain ⟨h0, h1, h2, h3, h4, -⟩ := hSw; go_simp; try with_reducible rfl)
            try simp only [Act.put, List.setIfInBounds_toArray, List.set_cons_zero, List.set_cons_succ]
            refine wpAnyH_take (i := 22) (oi := { dst := some 72, op := Op.move (Operand.tmp 5), type := 56, pos := "keeps.go:70", after := #[{ on := 21, ground := Ground.guard }], guard := some (21, false) }) (v := ?v145) rfl (by kernel_rfl) (by kernel_rfl) (by kernel_rfl) (fun _ _ _ h => h) (Or.inl ⟨by rfl, ?hy145⟩) (by assumption) ?rest145
            case hy145 => (intro w1 hSw; (try dsimp only at hSw); obtain ⟨h0, h1, h2, h3, h4, -⟩ := hSw; go_simp; try with_reducible rfl)
            try simp only [Act.put, List.setIfInBounds_toArray, List.set_cons_zero, List.set_cons_succ]
            refine wpAnyH_take (i := 23) (oi := { dst := some 73, op := Op.lookup 56 (Operand.tmp 72) (Operand.const (Value.string { data := #[42] })) false, type := 4, pos := "keeps.go:70", after := #[{ on := 22, ground := Ground.data }, { on := 21, ground := Ground.guard }], guard := some (21, false) }) (v := ?v146) rfl (by kernel_rfl) (by kernel_rfl) (by kernel_rfl) (fun _ _ _ h => h) (Or.inl ⟨by rfl, ?hy146⟩) (by assumption) ?rest146
            case hy146 => (intro w1 hSw; (try dsimp only at hSw); obtain ⟨h0, h1, h2, h3, h4, -⟩ := hSw; go_simp; try with_reducible rfl)
            try simp only [Act.put, List.setIfInBounds_toArray, List.set_cons_zero, List.set_cons_succ]
            refine wpAnyH_take (i := 24) (oi := { dst := some 74, op := Op.pick (Operand.tmp 71) (Operand.const (Value.bool true)) (Operand.tmp 73), type := 4, pos := "keeps.go:70", after := #[{ on := 21, ground := Ground.data }, { on := 23, ground := Ground.data }, { on := 16, ground := Ground.guard }], guard := some (16, false) }) (v := ?v147) rfl (by kernel_rfl) (by kernel_rfl) (by kernel_rfl) (fun _ _ _ h => h) (Or.inl ⟨by rfl, ?hy147⟩) (by assumption) ?rest147
            case hy147 => (intro w1 hSw; (try dsimp only at hSw); obtain ⟨h0, h1, h2, h3, h4, -⟩ := hSw; go_simp; try with_reducible rfl)
            try simp only [Act.put, List.setIfInBounds_toArray, List.set_cons_zero, List.set_cons_succ]
            refine wpAnyH_take (i := 25) (oi := { dst := some 75, op := Op.binOp BinOp.neq 4 (Operand.tmp 68) (Operand.tmp 74) 4, type := 4, pos := "keeps.go:70", after := #[{ on := 18, ground := Ground.data }, { on := 24, ground := Ground.data }, { on := 16, ground := Ground.guard }], guard := some (16, false) }) (v := ?v148) rfl (by kernel_rfl) (by kernel_rfl) (by kernel_rfl) (fun _ _ _ h => h) (Or.inl ⟨by rfl, ?hy148⟩) (by assumption) ?rest148
            case hy148 => (intro w1 hSw; (try dsimp only at hSw); obtain ⟨h0, h1, h2, h3, h4, -⟩ := hSw; go_simp; try with_reducible rfl)
            try simp only [Act.put, List.setIfInBounds_toArray, List.set_cons_zero, List.set_cons_succ]
            refine wpAnyH_take (i := 26) (oi := { dst := some 76, op := Op.pick (Operand.tmp 66) (Operand.const (Value.bool true)) (Operand.tmp 75), type := 4, pos := "keeps.go:70", after := #[{ on := 16, ground := Ground.data }, { on := 25, ground := Ground.data }], guard := none }) (v := ?v149) rfl (by kernel_rfl) (by kernel_rfl) (by kernel_rfl) (fun _ _ _ h => h) (Or.inl ⟨by rfl, ?hy149⟩) (by assumption) ?rest149
            case hy149 => (intro w1 hSw; (try dsimp only at hSw); obtain ⟨h0, h1, h2, h3, h4, -⟩ := hSw; go_simp; try with_reducible rfl)
            try simp only [Act.put, List.setIfInBounds_toArray, List.set_cons_zero, List.set_cons_succ]
            refine wpAnyH_take (i := 27) (oi := { dst := some 77, op := Op.move (Operand.tmp 76), type := 4, pos := "keeps.go:70", after := #[{ on := 26, ground := Ground.data }, { on := 21, ground := Ground.chain }], guard := none }) (v := ?v150) rfl (by kernel_rfl) (by kernel_rfl) (by kernel_rfl) (fun _ _ _ h => h) (Or.inl ⟨by rfl, ?hy150⟩) (by assumption) ?rest150
            case hy150 => (intro w1 hSw; (try dsimp only at hSw); obtain ⟨h0, h1, h2, h3, h4, -⟩ := hSw; go_simp; try with_reducible rfl)
            try simp only [Act.put, List.setIfInBounds_toArray, List.set_cons_zero, List.set_cons_succ]
            refine wpAnyH_take (i := 28) (oi := { dst := some 78, op := Op.load 27 (Operand.tmp 4), type := 27, pos := "keeps.go:70", after := #[{ on := 27, ground := Ground.guard }], guard := some (27, false) }) (v := ?v151) rfl (by kernel_rfl) (by kernel_rfl) (by kernel_rfl) (fun _ _ _ h => h) (Or.inl ⟨by rfl, ?hy151⟩) (by assumption) ?rest151
            case hy151 => (intro w1 hSw; (try dsimp only at hSw); obtain ⟨h0, h1, h2, h3, h4, -⟩ := hSw; go_simp; try with_reducible rfl)
            try simp only [Act.put, List.setIfInBounds_toArray, List.set_cons_zero, List.set_cons_succ]
            refine wpAnyH_take (i := 30) (oi := { dst := some 80, op := Op.move (Operand.tmp 5), type := 56, pos := "keeps.go:70", after := #[{ on := 27, ground := Ground.guard }], guard := some (27, false) }) (v := ?v152) rfl (by kernel_rfl) (by kernel_rfl) (by kernel_rfl) (fun _ _ _ h => h) (Or.inl ⟨by rfl, ?hy152⟩) (by assumption) ?rest152
            case hy152 => (intro w1 hSw; (try dsimp only at hSw); obtain ⟨h0, h1, h2, h3, h4, -⟩ := hSw; go_simp; try with_reducible rfl)
            try simp only [Act.put, List.setIfInBounds_toArray, List.set_cons_zero, List.set_cons_succ]
            refine wpAnyH_take (i := 31) (oi := { dst := some 81, op := Op.lookup 56 (Operand.tmp 80) (Operand.const (Value.string { data := #[42] })) false, type := 4, pos := "keeps.go:70", after := #[{ on := 30, ground := Ground.data }, { on := 27, ground := Ground.guard }], guard := some (27, false) }) (v := ?v153) rfl (by kernel_rfl) (by kernel_rfl) (by kernel_rfl) (fun _ _ _ h => h) (Or.inl ⟨by rfl, ?hy153⟩) (by assumption) ?rest153
            case hy153 => (intro w1 hSw; (try dsimp only at hSw); obtain ⟨h0, h1, h2, h3, h4, -⟩ := hSw; go_simp; try with_reducible rfl)
            try simp only [Act.put, List.setIfInBounds_toArray, List.set_cons_zero, List.set_cons_succ]
            refine wpAnyH_ready (rs := [29]) (by kernel_rfl) (by simp) ?_
            refine AllReadyH.cons (o := { dst := some 79, op := Op.call { callee := Callee.value (Operand.func 17), args := #[Operand.tmp 78, Operand.const (Value.string { data := #[122, 122] })], argTypes := #[27, 9] }, type := 4, pos := "keeps.go:70", after := #[{ on := 28, ground := Ground.data }, { on := 27, ground := Ground.chain }, { on := 27, ground := Ground.guard }], guard := some (27, false) }) rfl (fun K hK => ?_) AllReadyH.nil
            go_simp
            refine (has_any (sl := nl) q117 hzz).mono ?_
            rintro e w120 ⟨rfl, hb121⟩
            have q122 := q116.later hb121
            have q123 := q117.later hb121
            have q124 := q118.later hb121
            have q125 := q119.later hb121
            refine hK.out _ _ (⟨q122.cell 0, q122.cell 1, q124.look' (s := [97]) (by decide) ta, q124.look' (s := [99]) (by decide) tc, q124.look' (s := [42]) (by decide) HN.out.2.2.2, trivial⟩) (fun hHeld => ?_)
            clear hK K
            try simp only [Act.put, List.setIfInBounds_toArray, List.set_cons_zero, List.set_cons_succ]
            refine wpAnyH_take (i := 32) (oi := { dst := some 82, op := Op.binOp BinOp.neq 4 (Operand.tmp 79) (Operand.tmp 81) 4, type := 4, pos := "keeps.go:70", after := #[{ on := 29, ground := Ground.data }, { on := 31, ground := Ground.data }, { on := 27, ground := Ground.guard }], guard := some (27, false) }) (v := ?v154) rfl (by kernel_rfl) (by kernel_rfl) (by kernel_rfl) (fun _ _ _ h => h) (Or.inl ⟨by rfl, ?hy154⟩) (by assumption) ?rest154
            case hy154 => (intro w1 hSw; (try dsimp only at hSw); obtain ⟨h0, h1, h2, h3, h4, -⟩ := hSw; go_simp; try with_reducible rfl)
            try simp only [Act.put, List.setIfInBounds_toArray, List.set_cons_zero, List.set_cons_succ]
            refine wpAnyH_take (i := 33) (oi := { dst := some 83, op := Op.pick (Operand.tmp 77) (Operand.const (Value.bool true)) (Operand.tmp 82), type := 4, pos := "keeps.go:70", after := #[{ on := 27, ground := Ground.data }, { on := 32, ground := Ground.data }], guard := none }) (v := ?v155) rfl (by kernel_rfl) (by kernel_rfl) (by kernel_rfl) (fun _ _ _ h => h) (Or.inl ⟨by rfl, ?hy155⟩) (by assumption) ?rest155
            case hy155 => (intro w1 hSw; (try dsimp only at hSw); obtain ⟨h0, h1, h2, h3, h4, -⟩ := hSw; go_simp; try with_reducible rfl)
            try simp only [Act.put, List.setIfInBounds_toArray, List.set_cons_zero, List.set_cons_succ]
            refine wpAnyH_done (by kernel_rfl) ?_ _
            go_wp2_with fail
            go_roundw
            case rel => exact ⟨k + 1, T', na, nl, a5, c5, by omega, by omega, by go_num, ⟨HN.out.2.1, q122, q123, q124, q125⟩⟩
            case measure => simp [RowKit.intOf]; omega
          · rw [ta, Bool.false_or] at hha
            rw [tc, Bool.true_or] at hcc
            obtain ⟨w126, hw127, hb128⟩ := drew_new w7
            have q129 := B7.later hb128
            have q130 := T7.later hb128
            have q131 := M7.later hb128
            have q132 := hb07.later hb128
            refine wp_region_held_drew (S := (fun w' => w'.cell? ⟨R, 0, none⟩ = some (.bool na) ∧ w'.cell? ⟨R, 1, none⟩ = some (.slice a5 nl.length c5) ∧ (Instr.lookup 56 (.map (some (R + 1))) (.string ⟨#[97]⟩) false).run Try.prog w' = .ok (.bool false) w' ∧ (Instr.lookup 56 (.map (some (R + 1))) (.string ⟨#[99]⟩) false).run Try.prog w' = .ok (.bool true) w' ∧ (Instr.lookup 56 (.map (some (R + 1))) (.string ⟨#[42]⟩) false).run Try.prog w' = .ok (.bool na) w' ∧ True)) (by kernel_rfl) (by rw [hw127]; exact ⟨q129.cell 0, q129.cell 1, q131.look' (s := [97]) (by decide) ta, q131.look' (s := [99]) (by decide) tc, q131.look' (s := [42]) (by decide) HN.out.2.2.2, trivial⟩) (fun hHeld => ?_)
            rw [hw127] at hHeld ⊢
            refine wpAnyH_take (i := 0) (oi := { dst := some 50, op := Op.fieldAddr 27 (Operand.tmp 4) 0, type := 0, pos := "keeps.go:70", after := #[], guard := none }) (v := ?v156) rfl (by kernel_rfl) (by kernel_rfl) (by kernel_rfl) (fun _ _ _ h => h) (Or.inl ⟨by rfl, ?hy156⟩) (by assumption) ?rest156
            case hy156 => (intro w1 hSw; (try dsimp only at hSw); obtain ⟨h0, h1, h2, h3, h4, -⟩ := hSw; go_simp; try with_reducible rfl)
            try simp only [Act.put, List.setIfInBounds_toArray, List.set_cons_zero, List.set_cons_succ]
            refine wpAnyH_take (i := 1) (oi := { dst := some 51, op := Op.load 4 (Operand.tmp 50), type := 4, pos := "keeps.go:70", after := #[{ on := 0, ground := Ground.data }], guard := none }) (v := ?v157) rfl (by kernel_rfl) (by kernel_rfl) (by kernel_rfl) (fun _ _ _ h => h) (Or.inl ⟨by rfl, ?hy157⟩) (by assumption) ?rest157
            case hy157 => (intro w1 hSw; (try dsimp only at hSw); obtain ⟨h0, h1, h2, h3, h4, -⟩ := hSw; go_simp; try with_reducible rfl)
            try simp only [Act.put, List.setIfInBounds_toArray, List.set_cons_zero, List.set_cons_succ]
            refine wpAnyH_take (i := 2) (oi := { dst := some 52, op := Op.move (Operand.tmp 5), type := 56, pos := "keeps.go:70", after := #[], guard := none }) (v := ?v158) rfl (by kernel_rfl) (by kernel_rfl) (by kernel_rfl) (fun _ _ _ h => h) (Or.inl ⟨by rfl, ?hy158⟩) (by assumption) ?rest158
            case hy158 => (intro w1 hSw; (try dsimp only at hSw); obtain ⟨h0, h1, h2, h3, h4, -⟩ := hSw; go_simp; try with_reducible rfl)
            try simp only [Act.put, List.setIfInBounds_toArray, List.set_cons_zero, List.set_cons_succ]
            refine wpAnyH_take (i := 3) (oi := { dst := some 53, op := Op.lookup 56 (Operand.tmp 52) (Operand.const (Value.string { data := #[42] })) false, type := 4, pos := "keeps.go:70", after := #[{ on := 2, ground := Ground.data }], guard := none }) (v := ?v159) rfl (by kernel_rfl) (by kernel_rfl) (by kernel_rfl) (fun _ _ _ h => h) (Or.inl ⟨by rfl, ?hy159⟩) (by assumption) ?rest159
            case hy159 => (intro w1 hSw; (try dsimp only at hSw); obtain ⟨h0, h1, h2, h3, h4, -⟩ := hSw; go_simp; try with_reducible rfl)
            try simp only [Act.put, List.setIfInBounds_toArray, List.set_cons_zero, List.set_cons_succ]
            refine wpAnyH_take (i := 4) (oi := { dst := some 54, op := Op.binOp BinOp.neq 4 (Operand.tmp 51) (Operand.tmp 53) 4, type := 4, pos := "keeps.go:70", after := #[{ on := 1, ground := Ground.data }, { on := 3, ground := Ground.data }], guard := none }) (v := ?v160) rfl (by kernel_rfl) (by kernel_rfl) (by kernel_rfl) (fun _ _ _ h => h) (Or.inl ⟨by rfl, ?hy160⟩) (by assumption) ?rest160
            case hy160 => (intro w1 hSw; (try dsimp only at hSw); obtain ⟨h0, h1, h2, h3, h4, -⟩ := hSw; go_simp; try with_reducible rfl)
            try simp only [Act.put, List.setIfInBounds_toArray, List.set_cons_zero, List.set_cons_succ]
            refine wpAnyH_take (i := 5) (oi := { dst := some 55, op := Op.move (Operand.tmp 54), type := 4, pos := "keeps.go:70", after := #[{ on := 4, ground := Ground.data }], guard := none }) (v := ?v161) rfl (by kernel_rfl) (by kernel_rfl) (by kernel_rfl) (fun _ _ _ h => h) (Or.inl ⟨by rfl, ?hy161⟩) (by assumption) ?rest161
            case hy161 => (intro w1 hSw; (try dsimp only at hSw); obtain ⟨h0, h1, h2, h3, h4, -⟩ := hSw; go_simp; try with_reducible rfl)
            try simp only [Act.put, List.setIfInBounds_toArray, List.set_cons_zero, List.set_cons_succ]
            refine wpAnyH_take (i := 6) (oi := { dst := some 56, op := Op.load 27 (Operand.tmp 4), type := 27, pos := "keeps.go:70", after := #[{ on := 5, ground := Ground.guard }], guard := some (5, false) }) (v := ?v162) rfl (by kernel_rfl) (by kernel_rfl) (by kernel_rfl) (fun _ _ _ h => h) (Or.inl ⟨by rfl, ?hy162⟩) (by assumption) ?rest162
            case hy162 => (intro w1 hSw; (try dsimp only at hSw); obtain ⟨h0, h1, h2, h3, h4, -⟩ := hSw; go_simp; try with_reducible rfl)
            try simp only [Act.put, List.setIfInBounds_toArray, List.set_cons_zero, List.set_cons_succ]
            refine wpAnyH_take (i := 8) (oi := { dst := some 58, op := Op.move (Operand.tmp 5), type := 56, pos := "keeps.go:70", after := #[{ on := 5, ground := Ground.guard }], guard := some (5, false) }) (v := ?v163) rfl (by kernel_rfl) (by kernel_rfl) (by kernel_rfl) (fun _ _ _ h => h) (Or.inl ⟨by rfl, ?hy163⟩) (by assumption) ?rest163
            case hy163 => (intro w1 hSw; (try dsimp only at hSw); obtain ⟨h0, h1, h2, h3, h4, -⟩ := hSw; go_simp; try with_reducible rfl)
            try simp only [Act.put, List.setIfInBounds_toArray, List.set_cons_zero, List.set_cons_succ]
            refine wpAnyH_take (i := 9) (oi := { dst := some 59, op := Op.lookup 56 (Operand.tmp 58) (Operand.const (Value.string { data := #[97] })) false, type := 4, pos := "keeps.go:70", after := #[{ on := 8, ground := Ground.data }, { on := 5, ground := Ground.guard }], guard := some (5, false) }) (v := ?v164) rfl (by kernel_rfl) (by kernel_rfl) (by kernel_rfl) (fun _ _ _ h => h) (Or.inl ⟨by rfl, ?hy164⟩) (by assumption) ?rest164
            case hy164 => (intro w1 hSw; (try dsimp only at hSw); obtain ⟨h0, h1, h2, h3, h4, -⟩ := hSw; go_simp; try with_reducible rfl)
            try simp only [Act.put, List.setIfInBounds_toArray, List.set_cons_zero, List.set_cons_succ]
            refine wpAnyH_ready (rs := [7]) (by kernel_rfl) (by simp) ?_
            refine AllReadyH.cons (o := { dst := some 57, op := Op.call { callee := Callee.value (Operand.func 17), args := #[Operand.tmp 56, Operand.const (Value.string { data := #[97] })], argTypes := #[27, 9] }, type := 4, pos := "keeps.go:70", after := #[{ on := 6, ground := Ground.data }, { on := 5, ground := Ground.chain }, { on := 5, ground := Ground.guard }], guard := some (5, false) }) rfl (fun K hK => ?_) AllReadyH.nil
            go_simp
            refine (has_any (sl := nl) q130 hha).mono ?_
            rintro e w133 ⟨rfl, hb134⟩
            have q135 := q129.later hb134
            have q136 := q130.later hb134
            have q137 := q131.later hb134
            have q138 := q132.later hb134
            refine hK.out _ _ (⟨q135.cell 0, q135.cell 1, q137.look' (s := [97]) (by decide) ta, q137.look' (s := [99]) (by decide) tc, q137.look' (s := [42]) (by decide) HN.out.2.2.2, trivial⟩) (fun hHeld => ?_)
            clear hK K
            try simp only [Act.put, List.setIfInBounds_toArray, List.set_cons_zero, List.set_cons_succ]
            refine wpAnyH_take (i := 10) (oi := { dst := some 60, op := Op.move (Operand.tmp 59), type := 4, pos := "keeps.go:70", after := #[{ on := 9, ground := Ground.data }, { on := 7, ground := Ground.chain }, { on := 5, ground := Ground.guard }], guard := some (5, false) }) (v := ?v165) rfl (by kernel_rfl) (by kernel_rfl) (by kernel_rfl) (fun _ _ _ h => h) (Or.inl ⟨by rfl, ?hy165⟩) (by assumption) ?rest165
            case hy165 => (intro w1 hSw; (try dsimp only at hSw); obtain ⟨h0, h1, h2, h3, h4, -⟩ := hSw; go_simp; try with_reducible rfl)
            try simp only [Act.put, List.setIfInBounds_toArray, List.set_cons_zero, List.set_cons_succ]
            refine wpAnyH_take (i := 11) (oi := { dst := some 61, op := Op.move (Operand.tmp 5), type := 56, pos := "keeps.go:70", after := #[{ on := 10, ground := Ground.guard }], guard := some (10, false) }) (v := ?v166) rfl (by kernel_rfl) (by kernel_rfl) (by kernel_rfl) (fun _ _ _ h => h) (Or.inl ⟨by rfl, ?hy166⟩) (by assumption) ?rest166
            case hy166 => (intro w1 hSw; (try dsimp only at hSw); obtain ⟨h0, h1, h2, h3, h4, -⟩ := hSw; go_simp; try with_reducible rfl)
            try simp only [Act.put, List.setIfInBounds_toArray, List.set_cons_zero, List.set_cons_succ]
            refine wpAnyH_take (i := 12) (oi := { dst := some 62, op := Op.lookup 56 (Operand.tmp 61) (Operand.const (Value.string { data := #[42] })) false, type := 4, pos := "keeps.go:70", after := #[{ on := 11, ground := Ground.data }, { on := 10, ground := Ground.guard }], guard := some (10, false) }) (v := ?v167) rfl (by kernel_rfl) (by kernel_rfl) (by kernel_rfl) (fun _ _ _ h => h) (Or.inl ⟨by rfl, ?hy167⟩) (by assumption) ?rest167
            case hy167 => (intro w1 hSw; (try dsimp only at hSw); obtain ⟨h0, h1, h2, h3, h4, -⟩ := hSw; go_simp; try with_reducible rfl)
            try simp only [Act.put, List.setIfInBounds_toArray, List.set_cons_zero, List.set_cons_succ]
            refine wpAnyH_take (i := 13) (oi := { dst := some 63, op := Op.pick (Operand.tmp 60) (Operand.const (Value.bool true)) (Operand.tmp 62), type := 4, pos := "keeps.go:70", after := #[{ on := 10, ground := Ground.data }, { on := 12, ground := Ground.data }, { on := 5, ground := Ground.guard }], guard := some (5, false) }) (v := ?v168) rfl (by kernel_rfl) (by kernel_rfl) (by kernel_rfl) (fun _ _ _ h => h) (Or.inl ⟨by rfl, ?hy168⟩) (by assumption) ?rest168
            case hy168 => (intro w1 hSw; (try dsimp only at hSw); obtain ⟨h0, h1, h2, h3, h4, -⟩ := hSw; go_simp; try with_reducible rfl)
            try simp only [Act.put, List.setIfInBounds_toArray, List.set_cons_zero, List.set_cons_succ]
            refine wpAnyH_take (i := 14) (oi := { dst := some 64, op := Op.binOp BinOp.neq 4 (Operand.tmp 57) (Operand.tmp 63) 4, type := 4, pos := "keeps.go:70", after := #[{ on := 7, ground := Ground.data }, { on := 13, ground := Ground.data }, { on := 5, ground := Ground.guard }], guard := some (5, false) }) (v := ?v169) rfl (by kernel_rfl) (by kernel_rfl) (by kernel_rfl) (fun _ _ _ h => h) (Or.inl ⟨by rfl, ?hy169⟩) (by assumption) ?rest169
            case hy169 => (intro w1 hSw; (try dsimp only at hSw); obtain ⟨h0, h1, h2, h3, h4, -⟩ := hSw; go_simp; try with_reducible rfl)
            try simp only [Act.put, List.setIfInBounds_toArray, List.set_cons_zero, List.set_cons_succ]
            refine wpAnyH_take (i := 15) (oi := { dst := some 65, op := Op.pick (Operand.tmp 55) (Operand.const (Value.bool true)) (Operand.tmp 64), type := 4, pos := "keeps.go:70", after := #[{ on := 5, ground := Ground.data }, { on := 14, ground := Ground.data }], guard := none }) (v := ?v170) rfl (by kernel_rfl) (by kernel_rfl) (by kernel_rfl) (fun _ _ _ h => h) (Or.inl ⟨by rfl, ?hy170⟩) (by assumption) ?rest170
            case hy170 => (intro w1 hSw; (try dsimp only at hSw); obtain ⟨h0, h1, h2, h3, h4, -⟩ := hSw; go_simp; try with_reducible rfl)
            try simp only [Act.put, List.setIfInBounds_toArray, List.set_cons_zero, List.set_cons_succ]
            refine wpAnyH_take (i := 16) (oi := { dst := some 66, op := Op.move (Operand.tmp 65), type := 4, pos := "keeps.go:70", after := #[{ on := 15, ground := Ground.data }, { on := 10, ground := Ground.chain }], guard := none }) (v := ?v171) rfl (by kernel_rfl) (by kernel_rfl) (by kernel_rfl) (fun _ _ _ h => h) (Or.inl ⟨by rfl, ?hy171⟩) (by assumption) ?rest171
            case hy171 => (intro w1 hSw; (try dsimp only at hSw); obtain ⟨h0, h1, h2, h3, h4, -⟩ := hSw; go_simp; try with_reducible rfl)
            try simp only [Act.put, List.setIfInBounds_toArray, List.set_cons_zero, List.set_cons_succ]
            refine wpAnyH_take (i := 17) (oi := { dst := some 67, op := Op.load 27 (Operand.tmp 4), type := 27, pos := "keeps.go:70", after := #[{ on := 16, ground := Ground.guard }], guard := some (16, false) }) (v := ?v172) rfl (by kernel_rfl) (by kernel_rfl) (by kernel_rfl) (fun _ _ _ h => h) (Or.inl ⟨by rfl, ?hy172⟩) (by assumption) ?rest172
            case hy172 => (intro w1 hSw; (try dsimp only at hSw); obtain ⟨h0, h1, h2, h3, h4, -⟩ := hSw; go_simp; try with_reducible rfl)
            try simp only [Act.put, List.setIfInBounds_toArray, List.set_cons_zero, List.set_cons_succ]
            refine wpAnyH_take (i := 19) (oi := { dst := some 69, op := Op.move (Operand.tmp 5), type := 56, pos := "keeps.go:70", after := #[{ on := 16, ground := Ground.guard }], guard := some (16, false) }) (v := ?v173) rfl (by kernel_rfl) (by kernel_rfl) (by kernel_rfl) (fun _ _ _ h => h) (Or.inl ⟨by rfl, ?hy173⟩) (by assumption) ?rest173
            case hy173 => (intro w1 hSw; (try dsimp only at hSw); obtain ⟨h0, h1, h2, h3, h4, -⟩ := hSw; go_simp; try with_reducible rfl)
            try simp only [Act.put, List.setIfInBounds_toArray, List.set_cons_zero, List.set_cons_succ]
            refine wpAnyH_take (i := 20) (oi := { dst := some 70, op := Op.lookup 56 (Operand.tmp 69) (Operand.const (Value.string { data := #[99] })) false, type := 4, pos := "keeps.go:70", after := #[{ on := 19, ground := Ground.data }, { on := 16, ground := Ground.guard }], guard := some (16, false) }) (v := ?v174) rfl (by kernel_rfl) (by kernel_rfl) (by kernel_rfl) (fun _ _ _ h => h) (Or.inl ⟨by rfl, ?hy174⟩) (by assumption) ?rest174
            case hy174 => (intro w1 hSw; (try dsimp only at hSw); obtain ⟨h0, h1, h2, h3, h4, -⟩ := hSw; go_simp; try with_reducible rfl)
            try simp only [Act.put, List.setIfInBounds_toArray, List.set_cons_zero, List.set_cons_succ]
            refine wpAnyH_ready (rs := [18]) (by kernel_rfl) (by simp) ?_
            refine AllReadyH.cons (o := { dst := some 68, op := Op.call { callee := Callee.value (Operand.func 17), args := #[Operand.tmp 67, Operand.const (Value.string { data := #[99] })], argTypes := #[27, 9] }, type := 4, pos := "keeps.go:70", after := #[{ on := 17, ground := Ground.data }, { on := 16, ground := Ground.chain }, { on := 16, ground := Ground.guard }], guard := some (16, false) }) rfl (fun K hK => ?_) AllReadyH.nil
            go_simp
            refine (has_any (sl := nl) q136 hcc).mono ?_
            rintro e w139 ⟨rfl, hb140⟩
            have q141 := q135.later hb140
            have q142 := q136.later hb140
            have q143 := q137.later hb140
            have q144 := q138.later hb140
            refine hK.out _ _ (⟨q141.cell 0, q141.cell 1, q143.look' (s := [97]) (by decide) ta, q143.look' (s := [99]) (by decide) tc, q143.look' (s := [42]) (by decide) HN.out.2.2.2, trivial⟩) (fun hHeld => ?_)
            clear hK K
            try simp only [Act.put, List.setIfInBounds_toArray, List.set_cons_zero, List.set_cons_succ]
            refine wpAnyH_take (i := 21) (oi := { dst := some 71, op := Op.move (Operand.tmp 70), type := 4, pos := "keeps.go:70", after := #[{ on := 20, ground := Ground.data }, { on := 18, ground := Ground.chain }, { on := 16, ground := Ground.guard }], guard := some (16, false) }) (v := ?v175) rfl (by kernel_rfl) (by kernel_rfl) (by kernel_rfl) (fun _ _ _ h => h) (Or.inl ⟨by rfl, ?hy175⟩) (by assumption) ?rest175
            case hy175 => (intro w1 hSw; (try dsimp only at hSw); obtain ⟨h0, h1, h2, h3, h4, -⟩ := hSw; go_simp; try with_reducible rfl)
            try simp only [Act.put, List.setIfInBounds_toArray, List.set_cons_zero, List.set_cons_succ]
            refine wpAnyH_take (i := 22) (oi := { dst := some 72, op := Op.move (Operand.tmp 5), type := 56, pos := "keeps.go:70", after := #[{ on := 21, ground := Ground.guard }], guard := some (21, false) }) (v := undef) rfl (by kernel_rfl) (by kernel_rfl) (by kernel_rfl) (fun _ _ _ h => h) (Or.inr ⟨by rfl, rfl⟩) (by assumption) ?_
            try simp only [Act.put, List.setIfInBounds_toArray, List.set_cons_zero, List.set_cons_succ]
            refine wpAnyH_take (i := 23) (oi := { dst := some 73, op := Op.lookup 56 (Operand.tmp 72) (Operand.const (Value.string { data := #[42] })) false, type := 4, pos := "keeps.go:70", after := #[{ on := 22, ground := Ground.data }, { on := 21, ground := Ground.guard }], guard := some (21, false) }) (v := undef) rfl (by kernel_rfl) (by kernel_rfl) (by kernel_rfl) (fun _ _ _ h => h) (Or.inr ⟨by rfl, rfl⟩) (by assumption) ?_
            try simp only [Act.put, List.setIfInBounds_toArray, List.set_cons_zero, List.set_cons_succ]
            refine wpAnyH_take (i := 24) (oi := { dst := some 74, op := Op.pick (Operand.tmp 71) (Operand.const (Value.bool true)) (Operand.tmp 73), type := 4, pos := "keeps.go:70", after := #[{ on := 21, ground := Ground.data }, { on := 23, ground := Ground.data }, { on := 16, ground := Ground.guard }], guard := some (16, false) }) (v := ?v178) rfl (by kernel_rfl) (by kernel_rfl) (by kernel_rfl) (fun _ _ _ h => h) (Or.inl ⟨by rfl, ?hy178⟩) (by assumption) ?rest178
            case hy178 => (intro w1 hSw; (try dsimp only at hSw); obtain ⟨h0, h1, h2, h3, h4, -⟩ := hSw; go_simp; try with_reducible rfl)
            try simp only [Act.put, List.setIfInBounds_toArray, List.set_cons_zero, List.set_cons_succ]
            refine wpAnyH_take (i := 25) (oi := { dst := some 75, op := Op.binOp BinOp.neq 4 (Operand.tmp 68) (Operand.tmp 74) 4, type := 4, pos := "keeps.go:70", after := #[{ on := 18, ground := Ground.data }, { on := 24, ground := Ground.data }, { on := 16, ground := Ground.guard }], guard := some (16, false) }) (v := ?v179) rfl (by kernel_rfl) (by kernel_rfl) (by kernel_rfl) (fun _ _ _ h => h) (Or.inl ⟨by rfl, ?hy179⟩) (by assumption) ?rest179
            case hy179 => (intro w1 hSw; (try dsimp only at hSw); obtain ⟨h0, h1, h2, h3, h4, -⟩ := hSw; go_simp; try with_reducible rfl)
            try simp only [Act.put, List.setIfInBounds_toArray, List.set_cons_zero, List.set_cons_succ]
            refine wpAnyH_take (i := 26) (oi := { dst := some 76, op := Op.pick (Operand.tmp 66) (Operand.const (Value.bool true)) (Operand.tmp 75), type := 4, pos := "keeps.go:70", after := #[{ on := 16, ground := Ground.data }, { on := 25, ground := Ground.data }], guard := none }) (v := ?v180) rfl (by kernel_rfl) (by kernel_rfl) (by kernel_rfl) (fun _ _ _ h => h) (Or.inl ⟨by rfl, ?hy180⟩) (by assumption) ?rest180
            case hy180 => (intro w1 hSw; (try dsimp only at hSw); obtain ⟨h0, h1, h2, h3, h4, -⟩ := hSw; go_simp; try with_reducible rfl)
            try simp only [Act.put, List.setIfInBounds_toArray, List.set_cons_zero, List.set_cons_succ]
            refine wpAnyH_take (i := 27) (oi := { dst := some 77, op := Op.move (Operand.tmp 76), type := 4, pos := "keeps.go:70", after := #[{ on := 26, ground := Ground.data }, { on := 21, ground := Ground.chain }], guard := none }) (v := ?v181) rfl (by kernel_rfl) (by kernel_rfl) (by kernel_rfl) (fun _ _ _ h => h) (Or.inl ⟨by rfl, ?hy181⟩) (by assumption) ?rest181
            case hy181 => (intro w1 hSw; (try dsimp only at hSw); obtain ⟨h0, h1, h2, h3, h4, -⟩ := hSw; go_simp; try with_reducible rfl)
            try simp only [Act.put, List.setIfInBounds_toArray, List.set_cons_zero, List.set_cons_succ]
            refine wpAnyH_take (i := 28) (oi := { dst := some 78, op := Op.load 27 (Operand.tmp 4), type := 27, pos := "keeps.go:70", after := #[{ on := 27, ground := Ground.guard }], guard := some (27, false) }) (v := ?v182) rfl (by kernel_rfl) (by kernel_rfl) (by kernel_rfl) (fun _ _ _ h => h) (Or.inl ⟨by rfl, ?hy182⟩) (by assumption) ?rest182
            case hy182 => (intro w1 hSw; (try dsimp only at hSw); obtain ⟨h0, h1, h2, h3, h4, -⟩ := hSw; go_simp; try with_reducible rfl)
            try simp only [Act.put, List.setIfInBounds_toArray, List.set_cons_zero, List.set_cons_succ]
            refine wpAnyH_take (i := 30) (oi := { dst := some 80, op := Op.move (Operand.tmp 5), type := 56, pos := "keeps.go:70", after := #[{ on := 27, ground := Ground.guard }], guard := some (27, false) }) (v := ?v183) rfl (by kernel_rfl) (by kernel_rfl) (by kernel_rfl) (fun _ _ _ h => h) (Or.inl ⟨by rfl, ?hy183⟩) (by assumption) ?rest183
            case hy183 => (intro w1 hSw; (try dsimp only at hSw); obtain ⟨h0, h1, h2, h3, h4, -⟩ := hSw; go_simp; try with_reducible rfl)
            try simp only [Act.put, List.setIfInBounds_toArray, List.set_cons_zero, List.set_cons_succ]
            refine wpAnyH_take (i := 31) (oi := { dst := some 81, op := Op.lookup 56 (Operand.tmp 80) (Operand.const (Value.string { data := #[42] })) false, type := 4, pos := "keeps.go:70", after := #[{ on := 30, ground := Ground.data }, { on := 27, ground := Ground.guard }], guard := some (27, false) }) (v := ?v184) rfl (by kernel_rfl) (by kernel_rfl) (by kernel_rfl) (fun _ _ _ h => h) (Or.inl ⟨by rfl, ?hy184⟩) (by assumption) ?rest184
            case hy184 => (intro w1 hSw; (try dsimp only at hSw); obtain ⟨h0, h1, h2, h3, h4, -⟩ := hSw; go_simp; try with_reducible rfl)
            try simp only [Act.put, List.setIfInBounds_toArray, List.set_cons_zero, List.set_cons_succ]
            refine wpAnyH_ready (rs := [29]) (by kernel_rfl) (by simp) ?_
            refine AllReadyH.cons (o := { dst := some 79, op := Op.call { callee := Callee.value (Operand.func 17), args := #[Operand.tmp 78, Operand.const (Value.string { data := #[122, 122] })], argTypes := #[27, 9] }, type := 4, pos := "keeps.go:70", after := #[{ on := 28, ground := Ground.data }, { on := 27, ground := Ground.chain }, { on := 27, ground := Ground.guard }], guard := some (27, false) }) rfl (fun K hK => ?_) AllReadyH.nil
            go_simp
            refine (has_any (sl := nl) q142 hzz).mono ?_
            rintro e w145 ⟨rfl, hb146⟩
            have q147 := q141.later hb146
            have q148 := q142.later hb146
            have q149 := q143.later hb146
            have q150 := q144.later hb146
            refine hK.out _ _ (⟨q147.cell 0, q147.cell 1, q149.look' (s := [97]) (by decide) ta, q149.look' (s := [99]) (by decide) tc, q149.look' (s := [42]) (by decide) HN.out.2.2.2, trivial⟩) (fun hHeld => ?_)
            clear hK K
            try simp only [Act.put, List.setIfInBounds_toArray, List.set_cons_zero, List.set_cons_succ]
            refine wpAnyH_take (i := 32) (oi := { dst := some 82, op := Op.binOp BinOp.neq 4 (Operand.tmp 79) (Operand.tmp 81) 4, type := 4, pos := "keeps.go:70", after := #[{ on := 29, ground := Ground.data }, { on := 31, ground := Ground.data }, { on := 27, ground := Ground.guard }], guard := some (27, false) }) (v := ?v185) rfl (by kernel_rfl) (by kernel_rfl) (by kernel_rfl) (fun _ _ _ h => h) (Or.inl ⟨by rfl, ?hy185⟩) (by assumption) ?rest185
            case hy185 => (intro w1 hSw; (try dsimp only at hSw); obtain ⟨h0, h1, h2, h3, h4, -⟩ := hSw; go_simp; try with_reducible rfl)
            try simp only [Act.put, List.setIfInBounds_toArray, List.set_cons_zero, List.set_cons_succ]
            refine wpAnyH_take (i := 33) (oi := { dst := some 83, op := Op.pick (Operand.tmp 77) (Operand.const (Value.bool true)) (Operand.tmp 82), type := 4, pos := "keeps.go:70", after := #[{ on := 27, ground := Ground.data }, { on := 32, ground := Ground.data }], guard := none }) (v := ?v186) rfl (by kernel_rfl) (by kernel_rfl) (by kernel_rfl) (fun _ _ _ h => h) (Or.inl ⟨by rfl, ?hy186⟩) (by assumption) ?rest186
            case hy186 => (intro w1 hSw; (try dsimp only at hSw); obtain ⟨h0, h1, h2, h3, h4, -⟩ := hSw; go_simp; try with_reducible rfl)
            try simp only [Act.put, List.setIfInBounds_toArray, List.set_cons_zero, List.set_cons_succ]
            refine wpAnyH_done (by kernel_rfl) ?_ _
            go_wp2_with fail
            go_roundw
            case rel => exact ⟨k + 1, T', na, nl, a5, c5, by omega, by omega, by go_num, ⟨HN.out.2.1, q147, q148, q149, q150⟩⟩
            case measure => simp [RowKit.intOf]; omega
        · cases tc : T' [99]
          · rw [ta, Bool.true_or] at hha
            rw [tc, Bool.false_or] at hcc
            obtain ⟨w151, hw152, hb153⟩ := drew_new w7
            have q154 := B7.later hb153
            have q155 := T7.later hb153
            have q156 := M7.later hb153
            have q157 := hb07.later hb153
            refine wp_region_held_drew (S := (fun w' => w'.cell? ⟨R, 0, none⟩ = some (.bool na) ∧ w'.cell? ⟨R, 1, none⟩ = some (.slice a5 nl.length c5) ∧ (Instr.lookup 56 (.map (some (R + 1))) (.string ⟨#[97]⟩) false).run Try.prog w' = .ok (.bool true) w' ∧ (Instr.lookup 56 (.map (some (R + 1))) (.string ⟨#[99]⟩) false).run Try.prog w' = .ok (.bool false) w' ∧ (Instr.lookup 56 (.map (some (R + 1))) (.string ⟨#[42]⟩) false).run Try.prog w' = .ok (.bool na) w' ∧ True)) (by kernel_rfl) (by rw [hw152]; exact ⟨q154.cell 0, q154.cell 1, q156.look' (s := [97]) (by decide) ta, q156.look' (s := [99]) (by decide) tc, q156.look' (s := [42]) (by decide) HN.out.2.2.2, trivial⟩) (fun hHeld => ?_)
            rw [hw152] at hHeld ⊢
            refine wpAnyH_take (i := 0) (oi := { dst := some 50, op := Op.fieldAddr 27 (Operand.tmp 4) 0, type := 0, pos := "keeps.go:70", after := #[], guard := none }) (v := ?v187) rfl (by kernel_rfl) (by kernel_rfl) (by kernel_rfl) (fun _ _ _ h => h) (Or.inl ⟨by rfl, ?hy187⟩) (by assumption) ?rest187
            case hy187 => (intro w1 hSw; (try dsimp only at hSw); obtain ⟨h0, h1, h2, h3, h4, -⟩ := hSw; go_simp; try with_reducible rfl)
            try simp only [Act.put, List.setIfInBounds_toArray, List.set_cons_zero, List.set_cons_succ]
            refine wpAnyH_take (i := 1) (oi := { dst := some 51, op := Op.load 4 (Operand.tmp 50), type := 4, pos := "keeps.go:70", after := #[{ on := 0, ground := Ground.data }], guard := none }) (v := ?v188) rfl (by kernel_rfl) (by kernel_rfl) (by kernel_rfl) (fun _ _ _ h => h) (Or.inl ⟨by rfl, ?hy188⟩) (by assumption) ?rest188
            case hy188 => (intro w1 hSw; (try dsimp only at hSw); obtain ⟨h0, h1, h2, h3, h4, -⟩ := hSw; go_simp; try with_reducible rfl)
            try simp only [Act.put, List.setIfInBounds_toArray, List.set_cons_zero, List.set_cons_succ]
            refine wpAnyH_take (i := 2) (oi := { dst := some 52, op := Op.move (Operand.tmp 5), type := 56, pos := "keeps.go:70", after := #[], guard := none }) (v := ?v189) rfl (by kernel_rfl) (by kernel_rfl) (by kernel_rfl) (fun _ _ _ h => h) (Or.inl ⟨by rfl, ?hy189⟩) (by assumption) ?rest189
            case hy189 => (intro w1 hSw; (try dsimp only at hSw); obtain ⟨h0, h1, h2, h3, h4, -⟩ := hSw; go_simp; try with_reducible rfl)
            try simp only [Act.put, List.setIfInBounds_toArray, List.set_cons_zero, List.set_cons_succ]
            refine wpAnyH_take (i := 3) (oi := { dst := some 53, op := Op.lookup 56 (Operand.tmp 52) (Operand.const (Value.string { data := #[42] })) false, type := 4, pos := "keeps.go:70", after := #[{ on := 2, ground := Ground.data }], guard := none }) (v := ?v190) rfl (by kernel_rfl) (by kernel_rfl) (by kernel_rfl) (fun _ _ _ h => h) (Or.inl ⟨by rfl, ?hy190⟩) (by assumption) ?rest190
            case hy190 => (intro w1 hSw; (try dsimp only at hSw); obtain ⟨h0, h1, h2, h3, h4, -⟩ := hSw; go_simp; try with_reducible rfl)
            try simp only [Act.put, List.setIfInBounds_toArray, List.set_cons_zero, List.set_cons_succ]
            refine wpAnyH_take (i := 4) (oi := { dst := some 54, op := Op.binOp BinOp.neq 4 (Operand.tmp 51) (Operand.tmp 53) 4, type := 4, pos := "keeps.go:70", after := #[{ on := 1, ground := Ground.data }, { on := 3, ground := Ground.data }], guard := none }) (v := ?v191) rfl (by kernel_rfl) (by kernel_rfl) (by kernel_rfl) (fun _ _ _ h => h) (Or.inl ⟨by rfl, ?hy191⟩) (by assumption) ?rest191
            case hy191 => (intro w1 hSw; (try dsimp only at hSw); obtain ⟨h0, h1, h2, h3, h4, -⟩ := hSw; go_simp; try with_reducible rfl)
            try simp only [Act.put, List.setIfInBounds_toArray, List.set_cons_zero, List.set_cons_succ]
            refine wpAnyH_take (i := 5) (oi := { dst := some 55, op := Op.move (Operand.tmp 54), type := 4, pos := "keeps.go:70", after := #[{ on := 4, ground := Ground.data }], guard := none }) (v := ?v192) rfl (by kernel_rfl) (by kernel_rfl) (by kernel_rfl) (fun _ _ _ h => h) (Or.inl ⟨by rfl, ?hy192⟩) (by assumption) ?rest192
            case hy192 => (intro w1 hSw; (try dsimp only at hSw); obtain ⟨h0, h1, h2, h3, h4, -⟩ := hSw; go_simp; try with_reducible rfl)
            try simp only [Act.put, List.setIfInBounds_toArray, List.set_cons_zero, List.set_cons_succ]
            refine wpAnyH_take (i := 6) (oi := { dst := some 56, op := Op.load 27 (Operand.tmp 4), type := 27, pos := "keeps.go:70", after := #[{ on := 5, ground := Ground.guard }], guard := some (5, false) }) (v := ?v193) rfl (by kernel_rfl) (by kernel_rfl) (by kernel_rfl) (fun _ _ _ h => h) (Or.inl ⟨by rfl, ?hy193⟩) (by assumption) ?rest193
            case hy193 => (intro w1 hSw; (try dsimp only at hSw); obtain ⟨h0, h1, h2, h3, h4, -⟩ := hSw; go_simp; try with_reducible rfl)
            try simp only [Act.put, List.setIfInBounds_toArray, List.set_cons_zero, List.set_cons_succ]
            refine wpAnyH_take (i := 8) (oi := { dst := some 58, op := Op.move (Operand.tmp 5), type := 56, pos := "keeps.go:70", after := #[{ on := 5, ground := Ground.guard }], guard := some (5, false) }) (v := ?v194) rfl (by kernel_rfl) (by kernel_rfl) (by kernel_rfl) (fun _ _ _ h => h) (Or.inl ⟨by rfl, ?hy194⟩) (by assumption) ?rest194
            case hy194 => (intro w1 hSw; (try dsimp only at hSw); obtain ⟨h0, h1, h2, h3, h4, -⟩ := hSw; go_simp; try with_reducible rfl)
            try simp only [Act.put, List.setIfInBounds_toArray, List.set_cons_zero, List.set_cons_succ]
            refine wpAnyH_take (i := 9) (oi := { dst := some 59, op := Op.lookup 56 (Operand.tmp 58) (Operand.const (Value.string { data := #[97] })) false, type := 4, pos := "keeps.go:70", after := #[{ on := 8, ground := Ground.data }, { on := 5, ground := Ground.guard }], guard := some (5, false) }) (v := ?v195) rfl (by kernel_rfl) (by kernel_rfl) (by kernel_rfl) (fun _ _ _ h => h) (Or.inl ⟨by rfl, ?hy195⟩) (by assumption) ?rest195
            case hy195 => (intro w1 hSw; (try dsimp only at hSw); obtain ⟨h0, h1, h2, h3, h4, -⟩ := hSw; go_simp; try with_reducible rfl)
            try simp only [Act.put, List.setIfInBounds_toArray, List.set_cons_zero, List.set_cons_succ]
            refine wpAnyH_ready (rs := [7]) (by kernel_rfl) (by simp) ?_
            refine AllReadyH.cons (o := { dst := some 57, op := Op.call { callee := Callee.value (Operand.func 17), args := #[Operand.tmp 56, Operand.const (Value.string { data := #[97] })], argTypes := #[27, 9] }, type := 4, pos := "keeps.go:70", after := #[{ on := 6, ground := Ground.data }, { on := 5, ground := Ground.chain }, { on := 5, ground := Ground.guard }], guard := some (5, false) }) rfl (fun K hK => ?_) AllReadyH.nil
            go_simp
            refine (has_any (sl := nl) q155 hha).mono ?_
            rintro e w158 ⟨rfl, hb159⟩
            have q160 := q154.later hb159
            have q161 := q155.later hb159
            have q162 := q156.later hb159
            have q163 := q157.later hb159
            refine hK.out _ _ (⟨q160.cell 0, q160.cell 1, q162.look' (s := [97]) (by decide) ta, q162.look' (s := [99]) (by decide) tc, q162.look' (s := [42]) (by decide) HN.out.2.2.2, trivial⟩) (fun hHeld => ?_)
            clear hK K
            try simp only [Act.put, List.setIfInBounds_toArray, List.set_cons_zero, List.set_cons_succ]
            refine wpAnyH_take (i := 10) (oi := { dst := some 60, op := Op.move (Operand.tmp 59), type := 4, pos := "keeps.go:70", after := #[{ on := 9, ground := Ground.data }, { on := 7, ground := Ground.chain }, { on := 5, ground := Ground.guard }], guard := some (5, false) }) (v := ?v196) rfl (by kernel_rfl) (by kernel_rfl) (by kernel_rfl) (fun _ _ _ h => h) (Or.inl ⟨by rfl, ?hy196⟩) (by assumption) ?rest196
            case hy196 => (intro w1 hSw; (try dsimp only at hSw); obtain ⟨h0, h1, h2, h3, h4, -⟩ := hSw; go_simp; try with_reducible rfl)
            try simp only [Act.put, List.setIfInBounds_toArray, List.set_cons_zero, List.set_cons_succ]
            refine wpAnyH_take (i := 11) (oi := { dst := some 61, op := Op.move (Operand.tmp 5), type := 56, pos := "keeps.go:70", after := #[{ on := 10, ground := Ground.guard }], guard := some (10, false) }) (v := undef) rfl (by kernel_rfl) (by kernel_rfl) (by kernel_rfl) (fun _ _ _ h => h) (Or.inr ⟨by rfl, rfl⟩) (by assumption) ?_
            try simp only [Act.put, List.setIfInBounds_toArray, List.set_cons_zero, List.set_cons_succ]
            refine wpAnyH_take (i := 12) (oi := { dst := some 62, op := Op.lookup 56 (Operand.tmp 61) (Operand.const (Value.string { data := #[42] })) false, type := 4, pos := "keeps.go:70", after := #[{ on := 11, ground := Ground.data }, { on := 10, ground := Ground.guard }], guard := some (10, false) }) (v := undef) rfl (by kernel_rfl) (by kernel_rfl) (by kernel_rfl) (fun _ _ _ h => h) (Or.inr ⟨by rfl, rfl⟩) (by assumption) ?_
            try simp only [Act.put, List.setIfInBounds_toArray, List.set_cons_zero, List.set_cons_succ]
            refine wpAnyH_take (i := 13) (oi := { dst := some 63, op := Op.pick (Operand.tmp 60) (Operand.const (Value.bool true)) (Operand.tmp 62), type := 4, pos := "keeps.go:70", after := #[{ on := 10, ground := Ground.data }, { on := 12, ground := Ground.data }, { on := 5, ground := Ground.guard }], guard := some (5, false) }) (v := ?v199) rfl (by kernel_rfl) (by kernel_rfl) (by kernel_rfl) (fun _ _ _ h => h) (Or.inl ⟨by rfl, ?hy199⟩) (by assumption) ?rest199
            case hy199 => (intro w1 hSw; (try dsimp only at hSw); obtain ⟨h0, h1, h2, h3, h4, -⟩ := hSw; go_simp; try with_reducible rfl)
            try simp only [Act.put, List.setIfInBounds_toArray, List.set_cons_zero, List.set_cons_succ]
            refine wpAnyH_take (i := 14) (oi := { dst := some 64, op := Op.binOp BinOp.neq 4 (Operand.tmp 57) (Operand.tmp 63) 4, type := 4, pos := "keeps.go:70", after := #[{ on := 7, ground := Ground.data }, { on := 13, ground := Ground.data }, { on := 5, ground := Ground.guard }], guard := some (5, false) }) (v := ?v200) rfl (by kernel_rfl) (by kernel_rfl) (by kernel_rfl) (fun _ _ _ h => h) (Or.inl ⟨by rfl, ?hy200⟩) (by assumption) ?rest200
            case hy200 => (intro w1 hSw; (try dsimp only at hSw); obtain ⟨h0, h1, h2, h3, h4, -⟩ := hSw; go_simp; try with_reducible rfl)
            try simp only [Act.put, List.setIfInBounds_toArray, List.set_cons_zero, List.set_cons_succ]
            refine wpAnyH_take (i := 15) (oi := { dst := some 65, op := Op.pick (Operand.tmp 55) (Operand.const (Value.bool true)) (Operand.tmp 64), type := 4, pos := "keeps.go:70", after := #[{ on := 5, ground := Ground.data }, { on := 14, ground := Ground.data }], guard := none }) (v := ?v201) rfl (by kernel_rfl) (by kernel_rfl) (by kernel_rfl) (fun _ _ _ h => h) (Or.inl ⟨by rfl, ?hy201⟩) (by assumption) ?rest201
            case hy201 => (intro w1 hSw; (try dsimp only at hSw); obtain ⟨h0, h1, h2, h3, h4, -⟩ := hSw; go_simp; try with_reducible rfl)
            try simp only [Act.put, List.setIfInBounds_toArray, List.set_cons_zero, List.set_cons_succ]
            refine wpAnyH_take (i := 16) (oi := { dst := some 66, op := Op.move (Operand.tmp 65), type := 4, pos := "keeps.go:70", after := #[{ on := 15, ground := Ground.data }, { on := 10, ground := Ground.chain }], guard := none }) (v := ?v202) rfl (by kernel_rfl) (by kernel_rfl) (by kernel_rfl) (fun _ _ _ h => h) (Or.inl ⟨by rfl, ?hy202⟩) (by assumption) ?rest202
            case hy202 => (intro w1 hSw; (try dsimp only at hSw); obtain ⟨h0, h1, h2, h3, h4, -⟩ := hSw; go_simp; try with_reducible rfl)
            try simp only [Act.put, List.setIfInBounds_toArray, List.set_cons_zero, List.set_cons_succ]
            refine wpAnyH_take (i := 17) (oi := { dst := some 67, op := Op.load 27 (Operand.tmp 4), type := 27, pos := "keeps.go:70", after := #[{ on := 16, ground := Ground.guard }], guard := some (16, false) }) (v := ?v203) rfl (by kernel_rfl) (by kernel_rfl) (by kernel_rfl) (fun _ _ _ h => h) (Or.inl ⟨by rfl, ?hy203⟩) (by assumption) ?rest203
            case hy203 => (intro w1 hSw; (try dsimp only at hSw); obtain ⟨h0, h1, h2, h3, h4, -⟩ := hSw; go_simp; try with_reducible rfl)
            try simp only [Act.put, List.setIfInBounds_toArray, List.set_cons_zero, List.set_cons_succ]
            refine wpAnyH_take (i := 19) (oi := { dst := some 69, op := Op.move (Operand.tmp 5), type := 56, pos := "keeps.go:70", after := #[{ on := 16, ground := Ground.guard }], guard := some (16, false) }) (v := ?v204) rfl (by kernel_rfl) (by kernel_rfl) (by kernel_rfl) (fun _ _ _ h => h) (Or.inl ⟨by rfl, ?hy204⟩) (by assumption) ?rest204
            case hy204 => (intro w1 hSw; (try dsimp only at hSw); obtain ⟨h0, h1, h2, h3, h4, -⟩ := hSw; go_simp; try with_reducible rfl)
            try simp only [Act.put, List.setIfInBounds_toArray, List.set_cons_zero, List.set_cons_succ]
            refine wpAnyH_take (i := 20) (oi := { dst := some 70, op := Op.lookup 56 (Operand.tmp 69) (Operand.const (Value.string { data := #[99] })) false, type := 4, pos := "keeps.go:70", after := #[{ on := 19, ground := Ground.data }, { on := 16, ground := Ground.guard }], guard := some (16, false) }) (v := ?v205) rfl (by kernel_rfl) (by kernel_rfl) (by kernel_rfl) (fun _ _ _ h => h) (Or.inl ⟨by rfl, ?hy205⟩) (by assumption) ?rest205
            case hy205 => (intro w1 hSw; (try dsimp only at hSw); obtain ⟨h0, h1, h2, h3, h4, -⟩ := hSw; go_simp; try with_reducible rfl)
            try simp only [Act.put, List.setIfInBounds_toArray, List.set_cons_zero, List.set_cons_succ]
            refine wpAnyH_ready (rs := [18]) (by kernel_rfl) (by simp) ?_
            refine AllReadyH.cons (o := { dst := some 68, op := Op.call { callee := Callee.value (Operand.func 17), args := #[Operand.tmp 67, Operand.const (Value.string { data := #[99] })], argTypes := #[27, 9] }, type := 4, pos := "keeps.go:70", after := #[{ on := 17, ground := Ground.data }, { on := 16, ground := Ground.chain }, { on := 16, ground := Ground.guard }], guard := some (16, false) }) rfl (fun K hK => ?_) AllReadyH.nil
            go_simp
            refine (has_any (sl := nl) q161 hcc).mono ?_
            rintro e w164 ⟨rfl, hb165⟩
            have q166 := q160.later hb165
            have q167 := q161.later hb165
            have q168 := q162.later hb165
            have q169 := q163.later hb165
            refine hK.out _ _ (⟨q166.cell 0, q166.cell 1, q168.look' (s := [97]) (by decide) ta, q168.look' (s := [99]) (by decide) tc, q168.look' (s := [42]) (by decide) HN.out.2.2.2, trivial⟩) (fun hHeld => ?_)
            clear hK K
            try simp only [Act.put, List.setIfInBounds_toArray, List.set_cons_zero, List.set_cons_succ]
            refine wpAnyH_take (i := 21) (oi := { dst := some 71, op := Op.move (Operand.tmp 70), type := 4, pos := "keeps.go:70", after := #[{ on := 20, ground := Ground.data }, { on := 18, ground := Ground.chain }, { on := 16, ground := Ground.guard }], guard := some (16, false) }) (v := ?v206) rfl (by kernel_rfl) (by kernel_rfl) (by kernel_rfl) (fun _ _ _ h => h) (Or.inl ⟨by rfl, ?hy206⟩) (by assumption) ?rest206
            case hy206 => (intro w1 hSw; (try dsimp only at hSw); obtain ⟨h0, h1, h2, h3, h4, -⟩ := hSw; go_simp; try with_reducible rfl)
            try simp only [Act.put, List.setIfInBounds_toArray, List.set_cons_zero, List.set_cons_succ]
            refine wpAnyH_take (i := 22) (oi := { dst := some 72, op := Op.move (Operand.tmp 5), type := 56, pos := "keeps.go:70", after := #[{ on := 21, ground := Ground.guard }], guard := some (21, false) }) (v := ?v207) rfl (by kernel_rfl) (by kernel_rfl) (by kernel_rfl) (fun _ _ _ h => h) (Or.inl ⟨by rfl, ?hy207⟩) (by assumption) ?rest207
            case hy207 => (intro w1 hSw; (try dsimp only at hSw); obtain ⟨h0, h1, h2, h3, h4, -⟩ := hSw; go_simp; try with_reducible rfl)
            try simp only [Act.put, List.setIfInBounds_toArray, List.set_cons_zero, List.set_cons_succ]
            refine wpAnyH_take (i := 23) (oi := { dst := some 73, op := Op.lookup 56 (Operand.tmp 72) (Operand.const (Value.string { data := #[42] })) false, type := 4, pos := "keeps.go:70", after := #[{ on := 22, ground := Ground.data }, { on := 21, ground := Ground.guard }], guard := some (21, false) }) (v := ?v208) rfl (by kernel_rfl) (by kernel_rfl) (by kernel_rfl) (fun _ _ _ h => h) (Or.inl ⟨by rfl, ?hy208⟩) (by assumption) ?rest208
            case hy208 => (intro w1 hSw; (try dsimp only at hSw); obtain ⟨h0, h1, h2, h3, h4, -⟩ := hSw; go_simp; try with_reducible rfl)
            try simp only [Act.put, List.setIfInBounds_toArray, List.set_cons_zero, List.set_cons_succ]
            refine wpAnyH_take (i := 24) (oi := { dst := some 74, op := Op.pick (Operand.tmp 71) (Operand.const (Value.bool true)) (Operand.tmp 73), type := 4, pos := "keeps.go:70", after := #[{ on := 21, ground := Ground.data }, { on := 23, ground := Ground.data }, { on := 16, ground := Ground.guard }], guard := some (16, false) }) (v := ?v209) rfl (by kernel_rfl) (by kernel_rfl) (by kernel_rfl) (fun _ _ _ h => h) (Or.inl ⟨by rfl, ?hy209⟩) (by assumption) ?rest209
            case hy209 => (intro w1 hSw; (try dsimp only at hSw); obtain ⟨h0, h1, h2, h3, h4, -⟩ := hSw; go_simp; try with_reducible rfl)
            try simp only [Act.put, List.setIfInBounds_toArray, List.set_cons_zero, List.set_cons_succ]
            refine wpAnyH_take (i := 25) (oi := { dst := some 75, op := Op.binOp BinOp.neq 4 (Operand.tmp 68) (Operand.tmp 74) 4, type := 4, pos := "keeps.go:70", after := #[{ on := 18, ground := Ground.data }, { on := 24, ground := Ground.data }, { on := 16, ground := Ground.guard }], guard := some (16, false) }) (v := ?v210) rfl (by kernel_rfl) (by kernel_rfl) (by kernel_rfl) (fun _ _ _ h => h) (Or.inl ⟨by rfl, ?hy210⟩) (by assumption) ?rest210
            case hy210 => (intro w1 hSw; (try dsimp only at hSw); obtain ⟨h0, h1, h2, h3, h4, -⟩ := hSw; go_simp; try with_reducible rfl)
            try simp only [Act.put, List.setIfInBounds_toArray, List.set_cons_zero, List.set_cons_succ]
            refine wpAnyH_take (i := 26) (oi := { dst := some 76, op := Op.pick (Operand.tmp 66) (Operand.const (Value.bool true)) (Operand.tmp 75), type := 4, pos := "keeps.go:70", after := #[{ on := 16, ground := Ground.data }, { on := 25, ground := Ground.data }], guard := none }) (v := ?v211) rfl (by kernel_rfl) (by kernel_rfl) (by kernel_rfl) (fun _ _ _ h => h) (Or.inl ⟨by rfl, ?hy211⟩) (by assumption) ?rest211
            case hy211 => (intro w1 hSw; (try dsimp only at hSw); obtain ⟨h0, h1, h2, h3, h4, -⟩ := hSw; go_simp; try with_reducible rfl)
            try simp only [Act.put, List.setIfInBounds_toArray, List.set_cons_zero, List.set_cons_succ]
            refine wpAnyH_take (i := 27) (oi := { dst := some 77, op := Op.move (Operand.tmp 76), type := 4, pos := "keeps.go:70", after := #[{ on := 26, ground := Ground.data }, { on := 21, ground := Ground.chain }], guard := none }) (v := ?v212) rfl (by kernel_rfl) (by kernel_rfl) (by kernel_rfl) (fun _ _ _ h => h) (Or.inl ⟨by rfl, ?hy212⟩) (by assumption) ?rest212
            case hy212 => (intro w1 hSw; (try dsimp only at hSw); obtain ⟨h0, h1, h2, h3, h4, -⟩ := hSw; go_simp; try with_reducible rfl)
            try simp only [Act.put, List.setIfInBounds_toArray, List.set_cons_zero, List.set_cons_succ]
            refine wpAnyH_take (i := 28) (oi := { dst := some 78, op := Op.load 27 (Operand.tmp 4), type := 27, pos := "keeps.go:70", after := #[{ on := 27, ground := Ground.guard }], guard := some (27, false) }) (v := ?v213) rfl (by kernel_rfl) (by kernel_rfl) (by kernel_rfl) (fun _ _ _ h => h) (Or.inl ⟨by rfl, ?hy213⟩) (by assumption) ?rest213
            case hy213 => (intro w1 hSw; (try dsimp only at hSw); obtain ⟨h0, h1, h2, h3, h4, -⟩ := hSw; go_simp; try with_reducible rfl)
            try simp only [Act.put, List.setIfInBounds_toArray, List.set_cons_zero, List.set_cons_succ]
            refine wpAnyH_take (i := 30) (oi := { dst := some 80, op := Op.move (Operand.tmp 5), type := 56, pos := "keeps.go:70", after := #[{ on := 27, ground := Ground.guard }], guard := some (27, false) }) (v := ?v214) rfl (by kernel_rfl) (by kernel_rfl) (by kernel_rfl) (fun _ _ _ h => h) (Or.inl ⟨by rfl, ?hy214⟩) (by assumption) ?rest214
            case hy214 => (intro w1 hSw; (try dsimp only at hSw); obtain ⟨h0, h1, h2, h3, h4, -⟩ := hSw; go_simp; try with_reducible rfl)
            try simp only [Act.put, List.setIfInBounds_toArray, List.set_cons_zero, List.set_cons_succ]
            refine wpAnyH_take (i := 31) (oi := { dst := some 81, op := Op.lookup 56 (Operand.tmp 80) (Operand.const (Value.string { data := #[42] })) false, type := 4, pos := "keeps.go:70", after := #[{ on := 30, ground := Ground.data }, { on := 27, ground := Ground.guard }], guard := some (27, false) }) (v := ?v215) rfl (by kernel_rfl) (by kernel_rfl) (by kernel_rfl) (fun _ _ _ h => h) (Or.inl ⟨by rfl, ?hy215⟩) (by assumption) ?rest215
            case hy215 => (intro w1 hSw; (try dsimp only at hSw); obtain ⟨h0, h1, h2, h3, h4, -⟩ := hSw; go_simp; try with_reducible rfl)
            try simp only [Act.put, List.setIfInBounds_toArray, List.set_cons_zero, List.set_cons_succ]
            refine wpAnyH_ready (rs := [29]) (by kernel_rfl) (by simp) ?_
            refine AllReadyH.cons (o := { dst := some 79, op := Op.call { callee := Callee.value (Operand.func 17), args := #[Operand.tmp 78, Operand.const (Value.string { data := #[122, 122] })], argTypes := #[27, 9] }, type := 4, pos := "keeps.go:70", after := #[{ on := 28, ground := Ground.data }, { on := 27, ground := Ground.chain }, { on := 27, ground := Ground.guard }], guard := some (27, false) }) rfl (fun K hK => ?_) AllReadyH.nil
            go_simp
            refine (has_any (sl := nl) q167 hzz).mono ?_
            rintro e w170 ⟨rfl, hb171⟩
            have q172 := q166.later hb171
            have q173 := q167.later hb171
            have q174 := q168.later hb171
            have q175 := q169.later hb171
            refine hK.out _ _ (⟨q172.cell 0, q172.cell 1, q174.look' (s := [97]) (by decide) ta, q174.look' (s := [99]) (by decide) tc, q174.look' (s := [42]) (by decide) HN.out.2.2.2, trivial⟩) (fun hHeld => ?_)
            clear hK K
            try simp only [Act.put, List.setIfInBounds_toArray, List.set_cons_zero, List.set_cons_succ]
            refine wpAnyH_take (i := 32) (oi := { dst := some 82, op := Op.binOp BinOp.neq 4 (Operand.tmp 79) (Operand.tmp 81) 4, type := 4, pos := "keeps.go:70", after := #[{ on := 29, ground := Ground.data }, { on := 31, ground := Ground.data }, { on := 27, ground := Ground.guard }], guard := some (27, false) }) (v := ?v216) rfl (by kernel_rfl) (by kernel_rfl) (by kernel_rfl) (fun _ _ _ h => h) (Or.inl ⟨by rfl, ?hy216⟩) (by assumption) ?rest216
            case hy216 => (intro w1 hSw; (try dsimp only at hSw); obtain ⟨h0, h1, h2, h3, h4, -⟩ := hSw; go_simp; try with_reducible rfl)
            try simp only [Act.put, List.setIfInBounds_toArray, List.set_cons_zero, List.set_cons_succ]
            refine wpAnyH_take (i := 33) (oi := { dst := some 83, op := Op.pick (Operand.tmp 77) (Operand.const (Value.bool true)) (Operand.tmp 82), type := 4, pos := "keeps.go:70", after := #[{ on := 27, ground := Ground.data }, { on := 32, ground := Ground.data }], guard := none }) (v := ?v217) rfl (by kernel_rfl) (by kernel_rfl) (by kernel_rfl) (fun _ _ _ h => h) (Or.inl ⟨by rfl, ?hy217⟩) (by assumption) ?rest217
            case hy217 => (intro w1 hSw; (try dsimp only at hSw); obtain ⟨h0, h1, h2, h3, h4, -⟩ := hSw; go_simp; try with_reducible rfl)
            try simp only [Act.put, List.setIfInBounds_toArray, List.set_cons_zero, List.set_cons_succ]
            refine wpAnyH_done (by kernel_rfl) ?_ _
            go_wp2_with fail
            go_roundw
            case rel => exact ⟨k + 1, T', na, nl, a5, c5, by omega, by omega, by go_num, ⟨HN.out.2.1, q172, q173, q174, q175⟩⟩
            case measure => simp [RowKit.intOf]; omega
          · rw [ta, Bool.true_or] at hha
            rw [tc, Bool.true_or] at hcc
            obtain ⟨w176, hw177, hb178⟩ := drew_new w7
            have q179 := B7.later hb178
            have q180 := T7.later hb178
            have q181 := M7.later hb178
            have q182 := hb07.later hb178
            refine wp_region_held_drew (S := (fun w' => w'.cell? ⟨R, 0, none⟩ = some (.bool na) ∧ w'.cell? ⟨R, 1, none⟩ = some (.slice a5 nl.length c5) ∧ (Instr.lookup 56 (.map (some (R + 1))) (.string ⟨#[97]⟩) false).run Try.prog w' = .ok (.bool true) w' ∧ (Instr.lookup 56 (.map (some (R + 1))) (.string ⟨#[99]⟩) false).run Try.prog w' = .ok (.bool true) w' ∧ (Instr.lookup 56 (.map (some (R + 1))) (.string ⟨#[42]⟩) false).run Try.prog w' = .ok (.bool na) w' ∧ True)) (by kernel_rfl) (by rw [hw177]; exact ⟨q179.cell 0, q179.cell 1, q181.look' (s := [97]) (by decide) ta, q181.look' (s := [99]) (by decide) tc, q181.look' (s := [42]) (by decide) HN.out.2.2.2, trivial⟩) (fun hHeld => ?_)
            rw [hw177] at hHeld ⊢
            refine wpAnyH_take (i := 0) (oi := { dst := some 50, op := Op.fieldAddr 27 (Operand.tmp 4) 0, type := 0, pos := "keeps.go:70", after := #[], guard := none }) (v := ?v218) rfl (by kernel_rfl) (by kernel_rfl) (by kernel_rfl) (fun _ _ _ h => h) (Or.inl ⟨by rfl, ?hy218⟩) (by assumption) ?rest218
            case hy218 => (intro w1 hSw; (try dsimp only at hSw); obtain ⟨h0, h1, h2, h3, h4, -⟩ := hSw; go_simp; try with_reducible rfl)
            try simp only [Act.put, List.setIfInBounds_toArray, List.set_cons_zero, List.set_cons_succ]
            refine wpAnyH_take (i := 1) (oi := { dst := some 51, op := Op.load 4 (Operand.tmp 50), type := 4, pos := "keeps.go:70", after := #[{ on := 0, ground := Ground.data }], guard := none }) (v := ?v219) rfl (by kernel_rfl) (by kernel_rfl) (by kernel_rfl) (fun _ _ _ h => h) (Or.inl ⟨by rfl, ?hy219⟩) (by assumption) ?rest219
            case hy219 => (intro w1 hSw; (try dsimp only at hSw); obtain ⟨h0, h1, h2, h3, h4, -⟩ := hSw; go_simp; try with_reducible rfl)
            try simp only [Act.put, List.setIfInBounds_toArray, List.set_cons_zero, List.set_cons_succ]
            refine wpAnyH_take (i := 2) (oi := { dst := some 52, op := Op.move (Operand.tmp 5), type := 56, pos := "keeps.go:70", after := #[], guard := none }) (v := ?v220) rfl (by kernel_rfl) (by kernel_rfl) (by kernel_rfl) (fun _ _ _ h => h) (Or.inl ⟨by rfl, ?hy220⟩) (by assumption) ?rest220
            case hy220 => (intro w1 hSw; (try dsimp only at hSw); obtain ⟨h0, h1, h2, h3, h4, -⟩ := hSw; go_simp; try with_reducible rfl)
            try simp only [Act.put, List.setIfInBounds_toArray, List.set_cons_zero, List.set_cons_succ]
            refine wpAnyH_take (i := 3) (oi := { dst := some 53, op := Op.lookup 56 (Operand.tmp 52) (Operand.const (Value.string { data := #[42] })) false, type := 4, pos := "keeps.go:70", after := #[{ on := 2, ground := Ground.data }], guard := none }) (v := ?v221) rfl (by kernel_rfl) (by kernel_rfl) (by kernel_rfl) (fun _ _ _ h => h) (Or.inl ⟨by rfl, ?hy221⟩) (by assumption) ?rest221
            case hy221 => (intro w1 hSw; (try dsimp only at hSw); obtain ⟨h0, h1, h2, h3, h4, -⟩ := hSw; go_simp; try with_reducible rfl)
            try simp only [Act.put, List.setIfInBounds_toArray, List.set_cons_zero, List.set_cons_succ]
            refine wpAnyH_take (i := 4) (oi := { dst := some 54, op := Op.binOp BinOp.neq 4 (Operand.tmp 51) (Operand.tmp 53) 4, type := 4, pos := "keeps.go:70", after := #[{ on := 1, ground := Ground.data }, { on := 3, ground := Ground.data }], guard := none }) (v := ?v222) rfl (by kernel_rfl) (by kernel_rfl) (by kernel_rfl) (fun _ _ _ h => h) (Or.inl ⟨by rfl, ?hy222⟩) (by assumption) ?rest222
            case hy222 => (intro w1 hSw; (try dsimp only at hSw); obtain ⟨h0, h1, h2, h3, h4, -⟩ := hSw; go_simp; try with_reducible rfl)
            try simp only [Act.put, List.setIfInBounds_toArray, List.set_cons_zero, List.set_cons_succ]
            refine wpAnyH_take (i := 5) (oi := { dst := some 55, op := Op.move (Operand.tmp 54), type := 4, pos := "keeps.go:70", after := #[{ on := 4, ground := Ground.data }], guard := none }) (v := ?v223) rfl (by kernel_rfl) (by kernel_rfl) (by kernel_rfl) (fun _ _ _ h => h) (Or.inl ⟨by rfl, ?hy223⟩) (by assumption) ?rest223
            case hy223 => (intro w1 hSw; (try dsimp only at hSw); obtain ⟨h0, h1, h2, h3, h4, -⟩ := hSw; go_simp; try with_reducible rfl)
            try simp only [Act.put, List.setIfInBounds_toArray, List.set_cons_zero, List.set_cons_succ]
            refine wpAnyH_take (i := 6) (oi := { dst := some 56, op := Op.load 27 (Operand.tmp 4), type := 27, pos := "keeps.go:70", after := #[{ on := 5, ground := Ground.guard }], guard := some (5, false) }) (v := ?v224) rfl (by kernel_rfl) (by kernel_rfl) (by kernel_rfl) (fun _ _ _ h => h) (Or.inl ⟨by rfl, ?hy224⟩) (by assumption) ?rest224
            case hy224 => (intro w1 hSw; (try dsimp only at hSw); obtain ⟨h0, h1, h2, h3, h4, -⟩ := hSw; go_simp; try with_reducible rfl)
            try simp only [Act.put, List.setIfInBounds_toArray, List.set_cons_zero, List.set_cons_succ]
            refine wpAnyH_take (i := 8) (oi := { dst := some 58, op := Op.move (Operand.tmp 5), type := 56, pos := "keeps.go:70", after := #[{ on := 5, ground := Ground.guard }], guard := some (5, false) }) (v := ?v225) rfl (by kernel_rfl) (by kernel_rfl) (by kernel_rfl) (fun _ _ _ h => h) (Or.inl ⟨by rfl, ?hy225⟩) (by assumption) ?rest225
            case hy225 => (intro w1 hSw; (try dsimp only at hSw); obtain ⟨h0, h1, h2, h3, h4, -⟩ := hSw; go_simp; try with_reducible rfl)
            try simp only [Act.put, List.setIfInBounds_toArray, List.set_cons_zero, List.set_cons_succ]
            refine wpAnyH_take (i := 9) (oi := { dst := some 59, op := Op.lookup 56 (Operand.tmp 58) (Operand.const (Value.string { data := #[97] })) false, type := 4, pos := "keeps.go:70", after := #[{ on := 8, ground := Ground.data }, { on := 5, ground := Ground.guard }], guard := some (5, false) }) (v := ?v226) rfl (by kernel_rfl) (by kernel_rfl) (by kernel_rfl) (fun _ _ _ h => h) (Or.inl ⟨by rfl, ?hy226⟩) (by assumption) ?rest226
            case hy226 => (intro w1 hSw; (try dsimp only at hSw); obtain ⟨h0, h1, h2, h3, h4, -⟩ := hSw; go_simp; try with_reducible rfl)
            try simp only [Act.put, List.setIfInBounds_toArray, List.set_cons_zero, List.set_cons_succ]
            refine wpAnyH_ready (rs := [7]) (by kernel_rfl) (by simp) ?_
            refine AllReadyH.cons (o := { dst := some 57, op := Op.call { callee := Callee.value (Operand.func 17), args := #[Operand.tmp 56, Operand.const (Value.string { data := #[97] })], argTypes := #[27, 9] }, type := 4, pos := "keeps.go:70", after := #[{ on := 6, ground := Ground.data }, { on := 5, ground := Ground.chain }, { on := 5, ground := Ground.guard }], guard := some (5, false) }) rfl (fun K hK => ?_) AllReadyH.nil
            go_simp
            refine (has_any (sl := nl) q180 hha).mono ?_
            rintro e w183 ⟨rfl, hb184⟩
            have q185 := q179.later hb184
            have q186 := q180.later hb184
            have q187 := q181.later hb184
            have q188 := q182.later hb184
            refine hK.out _ _ (⟨q185.cell 0, q185.cell 1, q187.look' (s := [97]) (by decide) ta, q187.look' (s := [99]) (by decide) tc, q187.look' (s := [42]) (by decide) HN.out.2.2.2, trivial⟩) (fun hHeld => ?_)
            clear hK K
            try simp only [Act.put, List.setIfInBounds_toArray, List.set_cons_zero, List.set_cons_succ]
            refine wpAnyH_take (i := 10) (oi := { dst := some 60, op := Op.move (Operand.tmp 59), type := 4, pos := "keeps.go:70", after := #[{ on := 9, ground := Ground.data }, { on := 7, ground := Ground.chain }, { on := 5, ground := Ground.guard }], guard := some (5, false) }) (v := ?v227) rfl (by kernel_rfl) (by kernel_rfl) (by kernel_rfl) (fun _ _ _ h => h) (Or.inl ⟨by rfl, ?hy227⟩) (by assumption) ?rest227
            case hy227 => (intro w1 hSw; (try dsimp only at hSw); obtain ⟨h0, h1, h2, h3, h4, -⟩ := hSw; go_simp; try with_reducible rfl)
            try simp only [Act.put, List.setIfInBounds_toArray, List.set_cons_zero, List.set_cons_succ]
            refine wpAnyH_take (i := 11) (oi := { dst := some 61, op := Op.move (Operand.tmp 5), type := 56, pos := "keeps.go:70", after := #[{ on := 10, ground := Ground.guard }], guard := some (10, false) }) (v := undef) rfl (by kernel_rfl) (by kernel_rfl) (by kernel_rfl) (fun _ _ _ h => h) (Or.inr ⟨by rfl, rfl⟩) (by assumption) ?_
            try simp only [Act.put, List.setIfInBounds_toArray, List.set_cons_zero, List.set_cons_succ]
            refine wpAnyH_take (i := 12) (oi := { dst := some 62, op := Op.lookup 56 (Operand.tmp 61) (Operand.const (Value.string { data := #[42] })) false, type := 4, pos := "keeps.go:70", after := #[{ on := 11, ground := Ground.data }, { on := 10, ground := Ground.guard }], guard := some (10, false) }) (v := undef) rfl (by kernel_rfl) (by kernel_rfl) (by kernel_rfl) (fun _ _ _ h => h) (Or.inr ⟨by rfl, rfl⟩) (by assumption) ?_
            try simp only [Act.put, List.setIfInBounds_toArray, List.set_cons_zero, List.set_cons_succ]
            refine wpAnyH_take (i := 13) (oi := { dst := some 63, op := Op.pick (Operand.tmp 60) (Operand.const (Value.bool true)) (Operand.tmp 62), type := 4, pos := "keeps.go:70", after := #[{ on := 10, ground := Ground.data }, { on := 12, ground := Ground.data }, { on := 5, ground := Ground.guard }], guard := some (5, false) }) (v := ?v230) rfl (by kernel_rfl) (by kernel_rfl) (by kernel_rfl) (fun _ _ _ h => h) (Or.inl ⟨by rfl, ?hy230⟩) (by assumption) ?rest230
            case hy230 => (intro w1 hSw; (try dsimp only at hSw); obtain ⟨h0, h1, h2, h3, h4, -⟩ := hSw; go_simp; try with_reducible rfl)
            try simp only [Act.put, List.setIfInBounds_toArray, List.set_cons_zero, List.set_cons_succ]
            refine wpAnyH_take (i := 14) (oi := { dst := some 64, op := Op.binOp BinOp.neq 4 (Operand.tmp 57) (Operand.tmp 63) 4, type := 4, pos := "keeps.go:70", after := #[{ on := 7, ground := Ground.data }, { on := 13, ground := Ground.data }, { on := 5, ground := Ground.guard }], guard := some (5, false) }) (v := ?v231) rfl (by kernel_rfl) (by kernel_rfl) (by kernel_rfl) (fun _ _ _ h => h) (Or.inl ⟨by rfl, ?hy231⟩) (by assumption) ?rest231
            case hy231 => (intro w1 hSw; (try dsimp only at hSw); obtain ⟨h0, h1, h2, h3, h4, -⟩ := hSw; go_simp; try with_reducible rfl)
            try simp only [Act.put, List.setIfInBounds_toArray, List.set_cons_zero, List.set_cons_succ]
            refine wpAnyH_take (i := 15) (oi := { dst := some 65, op := Op.pick (Operand.tmp 55) (Operand.const (Value.bool true)) (Operand.tmp 64), type := 4, pos := "keeps.go:70", after := #[{ on := 5, ground := Ground.data }, { on := 14, ground := Ground.data }], guard := none }) (v := ?v232) rfl (by kernel_rfl) (by kernel_rfl) (by kernel_rfl) (fun _ _ _ h => h) (Or.inl ⟨by rfl, ?hy232⟩) (by assumption) ?rest232
            case hy232 => (intro w1 hSw; (try dsimp only at hSw); obtain ⟨h0, h1, h2, h3, h4, -⟩ := hSw; go_simp; try with_reducible rfl)
            try simp only [Act.put, List.setIfInBounds_toArray, List.set_cons_zero, List.set_cons_succ]
            refine wpAnyH_take (i := 16) (oi := { dst := some 66, op := Op.move (Operand.tmp 65), type := 4, pos := "keeps.go:70", after := #[{ on := 15, ground := Ground.data }, { on := 10, ground := Ground.chain }], guard := none }) (v := ?v233) rfl (by kernel_rfl) (by kernel_rfl) (by kernel_rfl) (fun _ _ _ h => h) (Or.inl ⟨by rfl, ?hy233⟩) (by assumption) ?rest233
            case hy233 => (intro w1 hSw; (try dsimp only at hSw); obtain ⟨h0, h1, h2, h3, h4, -⟩ := hSw; go_simp; try with_reducible rfl)
            try simp only [Act.put, List.setIfInBounds_toArray, List.set_cons_zero, List.set_cons_succ]
            refine wpAnyH_take (i := 17) (oi := { dst := some 67, op := Op.load 27 (Operand.tmp 4), type := 27, pos := "keeps.go:70", after := #[{ on := 16, ground := Ground.guard }], guard := some (16, false) }) (v := ?v234) rfl (by kernel_rfl) (by kernel_rfl) (by kernel_rfl) (fun _ _ _ h => h) (Or.inl ⟨by rfl, ?hy234⟩) (by assumption) ?rest234
            case hy234 => (intro w1 hSw; (try dsimp only at hSw); obtain ⟨h0, h1, h2, h3, h4, -⟩ := hSw; go_simp; try with_reducible rfl)
            try simp only [Act.put, List.setIfInBounds_toArray, List.set_cons_zero, List.set_cons_succ]
            refine wpAnyH_take (i := 19) (oi := { dst := some 69, op := Op.move (Operand.tmp 5), type := 56, pos := "keeps.go:70", after := #[{ on := 16, ground := Ground.guard }], guard := some (16, false) }) (v := ?v235) rfl (by kernel_rfl) (by kernel_rfl) (by kernel_rfl) (fun _ _ _ h => h) (Or.inl ⟨by rfl, ?hy235⟩) (by assumption) ?rest235
            case hy235 => (intro w1 hSw; (try dsimp only at hSw); obtain ⟨h0, h1, h2, h3, h4, -⟩ := hSw; go_simp; try with_reducible rfl)
            try simp only [Act.put, List.setIfInBounds_toArray, List.set_cons_zero, List.set_cons_succ]
            refine wpAnyH_take (i := 20) (oi := { dst := some 70, op := Op.lookup 56 (Operand.tmp 69) (Operand.const (Value.string { data := #[99] })) false, type := 4, pos := "keeps.go:70", after := #[{ on := 19, ground := Ground.data }, { on := 16, ground := Ground.guard }], guard := some (16, false) }) (v := ?v236) rfl (by kernel_rfl) (by kernel_rfl) (by kernel_rfl) (fun _ _ _ h => h) (Or.inl ⟨by rfl, ?hy236⟩) (by assumption) ?rest236
            case hy236 => (intro w1 hSw; (try dsimp only at hSw); obtain ⟨h0, h1, h2, h3, h4, -⟩ := hSw; go_simp; try with_reducible rfl)
            try simp only [Act.put, List.setIfInBounds_toArray, List.set_cons_zero, List.set_cons_succ]
            refine wpAnyH_ready (rs := [18]) (by kernel_rfl) (by simp) ?_
            refine AllReadyH.cons (o := { dst := some 68, op := Op.call { callee := Callee.value (Operand.func 17), args := #[Operand.tmp 67, Operand.const (Value.string { data := #[99] })], argTypes := #[27, 9] }, type := 4, pos := "keeps.go:70", after := #[{ on := 17, ground := Ground.data }, { on := 16, ground := Ground.chain }, { on := 16, ground := Ground.guard }], guard := some (16, false) }) rfl (fun K hK => ?_) AllReadyH.nil
            go_simp
            refine (has_any (sl := nl) q186 hcc).mono ?_
            rintro e w189 ⟨rfl, hb190⟩
            have q191 := q185.later hb190
            have q192 := q186.later hb190
            have q193 := q187.later hb190
            have q194 := q188.later hb190
            refine hK.out _ _ (⟨q191.cell 0, q191.cell 1, q193.look' (s := [97]) (by decide) ta, q193.look' (s := [99]) (by decide) tc, q193.look' (s := [42]) (by decide) HN.out.2.2.2, trivial⟩) (fun hHeld => ?_)
            clear hK K
            try simp only [Act.put, List.setIfInBounds_toArray, List.set_cons_zero, List.set_cons_succ]
            refine wpAnyH_take (i := 21) (oi := { dst := some 71, op := Op.move (Operand.tmp 70), type := 4, pos := "keeps.go:70", after := #[{ on := 20, ground := Ground.data }, { on := 18, ground := Ground.chain }, { on := 16, ground := Ground.guard }], guard := some (16, false) }) (v := ?v237) rfl (by kernel_rfl) (by kernel_rfl) (by kernel_rfl) (fun _ _ _ h => h) (Or.inl ⟨by rfl, ?hy237⟩) (by assumption) ?rest237
            case hy237 => (intro w1 hSw; (try dsimp only at hSw); obtain ⟨h0, h1, h2, h3, h4, -⟩ := hSw; go_simp; try with_reducible rfl)
            try simp only [Act.put, List.setIfInBounds_toArray, List.set_cons_zero, List.set_cons_succ]
            refine wpAnyH_take (i := 22) (oi := { dst := some 72, op := Op.move (Operand.tmp 5), type := 56, pos := "keeps.go:70", after := #[{ on := 21, ground := Ground.guard }], guard := some (21, false) }) (v := undef) rfl (by kernel_rfl) (by kernel_rfl) (by kernel_rfl) (fun _ _ _ h => h) (Or.inr ⟨by rfl, rfl⟩) (by assumption) ?_
            try simp only [Act.put, List.setIfInBounds_toArray, List.set_cons_zero, List.set_cons_succ]
            refine wpAnyH_take (i := 23) (oi := { dst := some 73, op := Op.lookup 56 (Operand.tmp 72) (Operand.const (Value.string { data := #[42] })) false, type := 4, pos := "keeps.go:70", after := #[{ on := 22, ground := Ground.data }, { on := 21, ground := Ground.guard }], guard := some (21, false) }) (v := undef) rfl (by kernel_rfl) (by kernel_rfl) (by kernel_rfl) (fun _ _ _ h => h) (Or.inr ⟨by rfl, rfl⟩) (by assumption) ?_
            try simp only [Act.put, List.setIfInBounds_toArray, List.set_cons_zero, List.set_cons_succ]
            refine wpAnyH_take (i := 24) (oi := { dst := some 74, op := Op.pick (Operand.tmp 71) (Operand.const (Value.bool true)) (Operand.tmp 73), type := 4, pos := "keeps.go:70", after := #[{ on := 21, ground := Ground.data }, { on := 23, ground := Ground.data }, { on := 16, ground := Ground.guard }], guard := some (16, false) }) (v := ?v240) rfl (by kernel_rfl) (by kernel_rfl) (by kernel_rfl) (fun _ _ _ h => h) (Or.inl ⟨by rfl, ?hy240⟩) (by assumption) ?rest240
            case hy240 => (intro w1 hSw; (try dsimp only at hSw); obtain ⟨h0, h1, h2, h3, h4, -⟩ := hSw; go_simp; try with_reducible rfl)
            try simp only [Act.put, List.setIfInBounds_toArray, List.set_cons_zero, List.set_cons_succ]
            refine wpAnyH_take (i := 25) (oi := { dst := some 75, op := Op.binOp BinOp.neq 4 (Operand.tmp 68) (Operand.tmp 74) 4, type := 4, pos := "keeps.go:70", after := #[{ on := 18, ground := Ground.data }, { on := 24, ground := Ground.data }, { on := 16, ground := Ground.guard }], guard := some (16, false) }) (v := ?v241) rfl (by kernel_rfl) (by kernel_rfl) (by kernel_rfl) (fun _ _ _ h => h) (Or.inl ⟨by rfl, ?hy241⟩) (by assumption) ?rest241
            case hy241 => (intro w1 hSw; (try dsimp only at hSw); obtain ⟨h0, h1, h2, h3, h4, -⟩ := hSw; go_simp; try with_reducible rfl)
            try simp only [Act.put, List.setIfInBounds_toArray, List.set_cons_zero, List.set_cons_succ]
            refine wpAnyH_take (i := 26) (oi := { dst := some 76, op := Op.pick (Operand.tmp 66) (Operand.const (Value.bool true)) (Operand.tmp 75), type := 4, pos := "keeps.go:70", after := #[{ on := 16, ground := Ground.data }, { on := 25, ground := Ground.data }], guard := none }) (v := ?v242) rfl (by kernel_rfl) (by kernel_rfl) (by kernel_rfl) (fun _ _ _ h => h) (Or.inl ⟨by rfl, ?hy242⟩) (by assumption) ?rest242
            case hy242 => (intro w1 hSw; (try dsimp only at hSw); obtain ⟨h0, h1, h2, h3, h4, -⟩ := hSw; go_simp; try with_reducible rfl)
            try simp only [Act.put, List.setIfInBounds_toArray, List.set_cons_zero, List.set_cons_succ]
            refine wpAnyH_take (i := 27) (oi := { dst := some 77, op := Op.move (Operand.tmp 76), type := 4, pos := "keeps.go:70", after := #[{ on := 26, ground := Ground.data }, { on := 21, ground := Ground.chain }], guard := none }) (v := ?v243) rfl (by kernel_rfl) (by kernel_rfl) (by kernel_rfl) (fun _ _ _ h => h) (Or.inl ⟨by rfl, ?hy243⟩) (by assumption) ?rest243
            case hy243 => (intro w1 hSw; (try dsimp only at hSw); obtain ⟨h0, h1, h2, h3, h4, -⟩ := hSw; go_simp; try with_reducible rfl)
            try simp only [Act.put, List.setIfInBounds_toArray, List.set_cons_zero, List.set_cons_succ]
            refine wpAnyH_take (i := 28) (oi := { dst := some 78, op := Op.load 27 (Operand.tmp 4), type := 27, pos := "keeps.go:70", after := #[{ on := 27, ground := Ground.guard }], guard := some (27, false) }) (v := ?v244) rfl (by kernel_rfl) (by kernel_rfl) (by kernel_rfl) (fun _ _ _ h => h) (Or.inl ⟨by rfl, ?hy244⟩) (by assumption) ?rest244
            case hy244 => (intro w1 hSw; (try dsimp only at hSw); obtain ⟨h0, h1, h2, h3, h4, -⟩ := hSw; go_simp; try with_reducible rfl)
            try simp only [Act.put, List.setIfInBounds_toArray, List.set_cons_zero, List.set_cons_succ]
            refine wpAnyH_take (i := 30) (oi := { dst := some 80, op := Op.move (Operand.tmp 5), type := 56, pos := "keeps.go:70", after := #[{ on := 27, ground := Ground.guard }], guard := some (27, false) }) (v := ?v245) rfl (by kernel_rfl) (by kernel_rfl) (by kernel_rfl) (fun _ _ _ h => h) (Or.inl ⟨by rfl, ?hy245⟩) (by assumption) ?rest245
            case hy245 => (intro w1 hSw; (try dsimp only at hSw); obtain ⟨h0, h1, h2, h3, h4, -⟩ := hSw; go_simp; try with_reducible rfl)
            try simp only [Act.put, List.setIfInBounds_toArray, List.set_cons_zero, List.set_cons_succ]
            refine wpAnyH_take (i := 31) (oi := { dst := some 81, op := Op.lookup 56 (Operand.tmp 80) (Operand.const (Value.string { data := #[42] })) false, type := 4, pos := "keeps.go:70", after := #[{ on := 30, ground := Ground.data }, { on := 27, ground := Ground.guard }], guard := some (27, false) }) (v := ?v246) rfl (by kernel_rfl) (by kernel_rfl) (by kernel_rfl) (fun _ _ _ h => h) (Or.inl ⟨by rfl, ?hy246⟩) (by assumption) ?rest246
            case hy246 => (intro w1 hSw; (try dsimp only at hSw); obtain ⟨h0, h1, h2, h3, h4, -⟩ := hSw; go_simp; try with_reducible rfl)
            try simp only [Act.put, List.setIfInBounds_toArray, List.set_cons_zero, List.set_cons_succ]
            refine wpAnyH_ready (rs := [29]) (by kernel_rfl) (by simp) ?_
            refine AllReadyH.cons (o := { dst := some 79, op := Op.call { callee := Callee.value (Operand.func 17), args := #[Operand.tmp 78, Operand.const (Value.string { data := #[122, 122] })], argTypes := #[27, 9] }, type := 4, pos := "keeps.go:70", after := #[{ on := 28, ground := Ground.data }, { on := 27, ground := Ground.chain }, { on := 27, ground := Ground.guard }], guard := some (27, false) }) rfl (fun K hK => ?_) AllReadyH.nil
            go_simp
            refine (has_any (sl := nl) q192 hzz).mono ?_
            rintro e w195 ⟨rfl, hb196⟩
            have q197 := q191.later hb196
            have q198 := q192.later hb196
            have q199 := q193.later hb196
            have q200 := q194.later hb196
            refine hK.out _ _ (⟨q197.cell 0, q197.cell 1, q199.look' (s := [97]) (by decide) ta, q199.look' (s := [99]) (by decide) tc, q199.look' (s := [42]) (by decide) HN.out.2.2.2, trivial⟩) (fun hHeld => ?_)
            clear hK K
            try simp only [Act.put, List.setIfInBounds_toArray, List.set_cons_zero, List.set_cons_succ]
            refine wpAnyH_take (i := 32) (oi := { dst := some 82, op := Op.binOp BinOp.neq 4 (Operand.tmp 79) (Operand.tmp 81) 4, type := 4, pos := "keeps.go:70", after := #[{ on := 29, ground := Ground.data }, { on := 31, ground := Ground.data }, { on := 27, ground := Ground.guard }], guard := some (27, false) }) (v := ?v247) rfl (by kernel_rfl) (by kernel_rfl) (by kernel_rfl) (fun _ _ _ h => h) (Or.inl ⟨by rfl, ?hy247⟩) (by assumption) ?rest247
            case hy247 => (intro w1 hSw; (try dsimp only at hSw); obtain ⟨h0, h1, h2, h3, h4, -⟩ := hSw; go_simp; try with_reducible rfl)
            try simp only [Act.put, List.setIfInBounds_toArray, List.set_cons_zero, List.set_cons_succ]
            refine wpAnyH_take (i := 33) (oi := { dst := some 83, op := Op.pick (Operand.tmp 77) (Operand.const (Value.bool true)) (Operand.tmp 82), type := 4, pos := "keeps.go:70", after := #[{ on := 27, ground := Ground.data }, { on := 32, ground := Ground.data }], guard := none }) (v := ?v248) rfl (by kernel_rfl) (by kernel_rfl) (by kernel_rfl) (fun _ _ _ h => h) (Or.inl ⟨by rfl, ?hy248⟩) (by assumption) ?rest248
            case hy248 => (intro w1 hSw; (try dsimp only at hSw); obtain ⟨h0, h1, h2, h3, h4, -⟩ := hSw; go_simp; try with_reducible rfl)
            try simp only [Act.put, List.setIfInBounds_toArray, List.set_cons_zero, List.set_cons_succ]
            refine wpAnyH_done (by kernel_rfl) ?_ _
            go_wp2_with fail
            go_roundw
            case rel => exact ⟨k + 1, T', na, nl, a5, c5, by omega, by omega, by go_num, ⟨HN.out.2.1, q197, q198, q199, q200⟩⟩
            case measure => simp [RowKit.intOf]; omega
    · by_cases hlt : k < n
      · obtain rfl : k = 30 := by omega
        have b1 : ((30 : Nat) : Int) < (n : Int) := by omega
        obtain ⟨wo, hwo⟩ : ∃ wo, wo = wr := ⟨_, rfl⟩
        subst hwo
        have HD := Lib.hid hd
        have hbw := hd.bel.size
        clear hd
        go_wp2_with fail
        go_loopw [9, 8] (fun i v wr => ∃ j : Nat, j ≤ 4 ∧ i = .int .i64 j ∧ wr.ownsRow wo.heap.size 9 1 v ((tab4.take j).filter T).length (tsV ((tab4.take j).filter T)) ∧ Below wo.heap.size wo wr) (fun i _ _ => 4 - (RowKit.intOf i).toNat)
        case atStart => exact ⟨0, Nat.zero_le _, rfl, World.ownsRow_nil _ _ _ _, Below.refl _ _⟩
        case round =>
          obtain ⟨j, hj, rfl, hown, hbx⟩ := hrel
          by_cases hj4 : j < 4
          · obtain ⟨x, hxx⟩ : ∃ x, tab4.getD j [] = x := ⟨_, rfl⟩
            have htc := tab4_cell j hj4
            rw [hxx] at htc
            have hx4 : tab4[j]? = some x := by
              rw [← hxx, List.getD_eq_getElem?_getD, List.getElem?_eq_getElem (by exact hj4)]; rfl
            have hx3 : x.length ≤ 3 := by have h3 : ∀ n ∈ tab4, n.length ≤ 3 := by { unfold tab4; decide }; exact h3 x (List.mem_of_getElem? hx4)
            have b0 : (0 : Int) ≤ (j : Int) := by omega
            have b1 : (j : Int) < 4 := by omega
            have hfn := filt_next (T := T) hx4
            have hl : ((tab4.take j).filter T).length ≤ 4 := Nat.le_trans (List.length_filter_le _ _) (by rw [List.length_take]; omega)
            obtain ⟨w3, hw3, hb3, p3⟩ := alloc_new wr #[.string ⟨#[97]⟩, .string ⟨#[98]⟩, .string ⟨#[99]⟩, .string ⟨#[42]⟩] 9
            have l3 : w3.cell? ⟨wr.heap.size, j, none⟩ = some (.string ⟨x.toArray⟩) := (p3.cell j).trans htc
            have M3 := (HD.out.map.later hbx).later hb3
            have O3 := ownsRow_later hown hb3
            have B3 := hbx.trans (hb3.mono hbx.size)
            have hs3 := B3.size
            cases ht : T x with
            | false =>
              rw [ht] at hfn
              have hlk := M3.look' hx3 ht
              have HO := Lib.hid (And.intro O3 (And.intro B3 hfn))
              clear O3 B3 hfn M3 hown hbx hb3 p3 htc hx4 hxx ht
              go_wp2_with fail
              go_roundw
              case rel => exact ⟨j + 1, by omega, by go_num, by rw [HO.out.2.2]; simpa using HO.out.1, HO.out.2.1⟩
              case measure => simp [RowKit.intOf]; omega
            | true =>
              rw [ht] at hfn
              have hlk := M3.look' hx3 ht
              obtain ⟨w4, hw4, hb4, p4⟩ := alloc_new w3 #[.string ⟨#[97]⟩, .string ⟨#[98]⟩, .string ⟨#[99]⟩, .string ⟨#[42]⟩] 9
              have l4 : w4.cell? ⟨w3.heap.size, j, none⟩ = some (.string ⟨x.toArray⟩) := (p4.cell j).trans htc
              obtain ⟨w5, hw5, hb5, p5⟩ := alloc_new w4 #[.string ⟨x.toArray⟩] 9
              have O5 := ownsRow_later (ownsRow_later O3 hb4) hb5
              have B5 := (B3.trans (hb4.mono B3.size)).trans (hb5.mono (by have := B3.size; have := hb4.size; omega))
              have hs5 := B5.size
              have HO := Lib.hid (And.intro O5 (And.intro B5 hfn))
              have P5 := Lib.hid p5
              obtain ⟨i0, hi, hz0, hz1, hz2⟩ := info_parts Try.infoStr
              clear O3 B3 O5 B5 hfn M3 hown hbx hb3 p3 hb4 p4 hb5 p5 htc hx4 hxx ht
              go_wp2_with (at_builtin; go_must (refine wpList_append_own _ rfl _ _ 23 rfl wo.heap.size 9 i0 _ 1 16 Try.underlying23 hi hz0 hz1 hz2 rfl (by omega) _ _ _ rfl HO.out.1 ⟨w4.heap.size, 0, none⟩ 1 1 (tsV [x]) rfl rfl (World.news_of_block (cs := #[.string ⟨x.toArray⟩]) (t := 9) (fr := (0, 0)) P5.out) (tsV_one _) (by unfold maxLen; omega) (by omega) (by omega) ?_; intro v6 w6 hown6 hgrow6 _))
              have HB6 := Lib.hid (HO.out.2.1.grown hgrow6 HO.out.2.1.size (fun j hj => (HO.out.1.lt j hj).1))
              have HO6 := Lib.hid (show w6.ownsRow wo.heap.size 9 1 v6 ((tab4.take (j + 1)).filter T).length (tsV ((tab4.take (j + 1)).filter T)) by rw [HO.out.2.2, if_pos rfl, tsV_append, List.length_append]; exact hown6)
              clear hown6 hgrow6
              go_wp2_with fail
              go_roundw
              case rel => exact ⟨j + 1, by omega, by go_num, HO6.out, HB6.out⟩
              case measure => simp [RowKit.intOf]; omega
          · obtain rfl : j = 4 := by omega
            have hE : tab4.take 4 = tab4 := rfl
            rw [hE] at hown
            obtain ⟨L, hL⟩ : ∃ L, tab4.filter T = L := ⟨_, rfl⟩
            have hof : nOf okN L = ⟨sa, sl⟩ := by rw [← hL, cs_list]; exact HD.out.set
            have hLf : NmFit L := by
              have hl : L.length ≤ 4 := by rw [← hL]; exact List.length_filter_le T tab4
              refine ⟨fun s hs => ?_, by omega⟩
              have h3 : ∀ n ∈ tab4, n.length ≤ 3 := by unfold tab4; decide
              rw [← hL] at hs
              have := h3 s (List.mem_filter.1 hs).1
              unfold maxLen; omega
            rw [hL] at hown
            obtain ⟨aL, cL, rfl⟩ := owns_slice hown
            have tL : TsAt wr (.slice aL L.length cL) L := RowV.own hown
            have P0 := HD.out.box.later hbx
            have T0 := HD.out.ts.later hbx
            have B0 : Base w wr := HD.out.bel.trans (hbx.mono HD.out.bel.size)
            have HO := Lib.hid (And.intro hof (And.intro hLf HD.out.fit))
            clear hown hL hof hLf hbx hE
            go_wp2_with fail
            obtain ⟨w201, hw202, hb203⟩ := drew_new wr
            have q204 := P0.later hb203
            have q205 := T0.later hb203
            have q206 := tL.later hb203
            have q207 := B0.later hb203
            refine wp_region_held_drew (S := (fun w' => w'.cell? ⟨R, 0, none⟩ = some (.bool sa) ∧ w'.cell? ⟨R, 1, none⟩ = some (.slice a sl.length c) ∧ True)) (by kernel_rfl) (by rw [hw202]; exact ⟨q204.cell 0, q204.cell 1, trivial⟩) (fun hHeld => ?_)
            rw [hw202] at hHeld ⊢
            refine wpAnyH_take (i := 0) (oi := { dst := some 101, op := Op.move (Operand.tmp 3), type := 4, pos := "keeps.go:80", after := #[], guard := none }) (v := ?v249) rfl (by kernel_rfl) (by kernel_rfl) (by kernel_rfl) (fun _ _ _ h => h) (Or.inl ⟨by rfl, ?hy249⟩) (by assumption) ?rest249
            case hy249 => (intro w1 hSw; (try dsimp only at hSw); obtain ⟨h0, h1, -⟩ := hSw; go_simp; try with_reducible rfl)
            try simp only [Act.put, List.setIfInBounds_toArray, List.set_cons_zero, List.set_cons_succ]
            refine wpAnyH_take (i := 1) (oi := { dst := some 102, op := Op.move (Operand.tmp 101), type := 4, pos := "keeps.go:80", after := #[{ on := 0, ground := Ground.data }], guard := none }) (v := ?v250) rfl (by kernel_rfl) (by kernel_rfl) (by kernel_rfl) (fun _ _ _ h => h) (Or.inl ⟨by rfl, ?hy250⟩) (by assumption) ?rest250
            case hy250 => (intro w1 hSw; (try dsimp only at hSw); obtain ⟨h0, h1, -⟩ := hSw; go_simp; try with_reducible rfl)
            try simp only [Act.put, List.setIfInBounds_toArray, List.set_cons_zero, List.set_cons_succ]
            refine wpAnyH_take (i := 2) (oi := { dst := some 103, op := Op.load 27 (Operand.tmp 4), type := 27, pos := "keeps.go:80", after := #[{ on := 1, ground := Ground.guard }], guard := some (1, true) }) (v := ?v251) rfl (by kernel_rfl) (by kernel_rfl) (by kernel_rfl) (fun _ _ _ h => h) (Or.inl ⟨by rfl, ?hy251⟩) (by assumption) ?rest251
            case hy251 => (intro w1 hSw; (try dsimp only at hSw); obtain ⟨h0, h1, -⟩ := hSw; go_simp; try with_reducible rfl)
            try simp only [Act.put, List.setIfInBounds_toArray, List.set_cons_zero, List.set_cons_succ]
            refine wpAnyH_take (i := 3) (oi := { dst := some 104, op := Op.move (Operand.tmp 8), type := 23, pos := "keeps.go:80", after := #[{ on := 1, ground := Ground.guard }], guard := some (1, true) }) (v := ?v252) rfl (by kernel_rfl) (by kernel_rfl) (by kernel_rfl) (fun _ _ _ h => h) (Or.inl ⟨by rfl, ?hy252⟩) (by assumption) ?rest252
            case hy252 => (intro w1 hSw; (try dsimp only at hSw); obtain ⟨h0, h1, -⟩ := hSw; go_simp; try with_reducible rfl)
            try simp only [Act.put, List.setIfInBounds_toArray, List.set_cons_zero, List.set_cons_succ]
            refine wpAnyH_ready (rs := [4]) (by kernel_rfl) (by simp) ?_
            refine AllReadyH.cons (o := { dst := some 105, op := Op.call { callee := Callee.value (Operand.func 11), args := #[Operand.tmp 104], argTypes := #[23] }, type := 27, pos := "keeps.go:80", after := #[{ on := 3, ground := Ground.data }, { on := 1, ground := Ground.chain }, { on := 1, ground := Ground.guard }], guard := some (1, true) }) rfl (fun K hK => ?_) AllReadyH.nil
            go_simp
            refine (of_any q206 HO.out.2.1 HO.out.1).mono ?_
            rintro e w211 ⟨oa208, oc209, rfl, h210, hb212⟩
            have q213 := q204.later hb212
            have q214 := q205.later hb212
            have q215 := q206.later hb212
            have q216 := q207.later hb212
            refine hK.out _ _ (⟨q213.cell 0, q213.cell 1, trivial⟩) (fun hHeld => ?_)
            clear hK K
            try simp only [Act.put, List.setIfInBounds_toArray, List.set_cons_zero, List.set_cons_succ]
            refine wpAnyH_ready (rs := [5]) (by kernel_rfl) (by simp) ?_
            refine AllReadyH.cons (o := { dst := some 106, op := Op.call { callee := Callee.value (Operand.func 32), args := #[Operand.tmp 103, Operand.tmp 105], argTypes := #[27, 27] }, type := 4, pos := "keeps.go:80", after := #[{ on := 2, ground := Ground.data }, { on := 4, ground := Ground.data }, { on := 4, ground := Ground.chain }, { on := 1, ground := Ground.guard }], guard := some (1, true) }) rfl (fun K hK => ?_) AllReadyH.nil
            go_simp
            refine (same_any (al := sl) (bl := sl) q214 h210 HO.out.2.2.1 HO.out.2.2.1 (nSame_self rfl (fun _ => Iff.rfl))).mono ?_
            rintro e w217 ⟨rfl, hb218⟩
            have q219 := q213.later hb218
            have q220 := q214.later hb218
            have q221 := q215.later hb218
            have q222 := q216.later hb218
            have q223 := h210.later hb218
            refine hK.out _ _ (⟨q219.cell 0, q219.cell 1, trivial⟩) (fun hHeld => ?_)
            clear hK K
            try simp only [Act.put, List.setIfInBounds_toArray, List.set_cons_zero, List.set_cons_succ]
            refine wpAnyH_take (i := 6) (oi := { dst := some 107, op := Op.pick (Operand.tmp 102) (Operand.tmp 106) (Operand.const (Value.bool false)), type := 4, pos := "keeps.go:80", after := #[{ on := 1, ground := Ground.data }, { on := 5, ground := Ground.data }], guard := none }) (v := ?v253) rfl (by kernel_rfl) (by kernel_rfl) (by kernel_rfl) (fun _ _ _ h => h) (Or.inl ⟨by rfl, ?hy253⟩) (by assumption) ?rest253
            case hy253 => (intro w1 hSw; (try dsimp only at hSw); obtain ⟨h0, h1, -⟩ := hSw; go_simp; try with_reducible rfl)
            try simp only [Act.put, List.setIfInBounds_toArray, List.set_cons_zero, List.set_cons_succ]
            refine wpAnyH_take (i := 7) (oi := { dst := some 2, op := Op.assign (Operand.tmp 107), type := 4, pos := "keeps.go:80", after := #[{ on := 6, ground := Ground.data }, { on := 5, ground := Ground.chain }, { on := 0, ground := Ground.phase }, { on := 1, ground := Ground.phase }, { on := 2, ground := Ground.phase }, { on := 3, ground := Ground.phase }, { on := 4, ground := Ground.phase }, { on := 5, ground := Ground.phase }, { on := 6, ground := Ground.phase }], guard := none }) (v := ?v254) rfl (by kernel_rfl) (by kernel_rfl) (by kernel_rfl) (fun _ _ _ h => h) (Or.inl ⟨by rfl, ?hy254⟩) (by assumption) ?rest254
            case hy254 => (intro w1 hSw; (try dsimp only at hSw); obtain ⟨h0, h1, -⟩ := hSw; go_simp; try with_reducible rfl)
            try simp only [Act.put, List.setIfInBounds_toArray, List.set_cons_zero, List.set_cons_succ]
            refine wpAnyH_done (by kernel_rfl) ?_ _
            go_wp2_with fail
            go_ret
            exact ⟨rfl, q222⟩
      · have b1 : ¬ (k : Int) < (n : Int) := by omega
        obtain ⟨wo, hwo⟩ : ∃ wo, wo = wr := ⟨_, rfl⟩
        subst hwo
        have HD := Lib.hid hd
        have hbw := hd.bel.size
        clear hd
        go_wp2_with fail
        go_loopw [9, 8] (fun i v wr => ∃ j : Nat, j ≤ 4 ∧ i = .int .i64 j ∧ wr.ownsRow wo.heap.size 9 1 v ((tab4.take j).filter T).length (tsV ((tab4.take j).filter T)) ∧ Below wo.heap.size wo wr) (fun i _ _ => 4 - (RowKit.intOf i).toNat)
        case atStart => exact ⟨0, Nat.zero_le _, rfl, World.ownsRow_nil _ _ _ _, Below.refl _ _⟩
        case round =>
          obtain ⟨j, hj, rfl, hown, hbx⟩ := hrel
          by_cases hj4 : j < 4
          · obtain ⟨x, hxx⟩ : ∃ x, tab4.getD j [] = x := ⟨_, rfl⟩
            have htc := tab4_cell j hj4
            rw [hxx] at htc
            have hx4 : tab4[j]? = some x := by
              rw [← hxx, List.getD_eq_getElem?_getD, List.getElem?_eq_getElem (by exact hj4)]; rfl
            have hx3 : x.length ≤ 3 := by have h3 : ∀ n ∈ tab4, n.length ≤ 3 := by { unfold tab4; decide }; exact h3 x (List.mem_of_getElem? hx4)
            have b0 : (0 : Int) ≤ (j : Int) := by omega
            have b1 : (j : Int) < 4 := by omega
            have hfn := filt_next (T := T) hx4
            have hl : ((tab4.take j).filter T).length ≤ 4 := Nat.le_trans (List.length_filter_le _ _) (by rw [List.length_take]; omega)
            obtain ⟨w3, hw3, hb3, p3⟩ := alloc_new wr #[.string ⟨#[97]⟩, .string ⟨#[98]⟩, .string ⟨#[99]⟩, .string ⟨#[42]⟩] 9
            have l3 : w3.cell? ⟨wr.heap.size, j, none⟩ = some (.string ⟨x.toArray⟩) := (p3.cell j).trans htc
            have M3 := (HD.out.map.later hbx).later hb3
            have O3 := ownsRow_later hown hb3
            have B3 := hbx.trans (hb3.mono hbx.size)
            have hs3 := B3.size
            cases ht : T x with
            | false =>
              rw [ht] at hfn
              have hlk := M3.look' hx3 ht
              have HO := Lib.hid (And.intro O3 (And.intro B3 hfn))
              clear O3 B3 hfn M3 hown hbx hb3 p3 htc hx4 hxx ht
              go_wp2_with fail
              go_roundw
              case rel => exact ⟨j + 1, by omega, by go_num, by rw [HO.out.2.2]; simpa using HO.out.1, HO.out.2.1⟩
              case measure => simp [RowKit.intOf]; omega
            | true =>
              rw [ht] at hfn
              have hlk := M3.look' hx3 ht
              obtain ⟨w4, hw4, hb4, p4⟩ := alloc_new w3 #[.string ⟨#[97]⟩, .string ⟨#[98]⟩, .string ⟨#[99]⟩, .string ⟨#[42]⟩] 9
              have l4 : w4.cell? ⟨w3.heap.size, j, none⟩ = some (.string ⟨x.toArray⟩) := (p4.cell j).trans htc
              obtain ⟨w5, hw5, hb5, p5⟩ := alloc_new w4 #[.string ⟨x.toArray⟩] 9
              have O5 := ownsRow_later (ownsRow_later O3 hb4) hb5
              have B5 := (B3.trans (hb4.mono B3.size)).trans (hb5.mono (by have := B3.size; have := hb4.size; omega))
              have hs5 := B5.size
              have HO := Lib.hid (And.intro O5 (And.intro B5 hfn))
              have P5 := Lib.hid p5
              obtain ⟨i0, hi, hz0, hz1, hz2⟩ := info_parts Try.infoStr
              clear O3 B3 O5 B5 hfn M3 hown hbx hb3 p3 hb4 p4 hb5 p5 htc hx4 hxx ht
              go_wp2_with (at_builtin; go_must (refine wpList_append_own _ rfl _ _ 23 rfl wo.heap.size 9 i0 _ 1 16 Try.underlying23 hi hz0 hz1 hz2 rfl (by omega) _ _ _ rfl HO.out.1 ⟨w4.heap.size, 0, none⟩ 1 1 (tsV [x]) rfl rfl (World.news_of_block (cs := #[.string ⟨x.toArray⟩]) (t := 9) (fr := (0, 0)) P5.out) (tsV_one _) (by unfold maxLen; omega) (by omega) (by omega) ?_; intro v6 w6 hown6 hgrow6 _))
              have HB6 := Lib.hid (HO.out.2.1.grown hgrow6 HO.out.2.1.size (fun j hj => (HO.out.1.lt j hj).1))
              have HO6 := Lib.hid (show w6.ownsRow wo.heap.size 9 1 v6 ((tab4.take (j + 1)).filter T).length (tsV ((tab4.take (j + 1)).filter T)) by rw [HO.out.2.2, if_pos rfl, tsV_append, List.length_append]; exact hown6)
              clear hown6 hgrow6
              go_wp2_with fail
              go_roundw
              case rel => exact ⟨j + 1, by omega, by go_num, HO6.out, HB6.out⟩
              case measure => simp [RowKit.intOf]; omega
          · obtain rfl : j = 4 := by omega
            have hE : tab4.take 4 = tab4 := rfl
            rw [hE] at hown
            obtain ⟨L, hL⟩ : ∃ L, tab4.filter T = L := ⟨_, rfl⟩
            have hof : nOf okN L = ⟨sa, sl⟩ := by rw [← hL, cs_list]; exact HD.out.set
            have hLf : NmFit L := by
              have hl : L.length ≤ 4 := by rw [← hL]; exact List.length_filter_le T tab4
              refine ⟨fun s hs => ?_, by omega⟩
              have h3 : ∀ n ∈ tab4, n.length ≤ 3 := by unfold tab4; decide
              rw [← hL] at hs
              have := h3 s (List.mem_filter.1 hs).1
              unfold maxLen; omega
            rw [hL] at hown
            obtain ⟨aL, cL, rfl⟩ := owns_slice hown
            have tL : TsAt wr (.slice aL L.length cL) L := RowV.own hown
            have P0 := HD.out.box.later hbx
            have T0 := HD.out.ts.later hbx
            have B0 : Base w wr := HD.out.bel.trans (hbx.mono HD.out.bel.size)
            have HO := Lib.hid (And.intro hof (And.intro hLf HD.out.fit))
            clear hown hL hof hLf hbx hE
            go_wp2_with fail
            obtain ⟨w224, hw225, hb226⟩ := drew_new wr
            have q227 := P0.later hb226
            have q228 := T0.later hb226
            have q229 := tL.later hb226
            have q230 := B0.later hb226
            refine wp_region_held_drew (S := (fun w' => w'.cell? ⟨R, 0, none⟩ = some (.bool sa) ∧ w'.cell? ⟨R, 1, none⟩ = some (.slice a sl.length c) ∧ True)) (by kernel_rfl) (by rw [hw225]; exact ⟨q227.cell 0, q227.cell 1, trivial⟩) (fun hHeld => ?_)
            rw [hw225] at hHeld ⊢
            refine wpAnyH_take (i := 0) (oi := { dst := some 101, op := Op.move (Operand.tmp 3), type := 4, pos := "keeps.go:80", after := #[], guard := none }) (v := ?v255) rfl (by kernel_rfl) (by kernel_rfl) (by kernel_rfl) (fun _ _ _ h => h) (Or.inl ⟨by rfl, ?hy255⟩) (by assumption) ?rest255
            case hy255 => (intro w1 hSw; (try dsimp only at hSw); obtain ⟨h0, h1, -⟩ := hSw; go_simp; try with_reducible rfl)
            try simp only [Act.put, List.setIfInBounds_toArray, List.set_cons_zero, List.set_cons_succ]
            refine wpAnyH_take (i := 1) (oi := { dst := some 102, op := Op.move (Operand.tmp 101), type := 4, pos := "keeps.go:80", after := #[{ on := 0, ground := Ground.data }], guard := none }) (v := ?v256) rfl (by kernel_rfl) (by kernel_rfl) (by kernel_rfl) (fun _ _ _ h => h) (Or.inl ⟨by rfl, ?hy256⟩) (by assumption) ?rest256
            case hy256 => (intro w1 hSw; (try dsimp only at hSw); obtain ⟨h0, h1, -⟩ := hSw; go_simp; try with_reducible rfl)
            try simp only [Act.put, List.setIfInBounds_toArray, List.set_cons_zero, List.set_cons_succ]
            refine wpAnyH_take (i := 2) (oi := { dst := some 103, op := Op.load 27 (Operand.tmp 4), type := 27, pos := "keeps.go:80", after := #[{ on := 1, ground := Ground.guard }], guard := some (1, true) }) (v := ?v257) rfl (by kernel_rfl) (by kernel_rfl) (by kernel_rfl) (fun _ _ _ h => h) (Or.inl ⟨by rfl, ?hy257⟩) (by assumption) ?rest257
            case hy257 => (intro w1 hSw; (try dsimp only at hSw); obtain ⟨h0, h1, -⟩ := hSw; go_simp; try with_reducible rfl)
            try simp only [Act.put, List.setIfInBounds_toArray, List.set_cons_zero, List.set_cons_succ]
            refine wpAnyH_take (i := 3) (oi := { dst := some 104, op := Op.move (Operand.tmp 8), type := 23, pos := "keeps.go:80", after := #[{ on := 1, ground := Ground.guard }], guard := some (1, true) }) (v := ?v258) rfl (by kernel_rfl) (by kernel_rfl) (by kernel_rfl) (fun _ _ _ h => h) (Or.inl ⟨by rfl, ?hy258⟩) (by assumption) ?rest258
            case hy258 => (intro w1 hSw; (try dsimp only at hSw); obtain ⟨h0, h1, -⟩ := hSw; go_simp; try with_reducible rfl)
            try simp only [Act.put, List.setIfInBounds_toArray, List.set_cons_zero, List.set_cons_succ]
            refine wpAnyH_ready (rs := [4]) (by kernel_rfl) (by simp) ?_
            refine AllReadyH.cons (o := { dst := some 105, op := Op.call { callee := Callee.value (Operand.func 11), args := #[Operand.tmp 104], argTypes := #[23] }, type := 27, pos := "keeps.go:80", after := #[{ on := 3, ground := Ground.data }, { on := 1, ground := Ground.chain }, { on := 1, ground := Ground.guard }], guard := some (1, true) }) rfl (fun K hK => ?_) AllReadyH.nil
            go_simp
            refine (of_any q229 HO.out.2.1 HO.out.1).mono ?_
            rintro e w234 ⟨oa231, oc232, rfl, h233, hb235⟩
            have q236 := q227.later hb235
            have q237 := q228.later hb235
            have q238 := q229.later hb235
            have q239 := q230.later hb235
            refine hK.out _ _ (⟨q236.cell 0, q236.cell 1, trivial⟩) (fun hHeld => ?_)
            clear hK K
            try simp only [Act.put, List.setIfInBounds_toArray, List.set_cons_zero, List.set_cons_succ]
            refine wpAnyH_ready (rs := [5]) (by kernel_rfl) (by simp) ?_
            refine AllReadyH.cons (o := { dst := some 106, op := Op.call { callee := Callee.value (Operand.func 32), args := #[Operand.tmp 103, Operand.tmp 105], argTypes := #[27, 27] }, type := 4, pos := "keeps.go:80", after := #[{ on := 2, ground := Ground.data }, { on := 4, ground := Ground.data }, { on := 4, ground := Ground.chain }, { on := 1, ground := Ground.guard }], guard := some (1, true) }) rfl (fun K hK => ?_) AllReadyH.nil
            go_simp
            refine (same_any (al := sl) (bl := sl) q237 h233 HO.out.2.2.1 HO.out.2.2.1 (nSame_self rfl (fun _ => Iff.rfl))).mono ?_
            rintro e w240 ⟨rfl, hb241⟩
            have q242 := q236.later hb241
            have q243 := q237.later hb241
            have q244 := q238.later hb241
            have q245 := q239.later hb241
            have q246 := h233.later hb241
            refine hK.out _ _ (⟨q242.cell 0, q242.cell 1, trivial⟩) (fun hHeld => ?_)
            clear hK K
            try simp only [Act.put, List.setIfInBounds_toArray, List.set_cons_zero, List.set_cons_succ]
            refine wpAnyH_take (i := 6) (oi := { dst := some 107, op := Op.pick (Operand.tmp 102) (Operand.tmp 106) (Operand.const (Value.bool false)), type := 4, pos := "keeps.go:80", after := #[{ on := 1, ground := Ground.data }, { on := 5, ground := Ground.data }], guard := none }) (v := ?v259) rfl (by kernel_rfl) (by kernel_rfl) (by kernel_rfl) (fun _ _ _ h => h) (Or.inl ⟨by rfl, ?hy259⟩) (by assumption) ?rest259
            case hy259 => (intro w1 hSw; (try dsimp only at hSw); obtain ⟨h0, h1, -⟩ := hSw; go_simp; try with_reducible rfl)
            try simp only [Act.put, List.setIfInBounds_toArray, List.set_cons_zero, List.set_cons_succ]
            refine wpAnyH_take (i := 7) (oi := { dst := some 2, op := Op.assign (Operand.tmp 107), type := 4, pos := "keeps.go:80", after := #[{ on := 6, ground := Ground.data }, { on := 5, ground := Ground.chain }, { on := 0, ground := Ground.phase }, { on := 1, ground := Ground.phase }, { on := 2, ground := Ground.phase }, { on := 3, ground := Ground.phase }, { on := 4, ground := Ground.phase }, { on := 5, ground := Ground.phase }, { on := 6, ground := Ground.phase }], guard := none }) (v := ?v260) rfl (by kernel_rfl) (by kernel_rfl) (by kernel_rfl) (fun _ _ _ h => h) (Or.inl ⟨by rfl, ?hy260⟩) (by assumption) ?rest260
            case hy260 => (intro w1 hSw; (try dsimp only at hSw); obtain ⟨h0, h1, -⟩ := hSw; go_simp; try with_reducible rfl)
            try simp only [Act.put, List.setIfInBounds_toArray, List.set_cons_zero, List.set_cons_succ]
            refine wpAnyH_done (by kernel_rfl) ?_ _
            go_wp2_with fail
            go_ret
            exact ⟨rfl, q245⟩
end Go.Proofs.Ytinjbfepjbogeaa
