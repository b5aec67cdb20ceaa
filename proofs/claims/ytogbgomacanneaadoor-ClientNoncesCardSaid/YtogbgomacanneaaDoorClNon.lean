/- ClientNonces: the walk. -/
import Derived.Test.YtogbgomacanneaaDoorClEx
import Derived.Test.YtogbgomacanneaaDoorNmFew
namespace Go.Proofs.YtogbgomacanneaaDoor
open Go.RowKit Go.Lib

theorem star_of : nOf okN [[42]] = ⟨true, []⟩ := by
  have h : okN [42] = false := by decide
  unfold nOf
  have e : ([[42]] : List (List UInt8)).filter okN = [] := by simp [h]
  rw [e, srt_none]; rfl
theorem star_real : Real ⟨true, []⟩ := by rw [← star_of]; exact real_of _
theorem star_fit : NmFit [[42]] := ⟨fun s hs => by obtain rfl := List.mem_singleton.1 hs; decide, by decide⟩
/-- The client with the nonce q. -/
abbrev nC (d : Bool) (ta : Option Addr) (tc q : Nat) : Cl := (Cl.new d).set ⟨true, ta, tc, [], true, q⟩ 3
theorem nC_took (d : Bool) (ta : Option Addr) (tc q q' : Nat) : (nC d ta tc q).set { (nC d ta tc q).get 3 with q := q' } 3 = nC d ta tc q' := rfl

set_option maxRecDepth 100000 in
set_option maxHeartbeats 8000000 in
theorem non_walk (d : Bool) (a : Option Addr) (n c : Nat) (ms : List Nat) {b : Addr} {w : World} (hn : Gn b w) (hg : Ge w) (hin : BytesIn w a ms) (hl : ms.length = n) (hnn : n ≤ 9223372036854775807) (hb : ∀ m ∈ ms, m < 256) :
    Calls Tryd.prog 3 #[.bool d, .slice a n c] w fun e w' => e = .returned (.bool true) ∧ Below w.heap.size w w' := by
  have LOW : Below w.heap.size w w := Below.refl _ _
  have HG := Lib.hid (And.intro hn (And.intro hg (And.intro hin (And.intro hl hb))))
  clear hn hg hin hl hb
  cases d
  case true =>
    go_enter Tryd.func3, Tryd.ntmps3
    go_wp2_with fail
    refine (cl_examples HG.out.1 HG.out.2.1).mono ?_
    rintro e w1 ⟨rfl, hb2⟩
    replace LOW := LOW.trans (hb2.mono LOW.size)
    clear hb2
    dsimp only
    go_wp2_with fail
    refine (new_any true w1).mono ?_
    rintro e w3 ⟨rfl, hb4⟩
    replace LOW := LOW.trans (hb4.mono LOW.size)
    clear hb4
    dsimp only
    have LE8 := Lib.hid LOW.size
    obtain ⟨w5, hw6, hb7, PC⟩ := alloc_new w3 Cl.zero.arr CT
    replace hw6 : w3.alloc (.cells #[.bool false, .bool false, .slice none 0 0, .bool false, .int .u64 0, .bool false, .slice none 0 0, .bool false, .int .u64 0, .bool false, .slice none 0 0, .bool false, .int .u64 0, .bool false, .slice none 0 0, .bool false, .int .u64 0, .bool false, .slice none 0 0, .bool false, .int .u64 0, .bool false, .slice none 0 0, .bool false, .int .u64 0] CT) = w5 := hw6
    replace LOW := LOW.trans (hb7.mono LOW.size)
    clear hb7
    have HW9 := Lib.hid hw6
    clear hw6
    go_wp2_with (first | rw [HW9.out] | (refine wpList_store_cl _ _ Cl.zero (Cl.new true) w3.heap.size rfl rfl (by rfl) (by rfl) PC ?_; intro w10 p11 j12; have mv13 := LOW.trans (j12.below LE8.out); replace LOW := mv13; replace PC := p11; simp only [Act.put]) | (refine wpList_load_cl _ (Cl.new true) w3.heap.size rfl rfl (by rfl) PC ?_; simp only [Act.put, List.setIfInBounds_toArray, List.set_cons_zero, List.set_cons_succ]))
    refine (take_err (x := Cl.new true) (k := 3) (q := 1) (d := true) (O := false) (E := true) (F := true) (N' := 7) (s' := sAsked) (by omega) (by omega) (by omega) (HG.out.1.later LOW) (HG.out.2.1.later LOW) rfl (by decide) (by decide) rfl).mono ?_
    rintro e w14 ⟨rfl, hb15⟩
    replace PC := PC.later hb15
    replace LOW := LOW.trans (hb15.mono LOW.size)
    clear hb15
    dsimp only
    have NE19 := Lib.hid (Nat.ne_of_lt PC.lt)
    have LE20 := Lib.hid LOW.size
    obtain ⟨w16, hw17, hb18, C7⟩ := alloc_new w14 Cl.zero.arr CT
    replace hw17 : w14.alloc (.cells #[.bool false, .bool false, .slice none 0 0, .bool false, .int .u64 0, .bool false, .slice none 0 0, .bool false, .int .u64 0, .bool false, .slice none 0 0, .bool false, .int .u64 0, .bool false, .slice none 0 0, .bool false, .int .u64 0, .bool false, .slice none 0 0, .bool false, .int .u64 0, .bool false, .slice none 0 0, .bool false, .int .u64 0] CT) = w16 := hw17
    replace PC := PC.later hb18
    replace LOW := LOW.trans (hb18.mono LOW.size)
    clear hb18
    have HW21 := Lib.hid hw17
    clear hw17
    go_wp2_with (first | rw [HW21.out] | (refine wpList_store_cl _ _ Cl.zero (Cl.new true) w14.heap.size rfl rfl (by rfl) (by rfl) C7 ?_; intro w22 p23 j24; have mv25 := j24.blk NE19.out PC; have mv26 := LOW.trans (j24.below LE20.out); replace PC := mv25; replace LOW := mv26; replace C7 := p23; simp only [Act.put]))
    clear C7
    have neS : ∀ x ∈ ([[42]] : List (List UInt8)), x ≠ [] := by intro x hx; obtain rfl := List.mem_singleton.1 hx; decide
    have neN : ∀ x ∈ ([] : List (List UInt8)), x ≠ [] := by intro x hx; cases hx
    go_cut [10] (fun s10 wx => ∃ z, z = wx ∧ (∃ ta tc, s10 = .int .i64 0 ∧ Blk wx w3.heap.size (nC true ta tc 0).arr CT ∧ TsAt wx (.slice ta 0 tc) [] ∧ Below w.heap.size w wx))
    case first =>
      have HO := Lib.hid (show (fun (A : Array Oper) => A[0]? = some { dst := some 33, op := Op.load 32 (Operand.tmp 6), type := 32, pos := "keeps.go:46", after := #[], guard := none } ∧ A[1]? = some { dst := some 34, op := Op.buildSlice 24 1 #[(0, Operand.const (Value.string { data := #[42] }))], type := 24, pos := "keeps.go:46", after := #[], guard := none } ∧ A[2]? = some { dst := some 35, op := Op.call { callee := Callee.value (Operand.func 9), args := #[Operand.tmp 34], argTypes := #[24] }, type := 26, pos := "keeps.go:46", after := #[{ on := 1, ground := Ground.data }], guard := none } ∧ A[3]? = some { dst := some 36, op := Op.call { callee := Callee.value (Operand.func 8), args := #[Operand.tmp 33, Operand.const (Value.int IntKind.i64 3), Operand.tmp 35, Operand.const (Value.slice none 0 0)], argTypes := #[32, 3, 26, 40] }, type := 43, pos := "keeps.go:46", after := #[{ on := 0, ground := Ground.data }, { on := 2, ground := Ground.data }, { on := 2, ground := Ground.chain }], guard := none } ∧ A[4]? = some { dst := some 32, op := Op.move (Operand.tmp 36), type := 43, pos := "keeps.go:46", after := #[{ on := 3, ground := Ground.data }], guard := none } ∧ A[5]? = some { dst := some 37, op := Op.extract (Operand.tmp 32) 0, type := 32, pos := "keeps.go:46", after := #[{ on := 4, ground := Ground.data }], guard := none } ∧ A[6]? = some { dst := some 38, op := Op.extract (Operand.tmp 32) 1, type := 42, pos := "keeps.go:46", after := #[{ on := 4, ground := Ground.data }, { on := 9, ground := Ground.gcOnly Departure.lateStores }], guard := none } ∧ A[7]? = some { dst := some 39, op := Op.extract (Operand.tmp 32) 2, type := 34, pos := "keeps.go:46", after := #[{ on := 4, ground := Ground.data }, { on := 10, ground := Ground.gcOnly Departure.lateStores }], guard := none } ∧ A[8]? = some { dst := some 9, op := Op.alloc 42, type := 0, pos := "keeps.go:46", after := #[], guard := none } ∧ A[9]? = some { dst := none, op := Op.store 32 (Operand.tmp 6) (Operand.tmp 37), type := 0, pos := "keeps.go:46", after := #[{ on := 5, ground := Ground.data }, { on := 3, ground := Ground.chain }, { on := 0, ground := Ground.phase }, { on := 1, ground := Ground.phase }, { on := 2, ground := Ground.phase }, { on := 3, ground := Ground.phase }, { on := 4, ground := Ground.phase }, { on := 5, ground := Ground.phase }, { on := 6, ground := Ground.textOnly Departure.lateStores }, { on := 7, ground := Ground.textOnly Departure.lateStores }, { on := 8, ground := Ground.phase }], guard := none } ∧ A[10]? = some { dst := none, op := Op.store 42 (Operand.tmp 9) (Operand.tmp 38), type := 0, pos := "keeps.go:46", after := #[{ on := 8, ground := Ground.data }, { on := 6, ground := Ground.data }, { on := 9, ground := Ground.chain }, { on := 0, ground := Ground.phase }, { on := 1, ground := Ground.phase }, { on := 2, ground := Ground.phase }, { on := 3, ground := Ground.phase }, { on := 4, ground := Ground.phase }, { on := 5, ground := Ground.phase }, { on := 6, ground := Ground.phase }, { on := 7, ground := Ground.textOnly Departure.lateStores }, { on := 8, ground := Ground.phase }, { on := 9, ground := Ground.phase }], guard := none } ∧ A[11]? = some { dst := some 10, op := Op.assign (Operand.tmp 39), type := 34, pos := "keeps.go:46", after := #[{ on := 7, ground := Ground.data }, { on := 10, ground := Ground.chain }, { on := 0, ground := Ground.phase }, { on := 1, ground := Ground.phase }, { on := 2, ground := Ground.phase }, { on := 3, ground := Ground.phase }, { on := 4, ground := Ground.phase }, { on := 5, ground := Ground.phase }, { on := 6, ground := Ground.phase }, { on := 7, ground := Ground.phase }, { on := 8, ground := Ground.phase }, { on := 9, ground := Ground.phase }, { on := 10, ground := Ground.phase }], guard := none }) #[{ dst := some 33, op := Op.load 32 (Operand.tmp 6), type := 32, pos := "keeps.go:46", after := #[], guard := none }, { dst := some 34, op := Op.buildSlice 24 1 #[(0, Operand.const (Value.string { data := #[42] }))], type := 24, pos := "keeps.go:46", after := #[], guard := none }, { dst := some 35, op := Op.call { callee := Callee.value (Operand.func 9), args := #[Operand.tmp 34], argTypes := #[24] }, type := 26, pos := "keeps.go:46", after := #[{ on := 1, ground := Ground.data }], guard := none }, { dst := some 36, op := Op.call { callee := Callee.value (Operand.func 8), args := #[Operand.tmp 33, Operand.const (Value.int IntKind.i64 3), Operand.tmp 35, Operand.const (Value.slice none 0 0)], argTypes := #[32, 3, 26, 40] }, type := 43, pos := "keeps.go:46", after := #[{ on := 0, ground := Ground.data }, { on := 2, ground := Ground.data }, { on := 2, ground := Ground.chain }], guard := none }, { dst := some 32, op := Op.move (Operand.tmp 36), type := 43, pos := "keeps.go:46", after := #[{ on := 3, ground := Ground.data }], guard := none }, { dst := some 37, op := Op.extract (Operand.tmp 32) 0, type := 32, pos := "keeps.go:46", after := #[{ on := 4, ground := Ground.data }], guard := none }, { dst := some 38, op := Op.extract (Operand.tmp 32) 1, type := 42, pos := "keeps.go:46", after := #[{ on := 4, ground := Ground.data }, { on := 9, ground := Ground.gcOnly Departure.lateStores }], guard := none }, { dst := some 39, op := Op.extract (Operand.tmp 32) 2, type := 34, pos := "keeps.go:46", after := #[{ on := 4, ground := Ground.data }, { on := 10, ground := Ground.gcOnly Departure.lateStores }], guard := none }, { dst := some 9, op := Op.alloc 42, type := 0, pos := "keeps.go:46", after := #[], guard := none }, { dst := none, op := Op.store 32 (Operand.tmp 6) (Operand.tmp 37), type := 0, pos := "keeps.go:46", after := #[{ on := 5, ground := Ground.data }, { on := 3, ground := Ground.chain }, { on := 0, ground := Ground.phase }, { on := 1, ground := Ground.phase }, { on := 2, ground := Ground.phase }, { on := 3, ground := Ground.phase }, { on := 4, ground := Ground.phase }, { on := 5, ground := Ground.phase }, { on := 6, ground := Ground.textOnly Departure.lateStores }, { on := 7, ground := Ground.textOnly Departure.lateStores }, { on := 8, ground := Ground.phase }], guard := none }, { dst := none, op := Op.store 42 (Operand.tmp 9) (Operand.tmp 38), type := 0, pos := "keeps.go:46", after := #[{ on := 8, ground := Ground.data }, { on := 6, ground := Ground.data }, { on := 9, ground := Ground.chain }, { on := 0, ground := Ground.phase }, { on := 1, ground := Ground.phase }, { on := 2, ground := Ground.phase }, { on := 3, ground := Ground.phase }, { on := 4, ground := Ground.phase }, { on := 5, ground := Ground.phase }, { on := 6, ground := Ground.phase }, { on := 7, ground := Ground.textOnly Departure.lateStores }, { on := 8, ground := Ground.phase }, { on := 9, ground := Ground.phase }], guard := none }, { dst := some 10, op := Op.assign (Operand.tmp 39), type := 34, pos := "keeps.go:46", after := #[{ on := 7, ground := Ground.data }, { on := 10, ground := Ground.chain }, { on := 0, ground := Ground.phase }, { on := 1, ground := Ground.phase }, { on := 2, ground := Ground.phase }, { on := 3, ground := Ground.phase }, { on := 4, ground := Ground.phase }, { on := 5, ground := Ground.phase }, { on := 6, ground := Ground.phase }, { on := 7, ground := Ground.phase }, { on := 8, ground := Ground.phase }, { on := 9, ground := Ground.phase }, { on := 10, ground := Ground.phase }], guard := none }] from ⟨by kernel_rfl, by kernel_rfl, by kernel_rfl, by kernel_rfl, by kernel_rfl, by kernel_rfl, by kernel_rfl, by kernel_rfl, by kernel_rfl, by kernel_rfl, by kernel_rfl, by kernel_rfl⟩)
      obtain ⟨w27, hw28, hb29⟩ := drew_new w22
      replace PC := PC.later hb29
      replace LOW := LOW.trans (hb29.mono LOW.size)
      refine region_gate (S := (fun w' => Blk w' w3.heap.size (Cl.new true).arr CT)) (z := 9) (by kernel_rfl) ?_
      rw [hw28]
      clear hw28 hb29
      refine gate_load (i := 0) (v := .agg (Cl.new true).arr) HO.out.1 (by decide) (by kernel_rfl) (by kernel_rfl) (by kernel_rfl) (by kernel_rfl) (by kernel_rfl) (fun _ _ _ h => h) (Or.inl ⟨by rfl, fun w1 h0 => ?hy3001⟩) PC ?rest3001
      case hy3001 => (apply exec_load_cl; (· rfl); (· rfl); exact h0)
      try simp only [Act.put, List.setIfInBounds_toArray, List.set_cons_zero, List.set_cons_succ]
      refine gate_ready (rs := [1, 8]) (by kernel_rfl) (by simp) ?_
      refine AllGate.cons HO.out.2.1 (fun K hK => ?_) ?_
      · go_simp
        have LE33 := Lib.hid LOW.size
        obtain ⟨w30, hw31, hb32, QA⟩ := alloc_new w27 #[.string ⟨#[42]⟩] 9
        replace PC := PC.later hb32
        replace LOW := LOW.trans (hb32.mono LOW.size)
        clear hb32
        have TA : TsAt w30 _ [[42]] := ts_block (l := [[42]]) QA (by decide) rfl
        rw [hw31]
        clear hw31 QA
        refine hK.out _ _ (fun _ => PC) ?_
        clear hK K
        try simp only [Act.put, List.setIfInBounds_toArray, List.set_cons_zero, List.set_cons_succ]
        refine gate_ready (rs := [2, 8]) (by kernel_rfl) (by simp) ?_
        refine AllGate.cons HO.out.2.2.1 (fun K hK => ?_) ?_
        · go_simp
          refine (of_any (l := [[42]]) TA star_fit star_of).mono ?_
          rintro e w34 ⟨ta0, tc0, rfl, TO, hb35⟩
          replace PC := PC.later hb35
          replace TA := TA.later hb35
          replace LOW := LOW.trans (hb35.mono LOW.size)
          clear hb35
          clear TA
          refine hK.out _ _ (fun _ => PC) ?_
          clear hK K
          try simp only [Act.put, List.setIfInBounds_toArray, List.set_cons_zero, List.set_cons_succ]
          refine gate_ready (rs := [3, 8]) (by kernel_rfl) (by simp) ?_
          refine AllGate.cons HO.out.2.2.2.1 (fun K hK => ?_) ?_
          · go_simp
            refine (ask_ok (x := Cl.new true) (k := 3) (n := 0) (m := 0) (hs := []) (ask_first (by omega) (by omega) star_real (by simp [Rises]) nm_nil (by omega) (by decide) rfl rfl rfl) TO (Tp.zero_at _) (HvAt.nil _ _) rfl (by omega) (by decide)).mono ?_
            rintro e w36 ⟨ta, tc, a1, c1, a2, c2, a3, c3, rfl, TN, -, -, hb37⟩
            replace PC := PC.later hb37
            replace TO := TO.later hb37
            replace LOW := LOW.trans (hb37.mono LOW.size)
            clear hb37
            clear TO
            refine hK.out _ _ (fun _ => PC) ?_
            clear hK K
            try simp only [Act.put, List.setIfInBounds_toArray, List.set_cons_zero, List.set_cons_succ]
            refine gate_take (i := 4) (v := ?v3002) HO.out.2.2.2.2.1 (by decide) (by kernel_rfl) (by kernel_rfl) (by kernel_rfl) (fun _ _ _ h => h) (Or.inl ⟨by rfl, fun w1 _ => ?hy3002⟩) (fun _ => PC) ?rest3002
            case hy3002 => (go_simp; try with_reducible rfl)
            try simp only [Act.put, List.setIfInBounds_toArray, List.set_cons_zero, List.set_cons_succ]
            refine gate_take (i := 5) (v := ?v3003) HO.out.2.2.2.2.2.1 (by decide) (by kernel_rfl) (by kernel_rfl) (by kernel_rfl) (fun _ _ _ h => h) (Or.inl ⟨by rfl, fun w1 _ => ?hy3003⟩) (fun _ => PC) ?rest3003
            case hy3003 => (go_simp; try with_reducible rfl)
            try simp only [Act.put, List.setIfInBounds_toArray, List.set_cons_zero, List.set_cons_succ]
            refine gate_take (i := 6) (v := ?v3004) HO.out.2.2.2.2.2.2.1 (by decide) (by kernel_rfl) (by kernel_rfl) (by kernel_rfl) (fun _ _ _ h => h) (Or.inl ⟨by rfl, fun w1 _ => ?hy3004⟩) (fun _ => PC) ?rest3004
            case hy3004 => (go_simp; try with_reducible rfl)
            try simp only [Act.put, List.setIfInBounds_toArray, List.set_cons_zero, List.set_cons_succ]
            refine gate_take (i := 7) (v := ?v3005) HO.out.2.2.2.2.2.2.2.1 (by decide) (by kernel_rfl) (by kernel_rfl) (by kernel_rfl) (fun _ _ _ h => h) (Or.inl ⟨by rfl, fun w1 _ => ?hy3005⟩) (fun _ => PC) ?rest3005
            case hy3005 => (go_simp; try with_reducible rfl)
            try simp only [Act.put, List.setIfInBounds_toArray, List.set_cons_zero, List.set_cons_succ]
            refine gate_ready (rs := [8]) (by kernel_rfl) (by simp) ?_
            refine AllGate.cons HO.out.2.2.2.2.2.2.2.2.1 (fun K hK => ?_) AllGate.nil
            go_simp
            have LE41 := Lib.hid LOW.size
            obtain ⟨w38, hw39, hb40, R9⟩ := alloc_new w36 rq0 RT
            replace PC := PC.later hb40
            replace TN := TN.later hb40
            replace LOW := LOW.trans (hb40.mono LOW.size)
            clear hb40
            rw [hw39]
            clear hw39
            refine hK.out _ _ (fun _ => PC) ?_
            clear hK K
            try simp only [Act.put, List.setIfInBounds_toArray, List.set_cons_zero, List.set_cons_succ]
            refine gate_ready (rs := [9]) (by kernel_rfl) (by simp) ?_
            refine AllGate.cons HO.out.2.2.2.2.2.2.2.2.2.1 (fun K hK => ?_) AllGate.nil
            rw [if_pos (by rfl)]
            refine wp_store_cl _ _ (Cl.new true) (nC true ta tc 0) w3.heap.size rfl (by rfl) (by rfl) PC ?_
            intro w42 p43 j44
            have mv45 := j44.blk (Blk.ne R9 PC (by decide)) R9
            have mv46 := j44.ts PC (cl_no _ _) TN
            have mv47 := LOW.trans (j44.below LE8.out)
            replace R9 := mv45
            replace TN := mv46
            replace LOW := mv47
            replace PC := p43
            refine hK.out _ _ (ahead_off (by kernel_rfl)) ?_
            clear hK K
            simp only [Act.put]
            refine gate_ready (rs := [10]) (by kernel_rfl) (by simp) ?_
            refine AllGate.cons HO.out.2.2.2.2.2.2.2.2.2.2.1 (fun K hK => ?_) AllGate.nil
            rw [if_pos (by rfl)]
            refine wp_store_rq _ _ w36.heap.size rfl (by rfl) (by rfl) R9 rfl (by rfl) (by first | (simp [Value.oneCell']; done) | simp [rq, Value.oneCell']) ?_
            intro w48 p49 j50
            have mv51 := j50.blk (Blk.ne PC R9 (by decide)) PC
            have mv52 := j50.ts R9 (rq0_no neN) TN
            have mv53 := LOW.trans (j50.below LE41.out)
            replace PC := mv51
            replace TN := mv52
            replace LOW := mv53
            replace R9 := p49
            refine hK.out _ _ (ahead_off (by kernel_rfl)) ?_
            clear hK K
            simp only [Act.put]
            refine gate_take (i := 11) (v := ?v3006) HO.out.2.2.2.2.2.2.2.2.2.2.2 (by decide) (by kernel_rfl) (by kernel_rfl) (by kernel_rfl) (fun _ _ _ h => h) (Or.inl ⟨by rfl, fun w1 _ => ?hy3006⟩) (ahead_off (by kernel_rfl)) ?rest3006
            case hy3006 => (go_simp; try with_reducible rfl)
            try simp only [Act.put, List.setIfInBounds_toArray, List.set_cons_zero, List.set_cons_succ]
            refine gate_done (by kernel_rfl) ?_ _
            go_wp2_with fail
            go_meet
            exact ⟨_, rfl, ta, tc, rfl, PC, TN, LOW⟩
          refine AllGate.cons HO.out.2.2.2.2.2.2.2.2.1 (fun K hK => ?_) AllGate.nil
          go_simp
          have LE57 := Lib.hid LOW.size
          obtain ⟨w54, hw55, hb56, R9⟩ := alloc_new w34 rq0 RT
          replace PC := PC.later hb56
          replace TO := TO.later hb56
          replace LOW := LOW.trans (hb56.mono LOW.size)
          clear hb56
          rw [hw55]
          clear hw55
          refine hK.out _ _ (fun _ => PC) ?_
          clear hK K
          try simp only [Act.put, List.setIfInBounds_toArray, List.set_cons_zero, List.set_cons_succ]
          refine gate_ready (rs := [3]) (by kernel_rfl) (by simp) ?_
          refine AllGate.cons HO.out.2.2.2.1 (fun K hK => ?_) AllGate.nil
          go_simp
          refine (ask_ok (x := Cl.new true) (k := 3) (n := 0) (m := 0) (hs := []) (ask_first (by omega) (by omega) star_real (by simp [Rises]) nm_nil (by omega) (by decide) rfl rfl rfl) TO (Tp.zero_at _) (HvAt.nil _ _) rfl (by omega) (by decide)).mono ?_
          rintro e w58 ⟨ta, tc, a1, c1, a2, c2, a3, c3, rfl, TN, -, -, hb59⟩
          replace PC := PC.later hb59
          replace R9 := R9.later hb59
          replace TO := TO.later hb59
          replace LOW := LOW.trans (hb59.mono LOW.size)
          clear hb59
          clear TO
          refine hK.out _ _ (fun _ => PC) ?_
          clear hK K
          try simp only [Act.put, List.setIfInBounds_toArray, List.set_cons_zero, List.set_cons_succ]
          refine gate_take (i := 4) (v := ?v3007) HO.out.2.2.2.2.1 (by decide) (by kernel_rfl) (by kernel_rfl) (by kernel_rfl) (fun _ _ _ h => h) (Or.inl ⟨by rfl, fun w1 _ => ?hy3007⟩) (fun _ => PC) ?rest3007
          case hy3007 => (go_simp; try with_reducible rfl)
          try simp only [Act.put, List.setIfInBounds_toArray, List.set_cons_zero, List.set_cons_succ]
          refine gate_take (i := 5) (v := ?v3008) HO.out.2.2.2.2.2.1 (by decide) (by kernel_rfl) (by kernel_rfl) (by kernel_rfl) (fun _ _ _ h => h) (Or.inl ⟨by rfl, fun w1 _ => ?hy3008⟩) (fun _ => PC) ?rest3008
          case hy3008 => (go_simp; try with_reducible rfl)
          try simp only [Act.put, List.setIfInBounds_toArray, List.set_cons_zero, List.set_cons_succ]
          refine gate_take (i := 6) (v := ?v3009) HO.out.2.2.2.2.2.2.1 (by decide) (by kernel_rfl) (by kernel_rfl) (by kernel_rfl) (fun _ _ _ h => h) (Or.inl ⟨by rfl, fun w1 _ => ?hy3009⟩) (fun _ => PC) ?rest3009
          case hy3009 => (go_simp; try with_reducible rfl)
          try simp only [Act.put, List.setIfInBounds_toArray, List.set_cons_zero, List.set_cons_succ]
          refine gate_take (i := 7) (v := ?v3010) HO.out.2.2.2.2.2.2.2.1 (by decide) (by kernel_rfl) (by kernel_rfl) (by kernel_rfl) (fun _ _ _ h => h) (Or.inl ⟨by rfl, fun w1 _ => ?hy3010⟩) (fun _ => PC) ?rest3010
          case hy3010 => (go_simp; try with_reducible rfl)
          try simp only [Act.put, List.setIfInBounds_toArray, List.set_cons_zero, List.set_cons_succ]
          refine gate_ready (rs := [9]) (by kernel_rfl) (by simp) ?_
          refine AllGate.cons HO.out.2.2.2.2.2.2.2.2.2.1 (fun K hK => ?_) AllGate.nil
          rw [if_pos (by rfl)]
          refine wp_store_cl _ _ (Cl.new true) (nC true ta tc 0) w3.heap.size rfl (by rfl) (by rfl) PC ?_
          intro w60 p61 j62
          have mv63 := j62.blk (Blk.ne R9 PC (by decide)) R9
          have mv64 := j62.ts PC (cl_no _ _) TN
          have mv65 := LOW.trans (j62.below LE8.out)
          replace R9 := mv63
          replace TN := mv64
          replace LOW := mv65
          replace PC := p61
          refine hK.out _ _ (ahead_off (by kernel_rfl)) ?_
          clear hK K
          simp only [Act.put]
          refine gate_ready (rs := [10]) (by kernel_rfl) (by simp) ?_
          refine AllGate.cons HO.out.2.2.2.2.2.2.2.2.2.2.1 (fun K hK => ?_) AllGate.nil
          rw [if_pos (by rfl)]
          refine wp_store_rq _ _ w34.heap.size rfl (by rfl) (by rfl) R9 rfl (by rfl) (by first | (simp [Value.oneCell']; done) | simp [rq, Value.oneCell']) ?_
          intro w66 p67 j68
          have mv69 := j68.blk (Blk.ne PC R9 (by decide)) PC
          have mv70 := j68.ts R9 (rq0_no neN) TN
          have mv71 := LOW.trans (j68.below LE57.out)
          replace PC := mv69
          replace TN := mv70
          replace LOW := mv71
          replace R9 := p67
          refine hK.out _ _ (ahead_off (by kernel_rfl)) ?_
          clear hK K
          simp only [Act.put]
          refine gate_take (i := 11) (v := ?v3011) HO.out.2.2.2.2.2.2.2.2.2.2.2 (by decide) (by kernel_rfl) (by kernel_rfl) (by kernel_rfl) (fun _ _ _ h => h) (Or.inl ⟨by rfl, fun w1 _ => ?hy3011⟩) (ahead_off (by kernel_rfl)) ?rest3011
          case hy3011 => (go_simp; try with_reducible rfl)
          try simp only [Act.put, List.setIfInBounds_toArray, List.set_cons_zero, List.set_cons_succ]
          refine gate_done (by kernel_rfl) ?_ _
          go_wp2_with fail
          go_meet
          exact ⟨_, rfl, ta, tc, rfl, PC, TN, LOW⟩
        refine AllGate.cons HO.out.2.2.2.2.2.2.2.2.1 (fun K hK => ?_) AllGate.nil
        go_simp
        have LE75 := Lib.hid LOW.size
        obtain ⟨w72, hw73, hb74, R9⟩ := alloc_new w30 rq0 RT
        replace PC := PC.later hb74
        replace TA := TA.later hb74
        replace LOW := LOW.trans (hb74.mono LOW.size)
        clear hb74
        rw [hw73]
        clear hw73
        refine hK.out _ _ (fun _ => PC) ?_
        clear hK K
        try simp only [Act.put, List.setIfInBounds_toArray, List.set_cons_zero, List.set_cons_succ]
        refine gate_ready (rs := [2]) (by kernel_rfl) (by simp) ?_
        refine AllGate.cons HO.out.2.2.1 (fun K hK => ?_) AllGate.nil
        go_simp
        refine (of_any (l := [[42]]) TA star_fit star_of).mono ?_
        rintro e w76 ⟨ta0, tc0, rfl, TO, hb77⟩
        replace PC := PC.later hb77
        replace R9 := R9.later hb77
        replace TA := TA.later hb77
        replace LOW := LOW.trans (hb77.mono LOW.size)
        clear hb77
        clear TA
        refine hK.out _ _ (fun _ => PC) ?_
        clear hK K
        try simp only [Act.put, List.setIfInBounds_toArray, List.set_cons_zero, List.set_cons_succ]
        refine gate_ready (rs := [3]) (by kernel_rfl) (by simp) ?_
        refine AllGate.cons HO.out.2.2.2.1 (fun K hK => ?_) AllGate.nil
        go_simp
        refine (ask_ok (x := Cl.new true) (k := 3) (n := 0) (m := 0) (hs := []) (ask_first (by omega) (by omega) star_real (by simp [Rises]) nm_nil (by omega) (by decide) rfl rfl rfl) TO (Tp.zero_at _) (HvAt.nil _ _) rfl (by omega) (by decide)).mono ?_
        rintro e w78 ⟨ta, tc, a1, c1, a2, c2, a3, c3, rfl, TN, -, -, hb79⟩
        replace PC := PC.later hb79
        replace R9 := R9.later hb79
        replace TO := TO.later hb79
        replace LOW := LOW.trans (hb79.mono LOW.size)
        clear hb79
        clear TO
        refine hK.out _ _ (fun _ => PC) ?_
        clear hK K
        try simp only [Act.put, List.setIfInBounds_toArray, List.set_cons_zero, List.set_cons_succ]
        refine gate_take (i := 4) (v := ?v3012) HO.out.2.2.2.2.1 (by decide) (by kernel_rfl) (by kernel_rfl) (by kernel_rfl) (fun _ _ _ h => h) (Or.inl ⟨by rfl, fun w1 _ => ?hy3012⟩) (fun _ => PC) ?rest3012
        case hy3012 => (go_simp; try with_reducible rfl)
        try simp only [Act.put, List.setIfInBounds_toArray, List.set_cons_zero, List.set_cons_succ]
        refine gate_take (i := 5) (v := ?v3013) HO.out.2.2.2.2.2.1 (by decide) (by kernel_rfl) (by kernel_rfl) (by kernel_rfl) (fun _ _ _ h => h) (Or.inl ⟨by rfl, fun w1 _ => ?hy3013⟩) (fun _ => PC) ?rest3013
        case hy3013 => (go_simp; try with_reducible rfl)
        try simp only [Act.put, List.setIfInBounds_toArray, List.set_cons_zero, List.set_cons_succ]
        refine gate_take (i := 6) (v := ?v3014) HO.out.2.2.2.2.2.2.1 (by decide) (by kernel_rfl) (by kernel_rfl) (by kernel_rfl) (fun _ _ _ h => h) (Or.inl ⟨by rfl, fun w1 _ => ?hy3014⟩) (fun _ => PC) ?rest3014
        case hy3014 => (go_simp; try with_reducible rfl)
        try simp only [Act.put, List.setIfInBounds_toArray, List.set_cons_zero, List.set_cons_succ]
        refine gate_take (i := 7) (v := ?v3015) HO.out.2.2.2.2.2.2.2.1 (by decide) (by kernel_rfl) (by kernel_rfl) (by kernel_rfl) (fun _ _ _ h => h) (Or.inl ⟨by rfl, fun w1 _ => ?hy3015⟩) (fun _ => PC) ?rest3015
        case hy3015 => (go_simp; try with_reducible rfl)
        try simp only [Act.put, List.setIfInBounds_toArray, List.set_cons_zero, List.set_cons_succ]
        refine gate_ready (rs := [9]) (by kernel_rfl) (by simp) ?_
        refine AllGate.cons HO.out.2.2.2.2.2.2.2.2.2.1 (fun K hK => ?_) AllGate.nil
        rw [if_pos (by rfl)]
        refine wp_store_cl _ _ (Cl.new true) (nC true ta tc 0) w3.heap.size rfl (by rfl) (by rfl) PC ?_
        intro w80 p81 j82
        have mv83 := j82.blk (Blk.ne R9 PC (by decide)) R9
        have mv84 := j82.ts PC (cl_no _ _) TN
        have mv85 := LOW.trans (j82.below LE8.out)
        replace R9 := mv83
        replace TN := mv84
        replace LOW := mv85
        replace PC := p81
        refine hK.out _ _ (ahead_off (by kernel_rfl)) ?_
        clear hK K
        simp only [Act.put]
        refine gate_ready (rs := [10]) (by kernel_rfl) (by simp) ?_
        refine AllGate.cons HO.out.2.2.2.2.2.2.2.2.2.2.1 (fun K hK => ?_) AllGate.nil
        rw [if_pos (by rfl)]
        refine wp_store_rq _ _ w30.heap.size rfl (by rfl) (by rfl) R9 rfl (by rfl) (by first | (simp [Value.oneCell']; done) | simp [rq, Value.oneCell']) ?_
        intro w86 p87 j88
        have mv89 := j88.blk (Blk.ne PC R9 (by decide)) PC
        have mv90 := j88.ts R9 (rq0_no neN) TN
        have mv91 := LOW.trans (j88.below LE75.out)
        replace PC := mv89
        replace TN := mv90
        replace LOW := mv91
        replace R9 := p87
        refine hK.out _ _ (ahead_off (by kernel_rfl)) ?_
        clear hK K
        simp only [Act.put]
        refine gate_take (i := 11) (v := ?v3016) HO.out.2.2.2.2.2.2.2.2.2.2.2 (by decide) (by kernel_rfl) (by kernel_rfl) (by kernel_rfl) (fun _ _ _ h => h) (Or.inl ⟨by rfl, fun w1 _ => ?hy3016⟩) (ahead_off (by kernel_rfl)) ?rest3016
        case hy3016 => (go_simp; try with_reducible rfl)
        try simp only [Act.put, List.setIfInBounds_toArray, List.set_cons_zero, List.set_cons_succ]
        refine gate_done (by kernel_rfl) ?_ _
        go_wp2_with fail
        go_meet
        exact ⟨_, rfl, ta, tc, rfl, PC, TN, LOW⟩
      refine AllGate.cons HO.out.2.2.2.2.2.2.2.2.1 (fun K hK => ?_) AllGate.nil
      go_simp
      have LE95 := Lib.hid LOW.size
      obtain ⟨w92, hw93, hb94, R9⟩ := alloc_new w27 rq0 RT
      replace PC := PC.later hb94
      replace LOW := LOW.trans (hb94.mono LOW.size)
      clear hb94
      rw [hw93]
      clear hw93
      refine hK.out _ _ (fun _ => PC) ?_
      clear hK K
      try simp only [Act.put, List.setIfInBounds_toArray, List.set_cons_zero, List.set_cons_succ]
      refine gate_ready (rs := [1]) (by kernel_rfl) (by simp) ?_
      refine AllGate.cons HO.out.2.1 (fun K hK => ?_) AllGate.nil
      go_simp
      have LE99 := Lib.hid LOW.size
      obtain ⟨w96, hw97, hb98, QA⟩ := alloc_new w92 #[.string ⟨#[42]⟩] 9
      replace PC := PC.later hb98
      replace R9 := R9.later hb98
      replace LOW := LOW.trans (hb98.mono LOW.size)
      clear hb98
      have TA : TsAt w96 _ [[42]] := ts_block (l := [[42]]) QA (by decide) rfl
      rw [hw97]
      clear hw97 QA
      refine hK.out _ _ (fun _ => PC) ?_
      clear hK K
      try simp only [Act.put, List.setIfInBounds_toArray, List.set_cons_zero, List.set_cons_succ]
      refine gate_ready (rs := [2]) (by kernel_rfl) (by simp) ?_
      refine AllGate.cons HO.out.2.2.1 (fun K hK => ?_) AllGate.nil
      go_simp
      refine (of_any (l := [[42]]) TA star_fit star_of).mono ?_
      rintro e w100 ⟨ta0, tc0, rfl, TO, hb101⟩
      replace PC := PC.later hb101
      replace R9 := R9.later hb101
      replace TA := TA.later hb101
      replace LOW := LOW.trans (hb101.mono LOW.size)
      clear hb101
      clear TA
      refine hK.out _ _ (fun _ => PC) ?_
      clear hK K
      try simp only [Act.put, List.setIfInBounds_toArray, List.set_cons_zero, List.set_cons_succ]
      refine gate_ready (rs := [3]) (by kernel_rfl) (by simp) ?_
      refine AllGate.cons HO.out.2.2.2.1 (fun K hK => ?_) AllGate.nil
      go_simp
      refine (ask_ok (x := Cl.new true) (k := 3) (n := 0) (m := 0) (hs := []) (ask_first (by omega) (by omega) star_real (by simp [Rises]) nm_nil (by omega) (by decide) rfl rfl rfl) TO (Tp.zero_at _) (HvAt.nil _ _) rfl (by omega) (by decide)).mono ?_
      rintro e w102 ⟨ta, tc, a1, c1, a2, c2, a3, c3, rfl, TN, -, -, hb103⟩
      replace PC := PC.later hb103
      replace R9 := R9.later hb103
      replace TO := TO.later hb103
      replace LOW := LOW.trans (hb103.mono LOW.size)
      clear hb103
      clear TO
      refine hK.out _ _ (fun _ => PC) ?_
      clear hK K
      try simp only [Act.put, List.setIfInBounds_toArray, List.set_cons_zero, List.set_cons_succ]
      refine gate_take (i := 4) (v := ?v3017) HO.out.2.2.2.2.1 (by decide) (by kernel_rfl) (by kernel_rfl) (by kernel_rfl) (fun _ _ _ h => h) (Or.inl ⟨by rfl, fun w1 _ => ?hy3017⟩) (fun _ => PC) ?rest3017
      case hy3017 => (go_simp; try with_reducible rfl)
      try simp only [Act.put, List.setIfInBounds_toArray, List.set_cons_zero, List.set_cons_succ]
      refine gate_take (i := 5) (v := ?v3018) HO.out.2.2.2.2.2.1 (by decide) (by kernel_rfl) (by kernel_rfl) (by kernel_rfl) (fun _ _ _ h => h) (Or.inl ⟨by rfl, fun w1 _ => ?hy3018⟩) (fun _ => PC) ?rest3018
      case hy3018 => (go_simp; try with_reducible rfl)
      try simp only [Act.put, List.setIfInBounds_toArray, List.set_cons_zero, List.set_cons_succ]
      refine gate_take (i := 6) (v := ?v3019) HO.out.2.2.2.2.2.2.1 (by decide) (by kernel_rfl) (by kernel_rfl) (by kernel_rfl) (fun _ _ _ h => h) (Or.inl ⟨by rfl, fun w1 _ => ?hy3019⟩) (fun _ => PC) ?rest3019
      case hy3019 => (go_simp; try with_reducible rfl)
      try simp only [Act.put, List.setIfInBounds_toArray, List.set_cons_zero, List.set_cons_succ]
      refine gate_take (i := 7) (v := ?v3020) HO.out.2.2.2.2.2.2.2.1 (by decide) (by kernel_rfl) (by kernel_rfl) (by kernel_rfl) (fun _ _ _ h => h) (Or.inl ⟨by rfl, fun w1 _ => ?hy3020⟩) (fun _ => PC) ?rest3020
      case hy3020 => (go_simp; try with_reducible rfl)
      try simp only [Act.put, List.setIfInBounds_toArray, List.set_cons_zero, List.set_cons_succ]
      refine gate_ready (rs := [9]) (by kernel_rfl) (by simp) ?_
      refine AllGate.cons HO.out.2.2.2.2.2.2.2.2.2.1 (fun K hK => ?_) AllGate.nil
      rw [if_pos (by rfl)]
      refine wp_store_cl _ _ (Cl.new true) (nC true ta tc 0) w3.heap.size rfl (by rfl) (by rfl) PC ?_
      intro w104 p105 j106
      have mv107 := j106.blk (Blk.ne R9 PC (by decide)) R9
      have mv108 := j106.ts PC (cl_no _ _) TN
      have mv109 := LOW.trans (j106.below LE8.out)
      replace R9 := mv107
      replace TN := mv108
      replace LOW := mv109
      replace PC := p105
      refine hK.out _ _ (ahead_off (by kernel_rfl)) ?_
      clear hK K
      simp only [Act.put]
      refine gate_ready (rs := [10]) (by kernel_rfl) (by simp) ?_
      refine AllGate.cons HO.out.2.2.2.2.2.2.2.2.2.2.1 (fun K hK => ?_) AllGate.nil
      rw [if_pos (by rfl)]
      refine wp_store_rq _ _ w27.heap.size rfl (by rfl) (by rfl) R9 rfl (by rfl) (by first | (simp [Value.oneCell']; done) | simp [rq, Value.oneCell']) ?_
      intro w110 p111 j112
      have mv113 := j112.blk (Blk.ne PC R9 (by decide)) PC
      have mv114 := j112.ts R9 (rq0_no neN) TN
      have mv115 := LOW.trans (j112.below LE95.out)
      replace PC := mv113
      replace TN := mv114
      replace LOW := mv115
      replace R9 := p111
      refine hK.out _ _ (ahead_off (by kernel_rfl)) ?_
      clear hK K
      simp only [Act.put]
      refine gate_take (i := 11) (v := ?v3021) HO.out.2.2.2.2.2.2.2.2.2.2.2 (by decide) (by kernel_rfl) (by kernel_rfl) (by kernel_rfl) (fun _ _ _ h => h) (Or.inl ⟨by rfl, fun w1 _ => ?hy3021⟩) (ahead_off (by kernel_rfl)) ?rest3021
      case hy3021 => (go_simp; try with_reducible rfl)
      try simp only [Act.put, List.setIfInBounds_toArray, List.set_cons_zero, List.set_cons_succ]
      refine gate_done (by kernel_rfl) ?_ _
      go_wp2_with fail
      go_meet
      exact ⟨_, rfl, ta, tc, rfl, PC, TN, LOW⟩
    case rest =>
    clear PC LOW
    obtain ⟨wz116, hwz, ta, tc, rfl, PC, TN, LOW⟩ := hcut
    subst hwz
    go_wp2_with fail
    go_loopw [12, 11] (fun i la wr => ∃ k q : Nat, k ≤ n ∧ k ≤ 20 ∧ q ≤ 256 ∧ i = .int .i64 k ∧ la = .int .u64 q ∧ Blk wr w3.heap.size (nC true ta tc q).arr CT ∧ TsAt wr (.slice ta 0 tc) [] ∧ Below w.heap.size w wr) (fun i _ _ => n - (RowKit.intOf i).toNat)
    case atStart => exact ⟨0, 0, Nat.zero_le _, Nat.zero_le _, Nat.zero_le _, rfl, rfl, PC, TN, LOW⟩
    case round =>
      clear PC TN LOW
      obtain ⟨k, q, hk, hk20, hq, rfl, rfl, PC, TN, LOW⟩ := hrel
      by_cases hlt : k < n
      · by_cases hlt2 : k < 20
        · obtain ⟨bb, hx⟩ : ∃ bb, ms[k]? = some bb := ⟨_, List.getElem?_eq_getElem (by have := HG.out.2.2.2.1; omega)⟩
          have hb256 := HG.out.2.2.2.2 bb (List.mem_of_getElem? hx)
          obtain ⟨g, off, rfl, hgl, hcell⟩ := HG.out.2.2.1 k bb hx
          have d1 : wr.cell? ⟨g, off + k, none⟩ = some (.int .u8 (bb : Int)) := (LOW.cell (p := ⟨g, _, none⟩) hgl).trans hcell
          have b0 : (0 : Int) ≤ (k : Int) := by omega
          have b1 : (k : Int) < (n : Int) := by omega
          have b2 : (k : Int) < 20 := by omega
          obtain ⟨N, hN⟩ : ∃ N : Nat, bb + 1 = N := ⟨_, rfl⟩
          have hw1 : IntKind.u64.wrap ((bb : Int) + 1) = ((bb + 1 : Nat) : Int) := by rw [show IntKind.u64.wrap ((bb : Int) + 1) = ((bb : Int) + 1) % 18446744073709551616 from rfl]; omega
          clear hcell hgl hx
          go_wp2_with (first | (refine wpList_load_cl _ (nC true ta tc q) w3.heap.size rfl rfl (by rfl) PC ?_; simp only [Act.put, List.setIfInBounds_toArray, List.set_cons_zero, List.set_cons_succ]))
          have hNi : ((bb : Int) + 1) = (N : Int) := by omega
          try rw [hNi]
          have hN1 : N ≠ 0 := by omega
          have hN2 : N ≤ 256 := by omega
          clear hNi hN d1 hb256 b0 hw1
          by_cases hF : q < N
          · have hFi : (q : Int) < (N : Int) := by omega
            have hFj : ¬ (N : Int) < (q : Int) := by omega
            have hmx : max (q : Int) (N : Int) = (N : Int) := by omega
            refine (take_ok (x := (nC true ta tc q)) (k := 3) (q := N) (d := true) (O := true) (E := true) (F := true) (by omega) (by omega) hN1 (HG.out.1.later LOW) rfl rfl (decide_eq_true hF) rfl).mono ?_
            rintro e w117 ⟨rfl, hb118⟩
            replace PC := PC.later hb118
            replace TN := TN.later hb118
            replace LOW := LOW.trans (hb118.mono LOW.size)
            clear hb118
            dsimp only
            have NE122 := Lib.hid (Nat.ne_of_lt PC.lt)
            have LE123 := Lib.hid LOW.size
            obtain ⟨w119, hw120, hb121, D14⟩ := alloc_new w117 Cl.zero.arr CT
            replace hw120 : w117.alloc (.cells #[.bool false, .bool false, .slice none 0 0, .bool false, .int .u64 0, .bool false, .slice none 0 0, .bool false, .int .u64 0, .bool false, .slice none 0 0, .bool false, .int .u64 0, .bool false, .slice none 0 0, .bool false, .int .u64 0, .bool false, .slice none 0 0, .bool false, .int .u64 0, .bool false, .slice none 0 0, .bool false, .int .u64 0] CT) = w119 := hw120
            replace PC := PC.later hb121
            replace TN := TN.later hb121
            replace LOW := LOW.trans (hb121.mono LOW.size)
            clear hb121
            have HW124 := Lib.hid hw120
            clear hw120
            go_wp2_with (first | rw [HW124.out] | (refine wpList_store_cl _ _ Cl.zero (nC true ta tc N) w117.heap.size rfl rfl (by rfl) (by rfl) D14 ?_; intro w125 p126 j127; have mv128 := j127.blk NE122.out PC; have mv129 := j127.ts D14 (cl_no _ _) TN; have mv130 := LOW.trans (j127.below LE123.out); replace PC := mv128; replace TN := mv129; replace LOW := mv130; replace D14 := p126; simp only [Act.put]) | (refine wpList_load_cl _ (nC true ta tc q) w3.heap.size rfl rfl (by rfl) PC ?_; simp only [Act.put, List.setIfInBounds_toArray, List.set_cons_zero, List.set_cons_succ]))
            refine (take_err (x := (nC true ta tc q)) (k := 3) (q := N) (d := false) (O := true) (E := false) (F := decide (q < N)) (N' := 7) (s' := sDelta) (by omega) (by omega) hN1 (HG.out.1.later LOW) (HG.out.2.1.later LOW) rfl rfl rfl rfl).mono ?_
            rintro e w131 ⟨rfl, hb132⟩
            replace PC := PC.later hb132
            replace D14 := D14.later hb132
            replace TN := TN.later hb132
            replace LOW := LOW.trans (hb132.mono LOW.size)
            clear hb132
            dsimp only
            have NE136 := Lib.hid (Nat.ne_of_lt PC.lt)
            have NE137 := Lib.hid (Nat.ne_of_lt D14.lt)
            have LE138 := Lib.hid LOW.size
            obtain ⟨w133, hw134, hb135, C16⟩ := alloc_new w131 Cl.zero.arr CT
            replace hw134 : w131.alloc (.cells #[.bool false, .bool false, .slice none 0 0, .bool false, .int .u64 0, .bool false, .slice none 0 0, .bool false, .int .u64 0, .bool false, .slice none 0 0, .bool false, .int .u64 0, .bool false, .slice none 0 0, .bool false, .int .u64 0, .bool false, .slice none 0 0, .bool false, .int .u64 0, .bool false, .slice none 0 0, .bool false, .int .u64 0] CT) = w133 := hw134
            replace PC := PC.later hb135
            replace D14 := D14.later hb135
            replace TN := TN.later hb135
            replace LOW := LOW.trans (hb135.mono LOW.size)
            clear hb135
            have HW139 := Lib.hid hw134
            clear hw134
            go_wp2_with (first | rw [HW139.out] | (refine wpList_store_cl _ _ Cl.zero (nC true ta tc q) w131.heap.size rfl rfl (by rfl) (by rfl) C16 ?_; intro w140 p141 j142; have mv143 := j142.blk NE136.out PC; have mv144 := j142.blk NE137.out D14; have mv145 := j142.ts C16 (cl_no _ _) TN; have mv146 := LOW.trans (j142.below LE138.out); replace PC := mv143; replace D14 := mv144; replace TN := mv145; replace LOW := mv146; replace C16 := p141; simp only [Act.put]) | (refine wpList_load_cl _ (nC true ta tc N) w117.heap.size rfl rfl (by rfl) D14 ?_; simp only [Act.put, List.setIfInBounds_toArray, List.set_cons_zero, List.set_cons_succ]) | (refine wpList_store_cl _ _ (nC true ta tc q) (nC true ta tc N) w3.heap.size rfl rfl (by rfl) (by rfl) PC ?_; intro w147 p148 j149; have mv150 := j149.blk NE122.out.symm D14; have mv151 := j149.blk NE136.out.symm C16; have mv152 := j149.ts PC (cl_no _ _) TN; have mv153 := LOW.trans (j149.below LE8.out); replace D14 := mv150; replace C16 := mv151; replace TN := mv152; replace LOW := mv153; replace PC := p148; simp only [Act.put]) | (refine wpList_load_cl _ (nC true ta tc N) w3.heap.size rfl rfl (by rfl) PC ?_; simp only [Act.put, List.setIfInBounds_toArray, List.set_cons_zero, List.set_cons_succ]))
            refine (ans_ok (x := (nC true ta tc N)) (k := 3) (s := ⟨#[100]⟩) (L := []) (by omega) (by omega) (by decide) hN1 TN rfl (by decide)).mono ?_
            rintro e w154 ⟨a9, c9, rfl, -, hb155⟩
            replace PC := PC.later hb155
            replace D14 := D14.later hb155
            replace C16 := C16.later hb155
            replace TN := TN.later hb155
            replace LOW := LOW.trans (hb155.mono LOW.size)
            clear hb155
            dsimp only
            have LE159 := Lib.hid LOW.size
            obtain ⟨w156, hw157, hb158, R18⟩ := alloc_new w154 rq0 RT
            replace PC := PC.later hb158
            replace D14 := D14.later hb158
            replace C16 := C16.later hb158
            replace TN := TN.later hb158
            replace LOW := LOW.trans (hb158.mono LOW.size)
            clear hb158
            have HW160 := Lib.hid hw157
            clear hw157
            go_wp2_with (first | rw [HW160.out] | (refine wpList_store_rq _ _ w154.heap.size rfl rfl (by rfl) (by rfl) R18 rfl (by rfl) (by first | (simp [Value.oneCell']; done) | simp [rq, Value.oneCell']) ?_; intro w161 p162 j163; have mv164 := j163.blk (Blk.ne PC R18 (by decide)) PC; have mv165 := j163.blk (Blk.ne D14 R18 (by decide)) D14; have mv166 := j163.blk (Blk.ne C16 R18 (by decide)) C16; have mv167 := j163.ts R18 (rq0_no neN) TN; have mv168 := LOW.trans (j163.below LE159.out); replace PC := mv164; replace D14 := mv165; replace C16 := mv166; replace TN := mv167; replace LOW := mv168; replace R18 := p162; simp only [Act.put]; have x2 : w161.cell? ⟨w154.heap.size, 2, none⟩ = some (.int .u64 (N : Int)) := R18.cell 2; have x3 : w161.cell? ⟨w154.heap.size, 3, none⟩ = some (.slice a9 0 c9) := R18.cell 3; have x6 : w161.cell? ⟨w154.heap.size, 6, none⟩ = some (.string ⟨#[100]⟩) := R18.cell 6))
            go_roundw
            case rel => exact ⟨k + 1, N, by omega, by omega, by omega, by go_num, rfl, PC, TN, LOW⟩
            case measure => simp [RowKit.intOf]; omega
          · have hFi : ¬ (q : Int) < (N : Int) := by omega
            have hmx : max (q : Int) (N : Int) = (q : Int) := by omega
            have hq0 : q ≠ 0 := by omega
            refine (take_err (x := (nC true ta tc q)) (k := 3) (q := N) (d := true) (O := true) (E := true) (F := false) (N' := 6) (s' := sLate) (by omega) (by omega) hN1 (HG.out.1.later LOW) (HG.out.2.1.later LOW) rfl rfl (decide_eq_false hF) rfl).mono ?_
            rintro e w169 ⟨rfl, hb170⟩
            replace PC := PC.later hb170
            replace TN := TN.later hb170
            replace LOW := LOW.trans (hb170.mono LOW.size)
            clear hb170
            dsimp only
            have NE174 := Lib.hid (Nat.ne_of_lt PC.lt)
            have LE175 := Lib.hid LOW.size
            obtain ⟨w171, hw172, hb173, D14⟩ := alloc_new w169 Cl.zero.arr CT
            replace hw172 : w169.alloc (.cells #[.bool false, .bool false, .slice none 0 0, .bool false, .int .u64 0, .bool false, .slice none 0 0, .bool false, .int .u64 0, .bool false, .slice none 0 0, .bool false, .int .u64 0, .bool false, .slice none 0 0, .bool false, .int .u64 0, .bool false, .slice none 0 0, .bool false, .int .u64 0, .bool false, .slice none 0 0, .bool false, .int .u64 0] CT) = w171 := hw172
            replace PC := PC.later hb173
            replace TN := TN.later hb173
            replace LOW := LOW.trans (hb173.mono LOW.size)
            clear hb173
            have HW176 := Lib.hid hw172
            clear hw172
            go_wp2_with (first | rw [HW176.out] | (refine wpList_store_cl _ _ Cl.zero (nC true ta tc q) w169.heap.size rfl rfl (by rfl) (by rfl) D14 ?_; intro w177 p178 j179; have mv180 := j179.blk NE174.out PC; have mv181 := j179.ts D14 (cl_no _ _) TN; have mv182 := LOW.trans (j179.below LE175.out); replace PC := mv180; replace TN := mv181; replace LOW := mv182; replace D14 := p178; simp only [Act.put]) | (refine wpList_load_cl _ (nC true ta tc q) w3.heap.size rfl rfl (by rfl) PC ?_; simp only [Act.put, List.setIfInBounds_toArray, List.set_cons_zero, List.set_cons_succ]))
            refine (take_err (x := (nC true ta tc q)) (k := 3) (q := N) (d := false) (O := true) (E := false) (F := decide (q < N)) (N' := 7) (s' := sDelta) (by omega) (by omega) hN1 (HG.out.1.later LOW) (HG.out.2.1.later LOW) rfl rfl rfl rfl).mono ?_
            rintro e w183 ⟨rfl, hb184⟩
            replace PC := PC.later hb184
            replace D14 := D14.later hb184
            replace TN := TN.later hb184
            replace LOW := LOW.trans (hb184.mono LOW.size)
            clear hb184
            dsimp only
            have NE188 := Lib.hid (Nat.ne_of_lt PC.lt)
            have NE189 := Lib.hid (Nat.ne_of_lt D14.lt)
            have LE190 := Lib.hid LOW.size
            obtain ⟨w185, hw186, hb187, C16⟩ := alloc_new w183 Cl.zero.arr CT
            replace hw186 : w183.alloc (.cells #[.bool false, .bool false, .slice none 0 0, .bool false, .int .u64 0, .bool false, .slice none 0 0, .bool false, .int .u64 0, .bool false, .slice none 0 0, .bool false, .int .u64 0, .bool false, .slice none 0 0, .bool false, .int .u64 0, .bool false, .slice none 0 0, .bool false, .int .u64 0, .bool false, .slice none 0 0, .bool false, .int .u64 0] CT) = w185 := hw186
            replace PC := PC.later hb187
            replace D14 := D14.later hb187
            replace TN := TN.later hb187
            replace LOW := LOW.trans (hb187.mono LOW.size)
            clear hb187
            have HW191 := Lib.hid hw186
            clear hw186
            go_wp2_with (first | rw [HW191.out] | (refine wpList_store_cl _ _ Cl.zero (nC true ta tc q) w183.heap.size rfl rfl (by rfl) (by rfl) C16 ?_; intro w192 p193 j194; have mv195 := j194.blk NE188.out PC; have mv196 := j194.blk NE189.out D14; have mv197 := j194.ts C16 (cl_no _ _) TN; have mv198 := LOW.trans (j194.below LE190.out); replace PC := mv195; replace D14 := mv196; replace TN := mv197; replace LOW := mv198; replace C16 := p193; simp only [Act.put]) | (refine wpList_load_cl _ (nC true ta tc q) w169.heap.size rfl rfl (by rfl) D14 ?_; simp only [Act.put, List.setIfInBounds_toArray, List.set_cons_zero, List.set_cons_succ]) | (refine wpList_store_cl _ _ (nC true ta tc q) (nC true ta tc q) w3.heap.size rfl rfl (by rfl) (by rfl) PC ?_; intro w199 p200 j201; have mv202 := j201.blk NE174.out.symm D14; have mv203 := j201.blk NE188.out.symm C16; have mv204 := j201.ts PC (cl_no _ _) TN; have mv205 := LOW.trans (j201.below LE8.out); replace D14 := mv202; replace C16 := mv203; replace TN := mv204; replace LOW := mv205; replace PC := p200; simp only [Act.put]) | (refine wpList_load_cl _ (nC true ta tc q) w3.heap.size rfl rfl (by rfl) PC ?_; simp only [Act.put, List.setIfInBounds_toArray, List.set_cons_zero, List.set_cons_succ]))
            refine (ans_ok (x := (nC true ta tc q)) (k := 3) (s := ⟨#[100]⟩) (L := []) (by omega) (by omega) (by decide) hq0 TN rfl (by decide)).mono ?_
            rintro e w206 ⟨a9, c9, rfl, -, hb207⟩
            replace PC := PC.later hb207
            replace D14 := D14.later hb207
            replace C16 := C16.later hb207
            replace TN := TN.later hb207
            replace LOW := LOW.trans (hb207.mono LOW.size)
            clear hb207
            dsimp only
            have LE211 := Lib.hid LOW.size
            obtain ⟨w208, hw209, hb210, R18⟩ := alloc_new w206 rq0 RT
            replace PC := PC.later hb210
            replace D14 := D14.later hb210
            replace C16 := C16.later hb210
            replace TN := TN.later hb210
            replace LOW := LOW.trans (hb210.mono LOW.size)
            clear hb210
            have HW212 := Lib.hid hw209
            clear hw209
            go_wp2_with (first | rw [HW212.out] | (refine wpList_store_rq _ _ w206.heap.size rfl rfl (by rfl) (by rfl) R18 rfl (by rfl) (by first | (simp [Value.oneCell']; done) | simp [rq, Value.oneCell']) ?_; intro w213 p214 j215; have mv216 := j215.blk (Blk.ne PC R18 (by decide)) PC; have mv217 := j215.blk (Blk.ne D14 R18 (by decide)) D14; have mv218 := j215.blk (Blk.ne C16 R18 (by decide)) C16; have mv219 := j215.ts R18 (rq0_no neN) TN; have mv220 := LOW.trans (j215.below LE211.out); replace PC := mv216; replace D14 := mv217; replace C16 := mv218; replace TN := mv219; replace LOW := mv220; replace R18 := p214; simp only [Act.put]; have x2 : w213.cell? ⟨w206.heap.size, 2, none⟩ = some (.int .u64 (q : Int)) := R18.cell 2; have x3 : w213.cell? ⟨w206.heap.size, 3, none⟩ = some (.slice a9 0 c9) := R18.cell 3; have x6 : w213.cell? ⟨w206.heap.size, 6, none⟩ = some (.string ⟨#[100]⟩) := R18.cell 6))
            go_roundw
            case rel => exact ⟨k + 1, q, by omega, by omega, by omega, by go_num, rfl, PC, TN, LOW⟩
            case measure => simp [RowKit.intOf]; omega
        · have b1 : (k : Int) < (n : Int) := by omega
          have b2 : ¬ (k : Int) < 20 := by omega
          go_wp2_with fail
          go_ret
          exact ⟨rfl, LOW⟩
      · have b1 : ¬ (k : Int) < (n : Int) := by omega
        go_wp2_with fail
        go_ret
        exact ⟨rfl, LOW⟩
  case false =>
    go_enter Tryd.func3, Tryd.ntmps3
    go_wp2_with fail
    refine (cl_examples HG.out.1 HG.out.2.1).mono ?_
    rintro e w221 ⟨rfl, hb222⟩
    replace LOW := LOW.trans (hb222.mono LOW.size)
    clear hb222
    dsimp only
    go_wp2_with fail
    refine (new_any false w221).mono ?_
    rintro e w223 ⟨rfl, hb224⟩
    replace LOW := LOW.trans (hb224.mono LOW.size)
    clear hb224
    dsimp only
    have LE228 := Lib.hid LOW.size
    obtain ⟨w225, hw226, hb227, PC⟩ := alloc_new w223 Cl.zero.arr CT
    replace hw226 : w223.alloc (.cells #[.bool false, .bool false, .slice none 0 0, .bool false, .int .u64 0, .bool false, .slice none 0 0, .bool false, .int .u64 0, .bool false, .slice none 0 0, .bool false, .int .u64 0, .bool false, .slice none 0 0, .bool false, .int .u64 0, .bool false, .slice none 0 0, .bool false, .int .u64 0, .bool false, .slice none 0 0, .bool false, .int .u64 0] CT) = w225 := hw226
    replace LOW := LOW.trans (hb227.mono LOW.size)
    clear hb227
    have HW229 := Lib.hid hw226
    clear hw226
    go_wp2_with (first | rw [HW229.out] | (refine wpList_store_cl _ _ Cl.zero (Cl.new false) w223.heap.size rfl rfl (by rfl) (by rfl) PC ?_; intro w230 p231 j232; have mv233 := LOW.trans (j232.below LE228.out); replace LOW := mv233; replace PC := p231; simp only [Act.put]) | (refine wpList_load_cl _ (Cl.new false) w223.heap.size rfl rfl (by rfl) PC ?_; simp only [Act.put, List.setIfInBounds_toArray, List.set_cons_zero, List.set_cons_succ]))
    refine (take_err (x := Cl.new false) (k := 3) (q := 1) (d := false) (O := false) (E := true) (F := true) (N' := 7) (s' := sAsked) (by omega) (by omega) (by omega) (HG.out.1.later LOW) (HG.out.2.1.later LOW) rfl (by decide) (by decide) rfl).mono ?_
    rintro e w234 ⟨rfl, hb235⟩
    replace PC := PC.later hb235
    replace LOW := LOW.trans (hb235.mono LOW.size)
    clear hb235
    dsimp only
    have NE239 := Lib.hid (Nat.ne_of_lt PC.lt)
    have LE240 := Lib.hid LOW.size
    obtain ⟨w236, hw237, hb238, C7⟩ := alloc_new w234 Cl.zero.arr CT
    replace hw237 : w234.alloc (.cells #[.bool false, .bool false, .slice none 0 0, .bool false, .int .u64 0, .bool false, .slice none 0 0, .bool false, .int .u64 0, .bool false, .slice none 0 0, .bool false, .int .u64 0, .bool false, .slice none 0 0, .bool false, .int .u64 0, .bool false, .slice none 0 0, .bool false, .int .u64 0, .bool false, .slice none 0 0, .bool false, .int .u64 0] CT) = w236 := hw237
    replace PC := PC.later hb238
    replace LOW := LOW.trans (hb238.mono LOW.size)
    clear hb238
    have HW241 := Lib.hid hw237
    clear hw237
    go_wp2_with (first | rw [HW241.out] | (refine wpList_store_cl _ _ Cl.zero (Cl.new false) w234.heap.size rfl rfl (by rfl) (by rfl) C7 ?_; intro w242 p243 j244; have mv245 := j244.blk NE239.out PC; have mv246 := LOW.trans (j244.below LE240.out); replace PC := mv245; replace LOW := mv246; replace C7 := p243; simp only [Act.put]))
    clear C7
    have neS : ∀ x ∈ ([[42]] : List (List UInt8)), x ≠ [] := by intro x hx; obtain rfl := List.mem_singleton.1 hx; decide
    have neN : ∀ x ∈ ([] : List (List UInt8)), x ≠ [] := by intro x hx; cases hx
    go_cut [10] (fun s10 wx => ∃ z, z = wx ∧ (∃ ta tc, s10 = .int .i64 0 ∧ Blk wx w223.heap.size (nC false ta tc 0).arr CT ∧ TsAt wx (.slice ta 0 tc) [] ∧ Below w.heap.size w wx))
    case first =>
      have HO := Lib.hid (show (fun (A : Array Oper) => A[0]? = some { dst := some 33, op := Op.load 32 (Operand.tmp 6), type := 32, pos := "keeps.go:46", after := #[], guard := none } ∧ A[1]? = some { dst := some 34, op := Op.buildSlice 24 1 #[(0, Operand.const (Value.string { data := #[42] }))], type := 24, pos := "keeps.go:46", after := #[], guard := none } ∧ A[2]? = some { dst := some 35, op := Op.call { callee := Callee.value (Operand.func 9), args := #[Operand.tmp 34], argTypes := #[24] }, type := 26, pos := "keeps.go:46", after := #[{ on := 1, ground := Ground.data }], guard := none } ∧ A[3]? = some { dst := some 36, op := Op.call { callee := Callee.value (Operand.func 8), args := #[Operand.tmp 33, Operand.const (Value.int IntKind.i64 3), Operand.tmp 35, Operand.const (Value.slice none 0 0)], argTypes := #[32, 3, 26, 40] }, type := 43, pos := "keeps.go:46", after := #[{ on := 0, ground := Ground.data }, { on := 2, ground := Ground.data }, { on := 2, ground := Ground.chain }], guard := none } ∧ A[4]? = some { dst := some 32, op := Op.move (Operand.tmp 36), type := 43, pos := "keeps.go:46", after := #[{ on := 3, ground := Ground.data }], guard := none } ∧ A[5]? = some { dst := some 37, op := Op.extract (Operand.tmp 32) 0, type := 32, pos := "keeps.go:46", after := #[{ on := 4, ground := Ground.data }], guard := none } ∧ A[6]? = some { dst := some 38, op := Op.extract (Operand.tmp 32) 1, type := 42, pos := "keeps.go:46", after := #[{ on := 4, ground := Ground.data }, { on := 9, ground := Ground.gcOnly Departure.lateStores }], guard := none } ∧ A[7]? = some { dst := some 39, op := Op.extract (Operand.tmp 32) 2, type := 34, pos := "keeps.go:46", after := #[{ on := 4, ground := Ground.data }, { on := 10, ground := Ground.gcOnly Departure.lateStores }], guard := none } ∧ A[8]? = some { dst := some 9, op := Op.alloc 42, type := 0, pos := "keeps.go:46", after := #[], guard := none } ∧ A[9]? = some { dst := none, op := Op.store 32 (Operand.tmp 6) (Operand.tmp 37), type := 0, pos := "keeps.go:46", after := #[{ on := 5, ground := Ground.data }, { on := 3, ground := Ground.chain }, { on := 0, ground := Ground.phase }, { on := 1, ground := Ground.phase }, { on := 2, ground := Ground.phase }, { on := 3, ground := Ground.phase }, { on := 4, ground := Ground.phase }, { on := 5, ground := Ground.phase }, { on := 6, ground := Ground.textOnly Departure.lateStores }, { on := 7, ground := Ground.textOnly Departure.lateStores }, { on := 8, ground := Ground.phase }], guard := none } ∧ A[10]? = some { dst := none, op := Op.store 42 (Operand.tmp 9) (Operand.tmp 38), type := 0, pos := "keeps.go:46", after := #[{ on := 8, ground := Ground.data }, { on := 6, ground := Ground.data }, { on := 9, ground := Ground.chain }, { on := 0, ground := Ground.phase }, { on := 1, ground := Ground.phase }, { on := 2, ground := Ground.phase }, { on := 3, ground := Ground.phase }, { on := 4, ground := Ground.phase }, { on := 5, ground := Ground.phase }, { on := 6, ground := Ground.phase }, { on := 7, ground := Ground.textOnly Departure.lateStores }, { on := 8, ground := Ground.phase }, { on := 9, ground := Ground.phase }], guard := none } ∧ A[11]? = some { dst := some 10, op := Op.assign (Operand.tmp 39), type := 34, pos := "keeps.go:46", after := #[{ on := 7, ground := Ground.data }, { on := 10, ground := Ground.chain }, { on := 0, ground := Ground.phase }, { on := 1, ground := Ground.phase }, { on := 2, ground := Ground.phase }, { on := 3, ground := Ground.phase }, { on := 4, ground := Ground.phase }, { on := 5, ground := Ground.phase }, { on := 6, ground := Ground.phase }, { on := 7, ground := Ground.phase }, { on := 8, ground := Ground.phase }, { on := 9, ground := Ground.phase }, { on := 10, ground := Ground.phase }], guard := none }) #[{ dst := some 33, op := Op.load 32 (Operand.tmp 6), type := 32, pos := "keeps.go:46", after := #[], guard := none }, { dst := some 34, op := Op.buildSlice 24 1 #[(0, Operand.const (Value.string { data := #[42] }))], type := 24, pos := "keeps.go:46", after := #[], guard := none }, { dst := some 35, op := Op.call { callee := Callee.value (Operand.func 9), args := #[Operand.tmp 34], argTypes := #[24] }, type := 26, pos := "keeps.go:46", after := #[{ on := 1, ground := Ground.data }], guard := none }, { dst := some 36, op := Op.call { callee := Callee.value (Operand.func 8), args := #[Operand.tmp 33, Operand.const (Value.int IntKind.i64 3), Operand.tmp 35, Operand.const (Value.slice none 0 0)], argTypes := #[32, 3, 26, 40] }, type := 43, pos := "keeps.go:46", after := #[{ on := 0, ground := Ground.data }, { on := 2, ground := Ground.data }, { on := 2, ground := Ground.chain }], guard := none }, { dst := some 32, op := Op.move (Operand.tmp 36), type := 43, pos := "keeps.go:46", after := #[{ on := 3, ground := Ground.data }], guard := none }, { dst := some 37, op := Op.extract (Operand.tmp 32) 0, type := 32, pos := "keeps.go:46", after := #[{ on := 4, ground := Ground.data }], guard := none }, { dst := some 38, op := Op.extract (Operand.tmp 32) 1, type := 42, pos := "keeps.go:46", after := #[{ on := 4, ground := Ground.data }, { on := 9, ground := Ground.gcOnly Departure.lateStores }], guard := none }, { dst := some 39, op := Op.extract (Operand.tmp 32) 2, type := 34, pos := "keeps.go:46", after := #[{ on := 4, ground := Ground.data }, { on := 10, ground := Ground.gcOnly Departure.lateStores }], guard := none }, { dst := some 9, op := Op.alloc 42, type := 0, pos := "keeps.go:46", after := #[], guard := none }, { dst := none, op := Op.store 32 (Operand.tmp 6) (Operand.tmp 37), type := 0, pos := "keeps.go:46", after := #[{ on := 5, ground := Ground.data }, { on := 3, ground := Ground.chain }, { on := 0, ground := Ground.phase }, { on := 1, ground := Ground.phase }, { on := 2, ground := Ground.phase }, { on := 3, ground := Ground.phase }, { on := 4, ground := Ground.phase }, { on := 5, ground := Ground.phase }, { on := 6, ground := Ground.textOnly Departure.lateStores }, { on := 7, ground := Ground.textOnly Departure.lateStores }, { on := 8, ground := Ground.phase }], guard := none }, { dst := none, op := Op.store 42 (Operand.tmp 9) (Operand.tmp 38), type := 0, pos := "keeps.go:46", after := #[{ on := 8, ground := Ground.data }, { on := 6, ground := Ground.data }, { on := 9, ground := Ground.chain }, { on := 0, ground := Ground.phase }, { on := 1, ground := Ground.phase }, { on := 2, ground := Ground.phase }, { on := 3, ground := Ground.phase }, { on := 4, ground := Ground.phase }, { on := 5, ground := Ground.phase }, { on := 6, ground := Ground.phase }, { on := 7, ground := Ground.textOnly Departure.lateStores }, { on := 8, ground := Ground.phase }, { on := 9, ground := Ground.phase }], guard := none }, { dst := some 10, op := Op.assign (Operand.tmp 39), type := 34, pos := "keeps.go:46", after := #[{ on := 7, ground := Ground.data }, { on := 10, ground := Ground.chain }, { on := 0, ground := Ground.phase }, { on := 1, ground := Ground.phase }, { on := 2, ground := Ground.phase }, { on := 3, ground := Ground.phase }, { on := 4, ground := Ground.phase }, { on := 5, ground := Ground.phase }, { on := 6, ground := Ground.phase }, { on := 7, ground := Ground.phase }, { on := 8, ground := Ground.phase }, { on := 9, ground := Ground.phase }, { on := 10, ground := Ground.phase }], guard := none }] from ⟨by kernel_rfl, by kernel_rfl, by kernel_rfl, by kernel_rfl, by kernel_rfl, by kernel_rfl, by kernel_rfl, by kernel_rfl, by kernel_rfl, by kernel_rfl, by kernel_rfl, by kernel_rfl⟩)
      obtain ⟨w247, hw248, hb249⟩ := drew_new w242
      replace PC := PC.later hb249
      replace LOW := LOW.trans (hb249.mono LOW.size)
      refine region_gate (S := (fun w' => Blk w' w223.heap.size (Cl.new false).arr CT)) (z := 9) (by kernel_rfl) ?_
      rw [hw248]
      clear hw248 hb249
      refine gate_load (i := 0) (v := .agg (Cl.new false).arr) HO.out.1 (by decide) (by kernel_rfl) (by kernel_rfl) (by kernel_rfl) (by kernel_rfl) (by kernel_rfl) (fun _ _ _ h => h) (Or.inl ⟨by rfl, fun w1 h0 => ?hy1⟩) PC ?rest1
      case hy1 => (apply exec_load_cl; (· rfl); (· rfl); exact h0)
      try simp only [Act.put, List.setIfInBounds_toArray, List.set_cons_zero, List.set_cons_succ]
      refine gate_ready (rs := [1, 8]) (by kernel_rfl) (by simp) ?_
      refine AllGate.cons HO.out.2.1 (fun K hK => ?_) ?_
      · go_simp
        have LE253 := Lib.hid LOW.size
        obtain ⟨w250, hw251, hb252, QA⟩ := alloc_new w247 #[.string ⟨#[42]⟩] 9
        replace PC := PC.later hb252
        replace LOW := LOW.trans (hb252.mono LOW.size)
        clear hb252
        have TA : TsAt w250 _ [[42]] := ts_block (l := [[42]]) QA (by decide) rfl
        rw [hw251]
        clear hw251 QA
        refine hK.out _ _ (fun _ => PC) ?_
        clear hK K
        try simp only [Act.put, List.setIfInBounds_toArray, List.set_cons_zero, List.set_cons_succ]
        refine gate_ready (rs := [2, 8]) (by kernel_rfl) (by simp) ?_
        refine AllGate.cons HO.out.2.2.1 (fun K hK => ?_) ?_
        · go_simp
          refine (of_any (l := [[42]]) TA star_fit star_of).mono ?_
          rintro e w254 ⟨ta0, tc0, rfl, TO, hb255⟩
          replace PC := PC.later hb255
          replace TA := TA.later hb255
          replace LOW := LOW.trans (hb255.mono LOW.size)
          clear hb255
          clear TA
          refine hK.out _ _ (fun _ => PC) ?_
          clear hK K
          try simp only [Act.put, List.setIfInBounds_toArray, List.set_cons_zero, List.set_cons_succ]
          refine gate_ready (rs := [3, 8]) (by kernel_rfl) (by simp) ?_
          refine AllGate.cons HO.out.2.2.2.1 (fun K hK => ?_) ?_
          · go_simp
            refine (ask_ok (x := Cl.new false) (k := 3) (n := 0) (m := 0) (hs := []) (ask_first (by omega) (by omega) star_real (by simp [Rises]) nm_nil (by omega) (by decide) rfl rfl rfl) TO (Tp.zero_at _) (HvAt.nil _ _) rfl (by omega) (by decide)).mono ?_
            rintro e w256 ⟨ta, tc, a1, c1, a2, c2, a3, c3, rfl, TN, -, -, hb257⟩
            replace PC := PC.later hb257
            replace TO := TO.later hb257
            replace LOW := LOW.trans (hb257.mono LOW.size)
            clear hb257
            clear TO
            refine hK.out _ _ (fun _ => PC) ?_
            clear hK K
            try simp only [Act.put, List.setIfInBounds_toArray, List.set_cons_zero, List.set_cons_succ]
            refine gate_take (i := 4) (v := ?v2) HO.out.2.2.2.2.1 (by decide) (by kernel_rfl) (by kernel_rfl) (by kernel_rfl) (fun _ _ _ h => h) (Or.inl ⟨by rfl, fun w1 _ => ?hy2⟩) (fun _ => PC) ?rest2
            case hy2 => (go_simp; try with_reducible rfl)
            try simp only [Act.put, List.setIfInBounds_toArray, List.set_cons_zero, List.set_cons_succ]
            refine gate_take (i := 5) (v := ?v3) HO.out.2.2.2.2.2.1 (by decide) (by kernel_rfl) (by kernel_rfl) (by kernel_rfl) (fun _ _ _ h => h) (Or.inl ⟨by rfl, fun w1 _ => ?hy3⟩) (fun _ => PC) ?rest3
            case hy3 => (go_simp; try with_reducible rfl)
            try simp only [Act.put, List.setIfInBounds_toArray, List.set_cons_zero, List.set_cons_succ]
            refine gate_take (i := 6) (v := ?v4) HO.out.2.2.2.2.2.2.1 (by decide) (by kernel_rfl) (by kernel_rfl) (by kernel_rfl) (fun _ _ _ h => h) (Or.inl ⟨by rfl, fun w1 _ => ?hy4⟩) (fun _ => PC) ?rest4
            case hy4 => (go_simp; try with_reducible rfl)
            try simp only [Act.put, List.setIfInBounds_toArray, List.set_cons_zero, List.set_cons_succ]
            refine gate_take (i := 7) (v := ?v5) HO.out.2.2.2.2.2.2.2.1 (by decide) (by kernel_rfl) (by kernel_rfl) (by kernel_rfl) (fun _ _ _ h => h) (Or.inl ⟨by rfl, fun w1 _ => ?hy5⟩) (fun _ => PC) ?rest5
            case hy5 => (go_simp; try with_reducible rfl)
            try simp only [Act.put, List.setIfInBounds_toArray, List.set_cons_zero, List.set_cons_succ]
            refine gate_ready (rs := [8]) (by kernel_rfl) (by simp) ?_
            refine AllGate.cons HO.out.2.2.2.2.2.2.2.2.1 (fun K hK => ?_) AllGate.nil
            go_simp
            have LE261 := Lib.hid LOW.size
            obtain ⟨w258, hw259, hb260, R9⟩ := alloc_new w256 rq0 RT
            replace PC := PC.later hb260
            replace TN := TN.later hb260
            replace LOW := LOW.trans (hb260.mono LOW.size)
            clear hb260
            rw [hw259]
            clear hw259
            refine hK.out _ _ (fun _ => PC) ?_
            clear hK K
            try simp only [Act.put, List.setIfInBounds_toArray, List.set_cons_zero, List.set_cons_succ]
            refine gate_ready (rs := [9]) (by kernel_rfl) (by simp) ?_
            refine AllGate.cons HO.out.2.2.2.2.2.2.2.2.2.1 (fun K hK => ?_) AllGate.nil
            rw [if_pos (by rfl)]
            refine wp_store_cl _ _ (Cl.new false) (nC false ta tc 0) w223.heap.size rfl (by rfl) (by rfl) PC ?_
            intro w262 p263 j264
            have mv265 := j264.blk (Blk.ne R9 PC (by decide)) R9
            have mv266 := j264.ts PC (cl_no _ _) TN
            have mv267 := LOW.trans (j264.below LE228.out)
            replace R9 := mv265
            replace TN := mv266
            replace LOW := mv267
            replace PC := p263
            refine hK.out _ _ (ahead_off (by kernel_rfl)) ?_
            clear hK K
            simp only [Act.put]
            refine gate_ready (rs := [10]) (by kernel_rfl) (by simp) ?_
            refine AllGate.cons HO.out.2.2.2.2.2.2.2.2.2.2.1 (fun K hK => ?_) AllGate.nil
            rw [if_pos (by rfl)]
            refine wp_store_rq _ _ w256.heap.size rfl (by rfl) (by rfl) R9 rfl (by rfl) (by first | (simp [Value.oneCell']; done) | simp [rq, Value.oneCell']) ?_
            intro w268 p269 j270
            have mv271 := j270.blk (Blk.ne PC R9 (by decide)) PC
            have mv272 := j270.ts R9 (rq0_no neN) TN
            have mv273 := LOW.trans (j270.below LE261.out)
            replace PC := mv271
            replace TN := mv272
            replace LOW := mv273
            replace R9 := p269
            refine hK.out _ _ (ahead_off (by kernel_rfl)) ?_
            clear hK K
            simp only [Act.put]
            refine gate_take (i := 11) (v := ?v6) HO.out.2.2.2.2.2.2.2.2.2.2.2 (by decide) (by kernel_rfl) (by kernel_rfl) (by kernel_rfl) (fun _ _ _ h => h) (Or.inl ⟨by rfl, fun w1 _ => ?hy6⟩) (ahead_off (by kernel_rfl)) ?rest6
            case hy6 => (go_simp; try with_reducible rfl)
            try simp only [Act.put, List.setIfInBounds_toArray, List.set_cons_zero, List.set_cons_succ]
            refine gate_done (by kernel_rfl) ?_ _
            go_wp2_with fail
            go_meet
            exact ⟨_, rfl, ta, tc, rfl, PC, TN, LOW⟩
          refine AllGate.cons HO.out.2.2.2.2.2.2.2.2.1 (fun K hK => ?_) AllGate.nil
          go_simp
          have LE277 := Lib.hid LOW.size
          obtain ⟨w274, hw275, hb276, R9⟩ := alloc_new w254 rq0 RT
          replace PC := PC.later hb276
          replace TO := TO.later hb276
          replace LOW := LOW.trans (hb276.mono LOW.size)
          clear hb276
          rw [hw275]
          clear hw275
          refine hK.out _ _ (fun _ => PC) ?_
          clear hK K
          try simp only [Act.put, List.setIfInBounds_toArray, List.set_cons_zero, List.set_cons_succ]
          refine gate_ready (rs := [3]) (by kernel_rfl) (by simp) ?_
          refine AllGate.cons HO.out.2.2.2.1 (fun K hK => ?_) AllGate.nil
          go_simp
          refine (ask_ok (x := Cl.new false) (k := 3) (n := 0) (m := 0) (hs := []) (ask_first (by omega) (by omega) star_real (by simp [Rises]) nm_nil (by omega) (by decide) rfl rfl rfl) TO (Tp.zero_at _) (HvAt.nil _ _) rfl (by omega) (by decide)).mono ?_
          rintro e w278 ⟨ta, tc, a1, c1, a2, c2, a3, c3, rfl, TN, -, -, hb279⟩
          replace PC := PC.later hb279
          replace R9 := R9.later hb279
          replace TO := TO.later hb279
          replace LOW := LOW.trans (hb279.mono LOW.size)
          clear hb279
          clear TO
          refine hK.out _ _ (fun _ => PC) ?_
          clear hK K
          try simp only [Act.put, List.setIfInBounds_toArray, List.set_cons_zero, List.set_cons_succ]
          refine gate_take (i := 4) (v := ?v7) HO.out.2.2.2.2.1 (by decide) (by kernel_rfl) (by kernel_rfl) (by kernel_rfl) (fun _ _ _ h => h) (Or.inl ⟨by rfl, fun w1 _ => ?hy7⟩) (fun _ => PC) ?rest7
          case hy7 => (go_simp; try with_reducible rfl)
          try simp only [Act.put, List.setIfInBounds_toArray, List.set_cons_zero, List.set_cons_succ]
          refine gate_take (i := 5) (v := ?v8) HO.out.2.2.2.2.2.1 (by decide) (by kernel_rfl) (by kernel_rfl) (by kernel_rfl) (fun _ _ _ h => h) (Or.inl ⟨by rfl, fun w1 _ => ?hy8⟩) (fun _ => PC) ?rest8
          case hy8 => (go_simp; try with_reducible rfl)
          try simp only [Act.put, List.setIfInBounds_toArray, List.set_cons_zero, List.set_cons_succ]
          refine gate_take (i := 6) (v := ?v9) HO.out.2.2.2.2.2.2.1 (by decide) (by kernel_rfl) (by kernel_rfl) (by kernel_rfl) (fun _ _ _ h => h) (Or.inl ⟨by rfl, fun w1 _ => ?hy9⟩) (fun _ => PC) ?rest9
          case hy9 => (go_simp; try with_reducible rfl)
          try simp only [Act.put, List.setIfInBounds_toArray, List.set_cons_zero, List.set_cons_succ]
          refine gate_take (i := 7) (v := ?v10) HO.out.2.2.2.2.2.2.2.1 (by decide) (by kernel_rfl) (by kernel_rfl) (by kernel_rfl) (fun _ _ _ h => h) (Or.inl ⟨by rfl, fun w1 _ => ?hy10⟩) (fun _ => PC) ?rest10
          case hy10 => (go_simp; try with_reducible rfl)
          try simp only [Act.put, List.setIfInBounds_toArray, List.set_cons_zero, List.set_cons_succ]
          refine gate_ready (rs := [9]) (by kernel_rfl) (by simp) ?_
          refine AllGate.cons HO.out.2.2.2.2.2.2.2.2.2.1 (fun K hK => ?_) AllGate.nil
          rw [if_pos (by rfl)]
          refine wp_store_cl _ _ (Cl.new false) (nC false ta tc 0) w223.heap.size rfl (by rfl) (by rfl) PC ?_
          intro w280 p281 j282
          have mv283 := j282.blk (Blk.ne R9 PC (by decide)) R9
          have mv284 := j282.ts PC (cl_no _ _) TN
          have mv285 := LOW.trans (j282.below LE228.out)
          replace R9 := mv283
          replace TN := mv284
          replace LOW := mv285
          replace PC := p281
          refine hK.out _ _ (ahead_off (by kernel_rfl)) ?_
          clear hK K
          simp only [Act.put]
          refine gate_ready (rs := [10]) (by kernel_rfl) (by simp) ?_
          refine AllGate.cons HO.out.2.2.2.2.2.2.2.2.2.2.1 (fun K hK => ?_) AllGate.nil
          rw [if_pos (by rfl)]
          refine wp_store_rq _ _ w254.heap.size rfl (by rfl) (by rfl) R9 rfl (by rfl) (by first | (simp [Value.oneCell']; done) | simp [rq, Value.oneCell']) ?_
          intro w286 p287 j288
          have mv289 := j288.blk (Blk.ne PC R9 (by decide)) PC
          have mv290 := j288.ts R9 (rq0_no neN) TN
          have mv291 := LOW.trans (j288.below LE277.out)
          replace PC := mv289
          replace TN := mv290
          replace LOW := mv291
          replace R9 := p287
          refine hK.out _ _ (ahead_off (by kernel_rfl)) ?_
          clear hK K
          simp only [Act.put]
          refine gate_take (i := 11) (v := ?v11) HO.out.2.2.2.2.2.2.2.2.2.2.2 (by decide) (by kernel_rfl) (by kernel_rfl) (by kernel_rfl) (fun _ _ _ h => h) (Or.inl ⟨by rfl, fun w1 _ => ?hy11⟩) (ahead_off (by kernel_rfl)) ?rest11
          case hy11 => (go_simp; try with_reducible rfl)
          try simp only [Act.put, List.setIfInBounds_toArray, List.set_cons_zero, List.set_cons_succ]
          refine gate_done (by kernel_rfl) ?_ _
          go_wp2_with fail
          go_meet
          exact ⟨_, rfl, ta, tc, rfl, PC, TN, LOW⟩
        refine AllGate.cons HO.out.2.2.2.2.2.2.2.2.1 (fun K hK => ?_) AllGate.nil
        go_simp
        have LE295 := Lib.hid LOW.size
        obtain ⟨w292, hw293, hb294, R9⟩ := alloc_new w250 rq0 RT
        replace PC := PC.later hb294
        replace TA := TA.later hb294
        replace LOW := LOW.trans (hb294.mono LOW.size)
        clear hb294
        rw [hw293]
        clear hw293
        refine hK.out _ _ (fun _ => PC) ?_
        clear hK K
        try simp only [Act.put, List.setIfInBounds_toArray, List.set_cons_zero, List.set_cons_succ]
        refine gate_ready (rs := [2]) (by kernel_rfl) (by simp) ?_
        refine AllGate.cons HO.out.2.2.1 (fun K hK => ?_) AllGate.nil
        go_simp
        refine (of_any (l := [[42]]) TA star_fit star_of).mono ?_
        rintro e w296 ⟨ta0, tc0, rfl, TO, hb297⟩
        replace PC := PC.later hb297
        replace R9 := R9.later hb297
        replace TA := TA.later hb297
        replace LOW := LOW.trans (hb297.mono LOW.size)
        clear hb297
        clear TA
        refine hK.out _ _ (fun _ => PC) ?_
        clear hK K
        try simp only [Act.put, List.setIfInBounds_toArray, List.set_cons_zero, List.set_cons_succ]
        refine gate_ready (rs := [3]) (by kernel_rfl) (by simp) ?_
        refine AllGate.cons HO.out.2.2.2.1 (fun K hK => ?_) AllGate.nil
        go_simp
        refine (ask_ok (x := Cl.new false) (k := 3) (n := 0) (m := 0) (hs := []) (ask_first (by omega) (by omega) star_real (by simp [Rises]) nm_nil (by omega) (by decide) rfl rfl rfl) TO (Tp.zero_at _) (HvAt.nil _ _) rfl (by omega) (by decide)).mono ?_
        rintro e w298 ⟨ta, tc, a1, c1, a2, c2, a3, c3, rfl, TN, -, -, hb299⟩
        replace PC := PC.later hb299
        replace R9 := R9.later hb299
        replace TO := TO.later hb299
        replace LOW := LOW.trans (hb299.mono LOW.size)
        clear hb299
        clear TO
        refine hK.out _ _ (fun _ => PC) ?_
        clear hK K
        try simp only [Act.put, List.setIfInBounds_toArray, List.set_cons_zero, List.set_cons_succ]
        refine gate_take (i := 4) (v := ?v12) HO.out.2.2.2.2.1 (by decide) (by kernel_rfl) (by kernel_rfl) (by kernel_rfl) (fun _ _ _ h => h) (Or.inl ⟨by rfl, fun w1 _ => ?hy12⟩) (fun _ => PC) ?rest12
        case hy12 => (go_simp; try with_reducible rfl)
        try simp only [Act.put, List.setIfInBounds_toArray, List.set_cons_zero, List.set_cons_succ]
        refine gate_take (i := 5) (v := ?v13) HO.out.2.2.2.2.2.1 (by decide) (by kernel_rfl) (by kernel_rfl) (by kernel_rfl) (fun _ _ _ h => h) (Or.inl ⟨by rfl, fun w1 _ => ?hy13⟩) (fun _ => PC) ?rest13
        case hy13 => (go_simp; try with_reducible rfl)
        try simp only [Act.put, List.setIfInBounds_toArray, List.set_cons_zero, List.set_cons_succ]
        refine gate_take (i := 6) (v := ?v14) HO.out.2.2.2.2.2.2.1 (by decide) (by kernel_rfl) (by kernel_rfl) (by kernel_rfl) (fun _ _ _ h => h) (Or.inl ⟨by rfl, fun w1 _ => ?hy14⟩) (fun _ => PC) ?rest14
        case hy14 => (go_simp; try with_reducible rfl)
        try simp only [Act.put, List.setIfInBounds_toArray, List.set_cons_zero, List.set_cons_succ]
        refine gate_take (i := 7) (v := ?v15) HO.out.2.2.2.2.2.2.2.1 (by decide) (by kernel_rfl) (by kernel_rfl) (by kernel_rfl) (fun _ _ _ h => h) (Or.inl ⟨by rfl, fun w1 _ => ?hy15⟩) (fun _ => PC) ?rest15
        case hy15 => (go_simp; try with_reducible rfl)
        try simp only [Act.put, List.setIfInBounds_toArray, List.set_cons_zero, List.set_cons_succ]
        refine gate_ready (rs := [9]) (by kernel_rfl) (by simp) ?_
        refine AllGate.cons HO.out.2.2.2.2.2.2.2.2.2.1 (fun K hK => ?_) AllGate.nil
        rw [if_pos (by rfl)]
        refine wp_store_cl _ _ (Cl.new false) (nC false ta tc 0) w223.heap.size rfl (by rfl) (by rfl) PC ?_
        intro w300 p301 j302
        have mv303 := j302.blk (Blk.ne R9 PC (by decide)) R9
        have mv304 := j302.ts PC (cl_no _ _) TN
        have mv305 := LOW.trans (j302.below LE228.out)
        replace R9 := mv303
        replace TN := mv304
        replace LOW := mv305
        replace PC := p301
        refine hK.out _ _ (ahead_off (by kernel_rfl)) ?_
        clear hK K
        simp only [Act.put]
        refine gate_ready (rs := [10]) (by kernel_rfl) (by simp) ?_
        refine AllGate.cons HO.out.2.2.2.2.2.2.2.2.2.2.1 (fun K hK => ?_) AllGate.nil
        rw [if_pos (by rfl)]
        refine wp_store_rq _ _ w250.heap.size rfl (by rfl) (by rfl) R9 rfl (by rfl) (by first | (simp [Value.oneCell']; done) | simp [rq, Value.oneCell']) ?_
        intro w306 p307 j308
        have mv309 := j308.blk (Blk.ne PC R9 (by decide)) PC
        have mv310 := j308.ts R9 (rq0_no neN) TN
        have mv311 := LOW.trans (j308.below LE295.out)
        replace PC := mv309
        replace TN := mv310
        replace LOW := mv311
        replace R9 := p307
        refine hK.out _ _ (ahead_off (by kernel_rfl)) ?_
        clear hK K
        simp only [Act.put]
        refine gate_take (i := 11) (v := ?v16) HO.out.2.2.2.2.2.2.2.2.2.2.2 (by decide) (by kernel_rfl) (by kernel_rfl) (by kernel_rfl) (fun _ _ _ h => h) (Or.inl ⟨by rfl, fun w1 _ => ?hy16⟩) (ahead_off (by kernel_rfl)) ?rest16
        case hy16 => (go_simp; try with_reducible rfl)
        try simp only [Act.put, List.setIfInBounds_toArray, List.set_cons_zero, List.set_cons_succ]
        refine gate_done (by kernel_rfl) ?_ _
        go_wp2_with fail
        go_meet
        exact ⟨_, rfl, ta, tc, rfl, PC, TN, LOW⟩
      refine AllGate.cons HO.out.2.2.2.2.2.2.2.2.1 (fun K hK => ?_) AllGate.nil
      go_simp
      have LE315 := Lib.hid LOW.size
      obtain ⟨w312, hw313, hb314, R9⟩ := alloc_new w247 rq0 RT
      replace PC := PC.later hb314
      replace LOW := LOW.trans (hb314.mono LOW.size)
      clear hb314
      rw [hw313]
      clear hw313
      refine hK.out _ _ (fun _ => PC) ?_
      clear hK K
      try simp only [Act.put, List.setIfInBounds_toArray, List.set_cons_zero, List.set_cons_succ]
      refine gate_ready (rs := [1]) (by kernel_rfl) (by simp) ?_
      refine AllGate.cons HO.out.2.1 (fun K hK => ?_) AllGate.nil
      go_simp
      have LE319 := Lib.hid LOW.size
      obtain ⟨w316, hw317, hb318, QA⟩ := alloc_new w312 #[.string ⟨#[42]⟩] 9
      replace PC := PC.later hb318
      replace R9 := R9.later hb318
      replace LOW := LOW.trans (hb318.mono LOW.size)
      clear hb318
      have TA : TsAt w316 _ [[42]] := ts_block (l := [[42]]) QA (by decide) rfl
      rw [hw317]
      clear hw317 QA
      refine hK.out _ _ (fun _ => PC) ?_
      clear hK K
      try simp only [Act.put, List.setIfInBounds_toArray, List.set_cons_zero, List.set_cons_succ]
      refine gate_ready (rs := [2]) (by kernel_rfl) (by simp) ?_
      refine AllGate.cons HO.out.2.2.1 (fun K hK => ?_) AllGate.nil
      go_simp
      refine (of_any (l := [[42]]) TA star_fit star_of).mono ?_
      rintro e w320 ⟨ta0, tc0, rfl, TO, hb321⟩
      replace PC := PC.later hb321
      replace R9 := R9.later hb321
      replace TA := TA.later hb321
      replace LOW := LOW.trans (hb321.mono LOW.size)
      clear hb321
      clear TA
      refine hK.out _ _ (fun _ => PC) ?_
      clear hK K
      try simp only [Act.put, List.setIfInBounds_toArray, List.set_cons_zero, List.set_cons_succ]
      refine gate_ready (rs := [3]) (by kernel_rfl) (by simp) ?_
      refine AllGate.cons HO.out.2.2.2.1 (fun K hK => ?_) AllGate.nil
      go_simp
      refine (ask_ok (x := Cl.new false) (k := 3) (n := 0) (m := 0) (hs := []) (ask_first (by omega) (by omega) star_real (by simp [Rises]) nm_nil (by omega) (by decide) rfl rfl rfl) TO (Tp.zero_at _) (HvAt.nil _ _) rfl (by omega) (by decide)).mono ?_
      rintro e w322 ⟨ta, tc, a1, c1, a2, c2, a3, c3, rfl, TN, -, -, hb323⟩
      replace PC := PC.later hb323
      replace R9 := R9.later hb323
      replace TO := TO.later hb323
      replace LOW := LOW.trans (hb323.mono LOW.size)
      clear hb323
      clear TO
      refine hK.out _ _ (fun _ => PC) ?_
      clear hK K
      try simp only [Act.put, List.setIfInBounds_toArray, List.set_cons_zero, List.set_cons_succ]
      refine gate_take (i := 4) (v := ?v17) HO.out.2.2.2.2.1 (by decide) (by kernel_rfl) (by kernel_rfl) (by kernel_rfl) (fun _ _ _ h => h) (Or.inl ⟨by rfl, fun w1 _ => ?hy17⟩) (fun _ => PC) ?rest17
      case hy17 => (go_simp; try with_reducible rfl)
      try simp only [Act.put, List.setIfInBounds_toArray, List.set_cons_zero, List.set_cons_succ]
      refine gate_take (i := 5) (v := ?v18) HO.out.2.2.2.2.2.1 (by decide) (by kernel_rfl) (by kernel_rfl) (by kernel_rfl) (fun _ _ _ h => h) (Or.inl ⟨by rfl, fun w1 _ => ?hy18⟩) (fun _ => PC) ?rest18
      case hy18 => (go_simp; try with_reducible rfl)
      try simp only [Act.put, List.setIfInBounds_toArray, List.set_cons_zero, List.set_cons_succ]
      refine gate_take (i := 6) (v := ?v19) HO.out.2.2.2.2.2.2.1 (by decide) (by kernel_rfl) (by kernel_rfl) (by kernel_rfl) (fun _ _ _ h => h) (Or.inl ⟨by rfl, fun w1 _ => ?hy19⟩) (fun _ => PC) ?rest19
      case hy19 => (go_simp; try with_reducible rfl)
      try simp only [Act.put, List.setIfInBounds_toArray, List.set_cons_zero, List.set_cons_succ]
      refine gate_take (i := 7) (v := ?v20) HO.out.2.2.2.2.2.2.2.1 (by decide) (by kernel_rfl) (by kernel_rfl) (by kernel_rfl) (fun _ _ _ h => h) (Or.inl ⟨by rfl, fun w1 _ => ?hy20⟩) (fun _ => PC) ?rest20
      case hy20 => (go_simp; try with_reducible rfl)
      try simp only [Act.put, List.setIfInBounds_toArray, List.set_cons_zero, List.set_cons_succ]
      refine gate_ready (rs := [9]) (by kernel_rfl) (by simp) ?_
      refine AllGate.cons HO.out.2.2.2.2.2.2.2.2.2.1 (fun K hK => ?_) AllGate.nil
      rw [if_pos (by rfl)]
      refine wp_store_cl _ _ (Cl.new false) (nC false ta tc 0) w223.heap.size rfl (by rfl) (by rfl) PC ?_
      intro w324 p325 j326
      have mv327 := j326.blk (Blk.ne R9 PC (by decide)) R9
      have mv328 := j326.ts PC (cl_no _ _) TN
      have mv329 := LOW.trans (j326.below LE228.out)
      replace R9 := mv327
      replace TN := mv328
      replace LOW := mv329
      replace PC := p325
      refine hK.out _ _ (ahead_off (by kernel_rfl)) ?_
      clear hK K
      simp only [Act.put]
      refine gate_ready (rs := [10]) (by kernel_rfl) (by simp) ?_
      refine AllGate.cons HO.out.2.2.2.2.2.2.2.2.2.2.1 (fun K hK => ?_) AllGate.nil
      rw [if_pos (by rfl)]
      refine wp_store_rq _ _ w247.heap.size rfl (by rfl) (by rfl) R9 rfl (by rfl) (by first | (simp [Value.oneCell']; done) | simp [rq, Value.oneCell']) ?_
      intro w330 p331 j332
      have mv333 := j332.blk (Blk.ne PC R9 (by decide)) PC
      have mv334 := j332.ts R9 (rq0_no neN) TN
      have mv335 := LOW.trans (j332.below LE315.out)
      replace PC := mv333
      replace TN := mv334
      replace LOW := mv335
      replace R9 := p331
      refine hK.out _ _ (ahead_off (by kernel_rfl)) ?_
      clear hK K
      simp only [Act.put]
      refine gate_take (i := 11) (v := ?v21) HO.out.2.2.2.2.2.2.2.2.2.2.2 (by decide) (by kernel_rfl) (by kernel_rfl) (by kernel_rfl) (fun _ _ _ h => h) (Or.inl ⟨by rfl, fun w1 _ => ?hy21⟩) (ahead_off (by kernel_rfl)) ?rest21
      case hy21 => (go_simp; try with_reducible rfl)
      try simp only [Act.put, List.setIfInBounds_toArray, List.set_cons_zero, List.set_cons_succ]
      refine gate_done (by kernel_rfl) ?_ _
      go_wp2_with fail
      go_meet
      exact ⟨_, rfl, ta, tc, rfl, PC, TN, LOW⟩
    case rest =>
    clear PC LOW
    obtain ⟨wz336, hwz, ta, tc, rfl, PC, TN, LOW⟩ := hcut
    subst hwz
    go_wp2_with fail
    go_loopw [12, 11] (fun i la wr => ∃ k q : Nat, k ≤ n ∧ k ≤ 20 ∧ q ≤ 256 ∧ i = .int .i64 k ∧ la = .int .u64 q ∧ Blk wr w223.heap.size (nC false ta tc q).arr CT ∧ TsAt wr (.slice ta 0 tc) [] ∧ Below w.heap.size w wr) (fun i _ _ => n - (RowKit.intOf i).toNat)
    case atStart => exact ⟨0, 0, Nat.zero_le _, Nat.zero_le _, Nat.zero_le _, rfl, rfl, PC, TN, LOW⟩
    case round =>
      clear PC TN LOW
      obtain ⟨k, q, hk, hk20, hq, rfl, rfl, PC, TN, LOW⟩ := hrel
      by_cases hlt : k < n
      · by_cases hlt2 : k < 20
        · obtain ⟨bb, hx⟩ : ∃ bb, ms[k]? = some bb := ⟨_, List.getElem?_eq_getElem (by have := HG.out.2.2.2.1; omega)⟩
          have hb256 := HG.out.2.2.2.2 bb (List.mem_of_getElem? hx)
          obtain ⟨g, off, rfl, hgl, hcell⟩ := HG.out.2.2.1 k bb hx
          have d1 : wr.cell? ⟨g, off + k, none⟩ = some (.int .u8 (bb : Int)) := (LOW.cell (p := ⟨g, _, none⟩) hgl).trans hcell
          have b0 : (0 : Int) ≤ (k : Int) := by omega
          have b1 : (k : Int) < (n : Int) := by omega
          have b2 : (k : Int) < 20 := by omega
          obtain ⟨N, hN⟩ : ∃ N : Nat, bb + 1 = N := ⟨_, rfl⟩
          have hw1 : IntKind.u64.wrap ((bb : Int) + 1) = ((bb + 1 : Nat) : Int) := by rw [show IntKind.u64.wrap ((bb : Int) + 1) = ((bb : Int) + 1) % 18446744073709551616 from rfl]; omega
          clear hcell hgl hx
          go_wp2_with (first | (refine wpList_load_cl _ (nC false ta tc q) w223.heap.size rfl rfl (by rfl) PC ?_; simp only [Act.put, List.setIfInBounds_toArray, List.set_cons_zero, List.set_cons_succ]))
          have hNi : ((bb : Int) + 1) = (N : Int) := by omega
          try rw [hNi]
          have hN1 : N ≠ 0 := by omega
          have hN2 : N ≤ 256 := by omega
          clear hNi hN d1 hb256 b0 hw1
          by_cases hF : q < N
          · have hFi : (q : Int) < (N : Int) := by omega
            have hFj : ¬ (N : Int) < (q : Int) := by omega
            have hmx : max (q : Int) (N : Int) = (N : Int) := by omega
            refine (take_ok (x := (nC false ta tc q)) (k := 3) (q := N) (d := false) (O := true) (E := true) (F := true) (by omega) (by omega) hN1 (HG.out.1.later LOW) rfl rfl (decide_eq_true hF) rfl).mono ?_
            rintro e w337 ⟨rfl, hb338⟩
            replace PC := PC.later hb338
            replace TN := TN.later hb338
            replace LOW := LOW.trans (hb338.mono LOW.size)
            clear hb338
            dsimp only
            have NE342 := Lib.hid (Nat.ne_of_lt PC.lt)
            have LE343 := Lib.hid LOW.size
            obtain ⟨w339, hw340, hb341, D14⟩ := alloc_new w337 Cl.zero.arr CT
            replace hw340 : w337.alloc (.cells #[.bool false, .bool false, .slice none 0 0, .bool false, .int .u64 0, .bool false, .slice none 0 0, .bool false, .int .u64 0, .bool false, .slice none 0 0, .bool false, .int .u64 0, .bool false, .slice none 0 0, .bool false, .int .u64 0, .bool false, .slice none 0 0, .bool false, .int .u64 0, .bool false, .slice none 0 0, .bool false, .int .u64 0] CT) = w339 := hw340
            replace PC := PC.later hb341
            replace TN := TN.later hb341
            replace LOW := LOW.trans (hb341.mono LOW.size)
            clear hb341
            have HW344 := Lib.hid hw340
            clear hw340
            go_wp2_with (first | rw [HW344.out] | (refine wpList_store_cl _ _ Cl.zero (nC false ta tc N) w337.heap.size rfl rfl (by rfl) (by rfl) D14 ?_; intro w345 p346 j347; have mv348 := j347.blk NE342.out PC; have mv349 := j347.ts D14 (cl_no _ _) TN; have mv350 := LOW.trans (j347.below LE343.out); replace PC := mv348; replace TN := mv349; replace LOW := mv350; replace D14 := p346; simp only [Act.put]) | (refine wpList_load_cl _ (nC false ta tc q) w223.heap.size rfl rfl (by rfl) PC ?_; simp only [Act.put, List.setIfInBounds_toArray, List.set_cons_zero, List.set_cons_succ]))
            refine (take_err (x := (nC false ta tc q)) (k := 3) (q := N) (d := true) (O := true) (E := false) (F := decide (q < N)) (N' := 7) (s' := sDelta) (by omega) (by omega) hN1 (HG.out.1.later LOW) (HG.out.2.1.later LOW) rfl rfl rfl rfl).mono ?_
            rintro e w351 ⟨rfl, hb352⟩
            replace PC := PC.later hb352
            replace D14 := D14.later hb352
            replace TN := TN.later hb352
            replace LOW := LOW.trans (hb352.mono LOW.size)
            clear hb352
            dsimp only
            have NE356 := Lib.hid (Nat.ne_of_lt PC.lt)
            have NE357 := Lib.hid (Nat.ne_of_lt D14.lt)
            have LE358 := Lib.hid LOW.size
            obtain ⟨w353, hw354, hb355, C16⟩ := alloc_new w351 Cl.zero.arr CT
            replace hw354 : w351.alloc (.cells #[.bool false, .bool false, .slice none 0 0, .bool false, .int .u64 0, .bool false, .slice none 0 0, .bool false, .int .u64 0, .bool false, .slice none 0 0, .bool false, .int .u64 0, .bool false, .slice none 0 0, .bool false, .int .u64 0, .bool false, .slice none 0 0, .bool false, .int .u64 0, .bool false, .slice none 0 0, .bool false, .int .u64 0] CT) = w353 := hw354
            replace PC := PC.later hb355
            replace D14 := D14.later hb355
            replace TN := TN.later hb355
            replace LOW := LOW.trans (hb355.mono LOW.size)
            clear hb355
            have HW359 := Lib.hid hw354
            clear hw354
            go_wp2_with (first | rw [HW359.out] | (refine wpList_store_cl _ _ Cl.zero (nC false ta tc q) w351.heap.size rfl rfl (by rfl) (by rfl) C16 ?_; intro w360 p361 j362; have mv363 := j362.blk NE356.out PC; have mv364 := j362.blk NE357.out D14; have mv365 := j362.ts C16 (cl_no _ _) TN; have mv366 := LOW.trans (j362.below LE358.out); replace PC := mv363; replace D14 := mv364; replace TN := mv365; replace LOW := mv366; replace C16 := p361; simp only [Act.put]) | (refine wpList_load_cl _ (nC false ta tc N) w337.heap.size rfl rfl (by rfl) D14 ?_; simp only [Act.put, List.setIfInBounds_toArray, List.set_cons_zero, List.set_cons_succ]) | (refine wpList_store_cl _ _ (nC false ta tc q) (nC false ta tc N) w223.heap.size rfl rfl (by rfl) (by rfl) PC ?_; intro w367 p368 j369; have mv370 := j369.blk NE342.out.symm D14; have mv371 := j369.blk NE356.out.symm C16; have mv372 := j369.ts PC (cl_no _ _) TN; have mv373 := LOW.trans (j369.below LE228.out); replace D14 := mv370; replace C16 := mv371; replace TN := mv372; replace LOW := mv373; replace PC := p368; simp only [Act.put]) | (refine wpList_load_cl _ (nC false ta tc N) w223.heap.size rfl rfl (by rfl) PC ?_; simp only [Act.put, List.setIfInBounds_toArray, List.set_cons_zero, List.set_cons_succ]))
            refine (ans_ok (x := (nC false ta tc N)) (k := 3) (s := ⟨#[100]⟩) (L := [[42]]) (by omega) (by omega) (by decide) hN1 TN rfl (by decide)).mono ?_
            rintro e w374 ⟨a9, c9, rfl, -, hb375⟩
            replace PC := PC.later hb375
            replace D14 := D14.later hb375
            replace C16 := C16.later hb375
            replace TN := TN.later hb375
            replace LOW := LOW.trans (hb375.mono LOW.size)
            clear hb375
            dsimp only
            have LE379 := Lib.hid LOW.size
            obtain ⟨w376, hw377, hb378, R18⟩ := alloc_new w374 rq0 RT
            replace PC := PC.later hb378
            replace D14 := D14.later hb378
            replace C16 := C16.later hb378
            replace TN := TN.later hb378
            replace LOW := LOW.trans (hb378.mono LOW.size)
            clear hb378
            have HW380 := Lib.hid hw377
            clear hw377
            go_wp2_with (first | rw [HW380.out] | (refine wpList_store_rq _ _ w374.heap.size rfl rfl (by rfl) (by rfl) R18 rfl (by rfl) (by first | (simp [Value.oneCell']; done) | simp [rq, Value.oneCell']) ?_; intro w381 p382 j383; have mv384 := j383.blk (Blk.ne PC R18 (by decide)) PC; have mv385 := j383.blk (Blk.ne D14 R18 (by decide)) D14; have mv386 := j383.blk (Blk.ne C16 R18 (by decide)) C16; have mv387 := j383.ts R18 (rq0_no neN) TN; have mv388 := LOW.trans (j383.below LE379.out); replace PC := mv384; replace D14 := mv385; replace C16 := mv386; replace TN := mv387; replace LOW := mv388; replace R18 := p382; simp only [Act.put]; have x2 : w381.cell? ⟨w374.heap.size, 2, none⟩ = some (.int .u64 (N : Int)) := R18.cell 2; have x3 : w381.cell? ⟨w374.heap.size, 3, none⟩ = some (.slice a9 1 c9) := R18.cell 3; have x6 : w381.cell? ⟨w374.heap.size, 6, none⟩ = some (.string ⟨#[100]⟩) := R18.cell 6))
            go_roundw
            case rel => exact ⟨k + 1, N, by omega, by omega, by omega, by go_num, rfl, PC, TN, LOW⟩
            case measure => simp [RowKit.intOf]; omega
          · have hFi : ¬ (q : Int) < (N : Int) := by omega
            have hmx : max (q : Int) (N : Int) = (q : Int) := by omega
            have hq0 : q ≠ 0 := by omega
            refine (take_err (x := (nC false ta tc q)) (k := 3) (q := N) (d := false) (O := true) (E := true) (F := false) (N' := 6) (s' := sLate) (by omega) (by omega) hN1 (HG.out.1.later LOW) (HG.out.2.1.later LOW) rfl rfl (decide_eq_false hF) rfl).mono ?_
            rintro e w389 ⟨rfl, hb390⟩
            replace PC := PC.later hb390
            replace TN := TN.later hb390
            replace LOW := LOW.trans (hb390.mono LOW.size)
            clear hb390
            dsimp only
            have NE394 := Lib.hid (Nat.ne_of_lt PC.lt)
            have LE395 := Lib.hid LOW.size
            obtain ⟨w391, hw392, hb393, D14⟩ := alloc_new w389 Cl.zero.arr CT
            replace hw392 : w389.alloc (.cells #[.bool false, .bool false, .slice none 0 0, .bool false, .int .u64 0, .bool false, .slice none 0 0, .bool false, .int .u64 0, .bool false, .slice none 0 0, .bool false, .int .u64 0, .bool false, .slice none 0 0, .bool false, .int .u64 0, .bool false, .slice none 0 0, .bool false, .int .u64 0, .bool false, .slice none 0 0, .bool false, .int .u64 0] CT) = w391 := hw392
            replace PC := PC.later hb393
            replace TN := TN.later hb393
            replace LOW := LOW.trans (hb393.mono LOW.size)
            clear hb393
            have HW396 := Lib.hid hw392
            clear hw392
            go_wp2_with (first | rw [HW396.out] | (refine wpList_store_cl _ _ Cl.zero (nC false ta tc q) w389.heap.size rfl rfl (by rfl) (by rfl) D14 ?_; intro w397 p398 j399; have mv400 := j399.blk NE394.out PC; have mv401 := j399.ts D14 (cl_no _ _) TN; have mv402 := LOW.trans (j399.below LE395.out); replace PC := mv400; replace TN := mv401; replace LOW := mv402; replace D14 := p398; simp only [Act.put]) | (refine wpList_load_cl _ (nC false ta tc q) w223.heap.size rfl rfl (by rfl) PC ?_; simp only [Act.put, List.setIfInBounds_toArray, List.set_cons_zero, List.set_cons_succ]))
            refine (take_err (x := (nC false ta tc q)) (k := 3) (q := N) (d := true) (O := true) (E := false) (F := decide (q < N)) (N' := 7) (s' := sDelta) (by omega) (by omega) hN1 (HG.out.1.later LOW) (HG.out.2.1.later LOW) rfl rfl rfl rfl).mono ?_
            rintro e w403 ⟨rfl, hb404⟩
            replace PC := PC.later hb404
            replace D14 := D14.later hb404
            replace TN := TN.later hb404
            replace LOW := LOW.trans (hb404.mono LOW.size)
            clear hb404
            dsimp only
            have NE408 := Lib.hid (Nat.ne_of_lt PC.lt)
            have NE409 := Lib.hid (Nat.ne_of_lt D14.lt)
            have LE410 := Lib.hid LOW.size
            obtain ⟨w405, hw406, hb407, C16⟩ := alloc_new w403 Cl.zero.arr CT
            replace hw406 : w403.alloc (.cells #[.bool false, .bool false, .slice none 0 0, .bool false, .int .u64 0, .bool false, .slice none 0 0, .bool false, .int .u64 0, .bool false, .slice none 0 0, .bool false, .int .u64 0, .bool false, .slice none 0 0, .bool false, .int .u64 0, .bool false, .slice none 0 0, .bool false, .int .u64 0, .bool false, .slice none 0 0, .bool false, .int .u64 0] CT) = w405 := hw406
            replace PC := PC.later hb407
            replace D14 := D14.later hb407
            replace TN := TN.later hb407
            replace LOW := LOW.trans (hb407.mono LOW.size)
            clear hb407
            have HW411 := Lib.hid hw406
            clear hw406
            go_wp2_with (first | rw [HW411.out] | (refine wpList_store_cl _ _ Cl.zero (nC false ta tc q) w403.heap.size rfl rfl (by rfl) (by rfl) C16 ?_; intro w412 p413 j414; have mv415 := j414.blk NE408.out PC; have mv416 := j414.blk NE409.out D14; have mv417 := j414.ts C16 (cl_no _ _) TN; have mv418 := LOW.trans (j414.below LE410.out); replace PC := mv415; replace D14 := mv416; replace TN := mv417; replace LOW := mv418; replace C16 := p413; simp only [Act.put]) | (refine wpList_load_cl _ (nC false ta tc q) w389.heap.size rfl rfl (by rfl) D14 ?_; simp only [Act.put, List.setIfInBounds_toArray, List.set_cons_zero, List.set_cons_succ]) | (refine wpList_store_cl _ _ (nC false ta tc q) (nC false ta tc q) w223.heap.size rfl rfl (by rfl) (by rfl) PC ?_; intro w419 p420 j421; have mv422 := j421.blk NE394.out.symm D14; have mv423 := j421.blk NE408.out.symm C16; have mv424 := j421.ts PC (cl_no _ _) TN; have mv425 := LOW.trans (j421.below LE228.out); replace D14 := mv422; replace C16 := mv423; replace TN := mv424; replace LOW := mv425; replace PC := p420; simp only [Act.put]) | (refine wpList_load_cl _ (nC false ta tc q) w223.heap.size rfl rfl (by rfl) PC ?_; simp only [Act.put, List.setIfInBounds_toArray, List.set_cons_zero, List.set_cons_succ]))
            refine (ans_ok (x := (nC false ta tc q)) (k := 3) (s := ⟨#[100]⟩) (L := [[42]]) (by omega) (by omega) (by decide) hq0 TN rfl (by decide)).mono ?_
            rintro e w426 ⟨a9, c9, rfl, -, hb427⟩
            replace PC := PC.later hb427
            replace D14 := D14.later hb427
            replace C16 := C16.later hb427
            replace TN := TN.later hb427
            replace LOW := LOW.trans (hb427.mono LOW.size)
            clear hb427
            dsimp only
            have LE431 := Lib.hid LOW.size
            obtain ⟨w428, hw429, hb430, R18⟩ := alloc_new w426 rq0 RT
            replace PC := PC.later hb430
            replace D14 := D14.later hb430
            replace C16 := C16.later hb430
            replace TN := TN.later hb430
            replace LOW := LOW.trans (hb430.mono LOW.size)
            clear hb430
            have HW432 := Lib.hid hw429
            clear hw429
            go_wp2_with (first | rw [HW432.out] | (refine wpList_store_rq _ _ w426.heap.size rfl rfl (by rfl) (by rfl) R18 rfl (by rfl) (by first | (simp [Value.oneCell']; done) | simp [rq, Value.oneCell']) ?_; intro w433 p434 j435; have mv436 := j435.blk (Blk.ne PC R18 (by decide)) PC; have mv437 := j435.blk (Blk.ne D14 R18 (by decide)) D14; have mv438 := j435.blk (Blk.ne C16 R18 (by decide)) C16; have mv439 := j435.ts R18 (rq0_no neN) TN; have mv440 := LOW.trans (j435.below LE431.out); replace PC := mv436; replace D14 := mv437; replace C16 := mv438; replace TN := mv439; replace LOW := mv440; replace R18 := p434; simp only [Act.put]; have x2 : w433.cell? ⟨w426.heap.size, 2, none⟩ = some (.int .u64 (q : Int)) := R18.cell 2; have x3 : w433.cell? ⟨w426.heap.size, 3, none⟩ = some (.slice a9 1 c9) := R18.cell 3; have x6 : w433.cell? ⟨w426.heap.size, 6, none⟩ = some (.string ⟨#[100]⟩) := R18.cell 6))
            go_roundw
            case rel => exact ⟨k + 1, q, by omega, by omega, by omega, by go_num, rfl, PC, TN, LOW⟩
            case measure => simp [RowKit.intOf]; omega
        · have b1 : (k : Int) < (n : Int) := by omega
          have b2 : ¬ (k : Int) < 20 := by omega
          go_wp2_with fail
          go_ret
          exact ⟨rfl, LOW⟩
      · have b1 : ¬ (k : Int) < (n : Int) := by omega
        go_wp2_with fail
        go_ret
        exact ⟨rfl, LOW⟩
end Go.Proofs.YtogbgomacanneaaDoor
