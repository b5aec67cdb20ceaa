/- client: the examples. -/
import Derived.Test.YtdcfdcjgheijcaaGreatDoorClTake
import Derived.Test.YtdcfdcjgheijcaaGreatDoorClNew
import Derived.Test.YtdcfdcjgheijcaaGreatDoorClGate
import Derived.Test.YtdcfdcjgheijcaaGreatDoorNmLessP
namespace Go.Proofs.YtdcfdcjgheijcaaGreatDoor
open Go.RowKit Go.Lib

theorem Blk.ne {w : World} {k b : Nat} {c c' : Array Value} {T T' : TypeId} (h : Blk w k c T) (h' : Blk w b c' T') (hT : T ≠ T') : k ≠ b := by
  rintro rfl
  unfold Blk at h h'
  rw [h] at h'
  injection h' with h'
  injection h' with _ e _
  exact hT e
theorem srt_one (x : List UInt8) : srt [x] = [x] := srt_self (by simp [Rises])
theorem srt_none : srt [] = [] := srt_self (by simp [Rises])
theorem less_none (a : Bool) (l : List (List UInt8)) (h : Rises l) : nLess ⟨a, l⟩ ⟨false, []⟩ = ⟨a, l⟩ := by
  unfold nLess
  have e : (l.filter fun x => !([] : List (List UInt8)).contains x) = l := List.filter_eq_self.2 (by simp)
  simp only [e, srt_self h]
  simp
theorem none_less (s : Ns) : nLess ⟨false, []⟩ s = ⟨false, []⟩ := by
  unfold nLess; simp [srt_none]
theorem less_self' (a : Bool) (l : List (List UInt8)) : nLess ⟨a, l⟩ ⟨a, l⟩ = ⟨false, []⟩ := by
  unfold nLess
  have : (l.filter fun x => !l.contains x) = [] := by rw [List.filter_eq_nil_iff]; intro x hx; simp [hx]
  simp only [this, srt_none]
  cases a <;> rfl
/-- Of a real set asked for in a topic that is empty and was not asked for. -/
theorem ask_first {x : Cl} {k n : Nat} {ua : Bool} {ul : List (List UInt8)} (h1 : 1 ≤ k) (h5 : k ≤ 5) (hr : Real ⟨ua, ul⟩) (hs : Rises ul) (hf : NmFit ul) (hn : n ≤ 64) (hl : ul.length ≤ 60) (ha : (x.get k).all = false) (hli : (x.get k).l = []) (ho : (x.get k).op = false) :
    AskIs x k n ⟨ua, ul⟩ ⟨ua, ul⟩ (nList ⟨ua, ul⟩) (nList ⟨ua, ul⟩) (nList ⟨ua, ul⟩) [] false false := by
  have hlen := nlist_len ⟨ua, ul⟩
  simp only at hlen
  refine ⟨h1, h5, rfl, ?_, hr.list, rfl, ?_, ?_, ?_, ?_, ?_, ?_, ?_⟩
  · refine ⟨fun s hs' => ?_, by omega⟩
    unfold nList at hs'
    rcases List.mem_append.1 hs' with h | h
    · split at h
      · obtain rfl := List.mem_singleton.1 h; decide
      · cases h
    · exact hf.1 s h
  · unfold turnS; rw [ha, hli]
    cases x.d
    · rfl
    · simp only [if_true]; rw [less_none ua ul hs]
  · unfold turnU; rw [ha, hli]
    cases x.d
    · rfl
    · simp only [if_true]; rw [none_less]; rfl
  · rw [hli]; exact nm_nil
  · omega
  · rw [hli]; decide
  · rw [ho]; rfl
  · simp; omega
/-- The same asked for once more. -/
theorem ask_again {x : Cl} {k n : Nat} {ua : Bool} {ul S U : List (List UInt8)} (h1 : 1 ≤ k) (h5 : k ≤ 5) (hr : Real ⟨ua, ul⟩) (_hs : Rises ul) (hf : NmFit ul) (_hn : n ≤ 64) (hl : ul.length ≤ 60) (ha : (x.get k).all = ua) (hli : (x.get k).l = ul) (ho : (x.get k).op = true) (hS : turnS x.d ⟨ua, ul⟩ ⟨ua, ul⟩ = S) (hU : turnU x.d ⟨ua, ul⟩ ⟨ua, ul⟩ = U) :
    ∃ V, AskIs x k n ⟨ua, ul⟩ ⟨ua, ul⟩ (nList ⟨ua, ul⟩) (nList ⟨ua, ul⟩) S U true V := by
  have hlen := nlist_len ⟨ua, ul⟩
  simp only at hlen
  refine ⟨_, h1, h5, rfl, ?_, hr.list, rfl, ?_, ?_, ?_, ?_, ?_, ?_, rfl⟩
  · refine ⟨fun s hs' => ?_, by omega⟩
    unfold nList at hs'
    rcases List.mem_append.1 hs' with h | h
    · split at h
      · obtain rfl := List.mem_singleton.1 h; decide
      · cases h
    · exact hf.1 s h
  · rw [ha, hli]; exact hS
  · rw [ha, hli]; exact hU
  · rw [hli]; exact hf
  · omega
  · rw [hli]; omega
  · rw [ho, ha, hli]; simp [nSame]
theorem a_of : nOf okN [[97]] = ⟨false, [[97]]⟩ := by
  have h : okN [97] = true := by decide
  unfold nOf
  have e : ([[97]] : List (List UInt8)).filter okN = [[97]] := by simp [h]
  rw [e, srt_one]; rfl
theorem a_real : Real ⟨false, [[97]]⟩ := by rw [← a_of]; exact real_of _
theorem a_fit : NmFit [[97]] := ⟨fun s hs => by obtain rfl := List.mem_singleton.1 hs; decide, by decide⟩
theorem a_rises : Rises [[97]] := by simp [Rises]
/-- The examples' clients. -/
abbrev exA (ta : Option Addr) (tc : Nat) : Cl := (Cl.new true).set ⟨false, ta, tc, [[97]], true, 0⟩ 1
abbrev exB (ta : Option Addr) (tc : Nat) : Cl := (exA ta tc).set { (exA ta tc).get 1 with q := 2 } 1

set_option maxRecDepth 100000 in
set_option maxHeartbeats 8000000 in
theorem cl_examples {b : Addr} {w : World} (hn : Gn b w) (hg : Ge w) : Calls Tryz.prog 22 #[] w fun e w' => e = .returned (.bool true) ∧ Below w.heap.size w w' := by
  have LOW : Below w.heap.size w w := Below.refl _ _
  have HG := Lib.hid (And.intro hn hg)
  clear hn hg
  go_enter Tryz.func22, Tryz.ntmps22
  go_wp2_with fail
  refine (new_any true w).mono ?_
  rintro e w1 ⟨rfl, hb2⟩
  replace LOW := LOW.trans (hb2.mono LOW.size)
  clear hb2
  dsimp only
  have LE6 := Lib.hid LOW.size
  obtain ⟨w3, hw4, hb5, PC⟩ := alloc_new w1 Cl.zero.arr CT
  replace hw4 : w1.alloc (.cells #[.bool false, .bool false, .slice none 0 0, .bool false, .int .u64 0, .bool false, .slice none 0 0, .bool false, .int .u64 0, .bool false, .slice none 0 0, .bool false, .int .u64 0, .bool false, .slice none 0 0, .bool false, .int .u64 0, .bool false, .slice none 0 0, .bool false, .int .u64 0, .bool false, .slice none 0 0, .bool false, .int .u64 0] CT) = w3 := hw4
  replace LOW := LOW.trans (hb5.mono LOW.size)
  clear hb5
  have HW7 := Lib.hid hw4
  clear hw4
  go_wp2_with (first | rw [HW7.out] | (refine wpList_store_cl _ _ Cl.zero (Cl.new true) w1.heap.size rfl rfl (by rfl) (by rfl) PC ?_; intro w8 p9 j10; have mv11 := LOW.trans (j10.below LE6.out); replace LOW := mv11; replace PC := p9; simp only [Act.put]) | (refine wpList_load_cl _ (Cl.new true) w1.heap.size rfl rfl (by rfl) PC ?_; simp only [Act.put, List.setIfInBounds_toArray, List.set_cons_zero, List.set_cons_succ]))
  refine (ans_none (x := Cl.new true) (k := 1) (s := ⟨#[]⟩) (by omega) (by omega) (by decide) rfl (HG.out.2.later LOW)).mono ?_
  rintro e w12 ⟨rfl, hb13⟩
  replace PC := PC.later hb13
  replace LOW := LOW.trans (hb13.mono LOW.size)
  clear hb13
  dsimp only
  have LE17 := Lib.hid LOW.size
  obtain ⟨w14, hw15, hb16, R2⟩ := alloc_new w12 rq0 RT
  replace PC := PC.later hb16
  replace LOW := LOW.trans (hb16.mono LOW.size)
  clear hb16
  have HW18 := Lib.hid hw15
  clear hw15
  go_wp2_with (first | rw [HW18.out] | (refine wpList_store_rq _ _ w12.heap.size rfl rfl (by rfl) (by rfl) R2 rfl (by rfl) (by first | (simp [Value.oneCell']; done) | simp [rq, Value.oneCell']) ?_; intro w19 p20 j21; have mv22 := j21.blk (Blk.ne PC R2 (by decide)) PC; have mv23 := LOW.trans (j21.below LE17.out); replace PC := mv22; replace LOW := mv23; replace R2 := p20; simp only [Act.put]))
  clear R2
  have ne97 : ∀ x ∈ ([[97]] : List (List UInt8)), x ≠ [] := by intro x hx; obtain rfl := List.mem_singleton.1 hx; decide
  go_cut [4, 5] (fun s4 s5 wx => ∃ z, z = wx ∧ (∃ ta tc R4a a1 c1 a2 c2 a3 c3, s4 = .pointer (some ⟨R4a, 0, none⟩) ∧ s5 = .int .i64 0 ∧ Blk wx w1.heap.size (exA ta tc).arr CT ∧ Blk wx R4a (rq 1 true 0 (.slice a1 1 c1) (.slice a2 0 c2) (.slice a3 1 c3) ⟨#[]⟩) RT ∧ TsAt wx (.slice ta 1 tc) [[97]] ∧ Below w.heap.size w wx))
  case first =>
    have HO := Lib.hid (show (fun (A : Array Oper) => A[0]? = some { dst := some 21, op := Op.load 72 (Operand.tmp 1), type := 72, pos := "law.go:164", after := #[], guard := none } ∧ A[1]? = some { dst := some 22, op := Op.buildSlice 24 1 #[(0, Operand.const (Value.string { data := #[97] }))], type := 24, pos := "law.go:164", after := #[], guard := none } ∧ A[2]? = some { dst := some 23, op := Op.call { callee := Callee.value (Operand.func 12), args := #[Operand.tmp 22], argTypes := #[24] }, type := 26, pos := "law.go:164", after := #[{ on := 1, ground := Ground.data }], guard := none } ∧ A[3]? = some { dst := some 24, op := Op.build 65 #[(0, Operand.const (Value.string { data := #[97] })), (1, Operand.const (Value.int IntKind.u64 3))], type := 65, pos := "law.go:164", after := #[], guard := none } ∧ A[4]? = some { dst := some 25, op := Op.build 65 #[(0, Operand.const (Value.string { data := #[98] })), (1, Operand.const (Value.int IntKind.u64 4))], type := 65, pos := "law.go:164", after := #[], guard := none } ∧ A[5]? = some { dst := some 26, op := Op.buildSlice 32 2 #[(0, Operand.tmp 24), (1, Operand.tmp 25)], type := 32, pos := "law.go:164", after := #[{ on := 3, ground := Ground.data }, { on := 4, ground := Ground.data }], guard := none } ∧ A[6]? = some { dst := some 27, op := Op.call { callee := Callee.value (Operand.func 25), args := #[Operand.tmp 21, Operand.const (Value.int IntKind.i64 1), Operand.tmp 23, Operand.tmp 26], argTypes := #[72, 3, 26, 32] }, type := 74, pos := "law.go:164", after := #[{ on := 0, ground := Ground.data }, { on := 2, ground := Ground.data }, { on := 5, ground := Ground.data }, { on := 2, ground := Ground.chain }], guard := none } ∧ A[7]? = some { dst := some 20, op := Op.move (Operand.tmp 27), type := 74, pos := "law.go:164", after := #[{ on := 6, ground := Ground.data }], guard := none } ∧ A[8]? = some { dst := some 28, op := Op.extract (Operand.tmp 20) 0, type := 72, pos := "law.go:164", after := #[{ on := 7, ground := Ground.data }], guard := none } ∧ A[9]? = some { dst := some 29, op := Op.extract (Operand.tmp 20) 1, type := 45, pos := "law.go:164", after := #[{ on := 7, ground := Ground.data }, { on := 12, ground := Ground.gcOnly Departure.lateStores }], guard := none } ∧ A[10]? = some { dst := some 30, op := Op.extract (Operand.tmp 20) 2, type := 40, pos := "law.go:164", after := #[{ on := 7, ground := Ground.data }, { on := 13, ground := Ground.gcOnly Departure.lateStores }], guard := none } ∧ A[11]? = some { dst := some 4, op := Op.alloc 45, type := 0, pos := "law.go:164", after := #[], guard := none } ∧ A[12]? = some { dst := none, op := Op.store 72 (Operand.tmp 1) (Operand.tmp 28), type := 0, pos := "law.go:164", after := #[{ on := 8, ground := Ground.data }, { on := 6, ground := Ground.chain }, { on := 0, ground := Ground.phase }, { on := 1, ground := Ground.phase }, { on := 2, ground := Ground.phase }, { on := 3, ground := Ground.phase }, { on := 4, ground := Ground.phase }, { on := 5, ground := Ground.phase }, { on := 6, ground := Ground.phase }, { on := 7, ground := Ground.phase }, { on := 8, ground := Ground.phase }, { on := 9, ground := Ground.textOnly Departure.lateStores }, { on := 10, ground := Ground.textOnly Departure.lateStores }, { on := 11, ground := Ground.phase }], guard := none } ∧ A[13]? = some { dst := none, op := Op.store 45 (Operand.tmp 4) (Operand.tmp 29), type := 0, pos := "law.go:164", after := #[{ on := 11, ground := Ground.data }, { on := 9, ground := Ground.data }, { on := 12, ground := Ground.chain }, { on := 0, ground := Ground.phase }, { on := 1, ground := Ground.phase }, { on := 2, ground := Ground.phase }, { on := 3, ground := Ground.phase }, { on := 4, ground := Ground.phase }, { on := 5, ground := Ground.phase }, { on := 6, ground := Ground.phase }, { on := 7, ground := Ground.phase }, { on := 8, ground := Ground.phase }, { on := 9, ground := Ground.phase }, { on := 10, ground := Ground.textOnly Departure.lateStores }, { on := 11, ground := Ground.phase }, { on := 12, ground := Ground.phase }], guard := none } ∧ A[14]? = some { dst := some 5, op := Op.assign (Operand.tmp 30), type := 40, pos := "law.go:164", after := #[{ on := 10, ground := Ground.data }, { on := 13, ground := Ground.chain }, { on := 0, ground := Ground.phase }, { on := 1, ground := Ground.phase }, { on := 2, ground := Ground.phase }, { on := 3, ground := Ground.phase }, { on := 4, ground := Ground.phase }, { on := 5, ground := Ground.phase }, { on := 6, ground := Ground.phase }, { on := 7, ground := Ground.phase }, { on := 8, ground := Ground.phase }, { on := 9, ground := Ground.phase }, { on := 10, ground := Ground.phase }, { on := 11, ground := Ground.phase }, { on := 12, ground := Ground.phase }, { on := 13, ground := Ground.phase }], guard := none }) #[{ dst := some 21, op := Op.load 72 (Operand.tmp 1), type := 72, pos := "law.go:164", after := #[], guard := none }, { dst := some 22, op := Op.buildSlice 24 1 #[(0, Operand.const (Value.string { data := #[97] }))], type := 24, pos := "law.go:164", after := #[], guard := none }, { dst := some 23, op := Op.call { callee := Callee.value (Operand.func 12), args := #[Operand.tmp 22], argTypes := #[24] }, type := 26, pos := "law.go:164", after := #[{ on := 1, ground := Ground.data }], guard := none }, { dst := some 24, op := Op.build 65 #[(0, Operand.const (Value.string { data := #[97] })), (1, Operand.const (Value.int IntKind.u64 3))], type := 65, pos := "law.go:164", after := #[], guard := none }, { dst := some 25, op := Op.build 65 #[(0, Operand.const (Value.string { data := #[98] })), (1, Operand.const (Value.int IntKind.u64 4))], type := 65, pos := "law.go:164", after := #[], guard := none }, { dst := some 26, op := Op.buildSlice 32 2 #[(0, Operand.tmp 24), (1, Operand.tmp 25)], type := 32, pos := "law.go:164", after := #[{ on := 3, ground := Ground.data }, { on := 4, ground := Ground.data }], guard := none }, { dst := some 27, op := Op.call { callee := Callee.value (Operand.func 25), args := #[Operand.tmp 21, Operand.const (Value.int IntKind.i64 1), Operand.tmp 23, Operand.tmp 26], argTypes := #[72, 3, 26, 32] }, type := 74, pos := "law.go:164", after := #[{ on := 0, ground := Ground.data }, { on := 2, ground := Ground.data }, { on := 5, ground := Ground.data }, { on := 2, ground := Ground.chain }], guard := none }, { dst := some 20, op := Op.move (Operand.tmp 27), type := 74, pos := "law.go:164", after := #[{ on := 6, ground := Ground.data }], guard := none }, { dst := some 28, op := Op.extract (Operand.tmp 20) 0, type := 72, pos := "law.go:164", after := #[{ on := 7, ground := Ground.data }], guard := none }, { dst := some 29, op := Op.extract (Operand.tmp 20) 1, type := 45, pos := "law.go:164", after := #[{ on := 7, ground := Ground.data }, { on := 12, ground := Ground.gcOnly Departure.lateStores }], guard := none }, { dst := some 30, op := Op.extract (Operand.tmp 20) 2, type := 40, pos := "law.go:164", after := #[{ on := 7, ground := Ground.data }, { on := 13, ground := Ground.gcOnly Departure.lateStores }], guard := none }, { dst := some 4, op := Op.alloc 45, type := 0, pos := "law.go:164", after := #[], guard := none }, { dst := none, op := Op.store 72 (Operand.tmp 1) (Operand.tmp 28), type := 0, pos := "law.go:164", after := #[{ on := 8, ground := Ground.data }, { on := 6, ground := Ground.chain }, { on := 0, ground := Ground.phase }, { on := 1, ground := Ground.phase }, { on := 2, ground := Ground.phase }, { on := 3, ground := Ground.phase }, { on := 4, ground := Ground.phase }, { on := 5, ground := Ground.phase }, { on := 6, ground := Ground.phase }, { on := 7, ground := Ground.phase }, { on := 8, ground := Ground.phase }, { on := 9, ground := Ground.textOnly Departure.lateStores }, { on := 10, ground := Ground.textOnly Departure.lateStores }, { on := 11, ground := Ground.phase }], guard := none }, { dst := none, op := Op.store 45 (Operand.tmp 4) (Operand.tmp 29), type := 0, pos := "law.go:164", after := #[{ on := 11, ground := Ground.data }, { on := 9, ground := Ground.data }, { on := 12, ground := Ground.chain }, { on := 0, ground := Ground.phase }, { on := 1, ground := Ground.phase }, { on := 2, ground := Ground.phase }, { on := 3, ground := Ground.phase }, { on := 4, ground := Ground.phase }, { on := 5, ground := Ground.phase }, { on := 6, ground := Ground.phase }, { on := 7, ground := Ground.phase }, { on := 8, ground := Ground.phase }, { on := 9, ground := Ground.phase }, { on := 10, ground := Ground.textOnly Departure.lateStores }, { on := 11, ground := Ground.phase }, { on := 12, ground := Ground.phase }], guard := none }, { dst := some 5, op := Op.assign (Operand.tmp 30), type := 40, pos := "law.go:164", after := #[{ on := 10, ground := Ground.data }, { on := 13, ground := Ground.chain }, { on := 0, ground := Ground.phase }, { on := 1, ground := Ground.phase }, { on := 2, ground := Ground.phase }, { on := 3, ground := Ground.phase }, { on := 4, ground := Ground.phase }, { on := 5, ground := Ground.phase }, { on := 6, ground := Ground.phase }, { on := 7, ground := Ground.phase }, { on := 8, ground := Ground.phase }, { on := 9, ground := Ground.phase }, { on := 10, ground := Ground.phase }, { on := 11, ground := Ground.phase }, { on := 12, ground := Ground.phase }, { on := 13, ground := Ground.phase }], guard := none }] from ⟨by kernel_rfl, by kernel_rfl, by kernel_rfl, by kernel_rfl, by kernel_rfl, by kernel_rfl, by kernel_rfl, by kernel_rfl, by kernel_rfl, by kernel_rfl, by kernel_rfl, by kernel_rfl, by kernel_rfl, by kernel_rfl, by kernel_rfl⟩)
    obtain ⟨w24, hw25, hb26⟩ := drew_new w19
    replace PC := PC.later hb26
    replace LOW := LOW.trans (hb26.mono LOW.size)
    refine region_gate (S := (fun w' => Blk w' w1.heap.size (Cl.new true).arr CT)) (z := 12) (by kernel_rfl) ?_
    rw [hw25]
    clear hw25 hb26
    refine gate_load (i := 0) (v := .agg (Cl.new true).arr) HO.out.1 (by decide) (by kernel_rfl) (by kernel_rfl) (by kernel_rfl) (by kernel_rfl) (by kernel_rfl) (fun _ _ _ h => h) (Or.inl ⟨by rfl, fun w1 h0 => ?hy1⟩) PC ?rest1
    case hy1 => (apply exec_load_cl; (· rfl); (· rfl); exact h0)
    try simp only [Act.put, List.setIfInBounds_toArray, List.set_cons_zero, List.set_cons_succ]
    refine gate_take (i := 3) (v := ?v2) HO.out.2.2.2.1 (by decide) (by kernel_rfl) (by kernel_rfl) (by kernel_rfl) (fun _ _ _ h => h) (Or.inl ⟨by rfl, fun w1 _ => ?hy2⟩) (fun _ => PC) ?rest2
    case hy2 => (go_simp; try with_reducible rfl)
    try simp only [Act.put, List.setIfInBounds_toArray, List.set_cons_zero, List.set_cons_succ]
    refine gate_take (i := 4) (v := ?v3) HO.out.2.2.2.2.1 (by decide) (by kernel_rfl) (by kernel_rfl) (by kernel_rfl) (fun _ _ _ h => h) (Or.inl ⟨by rfl, fun w1 _ => ?hy3⟩) (fun _ => PC) ?rest3
    case hy3 => (go_simp; try with_reducible rfl)
    try simp only [Act.put, List.setIfInBounds_toArray, List.set_cons_zero, List.set_cons_succ]
    refine gate_ready (rs := [1, 5, 11]) (by kernel_rfl) (by simp) ?_
    refine AllGate.cons HO.out.2.1 (fun K hK => ?_) ?_
    · go_simp
      have LE30 := Lib.hid LOW.size
      obtain ⟨w27, hw28, hb29, QA⟩ := alloc_new w24 #[.string ⟨#[97]⟩] 9
      replace PC := PC.later hb29
      replace LOW := LOW.trans (hb29.mono LOW.size)
      clear hb29
      have TA : TsAt w27 _ [[97]] := ts_block (l := [[97]]) QA (by decide) rfl
      rw [hw28]
      clear hw28 QA
      refine hK.out _ _ (fun _ => PC) ?_
      clear hK K
      try simp only [Act.put, List.setIfInBounds_toArray, List.set_cons_zero, List.set_cons_succ]
      refine gate_ready (rs := [2, 5, 11]) (by kernel_rfl) (by simp) ?_
      refine AllGate.cons HO.out.2.2.1 (fun K hK => ?_) ?_
      · go_simp
        refine (of_any (l := [[97]]) TA a_fit a_of).mono ?_
        rintro e w31 ⟨ta, tc, rfl, TO, hb32⟩
        replace PC := PC.later hb32
        replace TA := TA.later hb32
        replace LOW := LOW.trans (hb32.mono LOW.size)
        clear hb32
        clear TA
        refine hK.out _ _ (fun _ => PC) ?_
        clear hK K
        try simp only [Act.put, List.setIfInBounds_toArray, List.set_cons_zero, List.set_cons_succ]
        refine gate_ready (rs := [5, 11]) (by kernel_rfl) (by simp) ?_
        refine AllGate.cons HO.out.2.2.2.2.2.1 (fun K hK => ?_) ?_
        · go_simp
          have LE36 := Lib.hid LOW.size
          obtain ⟨w33, hw34, hb35, QH⟩ := alloc_new w31 #[.string ⟨#[97]⟩, .int .u64 3, .string ⟨#[98]⟩, .int .u64 4] 65
          replace PC := PC.later hb35
          replace TO := TO.later hb35
          replace LOW := LOW.trans (hb35.mono LOW.size)
          clear hb35
          rw [hw34]
          clear hw34
          refine hK.out _ _ (fun _ => PC) ?_
          clear hK K
          try simp only [Act.put, List.setIfInBounds_toArray, List.set_cons_zero, List.set_cons_succ]
          refine gate_ready (rs := [6, 11]) (by kernel_rfl) (by simp) ?_
          refine AllGate.cons HO.out.2.2.2.2.2.2.1 (fun K hK => ?_) ?_
          · go_simp
            refine (ask_ok (x := Cl.new true) (k := 1) (n := 2) (m := 1) (hs := [⟨[97], 3⟩, ⟨[98], 4⟩]) (ask_first (by omega) (by omega) a_real a_rises a_fit (by omega) (by decide) rfl rfl rfl) TO (Tp.zero_at _) (hv_block QH rfl) rfl (by omega) (by decide)).mono ?_
            rintro e w37 ⟨t1a, t1c, a1, c1, a2, c2, a3, c3, rfl, TN, -, -, hb38⟩
            replace PC := PC.later hb38
            replace QH := QH.later hb38
            replace TO := TO.later hb38
            replace LOW := LOW.trans (hb38.mono LOW.size)
            clear hb38
            clear TO QH
            refine hK.out _ _ (fun _ => PC) ?_
            clear hK K
            try simp only [Act.put, List.setIfInBounds_toArray, List.set_cons_zero, List.set_cons_succ]
            refine gate_take (i := 7) (v := ?v4) HO.out.2.2.2.2.2.2.2.1 (by decide) (by kernel_rfl) (by kernel_rfl) (by kernel_rfl) (fun _ _ _ h => h) (Or.inl ⟨by rfl, fun w1 _ => ?hy4⟩) (fun _ => PC) ?rest4
            case hy4 => (go_simp; try with_reducible rfl)
            try simp only [Act.put, List.setIfInBounds_toArray, List.set_cons_zero, List.set_cons_succ]
            refine gate_take (i := 8) (v := ?v5) HO.out.2.2.2.2.2.2.2.2.1 (by decide) (by kernel_rfl) (by kernel_rfl) (by kernel_rfl) (fun _ _ _ h => h) (Or.inl ⟨by rfl, fun w1 _ => ?hy5⟩) (fun _ => PC) ?rest5
            case hy5 => (go_simp; try with_reducible rfl)
            try simp only [Act.put, List.setIfInBounds_toArray, List.set_cons_zero, List.set_cons_succ]
            refine gate_take (i := 9) (v := ?v6) HO.out.2.2.2.2.2.2.2.2.2.1 (by decide) (by kernel_rfl) (by kernel_rfl) (by kernel_rfl) (fun _ _ _ h => h) (Or.inl ⟨by rfl, fun w1 _ => ?hy6⟩) (fun _ => PC) ?rest6
            case hy6 => (go_simp; try with_reducible rfl)
            try simp only [Act.put, List.setIfInBounds_toArray, List.set_cons_zero, List.set_cons_succ]
            refine gate_take (i := 10) (v := ?v7) HO.out.2.2.2.2.2.2.2.2.2.2.1 (by decide) (by kernel_rfl) (by kernel_rfl) (by kernel_rfl) (fun _ _ _ h => h) (Or.inl ⟨by rfl, fun w1 _ => ?hy7⟩) (fun _ => PC) ?rest7
            case hy7 => (go_simp; try with_reducible rfl)
            try simp only [Act.put, List.setIfInBounds_toArray, List.set_cons_zero, List.set_cons_succ]
            refine gate_ready (rs := [11]) (by kernel_rfl) (by simp) ?_
            refine AllGate.cons HO.out.2.2.2.2.2.2.2.2.2.2.2.1 (fun K hK => ?_) AllGate.nil
            go_simp
            have LE42 := Lib.hid LOW.size
            obtain ⟨w39, hw40, hb41, R4⟩ := alloc_new w37 rq0 RT
            replace PC := PC.later hb41
            replace TN := TN.later hb41
            replace LOW := LOW.trans (hb41.mono LOW.size)
            clear hb41
            rw [hw40]
            clear hw40
            refine hK.out _ _ (fun _ => PC) ?_
            clear hK K
            try simp only [Act.put, List.setIfInBounds_toArray, List.set_cons_zero, List.set_cons_succ]
            refine gate_ready (rs := [12]) (by kernel_rfl) (by simp) ?_
            refine AllGate.cons HO.out.2.2.2.2.2.2.2.2.2.2.2.2.1 (fun K hK => ?_) AllGate.nil
            rw [if_pos (by rfl)]
            refine wp_store_cl _ _ (Cl.new true) (exA t1a t1c) w1.heap.size rfl (by rfl) (by rfl) PC ?_
            intro w43 p44 j45
            have mv46 := j45.blk (Blk.ne R4 PC (by decide)) R4
            have mv47 := j45.ts PC (cl_no _ _) TN
            have mv48 := LOW.trans (j45.below LE6.out)
            replace R4 := mv46
            replace TN := mv47
            replace LOW := mv48
            replace PC := p44
            refine hK.out _ _ (ahead_off (by kernel_rfl)) ?_
            clear hK K
            simp only [Act.put]
            refine gate_ready (rs := [13]) (by kernel_rfl) (by simp) ?_
            refine AllGate.cons HO.out.2.2.2.2.2.2.2.2.2.2.2.2.2.1 (fun K hK => ?_) AllGate.nil
            rw [if_pos (by rfl)]
            refine wp_store_rq _ _ w37.heap.size rfl (by rfl) (by rfl) R4 rfl (by rfl) (by first | (simp [Value.oneCell']; done) | simp [rq, Value.oneCell']) ?_
            intro w49 p50 j51
            have mv52 := j51.blk (Blk.ne PC R4 (by decide)) PC
            have mv53 := j51.ts R4 (rq0_no ne97) TN
            have mv54 := LOW.trans (j51.below LE42.out)
            replace PC := mv52
            replace TN := mv53
            replace LOW := mv54
            replace R4 := p50
            refine hK.out _ _ (ahead_off (by kernel_rfl)) ?_
            clear hK K
            simp only [Act.put]
            refine gate_take (i := 14) (v := ?v8) HO.out.2.2.2.2.2.2.2.2.2.2.2.2.2.2 (by decide) (by kernel_rfl) (by kernel_rfl) (by kernel_rfl) (fun _ _ _ h => h) (Or.inl ⟨by rfl, fun w1 _ => ?hy8⟩) (ahead_off (by kernel_rfl)) ?rest8
            case hy8 => (go_simp; try with_reducible rfl)
            try simp only [Act.put, List.setIfInBounds_toArray, List.set_cons_zero, List.set_cons_succ]
            refine gate_done (by kernel_rfl) ?_ _
            go_wp2_with fail
            go_meet
            exact ⟨_, rfl, t1a, t1c, w37.heap.size, a1, c1, a2, c2, a3, c3, rfl, rfl, PC, R4, TN, LOW⟩
          refine AllGate.cons HO.out.2.2.2.2.2.2.2.2.2.2.2.1 (fun K hK => ?_) AllGate.nil
          go_simp
          have LE58 := Lib.hid LOW.size
          obtain ⟨w55, hw56, hb57, R4⟩ := alloc_new w33 rq0 RT
          replace PC := PC.later hb57
          replace QH := QH.later hb57
          replace TO := TO.later hb57
          replace LOW := LOW.trans (hb57.mono LOW.size)
          clear hb57
          rw [hw56]
          clear hw56
          refine hK.out _ _ (fun _ => PC) ?_
          clear hK K
          try simp only [Act.put, List.setIfInBounds_toArray, List.set_cons_zero, List.set_cons_succ]
          refine gate_ready (rs := [6]) (by kernel_rfl) (by simp) ?_
          refine AllGate.cons HO.out.2.2.2.2.2.2.1 (fun K hK => ?_) AllGate.nil
          go_simp
          refine (ask_ok (x := Cl.new true) (k := 1) (n := 2) (m := 1) (hs := [⟨[97], 3⟩, ⟨[98], 4⟩]) (ask_first (by omega) (by omega) a_real a_rises a_fit (by omega) (by decide) rfl rfl rfl) TO (Tp.zero_at _) (hv_block QH rfl) rfl (by omega) (by decide)).mono ?_
          rintro e w59 ⟨t1a, t1c, a1, c1, a2, c2, a3, c3, rfl, TN, -, -, hb60⟩
          replace PC := PC.later hb60
          replace QH := QH.later hb60
          replace R4 := R4.later hb60
          replace TO := TO.later hb60
          replace LOW := LOW.trans (hb60.mono LOW.size)
          clear hb60
          clear TO QH
          refine hK.out _ _ (fun _ => PC) ?_
          clear hK K
          try simp only [Act.put, List.setIfInBounds_toArray, List.set_cons_zero, List.set_cons_succ]
          refine gate_take (i := 7) (v := ?v9) HO.out.2.2.2.2.2.2.2.1 (by decide) (by kernel_rfl) (by kernel_rfl) (by kernel_rfl) (fun _ _ _ h => h) (Or.inl ⟨by rfl, fun w1 _ => ?hy9⟩) (fun _ => PC) ?rest9
          case hy9 => (go_simp; try with_reducible rfl)
          try simp only [Act.put, List.setIfInBounds_toArray, List.set_cons_zero, List.set_cons_succ]
          refine gate_take (i := 8) (v := ?v10) HO.out.2.2.2.2.2.2.2.2.1 (by decide) (by kernel_rfl) (by kernel_rfl) (by kernel_rfl) (fun _ _ _ h => h) (Or.inl ⟨by rfl, fun w1 _ => ?hy10⟩) (fun _ => PC) ?rest10
          case hy10 => (go_simp; try with_reducible rfl)
          try simp only [Act.put, List.setIfInBounds_toArray, List.set_cons_zero, List.set_cons_succ]
          refine gate_take (i := 9) (v := ?v11) HO.out.2.2.2.2.2.2.2.2.2.1 (by decide) (by kernel_rfl) (by kernel_rfl) (by kernel_rfl) (fun _ _ _ h => h) (Or.inl ⟨by rfl, fun w1 _ => ?hy11⟩) (fun _ => PC) ?rest11
          case hy11 => (go_simp; try with_reducible rfl)
          try simp only [Act.put, List.setIfInBounds_toArray, List.set_cons_zero, List.set_cons_succ]
          refine gate_take (i := 10) (v := ?v12) HO.out.2.2.2.2.2.2.2.2.2.2.1 (by decide) (by kernel_rfl) (by kernel_rfl) (by kernel_rfl) (fun _ _ _ h => h) (Or.inl ⟨by rfl, fun w1 _ => ?hy12⟩) (fun _ => PC) ?rest12
          case hy12 => (go_simp; try with_reducible rfl)
          try simp only [Act.put, List.setIfInBounds_toArray, List.set_cons_zero, List.set_cons_succ]
          refine gate_ready (rs := [12]) (by kernel_rfl) (by simp) ?_
          refine AllGate.cons HO.out.2.2.2.2.2.2.2.2.2.2.2.2.1 (fun K hK => ?_) AllGate.nil
          rw [if_pos (by rfl)]
          refine wp_store_cl _ _ (Cl.new true) (exA t1a t1c) w1.heap.size rfl (by rfl) (by rfl) PC ?_
          intro w61 p62 j63
          have mv64 := j63.blk (Blk.ne R4 PC (by decide)) R4
          have mv65 := j63.ts PC (cl_no _ _) TN
          have mv66 := LOW.trans (j63.below LE6.out)
          replace R4 := mv64
          replace TN := mv65
          replace LOW := mv66
          replace PC := p62
          refine hK.out _ _ (ahead_off (by kernel_rfl)) ?_
          clear hK K
          simp only [Act.put]
          refine gate_ready (rs := [13]) (by kernel_rfl) (by simp) ?_
          refine AllGate.cons HO.out.2.2.2.2.2.2.2.2.2.2.2.2.2.1 (fun K hK => ?_) AllGate.nil
          rw [if_pos (by rfl)]
          refine wp_store_rq _ _ w33.heap.size rfl (by rfl) (by rfl) R4 rfl (by rfl) (by first | (simp [Value.oneCell']; done) | simp [rq, Value.oneCell']) ?_
          intro w67 p68 j69
          have mv70 := j69.blk (Blk.ne PC R4 (by decide)) PC
          have mv71 := j69.ts R4 (rq0_no ne97) TN
          have mv72 := LOW.trans (j69.below LE58.out)
          replace PC := mv70
          replace TN := mv71
          replace LOW := mv72
          replace R4 := p68
          refine hK.out _ _ (ahead_off (by kernel_rfl)) ?_
          clear hK K
          simp only [Act.put]
          refine gate_take (i := 14) (v := ?v13) HO.out.2.2.2.2.2.2.2.2.2.2.2.2.2.2 (by decide) (by kernel_rfl) (by kernel_rfl) (by kernel_rfl) (fun _ _ _ h => h) (Or.inl ⟨by rfl, fun w1 _ => ?hy13⟩) (ahead_off (by kernel_rfl)) ?rest13
          case hy13 => (go_simp; try with_reducible rfl)
          try simp only [Act.put, List.setIfInBounds_toArray, List.set_cons_zero, List.set_cons_succ]
          refine gate_done (by kernel_rfl) ?_ _
          go_wp2_with fail
          go_meet
          exact ⟨_, rfl, t1a, t1c, w33.heap.size, a1, c1, a2, c2, a3, c3, rfl, rfl, PC, R4, TN, LOW⟩
        refine AllGate.cons HO.out.2.2.2.2.2.2.2.2.2.2.2.1 (fun K hK => ?_) AllGate.nil
        go_simp
        have LE76 := Lib.hid LOW.size
        obtain ⟨w73, hw74, hb75, R4⟩ := alloc_new w31 rq0 RT
        replace PC := PC.later hb75
        replace TO := TO.later hb75
        replace LOW := LOW.trans (hb75.mono LOW.size)
        clear hb75
        rw [hw74]
        clear hw74
        refine hK.out _ _ (fun _ => PC) ?_
        clear hK K
        try simp only [Act.put, List.setIfInBounds_toArray, List.set_cons_zero, List.set_cons_succ]
        refine gate_ready (rs := [5]) (by kernel_rfl) (by simp) ?_
        refine AllGate.cons HO.out.2.2.2.2.2.1 (fun K hK => ?_) AllGate.nil
        go_simp
        have LE80 := Lib.hid LOW.size
        obtain ⟨w77, hw78, hb79, QH⟩ := alloc_new w73 #[.string ⟨#[97]⟩, .int .u64 3, .string ⟨#[98]⟩, .int .u64 4] 65
        replace PC := PC.later hb79
        replace R4 := R4.later hb79
        replace TO := TO.later hb79
        replace LOW := LOW.trans (hb79.mono LOW.size)
        clear hb79
        rw [hw78]
        clear hw78
        refine hK.out _ _ (fun _ => PC) ?_
        clear hK K
        try simp only [Act.put, List.setIfInBounds_toArray, List.set_cons_zero, List.set_cons_succ]
        refine gate_ready (rs := [6]) (by kernel_rfl) (by simp) ?_
        refine AllGate.cons HO.out.2.2.2.2.2.2.1 (fun K hK => ?_) AllGate.nil
        go_simp
        refine (ask_ok (x := Cl.new true) (k := 1) (n := 2) (m := 1) (hs := [⟨[97], 3⟩, ⟨[98], 4⟩]) (ask_first (by omega) (by omega) a_real a_rises a_fit (by omega) (by decide) rfl rfl rfl) TO (Tp.zero_at _) (hv_block QH rfl) rfl (by omega) (by decide)).mono ?_
        rintro e w81 ⟨t1a, t1c, a1, c1, a2, c2, a3, c3, rfl, TN, -, -, hb82⟩
        replace PC := PC.later hb82
        replace R4 := R4.later hb82
        replace QH := QH.later hb82
        replace TO := TO.later hb82
        replace LOW := LOW.trans (hb82.mono LOW.size)
        clear hb82
        clear TO QH
        refine hK.out _ _ (fun _ => PC) ?_
        clear hK K
        try simp only [Act.put, List.setIfInBounds_toArray, List.set_cons_zero, List.set_cons_succ]
        refine gate_take (i := 7) (v := ?v14) HO.out.2.2.2.2.2.2.2.1 (by decide) (by kernel_rfl) (by kernel_rfl) (by kernel_rfl) (fun _ _ _ h => h) (Or.inl ⟨by rfl, fun w1 _ => ?hy14⟩) (fun _ => PC) ?rest14
        case hy14 => (go_simp; try with_reducible rfl)
        try simp only [Act.put, List.setIfInBounds_toArray, List.set_cons_zero, List.set_cons_succ]
        refine gate_take (i := 8) (v := ?v15) HO.out.2.2.2.2.2.2.2.2.1 (by decide) (by kernel_rfl) (by kernel_rfl) (by kernel_rfl) (fun _ _ _ h => h) (Or.inl ⟨by rfl, fun w1 _ => ?hy15⟩) (fun _ => PC) ?rest15
        case hy15 => (go_simp; try with_reducible rfl)
        try simp only [Act.put, List.setIfInBounds_toArray, List.set_cons_zero, List.set_cons_succ]
        refine gate_take (i := 9) (v := ?v16) HO.out.2.2.2.2.2.2.2.2.2.1 (by decide) (by kernel_rfl) (by kernel_rfl) (by kernel_rfl) (fun _ _ _ h => h) (Or.inl ⟨by rfl, fun w1 _ => ?hy16⟩) (fun _ => PC) ?rest16
        case hy16 => (go_simp; try with_reducible rfl)
        try simp only [Act.put, List.setIfInBounds_toArray, List.set_cons_zero, List.set_cons_succ]
        refine gate_take (i := 10) (v := ?v17) HO.out.2.2.2.2.2.2.2.2.2.2.1 (by decide) (by kernel_rfl) (by kernel_rfl) (by kernel_rfl) (fun _ _ _ h => h) (Or.inl ⟨by rfl, fun w1 _ => ?hy17⟩) (fun _ => PC) ?rest17
        case hy17 => (go_simp; try with_reducible rfl)
        try simp only [Act.put, List.setIfInBounds_toArray, List.set_cons_zero, List.set_cons_succ]
        refine gate_ready (rs := [12]) (by kernel_rfl) (by simp) ?_
        refine AllGate.cons HO.out.2.2.2.2.2.2.2.2.2.2.2.2.1 (fun K hK => ?_) AllGate.nil
        rw [if_pos (by rfl)]
        refine wp_store_cl _ _ (Cl.new true) (exA t1a t1c) w1.heap.size rfl (by rfl) (by rfl) PC ?_
        intro w83 p84 j85
        have mv86 := j85.blk (Blk.ne R4 PC (by decide)) R4
        have mv87 := j85.ts PC (cl_no _ _) TN
        have mv88 := LOW.trans (j85.below LE6.out)
        replace R4 := mv86
        replace TN := mv87
        replace LOW := mv88
        replace PC := p84
        refine hK.out _ _ (ahead_off (by kernel_rfl)) ?_
        clear hK K
        simp only [Act.put]
        refine gate_ready (rs := [13]) (by kernel_rfl) (by simp) ?_
        refine AllGate.cons HO.out.2.2.2.2.2.2.2.2.2.2.2.2.2.1 (fun K hK => ?_) AllGate.nil
        rw [if_pos (by rfl)]
        refine wp_store_rq _ _ w31.heap.size rfl (by rfl) (by rfl) R4 rfl (by rfl) (by first | (simp [Value.oneCell']; done) | simp [rq, Value.oneCell']) ?_
        intro w89 p90 j91
        have mv92 := j91.blk (Blk.ne PC R4 (by decide)) PC
        have mv93 := j91.ts R4 (rq0_no ne97) TN
        have mv94 := LOW.trans (j91.below LE76.out)
        replace PC := mv92
        replace TN := mv93
        replace LOW := mv94
        replace R4 := p90
        refine hK.out _ _ (ahead_off (by kernel_rfl)) ?_
        clear hK K
        simp only [Act.put]
        refine gate_take (i := 14) (v := ?v18) HO.out.2.2.2.2.2.2.2.2.2.2.2.2.2.2 (by decide) (by kernel_rfl) (by kernel_rfl) (by kernel_rfl) (fun _ _ _ h => h) (Or.inl ⟨by rfl, fun w1 _ => ?hy18⟩) (ahead_off (by kernel_rfl)) ?rest18
        case hy18 => (go_simp; try with_reducible rfl)
        try simp only [Act.put, List.setIfInBounds_toArray, List.set_cons_zero, List.set_cons_succ]
        refine gate_done (by kernel_rfl) ?_ _
        go_wp2_with fail
        go_meet
        exact ⟨_, rfl, t1a, t1c, w31.heap.size, a1, c1, a2, c2, a3, c3, rfl, rfl, PC, R4, TN, LOW⟩
      refine AllGate.cons HO.out.2.2.2.2.2.1 (fun K hK => ?_) ?_
      · go_simp
        have LE98 := Lib.hid LOW.size
        obtain ⟨w95, hw96, hb97, QH⟩ := alloc_new w27 #[.string ⟨#[97]⟩, .int .u64 3, .string ⟨#[98]⟩, .int .u64 4] 65
        replace PC := PC.later hb97
        replace TA := TA.later hb97
        replace LOW := LOW.trans (hb97.mono LOW.size)
        clear hb97
        rw [hw96]
        clear hw96
        refine hK.out _ _ (fun _ => PC) ?_
        clear hK K
        try simp only [Act.put, List.setIfInBounds_toArray, List.set_cons_zero, List.set_cons_succ]
        refine gate_ready (rs := [2, 11]) (by kernel_rfl) (by simp) ?_
        refine AllGate.cons HO.out.2.2.1 (fun K hK => ?_) ?_
        · go_simp
          refine (of_any (l := [[97]]) TA a_fit a_of).mono ?_
          rintro e w99 ⟨ta, tc, rfl, TO, hb100⟩
          replace PC := PC.later hb100
          replace QH := QH.later hb100
          replace TA := TA.later hb100
          replace LOW := LOW.trans (hb100.mono LOW.size)
          clear hb100
          clear TA
          refine hK.out _ _ (fun _ => PC) ?_
          clear hK K
          try simp only [Act.put, List.setIfInBounds_toArray, List.set_cons_zero, List.set_cons_succ]
          refine gate_ready (rs := [6, 11]) (by kernel_rfl) (by simp) ?_
          refine AllGate.cons HO.out.2.2.2.2.2.2.1 (fun K hK => ?_) ?_
          · go_simp
            refine (ask_ok (x := Cl.new true) (k := 1) (n := 2) (m := 1) (hs := [⟨[97], 3⟩, ⟨[98], 4⟩]) (ask_first (by omega) (by omega) a_real a_rises a_fit (by omega) (by decide) rfl rfl rfl) TO (Tp.zero_at _) (hv_block QH rfl) rfl (by omega) (by decide)).mono ?_
            rintro e w101 ⟨t1a, t1c, a1, c1, a2, c2, a3, c3, rfl, TN, -, -, hb102⟩
            replace PC := PC.later hb102
            replace QH := QH.later hb102
            replace TO := TO.later hb102
            replace LOW := LOW.trans (hb102.mono LOW.size)
            clear hb102
            clear TO QH
            refine hK.out _ _ (fun _ => PC) ?_
            clear hK K
            try simp only [Act.put, List.setIfInBounds_toArray, List.set_cons_zero, List.set_cons_succ]
            refine gate_take (i := 7) (v := ?v19) HO.out.2.2.2.2.2.2.2.1 (by decide) (by kernel_rfl) (by kernel_rfl) (by kernel_rfl) (fun _ _ _ h => h) (Or.inl ⟨by rfl, fun w1 _ => ?hy19⟩) (fun _ => PC) ?rest19
            case hy19 => (go_simp; try with_reducible rfl)
            try simp only [Act.put, List.setIfInBounds_toArray, List.set_cons_zero, List.set_cons_succ]
            refine gate_take (i := 8) (v := ?v20) HO.out.2.2.2.2.2.2.2.2.1 (by decide) (by kernel_rfl) (by kernel_rfl) (by kernel_rfl) (fun _ _ _ h => h) (Or.inl ⟨by rfl, fun w1 _ => ?hy20⟩) (fun _ => PC) ?rest20
            case hy20 => (go_simp; try with_reducible rfl)
            try simp only [Act.put, List.setIfInBounds_toArray, List.set_cons_zero, List.set_cons_succ]
            refine gate_take (i := 9) (v := ?v21) HO.out.2.2.2.2.2.2.2.2.2.1 (by decide) (by kernel_rfl) (by kernel_rfl) (by kernel_rfl) (fun _ _ _ h => h) (Or.inl ⟨by rfl, fun w1 _ => ?hy21⟩) (fun _ => PC) ?rest21
            case hy21 => (go_simp; try with_reducible rfl)
            try simp only [Act.put, List.setIfInBounds_toArray, List.set_cons_zero, List.set_cons_succ]
            refine gate_take (i := 10) (v := ?v22) HO.out.2.2.2.2.2.2.2.2.2.2.1 (by decide) (by kernel_rfl) (by kernel_rfl) (by kernel_rfl) (fun _ _ _ h => h) (Or.inl ⟨by rfl, fun w1 _ => ?hy22⟩) (fun _ => PC) ?rest22
            case hy22 => (go_simp; try with_reducible rfl)
            try simp only [Act.put, List.setIfInBounds_toArray, List.set_cons_zero, List.set_cons_succ]
            refine gate_ready (rs := [11]) (by kernel_rfl) (by simp) ?_
            refine AllGate.cons HO.out.2.2.2.2.2.2.2.2.2.2.2.1 (fun K hK => ?_) AllGate.nil
            go_simp
            have LE106 := Lib.hid LOW.size
            obtain ⟨w103, hw104, hb105, R4⟩ := alloc_new w101 rq0 RT
            replace PC := PC.later hb105
            replace TN := TN.later hb105
            replace LOW := LOW.trans (hb105.mono LOW.size)
            clear hb105
            rw [hw104]
            clear hw104
            refine hK.out _ _ (fun _ => PC) ?_
            clear hK K
            try simp only [Act.put, List.setIfInBounds_toArray, List.set_cons_zero, List.set_cons_succ]
            refine gate_ready (rs := [12]) (by kernel_rfl) (by simp) ?_
            refine AllGate.cons HO.out.2.2.2.2.2.2.2.2.2.2.2.2.1 (fun K hK => ?_) AllGate.nil
            rw [if_pos (by rfl)]
            refine wp_store_cl _ _ (Cl.new true) (exA t1a t1c) w1.heap.size rfl (by rfl) (by rfl) PC ?_
            intro w107 p108 j109
            have mv110 := j109.blk (Blk.ne R4 PC (by decide)) R4
            have mv111 := j109.ts PC (cl_no _ _) TN
            have mv112 := LOW.trans (j109.below LE6.out)
            replace R4 := mv110
            replace TN := mv111
            replace LOW := mv112
            replace PC := p108
            refine hK.out _ _ (ahead_off (by kernel_rfl)) ?_
            clear hK K
            simp only [Act.put]
            refine gate_ready (rs := [13]) (by kernel_rfl) (by simp) ?_
            refine AllGate.cons HO.out.2.2.2.2.2.2.2.2.2.2.2.2.2.1 (fun K hK => ?_) AllGate.nil
            rw [if_pos (by rfl)]
            refine wp_store_rq _ _ w101.heap.size rfl (by rfl) (by rfl) R4 rfl (by rfl) (by first | (simp [Value.oneCell']; done) | simp [rq, Value.oneCell']) ?_
            intro w113 p114 j115
            have mv116 := j115.blk (Blk.ne PC R4 (by decide)) PC
            have mv117 := j115.ts R4 (rq0_no ne97) TN
            have mv118 := LOW.trans (j115.below LE106.out)
            replace PC := mv116
            replace TN := mv117
            replace LOW := mv118
            replace R4 := p114
            refine hK.out _ _ (ahead_off (by kernel_rfl)) ?_
            clear hK K
            simp only [Act.put]
            refine gate_take (i := 14) (v := ?v23) HO.out.2.2.2.2.2.2.2.2.2.2.2.2.2.2 (by decide) (by kernel_rfl) (by kernel_rfl) (by kernel_rfl) (fun _ _ _ h => h) (Or.inl ⟨by rfl, fun w1 _ => ?hy23⟩) (ahead_off (by kernel_rfl)) ?rest23
            case hy23 => (go_simp; try with_reducible rfl)
            try simp only [Act.put, List.setIfInBounds_toArray, List.set_cons_zero, List.set_cons_succ]
            refine gate_done (by kernel_rfl) ?_ _
            go_wp2_with fail
            go_meet
            exact ⟨_, rfl, t1a, t1c, w101.heap.size, a1, c1, a2, c2, a3, c3, rfl, rfl, PC, R4, TN, LOW⟩
          refine AllGate.cons HO.out.2.2.2.2.2.2.2.2.2.2.2.1 (fun K hK => ?_) AllGate.nil
          go_simp
          have LE122 := Lib.hid LOW.size
          obtain ⟨w119, hw120, hb121, R4⟩ := alloc_new w99 rq0 RT
          replace PC := PC.later hb121
          replace QH := QH.later hb121
          replace TO := TO.later hb121
          replace LOW := LOW.trans (hb121.mono LOW.size)
          clear hb121
          rw [hw120]
          clear hw120
          refine hK.out _ _ (fun _ => PC) ?_
          clear hK K
          try simp only [Act.put, List.setIfInBounds_toArray, List.set_cons_zero, List.set_cons_succ]
          refine gate_ready (rs := [6]) (by kernel_rfl) (by simp) ?_
          refine AllGate.cons HO.out.2.2.2.2.2.2.1 (fun K hK => ?_) AllGate.nil
          go_simp
          refine (ask_ok (x := Cl.new true) (k := 1) (n := 2) (m := 1) (hs := [⟨[97], 3⟩, ⟨[98], 4⟩]) (ask_first (by omega) (by omega) a_real a_rises a_fit (by omega) (by decide) rfl rfl rfl) TO (Tp.zero_at _) (hv_block QH rfl) rfl (by omega) (by decide)).mono ?_
          rintro e w123 ⟨t1a, t1c, a1, c1, a2, c2, a3, c3, rfl, TN, -, -, hb124⟩
          replace PC := PC.later hb124
          replace QH := QH.later hb124
          replace R4 := R4.later hb124
          replace TO := TO.later hb124
          replace LOW := LOW.trans (hb124.mono LOW.size)
          clear hb124
          clear TO QH
          refine hK.out _ _ (fun _ => PC) ?_
          clear hK K
          try simp only [Act.put, List.setIfInBounds_toArray, List.set_cons_zero, List.set_cons_succ]
          refine gate_take (i := 7) (v := ?v24) HO.out.2.2.2.2.2.2.2.1 (by decide) (by kernel_rfl) (by kernel_rfl) (by kernel_rfl) (fun _ _ _ h => h) (Or.inl ⟨by rfl, fun w1 _ => ?hy24⟩) (fun _ => PC) ?rest24
          case hy24 => (go_simp; try with_reducible rfl)
          try simp only [Act.put, List.setIfInBounds_toArray, List.set_cons_zero, List.set_cons_succ]
          refine gate_take (i := 8) (v := ?v25) HO.out.2.2.2.2.2.2.2.2.1 (by decide) (by kernel_rfl) (by kernel_rfl) (by kernel_rfl) (fun _ _ _ h => h) (Or.inl ⟨by rfl, fun w1 _ => ?hy25⟩) (fun _ => PC) ?rest25
          case hy25 => (go_simp; try with_reducible rfl)
          try simp only [Act.put, List.setIfInBounds_toArray, List.set_cons_zero, List.set_cons_succ]
          refine gate_take (i := 9) (v := ?v26) HO.out.2.2.2.2.2.2.2.2.2.1 (by decide) (by kernel_rfl) (by kernel_rfl) (by kernel_rfl) (fun _ _ _ h => h) (Or.inl ⟨by rfl, fun w1 _ => ?hy26⟩) (fun _ => PC) ?rest26
          case hy26 => (go_simp; try with_reducible rfl)
          try simp only [Act.put, List.setIfInBounds_toArray, List.set_cons_zero, List.set_cons_succ]
          refine gate_take (i := 10) (v := ?v27) HO.out.2.2.2.2.2.2.2.2.2.2.1 (by decide) (by kernel_rfl) (by kernel_rfl) (by kernel_rfl) (fun _ _ _ h => h) (Or.inl ⟨by rfl, fun w1 _ => ?hy27⟩) (fun _ => PC) ?rest27
          case hy27 => (go_simp; try with_reducible rfl)
          try simp only [Act.put, List.setIfInBounds_toArray, List.set_cons_zero, List.set_cons_succ]
          refine gate_ready (rs := [12]) (by kernel_rfl) (by simp) ?_
          refine AllGate.cons HO.out.2.2.2.2.2.2.2.2.2.2.2.2.1 (fun K hK => ?_) AllGate.nil
          rw [if_pos (by rfl)]
          refine wp_store_cl _ _ (Cl.new true) (exA t1a t1c) w1.heap.size rfl (by rfl) (by rfl) PC ?_
          intro w125 p126 j127
          have mv128 := j127.blk (Blk.ne R4 PC (by decide)) R4
          have mv129 := j127.ts PC (cl_no _ _) TN
          have mv130 := LOW.trans (j127.below LE6.out)
          replace R4 := mv128
          replace TN := mv129
          replace LOW := mv130
          replace PC := p126
          refine hK.out _ _ (ahead_off (by kernel_rfl)) ?_
          clear hK K
          simp only [Act.put]
          refine gate_ready (rs := [13]) (by kernel_rfl) (by simp) ?_
          refine AllGate.cons HO.out.2.2.2.2.2.2.2.2.2.2.2.2.2.1 (fun K hK => ?_) AllGate.nil
          rw [if_pos (by rfl)]
          refine wp_store_rq _ _ w99.heap.size rfl (by rfl) (by rfl) R4 rfl (by rfl) (by first | (simp [Value.oneCell']; done) | simp [rq, Value.oneCell']) ?_
          intro w131 p132 j133
          have mv134 := j133.blk (Blk.ne PC R4 (by decide)) PC
          have mv135 := j133.ts R4 (rq0_no ne97) TN
          have mv136 := LOW.trans (j133.below LE122.out)
          replace PC := mv134
          replace TN := mv135
          replace LOW := mv136
          replace R4 := p132
          refine hK.out _ _ (ahead_off (by kernel_rfl)) ?_
          clear hK K
          simp only [Act.put]
          refine gate_take (i := 14) (v := ?v28) HO.out.2.2.2.2.2.2.2.2.2.2.2.2.2.2 (by decide) (by kernel_rfl) (by kernel_rfl) (by kernel_rfl) (fun _ _ _ h => h) (Or.inl ⟨by rfl, fun w1 _ => ?hy28⟩) (ahead_off (by kernel_rfl)) ?rest28
          case hy28 => (go_simp; try with_reducible rfl)
          try simp only [Act.put, List.setIfInBounds_toArray, List.set_cons_zero, List.set_cons_succ]
          refine gate_done (by kernel_rfl) ?_ _
          go_wp2_with fail
          go_meet
          exact ⟨_, rfl, t1a, t1c, w99.heap.size, a1, c1, a2, c2, a3, c3, rfl, rfl, PC, R4, TN, LOW⟩
        refine AllGate.cons HO.out.2.2.2.2.2.2.2.2.2.2.2.1 (fun K hK => ?_) AllGate.nil
        go_simp
        have LE140 := Lib.hid LOW.size
        obtain ⟨w137, hw138, hb139, R4⟩ := alloc_new w95 rq0 RT
        replace PC := PC.later hb139
        replace QH := QH.later hb139
        replace TA := TA.later hb139
        replace LOW := LOW.trans (hb139.mono LOW.size)
        clear hb139
        rw [hw138]
        clear hw138
        refine hK.out _ _ (fun _ => PC) ?_
        clear hK K
        try simp only [Act.put, List.setIfInBounds_toArray, List.set_cons_zero, List.set_cons_succ]
        refine gate_ready (rs := [2]) (by kernel_rfl) (by simp) ?_
        refine AllGate.cons HO.out.2.2.1 (fun K hK => ?_) AllGate.nil
        go_simp
        refine (of_any (l := [[97]]) TA a_fit a_of).mono ?_
        rintro e w141 ⟨ta, tc, rfl, TO, hb142⟩
        replace PC := PC.later hb142
        replace QH := QH.later hb142
        replace R4 := R4.later hb142
        replace TA := TA.later hb142
        replace LOW := LOW.trans (hb142.mono LOW.size)
        clear hb142
        clear TA
        refine hK.out _ _ (fun _ => PC) ?_
        clear hK K
        try simp only [Act.put, List.setIfInBounds_toArray, List.set_cons_zero, List.set_cons_succ]
        refine gate_ready (rs := [6]) (by kernel_rfl) (by simp) ?_
        refine AllGate.cons HO.out.2.2.2.2.2.2.1 (fun K hK => ?_) AllGate.nil
        go_simp
        refine (ask_ok (x := Cl.new true) (k := 1) (n := 2) (m := 1) (hs := [⟨[97], 3⟩, ⟨[98], 4⟩]) (ask_first (by omega) (by omega) a_real a_rises a_fit (by omega) (by decide) rfl rfl rfl) TO (Tp.zero_at _) (hv_block QH rfl) rfl (by omega) (by decide)).mono ?_
        rintro e w143 ⟨t1a, t1c, a1, c1, a2, c2, a3, c3, rfl, TN, -, -, hb144⟩
        replace PC := PC.later hb144
        replace QH := QH.later hb144
        replace R4 := R4.later hb144
        replace TO := TO.later hb144
        replace LOW := LOW.trans (hb144.mono LOW.size)
        clear hb144
        clear TO QH
        refine hK.out _ _ (fun _ => PC) ?_
        clear hK K
        try simp only [Act.put, List.setIfInBounds_toArray, List.set_cons_zero, List.set_cons_succ]
        refine gate_take (i := 7) (v := ?v29) HO.out.2.2.2.2.2.2.2.1 (by decide) (by kernel_rfl) (by kernel_rfl) (by kernel_rfl) (fun _ _ _ h => h) (Or.inl ⟨by rfl, fun w1 _ => ?hy29⟩) (fun _ => PC) ?rest29
        case hy29 => (go_simp; try with_reducible rfl)
        try simp only [Act.put, List.setIfInBounds_toArray, List.set_cons_zero, List.set_cons_succ]
        refine gate_take (i := 8) (v := ?v30) HO.out.2.2.2.2.2.2.2.2.1 (by decide) (by kernel_rfl) (by kernel_rfl) (by kernel_rfl) (fun _ _ _ h => h) (Or.inl ⟨by rfl, fun w1 _ => ?hy30⟩) (fun _ => PC) ?rest30
        case hy30 => (go_simp; try with_reducible rfl)
        try simp only [Act.put, List.setIfInBounds_toArray, List.set_cons_zero, List.set_cons_succ]
        refine gate_take (i := 9) (v := ?v31) HO.out.2.2.2.2.2.2.2.2.2.1 (by decide) (by kernel_rfl) (by kernel_rfl) (by kernel_rfl) (fun _ _ _ h => h) (Or.inl ⟨by rfl, fun w1 _ => ?hy31⟩) (fun _ => PC) ?rest31
        case hy31 => (go_simp; try with_reducible rfl)
        try simp only [Act.put, List.setIfInBounds_toArray, List.set_cons_zero, List.set_cons_succ]
        refine gate_take (i := 10) (v := ?v32) HO.out.2.2.2.2.2.2.2.2.2.2.1 (by decide) (by kernel_rfl) (by kernel_rfl) (by kernel_rfl) (fun _ _ _ h => h) (Or.inl ⟨by rfl, fun w1 _ => ?hy32⟩) (fun _ => PC) ?rest32
        case hy32 => (go_simp; try with_reducible rfl)
        try simp only [Act.put, List.setIfInBounds_toArray, List.set_cons_zero, List.set_cons_succ]
        refine gate_ready (rs := [12]) (by kernel_rfl) (by simp) ?_
        refine AllGate.cons HO.out.2.2.2.2.2.2.2.2.2.2.2.2.1 (fun K hK => ?_) AllGate.nil
        rw [if_pos (by rfl)]
        refine wp_store_cl _ _ (Cl.new true) (exA t1a t1c) w1.heap.size rfl (by rfl) (by rfl) PC ?_
        intro w145 p146 j147
        have mv148 := j147.blk (Blk.ne R4 PC (by decide)) R4
        have mv149 := j147.ts PC (cl_no _ _) TN
        have mv150 := LOW.trans (j147.below LE6.out)
        replace R4 := mv148
        replace TN := mv149
        replace LOW := mv150
        replace PC := p146
        refine hK.out _ _ (ahead_off (by kernel_rfl)) ?_
        clear hK K
        simp only [Act.put]
        refine gate_ready (rs := [13]) (by kernel_rfl) (by simp) ?_
        refine AllGate.cons HO.out.2.2.2.2.2.2.2.2.2.2.2.2.2.1 (fun K hK => ?_) AllGate.nil
        rw [if_pos (by rfl)]
        refine wp_store_rq _ _ w95.heap.size rfl (by rfl) (by rfl) R4 rfl (by rfl) (by first | (simp [Value.oneCell']; done) | simp [rq, Value.oneCell']) ?_
        intro w151 p152 j153
        have mv154 := j153.blk (Blk.ne PC R4 (by decide)) PC
        have mv155 := j153.ts R4 (rq0_no ne97) TN
        have mv156 := LOW.trans (j153.below LE140.out)
        replace PC := mv154
        replace TN := mv155
        replace LOW := mv156
        replace R4 := p152
        refine hK.out _ _ (ahead_off (by kernel_rfl)) ?_
        clear hK K
        simp only [Act.put]
        refine gate_take (i := 14) (v := ?v33) HO.out.2.2.2.2.2.2.2.2.2.2.2.2.2.2 (by decide) (by kernel_rfl) (by kernel_rfl) (by kernel_rfl) (fun _ _ _ h => h) (Or.inl ⟨by rfl, fun w1 _ => ?hy33⟩) (ahead_off (by kernel_rfl)) ?rest33
        case hy33 => (go_simp; try with_reducible rfl)
        try simp only [Act.put, List.setIfInBounds_toArray, List.set_cons_zero, List.set_cons_succ]
        refine gate_done (by kernel_rfl) ?_ _
        go_wp2_with fail
        go_meet
        exact ⟨_, rfl, t1a, t1c, w95.heap.size, a1, c1, a2, c2, a3, c3, rfl, rfl, PC, R4, TN, LOW⟩
      refine AllGate.cons HO.out.2.2.2.2.2.2.2.2.2.2.2.1 (fun K hK => ?_) AllGate.nil
      go_simp
      have LE160 := Lib.hid LOW.size
      obtain ⟨w157, hw158, hb159, R4⟩ := alloc_new w27 rq0 RT
      replace PC := PC.later hb159
      replace TA := TA.later hb159
      replace LOW := LOW.trans (hb159.mono LOW.size)
      clear hb159
      rw [hw158]
      clear hw158
      refine hK.out _ _ (fun _ => PC) ?_
      clear hK K
      try simp only [Act.put, List.setIfInBounds_toArray, List.set_cons_zero, List.set_cons_succ]
      refine gate_ready (rs := [2, 5]) (by kernel_rfl) (by simp) ?_
      refine AllGate.cons HO.out.2.2.1 (fun K hK => ?_) ?_
      · go_simp
        refine (of_any (l := [[97]]) TA a_fit a_of).mono ?_
        rintro e w161 ⟨ta, tc, rfl, TO, hb162⟩
        replace PC := PC.later hb162
        replace R4 := R4.later hb162
        replace TA := TA.later hb162
        replace LOW := LOW.trans (hb162.mono LOW.size)
        clear hb162
        clear TA
        refine hK.out _ _ (fun _ => PC) ?_
        clear hK K
        try simp only [Act.put, List.setIfInBounds_toArray, List.set_cons_zero, List.set_cons_succ]
        refine gate_ready (rs := [5]) (by kernel_rfl) (by simp) ?_
        refine AllGate.cons HO.out.2.2.2.2.2.1 (fun K hK => ?_) AllGate.nil
        go_simp
        have LE166 := Lib.hid LOW.size
        obtain ⟨w163, hw164, hb165, QH⟩ := alloc_new w161 #[.string ⟨#[97]⟩, .int .u64 3, .string ⟨#[98]⟩, .int .u64 4] 65
        replace PC := PC.later hb165
        replace R4 := R4.later hb165
        replace TO := TO.later hb165
        replace LOW := LOW.trans (hb165.mono LOW.size)
        clear hb165
        rw [hw164]
        clear hw164
        refine hK.out _ _ (fun _ => PC) ?_
        clear hK K
        try simp only [Act.put, List.setIfInBounds_toArray, List.set_cons_zero, List.set_cons_succ]
        refine gate_ready (rs := [6]) (by kernel_rfl) (by simp) ?_
        refine AllGate.cons HO.out.2.2.2.2.2.2.1 (fun K hK => ?_) AllGate.nil
        go_simp
        refine (ask_ok (x := Cl.new true) (k := 1) (n := 2) (m := 1) (hs := [⟨[97], 3⟩, ⟨[98], 4⟩]) (ask_first (by omega) (by omega) a_real a_rises a_fit (by omega) (by decide) rfl rfl rfl) TO (Tp.zero_at _) (hv_block QH rfl) rfl (by omega) (by decide)).mono ?_
        rintro e w167 ⟨t1a, t1c, a1, c1, a2, c2, a3, c3, rfl, TN, -, -, hb168⟩
        replace PC := PC.later hb168
        replace R4 := R4.later hb168
        replace QH := QH.later hb168
        replace TO := TO.later hb168
        replace LOW := LOW.trans (hb168.mono LOW.size)
        clear hb168
        clear TO QH
        refine hK.out _ _ (fun _ => PC) ?_
        clear hK K
        try simp only [Act.put, List.setIfInBounds_toArray, List.set_cons_zero, List.set_cons_succ]
        refine gate_take (i := 7) (v := ?v34) HO.out.2.2.2.2.2.2.2.1 (by decide) (by kernel_rfl) (by kernel_rfl) (by kernel_rfl) (fun _ _ _ h => h) (Or.inl ⟨by rfl, fun w1 _ => ?hy34⟩) (fun _ => PC) ?rest34
        case hy34 => (go_simp; try with_reducible rfl)
        try simp only [Act.put, List.setIfInBounds_toArray, List.set_cons_zero, List.set_cons_succ]
        refine gate_take (i := 8) (v := ?v35) HO.out.2.2.2.2.2.2.2.2.1 (by decide) (by kernel_rfl) (by kernel_rfl) (by kernel_rfl) (fun _ _ _ h => h) (Or.inl ⟨by rfl, fun w1 _ => ?hy35⟩) (fun _ => PC) ?rest35
        case hy35 => (go_simp; try with_reducible rfl)
        try simp only [Act.put, List.setIfInBounds_toArray, List.set_cons_zero, List.set_cons_succ]
        refine gate_take (i := 9) (v := ?v36) HO.out.2.2.2.2.2.2.2.2.2.1 (by decide) (by kernel_rfl) (by kernel_rfl) (by kernel_rfl) (fun _ _ _ h => h) (Or.inl ⟨by rfl, fun w1 _ => ?hy36⟩) (fun _ => PC) ?rest36
        case hy36 => (go_simp; try with_reducible rfl)
        try simp only [Act.put, List.setIfInBounds_toArray, List.set_cons_zero, List.set_cons_succ]
        refine gate_take (i := 10) (v := ?v37) HO.out.2.2.2.2.2.2.2.2.2.2.1 (by decide) (by kernel_rfl) (by kernel_rfl) (by kernel_rfl) (fun _ _ _ h => h) (Or.inl ⟨by rfl, fun w1 _ => ?hy37⟩) (fun _ => PC) ?rest37
        case hy37 => (go_simp; try with_reducible rfl)
        try simp only [Act.put, List.setIfInBounds_toArray, List.set_cons_zero, List.set_cons_succ]
        refine gate_ready (rs := [12]) (by kernel_rfl) (by simp) ?_
        refine AllGate.cons HO.out.2.2.2.2.2.2.2.2.2.2.2.2.1 (fun K hK => ?_) AllGate.nil
        rw [if_pos (by rfl)]
        refine wp_store_cl _ _ (Cl.new true) (exA t1a t1c) w1.heap.size rfl (by rfl) (by rfl) PC ?_
        intro w169 p170 j171
        have mv172 := j171.blk (Blk.ne R4 PC (by decide)) R4
        have mv173 := j171.ts PC (cl_no _ _) TN
        have mv174 := LOW.trans (j171.below LE6.out)
        replace R4 := mv172
        replace TN := mv173
        replace LOW := mv174
        replace PC := p170
        refine hK.out _ _ (ahead_off (by kernel_rfl)) ?_
        clear hK K
        simp only [Act.put]
        refine gate_ready (rs := [13]) (by kernel_rfl) (by simp) ?_
        refine AllGate.cons HO.out.2.2.2.2.2.2.2.2.2.2.2.2.2.1 (fun K hK => ?_) AllGate.nil
        rw [if_pos (by rfl)]
        refine wp_store_rq _ _ w27.heap.size rfl (by rfl) (by rfl) R4 rfl (by rfl) (by first | (simp [Value.oneCell']; done) | simp [rq, Value.oneCell']) ?_
        intro w175 p176 j177
        have mv178 := j177.blk (Blk.ne PC R4 (by decide)) PC
        have mv179 := j177.ts R4 (rq0_no ne97) TN
        have mv180 := LOW.trans (j177.below LE160.out)
        replace PC := mv178
        replace TN := mv179
        replace LOW := mv180
        replace R4 := p176
        refine hK.out _ _ (ahead_off (by kernel_rfl)) ?_
        clear hK K
        simp only [Act.put]
        refine gate_take (i := 14) (v := ?v38) HO.out.2.2.2.2.2.2.2.2.2.2.2.2.2.2 (by decide) (by kernel_rfl) (by kernel_rfl) (by kernel_rfl) (fun _ _ _ h => h) (Or.inl ⟨by rfl, fun w1 _ => ?hy38⟩) (ahead_off (by kernel_rfl)) ?rest38
        case hy38 => (go_simp; try with_reducible rfl)
        try simp only [Act.put, List.setIfInBounds_toArray, List.set_cons_zero, List.set_cons_succ]
        refine gate_done (by kernel_rfl) ?_ _
        go_wp2_with fail
        go_meet
        exact ⟨_, rfl, t1a, t1c, w27.heap.size, a1, c1, a2, c2, a3, c3, rfl, rfl, PC, R4, TN, LOW⟩
      refine AllGate.cons HO.out.2.2.2.2.2.1 (fun K hK => ?_) AllGate.nil
      go_simp
      have LE184 := Lib.hid LOW.size
      obtain ⟨w181, hw182, hb183, QH⟩ := alloc_new w157 #[.string ⟨#[97]⟩, .int .u64 3, .string ⟨#[98]⟩, .int .u64 4] 65
      replace PC := PC.later hb183
      replace R4 := R4.later hb183
      replace TA := TA.later hb183
      replace LOW := LOW.trans (hb183.mono LOW.size)
      clear hb183
      rw [hw182]
      clear hw182
      refine hK.out _ _ (fun _ => PC) ?_
      clear hK K
      try simp only [Act.put, List.setIfInBounds_toArray, List.set_cons_zero, List.set_cons_succ]
      refine gate_ready (rs := [2]) (by kernel_rfl) (by simp) ?_
      refine AllGate.cons HO.out.2.2.1 (fun K hK => ?_) AllGate.nil
      go_simp
      refine (of_any (l := [[97]]) TA a_fit a_of).mono ?_
      rintro e w185 ⟨ta, tc, rfl, TO, hb186⟩
      replace PC := PC.later hb186
      replace R4 := R4.later hb186
      replace QH := QH.later hb186
      replace TA := TA.later hb186
      replace LOW := LOW.trans (hb186.mono LOW.size)
      clear hb186
      clear TA
      refine hK.out _ _ (fun _ => PC) ?_
      clear hK K
      try simp only [Act.put, List.setIfInBounds_toArray, List.set_cons_zero, List.set_cons_succ]
      refine gate_ready (rs := [6]) (by kernel_rfl) (by simp) ?_
      refine AllGate.cons HO.out.2.2.2.2.2.2.1 (fun K hK => ?_) AllGate.nil
      go_simp
      refine (ask_ok (x := Cl.new true) (k := 1) (n := 2) (m := 1) (hs := [⟨[97], 3⟩, ⟨[98], 4⟩]) (ask_first (by omega) (by omega) a_real a_rises a_fit (by omega) (by decide) rfl rfl rfl) TO (Tp.zero_at _) (hv_block QH rfl) rfl (by omega) (by decide)).mono ?_
      rintro e w187 ⟨t1a, t1c, a1, c1, a2, c2, a3, c3, rfl, TN, -, -, hb188⟩
      replace PC := PC.later hb188
      replace R4 := R4.later hb188
      replace QH := QH.later hb188
      replace TO := TO.later hb188
      replace LOW := LOW.trans (hb188.mono LOW.size)
      clear hb188
      clear TO QH
      refine hK.out _ _ (fun _ => PC) ?_
      clear hK K
      try simp only [Act.put, List.setIfInBounds_toArray, List.set_cons_zero, List.set_cons_succ]
      refine gate_take (i := 7) (v := ?v39) HO.out.2.2.2.2.2.2.2.1 (by decide) (by kernel_rfl) (by kernel_rfl) (by kernel_rfl) (fun _ _ _ h => h) (Or.inl ⟨by rfl, fun w1 _ => ?hy39⟩) (fun _ => PC) ?rest39
      case hy39 => (go_simp; try with_reducible rfl)
      try simp only [Act.put, List.setIfInBounds_toArray, List.set_cons_zero, List.set_cons_succ]
      refine gate_take (i := 8) (v := ?v40) HO.out.2.2.2.2.2.2.2.2.1 (by decide) (by kernel_rfl) (by kernel_rfl) (by kernel_rfl) (fun _ _ _ h => h) (Or.inl ⟨by rfl, fun w1 _ => ?hy40⟩) (fun _ => PC) ?rest40
      case hy40 => (go_simp; try with_reducible rfl)
      try simp only [Act.put, List.setIfInBounds_toArray, List.set_cons_zero, List.set_cons_succ]
      refine gate_take (i := 9) (v := ?v41) HO.out.2.2.2.2.2.2.2.2.2.1 (by decide) (by kernel_rfl) (by kernel_rfl) (by kernel_rfl) (fun _ _ _ h => h) (Or.inl ⟨by rfl, fun w1 _ => ?hy41⟩) (fun _ => PC) ?rest41
      case hy41 => (go_simp; try with_reducible rfl)
      try simp only [Act.put, List.setIfInBounds_toArray, List.set_cons_zero, List.set_cons_succ]
      refine gate_take (i := 10) (v := ?v42) HO.out.2.2.2.2.2.2.2.2.2.2.1 (by decide) (by kernel_rfl) (by kernel_rfl) (by kernel_rfl) (fun _ _ _ h => h) (Or.inl ⟨by rfl, fun w1 _ => ?hy42⟩) (fun _ => PC) ?rest42
      case hy42 => (go_simp; try with_reducible rfl)
      try simp only [Act.put, List.setIfInBounds_toArray, List.set_cons_zero, List.set_cons_succ]
      refine gate_ready (rs := [12]) (by kernel_rfl) (by simp) ?_
      refine AllGate.cons HO.out.2.2.2.2.2.2.2.2.2.2.2.2.1 (fun K hK => ?_) AllGate.nil
      rw [if_pos (by rfl)]
      refine wp_store_cl _ _ (Cl.new true) (exA t1a t1c) w1.heap.size rfl (by rfl) (by rfl) PC ?_
      intro w189 p190 j191
      have mv192 := j191.blk (Blk.ne R4 PC (by decide)) R4
      have mv193 := j191.ts PC (cl_no _ _) TN
      have mv194 := LOW.trans (j191.below LE6.out)
      replace R4 := mv192
      replace TN := mv193
      replace LOW := mv194
      replace PC := p190
      refine hK.out _ _ (ahead_off (by kernel_rfl)) ?_
      clear hK K
      simp only [Act.put]
      refine gate_ready (rs := [13]) (by kernel_rfl) (by simp) ?_
      refine AllGate.cons HO.out.2.2.2.2.2.2.2.2.2.2.2.2.2.1 (fun K hK => ?_) AllGate.nil
      rw [if_pos (by rfl)]
      refine wp_store_rq _ _ w27.heap.size rfl (by rfl) (by rfl) R4 rfl (by rfl) (by first | (simp [Value.oneCell']; done) | simp [rq, Value.oneCell']) ?_
      intro w195 p196 j197
      have mv198 := j197.blk (Blk.ne PC R4 (by decide)) PC
      have mv199 := j197.ts R4 (rq0_no ne97) TN
      have mv200 := LOW.trans (j197.below LE160.out)
      replace PC := mv198
      replace TN := mv199
      replace LOW := mv200
      replace R4 := p196
      refine hK.out _ _ (ahead_off (by kernel_rfl)) ?_
      clear hK K
      simp only [Act.put]
      refine gate_take (i := 14) (v := ?v43) HO.out.2.2.2.2.2.2.2.2.2.2.2.2.2.2 (by decide) (by kernel_rfl) (by kernel_rfl) (by kernel_rfl) (fun _ _ _ h => h) (Or.inl ⟨by rfl, fun w1 _ => ?hy43⟩) (ahead_off (by kernel_rfl)) ?rest43
      case hy43 => (go_simp; try with_reducible rfl)
      try simp only [Act.put, List.setIfInBounds_toArray, List.set_cons_zero, List.set_cons_succ]
      refine gate_done (by kernel_rfl) ?_ _
      go_wp2_with fail
      go_meet
      exact ⟨_, rfl, t1a, t1c, w27.heap.size, a1, c1, a2, c2, a3, c3, rfl, rfl, PC, R4, TN, LOW⟩
    refine AllGate.cons HO.out.2.2.2.2.2.1 (fun K hK => ?_) ?_
    · go_simp
      have LE204 := Lib.hid LOW.size
      obtain ⟨w201, hw202, hb203, QH⟩ := alloc_new w24 #[.string ⟨#[97]⟩, .int .u64 3, .string ⟨#[98]⟩, .int .u64 4] 65
      replace PC := PC.later hb203
      replace LOW := LOW.trans (hb203.mono LOW.size)
      clear hb203
      rw [hw202]
      clear hw202
      refine hK.out _ _ (fun _ => PC) ?_
      clear hK K
      try simp only [Act.put, List.setIfInBounds_toArray, List.set_cons_zero, List.set_cons_succ]
      refine gate_ready (rs := [1, 11]) (by kernel_rfl) (by simp) ?_
      refine AllGate.cons HO.out.2.1 (fun K hK => ?_) ?_
      · go_simp
        have LE208 := Lib.hid LOW.size
        obtain ⟨w205, hw206, hb207, QA⟩ := alloc_new w201 #[.string ⟨#[97]⟩] 9
        replace PC := PC.later hb207
        replace QH := QH.later hb207
        replace LOW := LOW.trans (hb207.mono LOW.size)
        clear hb207
        have TA : TsAt w205 _ [[97]] := ts_block (l := [[97]]) QA (by decide) rfl
        rw [hw206]
        clear hw206 QA
        refine hK.out _ _ (fun _ => PC) ?_
        clear hK K
        try simp only [Act.put, List.setIfInBounds_toArray, List.set_cons_zero, List.set_cons_succ]
        refine gate_ready (rs := [2, 11]) (by kernel_rfl) (by simp) ?_
        refine AllGate.cons HO.out.2.2.1 (fun K hK => ?_) ?_
        · go_simp
          refine (of_any (l := [[97]]) TA a_fit a_of).mono ?_
          rintro e w209 ⟨ta, tc, rfl, TO, hb210⟩
          replace PC := PC.later hb210
          replace QH := QH.later hb210
          replace TA := TA.later hb210
          replace LOW := LOW.trans (hb210.mono LOW.size)
          clear hb210
          clear TA
          refine hK.out _ _ (fun _ => PC) ?_
          clear hK K
          try simp only [Act.put, List.setIfInBounds_toArray, List.set_cons_zero, List.set_cons_succ]
          refine gate_ready (rs := [6, 11]) (by kernel_rfl) (by simp) ?_
          refine AllGate.cons HO.out.2.2.2.2.2.2.1 (fun K hK => ?_) ?_
          · go_simp
            refine (ask_ok (x := Cl.new true) (k := 1) (n := 2) (m := 1) (hs := [⟨[97], 3⟩, ⟨[98], 4⟩]) (ask_first (by omega) (by omega) a_real a_rises a_fit (by omega) (by decide) rfl rfl rfl) TO (Tp.zero_at _) (hv_block QH rfl) rfl (by omega) (by decide)).mono ?_
            rintro e w211 ⟨t1a, t1c, a1, c1, a2, c2, a3, c3, rfl, TN, -, -, hb212⟩
            replace PC := PC.later hb212
            replace QH := QH.later hb212
            replace TO := TO.later hb212
            replace LOW := LOW.trans (hb212.mono LOW.size)
            clear hb212
            clear TO QH
            refine hK.out _ _ (fun _ => PC) ?_
            clear hK K
            try simp only [Act.put, List.setIfInBounds_toArray, List.set_cons_zero, List.set_cons_succ]
            refine gate_take (i := 7) (v := ?v44) HO.out.2.2.2.2.2.2.2.1 (by decide) (by kernel_rfl) (by kernel_rfl) (by kernel_rfl) (fun _ _ _ h => h) (Or.inl ⟨by rfl, fun w1 _ => ?hy44⟩) (fun _ => PC) ?rest44
            case hy44 => (go_simp; try with_reducible rfl)
            try simp only [Act.put, List.setIfInBounds_toArray, List.set_cons_zero, List.set_cons_succ]
            refine gate_take (i := 8) (v := ?v45) HO.out.2.2.2.2.2.2.2.2.1 (by decide) (by kernel_rfl) (by kernel_rfl) (by kernel_rfl) (fun _ _ _ h => h) (Or.inl ⟨by rfl, fun w1 _ => ?hy45⟩) (fun _ => PC) ?rest45
            case hy45 => (go_simp; try with_reducible rfl)
            try simp only [Act.put, List.setIfInBounds_toArray, List.set_cons_zero, List.set_cons_succ]
            refine gate_take (i := 9) (v := ?v46) HO.out.2.2.2.2.2.2.2.2.2.1 (by decide) (by kernel_rfl) (by kernel_rfl) (by kernel_rfl) (fun _ _ _ h => h) (Or.inl ⟨by rfl, fun w1 _ => ?hy46⟩) (fun _ => PC) ?rest46
            case hy46 => (go_simp; try with_reducible rfl)
            try simp only [Act.put, List.setIfInBounds_toArray, List.set_cons_zero, List.set_cons_succ]
            refine gate_take (i := 10) (v := ?v47) HO.out.2.2.2.2.2.2.2.2.2.2.1 (by decide) (by kernel_rfl) (by kernel_rfl) (by kernel_rfl) (fun _ _ _ h => h) (Or.inl ⟨by rfl, fun w1 _ => ?hy47⟩) (fun _ => PC) ?rest47
            case hy47 => (go_simp; try with_reducible rfl)
            try simp only [Act.put, List.setIfInBounds_toArray, List.set_cons_zero, List.set_cons_succ]
            refine gate_ready (rs := [11]) (by kernel_rfl) (by simp) ?_
            refine AllGate.cons HO.out.2.2.2.2.2.2.2.2.2.2.2.1 (fun K hK => ?_) AllGate.nil
            go_simp
            have LE216 := Lib.hid LOW.size
            obtain ⟨w213, hw214, hb215, R4⟩ := alloc_new w211 rq0 RT
            replace PC := PC.later hb215
            replace TN := TN.later hb215
            replace LOW := LOW.trans (hb215.mono LOW.size)
            clear hb215
            rw [hw214]
            clear hw214
            refine hK.out _ _ (fun _ => PC) ?_
            clear hK K
            try simp only [Act.put, List.setIfInBounds_toArray, List.set_cons_zero, List.set_cons_succ]
            refine gate_ready (rs := [12]) (by kernel_rfl) (by simp) ?_
            refine AllGate.cons HO.out.2.2.2.2.2.2.2.2.2.2.2.2.1 (fun K hK => ?_) AllGate.nil
            rw [if_pos (by rfl)]
            refine wp_store_cl _ _ (Cl.new true) (exA t1a t1c) w1.heap.size rfl (by rfl) (by rfl) PC ?_
            intro w217 p218 j219
            have mv220 := j219.blk (Blk.ne R4 PC (by decide)) R4
            have mv221 := j219.ts PC (cl_no _ _) TN
            have mv222 := LOW.trans (j219.below LE6.out)
            replace R4 := mv220
            replace TN := mv221
            replace LOW := mv222
            replace PC := p218
            refine hK.out _ _ (ahead_off (by kernel_rfl)) ?_
            clear hK K
            simp only [Act.put]
            refine gate_ready (rs := [13]) (by kernel_rfl) (by simp) ?_
            refine AllGate.cons HO.out.2.2.2.2.2.2.2.2.2.2.2.2.2.1 (fun K hK => ?_) AllGate.nil
            rw [if_pos (by rfl)]
            refine wp_store_rq _ _ w211.heap.size rfl (by rfl) (by rfl) R4 rfl (by rfl) (by first | (simp [Value.oneCell']; done) | simp [rq, Value.oneCell']) ?_
            intro w223 p224 j225
            have mv226 := j225.blk (Blk.ne PC R4 (by decide)) PC
            have mv227 := j225.ts R4 (rq0_no ne97) TN
            have mv228 := LOW.trans (j225.below LE216.out)
            replace PC := mv226
            replace TN := mv227
            replace LOW := mv228
            replace R4 := p224
            refine hK.out _ _ (ahead_off (by kernel_rfl)) ?_
            clear hK K
            simp only [Act.put]
            refine gate_take (i := 14) (v := ?v48) HO.out.2.2.2.2.2.2.2.2.2.2.2.2.2.2 (by decide) (by kernel_rfl) (by kernel_rfl) (by kernel_rfl) (fun _ _ _ h => h) (Or.inl ⟨by rfl, fun w1 _ => ?hy48⟩) (ahead_off (by kernel_rfl)) ?rest48
            case hy48 => (go_simp; try with_reducible rfl)
            try simp only [Act.put, List.setIfInBounds_toArray, List.set_cons_zero, List.set_cons_succ]
            refine gate_done (by kernel_rfl) ?_ _
            go_wp2_with fail
            go_meet
            exact ⟨_, rfl, t1a, t1c, w211.heap.size, a1, c1, a2, c2, a3, c3, rfl, rfl, PC, R4, TN, LOW⟩
          refine AllGate.cons HO.out.2.2.2.2.2.2.2.2.2.2.2.1 (fun K hK => ?_) AllGate.nil
          go_simp
          have LE232 := Lib.hid LOW.size
          obtain ⟨w229, hw230, hb231, R4⟩ := alloc_new w209 rq0 RT
          replace PC := PC.later hb231
          replace QH := QH.later hb231
          replace TO := TO.later hb231
          replace LOW := LOW.trans (hb231.mono LOW.size)
          clear hb231
          rw [hw230]
          clear hw230
          refine hK.out _ _ (fun _ => PC) ?_
          clear hK K
          try simp only [Act.put, List.setIfInBounds_toArray, List.set_cons_zero, List.set_cons_succ]
          refine gate_ready (rs := [6]) (by kernel_rfl) (by simp) ?_
          refine AllGate.cons HO.out.2.2.2.2.2.2.1 (fun K hK => ?_) AllGate.nil
          go_simp
          refine (ask_ok (x := Cl.new true) (k := 1) (n := 2) (m := 1) (hs := [⟨[97], 3⟩, ⟨[98], 4⟩]) (ask_first (by omega) (by omega) a_real a_rises a_fit (by omega) (by decide) rfl rfl rfl) TO (Tp.zero_at _) (hv_block QH rfl) rfl (by omega) (by decide)).mono ?_
          rintro e w233 ⟨t1a, t1c, a1, c1, a2, c2, a3, c3, rfl, TN, -, -, hb234⟩
          replace PC := PC.later hb234
          replace QH := QH.later hb234
          replace R4 := R4.later hb234
          replace TO := TO.later hb234
          replace LOW := LOW.trans (hb234.mono LOW.size)
          clear hb234
          clear TO QH
          refine hK.out _ _ (fun _ => PC) ?_
          clear hK K
          try simp only [Act.put, List.setIfInBounds_toArray, List.set_cons_zero, List.set_cons_succ]
          refine gate_take (i := 7) (v := ?v49) HO.out.2.2.2.2.2.2.2.1 (by decide) (by kernel_rfl) (by kernel_rfl) (by kernel_rfl) (fun _ _ _ h => h) (Or.inl ⟨by rfl, fun w1 _ => ?hy49⟩) (fun _ => PC) ?rest49
          case hy49 => (go_simp; try with_reducible rfl)
          try simp only [Act.put, List.setIfInBounds_toArray, List.set_cons_zero, List.set_cons_succ]
          refine gate_take (i := 8) (v := ?v50) HO.out.2.2.2.2.2.2.2.2.1 (by decide) (by kernel_rfl) (by kernel_rfl) (by kernel_rfl) (fun _ _ _ h => h) (Or.inl ⟨by rfl, fun w1 _ => ?hy50⟩) (fun _ => PC) ?rest50
          case hy50 => (go_simp; try with_reducible rfl)
          try simp only [Act.put, List.setIfInBounds_toArray, List.set_cons_zero, List.set_cons_succ]
          refine gate_take (i := 9) (v := ?v51) HO.out.2.2.2.2.2.2.2.2.2.1 (by decide) (by kernel_rfl) (by kernel_rfl) (by kernel_rfl) (fun _ _ _ h => h) (Or.inl ⟨by rfl, fun w1 _ => ?hy51⟩) (fun _ => PC) ?rest51
          case hy51 => (go_simp; try with_reducible rfl)
          try simp only [Act.put, List.setIfInBounds_toArray, List.set_cons_zero, List.set_cons_succ]
          refine gate_take (i := 10) (v := ?v52) HO.out.2.2.2.2.2.2.2.2.2.2.1 (by decide) (by kernel_rfl) (by kernel_rfl) (by kernel_rfl) (fun _ _ _ h => h) (Or.inl ⟨by rfl, fun w1 _ => ?hy52⟩) (fun _ => PC) ?rest52
          case hy52 => (go_simp; try with_reducible rfl)
          try simp only [Act.put, List.setIfInBounds_toArray, List.set_cons_zero, List.set_cons_succ]
          refine gate_ready (rs := [12]) (by kernel_rfl) (by simp) ?_
          refine AllGate.cons HO.out.2.2.2.2.2.2.2.2.2.2.2.2.1 (fun K hK => ?_) AllGate.nil
          rw [if_pos (by rfl)]
          refine wp_store_cl _ _ (Cl.new true) (exA t1a t1c) w1.heap.size rfl (by rfl) (by rfl) PC ?_
          intro w235 p236 j237
          have mv238 := j237.blk (Blk.ne R4 PC (by decide)) R4
          have mv239 := j237.ts PC (cl_no _ _) TN
          have mv240 := LOW.trans (j237.below LE6.out)
          replace R4 := mv238
          replace TN := mv239
          replace LOW := mv240
          replace PC := p236
          refine hK.out _ _ (ahead_off (by kernel_rfl)) ?_
          clear hK K
          simp only [Act.put]
          refine gate_ready (rs := [13]) (by kernel_rfl) (by simp) ?_
          refine AllGate.cons HO.out.2.2.2.2.2.2.2.2.2.2.2.2.2.1 (fun K hK => ?_) AllGate.nil
          rw [if_pos (by rfl)]
          refine wp_store_rq _ _ w209.heap.size rfl (by rfl) (by rfl) R4 rfl (by rfl) (by first | (simp [Value.oneCell']; done) | simp [rq, Value.oneCell']) ?_
          intro w241 p242 j243
          have mv244 := j243.blk (Blk.ne PC R4 (by decide)) PC
          have mv245 := j243.ts R4 (rq0_no ne97) TN
          have mv246 := LOW.trans (j243.below LE232.out)
          replace PC := mv244
          replace TN := mv245
          replace LOW := mv246
          replace R4 := p242
          refine hK.out _ _ (ahead_off (by kernel_rfl)) ?_
          clear hK K
          simp only [Act.put]
          refine gate_take (i := 14) (v := ?v53) HO.out.2.2.2.2.2.2.2.2.2.2.2.2.2.2 (by decide) (by kernel_rfl) (by kernel_rfl) (by kernel_rfl) (fun _ _ _ h => h) (Or.inl ⟨by rfl, fun w1 _ => ?hy53⟩) (ahead_off (by kernel_rfl)) ?rest53
          case hy53 => (go_simp; try with_reducible rfl)
          try simp only [Act.put, List.setIfInBounds_toArray, List.set_cons_zero, List.set_cons_succ]
          refine gate_done (by kernel_rfl) ?_ _
          go_wp2_with fail
          go_meet
          exact ⟨_, rfl, t1a, t1c, w209.heap.size, a1, c1, a2, c2, a3, c3, rfl, rfl, PC, R4, TN, LOW⟩
        refine AllGate.cons HO.out.2.2.2.2.2.2.2.2.2.2.2.1 (fun K hK => ?_) AllGate.nil
        go_simp
        have LE250 := Lib.hid LOW.size
        obtain ⟨w247, hw248, hb249, R4⟩ := alloc_new w205 rq0 RT
        replace PC := PC.later hb249
        replace QH := QH.later hb249
        replace TA := TA.later hb249
        replace LOW := LOW.trans (hb249.mono LOW.size)
        clear hb249
        rw [hw248]
        clear hw248
        refine hK.out _ _ (fun _ => PC) ?_
        clear hK K
        try simp only [Act.put, List.setIfInBounds_toArray, List.set_cons_zero, List.set_cons_succ]
        refine gate_ready (rs := [2]) (by kernel_rfl) (by simp) ?_
        refine AllGate.cons HO.out.2.2.1 (fun K hK => ?_) AllGate.nil
        go_simp
        refine (of_any (l := [[97]]) TA a_fit a_of).mono ?_
        rintro e w251 ⟨ta, tc, rfl, TO, hb252⟩
        replace PC := PC.later hb252
        replace QH := QH.later hb252
        replace R4 := R4.later hb252
        replace TA := TA.later hb252
        replace LOW := LOW.trans (hb252.mono LOW.size)
        clear hb252
        clear TA
        refine hK.out _ _ (fun _ => PC) ?_
        clear hK K
        try simp only [Act.put, List.setIfInBounds_toArray, List.set_cons_zero, List.set_cons_succ]
        refine gate_ready (rs := [6]) (by kernel_rfl) (by simp) ?_
        refine AllGate.cons HO.out.2.2.2.2.2.2.1 (fun K hK => ?_) AllGate.nil
        go_simp
        refine (ask_ok (x := Cl.new true) (k := 1) (n := 2) (m := 1) (hs := [⟨[97], 3⟩, ⟨[98], 4⟩]) (ask_first (by omega) (by omega) a_real a_rises a_fit (by omega) (by decide) rfl rfl rfl) TO (Tp.zero_at _) (hv_block QH rfl) rfl (by omega) (by decide)).mono ?_
        rintro e w253 ⟨t1a, t1c, a1, c1, a2, c2, a3, c3, rfl, TN, -, -, hb254⟩
        replace PC := PC.later hb254
        replace QH := QH.later hb254
        replace R4 := R4.later hb254
        replace TO := TO.later hb254
        replace LOW := LOW.trans (hb254.mono LOW.size)
        clear hb254
        clear TO QH
        refine hK.out _ _ (fun _ => PC) ?_
        clear hK K
        try simp only [Act.put, List.setIfInBounds_toArray, List.set_cons_zero, List.set_cons_succ]
        refine gate_take (i := 7) (v := ?v54) HO.out.2.2.2.2.2.2.2.1 (by decide) (by kernel_rfl) (by kernel_rfl) (by kernel_rfl) (fun _ _ _ h => h) (Or.inl ⟨by rfl, fun w1 _ => ?hy54⟩) (fun _ => PC) ?rest54
        case hy54 => (go_simp; try with_reducible rfl)
        try simp only [Act.put, List.setIfInBounds_toArray, List.set_cons_zero, List.set_cons_succ]
        refine gate_take (i := 8) (v := ?v55) HO.out.2.2.2.2.2.2.2.2.1 (by decide) (by kernel_rfl) (by kernel_rfl) (by kernel_rfl) (fun _ _ _ h => h) (Or.inl ⟨by rfl, fun w1 _ => ?hy55⟩) (fun _ => PC) ?rest55
        case hy55 => (go_simp; try with_reducible rfl)
        try simp only [Act.put, List.setIfInBounds_toArray, List.set_cons_zero, List.set_cons_succ]
        refine gate_take (i := 9) (v := ?v56) HO.out.2.2.2.2.2.2.2.2.2.1 (by decide) (by kernel_rfl) (by kernel_rfl) (by kernel_rfl) (fun _ _ _ h => h) (Or.inl ⟨by rfl, fun w1 _ => ?hy56⟩) (fun _ => PC) ?rest56
        case hy56 => (go_simp; try with_reducible rfl)
        try simp only [Act.put, List.setIfInBounds_toArray, List.set_cons_zero, List.set_cons_succ]
        refine gate_take (i := 10) (v := ?v57) HO.out.2.2.2.2.2.2.2.2.2.2.1 (by decide) (by kernel_rfl) (by kernel_rfl) (by kernel_rfl) (fun _ _ _ h => h) (Or.inl ⟨by rfl, fun w1 _ => ?hy57⟩) (fun _ => PC) ?rest57
        case hy57 => (go_simp; try with_reducible rfl)
        try simp only [Act.put, List.setIfInBounds_toArray, List.set_cons_zero, List.set_cons_succ]
        refine gate_ready (rs := [12]) (by kernel_rfl) (by simp) ?_
        refine AllGate.cons HO.out.2.2.2.2.2.2.2.2.2.2.2.2.1 (fun K hK => ?_) AllGate.nil
        rw [if_pos (by rfl)]
        refine wp_store_cl _ _ (Cl.new true) (exA t1a t1c) w1.heap.size rfl (by rfl) (by rfl) PC ?_
        intro w255 p256 j257
        have mv258 := j257.blk (Blk.ne R4 PC (by decide)) R4
        have mv259 := j257.ts PC (cl_no _ _) TN
        have mv260 := LOW.trans (j257.below LE6.out)
        replace R4 := mv258
        replace TN := mv259
        replace LOW := mv260
        replace PC := p256
        refine hK.out _ _ (ahead_off (by kernel_rfl)) ?_
        clear hK K
        simp only [Act.put]
        refine gate_ready (rs := [13]) (by kernel_rfl) (by simp) ?_
        refine AllGate.cons HO.out.2.2.2.2.2.2.2.2.2.2.2.2.2.1 (fun K hK => ?_) AllGate.nil
        rw [if_pos (by rfl)]
        refine wp_store_rq _ _ w205.heap.size rfl (by rfl) (by rfl) R4 rfl (by rfl) (by first | (simp [Value.oneCell']; done) | simp [rq, Value.oneCell']) ?_
        intro w261 p262 j263
        have mv264 := j263.blk (Blk.ne PC R4 (by decide)) PC
        have mv265 := j263.ts R4 (rq0_no ne97) TN
        have mv266 := LOW.trans (j263.below LE250.out)
        replace PC := mv264
        replace TN := mv265
        replace LOW := mv266
        replace R4 := p262
        refine hK.out _ _ (ahead_off (by kernel_rfl)) ?_
        clear hK K
        simp only [Act.put]
        refine gate_take (i := 14) (v := ?v58) HO.out.2.2.2.2.2.2.2.2.2.2.2.2.2.2 (by decide) (by kernel_rfl) (by kernel_rfl) (by kernel_rfl) (fun _ _ _ h => h) (Or.inl ⟨by rfl, fun w1 _ => ?hy58⟩) (ahead_off (by kernel_rfl)) ?rest58
        case hy58 => (go_simp; try with_reducible rfl)
        try simp only [Act.put, List.setIfInBounds_toArray, List.set_cons_zero, List.set_cons_succ]
        refine gate_done (by kernel_rfl) ?_ _
        go_wp2_with fail
        go_meet
        exact ⟨_, rfl, t1a, t1c, w205.heap.size, a1, c1, a2, c2, a3, c3, rfl, rfl, PC, R4, TN, LOW⟩
      refine AllGate.cons HO.out.2.2.2.2.2.2.2.2.2.2.2.1 (fun K hK => ?_) AllGate.nil
      go_simp
      have LE270 := Lib.hid LOW.size
      obtain ⟨w267, hw268, hb269, R4⟩ := alloc_new w201 rq0 RT
      replace PC := PC.later hb269
      replace QH := QH.later hb269
      replace LOW := LOW.trans (hb269.mono LOW.size)
      clear hb269
      rw [hw268]
      clear hw268
      refine hK.out _ _ (fun _ => PC) ?_
      clear hK K
      try simp only [Act.put, List.setIfInBounds_toArray, List.set_cons_zero, List.set_cons_succ]
      refine gate_ready (rs := [1]) (by kernel_rfl) (by simp) ?_
      refine AllGate.cons HO.out.2.1 (fun K hK => ?_) AllGate.nil
      go_simp
      have LE274 := Lib.hid LOW.size
      obtain ⟨w271, hw272, hb273, QA⟩ := alloc_new w267 #[.string ⟨#[97]⟩] 9
      replace PC := PC.later hb273
      replace QH := QH.later hb273
      replace R4 := R4.later hb273
      replace LOW := LOW.trans (hb273.mono LOW.size)
      clear hb273
      have TA : TsAt w271 _ [[97]] := ts_block (l := [[97]]) QA (by decide) rfl
      rw [hw272]
      clear hw272 QA
      refine hK.out _ _ (fun _ => PC) ?_
      clear hK K
      try simp only [Act.put, List.setIfInBounds_toArray, List.set_cons_zero, List.set_cons_succ]
      refine gate_ready (rs := [2]) (by kernel_rfl) (by simp) ?_
      refine AllGate.cons HO.out.2.2.1 (fun K hK => ?_) AllGate.nil
      go_simp
      refine (of_any (l := [[97]]) TA a_fit a_of).mono ?_
      rintro e w275 ⟨ta, tc, rfl, TO, hb276⟩
      replace PC := PC.later hb276
      replace QH := QH.later hb276
      replace R4 := R4.later hb276
      replace TA := TA.later hb276
      replace LOW := LOW.trans (hb276.mono LOW.size)
      clear hb276
      clear TA
      refine hK.out _ _ (fun _ => PC) ?_
      clear hK K
      try simp only [Act.put, List.setIfInBounds_toArray, List.set_cons_zero, List.set_cons_succ]
      refine gate_ready (rs := [6]) (by kernel_rfl) (by simp) ?_
      refine AllGate.cons HO.out.2.2.2.2.2.2.1 (fun K hK => ?_) AllGate.nil
      go_simp
      refine (ask_ok (x := Cl.new true) (k := 1) (n := 2) (m := 1) (hs := [⟨[97], 3⟩, ⟨[98], 4⟩]) (ask_first (by omega) (by omega) a_real a_rises a_fit (by omega) (by decide) rfl rfl rfl) TO (Tp.zero_at _) (hv_block QH rfl) rfl (by omega) (by decide)).mono ?_
      rintro e w277 ⟨t1a, t1c, a1, c1, a2, c2, a3, c3, rfl, TN, -, -, hb278⟩
      replace PC := PC.later hb278
      replace QH := QH.later hb278
      replace R4 := R4.later hb278
      replace TO := TO.later hb278
      replace LOW := LOW.trans (hb278.mono LOW.size)
      clear hb278
      clear TO QH
      refine hK.out _ _ (fun _ => PC) ?_
      clear hK K
      try simp only [Act.put, List.setIfInBounds_toArray, List.set_cons_zero, List.set_cons_succ]
      refine gate_take (i := 7) (v := ?v59) HO.out.2.2.2.2.2.2.2.1 (by decide) (by kernel_rfl) (by kernel_rfl) (by kernel_rfl) (fun _ _ _ h => h) (Or.inl ⟨by rfl, fun w1 _ => ?hy59⟩) (fun _ => PC) ?rest59
      case hy59 => (go_simp; try with_reducible rfl)
      try simp only [Act.put, List.setIfInBounds_toArray, List.set_cons_zero, List.set_cons_succ]
      refine gate_take (i := 8) (v := ?v60) HO.out.2.2.2.2.2.2.2.2.1 (by decide) (by kernel_rfl) (by kernel_rfl) (by kernel_rfl) (fun _ _ _ h => h) (Or.inl ⟨by rfl, fun w1 _ => ?hy60⟩) (fun _ => PC) ?rest60
      case hy60 => (go_simp; try with_reducible rfl)
      try simp only [Act.put, List.setIfInBounds_toArray, List.set_cons_zero, List.set_cons_succ]
      refine gate_take (i := 9) (v := ?v61) HO.out.2.2.2.2.2.2.2.2.2.1 (by decide) (by kernel_rfl) (by kernel_rfl) (by kernel_rfl) (fun _ _ _ h => h) (Or.inl ⟨by rfl, fun w1 _ => ?hy61⟩) (fun _ => PC) ?rest61
      case hy61 => (go_simp; try with_reducible rfl)
      try simp only [Act.put, List.setIfInBounds_toArray, List.set_cons_zero, List.set_cons_succ]
      refine gate_take (i := 10) (v := ?v62) HO.out.2.2.2.2.2.2.2.2.2.2.1 (by decide) (by kernel_rfl) (by kernel_rfl) (by kernel_rfl) (fun _ _ _ h => h) (Or.inl ⟨by rfl, fun w1 _ => ?hy62⟩) (fun _ => PC) ?rest62
      case hy62 => (go_simp; try with_reducible rfl)
      try simp only [Act.put, List.setIfInBounds_toArray, List.set_cons_zero, List.set_cons_succ]
      refine gate_ready (rs := [12]) (by kernel_rfl) (by simp) ?_
      refine AllGate.cons HO.out.2.2.2.2.2.2.2.2.2.2.2.2.1 (fun K hK => ?_) AllGate.nil
      rw [if_pos (by rfl)]
      refine wp_store_cl _ _ (Cl.new true) (exA t1a t1c) w1.heap.size rfl (by rfl) (by rfl) PC ?_
      intro w279 p280 j281
      have mv282 := j281.blk (Blk.ne R4 PC (by decide)) R4
      have mv283 := j281.ts PC (cl_no _ _) TN
      have mv284 := LOW.trans (j281.below LE6.out)
      replace R4 := mv282
      replace TN := mv283
      replace LOW := mv284
      replace PC := p280
      refine hK.out _ _ (ahead_off (by kernel_rfl)) ?_
      clear hK K
      simp only [Act.put]
      refine gate_ready (rs := [13]) (by kernel_rfl) (by simp) ?_
      refine AllGate.cons HO.out.2.2.2.2.2.2.2.2.2.2.2.2.2.1 (fun K hK => ?_) AllGate.nil
      rw [if_pos (by rfl)]
      refine wp_store_rq _ _ w201.heap.size rfl (by rfl) (by rfl) R4 rfl (by rfl) (by first | (simp [Value.oneCell']; done) | simp [rq, Value.oneCell']) ?_
      intro w285 p286 j287
      have mv288 := j287.blk (Blk.ne PC R4 (by decide)) PC
      have mv289 := j287.ts R4 (rq0_no ne97) TN
      have mv290 := LOW.trans (j287.below LE270.out)
      replace PC := mv288
      replace TN := mv289
      replace LOW := mv290
      replace R4 := p286
      refine hK.out _ _ (ahead_off (by kernel_rfl)) ?_
      clear hK K
      simp only [Act.put]
      refine gate_take (i := 14) (v := ?v63) HO.out.2.2.2.2.2.2.2.2.2.2.2.2.2.2 (by decide) (by kernel_rfl) (by kernel_rfl) (by kernel_rfl) (fun _ _ _ h => h) (Or.inl ⟨by rfl, fun w1 _ => ?hy63⟩) (ahead_off (by kernel_rfl)) ?rest63
      case hy63 => (go_simp; try with_reducible rfl)
      try simp only [Act.put, List.setIfInBounds_toArray, List.set_cons_zero, List.set_cons_succ]
      refine gate_done (by kernel_rfl) ?_ _
      go_wp2_with fail
      go_meet
      exact ⟨_, rfl, t1a, t1c, w201.heap.size, a1, c1, a2, c2, a3, c3, rfl, rfl, PC, R4, TN, LOW⟩
    refine AllGate.cons HO.out.2.2.2.2.2.2.2.2.2.2.2.1 (fun K hK => ?_) AllGate.nil
    go_simp
    have LE294 := Lib.hid LOW.size
    obtain ⟨w291, hw292, hb293, R4⟩ := alloc_new w24 rq0 RT
    replace PC := PC.later hb293
    replace LOW := LOW.trans (hb293.mono LOW.size)
    clear hb293
    rw [hw292]
    clear hw292
    refine hK.out _ _ (fun _ => PC) ?_
    clear hK K
    try simp only [Act.put, List.setIfInBounds_toArray, List.set_cons_zero, List.set_cons_succ]
    refine gate_ready (rs := [1, 5]) (by kernel_rfl) (by simp) ?_
    refine AllGate.cons HO.out.2.1 (fun K hK => ?_) ?_
    · go_simp
      have LE298 := Lib.hid LOW.size
      obtain ⟨w295, hw296, hb297, QA⟩ := alloc_new w291 #[.string ⟨#[97]⟩] 9
      replace PC := PC.later hb297
      replace R4 := R4.later hb297
      replace LOW := LOW.trans (hb297.mono LOW.size)
      clear hb297
      have TA : TsAt w295 _ [[97]] := ts_block (l := [[97]]) QA (by decide) rfl
      rw [hw296]
      clear hw296 QA
      refine hK.out _ _ (fun _ => PC) ?_
      clear hK K
      try simp only [Act.put, List.setIfInBounds_toArray, List.set_cons_zero, List.set_cons_succ]
      refine gate_ready (rs := [2, 5]) (by kernel_rfl) (by simp) ?_
      refine AllGate.cons HO.out.2.2.1 (fun K hK => ?_) ?_
      · go_simp
        refine (of_any (l := [[97]]) TA a_fit a_of).mono ?_
        rintro e w299 ⟨ta, tc, rfl, TO, hb300⟩
        replace PC := PC.later hb300
        replace R4 := R4.later hb300
        replace TA := TA.later hb300
        replace LOW := LOW.trans (hb300.mono LOW.size)
        clear hb300
        clear TA
        refine hK.out _ _ (fun _ => PC) ?_
        clear hK K
        try simp only [Act.put, List.setIfInBounds_toArray, List.set_cons_zero, List.set_cons_succ]
        refine gate_ready (rs := [5]) (by kernel_rfl) (by simp) ?_
        refine AllGate.cons HO.out.2.2.2.2.2.1 (fun K hK => ?_) AllGate.nil
        go_simp
        have LE304 := Lib.hid LOW.size
        obtain ⟨w301, hw302, hb303, QH⟩ := alloc_new w299 #[.string ⟨#[97]⟩, .int .u64 3, .string ⟨#[98]⟩, .int .u64 4] 65
        replace PC := PC.later hb303
        replace R4 := R4.later hb303
        replace TO := TO.later hb303
        replace LOW := LOW.trans (hb303.mono LOW.size)
        clear hb303
        rw [hw302]
        clear hw302
        refine hK.out _ _ (fun _ => PC) ?_
        clear hK K
        try simp only [Act.put, List.setIfInBounds_toArray, List.set_cons_zero, List.set_cons_succ]
        refine gate_ready (rs := [6]) (by kernel_rfl) (by simp) ?_
        refine AllGate.cons HO.out.2.2.2.2.2.2.1 (fun K hK => ?_) AllGate.nil
        go_simp
        refine (ask_ok (x := Cl.new true) (k := 1) (n := 2) (m := 1) (hs := [⟨[97], 3⟩, ⟨[98], 4⟩]) (ask_first (by omega) (by omega) a_real a_rises a_fit (by omega) (by decide) rfl rfl rfl) TO (Tp.zero_at _) (hv_block QH rfl) rfl (by omega) (by decide)).mono ?_
        rintro e w305 ⟨t1a, t1c, a1, c1, a2, c2, a3, c3, rfl, TN, -, -, hb306⟩
        replace PC := PC.later hb306
        replace R4 := R4.later hb306
        replace QH := QH.later hb306
        replace TO := TO.later hb306
        replace LOW := LOW.trans (hb306.mono LOW.size)
        clear hb306
        clear TO QH
        refine hK.out _ _ (fun _ => PC) ?_
        clear hK K
        try simp only [Act.put, List.setIfInBounds_toArray, List.set_cons_zero, List.set_cons_succ]
        refine gate_take (i := 7) (v := ?v64) HO.out.2.2.2.2.2.2.2.1 (by decide) (by kernel_rfl) (by kernel_rfl) (by kernel_rfl) (fun _ _ _ h => h) (Or.inl ⟨by rfl, fun w1 _ => ?hy64⟩) (fun _ => PC) ?rest64
        case hy64 => (go_simp; try with_reducible rfl)
        try simp only [Act.put, List.setIfInBounds_toArray, List.set_cons_zero, List.set_cons_succ]
        refine gate_take (i := 8) (v := ?v65) HO.out.2.2.2.2.2.2.2.2.1 (by decide) (by kernel_rfl) (by kernel_rfl) (by kernel_rfl) (fun _ _ _ h => h) (Or.inl ⟨by rfl, fun w1 _ => ?hy65⟩) (fun _ => PC) ?rest65
        case hy65 => (go_simp; try with_reducible rfl)
        try simp only [Act.put, List.setIfInBounds_toArray, List.set_cons_zero, List.set_cons_succ]
        refine gate_take (i := 9) (v := ?v66) HO.out.2.2.2.2.2.2.2.2.2.1 (by decide) (by kernel_rfl) (by kernel_rfl) (by kernel_rfl) (fun _ _ _ h => h) (Or.inl ⟨by rfl, fun w1 _ => ?hy66⟩) (fun _ => PC) ?rest66
        case hy66 => (go_simp; try with_reducible rfl)
        try simp only [Act.put, List.setIfInBounds_toArray, List.set_cons_zero, List.set_cons_succ]
        refine gate_take (i := 10) (v := ?v67) HO.out.2.2.2.2.2.2.2.2.2.2.1 (by decide) (by kernel_rfl) (by kernel_rfl) (by kernel_rfl) (fun _ _ _ h => h) (Or.inl ⟨by rfl, fun w1 _ => ?hy67⟩) (fun _ => PC) ?rest67
        case hy67 => (go_simp; try with_reducible rfl)
        try simp only [Act.put, List.setIfInBounds_toArray, List.set_cons_zero, List.set_cons_succ]
        refine gate_ready (rs := [12]) (by kernel_rfl) (by simp) ?_
        refine AllGate.cons HO.out.2.2.2.2.2.2.2.2.2.2.2.2.1 (fun K hK => ?_) AllGate.nil
        rw [if_pos (by rfl)]
        refine wp_store_cl _ _ (Cl.new true) (exA t1a t1c) w1.heap.size rfl (by rfl) (by rfl) PC ?_
        intro w307 p308 j309
        have mv310 := j309.blk (Blk.ne R4 PC (by decide)) R4
        have mv311 := j309.ts PC (cl_no _ _) TN
        have mv312 := LOW.trans (j309.below LE6.out)
        replace R4 := mv310
        replace TN := mv311
        replace LOW := mv312
        replace PC := p308
        refine hK.out _ _ (ahead_off (by kernel_rfl)) ?_
        clear hK K
        simp only [Act.put]
        refine gate_ready (rs := [13]) (by kernel_rfl) (by simp) ?_
        refine AllGate.cons HO.out.2.2.2.2.2.2.2.2.2.2.2.2.2.1 (fun K hK => ?_) AllGate.nil
        rw [if_pos (by rfl)]
        refine wp_store_rq _ _ w24.heap.size rfl (by rfl) (by rfl) R4 rfl (by rfl) (by first | (simp [Value.oneCell']; done) | simp [rq, Value.oneCell']) ?_
        intro w313 p314 j315
        have mv316 := j315.blk (Blk.ne PC R4 (by decide)) PC
        have mv317 := j315.ts R4 (rq0_no ne97) TN
        have mv318 := LOW.trans (j315.below LE294.out)
        replace PC := mv316
        replace TN := mv317
        replace LOW := mv318
        replace R4 := p314
        refine hK.out _ _ (ahead_off (by kernel_rfl)) ?_
        clear hK K
        simp only [Act.put]
        refine gate_take (i := 14) (v := ?v68) HO.out.2.2.2.2.2.2.2.2.2.2.2.2.2.2 (by decide) (by kernel_rfl) (by kernel_rfl) (by kernel_rfl) (fun _ _ _ h => h) (Or.inl ⟨by rfl, fun w1 _ => ?hy68⟩) (ahead_off (by kernel_rfl)) ?rest68
        case hy68 => (go_simp; try with_reducible rfl)
        try simp only [Act.put, List.setIfInBounds_toArray, List.set_cons_zero, List.set_cons_succ]
        refine gate_done (by kernel_rfl) ?_ _
        go_wp2_with fail
        go_meet
        exact ⟨_, rfl, t1a, t1c, w24.heap.size, a1, c1, a2, c2, a3, c3, rfl, rfl, PC, R4, TN, LOW⟩
      refine AllGate.cons HO.out.2.2.2.2.2.1 (fun K hK => ?_) AllGate.nil
      go_simp
      have LE322 := Lib.hid LOW.size
      obtain ⟨w319, hw320, hb321, QH⟩ := alloc_new w295 #[.string ⟨#[97]⟩, .int .u64 3, .string ⟨#[98]⟩, .int .u64 4] 65
      replace PC := PC.later hb321
      replace R4 := R4.later hb321
      replace TA := TA.later hb321
      replace LOW := LOW.trans (hb321.mono LOW.size)
      clear hb321
      rw [hw320]
      clear hw320
      refine hK.out _ _ (fun _ => PC) ?_
      clear hK K
      try simp only [Act.put, List.setIfInBounds_toArray, List.set_cons_zero, List.set_cons_succ]
      refine gate_ready (rs := [2]) (by kernel_rfl) (by simp) ?_
      refine AllGate.cons HO.out.2.2.1 (fun K hK => ?_) AllGate.nil
      go_simp
      refine (of_any (l := [[97]]) TA a_fit a_of).mono ?_
      rintro e w323 ⟨ta, tc, rfl, TO, hb324⟩
      replace PC := PC.later hb324
      replace R4 := R4.later hb324
      replace QH := QH.later hb324
      replace TA := TA.later hb324
      replace LOW := LOW.trans (hb324.mono LOW.size)
      clear hb324
      clear TA
      refine hK.out _ _ (fun _ => PC) ?_
      clear hK K
      try simp only [Act.put, List.setIfInBounds_toArray, List.set_cons_zero, List.set_cons_succ]
      refine gate_ready (rs := [6]) (by kernel_rfl) (by simp) ?_
      refine AllGate.cons HO.out.2.2.2.2.2.2.1 (fun K hK => ?_) AllGate.nil
      go_simp
      refine (ask_ok (x := Cl.new true) (k := 1) (n := 2) (m := 1) (hs := [⟨[97], 3⟩, ⟨[98], 4⟩]) (ask_first (by omega) (by omega) a_real a_rises a_fit (by omega) (by decide) rfl rfl rfl) TO (Tp.zero_at _) (hv_block QH rfl) rfl (by omega) (by decide)).mono ?_
      rintro e w325 ⟨t1a, t1c, a1, c1, a2, c2, a3, c3, rfl, TN, -, -, hb326⟩
      replace PC := PC.later hb326
      replace R4 := R4.later hb326
      replace QH := QH.later hb326
      replace TO := TO.later hb326
      replace LOW := LOW.trans (hb326.mono LOW.size)
      clear hb326
      clear TO QH
      refine hK.out _ _ (fun _ => PC) ?_
      clear hK K
      try simp only [Act.put, List.setIfInBounds_toArray, List.set_cons_zero, List.set_cons_succ]
      refine gate_take (i := 7) (v := ?v69) HO.out.2.2.2.2.2.2.2.1 (by decide) (by kernel_rfl) (by kernel_rfl) (by kernel_rfl) (fun _ _ _ h => h) (Or.inl ⟨by rfl, fun w1 _ => ?hy69⟩) (fun _ => PC) ?rest69
      case hy69 => (go_simp; try with_reducible rfl)
      try simp only [Act.put, List.setIfInBounds_toArray, List.set_cons_zero, List.set_cons_succ]
      refine gate_take (i := 8) (v := ?v70) HO.out.2.2.2.2.2.2.2.2.1 (by decide) (by kernel_rfl) (by kernel_rfl) (by kernel_rfl) (fun _ _ _ h => h) (Or.inl ⟨by rfl, fun w1 _ => ?hy70⟩) (fun _ => PC) ?rest70
      case hy70 => (go_simp; try with_reducible rfl)
      try simp only [Act.put, List.setIfInBounds_toArray, List.set_cons_zero, List.set_cons_succ]
      refine gate_take (i := 9) (v := ?v71) HO.out.2.2.2.2.2.2.2.2.2.1 (by decide) (by kernel_rfl) (by kernel_rfl) (by kernel_rfl) (fun _ _ _ h => h) (Or.inl ⟨by rfl, fun w1 _ => ?hy71⟩) (fun _ => PC) ?rest71
      case hy71 => (go_simp; try with_reducible rfl)
      try simp only [Act.put, List.setIfInBounds_toArray, List.set_cons_zero, List.set_cons_succ]
      refine gate_take (i := 10) (v := ?v72) HO.out.2.2.2.2.2.2.2.2.2.2.1 (by decide) (by kernel_rfl) (by kernel_rfl) (by kernel_rfl) (fun _ _ _ h => h) (Or.inl ⟨by rfl, fun w1 _ => ?hy72⟩) (fun _ => PC) ?rest72
      case hy72 => (go_simp; try with_reducible rfl)
      try simp only [Act.put, List.setIfInBounds_toArray, List.set_cons_zero, List.set_cons_succ]
      refine gate_ready (rs := [12]) (by kernel_rfl) (by simp) ?_
      refine AllGate.cons HO.out.2.2.2.2.2.2.2.2.2.2.2.2.1 (fun K hK => ?_) AllGate.nil
      rw [if_pos (by rfl)]
      refine wp_store_cl _ _ (Cl.new true) (exA t1a t1c) w1.heap.size rfl (by rfl) (by rfl) PC ?_
      intro w327 p328 j329
      have mv330 := j329.blk (Blk.ne R4 PC (by decide)) R4
      have mv331 := j329.ts PC (cl_no _ _) TN
      have mv332 := LOW.trans (j329.below LE6.out)
      replace R4 := mv330
      replace TN := mv331
      replace LOW := mv332
      replace PC := p328
      refine hK.out _ _ (ahead_off (by kernel_rfl)) ?_
      clear hK K
      simp only [Act.put]
      refine gate_ready (rs := [13]) (by kernel_rfl) (by simp) ?_
      refine AllGate.cons HO.out.2.2.2.2.2.2.2.2.2.2.2.2.2.1 (fun K hK => ?_) AllGate.nil
      rw [if_pos (by rfl)]
      refine wp_store_rq _ _ w24.heap.size rfl (by rfl) (by rfl) R4 rfl (by rfl) (by first | (simp [Value.oneCell']; done) | simp [rq, Value.oneCell']) ?_
      intro w333 p334 j335
      have mv336 := j335.blk (Blk.ne PC R4 (by decide)) PC
      have mv337 := j335.ts R4 (rq0_no ne97) TN
      have mv338 := LOW.trans (j335.below LE294.out)
      replace PC := mv336
      replace TN := mv337
      replace LOW := mv338
      replace R4 := p334
      refine hK.out _ _ (ahead_off (by kernel_rfl)) ?_
      clear hK K
      simp only [Act.put]
      refine gate_take (i := 14) (v := ?v73) HO.out.2.2.2.2.2.2.2.2.2.2.2.2.2.2 (by decide) (by kernel_rfl) (by kernel_rfl) (by kernel_rfl) (fun _ _ _ h => h) (Or.inl ⟨by rfl, fun w1 _ => ?hy73⟩) (ahead_off (by kernel_rfl)) ?rest73
      case hy73 => (go_simp; try with_reducible rfl)
      try simp only [Act.put, List.setIfInBounds_toArray, List.set_cons_zero, List.set_cons_succ]
      refine gate_done (by kernel_rfl) ?_ _
      go_wp2_with fail
      go_meet
      exact ⟨_, rfl, t1a, t1c, w24.heap.size, a1, c1, a2, c2, a3, c3, rfl, rfl, PC, R4, TN, LOW⟩
    refine AllGate.cons HO.out.2.2.2.2.2.1 (fun K hK => ?_) AllGate.nil
    go_simp
    have LE342 := Lib.hid LOW.size
    obtain ⟨w339, hw340, hb341, QH⟩ := alloc_new w291 #[.string ⟨#[97]⟩, .int .u64 3, .string ⟨#[98]⟩, .int .u64 4] 65
    replace PC := PC.later hb341
    replace R4 := R4.later hb341
    replace LOW := LOW.trans (hb341.mono LOW.size)
    clear hb341
    rw [hw340]
    clear hw340
    refine hK.out _ _ (fun _ => PC) ?_
    clear hK K
    try simp only [Act.put, List.setIfInBounds_toArray, List.set_cons_zero, List.set_cons_succ]
    refine gate_ready (rs := [1]) (by kernel_rfl) (by simp) ?_
    refine AllGate.cons HO.out.2.1 (fun K hK => ?_) AllGate.nil
    go_simp
    have LE346 := Lib.hid LOW.size
    obtain ⟨w343, hw344, hb345, QA⟩ := alloc_new w339 #[.string ⟨#[97]⟩] 9
    replace PC := PC.later hb345
    replace R4 := R4.later hb345
    replace QH := QH.later hb345
    replace LOW := LOW.trans (hb345.mono LOW.size)
    clear hb345
    have TA : TsAt w343 _ [[97]] := ts_block (l := [[97]]) QA (by decide) rfl
    rw [hw344]
    clear hw344 QA
    refine hK.out _ _ (fun _ => PC) ?_
    clear hK K
    try simp only [Act.put, List.setIfInBounds_toArray, List.set_cons_zero, List.set_cons_succ]
    refine gate_ready (rs := [2]) (by kernel_rfl) (by simp) ?_
    refine AllGate.cons HO.out.2.2.1 (fun K hK => ?_) AllGate.nil
    go_simp
    refine (of_any (l := [[97]]) TA a_fit a_of).mono ?_
    rintro e w347 ⟨ta, tc, rfl, TO, hb348⟩
    replace PC := PC.later hb348
    replace R4 := R4.later hb348
    replace QH := QH.later hb348
    replace TA := TA.later hb348
    replace LOW := LOW.trans (hb348.mono LOW.size)
    clear hb348
    clear TA
    refine hK.out _ _ (fun _ => PC) ?_
    clear hK K
    try simp only [Act.put, List.setIfInBounds_toArray, List.set_cons_zero, List.set_cons_succ]
    refine gate_ready (rs := [6]) (by kernel_rfl) (by simp) ?_
    refine AllGate.cons HO.out.2.2.2.2.2.2.1 (fun K hK => ?_) AllGate.nil
    go_simp
    refine (ask_ok (x := Cl.new true) (k := 1) (n := 2) (m := 1) (hs := [⟨[97], 3⟩, ⟨[98], 4⟩]) (ask_first (by omega) (by omega) a_real a_rises a_fit (by omega) (by decide) rfl rfl rfl) TO (Tp.zero_at _) (hv_block QH rfl) rfl (by omega) (by decide)).mono ?_
    rintro e w349 ⟨t1a, t1c, a1, c1, a2, c2, a3, c3, rfl, TN, -, -, hb350⟩
    replace PC := PC.later hb350
    replace R4 := R4.later hb350
    replace QH := QH.later hb350
    replace TO := TO.later hb350
    replace LOW := LOW.trans (hb350.mono LOW.size)
    clear hb350
    clear TO QH
    refine hK.out _ _ (fun _ => PC) ?_
    clear hK K
    try simp only [Act.put, List.setIfInBounds_toArray, List.set_cons_zero, List.set_cons_succ]
    refine gate_take (i := 7) (v := ?v74) HO.out.2.2.2.2.2.2.2.1 (by decide) (by kernel_rfl) (by kernel_rfl) (by kernel_rfl) (fun _ _ _ h => h) (Or.inl ⟨by rfl, fun w1 _ => ?hy74⟩) (fun _ => PC) ?rest74
    case hy74 => (go_simp; try with_reducible rfl)
    try simp only [Act.put, List.setIfInBounds_toArray, List.set_cons_zero, List.set_cons_succ]
    refine gate_take (i := 8) (v := ?v75) HO.out.2.2.2.2.2.2.2.2.1 (by decide) (by kernel_rfl) (by kernel_rfl) (by kernel_rfl) (fun _ _ _ h => h) (Or.inl ⟨by rfl, fun w1 _ => ?hy75⟩) (fun _ => PC) ?rest75
    case hy75 => (go_simp; try with_reducible rfl)
    try simp only [Act.put, List.setIfInBounds_toArray, List.set_cons_zero, List.set_cons_succ]
    refine gate_take (i := 9) (v := ?v76) HO.out.2.2.2.2.2.2.2.2.2.1 (by decide) (by kernel_rfl) (by kernel_rfl) (by kernel_rfl) (fun _ _ _ h => h) (Or.inl ⟨by rfl, fun w1 _ => ?hy76⟩) (fun _ => PC) ?rest76
    case hy76 => (go_simp; try with_reducible rfl)
    try simp only [Act.put, List.setIfInBounds_toArray, List.set_cons_zero, List.set_cons_succ]
    refine gate_take (i := 10) (v := ?v77) HO.out.2.2.2.2.2.2.2.2.2.2.1 (by decide) (by kernel_rfl) (by kernel_rfl) (by kernel_rfl) (fun _ _ _ h => h) (Or.inl ⟨by rfl, fun w1 _ => ?hy77⟩) (fun _ => PC) ?rest77
    case hy77 => (go_simp; try with_reducible rfl)
    try simp only [Act.put, List.setIfInBounds_toArray, List.set_cons_zero, List.set_cons_succ]
    refine gate_ready (rs := [12]) (by kernel_rfl) (by simp) ?_
    refine AllGate.cons HO.out.2.2.2.2.2.2.2.2.2.2.2.2.1 (fun K hK => ?_) AllGate.nil
    rw [if_pos (by rfl)]
    refine wp_store_cl _ _ (Cl.new true) (exA t1a t1c) w1.heap.size rfl (by rfl) (by rfl) PC ?_
    intro w351 p352 j353
    have mv354 := j353.blk (Blk.ne R4 PC (by decide)) R4
    have mv355 := j353.ts PC (cl_no _ _) TN
    have mv356 := LOW.trans (j353.below LE6.out)
    replace R4 := mv354
    replace TN := mv355
    replace LOW := mv356
    replace PC := p352
    refine hK.out _ _ (ahead_off (by kernel_rfl)) ?_
    clear hK K
    simp only [Act.put]
    refine gate_ready (rs := [13]) (by kernel_rfl) (by simp) ?_
    refine AllGate.cons HO.out.2.2.2.2.2.2.2.2.2.2.2.2.2.1 (fun K hK => ?_) AllGate.nil
    rw [if_pos (by rfl)]
    refine wp_store_rq _ _ w24.heap.size rfl (by rfl) (by rfl) R4 rfl (by rfl) (by first | (simp [Value.oneCell']; done) | simp [rq, Value.oneCell']) ?_
    intro w357 p358 j359
    have mv360 := j359.blk (Blk.ne PC R4 (by decide)) PC
    have mv361 := j359.ts R4 (rq0_no ne97) TN
    have mv362 := LOW.trans (j359.below LE294.out)
    replace PC := mv360
    replace TN := mv361
    replace LOW := mv362
    replace R4 := p358
    refine hK.out _ _ (ahead_off (by kernel_rfl)) ?_
    clear hK K
    simp only [Act.put]
    refine gate_take (i := 14) (v := ?v78) HO.out.2.2.2.2.2.2.2.2.2.2.2.2.2.2 (by decide) (by kernel_rfl) (by kernel_rfl) (by kernel_rfl) (fun _ _ _ h => h) (Or.inl ⟨by rfl, fun w1 _ => ?hy78⟩) (ahead_off (by kernel_rfl)) ?rest78
    case hy78 => (go_simp; try with_reducible rfl)
    try simp only [Act.put, List.setIfInBounds_toArray, List.set_cons_zero, List.set_cons_succ]
    refine gate_done (by kernel_rfl) ?_ _
    go_wp2_with fail
    go_meet
    exact ⟨_, rfl, t1a, t1c, w24.heap.size, a1, c1, a2, c2, a3, c3, rfl, rfl, PC, R4, TN, LOW⟩
  case rest =>
  clear PC LOW
  obtain ⟨wz363, hwz, hcut⟩ := hcut
  subst hwz
  obtain ⟨ta, tc, R4a, a1, c1, a2, c2, a3, c3, rfl, rfl, PC, R4, TN, LOW⟩ := hcut
  go_wp2_with fail
  go_cut [8] (fun s8 wx => ∃ z, z = wx ∧ (s8 = .int .i64 5 ∧ Blk wx w1.heap.size (exA ta tc).arr CT ∧ Blk wx R4a (rq 1 true 0 (.slice a1 1 c1) (.slice a2 0 c2) (.slice a3 1 c3) ⟨#[]⟩) RT ∧ TsAt wx (.slice ta 1 tc) [[97]] ∧ Below w.heap.size w wx))
  case first =>
    have HO := Lib.hid (show (fun (A : Array Oper) => A[0]? = some { dst := some 32, op := Op.load 72 (Operand.tmp 1), type := 72, pos := "law.go:165", after := #[], guard := none } ∧ A[1]? = some { dst := some 33, op := Op.buildSlice 24 1 #[(0, Operand.const (Value.string { data := #[97] }))], type := 24, pos := "law.go:165", after := #[], guard := none } ∧ A[2]? = some { dst := some 34, op := Op.call { callee := Callee.value (Operand.func 12), args := #[Operand.tmp 33], argTypes := #[24] }, type := 26, pos := "law.go:165", after := #[{ on := 1, ground := Ground.data }], guard := none } ∧ A[3]? = some { dst := some 35, op := Op.call { callee := Callee.value (Operand.func 25), args := #[Operand.tmp 32, Operand.const (Value.int IntKind.i64 1), Operand.tmp 34, Operand.const (Value.slice none 0 0)], argTypes := #[72, 3, 26, 32] }, type := 74, pos := "law.go:165", after := #[{ on := 0, ground := Ground.data }, { on := 2, ground := Ground.data }, { on := 2, ground := Ground.chain }], guard := none } ∧ A[4]? = some { dst := some 31, op := Op.move (Operand.tmp 35), type := 74, pos := "law.go:165", after := #[{ on := 3, ground := Ground.data }], guard := none } ∧ A[5]? = some { dst := some 36, op := Op.extract (Operand.tmp 31) 0, type := 72, pos := "law.go:165", after := #[{ on := 4, ground := Ground.data }], guard := none } ∧ A[6]? = some { dst := some 37, op := Op.extract (Operand.tmp 31) 1, type := 45, pos := "law.go:165", after := #[{ on := 4, ground := Ground.data }, { on := 10, ground := Ground.gcOnly Departure.lateStores }], guard := none } ∧ A[7]? = some { dst := some 38, op := Op.extract (Operand.tmp 31) 2, type := 40, pos := "law.go:165", after := #[{ on := 4, ground := Ground.data }, { on := 11, ground := Ground.gcOnly Departure.lateStores }], guard := none } ∧ A[8]? = some { dst := some 6, op := Op.alloc 72, type := 0, pos := "law.go:165", after := #[], guard := none } ∧ A[9]? = some { dst := some 7, op := Op.alloc 45, type := 0, pos := "law.go:165", after := #[], guard := none } ∧ A[10]? = some { dst := none, op := Op.store 72 (Operand.tmp 6) (Operand.tmp 36), type := 0, pos := "law.go:165", after := #[{ on := 8, ground := Ground.data }, { on := 5, ground := Ground.data }, { on := 3, ground := Ground.chain }, { on := 0, ground := Ground.phase }, { on := 1, ground := Ground.phase }, { on := 2, ground := Ground.phase }, { on := 3, ground := Ground.phase }, { on := 4, ground := Ground.phase }, { on := 5, ground := Ground.phase }, { on := 6, ground := Ground.textOnly Departure.lateStores }, { on := 7, ground := Ground.textOnly Departure.lateStores }, { on := 8, ground := Ground.phase }, { on := 9, ground := Ground.phase }], guard := none } ∧ A[11]? = some { dst := none, op := Op.store 45 (Operand.tmp 7) (Operand.tmp 37), type := 0, pos := "law.go:165", after := #[{ on := 9, ground := Ground.data }, { on := 6, ground := Ground.data }, { on := 10, ground := Ground.chain }, { on := 0, ground := Ground.phase }, { on := 1, ground := Ground.phase }, { on := 2, ground := Ground.phase }, { on := 3, ground := Ground.phase }, { on := 4, ground := Ground.phase }, { on := 5, ground := Ground.phase }, { on := 6, ground := Ground.phase }, { on := 7, ground := Ground.textOnly Departure.lateStores }, { on := 8, ground := Ground.phase }, { on := 9, ground := Ground.phase }, { on := 10, ground := Ground.phase }], guard := none } ∧ A[12]? = some { dst := some 8, op := Op.assign (Operand.tmp 38), type := 40, pos := "law.go:165", after := #[{ on := 7, ground := Ground.data }, { on := 11, ground := Ground.chain }, { on := 0, ground := Ground.phase }, { on := 1, ground := Ground.phase }, { on := 2, ground := Ground.phase }, { on := 3, ground := Ground.phase }, { on := 4, ground := Ground.phase }, { on := 5, ground := Ground.phase }, { on := 6, ground := Ground.phase }, { on := 7, ground := Ground.phase }, { on := 8, ground := Ground.phase }, { on := 9, ground := Ground.phase }, { on := 10, ground := Ground.phase }, { on := 11, ground := Ground.phase }], guard := none }) #[{ dst := some 32, op := Op.load 72 (Operand.tmp 1), type := 72, pos := "law.go:165", after := #[], guard := none }, { dst := some 33, op := Op.buildSlice 24 1 #[(0, Operand.const (Value.string { data := #[97] }))], type := 24, pos := "law.go:165", after := #[], guard := none }, { dst := some 34, op := Op.call { callee := Callee.value (Operand.func 12), args := #[Operand.tmp 33], argTypes := #[24] }, type := 26, pos := "law.go:165", after := #[{ on := 1, ground := Ground.data }], guard := none }, { dst := some 35, op := Op.call { callee := Callee.value (Operand.func 25), args := #[Operand.tmp 32, Operand.const (Value.int IntKind.i64 1), Operand.tmp 34, Operand.const (Value.slice none 0 0)], argTypes := #[72, 3, 26, 32] }, type := 74, pos := "law.go:165", after := #[{ on := 0, ground := Ground.data }, { on := 2, ground := Ground.data }, { on := 2, ground := Ground.chain }], guard := none }, { dst := some 31, op := Op.move (Operand.tmp 35), type := 74, pos := "law.go:165", after := #[{ on := 3, ground := Ground.data }], guard := none }, { dst := some 36, op := Op.extract (Operand.tmp 31) 0, type := 72, pos := "law.go:165", after := #[{ on := 4, ground := Ground.data }], guard := none }, { dst := some 37, op := Op.extract (Operand.tmp 31) 1, type := 45, pos := "law.go:165", after := #[{ on := 4, ground := Ground.data }, { on := 10, ground := Ground.gcOnly Departure.lateStores }], guard := none }, { dst := some 38, op := Op.extract (Operand.tmp 31) 2, type := 40, pos := "law.go:165", after := #[{ on := 4, ground := Ground.data }, { on := 11, ground := Ground.gcOnly Departure.lateStores }], guard := none }, { dst := some 6, op := Op.alloc 72, type := 0, pos := "law.go:165", after := #[], guard := none }, { dst := some 7, op := Op.alloc 45, type := 0, pos := "law.go:165", after := #[], guard := none }, { dst := none, op := Op.store 72 (Operand.tmp 6) (Operand.tmp 36), type := 0, pos := "law.go:165", after := #[{ on := 8, ground := Ground.data }, { on := 5, ground := Ground.data }, { on := 3, ground := Ground.chain }, { on := 0, ground := Ground.phase }, { on := 1, ground := Ground.phase }, { on := 2, ground := Ground.phase }, { on := 3, ground := Ground.phase }, { on := 4, ground := Ground.phase }, { on := 5, ground := Ground.phase }, { on := 6, ground := Ground.textOnly Departure.lateStores }, { on := 7, ground := Ground.textOnly Departure.lateStores }, { on := 8, ground := Ground.phase }, { on := 9, ground := Ground.phase }], guard := none }, { dst := none, op := Op.store 45 (Operand.tmp 7) (Operand.tmp 37), type := 0, pos := "law.go:165", after := #[{ on := 9, ground := Ground.data }, { on := 6, ground := Ground.data }, { on := 10, ground := Ground.chain }, { on := 0, ground := Ground.phase }, { on := 1, ground := Ground.phase }, { on := 2, ground := Ground.phase }, { on := 3, ground := Ground.phase }, { on := 4, ground := Ground.phase }, { on := 5, ground := Ground.phase }, { on := 6, ground := Ground.phase }, { on := 7, ground := Ground.textOnly Departure.lateStores }, { on := 8, ground := Ground.phase }, { on := 9, ground := Ground.phase }, { on := 10, ground := Ground.phase }], guard := none }, { dst := some 8, op := Op.assign (Operand.tmp 38), type := 40, pos := "law.go:165", after := #[{ on := 7, ground := Ground.data }, { on := 11, ground := Ground.chain }, { on := 0, ground := Ground.phase }, { on := 1, ground := Ground.phase }, { on := 2, ground := Ground.phase }, { on := 3, ground := Ground.phase }, { on := 4, ground := Ground.phase }, { on := 5, ground := Ground.phase }, { on := 6, ground := Ground.phase }, { on := 7, ground := Ground.phase }, { on := 8, ground := Ground.phase }, { on := 9, ground := Ground.phase }, { on := 10, ground := Ground.phase }, { on := 11, ground := Ground.phase }], guard := none }] from ⟨by kernel_rfl, by kernel_rfl, by kernel_rfl, by kernel_rfl, by kernel_rfl, by kernel_rfl, by kernel_rfl, by kernel_rfl, by kernel_rfl, by kernel_rfl, by kernel_rfl, by kernel_rfl, by kernel_rfl⟩)
    obtain ⟨w364, hw365, hb366⟩ := drew_new wz363
    replace PC := PC.later hb366
    replace R4 := R4.later hb366
    replace TN := TN.later hb366
    replace LOW := LOW.trans (hb366.mono LOW.size)
    refine wp_region_held_drew (S := (fun w' => Blk w' w1.heap.size (exA ta tc).arr CT ∧ True)) (by kernel_rfl) (by rw [hw365]; exact ⟨PC, trivial⟩) (fun hHeld => ?_)
    rw [hw365] at hHeld ⊢
    clear hw365 hb366
    refine wpAnyH_take (i := 0) (v := .agg (exA ta tc).arr) HO.out.1 (by kernel_rfl) (by kernel_rfl) (by kernel_rfl) (fun _ _ _ h => h) (Or.inl ⟨by rfl, ?hy5001⟩) (by assumption) ?rest5001
    case hy5001 => (intro w1 hSw; (try dsimp only at hSw); obtain ⟨h0, -⟩ := hSw; (apply exec_load_cl; (· rfl); (· rfl); exact h0))
    try simp only [Act.put, List.setIfInBounds_toArray, List.set_cons_zero, List.set_cons_succ]
    refine wpAnyH_ready (rs := [1, 8, 9]) (by kernel_rfl) (by simp) ?_
    refine AllReadyH.cons HO.out.2.1 (fun K hK => ?_) ?_
    · go_simp
      have LE370 := Lib.hid LOW.size
      obtain ⟨w367, hw368, hb369, QA⟩ := alloc_new w364 #[.string ⟨#[97]⟩] 9
      replace PC := PC.later hb369
      replace R4 := R4.later hb369
      replace TN := TN.later hb369
      replace LOW := LOW.trans (hb369.mono LOW.size)
      clear hb369
      have TA : TsAt w367 _ [[97]] := ts_block (l := [[97]]) QA (by decide) rfl
      rw [hw368]
      clear hw368 QA
      try clear hHeld
      refine hK.out _ _ (⟨PC, trivial⟩) (fun hHeld => ?_)
      clear hK K
      try simp only [Act.put, List.setIfInBounds_toArray, List.set_cons_zero, List.set_cons_succ]
      refine wpAnyH_ready (rs := [2, 8, 9]) (by kernel_rfl) (by simp) ?_
      refine AllReadyH.cons HO.out.2.2.1 (fun K hK => ?_) ?_
      · go_simp
        refine (of_any (l := [[97]]) TA a_fit a_of).mono ?_
        rintro e w371 ⟨tb, tbc, rfl, TO, hb372⟩
        replace PC := PC.later hb372
        replace R4 := R4.later hb372
        replace TN := TN.later hb372
        replace TA := TA.later hb372
        replace LOW := LOW.trans (hb372.mono LOW.size)
        clear hb372
        clear TA
        try clear hHeld
        refine hK.out _ _ (⟨PC, trivial⟩) (fun hHeld => ?_)
        clear hK K
        try simp only [Act.put, List.setIfInBounds_toArray, List.set_cons_zero, List.set_cons_succ]
        refine wpAnyH_ready (rs := [3, 8, 9]) (by kernel_rfl) (by simp) ?_
        refine AllReadyH.cons HO.out.2.2.2.1 (fun K hK => ?_) ?_
        · go_simp
          obtain ⟨V, hi⟩ := ask_again (x := exA ta tc) (k := 1) (n := 0) (by omega) (by omega) a_real a_rises a_fit (by omega) (by decide) rfl rfl rfl rfl rfl
          refine (ask_err hi TO TN (by rfl) (HG.out.2.later LOW)).mono ?_
          rintro e w373 ⟨rfl, hb374⟩
          replace PC := PC.later hb374
          replace R4 := R4.later hb374
          replace TN := TN.later hb374
          replace TO := TO.later hb374
          replace LOW := LOW.trans (hb374.mono LOW.size)
          clear hb374
          clear TO hi
          try clear hHeld
          refine hK.out _ _ (⟨PC, trivial⟩) (fun hHeld => ?_)
          clear hK K
          try simp only [Act.put, List.setIfInBounds_toArray, List.set_cons_zero, List.set_cons_succ]
          refine wpAnyH_take (i := 4) (v := ?v5002) HO.out.2.2.2.2.1 (by kernel_rfl) (by kernel_rfl) (by kernel_rfl) (fun _ _ _ h => h) (Or.inl ⟨by rfl, ?hy5002⟩) (by assumption) ?rest5002
          case hy5002 => (intro w1 hSw; (try dsimp only at hSw); obtain ⟨h0, -⟩ := hSw; go_simp; try with_reducible rfl)
          try simp only [Act.put, List.setIfInBounds_toArray, List.set_cons_zero, List.set_cons_succ]
          refine wpAnyH_take (i := 5) (v := ?v5003) HO.out.2.2.2.2.2.1 (by kernel_rfl) (by kernel_rfl) (by kernel_rfl) (fun _ _ _ h => h) (Or.inl ⟨by rfl, ?hy5003⟩) (by assumption) ?rest5003
          case hy5003 => (intro w1 hSw; (try dsimp only at hSw); obtain ⟨h0, -⟩ := hSw; go_simp; try with_reducible rfl)
          try simp only [Act.put, List.setIfInBounds_toArray, List.set_cons_zero, List.set_cons_succ]
          refine wpAnyH_take (i := 6) (v := ?v5004) HO.out.2.2.2.2.2.2.1 (by kernel_rfl) (by kernel_rfl) (by kernel_rfl) (fun _ _ _ h => h) (Or.inl ⟨by rfl, ?hy5004⟩) (by assumption) ?rest5004
          case hy5004 => (intro w1 hSw; (try dsimp only at hSw); obtain ⟨h0, -⟩ := hSw; go_simp; try with_reducible rfl)
          try simp only [Act.put, List.setIfInBounds_toArray, List.set_cons_zero, List.set_cons_succ]
          refine wpAnyH_take (i := 7) (v := ?v5005) HO.out.2.2.2.2.2.2.2.1 (by kernel_rfl) (by kernel_rfl) (by kernel_rfl) (fun _ _ _ h => h) (Or.inl ⟨by rfl, ?hy5005⟩) (by assumption) ?rest5005
          case hy5005 => (intro w1 hSw; (try dsimp only at hSw); obtain ⟨h0, -⟩ := hSw; go_simp; try with_reducible rfl)
          try simp only [Act.put, List.setIfInBounds_toArray, List.set_cons_zero, List.set_cons_succ]
          refine wpAnyH_ready (rs := [8, 9]) (by kernel_rfl) (by simp) ?_
          refine AllReadyH.cons HO.out.2.2.2.2.2.2.2.2.1 (fun K hK => ?_) ?_
          · go_simp
            have NE378 := Lib.hid (Nat.ne_of_lt PC.lt)
            have LE379 := Lib.hid LOW.size
            obtain ⟨w375, hw376, hb377, C6⟩ := alloc_new w373 Cl.zero.arr CT
            replace hw376 : w373.alloc (.cells #[.bool false, .bool false, .slice none 0 0, .bool false, .int .u64 0, .bool false, .slice none 0 0, .bool false, .int .u64 0, .bool false, .slice none 0 0, .bool false, .int .u64 0, .bool false, .slice none 0 0, .bool false, .int .u64 0, .bool false, .slice none 0 0, .bool false, .int .u64 0, .bool false, .slice none 0 0, .bool false, .int .u64 0] CT) = w375 := hw376
            replace PC := PC.later hb377
            replace R4 := R4.later hb377
            replace TN := TN.later hb377
            replace LOW := LOW.trans (hb377.mono LOW.size)
            clear hb377
            rw [hw376]
            clear hw376
            try clear hHeld
            refine hK.out _ _ (⟨PC, trivial⟩) (fun hHeld => ?_)
            clear hK K
            try simp only [Act.put, List.setIfInBounds_toArray, List.set_cons_zero, List.set_cons_succ]
            refine wpAnyH_ready (rs := [9]) (by kernel_rfl) (by simp) ?_
            refine AllReadyH.cons HO.out.2.2.2.2.2.2.2.2.2.1 (fun K hK => ?_) AllReadyH.nil
            go_simp
            have NE383 := Lib.hid (Nat.ne_of_lt R4.lt)
            have LE384 := Lib.hid LOW.size
            obtain ⟨w380, hw381, hb382, R7⟩ := alloc_new w375 rq0 RT
            replace PC := PC.later hb382
            replace R4 := R4.later hb382
            replace C6 := C6.later hb382
            replace TN := TN.later hb382
            replace LOW := LOW.trans (hb382.mono LOW.size)
            clear hb382
            rw [hw381]
            clear hw381
            try clear hHeld
            refine hK.out _ _ (⟨PC, trivial⟩) (fun hHeld => ?_)
            clear hK K
            try simp only [Act.put, List.setIfInBounds_toArray, List.set_cons_zero, List.set_cons_succ]
            refine wpAnyH_ready (rs := [10]) (by kernel_rfl) (by simp) ?_
            refine AllReadyH.cons HO.out.2.2.2.2.2.2.2.2.2.2.1 (fun K hK => ?_) AllReadyH.nil
            rw [if_pos (by rfl)]
            refine wp_store_cl _ _ Cl.zero (exA ta tc) w373.heap.size rfl (by rfl) (by rfl) C6 ?_
            intro w385 p386 j387
            have mv388 := j387.blk NE378.out PC
            have mv389 := j387.blk (Blk.ne R4 C6 (by decide)) R4
            have mv390 := j387.blk (Blk.ne R7 C6 (by decide)) R7
            have mv391 := j387.ts C6 (cl_no _ _) TN
            have mv392 := LOW.trans (j387.below LE379.out)
            replace PC := mv388
            replace R4 := mv389
            replace R7 := mv390
            replace TN := mv391
            replace LOW := mv392
            replace C6 := p386
            try clear hHeld
            refine hK.out _ _ (⟨PC, trivial⟩) (fun hHeld => ?_)
            clear hK K
            simp only [Act.put]
            refine wpAnyH_ready (rs := [11]) (by kernel_rfl) (by simp) ?_
            refine AllReadyH.cons HO.out.2.2.2.2.2.2.2.2.2.2.2.1 (fun K hK => ?_) AllReadyH.nil
            rw [if_pos (by rfl)]
            refine wp_store_rq _ _ w375.heap.size rfl (by rfl) (by rfl) R7 rfl (by rfl) (by first | (simp [Value.oneCell']; done) | simp [rq, Value.oneCell']) ?_
            intro w393 p394 j395
            have mv396 := j395.blk (Blk.ne PC R7 (by decide)) PC
            have mv397 := j395.blk NE383.out R4
            have mv398 := j395.blk (Blk.ne C6 R7 (by decide)) C6
            have mv399 := j395.ts R7 (rq0_no ne97) TN
            have mv400 := LOW.trans (j395.below LE384.out)
            replace PC := mv396
            replace R4 := mv397
            replace C6 := mv398
            replace TN := mv399
            replace LOW := mv400
            replace R7 := p394
            try clear hHeld
            refine hK.out _ _ (⟨PC, trivial⟩) (fun hHeld => ?_)
            clear hK K
            simp only [Act.put]
            refine wpAnyH_take (i := 12) (v := ?v5006) HO.out.2.2.2.2.2.2.2.2.2.2.2.2 (by kernel_rfl) (by kernel_rfl) (by kernel_rfl) (fun _ _ _ h => h) (Or.inl ⟨by rfl, ?hy5006⟩) (by assumption) ?rest5006
            case hy5006 => (intro w1 hSw; (try dsimp only at hSw); obtain ⟨h0, -⟩ := hSw; go_simp; try with_reducible rfl)
            try simp only [Act.put, List.setIfInBounds_toArray, List.set_cons_zero, List.set_cons_succ]
            refine wpAnyH_done (by kernel_rfl) ?_ _
            go_wp2_with fail
            go_meet
            exact ⟨_, rfl, rfl, PC, R4, TN, LOW⟩
          refine AllReadyH.cons HO.out.2.2.2.2.2.2.2.2.2.1 (fun K hK => ?_) AllReadyH.nil
          go_simp
          have NE404 := Lib.hid (Nat.ne_of_lt R4.lt)
          have LE405 := Lib.hid LOW.size
          obtain ⟨w401, hw402, hb403, R7⟩ := alloc_new w373 rq0 RT
          replace PC := PC.later hb403
          replace R4 := R4.later hb403
          replace TN := TN.later hb403
          replace LOW := LOW.trans (hb403.mono LOW.size)
          clear hb403
          rw [hw402]
          clear hw402
          try clear hHeld
          refine hK.out _ _ (⟨PC, trivial⟩) (fun hHeld => ?_)
          clear hK K
          try simp only [Act.put, List.setIfInBounds_toArray, List.set_cons_zero, List.set_cons_succ]
          refine wpAnyH_ready (rs := [8]) (by kernel_rfl) (by simp) ?_
          refine AllReadyH.cons HO.out.2.2.2.2.2.2.2.2.1 (fun K hK => ?_) AllReadyH.nil
          go_simp
          have NE409 := Lib.hid (Nat.ne_of_lt PC.lt)
          have LE410 := Lib.hid LOW.size
          obtain ⟨w406, hw407, hb408, C6⟩ := alloc_new w401 Cl.zero.arr CT
          replace hw407 : w401.alloc (.cells #[.bool false, .bool false, .slice none 0 0, .bool false, .int .u64 0, .bool false, .slice none 0 0, .bool false, .int .u64 0, .bool false, .slice none 0 0, .bool false, .int .u64 0, .bool false, .slice none 0 0, .bool false, .int .u64 0, .bool false, .slice none 0 0, .bool false, .int .u64 0, .bool false, .slice none 0 0, .bool false, .int .u64 0] CT) = w406 := hw407
          replace PC := PC.later hb408
          replace R4 := R4.later hb408
          replace R7 := R7.later hb408
          replace TN := TN.later hb408
          replace LOW := LOW.trans (hb408.mono LOW.size)
          clear hb408
          rw [hw407]
          clear hw407
          try clear hHeld
          refine hK.out _ _ (⟨PC, trivial⟩) (fun hHeld => ?_)
          clear hK K
          try simp only [Act.put, List.setIfInBounds_toArray, List.set_cons_zero, List.set_cons_succ]
          refine wpAnyH_ready (rs := [10]) (by kernel_rfl) (by simp) ?_
          refine AllReadyH.cons HO.out.2.2.2.2.2.2.2.2.2.2.1 (fun K hK => ?_) AllReadyH.nil
          rw [if_pos (by rfl)]
          refine wp_store_cl _ _ Cl.zero (exA ta tc) w401.heap.size rfl (by rfl) (by rfl) C6 ?_
          intro w411 p412 j413
          have mv414 := j413.blk NE409.out PC
          have mv415 := j413.blk (Blk.ne R4 C6 (by decide)) R4
          have mv416 := j413.blk (Blk.ne R7 C6 (by decide)) R7
          have mv417 := j413.ts C6 (cl_no _ _) TN
          have mv418 := LOW.trans (j413.below LE410.out)
          replace PC := mv414
          replace R4 := mv415
          replace R7 := mv416
          replace TN := mv417
          replace LOW := mv418
          replace C6 := p412
          try clear hHeld
          refine hK.out _ _ (⟨PC, trivial⟩) (fun hHeld => ?_)
          clear hK K
          simp only [Act.put]
          refine wpAnyH_ready (rs := [11]) (by kernel_rfl) (by simp) ?_
          refine AllReadyH.cons HO.out.2.2.2.2.2.2.2.2.2.2.2.1 (fun K hK => ?_) AllReadyH.nil
          rw [if_pos (by rfl)]
          refine wp_store_rq _ _ w373.heap.size rfl (by rfl) (by rfl) R7 rfl (by rfl) (by first | (simp [Value.oneCell']; done) | simp [rq, Value.oneCell']) ?_
          intro w419 p420 j421
          have mv422 := j421.blk (Blk.ne PC R7 (by decide)) PC
          have mv423 := j421.blk NE404.out R4
          have mv424 := j421.blk (Blk.ne C6 R7 (by decide)) C6
          have mv425 := j421.ts R7 (rq0_no ne97) TN
          have mv426 := LOW.trans (j421.below LE405.out)
          replace PC := mv422
          replace R4 := mv423
          replace C6 := mv424
          replace TN := mv425
          replace LOW := mv426
          replace R7 := p420
          try clear hHeld
          refine hK.out _ _ (⟨PC, trivial⟩) (fun hHeld => ?_)
          clear hK K
          simp only [Act.put]
          refine wpAnyH_take (i := 12) (v := ?v5007) HO.out.2.2.2.2.2.2.2.2.2.2.2.2 (by kernel_rfl) (by kernel_rfl) (by kernel_rfl) (fun _ _ _ h => h) (Or.inl ⟨by rfl, ?hy5007⟩) (by assumption) ?rest5007
          case hy5007 => (intro w1 hSw; (try dsimp only at hSw); obtain ⟨h0, -⟩ := hSw; go_simp; try with_reducible rfl)
          try simp only [Act.put, List.setIfInBounds_toArray, List.set_cons_zero, List.set_cons_succ]
          refine wpAnyH_done (by kernel_rfl) ?_ _
          go_wp2_with fail
          go_meet
          exact ⟨_, rfl, rfl, PC, R4, TN, LOW⟩
        refine AllReadyH.cons HO.out.2.2.2.2.2.2.2.2.1 (fun K hK => ?_) ?_
        · go_simp
          have NE430 := Lib.hid (Nat.ne_of_lt PC.lt)
          have LE431 := Lib.hid LOW.size
          obtain ⟨w427, hw428, hb429, C6⟩ := alloc_new w371 Cl.zero.arr CT
          replace hw428 : w371.alloc (.cells #[.bool false, .bool false, .slice none 0 0, .bool false, .int .u64 0, .bool false, .slice none 0 0, .bool false, .int .u64 0, .bool false, .slice none 0 0, .bool false, .int .u64 0, .bool false, .slice none 0 0, .bool false, .int .u64 0, .bool false, .slice none 0 0, .bool false, .int .u64 0, .bool false, .slice none 0 0, .bool false, .int .u64 0] CT) = w427 := hw428
          replace PC := PC.later hb429
          replace R4 := R4.later hb429
          replace TN := TN.later hb429
          replace TO := TO.later hb429
          replace LOW := LOW.trans (hb429.mono LOW.size)
          clear hb429
          rw [hw428]
          clear hw428
          try clear hHeld
          refine hK.out _ _ (⟨PC, trivial⟩) (fun hHeld => ?_)
          clear hK K
          try simp only [Act.put, List.setIfInBounds_toArray, List.set_cons_zero, List.set_cons_succ]
          refine wpAnyH_ready (rs := [3, 9]) (by kernel_rfl) (by simp) ?_
          refine AllReadyH.cons HO.out.2.2.2.1 (fun K hK => ?_) ?_
          · go_simp
            obtain ⟨V, hi⟩ := ask_again (x := exA ta tc) (k := 1) (n := 0) (by omega) (by omega) a_real a_rises a_fit (by omega) (by decide) rfl rfl rfl rfl rfl
            refine (ask_err hi TO TN (by rfl) (HG.out.2.later LOW)).mono ?_
            rintro e w432 ⟨rfl, hb433⟩
            replace PC := PC.later hb433
            replace R4 := R4.later hb433
            replace C6 := C6.later hb433
            replace TN := TN.later hb433
            replace TO := TO.later hb433
            replace LOW := LOW.trans (hb433.mono LOW.size)
            clear hb433
            clear TO hi
            try clear hHeld
            refine hK.out _ _ (⟨PC, trivial⟩) (fun hHeld => ?_)
            clear hK K
            try simp only [Act.put, List.setIfInBounds_toArray, List.set_cons_zero, List.set_cons_succ]
            refine wpAnyH_take (i := 4) (v := ?v5008) HO.out.2.2.2.2.1 (by kernel_rfl) (by kernel_rfl) (by kernel_rfl) (fun _ _ _ h => h) (Or.inl ⟨by rfl, ?hy5008⟩) (by assumption) ?rest5008
            case hy5008 => (intro w1 hSw; (try dsimp only at hSw); obtain ⟨h0, -⟩ := hSw; go_simp; try with_reducible rfl)
            try simp only [Act.put, List.setIfInBounds_toArray, List.set_cons_zero, List.set_cons_succ]
            refine wpAnyH_take (i := 5) (v := ?v5009) HO.out.2.2.2.2.2.1 (by kernel_rfl) (by kernel_rfl) (by kernel_rfl) (fun _ _ _ h => h) (Or.inl ⟨by rfl, ?hy5009⟩) (by assumption) ?rest5009
            case hy5009 => (intro w1 hSw; (try dsimp only at hSw); obtain ⟨h0, -⟩ := hSw; go_simp; try with_reducible rfl)
            try simp only [Act.put, List.setIfInBounds_toArray, List.set_cons_zero, List.set_cons_succ]
            refine wpAnyH_take (i := 6) (v := ?v5010) HO.out.2.2.2.2.2.2.1 (by kernel_rfl) (by kernel_rfl) (by kernel_rfl) (fun _ _ _ h => h) (Or.inl ⟨by rfl, ?hy5010⟩) (by assumption) ?rest5010
            case hy5010 => (intro w1 hSw; (try dsimp only at hSw); obtain ⟨h0, -⟩ := hSw; go_simp; try with_reducible rfl)
            try simp only [Act.put, List.setIfInBounds_toArray, List.set_cons_zero, List.set_cons_succ]
            refine wpAnyH_take (i := 7) (v := ?v5011) HO.out.2.2.2.2.2.2.2.1 (by kernel_rfl) (by kernel_rfl) (by kernel_rfl) (fun _ _ _ h => h) (Or.inl ⟨by rfl, ?hy5011⟩) (by assumption) ?rest5011
            case hy5011 => (intro w1 hSw; (try dsimp only at hSw); obtain ⟨h0, -⟩ := hSw; go_simp; try with_reducible rfl)
            try simp only [Act.put, List.setIfInBounds_toArray, List.set_cons_zero, List.set_cons_succ]
            refine wpAnyH_ready (rs := [9]) (by kernel_rfl) (by simp) ?_
            refine AllReadyH.cons HO.out.2.2.2.2.2.2.2.2.2.1 (fun K hK => ?_) AllReadyH.nil
            go_simp
            have NE437 := Lib.hid (Nat.ne_of_lt R4.lt)
            have LE438 := Lib.hid LOW.size
            obtain ⟨w434, hw435, hb436, R7⟩ := alloc_new w432 rq0 RT
            replace PC := PC.later hb436
            replace R4 := R4.later hb436
            replace C6 := C6.later hb436
            replace TN := TN.later hb436
            replace LOW := LOW.trans (hb436.mono LOW.size)
            clear hb436
            rw [hw435]
            clear hw435
            try clear hHeld
            refine hK.out _ _ (⟨PC, trivial⟩) (fun hHeld => ?_)
            clear hK K
            try simp only [Act.put, List.setIfInBounds_toArray, List.set_cons_zero, List.set_cons_succ]
            refine wpAnyH_ready (rs := [10]) (by kernel_rfl) (by simp) ?_
            refine AllReadyH.cons HO.out.2.2.2.2.2.2.2.2.2.2.1 (fun K hK => ?_) AllReadyH.nil
            rw [if_pos (by rfl)]
            refine wp_store_cl _ _ Cl.zero (exA ta tc) w371.heap.size rfl (by rfl) (by rfl) C6 ?_
            intro w439 p440 j441
            have mv442 := j441.blk NE430.out PC
            have mv443 := j441.blk (Blk.ne R4 C6 (by decide)) R4
            have mv444 := j441.blk (Blk.ne R7 C6 (by decide)) R7
            have mv445 := j441.ts C6 (cl_no _ _) TN
            have mv446 := LOW.trans (j441.below LE431.out)
            replace PC := mv442
            replace R4 := mv443
            replace R7 := mv444
            replace TN := mv445
            replace LOW := mv446
            replace C6 := p440
            try clear hHeld
            refine hK.out _ _ (⟨PC, trivial⟩) (fun hHeld => ?_)
            clear hK K
            simp only [Act.put]
            refine wpAnyH_ready (rs := [11]) (by kernel_rfl) (by simp) ?_
            refine AllReadyH.cons HO.out.2.2.2.2.2.2.2.2.2.2.2.1 (fun K hK => ?_) AllReadyH.nil
            rw [if_pos (by rfl)]
            refine wp_store_rq _ _ w432.heap.size rfl (by rfl) (by rfl) R7 rfl (by rfl) (by first | (simp [Value.oneCell']; done) | simp [rq, Value.oneCell']) ?_
            intro w447 p448 j449
            have mv450 := j449.blk (Blk.ne PC R7 (by decide)) PC
            have mv451 := j449.blk NE437.out R4
            have mv452 := j449.blk (Blk.ne C6 R7 (by decide)) C6
            have mv453 := j449.ts R7 (rq0_no ne97) TN
            have mv454 := LOW.trans (j449.below LE438.out)
            replace PC := mv450
            replace R4 := mv451
            replace C6 := mv452
            replace TN := mv453
            replace LOW := mv454
            replace R7 := p448
            try clear hHeld
            refine hK.out _ _ (⟨PC, trivial⟩) (fun hHeld => ?_)
            clear hK K
            simp only [Act.put]
            refine wpAnyH_take (i := 12) (v := ?v5012) HO.out.2.2.2.2.2.2.2.2.2.2.2.2 (by kernel_rfl) (by kernel_rfl) (by kernel_rfl) (fun _ _ _ h => h) (Or.inl ⟨by rfl, ?hy5012⟩) (by assumption) ?rest5012
            case hy5012 => (intro w1 hSw; (try dsimp only at hSw); obtain ⟨h0, -⟩ := hSw; go_simp; try with_reducible rfl)
            try simp only [Act.put, List.setIfInBounds_toArray, List.set_cons_zero, List.set_cons_succ]
            refine wpAnyH_done (by kernel_rfl) ?_ _
            go_wp2_with fail
            go_meet
            exact ⟨_, rfl, rfl, PC, R4, TN, LOW⟩
          refine AllReadyH.cons HO.out.2.2.2.2.2.2.2.2.2.1 (fun K hK => ?_) AllReadyH.nil
          go_simp
          have NE458 := Lib.hid (Nat.ne_of_lt R4.lt)
          have LE459 := Lib.hid LOW.size
          obtain ⟨w455, hw456, hb457, R7⟩ := alloc_new w427 rq0 RT
          replace PC := PC.later hb457
          replace R4 := R4.later hb457
          replace C6 := C6.later hb457
          replace TN := TN.later hb457
          replace TO := TO.later hb457
          replace LOW := LOW.trans (hb457.mono LOW.size)
          clear hb457
          rw [hw456]
          clear hw456
          try clear hHeld
          refine hK.out _ _ (⟨PC, trivial⟩) (fun hHeld => ?_)
          clear hK K
          try simp only [Act.put, List.setIfInBounds_toArray, List.set_cons_zero, List.set_cons_succ]
          refine wpAnyH_ready (rs := [3]) (by kernel_rfl) (by simp) ?_
          refine AllReadyH.cons HO.out.2.2.2.1 (fun K hK => ?_) AllReadyH.nil
          go_simp
          obtain ⟨V, hi⟩ := ask_again (x := exA ta tc) (k := 1) (n := 0) (by omega) (by omega) a_real a_rises a_fit (by omega) (by decide) rfl rfl rfl rfl rfl
          refine (ask_err hi TO TN (by rfl) (HG.out.2.later LOW)).mono ?_
          rintro e w460 ⟨rfl, hb461⟩
          replace PC := PC.later hb461
          replace R4 := R4.later hb461
          replace C6 := C6.later hb461
          replace R7 := R7.later hb461
          replace TN := TN.later hb461
          replace TO := TO.later hb461
          replace LOW := LOW.trans (hb461.mono LOW.size)
          clear hb461
          clear TO hi
          try clear hHeld
          refine hK.out _ _ (⟨PC, trivial⟩) (fun hHeld => ?_)
          clear hK K
          try simp only [Act.put, List.setIfInBounds_toArray, List.set_cons_zero, List.set_cons_succ]
          refine wpAnyH_take (i := 4) (v := ?v5013) HO.out.2.2.2.2.1 (by kernel_rfl) (by kernel_rfl) (by kernel_rfl) (fun _ _ _ h => h) (Or.inl ⟨by rfl, ?hy5013⟩) (by assumption) ?rest5013
          case hy5013 => (intro w1 hSw; (try dsimp only at hSw); obtain ⟨h0, -⟩ := hSw; go_simp; try with_reducible rfl)
          try simp only [Act.put, List.setIfInBounds_toArray, List.set_cons_zero, List.set_cons_succ]
          refine wpAnyH_take (i := 5) (v := ?v5014) HO.out.2.2.2.2.2.1 (by kernel_rfl) (by kernel_rfl) (by kernel_rfl) (fun _ _ _ h => h) (Or.inl ⟨by rfl, ?hy5014⟩) (by assumption) ?rest5014
          case hy5014 => (intro w1 hSw; (try dsimp only at hSw); obtain ⟨h0, -⟩ := hSw; go_simp; try with_reducible rfl)
          try simp only [Act.put, List.setIfInBounds_toArray, List.set_cons_zero, List.set_cons_succ]
          refine wpAnyH_take (i := 6) (v := ?v5015) HO.out.2.2.2.2.2.2.1 (by kernel_rfl) (by kernel_rfl) (by kernel_rfl) (fun _ _ _ h => h) (Or.inl ⟨by rfl, ?hy5015⟩) (by assumption) ?rest5015
          case hy5015 => (intro w1 hSw; (try dsimp only at hSw); obtain ⟨h0, -⟩ := hSw; go_simp; try with_reducible rfl)
          try simp only [Act.put, List.setIfInBounds_toArray, List.set_cons_zero, List.set_cons_succ]
          refine wpAnyH_take (i := 7) (v := ?v5016) HO.out.2.2.2.2.2.2.2.1 (by kernel_rfl) (by kernel_rfl) (by kernel_rfl) (fun _ _ _ h => h) (Or.inl ⟨by rfl, ?hy5016⟩) (by assumption) ?rest5016
          case hy5016 => (intro w1 hSw; (try dsimp only at hSw); obtain ⟨h0, -⟩ := hSw; go_simp; try with_reducible rfl)
          try simp only [Act.put, List.setIfInBounds_toArray, List.set_cons_zero, List.set_cons_succ]
          refine wpAnyH_ready (rs := [10]) (by kernel_rfl) (by simp) ?_
          refine AllReadyH.cons HO.out.2.2.2.2.2.2.2.2.2.2.1 (fun K hK => ?_) AllReadyH.nil
          rw [if_pos (by rfl)]
          refine wp_store_cl _ _ Cl.zero (exA ta tc) w371.heap.size rfl (by rfl) (by rfl) C6 ?_
          intro w462 p463 j464
          have mv465 := j464.blk NE430.out PC
          have mv466 := j464.blk (Blk.ne R4 C6 (by decide)) R4
          have mv467 := j464.blk (Blk.ne R7 C6 (by decide)) R7
          have mv468 := j464.ts C6 (cl_no _ _) TN
          have mv469 := LOW.trans (j464.below LE431.out)
          replace PC := mv465
          replace R4 := mv466
          replace R7 := mv467
          replace TN := mv468
          replace LOW := mv469
          replace C6 := p463
          try clear hHeld
          refine hK.out _ _ (⟨PC, trivial⟩) (fun hHeld => ?_)
          clear hK K
          simp only [Act.put]
          refine wpAnyH_ready (rs := [11]) (by kernel_rfl) (by simp) ?_
          refine AllReadyH.cons HO.out.2.2.2.2.2.2.2.2.2.2.2.1 (fun K hK => ?_) AllReadyH.nil
          rw [if_pos (by rfl)]
          refine wp_store_rq _ _ w427.heap.size rfl (by rfl) (by rfl) R7 rfl (by rfl) (by first | (simp [Value.oneCell']; done) | simp [rq, Value.oneCell']) ?_
          intro w470 p471 j472
          have mv473 := j472.blk (Blk.ne PC R7 (by decide)) PC
          have mv474 := j472.blk NE458.out R4
          have mv475 := j472.blk (Blk.ne C6 R7 (by decide)) C6
          have mv476 := j472.ts R7 (rq0_no ne97) TN
          have mv477 := LOW.trans (j472.below LE459.out)
          replace PC := mv473
          replace R4 := mv474
          replace C6 := mv475
          replace TN := mv476
          replace LOW := mv477
          replace R7 := p471
          try clear hHeld
          refine hK.out _ _ (⟨PC, trivial⟩) (fun hHeld => ?_)
          clear hK K
          simp only [Act.put]
          refine wpAnyH_take (i := 12) (v := ?v5017) HO.out.2.2.2.2.2.2.2.2.2.2.2.2 (by kernel_rfl) (by kernel_rfl) (by kernel_rfl) (fun _ _ _ h => h) (Or.inl ⟨by rfl, ?hy5017⟩) (by assumption) ?rest5017
          case hy5017 => (intro w1 hSw; (try dsimp only at hSw); obtain ⟨h0, -⟩ := hSw; go_simp; try with_reducible rfl)
          try simp only [Act.put, List.setIfInBounds_toArray, List.set_cons_zero, List.set_cons_succ]
          refine wpAnyH_done (by kernel_rfl) ?_ _
          go_wp2_with fail
          go_meet
          exact ⟨_, rfl, rfl, PC, R4, TN, LOW⟩
        refine AllReadyH.cons HO.out.2.2.2.2.2.2.2.2.2.1 (fun K hK => ?_) AllReadyH.nil
        go_simp
        have NE481 := Lib.hid (Nat.ne_of_lt R4.lt)
        have LE482 := Lib.hid LOW.size
        obtain ⟨w478, hw479, hb480, R7⟩ := alloc_new w371 rq0 RT
        replace PC := PC.later hb480
        replace R4 := R4.later hb480
        replace TN := TN.later hb480
        replace TO := TO.later hb480
        replace LOW := LOW.trans (hb480.mono LOW.size)
        clear hb480
        rw [hw479]
        clear hw479
        try clear hHeld
        refine hK.out _ _ (⟨PC, trivial⟩) (fun hHeld => ?_)
        clear hK K
        try simp only [Act.put, List.setIfInBounds_toArray, List.set_cons_zero, List.set_cons_succ]
        refine wpAnyH_ready (rs := [3, 8]) (by kernel_rfl) (by simp) ?_
        refine AllReadyH.cons HO.out.2.2.2.1 (fun K hK => ?_) ?_
        · go_simp
          obtain ⟨V, hi⟩ := ask_again (x := exA ta tc) (k := 1) (n := 0) (by omega) (by omega) a_real a_rises a_fit (by omega) (by decide) rfl rfl rfl rfl rfl
          refine (ask_err hi TO TN (by rfl) (HG.out.2.later LOW)).mono ?_
          rintro e w483 ⟨rfl, hb484⟩
          replace PC := PC.later hb484
          replace R4 := R4.later hb484
          replace R7 := R7.later hb484
          replace TN := TN.later hb484
          replace TO := TO.later hb484
          replace LOW := LOW.trans (hb484.mono LOW.size)
          clear hb484
          clear TO hi
          try clear hHeld
          refine hK.out _ _ (⟨PC, trivial⟩) (fun hHeld => ?_)
          clear hK K
          try simp only [Act.put, List.setIfInBounds_toArray, List.set_cons_zero, List.set_cons_succ]
          refine wpAnyH_take (i := 4) (v := ?v5018) HO.out.2.2.2.2.1 (by kernel_rfl) (by kernel_rfl) (by kernel_rfl) (fun _ _ _ h => h) (Or.inl ⟨by rfl, ?hy5018⟩) (by assumption) ?rest5018
          case hy5018 => (intro w1 hSw; (try dsimp only at hSw); obtain ⟨h0, -⟩ := hSw; go_simp; try with_reducible rfl)
          try simp only [Act.put, List.setIfInBounds_toArray, List.set_cons_zero, List.set_cons_succ]
          refine wpAnyH_take (i := 5) (v := ?v5019) HO.out.2.2.2.2.2.1 (by kernel_rfl) (by kernel_rfl) (by kernel_rfl) (fun _ _ _ h => h) (Or.inl ⟨by rfl, ?hy5019⟩) (by assumption) ?rest5019
          case hy5019 => (intro w1 hSw; (try dsimp only at hSw); obtain ⟨h0, -⟩ := hSw; go_simp; try with_reducible rfl)
          try simp only [Act.put, List.setIfInBounds_toArray, List.set_cons_zero, List.set_cons_succ]
          refine wpAnyH_take (i := 6) (v := ?v5020) HO.out.2.2.2.2.2.2.1 (by kernel_rfl) (by kernel_rfl) (by kernel_rfl) (fun _ _ _ h => h) (Or.inl ⟨by rfl, ?hy5020⟩) (by assumption) ?rest5020
          case hy5020 => (intro w1 hSw; (try dsimp only at hSw); obtain ⟨h0, -⟩ := hSw; go_simp; try with_reducible rfl)
          try simp only [Act.put, List.setIfInBounds_toArray, List.set_cons_zero, List.set_cons_succ]
          refine wpAnyH_take (i := 7) (v := ?v5021) HO.out.2.2.2.2.2.2.2.1 (by kernel_rfl) (by kernel_rfl) (by kernel_rfl) (fun _ _ _ h => h) (Or.inl ⟨by rfl, ?hy5021⟩) (by assumption) ?rest5021
          case hy5021 => (intro w1 hSw; (try dsimp only at hSw); obtain ⟨h0, -⟩ := hSw; go_simp; try with_reducible rfl)
          try simp only [Act.put, List.setIfInBounds_toArray, List.set_cons_zero, List.set_cons_succ]
          refine wpAnyH_ready (rs := [8]) (by kernel_rfl) (by simp) ?_
          refine AllReadyH.cons HO.out.2.2.2.2.2.2.2.2.1 (fun K hK => ?_) AllReadyH.nil
          go_simp
          have NE488 := Lib.hid (Nat.ne_of_lt PC.lt)
          have LE489 := Lib.hid LOW.size
          obtain ⟨w485, hw486, hb487, C6⟩ := alloc_new w483 Cl.zero.arr CT
          replace hw486 : w483.alloc (.cells #[.bool false, .bool false, .slice none 0 0, .bool false, .int .u64 0, .bool false, .slice none 0 0, .bool false, .int .u64 0, .bool false, .slice none 0 0, .bool false, .int .u64 0, .bool false, .slice none 0 0, .bool false, .int .u64 0, .bool false, .slice none 0 0, .bool false, .int .u64 0, .bool false, .slice none 0 0, .bool false, .int .u64 0] CT) = w485 := hw486
          replace PC := PC.later hb487
          replace R4 := R4.later hb487
          replace R7 := R7.later hb487
          replace TN := TN.later hb487
          replace LOW := LOW.trans (hb487.mono LOW.size)
          clear hb487
          rw [hw486]
          clear hw486
          try clear hHeld
          refine hK.out _ _ (⟨PC, trivial⟩) (fun hHeld => ?_)
          clear hK K
          try simp only [Act.put, List.setIfInBounds_toArray, List.set_cons_zero, List.set_cons_succ]
          refine wpAnyH_ready (rs := [10]) (by kernel_rfl) (by simp) ?_
          refine AllReadyH.cons HO.out.2.2.2.2.2.2.2.2.2.2.1 (fun K hK => ?_) AllReadyH.nil
          rw [if_pos (by rfl)]
          refine wp_store_cl _ _ Cl.zero (exA ta tc) w483.heap.size rfl (by rfl) (by rfl) C6 ?_
          intro w490 p491 j492
          have mv493 := j492.blk NE488.out PC
          have mv494 := j492.blk (Blk.ne R4 C6 (by decide)) R4
          have mv495 := j492.blk (Blk.ne R7 C6 (by decide)) R7
          have mv496 := j492.ts C6 (cl_no _ _) TN
          have mv497 := LOW.trans (j492.below LE489.out)
          replace PC := mv493
          replace R4 := mv494
          replace R7 := mv495
          replace TN := mv496
          replace LOW := mv497
          replace C6 := p491
          try clear hHeld
          refine hK.out _ _ (⟨PC, trivial⟩) (fun hHeld => ?_)
          clear hK K
          simp only [Act.put]
          refine wpAnyH_ready (rs := [11]) (by kernel_rfl) (by simp) ?_
          refine AllReadyH.cons HO.out.2.2.2.2.2.2.2.2.2.2.2.1 (fun K hK => ?_) AllReadyH.nil
          rw [if_pos (by rfl)]
          refine wp_store_rq _ _ w371.heap.size rfl (by rfl) (by rfl) R7 rfl (by rfl) (by first | (simp [Value.oneCell']; done) | simp [rq, Value.oneCell']) ?_
          intro w498 p499 j500
          have mv501 := j500.blk (Blk.ne PC R7 (by decide)) PC
          have mv502 := j500.blk NE481.out R4
          have mv503 := j500.blk (Blk.ne C6 R7 (by decide)) C6
          have mv504 := j500.ts R7 (rq0_no ne97) TN
          have mv505 := LOW.trans (j500.below LE482.out)
          replace PC := mv501
          replace R4 := mv502
          replace C6 := mv503
          replace TN := mv504
          replace LOW := mv505
          replace R7 := p499
          try clear hHeld
          refine hK.out _ _ (⟨PC, trivial⟩) (fun hHeld => ?_)
          clear hK K
          simp only [Act.put]
          refine wpAnyH_take (i := 12) (v := ?v5022) HO.out.2.2.2.2.2.2.2.2.2.2.2.2 (by kernel_rfl) (by kernel_rfl) (by kernel_rfl) (fun _ _ _ h => h) (Or.inl ⟨by rfl, ?hy5022⟩) (by assumption) ?rest5022
          case hy5022 => (intro w1 hSw; (try dsimp only at hSw); obtain ⟨h0, -⟩ := hSw; go_simp; try with_reducible rfl)
          try simp only [Act.put, List.setIfInBounds_toArray, List.set_cons_zero, List.set_cons_succ]
          refine wpAnyH_done (by kernel_rfl) ?_ _
          go_wp2_with fail
          go_meet
          exact ⟨_, rfl, rfl, PC, R4, TN, LOW⟩
        refine AllReadyH.cons HO.out.2.2.2.2.2.2.2.2.1 (fun K hK => ?_) AllReadyH.nil
        go_simp
        have NE509 := Lib.hid (Nat.ne_of_lt PC.lt)
        have LE510 := Lib.hid LOW.size
        obtain ⟨w506, hw507, hb508, C6⟩ := alloc_new w478 Cl.zero.arr CT
        replace hw507 : w478.alloc (.cells #[.bool false, .bool false, .slice none 0 0, .bool false, .int .u64 0, .bool false, .slice none 0 0, .bool false, .int .u64 0, .bool false, .slice none 0 0, .bool false, .int .u64 0, .bool false, .slice none 0 0, .bool false, .int .u64 0, .bool false, .slice none 0 0, .bool false, .int .u64 0, .bool false, .slice none 0 0, .bool false, .int .u64 0] CT) = w506 := hw507
        replace PC := PC.later hb508
        replace R4 := R4.later hb508
        replace R7 := R7.later hb508
        replace TN := TN.later hb508
        replace TO := TO.later hb508
        replace LOW := LOW.trans (hb508.mono LOW.size)
        clear hb508
        rw [hw507]
        clear hw507
        try clear hHeld
        refine hK.out _ _ (⟨PC, trivial⟩) (fun hHeld => ?_)
        clear hK K
        try simp only [Act.put, List.setIfInBounds_toArray, List.set_cons_zero, List.set_cons_succ]
        refine wpAnyH_ready (rs := [3]) (by kernel_rfl) (by simp) ?_
        refine AllReadyH.cons HO.out.2.2.2.1 (fun K hK => ?_) AllReadyH.nil
        go_simp
        obtain ⟨V, hi⟩ := ask_again (x := exA ta tc) (k := 1) (n := 0) (by omega) (by omega) a_real a_rises a_fit (by omega) (by decide) rfl rfl rfl rfl rfl
        refine (ask_err hi TO TN (by rfl) (HG.out.2.later LOW)).mono ?_
        rintro e w511 ⟨rfl, hb512⟩
        replace PC := PC.later hb512
        replace R4 := R4.later hb512
        replace R7 := R7.later hb512
        replace C6 := C6.later hb512
        replace TN := TN.later hb512
        replace TO := TO.later hb512
        replace LOW := LOW.trans (hb512.mono LOW.size)
        clear hb512
        clear TO hi
        try clear hHeld
        refine hK.out _ _ (⟨PC, trivial⟩) (fun hHeld => ?_)
        clear hK K
        try simp only [Act.put, List.setIfInBounds_toArray, List.set_cons_zero, List.set_cons_succ]
        refine wpAnyH_take (i := 4) (v := ?v5023) HO.out.2.2.2.2.1 (by kernel_rfl) (by kernel_rfl) (by kernel_rfl) (fun _ _ _ h => h) (Or.inl ⟨by rfl, ?hy5023⟩) (by assumption) ?rest5023
        case hy5023 => (intro w1 hSw; (try dsimp only at hSw); obtain ⟨h0, -⟩ := hSw; go_simp; try with_reducible rfl)
        try simp only [Act.put, List.setIfInBounds_toArray, List.set_cons_zero, List.set_cons_succ]
        refine wpAnyH_take (i := 5) (v := ?v5024) HO.out.2.2.2.2.2.1 (by kernel_rfl) (by kernel_rfl) (by kernel_rfl) (fun _ _ _ h => h) (Or.inl ⟨by rfl, ?hy5024⟩) (by assumption) ?rest5024
        case hy5024 => (intro w1 hSw; (try dsimp only at hSw); obtain ⟨h0, -⟩ := hSw; go_simp; try with_reducible rfl)
        try simp only [Act.put, List.setIfInBounds_toArray, List.set_cons_zero, List.set_cons_succ]
        refine wpAnyH_take (i := 6) (v := ?v5025) HO.out.2.2.2.2.2.2.1 (by kernel_rfl) (by kernel_rfl) (by kernel_rfl) (fun _ _ _ h => h) (Or.inl ⟨by rfl, ?hy5025⟩) (by assumption) ?rest5025
        case hy5025 => (intro w1 hSw; (try dsimp only at hSw); obtain ⟨h0, -⟩ := hSw; go_simp; try with_reducible rfl)
        try simp only [Act.put, List.setIfInBounds_toArray, List.set_cons_zero, List.set_cons_succ]
        refine wpAnyH_take (i := 7) (v := ?v5026) HO.out.2.2.2.2.2.2.2.1 (by kernel_rfl) (by kernel_rfl) (by kernel_rfl) (fun _ _ _ h => h) (Or.inl ⟨by rfl, ?hy5026⟩) (by assumption) ?rest5026
        case hy5026 => (intro w1 hSw; (try dsimp only at hSw); obtain ⟨h0, -⟩ := hSw; go_simp; try with_reducible rfl)
        try simp only [Act.put, List.setIfInBounds_toArray, List.set_cons_zero, List.set_cons_succ]
        refine wpAnyH_ready (rs := [10]) (by kernel_rfl) (by simp) ?_
        refine AllReadyH.cons HO.out.2.2.2.2.2.2.2.2.2.2.1 (fun K hK => ?_) AllReadyH.nil
        rw [if_pos (by rfl)]
        refine wp_store_cl _ _ Cl.zero (exA ta tc) w478.heap.size rfl (by rfl) (by rfl) C6 ?_
        intro w513 p514 j515
        have mv516 := j515.blk NE509.out PC
        have mv517 := j515.blk (Blk.ne R4 C6 (by decide)) R4
        have mv518 := j515.blk (Blk.ne R7 C6 (by decide)) R7
        have mv519 := j515.ts C6 (cl_no _ _) TN
        have mv520 := LOW.trans (j515.below LE510.out)
        replace PC := mv516
        replace R4 := mv517
        replace R7 := mv518
        replace TN := mv519
        replace LOW := mv520
        replace C6 := p514
        try clear hHeld
        refine hK.out _ _ (⟨PC, trivial⟩) (fun hHeld => ?_)
        clear hK K
        simp only [Act.put]
        refine wpAnyH_ready (rs := [11]) (by kernel_rfl) (by simp) ?_
        refine AllReadyH.cons HO.out.2.2.2.2.2.2.2.2.2.2.2.1 (fun K hK => ?_) AllReadyH.nil
        rw [if_pos (by rfl)]
        refine wp_store_rq _ _ w371.heap.size rfl (by rfl) (by rfl) R7 rfl (by rfl) (by first | (simp [Value.oneCell']; done) | simp [rq, Value.oneCell']) ?_
        intro w521 p522 j523
        have mv524 := j523.blk (Blk.ne PC R7 (by decide)) PC
        have mv525 := j523.blk NE481.out R4
        have mv526 := j523.blk (Blk.ne C6 R7 (by decide)) C6
        have mv527 := j523.ts R7 (rq0_no ne97) TN
        have mv528 := LOW.trans (j523.below LE482.out)
        replace PC := mv524
        replace R4 := mv525
        replace C6 := mv526
        replace TN := mv527
        replace LOW := mv528
        replace R7 := p522
        try clear hHeld
        refine hK.out _ _ (⟨PC, trivial⟩) (fun hHeld => ?_)
        clear hK K
        simp only [Act.put]
        refine wpAnyH_take (i := 12) (v := ?v5027) HO.out.2.2.2.2.2.2.2.2.2.2.2.2 (by kernel_rfl) (by kernel_rfl) (by kernel_rfl) (fun _ _ _ h => h) (Or.inl ⟨by rfl, ?hy5027⟩) (by assumption) ?rest5027
        case hy5027 => (intro w1 hSw; (try dsimp only at hSw); obtain ⟨h0, -⟩ := hSw; go_simp; try with_reducible rfl)
        try simp only [Act.put, List.setIfInBounds_toArray, List.set_cons_zero, List.set_cons_succ]
        refine wpAnyH_done (by kernel_rfl) ?_ _
        go_wp2_with fail
        go_meet
        exact ⟨_, rfl, rfl, PC, R4, TN, LOW⟩
      refine AllReadyH.cons HO.out.2.2.2.2.2.2.2.2.1 (fun K hK => ?_) ?_
      · go_simp
        have NE532 := Lib.hid (Nat.ne_of_lt PC.lt)
        have LE533 := Lib.hid LOW.size
        obtain ⟨w529, hw530, hb531, C6⟩ := alloc_new w367 Cl.zero.arr CT
        replace hw530 : w367.alloc (.cells #[.bool false, .bool false, .slice none 0 0, .bool false, .int .u64 0, .bool false, .slice none 0 0, .bool false, .int .u64 0, .bool false, .slice none 0 0, .bool false, .int .u64 0, .bool false, .slice none 0 0, .bool false, .int .u64 0, .bool false, .slice none 0 0, .bool false, .int .u64 0, .bool false, .slice none 0 0, .bool false, .int .u64 0] CT) = w529 := hw530
        replace PC := PC.later hb531
        replace R4 := R4.later hb531
        replace TN := TN.later hb531
        replace TA := TA.later hb531
        replace LOW := LOW.trans (hb531.mono LOW.size)
        clear hb531
        rw [hw530]
        clear hw530
        try clear hHeld
        refine hK.out _ _ (⟨PC, trivial⟩) (fun hHeld => ?_)
        clear hK K
        try simp only [Act.put, List.setIfInBounds_toArray, List.set_cons_zero, List.set_cons_succ]
        refine wpAnyH_ready (rs := [2, 9]) (by kernel_rfl) (by simp) ?_
        refine AllReadyH.cons HO.out.2.2.1 (fun K hK => ?_) ?_
        · go_simp
          refine (of_any (l := [[97]]) TA a_fit a_of).mono ?_
          rintro e w534 ⟨tb, tbc, rfl, TO, hb535⟩
          replace PC := PC.later hb535
          replace R4 := R4.later hb535
          replace C6 := C6.later hb535
          replace TN := TN.later hb535
          replace TA := TA.later hb535
          replace LOW := LOW.trans (hb535.mono LOW.size)
          clear hb535
          clear TA
          try clear hHeld
          refine hK.out _ _ (⟨PC, trivial⟩) (fun hHeld => ?_)
          clear hK K
          try simp only [Act.put, List.setIfInBounds_toArray, List.set_cons_zero, List.set_cons_succ]
          refine wpAnyH_ready (rs := [3, 9]) (by kernel_rfl) (by simp) ?_
          refine AllReadyH.cons HO.out.2.2.2.1 (fun K hK => ?_) ?_
          · go_simp
            obtain ⟨V, hi⟩ := ask_again (x := exA ta tc) (k := 1) (n := 0) (by omega) (by omega) a_real a_rises a_fit (by omega) (by decide) rfl rfl rfl rfl rfl
            refine (ask_err hi TO TN (by rfl) (HG.out.2.later LOW)).mono ?_
            rintro e w536 ⟨rfl, hb537⟩
            replace PC := PC.later hb537
            replace R4 := R4.later hb537
            replace C6 := C6.later hb537
            replace TN := TN.later hb537
            replace TO := TO.later hb537
            replace LOW := LOW.trans (hb537.mono LOW.size)
            clear hb537
            clear TO hi
            try clear hHeld
            refine hK.out _ _ (⟨PC, trivial⟩) (fun hHeld => ?_)
            clear hK K
            try simp only [Act.put, List.setIfInBounds_toArray, List.set_cons_zero, List.set_cons_succ]
            refine wpAnyH_take (i := 4) (v := ?v5028) HO.out.2.2.2.2.1 (by kernel_rfl) (by kernel_rfl) (by kernel_rfl) (fun _ _ _ h => h) (Or.inl ⟨by rfl, ?hy5028⟩) (by assumption) ?rest5028
            case hy5028 => (intro w1 hSw; (try dsimp only at hSw); obtain ⟨h0, -⟩ := hSw; go_simp; try with_reducible rfl)
            try simp only [Act.put, List.setIfInBounds_toArray, List.set_cons_zero, List.set_cons_succ]
            refine wpAnyH_take (i := 5) (v := ?v5029) HO.out.2.2.2.2.2.1 (by kernel_rfl) (by kernel_rfl) (by kernel_rfl) (fun _ _ _ h => h) (Or.inl ⟨by rfl, ?hy5029⟩) (by assumption) ?rest5029
            case hy5029 => (intro w1 hSw; (try dsimp only at hSw); obtain ⟨h0, -⟩ := hSw; go_simp; try with_reducible rfl)
            try simp only [Act.put, List.setIfInBounds_toArray, List.set_cons_zero, List.set_cons_succ]
            refine wpAnyH_take (i := 6) (v := ?v5030) HO.out.2.2.2.2.2.2.1 (by kernel_rfl) (by kernel_rfl) (by kernel_rfl) (fun _ _ _ h => h) (Or.inl ⟨by rfl, ?hy5030⟩) (by assumption) ?rest5030
            case hy5030 => (intro w1 hSw; (try dsimp only at hSw); obtain ⟨h0, -⟩ := hSw; go_simp; try with_reducible rfl)
            try simp only [Act.put, List.setIfInBounds_toArray, List.set_cons_zero, List.set_cons_succ]
            refine wpAnyH_take (i := 7) (v := ?v5031) HO.out.2.2.2.2.2.2.2.1 (by kernel_rfl) (by kernel_rfl) (by kernel_rfl) (fun _ _ _ h => h) (Or.inl ⟨by rfl, ?hy5031⟩) (by assumption) ?rest5031
            case hy5031 => (intro w1 hSw; (try dsimp only at hSw); obtain ⟨h0, -⟩ := hSw; go_simp; try with_reducible rfl)
            try simp only [Act.put, List.setIfInBounds_toArray, List.set_cons_zero, List.set_cons_succ]
            refine wpAnyH_ready (rs := [9]) (by kernel_rfl) (by simp) ?_
            refine AllReadyH.cons HO.out.2.2.2.2.2.2.2.2.2.1 (fun K hK => ?_) AllReadyH.nil
            go_simp
            have NE541 := Lib.hid (Nat.ne_of_lt R4.lt)
            have LE542 := Lib.hid LOW.size
            obtain ⟨w538, hw539, hb540, R7⟩ := alloc_new w536 rq0 RT
            replace PC := PC.later hb540
            replace R4 := R4.later hb540
            replace C6 := C6.later hb540
            replace TN := TN.later hb540
            replace LOW := LOW.trans (hb540.mono LOW.size)
            clear hb540
            rw [hw539]
            clear hw539
            try clear hHeld
            refine hK.out _ _ (⟨PC, trivial⟩) (fun hHeld => ?_)
            clear hK K
            try simp only [Act.put, List.setIfInBounds_toArray, List.set_cons_zero, List.set_cons_succ]
            refine wpAnyH_ready (rs := [10]) (by kernel_rfl) (by simp) ?_
            refine AllReadyH.cons HO.out.2.2.2.2.2.2.2.2.2.2.1 (fun K hK => ?_) AllReadyH.nil
            rw [if_pos (by rfl)]
            refine wp_store_cl _ _ Cl.zero (exA ta tc) w367.heap.size rfl (by rfl) (by rfl) C6 ?_
            intro w543 p544 j545
            have mv546 := j545.blk NE532.out PC
            have mv547 := j545.blk (Blk.ne R4 C6 (by decide)) R4
            have mv548 := j545.blk (Blk.ne R7 C6 (by decide)) R7
            have mv549 := j545.ts C6 (cl_no _ _) TN
            have mv550 := LOW.trans (j545.below LE533.out)
            replace PC := mv546
            replace R4 := mv547
            replace R7 := mv548
            replace TN := mv549
            replace LOW := mv550
            replace C6 := p544
            try clear hHeld
            refine hK.out _ _ (⟨PC, trivial⟩) (fun hHeld => ?_)
            clear hK K
            simp only [Act.put]
            refine wpAnyH_ready (rs := [11]) (by kernel_rfl) (by simp) ?_
            refine AllReadyH.cons HO.out.2.2.2.2.2.2.2.2.2.2.2.1 (fun K hK => ?_) AllReadyH.nil
            rw [if_pos (by rfl)]
            refine wp_store_rq _ _ w536.heap.size rfl (by rfl) (by rfl) R7 rfl (by rfl) (by first | (simp [Value.oneCell']; done) | simp [rq, Value.oneCell']) ?_
            intro w551 p552 j553
            have mv554 := j553.blk (Blk.ne PC R7 (by decide)) PC
            have mv555 := j553.blk NE541.out R4
            have mv556 := j553.blk (Blk.ne C6 R7 (by decide)) C6
            have mv557 := j553.ts R7 (rq0_no ne97) TN
            have mv558 := LOW.trans (j553.below LE542.out)
            replace PC := mv554
            replace R4 := mv555
            replace C6 := mv556
            replace TN := mv557
            replace LOW := mv558
            replace R7 := p552
            try clear hHeld
            refine hK.out _ _ (⟨PC, trivial⟩) (fun hHeld => ?_)
            clear hK K
            simp only [Act.put]
            refine wpAnyH_take (i := 12) (v := ?v5032) HO.out.2.2.2.2.2.2.2.2.2.2.2.2 (by kernel_rfl) (by kernel_rfl) (by kernel_rfl) (fun _ _ _ h => h) (Or.inl ⟨by rfl, ?hy5032⟩) (by assumption) ?rest5032
            case hy5032 => (intro w1 hSw; (try dsimp only at hSw); obtain ⟨h0, -⟩ := hSw; go_simp; try with_reducible rfl)
            try simp only [Act.put, List.setIfInBounds_toArray, List.set_cons_zero, List.set_cons_succ]
            refine wpAnyH_done (by kernel_rfl) ?_ _
            go_wp2_with fail
            go_meet
            exact ⟨_, rfl, rfl, PC, R4, TN, LOW⟩
          refine AllReadyH.cons HO.out.2.2.2.2.2.2.2.2.2.1 (fun K hK => ?_) AllReadyH.nil
          go_simp
          have NE562 := Lib.hid (Nat.ne_of_lt R4.lt)
          have LE563 := Lib.hid LOW.size
          obtain ⟨w559, hw560, hb561, R7⟩ := alloc_new w534 rq0 RT
          replace PC := PC.later hb561
          replace R4 := R4.later hb561
          replace C6 := C6.later hb561
          replace TN := TN.later hb561
          replace TO := TO.later hb561
          replace LOW := LOW.trans (hb561.mono LOW.size)
          clear hb561
          rw [hw560]
          clear hw560
          try clear hHeld
          refine hK.out _ _ (⟨PC, trivial⟩) (fun hHeld => ?_)
          clear hK K
          try simp only [Act.put, List.setIfInBounds_toArray, List.set_cons_zero, List.set_cons_succ]
          refine wpAnyH_ready (rs := [3]) (by kernel_rfl) (by simp) ?_
          refine AllReadyH.cons HO.out.2.2.2.1 (fun K hK => ?_) AllReadyH.nil
          go_simp
          obtain ⟨V, hi⟩ := ask_again (x := exA ta tc) (k := 1) (n := 0) (by omega) (by omega) a_real a_rises a_fit (by omega) (by decide) rfl rfl rfl rfl rfl
          refine (ask_err hi TO TN (by rfl) (HG.out.2.later LOW)).mono ?_
          rintro e w564 ⟨rfl, hb565⟩
          replace PC := PC.later hb565
          replace R4 := R4.later hb565
          replace C6 := C6.later hb565
          replace R7 := R7.later hb565
          replace TN := TN.later hb565
          replace TO := TO.later hb565
          replace LOW := LOW.trans (hb565.mono LOW.size)
          clear hb565
          clear TO hi
          try clear hHeld
          refine hK.out _ _ (⟨PC, trivial⟩) (fun hHeld => ?_)
          clear hK K
          try simp only [Act.put, List.setIfInBounds_toArray, List.set_cons_zero, List.set_cons_succ]
          refine wpAnyH_take (i := 4) (v := ?v5033) HO.out.2.2.2.2.1 (by kernel_rfl) (by kernel_rfl) (by kernel_rfl) (fun _ _ _ h => h) (Or.inl ⟨by rfl, ?hy5033⟩) (by assumption) ?rest5033
          case hy5033 => (intro w1 hSw; (try dsimp only at hSw); obtain ⟨h0, -⟩ := hSw; go_simp; try with_reducible rfl)
          try simp only [Act.put, List.setIfInBounds_toArray, List.set_cons_zero, List.set_cons_succ]
          refine wpAnyH_take (i := 5) (v := ?v5034) HO.out.2.2.2.2.2.1 (by kernel_rfl) (by kernel_rfl) (by kernel_rfl) (fun _ _ _ h => h) (Or.inl ⟨by rfl, ?hy5034⟩) (by assumption) ?rest5034
          case hy5034 => (intro w1 hSw; (try dsimp only at hSw); obtain ⟨h0, -⟩ := hSw; go_simp; try with_reducible rfl)
          try simp only [Act.put, List.setIfInBounds_toArray, List.set_cons_zero, List.set_cons_succ]
          refine wpAnyH_take (i := 6) (v := ?v5035) HO.out.2.2.2.2.2.2.1 (by kernel_rfl) (by kernel_rfl) (by kernel_rfl) (fun _ _ _ h => h) (Or.inl ⟨by rfl, ?hy5035⟩) (by assumption) ?rest5035
          case hy5035 => (intro w1 hSw; (try dsimp only at hSw); obtain ⟨h0, -⟩ := hSw; go_simp; try with_reducible rfl)
          try simp only [Act.put, List.setIfInBounds_toArray, List.set_cons_zero, List.set_cons_succ]
          refine wpAnyH_take (i := 7) (v := ?v5036) HO.out.2.2.2.2.2.2.2.1 (by kernel_rfl) (by kernel_rfl) (by kernel_rfl) (fun _ _ _ h => h) (Or.inl ⟨by rfl, ?hy5036⟩) (by assumption) ?rest5036
          case hy5036 => (intro w1 hSw; (try dsimp only at hSw); obtain ⟨h0, -⟩ := hSw; go_simp; try with_reducible rfl)
          try simp only [Act.put, List.setIfInBounds_toArray, List.set_cons_zero, List.set_cons_succ]
          refine wpAnyH_ready (rs := [10]) (by kernel_rfl) (by simp) ?_
          refine AllReadyH.cons HO.out.2.2.2.2.2.2.2.2.2.2.1 (fun K hK => ?_) AllReadyH.nil
          rw [if_pos (by rfl)]
          refine wp_store_cl _ _ Cl.zero (exA ta tc) w367.heap.size rfl (by rfl) (by rfl) C6 ?_
          intro w566 p567 j568
          have mv569 := j568.blk NE532.out PC
          have mv570 := j568.blk (Blk.ne R4 C6 (by decide)) R4
          have mv571 := j568.blk (Blk.ne R7 C6 (by decide)) R7
          have mv572 := j568.ts C6 (cl_no _ _) TN
          have mv573 := LOW.trans (j568.below LE533.out)
          replace PC := mv569
          replace R4 := mv570
          replace R7 := mv571
          replace TN := mv572
          replace LOW := mv573
          replace C6 := p567
          try clear hHeld
          refine hK.out _ _ (⟨PC, trivial⟩) (fun hHeld => ?_)
          clear hK K
          simp only [Act.put]
          refine wpAnyH_ready (rs := [11]) (by kernel_rfl) (by simp) ?_
          refine AllReadyH.cons HO.out.2.2.2.2.2.2.2.2.2.2.2.1 (fun K hK => ?_) AllReadyH.nil
          rw [if_pos (by rfl)]
          refine wp_store_rq _ _ w534.heap.size rfl (by rfl) (by rfl) R7 rfl (by rfl) (by first | (simp [Value.oneCell']; done) | simp [rq, Value.oneCell']) ?_
          intro w574 p575 j576
          have mv577 := j576.blk (Blk.ne PC R7 (by decide)) PC
          have mv578 := j576.blk NE562.out R4
          have mv579 := j576.blk (Blk.ne C6 R7 (by decide)) C6
          have mv580 := j576.ts R7 (rq0_no ne97) TN
          have mv581 := LOW.trans (j576.below LE563.out)
          replace PC := mv577
          replace R4 := mv578
          replace C6 := mv579
          replace TN := mv580
          replace LOW := mv581
          replace R7 := p575
          try clear hHeld
          refine hK.out _ _ (⟨PC, trivial⟩) (fun hHeld => ?_)
          clear hK K
          simp only [Act.put]
          refine wpAnyH_take (i := 12) (v := ?v5037) HO.out.2.2.2.2.2.2.2.2.2.2.2.2 (by kernel_rfl) (by kernel_rfl) (by kernel_rfl) (fun _ _ _ h => h) (Or.inl ⟨by rfl, ?hy5037⟩) (by assumption) ?rest5037
          case hy5037 => (intro w1 hSw; (try dsimp only at hSw); obtain ⟨h0, -⟩ := hSw; go_simp; try with_reducible rfl)
          try simp only [Act.put, List.setIfInBounds_toArray, List.set_cons_zero, List.set_cons_succ]
          refine wpAnyH_done (by kernel_rfl) ?_ _
          go_wp2_with fail
          go_meet
          exact ⟨_, rfl, rfl, PC, R4, TN, LOW⟩
        refine AllReadyH.cons HO.out.2.2.2.2.2.2.2.2.2.1 (fun K hK => ?_) AllReadyH.nil
        go_simp
        have NE585 := Lib.hid (Nat.ne_of_lt R4.lt)
        have LE586 := Lib.hid LOW.size
        obtain ⟨w582, hw583, hb584, R7⟩ := alloc_new w529 rq0 RT
        replace PC := PC.later hb584
        replace R4 := R4.later hb584
        replace C6 := C6.later hb584
        replace TN := TN.later hb584
        replace TA := TA.later hb584
        replace LOW := LOW.trans (hb584.mono LOW.size)
        clear hb584
        rw [hw583]
        clear hw583
        try clear hHeld
        refine hK.out _ _ (⟨PC, trivial⟩) (fun hHeld => ?_)
        clear hK K
        try simp only [Act.put, List.setIfInBounds_toArray, List.set_cons_zero, List.set_cons_succ]
        refine wpAnyH_ready (rs := [2]) (by kernel_rfl) (by simp) ?_
        refine AllReadyH.cons HO.out.2.2.1 (fun K hK => ?_) AllReadyH.nil
        go_simp
        refine (of_any (l := [[97]]) TA a_fit a_of).mono ?_
        rintro e w587 ⟨tb, tbc, rfl, TO, hb588⟩
        replace PC := PC.later hb588
        replace R4 := R4.later hb588
        replace C6 := C6.later hb588
        replace R7 := R7.later hb588
        replace TN := TN.later hb588
        replace TA := TA.later hb588
        replace LOW := LOW.trans (hb588.mono LOW.size)
        clear hb588
        clear TA
        try clear hHeld
        refine hK.out _ _ (⟨PC, trivial⟩) (fun hHeld => ?_)
        clear hK K
        try simp only [Act.put, List.setIfInBounds_toArray, List.set_cons_zero, List.set_cons_succ]
        refine wpAnyH_ready (rs := [3]) (by kernel_rfl) (by simp) ?_
        refine AllReadyH.cons HO.out.2.2.2.1 (fun K hK => ?_) AllReadyH.nil
        go_simp
        obtain ⟨V, hi⟩ := ask_again (x := exA ta tc) (k := 1) (n := 0) (by omega) (by omega) a_real a_rises a_fit (by omega) (by decide) rfl rfl rfl rfl rfl
        refine (ask_err hi TO TN (by rfl) (HG.out.2.later LOW)).mono ?_
        rintro e w589 ⟨rfl, hb590⟩
        replace PC := PC.later hb590
        replace R4 := R4.later hb590
        replace C6 := C6.later hb590
        replace R7 := R7.later hb590
        replace TN := TN.later hb590
        replace TO := TO.later hb590
        replace LOW := LOW.trans (hb590.mono LOW.size)
        clear hb590
        clear TO hi
        try clear hHeld
        refine hK.out _ _ (⟨PC, trivial⟩) (fun hHeld => ?_)
        clear hK K
        try simp only [Act.put, List.setIfInBounds_toArray, List.set_cons_zero, List.set_cons_succ]
        refine wpAnyH_take (i := 4) (v := ?v5038) HO.out.2.2.2.2.1 (by kernel_rfl) (by kernel_rfl) (by kernel_rfl) (fun _ _ _ h => h) (Or.inl ⟨by rfl, ?hy5038⟩) (by assumption) ?rest5038
        case hy5038 => (intro w1 hSw; (try dsimp only at hSw); obtain ⟨h0, -⟩ := hSw; go_simp; try with_reducible rfl)
        try simp only [Act.put, List.setIfInBounds_toArray, List.set_cons_zero, List.set_cons_succ]
        refine wpAnyH_take (i := 5) (v := ?v5039) HO.out.2.2.2.2.2.1 (by kernel_rfl) (by kernel_rfl) (by kernel_rfl) (fun _ _ _ h => h) (Or.inl ⟨by rfl, ?hy5039⟩) (by assumption) ?rest5039
        case hy5039 => (intro w1 hSw; (try dsimp only at hSw); obtain ⟨h0, -⟩ := hSw; go_simp; try with_reducible rfl)
        try simp only [Act.put, List.setIfInBounds_toArray, List.set_cons_zero, List.set_cons_succ]
        refine wpAnyH_take (i := 6) (v := ?v5040) HO.out.2.2.2.2.2.2.1 (by kernel_rfl) (by kernel_rfl) (by kernel_rfl) (fun _ _ _ h => h) (Or.inl ⟨by rfl, ?hy5040⟩) (by assumption) ?rest5040
        case hy5040 => (intro w1 hSw; (try dsimp only at hSw); obtain ⟨h0, -⟩ := hSw; go_simp; try with_reducible rfl)
        try simp only [Act.put, List.setIfInBounds_toArray, List.set_cons_zero, List.set_cons_succ]
        refine wpAnyH_take (i := 7) (v := ?v5041) HO.out.2.2.2.2.2.2.2.1 (by kernel_rfl) (by kernel_rfl) (by kernel_rfl) (fun _ _ _ h => h) (Or.inl ⟨by rfl, ?hy5041⟩) (by assumption) ?rest5041
        case hy5041 => (intro w1 hSw; (try dsimp only at hSw); obtain ⟨h0, -⟩ := hSw; go_simp; try with_reducible rfl)
        try simp only [Act.put, List.setIfInBounds_toArray, List.set_cons_zero, List.set_cons_succ]
        refine wpAnyH_ready (rs := [10]) (by kernel_rfl) (by simp) ?_
        refine AllReadyH.cons HO.out.2.2.2.2.2.2.2.2.2.2.1 (fun K hK => ?_) AllReadyH.nil
        rw [if_pos (by rfl)]
        refine wp_store_cl _ _ Cl.zero (exA ta tc) w367.heap.size rfl (by rfl) (by rfl) C6 ?_
        intro w591 p592 j593
        have mv594 := j593.blk NE532.out PC
        have mv595 := j593.blk (Blk.ne R4 C6 (by decide)) R4
        have mv596 := j593.blk (Blk.ne R7 C6 (by decide)) R7
        have mv597 := j593.ts C6 (cl_no _ _) TN
        have mv598 := LOW.trans (j593.below LE533.out)
        replace PC := mv594
        replace R4 := mv595
        replace R7 := mv596
        replace TN := mv597
        replace LOW := mv598
        replace C6 := p592
        try clear hHeld
        refine hK.out _ _ (⟨PC, trivial⟩) (fun hHeld => ?_)
        clear hK K
        simp only [Act.put]
        refine wpAnyH_ready (rs := [11]) (by kernel_rfl) (by simp) ?_
        refine AllReadyH.cons HO.out.2.2.2.2.2.2.2.2.2.2.2.1 (fun K hK => ?_) AllReadyH.nil
        rw [if_pos (by rfl)]
        refine wp_store_rq _ _ w529.heap.size rfl (by rfl) (by rfl) R7 rfl (by rfl) (by first | (simp [Value.oneCell']; done) | simp [rq, Value.oneCell']) ?_
        intro w599 p600 j601
        have mv602 := j601.blk (Blk.ne PC R7 (by decide)) PC
        have mv603 := j601.blk NE585.out R4
        have mv604 := j601.blk (Blk.ne C6 R7 (by decide)) C6
        have mv605 := j601.ts R7 (rq0_no ne97) TN
        have mv606 := LOW.trans (j601.below LE586.out)
        replace PC := mv602
        replace R4 := mv603
        replace C6 := mv604
        replace TN := mv605
        replace LOW := mv606
        replace R7 := p600
        try clear hHeld
        refine hK.out _ _ (⟨PC, trivial⟩) (fun hHeld => ?_)
        clear hK K
        simp only [Act.put]
        refine wpAnyH_take (i := 12) (v := ?v5042) HO.out.2.2.2.2.2.2.2.2.2.2.2.2 (by kernel_rfl) (by kernel_rfl) (by kernel_rfl) (fun _ _ _ h => h) (Or.inl ⟨by rfl, ?hy5042⟩) (by assumption) ?rest5042
        case hy5042 => (intro w1 hSw; (try dsimp only at hSw); obtain ⟨h0, -⟩ := hSw; go_simp; try with_reducible rfl)
        try simp only [Act.put, List.setIfInBounds_toArray, List.set_cons_zero, List.set_cons_succ]
        refine wpAnyH_done (by kernel_rfl) ?_ _
        go_wp2_with fail
        go_meet
        exact ⟨_, rfl, rfl, PC, R4, TN, LOW⟩
      refine AllReadyH.cons HO.out.2.2.2.2.2.2.2.2.2.1 (fun K hK => ?_) AllReadyH.nil
      go_simp
      have NE610 := Lib.hid (Nat.ne_of_lt R4.lt)
      have LE611 := Lib.hid LOW.size
      obtain ⟨w607, hw608, hb609, R7⟩ := alloc_new w367 rq0 RT
      replace PC := PC.later hb609
      replace R4 := R4.later hb609
      replace TN := TN.later hb609
      replace TA := TA.later hb609
      replace LOW := LOW.trans (hb609.mono LOW.size)
      clear hb609
      rw [hw608]
      clear hw608
      try clear hHeld
      refine hK.out _ _ (⟨PC, trivial⟩) (fun hHeld => ?_)
      clear hK K
      try simp only [Act.put, List.setIfInBounds_toArray, List.set_cons_zero, List.set_cons_succ]
      refine wpAnyH_ready (rs := [2, 8]) (by kernel_rfl) (by simp) ?_
      refine AllReadyH.cons HO.out.2.2.1 (fun K hK => ?_) ?_
      · go_simp
        refine (of_any (l := [[97]]) TA a_fit a_of).mono ?_
        rintro e w612 ⟨tb, tbc, rfl, TO, hb613⟩
        replace PC := PC.later hb613
        replace R4 := R4.later hb613
        replace R7 := R7.later hb613
        replace TN := TN.later hb613
        replace TA := TA.later hb613
        replace LOW := LOW.trans (hb613.mono LOW.size)
        clear hb613
        clear TA
        try clear hHeld
        refine hK.out _ _ (⟨PC, trivial⟩) (fun hHeld => ?_)
        clear hK K
        try simp only [Act.put, List.setIfInBounds_toArray, List.set_cons_zero, List.set_cons_succ]
        refine wpAnyH_ready (rs := [3, 8]) (by kernel_rfl) (by simp) ?_
        refine AllReadyH.cons HO.out.2.2.2.1 (fun K hK => ?_) ?_
        · go_simp
          obtain ⟨V, hi⟩ := ask_again (x := exA ta tc) (k := 1) (n := 0) (by omega) (by omega) a_real a_rises a_fit (by omega) (by decide) rfl rfl rfl rfl rfl
          refine (ask_err hi TO TN (by rfl) (HG.out.2.later LOW)).mono ?_
          rintro e w614 ⟨rfl, hb615⟩
          replace PC := PC.later hb615
          replace R4 := R4.later hb615
          replace R7 := R7.later hb615
          replace TN := TN.later hb615
          replace TO := TO.later hb615
          replace LOW := LOW.trans (hb615.mono LOW.size)
          clear hb615
          clear TO hi
          try clear hHeld
          refine hK.out _ _ (⟨PC, trivial⟩) (fun hHeld => ?_)
          clear hK K
          try simp only [Act.put, List.setIfInBounds_toArray, List.set_cons_zero, List.set_cons_succ]
          refine wpAnyH_take (i := 4) (v := ?v5043) HO.out.2.2.2.2.1 (by kernel_rfl) (by kernel_rfl) (by kernel_rfl) (fun _ _ _ h => h) (Or.inl ⟨by rfl, ?hy5043⟩) (by assumption) ?rest5043
          case hy5043 => (intro w1 hSw; (try dsimp only at hSw); obtain ⟨h0, -⟩ := hSw; go_simp; try with_reducible rfl)
          try simp only [Act.put, List.setIfInBounds_toArray, List.set_cons_zero, List.set_cons_succ]
          refine wpAnyH_take (i := 5) (v := ?v5044) HO.out.2.2.2.2.2.1 (by kernel_rfl) (by kernel_rfl) (by kernel_rfl) (fun _ _ _ h => h) (Or.inl ⟨by rfl, ?hy5044⟩) (by assumption) ?rest5044
          case hy5044 => (intro w1 hSw; (try dsimp only at hSw); obtain ⟨h0, -⟩ := hSw; go_simp; try with_reducible rfl)
          try simp only [Act.put, List.setIfInBounds_toArray, List.set_cons_zero, List.set_cons_succ]
          refine wpAnyH_take (i := 6) (v := ?v5045) HO.out.2.2.2.2.2.2.1 (by kernel_rfl) (by kernel_rfl) (by kernel_rfl) (fun _ _ _ h => h) (Or.inl ⟨by rfl, ?hy5045⟩) (by assumption) ?rest5045
          case hy5045 => (intro w1 hSw; (try dsimp only at hSw); obtain ⟨h0, -⟩ := hSw; go_simp; try with_reducible rfl)
          try simp only [Act.put, List.setIfInBounds_toArray, List.set_cons_zero, List.set_cons_succ]
          refine wpAnyH_take (i := 7) (v := ?v5046) HO.out.2.2.2.2.2.2.2.1 (by kernel_rfl) (by kernel_rfl) (by kernel_rfl) (fun _ _ _ h => h) (Or.inl ⟨by rfl, ?hy5046⟩) (by assumption) ?rest5046
          case hy5046 => (intro w1 hSw; (try dsimp only at hSw); obtain ⟨h0, -⟩ := hSw; go_simp; try with_reducible rfl)
          try simp only [Act.put, List.setIfInBounds_toArray, List.set_cons_zero, List.set_cons_succ]
          refine wpAnyH_ready (rs := [8]) (by kernel_rfl) (by simp) ?_
          refine AllReadyH.cons HO.out.2.2.2.2.2.2.2.2.1 (fun K hK => ?_) AllReadyH.nil
          go_simp
          have NE619 := Lib.hid (Nat.ne_of_lt PC.lt)
          have LE620 := Lib.hid LOW.size
          obtain ⟨w616, hw617, hb618, C6⟩ := alloc_new w614 Cl.zero.arr CT
          replace hw617 : w614.alloc (.cells #[.bool false, .bool false, .slice none 0 0, .bool false, .int .u64 0, .bool false, .slice none 0 0, .bool false, .int .u64 0, .bool false, .slice none 0 0, .bool false, .int .u64 0, .bool false, .slice none 0 0, .bool false, .int .u64 0, .bool false, .slice none 0 0, .bool false, .int .u64 0, .bool false, .slice none 0 0, .bool false, .int .u64 0] CT) = w616 := hw617
          replace PC := PC.later hb618
          replace R4 := R4.later hb618
          replace R7 := R7.later hb618
          replace TN := TN.later hb618
          replace LOW := LOW.trans (hb618.mono LOW.size)
          clear hb618
          rw [hw617]
          clear hw617
          try clear hHeld
          refine hK.out _ _ (⟨PC, trivial⟩) (fun hHeld => ?_)
          clear hK K
          try simp only [Act.put, List.setIfInBounds_toArray, List.set_cons_zero, List.set_cons_succ]
          refine wpAnyH_ready (rs := [10]) (by kernel_rfl) (by simp) ?_
          refine AllReadyH.cons HO.out.2.2.2.2.2.2.2.2.2.2.1 (fun K hK => ?_) AllReadyH.nil
          rw [if_pos (by rfl)]
          refine wp_store_cl _ _ Cl.zero (exA ta tc) w614.heap.size rfl (by rfl) (by rfl) C6 ?_
          intro w621 p622 j623
          have mv624 := j623.blk NE619.out PC
          have mv625 := j623.blk (Blk.ne R4 C6 (by decide)) R4
          have mv626 := j623.blk (Blk.ne R7 C6 (by decide)) R7
          have mv627 := j623.ts C6 (cl_no _ _) TN
          have mv628 := LOW.trans (j623.below LE620.out)
          replace PC := mv624
          replace R4 := mv625
          replace R7 := mv626
          replace TN := mv627
          replace LOW := mv628
          replace C6 := p622
          try clear hHeld
          refine hK.out _ _ (⟨PC, trivial⟩) (fun hHeld => ?_)
          clear hK K
          simp only [Act.put]
          refine wpAnyH_ready (rs := [11]) (by kernel_rfl) (by simp) ?_
          refine AllReadyH.cons HO.out.2.2.2.2.2.2.2.2.2.2.2.1 (fun K hK => ?_) AllReadyH.nil
          rw [if_pos (by rfl)]
          refine wp_store_rq _ _ w367.heap.size rfl (by rfl) (by rfl) R7 rfl (by rfl) (by first | (simp [Value.oneCell']; done) | simp [rq, Value.oneCell']) ?_
          intro w629 p630 j631
          have mv632 := j631.blk (Blk.ne PC R7 (by decide)) PC
          have mv633 := j631.blk NE610.out R4
          have mv634 := j631.blk (Blk.ne C6 R7 (by decide)) C6
          have mv635 := j631.ts R7 (rq0_no ne97) TN
          have mv636 := LOW.trans (j631.below LE611.out)
          replace PC := mv632
          replace R4 := mv633
          replace C6 := mv634
          replace TN := mv635
          replace LOW := mv636
          replace R7 := p630
          try clear hHeld
          refine hK.out _ _ (⟨PC, trivial⟩) (fun hHeld => ?_)
          clear hK K
          simp only [Act.put]
          refine wpAnyH_take (i := 12) (v := ?v5047) HO.out.2.2.2.2.2.2.2.2.2.2.2.2 (by kernel_rfl) (by kernel_rfl) (by kernel_rfl) (fun _ _ _ h => h) (Or.inl ⟨by rfl, ?hy5047⟩) (by assumption) ?rest5047
          case hy5047 => (intro w1 hSw; (try dsimp only at hSw); obtain ⟨h0, -⟩ := hSw; go_simp; try with_reducible rfl)
          try simp only [Act.put, List.setIfInBounds_toArray, List.set_cons_zero, List.set_cons_succ]
          refine wpAnyH_done (by kernel_rfl) ?_ _
          go_wp2_with fail
          go_meet
          exact ⟨_, rfl, rfl, PC, R4, TN, LOW⟩
        refine AllReadyH.cons HO.out.2.2.2.2.2.2.2.2.1 (fun K hK => ?_) AllReadyH.nil
        go_simp
        have NE640 := Lib.hid (Nat.ne_of_lt PC.lt)
        have LE641 := Lib.hid LOW.size
        obtain ⟨w637, hw638, hb639, C6⟩ := alloc_new w612 Cl.zero.arr CT
        replace hw638 : w612.alloc (.cells #[.bool false, .bool false, .slice none 0 0, .bool false, .int .u64 0, .bool false, .slice none 0 0, .bool false, .int .u64 0, .bool false, .slice none 0 0, .bool false, .int .u64 0, .bool false, .slice none 0 0, .bool false, .int .u64 0, .bool false, .slice none 0 0, .bool false, .int .u64 0, .bool false, .slice none 0 0, .bool false, .int .u64 0] CT) = w637 := hw638
        replace PC := PC.later hb639
        replace R4 := R4.later hb639
        replace R7 := R7.later hb639
        replace TN := TN.later hb639
        replace TO := TO.later hb639
        replace LOW := LOW.trans (hb639.mono LOW.size)
        clear hb639
        rw [hw638]
        clear hw638
        try clear hHeld
        refine hK.out _ _ (⟨PC, trivial⟩) (fun hHeld => ?_)
        clear hK K
        try simp only [Act.put, List.setIfInBounds_toArray, List.set_cons_zero, List.set_cons_succ]
        refine wpAnyH_ready (rs := [3]) (by kernel_rfl) (by simp) ?_
        refine AllReadyH.cons HO.out.2.2.2.1 (fun K hK => ?_) AllReadyH.nil
        go_simp
        obtain ⟨V, hi⟩ := ask_again (x := exA ta tc) (k := 1) (n := 0) (by omega) (by omega) a_real a_rises a_fit (by omega) (by decide) rfl rfl rfl rfl rfl
        refine (ask_err hi TO TN (by rfl) (HG.out.2.later LOW)).mono ?_
        rintro e w642 ⟨rfl, hb643⟩
        replace PC := PC.later hb643
        replace R4 := R4.later hb643
        replace R7 := R7.later hb643
        replace C6 := C6.later hb643
        replace TN := TN.later hb643
        replace TO := TO.later hb643
        replace LOW := LOW.trans (hb643.mono LOW.size)
        clear hb643
        clear TO hi
        try clear hHeld
        refine hK.out _ _ (⟨PC, trivial⟩) (fun hHeld => ?_)
        clear hK K
        try simp only [Act.put, List.setIfInBounds_toArray, List.set_cons_zero, List.set_cons_succ]
        refine wpAnyH_take (i := 4) (v := ?v5048) HO.out.2.2.2.2.1 (by kernel_rfl) (by kernel_rfl) (by kernel_rfl) (fun _ _ _ h => h) (Or.inl ⟨by rfl, ?hy5048⟩) (by assumption) ?rest5048
        case hy5048 => (intro w1 hSw; (try dsimp only at hSw); obtain ⟨h0, -⟩ := hSw; go_simp; try with_reducible rfl)
        try simp only [Act.put, List.setIfInBounds_toArray, List.set_cons_zero, List.set_cons_succ]
        refine wpAnyH_take (i := 5) (v := ?v5049) HO.out.2.2.2.2.2.1 (by kernel_rfl) (by kernel_rfl) (by kernel_rfl) (fun _ _ _ h => h) (Or.inl ⟨by rfl, ?hy5049⟩) (by assumption) ?rest5049
        case hy5049 => (intro w1 hSw; (try dsimp only at hSw); obtain ⟨h0, -⟩ := hSw; go_simp; try with_reducible rfl)
        try simp only [Act.put, List.setIfInBounds_toArray, List.set_cons_zero, List.set_cons_succ]
        refine wpAnyH_take (i := 6) (v := ?v5050) HO.out.2.2.2.2.2.2.1 (by kernel_rfl) (by kernel_rfl) (by kernel_rfl) (fun _ _ _ h => h) (Or.inl ⟨by rfl, ?hy5050⟩) (by assumption) ?rest5050
        case hy5050 => (intro w1 hSw; (try dsimp only at hSw); obtain ⟨h0, -⟩ := hSw; go_simp; try with_reducible rfl)
        try simp only [Act.put, List.setIfInBounds_toArray, List.set_cons_zero, List.set_cons_succ]
        refine wpAnyH_take (i := 7) (v := ?v5051) HO.out.2.2.2.2.2.2.2.1 (by kernel_rfl) (by kernel_rfl) (by kernel_rfl) (fun _ _ _ h => h) (Or.inl ⟨by rfl, ?hy5051⟩) (by assumption) ?rest5051
        case hy5051 => (intro w1 hSw; (try dsimp only at hSw); obtain ⟨h0, -⟩ := hSw; go_simp; try with_reducible rfl)
        try simp only [Act.put, List.setIfInBounds_toArray, List.set_cons_zero, List.set_cons_succ]
        refine wpAnyH_ready (rs := [10]) (by kernel_rfl) (by simp) ?_
        refine AllReadyH.cons HO.out.2.2.2.2.2.2.2.2.2.2.1 (fun K hK => ?_) AllReadyH.nil
        rw [if_pos (by rfl)]
        refine wp_store_cl _ _ Cl.zero (exA ta tc) w612.heap.size rfl (by rfl) (by rfl) C6 ?_
        intro w644 p645 j646
        have mv647 := j646.blk NE640.out PC
        have mv648 := j646.blk (Blk.ne R4 C6 (by decide)) R4
        have mv649 := j646.blk (Blk.ne R7 C6 (by decide)) R7
        have mv650 := j646.ts C6 (cl_no _ _) TN
        have mv651 := LOW.trans (j646.below LE641.out)
        replace PC := mv647
        replace R4 := mv648
        replace R7 := mv649
        replace TN := mv650
        replace LOW := mv651
        replace C6 := p645
        try clear hHeld
        refine hK.out _ _ (⟨PC, trivial⟩) (fun hHeld => ?_)
        clear hK K
        simp only [Act.put]
        refine wpAnyH_ready (rs := [11]) (by kernel_rfl) (by simp) ?_
        refine AllReadyH.cons HO.out.2.2.2.2.2.2.2.2.2.2.2.1 (fun K hK => ?_) AllReadyH.nil
        rw [if_pos (by rfl)]
        refine wp_store_rq _ _ w367.heap.size rfl (by rfl) (by rfl) R7 rfl (by rfl) (by first | (simp [Value.oneCell']; done) | simp [rq, Value.oneCell']) ?_
        intro w652 p653 j654
        have mv655 := j654.blk (Blk.ne PC R7 (by decide)) PC
        have mv656 := j654.blk NE610.out R4
        have mv657 := j654.blk (Blk.ne C6 R7 (by decide)) C6
        have mv658 := j654.ts R7 (rq0_no ne97) TN
        have mv659 := LOW.trans (j654.below LE611.out)
        replace PC := mv655
        replace R4 := mv656
        replace C6 := mv657
        replace TN := mv658
        replace LOW := mv659
        replace R7 := p653
        try clear hHeld
        refine hK.out _ _ (⟨PC, trivial⟩) (fun hHeld => ?_)
        clear hK K
        simp only [Act.put]
        refine wpAnyH_take (i := 12) (v := ?v5052) HO.out.2.2.2.2.2.2.2.2.2.2.2.2 (by kernel_rfl) (by kernel_rfl) (by kernel_rfl) (fun _ _ _ h => h) (Or.inl ⟨by rfl, ?hy5052⟩) (by assumption) ?rest5052
        case hy5052 => (intro w1 hSw; (try dsimp only at hSw); obtain ⟨h0, -⟩ := hSw; go_simp; try with_reducible rfl)
        try simp only [Act.put, List.setIfInBounds_toArray, List.set_cons_zero, List.set_cons_succ]
        refine wpAnyH_done (by kernel_rfl) ?_ _
        go_wp2_with fail
        go_meet
        exact ⟨_, rfl, rfl, PC, R4, TN, LOW⟩
      refine AllReadyH.cons HO.out.2.2.2.2.2.2.2.2.1 (fun K hK => ?_) AllReadyH.nil
      go_simp
      have NE663 := Lib.hid (Nat.ne_of_lt PC.lt)
      have LE664 := Lib.hid LOW.size
      obtain ⟨w660, hw661, hb662, C6⟩ := alloc_new w607 Cl.zero.arr CT
      replace hw661 : w607.alloc (.cells #[.bool false, .bool false, .slice none 0 0, .bool false, .int .u64 0, .bool false, .slice none 0 0, .bool false, .int .u64 0, .bool false, .slice none 0 0, .bool false, .int .u64 0, .bool false, .slice none 0 0, .bool false, .int .u64 0, .bool false, .slice none 0 0, .bool false, .int .u64 0, .bool false, .slice none 0 0, .bool false, .int .u64 0] CT) = w660 := hw661
      replace PC := PC.later hb662
      replace R4 := R4.later hb662
      replace R7 := R7.later hb662
      replace TN := TN.later hb662
      replace TA := TA.later hb662
      replace LOW := LOW.trans (hb662.mono LOW.size)
      clear hb662
      rw [hw661]
      clear hw661
      try clear hHeld
      refine hK.out _ _ (⟨PC, trivial⟩) (fun hHeld => ?_)
      clear hK K
      try simp only [Act.put, List.setIfInBounds_toArray, List.set_cons_zero, List.set_cons_succ]
      refine wpAnyH_ready (rs := [2]) (by kernel_rfl) (by simp) ?_
      refine AllReadyH.cons HO.out.2.2.1 (fun K hK => ?_) AllReadyH.nil
      go_simp
      refine (of_any (l := [[97]]) TA a_fit a_of).mono ?_
      rintro e w665 ⟨tb, tbc, rfl, TO, hb666⟩
      replace PC := PC.later hb666
      replace R4 := R4.later hb666
      replace R7 := R7.later hb666
      replace C6 := C6.later hb666
      replace TN := TN.later hb666
      replace TA := TA.later hb666
      replace LOW := LOW.trans (hb666.mono LOW.size)
      clear hb666
      clear TA
      try clear hHeld
      refine hK.out _ _ (⟨PC, trivial⟩) (fun hHeld => ?_)
      clear hK K
      try simp only [Act.put, List.setIfInBounds_toArray, List.set_cons_zero, List.set_cons_succ]
      refine wpAnyH_ready (rs := [3]) (by kernel_rfl) (by simp) ?_
      refine AllReadyH.cons HO.out.2.2.2.1 (fun K hK => ?_) AllReadyH.nil
      go_simp
      obtain ⟨V, hi⟩ := ask_again (x := exA ta tc) (k := 1) (n := 0) (by omega) (by omega) a_real a_rises a_fit (by omega) (by decide) rfl rfl rfl rfl rfl
      refine (ask_err hi TO TN (by rfl) (HG.out.2.later LOW)).mono ?_
      rintro e w667 ⟨rfl, hb668⟩
      replace PC := PC.later hb668
      replace R4 := R4.later hb668
      replace R7 := R7.later hb668
      replace C6 := C6.later hb668
      replace TN := TN.later hb668
      replace TO := TO.later hb668
      replace LOW := LOW.trans (hb668.mono LOW.size)
      clear hb668
      clear TO hi
      try clear hHeld
      refine hK.out _ _ (⟨PC, trivial⟩) (fun hHeld => ?_)
      clear hK K
      try simp only [Act.put, List.setIfInBounds_toArray, List.set_cons_zero, List.set_cons_succ]
      refine wpAnyH_take (i := 4) (v := ?v5053) HO.out.2.2.2.2.1 (by kernel_rfl) (by kernel_rfl) (by kernel_rfl) (fun _ _ _ h => h) (Or.inl ⟨by rfl, ?hy5053⟩) (by assumption) ?rest5053
      case hy5053 => (intro w1 hSw; (try dsimp only at hSw); obtain ⟨h0, -⟩ := hSw; go_simp; try with_reducible rfl)
      try simp only [Act.put, List.setIfInBounds_toArray, List.set_cons_zero, List.set_cons_succ]
      refine wpAnyH_take (i := 5) (v := ?v5054) HO.out.2.2.2.2.2.1 (by kernel_rfl) (by kernel_rfl) (by kernel_rfl) (fun _ _ _ h => h) (Or.inl ⟨by rfl, ?hy5054⟩) (by assumption) ?rest5054
      case hy5054 => (intro w1 hSw; (try dsimp only at hSw); obtain ⟨h0, -⟩ := hSw; go_simp; try with_reducible rfl)
      try simp only [Act.put, List.setIfInBounds_toArray, List.set_cons_zero, List.set_cons_succ]
      refine wpAnyH_take (i := 6) (v := ?v5055) HO.out.2.2.2.2.2.2.1 (by kernel_rfl) (by kernel_rfl) (by kernel_rfl) (fun _ _ _ h => h) (Or.inl ⟨by rfl, ?hy5055⟩) (by assumption) ?rest5055
      case hy5055 => (intro w1 hSw; (try dsimp only at hSw); obtain ⟨h0, -⟩ := hSw; go_simp; try with_reducible rfl)
      try simp only [Act.put, List.setIfInBounds_toArray, List.set_cons_zero, List.set_cons_succ]
      refine wpAnyH_take (i := 7) (v := ?v5056) HO.out.2.2.2.2.2.2.2.1 (by kernel_rfl) (by kernel_rfl) (by kernel_rfl) (fun _ _ _ h => h) (Or.inl ⟨by rfl, ?hy5056⟩) (by assumption) ?rest5056
      case hy5056 => (intro w1 hSw; (try dsimp only at hSw); obtain ⟨h0, -⟩ := hSw; go_simp; try with_reducible rfl)
      try simp only [Act.put, List.setIfInBounds_toArray, List.set_cons_zero, List.set_cons_succ]
      refine wpAnyH_ready (rs := [10]) (by kernel_rfl) (by simp) ?_
      refine AllReadyH.cons HO.out.2.2.2.2.2.2.2.2.2.2.1 (fun K hK => ?_) AllReadyH.nil
      rw [if_pos (by rfl)]
      refine wp_store_cl _ _ Cl.zero (exA ta tc) w607.heap.size rfl (by rfl) (by rfl) C6 ?_
      intro w669 p670 j671
      have mv672 := j671.blk NE663.out PC
      have mv673 := j671.blk (Blk.ne R4 C6 (by decide)) R4
      have mv674 := j671.blk (Blk.ne R7 C6 (by decide)) R7
      have mv675 := j671.ts C6 (cl_no _ _) TN
      have mv676 := LOW.trans (j671.below LE664.out)
      replace PC := mv672
      replace R4 := mv673
      replace R7 := mv674
      replace TN := mv675
      replace LOW := mv676
      replace C6 := p670
      try clear hHeld
      refine hK.out _ _ (⟨PC, trivial⟩) (fun hHeld => ?_)
      clear hK K
      simp only [Act.put]
      refine wpAnyH_ready (rs := [11]) (by kernel_rfl) (by simp) ?_
      refine AllReadyH.cons HO.out.2.2.2.2.2.2.2.2.2.2.2.1 (fun K hK => ?_) AllReadyH.nil
      rw [if_pos (by rfl)]
      refine wp_store_rq _ _ w367.heap.size rfl (by rfl) (by rfl) R7 rfl (by rfl) (by first | (simp [Value.oneCell']; done) | simp [rq, Value.oneCell']) ?_
      intro w677 p678 j679
      have mv680 := j679.blk (Blk.ne PC R7 (by decide)) PC
      have mv681 := j679.blk NE610.out R4
      have mv682 := j679.blk (Blk.ne C6 R7 (by decide)) C6
      have mv683 := j679.ts R7 (rq0_no ne97) TN
      have mv684 := LOW.trans (j679.below LE611.out)
      replace PC := mv680
      replace R4 := mv681
      replace C6 := mv682
      replace TN := mv683
      replace LOW := mv684
      replace R7 := p678
      try clear hHeld
      refine hK.out _ _ (⟨PC, trivial⟩) (fun hHeld => ?_)
      clear hK K
      simp only [Act.put]
      refine wpAnyH_take (i := 12) (v := ?v5057) HO.out.2.2.2.2.2.2.2.2.2.2.2.2 (by kernel_rfl) (by kernel_rfl) (by kernel_rfl) (fun _ _ _ h => h) (Or.inl ⟨by rfl, ?hy5057⟩) (by assumption) ?rest5057
      case hy5057 => (intro w1 hSw; (try dsimp only at hSw); obtain ⟨h0, -⟩ := hSw; go_simp; try with_reducible rfl)
      try simp only [Act.put, List.setIfInBounds_toArray, List.set_cons_zero, List.set_cons_succ]
      refine wpAnyH_done (by kernel_rfl) ?_ _
      go_wp2_with fail
      go_meet
      exact ⟨_, rfl, rfl, PC, R4, TN, LOW⟩
    refine AllReadyH.cons HO.out.2.2.2.2.2.2.2.2.1 (fun K hK => ?_) ?_
    · go_simp
      have NE688 := Lib.hid (Nat.ne_of_lt PC.lt)
      have LE689 := Lib.hid LOW.size
      obtain ⟨w685, hw686, hb687, C6⟩ := alloc_new w364 Cl.zero.arr CT
      replace hw686 : w364.alloc (.cells #[.bool false, .bool false, .slice none 0 0, .bool false, .int .u64 0, .bool false, .slice none 0 0, .bool false, .int .u64 0, .bool false, .slice none 0 0, .bool false, .int .u64 0, .bool false, .slice none 0 0, .bool false, .int .u64 0, .bool false, .slice none 0 0, .bool false, .int .u64 0, .bool false, .slice none 0 0, .bool false, .int .u64 0] CT) = w685 := hw686
      replace PC := PC.later hb687
      replace R4 := R4.later hb687
      replace TN := TN.later hb687
      replace LOW := LOW.trans (hb687.mono LOW.size)
      clear hb687
      rw [hw686]
      clear hw686
      try clear hHeld
      refine hK.out _ _ (⟨PC, trivial⟩) (fun hHeld => ?_)
      clear hK K
      try simp only [Act.put, List.setIfInBounds_toArray, List.set_cons_zero, List.set_cons_succ]
      refine wpAnyH_ready (rs := [1, 9]) (by kernel_rfl) (by simp) ?_
      refine AllReadyH.cons HO.out.2.1 (fun K hK => ?_) ?_
      · go_simp
        have LE693 := Lib.hid LOW.size
        obtain ⟨w690, hw691, hb692, QA⟩ := alloc_new w685 #[.string ⟨#[97]⟩] 9
        replace PC := PC.later hb692
        replace R4 := R4.later hb692
        replace C6 := C6.later hb692
        replace TN := TN.later hb692
        replace LOW := LOW.trans (hb692.mono LOW.size)
        clear hb692
        have TA : TsAt w690 _ [[97]] := ts_block (l := [[97]]) QA (by decide) rfl
        rw [hw691]
        clear hw691 QA
        try clear hHeld
        refine hK.out _ _ (⟨PC, trivial⟩) (fun hHeld => ?_)
        clear hK K
        try simp only [Act.put, List.setIfInBounds_toArray, List.set_cons_zero, List.set_cons_succ]
        refine wpAnyH_ready (rs := [2, 9]) (by kernel_rfl) (by simp) ?_
        refine AllReadyH.cons HO.out.2.2.1 (fun K hK => ?_) ?_
        · go_simp
          refine (of_any (l := [[97]]) TA a_fit a_of).mono ?_
          rintro e w694 ⟨tb, tbc, rfl, TO, hb695⟩
          replace PC := PC.later hb695
          replace R4 := R4.later hb695
          replace C6 := C6.later hb695
          replace TN := TN.later hb695
          replace TA := TA.later hb695
          replace LOW := LOW.trans (hb695.mono LOW.size)
          clear hb695
          clear TA
          try clear hHeld
          refine hK.out _ _ (⟨PC, trivial⟩) (fun hHeld => ?_)
          clear hK K
          try simp only [Act.put, List.setIfInBounds_toArray, List.set_cons_zero, List.set_cons_succ]
          refine wpAnyH_ready (rs := [3, 9]) (by kernel_rfl) (by simp) ?_
          refine AllReadyH.cons HO.out.2.2.2.1 (fun K hK => ?_) ?_
          · go_simp
            obtain ⟨V, hi⟩ := ask_again (x := exA ta tc) (k := 1) (n := 0) (by omega) (by omega) a_real a_rises a_fit (by omega) (by decide) rfl rfl rfl rfl rfl
            refine (ask_err hi TO TN (by rfl) (HG.out.2.later LOW)).mono ?_
            rintro e w696 ⟨rfl, hb697⟩
            replace PC := PC.later hb697
            replace R4 := R4.later hb697
            replace C6 := C6.later hb697
            replace TN := TN.later hb697
            replace TO := TO.later hb697
            replace LOW := LOW.trans (hb697.mono LOW.size)
            clear hb697
            clear TO hi
            try clear hHeld
            refine hK.out _ _ (⟨PC, trivial⟩) (fun hHeld => ?_)
            clear hK K
            try simp only [Act.put, List.setIfInBounds_toArray, List.set_cons_zero, List.set_cons_succ]
            refine wpAnyH_take (i := 4) (v := ?v5058) HO.out.2.2.2.2.1 (by kernel_rfl) (by kernel_rfl) (by kernel_rfl) (fun _ _ _ h => h) (Or.inl ⟨by rfl, ?hy5058⟩) (by assumption) ?rest5058
            case hy5058 => (intro w1 hSw; (try dsimp only at hSw); obtain ⟨h0, -⟩ := hSw; go_simp; try with_reducible rfl)
            try simp only [Act.put, List.setIfInBounds_toArray, List.set_cons_zero, List.set_cons_succ]
            refine wpAnyH_take (i := 5) (v := ?v5059) HO.out.2.2.2.2.2.1 (by kernel_rfl) (by kernel_rfl) (by kernel_rfl) (fun _ _ _ h => h) (Or.inl ⟨by rfl, ?hy5059⟩) (by assumption) ?rest5059
            case hy5059 => (intro w1 hSw; (try dsimp only at hSw); obtain ⟨h0, -⟩ := hSw; go_simp; try with_reducible rfl)
            try simp only [Act.put, List.setIfInBounds_toArray, List.set_cons_zero, List.set_cons_succ]
            refine wpAnyH_take (i := 6) (v := ?v5060) HO.out.2.2.2.2.2.2.1 (by kernel_rfl) (by kernel_rfl) (by kernel_rfl) (fun _ _ _ h => h) (Or.inl ⟨by rfl, ?hy5060⟩) (by assumption) ?rest5060
            case hy5060 => (intro w1 hSw; (try dsimp only at hSw); obtain ⟨h0, -⟩ := hSw; go_simp; try with_reducible rfl)
            try simp only [Act.put, List.setIfInBounds_toArray, List.set_cons_zero, List.set_cons_succ]
            refine wpAnyH_take (i := 7) (v := ?v5061) HO.out.2.2.2.2.2.2.2.1 (by kernel_rfl) (by kernel_rfl) (by kernel_rfl) (fun _ _ _ h => h) (Or.inl ⟨by rfl, ?hy5061⟩) (by assumption) ?rest5061
            case hy5061 => (intro w1 hSw; (try dsimp only at hSw); obtain ⟨h0, -⟩ := hSw; go_simp; try with_reducible rfl)
            try simp only [Act.put, List.setIfInBounds_toArray, List.set_cons_zero, List.set_cons_succ]
            refine wpAnyH_ready (rs := [9]) (by kernel_rfl) (by simp) ?_
            refine AllReadyH.cons HO.out.2.2.2.2.2.2.2.2.2.1 (fun K hK => ?_) AllReadyH.nil
            go_simp
            have NE701 := Lib.hid (Nat.ne_of_lt R4.lt)
            have LE702 := Lib.hid LOW.size
            obtain ⟨w698, hw699, hb700, R7⟩ := alloc_new w696 rq0 RT
            replace PC := PC.later hb700
            replace R4 := R4.later hb700
            replace C6 := C6.later hb700
            replace TN := TN.later hb700
            replace LOW := LOW.trans (hb700.mono LOW.size)
            clear hb700
            rw [hw699]
            clear hw699
            try clear hHeld
            refine hK.out _ _ (⟨PC, trivial⟩) (fun hHeld => ?_)
            clear hK K
            try simp only [Act.put, List.setIfInBounds_toArray, List.set_cons_zero, List.set_cons_succ]
            refine wpAnyH_ready (rs := [10]) (by kernel_rfl) (by simp) ?_
            refine AllReadyH.cons HO.out.2.2.2.2.2.2.2.2.2.2.1 (fun K hK => ?_) AllReadyH.nil
            rw [if_pos (by rfl)]
            refine wp_store_cl _ _ Cl.zero (exA ta tc) w364.heap.size rfl (by rfl) (by rfl) C6 ?_
            intro w703 p704 j705
            have mv706 := j705.blk NE688.out PC
            have mv707 := j705.blk (Blk.ne R4 C6 (by decide)) R4
            have mv708 := j705.blk (Blk.ne R7 C6 (by decide)) R7
            have mv709 := j705.ts C6 (cl_no _ _) TN
            have mv710 := LOW.trans (j705.below LE689.out)
            replace PC := mv706
            replace R4 := mv707
            replace R7 := mv708
            replace TN := mv709
            replace LOW := mv710
            replace C6 := p704
            try clear hHeld
            refine hK.out _ _ (⟨PC, trivial⟩) (fun hHeld => ?_)
            clear hK K
            simp only [Act.put]
            refine wpAnyH_ready (rs := [11]) (by kernel_rfl) (by simp) ?_
            refine AllReadyH.cons HO.out.2.2.2.2.2.2.2.2.2.2.2.1 (fun K hK => ?_) AllReadyH.nil
            rw [if_pos (by rfl)]
            refine wp_store_rq _ _ w696.heap.size rfl (by rfl) (by rfl) R7 rfl (by rfl) (by first | (simp [Value.oneCell']; done) | simp [rq, Value.oneCell']) ?_
            intro w711 p712 j713
            have mv714 := j713.blk (Blk.ne PC R7 (by decide)) PC
            have mv715 := j713.blk NE701.out R4
            have mv716 := j713.blk (Blk.ne C6 R7 (by decide)) C6
            have mv717 := j713.ts R7 (rq0_no ne97) TN
            have mv718 := LOW.trans (j713.below LE702.out)
            replace PC := mv714
            replace R4 := mv715
            replace C6 := mv716
            replace TN := mv717
            replace LOW := mv718
            replace R7 := p712
            try clear hHeld
            refine hK.out _ _ (⟨PC, trivial⟩) (fun hHeld => ?_)
            clear hK K
            simp only [Act.put]
            refine wpAnyH_take (i := 12) (v := ?v5062) HO.out.2.2.2.2.2.2.2.2.2.2.2.2 (by kernel_rfl) (by kernel_rfl) (by kernel_rfl) (fun _ _ _ h => h) (Or.inl ⟨by rfl, ?hy5062⟩) (by assumption) ?rest5062
            case hy5062 => (intro w1 hSw; (try dsimp only at hSw); obtain ⟨h0, -⟩ := hSw; go_simp; try with_reducible rfl)
            try simp only [Act.put, List.setIfInBounds_toArray, List.set_cons_zero, List.set_cons_succ]
            refine wpAnyH_done (by kernel_rfl) ?_ _
            go_wp2_with fail
            go_meet
            exact ⟨_, rfl, rfl, PC, R4, TN, LOW⟩
          refine AllReadyH.cons HO.out.2.2.2.2.2.2.2.2.2.1 (fun K hK => ?_) AllReadyH.nil
          go_simp
          have NE722 := Lib.hid (Nat.ne_of_lt R4.lt)
          have LE723 := Lib.hid LOW.size
          obtain ⟨w719, hw720, hb721, R7⟩ := alloc_new w694 rq0 RT
          replace PC := PC.later hb721
          replace R4 := R4.later hb721
          replace C6 := C6.later hb721
          replace TN := TN.later hb721
          replace TO := TO.later hb721
          replace LOW := LOW.trans (hb721.mono LOW.size)
          clear hb721
          rw [hw720]
          clear hw720
          try clear hHeld
          refine hK.out _ _ (⟨PC, trivial⟩) (fun hHeld => ?_)
          clear hK K
          try simp only [Act.put, List.setIfInBounds_toArray, List.set_cons_zero, List.set_cons_succ]
          refine wpAnyH_ready (rs := [3]) (by kernel_rfl) (by simp) ?_
          refine AllReadyH.cons HO.out.2.2.2.1 (fun K hK => ?_) AllReadyH.nil
          go_simp
          obtain ⟨V, hi⟩ := ask_again (x := exA ta tc) (k := 1) (n := 0) (by omega) (by omega) a_real a_rises a_fit (by omega) (by decide) rfl rfl rfl rfl rfl
          refine (ask_err hi TO TN (by rfl) (HG.out.2.later LOW)).mono ?_
          rintro e w724 ⟨rfl, hb725⟩
          replace PC := PC.later hb725
          replace R4 := R4.later hb725
          replace C6 := C6.later hb725
          replace R7 := R7.later hb725
          replace TN := TN.later hb725
          replace TO := TO.later hb725
          replace LOW := LOW.trans (hb725.mono LOW.size)
          clear hb725
          clear TO hi
          try clear hHeld
          refine hK.out _ _ (⟨PC, trivial⟩) (fun hHeld => ?_)
          clear hK K
          try simp only [Act.put, List.setIfInBounds_toArray, List.set_cons_zero, List.set_cons_succ]
          refine wpAnyH_take (i := 4) (v := ?v5063) HO.out.2.2.2.2.1 (by kernel_rfl) (by kernel_rfl) (by kernel_rfl) (fun _ _ _ h => h) (Or.inl ⟨by rfl, ?hy5063⟩) (by assumption) ?rest5063
          case hy5063 => (intro w1 hSw; (try dsimp only at hSw); obtain ⟨h0, -⟩ := hSw; go_simp; try with_reducible rfl)
          try simp only [Act.put, List.setIfInBounds_toArray, List.set_cons_zero, List.set_cons_succ]
          refine wpAnyH_take (i := 5) (v := ?v5064) HO.out.2.2.2.2.2.1 (by kernel_rfl) (by kernel_rfl) (by kernel_rfl) (fun _ _ _ h => h) (Or.inl ⟨by rfl, ?hy5064⟩) (by assumption) ?rest5064
          case hy5064 => (intro w1 hSw; (try dsimp only at hSw); obtain ⟨h0, -⟩ := hSw; go_simp; try with_reducible rfl)
          try simp only [Act.put, List.setIfInBounds_toArray, List.set_cons_zero, List.set_cons_succ]
          refine wpAnyH_take (i := 6) (v := ?v5065) HO.out.2.2.2.2.2.2.1 (by kernel_rfl) (by kernel_rfl) (by kernel_rfl) (fun _ _ _ h => h) (Or.inl ⟨by rfl, ?hy5065⟩) (by assumption) ?rest5065
          case hy5065 => (intro w1 hSw; (try dsimp only at hSw); obtain ⟨h0, -⟩ := hSw; go_simp; try with_reducible rfl)
          try simp only [Act.put, List.setIfInBounds_toArray, List.set_cons_zero, List.set_cons_succ]
          refine wpAnyH_take (i := 7) (v := ?v5066) HO.out.2.2.2.2.2.2.2.1 (by kernel_rfl) (by kernel_rfl) (by kernel_rfl) (fun _ _ _ h => h) (Or.inl ⟨by rfl, ?hy5066⟩) (by assumption) ?rest5066
          case hy5066 => (intro w1 hSw; (try dsimp only at hSw); obtain ⟨h0, -⟩ := hSw; go_simp; try with_reducible rfl)
          try simp only [Act.put, List.setIfInBounds_toArray, List.set_cons_zero, List.set_cons_succ]
          refine wpAnyH_ready (rs := [10]) (by kernel_rfl) (by simp) ?_
          refine AllReadyH.cons HO.out.2.2.2.2.2.2.2.2.2.2.1 (fun K hK => ?_) AllReadyH.nil
          rw [if_pos (by rfl)]
          refine wp_store_cl _ _ Cl.zero (exA ta tc) w364.heap.size rfl (by rfl) (by rfl) C6 ?_
          intro w726 p727 j728
          have mv729 := j728.blk NE688.out PC
          have mv730 := j728.blk (Blk.ne R4 C6 (by decide)) R4
          have mv731 := j728.blk (Blk.ne R7 C6 (by decide)) R7
          have mv732 := j728.ts C6 (cl_no _ _) TN
          have mv733 := LOW.trans (j728.below LE689.out)
          replace PC := mv729
          replace R4 := mv730
          replace R7 := mv731
          replace TN := mv732
          replace LOW := mv733
          replace C6 := p727
          try clear hHeld
          refine hK.out _ _ (⟨PC, trivial⟩) (fun hHeld => ?_)
          clear hK K
          simp only [Act.put]
          refine wpAnyH_ready (rs := [11]) (by kernel_rfl) (by simp) ?_
          refine AllReadyH.cons HO.out.2.2.2.2.2.2.2.2.2.2.2.1 (fun K hK => ?_) AllReadyH.nil
          rw [if_pos (by rfl)]
          refine wp_store_rq _ _ w694.heap.size rfl (by rfl) (by rfl) R7 rfl (by rfl) (by first | (simp [Value.oneCell']; done) | simp [rq, Value.oneCell']) ?_
          intro w734 p735 j736
          have mv737 := j736.blk (Blk.ne PC R7 (by decide)) PC
          have mv738 := j736.blk NE722.out R4
          have mv739 := j736.blk (Blk.ne C6 R7 (by decide)) C6
          have mv740 := j736.ts R7 (rq0_no ne97) TN
          have mv741 := LOW.trans (j736.below LE723.out)
          replace PC := mv737
          replace R4 := mv738
          replace C6 := mv739
          replace TN := mv740
          replace LOW := mv741
          replace R7 := p735
          try clear hHeld
          refine hK.out _ _ (⟨PC, trivial⟩) (fun hHeld => ?_)
          clear hK K
          simp only [Act.put]
          refine wpAnyH_take (i := 12) (v := ?v5067) HO.out.2.2.2.2.2.2.2.2.2.2.2.2 (by kernel_rfl) (by kernel_rfl) (by kernel_rfl) (fun _ _ _ h => h) (Or.inl ⟨by rfl, ?hy5067⟩) (by assumption) ?rest5067
          case hy5067 => (intro w1 hSw; (try dsimp only at hSw); obtain ⟨h0, -⟩ := hSw; go_simp; try with_reducible rfl)
          try simp only [Act.put, List.setIfInBounds_toArray, List.set_cons_zero, List.set_cons_succ]
          refine wpAnyH_done (by kernel_rfl) ?_ _
          go_wp2_with fail
          go_meet
          exact ⟨_, rfl, rfl, PC, R4, TN, LOW⟩
        refine AllReadyH.cons HO.out.2.2.2.2.2.2.2.2.2.1 (fun K hK => ?_) AllReadyH.nil
        go_simp
        have NE745 := Lib.hid (Nat.ne_of_lt R4.lt)
        have LE746 := Lib.hid LOW.size
        obtain ⟨w742, hw743, hb744, R7⟩ := alloc_new w690 rq0 RT
        replace PC := PC.later hb744
        replace R4 := R4.later hb744
        replace C6 := C6.later hb744
        replace TN := TN.later hb744
        replace TA := TA.later hb744
        replace LOW := LOW.trans (hb744.mono LOW.size)
        clear hb744
        rw [hw743]
        clear hw743
        try clear hHeld
        refine hK.out _ _ (⟨PC, trivial⟩) (fun hHeld => ?_)
        clear hK K
        try simp only [Act.put, List.setIfInBounds_toArray, List.set_cons_zero, List.set_cons_succ]
        refine wpAnyH_ready (rs := [2]) (by kernel_rfl) (by simp) ?_
        refine AllReadyH.cons HO.out.2.2.1 (fun K hK => ?_) AllReadyH.nil
        go_simp
        refine (of_any (l := [[97]]) TA a_fit a_of).mono ?_
        rintro e w747 ⟨tb, tbc, rfl, TO, hb748⟩
        replace PC := PC.later hb748
        replace R4 := R4.later hb748
        replace C6 := C6.later hb748
        replace R7 := R7.later hb748
        replace TN := TN.later hb748
        replace TA := TA.later hb748
        replace LOW := LOW.trans (hb748.mono LOW.size)
        clear hb748
        clear TA
        try clear hHeld
        refine hK.out _ _ (⟨PC, trivial⟩) (fun hHeld => ?_)
        clear hK K
        try simp only [Act.put, List.setIfInBounds_toArray, List.set_cons_zero, List.set_cons_succ]
        refine wpAnyH_ready (rs := [3]) (by kernel_rfl) (by simp) ?_
        refine AllReadyH.cons HO.out.2.2.2.1 (fun K hK => ?_) AllReadyH.nil
        go_simp
        obtain ⟨V, hi⟩ := ask_again (x := exA ta tc) (k := 1) (n := 0) (by omega) (by omega) a_real a_rises a_fit (by omega) (by decide) rfl rfl rfl rfl rfl
        refine (ask_err hi TO TN (by rfl) (HG.out.2.later LOW)).mono ?_
        rintro e w749 ⟨rfl, hb750⟩
        replace PC := PC.later hb750
        replace R4 := R4.later hb750
        replace C6 := C6.later hb750
        replace R7 := R7.later hb750
        replace TN := TN.later hb750
        replace TO := TO.later hb750
        replace LOW := LOW.trans (hb750.mono LOW.size)
        clear hb750
        clear TO hi
        try clear hHeld
        refine hK.out _ _ (⟨PC, trivial⟩) (fun hHeld => ?_)
        clear hK K
        try simp only [Act.put, List.setIfInBounds_toArray, List.set_cons_zero, List.set_cons_succ]
        refine wpAnyH_take (i := 4) (v := ?v5068) HO.out.2.2.2.2.1 (by kernel_rfl) (by kernel_rfl) (by kernel_rfl) (fun _ _ _ h => h) (Or.inl ⟨by rfl, ?hy5068⟩) (by assumption) ?rest5068
        case hy5068 => (intro w1 hSw; (try dsimp only at hSw); obtain ⟨h0, -⟩ := hSw; go_simp; try with_reducible rfl)
        try simp only [Act.put, List.setIfInBounds_toArray, List.set_cons_zero, List.set_cons_succ]
        refine wpAnyH_take (i := 5) (v := ?v5069) HO.out.2.2.2.2.2.1 (by kernel_rfl) (by kernel_rfl) (by kernel_rfl) (fun _ _ _ h => h) (Or.inl ⟨by rfl, ?hy5069⟩) (by assumption) ?rest5069
        case hy5069 => (intro w1 hSw; (try dsimp only at hSw); obtain ⟨h0, -⟩ := hSw; go_simp; try with_reducible rfl)
        try simp only [Act.put, List.setIfInBounds_toArray, List.set_cons_zero, List.set_cons_succ]
        refine wpAnyH_take (i := 6) (v := ?v5070) HO.out.2.2.2.2.2.2.1 (by kernel_rfl) (by kernel_rfl) (by kernel_rfl) (fun _ _ _ h => h) (Or.inl ⟨by rfl, ?hy5070⟩) (by assumption) ?rest5070
        case hy5070 => (intro w1 hSw; (try dsimp only at hSw); obtain ⟨h0, -⟩ := hSw; go_simp; try with_reducible rfl)
        try simp only [Act.put, List.setIfInBounds_toArray, List.set_cons_zero, List.set_cons_succ]
        refine wpAnyH_take (i := 7) (v := ?v5071) HO.out.2.2.2.2.2.2.2.1 (by kernel_rfl) (by kernel_rfl) (by kernel_rfl) (fun _ _ _ h => h) (Or.inl ⟨by rfl, ?hy5071⟩) (by assumption) ?rest5071
        case hy5071 => (intro w1 hSw; (try dsimp only at hSw); obtain ⟨h0, -⟩ := hSw; go_simp; try with_reducible rfl)
        try simp only [Act.put, List.setIfInBounds_toArray, List.set_cons_zero, List.set_cons_succ]
        refine wpAnyH_ready (rs := [10]) (by kernel_rfl) (by simp) ?_
        refine AllReadyH.cons HO.out.2.2.2.2.2.2.2.2.2.2.1 (fun K hK => ?_) AllReadyH.nil
        rw [if_pos (by rfl)]
        refine wp_store_cl _ _ Cl.zero (exA ta tc) w364.heap.size rfl (by rfl) (by rfl) C6 ?_
        intro w751 p752 j753
        have mv754 := j753.blk NE688.out PC
        have mv755 := j753.blk (Blk.ne R4 C6 (by decide)) R4
        have mv756 := j753.blk (Blk.ne R7 C6 (by decide)) R7
        have mv757 := j753.ts C6 (cl_no _ _) TN
        have mv758 := LOW.trans (j753.below LE689.out)
        replace PC := mv754
        replace R4 := mv755
        replace R7 := mv756
        replace TN := mv757
        replace LOW := mv758
        replace C6 := p752
        try clear hHeld
        refine hK.out _ _ (⟨PC, trivial⟩) (fun hHeld => ?_)
        clear hK K
        simp only [Act.put]
        refine wpAnyH_ready (rs := [11]) (by kernel_rfl) (by simp) ?_
        refine AllReadyH.cons HO.out.2.2.2.2.2.2.2.2.2.2.2.1 (fun K hK => ?_) AllReadyH.nil
        rw [if_pos (by rfl)]
        refine wp_store_rq _ _ w690.heap.size rfl (by rfl) (by rfl) R7 rfl (by rfl) (by first | (simp [Value.oneCell']; done) | simp [rq, Value.oneCell']) ?_
        intro w759 p760 j761
        have mv762 := j761.blk (Blk.ne PC R7 (by decide)) PC
        have mv763 := j761.blk NE745.out R4
        have mv764 := j761.blk (Blk.ne C6 R7 (by decide)) C6
        have mv765 := j761.ts R7 (rq0_no ne97) TN
        have mv766 := LOW.trans (j761.below LE746.out)
        replace PC := mv762
        replace R4 := mv763
        replace C6 := mv764
        replace TN := mv765
        replace LOW := mv766
        replace R7 := p760
        try clear hHeld
        refine hK.out _ _ (⟨PC, trivial⟩) (fun hHeld => ?_)
        clear hK K
        simp only [Act.put]
        refine wpAnyH_take (i := 12) (v := ?v5072) HO.out.2.2.2.2.2.2.2.2.2.2.2.2 (by kernel_rfl) (by kernel_rfl) (by kernel_rfl) (fun _ _ _ h => h) (Or.inl ⟨by rfl, ?hy5072⟩) (by assumption) ?rest5072
        case hy5072 => (intro w1 hSw; (try dsimp only at hSw); obtain ⟨h0, -⟩ := hSw; go_simp; try with_reducible rfl)
        try simp only [Act.put, List.setIfInBounds_toArray, List.set_cons_zero, List.set_cons_succ]
        refine wpAnyH_done (by kernel_rfl) ?_ _
        go_wp2_with fail
        go_meet
        exact ⟨_, rfl, rfl, PC, R4, TN, LOW⟩
      refine AllReadyH.cons HO.out.2.2.2.2.2.2.2.2.2.1 (fun K hK => ?_) AllReadyH.nil
      go_simp
      have NE770 := Lib.hid (Nat.ne_of_lt R4.lt)
      have LE771 := Lib.hid LOW.size
      obtain ⟨w767, hw768, hb769, R7⟩ := alloc_new w685 rq0 RT
      replace PC := PC.later hb769
      replace R4 := R4.later hb769
      replace C6 := C6.later hb769
      replace TN := TN.later hb769
      replace LOW := LOW.trans (hb769.mono LOW.size)
      clear hb769
      rw [hw768]
      clear hw768
      try clear hHeld
      refine hK.out _ _ (⟨PC, trivial⟩) (fun hHeld => ?_)
      clear hK K
      try simp only [Act.put, List.setIfInBounds_toArray, List.set_cons_zero, List.set_cons_succ]
      refine wpAnyH_ready (rs := [1]) (by kernel_rfl) (by simp) ?_
      refine AllReadyH.cons HO.out.2.1 (fun K hK => ?_) AllReadyH.nil
      go_simp
      have LE775 := Lib.hid LOW.size
      obtain ⟨w772, hw773, hb774, QA⟩ := alloc_new w767 #[.string ⟨#[97]⟩] 9
      replace PC := PC.later hb774
      replace R4 := R4.later hb774
      replace C6 := C6.later hb774
      replace R7 := R7.later hb774
      replace TN := TN.later hb774
      replace LOW := LOW.trans (hb774.mono LOW.size)
      clear hb774
      have TA : TsAt w772 _ [[97]] := ts_block (l := [[97]]) QA (by decide) rfl
      rw [hw773]
      clear hw773 QA
      try clear hHeld
      refine hK.out _ _ (⟨PC, trivial⟩) (fun hHeld => ?_)
      clear hK K
      try simp only [Act.put, List.setIfInBounds_toArray, List.set_cons_zero, List.set_cons_succ]
      refine wpAnyH_ready (rs := [2]) (by kernel_rfl) (by simp) ?_
      refine AllReadyH.cons HO.out.2.2.1 (fun K hK => ?_) AllReadyH.nil
      go_simp
      refine (of_any (l := [[97]]) TA a_fit a_of).mono ?_
      rintro e w776 ⟨tb, tbc, rfl, TO, hb777⟩
      replace PC := PC.later hb777
      replace R4 := R4.later hb777
      replace C6 := C6.later hb777
      replace R7 := R7.later hb777
      replace TN := TN.later hb777
      replace TA := TA.later hb777
      replace LOW := LOW.trans (hb777.mono LOW.size)
      clear hb777
      clear TA
      try clear hHeld
      refine hK.out _ _ (⟨PC, trivial⟩) (fun hHeld => ?_)
      clear hK K
      try simp only [Act.put, List.setIfInBounds_toArray, List.set_cons_zero, List.set_cons_succ]
      refine wpAnyH_ready (rs := [3]) (by kernel_rfl) (by simp) ?_
      refine AllReadyH.cons HO.out.2.2.2.1 (fun K hK => ?_) AllReadyH.nil
      go_simp
      obtain ⟨V, hi⟩ := ask_again (x := exA ta tc) (k := 1) (n := 0) (by omega) (by omega) a_real a_rises a_fit (by omega) (by decide) rfl rfl rfl rfl rfl
      refine (ask_err hi TO TN (by rfl) (HG.out.2.later LOW)).mono ?_
      rintro e w778 ⟨rfl, hb779⟩
      replace PC := PC.later hb779
      replace R4 := R4.later hb779
      replace C6 := C6.later hb779
      replace R7 := R7.later hb779
      replace TN := TN.later hb779
      replace TO := TO.later hb779
      replace LOW := LOW.trans (hb779.mono LOW.size)
      clear hb779
      clear TO hi
      try clear hHeld
      refine hK.out _ _ (⟨PC, trivial⟩) (fun hHeld => ?_)
      clear hK K
      try simp only [Act.put, List.setIfInBounds_toArray, List.set_cons_zero, List.set_cons_succ]
      refine wpAnyH_take (i := 4) (v := ?v5073) HO.out.2.2.2.2.1 (by kernel_rfl) (by kernel_rfl) (by kernel_rfl) (fun _ _ _ h => h) (Or.inl ⟨by rfl, ?hy5073⟩) (by assumption) ?rest5073
      case hy5073 => (intro w1 hSw; (try dsimp only at hSw); obtain ⟨h0, -⟩ := hSw; go_simp; try with_reducible rfl)
      try simp only [Act.put, List.setIfInBounds_toArray, List.set_cons_zero, List.set_cons_succ]
      refine wpAnyH_take (i := 5) (v := ?v5074) HO.out.2.2.2.2.2.1 (by kernel_rfl) (by kernel_rfl) (by kernel_rfl) (fun _ _ _ h => h) (Or.inl ⟨by rfl, ?hy5074⟩) (by assumption) ?rest5074
      case hy5074 => (intro w1 hSw; (try dsimp only at hSw); obtain ⟨h0, -⟩ := hSw; go_simp; try with_reducible rfl)
      try simp only [Act.put, List.setIfInBounds_toArray, List.set_cons_zero, List.set_cons_succ]
      refine wpAnyH_take (i := 6) (v := ?v5075) HO.out.2.2.2.2.2.2.1 (by kernel_rfl) (by kernel_rfl) (by kernel_rfl) (fun _ _ _ h => h) (Or.inl ⟨by rfl, ?hy5075⟩) (by assumption) ?rest5075
      case hy5075 => (intro w1 hSw; (try dsimp only at hSw); obtain ⟨h0, -⟩ := hSw; go_simp; try with_reducible rfl)
      try simp only [Act.put, List.setIfInBounds_toArray, List.set_cons_zero, List.set_cons_succ]
      refine wpAnyH_take (i := 7) (v := ?v5076) HO.out.2.2.2.2.2.2.2.1 (by kernel_rfl) (by kernel_rfl) (by kernel_rfl) (fun _ _ _ h => h) (Or.inl ⟨by rfl, ?hy5076⟩) (by assumption) ?rest5076
      case hy5076 => (intro w1 hSw; (try dsimp only at hSw); obtain ⟨h0, -⟩ := hSw; go_simp; try with_reducible rfl)
      try simp only [Act.put, List.setIfInBounds_toArray, List.set_cons_zero, List.set_cons_succ]
      refine wpAnyH_ready (rs := [10]) (by kernel_rfl) (by simp) ?_
      refine AllReadyH.cons HO.out.2.2.2.2.2.2.2.2.2.2.1 (fun K hK => ?_) AllReadyH.nil
      rw [if_pos (by rfl)]
      refine wp_store_cl _ _ Cl.zero (exA ta tc) w364.heap.size rfl (by rfl) (by rfl) C6 ?_
      intro w780 p781 j782
      have mv783 := j782.blk NE688.out PC
      have mv784 := j782.blk (Blk.ne R4 C6 (by decide)) R4
      have mv785 := j782.blk (Blk.ne R7 C6 (by decide)) R7
      have mv786 := j782.ts C6 (cl_no _ _) TN
      have mv787 := LOW.trans (j782.below LE689.out)
      replace PC := mv783
      replace R4 := mv784
      replace R7 := mv785
      replace TN := mv786
      replace LOW := mv787
      replace C6 := p781
      try clear hHeld
      refine hK.out _ _ (⟨PC, trivial⟩) (fun hHeld => ?_)
      clear hK K
      simp only [Act.put]
      refine wpAnyH_ready (rs := [11]) (by kernel_rfl) (by simp) ?_
      refine AllReadyH.cons HO.out.2.2.2.2.2.2.2.2.2.2.2.1 (fun K hK => ?_) AllReadyH.nil
      rw [if_pos (by rfl)]
      refine wp_store_rq _ _ w685.heap.size rfl (by rfl) (by rfl) R7 rfl (by rfl) (by first | (simp [Value.oneCell']; done) | simp [rq, Value.oneCell']) ?_
      intro w788 p789 j790
      have mv791 := j790.blk (Blk.ne PC R7 (by decide)) PC
      have mv792 := j790.blk NE770.out R4
      have mv793 := j790.blk (Blk.ne C6 R7 (by decide)) C6
      have mv794 := j790.ts R7 (rq0_no ne97) TN
      have mv795 := LOW.trans (j790.below LE771.out)
      replace PC := mv791
      replace R4 := mv792
      replace C6 := mv793
      replace TN := mv794
      replace LOW := mv795
      replace R7 := p789
      try clear hHeld
      refine hK.out _ _ (⟨PC, trivial⟩) (fun hHeld => ?_)
      clear hK K
      simp only [Act.put]
      refine wpAnyH_take (i := 12) (v := ?v5077) HO.out.2.2.2.2.2.2.2.2.2.2.2.2 (by kernel_rfl) (by kernel_rfl) (by kernel_rfl) (fun _ _ _ h => h) (Or.inl ⟨by rfl, ?hy5077⟩) (by assumption) ?rest5077
      case hy5077 => (intro w1 hSw; (try dsimp only at hSw); obtain ⟨h0, -⟩ := hSw; go_simp; try with_reducible rfl)
      try simp only [Act.put, List.setIfInBounds_toArray, List.set_cons_zero, List.set_cons_succ]
      refine wpAnyH_done (by kernel_rfl) ?_ _
      go_wp2_with fail
      go_meet
      exact ⟨_, rfl, rfl, PC, R4, TN, LOW⟩
    refine AllReadyH.cons HO.out.2.2.2.2.2.2.2.2.2.1 (fun K hK => ?_) AllReadyH.nil
    go_simp
    have NE799 := Lib.hid (Nat.ne_of_lt R4.lt)
    have LE800 := Lib.hid LOW.size
    obtain ⟨w796, hw797, hb798, R7⟩ := alloc_new w364 rq0 RT
    replace PC := PC.later hb798
    replace R4 := R4.later hb798
    replace TN := TN.later hb798
    replace LOW := LOW.trans (hb798.mono LOW.size)
    clear hb798
    rw [hw797]
    clear hw797
    try clear hHeld
    refine hK.out _ _ (⟨PC, trivial⟩) (fun hHeld => ?_)
    clear hK K
    try simp only [Act.put, List.setIfInBounds_toArray, List.set_cons_zero, List.set_cons_succ]
    refine wpAnyH_ready (rs := [1, 8]) (by kernel_rfl) (by simp) ?_
    refine AllReadyH.cons HO.out.2.1 (fun K hK => ?_) ?_
    · go_simp
      have LE804 := Lib.hid LOW.size
      obtain ⟨w801, hw802, hb803, QA⟩ := alloc_new w796 #[.string ⟨#[97]⟩] 9
      replace PC := PC.later hb803
      replace R4 := R4.later hb803
      replace R7 := R7.later hb803
      replace TN := TN.later hb803
      replace LOW := LOW.trans (hb803.mono LOW.size)
      clear hb803
      have TA : TsAt w801 _ [[97]] := ts_block (l := [[97]]) QA (by decide) rfl
      rw [hw802]
      clear hw802 QA
      try clear hHeld
      refine hK.out _ _ (⟨PC, trivial⟩) (fun hHeld => ?_)
      clear hK K
      try simp only [Act.put, List.setIfInBounds_toArray, List.set_cons_zero, List.set_cons_succ]
      refine wpAnyH_ready (rs := [2, 8]) (by kernel_rfl) (by simp) ?_
      refine AllReadyH.cons HO.out.2.2.1 (fun K hK => ?_) ?_
      · go_simp
        refine (of_any (l := [[97]]) TA a_fit a_of).mono ?_
        rintro e w805 ⟨tb, tbc, rfl, TO, hb806⟩
        replace PC := PC.later hb806
        replace R4 := R4.later hb806
        replace R7 := R7.later hb806
        replace TN := TN.later hb806
        replace TA := TA.later hb806
        replace LOW := LOW.trans (hb806.mono LOW.size)
        clear hb806
        clear TA
        try clear hHeld
        refine hK.out _ _ (⟨PC, trivial⟩) (fun hHeld => ?_)
        clear hK K
        try simp only [Act.put, List.setIfInBounds_toArray, List.set_cons_zero, List.set_cons_succ]
        refine wpAnyH_ready (rs := [3, 8]) (by kernel_rfl) (by simp) ?_
        refine AllReadyH.cons HO.out.2.2.2.1 (fun K hK => ?_) ?_
        · go_simp
          obtain ⟨V, hi⟩ := ask_again (x := exA ta tc) (k := 1) (n := 0) (by omega) (by omega) a_real a_rises a_fit (by omega) (by decide) rfl rfl rfl rfl rfl
          refine (ask_err hi TO TN (by rfl) (HG.out.2.later LOW)).mono ?_
          rintro e w807 ⟨rfl, hb808⟩
          replace PC := PC.later hb808
          replace R4 := R4.later hb808
          replace R7 := R7.later hb808
          replace TN := TN.later hb808
          replace TO := TO.later hb808
          replace LOW := LOW.trans (hb808.mono LOW.size)
          clear hb808
          clear TO hi
          try clear hHeld
          refine hK.out _ _ (⟨PC, trivial⟩) (fun hHeld => ?_)
          clear hK K
          try simp only [Act.put, List.setIfInBounds_toArray, List.set_cons_zero, List.set_cons_succ]
          refine wpAnyH_take (i := 4) (v := ?v5078) HO.out.2.2.2.2.1 (by kernel_rfl) (by kernel_rfl) (by kernel_rfl) (fun _ _ _ h => h) (Or.inl ⟨by rfl, ?hy5078⟩) (by assumption) ?rest5078
          case hy5078 => (intro w1 hSw; (try dsimp only at hSw); obtain ⟨h0, -⟩ := hSw; go_simp; try with_reducible rfl)
          try simp only [Act.put, List.setIfInBounds_toArray, List.set_cons_zero, List.set_cons_succ]
          refine wpAnyH_take (i := 5) (v := ?v5079) HO.out.2.2.2.2.2.1 (by kernel_rfl) (by kernel_rfl) (by kernel_rfl) (fun _ _ _ h => h) (Or.inl ⟨by rfl, ?hy5079⟩) (by assumption) ?rest5079
          case hy5079 => (intro w1 hSw; (try dsimp only at hSw); obtain ⟨h0, -⟩ := hSw; go_simp; try with_reducible rfl)
          try simp only [Act.put, List.setIfInBounds_toArray, List.set_cons_zero, List.set_cons_succ]
          refine wpAnyH_take (i := 6) (v := ?v5080) HO.out.2.2.2.2.2.2.1 (by kernel_rfl) (by kernel_rfl) (by kernel_rfl) (fun _ _ _ h => h) (Or.inl ⟨by rfl, ?hy5080⟩) (by assumption) ?rest5080
          case hy5080 => (intro w1 hSw; (try dsimp only at hSw); obtain ⟨h0, -⟩ := hSw; go_simp; try with_reducible rfl)
          try simp only [Act.put, List.setIfInBounds_toArray, List.set_cons_zero, List.set_cons_succ]
          refine wpAnyH_take (i := 7) (v := ?v5081) HO.out.2.2.2.2.2.2.2.1 (by kernel_rfl) (by kernel_rfl) (by kernel_rfl) (fun _ _ _ h => h) (Or.inl ⟨by rfl, ?hy5081⟩) (by assumption) ?rest5081
          case hy5081 => (intro w1 hSw; (try dsimp only at hSw); obtain ⟨h0, -⟩ := hSw; go_simp; try with_reducible rfl)
          try simp only [Act.put, List.setIfInBounds_toArray, List.set_cons_zero, List.set_cons_succ]
          refine wpAnyH_ready (rs := [8]) (by kernel_rfl) (by simp) ?_
          refine AllReadyH.cons HO.out.2.2.2.2.2.2.2.2.1 (fun K hK => ?_) AllReadyH.nil
          go_simp
          have NE812 := Lib.hid (Nat.ne_of_lt PC.lt)
          have LE813 := Lib.hid LOW.size
          obtain ⟨w809, hw810, hb811, C6⟩ := alloc_new w807 Cl.zero.arr CT
          replace hw810 : w807.alloc (.cells #[.bool false, .bool false, .slice none 0 0, .bool false, .int .u64 0, .bool false, .slice none 0 0, .bool false, .int .u64 0, .bool false, .slice none 0 0, .bool false, .int .u64 0, .bool false, .slice none 0 0, .bool false, .int .u64 0, .bool false, .slice none 0 0, .bool false, .int .u64 0, .bool false, .slice none 0 0, .bool false, .int .u64 0] CT) = w809 := hw810
          replace PC := PC.later hb811
          replace R4 := R4.later hb811
          replace R7 := R7.later hb811
          replace TN := TN.later hb811
          replace LOW := LOW.trans (hb811.mono LOW.size)
          clear hb811
          rw [hw810]
          clear hw810
          try clear hHeld
          refine hK.out _ _ (⟨PC, trivial⟩) (fun hHeld => ?_)
          clear hK K
          try simp only [Act.put, List.setIfInBounds_toArray, List.set_cons_zero, List.set_cons_succ]
          refine wpAnyH_ready (rs := [10]) (by kernel_rfl) (by simp) ?_
          refine AllReadyH.cons HO.out.2.2.2.2.2.2.2.2.2.2.1 (fun K hK => ?_) AllReadyH.nil
          rw [if_pos (by rfl)]
          refine wp_store_cl _ _ Cl.zero (exA ta tc) w807.heap.size rfl (by rfl) (by rfl) C6 ?_
          intro w814 p815 j816
          have mv817 := j816.blk NE812.out PC
          have mv818 := j816.blk (Blk.ne R4 C6 (by decide)) R4
          have mv819 := j816.blk (Blk.ne R7 C6 (by decide)) R7
          have mv820 := j816.ts C6 (cl_no _ _) TN
          have mv821 := LOW.trans (j816.below LE813.out)
          replace PC := mv817
          replace R4 := mv818
          replace R7 := mv819
          replace TN := mv820
          replace LOW := mv821
          replace C6 := p815
          try clear hHeld
          refine hK.out _ _ (⟨PC, trivial⟩) (fun hHeld => ?_)
          clear hK K
          simp only [Act.put]
          refine wpAnyH_ready (rs := [11]) (by kernel_rfl) (by simp) ?_
          refine AllReadyH.cons HO.out.2.2.2.2.2.2.2.2.2.2.2.1 (fun K hK => ?_) AllReadyH.nil
          rw [if_pos (by rfl)]
          refine wp_store_rq _ _ w364.heap.size rfl (by rfl) (by rfl) R7 rfl (by rfl) (by first | (simp [Value.oneCell']; done) | simp [rq, Value.oneCell']) ?_
          intro w822 p823 j824
          have mv825 := j824.blk (Blk.ne PC R7 (by decide)) PC
          have mv826 := j824.blk NE799.out R4
          have mv827 := j824.blk (Blk.ne C6 R7 (by decide)) C6
          have mv828 := j824.ts R7 (rq0_no ne97) TN
          have mv829 := LOW.trans (j824.below LE800.out)
          replace PC := mv825
          replace R4 := mv826
          replace C6 := mv827
          replace TN := mv828
          replace LOW := mv829
          replace R7 := p823
          try clear hHeld
          refine hK.out _ _ (⟨PC, trivial⟩) (fun hHeld => ?_)
          clear hK K
          simp only [Act.put]
          refine wpAnyH_take (i := 12) (v := ?v5082) HO.out.2.2.2.2.2.2.2.2.2.2.2.2 (by kernel_rfl) (by kernel_rfl) (by kernel_rfl) (fun _ _ _ h => h) (Or.inl ⟨by rfl, ?hy5082⟩) (by assumption) ?rest5082
          case hy5082 => (intro w1 hSw; (try dsimp only at hSw); obtain ⟨h0, -⟩ := hSw; go_simp; try with_reducible rfl)
          try simp only [Act.put, List.setIfInBounds_toArray, List.set_cons_zero, List.set_cons_succ]
          refine wpAnyH_done (by kernel_rfl) ?_ _
          go_wp2_with fail
          go_meet
          exact ⟨_, rfl, rfl, PC, R4, TN, LOW⟩
        refine AllReadyH.cons HO.out.2.2.2.2.2.2.2.2.1 (fun K hK => ?_) AllReadyH.nil
        go_simp
        have NE833 := Lib.hid (Nat.ne_of_lt PC.lt)
        have LE834 := Lib.hid LOW.size
        obtain ⟨w830, hw831, hb832, C6⟩ := alloc_new w805 Cl.zero.arr CT
        replace hw831 : w805.alloc (.cells #[.bool false, .bool false, .slice none 0 0, .bool false, .int .u64 0, .bool false, .slice none 0 0, .bool false, .int .u64 0, .bool false, .slice none 0 0, .bool false, .int .u64 0, .bool false, .slice none 0 0, .bool false, .int .u64 0, .bool false, .slice none 0 0, .bool false, .int .u64 0, .bool false, .slice none 0 0, .bool false, .int .u64 0] CT) = w830 := hw831
        replace PC := PC.later hb832
        replace R4 := R4.later hb832
        replace R7 := R7.later hb832
        replace TN := TN.later hb832
        replace TO := TO.later hb832
        replace LOW := LOW.trans (hb832.mono LOW.size)
        clear hb832
        rw [hw831]
        clear hw831
        try clear hHeld
        refine hK.out _ _ (⟨PC, trivial⟩) (fun hHeld => ?_)
        clear hK K
        try simp only [Act.put, List.setIfInBounds_toArray, List.set_cons_zero, List.set_cons_succ]
        refine wpAnyH_ready (rs := [3]) (by kernel_rfl) (by simp) ?_
        refine AllReadyH.cons HO.out.2.2.2.1 (fun K hK => ?_) AllReadyH.nil
        go_simp
        obtain ⟨V, hi⟩ := ask_again (x := exA ta tc) (k := 1) (n := 0) (by omega) (by omega) a_real a_rises a_fit (by omega) (by decide) rfl rfl rfl rfl rfl
        refine (ask_err hi TO TN (by rfl) (HG.out.2.later LOW)).mono ?_
        rintro e w835 ⟨rfl, hb836⟩
        replace PC := PC.later hb836
        replace R4 := R4.later hb836
        replace R7 := R7.later hb836
        replace C6 := C6.later hb836
        replace TN := TN.later hb836
        replace TO := TO.later hb836
        replace LOW := LOW.trans (hb836.mono LOW.size)
        clear hb836
        clear TO hi
        try clear hHeld
        refine hK.out _ _ (⟨PC, trivial⟩) (fun hHeld => ?_)
        clear hK K
        try simp only [Act.put, List.setIfInBounds_toArray, List.set_cons_zero, List.set_cons_succ]
        refine wpAnyH_take (i := 4) (v := ?v5083) HO.out.2.2.2.2.1 (by kernel_rfl) (by kernel_rfl) (by kernel_rfl) (fun _ _ _ h => h) (Or.inl ⟨by rfl, ?hy5083⟩) (by assumption) ?rest5083
        case hy5083 => (intro w1 hSw; (try dsimp only at hSw); obtain ⟨h0, -⟩ := hSw; go_simp; try with_reducible rfl)
        try simp only [Act.put, List.setIfInBounds_toArray, List.set_cons_zero, List.set_cons_succ]
        refine wpAnyH_take (i := 5) (v := ?v5084) HO.out.2.2.2.2.2.1 (by kernel_rfl) (by kernel_rfl) (by kernel_rfl) (fun _ _ _ h => h) (Or.inl ⟨by rfl, ?hy5084⟩) (by assumption) ?rest5084
        case hy5084 => (intro w1 hSw; (try dsimp only at hSw); obtain ⟨h0, -⟩ := hSw; go_simp; try with_reducible rfl)
        try simp only [Act.put, List.setIfInBounds_toArray, List.set_cons_zero, List.set_cons_succ]
        refine wpAnyH_take (i := 6) (v := ?v5085) HO.out.2.2.2.2.2.2.1 (by kernel_rfl) (by kernel_rfl) (by kernel_rfl) (fun _ _ _ h => h) (Or.inl ⟨by rfl, ?hy5085⟩) (by assumption) ?rest5085
        case hy5085 => (intro w1 hSw; (try dsimp only at hSw); obtain ⟨h0, -⟩ := hSw; go_simp; try with_reducible rfl)
        try simp only [Act.put, List.setIfInBounds_toArray, List.set_cons_zero, List.set_cons_succ]
        refine wpAnyH_take (i := 7) (v := ?v5086) HO.out.2.2.2.2.2.2.2.1 (by kernel_rfl) (by kernel_rfl) (by kernel_rfl) (fun _ _ _ h => h) (Or.inl ⟨by rfl, ?hy5086⟩) (by assumption) ?rest5086
        case hy5086 => (intro w1 hSw; (try dsimp only at hSw); obtain ⟨h0, -⟩ := hSw; go_simp; try with_reducible rfl)
        try simp only [Act.put, List.setIfInBounds_toArray, List.set_cons_zero, List.set_cons_succ]
        refine wpAnyH_ready (rs := [10]) (by kernel_rfl) (by simp) ?_
        refine AllReadyH.cons HO.out.2.2.2.2.2.2.2.2.2.2.1 (fun K hK => ?_) AllReadyH.nil
        rw [if_pos (by rfl)]
        refine wp_store_cl _ _ Cl.zero (exA ta tc) w805.heap.size rfl (by rfl) (by rfl) C6 ?_
        intro w837 p838 j839
        have mv840 := j839.blk NE833.out PC
        have mv841 := j839.blk (Blk.ne R4 C6 (by decide)) R4
        have mv842 := j839.blk (Blk.ne R7 C6 (by decide)) R7
        have mv843 := j839.ts C6 (cl_no _ _) TN
        have mv844 := LOW.trans (j839.below LE834.out)
        replace PC := mv840
        replace R4 := mv841
        replace R7 := mv842
        replace TN := mv843
        replace LOW := mv844
        replace C6 := p838
        try clear hHeld
        refine hK.out _ _ (⟨PC, trivial⟩) (fun hHeld => ?_)
        clear hK K
        simp only [Act.put]
        refine wpAnyH_ready (rs := [11]) (by kernel_rfl) (by simp) ?_
        refine AllReadyH.cons HO.out.2.2.2.2.2.2.2.2.2.2.2.1 (fun K hK => ?_) AllReadyH.nil
        rw [if_pos (by rfl)]
        refine wp_store_rq _ _ w364.heap.size rfl (by rfl) (by rfl) R7 rfl (by rfl) (by first | (simp [Value.oneCell']; done) | simp [rq, Value.oneCell']) ?_
        intro w845 p846 j847
        have mv848 := j847.blk (Blk.ne PC R7 (by decide)) PC
        have mv849 := j847.blk NE799.out R4
        have mv850 := j847.blk (Blk.ne C6 R7 (by decide)) C6
        have mv851 := j847.ts R7 (rq0_no ne97) TN
        have mv852 := LOW.trans (j847.below LE800.out)
        replace PC := mv848
        replace R4 := mv849
        replace C6 := mv850
        replace TN := mv851
        replace LOW := mv852
        replace R7 := p846
        try clear hHeld
        refine hK.out _ _ (⟨PC, trivial⟩) (fun hHeld => ?_)
        clear hK K
        simp only [Act.put]
        refine wpAnyH_take (i := 12) (v := ?v5087) HO.out.2.2.2.2.2.2.2.2.2.2.2.2 (by kernel_rfl) (by kernel_rfl) (by kernel_rfl) (fun _ _ _ h => h) (Or.inl ⟨by rfl, ?hy5087⟩) (by assumption) ?rest5087
        case hy5087 => (intro w1 hSw; (try dsimp only at hSw); obtain ⟨h0, -⟩ := hSw; go_simp; try with_reducible rfl)
        try simp only [Act.put, List.setIfInBounds_toArray, List.set_cons_zero, List.set_cons_succ]
        refine wpAnyH_done (by kernel_rfl) ?_ _
        go_wp2_with fail
        go_meet
        exact ⟨_, rfl, rfl, PC, R4, TN, LOW⟩
      refine AllReadyH.cons HO.out.2.2.2.2.2.2.2.2.1 (fun K hK => ?_) AllReadyH.nil
      go_simp
      have NE856 := Lib.hid (Nat.ne_of_lt PC.lt)
      have LE857 := Lib.hid LOW.size
      obtain ⟨w853, hw854, hb855, C6⟩ := alloc_new w801 Cl.zero.arr CT
      replace hw854 : w801.alloc (.cells #[.bool false, .bool false, .slice none 0 0, .bool false, .int .u64 0, .bool false, .slice none 0 0, .bool false, .int .u64 0, .bool false, .slice none 0 0, .bool false, .int .u64 0, .bool false, .slice none 0 0, .bool false, .int .u64 0, .bool false, .slice none 0 0, .bool false, .int .u64 0, .bool false, .slice none 0 0, .bool false, .int .u64 0] CT) = w853 := hw854
      replace PC := PC.later hb855
      replace R4 := R4.later hb855
      replace R7 := R7.later hb855
      replace TN := TN.later hb855
      replace TA := TA.later hb855
      replace LOW := LOW.trans (hb855.mono LOW.size)
      clear hb855
      rw [hw854]
      clear hw854
      try clear hHeld
      refine hK.out _ _ (⟨PC, trivial⟩) (fun hHeld => ?_)
      clear hK K
      try simp only [Act.put, List.setIfInBounds_toArray, List.set_cons_zero, List.set_cons_succ]
      refine wpAnyH_ready (rs := [2]) (by kernel_rfl) (by simp) ?_
      refine AllReadyH.cons HO.out.2.2.1 (fun K hK => ?_) AllReadyH.nil
      go_simp
      refine (of_any (l := [[97]]) TA a_fit a_of).mono ?_
      rintro e w858 ⟨tb, tbc, rfl, TO, hb859⟩
      replace PC := PC.later hb859
      replace R4 := R4.later hb859
      replace R7 := R7.later hb859
      replace C6 := C6.later hb859
      replace TN := TN.later hb859
      replace TA := TA.later hb859
      replace LOW := LOW.trans (hb859.mono LOW.size)
      clear hb859
      clear TA
      try clear hHeld
      refine hK.out _ _ (⟨PC, trivial⟩) (fun hHeld => ?_)
      clear hK K
      try simp only [Act.put, List.setIfInBounds_toArray, List.set_cons_zero, List.set_cons_succ]
      refine wpAnyH_ready (rs := [3]) (by kernel_rfl) (by simp) ?_
      refine AllReadyH.cons HO.out.2.2.2.1 (fun K hK => ?_) AllReadyH.nil
      go_simp
      obtain ⟨V, hi⟩ := ask_again (x := exA ta tc) (k := 1) (n := 0) (by omega) (by omega) a_real a_rises a_fit (by omega) (by decide) rfl rfl rfl rfl rfl
      refine (ask_err hi TO TN (by rfl) (HG.out.2.later LOW)).mono ?_
      rintro e w860 ⟨rfl, hb861⟩
      replace PC := PC.later hb861
      replace R4 := R4.later hb861
      replace R7 := R7.later hb861
      replace C6 := C6.later hb861
      replace TN := TN.later hb861
      replace TO := TO.later hb861
      replace LOW := LOW.trans (hb861.mono LOW.size)
      clear hb861
      clear TO hi
      try clear hHeld
      refine hK.out _ _ (⟨PC, trivial⟩) (fun hHeld => ?_)
      clear hK K
      try simp only [Act.put, List.setIfInBounds_toArray, List.set_cons_zero, List.set_cons_succ]
      refine wpAnyH_take (i := 4) (v := ?v5088) HO.out.2.2.2.2.1 (by kernel_rfl) (by kernel_rfl) (by kernel_rfl) (fun _ _ _ h => h) (Or.inl ⟨by rfl, ?hy5088⟩) (by assumption) ?rest5088
      case hy5088 => (intro w1 hSw; (try dsimp only at hSw); obtain ⟨h0, -⟩ := hSw; go_simp; try with_reducible rfl)
      try simp only [Act.put, List.setIfInBounds_toArray, List.set_cons_zero, List.set_cons_succ]
      refine wpAnyH_take (i := 5) (v := ?v5089) HO.out.2.2.2.2.2.1 (by kernel_rfl) (by kernel_rfl) (by kernel_rfl) (fun _ _ _ h => h) (Or.inl ⟨by rfl, ?hy5089⟩) (by assumption) ?rest5089
      case hy5089 => (intro w1 hSw; (try dsimp only at hSw); obtain ⟨h0, -⟩ := hSw; go_simp; try with_reducible rfl)
      try simp only [Act.put, List.setIfInBounds_toArray, List.set_cons_zero, List.set_cons_succ]
      refine wpAnyH_take (i := 6) (v := ?v5090) HO.out.2.2.2.2.2.2.1 (by kernel_rfl) (by kernel_rfl) (by kernel_rfl) (fun _ _ _ h => h) (Or.inl ⟨by rfl, ?hy5090⟩) (by assumption) ?rest5090
      case hy5090 => (intro w1 hSw; (try dsimp only at hSw); obtain ⟨h0, -⟩ := hSw; go_simp; try with_reducible rfl)
      try simp only [Act.put, List.setIfInBounds_toArray, List.set_cons_zero, List.set_cons_succ]
      refine wpAnyH_take (i := 7) (v := ?v5091) HO.out.2.2.2.2.2.2.2.1 (by kernel_rfl) (by kernel_rfl) (by kernel_rfl) (fun _ _ _ h => h) (Or.inl ⟨by rfl, ?hy5091⟩) (by assumption) ?rest5091
      case hy5091 => (intro w1 hSw; (try dsimp only at hSw); obtain ⟨h0, -⟩ := hSw; go_simp; try with_reducible rfl)
      try simp only [Act.put, List.setIfInBounds_toArray, List.set_cons_zero, List.set_cons_succ]
      refine wpAnyH_ready (rs := [10]) (by kernel_rfl) (by simp) ?_
      refine AllReadyH.cons HO.out.2.2.2.2.2.2.2.2.2.2.1 (fun K hK => ?_) AllReadyH.nil
      rw [if_pos (by rfl)]
      refine wp_store_cl _ _ Cl.zero (exA ta tc) w801.heap.size rfl (by rfl) (by rfl) C6 ?_
      intro w862 p863 j864
      have mv865 := j864.blk NE856.out PC
      have mv866 := j864.blk (Blk.ne R4 C6 (by decide)) R4
      have mv867 := j864.blk (Blk.ne R7 C6 (by decide)) R7
      have mv868 := j864.ts C6 (cl_no _ _) TN
      have mv869 := LOW.trans (j864.below LE857.out)
      replace PC := mv865
      replace R4 := mv866
      replace R7 := mv867
      replace TN := mv868
      replace LOW := mv869
      replace C6 := p863
      try clear hHeld
      refine hK.out _ _ (⟨PC, trivial⟩) (fun hHeld => ?_)
      clear hK K
      simp only [Act.put]
      refine wpAnyH_ready (rs := [11]) (by kernel_rfl) (by simp) ?_
      refine AllReadyH.cons HO.out.2.2.2.2.2.2.2.2.2.2.2.1 (fun K hK => ?_) AllReadyH.nil
      rw [if_pos (by rfl)]
      refine wp_store_rq _ _ w364.heap.size rfl (by rfl) (by rfl) R7 rfl (by rfl) (by first | (simp [Value.oneCell']; done) | simp [rq, Value.oneCell']) ?_
      intro w870 p871 j872
      have mv873 := j872.blk (Blk.ne PC R7 (by decide)) PC
      have mv874 := j872.blk NE799.out R4
      have mv875 := j872.blk (Blk.ne C6 R7 (by decide)) C6
      have mv876 := j872.ts R7 (rq0_no ne97) TN
      have mv877 := LOW.trans (j872.below LE800.out)
      replace PC := mv873
      replace R4 := mv874
      replace C6 := mv875
      replace TN := mv876
      replace LOW := mv877
      replace R7 := p871
      try clear hHeld
      refine hK.out _ _ (⟨PC, trivial⟩) (fun hHeld => ?_)
      clear hK K
      simp only [Act.put]
      refine wpAnyH_take (i := 12) (v := ?v5092) HO.out.2.2.2.2.2.2.2.2.2.2.2.2 (by kernel_rfl) (by kernel_rfl) (by kernel_rfl) (fun _ _ _ h => h) (Or.inl ⟨by rfl, ?hy5092⟩) (by assumption) ?rest5092
      case hy5092 => (intro w1 hSw; (try dsimp only at hSw); obtain ⟨h0, -⟩ := hSw; go_simp; try with_reducible rfl)
      try simp only [Act.put, List.setIfInBounds_toArray, List.set_cons_zero, List.set_cons_succ]
      refine wpAnyH_done (by kernel_rfl) ?_ _
      go_wp2_with fail
      go_meet
      exact ⟨_, rfl, rfl, PC, R4, TN, LOW⟩
    refine AllReadyH.cons HO.out.2.2.2.2.2.2.2.2.1 (fun K hK => ?_) AllReadyH.nil
    go_simp
    have NE881 := Lib.hid (Nat.ne_of_lt PC.lt)
    have LE882 := Lib.hid LOW.size
    obtain ⟨w878, hw879, hb880, C6⟩ := alloc_new w796 Cl.zero.arr CT
    replace hw879 : w796.alloc (.cells #[.bool false, .bool false, .slice none 0 0, .bool false, .int .u64 0, .bool false, .slice none 0 0, .bool false, .int .u64 0, .bool false, .slice none 0 0, .bool false, .int .u64 0, .bool false, .slice none 0 0, .bool false, .int .u64 0, .bool false, .slice none 0 0, .bool false, .int .u64 0, .bool false, .slice none 0 0, .bool false, .int .u64 0] CT) = w878 := hw879
    replace PC := PC.later hb880
    replace R4 := R4.later hb880
    replace R7 := R7.later hb880
    replace TN := TN.later hb880
    replace LOW := LOW.trans (hb880.mono LOW.size)
    clear hb880
    rw [hw879]
    clear hw879
    try clear hHeld
    refine hK.out _ _ (⟨PC, trivial⟩) (fun hHeld => ?_)
    clear hK K
    try simp only [Act.put, List.setIfInBounds_toArray, List.set_cons_zero, List.set_cons_succ]
    refine wpAnyH_ready (rs := [1]) (by kernel_rfl) (by simp) ?_
    refine AllReadyH.cons HO.out.2.1 (fun K hK => ?_) AllReadyH.nil
    go_simp
    have LE886 := Lib.hid LOW.size
    obtain ⟨w883, hw884, hb885, QA⟩ := alloc_new w878 #[.string ⟨#[97]⟩] 9
    replace PC := PC.later hb885
    replace R4 := R4.later hb885
    replace R7 := R7.later hb885
    replace C6 := C6.later hb885
    replace TN := TN.later hb885
    replace LOW := LOW.trans (hb885.mono LOW.size)
    clear hb885
    have TA : TsAt w883 _ [[97]] := ts_block (l := [[97]]) QA (by decide) rfl
    rw [hw884]
    clear hw884 QA
    try clear hHeld
    refine hK.out _ _ (⟨PC, trivial⟩) (fun hHeld => ?_)
    clear hK K
    try simp only [Act.put, List.setIfInBounds_toArray, List.set_cons_zero, List.set_cons_succ]
    refine wpAnyH_ready (rs := [2]) (by kernel_rfl) (by simp) ?_
    refine AllReadyH.cons HO.out.2.2.1 (fun K hK => ?_) AllReadyH.nil
    go_simp
    refine (of_any (l := [[97]]) TA a_fit a_of).mono ?_
    rintro e w887 ⟨tb, tbc, rfl, TO, hb888⟩
    replace PC := PC.later hb888
    replace R4 := R4.later hb888
    replace R7 := R7.later hb888
    replace C6 := C6.later hb888
    replace TN := TN.later hb888
    replace TA := TA.later hb888
    replace LOW := LOW.trans (hb888.mono LOW.size)
    clear hb888
    clear TA
    try clear hHeld
    refine hK.out _ _ (⟨PC, trivial⟩) (fun hHeld => ?_)
    clear hK K
    try simp only [Act.put, List.setIfInBounds_toArray, List.set_cons_zero, List.set_cons_succ]
    refine wpAnyH_ready (rs := [3]) (by kernel_rfl) (by simp) ?_
    refine AllReadyH.cons HO.out.2.2.2.1 (fun K hK => ?_) AllReadyH.nil
    go_simp
    obtain ⟨V, hi⟩ := ask_again (x := exA ta tc) (k := 1) (n := 0) (by omega) (by omega) a_real a_rises a_fit (by omega) (by decide) rfl rfl rfl rfl rfl
    refine (ask_err hi TO TN (by rfl) (HG.out.2.later LOW)).mono ?_
    rintro e w889 ⟨rfl, hb890⟩
    replace PC := PC.later hb890
    replace R4 := R4.later hb890
    replace R7 := R7.later hb890
    replace C6 := C6.later hb890
    replace TN := TN.later hb890
    replace TO := TO.later hb890
    replace LOW := LOW.trans (hb890.mono LOW.size)
    clear hb890
    clear TO hi
    try clear hHeld
    refine hK.out _ _ (⟨PC, trivial⟩) (fun hHeld => ?_)
    clear hK K
    try simp only [Act.put, List.setIfInBounds_toArray, List.set_cons_zero, List.set_cons_succ]
    refine wpAnyH_take (i := 4) (v := ?v5093) HO.out.2.2.2.2.1 (by kernel_rfl) (by kernel_rfl) (by kernel_rfl) (fun _ _ _ h => h) (Or.inl ⟨by rfl, ?hy5093⟩) (by assumption) ?rest5093
    case hy5093 => (intro w1 hSw; (try dsimp only at hSw); obtain ⟨h0, -⟩ := hSw; go_simp; try with_reducible rfl)
    try simp only [Act.put, List.setIfInBounds_toArray, List.set_cons_zero, List.set_cons_succ]
    refine wpAnyH_take (i := 5) (v := ?v5094) HO.out.2.2.2.2.2.1 (by kernel_rfl) (by kernel_rfl) (by kernel_rfl) (fun _ _ _ h => h) (Or.inl ⟨by rfl, ?hy5094⟩) (by assumption) ?rest5094
    case hy5094 => (intro w1 hSw; (try dsimp only at hSw); obtain ⟨h0, -⟩ := hSw; go_simp; try with_reducible rfl)
    try simp only [Act.put, List.setIfInBounds_toArray, List.set_cons_zero, List.set_cons_succ]
    refine wpAnyH_take (i := 6) (v := ?v5095) HO.out.2.2.2.2.2.2.1 (by kernel_rfl) (by kernel_rfl) (by kernel_rfl) (fun _ _ _ h => h) (Or.inl ⟨by rfl, ?hy5095⟩) (by assumption) ?rest5095
    case hy5095 => (intro w1 hSw; (try dsimp only at hSw); obtain ⟨h0, -⟩ := hSw; go_simp; try with_reducible rfl)
    try simp only [Act.put, List.setIfInBounds_toArray, List.set_cons_zero, List.set_cons_succ]
    refine wpAnyH_take (i := 7) (v := ?v5096) HO.out.2.2.2.2.2.2.2.1 (by kernel_rfl) (by kernel_rfl) (by kernel_rfl) (fun _ _ _ h => h) (Or.inl ⟨by rfl, ?hy5096⟩) (by assumption) ?rest5096
    case hy5096 => (intro w1 hSw; (try dsimp only at hSw); obtain ⟨h0, -⟩ := hSw; go_simp; try with_reducible rfl)
    try simp only [Act.put, List.setIfInBounds_toArray, List.set_cons_zero, List.set_cons_succ]
    refine wpAnyH_ready (rs := [10]) (by kernel_rfl) (by simp) ?_
    refine AllReadyH.cons HO.out.2.2.2.2.2.2.2.2.2.2.1 (fun K hK => ?_) AllReadyH.nil
    rw [if_pos (by rfl)]
    refine wp_store_cl _ _ Cl.zero (exA ta tc) w796.heap.size rfl (by rfl) (by rfl) C6 ?_
    intro w891 p892 j893
    have mv894 := j893.blk NE881.out PC
    have mv895 := j893.blk (Blk.ne R4 C6 (by decide)) R4
    have mv896 := j893.blk (Blk.ne R7 C6 (by decide)) R7
    have mv897 := j893.ts C6 (cl_no _ _) TN
    have mv898 := LOW.trans (j893.below LE882.out)
    replace PC := mv894
    replace R4 := mv895
    replace R7 := mv896
    replace TN := mv897
    replace LOW := mv898
    replace C6 := p892
    try clear hHeld
    refine hK.out _ _ (⟨PC, trivial⟩) (fun hHeld => ?_)
    clear hK K
    simp only [Act.put]
    refine wpAnyH_ready (rs := [11]) (by kernel_rfl) (by simp) ?_
    refine AllReadyH.cons HO.out.2.2.2.2.2.2.2.2.2.2.2.1 (fun K hK => ?_) AllReadyH.nil
    rw [if_pos (by rfl)]
    refine wp_store_rq _ _ w364.heap.size rfl (by rfl) (by rfl) R7 rfl (by rfl) (by first | (simp [Value.oneCell']; done) | simp [rq, Value.oneCell']) ?_
    intro w899 p900 j901
    have mv902 := j901.blk (Blk.ne PC R7 (by decide)) PC
    have mv903 := j901.blk NE799.out R4
    have mv904 := j901.blk (Blk.ne C6 R7 (by decide)) C6
    have mv905 := j901.ts R7 (rq0_no ne97) TN
    have mv906 := LOW.trans (j901.below LE800.out)
    replace PC := mv902
    replace R4 := mv903
    replace C6 := mv904
    replace TN := mv905
    replace LOW := mv906
    replace R7 := p900
    try clear hHeld
    refine hK.out _ _ (⟨PC, trivial⟩) (fun hHeld => ?_)
    clear hK K
    simp only [Act.put]
    refine wpAnyH_take (i := 12) (v := ?v5097) HO.out.2.2.2.2.2.2.2.2.2.2.2.2 (by kernel_rfl) (by kernel_rfl) (by kernel_rfl) (fun _ _ _ h => h) (Or.inl ⟨by rfl, ?hy5097⟩) (by assumption) ?rest5097
    case hy5097 => (intro w1 hSw; (try dsimp only at hSw); obtain ⟨h0, -⟩ := hSw; go_simp; try with_reducible rfl)
    try simp only [Act.put, List.setIfInBounds_toArray, List.set_cons_zero, List.set_cons_succ]
    refine wpAnyH_done (by kernel_rfl) ?_ _
    go_wp2_with fail
    go_meet
    exact ⟨_, rfl, rfl, PC, R4, TN, LOW⟩
  case rest =>
  clear PC R4 TN LOW
  obtain ⟨wz907, hwz, hcut⟩ := hcut
  subst hwz
  obtain ⟨rfl, PC, R4, TN, LOW⟩ := hcut
  go_wp2_with (first | (refine wpList_load_cl _ (exA ta tc) w1.heap.size rfl rfl (by rfl) PC ?_; simp only [Act.put, List.setIfInBounds_toArray, List.set_cons_zero, List.set_cons_succ]))
  refine (take_ok (x := exA ta tc) (k := 1) (q := 2) (d := true) (O := true) (E := true) (F := true) (by omega) (by omega) (by omega) (HG.out.1.later LOW) rfl rfl (by rfl) rfl).mono ?_
  rintro e w908 ⟨rfl, hb909⟩
  replace PC := PC.later hb909
  replace R4 := R4.later hb909
  replace TN := TN.later hb909
  replace LOW := LOW.trans (hb909.mono LOW.size)
  clear hb909
  dsimp only
  go_wp2_with (first | (refine wpList_store_cl _ _ (exA ta tc) (exB ta tc) w1.heap.size rfl rfl (by rfl) (by rfl) PC ?_; intro w910 p911 j912; have mv913 := j912.blk (Blk.ne R4 PC (by decide)) R4; have mv914 := j912.ts PC (cl_no _ _) TN; have mv915 := LOW.trans (j912.below LE6.out); replace R4 := mv913; replace TN := mv914; replace LOW := mv915; replace PC := p911; simp only [Act.put]) | (refine wpList_load_cl _ (exB ta tc) w1.heap.size rfl rfl (by rfl) PC ?_; simp only [Act.put, List.setIfInBounds_toArray, List.set_cons_zero, List.set_cons_succ]))
  refine (take_err (x := exB ta tc) (k := 1) (q := 2) (d := true) (O := true) (E := true) (F := false) (N' := 6) (s' := sLate) (by omega) (by omega) (by omega) (HG.out.1.later LOW) (HG.out.2.later LOW) rfl rfl (by rfl) rfl).mono ?_
  rintro e w916 ⟨rfl, hb917⟩
  replace PC := PC.later hb917
  replace R4 := R4.later hb917
  replace TN := TN.later hb917
  replace LOW := LOW.trans (hb917.mono LOW.size)
  clear hb917
  dsimp only
  have NE921 := Lib.hid (Nat.ne_of_lt PC.lt)
  have LE922 := Lib.hid LOW.size
  obtain ⟨w918, hw919, hb920, C10⟩ := alloc_new w916 Cl.zero.arr CT
  replace hw919 : w916.alloc (.cells #[.bool false, .bool false, .slice none 0 0, .bool false, .int .u64 0, .bool false, .slice none 0 0, .bool false, .int .u64 0, .bool false, .slice none 0 0, .bool false, .int .u64 0, .bool false, .slice none 0 0, .bool false, .int .u64 0, .bool false, .slice none 0 0, .bool false, .int .u64 0, .bool false, .slice none 0 0, .bool false, .int .u64 0] CT) = w918 := hw919
  replace PC := PC.later hb920
  replace R4 := R4.later hb920
  replace TN := TN.later hb920
  replace LOW := LOW.trans (hb920.mono LOW.size)
  clear hb920
  have HW923 := Lib.hid hw919
  clear hw919
  go_wp2_with (first | rw [HW923.out] | (refine wpList_store_cl _ _ Cl.zero (exB ta tc) w916.heap.size rfl rfl (by rfl) (by rfl) C10 ?_; intro w924 p925 j926; have mv927 := j926.blk NE921.out PC; have mv928 := j926.blk (Blk.ne R4 C10 (by decide)) R4; have mv929 := j926.ts C10 (cl_no _ _) TN; have mv930 := LOW.trans (j926.below LE922.out); replace PC := mv927; replace R4 := mv928; replace TN := mv929; replace LOW := mv930; replace C10 := p925; simp only [Act.put]) | (refine wpList_load_cl _ (exB ta tc) w1.heap.size rfl rfl (by rfl) PC ?_; simp only [Act.put, List.setIfInBounds_toArray, List.set_cons_zero, List.set_cons_succ]))
  refine (ans_ok (x := exB ta tc) (k := 1) (s := ⟨#[110, 111]⟩) (L := []) (by omega) (by omega) (by decide) (by show (2 : Nat) ≠ 0; decide) TN rfl (by decide)).mono ?_
  rintro e w931 ⟨a9, c9, rfl, -, hb932⟩
  replace PC := PC.later hb932
  replace R4 := R4.later hb932
  replace C10 := C10.later hb932
  replace TN := TN.later hb932
  replace LOW := LOW.trans (hb932.mono LOW.size)
  clear hb932
  dsimp only
  have NE936 := Lib.hid (Nat.ne_of_lt R4.lt)
  have LE937 := Lib.hid LOW.size
  obtain ⟨w933, hw934, hb935, R12⟩ := alloc_new w931 rq0 RT
  replace PC := PC.later hb935
  replace R4 := R4.later hb935
  replace C10 := C10.later hb935
  replace TN := TN.later hb935
  replace LOW := LOW.trans (hb935.mono LOW.size)
  clear hb935
  have HW938 := Lib.hid hw934
  clear hw934
  go_wp2_with (first | rw [HW938.out] | (refine wpList_store_rq _ _ w931.heap.size rfl rfl (by rfl) (by rfl) R12 rfl (by rfl) (by first | (simp [Value.oneCell']; done) | simp [rq, Value.oneCell']) ?_; intro w939 p940 j941; have mv942 := j941.blk (Blk.ne PC R12 (by decide)) PC; have mv943 := j941.blk NE936.out R4; have mv944 := j941.blk (Blk.ne C10 R12 (by decide)) C10; have mv945 := j941.ts R12 (rq0_no ne97) TN; have mv946 := LOW.trans (j941.below LE937.out); replace PC := mv942; replace R4 := mv943; replace C10 := mv944; replace TN := mv945; replace LOW := mv946; replace R12 := p940; simp only [Act.put]; have y2 : w939.cell? ⟨R4a, 2, none⟩ = some (.int .u64 0) := R4.cell 2; have y3 : w939.cell? ⟨R4a, 3, none⟩ = some (.slice a1 1 c1) := R4.cell 3; have y5 : w939.cell? ⟨R4a, 5, none⟩ = some (.slice a3 1 c3) := R4.cell 5; have x2 : w939.cell? ⟨w931.heap.size, 2, none⟩ = some (.int .u64 2) := R12.cell 2; have x6 : w939.cell? ⟨w931.heap.size, 6, none⟩ = some (.string ⟨#[110, 111]⟩) := R12.cell 6))
  go_ret
  exact ⟨rfl, LOW⟩
end Go.Proofs.YtdcfdcjgheijcaaGreatDoor
