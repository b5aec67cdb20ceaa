/- ClientTopics: the walk. -/
import Derived.Test.YtdcfdcjgheijcaaDoorClEx
import Derived.Test.YtdcfdcjgheijcaaDoorClFew
namespace Go.Proofs.YtdcfdcjgheijcaaDoor
open Go.RowKit Go.Lib

/-- What is known of a client whose topic k is t, and whose topic m was never asked for. -/
structure TopC (x : Cl) (d : Bool) (k m : Nat) (t : Tp) : Prop where
  d : x.d = d
  k : x.get k = t
  m : x.get m = Tp.zero
theorem topc_ask {x : Cl} {d : Bool} {k m : Nat} {t : Tp} (hd : x.d = d) (hx : x.get m = Tp.zero) (h : k ≠ m) (hk : k < 6) (hm : m < 6) : TopC (x.set t k) d k m t :=
  ⟨(Cl.set_d _ _ _).trans hd, Cl.get_set _ _ _, (Cl.get_other _ _ h hk hm).trans hx⟩
theorem topc_take {x : Cl} {d : Bool} {k m : Nat} {t : Tp} (q : Nat) (h : TopC x d k m t) (hn : k ≠ m) (hk : k < 6) (hm : m < 6) : TopC (x.set { x.get k with q := q } k) d k m { t with q := q } :=
  ⟨(Cl.set_d _ _ _).trans h.d, by rw [Cl.get_set, h.k], (Cl.get_other _ _ hn hk hm).trans h.m⟩
/-- Ask, of a topic that was never asked for, where nothing is had. -/
theorem ask_zero {x : Cl} {d ua : Bool} {k : Nat} {ul : List (List UInt8)} {a : Option Addr} {c : Nat} {w : World} (hd : x.d = d) (h1 : 1 ≤ k) (h5 : k ≤ 5) (hx : x.get k = Tp.zero) (hr : Real ⟨ua, ul⟩) (hf : NmFit ul) (hl : ul.length ≤ 60) (hw : TsAt w (.slice a ul.length c) ul) :
    Calls Tryd.prog 6 #[x.v, .int .i64 (k : Int), .agg #[.bool ua, .slice a ul.length c], .slice none 0 0] w fun e w' => ∃ ta tc a1 n1 c1 a2 n2 c2 a3 n3 c3, e = .returned (.tuple #[(x.set ⟨ua, ta, tc, ul, true, 0⟩ k).v, .agg (rq k d 0 (.slice a1 n1 c1) (.slice a2 n2 c2) (.slice a3 n3 c3) ⟨#[]⟩), .int .i64 0]) ∧ TsAt w' (.slice ta ul.length tc) ul ∧ Below w.heap.size w w' := by
  refine (ask_ok (x := x) (k := k) (n := 0) (m := 0) (hs := []) (ask_first h1 h5 hr hr.rises hf (by omega) hl (by rw [hx]; rfl) (by rw [hx]; rfl) (by rw [hx]; rfl)) hw (by rw [hx]; exact Tp.zero_at _) (HvAt.nil _ _) rfl (by omega) (by unfold tells; split <;> rfl)).mono ?_
  rintro e w' ⟨ta, tc, a1, c1, a2, c2, a3, c3, rfl, hT, _, _, hB⟩
  have hq : (x.get k).q = 0 := by rw [hx]; rfl
  rw [hq, hd]
  exact ⟨ta, tc, a1, (nList ⟨ua, ul⟩).length, c1, a2, 0, c2, a3, 0, c3, by cases d <;> rfl, hT, hB⟩
theorem top_km {k s : Nat} (h1 : 1 ≤ k) (h5 : k ≤ 5) (hs : s < 4) : k ≠ 1 + (k + s) % 5 := by omega
set_option maxRecDepth 100000 in
set_option maxHeartbeats 8000000 in
theorem top_walk (d : Bool) (α β : Nat) (a : Option Addr) (n c : Nat) (ms : List Nat) {b : Addr} {w : World} (hn : Gn b w) (hg : Ge w) (hα : α < 256) (hβ : β < 256) (hin : BytesIn w a ms) (hl : ms.length = n) (hnn : n ≤ 9223372036854775807) (hb : ∀ m ∈ ms, m < 256) :
    Calls Tryd.prog 3 #[.bool d, .int .u8 (α : Int), .int .u8 (β : Int), .slice a n c] w fun e w' => e = .returned (.bool true) ∧ Below w.heap.size w w' := by
  have LOW : Below w.heap.size w w := Below.refl _ _
  obtain ⟨r, hr⟩ : ∃ r, α % 5 = r := ⟨_, rfl⟩
  obtain ⟨k, hk⟩ : ∃ k, 1 + r = k := ⟨_, rfl⟩
  obtain ⟨s, hs⟩ : ∃ s, β % 4 = s := ⟨_, rfl⟩
  obtain ⟨t, ht⟩ : ∃ t, (k + s) % 5 = t := ⟨_, rfl⟩
  obtain ⟨m, hm⟩ : ∃ m, 1 + t = m := ⟨_, rfl⟩
  have k1 : 1 ≤ k := by omega
  have k5 : k ≤ 5 := by omega
  have s4 : s < 4 := by omega
  have m1 : 1 ≤ m := by omega
  have m5 : m ≤ 5 := by omega
  have hkm : k ≠ m := by rw [← hm, ← ht]; exact top_km k1 k5 s4
  have e1 : (α : Int).tmod 5 = (r : Int) := by rw [Int.tmod_eq_emod_of_nonneg (by omega)]; omega
  have e1' : (α : Int) % 5 = (r : Int) := by omega
  have e2 : (1 : Int) + (r : Int) = (k : Int) := by omega
  have e3 : (β : Int).tmod 4 = (s : Int) := by rw [Int.tmod_eq_emod_of_nonneg (by omega)]; omega
  have e3' : (β : Int) % 4 = (s : Int) := by omega
  have e4 : ((k : Int) + (s : Int)).tmod 5 = (t : Int) := by rw [Int.tmod_eq_emod_of_nonneg (by omega)]; omega
  have e4' : ((k : Int) + (s : Int)) % 5 = (t : Int) := by omega
  have e5 : (1 : Int) + (t : Int) = (m : Int) := by omega
  have g1 : IntKind.i64.wrap (r : Int) = (r : Int) := by rw [IntKind.wrap_i64]; omega
  have g2 : IntKind.i64.wrap (k : Int) = (k : Int) := by rw [IntKind.wrap_i64]; omega
  have g3 : IntKind.i64.wrap (s : Int) = (s : Int) := by rw [IntKind.wrap_i64]; omega
  have g4 : IntKind.i64.wrap ((k : Int) + (s : Int)) = (k : Int) + (s : Int) := by rw [IntKind.wrap_i64]; omega
  have g5 : IntKind.i64.wrap (t : Int) = (t : Int) := by rw [IntKind.wrap_i64]; omega
  have g6 : IntKind.i64.wrap (m : Int) = (m : Int) := by rw [IntKind.wrap_i64]; omega
  have g7 : IntKind.u8.wrap (r : Int) = (r : Int) := by rw [show IntKind.u8.wrap (r : Int) = (r : Int) % 256 from rfl]; omega
  have g8 : IntKind.u8.wrap (s : Int) = (s : Int) := by rw [show IntKind.u8.wrap (s : Int) = (s : Int) % 256 from rfl]; omega
  obtain ⟨ua, ul, hof⟩ : ∃ ua ul, nOf okN (nmcL ms 12) = ⟨ua, ul⟩ := ⟨_, _, rfl⟩
  have hfit := nmc_fit ms 12 (by omega)
  have hff := of_fit hfit hof
  have hl60 : ul.length ≤ 60 := by have := hff.2; have := nmc_len ms 12; omega
  have HG := Lib.hid (And.intro hn (And.intro hg (And.intro hin (And.intro hl hb))))
  have HK := Lib.hid (And.intro k1 (And.intro k5 (And.intro m1 (And.intro m5 hkm))))
  have HO := Lib.hid (And.intro hof (And.intro hfit (And.intro hff.1 (And.intro hl60 (show Real ⟨ua, ul⟩ by rw [← hof]; exact real_of _)))))
  have neN : ∀ x ∈ ul, x ≠ [] := of_ne hof
  clear hr hk hs ht hm k1 k5 s4 m1 m5 hkm hn hg hin hl hb hα hβ hof hfit hff hl60
  go_enter Tryd.func3, Tryd.ntmps3
  go_wp2_with fail
  refine (cl_examples HG.out.1 HG.out.2.1).mono ?_
  rintro e w1 ⟨rfl, hb2⟩
  replace LOW := LOW.trans (hb2.mono LOW.size)
  clear hb2
  dsimp only
  go_wp2_with fail
  clear e1 e1' e2 e3 e3' e4 e4' e5 g1 g2 g3 g4 g5 g6 g7 g8
  refine (new_any d w1).mono ?_
  rintro e w3 ⟨rfl, hb4⟩
  replace LOW := LOW.trans (hb4.mono LOW.size)
  clear hb4
  dsimp only
  go_wp2_with fail
  refine (few10_any (HG.out.2.2.1.later LOW) HG.out.2.2.2.1 hnn (m := 12) (by decide) HG.out.2.2.2.2).mono ?_
  rintro e w5 ⟨fa, fc, rfl, FO, hb6⟩
  replace LOW := LOW.trans (hb6.mono LOW.size)
  clear hb6
  dsimp only
  have TF : TsAt w5 _ (nmcL ms 12) := RowV.own FO
  clear FO
  go_wp2_with fail
  refine (of_any TF HO.out.2.1 HO.out.1).mono ?_
  rintro e w7 ⟨oa, oc, rfl, TO, hb8⟩
  replace LOW := LOW.trans (hb8.mono LOW.size)
  clear hb8
  dsimp only
  clear TF
  go_wp2_with fail
  refine (ask_zero (x := Cl.new d) (d := d) (k := k) rfl HK.out.1 HK.out.2.1 (Cl.new_get _ _) HO.out.2.2.2.2 HO.out.2.2.1 HO.out.2.2.2.1 TO).mono ?_
  rintro e w9 ⟨ta, tc, a1, n1, c1, a2, n2, c2, a3, n3, c3, rfl, TN, hb10⟩
  replace LOW := LOW.trans (hb10.mono LOW.size)
  clear hb10
  dsimp only
  clear TO
  have HX1 := Lib.hid (topc_ask (x := Cl.new d) (d := d) (t := ⟨ua, ta, tc, ul, true, 0⟩) rfl (Cl.new_get _ _) HK.out.2.2.2.2 (by have := HK.out.2.1; omega) (by have := HK.out.2.2.2.1; omega))
  generalize (Cl.new d).set ⟨ua, ta, tc, ul, true, 0⟩ k = X1 at HX1 ⊢
  have LE14 := Lib.hid LOW.size
  obtain ⟨w11, hw12, hb13, PC⟩ := alloc_new w9 Cl.zero.arr CT
  replace hw12 : w9.alloc (.cells #[.bool false, .bool false, .slice none 0 0, .bool false, .int .u64 0, .bool false, .slice none 0 0, .bool false, .int .u64 0, .bool false, .slice none 0 0, .bool false, .int .u64 0, .bool false, .slice none 0 0, .bool false, .int .u64 0, .bool false, .slice none 0 0, .bool false, .int .u64 0, .bool false, .slice none 0 0, .bool false, .int .u64 0] CT) = w11 := hw12
  replace TN := TN.later hb13
  replace LOW := LOW.trans (hb13.mono LOW.size)
  clear hb13
  have HW15 := Lib.hid hw12
  clear hw12
  have LE19 := Lib.hid LOW.size
  obtain ⟨w16, hw17, hb18, R1⟩ := alloc_new w11 rq0 RT
  replace PC := PC.later hb18
  replace TN := TN.later hb18
  replace LOW := LOW.trans (hb18.mono LOW.size)
  clear hb18
  have HW20 := Lib.hid hw17
  clear hw17
  go_wp2_with (first | rw [HW15.out] | rw [HW20.out] | (refine wpList_store_cl _ _ Cl.zero X1 w9.heap.size rfl rfl (by rfl) (by rfl) PC ?_; intro w21 p22 j23; have mv24 := j23.blk (Blk.ne R1 PC (by decide)) R1; have mv25 := j23.ts PC (cl_no _ _) TN; have mv26 := LOW.trans (j23.below LE14.out); replace R1 := mv24; replace TN := mv25; replace LOW := mv26; replace PC := p22; simp only [Act.put]) | (refine wpList_store_rq _ _ w11.heap.size rfl rfl (by rfl) (by rfl) R1 rfl (by rfl) (by first | (simp [Value.oneCell']; done) | simp [rq, Value.oneCell']) ?_; intro w27 p28 j29; have mv30 := j29.blk (Blk.ne PC R1 (by decide)) PC; have mv31 := j29.ts R1 (rq0_no neN) TN; have mv32 := LOW.trans (j29.below LE19.out); replace PC := mv30; replace TN := mv31; replace LOW := mv32; replace R1 := p28; simp only [Act.put]) | (refine wpList_load_cl _ X1 w9.heap.size rfl rfl (by rfl) PC ?_; simp only [Act.put, List.setIfInBounds_toArray, List.set_cons_zero, List.set_cons_succ]))
  clear R1
  refine (take_ok (x := X1) (k := k) (q := 9) (d := d) (O := true) (E := true) (F := true) HK.out.1 HK.out.2.1 (by omega) (HG.out.1.later LOW) (by rw [HX1.out.k]) (by rw [HX1.out.d]; cases d <;> rfl) (by rw [HX1.out.k]; rfl) rfl).mono ?_
  rintro e w33 ⟨rfl, hb34⟩
  replace PC := PC.later hb34
  replace TN := TN.later hb34
  replace LOW := LOW.trans (hb34.mono LOW.size)
  clear hb34
  dsimp only
  have HX2 := Lib.hid (topc_take 9 HX1.out HK.out.2.2.2.2 (by have := HK.out.2.1; omega) (by have := HK.out.2.2.2.1; omega))
  generalize X1.set { X1.get k with q := 9 } k = X2 at HX2 ⊢
  go_wp2_with (first | (refine wpList_store_cl _ _ X1 X2 w9.heap.size rfl rfl (by rfl) (by rfl) PC ?_; intro w35 p36 j37; have mv38 := j37.ts PC (cl_no _ _) TN; have mv39 := LOW.trans (j37.below LE14.out); replace TN := mv38; replace LOW := mv39; replace PC := p36; simp only [Act.put]) | (refine wpList_load_cl _ X2 w9.heap.size rfl rfl (by rfl) PC ?_; simp only [Act.put, List.setIfInBounds_toArray, List.set_cons_zero, List.set_cons_succ]))
  refine (take_err (x := X2) (k := m) (q := 9) (d := d) (O := false) (E := true) (F := true) (N' := 7) (s' := sAsked) HK.out.2.2.1 HK.out.2.2.2.1 (by omega) (HG.out.1.later LOW) (HG.out.2.1.later LOW) (by rw [HX2.out.m]; rfl) (by rw [HX2.out.d]; cases d <;> rfl) (by rw [HX2.out.m]; rfl) rfl).mono ?_
  rintro e w40 ⟨rfl, hb41⟩
  replace PC := PC.later hb41
  replace TN := TN.later hb41
  replace LOW := LOW.trans (hb41.mono LOW.size)
  clear hb41
  dsimp only
  have NE45 := Lib.hid (Nat.ne_of_lt PC.lt)
  have LE46 := Lib.hid LOW.size
  obtain ⟨w42, hw43, hb44, C2⟩ := alloc_new w40 Cl.zero.arr CT
  replace hw43 : w40.alloc (.cells #[.bool false, .bool false, .slice none 0 0, .bool false, .int .u64 0, .bool false, .slice none 0 0, .bool false, .int .u64 0, .bool false, .slice none 0 0, .bool false, .int .u64 0, .bool false, .slice none 0 0, .bool false, .int .u64 0, .bool false, .slice none 0 0, .bool false, .int .u64 0, .bool false, .slice none 0 0, .bool false, .int .u64 0] CT) = w42 := hw43
  replace PC := PC.later hb44
  replace TN := TN.later hb44
  replace LOW := LOW.trans (hb44.mono LOW.size)
  clear hb44
  have HW47 := Lib.hid hw43
  clear hw43
  go_wp2_with (first | rw [HW47.out] | (refine wpList_store_cl _ _ Cl.zero X2 w40.heap.size rfl rfl (by rfl) (by rfl) C2 ?_; intro w48 p49 j50; have mv51 := j50.blk NE45.out PC; have mv52 := j50.ts C2 (cl_no _ _) TN; have mv53 := LOW.trans (j50.below LE46.out); replace PC := mv51; replace TN := mv52; replace LOW := mv53; replace C2 := p49; simp only [Act.put]) | (refine wpList_load_cl _ X2 w9.heap.size rfl rfl (by rfl) PC ?_; simp only [Act.put, List.setIfInBounds_toArray, List.set_cons_zero, List.set_cons_succ]))
  clear C2
  refine (ans_none (x := X2) (k := m) (s := ⟨#[]⟩) HK.out.2.2.1 HK.out.2.2.2.1 (by decide) (by rw [HX2.out.m]; rfl) (HG.out.2.1.later LOW)).mono ?_
  rintro e w54 ⟨rfl, hb55⟩
  replace PC := PC.later hb55
  replace TN := TN.later hb55
  replace LOW := LOW.trans (hb55.mono LOW.size)
  clear hb55
  dsimp only
  have LE59 := Lib.hid LOW.size
  obtain ⟨w56, hw57, hb58, R2⟩ := alloc_new w54 rq0 RT
  replace PC := PC.later hb58
  replace TN := TN.later hb58
  replace LOW := LOW.trans (hb58.mono LOW.size)
  clear hb58
  have HW60 := Lib.hid hw57
  clear hw57
  go_wp2_with (first | rw [HW60.out] | (refine wpList_store_rq _ _ w54.heap.size rfl rfl (by rfl) (by rfl) R2 rfl (by rfl) (by first | (simp [Value.oneCell']; done) | simp [rq, Value.oneCell']) ?_; intro w61 p62 j63; have mv64 := j63.blk (Blk.ne PC R2 (by decide)) PC; have mv65 := j63.ts R2 (rq0_no neN) TN; have mv66 := LOW.trans (j63.below LE59.out); replace PC := mv64; replace TN := mv65; replace LOW := mv66; replace R2 := p62; simp only [Act.put]) | (refine wpList_load_cl _ X2 w9.heap.size rfl rfl (by rfl) PC ?_; simp only [Act.put, List.setIfInBounds_toArray, List.set_cons_zero, List.set_cons_succ]))
  clear R2
  obtain ⟨LS, hLS⟩ : ∃ LS, X2.says k = LS := ⟨_, rfl⟩
  have hLSl : LS.length * 16 ≤ 140737488355328 := by
    have h0 := nlist_len ⟨ua, ul⟩
    have h1 := HO.out.2.2.2.1
    rw [← hLS]; unfold Cl.says; rw [HX2.out.k]; split
    · simp
    · show (nList ⟨ua, ul⟩).length * 16 ≤ _
      simp only at h0; omega
  refine (ans_ok (x := X2) (k := k) (s := ⟨#[]⟩) (L := LS) HK.out.1 HK.out.2.1 (by decide) (by rw [HX2.out.k]; show (9 : Nat) ≠ 0; omega) (by rw [HX2.out.k]; exact TN) hLS hLSl).mono ?_
  rintro e w67 ⟨a9, c9, rfl, -, hb68⟩
  replace PC := PC.later hb68
  replace TN := TN.later hb68
  replace LOW := LOW.trans (hb68.mono LOW.size)
  clear hb68
  dsimp only
  have hq9 : (X2.get k).q = 9 := by rw [HX2.out.k]
  rw [hq9]
  clear hq9 hLS hLSl
  have LE72 := Lib.hid LOW.size
  obtain ⟨w69, hw70, hb71, R3⟩ := alloc_new w67 rq0 RT
  replace PC := PC.later hb71
  replace TN := TN.later hb71
  replace LOW := LOW.trans (hb71.mono LOW.size)
  clear hb71
  have HW73 := Lib.hid hw70
  clear hw70
  go_wp2_with (first | rw [HW73.out] | (refine wpList_store_rq _ _ w67.heap.size rfl rfl (by rfl) (by rfl) R3 rfl (by rfl) (by first | (simp [Value.oneCell']; done) | simp [rq, Value.oneCell']) ?_; intro w74 p75 j76; have mv77 := j76.blk (Blk.ne PC R3 (by decide)) PC; have mv78 := j76.ts R3 (rq0_no neN) TN; have mv79 := LOW.trans (j76.below LE72.out); replace PC := mv77; replace TN := mv78; replace LOW := mv79; replace R3 := p75; simp only [Act.put]))
  have neA : ∀ x ∈ ([[97]] : List (List UInt8)), x ≠ [] := by intro x hx; obtain rfl := List.mem_singleton.1 hx; decide
  clear TN
  have HO := Lib.hid (show (fun (A : Array Oper) => A[0]? = some { dst := some 79, op := Op.load 32 (Operand.tmp 12), type := 32, pos := "keeps.go:105", after := #[], guard := none } ∧ A[1]? = some { dst := some 80, op := Op.move (Operand.tmp 11), type := 3, pos := "keeps.go:105", after := #[], guard := none } ∧ A[2]? = some { dst := some 81, op := Op.buildSlice 24 1 #[(0, Operand.const (Value.string { data := #[97] }))], type := 24, pos := "keeps.go:105", after := #[], guard := none } ∧ A[3]? = some { dst := some 82, op := Op.call { callee := Callee.value (Operand.func 7), args := #[Operand.tmp 81], argTypes := #[24] }, type := 26, pos := "keeps.go:105", after := #[{ on := 2, ground := Ground.data }], guard := none } ∧ A[4]? = some { dst := some 83, op := Op.call { callee := Callee.value (Operand.func 6), args := #[Operand.tmp 79, Operand.tmp 80, Operand.tmp 82, Operand.const (Value.slice none 0 0)], argTypes := #[32, 3, 26, 33] }, type := 37, pos := "keeps.go:105", after := #[{ on := 0, ground := Ground.data }, { on := 1, ground := Ground.data }, { on := 3, ground := Ground.data }, { on := 3, ground := Ground.chain }], guard := none } ∧ A[5]? = some { dst := some 78, op := Op.move (Operand.tmp 83), type := 37, pos := "keeps.go:105", after := #[{ on := 4, ground := Ground.data }], guard := none } ∧ A[6]? = some { dst := some 84, op := Op.extract (Operand.tmp 78) 0, type := 32, pos := "keeps.go:105", after := #[{ on := 5, ground := Ground.data }], guard := none } ∧ A[7]? = some { dst := some 85, op := Op.extract (Operand.tmp 78) 1, type := 35, pos := "keeps.go:105", after := #[{ on := 5, ground := Ground.data }, { on := 11, ground := Ground.gcOnly Departure.lateStores }], guard := none } ∧ A[8]? = some { dst := some 86, op := Op.extract (Operand.tmp 78) 2, type := 36, pos := "keeps.go:105", after := #[{ on := 5, ground := Ground.data }, { on := 12, ground := Ground.gcOnly Departure.lateStores }], guard := none } ∧ A[9]? = some { dst := some 22, op := Op.alloc 32, type := 0, pos := "keeps.go:105", after := #[], guard := none } ∧ A[10]? = some { dst := some 23, op := Op.alloc 35, type := 0, pos := "keeps.go:105", after := #[], guard := none } ∧ A[11]? = some { dst := none, op := Op.store 32 (Operand.tmp 22) (Operand.tmp 84), type := 0, pos := "keeps.go:105", after := #[{ on := 9, ground := Ground.data }, { on := 6, ground := Ground.data }, { on := 4, ground := Ground.chain }, { on := 0, ground := Ground.phase }, { on := 1, ground := Ground.phase }, { on := 2, ground := Ground.phase }, { on := 3, ground := Ground.phase }, { on := 4, ground := Ground.phase }, { on := 5, ground := Ground.phase }, { on := 6, ground := Ground.phase }, { on := 7, ground := Ground.textOnly Departure.lateStores }, { on := 8, ground := Ground.textOnly Departure.lateStores }, { on := 9, ground := Ground.phase }, { on := 10, ground := Ground.phase }], guard := none } ∧ A[12]? = some { dst := none, op := Op.store 35 (Operand.tmp 23) (Operand.tmp 85), type := 0, pos := "keeps.go:105", after := #[{ on := 10, ground := Ground.data }, { on := 7, ground := Ground.data }, { on := 11, ground := Ground.chain }, { on := 0, ground := Ground.phase }, { on := 1, ground := Ground.phase }, { on := 2, ground := Ground.phase }, { on := 3, ground := Ground.phase }, { on := 4, ground := Ground.phase }, { on := 5, ground := Ground.phase }, { on := 6, ground := Ground.phase }, { on := 7, ground := Ground.phase }, { on := 8, ground := Ground.textOnly Departure.lateStores }, { on := 9, ground := Ground.phase }, { on := 10, ground := Ground.phase }, { on := 11, ground := Ground.phase }], guard := none } ∧ A[13]? = some { dst := some 24, op := Op.assign (Operand.tmp 86), type := 36, pos := "keeps.go:105", after := #[{ on := 8, ground := Ground.data }, { on := 12, ground := Ground.chain }, { on := 0, ground := Ground.phase }, { on := 1, ground := Ground.phase }, { on := 2, ground := Ground.phase }, { on := 3, ground := Ground.phase }, { on := 4, ground := Ground.phase }, { on := 5, ground := Ground.phase }, { on := 6, ground := Ground.phase }, { on := 7, ground := Ground.phase }, { on := 8, ground := Ground.phase }, { on := 9, ground := Ground.phase }, { on := 10, ground := Ground.phase }, { on := 11, ground := Ground.phase }, { on := 12, ground := Ground.phase }], guard := none }) #[{ dst := some 79, op := Op.load 32 (Operand.tmp 12), type := 32, pos := "keeps.go:105", after := #[], guard := none }, { dst := some 80, op := Op.move (Operand.tmp 11), type := 3, pos := "keeps.go:105", after := #[], guard := none }, { dst := some 81, op := Op.buildSlice 24 1 #[(0, Operand.const (Value.string { data := #[97] }))], type := 24, pos := "keeps.go:105", after := #[], guard := none }, { dst := some 82, op := Op.call { callee := Callee.value (Operand.func 7), args := #[Operand.tmp 81], argTypes := #[24] }, type := 26, pos := "keeps.go:105", after := #[{ on := 2, ground := Ground.data }], guard := none }, { dst := some 83, op := Op.call { callee := Callee.value (Operand.func 6), args := #[Operand.tmp 79, Operand.tmp 80, Operand.tmp 82, Operand.const (Value.slice none 0 0)], argTypes := #[32, 3, 26, 33] }, type := 37, pos := "keeps.go:105", after := #[{ on := 0, ground := Ground.data }, { on := 1, ground := Ground.data }, { on := 3, ground := Ground.data }, { on := 3, ground := Ground.chain }], guard := none }, { dst := some 78, op := Op.move (Operand.tmp 83), type := 37, pos := "keeps.go:105", after := #[{ on := 4, ground := Ground.data }], guard := none }, { dst := some 84, op := Op.extract (Operand.tmp 78) 0, type := 32, pos := "keeps.go:105", after := #[{ on := 5, ground := Ground.data }], guard := none }, { dst := some 85, op := Op.extract (Operand.tmp 78) 1, type := 35, pos := "keeps.go:105", after := #[{ on := 5, ground := Ground.data }, { on := 11, ground := Ground.gcOnly Departure.lateStores }], guard := none }, { dst := some 86, op := Op.extract (Operand.tmp 78) 2, type := 36, pos := "keeps.go:105", after := #[{ on := 5, ground := Ground.data }, { on := 12, ground := Ground.gcOnly Departure.lateStores }], guard := none }, { dst := some 22, op := Op.alloc 32, type := 0, pos := "keeps.go:105", after := #[], guard := none }, { dst := some 23, op := Op.alloc 35, type := 0, pos := "keeps.go:105", after := #[], guard := none }, { dst := none, op := Op.store 32 (Operand.tmp 22) (Operand.tmp 84), type := 0, pos := "keeps.go:105", after := #[{ on := 9, ground := Ground.data }, { on := 6, ground := Ground.data }, { on := 4, ground := Ground.chain }, { on := 0, ground := Ground.phase }, { on := 1, ground := Ground.phase }, { on := 2, ground := Ground.phase }, { on := 3, ground := Ground.phase }, { on := 4, ground := Ground.phase }, { on := 5, ground := Ground.phase }, { on := 6, ground := Ground.phase }, { on := 7, ground := Ground.textOnly Departure.lateStores }, { on := 8, ground := Ground.textOnly Departure.lateStores }, { on := 9, ground := Ground.phase }, { on := 10, ground := Ground.phase }], guard := none }, { dst := none, op := Op.store 35 (Operand.tmp 23) (Operand.tmp 85), type := 0, pos := "keeps.go:105", after := #[{ on := 10, ground := Ground.data }, { on := 7, ground := Ground.data }, { on := 11, ground := Ground.chain }, { on := 0, ground := Ground.phase }, { on := 1, ground := Ground.phase }, { on := 2, ground := Ground.phase }, { on := 3, ground := Ground.phase }, { on := 4, ground := Ground.phase }, { on := 5, ground := Ground.phase }, { on := 6, ground := Ground.phase }, { on := 7, ground := Ground.phase }, { on := 8, ground := Ground.textOnly Departure.lateStores }, { on := 9, ground := Ground.phase }, { on := 10, ground := Ground.phase }, { on := 11, ground := Ground.phase }], guard := none }, { dst := some 24, op := Op.assign (Operand.tmp 86), type := 36, pos := "keeps.go:105", after := #[{ on := 8, ground := Ground.data }, { on := 12, ground := Ground.chain }, { on := 0, ground := Ground.phase }, { on := 1, ground := Ground.phase }, { on := 2, ground := Ground.phase }, { on := 3, ground := Ground.phase }, { on := 4, ground := Ground.phase }, { on := 5, ground := Ground.phase }, { on := 6, ground := Ground.phase }, { on := 7, ground := Ground.phase }, { on := 8, ground := Ground.phase }, { on := 9, ground := Ground.phase }, { on := 10, ground := Ground.phase }, { on := 11, ground := Ground.phase }, { on := 12, ground := Ground.phase }], guard := none }] from ⟨by kernel_rfl, by kernel_rfl, by kernel_rfl, by kernel_rfl, by kernel_rfl, by kernel_rfl, by kernel_rfl, by kernel_rfl, by kernel_rfl, by kernel_rfl, by kernel_rfl, by kernel_rfl, by kernel_rfl, by kernel_rfl⟩)
  obtain ⟨w80, hw81, hb82⟩ := drew_new w74
  replace PC := PC.later hb82
  replace R3 := R3.later hb82
  replace LOW := LOW.trans (hb82.mono LOW.size)
  refine wp_region_held_drew (S := (fun w' => Blk w' w9.heap.size X2.arr CT ∧ True)) (by kernel_rfl) (by rw [hw81]; exact ⟨PC, trivial⟩) (fun hHeld => ?_)
  rw [hw81] at hHeld ⊢
  clear hw81 hb82
  refine wpAnyH_take (i := 0) (v := .agg X2.arr) HO.out.1 (by kernel_rfl) (by kernel_rfl) (by kernel_rfl) (fun _ _ _ h => h) (Or.inl ⟨by rfl, ?hy1⟩) (by assumption) ?rest1
  case hy1 => (intro w1 hSw; (try dsimp only at hSw); obtain ⟨h0, -⟩ := hSw; (apply exec_load_cl; (· rfl); (· rfl); exact h0))
  try simp only [Act.put, List.setIfInBounds_toArray, List.set_cons_zero, List.set_cons_succ]
  refine wpAnyH_take (i := 1) (v := ?v2) HO.out.2.1 (by kernel_rfl) (by kernel_rfl) (by kernel_rfl) (fun _ _ _ h => h) (Or.inl ⟨by rfl, ?hy2⟩) (by assumption) ?rest2
  case hy2 => (intro w1 hSw; (try dsimp only at hSw); obtain ⟨h0, -⟩ := hSw; go_simp; try with_reducible rfl)
  try simp only [Act.put, List.setIfInBounds_toArray, List.set_cons_zero, List.set_cons_succ]
  refine wpAnyH_ready (rs := [2, 9, 10]) (by kernel_rfl) (by simp) ?_
  refine AllReadyH.cons HO.out.2.2.1 (fun K hK => ?_) ?_
  · go_simp
    have LE86 := Lib.hid LOW.size
    obtain ⟨w83, hw84, hb85, QA⟩ := alloc_new w80 #[.string ⟨#[97]⟩] 9
    replace PC := PC.later hb85
    replace R3 := R3.later hb85
    replace LOW := LOW.trans (hb85.mono LOW.size)
    clear hb85
    have TA : TsAt w83 _ [[97]] := ts_block (l := [[97]]) QA (by decide) rfl
    rw [hw84]
    clear hw84 QA
    try clear hHeld
    refine hK.out _ _ (⟨PC, trivial⟩) (fun hHeld => ?_)
    clear hK K
    try simp only [Act.put, List.setIfInBounds_toArray, List.set_cons_zero, List.set_cons_succ]
    refine wpAnyH_ready (rs := [3, 9, 10]) (by kernel_rfl) (by simp) ?_
    refine AllReadyH.cons HO.out.2.2.2.1 (fun K hK => ?_) ?_
    · go_simp
      refine (of_any (l := [[97]]) TA a_fit a_of).mono ?_
      rintro e w87 ⟨ta0, tc0, rfl, TO, hb88⟩
      replace PC := PC.later hb88
      replace R3 := R3.later hb88
      replace TA := TA.later hb88
      replace LOW := LOW.trans (hb88.mono LOW.size)
      clear hb88
      clear TA
      try clear hHeld
      refine hK.out _ _ (⟨PC, trivial⟩) (fun hHeld => ?_)
      clear hK K
      try simp only [Act.put, List.setIfInBounds_toArray, List.set_cons_zero, List.set_cons_succ]
      refine wpAnyH_ready (rs := [4, 9, 10]) (by kernel_rfl) (by simp) ?_
      refine AllReadyH.cons HO.out.2.2.2.2.1 (fun K hK => ?_) ?_
      · go_simp
        refine (ask_zero (x := X2) (d := d) (k := m) HX2.out.d HK.out.2.2.1 HK.out.2.2.2.1 HX2.out.m a_real a_fit (by decide) TO).mono ?_
        rintro e w89 ⟨tb, td, a1, n1, c1, a2, n2, c2, a3, n3, c3, rfl, -, hb90⟩
        replace PC := PC.later hb90
        replace R3 := R3.later hb90
        replace TO := TO.later hb90
        replace LOW := LOW.trans (hb90.mono LOW.size)
        clear hb90
        clear TO
        try clear hHeld
        refine hK.out _ _ (⟨PC, trivial⟩) (fun hHeld => ?_)
        clear hK K
        try simp only [Act.put, List.setIfInBounds_toArray, List.set_cons_zero, List.set_cons_succ]
        refine wpAnyH_take (i := 5) (v := ?v3) HO.out.2.2.2.2.2.1 (by kernel_rfl) (by kernel_rfl) (by kernel_rfl) (fun _ _ _ h => h) (Or.inl ⟨by rfl, ?hy3⟩) (by assumption) ?rest3
        case hy3 => (intro w1 hSw; (try dsimp only at hSw); obtain ⟨h0, -⟩ := hSw; go_simp; try with_reducible rfl)
        try simp only [Act.put, List.setIfInBounds_toArray, List.set_cons_zero, List.set_cons_succ]
        refine wpAnyH_take (i := 6) (v := ?v4) HO.out.2.2.2.2.2.2.1 (by kernel_rfl) (by kernel_rfl) (by kernel_rfl) (fun _ _ _ h => h) (Or.inl ⟨by rfl, ?hy4⟩) (by assumption) ?rest4
        case hy4 => (intro w1 hSw; (try dsimp only at hSw); obtain ⟨h0, -⟩ := hSw; go_simp; try with_reducible rfl)
        try simp only [Act.put, List.setIfInBounds_toArray, List.set_cons_zero, List.set_cons_succ]
        refine wpAnyH_take (i := 7) (v := ?v5) HO.out.2.2.2.2.2.2.2.1 (by kernel_rfl) (by kernel_rfl) (by kernel_rfl) (fun _ _ _ h => h) (Or.inl ⟨by rfl, ?hy5⟩) (by assumption) ?rest5
        case hy5 => (intro w1 hSw; (try dsimp only at hSw); obtain ⟨h0, -⟩ := hSw; go_simp; try with_reducible rfl)
        try simp only [Act.put, List.setIfInBounds_toArray, List.set_cons_zero, List.set_cons_succ]
        refine wpAnyH_take (i := 8) (v := ?v6) HO.out.2.2.2.2.2.2.2.2.1 (by kernel_rfl) (by kernel_rfl) (by kernel_rfl) (fun _ _ _ h => h) (Or.inl ⟨by rfl, ?hy6⟩) (by assumption) ?rest6
        case hy6 => (intro w1 hSw; (try dsimp only at hSw); obtain ⟨h0, -⟩ := hSw; go_simp; try with_reducible rfl)
        try simp only [Act.put, List.setIfInBounds_toArray, List.set_cons_zero, List.set_cons_succ]
        refine wpAnyH_ready (rs := [9, 10]) (by kernel_rfl) (by simp) ?_
        refine AllReadyH.cons HO.out.2.2.2.2.2.2.2.2.2.1 (fun K hK => ?_) ?_
        · go_simp
          have NE94 := Lib.hid (Nat.ne_of_lt PC.lt)
          have LE95 := Lib.hid LOW.size
          obtain ⟨w91, hw92, hb93, C4⟩ := alloc_new w89 Cl.zero.arr CT
          replace hw92 : w89.alloc (.cells #[.bool false, .bool false, .slice none 0 0, .bool false, .int .u64 0, .bool false, .slice none 0 0, .bool false, .int .u64 0, .bool false, .slice none 0 0, .bool false, .int .u64 0, .bool false, .slice none 0 0, .bool false, .int .u64 0, .bool false, .slice none 0 0, .bool false, .int .u64 0, .bool false, .slice none 0 0, .bool false, .int .u64 0] CT) = w91 := hw92
          replace PC := PC.later hb93
          replace R3 := R3.later hb93
          replace LOW := LOW.trans (hb93.mono LOW.size)
          clear hb93
          rw [hw92]
          clear hw92
          try clear hHeld
          refine hK.out _ _ (⟨PC, trivial⟩) (fun hHeld => ?_)
          clear hK K
          try simp only [Act.put, List.setIfInBounds_toArray, List.set_cons_zero, List.set_cons_succ]
          refine wpAnyH_ready (rs := [10]) (by kernel_rfl) (by simp) ?_
          refine AllReadyH.cons HO.out.2.2.2.2.2.2.2.2.2.2.1 (fun K hK => ?_) AllReadyH.nil
          go_simp
          have NE99 := Lib.hid (Nat.ne_of_lt R3.lt)
          have LE100 := Lib.hid LOW.size
          obtain ⟨w96, hw97, hb98, R5⟩ := alloc_new w91 rq0 RT
          replace PC := PC.later hb98
          replace R3 := R3.later hb98
          replace C4 := C4.later hb98
          replace LOW := LOW.trans (hb98.mono LOW.size)
          clear hb98
          rw [hw97]
          clear hw97
          try clear hHeld
          refine hK.out _ _ (⟨PC, trivial⟩) (fun hHeld => ?_)
          clear hK K
          try simp only [Act.put, List.setIfInBounds_toArray, List.set_cons_zero, List.set_cons_succ]
          refine wpAnyH_ready (rs := [11]) (by kernel_rfl) (by simp) ?_
          refine AllReadyH.cons HO.out.2.2.2.2.2.2.2.2.2.2.2.1 (fun K hK => ?_) AllReadyH.nil
          rw [if_pos (by rfl)]
          refine wp_store_cl _ _ Cl.zero _ w89.heap.size rfl (by rfl) (by rfl) C4 ?_
          intro w101 p102 j103
          have mv104 := j103.blk NE94.out PC
          have mv105 := j103.blk (Blk.ne R3 C4 (by decide)) R3
          have mv106 := j103.blk (Blk.ne R5 C4 (by decide)) R5
          have mv107 := LOW.trans (j103.below LE95.out)
          replace PC := mv104
          replace R3 := mv105
          replace R5 := mv106
          replace LOW := mv107
          replace C4 := p102
          try clear hHeld
          refine hK.out _ _ (⟨PC, trivial⟩) (fun hHeld => ?_)
          clear hK K
          simp only [Act.put]
          refine wpAnyH_ready (rs := [12]) (by kernel_rfl) (by simp) ?_
          refine AllReadyH.cons HO.out.2.2.2.2.2.2.2.2.2.2.2.2.1 (fun K hK => ?_) AllReadyH.nil
          rw [if_pos (by rfl)]
          refine wp_store_rq _ _ w91.heap.size rfl (by rfl) (by rfl) R5 rfl (by rfl) (by first | (simp [Value.oneCell']; done) | simp [rq, Value.oneCell']) ?_
          intro w108 p109 j110
          have mv111 := j110.blk (Blk.ne PC R5 (by decide)) PC
          have mv112 := j110.blk NE99.out R3
          have mv113 := j110.blk (Blk.ne C4 R5 (by decide)) C4
          have mv114 := LOW.trans (j110.below LE100.out)
          replace PC := mv111
          replace R3 := mv112
          replace C4 := mv113
          replace LOW := mv114
          replace R5 := p109
          try clear hHeld
          refine hK.out _ _ (⟨PC, trivial⟩) (fun hHeld => ?_)
          clear hK K
          simp only [Act.put]
          refine wpAnyH_take (i := 13) (v := ?v7) HO.out.2.2.2.2.2.2.2.2.2.2.2.2.2 (by kernel_rfl) (by kernel_rfl) (by kernel_rfl) (fun _ _ _ h => h) (Or.inl ⟨by rfl, ?hy7⟩) (by assumption) ?rest7
          case hy7 => (intro w1 hSw; (try dsimp only at hSw); obtain ⟨h0, -⟩ := hSw; go_simp; try with_reducible rfl)
          try simp only [Act.put, List.setIfInBounds_toArray, List.set_cons_zero, List.set_cons_succ]
          refine wpAnyH_done (by kernel_rfl) ?_ _
          have y2 := R3.cell 2
          have z0 := R5.cell 0
          have z2 := R5.cell 2
          simp only [List.getElem?_toArray, List.getElem?_cons_zero, List.getElem?_cons_succ] at y2 z0 z2
          clear R3 R5 C4 PC
          go_wp2_with fail
          go_ret
          exact ⟨rfl, LOW⟩
        refine AllReadyH.cons HO.out.2.2.2.2.2.2.2.2.2.2.1 (fun K hK => ?_) AllReadyH.nil
        go_simp
        have NE118 := Lib.hid (Nat.ne_of_lt R3.lt)
        have LE119 := Lib.hid LOW.size
        obtain ⟨w115, hw116, hb117, R5⟩ := alloc_new w89 rq0 RT
        replace PC := PC.later hb117
        replace R3 := R3.later hb117
        replace LOW := LOW.trans (hb117.mono LOW.size)
        clear hb117
        rw [hw116]
        clear hw116
        try clear hHeld
        refine hK.out _ _ (⟨PC, trivial⟩) (fun hHeld => ?_)
        clear hK K
        try simp only [Act.put, List.setIfInBounds_toArray, List.set_cons_zero, List.set_cons_succ]
        refine wpAnyH_ready (rs := [9]) (by kernel_rfl) (by simp) ?_
        refine AllReadyH.cons HO.out.2.2.2.2.2.2.2.2.2.1 (fun K hK => ?_) AllReadyH.nil
        go_simp
        have NE123 := Lib.hid (Nat.ne_of_lt PC.lt)
        have LE124 := Lib.hid LOW.size
        obtain ⟨w120, hw121, hb122, C4⟩ := alloc_new w115 Cl.zero.arr CT
        replace hw121 : w115.alloc (.cells #[.bool false, .bool false, .slice none 0 0, .bool false, .int .u64 0, .bool false, .slice none 0 0, .bool false, .int .u64 0, .bool false, .slice none 0 0, .bool false, .int .u64 0, .bool false, .slice none 0 0, .bool false, .int .u64 0, .bool false, .slice none 0 0, .bool false, .int .u64 0, .bool false, .slice none 0 0, .bool false, .int .u64 0] CT) = w120 := hw121
        replace PC := PC.later hb122
        replace R3 := R3.later hb122
        replace R5 := R5.later hb122
        replace LOW := LOW.trans (hb122.mono LOW.size)
        clear hb122
        rw [hw121]
        clear hw121
        try clear hHeld
        refine hK.out _ _ (⟨PC, trivial⟩) (fun hHeld => ?_)
        clear hK K
        try simp only [Act.put, List.setIfInBounds_toArray, List.set_cons_zero, List.set_cons_succ]
        refine wpAnyH_ready (rs := [11]) (by kernel_rfl) (by simp) ?_
        refine AllReadyH.cons HO.out.2.2.2.2.2.2.2.2.2.2.2.1 (fun K hK => ?_) AllReadyH.nil
        rw [if_pos (by rfl)]
        refine wp_store_cl _ _ Cl.zero _ w115.heap.size rfl (by rfl) (by rfl) C4 ?_
        intro w125 p126 j127
        have mv128 := j127.blk NE123.out PC
        have mv129 := j127.blk (Blk.ne R3 C4 (by decide)) R3
        have mv130 := j127.blk (Blk.ne R5 C4 (by decide)) R5
        have mv131 := LOW.trans (j127.below LE124.out)
        replace PC := mv128
        replace R3 := mv129
        replace R5 := mv130
        replace LOW := mv131
        replace C4 := p126
        try clear hHeld
        refine hK.out _ _ (⟨PC, trivial⟩) (fun hHeld => ?_)
        clear hK K
        simp only [Act.put]
        refine wpAnyH_ready (rs := [12]) (by kernel_rfl) (by simp) ?_
        refine AllReadyH.cons HO.out.2.2.2.2.2.2.2.2.2.2.2.2.1 (fun K hK => ?_) AllReadyH.nil
        rw [if_pos (by rfl)]
        refine wp_store_rq _ _ w89.heap.size rfl (by rfl) (by rfl) R5 rfl (by rfl) (by first | (simp [Value.oneCell']; done) | simp [rq, Value.oneCell']) ?_
        intro w132 p133 j134
        have mv135 := j134.blk (Blk.ne PC R5 (by decide)) PC
        have mv136 := j134.blk NE118.out R3
        have mv137 := j134.blk (Blk.ne C4 R5 (by decide)) C4
        have mv138 := LOW.trans (j134.below LE119.out)
        replace PC := mv135
        replace R3 := mv136
        replace C4 := mv137
        replace LOW := mv138
        replace R5 := p133
        try clear hHeld
        refine hK.out _ _ (⟨PC, trivial⟩) (fun hHeld => ?_)
        clear hK K
        simp only [Act.put]
        refine wpAnyH_take (i := 13) (v := ?v8) HO.out.2.2.2.2.2.2.2.2.2.2.2.2.2 (by kernel_rfl) (by kernel_rfl) (by kernel_rfl) (fun _ _ _ h => h) (Or.inl ⟨by rfl, ?hy8⟩) (by assumption) ?rest8
        case hy8 => (intro w1 hSw; (try dsimp only at hSw); obtain ⟨h0, -⟩ := hSw; go_simp; try with_reducible rfl)
        try simp only [Act.put, List.setIfInBounds_toArray, List.set_cons_zero, List.set_cons_succ]
        refine wpAnyH_done (by kernel_rfl) ?_ _
        have y2 := R3.cell 2
        have z0 := R5.cell 0
        have z2 := R5.cell 2
        simp only [List.getElem?_toArray, List.getElem?_cons_zero, List.getElem?_cons_succ] at y2 z0 z2
        clear R3 R5 C4 PC
        go_wp2_with fail
        go_ret
        exact ⟨rfl, LOW⟩
      refine AllReadyH.cons HO.out.2.2.2.2.2.2.2.2.2.1 (fun K hK => ?_) ?_
      · go_simp
        have NE142 := Lib.hid (Nat.ne_of_lt PC.lt)
        have LE143 := Lib.hid LOW.size
        obtain ⟨w139, hw140, hb141, C4⟩ := alloc_new w87 Cl.zero.arr CT
        replace hw140 : w87.alloc (.cells #[.bool false, .bool false, .slice none 0 0, .bool false, .int .u64 0, .bool false, .slice none 0 0, .bool false, .int .u64 0, .bool false, .slice none 0 0, .bool false, .int .u64 0, .bool false, .slice none 0 0, .bool false, .int .u64 0, .bool false, .slice none 0 0, .bool false, .int .u64 0, .bool false, .slice none 0 0, .bool false, .int .u64 0] CT) = w139 := hw140
        replace PC := PC.later hb141
        replace R3 := R3.later hb141
        replace TO := TO.later hb141
        replace LOW := LOW.trans (hb141.mono LOW.size)
        clear hb141
        rw [hw140]
        clear hw140
        try clear hHeld
        refine hK.out _ _ (⟨PC, trivial⟩) (fun hHeld => ?_)
        clear hK K
        try simp only [Act.put, List.setIfInBounds_toArray, List.set_cons_zero, List.set_cons_succ]
        refine wpAnyH_ready (rs := [4, 10]) (by kernel_rfl) (by simp) ?_
        refine AllReadyH.cons HO.out.2.2.2.2.1 (fun K hK => ?_) ?_
        · go_simp
          refine (ask_zero (x := X2) (d := d) (k := m) HX2.out.d HK.out.2.2.1 HK.out.2.2.2.1 HX2.out.m a_real a_fit (by decide) TO).mono ?_
          rintro e w144 ⟨tb, td, a1, n1, c1, a2, n2, c2, a3, n3, c3, rfl, -, hb145⟩
          replace PC := PC.later hb145
          replace R3 := R3.later hb145
          replace C4 := C4.later hb145
          replace TO := TO.later hb145
          replace LOW := LOW.trans (hb145.mono LOW.size)
          clear hb145
          clear TO
          try clear hHeld
          refine hK.out _ _ (⟨PC, trivial⟩) (fun hHeld => ?_)
          clear hK K
          try simp only [Act.put, List.setIfInBounds_toArray, List.set_cons_zero, List.set_cons_succ]
          refine wpAnyH_take (i := 5) (v := ?v9) HO.out.2.2.2.2.2.1 (by kernel_rfl) (by kernel_rfl) (by kernel_rfl) (fun _ _ _ h => h) (Or.inl ⟨by rfl, ?hy9⟩) (by assumption) ?rest9
          case hy9 => (intro w1 hSw; (try dsimp only at hSw); obtain ⟨h0, -⟩ := hSw; go_simp; try with_reducible rfl)
          try simp only [Act.put, List.setIfInBounds_toArray, List.set_cons_zero, List.set_cons_succ]
          refine wpAnyH_take (i := 6) (v := ?v10) HO.out.2.2.2.2.2.2.1 (by kernel_rfl) (by kernel_rfl) (by kernel_rfl) (fun _ _ _ h => h) (Or.inl ⟨by rfl, ?hy10⟩) (by assumption) ?rest10
          case hy10 => (intro w1 hSw; (try dsimp only at hSw); obtain ⟨h0, -⟩ := hSw; go_simp; try with_reducible rfl)
          try simp only [Act.put, List.setIfInBounds_toArray, List.set_cons_zero, List.set_cons_succ]
          refine wpAnyH_take (i := 7) (v := ?v11) HO.out.2.2.2.2.2.2.2.1 (by kernel_rfl) (by kernel_rfl) (by kernel_rfl) (fun _ _ _ h => h) (Or.inl ⟨by rfl, ?hy11⟩) (by assumption) ?rest11
          case hy11 => (intro w1 hSw; (try dsimp only at hSw); obtain ⟨h0, -⟩ := hSw; go_simp; try with_reducible rfl)
          try simp only [Act.put, List.setIfInBounds_toArray, List.set_cons_zero, List.set_cons_succ]
          refine wpAnyH_take (i := 8) (v := ?v12) HO.out.2.2.2.2.2.2.2.2.1 (by kernel_rfl) (by kernel_rfl) (by kernel_rfl) (fun _ _ _ h => h) (Or.inl ⟨by rfl, ?hy12⟩) (by assumption) ?rest12
          case hy12 => (intro w1 hSw; (try dsimp only at hSw); obtain ⟨h0, -⟩ := hSw; go_simp; try with_reducible rfl)
          try simp only [Act.put, List.setIfInBounds_toArray, List.set_cons_zero, List.set_cons_succ]
          refine wpAnyH_ready (rs := [10]) (by kernel_rfl) (by simp) ?_
          refine AllReadyH.cons HO.out.2.2.2.2.2.2.2.2.2.2.1 (fun K hK => ?_) AllReadyH.nil
          go_simp
          have NE149 := Lib.hid (Nat.ne_of_lt R3.lt)
          have LE150 := Lib.hid LOW.size
          obtain ⟨w146, hw147, hb148, R5⟩ := alloc_new w144 rq0 RT
          replace PC := PC.later hb148
          replace R3 := R3.later hb148
          replace C4 := C4.later hb148
          replace LOW := LOW.trans (hb148.mono LOW.size)
          clear hb148
          rw [hw147]
          clear hw147
          try clear hHeld
          refine hK.out _ _ (⟨PC, trivial⟩) (fun hHeld => ?_)
          clear hK K
          try simp only [Act.put, List.setIfInBounds_toArray, List.set_cons_zero, List.set_cons_succ]
          refine wpAnyH_ready (rs := [11]) (by kernel_rfl) (by simp) ?_
          refine AllReadyH.cons HO.out.2.2.2.2.2.2.2.2.2.2.2.1 (fun K hK => ?_) AllReadyH.nil
          rw [if_pos (by rfl)]
          refine wp_store_cl _ _ Cl.zero _ w87.heap.size rfl (by rfl) (by rfl) C4 ?_
          intro w151 p152 j153
          have mv154 := j153.blk NE142.out PC
          have mv155 := j153.blk (Blk.ne R3 C4 (by decide)) R3
          have mv156 := j153.blk (Blk.ne R5 C4 (by decide)) R5
          have mv157 := LOW.trans (j153.below LE143.out)
          replace PC := mv154
          replace R3 := mv155
          replace R5 := mv156
          replace LOW := mv157
          replace C4 := p152
          try clear hHeld
          refine hK.out _ _ (⟨PC, trivial⟩) (fun hHeld => ?_)
          clear hK K
          simp only [Act.put]
          refine wpAnyH_ready (rs := [12]) (by kernel_rfl) (by simp) ?_
          refine AllReadyH.cons HO.out.2.2.2.2.2.2.2.2.2.2.2.2.1 (fun K hK => ?_) AllReadyH.nil
          rw [if_pos (by rfl)]
          refine wp_store_rq _ _ w144.heap.size rfl (by rfl) (by rfl) R5 rfl (by rfl) (by first | (simp [Value.oneCell']; done) | simp [rq, Value.oneCell']) ?_
          intro w158 p159 j160
          have mv161 := j160.blk (Blk.ne PC R5 (by decide)) PC
          have mv162 := j160.blk NE149.out R3
          have mv163 := j160.blk (Blk.ne C4 R5 (by decide)) C4
          have mv164 := LOW.trans (j160.below LE150.out)
          replace PC := mv161
          replace R3 := mv162
          replace C4 := mv163
          replace LOW := mv164
          replace R5 := p159
          try clear hHeld
          refine hK.out _ _ (⟨PC, trivial⟩) (fun hHeld => ?_)
          clear hK K
          simp only [Act.put]
          refine wpAnyH_take (i := 13) (v := ?v13) HO.out.2.2.2.2.2.2.2.2.2.2.2.2.2 (by kernel_rfl) (by kernel_rfl) (by kernel_rfl) (fun _ _ _ h => h) (Or.inl ⟨by rfl, ?hy13⟩) (by assumption) ?rest13
          case hy13 => (intro w1 hSw; (try dsimp only at hSw); obtain ⟨h0, -⟩ := hSw; go_simp; try with_reducible rfl)
          try simp only [Act.put, List.setIfInBounds_toArray, List.set_cons_zero, List.set_cons_succ]
          refine wpAnyH_done (by kernel_rfl) ?_ _
          have y2 := R3.cell 2
          have z0 := R5.cell 0
          have z2 := R5.cell 2
          simp only [List.getElem?_toArray, List.getElem?_cons_zero, List.getElem?_cons_succ] at y2 z0 z2
          clear R3 R5 C4 PC
          go_wp2_with fail
          go_ret
          exact ⟨rfl, LOW⟩
        refine AllReadyH.cons HO.out.2.2.2.2.2.2.2.2.2.2.1 (fun K hK => ?_) AllReadyH.nil
        go_simp
        have NE168 := Lib.hid (Nat.ne_of_lt R3.lt)
        have LE169 := Lib.hid LOW.size
        obtain ⟨w165, hw166, hb167, R5⟩ := alloc_new w139 rq0 RT
        replace PC := PC.later hb167
        replace R3 := R3.later hb167
        replace C4 := C4.later hb167
        replace TO := TO.later hb167
        replace LOW := LOW.trans (hb167.mono LOW.size)
        clear hb167
        rw [hw166]
        clear hw166
        try clear hHeld
        refine hK.out _ _ (⟨PC, trivial⟩) (fun hHeld => ?_)
        clear hK K
        try simp only [Act.put, List.setIfInBounds_toArray, List.set_cons_zero, List.set_cons_succ]
        refine wpAnyH_ready (rs := [4]) (by kernel_rfl) (by simp) ?_
        refine AllReadyH.cons HO.out.2.2.2.2.1 (fun K hK => ?_) AllReadyH.nil
        go_simp
        refine (ask_zero (x := X2) (d := d) (k := m) HX2.out.d HK.out.2.2.1 HK.out.2.2.2.1 HX2.out.m a_real a_fit (by decide) TO).mono ?_
        rintro e w170 ⟨tb, td, a1, n1, c1, a2, n2, c2, a3, n3, c3, rfl, -, hb171⟩
        replace PC := PC.later hb171
        replace R3 := R3.later hb171
        replace C4 := C4.later hb171
        replace R5 := R5.later hb171
        replace TO := TO.later hb171
        replace LOW := LOW.trans (hb171.mono LOW.size)
        clear hb171
        clear TO
        try clear hHeld
        refine hK.out _ _ (⟨PC, trivial⟩) (fun hHeld => ?_)
        clear hK K
        try simp only [Act.put, List.setIfInBounds_toArray, List.set_cons_zero, List.set_cons_succ]
        refine wpAnyH_take (i := 5) (v := ?v14) HO.out.2.2.2.2.2.1 (by kernel_rfl) (by kernel_rfl) (by kernel_rfl) (fun _ _ _ h => h) (Or.inl ⟨by rfl, ?hy14⟩) (by assumption) ?rest14
        case hy14 => (intro w1 hSw; (try dsimp only at hSw); obtain ⟨h0, -⟩ := hSw; go_simp; try with_reducible rfl)
        try simp only [Act.put, List.setIfInBounds_toArray, List.set_cons_zero, List.set_cons_succ]
        refine wpAnyH_take (i := 6) (v := ?v15) HO.out.2.2.2.2.2.2.1 (by kernel_rfl) (by kernel_rfl) (by kernel_rfl) (fun _ _ _ h => h) (Or.inl ⟨by rfl, ?hy15⟩) (by assumption) ?rest15
        case hy15 => (intro w1 hSw; (try dsimp only at hSw); obtain ⟨h0, -⟩ := hSw; go_simp; try with_reducible rfl)
        try simp only [Act.put, List.setIfInBounds_toArray, List.set_cons_zero, List.set_cons_succ]
        refine wpAnyH_take (i := 7) (v := ?v16) HO.out.2.2.2.2.2.2.2.1 (by kernel_rfl) (by kernel_rfl) (by kernel_rfl) (fun _ _ _ h => h) (Or.inl ⟨by rfl, ?hy16⟩) (by assumption) ?rest16
        case hy16 => (intro w1 hSw; (try dsimp only at hSw); obtain ⟨h0, -⟩ := hSw; go_simp; try with_reducible rfl)
        try simp only [Act.put, List.setIfInBounds_toArray, List.set_cons_zero, List.set_cons_succ]
        refine wpAnyH_take (i := 8) (v := ?v17) HO.out.2.2.2.2.2.2.2.2.1 (by kernel_rfl) (by kernel_rfl) (by kernel_rfl) (fun _ _ _ h => h) (Or.inl ⟨by rfl, ?hy17⟩) (by assumption) ?rest17
        case hy17 => (intro w1 hSw; (try dsimp only at hSw); obtain ⟨h0, -⟩ := hSw; go_simp; try with_reducible rfl)
        try simp only [Act.put, List.setIfInBounds_toArray, List.set_cons_zero, List.set_cons_succ]
        refine wpAnyH_ready (rs := [11]) (by kernel_rfl) (by simp) ?_
        refine AllReadyH.cons HO.out.2.2.2.2.2.2.2.2.2.2.2.1 (fun K hK => ?_) AllReadyH.nil
        rw [if_pos (by rfl)]
        refine wp_store_cl _ _ Cl.zero _ w87.heap.size rfl (by rfl) (by rfl) C4 ?_
        intro w172 p173 j174
        have mv175 := j174.blk NE142.out PC
        have mv176 := j174.blk (Blk.ne R3 C4 (by decide)) R3
        have mv177 := j174.blk (Blk.ne R5 C4 (by decide)) R5
        have mv178 := LOW.trans (j174.below LE143.out)
        replace PC := mv175
        replace R3 := mv176
        replace R5 := mv177
        replace LOW := mv178
        replace C4 := p173
        try clear hHeld
        refine hK.out _ _ (⟨PC, trivial⟩) (fun hHeld => ?_)
        clear hK K
        simp only [Act.put]
        refine wpAnyH_ready (rs := [12]) (by kernel_rfl) (by simp) ?_
        refine AllReadyH.cons HO.out.2.2.2.2.2.2.2.2.2.2.2.2.1 (fun K hK => ?_) AllReadyH.nil
        rw [if_pos (by rfl)]
        refine wp_store_rq _ _ w139.heap.size rfl (by rfl) (by rfl) R5 rfl (by rfl) (by first | (simp [Value.oneCell']; done) | simp [rq, Value.oneCell']) ?_
        intro w179 p180 j181
        have mv182 := j181.blk (Blk.ne PC R5 (by decide)) PC
        have mv183 := j181.blk NE168.out R3
        have mv184 := j181.blk (Blk.ne C4 R5 (by decide)) C4
        have mv185 := LOW.trans (j181.below LE169.out)
        replace PC := mv182
        replace R3 := mv183
        replace C4 := mv184
        replace LOW := mv185
        replace R5 := p180
        try clear hHeld
        refine hK.out _ _ (⟨PC, trivial⟩) (fun hHeld => ?_)
        clear hK K
        simp only [Act.put]
        refine wpAnyH_take (i := 13) (v := ?v18) HO.out.2.2.2.2.2.2.2.2.2.2.2.2.2 (by kernel_rfl) (by kernel_rfl) (by kernel_rfl) (fun _ _ _ h => h) (Or.inl ⟨by rfl, ?hy18⟩) (by assumption) ?rest18
        case hy18 => (intro w1 hSw; (try dsimp only at hSw); obtain ⟨h0, -⟩ := hSw; go_simp; try with_reducible rfl)
        try simp only [Act.put, List.setIfInBounds_toArray, List.set_cons_zero, List.set_cons_succ]
        refine wpAnyH_done (by kernel_rfl) ?_ _
        have y2 := R3.cell 2
        have z0 := R5.cell 0
        have z2 := R5.cell 2
        simp only [List.getElem?_toArray, List.getElem?_cons_zero, List.getElem?_cons_succ] at y2 z0 z2
        clear R3 R5 C4 PC
        go_wp2_with fail
        go_ret
        exact ⟨rfl, LOW⟩
      refine AllReadyH.cons HO.out.2.2.2.2.2.2.2.2.2.2.1 (fun K hK => ?_) AllReadyH.nil
      go_simp
      have NE189 := Lib.hid (Nat.ne_of_lt R3.lt)
      have LE190 := Lib.hid LOW.size
      obtain ⟨w186, hw187, hb188, R5⟩ := alloc_new w87 rq0 RT
      replace PC := PC.later hb188
      replace R3 := R3.later hb188
      replace TO := TO.later hb188
      replace LOW := LOW.trans (hb188.mono LOW.size)
      clear hb188
      rw [hw187]
      clear hw187
      try clear hHeld
      refine hK.out _ _ (⟨PC, trivial⟩) (fun hHeld => ?_)
      clear hK K
      try simp only [Act.put, List.setIfInBounds_toArray, List.set_cons_zero, List.set_cons_succ]
      refine wpAnyH_ready (rs := [4, 9]) (by kernel_rfl) (by simp) ?_
      refine AllReadyH.cons HO.out.2.2.2.2.1 (fun K hK => ?_) ?_
      · go_simp
        refine (ask_zero (x := X2) (d := d) (k := m) HX2.out.d HK.out.2.2.1 HK.out.2.2.2.1 HX2.out.m a_real a_fit (by decide) TO).mono ?_
        rintro e w191 ⟨tb, td, a1, n1, c1, a2, n2, c2, a3, n3, c3, rfl, -, hb192⟩
        replace PC := PC.later hb192
        replace R3 := R3.later hb192
        replace R5 := R5.later hb192
        replace TO := TO.later hb192
        replace LOW := LOW.trans (hb192.mono LOW.size)
        clear hb192
        clear TO
        try clear hHeld
        refine hK.out _ _ (⟨PC, trivial⟩) (fun hHeld => ?_)
        clear hK K
        try simp only [Act.put, List.setIfInBounds_toArray, List.set_cons_zero, List.set_cons_succ]
        refine wpAnyH_take (i := 5) (v := ?v19) HO.out.2.2.2.2.2.1 (by kernel_rfl) (by kernel_rfl) (by kernel_rfl) (fun _ _ _ h => h) (Or.inl ⟨by rfl, ?hy19⟩) (by assumption) ?rest19
        case hy19 => (intro w1 hSw; (try dsimp only at hSw); obtain ⟨h0, -⟩ := hSw; go_simp; try with_reducible rfl)
        try simp only [Act.put, List.setIfInBounds_toArray, List.set_cons_zero, List.set_cons_succ]
        refine wpAnyH_take (i := 6) (v := ?v20) HO.out.2.2.2.2.2.2.1 (by kernel_rfl) (by kernel_rfl) (by kernel_rfl) (fun _ _ _ h => h) (Or.inl ⟨by rfl, ?hy20⟩) (by assumption) ?rest20
        case hy20 => (intro w1 hSw; (try dsimp only at hSw); obtain ⟨h0, -⟩ := hSw; go_simp; try with_reducible rfl)
        try simp only [Act.put, List.setIfInBounds_toArray, List.set_cons_zero, List.set_cons_succ]
        refine wpAnyH_take (i := 7) (v := ?v21) HO.out.2.2.2.2.2.2.2.1 (by kernel_rfl) (by kernel_rfl) (by kernel_rfl) (fun _ _ _ h => h) (Or.inl ⟨by rfl, ?hy21⟩) (by assumption) ?rest21
        case hy21 => (intro w1 hSw; (try dsimp only at hSw); obtain ⟨h0, -⟩ := hSw; go_simp; try with_reducible rfl)
        try simp only [Act.put, List.setIfInBounds_toArray, List.set_cons_zero, List.set_cons_succ]
        refine wpAnyH_take (i := 8) (v := ?v22) HO.out.2.2.2.2.2.2.2.2.1 (by kernel_rfl) (by kernel_rfl) (by kernel_rfl) (fun _ _ _ h => h) (Or.inl ⟨by rfl, ?hy22⟩) (by assumption) ?rest22
        case hy22 => (intro w1 hSw; (try dsimp only at hSw); obtain ⟨h0, -⟩ := hSw; go_simp; try with_reducible rfl)
        try simp only [Act.put, List.setIfInBounds_toArray, List.set_cons_zero, List.set_cons_succ]
        refine wpAnyH_ready (rs := [9]) (by kernel_rfl) (by simp) ?_
        refine AllReadyH.cons HO.out.2.2.2.2.2.2.2.2.2.1 (fun K hK => ?_) AllReadyH.nil
        go_simp
        have NE196 := Lib.hid (Nat.ne_of_lt PC.lt)
        have LE197 := Lib.hid LOW.size
        obtain ⟨w193, hw194, hb195, C4⟩ := alloc_new w191 Cl.zero.arr CT
        replace hw194 : w191.alloc (.cells #[.bool false, .bool false, .slice none 0 0, .bool false, .int .u64 0, .bool false, .slice none 0 0, .bool false, .int .u64 0, .bool false, .slice none 0 0, .bool false, .int .u64 0, .bool false, .slice none 0 0, .bool false, .int .u64 0, .bool false, .slice none 0 0, .bool false, .int .u64 0, .bool false, .slice none 0 0, .bool false, .int .u64 0] CT) = w193 := hw194
        replace PC := PC.later hb195
        replace R3 := R3.later hb195
        replace R5 := R5.later hb195
        replace LOW := LOW.trans (hb195.mono LOW.size)
        clear hb195
        rw [hw194]
        clear hw194
        try clear hHeld
        refine hK.out _ _ (⟨PC, trivial⟩) (fun hHeld => ?_)
        clear hK K
        try simp only [Act.put, List.setIfInBounds_toArray, List.set_cons_zero, List.set_cons_succ]
        refine wpAnyH_ready (rs := [11]) (by kernel_rfl) (by simp) ?_
        refine AllReadyH.cons HO.out.2.2.2.2.2.2.2.2.2.2.2.1 (fun K hK => ?_) AllReadyH.nil
        rw [if_pos (by rfl)]
        refine wp_store_cl _ _ Cl.zero _ w191.heap.size rfl (by rfl) (by rfl) C4 ?_
        intro w198 p199 j200
        have mv201 := j200.blk NE196.out PC
        have mv202 := j200.blk (Blk.ne R3 C4 (by decide)) R3
        have mv203 := j200.blk (Blk.ne R5 C4 (by decide)) R5
        have mv204 := LOW.trans (j200.below LE197.out)
        replace PC := mv201
        replace R3 := mv202
        replace R5 := mv203
        replace LOW := mv204
        replace C4 := p199
        try clear hHeld
        refine hK.out _ _ (⟨PC, trivial⟩) (fun hHeld => ?_)
        clear hK K
        simp only [Act.put]
        refine wpAnyH_ready (rs := [12]) (by kernel_rfl) (by simp) ?_
        refine AllReadyH.cons HO.out.2.2.2.2.2.2.2.2.2.2.2.2.1 (fun K hK => ?_) AllReadyH.nil
        rw [if_pos (by rfl)]
        refine wp_store_rq _ _ w87.heap.size rfl (by rfl) (by rfl) R5 rfl (by rfl) (by first | (simp [Value.oneCell']; done) | simp [rq, Value.oneCell']) ?_
        intro w205 p206 j207
        have mv208 := j207.blk (Blk.ne PC R5 (by decide)) PC
        have mv209 := j207.blk NE189.out R3
        have mv210 := j207.blk (Blk.ne C4 R5 (by decide)) C4
        have mv211 := LOW.trans (j207.below LE190.out)
        replace PC := mv208
        replace R3 := mv209
        replace C4 := mv210
        replace LOW := mv211
        replace R5 := p206
        try clear hHeld
        refine hK.out _ _ (⟨PC, trivial⟩) (fun hHeld => ?_)
        clear hK K
        simp only [Act.put]
        refine wpAnyH_take (i := 13) (v := ?v23) HO.out.2.2.2.2.2.2.2.2.2.2.2.2.2 (by kernel_rfl) (by kernel_rfl) (by kernel_rfl) (fun _ _ _ h => h) (Or.inl ⟨by rfl, ?hy23⟩) (by assumption) ?rest23
        case hy23 => (intro w1 hSw; (try dsimp only at hSw); obtain ⟨h0, -⟩ := hSw; go_simp; try with_reducible rfl)
        try simp only [Act.put, List.setIfInBounds_toArray, List.set_cons_zero, List.set_cons_succ]
        refine wpAnyH_done (by kernel_rfl) ?_ _
        have y2 := R3.cell 2
        have z0 := R5.cell 0
        have z2 := R5.cell 2
        simp only [List.getElem?_toArray, List.getElem?_cons_zero, List.getElem?_cons_succ] at y2 z0 z2
        clear R3 R5 C4 PC
        go_wp2_with fail
        go_ret
        exact ⟨rfl, LOW⟩
      refine AllReadyH.cons HO.out.2.2.2.2.2.2.2.2.2.1 (fun K hK => ?_) AllReadyH.nil
      go_simp
      have NE215 := Lib.hid (Nat.ne_of_lt PC.lt)
      have LE216 := Lib.hid LOW.size
      obtain ⟨w212, hw213, hb214, C4⟩ := alloc_new w186 Cl.zero.arr CT
      replace hw213 : w186.alloc (.cells #[.bool false, .bool false, .slice none 0 0, .bool false, .int .u64 0, .bool false, .slice none 0 0, .bool false, .int .u64 0, .bool false, .slice none 0 0, .bool false, .int .u64 0, .bool false, .slice none 0 0, .bool false, .int .u64 0, .bool false, .slice none 0 0, .bool false, .int .u64 0, .bool false, .slice none 0 0, .bool false, .int .u64 0] CT) = w212 := hw213
      replace PC := PC.later hb214
      replace R3 := R3.later hb214
      replace R5 := R5.later hb214
      replace TO := TO.later hb214
      replace LOW := LOW.trans (hb214.mono LOW.size)
      clear hb214
      rw [hw213]
      clear hw213
      try clear hHeld
      refine hK.out _ _ (⟨PC, trivial⟩) (fun hHeld => ?_)
      clear hK K
      try simp only [Act.put, List.setIfInBounds_toArray, List.set_cons_zero, List.set_cons_succ]
      refine wpAnyH_ready (rs := [4]) (by kernel_rfl) (by simp) ?_
      refine AllReadyH.cons HO.out.2.2.2.2.1 (fun K hK => ?_) AllReadyH.nil
      go_simp
      refine (ask_zero (x := X2) (d := d) (k := m) HX2.out.d HK.out.2.2.1 HK.out.2.2.2.1 HX2.out.m a_real a_fit (by decide) TO).mono ?_
      rintro e w217 ⟨tb, td, a1, n1, c1, a2, n2, c2, a3, n3, c3, rfl, -, hb218⟩
      replace PC := PC.later hb218
      replace R3 := R3.later hb218
      replace R5 := R5.later hb218
      replace C4 := C4.later hb218
      replace TO := TO.later hb218
      replace LOW := LOW.trans (hb218.mono LOW.size)
      clear hb218
      clear TO
      try clear hHeld
      refine hK.out _ _ (⟨PC, trivial⟩) (fun hHeld => ?_)
      clear hK K
      try simp only [Act.put, List.setIfInBounds_toArray, List.set_cons_zero, List.set_cons_succ]
      refine wpAnyH_take (i := 5) (v := ?v24) HO.out.2.2.2.2.2.1 (by kernel_rfl) (by kernel_rfl) (by kernel_rfl) (fun _ _ _ h => h) (Or.inl ⟨by rfl, ?hy24⟩) (by assumption) ?rest24
      case hy24 => (intro w1 hSw; (try dsimp only at hSw); obtain ⟨h0, -⟩ := hSw; go_simp; try with_reducible rfl)
      try simp only [Act.put, List.setIfInBounds_toArray, List.set_cons_zero, List.set_cons_succ]
      refine wpAnyH_take (i := 6) (v := ?v25) HO.out.2.2.2.2.2.2.1 (by kernel_rfl) (by kernel_rfl) (by kernel_rfl) (fun _ _ _ h => h) (Or.inl ⟨by rfl, ?hy25⟩) (by assumption) ?rest25
      case hy25 => (intro w1 hSw; (try dsimp only at hSw); obtain ⟨h0, -⟩ := hSw; go_simp; try with_reducible rfl)
      try simp only [Act.put, List.setIfInBounds_toArray, List.set_cons_zero, List.set_cons_succ]
      refine wpAnyH_take (i := 7) (v := ?v26) HO.out.2.2.2.2.2.2.2.1 (by kernel_rfl) (by kernel_rfl) (by kernel_rfl) (fun _ _ _ h => h) (Or.inl ⟨by rfl, ?hy26⟩) (by assumption) ?rest26
      case hy26 => (intro w1 hSw; (try dsimp only at hSw); obtain ⟨h0, -⟩ := hSw; go_simp; try with_reducible rfl)
      try simp only [Act.put, List.setIfInBounds_toArray, List.set_cons_zero, List.set_cons_succ]
      refine wpAnyH_take (i := 8) (v := ?v27) HO.out.2.2.2.2.2.2.2.2.1 (by kernel_rfl) (by kernel_rfl) (by kernel_rfl) (fun _ _ _ h => h) (Or.inl ⟨by rfl, ?hy27⟩) (by assumption) ?rest27
      case hy27 => (intro w1 hSw; (try dsimp only at hSw); obtain ⟨h0, -⟩ := hSw; go_simp; try with_reducible rfl)
      try simp only [Act.put, List.setIfInBounds_toArray, List.set_cons_zero, List.set_cons_succ]
      refine wpAnyH_ready (rs := [11]) (by kernel_rfl) (by simp) ?_
      refine AllReadyH.cons HO.out.2.2.2.2.2.2.2.2.2.2.2.1 (fun K hK => ?_) AllReadyH.nil
      rw [if_pos (by rfl)]
      refine wp_store_cl _ _ Cl.zero _ w186.heap.size rfl (by rfl) (by rfl) C4 ?_
      intro w219 p220 j221
      have mv222 := j221.blk NE215.out PC
      have mv223 := j221.blk (Blk.ne R3 C4 (by decide)) R3
      have mv224 := j221.blk (Blk.ne R5 C4 (by decide)) R5
      have mv225 := LOW.trans (j221.below LE216.out)
      replace PC := mv222
      replace R3 := mv223
      replace R5 := mv224
      replace LOW := mv225
      replace C4 := p220
      try clear hHeld
      refine hK.out _ _ (⟨PC, trivial⟩) (fun hHeld => ?_)
      clear hK K
      simp only [Act.put]
      refine wpAnyH_ready (rs := [12]) (by kernel_rfl) (by simp) ?_
      refine AllReadyH.cons HO.out.2.2.2.2.2.2.2.2.2.2.2.2.1 (fun K hK => ?_) AllReadyH.nil
      rw [if_pos (by rfl)]
      refine wp_store_rq _ _ w87.heap.size rfl (by rfl) (by rfl) R5 rfl (by rfl) (by first | (simp [Value.oneCell']; done) | simp [rq, Value.oneCell']) ?_
      intro w226 p227 j228
      have mv229 := j228.blk (Blk.ne PC R5 (by decide)) PC
      have mv230 := j228.blk NE189.out R3
      have mv231 := j228.blk (Blk.ne C4 R5 (by decide)) C4
      have mv232 := LOW.trans (j228.below LE190.out)
      replace PC := mv229
      replace R3 := mv230
      replace C4 := mv231
      replace LOW := mv232
      replace R5 := p227
      try clear hHeld
      refine hK.out _ _ (⟨PC, trivial⟩) (fun hHeld => ?_)
      clear hK K
      simp only [Act.put]
      refine wpAnyH_take (i := 13) (v := ?v28) HO.out.2.2.2.2.2.2.2.2.2.2.2.2.2 (by kernel_rfl) (by kernel_rfl) (by kernel_rfl) (fun _ _ _ h => h) (Or.inl ⟨by rfl, ?hy28⟩) (by assumption) ?rest28
      case hy28 => (intro w1 hSw; (try dsimp only at hSw); obtain ⟨h0, -⟩ := hSw; go_simp; try with_reducible rfl)
      try simp only [Act.put, List.setIfInBounds_toArray, List.set_cons_zero, List.set_cons_succ]
      refine wpAnyH_done (by kernel_rfl) ?_ _
      have y2 := R3.cell 2
      have z0 := R5.cell 0
      have z2 := R5.cell 2
      simp only [List.getElem?_toArray, List.getElem?_cons_zero, List.getElem?_cons_succ] at y2 z0 z2
      clear R3 R5 C4 PC
      go_wp2_with fail
      go_ret
      exact ⟨rfl, LOW⟩
    refine AllReadyH.cons HO.out.2.2.2.2.2.2.2.2.2.1 (fun K hK => ?_) ?_
    · go_simp
      have NE236 := Lib.hid (Nat.ne_of_lt PC.lt)
      have LE237 := Lib.hid LOW.size
      obtain ⟨w233, hw234, hb235, C4⟩ := alloc_new w83 Cl.zero.arr CT
      replace hw234 : w83.alloc (.cells #[.bool false, .bool false, .slice none 0 0, .bool false, .int .u64 0, .bool false, .slice none 0 0, .bool false, .int .u64 0, .bool false, .slice none 0 0, .bool false, .int .u64 0, .bool false, .slice none 0 0, .bool false, .int .u64 0, .bool false, .slice none 0 0, .bool false, .int .u64 0, .bool false, .slice none 0 0, .bool false, .int .u64 0] CT) = w233 := hw234
      replace PC := PC.later hb235
      replace R3 := R3.later hb235
      replace TA := TA.later hb235
      replace LOW := LOW.trans (hb235.mono LOW.size)
      clear hb235
      rw [hw234]
      clear hw234
      try clear hHeld
      refine hK.out _ _ (⟨PC, trivial⟩) (fun hHeld => ?_)
      clear hK K
      try simp only [Act.put, List.setIfInBounds_toArray, List.set_cons_zero, List.set_cons_succ]
      refine wpAnyH_ready (rs := [3, 10]) (by kernel_rfl) (by simp) ?_
      refine AllReadyH.cons HO.out.2.2.2.1 (fun K hK => ?_) ?_
      · go_simp
        refine (of_any (l := [[97]]) TA a_fit a_of).mono ?_
        rintro e w238 ⟨ta0, tc0, rfl, TO, hb239⟩
        replace PC := PC.later hb239
        replace R3 := R3.later hb239
        replace C4 := C4.later hb239
        replace TA := TA.later hb239
        replace LOW := LOW.trans (hb239.mono LOW.size)
        clear hb239
        clear TA
        try clear hHeld
        refine hK.out _ _ (⟨PC, trivial⟩) (fun hHeld => ?_)
        clear hK K
        try simp only [Act.put, List.setIfInBounds_toArray, List.set_cons_zero, List.set_cons_succ]
        refine wpAnyH_ready (rs := [4, 10]) (by kernel_rfl) (by simp) ?_
        refine AllReadyH.cons HO.out.2.2.2.2.1 (fun K hK => ?_) ?_
        · go_simp
          refine (ask_zero (x := X2) (d := d) (k := m) HX2.out.d HK.out.2.2.1 HK.out.2.2.2.1 HX2.out.m a_real a_fit (by decide) TO).mono ?_
          rintro e w240 ⟨tb, td, a1, n1, c1, a2, n2, c2, a3, n3, c3, rfl, -, hb241⟩
          replace PC := PC.later hb241
          replace R3 := R3.later hb241
          replace C4 := C4.later hb241
          replace TO := TO.later hb241
          replace LOW := LOW.trans (hb241.mono LOW.size)
          clear hb241
          clear TO
          try clear hHeld
          refine hK.out _ _ (⟨PC, trivial⟩) (fun hHeld => ?_)
          clear hK K
          try simp only [Act.put, List.setIfInBounds_toArray, List.set_cons_zero, List.set_cons_succ]
          refine wpAnyH_take (i := 5) (v := ?v29) HO.out.2.2.2.2.2.1 (by kernel_rfl) (by kernel_rfl) (by kernel_rfl) (fun _ _ _ h => h) (Or.inl ⟨by rfl, ?hy29⟩) (by assumption) ?rest29
          case hy29 => (intro w1 hSw; (try dsimp only at hSw); obtain ⟨h0, -⟩ := hSw; go_simp; try with_reducible rfl)
          try simp only [Act.put, List.setIfInBounds_toArray, List.set_cons_zero, List.set_cons_succ]
          refine wpAnyH_take (i := 6) (v := ?v30) HO.out.2.2.2.2.2.2.1 (by kernel_rfl) (by kernel_rfl) (by kernel_rfl) (fun _ _ _ h => h) (Or.inl ⟨by rfl, ?hy30⟩) (by assumption) ?rest30
          case hy30 => (intro w1 hSw; (try dsimp only at hSw); obtain ⟨h0, -⟩ := hSw; go_simp; try with_reducible rfl)
          try simp only [Act.put, List.setIfInBounds_toArray, List.set_cons_zero, List.set_cons_succ]
          refine wpAnyH_take (i := 7) (v := ?v31) HO.out.2.2.2.2.2.2.2.1 (by kernel_rfl) (by kernel_rfl) (by kernel_rfl) (fun _ _ _ h => h) (Or.inl ⟨by rfl, ?hy31⟩) (by assumption) ?rest31
          case hy31 => (intro w1 hSw; (try dsimp only at hSw); obtain ⟨h0, -⟩ := hSw; go_simp; try with_reducible rfl)
          try simp only [Act.put, List.setIfInBounds_toArray, List.set_cons_zero, List.set_cons_succ]
          refine wpAnyH_take (i := 8) (v := ?v32) HO.out.2.2.2.2.2.2.2.2.1 (by kernel_rfl) (by kernel_rfl) (by kernel_rfl) (fun _ _ _ h => h) (Or.inl ⟨by rfl, ?hy32⟩) (by assumption) ?rest32
          case hy32 => (intro w1 hSw; (try dsimp only at hSw); obtain ⟨h0, -⟩ := hSw; go_simp; try with_reducible rfl)
          try simp only [Act.put, List.setIfInBounds_toArray, List.set_cons_zero, List.set_cons_succ]
          refine wpAnyH_ready (rs := [10]) (by kernel_rfl) (by simp) ?_
          refine AllReadyH.cons HO.out.2.2.2.2.2.2.2.2.2.2.1 (fun K hK => ?_) AllReadyH.nil
          go_simp
          have NE245 := Lib.hid (Nat.ne_of_lt R3.lt)
          have LE246 := Lib.hid LOW.size
          obtain ⟨w242, hw243, hb244, R5⟩ := alloc_new w240 rq0 RT
          replace PC := PC.later hb244
          replace R3 := R3.later hb244
          replace C4 := C4.later hb244
          replace LOW := LOW.trans (hb244.mono LOW.size)
          clear hb244
          rw [hw243]
          clear hw243
          try clear hHeld
          refine hK.out _ _ (⟨PC, trivial⟩) (fun hHeld => ?_)
          clear hK K
          try simp only [Act.put, List.setIfInBounds_toArray, List.set_cons_zero, List.set_cons_succ]
          refine wpAnyH_ready (rs := [11]) (by kernel_rfl) (by simp) ?_
          refine AllReadyH.cons HO.out.2.2.2.2.2.2.2.2.2.2.2.1 (fun K hK => ?_) AllReadyH.nil
          rw [if_pos (by rfl)]
          refine wp_store_cl _ _ Cl.zero _ w83.heap.size rfl (by rfl) (by rfl) C4 ?_
          intro w247 p248 j249
          have mv250 := j249.blk NE236.out PC
          have mv251 := j249.blk (Blk.ne R3 C4 (by decide)) R3
          have mv252 := j249.blk (Blk.ne R5 C4 (by decide)) R5
          have mv253 := LOW.trans (j249.below LE237.out)
          replace PC := mv250
          replace R3 := mv251
          replace R5 := mv252
          replace LOW := mv253
          replace C4 := p248
          try clear hHeld
          refine hK.out _ _ (⟨PC, trivial⟩) (fun hHeld => ?_)
          clear hK K
          simp only [Act.put]
          refine wpAnyH_ready (rs := [12]) (by kernel_rfl) (by simp) ?_
          refine AllReadyH.cons HO.out.2.2.2.2.2.2.2.2.2.2.2.2.1 (fun K hK => ?_) AllReadyH.nil
          rw [if_pos (by rfl)]
          refine wp_store_rq _ _ w240.heap.size rfl (by rfl) (by rfl) R5 rfl (by rfl) (by first | (simp [Value.oneCell']; done) | simp [rq, Value.oneCell']) ?_
          intro w254 p255 j256
          have mv257 := j256.blk (Blk.ne PC R5 (by decide)) PC
          have mv258 := j256.blk NE245.out R3
          have mv259 := j256.blk (Blk.ne C4 R5 (by decide)) C4
          have mv260 := LOW.trans (j256.below LE246.out)
          replace PC := mv257
          replace R3 := mv258
          replace C4 := mv259
          replace LOW := mv260
          replace R5 := p255
          try clear hHeld
          refine hK.out _ _ (⟨PC, trivial⟩) (fun hHeld => ?_)
          clear hK K
          simp only [Act.put]
          refine wpAnyH_take (i := 13) (v := ?v33) HO.out.2.2.2.2.2.2.2.2.2.2.2.2.2 (by kernel_rfl) (by kernel_rfl) (by kernel_rfl) (fun _ _ _ h => h) (Or.inl ⟨by rfl, ?hy33⟩) (by assumption) ?rest33
          case hy33 => (intro w1 hSw; (try dsimp only at hSw); obtain ⟨h0, -⟩ := hSw; go_simp; try with_reducible rfl)
          try simp only [Act.put, List.setIfInBounds_toArray, List.set_cons_zero, List.set_cons_succ]
          refine wpAnyH_done (by kernel_rfl) ?_ _
          have y2 := R3.cell 2
          have z0 := R5.cell 0
          have z2 := R5.cell 2
          simp only [List.getElem?_toArray, List.getElem?_cons_zero, List.getElem?_cons_succ] at y2 z0 z2
          clear R3 R5 C4 PC
          go_wp2_with fail
          go_ret
          exact ⟨rfl, LOW⟩
        refine AllReadyH.cons HO.out.2.2.2.2.2.2.2.2.2.2.1 (fun K hK => ?_) AllReadyH.nil
        go_simp
        have NE264 := Lib.hid (Nat.ne_of_lt R3.lt)
        have LE265 := Lib.hid LOW.size
        obtain ⟨w261, hw262, hb263, R5⟩ := alloc_new w238 rq0 RT
        replace PC := PC.later hb263
        replace R3 := R3.later hb263
        replace C4 := C4.later hb263
        replace TO := TO.later hb263
        replace LOW := LOW.trans (hb263.mono LOW.size)
        clear hb263
        rw [hw262]
        clear hw262
        try clear hHeld
        refine hK.out _ _ (⟨PC, trivial⟩) (fun hHeld => ?_)
        clear hK K
        try simp only [Act.put, List.setIfInBounds_toArray, List.set_cons_zero, List.set_cons_succ]
        refine wpAnyH_ready (rs := [4]) (by kernel_rfl) (by simp) ?_
        refine AllReadyH.cons HO.out.2.2.2.2.1 (fun K hK => ?_) AllReadyH.nil
        go_simp
        refine (ask_zero (x := X2) (d := d) (k := m) HX2.out.d HK.out.2.2.1 HK.out.2.2.2.1 HX2.out.m a_real a_fit (by decide) TO).mono ?_
        rintro e w266 ⟨tb, td, a1, n1, c1, a2, n2, c2, a3, n3, c3, rfl, -, hb267⟩
        replace PC := PC.later hb267
        replace R3 := R3.later hb267
        replace C4 := C4.later hb267
        replace R5 := R5.later hb267
        replace TO := TO.later hb267
        replace LOW := LOW.trans (hb267.mono LOW.size)
        clear hb267
        clear TO
        try clear hHeld
        refine hK.out _ _ (⟨PC, trivial⟩) (fun hHeld => ?_)
        clear hK K
        try simp only [Act.put, List.setIfInBounds_toArray, List.set_cons_zero, List.set_cons_succ]
        refine wpAnyH_take (i := 5) (v := ?v34) HO.out.2.2.2.2.2.1 (by kernel_rfl) (by kernel_rfl) (by kernel_rfl) (fun _ _ _ h => h) (Or.inl ⟨by rfl, ?hy34⟩) (by assumption) ?rest34
        case hy34 => (intro w1 hSw; (try dsimp only at hSw); obtain ⟨h0, -⟩ := hSw; go_simp; try with_reducible rfl)
        try simp only [Act.put, List.setIfInBounds_toArray, List.set_cons_zero, List.set_cons_succ]
        refine wpAnyH_take (i := 6) (v := ?v35) HO.out.2.2.2.2.2.2.1 (by kernel_rfl) (by kernel_rfl) (by kernel_rfl) (fun _ _ _ h => h) (Or.inl ⟨by rfl, ?hy35⟩) (by assumption) ?rest35
        case hy35 => (intro w1 hSw; (try dsimp only at hSw); obtain ⟨h0, -⟩ := hSw; go_simp; try with_reducible rfl)
        try simp only [Act.put, List.setIfInBounds_toArray, List.set_cons_zero, List.set_cons_succ]
        refine wpAnyH_take (i := 7) (v := ?v36) HO.out.2.2.2.2.2.2.2.1 (by kernel_rfl) (by kernel_rfl) (by kernel_rfl) (fun _ _ _ h => h) (Or.inl ⟨by rfl, ?hy36⟩) (by assumption) ?rest36
        case hy36 => (intro w1 hSw; (try dsimp only at hSw); obtain ⟨h0, -⟩ := hSw; go_simp; try with_reducible rfl)
        try simp only [Act.put, List.setIfInBounds_toArray, List.set_cons_zero, List.set_cons_succ]
        refine wpAnyH_take (i := 8) (v := ?v37) HO.out.2.2.2.2.2.2.2.2.1 (by kernel_rfl) (by kernel_rfl) (by kernel_rfl) (fun _ _ _ h => h) (Or.inl ⟨by rfl, ?hy37⟩) (by assumption) ?rest37
        case hy37 => (intro w1 hSw; (try dsimp only at hSw); obtain ⟨h0, -⟩ := hSw; go_simp; try with_reducible rfl)
        try simp only [Act.put, List.setIfInBounds_toArray, List.set_cons_zero, List.set_cons_succ]
        refine wpAnyH_ready (rs := [11]) (by kernel_rfl) (by simp) ?_
        refine AllReadyH.cons HO.out.2.2.2.2.2.2.2.2.2.2.2.1 (fun K hK => ?_) AllReadyH.nil
        rw [if_pos (by rfl)]
        refine wp_store_cl _ _ Cl.zero _ w83.heap.size rfl (by rfl) (by rfl) C4 ?_
        intro w268 p269 j270
        have mv271 := j270.blk NE236.out PC
        have mv272 := j270.blk (Blk.ne R3 C4 (by decide)) R3
        have mv273 := j270.blk (Blk.ne R5 C4 (by decide)) R5
        have mv274 := LOW.trans (j270.below LE237.out)
        replace PC := mv271
        replace R3 := mv272
        replace R5 := mv273
        replace LOW := mv274
        replace C4 := p269
        try clear hHeld
        refine hK.out _ _ (⟨PC, trivial⟩) (fun hHeld => ?_)
        clear hK K
        simp only [Act.put]
        refine wpAnyH_ready (rs := [12]) (by kernel_rfl) (by simp) ?_
        refine AllReadyH.cons HO.out.2.2.2.2.2.2.2.2.2.2.2.2.1 (fun K hK => ?_) AllReadyH.nil
        rw [if_pos (by rfl)]
        refine wp_store_rq _ _ w238.heap.size rfl (by rfl) (by rfl) R5 rfl (by rfl) (by first | (simp [Value.oneCell']; done) | simp [rq, Value.oneCell']) ?_
        intro w275 p276 j277
        have mv278 := j277.blk (Blk.ne PC R5 (by decide)) PC
        have mv279 := j277.blk NE264.out R3
        have mv280 := j277.blk (Blk.ne C4 R5 (by decide)) C4
        have mv281 := LOW.trans (j277.below LE265.out)
        replace PC := mv278
        replace R3 := mv279
        replace C4 := mv280
        replace LOW := mv281
        replace R5 := p276
        try clear hHeld
        refine hK.out _ _ (⟨PC, trivial⟩) (fun hHeld => ?_)
        clear hK K
        simp only [Act.put]
        refine wpAnyH_take (i := 13) (v := ?v38) HO.out.2.2.2.2.2.2.2.2.2.2.2.2.2 (by kernel_rfl) (by kernel_rfl) (by kernel_rfl) (fun _ _ _ h => h) (Or.inl ⟨by rfl, ?hy38⟩) (by assumption) ?rest38
        case hy38 => (intro w1 hSw; (try dsimp only at hSw); obtain ⟨h0, -⟩ := hSw; go_simp; try with_reducible rfl)
        try simp only [Act.put, List.setIfInBounds_toArray, List.set_cons_zero, List.set_cons_succ]
        refine wpAnyH_done (by kernel_rfl) ?_ _
        have y2 := R3.cell 2
        have z0 := R5.cell 0
        have z2 := R5.cell 2
        simp only [List.getElem?_toArray, List.getElem?_cons_zero, List.getElem?_cons_succ] at y2 z0 z2
        clear R3 R5 C4 PC
        go_wp2_with fail
        go_ret
        exact ⟨rfl, LOW⟩
      refine AllReadyH.cons HO.out.2.2.2.2.2.2.2.2.2.2.1 (fun K hK => ?_) AllReadyH.nil
      go_simp
      have NE285 := Lib.hid (Nat.ne_of_lt R3.lt)
      have LE286 := Lib.hid LOW.size
      obtain ⟨w282, hw283, hb284, R5⟩ := alloc_new w233 rq0 RT
      replace PC := PC.later hb284
      replace R3 := R3.later hb284
      replace C4 := C4.later hb284
      replace TA := TA.later hb284
      replace LOW := LOW.trans (hb284.mono LOW.size)
      clear hb284
      rw [hw283]
      clear hw283
      try clear hHeld
      refine hK.out _ _ (⟨PC, trivial⟩) (fun hHeld => ?_)
      clear hK K
      try simp only [Act.put, List.setIfInBounds_toArray, List.set_cons_zero, List.set_cons_succ]
      refine wpAnyH_ready (rs := [3]) (by kernel_rfl) (by simp) ?_
      refine AllReadyH.cons HO.out.2.2.2.1 (fun K hK => ?_) AllReadyH.nil
      go_simp
      refine (of_any (l := [[97]]) TA a_fit a_of).mono ?_
      rintro e w287 ⟨ta0, tc0, rfl, TO, hb288⟩
      replace PC := PC.later hb288
      replace R3 := R3.later hb288
      replace C4 := C4.later hb288
      replace R5 := R5.later hb288
      replace TA := TA.later hb288
      replace LOW := LOW.trans (hb288.mono LOW.size)
      clear hb288
      clear TA
      try clear hHeld
      refine hK.out _ _ (⟨PC, trivial⟩) (fun hHeld => ?_)
      clear hK K
      try simp only [Act.put, List.setIfInBounds_toArray, List.set_cons_zero, List.set_cons_succ]
      refine wpAnyH_ready (rs := [4]) (by kernel_rfl) (by simp) ?_
      refine AllReadyH.cons HO.out.2.2.2.2.1 (fun K hK => ?_) AllReadyH.nil
      go_simp
      refine (ask_zero (x := X2) (d := d) (k := m) HX2.out.d HK.out.2.2.1 HK.out.2.2.2.1 HX2.out.m a_real a_fit (by decide) TO).mono ?_
      rintro e w289 ⟨tb, td, a1, n1, c1, a2, n2, c2, a3, n3, c3, rfl, -, hb290⟩
      replace PC := PC.later hb290
      replace R3 := R3.later hb290
      replace C4 := C4.later hb290
      replace R5 := R5.later hb290
      replace TO := TO.later hb290
      replace LOW := LOW.trans (hb290.mono LOW.size)
      clear hb290
      clear TO
      try clear hHeld
      refine hK.out _ _ (⟨PC, trivial⟩) (fun hHeld => ?_)
      clear hK K
      try simp only [Act.put, List.setIfInBounds_toArray, List.set_cons_zero, List.set_cons_succ]
      refine wpAnyH_take (i := 5) (v := ?v39) HO.out.2.2.2.2.2.1 (by kernel_rfl) (by kernel_rfl) (by kernel_rfl) (fun _ _ _ h => h) (Or.inl ⟨by rfl, ?hy39⟩) (by assumption) ?rest39
      case hy39 => (intro w1 hSw; (try dsimp only at hSw); obtain ⟨h0, -⟩ := hSw; go_simp; try with_reducible rfl)
      try simp only [Act.put, List.setIfInBounds_toArray, List.set_cons_zero, List.set_cons_succ]
      refine wpAnyH_take (i := 6) (v := ?v40) HO.out.2.2.2.2.2.2.1 (by kernel_rfl) (by kernel_rfl) (by kernel_rfl) (fun _ _ _ h => h) (Or.inl ⟨by rfl, ?hy40⟩) (by assumption) ?rest40
      case hy40 => (intro w1 hSw; (try dsimp only at hSw); obtain ⟨h0, -⟩ := hSw; go_simp; try with_reducible rfl)
      try simp only [Act.put, List.setIfInBounds_toArray, List.set_cons_zero, List.set_cons_succ]
      refine wpAnyH_take (i := 7) (v := ?v41) HO.out.2.2.2.2.2.2.2.1 (by kernel_rfl) (by kernel_rfl) (by kernel_rfl) (fun _ _ _ h => h) (Or.inl ⟨by rfl, ?hy41⟩) (by assumption) ?rest41
      case hy41 => (intro w1 hSw; (try dsimp only at hSw); obtain ⟨h0, -⟩ := hSw; go_simp; try with_reducible rfl)
      try simp only [Act.put, List.setIfInBounds_toArray, List.set_cons_zero, List.set_cons_succ]
      refine wpAnyH_take (i := 8) (v := ?v42) HO.out.2.2.2.2.2.2.2.2.1 (by kernel_rfl) (by kernel_rfl) (by kernel_rfl) (fun _ _ _ h => h) (Or.inl ⟨by rfl, ?hy42⟩) (by assumption) ?rest42
      case hy42 => (intro w1 hSw; (try dsimp only at hSw); obtain ⟨h0, -⟩ := hSw; go_simp; try with_reducible rfl)
      try simp only [Act.put, List.setIfInBounds_toArray, List.set_cons_zero, List.set_cons_succ]
      refine wpAnyH_ready (rs := [11]) (by kernel_rfl) (by simp) ?_
      refine AllReadyH.cons HO.out.2.2.2.2.2.2.2.2.2.2.2.1 (fun K hK => ?_) AllReadyH.nil
      rw [if_pos (by rfl)]
      refine wp_store_cl _ _ Cl.zero _ w83.heap.size rfl (by rfl) (by rfl) C4 ?_
      intro w291 p292 j293
      have mv294 := j293.blk NE236.out PC
      have mv295 := j293.blk (Blk.ne R3 C4 (by decide)) R3
      have mv296 := j293.blk (Blk.ne R5 C4 (by decide)) R5
      have mv297 := LOW.trans (j293.below LE237.out)
      replace PC := mv294
      replace R3 := mv295
      replace R5 := mv296
      replace LOW := mv297
      replace C4 := p292
      try clear hHeld
      refine hK.out _ _ (⟨PC, trivial⟩) (fun hHeld => ?_)
      clear hK K
      simp only [Act.put]
      refine wpAnyH_ready (rs := [12]) (by kernel_rfl) (by simp) ?_
      refine AllReadyH.cons HO.out.2.2.2.2.2.2.2.2.2.2.2.2.1 (fun K hK => ?_) AllReadyH.nil
      rw [if_pos (by rfl)]
      refine wp_store_rq _ _ w233.heap.size rfl (by rfl) (by rfl) R5 rfl (by rfl) (by first | (simp [Value.oneCell']; done) | simp [rq, Value.oneCell']) ?_
      intro w298 p299 j300
      have mv301 := j300.blk (Blk.ne PC R5 (by decide)) PC
      have mv302 := j300.blk NE285.out R3
      have mv303 := j300.blk (Blk.ne C4 R5 (by decide)) C4
      have mv304 := LOW.trans (j300.below LE286.out)
      replace PC := mv301
      replace R3 := mv302
      replace C4 := mv303
      replace LOW := mv304
      replace R5 := p299
      try clear hHeld
      refine hK.out _ _ (⟨PC, trivial⟩) (fun hHeld => ?_)
      clear hK K
      simp only [Act.put]
      refine wpAnyH_take (i := 13) (v := ?v43) HO.out.2.2.2.2.2.2.2.2.2.2.2.2.2 (by kernel_rfl) (by kernel_rfl) (by kernel_rfl) (fun _ _ _ h => h) (Or.inl ⟨by rfl, ?hy43⟩) (by assumption) ?rest43
      case hy43 => (intro w1 hSw; (try dsimp only at hSw); obtain ⟨h0, -⟩ := hSw; go_simp; try with_reducible rfl)
      try simp only [Act.put, List.setIfInBounds_toArray, List.set_cons_zero, List.set_cons_succ]
      refine wpAnyH_done (by kernel_rfl) ?_ _
      have y2 := R3.cell 2
      have z0 := R5.cell 0
      have z2 := R5.cell 2
      simp only [List.getElem?_toArray, List.getElem?_cons_zero, List.getElem?_cons_succ] at y2 z0 z2
      clear R3 R5 C4 PC
      go_wp2_with fail
      go_ret
      exact ⟨rfl, LOW⟩
    refine AllReadyH.cons HO.out.2.2.2.2.2.2.2.2.2.2.1 (fun K hK => ?_) AllReadyH.nil
    go_simp
    have NE308 := Lib.hid (Nat.ne_of_lt R3.lt)
    have LE309 := Lib.hid LOW.size
    obtain ⟨w305, hw306, hb307, R5⟩ := alloc_new w83 rq0 RT
    replace PC := PC.later hb307
    replace R3 := R3.later hb307
    replace TA := TA.later hb307
    replace LOW := LOW.trans (hb307.mono LOW.size)
    clear hb307
    rw [hw306]
    clear hw306
    try clear hHeld
    refine hK.out _ _ (⟨PC, trivial⟩) (fun hHeld => ?_)
    clear hK K
    try simp only [Act.put, List.setIfInBounds_toArray, List.set_cons_zero, List.set_cons_succ]
    refine wpAnyH_ready (rs := [3, 9]) (by kernel_rfl) (by simp) ?_
    refine AllReadyH.cons HO.out.2.2.2.1 (fun K hK => ?_) ?_
    · go_simp
      refine (of_any (l := [[97]]) TA a_fit a_of).mono ?_
      rintro e w310 ⟨ta0, tc0, rfl, TO, hb311⟩
      replace PC := PC.later hb311
      replace R3 := R3.later hb311
      replace R5 := R5.later hb311
      replace TA := TA.later hb311
      replace LOW := LOW.trans (hb311.mono LOW.size)
      clear hb311
      clear TA
      try clear hHeld
      refine hK.out _ _ (⟨PC, trivial⟩) (fun hHeld => ?_)
      clear hK K
      try simp only [Act.put, List.setIfInBounds_toArray, List.set_cons_zero, List.set_cons_succ]
      refine wpAnyH_ready (rs := [4, 9]) (by kernel_rfl) (by simp) ?_
      refine AllReadyH.cons HO.out.2.2.2.2.1 (fun K hK => ?_) ?_
      · go_simp
        refine (ask_zero (x := X2) (d := d) (k := m) HX2.out.d HK.out.2.2.1 HK.out.2.2.2.1 HX2.out.m a_real a_fit (by decide) TO).mono ?_
        rintro e w312 ⟨tb, td, a1, n1, c1, a2, n2, c2, a3, n3, c3, rfl, -, hb313⟩
        replace PC := PC.later hb313
        replace R3 := R3.later hb313
        replace R5 := R5.later hb313
        replace TO := TO.later hb313
        replace LOW := LOW.trans (hb313.mono LOW.size)
        clear hb313
        clear TO
        try clear hHeld
        refine hK.out _ _ (⟨PC, trivial⟩) (fun hHeld => ?_)
        clear hK K
        try simp only [Act.put, List.setIfInBounds_toArray, List.set_cons_zero, List.set_cons_succ]
        refine wpAnyH_take (i := 5) (v := ?v44) HO.out.2.2.2.2.2.1 (by kernel_rfl) (by kernel_rfl) (by kernel_rfl) (fun _ _ _ h => h) (Or.inl ⟨by rfl, ?hy44⟩) (by assumption) ?rest44
        case hy44 => (intro w1 hSw; (try dsimp only at hSw); obtain ⟨h0, -⟩ := hSw; go_simp; try with_reducible rfl)
        try simp only [Act.put, List.setIfInBounds_toArray, List.set_cons_zero, List.set_cons_succ]
        refine wpAnyH_take (i := 6) (v := ?v45) HO.out.2.2.2.2.2.2.1 (by kernel_rfl) (by kernel_rfl) (by kernel_rfl) (fun _ _ _ h => h) (Or.inl ⟨by rfl, ?hy45⟩) (by assumption) ?rest45
        case hy45 => (intro w1 hSw; (try dsimp only at hSw); obtain ⟨h0, -⟩ := hSw; go_simp; try with_reducible rfl)
        try simp only [Act.put, List.setIfInBounds_toArray, List.set_cons_zero, List.set_cons_succ]
        refine wpAnyH_take (i := 7) (v := ?v46) HO.out.2.2.2.2.2.2.2.1 (by kernel_rfl) (by kernel_rfl) (by kernel_rfl) (fun _ _ _ h => h) (Or.inl ⟨by rfl, ?hy46⟩) (by assumption) ?rest46
        case hy46 => (intro w1 hSw; (try dsimp only at hSw); obtain ⟨h0, -⟩ := hSw; go_simp; try with_reducible rfl)
        try simp only [Act.put, List.setIfInBounds_toArray, List.set_cons_zero, List.set_cons_succ]
        refine wpAnyH_take (i := 8) (v := ?v47) HO.out.2.2.2.2.2.2.2.2.1 (by kernel_rfl) (by kernel_rfl) (by kernel_rfl) (fun _ _ _ h => h) (Or.inl ⟨by rfl, ?hy47⟩) (by assumption) ?rest47
        case hy47 => (intro w1 hSw; (try dsimp only at hSw); obtain ⟨h0, -⟩ := hSw; go_simp; try with_reducible rfl)
        try simp only [Act.put, List.setIfInBounds_toArray, List.set_cons_zero, List.set_cons_succ]
        refine wpAnyH_ready (rs := [9]) (by kernel_rfl) (by simp) ?_
        refine AllReadyH.cons HO.out.2.2.2.2.2.2.2.2.2.1 (fun K hK => ?_) AllReadyH.nil
        go_simp
        have NE317 := Lib.hid (Nat.ne_of_lt PC.lt)
        have LE318 := Lib.hid LOW.size
        obtain ⟨w314, hw315, hb316, C4⟩ := alloc_new w312 Cl.zero.arr CT
        replace hw315 : w312.alloc (.cells #[.bool false, .bool false, .slice none 0 0, .bool false, .int .u64 0, .bool false, .slice none 0 0, .bool false, .int .u64 0, .bool false, .slice none 0 0, .bool false, .int .u64 0, .bool false, .slice none 0 0, .bool false, .int .u64 0, .bool false, .slice none 0 0, .bool false, .int .u64 0, .bool false, .slice none 0 0, .bool false, .int .u64 0] CT) = w314 := hw315
        replace PC := PC.later hb316
        replace R3 := R3.later hb316
        replace R5 := R5.later hb316
        replace LOW := LOW.trans (hb316.mono LOW.size)
        clear hb316
        rw [hw315]
        clear hw315
        try clear hHeld
        refine hK.out _ _ (⟨PC, trivial⟩) (fun hHeld => ?_)
        clear hK K
        try simp only [Act.put, List.setIfInBounds_toArray, List.set_cons_zero, List.set_cons_succ]
        refine wpAnyH_ready (rs := [11]) (by kernel_rfl) (by simp) ?_
        refine AllReadyH.cons HO.out.2.2.2.2.2.2.2.2.2.2.2.1 (fun K hK => ?_) AllReadyH.nil
        rw [if_pos (by rfl)]
        refine wp_store_cl _ _ Cl.zero _ w312.heap.size rfl (by rfl) (by rfl) C4 ?_
        intro w319 p320 j321
        have mv322 := j321.blk NE317.out PC
        have mv323 := j321.blk (Blk.ne R3 C4 (by decide)) R3
        have mv324 := j321.blk (Blk.ne R5 C4 (by decide)) R5
        have mv325 := LOW.trans (j321.below LE318.out)
        replace PC := mv322
        replace R3 := mv323
        replace R5 := mv324
        replace LOW := mv325
        replace C4 := p320
        try clear hHeld
        refine hK.out _ _ (⟨PC, trivial⟩) (fun hHeld => ?_)
        clear hK K
        simp only [Act.put]
        refine wpAnyH_ready (rs := [12]) (by kernel_rfl) (by simp) ?_
        refine AllReadyH.cons HO.out.2.2.2.2.2.2.2.2.2.2.2.2.1 (fun K hK => ?_) AllReadyH.nil
        rw [if_pos (by rfl)]
        refine wp_store_rq _ _ w83.heap.size rfl (by rfl) (by rfl) R5 rfl (by rfl) (by first | (simp [Value.oneCell']; done) | simp [rq, Value.oneCell']) ?_
        intro w326 p327 j328
        have mv329 := j328.blk (Blk.ne PC R5 (by decide)) PC
        have mv330 := j328.blk NE308.out R3
        have mv331 := j328.blk (Blk.ne C4 R5 (by decide)) C4
        have mv332 := LOW.trans (j328.below LE309.out)
        replace PC := mv329
        replace R3 := mv330
        replace C4 := mv331
        replace LOW := mv332
        replace R5 := p327
        try clear hHeld
        refine hK.out _ _ (⟨PC, trivial⟩) (fun hHeld => ?_)
        clear hK K
        simp only [Act.put]
        refine wpAnyH_take (i := 13) (v := ?v48) HO.out.2.2.2.2.2.2.2.2.2.2.2.2.2 (by kernel_rfl) (by kernel_rfl) (by kernel_rfl) (fun _ _ _ h => h) (Or.inl ⟨by rfl, ?hy48⟩) (by assumption) ?rest48
        case hy48 => (intro w1 hSw; (try dsimp only at hSw); obtain ⟨h0, -⟩ := hSw; go_simp; try with_reducible rfl)
        try simp only [Act.put, List.setIfInBounds_toArray, List.set_cons_zero, List.set_cons_succ]
        refine wpAnyH_done (by kernel_rfl) ?_ _
        have y2 := R3.cell 2
        have z0 := R5.cell 0
        have z2 := R5.cell 2
        simp only [List.getElem?_toArray, List.getElem?_cons_zero, List.getElem?_cons_succ] at y2 z0 z2
        clear R3 R5 C4 PC
        go_wp2_with fail
        go_ret
        exact ⟨rfl, LOW⟩
      refine AllReadyH.cons HO.out.2.2.2.2.2.2.2.2.2.1 (fun K hK => ?_) AllReadyH.nil
      go_simp
      have NE336 := Lib.hid (Nat.ne_of_lt PC.lt)
      have LE337 := Lib.hid LOW.size
      obtain ⟨w333, hw334, hb335, C4⟩ := alloc_new w310 Cl.zero.arr CT
      replace hw334 : w310.alloc (.cells #[.bool false, .bool false, .slice none 0 0, .bool false, .int .u64 0, .bool false, .slice none 0 0, .bool false, .int .u64 0, .bool false, .slice none 0 0, .bool false, .int .u64 0, .bool false, .slice none 0 0, .bool false, .int .u64 0, .bool false, .slice none 0 0, .bool false, .int .u64 0, .bool false, .slice none 0 0, .bool false, .int .u64 0] CT) = w333 := hw334
      replace PC := PC.later hb335
      replace R3 := R3.later hb335
      replace R5 := R5.later hb335
      replace TO := TO.later hb335
      replace LOW := LOW.trans (hb335.mono LOW.size)
      clear hb335
      rw [hw334]
      clear hw334
      try clear hHeld
      refine hK.out _ _ (⟨PC, trivial⟩) (fun hHeld => ?_)
      clear hK K
      try simp only [Act.put, List.setIfInBounds_toArray, List.set_cons_zero, List.set_cons_succ]
      refine wpAnyH_ready (rs := [4]) (by kernel_rfl) (by simp) ?_
      refine AllReadyH.cons HO.out.2.2.2.2.1 (fun K hK => ?_) AllReadyH.nil
      go_simp
      refine (ask_zero (x := X2) (d := d) (k := m) HX2.out.d HK.out.2.2.1 HK.out.2.2.2.1 HX2.out.m a_real a_fit (by decide) TO).mono ?_
      rintro e w338 ⟨tb, td, a1, n1, c1, a2, n2, c2, a3, n3, c3, rfl, -, hb339⟩
      replace PC := PC.later hb339
      replace R3 := R3.later hb339
      replace R5 := R5.later hb339
      replace C4 := C4.later hb339
      replace TO := TO.later hb339
      replace LOW := LOW.trans (hb339.mono LOW.size)
      clear hb339
      clear TO
      try clear hHeld
      refine hK.out _ _ (⟨PC, trivial⟩) (fun hHeld => ?_)
      clear hK K
      try simp only [Act.put, List.setIfInBounds_toArray, List.set_cons_zero, List.set_cons_succ]
      refine wpAnyH_take (i := 5) (v := ?v49) HO.out.2.2.2.2.2.1 (by kernel_rfl) (by kernel_rfl) (by kernel_rfl) (fun _ _ _ h => h) (Or.inl ⟨by rfl, ?hy49⟩) (by assumption) ?rest49
      case hy49 => (intro w1 hSw; (try dsimp only at hSw); obtain ⟨h0, -⟩ := hSw; go_simp; try with_reducible rfl)
      try simp only [Act.put, List.setIfInBounds_toArray, List.set_cons_zero, List.set_cons_succ]
      refine wpAnyH_take (i := 6) (v := ?v50) HO.out.2.2.2.2.2.2.1 (by kernel_rfl) (by kernel_rfl) (by kernel_rfl) (fun _ _ _ h => h) (Or.inl ⟨by rfl, ?hy50⟩) (by assumption) ?rest50
      case hy50 => (intro w1 hSw; (try dsimp only at hSw); obtain ⟨h0, -⟩ := hSw; go_simp; try with_reducible rfl)
      try simp only [Act.put, List.setIfInBounds_toArray, List.set_cons_zero, List.set_cons_succ]
      refine wpAnyH_take (i := 7) (v := ?v51) HO.out.2.2.2.2.2.2.2.1 (by kernel_rfl) (by kernel_rfl) (by kernel_rfl) (fun _ _ _ h => h) (Or.inl ⟨by rfl, ?hy51⟩) (by assumption) ?rest51
      case hy51 => (intro w1 hSw; (try dsimp only at hSw); obtain ⟨h0, -⟩ := hSw; go_simp; try with_reducible rfl)
      try simp only [Act.put, List.setIfInBounds_toArray, List.set_cons_zero, List.set_cons_succ]
      refine wpAnyH_take (i := 8) (v := ?v52) HO.out.2.2.2.2.2.2.2.2.1 (by kernel_rfl) (by kernel_rfl) (by kernel_rfl) (fun _ _ _ h => h) (Or.inl ⟨by rfl, ?hy52⟩) (by assumption) ?rest52
      case hy52 => (intro w1 hSw; (try dsimp only at hSw); obtain ⟨h0, -⟩ := hSw; go_simp; try with_reducible rfl)
      try simp only [Act.put, List.setIfInBounds_toArray, List.set_cons_zero, List.set_cons_succ]
      refine wpAnyH_ready (rs := [11]) (by kernel_rfl) (by simp) ?_
      refine AllReadyH.cons HO.out.2.2.2.2.2.2.2.2.2.2.2.1 (fun K hK => ?_) AllReadyH.nil
      rw [if_pos (by rfl)]
      refine wp_store_cl _ _ Cl.zero _ w310.heap.size rfl (by rfl) (by rfl) C4 ?_
      intro w340 p341 j342
      have mv343 := j342.blk NE336.out PC
      have mv344 := j342.blk (Blk.ne R3 C4 (by decide)) R3
      have mv345 := j342.blk (Blk.ne R5 C4 (by decide)) R5
      have mv346 := LOW.trans (j342.below LE337.out)
      replace PC := mv343
      replace R3 := mv344
      replace R5 := mv345
      replace LOW := mv346
      replace C4 := p341
      try clear hHeld
      refine hK.out _ _ (⟨PC, trivial⟩) (fun hHeld => ?_)
      clear hK K
      simp only [Act.put]
      refine wpAnyH_ready (rs := [12]) (by kernel_rfl) (by simp) ?_
      refine AllReadyH.cons HO.out.2.2.2.2.2.2.2.2.2.2.2.2.1 (fun K hK => ?_) AllReadyH.nil
      rw [if_pos (by rfl)]
      refine wp_store_rq _ _ w83.heap.size rfl (by rfl) (by rfl) R5 rfl (by rfl) (by first | (simp [Value.oneCell']; done) | simp [rq, Value.oneCell']) ?_
      intro w347 p348 j349
      have mv350 := j349.blk (Blk.ne PC R5 (by decide)) PC
      have mv351 := j349.blk NE308.out R3
      have mv352 := j349.blk (Blk.ne C4 R5 (by decide)) C4
      have mv353 := LOW.trans (j349.below LE309.out)
      replace PC := mv350
      replace R3 := mv351
      replace C4 := mv352
      replace LOW := mv353
      replace R5 := p348
      try clear hHeld
      refine hK.out _ _ (⟨PC, trivial⟩) (fun hHeld => ?_)
      clear hK K
      simp only [Act.put]
      refine wpAnyH_take (i := 13) (v := ?v53) HO.out.2.2.2.2.2.2.2.2.2.2.2.2.2 (by kernel_rfl) (by kernel_rfl) (by kernel_rfl) (fun _ _ _ h => h) (Or.inl ⟨by rfl, ?hy53⟩) (by assumption) ?rest53
      case hy53 => (intro w1 hSw; (try dsimp only at hSw); obtain ⟨h0, -⟩ := hSw; go_simp; try with_reducible rfl)
      try simp only [Act.put, List.setIfInBounds_toArray, List.set_cons_zero, List.set_cons_succ]
      refine wpAnyH_done (by kernel_rfl) ?_ _
      have y2 := R3.cell 2
      have z0 := R5.cell 0
      have z2 := R5.cell 2
      simp only [List.getElem?_toArray, List.getElem?_cons_zero, List.getElem?_cons_succ] at y2 z0 z2
      clear R3 R5 C4 PC
      go_wp2_with fail
      go_ret
      exact ⟨rfl, LOW⟩
    refine AllReadyH.cons HO.out.2.2.2.2.2.2.2.2.2.1 (fun K hK => ?_) AllReadyH.nil
    go_simp
    have NE357 := Lib.hid (Nat.ne_of_lt PC.lt)
    have LE358 := Lib.hid LOW.size
    obtain ⟨w354, hw355, hb356, C4⟩ := alloc_new w305 Cl.zero.arr CT
    replace hw355 : w305.alloc (.cells #[.bool false, .bool false, .slice none 0 0, .bool false, .int .u64 0, .bool false, .slice none 0 0, .bool false, .int .u64 0, .bool false, .slice none 0 0, .bool false, .int .u64 0, .bool false, .slice none 0 0, .bool false, .int .u64 0, .bool false, .slice none 0 0, .bool false, .int .u64 0, .bool false, .slice none 0 0, .bool false, .int .u64 0] CT) = w354 := hw355
    replace PC := PC.later hb356
    replace R3 := R3.later hb356
    replace R5 := R5.later hb356
    replace TA := TA.later hb356
    replace LOW := LOW.trans (hb356.mono LOW.size)
    clear hb356
    rw [hw355]
    clear hw355
    try clear hHeld
    refine hK.out _ _ (⟨PC, trivial⟩) (fun hHeld => ?_)
    clear hK K
    try simp only [Act.put, List.setIfInBounds_toArray, List.set_cons_zero, List.set_cons_succ]
    refine wpAnyH_ready (rs := [3]) (by kernel_rfl) (by simp) ?_
    refine AllReadyH.cons HO.out.2.2.2.1 (fun K hK => ?_) AllReadyH.nil
    go_simp
    refine (of_any (l := [[97]]) TA a_fit a_of).mono ?_
    rintro e w359 ⟨ta0, tc0, rfl, TO, hb360⟩
    replace PC := PC.later hb360
    replace R3 := R3.later hb360
    replace R5 := R5.later hb360
    replace C4 := C4.later hb360
    replace TA := TA.later hb360
    replace LOW := LOW.trans (hb360.mono LOW.size)
    clear hb360
    clear TA
    try clear hHeld
    refine hK.out _ _ (⟨PC, trivial⟩) (fun hHeld => ?_)
    clear hK K
    try simp only [Act.put, List.setIfInBounds_toArray, List.set_cons_zero, List.set_cons_succ]
    refine wpAnyH_ready (rs := [4]) (by kernel_rfl) (by simp) ?_
    refine AllReadyH.cons HO.out.2.2.2.2.1 (fun K hK => ?_) AllReadyH.nil
    go_simp
    refine (ask_zero (x := X2) (d := d) (k := m) HX2.out.d HK.out.2.2.1 HK.out.2.2.2.1 HX2.out.m a_real a_fit (by decide) TO).mono ?_
    rintro e w361 ⟨tb, td, a1, n1, c1, a2, n2, c2, a3, n3, c3, rfl, -, hb362⟩
    replace PC := PC.later hb362
    replace R3 := R3.later hb362
    replace R5 := R5.later hb362
    replace C4 := C4.later hb362
    replace TO := TO.later hb362
    replace LOW := LOW.trans (hb362.mono LOW.size)
    clear hb362
    clear TO
    try clear hHeld
    refine hK.out _ _ (⟨PC, trivial⟩) (fun hHeld => ?_)
    clear hK K
    try simp only [Act.put, List.setIfInBounds_toArray, List.set_cons_zero, List.set_cons_succ]
    refine wpAnyH_take (i := 5) (v := ?v54) HO.out.2.2.2.2.2.1 (by kernel_rfl) (by kernel_rfl) (by kernel_rfl) (fun _ _ _ h => h) (Or.inl ⟨by rfl, ?hy54⟩) (by assumption) ?rest54
    case hy54 => (intro w1 hSw; (try dsimp only at hSw); obtain ⟨h0, -⟩ := hSw; go_simp; try with_reducible rfl)
    try simp only [Act.put, List.setIfInBounds_toArray, List.set_cons_zero, List.set_cons_succ]
    refine wpAnyH_take (i := 6) (v := ?v55) HO.out.2.2.2.2.2.2.1 (by kernel_rfl) (by kernel_rfl) (by kernel_rfl) (fun _ _ _ h => h) (Or.inl ⟨by rfl, ?hy55⟩) (by assumption) ?rest55
    case hy55 => (intro w1 hSw; (try dsimp only at hSw); obtain ⟨h0, -⟩ := hSw; go_simp; try with_reducible rfl)
    try simp only [Act.put, List.setIfInBounds_toArray, List.set_cons_zero, List.set_cons_succ]
    refine wpAnyH_take (i := 7) (v := ?v56) HO.out.2.2.2.2.2.2.2.1 (by kernel_rfl) (by kernel_rfl) (by kernel_rfl) (fun _ _ _ h => h) (Or.inl ⟨by rfl, ?hy56⟩) (by assumption) ?rest56
    case hy56 => (intro w1 hSw; (try dsimp only at hSw); obtain ⟨h0, -⟩ := hSw; go_simp; try with_reducible rfl)
    try simp only [Act.put, List.setIfInBounds_toArray, List.set_cons_zero, List.set_cons_succ]
    refine wpAnyH_take (i := 8) (v := ?v57) HO.out.2.2.2.2.2.2.2.2.1 (by kernel_rfl) (by kernel_rfl) (by kernel_rfl) (fun _ _ _ h => h) (Or.inl ⟨by rfl, ?hy57⟩) (by assumption) ?rest57
    case hy57 => (intro w1 hSw; (try dsimp only at hSw); obtain ⟨h0, -⟩ := hSw; go_simp; try with_reducible rfl)
    try simp only [Act.put, List.setIfInBounds_toArray, List.set_cons_zero, List.set_cons_succ]
    refine wpAnyH_ready (rs := [11]) (by kernel_rfl) (by simp) ?_
    refine AllReadyH.cons HO.out.2.2.2.2.2.2.2.2.2.2.2.1 (fun K hK => ?_) AllReadyH.nil
    rw [if_pos (by rfl)]
    refine wp_store_cl _ _ Cl.zero _ w305.heap.size rfl (by rfl) (by rfl) C4 ?_
    intro w363 p364 j365
    have mv366 := j365.blk NE357.out PC
    have mv367 := j365.blk (Blk.ne R3 C4 (by decide)) R3
    have mv368 := j365.blk (Blk.ne R5 C4 (by decide)) R5
    have mv369 := LOW.trans (j365.below LE358.out)
    replace PC := mv366
    replace R3 := mv367
    replace R5 := mv368
    replace LOW := mv369
    replace C4 := p364
    try clear hHeld
    refine hK.out _ _ (⟨PC, trivial⟩) (fun hHeld => ?_)
    clear hK K
    simp only [Act.put]
    refine wpAnyH_ready (rs := [12]) (by kernel_rfl) (by simp) ?_
    refine AllReadyH.cons HO.out.2.2.2.2.2.2.2.2.2.2.2.2.1 (fun K hK => ?_) AllReadyH.nil
    rw [if_pos (by rfl)]
    refine wp_store_rq _ _ w83.heap.size rfl (by rfl) (by rfl) R5 rfl (by rfl) (by first | (simp [Value.oneCell']; done) | simp [rq, Value.oneCell']) ?_
    intro w370 p371 j372
    have mv373 := j372.blk (Blk.ne PC R5 (by decide)) PC
    have mv374 := j372.blk NE308.out R3
    have mv375 := j372.blk (Blk.ne C4 R5 (by decide)) C4
    have mv376 := LOW.trans (j372.below LE309.out)
    replace PC := mv373
    replace R3 := mv374
    replace C4 := mv375
    replace LOW := mv376
    replace R5 := p371
    try clear hHeld
    refine hK.out _ _ (⟨PC, trivial⟩) (fun hHeld => ?_)
    clear hK K
    simp only [Act.put]
    refine wpAnyH_take (i := 13) (v := ?v58) HO.out.2.2.2.2.2.2.2.2.2.2.2.2.2 (by kernel_rfl) (by kernel_rfl) (by kernel_rfl) (fun _ _ _ h => h) (Or.inl ⟨by rfl, ?hy58⟩) (by assumption) ?rest58
    case hy58 => (intro w1 hSw; (try dsimp only at hSw); obtain ⟨h0, -⟩ := hSw; go_simp; try with_reducible rfl)
    try simp only [Act.put, List.setIfInBounds_toArray, List.set_cons_zero, List.set_cons_succ]
    refine wpAnyH_done (by kernel_rfl) ?_ _
    have y2 := R3.cell 2
    have z0 := R5.cell 0
    have z2 := R5.cell 2
    simp only [List.getElem?_toArray, List.getElem?_cons_zero, List.getElem?_cons_succ] at y2 z0 z2
    clear R3 R5 C4 PC
    go_wp2_with fail
    go_ret
    exact ⟨rfl, LOW⟩
  refine AllReadyH.cons HO.out.2.2.2.2.2.2.2.2.2.1 (fun K hK => ?_) ?_
  · go_simp
    have NE380 := Lib.hid (Nat.ne_of_lt PC.lt)
    have LE381 := Lib.hid LOW.size
    obtain ⟨w377, hw378, hb379, C4⟩ := alloc_new w80 Cl.zero.arr CT
    replace hw378 : w80.alloc (.cells #[.bool false, .bool false, .slice none 0 0, .bool false, .int .u64 0, .bool false, .slice none 0 0, .bool false, .int .u64 0, .bool false, .slice none 0 0, .bool false, .int .u64 0, .bool false, .slice none 0 0, .bool false, .int .u64 0, .bool false, .slice none 0 0, .bool false, .int .u64 0, .bool false, .slice none 0 0, .bool false, .int .u64 0] CT) = w377 := hw378
    replace PC := PC.later hb379
    replace R3 := R3.later hb379
    replace LOW := LOW.trans (hb379.mono LOW.size)
    clear hb379
    rw [hw378]
    clear hw378
    try clear hHeld
    refine hK.out _ _ (⟨PC, trivial⟩) (fun hHeld => ?_)
    clear hK K
    try simp only [Act.put, List.setIfInBounds_toArray, List.set_cons_zero, List.set_cons_succ]
    refine wpAnyH_ready (rs := [2, 10]) (by kernel_rfl) (by simp) ?_
    refine AllReadyH.cons HO.out.2.2.1 (fun K hK => ?_) ?_
    · go_simp
      have LE385 := Lib.hid LOW.size
      obtain ⟨w382, hw383, hb384, QA⟩ := alloc_new w377 #[.string ⟨#[97]⟩] 9
      replace PC := PC.later hb384
      replace R3 := R3.later hb384
      replace C4 := C4.later hb384
      replace LOW := LOW.trans (hb384.mono LOW.size)
      clear hb384
      have TA : TsAt w382 _ [[97]] := ts_block (l := [[97]]) QA (by decide) rfl
      rw [hw383]
      clear hw383 QA
      try clear hHeld
      refine hK.out _ _ (⟨PC, trivial⟩) (fun hHeld => ?_)
      clear hK K
      try simp only [Act.put, List.setIfInBounds_toArray, List.set_cons_zero, List.set_cons_succ]
      refine wpAnyH_ready (rs := [3, 10]) (by kernel_rfl) (by simp) ?_
      refine AllReadyH.cons HO.out.2.2.2.1 (fun K hK => ?_) ?_
      · go_simp
        refine (of_any (l := [[97]]) TA a_fit a_of).mono ?_
        rintro e w386 ⟨ta0, tc0, rfl, TO, hb387⟩
        replace PC := PC.later hb387
        replace R3 := R3.later hb387
        replace C4 := C4.later hb387
        replace TA := TA.later hb387
        replace LOW := LOW.trans (hb387.mono LOW.size)
        clear hb387
        clear TA
        try clear hHeld
        refine hK.out _ _ (⟨PC, trivial⟩) (fun hHeld => ?_)
        clear hK K
        try simp only [Act.put, List.setIfInBounds_toArray, List.set_cons_zero, List.set_cons_succ]
        refine wpAnyH_ready (rs := [4, 10]) (by kernel_rfl) (by simp) ?_
        refine AllReadyH.cons HO.out.2.2.2.2.1 (fun K hK => ?_) ?_
        · go_simp
          refine (ask_zero (x := X2) (d := d) (k := m) HX2.out.d HK.out.2.2.1 HK.out.2.2.2.1 HX2.out.m a_real a_fit (by decide) TO).mono ?_
          rintro e w388 ⟨tb, td, a1, n1, c1, a2, n2, c2, a3, n3, c3, rfl, -, hb389⟩
          replace PC := PC.later hb389
          replace R3 := R3.later hb389
          replace C4 := C4.later hb389
          replace TO := TO.later hb389
          replace LOW := LOW.trans (hb389.mono LOW.size)
          clear hb389
          clear TO
          try clear hHeld
          refine hK.out _ _ (⟨PC, trivial⟩) (fun hHeld => ?_)
          clear hK K
          try simp only [Act.put, List.setIfInBounds_toArray, List.set_cons_zero, List.set_cons_succ]
          refine wpAnyH_take (i := 5) (v := ?v59) HO.out.2.2.2.2.2.1 (by kernel_rfl) (by kernel_rfl) (by kernel_rfl) (fun _ _ _ h => h) (Or.inl ⟨by rfl, ?hy59⟩) (by assumption) ?rest59
          case hy59 => (intro w1 hSw; (try dsimp only at hSw); obtain ⟨h0, -⟩ := hSw; go_simp; try with_reducible rfl)
          try simp only [Act.put, List.setIfInBounds_toArray, List.set_cons_zero, List.set_cons_succ]
          refine wpAnyH_take (i := 6) (v := ?v60) HO.out.2.2.2.2.2.2.1 (by kernel_rfl) (by kernel_rfl) (by kernel_rfl) (fun _ _ _ h => h) (Or.inl ⟨by rfl, ?hy60⟩) (by assumption) ?rest60
          case hy60 => (intro w1 hSw; (try dsimp only at hSw); obtain ⟨h0, -⟩ := hSw; go_simp; try with_reducible rfl)
          try simp only [Act.put, List.setIfInBounds_toArray, List.set_cons_zero, List.set_cons_succ]
          refine wpAnyH_take (i := 7) (v := ?v61) HO.out.2.2.2.2.2.2.2.1 (by kernel_rfl) (by kernel_rfl) (by kernel_rfl) (fun _ _ _ h => h) (Or.inl ⟨by rfl, ?hy61⟩) (by assumption) ?rest61
          case hy61 => (intro w1 hSw; (try dsimp only at hSw); obtain ⟨h0, -⟩ := hSw; go_simp; try with_reducible rfl)
          try simp only [Act.put, List.setIfInBounds_toArray, List.set_cons_zero, List.set_cons_succ]
          refine wpAnyH_take (i := 8) (v := ?v62) HO.out.2.2.2.2.2.2.2.2.1 (by kernel_rfl) (by kernel_rfl) (by kernel_rfl) (fun _ _ _ h => h) (Or.inl ⟨by rfl, ?hy62⟩) (by assumption) ?rest62
          case hy62 => (intro w1 hSw; (try dsimp only at hSw); obtain ⟨h0, -⟩ := hSw; go_simp; try with_reducible rfl)
          try simp only [Act.put, List.setIfInBounds_toArray, List.set_cons_zero, List.set_cons_succ]
          refine wpAnyH_ready (rs := [10]) (by kernel_rfl) (by simp) ?_
          refine AllReadyH.cons HO.out.2.2.2.2.2.2.2.2.2.2.1 (fun K hK => ?_) AllReadyH.nil
          go_simp
          have NE393 := Lib.hid (Nat.ne_of_lt R3.lt)
          have LE394 := Lib.hid LOW.size
          obtain ⟨w390, hw391, hb392, R5⟩ := alloc_new w388 rq0 RT
          replace PC := PC.later hb392
          replace R3 := R3.later hb392
          replace C4 := C4.later hb392
          replace LOW := LOW.trans (hb392.mono LOW.size)
          clear hb392
          rw [hw391]
          clear hw391
          try clear hHeld
          refine hK.out _ _ (⟨PC, trivial⟩) (fun hHeld => ?_)
          clear hK K
          try simp only [Act.put, List.setIfInBounds_toArray, List.set_cons_zero, List.set_cons_succ]
          refine wpAnyH_ready (rs := [11]) (by kernel_rfl) (by simp) ?_
          refine AllReadyH.cons HO.out.2.2.2.2.2.2.2.2.2.2.2.1 (fun K hK => ?_) AllReadyH.nil
          rw [if_pos (by rfl)]
          refine wp_store_cl _ _ Cl.zero _ w80.heap.size rfl (by rfl) (by rfl) C4 ?_
          intro w395 p396 j397
          have mv398 := j397.blk NE380.out PC
          have mv399 := j397.blk (Blk.ne R3 C4 (by decide)) R3
          have mv400 := j397.blk (Blk.ne R5 C4 (by decide)) R5
          have mv401 := LOW.trans (j397.below LE381.out)
          replace PC := mv398
          replace R3 := mv399
          replace R5 := mv400
          replace LOW := mv401
          replace C4 := p396
          try clear hHeld
          refine hK.out _ _ (⟨PC, trivial⟩) (fun hHeld => ?_)
          clear hK K
          simp only [Act.put]
          refine wpAnyH_ready (rs := [12]) (by kernel_rfl) (by simp) ?_
          refine AllReadyH.cons HO.out.2.2.2.2.2.2.2.2.2.2.2.2.1 (fun K hK => ?_) AllReadyH.nil
          rw [if_pos (by rfl)]
          refine wp_store_rq _ _ w388.heap.size rfl (by rfl) (by rfl) R5 rfl (by rfl) (by first | (simp [Value.oneCell']; done) | simp [rq, Value.oneCell']) ?_
          intro w402 p403 j404
          have mv405 := j404.blk (Blk.ne PC R5 (by decide)) PC
          have mv406 := j404.blk NE393.out R3
          have mv407 := j404.blk (Blk.ne C4 R5 (by decide)) C4
          have mv408 := LOW.trans (j404.below LE394.out)
          replace PC := mv405
          replace R3 := mv406
          replace C4 := mv407
          replace LOW := mv408
          replace R5 := p403
          try clear hHeld
          refine hK.out _ _ (⟨PC, trivial⟩) (fun hHeld => ?_)
          clear hK K
          simp only [Act.put]
          refine wpAnyH_take (i := 13) (v := ?v63) HO.out.2.2.2.2.2.2.2.2.2.2.2.2.2 (by kernel_rfl) (by kernel_rfl) (by kernel_rfl) (fun _ _ _ h => h) (Or.inl ⟨by rfl, ?hy63⟩) (by assumption) ?rest63
          case hy63 => (intro w1 hSw; (try dsimp only at hSw); obtain ⟨h0, -⟩ := hSw; go_simp; try with_reducible rfl)
          try simp only [Act.put, List.setIfInBounds_toArray, List.set_cons_zero, List.set_cons_succ]
          refine wpAnyH_done (by kernel_rfl) ?_ _
          have y2 := R3.cell 2
          have z0 := R5.cell 0
          have z2 := R5.cell 2
          simp only [List.getElem?_toArray, List.getElem?_cons_zero, List.getElem?_cons_succ] at y2 z0 z2
          clear R3 R5 C4 PC
          go_wp2_with fail
          go_ret
          exact ⟨rfl, LOW⟩
        refine AllReadyH.cons HO.out.2.2.2.2.2.2.2.2.2.2.1 (fun K hK => ?_) AllReadyH.nil
        go_simp
        have NE412 := Lib.hid (Nat.ne_of_lt R3.lt)
        have LE413 := Lib.hid LOW.size
        obtain ⟨w409, hw410, hb411, R5⟩ := alloc_new w386 rq0 RT
        replace PC := PC.later hb411
        replace R3 := R3.later hb411
        replace C4 := C4.later hb411
        replace TO := TO.later hb411
        replace LOW := LOW.trans (hb411.mono LOW.size)
        clear hb411
        rw [hw410]
        clear hw410
        try clear hHeld
        refine hK.out _ _ (⟨PC, trivial⟩) (fun hHeld => ?_)
        clear hK K
        try simp only [Act.put, List.setIfInBounds_toArray, List.set_cons_zero, List.set_cons_succ]
        refine wpAnyH_ready (rs := [4]) (by kernel_rfl) (by simp) ?_
        refine AllReadyH.cons HO.out.2.2.2.2.1 (fun K hK => ?_) AllReadyH.nil
        go_simp
        refine (ask_zero (x := X2) (d := d) (k := m) HX2.out.d HK.out.2.2.1 HK.out.2.2.2.1 HX2.out.m a_real a_fit (by decide) TO).mono ?_
        rintro e w414 ⟨tb, td, a1, n1, c1, a2, n2, c2, a3, n3, c3, rfl, -, hb415⟩
        replace PC := PC.later hb415
        replace R3 := R3.later hb415
        replace C4 := C4.later hb415
        replace R5 := R5.later hb415
        replace TO := TO.later hb415
        replace LOW := LOW.trans (hb415.mono LOW.size)
        clear hb415
        clear TO
        try clear hHeld
        refine hK.out _ _ (⟨PC, trivial⟩) (fun hHeld => ?_)
        clear hK K
        try simp only [Act.put, List.setIfInBounds_toArray, List.set_cons_zero, List.set_cons_succ]
        refine wpAnyH_take (i := 5) (v := ?v64) HO.out.2.2.2.2.2.1 (by kernel_rfl) (by kernel_rfl) (by kernel_rfl) (fun _ _ _ h => h) (Or.inl ⟨by rfl, ?hy64⟩) (by assumption) ?rest64
        case hy64 => (intro w1 hSw; (try dsimp only at hSw); obtain ⟨h0, -⟩ := hSw; go_simp; try with_reducible rfl)
        try simp only [Act.put, List.setIfInBounds_toArray, List.set_cons_zero, List.set_cons_succ]
        refine wpAnyH_take (i := 6) (v := ?v65) HO.out.2.2.2.2.2.2.1 (by kernel_rfl) (by kernel_rfl) (by kernel_rfl) (fun _ _ _ h => h) (Or.inl ⟨by rfl, ?hy65⟩) (by assumption) ?rest65
        case hy65 => (intro w1 hSw; (try dsimp only at hSw); obtain ⟨h0, -⟩ := hSw; go_simp; try with_reducible rfl)
        try simp only [Act.put, List.setIfInBounds_toArray, List.set_cons_zero, List.set_cons_succ]
        refine wpAnyH_take (i := 7) (v := ?v66) HO.out.2.2.2.2.2.2.2.1 (by kernel_rfl) (by kernel_rfl) (by kernel_rfl) (fun _ _ _ h => h) (Or.inl ⟨by rfl, ?hy66⟩) (by assumption) ?rest66
        case hy66 => (intro w1 hSw; (try dsimp only at hSw); obtain ⟨h0, -⟩ := hSw; go_simp; try with_reducible rfl)
        try simp only [Act.put, List.setIfInBounds_toArray, List.set_cons_zero, List.set_cons_succ]
        refine wpAnyH_take (i := 8) (v := ?v67) HO.out.2.2.2.2.2.2.2.2.1 (by kernel_rfl) (by kernel_rfl) (by kernel_rfl) (fun _ _ _ h => h) (Or.inl ⟨by rfl, ?hy67⟩) (by assumption) ?rest67
        case hy67 => (intro w1 hSw; (try dsimp only at hSw); obtain ⟨h0, -⟩ := hSw; go_simp; try with_reducible rfl)
        try simp only [Act.put, List.setIfInBounds_toArray, List.set_cons_zero, List.set_cons_succ]
        refine wpAnyH_ready (rs := [11]) (by kernel_rfl) (by simp) ?_
        refine AllReadyH.cons HO.out.2.2.2.2.2.2.2.2.2.2.2.1 (fun K hK => ?_) AllReadyH.nil
        rw [if_pos (by rfl)]
        refine wp_store_cl _ _ Cl.zero _ w80.heap.size rfl (by rfl) (by rfl) C4 ?_
        intro w416 p417 j418
        have mv419 := j418.blk NE380.out PC
        have mv420 := j418.blk (Blk.ne R3 C4 (by decide)) R3
        have mv421 := j418.blk (Blk.ne R5 C4 (by decide)) R5
        have mv422 := LOW.trans (j418.below LE381.out)
        replace PC := mv419
        replace R3 := mv420
        replace R5 := mv421
        replace LOW := mv422
        replace C4 := p417
        try clear hHeld
        refine hK.out _ _ (⟨PC, trivial⟩) (fun hHeld => ?_)
        clear hK K
        simp only [Act.put]
        refine wpAnyH_ready (rs := [12]) (by kernel_rfl) (by simp) ?_
        refine AllReadyH.cons HO.out.2.2.2.2.2.2.2.2.2.2.2.2.1 (fun K hK => ?_) AllReadyH.nil
        rw [if_pos (by rfl)]
        refine wp_store_rq _ _ w386.heap.size rfl (by rfl) (by rfl) R5 rfl (by rfl) (by first | (simp [Value.oneCell']; done) | simp [rq, Value.oneCell']) ?_
        intro w423 p424 j425
        have mv426 := j425.blk (Blk.ne PC R5 (by decide)) PC
        have mv427 := j425.blk NE412.out R3
        have mv428 := j425.blk (Blk.ne C4 R5 (by decide)) C4
        have mv429 := LOW.trans (j425.below LE413.out)
        replace PC := mv426
        replace R3 := mv427
        replace C4 := mv428
        replace LOW := mv429
        replace R5 := p424
        try clear hHeld
        refine hK.out _ _ (⟨PC, trivial⟩) (fun hHeld => ?_)
        clear hK K
        simp only [Act.put]
        refine wpAnyH_take (i := 13) (v := ?v68) HO.out.2.2.2.2.2.2.2.2.2.2.2.2.2 (by kernel_rfl) (by kernel_rfl) (by kernel_rfl) (fun _ _ _ h => h) (Or.inl ⟨by rfl, ?hy68⟩) (by assumption) ?rest68
        case hy68 => (intro w1 hSw; (try dsimp only at hSw); obtain ⟨h0, -⟩ := hSw; go_simp; try with_reducible rfl)
        try simp only [Act.put, List.setIfInBounds_toArray, List.set_cons_zero, List.set_cons_succ]
        refine wpAnyH_done (by kernel_rfl) ?_ _
        have y2 := R3.cell 2
        have z0 := R5.cell 0
        have z2 := R5.cell 2
        simp only [List.getElem?_toArray, List.getElem?_cons_zero, List.getElem?_cons_succ] at y2 z0 z2
        clear R3 R5 C4 PC
        go_wp2_with fail
        go_ret
        exact ⟨rfl, LOW⟩
      refine AllReadyH.cons HO.out.2.2.2.2.2.2.2.2.2.2.1 (fun K hK => ?_) AllReadyH.nil
      go_simp
      have NE433 := Lib.hid (Nat.ne_of_lt R3.lt)
      have LE434 := Lib.hid LOW.size
      obtain ⟨w430, hw431, hb432, R5⟩ := alloc_new w382 rq0 RT
      replace PC := PC.later hb432
      replace R3 := R3.later hb432
      replace C4 := C4.later hb432
      replace TA := TA.later hb432
      replace LOW := LOW.trans (hb432.mono LOW.size)
      clear hb432
      rw [hw431]
      clear hw431
      try clear hHeld
      refine hK.out _ _ (⟨PC, trivial⟩) (fun hHeld => ?_)
      clear hK K
      try simp only [Act.put, List.setIfInBounds_toArray, List.set_cons_zero, List.set_cons_succ]
      refine wpAnyH_ready (rs := [3]) (by kernel_rfl) (by simp) ?_
      refine AllReadyH.cons HO.out.2.2.2.1 (fun K hK => ?_) AllReadyH.nil
      go_simp
      refine (of_any (l := [[97]]) TA a_fit a_of).mono ?_
      rintro e w435 ⟨ta0, tc0, rfl, TO, hb436⟩
      replace PC := PC.later hb436
      replace R3 := R3.later hb436
      replace C4 := C4.later hb436
      replace R5 := R5.later hb436
      replace TA := TA.later hb436
      replace LOW := LOW.trans (hb436.mono LOW.size)
      clear hb436
      clear TA
      try clear hHeld
      refine hK.out _ _ (⟨PC, trivial⟩) (fun hHeld => ?_)
      clear hK K
      try simp only [Act.put, List.setIfInBounds_toArray, List.set_cons_zero, List.set_cons_succ]
      refine wpAnyH_ready (rs := [4]) (by kernel_rfl) (by simp) ?_
      refine AllReadyH.cons HO.out.2.2.2.2.1 (fun K hK => ?_) AllReadyH.nil
      go_simp
      refine (ask_zero (x := X2) (d := d) (k := m) HX2.out.d HK.out.2.2.1 HK.out.2.2.2.1 HX2.out.m a_real a_fit (by decide) TO).mono ?_
      rintro e w437 ⟨tb, td, a1, n1, c1, a2, n2, c2, a3, n3, c3, rfl, -, hb438⟩
      replace PC := PC.later hb438
      replace R3 := R3.later hb438
      replace C4 := C4.later hb438
      replace R5 := R5.later hb438
      replace TO := TO.later hb438
      replace LOW := LOW.trans (hb438.mono LOW.size)
      clear hb438
      clear TO
      try clear hHeld
      refine hK.out _ _ (⟨PC, trivial⟩) (fun hHeld => ?_)
      clear hK K
      try simp only [Act.put, List.setIfInBounds_toArray, List.set_cons_zero, List.set_cons_succ]
      refine wpAnyH_take (i := 5) (v := ?v69) HO.out.2.2.2.2.2.1 (by kernel_rfl) (by kernel_rfl) (by kernel_rfl) (fun _ _ _ h => h) (Or.inl ⟨by rfl, ?hy69⟩) (by assumption) ?rest69
      case hy69 => (intro w1 hSw; (try dsimp only at hSw); obtain ⟨h0, -⟩ := hSw; go_simp; try with_reducible rfl)
      try simp only [Act.put, List.setIfInBounds_toArray, List.set_cons_zero, List.set_cons_succ]
      refine wpAnyH_take (i := 6) (v := ?v70) HO.out.2.2.2.2.2.2.1 (by kernel_rfl) (by kernel_rfl) (by kernel_rfl) (fun _ _ _ h => h) (Or.inl ⟨by rfl, ?hy70⟩) (by assumption) ?rest70
      case hy70 => (intro w1 hSw; (try dsimp only at hSw); obtain ⟨h0, -⟩ := hSw; go_simp; try with_reducible rfl)
      try simp only [Act.put, List.setIfInBounds_toArray, List.set_cons_zero, List.set_cons_succ]
      refine wpAnyH_take (i := 7) (v := ?v71) HO.out.2.2.2.2.2.2.2.1 (by kernel_rfl) (by kernel_rfl) (by kernel_rfl) (fun _ _ _ h => h) (Or.inl ⟨by rfl, ?hy71⟩) (by assumption) ?rest71
      case hy71 => (intro w1 hSw; (try dsimp only at hSw); obtain ⟨h0, -⟩ := hSw; go_simp; try with_reducible rfl)
      try simp only [Act.put, List.setIfInBounds_toArray, List.set_cons_zero, List.set_cons_succ]
      refine wpAnyH_take (i := 8) (v := ?v72) HO.out.2.2.2.2.2.2.2.2.1 (by kernel_rfl) (by kernel_rfl) (by kernel_rfl) (fun _ _ _ h => h) (Or.inl ⟨by rfl, ?hy72⟩) (by assumption) ?rest72
      case hy72 => (intro w1 hSw; (try dsimp only at hSw); obtain ⟨h0, -⟩ := hSw; go_simp; try with_reducible rfl)
      try simp only [Act.put, List.setIfInBounds_toArray, List.set_cons_zero, List.set_cons_succ]
      refine wpAnyH_ready (rs := [11]) (by kernel_rfl) (by simp) ?_
      refine AllReadyH.cons HO.out.2.2.2.2.2.2.2.2.2.2.2.1 (fun K hK => ?_) AllReadyH.nil
      rw [if_pos (by rfl)]
      refine wp_store_cl _ _ Cl.zero _ w80.heap.size rfl (by rfl) (by rfl) C4 ?_
      intro w439 p440 j441
      have mv442 := j441.blk NE380.out PC
      have mv443 := j441.blk (Blk.ne R3 C4 (by decide)) R3
      have mv444 := j441.blk (Blk.ne R5 C4 (by decide)) R5
      have mv445 := LOW.trans (j441.below LE381.out)
      replace PC := mv442
      replace R3 := mv443
      replace R5 := mv444
      replace LOW := mv445
      replace C4 := p440
      try clear hHeld
      refine hK.out _ _ (⟨PC, trivial⟩) (fun hHeld => ?_)
      clear hK K
      simp only [Act.put]
      refine wpAnyH_ready (rs := [12]) (by kernel_rfl) (by simp) ?_
      refine AllReadyH.cons HO.out.2.2.2.2.2.2.2.2.2.2.2.2.1 (fun K hK => ?_) AllReadyH.nil
      rw [if_pos (by rfl)]
      refine wp_store_rq _ _ w382.heap.size rfl (by rfl) (by rfl) R5 rfl (by rfl) (by first | (simp [Value.oneCell']; done) | simp [rq, Value.oneCell']) ?_
      intro w446 p447 j448
      have mv449 := j448.blk (Blk.ne PC R5 (by decide)) PC
      have mv450 := j448.blk NE433.out R3
      have mv451 := j448.blk (Blk.ne C4 R5 (by decide)) C4
      have mv452 := LOW.trans (j448.below LE434.out)
      replace PC := mv449
      replace R3 := mv450
      replace C4 := mv451
      replace LOW := mv452
      replace R5 := p447
      try clear hHeld
      refine hK.out _ _ (⟨PC, trivial⟩) (fun hHeld => ?_)
      clear hK K
      simp only [Act.put]
      refine wpAnyH_take (i := 13) (v := ?v73) HO.out.2.2.2.2.2.2.2.2.2.2.2.2.2 (by kernel_rfl) (by kernel_rfl) (by kernel_rfl) (fun _ _ _ h => h) (Or.inl ⟨by rfl, ?hy73⟩) (by assumption) ?rest73
      case hy73 => (intro w1 hSw; (try dsimp only at hSw); obtain ⟨h0, -⟩ := hSw; go_simp; try with_reducible rfl)
      try simp only [Act.put, List.setIfInBounds_toArray, List.set_cons_zero, List.set_cons_succ]
      refine wpAnyH_done (by kernel_rfl) ?_ _
      have y2 := R3.cell 2
      have z0 := R5.cell 0
      have z2 := R5.cell 2
      simp only [List.getElem?_toArray, List.getElem?_cons_zero, List.getElem?_cons_succ] at y2 z0 z2
      clear R3 R5 C4 PC
      go_wp2_with fail
      go_ret
      exact ⟨rfl, LOW⟩
    refine AllReadyH.cons HO.out.2.2.2.2.2.2.2.2.2.2.1 (fun K hK => ?_) AllReadyH.nil
    go_simp
    have NE456 := Lib.hid (Nat.ne_of_lt R3.lt)
    have LE457 := Lib.hid LOW.size
    obtain ⟨w453, hw454, hb455, R5⟩ := alloc_new w377 rq0 RT
    replace PC := PC.later hb455
    replace R3 := R3.later hb455
    replace C4 := C4.later hb455
    replace LOW := LOW.trans (hb455.mono LOW.size)
    clear hb455
    rw [hw454]
    clear hw454
    try clear hHeld
    refine hK.out _ _ (⟨PC, trivial⟩) (fun hHeld => ?_)
    clear hK K
    try simp only [Act.put, List.setIfInBounds_toArray, List.set_cons_zero, List.set_cons_succ]
    refine wpAnyH_ready (rs := [2]) (by kernel_rfl) (by simp) ?_
    refine AllReadyH.cons HO.out.2.2.1 (fun K hK => ?_) AllReadyH.nil
    go_simp
    have LE461 := Lib.hid LOW.size
    obtain ⟨w458, hw459, hb460, QA⟩ := alloc_new w453 #[.string ⟨#[97]⟩] 9
    replace PC := PC.later hb460
    replace R3 := R3.later hb460
    replace C4 := C4.later hb460
    replace R5 := R5.later hb460
    replace LOW := LOW.trans (hb460.mono LOW.size)
    clear hb460
    have TA : TsAt w458 _ [[97]] := ts_block (l := [[97]]) QA (by decide) rfl
    rw [hw459]
    clear hw459 QA
    try clear hHeld
    refine hK.out _ _ (⟨PC, trivial⟩) (fun hHeld => ?_)
    clear hK K
    try simp only [Act.put, List.setIfInBounds_toArray, List.set_cons_zero, List.set_cons_succ]
    refine wpAnyH_ready (rs := [3]) (by kernel_rfl) (by simp) ?_
    refine AllReadyH.cons HO.out.2.2.2.1 (fun K hK => ?_) AllReadyH.nil
    go_simp
    refine (of_any (l := [[97]]) TA a_fit a_of).mono ?_
    rintro e w462 ⟨ta0, tc0, rfl, TO, hb463⟩
    replace PC := PC.later hb463
    replace R3 := R3.later hb463
    replace C4 := C4.later hb463
    replace R5 := R5.later hb463
    replace TA := TA.later hb463
    replace LOW := LOW.trans (hb463.mono LOW.size)
    clear hb463
    clear TA
    try clear hHeld
    refine hK.out _ _ (⟨PC, trivial⟩) (fun hHeld => ?_)
    clear hK K
    try simp only [Act.put, List.setIfInBounds_toArray, List.set_cons_zero, List.set_cons_succ]
    refine wpAnyH_ready (rs := [4]) (by kernel_rfl) (by simp) ?_
    refine AllReadyH.cons HO.out.2.2.2.2.1 (fun K hK => ?_) AllReadyH.nil
    go_simp
    refine (ask_zero (x := X2) (d := d) (k := m) HX2.out.d HK.out.2.2.1 HK.out.2.2.2.1 HX2.out.m a_real a_fit (by decide) TO).mono ?_
    rintro e w464 ⟨tb, td, a1, n1, c1, a2, n2, c2, a3, n3, c3, rfl, -, hb465⟩
    replace PC := PC.later hb465
    replace R3 := R3.later hb465
    replace C4 := C4.later hb465
    replace R5 := R5.later hb465
    replace TO := TO.later hb465
    replace LOW := LOW.trans (hb465.mono LOW.size)
    clear hb465
    clear TO
    try clear hHeld
    refine hK.out _ _ (⟨PC, trivial⟩) (fun hHeld => ?_)
    clear hK K
    try simp only [Act.put, List.setIfInBounds_toArray, List.set_cons_zero, List.set_cons_succ]
    refine wpAnyH_take (i := 5) (v := ?v74) HO.out.2.2.2.2.2.1 (by kernel_rfl) (by kernel_rfl) (by kernel_rfl) (fun _ _ _ h => h) (Or.inl ⟨by rfl, ?hy74⟩) (by assumption) ?rest74
    case hy74 => (intro w1 hSw; (try dsimp only at hSw); obtain ⟨h0, -⟩ := hSw; go_simp; try with_reducible rfl)
    try simp only [Act.put, List.setIfInBounds_toArray, List.set_cons_zero, List.set_cons_succ]
    refine wpAnyH_take (i := 6) (v := ?v75) HO.out.2.2.2.2.2.2.1 (by kernel_rfl) (by kernel_rfl) (by kernel_rfl) (fun _ _ _ h => h) (Or.inl ⟨by rfl, ?hy75⟩) (by assumption) ?rest75
    case hy75 => (intro w1 hSw; (try dsimp only at hSw); obtain ⟨h0, -⟩ := hSw; go_simp; try with_reducible rfl)
    try simp only [Act.put, List.setIfInBounds_toArray, List.set_cons_zero, List.set_cons_succ]
    refine wpAnyH_take (i := 7) (v := ?v76) HO.out.2.2.2.2.2.2.2.1 (by kernel_rfl) (by kernel_rfl) (by kernel_rfl) (fun _ _ _ h => h) (Or.inl ⟨by rfl, ?hy76⟩) (by assumption) ?rest76
    case hy76 => (intro w1 hSw; (try dsimp only at hSw); obtain ⟨h0, -⟩ := hSw; go_simp; try with_reducible rfl)
    try simp only [Act.put, List.setIfInBounds_toArray, List.set_cons_zero, List.set_cons_succ]
    refine wpAnyH_take (i := 8) (v := ?v77) HO.out.2.2.2.2.2.2.2.2.1 (by kernel_rfl) (by kernel_rfl) (by kernel_rfl) (fun _ _ _ h => h) (Or.inl ⟨by rfl, ?hy77⟩) (by assumption) ?rest77
    case hy77 => (intro w1 hSw; (try dsimp only at hSw); obtain ⟨h0, -⟩ := hSw; go_simp; try with_reducible rfl)
    try simp only [Act.put, List.setIfInBounds_toArray, List.set_cons_zero, List.set_cons_succ]
    refine wpAnyH_ready (rs := [11]) (by kernel_rfl) (by simp) ?_
    refine AllReadyH.cons HO.out.2.2.2.2.2.2.2.2.2.2.2.1 (fun K hK => ?_) AllReadyH.nil
    rw [if_pos (by rfl)]
    refine wp_store_cl _ _ Cl.zero _ w80.heap.size rfl (by rfl) (by rfl) C4 ?_
    intro w466 p467 j468
    have mv469 := j468.blk NE380.out PC
    have mv470 := j468.blk (Blk.ne R3 C4 (by decide)) R3
    have mv471 := j468.blk (Blk.ne R5 C4 (by decide)) R5
    have mv472 := LOW.trans (j468.below LE381.out)
    replace PC := mv469
    replace R3 := mv470
    replace R5 := mv471
    replace LOW := mv472
    replace C4 := p467
    try clear hHeld
    refine hK.out _ _ (⟨PC, trivial⟩) (fun hHeld => ?_)
    clear hK K
    simp only [Act.put]
    refine wpAnyH_ready (rs := [12]) (by kernel_rfl) (by simp) ?_
    refine AllReadyH.cons HO.out.2.2.2.2.2.2.2.2.2.2.2.2.1 (fun K hK => ?_) AllReadyH.nil
    rw [if_pos (by rfl)]
    refine wp_store_rq _ _ w377.heap.size rfl (by rfl) (by rfl) R5 rfl (by rfl) (by first | (simp [Value.oneCell']; done) | simp [rq, Value.oneCell']) ?_
    intro w473 p474 j475
    have mv476 := j475.blk (Blk.ne PC R5 (by decide)) PC
    have mv477 := j475.blk NE456.out R3
    have mv478 := j475.blk (Blk.ne C4 R5 (by decide)) C4
    have mv479 := LOW.trans (j475.below LE457.out)
    replace PC := mv476
    replace R3 := mv477
    replace C4 := mv478
    replace LOW := mv479
    replace R5 := p474
    try clear hHeld
    refine hK.out _ _ (⟨PC, trivial⟩) (fun hHeld => ?_)
    clear hK K
    simp only [Act.put]
    refine wpAnyH_take (i := 13) (v := ?v78) HO.out.2.2.2.2.2.2.2.2.2.2.2.2.2 (by kernel_rfl) (by kernel_rfl) (by kernel_rfl) (fun _ _ _ h => h) (Or.inl ⟨by rfl, ?hy78⟩) (by assumption) ?rest78
    case hy78 => (intro w1 hSw; (try dsimp only at hSw); obtain ⟨h0, -⟩ := hSw; go_simp; try with_reducible rfl)
    try simp only [Act.put, List.setIfInBounds_toArray, List.set_cons_zero, List.set_cons_succ]
    refine wpAnyH_done (by kernel_rfl) ?_ _
    have y2 := R3.cell 2
    have z0 := R5.cell 0
    have z2 := R5.cell 2
    simp only [List.getElem?_toArray, List.getElem?_cons_zero, List.getElem?_cons_succ] at y2 z0 z2
    clear R3 R5 C4 PC
    go_wp2_with fail
    go_ret
    exact ⟨rfl, LOW⟩
  refine AllReadyH.cons HO.out.2.2.2.2.2.2.2.2.2.2.1 (fun K hK => ?_) AllReadyH.nil
  go_simp
  have NE483 := Lib.hid (Nat.ne_of_lt R3.lt)
  have LE484 := Lib.hid LOW.size
  obtain ⟨w480, hw481, hb482, R5⟩ := alloc_new w80 rq0 RT
  replace PC := PC.later hb482
  replace R3 := R3.later hb482
  replace LOW := LOW.trans (hb482.mono LOW.size)
  clear hb482
  rw [hw481]
  clear hw481
  try clear hHeld
  refine hK.out _ _ (⟨PC, trivial⟩) (fun hHeld => ?_)
  clear hK K
  try simp only [Act.put, List.setIfInBounds_toArray, List.set_cons_zero, List.set_cons_succ]
  refine wpAnyH_ready (rs := [2, 9]) (by kernel_rfl) (by simp) ?_
  refine AllReadyH.cons HO.out.2.2.1 (fun K hK => ?_) ?_
  · go_simp
    have LE488 := Lib.hid LOW.size
    obtain ⟨w485, hw486, hb487, QA⟩ := alloc_new w480 #[.string ⟨#[97]⟩] 9
    replace PC := PC.later hb487
    replace R3 := R3.later hb487
    replace R5 := R5.later hb487
    replace LOW := LOW.trans (hb487.mono LOW.size)
    clear hb487
    have TA : TsAt w485 _ [[97]] := ts_block (l := [[97]]) QA (by decide) rfl
    rw [hw486]
    clear hw486 QA
    try clear hHeld
    refine hK.out _ _ (⟨PC, trivial⟩) (fun hHeld => ?_)
    clear hK K
    try simp only [Act.put, List.setIfInBounds_toArray, List.set_cons_zero, List.set_cons_succ]
    refine wpAnyH_ready (rs := [3, 9]) (by kernel_rfl) (by simp) ?_
    refine AllReadyH.cons HO.out.2.2.2.1 (fun K hK => ?_) ?_
    · go_simp
      refine (of_any (l := [[97]]) TA a_fit a_of).mono ?_
      rintro e w489 ⟨ta0, tc0, rfl, TO, hb490⟩
      replace PC := PC.later hb490
      replace R3 := R3.later hb490
      replace R5 := R5.later hb490
      replace TA := TA.later hb490
      replace LOW := LOW.trans (hb490.mono LOW.size)
      clear hb490
      clear TA
      try clear hHeld
      refine hK.out _ _ (⟨PC, trivial⟩) (fun hHeld => ?_)
      clear hK K
      try simp only [Act.put, List.setIfInBounds_toArray, List.set_cons_zero, List.set_cons_succ]
      refine wpAnyH_ready (rs := [4, 9]) (by kernel_rfl) (by simp) ?_
      refine AllReadyH.cons HO.out.2.2.2.2.1 (fun K hK => ?_) ?_
      · go_simp
        refine (ask_zero (x := X2) (d := d) (k := m) HX2.out.d HK.out.2.2.1 HK.out.2.2.2.1 HX2.out.m a_real a_fit (by decide) TO).mono ?_
        rintro e w491 ⟨tb, td, a1, n1, c1, a2, n2, c2, a3, n3, c3, rfl, -, hb492⟩
        replace PC := PC.later hb492
        replace R3 := R3.later hb492
        replace R5 := R5.later hb492
        replace TO := TO.later hb492
        replace LOW := LOW.trans (hb492.mono LOW.size)
        clear hb492
        clear TO
        try clear hHeld
        refine hK.out _ _ (⟨PC, trivial⟩) (fun hHeld => ?_)
        clear hK K
        try simp only [Act.put, List.setIfInBounds_toArray, List.set_cons_zero, List.set_cons_succ]
        refine wpAnyH_take (i := 5) (v := ?v79) HO.out.2.2.2.2.2.1 (by kernel_rfl) (by kernel_rfl) (by kernel_rfl) (fun _ _ _ h => h) (Or.inl ⟨by rfl, ?hy79⟩) (by assumption) ?rest79
        case hy79 => (intro w1 hSw; (try dsimp only at hSw); obtain ⟨h0, -⟩ := hSw; go_simp; try with_reducible rfl)
        try simp only [Act.put, List.setIfInBounds_toArray, List.set_cons_zero, List.set_cons_succ]
        refine wpAnyH_take (i := 6) (v := ?v80) HO.out.2.2.2.2.2.2.1 (by kernel_rfl) (by kernel_rfl) (by kernel_rfl) (fun _ _ _ h => h) (Or.inl ⟨by rfl, ?hy80⟩) (by assumption) ?rest80
        case hy80 => (intro w1 hSw; (try dsimp only at hSw); obtain ⟨h0, -⟩ := hSw; go_simp; try with_reducible rfl)
        try simp only [Act.put, List.setIfInBounds_toArray, List.set_cons_zero, List.set_cons_succ]
        refine wpAnyH_take (i := 7) (v := ?v81) HO.out.2.2.2.2.2.2.2.1 (by kernel_rfl) (by kernel_rfl) (by kernel_rfl) (fun _ _ _ h => h) (Or.inl ⟨by rfl, ?hy81⟩) (by assumption) ?rest81
        case hy81 => (intro w1 hSw; (try dsimp only at hSw); obtain ⟨h0, -⟩ := hSw; go_simp; try with_reducible rfl)
        try simp only [Act.put, List.setIfInBounds_toArray, List.set_cons_zero, List.set_cons_succ]
        refine wpAnyH_take (i := 8) (v := ?v82) HO.out.2.2.2.2.2.2.2.2.1 (by kernel_rfl) (by kernel_rfl) (by kernel_rfl) (fun _ _ _ h => h) (Or.inl ⟨by rfl, ?hy82⟩) (by assumption) ?rest82
        case hy82 => (intro w1 hSw; (try dsimp only at hSw); obtain ⟨h0, -⟩ := hSw; go_simp; try with_reducible rfl)
        try simp only [Act.put, List.setIfInBounds_toArray, List.set_cons_zero, List.set_cons_succ]
        refine wpAnyH_ready (rs := [9]) (by kernel_rfl) (by simp) ?_
        refine AllReadyH.cons HO.out.2.2.2.2.2.2.2.2.2.1 (fun K hK => ?_) AllReadyH.nil
        go_simp
        have NE496 := Lib.hid (Nat.ne_of_lt PC.lt)
        have LE497 := Lib.hid LOW.size
        obtain ⟨w493, hw494, hb495, C4⟩ := alloc_new w491 Cl.zero.arr CT
        replace hw494 : w491.alloc (.cells #[.bool false, .bool false, .slice none 0 0, .bool false, .int .u64 0, .bool false, .slice none 0 0, .bool false, .int .u64 0, .bool false, .slice none 0 0, .bool false, .int .u64 0, .bool false, .slice none 0 0, .bool false, .int .u64 0, .bool false, .slice none 0 0, .bool false, .int .u64 0, .bool false, .slice none 0 0, .bool false, .int .u64 0] CT) = w493 := hw494
        replace PC := PC.later hb495
        replace R3 := R3.later hb495
        replace R5 := R5.later hb495
        replace LOW := LOW.trans (hb495.mono LOW.size)
        clear hb495
        rw [hw494]
        clear hw494
        try clear hHeld
        refine hK.out _ _ (⟨PC, trivial⟩) (fun hHeld => ?_)
        clear hK K
        try simp only [Act.put, List.setIfInBounds_toArray, List.set_cons_zero, List.set_cons_succ]
        refine wpAnyH_ready (rs := [11]) (by kernel_rfl) (by simp) ?_
        refine AllReadyH.cons HO.out.2.2.2.2.2.2.2.2.2.2.2.1 (fun K hK => ?_) AllReadyH.nil
        rw [if_pos (by rfl)]
        refine wp_store_cl _ _ Cl.zero _ w491.heap.size rfl (by rfl) (by rfl) C4 ?_
        intro w498 p499 j500
        have mv501 := j500.blk NE496.out PC
        have mv502 := j500.blk (Blk.ne R3 C4 (by decide)) R3
        have mv503 := j500.blk (Blk.ne R5 C4 (by decide)) R5
        have mv504 := LOW.trans (j500.below LE497.out)
        replace PC := mv501
        replace R3 := mv502
        replace R5 := mv503
        replace LOW := mv504
        replace C4 := p499
        try clear hHeld
        refine hK.out _ _ (⟨PC, trivial⟩) (fun hHeld => ?_)
        clear hK K
        simp only [Act.put]
        refine wpAnyH_ready (rs := [12]) (by kernel_rfl) (by simp) ?_
        refine AllReadyH.cons HO.out.2.2.2.2.2.2.2.2.2.2.2.2.1 (fun K hK => ?_) AllReadyH.nil
        rw [if_pos (by rfl)]
        refine wp_store_rq _ _ w80.heap.size rfl (by rfl) (by rfl) R5 rfl (by rfl) (by first | (simp [Value.oneCell']; done) | simp [rq, Value.oneCell']) ?_
        intro w505 p506 j507
        have mv508 := j507.blk (Blk.ne PC R5 (by decide)) PC
        have mv509 := j507.blk NE483.out R3
        have mv510 := j507.blk (Blk.ne C4 R5 (by decide)) C4
        have mv511 := LOW.trans (j507.below LE484.out)
        replace PC := mv508
        replace R3 := mv509
        replace C4 := mv510
        replace LOW := mv511
        replace R5 := p506
        try clear hHeld
        refine hK.out _ _ (⟨PC, trivial⟩) (fun hHeld => ?_)
        clear hK K
        simp only [Act.put]
        refine wpAnyH_take (i := 13) (v := ?v83) HO.out.2.2.2.2.2.2.2.2.2.2.2.2.2 (by kernel_rfl) (by kernel_rfl) (by kernel_rfl) (fun _ _ _ h => h) (Or.inl ⟨by rfl, ?hy83⟩) (by assumption) ?rest83
        case hy83 => (intro w1 hSw; (try dsimp only at hSw); obtain ⟨h0, -⟩ := hSw; go_simp; try with_reducible rfl)
        try simp only [Act.put, List.setIfInBounds_toArray, List.set_cons_zero, List.set_cons_succ]
        refine wpAnyH_done (by kernel_rfl) ?_ _
        have y2 := R3.cell 2
        have z0 := R5.cell 0
        have z2 := R5.cell 2
        simp only [List.getElem?_toArray, List.getElem?_cons_zero, List.getElem?_cons_succ] at y2 z0 z2
        clear R3 R5 C4 PC
        go_wp2_with fail
        go_ret
        exact ⟨rfl, LOW⟩
      refine AllReadyH.cons HO.out.2.2.2.2.2.2.2.2.2.1 (fun K hK => ?_) AllReadyH.nil
      go_simp
      have NE515 := Lib.hid (Nat.ne_of_lt PC.lt)
      have LE516 := Lib.hid LOW.size
      obtain ⟨w512, hw513, hb514, C4⟩ := alloc_new w489 Cl.zero.arr CT
      replace hw513 : w489.alloc (.cells #[.bool false, .bool false, .slice none 0 0, .bool false, .int .u64 0, .bool false, .slice none 0 0, .bool false, .int .u64 0, .bool false, .slice none 0 0, .bool false, .int .u64 0, .bool false, .slice none 0 0, .bool false, .int .u64 0, .bool false, .slice none 0 0, .bool false, .int .u64 0, .bool false, .slice none 0 0, .bool false, .int .u64 0] CT) = w512 := hw513
      replace PC := PC.later hb514
      replace R3 := R3.later hb514
      replace R5 := R5.later hb514
      replace TO := TO.later hb514
      replace LOW := LOW.trans (hb514.mono LOW.size)
      clear hb514
      rw [hw513]
      clear hw513
      try clear hHeld
      refine hK.out _ _ (⟨PC, trivial⟩) (fun hHeld => ?_)
      clear hK K
      try simp only [Act.put, List.setIfInBounds_toArray, List.set_cons_zero, List.set_cons_succ]
      refine wpAnyH_ready (rs := [4]) (by kernel_rfl) (by simp) ?_
      refine AllReadyH.cons HO.out.2.2.2.2.1 (fun K hK => ?_) AllReadyH.nil
      go_simp
      refine (ask_zero (x := X2) (d := d) (k := m) HX2.out.d HK.out.2.2.1 HK.out.2.2.2.1 HX2.out.m a_real a_fit (by decide) TO).mono ?_
      rintro e w517 ⟨tb, td, a1, n1, c1, a2, n2, c2, a3, n3, c3, rfl, -, hb518⟩
      replace PC := PC.later hb518
      replace R3 := R3.later hb518
      replace R5 := R5.later hb518
      replace C4 := C4.later hb518
      replace TO := TO.later hb518
      replace LOW := LOW.trans (hb518.mono LOW.size)
      clear hb518
      clear TO
      try clear hHeld
      refine hK.out _ _ (⟨PC, trivial⟩) (fun hHeld => ?_)
      clear hK K
      try simp only [Act.put, List.setIfInBounds_toArray, List.set_cons_zero, List.set_cons_succ]
      refine wpAnyH_take (i := 5) (v := ?v84) HO.out.2.2.2.2.2.1 (by kernel_rfl) (by kernel_rfl) (by kernel_rfl) (fun _ _ _ h => h) (Or.inl ⟨by rfl, ?hy84⟩) (by assumption) ?rest84
      case hy84 => (intro w1 hSw; (try dsimp only at hSw); obtain ⟨h0, -⟩ := hSw; go_simp; try with_reducible rfl)
      try simp only [Act.put, List.setIfInBounds_toArray, List.set_cons_zero, List.set_cons_succ]
      refine wpAnyH_take (i := 6) (v := ?v85) HO.out.2.2.2.2.2.2.1 (by kernel_rfl) (by kernel_rfl) (by kernel_rfl) (fun _ _ _ h => h) (Or.inl ⟨by rfl, ?hy85⟩) (by assumption) ?rest85
      case hy85 => (intro w1 hSw; (try dsimp only at hSw); obtain ⟨h0, -⟩ := hSw; go_simp; try with_reducible rfl)
      try simp only [Act.put, List.setIfInBounds_toArray, List.set_cons_zero, List.set_cons_succ]
      refine wpAnyH_take (i := 7) (v := ?v86) HO.out.2.2.2.2.2.2.2.1 (by kernel_rfl) (by kernel_rfl) (by kernel_rfl) (fun _ _ _ h => h) (Or.inl ⟨by rfl, ?hy86⟩) (by assumption) ?rest86
      case hy86 => (intro w1 hSw; (try dsimp only at hSw); obtain ⟨h0, -⟩ := hSw; go_simp; try with_reducible rfl)
      try simp only [Act.put, List.setIfInBounds_toArray, List.set_cons_zero, List.set_cons_succ]
      refine wpAnyH_take (i := 8) (v := ?v87) HO.out.2.2.2.2.2.2.2.2.1 (by kernel_rfl) (by kernel_rfl) (by kernel_rfl) (fun _ _ _ h => h) (Or.inl ⟨by rfl, ?hy87⟩) (by assumption) ?rest87
      case hy87 => (intro w1 hSw; (try dsimp only at hSw); obtain ⟨h0, -⟩ := hSw; go_simp; try with_reducible rfl)
      try simp only [Act.put, List.setIfInBounds_toArray, List.set_cons_zero, List.set_cons_succ]
      refine wpAnyH_ready (rs := [11]) (by kernel_rfl) (by simp) ?_
      refine AllReadyH.cons HO.out.2.2.2.2.2.2.2.2.2.2.2.1 (fun K hK => ?_) AllReadyH.nil
      rw [if_pos (by rfl)]
      refine wp_store_cl _ _ Cl.zero _ w489.heap.size rfl (by rfl) (by rfl) C4 ?_
      intro w519 p520 j521
      have mv522 := j521.blk NE515.out PC
      have mv523 := j521.blk (Blk.ne R3 C4 (by decide)) R3
      have mv524 := j521.blk (Blk.ne R5 C4 (by decide)) R5
      have mv525 := LOW.trans (j521.below LE516.out)
      replace PC := mv522
      replace R3 := mv523
      replace R5 := mv524
      replace LOW := mv525
      replace C4 := p520
      try clear hHeld
      refine hK.out _ _ (⟨PC, trivial⟩) (fun hHeld => ?_)
      clear hK K
      simp only [Act.put]
      refine wpAnyH_ready (rs := [12]) (by kernel_rfl) (by simp) ?_
      refine AllReadyH.cons HO.out.2.2.2.2.2.2.2.2.2.2.2.2.1 (fun K hK => ?_) AllReadyH.nil
      rw [if_pos (by rfl)]
      refine wp_store_rq _ _ w80.heap.size rfl (by rfl) (by rfl) R5 rfl (by rfl) (by first | (simp [Value.oneCell']; done) | simp [rq, Value.oneCell']) ?_
      intro w526 p527 j528
      have mv529 := j528.blk (Blk.ne PC R5 (by decide)) PC
      have mv530 := j528.blk NE483.out R3
      have mv531 := j528.blk (Blk.ne C4 R5 (by decide)) C4
      have mv532 := LOW.trans (j528.below LE484.out)
      replace PC := mv529
      replace R3 := mv530
      replace C4 := mv531
      replace LOW := mv532
      replace R5 := p527
      try clear hHeld
      refine hK.out _ _ (⟨PC, trivial⟩) (fun hHeld => ?_)
      clear hK K
      simp only [Act.put]
      refine wpAnyH_take (i := 13) (v := ?v88) HO.out.2.2.2.2.2.2.2.2.2.2.2.2.2 (by kernel_rfl) (by kernel_rfl) (by kernel_rfl) (fun _ _ _ h => h) (Or.inl ⟨by rfl, ?hy88⟩) (by assumption) ?rest88
      case hy88 => (intro w1 hSw; (try dsimp only at hSw); obtain ⟨h0, -⟩ := hSw; go_simp; try with_reducible rfl)
      try simp only [Act.put, List.setIfInBounds_toArray, List.set_cons_zero, List.set_cons_succ]
      refine wpAnyH_done (by kernel_rfl) ?_ _
      have y2 := R3.cell 2
      have z0 := R5.cell 0
      have z2 := R5.cell 2
      simp only [List.getElem?_toArray, List.getElem?_cons_zero, List.getElem?_cons_succ] at y2 z0 z2
      clear R3 R5 C4 PC
      go_wp2_with fail
      go_ret
      exact ⟨rfl, LOW⟩
    refine AllReadyH.cons HO.out.2.2.2.2.2.2.2.2.2.1 (fun K hK => ?_) AllReadyH.nil
    go_simp
    have NE536 := Lib.hid (Nat.ne_of_lt PC.lt)
    have LE537 := Lib.hid LOW.size
    obtain ⟨w533, hw534, hb535, C4⟩ := alloc_new w485 Cl.zero.arr CT
    replace hw534 : w485.alloc (.cells #[.bool false, .bool false, .slice none 0 0, .bool false, .int .u64 0, .bool false, .slice none 0 0, .bool false, .int .u64 0, .bool false, .slice none 0 0, .bool false, .int .u64 0, .bool false, .slice none 0 0, .bool false, .int .u64 0, .bool false, .slice none 0 0, .bool false, .int .u64 0, .bool false, .slice none 0 0, .bool false, .int .u64 0] CT) = w533 := hw534
    replace PC := PC.later hb535
    replace R3 := R3.later hb535
    replace R5 := R5.later hb535
    replace TA := TA.later hb535
    replace LOW := LOW.trans (hb535.mono LOW.size)
    clear hb535
    rw [hw534]
    clear hw534
    try clear hHeld
    refine hK.out _ _ (⟨PC, trivial⟩) (fun hHeld => ?_)
    clear hK K
    try simp only [Act.put, List.setIfInBounds_toArray, List.set_cons_zero, List.set_cons_succ]
    refine wpAnyH_ready (rs := [3]) (by kernel_rfl) (by simp) ?_
    refine AllReadyH.cons HO.out.2.2.2.1 (fun K hK => ?_) AllReadyH.nil
    go_simp
    refine (of_any (l := [[97]]) TA a_fit a_of).mono ?_
    rintro e w538 ⟨ta0, tc0, rfl, TO, hb539⟩
    replace PC := PC.later hb539
    replace R3 := R3.later hb539
    replace R5 := R5.later hb539
    replace C4 := C4.later hb539
    replace TA := TA.later hb539
    replace LOW := LOW.trans (hb539.mono LOW.size)
    clear hb539
    clear TA
    try clear hHeld
    refine hK.out _ _ (⟨PC, trivial⟩) (fun hHeld => ?_)
    clear hK K
    try simp only [Act.put, List.setIfInBounds_toArray, List.set_cons_zero, List.set_cons_succ]
    refine wpAnyH_ready (rs := [4]) (by kernel_rfl) (by simp) ?_
    refine AllReadyH.cons HO.out.2.2.2.2.1 (fun K hK => ?_) AllReadyH.nil
    go_simp
    refine (ask_zero (x := X2) (d := d) (k := m) HX2.out.d HK.out.2.2.1 HK.out.2.2.2.1 HX2.out.m a_real a_fit (by decide) TO).mono ?_
    rintro e w540 ⟨tb, td, a1, n1, c1, a2, n2, c2, a3, n3, c3, rfl, -, hb541⟩
    replace PC := PC.later hb541
    replace R3 := R3.later hb541
    replace R5 := R5.later hb541
    replace C4 := C4.later hb541
    replace TO := TO.later hb541
    replace LOW := LOW.trans (hb541.mono LOW.size)
    clear hb541
    clear TO
    try clear hHeld
    refine hK.out _ _ (⟨PC, trivial⟩) (fun hHeld => ?_)
    clear hK K
    try simp only [Act.put, List.setIfInBounds_toArray, List.set_cons_zero, List.set_cons_succ]
    refine wpAnyH_take (i := 5) (v := ?v89) HO.out.2.2.2.2.2.1 (by kernel_rfl) (by kernel_rfl) (by kernel_rfl) (fun _ _ _ h => h) (Or.inl ⟨by rfl, ?hy89⟩) (by assumption) ?rest89
    case hy89 => (intro w1 hSw; (try dsimp only at hSw); obtain ⟨h0, -⟩ := hSw; go_simp; try with_reducible rfl)
    try simp only [Act.put, List.setIfInBounds_toArray, List.set_cons_zero, List.set_cons_succ]
    refine wpAnyH_take (i := 6) (v := ?v90) HO.out.2.2.2.2.2.2.1 (by kernel_rfl) (by kernel_rfl) (by kernel_rfl) (fun _ _ _ h => h) (Or.inl ⟨by rfl, ?hy90⟩) (by assumption) ?rest90
    case hy90 => (intro w1 hSw; (try dsimp only at hSw); obtain ⟨h0, -⟩ := hSw; go_simp; try with_reducible rfl)
    try simp only [Act.put, List.setIfInBounds_toArray, List.set_cons_zero, List.set_cons_succ]
    refine wpAnyH_take (i := 7) (v := ?v91) HO.out.2.2.2.2.2.2.2.1 (by kernel_rfl) (by kernel_rfl) (by kernel_rfl) (fun _ _ _ h => h) (Or.inl ⟨by rfl, ?hy91⟩) (by assumption) ?rest91
    case hy91 => (intro w1 hSw; (try dsimp only at hSw); obtain ⟨h0, -⟩ := hSw; go_simp; try with_reducible rfl)
    try simp only [Act.put, List.setIfInBounds_toArray, List.set_cons_zero, List.set_cons_succ]
    refine wpAnyH_take (i := 8) (v := ?v92) HO.out.2.2.2.2.2.2.2.2.1 (by kernel_rfl) (by kernel_rfl) (by kernel_rfl) (fun _ _ _ h => h) (Or.inl ⟨by rfl, ?hy92⟩) (by assumption) ?rest92
    case hy92 => (intro w1 hSw; (try dsimp only at hSw); obtain ⟨h0, -⟩ := hSw; go_simp; try with_reducible rfl)
    try simp only [Act.put, List.setIfInBounds_toArray, List.set_cons_zero, List.set_cons_succ]
    refine wpAnyH_ready (rs := [11]) (by kernel_rfl) (by simp) ?_
    refine AllReadyH.cons HO.out.2.2.2.2.2.2.2.2.2.2.2.1 (fun K hK => ?_) AllReadyH.nil
    rw [if_pos (by rfl)]
    refine wp_store_cl _ _ Cl.zero _ w485.heap.size rfl (by rfl) (by rfl) C4 ?_
    intro w542 p543 j544
    have mv545 := j544.blk NE536.out PC
    have mv546 := j544.blk (Blk.ne R3 C4 (by decide)) R3
    have mv547 := j544.blk (Blk.ne R5 C4 (by decide)) R5
    have mv548 := LOW.trans (j544.below LE537.out)
    replace PC := mv545
    replace R3 := mv546
    replace R5 := mv547
    replace LOW := mv548
    replace C4 := p543
    try clear hHeld
    refine hK.out _ _ (⟨PC, trivial⟩) (fun hHeld => ?_)
    clear hK K
    simp only [Act.put]
    refine wpAnyH_ready (rs := [12]) (by kernel_rfl) (by simp) ?_
    refine AllReadyH.cons HO.out.2.2.2.2.2.2.2.2.2.2.2.2.1 (fun K hK => ?_) AllReadyH.nil
    rw [if_pos (by rfl)]
    refine wp_store_rq _ _ w80.heap.size rfl (by rfl) (by rfl) R5 rfl (by rfl) (by first | (simp [Value.oneCell']; done) | simp [rq, Value.oneCell']) ?_
    intro w549 p550 j551
    have mv552 := j551.blk (Blk.ne PC R5 (by decide)) PC
    have mv553 := j551.blk NE483.out R3
    have mv554 := j551.blk (Blk.ne C4 R5 (by decide)) C4
    have mv555 := LOW.trans (j551.below LE484.out)
    replace PC := mv552
    replace R3 := mv553
    replace C4 := mv554
    replace LOW := mv555
    replace R5 := p550
    try clear hHeld
    refine hK.out _ _ (⟨PC, trivial⟩) (fun hHeld => ?_)
    clear hK K
    simp only [Act.put]
    refine wpAnyH_take (i := 13) (v := ?v93) HO.out.2.2.2.2.2.2.2.2.2.2.2.2.2 (by kernel_rfl) (by kernel_rfl) (by kernel_rfl) (fun _ _ _ h => h) (Or.inl ⟨by rfl, ?hy93⟩) (by assumption) ?rest93
    case hy93 => (intro w1 hSw; (try dsimp only at hSw); obtain ⟨h0, -⟩ := hSw; go_simp; try with_reducible rfl)
    try simp only [Act.put, List.setIfInBounds_toArray, List.set_cons_zero, List.set_cons_succ]
    refine wpAnyH_done (by kernel_rfl) ?_ _
    have y2 := R3.cell 2
    have z0 := R5.cell 0
    have z2 := R5.cell 2
    simp only [List.getElem?_toArray, List.getElem?_cons_zero, List.getElem?_cons_succ] at y2 z0 z2
    clear R3 R5 C4 PC
    go_wp2_with fail
    go_ret
    exact ⟨rfl, LOW⟩
  refine AllReadyH.cons HO.out.2.2.2.2.2.2.2.2.2.1 (fun K hK => ?_) AllReadyH.nil
  go_simp
  have NE559 := Lib.hid (Nat.ne_of_lt PC.lt)
  have LE560 := Lib.hid LOW.size
  obtain ⟨w556, hw557, hb558, C4⟩ := alloc_new w480 Cl.zero.arr CT
  replace hw557 : w480.alloc (.cells #[.bool false, .bool false, .slice none 0 0, .bool false, .int .u64 0, .bool false, .slice none 0 0, .bool false, .int .u64 0, .bool false, .slice none 0 0, .bool false, .int .u64 0, .bool false, .slice none 0 0, .bool false, .int .u64 0, .bool false, .slice none 0 0, .bool false, .int .u64 0, .bool false, .slice none 0 0, .bool false, .int .u64 0] CT) = w556 := hw557
  replace PC := PC.later hb558
  replace R3 := R3.later hb558
  replace R5 := R5.later hb558
  replace LOW := LOW.trans (hb558.mono LOW.size)
  clear hb558
  rw [hw557]
  clear hw557
  try clear hHeld
  refine hK.out _ _ (⟨PC, trivial⟩) (fun hHeld => ?_)
  clear hK K
  try simp only [Act.put, List.setIfInBounds_toArray, List.set_cons_zero, List.set_cons_succ]
  refine wpAnyH_ready (rs := [2]) (by kernel_rfl) (by simp) ?_
  refine AllReadyH.cons HO.out.2.2.1 (fun K hK => ?_) AllReadyH.nil
  go_simp
  have LE564 := Lib.hid LOW.size
  obtain ⟨w561, hw562, hb563, QA⟩ := alloc_new w556 #[.string ⟨#[97]⟩] 9
  replace PC := PC.later hb563
  replace R3 := R3.later hb563
  replace R5 := R5.later hb563
  replace C4 := C4.later hb563
  replace LOW := LOW.trans (hb563.mono LOW.size)
  clear hb563
  have TA : TsAt w561 _ [[97]] := ts_block (l := [[97]]) QA (by decide) rfl
  rw [hw562]
  clear hw562 QA
  try clear hHeld
  refine hK.out _ _ (⟨PC, trivial⟩) (fun hHeld => ?_)
  clear hK K
  try simp only [Act.put, List.setIfInBounds_toArray, List.set_cons_zero, List.set_cons_succ]
  refine wpAnyH_ready (rs := [3]) (by kernel_rfl) (by simp) ?_
  refine AllReadyH.cons HO.out.2.2.2.1 (fun K hK => ?_) AllReadyH.nil
  go_simp
  refine (of_any (l := [[97]]) TA a_fit a_of).mono ?_
  rintro e w565 ⟨ta0, tc0, rfl, TO, hb566⟩
  replace PC := PC.later hb566
  replace R3 := R3.later hb566
  replace R5 := R5.later hb566
  replace C4 := C4.later hb566
  replace TA := TA.later hb566
  replace LOW := LOW.trans (hb566.mono LOW.size)
  clear hb566
  clear TA
  try clear hHeld
  refine hK.out _ _ (⟨PC, trivial⟩) (fun hHeld => ?_)
  clear hK K
  try simp only [Act.put, List.setIfInBounds_toArray, List.set_cons_zero, List.set_cons_succ]
  refine wpAnyH_ready (rs := [4]) (by kernel_rfl) (by simp) ?_
  refine AllReadyH.cons HO.out.2.2.2.2.1 (fun K hK => ?_) AllReadyH.nil
  go_simp
  refine (ask_zero (x := X2) (d := d) (k := m) HX2.out.d HK.out.2.2.1 HK.out.2.2.2.1 HX2.out.m a_real a_fit (by decide) TO).mono ?_
  rintro e w567 ⟨tb, td, a1, n1, c1, a2, n2, c2, a3, n3, c3, rfl, -, hb568⟩
  replace PC := PC.later hb568
  replace R3 := R3.later hb568
  replace R5 := R5.later hb568
  replace C4 := C4.later hb568
  replace TO := TO.later hb568
  replace LOW := LOW.trans (hb568.mono LOW.size)
  clear hb568
  clear TO
  try clear hHeld
  refine hK.out _ _ (⟨PC, trivial⟩) (fun hHeld => ?_)
  clear hK K
  try simp only [Act.put, List.setIfInBounds_toArray, List.set_cons_zero, List.set_cons_succ]
  refine wpAnyH_take (i := 5) (v := ?v94) HO.out.2.2.2.2.2.1 (by kernel_rfl) (by kernel_rfl) (by kernel_rfl) (fun _ _ _ h => h) (Or.inl ⟨by rfl, ?hy94⟩) (by assumption) ?rest94
  case hy94 => (intro w1 hSw; (try dsimp only at hSw); obtain ⟨h0, -⟩ := hSw; go_simp; try with_reducible rfl)
  try simp only [Act.put, List.setIfInBounds_toArray, List.set_cons_zero, List.set_cons_succ]
  refine wpAnyH_take (i := 6) (v := ?v95) HO.out.2.2.2.2.2.2.1 (by kernel_rfl) (by kernel_rfl) (by kernel_rfl) (fun _ _ _ h => h) (Or.inl ⟨by rfl, ?hy95⟩) (by assumption) ?rest95
  case hy95 => (intro w1 hSw; (try dsimp only at hSw); obtain ⟨h0, -⟩ := hSw; go_simp; try with_reducible rfl)
  try simp only [Act.put, List.setIfInBounds_toArray, List.set_cons_zero, List.set_cons_succ]
  refine wpAnyH_take (i := 7) (v := ?v96) HO.out.2.2.2.2.2.2.2.1 (by kernel_rfl) (by kernel_rfl) (by kernel_rfl) (fun _ _ _ h => h) (Or.inl ⟨by rfl, ?hy96⟩) (by assumption) ?rest96
  case hy96 => (intro w1 hSw; (try dsimp only at hSw); obtain ⟨h0, -⟩ := hSw; go_simp; try with_reducible rfl)
  try simp only [Act.put, List.setIfInBounds_toArray, List.set_cons_zero, List.set_cons_succ]
  refine wpAnyH_take (i := 8) (v := ?v97) HO.out.2.2.2.2.2.2.2.2.1 (by kernel_rfl) (by kernel_rfl) (by kernel_rfl) (fun _ _ _ h => h) (Or.inl ⟨by rfl, ?hy97⟩) (by assumption) ?rest97
  case hy97 => (intro w1 hSw; (try dsimp only at hSw); obtain ⟨h0, -⟩ := hSw; go_simp; try with_reducible rfl)
  try simp only [Act.put, List.setIfInBounds_toArray, List.set_cons_zero, List.set_cons_succ]
  refine wpAnyH_ready (rs := [11]) (by kernel_rfl) (by simp) ?_
  refine AllReadyH.cons HO.out.2.2.2.2.2.2.2.2.2.2.2.1 (fun K hK => ?_) AllReadyH.nil
  rw [if_pos (by rfl)]
  refine wp_store_cl _ _ Cl.zero _ w480.heap.size rfl (by rfl) (by rfl) C4 ?_
  intro w569 p570 j571
  have mv572 := j571.blk NE559.out PC
  have mv573 := j571.blk (Blk.ne R3 C4 (by decide)) R3
  have mv574 := j571.blk (Blk.ne R5 C4 (by decide)) R5
  have mv575 := LOW.trans (j571.below LE560.out)
  replace PC := mv572
  replace R3 := mv573
  replace R5 := mv574
  replace LOW := mv575
  replace C4 := p570
  try clear hHeld
  refine hK.out _ _ (⟨PC, trivial⟩) (fun hHeld => ?_)
  clear hK K
  simp only [Act.put]
  refine wpAnyH_ready (rs := [12]) (by kernel_rfl) (by simp) ?_
  refine AllReadyH.cons HO.out.2.2.2.2.2.2.2.2.2.2.2.2.1 (fun K hK => ?_) AllReadyH.nil
  rw [if_pos (by rfl)]
  refine wp_store_rq _ _ w80.heap.size rfl (by rfl) (by rfl) R5 rfl (by rfl) (by first | (simp [Value.oneCell']; done) | simp [rq, Value.oneCell']) ?_
  intro w576 p577 j578
  have mv579 := j578.blk (Blk.ne PC R5 (by decide)) PC
  have mv580 := j578.blk NE483.out R3
  have mv581 := j578.blk (Blk.ne C4 R5 (by decide)) C4
  have mv582 := LOW.trans (j578.below LE484.out)
  replace PC := mv579
  replace R3 := mv580
  replace C4 := mv581
  replace LOW := mv582
  replace R5 := p577
  try clear hHeld
  refine hK.out _ _ (⟨PC, trivial⟩) (fun hHeld => ?_)
  clear hK K
  simp only [Act.put]
  refine wpAnyH_take (i := 13) (v := ?v98) HO.out.2.2.2.2.2.2.2.2.2.2.2.2.2 (by kernel_rfl) (by kernel_rfl) (by kernel_rfl) (fun _ _ _ h => h) (Or.inl ⟨by rfl, ?hy98⟩) (by assumption) ?rest98
  case hy98 => (intro w1 hSw; (try dsimp only at hSw); obtain ⟨h0, -⟩ := hSw; go_simp; try with_reducible rfl)
  try simp only [Act.put, List.setIfInBounds_toArray, List.set_cons_zero, List.set_cons_succ]
  refine wpAnyH_done (by kernel_rfl) ?_ _
  have y2 := R3.cell 2
  have z0 := R5.cell 0
  have z2 := R5.cell 2
  simp only [List.getElem?_toArray, List.getElem?_cons_zero, List.getElem?_cons_succ] at y2 z0 z2
  clear R3 R5 C4 PC
  go_wp2_with fail
  go_ret
  exact ⟨rfl, LOW⟩
end Go.Proofs.YtdcfdcjgheijcaaDoor
