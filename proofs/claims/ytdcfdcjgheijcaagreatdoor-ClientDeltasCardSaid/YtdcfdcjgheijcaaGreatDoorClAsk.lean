/- client: Ask. -/
import Derived.Test.YtdcfdcjgheijcaaGreatDoorClChk
import Derived.Test.YtdcfdcjgheijcaaGreatDoorClRight
namespace Go.Proofs.YtdcfdcjgheijcaaGreatDoor
open Go.RowKit Go.Lib

theorem cl_no (x : Cl) (l : List (List UInt8)) : ∀ u ∈ x.arr.toList, ∀ s ∈ l, u ≠ encStr s := by
  intro u hu s _
  simp [Cl.arr] at hu
  rcases hu with rfl | rfl | rfl | rfl | rfl | rfl | rfl | rfl | rfl | rfl | rfl | rfl | rfl | rfl | rfl | rfl | rfl | rfl | rfl | rfl | rfl | rfl | rfl | rfl | rfl <;> simp [encStr]
theorem set_no (b : Bool) (a : Option Addr) (n c : Nat) (l : List (List UInt8)) : ∀ u ∈ (#[.bool b, .slice a n c] : Array Value).toList, ∀ s ∈ l, u ≠ encStr s := by
  intro u hu s _
  simp at hu
  rcases hu with rfl | rfl <;> simp [encStr]
theorem rq0_no {l : List (List UInt8)} (h : ∀ x ∈ l, x ≠ []) : ∀ u ∈ rq0.toList, ∀ s ∈ l, u ≠ encStr s := by
  intro u hu s hs
  have := h s hs
  simp at hu
  rcases hu with rfl | rfl | rfl | rfl | rfl <;> simp [encStr]
  all_goals (cases s <;> simp_all)
theorem Cl.arr_asked (x : Cl) (ua : Bool) (ta : Option Addr) (tc : Nat) (ul : List (List UInt8)) {k : Nat} (h : k < 6) : ((x.arr.setIfInBounds (1 + k * 4) (.bool ua)).setIfInBounds (1 + k * 4 + 1) (.slice ta ul.length tc)).setIfInBounds (1 + k * 4 + 2) (.bool true) = (x.set ⟨ua, ta, tc, ul, true, (x.get k).q⟩ k).arr := by
  match k with
  | 0 | 1 | 2 | 3 | 4 | 5 => rfl
  | k + 6 => omega
theorem Cl.size_arr (x : Cl) : x.arr.size = 25 := rfl
theorem exec_load_cl {o : Oper} {a : Act} {w : World} (x : Operand) (c : Cl) (b : Nat) (ho : o.op = .load CT x) (hx : a.eval x = .pointer (some ⟨b, 0, none⟩)) (hb : Blk w b c.arr CT) : (execOp a.eval o).run Tryz.prog w = .ok (.value (.agg c.arr)) w := by
  unfold execOp
  simp only [ho, hx, Instr.loadAt, Instr.sureAddr, Sem.run_bind, Sem.run_pure, Result.andThen_ok, run_load_cl c b hb]
theorem exec_load_rq {o : Oper} {a : Act} {w : World} (x : Operand) (b : Nat) {cs : Array Value} (ho : o.op = .load RT x) (hx : a.eval x = .pointer (some ⟨b, 0, none⟩)) (hb : Blk w b cs RT) (hz : cs.size = 7) : (execOp a.eval o).run Tryz.prog w = .ok (.value (.agg cs)) w := by
  unfold execOp
  simp only [ho, hx, Instr.loadAt, Instr.sureAddr, Sem.run_bind, Sem.run_pure, Result.andThen_ok, run_load_rq hb hz]
theorem Tryz.resAsk : Tryz.f25.results = #[.cell 8 CT, .cell 9 RT, .tmp 10] := rfl
def Cl.zero : Cl := Cl.new false
theorem Ge.just {b : Nat} {w w' : World} (h : Ge w) (hb : 4 < b) (hj : Just b w w') : Ge w' := by
  refine ⟨?_, by rw [hj.size]; exact h.2⟩
  rw [← h.1]
  unfold World.cell?
  rw [hj.block _ (Nat.ne_of_lt hb)]
theorem ok_ne {x : List UInt8} (h : okN x = true) : x ≠ [] := by
  rintro rfl
  exact absurd h (by decide)
theorem of_ne {LW ul : List (List UInt8)} {ua : Bool} (he : nOf okN LW = ⟨ua, ul⟩) : ∀ x ∈ ul, x ≠ [] := by
  intro x hx
  have e : ul = (nOf okN LW).ns := by rw [he]
  rw [e] at hx
  exact ok_ne ((mem_of okN LW x).1 hx).2
/-- What is asked for, and what there is to say of it. -/
structure AskIs (x : Cl) (k n : Nat) (want nu : Ns) (LW L S U : List (List UInt8)) (B V : Bool) : Prop where
  h1 : 1 ≤ k
  h5 : k ≤ 5
  lw : nList want = LW
  fw : NmFit LW
  of : nOf okN LW = nu
  l : nList nu = L
  sub : turnS x.d nu ⟨(x.get k).all, (x.get k).l⟩ = S
  uns : turnU x.d nu ⟨(x.get k).all, (x.get k).l⟩ = U
  ft : NmFit (x.get k).l
  z1 : (LW.length + 1) * 16 ≤ 140737488355328
  z2 : ((x.get k).l.length + 1) * 16 ≤ 140737488355328
  b : ((x.get k).op && nSame ⟨(x.get k).all, (x.get k).l⟩ nu) = B
  v : ([(L.length : Int), (S.length : Int), (U.length : Int), (n : Int)].any fun y => decide (64 < y)) = V

set_option maxRecDepth 100000 in
set_option maxHeartbeats 8000000 in
/-- Ask, where something stands in the way. -/
theorem ask_err {x : Cl} {k n : Nat} {wa ua B V : Bool} {wl ul LW L S U : List (List UInt8)} {a b : Option Addr} {c d : Nat} {w : World} (hi : AskIs x k n ⟨wa, wl⟩ ⟨ua, ul⟩ LW L S U B V) (hw : TsAt w (.slice a wl.length c) wl) (hT : (x.get k).At w) (hBV : (B || V) = true) (hg : Ge w) :
    Calls Tryz.prog 25 #[x.v, .int .i64 (k : Int), .agg #[.bool wa, .slice a wl.length c], .slice b n d] w fun e w' => e = .returned (.tuple #[x.v, .agg rq0, .int .i64 (if B then 5 else 4)]) ∧ Below w.heap.size w w' := by
  obtain ⟨N', s', hN⟩ : ∃ N' s', askErr k B V = fU k N' s' ∧ N' = (if B then 5 else 4) := by
    cases B with
    | true => exact ⟨5, sSame, rfl, rfl⟩
    | false => cases V with
      | true => exact ⟨4, sMany, rfl, rfl⟩
      | false => cases hBV
  rw [← hN.2]
  have hNa := hN.1
  clear hN
  obtain ⟨v0, hv0, hb0, p0, z0⟩ := alloc_sized w x.arr CT
  obtain ⟨v1, hv1, hb1, p1, z1⟩ := alloc_sized v0 #[.bool wa, .slice a wl.length c] 26
  obtain ⟨v2, hv2, hb2, p2, z2⟩ := alloc_sized v1 Cl.zero.arr CT
  obtain ⟨v3, hv3, hb3, p3, z3⟩ := alloc_sized v2 rq0 RT
  have hb23 := hb2.trans (hb3.mono hb2.size)
  have hb13 := hb1.trans (hb23.mono hb1.size)
  have hbw := hb0.trans (hb13.mono hb0.size)
  have s0 := (p1.later hb23).cell 0
  have s1 := (p1.later hb23).cell 1
  simp only [List.getElem?_toArray, List.getElem?_cons_zero, List.getElem?_cons_succ] at s0 s1
  have HV0 := Lib.hid hv0
  have HV1 := Lib.hid hv1
  have hv2' : v1.alloc (.cells #[.bool false, .bool false, .slice none 0 0, .bool false, .int .u64 0, .bool false, .slice none 0 0, .bool false, .int .u64 0, .bool false, .slice none 0 0, .bool false, .int .u64 0, .bool false, .slice none 0 0, .bool false, .int .u64 0, .bool false, .slice none 0 0, .bool false, .int .u64 0, .bool false, .slice none 0 0, .bool false, .int .u64 0] CT) = v2 := hv2
  have HV2 := Lib.hid hv2'
  have HV3 := Lib.hid hv3
  have HZ := Lib.hid (And.intro z0 (And.intro z1 (And.intro z2 z3)))
  have HP := Lib.hid (And.intro (p0.later hb13) (And.intro (p1.later hb23) (And.intro (p2.later hb3) (And.intro p3 (And.intro hbw (hw.later hbw))))))
  have HT := Lib.hid hT
  have HI := Lib.hid hi
  clear hv0 hv1 hv2 hv2' hv3 hb0 hb1 hb2 hb3 hb23 hb13 hbw p0 p1 p2 p3 z0 z1 z2 z3 hw hT hi
  go_enter Tryz.func25, Tryz.ntmps25
  go_wp2_with (first | rw [HV0.out] | rw [HV1.out] | rw [HV2.out] | rw [HV3.out])
  refine (list_up HP.out.2.2.2.2.2 HI.out.lw (by have := HI.out.z1; omega)).mono ?_
  rintro e v4 ⟨a4, c4, rfl, ⟨ht4, -⟩, hb4⟩
  have HL4 := Lib.hid (And.intro ht4 hb4)
  clear ht4 hb4
  go_wp2_with fail
  refine (of_any HL4.out.1 HI.out.fw HI.out.of).mono ?_
  rintro e v5 ⟨ta, tc, rfl, ht5, hb5⟩
  have hb35 := HL4.out.2.trans (hb5.mono HL4.out.2.size)
  have p5 := HP.out.2.1.later hb35
  obtain ⟨v6, hv6, p6, j6⟩ := set_new p5 0 (.bool ua)
  obtain ⟨v7, hv7, p7, j7⟩ := set_new p6 1 (.slice ta ul.length tc)
  have p6' : Blk v6 v0.heap.size #[.bool ua, .slice a wl.length c] 26 := p6
  have p7' : Blk v7 v0.heap.size #[.bool ua, .slice ta ul.length tc] 26 := p7
  have e0 := p5.cell 0
  have f0 := p5.frozen 0
  have e1 := p5.cell 1
  have f1 := p5.frozen 1
  have g0 := p7'.cell 0
  have g1 := p7'.cell 1
  simp only [List.getElem?_toArray, List.getElem?_cons_zero, List.getElem?_cons_succ] at e0 e1 g0 g1
  have hz := HZ.out
  have hs35 := hb35.size
  have hT7 := j7.ts p6' (set_no _ _ _ _ _) (j6.ts p5 (set_no _ _ _ _ _) ht5)
  have Q0 := j7.blk (k := w.heap.size) (by omega) (j6.blk (by omega) (HP.out.1.later hb35))
  have Q2 := j7.blk (k := v1.heap.size) (by omega) (j6.blk (by omega) (HP.out.2.2.1.later hb35))
  have Q3 := j7.blk (k := v2.heap.size) (by omega) (j6.blk (by omega) (HP.out.2.2.2.1.later hb35))
  have hB7 : Below w.heap.size w v7 := ((HP.out.2.2.2.2.1.trans (hb35.mono (by omega))).trans (j6.below (by omega))).trans (j7.below (by omega))
  have hsz : v3.heap.size ≤ v7.heap.size := by rw [j7.size, j6.size]; exact hs35
  have HV6 := Lib.hid hv6
  have HV7 := Lib.hid hv7
  have HX := Lib.hid (And.intro Q0 (And.intro p7' (And.intro Q2 (And.intro Q3 (And.intro hT7 (And.intro hB7 hsz))))))
  clear hv6 hv7 p5 p6 p6' p7 p7' j6 j7 Q0 Q2 Q3 hT7 hB7 hsz hz hs35 hb35 hb5 ht5
  have HC := Lib.hid (chkAsk_any (x := x) (n := n) (b := b) (d := d) HI.out.h1 HI.out.h5 rfl rfl HX.out.2.2.2.2.1 (HT.out.later HX.out.2.2.2.2.2.1) (of_fit HI.out.fw HI.out.of).1 HI.out.ft HI.out.l HI.out.sub HI.out.uns (by have := (of_fit HI.out.fw HI.out.of).2; have := HI.out.z1; omega) HI.out.z2 HI.out.b HI.out.v)
  dsimp only
  go_wp2_with (first | rw [HV6.out] | rw [HV7.out] | (refine wpList_load_cl _ x w.heap.size rfl rfl (by rfl) HX.out.1 ?_; simp only [Act.put, List.setIfInBounds_toArray, List.set_cons_zero, List.set_cons_succ]))
  refine HC.out.mono ?_
  rintro e v8 ⟨rfl, hb8⟩
  have Q0 := HX.out.1.later hb8
  have Q1 := HX.out.2.1.later hb8
  have Q2 := HX.out.2.2.1.later hb8
  have Q3 := HX.out.2.2.2.1.later hb8
  have hT8 := HX.out.2.2.2.2.1.later hb8
  have hB8 := HX.out.2.2.2.2.2.1.trans (hb8.mono HX.out.2.2.2.2.2.1.size)
  have hsz : v3.heap.size ≤ v8.heap.size := Nat.le_trans HX.out.2.2.2.2.2.2 hb8.size
  have m0 := Q1.cell 0
  have m1 := Q1.cell 1
  simp only [List.getElem?_toArray, List.getElem?_cons_zero, List.getElem?_cons_succ] at m0 m1
  dsimp only
  rw [hNa]
  have hG8 := hg.later hB8
  have hgl := hg.2
  clear hNa hg hBV
  go_wp2_with fail
  obtain ⟨w201, hw202, hb203⟩ := drew_new v8
  have q204 := hB8.trans (hb203.mono hB8.size)
  have q205 := Q0.later hb203
  have q206 := Q2.later hb203
  have q207 := Q3.later hb203
  have q208 := hG8.later hb203
  refine wp_region_held_drew (S := (fun w' => Blk w' w.heap.size x.arr CT ∧ True)) (by kernel_rfl) (by rw [hw202]; exact ⟨q205, trivial⟩) (fun hHeld => ?_)
  rw [hw202] at hHeld ⊢
  refine wpAnyH_take (i := 0) (oi := { dst := some 23, op := Op.load 72 (Operand.tmp 4), type := 72, pos := "client.go:30", after := #[], guard := none }) (v := .agg x.arr) rfl (by kernel_rfl) (by kernel_rfl) (by kernel_rfl) (fun _ _ _ h => h) (Or.inl ⟨by rfl, ?hy1⟩) (by assumption) ?rest1
  case hy1 => (intro w1 hSw; (try dsimp only at hSw); obtain ⟨h0, -⟩ := hSw; (apply exec_load_cl; (· rfl); (· rfl); exact h0))
  try simp only [Act.put, List.setIfInBounds_toArray, List.set_cons_zero, List.set_cons_succ]
  refine wpAnyH_take (i := 1) (oi := { dst := some 24, op := Op.build 45 #[], type := 45, pos := "client.go:30", after := #[{ on := 4, ground := Ground.gcOnly Departure.lateStores }], guard := none }) (v := ?v2) rfl (by kernel_rfl) (by kernel_rfl) (by kernel_rfl) (fun _ _ _ h => h) (Or.inl ⟨by rfl, ?hy2⟩) (by assumption) ?rest2
  case hy2 => (intro w1 hSw; (try dsimp only at hSw); obtain ⟨h0, -⟩ := hSw; go_simp; try with_reducible rfl)
  try simp only [Act.put, List.setIfInBounds_toArray, List.set_cons_zero, List.set_cons_succ]
  refine wpAnyH_take (i := 2) (oi := { dst := some 25, op := Op.move (Operand.tmp 11), type := 86, pos := "client.go:30", after := #[], guard := none }) (v := ?v3) rfl (by kernel_rfl) (by kernel_rfl) (by kernel_rfl) (fun _ _ _ h => h) (Or.inl ⟨by rfl, ?hy3⟩) (by assumption) ?rest3
  case hy3 => (intro w1 hSw; (try dsimp only at hSw); obtain ⟨h0, -⟩ := hSw; go_simp; try with_reducible rfl)
  try simp only [Act.put, List.setIfInBounds_toArray, List.set_cons_zero, List.set_cons_succ]
  refine wpAnyH_ready (rs := [3]) (by kernel_rfl) (by simp) ?_
  refine AllReadyH.cons (o := { dst := some 26, op := Op.call { callee := Callee.value (Operand.func 51), args := #[Operand.tmp 25], argTypes := #[86] }, type := 40, pos := "client.go:30", after := #[{ on := 2, ground := Ground.data }], guard := none }) rfl (fun K hK => ?_) AllReadyH.nil
  go_simp
  refine (errno_UD q208).mono ?_
  rintro e w209 ⟨rfl, hb210⟩
  have q211 := q204.trans (hb210.mono q204.size)
  have q212 := q205.later hb210
  have q213 := q206.later hb210
  have q214 := q207.later hb210
  have q215 := q208.later hb210
  refine hK.out _ _ (⟨q212, trivial⟩) (fun hHeld => ?_)
  clear hK K
  try simp only [Act.put, List.setIfInBounds_toArray, List.set_cons_zero, List.set_cons_succ]
  refine wpAnyH_ready (rs := [4]) (by kernel_rfl) (by simp) ?_
  refine AllReadyH.cons (o := { dst := none, op := Op.store 72 (Operand.tmp 8) (Operand.tmp 23), type := 0, pos := "client.go:30", after := #[{ on := 0, ground := Ground.data }, { on := 3, ground := Ground.chain }, { on := 0, ground := Ground.phase }, { on := 1, ground := Ground.textOnly Departure.lateStores }, { on := 2, ground := Ground.textOnly Departure.lateStores }, { on := 3, ground := Ground.textOnly Departure.lateStoresUnsure }], guard := none }) rfl (fun K hK => ?_) AllReadyH.nil
  rw [if_pos (by rfl)]
  refine wp_store_cl _ _ Cl.zero x v1.heap.size rfl (by rfl) (by rfl) q213 ?_
  intro w216 p217 j218
  have q220 := j218.blk (by have := HZ.out; have := HZ.out; omega) q212
  have q221 := j218.blk (by have := HZ.out; have := HZ.out; omega) q214
  have q222 := q215.just (by have := HZ.out; omega) j218
  have q223 := q211.trans (j218.below (by have := HZ.out; omega))
  refine hK.out _ _ (⟨q220, trivial⟩) (fun hHeld => ?_)
  clear hK K
  try simp only [Act.put, List.setIfInBounds_toArray, List.set_cons_zero, List.set_cons_succ]
  refine wpAnyH_ready (rs := [5]) (by kernel_rfl) (by simp) ?_
  refine AllReadyH.cons (o := { dst := none, op := Op.store 45 (Operand.tmp 9) (Operand.tmp 24), type := 0, pos := "client.go:30", after := #[{ on := 1, ground := Ground.data }, { on := 4, ground := Ground.chain }, { on := 0, ground := Ground.phase }, { on := 1, ground := Ground.phase }, { on := 2, ground := Ground.textOnly Departure.lateStores }, { on := 3, ground := Ground.textOnly Departure.lateStoresUnsure }, { on := 4, ground := Ground.phase }], guard := none }) rfl (fun K hK => ?_) AllReadyH.nil
  rw [if_pos (by rfl)]
  refine wp_store_rq _ _ v2.heap.size rfl (by rfl) (by rfl) q221 rfl (by rfl) (by simp [rq, Value.oneCell']) ?_
  intro w224 p225 j226
  have q228 := j226.blk (by have := HZ.out; have := HZ.out; omega) q220
  have q229 := j226.blk (by have := HZ.out; have := HZ.out; omega) p217
  have q230 := q222.just (by have := HZ.out; omega) j226
  have q231 := q223.trans (j226.below (by have := HZ.out; omega))
  refine hK.out _ _ (⟨q228, trivial⟩) (fun hHeld => ?_)
  clear hK K
  try simp only [Act.put, List.setIfInBounds_toArray, List.set_cons_zero, List.set_cons_succ]
  refine wpAnyH_take (i := 6) (oi := { dst := some 10, op := Op.assign (Operand.tmp 26), type := 40, pos := "client.go:30", after := #[{ on := 3, ground := Ground.data }, { on := 5, ground := Ground.chain }, { on := 0, ground := Ground.phase }, { on := 1, ground := Ground.phase }, { on := 2, ground := Ground.phase }, { on := 3, ground := Ground.phase }, { on := 4, ground := Ground.phase }, { on := 5, ground := Ground.phase }], guard := none }) (v := ?v4) rfl (by kernel_rfl) (by kernel_rfl) (by kernel_rfl) (fun _ _ _ h => h) (Or.inl ⟨by rfl, ?hy4⟩) (by assumption) ?rest4
  case hy4 => (intro w1 hSw; (try dsimp only at hSw); obtain ⟨h0, -⟩ := hSw; go_simp; try with_reducible rfl)
  try simp only [Act.put, List.setIfInBounds_toArray, List.set_cons_zero, List.set_cons_succ]
  refine wpAnyH_done (by kernel_rfl) ?_ _
  go_wp2_with fail
  have hl1 := run_load_cl _ _ q229
  have hl2 := run_load_rq p225 rfl
  refine bodyPost_ret (v := .tuple #[x.v, .agg rq0, .int .i64 N']) (by simp [results, Tryz.resAsk, hl1, hl2, asAddr]) rfl ⟨rfl, q231⟩

def AskPost (x : Cl) (k : Nat) (ua : Bool) (ul S U : List (List UInt8)) (m : Nat) (w : World) (e : Ending) (w' : World) : Prop := ∃ ta tc a1 c1 a2 c2 a3 c3, e = .returned (.tuple #[(x.set ⟨ua, ta, tc, ul, true, (x.get k).q⟩ k).v, .agg (rq k x.d (if x.d then 0 else (x.get k).q) (.slice a1 S.length c1) (.slice a2 U.length c2) (.slice a3 m c3) ⟨#[]⟩), .int .i64 0])
  ∧ TsAt w' (.slice ta ul.length tc) ul ∧ TsAt w' (.slice a1 S.length c1) S ∧ TsAt w' (.slice a2 U.length c2) U ∧ Below w.heap.size w w'
set_option maxRecDepth 100000 in
set_option maxHeartbeats 8000000 in
/-- Ask, where nothing stands in the way. -/
theorem ask_ok {x : Cl} {k n m : Nat} {wa ua : Bool} {wl ul LW L S U : List (List UInt8)} {a b : Option Addr} {c d : Nat} {hs : List Hv} {w : World} (hi : AskIs x k n ⟨wa, wl⟩ ⟨ua, ul⟩ LW L S U false false) (hw : TsAt w (.slice a wl.length c) wl) (hT : (x.get k).At w) (hh : HvAt w b hs) (hl : hs.length = n) (hn : n ≤ 1000000) (hm : tells x.d (x.get k).op ⟨ua, ul⟩ hs = m) :
    Calls Tryz.prog 25 #[x.v, .int .i64 (k : Int), .agg #[.bool wa, .slice a wl.length c], .slice b n d] w (AskPost x k ua ul S U m w) := by
  have HH := Lib.hid (And.intro hh (And.intro hl hm))
  clear hh hl hm
  obtain ⟨v0, hv0, hb0, p0, z0⟩ := alloc_sized w x.arr CT
  obtain ⟨v1, hv1, hb1, p1, z1⟩ := alloc_sized v0 #[.bool wa, .slice a wl.length c] 26
  obtain ⟨v2, hv2, hb2, p2, z2⟩ := alloc_sized v1 Cl.zero.arr CT
  obtain ⟨v3, hv3, hb3, p3, z3⟩ := alloc_sized v2 rq0 RT
  have hb23 := hb2.trans (hb3.mono hb2.size)
  have hb13 := hb1.trans (hb23.mono hb1.size)
  have hbw := hb0.trans (hb13.mono hb0.size)
  have s0 := (p1.later hb23).cell 0
  have s1 := (p1.later hb23).cell 1
  simp only [List.getElem?_toArray, List.getElem?_cons_zero, List.getElem?_cons_succ] at s0 s1
  have HV0 := Lib.hid hv0
  have HV1 := Lib.hid hv1
  have hv2' : v1.alloc (.cells #[.bool false, .bool false, .slice none 0 0, .bool false, .int .u64 0, .bool false, .slice none 0 0, .bool false, .int .u64 0, .bool false, .slice none 0 0, .bool false, .int .u64 0, .bool false, .slice none 0 0, .bool false, .int .u64 0, .bool false, .slice none 0 0, .bool false, .int .u64 0, .bool false, .slice none 0 0, .bool false, .int .u64 0] CT) = v2 := hv2
  have HV2 := Lib.hid hv2'
  have HV3 := Lib.hid hv3
  have HZ := Lib.hid (And.intro z0 (And.intro z1 (And.intro z2 z3)))
  have HP := Lib.hid (And.intro (p0.later hb13) (And.intro (p1.later hb23) (And.intro (p2.later hb3) (And.intro p3 (And.intro hbw (hw.later hbw))))))
  have HT := Lib.hid hT
  have HI := Lib.hid hi
  clear hv0 hv1 hv2 hv2' hv3 hb0 hb1 hb2 hb3 hb23 hb13 hbw p0 p1 p2 p3 z0 z1 z2 z3 hw hT hi
  go_enter Tryz.func25, Tryz.ntmps25
  go_wp2_with (first | rw [HV0.out] | rw [HV1.out] | rw [HV2.out] | rw [HV3.out])
  refine (list_up HP.out.2.2.2.2.2 HI.out.lw (by have := HI.out.z1; omega)).mono ?_
  rintro e v4 ⟨a4, c4, rfl, ⟨ht4, -⟩, hb4⟩
  have HL4 := Lib.hid (And.intro ht4 hb4)
  clear ht4 hb4
  go_wp2_with fail
  refine (of_any HL4.out.1 HI.out.fw HI.out.of).mono ?_
  rintro e v5 ⟨ta, tc, rfl, ht5, hb5⟩
  have hb35 := HL4.out.2.trans (hb5.mono HL4.out.2.size)
  have p5 := HP.out.2.1.later hb35
  obtain ⟨v6, hv6, p6, j6⟩ := set_new p5 0 (.bool ua)
  obtain ⟨v7, hv7, p7, j7⟩ := set_new p6 1 (.slice ta ul.length tc)
  have p6' : Blk v6 v0.heap.size #[.bool ua, .slice a wl.length c] 26 := p6
  have p7' : Blk v7 v0.heap.size #[.bool ua, .slice ta ul.length tc] 26 := p7
  have e0 := p5.cell 0
  have f0 := p5.frozen 0
  have e1 := p5.cell 1
  have f1 := p5.frozen 1
  have g0 := p7'.cell 0
  have g1 := p7'.cell 1
  simp only [List.getElem?_toArray, List.getElem?_cons_zero, List.getElem?_cons_succ] at e0 e1 g0 g1
  have hz := HZ.out
  have hs35 := hb35.size
  have hT7 := j7.ts p6' (set_no _ _ _ _ _) (j6.ts p5 (set_no _ _ _ _ _) ht5)
  have Q0 := j7.blk (k := w.heap.size) (by omega) (j6.blk (by omega) (HP.out.1.later hb35))
  have Q2 := j7.blk (k := v1.heap.size) (by omega) (j6.blk (by omega) (HP.out.2.2.1.later hb35))
  have Q3 := j7.blk (k := v2.heap.size) (by omega) (j6.blk (by omega) (HP.out.2.2.2.1.later hb35))
  have hB7 : Below w.heap.size w v7 := ((HP.out.2.2.2.2.1.trans (hb35.mono (by omega))).trans (j6.below (by omega))).trans (j7.below (by omega))
  have hsz : v3.heap.size ≤ v7.heap.size := by rw [j7.size, j6.size]; exact hs35
  have HV6 := Lib.hid hv6
  have HV7 := Lib.hid hv7
  have HX := Lib.hid (And.intro Q0 (And.intro p7' (And.intro Q2 (And.intro Q3 (And.intro hT7 (And.intro hB7 hsz))))))
  clear hv6 hv7 p5 p6 p6' p7 p7' j6 j7 Q0 Q2 Q3 hT7 hB7 hsz hz hs35 hb35 hb5 ht5
  have HC := Lib.hid (chkAsk_any (x := x) (n := n) (b := b) (d := d) HI.out.h1 HI.out.h5 rfl rfl HX.out.2.2.2.2.1 (HT.out.later HX.out.2.2.2.2.2.1) (of_fit HI.out.fw HI.out.of).1 HI.out.ft HI.out.l HI.out.sub HI.out.uns (by have := (of_fit HI.out.fw HI.out.of).2; have := HI.out.z1; omega) HI.out.z2 HI.out.b HI.out.v)
  dsimp only
  go_wp2_with (first | rw [HV6.out] | rw [HV7.out] | (refine wpList_load_cl _ x w.heap.size rfl rfl (by rfl) HX.out.1 ?_; simp only [Act.put, List.setIfInBounds_toArray, List.set_cons_zero, List.set_cons_succ]))
  refine HC.out.mono ?_
  rintro e v8 ⟨rfl, hb8⟩
  have Q0 := HX.out.1.later hb8
  have Q1 := HX.out.2.1.later hb8
  have Q2 := HX.out.2.2.1.later hb8
  have Q3 := HX.out.2.2.2.1.later hb8
  have hT8 := HX.out.2.2.2.2.1.later hb8
  have hB8 := HX.out.2.2.2.2.2.1.trans (hb8.mono HX.out.2.2.2.2.2.1.size)
  have hsz : v3.heap.size ≤ v8.heap.size := Nat.le_trans HX.out.2.2.2.2.2.2 hb8.size
  have m0 := Q1.cell 0
  have m1 := Q1.cell 1
  simp only [List.getElem?_toArray, List.getElem?_cons_zero, List.getElem?_cons_succ] at m0 m1
  dsimp only
  have HR := Lib.hid (req_any (x := x) (k := k) (n := n) (d := d) (by have := HI.out.h5; omega) rfl rfl rfl hT8 (HT.out.later hB8) (of_fit HI.out.fw HI.out.of).1 HI.out.ft HI.out.sub HI.out.uns (by have := (of_fit HI.out.fw HI.out.of).2; have := HI.out.z1; omega) HI.out.z2 (HH.out.1.later hB8) HH.out.2.1 hn HH.out.2.2)
  obtain ⟨Qn, hQn⟩ : ∃ Qn, (if x.d then 0 else (x.get k).q) = Qn := ⟨_, rfl⟩
  rw [hQn] at HR
  have HQn := Lib.hid hQn
  have HX8 := Lib.hid (And.intro Q0 (And.intro Q1 (And.intro Q2 (And.intro Q3 (And.intro hT8 (And.intro hB8 hsz))))))
  clear Q0 Q1 Q2 Q3 hT8 hB8 hsz hb8 hQn
  have hne : askErr k false false = .nilIface := rfl
  rw [hne]
  clear hne
  go_wp2_with (refine wpList_load_cl _ x w.heap.size rfl rfl (by rfl) HX8.out.1 ?_; simp only [Act.put, List.setIfInBounds_toArray, List.set_cons_zero, List.set_cons_succ])
  refine HR.out.mono ?_
  rintro e v9 ⟨a1, c1, a2, c2, a3, c3, rfl, hS9, hU9, hb9⟩
  obtain ⟨y0, hy0, hby, py, zy⟩ := alloc_sized v9 (rq k x.d Qn (.slice a1 S.length c1) (.slice a2 U.length c2) (.slice a3 m c3) ⟨#[]⟩) RT
  have hb8y := hb9.trans (hby.mono hb9.size)
  have kk : k < 6 := by have := HI.out.h5; omega
  have q0 := HX8.out.1.later hb8y
  obtain ⟨y1, hy1, r1, j1⟩ := set_new q0 (1 + k * 4) (.bool ua)
  obtain ⟨y2, hy2, r2, j2⟩ := set_new r1 (1 + k * 4 + 1) (.slice ta ul.length tc)
  obtain ⟨y3, hy3, r3, j3⟩ := set_new r2 (1 + k * 4 + 2) (.bool true)
  rw [x.arr_asked ua ta tc ul kk] at r3
  have k0 : (0 : Int) ≤ (k : Int) := by omega
  have k6 : (k : Int) < 6 := by omega
  have e0 := (q0.cell (1 + k * 4)).trans (x.at kk).1
  have f0 := q0.frozen (1 + k * 4)
  have e1 := (q0.cell (1 + k * 4 + 1)).trans (x.at kk).2.1
  have f1 := q0.frozen (1 + k * 4 + 1)
  have e2 : y2.cell? ⟨w.heap.size, 1 + k * 4 + 2, none⟩ = some (.bool (x.get k).op) := by
    rw [r2.cell, Array.getElem?_setIfInBounds_ne (by omega), Array.getElem?_setIfInBounds_ne (by omega)]; exact (x.at kk).2.2.1
  have f2 := r2.frozen (1 + k * 4 + 2)
  have n0 := (HX8.out.2.1.later hb8y).cell 0
  have n1 := (HX8.out.2.1.later hb8y).cell 1
  simp only [List.getElem?_toArray, List.getElem?_cons_zero, List.getElem?_cons_succ] at n0 n1
  have hz := HZ.out
  have hx := HX8.out.2.2.2.2.2.2
  have hz9 := hb9.size
  have hR := j3.blk (k := v9.heap.size) (by omega) (j2.blk (by omega) (j1.blk (by omega) py))
  have hA8 := j3.blk (k := v1.heap.size) (by omega) (j2.blk (by omega) (j1.blk (by omega) (HX8.out.2.2.1.later hb8y)))
  have hA9 := j3.blk (k := v2.heap.size) (by omega) (j2.blk (by omega) (j1.blk (by omega) (HX8.out.2.2.2.1.later hb8y)))
  have noS : ∀ (b : Nat) (W : World) (cs : Array Value) (T : TypeId), True := fun _ _ _ _ => trivial
  have hTt := HX8.out.2.2.2.2.1.later hb8y
  have hT1 : TsAt y1 (.slice ta ul.length tc) ul := j1.ts q0 (cl_no x ul) hTt
  have hT2 : TsAt y2 (.slice ta ul.length tc) ul := j2.ts r1 (fun u hu => by
    rcases Array.mem_toList_iff.1 hu |> Array.mem_or_eq_of_mem_setIfInBounds with h | h
    · exact cl_no x ul u (Array.mem_toList_iff.2 h)
    · subst h; intro s _; simp [encStr]) hT1
  have hT3 : TsAt y3 (.slice ta ul.length tc) ul := j3.ts r2 (fun u hu => by
    rcases Array.mem_toList_iff.1 hu |> Array.mem_or_eq_of_mem_setIfInBounds with h | h
    · rcases Array.mem_or_eq_of_mem_setIfInBounds h with h | h
      · exact cl_no x ul u (Array.mem_toList_iff.2 h)
      · subst h; intro s _; simp [encStr]
    · subst h; intro s _; simp [encStr]) hT2
  have hS3 := (((hS9.later hby).just (by omega) j1).just (by omega) j2).just (by omega) j3
  have hU3 := (((hU9.later hby).just (by omega) j1).just (by omega) j2).just (by omega) j3
  have hL3 : Below w.heap.size w y3 := (((HX8.out.2.2.2.2.2.1.trans (hb8y.mono HX8.out.2.2.2.2.2.1.size)).trans (j1.below (by omega))).trans (j2.below (by omega))).trans (j3.below (by omega))
  have HY0 := Lib.hid hy0
  have HY1 := Lib.hid hy1
  have HY2 := Lib.hid hy2
  have HY3 := Lib.hid hy3
  have HN := Lib.hid (of_ne HI.out.of)
  have HZ9 := Lib.hid (And.intro hx hz9)
  clear hS9 hU9 hb9 hby py zy hb8y q0 r1 r2 j1 j2 j3 hy0 hy1 hy2 hy3 hz hx hz9 noS hTt hT1 hT2
  dsimp only
  go_wp2_with (first | rw [HY0.out] | rw [HY1.out] | rw [HY2.out] | rw [HY3.out])
  obtain ⟨w232, hw233, hb234⟩ := drew_new y3
  have q235 := hL3.trans (hb234.mono hL3.size)
  have q236 := r3.later hb234
  have q237 := hR.later hb234
  have q238 := hA8.later hb234
  have q239 := hA9.later hb234
  have q240 := hT3.later hb234
  have q241 := hS3.later hb234
  have q242 := hU3.later hb234
  refine wp_region_held_drew (S := (fun w' => Blk w' w.heap.size (x.set ⟨ua, ta, tc, ul, true, (x.get k).q⟩ k).arr CT ∧ Blk w' v9.heap.size (rq k x.d Qn (.slice a1 S.length c1) (.slice a2 U.length c2) (.slice a3 m c3) ⟨#[]⟩) RT ∧ True)) (by kernel_rfl) (by rw [hw233]; exact ⟨q236, q237, trivial⟩) (fun hHeld => ?_)
  rw [hw233] at hHeld ⊢
  refine wpAnyH_take (i := 0) (oi := { dst := some 41, op := Op.load 72 (Operand.tmp 4), type := 72, pos := "client.go:34", after := #[], guard := none }) (v := .agg (x.set ⟨ua, ta, tc, ul, true, (x.get k).q⟩ k).arr) rfl (by kernel_rfl) (by kernel_rfl) (by kernel_rfl) (fun _ _ _ h => h) (Or.inl ⟨by rfl, ?hy1⟩) (by assumption) ?rest1
  case hy1 => (intro w1 hSw; (try dsimp only at hSw); obtain ⟨h0, h1, -⟩ := hSw; (apply exec_load_cl; (· rfl); (· rfl); exact h0))
  try simp only [Act.put, List.setIfInBounds_toArray, List.set_cons_zero, List.set_cons_succ]
  refine wpAnyH_take (i := 1) (oi := { dst := some 42, op := Op.load 45 (Operand.tmp 12), type := 45, pos := "client.go:34", after := #[{ on := 2, ground := Ground.gcOnly Departure.lateStores }], guard := none }) (v := .agg (rq k x.d Qn (.slice a1 S.length c1) (.slice a2 U.length c2) (.slice a3 m c3) ⟨#[]⟩)) rfl (by kernel_rfl) (by kernel_rfl) (by kernel_rfl) (fun _ _ _ h => h) (Or.inl ⟨by rfl, ?hy2⟩) (by assumption) ?rest2
  case hy2 => (intro w1 hSw; (try dsimp only at hSw); obtain ⟨h0, h1, -⟩ := hSw; (apply exec_load_rq; (· rfl); (· rfl); (· exact h1); rfl))
  try simp only [Act.put, List.setIfInBounds_toArray, List.set_cons_zero, List.set_cons_succ]
  refine wpAnyH_ready (rs := [2]) (by kernel_rfl) (by simp) ?_
  refine AllReadyH.cons (o := { dst := none, op := Op.store 72 (Operand.tmp 8) (Operand.tmp 41), type := 0, pos := "client.go:34", after := #[{ on := 0, ground := Ground.data }, { on := 0, ground := Ground.phase }, { on := 1, ground := Ground.textOnly Departure.lateStores }], guard := none }) rfl (fun K hK => ?_) AllReadyH.nil
  rw [if_pos (by rfl)]
  refine wp_store_cl _ _ Cl.zero (x.set ⟨ua, ta, tc, ul, true, (x.get k).q⟩ k) v1.heap.size rfl (by rfl) (by rfl) q238 ?_
  intro w243 p244 j245
  have q247 := j245.blk (by have := HZ.out; have := HZ9.out; omega) q236
  have q248 := j245.blk (by have := HZ.out; have := HZ9.out; omega) q237
  have q249 := j245.blk (by have := HZ.out; have := HZ9.out; omega) q239
  have q250 := j245.ts q238 (cl_no _ _) q240
  have q251 := q241.just (by have := HZ.out; have := HZ9.out; omega) j245
  have q252 := q242.just (by have := HZ.out; have := HZ9.out; omega) j245
  have q253 := q235.trans (j245.below (by have := HZ.out; omega))
  refine hK.out _ _ (⟨q247, q248, trivial⟩) (fun hHeld => ?_)
  clear hK K
  try simp only [Act.put, List.setIfInBounds_toArray, List.set_cons_zero, List.set_cons_succ]
  refine wpAnyH_ready (rs := [3]) (by kernel_rfl) (by simp) ?_
  refine AllReadyH.cons (o := { dst := none, op := Op.store 45 (Operand.tmp 9) (Operand.tmp 42), type := 0, pos := "client.go:34", after := #[{ on := 1, ground := Ground.data }, { on := 2, ground := Ground.chain }, { on := 0, ground := Ground.phase }, { on := 1, ground := Ground.phase }, { on := 2, ground := Ground.phase }], guard := none }) rfl (fun K hK => ?_) AllReadyH.nil
  rw [if_pos (by rfl)]
  refine wp_store_rq _ _ v2.heap.size rfl (by rfl) (by rfl) q249 rfl (by rfl) (by simp [rq, Value.oneCell']) ?_
  intro w254 p255 j256
  have q258 := j256.blk (by have := HZ.out; have := HZ9.out; omega) q247
  have q259 := j256.blk (by have := HZ.out; have := HZ9.out; omega) q248
  have q260 := j256.blk (by have := HZ.out; have := HZ9.out; omega) p244
  have q261 := j256.ts q249 (rq0_no HN.out) q250
  have q262 := q251.just (by have := HZ.out; have := HZ9.out; omega) j256
  have q263 := q252.just (by have := HZ.out; have := HZ9.out; omega) j256
  have q264 := q253.trans (j256.below (by have := HZ.out; omega))
  refine hK.out _ _ (⟨q258, q259, trivial⟩) (fun hHeld => ?_)
  clear hK K
  try simp only [Act.put, List.setIfInBounds_toArray, List.set_cons_zero, List.set_cons_succ]
  refine wpAnyH_take (i := 4) (oi := { dst := some 10, op := Op.assign (Operand.const (Value.int IntKind.i64 0)), type := 40, pos := "client.go:34", after := #[{ on := 3, ground := Ground.chain }, { on := 0, ground := Ground.phase }, { on := 1, ground := Ground.phase }, { on := 2, ground := Ground.phase }, { on := 3, ground := Ground.phase }], guard := none }) (v := ?v3) rfl (by kernel_rfl) (by kernel_rfl) (by kernel_rfl) (fun _ _ _ h => h) (Or.inl ⟨by rfl, ?hy3⟩) (by assumption) ?rest3
  case hy3 => (intro w1 hSw; (try dsimp only at hSw); obtain ⟨h0, h1, -⟩ := hSw; go_simp; try with_reducible rfl)
  try simp only [Act.put, List.setIfInBounds_toArray, List.set_cons_zero, List.set_cons_succ]
  refine wpAnyH_done (by kernel_rfl) ?_ _
  go_wp2_with fail
  have hl1 := run_load_cl _ _ q260
  have hl2 := run_load_rq p255 rfl
  refine bodyPost_ret (v := .tuple #[(x.set ⟨ua, ta, tc, ul, true, (x.get k).q⟩ k).v, .agg (rq k x.d Qn (.slice a1 S.length c1) (.slice a2 U.length c2) (.slice a3 m c3) ⟨#[]⟩), .int .i64 0]) (by simp [results, Tryz.resAsk, hl1, hl2, asAddr]) rfl ⟨ta, tc, a1, c1, a2, c2, a3, c3, by rw [HQn.out], q261, q262.ts, q263.ts, q264⟩
end Go.Proofs.YtdcfdcjgheijcaaGreatDoor
