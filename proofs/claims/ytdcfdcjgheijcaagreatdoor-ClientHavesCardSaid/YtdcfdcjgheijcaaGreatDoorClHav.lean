/- ClientHaves: the walk. -/
import Derived.Test.YtdcfdcjgheijcaaGreatDoorClEx
import Derived.Test.YtdcfdcjgheijcaaGreatDoorClFew
import Derived.Test.YtdcfdcjgheijcaaGreatDoorNmEx
namespace Go.Proofs.YtdcfdcjgheijcaaGreatDoor
open Go.RowKit Go.Lib

def hvL (ms : List Nat) : List Hv := (ms.take 12).map fun b => ⟨nmC b, 7⟩
theorem hv_len (ms : List Nat) : (hvL ms).length ≤ 12 := by unfold hvL; rw [List.length_map, List.length_take]; omega
theorem hv_next {ms : List Nat} {k b : Nat} (h : ms[k]? = some b) (hk : k < 12) : hvL (ms.take (k + 1)) = hvL (ms.take k) ++ [⟨nmC b, 7⟩] := by
  unfold hvL
  rw [List.take_take, List.take_take, Nat.min_eq_right (by omega), Nat.min_eq_right (by omega), List.take_add_one, h, List.map_append]
  rfl
theorem hv_all (ms : List Nat) {k : Nat} (h : 12 ≤ k ∨ ms.length ≤ k) : hvL (ms.take k) = hvL ms := by
  unfold hvL
  rw [List.take_take]
  rcases h with h | h
  · rw [Nat.min_eq_left h]
  · by_cases h2 : 12 ≤ k
    · rw [Nat.min_eq_left h2]
    · rw [Nat.min_eq_right (by omega), List.take_of_length_le h, List.take_of_length_le (by omega)]
/-- Ask, of a topic that was never asked for. -/
theorem ask_zero_h {x : Cl} {d ua : Bool} {k n m : Nat} {ul : List (List UInt8)} {hs : List Hv} {a b : Option Addr} {c e0 : Nat} {w : World} (hd : x.d = d) (h1 : 1 ≤ k) (h5 : k ≤ 5) (hx : x.get k = Tp.zero) (hr : Real ⟨ua, ul⟩) (hf : NmFit ul) (hl : ul.length ≤ 60) (hw : TsAt w (.slice a ul.length c) ul) (hh : HvAt w b hs) (hn : hs.length = n) (hn64 : n ≤ 64)
    (hm : (if d then (hs.filter (fun r => nHas okN ⟨ua, ul⟩ r.x)).length else 0) = m) :
    Calls Tryz.prog 25 #[x.v, .int .i64 (k : Int), .agg #[.bool ua, .slice a ul.length c], .slice b n e0] w fun e w' => ∃ ta tc a1 n1 c1 a2 n2 c2 a3 c3, e = .returned (.tuple #[(x.set ⟨ua, ta, tc, ul, true, 0⟩ k).v, .agg (rq k d 0 (.slice a1 n1 c1) (.slice a2 n2 c2) (.slice a3 m c3) ⟨#[]⟩), .int .i64 0]) ∧ TsAt w' (.slice ta ul.length tc) ul ∧ Below w.heap.size w w' := by
  have ho : (x.get k).op = false := by rw [hx]; rfl
  refine (ask_ok (x := x) (k := k) (n := n) (m := m) (hs := hs) (ask_first h1 h5 hr hr.rises hf hn64 hl (by rw [hx]; rfl) (by rw [hx]; rfl) ho) hw (by rw [hx]; exact Tp.zero_at _) hh hn (by omega) (by unfold tells; rw [ho, hd, ← hm]; cases d <;> rfl)).mono ?_
  rintro e w' ⟨ta, tc, a1, c1, a2, c2, a3, c3, rfl, hT, _, _, hB⟩
  have hq : (x.get k).q = 0 := by rw [hx]; rfl
  rw [hq, hd]
  exact ⟨ta, tc, a1, (nList ⟨ua, ul⟩).length, c1, a2, 0, c2, a3, c3, by cases d <;> rfl, hT, hB⟩
/-- The name that none of a few is. -/
abbrev newX : List UInt8 := [110, 101, 119, 47, 120]
theorem new_of : nOf okN [newX] = ⟨false, [newX]⟩ := by
  have h : okN newX = true := by decide
  unfold nOf
  have e : ([newX] : List (List UInt8)).filter okN = [newX] := by simp [h]
  rw [e, srt_one]; rfl
theorem new_not {ms : List Nat} {ua : Bool} {ul : List (List UInt8)} (h : nOf okN (nmcL ms 12) = ⟨ua, ul⟩) : newX ∉ ul := by
  intro hm
  have e : ul = (nOf okN (nmcL ms 12)).ns := by rw [h]
  rw [e, mem_of] at hm
  obtain ⟨b, _, hb⟩ := List.mem_map.1 hm.1
  have := nmC_len b
  rw [hb] at this
  exact absurd this (by decide)
/-- Of a topic that was asked for: another set, with what is new. -/
theorem ask_more {x : Cl} {n : Nat} {ua sa : Bool} {ul sl : List (List UInt8)} (hr : Real ⟨ua, ul⟩) (hf : NmFit ul) (hl : ul.length ≤ 20) (hn : n ≤ 64) (hnew : newX ∉ ul) (hu : nUnion [⟨ua, ul⟩, nOf okN [newX]] = ⟨sa, sl⟩)
    (ha : (x.get 1).all = ua) (hli : (x.get 1).l = ul) (ho : (x.get 1).op = true) : ∃ S U, AskIs x 1 n ⟨sa, sl⟩ ⟨sa, sl⟩ (nList ⟨sa, sl⟩) (nList ⟨sa, sl⟩) S U false false := by
  have hr2 : Real ⟨sa, sl⟩ := by rw [← hu]; exact real_union hr (real_of _)
  have hsl : sl.length ≤ 21 := by
    have e : sl = srt (([⟨ua, ul⟩, nOf okN [newX]] : List Ns).flatMap (·.ns)) := (congrArg Ns.ns hu).symm
    rw [e]
    refine Nat.le_trans (srt_len _) ?_
    rw [new_of]
    simp; omega
  have hmem : newX ∈ sl := by
    have : newX ∈ (nUnion [⟨ua, ul⟩, nOf okN [newX]]).ns := (mem_union2 _ _ _).2 (.inr (by rw [new_of]; exact List.mem_singleton.2 rfl))
    rw [hu] at this; exact this
  have hf2 : NmFit sl := ⟨fun s hs => by
    have : s ∈ (nUnion [⟨ua, ul⟩, nOf okN [newX]]).ns := by rw [hu]; exact hs
    rcases (mem_union2 _ _ _).1 this with h | h
    · exact hf.1 s h
    · rw [new_of] at h; obtain rfl := List.mem_singleton.1 h; decide, by omega⟩
  have hl1 := nlist_len ⟨sa, sl⟩
  simp only at hl1
  refine ⟨_, _, by omega, by omega, rfl, ⟨fun s hs' => ?_, by omega⟩, hr2.list, rfl, rfl, rfl, by rw [hli]; exact hf, by omega, by rw [hli]; omega, ?_, ?_⟩
  · unfold nList at hs'
    rcases List.mem_append.1 hs' with h | h
    · split at h
      · obtain rfl := List.mem_singleton.1 h; decide
      · cases h
    · exact hf2.1 s h
  · rw [ho, ha, hli]
    have : nSame ⟨ua, ul⟩ ⟨sa, sl⟩ = false := by
      unfold nSame
      rw [srt_self hr.rises, srt_self hr2.rises]
      have hne : ul ≠ sl := fun e => hnew (by rw [e]; exact hmem)
      simp [hne]
    rw [this]; rfl
  · have l2 := nlist_len (nLess ⟨sa, sl⟩ ⟨ua, ul⟩)
    have l3 := nlist_len (nLess ⟨ua, ul⟩ ⟨sa, sl⟩)
    have l4 : (nLess ⟨sa, sl⟩ ⟨ua, ul⟩).ns.length ≤ sl.length := Nat.le_trans (srt_len _) (List.length_filter_le _ _)
    have l5 : (nLess ⟨ua, ul⟩ ⟨sa, sl⟩).ns.length ≤ ul.length := Nat.le_trans (srt_len _) (List.length_filter_le _ _)
    have e1 : (turnS x.d ⟨sa, sl⟩ ⟨ua, ul⟩).length ≤ 64 := by unfold turnS; split <;> omega
    have e2 : (turnU x.d ⟨sa, sl⟩ ⟨ua, ul⟩).length ≤ 64 := by
      unfold turnU; split
      · omega
      · exact Nat.zero_le _
    rw [ha, hli]
    simp
    omega
theorem hvCells_get (rs : List Hv) : ∀ (i : Nat) (r : Hv), rs[i]? = some r → (hvCells rs)[i * 2]? = some (.string ⟨r.x.toArray⟩) ∧ (hvCells rs)[i * 2 + 1]? = some (.int .u64 (r.q : Int)) := by
  induction rs with
  | nil => intro i r h; simp at h
  | cons a rs ih =>
    intro i r h
    have e : hvCells (a :: rs) = .string ⟨a.x.toArray⟩ :: .int .u64 (a.q : Int) :: hvCells rs := rfl
    rw [e]
    match i with
    | 0 => obtain rfl := Option.some.inj h; exact ⟨rfl, rfl⟩
    | i + 1 =>
      have := ih i r (by simpa using h)
      rw [show (i + 1) * 2 = i * 2 + 1 + 1 by omega]
      exact this
theorem hv_row {w : World} {base c : Nat} {a : Option Addr} {rs : List Hv} (h : w.ownsRow base 65 2 (.slice a rs.length c) rs.length (hvCells rs)) : HvAt w a rs := by
  intro i r hi
  have hlt := (List.getElem?_eq_some_iff.1 hi).1
  have hg := hvCells_get rs i r hi
  have h0 := h
  rcases h0.2 with ⟨hv, hx⟩ | ⟨g, cap, cur, hv, _⟩
  · omega
  · simp at hv
    obtain ⟨rfl, rfl⟩ := hv
    have d0 := (h.cellAt (i * 2) (by omega)).trans hg.1
    have d1 := (h.cellAt (i * 2 + 1) (by omega)).trans hg.2
    exact ⟨g, 0, rfl, World.block_lt_of_cell? w _ d0, by rw [Nat.zero_add]; exact d0, by rw [Nat.zero_add]; exact d1⟩
theorem ask_more_ok {x : Cl} {d : Bool} {n : Nat} {ua sa : Bool} {ul sl : List (List UInt8)} {hs : List Hv} {a b : Option Addr} {c e0 : Nat} {w : World} (hd : x.d = d) (hr : Real ⟨ua, ul⟩) (hf : NmFit ul) (hl : ul.length ≤ 20) (hn64 : n ≤ 64) (hnew : newX ∉ ul) (hu : nUnion [⟨ua, ul⟩, nOf okN [newX]] = ⟨sa, sl⟩)
    (ha : (x.get 1).all = ua) (hli : (x.get 1).l = ul) (ho : (x.get 1).op = true) (hT : (x.get 1).At w) (hw : TsAt w (.slice a sl.length c) sl) (hh : HvAt w b hs) (hn : hs.length = n) :
    Calls Tryz.prog 25 #[x.v, .int .i64 1, .agg #[.bool sa, .slice a sl.length c], .slice b n e0] w fun e w' => ∃ (X2 : Cl) (q' : Nat), ∃ a1 n1 c1 a2 n2 c2 a3 c3, e = .returned (.tuple #[X2.v, .agg (rq 1 d q' (.slice a1 n1 c1) (.slice a2 n2 c2) (.slice a3 0 c3) ⟨#[]⟩), .int .i64 0]) ∧ Below w.heap.size w w' := by
  obtain ⟨S, U, hA⟩ := ask_more (n := n) hr hf hl hn64 hnew hu ha hli ho
  refine (ask_ok (x := x) (k := 1) (n := n) (m := 0) (hs := hs) hA hw hT hh hn (by omega) (by unfold tells; rw [ho]; cases x.d <;> rfl)).mono ?_
  rintro e w' ⟨ta, tc, a1, c1, a2, c2, a3, c3, rfl, _, _, _, hB⟩
  rw [hd]
  exact ⟨_, _, a1, _, c1, a2, _, c2, a3, c3, rfl, hB⟩
theorem new_fit {ul : List (List UInt8)} (hf : NmFit ul) (hl : ul.length ≤ 20) : AddFit ul [newX] := ⟨hf, ⟨fun s hs => by obtain rfl := List.mem_singleton.1 hs; decide, by decide⟩, by simp; omega⟩
/-- A row of what is had. -/
def HRow (base : Nat) (rs : List Hv) (v : Value) (w : World) : Prop := w.ownsRow base 65 2 v rs.length (hvCells rs)
theorem HRow.later {base : Nat} {rs : List Hv} {v : Value} {w w' : World} (h : HRow base rs v w) (hb : Below w.heap.size w w') : HRow base rs v w' := ownsRow_later h hb
set_option maxRecDepth 100000 in
set_option maxHeartbeats 8000000 in
theorem haves_walk (d : Bool) (a a' : Option Addr) (n c n' c' : Nat) (ms ms' : List Nat) {b : Addr} {w : World} (hn : Gn b w) (hg : Ge w) (hin : BytesIn w a ms) (hl : ms.length = n) (hnn : n ≤ 9223372036854775807) (hb : ∀ m ∈ ms, m < 256)
    (hin' : BytesIn w a' ms') (hl' : ms'.length = n') (hnn' : n' ≤ 9223372036854775807) (hb' : ∀ m ∈ ms', m < 256) :
    Calls Tryz.prog 9 #[.bool d, .slice a n c, .slice a' n' c'] w fun e w' => e = .returned (.bool true) ∧ Below w.heap.size w w' := by
  have LOW : Below w.heap.size w w := Below.refl _ _
  obtain ⟨i0, hi, hz0, hz1, hz2⟩ := info_parts Tryz.infoHv
  obtain ⟨ua, ul, hof⟩ : ∃ ua ul, nOf okN (nmcL ms 12) = ⟨ua, ul⟩ := ⟨_, _, rfl⟩
  obtain ⟨sa, sl, hun⟩ : ∃ sa sl, nUnion [⟨ua, ul⟩, nOf okN [newX]] = ⟨sa, sl⟩ := ⟨_, _, rfl⟩
  obtain ⟨p, hp⟩ : ∃ p, nHas okN ⟨ua, ul⟩ = p := ⟨_, rfl⟩
  have hfit := nmc_fit ms 12 (by omega)
  have hff := of_fit hfit hof
  have hl20 : ul.length ≤ 20 := by have := hff.2; have := nmc_len ms 12; omega
  have HG := Lib.hid (And.intro hn (And.intro hg (And.intro hin (And.intro hl (And.intro hb (And.intro hin' (And.intro hl' hb')))))))
  have HU := Lib.hid (And.intro hun (And.intro hp (new_not hof)))
  have HFi := Lib.hid (And.intro hof (And.intro hfit (And.intro hff.1 (And.intro hl20 (show Real ⟨ua, ul⟩ by rw [← hof]; exact real_of _)))))
  have neN : ∀ x ∈ ul, x ≠ [] := of_ne hof
  clear hn hg hin hl hb hin' hl' hb' hof hfit hff hl20 hun hp
  go_enter Tryz.func9, Tryz.ntmps9
  go_wp2_with fail
  refine (cl_examples HG.out.1 HG.out.2.1).mono ?_
  rintro e w1 ⟨rfl, hb2⟩
  replace LOW := LOW.trans (hb2.mono LOW.size)
  clear hb2
  dsimp only
  go_wp2_with fail
  refine (few10_any (HG.out.2.2.1.later LOW) HG.out.2.2.2.1 hnn (m := 12) (by decide) HG.out.2.2.2.2.1).mono ?_
  rintro e w3 ⟨fa, fc, rfl, FO, hb4⟩
  replace LOW := LOW.trans (hb4.mono LOW.size)
  clear hb4
  dsimp only
  have TF : TsAt w3 _ (nmcL ms 12) := RowV.own FO
  clear FO
  go_wp2_with fail
  refine (of_any TF HFi.out.2.1 HFi.out.1).mono ?_
  rintro e w5 ⟨oa, oc, rfl, TO, hb6⟩
  replace LOW := LOW.trans (hb6.mono LOW.size)
  clear hb6
  dsimp only
  clear TF
  have LE10 := Lib.hid LOW.size
  obtain ⟨w7, hw8, hb9, PS⟩ := alloc_new w5 #[.bool ua, .slice oa ul.length oc] 26
  replace TO := TO.later hb9
  replace LOW := LOW.trans (hb9.mono LOW.size)
  clear hb9
  have HW11 := Lib.hid hw8
  clear hw8
  go_wp2_with (first | rw [HW11.out])
  have HS := Lib.hid (And.intro PS (And.intro TO LOW))
  have LS : Below w7.heap.size w7 w7 := Below.refl _ _
  clear PS TO
  go_loopw [11, 10, 9] (fun i q v wr => ∃ k : Nat, k ≤ n' ∧ k ≤ 12 ∧ i = .int .i64 k ∧ (∃ M : Nat, ((hvL (ms'.take k)).filter (fun r => p r.x)).length = M ∧ q = .int .i64 M) ∧ HRow w7.heap.size (hvL (ms'.take k)) v wr ∧ Below w.heap.size w wr ∧ Below w7.heap.size w7 wr) (fun i _ _ _ => n' - (RowKit.intOf i).toNat)
  case atStart => exact ⟨0, Nat.zero_le _, Nat.zero_le _, rfl, ⟨0, rfl, rfl⟩, ⟨by simp [hvCells, hvL], .inl ⟨rfl, by simp [hvL]⟩⟩, LOW, LS⟩
  case round =>
    clear LOW LS
    obtain ⟨k, hk, hk12, rfl, ⟨M, hM, rfl⟩, hown, LOW, LS⟩ := hrel
    by_cases hlt : k < n'
    · by_cases hlt2 : k < 12
      · obtain ⟨bb, hx⟩ : ∃ bb, ms'[k]? = some bb := ⟨_, List.getElem?_eq_getElem (by have := HG.out.2.2.2.2.2.2.1; omega)⟩
        have hb256 := HG.out.2.2.2.2.2.2.2 bb (List.mem_of_getElem? hx)
        obtain ⟨g, off, rfl, hgl, hcell⟩ := HG.out.2.2.2.2.2.1 k bb hx
        have BC : CellAt wr g (off + k) (.int .u8 (bb : Int)) := ⟨Nat.lt_of_lt_of_le hgl LOW.size, (LOW.cell (p := ⟨g, _, none⟩) hgl).trans hcell⟩
        have d1 := BC.2
        have b0 : (0 : Int) ≤ (k : Int) := by omega
        have b1 : (k : Int) < (n' : Int) := by omega
        have b2 : (k : Int) < 12 := by omega
        have hnx := hv_next hx hlt2
        have hle := hv_len (ms'.take k)
        have hMl : M ≤ 12 := by rw [← hM]; exact Nat.le_trans (List.length_filter_le _ _) hle
        have HM := Lib.hid hM
        have HOW := Lib.hid (And.intro hown hnx)
        have HBC := Lib.hid (And.intro hgl hcell)
        have HN := Lib.hid (fun (w : World) => name10_any (w := w) hb256)
        clear hown hx hcell hgl hb256 hnx hM
        go_wp2_with fail
        refine (HN.out _).mono ?_
        rintro e w12 ⟨rfl, hb13⟩
        replace BC := BC.later hb13
        replace LOW := LOW.trans (hb13.mono LOW.size)
        replace LS := LS.trans (hb13.mono LS.size)
        have HOW2 := Lib.hid (ownsRow_later HOW.out.1 hb13)
        clear hb13
        dsimp only
        obtain ⟨x, hxx⟩ : ∃ x, nmC bb = x := ⟨_, rfl⟩
        have HX := Lib.hid (show hvL (ms'.take (k + 1)) = hvL (ms'.take k) ++ [⟨x, 7⟩] by rw [← hxx]; exact HOW.out.2)
        have hzs := LS.size
        rw [hxx]
        go_wp2_with (at_builtin; go_must (refine wpList_append_own _ rfl _ _ 32 rfl w7.heap.size 65 i0 _ 2 24 Tryz.underlying32 hi hz0 hz1 hz2 rfl (by omega) _ _ _ rfl (HOW2.out.alloc _) ⟨w12.heap.size, 0, none⟩ 1 1 (hvCells [⟨x, 7⟩]) rfl rfl (World.news_of_block (cs := #[.string ⟨x.toArray⟩, .int .u64 7]) (t := 65) (fr := (0, 0)) (heap_alloc_new w12 _)) (hv_one ⟨x, 7⟩) (by unfold maxLen; omega) (by omega) (by simp; omega) ?_; intro v4 w4 hown4 hgrow4 _))
        have HR4 : HRow w7.heap.size (hvL (ms'.take (k + 1))) v4 w4 := by unfold HRow; rw [HX.out, hvCells_append, List.length_append]; exact hown4
        have LS4 := (LS.alloc hzs (.cells #[.string ⟨x.toArray⟩, .int .u64 7] 65)).grown hgrow4 (by simp; omega) (fun j hj => (HOW2.out.lt j hj).1)
        have LOW4 : Below w.heap.size w w4 := HS.out.2.2.trans (LS4.mono HS.out.2.2.size)
        replace BC : CellAt w4 g (off + k) (.int .u8 (bb : Int)) := ⟨Nat.lt_of_lt_of_le HBC.out.1 LOW4.size, (LOW4.cell (p := ⟨g, _, none⟩) HBC.out.1).trans HBC.out.2⟩
        replace LOW := LOW4
        replace LS := LS4
        have d4 := BC.2
        clear hown4 hgrow4 LOW4 LS4 d1
        go_wp2_with fail
        clear d4
        have HO := Lib.hid (show (fun (A : Array Oper) => A[0]? = some { dst := some 44, op := Op.load 26 (Operand.tmp 8), type := 26, pos := "keeps.go:79", after := #[], guard := none } ∧ A[1]? = some { dst := some 45, op := Op.move (Operand.tmp 2), type := 22, pos := "keeps.go:79", after := #[], guard := none } ∧ A[2]? = some { dst := some 46, op := Op.move (Operand.tmp 11), type := 3, pos := "keeps.go:79", after := #[], guard := none } ∧ A[3]? = some { dst := some 47, op := Op.indexAddr 22 (Operand.tmp 45) (Operand.tmp 46), type := 0, pos := "keeps.go:79", after := #[{ on := 1, ground := Ground.data }, { on := 2, ground := Ground.data }], guard := none } ∧ A[4]? = some { dst := some 48, op := Op.load 5 (Operand.tmp 47), type := 5, pos := "keeps.go:79", after := #[{ on := 3, ground := Ground.data }], guard := none } ∧ A[5]? = some { dst := some 49, op := Op.call { callee := Callee.value (Operand.func 30), args := #[Operand.tmp 48], argTypes := #[5] }, type := 9, pos := "keeps.go:79", after := #[{ on := 4, ground := Ground.data }], guard := none } ∧ A[6]? = some { dst := some 50, op := Op.call { callee := Callee.value (Operand.func 19), args := #[Operand.tmp 44, Operand.tmp 49], argTypes := #[26, 9] }, type := 4, pos := "keeps.go:79", after := #[{ on := 0, ground := Ground.data }, { on := 5, ground := Ground.data }, { on := 5, ground := Ground.chain }], guard := none }) #[{ dst := some 44, op := Op.load 26 (Operand.tmp 8), type := 26, pos := "keeps.go:79", after := #[], guard := none }, { dst := some 45, op := Op.move (Operand.tmp 2), type := 22, pos := "keeps.go:79", after := #[], guard := none }, { dst := some 46, op := Op.move (Operand.tmp 11), type := 3, pos := "keeps.go:79", after := #[], guard := none }, { dst := some 47, op := Op.indexAddr 22 (Operand.tmp 45) (Operand.tmp 46), type := 0, pos := "keeps.go:79", after := #[{ on := 1, ground := Ground.data }, { on := 2, ground := Ground.data }], guard := none }, { dst := some 48, op := Op.load 5 (Operand.tmp 47), type := 5, pos := "keeps.go:79", after := #[{ on := 3, ground := Ground.data }], guard := none }, { dst := some 49, op := Op.call { callee := Callee.value (Operand.func 30), args := #[Operand.tmp 48], argTypes := #[5] }, type := 9, pos := "keeps.go:79", after := #[{ on := 4, ground := Ground.data }], guard := none }, { dst := some 50, op := Op.call { callee := Callee.value (Operand.func 19), args := #[Operand.tmp 44, Operand.tmp 49], argTypes := #[26, 9] }, type := 4, pos := "keeps.go:79", after := #[{ on := 0, ground := Ground.data }, { on := 5, ground := Ground.data }, { on := 5, ground := Ground.chain }], guard := none }] from ⟨by kernel_rfl, by kernel_rfl, by kernel_rfl, by kernel_rfl, by kernel_rfl, by kernel_rfl, by kernel_rfl⟩)
        obtain ⟨w14, hw15, hb16⟩ := drew_new w4
        replace BC := BC.later hb16
        replace HR4 := HR4.later hb16
        replace LOW := LOW.trans (hb16.mono LOW.size)
        replace LS := LS.trans (hb16.mono LS.size)
        refine wp_region_held_drew (S := (fun w' => w'.cell? ⟨w5.heap.size, 0, none⟩ = some (.bool ua) ∧ w'.cell? ⟨w5.heap.size, 1, none⟩ = some (.slice oa ul.length oc) ∧ w'.cell? ⟨g, off + k, none⟩ = some (.int .u8 (bb : Int)) ∧ True)) (by kernel_rfl) (by rw [hw15]; exact ⟨(HS.out.1.later LS).cell 0, (HS.out.1.later LS).cell 1, BC.2, trivial⟩) (fun hHeld => ?_)
        rw [hw15] at hHeld ⊢
        clear hw15 hb16
        refine wpAnyH_take (i := 0) (v := ?v1) HO.out.1 (by kernel_rfl) (by kernel_rfl) (by kernel_rfl) (fun _ _ _ h => h) (Or.inl ⟨by rfl, ?hy1⟩) (by assumption) ?rest1
        case hy1 => (intro w1 hSw; (try dsimp only at hSw); obtain ⟨h0, h1, h2, -⟩ := hSw; go_simp; try with_reducible rfl)
        try simp only [Act.put, List.setIfInBounds_toArray, List.set_cons_zero, List.set_cons_succ]
        refine wpAnyH_take (i := 1) (v := ?v2) HO.out.2.1 (by kernel_rfl) (by kernel_rfl) (by kernel_rfl) (fun _ _ _ h => h) (Or.inl ⟨by rfl, ?hy2⟩) (by assumption) ?rest2
        case hy2 => (intro w1 hSw; (try dsimp only at hSw); obtain ⟨h0, h1, h2, -⟩ := hSw; go_simp; try with_reducible rfl)
        try simp only [Act.put, List.setIfInBounds_toArray, List.set_cons_zero, List.set_cons_succ]
        refine wpAnyH_take (i := 2) (v := ?v3) HO.out.2.2.1 (by kernel_rfl) (by kernel_rfl) (by kernel_rfl) (fun _ _ _ h => h) (Or.inl ⟨by rfl, ?hy3⟩) (by assumption) ?rest3
        case hy3 => (intro w1 hSw; (try dsimp only at hSw); obtain ⟨h0, h1, h2, -⟩ := hSw; go_simp; try with_reducible rfl)
        try simp only [Act.put, List.setIfInBounds_toArray, List.set_cons_zero, List.set_cons_succ]
        refine wpAnyH_take (i := 3) (v := ?v4) HO.out.2.2.2.1 (by kernel_rfl) (by kernel_rfl) (by kernel_rfl) (fun _ _ _ h => h) (Or.inl ⟨by rfl, ?hy4⟩) (by assumption) ?rest4
        case hy4 => (intro w1 hSw; (try dsimp only at hSw); obtain ⟨h0, h1, h2, -⟩ := hSw; go_simp; try with_reducible rfl)
        try simp only [Act.put, List.setIfInBounds_toArray, List.set_cons_zero, List.set_cons_succ]
        refine wpAnyH_take (i := 4) (v := ?v5) HO.out.2.2.2.2.1 (by kernel_rfl) (by kernel_rfl) (by kernel_rfl) (fun _ _ _ h => h) (Or.inl ⟨by rfl, ?hy5⟩) (by assumption) ?rest5
        case hy5 => (intro w1 hSw; (try dsimp only at hSw); obtain ⟨h0, h1, h2, -⟩ := hSw; go_simp; try with_reducible rfl)
        try simp only [Act.put, List.setIfInBounds_toArray, List.set_cons_zero, List.set_cons_succ]
        refine wpAnyH_ready (rs := [5]) (by kernel_rfl) (by simp) ?_
        refine AllReadyH.cons HO.out.2.2.2.2.2.1 (fun K hK => ?_) AllReadyH.nil
        go_simp
        refine (HN.out _).mono ?_
        rintro e w17 ⟨rfl, hb18⟩
        replace BC := BC.later hb18
        replace HR4 := HR4.later hb18
        replace LOW := LOW.trans (hb18.mono LOW.size)
        replace LS := LS.trans (hb18.mono LS.size)
        clear hb18
        rw [hxx]
        try clear hHeld
        refine hK.out _ _ (⟨(HS.out.1.later LS).cell 0, (HS.out.1.later LS).cell 1, BC.2, trivial⟩) (fun hHeld => ?_)
        clear hK K
        try simp only [Act.put, List.setIfInBounds_toArray, List.set_cons_zero, List.set_cons_succ]
        refine wpAnyH_ready (rs := [6]) (by kernel_rfl) (by simp) ?_
        refine AllReadyH.cons HO.out.2.2.2.2.2.2 (fun K hK => ?_) AllReadyH.nil
        go_simp
        refine (has_any (sa := ua) (x := x) (B := p x) (HS.out.2.1.later LS) (by rw [HU.out.2.1])).mono ?_
        rintro e w19 ⟨rfl, hb20⟩
        replace BC := BC.later hb20
        replace HR4 := HR4.later hb20
        replace LOW := LOW.trans (hb20.mono LOW.size)
        replace LS := LS.trans (hb20.mono LS.size)
        clear hb20
        try clear hHeld
        refine hK.out _ _ (⟨(HS.out.1.later LS).cell 0, (HS.out.1.later LS).cell 1, BC.2, trivial⟩) (fun hHeld => ?_)
        clear hK K
        refine wpAnyH_done (by kernel_rfl) ?_ _
        clear BC
        cases hpx : p x with
        | false =>
          have HF := Lib.hid (show ((hvL (ms'.take (k + 1))).filter (fun r => p r.x)).length = M by rw [HX.out, List.filter_append, List.length_append, HM.out]; simp [hpx])
          clear hpx
          go_wp2_with fail
          go_roundw
          case rel => exact ⟨k + 1, by omega, by omega, by go_num, ⟨M, HF.out, by go_num⟩, HR4, LOW, LS⟩
          case measure => simp [RowKit.intOf]; omega
        | true =>
          have HF := Lib.hid (show ((hvL (ms'.take (k + 1))).filter (fun r => p r.x)).length = M + 1 by rw [HX.out, List.filter_append, List.length_append, HM.out]; simp [hpx])
          clear hpx
          go_wp2_with fail
          go_roundw
          case rel => exact ⟨k + 1, by omega, by omega, by go_num, ⟨M + 1, HF.out, by go_num⟩, HR4, LOW, LS⟩
          case measure => simp [RowKit.intOf]; omega
      · obtain rfl : k = 12 := by omega
        have b1 : ((12 : Nat) : Int) < (n' : Int) := by omega
        rw [hv_all ms' (.inl (Nat.le_refl _))] at hown hM
        obtain ⟨ha, hc, rfl⟩ := owns_slice hown
        obtain ⟨N, hN⟩ : ∃ N, (hvL ms').length = N := ⟨_, rfl⟩
        have hNl : N ≤ 12 := by rw [← hN]; exact hv_len ms'
        have HH := Lib.hid (And.intro (hv_row hown) (And.intro hN (And.intro hM LS)))
        have hML : M ≤ 12 := by rw [← hM]; exact Nat.le_trans (List.length_filter_le _ _) (hv_len ms')
        rw [hN]
        clear hown hN hM hlt
        go_wp2_with fail
        obtain ⟨MM, hMM⟩ : ∃ MM, (if d then M else 0) = MM := ⟨_, rfl⟩
        have HMM := Lib.hid hMM
        clear hMM
        have LR : Below wr.heap.size wr wr := Below.refl _ _
        go_cut [12, 13, 14] (fun s12 s13 s14 wx => ∃ z, z = wx ∧ (∃ B1 B2 ta tc a1 n1 c1 a2 n2 c2 a3 c3, s12 = .pointer (some ⟨B1, 0, none⟩) ∧ s13 = .pointer (some ⟨B2, 0, none⟩) ∧ s14 = .int .i64 0 ∧ Blk wx B1 ((Cl.new d).set ⟨ua, ta, tc, ul, true, 0⟩ 1).arr CT ∧ Blk wx B2 (rq 1 d 0 (.slice a1 n1 c1) (.slice a2 n2 c2) (.slice a3 MM c3) ⟨#[]⟩) RT ∧ TsAt wx (.slice ta ul.length tc) ul ∧ Below w.heap.size w wx ∧ Below w7.heap.size w7 wx ∧ Below wr.heap.size wr wx))
        case first =>
          have HO := Lib.hid (show (fun (A : Array Oper) => A[0]? = some { dst := some 54, op := Op.move (Operand.tmp 0), type := 4, pos := "keeps.go:83", after := #[], guard := none } ∧ A[1]? = some { dst := some 55, op := Op.call { callee := Callee.value (Operand.func 23), args := #[Operand.tmp 54], argTypes := #[4] }, type := 72, pos := "keeps.go:83", after := #[{ on := 0, ground := Ground.data }], guard := none } ∧ A[2]? = some { dst := some 56, op := Op.load 26 (Operand.tmp 8), type := 26, pos := "keeps.go:83", after := #[], guard := none } ∧ A[3]? = some { dst := some 57, op := Op.move (Operand.tmp 9), type := 32, pos := "keeps.go:83", after := #[], guard := none } ∧ A[4]? = some { dst := some 58, op := Op.call { callee := Callee.value (Operand.func 25), args := #[Operand.tmp 55, Operand.const (Value.int IntKind.i64 1), Operand.tmp 56, Operand.tmp 57], argTypes := #[72, 3, 26, 32] }, type := 74, pos := "keeps.go:83", after := #[{ on := 1, ground := Ground.data }, { on := 2, ground := Ground.data }, { on := 3, ground := Ground.data }, { on := 1, ground := Ground.chain }], guard := none } ∧ A[5]? = some { dst := some 53, op := Op.move (Operand.tmp 58), type := 74, pos := "keeps.go:83", after := #[{ on := 4, ground := Ground.data }], guard := none } ∧ A[6]? = some { dst := some 59, op := Op.extract (Operand.tmp 53) 0, type := 72, pos := "keeps.go:83", after := #[{ on := 5, ground := Ground.data }], guard := none } ∧ A[7]? = some { dst := some 60, op := Op.extract (Operand.tmp 53) 1, type := 45, pos := "keeps.go:83", after := #[{ on := 5, ground := Ground.data }, { on := 11, ground := Ground.gcOnly Departure.lateStores }], guard := none } ∧ A[8]? = some { dst := some 61, op := Op.extract (Operand.tmp 53) 2, type := 40, pos := "keeps.go:83", after := #[{ on := 5, ground := Ground.data }, { on := 12, ground := Ground.gcOnly Departure.lateStores }], guard := none } ∧ A[9]? = some { dst := some 12, op := Op.alloc 72, type := 0, pos := "keeps.go:83", after := #[], guard := none } ∧ A[10]? = some { dst := some 13, op := Op.alloc 45, type := 0, pos := "keeps.go:83", after := #[], guard := none } ∧ A[11]? = some { dst := none, op := Op.store 72 (Operand.tmp 12) (Operand.tmp 59), type := 0, pos := "keeps.go:83", after := #[{ on := 9, ground := Ground.data }, { on := 6, ground := Ground.data }, { on := 4, ground := Ground.chain }, { on := 0, ground := Ground.phase }, { on := 1, ground := Ground.phase }, { on := 2, ground := Ground.phase }, { on := 3, ground := Ground.phase }, { on := 4, ground := Ground.phase }, { on := 5, ground := Ground.phase }, { on := 6, ground := Ground.phase }, { on := 7, ground := Ground.textOnly Departure.lateStores }, { on := 8, ground := Ground.textOnly Departure.lateStores }, { on := 9, ground := Ground.phase }, { on := 10, ground := Ground.phase }], guard := none } ∧ A[12]? = some { dst := none, op := Op.store 45 (Operand.tmp 13) (Operand.tmp 60), type := 0, pos := "keeps.go:83", after := #[{ on := 10, ground := Ground.data }, { on := 7, ground := Ground.data }, { on := 11, ground := Ground.chain }, { on := 0, ground := Ground.phase }, { on := 1, ground := Ground.phase }, { on := 2, ground := Ground.phase }, { on := 3, ground := Ground.phase }, { on := 4, ground := Ground.phase }, { on := 5, ground := Ground.phase }, { on := 6, ground := Ground.phase }, { on := 7, ground := Ground.phase }, { on := 8, ground := Ground.textOnly Departure.lateStores }, { on := 9, ground := Ground.phase }, { on := 10, ground := Ground.phase }, { on := 11, ground := Ground.phase }], guard := none } ∧ A[13]? = some { dst := some 14, op := Op.assign (Operand.tmp 61), type := 40, pos := "keeps.go:83", after := #[{ on := 8, ground := Ground.data }, { on := 12, ground := Ground.chain }, { on := 0, ground := Ground.phase }, { on := 1, ground := Ground.phase }, { on := 2, ground := Ground.phase }, { on := 3, ground := Ground.phase }, { on := 4, ground := Ground.phase }, { on := 5, ground := Ground.phase }, { on := 6, ground := Ground.phase }, { on := 7, ground := Ground.phase }, { on := 8, ground := Ground.phase }, { on := 9, ground := Ground.phase }, { on := 10, ground := Ground.phase }, { on := 11, ground := Ground.phase }, { on := 12, ground := Ground.phase }], guard := none }) #[{ dst := some 54, op := Op.move (Operand.tmp 0), type := 4, pos := "keeps.go:83", after := #[], guard := none }, { dst := some 55, op := Op.call { callee := Callee.value (Operand.func 23), args := #[Operand.tmp 54], argTypes := #[4] }, type := 72, pos := "keeps.go:83", after := #[{ on := 0, ground := Ground.data }], guard := none }, { dst := some 56, op := Op.load 26 (Operand.tmp 8), type := 26, pos := "keeps.go:83", after := #[], guard := none }, { dst := some 57, op := Op.move (Operand.tmp 9), type := 32, pos := "keeps.go:83", after := #[], guard := none }, { dst := some 58, op := Op.call { callee := Callee.value (Operand.func 25), args := #[Operand.tmp 55, Operand.const (Value.int IntKind.i64 1), Operand.tmp 56, Operand.tmp 57], argTypes := #[72, 3, 26, 32] }, type := 74, pos := "keeps.go:83", after := #[{ on := 1, ground := Ground.data }, { on := 2, ground := Ground.data }, { on := 3, ground := Ground.data }, { on := 1, ground := Ground.chain }], guard := none }, { dst := some 53, op := Op.move (Operand.tmp 58), type := 74, pos := "keeps.go:83", after := #[{ on := 4, ground := Ground.data }], guard := none }, { dst := some 59, op := Op.extract (Operand.tmp 53) 0, type := 72, pos := "keeps.go:83", after := #[{ on := 5, ground := Ground.data }], guard := none }, { dst := some 60, op := Op.extract (Operand.tmp 53) 1, type := 45, pos := "keeps.go:83", after := #[{ on := 5, ground := Ground.data }, { on := 11, ground := Ground.gcOnly Departure.lateStores }], guard := none }, { dst := some 61, op := Op.extract (Operand.tmp 53) 2, type := 40, pos := "keeps.go:83", after := #[{ on := 5, ground := Ground.data }, { on := 12, ground := Ground.gcOnly Departure.lateStores }], guard := none }, { dst := some 12, op := Op.alloc 72, type := 0, pos := "keeps.go:83", after := #[], guard := none }, { dst := some 13, op := Op.alloc 45, type := 0, pos := "keeps.go:83", after := #[], guard := none }, { dst := none, op := Op.store 72 (Operand.tmp 12) (Operand.tmp 59), type := 0, pos := "keeps.go:83", after := #[{ on := 9, ground := Ground.data }, { on := 6, ground := Ground.data }, { on := 4, ground := Ground.chain }, { on := 0, ground := Ground.phase }, { on := 1, ground := Ground.phase }, { on := 2, ground := Ground.phase }, { on := 3, ground := Ground.phase }, { on := 4, ground := Ground.phase }, { on := 5, ground := Ground.phase }, { on := 6, ground := Ground.phase }, { on := 7, ground := Ground.textOnly Departure.lateStores }, { on := 8, ground := Ground.textOnly Departure.lateStores }, { on := 9, ground := Ground.phase }, { on := 10, ground := Ground.phase }], guard := none }, { dst := none, op := Op.store 45 (Operand.tmp 13) (Operand.tmp 60), type := 0, pos := "keeps.go:83", after := #[{ on := 10, ground := Ground.data }, { on := 7, ground := Ground.data }, { on := 11, ground := Ground.chain }, { on := 0, ground := Ground.phase }, { on := 1, ground := Ground.phase }, { on := 2, ground := Ground.phase }, { on := 3, ground := Ground.phase }, { on := 4, ground := Ground.phase }, { on := 5, ground := Ground.phase }, { on := 6, ground := Ground.phase }, { on := 7, ground := Ground.phase }, { on := 8, ground := Ground.textOnly Departure.lateStores }, { on := 9, ground := Ground.phase }, { on := 10, ground := Ground.phase }, { on := 11, ground := Ground.phase }], guard := none }, { dst := some 14, op := Op.assign (Operand.tmp 61), type := 40, pos := "keeps.go:83", after := #[{ on := 8, ground := Ground.data }, { on := 12, ground := Ground.chain }, { on := 0, ground := Ground.phase }, { on := 1, ground := Ground.phase }, { on := 2, ground := Ground.phase }, { on := 3, ground := Ground.phase }, { on := 4, ground := Ground.phase }, { on := 5, ground := Ground.phase }, { on := 6, ground := Ground.phase }, { on := 7, ground := Ground.phase }, { on := 8, ground := Ground.phase }, { on := 9, ground := Ground.phase }, { on := 10, ground := Ground.phase }, { on := 11, ground := Ground.phase }, { on := 12, ground := Ground.phase }], guard := none }] from ⟨by kernel_rfl, by kernel_rfl, by kernel_rfl, by kernel_rfl, by kernel_rfl, by kernel_rfl, by kernel_rfl, by kernel_rfl, by kernel_rfl, by kernel_rfl, by kernel_rfl, by kernel_rfl, by kernel_rfl, by kernel_rfl⟩)
          obtain ⟨w21, hw22, hb23⟩ := drew_new wr
          replace LOW := LOW.trans (hb23.mono LOW.size)
          replace LS := LS.trans (hb23.mono LS.size)
          replace LR := LR.trans (hb23.mono LR.size)
          refine wp_region_held_drew (S := (fun w' => w'.cell? ⟨w5.heap.size, 0, none⟩ = some (.bool ua) ∧ w'.cell? ⟨w5.heap.size, 1, none⟩ = some (.slice oa ul.length oc) ∧ True)) (by kernel_rfl) (by rw [hw22]; exact ⟨(HS.out.1.later LS).cell 0, (HS.out.1.later LS).cell 1, trivial⟩) (fun hHeld => ?_)
          rw [hw22] at hHeld ⊢
          clear hw22 hb23
          refine wpAnyH_take (i := 0) (v := ?v1001) HO.out.1 (by kernel_rfl) (by kernel_rfl) (by kernel_rfl) (fun _ _ _ h => h) (Or.inl ⟨by rfl, ?hy1001⟩) (by assumption) ?rest1001
          case hy1001 => (intro w1 hSw; (try dsimp only at hSw); obtain ⟨h0, h1, -⟩ := hSw; go_simp; try with_reducible rfl)
          try simp only [Act.put, List.setIfInBounds_toArray, List.set_cons_zero, List.set_cons_succ]
          refine wpAnyH_take (i := 2) (v := ?v1002) HO.out.2.2.1 (by kernel_rfl) (by kernel_rfl) (by kernel_rfl) (fun _ _ _ h => h) (Or.inl ⟨by rfl, ?hy1002⟩) (by assumption) ?rest1002
          case hy1002 => (intro w1 hSw; (try dsimp only at hSw); obtain ⟨h0, h1, -⟩ := hSw; go_simp; try with_reducible rfl)
          try simp only [Act.put, List.setIfInBounds_toArray, List.set_cons_zero, List.set_cons_succ]
          refine wpAnyH_take (i := 3) (v := ?v1003) HO.out.2.2.2.1 (by kernel_rfl) (by kernel_rfl) (by kernel_rfl) (fun _ _ _ h => h) (Or.inl ⟨by rfl, ?hy1003⟩) (by assumption) ?rest1003
          case hy1003 => (intro w1 hSw; (try dsimp only at hSw); obtain ⟨h0, h1, -⟩ := hSw; go_simp; try with_reducible rfl)
          try simp only [Act.put, List.setIfInBounds_toArray, List.set_cons_zero, List.set_cons_succ]
          refine wpAnyH_ready (rs := [1, 9, 10]) (by kernel_rfl) (by simp) ?_
          refine AllReadyH.cons HO.out.2.1 (fun K hK => ?_) ?_
          · go_simp
            refine (new_any d _).mono ?_
            rintro e w24 ⟨rfl, hb25⟩
            replace LOW := LOW.trans (hb25.mono LOW.size)
            replace LS := LS.trans (hb25.mono LS.size)
            replace LR := LR.trans (hb25.mono LR.size)
            clear hb25
            try clear hHeld
            refine hK.out _ _ (⟨(HS.out.1.later LS).cell 0, (HS.out.1.later LS).cell 1, trivial⟩) (fun hHeld => ?_)
            clear hK K
            try simp only [Act.put, List.setIfInBounds_toArray, List.set_cons_zero, List.set_cons_succ]
            refine wpAnyH_ready (rs := [4, 9, 10]) (by kernel_rfl) (by simp) ?_
            refine AllReadyH.cons HO.out.2.2.2.2.1 (fun K hK => ?_) ?_
            · go_simp
              refine (ask_zero_h (x := Cl.new d) (d := d) (k := 1) (n := N) (m := MM) (hs := hvL ms') rfl (by omega) (by omega) rfl HFi.out.2.2.2.2 HFi.out.2.2.1 (by have := HFi.out.2.2.2.1; omega) (HS.out.2.1.later LS) (HH.out.1.later LR) HH.out.2.1 (by omega) (by rw [HU.out.2.1, HH.out.2.2.1]; exact HMM.out)).mono ?_
              rintro e w26 ⟨ta, tc, a1, n1, c1, a2, n2, c2, a3, c3, rfl, TN, hb27⟩
              replace LOW := LOW.trans (hb27.mono LOW.size)
              replace LS := LS.trans (hb27.mono LS.size)
              replace LR := LR.trans (hb27.mono LR.size)
              clear hb27
              try clear hHeld
              refine hK.out _ _ (⟨(HS.out.1.later LS).cell 0, (HS.out.1.later LS).cell 1, trivial⟩) (fun hHeld => ?_)
              clear hK K
              try simp only [Act.put, List.setIfInBounds_toArray, List.set_cons_zero, List.set_cons_succ]
              refine wpAnyH_take (i := 5) (v := ?v1004) HO.out.2.2.2.2.2.1 (by kernel_rfl) (by kernel_rfl) (by kernel_rfl) (fun _ _ _ h => h) (Or.inl ⟨by rfl, ?hy1004⟩) (by assumption) ?rest1004
              case hy1004 => (intro w1 hSw; (try dsimp only at hSw); obtain ⟨h0, h1, -⟩ := hSw; go_simp; try with_reducible rfl)
              try simp only [Act.put, List.setIfInBounds_toArray, List.set_cons_zero, List.set_cons_succ]
              refine wpAnyH_take (i := 6) (v := ?v1005) HO.out.2.2.2.2.2.2.1 (by kernel_rfl) (by kernel_rfl) (by kernel_rfl) (fun _ _ _ h => h) (Or.inl ⟨by rfl, ?hy1005⟩) (by assumption) ?rest1005
              case hy1005 => (intro w1 hSw; (try dsimp only at hSw); obtain ⟨h0, h1, -⟩ := hSw; go_simp; try with_reducible rfl)
              try simp only [Act.put, List.setIfInBounds_toArray, List.set_cons_zero, List.set_cons_succ]
              refine wpAnyH_take (i := 7) (v := ?v1006) HO.out.2.2.2.2.2.2.2.1 (by kernel_rfl) (by kernel_rfl) (by kernel_rfl) (fun _ _ _ h => h) (Or.inl ⟨by rfl, ?hy1006⟩) (by assumption) ?rest1006
              case hy1006 => (intro w1 hSw; (try dsimp only at hSw); obtain ⟨h0, h1, -⟩ := hSw; go_simp; try with_reducible rfl)
              try simp only [Act.put, List.setIfInBounds_toArray, List.set_cons_zero, List.set_cons_succ]
              refine wpAnyH_take (i := 8) (v := ?v1007) HO.out.2.2.2.2.2.2.2.2.1 (by kernel_rfl) (by kernel_rfl) (by kernel_rfl) (fun _ _ _ h => h) (Or.inl ⟨by rfl, ?hy1007⟩) (by assumption) ?rest1007
              case hy1007 => (intro w1 hSw; (try dsimp only at hSw); obtain ⟨h0, h1, -⟩ := hSw; go_simp; try with_reducible rfl)
              try simp only [Act.put, List.setIfInBounds_toArray, List.set_cons_zero, List.set_cons_succ]
              refine wpAnyH_ready (rs := [9, 10]) (by kernel_rfl) (by simp) ?_
              refine AllReadyH.cons HO.out.2.2.2.2.2.2.2.2.2.1 (fun K hK => ?_) ?_
              · go_simp
                have LE31 := Lib.hid LOW.size
                have LE32 := Lib.hid LS.size
                have LE33 := Lib.hid LR.size
                obtain ⟨w28, hw29, hb30, PC⟩ := alloc_new w26 Cl.zero.arr CT
                replace hw29 : w26.alloc (.cells #[.bool false, .bool false, .slice none 0 0, .bool false, .int .u64 0, .bool false, .slice none 0 0, .bool false, .int .u64 0, .bool false, .slice none 0 0, .bool false, .int .u64 0, .bool false, .slice none 0 0, .bool false, .int .u64 0, .bool false, .slice none 0 0, .bool false, .int .u64 0, .bool false, .slice none 0 0, .bool false, .int .u64 0] CT) = w28 := hw29
                replace TN := TN.later hb30
                replace LOW := LOW.trans (hb30.mono LOW.size)
                replace LS := LS.trans (hb30.mono LS.size)
                replace LR := LR.trans (hb30.mono LR.size)
                clear hb30
                rw [hw29]
                clear hw29
                try clear hHeld
                refine hK.out _ _ (⟨(HS.out.1.later LS).cell 0, (HS.out.1.later LS).cell 1, trivial⟩) (fun hHeld => ?_)
                clear hK K
                try simp only [Act.put, List.setIfInBounds_toArray, List.set_cons_zero, List.set_cons_succ]
                refine wpAnyH_ready (rs := [10]) (by kernel_rfl) (by simp) ?_
                refine AllReadyH.cons HO.out.2.2.2.2.2.2.2.2.2.2.1 (fun K hK => ?_) AllReadyH.nil
                go_simp
                have LE37 := Lib.hid LOW.size
                have LE38 := Lib.hid LS.size
                have LE39 := Lib.hid LR.size
                obtain ⟨w34, hw35, hb36, R1⟩ := alloc_new w28 rq0 RT
                replace PC := PC.later hb36
                replace TN := TN.later hb36
                replace LOW := LOW.trans (hb36.mono LOW.size)
                replace LS := LS.trans (hb36.mono LS.size)
                replace LR := LR.trans (hb36.mono LR.size)
                clear hb36
                rw [hw35]
                clear hw35
                try clear hHeld
                refine hK.out _ _ (⟨(HS.out.1.later LS).cell 0, (HS.out.1.later LS).cell 1, trivial⟩) (fun hHeld => ?_)
                clear hK K
                try simp only [Act.put, List.setIfInBounds_toArray, List.set_cons_zero, List.set_cons_succ]
                refine wpAnyH_ready (rs := [11]) (by kernel_rfl) (by simp) ?_
                refine AllReadyH.cons HO.out.2.2.2.2.2.2.2.2.2.2.2.1 (fun K hK => ?_) AllReadyH.nil
                rw [if_pos (by rfl)]
                refine wp_store_cl _ _ Cl.zero ((Cl.new d).set ⟨ua, ta, tc, ul, true, 0⟩ 1) w26.heap.size rfl (by rfl) (by rfl) PC ?_
                intro w40 p41 j42
                have mv43 := j42.blk (Blk.ne R1 PC (by decide)) R1
                have mv44 := j42.ts PC (cl_no _ _) TN
                have mv45 := LOW.trans (j42.below LE31.out)
                have mv46 := LS.trans (j42.below LE32.out)
                have mv47 := LR.trans (j42.below LE33.out)
                replace R1 := mv43
                replace TN := mv44
                replace LOW := mv45
                replace LS := mv46
                replace LR := mv47
                replace PC := p41
                try clear hHeld
                refine hK.out _ _ (⟨(HS.out.1.later LS).cell 0, (HS.out.1.later LS).cell 1, trivial⟩) (fun hHeld => ?_)
                clear hK K
                simp only [Act.put]
                refine wpAnyH_ready (rs := [12]) (by kernel_rfl) (by simp) ?_
                refine AllReadyH.cons HO.out.2.2.2.2.2.2.2.2.2.2.2.2.1 (fun K hK => ?_) AllReadyH.nil
                rw [if_pos (by rfl)]
                refine wp_store_rq _ _ w28.heap.size rfl (by rfl) (by rfl) R1 rfl (by rfl) (by first | (simp [Value.oneCell']; done) | simp [rq, Value.oneCell']) ?_
                intro w48 p49 j50
                have mv51 := j50.blk (Blk.ne PC R1 (by decide)) PC
                have mv52 := j50.ts R1 (rq0_no neN) TN
                have mv53 := LOW.trans (j50.below LE37.out)
                have mv54 := LS.trans (j50.below LE38.out)
                have mv55 := LR.trans (j50.below LE39.out)
                replace PC := mv51
                replace TN := mv52
                replace LOW := mv53
                replace LS := mv54
                replace LR := mv55
                replace R1 := p49
                try clear hHeld
                refine hK.out _ _ (⟨(HS.out.1.later LS).cell 0, (HS.out.1.later LS).cell 1, trivial⟩) (fun hHeld => ?_)
                clear hK K
                simp only [Act.put]
                refine wpAnyH_take (i := 13) (v := ?v1008) HO.out.2.2.2.2.2.2.2.2.2.2.2.2.2 (by kernel_rfl) (by kernel_rfl) (by kernel_rfl) (fun _ _ _ h => h) (Or.inl ⟨by rfl, ?hy1008⟩) (by assumption) ?rest1008
                case hy1008 => (intro w1 hSw; (try dsimp only at hSw); obtain ⟨h0, h1, -⟩ := hSw; go_simp; try with_reducible rfl)
                try simp only [Act.put, List.setIfInBounds_toArray, List.set_cons_zero, List.set_cons_succ]
                refine wpAnyH_done (by kernel_rfl) ?_ _
                go_wp2_with fail
                go_meet
                exact ⟨_, rfl, _, _, ta, tc, a1, n1, c1, a2, n2, c2, a3, c3, rfl, rfl, rfl, PC, R1, TN, LOW, LS, LR⟩
              refine AllReadyH.cons HO.out.2.2.2.2.2.2.2.2.2.2.1 (fun K hK => ?_) AllReadyH.nil
              go_simp
              have LE59 := Lib.hid LOW.size
              have LE60 := Lib.hid LS.size
              have LE61 := Lib.hid LR.size
              obtain ⟨w56, hw57, hb58, R1⟩ := alloc_new w26 rq0 RT
              replace TN := TN.later hb58
              replace LOW := LOW.trans (hb58.mono LOW.size)
              replace LS := LS.trans (hb58.mono LS.size)
              replace LR := LR.trans (hb58.mono LR.size)
              clear hb58
              rw [hw57]
              clear hw57
              try clear hHeld
              refine hK.out _ _ (⟨(HS.out.1.later LS).cell 0, (HS.out.1.later LS).cell 1, trivial⟩) (fun hHeld => ?_)
              clear hK K
              try simp only [Act.put, List.setIfInBounds_toArray, List.set_cons_zero, List.set_cons_succ]
              refine wpAnyH_ready (rs := [9]) (by kernel_rfl) (by simp) ?_
              refine AllReadyH.cons HO.out.2.2.2.2.2.2.2.2.2.1 (fun K hK => ?_) AllReadyH.nil
              go_simp
              have LE65 := Lib.hid LOW.size
              have LE66 := Lib.hid LS.size
              have LE67 := Lib.hid LR.size
              obtain ⟨w62, hw63, hb64, PC⟩ := alloc_new w56 Cl.zero.arr CT
              replace hw63 : w56.alloc (.cells #[.bool false, .bool false, .slice none 0 0, .bool false, .int .u64 0, .bool false, .slice none 0 0, .bool false, .int .u64 0, .bool false, .slice none 0 0, .bool false, .int .u64 0, .bool false, .slice none 0 0, .bool false, .int .u64 0, .bool false, .slice none 0 0, .bool false, .int .u64 0, .bool false, .slice none 0 0, .bool false, .int .u64 0] CT) = w62 := hw63
              replace R1 := R1.later hb64
              replace TN := TN.later hb64
              replace LOW := LOW.trans (hb64.mono LOW.size)
              replace LS := LS.trans (hb64.mono LS.size)
              replace LR := LR.trans (hb64.mono LR.size)
              clear hb64
              rw [hw63]
              clear hw63
              try clear hHeld
              refine hK.out _ _ (⟨(HS.out.1.later LS).cell 0, (HS.out.1.later LS).cell 1, trivial⟩) (fun hHeld => ?_)
              clear hK K
              try simp only [Act.put, List.setIfInBounds_toArray, List.set_cons_zero, List.set_cons_succ]
              refine wpAnyH_ready (rs := [11]) (by kernel_rfl) (by simp) ?_
              refine AllReadyH.cons HO.out.2.2.2.2.2.2.2.2.2.2.2.1 (fun K hK => ?_) AllReadyH.nil
              rw [if_pos (by rfl)]
              refine wp_store_cl _ _ Cl.zero ((Cl.new d).set ⟨ua, ta, tc, ul, true, 0⟩ 1) w56.heap.size rfl (by rfl) (by rfl) PC ?_
              intro w68 p69 j70
              have mv71 := j70.blk (Blk.ne R1 PC (by decide)) R1
              have mv72 := j70.ts PC (cl_no _ _) TN
              have mv73 := LOW.trans (j70.below LE65.out)
              have mv74 := LS.trans (j70.below LE66.out)
              have mv75 := LR.trans (j70.below LE67.out)
              replace R1 := mv71
              replace TN := mv72
              replace LOW := mv73
              replace LS := mv74
              replace LR := mv75
              replace PC := p69
              try clear hHeld
              refine hK.out _ _ (⟨(HS.out.1.later LS).cell 0, (HS.out.1.later LS).cell 1, trivial⟩) (fun hHeld => ?_)
              clear hK K
              simp only [Act.put]
              refine wpAnyH_ready (rs := [12]) (by kernel_rfl) (by simp) ?_
              refine AllReadyH.cons HO.out.2.2.2.2.2.2.2.2.2.2.2.2.1 (fun K hK => ?_) AllReadyH.nil
              rw [if_pos (by rfl)]
              refine wp_store_rq _ _ w26.heap.size rfl (by rfl) (by rfl) R1 rfl (by rfl) (by first | (simp [Value.oneCell']; done) | simp [rq, Value.oneCell']) ?_
              intro w76 p77 j78
              have mv79 := j78.blk (Blk.ne PC R1 (by decide)) PC
              have mv80 := j78.ts R1 (rq0_no neN) TN
              have mv81 := LOW.trans (j78.below LE59.out)
              have mv82 := LS.trans (j78.below LE60.out)
              have mv83 := LR.trans (j78.below LE61.out)
              replace PC := mv79
              replace TN := mv80
              replace LOW := mv81
              replace LS := mv82
              replace LR := mv83
              replace R1 := p77
              try clear hHeld
              refine hK.out _ _ (⟨(HS.out.1.later LS).cell 0, (HS.out.1.later LS).cell 1, trivial⟩) (fun hHeld => ?_)
              clear hK K
              simp only [Act.put]
              refine wpAnyH_take (i := 13) (v := ?v1009) HO.out.2.2.2.2.2.2.2.2.2.2.2.2.2 (by kernel_rfl) (by kernel_rfl) (by kernel_rfl) (fun _ _ _ h => h) (Or.inl ⟨by rfl, ?hy1009⟩) (by assumption) ?rest1009
              case hy1009 => (intro w1 hSw; (try dsimp only at hSw); obtain ⟨h0, h1, -⟩ := hSw; go_simp; try with_reducible rfl)
              try simp only [Act.put, List.setIfInBounds_toArray, List.set_cons_zero, List.set_cons_succ]
              refine wpAnyH_done (by kernel_rfl) ?_ _
              go_wp2_with fail
              go_meet
              exact ⟨_, rfl, _, _, ta, tc, a1, n1, c1, a2, n2, c2, a3, c3, rfl, rfl, rfl, PC, R1, TN, LOW, LS, LR⟩
            refine AllReadyH.cons HO.out.2.2.2.2.2.2.2.2.2.1 (fun K hK => ?_) ?_
            · go_simp
              have LE87 := Lib.hid LOW.size
              have LE88 := Lib.hid LS.size
              have LE89 := Lib.hid LR.size
              obtain ⟨w84, hw85, hb86, PC⟩ := alloc_new w24 Cl.zero.arr CT
              replace hw85 : w24.alloc (.cells #[.bool false, .bool false, .slice none 0 0, .bool false, .int .u64 0, .bool false, .slice none 0 0, .bool false, .int .u64 0, .bool false, .slice none 0 0, .bool false, .int .u64 0, .bool false, .slice none 0 0, .bool false, .int .u64 0, .bool false, .slice none 0 0, .bool false, .int .u64 0, .bool false, .slice none 0 0, .bool false, .int .u64 0] CT) = w84 := hw85
              replace LOW := LOW.trans (hb86.mono LOW.size)
              replace LS := LS.trans (hb86.mono LS.size)
              replace LR := LR.trans (hb86.mono LR.size)
              clear hb86
              rw [hw85]
              clear hw85
              try clear hHeld
              refine hK.out _ _ (⟨(HS.out.1.later LS).cell 0, (HS.out.1.later LS).cell 1, trivial⟩) (fun hHeld => ?_)
              clear hK K
              try simp only [Act.put, List.setIfInBounds_toArray, List.set_cons_zero, List.set_cons_succ]
              refine wpAnyH_ready (rs := [4, 10]) (by kernel_rfl) (by simp) ?_
              refine AllReadyH.cons HO.out.2.2.2.2.1 (fun K hK => ?_) ?_
              · go_simp
                refine (ask_zero_h (x := Cl.new d) (d := d) (k := 1) (n := N) (m := MM) (hs := hvL ms') rfl (by omega) (by omega) rfl HFi.out.2.2.2.2 HFi.out.2.2.1 (by have := HFi.out.2.2.2.1; omega) (HS.out.2.1.later LS) (HH.out.1.later LR) HH.out.2.1 (by omega) (by rw [HU.out.2.1, HH.out.2.2.1]; exact HMM.out)).mono ?_
                rintro e w90 ⟨ta, tc, a1, n1, c1, a2, n2, c2, a3, c3, rfl, TN, hb91⟩
                replace PC := PC.later hb91
                replace LOW := LOW.trans (hb91.mono LOW.size)
                replace LS := LS.trans (hb91.mono LS.size)
                replace LR := LR.trans (hb91.mono LR.size)
                clear hb91
                try clear hHeld
                refine hK.out _ _ (⟨(HS.out.1.later LS).cell 0, (HS.out.1.later LS).cell 1, trivial⟩) (fun hHeld => ?_)
                clear hK K
                try simp only [Act.put, List.setIfInBounds_toArray, List.set_cons_zero, List.set_cons_succ]
                refine wpAnyH_take (i := 5) (v := ?v1010) HO.out.2.2.2.2.2.1 (by kernel_rfl) (by kernel_rfl) (by kernel_rfl) (fun _ _ _ h => h) (Or.inl ⟨by rfl, ?hy1010⟩) (by assumption) ?rest1010
                case hy1010 => (intro w1 hSw; (try dsimp only at hSw); obtain ⟨h0, h1, -⟩ := hSw; go_simp; try with_reducible rfl)
                try simp only [Act.put, List.setIfInBounds_toArray, List.set_cons_zero, List.set_cons_succ]
                refine wpAnyH_take (i := 6) (v := ?v1011) HO.out.2.2.2.2.2.2.1 (by kernel_rfl) (by kernel_rfl) (by kernel_rfl) (fun _ _ _ h => h) (Or.inl ⟨by rfl, ?hy1011⟩) (by assumption) ?rest1011
                case hy1011 => (intro w1 hSw; (try dsimp only at hSw); obtain ⟨h0, h1, -⟩ := hSw; go_simp; try with_reducible rfl)
                try simp only [Act.put, List.setIfInBounds_toArray, List.set_cons_zero, List.set_cons_succ]
                refine wpAnyH_take (i := 7) (v := ?v1012) HO.out.2.2.2.2.2.2.2.1 (by kernel_rfl) (by kernel_rfl) (by kernel_rfl) (fun _ _ _ h => h) (Or.inl ⟨by rfl, ?hy1012⟩) (by assumption) ?rest1012
                case hy1012 => (intro w1 hSw; (try dsimp only at hSw); obtain ⟨h0, h1, -⟩ := hSw; go_simp; try with_reducible rfl)
                try simp only [Act.put, List.setIfInBounds_toArray, List.set_cons_zero, List.set_cons_succ]
                refine wpAnyH_take (i := 8) (v := ?v1013) HO.out.2.2.2.2.2.2.2.2.1 (by kernel_rfl) (by kernel_rfl) (by kernel_rfl) (fun _ _ _ h => h) (Or.inl ⟨by rfl, ?hy1013⟩) (by assumption) ?rest1013
                case hy1013 => (intro w1 hSw; (try dsimp only at hSw); obtain ⟨h0, h1, -⟩ := hSw; go_simp; try with_reducible rfl)
                try simp only [Act.put, List.setIfInBounds_toArray, List.set_cons_zero, List.set_cons_succ]
                refine wpAnyH_ready (rs := [10]) (by kernel_rfl) (by simp) ?_
                refine AllReadyH.cons HO.out.2.2.2.2.2.2.2.2.2.2.1 (fun K hK => ?_) AllReadyH.nil
                go_simp
                have LE95 := Lib.hid LOW.size
                have LE96 := Lib.hid LS.size
                have LE97 := Lib.hid LR.size
                obtain ⟨w92, hw93, hb94, R1⟩ := alloc_new w90 rq0 RT
                replace PC := PC.later hb94
                replace TN := TN.later hb94
                replace LOW := LOW.trans (hb94.mono LOW.size)
                replace LS := LS.trans (hb94.mono LS.size)
                replace LR := LR.trans (hb94.mono LR.size)
                clear hb94
                rw [hw93]
                clear hw93
                try clear hHeld
                refine hK.out _ _ (⟨(HS.out.1.later LS).cell 0, (HS.out.1.later LS).cell 1, trivial⟩) (fun hHeld => ?_)
                clear hK K
                try simp only [Act.put, List.setIfInBounds_toArray, List.set_cons_zero, List.set_cons_succ]
                refine wpAnyH_ready (rs := [11]) (by kernel_rfl) (by simp) ?_
                refine AllReadyH.cons HO.out.2.2.2.2.2.2.2.2.2.2.2.1 (fun K hK => ?_) AllReadyH.nil
                rw [if_pos (by rfl)]
                refine wp_store_cl _ _ Cl.zero ((Cl.new d).set ⟨ua, ta, tc, ul, true, 0⟩ 1) w24.heap.size rfl (by rfl) (by rfl) PC ?_
                intro w98 p99 j100
                have mv101 := j100.blk (Blk.ne R1 PC (by decide)) R1
                have mv102 := j100.ts PC (cl_no _ _) TN
                have mv103 := LOW.trans (j100.below LE87.out)
                have mv104 := LS.trans (j100.below LE88.out)
                have mv105 := LR.trans (j100.below LE89.out)
                replace R1 := mv101
                replace TN := mv102
                replace LOW := mv103
                replace LS := mv104
                replace LR := mv105
                replace PC := p99
                try clear hHeld
                refine hK.out _ _ (⟨(HS.out.1.later LS).cell 0, (HS.out.1.later LS).cell 1, trivial⟩) (fun hHeld => ?_)
                clear hK K
                simp only [Act.put]
                refine wpAnyH_ready (rs := [12]) (by kernel_rfl) (by simp) ?_
                refine AllReadyH.cons HO.out.2.2.2.2.2.2.2.2.2.2.2.2.1 (fun K hK => ?_) AllReadyH.nil
                rw [if_pos (by rfl)]
                refine wp_store_rq _ _ w90.heap.size rfl (by rfl) (by rfl) R1 rfl (by rfl) (by first | (simp [Value.oneCell']; done) | simp [rq, Value.oneCell']) ?_
                intro w106 p107 j108
                have mv109 := j108.blk (Blk.ne PC R1 (by decide)) PC
                have mv110 := j108.ts R1 (rq0_no neN) TN
                have mv111 := LOW.trans (j108.below LE95.out)
                have mv112 := LS.trans (j108.below LE96.out)
                have mv113 := LR.trans (j108.below LE97.out)
                replace PC := mv109
                replace TN := mv110
                replace LOW := mv111
                replace LS := mv112
                replace LR := mv113
                replace R1 := p107
                try clear hHeld
                refine hK.out _ _ (⟨(HS.out.1.later LS).cell 0, (HS.out.1.later LS).cell 1, trivial⟩) (fun hHeld => ?_)
                clear hK K
                simp only [Act.put]
                refine wpAnyH_take (i := 13) (v := ?v1014) HO.out.2.2.2.2.2.2.2.2.2.2.2.2.2 (by kernel_rfl) (by kernel_rfl) (by kernel_rfl) (fun _ _ _ h => h) (Or.inl ⟨by rfl, ?hy1014⟩) (by assumption) ?rest1014
                case hy1014 => (intro w1 hSw; (try dsimp only at hSw); obtain ⟨h0, h1, -⟩ := hSw; go_simp; try with_reducible rfl)
                try simp only [Act.put, List.setIfInBounds_toArray, List.set_cons_zero, List.set_cons_succ]
                refine wpAnyH_done (by kernel_rfl) ?_ _
                go_wp2_with fail
                go_meet
                exact ⟨_, rfl, _, _, ta, tc, a1, n1, c1, a2, n2, c2, a3, c3, rfl, rfl, rfl, PC, R1, TN, LOW, LS, LR⟩
              refine AllReadyH.cons HO.out.2.2.2.2.2.2.2.2.2.2.1 (fun K hK => ?_) AllReadyH.nil
              go_simp
              have LE117 := Lib.hid LOW.size
              have LE118 := Lib.hid LS.size
              have LE119 := Lib.hid LR.size
              obtain ⟨w114, hw115, hb116, R1⟩ := alloc_new w84 rq0 RT
              replace PC := PC.later hb116
              replace LOW := LOW.trans (hb116.mono LOW.size)
              replace LS := LS.trans (hb116.mono LS.size)
              replace LR := LR.trans (hb116.mono LR.size)
              clear hb116
              rw [hw115]
              clear hw115
              try clear hHeld
              refine hK.out _ _ (⟨(HS.out.1.later LS).cell 0, (HS.out.1.later LS).cell 1, trivial⟩) (fun hHeld => ?_)
              clear hK K
              try simp only [Act.put, List.setIfInBounds_toArray, List.set_cons_zero, List.set_cons_succ]
              refine wpAnyH_ready (rs := [4]) (by kernel_rfl) (by simp) ?_
              refine AllReadyH.cons HO.out.2.2.2.2.1 (fun K hK => ?_) AllReadyH.nil
              go_simp
              refine (ask_zero_h (x := Cl.new d) (d := d) (k := 1) (n := N) (m := MM) (hs := hvL ms') rfl (by omega) (by omega) rfl HFi.out.2.2.2.2 HFi.out.2.2.1 (by have := HFi.out.2.2.2.1; omega) (HS.out.2.1.later LS) (HH.out.1.later LR) HH.out.2.1 (by omega) (by rw [HU.out.2.1, HH.out.2.2.1]; exact HMM.out)).mono ?_
              rintro e w120 ⟨ta, tc, a1, n1, c1, a2, n2, c2, a3, c3, rfl, TN, hb121⟩
              replace PC := PC.later hb121
              replace R1 := R1.later hb121
              replace LOW := LOW.trans (hb121.mono LOW.size)
              replace LS := LS.trans (hb121.mono LS.size)
              replace LR := LR.trans (hb121.mono LR.size)
              clear hb121
              try clear hHeld
              refine hK.out _ _ (⟨(HS.out.1.later LS).cell 0, (HS.out.1.later LS).cell 1, trivial⟩) (fun hHeld => ?_)
              clear hK K
              try simp only [Act.put, List.setIfInBounds_toArray, List.set_cons_zero, List.set_cons_succ]
              refine wpAnyH_take (i := 5) (v := ?v1015) HO.out.2.2.2.2.2.1 (by kernel_rfl) (by kernel_rfl) (by kernel_rfl) (fun _ _ _ h => h) (Or.inl ⟨by rfl, ?hy1015⟩) (by assumption) ?rest1015
              case hy1015 => (intro w1 hSw; (try dsimp only at hSw); obtain ⟨h0, h1, -⟩ := hSw; go_simp; try with_reducible rfl)
              try simp only [Act.put, List.setIfInBounds_toArray, List.set_cons_zero, List.set_cons_succ]
              refine wpAnyH_take (i := 6) (v := ?v1016) HO.out.2.2.2.2.2.2.1 (by kernel_rfl) (by kernel_rfl) (by kernel_rfl) (fun _ _ _ h => h) (Or.inl ⟨by rfl, ?hy1016⟩) (by assumption) ?rest1016
              case hy1016 => (intro w1 hSw; (try dsimp only at hSw); obtain ⟨h0, h1, -⟩ := hSw; go_simp; try with_reducible rfl)
              try simp only [Act.put, List.setIfInBounds_toArray, List.set_cons_zero, List.set_cons_succ]
              refine wpAnyH_take (i := 7) (v := ?v1017) HO.out.2.2.2.2.2.2.2.1 (by kernel_rfl) (by kernel_rfl) (by kernel_rfl) (fun _ _ _ h => h) (Or.inl ⟨by rfl, ?hy1017⟩) (by assumption) ?rest1017
              case hy1017 => (intro w1 hSw; (try dsimp only at hSw); obtain ⟨h0, h1, -⟩ := hSw; go_simp; try with_reducible rfl)
              try simp only [Act.put, List.setIfInBounds_toArray, List.set_cons_zero, List.set_cons_succ]
              refine wpAnyH_take (i := 8) (v := ?v1018) HO.out.2.2.2.2.2.2.2.2.1 (by kernel_rfl) (by kernel_rfl) (by kernel_rfl) (fun _ _ _ h => h) (Or.inl ⟨by rfl, ?hy1018⟩) (by assumption) ?rest1018
              case hy1018 => (intro w1 hSw; (try dsimp only at hSw); obtain ⟨h0, h1, -⟩ := hSw; go_simp; try with_reducible rfl)
              try simp only [Act.put, List.setIfInBounds_toArray, List.set_cons_zero, List.set_cons_succ]
              refine wpAnyH_ready (rs := [11]) (by kernel_rfl) (by simp) ?_
              refine AllReadyH.cons HO.out.2.2.2.2.2.2.2.2.2.2.2.1 (fun K hK => ?_) AllReadyH.nil
              rw [if_pos (by rfl)]
              refine wp_store_cl _ _ Cl.zero ((Cl.new d).set ⟨ua, ta, tc, ul, true, 0⟩ 1) w24.heap.size rfl (by rfl) (by rfl) PC ?_
              intro w122 p123 j124
              have mv125 := j124.blk (Blk.ne R1 PC (by decide)) R1
              have mv126 := j124.ts PC (cl_no _ _) TN
              have mv127 := LOW.trans (j124.below LE87.out)
              have mv128 := LS.trans (j124.below LE88.out)
              have mv129 := LR.trans (j124.below LE89.out)
              replace R1 := mv125
              replace TN := mv126
              replace LOW := mv127
              replace LS := mv128
              replace LR := mv129
              replace PC := p123
              try clear hHeld
              refine hK.out _ _ (⟨(HS.out.1.later LS).cell 0, (HS.out.1.later LS).cell 1, trivial⟩) (fun hHeld => ?_)
              clear hK K
              simp only [Act.put]
              refine wpAnyH_ready (rs := [12]) (by kernel_rfl) (by simp) ?_
              refine AllReadyH.cons HO.out.2.2.2.2.2.2.2.2.2.2.2.2.1 (fun K hK => ?_) AllReadyH.nil
              rw [if_pos (by rfl)]
              refine wp_store_rq _ _ w84.heap.size rfl (by rfl) (by rfl) R1 rfl (by rfl) (by first | (simp [Value.oneCell']; done) | simp [rq, Value.oneCell']) ?_
              intro w130 p131 j132
              have mv133 := j132.blk (Blk.ne PC R1 (by decide)) PC
              have mv134 := j132.ts R1 (rq0_no neN) TN
              have mv135 := LOW.trans (j132.below LE117.out)
              have mv136 := LS.trans (j132.below LE118.out)
              have mv137 := LR.trans (j132.below LE119.out)
              replace PC := mv133
              replace TN := mv134
              replace LOW := mv135
              replace LS := mv136
              replace LR := mv137
              replace R1 := p131
              try clear hHeld
              refine hK.out _ _ (⟨(HS.out.1.later LS).cell 0, (HS.out.1.later LS).cell 1, trivial⟩) (fun hHeld => ?_)
              clear hK K
              simp only [Act.put]
              refine wpAnyH_take (i := 13) (v := ?v1019) HO.out.2.2.2.2.2.2.2.2.2.2.2.2.2 (by kernel_rfl) (by kernel_rfl) (by kernel_rfl) (fun _ _ _ h => h) (Or.inl ⟨by rfl, ?hy1019⟩) (by assumption) ?rest1019
              case hy1019 => (intro w1 hSw; (try dsimp only at hSw); obtain ⟨h0, h1, -⟩ := hSw; go_simp; try with_reducible rfl)
              try simp only [Act.put, List.setIfInBounds_toArray, List.set_cons_zero, List.set_cons_succ]
              refine wpAnyH_done (by kernel_rfl) ?_ _
              go_wp2_with fail
              go_meet
              exact ⟨_, rfl, _, _, ta, tc, a1, n1, c1, a2, n2, c2, a3, c3, rfl, rfl, rfl, PC, R1, TN, LOW, LS, LR⟩
            refine AllReadyH.cons HO.out.2.2.2.2.2.2.2.2.2.2.1 (fun K hK => ?_) AllReadyH.nil
            go_simp
            have LE141 := Lib.hid LOW.size
            have LE142 := Lib.hid LS.size
            have LE143 := Lib.hid LR.size
            obtain ⟨w138, hw139, hb140, R1⟩ := alloc_new w24 rq0 RT
            replace LOW := LOW.trans (hb140.mono LOW.size)
            replace LS := LS.trans (hb140.mono LS.size)
            replace LR := LR.trans (hb140.mono LR.size)
            clear hb140
            rw [hw139]
            clear hw139
            try clear hHeld
            refine hK.out _ _ (⟨(HS.out.1.later LS).cell 0, (HS.out.1.later LS).cell 1, trivial⟩) (fun hHeld => ?_)
            clear hK K
            try simp only [Act.put, List.setIfInBounds_toArray, List.set_cons_zero, List.set_cons_succ]
            refine wpAnyH_ready (rs := [4, 9]) (by kernel_rfl) (by simp) ?_
            refine AllReadyH.cons HO.out.2.2.2.2.1 (fun K hK => ?_) ?_
            · go_simp
              refine (ask_zero_h (x := Cl.new d) (d := d) (k := 1) (n := N) (m := MM) (hs := hvL ms') rfl (by omega) (by omega) rfl HFi.out.2.2.2.2 HFi.out.2.2.1 (by have := HFi.out.2.2.2.1; omega) (HS.out.2.1.later LS) (HH.out.1.later LR) HH.out.2.1 (by omega) (by rw [HU.out.2.1, HH.out.2.2.1]; exact HMM.out)).mono ?_
              rintro e w144 ⟨ta, tc, a1, n1, c1, a2, n2, c2, a3, c3, rfl, TN, hb145⟩
              replace R1 := R1.later hb145
              replace LOW := LOW.trans (hb145.mono LOW.size)
              replace LS := LS.trans (hb145.mono LS.size)
              replace LR := LR.trans (hb145.mono LR.size)
              clear hb145
              try clear hHeld
              refine hK.out _ _ (⟨(HS.out.1.later LS).cell 0, (HS.out.1.later LS).cell 1, trivial⟩) (fun hHeld => ?_)
              clear hK K
              try simp only [Act.put, List.setIfInBounds_toArray, List.set_cons_zero, List.set_cons_succ]
              refine wpAnyH_take (i := 5) (v := ?v1020) HO.out.2.2.2.2.2.1 (by kernel_rfl) (by kernel_rfl) (by kernel_rfl) (fun _ _ _ h => h) (Or.inl ⟨by rfl, ?hy1020⟩) (by assumption) ?rest1020
              case hy1020 => (intro w1 hSw; (try dsimp only at hSw); obtain ⟨h0, h1, -⟩ := hSw; go_simp; try with_reducible rfl)
              try simp only [Act.put, List.setIfInBounds_toArray, List.set_cons_zero, List.set_cons_succ]
              refine wpAnyH_take (i := 6) (v := ?v1021) HO.out.2.2.2.2.2.2.1 (by kernel_rfl) (by kernel_rfl) (by kernel_rfl) (fun _ _ _ h => h) (Or.inl ⟨by rfl, ?hy1021⟩) (by assumption) ?rest1021
              case hy1021 => (intro w1 hSw; (try dsimp only at hSw); obtain ⟨h0, h1, -⟩ := hSw; go_simp; try with_reducible rfl)
              try simp only [Act.put, List.setIfInBounds_toArray, List.set_cons_zero, List.set_cons_succ]
              refine wpAnyH_take (i := 7) (v := ?v1022) HO.out.2.2.2.2.2.2.2.1 (by kernel_rfl) (by kernel_rfl) (by kernel_rfl) (fun _ _ _ h => h) (Or.inl ⟨by rfl, ?hy1022⟩) (by assumption) ?rest1022
              case hy1022 => (intro w1 hSw; (try dsimp only at hSw); obtain ⟨h0, h1, -⟩ := hSw; go_simp; try with_reducible rfl)
              try simp only [Act.put, List.setIfInBounds_toArray, List.set_cons_zero, List.set_cons_succ]
              refine wpAnyH_take (i := 8) (v := ?v1023) HO.out.2.2.2.2.2.2.2.2.1 (by kernel_rfl) (by kernel_rfl) (by kernel_rfl) (fun _ _ _ h => h) (Or.inl ⟨by rfl, ?hy1023⟩) (by assumption) ?rest1023
              case hy1023 => (intro w1 hSw; (try dsimp only at hSw); obtain ⟨h0, h1, -⟩ := hSw; go_simp; try with_reducible rfl)
              try simp only [Act.put, List.setIfInBounds_toArray, List.set_cons_zero, List.set_cons_succ]
              refine wpAnyH_ready (rs := [9]) (by kernel_rfl) (by simp) ?_
              refine AllReadyH.cons HO.out.2.2.2.2.2.2.2.2.2.1 (fun K hK => ?_) AllReadyH.nil
              go_simp
              have LE149 := Lib.hid LOW.size
              have LE150 := Lib.hid LS.size
              have LE151 := Lib.hid LR.size
              obtain ⟨w146, hw147, hb148, PC⟩ := alloc_new w144 Cl.zero.arr CT
              replace hw147 : w144.alloc (.cells #[.bool false, .bool false, .slice none 0 0, .bool false, .int .u64 0, .bool false, .slice none 0 0, .bool false, .int .u64 0, .bool false, .slice none 0 0, .bool false, .int .u64 0, .bool false, .slice none 0 0, .bool false, .int .u64 0, .bool false, .slice none 0 0, .bool false, .int .u64 0, .bool false, .slice none 0 0, .bool false, .int .u64 0] CT) = w146 := hw147
              replace R1 := R1.later hb148
              replace TN := TN.later hb148
              replace LOW := LOW.trans (hb148.mono LOW.size)
              replace LS := LS.trans (hb148.mono LS.size)
              replace LR := LR.trans (hb148.mono LR.size)
              clear hb148
              rw [hw147]
              clear hw147
              try clear hHeld
              refine hK.out _ _ (⟨(HS.out.1.later LS).cell 0, (HS.out.1.later LS).cell 1, trivial⟩) (fun hHeld => ?_)
              clear hK K
              try simp only [Act.put, List.setIfInBounds_toArray, List.set_cons_zero, List.set_cons_succ]
              refine wpAnyH_ready (rs := [11]) (by kernel_rfl) (by simp) ?_
              refine AllReadyH.cons HO.out.2.2.2.2.2.2.2.2.2.2.2.1 (fun K hK => ?_) AllReadyH.nil
              rw [if_pos (by rfl)]
              refine wp_store_cl _ _ Cl.zero ((Cl.new d).set ⟨ua, ta, tc, ul, true, 0⟩ 1) w144.heap.size rfl (by rfl) (by rfl) PC ?_
              intro w152 p153 j154
              have mv155 := j154.blk (Blk.ne R1 PC (by decide)) R1
              have mv156 := j154.ts PC (cl_no _ _) TN
              have mv157 := LOW.trans (j154.below LE149.out)
              have mv158 := LS.trans (j154.below LE150.out)
              have mv159 := LR.trans (j154.below LE151.out)
              replace R1 := mv155
              replace TN := mv156
              replace LOW := mv157
              replace LS := mv158
              replace LR := mv159
              replace PC := p153
              try clear hHeld
              refine hK.out _ _ (⟨(HS.out.1.later LS).cell 0, (HS.out.1.later LS).cell 1, trivial⟩) (fun hHeld => ?_)
              clear hK K
              simp only [Act.put]
              refine wpAnyH_ready (rs := [12]) (by kernel_rfl) (by simp) ?_
              refine AllReadyH.cons HO.out.2.2.2.2.2.2.2.2.2.2.2.2.1 (fun K hK => ?_) AllReadyH.nil
              rw [if_pos (by rfl)]
              refine wp_store_rq _ _ w24.heap.size rfl (by rfl) (by rfl) R1 rfl (by rfl) (by first | (simp [Value.oneCell']; done) | simp [rq, Value.oneCell']) ?_
              intro w160 p161 j162
              have mv163 := j162.blk (Blk.ne PC R1 (by decide)) PC
              have mv164 := j162.ts R1 (rq0_no neN) TN
              have mv165 := LOW.trans (j162.below LE141.out)
              have mv166 := LS.trans (j162.below LE142.out)
              have mv167 := LR.trans (j162.below LE143.out)
              replace PC := mv163
              replace TN := mv164
              replace LOW := mv165
              replace LS := mv166
              replace LR := mv167
              replace R1 := p161
              try clear hHeld
              refine hK.out _ _ (⟨(HS.out.1.later LS).cell 0, (HS.out.1.later LS).cell 1, trivial⟩) (fun hHeld => ?_)
              clear hK K
              simp only [Act.put]
              refine wpAnyH_take (i := 13) (v := ?v1024) HO.out.2.2.2.2.2.2.2.2.2.2.2.2.2 (by kernel_rfl) (by kernel_rfl) (by kernel_rfl) (fun _ _ _ h => h) (Or.inl ⟨by rfl, ?hy1024⟩) (by assumption) ?rest1024
              case hy1024 => (intro w1 hSw; (try dsimp only at hSw); obtain ⟨h0, h1, -⟩ := hSw; go_simp; try with_reducible rfl)
              try simp only [Act.put, List.setIfInBounds_toArray, List.set_cons_zero, List.set_cons_succ]
              refine wpAnyH_done (by kernel_rfl) ?_ _
              go_wp2_with fail
              go_meet
              exact ⟨_, rfl, _, _, ta, tc, a1, n1, c1, a2, n2, c2, a3, c3, rfl, rfl, rfl, PC, R1, TN, LOW, LS, LR⟩
            refine AllReadyH.cons HO.out.2.2.2.2.2.2.2.2.2.1 (fun K hK => ?_) AllReadyH.nil
            go_simp
            have LE171 := Lib.hid LOW.size
            have LE172 := Lib.hid LS.size
            have LE173 := Lib.hid LR.size
            obtain ⟨w168, hw169, hb170, PC⟩ := alloc_new w138 Cl.zero.arr CT
            replace hw169 : w138.alloc (.cells #[.bool false, .bool false, .slice none 0 0, .bool false, .int .u64 0, .bool false, .slice none 0 0, .bool false, .int .u64 0, .bool false, .slice none 0 0, .bool false, .int .u64 0, .bool false, .slice none 0 0, .bool false, .int .u64 0, .bool false, .slice none 0 0, .bool false, .int .u64 0, .bool false, .slice none 0 0, .bool false, .int .u64 0] CT) = w168 := hw169
            replace R1 := R1.later hb170
            replace LOW := LOW.trans (hb170.mono LOW.size)
            replace LS := LS.trans (hb170.mono LS.size)
            replace LR := LR.trans (hb170.mono LR.size)
            clear hb170
            rw [hw169]
            clear hw169
            try clear hHeld
            refine hK.out _ _ (⟨(HS.out.1.later LS).cell 0, (HS.out.1.later LS).cell 1, trivial⟩) (fun hHeld => ?_)
            clear hK K
            try simp only [Act.put, List.setIfInBounds_toArray, List.set_cons_zero, List.set_cons_succ]
            refine wpAnyH_ready (rs := [4]) (by kernel_rfl) (by simp) ?_
            refine AllReadyH.cons HO.out.2.2.2.2.1 (fun K hK => ?_) AllReadyH.nil
            go_simp
            refine (ask_zero_h (x := Cl.new d) (d := d) (k := 1) (n := N) (m := MM) (hs := hvL ms') rfl (by omega) (by omega) rfl HFi.out.2.2.2.2 HFi.out.2.2.1 (by have := HFi.out.2.2.2.1; omega) (HS.out.2.1.later LS) (HH.out.1.later LR) HH.out.2.1 (by omega) (by rw [HU.out.2.1, HH.out.2.2.1]; exact HMM.out)).mono ?_
            rintro e w174 ⟨ta, tc, a1, n1, c1, a2, n2, c2, a3, c3, rfl, TN, hb175⟩
            replace R1 := R1.later hb175
            replace PC := PC.later hb175
            replace LOW := LOW.trans (hb175.mono LOW.size)
            replace LS := LS.trans (hb175.mono LS.size)
            replace LR := LR.trans (hb175.mono LR.size)
            clear hb175
            try clear hHeld
            refine hK.out _ _ (⟨(HS.out.1.later LS).cell 0, (HS.out.1.later LS).cell 1, trivial⟩) (fun hHeld => ?_)
            clear hK K
            try simp only [Act.put, List.setIfInBounds_toArray, List.set_cons_zero, List.set_cons_succ]
            refine wpAnyH_take (i := 5) (v := ?v1025) HO.out.2.2.2.2.2.1 (by kernel_rfl) (by kernel_rfl) (by kernel_rfl) (fun _ _ _ h => h) (Or.inl ⟨by rfl, ?hy1025⟩) (by assumption) ?rest1025
            case hy1025 => (intro w1 hSw; (try dsimp only at hSw); obtain ⟨h0, h1, -⟩ := hSw; go_simp; try with_reducible rfl)
            try simp only [Act.put, List.setIfInBounds_toArray, List.set_cons_zero, List.set_cons_succ]
            refine wpAnyH_take (i := 6) (v := ?v1026) HO.out.2.2.2.2.2.2.1 (by kernel_rfl) (by kernel_rfl) (by kernel_rfl) (fun _ _ _ h => h) (Or.inl ⟨by rfl, ?hy1026⟩) (by assumption) ?rest1026
            case hy1026 => (intro w1 hSw; (try dsimp only at hSw); obtain ⟨h0, h1, -⟩ := hSw; go_simp; try with_reducible rfl)
            try simp only [Act.put, List.setIfInBounds_toArray, List.set_cons_zero, List.set_cons_succ]
            refine wpAnyH_take (i := 7) (v := ?v1027) HO.out.2.2.2.2.2.2.2.1 (by kernel_rfl) (by kernel_rfl) (by kernel_rfl) (fun _ _ _ h => h) (Or.inl ⟨by rfl, ?hy1027⟩) (by assumption) ?rest1027
            case hy1027 => (intro w1 hSw; (try dsimp only at hSw); obtain ⟨h0, h1, -⟩ := hSw; go_simp; try with_reducible rfl)
            try simp only [Act.put, List.setIfInBounds_toArray, List.set_cons_zero, List.set_cons_succ]
            refine wpAnyH_take (i := 8) (v := ?v1028) HO.out.2.2.2.2.2.2.2.2.1 (by kernel_rfl) (by kernel_rfl) (by kernel_rfl) (fun _ _ _ h => h) (Or.inl ⟨by rfl, ?hy1028⟩) (by assumption) ?rest1028
            case hy1028 => (intro w1 hSw; (try dsimp only at hSw); obtain ⟨h0, h1, -⟩ := hSw; go_simp; try with_reducible rfl)
            try simp only [Act.put, List.setIfInBounds_toArray, List.set_cons_zero, List.set_cons_succ]
            refine wpAnyH_ready (rs := [11]) (by kernel_rfl) (by simp) ?_
            refine AllReadyH.cons HO.out.2.2.2.2.2.2.2.2.2.2.2.1 (fun K hK => ?_) AllReadyH.nil
            rw [if_pos (by rfl)]
            refine wp_store_cl _ _ Cl.zero ((Cl.new d).set ⟨ua, ta, tc, ul, true, 0⟩ 1) w138.heap.size rfl (by rfl) (by rfl) PC ?_
            intro w176 p177 j178
            have mv179 := j178.blk (Blk.ne R1 PC (by decide)) R1
            have mv180 := j178.ts PC (cl_no _ _) TN
            have mv181 := LOW.trans (j178.below LE171.out)
            have mv182 := LS.trans (j178.below LE172.out)
            have mv183 := LR.trans (j178.below LE173.out)
            replace R1 := mv179
            replace TN := mv180
            replace LOW := mv181
            replace LS := mv182
            replace LR := mv183
            replace PC := p177
            try clear hHeld
            refine hK.out _ _ (⟨(HS.out.1.later LS).cell 0, (HS.out.1.later LS).cell 1, trivial⟩) (fun hHeld => ?_)
            clear hK K
            simp only [Act.put]
            refine wpAnyH_ready (rs := [12]) (by kernel_rfl) (by simp) ?_
            refine AllReadyH.cons HO.out.2.2.2.2.2.2.2.2.2.2.2.2.1 (fun K hK => ?_) AllReadyH.nil
            rw [if_pos (by rfl)]
            refine wp_store_rq _ _ w24.heap.size rfl (by rfl) (by rfl) R1 rfl (by rfl) (by first | (simp [Value.oneCell']; done) | simp [rq, Value.oneCell']) ?_
            intro w184 p185 j186
            have mv187 := j186.blk (Blk.ne PC R1 (by decide)) PC
            have mv188 := j186.ts R1 (rq0_no neN) TN
            have mv189 := LOW.trans (j186.below LE141.out)
            have mv190 := LS.trans (j186.below LE142.out)
            have mv191 := LR.trans (j186.below LE143.out)
            replace PC := mv187
            replace TN := mv188
            replace LOW := mv189
            replace LS := mv190
            replace LR := mv191
            replace R1 := p185
            try clear hHeld
            refine hK.out _ _ (⟨(HS.out.1.later LS).cell 0, (HS.out.1.later LS).cell 1, trivial⟩) (fun hHeld => ?_)
            clear hK K
            simp only [Act.put]
            refine wpAnyH_take (i := 13) (v := ?v1029) HO.out.2.2.2.2.2.2.2.2.2.2.2.2.2 (by kernel_rfl) (by kernel_rfl) (by kernel_rfl) (fun _ _ _ h => h) (Or.inl ⟨by rfl, ?hy1029⟩) (by assumption) ?rest1029
            case hy1029 => (intro w1 hSw; (try dsimp only at hSw); obtain ⟨h0, h1, -⟩ := hSw; go_simp; try with_reducible rfl)
            try simp only [Act.put, List.setIfInBounds_toArray, List.set_cons_zero, List.set_cons_succ]
            refine wpAnyH_done (by kernel_rfl) ?_ _
            go_wp2_with fail
            go_meet
            exact ⟨_, rfl, _, _, ta, tc, a1, n1, c1, a2, n2, c2, a3, c3, rfl, rfl, rfl, PC, R1, TN, LOW, LS, LR⟩
          refine AllReadyH.cons HO.out.2.2.2.2.2.2.2.2.2.1 (fun K hK => ?_) ?_
          · go_simp
            have LE195 := Lib.hid LOW.size
            have LE196 := Lib.hid LS.size
            have LE197 := Lib.hid LR.size
            obtain ⟨w192, hw193, hb194, PC⟩ := alloc_new w21 Cl.zero.arr CT
            replace hw193 : w21.alloc (.cells #[.bool false, .bool false, .slice none 0 0, .bool false, .int .u64 0, .bool false, .slice none 0 0, .bool false, .int .u64 0, .bool false, .slice none 0 0, .bool false, .int .u64 0, .bool false, .slice none 0 0, .bool false, .int .u64 0, .bool false, .slice none 0 0, .bool false, .int .u64 0, .bool false, .slice none 0 0, .bool false, .int .u64 0] CT) = w192 := hw193
            replace LOW := LOW.trans (hb194.mono LOW.size)
            replace LS := LS.trans (hb194.mono LS.size)
            replace LR := LR.trans (hb194.mono LR.size)
            clear hb194
            rw [hw193]
            clear hw193
            try clear hHeld
            refine hK.out _ _ (⟨(HS.out.1.later LS).cell 0, (HS.out.1.later LS).cell 1, trivial⟩) (fun hHeld => ?_)
            clear hK K
            try simp only [Act.put, List.setIfInBounds_toArray, List.set_cons_zero, List.set_cons_succ]
            refine wpAnyH_ready (rs := [1, 10]) (by kernel_rfl) (by simp) ?_
            refine AllReadyH.cons HO.out.2.1 (fun K hK => ?_) ?_
            · go_simp
              refine (new_any d _).mono ?_
              rintro e w198 ⟨rfl, hb199⟩
              replace PC := PC.later hb199
              replace LOW := LOW.trans (hb199.mono LOW.size)
              replace LS := LS.trans (hb199.mono LS.size)
              replace LR := LR.trans (hb199.mono LR.size)
              clear hb199
              try clear hHeld
              refine hK.out _ _ (⟨(HS.out.1.later LS).cell 0, (HS.out.1.later LS).cell 1, trivial⟩) (fun hHeld => ?_)
              clear hK K
              try simp only [Act.put, List.setIfInBounds_toArray, List.set_cons_zero, List.set_cons_succ]
              refine wpAnyH_ready (rs := [4, 10]) (by kernel_rfl) (by simp) ?_
              refine AllReadyH.cons HO.out.2.2.2.2.1 (fun K hK => ?_) ?_
              · go_simp
                refine (ask_zero_h (x := Cl.new d) (d := d) (k := 1) (n := N) (m := MM) (hs := hvL ms') rfl (by omega) (by omega) rfl HFi.out.2.2.2.2 HFi.out.2.2.1 (by have := HFi.out.2.2.2.1; omega) (HS.out.2.1.later LS) (HH.out.1.later LR) HH.out.2.1 (by omega) (by rw [HU.out.2.1, HH.out.2.2.1]; exact HMM.out)).mono ?_
                rintro e w200 ⟨ta, tc, a1, n1, c1, a2, n2, c2, a3, c3, rfl, TN, hb201⟩
                replace PC := PC.later hb201
                replace LOW := LOW.trans (hb201.mono LOW.size)
                replace LS := LS.trans (hb201.mono LS.size)
                replace LR := LR.trans (hb201.mono LR.size)
                clear hb201
                try clear hHeld
                refine hK.out _ _ (⟨(HS.out.1.later LS).cell 0, (HS.out.1.later LS).cell 1, trivial⟩) (fun hHeld => ?_)
                clear hK K
                try simp only [Act.put, List.setIfInBounds_toArray, List.set_cons_zero, List.set_cons_succ]
                refine wpAnyH_take (i := 5) (v := ?v1030) HO.out.2.2.2.2.2.1 (by kernel_rfl) (by kernel_rfl) (by kernel_rfl) (fun _ _ _ h => h) (Or.inl ⟨by rfl, ?hy1030⟩) (by assumption) ?rest1030
                case hy1030 => (intro w1 hSw; (try dsimp only at hSw); obtain ⟨h0, h1, -⟩ := hSw; go_simp; try with_reducible rfl)
                try simp only [Act.put, List.setIfInBounds_toArray, List.set_cons_zero, List.set_cons_succ]
                refine wpAnyH_take (i := 6) (v := ?v1031) HO.out.2.2.2.2.2.2.1 (by kernel_rfl) (by kernel_rfl) (by kernel_rfl) (fun _ _ _ h => h) (Or.inl ⟨by rfl, ?hy1031⟩) (by assumption) ?rest1031
                case hy1031 => (intro w1 hSw; (try dsimp only at hSw); obtain ⟨h0, h1, -⟩ := hSw; go_simp; try with_reducible rfl)
                try simp only [Act.put, List.setIfInBounds_toArray, List.set_cons_zero, List.set_cons_succ]
                refine wpAnyH_take (i := 7) (v := ?v1032) HO.out.2.2.2.2.2.2.2.1 (by kernel_rfl) (by kernel_rfl) (by kernel_rfl) (fun _ _ _ h => h) (Or.inl ⟨by rfl, ?hy1032⟩) (by assumption) ?rest1032
                case hy1032 => (intro w1 hSw; (try dsimp only at hSw); obtain ⟨h0, h1, -⟩ := hSw; go_simp; try with_reducible rfl)
                try simp only [Act.put, List.setIfInBounds_toArray, List.set_cons_zero, List.set_cons_succ]
                refine wpAnyH_take (i := 8) (v := ?v1033) HO.out.2.2.2.2.2.2.2.2.1 (by kernel_rfl) (by kernel_rfl) (by kernel_rfl) (fun _ _ _ h => h) (Or.inl ⟨by rfl, ?hy1033⟩) (by assumption) ?rest1033
                case hy1033 => (intro w1 hSw; (try dsimp only at hSw); obtain ⟨h0, h1, -⟩ := hSw; go_simp; try with_reducible rfl)
                try simp only [Act.put, List.setIfInBounds_toArray, List.set_cons_zero, List.set_cons_succ]
                refine wpAnyH_ready (rs := [10]) (by kernel_rfl) (by simp) ?_
                refine AllReadyH.cons HO.out.2.2.2.2.2.2.2.2.2.2.1 (fun K hK => ?_) AllReadyH.nil
                go_simp
                have LE205 := Lib.hid LOW.size
                have LE206 := Lib.hid LS.size
                have LE207 := Lib.hid LR.size
                obtain ⟨w202, hw203, hb204, R1⟩ := alloc_new w200 rq0 RT
                replace PC := PC.later hb204
                replace TN := TN.later hb204
                replace LOW := LOW.trans (hb204.mono LOW.size)
                replace LS := LS.trans (hb204.mono LS.size)
                replace LR := LR.trans (hb204.mono LR.size)
                clear hb204
                rw [hw203]
                clear hw203
                try clear hHeld
                refine hK.out _ _ (⟨(HS.out.1.later LS).cell 0, (HS.out.1.later LS).cell 1, trivial⟩) (fun hHeld => ?_)
                clear hK K
                try simp only [Act.put, List.setIfInBounds_toArray, List.set_cons_zero, List.set_cons_succ]
                refine wpAnyH_ready (rs := [11]) (by kernel_rfl) (by simp) ?_
                refine AllReadyH.cons HO.out.2.2.2.2.2.2.2.2.2.2.2.1 (fun K hK => ?_) AllReadyH.nil
                rw [if_pos (by rfl)]
                refine wp_store_cl _ _ Cl.zero ((Cl.new d).set ⟨ua, ta, tc, ul, true, 0⟩ 1) w21.heap.size rfl (by rfl) (by rfl) PC ?_
                intro w208 p209 j210
                have mv211 := j210.blk (Blk.ne R1 PC (by decide)) R1
                have mv212 := j210.ts PC (cl_no _ _) TN
                have mv213 := LOW.trans (j210.below LE195.out)
                have mv214 := LS.trans (j210.below LE196.out)
                have mv215 := LR.trans (j210.below LE197.out)
                replace R1 := mv211
                replace TN := mv212
                replace LOW := mv213
                replace LS := mv214
                replace LR := mv215
                replace PC := p209
                try clear hHeld
                refine hK.out _ _ (⟨(HS.out.1.later LS).cell 0, (HS.out.1.later LS).cell 1, trivial⟩) (fun hHeld => ?_)
                clear hK K
                simp only [Act.put]
                refine wpAnyH_ready (rs := [12]) (by kernel_rfl) (by simp) ?_
                refine AllReadyH.cons HO.out.2.2.2.2.2.2.2.2.2.2.2.2.1 (fun K hK => ?_) AllReadyH.nil
                rw [if_pos (by rfl)]
                refine wp_store_rq _ _ w200.heap.size rfl (by rfl) (by rfl) R1 rfl (by rfl) (by first | (simp [Value.oneCell']; done) | simp [rq, Value.oneCell']) ?_
                intro w216 p217 j218
                have mv219 := j218.blk (Blk.ne PC R1 (by decide)) PC
                have mv220 := j218.ts R1 (rq0_no neN) TN
                have mv221 := LOW.trans (j218.below LE205.out)
                have mv222 := LS.trans (j218.below LE206.out)
                have mv223 := LR.trans (j218.below LE207.out)
                replace PC := mv219
                replace TN := mv220
                replace LOW := mv221
                replace LS := mv222
                replace LR := mv223
                replace R1 := p217
                try clear hHeld
                refine hK.out _ _ (⟨(HS.out.1.later LS).cell 0, (HS.out.1.later LS).cell 1, trivial⟩) (fun hHeld => ?_)
                clear hK K
                simp only [Act.put]
                refine wpAnyH_take (i := 13) (v := ?v1034) HO.out.2.2.2.2.2.2.2.2.2.2.2.2.2 (by kernel_rfl) (by kernel_rfl) (by kernel_rfl) (fun _ _ _ h => h) (Or.inl ⟨by rfl, ?hy1034⟩) (by assumption) ?rest1034
                case hy1034 => (intro w1 hSw; (try dsimp only at hSw); obtain ⟨h0, h1, -⟩ := hSw; go_simp; try with_reducible rfl)
                try simp only [Act.put, List.setIfInBounds_toArray, List.set_cons_zero, List.set_cons_succ]
                refine wpAnyH_done (by kernel_rfl) ?_ _
                go_wp2_with fail
                go_meet
                exact ⟨_, rfl, _, _, ta, tc, a1, n1, c1, a2, n2, c2, a3, c3, rfl, rfl, rfl, PC, R1, TN, LOW, LS, LR⟩
              refine AllReadyH.cons HO.out.2.2.2.2.2.2.2.2.2.2.1 (fun K hK => ?_) AllReadyH.nil
              go_simp
              have LE227 := Lib.hid LOW.size
              have LE228 := Lib.hid LS.size
              have LE229 := Lib.hid LR.size
              obtain ⟨w224, hw225, hb226, R1⟩ := alloc_new w198 rq0 RT
              replace PC := PC.later hb226
              replace LOW := LOW.trans (hb226.mono LOW.size)
              replace LS := LS.trans (hb226.mono LS.size)
              replace LR := LR.trans (hb226.mono LR.size)
              clear hb226
              rw [hw225]
              clear hw225
              try clear hHeld
              refine hK.out _ _ (⟨(HS.out.1.later LS).cell 0, (HS.out.1.later LS).cell 1, trivial⟩) (fun hHeld => ?_)
              clear hK K
              try simp only [Act.put, List.setIfInBounds_toArray, List.set_cons_zero, List.set_cons_succ]
              refine wpAnyH_ready (rs := [4]) (by kernel_rfl) (by simp) ?_
              refine AllReadyH.cons HO.out.2.2.2.2.1 (fun K hK => ?_) AllReadyH.nil
              go_simp
              refine (ask_zero_h (x := Cl.new d) (d := d) (k := 1) (n := N) (m := MM) (hs := hvL ms') rfl (by omega) (by omega) rfl HFi.out.2.2.2.2 HFi.out.2.2.1 (by have := HFi.out.2.2.2.1; omega) (HS.out.2.1.later LS) (HH.out.1.later LR) HH.out.2.1 (by omega) (by rw [HU.out.2.1, HH.out.2.2.1]; exact HMM.out)).mono ?_
              rintro e w230 ⟨ta, tc, a1, n1, c1, a2, n2, c2, a3, c3, rfl, TN, hb231⟩
              replace PC := PC.later hb231
              replace R1 := R1.later hb231
              replace LOW := LOW.trans (hb231.mono LOW.size)
              replace LS := LS.trans (hb231.mono LS.size)
              replace LR := LR.trans (hb231.mono LR.size)
              clear hb231
              try clear hHeld
              refine hK.out _ _ (⟨(HS.out.1.later LS).cell 0, (HS.out.1.later LS).cell 1, trivial⟩) (fun hHeld => ?_)
              clear hK K
              try simp only [Act.put, List.setIfInBounds_toArray, List.set_cons_zero, List.set_cons_succ]
              refine wpAnyH_take (i := 5) (v := ?v1035) HO.out.2.2.2.2.2.1 (by kernel_rfl) (by kernel_rfl) (by kernel_rfl) (fun _ _ _ h => h) (Or.inl ⟨by rfl, ?hy1035⟩) (by assumption) ?rest1035
              case hy1035 => (intro w1 hSw; (try dsimp only at hSw); obtain ⟨h0, h1, -⟩ := hSw; go_simp; try with_reducible rfl)
              try simp only [Act.put, List.setIfInBounds_toArray, List.set_cons_zero, List.set_cons_succ]
              refine wpAnyH_take (i := 6) (v := ?v1036) HO.out.2.2.2.2.2.2.1 (by kernel_rfl) (by kernel_rfl) (by kernel_rfl) (fun _ _ _ h => h) (Or.inl ⟨by rfl, ?hy1036⟩) (by assumption) ?rest1036
              case hy1036 => (intro w1 hSw; (try dsimp only at hSw); obtain ⟨h0, h1, -⟩ := hSw; go_simp; try with_reducible rfl)
              try simp only [Act.put, List.setIfInBounds_toArray, List.set_cons_zero, List.set_cons_succ]
              refine wpAnyH_take (i := 7) (v := ?v1037) HO.out.2.2.2.2.2.2.2.1 (by kernel_rfl) (by kernel_rfl) (by kernel_rfl) (fun _ _ _ h => h) (Or.inl ⟨by rfl, ?hy1037⟩) (by assumption) ?rest1037
              case hy1037 => (intro w1 hSw; (try dsimp only at hSw); obtain ⟨h0, h1, -⟩ := hSw; go_simp; try with_reducible rfl)
              try simp only [Act.put, List.setIfInBounds_toArray, List.set_cons_zero, List.set_cons_succ]
              refine wpAnyH_take (i := 8) (v := ?v1038) HO.out.2.2.2.2.2.2.2.2.1 (by kernel_rfl) (by kernel_rfl) (by kernel_rfl) (fun _ _ _ h => h) (Or.inl ⟨by rfl, ?hy1038⟩) (by assumption) ?rest1038
              case hy1038 => (intro w1 hSw; (try dsimp only at hSw); obtain ⟨h0, h1, -⟩ := hSw; go_simp; try with_reducible rfl)
              try simp only [Act.put, List.setIfInBounds_toArray, List.set_cons_zero, List.set_cons_succ]
              refine wpAnyH_ready (rs := [11]) (by kernel_rfl) (by simp) ?_
              refine AllReadyH.cons HO.out.2.2.2.2.2.2.2.2.2.2.2.1 (fun K hK => ?_) AllReadyH.nil
              rw [if_pos (by rfl)]
              refine wp_store_cl _ _ Cl.zero ((Cl.new d).set ⟨ua, ta, tc, ul, true, 0⟩ 1) w21.heap.size rfl (by rfl) (by rfl) PC ?_
              intro w232 p233 j234
              have mv235 := j234.blk (Blk.ne R1 PC (by decide)) R1
              have mv236 := j234.ts PC (cl_no _ _) TN
              have mv237 := LOW.trans (j234.below LE195.out)
              have mv238 := LS.trans (j234.below LE196.out)
              have mv239 := LR.trans (j234.below LE197.out)
              replace R1 := mv235
              replace TN := mv236
              replace LOW := mv237
              replace LS := mv238
              replace LR := mv239
              replace PC := p233
              try clear hHeld
              refine hK.out _ _ (⟨(HS.out.1.later LS).cell 0, (HS.out.1.later LS).cell 1, trivial⟩) (fun hHeld => ?_)
              clear hK K
              simp only [Act.put]
              refine wpAnyH_ready (rs := [12]) (by kernel_rfl) (by simp) ?_
              refine AllReadyH.cons HO.out.2.2.2.2.2.2.2.2.2.2.2.2.1 (fun K hK => ?_) AllReadyH.nil
              rw [if_pos (by rfl)]
              refine wp_store_rq _ _ w198.heap.size rfl (by rfl) (by rfl) R1 rfl (by rfl) (by first | (simp [Value.oneCell']; done) | simp [rq, Value.oneCell']) ?_
              intro w240 p241 j242
              have mv243 := j242.blk (Blk.ne PC R1 (by decide)) PC
              have mv244 := j242.ts R1 (rq0_no neN) TN
              have mv245 := LOW.trans (j242.below LE227.out)
              have mv246 := LS.trans (j242.below LE228.out)
              have mv247 := LR.trans (j242.below LE229.out)
              replace PC := mv243
              replace TN := mv244
              replace LOW := mv245
              replace LS := mv246
              replace LR := mv247
              replace R1 := p241
              try clear hHeld
              refine hK.out _ _ (⟨(HS.out.1.later LS).cell 0, (HS.out.1.later LS).cell 1, trivial⟩) (fun hHeld => ?_)
              clear hK K
              simp only [Act.put]
              refine wpAnyH_take (i := 13) (v := ?v1039) HO.out.2.2.2.2.2.2.2.2.2.2.2.2.2 (by kernel_rfl) (by kernel_rfl) (by kernel_rfl) (fun _ _ _ h => h) (Or.inl ⟨by rfl, ?hy1039⟩) (by assumption) ?rest1039
              case hy1039 => (intro w1 hSw; (try dsimp only at hSw); obtain ⟨h0, h1, -⟩ := hSw; go_simp; try with_reducible rfl)
              try simp only [Act.put, List.setIfInBounds_toArray, List.set_cons_zero, List.set_cons_succ]
              refine wpAnyH_done (by kernel_rfl) ?_ _
              go_wp2_with fail
              go_meet
              exact ⟨_, rfl, _, _, ta, tc, a1, n1, c1, a2, n2, c2, a3, c3, rfl, rfl, rfl, PC, R1, TN, LOW, LS, LR⟩
            refine AllReadyH.cons HO.out.2.2.2.2.2.2.2.2.2.2.1 (fun K hK => ?_) AllReadyH.nil
            go_simp
            have LE251 := Lib.hid LOW.size
            have LE252 := Lib.hid LS.size
            have LE253 := Lib.hid LR.size
            obtain ⟨w248, hw249, hb250, R1⟩ := alloc_new w192 rq0 RT
            replace PC := PC.later hb250
            replace LOW := LOW.trans (hb250.mono LOW.size)
            replace LS := LS.trans (hb250.mono LS.size)
            replace LR := LR.trans (hb250.mono LR.size)
            clear hb250
            rw [hw249]
            clear hw249
            try clear hHeld
            refine hK.out _ _ (⟨(HS.out.1.later LS).cell 0, (HS.out.1.later LS).cell 1, trivial⟩) (fun hHeld => ?_)
            clear hK K
            try simp only [Act.put, List.setIfInBounds_toArray, List.set_cons_zero, List.set_cons_succ]
            refine wpAnyH_ready (rs := [1]) (by kernel_rfl) (by simp) ?_
            refine AllReadyH.cons HO.out.2.1 (fun K hK => ?_) AllReadyH.nil
            go_simp
            refine (new_any d _).mono ?_
            rintro e w254 ⟨rfl, hb255⟩
            replace PC := PC.later hb255
            replace R1 := R1.later hb255
            replace LOW := LOW.trans (hb255.mono LOW.size)
            replace LS := LS.trans (hb255.mono LS.size)
            replace LR := LR.trans (hb255.mono LR.size)
            clear hb255
            try clear hHeld
            refine hK.out _ _ (⟨(HS.out.1.later LS).cell 0, (HS.out.1.later LS).cell 1, trivial⟩) (fun hHeld => ?_)
            clear hK K
            try simp only [Act.put, List.setIfInBounds_toArray, List.set_cons_zero, List.set_cons_succ]
            refine wpAnyH_ready (rs := [4]) (by kernel_rfl) (by simp) ?_
            refine AllReadyH.cons HO.out.2.2.2.2.1 (fun K hK => ?_) AllReadyH.nil
            go_simp
            refine (ask_zero_h (x := Cl.new d) (d := d) (k := 1) (n := N) (m := MM) (hs := hvL ms') rfl (by omega) (by omega) rfl HFi.out.2.2.2.2 HFi.out.2.2.1 (by have := HFi.out.2.2.2.1; omega) (HS.out.2.1.later LS) (HH.out.1.later LR) HH.out.2.1 (by omega) (by rw [HU.out.2.1, HH.out.2.2.1]; exact HMM.out)).mono ?_
            rintro e w256 ⟨ta, tc, a1, n1, c1, a2, n2, c2, a3, c3, rfl, TN, hb257⟩
            replace PC := PC.later hb257
            replace R1 := R1.later hb257
            replace LOW := LOW.trans (hb257.mono LOW.size)
            replace LS := LS.trans (hb257.mono LS.size)
            replace LR := LR.trans (hb257.mono LR.size)
            clear hb257
            try clear hHeld
            refine hK.out _ _ (⟨(HS.out.1.later LS).cell 0, (HS.out.1.later LS).cell 1, trivial⟩) (fun hHeld => ?_)
            clear hK K
            try simp only [Act.put, List.setIfInBounds_toArray, List.set_cons_zero, List.set_cons_succ]
            refine wpAnyH_take (i := 5) (v := ?v1040) HO.out.2.2.2.2.2.1 (by kernel_rfl) (by kernel_rfl) (by kernel_rfl) (fun _ _ _ h => h) (Or.inl ⟨by rfl, ?hy1040⟩) (by assumption) ?rest1040
            case hy1040 => (intro w1 hSw; (try dsimp only at hSw); obtain ⟨h0, h1, -⟩ := hSw; go_simp; try with_reducible rfl)
            try simp only [Act.put, List.setIfInBounds_toArray, List.set_cons_zero, List.set_cons_succ]
            refine wpAnyH_take (i := 6) (v := ?v1041) HO.out.2.2.2.2.2.2.1 (by kernel_rfl) (by kernel_rfl) (by kernel_rfl) (fun _ _ _ h => h) (Or.inl ⟨by rfl, ?hy1041⟩) (by assumption) ?rest1041
            case hy1041 => (intro w1 hSw; (try dsimp only at hSw); obtain ⟨h0, h1, -⟩ := hSw; go_simp; try with_reducible rfl)
            try simp only [Act.put, List.setIfInBounds_toArray, List.set_cons_zero, List.set_cons_succ]
            refine wpAnyH_take (i := 7) (v := ?v1042) HO.out.2.2.2.2.2.2.2.1 (by kernel_rfl) (by kernel_rfl) (by kernel_rfl) (fun _ _ _ h => h) (Or.inl ⟨by rfl, ?hy1042⟩) (by assumption) ?rest1042
            case hy1042 => (intro w1 hSw; (try dsimp only at hSw); obtain ⟨h0, h1, -⟩ := hSw; go_simp; try with_reducible rfl)
            try simp only [Act.put, List.setIfInBounds_toArray, List.set_cons_zero, List.set_cons_succ]
            refine wpAnyH_take (i := 8) (v := ?v1043) HO.out.2.2.2.2.2.2.2.2.1 (by kernel_rfl) (by kernel_rfl) (by kernel_rfl) (fun _ _ _ h => h) (Or.inl ⟨by rfl, ?hy1043⟩) (by assumption) ?rest1043
            case hy1043 => (intro w1 hSw; (try dsimp only at hSw); obtain ⟨h0, h1, -⟩ := hSw; go_simp; try with_reducible rfl)
            try simp only [Act.put, List.setIfInBounds_toArray, List.set_cons_zero, List.set_cons_succ]
            refine wpAnyH_ready (rs := [11]) (by kernel_rfl) (by simp) ?_
            refine AllReadyH.cons HO.out.2.2.2.2.2.2.2.2.2.2.2.1 (fun K hK => ?_) AllReadyH.nil
            rw [if_pos (by rfl)]
            refine wp_store_cl _ _ Cl.zero ((Cl.new d).set ⟨ua, ta, tc, ul, true, 0⟩ 1) w21.heap.size rfl (by rfl) (by rfl) PC ?_
            intro w258 p259 j260
            have mv261 := j260.blk (Blk.ne R1 PC (by decide)) R1
            have mv262 := j260.ts PC (cl_no _ _) TN
            have mv263 := LOW.trans (j260.below LE195.out)
            have mv264 := LS.trans (j260.below LE196.out)
            have mv265 := LR.trans (j260.below LE197.out)
            replace R1 := mv261
            replace TN := mv262
            replace LOW := mv263
            replace LS := mv264
            replace LR := mv265
            replace PC := p259
            try clear hHeld
            refine hK.out _ _ (⟨(HS.out.1.later LS).cell 0, (HS.out.1.later LS).cell 1, trivial⟩) (fun hHeld => ?_)
            clear hK K
            simp only [Act.put]
            refine wpAnyH_ready (rs := [12]) (by kernel_rfl) (by simp) ?_
            refine AllReadyH.cons HO.out.2.2.2.2.2.2.2.2.2.2.2.2.1 (fun K hK => ?_) AllReadyH.nil
            rw [if_pos (by rfl)]
            refine wp_store_rq _ _ w192.heap.size rfl (by rfl) (by rfl) R1 rfl (by rfl) (by first | (simp [Value.oneCell']; done) | simp [rq, Value.oneCell']) ?_
            intro w266 p267 j268
            have mv269 := j268.blk (Blk.ne PC R1 (by decide)) PC
            have mv270 := j268.ts R1 (rq0_no neN) TN
            have mv271 := LOW.trans (j268.below LE251.out)
            have mv272 := LS.trans (j268.below LE252.out)
            have mv273 := LR.trans (j268.below LE253.out)
            replace PC := mv269
            replace TN := mv270
            replace LOW := mv271
            replace LS := mv272
            replace LR := mv273
            replace R1 := p267
            try clear hHeld
            refine hK.out _ _ (⟨(HS.out.1.later LS).cell 0, (HS.out.1.later LS).cell 1, trivial⟩) (fun hHeld => ?_)
            clear hK K
            simp only [Act.put]
            refine wpAnyH_take (i := 13) (v := ?v1044) HO.out.2.2.2.2.2.2.2.2.2.2.2.2.2 (by kernel_rfl) (by kernel_rfl) (by kernel_rfl) (fun _ _ _ h => h) (Or.inl ⟨by rfl, ?hy1044⟩) (by assumption) ?rest1044
            case hy1044 => (intro w1 hSw; (try dsimp only at hSw); obtain ⟨h0, h1, -⟩ := hSw; go_simp; try with_reducible rfl)
            try simp only [Act.put, List.setIfInBounds_toArray, List.set_cons_zero, List.set_cons_succ]
            refine wpAnyH_done (by kernel_rfl) ?_ _
            go_wp2_with fail
            go_meet
            exact ⟨_, rfl, _, _, ta, tc, a1, n1, c1, a2, n2, c2, a3, c3, rfl, rfl, rfl, PC, R1, TN, LOW, LS, LR⟩
          refine AllReadyH.cons HO.out.2.2.2.2.2.2.2.2.2.2.1 (fun K hK => ?_) AllReadyH.nil
          go_simp
          have LE277 := Lib.hid LOW.size
          have LE278 := Lib.hid LS.size
          have LE279 := Lib.hid LR.size
          obtain ⟨w274, hw275, hb276, R1⟩ := alloc_new w21 rq0 RT
          replace LOW := LOW.trans (hb276.mono LOW.size)
          replace LS := LS.trans (hb276.mono LS.size)
          replace LR := LR.trans (hb276.mono LR.size)
          clear hb276
          rw [hw275]
          clear hw275
          try clear hHeld
          refine hK.out _ _ (⟨(HS.out.1.later LS).cell 0, (HS.out.1.later LS).cell 1, trivial⟩) (fun hHeld => ?_)
          clear hK K
          try simp only [Act.put, List.setIfInBounds_toArray, List.set_cons_zero, List.set_cons_succ]
          refine wpAnyH_ready (rs := [1, 9]) (by kernel_rfl) (by simp) ?_
          refine AllReadyH.cons HO.out.2.1 (fun K hK => ?_) ?_
          · go_simp
            refine (new_any d _).mono ?_
            rintro e w280 ⟨rfl, hb281⟩
            replace R1 := R1.later hb281
            replace LOW := LOW.trans (hb281.mono LOW.size)
            replace LS := LS.trans (hb281.mono LS.size)
            replace LR := LR.trans (hb281.mono LR.size)
            clear hb281
            try clear hHeld
            refine hK.out _ _ (⟨(HS.out.1.later LS).cell 0, (HS.out.1.later LS).cell 1, trivial⟩) (fun hHeld => ?_)
            clear hK K
            try simp only [Act.put, List.setIfInBounds_toArray, List.set_cons_zero, List.set_cons_succ]
            refine wpAnyH_ready (rs := [4, 9]) (by kernel_rfl) (by simp) ?_
            refine AllReadyH.cons HO.out.2.2.2.2.1 (fun K hK => ?_) ?_
            · go_simp
              refine (ask_zero_h (x := Cl.new d) (d := d) (k := 1) (n := N) (m := MM) (hs := hvL ms') rfl (by omega) (by omega) rfl HFi.out.2.2.2.2 HFi.out.2.2.1 (by have := HFi.out.2.2.2.1; omega) (HS.out.2.1.later LS) (HH.out.1.later LR) HH.out.2.1 (by omega) (by rw [HU.out.2.1, HH.out.2.2.1]; exact HMM.out)).mono ?_
              rintro e w282 ⟨ta, tc, a1, n1, c1, a2, n2, c2, a3, c3, rfl, TN, hb283⟩
              replace R1 := R1.later hb283
              replace LOW := LOW.trans (hb283.mono LOW.size)
              replace LS := LS.trans (hb283.mono LS.size)
              replace LR := LR.trans (hb283.mono LR.size)
              clear hb283
              try clear hHeld
              refine hK.out _ _ (⟨(HS.out.1.later LS).cell 0, (HS.out.1.later LS).cell 1, trivial⟩) (fun hHeld => ?_)
              clear hK K
              try simp only [Act.put, List.setIfInBounds_toArray, List.set_cons_zero, List.set_cons_succ]
              refine wpAnyH_take (i := 5) (v := ?v1045) HO.out.2.2.2.2.2.1 (by kernel_rfl) (by kernel_rfl) (by kernel_rfl) (fun _ _ _ h => h) (Or.inl ⟨by rfl, ?hy1045⟩) (by assumption) ?rest1045
              case hy1045 => (intro w1 hSw; (try dsimp only at hSw); obtain ⟨h0, h1, -⟩ := hSw; go_simp; try with_reducible rfl)
              try simp only [Act.put, List.setIfInBounds_toArray, List.set_cons_zero, List.set_cons_succ]
              refine wpAnyH_take (i := 6) (v := ?v1046) HO.out.2.2.2.2.2.2.1 (by kernel_rfl) (by kernel_rfl) (by kernel_rfl) (fun _ _ _ h => h) (Or.inl ⟨by rfl, ?hy1046⟩) (by assumption) ?rest1046
              case hy1046 => (intro w1 hSw; (try dsimp only at hSw); obtain ⟨h0, h1, -⟩ := hSw; go_simp; try with_reducible rfl)
              try simp only [Act.put, List.setIfInBounds_toArray, List.set_cons_zero, List.set_cons_succ]
              refine wpAnyH_take (i := 7) (v := ?v1047) HO.out.2.2.2.2.2.2.2.1 (by kernel_rfl) (by kernel_rfl) (by kernel_rfl) (fun _ _ _ h => h) (Or.inl ⟨by rfl, ?hy1047⟩) (by assumption) ?rest1047
              case hy1047 => (intro w1 hSw; (try dsimp only at hSw); obtain ⟨h0, h1, -⟩ := hSw; go_simp; try with_reducible rfl)
              try simp only [Act.put, List.setIfInBounds_toArray, List.set_cons_zero, List.set_cons_succ]
              refine wpAnyH_take (i := 8) (v := ?v1048) HO.out.2.2.2.2.2.2.2.2.1 (by kernel_rfl) (by kernel_rfl) (by kernel_rfl) (fun _ _ _ h => h) (Or.inl ⟨by rfl, ?hy1048⟩) (by assumption) ?rest1048
              case hy1048 => (intro w1 hSw; (try dsimp only at hSw); obtain ⟨h0, h1, -⟩ := hSw; go_simp; try with_reducible rfl)
              try simp only [Act.put, List.setIfInBounds_toArray, List.set_cons_zero, List.set_cons_succ]
              refine wpAnyH_ready (rs := [9]) (by kernel_rfl) (by simp) ?_
              refine AllReadyH.cons HO.out.2.2.2.2.2.2.2.2.2.1 (fun K hK => ?_) AllReadyH.nil
              go_simp
              have LE287 := Lib.hid LOW.size
              have LE288 := Lib.hid LS.size
              have LE289 := Lib.hid LR.size
              obtain ⟨w284, hw285, hb286, PC⟩ := alloc_new w282 Cl.zero.arr CT
              replace hw285 : w282.alloc (.cells #[.bool false, .bool false, .slice none 0 0, .bool false, .int .u64 0, .bool false, .slice none 0 0, .bool false, .int .u64 0, .bool false, .slice none 0 0, .bool false, .int .u64 0, .bool false, .slice none 0 0, .bool false, .int .u64 0, .bool false, .slice none 0 0, .bool false, .int .u64 0, .bool false, .slice none 0 0, .bool false, .int .u64 0] CT) = w284 := hw285
              replace R1 := R1.later hb286
              replace TN := TN.later hb286
              replace LOW := LOW.trans (hb286.mono LOW.size)
              replace LS := LS.trans (hb286.mono LS.size)
              replace LR := LR.trans (hb286.mono LR.size)
              clear hb286
              rw [hw285]
              clear hw285
              try clear hHeld
              refine hK.out _ _ (⟨(HS.out.1.later LS).cell 0, (HS.out.1.later LS).cell 1, trivial⟩) (fun hHeld => ?_)
              clear hK K
              try simp only [Act.put, List.setIfInBounds_toArray, List.set_cons_zero, List.set_cons_succ]
              refine wpAnyH_ready (rs := [11]) (by kernel_rfl) (by simp) ?_
              refine AllReadyH.cons HO.out.2.2.2.2.2.2.2.2.2.2.2.1 (fun K hK => ?_) AllReadyH.nil
              rw [if_pos (by rfl)]
              refine wp_store_cl _ _ Cl.zero ((Cl.new d).set ⟨ua, ta, tc, ul, true, 0⟩ 1) w282.heap.size rfl (by rfl) (by rfl) PC ?_
              intro w290 p291 j292
              have mv293 := j292.blk (Blk.ne R1 PC (by decide)) R1
              have mv294 := j292.ts PC (cl_no _ _) TN
              have mv295 := LOW.trans (j292.below LE287.out)
              have mv296 := LS.trans (j292.below LE288.out)
              have mv297 := LR.trans (j292.below LE289.out)
              replace R1 := mv293
              replace TN := mv294
              replace LOW := mv295
              replace LS := mv296
              replace LR := mv297
              replace PC := p291
              try clear hHeld
              refine hK.out _ _ (⟨(HS.out.1.later LS).cell 0, (HS.out.1.later LS).cell 1, trivial⟩) (fun hHeld => ?_)
              clear hK K
              simp only [Act.put]
              refine wpAnyH_ready (rs := [12]) (by kernel_rfl) (by simp) ?_
              refine AllReadyH.cons HO.out.2.2.2.2.2.2.2.2.2.2.2.2.1 (fun K hK => ?_) AllReadyH.nil
              rw [if_pos (by rfl)]
              refine wp_store_rq _ _ w21.heap.size rfl (by rfl) (by rfl) R1 rfl (by rfl) (by first | (simp [Value.oneCell']; done) | simp [rq, Value.oneCell']) ?_
              intro w298 p299 j300
              have mv301 := j300.blk (Blk.ne PC R1 (by decide)) PC
              have mv302 := j300.ts R1 (rq0_no neN) TN
              have mv303 := LOW.trans (j300.below LE277.out)
              have mv304 := LS.trans (j300.below LE278.out)
              have mv305 := LR.trans (j300.below LE279.out)
              replace PC := mv301
              replace TN := mv302
              replace LOW := mv303
              replace LS := mv304
              replace LR := mv305
              replace R1 := p299
              try clear hHeld
              refine hK.out _ _ (⟨(HS.out.1.later LS).cell 0, (HS.out.1.later LS).cell 1, trivial⟩) (fun hHeld => ?_)
              clear hK K
              simp only [Act.put]
              refine wpAnyH_take (i := 13) (v := ?v1049) HO.out.2.2.2.2.2.2.2.2.2.2.2.2.2 (by kernel_rfl) (by kernel_rfl) (by kernel_rfl) (fun _ _ _ h => h) (Or.inl ⟨by rfl, ?hy1049⟩) (by assumption) ?rest1049
              case hy1049 => (intro w1 hSw; (try dsimp only at hSw); obtain ⟨h0, h1, -⟩ := hSw; go_simp; try with_reducible rfl)
              try simp only [Act.put, List.setIfInBounds_toArray, List.set_cons_zero, List.set_cons_succ]
              refine wpAnyH_done (by kernel_rfl) ?_ _
              go_wp2_with fail
              go_meet
              exact ⟨_, rfl, _, _, ta, tc, a1, n1, c1, a2, n2, c2, a3, c3, rfl, rfl, rfl, PC, R1, TN, LOW, LS, LR⟩
            refine AllReadyH.cons HO.out.2.2.2.2.2.2.2.2.2.1 (fun K hK => ?_) AllReadyH.nil
            go_simp
            have LE309 := Lib.hid LOW.size
            have LE310 := Lib.hid LS.size
            have LE311 := Lib.hid LR.size
            obtain ⟨w306, hw307, hb308, PC⟩ := alloc_new w280 Cl.zero.arr CT
            replace hw307 : w280.alloc (.cells #[.bool false, .bool false, .slice none 0 0, .bool false, .int .u64 0, .bool false, .slice none 0 0, .bool false, .int .u64 0, .bool false, .slice none 0 0, .bool false, .int .u64 0, .bool false, .slice none 0 0, .bool false, .int .u64 0, .bool false, .slice none 0 0, .bool false, .int .u64 0, .bool false, .slice none 0 0, .bool false, .int .u64 0] CT) = w306 := hw307
            replace R1 := R1.later hb308
            replace LOW := LOW.trans (hb308.mono LOW.size)
            replace LS := LS.trans (hb308.mono LS.size)
            replace LR := LR.trans (hb308.mono LR.size)
            clear hb308
            rw [hw307]
            clear hw307
            try clear hHeld
            refine hK.out _ _ (⟨(HS.out.1.later LS).cell 0, (HS.out.1.later LS).cell 1, trivial⟩) (fun hHeld => ?_)
            clear hK K
            try simp only [Act.put, List.setIfInBounds_toArray, List.set_cons_zero, List.set_cons_succ]
            refine wpAnyH_ready (rs := [4]) (by kernel_rfl) (by simp) ?_
            refine AllReadyH.cons HO.out.2.2.2.2.1 (fun K hK => ?_) AllReadyH.nil
            go_simp
            refine (ask_zero_h (x := Cl.new d) (d := d) (k := 1) (n := N) (m := MM) (hs := hvL ms') rfl (by omega) (by omega) rfl HFi.out.2.2.2.2 HFi.out.2.2.1 (by have := HFi.out.2.2.2.1; omega) (HS.out.2.1.later LS) (HH.out.1.later LR) HH.out.2.1 (by omega) (by rw [HU.out.2.1, HH.out.2.2.1]; exact HMM.out)).mono ?_
            rintro e w312 ⟨ta, tc, a1, n1, c1, a2, n2, c2, a3, c3, rfl, TN, hb313⟩
            replace R1 := R1.later hb313
            replace PC := PC.later hb313
            replace LOW := LOW.trans (hb313.mono LOW.size)
            replace LS := LS.trans (hb313.mono LS.size)
            replace LR := LR.trans (hb313.mono LR.size)
            clear hb313
            try clear hHeld
            refine hK.out _ _ (⟨(HS.out.1.later LS).cell 0, (HS.out.1.later LS).cell 1, trivial⟩) (fun hHeld => ?_)
            clear hK K
            try simp only [Act.put, List.setIfInBounds_toArray, List.set_cons_zero, List.set_cons_succ]
            refine wpAnyH_take (i := 5) (v := ?v1050) HO.out.2.2.2.2.2.1 (by kernel_rfl) (by kernel_rfl) (by kernel_rfl) (fun _ _ _ h => h) (Or.inl ⟨by rfl, ?hy1050⟩) (by assumption) ?rest1050
            case hy1050 => (intro w1 hSw; (try dsimp only at hSw); obtain ⟨h0, h1, -⟩ := hSw; go_simp; try with_reducible rfl)
            try simp only [Act.put, List.setIfInBounds_toArray, List.set_cons_zero, List.set_cons_succ]
            refine wpAnyH_take (i := 6) (v := ?v1051) HO.out.2.2.2.2.2.2.1 (by kernel_rfl) (by kernel_rfl) (by kernel_rfl) (fun _ _ _ h => h) (Or.inl ⟨by rfl, ?hy1051⟩) (by assumption) ?rest1051
            case hy1051 => (intro w1 hSw; (try dsimp only at hSw); obtain ⟨h0, h1, -⟩ := hSw; go_simp; try with_reducible rfl)
            try simp only [Act.put, List.setIfInBounds_toArray, List.set_cons_zero, List.set_cons_succ]
            refine wpAnyH_take (i := 7) (v := ?v1052) HO.out.2.2.2.2.2.2.2.1 (by kernel_rfl) (by kernel_rfl) (by kernel_rfl) (fun _ _ _ h => h) (Or.inl ⟨by rfl, ?hy1052⟩) (by assumption) ?rest1052
            case hy1052 => (intro w1 hSw; (try dsimp only at hSw); obtain ⟨h0, h1, -⟩ := hSw; go_simp; try with_reducible rfl)
            try simp only [Act.put, List.setIfInBounds_toArray, List.set_cons_zero, List.set_cons_succ]
            refine wpAnyH_take (i := 8) (v := ?v1053) HO.out.2.2.2.2.2.2.2.2.1 (by kernel_rfl) (by kernel_rfl) (by kernel_rfl) (fun _ _ _ h => h) (Or.inl ⟨by rfl, ?hy1053⟩) (by assumption) ?rest1053
            case hy1053 => (intro w1 hSw; (try dsimp only at hSw); obtain ⟨h0, h1, -⟩ := hSw; go_simp; try with_reducible rfl)
            try simp only [Act.put, List.setIfInBounds_toArray, List.set_cons_zero, List.set_cons_succ]
            refine wpAnyH_ready (rs := [11]) (by kernel_rfl) (by simp) ?_
            refine AllReadyH.cons HO.out.2.2.2.2.2.2.2.2.2.2.2.1 (fun K hK => ?_) AllReadyH.nil
            rw [if_pos (by rfl)]
            refine wp_store_cl _ _ Cl.zero ((Cl.new d).set ⟨ua, ta, tc, ul, true, 0⟩ 1) w280.heap.size rfl (by rfl) (by rfl) PC ?_
            intro w314 p315 j316
            have mv317 := j316.blk (Blk.ne R1 PC (by decide)) R1
            have mv318 := j316.ts PC (cl_no _ _) TN
            have mv319 := LOW.trans (j316.below LE309.out)
            have mv320 := LS.trans (j316.below LE310.out)
            have mv321 := LR.trans (j316.below LE311.out)
            replace R1 := mv317
            replace TN := mv318
            replace LOW := mv319
            replace LS := mv320
            replace LR := mv321
            replace PC := p315
            try clear hHeld
            refine hK.out _ _ (⟨(HS.out.1.later LS).cell 0, (HS.out.1.later LS).cell 1, trivial⟩) (fun hHeld => ?_)
            clear hK K
            simp only [Act.put]
            refine wpAnyH_ready (rs := [12]) (by kernel_rfl) (by simp) ?_
            refine AllReadyH.cons HO.out.2.2.2.2.2.2.2.2.2.2.2.2.1 (fun K hK => ?_) AllReadyH.nil
            rw [if_pos (by rfl)]
            refine wp_store_rq _ _ w21.heap.size rfl (by rfl) (by rfl) R1 rfl (by rfl) (by first | (simp [Value.oneCell']; done) | simp [rq, Value.oneCell']) ?_
            intro w322 p323 j324
            have mv325 := j324.blk (Blk.ne PC R1 (by decide)) PC
            have mv326 := j324.ts R1 (rq0_no neN) TN
            have mv327 := LOW.trans (j324.below LE277.out)
            have mv328 := LS.trans (j324.below LE278.out)
            have mv329 := LR.trans (j324.below LE279.out)
            replace PC := mv325
            replace TN := mv326
            replace LOW := mv327
            replace LS := mv328
            replace LR := mv329
            replace R1 := p323
            try clear hHeld
            refine hK.out _ _ (⟨(HS.out.1.later LS).cell 0, (HS.out.1.later LS).cell 1, trivial⟩) (fun hHeld => ?_)
            clear hK K
            simp only [Act.put]
            refine wpAnyH_take (i := 13) (v := ?v1054) HO.out.2.2.2.2.2.2.2.2.2.2.2.2.2 (by kernel_rfl) (by kernel_rfl) (by kernel_rfl) (fun _ _ _ h => h) (Or.inl ⟨by rfl, ?hy1054⟩) (by assumption) ?rest1054
            case hy1054 => (intro w1 hSw; (try dsimp only at hSw); obtain ⟨h0, h1, -⟩ := hSw; go_simp; try with_reducible rfl)
            try simp only [Act.put, List.setIfInBounds_toArray, List.set_cons_zero, List.set_cons_succ]
            refine wpAnyH_done (by kernel_rfl) ?_ _
            go_wp2_with fail
            go_meet
            exact ⟨_, rfl, _, _, ta, tc, a1, n1, c1, a2, n2, c2, a3, c3, rfl, rfl, rfl, PC, R1, TN, LOW, LS, LR⟩
          refine AllReadyH.cons HO.out.2.2.2.2.2.2.2.2.2.1 (fun K hK => ?_) AllReadyH.nil
          go_simp
          have LE333 := Lib.hid LOW.size
          have LE334 := Lib.hid LS.size
          have LE335 := Lib.hid LR.size
          obtain ⟨w330, hw331, hb332, PC⟩ := alloc_new w274 Cl.zero.arr CT
          replace hw331 : w274.alloc (.cells #[.bool false, .bool false, .slice none 0 0, .bool false, .int .u64 0, .bool false, .slice none 0 0, .bool false, .int .u64 0, .bool false, .slice none 0 0, .bool false, .int .u64 0, .bool false, .slice none 0 0, .bool false, .int .u64 0, .bool false, .slice none 0 0, .bool false, .int .u64 0, .bool false, .slice none 0 0, .bool false, .int .u64 0] CT) = w330 := hw331
          replace R1 := R1.later hb332
          replace LOW := LOW.trans (hb332.mono LOW.size)
          replace LS := LS.trans (hb332.mono LS.size)
          replace LR := LR.trans (hb332.mono LR.size)
          clear hb332
          rw [hw331]
          clear hw331
          try clear hHeld
          refine hK.out _ _ (⟨(HS.out.1.later LS).cell 0, (HS.out.1.later LS).cell 1, trivial⟩) (fun hHeld => ?_)
          clear hK K
          try simp only [Act.put, List.setIfInBounds_toArray, List.set_cons_zero, List.set_cons_succ]
          refine wpAnyH_ready (rs := [1]) (by kernel_rfl) (by simp) ?_
          refine AllReadyH.cons HO.out.2.1 (fun K hK => ?_) AllReadyH.nil
          go_simp
          refine (new_any d _).mono ?_
          rintro e w336 ⟨rfl, hb337⟩
          replace R1 := R1.later hb337
          replace PC := PC.later hb337
          replace LOW := LOW.trans (hb337.mono LOW.size)
          replace LS := LS.trans (hb337.mono LS.size)
          replace LR := LR.trans (hb337.mono LR.size)
          clear hb337
          try clear hHeld
          refine hK.out _ _ (⟨(HS.out.1.later LS).cell 0, (HS.out.1.later LS).cell 1, trivial⟩) (fun hHeld => ?_)
          clear hK K
          try simp only [Act.put, List.setIfInBounds_toArray, List.set_cons_zero, List.set_cons_succ]
          refine wpAnyH_ready (rs := [4]) (by kernel_rfl) (by simp) ?_
          refine AllReadyH.cons HO.out.2.2.2.2.1 (fun K hK => ?_) AllReadyH.nil
          go_simp
          refine (ask_zero_h (x := Cl.new d) (d := d) (k := 1) (n := N) (m := MM) (hs := hvL ms') rfl (by omega) (by omega) rfl HFi.out.2.2.2.2 HFi.out.2.2.1 (by have := HFi.out.2.2.2.1; omega) (HS.out.2.1.later LS) (HH.out.1.later LR) HH.out.2.1 (by omega) (by rw [HU.out.2.1, HH.out.2.2.1]; exact HMM.out)).mono ?_
          rintro e w338 ⟨ta, tc, a1, n1, c1, a2, n2, c2, a3, c3, rfl, TN, hb339⟩
          replace R1 := R1.later hb339
          replace PC := PC.later hb339
          replace LOW := LOW.trans (hb339.mono LOW.size)
          replace LS := LS.trans (hb339.mono LS.size)
          replace LR := LR.trans (hb339.mono LR.size)
          clear hb339
          try clear hHeld
          refine hK.out _ _ (⟨(HS.out.1.later LS).cell 0, (HS.out.1.later LS).cell 1, trivial⟩) (fun hHeld => ?_)
          clear hK K
          try simp only [Act.put, List.setIfInBounds_toArray, List.set_cons_zero, List.set_cons_succ]
          refine wpAnyH_take (i := 5) (v := ?v1055) HO.out.2.2.2.2.2.1 (by kernel_rfl) (by kernel_rfl) (by kernel_rfl) (fun _ _ _ h => h) (Or.inl ⟨by rfl, ?hy1055⟩) (by assumption) ?rest1055
          case hy1055 => (intro w1 hSw; (try dsimp only at hSw); obtain ⟨h0, h1, -⟩ := hSw; go_simp; try with_reducible rfl)
          try simp only [Act.put, List.setIfInBounds_toArray, List.set_cons_zero, List.set_cons_succ]
          refine wpAnyH_take (i := 6) (v := ?v1056) HO.out.2.2.2.2.2.2.1 (by kernel_rfl) (by kernel_rfl) (by kernel_rfl) (fun _ _ _ h => h) (Or.inl ⟨by rfl, ?hy1056⟩) (by assumption) ?rest1056
          case hy1056 => (intro w1 hSw; (try dsimp only at hSw); obtain ⟨h0, h1, -⟩ := hSw; go_simp; try with_reducible rfl)
          try simp only [Act.put, List.setIfInBounds_toArray, List.set_cons_zero, List.set_cons_succ]
          refine wpAnyH_take (i := 7) (v := ?v1057) HO.out.2.2.2.2.2.2.2.1 (by kernel_rfl) (by kernel_rfl) (by kernel_rfl) (fun _ _ _ h => h) (Or.inl ⟨by rfl, ?hy1057⟩) (by assumption) ?rest1057
          case hy1057 => (intro w1 hSw; (try dsimp only at hSw); obtain ⟨h0, h1, -⟩ := hSw; go_simp; try with_reducible rfl)
          try simp only [Act.put, List.setIfInBounds_toArray, List.set_cons_zero, List.set_cons_succ]
          refine wpAnyH_take (i := 8) (v := ?v1058) HO.out.2.2.2.2.2.2.2.2.1 (by kernel_rfl) (by kernel_rfl) (by kernel_rfl) (fun _ _ _ h => h) (Or.inl ⟨by rfl, ?hy1058⟩) (by assumption) ?rest1058
          case hy1058 => (intro w1 hSw; (try dsimp only at hSw); obtain ⟨h0, h1, -⟩ := hSw; go_simp; try with_reducible rfl)
          try simp only [Act.put, List.setIfInBounds_toArray, List.set_cons_zero, List.set_cons_succ]
          refine wpAnyH_ready (rs := [11]) (by kernel_rfl) (by simp) ?_
          refine AllReadyH.cons HO.out.2.2.2.2.2.2.2.2.2.2.2.1 (fun K hK => ?_) AllReadyH.nil
          rw [if_pos (by rfl)]
          refine wp_store_cl _ _ Cl.zero ((Cl.new d).set ⟨ua, ta, tc, ul, true, 0⟩ 1) w274.heap.size rfl (by rfl) (by rfl) PC ?_
          intro w340 p341 j342
          have mv343 := j342.blk (Blk.ne R1 PC (by decide)) R1
          have mv344 := j342.ts PC (cl_no _ _) TN
          have mv345 := LOW.trans (j342.below LE333.out)
          have mv346 := LS.trans (j342.below LE334.out)
          have mv347 := LR.trans (j342.below LE335.out)
          replace R1 := mv343
          replace TN := mv344
          replace LOW := mv345
          replace LS := mv346
          replace LR := mv347
          replace PC := p341
          try clear hHeld
          refine hK.out _ _ (⟨(HS.out.1.later LS).cell 0, (HS.out.1.later LS).cell 1, trivial⟩) (fun hHeld => ?_)
          clear hK K
          simp only [Act.put]
          refine wpAnyH_ready (rs := [12]) (by kernel_rfl) (by simp) ?_
          refine AllReadyH.cons HO.out.2.2.2.2.2.2.2.2.2.2.2.2.1 (fun K hK => ?_) AllReadyH.nil
          rw [if_pos (by rfl)]
          refine wp_store_rq _ _ w21.heap.size rfl (by rfl) (by rfl) R1 rfl (by rfl) (by first | (simp [Value.oneCell']; done) | simp [rq, Value.oneCell']) ?_
          intro w348 p349 j350
          have mv351 := j350.blk (Blk.ne PC R1 (by decide)) PC
          have mv352 := j350.ts R1 (rq0_no neN) TN
          have mv353 := LOW.trans (j350.below LE277.out)
          have mv354 := LS.trans (j350.below LE278.out)
          have mv355 := LR.trans (j350.below LE279.out)
          replace PC := mv351
          replace TN := mv352
          replace LOW := mv353
          replace LS := mv354
          replace LR := mv355
          replace R1 := p349
          try clear hHeld
          refine hK.out _ _ (⟨(HS.out.1.later LS).cell 0, (HS.out.1.later LS).cell 1, trivial⟩) (fun hHeld => ?_)
          clear hK K
          simp only [Act.put]
          refine wpAnyH_take (i := 13) (v := ?v1059) HO.out.2.2.2.2.2.2.2.2.2.2.2.2.2 (by kernel_rfl) (by kernel_rfl) (by kernel_rfl) (fun _ _ _ h => h) (Or.inl ⟨by rfl, ?hy1059⟩) (by assumption) ?rest1059
          case hy1059 => (intro w1 hSw; (try dsimp only at hSw); obtain ⟨h0, h1, -⟩ := hSw; go_simp; try with_reducible rfl)
          try simp only [Act.put, List.setIfInBounds_toArray, List.set_cons_zero, List.set_cons_succ]
          refine wpAnyH_done (by kernel_rfl) ?_ _
          go_wp2_with fail
          go_meet
          exact ⟨_, rfl, _, _, ta, tc, a1, n1, c1, a2, n2, c2, a3, c3, rfl, rfl, rfl, PC, R1, TN, LOW, LS, LR⟩
        case rest =>
        clear LOW LS LR
        obtain ⟨wz356, hwz, B1, B2, ta, tc, a1, n1, c1, a2, n2, c2, a3, c3, rfl, rfl, rfl, PC, R1, TN, LOW, LS, LR⟩ := hcut
        subst hwz
        have s0 := (HS.out.1.later LS).cell 0
        have s1 := (HS.out.1.later LS).cell 1
        simp only [List.getElem?_toArray, List.getElem?_cons_zero, List.getElem?_cons_succ] at s0 s1
        have LE360 := Lib.hid LOW.size
        have LE361 := Lib.hid LS.size
        have LE362 := Lib.hid LR.size
        obtain ⟨w357, hw358, hb359, QN⟩ := alloc_new wz356 #[.string ⟨#[110, 101, 119, 47, 120]⟩] 9
        replace PC := PC.later hb359
        replace R1 := R1.later hb359
        replace TN := TN.later hb359
        replace LOW := LOW.trans (hb359.mono LOW.size)
        replace LS := LS.trans (hb359.mono LS.size)
        replace LR := LR.trans (hb359.mono LR.size)
        clear hb359
        have HW363 := Lib.hid hw358
        clear hw358
        have TA : TsAt w357 _ [newX] := ts_block (l := [newX]) QN (by decide) rfl
        clear QN
        go_wp2_with (first | rw [HW363.out])
        refine (add_any (aa := ua) (HS.out.2.1.later LS) TA (new_fit HFi.out.2.2.1 HFi.out.2.2.2.1) HU.out.1).mono ?_
        rintro e w364 ⟨na, nc, rfl, TM, hb365⟩
        replace PC := PC.later hb365
        replace R1 := R1.later hb365
        replace TN := TN.later hb365
        replace LOW := LOW.trans (hb365.mono LOW.size)
        replace LS := LS.trans (hb365.mono LS.size)
        replace LR := LR.trans (hb365.mono LR.size)
        clear hb365
        dsimp only
        clear TA s0 s1
        have LE369 := Lib.hid LOW.size
        have LE370 := Lib.hid LS.size
        have LE371 := Lib.hid LR.size
        obtain ⟨w366, hw367, hb368, PM⟩ := alloc_new w364 #[.bool sa, .slice na sl.length nc] 26
        replace PC := PC.later hb368
        replace R1 := R1.later hb368
        replace TN := TN.later hb368
        replace TM := TM.later hb368
        replace LOW := LOW.trans (hb368.mono LOW.size)
        replace LS := LS.trans (hb368.mono LS.size)
        replace LR := LR.trans (hb368.mono LR.size)
        clear hb368
        have HW372 := Lib.hid hw367
        clear hw367
        have m0 := PM.cell 0
        have m1 := PM.cell 1
        simp only [List.getElem?_toArray, List.getElem?_cons_zero, List.getElem?_cons_succ] at m0 m1
        go_wp2_with (first | rw [HW372.out] | (refine wpList_load_cl _ ((Cl.new d).set ⟨ua, ta, tc, ul, true, 0⟩ 1) B1 rfl rfl (by rfl) PC ?_; simp only [Act.put, List.setIfInBounds_toArray, List.set_cons_zero, List.set_cons_succ]))
        clear m0 m1
        refine (ask_more_ok (x := ((Cl.new d).set ⟨ua, ta, tc, ul, true, 0⟩ 1)) (d := d) (n := N) (hs := hvL ms') rfl HFi.out.2.2.2.2 HFi.out.2.2.1 HFi.out.2.2.2.1 (by omega) HU.out.2.2 HU.out.1 rfl rfl rfl TN TM (HH.out.1.later LR) HH.out.2.1).mono ?_
        rintro e w373 ⟨X2, q2, a4, n4, c4, a5, n5, c5, a6, c6, rfl, hb374⟩
        replace PC := PC.later hb374
        replace R1 := R1.later hb374
        replace PM := PM.later hb374
        replace TN := TN.later hb374
        replace TM := TM.later hb374
        replace LOW := LOW.trans (hb374.mono LOW.size)
        replace LS := LS.trans (hb374.mono LS.size)
        replace LR := LR.trans (hb374.mono LR.size)
        clear hb374
        dsimp only
        clear TM PM TN PC
        have LE378 := Lib.hid LOW.size
        have LE379 := Lib.hid LS.size
        have LE380 := Lib.hid LR.size
        obtain ⟨w375, hw376, hb377, PD⟩ := alloc_new w373 Cl.zero.arr CT
        replace hw376 : w373.alloc (.cells #[.bool false, .bool false, .slice none 0 0, .bool false, .int .u64 0, .bool false, .slice none 0 0, .bool false, .int .u64 0, .bool false, .slice none 0 0, .bool false, .int .u64 0, .bool false, .slice none 0 0, .bool false, .int .u64 0, .bool false, .slice none 0 0, .bool false, .int .u64 0, .bool false, .slice none 0 0, .bool false, .int .u64 0] CT) = w375 := hw376
        replace R1 := R1.later hb377
        replace LOW := LOW.trans (hb377.mono LOW.size)
        replace LS := LS.trans (hb377.mono LS.size)
        replace LR := LR.trans (hb377.mono LR.size)
        clear hb377
        have HW381 := Lib.hid hw376
        clear hw376
        have NE385 := Lib.hid (Nat.ne_of_lt R1.lt)
        have LE386 := Lib.hid LOW.size
        have LE387 := Lib.hid LS.size
        have LE388 := Lib.hid LR.size
        obtain ⟨w382, hw383, hb384, R4⟩ := alloc_new w375 rq0 RT
        replace R1 := R1.later hb384
        replace PD := PD.later hb384
        replace LOW := LOW.trans (hb384.mono LOW.size)
        replace LS := LS.trans (hb384.mono LS.size)
        replace LR := LR.trans (hb384.mono LR.size)
        clear hb384
        have HW389 := Lib.hid hw383
        clear hw383
        cases d with
        | false =>
          obtain rfl : MM = 0 := by have := HMM.out; simpa using this.symm
          go_wp2_with (first | rw [HW381.out] | rw [HW389.out] | (refine wpList_store_cl _ _ Cl.zero X2 w373.heap.size rfl rfl (by rfl) (by rfl) PD ?_; intro w390 p391 j392; have mv393 := j392.blk (Blk.ne R1 PD (by decide)) R1; have mv394 := j392.blk (Blk.ne R4 PD (by decide)) R4; have mv395 := LOW.trans (j392.below LE378.out); have mv396 := LS.trans (j392.below LE379.out); have mv397 := LR.trans (j392.below LE380.out); replace R1 := mv393; replace R4 := mv394; replace LOW := mv395; replace LS := mv396; replace LR := mv397; replace PD := p391; simp only [Act.put]) | (refine wpList_store_rq _ _ w375.heap.size rfl rfl (by rfl) (by rfl) R4 rfl (by rfl) (by first | (simp [Value.oneCell']; done) | simp [rq, Value.oneCell']) ?_; intro w398 p399 j400; have mv401 := j400.blk NE385.out R1; have mv402 := j400.blk (Blk.ne PD R4 (by decide)) PD; have mv403 := LOW.trans (j400.below LE386.out); have mv404 := LS.trans (j400.below LE387.out); have mv405 := LR.trans (j400.below LE388.out); replace R1 := mv401; replace PD := mv402; replace LOW := mv403; replace LS := mv404; replace LR := mv405; replace R4 := p399; simp only [Act.put]; have x0 : w398.cell? ⟨B2, 0, none⟩ = some (.int .i64 ((1 : Nat) : Int)) := R1.cell 0; have x1 : w398.cell? ⟨B2, 1, none⟩ = some (.bool false) := R1.cell 1; have x5 : w398.cell? ⟨B2, 5, none⟩ = some (.slice a3 0 c3) := R1.cell 5; have y5 : w398.cell? ⟨w375.heap.size, 5, none⟩ = some (.slice a6 0 c6) := R4.cell 5))
          go_ret
          exact ⟨rfl, LOW⟩
        | true =>
          obtain rfl : MM = M := by have := HMM.out; simpa using this.symm
          go_wp2_with (first | rw [HW381.out] | rw [HW389.out] | (refine wpList_store_cl _ _ Cl.zero X2 w373.heap.size rfl rfl (by rfl) (by rfl) PD ?_; intro w390 p391 j392; have mv393 := j392.blk (Blk.ne R1 PD (by decide)) R1; have mv394 := j392.blk (Blk.ne R4 PD (by decide)) R4; have mv395 := LOW.trans (j392.below LE378.out); have mv396 := LS.trans (j392.below LE379.out); have mv397 := LR.trans (j392.below LE380.out); replace R1 := mv393; replace R4 := mv394; replace LOW := mv395; replace LS := mv396; replace LR := mv397; replace PD := p391; simp only [Act.put]) | (refine wpList_store_rq _ _ w375.heap.size rfl rfl (by rfl) (by rfl) R4 rfl (by rfl) (by first | (simp [Value.oneCell']; done) | simp [rq, Value.oneCell']) ?_; intro w398 p399 j400; have mv401 := j400.blk NE385.out R1; have mv402 := j400.blk (Blk.ne PD R4 (by decide)) PD; have mv403 := LOW.trans (j400.below LE386.out); have mv404 := LS.trans (j400.below LE387.out); have mv405 := LR.trans (j400.below LE388.out); replace R1 := mv401; replace PD := mv402; replace LOW := mv403; replace LS := mv404; replace LR := mv405; replace R4 := p399; simp only [Act.put]; have x0 : w398.cell? ⟨B2, 0, none⟩ = some (.int .i64 ((1 : Nat) : Int)) := R1.cell 0; have x1 : w398.cell? ⟨B2, 1, none⟩ = some (.bool true) := R1.cell 1; have x5 : w398.cell? ⟨B2, 5, none⟩ = some (.slice a3 MM c3) := R1.cell 5; have y5 : w398.cell? ⟨w375.heap.size, 5, none⟩ = some (.slice a6 0 c6) := R4.cell 5))
          go_ret
          exact ⟨rfl, LOW⟩
    · have b1 : ¬ (k : Int) < (n' : Int) := by omega
      rw [hv_all ms' (.inr (by have := HG.out.2.2.2.2.2.2.1; omega))] at hown hM
      obtain ⟨ha, hc, rfl⟩ := owns_slice hown
      obtain ⟨N, hN⟩ : ∃ N, (hvL ms').length = N := ⟨_, rfl⟩
      have hNl : N ≤ 12 := by rw [← hN]; exact hv_len ms'
      have HH := Lib.hid (And.intro (hv_row hown) (And.intro hN (And.intro hM LS)))
      have hML : M ≤ 12 := by rw [← hM]; exact Nat.le_trans (List.length_filter_le _ _) (hv_len ms')
      rw [hN]
      clear hown hN hM hlt
      go_wp2_with fail
      obtain ⟨MM, hMM⟩ : ∃ MM, (if d then M else 0) = MM := ⟨_, rfl⟩
      have HMM := Lib.hid hMM
      clear hMM
      have LR : Below wr.heap.size wr wr := Below.refl _ _
      go_cut [12, 13, 14] (fun s12 s13 s14 wx => ∃ z, z = wx ∧ (∃ B1 B2 ta tc a1 n1 c1 a2 n2 c2 a3 c3, s12 = .pointer (some ⟨B1, 0, none⟩) ∧ s13 = .pointer (some ⟨B2, 0, none⟩) ∧ s14 = .int .i64 0 ∧ Blk wx B1 ((Cl.new d).set ⟨ua, ta, tc, ul, true, 0⟩ 1).arr CT ∧ Blk wx B2 (rq 1 d 0 (.slice a1 n1 c1) (.slice a2 n2 c2) (.slice a3 MM c3) ⟨#[]⟩) RT ∧ TsAt wx (.slice ta ul.length tc) ul ∧ Below w.heap.size w wx ∧ Below w7.heap.size w7 wx ∧ Below wr.heap.size wr wx))
      case first =>
        have HO := Lib.hid (show (fun (A : Array Oper) => A[0]? = some { dst := some 54, op := Op.move (Operand.tmp 0), type := 4, pos := "keeps.go:83", after := #[], guard := none } ∧ A[1]? = some { dst := some 55, op := Op.call { callee := Callee.value (Operand.func 23), args := #[Operand.tmp 54], argTypes := #[4] }, type := 72, pos := "keeps.go:83", after := #[{ on := 0, ground := Ground.data }], guard := none } ∧ A[2]? = some { dst := some 56, op := Op.load 26 (Operand.tmp 8), type := 26, pos := "keeps.go:83", after := #[], guard := none } ∧ A[3]? = some { dst := some 57, op := Op.move (Operand.tmp 9), type := 32, pos := "keeps.go:83", after := #[], guard := none } ∧ A[4]? = some { dst := some 58, op := Op.call { callee := Callee.value (Operand.func 25), args := #[Operand.tmp 55, Operand.const (Value.int IntKind.i64 1), Operand.tmp 56, Operand.tmp 57], argTypes := #[72, 3, 26, 32] }, type := 74, pos := "keeps.go:83", after := #[{ on := 1, ground := Ground.data }, { on := 2, ground := Ground.data }, { on := 3, ground := Ground.data }, { on := 1, ground := Ground.chain }], guard := none } ∧ A[5]? = some { dst := some 53, op := Op.move (Operand.tmp 58), type := 74, pos := "keeps.go:83", after := #[{ on := 4, ground := Ground.data }], guard := none } ∧ A[6]? = some { dst := some 59, op := Op.extract (Operand.tmp 53) 0, type := 72, pos := "keeps.go:83", after := #[{ on := 5, ground := Ground.data }], guard := none } ∧ A[7]? = some { dst := some 60, op := Op.extract (Operand.tmp 53) 1, type := 45, pos := "keeps.go:83", after := #[{ on := 5, ground := Ground.data }, { on := 11, ground := Ground.gcOnly Departure.lateStores }], guard := none } ∧ A[8]? = some { dst := some 61, op := Op.extract (Operand.tmp 53) 2, type := 40, pos := "keeps.go:83", after := #[{ on := 5, ground := Ground.data }, { on := 12, ground := Ground.gcOnly Departure.lateStores }], guard := none } ∧ A[9]? = some { dst := some 12, op := Op.alloc 72, type := 0, pos := "keeps.go:83", after := #[], guard := none } ∧ A[10]? = some { dst := some 13, op := Op.alloc 45, type := 0, pos := "keeps.go:83", after := #[], guard := none } ∧ A[11]? = some { dst := none, op := Op.store 72 (Operand.tmp 12) (Operand.tmp 59), type := 0, pos := "keeps.go:83", after := #[{ on := 9, ground := Ground.data }, { on := 6, ground := Ground.data }, { on := 4, ground := Ground.chain }, { on := 0, ground := Ground.phase }, { on := 1, ground := Ground.phase }, { on := 2, ground := Ground.phase }, { on := 3, ground := Ground.phase }, { on := 4, ground := Ground.phase }, { on := 5, ground := Ground.phase }, { on := 6, ground := Ground.phase }, { on := 7, ground := Ground.textOnly Departure.lateStores }, { on := 8, ground := Ground.textOnly Departure.lateStores }, { on := 9, ground := Ground.phase }, { on := 10, ground := Ground.phase }], guard := none } ∧ A[12]? = some { dst := none, op := Op.store 45 (Operand.tmp 13) (Operand.tmp 60), type := 0, pos := "keeps.go:83", after := #[{ on := 10, ground := Ground.data }, { on := 7, ground := Ground.data }, { on := 11, ground := Ground.chain }, { on := 0, ground := Ground.phase }, { on := 1, ground := Ground.phase }, { on := 2, ground := Ground.phase }, { on := 3, ground := Ground.phase }, { on := 4, ground := Ground.phase }, { on := 5, ground := Ground.phase }, { on := 6, ground := Ground.phase }, { on := 7, ground := Ground.phase }, { on := 8, ground := Ground.textOnly Departure.lateStores }, { on := 9, ground := Ground.phase }, { on := 10, ground := Ground.phase }, { on := 11, ground := Ground.phase }], guard := none } ∧ A[13]? = some { dst := some 14, op := Op.assign (Operand.tmp 61), type := 40, pos := "keeps.go:83", after := #[{ on := 8, ground := Ground.data }, { on := 12, ground := Ground.chain }, { on := 0, ground := Ground.phase }, { on := 1, ground := Ground.phase }, { on := 2, ground := Ground.phase }, { on := 3, ground := Ground.phase }, { on := 4, ground := Ground.phase }, { on := 5, ground := Ground.phase }, { on := 6, ground := Ground.phase }, { on := 7, ground := Ground.phase }, { on := 8, ground := Ground.phase }, { on := 9, ground := Ground.phase }, { on := 10, ground := Ground.phase }, { on := 11, ground := Ground.phase }, { on := 12, ground := Ground.phase }], guard := none }) #[{ dst := some 54, op := Op.move (Operand.tmp 0), type := 4, pos := "keeps.go:83", after := #[], guard := none }, { dst := some 55, op := Op.call { callee := Callee.value (Operand.func 23), args := #[Operand.tmp 54], argTypes := #[4] }, type := 72, pos := "keeps.go:83", after := #[{ on := 0, ground := Ground.data }], guard := none }, { dst := some 56, op := Op.load 26 (Operand.tmp 8), type := 26, pos := "keeps.go:83", after := #[], guard := none }, { dst := some 57, op := Op.move (Operand.tmp 9), type := 32, pos := "keeps.go:83", after := #[], guard := none }, { dst := some 58, op := Op.call { callee := Callee.value (Operand.func 25), args := #[Operand.tmp 55, Operand.const (Value.int IntKind.i64 1), Operand.tmp 56, Operand.tmp 57], argTypes := #[72, 3, 26, 32] }, type := 74, pos := "keeps.go:83", after := #[{ on := 1, ground := Ground.data }, { on := 2, ground := Ground.data }, { on := 3, ground := Ground.data }, { on := 1, ground := Ground.chain }], guard := none }, { dst := some 53, op := Op.move (Operand.tmp 58), type := 74, pos := "keeps.go:83", after := #[{ on := 4, ground := Ground.data }], guard := none }, { dst := some 59, op := Op.extract (Operand.tmp 53) 0, type := 72, pos := "keeps.go:83", after := #[{ on := 5, ground := Ground.data }], guard := none }, { dst := some 60, op := Op.extract (Operand.tmp 53) 1, type := 45, pos := "keeps.go:83", after := #[{ on := 5, ground := Ground.data }, { on := 11, ground := Ground.gcOnly Departure.lateStores }], guard := none }, { dst := some 61, op := Op.extract (Operand.tmp 53) 2, type := 40, pos := "keeps.go:83", after := #[{ on := 5, ground := Ground.data }, { on := 12, ground := Ground.gcOnly Departure.lateStores }], guard := none }, { dst := some 12, op := Op.alloc 72, type := 0, pos := "keeps.go:83", after := #[], guard := none }, { dst := some 13, op := Op.alloc 45, type := 0, pos := "keeps.go:83", after := #[], guard := none }, { dst := none, op := Op.store 72 (Operand.tmp 12) (Operand.tmp 59), type := 0, pos := "keeps.go:83", after := #[{ on := 9, ground := Ground.data }, { on := 6, ground := Ground.data }, { on := 4, ground := Ground.chain }, { on := 0, ground := Ground.phase }, { on := 1, ground := Ground.phase }, { on := 2, ground := Ground.phase }, { on := 3, ground := Ground.phase }, { on := 4, ground := Ground.phase }, { on := 5, ground := Ground.phase }, { on := 6, ground := Ground.phase }, { on := 7, ground := Ground.textOnly Departure.lateStores }, { on := 8, ground := Ground.textOnly Departure.lateStores }, { on := 9, ground := Ground.phase }, { on := 10, ground := Ground.phase }], guard := none }, { dst := none, op := Op.store 45 (Operand.tmp 13) (Operand.tmp 60), type := 0, pos := "keeps.go:83", after := #[{ on := 10, ground := Ground.data }, { on := 7, ground := Ground.data }, { on := 11, ground := Ground.chain }, { on := 0, ground := Ground.phase }, { on := 1, ground := Ground.phase }, { on := 2, ground := Ground.phase }, { on := 3, ground := Ground.phase }, { on := 4, ground := Ground.phase }, { on := 5, ground := Ground.phase }, { on := 6, ground := Ground.phase }, { on := 7, ground := Ground.phase }, { on := 8, ground := Ground.textOnly Departure.lateStores }, { on := 9, ground := Ground.phase }, { on := 10, ground := Ground.phase }, { on := 11, ground := Ground.phase }], guard := none }, { dst := some 14, op := Op.assign (Operand.tmp 61), type := 40, pos := "keeps.go:83", after := #[{ on := 8, ground := Ground.data }, { on := 12, ground := Ground.chain }, { on := 0, ground := Ground.phase }, { on := 1, ground := Ground.phase }, { on := 2, ground := Ground.phase }, { on := 3, ground := Ground.phase }, { on := 4, ground := Ground.phase }, { on := 5, ground := Ground.phase }, { on := 6, ground := Ground.phase }, { on := 7, ground := Ground.phase }, { on := 8, ground := Ground.phase }, { on := 9, ground := Ground.phase }, { on := 10, ground := Ground.phase }, { on := 11, ground := Ground.phase }, { on := 12, ground := Ground.phase }], guard := none }] from ⟨by kernel_rfl, by kernel_rfl, by kernel_rfl, by kernel_rfl, by kernel_rfl, by kernel_rfl, by kernel_rfl, by kernel_rfl, by kernel_rfl, by kernel_rfl, by kernel_rfl, by kernel_rfl, by kernel_rfl, by kernel_rfl⟩)
        obtain ⟨w406, hw407, hb408⟩ := drew_new wr
        replace LOW := LOW.trans (hb408.mono LOW.size)
        replace LS := LS.trans (hb408.mono LS.size)
        replace LR := LR.trans (hb408.mono LR.size)
        refine wp_region_held_drew (S := (fun w' => w'.cell? ⟨w5.heap.size, 0, none⟩ = some (.bool ua) ∧ w'.cell? ⟨w5.heap.size, 1, none⟩ = some (.slice oa ul.length oc) ∧ True)) (by kernel_rfl) (by rw [hw407]; exact ⟨(HS.out.1.later LS).cell 0, (HS.out.1.later LS).cell 1, trivial⟩) (fun hHeld => ?_)
        rw [hw407] at hHeld ⊢
        clear hw407 hb408
        refine wpAnyH_take (i := 0) (v := ?v2001) HO.out.1 (by kernel_rfl) (by kernel_rfl) (by kernel_rfl) (fun _ _ _ h => h) (Or.inl ⟨by rfl, ?hy2001⟩) (by assumption) ?rest2001
        case hy2001 => (intro w1 hSw; (try dsimp only at hSw); obtain ⟨h0, h1, -⟩ := hSw; go_simp; try with_reducible rfl)
        try simp only [Act.put, List.setIfInBounds_toArray, List.set_cons_zero, List.set_cons_succ]
        refine wpAnyH_take (i := 2) (v := ?v2002) HO.out.2.2.1 (by kernel_rfl) (by kernel_rfl) (by kernel_rfl) (fun _ _ _ h => h) (Or.inl ⟨by rfl, ?hy2002⟩) (by assumption) ?rest2002
        case hy2002 => (intro w1 hSw; (try dsimp only at hSw); obtain ⟨h0, h1, -⟩ := hSw; go_simp; try with_reducible rfl)
        try simp only [Act.put, List.setIfInBounds_toArray, List.set_cons_zero, List.set_cons_succ]
        refine wpAnyH_take (i := 3) (v := ?v2003) HO.out.2.2.2.1 (by kernel_rfl) (by kernel_rfl) (by kernel_rfl) (fun _ _ _ h => h) (Or.inl ⟨by rfl, ?hy2003⟩) (by assumption) ?rest2003
        case hy2003 => (intro w1 hSw; (try dsimp only at hSw); obtain ⟨h0, h1, -⟩ := hSw; go_simp; try with_reducible rfl)
        try simp only [Act.put, List.setIfInBounds_toArray, List.set_cons_zero, List.set_cons_succ]
        refine wpAnyH_ready (rs := [1, 9, 10]) (by kernel_rfl) (by simp) ?_
        refine AllReadyH.cons HO.out.2.1 (fun K hK => ?_) ?_
        · go_simp
          refine (new_any d _).mono ?_
          rintro e w409 ⟨rfl, hb410⟩
          replace LOW := LOW.trans (hb410.mono LOW.size)
          replace LS := LS.trans (hb410.mono LS.size)
          replace LR := LR.trans (hb410.mono LR.size)
          clear hb410
          try clear hHeld
          refine hK.out _ _ (⟨(HS.out.1.later LS).cell 0, (HS.out.1.later LS).cell 1, trivial⟩) (fun hHeld => ?_)
          clear hK K
          try simp only [Act.put, List.setIfInBounds_toArray, List.set_cons_zero, List.set_cons_succ]
          refine wpAnyH_ready (rs := [4, 9, 10]) (by kernel_rfl) (by simp) ?_
          refine AllReadyH.cons HO.out.2.2.2.2.1 (fun K hK => ?_) ?_
          · go_simp
            refine (ask_zero_h (x := Cl.new d) (d := d) (k := 1) (n := N) (m := MM) (hs := hvL ms') rfl (by omega) (by omega) rfl HFi.out.2.2.2.2 HFi.out.2.2.1 (by have := HFi.out.2.2.2.1; omega) (HS.out.2.1.later LS) (HH.out.1.later LR) HH.out.2.1 (by omega) (by rw [HU.out.2.1, HH.out.2.2.1]; exact HMM.out)).mono ?_
            rintro e w411 ⟨ta, tc, a1, n1, c1, a2, n2, c2, a3, c3, rfl, TN, hb412⟩
            replace LOW := LOW.trans (hb412.mono LOW.size)
            replace LS := LS.trans (hb412.mono LS.size)
            replace LR := LR.trans (hb412.mono LR.size)
            clear hb412
            try clear hHeld
            refine hK.out _ _ (⟨(HS.out.1.later LS).cell 0, (HS.out.1.later LS).cell 1, trivial⟩) (fun hHeld => ?_)
            clear hK K
            try simp only [Act.put, List.setIfInBounds_toArray, List.set_cons_zero, List.set_cons_succ]
            refine wpAnyH_take (i := 5) (v := ?v2004) HO.out.2.2.2.2.2.1 (by kernel_rfl) (by kernel_rfl) (by kernel_rfl) (fun _ _ _ h => h) (Or.inl ⟨by rfl, ?hy2004⟩) (by assumption) ?rest2004
            case hy2004 => (intro w1 hSw; (try dsimp only at hSw); obtain ⟨h0, h1, -⟩ := hSw; go_simp; try with_reducible rfl)
            try simp only [Act.put, List.setIfInBounds_toArray, List.set_cons_zero, List.set_cons_succ]
            refine wpAnyH_take (i := 6) (v := ?v2005) HO.out.2.2.2.2.2.2.1 (by kernel_rfl) (by kernel_rfl) (by kernel_rfl) (fun _ _ _ h => h) (Or.inl ⟨by rfl, ?hy2005⟩) (by assumption) ?rest2005
            case hy2005 => (intro w1 hSw; (try dsimp only at hSw); obtain ⟨h0, h1, -⟩ := hSw; go_simp; try with_reducible rfl)
            try simp only [Act.put, List.setIfInBounds_toArray, List.set_cons_zero, List.set_cons_succ]
            refine wpAnyH_take (i := 7) (v := ?v2006) HO.out.2.2.2.2.2.2.2.1 (by kernel_rfl) (by kernel_rfl) (by kernel_rfl) (fun _ _ _ h => h) (Or.inl ⟨by rfl, ?hy2006⟩) (by assumption) ?rest2006
            case hy2006 => (intro w1 hSw; (try dsimp only at hSw); obtain ⟨h0, h1, -⟩ := hSw; go_simp; try with_reducible rfl)
            try simp only [Act.put, List.setIfInBounds_toArray, List.set_cons_zero, List.set_cons_succ]
            refine wpAnyH_take (i := 8) (v := ?v2007) HO.out.2.2.2.2.2.2.2.2.1 (by kernel_rfl) (by kernel_rfl) (by kernel_rfl) (fun _ _ _ h => h) (Or.inl ⟨by rfl, ?hy2007⟩) (by assumption) ?rest2007
            case hy2007 => (intro w1 hSw; (try dsimp only at hSw); obtain ⟨h0, h1, -⟩ := hSw; go_simp; try with_reducible rfl)
            try simp only [Act.put, List.setIfInBounds_toArray, List.set_cons_zero, List.set_cons_succ]
            refine wpAnyH_ready (rs := [9, 10]) (by kernel_rfl) (by simp) ?_
            refine AllReadyH.cons HO.out.2.2.2.2.2.2.2.2.2.1 (fun K hK => ?_) ?_
            · go_simp
              have LE416 := Lib.hid LOW.size
              have LE417 := Lib.hid LS.size
              have LE418 := Lib.hid LR.size
              obtain ⟨w413, hw414, hb415, PC⟩ := alloc_new w411 Cl.zero.arr CT
              replace hw414 : w411.alloc (.cells #[.bool false, .bool false, .slice none 0 0, .bool false, .int .u64 0, .bool false, .slice none 0 0, .bool false, .int .u64 0, .bool false, .slice none 0 0, .bool false, .int .u64 0, .bool false, .slice none 0 0, .bool false, .int .u64 0, .bool false, .slice none 0 0, .bool false, .int .u64 0, .bool false, .slice none 0 0, .bool false, .int .u64 0] CT) = w413 := hw414
              replace TN := TN.later hb415
              replace LOW := LOW.trans (hb415.mono LOW.size)
              replace LS := LS.trans (hb415.mono LS.size)
              replace LR := LR.trans (hb415.mono LR.size)
              clear hb415
              rw [hw414]
              clear hw414
              try clear hHeld
              refine hK.out _ _ (⟨(HS.out.1.later LS).cell 0, (HS.out.1.later LS).cell 1, trivial⟩) (fun hHeld => ?_)
              clear hK K
              try simp only [Act.put, List.setIfInBounds_toArray, List.set_cons_zero, List.set_cons_succ]
              refine wpAnyH_ready (rs := [10]) (by kernel_rfl) (by simp) ?_
              refine AllReadyH.cons HO.out.2.2.2.2.2.2.2.2.2.2.1 (fun K hK => ?_) AllReadyH.nil
              go_simp
              have LE422 := Lib.hid LOW.size
              have LE423 := Lib.hid LS.size
              have LE424 := Lib.hid LR.size
              obtain ⟨w419, hw420, hb421, R1⟩ := alloc_new w413 rq0 RT
              replace PC := PC.later hb421
              replace TN := TN.later hb421
              replace LOW := LOW.trans (hb421.mono LOW.size)
              replace LS := LS.trans (hb421.mono LS.size)
              replace LR := LR.trans (hb421.mono LR.size)
              clear hb421
              rw [hw420]
              clear hw420
              try clear hHeld
              refine hK.out _ _ (⟨(HS.out.1.later LS).cell 0, (HS.out.1.later LS).cell 1, trivial⟩) (fun hHeld => ?_)
              clear hK K
              try simp only [Act.put, List.setIfInBounds_toArray, List.set_cons_zero, List.set_cons_succ]
              refine wpAnyH_ready (rs := [11]) (by kernel_rfl) (by simp) ?_
              refine AllReadyH.cons HO.out.2.2.2.2.2.2.2.2.2.2.2.1 (fun K hK => ?_) AllReadyH.nil
              rw [if_pos (by rfl)]
              refine wp_store_cl _ _ Cl.zero ((Cl.new d).set ⟨ua, ta, tc, ul, true, 0⟩ 1) w411.heap.size rfl (by rfl) (by rfl) PC ?_
              intro w425 p426 j427
              have mv428 := j427.blk (Blk.ne R1 PC (by decide)) R1
              have mv429 := j427.ts PC (cl_no _ _) TN
              have mv430 := LOW.trans (j427.below LE416.out)
              have mv431 := LS.trans (j427.below LE417.out)
              have mv432 := LR.trans (j427.below LE418.out)
              replace R1 := mv428
              replace TN := mv429
              replace LOW := mv430
              replace LS := mv431
              replace LR := mv432
              replace PC := p426
              try clear hHeld
              refine hK.out _ _ (⟨(HS.out.1.later LS).cell 0, (HS.out.1.later LS).cell 1, trivial⟩) (fun hHeld => ?_)
              clear hK K
              simp only [Act.put]
              refine wpAnyH_ready (rs := [12]) (by kernel_rfl) (by simp) ?_
              refine AllReadyH.cons HO.out.2.2.2.2.2.2.2.2.2.2.2.2.1 (fun K hK => ?_) AllReadyH.nil
              rw [if_pos (by rfl)]
              refine wp_store_rq _ _ w413.heap.size rfl (by rfl) (by rfl) R1 rfl (by rfl) (by first | (simp [Value.oneCell']; done) | simp [rq, Value.oneCell']) ?_
              intro w433 p434 j435
              have mv436 := j435.blk (Blk.ne PC R1 (by decide)) PC
              have mv437 := j435.ts R1 (rq0_no neN) TN
              have mv438 := LOW.trans (j435.below LE422.out)
              have mv439 := LS.trans (j435.below LE423.out)
              have mv440 := LR.trans (j435.below LE424.out)
              replace PC := mv436
              replace TN := mv437
              replace LOW := mv438
              replace LS := mv439
              replace LR := mv440
              replace R1 := p434
              try clear hHeld
              refine hK.out _ _ (⟨(HS.out.1.later LS).cell 0, (HS.out.1.later LS).cell 1, trivial⟩) (fun hHeld => ?_)
              clear hK K
              simp only [Act.put]
              refine wpAnyH_take (i := 13) (v := ?v2008) HO.out.2.2.2.2.2.2.2.2.2.2.2.2.2 (by kernel_rfl) (by kernel_rfl) (by kernel_rfl) (fun _ _ _ h => h) (Or.inl ⟨by rfl, ?hy2008⟩) (by assumption) ?rest2008
              case hy2008 => (intro w1 hSw; (try dsimp only at hSw); obtain ⟨h0, h1, -⟩ := hSw; go_simp; try with_reducible rfl)
              try simp only [Act.put, List.setIfInBounds_toArray, List.set_cons_zero, List.set_cons_succ]
              refine wpAnyH_done (by kernel_rfl) ?_ _
              go_wp2_with fail
              go_meet
              exact ⟨_, rfl, _, _, ta, tc, a1, n1, c1, a2, n2, c2, a3, c3, rfl, rfl, rfl, PC, R1, TN, LOW, LS, LR⟩
            refine AllReadyH.cons HO.out.2.2.2.2.2.2.2.2.2.2.1 (fun K hK => ?_) AllReadyH.nil
            go_simp
            have LE444 := Lib.hid LOW.size
            have LE445 := Lib.hid LS.size
            have LE446 := Lib.hid LR.size
            obtain ⟨w441, hw442, hb443, R1⟩ := alloc_new w411 rq0 RT
            replace TN := TN.later hb443
            replace LOW := LOW.trans (hb443.mono LOW.size)
            replace LS := LS.trans (hb443.mono LS.size)
            replace LR := LR.trans (hb443.mono LR.size)
            clear hb443
            rw [hw442]
            clear hw442
            try clear hHeld
            refine hK.out _ _ (⟨(HS.out.1.later LS).cell 0, (HS.out.1.later LS).cell 1, trivial⟩) (fun hHeld => ?_)
            clear hK K
            try simp only [Act.put, List.setIfInBounds_toArray, List.set_cons_zero, List.set_cons_succ]
            refine wpAnyH_ready (rs := [9]) (by kernel_rfl) (by simp) ?_
            refine AllReadyH.cons HO.out.2.2.2.2.2.2.2.2.2.1 (fun K hK => ?_) AllReadyH.nil
            go_simp
            have LE450 := Lib.hid LOW.size
            have LE451 := Lib.hid LS.size
            have LE452 := Lib.hid LR.size
            obtain ⟨w447, hw448, hb449, PC⟩ := alloc_new w441 Cl.zero.arr CT
            replace hw448 : w441.alloc (.cells #[.bool false, .bool false, .slice none 0 0, .bool false, .int .u64 0, .bool false, .slice none 0 0, .bool false, .int .u64 0, .bool false, .slice none 0 0, .bool false, .int .u64 0, .bool false, .slice none 0 0, .bool false, .int .u64 0, .bool false, .slice none 0 0, .bool false, .int .u64 0, .bool false, .slice none 0 0, .bool false, .int .u64 0] CT) = w447 := hw448
            replace R1 := R1.later hb449
            replace TN := TN.later hb449
            replace LOW := LOW.trans (hb449.mono LOW.size)
            replace LS := LS.trans (hb449.mono LS.size)
            replace LR := LR.trans (hb449.mono LR.size)
            clear hb449
            rw [hw448]
            clear hw448
            try clear hHeld
            refine hK.out _ _ (⟨(HS.out.1.later LS).cell 0, (HS.out.1.later LS).cell 1, trivial⟩) (fun hHeld => ?_)
            clear hK K
            try simp only [Act.put, List.setIfInBounds_toArray, List.set_cons_zero, List.set_cons_succ]
            refine wpAnyH_ready (rs := [11]) (by kernel_rfl) (by simp) ?_
            refine AllReadyH.cons HO.out.2.2.2.2.2.2.2.2.2.2.2.1 (fun K hK => ?_) AllReadyH.nil
            rw [if_pos (by rfl)]
            refine wp_store_cl _ _ Cl.zero ((Cl.new d).set ⟨ua, ta, tc, ul, true, 0⟩ 1) w441.heap.size rfl (by rfl) (by rfl) PC ?_
            intro w453 p454 j455
            have mv456 := j455.blk (Blk.ne R1 PC (by decide)) R1
            have mv457 := j455.ts PC (cl_no _ _) TN
            have mv458 := LOW.trans (j455.below LE450.out)
            have mv459 := LS.trans (j455.below LE451.out)
            have mv460 := LR.trans (j455.below LE452.out)
            replace R1 := mv456
            replace TN := mv457
            replace LOW := mv458
            replace LS := mv459
            replace LR := mv460
            replace PC := p454
            try clear hHeld
            refine hK.out _ _ (⟨(HS.out.1.later LS).cell 0, (HS.out.1.later LS).cell 1, trivial⟩) (fun hHeld => ?_)
            clear hK K
            simp only [Act.put]
            refine wpAnyH_ready (rs := [12]) (by kernel_rfl) (by simp) ?_
            refine AllReadyH.cons HO.out.2.2.2.2.2.2.2.2.2.2.2.2.1 (fun K hK => ?_) AllReadyH.nil
            rw [if_pos (by rfl)]
            refine wp_store_rq _ _ w411.heap.size rfl (by rfl) (by rfl) R1 rfl (by rfl) (by first | (simp [Value.oneCell']; done) | simp [rq, Value.oneCell']) ?_
            intro w461 p462 j463
            have mv464 := j463.blk (Blk.ne PC R1 (by decide)) PC
            have mv465 := j463.ts R1 (rq0_no neN) TN
            have mv466 := LOW.trans (j463.below LE444.out)
            have mv467 := LS.trans (j463.below LE445.out)
            have mv468 := LR.trans (j463.below LE446.out)
            replace PC := mv464
            replace TN := mv465
            replace LOW := mv466
            replace LS := mv467
            replace LR := mv468
            replace R1 := p462
            try clear hHeld
            refine hK.out _ _ (⟨(HS.out.1.later LS).cell 0, (HS.out.1.later LS).cell 1, trivial⟩) (fun hHeld => ?_)
            clear hK K
            simp only [Act.put]
            refine wpAnyH_take (i := 13) (v := ?v2009) HO.out.2.2.2.2.2.2.2.2.2.2.2.2.2 (by kernel_rfl) (by kernel_rfl) (by kernel_rfl) (fun _ _ _ h => h) (Or.inl ⟨by rfl, ?hy2009⟩) (by assumption) ?rest2009
            case hy2009 => (intro w1 hSw; (try dsimp only at hSw); obtain ⟨h0, h1, -⟩ := hSw; go_simp; try with_reducible rfl)
            try simp only [Act.put, List.setIfInBounds_toArray, List.set_cons_zero, List.set_cons_succ]
            refine wpAnyH_done (by kernel_rfl) ?_ _
            go_wp2_with fail
            go_meet
            exact ⟨_, rfl, _, _, ta, tc, a1, n1, c1, a2, n2, c2, a3, c3, rfl, rfl, rfl, PC, R1, TN, LOW, LS, LR⟩
          refine AllReadyH.cons HO.out.2.2.2.2.2.2.2.2.2.1 (fun K hK => ?_) ?_
          · go_simp
            have LE472 := Lib.hid LOW.size
            have LE473 := Lib.hid LS.size
            have LE474 := Lib.hid LR.size
            obtain ⟨w469, hw470, hb471, PC⟩ := alloc_new w409 Cl.zero.arr CT
            replace hw470 : w409.alloc (.cells #[.bool false, .bool false, .slice none 0 0, .bool false, .int .u64 0, .bool false, .slice none 0 0, .bool false, .int .u64 0, .bool false, .slice none 0 0, .bool false, .int .u64 0, .bool false, .slice none 0 0, .bool false, .int .u64 0, .bool false, .slice none 0 0, .bool false, .int .u64 0, .bool false, .slice none 0 0, .bool false, .int .u64 0] CT) = w469 := hw470
            replace LOW := LOW.trans (hb471.mono LOW.size)
            replace LS := LS.trans (hb471.mono LS.size)
            replace LR := LR.trans (hb471.mono LR.size)
            clear hb471
            rw [hw470]
            clear hw470
            try clear hHeld
            refine hK.out _ _ (⟨(HS.out.1.later LS).cell 0, (HS.out.1.later LS).cell 1, trivial⟩) (fun hHeld => ?_)
            clear hK K
            try simp only [Act.put, List.setIfInBounds_toArray, List.set_cons_zero, List.set_cons_succ]
            refine wpAnyH_ready (rs := [4, 10]) (by kernel_rfl) (by simp) ?_
            refine AllReadyH.cons HO.out.2.2.2.2.1 (fun K hK => ?_) ?_
            · go_simp
              refine (ask_zero_h (x := Cl.new d) (d := d) (k := 1) (n := N) (m := MM) (hs := hvL ms') rfl (by omega) (by omega) rfl HFi.out.2.2.2.2 HFi.out.2.2.1 (by have := HFi.out.2.2.2.1; omega) (HS.out.2.1.later LS) (HH.out.1.later LR) HH.out.2.1 (by omega) (by rw [HU.out.2.1, HH.out.2.2.1]; exact HMM.out)).mono ?_
              rintro e w475 ⟨ta, tc, a1, n1, c1, a2, n2, c2, a3, c3, rfl, TN, hb476⟩
              replace PC := PC.later hb476
              replace LOW := LOW.trans (hb476.mono LOW.size)
              replace LS := LS.trans (hb476.mono LS.size)
              replace LR := LR.trans (hb476.mono LR.size)
              clear hb476
              try clear hHeld
              refine hK.out _ _ (⟨(HS.out.1.later LS).cell 0, (HS.out.1.later LS).cell 1, trivial⟩) (fun hHeld => ?_)
              clear hK K
              try simp only [Act.put, List.setIfInBounds_toArray, List.set_cons_zero, List.set_cons_succ]
              refine wpAnyH_take (i := 5) (v := ?v2010) HO.out.2.2.2.2.2.1 (by kernel_rfl) (by kernel_rfl) (by kernel_rfl) (fun _ _ _ h => h) (Or.inl ⟨by rfl, ?hy2010⟩) (by assumption) ?rest2010
              case hy2010 => (intro w1 hSw; (try dsimp only at hSw); obtain ⟨h0, h1, -⟩ := hSw; go_simp; try with_reducible rfl)
              try simp only [Act.put, List.setIfInBounds_toArray, List.set_cons_zero, List.set_cons_succ]
              refine wpAnyH_take (i := 6) (v := ?v2011) HO.out.2.2.2.2.2.2.1 (by kernel_rfl) (by kernel_rfl) (by kernel_rfl) (fun _ _ _ h => h) (Or.inl ⟨by rfl, ?hy2011⟩) (by assumption) ?rest2011
              case hy2011 => (intro w1 hSw; (try dsimp only at hSw); obtain ⟨h0, h1, -⟩ := hSw; go_simp; try with_reducible rfl)
              try simp only [Act.put, List.setIfInBounds_toArray, List.set_cons_zero, List.set_cons_succ]
              refine wpAnyH_take (i := 7) (v := ?v2012) HO.out.2.2.2.2.2.2.2.1 (by kernel_rfl) (by kernel_rfl) (by kernel_rfl) (fun _ _ _ h => h) (Or.inl ⟨by rfl, ?hy2012⟩) (by assumption) ?rest2012
              case hy2012 => (intro w1 hSw; (try dsimp only at hSw); obtain ⟨h0, h1, -⟩ := hSw; go_simp; try with_reducible rfl)
              try simp only [Act.put, List.setIfInBounds_toArray, List.set_cons_zero, List.set_cons_succ]
              refine wpAnyH_take (i := 8) (v := ?v2013) HO.out.2.2.2.2.2.2.2.2.1 (by kernel_rfl) (by kernel_rfl) (by kernel_rfl) (fun _ _ _ h => h) (Or.inl ⟨by rfl, ?hy2013⟩) (by assumption) ?rest2013
              case hy2013 => (intro w1 hSw; (try dsimp only at hSw); obtain ⟨h0, h1, -⟩ := hSw; go_simp; try with_reducible rfl)
              try simp only [Act.put, List.setIfInBounds_toArray, List.set_cons_zero, List.set_cons_succ]
              refine wpAnyH_ready (rs := [10]) (by kernel_rfl) (by simp) ?_
              refine AllReadyH.cons HO.out.2.2.2.2.2.2.2.2.2.2.1 (fun K hK => ?_) AllReadyH.nil
              go_simp
              have LE480 := Lib.hid LOW.size
              have LE481 := Lib.hid LS.size
              have LE482 := Lib.hid LR.size
              obtain ⟨w477, hw478, hb479, R1⟩ := alloc_new w475 rq0 RT
              replace PC := PC.later hb479
              replace TN := TN.later hb479
              replace LOW := LOW.trans (hb479.mono LOW.size)
              replace LS := LS.trans (hb479.mono LS.size)
              replace LR := LR.trans (hb479.mono LR.size)
              clear hb479
              rw [hw478]
              clear hw478
              try clear hHeld
              refine hK.out _ _ (⟨(HS.out.1.later LS).cell 0, (HS.out.1.later LS).cell 1, trivial⟩) (fun hHeld => ?_)
              clear hK K
              try simp only [Act.put, List.setIfInBounds_toArray, List.set_cons_zero, List.set_cons_succ]
              refine wpAnyH_ready (rs := [11]) (by kernel_rfl) (by simp) ?_
              refine AllReadyH.cons HO.out.2.2.2.2.2.2.2.2.2.2.2.1 (fun K hK => ?_) AllReadyH.nil
              rw [if_pos (by rfl)]
              refine wp_store_cl _ _ Cl.zero ((Cl.new d).set ⟨ua, ta, tc, ul, true, 0⟩ 1) w409.heap.size rfl (by rfl) (by rfl) PC ?_
              intro w483 p484 j485
              have mv486 := j485.blk (Blk.ne R1 PC (by decide)) R1
              have mv487 := j485.ts PC (cl_no _ _) TN
              have mv488 := LOW.trans (j485.below LE472.out)
              have mv489 := LS.trans (j485.below LE473.out)
              have mv490 := LR.trans (j485.below LE474.out)
              replace R1 := mv486
              replace TN := mv487
              replace LOW := mv488
              replace LS := mv489
              replace LR := mv490
              replace PC := p484
              try clear hHeld
              refine hK.out _ _ (⟨(HS.out.1.later LS).cell 0, (HS.out.1.later LS).cell 1, trivial⟩) (fun hHeld => ?_)
              clear hK K
              simp only [Act.put]
              refine wpAnyH_ready (rs := [12]) (by kernel_rfl) (by simp) ?_
              refine AllReadyH.cons HO.out.2.2.2.2.2.2.2.2.2.2.2.2.1 (fun K hK => ?_) AllReadyH.nil
              rw [if_pos (by rfl)]
              refine wp_store_rq _ _ w475.heap.size rfl (by rfl) (by rfl) R1 rfl (by rfl) (by first | (simp [Value.oneCell']; done) | simp [rq, Value.oneCell']) ?_
              intro w491 p492 j493
              have mv494 := j493.blk (Blk.ne PC R1 (by decide)) PC
              have mv495 := j493.ts R1 (rq0_no neN) TN
              have mv496 := LOW.trans (j493.below LE480.out)
              have mv497 := LS.trans (j493.below LE481.out)
              have mv498 := LR.trans (j493.below LE482.out)
              replace PC := mv494
              replace TN := mv495
              replace LOW := mv496
              replace LS := mv497
              replace LR := mv498
              replace R1 := p492
              try clear hHeld
              refine hK.out _ _ (⟨(HS.out.1.later LS).cell 0, (HS.out.1.later LS).cell 1, trivial⟩) (fun hHeld => ?_)
              clear hK K
              simp only [Act.put]
              refine wpAnyH_take (i := 13) (v := ?v2014) HO.out.2.2.2.2.2.2.2.2.2.2.2.2.2 (by kernel_rfl) (by kernel_rfl) (by kernel_rfl) (fun _ _ _ h => h) (Or.inl ⟨by rfl, ?hy2014⟩) (by assumption) ?rest2014
              case hy2014 => (intro w1 hSw; (try dsimp only at hSw); obtain ⟨h0, h1, -⟩ := hSw; go_simp; try with_reducible rfl)
              try simp only [Act.put, List.setIfInBounds_toArray, List.set_cons_zero, List.set_cons_succ]
              refine wpAnyH_done (by kernel_rfl) ?_ _
              go_wp2_with fail
              go_meet
              exact ⟨_, rfl, _, _, ta, tc, a1, n1, c1, a2, n2, c2, a3, c3, rfl, rfl, rfl, PC, R1, TN, LOW, LS, LR⟩
            refine AllReadyH.cons HO.out.2.2.2.2.2.2.2.2.2.2.1 (fun K hK => ?_) AllReadyH.nil
            go_simp
            have LE502 := Lib.hid LOW.size
            have LE503 := Lib.hid LS.size
            have LE504 := Lib.hid LR.size
            obtain ⟨w499, hw500, hb501, R1⟩ := alloc_new w469 rq0 RT
            replace PC := PC.later hb501
            replace LOW := LOW.trans (hb501.mono LOW.size)
            replace LS := LS.trans (hb501.mono LS.size)
            replace LR := LR.trans (hb501.mono LR.size)
            clear hb501
            rw [hw500]
            clear hw500
            try clear hHeld
            refine hK.out _ _ (⟨(HS.out.1.later LS).cell 0, (HS.out.1.later LS).cell 1, trivial⟩) (fun hHeld => ?_)
            clear hK K
            try simp only [Act.put, List.setIfInBounds_toArray, List.set_cons_zero, List.set_cons_succ]
            refine wpAnyH_ready (rs := [4]) (by kernel_rfl) (by simp) ?_
            refine AllReadyH.cons HO.out.2.2.2.2.1 (fun K hK => ?_) AllReadyH.nil
            go_simp
            refine (ask_zero_h (x := Cl.new d) (d := d) (k := 1) (n := N) (m := MM) (hs := hvL ms') rfl (by omega) (by omega) rfl HFi.out.2.2.2.2 HFi.out.2.2.1 (by have := HFi.out.2.2.2.1; omega) (HS.out.2.1.later LS) (HH.out.1.later LR) HH.out.2.1 (by omega) (by rw [HU.out.2.1, HH.out.2.2.1]; exact HMM.out)).mono ?_
            rintro e w505 ⟨ta, tc, a1, n1, c1, a2, n2, c2, a3, c3, rfl, TN, hb506⟩
            replace PC := PC.later hb506
            replace R1 := R1.later hb506
            replace LOW := LOW.trans (hb506.mono LOW.size)
            replace LS := LS.trans (hb506.mono LS.size)
            replace LR := LR.trans (hb506.mono LR.size)
            clear hb506
            try clear hHeld
            refine hK.out _ _ (⟨(HS.out.1.later LS).cell 0, (HS.out.1.later LS).cell 1, trivial⟩) (fun hHeld => ?_)
            clear hK K
            try simp only [Act.put, List.setIfInBounds_toArray, List.set_cons_zero, List.set_cons_succ]
            refine wpAnyH_take (i := 5) (v := ?v2015) HO.out.2.2.2.2.2.1 (by kernel_rfl) (by kernel_rfl) (by kernel_rfl) (fun _ _ _ h => h) (Or.inl ⟨by rfl, ?hy2015⟩) (by assumption) ?rest2015
            case hy2015 => (intro w1 hSw; (try dsimp only at hSw); obtain ⟨h0, h1, -⟩ := hSw; go_simp; try with_reducible rfl)
            try simp only [Act.put, List.setIfInBounds_toArray, List.set_cons_zero, List.set_cons_succ]
            refine wpAnyH_take (i := 6) (v := ?v2016) HO.out.2.2.2.2.2.2.1 (by kernel_rfl) (by kernel_rfl) (by kernel_rfl) (fun _ _ _ h => h) (Or.inl ⟨by rfl, ?hy2016⟩) (by assumption) ?rest2016
            case hy2016 => (intro w1 hSw; (try dsimp only at hSw); obtain ⟨h0, h1, -⟩ := hSw; go_simp; try with_reducible rfl)
            try simp only [Act.put, List.setIfInBounds_toArray, List.set_cons_zero, List.set_cons_succ]
            refine wpAnyH_take (i := 7) (v := ?v2017) HO.out.2.2.2.2.2.2.2.1 (by kernel_rfl) (by kernel_rfl) (by kernel_rfl) (fun _ _ _ h => h) (Or.inl ⟨by rfl, ?hy2017⟩) (by assumption) ?rest2017
            case hy2017 => (intro w1 hSw; (try dsimp only at hSw); obtain ⟨h0, h1, -⟩ := hSw; go_simp; try with_reducible rfl)
            try simp only [Act.put, List.setIfInBounds_toArray, List.set_cons_zero, List.set_cons_succ]
            refine wpAnyH_take (i := 8) (v := ?v2018) HO.out.2.2.2.2.2.2.2.2.1 (by kernel_rfl) (by kernel_rfl) (by kernel_rfl) (fun _ _ _ h => h) (Or.inl ⟨by rfl, ?hy2018⟩) (by assumption) ?rest2018
            case hy2018 => (intro w1 hSw; (try dsimp only at hSw); obtain ⟨h0, h1, -⟩ := hSw; go_simp; try with_reducible rfl)
            try simp only [Act.put, List.setIfInBounds_toArray, List.set_cons_zero, List.set_cons_succ]
            refine wpAnyH_ready (rs := [11]) (by kernel_rfl) (by simp) ?_
            refine AllReadyH.cons HO.out.2.2.2.2.2.2.2.2.2.2.2.1 (fun K hK => ?_) AllReadyH.nil
            rw [if_pos (by rfl)]
            refine wp_store_cl _ _ Cl.zero ((Cl.new d).set ⟨ua, ta, tc, ul, true, 0⟩ 1) w409.heap.size rfl (by rfl) (by rfl) PC ?_
            intro w507 p508 j509
            have mv510 := j509.blk (Blk.ne R1 PC (by decide)) R1
            have mv511 := j509.ts PC (cl_no _ _) TN
            have mv512 := LOW.trans (j509.below LE472.out)
            have mv513 := LS.trans (j509.below LE473.out)
            have mv514 := LR.trans (j509.below LE474.out)
            replace R1 := mv510
            replace TN := mv511
            replace LOW := mv512
            replace LS := mv513
            replace LR := mv514
            replace PC := p508
            try clear hHeld
            refine hK.out _ _ (⟨(HS.out.1.later LS).cell 0, (HS.out.1.later LS).cell 1, trivial⟩) (fun hHeld => ?_)
            clear hK K
            simp only [Act.put]
            refine wpAnyH_ready (rs := [12]) (by kernel_rfl) (by simp) ?_
            refine AllReadyH.cons HO.out.2.2.2.2.2.2.2.2.2.2.2.2.1 (fun K hK => ?_) AllReadyH.nil
            rw [if_pos (by rfl)]
            refine wp_store_rq _ _ w469.heap.size rfl (by rfl) (by rfl) R1 rfl (by rfl) (by first | (simp [Value.oneCell']; done) | simp [rq, Value.oneCell']) ?_
            intro w515 p516 j517
            have mv518 := j517.blk (Blk.ne PC R1 (by decide)) PC
            have mv519 := j517.ts R1 (rq0_no neN) TN
            have mv520 := LOW.trans (j517.below LE502.out)
            have mv521 := LS.trans (j517.below LE503.out)
            have mv522 := LR.trans (j517.below LE504.out)
            replace PC := mv518
            replace TN := mv519
            replace LOW := mv520
            replace LS := mv521
            replace LR := mv522
            replace R1 := p516
            try clear hHeld
            refine hK.out _ _ (⟨(HS.out.1.later LS).cell 0, (HS.out.1.later LS).cell 1, trivial⟩) (fun hHeld => ?_)
            clear hK K
            simp only [Act.put]
            refine wpAnyH_take (i := 13) (v := ?v2019) HO.out.2.2.2.2.2.2.2.2.2.2.2.2.2 (by kernel_rfl) (by kernel_rfl) (by kernel_rfl) (fun _ _ _ h => h) (Or.inl ⟨by rfl, ?hy2019⟩) (by assumption) ?rest2019
            case hy2019 => (intro w1 hSw; (try dsimp only at hSw); obtain ⟨h0, h1, -⟩ := hSw; go_simp; try with_reducible rfl)
            try simp only [Act.put, List.setIfInBounds_toArray, List.set_cons_zero, List.set_cons_succ]
            refine wpAnyH_done (by kernel_rfl) ?_ _
            go_wp2_with fail
            go_meet
            exact ⟨_, rfl, _, _, ta, tc, a1, n1, c1, a2, n2, c2, a3, c3, rfl, rfl, rfl, PC, R1, TN, LOW, LS, LR⟩
          refine AllReadyH.cons HO.out.2.2.2.2.2.2.2.2.2.2.1 (fun K hK => ?_) AllReadyH.nil
          go_simp
          have LE526 := Lib.hid LOW.size
          have LE527 := Lib.hid LS.size
          have LE528 := Lib.hid LR.size
          obtain ⟨w523, hw524, hb525, R1⟩ := alloc_new w409 rq0 RT
          replace LOW := LOW.trans (hb525.mono LOW.size)
          replace LS := LS.trans (hb525.mono LS.size)
          replace LR := LR.trans (hb525.mono LR.size)
          clear hb525
          rw [hw524]
          clear hw524
          try clear hHeld
          refine hK.out _ _ (⟨(HS.out.1.later LS).cell 0, (HS.out.1.later LS).cell 1, trivial⟩) (fun hHeld => ?_)
          clear hK K
          try simp only [Act.put, List.setIfInBounds_toArray, List.set_cons_zero, List.set_cons_succ]
          refine wpAnyH_ready (rs := [4, 9]) (by kernel_rfl) (by simp) ?_
          refine AllReadyH.cons HO.out.2.2.2.2.1 (fun K hK => ?_) ?_
          · go_simp
            refine (ask_zero_h (x := Cl.new d) (d := d) (k := 1) (n := N) (m := MM) (hs := hvL ms') rfl (by omega) (by omega) rfl HFi.out.2.2.2.2 HFi.out.2.2.1 (by have := HFi.out.2.2.2.1; omega) (HS.out.2.1.later LS) (HH.out.1.later LR) HH.out.2.1 (by omega) (by rw [HU.out.2.1, HH.out.2.2.1]; exact HMM.out)).mono ?_
            rintro e w529 ⟨ta, tc, a1, n1, c1, a2, n2, c2, a3, c3, rfl, TN, hb530⟩
            replace R1 := R1.later hb530
            replace LOW := LOW.trans (hb530.mono LOW.size)
            replace LS := LS.trans (hb530.mono LS.size)
            replace LR := LR.trans (hb530.mono LR.size)
            clear hb530
            try clear hHeld
            refine hK.out _ _ (⟨(HS.out.1.later LS).cell 0, (HS.out.1.later LS).cell 1, trivial⟩) (fun hHeld => ?_)
            clear hK K
            try simp only [Act.put, List.setIfInBounds_toArray, List.set_cons_zero, List.set_cons_succ]
            refine wpAnyH_take (i := 5) (v := ?v2020) HO.out.2.2.2.2.2.1 (by kernel_rfl) (by kernel_rfl) (by kernel_rfl) (fun _ _ _ h => h) (Or.inl ⟨by rfl, ?hy2020⟩) (by assumption) ?rest2020
            case hy2020 => (intro w1 hSw; (try dsimp only at hSw); obtain ⟨h0, h1, -⟩ := hSw; go_simp; try with_reducible rfl)
            try simp only [Act.put, List.setIfInBounds_toArray, List.set_cons_zero, List.set_cons_succ]
            refine wpAnyH_take (i := 6) (v := ?v2021) HO.out.2.2.2.2.2.2.1 (by kernel_rfl) (by kernel_rfl) (by kernel_rfl) (fun _ _ _ h => h) (Or.inl ⟨by rfl, ?hy2021⟩) (by assumption) ?rest2021
            case hy2021 => (intro w1 hSw; (try dsimp only at hSw); obtain ⟨h0, h1, -⟩ := hSw; go_simp; try with_reducible rfl)
            try simp only [Act.put, List.setIfInBounds_toArray, List.set_cons_zero, List.set_cons_succ]
            refine wpAnyH_take (i := 7) (v := ?v2022) HO.out.2.2.2.2.2.2.2.1 (by kernel_rfl) (by kernel_rfl) (by kernel_rfl) (fun _ _ _ h => h) (Or.inl ⟨by rfl, ?hy2022⟩) (by assumption) ?rest2022
            case hy2022 => (intro w1 hSw; (try dsimp only at hSw); obtain ⟨h0, h1, -⟩ := hSw; go_simp; try with_reducible rfl)
            try simp only [Act.put, List.setIfInBounds_toArray, List.set_cons_zero, List.set_cons_succ]
            refine wpAnyH_take (i := 8) (v := ?v2023) HO.out.2.2.2.2.2.2.2.2.1 (by kernel_rfl) (by kernel_rfl) (by kernel_rfl) (fun _ _ _ h => h) (Or.inl ⟨by rfl, ?hy2023⟩) (by assumption) ?rest2023
            case hy2023 => (intro w1 hSw; (try dsimp only at hSw); obtain ⟨h0, h1, -⟩ := hSw; go_simp; try with_reducible rfl)
            try simp only [Act.put, List.setIfInBounds_toArray, List.set_cons_zero, List.set_cons_succ]
            refine wpAnyH_ready (rs := [9]) (by kernel_rfl) (by simp) ?_
            refine AllReadyH.cons HO.out.2.2.2.2.2.2.2.2.2.1 (fun K hK => ?_) AllReadyH.nil
            go_simp
            have LE534 := Lib.hid LOW.size
            have LE535 := Lib.hid LS.size
            have LE536 := Lib.hid LR.size
            obtain ⟨w531, hw532, hb533, PC⟩ := alloc_new w529 Cl.zero.arr CT
            replace hw532 : w529.alloc (.cells #[.bool false, .bool false, .slice none 0 0, .bool false, .int .u64 0, .bool false, .slice none 0 0, .bool false, .int .u64 0, .bool false, .slice none 0 0, .bool false, .int .u64 0, .bool false, .slice none 0 0, .bool false, .int .u64 0, .bool false, .slice none 0 0, .bool false, .int .u64 0, .bool false, .slice none 0 0, .bool false, .int .u64 0] CT) = w531 := hw532
            replace R1 := R1.later hb533
            replace TN := TN.later hb533
            replace LOW := LOW.trans (hb533.mono LOW.size)
            replace LS := LS.trans (hb533.mono LS.size)
            replace LR := LR.trans (hb533.mono LR.size)
            clear hb533
            rw [hw532]
            clear hw532
            try clear hHeld
            refine hK.out _ _ (⟨(HS.out.1.later LS).cell 0, (HS.out.1.later LS).cell 1, trivial⟩) (fun hHeld => ?_)
            clear hK K
            try simp only [Act.put, List.setIfInBounds_toArray, List.set_cons_zero, List.set_cons_succ]
            refine wpAnyH_ready (rs := [11]) (by kernel_rfl) (by simp) ?_
            refine AllReadyH.cons HO.out.2.2.2.2.2.2.2.2.2.2.2.1 (fun K hK => ?_) AllReadyH.nil
            rw [if_pos (by rfl)]
            refine wp_store_cl _ _ Cl.zero ((Cl.new d).set ⟨ua, ta, tc, ul, true, 0⟩ 1) w529.heap.size rfl (by rfl) (by rfl) PC ?_
            intro w537 p538 j539
            have mv540 := j539.blk (Blk.ne R1 PC (by decide)) R1
            have mv541 := j539.ts PC (cl_no _ _) TN
            have mv542 := LOW.trans (j539.below LE534.out)
            have mv543 := LS.trans (j539.below LE535.out)
            have mv544 := LR.trans (j539.below LE536.out)
            replace R1 := mv540
            replace TN := mv541
            replace LOW := mv542
            replace LS := mv543
            replace LR := mv544
            replace PC := p538
            try clear hHeld
            refine hK.out _ _ (⟨(HS.out.1.later LS).cell 0, (HS.out.1.later LS).cell 1, trivial⟩) (fun hHeld => ?_)
            clear hK K
            simp only [Act.put]
            refine wpAnyH_ready (rs := [12]) (by kernel_rfl) (by simp) ?_
            refine AllReadyH.cons HO.out.2.2.2.2.2.2.2.2.2.2.2.2.1 (fun K hK => ?_) AllReadyH.nil
            rw [if_pos (by rfl)]
            refine wp_store_rq _ _ w409.heap.size rfl (by rfl) (by rfl) R1 rfl (by rfl) (by first | (simp [Value.oneCell']; done) | simp [rq, Value.oneCell']) ?_
            intro w545 p546 j547
            have mv548 := j547.blk (Blk.ne PC R1 (by decide)) PC
            have mv549 := j547.ts R1 (rq0_no neN) TN
            have mv550 := LOW.trans (j547.below LE526.out)
            have mv551 := LS.trans (j547.below LE527.out)
            have mv552 := LR.trans (j547.below LE528.out)
            replace PC := mv548
            replace TN := mv549
            replace LOW := mv550
            replace LS := mv551
            replace LR := mv552
            replace R1 := p546
            try clear hHeld
            refine hK.out _ _ (⟨(HS.out.1.later LS).cell 0, (HS.out.1.later LS).cell 1, trivial⟩) (fun hHeld => ?_)
            clear hK K
            simp only [Act.put]
            refine wpAnyH_take (i := 13) (v := ?v2024) HO.out.2.2.2.2.2.2.2.2.2.2.2.2.2 (by kernel_rfl) (by kernel_rfl) (by kernel_rfl) (fun _ _ _ h => h) (Or.inl ⟨by rfl, ?hy2024⟩) (by assumption) ?rest2024
            case hy2024 => (intro w1 hSw; (try dsimp only at hSw); obtain ⟨h0, h1, -⟩ := hSw; go_simp; try with_reducible rfl)
            try simp only [Act.put, List.setIfInBounds_toArray, List.set_cons_zero, List.set_cons_succ]
            refine wpAnyH_done (by kernel_rfl) ?_ _
            go_wp2_with fail
            go_meet
            exact ⟨_, rfl, _, _, ta, tc, a1, n1, c1, a2, n2, c2, a3, c3, rfl, rfl, rfl, PC, R1, TN, LOW, LS, LR⟩
          refine AllReadyH.cons HO.out.2.2.2.2.2.2.2.2.2.1 (fun K hK => ?_) AllReadyH.nil
          go_simp
          have LE556 := Lib.hid LOW.size
          have LE557 := Lib.hid LS.size
          have LE558 := Lib.hid LR.size
          obtain ⟨w553, hw554, hb555, PC⟩ := alloc_new w523 Cl.zero.arr CT
          replace hw554 : w523.alloc (.cells #[.bool false, .bool false, .slice none 0 0, .bool false, .int .u64 0, .bool false, .slice none 0 0, .bool false, .int .u64 0, .bool false, .slice none 0 0, .bool false, .int .u64 0, .bool false, .slice none 0 0, .bool false, .int .u64 0, .bool false, .slice none 0 0, .bool false, .int .u64 0, .bool false, .slice none 0 0, .bool false, .int .u64 0] CT) = w553 := hw554
          replace R1 := R1.later hb555
          replace LOW := LOW.trans (hb555.mono LOW.size)
          replace LS := LS.trans (hb555.mono LS.size)
          replace LR := LR.trans (hb555.mono LR.size)
          clear hb555
          rw [hw554]
          clear hw554
          try clear hHeld
          refine hK.out _ _ (⟨(HS.out.1.later LS).cell 0, (HS.out.1.later LS).cell 1, trivial⟩) (fun hHeld => ?_)
          clear hK K
          try simp only [Act.put, List.setIfInBounds_toArray, List.set_cons_zero, List.set_cons_succ]
          refine wpAnyH_ready (rs := [4]) (by kernel_rfl) (by simp) ?_
          refine AllReadyH.cons HO.out.2.2.2.2.1 (fun K hK => ?_) AllReadyH.nil
          go_simp
          refine (ask_zero_h (x := Cl.new d) (d := d) (k := 1) (n := N) (m := MM) (hs := hvL ms') rfl (by omega) (by omega) rfl HFi.out.2.2.2.2 HFi.out.2.2.1 (by have := HFi.out.2.2.2.1; omega) (HS.out.2.1.later LS) (HH.out.1.later LR) HH.out.2.1 (by omega) (by rw [HU.out.2.1, HH.out.2.2.1]; exact HMM.out)).mono ?_
          rintro e w559 ⟨ta, tc, a1, n1, c1, a2, n2, c2, a3, c3, rfl, TN, hb560⟩
          replace R1 := R1.later hb560
          replace PC := PC.later hb560
          replace LOW := LOW.trans (hb560.mono LOW.size)
          replace LS := LS.trans (hb560.mono LS.size)
          replace LR := LR.trans (hb560.mono LR.size)
          clear hb560
          try clear hHeld
          refine hK.out _ _ (⟨(HS.out.1.later LS).cell 0, (HS.out.1.later LS).cell 1, trivial⟩) (fun hHeld => ?_)
          clear hK K
          try simp only [Act.put, List.setIfInBounds_toArray, List.set_cons_zero, List.set_cons_succ]
          refine wpAnyH_take (i := 5) (v := ?v2025) HO.out.2.2.2.2.2.1 (by kernel_rfl) (by kernel_rfl) (by kernel_rfl) (fun _ _ _ h => h) (Or.inl ⟨by rfl, ?hy2025⟩) (by assumption) ?rest2025
          case hy2025 => (intro w1 hSw; (try dsimp only at hSw); obtain ⟨h0, h1, -⟩ := hSw; go_simp; try with_reducible rfl)
          try simp only [Act.put, List.setIfInBounds_toArray, List.set_cons_zero, List.set_cons_succ]
          refine wpAnyH_take (i := 6) (v := ?v2026) HO.out.2.2.2.2.2.2.1 (by kernel_rfl) (by kernel_rfl) (by kernel_rfl) (fun _ _ _ h => h) (Or.inl ⟨by rfl, ?hy2026⟩) (by assumption) ?rest2026
          case hy2026 => (intro w1 hSw; (try dsimp only at hSw); obtain ⟨h0, h1, -⟩ := hSw; go_simp; try with_reducible rfl)
          try simp only [Act.put, List.setIfInBounds_toArray, List.set_cons_zero, List.set_cons_succ]
          refine wpAnyH_take (i := 7) (v := ?v2027) HO.out.2.2.2.2.2.2.2.1 (by kernel_rfl) (by kernel_rfl) (by kernel_rfl) (fun _ _ _ h => h) (Or.inl ⟨by rfl, ?hy2027⟩) (by assumption) ?rest2027
          case hy2027 => (intro w1 hSw; (try dsimp only at hSw); obtain ⟨h0, h1, -⟩ := hSw; go_simp; try with_reducible rfl)
          try simp only [Act.put, List.setIfInBounds_toArray, List.set_cons_zero, List.set_cons_succ]
          refine wpAnyH_take (i := 8) (v := ?v2028) HO.out.2.2.2.2.2.2.2.2.1 (by kernel_rfl) (by kernel_rfl) (by kernel_rfl) (fun _ _ _ h => h) (Or.inl ⟨by rfl, ?hy2028⟩) (by assumption) ?rest2028
          case hy2028 => (intro w1 hSw; (try dsimp only at hSw); obtain ⟨h0, h1, -⟩ := hSw; go_simp; try with_reducible rfl)
          try simp only [Act.put, List.setIfInBounds_toArray, List.set_cons_zero, List.set_cons_succ]
          refine wpAnyH_ready (rs := [11]) (by kernel_rfl) (by simp) ?_
          refine AllReadyH.cons HO.out.2.2.2.2.2.2.2.2.2.2.2.1 (fun K hK => ?_) AllReadyH.nil
          rw [if_pos (by rfl)]
          refine wp_store_cl _ _ Cl.zero ((Cl.new d).set ⟨ua, ta, tc, ul, true, 0⟩ 1) w523.heap.size rfl (by rfl) (by rfl) PC ?_
          intro w561 p562 j563
          have mv564 := j563.blk (Blk.ne R1 PC (by decide)) R1
          have mv565 := j563.ts PC (cl_no _ _) TN
          have mv566 := LOW.trans (j563.below LE556.out)
          have mv567 := LS.trans (j563.below LE557.out)
          have mv568 := LR.trans (j563.below LE558.out)
          replace R1 := mv564
          replace TN := mv565
          replace LOW := mv566
          replace LS := mv567
          replace LR := mv568
          replace PC := p562
          try clear hHeld
          refine hK.out _ _ (⟨(HS.out.1.later LS).cell 0, (HS.out.1.later LS).cell 1, trivial⟩) (fun hHeld => ?_)
          clear hK K
          simp only [Act.put]
          refine wpAnyH_ready (rs := [12]) (by kernel_rfl) (by simp) ?_
          refine AllReadyH.cons HO.out.2.2.2.2.2.2.2.2.2.2.2.2.1 (fun K hK => ?_) AllReadyH.nil
          rw [if_pos (by rfl)]
          refine wp_store_rq _ _ w409.heap.size rfl (by rfl) (by rfl) R1 rfl (by rfl) (by first | (simp [Value.oneCell']; done) | simp [rq, Value.oneCell']) ?_
          intro w569 p570 j571
          have mv572 := j571.blk (Blk.ne PC R1 (by decide)) PC
          have mv573 := j571.ts R1 (rq0_no neN) TN
          have mv574 := LOW.trans (j571.below LE526.out)
          have mv575 := LS.trans (j571.below LE527.out)
          have mv576 := LR.trans (j571.below LE528.out)
          replace PC := mv572
          replace TN := mv573
          replace LOW := mv574
          replace LS := mv575
          replace LR := mv576
          replace R1 := p570
          try clear hHeld
          refine hK.out _ _ (⟨(HS.out.1.later LS).cell 0, (HS.out.1.later LS).cell 1, trivial⟩) (fun hHeld => ?_)
          clear hK K
          simp only [Act.put]
          refine wpAnyH_take (i := 13) (v := ?v2029) HO.out.2.2.2.2.2.2.2.2.2.2.2.2.2 (by kernel_rfl) (by kernel_rfl) (by kernel_rfl) (fun _ _ _ h => h) (Or.inl ⟨by rfl, ?hy2029⟩) (by assumption) ?rest2029
          case hy2029 => (intro w1 hSw; (try dsimp only at hSw); obtain ⟨h0, h1, -⟩ := hSw; go_simp; try with_reducible rfl)
          try simp only [Act.put, List.setIfInBounds_toArray, List.set_cons_zero, List.set_cons_succ]
          refine wpAnyH_done (by kernel_rfl) ?_ _
          go_wp2_with fail
          go_meet
          exact ⟨_, rfl, _, _, ta, tc, a1, n1, c1, a2, n2, c2, a3, c3, rfl, rfl, rfl, PC, R1, TN, LOW, LS, LR⟩
        refine AllReadyH.cons HO.out.2.2.2.2.2.2.2.2.2.1 (fun K hK => ?_) ?_
        · go_simp
          have LE580 := Lib.hid LOW.size
          have LE581 := Lib.hid LS.size
          have LE582 := Lib.hid LR.size
          obtain ⟨w577, hw578, hb579, PC⟩ := alloc_new w406 Cl.zero.arr CT
          replace hw578 : w406.alloc (.cells #[.bool false, .bool false, .slice none 0 0, .bool false, .int .u64 0, .bool false, .slice none 0 0, .bool false, .int .u64 0, .bool false, .slice none 0 0, .bool false, .int .u64 0, .bool false, .slice none 0 0, .bool false, .int .u64 0, .bool false, .slice none 0 0, .bool false, .int .u64 0, .bool false, .slice none 0 0, .bool false, .int .u64 0] CT) = w577 := hw578
          replace LOW := LOW.trans (hb579.mono LOW.size)
          replace LS := LS.trans (hb579.mono LS.size)
          replace LR := LR.trans (hb579.mono LR.size)
          clear hb579
          rw [hw578]
          clear hw578
          try clear hHeld
          refine hK.out _ _ (⟨(HS.out.1.later LS).cell 0, (HS.out.1.later LS).cell 1, trivial⟩) (fun hHeld => ?_)
          clear hK K
          try simp only [Act.put, List.setIfInBounds_toArray, List.set_cons_zero, List.set_cons_succ]
          refine wpAnyH_ready (rs := [1, 10]) (by kernel_rfl) (by simp) ?_
          refine AllReadyH.cons HO.out.2.1 (fun K hK => ?_) ?_
          · go_simp
            refine (new_any d _).mono ?_
            rintro e w583 ⟨rfl, hb584⟩
            replace PC := PC.later hb584
            replace LOW := LOW.trans (hb584.mono LOW.size)
            replace LS := LS.trans (hb584.mono LS.size)
            replace LR := LR.trans (hb584.mono LR.size)
            clear hb584
            try clear hHeld
            refine hK.out _ _ (⟨(HS.out.1.later LS).cell 0, (HS.out.1.later LS).cell 1, trivial⟩) (fun hHeld => ?_)
            clear hK K
            try simp only [Act.put, List.setIfInBounds_toArray, List.set_cons_zero, List.set_cons_succ]
            refine wpAnyH_ready (rs := [4, 10]) (by kernel_rfl) (by simp) ?_
            refine AllReadyH.cons HO.out.2.2.2.2.1 (fun K hK => ?_) ?_
            · go_simp
              refine (ask_zero_h (x := Cl.new d) (d := d) (k := 1) (n := N) (m := MM) (hs := hvL ms') rfl (by omega) (by omega) rfl HFi.out.2.2.2.2 HFi.out.2.2.1 (by have := HFi.out.2.2.2.1; omega) (HS.out.2.1.later LS) (HH.out.1.later LR) HH.out.2.1 (by omega) (by rw [HU.out.2.1, HH.out.2.2.1]; exact HMM.out)).mono ?_
              rintro e w585 ⟨ta, tc, a1, n1, c1, a2, n2, c2, a3, c3, rfl, TN, hb586⟩
              replace PC := PC.later hb586
              replace LOW := LOW.trans (hb586.mono LOW.size)
              replace LS := LS.trans (hb586.mono LS.size)
              replace LR := LR.trans (hb586.mono LR.size)
              clear hb586
              try clear hHeld
              refine hK.out _ _ (⟨(HS.out.1.later LS).cell 0, (HS.out.1.later LS).cell 1, trivial⟩) (fun hHeld => ?_)
              clear hK K
              try simp only [Act.put, List.setIfInBounds_toArray, List.set_cons_zero, List.set_cons_succ]
              refine wpAnyH_take (i := 5) (v := ?v2030) HO.out.2.2.2.2.2.1 (by kernel_rfl) (by kernel_rfl) (by kernel_rfl) (fun _ _ _ h => h) (Or.inl ⟨by rfl, ?hy2030⟩) (by assumption) ?rest2030
              case hy2030 => (intro w1 hSw; (try dsimp only at hSw); obtain ⟨h0, h1, -⟩ := hSw; go_simp; try with_reducible rfl)
              try simp only [Act.put, List.setIfInBounds_toArray, List.set_cons_zero, List.set_cons_succ]
              refine wpAnyH_take (i := 6) (v := ?v2031) HO.out.2.2.2.2.2.2.1 (by kernel_rfl) (by kernel_rfl) (by kernel_rfl) (fun _ _ _ h => h) (Or.inl ⟨by rfl, ?hy2031⟩) (by assumption) ?rest2031
              case hy2031 => (intro w1 hSw; (try dsimp only at hSw); obtain ⟨h0, h1, -⟩ := hSw; go_simp; try with_reducible rfl)
              try simp only [Act.put, List.setIfInBounds_toArray, List.set_cons_zero, List.set_cons_succ]
              refine wpAnyH_take (i := 7) (v := ?v2032) HO.out.2.2.2.2.2.2.2.1 (by kernel_rfl) (by kernel_rfl) (by kernel_rfl) (fun _ _ _ h => h) (Or.inl ⟨by rfl, ?hy2032⟩) (by assumption) ?rest2032
              case hy2032 => (intro w1 hSw; (try dsimp only at hSw); obtain ⟨h0, h1, -⟩ := hSw; go_simp; try with_reducible rfl)
              try simp only [Act.put, List.setIfInBounds_toArray, List.set_cons_zero, List.set_cons_succ]
              refine wpAnyH_take (i := 8) (v := ?v2033) HO.out.2.2.2.2.2.2.2.2.1 (by kernel_rfl) (by kernel_rfl) (by kernel_rfl) (fun _ _ _ h => h) (Or.inl ⟨by rfl, ?hy2033⟩) (by assumption) ?rest2033
              case hy2033 => (intro w1 hSw; (try dsimp only at hSw); obtain ⟨h0, h1, -⟩ := hSw; go_simp; try with_reducible rfl)
              try simp only [Act.put, List.setIfInBounds_toArray, List.set_cons_zero, List.set_cons_succ]
              refine wpAnyH_ready (rs := [10]) (by kernel_rfl) (by simp) ?_
              refine AllReadyH.cons HO.out.2.2.2.2.2.2.2.2.2.2.1 (fun K hK => ?_) AllReadyH.nil
              go_simp
              have LE590 := Lib.hid LOW.size
              have LE591 := Lib.hid LS.size
              have LE592 := Lib.hid LR.size
              obtain ⟨w587, hw588, hb589, R1⟩ := alloc_new w585 rq0 RT
              replace PC := PC.later hb589
              replace TN := TN.later hb589
              replace LOW := LOW.trans (hb589.mono LOW.size)
              replace LS := LS.trans (hb589.mono LS.size)
              replace LR := LR.trans (hb589.mono LR.size)
              clear hb589
              rw [hw588]
              clear hw588
              try clear hHeld
              refine hK.out _ _ (⟨(HS.out.1.later LS).cell 0, (HS.out.1.later LS).cell 1, trivial⟩) (fun hHeld => ?_)
              clear hK K
              try simp only [Act.put, List.setIfInBounds_toArray, List.set_cons_zero, List.set_cons_succ]
              refine wpAnyH_ready (rs := [11]) (by kernel_rfl) (by simp) ?_
              refine AllReadyH.cons HO.out.2.2.2.2.2.2.2.2.2.2.2.1 (fun K hK => ?_) AllReadyH.nil
              rw [if_pos (by rfl)]
              refine wp_store_cl _ _ Cl.zero ((Cl.new d).set ⟨ua, ta, tc, ul, true, 0⟩ 1) w406.heap.size rfl (by rfl) (by rfl) PC ?_
              intro w593 p594 j595
              have mv596 := j595.blk (Blk.ne R1 PC (by decide)) R1
              have mv597 := j595.ts PC (cl_no _ _) TN
              have mv598 := LOW.trans (j595.below LE580.out)
              have mv599 := LS.trans (j595.below LE581.out)
              have mv600 := LR.trans (j595.below LE582.out)
              replace R1 := mv596
              replace TN := mv597
              replace LOW := mv598
              replace LS := mv599
              replace LR := mv600
              replace PC := p594
              try clear hHeld
              refine hK.out _ _ (⟨(HS.out.1.later LS).cell 0, (HS.out.1.later LS).cell 1, trivial⟩) (fun hHeld => ?_)
              clear hK K
              simp only [Act.put]
              refine wpAnyH_ready (rs := [12]) (by kernel_rfl) (by simp) ?_
              refine AllReadyH.cons HO.out.2.2.2.2.2.2.2.2.2.2.2.2.1 (fun K hK => ?_) AllReadyH.nil
              rw [if_pos (by rfl)]
              refine wp_store_rq _ _ w585.heap.size rfl (by rfl) (by rfl) R1 rfl (by rfl) (by first | (simp [Value.oneCell']; done) | simp [rq, Value.oneCell']) ?_
              intro w601 p602 j603
              have mv604 := j603.blk (Blk.ne PC R1 (by decide)) PC
              have mv605 := j603.ts R1 (rq0_no neN) TN
              have mv606 := LOW.trans (j603.below LE590.out)
              have mv607 := LS.trans (j603.below LE591.out)
              have mv608 := LR.trans (j603.below LE592.out)
              replace PC := mv604
              replace TN := mv605
              replace LOW := mv606
              replace LS := mv607
              replace LR := mv608
              replace R1 := p602
              try clear hHeld
              refine hK.out _ _ (⟨(HS.out.1.later LS).cell 0, (HS.out.1.later LS).cell 1, trivial⟩) (fun hHeld => ?_)
              clear hK K
              simp only [Act.put]
              refine wpAnyH_take (i := 13) (v := ?v2034) HO.out.2.2.2.2.2.2.2.2.2.2.2.2.2 (by kernel_rfl) (by kernel_rfl) (by kernel_rfl) (fun _ _ _ h => h) (Or.inl ⟨by rfl, ?hy2034⟩) (by assumption) ?rest2034
              case hy2034 => (intro w1 hSw; (try dsimp only at hSw); obtain ⟨h0, h1, -⟩ := hSw; go_simp; try with_reducible rfl)
              try simp only [Act.put, List.setIfInBounds_toArray, List.set_cons_zero, List.set_cons_succ]
              refine wpAnyH_done (by kernel_rfl) ?_ _
              go_wp2_with fail
              go_meet
              exact ⟨_, rfl, _, _, ta, tc, a1, n1, c1, a2, n2, c2, a3, c3, rfl, rfl, rfl, PC, R1, TN, LOW, LS, LR⟩
            refine AllReadyH.cons HO.out.2.2.2.2.2.2.2.2.2.2.1 (fun K hK => ?_) AllReadyH.nil
            go_simp
            have LE612 := Lib.hid LOW.size
            have LE613 := Lib.hid LS.size
            have LE614 := Lib.hid LR.size
            obtain ⟨w609, hw610, hb611, R1⟩ := alloc_new w583 rq0 RT
            replace PC := PC.later hb611
            replace LOW := LOW.trans (hb611.mono LOW.size)
            replace LS := LS.trans (hb611.mono LS.size)
            replace LR := LR.trans (hb611.mono LR.size)
            clear hb611
            rw [hw610]
            clear hw610
            try clear hHeld
            refine hK.out _ _ (⟨(HS.out.1.later LS).cell 0, (HS.out.1.later LS).cell 1, trivial⟩) (fun hHeld => ?_)
            clear hK K
            try simp only [Act.put, List.setIfInBounds_toArray, List.set_cons_zero, List.set_cons_succ]
            refine wpAnyH_ready (rs := [4]) (by kernel_rfl) (by simp) ?_
            refine AllReadyH.cons HO.out.2.2.2.2.1 (fun K hK => ?_) AllReadyH.nil
            go_simp
            refine (ask_zero_h (x := Cl.new d) (d := d) (k := 1) (n := N) (m := MM) (hs := hvL ms') rfl (by omega) (by omega) rfl HFi.out.2.2.2.2 HFi.out.2.2.1 (by have := HFi.out.2.2.2.1; omega) (HS.out.2.1.later LS) (HH.out.1.later LR) HH.out.2.1 (by omega) (by rw [HU.out.2.1, HH.out.2.2.1]; exact HMM.out)).mono ?_
            rintro e w615 ⟨ta, tc, a1, n1, c1, a2, n2, c2, a3, c3, rfl, TN, hb616⟩
            replace PC := PC.later hb616
            replace R1 := R1.later hb616
            replace LOW := LOW.trans (hb616.mono LOW.size)
            replace LS := LS.trans (hb616.mono LS.size)
            replace LR := LR.trans (hb616.mono LR.size)
            clear hb616
            try clear hHeld
            refine hK.out _ _ (⟨(HS.out.1.later LS).cell 0, (HS.out.1.later LS).cell 1, trivial⟩) (fun hHeld => ?_)
            clear hK K
            try simp only [Act.put, List.setIfInBounds_toArray, List.set_cons_zero, List.set_cons_succ]
            refine wpAnyH_take (i := 5) (v := ?v2035) HO.out.2.2.2.2.2.1 (by kernel_rfl) (by kernel_rfl) (by kernel_rfl) (fun _ _ _ h => h) (Or.inl ⟨by rfl, ?hy2035⟩) (by assumption) ?rest2035
            case hy2035 => (intro w1 hSw; (try dsimp only at hSw); obtain ⟨h0, h1, -⟩ := hSw; go_simp; try with_reducible rfl)
            try simp only [Act.put, List.setIfInBounds_toArray, List.set_cons_zero, List.set_cons_succ]
            refine wpAnyH_take (i := 6) (v := ?v2036) HO.out.2.2.2.2.2.2.1 (by kernel_rfl) (by kernel_rfl) (by kernel_rfl) (fun _ _ _ h => h) (Or.inl ⟨by rfl, ?hy2036⟩) (by assumption) ?rest2036
            case hy2036 => (intro w1 hSw; (try dsimp only at hSw); obtain ⟨h0, h1, -⟩ := hSw; go_simp; try with_reducible rfl)
            try simp only [Act.put, List.setIfInBounds_toArray, List.set_cons_zero, List.set_cons_succ]
            refine wpAnyH_take (i := 7) (v := ?v2037) HO.out.2.2.2.2.2.2.2.1 (by kernel_rfl) (by kernel_rfl) (by kernel_rfl) (fun _ _ _ h => h) (Or.inl ⟨by rfl, ?hy2037⟩) (by assumption) ?rest2037
            case hy2037 => (intro w1 hSw; (try dsimp only at hSw); obtain ⟨h0, h1, -⟩ := hSw; go_simp; try with_reducible rfl)
            try simp only [Act.put, List.setIfInBounds_toArray, List.set_cons_zero, List.set_cons_succ]
            refine wpAnyH_take (i := 8) (v := ?v2038) HO.out.2.2.2.2.2.2.2.2.1 (by kernel_rfl) (by kernel_rfl) (by kernel_rfl) (fun _ _ _ h => h) (Or.inl ⟨by rfl, ?hy2038⟩) (by assumption) ?rest2038
            case hy2038 => (intro w1 hSw; (try dsimp only at hSw); obtain ⟨h0, h1, -⟩ := hSw; go_simp; try with_reducible rfl)
            try simp only [Act.put, List.setIfInBounds_toArray, List.set_cons_zero, List.set_cons_succ]
            refine wpAnyH_ready (rs := [11]) (by kernel_rfl) (by simp) ?_
            refine AllReadyH.cons HO.out.2.2.2.2.2.2.2.2.2.2.2.1 (fun K hK => ?_) AllReadyH.nil
            rw [if_pos (by rfl)]
            refine wp_store_cl _ _ Cl.zero ((Cl.new d).set ⟨ua, ta, tc, ul, true, 0⟩ 1) w406.heap.size rfl (by rfl) (by rfl) PC ?_
            intro w617 p618 j619
            have mv620 := j619.blk (Blk.ne R1 PC (by decide)) R1
            have mv621 := j619.ts PC (cl_no _ _) TN
            have mv622 := LOW.trans (j619.below LE580.out)
            have mv623 := LS.trans (j619.below LE581.out)
            have mv624 := LR.trans (j619.below LE582.out)
            replace R1 := mv620
            replace TN := mv621
            replace LOW := mv622
            replace LS := mv623
            replace LR := mv624
            replace PC := p618
            try clear hHeld
            refine hK.out _ _ (⟨(HS.out.1.later LS).cell 0, (HS.out.1.later LS).cell 1, trivial⟩) (fun hHeld => ?_)
            clear hK K
            simp only [Act.put]
            refine wpAnyH_ready (rs := [12]) (by kernel_rfl) (by simp) ?_
            refine AllReadyH.cons HO.out.2.2.2.2.2.2.2.2.2.2.2.2.1 (fun K hK => ?_) AllReadyH.nil
            rw [if_pos (by rfl)]
            refine wp_store_rq _ _ w583.heap.size rfl (by rfl) (by rfl) R1 rfl (by rfl) (by first | (simp [Value.oneCell']; done) | simp [rq, Value.oneCell']) ?_
            intro w625 p626 j627
            have mv628 := j627.blk (Blk.ne PC R1 (by decide)) PC
            have mv629 := j627.ts R1 (rq0_no neN) TN
            have mv630 := LOW.trans (j627.below LE612.out)
            have mv631 := LS.trans (j627.below LE613.out)
            have mv632 := LR.trans (j627.below LE614.out)
            replace PC := mv628
            replace TN := mv629
            replace LOW := mv630
            replace LS := mv631
            replace LR := mv632
            replace R1 := p626
            try clear hHeld
            refine hK.out _ _ (⟨(HS.out.1.later LS).cell 0, (HS.out.1.later LS).cell 1, trivial⟩) (fun hHeld => ?_)
            clear hK K
            simp only [Act.put]
            refine wpAnyH_take (i := 13) (v := ?v2039) HO.out.2.2.2.2.2.2.2.2.2.2.2.2.2 (by kernel_rfl) (by kernel_rfl) (by kernel_rfl) (fun _ _ _ h => h) (Or.inl ⟨by rfl, ?hy2039⟩) (by assumption) ?rest2039
            case hy2039 => (intro w1 hSw; (try dsimp only at hSw); obtain ⟨h0, h1, -⟩ := hSw; go_simp; try with_reducible rfl)
            try simp only [Act.put, List.setIfInBounds_toArray, List.set_cons_zero, List.set_cons_succ]
            refine wpAnyH_done (by kernel_rfl) ?_ _
            go_wp2_with fail
            go_meet
            exact ⟨_, rfl, _, _, ta, tc, a1, n1, c1, a2, n2, c2, a3, c3, rfl, rfl, rfl, PC, R1, TN, LOW, LS, LR⟩
          refine AllReadyH.cons HO.out.2.2.2.2.2.2.2.2.2.2.1 (fun K hK => ?_) AllReadyH.nil
          go_simp
          have LE636 := Lib.hid LOW.size
          have LE637 := Lib.hid LS.size
          have LE638 := Lib.hid LR.size
          obtain ⟨w633, hw634, hb635, R1⟩ := alloc_new w577 rq0 RT
          replace PC := PC.later hb635
          replace LOW := LOW.trans (hb635.mono LOW.size)
          replace LS := LS.trans (hb635.mono LS.size)
          replace LR := LR.trans (hb635.mono LR.size)
          clear hb635
          rw [hw634]
          clear hw634
          try clear hHeld
          refine hK.out _ _ (⟨(HS.out.1.later LS).cell 0, (HS.out.1.later LS).cell 1, trivial⟩) (fun hHeld => ?_)
          clear hK K
          try simp only [Act.put, List.setIfInBounds_toArray, List.set_cons_zero, List.set_cons_succ]
          refine wpAnyH_ready (rs := [1]) (by kernel_rfl) (by simp) ?_
          refine AllReadyH.cons HO.out.2.1 (fun K hK => ?_) AllReadyH.nil
          go_simp
          refine (new_any d _).mono ?_
          rintro e w639 ⟨rfl, hb640⟩
          replace PC := PC.later hb640
          replace R1 := R1.later hb640
          replace LOW := LOW.trans (hb640.mono LOW.size)
          replace LS := LS.trans (hb640.mono LS.size)
          replace LR := LR.trans (hb640.mono LR.size)
          clear hb640
          try clear hHeld
          refine hK.out _ _ (⟨(HS.out.1.later LS).cell 0, (HS.out.1.later LS).cell 1, trivial⟩) (fun hHeld => ?_)
          clear hK K
          try simp only [Act.put, List.setIfInBounds_toArray, List.set_cons_zero, List.set_cons_succ]
          refine wpAnyH_ready (rs := [4]) (by kernel_rfl) (by simp) ?_
          refine AllReadyH.cons HO.out.2.2.2.2.1 (fun K hK => ?_) AllReadyH.nil
          go_simp
          refine (ask_zero_h (x := Cl.new d) (d := d) (k := 1) (n := N) (m := MM) (hs := hvL ms') rfl (by omega) (by omega) rfl HFi.out.2.2.2.2 HFi.out.2.2.1 (by have := HFi.out.2.2.2.1; omega) (HS.out.2.1.later LS) (HH.out.1.later LR) HH.out.2.1 (by omega) (by rw [HU.out.2.1, HH.out.2.2.1]; exact HMM.out)).mono ?_
          rintro e w641 ⟨ta, tc, a1, n1, c1, a2, n2, c2, a3, c3, rfl, TN, hb642⟩
          replace PC := PC.later hb642
          replace R1 := R1.later hb642
          replace LOW := LOW.trans (hb642.mono LOW.size)
          replace LS := LS.trans (hb642.mono LS.size)
          replace LR := LR.trans (hb642.mono LR.size)
          clear hb642
          try clear hHeld
          refine hK.out _ _ (⟨(HS.out.1.later LS).cell 0, (HS.out.1.later LS).cell 1, trivial⟩) (fun hHeld => ?_)
          clear hK K
          try simp only [Act.put, List.setIfInBounds_toArray, List.set_cons_zero, List.set_cons_succ]
          refine wpAnyH_take (i := 5) (v := ?v2040) HO.out.2.2.2.2.2.1 (by kernel_rfl) (by kernel_rfl) (by kernel_rfl) (fun _ _ _ h => h) (Or.inl ⟨by rfl, ?hy2040⟩) (by assumption) ?rest2040
          case hy2040 => (intro w1 hSw; (try dsimp only at hSw); obtain ⟨h0, h1, -⟩ := hSw; go_simp; try with_reducible rfl)
          try simp only [Act.put, List.setIfInBounds_toArray, List.set_cons_zero, List.set_cons_succ]
          refine wpAnyH_take (i := 6) (v := ?v2041) HO.out.2.2.2.2.2.2.1 (by kernel_rfl) (by kernel_rfl) (by kernel_rfl) (fun _ _ _ h => h) (Or.inl ⟨by rfl, ?hy2041⟩) (by assumption) ?rest2041
          case hy2041 => (intro w1 hSw; (try dsimp only at hSw); obtain ⟨h0, h1, -⟩ := hSw; go_simp; try with_reducible rfl)
          try simp only [Act.put, List.setIfInBounds_toArray, List.set_cons_zero, List.set_cons_succ]
          refine wpAnyH_take (i := 7) (v := ?v2042) HO.out.2.2.2.2.2.2.2.1 (by kernel_rfl) (by kernel_rfl) (by kernel_rfl) (fun _ _ _ h => h) (Or.inl ⟨by rfl, ?hy2042⟩) (by assumption) ?rest2042
          case hy2042 => (intro w1 hSw; (try dsimp only at hSw); obtain ⟨h0, h1, -⟩ := hSw; go_simp; try with_reducible rfl)
          try simp only [Act.put, List.setIfInBounds_toArray, List.set_cons_zero, List.set_cons_succ]
          refine wpAnyH_take (i := 8) (v := ?v2043) HO.out.2.2.2.2.2.2.2.2.1 (by kernel_rfl) (by kernel_rfl) (by kernel_rfl) (fun _ _ _ h => h) (Or.inl ⟨by rfl, ?hy2043⟩) (by assumption) ?rest2043
          case hy2043 => (intro w1 hSw; (try dsimp only at hSw); obtain ⟨h0, h1, -⟩ := hSw; go_simp; try with_reducible rfl)
          try simp only [Act.put, List.setIfInBounds_toArray, List.set_cons_zero, List.set_cons_succ]
          refine wpAnyH_ready (rs := [11]) (by kernel_rfl) (by simp) ?_
          refine AllReadyH.cons HO.out.2.2.2.2.2.2.2.2.2.2.2.1 (fun K hK => ?_) AllReadyH.nil
          rw [if_pos (by rfl)]
          refine wp_store_cl _ _ Cl.zero ((Cl.new d).set ⟨ua, ta, tc, ul, true, 0⟩ 1) w406.heap.size rfl (by rfl) (by rfl) PC ?_
          intro w643 p644 j645
          have mv646 := j645.blk (Blk.ne R1 PC (by decide)) R1
          have mv647 := j645.ts PC (cl_no _ _) TN
          have mv648 := LOW.trans (j645.below LE580.out)
          have mv649 := LS.trans (j645.below LE581.out)
          have mv650 := LR.trans (j645.below LE582.out)
          replace R1 := mv646
          replace TN := mv647
          replace LOW := mv648
          replace LS := mv649
          replace LR := mv650
          replace PC := p644
          try clear hHeld
          refine hK.out _ _ (⟨(HS.out.1.later LS).cell 0, (HS.out.1.later LS).cell 1, trivial⟩) (fun hHeld => ?_)
          clear hK K
          simp only [Act.put]
          refine wpAnyH_ready (rs := [12]) (by kernel_rfl) (by simp) ?_
          refine AllReadyH.cons HO.out.2.2.2.2.2.2.2.2.2.2.2.2.1 (fun K hK => ?_) AllReadyH.nil
          rw [if_pos (by rfl)]
          refine wp_store_rq _ _ w577.heap.size rfl (by rfl) (by rfl) R1 rfl (by rfl) (by first | (simp [Value.oneCell']; done) | simp [rq, Value.oneCell']) ?_
          intro w651 p652 j653
          have mv654 := j653.blk (Blk.ne PC R1 (by decide)) PC
          have mv655 := j653.ts R1 (rq0_no neN) TN
          have mv656 := LOW.trans (j653.below LE636.out)
          have mv657 := LS.trans (j653.below LE637.out)
          have mv658 := LR.trans (j653.below LE638.out)
          replace PC := mv654
          replace TN := mv655
          replace LOW := mv656
          replace LS := mv657
          replace LR := mv658
          replace R1 := p652
          try clear hHeld
          refine hK.out _ _ (⟨(HS.out.1.later LS).cell 0, (HS.out.1.later LS).cell 1, trivial⟩) (fun hHeld => ?_)
          clear hK K
          simp only [Act.put]
          refine wpAnyH_take (i := 13) (v := ?v2044) HO.out.2.2.2.2.2.2.2.2.2.2.2.2.2 (by kernel_rfl) (by kernel_rfl) (by kernel_rfl) (fun _ _ _ h => h) (Or.inl ⟨by rfl, ?hy2044⟩) (by assumption) ?rest2044
          case hy2044 => (intro w1 hSw; (try dsimp only at hSw); obtain ⟨h0, h1, -⟩ := hSw; go_simp; try with_reducible rfl)
          try simp only [Act.put, List.setIfInBounds_toArray, List.set_cons_zero, List.set_cons_succ]
          refine wpAnyH_done (by kernel_rfl) ?_ _
          go_wp2_with fail
          go_meet
          exact ⟨_, rfl, _, _, ta, tc, a1, n1, c1, a2, n2, c2, a3, c3, rfl, rfl, rfl, PC, R1, TN, LOW, LS, LR⟩
        refine AllReadyH.cons HO.out.2.2.2.2.2.2.2.2.2.2.1 (fun K hK => ?_) AllReadyH.nil
        go_simp
        have LE662 := Lib.hid LOW.size
        have LE663 := Lib.hid LS.size
        have LE664 := Lib.hid LR.size
        obtain ⟨w659, hw660, hb661, R1⟩ := alloc_new w406 rq0 RT
        replace LOW := LOW.trans (hb661.mono LOW.size)
        replace LS := LS.trans (hb661.mono LS.size)
        replace LR := LR.trans (hb661.mono LR.size)
        clear hb661
        rw [hw660]
        clear hw660
        try clear hHeld
        refine hK.out _ _ (⟨(HS.out.1.later LS).cell 0, (HS.out.1.later LS).cell 1, trivial⟩) (fun hHeld => ?_)
        clear hK K
        try simp only [Act.put, List.setIfInBounds_toArray, List.set_cons_zero, List.set_cons_succ]
        refine wpAnyH_ready (rs := [1, 9]) (by kernel_rfl) (by simp) ?_
        refine AllReadyH.cons HO.out.2.1 (fun K hK => ?_) ?_
        · go_simp
          refine (new_any d _).mono ?_
          rintro e w665 ⟨rfl, hb666⟩
          replace R1 := R1.later hb666
          replace LOW := LOW.trans (hb666.mono LOW.size)
          replace LS := LS.trans (hb666.mono LS.size)
          replace LR := LR.trans (hb666.mono LR.size)
          clear hb666
          try clear hHeld
          refine hK.out _ _ (⟨(HS.out.1.later LS).cell 0, (HS.out.1.later LS).cell 1, trivial⟩) (fun hHeld => ?_)
          clear hK K
          try simp only [Act.put, List.setIfInBounds_toArray, List.set_cons_zero, List.set_cons_succ]
          refine wpAnyH_ready (rs := [4, 9]) (by kernel_rfl) (by simp) ?_
          refine AllReadyH.cons HO.out.2.2.2.2.1 (fun K hK => ?_) ?_
          · go_simp
            refine (ask_zero_h (x := Cl.new d) (d := d) (k := 1) (n := N) (m := MM) (hs := hvL ms') rfl (by omega) (by omega) rfl HFi.out.2.2.2.2 HFi.out.2.2.1 (by have := HFi.out.2.2.2.1; omega) (HS.out.2.1.later LS) (HH.out.1.later LR) HH.out.2.1 (by omega) (by rw [HU.out.2.1, HH.out.2.2.1]; exact HMM.out)).mono ?_
            rintro e w667 ⟨ta, tc, a1, n1, c1, a2, n2, c2, a3, c3, rfl, TN, hb668⟩
            replace R1 := R1.later hb668
            replace LOW := LOW.trans (hb668.mono LOW.size)
            replace LS := LS.trans (hb668.mono LS.size)
            replace LR := LR.trans (hb668.mono LR.size)
            clear hb668
            try clear hHeld
            refine hK.out _ _ (⟨(HS.out.1.later LS).cell 0, (HS.out.1.later LS).cell 1, trivial⟩) (fun hHeld => ?_)
            clear hK K
            try simp only [Act.put, List.setIfInBounds_toArray, List.set_cons_zero, List.set_cons_succ]
            refine wpAnyH_take (i := 5) (v := ?v2045) HO.out.2.2.2.2.2.1 (by kernel_rfl) (by kernel_rfl) (by kernel_rfl) (fun _ _ _ h => h) (Or.inl ⟨by rfl, ?hy2045⟩) (by assumption) ?rest2045
            case hy2045 => (intro w1 hSw; (try dsimp only at hSw); obtain ⟨h0, h1, -⟩ := hSw; go_simp; try with_reducible rfl)
            try simp only [Act.put, List.setIfInBounds_toArray, List.set_cons_zero, List.set_cons_succ]
            refine wpAnyH_take (i := 6) (v := ?v2046) HO.out.2.2.2.2.2.2.1 (by kernel_rfl) (by kernel_rfl) (by kernel_rfl) (fun _ _ _ h => h) (Or.inl ⟨by rfl, ?hy2046⟩) (by assumption) ?rest2046
            case hy2046 => (intro w1 hSw; (try dsimp only at hSw); obtain ⟨h0, h1, -⟩ := hSw; go_simp; try with_reducible rfl)
            try simp only [Act.put, List.setIfInBounds_toArray, List.set_cons_zero, List.set_cons_succ]
            refine wpAnyH_take (i := 7) (v := ?v2047) HO.out.2.2.2.2.2.2.2.1 (by kernel_rfl) (by kernel_rfl) (by kernel_rfl) (fun _ _ _ h => h) (Or.inl ⟨by rfl, ?hy2047⟩) (by assumption) ?rest2047
            case hy2047 => (intro w1 hSw; (try dsimp only at hSw); obtain ⟨h0, h1, -⟩ := hSw; go_simp; try with_reducible rfl)
            try simp only [Act.put, List.setIfInBounds_toArray, List.set_cons_zero, List.set_cons_succ]
            refine wpAnyH_take (i := 8) (v := ?v2048) HO.out.2.2.2.2.2.2.2.2.1 (by kernel_rfl) (by kernel_rfl) (by kernel_rfl) (fun _ _ _ h => h) (Or.inl ⟨by rfl, ?hy2048⟩) (by assumption) ?rest2048
            case hy2048 => (intro w1 hSw; (try dsimp only at hSw); obtain ⟨h0, h1, -⟩ := hSw; go_simp; try with_reducible rfl)
            try simp only [Act.put, List.setIfInBounds_toArray, List.set_cons_zero, List.set_cons_succ]
            refine wpAnyH_ready (rs := [9]) (by kernel_rfl) (by simp) ?_
            refine AllReadyH.cons HO.out.2.2.2.2.2.2.2.2.2.1 (fun K hK => ?_) AllReadyH.nil
            go_simp
            have LE672 := Lib.hid LOW.size
            have LE673 := Lib.hid LS.size
            have LE674 := Lib.hid LR.size
            obtain ⟨w669, hw670, hb671, PC⟩ := alloc_new w667 Cl.zero.arr CT
            replace hw670 : w667.alloc (.cells #[.bool false, .bool false, .slice none 0 0, .bool false, .int .u64 0, .bool false, .slice none 0 0, .bool false, .int .u64 0, .bool false, .slice none 0 0, .bool false, .int .u64 0, .bool false, .slice none 0 0, .bool false, .int .u64 0, .bool false, .slice none 0 0, .bool false, .int .u64 0, .bool false, .slice none 0 0, .bool false, .int .u64 0] CT) = w669 := hw670
            replace R1 := R1.later hb671
            replace TN := TN.later hb671
            replace LOW := LOW.trans (hb671.mono LOW.size)
            replace LS := LS.trans (hb671.mono LS.size)
            replace LR := LR.trans (hb671.mono LR.size)
            clear hb671
            rw [hw670]
            clear hw670
            try clear hHeld
            refine hK.out _ _ (⟨(HS.out.1.later LS).cell 0, (HS.out.1.later LS).cell 1, trivial⟩) (fun hHeld => ?_)
            clear hK K
            try simp only [Act.put, List.setIfInBounds_toArray, List.set_cons_zero, List.set_cons_succ]
            refine wpAnyH_ready (rs := [11]) (by kernel_rfl) (by simp) ?_
            refine AllReadyH.cons HO.out.2.2.2.2.2.2.2.2.2.2.2.1 (fun K hK => ?_) AllReadyH.nil
            rw [if_pos (by rfl)]
            refine wp_store_cl _ _ Cl.zero ((Cl.new d).set ⟨ua, ta, tc, ul, true, 0⟩ 1) w667.heap.size rfl (by rfl) (by rfl) PC ?_
            intro w675 p676 j677
            have mv678 := j677.blk (Blk.ne R1 PC (by decide)) R1
            have mv679 := j677.ts PC (cl_no _ _) TN
            have mv680 := LOW.trans (j677.below LE672.out)
            have mv681 := LS.trans (j677.below LE673.out)
            have mv682 := LR.trans (j677.below LE674.out)
            replace R1 := mv678
            replace TN := mv679
            replace LOW := mv680
            replace LS := mv681
            replace LR := mv682
            replace PC := p676
            try clear hHeld
            refine hK.out _ _ (⟨(HS.out.1.later LS).cell 0, (HS.out.1.later LS).cell 1, trivial⟩) (fun hHeld => ?_)
            clear hK K
            simp only [Act.put]
            refine wpAnyH_ready (rs := [12]) (by kernel_rfl) (by simp) ?_
            refine AllReadyH.cons HO.out.2.2.2.2.2.2.2.2.2.2.2.2.1 (fun K hK => ?_) AllReadyH.nil
            rw [if_pos (by rfl)]
            refine wp_store_rq _ _ w406.heap.size rfl (by rfl) (by rfl) R1 rfl (by rfl) (by first | (simp [Value.oneCell']; done) | simp [rq, Value.oneCell']) ?_
            intro w683 p684 j685
            have mv686 := j685.blk (Blk.ne PC R1 (by decide)) PC
            have mv687 := j685.ts R1 (rq0_no neN) TN
            have mv688 := LOW.trans (j685.below LE662.out)
            have mv689 := LS.trans (j685.below LE663.out)
            have mv690 := LR.trans (j685.below LE664.out)
            replace PC := mv686
            replace TN := mv687
            replace LOW := mv688
            replace LS := mv689
            replace LR := mv690
            replace R1 := p684
            try clear hHeld
            refine hK.out _ _ (⟨(HS.out.1.later LS).cell 0, (HS.out.1.later LS).cell 1, trivial⟩) (fun hHeld => ?_)
            clear hK K
            simp only [Act.put]
            refine wpAnyH_take (i := 13) (v := ?v2049) HO.out.2.2.2.2.2.2.2.2.2.2.2.2.2 (by kernel_rfl) (by kernel_rfl) (by kernel_rfl) (fun _ _ _ h => h) (Or.inl ⟨by rfl, ?hy2049⟩) (by assumption) ?rest2049
            case hy2049 => (intro w1 hSw; (try dsimp only at hSw); obtain ⟨h0, h1, -⟩ := hSw; go_simp; try with_reducible rfl)
            try simp only [Act.put, List.setIfInBounds_toArray, List.set_cons_zero, List.set_cons_succ]
            refine wpAnyH_done (by kernel_rfl) ?_ _
            go_wp2_with fail
            go_meet
            exact ⟨_, rfl, _, _, ta, tc, a1, n1, c1, a2, n2, c2, a3, c3, rfl, rfl, rfl, PC, R1, TN, LOW, LS, LR⟩
          refine AllReadyH.cons HO.out.2.2.2.2.2.2.2.2.2.1 (fun K hK => ?_) AllReadyH.nil
          go_simp
          have LE694 := Lib.hid LOW.size
          have LE695 := Lib.hid LS.size
          have LE696 := Lib.hid LR.size
          obtain ⟨w691, hw692, hb693, PC⟩ := alloc_new w665 Cl.zero.arr CT
          replace hw692 : w665.alloc (.cells #[.bool false, .bool false, .slice none 0 0, .bool false, .int .u64 0, .bool false, .slice none 0 0, .bool false, .int .u64 0, .bool false, .slice none 0 0, .bool false, .int .u64 0, .bool false, .slice none 0 0, .bool false, .int .u64 0, .bool false, .slice none 0 0, .bool false, .int .u64 0, .bool false, .slice none 0 0, .bool false, .int .u64 0] CT) = w691 := hw692
          replace R1 := R1.later hb693
          replace LOW := LOW.trans (hb693.mono LOW.size)
          replace LS := LS.trans (hb693.mono LS.size)
          replace LR := LR.trans (hb693.mono LR.size)
          clear hb693
          rw [hw692]
          clear hw692
          try clear hHeld
          refine hK.out _ _ (⟨(HS.out.1.later LS).cell 0, (HS.out.1.later LS).cell 1, trivial⟩) (fun hHeld => ?_)
          clear hK K
          try simp only [Act.put, List.setIfInBounds_toArray, List.set_cons_zero, List.set_cons_succ]
          refine wpAnyH_ready (rs := [4]) (by kernel_rfl) (by simp) ?_
          refine AllReadyH.cons HO.out.2.2.2.2.1 (fun K hK => ?_) AllReadyH.nil
          go_simp
          refine (ask_zero_h (x := Cl.new d) (d := d) (k := 1) (n := N) (m := MM) (hs := hvL ms') rfl (by omega) (by omega) rfl HFi.out.2.2.2.2 HFi.out.2.2.1 (by have := HFi.out.2.2.2.1; omega) (HS.out.2.1.later LS) (HH.out.1.later LR) HH.out.2.1 (by omega) (by rw [HU.out.2.1, HH.out.2.2.1]; exact HMM.out)).mono ?_
          rintro e w697 ⟨ta, tc, a1, n1, c1, a2, n2, c2, a3, c3, rfl, TN, hb698⟩
          replace R1 := R1.later hb698
          replace PC := PC.later hb698
          replace LOW := LOW.trans (hb698.mono LOW.size)
          replace LS := LS.trans (hb698.mono LS.size)
          replace LR := LR.trans (hb698.mono LR.size)
          clear hb698
          try clear hHeld
          refine hK.out _ _ (⟨(HS.out.1.later LS).cell 0, (HS.out.1.later LS).cell 1, trivial⟩) (fun hHeld => ?_)
          clear hK K
          try simp only [Act.put, List.setIfInBounds_toArray, List.set_cons_zero, List.set_cons_succ]
          refine wpAnyH_take (i := 5) (v := ?v2050) HO.out.2.2.2.2.2.1 (by kernel_rfl) (by kernel_rfl) (by kernel_rfl) (fun _ _ _ h => h) (Or.inl ⟨by rfl, ?hy2050⟩) (by assumption) ?rest2050
          case hy2050 => (intro w1 hSw; (try dsimp only at hSw); obtain ⟨h0, h1, -⟩ := hSw; go_simp; try with_reducible rfl)
          try simp only [Act.put, List.setIfInBounds_toArray, List.set_cons_zero, List.set_cons_succ]
          refine wpAnyH_take (i := 6) (v := ?v2051) HO.out.2.2.2.2.2.2.1 (by kernel_rfl) (by kernel_rfl) (by kernel_rfl) (fun _ _ _ h => h) (Or.inl ⟨by rfl, ?hy2051⟩) (by assumption) ?rest2051
          case hy2051 => (intro w1 hSw; (try dsimp only at hSw); obtain ⟨h0, h1, -⟩ := hSw; go_simp; try with_reducible rfl)
          try simp only [Act.put, List.setIfInBounds_toArray, List.set_cons_zero, List.set_cons_succ]
          refine wpAnyH_take (i := 7) (v := ?v2052) HO.out.2.2.2.2.2.2.2.1 (by kernel_rfl) (by kernel_rfl) (by kernel_rfl) (fun _ _ _ h => h) (Or.inl ⟨by rfl, ?hy2052⟩) (by assumption) ?rest2052
          case hy2052 => (intro w1 hSw; (try dsimp only at hSw); obtain ⟨h0, h1, -⟩ := hSw; go_simp; try with_reducible rfl)
          try simp only [Act.put, List.setIfInBounds_toArray, List.set_cons_zero, List.set_cons_succ]
          refine wpAnyH_take (i := 8) (v := ?v2053) HO.out.2.2.2.2.2.2.2.2.1 (by kernel_rfl) (by kernel_rfl) (by kernel_rfl) (fun _ _ _ h => h) (Or.inl ⟨by rfl, ?hy2053⟩) (by assumption) ?rest2053
          case hy2053 => (intro w1 hSw; (try dsimp only at hSw); obtain ⟨h0, h1, -⟩ := hSw; go_simp; try with_reducible rfl)
          try simp only [Act.put, List.setIfInBounds_toArray, List.set_cons_zero, List.set_cons_succ]
          refine wpAnyH_ready (rs := [11]) (by kernel_rfl) (by simp) ?_
          refine AllReadyH.cons HO.out.2.2.2.2.2.2.2.2.2.2.2.1 (fun K hK => ?_) AllReadyH.nil
          rw [if_pos (by rfl)]
          refine wp_store_cl _ _ Cl.zero ((Cl.new d).set ⟨ua, ta, tc, ul, true, 0⟩ 1) w665.heap.size rfl (by rfl) (by rfl) PC ?_
          intro w699 p700 j701
          have mv702 := j701.blk (Blk.ne R1 PC (by decide)) R1
          have mv703 := j701.ts PC (cl_no _ _) TN
          have mv704 := LOW.trans (j701.below LE694.out)
          have mv705 := LS.trans (j701.below LE695.out)
          have mv706 := LR.trans (j701.below LE696.out)
          replace R1 := mv702
          replace TN := mv703
          replace LOW := mv704
          replace LS := mv705
          replace LR := mv706
          replace PC := p700
          try clear hHeld
          refine hK.out _ _ (⟨(HS.out.1.later LS).cell 0, (HS.out.1.later LS).cell 1, trivial⟩) (fun hHeld => ?_)
          clear hK K
          simp only [Act.put]
          refine wpAnyH_ready (rs := [12]) (by kernel_rfl) (by simp) ?_
          refine AllReadyH.cons HO.out.2.2.2.2.2.2.2.2.2.2.2.2.1 (fun K hK => ?_) AllReadyH.nil
          rw [if_pos (by rfl)]
          refine wp_store_rq _ _ w406.heap.size rfl (by rfl) (by rfl) R1 rfl (by rfl) (by first | (simp [Value.oneCell']; done) | simp [rq, Value.oneCell']) ?_
          intro w707 p708 j709
          have mv710 := j709.blk (Blk.ne PC R1 (by decide)) PC
          have mv711 := j709.ts R1 (rq0_no neN) TN
          have mv712 := LOW.trans (j709.below LE662.out)
          have mv713 := LS.trans (j709.below LE663.out)
          have mv714 := LR.trans (j709.below LE664.out)
          replace PC := mv710
          replace TN := mv711
          replace LOW := mv712
          replace LS := mv713
          replace LR := mv714
          replace R1 := p708
          try clear hHeld
          refine hK.out _ _ (⟨(HS.out.1.later LS).cell 0, (HS.out.1.later LS).cell 1, trivial⟩) (fun hHeld => ?_)
          clear hK K
          simp only [Act.put]
          refine wpAnyH_take (i := 13) (v := ?v2054) HO.out.2.2.2.2.2.2.2.2.2.2.2.2.2 (by kernel_rfl) (by kernel_rfl) (by kernel_rfl) (fun _ _ _ h => h) (Or.inl ⟨by rfl, ?hy2054⟩) (by assumption) ?rest2054
          case hy2054 => (intro w1 hSw; (try dsimp only at hSw); obtain ⟨h0, h1, -⟩ := hSw; go_simp; try with_reducible rfl)
          try simp only [Act.put, List.setIfInBounds_toArray, List.set_cons_zero, List.set_cons_succ]
          refine wpAnyH_done (by kernel_rfl) ?_ _
          go_wp2_with fail
          go_meet
          exact ⟨_, rfl, _, _, ta, tc, a1, n1, c1, a2, n2, c2, a3, c3, rfl, rfl, rfl, PC, R1, TN, LOW, LS, LR⟩
        refine AllReadyH.cons HO.out.2.2.2.2.2.2.2.2.2.1 (fun K hK => ?_) AllReadyH.nil
        go_simp
        have LE718 := Lib.hid LOW.size
        have LE719 := Lib.hid LS.size
        have LE720 := Lib.hid LR.size
        obtain ⟨w715, hw716, hb717, PC⟩ := alloc_new w659 Cl.zero.arr CT
        replace hw716 : w659.alloc (.cells #[.bool false, .bool false, .slice none 0 0, .bool false, .int .u64 0, .bool false, .slice none 0 0, .bool false, .int .u64 0, .bool false, .slice none 0 0, .bool false, .int .u64 0, .bool false, .slice none 0 0, .bool false, .int .u64 0, .bool false, .slice none 0 0, .bool false, .int .u64 0, .bool false, .slice none 0 0, .bool false, .int .u64 0] CT) = w715 := hw716
        replace R1 := R1.later hb717
        replace LOW := LOW.trans (hb717.mono LOW.size)
        replace LS := LS.trans (hb717.mono LS.size)
        replace LR := LR.trans (hb717.mono LR.size)
        clear hb717
        rw [hw716]
        clear hw716
        try clear hHeld
        refine hK.out _ _ (⟨(HS.out.1.later LS).cell 0, (HS.out.1.later LS).cell 1, trivial⟩) (fun hHeld => ?_)
        clear hK K
        try simp only [Act.put, List.setIfInBounds_toArray, List.set_cons_zero, List.set_cons_succ]
        refine wpAnyH_ready (rs := [1]) (by kernel_rfl) (by simp) ?_
        refine AllReadyH.cons HO.out.2.1 (fun K hK => ?_) AllReadyH.nil
        go_simp
        refine (new_any d _).mono ?_
        rintro e w721 ⟨rfl, hb722⟩
        replace R1 := R1.later hb722
        replace PC := PC.later hb722
        replace LOW := LOW.trans (hb722.mono LOW.size)
        replace LS := LS.trans (hb722.mono LS.size)
        replace LR := LR.trans (hb722.mono LR.size)
        clear hb722
        try clear hHeld
        refine hK.out _ _ (⟨(HS.out.1.later LS).cell 0, (HS.out.1.later LS).cell 1, trivial⟩) (fun hHeld => ?_)
        clear hK K
        try simp only [Act.put, List.setIfInBounds_toArray, List.set_cons_zero, List.set_cons_succ]
        refine wpAnyH_ready (rs := [4]) (by kernel_rfl) (by simp) ?_
        refine AllReadyH.cons HO.out.2.2.2.2.1 (fun K hK => ?_) AllReadyH.nil
        go_simp
        refine (ask_zero_h (x := Cl.new d) (d := d) (k := 1) (n := N) (m := MM) (hs := hvL ms') rfl (by omega) (by omega) rfl HFi.out.2.2.2.2 HFi.out.2.2.1 (by have := HFi.out.2.2.2.1; omega) (HS.out.2.1.later LS) (HH.out.1.later LR) HH.out.2.1 (by omega) (by rw [HU.out.2.1, HH.out.2.2.1]; exact HMM.out)).mono ?_
        rintro e w723 ⟨ta, tc, a1, n1, c1, a2, n2, c2, a3, c3, rfl, TN, hb724⟩
        replace R1 := R1.later hb724
        replace PC := PC.later hb724
        replace LOW := LOW.trans (hb724.mono LOW.size)
        replace LS := LS.trans (hb724.mono LS.size)
        replace LR := LR.trans (hb724.mono LR.size)
        clear hb724
        try clear hHeld
        refine hK.out _ _ (⟨(HS.out.1.later LS).cell 0, (HS.out.1.later LS).cell 1, trivial⟩) (fun hHeld => ?_)
        clear hK K
        try simp only [Act.put, List.setIfInBounds_toArray, List.set_cons_zero, List.set_cons_succ]
        refine wpAnyH_take (i := 5) (v := ?v2055) HO.out.2.2.2.2.2.1 (by kernel_rfl) (by kernel_rfl) (by kernel_rfl) (fun _ _ _ h => h) (Or.inl ⟨by rfl, ?hy2055⟩) (by assumption) ?rest2055
        case hy2055 => (intro w1 hSw; (try dsimp only at hSw); obtain ⟨h0, h1, -⟩ := hSw; go_simp; try with_reducible rfl)
        try simp only [Act.put, List.setIfInBounds_toArray, List.set_cons_zero, List.set_cons_succ]
        refine wpAnyH_take (i := 6) (v := ?v2056) HO.out.2.2.2.2.2.2.1 (by kernel_rfl) (by kernel_rfl) (by kernel_rfl) (fun _ _ _ h => h) (Or.inl ⟨by rfl, ?hy2056⟩) (by assumption) ?rest2056
        case hy2056 => (intro w1 hSw; (try dsimp only at hSw); obtain ⟨h0, h1, -⟩ := hSw; go_simp; try with_reducible rfl)
        try simp only [Act.put, List.setIfInBounds_toArray, List.set_cons_zero, List.set_cons_succ]
        refine wpAnyH_take (i := 7) (v := ?v2057) HO.out.2.2.2.2.2.2.2.1 (by kernel_rfl) (by kernel_rfl) (by kernel_rfl) (fun _ _ _ h => h) (Or.inl ⟨by rfl, ?hy2057⟩) (by assumption) ?rest2057
        case hy2057 => (intro w1 hSw; (try dsimp only at hSw); obtain ⟨h0, h1, -⟩ := hSw; go_simp; try with_reducible rfl)
        try simp only [Act.put, List.setIfInBounds_toArray, List.set_cons_zero, List.set_cons_succ]
        refine wpAnyH_take (i := 8) (v := ?v2058) HO.out.2.2.2.2.2.2.2.2.1 (by kernel_rfl) (by kernel_rfl) (by kernel_rfl) (fun _ _ _ h => h) (Or.inl ⟨by rfl, ?hy2058⟩) (by assumption) ?rest2058
        case hy2058 => (intro w1 hSw; (try dsimp only at hSw); obtain ⟨h0, h1, -⟩ := hSw; go_simp; try with_reducible rfl)
        try simp only [Act.put, List.setIfInBounds_toArray, List.set_cons_zero, List.set_cons_succ]
        refine wpAnyH_ready (rs := [11]) (by kernel_rfl) (by simp) ?_
        refine AllReadyH.cons HO.out.2.2.2.2.2.2.2.2.2.2.2.1 (fun K hK => ?_) AllReadyH.nil
        rw [if_pos (by rfl)]
        refine wp_store_cl _ _ Cl.zero ((Cl.new d).set ⟨ua, ta, tc, ul, true, 0⟩ 1) w659.heap.size rfl (by rfl) (by rfl) PC ?_
        intro w725 p726 j727
        have mv728 := j727.blk (Blk.ne R1 PC (by decide)) R1
        have mv729 := j727.ts PC (cl_no _ _) TN
        have mv730 := LOW.trans (j727.below LE718.out)
        have mv731 := LS.trans (j727.below LE719.out)
        have mv732 := LR.trans (j727.below LE720.out)
        replace R1 := mv728
        replace TN := mv729
        replace LOW := mv730
        replace LS := mv731
        replace LR := mv732
        replace PC := p726
        try clear hHeld
        refine hK.out _ _ (⟨(HS.out.1.later LS).cell 0, (HS.out.1.later LS).cell 1, trivial⟩) (fun hHeld => ?_)
        clear hK K
        simp only [Act.put]
        refine wpAnyH_ready (rs := [12]) (by kernel_rfl) (by simp) ?_
        refine AllReadyH.cons HO.out.2.2.2.2.2.2.2.2.2.2.2.2.1 (fun K hK => ?_) AllReadyH.nil
        rw [if_pos (by rfl)]
        refine wp_store_rq _ _ w406.heap.size rfl (by rfl) (by rfl) R1 rfl (by rfl) (by first | (simp [Value.oneCell']; done) | simp [rq, Value.oneCell']) ?_
        intro w733 p734 j735
        have mv736 := j735.blk (Blk.ne PC R1 (by decide)) PC
        have mv737 := j735.ts R1 (rq0_no neN) TN
        have mv738 := LOW.trans (j735.below LE662.out)
        have mv739 := LS.trans (j735.below LE663.out)
        have mv740 := LR.trans (j735.below LE664.out)
        replace PC := mv736
        replace TN := mv737
        replace LOW := mv738
        replace LS := mv739
        replace LR := mv740
        replace R1 := p734
        try clear hHeld
        refine hK.out _ _ (⟨(HS.out.1.later LS).cell 0, (HS.out.1.later LS).cell 1, trivial⟩) (fun hHeld => ?_)
        clear hK K
        simp only [Act.put]
        refine wpAnyH_take (i := 13) (v := ?v2059) HO.out.2.2.2.2.2.2.2.2.2.2.2.2.2 (by kernel_rfl) (by kernel_rfl) (by kernel_rfl) (fun _ _ _ h => h) (Or.inl ⟨by rfl, ?hy2059⟩) (by assumption) ?rest2059
        case hy2059 => (intro w1 hSw; (try dsimp only at hSw); obtain ⟨h0, h1, -⟩ := hSw; go_simp; try with_reducible rfl)
        try simp only [Act.put, List.setIfInBounds_toArray, List.set_cons_zero, List.set_cons_succ]
        refine wpAnyH_done (by kernel_rfl) ?_ _
        go_wp2_with fail
        go_meet
        exact ⟨_, rfl, _, _, ta, tc, a1, n1, c1, a2, n2, c2, a3, c3, rfl, rfl, rfl, PC, R1, TN, LOW, LS, LR⟩
      case rest =>
      clear LOW LS LR
      obtain ⟨wz741, hwz, B1, B2, ta, tc, a1, n1, c1, a2, n2, c2, a3, c3, rfl, rfl, rfl, PC, R1, TN, LOW, LS, LR⟩ := hcut
      subst hwz
      have s0 := (HS.out.1.later LS).cell 0
      have s1 := (HS.out.1.later LS).cell 1
      simp only [List.getElem?_toArray, List.getElem?_cons_zero, List.getElem?_cons_succ] at s0 s1
      have LE745 := Lib.hid LOW.size
      have LE746 := Lib.hid LS.size
      have LE747 := Lib.hid LR.size
      obtain ⟨w742, hw743, hb744, QN⟩ := alloc_new wz741 #[.string ⟨#[110, 101, 119, 47, 120]⟩] 9
      replace PC := PC.later hb744
      replace R1 := R1.later hb744
      replace TN := TN.later hb744
      replace LOW := LOW.trans (hb744.mono LOW.size)
      replace LS := LS.trans (hb744.mono LS.size)
      replace LR := LR.trans (hb744.mono LR.size)
      clear hb744
      have HW748 := Lib.hid hw743
      clear hw743
      have TA : TsAt w742 _ [newX] := ts_block (l := [newX]) QN (by decide) rfl
      clear QN
      go_wp2_with (first | rw [HW748.out])
      refine (add_any (aa := ua) (HS.out.2.1.later LS) TA (new_fit HFi.out.2.2.1 HFi.out.2.2.2.1) HU.out.1).mono ?_
      rintro e w749 ⟨na, nc, rfl, TM, hb750⟩
      replace PC := PC.later hb750
      replace R1 := R1.later hb750
      replace TN := TN.later hb750
      replace LOW := LOW.trans (hb750.mono LOW.size)
      replace LS := LS.trans (hb750.mono LS.size)
      replace LR := LR.trans (hb750.mono LR.size)
      clear hb750
      dsimp only
      clear TA s0 s1
      have LE754 := Lib.hid LOW.size
      have LE755 := Lib.hid LS.size
      have LE756 := Lib.hid LR.size
      obtain ⟨w751, hw752, hb753, PM⟩ := alloc_new w749 #[.bool sa, .slice na sl.length nc] 26
      replace PC := PC.later hb753
      replace R1 := R1.later hb753
      replace TN := TN.later hb753
      replace TM := TM.later hb753
      replace LOW := LOW.trans (hb753.mono LOW.size)
      replace LS := LS.trans (hb753.mono LS.size)
      replace LR := LR.trans (hb753.mono LR.size)
      clear hb753
      have HW757 := Lib.hid hw752
      clear hw752
      have m0 := PM.cell 0
      have m1 := PM.cell 1
      simp only [List.getElem?_toArray, List.getElem?_cons_zero, List.getElem?_cons_succ] at m0 m1
      go_wp2_with (first | rw [HW757.out] | (refine wpList_load_cl _ ((Cl.new d).set ⟨ua, ta, tc, ul, true, 0⟩ 1) B1 rfl rfl (by rfl) PC ?_; simp only [Act.put, List.setIfInBounds_toArray, List.set_cons_zero, List.set_cons_succ]))
      clear m0 m1
      refine (ask_more_ok (x := ((Cl.new d).set ⟨ua, ta, tc, ul, true, 0⟩ 1)) (d := d) (n := N) (hs := hvL ms') rfl HFi.out.2.2.2.2 HFi.out.2.2.1 HFi.out.2.2.2.1 (by omega) HU.out.2.2 HU.out.1 rfl rfl rfl TN TM (HH.out.1.later LR) HH.out.2.1).mono ?_
      rintro e w758 ⟨X2, q2, a4, n4, c4, a5, n5, c5, a6, c6, rfl, hb759⟩
      replace PC := PC.later hb759
      replace R1 := R1.later hb759
      replace PM := PM.later hb759
      replace TN := TN.later hb759
      replace TM := TM.later hb759
      replace LOW := LOW.trans (hb759.mono LOW.size)
      replace LS := LS.trans (hb759.mono LS.size)
      replace LR := LR.trans (hb759.mono LR.size)
      clear hb759
      dsimp only
      clear TM PM TN PC
      have LE763 := Lib.hid LOW.size
      have LE764 := Lib.hid LS.size
      have LE765 := Lib.hid LR.size
      obtain ⟨w760, hw761, hb762, PD⟩ := alloc_new w758 Cl.zero.arr CT
      replace hw761 : w758.alloc (.cells #[.bool false, .bool false, .slice none 0 0, .bool false, .int .u64 0, .bool false, .slice none 0 0, .bool false, .int .u64 0, .bool false, .slice none 0 0, .bool false, .int .u64 0, .bool false, .slice none 0 0, .bool false, .int .u64 0, .bool false, .slice none 0 0, .bool false, .int .u64 0, .bool false, .slice none 0 0, .bool false, .int .u64 0] CT) = w760 := hw761
      replace R1 := R1.later hb762
      replace LOW := LOW.trans (hb762.mono LOW.size)
      replace LS := LS.trans (hb762.mono LS.size)
      replace LR := LR.trans (hb762.mono LR.size)
      clear hb762
      have HW766 := Lib.hid hw761
      clear hw761
      have NE770 := Lib.hid (Nat.ne_of_lt R1.lt)
      have LE771 := Lib.hid LOW.size
      have LE772 := Lib.hid LS.size
      have LE773 := Lib.hid LR.size
      obtain ⟨w767, hw768, hb769, R4⟩ := alloc_new w760 rq0 RT
      replace R1 := R1.later hb769
      replace PD := PD.later hb769
      replace LOW := LOW.trans (hb769.mono LOW.size)
      replace LS := LS.trans (hb769.mono LS.size)
      replace LR := LR.trans (hb769.mono LR.size)
      clear hb769
      have HW774 := Lib.hid hw768
      clear hw768
      cases d with
      | false =>
        obtain rfl : MM = 0 := by have := HMM.out; simpa using this.symm
        go_wp2_with (first | rw [HW766.out] | rw [HW774.out] | (refine wpList_store_cl _ _ Cl.zero X2 w758.heap.size rfl rfl (by rfl) (by rfl) PD ?_; intro w775 p776 j777; have mv778 := j777.blk (Blk.ne R1 PD (by decide)) R1; have mv779 := j777.blk (Blk.ne R4 PD (by decide)) R4; have mv780 := LOW.trans (j777.below LE763.out); have mv781 := LS.trans (j777.below LE764.out); have mv782 := LR.trans (j777.below LE765.out); replace R1 := mv778; replace R4 := mv779; replace LOW := mv780; replace LS := mv781; replace LR := mv782; replace PD := p776; simp only [Act.put]) | (refine wpList_store_rq _ _ w760.heap.size rfl rfl (by rfl) (by rfl) R4 rfl (by rfl) (by first | (simp [Value.oneCell']; done) | simp [rq, Value.oneCell']) ?_; intro w783 p784 j785; have mv786 := j785.blk NE770.out R1; have mv787 := j785.blk (Blk.ne PD R4 (by decide)) PD; have mv788 := LOW.trans (j785.below LE771.out); have mv789 := LS.trans (j785.below LE772.out); have mv790 := LR.trans (j785.below LE773.out); replace R1 := mv786; replace PD := mv787; replace LOW := mv788; replace LS := mv789; replace LR := mv790; replace R4 := p784; simp only [Act.put]; have x0 : w783.cell? ⟨B2, 0, none⟩ = some (.int .i64 ((1 : Nat) : Int)) := R1.cell 0; have x1 : w783.cell? ⟨B2, 1, none⟩ = some (.bool false) := R1.cell 1; have x5 : w783.cell? ⟨B2, 5, none⟩ = some (.slice a3 0 c3) := R1.cell 5; have y5 : w783.cell? ⟨w760.heap.size, 5, none⟩ = some (.slice a6 0 c6) := R4.cell 5))
        go_ret
        exact ⟨rfl, LOW⟩
      | true =>
        obtain rfl : MM = M := by have := HMM.out; simpa using this.symm
        go_wp2_with (first | rw [HW766.out] | rw [HW774.out] | (refine wpList_store_cl _ _ Cl.zero X2 w758.heap.size rfl rfl (by rfl) (by rfl) PD ?_; intro w775 p776 j777; have mv778 := j777.blk (Blk.ne R1 PD (by decide)) R1; have mv779 := j777.blk (Blk.ne R4 PD (by decide)) R4; have mv780 := LOW.trans (j777.below LE763.out); have mv781 := LS.trans (j777.below LE764.out); have mv782 := LR.trans (j777.below LE765.out); replace R1 := mv778; replace R4 := mv779; replace LOW := mv780; replace LS := mv781; replace LR := mv782; replace PD := p776; simp only [Act.put]) | (refine wpList_store_rq _ _ w760.heap.size rfl rfl (by rfl) (by rfl) R4 rfl (by rfl) (by first | (simp [Value.oneCell']; done) | simp [rq, Value.oneCell']) ?_; intro w783 p784 j785; have mv786 := j785.blk NE770.out R1; have mv787 := j785.blk (Blk.ne PD R4 (by decide)) PD; have mv788 := LOW.trans (j785.below LE771.out); have mv789 := LS.trans (j785.below LE772.out); have mv790 := LR.trans (j785.below LE773.out); replace R1 := mv786; replace PD := mv787; replace LOW := mv788; replace LS := mv789; replace LR := mv790; replace R4 := p784; simp only [Act.put]; have x0 : w783.cell? ⟨B2, 0, none⟩ = some (.int .i64 ((1 : Nat) : Int)) := R1.cell 0; have x1 : w783.cell? ⟨B2, 1, none⟩ = some (.bool true) := R1.cell 1; have x5 : w783.cell? ⟨B2, 5, none⟩ = some (.slice a3 MM c3) := R1.cell 5; have y5 : w783.cell? ⟨w760.heap.size, 5, none⟩ = some (.slice a6 0 c6) := R4.cell 5))
        go_ret
        exact ⟨rfl, LOW⟩
end Go.Proofs.YtdcfdcjgheijcaaGreatDoor
