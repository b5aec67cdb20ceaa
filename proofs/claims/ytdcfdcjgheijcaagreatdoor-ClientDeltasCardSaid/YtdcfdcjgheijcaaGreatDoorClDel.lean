/- ClientDeltas: the walk. -/
import Derived.Test.YtdcfdcjgheijcaaGreatDoorClSet
import Derived.Test.YtdcfdcjgheijcaaGreatDoorClReqR
import Derived.Test.YtdcfdcjgheijcaaGreatDoorNmAdd
import Derived.Test.YtdcfdcjgheijcaaGreatDoorNmSame
namespace Go.Proofs.YtdcfdcjgheijcaaGreatDoor
open Go.RowKit Go.Lib

/-- A client whose second topic is such. -/
abbrev dC (d o aa : Bool) (ta : Option Addr) (tc : Nat) (al : List (List UInt8)) : Cl := (Cl.new d).set ⟨aa, ta, tc, al, o, 0⟩ 2
theorem ask_dC_ok {d aa ua o : Bool} {al ul S U : List (List UInt8)} {ta a : Option Addr} {tc c : Nat} {w : World} (hr : Real ⟨ua, ul⟩) (hf : NmFit ul) (hl : ul.length ≤ 12) (hfa : NmFit al) (hla : al.length ≤ 12) (hB : (o && nSame ⟨aa, al⟩ ⟨ua, ul⟩) = false)
    (hS : turnS d ⟨ua, ul⟩ ⟨aa, al⟩ = S) (hU : turnU d ⟨ua, ul⟩ ⟨aa, al⟩ = U) (hT : TsAt w (.slice ta al.length tc) al) (hw : TsAt w (.slice a ul.length c) ul) :
    Calls Tryz.prog 25 #[(dC d o aa ta tc al).v, .int .i64 2, .agg #[.bool ua, .slice a ul.length c], .slice none 0 0] w fun e w' => ∃ tb td a1 c1 a2 c2 a3 c3, e = .returned (.tuple #[(dC d true ua tb td ul).v, .agg (rq 2 d 0 (.slice a1 S.length c1) (.slice a2 U.length c2) (.slice a3 0 c3) ⟨#[]⟩), .int .i64 0]) ∧ TsAt w' (.slice tb ul.length td) ul ∧ TsAt w' (.slice a1 S.length c1) S ∧ TsAt w' (.slice a2 U.length c2) U ∧ Below w.heap.size w w' :=
  ask_two_ok (x := dC d o aa ta tc al) rfl rfl hr hf hl hfa hla hB hS hU hT hw
theorem ask_dC_no {d aa ua o : Bool} {al ul : List (List UInt8)} {ta a : Option Addr} {tc c : Nat} {w : World} (hr : Real ⟨ua, ul⟩) (hf : NmFit ul) (hl : ul.length ≤ 12) (hfa : NmFit al) (hla : al.length ≤ 12) (hB : (o && nSame ⟨aa, al⟩ ⟨ua, ul⟩) = true)
    (hT : TsAt w (.slice ta al.length tc) al) (hw : TsAt w (.slice a ul.length c) ul) (hg : Ge w) :
    Calls Tryz.prog 25 #[(dC d o aa ta tc al).v, .int .i64 2, .agg #[.bool ua, .slice a ul.length c], .slice none 0 0] w fun e w' => e = .returned (.tuple #[(dC d o aa ta tc al).v, .agg rq0, .int .i64 5]) ∧ Below w.heap.size w w' :=
  ask_two_no (x := dC d o aa ta tc al) rfl hr hf hl hfa hla hB hT hw hg
theorem right_ne {x : List UInt8} (h : x = [42] ∨ okN x = true) : x ≠ [] := by
  rcases h with rfl | h
  · decide
  · exact ok_ne h
theorem list_fit2 {s : Ns} (h : NmFit s.ns) (hl : s.ns.length ≤ 12) : NmFit (nList s) := by
  have h1 := nlist_len s
  refine ⟨fun x hx => ?_, by omega⟩
  unfold nList at hx
  rcases List.mem_append.1 hx with hx | hx
  · split at hx
    · obtain rfl := List.mem_singleton.1 hx; decide
    · cases hx
  · exact h.1 x hx
theorem less_fit2 {a b : Ns} (h : NmFit a.ns) (hl : a.ns.length ≤ 12) : NmFit (nLess a b).ns ∧ (nLess a b).ns.length ≤ 12 := by
  have l : (nLess a b).ns.length ≤ a.ns.length := Nat.le_trans (srt_len _) (List.length_filter_le _ _)
  exact ⟨⟨fun x hx => h.1 x ((mem_less a b x).1 hx).1, by omega⟩, by omega⟩
/-- What is said is more and less of one set than of another. -/
theorem turn_facts {aa ua : Bool} {al ul S U : List (List UInt8)} (hrA : Real ⟨aa, al⟩) (hrU : Real ⟨ua, ul⟩) (hfA : NmFit al) (hfU : NmFit ul) (hlA : al.length ≤ 12) (hlU : ul.length ≤ 12) (hS : turnS true ⟨ua, ul⟩ ⟨aa, al⟩ = S) (hU : turnU true ⟨ua, ul⟩ ⟨aa, al⟩ = U) :
    S.length ≤ 13 ∧ U.length ≤ 13 ∧ (∀ x ∈ S, x = [42] ∨ okN x = true) ∧ (∀ x ∈ U, x = [42] ∨ okN x = true) ∧ AddFit al S ∧ ∃ na nl, nUnion [⟨aa, al⟩, nOf okN S] = ⟨na, nl⟩ ∧ AddFit nl U ∧ nLess ⟨na, nl⟩ (nOf okN U) = ⟨ua, ul⟩ := by
  have eS : nList (nLess ⟨ua, ul⟩ ⟨aa, al⟩) = S := hS
  have eU : nList (nLess ⟨aa, al⟩ ⟨ua, ul⟩) = U := hU
  have r1 : Real (nLess ⟨ua, ul⟩ ⟨aa, al⟩) := real_less hrU
  have r2 : Real (nLess ⟨aa, al⟩ ⟨ua, ul⟩) := real_less hrA
  obtain ⟨f1, l1⟩ := less_fit2 (a := ⟨ua, ul⟩) (b := ⟨aa, al⟩) hfU hlU
  obtain ⟨f2, l2⟩ := less_fit2 (a := ⟨aa, al⟩) (b := ⟨ua, ul⟩) hfA hlA
  have n1 := nlist_len (nLess ⟨ua, ul⟩ ⟨aa, al⟩)
  have n2 := nlist_len (nLess ⟨aa, al⟩ ⟨ua, ul⟩)
  have hd := delta_step hrA hrU
  have fS := list_fit2 f1 l1
  have fU := list_fit2 f2 l2
  have oS := list_right r1
  have oU := list_right r2
  rw [eS] at n1 hd fS oS
  rw [eU] at n2 hd fU oU
  have sl : S.length ≤ 13 := by omega
  have ulen : U.length ≤ 13 := by omega
  obtain ⟨na, nl, hn⟩ : ∃ na nl, nUnion [⟨aa, al⟩, nOf okN S] = ⟨na, nl⟩ := ⟨_, _, rfl⟩
  rw [hn] at hd
  have en : nl = srt (([⟨aa, al⟩, nOf okN S] : List Ns).flatMap (·.ns)) := (congrArg Ns.ns hn).symm
  have hoS : (nOf okN S).ns.length ≤ S.length := Nat.le_trans (srt_len _) (List.length_filter_le _ _)
  have hnl : nl.length ≤ 25 := by
    rw [en]
    refine Nat.le_trans (srt_len _) ?_
    simp only [List.flatMap_cons, List.flatMap_nil, List.append_nil, List.length_append]
    omega
  have fn : NmFit nl := ⟨fun s hs => by
    have : s ∈ (nUnion [⟨aa, al⟩, nOf okN S]).ns := by rw [hn]; exact hs
    rcases (mem_union2 _ _ _).1 this with h | h
    · exact hfA.1 s h
    · exact fS.1 s ((mem_of okN S s).1 h).1, by omega⟩
  exact ⟨sl, ulen, oS, oU, ⟨hfA, fS, by omega⟩, na, nl, hn, ⟨fn, fU, by omega⟩, hd⟩
set_option maxRecDepth 100000 in
set_option maxHeartbeats 16000000 in
theorem del_walk (a : Option Addr) (n c : Nat) (LL : List (List Nat)) {b : Addr} {w : World} (hn : Gn b w) (hg : Ge w) (hin : BssIn w a LL) (hl : LL.length = n) (hnn : n ≤ 9223372036854775807) :
    Calls Tryz.prog 8 #[.slice a n c] w fun e w' => e = .returned (.bool true) ∧ Below w.heap.size w w' := by
  have LOW : Below w.heap.size w w := Below.refl _ _
  have HG := Lib.hid (And.intro hn (And.intro hg (And.intro hin hl)))
  clear hn hg hin hl
  go_enter Tryz.func8, Tryz.ntmps8
  go_wp2_with fail
  refine (cl_examples HG.out.1 HG.out.2.1).mono ?_
  rintro e w1 ⟨rfl, hb2⟩
  replace LOW := LOW.trans (hb2.mono LOW.size)
  clear hb2
  dsimp only
  go_wp2_with fail
  refine (new_any true _).mono ?_
  rintro e w3 ⟨rfl, hb4⟩
  replace LOW := LOW.trans (hb4.mono LOW.size)
  clear hb4
  dsimp only
  have LE8 := Lib.hid LOW.size
  obtain ⟨w5, hw6, hb7, PC⟩ := alloc_new w3 Cl.zero.arr CT
  replace hw6 : w3.alloc (.cells #[.bool false, .bool false, .slice none 0 0, .bool false, .int .u64 0, .bool false, .slice none 0 0, .bool false, .int .u64 0, .bool false, .slice none 0 0, .bool false, .int .u64 0, .bool false, .slice none 0 0, .bool false, .int .u64 0, .bool false, .slice none 0 0, .bool false, .int .u64 0, .bool false, .slice none 0 0, .bool false, .int .u64 0] CT) = w5 := hw6
  replace LOW := LOW.trans (hb7.mono LOW.size)
  clear hb7
  have HW9 := Lib.hid hw6
  clear hw6
  go_wp2_with (first | rw [HW9.out] | (refine wpList_store_cl _ _ Cl.zero (Cl.new true) w3.heap.size rfl rfl (by rfl) (by rfl) PC ?_; intro w10 p11 j12; have mv13 := LOW.trans (j12.below LE8.out); replace LOW := mv13; replace PC := p11; simp only [Act.put]))
  refine (new_any false _).mono ?_
  rintro e w14 ⟨rfl, hb15⟩
  replace PC := PC.later hb15
  replace LOW := LOW.trans (hb15.mono LOW.size)
  clear hb15
  dsimp only
  have NE19 := Lib.hid (Nat.ne_of_lt PC.lt)
  have LE20 := Lib.hid LOW.size
  obtain ⟨w16, hw17, hb18, PW⟩ := alloc_new w14 Cl.zero.arr CT
  replace hw17 : w14.alloc (.cells #[.bool false, .bool false, .slice none 0 0, .bool false, .int .u64 0, .bool false, .slice none 0 0, .bool false, .int .u64 0, .bool false, .slice none 0 0, .bool false, .int .u64 0, .bool false, .slice none 0 0, .bool false, .int .u64 0, .bool false, .slice none 0 0, .bool false, .int .u64 0, .bool false, .slice none 0 0, .bool false, .int .u64 0] CT) = w16 := hw17
  replace PC := PC.later hb18
  replace LOW := LOW.trans (hb18.mono LOW.size)
  clear hb18
  have HW21 := Lib.hid hw17
  clear hw17
  go_wp2_with (first | rw [HW21.out] | (refine wpList_store_cl _ _ Cl.zero (Cl.new false) w14.heap.size rfl rfl (by rfl) (by rfl) PW ?_; intro w22 p23 j24; have mv25 := j24.blk NE19.out PC; have mv26 := LOW.trans (j24.below LE20.out); replace PC := mv25; replace LOW := mv26; replace PW := p23; simp only [Act.put]; have LE30 := Lib.hid LOW.size; obtain ⟨w27, hw28, hb29, PA⟩ := alloc_new w22 #[.bool false, .slice none 0 0] ST; replace PC := PC.later hb29; replace PW := PW.later hb29; replace LOW := LOW.trans (hb29.mono LOW.size); clear hb29; have HW31 := Lib.hid hw28; clear hw28) | rw [HW31.out] | (refine wpList_store_set _ _ w22.heap.size rfl rfl (by rfl) (by rfl) PA rfl (by rfl) (by simp [Value.oneCell']) ?_; intro w32 p33 j34; have mv35 := j34.blk (Blk.ne PC PA (by decide)) PC; have mv36 := j34.blk (Blk.ne PW PA (by decide)) PW; have mv37 := LOW.trans (j34.below LE30.out); replace PC := mv35; replace PW := mv36; replace LOW := mv37; replace PA := p33; simp only [Act.put]))
  have HZ : Real ⟨false, []⟩ := ⟨fun x hx => (List.not_mem_nil hx).elim, (List.Pairwise.nil : Rises [])⟩
  go_loopw [7] (fun i wr => ∃ j : Nat, j ≤ n ∧ j ≤ 10 ∧ i = .int .i64 j ∧ ∃ (aa : Bool) (al : List (List UInt8)) (ta sa ra : Option Addr) (tc sc rc : Nat), Real ⟨aa, al⟩ ∧ NmFit al ∧ al.length ≤ 12 ∧ Blk wr w3.heap.size (dC true (decide (0 < j)) aa ta tc al).arr CT ∧ Blk wr w14.heap.size (dC false (decide (0 < j)) aa sa sc al).arr CT ∧ Blk wr w22.heap.size #[.bool aa, .slice ra al.length rc] ST ∧ TsAt wr (.slice ta al.length tc) al ∧ TsAt wr (.slice sa al.length sc) al ∧ TsAt wr (.slice ra al.length rc) al ∧ Below w.heap.size w wr) (fun i _ => n - (RowKit.intOf i).toNat)
  case atStart => exact ⟨0, Nat.zero_le _, Nat.zero_le _, rfl, false, [], none, none, none, 0, 0, 0, HZ, nm_nil, by decide, PC, PW, PA, RowV.nil _ _ _ (Nat.zero_le _), RowV.nil _ _ _ (Nat.zero_le _), RowV.nil _ _ _ (Nat.zero_le _), LOW⟩
  case round =>
    clear PC PW PA LOW HZ
    obtain ⟨j, hj, hj10, rfl, aa, al, ta, sa, ra, tc, sc, rc, hrA, hfA, hlA, PC, PW, PA, TC, TW, TA, LOW⟩ := hrel
    by_cases hlt : j < n
    · by_cases hlt2 : j < 10
      · obtain ⟨ms, hx⟩ : ∃ ms, LL[j]? = some ms := ⟨_, List.getElem?_eq_getElem (by have := HG.out.2.2.2; omega)⟩
        obtain ⟨g, off, a', c', rfl, hgl, hcell, hbi, hml, hmb⟩ := HG.out.2.2.1 j ms hx
        have d1 : wr.cell? ⟨g, off + j, none⟩ = some (.slice a' ms.length c') := (LOW.cell (p := ⟨g, _, none⟩) hgl).trans hcell
        have BI := hbi.later LOW
        have b0 : (0 : Int) ≤ (j : Int) := by omega
        have b1 : (j : Int) < (n : Int) := by omega
        have b2 : (j : Int) < 10 := by omega
        obtain ⟨ua, ul, hof⟩ : ∃ ua ul, nOf okN (nmcL ms 12) = ⟨ua, ul⟩ := ⟨_, _, rfl⟩
        have hfit := nmc_fit ms 12 (by omega)
        have hff := of_fit hfit hof
        have hlU : ul.length ≤ 12 := Nat.le_trans hff.2 (nmc_len ms 12)
        have hrU : Real ⟨ua, ul⟩ := by rw [← hof]; exact real_of _
        have neA : ∀ x ∈ al, x ≠ [] := fun x hx => ok_ne (hrA.ok x hx)
        have neN : ∀ x ∈ ul, x ≠ [] := of_ne hof
        obtain ⟨o, ho⟩ : ∃ o, decide (0 < j) = o := ⟨_, rfl⟩
        rw [ho] at PC PW
        obtain ⟨S1, hS1⟩ : ∃ S1, turnS true ⟨ua, ul⟩ ⟨aa, al⟩ = S1 := ⟨_, rfl⟩
        obtain ⟨U1, hU1⟩ : ∃ U1, turnU true ⟨ua, ul⟩ ⟨aa, al⟩ = U1 := ⟨_, rfl⟩
        obtain ⟨S2, hS2⟩ : ∃ S2, nList ⟨ua, ul⟩ = S2 := ⟨_, rfl⟩
        obtain ⟨s1l, u1l, s1o, u1o, fit1, na, nl, hun, fit2, hle⟩ := turn_facts hrA hrU hfA hff.1 hlA hlU hS1 hU1
        have neS : ∀ x ∈ S1, x ≠ [] := fun x hx => right_ne (s1o x hx)
        have neU : ∀ x ∈ U1, x ≠ [] := fun x hx => right_ne (u1o x hx)
        have neE : ∀ x ∈ ([] : List (List UInt8)), x ≠ [] := fun x hx => by cases hx
        have s2o : ∀ x ∈ S2, x = [42] ∨ okN x = true := by rw [← hS2]; exact list_right hrU
        have neT : ∀ x ∈ S2, x ≠ [] := fun x hx => right_ne (s2o x hx)
        have s2l : S2.length ≤ 13 := by have h := nlist_len ⟨ua, ul⟩; rw [hS2] at h; simp only at h; omega
        have s2f : NmFit S2 := by rw [← hS2]; exact list_fit2 hff.1 hlU
        have s2f' : nOf okN S2 = ⟨ua, ul⟩ := by rw [← hS2]; exact hrU.list
        have QA := Lib.hid (And.intro hrA (And.intro hfA hlA))
        have QU := Lib.hid (And.intro hrU (And.intro hff.1 (And.intro hlU (And.intro hof hfit))))
        have QS := Lib.hid (And.intro hS1 (And.intro hU1 hS2))
        have QR := Lib.hid (And.intro s1o (And.intro u1o (And.intro s2o (And.intro s2f s2f'))))
        have QN := Lib.hid (And.intro fit1 (And.intro hun (And.intro fit2 hle)))
        have QL := Lib.hid (And.intro s1l (And.intro u1l s2l))
        have QO := Lib.hid ho
        clear hrA hfA hlA hrU hff hlU hof hfit hS1 hU1 hS2 s1l u1l s1o u1o fit1 hun fit2 hle s2o s2l s2f s2f' ho hx hcell hgl hbi
        go_wp2_with fail
        refine (few10_any BI rfl hml (m := 12) (by decide) hmb).mono ?_
        rintro e w38 ⟨fa, fc, rfl, FO, hb39⟩
        replace PC := PC.later hb39
        replace PW := PW.later hb39
        replace PA := PA.later hb39
        replace TC := TC.later hb39
        replace TW := TW.later hb39
        replace TA := TA.later hb39
        replace BI := BI.later hb39
        replace LOW := LOW.trans (hb39.mono LOW.size)
        clear hb39
        dsimp only
        have TF : TsAt w38 _ (nmcL ms 12) := RowV.own FO
        clear FO BI hml hmb d1
        go_wp2_with fail
        refine (of_any TF QU.out.2.2.2.2 QU.out.2.2.2.1).mono ?_
        rintro e w40 ⟨oa, oc, rfl, TO, hb41⟩
        replace PC := PC.later hb41
        replace PW := PW.later hb41
        replace PA := PA.later hb41
        replace TC := TC.later hb41
        replace TW := TW.later hb41
        replace TA := TA.later hb41
        replace LOW := LOW.trans (hb41.mono LOW.size)
        clear hb41
        dsimp only
        clear TF
        have NE45 := Lib.hid (Nat.ne_of_lt PA.lt)
        have LE46 := Lib.hid LOW.size
        obtain ⟨w42, hw43, hb44, P8⟩ := alloc_new w40 #[.bool ua, .slice oa ul.length oc] ST
        replace PC := PC.later hb44
        replace PW := PW.later hb44
        replace PA := PA.later hb44
        replace TC := TC.later hb44
        replace TW := TW.later hb44
        replace TA := TA.later hb44
        replace TO := TO.later hb44
        replace LOW := LOW.trans (hb44.mono LOW.size)
        clear hb44
        have HW47 := Lib.hid hw43
        clear hw43
        go_wp2_with (first | rw [HW47.out] | (refine wpList_load_cl _ (dC true o aa ta tc al) w3.heap.size rfl rfl (by rfl) PC ?_; simp only [Act.put, List.setIfInBounds_toArray, List.set_cons_zero, List.set_cons_succ]) | (refine wpList_load_set _ w40.heap.size rfl rfl (by rfl) P8 rfl ?_; simp only [Act.put, List.setIfInBounds_toArray, List.set_cons_zero, List.set_cons_succ]))
        obtain ⟨B, hB⟩ : ∃ B, (o && nSame ⟨aa, al⟩ ⟨ua, ul⟩) = B := ⟨_, rfl⟩
        cases B with
        | true =>
          obtain ⟨ho1, hsm⟩ : o = true ∧ nSame ⟨aa, al⟩ ⟨ua, ul⟩ = true := by simpa using hB
          subst ho1
          have hj0 : (0 : Int) < (j : Int) := by have := of_decide_eq_true QO.out; omega
          refine (ask_dC_no (d := true) QU.out.1 QU.out.2.1 QU.out.2.2.1 QA.out.2.1 QA.out.2.2 hB TC TO (HG.out.2.1.later LOW)).mono ?_
          rintro e w48 ⟨rfl, hb49⟩
          replace PC := PC.later hb49
          replace PW := PW.later hb49
          replace PA := PA.later hb49
          replace P8 := P8.later hb49
          replace TC := TC.later hb49
          replace TW := TW.later hb49
          replace TA := TA.later hb49
          replace TO := TO.later hb49
          replace LOW := LOW.trans (hb49.mono LOW.size)
          clear hb49
          dsimp only
          have NE53 := Lib.hid (Nat.ne_of_lt PC.lt)
          have NE54 := Lib.hid (Nat.ne_of_lt PW.lt)
          have LE55 := Lib.hid LOW.size
          obtain ⟨w50, hw51, hb52, P9⟩ := alloc_new w48 Cl.zero.arr CT
          replace hw51 : w48.alloc (.cells #[.bool false, .bool false, .slice none 0 0, .bool false, .int .u64 0, .bool false, .slice none 0 0, .bool false, .int .u64 0, .bool false, .slice none 0 0, .bool false, .int .u64 0, .bool false, .slice none 0 0, .bool false, .int .u64 0, .bool false, .slice none 0 0, .bool false, .int .u64 0, .bool false, .slice none 0 0, .bool false, .int .u64 0] CT) = w50 := hw51
          replace PC := PC.later hb52
          replace PW := PW.later hb52
          replace PA := PA.later hb52
          replace P8 := P8.later hb52
          replace TC := TC.later hb52
          replace TW := TW.later hb52
          replace TA := TA.later hb52
          replace TO := TO.later hb52
          replace LOW := LOW.trans (hb52.mono LOW.size)
          clear hb52
          have HW56 := Lib.hid hw51
          clear hw51
          have LE60 := Lib.hid LOW.size
          obtain ⟨w57, hw58, hb59, R10⟩ := alloc_new w50 rq0 RT
          replace PC := PC.later hb59
          replace PW := PW.later hb59
          replace PA := PA.later hb59
          replace P8 := P8.later hb59
          replace P9 := P9.later hb59
          replace TC := TC.later hb59
          replace TW := TW.later hb59
          replace TA := TA.later hb59
          replace TO := TO.later hb59
          replace LOW := LOW.trans (hb59.mono LOW.size)
          clear hb59
          have HW61 := Lib.hid hw58
          clear hw58
          go_wp2_with (first | rw [HW56.out] | rw [HW61.out] | (refine wpList_store_cl _ _ Cl.zero (dC true true aa ta tc al) w48.heap.size rfl rfl (by rfl) (by rfl) P9 ?_; intro w62 p63 j64; have mv65 := j64.blk NE53.out PC; have mv66 := j64.blk NE54.out PW; have mv67 := j64.blk (Blk.ne PA P9 (by decide)) PA; have mv68 := j64.blk (Blk.ne P8 P9 (by decide)) P8; have mv69 := j64.blk (Blk.ne R10 P9 (by decide)) R10; have mv70 := j64.ts P9 (cl_no _ _) TC; have mv71 := j64.ts P9 (cl_no _ _) TW; have mv72 := j64.ts P9 (cl_no _ _) TA; have mv73 := j64.ts P9 (cl_no _ _) TO; have mv74 := LOW.trans (j64.below LE55.out); replace PC := mv65; replace PW := mv66; replace PA := mv67; replace P8 := mv68; replace R10 := mv69; replace TC := mv70; replace TW := mv71; replace TA := mv72; replace TO := mv73; replace LOW := mv74; replace P9 := p63; simp only [Act.put]) | (refine wpList_store_rq _ _ w50.heap.size rfl rfl (by rfl) (by rfl) R10 rfl (by rfl) (by first | (simp [Value.oneCell']; done) | simp [rq, Value.oneCell']) ?_; intro w75 p76 j77; have mv78 := j77.blk (Blk.ne PC R10 (by decide)) PC; have mv79 := j77.blk (Blk.ne PW R10 (by decide)) PW; have mv80 := j77.blk (Blk.ne PA R10 (by decide)) PA; have mv81 := j77.blk (Blk.ne P8 R10 (by decide)) P8; have mv82 := j77.blk (Blk.ne P9 R10 (by decide)) P9; have mv83 := j77.ts R10 (rq0_no neA) TC; have mv84 := j77.ts R10 (rq0_no neA) TW; have mv85 := j77.ts R10 (rq0_no neA) TA; have mv86 := j77.ts R10 (rq0_no neN) TO; have mv87 := LOW.trans (j77.below LE60.out); replace PC := mv78; replace PW := mv79; replace PA := mv80; replace P8 := mv81; replace P9 := mv82; replace TC := mv83; replace TW := mv84; replace TA := mv85; replace TO := mv86; replace LOW := mv87; replace R10 := p76; simp only [Act.put]) | (refine wpList_load_cl _ (dC false true aa sa sc al) w14.heap.size rfl rfl (by rfl) PW ?_; simp only [Act.put, List.setIfInBounds_toArray, List.set_cons_zero, List.set_cons_succ]) | (refine wpList_load_set _ w40.heap.size rfl rfl (by rfl) P8 rfl ?_; simp only [Act.put, List.setIfInBounds_toArray, List.set_cons_zero, List.set_cons_succ]))
          clear R10
          refine (ask_dC_no (d := false) QU.out.1 QU.out.2.1 QU.out.2.2.1 QA.out.2.1 QA.out.2.2 hB TW TO (HG.out.2.1.later LOW)).mono ?_
          rintro e w88 ⟨rfl, hb89⟩
          replace PC := PC.later hb89
          replace PW := PW.later hb89
          replace PA := PA.later hb89
          replace P8 := P8.later hb89
          replace P9 := P9.later hb89
          replace TC := TC.later hb89
          replace TW := TW.later hb89
          replace TA := TA.later hb89
          replace TO := TO.later hb89
          replace LOW := LOW.trans (hb89.mono LOW.size)
          clear hb89
          dsimp only
          have NE93 := Lib.hid (Nat.ne_of_lt PC.lt)
          have NE94 := Lib.hid (Nat.ne_of_lt PW.lt)
          have NE95 := Lib.hid (Nat.ne_of_lt P9.lt)
          have LE96 := Lib.hid LOW.size
          obtain ⟨w90, hw91, hb92, P12⟩ := alloc_new w88 Cl.zero.arr CT
          replace hw91 : w88.alloc (.cells #[.bool false, .bool false, .slice none 0 0, .bool false, .int .u64 0, .bool false, .slice none 0 0, .bool false, .int .u64 0, .bool false, .slice none 0 0, .bool false, .int .u64 0, .bool false, .slice none 0 0, .bool false, .int .u64 0, .bool false, .slice none 0 0, .bool false, .int .u64 0, .bool false, .slice none 0 0, .bool false, .int .u64 0] CT) = w90 := hw91
          replace PC := PC.later hb92
          replace PW := PW.later hb92
          replace PA := PA.later hb92
          replace P8 := P8.later hb92
          replace P9 := P9.later hb92
          replace TC := TC.later hb92
          replace TW := TW.later hb92
          replace TA := TA.later hb92
          replace TO := TO.later hb92
          replace LOW := LOW.trans (hb92.mono LOW.size)
          clear hb92
          have HW97 := Lib.hid hw91
          clear hw91
          have LE101 := Lib.hid LOW.size
          obtain ⟨w98, hw99, hb100, R13⟩ := alloc_new w90 rq0 RT
          replace PC := PC.later hb100
          replace PW := PW.later hb100
          replace PA := PA.later hb100
          replace P8 := P8.later hb100
          replace P9 := P9.later hb100
          replace P12 := P12.later hb100
          replace TC := TC.later hb100
          replace TW := TW.later hb100
          replace TA := TA.later hb100
          replace TO := TO.later hb100
          replace LOW := LOW.trans (hb100.mono LOW.size)
          clear hb100
          have HW102 := Lib.hid hw99
          clear hw99
          go_wp2_with (first | rw [HW97.out] | rw [HW102.out] | (refine wpList_store_cl _ _ Cl.zero (dC false true aa sa sc al) w88.heap.size rfl rfl (by rfl) (by rfl) P12 ?_; intro w103 p104 j105; have mv106 := j105.blk NE93.out PC; have mv107 := j105.blk NE94.out PW; have mv108 := j105.blk (Blk.ne PA P12 (by decide)) PA; have mv109 := j105.blk (Blk.ne P8 P12 (by decide)) P8; have mv110 := j105.blk NE95.out P9; have mv111 := j105.blk (Blk.ne R13 P12 (by decide)) R13; have mv112 := j105.ts P12 (cl_no _ _) TC; have mv113 := j105.ts P12 (cl_no _ _) TW; have mv114 := j105.ts P12 (cl_no _ _) TA; have mv115 := j105.ts P12 (cl_no _ _) TO; have mv116 := LOW.trans (j105.below LE96.out); replace PC := mv106; replace PW := mv107; replace PA := mv108; replace P8 := mv109; replace P9 := mv110; replace R13 := mv111; replace TC := mv112; replace TW := mv113; replace TA := mv114; replace TO := mv115; replace LOW := mv116; replace P12 := p104; simp only [Act.put]) | (refine wpList_store_rq _ _ w90.heap.size rfl rfl (by rfl) (by rfl) R13 rfl (by rfl) (by first | (simp [Value.oneCell']; done) | simp [rq, Value.oneCell']) ?_; intro w117 p118 j119; have mv120 := j119.blk (Blk.ne PC R13 (by decide)) PC; have mv121 := j119.blk (Blk.ne PW R13 (by decide)) PW; have mv122 := j119.blk (Blk.ne PA R13 (by decide)) PA; have mv123 := j119.blk (Blk.ne P8 R13 (by decide)) P8; have mv124 := j119.blk (Blk.ne P9 R13 (by decide)) P9; have mv125 := j119.blk (Blk.ne P12 R13 (by decide)) P12; have mv126 := j119.ts R13 (rq0_no neA) TC; have mv127 := j119.ts R13 (rq0_no neA) TW; have mv128 := j119.ts R13 (rq0_no neA) TA; have mv129 := j119.ts R13 (rq0_no neN) TO; have mv130 := LOW.trans (j119.below LE101.out); replace PC := mv120; replace PW := mv121; replace PA := mv122; replace P8 := mv123; replace P9 := mv124; replace P12 := mv125; replace TC := mv126; replace TW := mv127; replace TA := mv128; replace TO := mv129; replace LOW := mv130; replace R13 := p118; simp only [Act.put]; have x0 : w117.cell? ⟨w22.heap.size, 0, none⟩ = some (.bool aa) := PA.cell 0; have x1 : w117.cell? ⟨w22.heap.size, 1, none⟩ = some (.slice ra al.length rc) := PA.cell 1; have y0 : w117.cell? ⟨w40.heap.size, 0, none⟩ = some (.bool ua) := P8.cell 0; have y1 : w117.cell? ⟨w40.heap.size, 1, none⟩ = some (.slice oa ul.length oc) := P8.cell 1))
          clear R13
          refine (same_any (aa := aa) (ba := ua) TA TO QA.out.2.1 QU.out.2.1 hsm).mono ?_
          rintro e w131 ⟨rfl, hb132⟩
          replace PC := PC.later hb132
          replace PW := PW.later hb132
          replace PA := PA.later hb132
          replace P8 := P8.later hb132
          replace P9 := P9.later hb132
          replace P12 := P12.later hb132
          replace TC := TC.later hb132
          replace TW := TW.later hb132
          replace TA := TA.later hb132
          replace TO := TO.later hb132
          replace LOW := LOW.trans (hb132.mono LOW.size)
          clear hb132
          dsimp only
          go_wp2_with (first | (refine wpList_load_cl _ (dC true true aa ta tc al) w48.heap.size rfl rfl (by rfl) P9 ?_; simp only [Act.put, List.setIfInBounds_toArray, List.set_cons_zero, List.set_cons_succ]) | (refine wpList_store_cl _ _ (dC true true aa ta tc al) (dC true true aa ta tc al) w3.heap.size rfl rfl (by rfl) (by rfl) PC ?_; intro w133 p134 j135; have mv136 := j135.blk NE19.out.symm PW; have mv137 := j135.blk (Blk.ne PA PC (by decide)) PA; have mv138 := j135.blk (Blk.ne P8 PC (by decide)) P8; have mv139 := j135.blk NE53.out.symm P9; have mv140 := j135.blk NE93.out.symm P12; have mv141 := j135.ts PC (cl_no _ _) TC; have mv142 := j135.ts PC (cl_no _ _) TW; have mv143 := j135.ts PC (cl_no _ _) TA; have mv144 := j135.ts PC (cl_no _ _) TO; have mv145 := LOW.trans (j135.below LE8.out); replace PW := mv136; replace PA := mv137; replace P8 := mv138; replace P9 := mv139; replace P12 := mv140; replace TC := mv141; replace TW := mv142; replace TA := mv143; replace TO := mv144; replace LOW := mv145; replace PC := p134; simp only [Act.put]) | (refine wpList_load_cl _ (dC false true aa sa sc al) w88.heap.size rfl rfl (by rfl) P12 ?_; simp only [Act.put, List.setIfInBounds_toArray, List.set_cons_zero, List.set_cons_succ]) | (refine wpList_store_cl _ _ (dC false true aa sa sc al) (dC false true aa sa sc al) w14.heap.size rfl rfl (by rfl) (by rfl) PW ?_; intro w146 p147 j148; have mv149 := j148.blk NE19.out PC; have mv150 := j148.blk (Blk.ne PA PW (by decide)) PA; have mv151 := j148.blk (Blk.ne P8 PW (by decide)) P8; have mv152 := j148.blk NE54.out.symm P9; have mv153 := j148.blk NE94.out.symm P12; have mv154 := j148.ts PW (cl_no _ _) TC; have mv155 := j148.ts PW (cl_no _ _) TW; have mv156 := j148.ts PW (cl_no _ _) TA; have mv157 := j148.ts PW (cl_no _ _) TO; have mv158 := LOW.trans (j148.below LE20.out); replace PC := mv149; replace PA := mv150; replace P8 := mv151; replace P9 := mv152; replace P12 := mv153; replace TC := mv154; replace TW := mv155; replace TA := mv156; replace TO := mv157; replace LOW := mv158; replace PW := p147; simp only [Act.put]))
          go_roundw
          case rel => exact ⟨j + 1, by omega, by omega, by go_num, aa, al, ta, sa, ra, tc, sc, rc, QA.out.1, QA.out.2.1, QA.out.2.2, by rw [show decide (0 < j + 1) = true from decide_eq_true (by omega)]; exact PC, by rw [show decide (0 < j + 1) = true from decide_eq_true (by omega)]; exact PW, PA, TC, TW, TA, LOW⟩
          case measure => simp [RowKit.intOf]; omega
        | false =>
          refine (ask_dC_ok (d := true) (S := S1) (U := U1) QU.out.1 QU.out.2.1 QU.out.2.2.1 QA.out.2.1 QA.out.2.2 hB QS.out.1 QS.out.2.1 TC TO).mono ?_
          rintro e w159 ⟨tb, td, a1, c1, a2, c2, a3, c3, rfl, TB, TS, TU, hb160⟩
          replace PC := PC.later hb160
          replace PW := PW.later hb160
          replace PA := PA.later hb160
          replace P8 := P8.later hb160
          replace TC := TC.later hb160
          replace TW := TW.later hb160
          replace TA := TA.later hb160
          replace TO := TO.later hb160
          replace LOW := LOW.trans (hb160.mono LOW.size)
          clear hb160
          dsimp only
          have NE164 := Lib.hid (Nat.ne_of_lt PC.lt)
          have NE165 := Lib.hid (Nat.ne_of_lt PW.lt)
          have LE166 := Lib.hid LOW.size
          obtain ⟨w161, hw162, hb163, P9⟩ := alloc_new w159 Cl.zero.arr CT
          replace hw162 : w159.alloc (.cells #[.bool false, .bool false, .slice none 0 0, .bool false, .int .u64 0, .bool false, .slice none 0 0, .bool false, .int .u64 0, .bool false, .slice none 0 0, .bool false, .int .u64 0, .bool false, .slice none 0 0, .bool false, .int .u64 0, .bool false, .slice none 0 0, .bool false, .int .u64 0, .bool false, .slice none 0 0, .bool false, .int .u64 0] CT) = w161 := hw162
          replace PC := PC.later hb163
          replace PW := PW.later hb163
          replace PA := PA.later hb163
          replace P8 := P8.later hb163
          replace TC := TC.later hb163
          replace TW := TW.later hb163
          replace TA := TA.later hb163
          replace TO := TO.later hb163
          replace TB := TB.later hb163
          replace TS := TS.later hb163
          replace TU := TU.later hb163
          replace LOW := LOW.trans (hb163.mono LOW.size)
          clear hb163
          have HW167 := Lib.hid hw162
          clear hw162
          have LE171 := Lib.hid LOW.size
          obtain ⟨w168, hw169, hb170, R10⟩ := alloc_new w161 rq0 RT
          replace PC := PC.later hb170
          replace PW := PW.later hb170
          replace PA := PA.later hb170
          replace P8 := P8.later hb170
          replace P9 := P9.later hb170
          replace TC := TC.later hb170
          replace TW := TW.later hb170
          replace TA := TA.later hb170
          replace TO := TO.later hb170
          replace TB := TB.later hb170
          replace TS := TS.later hb170
          replace TU := TU.later hb170
          replace LOW := LOW.trans (hb170.mono LOW.size)
          clear hb170
          have HW172 := Lib.hid hw169
          clear hw169
          go_wp2_with (first | rw [HW167.out] | rw [HW172.out] | (refine wpList_store_cl _ _ Cl.zero (dC true true ua tb td ul) w159.heap.size rfl rfl (by rfl) (by rfl) P9 ?_; intro w173 p174 j175; have mv176 := j175.blk NE164.out PC; have mv177 := j175.blk NE165.out PW; have mv178 := j175.blk (Blk.ne PA P9 (by decide)) PA; have mv179 := j175.blk (Blk.ne P8 P9 (by decide)) P8; have mv180 := j175.blk (Blk.ne R10 P9 (by decide)) R10; have mv181 := j175.ts P9 (cl_no _ _) TC; have mv182 := j175.ts P9 (cl_no _ _) TW; have mv183 := j175.ts P9 (cl_no _ _) TA; have mv184 := j175.ts P9 (cl_no _ _) TO; have mv185 := j175.ts P9 (cl_no _ _) TB; have mv186 := j175.ts P9 (cl_no _ _) TS; have mv187 := j175.ts P9 (cl_no _ _) TU; have mv188 := LOW.trans (j175.below LE166.out); replace PC := mv176; replace PW := mv177; replace PA := mv178; replace P8 := mv179; replace R10 := mv180; replace TC := mv181; replace TW := mv182; replace TA := mv183; replace TO := mv184; replace TB := mv185; replace TS := mv186; replace TU := mv187; replace LOW := mv188; replace P9 := p174; simp only [Act.put]) | (refine wpList_store_rq _ _ w161.heap.size rfl rfl (by rfl) (by rfl) R10 rfl (by rfl) (by first | (simp [Value.oneCell']; done) | simp [rq, Value.oneCell']) ?_; intro w189 p190 j191; have mv192 := j191.blk (Blk.ne PC R10 (by decide)) PC; have mv193 := j191.blk (Blk.ne PW R10 (by decide)) PW; have mv194 := j191.blk (Blk.ne PA R10 (by decide)) PA; have mv195 := j191.blk (Blk.ne P8 R10 (by decide)) P8; have mv196 := j191.blk (Blk.ne P9 R10 (by decide)) P9; have mv197 := j191.ts R10 (rq0_no neA) TC; have mv198 := j191.ts R10 (rq0_no neA) TW; have mv199 := j191.ts R10 (rq0_no neA) TA; have mv200 := j191.ts R10 (rq0_no neN) TO; have mv201 := j191.ts R10 (rq0_no neN) TB; have mv202 := j191.ts R10 (rq0_no neS) TS; have mv203 := j191.ts R10 (rq0_no neU) TU; have mv204 := LOW.trans (j191.below LE171.out); replace PC := mv192; replace PW := mv193; replace PA := mv194; replace P8 := mv195; replace P9 := mv196; replace TC := mv197; replace TW := mv198; replace TA := mv199; replace TO := mv200; replace TB := mv201; replace TS := mv202; replace TU := mv203; replace LOW := mv204; replace R10 := p190; simp only [Act.put]) | (refine wpList_load_cl _ (dC false o aa sa sc al) w14.heap.size rfl rfl (by rfl) PW ?_; simp only [Act.put, List.setIfInBounds_toArray, List.set_cons_zero, List.set_cons_succ]) | (refine wpList_load_set _ w40.heap.size rfl rfl (by rfl) P8 rfl ?_; simp only [Act.put, List.setIfInBounds_toArray, List.set_cons_zero, List.set_cons_succ]))
          refine (ask_dC_ok (d := false) (S := S2) (U := []) QU.out.1 QU.out.2.1 QU.out.2.2.1 QA.out.2.1 QA.out.2.2 hB QS.out.2.2 rfl TW TO).mono ?_
          rintro e w205 ⟨tb2, td2, a4, c4, a5, c5, a6, c6, rfl, TB2, TS2, TU2, hb206⟩
          replace PC := PC.later hb206
          replace PW := PW.later hb206
          replace PA := PA.later hb206
          replace P8 := P8.later hb206
          replace P9 := P9.later hb206
          replace R10 := R10.later hb206
          replace TC := TC.later hb206
          replace TW := TW.later hb206
          replace TA := TA.later hb206
          replace TO := TO.later hb206
          replace TB := TB.later hb206
          replace TS := TS.later hb206
          replace TU := TU.later hb206
          replace LOW := LOW.trans (hb206.mono LOW.size)
          clear hb206
          dsimp only
          have NE210 := Lib.hid (Nat.ne_of_lt PC.lt)
          have NE211 := Lib.hid (Nat.ne_of_lt PW.lt)
          have NE212 := Lib.hid (Nat.ne_of_lt P9.lt)
          have LE213 := Lib.hid LOW.size
          obtain ⟨w207, hw208, hb209, P12⟩ := alloc_new w205 Cl.zero.arr CT
          replace hw208 : w205.alloc (.cells #[.bool false, .bool false, .slice none 0 0, .bool false, .int .u64 0, .bool false, .slice none 0 0, .bool false, .int .u64 0, .bool false, .slice none 0 0, .bool false, .int .u64 0, .bool false, .slice none 0 0, .bool false, .int .u64 0, .bool false, .slice none 0 0, .bool false, .int .u64 0, .bool false, .slice none 0 0, .bool false, .int .u64 0] CT) = w207 := hw208
          replace PC := PC.later hb209
          replace PW := PW.later hb209
          replace PA := PA.later hb209
          replace P8 := P8.later hb209
          replace P9 := P9.later hb209
          replace R10 := R10.later hb209
          replace TC := TC.later hb209
          replace TW := TW.later hb209
          replace TA := TA.later hb209
          replace TO := TO.later hb209
          replace TB := TB.later hb209
          replace TS := TS.later hb209
          replace TU := TU.later hb209
          replace TB2 := TB2.later hb209
          replace TS2 := TS2.later hb209
          replace TU2 := TU2.later hb209
          replace LOW := LOW.trans (hb209.mono LOW.size)
          clear hb209
          have HW214 := Lib.hid hw208
          clear hw208
          have NE218 := Lib.hid (Nat.ne_of_lt R10.lt)
          have LE219 := Lib.hid LOW.size
          obtain ⟨w215, hw216, hb217, R13⟩ := alloc_new w207 rq0 RT
          replace PC := PC.later hb217
          replace PW := PW.later hb217
          replace PA := PA.later hb217
          replace P8 := P8.later hb217
          replace P9 := P9.later hb217
          replace R10 := R10.later hb217
          replace P12 := P12.later hb217
          replace TC := TC.later hb217
          replace TW := TW.later hb217
          replace TA := TA.later hb217
          replace TO := TO.later hb217
          replace TB := TB.later hb217
          replace TS := TS.later hb217
          replace TU := TU.later hb217
          replace TB2 := TB2.later hb217
          replace TS2 := TS2.later hb217
          replace TU2 := TU2.later hb217
          replace LOW := LOW.trans (hb217.mono LOW.size)
          clear hb217
          have HW220 := Lib.hid hw216
          clear hw216
          cases o with
          | false =>
            have hj0 : ¬ (0 : Int) < (j : Int) := by have := of_decide_eq_false QO.out; omega
            go_wp2_with (first | rw [HW214.out] | rw [HW220.out] | (refine wpList_store_cl _ _ Cl.zero (dC false true ua tb2 td2 ul) w205.heap.size rfl rfl (by rfl) (by rfl) P12 ?_; intro w221 p222 j223; have mv224 := j223.blk NE210.out PC; have mv225 := j223.blk NE211.out PW; have mv226 := j223.blk (Blk.ne PA P12 (by decide)) PA; have mv227 := j223.blk (Blk.ne P8 P12 (by decide)) P8; have mv228 := j223.blk NE212.out P9; have mv229 := j223.blk (Blk.ne R10 P12 (by decide)) R10; have mv230 := j223.blk (Blk.ne R13 P12 (by decide)) R13; have mv231 := j223.ts P12 (cl_no _ _) TC; have mv232 := j223.ts P12 (cl_no _ _) TW; have mv233 := j223.ts P12 (cl_no _ _) TA; have mv234 := j223.ts P12 (cl_no _ _) TO; have mv235 := j223.ts P12 (cl_no _ _) TB; have mv236 := j223.ts P12 (cl_no _ _) TS; have mv237 := j223.ts P12 (cl_no _ _) TU; have mv238 := j223.ts P12 (cl_no _ _) TB2; have mv239 := j223.ts P12 (cl_no _ _) TS2; have mv240 := j223.ts P12 (cl_no _ _) TU2; have mv241 := LOW.trans (j223.below LE213.out); replace PC := mv224; replace PW := mv225; replace PA := mv226; replace P8 := mv227; replace P9 := mv228; replace R10 := mv229; replace R13 := mv230; replace TC := mv231; replace TW := mv232; replace TA := mv233; replace TO := mv234; replace TB := mv235; replace TS := mv236; replace TU := mv237; replace TB2 := mv238; replace TS2 := mv239; replace TU2 := mv240; replace LOW := mv241; replace P12 := p222; simp only [Act.put]) | (refine wpList_store_rq _ _ w207.heap.size rfl rfl (by rfl) (by rfl) R13 rfl (by rfl) (by first | (simp [Value.oneCell']; done) | simp [rq, Value.oneCell']) ?_; intro w242 p243 j244; have mv245 := j244.blk (Blk.ne PC R13 (by decide)) PC; have mv246 := j244.blk (Blk.ne PW R13 (by decide)) PW; have mv247 := j244.blk (Blk.ne PA R13 (by decide)) PA; have mv248 := j244.blk (Blk.ne P8 R13 (by decide)) P8; have mv249 := j244.blk (Blk.ne P9 R13 (by decide)) P9; have mv250 := j244.blk NE218.out R10; have mv251 := j244.blk (Blk.ne P12 R13 (by decide)) P12; have mv252 := j244.ts R13 (rq0_no neA) TC; have mv253 := j244.ts R13 (rq0_no neA) TW; have mv254 := j244.ts R13 (rq0_no neA) TA; have mv255 := j244.ts R13 (rq0_no neN) TO; have mv256 := j244.ts R13 (rq0_no neN) TB; have mv257 := j244.ts R13 (rq0_no neS) TS; have mv258 := j244.ts R13 (rq0_no neU) TU; have mv259 := j244.ts R13 (rq0_no neN) TB2; have mv260 := j244.ts R13 (rq0_no neT) TS2; have mv261 := j244.ts R13 (rq0_no neE) TU2; have mv262 := LOW.trans (j244.below LE219.out); replace PC := mv245; replace PW := mv246; replace PA := mv247; replace P8 := mv248; replace P9 := mv249; replace R10 := mv250; replace P12 := mv251; replace TC := mv252; replace TW := mv253; replace TA := mv254; replace TO := mv255; replace TB := mv256; replace TS := mv257; replace TU := mv258; replace TB2 := mv259; replace TS2 := mv260; replace TU2 := mv261; replace LOW := mv262; replace R13 := p243; simp only [Act.put]; have x0 : w242.cell? ⟨w22.heap.size, 0, none⟩ = some (.bool aa) := PA.cell 0; have x1 : w242.cell? ⟨w22.heap.size, 1, none⟩ = some (.slice ra al.length rc) := PA.cell 1; have y0 : w242.cell? ⟨w40.heap.size, 0, none⟩ = some (.bool ua) := P8.cell 0; have y1 : w242.cell? ⟨w40.heap.size, 1, none⟩ = some (.slice oa ul.length oc) := P8.cell 1) | (refine wpList_load_cl _ (dC true true ua tb td ul) w159.heap.size rfl rfl (by rfl) P9 ?_; simp only [Act.put, List.setIfInBounds_toArray, List.set_cons_zero, List.set_cons_succ]) | (refine wpList_store_cl _ _ (dC true false aa ta tc al) (dC true true ua tb td ul) w3.heap.size rfl rfl (by rfl) (by rfl) PC ?_; intro w263 p264 j265; have mv266 := j265.blk NE19.out.symm PW; have mv267 := j265.blk (Blk.ne PA PC (by decide)) PA; have mv268 := j265.blk (Blk.ne P8 PC (by decide)) P8; have mv269 := j265.blk NE164.out.symm P9; have mv270 := j265.blk (Blk.ne R10 PC (by decide)) R10; have mv271 := j265.blk NE210.out.symm P12; have mv272 := j265.blk (Blk.ne R13 PC (by decide)) R13; have mv273 := j265.ts PC (cl_no _ _) TC; have mv274 := j265.ts PC (cl_no _ _) TW; have mv275 := j265.ts PC (cl_no _ _) TA; have mv276 := j265.ts PC (cl_no _ _) TO; have mv277 := j265.ts PC (cl_no _ _) TB; have mv278 := j265.ts PC (cl_no _ _) TS; have mv279 := j265.ts PC (cl_no _ _) TU; have mv280 := j265.ts PC (cl_no _ _) TB2; have mv281 := j265.ts PC (cl_no _ _) TS2; have mv282 := j265.ts PC (cl_no _ _) TU2; have mv283 := LOW.trans (j265.below LE8.out); replace PW := mv266; replace PA := mv267; replace P8 := mv268; replace P9 := mv269; replace R10 := mv270; replace P12 := mv271; replace R13 := mv272; replace TC := mv273; replace TW := mv274; replace TA := mv275; replace TO := mv276; replace TB := mv277; replace TS := mv278; replace TU := mv279; replace TB2 := mv280; replace TS2 := mv281; replace TU2 := mv282; replace LOW := mv283; replace PC := p264; simp only [Act.put]) | (refine wpList_load_cl _ (dC false true ua tb2 td2 ul) w205.heap.size rfl rfl (by rfl) P12 ?_; simp only [Act.put, List.setIfInBounds_toArray, List.set_cons_zero, List.set_cons_succ]) | (refine wpList_store_cl _ _ (dC false false aa sa sc al) (dC false true ua tb2 td2 ul) w14.heap.size rfl rfl (by rfl) (by rfl) PW ?_; intro w284 p285 j286; have mv287 := j286.blk NE19.out PC; have mv288 := j286.blk (Blk.ne PA PW (by decide)) PA; have mv289 := j286.blk (Blk.ne P8 PW (by decide)) P8; have mv290 := j286.blk NE165.out.symm P9; have mv291 := j286.blk (Blk.ne R10 PW (by decide)) R10; have mv292 := j286.blk NE211.out.symm P12; have mv293 := j286.blk (Blk.ne R13 PW (by decide)) R13; have mv294 := j286.ts PW (cl_no _ _) TC; have mv295 := j286.ts PW (cl_no _ _) TW; have mv296 := j286.ts PW (cl_no _ _) TA; have mv297 := j286.ts PW (cl_no _ _) TO; have mv298 := j286.ts PW (cl_no _ _) TB; have mv299 := j286.ts PW (cl_no _ _) TS; have mv300 := j286.ts PW (cl_no _ _) TU; have mv301 := j286.ts PW (cl_no _ _) TB2; have mv302 := j286.ts PW (cl_no _ _) TS2; have mv303 := j286.ts PW (cl_no _ _) TU2; have mv304 := LOW.trans (j286.below LE20.out); replace PC := mv287; replace PA := mv288; replace P8 := mv289; replace P9 := mv290; replace R10 := mv291; replace P12 := mv292; replace R13 := mv293; replace TC := mv294; replace TW := mv295; replace TA := mv296; replace TO := mv297; replace TB := mv298; replace TS := mv299; replace TU := mv300; replace TB2 := mv301; replace TS2 := mv302; replace TU2 := mv303; replace LOW := mv304; replace PW := p285; simp only [Act.put]))
            clear P9 P12 TC TW
            have HO := Lib.hid (show (fun (A : Array Oper) => A[0]? = some { dst := some 78, op := Op.load 26 (Operand.tmp 6), type := 26, pos := "keeps.go:29", after := #[], guard := none } ∧ A[1]? = some { dst := some 79, op := Op.fieldAddr 45 (Operand.tmp 10) 3, type := 0, pos := "keeps.go:29", after := #[], guard := none } ∧ A[2]? = some { dst := some 80, op := Op.load 24 (Operand.tmp 79), type := 24, pos := "keeps.go:29", after := #[{ on := 1, ground := Ground.data }], guard := none } ∧ A[3]? = some { dst := some 81, op := Op.call { callee := Callee.value (Operand.func 27), args := #[Operand.tmp 78, Operand.tmp 80], argTypes := #[26, 24] }, type := 26, pos := "keeps.go:29", after := #[{ on := 0, ground := Ground.data }, { on := 2, ground := Ground.data }], guard := none } ∧ A[4]? = some { dst := some 82, op := Op.fieldAddr 45 (Operand.tmp 10) 4, type := 0, pos := "keeps.go:29", after := #[], guard := none } ∧ A[5]? = some { dst := some 83, op := Op.load 24 (Operand.tmp 82), type := 24, pos := "keeps.go:29", after := #[{ on := 4, ground := Ground.data }], guard := none } ∧ A[6]? = some { dst := some 84, op := Op.call { callee := Callee.value (Operand.func 28), args := #[Operand.tmp 81, Operand.tmp 83], argTypes := #[26, 24] }, type := 26, pos := "keeps.go:29", after := #[{ on := 3, ground := Ground.data }, { on := 5, ground := Ground.data }, { on := 3, ground := Ground.chain }], guard := none } ∧ A[7]? = some { dst := none, op := Op.store 26 (Operand.tmp 6) (Operand.tmp 84), type := 0, pos := "keeps.go:29", after := #[{ on := 6, ground := Ground.data }, { on := 6, ground := Ground.chain }, { on := 0, ground := Ground.phase }, { on := 1, ground := Ground.phase }, { on := 2, ground := Ground.phase }, { on := 3, ground := Ground.phase }, { on := 4, ground := Ground.phase }, { on := 5, ground := Ground.phase }, { on := 6, ground := Ground.phase }], guard := none }) #[{ dst := some 78, op := Op.load 26 (Operand.tmp 6), type := 26, pos := "keeps.go:29", after := #[], guard := none }, { dst := some 79, op := Op.fieldAddr 45 (Operand.tmp 10) 3, type := 0, pos := "keeps.go:29", after := #[], guard := none }, { dst := some 80, op := Op.load 24 (Operand.tmp 79), type := 24, pos := "keeps.go:29", after := #[{ on := 1, ground := Ground.data }], guard := none }, { dst := some 81, op := Op.call { callee := Callee.value (Operand.func 27), args := #[Operand.tmp 78, Operand.tmp 80], argTypes := #[26, 24] }, type := 26, pos := "keeps.go:29", after := #[{ on := 0, ground := Ground.data }, { on := 2, ground := Ground.data }], guard := none }, { dst := some 82, op := Op.fieldAddr 45 (Operand.tmp 10) 4, type := 0, pos := "keeps.go:29", after := #[], guard := none }, { dst := some 83, op := Op.load 24 (Operand.tmp 82), type := 24, pos := "keeps.go:29", after := #[{ on := 4, ground := Ground.data }], guard := none }, { dst := some 84, op := Op.call { callee := Callee.value (Operand.func 28), args := #[Operand.tmp 81, Operand.tmp 83], argTypes := #[26, 24] }, type := 26, pos := "keeps.go:29", after := #[{ on := 3, ground := Ground.data }, { on := 5, ground := Ground.data }, { on := 3, ground := Ground.chain }], guard := none }, { dst := none, op := Op.store 26 (Operand.tmp 6) (Operand.tmp 84), type := 0, pos := "keeps.go:29", after := #[{ on := 6, ground := Ground.data }, { on := 6, ground := Ground.chain }, { on := 0, ground := Ground.phase }, { on := 1, ground := Ground.phase }, { on := 2, ground := Ground.phase }, { on := 3, ground := Ground.phase }, { on := 4, ground := Ground.phase }, { on := 5, ground := Ground.phase }, { on := 6, ground := Ground.phase }], guard := none }] from ⟨by kernel_rfl, by kernel_rfl, by kernel_rfl, by kernel_rfl, by kernel_rfl, by kernel_rfl, by kernel_rfl, by kernel_rfl⟩)
            obtain ⟨w305, hw306, hb307⟩ := drew_new w284
            replace PC := PC.later hb307
            replace PW := PW.later hb307
            replace PA := PA.later hb307
            replace P8 := P8.later hb307
            replace R10 := R10.later hb307
            replace R13 := R13.later hb307
            replace TA := TA.later hb307
            replace TO := TO.later hb307
            replace TB := TB.later hb307
            replace TS := TS.later hb307
            replace TU := TU.later hb307
            replace TB2 := TB2.later hb307
            replace TS2 := TS2.later hb307
            replace TU2 := TU2.later hb307
            replace LOW := LOW.trans (hb307.mono LOW.size)
            refine region_gate (S := (fun w' => Blk w' w22.heap.size #[.bool aa, .slice ra al.length rc] ST ∧ Blk w' w161.heap.size (rq 2 true 0 (.slice a1 S1.length c1) (.slice a2 U1.length c2) (.slice a3 0 c3) ⟨#[]⟩) RT ∧ True)) (z := 7) (by kernel_rfl) ?_
            rw [hw306]
            clear hw306 hb307
            refine gate_load (i := 0) (v := .agg #[.bool aa, .slice ra al.length rc]) HO.out.1 (by decide) (by kernel_rfl) (by kernel_rfl) (by kernel_rfl) (by kernel_rfl) (by kernel_rfl) (fun _ _ _ h => h) (Or.inl ⟨by rfl, fun w1 h0 => ?hy1001⟩) ⟨PA, R10, trivial⟩ ?rest1001
            case hy1001 => (apply exec_load_set; (· rfl); (· rfl); (· exact h0.1); rfl)
            try simp only [Act.put, List.setIfInBounds_toArray, List.set_cons_zero, List.set_cons_succ]
            refine gate_take (i := 1) (v := ?v1002) HO.out.2.1 (by decide) (by kernel_rfl) (by kernel_rfl) (by kernel_rfl) (fun _ _ _ h => h) (Or.inl ⟨by rfl, fun w1 _ => ?hy1002⟩) (fun _ => ⟨PA, R10, trivial⟩) ?rest1002
            case hy1002 => (go_simp; try with_reducible rfl)
            try simp only [Act.put, List.setIfInBounds_toArray, List.set_cons_zero, List.set_cons_succ]
            refine gate_load (i := 2) (v := .slice a1 S1.length c1) HO.out.2.2.1 (by decide) (by kernel_rfl) (by kernel_rfl) (by kernel_rfl) (by kernel_rfl) (by kernel_rfl) (fun _ _ _ h => h) (Or.inl ⟨by rfl, fun w1 h0 => ?hy1003⟩) ⟨PA, R10, trivial⟩ ?rest1003
            case hy1003 => (obtain ⟨-, h1, -⟩ := h0; have hc := h1.cell 3; simp only [List.getElem?_toArray, List.getElem?_cons_zero, List.getElem?_cons_succ] at hc; clear h1; go_simp; try with_reducible rfl)
            try simp only [Act.put, List.setIfInBounds_toArray, List.set_cons_zero, List.set_cons_succ]
            refine gate_take (i := 4) (v := ?v1004) HO.out.2.2.2.2.1 (by decide) (by kernel_rfl) (by kernel_rfl) (by kernel_rfl) (fun _ _ _ h => h) (Or.inl ⟨by rfl, fun w1 _ => ?hy1004⟩) (fun _ => ⟨PA, R10, trivial⟩) ?rest1004
            case hy1004 => (go_simp; try with_reducible rfl)
            try simp only [Act.put, List.setIfInBounds_toArray, List.set_cons_zero, List.set_cons_succ]
            refine gate_load (i := 5) (v := .slice a2 U1.length c2) HO.out.2.2.2.2.2.1 (by decide) (by kernel_rfl) (by kernel_rfl) (by kernel_rfl) (by kernel_rfl) (by kernel_rfl) (fun _ _ _ h => h) (Or.inl ⟨by rfl, fun w1 h0 => ?hy1005⟩) ⟨PA, R10, trivial⟩ ?rest1005
            case hy1005 => (obtain ⟨-, h1, -⟩ := h0; have hc := h1.cell 4; simp only [List.getElem?_toArray, List.getElem?_cons_zero, List.getElem?_cons_succ] at hc; clear h1; go_simp; try with_reducible rfl)
            try simp only [Act.put, List.setIfInBounds_toArray, List.set_cons_zero, List.set_cons_succ]
            refine gate_ready (rs := [3]) (by kernel_rfl) (by simp) ?_
            refine AllGate.cons HO.out.2.2.2.1 (fun K hK => ?_) AllGate.nil
            go_simp
            refine (add_any (aa := aa) TA TS QN.out.1 QN.out.2.1).mono ?_
            rintro e w308 ⟨xa, xc, rfl, TN, hb309⟩
            replace PC := PC.later hb309
            replace PW := PW.later hb309
            replace PA := PA.later hb309
            replace P8 := P8.later hb309
            replace R10 := R10.later hb309
            replace R13 := R13.later hb309
            replace TA := TA.later hb309
            replace TO := TO.later hb309
            replace TB := TB.later hb309
            replace TS := TS.later hb309
            replace TU := TU.later hb309
            replace TB2 := TB2.later hb309
            replace TS2 := TS2.later hb309
            replace TU2 := TU2.later hb309
            replace LOW := LOW.trans (hb309.mono LOW.size)
            clear hb309
            refine hK.out _ _ (fun _ => ⟨PA, R10, trivial⟩) ?_
            clear hK K
            try simp only [Act.put, List.setIfInBounds_toArray, List.set_cons_zero, List.set_cons_succ]
            refine gate_ready (rs := [6]) (by kernel_rfl) (by simp) ?_
            refine AllGate.cons HO.out.2.2.2.2.2.2.1 (fun K hK => ?_) AllGate.nil
            go_simp
            refine (drop_any (aa := na) TN TU QN.out.2.2.1 QN.out.2.2.2).mono ?_
            rintro e w310 ⟨da, dc, rfl, TD, hb311⟩
            replace PC := PC.later hb311
            replace PW := PW.later hb311
            replace PA := PA.later hb311
            replace P8 := P8.later hb311
            replace R10 := R10.later hb311
            replace R13 := R13.later hb311
            replace TA := TA.later hb311
            replace TO := TO.later hb311
            replace TB := TB.later hb311
            replace TS := TS.later hb311
            replace TU := TU.later hb311
            replace TB2 := TB2.later hb311
            replace TS2 := TS2.later hb311
            replace TU2 := TU2.later hb311
            replace TN := TN.later hb311
            replace LOW := LOW.trans (hb311.mono LOW.size)
            clear hb311
            clear TN
            refine hK.out _ _ (fun _ => ⟨PA, R10, trivial⟩) ?_
            clear hK K
            try simp only [Act.put, List.setIfInBounds_toArray, List.set_cons_zero, List.set_cons_succ]
            refine gate_ready (rs := [7]) (by kernel_rfl) (by simp) ?_
            refine AllGate.cons HO.out.2.2.2.2.2.2.2 (fun K hK => ?_) AllGate.nil
            rw [if_pos (by rfl)]
            refine wp_store_set _ _ w22.heap.size rfl (by rfl) (by rfl) PA rfl (by rfl) (by simp [Value.oneCell']) ?_
            intro w312 p313 j314
            have mv315 := j314.blk (Blk.ne PC PA (by decide)) PC
            have mv316 := j314.blk (Blk.ne PW PA (by decide)) PW
            have mv317 := j314.blk NE45.out.symm P8
            have mv318 := j314.blk (Blk.ne R10 PA (by decide)) R10
            have mv319 := j314.blk (Blk.ne R13 PA (by decide)) R13
            have mv320 := j314.ts PA (set_no _ _ _ _ _) TA
            have mv321 := j314.ts PA (set_no _ _ _ _ _) TO
            have mv322 := j314.ts PA (set_no _ _ _ _ _) TB
            have mv323 := j314.ts PA (set_no _ _ _ _ _) TS
            have mv324 := j314.ts PA (set_no _ _ _ _ _) TU
            have mv325 := j314.ts PA (set_no _ _ _ _ _) TB2
            have mv326 := j314.ts PA (set_no _ _ _ _ _) TS2
            have mv327 := j314.ts PA (set_no _ _ _ _ _) TU2
            have mv328 := j314.ts PA (set_no _ _ _ _ _) TD
            have mv329 := LOW.trans (j314.below LE30.out)
            replace PC := mv315
            replace PW := mv316
            replace P8 := mv317
            replace R10 := mv318
            replace R13 := mv319
            replace TA := mv320
            replace TO := mv321
            replace TB := mv322
            replace TS := mv323
            replace TU := mv324
            replace TB2 := mv325
            replace TS2 := mv326
            replace TU2 := mv327
            replace TD := mv328
            replace LOW := mv329
            replace PA := p313
            refine hK.out _ _ (ahead_off (by kernel_rfl)) ?_
            clear hK K
            refine gate_done (by kernel_rfl) ?_ _
            go_wp2_with fail
            have HO := Lib.hid (show (fun (A : Array Oper) => A[0]? = some { dst := some 85, op := Op.load 26 (Operand.tmp 6), type := 26, pos := "keeps.go:30", after := #[], guard := none } ∧ A[1]? = some { dst := some 86, op := Op.load 26 (Operand.tmp 8), type := 26, pos := "keeps.go:30", after := #[], guard := none } ∧ A[2]? = some { dst := some 87, op := Op.call { callee := Callee.value (Operand.func 26), args := #[Operand.tmp 85, Operand.tmp 86], argTypes := #[26, 26] }, type := 4, pos := "keeps.go:30", after := #[{ on := 0, ground := Ground.data }, { on := 1, ground := Ground.data }], guard := none } ∧ A[3]? = some { dst := some 88, op := Op.unOp UnOp.not 4 (Operand.tmp 87), type := 4, pos := "keeps.go:30", after := #[{ on := 2, ground := Ground.data }], guard := none } ∧ A[4]? = some { dst := some 89, op := Op.move (Operand.tmp 88), type := 4, pos := "keeps.go:30", after := #[{ on := 3, ground := Ground.data }, { on := 2, ground := Ground.chain }], guard := none } ∧ A[5]? = some { dst := some 90, op := Op.fieldAddr 45 (Operand.tmp 13) 3, type := 0, pos := "keeps.go:30", after := #[{ on := 4, ground := Ground.guard }], guard := some (4, false) } ∧ A[6]? = some { dst := some 91, op := Op.load 24 (Operand.tmp 90), type := 24, pos := "keeps.go:30", after := #[{ on := 5, ground := Ground.data }, { on := 4, ground := Ground.guard }], guard := some (4, false) } ∧ A[7]? = some { dst := some 92, op := Op.call { callee := Callee.value (Operand.func 12), args := #[Operand.tmp 91], argTypes := #[24] }, type := 26, pos := "keeps.go:30", after := #[{ on := 6, ground := Ground.data }, { on := 4, ground := Ground.chain }, { on := 4, ground := Ground.guard }], guard := some (4, false) } ∧ A[8]? = some { dst := some 93, op := Op.load 26 (Operand.tmp 8), type := 26, pos := "keeps.go:30", after := #[{ on := 4, ground := Ground.guard }], guard := some (4, false) } ∧ A[9]? = some { dst := some 94, op := Op.call { callee := Callee.value (Operand.func 26), args := #[Operand.tmp 92, Operand.tmp 93], argTypes := #[26, 26] }, type := 4, pos := "keeps.go:30", after := #[{ on := 7, ground := Ground.data }, { on := 8, ground := Ground.data }, { on := 7, ground := Ground.chain }, { on := 4, ground := Ground.guard }], guard := some (4, false) } ∧ A[10]? = some { dst := some 95, op := Op.unOp UnOp.not 4 (Operand.tmp 94), type := 4, pos := "keeps.go:30", after := #[{ on := 9, ground := Ground.data }, { on := 4, ground := Ground.guard }], guard := some (4, false) } ∧ A[11]? = some { dst := some 96, op := Op.pick (Operand.tmp 89) (Operand.const (Value.bool true)) (Operand.tmp 95), type := 4, pos := "keeps.go:30", after := #[{ on := 4, ground := Ground.data }, { on := 10, ground := Ground.data }], guard := none } ∧ A[12]? = some { dst := some 97, op := Op.move (Operand.tmp 96), type := 4, pos := "keeps.go:30", after := #[{ on := 11, ground := Ground.data }, { on := 9, ground := Ground.chain }], guard := none } ∧ A[13]? = some { dst := some 98, op := Op.load 45 (Operand.tmp 10), type := 45, pos := "keeps.go:30", after := #[{ on := 12, ground := Ground.guard }], guard := some (12, false) } ∧ A[14]? = some { dst := some 99, op := Op.call { callee := Callee.value (Operand.func 29), args := #[Operand.tmp 98], argTypes := #[45] }, type := 4, pos := "keeps.go:30", after := #[{ on := 13, ground := Ground.data }, { on := 12, ground := Ground.chain }, { on := 12, ground := Ground.guard }], guard := some (12, false) } ∧ A[15]? = some { dst := some 100, op := Op.unOp UnOp.not 4 (Operand.tmp 99), type := 4, pos := "keeps.go:30", after := #[{ on := 14, ground := Ground.data }, { on := 12, ground := Ground.guard }], guard := some (12, false) } ∧ A[16]? = some { dst := some 101, op := Op.pick (Operand.tmp 97) (Operand.const (Value.bool true)) (Operand.tmp 100), type := 4, pos := "keeps.go:30", after := #[{ on := 12, ground := Ground.data }, { on := 15, ground := Ground.data }], guard := none } ∧ A[17]? = some { dst := some 102, op := Op.move (Operand.tmp 101), type := 4, pos := "keeps.go:30", after := #[{ on := 16, ground := Ground.data }, { on := 14, ground := Ground.chain }], guard := none } ∧ A[18]? = some { dst := some 103, op := Op.load 45 (Operand.tmp 13), type := 45, pos := "keeps.go:30", after := #[{ on := 17, ground := Ground.guard }], guard := some (17, false) } ∧ A[19]? = some { dst := some 104, op := Op.call { callee := Callee.value (Operand.func 29), args := #[Operand.tmp 103], argTypes := #[45] }, type := 4, pos := "keeps.go:30", after := #[{ on := 18, ground := Ground.data }, { on := 17, ground := Ground.chain }, { on := 17, ground := Ground.guard }], guard := some (17, false) } ∧ A[20]? = some { dst := some 105, op := Op.unOp UnOp.not 4 (Operand.tmp 104), type := 4, pos := "keeps.go:30", after := #[{ on := 19, ground := Ground.data }, { on := 17, ground := Ground.guard }], guard := some (17, false) } ∧ A[21]? = some { dst := some 106, op := Op.pick (Operand.tmp 102) (Operand.const (Value.bool true)) (Operand.tmp 105), type := 4, pos := "keeps.go:30", after := #[{ on := 17, ground := Ground.data }, { on := 20, ground := Ground.data }], guard := none }) #[{ dst := some 85, op := Op.load 26 (Operand.tmp 6), type := 26, pos := "keeps.go:30", after := #[], guard := none }, { dst := some 86, op := Op.load 26 (Operand.tmp 8), type := 26, pos := "keeps.go:30", after := #[], guard := none }, { dst := some 87, op := Op.call { callee := Callee.value (Operand.func 26), args := #[Operand.tmp 85, Operand.tmp 86], argTypes := #[26, 26] }, type := 4, pos := "keeps.go:30", after := #[{ on := 0, ground := Ground.data }, { on := 1, ground := Ground.data }], guard := none }, { dst := some 88, op := Op.unOp UnOp.not 4 (Operand.tmp 87), type := 4, pos := "keeps.go:30", after := #[{ on := 2, ground := Ground.data }], guard := none }, { dst := some 89, op := Op.move (Operand.tmp 88), type := 4, pos := "keeps.go:30", after := #[{ on := 3, ground := Ground.data }, { on := 2, ground := Ground.chain }], guard := none }, { dst := some 90, op := Op.fieldAddr 45 (Operand.tmp 13) 3, type := 0, pos := "keeps.go:30", after := #[{ on := 4, ground := Ground.guard }], guard := some (4, false) }, { dst := some 91, op := Op.load 24 (Operand.tmp 90), type := 24, pos := "keeps.go:30", after := #[{ on := 5, ground := Ground.data }, { on := 4, ground := Ground.guard }], guard := some (4, false) }, { dst := some 92, op := Op.call { callee := Callee.value (Operand.func 12), args := #[Operand.tmp 91], argTypes := #[24] }, type := 26, pos := "keeps.go:30", after := #[{ on := 6, ground := Ground.data }, { on := 4, ground := Ground.chain }, { on := 4, ground := Ground.guard }], guard := some (4, false) }, { dst := some 93, op := Op.load 26 (Operand.tmp 8), type := 26, pos := "keeps.go:30", after := #[{ on := 4, ground := Ground.guard }], guard := some (4, false) }, { dst := some 94, op := Op.call { callee := Callee.value (Operand.func 26), args := #[Operand.tmp 92, Operand.tmp 93], argTypes := #[26, 26] }, type := 4, pos := "keeps.go:30", after := #[{ on := 7, ground := Ground.data }, { on := 8, ground := Ground.data }, { on := 7, ground := Ground.chain }, { on := 4, ground := Ground.guard }], guard := some (4, false) }, { dst := some 95, op := Op.unOp UnOp.not 4 (Operand.tmp 94), type := 4, pos := "keeps.go:30", after := #[{ on := 9, ground := Ground.data }, { on := 4, ground := Ground.guard }], guard := some (4, false) }, { dst := some 96, op := Op.pick (Operand.tmp 89) (Operand.const (Value.bool true)) (Operand.tmp 95), type := 4, pos := "keeps.go:30", after := #[{ on := 4, ground := Ground.data }, { on := 10, ground := Ground.data }], guard := none }, { dst := some 97, op := Op.move (Operand.tmp 96), type := 4, pos := "keeps.go:30", after := #[{ on := 11, ground := Ground.data }, { on := 9, ground := Ground.chain }], guard := none }, { dst := some 98, op := Op.load 45 (Operand.tmp 10), type := 45, pos := "keeps.go:30", after := #[{ on := 12, ground := Ground.guard }], guard := some (12, false) }, { dst := some 99, op := Op.call { callee := Callee.value (Operand.func 29), args := #[Operand.tmp 98], argTypes := #[45] }, type := 4, pos := "keeps.go:30", after := #[{ on := 13, ground := Ground.data }, { on := 12, ground := Ground.chain }, { on := 12, ground := Ground.guard }], guard := some (12, false) }, { dst := some 100, op := Op.unOp UnOp.not 4 (Operand.tmp 99), type := 4, pos := "keeps.go:30", after := #[{ on := 14, ground := Ground.data }, { on := 12, ground := Ground.guard }], guard := some (12, false) }, { dst := some 101, op := Op.pick (Operand.tmp 97) (Operand.const (Value.bool true)) (Operand.tmp 100), type := 4, pos := "keeps.go:30", after := #[{ on := 12, ground := Ground.data }, { on := 15, ground := Ground.data }], guard := none }, { dst := some 102, op := Op.move (Operand.tmp 101), type := 4, pos := "keeps.go:30", after := #[{ on := 16, ground := Ground.data }, { on := 14, ground := Ground.chain }], guard := none }, { dst := some 103, op := Op.load 45 (Operand.tmp 13), type := 45, pos := "keeps.go:30", after := #[{ on := 17, ground := Ground.guard }], guard := some (17, false) }, { dst := some 104, op := Op.call { callee := Callee.value (Operand.func 29), args := #[Operand.tmp 103], argTypes := #[45] }, type := 4, pos := "keeps.go:30", after := #[{ on := 18, ground := Ground.data }, { on := 17, ground := Ground.chain }, { on := 17, ground := Ground.guard }], guard := some (17, false) }, { dst := some 105, op := Op.unOp UnOp.not 4 (Operand.tmp 104), type := 4, pos := "keeps.go:30", after := #[{ on := 19, ground := Ground.data }, { on := 17, ground := Ground.guard }], guard := some (17, false) }, { dst := some 106, op := Op.pick (Operand.tmp 102) (Operand.const (Value.bool true)) (Operand.tmp 105), type := 4, pos := "keeps.go:30", after := #[{ on := 17, ground := Ground.data }, { on := 20, ground := Ground.data }], guard := none }] from ⟨by kernel_rfl, by kernel_rfl, by kernel_rfl, by kernel_rfl, by kernel_rfl, by kernel_rfl, by kernel_rfl, by kernel_rfl, by kernel_rfl, by kernel_rfl, by kernel_rfl, by kernel_rfl, by kernel_rfl, by kernel_rfl, by kernel_rfl, by kernel_rfl, by kernel_rfl, by kernel_rfl, by kernel_rfl, by kernel_rfl, by kernel_rfl, by kernel_rfl⟩)
            obtain ⟨w330, hw331, hb332⟩ := drew_new w312
            replace PC := PC.later hb332
            replace PW := PW.later hb332
            replace PA := PA.later hb332
            replace P8 := P8.later hb332
            replace R10 := R10.later hb332
            replace R13 := R13.later hb332
            replace TA := TA.later hb332
            replace TO := TO.later hb332
            replace TB := TB.later hb332
            replace TS := TS.later hb332
            replace TU := TU.later hb332
            replace TB2 := TB2.later hb332
            replace TS2 := TS2.later hb332
            replace TU2 := TU2.later hb332
            replace TD := TD.later hb332
            replace LOW := LOW.trans (hb332.mono LOW.size)
            refine wp_region_held_drew (S := (fun w' => Blk w' w22.heap.size #[.bool ua, .slice da ul.length dc] ST ∧ Blk w' w40.heap.size #[.bool ua, .slice oa ul.length oc] ST ∧ Blk w' w161.heap.size (rq 2 true 0 (.slice a1 S1.length c1) (.slice a2 U1.length c2) (.slice a3 0 c3) ⟨#[]⟩) RT ∧ Blk w' w207.heap.size (rq 2 false 0 (.slice a4 S2.length c4) (.slice a5 0 c5) (.slice a6 0 c6) ⟨#[]⟩) RT ∧ True)) (by kernel_rfl) (by rw [hw331]; exact ⟨PA, P8, R10, R13, trivial⟩) (fun hHeld => ?_)
            rw [hw331] at hHeld ⊢
            clear hw331 hb332
            refine wpAnyH_take (i := 0) (v := .agg #[.bool ua, .slice da ul.length dc]) HO.out.1 (by kernel_rfl) (by kernel_rfl) (by kernel_rfl) (fun _ _ _ h => h) (Or.inl ⟨by rfl, ?hy2001⟩) (by assumption) ?rest2001
            case hy2001 => (intro w1 hSw; (try dsimp only at hSw); obtain ⟨h0, h1, h2, h3, -⟩ := hSw; (apply exec_load_set; (· rfl); (· rfl); (· exact h0); rfl))
            try simp only [Act.put, List.setIfInBounds_toArray, List.set_cons_zero, List.set_cons_succ]
            refine wpAnyH_take (i := 1) (v := .agg #[.bool ua, .slice oa ul.length oc]) HO.out.2.1 (by kernel_rfl) (by kernel_rfl) (by kernel_rfl) (fun _ _ _ h => h) (Or.inl ⟨by rfl, ?hy2002⟩) (by assumption) ?rest2002
            case hy2002 => (intro w1 hSw; (try dsimp only at hSw); obtain ⟨h0, h1, h2, h3, -⟩ := hSw; (apply exec_load_set; (· rfl); (· rfl); (· exact h1); rfl))
            try simp only [Act.put, List.setIfInBounds_toArray, List.set_cons_zero, List.set_cons_succ]
            refine wpAnyH_ready (rs := [2]) (by kernel_rfl) (by simp) ?_
            refine AllReadyH.cons HO.out.2.2.1 (fun K hK => ?_) AllReadyH.nil
            go_simp
            refine (same_any (aa := ua) (ba := ua) TD TO QU.out.2.1 QU.out.2.1 (nSame_self rfl fun _ => Iff.rfl)).mono ?_
            rintro e w333 ⟨rfl, hb334⟩
            replace PC := PC.later hb334
            replace PW := PW.later hb334
            replace PA := PA.later hb334
            replace P8 := P8.later hb334
            replace R10 := R10.later hb334
            replace R13 := R13.later hb334
            replace TA := TA.later hb334
            replace TO := TO.later hb334
            replace TB := TB.later hb334
            replace TS := TS.later hb334
            replace TU := TU.later hb334
            replace TB2 := TB2.later hb334
            replace TS2 := TS2.later hb334
            replace TU2 := TU2.later hb334
            replace TD := TD.later hb334
            replace LOW := LOW.trans (hb334.mono LOW.size)
            clear hb334
            try clear hHeld
            refine hK.out _ _ (⟨PA, P8, R10, R13, trivial⟩) (fun hHeld => ?_)
            clear hK K
            try simp only [Act.put, List.setIfInBounds_toArray, List.set_cons_zero, List.set_cons_succ]
            refine wpAnyH_take (i := 3) (v := ?v2003) HO.out.2.2.2.1 (by kernel_rfl) (by kernel_rfl) (by kernel_rfl) (fun _ _ _ h => h) (Or.inl ⟨by rfl, ?hy2003⟩) (by assumption) ?rest2003
            case hy2003 => (intro w1 hSw; (try dsimp only at hSw); obtain ⟨h0, h1, h2, h3, -⟩ := hSw; go_simp; try with_reducible rfl)
            try simp only [Act.put, List.setIfInBounds_toArray, List.set_cons_zero, List.set_cons_succ]
            refine wpAnyH_take (i := 4) (v := ?v2004) HO.out.2.2.2.2.1 (by kernel_rfl) (by kernel_rfl) (by kernel_rfl) (fun _ _ _ h => h) (Or.inl ⟨by rfl, ?hy2004⟩) (by assumption) ?rest2004
            case hy2004 => (intro w1 hSw; (try dsimp only at hSw); obtain ⟨h0, h1, h2, h3, -⟩ := hSw; go_simp; try with_reducible rfl)
            try simp only [Act.put, List.setIfInBounds_toArray, List.set_cons_zero, List.set_cons_succ]
            refine wpAnyH_take (i := 5) (v := ?v2005) HO.out.2.2.2.2.2.1 (by kernel_rfl) (by kernel_rfl) (by kernel_rfl) (fun _ _ _ h => h) (Or.inl ⟨by rfl, ?hy2005⟩) (by assumption) ?rest2005
            case hy2005 => (intro w1 hSw; (try dsimp only at hSw); obtain ⟨h0, h1, h2, h3, -⟩ := hSw; go_simp; try with_reducible rfl)
            try simp only [Act.put, List.setIfInBounds_toArray, List.set_cons_zero, List.set_cons_succ]
            refine wpAnyH_take (i := 6) (v := .slice a4 S2.length c4) HO.out.2.2.2.2.2.2.1 (by kernel_rfl) (by kernel_rfl) (by kernel_rfl) (fun _ _ _ h => h) (Or.inl ⟨by rfl, ?hy2006⟩) (by assumption) ?rest2006
            case hy2006 => (intro w1 hSw; (try dsimp only at hSw); obtain ⟨h0, h1, h2, h3, -⟩ := hSw; (have hc := h3.cell 3; simp only [List.getElem?_toArray, List.getElem?_cons_zero, List.getElem?_cons_succ] at hc; clear h0 h1 h2 h3; go_simp; try with_reducible rfl))
            try simp only [Act.put, List.setIfInBounds_toArray, List.set_cons_zero, List.set_cons_succ]
            refine wpAnyH_take (i := 8) (v := .agg #[.bool ua, .slice oa ul.length oc]) HO.out.2.2.2.2.2.2.2.2.1 (by kernel_rfl) (by kernel_rfl) (by kernel_rfl) (fun _ _ _ h => h) (Or.inl ⟨by rfl, ?hy2007⟩) (by assumption) ?rest2007
            case hy2007 => (intro w1 hSw; (try dsimp only at hSw); obtain ⟨h0, h1, h2, h3, -⟩ := hSw; (apply exec_load_set; (· rfl); (· rfl); (· exact h1); rfl))
            try simp only [Act.put, List.setIfInBounds_toArray, List.set_cons_zero, List.set_cons_succ]
            refine wpAnyH_ready (rs := [7]) (by kernel_rfl) (by simp) ?_
            refine AllReadyH.cons HO.out.2.2.2.2.2.2.2.1 (fun K hK => ?_) AllReadyH.nil
            go_simp
            refine (of_any TS2 QR.out.2.2.2.1 QR.out.2.2.2.2).mono ?_
            rintro e w335 ⟨ea, ec, rfl, TE, hb336⟩
            replace PC := PC.later hb336
            replace PW := PW.later hb336
            replace PA := PA.later hb336
            replace P8 := P8.later hb336
            replace R10 := R10.later hb336
            replace R13 := R13.later hb336
            replace TA := TA.later hb336
            replace TO := TO.later hb336
            replace TB := TB.later hb336
            replace TS := TS.later hb336
            replace TU := TU.later hb336
            replace TB2 := TB2.later hb336
            replace TS2 := TS2.later hb336
            replace TU2 := TU2.later hb336
            replace TD := TD.later hb336
            replace LOW := LOW.trans (hb336.mono LOW.size)
            clear hb336
            try clear hHeld
            refine hK.out _ _ (⟨PA, P8, R10, R13, trivial⟩) (fun hHeld => ?_)
            clear hK K
            try simp only [Act.put, List.setIfInBounds_toArray, List.set_cons_zero, List.set_cons_succ]
            refine wpAnyH_ready (rs := [9]) (by kernel_rfl) (by simp) ?_
            refine AllReadyH.cons HO.out.2.2.2.2.2.2.2.2.2.1 (fun K hK => ?_) AllReadyH.nil
            go_simp
            refine (same_any (aa := ua) (ba := ua) TE TO QU.out.2.1 QU.out.2.1 (nSame_self rfl fun _ => Iff.rfl)).mono ?_
            rintro e w337 ⟨rfl, hb338⟩
            replace PC := PC.later hb338
            replace PW := PW.later hb338
            replace PA := PA.later hb338
            replace P8 := P8.later hb338
            replace R10 := R10.later hb338
            replace R13 := R13.later hb338
            replace TA := TA.later hb338
            replace TO := TO.later hb338
            replace TB := TB.later hb338
            replace TS := TS.later hb338
            replace TU := TU.later hb338
            replace TB2 := TB2.later hb338
            replace TS2 := TS2.later hb338
            replace TU2 := TU2.later hb338
            replace TD := TD.later hb338
            replace TE := TE.later hb338
            replace LOW := LOW.trans (hb338.mono LOW.size)
            clear hb338
            try clear hHeld
            refine hK.out _ _ (⟨PA, P8, R10, R13, trivial⟩) (fun hHeld => ?_)
            clear hK K
            try simp only [Act.put, List.setIfInBounds_toArray, List.set_cons_zero, List.set_cons_succ]
            refine wpAnyH_take (i := 10) (v := ?v2008) HO.out.2.2.2.2.2.2.2.2.2.2.1 (by kernel_rfl) (by kernel_rfl) (by kernel_rfl) (fun _ _ _ h => h) (Or.inl ⟨by rfl, ?hy2008⟩) (by assumption) ?rest2008
            case hy2008 => (intro w1 hSw; (try dsimp only at hSw); obtain ⟨h0, h1, h2, h3, -⟩ := hSw; go_simp; try with_reducible rfl)
            try simp only [Act.put, List.setIfInBounds_toArray, List.set_cons_zero, List.set_cons_succ]
            refine wpAnyH_take (i := 11) (v := ?v2009) HO.out.2.2.2.2.2.2.2.2.2.2.2.1 (by kernel_rfl) (by kernel_rfl) (by kernel_rfl) (fun _ _ _ h => h) (Or.inl ⟨by rfl, ?hy2009⟩) (by assumption) ?rest2009
            case hy2009 => (intro w1 hSw; (try dsimp only at hSw); obtain ⟨h0, h1, h2, h3, -⟩ := hSw; go_simp; try with_reducible rfl)
            try simp only [Act.put, List.setIfInBounds_toArray, List.set_cons_zero, List.set_cons_succ]
            refine wpAnyH_take (i := 12) (v := ?v2010) HO.out.2.2.2.2.2.2.2.2.2.2.2.2.1 (by kernel_rfl) (by kernel_rfl) (by kernel_rfl) (fun _ _ _ h => h) (Or.inl ⟨by rfl, ?hy2010⟩) (by assumption) ?rest2010
            case hy2010 => (intro w1 hSw; (try dsimp only at hSw); obtain ⟨h0, h1, h2, h3, -⟩ := hSw; go_simp; try with_reducible rfl)
            try simp only [Act.put, List.setIfInBounds_toArray, List.set_cons_zero, List.set_cons_succ]
            refine wpAnyH_take (i := 13) (v := .agg (rq 2 true 0 (.slice a1 S1.length c1) (.slice a2 U1.length c2) (.slice a3 0 c3) ⟨#[]⟩)) HO.out.2.2.2.2.2.2.2.2.2.2.2.2.2.1 (by kernel_rfl) (by kernel_rfl) (by kernel_rfl) (fun _ _ _ h => h) (Or.inl ⟨by rfl, ?hy2011⟩) (by assumption) ?rest2011
            case hy2011 => (intro w1 hSw; (try dsimp only at hSw); obtain ⟨h0, h1, h2, h3, -⟩ := hSw; (apply exec_load_rq; (· rfl); (· rfl); (· exact h2); rfl))
            try simp only [Act.put, List.setIfInBounds_toArray, List.set_cons_zero, List.set_cons_succ]
            refine wpAnyH_ready (rs := [14]) (by kernel_rfl) (by simp) ?_
            refine AllReadyH.cons HO.out.2.2.2.2.2.2.2.2.2.2.2.2.2.2.1 (fun K hK => ?_) AllReadyH.nil
            go_simp
            refine (rightReq_0t (k := 2) (U := U1) (hs := []) ⟨by omega, by omega, TS, TU, HvAt.nil _ _, by have := QL.out; omega, by have := QL.out; omega, by simp, QR.out.1, QR.out.2.1, fun r hr => (by cases hr)⟩ (HG.out.1.later LOW)).mono ?_
            rintro e w339 ⟨rfl, hb340⟩
            replace PC := PC.later hb340
            replace PW := PW.later hb340
            replace PA := PA.later hb340
            replace P8 := P8.later hb340
            replace R10 := R10.later hb340
            replace R13 := R13.later hb340
            replace TA := TA.later hb340
            replace TO := TO.later hb340
            replace TB := TB.later hb340
            replace TS := TS.later hb340
            replace TU := TU.later hb340
            replace TB2 := TB2.later hb340
            replace TS2 := TS2.later hb340
            replace TU2 := TU2.later hb340
            replace TD := TD.later hb340
            replace TE := TE.later hb340
            replace LOW := LOW.trans (hb340.mono LOW.size)
            clear hb340
            try clear hHeld
            refine hK.out _ _ (⟨PA, P8, R10, R13, trivial⟩) (fun hHeld => ?_)
            clear hK K
            try simp only [Act.put, List.setIfInBounds_toArray, List.set_cons_zero, List.set_cons_succ]
            refine wpAnyH_take (i := 15) (v := ?v2012) HO.out.2.2.2.2.2.2.2.2.2.2.2.2.2.2.2.1 (by kernel_rfl) (by kernel_rfl) (by kernel_rfl) (fun _ _ _ h => h) (Or.inl ⟨by rfl, ?hy2012⟩) (by assumption) ?rest2012
            case hy2012 => (intro w1 hSw; (try dsimp only at hSw); obtain ⟨h0, h1, h2, h3, -⟩ := hSw; go_simp; try with_reducible rfl)
            try simp only [Act.put, List.setIfInBounds_toArray, List.set_cons_zero, List.set_cons_succ]
            refine wpAnyH_take (i := 16) (v := ?v2013) HO.out.2.2.2.2.2.2.2.2.2.2.2.2.2.2.2.2.1 (by kernel_rfl) (by kernel_rfl) (by kernel_rfl) (fun _ _ _ h => h) (Or.inl ⟨by rfl, ?hy2013⟩) (by assumption) ?rest2013
            case hy2013 => (intro w1 hSw; (try dsimp only at hSw); obtain ⟨h0, h1, h2, h3, -⟩ := hSw; go_simp; try with_reducible rfl)
            try simp only [Act.put, List.setIfInBounds_toArray, List.set_cons_zero, List.set_cons_succ]
            refine wpAnyH_take (i := 17) (v := ?v2014) HO.out.2.2.2.2.2.2.2.2.2.2.2.2.2.2.2.2.2.1 (by kernel_rfl) (by kernel_rfl) (by kernel_rfl) (fun _ _ _ h => h) (Or.inl ⟨by rfl, ?hy2014⟩) (by assumption) ?rest2014
            case hy2014 => (intro w1 hSw; (try dsimp only at hSw); obtain ⟨h0, h1, h2, h3, -⟩ := hSw; go_simp; try with_reducible rfl)
            try simp only [Act.put, List.setIfInBounds_toArray, List.set_cons_zero, List.set_cons_succ]
            refine wpAnyH_take (i := 18) (v := .agg (rq 2 false 0 (.slice a4 S2.length c4) (.slice a5 0 c5) (.slice a6 0 c6) ⟨#[]⟩)) HO.out.2.2.2.2.2.2.2.2.2.2.2.2.2.2.2.2.2.2.1 (by kernel_rfl) (by kernel_rfl) (by kernel_rfl) (fun _ _ _ h => h) (Or.inl ⟨by rfl, ?hy2015⟩) (by assumption) ?rest2015
            case hy2015 => (intro w1 hSw; (try dsimp only at hSw); obtain ⟨h0, h1, h2, h3, -⟩ := hSw; (apply exec_load_rq; (· rfl); (· rfl); (· exact h3); rfl))
            try simp only [Act.put, List.setIfInBounds_toArray, List.set_cons_zero, List.set_cons_succ]
            refine wpAnyH_ready (rs := [19]) (by kernel_rfl) (by simp) ?_
            refine AllReadyH.cons HO.out.2.2.2.2.2.2.2.2.2.2.2.2.2.2.2.2.2.2.2.1 (fun K hK => ?_) AllReadyH.nil
            go_simp
            refine (rightReq_0f (k := 2) ⟨by omega, by omega, TS2, TU2, HvAt.nil _ _, by have := QL.out; omega, by simp, by simp, QR.out.2.2.1, fun x hx => (by cases hx), fun r hr => (by cases hr)⟩ (HG.out.1.later LOW)).mono ?_
            rintro e w341 ⟨rfl, hb342⟩
            replace PC := PC.later hb342
            replace PW := PW.later hb342
            replace PA := PA.later hb342
            replace P8 := P8.later hb342
            replace R10 := R10.later hb342
            replace R13 := R13.later hb342
            replace TA := TA.later hb342
            replace TO := TO.later hb342
            replace TB := TB.later hb342
            replace TS := TS.later hb342
            replace TU := TU.later hb342
            replace TB2 := TB2.later hb342
            replace TS2 := TS2.later hb342
            replace TU2 := TU2.later hb342
            replace TD := TD.later hb342
            replace TE := TE.later hb342
            replace LOW := LOW.trans (hb342.mono LOW.size)
            clear hb342
            try clear hHeld
            refine hK.out _ _ (⟨PA, P8, R10, R13, trivial⟩) (fun hHeld => ?_)
            clear hK K
            try simp only [Act.put, List.setIfInBounds_toArray, List.set_cons_zero, List.set_cons_succ]
            refine wpAnyH_take (i := 20) (v := ?v2016) HO.out.2.2.2.2.2.2.2.2.2.2.2.2.2.2.2.2.2.2.2.2.1 (by kernel_rfl) (by kernel_rfl) (by kernel_rfl) (fun _ _ _ h => h) (Or.inl ⟨by rfl, ?hy2016⟩) (by assumption) ?rest2016
            case hy2016 => (intro w1 hSw; (try dsimp only at hSw); obtain ⟨h0, h1, h2, h3, -⟩ := hSw; go_simp; try with_reducible rfl)
            try simp only [Act.put, List.setIfInBounds_toArray, List.set_cons_zero, List.set_cons_succ]
            refine wpAnyH_take (i := 21) (v := ?v2017) HO.out.2.2.2.2.2.2.2.2.2.2.2.2.2.2.2.2.2.2.2.2.2 (by kernel_rfl) (by kernel_rfl) (by kernel_rfl) (fun _ _ _ h => h) (Or.inl ⟨by rfl, ?hy2017⟩) (by assumption) ?rest2017
            case hy2017 => (intro w1 hSw; (try dsimp only at hSw); obtain ⟨h0, h1, h2, h3, -⟩ := hSw; go_simp; try with_reducible rfl)
            try simp only [Act.put, List.setIfInBounds_toArray, List.set_cons_zero, List.set_cons_succ]
            refine wpAnyH_done (by kernel_rfl) ?_ _
            go_wp2_with fail
            go_roundw
            case rel => exact ⟨j + 1, by omega, by omega, by go_num, ua, ul, tb, tb2, da, td, td2, dc, QU.out.1, QU.out.2.1, QU.out.2.2.1, by rw [show decide (0 < j + 1) = true from decide_eq_true (by omega)]; exact PC, by rw [show decide (0 < j + 1) = true from decide_eq_true (by omega)]; exact PW, PA, TB, TB2, TD, LOW⟩
            case measure => simp [RowKit.intOf]; omega
          | true =>
            have hj0 : (0 : Int) < (j : Int) := by have := of_decide_eq_true QO.out; omega
            have hsm : nSame ⟨aa, al⟩ ⟨ua, ul⟩ = false := by simpa using hB
            go_wp2_with (first | rw [HW214.out] | rw [HW220.out] | (refine wpList_store_cl _ _ Cl.zero (dC false true ua tb2 td2 ul) w205.heap.size rfl rfl (by rfl) (by rfl) P12 ?_; intro w221 p222 j223; have mv224 := j223.blk NE210.out PC; have mv225 := j223.blk NE211.out PW; have mv226 := j223.blk (Blk.ne PA P12 (by decide)) PA; have mv227 := j223.blk (Blk.ne P8 P12 (by decide)) P8; have mv228 := j223.blk NE212.out P9; have mv229 := j223.blk (Blk.ne R10 P12 (by decide)) R10; have mv230 := j223.blk (Blk.ne R13 P12 (by decide)) R13; have mv231 := j223.ts P12 (cl_no _ _) TC; have mv232 := j223.ts P12 (cl_no _ _) TW; have mv233 := j223.ts P12 (cl_no _ _) TA; have mv234 := j223.ts P12 (cl_no _ _) TO; have mv235 := j223.ts P12 (cl_no _ _) TB; have mv236 := j223.ts P12 (cl_no _ _) TS; have mv237 := j223.ts P12 (cl_no _ _) TU; have mv238 := j223.ts P12 (cl_no _ _) TB2; have mv239 := j223.ts P12 (cl_no _ _) TS2; have mv240 := j223.ts P12 (cl_no _ _) TU2; have mv241 := LOW.trans (j223.below LE213.out); replace PC := mv224; replace PW := mv225; replace PA := mv226; replace P8 := mv227; replace P9 := mv228; replace R10 := mv229; replace R13 := mv230; replace TC := mv231; replace TW := mv232; replace TA := mv233; replace TO := mv234; replace TB := mv235; replace TS := mv236; replace TU := mv237; replace TB2 := mv238; replace TS2 := mv239; replace TU2 := mv240; replace LOW := mv241; replace P12 := p222; simp only [Act.put]) | (refine wpList_store_rq _ _ w207.heap.size rfl rfl (by rfl) (by rfl) R13 rfl (by rfl) (by first | (simp [Value.oneCell']; done) | simp [rq, Value.oneCell']) ?_; intro w242 p243 j244; have mv245 := j244.blk (Blk.ne PC R13 (by decide)) PC; have mv246 := j244.blk (Blk.ne PW R13 (by decide)) PW; have mv247 := j244.blk (Blk.ne PA R13 (by decide)) PA; have mv248 := j244.blk (Blk.ne P8 R13 (by decide)) P8; have mv249 := j244.blk (Blk.ne P9 R13 (by decide)) P9; have mv250 := j244.blk NE218.out R10; have mv251 := j244.blk (Blk.ne P12 R13 (by decide)) P12; have mv252 := j244.ts R13 (rq0_no neA) TC; have mv253 := j244.ts R13 (rq0_no neA) TW; have mv254 := j244.ts R13 (rq0_no neA) TA; have mv255 := j244.ts R13 (rq0_no neN) TO; have mv256 := j244.ts R13 (rq0_no neN) TB; have mv257 := j244.ts R13 (rq0_no neS) TS; have mv258 := j244.ts R13 (rq0_no neU) TU; have mv259 := j244.ts R13 (rq0_no neN) TB2; have mv260 := j244.ts R13 (rq0_no neT) TS2; have mv261 := j244.ts R13 (rq0_no neE) TU2; have mv262 := LOW.trans (j244.below LE219.out); replace PC := mv245; replace PW := mv246; replace PA := mv247; replace P8 := mv248; replace P9 := mv249; replace R10 := mv250; replace P12 := mv251; replace TC := mv252; replace TW := mv253; replace TA := mv254; replace TO := mv255; replace TB := mv256; replace TS := mv257; replace TU := mv258; replace TB2 := mv259; replace TS2 := mv260; replace TU2 := mv261; replace LOW := mv262; replace R13 := p243; simp only [Act.put]; have x0 : w242.cell? ⟨w22.heap.size, 0, none⟩ = some (.bool aa) := PA.cell 0; have x1 : w242.cell? ⟨w22.heap.size, 1, none⟩ = some (.slice ra al.length rc) := PA.cell 1; have y0 : w242.cell? ⟨w40.heap.size, 0, none⟩ = some (.bool ua) := P8.cell 0; have y1 : w242.cell? ⟨w40.heap.size, 1, none⟩ = some (.slice oa ul.length oc) := P8.cell 1))
            refine (same_any (aa := aa) (ba := ua) TA TO QA.out.2.1 QU.out.2.1 hsm).mono ?_
            rintro e w343 ⟨rfl, hb344⟩
            replace PC := PC.later hb344
            replace PW := PW.later hb344
            replace PA := PA.later hb344
            replace P8 := P8.later hb344
            replace P9 := P9.later hb344
            replace R10 := R10.later hb344
            replace P12 := P12.later hb344
            replace R13 := R13.later hb344
            replace TC := TC.later hb344
            replace TW := TW.later hb344
            replace TA := TA.later hb344
            replace TO := TO.later hb344
            replace TB := TB.later hb344
            replace TS := TS.later hb344
            replace TU := TU.later hb344
            replace TB2 := TB2.later hb344
            replace TS2 := TS2.later hb344
            replace TU2 := TU2.later hb344
            replace LOW := LOW.trans (hb344.mono LOW.size)
            clear hb344
            dsimp only
            go_wp2_with (first | (refine wpList_load_cl _ (dC true true ua tb td ul) w159.heap.size rfl rfl (by rfl) P9 ?_; simp only [Act.put, List.setIfInBounds_toArray, List.set_cons_zero, List.set_cons_succ]) | (refine wpList_store_cl _ _ (dC true true aa ta tc al) (dC true true ua tb td ul) w3.heap.size rfl rfl (by rfl) (by rfl) PC ?_; intro w345 p346 j347; have mv348 := j347.blk NE19.out.symm PW; have mv349 := j347.blk (Blk.ne PA PC (by decide)) PA; have mv350 := j347.blk (Blk.ne P8 PC (by decide)) P8; have mv351 := j347.blk NE164.out.symm P9; have mv352 := j347.blk (Blk.ne R10 PC (by decide)) R10; have mv353 := j347.blk NE210.out.symm P12; have mv354 := j347.blk (Blk.ne R13 PC (by decide)) R13; have mv355 := j347.ts PC (cl_no _ _) TC; have mv356 := j347.ts PC (cl_no _ _) TW; have mv357 := j347.ts PC (cl_no _ _) TA; have mv358 := j347.ts PC (cl_no _ _) TO; have mv359 := j347.ts PC (cl_no _ _) TB; have mv360 := j347.ts PC (cl_no _ _) TS; have mv361 := j347.ts PC (cl_no _ _) TU; have mv362 := j347.ts PC (cl_no _ _) TB2; have mv363 := j347.ts PC (cl_no _ _) TS2; have mv364 := j347.ts PC (cl_no _ _) TU2; have mv365 := LOW.trans (j347.below LE8.out); replace PW := mv348; replace PA := mv349; replace P8 := mv350; replace P9 := mv351; replace R10 := mv352; replace P12 := mv353; replace R13 := mv354; replace TC := mv355; replace TW := mv356; replace TA := mv357; replace TO := mv358; replace TB := mv359; replace TS := mv360; replace TU := mv361; replace TB2 := mv362; replace TS2 := mv363; replace TU2 := mv364; replace LOW := mv365; replace PC := p346; simp only [Act.put]) | (refine wpList_load_cl _ (dC false true ua tb2 td2 ul) w205.heap.size rfl rfl (by rfl) P12 ?_; simp only [Act.put, List.setIfInBounds_toArray, List.set_cons_zero, List.set_cons_succ]) | (refine wpList_store_cl _ _ (dC false true aa sa sc al) (dC false true ua tb2 td2 ul) w14.heap.size rfl rfl (by rfl) (by rfl) PW ?_; intro w366 p367 j368; have mv369 := j368.blk NE19.out PC; have mv370 := j368.blk (Blk.ne PA PW (by decide)) PA; have mv371 := j368.blk (Blk.ne P8 PW (by decide)) P8; have mv372 := j368.blk NE165.out.symm P9; have mv373 := j368.blk (Blk.ne R10 PW (by decide)) R10; have mv374 := j368.blk NE211.out.symm P12; have mv375 := j368.blk (Blk.ne R13 PW (by decide)) R13; have mv376 := j368.ts PW (cl_no _ _) TC; have mv377 := j368.ts PW (cl_no _ _) TW; have mv378 := j368.ts PW (cl_no _ _) TA; have mv379 := j368.ts PW (cl_no _ _) TO; have mv380 := j368.ts PW (cl_no _ _) TB; have mv381 := j368.ts PW (cl_no _ _) TS; have mv382 := j368.ts PW (cl_no _ _) TU; have mv383 := j368.ts PW (cl_no _ _) TB2; have mv384 := j368.ts PW (cl_no _ _) TS2; have mv385 := j368.ts PW (cl_no _ _) TU2; have mv386 := LOW.trans (j368.below LE20.out); replace PC := mv369; replace PA := mv370; replace P8 := mv371; replace P9 := mv372; replace R10 := mv373; replace P12 := mv374; replace R13 := mv375; replace TC := mv376; replace TW := mv377; replace TA := mv378; replace TO := mv379; replace TB := mv380; replace TS := mv381; replace TU := mv382; replace TB2 := mv383; replace TS2 := mv384; replace TU2 := mv385; replace LOW := mv386; replace PW := p367; simp only [Act.put]))
            clear P9 P12 TC TW
            have HO := Lib.hid (show (fun (A : Array Oper) => A[0]? = some { dst := some 78, op := Op.load 26 (Operand.tmp 6), type := 26, pos := "keeps.go:29", after := #[], guard := none } ∧ A[1]? = some { dst := some 79, op := Op.fieldAddr 45 (Operand.tmp 10) 3, type := 0, pos := "keeps.go:29", after := #[], guard := none } ∧ A[2]? = some { dst := some 80, op := Op.load 24 (Operand.tmp 79), type := 24, pos := "keeps.go:29", after := #[{ on := 1, ground := Ground.data }], guard := none } ∧ A[3]? = some { dst := some 81, op := Op.call { callee := Callee.value (Operand.func 27), args := #[Operand.tmp 78, Operand.tmp 80], argTypes := #[26, 24] }, type := 26, pos := "keeps.go:29", after := #[{ on := 0, ground := Ground.data }, { on := 2, ground := Ground.data }], guard := none } ∧ A[4]? = some { dst := some 82, op := Op.fieldAddr 45 (Operand.tmp 10) 4, type := 0, pos := "keeps.go:29", after := #[], guard := none } ∧ A[5]? = some { dst := some 83, op := Op.load 24 (Operand.tmp 82), type := 24, pos := "keeps.go:29", after := #[{ on := 4, ground := Ground.data }], guard := none } ∧ A[6]? = some { dst := some 84, op := Op.call { callee := Callee.value (Operand.func 28), args := #[Operand.tmp 81, Operand.tmp 83], argTypes := #[26, 24] }, type := 26, pos := "keeps.go:29", after := #[{ on := 3, ground := Ground.data }, { on := 5, ground := Ground.data }, { on := 3, ground := Ground.chain }], guard := none } ∧ A[7]? = some { dst := none, op := Op.store 26 (Operand.tmp 6) (Operand.tmp 84), type := 0, pos := "keeps.go:29", after := #[{ on := 6, ground := Ground.data }, { on := 6, ground := Ground.chain }, { on := 0, ground := Ground.phase }, { on := 1, ground := Ground.phase }, { on := 2, ground := Ground.phase }, { on := 3, ground := Ground.phase }, { on := 4, ground := Ground.phase }, { on := 5, ground := Ground.phase }, { on := 6, ground := Ground.phase }], guard := none }) #[{ dst := some 78, op := Op.load 26 (Operand.tmp 6), type := 26, pos := "keeps.go:29", after := #[], guard := none }, { dst := some 79, op := Op.fieldAddr 45 (Operand.tmp 10) 3, type := 0, pos := "keeps.go:29", after := #[], guard := none }, { dst := some 80, op := Op.load 24 (Operand.tmp 79), type := 24, pos := "keeps.go:29", after := #[{ on := 1, ground := Ground.data }], guard := none }, { dst := some 81, op := Op.call { callee := Callee.value (Operand.func 27), args := #[Operand.tmp 78, Operand.tmp 80], argTypes := #[26, 24] }, type := 26, pos := "keeps.go:29", after := #[{ on := 0, ground := Ground.data }, { on := 2, ground := Ground.data }], guard := none }, { dst := some 82, op := Op.fieldAddr 45 (Operand.tmp 10) 4, type := 0, pos := "keeps.go:29", after := #[], guard := none }, { dst := some 83, op := Op.load 24 (Operand.tmp 82), type := 24, pos := "keeps.go:29", after := #[{ on := 4, ground := Ground.data }], guard := none }, { dst := some 84, op := Op.call { callee := Callee.value (Operand.func 28), args := #[Operand.tmp 81, Operand.tmp 83], argTypes := #[26, 24] }, type := 26, pos := "keeps.go:29", after := #[{ on := 3, ground := Ground.data }, { on := 5, ground := Ground.data }, { on := 3, ground := Ground.chain }], guard := none }, { dst := none, op := Op.store 26 (Operand.tmp 6) (Operand.tmp 84), type := 0, pos := "keeps.go:29", after := #[{ on := 6, ground := Ground.data }, { on := 6, ground := Ground.chain }, { on := 0, ground := Ground.phase }, { on := 1, ground := Ground.phase }, { on := 2, ground := Ground.phase }, { on := 3, ground := Ground.phase }, { on := 4, ground := Ground.phase }, { on := 5, ground := Ground.phase }, { on := 6, ground := Ground.phase }], guard := none }] from ⟨by kernel_rfl, by kernel_rfl, by kernel_rfl, by kernel_rfl, by kernel_rfl, by kernel_rfl, by kernel_rfl, by kernel_rfl⟩)
            obtain ⟨w387, hw388, hb389⟩ := drew_new w366
            replace PC := PC.later hb389
            replace PW := PW.later hb389
            replace PA := PA.later hb389
            replace P8 := P8.later hb389
            replace R10 := R10.later hb389
            replace R13 := R13.later hb389
            replace TA := TA.later hb389
            replace TO := TO.later hb389
            replace TB := TB.later hb389
            replace TS := TS.later hb389
            replace TU := TU.later hb389
            replace TB2 := TB2.later hb389
            replace TS2 := TS2.later hb389
            replace TU2 := TU2.later hb389
            replace LOW := LOW.trans (hb389.mono LOW.size)
            refine region_gate (S := (fun w' => Blk w' w22.heap.size #[.bool aa, .slice ra al.length rc] ST ∧ Blk w' w161.heap.size (rq 2 true 0 (.slice a1 S1.length c1) (.slice a2 U1.length c2) (.slice a3 0 c3) ⟨#[]⟩) RT ∧ True)) (z := 7) (by kernel_rfl) ?_
            rw [hw388]
            clear hw388 hb389
            refine gate_load (i := 0) (v := .agg #[.bool aa, .slice ra al.length rc]) HO.out.1 (by decide) (by kernel_rfl) (by kernel_rfl) (by kernel_rfl) (by kernel_rfl) (by kernel_rfl) (fun _ _ _ h => h) (Or.inl ⟨by rfl, fun w1 h0 => ?hy3001⟩) ⟨PA, R10, trivial⟩ ?rest3001
            case hy3001 => (apply exec_load_set; (· rfl); (· rfl); (· exact h0.1); rfl)
            try simp only [Act.put, List.setIfInBounds_toArray, List.set_cons_zero, List.set_cons_succ]
            refine gate_take (i := 1) (v := ?v3002) HO.out.2.1 (by decide) (by kernel_rfl) (by kernel_rfl) (by kernel_rfl) (fun _ _ _ h => h) (Or.inl ⟨by rfl, fun w1 _ => ?hy3002⟩) (fun _ => ⟨PA, R10, trivial⟩) ?rest3002
            case hy3002 => (go_simp; try with_reducible rfl)
            try simp only [Act.put, List.setIfInBounds_toArray, List.set_cons_zero, List.set_cons_succ]
            refine gate_load (i := 2) (v := .slice a1 S1.length c1) HO.out.2.2.1 (by decide) (by kernel_rfl) (by kernel_rfl) (by kernel_rfl) (by kernel_rfl) (by kernel_rfl) (fun _ _ _ h => h) (Or.inl ⟨by rfl, fun w1 h0 => ?hy3003⟩) ⟨PA, R10, trivial⟩ ?rest3003
            case hy3003 => (obtain ⟨-, h1, -⟩ := h0; have hc := h1.cell 3; simp only [List.getElem?_toArray, List.getElem?_cons_zero, List.getElem?_cons_succ] at hc; clear h1; go_simp; try with_reducible rfl)
            try simp only [Act.put, List.setIfInBounds_toArray, List.set_cons_zero, List.set_cons_succ]
            refine gate_take (i := 4) (v := ?v3004) HO.out.2.2.2.2.1 (by decide) (by kernel_rfl) (by kernel_rfl) (by kernel_rfl) (fun _ _ _ h => h) (Or.inl ⟨by rfl, fun w1 _ => ?hy3004⟩) (fun _ => ⟨PA, R10, trivial⟩) ?rest3004
            case hy3004 => (go_simp; try with_reducible rfl)
            try simp only [Act.put, List.setIfInBounds_toArray, List.set_cons_zero, List.set_cons_succ]
            refine gate_load (i := 5) (v := .slice a2 U1.length c2) HO.out.2.2.2.2.2.1 (by decide) (by kernel_rfl) (by kernel_rfl) (by kernel_rfl) (by kernel_rfl) (by kernel_rfl) (fun _ _ _ h => h) (Or.inl ⟨by rfl, fun w1 h0 => ?hy3005⟩) ⟨PA, R10, trivial⟩ ?rest3005
            case hy3005 => (obtain ⟨-, h1, -⟩ := h0; have hc := h1.cell 4; simp only [List.getElem?_toArray, List.getElem?_cons_zero, List.getElem?_cons_succ] at hc; clear h1; go_simp; try with_reducible rfl)
            try simp only [Act.put, List.setIfInBounds_toArray, List.set_cons_zero, List.set_cons_succ]
            refine gate_ready (rs := [3]) (by kernel_rfl) (by simp) ?_
            refine AllGate.cons HO.out.2.2.2.1 (fun K hK => ?_) AllGate.nil
            go_simp
            refine (add_any (aa := aa) TA TS QN.out.1 QN.out.2.1).mono ?_
            rintro e w390 ⟨xa, xc, rfl, TN, hb391⟩
            replace PC := PC.later hb391
            replace PW := PW.later hb391
            replace PA := PA.later hb391
            replace P8 := P8.later hb391
            replace R10 := R10.later hb391
            replace R13 := R13.later hb391
            replace TA := TA.later hb391
            replace TO := TO.later hb391
            replace TB := TB.later hb391
            replace TS := TS.later hb391
            replace TU := TU.later hb391
            replace TB2 := TB2.later hb391
            replace TS2 := TS2.later hb391
            replace TU2 := TU2.later hb391
            replace LOW := LOW.trans (hb391.mono LOW.size)
            clear hb391
            refine hK.out _ _ (fun _ => ⟨PA, R10, trivial⟩) ?_
            clear hK K
            try simp only [Act.put, List.setIfInBounds_toArray, List.set_cons_zero, List.set_cons_succ]
            refine gate_ready (rs := [6]) (by kernel_rfl) (by simp) ?_
            refine AllGate.cons HO.out.2.2.2.2.2.2.1 (fun K hK => ?_) AllGate.nil
            go_simp
            refine (drop_any (aa := na) TN TU QN.out.2.2.1 QN.out.2.2.2).mono ?_
            rintro e w392 ⟨da, dc, rfl, TD, hb393⟩
            replace PC := PC.later hb393
            replace PW := PW.later hb393
            replace PA := PA.later hb393
            replace P8 := P8.later hb393
            replace R10 := R10.later hb393
            replace R13 := R13.later hb393
            replace TA := TA.later hb393
            replace TO := TO.later hb393
            replace TB := TB.later hb393
            replace TS := TS.later hb393
            replace TU := TU.later hb393
            replace TB2 := TB2.later hb393
            replace TS2 := TS2.later hb393
            replace TU2 := TU2.later hb393
            replace TN := TN.later hb393
            replace LOW := LOW.trans (hb393.mono LOW.size)
            clear hb393
            clear TN
            refine hK.out _ _ (fun _ => ⟨PA, R10, trivial⟩) ?_
            clear hK K
            try simp only [Act.put, List.setIfInBounds_toArray, List.set_cons_zero, List.set_cons_succ]
            refine gate_ready (rs := [7]) (by kernel_rfl) (by simp) ?_
            refine AllGate.cons HO.out.2.2.2.2.2.2.2 (fun K hK => ?_) AllGate.nil
            rw [if_pos (by rfl)]
            refine wp_store_set _ _ w22.heap.size rfl (by rfl) (by rfl) PA rfl (by rfl) (by simp [Value.oneCell']) ?_
            intro w394 p395 j396
            have mv397 := j396.blk (Blk.ne PC PA (by decide)) PC
            have mv398 := j396.blk (Blk.ne PW PA (by decide)) PW
            have mv399 := j396.blk NE45.out.symm P8
            have mv400 := j396.blk (Blk.ne R10 PA (by decide)) R10
            have mv401 := j396.blk (Blk.ne R13 PA (by decide)) R13
            have mv402 := j396.ts PA (set_no _ _ _ _ _) TA
            have mv403 := j396.ts PA (set_no _ _ _ _ _) TO
            have mv404 := j396.ts PA (set_no _ _ _ _ _) TB
            have mv405 := j396.ts PA (set_no _ _ _ _ _) TS
            have mv406 := j396.ts PA (set_no _ _ _ _ _) TU
            have mv407 := j396.ts PA (set_no _ _ _ _ _) TB2
            have mv408 := j396.ts PA (set_no _ _ _ _ _) TS2
            have mv409 := j396.ts PA (set_no _ _ _ _ _) TU2
            have mv410 := j396.ts PA (set_no _ _ _ _ _) TD
            have mv411 := LOW.trans (j396.below LE30.out)
            replace PC := mv397
            replace PW := mv398
            replace P8 := mv399
            replace R10 := mv400
            replace R13 := mv401
            replace TA := mv402
            replace TO := mv403
            replace TB := mv404
            replace TS := mv405
            replace TU := mv406
            replace TB2 := mv407
            replace TS2 := mv408
            replace TU2 := mv409
            replace TD := mv410
            replace LOW := mv411
            replace PA := p395
            refine hK.out _ _ (ahead_off (by kernel_rfl)) ?_
            clear hK K
            refine gate_done (by kernel_rfl) ?_ _
            go_wp2_with fail
            have HO := Lib.hid (show (fun (A : Array Oper) => A[0]? = some { dst := some 85, op := Op.load 26 (Operand.tmp 6), type := 26, pos := "keeps.go:30", after := #[], guard := none } ∧ A[1]? = some { dst := some 86, op := Op.load 26 (Operand.tmp 8), type := 26, pos := "keeps.go:30", after := #[], guard := none } ∧ A[2]? = some { dst := some 87, op := Op.call { callee := Callee.value (Operand.func 26), args := #[Operand.tmp 85, Operand.tmp 86], argTypes := #[26, 26] }, type := 4, pos := "keeps.go:30", after := #[{ on := 0, ground := Ground.data }, { on := 1, ground := Ground.data }], guard := none } ∧ A[3]? = some { dst := some 88, op := Op.unOp UnOp.not 4 (Operand.tmp 87), type := 4, pos := "keeps.go:30", after := #[{ on := 2, ground := Ground.data }], guard := none } ∧ A[4]? = some { dst := some 89, op := Op.move (Operand.tmp 88), type := 4, pos := "keeps.go:30", after := #[{ on := 3, ground := Ground.data }, { on := 2, ground := Ground.chain }], guard := none } ∧ A[5]? = some { dst := some 90, op := Op.fieldAddr 45 (Operand.tmp 13) 3, type := 0, pos := "keeps.go:30", after := #[{ on := 4, ground := Ground.guard }], guard := some (4, false) } ∧ A[6]? = some { dst := some 91, op := Op.load 24 (Operand.tmp 90), type := 24, pos := "keeps.go:30", after := #[{ on := 5, ground := Ground.data }, { on := 4, ground := Ground.guard }], guard := some (4, false) } ∧ A[7]? = some { dst := some 92, op := Op.call { callee := Callee.value (Operand.func 12), args := #[Operand.tmp 91], argTypes := #[24] }, type := 26, pos := "keeps.go:30", after := #[{ on := 6, ground := Ground.data }, { on := 4, ground := Ground.chain }, { on := 4, ground := Ground.guard }], guard := some (4, false) } ∧ A[8]? = some { dst := some 93, op := Op.load 26 (Operand.tmp 8), type := 26, pos := "keeps.go:30", after := #[{ on := 4, ground := Ground.guard }], guard := some (4, false) } ∧ A[9]? = some { dst := some 94, op := Op.call { callee := Callee.value (Operand.func 26), args := #[Operand.tmp 92, Operand.tmp 93], argTypes := #[26, 26] }, type := 4, pos := "keeps.go:30", after := #[{ on := 7, ground := Ground.data }, { on := 8, ground := Ground.data }, { on := 7, ground := Ground.chain }, { on := 4, ground := Ground.guard }], guard := some (4, false) } ∧ A[10]? = some { dst := some 95, op := Op.unOp UnOp.not 4 (Operand.tmp 94), type := 4, pos := "keeps.go:30", after := #[{ on := 9, ground := Ground.data }, { on := 4, ground := Ground.guard }], guard := some (4, false) } ∧ A[11]? = some { dst := some 96, op := Op.pick (Operand.tmp 89) (Operand.const (Value.bool true)) (Operand.tmp 95), type := 4, pos := "keeps.go:30", after := #[{ on := 4, ground := Ground.data }, { on := 10, ground := Ground.data }], guard := none } ∧ A[12]? = some { dst := some 97, op := Op.move (Operand.tmp 96), type := 4, pos := "keeps.go:30", after := #[{ on := 11, ground := Ground.data }, { on := 9, ground := Ground.chain }], guard := none } ∧ A[13]? = some { dst := some 98, op := Op.load 45 (Operand.tmp 10), type := 45, pos := "keeps.go:30", after := #[{ on := 12, ground := Ground.guard }], guard := some (12, false) } ∧ A[14]? = some { dst := some 99, op := Op.call { callee := Callee.value (Operand.func 29), args := #[Operand.tmp 98], argTypes := #[45] }, type := 4, pos := "keeps.go:30", after := #[{ on := 13, ground := Ground.data }, { on := 12, ground := Ground.chain }, { on := 12, ground := Ground.guard }], guard := some (12, false) } ∧ A[15]? = some { dst := some 100, op := Op.unOp UnOp.not 4 (Operand.tmp 99), type := 4, pos := "keeps.go:30", after := #[{ on := 14, ground := Ground.data }, { on := 12, ground := Ground.guard }], guard := some (12, false) } ∧ A[16]? = some { dst := some 101, op := Op.pick (Operand.tmp 97) (Operand.const (Value.bool true)) (Operand.tmp 100), type := 4, pos := "keeps.go:30", after := #[{ on := 12, ground := Ground.data }, { on := 15, ground := Ground.data }], guard := none } ∧ A[17]? = some { dst := some 102, op := Op.move (Operand.tmp 101), type := 4, pos := "keeps.go:30", after := #[{ on := 16, ground := Ground.data }, { on := 14, ground := Ground.chain }], guard := none } ∧ A[18]? = some { dst := some 103, op := Op.load 45 (Operand.tmp 13), type := 45, pos := "keeps.go:30", after := #[{ on := 17, ground := Ground.guard }], guard := some (17, false) } ∧ A[19]? = some { dst := some 104, op := Op.call { callee := Callee.value (Operand.func 29), args := #[Operand.tmp 103], argTypes := #[45] }, type := 4, pos := "keeps.go:30", after := #[{ on := 18, ground := Ground.data }, { on := 17, ground := Ground.chain }, { on := 17, ground := Ground.guard }], guard := some (17, false) } ∧ A[20]? = some { dst := some 105, op := Op.unOp UnOp.not 4 (Operand.tmp 104), type := 4, pos := "keeps.go:30", after := #[{ on := 19, ground := Ground.data }, { on := 17, ground := Ground.guard }], guard := some (17, false) } ∧ A[21]? = some { dst := some 106, op := Op.pick (Operand.tmp 102) (Operand.const (Value.bool true)) (Operand.tmp 105), type := 4, pos := "keeps.go:30", after := #[{ on := 17, ground := Ground.data }, { on := 20, ground := Ground.data }], guard := none }) #[{ dst := some 85, op := Op.load 26 (Operand.tmp 6), type := 26, pos := "keeps.go:30", after := #[], guard := none }, { dst := some 86, op := Op.load 26 (Operand.tmp 8), type := 26, pos := "keeps.go:30", after := #[], guard := none }, { dst := some 87, op := Op.call { callee := Callee.value (Operand.func 26), args := #[Operand.tmp 85, Operand.tmp 86], argTypes := #[26, 26] }, type := 4, pos := "keeps.go:30", after := #[{ on := 0, ground := Ground.data }, { on := 1, ground := Ground.data }], guard := none }, { dst := some 88, op := Op.unOp UnOp.not 4 (Operand.tmp 87), type := 4, pos := "keeps.go:30", after := #[{ on := 2, ground := Ground.data }], guard := none }, { dst := some 89, op := Op.move (Operand.tmp 88), type := 4, pos := "keeps.go:30", after := #[{ on := 3, ground := Ground.data }, { on := 2, ground := Ground.chain }], guard := none }, { dst := some 90, op := Op.fieldAddr 45 (Operand.tmp 13) 3, type := 0, pos := "keeps.go:30", after := #[{ on := 4, ground := Ground.guard }], guard := some (4, false) }, { dst := some 91, op := Op.load 24 (Operand.tmp 90), type := 24, pos := "keeps.go:30", after := #[{ on := 5, ground := Ground.data }, { on := 4, ground := Ground.guard }], guard := some (4, false) }, { dst := some 92, op := Op.call { callee := Callee.value (Operand.func 12), args := #[Operand.tmp 91], argTypes := #[24] }, type := 26, pos := "keeps.go:30", after := #[{ on := 6, ground := Ground.data }, { on := 4, ground := Ground.chain }, { on := 4, ground := Ground.guard }], guard := some (4, false) }, { dst := some 93, op := Op.load 26 (Operand.tmp 8), type := 26, pos := "keeps.go:30", after := #[{ on := 4, ground := Ground.guard }], guard := some (4, false) }, { dst := some 94, op := Op.call { callee := Callee.value (Operand.func 26), args := #[Operand.tmp 92, Operand.tmp 93], argTypes := #[26, 26] }, type := 4, pos := "keeps.go:30", after := #[{ on := 7, ground := Ground.data }, { on := 8, ground := Ground.data }, { on := 7, ground := Ground.chain }, { on := 4, ground := Ground.guard }], guard := some (4, false) }, { dst := some 95, op := Op.unOp UnOp.not 4 (Operand.tmp 94), type := 4, pos := "keeps.go:30", after := #[{ on := 9, ground := Ground.data }, { on := 4, ground := Ground.guard }], guard := some (4, false) }, { dst := some 96, op := Op.pick (Operand.tmp 89) (Operand.const (Value.bool true)) (Operand.tmp 95), type := 4, pos := "keeps.go:30", after := #[{ on := 4, ground := Ground.data }, { on := 10, ground := Ground.data }], guard := none }, { dst := some 97, op := Op.move (Operand.tmp 96), type := 4, pos := "keeps.go:30", after := #[{ on := 11, ground := Ground.data }, { on := 9, ground := Ground.chain }], guard := none }, { dst := some 98, op := Op.load 45 (Operand.tmp 10), type := 45, pos := "keeps.go:30", after := #[{ on := 12, ground := Ground.guard }], guard := some (12, false) }, { dst := some 99, op := Op.call { callee := Callee.value (Operand.func 29), args := #[Operand.tmp 98], argTypes := #[45] }, type := 4, pos := "keeps.go:30", after := #[{ on := 13, ground := Ground.data }, { on := 12, ground := Ground.chain }, { on := 12, ground := Ground.guard }], guard := some (12, false) }, { dst := some 100, op := Op.unOp UnOp.not 4 (Operand.tmp 99), type := 4, pos := "keeps.go:30", after := #[{ on := 14, ground := Ground.data }, { on := 12, ground := Ground.guard }], guard := some (12, false) }, { dst := some 101, op := Op.pick (Operand.tmp 97) (Operand.const (Value.bool true)) (Operand.tmp 100), type := 4, pos := "keeps.go:30", after := #[{ on := 12, ground := Ground.data }, { on := 15, ground := Ground.data }], guard := none }, { dst := some 102, op := Op.move (Operand.tmp 101), type := 4, pos := "keeps.go:30", after := #[{ on := 16, ground := Ground.data }, { on := 14, ground := Ground.chain }], guard := none }, { dst := some 103, op := Op.load 45 (Operand.tmp 13), type := 45, pos := "keeps.go:30", after := #[{ on := 17, ground := Ground.guard }], guard := some (17, false) }, { dst := some 104, op := Op.call { callee := Callee.value (Operand.func 29), args := #[Operand.tmp 103], argTypes := #[45] }, type := 4, pos := "keeps.go:30", after := #[{ on := 18, ground := Ground.data }, { on := 17, ground := Ground.chain }, { on := 17, ground := Ground.guard }], guard := some (17, false) }, { dst := some 105, op := Op.unOp UnOp.not 4 (Operand.tmp 104), type := 4, pos := "keeps.go:30", after := #[{ on := 19, ground := Ground.data }, { on := 17, ground := Ground.guard }], guard := some (17, false) }, { dst := some 106, op := Op.pick (Operand.tmp 102) (Operand.const (Value.bool true)) (Operand.tmp 105), type := 4, pos := "keeps.go:30", after := #[{ on := 17, ground := Ground.data }, { on := 20, ground := Ground.data }], guard := none }] from ⟨by kernel_rfl, by kernel_rfl, by kernel_rfl, by kernel_rfl, by kernel_rfl, by kernel_rfl, by kernel_rfl, by kernel_rfl, by kernel_rfl, by kernel_rfl, by kernel_rfl, by kernel_rfl, by kernel_rfl, by kernel_rfl, by kernel_rfl, by kernel_rfl, by kernel_rfl, by kernel_rfl, by kernel_rfl, by kernel_rfl, by kernel_rfl, by kernel_rfl⟩)
            obtain ⟨w412, hw413, hb414⟩ := drew_new w394
            replace PC := PC.later hb414
            replace PW := PW.later hb414
            replace PA := PA.later hb414
            replace P8 := P8.later hb414
            replace R10 := R10.later hb414
            replace R13 := R13.later hb414
            replace TA := TA.later hb414
            replace TO := TO.later hb414
            replace TB := TB.later hb414
            replace TS := TS.later hb414
            replace TU := TU.later hb414
            replace TB2 := TB2.later hb414
            replace TS2 := TS2.later hb414
            replace TU2 := TU2.later hb414
            replace TD := TD.later hb414
            replace LOW := LOW.trans (hb414.mono LOW.size)
            refine wp_region_held_drew (S := (fun w' => Blk w' w22.heap.size #[.bool ua, .slice da ul.length dc] ST ∧ Blk w' w40.heap.size #[.bool ua, .slice oa ul.length oc] ST ∧ Blk w' w161.heap.size (rq 2 true 0 (.slice a1 S1.length c1) (.slice a2 U1.length c2) (.slice a3 0 c3) ⟨#[]⟩) RT ∧ Blk w' w207.heap.size (rq 2 false 0 (.slice a4 S2.length c4) (.slice a5 0 c5) (.slice a6 0 c6) ⟨#[]⟩) RT ∧ True)) (by kernel_rfl) (by rw [hw413]; exact ⟨PA, P8, R10, R13, trivial⟩) (fun hHeld => ?_)
            rw [hw413] at hHeld ⊢
            clear hw413 hb414
            refine wpAnyH_take (i := 0) (v := .agg #[.bool ua, .slice da ul.length dc]) HO.out.1 (by kernel_rfl) (by kernel_rfl) (by kernel_rfl) (fun _ _ _ h => h) (Or.inl ⟨by rfl, ?hy4001⟩) (by assumption) ?rest4001
            case hy4001 => (intro w1 hSw; (try dsimp only at hSw); obtain ⟨h0, h1, h2, h3, -⟩ := hSw; (apply exec_load_set; (· rfl); (· rfl); (· exact h0); rfl))
            try simp only [Act.put, List.setIfInBounds_toArray, List.set_cons_zero, List.set_cons_succ]
            refine wpAnyH_take (i := 1) (v := .agg #[.bool ua, .slice oa ul.length oc]) HO.out.2.1 (by kernel_rfl) (by kernel_rfl) (by kernel_rfl) (fun _ _ _ h => h) (Or.inl ⟨by rfl, ?hy4002⟩) (by assumption) ?rest4002
            case hy4002 => (intro w1 hSw; (try dsimp only at hSw); obtain ⟨h0, h1, h2, h3, -⟩ := hSw; (apply exec_load_set; (· rfl); (· rfl); (· exact h1); rfl))
            try simp only [Act.put, List.setIfInBounds_toArray, List.set_cons_zero, List.set_cons_succ]
            refine wpAnyH_ready (rs := [2]) (by kernel_rfl) (by simp) ?_
            refine AllReadyH.cons HO.out.2.2.1 (fun K hK => ?_) AllReadyH.nil
            go_simp
            refine (same_any (aa := ua) (ba := ua) TD TO QU.out.2.1 QU.out.2.1 (nSame_self rfl fun _ => Iff.rfl)).mono ?_
            rintro e w415 ⟨rfl, hb416⟩
            replace PC := PC.later hb416
            replace PW := PW.later hb416
            replace PA := PA.later hb416
            replace P8 := P8.later hb416
            replace R10 := R10.later hb416
            replace R13 := R13.later hb416
            replace TA := TA.later hb416
            replace TO := TO.later hb416
            replace TB := TB.later hb416
            replace TS := TS.later hb416
            replace TU := TU.later hb416
            replace TB2 := TB2.later hb416
            replace TS2 := TS2.later hb416
            replace TU2 := TU2.later hb416
            replace TD := TD.later hb416
            replace LOW := LOW.trans (hb416.mono LOW.size)
            clear hb416
            try clear hHeld
            refine hK.out _ _ (⟨PA, P8, R10, R13, trivial⟩) (fun hHeld => ?_)
            clear hK K
            try simp only [Act.put, List.setIfInBounds_toArray, List.set_cons_zero, List.set_cons_succ]
            refine wpAnyH_take (i := 3) (v := ?v4003) HO.out.2.2.2.1 (by kernel_rfl) (by kernel_rfl) (by kernel_rfl) (fun _ _ _ h => h) (Or.inl ⟨by rfl, ?hy4003⟩) (by assumption) ?rest4003
            case hy4003 => (intro w1 hSw; (try dsimp only at hSw); obtain ⟨h0, h1, h2, h3, -⟩ := hSw; go_simp; try with_reducible rfl)
            try simp only [Act.put, List.setIfInBounds_toArray, List.set_cons_zero, List.set_cons_succ]
            refine wpAnyH_take (i := 4) (v := ?v4004) HO.out.2.2.2.2.1 (by kernel_rfl) (by kernel_rfl) (by kernel_rfl) (fun _ _ _ h => h) (Or.inl ⟨by rfl, ?hy4004⟩) (by assumption) ?rest4004
            case hy4004 => (intro w1 hSw; (try dsimp only at hSw); obtain ⟨h0, h1, h2, h3, -⟩ := hSw; go_simp; try with_reducible rfl)
            try simp only [Act.put, List.setIfInBounds_toArray, List.set_cons_zero, List.set_cons_succ]
            refine wpAnyH_take (i := 5) (v := ?v4005) HO.out.2.2.2.2.2.1 (by kernel_rfl) (by kernel_rfl) (by kernel_rfl) (fun _ _ _ h => h) (Or.inl ⟨by rfl, ?hy4005⟩) (by assumption) ?rest4005
            case hy4005 => (intro w1 hSw; (try dsimp only at hSw); obtain ⟨h0, h1, h2, h3, -⟩ := hSw; go_simp; try with_reducible rfl)
            try simp only [Act.put, List.setIfInBounds_toArray, List.set_cons_zero, List.set_cons_succ]
            refine wpAnyH_take (i := 6) (v := .slice a4 S2.length c4) HO.out.2.2.2.2.2.2.1 (by kernel_rfl) (by kernel_rfl) (by kernel_rfl) (fun _ _ _ h => h) (Or.inl ⟨by rfl, ?hy4006⟩) (by assumption) ?rest4006
            case hy4006 => (intro w1 hSw; (try dsimp only at hSw); obtain ⟨h0, h1, h2, h3, -⟩ := hSw; (have hc := h3.cell 3; simp only [List.getElem?_toArray, List.getElem?_cons_zero, List.getElem?_cons_succ] at hc; clear h0 h1 h2 h3; go_simp; try with_reducible rfl))
            try simp only [Act.put, List.setIfInBounds_toArray, List.set_cons_zero, List.set_cons_succ]
            refine wpAnyH_take (i := 8) (v := .agg #[.bool ua, .slice oa ul.length oc]) HO.out.2.2.2.2.2.2.2.2.1 (by kernel_rfl) (by kernel_rfl) (by kernel_rfl) (fun _ _ _ h => h) (Or.inl ⟨by rfl, ?hy4007⟩) (by assumption) ?rest4007
            case hy4007 => (intro w1 hSw; (try dsimp only at hSw); obtain ⟨h0, h1, h2, h3, -⟩ := hSw; (apply exec_load_set; (· rfl); (· rfl); (· exact h1); rfl))
            try simp only [Act.put, List.setIfInBounds_toArray, List.set_cons_zero, List.set_cons_succ]
            refine wpAnyH_ready (rs := [7]) (by kernel_rfl) (by simp) ?_
            refine AllReadyH.cons HO.out.2.2.2.2.2.2.2.1 (fun K hK => ?_) AllReadyH.nil
            go_simp
            refine (of_any TS2 QR.out.2.2.2.1 QR.out.2.2.2.2).mono ?_
            rintro e w417 ⟨ea, ec, rfl, TE, hb418⟩
            replace PC := PC.later hb418
            replace PW := PW.later hb418
            replace PA := PA.later hb418
            replace P8 := P8.later hb418
            replace R10 := R10.later hb418
            replace R13 := R13.later hb418
            replace TA := TA.later hb418
            replace TO := TO.later hb418
            replace TB := TB.later hb418
            replace TS := TS.later hb418
            replace TU := TU.later hb418
            replace TB2 := TB2.later hb418
            replace TS2 := TS2.later hb418
            replace TU2 := TU2.later hb418
            replace TD := TD.later hb418
            replace LOW := LOW.trans (hb418.mono LOW.size)
            clear hb418
            try clear hHeld
            refine hK.out _ _ (⟨PA, P8, R10, R13, trivial⟩) (fun hHeld => ?_)
            clear hK K
            try simp only [Act.put, List.setIfInBounds_toArray, List.set_cons_zero, List.set_cons_succ]
            refine wpAnyH_ready (rs := [9]) (by kernel_rfl) (by simp) ?_
            refine AllReadyH.cons HO.out.2.2.2.2.2.2.2.2.2.1 (fun K hK => ?_) AllReadyH.nil
            go_simp
            refine (same_any (aa := ua) (ba := ua) TE TO QU.out.2.1 QU.out.2.1 (nSame_self rfl fun _ => Iff.rfl)).mono ?_
            rintro e w419 ⟨rfl, hb420⟩
            replace PC := PC.later hb420
            replace PW := PW.later hb420
            replace PA := PA.later hb420
            replace P8 := P8.later hb420
            replace R10 := R10.later hb420
            replace R13 := R13.later hb420
            replace TA := TA.later hb420
            replace TO := TO.later hb420
            replace TB := TB.later hb420
            replace TS := TS.later hb420
            replace TU := TU.later hb420
            replace TB2 := TB2.later hb420
            replace TS2 := TS2.later hb420
            replace TU2 := TU2.later hb420
            replace TD := TD.later hb420
            replace TE := TE.later hb420
            replace LOW := LOW.trans (hb420.mono LOW.size)
            clear hb420
            try clear hHeld
            refine hK.out _ _ (⟨PA, P8, R10, R13, trivial⟩) (fun hHeld => ?_)
            clear hK K
            try simp only [Act.put, List.setIfInBounds_toArray, List.set_cons_zero, List.set_cons_succ]
            refine wpAnyH_take (i := 10) (v := ?v4008) HO.out.2.2.2.2.2.2.2.2.2.2.1 (by kernel_rfl) (by kernel_rfl) (by kernel_rfl) (fun _ _ _ h => h) (Or.inl ⟨by rfl, ?hy4008⟩) (by assumption) ?rest4008
            case hy4008 => (intro w1 hSw; (try dsimp only at hSw); obtain ⟨h0, h1, h2, h3, -⟩ := hSw; go_simp; try with_reducible rfl)
            try simp only [Act.put, List.setIfInBounds_toArray, List.set_cons_zero, List.set_cons_succ]
            refine wpAnyH_take (i := 11) (v := ?v4009) HO.out.2.2.2.2.2.2.2.2.2.2.2.1 (by kernel_rfl) (by kernel_rfl) (by kernel_rfl) (fun _ _ _ h => h) (Or.inl ⟨by rfl, ?hy4009⟩) (by assumption) ?rest4009
            case hy4009 => (intro w1 hSw; (try dsimp only at hSw); obtain ⟨h0, h1, h2, h3, -⟩ := hSw; go_simp; try with_reducible rfl)
            try simp only [Act.put, List.setIfInBounds_toArray, List.set_cons_zero, List.set_cons_succ]
            refine wpAnyH_take (i := 12) (v := ?v4010) HO.out.2.2.2.2.2.2.2.2.2.2.2.2.1 (by kernel_rfl) (by kernel_rfl) (by kernel_rfl) (fun _ _ _ h => h) (Or.inl ⟨by rfl, ?hy4010⟩) (by assumption) ?rest4010
            case hy4010 => (intro w1 hSw; (try dsimp only at hSw); obtain ⟨h0, h1, h2, h3, -⟩ := hSw; go_simp; try with_reducible rfl)
            try simp only [Act.put, List.setIfInBounds_toArray, List.set_cons_zero, List.set_cons_succ]
            refine wpAnyH_take (i := 13) (v := .agg (rq 2 true 0 (.slice a1 S1.length c1) (.slice a2 U1.length c2) (.slice a3 0 c3) ⟨#[]⟩)) HO.out.2.2.2.2.2.2.2.2.2.2.2.2.2.1 (by kernel_rfl) (by kernel_rfl) (by kernel_rfl) (fun _ _ _ h => h) (Or.inl ⟨by rfl, ?hy4011⟩) (by assumption) ?rest4011
            case hy4011 => (intro w1 hSw; (try dsimp only at hSw); obtain ⟨h0, h1, h2, h3, -⟩ := hSw; (apply exec_load_rq; (· rfl); (· rfl); (· exact h2); rfl))
            try simp only [Act.put, List.setIfInBounds_toArray, List.set_cons_zero, List.set_cons_succ]
            refine wpAnyH_ready (rs := [14]) (by kernel_rfl) (by simp) ?_
            refine AllReadyH.cons HO.out.2.2.2.2.2.2.2.2.2.2.2.2.2.2.1 (fun K hK => ?_) AllReadyH.nil
            go_simp
            refine (rightReq_0t (k := 2) (U := U1) (hs := []) ⟨by omega, by omega, TS, TU, HvAt.nil _ _, by have := QL.out; omega, by have := QL.out; omega, by simp, QR.out.1, QR.out.2.1, fun r hr => (by cases hr)⟩ (HG.out.1.later LOW)).mono ?_
            rintro e w421 ⟨rfl, hb422⟩
            replace PC := PC.later hb422
            replace PW := PW.later hb422
            replace PA := PA.later hb422
            replace P8 := P8.later hb422
            replace R10 := R10.later hb422
            replace R13 := R13.later hb422
            replace TA := TA.later hb422
            replace TO := TO.later hb422
            replace TB := TB.later hb422
            replace TS := TS.later hb422
            replace TU := TU.later hb422
            replace TB2 := TB2.later hb422
            replace TS2 := TS2.later hb422
            replace TU2 := TU2.later hb422
            replace TD := TD.later hb422
            replace TE := TE.later hb422
            replace LOW := LOW.trans (hb422.mono LOW.size)
            clear hb422
            try clear hHeld
            refine hK.out _ _ (⟨PA, P8, R10, R13, trivial⟩) (fun hHeld => ?_)
            clear hK K
            try simp only [Act.put, List.setIfInBounds_toArray, List.set_cons_zero, List.set_cons_succ]
            refine wpAnyH_take (i := 15) (v := ?v4012) HO.out.2.2.2.2.2.2.2.2.2.2.2.2.2.2.2.1 (by kernel_rfl) (by kernel_rfl) (by kernel_rfl) (fun _ _ _ h => h) (Or.inl ⟨by rfl, ?hy4012⟩) (by assumption) ?rest4012
            case hy4012 => (intro w1 hSw; (try dsimp only at hSw); obtain ⟨h0, h1, h2, h3, -⟩ := hSw; go_simp; try with_reducible rfl)
            try simp only [Act.put, List.setIfInBounds_toArray, List.set_cons_zero, List.set_cons_succ]
            refine wpAnyH_take (i := 16) (v := ?v4013) HO.out.2.2.2.2.2.2.2.2.2.2.2.2.2.2.2.2.1 (by kernel_rfl) (by kernel_rfl) (by kernel_rfl) (fun _ _ _ h => h) (Or.inl ⟨by rfl, ?hy4013⟩) (by assumption) ?rest4013
            case hy4013 => (intro w1 hSw; (try dsimp only at hSw); obtain ⟨h0, h1, h2, h3, -⟩ := hSw; go_simp; try with_reducible rfl)
            try simp only [Act.put, List.setIfInBounds_toArray, List.set_cons_zero, List.set_cons_succ]
            refine wpAnyH_take (i := 17) (v := ?v4014) HO.out.2.2.2.2.2.2.2.2.2.2.2.2.2.2.2.2.2.1 (by kernel_rfl) (by kernel_rfl) (by kernel_rfl) (fun _ _ _ h => h) (Or.inl ⟨by rfl, ?hy4014⟩) (by assumption) ?rest4014
            case hy4014 => (intro w1 hSw; (try dsimp only at hSw); obtain ⟨h0, h1, h2, h3, -⟩ := hSw; go_simp; try with_reducible rfl)
            try simp only [Act.put, List.setIfInBounds_toArray, List.set_cons_zero, List.set_cons_succ]
            refine wpAnyH_take (i := 18) (v := .agg (rq 2 false 0 (.slice a4 S2.length c4) (.slice a5 0 c5) (.slice a6 0 c6) ⟨#[]⟩)) HO.out.2.2.2.2.2.2.2.2.2.2.2.2.2.2.2.2.2.2.1 (by kernel_rfl) (by kernel_rfl) (by kernel_rfl) (fun _ _ _ h => h) (Or.inl ⟨by rfl, ?hy4015⟩) (by assumption) ?rest4015
            case hy4015 => (intro w1 hSw; (try dsimp only at hSw); obtain ⟨h0, h1, h2, h3, -⟩ := hSw; (apply exec_load_rq; (· rfl); (· rfl); (· exact h3); rfl))
            try simp only [Act.put, List.setIfInBounds_toArray, List.set_cons_zero, List.set_cons_succ]
            refine wpAnyH_ready (rs := [19]) (by kernel_rfl) (by simp) ?_
            refine AllReadyH.cons HO.out.2.2.2.2.2.2.2.2.2.2.2.2.2.2.2.2.2.2.2.1 (fun K hK => ?_) AllReadyH.nil
            go_simp
            refine (rightReq_0f (k := 2) ⟨by omega, by omega, TS2, TU2, HvAt.nil _ _, by have := QL.out; omega, by simp, by simp, QR.out.2.2.1, fun x hx => (by cases hx), fun r hr => (by cases hr)⟩ (HG.out.1.later LOW)).mono ?_
            rintro e w423 ⟨rfl, hb424⟩
            replace PC := PC.later hb424
            replace PW := PW.later hb424
            replace PA := PA.later hb424
            replace P8 := P8.later hb424
            replace R10 := R10.later hb424
            replace R13 := R13.later hb424
            replace TA := TA.later hb424
            replace TO := TO.later hb424
            replace TB := TB.later hb424
            replace TS := TS.later hb424
            replace TU := TU.later hb424
            replace TB2 := TB2.later hb424
            replace TS2 := TS2.later hb424
            replace TU2 := TU2.later hb424
            replace TD := TD.later hb424
            replace TE := TE.later hb424
            replace LOW := LOW.trans (hb424.mono LOW.size)
            clear hb424
            try clear hHeld
            refine hK.out _ _ (⟨PA, P8, R10, R13, trivial⟩) (fun hHeld => ?_)
            clear hK K
            try simp only [Act.put, List.setIfInBounds_toArray, List.set_cons_zero, List.set_cons_succ]
            refine wpAnyH_take (i := 20) (v := ?v4016) HO.out.2.2.2.2.2.2.2.2.2.2.2.2.2.2.2.2.2.2.2.2.1 (by kernel_rfl) (by kernel_rfl) (by kernel_rfl) (fun _ _ _ h => h) (Or.inl ⟨by rfl, ?hy4016⟩) (by assumption) ?rest4016
            case hy4016 => (intro w1 hSw; (try dsimp only at hSw); obtain ⟨h0, h1, h2, h3, -⟩ := hSw; go_simp; try with_reducible rfl)
            try simp only [Act.put, List.setIfInBounds_toArray, List.set_cons_zero, List.set_cons_succ]
            refine wpAnyH_take (i := 21) (v := ?v4017) HO.out.2.2.2.2.2.2.2.2.2.2.2.2.2.2.2.2.2.2.2.2.2 (by kernel_rfl) (by kernel_rfl) (by kernel_rfl) (fun _ _ _ h => h) (Or.inl ⟨by rfl, ?hy4017⟩) (by assumption) ?rest4017
            case hy4017 => (intro w1 hSw; (try dsimp only at hSw); obtain ⟨h0, h1, h2, h3, -⟩ := hSw; go_simp; try with_reducible rfl)
            try simp only [Act.put, List.setIfInBounds_toArray, List.set_cons_zero, List.set_cons_succ]
            refine wpAnyH_done (by kernel_rfl) ?_ _
            go_wp2_with fail
            go_roundw
            case rel => exact ⟨j + 1, by omega, by omega, by go_num, ua, ul, tb, tb2, da, td, td2, dc, QU.out.1, QU.out.2.1, QU.out.2.2.1, by rw [show decide (0 < j + 1) = true from decide_eq_true (by omega)]; exact PC, by rw [show decide (0 < j + 1) = true from decide_eq_true (by omega)]; exact PW, PA, TB, TB2, TD, LOW⟩
            case measure => simp [RowKit.intOf]; omega
      · obtain rfl : j = 10 := by omega
        have b1 : ((10 : Nat) : Int) < (n : Int) := by omega
        go_wp2_with fail
        go_ret
        exact ⟨rfl, LOW⟩
    · have b1 : ¬ (j : Int) < (n : Int) := by omega
      go_wp2_with fail
      go_ret
      exact ⟨rfl, LOW⟩
end Go.Proofs.YtdcfdcjgheijcaaGreatDoor
