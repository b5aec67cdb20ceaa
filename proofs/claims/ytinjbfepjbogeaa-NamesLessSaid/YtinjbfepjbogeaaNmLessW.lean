/- NamesLess: the walk. -/
import Derived.Test.YtinjbfepjbogeaaNmLessP
import Derived.Deep.DeepCutAuto
import Derived.Deep.CutRange
import Derived.Deep.CutBlock
namespace Go.Proofs.Ytinjbfepjbogeaa
open Go.RowKit Go.Lib

set_option maxRecDepth 100000 in
set_option maxHeartbeats 4000000 in
theorem lessl_walk (a1 a2 : Option Addr) (n1 n2 c1 c2 : Nat) (ms ms' : List Nat) (w : World) (h1 : BytesIn w a1 ms) (h2 : BytesIn w a2 ms') (hl1 : ms.length = n1) (hl2 : ms'.length = n2) (hn1 : n1 ≤ 9223372036854775807) (hn2 : n2 ≤ 9223372036854775807) :
    Calls Try.prog 6 #[.slice a1 n1 c1, .slice a2 n2 c2] w fun e w' => e = .returned (.bool true) ∧ Below w.heap.size w w' := by
  obtain ⟨aa, al, ha⟩ : ∃ aa al, nOf okN (fewL ms) = ⟨aa, al⟩ := ⟨_, _, rfl⟩
  obtain ⟨ba, bl, hb⟩ : ∃ ba bl, nOf okN (fewL ms') = ⟨ba, bl⟩ := ⟨_, _, rfl⟩
  have rA : Real ⟨aa, al⟩ := by rw [← ha]; exact real_of _
  have rB : Real ⟨ba, bl⟩ := by rw [← hb]; exact real_of _
  obtain ⟨ma, ml, hm⟩ : ∃ ma ml, nLess ⟨aa, al⟩ ⟨ba, bl⟩ = ⟨ma, ml⟩ := ⟨_, _, rfl⟩
  obtain ⟨oa, ol, ho⟩ : ∃ oa ol, nLess ⟨aa, al⟩ ⟨ma, ml⟩ = ⟨oa, ol⟩ := ⟨_, _, rfl⟩
  obtain ⟨ka, kl, hk⟩ : ∃ ka kl, nUnion [⟨ma, ml⟩, ⟨oa, ol⟩] = ⟨ka, kl⟩ := ⟨_, _, rfl⟩
  obtain ⟨LB, hLB⟩ : ∃ L, nList ⟨ba, bl⟩ = L := ⟨_, rfl⟩
  obtain ⟨ga, gl, hg⟩ : ∃ ga gl, nUnion [⟨aa, al⟩, nOf okN LB] = ⟨ga, gl⟩ := ⟨_, _, rfl⟩
  obtain ⟨na, nl, hn⟩ : ∃ na nl, nLess ⟨ba, bl⟩ ⟨aa, al⟩ = ⟨na, nl⟩ := ⟨_, _, rfl⟩
  obtain ⟨LN, hLN⟩ : ∃ L, nList ⟨na, nl⟩ = L := ⟨_, rfl⟩
  obtain ⟨ha', hl', hs⟩ : ∃ sa sl, nLess ⟨ga, gl⟩ (nOf okN LN) = ⟨sa, sl⟩ := ⟨_, _, rfl⟩
  obtain ⟨LA, hLA⟩ : ∃ L, nList ⟨aa, al⟩ = L := ⟨_, rfl⟩
  obtain ⟨za, zl, hz⟩ : ∃ za zl, nLess ⟨aa, al⟩ ⟨aa, al⟩ = ⟨za, zl⟩ := ⟨_, _, rfl⟩
  obtain ⟨ua, ul, hu⟩ : ∃ ua ul, nUnion [⟨aa, al⟩, ⟨ba, bl⟩] = ⟨ua, ul⟩ := ⟨_, _, rfl⟩
  obtain ⟨da, dl, hd⟩ : ∃ da dl, nLess ⟨aa, al⟩ (nOf okN LA) = ⟨da, dl⟩ := ⟨_, _, rfl⟩
  obtain ⟨ea, el, he⟩ : ∃ ea el, nOf okN LA = ⟨ea, el⟩ := ⟨_, _, rfl⟩
  have L6 := less_laws (grown := ⟨ga, gl⟩) (shrunk := ⟨ha', hl'⟩) rA rB hm ho hk (by rw [hLB]; exact hg) hn (by rw [hLN]; exact hs)
  rw [hz, hu, hLA, hd, he] at L6
  have sA := small_of ms ha
  have sB := small_of ms' hb
  have lA := (of_fit (few_fit ms) ha).2
  have lB := (of_fit (few_fit ms') hb).2
  have fA := few_len ms
  have fB := few_len ms'
  obtain ⟨sM, lM⟩ := small_less sA hm
  obtain ⟨sO, lO⟩ := small_less sA ho
  have sK := small_union sM.fit sO.fit (by omega) hk
  obtain ⟨fLB, lLB⟩ := list_fit sB hLB
  obtain ⟨fLA, lLA⟩ := list_fit sA hLA
  have sG : Small gl := by
    have e : nOf okN LB = ⟨ba, bl⟩ := by rw [← hLB]; exact rB.list
    rw [e] at hg; exact small_union sA.fit sB.fit (by omega) hg
  obtain ⟨sN, lN⟩ := small_less sB hn
  obtain ⟨fLN, lLN⟩ := list_fit sN hLN
  obtain ⟨sH, lH⟩ := small_less sG (show nLess ⟨ga, gl⟩ ⟨na, nl⟩ = ⟨ha', hl'⟩ by
    have e : nOf okN LN = ⟨na, nl⟩ := by rw [← hLN]; exact Real.list (by rw [← hn]; exact real_less rB)
    rw [e] at hs; exact hs)
  obtain ⟨sZ, _⟩ := small_less sA hz
  have sU := small_union sA.fit sB.fit (by omega) hu
  have eE : nOf okN LA = ⟨aa, al⟩ := by rw [← hLA]; exact rA.list
  obtain ⟨sD, _⟩ := small_less sA (show nLess ⟨aa, al⟩ ⟨aa, al⟩ = ⟨da, dl⟩ by rw [eE] at hd; exact hd)
  have sE : Small el := by rw [eE] at he; have := congrArg Ns.ns he; simp only at this; rw [← this]; exact sA
  have gln := sG.len
  have HL := Lib.hid (show (ml.length + ol.length ≤ 200 ∧ al.length + bl.length ≤ 200) ∧ (AddFit al LB ∧ AddFit gl LN ∧ AddFit al LA) ∧ LB.length * 16 ≤ 140737488355328 ∧ LN.length * 16 ≤ 140737488355328 ∧ LA.length * 16 ≤ 140737488355328 from
    ⟨⟨by omega, by omega⟩, ⟨⟨sA.fit, fLB, by omega⟩, ⟨sG.fit, fLN, by omega⟩, ⟨sA.fit, fLA, by omega⟩⟩, by omega, by omega, by omega⟩)
  have HF := Lib.hid (And.intro fLB (And.intro fLN fLA))
  have H6 := Lib.hid L6
  have HS := Lib.hid (And.intro sA (And.intro sB (And.intro sM (And.intro sO (And.intro sK (And.intro sG (And.intro sH (And.intro sU (And.intro sD sE)))))))))
  have HA := Lib.hid (And.intro ha (And.intro hb (And.intro hm (And.intro ho (And.intro hk (And.intro hg (And.intro hn (And.intro hs (And.intro hz (And.intro hu (And.intro hd he)))))))))))
  have HN := Lib.hid (And.intro hLB (And.intro hLN hLA))
  clear ha hb hm ho hk hg hn hs hz hu hd he hLB hLN hLA L6 sA sB sM sO sK sG sH sU sD sE sN sZ fLB fLN fLA lLB lLA lLN lN lH lA lB fA fB lM lO rA rB eE gln
  have B0 : Base w w := Below.refl _ _
  go_enter Try.func6, Try.ntmps6
  go_wp2_with fail
  refine (examples_any w).mono ?_
  rintro e w1 ⟨rfl, hb2⟩
  have q3 := B0.later hb2
  have q4 := h1.later hb2
  have q5 := h2.later hb2
  go_wp2_with fail
  refine (few_any q4 hl1 hn1).mono ?_
  rintro e w9 ⟨fa6, fc7, rfl, fo8, hb10⟩
  have q11 := q3.later hb10
  have q12 := q4.later hb10
  have q13 := q5.later hb10
  have q14 : TsAt w9 _ (fewL ms) := RowV.own fo8
  go_wp2_with fail
  refine (of_any q14 (few_fit ms) HA.out.1).mono ?_
  rintro e w18 ⟨a15, c16, rfl, h17, hb19⟩
  have q20 := q11.later hb19
  have q21 := q12.later hb19
  have q22 := q13.later hb19
  have q23 := q14.later hb19
  obtain ⟨w24, hw25, hb26, p27⟩ := alloc_new w18 #[.bool aa, .slice a15 al.length c16] 27
  have q28 := q20.later hb26
  have q29 := q21.later hb26
  have q30 := q22.later hb26
  have q31 := h17.later hb26
  go_wp2_with fail
  refine (few_any q30 hl2 hn2).mono ?_
  rintro e w35 ⟨fa32, fc33, rfl, fo34, hb36⟩
  have q37 := q28.later hb36
  have q38 := q29.later hb36
  have q39 := q30.later hb36
  have q40 := q31.later hb36
  have q41 := p27.later hb36
  have q42 : TsAt w35 _ (fewL ms') := RowV.own fo34
  go_wp2_with fail
  refine (of_any q42 (few_fit ms') HA.out.2.1).mono ?_
  rintro e w46 ⟨a43, c44, rfl, h45, hb47⟩
  have q48 := q37.later hb47
  have q49 := q38.later hb47
  have q50 := q39.later hb47
  have q51 := q40.later hb47
  have q52 := q41.later hb47
  have q53 := q42.later hb47
  obtain ⟨w54, hw55, hb56, p57⟩ := alloc_new w46 #[.bool ba, .slice a43 bl.length c44] 27
  have q58 := q48.later hb56
  have q59 := q49.later hb56
  have q60 := q50.later hb56
  have q61 := q51.later hb56
  have q62 := q52.later hb56
  have q63 := h45.later hb56
  have c64 := q62.cell 0
  have c65 := q62.cell 1
  have c66 := p57.cell 0
  have c67 := p57.cell 1
  simp only [List.getElem?_toArray, List.getElem?_cons_zero, List.getElem?_cons_succ] at c64 c65 c66 c67
  go_wp2_with fail
  refine (less_any q61 q63 HS.out.1.fit HS.out.2.1.fit HA.out.2.2.1).mono ?_
  rintro e w71 ⟨a68, c69, rfl, h70, hb72⟩
  have q73 := q58.later hb72
  have q74 := q61.later hb72
  have q75 := q62.later hb72
  have q76 := q63.later hb72
  have q77 := p57.later hb72
  clear c64 c65 c66 c67
  obtain ⟨w78, hw79, hb80, p81⟩ := alloc_new w71 #[.bool ma, .slice a68 ml.length c69] 27
  have q82 := q73.later hb80
  have q83 := q74.later hb80
  have q84 := q75.later hb80
  have q85 := q76.later hb80
  have q86 := q77.later hb80
  have q87 := h70.later hb80
  have c88 := q84.cell 0
  have c89 := q84.cell 1
  have c90 := p81.cell 0
  have c91 := p81.cell 1
  simp only [List.getElem?_toArray, List.getElem?_cons_zero, List.getElem?_cons_succ] at c88 c89 c90 c91
  go_wp2_with fail
  refine (less_any q83 q87 HS.out.1.fit HS.out.2.2.1.fit HA.out.2.2.2.1).mono ?_
  rintro e w95 ⟨a92, c93, rfl, h94, hb96⟩
  have q97 := q82.later hb96
  have q98 := q83.later hb96
  have q99 := q84.later hb96
  have q100 := q85.later hb96
  have q101 := q86.later hb96
  have q102 := q87.later hb96
  have q103 := p81.later hb96
  clear c88 c89 c90 c91
  obtain ⟨w104, hw105, hb106, p107⟩ := alloc_new w95 #[.bool oa, .slice a92 ol.length c93] 27
  have q108 := q97.later hb106
  have q109 := q98.later hb106
  have q110 := q99.later hb106
  have q111 := q100.later hb106
  have q112 := q101.later hb106
  have q113 := q102.later hb106
  have q114 := q103.later hb106
  have q115 := h94.later hb106
  have c116 := q114.cell 0
  have c117 := q114.cell 1
  have c118 := p107.cell 0
  have c119 := p107.cell 1
  simp only [List.getElem?_toArray, List.getElem?_cons_zero, List.getElem?_cons_succ] at c116 c117 c118 c119
  obtain ⟨w120, hw121, hb122, p123⟩ := alloc_new w104 #[.bool ma, .slice a68 ml.length c69, .bool oa, .slice a92 ol.length c93] 27
  have q124 := q108.later hb122
  have q125 := q109.later hb122
  have q126 := q110.later hb122
  have q127 := q111.later hb122
  have q128 := q112.later hb122
  have q129 := q113.later hb122
  have q130 := q114.later hb122
  have q131 := q115.later hb122
  have q132 := p107.later hb122
  go_wp2_with fail
  refine (union_any (n := 2) (sets_two p123 q129 rfl q131 rfl) rfl (fit_two HS.out.2.2.1.fit HS.out.2.2.2.1.fit HL.out.1.1) HA.out.2.2.2.2.1).mono ?_
  rintro e w136 ⟨a133, c134, rfl, h135, hb137⟩
  have q138 := q124.later hb137
  have q139 := q125.later hb137
  have q140 := q126.later hb137
  have q141 := q127.later hb137
  have q142 := q128.later hb137
  have q143 := q129.later hb137
  have q144 := q130.later hb137
  have q145 := q131.later hb137
  have q146 := q132.later hb137
  have q147 := p123.later hb137
  clear c116 c117 c118 c119
  obtain ⟨w148, hw149, hb150, p151⟩ := alloc_new w136 #[.bool ka, .slice a133 kl.length c134] 27
  have q152 := q138.later hb150
  have q153 := q139.later hb150
  have q154 := q140.later hb150
  have q155 := q141.later hb150
  have q156 := q142.later hb150
  have q157 := q143.later hb150
  have q158 := q144.later hb150
  have q159 := q145.later hb150
  have q160 := q146.later hb150
  have q161 := q147.later hb150
  have q162 := h135.later hb150
  go_wp2_with fail
  go_cut [11] (fun s11 wx => ∃ (R : Nat) (a : Option Addr) (c : Nat), s11 = .pointer (some ⟨R, 0, none⟩) ∧ Blk wx R #[.bool ga, .slice a gl.length c] 27 ∧ TsAt wx (.slice a gl.length c) gl ∧ Below w148.heap.size w148 wx)
  case first =>
    have b163 : Base w148 w148 := Below.refl _ _
    obtain ⟨w164, hw165, hb166⟩ := drew_new w148
    have q167 := q152.later hb166
    have q168 := q153.later hb166
    have q169 := q154.later hb166
    have q170 := q155.later hb166
    have q171 := q156.later hb166
    have q172 := q162.later hb166
    have q173 := p151.later hb166
    have q174 := b163.later hb166
    refine wp_region_held_drew (S := (fun w' => w'.cell? ⟨w18.heap.size, 0, none⟩ = some (.bool aa) ∧ w'.cell? ⟨w18.heap.size, 1, none⟩ = some (.slice a15 al.length c16) ∧ w'.cell? ⟨w46.heap.size, 0, none⟩ = some (.bool ba) ∧ w'.cell? ⟨w46.heap.size, 1, none⟩ = some (.slice a43 bl.length c44) ∧ True)) (by kernel_rfl) (by rw [hw165]; exact ⟨q169.cell 0, q169.cell 1, q171.cell 0, q171.cell 1, trivial⟩) (fun hHeld => ?_)
    rw [hw165] at hHeld ⊢
    refine wpAnyH_take (i := 0) (oi := { dst := some 32, op := Op.load 27 (Operand.tmp 6), type := 27, pos := "keeps.go:29", after := #[], guard := none }) (v := ?v1) rfl (by kernel_rfl) (by kernel_rfl) (by kernel_rfl) (fun _ _ _ h => h) (Or.inl ⟨by rfl, ?hy1⟩) (by assumption) ?rest1
    case hy1 => (intro w1 hSw; (try dsimp only at hSw); obtain ⟨h0, h1, h2, h3, -⟩ := hSw; go_simp; try with_reducible rfl)
    try simp only [Act.put, List.setIfInBounds_toArray, List.set_cons_zero, List.set_cons_succ]
    refine wpAnyH_take (i := 1) (oi := { dst := some 33, op := Op.load 27 (Operand.tmp 7), type := 27, pos := "keeps.go:29", after := #[], guard := none }) (v := ?v2) rfl (by kernel_rfl) (by kernel_rfl) (by kernel_rfl) (fun _ _ _ h => h) (Or.inl ⟨by rfl, ?hy2⟩) (by assumption) ?rest2
    case hy2 => (intro w1 hSw; (try dsimp only at hSw); obtain ⟨h0, h1, h2, h3, -⟩ := hSw; go_simp; try with_reducible rfl)
    try simp only [Act.put, List.setIfInBounds_toArray, List.set_cons_zero, List.set_cons_succ]
    refine wpAnyH_ready (rs := [2, 4]) (by kernel_rfl) (by simp) ?_
    refine AllReadyH.cons (o := { dst := some 34, op := Op.call { callee := Callee.value (Operand.func 15), args := #[Operand.tmp 33], argTypes := #[27] }, type := 23, pos := "keeps.go:29", after := #[{ on := 1, ground := Ground.data }], guard := none }) rfl (fun K hK => ?_) ?_
    · go_simp
      refine (list_any q170 HN.out.1 HL.out.2.2.1).mono ?_
      rintro e w178 ⟨la175, lc176, rfl, lo177, hb179⟩
      have q180 := q167.later hb179
      have q181 := q168.later hb179
      have q182 := q169.later hb179
      have q183 := q170.later hb179
      have q184 := q171.later hb179
      have q185 := q172.later hb179
      have q186 := q173.later hb179
      have q187 := q174.later hb179
      have q188 : TsAt w178 _ LB := RowV.own lo177
      refine hK.out _ _ (⟨q182.cell 0, q182.cell 1, q184.cell 0, q184.cell 1, trivial⟩) (fun hHeld => ?_)
      clear hK K
      try simp only [Act.put, List.setIfInBounds_toArray, List.set_cons_zero, List.set_cons_succ]
      refine wpAnyH_ready (rs := [3, 4]) (by kernel_rfl) (by simp) ?_
      refine AllReadyH.cons (o := { dst := some 35, op := Op.call { callee := Callee.value (Operand.func 26), args := #[Operand.tmp 32, Operand.tmp 34], argTypes := #[27, 23] }, type := 27, pos := "keeps.go:29", after := #[{ on := 0, ground := Ground.data }, { on := 2, ground := Ground.data }, { on := 2, ground := Ground.chain }], guard := none }) rfl (fun K hK => ?_) ?_
      · go_simp
        refine (add_any q181 q188 HL.out.2.1.1 HA.out.2.2.2.2.2.1).mono ?_
        rintro e w192 ⟨ra189, rc190, rfl, h191, hb193⟩
        have q194 := q180.later hb193
        have q195 := q181.later hb193
        have q196 := q182.later hb193
        have q197 := q183.later hb193
        have q198 := q184.later hb193
        have q199 := q185.later hb193
        have q200 := q186.later hb193
        have q201 := q187.later hb193
        have q202 := q188.later hb193
        refine hK.out _ _ (⟨q196.cell 0, q196.cell 1, q198.cell 0, q198.cell 1, trivial⟩) (fun hHeld => ?_)
        clear hK K
        try simp only [Act.put, List.setIfInBounds_toArray, List.set_cons_zero, List.set_cons_succ]
        refine wpAnyH_ready (rs := [4]) (by kernel_rfl) (by simp) ?_
        refine AllReadyH.cons (o := { dst := some 11, op := Op.alloc 27, type := 0, pos := "keeps.go:29", after := #[], guard := none }) rfl (fun K hK => ?_) AllReadyH.nil
        go_simp
        have hR := Below.size q201
        obtain ⟨w203, hw204, hb205, p206⟩ := alloc_new w192 #[.bool false, .slice none 0 0] 27
        have q207 := q194.later hb205
        have q208 := q195.later hb205
        have q209 := q196.later hb205
        have q210 := q197.later hb205
        have q211 := q198.later hb205
        have q212 := q199.later hb205
        have q213 := q200.later hb205
        have q214 := q201.later hb205
        have q215 := q202.later hb205
        have q216 := h191.later hb205
        rw [hw204]
        have r0 := p206.cell 0
        have r1 := p206.cell 1
        have f0 := p206.frozen 0
        have f1 := p206.frozen 1
        simp only [List.getElem?_toArray, List.getElem?_cons_zero, List.getElem?_cons_succ] at r0 r1
        refine hK.out _ _ (⟨q209.cell 0, q209.cell 1, q211.cell 0, q211.cell 1, trivial⟩) (fun hHeld => ?_)
        clear hK K
        try simp only [Act.put, List.setIfInBounds_toArray, List.set_cons_zero, List.set_cons_succ]
        refine wpAnyH_ready (rs := [5]) (by kernel_rfl) (by simp) ?_
        refine AllReadyH.cons (o := { dst := none, op := Op.store 27 (Operand.tmp 11) (Operand.tmp 35), type := 0, pos := "keeps.go:29", after := #[{ on := 4, ground := Ground.data }, { on := 3, ground := Ground.data }, { on := 3, ground := Ground.chain }, { on := 0, ground := Ground.phase }, { on := 1, ground := Ground.phase }, { on := 2, ground := Ground.phase }, { on := 3, ground := Ground.phase }, { on := 4, ground := Ground.phase }], guard := none }) rfl (fun K hK => ?_) AllReadyH.nil
        go_simp
        refine hK.out _ _ (⟨(q209.set2 (by have := q154.lt; omega) _ _).cell 0, (q209.set2 (by have := q154.lt; omega) _ _).cell 1, (q211.set2 (by have := q156.lt; omega) _ _).cell 0, (q211.set2 (by have := q156.lt; omega) _ _).cell 1, trivial⟩) (fun hHeld => ?_)
        clear hK K
        refine wpAnyH_done (by kernel_rfl) ?_ _
        go_wp2_with fail
        go_meet
        exact ⟨_, _, _, rfl, (p206.set 0 _).set 1 _, TsAt.set2 q216 _ _ r0 r1, below_set2 q214 hR _ _⟩
      refine AllReadyH.cons (o := { dst := some 11, op := Op.alloc 27, type := 0, pos := "keeps.go:29", after := #[], guard := none }) rfl (fun K hK => ?_) AllReadyH.nil
      go_simp
      have hR := Below.size q187
      obtain ⟨w217, hw218, hb219, p220⟩ := alloc_new w178 #[.bool false, .slice none 0 0] 27
      have q221 := q180.later hb219
      have q222 := q181.later hb219
      have q223 := q182.later hb219
      have q224 := q183.later hb219
      have q225 := q184.later hb219
      have q226 := q185.later hb219
      have q227 := q186.later hb219
      have q228 := q187.later hb219
      have q229 := q188.later hb219
      rw [hw218]
      have r0 := p220.cell 0
      have r1 := p220.cell 1
      have f0 := p220.frozen 0
      have f1 := p220.frozen 1
      simp only [List.getElem?_toArray, List.getElem?_cons_zero, List.getElem?_cons_succ] at r0 r1
      refine hK.out _ _ (⟨q223.cell 0, q223.cell 1, q225.cell 0, q225.cell 1, trivial⟩) (fun hHeld => ?_)
      clear hK K
      try simp only [Act.put, List.setIfInBounds_toArray, List.set_cons_zero, List.set_cons_succ]
      refine wpAnyH_ready (rs := [3]) (by kernel_rfl) (by simp) ?_
      refine AllReadyH.cons (o := { dst := some 35, op := Op.call { callee := Callee.value (Operand.func 26), args := #[Operand.tmp 32, Operand.tmp 34], argTypes := #[27, 23] }, type := 27, pos := "keeps.go:29", after := #[{ on := 0, ground := Ground.data }, { on := 2, ground := Ground.data }, { on := 2, ground := Ground.chain }], guard := none }) rfl (fun K hK => ?_) AllReadyH.nil
      go_simp
      refine (add_any q222 q229 HL.out.2.1.1 HA.out.2.2.2.2.2.1).mono ?_
      rintro e w233 ⟨ra230, rc231, rfl, h232, hb234⟩
      have q235 := q221.later hb234
      have q236 := q222.later hb234
      have q237 := q223.later hb234
      have q238 := q224.later hb234
      have q239 := q225.later hb234
      have q240 := q226.later hb234
      have q241 := q227.later hb234
      have q242 := q228.later hb234
      have q243 := q229.later hb234
      have q244 := p220.later hb234
      have r0 := q244.cell 0
      have r1 := q244.cell 1
      have f0 := q244.frozen 0
      have f1 := q244.frozen 1
      simp only [List.getElem?_toArray, List.getElem?_cons_zero, List.getElem?_cons_succ] at r0 r1
      refine hK.out _ _ (⟨q237.cell 0, q237.cell 1, q239.cell 0, q239.cell 1, trivial⟩) (fun hHeld => ?_)
      clear hK K
      try simp only [Act.put, List.setIfInBounds_toArray, List.set_cons_zero, List.set_cons_succ]
      refine wpAnyH_ready (rs := [5]) (by kernel_rfl) (by simp) ?_
      refine AllReadyH.cons (o := { dst := none, op := Op.store 27 (Operand.tmp 11) (Operand.tmp 35), type := 0, pos := "keeps.go:29", after := #[{ on := 4, ground := Ground.data }, { on := 3, ground := Ground.data }, { on := 3, ground := Ground.chain }, { on := 0, ground := Ground.phase }, { on := 1, ground := Ground.phase }, { on := 2, ground := Ground.phase }, { on := 3, ground := Ground.phase }, { on := 4, ground := Ground.phase }], guard := none }) rfl (fun K hK => ?_) AllReadyH.nil
      go_simp
      refine hK.out _ _ (⟨(q237.set2 (by have := q154.lt; omega) _ _).cell 0, (q237.set2 (by have := q154.lt; omega) _ _).cell 1, (q239.set2 (by have := q156.lt; omega) _ _).cell 0, (q239.set2 (by have := q156.lt; omega) _ _).cell 1, trivial⟩) (fun hHeld => ?_)
      clear hK K
      refine wpAnyH_done (by kernel_rfl) ?_ _
      go_wp2_with fail
      go_meet
      exact ⟨_, _, _, rfl, (q244.set 0 _).set 1 _, TsAt.set2 h232 _ _ r0 r1, below_set2 q242 hR _ _⟩
    refine AllReadyH.cons (o := { dst := some 11, op := Op.alloc 27, type := 0, pos := "keeps.go:29", after := #[], guard := none }) rfl (fun K hK => ?_) AllReadyH.nil
    go_simp
    have hR := Below.size q174
    obtain ⟨w245, hw246, hb247, p248⟩ := alloc_new w164 #[.bool false, .slice none 0 0] 27
    have q249 := q167.later hb247
    have q250 := q168.later hb247
    have q251 := q169.later hb247
    have q252 := q170.later hb247
    have q253 := q171.later hb247
    have q254 := q172.later hb247
    have q255 := q173.later hb247
    have q256 := q174.later hb247
    rw [hw246]
    have r0 := p248.cell 0
    have r1 := p248.cell 1
    have f0 := p248.frozen 0
    have f1 := p248.frozen 1
    simp only [List.getElem?_toArray, List.getElem?_cons_zero, List.getElem?_cons_succ] at r0 r1
    refine hK.out _ _ (⟨q251.cell 0, q251.cell 1, q253.cell 0, q253.cell 1, trivial⟩) (fun hHeld => ?_)
    clear hK K
    try simp only [Act.put, List.setIfInBounds_toArray, List.set_cons_zero, List.set_cons_succ]
    refine wpAnyH_ready (rs := [2]) (by kernel_rfl) (by simp) ?_
    refine AllReadyH.cons (o := { dst := some 34, op := Op.call { callee := Callee.value (Operand.func 15), args := #[Operand.tmp 33], argTypes := #[27] }, type := 23, pos := "keeps.go:29", after := #[{ on := 1, ground := Ground.data }], guard := none }) rfl (fun K hK => ?_) AllReadyH.nil
    go_simp
    refine (list_any q252 HN.out.1 HL.out.2.2.1).mono ?_
    rintro e w260 ⟨la257, lc258, rfl, lo259, hb261⟩
    have q262 := q249.later hb261
    have q263 := q250.later hb261
    have q264 := q251.later hb261
    have q265 := q252.later hb261
    have q266 := q253.later hb261
    have q267 := q254.later hb261
    have q268 := q255.later hb261
    have q269 := q256.later hb261
    have q270 := p248.later hb261
    have q271 : TsAt w260 _ LB := RowV.own lo259
    have r0 := q270.cell 0
    have r1 := q270.cell 1
    have f0 := q270.frozen 0
    have f1 := q270.frozen 1
    simp only [List.getElem?_toArray, List.getElem?_cons_zero, List.getElem?_cons_succ] at r0 r1
    refine hK.out _ _ (⟨q264.cell 0, q264.cell 1, q266.cell 0, q266.cell 1, trivial⟩) (fun hHeld => ?_)
    clear hK K
    try simp only [Act.put, List.setIfInBounds_toArray, List.set_cons_zero, List.set_cons_succ]
    refine wpAnyH_ready (rs := [3]) (by kernel_rfl) (by simp) ?_
    refine AllReadyH.cons (o := { dst := some 35, op := Op.call { callee := Callee.value (Operand.func 26), args := #[Operand.tmp 32, Operand.tmp 34], argTypes := #[27, 23] }, type := 27, pos := "keeps.go:29", after := #[{ on := 0, ground := Ground.data }, { on := 2, ground := Ground.data }, { on := 2, ground := Ground.chain }], guard := none }) rfl (fun K hK => ?_) AllReadyH.nil
    go_simp
    refine (add_any q263 q271 HL.out.2.1.1 HA.out.2.2.2.2.2.1).mono ?_
    rintro e w275 ⟨ra272, rc273, rfl, h274, hb276⟩
    have q277 := q262.later hb276
    have q278 := q263.later hb276
    have q279 := q264.later hb276
    have q280 := q265.later hb276
    have q281 := q266.later hb276
    have q282 := q267.later hb276
    have q283 := q268.later hb276
    have q284 := q269.later hb276
    have q285 := q270.later hb276
    have q286 := q271.later hb276
    have r0 := q285.cell 0
    have r1 := q285.cell 1
    have f0 := q285.frozen 0
    have f1 := q285.frozen 1
    simp only [List.getElem?_toArray, List.getElem?_cons_zero, List.getElem?_cons_succ] at r0 r1
    refine hK.out _ _ (⟨q279.cell 0, q279.cell 1, q281.cell 0, q281.cell 1, trivial⟩) (fun hHeld => ?_)
    clear hK K
    try simp only [Act.put, List.setIfInBounds_toArray, List.set_cons_zero, List.set_cons_succ]
    refine wpAnyH_ready (rs := [5]) (by kernel_rfl) (by simp) ?_
    refine AllReadyH.cons (o := { dst := none, op := Op.store 27 (Operand.tmp 11) (Operand.tmp 35), type := 0, pos := "keeps.go:29", after := #[{ on := 4, ground := Ground.data }, { on := 3, ground := Ground.data }, { on := 3, ground := Ground.chain }, { on := 0, ground := Ground.phase }, { on := 1, ground := Ground.phase }, { on := 2, ground := Ground.phase }, { on := 3, ground := Ground.phase }, { on := 4, ground := Ground.phase }], guard := none }) rfl (fun K hK => ?_) AllReadyH.nil
    go_simp
    refine hK.out _ _ (⟨(q279.set2 (by have := q154.lt; omega) _ _).cell 0, (q279.set2 (by have := q154.lt; omega) _ _).cell 1, (q281.set2 (by have := q156.lt; omega) _ _).cell 0, (q281.set2 (by have := q156.lt; omega) _ _).cell 1, trivial⟩) (fun hHeld => ?_)
    clear hK K
    refine wpAnyH_done (by kernel_rfl) ?_ _
    go_wp2_with fail
    go_meet
    exact ⟨_, _, _, rfl, (q285.set 0 _).set 1 _, TsAt.set2 h274 _ _ r0 r1, below_set2 q284 hR _ _⟩
  case rest =>
  obtain ⟨R287, a288, c289, rfl, p290, t291, hb292⟩ := hcut
  have q293 := q152.later hb292
  have q294 := q153.later hb292
  have q295 := q154.later hb292
  have q296 := q155.later hb292
  have q297 := q156.later hb292
  have q298 := q162.later hb292
  have q299 := p151.later hb292
  go_wp2_with fail
  go_cut [12] (fun s12 wx => ∃ (R : Nat) (a : Option Addr) (c : Nat), s12 = .pointer (some ⟨R, 0, none⟩) ∧ Blk wx R #[.bool ha', .slice a hl'.length c] 27 ∧ TsAt wx (.slice a hl'.length c) hl' ∧ Below wc.heap.size wc wx)
  case first =>
    have b300 : Base wc wc := Below.refl _ _
    obtain ⟨w301, hw302, hb303⟩ := drew_new wc
    have q304 := q293.later hb303
    have q305 := q294.later hb303
    have q306 := q295.later hb303
    have q307 := q296.later hb303
    have q308 := q297.later hb303
    have q309 := q298.later hb303
    have q310 := q299.later hb303
    have q311 := p290.later hb303
    have q312 := t291.later hb303
    have q313 := b300.later hb303
    refine wp_region_held_drew (S := (fun w' => w'.cell? ⟨w18.heap.size, 0, none⟩ = some (.bool aa) ∧ w'.cell? ⟨w18.heap.size, 1, none⟩ = some (.slice a15 al.length c16) ∧ w'.cell? ⟨w46.heap.size, 0, none⟩ = some (.bool ba) ∧ w'.cell? ⟨w46.heap.size, 1, none⟩ = some (.slice a43 bl.length c44) ∧ w'.cell? ⟨R287, 0, none⟩ = some (.bool ga) ∧ w'.cell? ⟨R287, 1, none⟩ = some (.slice a288 gl.length c289) ∧ True)) (by kernel_rfl) (by rw [hw302]; exact ⟨q306.cell 0, q306.cell 1, q308.cell 0, q308.cell 1, q311.cell 0, q311.cell 1, trivial⟩) (fun hHeld => ?_)
    rw [hw302] at hHeld ⊢
    refine wpAnyH_take (i := 0) (oi := { dst := some 36, op := Op.load 27 (Operand.tmp 11), type := 27, pos := "keeps.go:30", after := #[], guard := none }) (v := ?v3) rfl (by kernel_rfl) (by kernel_rfl) (by kernel_rfl) (fun _ _ _ h => h) (Or.inl ⟨by rfl, ?hy3⟩) (by assumption) ?rest3
    case hy3 => (intro w1 hSw; (try dsimp only at hSw); obtain ⟨h0, h1, h2, h3, h4, h5, -⟩ := hSw; go_simp; try with_reducible rfl)
    try simp only [Act.put, List.setIfInBounds_toArray, List.set_cons_zero, List.set_cons_succ]
    refine wpAnyH_take (i := 1) (oi := { dst := some 37, op := Op.load 27 (Operand.tmp 7), type := 27, pos := "keeps.go:30", after := #[], guard := none }) (v := ?v4) rfl (by kernel_rfl) (by kernel_rfl) (by kernel_rfl) (fun _ _ _ h => h) (Or.inl ⟨by rfl, ?hy4⟩) (by assumption) ?rest4
    case hy4 => (intro w1 hSw; (try dsimp only at hSw); obtain ⟨h0, h1, h2, h3, h4, h5, -⟩ := hSw; go_simp; try with_reducible rfl)
    try simp only [Act.put, List.setIfInBounds_toArray, List.set_cons_zero, List.set_cons_succ]
    refine wpAnyH_take (i := 2) (oi := { dst := some 38, op := Op.load 27 (Operand.tmp 6), type := 27, pos := "keeps.go:30", after := #[], guard := none }) (v := ?v5) rfl (by kernel_rfl) (by kernel_rfl) (by kernel_rfl) (fun _ _ _ h => h) (Or.inl ⟨by rfl, ?hy5⟩) (by assumption) ?rest5
    case hy5 => (intro w1 hSw; (try dsimp only at hSw); obtain ⟨h0, h1, h2, h3, h4, h5, -⟩ := hSw; go_simp; try with_reducible rfl)
    try simp only [Act.put, List.setIfInBounds_toArray, List.set_cons_zero, List.set_cons_succ]
    refine wpAnyH_ready (rs := [3, 6]) (by kernel_rfl) (by simp) ?_
    refine AllReadyH.cons (o := { dst := some 39, op := Op.call { callee := Callee.value (Operand.func 24), args := #[Operand.tmp 37, Operand.tmp 38], argTypes := #[27, 27] }, type := 27, pos := "keeps.go:30", after := #[{ on := 1, ground := Ground.data }, { on := 2, ground := Ground.data }], guard := none }) rfl (fun K hK => ?_) ?_
    · go_simp
      refine (less_any q307 q305 HS.out.2.1.fit HS.out.1.fit HA.out.2.2.2.2.2.2.1).mono ?_
      rintro e w317 ⟨na314, nc315, rfl, h316, hb318⟩
      have q319 := q304.later hb318
      have q320 := q305.later hb318
      have q321 := q306.later hb318
      have q322 := q307.later hb318
      have q323 := q308.later hb318
      have q324 := q309.later hb318
      have q325 := q310.later hb318
      have q326 := q311.later hb318
      have q327 := q312.later hb318
      have q328 := q313.later hb318
      refine hK.out _ _ (⟨q321.cell 0, q321.cell 1, q323.cell 0, q323.cell 1, q326.cell 0, q326.cell 1, trivial⟩) (fun hHeld => ?_)
      clear hK K
      try simp only [Act.put, List.setIfInBounds_toArray, List.set_cons_zero, List.set_cons_succ]
      refine wpAnyH_ready (rs := [4, 6]) (by kernel_rfl) (by simp) ?_
      refine AllReadyH.cons (o := { dst := some 40, op := Op.call { callee := Callee.value (Operand.func 15), args := #[Operand.tmp 39], argTypes := #[27] }, type := 23, pos := "keeps.go:30", after := #[{ on := 3, ground := Ground.data }, { on := 3, ground := Ground.chain }], guard := none }) rfl (fun K hK => ?_) ?_
      · go_simp
        refine (list_any h316 HN.out.2.1 HL.out.2.2.2.1).mono ?_
        rintro e w332 ⟨la329, lc330, rfl, lo331, hb333⟩
        have q334 := q319.later hb333
        have q335 := q320.later hb333
        have q336 := q321.later hb333
        have q337 := q322.later hb333
        have q338 := q323.later hb333
        have q339 := q324.later hb333
        have q340 := q325.later hb333
        have q341 := q326.later hb333
        have q342 := q327.later hb333
        have q343 := q328.later hb333
        have q344 := h316.later hb333
        have q345 : TsAt w332 _ LN := RowV.own lo331
        refine hK.out _ _ (⟨q336.cell 0, q336.cell 1, q338.cell 0, q338.cell 1, q341.cell 0, q341.cell 1, trivial⟩) (fun hHeld => ?_)
        clear hK K
        try simp only [Act.put, List.setIfInBounds_toArray, List.set_cons_zero, List.set_cons_succ]
        refine wpAnyH_ready (rs := [5, 6]) (by kernel_rfl) (by simp) ?_
        refine AllReadyH.cons (o := { dst := some 41, op := Op.call { callee := Callee.value (Operand.func 28), args := #[Operand.tmp 36, Operand.tmp 40], argTypes := #[27, 23] }, type := 27, pos := "keeps.go:30", after := #[{ on := 0, ground := Ground.data }, { on := 4, ground := Ground.data }, { on := 4, ground := Ground.chain }], guard := none }) rfl (fun K hK => ?_) ?_
        · go_simp
          refine (drop_any q342 q345 HL.out.2.1.2.1 HA.out.2.2.2.2.2.2.2.1).mono ?_
          rintro e w349 ⟨ra346, rc347, rfl, h348, hb350⟩
          have q351 := q334.later hb350
          have q352 := q335.later hb350
          have q353 := q336.later hb350
          have q354 := q337.later hb350
          have q355 := q338.later hb350
          have q356 := q339.later hb350
          have q357 := q340.later hb350
          have q358 := q341.later hb350
          have q359 := q342.later hb350
          have q360 := q343.later hb350
          have q361 := q344.later hb350
          have q362 := q345.later hb350
          refine hK.out _ _ (⟨q353.cell 0, q353.cell 1, q355.cell 0, q355.cell 1, q358.cell 0, q358.cell 1, trivial⟩) (fun hHeld => ?_)
          clear hK K
          try simp only [Act.put, List.setIfInBounds_toArray, List.set_cons_zero, List.set_cons_succ]
          refine wpAnyH_ready (rs := [6]) (by kernel_rfl) (by simp) ?_
          refine AllReadyH.cons (o := { dst := some 12, op := Op.alloc 27, type := 0, pos := "keeps.go:30", after := #[], guard := none }) rfl (fun K hK => ?_) AllReadyH.nil
          go_simp
          have hR := Below.size q360
          obtain ⟨w363, hw364, hb365, p366⟩ := alloc_new w349 #[.bool false, .slice none 0 0] 27
          have q367 := q351.later hb365
          have q368 := q352.later hb365
          have q369 := q353.later hb365
          have q370 := q354.later hb365
          have q371 := q355.later hb365
          have q372 := q356.later hb365
          have q373 := q357.later hb365
          have q374 := q358.later hb365
          have q375 := q359.later hb365
          have q376 := q360.later hb365
          have q377 := q361.later hb365
          have q378 := q362.later hb365
          have q379 := h348.later hb365
          rw [hw364]
          have r0 := p366.cell 0
          have r1 := p366.cell 1
          have f0 := p366.frozen 0
          have f1 := p366.frozen 1
          simp only [List.getElem?_toArray, List.getElem?_cons_zero, List.getElem?_cons_succ] at r0 r1
          refine hK.out _ _ (⟨q369.cell 0, q369.cell 1, q371.cell 0, q371.cell 1, q374.cell 0, q374.cell 1, trivial⟩) (fun hHeld => ?_)
          clear hK K
          try simp only [Act.put, List.setIfInBounds_toArray, List.set_cons_zero, List.set_cons_succ]
          refine wpAnyH_ready (rs := [7]) (by kernel_rfl) (by simp) ?_
          refine AllReadyH.cons (o := { dst := none, op := Op.store 27 (Operand.tmp 12) (Operand.tmp 41), type := 0, pos := "keeps.go:30", after := #[{ on := 6, ground := Ground.data }, { on := 5, ground := Ground.data }, { on := 5, ground := Ground.chain }, { on := 0, ground := Ground.phase }, { on := 1, ground := Ground.phase }, { on := 2, ground := Ground.phase }, { on := 3, ground := Ground.phase }, { on := 4, ground := Ground.phase }, { on := 5, ground := Ground.phase }, { on := 6, ground := Ground.phase }], guard := none }) rfl (fun K hK => ?_) AllReadyH.nil
          go_simp
          refine hK.out _ _ (⟨(q369.set2 (by have := q295.lt; omega) _ _).cell 0, (q369.set2 (by have := q295.lt; omega) _ _).cell 1, (q371.set2 (by have := q297.lt; omega) _ _).cell 0, (q371.set2 (by have := q297.lt; omega) _ _).cell 1, (q374.set2 (by have := p290.lt; omega) _ _).cell 0, (q374.set2 (by have := p290.lt; omega) _ _).cell 1, trivial⟩) (fun hHeld => ?_)
          clear hK K
          refine wpAnyH_done (by kernel_rfl) ?_ _
          go_wp2_with fail
          go_meet
          exact ⟨_, _, _, rfl, (p366.set 0 _).set 1 _, TsAt.set2 q379 _ _ r0 r1, below_set2 q376 hR _ _⟩
        refine AllReadyH.cons (o := { dst := some 12, op := Op.alloc 27, type := 0, pos := "keeps.go:30", after := #[], guard := none }) rfl (fun K hK => ?_) AllReadyH.nil
        go_simp
        have hR := Below.size q343
        obtain ⟨w380, hw381, hb382, p383⟩ := alloc_new w332 #[.bool false, .slice none 0 0] 27
        have q384 := q334.later hb382
        have q385 := q335.later hb382
        have q386 := q336.later hb382
        have q387 := q337.later hb382
        have q388 := q338.later hb382
        have q389 := q339.later hb382
        have q390 := q340.later hb382
        have q391 := q341.later hb382
        have q392 := q342.later hb382
        have q393 := q343.later hb382
        have q394 := q344.later hb382
        have q395 := q345.later hb382
        rw [hw381]
        have r0 := p383.cell 0
        have r1 := p383.cell 1
        have f0 := p383.frozen 0
        have f1 := p383.frozen 1
        simp only [List.getElem?_toArray, List.getElem?_cons_zero, List.getElem?_cons_succ] at r0 r1
        refine hK.out _ _ (⟨q386.cell 0, q386.cell 1, q388.cell 0, q388.cell 1, q391.cell 0, q391.cell 1, trivial⟩) (fun hHeld => ?_)
        clear hK K
        try simp only [Act.put, List.setIfInBounds_toArray, List.set_cons_zero, List.set_cons_succ]
        refine wpAnyH_ready (rs := [5]) (by kernel_rfl) (by simp) ?_
        refine AllReadyH.cons (o := { dst := some 41, op := Op.call { callee := Callee.value (Operand.func 28), args := #[Operand.tmp 36, Operand.tmp 40], argTypes := #[27, 23] }, type := 27, pos := "keeps.go:30", after := #[{ on := 0, ground := Ground.data }, { on := 4, ground := Ground.data }, { on := 4, ground := Ground.chain }], guard := none }) rfl (fun K hK => ?_) AllReadyH.nil
        go_simp
        refine (drop_any q392 q395 HL.out.2.1.2.1 HA.out.2.2.2.2.2.2.2.1).mono ?_
        rintro e w399 ⟨ra396, rc397, rfl, h398, hb400⟩
        have q401 := q384.later hb400
        have q402 := q385.later hb400
        have q403 := q386.later hb400
        have q404 := q387.later hb400
        have q405 := q388.later hb400
        have q406 := q389.later hb400
        have q407 := q390.later hb400
        have q408 := q391.later hb400
        have q409 := q392.later hb400
        have q410 := q393.later hb400
        have q411 := q394.later hb400
        have q412 := q395.later hb400
        have q413 := p383.later hb400
        have r0 := q413.cell 0
        have r1 := q413.cell 1
        have f0 := q413.frozen 0
        have f1 := q413.frozen 1
        simp only [List.getElem?_toArray, List.getElem?_cons_zero, List.getElem?_cons_succ] at r0 r1
        refine hK.out _ _ (⟨q403.cell 0, q403.cell 1, q405.cell 0, q405.cell 1, q408.cell 0, q408.cell 1, trivial⟩) (fun hHeld => ?_)
        clear hK K
        try simp only [Act.put, List.setIfInBounds_toArray, List.set_cons_zero, List.set_cons_succ]
        refine wpAnyH_ready (rs := [7]) (by kernel_rfl) (by simp) ?_
        refine AllReadyH.cons (o := { dst := none, op := Op.store 27 (Operand.tmp 12) (Operand.tmp 41), type := 0, pos := "keeps.go:30", after := #[{ on := 6, ground := Ground.data }, { on := 5, ground := Ground.data }, { on := 5, ground := Ground.chain }, { on := 0, ground := Ground.phase }, { on := 1, ground := Ground.phase }, { on := 2, ground := Ground.phase }, { on := 3, ground := Ground.phase }, { on := 4, ground := Ground.phase }, { on := 5, ground := Ground.phase }, { on := 6, ground := Ground.phase }], guard := none }) rfl (fun K hK => ?_) AllReadyH.nil
        go_simp
        refine hK.out _ _ (⟨(q403.set2 (by have := q295.lt; omega) _ _).cell 0, (q403.set2 (by have := q295.lt; omega) _ _).cell 1, (q405.set2 (by have := q297.lt; omega) _ _).cell 0, (q405.set2 (by have := q297.lt; omega) _ _).cell 1, (q408.set2 (by have := p290.lt; omega) _ _).cell 0, (q408.set2 (by have := p290.lt; omega) _ _).cell 1, trivial⟩) (fun hHeld => ?_)
        clear hK K
        refine wpAnyH_done (by kernel_rfl) ?_ _
        go_wp2_with fail
        go_meet
        exact ⟨_, _, _, rfl, (q413.set 0 _).set 1 _, TsAt.set2 h398 _ _ r0 r1, below_set2 q410 hR _ _⟩
      refine AllReadyH.cons (o := { dst := some 12, op := Op.alloc 27, type := 0, pos := "keeps.go:30", after := #[], guard := none }) rfl (fun K hK => ?_) AllReadyH.nil
      go_simp
      have hR := Below.size q328
      obtain ⟨w414, hw415, hb416, p417⟩ := alloc_new w317 #[.bool false, .slice none 0 0] 27
      have q418 := q319.later hb416
      have q419 := q320.later hb416
      have q420 := q321.later hb416
      have q421 := q322.later hb416
      have q422 := q323.later hb416
      have q423 := q324.later hb416
      have q424 := q325.later hb416
      have q425 := q326.later hb416
      have q426 := q327.later hb416
      have q427 := q328.later hb416
      have q428 := h316.later hb416
      rw [hw415]
      have r0 := p417.cell 0
      have r1 := p417.cell 1
      have f0 := p417.frozen 0
      have f1 := p417.frozen 1
      simp only [List.getElem?_toArray, List.getElem?_cons_zero, List.getElem?_cons_succ] at r0 r1
      refine hK.out _ _ (⟨q420.cell 0, q420.cell 1, q422.cell 0, q422.cell 1, q425.cell 0, q425.cell 1, trivial⟩) (fun hHeld => ?_)
      clear hK K
      try simp only [Act.put, List.setIfInBounds_toArray, List.set_cons_zero, List.set_cons_succ]
      refine wpAnyH_ready (rs := [4]) (by kernel_rfl) (by simp) ?_
      refine AllReadyH.cons (o := { dst := some 40, op := Op.call { callee := Callee.value (Operand.func 15), args := #[Operand.tmp 39], argTypes := #[27] }, type := 23, pos := "keeps.go:30", after := #[{ on := 3, ground := Ground.data }, { on := 3, ground := Ground.chain }], guard := none }) rfl (fun K hK => ?_) AllReadyH.nil
      go_simp
      refine (list_any q428 HN.out.2.1 HL.out.2.2.2.1).mono ?_
      rintro e w432 ⟨la429, lc430, rfl, lo431, hb433⟩
      have q434 := q418.later hb433
      have q435 := q419.later hb433
      have q436 := q420.later hb433
      have q437 := q421.later hb433
      have q438 := q422.later hb433
      have q439 := q423.later hb433
      have q440 := q424.later hb433
      have q441 := q425.later hb433
      have q442 := q426.later hb433
      have q443 := q427.later hb433
      have q444 := q428.later hb433
      have q445 := p417.later hb433
      have q446 : TsAt w432 _ LN := RowV.own lo431
      have r0 := q445.cell 0
      have r1 := q445.cell 1
      have f0 := q445.frozen 0
      have f1 := q445.frozen 1
      simp only [List.getElem?_toArray, List.getElem?_cons_zero, List.getElem?_cons_succ] at r0 r1
      refine hK.out _ _ (⟨q436.cell 0, q436.cell 1, q438.cell 0, q438.cell 1, q441.cell 0, q441.cell 1, trivial⟩) (fun hHeld => ?_)
      clear hK K
      try simp only [Act.put, List.setIfInBounds_toArray, List.set_cons_zero, List.set_cons_succ]
      refine wpAnyH_ready (rs := [5]) (by kernel_rfl) (by simp) ?_
      refine AllReadyH.cons (o := { dst := some 41, op := Op.call { callee := Callee.value (Operand.func 28), args := #[Operand.tmp 36, Operand.tmp 40], argTypes := #[27, 23] }, type := 27, pos := "keeps.go:30", after := #[{ on := 0, ground := Ground.data }, { on := 4, ground := Ground.data }, { on := 4, ground := Ground.chain }], guard := none }) rfl (fun K hK => ?_) AllReadyH.nil
      go_simp
      refine (drop_any q442 q446 HL.out.2.1.2.1 HA.out.2.2.2.2.2.2.2.1).mono ?_
      rintro e w450 ⟨ra447, rc448, rfl, h449, hb451⟩
      have q452 := q434.later hb451
      have q453 := q435.later hb451
      have q454 := q436.later hb451
      have q455 := q437.later hb451
      have q456 := q438.later hb451
      have q457 := q439.later hb451
      have q458 := q440.later hb451
      have q459 := q441.later hb451
      have q460 := q442.later hb451
      have q461 := q443.later hb451
      have q462 := q444.later hb451
      have q463 := q445.later hb451
      have q464 := q446.later hb451
      have r0 := q463.cell 0
      have r1 := q463.cell 1
      have f0 := q463.frozen 0
      have f1 := q463.frozen 1
      simp only [List.getElem?_toArray, List.getElem?_cons_zero, List.getElem?_cons_succ] at r0 r1
      refine hK.out _ _ (⟨q454.cell 0, q454.cell 1, q456.cell 0, q456.cell 1, q459.cell 0, q459.cell 1, trivial⟩) (fun hHeld => ?_)
      clear hK K
      try simp only [Act.put, List.setIfInBounds_toArray, List.set_cons_zero, List.set_cons_succ]
      refine wpAnyH_ready (rs := [7]) (by kernel_rfl) (by simp) ?_
      refine AllReadyH.cons (o := { dst := none, op := Op.store 27 (Operand.tmp 12) (Operand.tmp 41), type := 0, pos := "keeps.go:30", after := #[{ on := 6, ground := Ground.data }, { on := 5, ground := Ground.data }, { on := 5, ground := Ground.chain }, { on := 0, ground := Ground.phase }, { on := 1, ground := Ground.phase }, { on := 2, ground := Ground.phase }, { on := 3, ground := Ground.phase }, { on := 4, ground := Ground.phase }, { on := 5, ground := Ground.phase }, { on := 6, ground := Ground.phase }], guard := none }) rfl (fun K hK => ?_) AllReadyH.nil
      go_simp
      refine hK.out _ _ (⟨(q454.set2 (by have := q295.lt; omega) _ _).cell 0, (q454.set2 (by have := q295.lt; omega) _ _).cell 1, (q456.set2 (by have := q297.lt; omega) _ _).cell 0, (q456.set2 (by have := q297.lt; omega) _ _).cell 1, (q459.set2 (by have := p290.lt; omega) _ _).cell 0, (q459.set2 (by have := p290.lt; omega) _ _).cell 1, trivial⟩) (fun hHeld => ?_)
      clear hK K
      refine wpAnyH_done (by kernel_rfl) ?_ _
      go_wp2_with fail
      go_meet
      exact ⟨_, _, _, rfl, (q463.set 0 _).set 1 _, TsAt.set2 h449 _ _ r0 r1, below_set2 q461 hR _ _⟩
    refine AllReadyH.cons (o := { dst := some 12, op := Op.alloc 27, type := 0, pos := "keeps.go:30", after := #[], guard := none }) rfl (fun K hK => ?_) AllReadyH.nil
    go_simp
    have hR := Below.size q313
    obtain ⟨w465, hw466, hb467, p468⟩ := alloc_new w301 #[.bool false, .slice none 0 0] 27
    have q469 := q304.later hb467
    have q470 := q305.later hb467
    have q471 := q306.later hb467
    have q472 := q307.later hb467
    have q473 := q308.later hb467
    have q474 := q309.later hb467
    have q475 := q310.later hb467
    have q476 := q311.later hb467
    have q477 := q312.later hb467
    have q478 := q313.later hb467
    rw [hw466]
    have r0 := p468.cell 0
    have r1 := p468.cell 1
    have f0 := p468.frozen 0
    have f1 := p468.frozen 1
    simp only [List.getElem?_toArray, List.getElem?_cons_zero, List.getElem?_cons_succ] at r0 r1
    refine hK.out _ _ (⟨q471.cell 0, q471.cell 1, q473.cell 0, q473.cell 1, q476.cell 0, q476.cell 1, trivial⟩) (fun hHeld => ?_)
    clear hK K
    try simp only [Act.put, List.setIfInBounds_toArray, List.set_cons_zero, List.set_cons_succ]
    refine wpAnyH_ready (rs := [3]) (by kernel_rfl) (by simp) ?_
    refine AllReadyH.cons (o := { dst := some 39, op := Op.call { callee := Callee.value (Operand.func 24), args := #[Operand.tmp 37, Operand.tmp 38], argTypes := #[27, 27] }, type := 27, pos := "keeps.go:30", after := #[{ on := 1, ground := Ground.data }, { on := 2, ground := Ground.data }], guard := none }) rfl (fun K hK => ?_) AllReadyH.nil
    go_simp
    refine (less_any q472 q470 HS.out.2.1.fit HS.out.1.fit HA.out.2.2.2.2.2.2.1).mono ?_
    rintro e w482 ⟨na479, nc480, rfl, h481, hb483⟩
    have q484 := q469.later hb483
    have q485 := q470.later hb483
    have q486 := q471.later hb483
    have q487 := q472.later hb483
    have q488 := q473.later hb483
    have q489 := q474.later hb483
    have q490 := q475.later hb483
    have q491 := q476.later hb483
    have q492 := q477.later hb483
    have q493 := q478.later hb483
    have q494 := p468.later hb483
    have r0 := q494.cell 0
    have r1 := q494.cell 1
    have f0 := q494.frozen 0
    have f1 := q494.frozen 1
    simp only [List.getElem?_toArray, List.getElem?_cons_zero, List.getElem?_cons_succ] at r0 r1
    refine hK.out _ _ (⟨q486.cell 0, q486.cell 1, q488.cell 0, q488.cell 1, q491.cell 0, q491.cell 1, trivial⟩) (fun hHeld => ?_)
    clear hK K
    try simp only [Act.put, List.setIfInBounds_toArray, List.set_cons_zero, List.set_cons_succ]
    refine wpAnyH_ready (rs := [4]) (by kernel_rfl) (by simp) ?_
    refine AllReadyH.cons (o := { dst := some 40, op := Op.call { callee := Callee.value (Operand.func 15), args := #[Operand.tmp 39], argTypes := #[27] }, type := 23, pos := "keeps.go:30", after := #[{ on := 3, ground := Ground.data }, { on := 3, ground := Ground.chain }], guard := none }) rfl (fun K hK => ?_) AllReadyH.nil
    go_simp
    refine (list_any h481 HN.out.2.1 HL.out.2.2.2.1).mono ?_
    rintro e w498 ⟨la495, lc496, rfl, lo497, hb499⟩
    have q500 := q484.later hb499
    have q501 := q485.later hb499
    have q502 := q486.later hb499
    have q503 := q487.later hb499
    have q504 := q488.later hb499
    have q505 := q489.later hb499
    have q506 := q490.later hb499
    have q507 := q491.later hb499
    have q508 := q492.later hb499
    have q509 := q493.later hb499
    have q510 := q494.later hb499
    have q511 := h481.later hb499
    have q512 : TsAt w498 _ LN := RowV.own lo497
    have r0 := q510.cell 0
    have r1 := q510.cell 1
    have f0 := q510.frozen 0
    have f1 := q510.frozen 1
    simp only [List.getElem?_toArray, List.getElem?_cons_zero, List.getElem?_cons_succ] at r0 r1
    refine hK.out _ _ (⟨q502.cell 0, q502.cell 1, q504.cell 0, q504.cell 1, q507.cell 0, q507.cell 1, trivial⟩) (fun hHeld => ?_)
    clear hK K
    try simp only [Act.put, List.setIfInBounds_toArray, List.set_cons_zero, List.set_cons_succ]
    refine wpAnyH_ready (rs := [5]) (by kernel_rfl) (by simp) ?_
    refine AllReadyH.cons (o := { dst := some 41, op := Op.call { callee := Callee.value (Operand.func 28), args := #[Operand.tmp 36, Operand.tmp 40], argTypes := #[27, 23] }, type := 27, pos := "keeps.go:30", after := #[{ on := 0, ground := Ground.data }, { on := 4, ground := Ground.data }, { on := 4, ground := Ground.chain }], guard := none }) rfl (fun K hK => ?_) AllReadyH.nil
    go_simp
    refine (drop_any q508 q512 HL.out.2.1.2.1 HA.out.2.2.2.2.2.2.2.1).mono ?_
    rintro e w516 ⟨ra513, rc514, rfl, h515, hb517⟩
    have q518 := q500.later hb517
    have q519 := q501.later hb517
    have q520 := q502.later hb517
    have q521 := q503.later hb517
    have q522 := q504.later hb517
    have q523 := q505.later hb517
    have q524 := q506.later hb517
    have q525 := q507.later hb517
    have q526 := q508.later hb517
    have q527 := q509.later hb517
    have q528 := q510.later hb517
    have q529 := q511.later hb517
    have q530 := q512.later hb517
    have r0 := q528.cell 0
    have r1 := q528.cell 1
    have f0 := q528.frozen 0
    have f1 := q528.frozen 1
    simp only [List.getElem?_toArray, List.getElem?_cons_zero, List.getElem?_cons_succ] at r0 r1
    refine hK.out _ _ (⟨q520.cell 0, q520.cell 1, q522.cell 0, q522.cell 1, q525.cell 0, q525.cell 1, trivial⟩) (fun hHeld => ?_)
    clear hK K
    try simp only [Act.put, List.setIfInBounds_toArray, List.set_cons_zero, List.set_cons_succ]
    refine wpAnyH_ready (rs := [7]) (by kernel_rfl) (by simp) ?_
    refine AllReadyH.cons (o := { dst := none, op := Op.store 27 (Operand.tmp 12) (Operand.tmp 41), type := 0, pos := "keeps.go:30", after := #[{ on := 6, ground := Ground.data }, { on := 5, ground := Ground.data }, { on := 5, ground := Ground.chain }, { on := 0, ground := Ground.phase }, { on := 1, ground := Ground.phase }, { on := 2, ground := Ground.phase }, { on := 3, ground := Ground.phase }, { on := 4, ground := Ground.phase }, { on := 5, ground := Ground.phase }, { on := 6, ground := Ground.phase }], guard := none }) rfl (fun K hK => ?_) AllReadyH.nil
    go_simp
    refine hK.out _ _ (⟨(q520.set2 (by have := q295.lt; omega) _ _).cell 0, (q520.set2 (by have := q295.lt; omega) _ _).cell 1, (q522.set2 (by have := q297.lt; omega) _ _).cell 0, (q522.set2 (by have := q297.lt; omega) _ _).cell 1, (q525.set2 (by have := p290.lt; omega) _ _).cell 0, (q525.set2 (by have := p290.lt; omega) _ _).cell 1, trivial⟩) (fun hHeld => ?_)
    clear hK K
    refine wpAnyH_done (by kernel_rfl) ?_ _
    go_wp2_with fail
    go_meet
    exact ⟨_, _, _, rfl, (q528.set 0 _).set 1 _, TsAt.set2 h515 _ _ r0 r1, below_set2 q527 hR _ _⟩
  case rest =>
  obtain ⟨R531, a532, c533, rfl, p534, t535, hb536⟩ := hcut
  have q537 := q293.later hb536
  have q538 := q294.later hb536
  have q539 := q295.later hb536
  have q540 := q296.later hb536
  have q541 := q297.later hb536
  have q542 := q298.later hb536
  have q543 := q299.later hb536
  have q544 := p290.later hb536
  have q545 := t291.later hb536
  go_wp2_with fail
  obtain ⟨w546, hw547, hb548⟩ := drew_new wc
  have q549 := q537.later hb548
  have q550 := q538.later hb548
  have q551 := q539.later hb548
  have q552 := q540.later hb548
  have q553 := q541.later hb548
  have q554 := q542.later hb548
  have q555 := q543.later hb548
  have q556 := q544.later hb548
  have q557 := q545.later hb548
  have q558 := p534.later hb548
  have q559 := t535.later hb548
  refine wp_region_held_drew (S := (fun w' => w'.cell? ⟨w18.heap.size, 0, none⟩ = some (.bool aa) ∧ w'.cell? ⟨w18.heap.size, 1, none⟩ = some (.slice a15 al.length c16) ∧ w'.cell? ⟨w46.heap.size, 0, none⟩ = some (.bool ba) ∧ w'.cell? ⟨w46.heap.size, 1, none⟩ = some (.slice a43 bl.length c44) ∧ w'.cell? ⟨w136.heap.size, 0, none⟩ = some (.bool ka) ∧ w'.cell? ⟨w136.heap.size, 1, none⟩ = some (.slice a133 kl.length c134) ∧ w'.cell? ⟨R287, 0, none⟩ = some (.bool ga) ∧ w'.cell? ⟨R287, 1, none⟩ = some (.slice a288 gl.length c289) ∧ w'.cell? ⟨R531, 0, none⟩ = some (.bool ha') ∧ w'.cell? ⟨R531, 1, none⟩ = some (.slice a532 hl'.length c533) ∧ True)) (by kernel_rfl) (by rw [hw547]; exact ⟨q551.cell 0, q551.cell 1, q553.cell 0, q553.cell 1, q555.cell 0, q555.cell 1, q556.cell 0, q556.cell 1, q558.cell 0, q558.cell 1, trivial⟩) (fun hHeld => ?_)
  rw [hw547] at hHeld ⊢
  refine wpAnyH_take (i := 0) (oi := { dst := some 42, op := Op.move (Operand.tmp 5), type := 4, pos := "keeps.go:31", after := #[], guard := none }) (v := ?v6) rfl (by kernel_rfl) (by kernel_rfl) (by kernel_rfl) (fun _ _ _ h => h) (Or.inl ⟨by rfl, ?hy6⟩) (by assumption) ?rest6
  case hy6 => (intro w1 hSw; (try dsimp only at hSw); obtain ⟨h0, h1, h2, h3, h4, h5, h6, h7, h8, h9, -⟩ := hSw; go_simp; try with_reducible rfl)
  try simp only [Act.put, List.setIfInBounds_toArray, List.set_cons_zero, List.set_cons_succ]
  refine wpAnyH_take (i := 1) (oi := { dst := some 43, op := Op.move (Operand.tmp 42), type := 4, pos := "keeps.go:31", after := #[{ on := 0, ground := Ground.data }], guard := none }) (v := ?v7) rfl (by kernel_rfl) (by kernel_rfl) (by kernel_rfl) (fun _ _ _ h => h) (Or.inl ⟨by rfl, ?hy7⟩) (by assumption) ?rest7
  case hy7 => (intro w1 hSw; (try dsimp only at hSw); obtain ⟨h0, h1, h2, h3, h4, h5, h6, h7, h8, h9, -⟩ := hSw; go_simp; try with_reducible rfl)
  try simp only [Act.put, List.setIfInBounds_toArray, List.set_cons_zero, List.set_cons_succ]
  refine wpAnyH_take (i := 2) (oi := { dst := some 44, op := Op.load 27 (Operand.tmp 10), type := 27, pos := "keeps.go:31", after := #[{ on := 1, ground := Ground.guard }], guard := some (1, true) }) (v := ?v8) rfl (by kernel_rfl) (by kernel_rfl) (by kernel_rfl) (fun _ _ _ h => h) (Or.inl ⟨by rfl, ?hy8⟩) (by assumption) ?rest8
  case hy8 => (intro w1 hSw; (try dsimp only at hSw); obtain ⟨h0, h1, h2, h3, h4, h5, h6, h7, h8, h9, -⟩ := hSw; go_simp; try with_reducible rfl)
  try simp only [Act.put, List.setIfInBounds_toArray, List.set_cons_zero, List.set_cons_succ]
  refine wpAnyH_take (i := 3) (oi := { dst := some 45, op := Op.load 27 (Operand.tmp 6), type := 27, pos := "keeps.go:31", after := #[{ on := 1, ground := Ground.guard }], guard := some (1, true) }) (v := ?v9) rfl (by kernel_rfl) (by kernel_rfl) (by kernel_rfl) (fun _ _ _ h => h) (Or.inl ⟨by rfl, ?hy9⟩) (by assumption) ?rest9
  case hy9 => (intro w1 hSw; (try dsimp only at hSw); obtain ⟨h0, h1, h2, h3, h4, h5, h6, h7, h8, h9, -⟩ := hSw; go_simp; try with_reducible rfl)
  try simp only [Act.put, List.setIfInBounds_toArray, List.set_cons_zero, List.set_cons_succ]
  refine wpAnyH_ready (rs := [4]) (by kernel_rfl) (by simp) ?_
  refine AllReadyH.cons (o := { dst := some 46, op := Op.call { callee := Callee.value (Operand.func 32), args := #[Operand.tmp 44, Operand.tmp 45], argTypes := #[27, 27] }, type := 4, pos := "keeps.go:31", after := #[{ on := 2, ground := Ground.data }, { on := 3, ground := Ground.data }, { on := 1, ground := Ground.chain }, { on := 1, ground := Ground.guard }], guard := some (1, true) }) rfl (fun K hK => ?_) AllReadyH.nil
  go_simp
  refine (same_any (al := kl) (bl := al) q554 q550 HS.out.2.2.2.2.1.fit HS.out.1.fit H6.out.1).mono ?_
  rintro e w560 ⟨rfl, hb561⟩
  have q562 := q549.later hb561
  have q563 := q550.later hb561
  have q564 := q551.later hb561
  have q565 := q552.later hb561
  have q566 := q553.later hb561
  have q567 := q554.later hb561
  have q568 := q555.later hb561
  have q569 := q556.later hb561
  have q570 := q557.later hb561
  have q571 := q558.later hb561
  have q572 := q559.later hb561
  refine hK.out _ _ (⟨q564.cell 0, q564.cell 1, q566.cell 0, q566.cell 1, q568.cell 0, q568.cell 1, q569.cell 0, q569.cell 1, q571.cell 0, q571.cell 1, trivial⟩) (fun hHeld => ?_)
  clear hK K
  try simp only [Act.put, List.setIfInBounds_toArray, List.set_cons_zero, List.set_cons_succ]
  refine wpAnyH_take (i := 5) (oi := { dst := some 47, op := Op.pick (Operand.tmp 43) (Operand.tmp 46) (Operand.const (Value.bool false)), type := 4, pos := "keeps.go:31", after := #[{ on := 1, ground := Ground.data }, { on := 4, ground := Ground.data }], guard := none }) (v := ?v10) rfl (by kernel_rfl) (by kernel_rfl) (by kernel_rfl) (fun _ _ _ h => h) (Or.inl ⟨by rfl, ?hy10⟩) (by assumption) ?rest10
  case hy10 => (intro w1 hSw; (try dsimp only at hSw); obtain ⟨h0, h1, h2, h3, h4, h5, h6, h7, h8, h9, -⟩ := hSw; go_simp; try with_reducible rfl)
  try simp only [Act.put, List.setIfInBounds_toArray, List.set_cons_zero, List.set_cons_succ]
  refine wpAnyH_take (i := 6) (oi := { dst := some 48, op := Op.move (Operand.tmp 47), type := 4, pos := "keeps.go:31", after := #[{ on := 5, ground := Ground.data }, { on := 4, ground := Ground.chain }], guard := none }) (v := ?v11) rfl (by kernel_rfl) (by kernel_rfl) (by kernel_rfl) (fun _ _ _ h => h) (Or.inl ⟨by rfl, ?hy11⟩) (by assumption) ?rest11
  case hy11 => (intro w1 hSw; (try dsimp only at hSw); obtain ⟨h0, h1, h2, h3, h4, h5, h6, h7, h8, h9, -⟩ := hSw; go_simp; try with_reducible rfl)
  try simp only [Act.put, List.setIfInBounds_toArray, List.set_cons_zero, List.set_cons_succ]
  refine wpAnyH_take (i := 7) (oi := { dst := some 49, op := Op.load 27 (Operand.tmp 6), type := 27, pos := "keeps.go:31", after := #[{ on := 6, ground := Ground.guard }], guard := some (6, true) }) (v := ?v12) rfl (by kernel_rfl) (by kernel_rfl) (by kernel_rfl) (fun _ _ _ h => h) (Or.inl ⟨by rfl, ?hy12⟩) (by assumption) ?rest12
  case hy12 => (intro w1 hSw; (try dsimp only at hSw); obtain ⟨h0, h1, h2, h3, h4, h5, h6, h7, h8, h9, -⟩ := hSw; go_simp; try with_reducible rfl)
  try simp only [Act.put, List.setIfInBounds_toArray, List.set_cons_zero, List.set_cons_succ]
  refine wpAnyH_take (i := 8) (oi := { dst := some 50, op := Op.load 27 (Operand.tmp 6), type := 27, pos := "keeps.go:31", after := #[{ on := 6, ground := Ground.guard }], guard := some (6, true) }) (v := ?v13) rfl (by kernel_rfl) (by kernel_rfl) (by kernel_rfl) (fun _ _ _ h => h) (Or.inl ⟨by rfl, ?hy13⟩) (by assumption) ?rest13
  case hy13 => (intro w1 hSw; (try dsimp only at hSw); obtain ⟨h0, h1, h2, h3, h4, h5, h6, h7, h8, h9, -⟩ := hSw; go_simp; try with_reducible rfl)
  try simp only [Act.put, List.setIfInBounds_toArray, List.set_cons_zero, List.set_cons_succ]
  refine wpAnyH_ready (rs := [9]) (by kernel_rfl) (by simp) ?_
  refine AllReadyH.cons (o := { dst := some 51, op := Op.call { callee := Callee.value (Operand.func 24), args := #[Operand.tmp 49, Operand.tmp 50], argTypes := #[27, 27] }, type := 27, pos := "keeps.go:31", after := #[{ on := 7, ground := Ground.data }, { on := 8, ground := Ground.data }, { on := 6, ground := Ground.chain }, { on := 6, ground := Ground.guard }], guard := some (6, true) }) rfl (fun K hK => ?_) AllReadyH.nil
  go_simp
  refine (less_any q563 q563 HS.out.1.fit HS.out.1.fit HA.out.2.2.2.2.2.2.2.2.1).mono ?_
  rintro e w576 ⟨za573, zc574, rfl, h575, hb577⟩
  have q578 := q562.later hb577
  have q579 := q563.later hb577
  have q580 := q564.later hb577
  have q581 := q565.later hb577
  have q582 := q566.later hb577
  have q583 := q567.later hb577
  have q584 := q568.later hb577
  have q585 := q569.later hb577
  have q586 := q570.later hb577
  have q587 := q571.later hb577
  have q588 := q572.later hb577
  refine hK.out _ _ (⟨q580.cell 0, q580.cell 1, q582.cell 0, q582.cell 1, q584.cell 0, q584.cell 1, q585.cell 0, q585.cell 1, q587.cell 0, q587.cell 1, trivial⟩) (fun hHeld => ?_)
  clear hK K
  try simp only [Act.put, List.setIfInBounds_toArray, List.set_cons_zero, List.set_cons_succ]
  refine wpAnyH_ready (rs := [10]) (by kernel_rfl) (by simp) ?_
  refine AllReadyH.cons (o := { dst := some 52, op := Op.call { callee := Callee.value (Operand.func 19), args := #[Operand.tmp 51], argTypes := #[27] }, type := 4, pos := "keeps.go:31", after := #[{ on := 9, ground := Ground.data }, { on := 9, ground := Ground.chain }, { on := 6, ground := Ground.guard }], guard := some (6, true) }) rfl (fun K hK => ?_) AllReadyH.nil
  go_simp
  refine (empty_any (sl := zl) (B := true) H6.out.2.1).mono ?_
  rintro e w589 ⟨rfl, hb590⟩
  have q591 := q578.later hb590
  have q592 := q579.later hb590
  have q593 := q580.later hb590
  have q594 := q581.later hb590
  have q595 := q582.later hb590
  have q596 := q583.later hb590
  have q597 := q584.later hb590
  have q598 := q585.later hb590
  have q599 := q586.later hb590
  have q600 := q587.later hb590
  have q601 := q588.later hb590
  have q602 := h575.later hb590
  refine hK.out _ _ (⟨q593.cell 0, q593.cell 1, q595.cell 0, q595.cell 1, q597.cell 0, q597.cell 1, q598.cell 0, q598.cell 1, q600.cell 0, q600.cell 1, trivial⟩) (fun hHeld => ?_)
  clear hK K
  try simp only [Act.put, List.setIfInBounds_toArray, List.set_cons_zero, List.set_cons_succ]
  refine wpAnyH_take (i := 11) (oi := { dst := some 53, op := Op.pick (Operand.tmp 48) (Operand.tmp 52) (Operand.const (Value.bool false)), type := 4, pos := "keeps.go:31", after := #[{ on := 6, ground := Ground.data }, { on := 10, ground := Ground.data }], guard := none }) (v := ?v14) rfl (by kernel_rfl) (by kernel_rfl) (by kernel_rfl) (fun _ _ _ h => h) (Or.inl ⟨by rfl, ?hy14⟩) (by assumption) ?rest14
  case hy14 => (intro w1 hSw; (try dsimp only at hSw); obtain ⟨h0, h1, h2, h3, h4, h5, h6, h7, h8, h9, -⟩ := hSw; go_simp; try with_reducible rfl)
  try simp only [Act.put, List.setIfInBounds_toArray, List.set_cons_zero, List.set_cons_succ]
  refine wpAnyH_take (i := 12) (oi := { dst := some 54, op := Op.move (Operand.tmp 53), type := 4, pos := "keeps.go:31", after := #[{ on := 11, ground := Ground.data }, { on := 10, ground := Ground.chain }], guard := none }) (v := ?v15) rfl (by kernel_rfl) (by kernel_rfl) (by kernel_rfl) (fun _ _ _ h => h) (Or.inl ⟨by rfl, ?hy15⟩) (by assumption) ?rest15
  case hy15 => (intro w1 hSw; (try dsimp only at hSw); obtain ⟨h0, h1, h2, h3, h4, h5, h6, h7, h8, h9, -⟩ := hSw; go_simp; try with_reducible rfl)
  try simp only [Act.put, List.setIfInBounds_toArray, List.set_cons_zero, List.set_cons_succ]
  refine wpAnyH_take (i := 13) (oi := { dst := some 55, op := Op.load 27 (Operand.tmp 12), type := 27, pos := "keeps.go:31", after := #[{ on := 12, ground := Ground.guard }], guard := some (12, true) }) (v := ?v16) rfl (by kernel_rfl) (by kernel_rfl) (by kernel_rfl) (fun _ _ _ h => h) (Or.inl ⟨by rfl, ?hy16⟩) (by assumption) ?rest16
  case hy16 => (intro w1 hSw; (try dsimp only at hSw); obtain ⟨h0, h1, h2, h3, h4, h5, h6, h7, h8, h9, -⟩ := hSw; go_simp; try with_reducible rfl)
  try simp only [Act.put, List.setIfInBounds_toArray, List.set_cons_zero, List.set_cons_succ]
  refine wpAnyH_take (i := 14) (oi := { dst := some 56, op := Op.load 27 (Operand.tmp 6), type := 27, pos := "keeps.go:31", after := #[{ on := 12, ground := Ground.guard }], guard := some (12, true) }) (v := ?v17) rfl (by kernel_rfl) (by kernel_rfl) (by kernel_rfl) (fun _ _ _ h => h) (Or.inl ⟨by rfl, ?hy17⟩) (by assumption) ?rest17
  case hy17 => (intro w1 hSw; (try dsimp only at hSw); obtain ⟨h0, h1, h2, h3, h4, h5, h6, h7, h8, h9, -⟩ := hSw; go_simp; try with_reducible rfl)
  try simp only [Act.put, List.setIfInBounds_toArray, List.set_cons_zero, List.set_cons_succ]
  refine wpAnyH_ready (rs := [15]) (by kernel_rfl) (by simp) ?_
  refine AllReadyH.cons (o := { dst := some 57, op := Op.call { callee := Callee.value (Operand.func 32), args := #[Operand.tmp 55, Operand.tmp 56], argTypes := #[27, 27] }, type := 4, pos := "keeps.go:31", after := #[{ on := 13, ground := Ground.data }, { on := 14, ground := Ground.data }, { on := 12, ground := Ground.chain }, { on := 12, ground := Ground.guard }], guard := some (12, true) }) rfl (fun K hK => ?_) AllReadyH.nil
  go_simp
  refine (same_any (al := hl') (bl := al) q601 q592 HS.out.2.2.2.2.2.2.1.fit HS.out.1.fit H6.out.2.2.1).mono ?_
  rintro e w603 ⟨rfl, hb604⟩
  have q605 := q591.later hb604
  have q606 := q592.later hb604
  have q607 := q593.later hb604
  have q608 := q594.later hb604
  have q609 := q595.later hb604
  have q610 := q596.later hb604
  have q611 := q597.later hb604
  have q612 := q598.later hb604
  have q613 := q599.later hb604
  have q614 := q600.later hb604
  have q615 := q601.later hb604
  have q616 := q602.later hb604
  refine hK.out _ _ (⟨q607.cell 0, q607.cell 1, q609.cell 0, q609.cell 1, q611.cell 0, q611.cell 1, q612.cell 0, q612.cell 1, q614.cell 0, q614.cell 1, trivial⟩) (fun hHeld => ?_)
  clear hK K
  try simp only [Act.put, List.setIfInBounds_toArray, List.set_cons_zero, List.set_cons_succ]
  refine wpAnyH_take (i := 16) (oi := { dst := some 58, op := Op.pick (Operand.tmp 54) (Operand.tmp 57) (Operand.const (Value.bool false)), type := 4, pos := "keeps.go:31", after := #[{ on := 12, ground := Ground.data }, { on := 15, ground := Ground.data }], guard := none }) (v := ?v18) rfl (by kernel_rfl) (by kernel_rfl) (by kernel_rfl) (fun _ _ _ h => h) (Or.inl ⟨by rfl, ?hy18⟩) (by assumption) ?rest18
  case hy18 => (intro w1 hSw; (try dsimp only at hSw); obtain ⟨h0, h1, h2, h3, h4, h5, h6, h7, h8, h9, -⟩ := hSw; go_simp; try with_reducible rfl)
  try simp only [Act.put, List.setIfInBounds_toArray, List.set_cons_zero, List.set_cons_succ]
  refine wpAnyH_take (i := 17) (oi := { dst := some 59, op := Op.move (Operand.tmp 58), type := 4, pos := "keeps.go:31", after := #[{ on := 16, ground := Ground.data }, { on := 15, ground := Ground.chain }], guard := none }) (v := ?v19) rfl (by kernel_rfl) (by kernel_rfl) (by kernel_rfl) (fun _ _ _ h => h) (Or.inl ⟨by rfl, ?hy19⟩) (by assumption) ?rest19
  case hy19 => (intro w1 hSw; (try dsimp only at hSw); obtain ⟨h0, h1, h2, h3, h4, h5, h6, h7, h8, h9, -⟩ := hSw; go_simp; try with_reducible rfl)
  try simp only [Act.put, List.setIfInBounds_toArray, List.set_cons_zero, List.set_cons_succ]
  refine wpAnyH_take (i := 18) (oi := { dst := some 60, op := Op.load 27 (Operand.tmp 11), type := 27, pos := "keeps.go:31", after := #[{ on := 17, ground := Ground.guard }], guard := some (17, true) }) (v := ?v20) rfl (by kernel_rfl) (by kernel_rfl) (by kernel_rfl) (fun _ _ _ h => h) (Or.inl ⟨by rfl, ?hy20⟩) (by assumption) ?rest20
  case hy20 => (intro w1 hSw; (try dsimp only at hSw); obtain ⟨h0, h1, h2, h3, h4, h5, h6, h7, h8, h9, -⟩ := hSw; go_simp; try with_reducible rfl)
  try simp only [Act.put, List.setIfInBounds_toArray, List.set_cons_zero, List.set_cons_succ]
  refine wpAnyH_take (i := 19) (oi := { dst := some 61, op := Op.load 27 (Operand.tmp 6), type := 27, pos := "keeps.go:31", after := #[{ on := 17, ground := Ground.guard }], guard := some (17, true) }) (v := ?v21) rfl (by kernel_rfl) (by kernel_rfl) (by kernel_rfl) (fun _ _ _ h => h) (Or.inl ⟨by rfl, ?hy21⟩) (by assumption) ?rest21
  case hy21 => (intro w1 hSw; (try dsimp only at hSw); obtain ⟨h0, h1, h2, h3, h4, h5, h6, h7, h8, h9, -⟩ := hSw; go_simp; try with_reducible rfl)
  try simp only [Act.put, List.setIfInBounds_toArray, List.set_cons_zero, List.set_cons_succ]
  refine wpAnyH_take (i := 20) (oi := { dst := some 62, op := Op.load 27 (Operand.tmp 7), type := 27, pos := "keeps.go:31", after := #[{ on := 17, ground := Ground.guard }], guard := some (17, true) }) (v := ?v22) rfl (by kernel_rfl) (by kernel_rfl) (by kernel_rfl) (fun _ _ _ h => h) (Or.inl ⟨by rfl, ?hy22⟩) (by assumption) ?rest22
  case hy22 => (intro w1 hSw; (try dsimp only at hSw); obtain ⟨h0, h1, h2, h3, h4, h5, h6, h7, h8, h9, -⟩ := hSw; go_simp; try with_reducible rfl)
  try simp only [Act.put, List.setIfInBounds_toArray, List.set_cons_zero, List.set_cons_succ]
  refine wpAnyH_ready (rs := [21]) (by kernel_rfl) (by simp) ?_
  refine AllReadyH.cons (o := { dst := some 63, op := Op.buildSlice 61 2 #[(0, Operand.tmp 61), (1, Operand.tmp 62)], type := 61, pos := "keeps.go:31", after := #[{ on := 19, ground := Ground.data }, { on := 20, ground := Ground.data }, { on := 17, ground := Ground.guard }], guard := some (17, true) }) rfl (fun K hK => ?_) AllReadyH.nil
  go_simp
  obtain ⟨w617, hw618, hb619, p620⟩ := alloc_new w603 #[.bool aa, .slice a15 al.length c16, .bool ba, .slice a43 bl.length c44] 27
  have q621 := q605.later hb619
  have q622 := q606.later hb619
  have q623 := q607.later hb619
  have q624 := q608.later hb619
  have q625 := q609.later hb619
  have q626 := q610.later hb619
  have q627 := q611.later hb619
  have q628 := q612.later hb619
  have q629 := q613.later hb619
  have q630 := q614.later hb619
  have q631 := q615.later hb619
  have q632 := q616.later hb619
  rw [hw618]
  refine hK.out _ _ (⟨q623.cell 0, q623.cell 1, q625.cell 0, q625.cell 1, q627.cell 0, q627.cell 1, q628.cell 0, q628.cell 1, q630.cell 0, q630.cell 1, trivial⟩) (fun hHeld => ?_)
  clear hK K
  try simp only [Act.put, List.setIfInBounds_toArray, List.set_cons_zero, List.set_cons_succ]
  refine wpAnyH_ready (rs := [22]) (by kernel_rfl) (by simp) ?_
  refine AllReadyH.cons (o := { dst := some 64, op := Op.call { callee := Callee.value (Operand.func 22), args := #[Operand.tmp 63], argTypes := #[61] }, type := 27, pos := "keeps.go:31", after := #[{ on := 21, ground := Ground.data }, { on := 17, ground := Ground.chain }, { on := 17, ground := Ground.guard }], guard := some (17, true) }) rfl (fun K hK => ?_) AllReadyH.nil
  go_simp
  refine (union_any (n := 2) (sets_two p620 q622 rfl q624 rfl) rfl (fit_two HS.out.1.fit HS.out.2.1.fit HL.out.1.2) HA.out.2.2.2.2.2.2.2.2.2.1).mono ?_
  rintro e w636 ⟨ua633, uc634, rfl, h635, hb637⟩
  have q638 := q621.later hb637
  have q639 := q622.later hb637
  have q640 := q623.later hb637
  have q641 := q624.later hb637
  have q642 := q625.later hb637
  have q643 := q626.later hb637
  have q644 := q627.later hb637
  have q645 := q628.later hb637
  have q646 := q629.later hb637
  have q647 := q630.later hb637
  have q648 := q631.later hb637
  have q649 := q632.later hb637
  have q650 := p620.later hb637
  refine hK.out _ _ (⟨q640.cell 0, q640.cell 1, q642.cell 0, q642.cell 1, q644.cell 0, q644.cell 1, q645.cell 0, q645.cell 1, q647.cell 0, q647.cell 1, trivial⟩) (fun hHeld => ?_)
  clear hK K
  try simp only [Act.put, List.setIfInBounds_toArray, List.set_cons_zero, List.set_cons_succ]
  refine wpAnyH_ready (rs := [23]) (by kernel_rfl) (by simp) ?_
  refine AllReadyH.cons (o := { dst := some 65, op := Op.call { callee := Callee.value (Operand.func 32), args := #[Operand.tmp 60, Operand.tmp 64], argTypes := #[27, 27] }, type := 4, pos := "keeps.go:31", after := #[{ on := 18, ground := Ground.data }, { on := 22, ground := Ground.data }, { on := 22, ground := Ground.chain }, { on := 17, ground := Ground.guard }], guard := some (17, true) }) rfl (fun K hK => ?_) AllReadyH.nil
  go_simp
  refine (same_any (al := gl) (bl := ul) q646 h635 HS.out.2.2.2.2.2.1.fit HS.out.2.2.2.2.2.2.2.1.fit H6.out.2.2.2.1).mono ?_
  rintro e w651 ⟨rfl, hb652⟩
  have q653 := q638.later hb652
  have q654 := q639.later hb652
  have q655 := q640.later hb652
  have q656 := q641.later hb652
  have q657 := q642.later hb652
  have q658 := q643.later hb652
  have q659 := q644.later hb652
  have q660 := q645.later hb652
  have q661 := q646.later hb652
  have q662 := q647.later hb652
  have q663 := q648.later hb652
  have q664 := q649.later hb652
  have q665 := q650.later hb652
  have q666 := h635.later hb652
  refine hK.out _ _ (⟨q655.cell 0, q655.cell 1, q657.cell 0, q657.cell 1, q659.cell 0, q659.cell 1, q660.cell 0, q660.cell 1, q662.cell 0, q662.cell 1, trivial⟩) (fun hHeld => ?_)
  clear hK K
  try simp only [Act.put, List.setIfInBounds_toArray, List.set_cons_zero, List.set_cons_succ]
  refine wpAnyH_take (i := 24) (oi := { dst := some 66, op := Op.pick (Operand.tmp 59) (Operand.tmp 65) (Operand.const (Value.bool false)), type := 4, pos := "keeps.go:31", after := #[{ on := 17, ground := Ground.data }, { on := 23, ground := Ground.data }], guard := none }) (v := ?v23) rfl (by kernel_rfl) (by kernel_rfl) (by kernel_rfl) (fun _ _ _ h => h) (Or.inl ⟨by rfl, ?hy23⟩) (by assumption) ?rest23
  case hy23 => (intro w1 hSw; (try dsimp only at hSw); obtain ⟨h0, h1, h2, h3, h4, h5, h6, h7, h8, h9, -⟩ := hSw; go_simp; try with_reducible rfl)
  try simp only [Act.put, List.setIfInBounds_toArray, List.set_cons_zero, List.set_cons_succ]
  refine wpAnyH_take (i := 25) (oi := { dst := some 67, op := Op.move (Operand.tmp 66), type := 4, pos := "keeps.go:31", after := #[{ on := 24, ground := Ground.data }, { on := 23, ground := Ground.chain }], guard := none }) (v := ?v24) rfl (by kernel_rfl) (by kernel_rfl) (by kernel_rfl) (fun _ _ _ h => h) (Or.inl ⟨by rfl, ?hy24⟩) (by assumption) ?rest24
  case hy24 => (intro w1 hSw; (try dsimp only at hSw); obtain ⟨h0, h1, h2, h3, h4, h5, h6, h7, h8, h9, -⟩ := hSw; go_simp; try with_reducible rfl)
  try simp only [Act.put, List.setIfInBounds_toArray, List.set_cons_zero, List.set_cons_succ]
  refine wpAnyH_take (i := 26) (oi := { dst := some 68, op := Op.load 27 (Operand.tmp 6), type := 27, pos := "keeps.go:31", after := #[{ on := 25, ground := Ground.guard }], guard := some (25, true) }) (v := ?v25) rfl (by kernel_rfl) (by kernel_rfl) (by kernel_rfl) (fun _ _ _ h => h) (Or.inl ⟨by rfl, ?hy25⟩) (by assumption) ?rest25
  case hy25 => (intro w1 hSw; (try dsimp only at hSw); obtain ⟨h0, h1, h2, h3, h4, h5, h6, h7, h8, h9, -⟩ := hSw; go_simp; try with_reducible rfl)
  try simp only [Act.put, List.setIfInBounds_toArray, List.set_cons_zero, List.set_cons_succ]
  refine wpAnyH_take (i := 27) (oi := { dst := some 69, op := Op.load 27 (Operand.tmp 6), type := 27, pos := "keeps.go:31", after := #[{ on := 25, ground := Ground.guard }], guard := some (25, true) }) (v := ?v26) rfl (by kernel_rfl) (by kernel_rfl) (by kernel_rfl) (fun _ _ _ h => h) (Or.inl ⟨by rfl, ?hy26⟩) (by assumption) ?rest26
  case hy26 => (intro w1 hSw; (try dsimp only at hSw); obtain ⟨h0, h1, h2, h3, h4, h5, h6, h7, h8, h9, -⟩ := hSw; go_simp; try with_reducible rfl)
  try simp only [Act.put, List.setIfInBounds_toArray, List.set_cons_zero, List.set_cons_succ]
  refine wpAnyH_take (i := 30) (oi := { dst := some 72, op := Op.build 27 #[], type := 27, pos := "keeps.go:31", after := #[{ on := 25, ground := Ground.guard }], guard := some (25, true) }) (v := ?v27) rfl (by kernel_rfl) (by kernel_rfl) (by kernel_rfl) (fun _ _ _ h => h) (Or.inl ⟨by rfl, ?hy27⟩) (by assumption) ?rest27
  case hy27 => (intro w1 hSw; (try dsimp only at hSw); obtain ⟨h0, h1, h2, h3, h4, h5, h6, h7, h8, h9, -⟩ := hSw; go_simp; try with_reducible rfl)
  try simp only [Act.put, List.setIfInBounds_toArray, List.set_cons_zero, List.set_cons_succ]
  refine wpAnyH_ready (rs := [28]) (by kernel_rfl) (by simp) ?_
  refine AllReadyH.cons (o := { dst := some 70, op := Op.call { callee := Callee.value (Operand.func 15), args := #[Operand.tmp 69], argTypes := #[27] }, type := 23, pos := "keeps.go:31", after := #[{ on := 27, ground := Ground.data }, { on := 25, ground := Ground.chain }, { on := 25, ground := Ground.guard }], guard := some (25, true) }) rfl (fun K hK => ?_) AllReadyH.nil
  go_simp
  refine (list_any q654 HN.out.2.2 HL.out.2.2.2.2).mono ?_
  rintro e w670 ⟨la667, lc668, rfl, lo669, hb671⟩
  have q672 := q653.later hb671
  have q673 := q654.later hb671
  have q674 := q655.later hb671
  have q675 := q656.later hb671
  have q676 := q657.later hb671
  have q677 := q658.later hb671
  have q678 := q659.later hb671
  have q679 := q660.later hb671
  have q680 := q661.later hb671
  have q681 := q662.later hb671
  have q682 := q663.later hb671
  have q683 := q664.later hb671
  have q684 := q665.later hb671
  have q685 := q666.later hb671
  have q686 : TsAt w670 _ LA := RowV.own lo669
  refine hK.out _ _ (⟨q674.cell 0, q674.cell 1, q676.cell 0, q676.cell 1, q678.cell 0, q678.cell 1, q679.cell 0, q679.cell 1, q681.cell 0, q681.cell 1, trivial⟩) (fun hHeld => ?_)
  clear hK K
  try simp only [Act.put, List.setIfInBounds_toArray, List.set_cons_zero, List.set_cons_succ]
  refine wpAnyH_ready (rs := [29]) (by kernel_rfl) (by simp) ?_
  refine AllReadyH.cons (o := { dst := some 71, op := Op.call { callee := Callee.value (Operand.func 28), args := #[Operand.tmp 68, Operand.tmp 70], argTypes := #[27, 23] }, type := 27, pos := "keeps.go:31", after := #[{ on := 26, ground := Ground.data }, { on := 28, ground := Ground.data }, { on := 28, ground := Ground.chain }, { on := 25, ground := Ground.guard }], guard := some (25, true) }) rfl (fun K hK => ?_) AllReadyH.nil
  go_simp
  refine (drop_any q673 q686 HL.out.2.1.2.2 HA.out.2.2.2.2.2.2.2.2.2.2.1).mono ?_
  rintro e w690 ⟨da687, dc688, rfl, h689, hb691⟩
  have q692 := q672.later hb691
  have q693 := q673.later hb691
  have q694 := q674.later hb691
  have q695 := q675.later hb691
  have q696 := q676.later hb691
  have q697 := q677.later hb691
  have q698 := q678.later hb691
  have q699 := q679.later hb691
  have q700 := q680.later hb691
  have q701 := q681.later hb691
  have q702 := q682.later hb691
  have q703 := q683.later hb691
  have q704 := q684.later hb691
  have q705 := q685.later hb691
  have q706 := q686.later hb691
  refine hK.out _ _ (⟨q694.cell 0, q694.cell 1, q696.cell 0, q696.cell 1, q698.cell 0, q698.cell 1, q699.cell 0, q699.cell 1, q701.cell 0, q701.cell 1, trivial⟩) (fun hHeld => ?_)
  clear hK K
  try simp only [Act.put, List.setIfInBounds_toArray, List.set_cons_zero, List.set_cons_succ]
  refine wpAnyH_ready (rs := [31]) (by kernel_rfl) (by simp) ?_
  refine AllReadyH.cons (o := { dst := some 73, op := Op.call { callee := Callee.value (Operand.func 32), args := #[Operand.tmp 71, Operand.tmp 72], argTypes := #[27, 27] }, type := 4, pos := "keeps.go:31", after := #[{ on := 29, ground := Ground.data }, { on := 30, ground := Ground.data }, { on := 29, ground := Ground.chain }, { on := 25, ground := Ground.guard }], guard := some (25, true) }) rfl (fun K hK => ?_) AllReadyH.nil
  go_simp
  refine (same_any (al := dl) (bl := []) h689 (RowV.nil _ none 0 (Nat.zero_le _)) HS.out.2.2.2.2.2.2.2.2.1.fit nm_nil H6.out.2.2.2.2.1).mono ?_
  rintro e w707 ⟨rfl, hb708⟩
  have q709 := q692.later hb708
  have q710 := q693.later hb708
  have q711 := q694.later hb708
  have q712 := q695.later hb708
  have q713 := q696.later hb708
  have q714 := q697.later hb708
  have q715 := q698.later hb708
  have q716 := q699.later hb708
  have q717 := q700.later hb708
  have q718 := q701.later hb708
  have q719 := q702.later hb708
  have q720 := q703.later hb708
  have q721 := q704.later hb708
  have q722 := q705.later hb708
  have q723 := q706.later hb708
  have q724 := h689.later hb708
  refine hK.out _ _ (⟨q711.cell 0, q711.cell 1, q713.cell 0, q713.cell 1, q715.cell 0, q715.cell 1, q716.cell 0, q716.cell 1, q718.cell 0, q718.cell 1, trivial⟩) (fun hHeld => ?_)
  clear hK K
  try simp only [Act.put, List.setIfInBounds_toArray, List.set_cons_zero, List.set_cons_succ]
  refine wpAnyH_take (i := 32) (oi := { dst := some 74, op := Op.pick (Operand.tmp 67) (Operand.tmp 73) (Operand.const (Value.bool false)), type := 4, pos := "keeps.go:31", after := #[{ on := 25, ground := Ground.data }, { on := 31, ground := Ground.data }], guard := none }) (v := ?v28) rfl (by kernel_rfl) (by kernel_rfl) (by kernel_rfl) (fun _ _ _ h => h) (Or.inl ⟨by rfl, ?hy28⟩) (by assumption) ?rest28
  case hy28 => (intro w1 hSw; (try dsimp only at hSw); obtain ⟨h0, h1, h2, h3, h4, h5, h6, h7, h8, h9, -⟩ := hSw; go_simp; try with_reducible rfl)
  try simp only [Act.put, List.setIfInBounds_toArray, List.set_cons_zero, List.set_cons_succ]
  refine wpAnyH_take (i := 33) (oi := { dst := some 75, op := Op.move (Operand.tmp 74), type := 4, pos := "keeps.go:31", after := #[{ on := 32, ground := Ground.data }, { on := 31, ground := Ground.chain }], guard := none }) (v := ?v29) rfl (by kernel_rfl) (by kernel_rfl) (by kernel_rfl) (fun _ _ _ h => h) (Or.inl ⟨by rfl, ?hy29⟩) (by assumption) ?rest29
  case hy29 => (intro w1 hSw; (try dsimp only at hSw); obtain ⟨h0, h1, h2, h3, h4, h5, h6, h7, h8, h9, -⟩ := hSw; go_simp; try with_reducible rfl)
  try simp only [Act.put, List.setIfInBounds_toArray, List.set_cons_zero, List.set_cons_succ]
  refine wpAnyH_take (i := 34) (oi := { dst := some 76, op := Op.load 27 (Operand.tmp 6), type := 27, pos := "keeps.go:31", after := #[{ on := 33, ground := Ground.guard }], guard := some (33, true) }) (v := ?v30) rfl (by kernel_rfl) (by kernel_rfl) (by kernel_rfl) (fun _ _ _ h => h) (Or.inl ⟨by rfl, ?hy30⟩) (by assumption) ?rest30
  case hy30 => (intro w1 hSw; (try dsimp only at hSw); obtain ⟨h0, h1, h2, h3, h4, h5, h6, h7, h8, h9, -⟩ := hSw; go_simp; try with_reducible rfl)
  try simp only [Act.put, List.setIfInBounds_toArray, List.set_cons_zero, List.set_cons_succ]
  refine wpAnyH_take (i := 37) (oi := { dst := some 79, op := Op.load 27 (Operand.tmp 6), type := 27, pos := "keeps.go:31", after := #[{ on := 33, ground := Ground.guard }], guard := some (33, true) }) (v := ?v31) rfl (by kernel_rfl) (by kernel_rfl) (by kernel_rfl) (fun _ _ _ h => h) (Or.inl ⟨by rfl, ?hy31⟩) (by assumption) ?rest31
  case hy31 => (intro w1 hSw; (try dsimp only at hSw); obtain ⟨h0, h1, h2, h3, h4, h5, h6, h7, h8, h9, -⟩ := hSw; go_simp; try with_reducible rfl)
  try simp only [Act.put, List.setIfInBounds_toArray, List.set_cons_zero, List.set_cons_succ]
  refine wpAnyH_ready (rs := [35]) (by kernel_rfl) (by simp) ?_
  refine AllReadyH.cons (o := { dst := some 77, op := Op.call { callee := Callee.value (Operand.func 15), args := #[Operand.tmp 76], argTypes := #[27] }, type := 23, pos := "keeps.go:31", after := #[{ on := 34, ground := Ground.data }, { on := 33, ground := Ground.chain }, { on := 33, ground := Ground.guard }], guard := some (33, true) }) rfl (fun K hK => ?_) AllReadyH.nil
  go_simp
  refine (list_any q710 HN.out.2.2 HL.out.2.2.2.2).mono ?_
  rintro e w728 ⟨la725, lc726, rfl, lo727, hb729⟩
  have q730 := q709.later hb729
  have q731 := q710.later hb729
  have q732 := q711.later hb729
  have q733 := q712.later hb729
  have q734 := q713.later hb729
  have q735 := q714.later hb729
  have q736 := q715.later hb729
  have q737 := q716.later hb729
  have q738 := q717.later hb729
  have q739 := q718.later hb729
  have q740 := q719.later hb729
  have q741 := q720.later hb729
  have q742 := q721.later hb729
  have q743 := q722.later hb729
  have q744 := q723.later hb729
  have q745 := q724.later hb729
  have q746 : TsAt w728 _ LA := RowV.own lo727
  refine hK.out _ _ (⟨q732.cell 0, q732.cell 1, q734.cell 0, q734.cell 1, q736.cell 0, q736.cell 1, q737.cell 0, q737.cell 1, q739.cell 0, q739.cell 1, trivial⟩) (fun hHeld => ?_)
  clear hK K
  try simp only [Act.put, List.setIfInBounds_toArray, List.set_cons_zero, List.set_cons_succ]
  refine wpAnyH_ready (rs := [36]) (by kernel_rfl) (by simp) ?_
  refine AllReadyH.cons (o := { dst := some 78, op := Op.call { callee := Callee.value (Operand.func 11), args := #[Operand.tmp 77], argTypes := #[23] }, type := 27, pos := "keeps.go:31", after := #[{ on := 35, ground := Ground.data }, { on := 35, ground := Ground.chain }, { on := 33, ground := Ground.guard }], guard := some (33, true) }) rfl (fun K hK => ?_) AllReadyH.nil
  go_simp
  refine (of_any q746 HF.out.2.2 HA.out.2.2.2.2.2.2.2.2.2.2.2).mono ?_
  rintro e w750 ⟨ea747, ec748, rfl, h749, hb751⟩
  have q752 := q730.later hb751
  have q753 := q731.later hb751
  have q754 := q732.later hb751
  have q755 := q733.later hb751
  have q756 := q734.later hb751
  have q757 := q735.later hb751
  have q758 := q736.later hb751
  have q759 := q737.later hb751
  have q760 := q738.later hb751
  have q761 := q739.later hb751
  have q762 := q740.later hb751
  have q763 := q741.later hb751
  have q764 := q742.later hb751
  have q765 := q743.later hb751
  have q766 := q744.later hb751
  have q767 := q745.later hb751
  have q768 := q746.later hb751
  refine hK.out _ _ (⟨q754.cell 0, q754.cell 1, q756.cell 0, q756.cell 1, q758.cell 0, q758.cell 1, q759.cell 0, q759.cell 1, q761.cell 0, q761.cell 1, trivial⟩) (fun hHeld => ?_)
  clear hK K
  try simp only [Act.put, List.setIfInBounds_toArray, List.set_cons_zero, List.set_cons_succ]
  refine wpAnyH_ready (rs := [38]) (by kernel_rfl) (by simp) ?_
  refine AllReadyH.cons (o := { dst := some 80, op := Op.call { callee := Callee.value (Operand.func 32), args := #[Operand.tmp 78, Operand.tmp 79], argTypes := #[27, 27] }, type := 4, pos := "keeps.go:31", after := #[{ on := 36, ground := Ground.data }, { on := 37, ground := Ground.data }, { on := 36, ground := Ground.chain }, { on := 33, ground := Ground.guard }], guard := some (33, true) }) rfl (fun K hK => ?_) AllReadyH.nil
  go_simp
  refine (same_any (al := el) (bl := al) h749 q753 HS.out.2.2.2.2.2.2.2.2.2.fit HS.out.1.fit H6.out.2.2.2.2.2).mono ?_
  rintro e w769 ⟨rfl, hb770⟩
  have q771 := q752.later hb770
  have q772 := q753.later hb770
  have q773 := q754.later hb770
  have q774 := q755.later hb770
  have q775 := q756.later hb770
  have q776 := q757.later hb770
  have q777 := q758.later hb770
  have q778 := q759.later hb770
  have q779 := q760.later hb770
  have q780 := q761.later hb770
  have q781 := q762.later hb770
  have q782 := q763.later hb770
  have q783 := q764.later hb770
  have q784 := q765.later hb770
  have q785 := q766.later hb770
  have q786 := q767.later hb770
  have q787 := q768.later hb770
  have q788 := h749.later hb770
  refine hK.out _ _ (⟨q773.cell 0, q773.cell 1, q775.cell 0, q775.cell 1, q777.cell 0, q777.cell 1, q778.cell 0, q778.cell 1, q780.cell 0, q780.cell 1, trivial⟩) (fun hHeld => ?_)
  clear hK K
  try simp only [Act.put, List.setIfInBounds_toArray, List.set_cons_zero, List.set_cons_succ]
  refine wpAnyH_take (i := 39) (oi := { dst := some 81, op := Op.pick (Operand.tmp 75) (Operand.tmp 80) (Operand.const (Value.bool false)), type := 4, pos := "keeps.go:31", after := #[{ on := 33, ground := Ground.data }, { on := 38, ground := Ground.data }], guard := none }) (v := ?v32) rfl (by kernel_rfl) (by kernel_rfl) (by kernel_rfl) (fun _ _ _ h => h) (Or.inl ⟨by rfl, ?hy32⟩) (by assumption) ?rest32
  case hy32 => (intro w1 hSw; (try dsimp only at hSw); obtain ⟨h0, h1, h2, h3, h4, h5, h6, h7, h8, h9, -⟩ := hSw; go_simp; try with_reducible rfl)
  try simp only [Act.put, List.setIfInBounds_toArray, List.set_cons_zero, List.set_cons_succ]
  refine wpAnyH_take (i := 40) (oi := { dst := some 4, op := Op.assign (Operand.tmp 81), type := 4, pos := "keeps.go:31", after := #[{ on := 39, ground := Ground.data }, { on := 38, ground := Ground.chain }, { on := 0, ground := Ground.phase }, { on := 1, ground := Ground.phase }, { on := 2, ground := Ground.phase }, { on := 3, ground := Ground.phase }, { on := 4, ground := Ground.phase }, { on := 5, ground := Ground.phase }, { on := 6, ground := Ground.phase }, { on := 7, ground := Ground.phase }, { on := 8, ground := Ground.phase }, { on := 9, ground := Ground.phase }, { on := 10, ground := Ground.phase }, { on := 11, ground := Ground.phase }, { on := 12, ground := Ground.phase }, { on := 13, ground := Ground.phase }, { on := 14, ground := Ground.phase }, { on := 15, ground := Ground.phase }, { on := 16, ground := Ground.phase }, { on := 17, ground := Ground.phase }, { on := 18, ground := Ground.phase }, { on := 19, ground := Ground.phase }, { on := 20, ground := Ground.phase }, { on := 21, ground := Ground.phase }, { on := 22, ground := Ground.phase }, { on := 23, ground := Ground.phase }, { on := 24, ground := Ground.phase }, { on := 25, ground := Ground.phase }, { on := 26, ground := Ground.phase }, { on := 27, ground := Ground.phase }, { on := 28, ground := Ground.phase }, { on := 29, ground := Ground.phase }, { on := 30, ground := Ground.phase }, { on := 31, ground := Ground.phase }, { on := 32, ground := Ground.phase }, { on := 33, ground := Ground.phase }, { on := 34, ground := Ground.phase }, { on := 35, ground := Ground.phase }, { on := 36, ground := Ground.phase }, { on := 37, ground := Ground.phase }, { on := 38, ground := Ground.phase }, { on := 39, ground := Ground.phase }], guard := none }) (v := ?v33) rfl (by kernel_rfl) (by kernel_rfl) (by kernel_rfl) (fun _ _ _ h => h) (Or.inl ⟨by rfl, ?hy33⟩) (by assumption) ?rest33
  case hy33 => (intro w1 hSw; (try dsimp only at hSw); obtain ⟨h0, h1, h2, h3, h4, h5, h6, h7, h8, h9, -⟩ := hSw; go_simp; try with_reducible rfl)
  try simp only [Act.put, List.setIfInBounds_toArray, List.set_cons_zero, List.set_cons_succ]
  refine wpAnyH_done (by kernel_rfl) ?_ _
  go_wp2_with fail
  go_ret
  exact ⟨rfl, q771⟩
end Go.Proofs.Ytinjbfepjbogeaa
