/- NamesSets: the walk. -/
import Derived.Test.YtdcfdcjgheijcaaNmRAdd
import Derived.Test.YtdcfdcjgheijcaaNmRSets
import Derived.Test.YtdcfdcjgheijcaaNmRPick
import Derived.Test.YtdcfdcjgheijcaaNmUnionP
import Derived.Test.YtdcfdcjgheijcaaNmSame
import Derived.Test.YtdcfdcjgheijcaaNmNeq
import Derived.Deep.DeepCutAuto
import Derived.Deep.CutRange
import Derived.Deep.CutBlock
namespace Go.Proofs.Ytdcfdcjgheijcaa
open Go.RowKit Go.Lib

theorem sets_three {w : World} {B n1 c1 n2 c2 n3 c3 : Nat} {a1 a2 a3 : Option Addr} {t : TypeId} {b1 b2 b3 : Bool} {l1 l2 l3 : List (List UInt8)} (hb : Blk w B #[.bool b1, .slice a1 n1 c1, .bool b2, .slice a2 n2 c2, .bool b3, .slice a3 n3 c3] t) (h1 : TsAt w (.slice a1 n1 c1) l1) (hn1 : l1.length = n1) (h2 : TsAt w (.slice a2 n2 c2) l2) (hn2 : l2.length = n2) (h3 : TsAt w (.slice a3 n3 c3) l3) (hn3 : l3.length = n3) : SetsAt w (some ⟨B, 0, none⟩) [⟨b1, l1⟩, ⟨b2, l2⟩, ⟨b3, l3⟩] := by
  subst hn1; subst hn2; subst hn3
  intro i s hi
  match i with
  | 0 =>
    obtain rfl := Option.some.inj hi
    exact ⟨B, 0, a1, c1, rfl, hb.lt, hb.cell 0, hb.cell 1, h1⟩
  | 1 =>
    obtain rfl := Option.some.inj hi
    exact ⟨B, 0, a2, c2, rfl, hb.lt, hb.cell 2, hb.cell 3, h2⟩
  | 2 =>
    obtain rfl := Option.some.inj hi
    exact ⟨B, 0, a3, c3, rfl, hb.lt, hb.cell 4, hb.cell 5, h3⟩
  | i + 3 => simp at hi
theorem fit_three {aa ba ca : Bool} {al bl cl : List (List UInt8)} (ha : NmFit al) (hb : NmFit bl) (hc : NmFit cl) (hn : al.length + bl.length + cl.length ≤ 200) : NssFit [⟨aa, al⟩, ⟨ba, bl⟩, ⟨ca, cl⟩] := ⟨fun s hs x hx => by
    rcases List.mem_cons.1 hs with rfl | hs
    · exact ha.1 x hx
    · rcases List.mem_cons.1 hs with rfl | hs
      · exact hb.1 x hx
      · obtain rfl := List.mem_singleton.1 hs; exact hc.1 x hx, by simp only [List.flatMap_cons, List.flatMap_nil, List.append_nil, List.length_append]; omega, by show (3 : Nat) ≤ 1000000; omega⟩
theorem sum2 {a b : Nat} (ha : a ≤ 20) (hb : b ≤ 20) : (a + b + 1) * 16 ≤ 140737488355328 := by omega
theorem sum2' {a b : Nat} (ha : a ≤ 20) (hb : b ≤ 20) : (a + b) * 16 ≤ 140737488355328 := by omega
theorem sum3 {a b c : Nat} (ha : a ≤ 20) (hb : b ≤ 20) (hc : c ≤ 20) : a + b + c ≤ 200 := by omega
theorem three_len {aa ba ca : Bool} {al bl cl : List (List UInt8)} (hn : al.length + bl.length + cl.length ≤ 200) : ((([⟨aa, al⟩, ⟨ba, bl⟩, ⟨ca, cl⟩] : List Ns).flatMap (·.ns)).length + 1) * 16 ≤ 140737488355328 := by
  simp only [List.flatMap_cons, List.flatMap_nil, List.append_nil, List.length_append]
  omega
theorem same_rise {aa ba : Bool} {al bl : List (List UInt8)} (ha : Rises al) (hb : Rises bl) : nSame ⟨aa, al⟩ ⟨ba, bl⟩ = (aa == ba && al == bl) := by
  unfold nSame
  rw [srt_self ha, srt_self hb]
  congr 1
  rw [Bool.eq_iff_iff]; simp
def tab5 : List (List UInt8) := [[97], [98], [99], [88], [104, 45, 49]]
def tab5V : Array Value := #[.string ⟨#[97]⟩, .string ⟨#[98]⟩, .string ⟨#[99]⟩, .string ⟨#[88]⟩, .string ⟨#[104, 45, 49]⟩]
theorem tab5_cell (κ : Nat) (h : κ < 5) : tab5V[κ]? = some (encStr (tab5.getD κ [])) := by
  match κ with
  | 0 | 1 | 2 | 3 | 4 => rfl
  | κ + 5 => omega
theorem tab5_len (κ : Nat) (h : κ < 5) : (tab5.getD κ []).length ≤ maxLen := by
  have h4 : (tab5.getD κ []).length ≤ 4 := by
    match κ with
    | 0 | 1 | 2 | 3 | 4 => decide
    | κ + 5 => omega
  unfold maxLen; omega

set_option maxRecDepth 100000 in
set_option maxHeartbeats 8000000 in
theorem sets_walk (a1 a2 a3 a4 : Option Addr) (n1 n2 n3 n4 c1 c2 c3 c4 : Nat) (m1 m2 m3 m4 : List Nat) (w : World) (h1 : BytesIn w a1 m1) (h2 : BytesIn w a2 m2) (h3 : BytesIn w a3 m3) (h4 : BytesIn w a4 m4) (hl1 : m1.length = n1) (hl2 : m2.length = n2) (hl3 : m3.length = n3) (hl4 : m4.length = n4)
    (hn1 : n1 ≤ 9223372036854775807) (hn2 : n2 ≤ 9223372036854775807) (hn3 : n3 ≤ 9223372036854775807) (hn4 : n4 ≤ 9223372036854775807) (hb4 : ∀ n ∈ m4, n < 256) :
    Calls Try.prog 3 #[.slice a1 n1 c1, .slice a2 n2 c2, .slice a3 n3 c3, .slice a4 n4 c4] w fun e w' => e = .returned (.bool true) ∧ Below w.heap.size w w' := by
  obtain ⟨aa, al, ha⟩ : ∃ aa al, nOf okN (fewL m1) = ⟨aa, al⟩ := ⟨_, _, rfl⟩
  obtain ⟨ba, bl, hb⟩ : ∃ ba bl, nOf okN (fewL m2) = ⟨ba, bl⟩ := ⟨_, _, rfl⟩
  obtain ⟨ca, cl, hc⟩ : ∃ ca cl, nOf okN (fewL m3) = ⟨ca, cl⟩ := ⟨_, _, rfl⟩
  obtain ⟨ua, ul, hu⟩ : ∃ ua ul, nUnion [⟨aa, al⟩, ⟨ba, bl⟩, ⟨ca, cl⟩] = ⟨ua, ul⟩ := ⟨_, _, rfl⟩
  obtain ⟨la, ll, hl⟩ : ∃ la ll, nLess ⟨aa, al⟩ ⟨ba, bl⟩ = ⟨la, ll⟩ := ⟨_, _, rfl⟩
  obtain ⟨da, dl, hd⟩ : ∃ da dl, nUnion [⟨aa, al⟩, nOf okN (fewL m2)] = ⟨da, dl⟩ := ⟨_, _, rfl⟩
  obtain ⟨ea, el, he⟩ : ∃ ea el, nLess ⟨aa, al⟩ (nOf okN (fewL m3)) = ⟨ea, el⟩ := ⟨_, _, rfl⟩
  have sA := small_of m1 ha
  have sB := small_of m2 hb
  have sC := small_of m3 hc
  have lA := (of_fit (few_fit m1) ha).2
  have lB := (of_fit (few_fit m2) hb).2
  have lC := (of_fit (few_fit m3) hc).2
  have fA := few_len m1
  have fB := few_len m2
  have fC := few_len m3
  have kA := Nat.le_trans lA fA
  have kB := Nat.le_trans lB fB
  have kC := Nat.le_trans lC fC
  have hzA := sum2 kA fB
  have hzB := sum2 kA fC
  have hz3' := three_len (aa := aa) (ba := ba) (ca := ca) (al := al) (bl := bl) (cl := cl) (sum3 kA kB kC)
  have fit3 := fit_three (aa := aa) (ba := ba) (ca := ca) sA.fit sB.fit sC.fit (sum3 kA kB kC)
  have ad2 : AddFit al (fewL m2) := ⟨sA.fit, few_fit m2, sum2' kA fB⟩
  have ad3 : AddFit al (fewL m3) := ⟨sA.fit, few_fit m3, sum2' kA fC⟩
  obtain ⟨BB, hBB⟩ : ∃ BB, nSame ⟨aa, al⟩ ⟨ba, bl⟩ = BB := ⟨_, rfl⟩
  have hBB2 := (same_rise (aa := aa) (ba := ba) sA.rises sB.rises).symm.trans hBB
  have HA := Lib.hid (And.intro ha (And.intro hb (And.intro hc (And.intro hu (And.intro hl (And.intro hd he))))))
  have HS := Lib.hid (And.intro sA (And.intro sB (And.intro sC (And.intro fit3 (And.intro ad2 ad3)))))
  have HB := Lib.hid (And.intro hBB hBB2)
  have HZ := Lib.hid (And.intro hz3' (And.intro hzA hzB))
  have H4 := Lib.hid (And.intro hl4 hb4)
  clear kA kB kC ha hb hc hu hl hd he sA sB sC lA lB lC fA fB fC fit3 ad2 ad3 hBB hBB2 hz3' hzA hzB hl4 hb4
  have B0 : Base w w := Below.refl _ _
  go_enter Try.func3, Try.ntmps3
  go_wp2_with fail
  refine (examples_any w).mono ?_
  rintro e w1 ⟨rfl, hb2⟩
  have q3 := B0.later hb2
  have q4 := h1.later hb2
  have q5 := h2.later hb2
  have q6 := h3.later hb2
  have q7 := h4.later hb2
  clear B0 h1 h2 h3 h4
  go_wp2_with fail
  refine (few_any q4 hl1 hn1).mono ?_
  rintro e w11 ⟨fa8, fc9, rfl, fo10, hb12⟩
  have q13 := q3.later hb12
  have q14 := q4.later hb12
  have q15 := q5.later hb12
  have q16 := q6.later hb12
  have q17 := q7.later hb12
  clear q3 q4 q5 q6 q7
  have q18 : TsAt w11 _ (fewL m1) := RowV.own fo10
  go_wp2_with fail
  refine (of_any q18 (few_fit m1) HA.out.1).mono ?_
  rintro e w22 ⟨a19, c20, rfl, h21, hb23⟩
  have q24 := q13.later hb23
  have q25 := q14.later hb23
  have q26 := q15.later hb23
  have q27 := q16.later hb23
  have q28 := q17.later hb23
  have q29 := q18.later hb23
  clear q13 q14 q15 q16 q17 q18
  obtain ⟨w30, hw31, hb32, p33⟩ := alloc_new w22 #[.bool aa, .slice a19 al.length c20] 26
  have q34 := q24.later hb32
  have q35 := q25.later hb32
  have q36 := q26.later hb32
  have q37 := q27.later hb32
  have q38 := q28.later hb32
  have q39 := h21.later hb32
  go_wp2_with fail
  refine (few_any q36 hl2 hn2).mono ?_
  rintro e w43 ⟨fa40, fc41, rfl, fo42, hb44⟩
  have q45 := q34.later hb44
  have q46 := q35.later hb44
  have q47 := q36.later hb44
  have q48 := q37.later hb44
  have q49 := q38.later hb44
  have q50 := q39.later hb44
  have q51 := p33.later hb44
  clear q34 q35 q36 q37 q38 q39 p33
  have q52 : TsAt w43 _ (fewL m2) := RowV.own fo42
  go_wp2_with fail
  refine (of_any q52 (few_fit m2) HA.out.2.1).mono ?_
  rintro e w56 ⟨a53, c54, rfl, h55, hb57⟩
  have q58 := q45.later hb57
  have q59 := q46.later hb57
  have q60 := q47.later hb57
  have q61 := q48.later hb57
  have q62 := q49.later hb57
  have q63 := q50.later hb57
  have q64 := q51.later hb57
  have q65 := q52.later hb57
  clear q45 q46 q47 q48 q49 q50 q51 q52
  obtain ⟨w66, hw67, hb68, p69⟩ := alloc_new w56 #[.bool ba, .slice a53 bl.length c54] 26
  have q70 := q58.later hb68
  have q71 := q59.later hb68
  have q72 := q60.later hb68
  have q73 := q61.later hb68
  have q74 := q62.later hb68
  have q75 := q63.later hb68
  have q76 := q64.later hb68
  have q77 := h55.later hb68
  go_wp2_with fail
  refine (few_any q73 hl3 hn3).mono ?_
  rintro e w81 ⟨fa78, fc79, rfl, fo80, hb82⟩
  have q83 := q70.later hb82
  have q84 := q71.later hb82
  have q85 := q72.later hb82
  have q86 := q73.later hb82
  have q87 := q74.later hb82
  have q88 := q75.later hb82
  have q89 := q76.later hb82
  have q90 := q77.later hb82
  have q91 := p69.later hb82
  clear q70 q71 q72 q73 q74 q75 q76 q77 p69
  have q92 : TsAt w81 _ (fewL m3) := RowV.own fo80
  go_wp2_with fail
  refine (of_any q92 (few_fit m3) HA.out.2.2.1).mono ?_
  rintro e w96 ⟨a93, c94, rfl, h95, hb97⟩
  have q98 := q83.later hb97
  have q99 := q84.later hb97
  have q100 := q85.later hb97
  have q101 := q86.later hb97
  have q102 := q87.later hb97
  have q103 := q88.later hb97
  have q104 := q89.later hb97
  have q105 := q90.later hb97
  have q106 := q91.later hb97
  have q107 := q92.later hb97
  clear q83 q84 q85 q86 q87 q88 q89 q90 q91 q92
  obtain ⟨w108, hw109, hb110, p111⟩ := alloc_new w96 #[.bool ca, .slice a93 cl.length c94] 26
  have q112 := q98.later hb110
  have q113 := q99.later hb110
  have q114 := q100.later hb110
  have q115 := q101.later hb110
  have q116 := q102.later hb110
  have q117 := q103.later hb110
  have q118 := q104.later hb110
  have q119 := q105.later hb110
  have q120 := q106.later hb110
  have q121 := h95.later hb110
  have c122 := q118.cell 0
  have c123 := q118.cell 1
  simp only [List.getElem?_toArray, List.getElem?_cons_zero, List.getElem?_cons_succ] at c122 c123
  go_wp2_with fail
  refine (ref_any (sl := al) q117).mono ?_
  rintro e w127 ⟨a124, c125, rfl, h126, hb128⟩
  have q129 := q112.later hb128
  have q130 := q113.later hb128
  have q131 := q114.later hb128
  have q132 := q115.later hb128
  have q133 := q116.later hb128
  have q134 := q117.later hb128
  have q135 := q118.later hb128
  have q136 := q119.later hb128
  have q137 := q120.later hb128
  have q138 := q121.later hb128
  have q139 := p111.later hb128
  clear q112 q113 q114 q115 q116 q117 q118 q119 q120 q121 p111
  clear c122 c123
  obtain ⟨w140, hw141, hb142, p143⟩ := alloc_new w127 #[.bool aa, .slice a124 al.length c125] 29
  have q144 := q129.later hb142
  have q145 := q130.later hb142
  have q146 := q131.later hb142
  have q147 := q132.later hb142
  have q148 := q133.later hb142
  have q149 := q134.later hb142
  have q150 := q135.later hb142
  have q151 := q136.later hb142
  have q152 := q137.later hb142
  have q153 := q138.later hb142
  have q154 := q139.later hb142
  have q155 := h126.later hb142
  have c156 := q152.cell 0
  have c157 := q152.cell 1
  simp only [List.getElem?_toArray, List.getElem?_cons_zero, List.getElem?_cons_succ] at c156 c157
  go_wp2_with fail
  refine (ref_any (sl := bl) q151).mono ?_
  rintro e w161 ⟨a158, c159, rfl, h160, hb162⟩
  have q163 := q144.later hb162
  have q164 := q145.later hb162
  have q165 := q146.later hb162
  have q166 := q147.later hb162
  have q167 := q148.later hb162
  have q168 := q149.later hb162
  have q169 := q150.later hb162
  have q170 := q151.later hb162
  have q171 := q152.later hb162
  have q172 := q153.later hb162
  have q173 := q154.later hb162
  have q174 := q155.later hb162
  have q175 := p143.later hb162
  clear q144 q145 q146 q147 q148 q149 q150 q151 q152 q153 q154 q155 p143
  clear c156 c157
  obtain ⟨w176, hw177, hb178, p179⟩ := alloc_new w161 #[.bool ba, .slice a158 bl.length c159] 29
  have q180 := q163.later hb178
  have q181 := q164.later hb178
  have q182 := q165.later hb178
  have q183 := q166.later hb178
  have q184 := q167.later hb178
  have q185 := q168.later hb178
  have q186 := q169.later hb178
  have q187 := q170.later hb178
  have q188 := q171.later hb178
  have q189 := q172.later hb178
  have q190 := q173.later hb178
  have q191 := q174.later hb178
  have q192 := q175.later hb178
  have q193 := h160.later hb178
  have c194 := q190.cell 0
  have c195 := q190.cell 1
  simp only [List.getElem?_toArray, List.getElem?_cons_zero, List.getElem?_cons_succ] at c194 c195
  go_wp2_with fail
  refine (ref_any (sl := cl) q189).mono ?_
  rintro e w199 ⟨a196, c197, rfl, h198, hb200⟩
  have q201 := q180.later hb200
  have q202 := q181.later hb200
  have q203 := q182.later hb200
  have q204 := q183.later hb200
  have q205 := q184.later hb200
  have q206 := q185.later hb200
  have q207 := q186.later hb200
  have q208 := q187.later hb200
  have q209 := q188.later hb200
  have q210 := q189.later hb200
  have q211 := q190.later hb200
  have q212 := q191.later hb200
  have q213 := q192.later hb200
  have q214 := q193.later hb200
  have q215 := p179.later hb200
  clear q180 q181 q182 q183 q184 q185 q186 q187 q188 q189 q190 q191 q192 q193 p179
  clear c194 c195
  obtain ⟨w216, hw217, hb218, p219⟩ := alloc_new w199 #[.bool ca, .slice a196 cl.length c197] 29
  have q220 := q201.later hb218
  have q221 := q202.later hb218
  have q222 := q203.later hb218
  have q223 := q204.later hb218
  have q224 := q205.later hb218
  have q225 := q206.later hb218
  have q226 := q207.later hb218
  have q227 := q208.later hb218
  have q228 := q209.later hb218
  have q229 := q210.later hb218
  have q230 := q211.later hb218
  have q231 := q212.later hb218
  have q232 := q213.later hb218
  have q233 := q214.later hb218
  have q234 := q215.later hb218
  have q235 := h198.later hb218
  go_wp2_with fail
  go_cut [16] (fun sv wx => ∃ z, z = wx ∧ (sv = .bool true ∧ Below w216.heap.size w216 wx))
  case first =>
    have b236 : Base w216 w216 := Below.refl _ _
    obtain ⟨w237, hw238, hb239⟩ := drew_new w216
    have q240 := q220.later hb239
    have q241 := q221.later hb239
    have q242 := q222.later hb239
    have q243 := q223.later hb239
    have q244 := q224.later hb239
    have q245 := q225.later hb239
    have q246 := q226.later hb239
    have q247 := q227.later hb239
    have q248 := q228.later hb239
    have q249 := q229.later hb239
    have q250 := q230.later hb239
    have q251 := q231.later hb239
    have q252 := q232.later hb239
    have q253 := q233.later hb239
    have q254 := q234.later hb239
    have q255 := q235.later hb239
    have q256 := p219.later hb239
    have q257 := b236.later hb239
    refine wp_region_held_drew (S := (fun w' => w'.cell? ⟨w22.heap.size, 0, none⟩ = some (.bool aa) ∧ w'.cell? ⟨w22.heap.size, 1, none⟩ = some (.slice a19 al.length c20) ∧ w'.cell? ⟨w56.heap.size, 0, none⟩ = some (.bool ba) ∧ w'.cell? ⟨w56.heap.size, 1, none⟩ = some (.slice a53 bl.length c54) ∧ w'.cell? ⟨w96.heap.size, 0, none⟩ = some (.bool ca) ∧ w'.cell? ⟨w96.heap.size, 1, none⟩ = some (.slice a93 cl.length c94) ∧ w'.cell? ⟨w127.heap.size, 0, none⟩ = some (.bool aa) ∧ w'.cell? ⟨w127.heap.size, 1, none⟩ = some (.slice a124 al.length c125) ∧ w'.cell? ⟨w161.heap.size, 0, none⟩ = some (.bool ba) ∧ w'.cell? ⟨w161.heap.size, 1, none⟩ = some (.slice a158 bl.length c159) ∧ w'.cell? ⟨w199.heap.size, 0, none⟩ = some (.bool ca) ∧ w'.cell? ⟨w199.heap.size, 1, none⟩ = some (.slice a196 cl.length c197) ∧ True)) (by kernel_rfl) (by rw [hw238]; exact ⟨q246.cell 0, q246.cell 1, q248.cell 0, q248.cell 1, q250.cell 0, q250.cell 1, q252.cell 0, q252.cell 1, q254.cell 0, q254.cell 1, q256.cell 0, q256.cell 1, trivial⟩) (fun hHeld => ?_)
    rw [hw238] at hHeld ⊢
    refine wpAnyH_take (i := 0) (oi := { dst := some 43, op := Op.load 26 (Operand.tmp 10), type := 26, pos := "law.go:76", after := #[], guard := none }) (v := ?v1) rfl (by kernel_rfl) (by kernel_rfl) (by kernel_rfl) (fun _ _ _ h => h) (Or.inl ⟨by rfl, ?hy1⟩) (by assumption) ?rest1
    case hy1 => (intro w1 hSw; (try dsimp only at hSw); obtain ⟨h0, h1, h2, h3, h4, h5, h6, h7, h8, h9, h10, h11, -⟩ := hSw; go_simp; try with_reducible rfl)
    try simp only [Act.put, List.setIfInBounds_toArray, List.set_cons_zero, List.set_cons_succ]
    refine wpAnyH_take (i := 1) (oi := { dst := some 44, op := Op.load 26 (Operand.tmp 11), type := 26, pos := "law.go:76", after := #[], guard := none }) (v := ?v2) rfl (by kernel_rfl) (by kernel_rfl) (by kernel_rfl) (fun _ _ _ h => h) (Or.inl ⟨by rfl, ?hy2⟩) (by assumption) ?rest2
    case hy2 => (intro w1 hSw; (try dsimp only at hSw); obtain ⟨h0, h1, h2, h3, h4, h5, h6, h7, h8, h9, h10, h11, -⟩ := hSw; go_simp; try with_reducible rfl)
    try simp only [Act.put, List.setIfInBounds_toArray, List.set_cons_zero, List.set_cons_succ]
    refine wpAnyH_take (i := 2) (oi := { dst := some 45, op := Op.load 26 (Operand.tmp 12), type := 26, pos := "law.go:76", after := #[], guard := none }) (v := ?v3) rfl (by kernel_rfl) (by kernel_rfl) (by kernel_rfl) (fun _ _ _ h => h) (Or.inl ⟨by rfl, ?hy3⟩) (by assumption) ?rest3
    case hy3 => (intro w1 hSw; (try dsimp only at hSw); obtain ⟨h0, h1, h2, h3, h4, h5, h6, h7, h8, h9, h10, h11, -⟩ := hSw; go_simp; try with_reducible rfl)
    try simp only [Act.put, List.setIfInBounds_toArray, List.set_cons_zero, List.set_cons_succ]
    refine wpAnyH_take (i := 5) (oi := { dst := some 48, op := Op.load 29 (Operand.tmp 13), type := 29, pos := "law.go:76", after := #[], guard := none }) (v := ?v4) rfl (by kernel_rfl) (by kernel_rfl) (by kernel_rfl) (fun _ _ _ h => h) (Or.inl ⟨by rfl, ?hy4⟩) (by assumption) ?rest4
    case hy4 => (intro w1 hSw; (try dsimp only at hSw); obtain ⟨h0, h1, h2, h3, h4, h5, h6, h7, h8, h9, h10, h11, -⟩ := hSw; go_simp; try with_reducible rfl)
    try simp only [Act.put, List.setIfInBounds_toArray, List.set_cons_zero, List.set_cons_succ]
    refine wpAnyH_take (i := 6) (oi := { dst := some 49, op := Op.load 29 (Operand.tmp 14), type := 29, pos := "law.go:76", after := #[], guard := none }) (v := ?v5) rfl (by kernel_rfl) (by kernel_rfl) (by kernel_rfl) (fun _ _ _ h => h) (Or.inl ⟨by rfl, ?hy5⟩) (by assumption) ?rest5
    case hy5 => (intro w1 hSw; (try dsimp only at hSw); obtain ⟨h0, h1, h2, h3, h4, h5, h6, h7, h8, h9, h10, h11, -⟩ := hSw; go_simp; try with_reducible rfl)
    try simp only [Act.put, List.setIfInBounds_toArray, List.set_cons_zero, List.set_cons_succ]
    refine wpAnyH_take (i := 7) (oi := { dst := some 50, op := Op.load 29 (Operand.tmp 15), type := 29, pos := "law.go:76", after := #[], guard := none }) (v := ?v6) rfl (by kernel_rfl) (by kernel_rfl) (by kernel_rfl) (fun _ _ _ h => h) (Or.inl ⟨by rfl, ?hy6⟩) (by assumption) ?rest6
    case hy6 => (intro w1 hSw; (try dsimp only at hSw); obtain ⟨h0, h1, h2, h3, h4, h5, h6, h7, h8, h9, h10, h11, -⟩ := hSw; go_simp; try with_reducible rfl)
    try simp only [Act.put, List.setIfInBounds_toArray, List.set_cons_zero, List.set_cons_succ]
    refine wpAnyH_ready (rs := [3, 8]) (by kernel_rfl) (by simp) ?_
    refine AllReadyH.cons (o := { dst := some 46, op := Op.buildSlice 54 3 #[(0, Operand.tmp 43), (1, Operand.tmp 44), (2, Operand.tmp 45)], type := 54, pos := "law.go:76", after := #[{ on := 0, ground := Ground.data }, { on := 1, ground := Ground.data }, { on := 2, ground := Ground.data }], guard := none }) rfl (fun K hK => ?_) ?_
    · go_simp
      obtain ⟨w258, hw259, hb260, p261⟩ := alloc_new w237 #[.bool aa, .slice a19 al.length c20, .bool ba, .slice a53 bl.length c54, .bool ca, .slice a93 cl.length c94] 26
      have q262 := q240.later hb260
      have q263 := q241.later hb260
      have q264 := q242.later hb260
      have q265 := q243.later hb260
      have q266 := q244.later hb260
      have q267 := q245.later hb260
      have q268 := q246.later hb260
      have q269 := q247.later hb260
      have q270 := q248.later hb260
      have q271 := q249.later hb260
      have q272 := q250.later hb260
      have q273 := q251.later hb260
      have q274 := q252.later hb260
      have q275 := q253.later hb260
      have q276 := q254.later hb260
      have q277 := q255.later hb260
      have q278 := q256.later hb260
      have q279 := q257.later hb260
      rw [hw259]
      try clear hHeld
      refine hK.out _ _ (⟨q268.cell 0, q268.cell 1, q270.cell 0, q270.cell 1, q272.cell 0, q272.cell 1, q274.cell 0, q274.cell 1, q276.cell 0, q276.cell 1, q278.cell 0, q278.cell 1, trivial⟩) (fun hHeld => ?_)
      clear hK K
      try simp only [Act.put, List.setIfInBounds_toArray, List.set_cons_zero, List.set_cons_succ]
      refine wpAnyH_ready (rs := [4, 8]) (by kernel_rfl) (by simp) ?_
      refine AllReadyH.cons (o := { dst := some 47, op := Op.call { callee := Callee.value (Operand.func 9), args := #[Operand.tmp 46], argTypes := #[54] }, type := 26, pos := "law.go:76", after := #[{ on := 3, ground := Ground.data }], guard := none }) rfl (fun K hK => ?_) ?_
      · go_simp
        refine (union_any (n := 3) (sets_three p261 q267 rfl q269 rfl q271 rfl) rfl HS.out.2.2.2.1 HA.out.2.2.2.1).mono ?_
        rintro e w283 ⟨a280, c281, rfl, h282, hb284⟩
        have q285 := q262.later hb284
        have q286 := q263.later hb284
        have q287 := q264.later hb284
        have q288 := q265.later hb284
        have q289 := q266.later hb284
        have q290 := q267.later hb284
        have q291 := q268.later hb284
        have q292 := q269.later hb284
        have q293 := q270.later hb284
        have q294 := q271.later hb284
        have q295 := q272.later hb284
        have q296 := q273.later hb284
        have q297 := q274.later hb284
        have q298 := q275.later hb284
        have q299 := q276.later hb284
        have q300 := q277.later hb284
        have q301 := q278.later hb284
        have q302 := q279.later hb284
        have q303 := p261.later hb284
        clear q262 q263 q264 q265 q266 q267 q268 q269 q270 q271 q272 q273 q274 q275 q276 q277 q278 q279 p261
        try clear hHeld
        refine hK.out _ _ (⟨q291.cell 0, q291.cell 1, q293.cell 0, q293.cell 1, q295.cell 0, q295.cell 1, q297.cell 0, q297.cell 1, q299.cell 0, q299.cell 1, q301.cell 0, q301.cell 1, trivial⟩) (fun hHeld => ?_)
        clear hK K
        try simp only [Act.put, List.setIfInBounds_toArray, List.set_cons_zero, List.set_cons_succ]
        refine wpAnyH_ready (rs := [8]) (by kernel_rfl) (by simp) ?_
        refine AllReadyH.cons (o := { dst := some 51, op := Op.buildSlice 34 3 #[(0, Operand.tmp 48), (1, Operand.tmp 49), (2, Operand.tmp 50)], type := 34, pos := "law.go:76", after := #[{ on := 5, ground := Ground.data }, { on := 6, ground := Ground.data }, { on := 7, ground := Ground.data }], guard := none }) rfl (fun K hK => ?_) AllReadyH.nil
        go_simp
        obtain ⟨w304, hw305, hb306, p307⟩ := alloc_new w283 #[.bool aa, .slice a124 al.length c125, .bool ba, .slice a158 bl.length c159, .bool ca, .slice a196 cl.length c197] 29
        have q308 := q285.later hb306
        have q309 := q286.later hb306
        have q310 := q287.later hb306
        have q311 := q288.later hb306
        have q312 := q289.later hb306
        have q313 := q290.later hb306
        have q314 := q291.later hb306
        have q315 := q292.later hb306
        have q316 := q293.later hb306
        have q317 := q294.later hb306
        have q318 := q295.later hb306
        have q319 := q296.later hb306
        have q320 := q297.later hb306
        have q321 := q298.later hb306
        have q322 := q299.later hb306
        have q323 := q300.later hb306
        have q324 := q301.later hb306
        have q325 := q302.later hb306
        have q326 := q303.later hb306
        have q327 := h282.later hb306
        rw [hw305]
        try clear hHeld
        refine hK.out _ _ (⟨q314.cell 0, q314.cell 1, q316.cell 0, q316.cell 1, q318.cell 0, q318.cell 1, q320.cell 0, q320.cell 1, q322.cell 0, q322.cell 1, q324.cell 0, q324.cell 1, trivial⟩) (fun hHeld => ?_)
        clear hK K
        try simp only [Act.put, List.setIfInBounds_toArray, List.set_cons_zero, List.set_cons_succ]
        refine wpAnyH_ready (rs := [9]) (by kernel_rfl) (by simp) ?_
        refine AllReadyH.cons (o := { dst := some 52, op := Op.call { callee := Callee.value (Operand.func 10), args := #[Operand.tmp 51], argTypes := #[34] }, type := 29, pos := "law.go:76", after := #[{ on := 8, ground := Ground.data }, { on := 4, ground := Ground.chain }], guard := none }) rfl (fun K hK => ?_) AllReadyH.nil
        go_simp
        refine (runion_any (n := 3) (sets_three p307 q319 rfl q321 rfl q323 rfl) rfl HS.out.2.2.2.1 HZ.out.1 HA.out.2.2.2.1).mono ?_
        rintro e w331 ⟨a328, c329, rfl, h330, hb332⟩
        have q333 := q308.later hb332
        have q334 := q309.later hb332
        have q335 := q310.later hb332
        have q336 := q311.later hb332
        have q337 := q312.later hb332
        have q338 := q313.later hb332
        have q339 := q314.later hb332
        have q340 := q315.later hb332
        have q341 := q316.later hb332
        have q342 := q317.later hb332
        have q343 := q318.later hb332
        have q344 := q319.later hb332
        have q345 := q320.later hb332
        have q346 := q321.later hb332
        have q347 := q322.later hb332
        have q348 := q323.later hb332
        have q349 := q324.later hb332
        have q350 := q325.later hb332
        have q351 := q326.later hb332
        have q352 := q327.later hb332
        have q353 := p307.later hb332
        clear q308 q309 q310 q311 q312 q313 q314 q315 q316 q317 q318 q319 q320 q321 q322 q323 q324 q325 q326 q327 p307
        try clear hHeld
        refine hK.out _ _ (⟨q339.cell 0, q339.cell 1, q341.cell 0, q341.cell 1, q343.cell 0, q343.cell 1, q345.cell 0, q345.cell 1, q347.cell 0, q347.cell 1, q349.cell 0, q349.cell 1, trivial⟩) (fun hHeld => ?_)
        clear hK K
        try simp only [Act.put, List.setIfInBounds_toArray, List.set_cons_zero, List.set_cons_succ]
        refine wpAnyH_ready (rs := [10]) (by kernel_rfl) (by simp) ?_
        refine AllReadyH.cons (o := { dst := some 53, op := Op.call { callee := Callee.value (Operand.func 8), args := #[Operand.tmp 47, Operand.tmp 52], argTypes := #[26, 29] }, type := 4, pos := "law.go:76", after := #[{ on := 4, ground := Ground.data }, { on := 9, ground := Ground.data }, { on := 9, ground := Ground.chain }], guard := none }) rfl (fun K hK => ?_) AllReadyH.nil
        go_simp
        refine (same9_any (l := ul) q352 h330).mono ?_
        rintro e w354 ⟨rfl, hb355⟩
        have q356 := q333.later hb355
        have q357 := q334.later hb355
        have q358 := q335.later hb355
        have q359 := q336.later hb355
        have q360 := q337.later hb355
        have q361 := q338.later hb355
        have q362 := q339.later hb355
        have q363 := q340.later hb355
        have q364 := q341.later hb355
        have q365 := q342.later hb355
        have q366 := q343.later hb355
        have q367 := q344.later hb355
        have q368 := q345.later hb355
        have q369 := q346.later hb355
        have q370 := q347.later hb355
        have q371 := q348.later hb355
        have q372 := q349.later hb355
        have q373 := q350.later hb355
        have q374 := q351.later hb355
        have q375 := q352.later hb355
        have q376 := q353.later hb355
        have q377 := h330.later hb355
        clear q333 q334 q335 q336 q337 q338 q339 q340 q341 q342 q343 q344 q345 q346 q347 q348 q349 q350 q351 q352 q353 h330
        try clear hHeld
        refine hK.out _ _ (⟨q362.cell 0, q362.cell 1, q364.cell 0, q364.cell 1, q366.cell 0, q366.cell 1, q368.cell 0, q368.cell 1, q370.cell 0, q370.cell 1, q372.cell 0, q372.cell 1, trivial⟩) (fun hHeld => ?_)
        clear hK K
        try simp only [Act.put, List.setIfInBounds_toArray, List.set_cons_zero, List.set_cons_succ]
        refine wpAnyH_take (i := 11) (oi := { dst := some 16, op := Op.assign (Operand.tmp 53), type := 4, pos := "law.go:76", after := #[{ on := 10, ground := Ground.data }, { on := 10, ground := Ground.chain }, { on := 0, ground := Ground.phase }, { on := 1, ground := Ground.phase }, { on := 2, ground := Ground.phase }, { on := 3, ground := Ground.phase }, { on := 4, ground := Ground.phase }, { on := 5, ground := Ground.phase }, { on := 6, ground := Ground.phase }, { on := 7, ground := Ground.phase }, { on := 8, ground := Ground.phase }, { on := 9, ground := Ground.phase }, { on := 10, ground := Ground.phase }], guard := none }) (v := ?v7) rfl (by kernel_rfl) (by kernel_rfl) (by kernel_rfl) (fun _ _ _ h => h) (Or.inl ⟨by rfl, ?hy7⟩) (by assumption) ?rest7
        case hy7 => (intro w1 hSw; (try dsimp only at hSw); obtain ⟨h0, h1, h2, h3, h4, h5, h6, h7, h8, h9, h10, h11, -⟩ := hSw; go_simp; try with_reducible rfl)
        try simp only [Act.put, List.setIfInBounds_toArray, List.set_cons_zero, List.set_cons_succ]
        refine wpAnyH_done (by kernel_rfl) ?_ _
        go_wp2_with fail
        go_meet
        exact ⟨_, rfl, rfl, q373⟩
      refine AllReadyH.cons (o := { dst := some 51, op := Op.buildSlice 34 3 #[(0, Operand.tmp 48), (1, Operand.tmp 49), (2, Operand.tmp 50)], type := 34, pos := "law.go:76", after := #[{ on := 5, ground := Ground.data }, { on := 6, ground := Ground.data }, { on := 7, ground := Ground.data }], guard := none }) rfl (fun K hK => ?_) AllReadyH.nil
      go_simp
      obtain ⟨w378, hw379, hb380, p381⟩ := alloc_new w258 #[.bool aa, .slice a124 al.length c125, .bool ba, .slice a158 bl.length c159, .bool ca, .slice a196 cl.length c197] 29
      have q382 := q262.later hb380
      have q383 := q263.later hb380
      have q384 := q264.later hb380
      have q385 := q265.later hb380
      have q386 := q266.later hb380
      have q387 := q267.later hb380
      have q388 := q268.later hb380
      have q389 := q269.later hb380
      have q390 := q270.later hb380
      have q391 := q271.later hb380
      have q392 := q272.later hb380
      have q393 := q273.later hb380
      have q394 := q274.later hb380
      have q395 := q275.later hb380
      have q396 := q276.later hb380
      have q397 := q277.later hb380
      have q398 := q278.later hb380
      have q399 := q279.later hb380
      have q400 := p261.later hb380
      rw [hw379]
      try clear hHeld
      refine hK.out _ _ (⟨q388.cell 0, q388.cell 1, q390.cell 0, q390.cell 1, q392.cell 0, q392.cell 1, q394.cell 0, q394.cell 1, q396.cell 0, q396.cell 1, q398.cell 0, q398.cell 1, trivial⟩) (fun hHeld => ?_)
      clear hK K
      try simp only [Act.put, List.setIfInBounds_toArray, List.set_cons_zero, List.set_cons_succ]
      refine wpAnyH_ready (rs := [4]) (by kernel_rfl) (by simp) ?_
      refine AllReadyH.cons (o := { dst := some 47, op := Op.call { callee := Callee.value (Operand.func 9), args := #[Operand.tmp 46], argTypes := #[54] }, type := 26, pos := "law.go:76", after := #[{ on := 3, ground := Ground.data }], guard := none }) rfl (fun K hK => ?_) AllReadyH.nil
      go_simp
      refine (union_any (n := 3) (sets_three q400 q387 rfl q389 rfl q391 rfl) rfl HS.out.2.2.2.1 HA.out.2.2.2.1).mono ?_
      rintro e w404 ⟨a401, c402, rfl, h403, hb405⟩
      have q406 := q382.later hb405
      have q407 := q383.later hb405
      have q408 := q384.later hb405
      have q409 := q385.later hb405
      have q410 := q386.later hb405
      have q411 := q387.later hb405
      have q412 := q388.later hb405
      have q413 := q389.later hb405
      have q414 := q390.later hb405
      have q415 := q391.later hb405
      have q416 := q392.later hb405
      have q417 := q393.later hb405
      have q418 := q394.later hb405
      have q419 := q395.later hb405
      have q420 := q396.later hb405
      have q421 := q397.later hb405
      have q422 := q398.later hb405
      have q423 := q399.later hb405
      have q424 := q400.later hb405
      have q425 := p381.later hb405
      clear q382 q383 q384 q385 q386 q387 q388 q389 q390 q391 q392 q393 q394 q395 q396 q397 q398 q399 q400 p381
      try clear hHeld
      refine hK.out _ _ (⟨q412.cell 0, q412.cell 1, q414.cell 0, q414.cell 1, q416.cell 0, q416.cell 1, q418.cell 0, q418.cell 1, q420.cell 0, q420.cell 1, q422.cell 0, q422.cell 1, trivial⟩) (fun hHeld => ?_)
      clear hK K
      try simp only [Act.put, List.setIfInBounds_toArray, List.set_cons_zero, List.set_cons_succ]
      refine wpAnyH_ready (rs := [9]) (by kernel_rfl) (by simp) ?_
      refine AllReadyH.cons (o := { dst := some 52, op := Op.call { callee := Callee.value (Operand.func 10), args := #[Operand.tmp 51], argTypes := #[34] }, type := 29, pos := "law.go:76", after := #[{ on := 8, ground := Ground.data }, { on := 4, ground := Ground.chain }], guard := none }) rfl (fun K hK => ?_) AllReadyH.nil
      go_simp
      refine (runion_any (n := 3) (sets_three q425 q417 rfl q419 rfl q421 rfl) rfl HS.out.2.2.2.1 HZ.out.1 HA.out.2.2.2.1).mono ?_
      rintro e w429 ⟨a426, c427, rfl, h428, hb430⟩
      have q431 := q406.later hb430
      have q432 := q407.later hb430
      have q433 := q408.later hb430
      have q434 := q409.later hb430
      have q435 := q410.later hb430
      have q436 := q411.later hb430
      have q437 := q412.later hb430
      have q438 := q413.later hb430
      have q439 := q414.later hb430
      have q440 := q415.later hb430
      have q441 := q416.later hb430
      have q442 := q417.later hb430
      have q443 := q418.later hb430
      have q444 := q419.later hb430
      have q445 := q420.later hb430
      have q446 := q421.later hb430
      have q447 := q422.later hb430
      have q448 := q423.later hb430
      have q449 := q424.later hb430
      have q450 := q425.later hb430
      have q451 := h403.later hb430
      clear q406 q407 q408 q409 q410 q411 q412 q413 q414 q415 q416 q417 q418 q419 q420 q421 q422 q423 q424 q425 h403
      try clear hHeld
      refine hK.out _ _ (⟨q437.cell 0, q437.cell 1, q439.cell 0, q439.cell 1, q441.cell 0, q441.cell 1, q443.cell 0, q443.cell 1, q445.cell 0, q445.cell 1, q447.cell 0, q447.cell 1, trivial⟩) (fun hHeld => ?_)
      clear hK K
      try simp only [Act.put, List.setIfInBounds_toArray, List.set_cons_zero, List.set_cons_succ]
      refine wpAnyH_ready (rs := [10]) (by kernel_rfl) (by simp) ?_
      refine AllReadyH.cons (o := { dst := some 53, op := Op.call { callee := Callee.value (Operand.func 8), args := #[Operand.tmp 47, Operand.tmp 52], argTypes := #[26, 29] }, type := 4, pos := "law.go:76", after := #[{ on := 4, ground := Ground.data }, { on := 9, ground := Ground.data }, { on := 9, ground := Ground.chain }], guard := none }) rfl (fun K hK => ?_) AllReadyH.nil
      go_simp
      refine (same9_any (l := ul) q451 h428).mono ?_
      rintro e w452 ⟨rfl, hb453⟩
      have q454 := q431.later hb453
      have q455 := q432.later hb453
      have q456 := q433.later hb453
      have q457 := q434.later hb453
      have q458 := q435.later hb453
      have q459 := q436.later hb453
      have q460 := q437.later hb453
      have q461 := q438.later hb453
      have q462 := q439.later hb453
      have q463 := q440.later hb453
      have q464 := q441.later hb453
      have q465 := q442.later hb453
      have q466 := q443.later hb453
      have q467 := q444.later hb453
      have q468 := q445.later hb453
      have q469 := q446.later hb453
      have q470 := q447.later hb453
      have q471 := q448.later hb453
      have q472 := q449.later hb453
      have q473 := q450.later hb453
      have q474 := q451.later hb453
      have q475 := h428.later hb453
      clear q431 q432 q433 q434 q435 q436 q437 q438 q439 q440 q441 q442 q443 q444 q445 q446 q447 q448 q449 q450 q451 h428
      try clear hHeld
      refine hK.out _ _ (⟨q460.cell 0, q460.cell 1, q462.cell 0, q462.cell 1, q464.cell 0, q464.cell 1, q466.cell 0, q466.cell 1, q468.cell 0, q468.cell 1, q470.cell 0, q470.cell 1, trivial⟩) (fun hHeld => ?_)
      clear hK K
      try simp only [Act.put, List.setIfInBounds_toArray, List.set_cons_zero, List.set_cons_succ]
      refine wpAnyH_take (i := 11) (oi := { dst := some 16, op := Op.assign (Operand.tmp 53), type := 4, pos := "law.go:76", after := #[{ on := 10, ground := Ground.data }, { on := 10, ground := Ground.chain }, { on := 0, ground := Ground.phase }, { on := 1, ground := Ground.phase }, { on := 2, ground := Ground.phase }, { on := 3, ground := Ground.phase }, { on := 4, ground := Ground.phase }, { on := 5, ground := Ground.phase }, { on := 6, ground := Ground.phase }, { on := 7, ground := Ground.phase }, { on := 8, ground := Ground.phase }, { on := 9, ground := Ground.phase }, { on := 10, ground := Ground.phase }], guard := none }) (v := ?v8) rfl (by kernel_rfl) (by kernel_rfl) (by kernel_rfl) (fun _ _ _ h => h) (Or.inl ⟨by rfl, ?hy8⟩) (by assumption) ?rest8
      case hy8 => (intro w1 hSw; (try dsimp only at hSw); obtain ⟨h0, h1, h2, h3, h4, h5, h6, h7, h8, h9, h10, h11, -⟩ := hSw; go_simp; try with_reducible rfl)
      try simp only [Act.put, List.setIfInBounds_toArray, List.set_cons_zero, List.set_cons_succ]
      refine wpAnyH_done (by kernel_rfl) ?_ _
      go_wp2_with fail
      go_meet
      exact ⟨_, rfl, rfl, q471⟩
    refine AllReadyH.cons (o := { dst := some 51, op := Op.buildSlice 34 3 #[(0, Operand.tmp 48), (1, Operand.tmp 49), (2, Operand.tmp 50)], type := 34, pos := "law.go:76", after := #[{ on := 5, ground := Ground.data }, { on := 6, ground := Ground.data }, { on := 7, ground := Ground.data }], guard := none }) rfl (fun K hK => ?_) AllReadyH.nil
    go_simp
    obtain ⟨w476, hw477, hb478, p479⟩ := alloc_new w237 #[.bool aa, .slice a124 al.length c125, .bool ba, .slice a158 bl.length c159, .bool ca, .slice a196 cl.length c197] 29
    have q480 := q240.later hb478
    have q481 := q241.later hb478
    have q482 := q242.later hb478
    have q483 := q243.later hb478
    have q484 := q244.later hb478
    have q485 := q245.later hb478
    have q486 := q246.later hb478
    have q487 := q247.later hb478
    have q488 := q248.later hb478
    have q489 := q249.later hb478
    have q490 := q250.later hb478
    have q491 := q251.later hb478
    have q492 := q252.later hb478
    have q493 := q253.later hb478
    have q494 := q254.later hb478
    have q495 := q255.later hb478
    have q496 := q256.later hb478
    have q497 := q257.later hb478
    rw [hw477]
    try clear hHeld
    refine hK.out _ _ (⟨q486.cell 0, q486.cell 1, q488.cell 0, q488.cell 1, q490.cell 0, q490.cell 1, q492.cell 0, q492.cell 1, q494.cell 0, q494.cell 1, q496.cell 0, q496.cell 1, trivial⟩) (fun hHeld => ?_)
    clear hK K
    try simp only [Act.put, List.setIfInBounds_toArray, List.set_cons_zero, List.set_cons_succ]
    refine wpAnyH_ready (rs := [3]) (by kernel_rfl) (by simp) ?_
    refine AllReadyH.cons (o := { dst := some 46, op := Op.buildSlice 54 3 #[(0, Operand.tmp 43), (1, Operand.tmp 44), (2, Operand.tmp 45)], type := 54, pos := "law.go:76", after := #[{ on := 0, ground := Ground.data }, { on := 1, ground := Ground.data }, { on := 2, ground := Ground.data }], guard := none }) rfl (fun K hK => ?_) AllReadyH.nil
    go_simp
    obtain ⟨w498, hw499, hb500, p501⟩ := alloc_new w476 #[.bool aa, .slice a19 al.length c20, .bool ba, .slice a53 bl.length c54, .bool ca, .slice a93 cl.length c94] 26
    have q502 := q480.later hb500
    have q503 := q481.later hb500
    have q504 := q482.later hb500
    have q505 := q483.later hb500
    have q506 := q484.later hb500
    have q507 := q485.later hb500
    have q508 := q486.later hb500
    have q509 := q487.later hb500
    have q510 := q488.later hb500
    have q511 := q489.later hb500
    have q512 := q490.later hb500
    have q513 := q491.later hb500
    have q514 := q492.later hb500
    have q515 := q493.later hb500
    have q516 := q494.later hb500
    have q517 := q495.later hb500
    have q518 := q496.later hb500
    have q519 := q497.later hb500
    have q520 := p479.later hb500
    rw [hw499]
    try clear hHeld
    refine hK.out _ _ (⟨q508.cell 0, q508.cell 1, q510.cell 0, q510.cell 1, q512.cell 0, q512.cell 1, q514.cell 0, q514.cell 1, q516.cell 0, q516.cell 1, q518.cell 0, q518.cell 1, trivial⟩) (fun hHeld => ?_)
    clear hK K
    try simp only [Act.put, List.setIfInBounds_toArray, List.set_cons_zero, List.set_cons_succ]
    refine wpAnyH_ready (rs := [4]) (by kernel_rfl) (by simp) ?_
    refine AllReadyH.cons (o := { dst := some 47, op := Op.call { callee := Callee.value (Operand.func 9), args := #[Operand.tmp 46], argTypes := #[54] }, type := 26, pos := "law.go:76", after := #[{ on := 3, ground := Ground.data }], guard := none }) rfl (fun K hK => ?_) AllReadyH.nil
    go_simp
    refine (union_any (n := 3) (sets_three p501 q507 rfl q509 rfl q511 rfl) rfl HS.out.2.2.2.1 HA.out.2.2.2.1).mono ?_
    rintro e w524 ⟨a521, c522, rfl, h523, hb525⟩
    have q526 := q502.later hb525
    have q527 := q503.later hb525
    have q528 := q504.later hb525
    have q529 := q505.later hb525
    have q530 := q506.later hb525
    have q531 := q507.later hb525
    have q532 := q508.later hb525
    have q533 := q509.later hb525
    have q534 := q510.later hb525
    have q535 := q511.later hb525
    have q536 := q512.later hb525
    have q537 := q513.later hb525
    have q538 := q514.later hb525
    have q539 := q515.later hb525
    have q540 := q516.later hb525
    have q541 := q517.later hb525
    have q542 := q518.later hb525
    have q543 := q519.later hb525
    have q544 := q520.later hb525
    have q545 := p501.later hb525
    clear q502 q503 q504 q505 q506 q507 q508 q509 q510 q511 q512 q513 q514 q515 q516 q517 q518 q519 q520 p501
    try clear hHeld
    refine hK.out _ _ (⟨q532.cell 0, q532.cell 1, q534.cell 0, q534.cell 1, q536.cell 0, q536.cell 1, q538.cell 0, q538.cell 1, q540.cell 0, q540.cell 1, q542.cell 0, q542.cell 1, trivial⟩) (fun hHeld => ?_)
    clear hK K
    try simp only [Act.put, List.setIfInBounds_toArray, List.set_cons_zero, List.set_cons_succ]
    refine wpAnyH_ready (rs := [9]) (by kernel_rfl) (by simp) ?_
    refine AllReadyH.cons (o := { dst := some 52, op := Op.call { callee := Callee.value (Operand.func 10), args := #[Operand.tmp 51], argTypes := #[34] }, type := 29, pos := "law.go:76", after := #[{ on := 8, ground := Ground.data }, { on := 4, ground := Ground.chain }], guard := none }) rfl (fun K hK => ?_) AllReadyH.nil
    go_simp
    refine (runion_any (n := 3) (sets_three q544 q537 rfl q539 rfl q541 rfl) rfl HS.out.2.2.2.1 HZ.out.1 HA.out.2.2.2.1).mono ?_
    rintro e w549 ⟨a546, c547, rfl, h548, hb550⟩
    have q551 := q526.later hb550
    have q552 := q527.later hb550
    have q553 := q528.later hb550
    have q554 := q529.later hb550
    have q555 := q530.later hb550
    have q556 := q531.later hb550
    have q557 := q532.later hb550
    have q558 := q533.later hb550
    have q559 := q534.later hb550
    have q560 := q535.later hb550
    have q561 := q536.later hb550
    have q562 := q537.later hb550
    have q563 := q538.later hb550
    have q564 := q539.later hb550
    have q565 := q540.later hb550
    have q566 := q541.later hb550
    have q567 := q542.later hb550
    have q568 := q543.later hb550
    have q569 := q544.later hb550
    have q570 := q545.later hb550
    have q571 := h523.later hb550
    clear q526 q527 q528 q529 q530 q531 q532 q533 q534 q535 q536 q537 q538 q539 q540 q541 q542 q543 q544 q545 h523
    try clear hHeld
    refine hK.out _ _ (⟨q557.cell 0, q557.cell 1, q559.cell 0, q559.cell 1, q561.cell 0, q561.cell 1, q563.cell 0, q563.cell 1, q565.cell 0, q565.cell 1, q567.cell 0, q567.cell 1, trivial⟩) (fun hHeld => ?_)
    clear hK K
    try simp only [Act.put, List.setIfInBounds_toArray, List.set_cons_zero, List.set_cons_succ]
    refine wpAnyH_ready (rs := [10]) (by kernel_rfl) (by simp) ?_
    refine AllReadyH.cons (o := { dst := some 53, op := Op.call { callee := Callee.value (Operand.func 8), args := #[Operand.tmp 47, Operand.tmp 52], argTypes := #[26, 29] }, type := 4, pos := "law.go:76", after := #[{ on := 4, ground := Ground.data }, { on := 9, ground := Ground.data }, { on := 9, ground := Ground.chain }], guard := none }) rfl (fun K hK => ?_) AllReadyH.nil
    go_simp
    refine (same9_any (l := ul) q571 h548).mono ?_
    rintro e w572 ⟨rfl, hb573⟩
    have q574 := q551.later hb573
    have q575 := q552.later hb573
    have q576 := q553.later hb573
    have q577 := q554.later hb573
    have q578 := q555.later hb573
    have q579 := q556.later hb573
    have q580 := q557.later hb573
    have q581 := q558.later hb573
    have q582 := q559.later hb573
    have q583 := q560.later hb573
    have q584 := q561.later hb573
    have q585 := q562.later hb573
    have q586 := q563.later hb573
    have q587 := q564.later hb573
    have q588 := q565.later hb573
    have q589 := q566.later hb573
    have q590 := q567.later hb573
    have q591 := q568.later hb573
    have q592 := q569.later hb573
    have q593 := q570.later hb573
    have q594 := q571.later hb573
    have q595 := h548.later hb573
    clear q551 q552 q553 q554 q555 q556 q557 q558 q559 q560 q561 q562 q563 q564 q565 q566 q567 q568 q569 q570 q571 h548
    try clear hHeld
    refine hK.out _ _ (⟨q580.cell 0, q580.cell 1, q582.cell 0, q582.cell 1, q584.cell 0, q584.cell 1, q586.cell 0, q586.cell 1, q588.cell 0, q588.cell 1, q590.cell 0, q590.cell 1, trivial⟩) (fun hHeld => ?_)
    clear hK K
    try simp only [Act.put, List.setIfInBounds_toArray, List.set_cons_zero, List.set_cons_succ]
    refine wpAnyH_take (i := 11) (oi := { dst := some 16, op := Op.assign (Operand.tmp 53), type := 4, pos := "law.go:76", after := #[{ on := 10, ground := Ground.data }, { on := 10, ground := Ground.chain }, { on := 0, ground := Ground.phase }, { on := 1, ground := Ground.phase }, { on := 2, ground := Ground.phase }, { on := 3, ground := Ground.phase }, { on := 4, ground := Ground.phase }, { on := 5, ground := Ground.phase }, { on := 6, ground := Ground.phase }, { on := 7, ground := Ground.phase }, { on := 8, ground := Ground.phase }, { on := 9, ground := Ground.phase }, { on := 10, ground := Ground.phase }], guard := none }) (v := ?v9) rfl (by kernel_rfl) (by kernel_rfl) (by kernel_rfl) (fun _ _ _ h => h) (Or.inl ⟨by rfl, ?hy9⟩) (by assumption) ?rest9
    case hy9 => (intro w1 hSw; (try dsimp only at hSw); obtain ⟨h0, h1, h2, h3, h4, h5, h6, h7, h8, h9, h10, h11, -⟩ := hSw; go_simp; try with_reducible rfl)
    try simp only [Act.put, List.setIfInBounds_toArray, List.set_cons_zero, List.set_cons_succ]
    refine wpAnyH_done (by kernel_rfl) ?_ _
    go_wp2_with fail
    go_meet
    exact ⟨_, rfl, rfl, q591⟩
  case rest =>
  obtain ⟨wc597, hwc, rfl, hb596⟩ := hcut
  subst hwc
  have q598 := q220.later hb596
  have q599 := q221.later hb596
  have q600 := q222.later hb596
  have q601 := q223.later hb596
  have q602 := q224.later hb596
  have q603 := q225.later hb596
  have q604 := q226.later hb596
  have q605 := q227.later hb596
  have q606 := q228.later hb596
  have q607 := q229.later hb596
  have q608 := q230.later hb596
  have q609 := q231.later hb596
  have q610 := q232.later hb596
  have q611 := q233.later hb596
  have q612 := q234.later hb596
  have q613 := q235.later hb596
  have q614 := p219.later hb596
  clear q220 q221 q222 q223 q224 q225 q226 q227 q228 q229 q230 q231 q232 q233 q234 q235 p219
  go_wp2_with fail
  go_cut [17] (fun sv wx => ∃ z, z = wx ∧ (sv = .bool true ∧ Below wc597.heap.size wc597 wx))
  case first =>
    have b615 : Base wc597 wc597 := Below.refl _ _
    obtain ⟨w616, hw617, hb618⟩ := drew_new wc597
    have q619 := q598.later hb618
    have q620 := q599.later hb618
    have q621 := q600.later hb618
    have q622 := q601.later hb618
    have q623 := q602.later hb618
    have q624 := q603.later hb618
    have q625 := q604.later hb618
    have q626 := q605.later hb618
    have q627 := q606.later hb618
    have q628 := q607.later hb618
    have q629 := q608.later hb618
    have q630 := q609.later hb618
    have q631 := q610.later hb618
    have q632 := q611.later hb618
    have q633 := q612.later hb618
    have q634 := q613.later hb618
    have q635 := q614.later hb618
    have q636 := b615.later hb618
    refine wp_region_held_drew (S := (fun w' => w'.cell? ⟨w22.heap.size, 0, none⟩ = some (.bool aa) ∧ w'.cell? ⟨w22.heap.size, 1, none⟩ = some (.slice a19 al.length c20) ∧ w'.cell? ⟨w56.heap.size, 0, none⟩ = some (.bool ba) ∧ w'.cell? ⟨w56.heap.size, 1, none⟩ = some (.slice a53 bl.length c54) ∧ w'.cell? ⟨w96.heap.size, 0, none⟩ = some (.bool ca) ∧ w'.cell? ⟨w96.heap.size, 1, none⟩ = some (.slice a93 cl.length c94) ∧ w'.cell? ⟨w127.heap.size, 0, none⟩ = some (.bool aa) ∧ w'.cell? ⟨w127.heap.size, 1, none⟩ = some (.slice a124 al.length c125) ∧ w'.cell? ⟨w161.heap.size, 0, none⟩ = some (.bool ba) ∧ w'.cell? ⟨w161.heap.size, 1, none⟩ = some (.slice a158 bl.length c159) ∧ w'.cell? ⟨w199.heap.size, 0, none⟩ = some (.bool ca) ∧ w'.cell? ⟨w199.heap.size, 1, none⟩ = some (.slice a196 cl.length c197) ∧ True)) (by kernel_rfl) (by rw [hw617]; exact ⟨q625.cell 0, q625.cell 1, q627.cell 0, q627.cell 1, q629.cell 0, q629.cell 1, q631.cell 0, q631.cell 1, q633.cell 0, q633.cell 1, q635.cell 0, q635.cell 1, trivial⟩) (fun hHeld => ?_)
    rw [hw617] at hHeld ⊢
    refine wpAnyH_take (i := 0) (oi := { dst := some 54, op := Op.load 26 (Operand.tmp 10), type := 26, pos := "law.go:77", after := #[], guard := none }) (v := ?v10) rfl (by kernel_rfl) (by kernel_rfl) (by kernel_rfl) (fun _ _ _ h => h) (Or.inl ⟨by rfl, ?hy10⟩) (by assumption) ?rest10
    case hy10 => (intro w1 hSw; (try dsimp only at hSw); obtain ⟨h0, h1, h2, h3, h4, h5, h6, h7, h8, h9, h10, h11, -⟩ := hSw; go_simp; try with_reducible rfl)
    try simp only [Act.put, List.setIfInBounds_toArray, List.set_cons_zero, List.set_cons_succ]
    refine wpAnyH_take (i := 1) (oi := { dst := some 55, op := Op.load 26 (Operand.tmp 11), type := 26, pos := "law.go:77", after := #[], guard := none }) (v := ?v11) rfl (by kernel_rfl) (by kernel_rfl) (by kernel_rfl) (fun _ _ _ h => h) (Or.inl ⟨by rfl, ?hy11⟩) (by assumption) ?rest11
    case hy11 => (intro w1 hSw; (try dsimp only at hSw); obtain ⟨h0, h1, h2, h3, h4, h5, h6, h7, h8, h9, h10, h11, -⟩ := hSw; go_simp; try with_reducible rfl)
    try simp only [Act.put, List.setIfInBounds_toArray, List.set_cons_zero, List.set_cons_succ]
    refine wpAnyH_take (i := 3) (oi := { dst := some 57, op := Op.load 29 (Operand.tmp 13), type := 29, pos := "law.go:77", after := #[], guard := none }) (v := ?v12) rfl (by kernel_rfl) (by kernel_rfl) (by kernel_rfl) (fun _ _ _ h => h) (Or.inl ⟨by rfl, ?hy12⟩) (by assumption) ?rest12
    case hy12 => (intro w1 hSw; (try dsimp only at hSw); obtain ⟨h0, h1, h2, h3, h4, h5, h6, h7, h8, h9, h10, h11, -⟩ := hSw; go_simp; try with_reducible rfl)
    try simp only [Act.put, List.setIfInBounds_toArray, List.set_cons_zero, List.set_cons_succ]
    refine wpAnyH_take (i := 4) (oi := { dst := some 58, op := Op.load 29 (Operand.tmp 14), type := 29, pos := "law.go:77", after := #[], guard := none }) (v := ?v13) rfl (by kernel_rfl) (by kernel_rfl) (by kernel_rfl) (fun _ _ _ h => h) (Or.inl ⟨by rfl, ?hy13⟩) (by assumption) ?rest13
    case hy13 => (intro w1 hSw; (try dsimp only at hSw); obtain ⟨h0, h1, h2, h3, h4, h5, h6, h7, h8, h9, h10, h11, -⟩ := hSw; go_simp; try with_reducible rfl)
    try simp only [Act.put, List.setIfInBounds_toArray, List.set_cons_zero, List.set_cons_succ]
    refine wpAnyH_ready (rs := [2]) (by kernel_rfl) (by simp) ?_
    refine AllReadyH.cons (o := { dst := some 56, op := Op.call { callee := Callee.value (Operand.func 11), args := #[Operand.tmp 54, Operand.tmp 55], argTypes := #[26, 26] }, type := 26, pos := "law.go:77", after := #[{ on := 0, ground := Ground.data }, { on := 1, ground := Ground.data }], guard := none }) rfl (fun K hK => ?_) AllReadyH.nil
    go_simp
    refine (less_any q624 q626 HS.out.1.fit HS.out.2.1.fit HA.out.2.2.2.2.1).mono ?_
    rintro e w640 ⟨a637, c638, rfl, h639, hb641⟩
    have q642 := q619.later hb641
    have q643 := q620.later hb641
    have q644 := q621.later hb641
    have q645 := q622.later hb641
    have q646 := q623.later hb641
    have q647 := q624.later hb641
    have q648 := q625.later hb641
    have q649 := q626.later hb641
    have q650 := q627.later hb641
    have q651 := q628.later hb641
    have q652 := q629.later hb641
    have q653 := q630.later hb641
    have q654 := q631.later hb641
    have q655 := q632.later hb641
    have q656 := q633.later hb641
    have q657 := q634.later hb641
    have q658 := q635.later hb641
    have q659 := q636.later hb641
    clear q619 q620 q621 q622 q623 q624 q625 q626 q627 q628 q629 q630 q631 q632 q633 q634 q635 q636
    try clear hHeld
    refine hK.out _ _ (⟨q648.cell 0, q648.cell 1, q650.cell 0, q650.cell 1, q652.cell 0, q652.cell 1, q654.cell 0, q654.cell 1, q656.cell 0, q656.cell 1, q658.cell 0, q658.cell 1, trivial⟩) (fun hHeld => ?_)
    clear hK K
    try simp only [Act.put, List.setIfInBounds_toArray, List.set_cons_zero, List.set_cons_succ]
    refine wpAnyH_ready (rs := [5]) (by kernel_rfl) (by simp) ?_
    refine AllReadyH.cons (o := { dst := some 59, op := Op.call { callee := Callee.value (Operand.func 12), args := #[Operand.tmp 57, Operand.tmp 58], argTypes := #[29, 29] }, type := 29, pos := "law.go:77", after := #[{ on := 3, ground := Ground.data }, { on := 4, ground := Ground.data }, { on := 2, ground := Ground.chain }], guard := none }) rfl (fun K hK => ?_) AllReadyH.nil
    go_simp
    refine (rless_any q653 q655 HS.out.1.fit HS.out.1.rises HA.out.2.2.2.2.1).mono ?_
    rintro e w663 ⟨a660, c661, rfl, h662, hb664⟩
    have q665 := q642.later hb664
    have q666 := q643.later hb664
    have q667 := q644.later hb664
    have q668 := q645.later hb664
    have q669 := q646.later hb664
    have q670 := q647.later hb664
    have q671 := q648.later hb664
    have q672 := q649.later hb664
    have q673 := q650.later hb664
    have q674 := q651.later hb664
    have q675 := q652.later hb664
    have q676 := q653.later hb664
    have q677 := q654.later hb664
    have q678 := q655.later hb664
    have q679 := q656.later hb664
    have q680 := q657.later hb664
    have q681 := q658.later hb664
    have q682 := q659.later hb664
    have q683 := h639.later hb664
    clear q642 q643 q644 q645 q646 q647 q648 q649 q650 q651 q652 q653 q654 q655 q656 q657 q658 q659 h639
    try clear hHeld
    refine hK.out _ _ (⟨q671.cell 0, q671.cell 1, q673.cell 0, q673.cell 1, q675.cell 0, q675.cell 1, q677.cell 0, q677.cell 1, q679.cell 0, q679.cell 1, q681.cell 0, q681.cell 1, trivial⟩) (fun hHeld => ?_)
    clear hK K
    try simp only [Act.put, List.setIfInBounds_toArray, List.set_cons_zero, List.set_cons_succ]
    refine wpAnyH_ready (rs := [6]) (by kernel_rfl) (by simp) ?_
    refine AllReadyH.cons (o := { dst := some 60, op := Op.call { callee := Callee.value (Operand.func 8), args := #[Operand.tmp 56, Operand.tmp 59], argTypes := #[26, 29] }, type := 4, pos := "law.go:77", after := #[{ on := 2, ground := Ground.data }, { on := 5, ground := Ground.data }, { on := 5, ground := Ground.chain }], guard := none }) rfl (fun K hK => ?_) AllReadyH.nil
    go_simp
    refine (same9_any (l := ll) q683 h662).mono ?_
    rintro e w684 ⟨rfl, hb685⟩
    have q686 := q665.later hb685
    have q687 := q666.later hb685
    have q688 := q667.later hb685
    have q689 := q668.later hb685
    have q690 := q669.later hb685
    have q691 := q670.later hb685
    have q692 := q671.later hb685
    have q693 := q672.later hb685
    have q694 := q673.later hb685
    have q695 := q674.later hb685
    have q696 := q675.later hb685
    have q697 := q676.later hb685
    have q698 := q677.later hb685
    have q699 := q678.later hb685
    have q700 := q679.later hb685
    have q701 := q680.later hb685
    have q702 := q681.later hb685
    have q703 := q682.later hb685
    have q704 := q683.later hb685
    have q705 := h662.later hb685
    clear q665 q666 q667 q668 q669 q670 q671 q672 q673 q674 q675 q676 q677 q678 q679 q680 q681 q682 q683 h662
    try clear hHeld
    refine hK.out _ _ (⟨q692.cell 0, q692.cell 1, q694.cell 0, q694.cell 1, q696.cell 0, q696.cell 1, q698.cell 0, q698.cell 1, q700.cell 0, q700.cell 1, q702.cell 0, q702.cell 1, trivial⟩) (fun hHeld => ?_)
    clear hK K
    try simp only [Act.put, List.setIfInBounds_toArray, List.set_cons_zero, List.set_cons_succ]
    refine wpAnyH_take (i := 7) (oi := { dst := some 17, op := Op.assign (Operand.tmp 60), type := 4, pos := "law.go:77", after := #[{ on := 6, ground := Ground.data }, { on := 6, ground := Ground.chain }, { on := 0, ground := Ground.phase }, { on := 1, ground := Ground.phase }, { on := 2, ground := Ground.phase }, { on := 3, ground := Ground.phase }, { on := 4, ground := Ground.phase }, { on := 5, ground := Ground.phase }, { on := 6, ground := Ground.phase }], guard := none }) (v := ?v14) rfl (by kernel_rfl) (by kernel_rfl) (by kernel_rfl) (fun _ _ _ h => h) (Or.inl ⟨by rfl, ?hy14⟩) (by assumption) ?rest14
    case hy14 => (intro w1 hSw; (try dsimp only at hSw); obtain ⟨h0, h1, h2, h3, h4, h5, h6, h7, h8, h9, h10, h11, -⟩ := hSw; go_simp; try with_reducible rfl)
    try simp only [Act.put, List.setIfInBounds_toArray, List.set_cons_zero, List.set_cons_succ]
    refine wpAnyH_done (by kernel_rfl) ?_ _
    go_wp2_with fail
    go_meet
    exact ⟨_, rfl, rfl, q703⟩
  case rest =>
  obtain ⟨wc707, hwc, rfl, hb706⟩ := hcut
  subst hwc
  have q708 := q598.later hb706
  have q709 := q599.later hb706
  have q710 := q600.later hb706
  have q711 := q601.later hb706
  have q712 := q602.later hb706
  have q713 := q603.later hb706
  have q714 := q604.later hb706
  have q715 := q605.later hb706
  have q716 := q606.later hb706
  have q717 := q607.later hb706
  have q718 := q608.later hb706
  have q719 := q609.later hb706
  have q720 := q610.later hb706
  have q721 := q611.later hb706
  have q722 := q612.later hb706
  have q723 := q613.later hb706
  have q724 := q614.later hb706
  clear q598 q599 q600 q601 q602 q603 q604 q605 q606 q607 q608 q609 q610 q611 q612 q613 q614
  go_wp2_with fail
  go_cut [18] (fun sv wx => ∃ z, z = wx ∧ (sv = .bool true ∧ Below wc707.heap.size wc707 wx))
  case first =>
    have b725 : Base wc707 wc707 := Below.refl _ _
    obtain ⟨w726, hw727, hb728⟩ := drew_new wc707
    have q729 := q708.later hb728
    have q730 := q709.later hb728
    have q731 := q710.later hb728
    have q732 := q711.later hb728
    have q733 := q712.later hb728
    have q734 := q713.later hb728
    have q735 := q714.later hb728
    have q736 := q715.later hb728
    have q737 := q716.later hb728
    have q738 := q717.later hb728
    have q739 := q718.later hb728
    have q740 := q719.later hb728
    have q741 := q720.later hb728
    have q742 := q721.later hb728
    have q743 := q722.later hb728
    have q744 := q723.later hb728
    have q745 := q724.later hb728
    have q746 := b725.later hb728
    refine wp_region_held_drew (S := (fun w' => w'.cell? ⟨w22.heap.size, 0, none⟩ = some (.bool aa) ∧ w'.cell? ⟨w22.heap.size, 1, none⟩ = some (.slice a19 al.length c20) ∧ w'.cell? ⟨w56.heap.size, 0, none⟩ = some (.bool ba) ∧ w'.cell? ⟨w56.heap.size, 1, none⟩ = some (.slice a53 bl.length c54) ∧ w'.cell? ⟨w96.heap.size, 0, none⟩ = some (.bool ca) ∧ w'.cell? ⟨w96.heap.size, 1, none⟩ = some (.slice a93 cl.length c94) ∧ w'.cell? ⟨w127.heap.size, 0, none⟩ = some (.bool aa) ∧ w'.cell? ⟨w127.heap.size, 1, none⟩ = some (.slice a124 al.length c125) ∧ w'.cell? ⟨w161.heap.size, 0, none⟩ = some (.bool ba) ∧ w'.cell? ⟨w161.heap.size, 1, none⟩ = some (.slice a158 bl.length c159) ∧ w'.cell? ⟨w199.heap.size, 0, none⟩ = some (.bool ca) ∧ w'.cell? ⟨w199.heap.size, 1, none⟩ = some (.slice a196 cl.length c197) ∧ True)) (by kernel_rfl) (by rw [hw727]; exact ⟨q735.cell 0, q735.cell 1, q737.cell 0, q737.cell 1, q739.cell 0, q739.cell 1, q741.cell 0, q741.cell 1, q743.cell 0, q743.cell 1, q745.cell 0, q745.cell 1, trivial⟩) (fun hHeld => ?_)
    rw [hw727] at hHeld ⊢
    refine wpAnyH_take (i := 0) (oi := { dst := some 61, op := Op.load 26 (Operand.tmp 10), type := 26, pos := "law.go:78", after := #[], guard := none }) (v := ?v15) rfl (by kernel_rfl) (by kernel_rfl) (by kernel_rfl) (fun _ _ _ h => h) (Or.inl ⟨by rfl, ?hy15⟩) (by assumption) ?rest15
    case hy15 => (intro w1 hSw; (try dsimp only at hSw); obtain ⟨h0, h1, h2, h3, h4, h5, h6, h7, h8, h9, h10, h11, -⟩ := hSw; go_simp; try with_reducible rfl)
    try simp only [Act.put, List.setIfInBounds_toArray, List.set_cons_zero, List.set_cons_succ]
    refine wpAnyH_take (i := 1) (oi := { dst := some 62, op := Op.move (Operand.tmp 1), type := 22, pos := "law.go:78", after := #[], guard := none }) (v := ?v16) rfl (by kernel_rfl) (by kernel_rfl) (by kernel_rfl) (fun _ _ _ h => h) (Or.inl ⟨by rfl, ?hy16⟩) (by assumption) ?rest16
    case hy16 => (intro w1 hSw; (try dsimp only at hSw); obtain ⟨h0, h1, h2, h3, h4, h5, h6, h7, h8, h9, h10, h11, -⟩ := hSw; go_simp; try with_reducible rfl)
    try simp only [Act.put, List.setIfInBounds_toArray, List.set_cons_zero, List.set_cons_succ]
    refine wpAnyH_take (i := 4) (oi := { dst := some 65, op := Op.load 29 (Operand.tmp 13), type := 29, pos := "law.go:78", after := #[], guard := none }) (v := ?v17) rfl (by kernel_rfl) (by kernel_rfl) (by kernel_rfl) (fun _ _ _ h => h) (Or.inl ⟨by rfl, ?hy17⟩) (by assumption) ?rest17
    case hy17 => (intro w1 hSw; (try dsimp only at hSw); obtain ⟨h0, h1, h2, h3, h4, h5, h6, h7, h8, h9, h10, h11, -⟩ := hSw; go_simp; try with_reducible rfl)
    try simp only [Act.put, List.setIfInBounds_toArray, List.set_cons_zero, List.set_cons_succ]
    refine wpAnyH_take (i := 5) (oi := { dst := some 66, op := Op.move (Operand.tmp 1), type := 22, pos := "law.go:78", after := #[], guard := none }) (v := ?v18) rfl (by kernel_rfl) (by kernel_rfl) (by kernel_rfl) (fun _ _ _ h => h) (Or.inl ⟨by rfl, ?hy18⟩) (by assumption) ?rest18
    case hy18 => (intro w1 hSw; (try dsimp only at hSw); obtain ⟨h0, h1, h2, h3, h4, h5, h6, h7, h8, h9, h10, h11, -⟩ := hSw; go_simp; try with_reducible rfl)
    try simp only [Act.put, List.setIfInBounds_toArray, List.set_cons_zero, List.set_cons_succ]
    refine wpAnyH_ready (rs := [2]) (by kernel_rfl) (by simp) ?_
    refine AllReadyH.cons (o := { dst := some 63, op := Op.call { callee := Callee.value (Operand.func 6), args := #[Operand.tmp 62], argTypes := #[22] }, type := 24, pos := "law.go:78", after := #[{ on := 1, ground := Ground.data }], guard := none }) rfl (fun K hK => ?_) AllReadyH.nil
    go_simp
    refine (few_any q731 hl2 hn2).mono ?_
    rintro e w751 ⟨a747, c748, rfl, h749, hb752⟩
    have q753 := q729.later hb752
    have q754 := q730.later hb752
    have q755 := q731.later hb752
    have q756 := q732.later hb752
    have q757 := q733.later hb752
    have q758 := q734.later hb752
    have q759 := q735.later hb752
    have q760 := q736.later hb752
    have q761 := q737.later hb752
    have q762 := q738.later hb752
    have q763 := q739.later hb752
    have q764 := q740.later hb752
    have q765 := q741.later hb752
    have q766 := q742.later hb752
    have q767 := q743.later hb752
    have q768 := q744.later hb752
    have q769 := q745.later hb752
    have q770 := q746.later hb752
    clear q729 q730 q731 q732 q733 q734 q735 q736 q737 q738 q739 q740 q741 q742 q743 q744 q745 q746
    have q750 : TsAt w751 _ (fewL m2) := RowV.own h749
    try clear hHeld
    refine hK.out _ _ (⟨q759.cell 0, q759.cell 1, q761.cell 0, q761.cell 1, q763.cell 0, q763.cell 1, q765.cell 0, q765.cell 1, q767.cell 0, q767.cell 1, q769.cell 0, q769.cell 1, trivial⟩) (fun hHeld => ?_)
    clear hK K
    try simp only [Act.put, List.setIfInBounds_toArray, List.set_cons_zero, List.set_cons_succ]
    refine wpAnyH_ready (rs := [3]) (by kernel_rfl) (by simp) ?_
    refine AllReadyH.cons (o := { dst := some 64, op := Op.call { callee := Callee.value (Operand.func 13), args := #[Operand.tmp 61, Operand.tmp 63], argTypes := #[26, 24] }, type := 26, pos := "law.go:78", after := #[{ on := 0, ground := Ground.data }, { on := 2, ground := Ground.data }, { on := 2, ground := Ground.chain }], guard := none }) rfl (fun K hK => ?_) AllReadyH.nil
    go_simp
    refine (add_any q758 q750 HS.out.2.2.2.2.1 HA.out.2.2.2.2.2.1).mono ?_
    rintro e w774 ⟨a771, c772, rfl, h773, hb775⟩
    have q776 := q753.later hb775
    have q777 := q754.later hb775
    have q778 := q755.later hb775
    have q779 := q756.later hb775
    have q780 := q757.later hb775
    have q781 := q758.later hb775
    have q782 := q759.later hb775
    have q783 := q760.later hb775
    have q784 := q761.later hb775
    have q785 := q762.later hb775
    have q786 := q763.later hb775
    have q787 := q764.later hb775
    have q788 := q765.later hb775
    have q789 := q766.later hb775
    have q790 := q767.later hb775
    have q791 := q768.later hb775
    have q792 := q769.later hb775
    have q793 := q770.later hb775
    have q794 := q750.later hb775
    clear q753 q754 q755 q756 q757 q758 q759 q760 q761 q762 q763 q764 q765 q766 q767 q768 q769 q770 q750
    try clear hHeld
    refine hK.out _ _ (⟨q782.cell 0, q782.cell 1, q784.cell 0, q784.cell 1, q786.cell 0, q786.cell 1, q788.cell 0, q788.cell 1, q790.cell 0, q790.cell 1, q792.cell 0, q792.cell 1, trivial⟩) (fun hHeld => ?_)
    clear hK K
    try simp only [Act.put, List.setIfInBounds_toArray, List.set_cons_zero, List.set_cons_succ]
    refine wpAnyH_ready (rs := [6]) (by kernel_rfl) (by simp) ?_
    refine AllReadyH.cons (o := { dst := some 67, op := Op.call { callee := Callee.value (Operand.func 6), args := #[Operand.tmp 66], argTypes := #[22] }, type := 24, pos := "law.go:78", after := #[{ on := 5, ground := Ground.data }, { on := 3, ground := Ground.chain }], guard := none }) rfl (fun K hK => ?_) AllReadyH.nil
    go_simp
    refine (few_any q778 hl2 hn2).mono ?_
    rintro e w799 ⟨a795, c796, rfl, h797, hb800⟩
    have q801 := q776.later hb800
    have q802 := q777.later hb800
    have q803 := q778.later hb800
    have q804 := q779.later hb800
    have q805 := q780.later hb800
    have q806 := q781.later hb800
    have q807 := q782.later hb800
    have q808 := q783.later hb800
    have q809 := q784.later hb800
    have q810 := q785.later hb800
    have q811 := q786.later hb800
    have q812 := q787.later hb800
    have q813 := q788.later hb800
    have q814 := q789.later hb800
    have q815 := q790.later hb800
    have q816 := q791.later hb800
    have q817 := q792.later hb800
    have q818 := q793.later hb800
    have q819 := q794.later hb800
    have q820 := h773.later hb800
    clear q776 q777 q778 q779 q780 q781 q782 q783 q784 q785 q786 q787 q788 q789 q790 q791 q792 q793 q794 h773
    have q798 : TsAt w799 _ (fewL m2) := RowV.own h797
    try clear hHeld
    refine hK.out _ _ (⟨q807.cell 0, q807.cell 1, q809.cell 0, q809.cell 1, q811.cell 0, q811.cell 1, q813.cell 0, q813.cell 1, q815.cell 0, q815.cell 1, q817.cell 0, q817.cell 1, trivial⟩) (fun hHeld => ?_)
    clear hK K
    try simp only [Act.put, List.setIfInBounds_toArray, List.set_cons_zero, List.set_cons_succ]
    refine wpAnyH_ready (rs := [7]) (by kernel_rfl) (by simp) ?_
    refine AllReadyH.cons (o := { dst := some 68, op := Op.call { callee := Callee.value (Operand.func 14), args := #[Operand.tmp 65, Operand.tmp 67], argTypes := #[29, 24] }, type := 29, pos := "law.go:78", after := #[{ on := 4, ground := Ground.data }, { on := 6, ground := Ground.data }, { on := 6, ground := Ground.chain }], guard := none }) rfl (fun K hK => ?_) AllReadyH.nil
    go_simp
    refine (radd_any q812 q798 HS.out.2.2.2.2.1 HZ.out.2.1 HS.out.1.rises HA.out.2.2.2.2.2.1).mono ?_
    rintro e w824 ⟨a821, c822, rfl, h823, hb825⟩
    have q826 := q801.later hb825
    have q827 := q802.later hb825
    have q828 := q803.later hb825
    have q829 := q804.later hb825
    have q830 := q805.later hb825
    have q831 := q806.later hb825
    have q832 := q807.later hb825
    have q833 := q808.later hb825
    have q834 := q809.later hb825
    have q835 := q810.later hb825
    have q836 := q811.later hb825
    have q837 := q812.later hb825
    have q838 := q813.later hb825
    have q839 := q814.later hb825
    have q840 := q815.later hb825
    have q841 := q816.later hb825
    have q842 := q817.later hb825
    have q843 := q818.later hb825
    have q844 := q819.later hb825
    have q845 := q820.later hb825
    have q846 := q798.later hb825
    clear q801 q802 q803 q804 q805 q806 q807 q808 q809 q810 q811 q812 q813 q814 q815 q816 q817 q818 q819 q820 q798
    try clear hHeld
    refine hK.out _ _ (⟨q832.cell 0, q832.cell 1, q834.cell 0, q834.cell 1, q836.cell 0, q836.cell 1, q838.cell 0, q838.cell 1, q840.cell 0, q840.cell 1, q842.cell 0, q842.cell 1, trivial⟩) (fun hHeld => ?_)
    clear hK K
    try simp only [Act.put, List.setIfInBounds_toArray, List.set_cons_zero, List.set_cons_succ]
    refine wpAnyH_ready (rs := [8]) (by kernel_rfl) (by simp) ?_
    refine AllReadyH.cons (o := { dst := some 69, op := Op.call { callee := Callee.value (Operand.func 8), args := #[Operand.tmp 64, Operand.tmp 68], argTypes := #[26, 29] }, type := 4, pos := "law.go:78", after := #[{ on := 3, ground := Ground.data }, { on := 7, ground := Ground.data }, { on := 7, ground := Ground.chain }], guard := none }) rfl (fun K hK => ?_) AllReadyH.nil
    go_simp
    refine (same9_any (l := dl) q845 h823).mono ?_
    rintro e w847 ⟨rfl, hb848⟩
    have q849 := q826.later hb848
    have q850 := q827.later hb848
    have q851 := q828.later hb848
    have q852 := q829.later hb848
    have q853 := q830.later hb848
    have q854 := q831.later hb848
    have q855 := q832.later hb848
    have q856 := q833.later hb848
    have q857 := q834.later hb848
    have q858 := q835.later hb848
    have q859 := q836.later hb848
    have q860 := q837.later hb848
    have q861 := q838.later hb848
    have q862 := q839.later hb848
    have q863 := q840.later hb848
    have q864 := q841.later hb848
    have q865 := q842.later hb848
    have q866 := q843.later hb848
    have q867 := q844.later hb848
    have q868 := q845.later hb848
    have q869 := q846.later hb848
    have q870 := h823.later hb848
    clear q826 q827 q828 q829 q830 q831 q832 q833 q834 q835 q836 q837 q838 q839 q840 q841 q842 q843 q844 q845 q846 h823
    try clear hHeld
    refine hK.out _ _ (⟨q855.cell 0, q855.cell 1, q857.cell 0, q857.cell 1, q859.cell 0, q859.cell 1, q861.cell 0, q861.cell 1, q863.cell 0, q863.cell 1, q865.cell 0, q865.cell 1, trivial⟩) (fun hHeld => ?_)
    clear hK K
    try simp only [Act.put, List.setIfInBounds_toArray, List.set_cons_zero, List.set_cons_succ]
    refine wpAnyH_take (i := 9) (oi := { dst := some 18, op := Op.assign (Operand.tmp 69), type := 4, pos := "law.go:78", after := #[{ on := 8, ground := Ground.data }, { on := 8, ground := Ground.chain }, { on := 0, ground := Ground.phase }, { on := 1, ground := Ground.phase }, { on := 2, ground := Ground.phase }, { on := 3, ground := Ground.phase }, { on := 4, ground := Ground.phase }, { on := 5, ground := Ground.phase }, { on := 6, ground := Ground.phase }, { on := 7, ground := Ground.phase }, { on := 8, ground := Ground.phase }], guard := none }) (v := ?v19) rfl (by kernel_rfl) (by kernel_rfl) (by kernel_rfl) (fun _ _ _ h => h) (Or.inl ⟨by rfl, ?hy19⟩) (by assumption) ?rest19
    case hy19 => (intro w1 hSw; (try dsimp only at hSw); obtain ⟨h0, h1, h2, h3, h4, h5, h6, h7, h8, h9, h10, h11, -⟩ := hSw; go_simp; try with_reducible rfl)
    try simp only [Act.put, List.setIfInBounds_toArray, List.set_cons_zero, List.set_cons_succ]
    refine wpAnyH_done (by kernel_rfl) ?_ _
    go_wp2_with fail
    go_meet
    exact ⟨_, rfl, rfl, q866⟩
  case rest =>
  obtain ⟨wc872, hwc, rfl, hb871⟩ := hcut
  subst hwc
  have q873 := q708.later hb871
  have q874 := q709.later hb871
  have q875 := q710.later hb871
  have q876 := q711.later hb871
  have q877 := q712.later hb871
  have q878 := q713.later hb871
  have q879 := q714.later hb871
  have q880 := q715.later hb871
  have q881 := q716.later hb871
  have q882 := q717.later hb871
  have q883 := q718.later hb871
  have q884 := q719.later hb871
  have q885 := q720.later hb871
  have q886 := q721.later hb871
  have q887 := q722.later hb871
  have q888 := q723.later hb871
  have q889 := q724.later hb871
  clear q708 q709 q710 q711 q712 q713 q714 q715 q716 q717 q718 q719 q720 q721 q722 q723 q724
  go_wp2_with fail
  go_cut [19] (fun sv wx => ∃ z, z = wx ∧ (sv = .bool true ∧ Below wc872.heap.size wc872 wx))
  case first =>
    have b890 : Base wc872 wc872 := Below.refl _ _
    obtain ⟨w891, hw892, hb893⟩ := drew_new wc872
    have q894 := q873.later hb893
    have q895 := q874.later hb893
    have q896 := q875.later hb893
    have q897 := q876.later hb893
    have q898 := q877.later hb893
    have q899 := q878.later hb893
    have q900 := q879.later hb893
    have q901 := q880.later hb893
    have q902 := q881.later hb893
    have q903 := q882.later hb893
    have q904 := q883.later hb893
    have q905 := q884.later hb893
    have q906 := q885.later hb893
    have q907 := q886.later hb893
    have q908 := q887.later hb893
    have q909 := q888.later hb893
    have q910 := q889.later hb893
    have q911 := b890.later hb893
    refine wp_region_held_drew (S := (fun w' => w'.cell? ⟨w22.heap.size, 0, none⟩ = some (.bool aa) ∧ w'.cell? ⟨w22.heap.size, 1, none⟩ = some (.slice a19 al.length c20) ∧ w'.cell? ⟨w56.heap.size, 0, none⟩ = some (.bool ba) ∧ w'.cell? ⟨w56.heap.size, 1, none⟩ = some (.slice a53 bl.length c54) ∧ w'.cell? ⟨w96.heap.size, 0, none⟩ = some (.bool ca) ∧ w'.cell? ⟨w96.heap.size, 1, none⟩ = some (.slice a93 cl.length c94) ∧ w'.cell? ⟨w127.heap.size, 0, none⟩ = some (.bool aa) ∧ w'.cell? ⟨w127.heap.size, 1, none⟩ = some (.slice a124 al.length c125) ∧ w'.cell? ⟨w161.heap.size, 0, none⟩ = some (.bool ba) ∧ w'.cell? ⟨w161.heap.size, 1, none⟩ = some (.slice a158 bl.length c159) ∧ w'.cell? ⟨w199.heap.size, 0, none⟩ = some (.bool ca) ∧ w'.cell? ⟨w199.heap.size, 1, none⟩ = some (.slice a196 cl.length c197) ∧ True)) (by kernel_rfl) (by rw [hw892]; exact ⟨q900.cell 0, q900.cell 1, q902.cell 0, q902.cell 1, q904.cell 0, q904.cell 1, q906.cell 0, q906.cell 1, q908.cell 0, q908.cell 1, q910.cell 0, q910.cell 1, trivial⟩) (fun hHeld => ?_)
    rw [hw892] at hHeld ⊢
    refine wpAnyH_take (i := 0) (oi := { dst := some 70, op := Op.load 26 (Operand.tmp 10), type := 26, pos := "law.go:79", after := #[], guard := none }) (v := ?v20) rfl (by kernel_rfl) (by kernel_rfl) (by kernel_rfl) (fun _ _ _ h => h) (Or.inl ⟨by rfl, ?hy20⟩) (by assumption) ?rest20
    case hy20 => (intro w1 hSw; (try dsimp only at hSw); obtain ⟨h0, h1, h2, h3, h4, h5, h6, h7, h8, h9, h10, h11, -⟩ := hSw; go_simp; try with_reducible rfl)
    try simp only [Act.put, List.setIfInBounds_toArray, List.set_cons_zero, List.set_cons_succ]
    refine wpAnyH_take (i := 1) (oi := { dst := some 71, op := Op.move (Operand.tmp 2), type := 22, pos := "law.go:79", after := #[], guard := none }) (v := ?v21) rfl (by kernel_rfl) (by kernel_rfl) (by kernel_rfl) (fun _ _ _ h => h) (Or.inl ⟨by rfl, ?hy21⟩) (by assumption) ?rest21
    case hy21 => (intro w1 hSw; (try dsimp only at hSw); obtain ⟨h0, h1, h2, h3, h4, h5, h6, h7, h8, h9, h10, h11, -⟩ := hSw; go_simp; try with_reducible rfl)
    try simp only [Act.put, List.setIfInBounds_toArray, List.set_cons_zero, List.set_cons_succ]
    refine wpAnyH_take (i := 4) (oi := { dst := some 74, op := Op.load 29 (Operand.tmp 13), type := 29, pos := "law.go:79", after := #[], guard := none }) (v := ?v22) rfl (by kernel_rfl) (by kernel_rfl) (by kernel_rfl) (fun _ _ _ h => h) (Or.inl ⟨by rfl, ?hy22⟩) (by assumption) ?rest22
    case hy22 => (intro w1 hSw; (try dsimp only at hSw); obtain ⟨h0, h1, h2, h3, h4, h5, h6, h7, h8, h9, h10, h11, -⟩ := hSw; go_simp; try with_reducible rfl)
    try simp only [Act.put, List.setIfInBounds_toArray, List.set_cons_zero, List.set_cons_succ]
    refine wpAnyH_take (i := 5) (oi := { dst := some 75, op := Op.move (Operand.tmp 2), type := 22, pos := "law.go:79", after := #[], guard := none }) (v := ?v23) rfl (by kernel_rfl) (by kernel_rfl) (by kernel_rfl) (fun _ _ _ h => h) (Or.inl ⟨by rfl, ?hy23⟩) (by assumption) ?rest23
    case hy23 => (intro w1 hSw; (try dsimp only at hSw); obtain ⟨h0, h1, h2, h3, h4, h5, h6, h7, h8, h9, h10, h11, -⟩ := hSw; go_simp; try with_reducible rfl)
    try simp only [Act.put, List.setIfInBounds_toArray, List.set_cons_zero, List.set_cons_succ]
    refine wpAnyH_ready (rs := [2]) (by kernel_rfl) (by simp) ?_
    refine AllReadyH.cons (o := { dst := some 72, op := Op.call { callee := Callee.value (Operand.func 6), args := #[Operand.tmp 71], argTypes := #[22] }, type := 24, pos := "law.go:79", after := #[{ on := 1, ground := Ground.data }], guard := none }) rfl (fun K hK => ?_) AllReadyH.nil
    go_simp
    refine (few_any q897 hl3 hn3).mono ?_
    rintro e w916 ⟨a912, c913, rfl, h914, hb917⟩
    have q918 := q894.later hb917
    have q919 := q895.later hb917
    have q920 := q896.later hb917
    have q921 := q897.later hb917
    have q922 := q898.later hb917
    have q923 := q899.later hb917
    have q924 := q900.later hb917
    have q925 := q901.later hb917
    have q926 := q902.later hb917
    have q927 := q903.later hb917
    have q928 := q904.later hb917
    have q929 := q905.later hb917
    have q930 := q906.later hb917
    have q931 := q907.later hb917
    have q932 := q908.later hb917
    have q933 := q909.later hb917
    have q934 := q910.later hb917
    have q935 := q911.later hb917
    clear q894 q895 q896 q897 q898 q899 q900 q901 q902 q903 q904 q905 q906 q907 q908 q909 q910 q911
    have q915 : TsAt w916 _ (fewL m3) := RowV.own h914
    try clear hHeld
    refine hK.out _ _ (⟨q924.cell 0, q924.cell 1, q926.cell 0, q926.cell 1, q928.cell 0, q928.cell 1, q930.cell 0, q930.cell 1, q932.cell 0, q932.cell 1, q934.cell 0, q934.cell 1, trivial⟩) (fun hHeld => ?_)
    clear hK K
    try simp only [Act.put, List.setIfInBounds_toArray, List.set_cons_zero, List.set_cons_succ]
    refine wpAnyH_ready (rs := [3]) (by kernel_rfl) (by simp) ?_
    refine AllReadyH.cons (o := { dst := some 73, op := Op.call { callee := Callee.value (Operand.func 15), args := #[Operand.tmp 70, Operand.tmp 72], argTypes := #[26, 24] }, type := 26, pos := "law.go:79", after := #[{ on := 0, ground := Ground.data }, { on := 2, ground := Ground.data }, { on := 2, ground := Ground.chain }], guard := none }) rfl (fun K hK => ?_) AllReadyH.nil
    go_simp
    refine (drop_any q923 q915 HS.out.2.2.2.2.2 HA.out.2.2.2.2.2.2).mono ?_
    rintro e w939 ⟨a936, c937, rfl, h938, hb940⟩
    have q941 := q918.later hb940
    have q942 := q919.later hb940
    have q943 := q920.later hb940
    have q944 := q921.later hb940
    have q945 := q922.later hb940
    have q946 := q923.later hb940
    have q947 := q924.later hb940
    have q948 := q925.later hb940
    have q949 := q926.later hb940
    have q950 := q927.later hb940
    have q951 := q928.later hb940
    have q952 := q929.later hb940
    have q953 := q930.later hb940
    have q954 := q931.later hb940
    have q955 := q932.later hb940
    have q956 := q933.later hb940
    have q957 := q934.later hb940
    have q958 := q935.later hb940
    have q959 := q915.later hb940
    clear q918 q919 q920 q921 q922 q923 q924 q925 q926 q927 q928 q929 q930 q931 q932 q933 q934 q935 q915
    try clear hHeld
    refine hK.out _ _ (⟨q947.cell 0, q947.cell 1, q949.cell 0, q949.cell 1, q951.cell 0, q951.cell 1, q953.cell 0, q953.cell 1, q955.cell 0, q955.cell 1, q957.cell 0, q957.cell 1, trivial⟩) (fun hHeld => ?_)
    clear hK K
    try simp only [Act.put, List.setIfInBounds_toArray, List.set_cons_zero, List.set_cons_succ]
    refine wpAnyH_ready (rs := [6]) (by kernel_rfl) (by simp) ?_
    refine AllReadyH.cons (o := { dst := some 76, op := Op.call { callee := Callee.value (Operand.func 6), args := #[Operand.tmp 75], argTypes := #[22] }, type := 24, pos := "law.go:79", after := #[{ on := 5, ground := Ground.data }, { on := 3, ground := Ground.chain }], guard := none }) rfl (fun K hK => ?_) AllReadyH.nil
    go_simp
    refine (few_any q944 hl3 hn3).mono ?_
    rintro e w964 ⟨a960, c961, rfl, h962, hb965⟩
    have q966 := q941.later hb965
    have q967 := q942.later hb965
    have q968 := q943.later hb965
    have q969 := q944.later hb965
    have q970 := q945.later hb965
    have q971 := q946.later hb965
    have q972 := q947.later hb965
    have q973 := q948.later hb965
    have q974 := q949.later hb965
    have q975 := q950.later hb965
    have q976 := q951.later hb965
    have q977 := q952.later hb965
    have q978 := q953.later hb965
    have q979 := q954.later hb965
    have q980 := q955.later hb965
    have q981 := q956.later hb965
    have q982 := q957.later hb965
    have q983 := q958.later hb965
    have q984 := q959.later hb965
    have q985 := h938.later hb965
    clear q941 q942 q943 q944 q945 q946 q947 q948 q949 q950 q951 q952 q953 q954 q955 q956 q957 q958 q959 h938
    have q963 : TsAt w964 _ (fewL m3) := RowV.own h962
    try clear hHeld
    refine hK.out _ _ (⟨q972.cell 0, q972.cell 1, q974.cell 0, q974.cell 1, q976.cell 0, q976.cell 1, q978.cell 0, q978.cell 1, q980.cell 0, q980.cell 1, q982.cell 0, q982.cell 1, trivial⟩) (fun hHeld => ?_)
    clear hK K
    try simp only [Act.put, List.setIfInBounds_toArray, List.set_cons_zero, List.set_cons_succ]
    refine wpAnyH_ready (rs := [7]) (by kernel_rfl) (by simp) ?_
    refine AllReadyH.cons (o := { dst := some 77, op := Op.call { callee := Callee.value (Operand.func 16), args := #[Operand.tmp 74, Operand.tmp 76], argTypes := #[29, 24] }, type := 29, pos := "law.go:79", after := #[{ on := 4, ground := Ground.data }, { on := 6, ground := Ground.data }, { on := 6, ground := Ground.chain }], guard := none }) rfl (fun K hK => ?_) AllReadyH.nil
    go_simp
    refine (rdrop_any q977 q963 HS.out.2.2.2.2.2 HZ.out.2.2 HS.out.1.rises HA.out.2.2.2.2.2.2).mono ?_
    rintro e w989 ⟨a986, c987, rfl, h988, hb990⟩
    have q991 := q966.later hb990
    have q992 := q967.later hb990
    have q993 := q968.later hb990
    have q994 := q969.later hb990
    have q995 := q970.later hb990
    have q996 := q971.later hb990
    have q997 := q972.later hb990
    have q998 := q973.later hb990
    have q999 := q974.later hb990
    have q1000 := q975.later hb990
    have q1001 := q976.later hb990
    have q1002 := q977.later hb990
    have q1003 := q978.later hb990
    have q1004 := q979.later hb990
    have q1005 := q980.later hb990
    have q1006 := q981.later hb990
    have q1007 := q982.later hb990
    have q1008 := q983.later hb990
    have q1009 := q984.later hb990
    have q1010 := q985.later hb990
    have q1011 := q963.later hb990
    clear q966 q967 q968 q969 q970 q971 q972 q973 q974 q975 q976 q977 q978 q979 q980 q981 q982 q983 q984 q985 q963
    try clear hHeld
    refine hK.out _ _ (⟨q997.cell 0, q997.cell 1, q999.cell 0, q999.cell 1, q1001.cell 0, q1001.cell 1, q1003.cell 0, q1003.cell 1, q1005.cell 0, q1005.cell 1, q1007.cell 0, q1007.cell 1, trivial⟩) (fun hHeld => ?_)
    clear hK K
    try simp only [Act.put, List.setIfInBounds_toArray, List.set_cons_zero, List.set_cons_succ]
    refine wpAnyH_ready (rs := [8]) (by kernel_rfl) (by simp) ?_
    refine AllReadyH.cons (o := { dst := some 78, op := Op.call { callee := Callee.value (Operand.func 8), args := #[Operand.tmp 73, Operand.tmp 77], argTypes := #[26, 29] }, type := 4, pos := "law.go:79", after := #[{ on := 3, ground := Ground.data }, { on := 7, ground := Ground.data }, { on := 7, ground := Ground.chain }], guard := none }) rfl (fun K hK => ?_) AllReadyH.nil
    go_simp
    refine (same9_any (l := el) q1010 h988).mono ?_
    rintro e w1012 ⟨rfl, hb1013⟩
    have q1014 := q991.later hb1013
    have q1015 := q992.later hb1013
    have q1016 := q993.later hb1013
    have q1017 := q994.later hb1013
    have q1018 := q995.later hb1013
    have q1019 := q996.later hb1013
    have q1020 := q997.later hb1013
    have q1021 := q998.later hb1013
    have q1022 := q999.later hb1013
    have q1023 := q1000.later hb1013
    have q1024 := q1001.later hb1013
    have q1025 := q1002.later hb1013
    have q1026 := q1003.later hb1013
    have q1027 := q1004.later hb1013
    have q1028 := q1005.later hb1013
    have q1029 := q1006.later hb1013
    have q1030 := q1007.later hb1013
    have q1031 := q1008.later hb1013
    have q1032 := q1009.later hb1013
    have q1033 := q1010.later hb1013
    have q1034 := q1011.later hb1013
    have q1035 := h988.later hb1013
    clear q991 q992 q993 q994 q995 q996 q997 q998 q999 q1000 q1001 q1002 q1003 q1004 q1005 q1006 q1007 q1008 q1009 q1010 q1011 h988
    try clear hHeld
    refine hK.out _ _ (⟨q1020.cell 0, q1020.cell 1, q1022.cell 0, q1022.cell 1, q1024.cell 0, q1024.cell 1, q1026.cell 0, q1026.cell 1, q1028.cell 0, q1028.cell 1, q1030.cell 0, q1030.cell 1, trivial⟩) (fun hHeld => ?_)
    clear hK K
    try simp only [Act.put, List.setIfInBounds_toArray, List.set_cons_zero, List.set_cons_succ]
    refine wpAnyH_take (i := 9) (oi := { dst := some 19, op := Op.assign (Operand.tmp 78), type := 4, pos := "law.go:79", after := #[{ on := 8, ground := Ground.data }, { on := 8, ground := Ground.chain }, { on := 0, ground := Ground.phase }, { on := 1, ground := Ground.phase }, { on := 2, ground := Ground.phase }, { on := 3, ground := Ground.phase }, { on := 4, ground := Ground.phase }, { on := 5, ground := Ground.phase }, { on := 6, ground := Ground.phase }, { on := 7, ground := Ground.phase }, { on := 8, ground := Ground.phase }], guard := none }) (v := ?v24) rfl (by kernel_rfl) (by kernel_rfl) (by kernel_rfl) (fun _ _ _ h => h) (Or.inl ⟨by rfl, ?hy24⟩) (by assumption) ?rest24
    case hy24 => (intro w1 hSw; (try dsimp only at hSw); obtain ⟨h0, h1, h2, h3, h4, h5, h6, h7, h8, h9, h10, h11, -⟩ := hSw; go_simp; try with_reducible rfl)
    try simp only [Act.put, List.setIfInBounds_toArray, List.set_cons_zero, List.set_cons_succ]
    refine wpAnyH_done (by kernel_rfl) ?_ _
    go_wp2_with fail
    go_meet
    exact ⟨_, rfl, rfl, q1031⟩
  case rest =>
  obtain ⟨wc1037, hwc, rfl, hb1036⟩ := hcut
  subst hwc
  have q1038 := q873.later hb1036
  have q1039 := q874.later hb1036
  have q1040 := q875.later hb1036
  have q1041 := q876.later hb1036
  have q1042 := q877.later hb1036
  have q1043 := q878.later hb1036
  have q1044 := q879.later hb1036
  have q1045 := q880.later hb1036
  have q1046 := q881.later hb1036
  have q1047 := q882.later hb1036
  have q1048 := q883.later hb1036
  have q1049 := q884.later hb1036
  have q1050 := q885.later hb1036
  have q1051 := q886.later hb1036
  have q1052 := q887.later hb1036
  have q1053 := q888.later hb1036
  have q1054 := q889.later hb1036
  clear q873 q874 q875 q876 q877 q878 q879 q880 q881 q882 q883 q884 q885 q886 q887 q888 q889
  go_wp2_with fail
  obtain ⟨i0, hi, hz0, hz1, hz2⟩ := info_parts Try.infoRs
  go_loopw [21, 20] (fun i v wr => ∃ k : Nat, k ≤ n4 ∧ k ≤ 10 ∧ i = .int .i64 k ∧ ∃ R : List Rz, R.length = k ∧ (∀ r ∈ R, r.x.length ≤ maxLen) ∧ wr.ownsRow wc1037.heap.size 43 5 v R.length (rzCells R) ∧ Below wc1037.heap.size wc1037 wr) (fun i _ _ => n4 - (RowKit.intOf i).toNat)
  case atStart => exact ⟨0, Nat.zero_le _, Nat.zero_le _, rfl, [], rfl, fun _ h => absurd h List.not_mem_nil, ⟨by simp [rzCells], .inl ⟨rfl, by simp⟩⟩, Below.refl _ _⟩
  case round =>
    obtain ⟨k, hk, hk10, rfl, R, hR, hRx, hown, hb⟩ := hrel
    by_cases hlt : k < n4
    · by_cases hlt2 : k < 10
      · obtain ⟨bb, hx⟩ : ∃ bb, m4[k]? = some bb := ⟨_, List.getElem?_eq_getElem (by have := H4.out.1; omega)⟩
        have hb256 := H4.out.2 bb (List.mem_of_getElem? hx)
        obtain ⟨g, off, rfl, hgl, hcell⟩ := q1042 k bb hx
        have d1 : wr.cell? ⟨g, off + k, none⟩ = some (.int .u8 (bb : Int)) := (hb.cell (p := ⟨g, _, none⟩) hgl).trans hcell
        have hgw : g < wr.heap.size := Nat.lt_of_lt_of_le hgl hb.size
        have b0 : (0 : Int) ≤ (k : Int) := by omega
        have b1 : (k : Int) < (n4 : Int) := by omega
        have b2 : (k : Int) < 10 := by omega
        obtain ⟨κ, hκ⟩ : ∃ κ, bb % 5 = κ := ⟨_, rfl⟩
        have hκ5 : κ < 5 := by omega
        have k0 : (0 : Int) ≤ (κ : Int) := by omega
        have k1 : (κ : Int) < 5 := by omega
        have hm : (bb : Int).tmod 5 = (κ : Int) := by rw [Int.tmod_eq_emod_of_nonneg (by omega)]; omega
        have hm' : (bb : Int) % 5 = (κ : Int) := by omega
        obtain ⟨x, hxx⟩ : ∃ x, tab5.getD κ [] = x := ⟨_, rfl⟩
        have htc := tab5_cell κ hκ5
        have hxl := tab5_len κ hκ5
        rw [hxx] at htc hxl
        have hlit : ∀ W : World, (W.alloc (.cells #[.string ⟨#[97]⟩, .string ⟨#[98]⟩, .string ⟨#[99]⟩, .string ⟨#[88]⟩, .string ⟨#[104, 45, 49]⟩] 9)).cell? ⟨W.heap.size, κ, none⟩ = some (.string ⟨x.toArray⟩) := fun W => (Blk.new W tab5V 9).cell κ |>.trans htc
        have HX := Lib.hid (And.intro hRx hxl)
        have HOW := Lib.hid hown
        have HBB := Lib.hid hb
        have hbs := hb.size
        have hRl := hR
        clear hRx hxl hown hb hκ hx hcell hxx htc hR
        have hnew : ((wr.alloc (.cells #[.string ⟨#[97]⟩, .string ⟨#[98]⟩, .string ⟨#[99]⟩, .string ⟨#[88]⟩, .string ⟨#[104, 45, 49]⟩] 9)).alloc (.cells #[.int .i64 1, .string ⟨x.toArray⟩, .int .u64 (k : Int), .bool false, .string ⟨#[]⟩] 43)).heap[wr.heap.size + 1]? = some (.cells #[.int .i64 1, .string ⟨x.toArray⟩, .int .u64 (k : Int), .bool false, .string ⟨#[]⟩] 43 (0, 0)) := by
          have := heap_alloc_new (wr.alloc (.cells #[.string ⟨#[97]⟩, .string ⟨#[98]⟩, .string ⟨#[99]⟩, .string ⟨#[88]⟩, .string ⟨#[104, 45, 49]⟩] 9)) (.cells #[.int .i64 1, .string ⟨x.toArray⟩, .int .u64 (k : Int), .bool false, .string ⟨#[]⟩] 43); simpa using this
        go_wp2_with (at_builtin; go_must (refine wpList_append_own _ rfl _ _ 38 rfl wc1037.heap.size 43 i0 _ 5 56 Try.underlying38 hi hz0 hz1 hz2 rfl (by omega) _ _ _ rfl ((HOW.out.alloc _).alloc _) ⟨wr.heap.size + 1, 0, none⟩ 1 1 (rzCells [⟨1, x, k, false, ⟨#[]⟩⟩]) rfl rfl (World.news_of_block (cs := #[.int .i64 1, .string ⟨x.toArray⟩, .int .u64 (k : Int), .bool false, .string ⟨#[]⟩]) (t := 43) (fr := (0, 0)) hnew) (rz_one _) (by unfold maxLen; omega) (by omega) (by simp; omega) ?_; intro v3 w3 hown3 hgrow3 _))
        have HB3 := Lib.hid (((HBB.out.alloc (by omega) _).alloc (by simp; omega) _).grown hgrow3 (by simp; omega) (fun j hj => (HOW.out.lt j hj).1))
        have HO3 := Lib.hid (show w3.ownsRow wc1037.heap.size 43 5 v3 (R ++ [(⟨1, x, k, false, ⟨#[]⟩⟩ : Rz)]).length (rzCells (R ++ [(⟨1, x, k, false, ⟨#[]⟩⟩ : Rz)])) by rw [rzCells_append, List.length_append]; exact hown3)
        clear hown3 hgrow3
        go_wp2_with fail
        go_roundw
        case rel => exact ⟨k + 1, by omega, by omega, by go_num, R ++ [(⟨1, x, k, false, ⟨#[]⟩⟩ : Rz)], by simp [hRl], fun r hr => (by rcases List.mem_append.1 hr with h | h; (· exact HX.out.1 r h); obtain rfl := List.mem_singleton.1 h; exact HX.out.2), HO3.out, HB3.out⟩
        case measure => simp [RowKit.intOf]; omega
      · have b1 : (k : Int) < (n4 : Int) := by omega
        have b2 : ¬ (k : Int) < 10 := by omega
        obtain ⟨a5, c5, rfl⟩ := owns_slice hown
        have hRz := rzAt_row hown
        have hPa := q1044.later hb
        have hPb := q1046.later hb
        have hPx := q1050.later hb
        have hPy := q1052.later hb
        have hTa := q1043.later hb
        have hTb := q1045.later hb
        have hTx := q1049.later hb
        have hTy := q1051.later hb
        have pa0 := hPa.cell 0
        have pa1 := hPa.cell 1
        simp only [List.getElem?_toArray, List.getElem?_cons_zero, List.getElem?_cons_succ] at pa0 pa1
        obtain ⟨PL, hPL⟩ : ∃ PL, R.filter (fun r => nHas okN ⟨aa, al⟩ r.x) = PL := ⟨_, rfl⟩
        have hRn : R.length ≤ 1000000 := by omega
        have hPn : PL.length ≤ 1000000 := by rw [← hPL]; exact Nat.le_trans (List.length_filter_le _ _) hRn
        have HE := Lib.hid (And.intro hRz (And.intro hRx (And.intro hPL (And.intro hRn (And.intro (Base.later q1038 hb) (And.intro hTa (And.intro hTb (And.intro hTx (And.intro hTy (And.intro hPa (And.intro hPb (And.intro hPx hPy))))))))))))
        clear hRz hRx hPL hRn hTa hTb hTx hTy hPa hPb hPx hPy hown hb hR
        go_wp2_with fail
        refine (pick_any (sa := aa) HE.out.2.2.2.2.2.1 HS.out.1.fit.1 HE.out.1 rfl HE.out.2.2.2.1 HE.out.2.1 HE.out.2.2.1).mono ?_
        rintro e w5 ⟨a6, c6, rfl, hq6, hb6⟩
        have px0 := (HE.out.2.2.2.2.2.2.2.2.2.2.2.1.later hb6).cell 0
        have px1 := (HE.out.2.2.2.2.2.2.2.2.2.2.2.1.later hb6).cell 1
        simp only [List.getElem?_toArray, List.getElem?_cons_zero, List.getElem?_cons_succ] at px0 px1
        dsimp only
        go_wp2_with fail
        refine (rpick_any (sa := aa) (HE.out.2.2.2.2.2.2.2.1.later hb6) (HE.out.1.later hb6) rfl HE.out.2.2.2.1 HE.out.2.1 HE.out.2.2.1).mono ?_
        rintro e w7 ⟨a8, c8, rfl, hq8, hb8⟩
        have HQ := Lib.hid (And.intro (hq6.later hb8) (And.intro hq8 (hb6.trans (hb8.mono hb6.size))))
        clear hq6 hq8 hb6 hb8
        dsimp only
        go_wp2_with fail
        go_loopw [24] (fun i wq => ∃ j : Nat, j ≤ PL.length ∧ i = .int .i64 j ∧ Base w7 wq) (fun i _ => PL.length - (RowKit.intOf i).toNat)
        case atStart => exact ⟨0, Nat.zero_le _, rfl, Below.refl _ _⟩
        case round =>
          obtain ⟨j, hj, rfl, hbq⟩ := hrel
          by_cases hjl : j < PL.length
          · obtain ⟨r, hr⟩ : ∃ r, PL[j]? = some r := ⟨_, List.getElem?_eq_getElem hjl⟩
            obtain ⟨g1, o1, rfl, hg1, e0, e1, e2, e3, e4⟩ := HQ.out.1 j r hr
            obtain ⟨g2, o2, rfl, hg2, f0, f1, f2, f3, f4⟩ := HQ.out.2.1 j r hr
            have HC := Lib.hid (And.intro hg1 (And.intro hg2 (And.intro e0 (And.intro e1 (And.intro e2 (And.intro e3 (And.intro e4 (And.intro f0 (And.intro f1 (And.intro f2 (And.intro f3 f4)))))))))))
            have u0 : (0 : Int) ≤ (j : Int) := by omega
            have u1 : (j : Int) < (PL.length : Int) := by omega
            have hgd := guard_rz
            have hne : ∀ w : World, (binOp .neq 43 (.agg #[.int .i64 r.t, .string ⟨r.x.toArray⟩, .int .u64 (r.q : Int), .bool r.g, .string r.s]) (.agg #[.int .i64 r.t, .string ⟨r.x.toArray⟩, .int .u64 (r.q : Int), .bool r.g, .string r.s])).run Try.prog w = .ok (.bool false) w := neq_rz r.t ⟨r.x.toArray⟩ r.s (r.q : Int) r.g
            clear hr hg1 hg2 e0 e1 e2 e3 e4 f0 f1 f2 f3 f4
            go_wp2_with fail
            obtain ⟨w1055, hw1056, hb1057⟩ := drew_new wr
            have q1058 := hbq.later hb1057
            refine wp_region_held_drew (S := (fun w' => w'.cell? ⟨g1, o1 + j * 5, none⟩ = some (.int .i64 r.t) ∧ w'.cell? ⟨g1, o1 + j * 5 + 1, none⟩ = some (.string ⟨r.x.toArray⟩) ∧ w'.cell? ⟨g1, o1 + j * 5 + 2, none⟩ = some (.int .u64 (r.q : Int)) ∧ w'.cell? ⟨g1, o1 + j * 5 + 3, none⟩ = some (.bool r.g) ∧ w'.cell? ⟨g1, o1 + j * 5 + 4, none⟩ = some (.string r.s) ∧ w'.cell? ⟨g2, o2 + j * 5, none⟩ = some (.int .i64 r.t) ∧ w'.cell? ⟨g2, o2 + j * 5 + 1, none⟩ = some (.string ⟨r.x.toArray⟩) ∧ w'.cell? ⟨g2, o2 + j * 5 + 2, none⟩ = some (.int .u64 (r.q : Int)) ∧ w'.cell? ⟨g2, o2 + j * 5 + 3, none⟩ = some (.bool r.g) ∧ w'.cell? ⟨g2, o2 + j * 5 + 4, none⟩ = some (.string r.s) ∧ True)) (by kernel_rfl) (by rw [hw1056]; exact ⟨(Below.cell q1058 (p := ⟨g1, _, none⟩) HC.out.1).trans HC.out.2.2.1, (Below.cell q1058 (p := ⟨g1, _, none⟩) HC.out.1).trans HC.out.2.2.2.1, (Below.cell q1058 (p := ⟨g1, _, none⟩) HC.out.1).trans HC.out.2.2.2.2.1, (Below.cell q1058 (p := ⟨g1, _, none⟩) HC.out.1).trans HC.out.2.2.2.2.2.1, (Below.cell q1058 (p := ⟨g1, _, none⟩) HC.out.1).trans HC.out.2.2.2.2.2.2.1, (Below.cell q1058 (p := ⟨g2, _, none⟩) HC.out.2.1).trans HC.out.2.2.2.2.2.2.2.1, (Below.cell q1058 (p := ⟨g2, _, none⟩) HC.out.2.1).trans HC.out.2.2.2.2.2.2.2.2.1, (Below.cell q1058 (p := ⟨g2, _, none⟩) HC.out.2.1).trans HC.out.2.2.2.2.2.2.2.2.2.1, (Below.cell q1058 (p := ⟨g2, _, none⟩) HC.out.2.1).trans HC.out.2.2.2.2.2.2.2.2.2.2.1, (Below.cell q1058 (p := ⟨g2, _, none⟩) HC.out.2.1).trans HC.out.2.2.2.2.2.2.2.2.2.2.2, trivial⟩) (fun hHeld => ?_)
            rw [hw1056] at hHeld ⊢
            refine wpAnyH_take (i := 0) (oi := { dst := some 121, op := Op.move (Operand.tmp 22), type := 38, pos := "law.go:90", after := #[], guard := none }) (v := ?v20025) rfl (by kernel_rfl) (by kernel_rfl) (by kernel_rfl) (fun _ _ _ h => h) (Or.inl ⟨by rfl, ?hy20025⟩) (by assumption) ?rest20025
            case hy20025 => (intro w1 hSw; (try dsimp only at hSw); obtain ⟨h0, h1, h2, h3, h4, h5, h6, h7, h8, h9, -⟩ := hSw; go_simp; try with_reducible rfl)
            try simp only [Act.put, List.setIfInBounds_toArray, List.set_cons_zero, List.set_cons_succ]
            refine wpAnyH_take (i := 1) (oi := { dst := some 122, op := Op.move (Operand.tmp 24), type := 3, pos := "law.go:90", after := #[], guard := none }) (v := ?v20026) rfl (by kernel_rfl) (by kernel_rfl) (by kernel_rfl) (fun _ _ _ h => h) (Or.inl ⟨by rfl, ?hy20026⟩) (by assumption) ?rest20026
            case hy20026 => (intro w1 hSw; (try dsimp only at hSw); obtain ⟨h0, h1, h2, h3, h4, h5, h6, h7, h8, h9, -⟩ := hSw; go_simp; try with_reducible rfl)
            try simp only [Act.put, List.setIfInBounds_toArray, List.set_cons_zero, List.set_cons_succ]
            refine wpAnyH_take (i := 2) (oi := { dst := some 123, op := Op.indexAddr 38 (Operand.tmp 121) (Operand.tmp 122), type := 0, pos := "law.go:90", after := #[{ on := 0, ground := Ground.data }, { on := 1, ground := Ground.data }], guard := none }) (v := ?v20027) rfl (by kernel_rfl) (by kernel_rfl) (by kernel_rfl) (fun _ _ _ h => h) (Or.inl ⟨by rfl, ?hy20027⟩) (by assumption) ?rest20027
            case hy20027 => (intro w1 hSw; (try dsimp only at hSw); obtain ⟨h0, h1, h2, h3, h4, h5, h6, h7, h8, h9, -⟩ := hSw; go_simp; try with_reducible rfl)
            try simp only [Act.put, List.setIfInBounds_toArray, List.set_cons_zero, List.set_cons_succ]
            refine wpAnyH_take (i := 3) (oi := { dst := some 124, op := Op.load 43 (Operand.tmp 123), type := 43, pos := "law.go:90", after := #[{ on := 2, ground := Ground.data }], guard := none }) (v := ?v20028) rfl (by kernel_rfl) (by kernel_rfl) (by kernel_rfl) (fun _ _ _ h => h) (Or.inl ⟨by rfl, ?hy20028⟩) (by assumption) ?rest20028
            case hy20028 => (intro w1 hSw; (try dsimp only at hSw); obtain ⟨h0, h1, h2, h3, h4, h5, h6, h7, h8, h9, -⟩ := hSw; go_simp; try with_reducible rfl)
            try simp only [Act.put, List.setIfInBounds_toArray, List.set_cons_zero, List.set_cons_succ]
            refine wpAnyH_take (i := 4) (oi := { dst := some 125, op := Op.move (Operand.tmp 23), type := 38, pos := "law.go:90", after := #[], guard := none }) (v := ?v20029) rfl (by kernel_rfl) (by kernel_rfl) (by kernel_rfl) (fun _ _ _ h => h) (Or.inl ⟨by rfl, ?hy20029⟩) (by assumption) ?rest20029
            case hy20029 => (intro w1 hSw; (try dsimp only at hSw); obtain ⟨h0, h1, h2, h3, h4, h5, h6, h7, h8, h9, -⟩ := hSw; go_simp; try with_reducible rfl)
            try simp only [Act.put, List.setIfInBounds_toArray, List.set_cons_zero, List.set_cons_succ]
            refine wpAnyH_take (i := 5) (oi := { dst := some 126, op := Op.move (Operand.tmp 24), type := 3, pos := "law.go:90", after := #[], guard := none }) (v := ?v20030) rfl (by kernel_rfl) (by kernel_rfl) (by kernel_rfl) (fun _ _ _ h => h) (Or.inl ⟨by rfl, ?hy20030⟩) (by assumption) ?rest20030
            case hy20030 => (intro w1 hSw; (try dsimp only at hSw); obtain ⟨h0, h1, h2, h3, h4, h5, h6, h7, h8, h9, -⟩ := hSw; go_simp; try with_reducible rfl)
            try simp only [Act.put, List.setIfInBounds_toArray, List.set_cons_zero, List.set_cons_succ]
            refine wpAnyH_take (i := 6) (oi := { dst := some 127, op := Op.indexAddr 38 (Operand.tmp 125) (Operand.tmp 126), type := 0, pos := "law.go:90", after := #[{ on := 4, ground := Ground.data }, { on := 5, ground := Ground.data }], guard := none }) (v := ?v20031) rfl (by kernel_rfl) (by kernel_rfl) (by kernel_rfl) (fun _ _ _ h => h) (Or.inl ⟨by rfl, ?hy20031⟩) (by assumption) ?rest20031
            case hy20031 => (intro w1 hSw; (try dsimp only at hSw); obtain ⟨h0, h1, h2, h3, h4, h5, h6, h7, h8, h9, -⟩ := hSw; go_simp; try with_reducible rfl)
            try simp only [Act.put, List.setIfInBounds_toArray, List.set_cons_zero, List.set_cons_succ]
            refine wpAnyH_take (i := 7) (oi := { dst := some 128, op := Op.load 43 (Operand.tmp 127), type := 43, pos := "law.go:90", after := #[{ on := 6, ground := Ground.data }], guard := none }) (v := ?v20032) rfl (by kernel_rfl) (by kernel_rfl) (by kernel_rfl) (fun _ _ _ h => h) (Or.inl ⟨by rfl, ?hy20032⟩) (by assumption) ?rest20032
            case hy20032 => (intro w1 hSw; (try dsimp only at hSw); obtain ⟨h0, h1, h2, h3, h4, h5, h6, h7, h8, h9, -⟩ := hSw; go_simp; try with_reducible rfl)
            try simp only [Act.put, List.setIfInBounds_toArray, List.set_cons_zero, List.set_cons_succ]
            refine wpAnyH_take (i := 8) (oi := { dst := some 129, op := Op.binOp BinOp.neq 43 (Operand.tmp 124) (Operand.tmp 128) 43, type := 4, pos := "law.go:90", after := #[{ on := 3, ground := Ground.data }, { on := 7, ground := Ground.data }], guard := none }) (v := ?v20033) rfl (by kernel_rfl) (by kernel_rfl) (by kernel_rfl) (fun _ _ _ h => h) (Or.inl ⟨by rfl, ?hy20033⟩) (by assumption) ?rest20033
            case hy20033 => (intro w1 hSw; (try dsimp only at hSw); obtain ⟨h0, h1, h2, h3, h4, h5, h6, h7, h8, h9, -⟩ := hSw; go_simp; try with_reducible rfl)
            try simp only [Act.put, List.setIfInBounds_toArray, List.set_cons_zero, List.set_cons_succ]
            refine wpAnyH_done (by kernel_rfl) ?_ _
            go_wp2_with fail
            go_roundw
            case rel => exact ⟨j + 1, by omega, by go_num, q1058⟩
            case measure => simp [RowKit.intOf]; omega
          · have u1 : ¬ (j : Int) < (PL.length : Int) := by omega
            go_wp2_with fail
            have HB7 := Lib.hid (HQ.out.2.2.trans (Below.mono hbq HQ.out.2.2.size))
            clear hbq
            have r1059 := (HE.out.2.2.2.2.2.1).later HB7.out
            have r1060 := (HE.out.2.2.2.2.2.2.1).later HB7.out
            have r1061 := (HE.out.2.2.2.2.2.2.2.1).later HB7.out
            have r1062 := (HE.out.2.2.2.2.2.2.2.2.1).later HB7.out
            have r1063 := (HE.out.2.2.2.2.2.2.2.2.2.1).later HB7.out
            have r1064 := (HE.out.2.2.2.2.2.2.2.2.2.2.1).later HB7.out
            have r1065 := (HE.out.2.2.2.2.2.2.2.2.2.2.2.1).later HB7.out
            have r1066 := (HE.out.2.2.2.2.2.2.2.2.2.2.2.2).later HB7.out
            have r1067 := Base.later HE.out.2.2.2.2.1 HB7.out
            obtain ⟨w1068, hw1069, hb1070⟩ := drew_new wr
            have q1071 := r1059.later hb1070
            have q1072 := r1060.later hb1070
            have q1073 := r1061.later hb1070
            have q1074 := r1062.later hb1070
            have q1075 := r1063.later hb1070
            have q1076 := r1064.later hb1070
            have q1077 := r1065.later hb1070
            have q1078 := r1066.later hb1070
            have q1079 := r1067.later hb1070
            refine wp_region_held_drew (S := (fun w' => w'.cell? ⟨w22.heap.size, 0, none⟩ = some (.bool aa) ∧ w'.cell? ⟨w22.heap.size, 1, none⟩ = some (.slice a19 al.length c20) ∧ w'.cell? ⟨w56.heap.size, 0, none⟩ = some (.bool ba) ∧ w'.cell? ⟨w56.heap.size, 1, none⟩ = some (.slice a53 bl.length c54) ∧ w'.cell? ⟨w127.heap.size, 0, none⟩ = some (.bool aa) ∧ w'.cell? ⟨w127.heap.size, 1, none⟩ = some (.slice a124 al.length c125) ∧ w'.cell? ⟨w161.heap.size, 0, none⟩ = some (.bool ba) ∧ w'.cell? ⟨w161.heap.size, 1, none⟩ = some (.slice a158 bl.length c159) ∧ True)) (by kernel_rfl) (by rw [hw1069]; exact ⟨q1075.cell 0, q1075.cell 1, q1076.cell 0, q1076.cell 1, q1077.cell 0, q1077.cell 1, q1078.cell 0, q1078.cell 1, trivial⟩) (fun hHeld => ?_)
            rw [hw1069] at hHeld ⊢
            refine wpAnyH_take (i := 0) (oi := { dst := some 130, op := Op.move (Operand.tmp 9), type := 4, pos := "law.go:94", after := #[], guard := none }) (v := ?v40034) rfl (by kernel_rfl) (by kernel_rfl) (by kernel_rfl) (fun _ _ _ h => h) (Or.inl ⟨by rfl, ?hy40034⟩) (by assumption) ?rest40034
            case hy40034 => (intro w1 hSw; (try dsimp only at hSw); obtain ⟨h0, h1, h2, h3, h4, h5, h6, h7, -⟩ := hSw; go_simp; try with_reducible rfl)
            try simp only [Act.put, List.setIfInBounds_toArray, List.set_cons_zero, List.set_cons_succ]
            refine wpAnyH_take (i := 1) (oi := { dst := some 131, op := Op.move (Operand.tmp 130), type := 4, pos := "law.go:94", after := #[{ on := 0, ground := Ground.data }], guard := none }) (v := ?v40035) rfl (by kernel_rfl) (by kernel_rfl) (by kernel_rfl) (fun _ _ _ h => h) (Or.inl ⟨by rfl, ?hy40035⟩) (by assumption) ?rest40035
            case hy40035 => (intro w1 hSw; (try dsimp only at hSw); obtain ⟨h0, h1, h2, h3, h4, h5, h6, h7, -⟩ := hSw; go_simp; try with_reducible rfl)
            try simp only [Act.put, List.setIfInBounds_toArray, List.set_cons_zero, List.set_cons_succ]
            refine wpAnyH_take (i := 2) (oi := { dst := some 132, op := Op.move (Operand.tmp 16), type := 4, pos := "law.go:94", after := #[{ on := 1, ground := Ground.guard }], guard := some (1, true) }) (v := ?v40036) rfl (by kernel_rfl) (by kernel_rfl) (by kernel_rfl) (fun _ _ _ h => h) (Or.inl ⟨by rfl, ?hy40036⟩) (by assumption) ?rest40036
            case hy40036 => (intro w1 hSw; (try dsimp only at hSw); obtain ⟨h0, h1, h2, h3, h4, h5, h6, h7, -⟩ := hSw; go_simp; try with_reducible rfl)
            try simp only [Act.put, List.setIfInBounds_toArray, List.set_cons_zero, List.set_cons_succ]
            refine wpAnyH_take (i := 3) (oi := { dst := some 133, op := Op.pick (Operand.tmp 131) (Operand.tmp 132) (Operand.const (Value.bool false)), type := 4, pos := "law.go:94", after := #[{ on := 1, ground := Ground.data }, { on := 2, ground := Ground.data }], guard := none }) (v := ?v40037) rfl (by kernel_rfl) (by kernel_rfl) (by kernel_rfl) (fun _ _ _ h => h) (Or.inl ⟨by rfl, ?hy40037⟩) (by assumption) ?rest40037
            case hy40037 => (intro w1 hSw; (try dsimp only at hSw); obtain ⟨h0, h1, h2, h3, h4, h5, h6, h7, -⟩ := hSw; go_simp; try with_reducible rfl)
            try simp only [Act.put, List.setIfInBounds_toArray, List.set_cons_zero, List.set_cons_succ]
            refine wpAnyH_take (i := 4) (oi := { dst := some 134, op := Op.move (Operand.tmp 133), type := 4, pos := "law.go:94", after := #[{ on := 3, ground := Ground.data }, { on := 1, ground := Ground.chain }], guard := none }) (v := ?v40038) rfl (by kernel_rfl) (by kernel_rfl) (by kernel_rfl) (fun _ _ _ h => h) (Or.inl ⟨by rfl, ?hy40038⟩) (by assumption) ?rest40038
            case hy40038 => (intro w1 hSw; (try dsimp only at hSw); obtain ⟨h0, h1, h2, h3, h4, h5, h6, h7, -⟩ := hSw; go_simp; try with_reducible rfl)
            try simp only [Act.put, List.setIfInBounds_toArray, List.set_cons_zero, List.set_cons_succ]
            refine wpAnyH_take (i := 5) (oi := { dst := some 135, op := Op.move (Operand.tmp 17), type := 4, pos := "law.go:94", after := #[{ on := 4, ground := Ground.guard }], guard := some (4, true) }) (v := ?v40039) rfl (by kernel_rfl) (by kernel_rfl) (by kernel_rfl) (fun _ _ _ h => h) (Or.inl ⟨by rfl, ?hy40039⟩) (by assumption) ?rest40039
            case hy40039 => (intro w1 hSw; (try dsimp only at hSw); obtain ⟨h0, h1, h2, h3, h4, h5, h6, h7, -⟩ := hSw; go_simp; try with_reducible rfl)
            try simp only [Act.put, List.setIfInBounds_toArray, List.set_cons_zero, List.set_cons_succ]
            refine wpAnyH_take (i := 6) (oi := { dst := some 136, op := Op.pick (Operand.tmp 134) (Operand.tmp 135) (Operand.const (Value.bool false)), type := 4, pos := "law.go:94", after := #[{ on := 4, ground := Ground.data }, { on := 5, ground := Ground.data }], guard := none }) (v := ?v40040) rfl (by kernel_rfl) (by kernel_rfl) (by kernel_rfl) (fun _ _ _ h => h) (Or.inl ⟨by rfl, ?hy40040⟩) (by assumption) ?rest40040
            case hy40040 => (intro w1 hSw; (try dsimp only at hSw); obtain ⟨h0, h1, h2, h3, h4, h5, h6, h7, -⟩ := hSw; go_simp; try with_reducible rfl)
            try simp only [Act.put, List.setIfInBounds_toArray, List.set_cons_zero, List.set_cons_succ]
            refine wpAnyH_take (i := 7) (oi := { dst := some 137, op := Op.move (Operand.tmp 136), type := 4, pos := "law.go:94", after := #[{ on := 6, ground := Ground.data }, { on := 4, ground := Ground.chain }], guard := none }) (v := ?v40041) rfl (by kernel_rfl) (by kernel_rfl) (by kernel_rfl) (fun _ _ _ h => h) (Or.inl ⟨by rfl, ?hy40041⟩) (by assumption) ?rest40041
            case hy40041 => (intro w1 hSw; (try dsimp only at hSw); obtain ⟨h0, h1, h2, h3, h4, h5, h6, h7, -⟩ := hSw; go_simp; try with_reducible rfl)
            try simp only [Act.put, List.setIfInBounds_toArray, List.set_cons_zero, List.set_cons_succ]
            refine wpAnyH_take (i := 8) (oi := { dst := some 138, op := Op.move (Operand.tmp 18), type := 4, pos := "law.go:94", after := #[{ on := 7, ground := Ground.guard }], guard := some (7, true) }) (v := ?v40042) rfl (by kernel_rfl) (by kernel_rfl) (by kernel_rfl) (fun _ _ _ h => h) (Or.inl ⟨by rfl, ?hy40042⟩) (by assumption) ?rest40042
            case hy40042 => (intro w1 hSw; (try dsimp only at hSw); obtain ⟨h0, h1, h2, h3, h4, h5, h6, h7, -⟩ := hSw; go_simp; try with_reducible rfl)
            try simp only [Act.put, List.setIfInBounds_toArray, List.set_cons_zero, List.set_cons_succ]
            refine wpAnyH_take (i := 9) (oi := { dst := some 139, op := Op.pick (Operand.tmp 137) (Operand.tmp 138) (Operand.const (Value.bool false)), type := 4, pos := "law.go:94", after := #[{ on := 7, ground := Ground.data }, { on := 8, ground := Ground.data }], guard := none }) (v := ?v40043) rfl (by kernel_rfl) (by kernel_rfl) (by kernel_rfl) (fun _ _ _ h => h) (Or.inl ⟨by rfl, ?hy40043⟩) (by assumption) ?rest40043
            case hy40043 => (intro w1 hSw; (try dsimp only at hSw); obtain ⟨h0, h1, h2, h3, h4, h5, h6, h7, -⟩ := hSw; go_simp; try with_reducible rfl)
            try simp only [Act.put, List.setIfInBounds_toArray, List.set_cons_zero, List.set_cons_succ]
            refine wpAnyH_take (i := 10) (oi := { dst := some 140, op := Op.move (Operand.tmp 139), type := 4, pos := "law.go:94", after := #[{ on := 9, ground := Ground.data }, { on := 7, ground := Ground.chain }], guard := none }) (v := ?v40044) rfl (by kernel_rfl) (by kernel_rfl) (by kernel_rfl) (fun _ _ _ h => h) (Or.inl ⟨by rfl, ?hy40044⟩) (by assumption) ?rest40044
            case hy40044 => (intro w1 hSw; (try dsimp only at hSw); obtain ⟨h0, h1, h2, h3, h4, h5, h6, h7, -⟩ := hSw; go_simp; try with_reducible rfl)
            try simp only [Act.put, List.setIfInBounds_toArray, List.set_cons_zero, List.set_cons_succ]
            refine wpAnyH_take (i := 11) (oi := { dst := some 141, op := Op.move (Operand.tmp 19), type := 4, pos := "law.go:94", after := #[{ on := 10, ground := Ground.guard }], guard := some (10, true) }) (v := ?v40045) rfl (by kernel_rfl) (by kernel_rfl) (by kernel_rfl) (fun _ _ _ h => h) (Or.inl ⟨by rfl, ?hy40045⟩) (by assumption) ?rest40045
            case hy40045 => (intro w1 hSw; (try dsimp only at hSw); obtain ⟨h0, h1, h2, h3, h4, h5, h6, h7, -⟩ := hSw; go_simp; try with_reducible rfl)
            try simp only [Act.put, List.setIfInBounds_toArray, List.set_cons_zero, List.set_cons_succ]
            refine wpAnyH_take (i := 12) (oi := { dst := some 142, op := Op.pick (Operand.tmp 140) (Operand.tmp 141) (Operand.const (Value.bool false)), type := 4, pos := "law.go:94", after := #[{ on := 10, ground := Ground.data }, { on := 11, ground := Ground.data }], guard := none }) (v := ?v40046) rfl (by kernel_rfl) (by kernel_rfl) (by kernel_rfl) (fun _ _ _ h => h) (Or.inl ⟨by rfl, ?hy40046⟩) (by assumption) ?rest40046
            case hy40046 => (intro w1 hSw; (try dsimp only at hSw); obtain ⟨h0, h1, h2, h3, h4, h5, h6, h7, -⟩ := hSw; go_simp; try with_reducible rfl)
            try simp only [Act.put, List.setIfInBounds_toArray, List.set_cons_zero, List.set_cons_succ]
            refine wpAnyH_take (i := 13) (oi := { dst := some 143, op := Op.move (Operand.tmp 142), type := 4, pos := "law.go:94", after := #[{ on := 12, ground := Ground.data }, { on := 10, ground := Ground.chain }], guard := none }) (v := ?v40047) rfl (by kernel_rfl) (by kernel_rfl) (by kernel_rfl) (fun _ _ _ h => h) (Or.inl ⟨by rfl, ?hy40047⟩) (by assumption) ?rest40047
            case hy40047 => (intro w1 hSw; (try dsimp only at hSw); obtain ⟨h0, h1, h2, h3, h4, h5, h6, h7, -⟩ := hSw; go_simp; try with_reducible rfl)
            try simp only [Act.put, List.setIfInBounds_toArray, List.set_cons_zero, List.set_cons_succ]
            refine wpAnyH_take (i := 14) (oi := { dst := some 144, op := Op.load 26 (Operand.tmp 10), type := 26, pos := "law.go:94", after := #[{ on := 13, ground := Ground.guard }], guard := some (13, true) }) (v := ?v40048) rfl (by kernel_rfl) (by kernel_rfl) (by kernel_rfl) (fun _ _ _ h => h) (Or.inl ⟨by rfl, ?hy40048⟩) (by assumption) ?rest40048
            case hy40048 => (intro w1 hSw; (try dsimp only at hSw); obtain ⟨h0, h1, h2, h3, h4, h5, h6, h7, -⟩ := hSw; go_simp; try with_reducible rfl)
            try simp only [Act.put, List.setIfInBounds_toArray, List.set_cons_zero, List.set_cons_succ]
            refine wpAnyH_take (i := 15) (oi := { dst := some 145, op := Op.load 26 (Operand.tmp 11), type := 26, pos := "law.go:94", after := #[{ on := 13, ground := Ground.guard }], guard := some (13, true) }) (v := ?v40049) rfl (by kernel_rfl) (by kernel_rfl) (by kernel_rfl) (fun _ _ _ h => h) (Or.inl ⟨by rfl, ?hy40049⟩) (by assumption) ?rest40049
            case hy40049 => (intro w1 hSw; (try dsimp only at hSw); obtain ⟨h0, h1, h2, h3, h4, h5, h6, h7, -⟩ := hSw; go_simp; try with_reducible rfl)
            try simp only [Act.put, List.setIfInBounds_toArray, List.set_cons_zero, List.set_cons_succ]
            refine wpAnyH_take (i := 17) (oi := { dst := some 147, op := Op.load 29 (Operand.tmp 13), type := 29, pos := "law.go:94", after := #[{ on := 13, ground := Ground.guard }], guard := some (13, true) }) (v := ?v40050) rfl (by kernel_rfl) (by kernel_rfl) (by kernel_rfl) (fun _ _ _ h => h) (Or.inl ⟨by rfl, ?hy40050⟩) (by assumption) ?rest40050
            case hy40050 => (intro w1 hSw; (try dsimp only at hSw); obtain ⟨h0, h1, h2, h3, h4, h5, h6, h7, -⟩ := hSw; go_simp; try with_reducible rfl)
            try simp only [Act.put, List.setIfInBounds_toArray, List.set_cons_zero, List.set_cons_succ]
            refine wpAnyH_take (i := 18) (oi := { dst := some 148, op := Op.load 29 (Operand.tmp 14), type := 29, pos := "law.go:94", after := #[{ on := 13, ground := Ground.guard }], guard := some (13, true) }) (v := ?v40051) rfl (by kernel_rfl) (by kernel_rfl) (by kernel_rfl) (fun _ _ _ h => h) (Or.inl ⟨by rfl, ?hy40051⟩) (by assumption) ?rest40051
            case hy40051 => (intro w1 hSw; (try dsimp only at hSw); obtain ⟨h0, h1, h2, h3, h4, h5, h6, h7, -⟩ := hSw; go_simp; try with_reducible rfl)
            try simp only [Act.put, List.setIfInBounds_toArray, List.set_cons_zero, List.set_cons_succ]
            refine wpAnyH_ready (rs := [16]) (by kernel_rfl) (by simp) ?_
            refine AllReadyH.cons (o := { dst := some 146, op := Op.call { callee := Callee.value (Operand.func 19), args := #[Operand.tmp 144, Operand.tmp 145], argTypes := #[26, 26] }, type := 4, pos := "law.go:94", after := #[{ on := 14, ground := Ground.data }, { on := 15, ground := Ground.data }, { on := 13, ground := Ground.chain }, { on := 13, ground := Ground.guard }], guard := some (13, true) }) rfl (fun K hK => ?_) AllReadyH.nil
            go_simp
            refine (same_any (aa := aa) (ba := ba) q1071 q1072 HS.out.1.fit HS.out.2.1.fit HB.out.1).mono ?_
            rintro e w1080 ⟨rfl, hb1081⟩
            have q1082 := q1071.later hb1081
            have q1083 := q1072.later hb1081
            have q1084 := q1073.later hb1081
            have q1085 := q1074.later hb1081
            have q1086 := q1075.later hb1081
            have q1087 := q1076.later hb1081
            have q1088 := q1077.later hb1081
            have q1089 := q1078.later hb1081
            have q1090 := q1079.later hb1081
            clear q1071 q1072 q1073 q1074 q1075 q1076 q1077 q1078 q1079
            try clear hHeld
            refine hK.out _ _ (⟨q1086.cell 0, q1086.cell 1, q1087.cell 0, q1087.cell 1, q1088.cell 0, q1088.cell 1, q1089.cell 0, q1089.cell 1, trivial⟩) (fun hHeld => ?_)
            clear hK K
            try simp only [Act.put, List.setIfInBounds_toArray, List.set_cons_zero, List.set_cons_succ]
            refine wpAnyH_ready (rs := [19]) (by kernel_rfl) (by simp) ?_
            refine AllReadyH.cons (o := { dst := some 149, op := Op.call { callee := Callee.value (Operand.func 20), args := #[Operand.tmp 147, Operand.tmp 148], argTypes := #[29, 29] }, type := 4, pos := "law.go:94", after := #[{ on := 17, ground := Ground.data }, { on := 18, ground := Ground.data }, { on := 16, ground := Ground.chain }, { on := 13, ground := Ground.guard }], guard := some (13, true) }) rfl (fun K hK => ?_) AllReadyH.nil
            go_simp
            refine (rsame_any (sa := aa) (sb := ba) q1084 q1085 HB.out.2).mono ?_
            rintro e w1091 ⟨rfl, hb1092⟩
            have q1093 := q1082.later hb1092
            have q1094 := q1083.later hb1092
            have q1095 := q1084.later hb1092
            have q1096 := q1085.later hb1092
            have q1097 := q1086.later hb1092
            have q1098 := q1087.later hb1092
            have q1099 := q1088.later hb1092
            have q1100 := q1089.later hb1092
            have q1101 := q1090.later hb1092
            clear q1082 q1083 q1084 q1085 q1086 q1087 q1088 q1089 q1090
            try clear hHeld
            refine hK.out _ _ (⟨q1097.cell 0, q1097.cell 1, q1098.cell 0, q1098.cell 1, q1099.cell 0, q1099.cell 1, q1100.cell 0, q1100.cell 1, trivial⟩) (fun hHeld => ?_)
            clear hK K
            try simp only [Act.put, List.setIfInBounds_toArray, List.set_cons_zero, List.set_cons_succ]
            refine wpAnyH_take (i := 20) (oi := { dst := some 150, op := Op.binOp BinOp.eql 4 (Operand.tmp 146) (Operand.tmp 149) 4, type := 4, pos := "law.go:94", after := #[{ on := 16, ground := Ground.data }, { on := 19, ground := Ground.data }, { on := 13, ground := Ground.guard }], guard := some (13, true) }) (v := ?v40052) rfl (by kernel_rfl) (by kernel_rfl) (by kernel_rfl) (fun _ _ _ h => h) (Or.inl ⟨by rfl, ?hy40052⟩) (by assumption) ?rest40052
            case hy40052 => (intro w1 hSw; (try dsimp only at hSw); obtain ⟨h0, h1, h2, h3, h4, h5, h6, h7, -⟩ := hSw; go_simp; try with_reducible rfl)
            try simp only [Act.put, List.setIfInBounds_toArray, List.set_cons_zero, List.set_cons_succ]
            refine wpAnyH_take (i := 21) (oi := { dst := some 151, op := Op.pick (Operand.tmp 143) (Operand.tmp 150) (Operand.const (Value.bool false)), type := 4, pos := "law.go:94", after := #[{ on := 13, ground := Ground.data }, { on := 20, ground := Ground.data }], guard := none }) (v := ?v40053) rfl (by kernel_rfl) (by kernel_rfl) (by kernel_rfl) (fun _ _ _ h => h) (Or.inl ⟨by rfl, ?hy40053⟩) (by assumption) ?rest40053
            case hy40053 => (intro w1 hSw; (try dsimp only at hSw); obtain ⟨h0, h1, h2, h3, h4, h5, h6, h7, -⟩ := hSw; go_simp; try with_reducible rfl)
            try simp only [Act.put, List.setIfInBounds_toArray, List.set_cons_zero, List.set_cons_succ]
            refine wpAnyH_take (i := 22) (oi := { dst := some 8, op := Op.assign (Operand.tmp 151), type := 4, pos := "law.go:94", after := #[{ on := 21, ground := Ground.data }, { on := 19, ground := Ground.chain }, { on := 0, ground := Ground.phase }, { on := 1, ground := Ground.phase }, { on := 2, ground := Ground.phase }, { on := 3, ground := Ground.phase }, { on := 4, ground := Ground.phase }, { on := 5, ground := Ground.phase }, { on := 6, ground := Ground.phase }, { on := 7, ground := Ground.phase }, { on := 8, ground := Ground.phase }, { on := 9, ground := Ground.phase }, { on := 10, ground := Ground.phase }, { on := 11, ground := Ground.phase }, { on := 12, ground := Ground.phase }, { on := 13, ground := Ground.phase }, { on := 14, ground := Ground.phase }, { on := 15, ground := Ground.phase }, { on := 16, ground := Ground.phase }, { on := 17, ground := Ground.phase }, { on := 18, ground := Ground.phase }, { on := 19, ground := Ground.phase }, { on := 20, ground := Ground.phase }, { on := 21, ground := Ground.phase }], guard := none }) (v := ?v40054) rfl (by kernel_rfl) (by kernel_rfl) (by kernel_rfl) (fun _ _ _ h => h) (Or.inl ⟨by rfl, ?hy40054⟩) (by assumption) ?rest40054
            case hy40054 => (intro w1 hSw; (try dsimp only at hSw); obtain ⟨h0, h1, h2, h3, h4, h5, h6, h7, -⟩ := hSw; go_simp; try with_reducible rfl)
            try simp only [Act.put, List.setIfInBounds_toArray, List.set_cons_zero, List.set_cons_succ]
            refine wpAnyH_done (by kernel_rfl) ?_ _
            go_wp2_with fail
            go_ret
            exact ⟨rfl, q1101⟩
    · have b1 : ¬ (k : Int) < (n4 : Int) := by omega
      obtain ⟨a5, c5, rfl⟩ := owns_slice hown
      have hRz := rzAt_row hown
      have hPa := q1044.later hb
      have hPb := q1046.later hb
      have hPx := q1050.later hb
      have hPy := q1052.later hb
      have hTa := q1043.later hb
      have hTb := q1045.later hb
      have hTx := q1049.later hb
      have hTy := q1051.later hb
      have pa0 := hPa.cell 0
      have pa1 := hPa.cell 1
      simp only [List.getElem?_toArray, List.getElem?_cons_zero, List.getElem?_cons_succ] at pa0 pa1
      obtain ⟨PL, hPL⟩ : ∃ PL, R.filter (fun r => nHas okN ⟨aa, al⟩ r.x) = PL := ⟨_, rfl⟩
      have hRn : R.length ≤ 1000000 := by omega
      have hPn : PL.length ≤ 1000000 := by rw [← hPL]; exact Nat.le_trans (List.length_filter_le _ _) hRn
      have HE := Lib.hid (And.intro hRz (And.intro hRx (And.intro hPL (And.intro hRn (And.intro (Base.later q1038 hb) (And.intro hTa (And.intro hTb (And.intro hTx (And.intro hTy (And.intro hPa (And.intro hPb (And.intro hPx hPy))))))))))))
      clear hRz hRx hPL hRn hTa hTb hTx hTy hPa hPb hPx hPy hown hb hR
      go_wp2_with fail
      refine (pick_any (sa := aa) HE.out.2.2.2.2.2.1 HS.out.1.fit.1 HE.out.1 rfl HE.out.2.2.2.1 HE.out.2.1 HE.out.2.2.1).mono ?_
      rintro e w5 ⟨a6, c6, rfl, hq6, hb6⟩
      have px0 := (HE.out.2.2.2.2.2.2.2.2.2.2.2.1.later hb6).cell 0
      have px1 := (HE.out.2.2.2.2.2.2.2.2.2.2.2.1.later hb6).cell 1
      simp only [List.getElem?_toArray, List.getElem?_cons_zero, List.getElem?_cons_succ] at px0 px1
      dsimp only
      go_wp2_with fail
      refine (rpick_any (sa := aa) (HE.out.2.2.2.2.2.2.2.1.later hb6) (HE.out.1.later hb6) rfl HE.out.2.2.2.1 HE.out.2.1 HE.out.2.2.1).mono ?_
      rintro e w7 ⟨a8, c8, rfl, hq8, hb8⟩
      have HQ := Lib.hid (And.intro (hq6.later hb8) (And.intro hq8 (hb6.trans (hb8.mono hb6.size))))
      clear hq6 hq8 hb6 hb8
      dsimp only
      go_wp2_with fail
      go_loopw [24] (fun i wq => ∃ j : Nat, j ≤ PL.length ∧ i = .int .i64 j ∧ Base w7 wq) (fun i _ => PL.length - (RowKit.intOf i).toNat)
      case atStart => exact ⟨0, Nat.zero_le _, rfl, Below.refl _ _⟩
      case round =>
        obtain ⟨j, hj, rfl, hbq⟩ := hrel
        by_cases hjl : j < PL.length
        · obtain ⟨r, hr⟩ : ∃ r, PL[j]? = some r := ⟨_, List.getElem?_eq_getElem hjl⟩
          obtain ⟨g1, o1, rfl, hg1, e0, e1, e2, e3, e4⟩ := HQ.out.1 j r hr
          obtain ⟨g2, o2, rfl, hg2, f0, f1, f2, f3, f4⟩ := HQ.out.2.1 j r hr
          have HC := Lib.hid (And.intro hg1 (And.intro hg2 (And.intro e0 (And.intro e1 (And.intro e2 (And.intro e3 (And.intro e4 (And.intro f0 (And.intro f1 (And.intro f2 (And.intro f3 f4)))))))))))
          have u0 : (0 : Int) ≤ (j : Int) := by omega
          have u1 : (j : Int) < (PL.length : Int) := by omega
          have hgd := guard_rz
          have hne : ∀ w : World, (binOp .neq 43 (.agg #[.int .i64 r.t, .string ⟨r.x.toArray⟩, .int .u64 (r.q : Int), .bool r.g, .string r.s]) (.agg #[.int .i64 r.t, .string ⟨r.x.toArray⟩, .int .u64 (r.q : Int), .bool r.g, .string r.s])).run Try.prog w = .ok (.bool false) w := neq_rz r.t ⟨r.x.toArray⟩ r.s (r.q : Int) r.g
          clear hr hg1 hg2 e0 e1 e2 e3 e4 f0 f1 f2 f3 f4
          go_wp2_with fail
          obtain ⟨w1102, hw1103, hb1104⟩ := drew_new wr
          have q1105 := hbq.later hb1104
          refine wp_region_held_drew (S := (fun w' => w'.cell? ⟨g1, o1 + j * 5, none⟩ = some (.int .i64 r.t) ∧ w'.cell? ⟨g1, o1 + j * 5 + 1, none⟩ = some (.string ⟨r.x.toArray⟩) ∧ w'.cell? ⟨g1, o1 + j * 5 + 2, none⟩ = some (.int .u64 (r.q : Int)) ∧ w'.cell? ⟨g1, o1 + j * 5 + 3, none⟩ = some (.bool r.g) ∧ w'.cell? ⟨g1, o1 + j * 5 + 4, none⟩ = some (.string r.s) ∧ w'.cell? ⟨g2, o2 + j * 5, none⟩ = some (.int .i64 r.t) ∧ w'.cell? ⟨g2, o2 + j * 5 + 1, none⟩ = some (.string ⟨r.x.toArray⟩) ∧ w'.cell? ⟨g2, o2 + j * 5 + 2, none⟩ = some (.int .u64 (r.q : Int)) ∧ w'.cell? ⟨g2, o2 + j * 5 + 3, none⟩ = some (.bool r.g) ∧ w'.cell? ⟨g2, o2 + j * 5 + 4, none⟩ = some (.string r.s) ∧ True)) (by kernel_rfl) (by rw [hw1103]; exact ⟨(Below.cell q1105 (p := ⟨g1, _, none⟩) HC.out.1).trans HC.out.2.2.1, (Below.cell q1105 (p := ⟨g1, _, none⟩) HC.out.1).trans HC.out.2.2.2.1, (Below.cell q1105 (p := ⟨g1, _, none⟩) HC.out.1).trans HC.out.2.2.2.2.1, (Below.cell q1105 (p := ⟨g1, _, none⟩) HC.out.1).trans HC.out.2.2.2.2.2.1, (Below.cell q1105 (p := ⟨g1, _, none⟩) HC.out.1).trans HC.out.2.2.2.2.2.2.1, (Below.cell q1105 (p := ⟨g2, _, none⟩) HC.out.2.1).trans HC.out.2.2.2.2.2.2.2.1, (Below.cell q1105 (p := ⟨g2, _, none⟩) HC.out.2.1).trans HC.out.2.2.2.2.2.2.2.2.1, (Below.cell q1105 (p := ⟨g2, _, none⟩) HC.out.2.1).trans HC.out.2.2.2.2.2.2.2.2.2.1, (Below.cell q1105 (p := ⟨g2, _, none⟩) HC.out.2.1).trans HC.out.2.2.2.2.2.2.2.2.2.2.1, (Below.cell q1105 (p := ⟨g2, _, none⟩) HC.out.2.1).trans HC.out.2.2.2.2.2.2.2.2.2.2.2, trivial⟩) (fun hHeld => ?_)
          rw [hw1103] at hHeld ⊢
          refine wpAnyH_take (i := 0) (oi := { dst := some 121, op := Op.move (Operand.tmp 22), type := 38, pos := "law.go:90", after := #[], guard := none }) (v := ?v60055) rfl (by kernel_rfl) (by kernel_rfl) (by kernel_rfl) (fun _ _ _ h => h) (Or.inl ⟨by rfl, ?hy60055⟩) (by assumption) ?rest60055
          case hy60055 => (intro w1 hSw; (try dsimp only at hSw); obtain ⟨h0, h1, h2, h3, h4, h5, h6, h7, h8, h9, -⟩ := hSw; go_simp; try with_reducible rfl)
          try simp only [Act.put, List.setIfInBounds_toArray, List.set_cons_zero, List.set_cons_succ]
          refine wpAnyH_take (i := 1) (oi := { dst := some 122, op := Op.move (Operand.tmp 24), type := 3, pos := "law.go:90", after := #[], guard := none }) (v := ?v60056) rfl (by kernel_rfl) (by kernel_rfl) (by kernel_rfl) (fun _ _ _ h => h) (Or.inl ⟨by rfl, ?hy60056⟩) (by assumption) ?rest60056
          case hy60056 => (intro w1 hSw; (try dsimp only at hSw); obtain ⟨h0, h1, h2, h3, h4, h5, h6, h7, h8, h9, -⟩ := hSw; go_simp; try with_reducible rfl)
          try simp only [Act.put, List.setIfInBounds_toArray, List.set_cons_zero, List.set_cons_succ]
          refine wpAnyH_take (i := 2) (oi := { dst := some 123, op := Op.indexAddr 38 (Operand.tmp 121) (Operand.tmp 122), type := 0, pos := "law.go:90", after := #[{ on := 0, ground := Ground.data }, { on := 1, ground := Ground.data }], guard := none }) (v := ?v60057) rfl (by kernel_rfl) (by kernel_rfl) (by kernel_rfl) (fun _ _ _ h => h) (Or.inl ⟨by rfl, ?hy60057⟩) (by assumption) ?rest60057
          case hy60057 => (intro w1 hSw; (try dsimp only at hSw); obtain ⟨h0, h1, h2, h3, h4, h5, h6, h7, h8, h9, -⟩ := hSw; go_simp; try with_reducible rfl)
          try simp only [Act.put, List.setIfInBounds_toArray, List.set_cons_zero, List.set_cons_succ]
          refine wpAnyH_take (i := 3) (oi := { dst := some 124, op := Op.load 43 (Operand.tmp 123), type := 43, pos := "law.go:90", after := #[{ on := 2, ground := Ground.data }], guard := none }) (v := ?v60058) rfl (by kernel_rfl) (by kernel_rfl) (by kernel_rfl) (fun _ _ _ h => h) (Or.inl ⟨by rfl, ?hy60058⟩) (by assumption) ?rest60058
          case hy60058 => (intro w1 hSw; (try dsimp only at hSw); obtain ⟨h0, h1, h2, h3, h4, h5, h6, h7, h8, h9, -⟩ := hSw; go_simp; try with_reducible rfl)
          try simp only [Act.put, List.setIfInBounds_toArray, List.set_cons_zero, List.set_cons_succ]
          refine wpAnyH_take (i := 4) (oi := { dst := some 125, op := Op.move (Operand.tmp 23), type := 38, pos := "law.go:90", after := #[], guard := none }) (v := ?v60059) rfl (by kernel_rfl) (by kernel_rfl) (by kernel_rfl) (fun _ _ _ h => h) (Or.inl ⟨by rfl, ?hy60059⟩) (by assumption) ?rest60059
          case hy60059 => (intro w1 hSw; (try dsimp only at hSw); obtain ⟨h0, h1, h2, h3, h4, h5, h6, h7, h8, h9, -⟩ := hSw; go_simp; try with_reducible rfl)
          try simp only [Act.put, List.setIfInBounds_toArray, List.set_cons_zero, List.set_cons_succ]
          refine wpAnyH_take (i := 5) (oi := { dst := some 126, op := Op.move (Operand.tmp 24), type := 3, pos := "law.go:90", after := #[], guard := none }) (v := ?v60060) rfl (by kernel_rfl) (by kernel_rfl) (by kernel_rfl) (fun _ _ _ h => h) (Or.inl ⟨by rfl, ?hy60060⟩) (by assumption) ?rest60060
          case hy60060 => (intro w1 hSw; (try dsimp only at hSw); obtain ⟨h0, h1, h2, h3, h4, h5, h6, h7, h8, h9, -⟩ := hSw; go_simp; try with_reducible rfl)
          try simp only [Act.put, List.setIfInBounds_toArray, List.set_cons_zero, List.set_cons_succ]
          refine wpAnyH_take (i := 6) (oi := { dst := some 127, op := Op.indexAddr 38 (Operand.tmp 125) (Operand.tmp 126), type := 0, pos := "law.go:90", after := #[{ on := 4, ground := Ground.data }, { on := 5, ground := Ground.data }], guard := none }) (v := ?v60061) rfl (by kernel_rfl) (by kernel_rfl) (by kernel_rfl) (fun _ _ _ h => h) (Or.inl ⟨by rfl, ?hy60061⟩) (by assumption) ?rest60061
          case hy60061 => (intro w1 hSw; (try dsimp only at hSw); obtain ⟨h0, h1, h2, h3, h4, h5, h6, h7, h8, h9, -⟩ := hSw; go_simp; try with_reducible rfl)
          try simp only [Act.put, List.setIfInBounds_toArray, List.set_cons_zero, List.set_cons_succ]
          refine wpAnyH_take (i := 7) (oi := { dst := some 128, op := Op.load 43 (Operand.tmp 127), type := 43, pos := "law.go:90", after := #[{ on := 6, ground := Ground.data }], guard := none }) (v := ?v60062) rfl (by kernel_rfl) (by kernel_rfl) (by kernel_rfl) (fun _ _ _ h => h) (Or.inl ⟨by rfl, ?hy60062⟩) (by assumption) ?rest60062
          case hy60062 => (intro w1 hSw; (try dsimp only at hSw); obtain ⟨h0, h1, h2, h3, h4, h5, h6, h7, h8, h9, -⟩ := hSw; go_simp; try with_reducible rfl)
          try simp only [Act.put, List.setIfInBounds_toArray, List.set_cons_zero, List.set_cons_succ]
          refine wpAnyH_take (i := 8) (oi := { dst := some 129, op := Op.binOp BinOp.neq 43 (Operand.tmp 124) (Operand.tmp 128) 43, type := 4, pos := "law.go:90", after := #[{ on := 3, ground := Ground.data }, { on := 7, ground := Ground.data }], guard := none }) (v := ?v60063) rfl (by kernel_rfl) (by kernel_rfl) (by kernel_rfl) (fun _ _ _ h => h) (Or.inl ⟨by rfl, ?hy60063⟩) (by assumption) ?rest60063
          case hy60063 => (intro w1 hSw; (try dsimp only at hSw); obtain ⟨h0, h1, h2, h3, h4, h5, h6, h7, h8, h9, -⟩ := hSw; go_simp; try with_reducible rfl)
          try simp only [Act.put, List.setIfInBounds_toArray, List.set_cons_zero, List.set_cons_succ]
          refine wpAnyH_done (by kernel_rfl) ?_ _
          go_wp2_with fail
          go_roundw
          case rel => exact ⟨j + 1, by omega, by go_num, q1105⟩
          case measure => simp [RowKit.intOf]; omega
        · have u1 : ¬ (j : Int) < (PL.length : Int) := by omega
          go_wp2_with fail
          have HB7 := Lib.hid (HQ.out.2.2.trans (Below.mono hbq HQ.out.2.2.size))
          clear hbq
          have r1106 := (HE.out.2.2.2.2.2.1).later HB7.out
          have r1107 := (HE.out.2.2.2.2.2.2.1).later HB7.out
          have r1108 := (HE.out.2.2.2.2.2.2.2.1).later HB7.out
          have r1109 := (HE.out.2.2.2.2.2.2.2.2.1).later HB7.out
          have r1110 := (HE.out.2.2.2.2.2.2.2.2.2.1).later HB7.out
          have r1111 := (HE.out.2.2.2.2.2.2.2.2.2.2.1).later HB7.out
          have r1112 := (HE.out.2.2.2.2.2.2.2.2.2.2.2.1).later HB7.out
          have r1113 := (HE.out.2.2.2.2.2.2.2.2.2.2.2.2).later HB7.out
          have r1114 := Base.later HE.out.2.2.2.2.1 HB7.out
          obtain ⟨w1115, hw1116, hb1117⟩ := drew_new wr
          have q1118 := r1106.later hb1117
          have q1119 := r1107.later hb1117
          have q1120 := r1108.later hb1117
          have q1121 := r1109.later hb1117
          have q1122 := r1110.later hb1117
          have q1123 := r1111.later hb1117
          have q1124 := r1112.later hb1117
          have q1125 := r1113.later hb1117
          have q1126 := r1114.later hb1117
          refine wp_region_held_drew (S := (fun w' => w'.cell? ⟨w22.heap.size, 0, none⟩ = some (.bool aa) ∧ w'.cell? ⟨w22.heap.size, 1, none⟩ = some (.slice a19 al.length c20) ∧ w'.cell? ⟨w56.heap.size, 0, none⟩ = some (.bool ba) ∧ w'.cell? ⟨w56.heap.size, 1, none⟩ = some (.slice a53 bl.length c54) ∧ w'.cell? ⟨w127.heap.size, 0, none⟩ = some (.bool aa) ∧ w'.cell? ⟨w127.heap.size, 1, none⟩ = some (.slice a124 al.length c125) ∧ w'.cell? ⟨w161.heap.size, 0, none⟩ = some (.bool ba) ∧ w'.cell? ⟨w161.heap.size, 1, none⟩ = some (.slice a158 bl.length c159) ∧ True)) (by kernel_rfl) (by rw [hw1116]; exact ⟨q1122.cell 0, q1122.cell 1, q1123.cell 0, q1123.cell 1, q1124.cell 0, q1124.cell 1, q1125.cell 0, q1125.cell 1, trivial⟩) (fun hHeld => ?_)
          rw [hw1116] at hHeld ⊢
          refine wpAnyH_take (i := 0) (oi := { dst := some 130, op := Op.move (Operand.tmp 9), type := 4, pos := "law.go:94", after := #[], guard := none }) (v := ?v80064) rfl (by kernel_rfl) (by kernel_rfl) (by kernel_rfl) (fun _ _ _ h => h) (Or.inl ⟨by rfl, ?hy80064⟩) (by assumption) ?rest80064
          case hy80064 => (intro w1 hSw; (try dsimp only at hSw); obtain ⟨h0, h1, h2, h3, h4, h5, h6, h7, -⟩ := hSw; go_simp; try with_reducible rfl)
          try simp only [Act.put, List.setIfInBounds_toArray, List.set_cons_zero, List.set_cons_succ]
          refine wpAnyH_take (i := 1) (oi := { dst := some 131, op := Op.move (Operand.tmp 130), type := 4, pos := "law.go:94", after := #[{ on := 0, ground := Ground.data }], guard := none }) (v := ?v80065) rfl (by kernel_rfl) (by kernel_rfl) (by kernel_rfl) (fun _ _ _ h => h) (Or.inl ⟨by rfl, ?hy80065⟩) (by assumption) ?rest80065
          case hy80065 => (intro w1 hSw; (try dsimp only at hSw); obtain ⟨h0, h1, h2, h3, h4, h5, h6, h7, -⟩ := hSw; go_simp; try with_reducible rfl)
          try simp only [Act.put, List.setIfInBounds_toArray, List.set_cons_zero, List.set_cons_succ]
          refine wpAnyH_take (i := 2) (oi := { dst := some 132, op := Op.move (Operand.tmp 16), type := 4, pos := "law.go:94", after := #[{ on := 1, ground := Ground.guard }], guard := some (1, true) }) (v := ?v80066) rfl (by kernel_rfl) (by kernel_rfl) (by kernel_rfl) (fun _ _ _ h => h) (Or.inl ⟨by rfl, ?hy80066⟩) (by assumption) ?rest80066
          case hy80066 => (intro w1 hSw; (try dsimp only at hSw); obtain ⟨h0, h1, h2, h3, h4, h5, h6, h7, -⟩ := hSw; go_simp; try with_reducible rfl)
          try simp only [Act.put, List.setIfInBounds_toArray, List.set_cons_zero, List.set_cons_succ]
          refine wpAnyH_take (i := 3) (oi := { dst := some 133, op := Op.pick (Operand.tmp 131) (Operand.tmp 132) (Operand.const (Value.bool false)), type := 4, pos := "law.go:94", after := #[{ on := 1, ground := Ground.data }, { on := 2, ground := Ground.data }], guard := none }) (v := ?v80067) rfl (by kernel_rfl) (by kernel_rfl) (by kernel_rfl) (fun _ _ _ h => h) (Or.inl ⟨by rfl, ?hy80067⟩) (by assumption) ?rest80067
          case hy80067 => (intro w1 hSw; (try dsimp only at hSw); obtain ⟨h0, h1, h2, h3, h4, h5, h6, h7, -⟩ := hSw; go_simp; try with_reducible rfl)
          try simp only [Act.put, List.setIfInBounds_toArray, List.set_cons_zero, List.set_cons_succ]
          refine wpAnyH_take (i := 4) (oi := { dst := some 134, op := Op.move (Operand.tmp 133), type := 4, pos := "law.go:94", after := #[{ on := 3, ground := Ground.data }, { on := 1, ground := Ground.chain }], guard := none }) (v := ?v80068) rfl (by kernel_rfl) (by kernel_rfl) (by kernel_rfl) (fun _ _ _ h => h) (Or.inl ⟨by rfl, ?hy80068⟩) (by assumption) ?rest80068
          case hy80068 => (intro w1 hSw; (try dsimp only at hSw); obtain ⟨h0, h1, h2, h3, h4, h5, h6, h7, -⟩ := hSw; go_simp; try with_reducible rfl)
          try simp only [Act.put, List.setIfInBounds_toArray, List.set_cons_zero, List.set_cons_succ]
          refine wpAnyH_take (i := 5) (oi := { dst := some 135, op := Op.move (Operand.tmp 17), type := 4, pos := "law.go:94", after := #[{ on := 4, ground := Ground.guard }], guard := some (4, true) }) (v := ?v80069) rfl (by kernel_rfl) (by kernel_rfl) (by kernel_rfl) (fun _ _ _ h => h) (Or.inl ⟨by rfl, ?hy80069⟩) (by assumption) ?rest80069
          case hy80069 => (intro w1 hSw; (try dsimp only at hSw); obtain ⟨h0, h1, h2, h3, h4, h5, h6, h7, -⟩ := hSw; go_simp; try with_reducible rfl)
          try simp only [Act.put, List.setIfInBounds_toArray, List.set_cons_zero, List.set_cons_succ]
          refine wpAnyH_take (i := 6) (oi := { dst := some 136, op := Op.pick (Operand.tmp 134) (Operand.tmp 135) (Operand.const (Value.bool false)), type := 4, pos := "law.go:94", after := #[{ on := 4, ground := Ground.data }, { on := 5, ground := Ground.data }], guard := none }) (v := ?v80070) rfl (by kernel_rfl) (by kernel_rfl) (by kernel_rfl) (fun _ _ _ h => h) (Or.inl ⟨by rfl, ?hy80070⟩) (by assumption) ?rest80070
          case hy80070 => (intro w1 hSw; (try dsimp only at hSw); obtain ⟨h0, h1, h2, h3, h4, h5, h6, h7, -⟩ := hSw; go_simp; try with_reducible rfl)
          try simp only [Act.put, List.setIfInBounds_toArray, List.set_cons_zero, List.set_cons_succ]
          refine wpAnyH_take (i := 7) (oi := { dst := some 137, op := Op.move (Operand.tmp 136), type := 4, pos := "law.go:94", after := #[{ on := 6, ground := Ground.data }, { on := 4, ground := Ground.chain }], guard := none }) (v := ?v80071) rfl (by kernel_rfl) (by kernel_rfl) (by kernel_rfl) (fun _ _ _ h => h) (Or.inl ⟨by rfl, ?hy80071⟩) (by assumption) ?rest80071
          case hy80071 => (intro w1 hSw; (try dsimp only at hSw); obtain ⟨h0, h1, h2, h3, h4, h5, h6, h7, -⟩ := hSw; go_simp; try with_reducible rfl)
          try simp only [Act.put, List.setIfInBounds_toArray, List.set_cons_zero, List.set_cons_succ]
          refine wpAnyH_take (i := 8) (oi := { dst := some 138, op := Op.move (Operand.tmp 18), type := 4, pos := "law.go:94", after := #[{ on := 7, ground := Ground.guard }], guard := some (7, true) }) (v := ?v80072) rfl (by kernel_rfl) (by kernel_rfl) (by kernel_rfl) (fun _ _ _ h => h) (Or.inl ⟨by rfl, ?hy80072⟩) (by assumption) ?rest80072
          case hy80072 => (intro w1 hSw; (try dsimp only at hSw); obtain ⟨h0, h1, h2, h3, h4, h5, h6, h7, -⟩ := hSw; go_simp; try with_reducible rfl)
          try simp only [Act.put, List.setIfInBounds_toArray, List.set_cons_zero, List.set_cons_succ]
          refine wpAnyH_take (i := 9) (oi := { dst := some 139, op := Op.pick (Operand.tmp 137) (Operand.tmp 138) (Operand.const (Value.bool false)), type := 4, pos := "law.go:94", after := #[{ on := 7, ground := Ground.data }, { on := 8, ground := Ground.data }], guard := none }) (v := ?v80073) rfl (by kernel_rfl) (by kernel_rfl) (by kernel_rfl) (fun _ _ _ h => h) (Or.inl ⟨by rfl, ?hy80073⟩) (by assumption) ?rest80073
          case hy80073 => (intro w1 hSw; (try dsimp only at hSw); obtain ⟨h0, h1, h2, h3, h4, h5, h6, h7, -⟩ := hSw; go_simp; try with_reducible rfl)
          try simp only [Act.put, List.setIfInBounds_toArray, List.set_cons_zero, List.set_cons_succ]
          refine wpAnyH_take (i := 10) (oi := { dst := some 140, op := Op.move (Operand.tmp 139), type := 4, pos := "law.go:94", after := #[{ on := 9, ground := Ground.data }, { on := 7, ground := Ground.chain }], guard := none }) (v := ?v80074) rfl (by kernel_rfl) (by kernel_rfl) (by kernel_rfl) (fun _ _ _ h => h) (Or.inl ⟨by rfl, ?hy80074⟩) (by assumption) ?rest80074
          case hy80074 => (intro w1 hSw; (try dsimp only at hSw); obtain ⟨h0, h1, h2, h3, h4, h5, h6, h7, -⟩ := hSw; go_simp; try with_reducible rfl)
          try simp only [Act.put, List.setIfInBounds_toArray, List.set_cons_zero, List.set_cons_succ]
          refine wpAnyH_take (i := 11) (oi := { dst := some 141, op := Op.move (Operand.tmp 19), type := 4, pos := "law.go:94", after := #[{ on := 10, ground := Ground.guard }], guard := some (10, true) }) (v := ?v80075) rfl (by kernel_rfl) (by kernel_rfl) (by kernel_rfl) (fun _ _ _ h => h) (Or.inl ⟨by rfl, ?hy80075⟩) (by assumption) ?rest80075
          case hy80075 => (intro w1 hSw; (try dsimp only at hSw); obtain ⟨h0, h1, h2, h3, h4, h5, h6, h7, -⟩ := hSw; go_simp; try with_reducible rfl)
          try simp only [Act.put, List.setIfInBounds_toArray, List.set_cons_zero, List.set_cons_succ]
          refine wpAnyH_take (i := 12) (oi := { dst := some 142, op := Op.pick (Operand.tmp 140) (Operand.tmp 141) (Operand.const (Value.bool false)), type := 4, pos := "law.go:94", after := #[{ on := 10, ground := Ground.data }, { on := 11, ground := Ground.data }], guard := none }) (v := ?v80076) rfl (by kernel_rfl) (by kernel_rfl) (by kernel_rfl) (fun _ _ _ h => h) (Or.inl ⟨by rfl, ?hy80076⟩) (by assumption) ?rest80076
          case hy80076 => (intro w1 hSw; (try dsimp only at hSw); obtain ⟨h0, h1, h2, h3, h4, h5, h6, h7, -⟩ := hSw; go_simp; try with_reducible rfl)
          try simp only [Act.put, List.setIfInBounds_toArray, List.set_cons_zero, List.set_cons_succ]
          refine wpAnyH_take (i := 13) (oi := { dst := some 143, op := Op.move (Operand.tmp 142), type := 4, pos := "law.go:94", after := #[{ on := 12, ground := Ground.data }, { on := 10, ground := Ground.chain }], guard := none }) (v := ?v80077) rfl (by kernel_rfl) (by kernel_rfl) (by kernel_rfl) (fun _ _ _ h => h) (Or.inl ⟨by rfl, ?hy80077⟩) (by assumption) ?rest80077
          case hy80077 => (intro w1 hSw; (try dsimp only at hSw); obtain ⟨h0, h1, h2, h3, h4, h5, h6, h7, -⟩ := hSw; go_simp; try with_reducible rfl)
          try simp only [Act.put, List.setIfInBounds_toArray, List.set_cons_zero, List.set_cons_succ]
          refine wpAnyH_take (i := 14) (oi := { dst := some 144, op := Op.load 26 (Operand.tmp 10), type := 26, pos := "law.go:94", after := #[{ on := 13, ground := Ground.guard }], guard := some (13, true) }) (v := ?v80078) rfl (by kernel_rfl) (by kernel_rfl) (by kernel_rfl) (fun _ _ _ h => h) (Or.inl ⟨by rfl, ?hy80078⟩) (by assumption) ?rest80078
          case hy80078 => (intro w1 hSw; (try dsimp only at hSw); obtain ⟨h0, h1, h2, h3, h4, h5, h6, h7, -⟩ := hSw; go_simp; try with_reducible rfl)
          try simp only [Act.put, List.setIfInBounds_toArray, List.set_cons_zero, List.set_cons_succ]
          refine wpAnyH_take (i := 15) (oi := { dst := some 145, op := Op.load 26 (Operand.tmp 11), type := 26, pos := "law.go:94", after := #[{ on := 13, ground := Ground.guard }], guard := some (13, true) }) (v := ?v80079) rfl (by kernel_rfl) (by kernel_rfl) (by kernel_rfl) (fun _ _ _ h => h) (Or.inl ⟨by rfl, ?hy80079⟩) (by assumption) ?rest80079
          case hy80079 => (intro w1 hSw; (try dsimp only at hSw); obtain ⟨h0, h1, h2, h3, h4, h5, h6, h7, -⟩ := hSw; go_simp; try with_reducible rfl)
          try simp only [Act.put, List.setIfInBounds_toArray, List.set_cons_zero, List.set_cons_succ]
          refine wpAnyH_take (i := 17) (oi := { dst := some 147, op := Op.load 29 (Operand.tmp 13), type := 29, pos := "law.go:94", after := #[{ on := 13, ground := Ground.guard }], guard := some (13, true) }) (v := ?v80080) rfl (by kernel_rfl) (by kernel_rfl) (by kernel_rfl) (fun _ _ _ h => h) (Or.inl ⟨by rfl, ?hy80080⟩) (by assumption) ?rest80080
          case hy80080 => (intro w1 hSw; (try dsimp only at hSw); obtain ⟨h0, h1, h2, h3, h4, h5, h6, h7, -⟩ := hSw; go_simp; try with_reducible rfl)
          try simp only [Act.put, List.setIfInBounds_toArray, List.set_cons_zero, List.set_cons_succ]
          refine wpAnyH_take (i := 18) (oi := { dst := some 148, op := Op.load 29 (Operand.tmp 14), type := 29, pos := "law.go:94", after := #[{ on := 13, ground := Ground.guard }], guard := some (13, true) }) (v := ?v80081) rfl (by kernel_rfl) (by kernel_rfl) (by kernel_rfl) (fun _ _ _ h => h) (Or.inl ⟨by rfl, ?hy80081⟩) (by assumption) ?rest80081
          case hy80081 => (intro w1 hSw; (try dsimp only at hSw); obtain ⟨h0, h1, h2, h3, h4, h5, h6, h7, -⟩ := hSw; go_simp; try with_reducible rfl)
          try simp only [Act.put, List.setIfInBounds_toArray, List.set_cons_zero, List.set_cons_succ]
          refine wpAnyH_ready (rs := [16]) (by kernel_rfl) (by simp) ?_
          refine AllReadyH.cons (o := { dst := some 146, op := Op.call { callee := Callee.value (Operand.func 19), args := #[Operand.tmp 144, Operand.tmp 145], argTypes := #[26, 26] }, type := 4, pos := "law.go:94", after := #[{ on := 14, ground := Ground.data }, { on := 15, ground := Ground.data }, { on := 13, ground := Ground.chain }, { on := 13, ground := Ground.guard }], guard := some (13, true) }) rfl (fun K hK => ?_) AllReadyH.nil
          go_simp
          refine (same_any (aa := aa) (ba := ba) q1118 q1119 HS.out.1.fit HS.out.2.1.fit HB.out.1).mono ?_
          rintro e w1127 ⟨rfl, hb1128⟩
          have q1129 := q1118.later hb1128
          have q1130 := q1119.later hb1128
          have q1131 := q1120.later hb1128
          have q1132 := q1121.later hb1128
          have q1133 := q1122.later hb1128
          have q1134 := q1123.later hb1128
          have q1135 := q1124.later hb1128
          have q1136 := q1125.later hb1128
          have q1137 := q1126.later hb1128
          clear q1118 q1119 q1120 q1121 q1122 q1123 q1124 q1125 q1126
          try clear hHeld
          refine hK.out _ _ (⟨q1133.cell 0, q1133.cell 1, q1134.cell 0, q1134.cell 1, q1135.cell 0, q1135.cell 1, q1136.cell 0, q1136.cell 1, trivial⟩) (fun hHeld => ?_)
          clear hK K
          try simp only [Act.put, List.setIfInBounds_toArray, List.set_cons_zero, List.set_cons_succ]
          refine wpAnyH_ready (rs := [19]) (by kernel_rfl) (by simp) ?_
          refine AllReadyH.cons (o := { dst := some 149, op := Op.call { callee := Callee.value (Operand.func 20), args := #[Operand.tmp 147, Operand.tmp 148], argTypes := #[29, 29] }, type := 4, pos := "law.go:94", after := #[{ on := 17, ground := Ground.data }, { on := 18, ground := Ground.data }, { on := 16, ground := Ground.chain }, { on := 13, ground := Ground.guard }], guard := some (13, true) }) rfl (fun K hK => ?_) AllReadyH.nil
          go_simp
          refine (rsame_any (sa := aa) (sb := ba) q1131 q1132 HB.out.2).mono ?_
          rintro e w1138 ⟨rfl, hb1139⟩
          have q1140 := q1129.later hb1139
          have q1141 := q1130.later hb1139
          have q1142 := q1131.later hb1139
          have q1143 := q1132.later hb1139
          have q1144 := q1133.later hb1139
          have q1145 := q1134.later hb1139
          have q1146 := q1135.later hb1139
          have q1147 := q1136.later hb1139
          have q1148 := q1137.later hb1139
          clear q1129 q1130 q1131 q1132 q1133 q1134 q1135 q1136 q1137
          try clear hHeld
          refine hK.out _ _ (⟨q1144.cell 0, q1144.cell 1, q1145.cell 0, q1145.cell 1, q1146.cell 0, q1146.cell 1, q1147.cell 0, q1147.cell 1, trivial⟩) (fun hHeld => ?_)
          clear hK K
          try simp only [Act.put, List.setIfInBounds_toArray, List.set_cons_zero, List.set_cons_succ]
          refine wpAnyH_take (i := 20) (oi := { dst := some 150, op := Op.binOp BinOp.eql 4 (Operand.tmp 146) (Operand.tmp 149) 4, type := 4, pos := "law.go:94", after := #[{ on := 16, ground := Ground.data }, { on := 19, ground := Ground.data }, { on := 13, ground := Ground.guard }], guard := some (13, true) }) (v := ?v80082) rfl (by kernel_rfl) (by kernel_rfl) (by kernel_rfl) (fun _ _ _ h => h) (Or.inl ⟨by rfl, ?hy80082⟩) (by assumption) ?rest80082
          case hy80082 => (intro w1 hSw; (try dsimp only at hSw); obtain ⟨h0, h1, h2, h3, h4, h5, h6, h7, -⟩ := hSw; go_simp; try with_reducible rfl)
          try simp only [Act.put, List.setIfInBounds_toArray, List.set_cons_zero, List.set_cons_succ]
          refine wpAnyH_take (i := 21) (oi := { dst := some 151, op := Op.pick (Operand.tmp 143) (Operand.tmp 150) (Operand.const (Value.bool false)), type := 4, pos := "law.go:94", after := #[{ on := 13, ground := Ground.data }, { on := 20, ground := Ground.data }], guard := none }) (v := ?v80083) rfl (by kernel_rfl) (by kernel_rfl) (by kernel_rfl) (fun _ _ _ h => h) (Or.inl ⟨by rfl, ?hy80083⟩) (by assumption) ?rest80083
          case hy80083 => (intro w1 hSw; (try dsimp only at hSw); obtain ⟨h0, h1, h2, h3, h4, h5, h6, h7, -⟩ := hSw; go_simp; try with_reducible rfl)
          try simp only [Act.put, List.setIfInBounds_toArray, List.set_cons_zero, List.set_cons_succ]
          refine wpAnyH_take (i := 22) (oi := { dst := some 8, op := Op.assign (Operand.tmp 151), type := 4, pos := "law.go:94", after := #[{ on := 21, ground := Ground.data }, { on := 19, ground := Ground.chain }, { on := 0, ground := Ground.phase }, { on := 1, ground := Ground.phase }, { on := 2, ground := Ground.phase }, { on := 3, ground := Ground.phase }, { on := 4, ground := Ground.phase }, { on := 5, ground := Ground.phase }, { on := 6, ground := Ground.phase }, { on := 7, ground := Ground.phase }, { on := 8, ground := Ground.phase }, { on := 9, ground := Ground.phase }, { on := 10, ground := Ground.phase }, { on := 11, ground := Ground.phase }, { on := 12, ground := Ground.phase }, { on := 13, ground := Ground.phase }, { on := 14, ground := Ground.phase }, { on := 15, ground := Ground.phase }, { on := 16, ground := Ground.phase }, { on := 17, ground := Ground.phase }, { on := 18, ground := Ground.phase }, { on := 19, ground := Ground.phase }, { on := 20, ground := Ground.phase }, { on := 21, ground := Ground.phase }], guard := none }) (v := ?v80084) rfl (by kernel_rfl) (by kernel_rfl) (by kernel_rfl) (fun _ _ _ h => h) (Or.inl ⟨by rfl, ?hy80084⟩) (by assumption) ?rest80084
          case hy80084 => (intro w1 hSw; (try dsimp only at hSw); obtain ⟨h0, h1, h2, h3, h4, h5, h6, h7, -⟩ := hSw; go_simp; try with_reducible rfl)
          try simp only [Act.put, List.setIfInBounds_toArray, List.set_cons_zero, List.set_cons_succ]
          refine wpAnyH_done (by kernel_rfl) ?_ _
          go_wp2_with fail
          go_ret
          exact ⟨rfl, q1148⟩
end Go.Proofs.Ytdcfdcjgheijcaa
