/- ClientFull: the walk. -/
import Derived.Test.YtdcfdcjgheijcaaGreatDoorClEx
import Derived.Test.YtdcfdcjgheijcaaGreatDoorClFew
import Derived.Test.YtdcfdcjgheijcaaGreatDoorClReqR
import Derived.BigCall
import Derived.BigGuardPart
namespace Go.Proofs.YtdcfdcjgheijcaaGreatDoor
open Go.RowKit Go.Lib

/-- The i-th of many names, and the first k. -/
def fnm (i : Nat) : List UInt8 := [UInt8.ofNat (97 + i / 20), UInt8.ofNat (97 + i % 20)]
def fullL (k : Nat) : List (List UInt8) := (List.range k).map fnm
theorem full_len (k : Nat) : (fullL k).length = k := by unfold fullL; rw [List.length_map, List.length_range]
theorem full_next (k : Nat) : fullL (k + 1) = fullL k ++ [fnm k] := by unfold fullL; rw [List.range_succ, List.map_append]; rfl
theorem full_ok {k : Nat} (h : k ≤ 81) : ∀ x ∈ fullL k, okN x = true := by
  have key : ∀ i, i < 81 → okN (fnm i) = true := by decide +kernel
  intro x hx
  obtain ⟨i, hi, rfl⟩ := List.mem_map.1 hx
  exact key i (by have := List.mem_range.1 hi; omega)
theorem full_take {k n : Nat} (h : k ≤ n) : fullL k = (fullL n).take k := by
  unfold fullL
  rw [← List.map_take, List.take_range, Nat.min_eq_left h]
theorem full_rises {k : Nat} (h : k ≤ 81) : Rises (fullL k) := by
  have key : Rises (fullL 81) := by unfold Rises; decide +kernel
  rw [full_take h]
  exact key.sublist (List.take_sublist _ _)
theorem full_of {k : Nat} (h : k ≤ 81) : nOf okN (fullL k) = ⟨false, fullL k⟩ := by
  unfold nOf
  have e : (fullL k).filter okN = fullL k := List.filter_eq_self.2 (full_ok h)
  rw [e, srt_self (full_rises h)]
  have hc : (fullL k).contains starB' = false := by
    cases hb : (fullL k).contains starB' with
    | false => rfl
    | true =>
      have hm : starB' ∈ fullL k := by simpa using hb
      have := full_ok h _ hm
      rw [ok_star] at this; cases this
  rw [hc]
theorem full_fit {k : Nat} (h : k ≤ 81) : NmFit (fullL k) := ⟨fun s hs => by
  obtain ⟨i, _, rfl⟩ := List.mem_map.1 hs
  show 2 ≤ maxLen; decide, by rw [full_len]; omega⟩
theorem full_real {k : Nat} (h : k ≤ 81) : Real ⟨false, fullL k⟩ := by rw [← full_of h]; exact real_of _
/-- Of a topic that was never asked for: names alone, however many. -/
theorem ask_names {x : Cl} {ul : List (List UInt8)} {V : Bool} (hr : Real ⟨false, ul⟩) (hf : NmFit ul) (hl : ul.length ≤ 100) (hx : x.get 1 = Tp.zero) (hV : decide (64 < ul.length) = V) :
    AskIs x 1 0 ⟨false, ul⟩ ⟨false, ul⟩ ul ul ul [] false V := by
  have hls : nList ⟨false, ul⟩ = ul := by unfold nList; simp
  have ha : (x.get 1).all = false := by rw [hx]; rfl
  have hli : (x.get 1).l = [] := by rw [hx]; rfl
  refine ⟨by omega, by omega, hls, hf, by rw [← hls]; exact hls ▸ hr.list, hls, ?_, ?_, by rw [hli]; exact nm_nil, by omega, by rw [hli]; decide, by rw [hx]; rfl, ?_⟩
  · unfold turnS; rw [ha, hli]
    cases x.d
    · exact hls
    · simp only [if_true]; rw [less_none false ul hr.rises]; exact hls
  · unfold turnU; rw [ha, hli]
    cases x.d
    · rfl
    · simp only [if_true]; rw [none_less]; rfl
  · rw [← hV]
    by_cases h : 64 < ul.length
    · have h2 : (64 : Int) < (ul.length : Int) := by omega
      simp [h, h2]
    · have h2 : ¬ (64 : Int) < (ul.length : Int) := by omega
      simp [h, h2]
theorem ask_names_ok {x : Cl} {d : Bool} {ul : List (List UInt8)} {a : Option Addr} {c : Nat} {w : World} (hd : x.d = d) (hr : Real ⟨false, ul⟩) (hf : NmFit ul) (hl : ul.length ≤ 64) (hx : x.get 1 = Tp.zero) (hw : TsAt w (.slice a ul.length c) ul) :
    Calls Tryz.prog 25 #[x.v, .int .i64 1, .agg #[.bool false, .slice a ul.length c], .slice none 0 0] w fun e w' => ∃ ta tc a1 c1 a2 c2 a3 c3, e = .returned (.tuple #[(x.set ⟨false, ta, tc, ul, true, 0⟩ 1).v, .agg (rq 1 d 0 (.slice a1 ul.length c1) (.slice a2 0 c2) (.slice a3 0 c3) ⟨#[]⟩), .int .i64 0]) ∧ TsAt w' (.slice a1 ul.length c1) ul ∧ TsAt w' (.slice a2 0 c2) [] ∧ Below w.heap.size w w' := by
  refine (ask_ok (x := x) (k := 1) (n := 0) (m := 0) (hs := []) (ask_names (V := false) hr hf (by omega) hx (by simp; omega)) hw (by rw [hx]; exact Tp.zero_at _) (HvAt.nil _ _) rfl (by omega) (by unfold tells; split <;> rfl)).mono ?_
  rintro e w' ⟨ta, tc, a1, c1, a2, c2, a3, c3, rfl, _, h1, h2, hB⟩
  have hq : (x.get 1).q = 0 := by rw [hx]; rfl
  rw [hq, hd]
  exact ⟨ta, tc, a1, c1, a2, c2, a3, c3, by cases d <;> rfl, h1, h2, hB⟩
theorem ask_names_no {x : Cl} {ul : List (List UInt8)} {a : Option Addr} {c : Nat} {w : World} (hr : Real ⟨false, ul⟩) (hf : NmFit ul) (hl : 64 < ul.length) (hl2 : ul.length ≤ 100) (hx : x.get 1 = Tp.zero) (hw : TsAt w (.slice a ul.length c) ul) (hg : Ge w) :
    Calls Tryz.prog 25 #[x.v, .int .i64 1, .agg #[.bool false, .slice a ul.length c], .slice none 0 0] w fun e w' => e = .returned (.tuple #[x.v, .agg rq0, .int .i64 4]) ∧ Below w.heap.size w w' :=
  ask_err (x := x) (k := 1) (n := 0) (ask_names (V := true) hr hf hl2 hx (by simp; omega)) hw (by rw [hx]; exact Tp.zero_at _) rfl hg
theorem bytes2_conv {u v : UInt8} {d e : Nat} (hu : u.toNat = d) (hv : v.toNat = e) (W : World) : (convert 22 9 (.slice (some ⟨W.heap.size, 0, none⟩) 2 2)).run Tryz.prog (W.alloc (.cells #[.int .u8 (d : Int), .int .u8 (e : Int)] 5)) = .ok (.string ⟨#[u, v]⟩) (W.alloc (.cells #[.int .u8 (d : Int), .int .u8 (e : Int)] 5)) :=
  bytes_conv (l := [u, v]) (c := 2) (by simp only [List.map_cons, List.map_nil, hu, hv]) (Blk.new W _ _)
set_option maxRecDepth 100000 in
set_option maxHeartbeats 8000000 in
theorem full_walk (d : Bool) (α : Nat) {b : Addr} {w : World} (hn : Gn b w) (hg : Ge w) (hα : α < 256) :
    Calls Tryz.prog 10 #[.bool d, .int .u8 (α : Int)] w fun e w' => e = .returned (.bool true) ∧ Below w.heap.size w w' := by
  have LOW : Below w.heap.size w w := Below.refl _ _
  obtain ⟨i0, hi, hz0, hz1, hz2⟩ := info_parts Tryz.infoStr
  obtain ⟨k, hk⟩ : ∃ k, α % 81 = k := ⟨_, rfl⟩
  have k80 : k ≤ 80 := by omega
  have e1 : (α : Int).tmod 81 = (k : Int) := by rw [Int.tmod_eq_emod_of_nonneg (by omega)]; omega
  have e1' : (α : Int) % 81 = (k : Int) := by omega
  have g1 : IntKind.i64.wrap (k : Int) = (k : Int) := by rw [IntKind.wrap_i64]; omega
  have g2 : IntKind.u8.wrap (k : Int) = (k : Int) := by rw [show IntKind.u8.wrap (k : Int) = (k : Int) % 256 from rfl]; omega
  have HG := Lib.hid (And.intro hn hg)
  clear hn hg hk hα
  go_enter Tryz.func10, Tryz.ntmps10
  go_wp2_with fail
  refine (cl_examples HG.out.1 HG.out.2).mono ?_
  rintro e w1 ⟨rfl, hb2⟩
  replace LOW := LOW.trans (hb2.mono LOW.size)
  clear hb2
  dsimp only
  go_wp2_with fail
  clear e1 e1' g1 g2
  have HS := Lib.hid LOW
  have LS : Below w1.heap.size w1 w1 := Below.refl _ _
  clear LOW
  go_loopw [8, 7] (fun i v wr => ∃ j : Nat, j ≤ k ∧ i = .int .i64 j ∧ wr.ownsRow w1.heap.size 9 1 v (fullL j).length (tsV (fullL j)) ∧ Below w1.heap.size w1 wr) (fun i _ _ => k - (RowKit.intOf i).toNat)
  case atStart => exact ⟨0, Nat.zero_le _, rfl, World.ownsRow_nil _ _ _ _, LS⟩
  case round =>
    clear LS
    obtain ⟨j, hj, rfl, hown, LS⟩ := hrel
    by_cases hlt : j < k
    · have b0 : (0 : Int) ≤ (j : Int) := by omega
      have b1 : (j : Int) < (k : Int) := by omega
      obtain ⟨q, hq⟩ : ∃ q, j / 20 = q := ⟨_, rfl⟩
      obtain ⟨r, hr⟩ : ∃ r, j % 20 = r := ⟨_, rfl⟩
      obtain ⟨d1, hd1⟩ : ∃ d1, 97 + q = d1 := ⟨_, rfl⟩
      obtain ⟨d2, hd2⟩ : ∃ d2, 97 + r = d2 := ⟨_, rfl⟩
      have q100 : q < 100 := by omega
      have r100 : r < 100 := by omega
      obtain ⟨u, hu, hul⟩ : ∃ u : UInt8, UInt8.ofNat (97 + q) = u ∧ u.toNat = d1 := ⟨_, rfl, (byteS q q100).trans hd1⟩
      obtain ⟨v, hv, hvl⟩ : ∃ v : UInt8, UInt8.ofNat (97 + r) = v ∧ v.toNat = d2 := ⟨_, rfl, (byteS r r100).trans hd2⟩
      have HX := Lib.hid (show fullL (j + 1) = fullL j ++ [[u, v]] by rw [full_next]; unfold fnm; rw [hq, hr, hu, hv])
      have f1 : (j : Int).tdiv 20 = (q : Int) := by rw [Int.tdiv_eq_ediv_of_nonneg (by omega)]; omega
      have f1' : (j : Int) / 20 = (q : Int) := by omega
      have f2 : (j : Int).tmod 20 = (r : Int) := by rw [Int.tmod_eq_emod_of_nonneg (by omega)]; omega
      have f2' : (j : Int) % 20 = (r : Int) := by omega
      have f3 : (97 : Int) + (q : Int) = (d1 : Int) := by omega
      have f4 : (97 : Int) + (r : Int) = (d2 : Int) := by omega
      have y0 : IntKind.i64.wrap (q : Int) = (q : Int) := by rw [IntKind.wrap_i64]; omega
      have y1 : IntKind.i64.wrap (r : Int) = (r : Int) := by rw [IntKind.wrap_i64]; omega
      have y2 : IntKind.i64.wrap (d1 : Int) = (d1 : Int) := by rw [IntKind.wrap_i64]; omega
      have y3 : IntKind.i64.wrap (d2 : Int) = (d2 : Int) := by rw [IntKind.wrap_i64]; omega
      have z0 : IntKind.u8.wrap (d1 : Int) = (d1 : Int) := by rw [show IntKind.u8.wrap (d1 : Int) = (d1 : Int) % 256 from rfl]; omega
      have z1 : IntKind.u8.wrap (d2 : Int) = (d2 : Int) := by rw [show IntKind.u8.wrap (d2 : Int) = (d2 : Int) % 256 from rfl]; omega
      have hcv := bytes2_conv hul hvl
      have HOW := Lib.hid hown
      have HB := Lib.hid LS
      have hbs := LS.size
      have hle := full_len j
      have hfl : (fullL j).length ≤ 80 := by omega
      have hnew : ((wr.alloc (.cells #[.int .u8 (d1 : Int), .int .u8 (d2 : Int)] 5)).alloc (.cells #[.string ⟨#[u, v]⟩] 9)).heap[wr.heap.size + 1]? = some (.cells #[.string ⟨#[u, v]⟩] 9 (0, 0)) := by
        have := heap_alloc_new (wr.alloc (.cells #[.int .u8 (d1 : Int), .int .u8 (d2 : Int)] 5)) (.cells #[.string ⟨#[u, v]⟩] 9); simpa using this
      clear hown LS hq hr hu hv hd1 hd2 hle
      go_wp2_with (at_builtin; go_must (refine wpList_append_own _ rfl _ _ 24 rfl w1.heap.size 9 i0 _ 1 16 Tryz.underlying24 hi hz0 hz1 hz2 rfl (by omega) _ _ _ rfl ((HOW.out.alloc _).alloc _) ⟨wr.heap.size + 1, 0, none⟩ 1 1 (tsV [[u, v]]) rfl rfl (World.news_of_block (cs := #[.string ⟨#[u, v]⟩]) (t := 9) (fr := (0, 0)) hnew) (tsV_one _) (by unfold maxLen; omega) (by omega) (by simp; omega) ?_; intro v3 w3 hown3 hgrow3 _))
      have HB3 := Lib.hid (((HB.out.alloc (by omega) _).alloc (by simp; omega) _).grown hgrow3 (by simp; omega) (fun j hj => (HOW.out.lt j hj).1))
      have HO3 := Lib.hid (show w3.ownsRow w1.heap.size 9 1 v3 (fullL (j + 1)).length (tsV (fullL (j + 1))) by rw [HX.out, tsV_append, List.length_append]; exact hown3)
      clear hown3 hgrow3
      go_wp2_with fail
      go_roundw
      case rel => exact ⟨j + 1, by omega, by go_num, HO3.out, HB3.out⟩
      case measure => simp [RowKit.intOf]; omega
    · obtain rfl : j = k := by omega
      have b1 : ¬ (j : Int) < (j : Int) := by omega
      obtain ⟨fa, fc, rfl⟩ := owns_slice hown
      have TF : TsAt wr _ (fullL j) := RowV.own hown
      have LOW : Below w.heap.size w wr := HS.out.trans (LS.mono HS.out.size)
      obtain ⟨ul, hul⟩ : ∃ ul, fullL j = ul := ⟨_, rfl⟩
      have HUL := Lib.hid (show ul.length = j by rw [← hul]; exact full_len j)
      have HF := Lib.hid (show nOf okN ul = ⟨false, ul⟩ ∧ NmFit ul ∧ Real ⟨false, ul⟩ ∧ (∀ x ∈ ul, okN x = true) by rw [← hul]; exact ⟨full_of (by omega), full_fit (by omega), full_real (by omega), full_ok (by omega)⟩)
      have neN : ∀ x ∈ ul, x ≠ [] := of_ne HF.out.1
      have neE : ∀ x ∈ ([] : List (List UInt8)), x ≠ [] := fun x hx => by cases hx
      rw [hul] at TF
      rw [hul]
      clear hown LS hul hlt
      go_wp2_with fail
      refine (new_any d _).mono ?_
      rintro e w3 ⟨rfl, hb4⟩
      replace LOW := LOW.trans (hb4.mono LOW.size)
      replace TF := TF.later hb4
      clear hb4
      dsimp only
      go_wp2_with fail
      refine (of_any TF HF.out.2.1 HF.out.1).mono ?_
      rintro e w5 ⟨oa, oc, rfl, TO, hb6⟩
      replace LOW := LOW.trans (hb6.mono LOW.size)
      clear hb6
      dsimp only
      clear TF
      go_wp2_with fail
      by_cases h64 : j ≤ 64
      · have c64 : (j : Int) ≤ 64 := by omega
        refine (ask_names_ok (x := Cl.new d) (d := d) rfl HF.out.2.2.1 HF.out.2.1 (by have := HUL.out; omega) rfl TO).mono ?_
        rintro e w7 ⟨ta, tc, a1, c1, a2, c2, a3, c3, rfl, TS, TU, hb8⟩
        replace LOW := LOW.trans (hb8.mono LOW.size)
        clear hb8
        dsimp only
        clear TO
        have LE12 := Lib.hid LOW.size
        obtain ⟨w9, hw10, hb11, PC⟩ := alloc_new w7 Cl.zero.arr CT
        replace hw10 : w7.alloc (.cells #[.bool false, .bool false, .slice none 0 0, .bool false, .int .u64 0, .bool false, .slice none 0 0, .bool false, .int .u64 0, .bool false, .slice none 0 0, .bool false, .int .u64 0, .bool false, .slice none 0 0, .bool false, .int .u64 0, .bool false, .slice none 0 0, .bool false, .int .u64 0, .bool false, .slice none 0 0, .bool false, .int .u64 0] CT) = w9 := hw10
        replace TS := TS.later hb11
        replace TU := TU.later hb11
        replace LOW := LOW.trans (hb11.mono LOW.size)
        clear hb11
        have HW13 := Lib.hid hw10
        clear hw10
        have LE17 := Lib.hid LOW.size
        obtain ⟨w14, hw15, hb16, R1⟩ := alloc_new w9 rq0 RT
        replace PC := PC.later hb16
        replace TS := TS.later hb16
        replace TU := TU.later hb16
        replace LOW := LOW.trans (hb16.mono LOW.size)
        clear hb16
        have HW18 := Lib.hid hw15
        clear hw15
        go_wp2_with (first | rw [HW13.out] | rw [HW18.out] | (refine wpList_store_cl _ _ Cl.zero ((Cl.new d).set ⟨false, ta, tc, ul, true, 0⟩ 1) w7.heap.size rfl rfl (by rfl) (by rfl) PC ?_; intro w19 p20 j21; have mv22 := j21.blk (Blk.ne R1 PC (by decide)) R1; have mv23 := j21.ts PC (cl_no _ _) TS; have mv24 := j21.ts PC (cl_no _ _) TU; have mv25 := LOW.trans (j21.below LE12.out); replace R1 := mv22; replace TS := mv23; replace TU := mv24; replace LOW := mv25; replace PC := p20; simp only [Act.put]) | (refine wpList_store_rq _ _ w9.heap.size rfl rfl (by rfl) (by rfl) R1 rfl (by rfl) (by first | (simp [Value.oneCell']; done) | simp [rq, Value.oneCell']) ?_; intro w26 p27 j28; have mv29 := j28.blk (Blk.ne PC R1 (by decide)) PC; have mv30 := j28.ts R1 (rq0_no neN) TS; have mv31 := j28.ts R1 (rq0_no neE) TU; have mv32 := LOW.trans (j28.below LE17.out); replace PC := mv29; replace TS := mv30; replace TU := mv31; replace LOW := mv32; replace R1 := p27; simp only [Act.put]) | (refine wpList_load_cl _ ((Cl.new d).set ⟨false, ta, tc, ul, true, 0⟩ 1) w7.heap.size rfl rfl (by rfl) PC ?_; simp only [Act.put, List.setIfInBounds_toArray, List.set_cons_zero, List.set_cons_succ]))
        refine (ans_none (x := ((Cl.new d).set ⟨false, ta, tc, ul, true, 0⟩ 1)) (k := 1) (s := ⟨#[]⟩) (by omega) (by omega) (by decide) rfl (HG.out.2.later LOW)).mono ?_
        rintro e w33 ⟨rfl, hb34⟩
        replace PC := PC.later hb34
        replace R1 := R1.later hb34
        replace TS := TS.later hb34
        replace TU := TU.later hb34
        replace LOW := LOW.trans (hb34.mono LOW.size)
        clear hb34
        dsimp only
        have NE38 := Lib.hid (Nat.ne_of_lt R1.lt)
        have LE39 := Lib.hid LOW.size
        obtain ⟨w35, hw36, hb37, R2⟩ := alloc_new w33 rq0 RT
        replace PC := PC.later hb37
        replace R1 := R1.later hb37
        replace TS := TS.later hb37
        replace TU := TU.later hb37
        replace LOW := LOW.trans (hb37.mono LOW.size)
        clear hb37
        have HW40 := Lib.hid hw36
        clear hw36
        cases d with
        | false =>
          go_wp2_with (first | rw [HW40.out] | (refine wpList_store_rq _ _ w33.heap.size rfl rfl (by rfl) (by rfl) R2 rfl (by rfl) (by first | (simp [Value.oneCell']; done) | simp [rq, Value.oneCell']) ?_; intro w41 p42 j43; have mv44 := j43.blk (Blk.ne PC R2 (by decide)) PC; have mv45 := j43.blk NE38.out R1; have mv46 := j43.ts R2 (rq0_no neN) TS; have mv47 := j43.ts R2 (rq0_no neE) TU; have mv48 := LOW.trans (j43.below LE39.out); replace PC := mv44; replace R1 := mv45; replace TS := mv46; replace TU := mv47; replace LOW := mv48; replace R2 := p42; simp only [Act.put]; have hln : (ul.length : Int) = (j : Int) := (by have := HUL.out; omega); have x0 : w41.cell? ⟨w9.heap.size, 0, none⟩ = some (.int .i64 ((1 : Nat) : Int)) := R1.cell 0; have x1 : w41.cell? ⟨w9.heap.size, 1, none⟩ = some (.bool false) := R1.cell 1; have x2 : w41.cell? ⟨w9.heap.size, 2, none⟩ = some (.int .u64 ((0 : Nat) : Int)) := R1.cell 2; have x3 : w41.cell? ⟨w9.heap.size, 3, none⟩ = some (.slice a1 ul.length c1) := R1.cell 3; have x4 : w41.cell? ⟨w9.heap.size, 4, none⟩ = some (.slice a2 0 c2) := R1.cell 4; have x5 : w41.cell? ⟨w9.heap.size, 5, none⟩ = some (.slice a3 0 c3) := R1.cell 5; have x6 : w41.cell? ⟨w9.heap.size, 6, none⟩ = some (.string ⟨#[]⟩) := R1.cell 6) | (refine wpList_load_rq _ w9.heap.size rfl rfl (by rfl) R1 rfl ?_; simp only [Act.put, List.setIfInBounds_toArray, List.set_cons_zero, List.set_cons_succ]))
          refine (rightReq_0f (k := 1) ⟨by omega, by omega, TS, TU, HvAt.nil _ _, by have := HUL.out; omega, by simp, by simp, fun x hx => .inr (HF.out.2.2.2 x hx), fun x hx => (by cases hx), fun r hx => (by cases hx)⟩ (HG.out.1.later LOW)).mono ?_
          rintro e w49 ⟨rfl, hb50⟩
          replace PC := PC.later hb50
          replace R1 := R1.later hb50
          replace R2 := R2.later hb50
          replace TS := TS.later hb50
          replace TU := TU.later hb50
          replace LOW := LOW.trans (hb50.mono LOW.size)
          clear hb50
          dsimp only
          go_wp2_with fail
          go_ret
          exact ⟨rfl, LOW⟩
        | true =>
          go_wp2_with (first | rw [HW40.out] | (refine wpList_store_rq _ _ w33.heap.size rfl rfl (by rfl) (by rfl) R2 rfl (by rfl) (by first | (simp [Value.oneCell']; done) | simp [rq, Value.oneCell']) ?_; intro w41 p42 j43; have mv44 := j43.blk (Blk.ne PC R2 (by decide)) PC; have mv45 := j43.blk NE38.out R1; have mv46 := j43.ts R2 (rq0_no neN) TS; have mv47 := j43.ts R2 (rq0_no neE) TU; have mv48 := LOW.trans (j43.below LE39.out); replace PC := mv44; replace R1 := mv45; replace TS := mv46; replace TU := mv47; replace LOW := mv48; replace R2 := p42; simp only [Act.put]; have hln : (ul.length : Int) = (j : Int) := (by have := HUL.out; omega); have x0 : w41.cell? ⟨w9.heap.size, 0, none⟩ = some (.int .i64 ((1 : Nat) : Int)) := R1.cell 0; have x1 : w41.cell? ⟨w9.heap.size, 1, none⟩ = some (.bool true) := R1.cell 1; have x2 : w41.cell? ⟨w9.heap.size, 2, none⟩ = some (.int .u64 ((0 : Nat) : Int)) := R1.cell 2; have x3 : w41.cell? ⟨w9.heap.size, 3, none⟩ = some (.slice a1 ul.length c1) := R1.cell 3; have x4 : w41.cell? ⟨w9.heap.size, 4, none⟩ = some (.slice a2 0 c2) := R1.cell 4; have x5 : w41.cell? ⟨w9.heap.size, 5, none⟩ = some (.slice a3 0 c3) := R1.cell 5; have x6 : w41.cell? ⟨w9.heap.size, 6, none⟩ = some (.string ⟨#[]⟩) := R1.cell 6) | (refine wpList_load_rq _ w9.heap.size rfl rfl (by rfl) R1 rfl ?_; simp only [Act.put, List.setIfInBounds_toArray, List.set_cons_zero, List.set_cons_succ]))
          refine (rightReq_0t (U := []) (hs := []) (k := 1) ⟨by omega, by omega, TS, TU, HvAt.nil _ _, by have := HUL.out; omega, by simp, by simp, fun x hx => .inr (HF.out.2.2.2 x hx), fun x hx => (by cases hx), fun r hx => (by cases hx)⟩ (HG.out.1.later LOW)).mono ?_
          rintro e w51 ⟨rfl, hb52⟩
          replace PC := PC.later hb52
          replace R1 := R1.later hb52
          replace R2 := R2.later hb52
          replace TS := TS.later hb52
          replace TU := TU.later hb52
          replace LOW := LOW.trans (hb52.mono LOW.size)
          clear hb52
          dsimp only
          go_wp2_with fail
          go_ret
          exact ⟨rfl, LOW⟩
      · have c64 : ¬ (j : Int) ≤ 64 := by omega
        have hx7 : (Cl.new d).arr[7]? = some (.bool false) := (Cl.at (Cl.new d) (k := 1) (by omega)).2.2.1
        refine (ask_names_no (x := Cl.new d) HF.out.2.2.1 HF.out.2.1 (by have := HUL.out; omega) (by have := HUL.out; omega) rfl TO (HG.out.2.later LOW)).mono ?_
        rintro e w53 ⟨rfl, hb54⟩
        replace LOW := LOW.trans (hb54.mono LOW.size)
        clear hb54
        dsimp only
        clear TO
        have LE58 := Lib.hid LOW.size
        obtain ⟨w55, hw56, hb57, PC⟩ := alloc_new w53 Cl.zero.arr CT
        replace hw56 : w53.alloc (.cells #[.bool false, .bool false, .slice none 0 0, .bool false, .int .u64 0, .bool false, .slice none 0 0, .bool false, .int .u64 0, .bool false, .slice none 0 0, .bool false, .int .u64 0, .bool false, .slice none 0 0, .bool false, .int .u64 0, .bool false, .slice none 0 0, .bool false, .int .u64 0, .bool false, .slice none 0 0, .bool false, .int .u64 0] CT) = w55 := hw56
        replace LOW := LOW.trans (hb57.mono LOW.size)
        clear hb57
        have HW59 := Lib.hid hw56
        clear hw56
        have LE63 := Lib.hid LOW.size
        obtain ⟨w60, hw61, hb62, R1⟩ := alloc_new w55 rq0 RT
        replace PC := PC.later hb62
        replace LOW := LOW.trans (hb62.mono LOW.size)
        clear hb62
        have HW64 := Lib.hid hw61
        clear hw61
        go_wp2_with (first | rw [HW59.out] | rw [HW64.out] | (refine wpList_store_cl _ _ Cl.zero (Cl.new d) w53.heap.size rfl rfl (by rfl) (by rfl) PC ?_; intro w65 p66 j67; have mv68 := j67.blk (Blk.ne R1 PC (by decide)) R1; have mv69 := LOW.trans (j67.below LE58.out); replace R1 := mv68; replace LOW := mv69; replace PC := p66; simp only [Act.put]) | (refine wpList_store_rq _ _ w55.heap.size rfl rfl (by rfl) (by rfl) R1 rfl (by rfl) (by first | (simp [Value.oneCell']; done) | simp [rq, Value.oneCell']) ?_; intro w70 p71 j72; have mv73 := j72.blk (Blk.ne PC R1 (by decide)) PC; have mv74 := LOW.trans (j72.below LE63.out); replace PC := mv73; replace LOW := mv74; replace R1 := p71; simp only [Act.put]) | (refine wpList_load_cl _ (Cl.new d) w53.heap.size rfl rfl (by rfl) PC ?_; simp only [Act.put, List.setIfInBounds_toArray, List.set_cons_zero, List.set_cons_succ]))
        refine (ans_none (x := (Cl.new d)) (k := 1) (s := ⟨#[]⟩) (by omega) (by omega) (by decide) rfl (HG.out.2.later LOW)).mono ?_
        rintro e w75 ⟨rfl, hb76⟩
        replace PC := PC.later hb76
        replace R1 := R1.later hb76
        replace LOW := LOW.trans (hb76.mono LOW.size)
        clear hb76
        dsimp only
        have NE80 := Lib.hid (Nat.ne_of_lt R1.lt)
        have LE81 := Lib.hid LOW.size
        obtain ⟨w77, hw78, hb79, R2⟩ := alloc_new w75 rq0 RT
        replace PC := PC.later hb79
        replace R1 := R1.later hb79
        replace LOW := LOW.trans (hb79.mono LOW.size)
        clear hb79
        have HW82 := Lib.hid hw78
        clear hw78
        go_wp2_with (first | rw [HW82.out] | (refine wpList_store_rq _ _ w75.heap.size rfl rfl (by rfl) (by rfl) R2 rfl (by rfl) (by first | (simp [Value.oneCell']; done) | simp [rq, Value.oneCell']) ?_; intro w83 p84 j85; have mv86 := j85.blk (Blk.ne PC R2 (by decide)) PC; have mv87 := j85.blk NE80.out R1; have mv88 := LOW.trans (j85.below LE81.out); replace PC := mv86; replace R1 := mv87; replace LOW := mv88; replace R2 := p84; simp only [Act.put]; have x0 : w83.cell? ⟨w55.heap.size, 0, none⟩ = some (.int .i64 0) := R1.cell 0; have x7 : w83.cell? ⟨w53.heap.size, 7, none⟩ = some (.bool false) := (PC.cell 7).trans hx7; go_wp2_with fail; all_goals first | (exfalso; omega) | (go_ret; exact ⟨rfl, LOW⟩)))
end Go.Proofs.YtdcfdcjgheijcaaGreatDoor
