/- FrameCuts: the walk. -/
import Derived.Test.YtmgmjndghhgkcaaDoorFrEnds
namespace Go.Proofs.YtmgmjndghhgkcaaDoor
open Go.RowKit Go.Lib

theorem mB_eq (s : ByteArray) : mB s = ⟨(mOf s).toArray⟩ := by
  apply ByteArray.ext; apply Array.toList_inj.1; rw [mB_bytes]
theorem allP_len : ∀ (ms : List ByteArray), (allP ms).length ≤ 54 * ms.length
  | [] => Nat.zero_le _
  | s :: ms => by
    have h := allP_len ms
    have h1 := mOf_len s
    have e : allP (s :: ms) = packL (mOf s) ++ allP ms := rfl
    rw [e, List.length_append, packL_len, List.length_cons]; omega
/-- A step of the cutting. -/
theorem cut_step {S A : List UInt8} {rem : List (List UInt8)} (h : feedL (S ++ A) = ⟨rem, [], none⟩) (N : Nat) :
    ∃ m1 S1 rem', feedL (S ++ A.take N) = ⟨m1, S1, none⟩ ∧ takeOf S1 = .short ∧ feedL (S1 ++ A.drop N) = ⟨rem', [], none⟩ ∧ rem = m1 ++ rem' := by
  have e : S ++ A = (S ++ A.take N) ++ A.drop N := by rw [List.append_assoc, List.take_append_drop]
  have hb : (feedL (S ++ A.take N)).bad = none := by
    cases hb : (feedL (S ++ A.take N)).bad with
    | none => rfl
    | some n =>
      have := (feedL_bad_append (A.drop N) (S ++ A.take N) (by rw [hb]; simp)).2
      rw [← e, h, hb] at this
      cases this
  have ha := feedL_append (A.drop N) (S ++ A.take N) hb
  rw [← e, h] at ha
  have h1 := congrArg Fed.ms ha
  have h2 := congrArg Fed.rest ha
  have h3 := congrArg Fed.bad ha
  simp only at h1 h2 h3
  refine ⟨(feedL (S ++ A.take N)).ms, (feedL (S ++ A.take N)).rest, (feedL ((feedL (S ++ A.take N)).rest ++ A.drop N)).ms, ?_, feedL_rest _ hb, ?_, h1⟩
  · rw [← hb]
  · rw [h2, h3]
theorem cut_end {S : List UInt8} {rem : List (List UInt8)} (h : feedL (S ++ []) = ⟨rem, [], none⟩) (hs : takeOf S = .short) : rem = [] ∧ S = [] := by
  rw [List.append_nil, feedL_short hs] at h
  have h1 := congrArg Fed.ms h
  have h2 := congrArg Fed.rest h
  exact ⟨h1.symm, h2⟩
theorem own_low {w w' : World} {base size n r : Nat} {e : TypeId} {v : Value} {xs : List Value} (h : w.ownsRow base e size v n xs) (hb : Below r w w') (hr : w.heap.size = r) : w'.ownsRow base e size v n xs := by
  subst hr; exact own_below h hb
structure Cr (r : Nat) (w0 : World) (WL : List (List UInt8)) (j : Nat) (B : ByteArray) (S : List UInt8) (v : Value) (gl rem : List (List UInt8)) (gv : Value) (wx : World) : Prop where
  bs : B.size ≤ 648
  j1 : j ≤ 41
  j2 : B.size ≠ 0 → j ≤ 40
  rd : RdAt r r v S 0 wx
  sh : takeOf S = .short
  fd : feedL (S ++ B.data.toList) = ⟨rem, [], none⟩
  eq : gl ++ rem = WL
  own : wx.ownsRow r 9 1 gv gl.length (strV gl)
  low : Below r w0 wx
theorem ck_empty {s : ByteArray} (h : s.size = 0) : s.toList.isEmpty = true := by
  rw [ByteArray.toList_eq]
  have hl : s.data.toList.length = s.size := by simp
  cases he : s.data.toList with
  | nil => rfl
  | cons a l => rw [he] at hl; simp at hl; omega
theorem ck_full {s : ByteArray} (h : 0 < s.size) : s.toList.isEmpty = false := by
  rw [ByteArray.toList_eq]
  have hl : s.data.toList.length = s.size := by simp
  cases he : s.data.toList with
  | nil => rw [he] at hl; simp at hl; omega
  | cons a l => rfl
def strSz : Value → Nat | .string s => s.size | _ => 0

set_option maxRecDepth 100000 in
set_option maxHeartbeats 4000000 in
theorem cuts_walk (a0 : Option Addr) (l0 c0 : Nat) (ms : List ByteArray) (a1 : Option Addr) (l1 c1 : Nat) (bs : List Nat) (b : Addr) (w : World) (hg : Gs b w) (hge : Ge w) (hl : ms.length = l0) (hst : StrsIn w a0 ms) (hl1 : bs.length = l1) (hst1 : NatsIn w a1 bs) (hb256 : ∀ n ∈ bs, n < 256) :
    Calls Tryd.prog 5 #[.slice a0 l0 c0, .slice a1 l1 c1] w fun e w' => e = .returned (.bool true) ∧ Below w.heap.size w w' := by
  have HL := Lib.hid hl; clear hl
  have HL1 := Lib.hid (And.intro hl1 hb256); clear hl1 hb256
  obtain ⟨i0, hi, hz0, hz1, hz2⟩ := info_parts Tryd.infoStr
  go_enter Tryd.func5, Tryd.ntmps5
  go_wp2_with fail
  refine (examples_any b w hg hge).mono ?_
  rintro e w1 ⟨rfl, hb1⟩
  go_wp2_with fail
  go_loopw [6, 7, 8] (fun al wv i wr => ∃ (k : Nat) (A : ByteArray), k ≤ 12 ∧ k ≤ l0 ∧ i = .int .i64 (k : Int) ∧ al = .string A ∧ A.data.toList = allP (ms.take k) ∧ A.size ≤ 54 * k ∧ wr.ownsRow w.heap.size 9 1 wv ((ms.take k).map mOf).length (strV ((ms.take k).map mOf)) ∧ Below w.heap.size w wr) (fun _ _ i _ => 12 - (intOf i).toNat)
  case atStart => exact ⟨0, ⟨#[]⟩, by omega, Nat.zero_le _, rfl, rfl, rfl, Nat.le_refl _, World.ownsRow_nil _ _ _ _, hb1⟩
  case round =>
    obtain ⟨k, A, hk5, hkl, rfl, rfl, hA, hAs, hown, hb⟩ := hrel
    have HA := Lib.hid hA; clear hA
    have hbs := hb.size
    by_cases hlt : k < l0 ∧ k < 12
    · obtain ⟨h1, h2⟩ := hlt
      have hkm : k < ms.length := by have := HL.out; omega
      obtain ⟨g, o, rfl, hgl, hc⟩ := (hst.below hb) k ms[k] (List.getElem?_eq_getElem hkm)
      have HS := Lib.hid (take_snoc hkm)
      have HKL := Lib.hid (show ((ms.take k).map mOf).length = k by rw [List.length_map, List.length_take]; omega)
      generalize ms[k] = s at hc HS
      have hq3 : ¬ 9223372036854775807 < 1 + min 49 s.size := by have : min 49 s.size ≤ 49 := Nat.min_le_left _ _; omega
      rcases Int.lt_or_le 49 (s.size : Int) with h49 | h49
      all_goals
        first | (have hq : ¬ 9223372036854775807 < 1 + s.size := by omega) | skip
        first | (have hq2 : ((49 : Int) < (s.size : Int)) = False := eq_false (by omega)) | skip
        first | (have hq1 : (49 : Int) ≤ (s.size : Int) := by omega) | skip
        go_wp2_with fail
        go_quiet (fail)
        first | rw [mB_a h49] | rw [mB_b h49] | rw [mB_c h49]
        clear h49
        have hXs := mB_size s
        have hXb := mB_eq s
        obtain ⟨X, hX⟩ : ∃ X, mB s = X := ⟨_, rfl⟩
        rw [hX] at hXs hXb ⊢
        clear hX
        have hX50 : okM X.data.toList := by rw [hXb]; exact mOf_ok s
        have HX := Lib.hid (And.intro hXb hX50); clear hXb hX50
        go_wp2_with fail
        refine (pack_ok X _ HX.out.2).mono ?_
        rintro e w2 ⟨rfl, hb2⟩
        obtain ⟨P, hP⟩ : ∃ P : ByteArray, (⟨(packL X.data.toList).toArray⟩ : ByteArray) = P := ⟨_, rfl⟩
        have hPs : P.size ≤ 54 := by
          rw [← hP]; show (packL X.data.toList).toArray.size ≤ 54
          rw [List.size_toArray, packL_len]; show 4 + X.size ≤ 54; omega
        have hPb : P.data.toList = packL (mOf s) := by rw [← hP, HX.out.1]
        rw [hP]
        have HP := Lib.hid hPb; clear hPb hP
        have hbq := (below_drewN' (B := wr.heap.size) (w := wr) _).trans (hb2.mono (by first | exact Nat.le_refl _ | simp))
        have hb3 : Below w.heap.size w w2 := hb.trans (hbq.mono hbs)
        have hbs3 := hb3.size
        have hown2 := own_below hown hbq
        go_wp2_with (at_builtin; go_must (refine wpList_append_own _ rfl _ _ 32 rfl w.heap.size 9 i0 (.string ⟨#[]⟩) 1 16 Tryd.underlying32 hi hz0 hz1 hz2 rfl (by decide) _ _ _ rfl (hown2.alloc _) ⟨w2.heap.size, 0, none⟩ 1 1 [.string X] rfl rfl (cell_one_new _ _ _) (by simp [Value.oneCell']) (by rw [HKL.out]; unfold maxLen; omega) (by rw [HKL.out]; omega) (by simp; omega) ?_; intro v' w4 hown4 hgrow4 _))
        have hb4 : Below w.heap.size w w4 := (hb3.alloc hbs3 _).grown hgrow4 (by simp; omega) (fun r e => (hown2.lt r e).1)
        go_roundw
        case rel =>
          refine ⟨k + 1, A ++ P, by omega, by omega, by go_num, rfl, ?_, ?_, ?_, hb4⟩
          · rw [HS.out, allP_snoc, ← HA.out, ← HP.out]; simp
          · rw [ByteArray.size_append]; omega
          · rw [HS.out, List.map_append, List.map_cons, List.map_nil]
            rw [HX.out.1] at hown4
            exact str_more hown4 rfl
        case measure => simp [intOf]; omega
    · obtain ⟨WL, hWL⟩ : ∃ WL, (ms.take k).map mOf = WL := ⟨_, rfl⟩
      have hWLn : WL.length ≤ 12 := by rw [← hWL, List.length_map, List.length_take]; omega
      have hfd : feedL A.data.toList = ⟨WL, [], none⟩ := by
        have := feed_allP (ms.take k) []
        rw [List.append_nil, feedL_nil, List.append_nil] at this
        rw [HA.out, this, hWL]
      rw [hWL] at hown
      have hend : (¬ k < l0) ∨ (k < l0 ∧ ¬ ((k : Int) < 12)) := by omega
      have hA648 : A.size ≤ 648 := by omega
      have HW := Lib.hid (And.intro hfd hWLn); clear hWL hfd hWLn hlt
      rcases hend with h1 | ⟨h1, h2⟩
      all_goals
        go_wp2_with fail
        refine (new_any wr).mono ?_
        rintro e w3 ⟨rfl, hw3⟩
        obtain ⟨r, hr⟩ : ∃ r, wr.heap.size = r := ⟨_, rfl⟩
        have hR3 := RdAt.new wr wr.heap.size (Nat.le_refl _)
        rw [← hw3] at hR3
        have hB3 : Below wr.heap.size wr w3 := by rw [hw3]; exact (Below.refl _ _).alloc (Nat.le_refl _) _
        clear hw3
        rw [hr] at hR3 hB3 ⊢
        obtain ⟨wn, hwn⟩ : ∃ wo : World, wo = wr := ⟨_, rfl⟩
        subst hwn
        have hgn := hg.low hb hg.2
        have hgen := hge.low hb hge.2
        have h1r : 1 < r := by have := hg.2; omega
        have h0r : 0 < r := by have := hge.2; omega
        obtain ⟨wa, wc, rfl⟩ := owns_slice hown
        have HR := Lib.hid hr; clear hr
        go_wp2_with fail
        go_loopw [6, 13, 14] (fun al gv i wx => ∃ (j : Nat) (B : ByteArray) (S : List UInt8) (v : Value) (gl rem : List (List UInt8)), i = .int .i64 (j : Int) ∧ al = .string B ∧ Cr r wn WL j B S v gl rem gv wx) (fun al _ i _ => (40 - (intOf i).toNat) + strSz al)
        case atStart => exact ⟨0, A, [], _, [], WL, rfl, rfl, ⟨hA648, by omega, fun _ => by omega, hR3, takeOf_nil, HW.out.1, rfl, World.ownsRow_nil _ _ _ _, hB3⟩⟩
        case round =>
          obtain ⟨j, B, S, v, gl, rem, rfl, rfl, hcr⟩ := hrel
          have HC := Lib.hid hcr; clear hcr
          obtain ⟨Z, hZ⟩ : ∃ Z, B.size = Z := ⟨_, rfl⟩
          have HZ := Lib.hid hZ
          by_cases hB : Z = 0
          · have hBe := ck_empty (s := B) (by omega)
            have hBn : B.data.toList = [] := List.eq_nil_of_length_eq_zero (by show B.size = 0; omega)
            have hfd := HC.out.fd
            rw [hBn] at hfd
            obtain ⟨hrem, hS0⟩ := cut_end hfd HC.out.sh
            have hgl : gl = WL := by have := HC.out.eq; rw [hrem, List.append_nil] at this; exact this
            have hrd := HC.out.rd
            rw [hS0] at hrd
            have hown1 := HC.out.own
            have hown2 := own_low hown HC.out.low HR.out
            have hlow := HC.out.low
            rw [hgl] at hown1
            have HGL := Lib.hid hgl
            clear hfd hBn hrem hS0 hgl HC hB hZ HZ hR3 hB3 hown
            obtain ⟨ga, gc, hgv⟩ := owns_slice hown1
            subst hgv
            have hwb : Below w.heap.size w wr := hb.trans (hlow.mono (by have := HR.out; omega))
            obtain ⟨M, hM⟩ : ∃ M, WL.length = M := ⟨_, rfl⟩
            have hM12 : M ≤ 12 := by rw [← hM]; exact HW.out.2
            rw [hM] at hown1 hown2 ⊢
            have HM := Lib.hid hM; clear hM
            obtain ⟨wm, hwm⟩ : ∃ wo : World, wo = wr := ⟨_, rfl⟩
            subst hwm
            go_wp2_with fail
            go_loopw [18] (fun i wx => ∃ m : Nat, m ≤ M ∧ i = .int .i64 (m : Int) ∧ Below wm.heap.size wm wx) (fun i _ => M - (intOf i).toNat)
            case atStart => exact ⟨0, Nat.zero_le _, rfl, Below.refl _ _⟩
            case round =>
              obtain ⟨m, hmM, rfl, hbx⟩ := hrel
              by_cases hmlt : m < M
              · have hml : m < WL.length := by have := HM.out; omega
                obtain ⟨g1, e1, p1⟩ := strAt_own (own_below hown1 hbx) m WL[m] (List.getElem?_eq_getElem hml)
                obtain ⟨g2, e2, p2⟩ := strAt_own (own_below hown2 hbx) m WL[m] (List.getElem?_eq_getElem hml)
                subst e1
                subst e2
                generalize WL[m] = x at p1 p2
                go_wp2_with fail
                go_quiet (fail)
                go_wp2_with fail
                go_roundw
                case rel => exact ⟨m + 1, by omega, by go_num, hbx.trans (below_drewN' _)⟩
                case measure => simp [intOf]; omega
              · obtain rfl : m = M := by omega
                have hrdx := hrd.below hbx
                go_wp2_with fail
                refine (left_any _ _ _ 0 r _ hrdx).mono ?_
                rintro e w' ⟨rfl, rfl⟩
                go_wp2_with fail
                refine (bad_no _ _ _ r _ hrdx).mono ?_
                rintro e w' ⟨rfl, rfl⟩
                go_wp2
                go_ret
                exact ⟨rfl, hwb.trans (hbx.mono hwb.size)⟩
          · have hBe := ck_full (s := B) (by omega)
            have hj41 := HC.out.j1
            have hBem : B.data.toList.drop Z = [] := List.drop_eq_nil_of_le (by rw [← hZ]; exact Nat.le_refl _)
            have HBE := Lib.hid hBem; clear hBem
            by_cases hj1 : j < l1
            · by_cases hj40 : (j : Int) < 40
              · have hjl : j < bs.length := by have := HL1.out.1; omega
                obtain ⟨g, o, rfl, hgl, hcell0⟩ := (hst1.below hb) j bs[j] (List.getElem?_eq_getElem hjl)
                have hgr : g < r := by have := HR.out; omega
                have hcell := (HC.out.low.cell (p := ⟨g, o + j, none⟩) hgr).trans hcell0
                have hb256 := HL1.out.2 bs[j] (List.getElem_mem hjl)
                generalize bs[j] = y at hcell hb256 hcell0
                clear hcell0
                obtain ⟨X, hX⟩ : ∃ X, y % 40 = X := ⟨_, rfl⟩
                have hXi : ((y : Int) % 40) = (X : Int) := by omega
                have hX40 : X < 40 := by omega
                clear hX
                rcases Nat.lt_or_ge Z X with hZX | hZX
                · have hm1 : ((Z : Int) < (X : Int)) := by omega
                  go_wp2_with fail
                  obtain ⟨m1, S1, rem', f1, s1, f2, e12⟩ := cut_step HC.out.fd Z
                  have hP1 : (B.extract 0 Z).data.toList = B.data.toList.take Z := ext_take B Z
                  have hP2 : (B.extract Z Z).data.toList = B.data.toList.drop Z := ext_drop' HZ.out
                  have hsz1 : (B.extract 0 Z).size ≤ 648 := by
                    show (B.extract 0 Z).data.toList.length ≤ 648
                    rw [hP1, List.length_take]; show min Z B.size ≤ 648; have := HC.out.bs; omega
                  have hsz2 : (B.extract Z Z).size = Z - Z := by
                    show (B.extract Z Z).data.toList.length = _
                    rw [hP2, List.length_drop]; show B.size - Z = _; rw [HZ.out]
                  have hS := takeOf_short HC.out.sh
                  have hm12 : gl.length + m1.length ≤ 12 := by
                    have h1 := congrArg List.length HC.out.eq
                    have h2 := congrArg List.length e12
                    rw [List.length_append] at h1 h2
                    have := HW.out.2; omega
                  have hfr : feedR ⟨S, 0⟩ (B.extract 0 Z).data.toList = (m1, ⟨S1, 0⟩) := feedR_none (by rw [hP1]; exact f1)
                  have hmy : (feedL (S ++ (B.extract 0 Z).data.toList)).ms.length ≤ 1099511627776 := by rw [hP1, f1]; show m1.length ≤ _; omega
                  have hszz : S.length + (B.extract 0 Z).size ≤ 140737488355328 := by omega
                  have HF := Lib.hid (And.intro hfr (And.intro hmy (And.intro s1 (And.intro f2 (And.intro e12 (And.intro hP2 hsz2)))))); clear hfr hmy s1 f1 f2 e12 hP1 hP2 hsz2 hsz1 hS
                  have hRd := HC.out.rd
                  have hlow := HC.out.low
                  have hbase : r ≤ wr.heap.size := by have := hRd.blk.lt; omega
                  have hh := feed_to r r v S 0 (B.extract 0 Z) m1 S1 0 b wr hRd (hgn.low hlow h1r) (hgen.low hlow h0r) h0r h1r hbase hszz HF.out.1 HF.out.2.1
                  refine hh.mono ?_
                  clear hh
                  rintro e w5 ⟨a5, c5, v5, rfl, hR5, ho5, hbut5⟩
                  have hlow5 := hRd.low hbut5 hbase
                  have hbase5 : r ≤ w5.heap.size := by have := hR5.blk.lt; omega
                  have hgo := HC.out.own
                  have hgo5 := hbut5.own hgo (row_block hgo hRd.blk (by decide)) (rows_apart hRd.own hgo (by decide))
                  have hnews : ∀ j u, (strV m1)[j]? = some u → ∃ b, a5 = some b ∧ w5.cell? (b.add j) = some u := by
                    intro j u hu
                    rw [List.getElem?_map] at hu
                    cases hx : m1[j]? with
                    | none => rw [hx] at hu; cases hu
                    | some x =>
                      rw [hx] at hu
                      cases hu
                      obtain ⟨g, e, hc⟩ := strAt_own ho5 j x hx
                      exact ⟨_, e, by rw [addr_plus, Nat.zero_add]; exact hc⟩
                  have hnil : a5 = none → m1.length = 0 := by
                    intro e
                    subst e
                    rcases ho5.2 with ⟨_, h⟩ | ⟨g, cap, cur, h, _⟩
                    · exact h
                    · cases h
                  have hone : ∀ u ∈ strV m1, u.oneCell' = true := by
                    intro u hu
                    obtain ⟨x, _, rfl⟩ := List.mem_map.1 hu
                    rfl
                  have HQ := Lib.hid (And.intro hnews (And.intro hnil hone)); clear hnews hnil hone
                  go_wp2_with (at_builtin; go_must (refine wpList_append_row _ rfl _ _ 32 rfl r 9 i0 (.string ⟨#[]⟩) 1 16 Tryd.underlying32 hi hz0 hz1 hz2 rfl (by decide) _ gl.length (strV gl) rfl hgo5 a5 m1.length c5 (strV m1) rfl (by rw [List.length_map, Nat.mul_one]) HQ.out.2.1 HQ.out.1 HQ.out.2.2 (by unfold maxLen; omega) (by omega) hbase5 ?_; intro v6 w6 hown6 hgrow6))
                  have hlow6 : Below r w5 w6 := (Below.refl r w5).grown hgrow6 hbase5 (fun k e => (hgo5.lt k e).1)
                  have hR6 : RdAt r r v5 S1 0 w6 := ⟨hR5.blk.kept hgrow6 (fun e => row_block hgo5 hR5.blk (by decide) e.symm), own_other hR5.own hgrow6 (rows_apart hgo5 hR5.own (by decide)), hR5.br⟩
                  have hown7 : w6.ownsRow r 9 1 v6 (gl ++ m1).length (strV (gl ++ m1)) := by rw [List.length_append, show strV (gl ++ m1) = strV gl ++ strV m1 by simp [strV]]; exact hown6
                  have hbs := HC.out.bs
                  have hj1 := HC.out.j1
                  have hj2 := HC.out.j2 (by rw [HZ.out]; exact hB)
                  have hzz := HZ.out
                  go_roundw
                  case rel =>
                    refine ⟨j + 1, ByteArray.empty, S1, v5, gl ++ m1, rem', by go_num, rfl, ⟨Nat.zero_le _, by omega, fun h => absurd rfl h, hR6, HF.out.2.2.1, by have := HF.out.2.2.2.1; rw [HBE.out] at this; exact this, ?_, hown7, (hlow.trans hlow5).trans hlow6⟩⟩
                    rw [List.append_assoc, ← HF.out.2.2.2.2.1]; exact HC.out.eq
                  case measure =>
                    simp only [intOf, strSz]
                    rw [show ByteArray.empty.size = 0 from rfl]
                    omega
                · have hm1 : ¬ ((Z : Int) < (X : Int)) := by omega
                  have hm2 : (X : Int) ≤ (Z : Int) := by omega
                  go_wp2_with fail
                  obtain ⟨m1, S1, rem', f1, s1, f2, e12⟩ := cut_step HC.out.fd X
                  have hP1 : (B.extract 0 X).data.toList = B.data.toList.take X := ext_take B X
                  have hP2 : (B.extract X Z).data.toList = B.data.toList.drop X := ext_drop' HZ.out
                  have hsz1 : (B.extract 0 X).size ≤ 648 := by
                    show (B.extract 0 X).data.toList.length ≤ 648
                    rw [hP1, List.length_take]; show min X B.size ≤ 648; have := HC.out.bs; omega
                  have hsz2 : (B.extract X Z).size = Z - X := by
                    show (B.extract X Z).data.toList.length = _
                    rw [hP2, List.length_drop]; show B.size - X = _; rw [HZ.out]
                  have hS := takeOf_short HC.out.sh
                  have hm12 : gl.length + m1.length ≤ 12 := by
                    have h1 := congrArg List.length HC.out.eq
                    have h2 := congrArg List.length e12
                    rw [List.length_append] at h1 h2
                    have := HW.out.2; omega
                  have hfr : feedR ⟨S, 0⟩ (B.extract 0 X).data.toList = (m1, ⟨S1, 0⟩) := feedR_none (by rw [hP1]; exact f1)
                  have hmy : (feedL (S ++ (B.extract 0 X).data.toList)).ms.length ≤ 1099511627776 := by rw [hP1, f1]; show m1.length ≤ _; omega
                  have hszz : S.length + (B.extract 0 X).size ≤ 140737488355328 := by omega
                  have HF := Lib.hid (And.intro hfr (And.intro hmy (And.intro s1 (And.intro f2 (And.intro e12 (And.intro hP2 hsz2)))))); clear hfr hmy s1 f1 f2 e12 hP1 hP2 hsz2 hsz1 hS
                  have hRd := HC.out.rd
                  have hlow := HC.out.low
                  have hbase : r ≤ wr.heap.size := by have := hRd.blk.lt; omega
                  have hh := feed_to r r v S 0 (B.extract 0 X) m1 S1 0 b wr hRd (hgn.low hlow h1r) (hgen.low hlow h0r) h0r h1r hbase hszz HF.out.1 HF.out.2.1
                  refine hh.mono ?_
                  clear hh
                  rintro e w5 ⟨a5, c5, v5, rfl, hR5, ho5, hbut5⟩
                  have hlow5 := hRd.low hbut5 hbase
                  have hbase5 : r ≤ w5.heap.size := by have := hR5.blk.lt; omega
                  have hgo := HC.out.own
                  have hgo5 := hbut5.own hgo (row_block hgo hRd.blk (by decide)) (rows_apart hRd.own hgo (by decide))
                  have hnews : ∀ j u, (strV m1)[j]? = some u → ∃ b, a5 = some b ∧ w5.cell? (b.add j) = some u := by
                    intro j u hu
                    rw [List.getElem?_map] at hu
                    cases hx : m1[j]? with
                    | none => rw [hx] at hu; cases hu
                    | some x =>
                      rw [hx] at hu
                      cases hu
                      obtain ⟨g, e, hc⟩ := strAt_own ho5 j x hx
                      exact ⟨_, e, by rw [addr_plus, Nat.zero_add]; exact hc⟩
                  have hnil : a5 = none → m1.length = 0 := by
                    intro e
                    subst e
                    rcases ho5.2 with ⟨_, h⟩ | ⟨g, cap, cur, h, _⟩
                    · exact h
                    · cases h
                  have hone : ∀ u ∈ strV m1, u.oneCell' = true := by
                    intro u hu
                    obtain ⟨x, _, rfl⟩ := List.mem_map.1 hu
                    rfl
                  have HQ := Lib.hid (And.intro hnews (And.intro hnil hone)); clear hnews hnil hone
                  go_wp2_with (at_builtin; go_must (refine wpList_append_row _ rfl _ _ 32 rfl r 9 i0 (.string ⟨#[]⟩) 1 16 Tryd.underlying32 hi hz0 hz1 hz2 rfl (by decide) _ gl.length (strV gl) rfl hgo5 a5 m1.length c5 (strV m1) rfl (by rw [List.length_map, Nat.mul_one]) HQ.out.2.1 HQ.out.1 HQ.out.2.2 (by unfold maxLen; omega) (by omega) hbase5 ?_; intro v6 w6 hown6 hgrow6))
                  have hlow6 : Below r w5 w6 := (Below.refl r w5).grown hgrow6 hbase5 (fun k e => (hgo5.lt k e).1)
                  have hR6 : RdAt r r v5 S1 0 w6 := ⟨hR5.blk.kept hgrow6 (fun e => row_block hgo5 hR5.blk (by decide) e.symm), own_other hR5.own hgrow6 (rows_apart hgo5 hR5.own (by decide)), hR5.br⟩
                  have hown7 : w6.ownsRow r 9 1 v6 (gl ++ m1).length (strV (gl ++ m1)) := by rw [List.length_append, show strV (gl ++ m1) = strV gl ++ strV m1 by simp [strV]]; exact hown6
                  have hbs := HC.out.bs
                  have hj1 := HC.out.j1
                  have hj2 := HC.out.j2 (by rw [HZ.out]; exact hB)
                  have hzz := HZ.out
                  go_roundw
                  case rel =>
                    refine ⟨j + 1, B.extract X Z, S1, v5, gl ++ m1, rem', by go_num, rfl, ⟨by rw [HF.out.2.2.2.2.2.2]; omega, by omega, fun _ => by omega, hR6, HF.out.2.2.1, by rw [HF.out.2.2.2.2.2.1]; exact HF.out.2.2.2.1, ?_, hown7, (hlow.trans hlow5).trans hlow6⟩⟩
                    rw [List.append_assoc, ← HF.out.2.2.2.2.1]; exact HC.out.eq
                  case measure =>
                    simp only [intOf, strSz]
                    rw [HF.out.2.2.2.2.2.2]
                    omega
              · go_wp2_with fail
                obtain ⟨m1, S1, rem', f1, s1, f2, e12⟩ := cut_step HC.out.fd Z
                have hP1 : (B.extract 0 Z).data.toList = B.data.toList.take Z := ext_take B Z
                have hP2 : (B.extract Z Z).data.toList = B.data.toList.drop Z := ext_drop' HZ.out
                have hsz1 : (B.extract 0 Z).size ≤ 648 := by
                  show (B.extract 0 Z).data.toList.length ≤ 648
                  rw [hP1, List.length_take]; show min Z B.size ≤ 648; have := HC.out.bs; omega
                have hsz2 : (B.extract Z Z).size = Z - Z := by
                  show (B.extract Z Z).data.toList.length = _
                  rw [hP2, List.length_drop]; show B.size - Z = _; rw [HZ.out]
                have hS := takeOf_short HC.out.sh
                have hm12 : gl.length + m1.length ≤ 12 := by
                  have h1 := congrArg List.length HC.out.eq
                  have h2 := congrArg List.length e12
                  rw [List.length_append] at h1 h2
                  have := HW.out.2; omega
                have hfr : feedR ⟨S, 0⟩ (B.extract 0 Z).data.toList = (m1, ⟨S1, 0⟩) := feedR_none (by rw [hP1]; exact f1)
                have hmy : (feedL (S ++ (B.extract 0 Z).data.toList)).ms.length ≤ 1099511627776 := by rw [hP1, f1]; show m1.length ≤ _; omega
                have hszz : S.length + (B.extract 0 Z).size ≤ 140737488355328 := by omega
                have HF := Lib.hid (And.intro hfr (And.intro hmy (And.intro s1 (And.intro f2 (And.intro e12 (And.intro hP2 hsz2)))))); clear hfr hmy s1 f1 f2 e12 hP1 hP2 hsz2 hsz1 hS
                have hRd := HC.out.rd
                have hlow := HC.out.low
                have hbase : r ≤ wr.heap.size := by have := hRd.blk.lt; omega
                have hh := feed_to r r v S 0 (B.extract 0 Z) m1 S1 0 b wr hRd (hgn.low hlow h1r) (hgen.low hlow h0r) h0r h1r hbase hszz HF.out.1 HF.out.2.1
                refine hh.mono ?_
                clear hh
                rintro e w5 ⟨a5, c5, v5, rfl, hR5, ho5, hbut5⟩
                have hlow5 := hRd.low hbut5 hbase
                have hbase5 : r ≤ w5.heap.size := by have := hR5.blk.lt; omega
                have hgo := HC.out.own
                have hgo5 := hbut5.own hgo (row_block hgo hRd.blk (by decide)) (rows_apart hRd.own hgo (by decide))
                have hnews : ∀ j u, (strV m1)[j]? = some u → ∃ b, a5 = some b ∧ w5.cell? (b.add j) = some u := by
                  intro j u hu
                  rw [List.getElem?_map] at hu
                  cases hx : m1[j]? with
                  | none => rw [hx] at hu; cases hu
                  | some x =>
                    rw [hx] at hu
                    cases hu
                    obtain ⟨g, e, hc⟩ := strAt_own ho5 j x hx
                    exact ⟨_, e, by rw [addr_plus, Nat.zero_add]; exact hc⟩
                have hnil : a5 = none → m1.length = 0 := by
                  intro e
                  subst e
                  rcases ho5.2 with ⟨_, h⟩ | ⟨g, cap, cur, h, _⟩
                  · exact h
                  · cases h
                have hone : ∀ u ∈ strV m1, u.oneCell' = true := by
                  intro u hu
                  obtain ⟨x, _, rfl⟩ := List.mem_map.1 hu
                  rfl
                have HQ := Lib.hid (And.intro hnews (And.intro hnil hone)); clear hnews hnil hone
                go_wp2_with (at_builtin; go_must (refine wpList_append_row _ rfl _ _ 32 rfl r 9 i0 (.string ⟨#[]⟩) 1 16 Tryd.underlying32 hi hz0 hz1 hz2 rfl (by decide) _ gl.length (strV gl) rfl hgo5 a5 m1.length c5 (strV m1) rfl (by rw [List.length_map, Nat.mul_one]) HQ.out.2.1 HQ.out.1 HQ.out.2.2 (by unfold maxLen; omega) (by omega) hbase5 ?_; intro v6 w6 hown6 hgrow6))
                have hlow6 : Below r w5 w6 := (Below.refl r w5).grown hgrow6 hbase5 (fun k e => (hgo5.lt k e).1)
                have hR6 : RdAt r r v5 S1 0 w6 := ⟨hR5.blk.kept hgrow6 (fun e => row_block hgo5 hR5.blk (by decide) e.symm), own_other hR5.own hgrow6 (rows_apart hgo5 hR5.own (by decide)), hR5.br⟩
                have hown7 : w6.ownsRow r 9 1 v6 (gl ++ m1).length (strV (gl ++ m1)) := by rw [List.length_append, show strV (gl ++ m1) = strV gl ++ strV m1 by simp [strV]]; exact hown6
                have hbs := HC.out.bs
                have hj1 := HC.out.j1
                have hj2 := HC.out.j2 (by rw [HZ.out]; exact hB)
                have hzz := HZ.out
                go_roundw
                case rel =>
                  refine ⟨j + 1, ByteArray.empty, S1, v5, gl ++ m1, rem', by go_num, rfl, ⟨Nat.zero_le _, by omega, fun h => absurd rfl h, hR6, HF.out.2.2.1, by have := HF.out.2.2.2.1; rw [HBE.out] at this; exact this, ?_, hown7, (hlow.trans hlow5).trans hlow6⟩⟩
                  rw [List.append_assoc, ← HF.out.2.2.2.2.1]; exact HC.out.eq
                case measure =>
                  simp only [intOf, strSz]
                  rw [show ByteArray.empty.size = 0 from rfl]
                  omega
            · go_wp2_with fail
              obtain ⟨m1, S1, rem', f1, s1, f2, e12⟩ := cut_step HC.out.fd Z
              have hP1 : (B.extract 0 Z).data.toList = B.data.toList.take Z := ext_take B Z
              have hP2 : (B.extract Z Z).data.toList = B.data.toList.drop Z := ext_drop' HZ.out
              have hsz1 : (B.extract 0 Z).size ≤ 648 := by
                show (B.extract 0 Z).data.toList.length ≤ 648
                rw [hP1, List.length_take]; show min Z B.size ≤ 648; have := HC.out.bs; omega
              have hsz2 : (B.extract Z Z).size = Z - Z := by
                show (B.extract Z Z).data.toList.length = _
                rw [hP2, List.length_drop]; show B.size - Z = _; rw [HZ.out]
              have hS := takeOf_short HC.out.sh
              have hm12 : gl.length + m1.length ≤ 12 := by
                have h1 := congrArg List.length HC.out.eq
                have h2 := congrArg List.length e12
                rw [List.length_append] at h1 h2
                have := HW.out.2; omega
              have hfr : feedR ⟨S, 0⟩ (B.extract 0 Z).data.toList = (m1, ⟨S1, 0⟩) := feedR_none (by rw [hP1]; exact f1)
              have hmy : (feedL (S ++ (B.extract 0 Z).data.toList)).ms.length ≤ 1099511627776 := by rw [hP1, f1]; show m1.length ≤ _; omega
              have hszz : S.length + (B.extract 0 Z).size ≤ 140737488355328 := by omega
              have HF := Lib.hid (And.intro hfr (And.intro hmy (And.intro s1 (And.intro f2 (And.intro e12 (And.intro hP2 hsz2)))))); clear hfr hmy s1 f1 f2 e12 hP1 hP2 hsz2 hsz1 hS
              have hRd := HC.out.rd
              have hlow := HC.out.low
              have hbase : r ≤ wr.heap.size := by have := hRd.blk.lt; omega
              have hh := feed_to r r v S 0 (B.extract 0 Z) m1 S1 0 b wr hRd (hgn.low hlow h1r) (hgen.low hlow h0r) h0r h1r hbase hszz HF.out.1 HF.out.2.1
              refine hh.mono ?_
              clear hh
              rintro e w5 ⟨a5, c5, v5, rfl, hR5, ho5, hbut5⟩
              have hlow5 := hRd.low hbut5 hbase
              have hbase5 : r ≤ w5.heap.size := by have := hR5.blk.lt; omega
              have hgo := HC.out.own
              have hgo5 := hbut5.own hgo (row_block hgo hRd.blk (by decide)) (rows_apart hRd.own hgo (by decide))
              have hnews : ∀ j u, (strV m1)[j]? = some u → ∃ b, a5 = some b ∧ w5.cell? (b.add j) = some u := by
                intro j u hu
                rw [List.getElem?_map] at hu
                cases hx : m1[j]? with
                | none => rw [hx] at hu; cases hu
                | some x =>
                  rw [hx] at hu
                  cases hu
                  obtain ⟨g, e, hc⟩ := strAt_own ho5 j x hx
                  exact ⟨_, e, by rw [addr_plus, Nat.zero_add]; exact hc⟩
              have hnil : a5 = none → m1.length = 0 := by
                intro e
                subst e
                rcases ho5.2 with ⟨_, h⟩ | ⟨g, cap, cur, h, _⟩
                · exact h
                · cases h
              have hone : ∀ u ∈ strV m1, u.oneCell' = true := by
                intro u hu
                obtain ⟨x, _, rfl⟩ := List.mem_map.1 hu
                rfl
              have HQ := Lib.hid (And.intro hnews (And.intro hnil hone)); clear hnews hnil hone
              go_wp2_with (at_builtin; go_must (refine wpList_append_row _ rfl _ _ 32 rfl r 9 i0 (.string ⟨#[]⟩) 1 16 Tryd.underlying32 hi hz0 hz1 hz2 rfl (by decide) _ gl.length (strV gl) rfl hgo5 a5 m1.length c5 (strV m1) rfl (by rw [List.length_map, Nat.mul_one]) HQ.out.2.1 HQ.out.1 HQ.out.2.2 (by unfold maxLen; omega) (by omega) hbase5 ?_; intro v6 w6 hown6 hgrow6))
              have hlow6 : Below r w5 w6 := (Below.refl r w5).grown hgrow6 hbase5 (fun k e => (hgo5.lt k e).1)
              have hR6 : RdAt r r v5 S1 0 w6 := ⟨hR5.blk.kept hgrow6 (fun e => row_block hgo5 hR5.blk (by decide) e.symm), own_other hR5.own hgrow6 (rows_apart hgo5 hR5.own (by decide)), hR5.br⟩
              have hown7 : w6.ownsRow r 9 1 v6 (gl ++ m1).length (strV (gl ++ m1)) := by rw [List.length_append, show strV (gl ++ m1) = strV gl ++ strV m1 by simp [strV]]; exact hown6
              have hbs := HC.out.bs
              have hj1 := HC.out.j1
              have hj2 := HC.out.j2 (by rw [HZ.out]; exact hB)
              have hzz := HZ.out
              go_roundw
              case rel =>
                refine ⟨j + 1, ByteArray.empty, S1, v5, gl ++ m1, rem', by go_num, rfl, ⟨Nat.zero_le _, by omega, fun h => absurd rfl h, hR6, HF.out.2.2.1, by have := HF.out.2.2.2.1; rw [HBE.out] at this; exact this, ?_, hown7, (hlow.trans hlow5).trans hlow6⟩⟩
                rw [List.append_assoc, ← HF.out.2.2.2.2.1]; exact HC.out.eq
              case measure =>
                simp only [intOf, strSz]
                rw [show ByteArray.empty.size = 0 from rfl]
                omega
end Go.Proofs.YtmgmjndghhgkcaaDoor
