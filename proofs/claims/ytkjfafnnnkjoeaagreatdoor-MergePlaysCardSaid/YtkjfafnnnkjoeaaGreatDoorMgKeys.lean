/- merge: Keys. -/
import Derived.Test.YtkjfafnnnkjoeaaGreatDoorMgItoa
namespace Go.Proofs.YtkjfafnnnkjoeaaGreatDoor
open Go.RowKit Go.Lib

/-- A name with how many name it. -/
def keyT (W : Wants) (k : Int) (x : List UInt8) : List UInt8 := x ++ [32] ++ dgT (cnt W k x)
def keyL (W : Wants) (k : Int) : List (List UInt8) := (nList (uni W k)).map (keyT W k)
theorem cat_bytes (x y : List UInt8) : (⟨x.toArray⟩ : ByteArray) ++ ⟨y.toArray⟩ = ⟨(x ++ y).toArray⟩ := by
  apply ByteArray.ext
  simp
def TextsPost (l : List (List UInt8)) (w : World) (e : Ending) (w' : World) : Prop := ∃ a c, e = .returned (.slice a l.length c) ∧ TsAt w' (.slice a l.length c) l ∧ Below w.heap.size w w'
set_option maxRecDepth 100000 in
set_option maxHeartbeats 4000000 in
theorem keys_any {base m : Nat} {W : Wants} {k : Int} {w : World} (h : MgIs base m W w) (hk : i64B k) :
    Calls Tryz.prog 23 #[.pointer (some ⟨m, 0, none⟩), .int .i64 k] w (TextsPost (keyL W k) w) := by
  obtain ⟨i0, hi, hz0, hz1, hz2⟩ := info_parts Tryz.infoStr
  obtain ⟨hwo, hwf, mw, mc, C, D, hin⟩ := h
  obtain ⟨f1, f2, f3, f4, _⟩ := uni_fit hwo hwf k
  have c1 : w.cell? ⟨m, 1, none⟩ = some (.map (some mc)) := hin.blk.cell 1
  have hlk := hin.lookC hk
  have hcv := hin.cv k
  obtain ⟨v, hv⟩ : ∃ v, (D k).getD (.map none) = v := ⟨_, rfl⟩
  rw [hv] at hlk hcv
  have HCV := Lib.hid hcv
  have HF := Lib.hid (And.intro f1 (And.intro f2 (And.intro f3 f4)))
  have HC := Lib.hid (tset_any hcv f1 f2 (by omega) f4)
  obtain ⟨U, hU⟩ : ∃ U, uni W k = U := ⟨_, rfl⟩
  rw [hU] at HC HF
  have HK := Lib.hid (show keyL W k = (nList U).map (keyT W k) by unfold keyL; rw [hU])
  clear hwo hwf f1 f2 f3 f4 hU hin hcv hv
  go_enter Tryz.func23, Tryz.ntmps23
  go_wp2_with fail
  refine HC.out.mono ?_
  rintro e w2 ⟨a2, c2, rfl, ht2, hb2⟩
  have HB2 := Lib.hid hb2
  have HCV := Lib.hid (HCV.out.later hb2)
  obtain ⟨L, hL⟩ : ∃ L, nList U = L := ⟨_, rfl⟩
  have HLI := Lib.hid (list_any (sa := U.all) ht2 (show nList ⟨U.all, U.ns⟩ = L from hL) (by have := HF.out.2.2.1; rw [hL] at this; omega))
  obtain ⟨N, hN⟩ : ∃ N, L.length = N := ⟨_, rfl⟩
  rw [hN] at HLI
  have HL := Lib.hid (And.intro hL hN)
  have hN64 : N ≤ 64 := by have := HF.out.2.2.1; rw [hL, hN] at this; exact this
  clear ht2 hb2 hL hN HC hlk c1
  go_wp2_with fail
  refine HLI.out.mono ?_
  rintro e w3 ⟨a3, c3, rfl, hrow, hb3⟩
  have HR := Lib.hid (show TsAt w3 (.slice a3 N c3) L from RowV.own hrow)
  have HB3 := Lib.hid (HB2.out.trans (hb3.mono HB2.out.size))
  have HCV := Lib.hid (HCV.out.later hb3)
  clear hrow hb3 HLI
  go_wp2_with fail
  go_loopw [5, 8, 19] (fun vl _ vi wr => ∃ j : Nat, vi = .int .i64 (j : Int) ∧ j ≤ N ∧ wr.ownsRow w3.heap.size 9 1 vl ((L.take j).map (keyT W k)).length (tsV ((L.take j).map (keyT W k))) ∧ Below w3.heap.size w3 wr) (fun _ _ vi _ => N - (intOf vi).toNat)
  case atStart => exact ⟨0, rfl, Nat.zero_le _, World.ownsRow_nil _ _ _ _, Below.refl _ _⟩
  case round =>
    obtain ⟨j, rfl, hj, hown, hb⟩ := hrel
    by_cases hlt : j < N
    · obtain ⟨x, hx⟩ : ∃ x, L[j]'(by rw [HL.out.2]; exact hlt) = x := ⟨_, rfl⟩
      have hr := HR.out.below hb
      have hcx : ∃ b off, a3 = some ⟨b, off, none⟩ ∧ b < wr.heap.size ∧ wr.cell? ⟨b, off + j, none⟩ = some (.string ⟨x.toArray⟩) := by
        obtain ⟨a', c', e', _, _, h3⟩ := hr.out
        injection e' with e1 e2 e3
        subst e1
        obtain ⟨b, off, e, hl, hc⟩ := h3 j (by rw [HL.out.2]; exact hlt)
        rw [hx] at hc
        exact ⟨b, off, e, hl, hc⟩
      obtain ⟨g, off, rfl, hgl, hc⟩ := hcx
      have hmem : x ∈ nList U := by rw [HL.out.1, ← hx]; exact List.getElem_mem _
      have hxl : x.length ≤ 1000 := HF.out.2.2.2 x hmem
      have hok : skOk x := by show x.length ≤ maxLen; unfold maxLen; omega
      have hcn1 : 0 < cnt W k x := (HF.out.2.1 x).2 hmem
      have hcn2 := cnt_le W k x
      have HNX := Lib.hid (show (L.take (j + 1)).map (keyT W k) = (L.take j).map (keyT W k) ++ [keyT W k x] by
        rw [List.take_succ_eq_append_getElem (by rw [HL.out.2]; exact hlt), List.map_append, hx]; rfl)
      obtain ⟨n, hn⟩ : ∃ n, cnt W k x = n := ⟨_, rfl⟩
      have HKT := Lib.hid (show keyT W k x = x ++ [32] ++ dgT n by unfold keyT; rw [hn])
      rw [hn] at hcn1 hcn2
      have htl := HCV.out.later hb
      rcases htl with ⟨rfl, h0⟩ | ⟨tb, C', rfl, hm, hC⟩
      · exact absurd (h0 x) (by rw [hn]; omega)
      · have hlk := hm.lookup (k := 9) (e := 3) (lit := fun s => .string s) (t := 81) (P := Tryz.prog) Tryz.skLaw skKey skV_inj Tryz.underlying81 (mg_zeroI wr) hok false
        simp only [Bool.false_eq_true, if_false] at hlk
        rw [hC x, hn, if_neg (by omega)] at hlk
        have hlk' : (Instr.lookup 81 (.map (some tb)) (.string ⟨x.toArray⟩) false).run Tryz.prog wr = .ok (.int .i64 (n : Int)) wr := hlk
        obtain ⟨X, hX⟩ : ∃ X : ByteArray, (⟨x.toArray⟩ : ByteArray) ++ ⟨#[32]⟩ = X := ⟨_, rfl⟩
        have hXs : X.size = x.length + 1 := by rw [← hX, ByteArray.size_append]; show x.toArray.size + 1 = _; rw [List.size_toArray]
        obtain ⟨DG, hDG⟩ : ∃ DG : ByteArray, (⟨(dgT n).toArray⟩ : ByteArray) = DG := ⟨_, rfl⟩
        have hDs : DG.size ≤ 2 := by rw [← hDG]; show (dgT n).toArray.size ≤ 2; rw [List.size_toArray]; exact dgT_len n
        obtain ⟨Y, hY⟩ : ∃ Y : ByteArray, X ++ DG = Y := ⟨_, rfl⟩
        have HY := Lib.hid (show Y = ⟨(keyT W k x).toArray⟩ by rw [HKT.out, ← hY, ← hX, ← hDG, show (⟨#[32]⟩ : ByteArray) = ⟨[32].toArray⟩ from rfl, cat_bytes, cat_bytes])
        have HIT := Lib.hid (mItoa_any n hcn1 hcn2 wr)
        rw [hDG] at HIT
        have s0 : ¬ 9223372036854775807 < x.length + 1 := by omega
        have s1 : ¬ 9223372036854775807 < X.size + DG.size := by omega
        have s2 : (⟨x.toArray⟩ : ByteArray).size = x.length := by show x.toArray.size = _; rw [List.size_toArray]
        have b0 : (0 : Int) ≤ (j : Int) := by omega
        have b1 : (j : Int) < (N : Int) := by omega
        have b2 : IntKind.i64.wrap ((j : Int) + 1) = (j : Int) + 1 := by rw [IntKind.wrap_i64]; omega
        have HOW := Lib.hid hown
        have HBW := Lib.hid hb
        have hs3 : w3.heap.size ≤ wr.heap.size := hb.size
        have hkl : ((L.take j).map (keyT W k)).length ≤ 64 := by rw [List.length_map, List.length_take]; omega
        clear hown hb hr hx hmem hxl hok hcn1 hcn2 hn hm hC hlk hXs hDG hDs
        go_wp2_with fail
        refine HIT.out.mono ?_
        rintro e w4 ⟨rfl, rfl⟩
        have h1c : ∀ u ∈ [Value.string Y], u.oneCell' = true := by
          intro u hu
          rw [List.mem_singleton] at hu
          subst hu
          rfl
        clear hlk'
        go_wp2_with (at_builtin; go_must (refine wpList_append_own _ rfl _ _ 27 rfl w3.heap.size 9 i0 _ 1 16 Tryz.underlying27 hi hz0 hz1 hz2 rfl (by omega) _ _ _ rfl (HOW.out.alloc _) ⟨w4.heap.size, 0, none⟩ 1 1 [.string Y] rfl rfl (World.news_of_block (cs := #[.string Y]) (t := 9) (fr := (0, 0)) (heap_alloc_new w4 _)) h1c (by unfold maxLen; omega) (by omega) (by simp; omega) ?_; intro v5 w5 hown5 hgrow5 _))
        have HOW5 := Lib.hid (show w5.ownsRow w3.heap.size 9 1 v5 ((L.take (j + 1)).map (keyT W k)).length (tsV ((L.take (j + 1)).map (keyT W k))) by
          rw [HNX.out, tsV_append, List.length_append, show tsV [keyT W k x] = [.string Y] by rw [HY.out]; rfl]
          exact hown5)
        have HBW5 := Lib.hid ((HBW.out.alloc hs3 _).grown hgrow5 (by simp; omega) (fun i hi => (HOW.out.lt i hi).1))
        clear hown5 hgrow5
        go_wp2_with fail
        go_roundw
        case rel => exact ⟨j + 1, by go_num, by omega, HOW5.out, HBW5.out⟩
        case measure => simp [intOf]; omega
    · obtain rfl : j = N := by omega
      have b1 : ¬ (j : Int) < (j : Int) := by omega
      rw [List.take_of_length_le (by rw [HL.out.2]; exact Nat.le_refl _), ← HL.out.1, ← HK.out] at hown
      have HR2 := Lib.hid (RowV.own hown)
      have HBB := Lib.hid (HB3.out.trans (hb.mono HB3.out.size))
      obtain ⟨a4, c4, rfl⟩ := owns_slice hown
      clear hown hb hj hlt
      go_wp2_with fail
      go_ret
      exact ⟨a4, c4, rfl, HR2.out, HBB.out⟩
end Go.Proofs.YtkjfafnnnkjoeaaGreatDoor
