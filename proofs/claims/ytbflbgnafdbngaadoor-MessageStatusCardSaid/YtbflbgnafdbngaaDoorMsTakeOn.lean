/- message: takeAll, takeMessage, where the takers are known for the fields that come up (MsTakeAll's and MsKind's walks once more). -/
import Derived.Test.YtbflbgnafdbngaaDoorMsEachI
namespace Go.Proofs.YtbflbgnafdbngaaDoor
open Go.RowKit Go.Lib Go.WideMaps Go.Maps

set_option maxRecDepth 100000 in
set_option maxHeartbeats 4000000 in
theorem takeAll_on {σ : Type} (P : σ → Fd → Prop) (I : σ → World → Prop) (step : σ → Fd → Except (List Int) σ) (C : Int → Option Value) (M base B0 : Nat) (g b : Addr)
    (hI : ∀ st w w', I st w → Below w.heap.size w w' → I st w') (hIM : ∀ st w, I st w → Tks w M C ∧ Gv g w ∧ Gn b w)
    (hT : ∀ st w f, I st w → P st f → (C f.num = none → step st f = .ok st) ∧ ∀ v, C f.num = some v → ∃ b2 b3, v = clo b2 b3 ∧ Calls Tryd.prog 68 #[fV f, .pointer (some ⟨b2, 0, none⟩), .pointer (some ⟨b3, 0, none⟩)] w (TkPost I (step st f) st base B0 b w))
    (_hno : ∀ (k : Int), (C k).isSome = true → iOk k) (st0 : σ) (s : ByteArray) (w : World) (h0 : I st0 w) (hs : s.size ≤ 1099511627776) (hB : B0 ≤ w.heap.size) (hb0 : base ≤ B0) (hnum : ∀ fs, parse s.data.toList = some fs → ∀ f ∈ fs, iOk (f.num : Int)) (hP : ∀ fs, parse s.data.toList = some fs → ∀ (k : Nat) st f, fs[k]? = some f → takes step st0 fs = takes step st (fs.drop k) → P st f) :
    Calls Tryd.prog 53 #[.string s, .map (some M)] w fun e w' => ∃ st' o, takeP step st0 s.data.toList = (st', o) ∧ e = .returned (oV b o) ∧ I st' w' ∧ Below base w w' := by
  have HPA := Lib.hid (parse_any s g w hs (hIM _ _ h0).2.1)
  have HI := Lib.hid hI
  have HM := Lib.hid hIM
  have HT := Lib.hid hT
  have H0 := Lib.hid (And.intro h0 (And.intro hB hb0))
  have HNU := Lib.hid hnum
  have HP := Lib.hid hP
  clear hI hIM hT h0 hs hB hb0 _hno hnum hP
  obtain ⟨r, hr⟩ : ∃ r, takeP step st0 s.data.toList = r := ⟨_, rfl⟩
  rw [hr]
  have HR := Lib.hid hr
  clear hr
  go_enter Tryd.func53, Tryd.ntmps53
  go_wp2_with fail
  refine HPA.out.mono ?_
  cases hp : parse s.data.toList with
  | none =>
    rintro e w1 ⟨rfl, hb⟩
    have h1 := HI.out _ _ _ H0.out.1 hb
    have c0 := (HM.out _ _ h1).2.2.1
    have H1 := Lib.hid (And.intro h1 (hb.mono (Nat.le_trans H0.out.2.2 H0.out.2.1)))
    clear h1 hb
    go_wp2_with fail
    go_ret
    exact ⟨st0, some [], by rw [← HR.out]; unfold takeP; rw [hp], rfl, H1.out.1, H1.out.2⟩
  | some fs =>
    rintro e w1 ⟨⟨v, rfl, hrow⟩, hb⟩
    obtain ⟨a, c, rfl⟩ := owns_slice hrow
    have h1 := HI.out _ _ _ H0.out.1 hb
    have hR : RowX w1 a fs B0 := rowx_of (own_lowr hrow H0.out.2.1) rfl
    have H1 := Lib.hid (And.intro h1 (And.intro hR (hb.mono (Nat.le_trans H0.out.2.2 H0.out.2.1))))
    have hs1 := hb.size
    have HNF := Lib.hid (HNU.out fs hp)
    have hmax := own_max hrow
    obtain ⟨L, hL⟩ : ∃ L, fs.length = L := ⟨_, rfl⟩
    rw [hL] at hmax ⊢
    have HL := Lib.hid hL
    have HSZ := Lib.hid hs1
    clear h1 hR hrow hb hL hs1 HNU
    go_wp2_with fail
    go_loopw [22] (fun i wr => ∃ (k : Nat) (st : σ), k ≤ L ∧ i = .int .i64 (k : Int) ∧ takes step st0 fs = takes step st (fs.drop k) ∧ I st wr ∧ RowX wr a fs B0 ∧ Below base w wr ∧ w.heap.size ≤ wr.heap.size) (fun i _ => L - (RowKit.intOf i).toNat)
    case atStart => exact ⟨0, st0, Nat.zero_le _, rfl, rfl, H1.out.1, H1.out.2.1, H1.out.2.2, HSZ.out⟩
    case round =>
      obtain ⟨k, st, hk, rfl, htk, hst, hrx, hbw, hsw⟩ := hrel
      by_cases hlt : k < L
      · have b0 : (0 : Int) ≤ (k : Int) := by omega
        have b1 : (k : Int) < (L : Int) := by omega
        obtain ⟨f, hx⟩ : ∃ f, fs[k]? = some f := ⟨_, List.getElem?_eq_getElem (by have := HL.out; omega)⟩
        obtain ⟨g0, rfl, hgB, hgl, p0, p1, p2, p3⟩ := hrx k f hx
        obtain ⟨wa, hwa, hba, pa⟩ := alloc_new wr #[.int .i64 (f.num : Int), .int .i64 (f.kind : Int), .int .u64 (f.n : Int), .string ⟨f.s.toArray⟩] 59
        have hia := HI.out _ _ _ hst hba
        have hlk := tks_look (HM.out _ _ hia).1 f.num (HNF.out f (List.mem_of_getElem? hx))
        have HTT := Lib.hid (HT.out st wa f hia (HP.out fs hp k st f hx htk))
        have hxa : RowX wa (some ⟨g0, 0, none⟩) fs B0 := hrx.far hba.size (fun q _ hq => hba.block q hq)
        have HA := Lib.hid (And.intro hia (And.intro hxa (And.intro (hbw.trans (hba.mono (Nat.le_trans (Nat.le_trans H0.out.2.2 H0.out.2.1) hsw))) (And.intro (Nat.le_trans hsw hba.size) (And.intro htk (And.intro hx (And.intro pa hsw)))))))
        have HWA := Lib.hid hwa
        have c0 : wa.cell? ⟨wr.heap.size, 0, none⟩ = some (.int .i64 (f.num : Int)) := pa.cell 0
        have c1 : wa.cell? ⟨wr.heap.size, 1, none⟩ = some (.int .i64 (f.kind : Int)) := pa.cell 1
        have c2 : wa.cell? ⟨wr.heap.size, 2, none⟩ = some (.int .u64 (f.n : Int)) := pa.cell 2
        have c3 : wa.cell? ⟨wr.heap.size, 3, none⟩ = some (.string ⟨f.s.toArray⟩) := pa.cell 3
        obtain ⟨num, kind, nn, ss⟩ := f
        dsimp only at c0 c1 c2 c3 p0 p1 p2 p3 hlk
        clear hwa hba pa hia hxa hst hrx hbw hsw htk hx
        cases hC : C (num : Int) with
        | none =>
          rw [hC] at hlk
          have hlk2 : (Instr.lookup 91 (.map (some M)) (.int .i64 (num : Int)) true).run Tryd.prog wa = .ok (.tuple #[.nilFunc, .bool false]) wa := hlk
          have HST := Lib.hid (HTT.out.1 hC)
          clear hlk
          go_wp2_with (rw [HWA.out])
          go_roundw
          case rel => exact ⟨k + 1, st, by omega, by go_num, HA.out.2.2.2.2.1.trans (takes_ok HA.out.2.2.2.2.2.1 HST.out), HA.out.1, HA.out.2.1, HA.out.2.2.1, HA.out.2.2.2.1⟩
          case measure => simp [RowKit.intOf]; omega
        | some v =>
          obtain ⟨b2, b3, rfl, hcall⟩ := HTT.out.2 v hC
          rw [hC] at hlk
          have hlk2 : (Instr.lookup 91 (.map (some M)) (.int .i64 (num : Int)) true).run Tryd.prog wa = .ok (.tuple #[clo b2 b3, .bool true]) wa := hlk
          have hent : ∀ (args : Array Value) (w : World), (callFunc 68 args).run Tryd.prog w = .ok (.enter 68 args) w := enters_of Tryd.func68 (by kernel_rfl) rfl
          have HC := Lib.hid hcall
          clear hlk hcall
          go_wp2_with (rw [HWA.out])
          refine HC.out.mono ?_
          cases hst2 : step st ⟨num, kind, nn, ss⟩ with
          | ok st2 =>
            rintro e w2 ⟨⟨rfl, hi2⟩, hb2, hf2⟩
            have H2 := Lib.hid (And.intro hi2 (And.intro (HA.out.2.1.far hb2.size hf2) (And.intro (HA.out.2.2.1.trans hb2) (And.intro (Nat.le_trans HA.out.2.2.2.1 hb2.size) hst2))))
            clear hi2 hb2 hf2 hst2
            go_wp2_with fail
            go_roundw
            case rel => exact ⟨k + 1, st2, by omega, by go_num, HA.out.2.2.2.2.1.trans (takes_ok HA.out.2.2.2.2.2.1 H2.out.2.2.2.2), H2.out.1, H2.out.2.1, H2.out.2.2.1, H2.out.2.2.2.1⟩
            case measure => simp [RowKit.intOf]; omega
          | error l =>
            rintro e w2 ⟨⟨rfl, hi2⟩, hb2, hf2⟩
            have hkeep : w2.cell? ⟨wr.heap.size, 0, none⟩ = some (.int .i64 (num : Int)) := by
              have h1 := hf2 wr.heap.size (Nat.le_trans H0.out.2.1 HA.out.2.2.2.2.2.2.2) HA.out.2.2.2.2.2.2.1.lt
              have h2 : w2.cell? ⟨wr.heap.size, 0, none⟩ = wa.cell? ⟨wr.heap.size, 0, none⟩ := by unfold World.cell?; rw [h1]
              exact h2.trans c0
            have H2 := Lib.hid (And.intro hi2 (And.intro (HA.out.2.2.1.trans hb2) hst2))
            clear hi2 hb2 hf2 hst2 c0 c1 c2 c3 hlk2
            rcases l with _ | ⟨j, l⟩
            · rw [show eV b [] = .iface 149 (.pointer (some b)) from rfl]
              go_wp2_with fail
              go_ret
              refine ⟨st, some [(num : Int)], ?_, rfl, H2.out.1, H2.out.2.1⟩
              rw [← HR.out]; unfold takeP; rw [hp]
              exact HA.out.2.2.2.2.1.trans (takes_err HA.out.2.2.2.2.2.1 H2.out.2.2)
            · rw [show eV b (j :: l) = .iface 117 (.agg #[.int .i64 j, eV b l]) from rfl]
              go_wp2_with fail
              go_ret
              refine ⟨st, some ((num : Int) :: j :: l), ?_, rfl, H2.out.1, H2.out.2.1⟩
              rw [← HR.out]; unfold takeP; rw [hp]
              exact HA.out.2.2.2.2.1.trans (takes_err HA.out.2.2.2.2.2.1 H2.out.2.2)
      · obtain rfl : k = L := by omega
        have HF := Lib.hid (And.intro htk (And.intro hst hbw))
        clear htk hst hrx hbw hsw
        go_wp2_with fail
        go_ret
        refine ⟨st, none, ?_, rfl, HF.out.2.1, HF.out.2.2⟩
        rw [← HR.out]; unfold takeP; rw [hp]
        show takes step st0 fs = (st, none)
        rw [HF.out.1, List.drop_of_length_le (by have := HL.out; omega)]; rfl
set_option maxRecDepth 100000 in
set_option maxHeartbeats 2000000 in
theorem takeMsg_on {σ : Type} (P : σ → Fd → Prop) (I : σ → World → Prop) (step : σ → Fd → Except (List Int) σ) (C : Int → Option Value) (M base B0 : Nat) (g b : Addr)
    (hI : ∀ st w w', I st w → Below w.heap.size w w' → I st w') (hIM : ∀ st w, I st w → Tks w M C ∧ Gv g w ∧ Gn b w)
    (hT : ∀ st w f, I st w → P st f → (C f.num = none → step st f = .ok st) ∧ ∀ v, C f.num = some v → ∃ b2 b3, v = clo b2 b3 ∧ Calls Tryd.prog 68 #[fV f, .pointer (some ⟨b2, 0, none⟩), .pointer (some ⟨b3, 0, none⟩)] w (TkPost I (step st f) st base B0 b w))
    (hno : ∀ (k : Int), (C k).isSome = true → iOk k) (st0 : σ) (kind : Nat) (hkd : 1 ≤ kind ∧ kind ≤ 4) (s : ByteArray) (w : World) (h0 : I st0 w) (hs : s.size ≤ 1099511627776) (hB : B0 ≤ w.heap.size) (hb0 : base ≤ B0) (hnum : ∀ l fs, parse l = some fs → ∀ f ∈ fs, iOk (f.num : Int)) (hP : kindL s.data.toList = kind → ∀ fs, parse (s.data.toList.drop 1) = some fs → ∀ (k : Nat) st f, fs[k]? = some f → takes step st0 fs = takes step st (fs.drop k) → P st f) :
    Calls Tryd.prog 36 #[.int .i64 (kind : Int), .string s, .map (some M)] w fun e w' => ∃ st' o, msgP step st0 kind s.data.toList = (st', o) ∧ e = .returned (oV b o) ∧ I st' w' ∧ Below base w w' := by
  obtain ⟨r, hr⟩ : ∃ r, msgP step st0 kind s.data.toList = r := ⟨_, rfl⟩
  rw [hr]
  have HK := Lib.hid (kind_any s w)
  by_cases hk : kindL s.data.toList = kind
  · have hsz : 0 < s.size := by
      rcases Nat.eq_zero_or_pos s.size with h | h
      · obtain rfl := ba_nil h
        have : kindL (⟨#[]⟩ : ByteArray).data.toList = 0 := rfl
        omega
      · exact h
    rw [hk] at HK
    have HTA := Lib.hid (fun w1 (hb : Below w.heap.size w w1) => takeAll_on P I step C M base B0 g b hI hIM hT hno st0 (s.extract 1 s.size) w1 (hI _ _ _ h0 hb) (by rw [ByteArray.size_extract]; omega) (Nat.le_trans hB hb.size) hb0 (fun fs h f hf => hnum _ fs h f hf) (fun fs h => hP hk fs (by rw [← drop1]; exact h)))
    have HR := Lib.hid (show takeP step st0 (s.extract 1 s.size).data.toList = r by rw [← hr, drop1]; unfold msgP; rw [if_pos hk])
    have HH := Lib.hid (Nat.le_trans hb0 hB)
    have hkk : kind = kind := rfl
    have hs1 : (1 : Int) ≤ (s.size : Int) := by omega
    clear hI hIM hT hno h0 hs hB hb0 hr hk hnum hP hkk
    go_enter Tryd.func36, Tryd.ntmps36
    go_wp2_with fail
    refine HK.out.mono ?_
    rintro e w1 ⟨rfl, hb⟩
    have HC := Lib.hid (HTA.out w1 hb)
    have HB := Lib.hid (hb.mono HH.out)
    clear hb
    go_wp2_with fail
    refine HC.out.mono ?_
    rintro e w2 ⟨st', o, hro, rfl, hi, hb⟩
    have HZ := Lib.hid (And.intro (HR.out.symm.trans hro) (And.intro hi (HB.out.trans hb)))
    clear hro hi hb
    go_wp2_with fail
    go_ret
    exact ⟨st', o, HZ.out.1, rfl, HZ.out.2.1, HZ.out.2.2⟩
  · have HR := Lib.hid (show r = (st0, some []) by rw [← hr]; unfold msgP; rw [if_neg hk])
    obtain ⟨K, hK⟩ : ∃ K, kindL s.data.toList = K := ⟨_, rfl⟩
    rw [hK] at HK hk
    have hq : ((K : Int) == (kind : Int)) = false := by simpa using fun h => hk (by omega)
    have hq2 : (K == kind) = false := by simpa using hk
    have HN := Lib.hid (fun w1 (hb : Below w.heap.size w w1) => And.intro (hI _ _ _ h0 hb) ((hIM _ _ (hI _ _ _ h0 hb)).2.2.1))
    have HH := Lib.hid (Nat.le_trans hb0 hB)
    clear hI hIM hT hno h0 hs hB hb0 hr hK hnum hP
    go_enter Tryd.func36, Tryd.ntmps36
    go_wp2_with fail
    refine HK.out.mono ?_
    rintro e w1 ⟨rfl, hb⟩
    have c0 := (HN.out w1 hb).2
    have HZ := Lib.hid (And.intro (HN.out w1 hb).1 (hb.mono HH.out))
    clear hb
    go_wp2_with fail
    go_ret
    exact ⟨st0, some [], HR.out, rfl, HZ.out.1, HZ.out.2⟩
end Go.Proofs.YtbflbgnafdbngaaDoor
