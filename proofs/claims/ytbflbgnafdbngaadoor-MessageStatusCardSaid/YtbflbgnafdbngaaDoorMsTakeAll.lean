/- message: takeAll, takeMessage, whatever the takers do. -/
import Derived.Test.YtbflbgnafdbngaaDoorMsTaker
import Derived.Test.YtbflbgnafdbngaaDoorKeyMap
import Derived.DeepKeys4
import Derived.Maps.Keyed
namespace Go.Proofs.YtbflbgnafdbngaaDoor
open Go.RowKit Go.Lib Go.WideMaps Go.Maps

theorem Tryd.miLaw : Keyed Tryd.prog 3 := int_keyed Tryd.underlying3
def iOk (k : Int) : Prop := -9223372036854775808 ≤ k ∧ k ≤ 9223372036854775807
theorem iKey (k : Int) (h : iOk k) : keyOf Tryd.prog 3 (.int .i64 k) = some (.int .i64 k) := by
  obtain ⟨h1, h2⟩ := h
  refine keyOf_int_mk Tryd.underlying3 ?_
  have e1 : IntKind.i64.min = -9223372036854775808 := by kernel_rfl
  have e2 : IntKind.i64.max = 9223372036854775807 := by kernel_rfl
  simp only [Lit.wf, e1, e2, Bool.and_eq_true, decide_eq_true_eq]; exact ⟨h1, h2⟩
/-- The takers at M. -/
abbrev Tks (w : World) (M : Nat) (C : Int → Option Value) : Prop := KMap (fun k : Int => Value.int .i64 k) iOk w M C
theorem Tryd.zeroTaker (w : World) : (zeroValue 85).run Tryd.prog w = .ok .nilFunc w := by kernel_rfl
theorem tks_look {w : World} {M : Nat} {C : Int → Option Value} (h : Tks w M C) (k : Int) (hk : iOk k) :
    (Instr.lookup 91 (.map (some M)) (.int .i64 k) true).run Tryd.prog w = .ok (.tuple #[(C k).getD .nilFunc, .bool (C k).isSome]) w :=
  KMap.lookup (P := Tryd.prog) (t := 91) (k := 3) (e := 85) (lit := fun x => .int .i64 x) h Tryd.miLaw iKey (fun h => by injection h) Tryd.underlying91 (Tryd.zeroTaker w) hk true
/-- What comes of fields that are taken one behind the other. -/
def takes {σ : Type} (step : σ → Fd → Except (List Int) σ) : σ → List Fd → σ × Option (List Int)
  | st, [] => (st, none)
  | st, f :: r =>
    match step st f with
    | .ok st' => takes step st' r
    | .error l => (st, some ((f.num : Int) :: l))
def takeP {σ : Type} (step : σ → Fd → Except (List Int) σ) (st : σ) (l : List UInt8) : σ × Option (List Int) :=
  match parse l with
  | none => (st, some [])
  | some fs => takes step st fs
theorem takes_ok {σ : Type} {step : σ → Fd → Except (List Int) σ} {st st' : σ} {fs : List Fd} {k : Nat} {f : Fd} (hx : fs[k]? = some f) (h : step st f = .ok st') : takes step st (fs.drop k) = takes step st' (fs.drop (k + 1)) := by
  obtain ⟨hl, he⟩ := List.getElem?_eq_some_iff.1 hx
  rw [List.drop_eq_getElem_cons hl, he]
  simp only [takes, h]
theorem takes_err {σ : Type} {step : σ → Fd → Except (List Int) σ} {st : σ} {fs : List Fd} {k : Nat} {f : Fd} {l : List Int} (hx : fs[k]? = some f) (h : step st f = .error l) : takes step st (fs.drop k) = (st, some ((f.num : Int) :: l)) := by
  obtain ⟨hl, he⟩ := List.getElem?_eq_some_iff.1 hx
  rw [List.drop_eq_getElem_cons hl, he]
  simp only [takes, h]
/-- What a taker does with a field. -/
def TkPost {σ : Type} (I : σ → World → Prop) (r : Except (List Int) σ) (st : σ) (base B0 : Nat) (b : Addr) (w : World) (e : Ending) (w' : World) : Prop :=
  (match r with | .ok st' => e = .returned .nilIface ∧ I st' w' | .error l => e = .returned (eV b l) ∧ I st w') ∧ Below base w w' ∧ ∀ k, B0 ≤ k → k < w.heap.size → w'.heap[k]? = w.heap[k]?
/-- Fields in a row of the call's own. -/
def RowX (w : World) (a : Option Addr) (fs : List Fd) (B0 : Nat) : Prop := ∀ (i : Nat) (f : Fd), fs[i]? = some f → ∃ g, a = some ⟨g, 0, none⟩ ∧ B0 ≤ g ∧ g < w.heap.size ∧
  w.cell? ⟨g, i * 4, none⟩ = some (.int .i64 (f.num : Int)) ∧ w.cell? ⟨g, i * 4 + 1, none⟩ = some (.int .i64 (f.kind : Int)) ∧ w.cell? ⟨g, i * 4 + 2, none⟩ = some (.int .u64 (f.n : Int)) ∧ w.cell? ⟨g, i * 4 + 3, none⟩ = some (.string ⟨f.s.toArray⟩)
theorem RowX.far {w w' : World} {a : Option Addr} {fs : List Fd} {B0 : Nat} (h : RowX w a fs B0) (hs : w.heap.size ≤ w'.heap.size) (hf : ∀ k, B0 ≤ k → k < w.heap.size → w'.heap[k]? = w.heap[k]?) : RowX w' a fs B0 := by
  intro i f hi
  obtain ⟨g, ha, hb, hg, h0, h1, h2, h3⟩ := h i f hi
  have hc : ∀ o, w'.cell? ⟨g, o, none⟩ = w.cell? ⟨g, o, none⟩ := fun o => by unfold World.cell?; rw [hf g hb hg]
  exact ⟨g, ha, hb, by omega, (hc _).trans h0, (hc _).trans h1, (hc _).trans h2, (hc _).trans h3⟩
theorem own_lowr {w : World} {base base' e size n : Nat} {v : Value} {xs : List Value} (h : w.ownsRow base e size v n xs) (hb : base' ≤ base) : w.ownsRow base' e size v n xs :=
  ⟨h.1, h.2.imp id fun ⟨g, cap, cur, h1, h2, h3⟩ => ⟨g, cap, cur, h1, Nat.le_trans hb h2, h3⟩⟩
theorem own_max {w : World} {base e size n : Nat} {v : Value} {xs : List Value} (h : w.ownsRow base e size v n xs) : n ≤ 9223372036854775807 := by
  rcases h.2 with ⟨_, h0⟩ | ⟨g, cap, cur, _, _, _, h1, h2, _⟩
  · omega
  · unfold maxLen at h2; omega
theorem rowx_of {w : World} {B0 n c : Nat} {a : Option Addr} {fs : List Fd} (h : w.ownsRow B0 59 4 (.slice a n c) n (fdCells fs)) (hn : fs.length = n) : RowX w a fs B0 := by
  intro i f hi
  obtain ⟨hl, rfl⟩ := List.getElem?_eq_some_iff.1 hi
  obtain ⟨q, hq⟩ : ∃ q, n = q + 1 := ⟨n - 1, by omega⟩
  have h' := h
  rw [hq] at h'
  obtain ⟨g, cap, he⟩ := ownsRow_succ h'
  injection he with e1 e2 e3
  subst e1
  have hb := (h.lt g rfl)
  have hcell : ∀ j, j < 4 → w.cell? ⟨g, i * 4 + j, none⟩ = (fs[i].cells)[j]? := fun j hj => by
    rw [h.cellAt (i * 4 + j) (by omega), fdCells_at hl hj]
  exact ⟨g, rfl, hb.1, hb.2, hcell 0 (by omega), hcell 1 (by omega), hcell 2 (by omega), hcell 3 (by omega)⟩

set_option maxRecDepth 100000 in
set_option maxHeartbeats 4000000 in
theorem takeAll_any {σ : Type} (I : σ → World → Prop) (step : σ → Fd → Except (List Int) σ) (C : Int → Option Value) (M base B0 : Nat) (g b : Addr)
    (hI : ∀ st w w', I st w → Below w.heap.size w w' → I st w') (hIM : ∀ st w, I st w → Tks w M C ∧ Gv g w ∧ Gn b w)
    (hT : ∀ st w f, I st w → (C f.num = none → step st f = .ok st) ∧ ∀ v, C f.num = some v → ∃ b2 b3, v = clo b2 b3 ∧ Calls Tryd.prog 68 #[fV f, .pointer (some ⟨b2, 0, none⟩), .pointer (some ⟨b3, 0, none⟩)] w (TkPost I (step st f) st base B0 b w))
    (hno : ∀ (k : Int), (C k).isSome = true → iOk k) (st0 : σ) (s : ByteArray) (w : World) (h0 : I st0 w) (hs : s.size ≤ 1099511627776) (hB : B0 ≤ w.heap.size) (hb0 : base ≤ B0) (hnum : ∀ fs, parse s.data.toList = some fs → ∀ f ∈ fs, iOk (f.num : Int)) :
    Calls Tryd.prog 53 #[.string s, .map (some M)] w fun e w' => ∃ st' o, takeP step st0 s.data.toList = (st', o) ∧ e = .returned (oV b o) ∧ I st' w' ∧ Below base w w' := by
  have HPA := Lib.hid (parse_any s g w hs (hIM _ _ h0).2.1)
  have HI := Lib.hid hI
  have HM := Lib.hid hIM
  have HT := Lib.hid hT
  have H0 := Lib.hid (And.intro h0 (And.intro hB hb0))
  have HNU := Lib.hid hnum
  clear hI hIM hT h0 hs hB hb0 hno hnum
  obtain ⟨r, hr⟩ : ∃ r, takeP step st0 s.data.toList = r := ⟨_, rfl⟩
  rw [hr]
  have HR := Lib.hid hr
  clear hr
  go_enter Tryd.func53, Tryd.ntmps53
  go_wp2_with fail
  refine HPA.out.mono ?_
  cases hp : parse s.data.toList with
  | none =>
    rintro e w1 ⟨rfl, hb⟩
    have h1 := HI.out _ _ _ H0.out.1 hb
    have c0 := (HM.out _ _ h1).2.2.1
    have H1 := Lib.hid (And.intro h1 (hb.mono (Nat.le_trans H0.out.2.2 H0.out.2.1)))
    clear h1 hb
    go_wp2_with fail
    go_ret
    exact ⟨st0, some [], by rw [← HR.out]; unfold takeP; rw [hp], rfl, H1.out.1, H1.out.2⟩
  | some fs =>
    rintro e w1 ⟨⟨v, rfl, hrow⟩, hb⟩
    obtain ⟨a, c, rfl⟩ := owns_slice hrow
    have h1 := HI.out _ _ _ H0.out.1 hb
    have hR : RowX w1 a fs B0 := rowx_of (own_lowr hrow H0.out.2.1) rfl
    have H1 := Lib.hid (And.intro h1 (And.intro hR (hb.mono (Nat.le_trans H0.out.2.2 H0.out.2.1))))
    have hs1 := hb.size
    have HNF := Lib.hid (HNU.out fs hp)
    have hmax := own_max hrow
    obtain ⟨L, hL⟩ : ∃ L, fs.length = L := ⟨_, rfl⟩
    rw [hL] at hmax ⊢
    have HL := Lib.hid hL
    have HSZ := Lib.hid hs1
    clear h1 hR hrow hb hL hs1 HNU
    go_wp2_with fail
    go_loopw [22] (fun i wr => ∃ (k : Nat) (st : σ), k ≤ L ∧ i = .int .i64 (k : Int) ∧ takes step st0 fs = takes step st (fs.drop k) ∧ I st wr ∧ RowX wr a fs B0 ∧ Below base w wr ∧ w.heap.size ≤ wr.heap.size) (fun i _ => L - (RowKit.intOf i).toNat)
    case atStart => exact ⟨0, st0, Nat.zero_le _, rfl, rfl, H1.out.1, H1.out.2.1, H1.out.2.2, HSZ.out⟩
    case round =>
      obtain ⟨k, st, hk, rfl, htk, hst, hrx, hbw, hsw⟩ := hrel
      by_cases hlt : k < L
      · have b0 : (0 : Int) ≤ (k : Int) := by omega
        have b1 : (k : Int) < (L : Int) := by omega
        obtain ⟨f, hx⟩ : ∃ f, fs[k]? = some f := ⟨_, List.getElem?_eq_getElem (by have := HL.out; omega)⟩
        obtain ⟨g0, rfl, hgB, hgl, p0, p1, p2, p3⟩ := hrx k f hx
        obtain ⟨wa, hwa, hba, pa⟩ := alloc_new wr #[.int .i64 (f.num : Int), .int .i64 (f.kind : Int), .int .u64 (f.n : Int), .string ⟨f.s.toArray⟩] 59
        have hia := HI.out _ _ _ hst hba
        have hlk := tks_look (HM.out _ _ hia).1 f.num (HNF.out f (List.mem_of_getElem? hx))
        have HTT := Lib.hid (HT.out st wa f hia)
        have hxa : RowX wa (some ⟨g0, 0, none⟩) fs B0 := hrx.far hba.size (fun q _ hq => hba.block q hq)
        have HA := Lib.hid (And.intro hia (And.intro hxa (And.intro (hbw.trans (hba.mono (Nat.le_trans (Nat.le_trans H0.out.2.2 H0.out.2.1) hsw))) (And.intro (Nat.le_trans hsw hba.size) (And.intro htk (And.intro hx (And.intro pa hsw)))))))
        have HWA := Lib.hid hwa
        have c0 : wa.cell? ⟨wr.heap.size, 0, none⟩ = some (.int .i64 (f.num : Int)) := pa.cell 0
        have c1 : wa.cell? ⟨wr.heap.size, 1, none⟩ = some (.int .i64 (f.kind : Int)) := pa.cell 1
        have c2 : wa.cell? ⟨wr.heap.size, 2, none⟩ = some (.int .u64 (f.n : Int)) := pa.cell 2
        have c3 : wa.cell? ⟨wr.heap.size, 3, none⟩ = some (.string ⟨f.s.toArray⟩) := pa.cell 3
        obtain ⟨num, kind, nn, ss⟩ := f
        dsimp only at c0 c1 c2 c3 p0 p1 p2 p3 hlk
        clear hwa hba pa hia hxa hst hrx hbw hsw htk hx
        cases hC : C (num : Int) with
        | none =>
          rw [hC] at hlk
          have hlk2 : (Instr.lookup 91 (.map (some M)) (.int .i64 (num : Int)) true).run Tryd.prog wa = .ok (.tuple #[.nilFunc, .bool false]) wa := hlk
          have HST := Lib.hid (HTT.out.1 hC)
          clear hlk
          go_wp2_with (rw [HWA.out])
          go_roundw
          case rel => exact ⟨k + 1, st, by omega, by go_num, HA.out.2.2.2.2.1.trans (takes_ok HA.out.2.2.2.2.2.1 HST.out), HA.out.1, HA.out.2.1, HA.out.2.2.1, HA.out.2.2.2.1⟩
          case measure => simp [RowKit.intOf]; omega
        | some v =>
          obtain ⟨b2, b3, rfl, hcall⟩ := HTT.out.2 v hC
          rw [hC] at hlk
          have hlk2 : (Instr.lookup 91 (.map (some M)) (.int .i64 (num : Int)) true).run Tryd.prog wa = .ok (.tuple #[clo b2 b3, .bool true]) wa := hlk
          have hent : ∀ (args : Array Value) (w : World), (callFunc 68 args).run Tryd.prog w = .ok (.enter 68 args) w := enters_of Tryd.func68 (by kernel_rfl) rfl
          have HC := Lib.hid hcall
          clear hlk hcall
          go_wp2_with (rw [HWA.out])
          refine HC.out.mono ?_
          cases hst2 : step st ⟨num, kind, nn, ss⟩ with
          | ok st2 =>
            rintro e w2 ⟨⟨rfl, hi2⟩, hb2, hf2⟩
            have H2 := Lib.hid (And.intro hi2 (And.intro (HA.out.2.1.far hb2.size hf2) (And.intro (HA.out.2.2.1.trans hb2) (And.intro (Nat.le_trans HA.out.2.2.2.1 hb2.size) hst2))))
            clear hi2 hb2 hf2 hst2
            go_wp2_with fail
            go_roundw
            case rel => exact ⟨k + 1, st2, by omega, by go_num, HA.out.2.2.2.2.1.trans (takes_ok HA.out.2.2.2.2.2.1 H2.out.2.2.2.2), H2.out.1, H2.out.2.1, H2.out.2.2.1, H2.out.2.2.2.1⟩
            case measure => simp [RowKit.intOf]; omega
          | error l =>
            rintro e w2 ⟨⟨rfl, hi2⟩, hb2, hf2⟩
            have hkeep : w2.cell? ⟨wr.heap.size, 0, none⟩ = some (.int .i64 (num : Int)) := by
              have h1 := hf2 wr.heap.size (Nat.le_trans H0.out.2.1 HA.out.2.2.2.2.2.2.2) HA.out.2.2.2.2.2.2.1.lt
              have h2 : w2.cell? ⟨wr.heap.size, 0, none⟩ = wa.cell? ⟨wr.heap.size, 0, none⟩ := by unfold World.cell?; rw [h1]
              exact h2.trans c0
            have H2 := Lib.hid (And.intro hi2 (And.intro (HA.out.2.2.1.trans hb2) hst2))
            clear hi2 hb2 hf2 hst2 c0 c1 c2 c3 hlk2
            rcases l with _ | ⟨j, l⟩
            · rw [show eV b [] = .iface 149 (.pointer (some b)) from rfl]
              go_wp2_with fail
              go_ret
              refine ⟨st, some [(num : Int)], ?_, rfl, H2.out.1, H2.out.2.1⟩
              rw [← HR.out]; unfold takeP; rw [hp]
              exact HA.out.2.2.2.2.1.trans (takes_err HA.out.2.2.2.2.2.1 H2.out.2.2)
            · rw [show eV b (j :: l) = .iface 117 (.agg #[.int .i64 j, eV b l]) from rfl]
              go_wp2_with fail
              go_ret
              refine ⟨st, some ((num : Int) :: j :: l), ?_, rfl, H2.out.1, H2.out.2.1⟩
              rw [← HR.out]; unfold takeP; rw [hp]
              exact HA.out.2.2.2.2.1.trans (takes_err HA.out.2.2.2.2.2.1 H2.out.2.2)
      · obtain rfl : k = L := by omega
        have HF := Lib.hid (And.intro htk (And.intro hst hbw))
        clear htk hst hrx hbw hsw
        go_wp2_with fail
        go_ret
        refine ⟨st, none, ?_, rfl, HF.out.2.1, HF.out.2.2⟩
        rw [← HR.out]; unfold takeP; rw [hp]
        show takes step st0 fs = (st, none)
        rw [HF.out.1, List.drop_of_length_le (by have := HL.out; omega)]; rfl
end Go.Proofs.YtbflbgnafdbngaaDoor
