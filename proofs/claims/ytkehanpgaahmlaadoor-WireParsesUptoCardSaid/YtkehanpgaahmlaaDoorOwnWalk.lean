/- WireParses: fields put by the law itself: the walk of its loop. -/
import Derived.Test.YtkehanpgaahmlaaDoorParsesWalk
import Derived.Test.YtkehanpgaahmlaaDoorPutsWalk
import Derived.RegionTactic
import Derived.BigRegion
import Derived.Deep.DeepCutAuto
namespace Go.Proofs.YtkehanpgaahmlaaDoor.lawParses
open Go.ChangeShapes Go.WideShapes Go.ChangeAt Go.RowKit
open Go.Proofs.YtkehanpgaahmlaaDoor.lawPuts (own_some rowG_new putB refPut_any)

/-- A row of fields from some place on. -/
def RowO (W : World) (g o : Nat) (gs : List Gd) : Prop :=
  g < W.heap.size ∧ ∀ i (h : i < gs.length), W.cell? ⟨g, o + i * 4, none⟩ = some (.int .i64 gs[i].num) ∧ W.cell? ⟨g, o + i * 4 + 1, none⟩ = some (.int .i64 gs[i].kind) ∧ W.cell? ⟨g, o + i * 4 + 2, none⟩ = some (.int .u64 gs[i].n) ∧ W.cell? ⟨g, o + i * 4 + 3, none⟩ = some (.string gs[i].s)
theorem RowO.below {W W' : World} {g o : Nat} {gs : List Gd} (h : RowO W g o gs) (hb : Below W.heap.size W W') : RowO W' g o gs :=
  ⟨Nat.lt_of_lt_of_le h.1 hb.size, fun i hi => by
    obtain ⟨h0, h1, h2, h3⟩ := h.2 i hi
    have e : ∀ o, W'.cell? ⟨g, o, none⟩ = W.cell? ⟨g, o, none⟩ := fun o => hb.cell (p := ⟨g, o, none⟩) h.1
    exact ⟨(e _).trans h0, (e _).trans h1, (e _).trans h2, (e _).trans h3⟩⟩
theorem Tryd.make8 (w : World) : (Instr.makeSlice 42 (.int .i64 8) (.int .i64 8)).run Tryd.prog w = .ok (.slice (some ⟨w.heap.size, 0, none⟩) 8 8) (w.alloc (.cells #[.int .u8 0, .int .u8 0, .int .u8 0, .int .u8 0, .int .u8 0, .int .u8 0, .int .u8 0, .int .u8 0] 5)) := by kernel_rfl
theorem Four.set2 {W : World} {B : Nat} {c0 c1 c2 c3 : Value} (h : Four W B c0 c1 c2 c3) (v : Value) : Four (W.setCell ⟨B, 2, none⟩ v) B c0 c1 v c3 := by
  obtain ⟨h0, h1, h2, h3, h4, h5, h6, h7, h8⟩ := h
  refine ⟨?_, ?_, World.cell?_setCell_same _ _ _ h2, ?_, by simpa using h4, by simpa using h5, by simpa using h6, by simpa using h7, by simpa using h8⟩
  · rw [World.cell?_setCell_other _ _ _ _ (by simp)]; exact h0
  · rw [World.cell?_setCell_other _ _ _ _ (by simp)]; exact h1
  · rw [World.cell?_setCell_other _ _ _ _ (by simp)]; exact h3
theorem Four.set3 {W : World} {B : Nat} {c0 c1 c2 c3 : Value} (h : Four W B c0 c1 c2 c3) (v : Value) : Four (W.setCell ⟨B, 3, none⟩ v) B c0 c1 c2 v := by
  obtain ⟨h0, h1, h2, h3, h4, h5, h6, h7, h8⟩ := h
  refine ⟨?_, ?_, ?_, World.cell?_setCell_same _ _ _ h3, by simpa using h4, by simpa using h5, by simpa using h6, by simpa using h7, by simpa using h8⟩
  · rw [World.cell?_setCell_other _ _ _ _ (by simp)]; exact h0
  · rw [World.cell?_setCell_other _ _ _ _ (by simp)]; exact h1
  · rw [World.cell?_setCell_other _ _ _ _ (by simp)]; exact h2
theorem four_drew {W : World} {B : Nat} {c0 c1 c2 c3 : Value} (h : Four W B c0 c1 c2 c3) : Four W.drew B c0 c1 c2 c3 := h.below (below_drewN (Below.refl _ _) 1)
theorem putB_size (num kind : Int) (n : Nat) (s : ByteArray) : (putB num kind n s).size ≤ 20 + s.size := by
  have h1 := (vnt_len n).2
  have h2 := (vnt_len (num.toNat * 8 + kind.toNat)).2
  have h3 := (vnt_len s.size).2
  have hl : s.data.toList.length = s.size := by simp
  unfold putB
  split
  · show (List.toArray _).size ≤ _
    rw [List.size_toArray]
    unfold putL
    split
    · simp only [List.length_append]; omega
    · split
      · simp only [List.length_append]; omega
      · simp only [List.length_append]; omega
  · show 0 ≤ _; omega
abbrev m8 : Obj := .cells #[.int .u8 0, .int .u8 0, .int .u8 0, .int .u8 0, .int .u8 0, .int .u8 0, .int .u8 0, .int .u8 0] 5
abbrev l6 : Obj := .cells #[.int .i64 0, .int .i64 8, .int .i64 0, .int .i64 0, .int .i64 0, .int .i64 4] 3
def z8 : ByteArray := ⟨#[0, 0, 0, 0, 0, 0, 0, 0]⟩
theorem conv8 (W : World) (g : Nat) (h : ∀ j, j < 8 → W.cell? ⟨g, j, none⟩ = some (.int .u8 0)) : (convert 42 9 (.slice (some ⟨g, 0, none⟩) 8 8)).run Tryd.prog W = .ok (.string z8) W := by
  refine run_convert_bytes_back W 42 9 5 ⟨g, 0, none⟩ 8 [0, 0, 0, 0, 0, 0, 0, 0] Tryd.underlying42 Tryd.underlying5 Tryd.underlying9 fun j hj => ?_
  have e : (⟨g, 0, none⟩ : Addr).add j = ⟨g, j, none⟩ := by unfold Addr.add; split <;> simp_all
  have h8 : j < 8 := by simpa using hj
  rw [e, h j h8]
  have : j = 0 ∨ j = 1 ∨ j = 2 ∨ j = 3 ∨ j = 4 ∨ j = 5 ∨ j = 6 ∨ j = 7 := by omega
  rcases this with rfl | rfl | rfl | rfl | rfl | rfl | rfl | rfl <;> rfl
theorem m8_at (W : World) (j : Nat) (hj : j < 8) : (W.alloc m8).cell? ⟨W.heap.size, j, none⟩ = some (.int .u8 0) := by
  rw [World.cell?_alloc_mark]
  have : j = 0 ∨ j = 1 ∨ j = 2 ∨ j = 3 ∨ j = 4 ∨ j = 5 ∨ j = 6 ∨ j = 7 := by omega
  rcases this with rfl | rfl | rfl | rfl | rfl | rfl | rfl | rfl <;> rfl
theorem conv8a (W : World) : (convert 42 9 (.slice (some ⟨W.heap.size, 0, none⟩) 8 8)).run Tryd.prog (W.alloc m8).drew = .ok (.string z8) (W.alloc m8).drew := conv8 _ _ (m8_at W)
theorem conv8b (W : World) : (convert 42 9 (.slice (some ⟨W.heap.size + 1, 0, none⟩) 8 8)).run Tryd.prog ((W.alloc l6).alloc m8).drew = .ok (.string z8) ((W.alloc l6).alloc m8).drew :=
  conv8 _ _ fun j hj => by have h := m8_at (W.alloc l6) j hj; simpa using h
theorem conv8c (W : World) : (convert 42 9 (.slice (some ⟨W.heap.size, 0, none⟩) 8 8)).run Tryd.prog ((W.alloc m8).alloc l6).drew = .ok (.string z8) ((W.alloc m8).alloc l6).drew :=
  conv8 _ _ fun j hj => (((Below.refl _ _).alloc (Nat.le_refl _) l6).cell (p := ⟨W.heap.size, j, none⟩) (by simp)).trans (m8_at W j hj)
theorem u64_nat (x : Int) : ∃ n : Nat, IntKind.u64.wrap x = (n : Int) ∧ n < 18446744073709551616 := by
  obtain ⟨h1, h2⟩ := u64_range x
  exact ⟨(IntKind.u64.wrap x).toNat, by omega, by omega⟩
set_option maxRecDepth 100000 in
set_option maxHeartbeats 8000000 in
theorem walk_own (a0 : Option Addr) (L cap : Nat) (gs : List Gd) (s : ByteArray) (p : Int) (y : Nat) (num : Int) (b : Addr) (w : World) (hg : Gv b w) (hL : gs.length = L) (hLm : L ≤ maxLen) (hgs : ∀ g ∈ gs, g.s.size ≤ 1048576 ∧ g.n < 2 ^ 64)
    (hp1 : -9223372036854775808 ≤ p) (hp2 : p ≤ 9223372036854775807)
    (ha : 0 < L → ∃ sb so, a0 = some ⟨sb, so, none⟩ ∧ RowO w sb so gs) :
    Calls Tryd.prog 5 #[.slice a0 L cap, .string s, .bool true, .int .i64 p, .int .u8 y, .int .i64 num] w fun e w' => e = .returned (.bool true) ∧ Below w.heap.size w w' := by
  have HL := Lib.hid hL; clear hL
  have HLM := Lib.hid hLm; clear hLm
  have HGS := Lib.hid hgs; clear hgs
  have HA := Lib.hid ha; clear ha
  have HP := Lib.hid (And.intro hp1 hp2); clear hp1 hp2
  go_enter Tryd.func5, Tryd.ntmps5
  go_wp2_with fail
  refine (examples_any b _ hg).mono ?_
  rintro e w0 ⟨rfl, hb0⟩
  go_wp2_with fail
  go_loopw [1, 14] (fun sv i wr => ∃ (k : Nat) (T : ByteArray), k ≤ L ∧ k ≤ 8 ∧ i = .int .i64 k ∧ sv = .string T ∧ T.size ≤ 1048700 * k ∧ Below w.heap.size w wr) (fun _ i _ => 8 - (intOf i).toNat)
  case atStart => exact ⟨0, _, by omega, by omega, rfl, rfl, by decide, hb0⟩
  case round =>
    clear hb0
    obtain ⟨k, T, hk, hk8, rfl, rfl, hTs, hb⟩ := hrel
    have hbs := hb.size
    have hgw := hg.below hb
    have hLM : (L : Int) ≤ 9223372036854775807 := by have := HLM.out; unfold maxLen at this; omega
    by_cases hlt : k < L
    · by_cases h8 : k < 8
      · have hkz : k < gs.length := by have := HL.out; omega
        obtain ⟨sb, so, ea, hro⟩ := HA.out (by omega)
        subst ea
        have hrw := hro.below (W' := wr) hb
        obtain ⟨p0, p1, p2, p3⟩ := hrw.2 k hkz
        have hsbw := hrw.1
        obtain ⟨hGs, hGn⟩ := HGS.out gs[k] (List.getElem_mem _)
        clear hro hrw
        generalize gs[k] = G at p0 p1 p2 p3 hGs hGn
        clear hkz
        have HGn := Lib.hid hGn; clear hGn
        obtain ⟨Kw, hKw, _⟩ := u64_nat G.kind
        obtain ⟨Nw, hNw, _⟩ := u64_nat G.num
        obtain ⟨ν, hν⟩ : ∃ ν, Nw % 20 = ν := ⟨_, rfl⟩
        obtain ⟨κ, hκ⟩ : ∃ κ, Kw % 5 = κ := ⟨_, rfl⟩
        have hν1 : (Nw : Int).tmod 20 = (ν : Int) := by rw [Int.tmod_eq_emod_of_nonneg (by omega)]; omega
        have hν2 : (Nw : Int) % 20 = (ν : Int) := by omega
        have hν3 : ν < 20 := by omega
        have hκ1 : (Kw : Int).tmod 5 = (κ : Int) := by rw [Int.tmod_eq_emod_of_nonneg (by omega)]; omega
        have hκ2 : (Kw : Int) % 5 = (κ : Int) := by omega
        have hκ3 : κ < 5 := by omega
        have e1 : IntKind.i64.wrap (ν : Int) = (ν : Int) := IntWalk.i64_in _ (by omega)
        have e2 : IntKind.i64.wrap (1 + (ν : Int)) = 1 + (ν : Int) := IntWalk.i64_in _ (by omega)
        have j0 : (0 : Int) ≤ (k : Int) := by omega
        have j1 : (k : Int) < (L : Int) := by omega
        clear hν hκ
        have hκc : κ = 0 ∨ κ = 1 ∨ κ = 2 ∨ κ = 3 ∨ κ = 4 := by omega
        obtain ⟨kk, hkk, hkc⟩ : ∃ kk : Int, (#[.int .i64 0, .int .i64 2, .int .i64 2, .int .i64 1, .int .i64 5] : Array Value)[κ]? = some (.int .i64 kk) ∧ (kk = 0 ∨ kk = 1 ∨ kk = 2 ∨ kk = 5) := by
          rcases hκc with rfl | rfl | rfl | rfl | rfl
          · exact ⟨0, rfl, by omega⟩
          · exact ⟨2, rfl, by omega⟩
          · exact ⟨2, rfl, by omega⟩
          · exact ⟨1, rfl, by omega⟩
          · exact ⟨5, rfl, by omega⟩
        have hkl : ∀ (W : World), (W.alloc (.cells #[.int .i64 0, .int .i64 2, .int .i64 2, .int .i64 1, .int .i64 5] 3)).cell? ⟨W.heap.size, κ, none⟩ = some (.int .i64 kk) := fun W => (World.cell?_alloc_mark W _ _ (0, 0) κ).trans hkk
        have j2 : (0 : Int) ≤ (κ : Int) := by omega
        have j3 : (κ : Int) < 5 := by omega
        clear hκ3 hκc
        have HNu := Lib.hid hν3
        have H0 := hgw
        go_upto_region 9 with fail
        go_cut [15] (fun s15 wx => ∃ B : Nat, s15 = .pointer (some ⟨B, 0, none⟩) ∧ w.heap.size ≤ B ∧ Four wx B (.int .i64 (1 + (ν : Int))) (.int .i64 kk) (.int .u64 G.n) (.string G.s) ∧ Below w.heap.size w wx)
        case first =>
          go_region
          all_goals
            go_wp2_with fail
            go_meet
            first
              | (refine ⟨wr.heap.size + 1, rfl, by omega, ?_, below_drewN ((hb.alloc hbs _).alloc (by simp; omega) _) 1⟩; refine ⟨?_, ?_, ?_, ?_, ?_, ?_, ?_, ?_, ?_⟩ <;> first | (simp; done) | (simp; omega))
              | (refine ⟨wr.heap.size, rfl, by omega, ?_, below_drewN ((hb.alloc hbs _).alloc (by simp; omega) _) 1⟩; refine ⟨?_, ?_, ?_, ?_, ?_, ?_, ?_, ?_, ?_⟩ <;> first | (simp; done) | (simp; omega))
        case rest =>
          obtain ⟨B, rfl, hBw, hF, hbx⟩ := hcut
          clear hkk hkl p0 p1 p2 p3
          have hbxs := hbx.size
          obtain ⟨c0, c1, c2, c3, f0, f1, f2, f3, hBl⟩ := id hF
          rcases hkc with rfl | rfl | rfl | rfl
          · have HF8 := Lib.hid hF
            have HB8 := Lib.hid hbx
            go_upto_region 13 with fail
            go_cut [15] (fun s15 wy => s15 = .pointer (some ⟨B, 0, none⟩) ∧ (∃ S : ByteArray, S.size ≤ 8 ∧ Four wy B (.int .i64 (1 + (ν : Int))) (.int .i64 0) (.int .u64 (G.n : Nat)) (.string S)) ∧ Below w.heap.size w wy)
            case first =>
              have hmk := Tryd.make8
              have hca := conv8a wc
              have hcb := conv8b wc
              have hcc := conv8c wc
              have hz8 : z8.size = 8 := rfl
              have hcat : ¬ (9223372036854775807 < G.s.size + z8.size) := by omega
              obtain ⟨Z, hZ⟩ : ∃ Z, G.s ++ z8 = Z := ⟨_, rfl⟩
              have hZs : Z.size = G.s.size + 8 := by rw [← hZ, ByteArray.size_append, hz8]
              have hZ1 : (8 : Int) ≤ (Z.size : Int) := by omega
              have hZ2 : (4 : Int) ≤ (Z.size : Int) := by omega
              have hZ0 : (0 : Int) ≤ (Z.size : Int) := by omega
              have HZS := Lib.hid hZs
              clear hZs hz8
              go_region
              all_goals
                go_wp2_with fail
                go_meet
                refine ⟨rfl, ⟨_, ?_, four_drew (((Four.set3 HF8.out _).alloc _).alloc _)⟩, ?_⟩
                · first | (simp; done) | (simp; omega)
                · exact below_drewN (((HB8.out.setCell (p := ⟨B, 3, none⟩) hBw _).alloc (by have := HB8.out.size; simp; omega) _).alloc (by have := HB8.out.size; simp; omega) _) 1
            case rest =>
              obtain ⟨rfl, ⟨S, hS8, hF9⟩, hB9⟩ := hcut
              have HF9 := Lib.hid hF9; clear hF9
              have HB9 := Lib.hid hB9; clear hB9
              obtain ⟨c0, c1, c2, c3, f0, f1, f2, f3, hBl⟩ := id HF9.out
              go_wp2_with fail
              refine (ref_any _ 1 1 wc.heap.size [⟨1 + (ν : Int), 0, G.n, S⟩] _ rfl (fun _ => rfl) (rowG_new wc ⟨1 + (ν : Int), 0, G.n, S⟩ _) (by omega)).mono ?_
              rintro e w3 ⟨⟨v3, rfl, ho3⟩, hb3⟩
              obtain ⟨g3, cc3, rfl⟩ := own_some ho3 (by omega)
              obtain ⟨hl3, hr3⟩ := rowG_of ho3 rfl
              obtain ⟨r0, r1, r2, r3⟩ := hr3 0 (by simp)
              simp only [List.getElem_cons_zero, Nat.zero_mul, Nat.zero_add] at r0 r1 r2 r3
              have HB10 := Lib.hid ((HB9.out.alloc HB9.out.size (.cells #[.int .i64 (1 + (ν : Int)), .int .i64 0, .int .u64 (G.n : Nat), .string S] 29)).trans (hb3.mono (by have := HB9.out.size; simp; omega)))
              clear hb3 hr3 ho3 c0 c1 c2 c3 f0 f1 f2 f3
              obtain ⟨PP, hPP⟩ : ∃ PP, putB (1 + (ν : Int)) 0 G.n S = PP := ⟨_, rfl⟩
              obtain ⟨oo, hoo⟩ : ∃ oo, okF (1 + (ν : Int)) 0 G.n S = oo := ⟨_, rfl⟩
              have hps := putB_size (1 + (ν : Int)) 0 G.n S
              rw [hPP] at hps
              have HPP := Lib.hid hPP; clear hPP
              have HOO := Lib.hid hoo; clear hoo
              go_wp2_with fail
              refine (refPut_any (1 + (ν : Int)) 0 G.n S PP oo _ HGn.out (by omega) HPP.out HOO.out).mono ?_
              rintro e w4 ⟨rfl, hb4⟩
              have HB11 := Lib.hid (HB10.out.trans (hb4.mono HB10.out.size))
              clear hb4 r0 r1 r2 r3 hl3
              have hcatP : ¬ (9223372036854775807 < T.size + PP.size) := by omega
              have hTP : (T ++ PP).size ≤ 1048700 * (k + 1) := by rw [ByteArray.size_append]; omega
              have HTP := Lib.hid hTP; clear hTP
              go_wp2_with fail
              go_roundw
              case rel => exact ⟨k + 1, T ++ PP, by omega, by omega, by go_num, rfl, HTP.out, HB11.out⟩
              case measure => simp [intOf]; omega
          · go_upto_region 11 with fail
            go_cut [15] (fun s15 wy => s15 = .pointer (some ⟨B, 0, none⟩) ∧ Four wy B (.int .i64 (1 + (ν : Int))) (.int .i64 1) (.int .u64 (0 : Nat)) (.string G.s) ∧ Below w.heap.size w wy)
            case first =>
              go_wp2_with fail
              go_meet
              exact ⟨rfl, Four.set2 hF _, hbx.setCell (p := ⟨B, 2, none⟩) hBw _⟩
            case rest =>
              clear c0 c1 c2 c3 f0 f1 f2 f3
              obtain ⟨rfl, hF8, hB8⟩ := hcut
              obtain ⟨c0, c1, c2, c3, f0, f1, f2, f3, hBl8⟩ := id hF8
              have HF8 := Lib.hid hF8; clear hF8
              have HB8 := Lib.hid hB8; clear hB8
              go_upto_region 13 with fail
              go_cut [15] (fun s15 wy => s15 = .pointer (some ⟨B, 0, none⟩) ∧ (∃ S : ByteArray, S.size ≤ 8 ∧ Four wy B (.int .i64 (1 + (ν : Int))) (.int .i64 1) (.int .u64 (0 : Nat)) (.string S)) ∧ Below w.heap.size w wy)
              case first =>
                have hmk := Tryd.make8
                have hca := conv8a wc
                have hcb := conv8b wc
                have hcc := conv8c wc
                have hz8 : z8.size = 8 := rfl
                have hcat : ¬ (9223372036854775807 < G.s.size + z8.size) := by omega
                obtain ⟨Z, hZ⟩ : ∃ Z, G.s ++ z8 = Z := ⟨_, rfl⟩
                have hZs : Z.size = G.s.size + 8 := by rw [← hZ, ByteArray.size_append, hz8]
                have hZ1 : (8 : Int) ≤ (Z.size : Int) := by omega
                have hZ2 : (4 : Int) ≤ (Z.size : Int) := by omega
                have hZ0 : (0 : Int) ≤ (Z.size : Int) := by omega
                have HZS := Lib.hid hZs
                clear hZs hz8
                go_region
                all_goals
                  go_wp2_with fail
                  go_meet
                  refine ⟨rfl, ⟨_, ?_, four_drew (((Four.set3 HF8.out _).alloc _).alloc _)⟩, ?_⟩
                  · first | (simp; done) | (simp; omega)
                  · exact below_drewN (((HB8.out.setCell (p := ⟨B, 3, none⟩) hBw _).alloc (by have := HB8.out.size; simp; omega) _).alloc (by have := HB8.out.size; simp; omega) _) 1
              case rest =>
                obtain ⟨rfl, ⟨S, hS8, hF9⟩, hB9⟩ := hcut
                have HF9 := Lib.hid hF9; clear hF9
                have HB9 := Lib.hid hB9; clear hB9
                obtain ⟨c0, c1, c2, c3, f0, f1, f2, f3, hBl⟩ := id HF9.out
                go_wp2_with fail
                refine (ref_any _ 1 1 wc.heap.size [⟨1 + (ν : Int), 1, 0, S⟩] _ rfl (fun _ => rfl) (rowG_new wc ⟨1 + (ν : Int), 1, 0, S⟩ _) (by omega)).mono ?_
                rintro e w3 ⟨⟨v3, rfl, ho3⟩, hb3⟩
                obtain ⟨g3, cc3, rfl⟩ := own_some ho3 (by omega)
                obtain ⟨hl3, hr3⟩ := rowG_of ho3 rfl
                obtain ⟨r0, r1, r2, r3⟩ := hr3 0 (by simp)
                simp only [List.getElem_cons_zero, Nat.zero_mul, Nat.zero_add] at r0 r1 r2 r3
                have HB10 := Lib.hid ((HB9.out.alloc HB9.out.size (.cells #[.int .i64 (1 + (ν : Int)), .int .i64 1, .int .u64 (0 : Nat), .string S] 29)).trans (hb3.mono (by have := HB9.out.size; simp; omega)))
                clear hb3 hr3 ho3 c0 c1 c2 c3 f0 f1 f2 f3
                obtain ⟨PP, hPP⟩ : ∃ PP, putB (1 + (ν : Int)) 1 0 S = PP := ⟨_, rfl⟩
                obtain ⟨oo, hoo⟩ : ∃ oo, okF (1 + (ν : Int)) 1 0 S = oo := ⟨_, rfl⟩
                have hps := putB_size (1 + (ν : Int)) 1 0 S
                rw [hPP] at hps
                have HPP := Lib.hid hPP; clear hPP
                have HOO := Lib.hid hoo; clear hoo
                go_wp2_with fail
                refine (refPut_any (1 + (ν : Int)) 1 0 S PP oo _ (by decide) (by omega) HPP.out HOO.out).mono ?_
                rintro e w4 ⟨rfl, hb4⟩
                have HB11 := Lib.hid (HB10.out.trans (hb4.mono HB10.out.size))
                clear hb4 r0 r1 r2 r3 hl3
                have hcatP : ¬ (9223372036854775807 < T.size + PP.size) := by omega
                have hTP : (T ++ PP).size ≤ 1048700 * (k + 1) := by rw [ByteArray.size_append]; omega
                have HTP := Lib.hid hTP; clear hTP
                go_wp2_with fail
                go_roundw
                case rel => exact ⟨k + 1, T ++ PP, by omega, by omega, by go_num, rfl, HTP.out, HB11.out⟩
                case measure => simp [intOf]; omega
          · go_upto_region 11 with fail
            go_cut [15] (fun s15 wy => s15 = .pointer (some ⟨B, 0, none⟩) ∧ Four wy B (.int .i64 (1 + (ν : Int))) (.int .i64 2) (.int .u64 (0 : Nat)) (.string G.s) ∧ Below w.heap.size w wy)
            case first =>
              go_wp2_with fail
              go_meet
              exact ⟨rfl, Four.set2 hF _, hbx.setCell (p := ⟨B, 2, none⟩) hBw _⟩
            case rest =>
              clear c0 c1 c2 c3 f0 f1 f2 f3
              obtain ⟨rfl, hF8, hB8⟩ := hcut
              obtain ⟨c0, c1, c2, c3, f0, f1, f2, f3, hBl8⟩ := id hF8
              have HF8 := Lib.hid hF8; clear hF8
              have HB8 := Lib.hid hB8; clear hB8
              have HF9 := HF8
              have HB9 := HB8
              obtain ⟨c0, c1, c2, c3, f0, f1, f2, f3, hBl⟩ := id HF9.out
              go_wp2_with fail
              refine (ref_any _ 1 1 wc.heap.size [⟨1 + (ν : Int), 2, 0, G.s⟩] _ rfl (fun _ => rfl) (rowG_new wc ⟨1 + (ν : Int), 2, 0, G.s⟩ _) (by omega)).mono ?_
              rintro e w3 ⟨⟨v3, rfl, ho3⟩, hb3⟩
              obtain ⟨g3, cc3, rfl⟩ := own_some ho3 (by omega)
              obtain ⟨hl3, hr3⟩ := rowG_of ho3 rfl
              obtain ⟨r0, r1, r2, r3⟩ := hr3 0 (by simp)
              simp only [List.getElem_cons_zero, Nat.zero_mul, Nat.zero_add] at r0 r1 r2 r3
              have HB10 := Lib.hid ((HB9.out.alloc HB9.out.size (.cells #[.int .i64 (1 + (ν : Int)), .int .i64 2, .int .u64 (0 : Nat), .string G.s] 29)).trans (hb3.mono (by have := HB9.out.size; simp; omega)))
              clear hb3 hr3 ho3 c0 c1 c2 c3 f0 f1 f2 f3
              obtain ⟨PP, hPP⟩ : ∃ PP, putB (1 + (ν : Int)) 2 0 G.s = PP := ⟨_, rfl⟩
              obtain ⟨oo, hoo⟩ : ∃ oo, okF (1 + (ν : Int)) 2 0 G.s = oo := ⟨_, rfl⟩
              have hps := putB_size (1 + (ν : Int)) 2 0 G.s
              rw [hPP] at hps
              have HPP := Lib.hid hPP; clear hPP
              have HOO := Lib.hid hoo; clear hoo
              go_wp2_with fail
              refine (refPut_any (1 + (ν : Int)) 2 0 G.s PP oo _ (by decide) (by omega) HPP.out HOO.out).mono ?_
              rintro e w4 ⟨rfl, hb4⟩
              have HB11 := Lib.hid (HB10.out.trans (hb4.mono HB10.out.size))
              clear hb4 r0 r1 r2 r3 hl3
              have hcatP : ¬ (9223372036854775807 < T.size + PP.size) := by omega
              have hTP : (T ++ PP).size ≤ 1048700 * (k + 1) := by rw [ByteArray.size_append]; omega
              have HTP := Lib.hid hTP; clear hTP
              go_wp2_with fail
              go_roundw
              case rel => exact ⟨k + 1, T ++ PP, by omega, by omega, by go_num, rfl, HTP.out, HB11.out⟩
              case measure => simp [intOf]; omega
          · go_upto_region 11 with fail
            go_cut [15] (fun s15 wy => s15 = .pointer (some ⟨B, 0, none⟩) ∧ Four wy B (.int .i64 (1 + (ν : Int))) (.int .i64 5) (.int .u64 (0 : Nat)) (.string G.s) ∧ Below w.heap.size w wy)
            case first =>
              go_wp2_with fail
              go_meet
              exact ⟨rfl, Four.set2 hF _, hbx.setCell (p := ⟨B, 2, none⟩) hBw _⟩
            case rest =>
              clear c0 c1 c2 c3 f0 f1 f2 f3
              obtain ⟨rfl, hF8, hB8⟩ := hcut
              obtain ⟨c0, c1, c2, c3, f0, f1, f2, f3, hBl8⟩ := id hF8
              have HF8 := Lib.hid hF8; clear hF8
              have HB8 := Lib.hid hB8; clear hB8
              go_upto_region 13 with fail
              go_cut [15] (fun s15 wy => s15 = .pointer (some ⟨B, 0, none⟩) ∧ (∃ S : ByteArray, S.size ≤ 8 ∧ Four wy B (.int .i64 (1 + (ν : Int))) (.int .i64 5) (.int .u64 (0 : Nat)) (.string S)) ∧ Below w.heap.size w wy)
              case first =>
                have hmk := Tryd.make8
                have hca := conv8a wc
                have hcb := conv8b wc
                have hcc := conv8c wc
                have hz8 : z8.size = 8 := rfl
                have hcat : ¬ (9223372036854775807 < G.s.size + z8.size) := by omega
                obtain ⟨Z, hZ⟩ : ∃ Z, G.s ++ z8 = Z := ⟨_, rfl⟩
                have hZs : Z.size = G.s.size + 8 := by rw [← hZ, ByteArray.size_append, hz8]
                have hZ1 : (8 : Int) ≤ (Z.size : Int) := by omega
                have hZ2 : (4 : Int) ≤ (Z.size : Int) := by omega
                have hZ0 : (0 : Int) ≤ (Z.size : Int) := by omega
                have HZS := Lib.hid hZs
                clear hZs hz8
                go_region
                all_goals
                  go_wp2_with fail
                  go_meet
                  refine ⟨rfl, ⟨_, ?_, four_drew (((Four.set3 HF8.out _).alloc _).alloc _)⟩, ?_⟩
                  · first | (simp; done) | (simp; omega)
                  · exact below_drewN (((HB8.out.setCell (p := ⟨B, 3, none⟩) hBw _).alloc (by have := HB8.out.size; simp; omega) _).alloc (by have := HB8.out.size; simp; omega) _) 1
              case rest =>
                obtain ⟨rfl, ⟨S, hS8, hF9⟩, hB9⟩ := hcut
                have HF9 := Lib.hid hF9; clear hF9
                have HB9 := Lib.hid hB9; clear hB9
                obtain ⟨c0, c1, c2, c3, f0, f1, f2, f3, hBl⟩ := id HF9.out
                go_wp2_with fail
                refine (ref_any _ 1 1 wc.heap.size [⟨1 + (ν : Int), 5, 0, S⟩] _ rfl (fun _ => rfl) (rowG_new wc ⟨1 + (ν : Int), 5, 0, S⟩ _) (by omega)).mono ?_
                rintro e w3 ⟨⟨v3, rfl, ho3⟩, hb3⟩
                obtain ⟨g3, cc3, rfl⟩ := own_some ho3 (by omega)
                obtain ⟨hl3, hr3⟩ := rowG_of ho3 rfl
                obtain ⟨r0, r1, r2, r3⟩ := hr3 0 (by simp)
                simp only [List.getElem_cons_zero, Nat.zero_mul, Nat.zero_add] at r0 r1 r2 r3
                have HB10 := Lib.hid ((HB9.out.alloc HB9.out.size (.cells #[.int .i64 (1 + (ν : Int)), .int .i64 5, .int .u64 (0 : Nat), .string S] 29)).trans (hb3.mono (by have := HB9.out.size; simp; omega)))
                clear hb3 hr3 ho3 c0 c1 c2 c3 f0 f1 f2 f3
                obtain ⟨PP, hPP⟩ : ∃ PP, putB (1 + (ν : Int)) 5 0 S = PP := ⟨_, rfl⟩
                obtain ⟨oo, hoo⟩ : ∃ oo, okF (1 + (ν : Int)) 5 0 S = oo := ⟨_, rfl⟩
                have hps := putB_size (1 + (ν : Int)) 5 0 S
                rw [hPP] at hps
                have HPP := Lib.hid hPP; clear hPP
                have HOO := Lib.hid hoo; clear hoo
                go_wp2_with fail
                refine (refPut_any (1 + (ν : Int)) 5 0 S PP oo _ (by decide) (by omega) HPP.out HOO.out).mono ?_
                rintro e w4 ⟨rfl, hb4⟩
                have HB11 := Lib.hid (HB10.out.trans (hb4.mono HB10.out.size))
                clear hb4 r0 r1 r2 r3 hl3
                have hcatP : ¬ (9223372036854775807 < T.size + PP.size) := by omega
                have hTP : (T ++ PP).size ≤ 1048700 * (k + 1) := by rw [ByteArray.size_append]; omega
                have HTP := Lib.hid hTP; clear hTP
                go_wp2_with fail
                go_roundw
                case rel => exact ⟨k + 1, T ++ PP, by omega, by omega, by go_num, rfl, HTP.out, HB11.out⟩
                case measure => simp [intOf]; omega

      · have hd8 : decide ((k : Int) < 8) = false := by simp; omega
        have hT40 : T.size ≤ 1099511627776 := by omega
        obtain ⟨hp1, hp2⟩ := HP.out
        obtain ⟨Nn, hNn, _⟩ := u64_nat num
        obtain ⟨μ, hμ⟩ : ∃ μ, Nn % 20 = μ := ⟨_, rfl⟩
        have hμ2 : (Nn : Int) % 20 = (μ : Int) := by omega
        have hμ3 : μ < 20 := by omega
        clear hμ
        have HB := Lib.hid hb; clear hb
        go_wp2_with fail
        refine (bend_any T p y _ hT40 hp1 hp2).mono ?_
        rintro e wb ⟨⟨S, rfl, hS⟩, hbb⟩
        have hg0 := hgw.below hbb
        have HB0 := Lib.hid (HB.out.trans (hbb.mono HB.out.size))
        have hSS : S.size ≤ 1099511627776 := by omega
        obtain ⟨fs, hfs⟩ : ∃ fs, (parse S.data.toList).getD [] = fs := ⟨_, rfl⟩
        obtain ⟨n, hn⟩ : ∃ n, fs.length = n := ⟨_, rfl⟩
        obtain ⟨o, ho⟩ : ∃ o, (parse S.data.toList).isSome = o := ⟨_, rfl⟩
        obtain ⟨Q, hQ⟩ : ∃ Q, withL (1 + (μ : Int)) fs = Q := ⟨_, rfl⟩
        obtain ⟨q, hq⟩ : ∃ q, Q.length = q := ⟨_, rfl⟩
        obtain ⟨lo, hlo⟩ : ∃ lo, (!Q.isEmpty) = lo := ⟨_, rfl⟩
        obtain ⟨f, hf⟩ := lastCells_fd Q
        have hnb : n ≤ 1099511627776 := by have := parse_few S; rw [hfs, hn] at this; omega
        have hqb : q ≤ 1099511627776 := by have := List.length_filter_le (hasNum (1 + (μ : Int))) fs; unfold withL at hQ; rw [hQ, hq, hn] at this; omega
        have HFS := Lib.hid hfs; clear hfs
        have HN := Lib.hid hn; clear hn
        have HO := Lib.hid ho; clear ho
        have HQ := Lib.hid hQ; clear hQ
        have Hq := Lib.hid hq; clear hq
        have HLO := Lib.hid hlo; clear hlo
        have HF := Lib.hid hf; clear hf
        have HSS := Lib.hid hSS; clear hSS
        clear hbb hS hp1 hp2
        go_wp2_with fail
        refine (parse_l S b _ HSS.out hg0 fs n o HN.out HFS.out HO.out).mono ?_
        rintro e w2 ⟨⟨a1, g1, c1, rfl, ha1, r1⟩, hb2⟩
        have hz2 : 0 < w2.heap.size := Nat.lt_of_lt_of_le hg0.2 hb2.size
        have HB2 := Lib.hid (HB0.out.trans (hb2.mono HB0.out.size))
        have HA1 := Lib.hid ha1; clear ha1 hb2
        have R1 := Lib.hid r1; clear r1
        go_wp2_with fail
        refine (refParse_l S _ HSS.out hz2 fs n o HN.out HFS.out HO.out).mono ?_
        rintro e w3 ⟨⟨a2, g2, c2, rfl, ha2, r2⟩, hb3⟩
        have HB3 := Lib.hid (HB2.out.trans (hb3.mono HB2.out.size))
        have HA2 := Lib.hid ha2; clear ha2
        have R1 := Lib.hid (R1.out.below hb3)
        have R2 := Lib.hid r2; clear r2 hb3 hz2
        go_wp2_with fail
        refine (ref_l a1 n c1 g1 fs _ HN.out HA1.out R1.out hnb).mono ?_
        rintro e w4 ⟨⟨a3, g3, c3, rfl, ha3, r3⟩, hb4⟩
        have HB4 := Lib.hid (HB3.out.trans (hb4.mono HB3.out.size))
        have HA3 := Lib.hid ha3; clear ha3
        have R1 := Lib.hid (R1.out.below hb4)
        have R2 := Lib.hid (R2.out.below hb4)
        have R3 := Lib.hid r3; clear r3 hb4
        go_wp2_with fail
        refine (same_any a3 a2 n c3 c2 g3 g2 fs _ HN.out HA3.out HA2.out R3.out R2.out hnb).mono ?_
        rintro e w5 ⟨rfl, hb5⟩
        have HB5 := Lib.hid (HB4.out.trans (hb5.mono HB4.out.size))
        have R1 := Lib.hid (R1.out.below hb5)
        have R2 := Lib.hid (R2.out.below hb5)
        clear hb5 R3 HA3
        go_wp2_with fail
        refine (last_l a1 n c1 g1 fs Q f lo (1 + (μ : Int)) _ HN.out HA1.out R1.out hnb HQ.out HF.out HLO.out).mono ?_
        rintro e w6 ⟨rfl, hb6⟩
        have HB6 := Lib.hid ((HB5.out.trans (hb6.mono HB5.out.size)).alloc (Nat.le_trans HB5.out.size hb6.size) (.cells #[.int .i64 f.num, .int .i64 f.kind, .int .u64 f.n, .string ⟨f.s.toArray⟩] 29))
        have R1 := Lib.hid (rowAt_alloc (R1.out.below hb6) (.cells #[.int .i64 f.num, .int .i64 f.kind, .int .u64 f.n, .string ⟨f.s.toArray⟩] 29))
        have R2 := Lib.hid (rowAt_alloc (R2.out.below hb6) (.cells #[.int .i64 f.num, .int .i64 f.kind, .int .u64 f.n, .string ⟨f.s.toArray⟩] 29))
        have X := Lib.hid (rowAt_new w6 f 29)
        clear hb6
        go_wp2_with fail
        refine (refLast_l a2 n c2 g2 fs Q f lo (1 + (μ : Int)) _ HN.out HA2.out R2.out hnb HQ.out HF.out HLO.out).mono ?_
        rintro e w7 ⟨rfl, hb7⟩
        have HB7 := Lib.hid ((HB6.out.trans (hb7.mono HB6.out.size)).alloc (Nat.le_trans HB6.out.size hb7.size) (.cells #[.int .i64 f.num, .int .i64 f.kind, .int .u64 f.n, .string ⟨f.s.toArray⟩] 33))
        have R1 := Lib.hid (rowAt_alloc (R1.out.below hb7) (.cells #[.int .i64 f.num, .int .i64 f.kind, .int .u64 f.n, .string ⟨f.s.toArray⟩] 33))
        have R2 := Lib.hid (rowAt_alloc (R2.out.below hb7) (.cells #[.int .i64 f.num, .int .i64 f.kind, .int .u64 f.n, .string ⟨f.s.toArray⟩] 33))
        have X := Lib.hid (rowAt_alloc (X.out.below hb7) (.cells #[.int .i64 f.num, .int .i64 f.kind, .int .u64 f.n, .string ⟨f.s.toArray⟩] 33))
        have Y := Lib.hid (rowAt_new w7 f 33)
        clear hb7
        go_wp2_with fail
        refine (all_l a1 n c1 g1 fs Q q (1 + (μ : Int)) _ HN.out HA1.out R1.out hnb HQ.out Hq.out).mono ?_
        rintro e w8 ⟨⟨a4, g4, c4, rfl, ha4, r4⟩, hb8⟩
        have HB8 := Lib.hid (HB7.out.trans (hb8.mono HB7.out.size))
        have HA4 := Lib.hid ha4; clear ha4
        have R2 := Lib.hid (R2.out.below hb8)
        have X := Lib.hid (X.out.below hb8)
        have Y := Lib.hid (Y.out.below hb8)
        have R4 := Lib.hid r4; clear r4 hb8 R1
        go_wp2_with fail
        refine (ref_l a4 q c4 g4 Q _ Hq.out HA4.out R4.out hqb).mono ?_
        rintro e w9 ⟨⟨a5, g5, c5, rfl, ha5, r5⟩, hb9⟩
        have HB9 := Lib.hid (HB8.out.trans (hb9.mono HB8.out.size))
        have HA5 := Lib.hid ha5; clear ha5
        have R2 := Lib.hid (R2.out.below hb9)
        have X := Lib.hid (X.out.below hb9)
        have Y := Lib.hid (Y.out.below hb9)
        have R5 := Lib.hid r5; clear r5 hb9 R4 HA4
        go_wp2_with fail
        refine (refAll_l a2 n c2 g2 fs Q q (1 + (μ : Int)) _ HN.out HA2.out R2.out hnb HQ.out Hq.out).mono ?_
        rintro e w10 ⟨⟨a6, g6, c6, rfl, ha6, r6⟩, hb10⟩
        have HB10 := Lib.hid (HB9.out.trans (hb10.mono HB9.out.size))
        have HA6 := Lib.hid ha6; clear ha6
        have X := Lib.hid (X.out.below hb10)
        have Y := Lib.hid (Y.out.below hb10)
        have R5 := Lib.hid (R5.out.below hb10)
        have R6 := Lib.hid r6; clear r6 hb10 R2
        go_wp2_with fail
        refine (same_any a5 a6 q c5 c6 g5 g6 Q _ Hq.out HA5.out HA6.out R5.out R6.out hqb).mono ?_
        rintro e w11 ⟨rfl, hb11⟩
        have T2 : Two w.heap.size w6.heap.size w7.heap.size f w w11 := ⟨X.out.below hb11, Y.out.below hb11, HB10.out.trans (hb11.mono HB10.out.size), Nat.le_trans HB10.out.size hb11.size⟩
        clear hb11 X Y R5 R6 HA5 HA6 HB2 HB3 HB4 HB5 HB6 HB7 HB8 HB9 HB10 HA1 HA2
        have HT2 := Lib.hid T2; clear T2
        obtain ⟨x0, x1, x2, x3⟩ := HT2.out.1.2 0 (by simp)
        obtain ⟨y0, y1, y2, y3⟩ := HT2.out.2.1.2 0 (by simp)
        simp only [List.getElem_cons_zero, Nat.zero_mul, Nat.zero_add] at x0 x1 x2 x3 y0 y1 y2 y3
        go_wp2_with fail
        go_region_held3 (fun w' => w'.cell? ⟨w6.heap.size, 0, none⟩ = some (.int .i64 f.num) ∧ w'.cell? ⟨w6.heap.size, 1, none⟩ = some (.int .i64 f.kind) ∧ w'.cell? ⟨w6.heap.size, 2, none⟩ = some (.int .u64 f.n) ∧ w'.cell? ⟨w6.heap.size, 3, none⟩ = some (.string ⟨f.s.toArray⟩) ∧ w'.cell? ⟨w7.heap.size, 0, none⟩ = some (.int .i64 f.num) ∧ w'.cell? ⟨w7.heap.size, 1, none⟩ = some (.int .i64 f.kind) ∧ w'.cell? ⟨w7.heap.size, 2, none⟩ = some (.int .u64 f.n) ∧ w'.cell? ⟨w7.heap.size, 3, none⟩ = some (.string ⟨f.s.toArray⟩) ∧ Two w.heap.size w6.heap.size w7.heap.size f w w')
          (first
            | exact two_S HT2.out | exact two_S (HT2.out.next (below_drewN (Below.refl _ _) 1))
            | exact two_S (Two.next (two_of (by assumption)) ((Below.refl _ _).alloc (Nat.le_refl _) _))
            | exact two_S (Two.next (two_of (by assumption)) hb13) | exact two_S (Two.next (two_of (by assumption)) hb12) | go_keep)
          (first
            | (go_at_call 18; (with_reducible refine (ref_l _ 1 1 _ [f] _ rfl (fun _ => rfl) ?_ (by omega)).mono ?_); (first | exact rowAt_new _ f _ | exact rowAt_alloc (rowAt_new _ f _) _ | (refine rowAt_mk ?_ ?_ ?_ ?_ ?_ <;> first | (simp; done) | (simp; omega))); rintro e w12 ⟨⟨a7, g7, c7, rfl, ha7, r7⟩, hb12⟩; obtain rfl := ha7 (by omega); clear ha7)
            | (go_at_call 26; (with_reducible refine (same_any _ _ 1 c7 1 g7 _ [f] _ rfl (fun _ => rfl) (fun _ => rfl) ?_ ?_ (by omega)).mono ?_)
               ; (first | exact r7 | exact rowAt_alloc r7 _)
               ; (first | exact rowAt_new _ f _ | exact (rowAt_alloc (rowAt_new _ f _) _).below hb12 | (refine RowAt.below ?_ hb12; refine rowAt_mk ?_ ?_ ?_ ?_ ?_ <;> first | (simp; done) | (simp; omega)))
               ; rintro e w13 ⟨rfl, hb13⟩))
        all_goals
          have HT3 := Lib.hid (show Below w.heap.size w w13 from (two_of (T := Two w.heap.size w6.heap.size w7.heap.size f w w13) (by assumption)).2.2.1)
          have jo : (o == o) = true := by simp
          have jl : (lo == lo) = true := by simp
          go_wp2
          go_ret
          exact ⟨rfl, HT3.out⟩
    · have hT40 : T.size ≤ 1099511627776 := by omega
      obtain ⟨hp1, hp2⟩ := HP.out
      obtain ⟨Nn, hNn, _⟩ := u64_nat num
      obtain ⟨μ, hμ⟩ : ∃ μ, Nn % 20 = μ := ⟨_, rfl⟩
      have hμ2 : (Nn : Int) % 20 = (μ : Int) := by omega
      have hμ3 : μ < 20 := by omega
      clear hμ
      have HB := Lib.hid hb; clear hb
      go_wp2_with fail
      refine (bend_any T p y _ hT40 hp1 hp2).mono ?_
      rintro e wb ⟨⟨S, rfl, hS⟩, hbb⟩
      have hg0 := hgw.below hbb
      have HB0 := Lib.hid (HB.out.trans (hbb.mono HB.out.size))
      have hSS : S.size ≤ 1099511627776 := by omega
      obtain ⟨fs, hfs⟩ : ∃ fs, (parse S.data.toList).getD [] = fs := ⟨_, rfl⟩
      obtain ⟨n, hn⟩ : ∃ n, fs.length = n := ⟨_, rfl⟩
      obtain ⟨o, ho⟩ : ∃ o, (parse S.data.toList).isSome = o := ⟨_, rfl⟩
      obtain ⟨Q, hQ⟩ : ∃ Q, withL (1 + (μ : Int)) fs = Q := ⟨_, rfl⟩
      obtain ⟨q, hq⟩ : ∃ q, Q.length = q := ⟨_, rfl⟩
      obtain ⟨lo, hlo⟩ : ∃ lo, (!Q.isEmpty) = lo := ⟨_, rfl⟩
      obtain ⟨f, hf⟩ := lastCells_fd Q
      have hnb : n ≤ 1099511627776 := by have := parse_few S; rw [hfs, hn] at this; omega
      have hqb : q ≤ 1099511627776 := by have := List.length_filter_le (hasNum (1 + (μ : Int))) fs; unfold withL at hQ; rw [hQ, hq, hn] at this; omega
      have HFS := Lib.hid hfs; clear hfs
      have HN := Lib.hid hn; clear hn
      have HO := Lib.hid ho; clear ho
      have HQ := Lib.hid hQ; clear hQ
      have Hq := Lib.hid hq; clear hq
      have HLO := Lib.hid hlo; clear hlo
      have HF := Lib.hid hf; clear hf
      have HSS := Lib.hid hSS; clear hSS
      clear hbb hS hp1 hp2
      go_wp2_with fail
      refine (parse_l S b _ HSS.out hg0 fs n o HN.out HFS.out HO.out).mono ?_
      rintro e w2 ⟨⟨a1, g1, c1, rfl, ha1, r1⟩, hb2⟩
      have hz2 : 0 < w2.heap.size := Nat.lt_of_lt_of_le hg0.2 hb2.size
      have HB2 := Lib.hid (HB0.out.trans (hb2.mono HB0.out.size))
      have HA1 := Lib.hid ha1; clear ha1 hb2
      have R1 := Lib.hid r1; clear r1
      go_wp2_with fail
      refine (refParse_l S _ HSS.out hz2 fs n o HN.out HFS.out HO.out).mono ?_
      rintro e w3 ⟨⟨a2, g2, c2, rfl, ha2, r2⟩, hb3⟩
      have HB3 := Lib.hid (HB2.out.trans (hb3.mono HB2.out.size))
      have HA2 := Lib.hid ha2; clear ha2
      have R1 := Lib.hid (R1.out.below hb3)
      have R2 := Lib.hid r2; clear r2 hb3 hz2
      go_wp2_with fail
      refine (ref_l a1 n c1 g1 fs _ HN.out HA1.out R1.out hnb).mono ?_
      rintro e w4 ⟨⟨a3, g3, c3, rfl, ha3, r3⟩, hb4⟩
      have HB4 := Lib.hid (HB3.out.trans (hb4.mono HB3.out.size))
      have HA3 := Lib.hid ha3; clear ha3
      have R1 := Lib.hid (R1.out.below hb4)
      have R2 := Lib.hid (R2.out.below hb4)
      have R3 := Lib.hid r3; clear r3 hb4
      go_wp2_with fail
      refine (same_any a3 a2 n c3 c2 g3 g2 fs _ HN.out HA3.out HA2.out R3.out R2.out hnb).mono ?_
      rintro e w5 ⟨rfl, hb5⟩
      have HB5 := Lib.hid (HB4.out.trans (hb5.mono HB4.out.size))
      have R1 := Lib.hid (R1.out.below hb5)
      have R2 := Lib.hid (R2.out.below hb5)
      clear hb5 R3 HA3
      go_wp2_with fail
      refine (last_l a1 n c1 g1 fs Q f lo (1 + (μ : Int)) _ HN.out HA1.out R1.out hnb HQ.out HF.out HLO.out).mono ?_
      rintro e w6 ⟨rfl, hb6⟩
      have HB6 := Lib.hid ((HB5.out.trans (hb6.mono HB5.out.size)).alloc (Nat.le_trans HB5.out.size hb6.size) (.cells #[.int .i64 f.num, .int .i64 f.kind, .int .u64 f.n, .string ⟨f.s.toArray⟩] 29))
      have R1 := Lib.hid (rowAt_alloc (R1.out.below hb6) (.cells #[.int .i64 f.num, .int .i64 f.kind, .int .u64 f.n, .string ⟨f.s.toArray⟩] 29))
      have R2 := Lib.hid (rowAt_alloc (R2.out.below hb6) (.cells #[.int .i64 f.num, .int .i64 f.kind, .int .u64 f.n, .string ⟨f.s.toArray⟩] 29))
      have X := Lib.hid (rowAt_new w6 f 29)
      clear hb6
      go_wp2_with fail
      refine (refLast_l a2 n c2 g2 fs Q f lo (1 + (μ : Int)) _ HN.out HA2.out R2.out hnb HQ.out HF.out HLO.out).mono ?_
      rintro e w7 ⟨rfl, hb7⟩
      have HB7 := Lib.hid ((HB6.out.trans (hb7.mono HB6.out.size)).alloc (Nat.le_trans HB6.out.size hb7.size) (.cells #[.int .i64 f.num, .int .i64 f.kind, .int .u64 f.n, .string ⟨f.s.toArray⟩] 33))
      have R1 := Lib.hid (rowAt_alloc (R1.out.below hb7) (.cells #[.int .i64 f.num, .int .i64 f.kind, .int .u64 f.n, .string ⟨f.s.toArray⟩] 33))
      have R2 := Lib.hid (rowAt_alloc (R2.out.below hb7) (.cells #[.int .i64 f.num, .int .i64 f.kind, .int .u64 f.n, .string ⟨f.s.toArray⟩] 33))
      have X := Lib.hid (rowAt_alloc (X.out.below hb7) (.cells #[.int .i64 f.num, .int .i64 f.kind, .int .u64 f.n, .string ⟨f.s.toArray⟩] 33))
      have Y := Lib.hid (rowAt_new w7 f 33)
      clear hb7
      go_wp2_with fail
      refine (all_l a1 n c1 g1 fs Q q (1 + (μ : Int)) _ HN.out HA1.out R1.out hnb HQ.out Hq.out).mono ?_
      rintro e w8 ⟨⟨a4, g4, c4, rfl, ha4, r4⟩, hb8⟩
      have HB8 := Lib.hid (HB7.out.trans (hb8.mono HB7.out.size))
      have HA4 := Lib.hid ha4; clear ha4
      have R2 := Lib.hid (R2.out.below hb8)
      have X := Lib.hid (X.out.below hb8)
      have Y := Lib.hid (Y.out.below hb8)
      have R4 := Lib.hid r4; clear r4 hb8 R1
      go_wp2_with fail
      refine (ref_l a4 q c4 g4 Q _ Hq.out HA4.out R4.out hqb).mono ?_
      rintro e w9 ⟨⟨a5, g5, c5, rfl, ha5, r5⟩, hb9⟩
      have HB9 := Lib.hid (HB8.out.trans (hb9.mono HB8.out.size))
      have HA5 := Lib.hid ha5; clear ha5
      have R2 := Lib.hid (R2.out.below hb9)
      have X := Lib.hid (X.out.below hb9)
      have Y := Lib.hid (Y.out.below hb9)
      have R5 := Lib.hid r5; clear r5 hb9 R4 HA4
      go_wp2_with fail
      refine (refAll_l a2 n c2 g2 fs Q q (1 + (μ : Int)) _ HN.out HA2.out R2.out hnb HQ.out Hq.out).mono ?_
      rintro e w10 ⟨⟨a6, g6, c6, rfl, ha6, r6⟩, hb10⟩
      have HB10 := Lib.hid (HB9.out.trans (hb10.mono HB9.out.size))
      have HA6 := Lib.hid ha6; clear ha6
      have X := Lib.hid (X.out.below hb10)
      have Y := Lib.hid (Y.out.below hb10)
      have R5 := Lib.hid (R5.out.below hb10)
      have R6 := Lib.hid r6; clear r6 hb10 R2
      go_wp2_with fail
      refine (same_any a5 a6 q c5 c6 g5 g6 Q _ Hq.out HA5.out HA6.out R5.out R6.out hqb).mono ?_
      rintro e w11 ⟨rfl, hb11⟩
      have T2 : Two w.heap.size w6.heap.size w7.heap.size f w w11 := ⟨X.out.below hb11, Y.out.below hb11, HB10.out.trans (hb11.mono HB10.out.size), Nat.le_trans HB10.out.size hb11.size⟩
      clear hb11 X Y R5 R6 HA5 HA6 HB2 HB3 HB4 HB5 HB6 HB7 HB8 HB9 HB10 HA1 HA2
      have HT2 := Lib.hid T2; clear T2
      obtain ⟨x0, x1, x2, x3⟩ := HT2.out.1.2 0 (by simp)
      obtain ⟨y0, y1, y2, y3⟩ := HT2.out.2.1.2 0 (by simp)
      simp only [List.getElem_cons_zero, Nat.zero_mul, Nat.zero_add] at x0 x1 x2 x3 y0 y1 y2 y3
      go_wp2_with fail
      go_region_held3 (fun w' => w'.cell? ⟨w6.heap.size, 0, none⟩ = some (.int .i64 f.num) ∧ w'.cell? ⟨w6.heap.size, 1, none⟩ = some (.int .i64 f.kind) ∧ w'.cell? ⟨w6.heap.size, 2, none⟩ = some (.int .u64 f.n) ∧ w'.cell? ⟨w6.heap.size, 3, none⟩ = some (.string ⟨f.s.toArray⟩) ∧ w'.cell? ⟨w7.heap.size, 0, none⟩ = some (.int .i64 f.num) ∧ w'.cell? ⟨w7.heap.size, 1, none⟩ = some (.int .i64 f.kind) ∧ w'.cell? ⟨w7.heap.size, 2, none⟩ = some (.int .u64 f.n) ∧ w'.cell? ⟨w7.heap.size, 3, none⟩ = some (.string ⟨f.s.toArray⟩) ∧ Two w.heap.size w6.heap.size w7.heap.size f w w')
        (first
          | exact two_S HT2.out | exact two_S (HT2.out.next (below_drewN (Below.refl _ _) 1))
          | exact two_S (Two.next (two_of (by assumption)) ((Below.refl _ _).alloc (Nat.le_refl _) _))
          | exact two_S (Two.next (two_of (by assumption)) hb13) | exact two_S (Two.next (two_of (by assumption)) hb12) | go_keep)
        (first
          | (go_at_call 18; (with_reducible refine (ref_l _ 1 1 _ [f] _ rfl (fun _ => rfl) ?_ (by omega)).mono ?_); (first | exact rowAt_new _ f _ | exact rowAt_alloc (rowAt_new _ f _) _ | (refine rowAt_mk ?_ ?_ ?_ ?_ ?_ <;> first | (simp; done) | (simp; omega))); rintro e w12 ⟨⟨a7, g7, c7, rfl, ha7, r7⟩, hb12⟩; obtain rfl := ha7 (by omega); clear ha7)
          | (go_at_call 26; (with_reducible refine (same_any _ _ 1 c7 1 g7 _ [f] _ rfl (fun _ => rfl) (fun _ => rfl) ?_ ?_ (by omega)).mono ?_)
             ; (first | exact r7 | exact rowAt_alloc r7 _)
             ; (first | exact rowAt_new _ f _ | exact (rowAt_alloc (rowAt_new _ f _) _).below hb12 | (refine RowAt.below ?_ hb12; refine rowAt_mk ?_ ?_ ?_ ?_ ?_ <;> first | (simp; done) | (simp; omega)))
             ; rintro e w13 ⟨rfl, hb13⟩))
      all_goals
        have HT3 := Lib.hid (show Below w.heap.size w w13 from (two_of (T := Two w.heap.size w6.heap.size w7.heap.size f w w13) (by assumption)).2.2.1)
        have jo : (o == o) = true := by simp
        have jl : (lo == lo) = true := by simp
        go_wp2
        go_ret
        exact ⟨rfl, HT3.out⟩
end Go.Proofs.YtkehanpgaahmlaaDoor.lawParses
