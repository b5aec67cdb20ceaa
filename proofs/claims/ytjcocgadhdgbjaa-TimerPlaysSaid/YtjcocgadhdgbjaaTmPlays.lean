/- timer: TimerPlays walked. -/
import Derived.Test.YtjcocgadhdgbjaaTmBothN
import Derived.BigQuiet
import Derived.Deep.DeepCutAuto
import Derived.Deep.CutRange
import Derived.Deep.CutBlock
import Derived.Deep.RegionHeld3
namespace Go.Proofs.Ytjcocgadhdgbjaa
open Go.RowKit

/-- Both timers see the same list. -/
def Pl (b t r N : Nat) (w0 w : World) : Prop := ∃ L, Bo b t r N L L w0 w
set_option maxRecDepth 100000 in
set_option maxHeartbeats 4000000 in
theorem plays_walk (a0 : Option Addr) (l0 c0 : Nat) (ds : List Dd) (w : World) (hl : ds.length = l0) (hm : l0 ≤ maxLen) (hst : DdsIn w a0 ds) (hsm : ∀ p ∈ ds, p.s.size ≤ 140737488355328 ∧ p.k < 256 ∧ p.i < 256) :
    Calls Try.prog 3 #[.slice a0 l0 c0] w fun e w' => e = .returned (.bool true) ∧ Below w.heap.size w w' := by
  have hc2 : (l0 : Int) ≤ 9223372036854775807 := by have : maxLen = 9223372036854775807 := rfl; omega
  have HL := Lib.hid (And.intro hl (And.intro hst hsm))
  clear hl hst hsm hm
  go_enter Try.func3, Try.ntmps3
  go_wp2_with fail
  refine (examples_any w).mono ?_
  rintro e w0 ⟨rfl, hb0⟩
  go_wp2_with fail
  refine (new_any w0).mono ?_
  rintro e w1 ⟨t, F, rfl, q1, hF1, hb1⟩
  have HS : Below w.heap.size w w1 := hb0.trans (hb1.mono hb0.size)
  have hBs : w.heap.size ≤ w0.heap.size := hb0.size
  have HA := Lib.hid (And.intro (And.intro q1 hF1) (And.intro hb1 (And.intro HS hBs)))
  clear q1 hF1 hb1 HS hBs hb0
  go_wp2
  go_loopw [6] (fun iv wr => ∃ k N : Nat, iv = .int .i64 (k : Int) ∧ k ≤ l0 ∧ k ≤ 80 ∧ N ≤ k ∧ Pl w0.heap.size t w1.heap.size N w wr) (fun iv _ => 80 - (intOf iv).toNat)
  case atStart => exact ⟨0, 0, rfl, Nat.zero_le _, Nat.zero_le _, Nat.le_refl _, [], bo_start rfl HA.out.2.2.2 HA.out.1.1 HA.out.2.2.1 HA.out.2.1.size⟩
  case round =>
    obtain ⟨k, N, rfl, hk, hk80, hN, hp⟩ := hrel
    have i0 : (0 : Int) ≤ (k : Int) := by omega
    by_cases hlt : k < l0 ∧ k < 80
    · have hkl : k < ds.length := by have := HL.out.1; omega
      obtain ⟨b, o, rfl, hbl, hcell⟩ := HL.out.2.1 k ds[k] (List.getElem?_eq_getElem hkl)
      have hd := HL.out.2.2 ds[k] (List.getElem_mem hkl)
      generalize ds[k] = d at *
      obtain ⟨L, hp⟩ := hp
      have hbw : Below w.heap.size w wr := by obtain ⟨_, _, _, _, _, h, _⟩ := hp; exact h
      obtain ⟨h0, h1, h2, h3⟩ := hcell
      have g0 := (hbw.cell (p := ⟨b, o + k * 4, none⟩) hbl).trans h0
      have g1 := (hbw.cell (p := ⟨b, o + k * 4 + 1, none⟩) hbl).trans h1
      have g2 := (hbw.cell (p := ⟨b, o + k * 4 + 2, none⟩) hbl).trans h2
      have g3 := (hbw.cell (p := ⟨b, o + k * 4 + 3, none⟩) hbl).trans h3
      clear h0 h1 h2 h3
      obtain ⟨dk, di, dst, dt⟩ := d
      obtain ⟨m, hm⟩ : ∃ m, dk % 6 = m := ⟨_, rfl⟩
      have hm1 : (dk : Int) % 6 = (m : Int) := by omega
      have hlt1 : (k : Int) < (l0 : Int) := by omega
      have hlt2 : (k : Int) < 80 := by omega
      have hblr : b < wr.heap.size := Nat.lt_of_lt_of_le hbl hbw.size
      have HP := Lib.hid (And.intro hp (And.intro hd hN))
      clear hp hd hm hN hbw hbl
      have HB0 : Both w0.heap.size t w1.heap.size N wr.heap.size ⟨dk, di, dst, dt⟩ L L w (wr.alloc (.cells #[.int .u8 (dk : Int), .int .u8 (di : Int), .string dst, .int .u64 (dt : Int)] 32)) := ⟨HP.out.1.below HA.out.2.2.2 ((Below.refl _ _).alloc (Nat.le_refl _) _), Blk.new _ _ _⟩
      have HB0d := Lib.hid (And.intro HB0 (HB0.below HA.out.2.2.2 ((Below.refl _ _).drew)))
      clear HB0
      have HLL : L.length ≤ 1024 ∧ (L.map (·.1)).Nodup := by
        obtain ⟨F1, v1, q, _⟩ := HP.out.1
        have qn := q.nodup
        obtain ⟨_, _, _, _, _, _, _, _, _, _, _, _, _, _, _, hl⟩ := q
        exact ⟨hl, qn⟩
      have HQ := Lib.hid HLL
      clear HLL
      have hdi : di < 256 := HP.out.2.1.2.2
      obtain ⟨Z, hZ⟩ : ∃ Z, idZ ⟨dk, di, dst, dt⟩ = Z := ⟨_, rfl⟩
      have hZs : Z.size ≤ 140737488355328 := by
        rw [← hZ]; unfold idZ
        split
        · exact HP.out.2.1.1
        · show 1 ≤ _; decide
      have HZ := Lib.hid (And.intro hZ (And.intro hZs hdi))
      clear hZ hZs hdi
      go_upto_block 2 with (fail)
      go_cut [8, 9, 10, 11, 12, 13, 14, 15] from 30 to 166 (fun s8 s9 s10 s11 s12 s13 s14 s15 wx => s8 = .bool true ∧ ∃ N', N' ≤ k + 1 ∧ Pl w0.heap.size t w1.heap.size N' w wx)
      case first =>
        obtain ⟨X, hX⟩ : ∃ X, (atL L Z.data.toList).isSome = X := ⟨_, rfl⟩
        obtain ⟨D, hD⟩ : ∃ D, dropL L Z.data.toList = D := ⟨_, rfl⟩
        have HX := Lib.hid (And.intro hX hD)
        clear hX hD
        by_cases m3 : m = 3
        · subst m3
          go_wp2
          have hb := HB0d.out.2
          go_region_held3 (fun w' => w'.cell? ⟨wr.heap.size, 0, none⟩ = some (.int .u8 (dk : Int)) ∧ w'.cell? ⟨wr.heap.size, 1, none⟩ = some (.int .u8 (di : Int)) ∧ w'.cell? ⟨wr.heap.size, 2, none⟩ = some (.string dst) ∧ w'.cell? ⟨wr.heap.size, 3, none⟩ = some (.int .u64 (dt : Int)))
            (first | exact both_cells (d := ⟨dk, di, dst, dt⟩) (by assumption))
            (first
              | (go_at_call 11; refine (id_both (d := ⟨dk, di, dst, dt⟩) (by assumption) HA.out.2.2.2 HZ.out.2.2 HZ.out.1).mono ?_; rintro e w' ⟨rfl, hx⟩)
              | (go_at_call 10; refine (tstop_both (d := ⟨dk, di, dst, dt⟩) (by assumption) HA.out.2.2.2 HZ.out.2.1 HX.out.1 HX.out.2).mono ?_; rintro e w' ⟨rfl, hx⟩)
              | (go_at_call 12; refine (rstop_both (d := ⟨dk, di, dst, dt⟩) (by assumption) HA.out.2.2.2 HQ.out.1 HQ.out.2 HX.out.1 HX.out.2).mono ?_; rintro e w' ⟨rfl, hx⟩))
          all_goals go_wp2_with fail
          all_goals go_meet
          all_goals exact ⟨rfl, N, by have := HP.out.2.2; omega, D, (show Both _ _ _ _ _ _ D D _ _ by assumption).1⟩
        · by_cases m4 : m = 4
          · subst m4
            obtain ⟨q, hq⟩ : ∃ q, dueL dt L = q := ⟨_, rfl⟩
            obtain ⟨ms, L1⟩ := q
            obtain ⟨n, hn⟩ : ∃ n, ms.length = n := ⟨_, rfl⟩
            have HU := Lib.hid (And.intro hq hn)
            clear hq hn
            go_wp2_with fail
            refine (due_both HB0d.out.1 HA.out.2.2.2 HU.out.1 HU.out.2).mono ?_
            rintro e w' ⟨a1, c1, rfl, hx, hr⟩
            have z0 : w'.cell? ⟨wr.heap.size, 0, none⟩ = some (.int .u8 (dk : Int)) := hx.2.cell 0; have z1 : w'.cell? ⟨wr.heap.size, 1, none⟩ = some (.int .u8 (di : Int)) := hx.2.cell 1; have z2 : w'.cell? ⟨wr.heap.size, 2, none⟩ = some (.string dst) := hx.2.cell 2; have z3 : w'.cell? ⟨wr.heap.size, 3, none⟩ = some (.int .u64 (dt : Int)) := hx.2.cell 3
            have HR := Lib.hid hr
            clear hr
            go_wp2_with fail
            refine (rdue_both hx HA.out.2.2.2 HQ.out.1 HQ.out.2 HU.out.1 HU.out.2 HR.out).mono ?_
            clear hx z0 z1 z2 z3
            rintro e w5 ⟨⟨a2, c2, rfl, hx, hr2⟩, hr1⟩
            have HF := Lib.hid (And.intro hx (And.intro hr1 hr2))
            have hn9 : (n : Int) ≤ 9223372036854775807 := by
              have e9 : maxLen = 9223372036854775807 := rfl
              rcases hr1.2 with ⟨_, e⟩ | ⟨g, cap, cur, hv, _, _, hc, hm, _⟩
              · omega
              · cases hv; omega
            clear hx hr1 hr2
            go_wp2
            go_loopw [8, 11] (fun s8 iv wx => ∃ j : Nat, s8 = .bool true ∧ iv = .int .i64 (j : Int) ∧ j ≤ n ∧ Below w5.heap.size w5 wx) (fun _ iv _ => n - (intOf iv).toNat)
            case atStart => exact ⟨0, rfl, rfl, Nat.zero_le _, Below.refl _ _⟩
            case round =>
              rename_i wx _ _
              obtain ⟨j, rfl, rfl, hj, hbx⟩ := hrel
              have HBX := Lib.hid hbx
              have j0 : (0 : Int) ≤ (j : Int) := by omega
              by_cases hjn : j < n
              · have hjn' : (j : Int) < (n : Int) := by omega
                obtain ⟨x, y, X', rfl, rfl, y1, y2⟩ := rows_same (own_below HF.out.2.1 HBX.out) (own_below HF.out.2.2 HBX.out) HU.out.2 hjn
                clear hbx
                go_wp2_with fail
                go_quiet (fail)
                go_wp2
                go_roundw
                case rel => exact ⟨j + 1, by simp, by go_num, by omega, HBX.out.trans (below_drewN' _)⟩
                case measure => simp [intOf]; omega
              · have hjn' : ¬ (j : Int) < (n : Int) := by omega
                clear hbx
                go_wp2
                go_meet
                exact ⟨rfl, N, by have := HP.out.2.2; omega, L1, HF.out.1.1.below HA.out.2.2.2 HBX.out⟩
          · by_cases m5 : m = 5
            · subst m5
              obtain ⟨o', ho'⟩ : ∃ o', (atL L Z.data.toList).getD 0 = o' := ⟨_, rfl⟩
              have HO := Lib.hid ho'
              clear ho'
              go_wp2_with fail
              refine (id_both (d := ⟨dk, di, dst, dt⟩) HB0d.out.1 HA.out.2.2.2 HZ.out.2.2 HZ.out.1).mono ?_
              rintro e w' ⟨rfl, hx⟩
              have z0 : w'.cell? ⟨wr.heap.size, 0, none⟩ = some (.int .u8 (dk : Int)) := hx.2.cell 0; have z1 : w'.cell? ⟨wr.heap.size, 1, none⟩ = some (.int .u8 (di : Int)) := hx.2.cell 1; have z2 : w'.cell? ⟨wr.heap.size, 2, none⟩ = some (.string dst) := hx.2.cell 2; have z3 : w'.cell? ⟨wr.heap.size, 3, none⟩ = some (.int .u64 (dt : Int)) := hx.2.cell 3
              go_wp2_with fail
              refine (at_both hx HA.out.2.2.2 HZ.out.2.1 HO.out HX.out.1).mono ?_
              clear hx z0 z1 z2 z3
              rintro e w' ⟨rfl, hx⟩
              have z0 : w'.cell? ⟨wr.heap.size, 0, none⟩ = some (.int .u8 (dk : Int)) := hx.2.cell 0; have z1 : w'.cell? ⟨wr.heap.size, 1, none⟩ = some (.int .u8 (di : Int)) := hx.2.cell 1; have z2 : w'.cell? ⟨wr.heap.size, 2, none⟩ = some (.string dst) := hx.2.cell 2; have z3 : w'.cell? ⟨wr.heap.size, 3, none⟩ = some (.int .u64 (dt : Int)) := hx.2.cell 3
              go_wp2_with fail
              refine (id_both hx HA.out.2.2.2 HZ.out.2.2 HZ.out.1).mono ?_
              clear hx z0 z1 z2 z3
              rintro e w' ⟨rfl, hx⟩
              have z0 : w'.cell? ⟨wr.heap.size, 0, none⟩ = some (.int .u8 (dk : Int)) := hx.2.cell 0; have z1 : w'.cell? ⟨wr.heap.size, 1, none⟩ = some (.int .u8 (di : Int)) := hx.2.cell 1; have z2 : w'.cell? ⟨wr.heap.size, 2, none⟩ = some (.string dst) := hx.2.cell 2; have z3 : w'.cell? ⟨wr.heap.size, 3, none⟩ = some (.int .u64 (dt : Int)) := hx.2.cell 3
              go_wp2_with fail
              refine (rat_both hx HQ.out.1 HQ.out.2 HO.out HX.out.1).mono ?_
              clear hx z0 z1 z2 z3
              rintro e w' ⟨rfl, hx⟩
              have HF := Lib.hid hx
              clear hx
              go_wp2
              go_meet
              exact ⟨by simp, N, by have := HP.out.2.2; omega, L, HF.out.1⟩
            · have n3 : ¬ (m : Int) = 3 := by omega
              have n4 : ¬ (m : Int) = 4 := by omega
              have n5 : ¬ (m : Int) = 5 := by omega
              obtain ⟨xs, hxs⟩ : ∃ xs, setR L Z.data.toList dt = xs := ⟨_, rfl⟩
              obtain ⟨x, L1⟩ := xs
              have HS := Lib.hid hxs
              clear hxs
              go_wp2
              have hb := HB0d.out.2
              go_region_held3 (fun w' => w'.cell? ⟨wr.heap.size, 0, none⟩ = some (.int .u8 (dk : Int)) ∧ w'.cell? ⟨wr.heap.size, 1, none⟩ = some (.int .u8 (di : Int)) ∧ w'.cell? ⟨wr.heap.size, 2, none⟩ = some (.string dst) ∧ w'.cell? ⟨wr.heap.size, 3, none⟩ = some (.int .u64 (dt : Int)))
                (first | exact both_cells (d := ⟨dk, di, dst, dt⟩) (by assumption))
                (first
                  | (go_at_call 11; refine (id_both (d := ⟨dk, di, dst, dt⟩) (by assumption) HA.out.2.2.2 HZ.out.2.2 HZ.out.1).mono ?_; rintro e w' ⟨rfl, hx⟩)
                  | (go_at_call 17; refine (tset_both (d := ⟨dk, di, dst, dt⟩) (by assumption) HA.out.2.2.2 (Nat.le_trans HP.out.2.2 (by omega)) HZ.out.2.1 HS.out).mono ?_; rintro e w' ⟨rfl, hx⟩)
                  | (go_at_call 18; refine (rset_both (d := ⟨dk, di, dst, dt⟩) (by assumption) HA.out.2.2.2 HQ.out.1 HQ.out.2 HZ.out.2.1 HS.out).mono ?_; rintro e w' ⟨rfl, hx⟩))
              all_goals go_wp2_with fail
              all_goals go_meet
              all_goals exact ⟨rfl, N + 1, by have := HP.out.2.2; omega, L1, (show Both _ _ _ _ _ _ L1 L1 _ _ by assumption).1⟩
      case rest =>
        obtain ⟨rfl, N', hN', L', hp⟩ := hcut
        obtain ⟨P, hP⟩ : ∃ P, nxL L' = P := ⟨_, rfl⟩
        obtain ⟨P, A, O⟩ := P
        obtain ⟨n, hn⟩ : ∃ n, L'.length = n := ⟨_, rfl⟩
        have hl' : L'.length ≤ 1024 := by
          obtain ⟨F1, v1, q, _⟩ := hp
          obtain ⟨_, _, _, _, _, _, _, _, _, _, _, _, _, _, _, hl⟩ := q
          exact hl
        have HN := Lib.hid (And.intro hP (And.intro hn hl'))
        have HN' := Lib.hid hN'
        have HB := Lib.hid hp
        clear hP hn hl' hN' hp
        go_wp2_with fail
        refine (next_bo HB.out HA.out.2.2.2 HN.out.1).mono ?_
        rintro e w2 ⟨rfl, h2⟩
        have H2 := Lib.hid h2
        clear h2
        go_wp2_with fail
        refine (rnext_bo H2.out HA.out.2.2.2 HN.out.2.2 HN.out.1).mono ?_
        rintro e w3 ⟨rfl, h3⟩
        obtain ⟨a3, c3, y3⟩ := bo_cell h3 HN.out.2.1
        have hln : ∀ m, Calls Try.prog 21 #[.pointer (some ⟨t, 0, none⟩)] (w3.drewN m) fun e w' => e = .returned (.int .i64 (n : Int)) ∧ w' = w3.drewN m := fun m => (len_bo (h3.below HA.out.2.2.2 (below_drewN' m)) HN.out.2.1).mono fun e w' ⟨he, hw⟩ => ⟨he, hw.symm⟩
        have HLn := Lib.hid hln
        clear hln
        have H3 := Lib.hid (And.intro h3 True.intro)
        clear h3
        go_wp2_with fail
        go_quiet (first | (go_at_call 21; exact Calls.quiet_of_same (HLn.out _)))
        go_wp2
        go_roundw
        case rel => exact ⟨k + 1, N', by go_num, by omega, by omega, HN'.out, L', H3.out.1.below HA.out.2.2.2 (below_drewN' _)⟩
        case measure => simp [intOf]; omega
    · have HE := Lib.hid (show Below w.heap.size w wr by obtain ⟨_, _, _, _, _, _, h, _⟩ := hp; exact h)
      clear hp
      by_cases hkl : k < l0
      · have h1 : (k : Int) < (l0 : Int) := by omega
        have h2 : ¬ (k : Int) < 80 := by omega
        go_wp2
        go_ret
        exact ⟨rfl, HE.out⟩
      · have h1 : ¬ (k : Int) < (l0 : Int) := by omega
        go_wp2
        go_ret
        exact ⟨rfl, HE.out⟩
end Go.Proofs.Ytjcocgadhdgbjaa
