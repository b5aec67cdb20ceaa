/- LedgerPlays walked (tools/lpwalk_gen.py). -/
import Derived.Test.YtdaelapamkmcaaaDoorLpM
import Derived.Test.YtdaelapamkmcaaaDoorLdEx
namespace Go.Proofs.YtdaelapamkmcaaaDoor
open Go.RowKit

theorem LdIs.other {base l B : Nat} {ms : List Mk} {w : World} {c : Array Value} {t : TypeId} (h : LdIs base l ms w) (hb : Blk w B c t) (h1 : t ≠ 53) (h2 : t ≠ 49) (j : Nat) (v : Value) : LdIs base l ms (w.setCell ⟨B, j, none⟩ v) := by
  have hgs := grown_set w B j v
  obtain ⟨m1, x, m2⟩ := h
  exact ⟨m1, x, m2.blk.kept hgs (fun e => Blk.ne m2.blk hb (fun e => h1 e.symm) (Option.some.inj e)), own_other m2.row hgs (fun gg hgg e => row_block m2.row hb h2 (by rw [hgg, ← e])), m2.bl⟩
theorem RfAt.other {base l B : Nat} {x : Value} {ms : List Mk} {w : World} {c : Array Value} {t : TypeId} (m2 : RfAt base l x ms w) (hb : Blk w B c t) (h1 : t ≠ 29) (h2 : t ≠ 50) (j : Nat) (v : Value) : RfAt base l x ms (w.setCell ⟨B, j, none⟩ v) := by
  have hgs := grown_set w B j v
  exact ⟨m2.blk.kept hgs (fun e => Blk.ne m2.blk hb (fun e => h1 e.symm) (Option.some.inj e)), own_other m2.row hgs (fun gg hgg e => row_block m2.row hb h2 (by rw [hgg, ← e])), m2.bl⟩
theorem Two.other {B p : Nat} {W : World} {g b : Addr} {l r : Nat} {ms ns : List Mk} {w : World} {c : Array Value} {t : TypeId} (h : Two B W g b l r ms ns w) (hp : Blk w p c t) (hB : B ≤ p) (h1 : t ≠ 53) (h2 : t ≠ 49) (h3 : t ≠ 29) (h4 : t ≠ 50) (j : Nat) (v : Value) : Two B W g b l r ms ns (w.setCell ⟨p, j, none⟩ v) := by
  have hls : Below B w (w.setCell ⟨p, j, none⟩ v) := (Below.refl _ _).setCell (p := ⟨p, j, none⟩) hB v
  obtain ⟨x, hx⟩ := h.rf
  exact ⟨h.ld.other hp h1 h2 j v, h.ok, h.pd, ⟨x, hx.other hp h3 h4 j v⟩, gv_low h.gv hls h.lo.1, gn_low h.gn hls h.lo.2.1, h.be.trans (hls.mono h.lo.2.2), h.lo⟩
theorem mod_of (n m k : Nat) (h : n % m = k) : (n : Int).tmod (m : Int) = (k : Int) ∧ (n : Int) % (m : Int) = (k : Int) := by
  rw [Int.tmod_eq_emod_of_nonneg (by omega), ← h]
  exact ⟨rfl, rfl⟩
theorem lp_neqKey (a : Int) (x : ByteArray) (w : World) : (binOp .neq 31 (.agg #[.int .i64 a, .string x]) (.agg #[.int .i64 a, .string x])).run Tryd.prog w = .ok (.bool false) w := by
  rw [run_neq_struct, ck_eqKey]
  simp
/-- The boxes of a round, and both ledgers. -/
structure LpX (p7 p8 : Nat) (u : Dd) (kt : Int) (kx : ByteArray) (w : World) : Prop where
  q7 : Blk w p7 #[.int .u8 (u.kd : Int), .int .u8 (u.nm : Int), .int .i64 u.t, .string u.x, .int .u64 (u.q : Int), .bool u.ok, .string u.s] 34
  q8 : Blk w p8 #[.int .i64 kt, .string kx] 31
theorem LpX.later {p7 p8 : Nat} {u : Dd} {kt : Int} {kx : ByteArray} {w w' : World} (h : LpX p7 p8 u kt kx w) (hb : Below w.heap.size w w') : LpX p7 p8 u kt kx w' := ⟨h.q7.later hb, h.q8.later hb⟩
theorem LpX.k2 {B p7 p8 : Nat} {u : Dd} {kt : Int} {kx : ByteArray} {w w' : World} (h : LpX p7 p8 u kt kx w) (hk : K2 B w w') : LpX p7 p8 u kt kx w' :=
  ⟨hk.blk h.q7 (by decide) (by decide) (by decide) (by decide), hk.blk h.q8 (by decide) (by decide) (by decide) (by decide)⟩
theorem LpX.other {p7 p8 p : Nat} {u : Dd} {kt : Int} {kx : ByteArray} {w : World} {c : Array Value} {t : TypeId} (h : LpX p7 p8 u kt kx w) (hp : Blk w p c t) (h1 : t ≠ 34) (h2 : t ≠ 31) (j : Nat) (v : Value) : LpX p7 p8 u kt kx (w.setCell ⟨p, j, none⟩ v) := by
  have hgs := grown_set w p j v
  exact ⟨h.q7.kept hgs (fun e => Blk.ne h.q7 hp (fun e => h1 e.symm) (Option.some.inj e)), h.q8.kept hgs (fun e => Blk.ne h.q8 hp (fun e => h2 e.symm) (Option.some.inj e))⟩
/-- What a region with both calls of Begin holds. -/
abbrev S29 (p7 p8 : Nat) (u : Dd) (kt : Int) (kx : ByteArray) (w : World) : Prop := w.cell? ⟨p7, 4, none⟩ = some (.int .u64 (u.q : Int)) ∧ w.cell? ⟨p8, 0, none⟩ = some (.int .i64 kt) ∧ w.cell? ⟨p8, 1, none⟩ = some (.string kx) ∧ LpX p7 p8 u kt kx w
theorem LpX.s29 {p7 p8 : Nat} {u : Dd} {kt : Int} {kx : ByteArray} {w : World} (h : LpX p7 p8 u kt kx w) : S29 p7 p8 u kt kx w := ⟨h.q7.cell 4, h.q8.cell 0, h.q8.cell 1, h⟩
theorem S29.next {B p7 p8 : Nat} {u : Dd} {kt : Int} {kx : ByteArray} {w w' : World} (h : S29 p7 p8 u kt kx w) (hk : K2 B w w') : S29 p7 p8 u kt kx w' := (h.2.2.2.k2 hk).s29
/-- .. and with both of Note. -/
structure LpS (p10 : Nat) (s : St) (p7 p8 : Nat) (u : Dd) (kt : Int) (kx : ByteArray) (w : World) : Prop where
  bx : LpX p7 p8 u kt kx w
  st : Blk w p10 #[.int .i64 s.t, .string s.x, .int .u64 (s.q : Int), .bool s.f, .string s.s] 37
abbrev S21 (p10 : Nat) (s : St) (p7 p8 : Nat) (u : Dd) (kt : Int) (kx : ByteArray) (w : World) : Prop := w.cell? ⟨p10, 0, none⟩ = some (.int .i64 s.t) ∧ w.cell? ⟨p10, 1, none⟩ = some (.string s.x) ∧ w.cell? ⟨p10, 2, none⟩ = some (.int .u64 (s.q : Int)) ∧ w.cell? ⟨p10, 3, none⟩ = some (.bool s.f) ∧ w.cell? ⟨p10, 4, none⟩ = some (.string s.s) ∧ LpS p10 s p7 p8 u kt kx w
theorem LpS.s21 {p10 p7 p8 : Nat} {s : St} {u : Dd} {kt : Int} {kx : ByteArray} {w : World} (h : LpS p10 s p7 p8 u kt kx w) : S21 p10 s p7 p8 u kt kx w := ⟨h.st.cell 0, h.st.cell 1, h.st.cell 2, h.st.cell 3, h.st.cell 4, h⟩
theorem S21.next {B p10 p7 p8 : Nat} {s : St} {u : Dd} {kt : Int} {kx : ByteArray} {w w' : World} (h : S21 p10 s p7 p8 u kt kx w) (hk : K2 B w w') : S21 p10 s p7 p8 u kt kx w' :=
  LpS.s21 ⟨h.2.2.2.2.2.bx.k2 hk, hk.blk h.2.2.2.2.2.st (by decide) (by decide) (by decide) (by decide)⟩
set_option maxRecDepth 100000 in
set_option maxHeartbeats 8000000 in
theorem plays_walk (a : Option Addr) (c : Nat) (ds : List Dd) (g b : Addr) (W : World) (hg : Gv g W) (hn : Gn b W) (hin : DdsIn W a ds) (hds : ∀ p ∈ ds, p.kd < 256 ∧ p.nm < 256 ∧ p.q < 2 ^ 64 ∧ p.s.size ≤ maxLen ∧ p.x.size ≤ maxLen ∧ -9223372036854775808 ≤ p.t ∧ p.t ≤ 9223372036854775807) (hlen : ds.length ≤ maxLen) :
    Calls Tryd.prog 3 #[.slice a ds.length c] W fun e w' => e = .returned (.bool true) ∧ Below W.heap.size W w' := by
  obtain ⟨LL, hLL⟩ : ∃ LL, ds.length = LL := ⟨_, rfl⟩
  rw [hLL] at hlen ⊢
  have hlen' : LL ≤ 9223372036854775807 := hlen
  have HLL := Lib.hid hLL
  have HIN := Lib.hid hin
  have HDS := Lib.hid hds
  have HLW := Lib.hid (show 1 < W.heap.size ∧ 0 < W.heap.size from ⟨hg.2, hn.2⟩)
  have HG := Lib.hid (And.intro hg hn)
  have HEX := Lib.hid (ld_examples g b W hg hn)
  clear hLL hin hds hlen hg hn
  go_enter Tryd.func3, Tryd.ntmps3
  go_wp2_with fail
  refine HEX.out.mono ?_
  rintro e w ⟨rfl, hb⟩
  have HK := Lib.hid hb
  have HG := Lib.hid (And.intro (HG.out.1.below hb) (HG.out.2.later hb))
  clear hb HEX
  go_wp2_with fail
  refine (new_is w).mono ?_
  rintro e w1 ⟨l, rfl, h1, hb1⟩
  obtain ⟨w2, hw2, hb2, q2⟩ := ld_new w1 #[.slice none 0 0] 29
  have HT := Lib.hid (show Two w.heap.size W g b l w1.heap.size [] [] w2 from ⟨h1.later hb2, ⟨List.Pairwise.nil, Nat.zero_le _, fun m hm => by cases hm⟩, fun m hm => (by cases hm), ⟨.slice none 0 0, q2, World.ownsRow_nil _ _ _ _, hb1.size⟩, (HG.out.1.below hb1).below hb2, (HG.out.2.later hb1).later hb2, (HK.out.trans (hb1.mono HK.out.size)).trans (hb2.mono (Nat.le_trans HK.out.size hb1.size)), Nat.lt_of_lt_of_le HLW.out.1 HK.out.size, Nat.lt_of_lt_of_le HLW.out.2 HK.out.size, HK.out.size⟩)
  have HW := Lib.hid hw2
  clear hw2 hb2 q2 h1 hb1 HG HK
  go_wp2_with (rw [HW.out])
  obtain ⟨r, hr⟩ : ∃ r, w1.heap.size = r := ⟨_, rfl⟩
  rw [hr] at HT ⊢
  clear HW hr
  go_loopw [6, 7, 8, 9, 10, 11, 12, 13, 14] (fun vi _ _ _ _ _ _ _ _ wr => ∃ (i : Nat) (ms : List Mk), vi = .int .i64 (i : Int) ∧ i ≤ 60 ∧ i ≤ LL ∧ Two w.heap.size W g b l r ms ms wr) (fun vi _ _ _ _ _ _ _ _ _ => 60 - (intOf vi).toNat)
  case atStart => exact ⟨0, [], rfl, by omega, Nat.zero_le _, HT.out⟩
  case round =>
    clear HT HLW
    obtain ⟨i, ms, rfl, hi60, hiL, ht⟩ := hrel
    have HT := Lib.hid ht
    clear ht
    by_cases hlt : i < LL ∧ i < 60
    · obtain ⟨hl1, hl2⟩ := hlt
      have b1 : (i : Int) < (LL : Int) := by omega
      have b2 : (i : Int) < 60 := by omega
      have b3 : (0 : Int) ≤ (i : Int) := by omega
      have b4 : IntKind.i64.wrap ((i : Int) + 1) = (i : Int) + 1 := by rw [IntKind.wrap_i64]; omega
      obtain ⟨u, hx⟩ : ∃ u, ds[i]? = some u := ⟨_, List.getElem?_eq_getElem (by have := HLL.out; omega)⟩
      have hu := HDS.out u (List.mem_of_getElem? hx)
      obtain ⟨ab, ao, rfl, hal, p0, p1, p2, p3, p4, p5, p6⟩ := (HIN.out.below HT.out.be) i u hx
      obtain ⟨w3, hw3, hb3, q7⟩ := ld_new wr #[.int .u8 (u.kd : Int), .int .u8 (u.nm : Int), .int .i64 u.t, .string u.x, .int .u64 (u.q : Int), .bool u.ok, .string u.s] 34
      have HT := Lib.hid (HT.out.later hb3)
      have HW := Lib.hid hw3
      have HQ := Lib.hid q7
      have HU := Lib.hid hu
      have HKY := Lib.hid (dkey_any u w3 hu.2.1)
      clear hw3 hb3 q7 hx hu hal
      have z0 : w3.cell? ⟨wr.heap.size, 0, none⟩ = some (.int .u8 (u.kd : Int)) := HQ.out.cell 0
      have z1 : w3.cell? ⟨wr.heap.size, 1, none⟩ = some (.int .u8 (u.nm : Int)) := HQ.out.cell 1
      have z2 : w3.cell? ⟨wr.heap.size, 2, none⟩ = some (.int .i64 u.t) := HQ.out.cell 2
      have z3 : w3.cell? ⟨wr.heap.size, 3, none⟩ = some (.string u.x) := HQ.out.cell 3
      have z4 : w3.cell? ⟨wr.heap.size, 4, none⟩ = some (.int .u64 (u.q : Int)) := HQ.out.cell 4
      have z5 : w3.cell? ⟨wr.heap.size, 5, none⟩ = some (.bool u.ok) := HQ.out.cell 5
      have z6 : w3.cell? ⟨wr.heap.size, 6, none⟩ = some (.string u.s) := HQ.out.cell 6
      go_wp2_with (rw [HW.out])
      refine HKY.out.mono ?_
      rintro e w4 ⟨rfl, hb4⟩
      clear z0 z1 z2 z3 z4 z5 z6 p0 p1 p2 p3 p4 p5 p6
      have HT := Lib.hid (HT.out.later hb4)
      have HQ := Lib.hid (HQ.out.later hb4)
      obtain ⟨kt, hkt⟩ : ∃ kt, u.keyT = kt := ⟨_, rfl⟩
      obtain ⟨kx, hkx⟩ : ∃ kx, u.keyX = kx := ⟨_, rfl⟩
      rw [hkt, hkx]
      have HKX := Lib.hid (show kx.size ≤ maxLen by rw [← hkx]; unfold Dd.keyX; split; exact HU.out.2.2.2.2.1; unfold maxLen; split; decide; split; decide; decide)
      obtain ⟨w5, hw5, hb5, q8⟩ := ld_new w4 #[.int .i64 kt, .string kx] 31
      have HT := Lib.hid (HT.out.later hb5)
      have HX := Lib.hid (show LpX wr.heap.size w4.heap.size u kt kx w5 from ⟨HQ.out.later hb5, q8⟩)
      have HW := Lib.hid hw5
      clear hkt hkx hw5 hb5 q8 hb4 HQ HKY
      have z0 : w5.cell? ⟨wr.heap.size, 0, none⟩ = some (.int .u8 (u.kd : Int)) := HX.out.q7.cell 0
      obtain ⟨ρ, hρ⟩ : ∃ ρ, u.kd % 8 = ρ := ⟨_, rfl⟩
      obtain ⟨σ, hσ⟩ : ∃ σ, u.kd % 16 = σ := ⟨_, rfl⟩
      have hρ8 : ρ < 8 := by omega
      have hσρ : σ < 14 ∨ 6 ≤ ρ := by omega
      obtain ⟨d1, d2⟩ := mod_of u.kd 8 ρ hρ
      obtain ⟨d4, d5⟩ := mod_of u.kd 16 σ hσ
      rw [show ((8 : Nat) : Int) = 8 from rfl] at d1 d2
      rw [show ((16 : Nat) : Int) = 16 from rfl] at d4 d5
      have d3 : IntKind.u8.wrap (ρ : Int) = (ρ : Int) := by rw [show IntKind.u8.wrap (ρ : Int) = (ρ : Int) % 256 from rfl]; omega
      have d6 : IntKind.u8.wrap (σ : Int) = (σ : Int) := by rw [show IntKind.u8.wrap (σ : Int) = (σ : Int) % 256 from rfl]; omega
      clear hρ hσ
      go_upto_block 2 with (rw [HW.out])
      go_cut [9, 10] from 41 to 104 (fun s9 s10 wx => s9 = .bool true ∧ ∃ ms2, Two w.heap.size W g b l r ms2 ms2 wx ∧ LpX wr.heap.size w4.heap.size u kt kx wx)
      case rest =>
        obtain ⟨rfl, ms2, ht, hx⟩ := hcut
        have HT := Lib.hid ht
        have HX := Lib.hid hx
        clear ht hx z0 d1 d2 d3 d4 d5 d6 hρ8 hσρ
        have z1 := HX.out.q7.cell 4
        have z2 := HX.out.q8.cell 0
        have z3 := HX.out.q8.cell 1
        simp only [List.getElem?_toArray, List.getElem?_cons_succ, List.getElem?_cons_zero] at z1 z2 z3
        go_wp2_with fail
        refine (state2 HT.out).mono ?_
        rintro e wa ⟨rfl, hb⟩
        clear z1 z2 z3
        have HT := Lib.hid (HT.out.later hb)
        have HX := Lib.hid (HX.out.later hb)
        clear hb
        have z1 := HX.out.q7.cell 4
        have z2 := HX.out.q8.cell 0
        have z3 := HX.out.q8.cell 1
        simp only [List.getElem?_toArray, List.getElem?_cons_succ, List.getElem?_cons_zero] at z1 z2 z3
        obtain ⟨E1, hE1⟩ : ∃ E1, (stateE kt kx u.q ms2).1 = E1 := ⟨_, rfl⟩
        obtain ⟨E2, hE2⟩ : ∃ E2, (stateE kt kx u.q ms2).2 = E2 := ⟨_, rfl⟩
        rw [hE1, hE2]
        have HE := Lib.hid (And.intro hE1 hE2)
        clear hE1 hE2
        go_wp2_with fail
        refine (rstate2 HT.out).mono ?_
        rintro e wb ⟨rfl, hb⟩
        rw [HE.out.1, HE.out.2]
        clear z1 z2 z3
        have HT := Lib.hid (HT.out.later hb)
        clear hb
        go_wp2_with fail
        go_roundw
        case rel => exact ⟨i + 1, ms2, by go_num, by omega, by omega, HT.out⟩
        case measure => simp [intOf]; omega
      rcases (show ρ = 0 ∨ ρ = 1 ∨ ρ = 2 ∨ ρ = 3 ∨ ρ = 4 ∨ ρ = 5 ∨ ρ = 6 ∨ ρ = 7 by omega) with rfl | rfl | rfl | rfl | rfl | rfl | rfl | rfl
      · rw [show ((0 : Nat) : Int) = 0 from rfl] at d1 d2 d3
        clear hρ8
        clear hσρ d4 d5 d6
        go_wp2_with fail
        clear z0 d1 d2 d3
        have ST : S29 wr.heap.size w4.heap.size u kt kx w5.drew := (HX.out.later (Below.refl _ _).drew).s29
        have ht := HT.out.later (Below.refl _ _).drew
        go_region_held3 (fun w' => w'.cell? ⟨wr.heap.size, 4, none⟩ = some (.int .u64 (u.q : Int)) ∧ w'.cell? ⟨w4.heap.size, 0, none⟩ = some (.int .i64 kt) ∧ w'.cell? ⟨w4.heap.size, 1, none⟩ = some (.string kx) ∧ LpX wr.heap.size w4.heap.size u kt kx w') (with_reducible first | exact ST | exact S29.next (by assumption) (by assumption) | go_keep) ((first | (go_at_call 11; refine (begin2 (by assumption) HU.out.2.2.1).mono ?_; rintro e w8 ⟨rfl, ht, hk⟩) | (go_at_call 12; refine (rbegin2 (by assumption) HU.out.2.2.1 HKX.out).mono ?_; rintro e w9 ⟨rfl, ht, hk⟩)))
        all_goals
          rename_i hH
          have HX := Lib.hid hH.2.2.2
          have HT := Lib.hid ht
          clear hH ht hk ST
          have z1 := HX.out.q7.cell 4
          have z2 := HX.out.q8.cell 0
          have z3 := HX.out.q8.cell 1
          simp only [List.getElem?_toArray, List.getElem?_cons_succ, List.getElem?_cons_zero] at z1 z2 z3
          go_wp2_with fail
          go_meet
          exact ⟨rfl, begM kt kx u.q ms, HT.out, HX.out⟩
      · rw [show ((1 : Nat) : Int) = 1 from rfl] at d1 d2 d3
        clear hρ8
        clear hσρ d4 d5 d6
        go_wp2_with fail
        clear z0 d1 d2 d3
        have ST : S29 wr.heap.size w4.heap.size u kt kx w5.drew := (HX.out.later (Below.refl _ _).drew).s29
        have ht := HT.out.later (Below.refl _ _).drew
        go_region_held3 (fun w' => w'.cell? ⟨wr.heap.size, 4, none⟩ = some (.int .u64 (u.q : Int)) ∧ w'.cell? ⟨w4.heap.size, 0, none⟩ = some (.int .i64 kt) ∧ w'.cell? ⟨w4.heap.size, 1, none⟩ = some (.string kx) ∧ LpX wr.heap.size w4.heap.size u kt kx w') (with_reducible first | exact ST | exact S29.next (by assumption) (by assumption) | go_keep) ((first | (go_at_call 11; refine (begin2 (by assumption) HU.out.2.2.1).mono ?_; rintro e w8 ⟨rfl, ht, hk⟩) | (go_at_call 12; refine (rbegin2 (by assumption) HU.out.2.2.1 HKX.out).mono ?_; rintro e w9 ⟨rfl, ht, hk⟩)))
        all_goals
          rename_i hH
          have HX := Lib.hid hH.2.2.2
          have HT := Lib.hid ht
          clear hH ht hk ST
          have z1 := HX.out.q7.cell 4
          have z2 := HX.out.q8.cell 0
          have z3 := HX.out.q8.cell 1
          simp only [List.getElem?_toArray, List.getElem?_cons_succ, List.getElem?_cons_zero] at z1 z2 z3
          go_wp2_with fail
          go_meet
          exact ⟨rfl, begM kt kx u.q ms, HT.out, HX.out⟩
      · rw [show ((2 : Nat) : Int) = 2 from rfl] at d1 d2 d3
        clear hρ8
        clear hσρ d4 d5 d6
        go_wp2_with fail
        clear z0 d1 d2 d3
        have ST : S29 wr.heap.size w4.heap.size u kt kx w5.drew := (HX.out.later (Below.refl _ _).drew).s29
        have ht := HT.out.later (Below.refl _ _).drew
        go_region_held3 (fun w' => w'.cell? ⟨wr.heap.size, 4, none⟩ = some (.int .u64 (u.q : Int)) ∧ w'.cell? ⟨w4.heap.size, 0, none⟩ = some (.int .i64 kt) ∧ w'.cell? ⟨w4.heap.size, 1, none⟩ = some (.string kx) ∧ LpX wr.heap.size w4.heap.size u kt kx w') (with_reducible first | exact ST | exact S29.next (by assumption) (by assumption) | go_keep) ((first | (go_at_call 11; refine (begin2 (by assumption) HU.out.2.2.1).mono ?_; rintro e w8 ⟨rfl, ht, hk⟩) | (go_at_call 12; refine (rbegin2 (by assumption) HU.out.2.2.1 HKX.out).mono ?_; rintro e w9 ⟨rfl, ht, hk⟩)))
        all_goals
          rename_i hH
          have HX := Lib.hid hH.2.2.2
          have HT := Lib.hid ht
          clear hH ht hk ST
          have z1 := HX.out.q7.cell 4
          have z2 := HX.out.q8.cell 0
          have z3 := HX.out.q8.cell 1
          simp only [List.getElem?_toArray, List.getElem?_cons_succ, List.getElem?_cons_zero] at z1 z2 z3
          go_wp2_with fail
          go_meet
          exact ⟨rfl, begM kt kx u.q ms, HT.out, HX.out⟩
      · rw [show ((3 : Nat) : Int) = 3 from rfl] at d1 d2 d3
        clear hρ8
        have e6 : (σ : Int) < 14 := by omega
        clear hσρ
        have z1 : w5.cell? ⟨wr.heap.size, 4, none⟩ = some (.int .u64 (u.q : Int)) := HX.out.q7.cell 4
        have z2 : w5.cell? ⟨w4.heap.size, 0, none⟩ = some (.int .i64 kt) := HX.out.q8.cell 0
        have z3 : w5.cell? ⟨w4.heap.size, 1, none⟩ = some (.string kx) := HX.out.q8.cell 1
        have z4 : w5.cell? ⟨wr.heap.size, 5, none⟩ = some (.bool u.ok) := HX.out.q7.cell 5
        have z5 : w5.cell? ⟨wr.heap.size, 6, none⟩ = some (.string u.s) := HX.out.q7.cell 6
        have HLB := Lib.hid HT.out.hB
        obtain ⟨f, hf⟩ : ∃ f, u.ok = f := ⟨_, rfl⟩
        obtain ⟨w6, hw6, hb6, q10⟩ := ld_new w5 #[.int .i64 kt, .string kx, .int .u64 (u.q : Int), .bool f, .string u.s] 37
        have HT := Lib.hid (HT.out.later hb6)
        have HX := Lib.hid (HX.out.later hb6)
        have HW6 := Lib.hid hw6
        have HS := Lib.hid q10
        have HF := Lib.hid hf
        rw [hf] at z4
        have y0 : w6.cell? ⟨wr.heap.size, 0, none⟩ = some (.int .u8 (u.kd : Int)) := HX.out.q7.cell 0
        have y4 : w6.cell? ⟨wr.heap.size, 5, none⟩ = some (.bool f) := by rw [← hf]; exact HX.out.q7.cell 5
        clear hw6 hb6 q10 hf
        cases f
        · go_wp2_with (rw [HW6.out])
          clear z0 z1 z2 z3 z4 z5 y0 y4 d1 d2 d3 d4 d5 d6 e6
          have ST : S21 w5.heap.size (⟨kt, kx, u.q, false, u.s⟩ : St) wr.heap.size w4.heap.size u kt kx w6.drew := LpS.s21 ⟨HX.out.later (Below.refl _ _).drew, HS.out.later (Below.refl _ _).drew⟩
          have ht := HT.out.later (Below.refl _ _).drew
          go_region_held3 (fun w' => w'.cell? ⟨w5.heap.size, 0, none⟩ = some (.int .i64 kt) ∧ w'.cell? ⟨w5.heap.size, 1, none⟩ = some (.string kx) ∧ w'.cell? ⟨w5.heap.size, 2, none⟩ = some (.int .u64 (u.q : Int)) ∧ w'.cell? ⟨w5.heap.size, 3, none⟩ = some (.bool false) ∧ w'.cell? ⟨w5.heap.size, 4, none⟩ = some (.string u.s) ∧ LpS w5.heap.size (⟨kt, kx, u.q, false, u.s⟩ : St) wr.heap.size w4.heap.size u kt kx w') (with_reducible first | exact ST | exact S21.next (p10 := w5.heap.size) (s := (⟨kt, kx, u.q, false, u.s⟩ : St)) (p7 := wr.heap.size) (p8 := w4.heap.size) (u := u) (kt := kt) (kx := kx) (by assumption) (by assumption) | go_keep) ((first | (go_at_call 7; refine (note2 (s := (⟨kt, kx, u.q, false, u.s⟩ : St)) (by assumption) HU.out.2.2.1).mono ?_; rintro e w8 ⟨rfl, ht, hk⟩) | (go_at_call 8; refine (rnote2 (s := (⟨kt, kx, u.q, false, u.s⟩ : St)) (by assumption) HU.out.2.2.1 HKX.out).mono ?_; rintro e w9 ⟨rfl, ht, hk⟩)))
          all_goals
            rename_i hH
            have HX := Lib.hid hH.2.2.2.2.2.bx
            have HT := Lib.hid ht
            clear hH ht hk ST
            have z1 := HX.out.q7.cell 4
            have z2 := HX.out.q8.cell 0
            have z3 := HX.out.q8.cell 1
            simp only [List.getElem?_toArray, List.getElem?_cons_succ, List.getElem?_cons_zero] at z1 z2 z3
            go_wp2_with fail
            go_meet
            exact ⟨rfl, noteR (⟨kt, kx, u.q, false, u.s⟩ : St) ms, HT.out, HX.out⟩
        · have x4 : w6.cell? ⟨w5.heap.size, 4, none⟩ = some (.string u.s) := HS.out.cell 4
          have x5 : w6.frozen? ⟨w5.heap.size, 4, none⟩ = false := HS.out.frozen 4
          go_wp2_with (rw [HW6.out])
          clear z0 z1 z2 z3 z4 z5 y0 y4 d1 d2 d3 d4 d5 d6 e6
          clear x4 x5
          have HX := Lib.hid (HX.out.other HS.out (by decide) (by decide) 4 (.string ⟨#[]⟩))
          have HT := Lib.hid (HT.out.other HS.out HLB.out (by decide) (by decide) (by decide) (by decide) 4 (.string ⟨#[]⟩))
          have hs := HS.out.set 4 (.string ⟨#[]⟩)
          have HS := Lib.hid (show Blk (w6.setCell ⟨w5.heap.size, 4, none⟩ (.string ⟨#[]⟩)) w5.heap.size #[.int .i64 kt, .string kx, .int .u64 (u.q : Int), .bool true, .string ⟨#[]⟩] 37 from hs)
          clear hs
          generalize w6.setCell ⟨w5.heap.size, 4, none⟩ (.string ⟨#[]⟩) = w7 at HX HT HS ⊢
          have ST : S21 w5.heap.size (⟨kt, kx, u.q, true, ⟨#[]⟩⟩ : St) wr.heap.size w4.heap.size u kt kx w7.drew := LpS.s21 ⟨HX.out.later (Below.refl _ _).drew, HS.out.later (Below.refl _ _).drew⟩
          have ht := HT.out.later (Below.refl _ _).drew
          go_region_held3 (fun w' => w'.cell? ⟨w5.heap.size, 0, none⟩ = some (.int .i64 kt) ∧ w'.cell? ⟨w5.heap.size, 1, none⟩ = some (.string kx) ∧ w'.cell? ⟨w5.heap.size, 2, none⟩ = some (.int .u64 (u.q : Int)) ∧ w'.cell? ⟨w5.heap.size, 3, none⟩ = some (.bool true) ∧ w'.cell? ⟨w5.heap.size, 4, none⟩ = some (.string ⟨#[]⟩) ∧ LpS w5.heap.size (⟨kt, kx, u.q, true, ⟨#[]⟩⟩ : St) wr.heap.size w4.heap.size u kt kx w') (with_reducible first | exact ST | exact S21.next (p10 := w5.heap.size) (s := (⟨kt, kx, u.q, true, ⟨#[]⟩⟩ : St)) (p7 := wr.heap.size) (p8 := w4.heap.size) (u := u) (kt := kt) (kx := kx) (by assumption) (by assumption) | go_keep) ((first | (go_at_call 7; refine (note2 (s := (⟨kt, kx, u.q, true, ⟨#[]⟩⟩ : St)) (by assumption) HU.out.2.2.1).mono ?_; rintro e w8 ⟨rfl, ht, hk⟩) | (go_at_call 8; refine (rnote2 (s := (⟨kt, kx, u.q, true, ⟨#[]⟩⟩ : St)) (by assumption) HU.out.2.2.1 HKX.out).mono ?_; rintro e w9 ⟨rfl, ht, hk⟩)))
          all_goals
            rename_i hH
            have HX := Lib.hid hH.2.2.2.2.2.bx
            have HT := Lib.hid ht
            clear hH ht hk ST
            have z1 := HX.out.q7.cell 4
            have z2 := HX.out.q8.cell 0
            have z3 := HX.out.q8.cell 1
            simp only [List.getElem?_toArray, List.getElem?_cons_succ, List.getElem?_cons_zero] at z1 z2 z3
            go_wp2_with fail
            go_meet
            exact ⟨rfl, noteR (⟨kt, kx, u.q, true, ⟨#[]⟩⟩ : St) ms, HT.out, HX.out⟩
      · rw [show ((4 : Nat) : Int) = 4 from rfl] at d1 d2 d3
        clear hρ8
        have e6 : (σ : Int) < 14 := by omega
        clear hσρ
        have z1 : w5.cell? ⟨wr.heap.size, 4, none⟩ = some (.int .u64 (u.q : Int)) := HX.out.q7.cell 4
        have z2 : w5.cell? ⟨w4.heap.size, 0, none⟩ = some (.int .i64 kt) := HX.out.q8.cell 0
        have z3 : w5.cell? ⟨w4.heap.size, 1, none⟩ = some (.string kx) := HX.out.q8.cell 1
        have z4 : w5.cell? ⟨wr.heap.size, 5, none⟩ = some (.bool u.ok) := HX.out.q7.cell 5
        have z5 : w5.cell? ⟨wr.heap.size, 6, none⟩ = some (.string u.s) := HX.out.q7.cell 6
        have HLB := Lib.hid HT.out.hB
        obtain ⟨f, hf⟩ : ∃ f, u.ok = f := ⟨_, rfl⟩
        obtain ⟨w6, hw6, hb6, q10⟩ := ld_new w5 #[.int .i64 kt, .string kx, .int .u64 (u.q : Int), .bool f, .string u.s] 37
        have HT := Lib.hid (HT.out.later hb6)
        have HX := Lib.hid (HX.out.later hb6)
        have HW6 := Lib.hid hw6
        have HS := Lib.hid q10
        have HF := Lib.hid hf
        rw [hf] at z4
        have y0 : w6.cell? ⟨wr.heap.size, 0, none⟩ = some (.int .u8 (u.kd : Int)) := HX.out.q7.cell 0
        have y4 : w6.cell? ⟨wr.heap.size, 5, none⟩ = some (.bool f) := by rw [← hf]; exact HX.out.q7.cell 5
        clear hw6 hb6 q10 hf
        cases f
        · go_wp2_with (rw [HW6.out])
          clear z0 z1 z2 z3 z4 z5 y0 y4 d1 d2 d3 d4 d5 d6 e6
          have ST : S21 w5.heap.size (⟨kt, kx, u.q, false, u.s⟩ : St) wr.heap.size w4.heap.size u kt kx w6.drew := LpS.s21 ⟨HX.out.later (Below.refl _ _).drew, HS.out.later (Below.refl _ _).drew⟩
          have ht := HT.out.later (Below.refl _ _).drew
          go_region_held3 (fun w' => w'.cell? ⟨w5.heap.size, 0, none⟩ = some (.int .i64 kt) ∧ w'.cell? ⟨w5.heap.size, 1, none⟩ = some (.string kx) ∧ w'.cell? ⟨w5.heap.size, 2, none⟩ = some (.int .u64 (u.q : Int)) ∧ w'.cell? ⟨w5.heap.size, 3, none⟩ = some (.bool false) ∧ w'.cell? ⟨w5.heap.size, 4, none⟩ = some (.string u.s) ∧ LpS w5.heap.size (⟨kt, kx, u.q, false, u.s⟩ : St) wr.heap.size w4.heap.size u kt kx w') (with_reducible first | exact ST | exact S21.next (p10 := w5.heap.size) (s := (⟨kt, kx, u.q, false, u.s⟩ : St)) (p7 := wr.heap.size) (p8 := w4.heap.size) (u := u) (kt := kt) (kx := kx) (by assumption) (by assumption) | go_keep) ((first | (go_at_call 7; refine (note2 (s := (⟨kt, kx, u.q, false, u.s⟩ : St)) (by assumption) HU.out.2.2.1).mono ?_; rintro e w8 ⟨rfl, ht, hk⟩) | (go_at_call 8; refine (rnote2 (s := (⟨kt, kx, u.q, false, u.s⟩ : St)) (by assumption) HU.out.2.2.1 HKX.out).mono ?_; rintro e w9 ⟨rfl, ht, hk⟩)))
          all_goals
            rename_i hH
            have HX := Lib.hid hH.2.2.2.2.2.bx
            have HT := Lib.hid ht
            clear hH ht hk ST
            have z1 := HX.out.q7.cell 4
            have z2 := HX.out.q8.cell 0
            have z3 := HX.out.q8.cell 1
            simp only [List.getElem?_toArray, List.getElem?_cons_succ, List.getElem?_cons_zero] at z1 z2 z3
            go_wp2_with fail
            go_meet
            exact ⟨rfl, noteR (⟨kt, kx, u.q, false, u.s⟩ : St) ms, HT.out, HX.out⟩
        · have x4 : w6.cell? ⟨w5.heap.size, 4, none⟩ = some (.string u.s) := HS.out.cell 4
          have x5 : w6.frozen? ⟨w5.heap.size, 4, none⟩ = false := HS.out.frozen 4
          go_wp2_with (rw [HW6.out])
          clear z0 z1 z2 z3 z4 z5 y0 y4 d1 d2 d3 d4 d5 d6 e6
          clear x4 x5
          have HX := Lib.hid (HX.out.other HS.out (by decide) (by decide) 4 (.string ⟨#[]⟩))
          have HT := Lib.hid (HT.out.other HS.out HLB.out (by decide) (by decide) (by decide) (by decide) 4 (.string ⟨#[]⟩))
          have hs := HS.out.set 4 (.string ⟨#[]⟩)
          have HS := Lib.hid (show Blk (w6.setCell ⟨w5.heap.size, 4, none⟩ (.string ⟨#[]⟩)) w5.heap.size #[.int .i64 kt, .string kx, .int .u64 (u.q : Int), .bool true, .string ⟨#[]⟩] 37 from hs)
          clear hs
          generalize w6.setCell ⟨w5.heap.size, 4, none⟩ (.string ⟨#[]⟩) = w7 at HX HT HS ⊢
          have ST : S21 w5.heap.size (⟨kt, kx, u.q, true, ⟨#[]⟩⟩ : St) wr.heap.size w4.heap.size u kt kx w7.drew := LpS.s21 ⟨HX.out.later (Below.refl _ _).drew, HS.out.later (Below.refl _ _).drew⟩
          have ht := HT.out.later (Below.refl _ _).drew
          go_region_held3 (fun w' => w'.cell? ⟨w5.heap.size, 0, none⟩ = some (.int .i64 kt) ∧ w'.cell? ⟨w5.heap.size, 1, none⟩ = some (.string kx) ∧ w'.cell? ⟨w5.heap.size, 2, none⟩ = some (.int .u64 (u.q : Int)) ∧ w'.cell? ⟨w5.heap.size, 3, none⟩ = some (.bool true) ∧ w'.cell? ⟨w5.heap.size, 4, none⟩ = some (.string ⟨#[]⟩) ∧ LpS w5.heap.size (⟨kt, kx, u.q, true, ⟨#[]⟩⟩ : St) wr.heap.size w4.heap.size u kt kx w') (with_reducible first | exact ST | exact S21.next (p10 := w5.heap.size) (s := (⟨kt, kx, u.q, true, ⟨#[]⟩⟩ : St)) (p7 := wr.heap.size) (p8 := w4.heap.size) (u := u) (kt := kt) (kx := kx) (by assumption) (by assumption) | go_keep) ((first | (go_at_call 7; refine (note2 (s := (⟨kt, kx, u.q, true, ⟨#[]⟩⟩ : St)) (by assumption) HU.out.2.2.1).mono ?_; rintro e w8 ⟨rfl, ht, hk⟩) | (go_at_call 8; refine (rnote2 (s := (⟨kt, kx, u.q, true, ⟨#[]⟩⟩ : St)) (by assumption) HU.out.2.2.1 HKX.out).mono ?_; rintro e w9 ⟨rfl, ht, hk⟩)))
          all_goals
            rename_i hH
            have HX := Lib.hid hH.2.2.2.2.2.bx
            have HT := Lib.hid ht
            clear hH ht hk ST
            have z1 := HX.out.q7.cell 4
            have z2 := HX.out.q8.cell 0
            have z3 := HX.out.q8.cell 1
            simp only [List.getElem?_toArray, List.getElem?_cons_succ, List.getElem?_cons_zero] at z1 z2 z3
            go_wp2_with fail
            go_meet
            exact ⟨rfl, noteR (⟨kt, kx, u.q, true, ⟨#[]⟩⟩ : St) ms, HT.out, HX.out⟩
      · rw [show ((5 : Nat) : Int) = 5 from rfl] at d1 d2 d3
        clear hρ8
        have e6 : (σ : Int) < 14 := by omega
        clear hσρ
        have z1 : w5.cell? ⟨wr.heap.size, 4, none⟩ = some (.int .u64 (u.q : Int)) := HX.out.q7.cell 4
        have z2 : w5.cell? ⟨w4.heap.size, 0, none⟩ = some (.int .i64 kt) := HX.out.q8.cell 0
        have z3 : w5.cell? ⟨w4.heap.size, 1, none⟩ = some (.string kx) := HX.out.q8.cell 1
        have z4 : w5.cell? ⟨wr.heap.size, 5, none⟩ = some (.bool u.ok) := HX.out.q7.cell 5
        have z5 : w5.cell? ⟨wr.heap.size, 6, none⟩ = some (.string u.s) := HX.out.q7.cell 6
        have HLB := Lib.hid HT.out.hB
        obtain ⟨f, hf⟩ : ∃ f, u.ok = f := ⟨_, rfl⟩
        obtain ⟨w6, hw6, hb6, q10⟩ := ld_new w5 #[.int .i64 kt, .string kx, .int .u64 (u.q : Int), .bool f, .string u.s] 37
        have HT := Lib.hid (HT.out.later hb6)
        have HX := Lib.hid (HX.out.later hb6)
        have HW6 := Lib.hid hw6
        have HS := Lib.hid q10
        have HF := Lib.hid hf
        rw [hf] at z4
        have y0 : w6.cell? ⟨wr.heap.size, 0, none⟩ = some (.int .u8 (u.kd : Int)) := HX.out.q7.cell 0
        have y4 : w6.cell? ⟨wr.heap.size, 5, none⟩ = some (.bool f) := by rw [← hf]; exact HX.out.q7.cell 5
        clear hw6 hb6 q10 hf
        cases f
        · go_wp2_with (rw [HW6.out])
          clear z0 z1 z2 z3 z4 z5 y0 y4 d1 d2 d3 d4 d5 d6 e6
          have ST : S21 w5.heap.size (⟨kt, kx, u.q, false, u.s⟩ : St) wr.heap.size w4.heap.size u kt kx w6.drew := LpS.s21 ⟨HX.out.later (Below.refl _ _).drew, HS.out.later (Below.refl _ _).drew⟩
          have ht := HT.out.later (Below.refl _ _).drew
          go_region_held3 (fun w' => w'.cell? ⟨w5.heap.size, 0, none⟩ = some (.int .i64 kt) ∧ w'.cell? ⟨w5.heap.size, 1, none⟩ = some (.string kx) ∧ w'.cell? ⟨w5.heap.size, 2, none⟩ = some (.int .u64 (u.q : Int)) ∧ w'.cell? ⟨w5.heap.size, 3, none⟩ = some (.bool false) ∧ w'.cell? ⟨w5.heap.size, 4, none⟩ = some (.string u.s) ∧ LpS w5.heap.size (⟨kt, kx, u.q, false, u.s⟩ : St) wr.heap.size w4.heap.size u kt kx w') (with_reducible first | exact ST | exact S21.next (p10 := w5.heap.size) (s := (⟨kt, kx, u.q, false, u.s⟩ : St)) (p7 := wr.heap.size) (p8 := w4.heap.size) (u := u) (kt := kt) (kx := kx) (by assumption) (by assumption) | go_keep) ((first | (go_at_call 7; refine (note2 (s := (⟨kt, kx, u.q, false, u.s⟩ : St)) (by assumption) HU.out.2.2.1).mono ?_; rintro e w8 ⟨rfl, ht, hk⟩) | (go_at_call 8; refine (rnote2 (s := (⟨kt, kx, u.q, false, u.s⟩ : St)) (by assumption) HU.out.2.2.1 HKX.out).mono ?_; rintro e w9 ⟨rfl, ht, hk⟩)))
          all_goals
            rename_i hH
            have HX := Lib.hid hH.2.2.2.2.2.bx
            have HT := Lib.hid ht
            clear hH ht hk ST
            have z1 := HX.out.q7.cell 4
            have z2 := HX.out.q8.cell 0
            have z3 := HX.out.q8.cell 1
            simp only [List.getElem?_toArray, List.getElem?_cons_succ, List.getElem?_cons_zero] at z1 z2 z3
            go_wp2_with fail
            go_meet
            exact ⟨rfl, noteR (⟨kt, kx, u.q, false, u.s⟩ : St) ms, HT.out, HX.out⟩
        · have x4 : w6.cell? ⟨w5.heap.size, 4, none⟩ = some (.string u.s) := HS.out.cell 4
          have x5 : w6.frozen? ⟨w5.heap.size, 4, none⟩ = false := HS.out.frozen 4
          go_wp2_with (rw [HW6.out])
          clear z0 z1 z2 z3 z4 z5 y0 y4 d1 d2 d3 d4 d5 d6 e6
          clear x4 x5
          have HX := Lib.hid (HX.out.other HS.out (by decide) (by decide) 4 (.string ⟨#[]⟩))
          have HT := Lib.hid (HT.out.other HS.out HLB.out (by decide) (by decide) (by decide) (by decide) 4 (.string ⟨#[]⟩))
          have hs := HS.out.set 4 (.string ⟨#[]⟩)
          have HS := Lib.hid (show Blk (w6.setCell ⟨w5.heap.size, 4, none⟩ (.string ⟨#[]⟩)) w5.heap.size #[.int .i64 kt, .string kx, .int .u64 (u.q : Int), .bool true, .string ⟨#[]⟩] 37 from hs)
          clear hs
          generalize w6.setCell ⟨w5.heap.size, 4, none⟩ (.string ⟨#[]⟩) = w7 at HX HT HS ⊢
          have ST : S21 w5.heap.size (⟨kt, kx, u.q, true, ⟨#[]⟩⟩ : St) wr.heap.size w4.heap.size u kt kx w7.drew := LpS.s21 ⟨HX.out.later (Below.refl _ _).drew, HS.out.later (Below.refl _ _).drew⟩
          have ht := HT.out.later (Below.refl _ _).drew
          go_region_held3 (fun w' => w'.cell? ⟨w5.heap.size, 0, none⟩ = some (.int .i64 kt) ∧ w'.cell? ⟨w5.heap.size, 1, none⟩ = some (.string kx) ∧ w'.cell? ⟨w5.heap.size, 2, none⟩ = some (.int .u64 (u.q : Int)) ∧ w'.cell? ⟨w5.heap.size, 3, none⟩ = some (.bool true) ∧ w'.cell? ⟨w5.heap.size, 4, none⟩ = some (.string ⟨#[]⟩) ∧ LpS w5.heap.size (⟨kt, kx, u.q, true, ⟨#[]⟩⟩ : St) wr.heap.size w4.heap.size u kt kx w') (with_reducible first | exact ST | exact S21.next (p10 := w5.heap.size) (s := (⟨kt, kx, u.q, true, ⟨#[]⟩⟩ : St)) (p7 := wr.heap.size) (p8 := w4.heap.size) (u := u) (kt := kt) (kx := kx) (by assumption) (by assumption) | go_keep) ((first | (go_at_call 7; refine (note2 (s := (⟨kt, kx, u.q, true, ⟨#[]⟩⟩ : St)) (by assumption) HU.out.2.2.1).mono ?_; rintro e w8 ⟨rfl, ht, hk⟩) | (go_at_call 8; refine (rnote2 (s := (⟨kt, kx, u.q, true, ⟨#[]⟩⟩ : St)) (by assumption) HU.out.2.2.1 HKX.out).mono ?_; rintro e w9 ⟨rfl, ht, hk⟩)))
          all_goals
            rename_i hH
            have HX := Lib.hid hH.2.2.2.2.2.bx
            have HT := Lib.hid ht
            clear hH ht hk ST
            have z1 := HX.out.q7.cell 4
            have z2 := HX.out.q8.cell 0
            have z3 := HX.out.q8.cell 1
            simp only [List.getElem?_toArray, List.getElem?_cons_succ, List.getElem?_cons_zero] at z1 z2 z3
            go_wp2_with fail
            go_meet
            exact ⟨rfl, noteR (⟨kt, kx, u.q, true, ⟨#[]⟩⟩ : St) ms, HT.out, HX.out⟩
      · rw [show ((6 : Nat) : Int) = 6 from rfl] at d1 d2 d3
        clear hρ8
        clear hσρ d4 d5 d6
        have z1 : w5.cell? ⟨wr.heap.size, 4, none⟩ = some (.int .u64 (u.q : Int)) := HX.out.q7.cell 4
        obtain ⟨τ, hτ⟩ : ∃ τ, u.q % 4 = τ := ⟨_, rfl⟩
        obtain ⟨g1, g2⟩ := mod_of u.q 4 τ hτ
        rw [show ((4 : Nat) : Int) = 4 from rfl] at g1 g2
        have g3 : IntKind.u64.wrap (τ : Int) = (τ : Int) := by rw [show IntKind.u64.wrap (τ : Int) = (τ : Int) % 18446744073709551616 from rfl]; omega
        clear hτ
        by_cases hτ0 : τ = 0
        · subst hτ0
          rw [show ((0 : Nat) : Int) = 0 from rfl] at g1 g2 g3
          go_wp2_with fail
          refine (erase2 HT.out).mono ?_
          rintro e w6 ⟨rfl, ht, hk⟩
          have HX := Lib.hid (HX.out.k2 hk)
          have HT := Lib.hid ht
          clear ht hk z0 z1 d1 d2 d3 g1 g2 g3
          go_wp2_with fail
          refine (rerase2 HT.out).mono ?_
          rintro e w7 ⟨rfl, ht, hk⟩
          have HX := Lib.hid (HX.out.k2 hk)
          have HT := Lib.hid ht
          clear ht hk
          have z1 := HX.out.q7.cell 4
          have z2 := HX.out.q8.cell 0
          have z3 := HX.out.q8.cell 1
          simp only [List.getElem?_toArray, List.getElem?_cons_succ, List.getElem?_cons_zero] at z1 z2 z3
          go_wp2_with fail
          go_meet
          exact ⟨rfl, eraseM ms, HT.out, HX.out⟩
        · have g4 : ¬ (τ : Int) = 0 := by omega
          have g5 : ((τ : Int) == 0) = false := beq_eq_false_iff_ne.2 g4
          clear hτ0
          have z2 : w5.cell? ⟨w4.heap.size, 0, none⟩ = some (.int .i64 kt) := HX.out.q8.cell 0
          have z3 : w5.cell? ⟨w4.heap.size, 1, none⟩ = some (.string kx) := HX.out.q8.cell 1
          have z1 := HX.out.q7.cell 4
          have z2 := HX.out.q8.cell 0
          have z3 := HX.out.q8.cell 1
          simp only [List.getElem?_toArray, List.getElem?_cons_succ, List.getElem?_cons_zero] at z1 z2 z3
          go_wp2_with fail
          go_meet
          exact ⟨rfl, ms, HT.out, HX.out⟩
      · rw [show ((7 : Nat) : Int) = 7 from rfl] at d1 d2 d3
        clear hρ8
        clear hσρ d4 d5 d6
        have z1 := HX.out.q7.cell 4
        have z2 := HX.out.q8.cell 0
        have z3 := HX.out.q8.cell 1
        simp only [List.getElem?_toArray, List.getElem?_cons_succ, List.getElem?_cons_zero] at z1 z2 z3
        have z1 := HX.out.q7.cell 4
        have z2 := HX.out.q8.cell 0
        have z3 := HX.out.q8.cell 1
        simp only [List.getElem?_toArray, List.getElem?_cons_succ, List.getElem?_cons_zero] at z1 z2 z3
        go_wp2_with fail
        clear z0
        go_meet
        exact ⟨rfl, ms, HT.out, HX.out⟩
    · have HLT := Lib.hid hlt
      clear hlt
      have hgo : (¬ (i : Int) < (LL : Int)) ∨ ((i : Int) < (LL : Int) ∧ ¬ (i : Int) < 60) := by
        by_cases h : i < LL
        · exact .inr ⟨by omega, fun h2 => HLT.out ⟨h, by omega⟩⟩
        · exact .inl (by omega)
      have hmk := marks2 HT.out
      obtain ⟨M, hM⟩ : ∃ M, ms.length = M := ⟨_, rfl⟩
      have hM2 : M ≤ 1024 := by rw [← hM]; exact HT.out.ok.len
      have HM := Lib.hid (And.intro hM hM2)
      have HMK := Lib.hid hmk
      clear hM hM2 hmk
      rcases hgo with hg1 | ⟨hg1, hg2⟩
      all_goals
        go_wp2_with fail
        refine HMK.out.mono ?_
        rintro e w6 ⟨v, rfl, hrow, hb⟩
        have HT := Lib.hid (HT.out.later hb)
        clear hb HMK
        obtain ⟨a3, c3, rfl⟩ := row_shape hrow
        have hat := mksAt_row hrow
        obtain ⟨rv, hrv⟩ := HT.out.rf
        obtain ⟨a4, c4, rfl, hrd⟩ := hrv.rd
        rw [HM.out.1]
        have HRD := Lib.hid (And.intro hrd (And.intro hat HT.out.be))
        have x0 : w6.cell? ⟨r, 0, none⟩ = some (.slice a4 M c4) := by have := hrd.blk.cell 0; rw [HM.out.1] at this; exact this
        clear hrow hat hrv hrd
        have hm1 : (M : Int) ≤ 1024 := by have := HM.out.2; omega
        go_wp2_with fail
        go_loopw [16] (fun vj wq => ∃ j : Nat, vj = .int .i64 (j : Int) ∧ j ≤ M ∧ RfRd r a4 c4 ms wq ∧ MksAt wq a3 ms ∧ Below W.heap.size W wq) (fun vj _ => M - (intOf vj).toNat)
        case atStart => exact ⟨0, rfl, Nat.zero_le _, HRD.out.1, HRD.out.2.1, HRD.out.2.2⟩
        case round =>
          clear x0
          obtain ⟨j, rfl, hj, hrd, hat, hbe⟩ := hrel
          have HD := Lib.hid (And.intro hrd (And.intro hat hbe))
          by_cases hlt : j < M
          · have b5 : (j : Int) < (M : Int) := by omega
            have b6 : (0 : Int) ≤ (j : Int) := by omega
            have b7 : IntKind.i64.wrap ((j : Int) + 1) = (j : Int) + 1 := by rw [IntKind.wrap_i64]; omega
            obtain ⟨m, hx⟩ : ∃ m, ms[j]? = some m := ⟨_, List.getElem?_eq_getElem (by have := HM.out.1; omega)⟩
            obtain ⟨g3, o3, rfl, hg3, p0, p1, p2, p3, p4⟩ := hat j m hx
            obtain ⟨g4, o4, rfl, hg4, r0, r1, r2, r3, r4⟩ := hrd.at' j m hx
            have x0 : wr.cell? ⟨r, 0, none⟩ = some (.slice (some ⟨g4, o4, none⟩) M c4) := by have := hrd.blk.cell 0; rw [HM.out.1] at this; exact this
            have e1 := fun w => lp_neqKey m.t m.x w
            have g1 := fun op a b xs ys w => ck_guardKey op a b xs ys w
            clear hx hat hrd hbe hg3 hg4
            go_wp2_with fail
            go_quiet (fail)
            have hb : Below wr.heap.size wr (wr.drewN nq) := below_drewM (B := wr.heap.size) (w := wr) nq
            have HD := Lib.hid (show RfRd r (some ⟨g4, o4, none⟩) c4 ms (wr.drewN nq) ∧ MksAt (wr.drewN nq) (some ⟨g3, o3, none⟩) ms ∧ Below W.heap.size W (wr.drewN nq) from ⟨HD.out.1.later hb, HD.out.2.1.below hb, HD.out.2.2.trans (hb.mono HD.out.2.2.size)⟩)
            clear hb p0 p1 p2 p3 p4 r0 r1 r2 r3 r4 x0 e1 g1
            generalize wr.drewN nq = wz at HD ⊢
            go_wp2_with fail
            go_roundw
            case rel => exact ⟨j + 1, by go_num, by omega, HD.out.1, HD.out.2.1, HD.out.2.2⟩
            case measure => simp [intOf]; omega
          · obtain rfl : j = M := by omega
            clear hlt hj hrd hat hbe
            have b8 : ¬ (j : Int) < (j : Int) := by omega
            go_wp2_with fail
            go_ret
            exact ⟨rfl, HD.out.2.2⟩
theorem plays_walk' (a : Option Addr) (l0 c : Nat) (ds : List Dd) (g b : Addr) (W : World) (hg : Gv g W) (hn : Gn b W) (hl : ds.length = l0) (hlen : l0 ≤ maxLen) (hin : DdsIn W a ds) (hds : ∀ p ∈ ds, p.kd < 256 ∧ p.nm < 256 ∧ p.q < 2 ^ 64 ∧ p.s.size ≤ maxLen ∧ p.x.size ≤ maxLen ∧ -9223372036854775808 ≤ p.t ∧ p.t ≤ 9223372036854775807) :
    Calls Tryd.prog 3 #[.slice a l0 c] W fun e w' => e = .returned (.bool true) ∧ Below W.heap.size W w' := by
  subst hl
  exact plays_walk a c ds g b W hg hn hin hds hlen
end Go.Proofs.YtdaelapamkmcaaaDoor
