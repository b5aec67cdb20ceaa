/- ledger: LedgerKeys walked (tools/ldkeys_gen.py). -/
import Derived.Test.YtjcfbpbmieepiaaDoorLdKyP
import Derived.Test.YtjcfbpbmieepiaaDoorLdDeed
namespace Go.Proofs.YtjcfbpbmieepiaaDoor
open Go.RowKit

set_option maxRecDepth 100000 in
set_option maxHeartbeats 8000000 in
theorem keys_walk (a : Option Addr) (c : Nat) (bs : List Nat) (n1 : Nat) (g b : Addr) (W : World) (hg : Gv g W) (hn : Gn b W) (hin : NatsIn W a bs) (hbs : ∀ n ∈ bs, n < 256) (hlen : bs.length ≤ maxLen) (h1 : n1 < 256) :
    Calls Tryd.prog 7 #[.slice a bs.length c, .int .u8 (n1 : Int)] W fun e w' => e = .returned (.bool true) ∧ Below W.heap.size W w' := by
  obtain ⟨LL, hLL⟩ : ∃ LL, bs.length = LL := ⟨_, rfl⟩
  rw [hLL] at hlen ⊢
  have hlen' : LL ≤ 9223372036854775807 := hlen
  have HLL := Lib.hid hLL
  have HIN := Lib.hid hin
  have HBS := Lib.hid hbs
  obtain ⟨ω, hω⟩ : ∃ ω, n1 % 3 = ω := ⟨_, rfl⟩
  have hω3 : ω < 3 := by omega
  have a1 : (n1 : Int).tmod 3 = (ω : Int) := by rw [Int.tmod_eq_emod_of_nonneg (by omega)]; omega
  have a2 : (n1 : Int) % 3 = (ω : Int) := by omega
  have a3 : IntKind.u8.wrap (ω : Int) = (ω : Int) := by rw [show IntKind.u8.wrap (ω : Int) = (ω : Int) % 256 from rfl]; omega
  have a4 : IntKind.i64.wrap (ω : Int) = (ω : Int) := by rw [IntKind.wrap_i64]; omega
  have a5 : IntKind.i64.wrap (1 + (ω : Int)) = 1 + (ω : Int) := by rw [IntKind.wrap_i64]; omega
  have a6 : (0 : Int) ≤ (ω : Int) := by omega
  have a7 : (ω : Int) < 3 := by omega
  clear hLL hin hbs hω h1 hlen
  have HG := Lib.hid (And.intro hg hn)
  have HEX := Lib.hid (ld_examples g b W hg hn)
  clear hg hn
  go_enter Tryd.func7, Tryd.ntmps7
  go_wp2_with fail
  refine HEX.out.mono ?_
  rintro e w ⟨rfl, hb⟩
  have HK := Lib.hid hb
  have HG := Lib.hid (And.intro (HG.out.1.below hb) (HG.out.2.later hb))
  clear hb HEX
  go_wp2_with fail
  refine (new_is w).mono ?_
  rintro e w1 ⟨l, rfl, h1, hb1⟩
  have HLW := Lib.hid (show 1 < w.heap.size ∧ 0 < w.heap.size from ⟨HG.out.1.2, HG.out.2.2⟩)
  have HLE := Lib.hid HK.out.size
  have HK := Lib.hid (HK.out.trans (hb1.mono HLE.out))
  have HG := Lib.hid (And.intro (HG.out.1.below hb1) (HG.out.2.later hb1))
  have HI := Lib.hid h1
  clear h1 hb1
  have HW1S := Lib.hid (HI.out.hB)
  obtain ⟨w2, hw2, hb2, q2⟩ := ld_new w1 (lastV fun _ => 0) 57
  have HK := Lib.hid (HK.out.trans (hb2.mono HK.out.size))
  have HG := Lib.hid (And.intro (HG.out.1.below hb2) (HG.out.2.later hb2))
  have HI := Lib.hid (HI.out.later hb2)
  have HW := Lib.hid (show w1.alloc (.cells #[.int .u64 0, .int .u64 0, .int .u64 0] 57) = w2 from hw2)
  have HQ := Lib.hid q2
  clear hw2 hb2 q2
  go_wp2_with (rw [HW.out])
  obtain ⟨KB, hKB⟩ : ∃ KB, w1.heap.size = KB := ⟨_, rfl⟩
  rw [hKB] at HQ ⊢
  have HKBL := Lib.hid (show w.heap.size ≤ KB by rw [← hKB]; have := HI.out.hB; exact HW1S.out)
  clear HW hKB
  go_loopw [8, 9, 10] (fun vm vi _ wr => ∃ (i : Nat) (L : Nat → Nat) (ms : List Mk), vm = .int .i64 (i : Int) ∧ vi = .int .i64 (i : Int) ∧ i ≤ 20 ∧ i ≤ LL ∧ (∀ k, L k ≤ 4 * i) ∧ KyI L i ms ∧ LdIs w.heap.size l ms wr ∧ (Gv g wr ∧ Gn b wr) ∧ Blk wr KB (lastV L) 57 ∧ Below W.heap.size W wr) (fun _ vi _ _ => 20 - (intOf vi).toNat)
  case atStart => exact ⟨0, fun _ => 0, [], rfl, rfl, by omega, Nat.zero_le _, fun _ => Nat.zero_le _, ky_zero, HI.out, HG.out, HQ.out, HK.out⟩
  case round =>
    clear HI HG HQ HK
    obtain ⟨i, L, ms, rfl, rfl, hi20, hiL, hLb, hky, hi1, hi2, hi3, hi4⟩ := hrel
    have HI := Lib.hid hi1
    have HG := Lib.hid hi2
    have HQ := Lib.hid hi3
    have HK := Lib.hid hi4
    have HKY := Lib.hid hky
    have HLB := Lib.hid hLb
    clear hi1 hi2 hi3 hi4 hky hLb
    by_cases hlt : i < LL ∧ i < 20
    · obtain ⟨hl1, hl2⟩ := hlt
      have b1 : (i : Int) < (LL : Int) := by omega
      have b2 : (i : Int) < 20 := by omega
      have b3 : (0 : Int) ≤ (i : Int) := by omega
      have b4 : IntKind.i64.wrap ((i : Int) + 1) = (i : Int) + 1 := by rw [IntKind.wrap_i64]; omega
      obtain ⟨x, hx⟩ : ∃ x, bs[i]? = some x := ⟨_, List.getElem?_eq_getElem (by have := HLL.out; omega)⟩
      have hx256 := HBS.out x (List.mem_of_getElem? hx)
      obtain ⟨ab, ao, rfl, hal, hac⟩ := (HIN.out.below HK.out) i x hx
      obtain ⟨κ, hκ⟩ : ∃ κ, x % 3 = κ := ⟨_, rfl⟩
      have hκ3 : κ < 3 := by omega
      have d1 : (x : Int).tmod 3 = (κ : Int) := by rw [Int.tmod_eq_emod_of_nonneg (by omega)]; omega
      have d2 : (x : Int) % 3 = (κ : Int) := by omega
      have d3 : IntKind.u8.wrap (κ : Int) = (κ : Int) := by rw [show IntKind.u8.wrap (κ : Int) = (κ : Int) % 256 from rfl]; omega
      have d4 : IntKind.i64.wrap (κ : Int) = (κ : Int) := by rw [IntKind.wrap_i64]; omega
      have d5 : (0 : Int) ≤ (κ : Int) := by omega
      have d6 : (κ : Int) < 3 := by omega
      have d7 : IntKind.i64.wrap (1 + (κ : Int)) = 1 + (κ : Int) := by rw [IntKind.wrap_i64]; omega
      obtain ⟨δ, hδ⟩ : ∃ δ, x / 64 = δ := ⟨_, rfl⟩
      have e1 : (x : Int).tdiv 64 = (δ : Int) := by rw [Int.tdiv_eq_ediv_of_nonneg (by omega)]; omega
      have e2 : (x : Int) / 64 = (δ : Int) := by omega
      have e3 : IntKind.u8.wrap (δ : Int) = (δ : Int) := by rw [show IntKind.u8.wrap (δ : Int) = (δ : Int) % 256 from rfl]; omega
      have e4 : IntKind.u64.wrap (δ : Int) = (δ : Int) := by rw [show IntKind.u64.wrap (δ : Int) = (δ : Int) % 18446744073709551616 from rfl]; omega
      have hLκ := HLB.out κ
      obtain ⟨M, hM⟩ : ∃ M, L κ = M := ⟨_, rfl⟩
      obtain ⟨q, hq⟩ : ∃ q, M + 1 + δ = q := ⟨_, rfl⟩
      have f1 : IntKind.u64.wrap ((M : Int) + 1) = (M : Int) + 1 := by rw [show IntKind.u64.wrap ((M : Int) + 1) = ((M : Int) + 1) % 18446744073709551616 from rfl]; omega
      have f2 : (M : Int) + 1 + (δ : Int) = (q : Int) := by omega
      have f3 : IntKind.u64.wrap ((M : Int) + 1 + (δ : Int)) = (q : Int) := by rw [show IntKind.u64.wrap ((M : Int) + 1 + (δ : Int)) = ((M : Int) + 1 + (δ : Int)) % 18446744073709551616 from rfl]; omega
      have f4 : IntKind.u64.wrap (q : Int) = (q : Int) := by rw [show IntKind.u64.wrap (q : Int) = (q : Int) % 18446744073709551616 from rfl]; omega
      have z0 : wr.cell? ⟨KB, κ, none⟩ = some (.int .u64 (M : Int)) := by rw [HQ.out.cell κ, lastV_get L hκ3, hM]
      have z1 : wr.frozen? ⟨KB, κ, none⟩ = false := HQ.out.frozen κ
      have hky := ky_next HKY.out (by omega) hκ3 (q := q) (by omega)
      have HKN := Lib.hid hky.2
      have hqs := HQ.out.set κ (.int .u64 (q : Int))
      rw [lastV_set L hκ3 q] at hqs
      have hgs := grown_set wr KB κ (.int .u64 (q : Int))
      -- the store into the law's own array
      have hKBt : 57 ≠ 60 ∧ 57 ≠ 49 := by decide
      have hI2 : LdIs w.heap.size l ms (wr.setCell ⟨KB, κ, none⟩ (.int .u64 (q : Int))) := by
        obtain ⟨m1, v, m2⟩ := HI.out
        exact ⟨m1, v, m2.blk.kept hgs (fun e => Blk.ne m2.blk HQ.out (by decide) (Option.some.inj e)), own_other m2.row hgs (fun gg hgg e => row_block m2.row HQ.out (by decide) (by rw [hgg, ← e])), m2.bl⟩
      have hlow : w.heap.size ≤ KB := HKBL.out
      have hb2 : Below w.heap.size wr (wr.setCell ⟨KB, κ, none⟩ (.int .u64 (q : Int))) := (Below.refl _ _).setCell (p := ⟨KB, κ, none⟩) hlow _
      have hG2 : Gv g (wr.setCell ⟨KB, κ, none⟩ (.int .u64 (q : Int))) ∧ Gn b (wr.setCell ⟨KB, κ, none⟩ (.int .u64 (q : Int))) :=
        ⟨⟨(hb2.cell (p := ⟨1, 0, none⟩) HLW.out.1).trans HG.out.1.1, Nat.lt_of_lt_of_le HG.out.1.2 hb2.size⟩, ⟨(hb2.cell (p := ⟨0, 0, none⟩) HLW.out.2).trans HG.out.2.1, Nat.lt_of_lt_of_le HG.out.2.2 hb2.size⟩⟩
      have HS2 := Lib.hid (And.intro hI2 (And.intro hG2 (And.intro hqs (And.intro (hb2.mono HLE.out) hky.1))))
      have HQB := Lib.hid (show q ≤ 4 * (i + 1) by omega)
      clear hx hκ hδ hLκ hq hky hqs hgs hKBt hI2 hlow hb2 hG2 hM hal hx256
      go_wp2_with fail
      go_region
      all_goals
        clear z0 z1 hac
        have HI := Lib.hid HS2.out.1
        have HG := Lib.hid HS2.out.2.1
        have HQ := Lib.hid HS2.out.2.2.1
        have HK := Lib.hid (HK.out.trans HS2.out.2.2.2.1)
        have HEB := Lib.hid HS2.out.2.2.2.2
        clear HS2
        generalize wr.setCell ⟨KB, κ, none⟩ (.int .u64 (q : Int)) = w30 at HI HG HQ HK ⊢
        have hb : Below w30.heap.size w30 w30.drew := (Below.refl _ _).drew
        generalize w30.drew = w3 at hb ⊢
        have HK := Lib.hid (HK.out.trans (hb.mono HK.out.size))
        have HG := Lib.hid (And.intro (HG.out.1.below hb) (HG.out.2.later hb))
        have HQ := Lib.hid (HQ.out.later hb)
        have HI := Lib.hid (HI.out.later hb)
        clear hb
        have z0 : w3.cell? ⟨KB, κ, none⟩ = some (.int .u64 (q : Int)) := by rw [HQ.out.cell κ, lastV_get _ hκ3, updL_same]
        have hs := begin_is w.heap.size l (1 + (κ : Int)) exK q ms w3 HI.out (by have := HQB.out; omega)
        rw [HEB.out] at hs
        have HKN2 := HKN
        generalize begM (1 + (κ : Int)) exK q ms = ms2 at hs HKN2
        have HS : Calls Tryd.prog 15 #[.pointer (some ⟨l, 0, none⟩), .agg #[.int .i64 (1 + (κ : Int)), .string ⟨#[107]⟩], .int .u64 (q : Int)] w3 (fun e w' => e = .returned (.int .i64 0) ∧ LdIs w.heap.size l ms2 w' ∧ Kept w.heap.size w3 w') := hs
        clear hs HEB HKN
        go_wp2_with fail
        refine HS.mono ?_
        rintro e w4 ⟨rfl, hi, hk⟩
        clear HS z0
        have HK := Lib.hid (HK.out.trans ((hk.below HI.out.hB).mono HLE.out))
        have HG := Lib.hid (And.intro (HI.out.gv HG.out.1 HLW.out.1 hk) (HI.out.gn HG.out.2 HLW.out.2 hk))
        have HQ := Lib.hid (hk.blk HQ.out (by decide) (by decide))
        have HI := Lib.hid hi
        clear hi hk
        go_wp2_with fail
        go_roundw
        case rel => exact ⟨i + 1, updL L κ q, ms2, by go_num, by go_num, by omega, by omega, fun k => by unfold updL; have h5 := HQB.out; have h6 := HLB.out k; split <;> omega, HKN2.out, HI.out, HG.out, HQ.out, HK.out⟩
        case measure => simp [intOf]; omega
    · have hLω := HLB.out ω
      obtain ⟨M, hM⟩ : ∃ M, L ω = M := ⟨_, rfl⟩
      have z0 : wr.cell? ⟨KB, ω, none⟩ = some (.int .u64 (M : Int)) := by rw [HQ.out.cell ω, lastV_get L hω3, hM]
      have hkt := ky_note HKY.out hω3
      rw [hM] at hkt
      have hs := note_is g b w.heap.size l ⟨1 + (ω : Int), exK, M, true, ⟨#[]⟩⟩ ms wr HG.out.1 HG.out.2 (by show M < _; omega) HI.out
      have HKT := Lib.hid hkt
      generalize noteR ⟨1 + (ω : Int), exK, M, true, ⟨#[]⟩⟩ ms = ms3 at hs HKT
      generalize noteE ⟨1 + (ω : Int), exK, M, true, ⟨#[]⟩⟩ ms = EN at hs
      have HS : Calls Tryd.prog 11 #[.pointer (some ⟨l, 0, none⟩), .agg #[.int .i64 (1 + (ω : Int)), .string ⟨#[107]⟩, .int .u64 (M : Int), .bool true, .string ⟨#[]⟩]] wr (fun e w' => e = .returned (.int .i64 EN) ∧ LdIs w.heap.size l ms3 w' ∧ Kept w.heap.size wr w') := hs
      have HLT := Lib.hid hlt
      clear hs hkt hM hLω hlt
      have hgo : (¬ (i : Int) < (LL : Int)) ∨ ((i : Int) < (LL : Int) ∧ ¬ (i : Int) < 20) := by
        by_cases h : i < LL
        · exact .inr ⟨by omega, fun h2 => HLT.out ⟨h, by omega⟩⟩
        · exact .inl (by omega)
      rcases hgo with hg1 | ⟨hg1, hg2⟩
      all_goals
        go_wp2_with fail
        refine HS.mono ?_
        rintro e w3 ⟨rfl, hi, hk⟩
        clear HS z0
        have HK := Lib.hid (HK.out.trans ((hk.below HI.out.hB).mono HLE.out))
        have HG := Lib.hid (And.intro (HI.out.gv HG.out.1 HLW.out.1 hk) (HI.out.gn HG.out.2 HLW.out.2 hk))
        have HQ := Lib.hid (hk.blk HQ.out (by decide) (by decide))
        have HI := Lib.hid hi
        clear hi hk
        go_wp2_with fail
        refine (marks_is w.heap.size l _ w3 HI.out).mono ?_
        rintro e w6 ⟨v, rfl, hrow, hb⟩
        have HK := Lib.hid (HK.out.trans (hb.mono HK.out.size))
        have HG := Lib.hid (And.intro (HG.out.1.below hb) (HG.out.2.later hb))
        have HQ := Lib.hid (HQ.out.later hb)
        have HI := Lib.hid (HI.out.later hb)
        clear hb
        obtain ⟨a3, c3, rfl⟩ := row_shape hrow
        have hat := mksAt_row hrow
        rw [HKT.out.len]
        have HAT := Lib.hid hat
        have HSR := Lib.hid HI.out.1.srt
        clear hrow hat
        go_wp2_with fail
        go_loopw [13, 14] (fun vj _ wq => ∃ j : Nat, vj = .int .i64 (j : Int) ∧ j ≤ i ∧ Below w6.heap.size w6 wq) (fun vj _ _ => i - (intOf vj).toNat)
        case atStart => exact ⟨0, rfl, Nat.zero_le _, Below.refl _ _⟩
        case round =>
          obtain ⟨j, rfl, hj, hbq⟩ := hrel
          by_cases hlt2 : j < i
          · have b5 : (j : Int) < (i : Int) := by omega
            have b6 : (0 : Int) ≤ (j : Int) := by omega
            obtain ⟨m, hx⟩ : ∃ m, ms3[j]? = some m := ⟨_, List.getElem?_eq_getElem (by have := HKT.out.len; omega)⟩
            obtain ⟨hmx, hmt⟩ := HKT.out.all m (List.mem_of_getElem? hx)
            obtain ⟨T, hT⟩ : ∃ T, (m.t == 1 + (ω : Int)) = T := ⟨_, rfl⟩
            rw [hT] at hmt
            obtain ⟨gg, off, rfl, hgl, p0, p1, p2, p3, p4⟩ := (HAT.out.below hbq) j m hx
            have HBQ := Lib.hid hbq
            clear hbq
            cases j with
            | zero =>
              have HD := Lib.hid (fun n => HBQ.out.trans (below_drewM (B := w6.heap.size) (w := wr) n))
              rw [show off + 0 * 5 = off by omega] at p0 p1 p2 p3 p4
              have b7 : (0 : Int) < (i : Int) := by omega
              clear hx hmx hgl b5 b6
              rw [show ((0 : Nat) : Int) = 0 from rfl]
              cases T
              all_goals
                go_wp2_with fail
                go_quiet (fail)
                have HDN := Lib.hid (HD.out nq)
                generalize wr.drewN nq = wz at HDN ⊢
                clear p0 p1 p2 p3 p4
                go_wp2_with fail
                go_roundw
                case rel => exact ⟨1, by go_num, by omega, HDN.out⟩
                case measure => simp [intOf]; omega
            | succ j' =>
              obtain ⟨m', hx'⟩ : ∃ m', ms3[j']? = some m' := ⟨_, List.getElem?_eq_getElem (by have := HKT.out.len; omega)⟩
              obtain ⟨hmx', _⟩ := HKT.out.all m' (List.mem_of_getElem? hx')
              obtain ⟨_, _, hae, _, r0, r1, r2, r3, r4⟩ := (HAT.out.below HBQ.out) j' m' hx'
              cases hae
              have hbes := ky_beside HSR.out hx' hx hmx' hmx
              have e1 := fun w => ck_eqlKey m'.t m.t m'.x m.x w
              have g1 := fun op a b xs ys w => ck_guardKey op a b xs ys w
              obtain ⟨E, hE⟩ : ∃ E, (m'.t == m.t && m'.x.toList == m.x.toList) = E := ⟨_, rfl⟩
              rw [hE] at e1
              have hgt1 : decide (m.t < m'.t) = false := decide_eq_false (by omega)
              have hgt2 : ¬ m.t < m'.t := by omega
              have hqq : E = true → decide ((m.q : Int) ≤ (m'.q : Int)) = false ∧ decide (m.q ≤ m'.q) = false := by
                intro hh
                rw [hh, Bool.and_eq_true, beq_iff_eq] at hE
                have := hbes.2 hE.1
                exact ⟨decide_eq_false (by omega), decide_eq_false (by omega)⟩
              have k1 : IntKind.i64.wrap ((j' : Int) + 1 - 1) = (j' : Int) := by rw [IntKind.wrap_i64]; omega
              have k2 : IntKind.i64.wrap (j' : Int) = (j' : Int) := by rw [IntKind.wrap_i64]; omega
              have k3 : ((j' : Int) + 1).toNat = j' + 1 := by omega
              have k4 : (j' : Int) < (i : Int) := by omega
              have k5 : (0 : Int) ≤ (j' : Int) := by omega
              have k6 : (j' : Int) + 1 < (i : Int) := by omega
              have k7 : (0 : Int) ≤ (j' : Int) + 1 := by omega
              have k8 : decide ((0 : Int) < (j' : Int) + 1) = true := decide_eq_true (by omega)
              have k9 : (0 : Int) < (j' : Int) + 1 := by omega
              have HD := Lib.hid (fun n => HBQ.out.trans (below_drewM (B := w6.heap.size) (w := wr) n))
              clear hx hx' hmx hmx' hgl hbes hE
              cases E with
              | false =>
                clear hqq
                cases T
                all_goals
                  go_wp2_with fail
                  go_quiet (fail)
                  have HDN := Lib.hid (HD.out nq)
                  generalize wr.drewN nq = wz at HDN ⊢
                  clear p0 p1 p2 p3 p4 r0 r1 r2 r3 r4 e1 g1
                  go_wp2_with fail
                  go_roundw
                  case rel => exact ⟨j' + 1 + 1, by go_num, by omega, HDN.out⟩
                  case measure => simp [intOf]; omega
              | true =>
                obtain ⟨hq1, hq2⟩ := hqq rfl
                clear hqq
                cases T
                all_goals
                  go_wp2_with fail
                  go_quiet (fail)
                  have HDN := Lib.hid (HD.out nq)
                  generalize wr.drewN nq = wz at HDN ⊢
                  clear p0 p1 p2 p3 p4 r0 r1 r2 r3 r4 e1 g1
                  go_wp2_with fail
                  go_roundw
                  case rel => exact ⟨j' + 1 + 1, by go_num, by omega, HDN.out⟩
                  case measure => simp [intOf]; omega
          · obtain rfl : j = i := by omega
            have HKF := Lib.hid (HK.out.trans (hbq.mono HK.out.size))
            go_wp2_with fail
            go_ret
            exact ⟨rfl, HKF.out⟩
theorem keys_walk' (a : Option Addr) (l0 c : Nat) (bs : List Nat) (n1 : Nat) (g b : Addr) (W : World) (hg : Gv g W) (hn : Gn b W) (hl : bs.length = l0) (hlen : l0 ≤ maxLen) (hin : NatsIn W a bs) (hbs : ∀ n ∈ bs, n < 256) (h1 : n1 < 256) :
    Calls Tryd.prog 7 #[.slice a l0 c, .int .u8 (n1 : Int)] W fun e w' => e = .returned (.bool true) ∧ Below W.heap.size W w' := by
  subst hl
  exact keys_walk a c bs n1 g b W hg hn hin hbs hlen h1
end Go.Proofs.YtjcfbpbmieepiaaDoor
