/- acks: AcksKeys walked (tools/akkeysw_gen.py). -/
import Derived.Test.YtogkdekjcbljnaaDoorAkKyP
import Derived.Test.YtogkdekjcbljnaaDoorAkCell
import Derived.Test.YtogkdekjcbljnaaDoorAkBytes
namespace Go.Proofs.YtogkdekjcbljnaaDoor
open Go.RowKit

abbrev KyT (KB MB j : Nat) (KT : Int) (KX : ByteArray) (Mj : Nat) (w0 w : World) : Prop :=
  w.cell? ⟨KB, j * 2, none⟩ = some (.int .i64 KT) ∧ w.cell? ⟨KB, j * 2 + 1, none⟩ = some (.string KX) ∧ w.cell? ⟨MB, j, none⟩ = some (.int .u64 (Mj : Int)) ∧ KB < w0.heap.size ∧ MB < w0.heap.size ∧ Below w0.heap.size w0 w
theorem KyT.next {KB MB j : Nat} {KT : Int} {KX : ByteArray} {Mj : Nat} {w0 w w' : World} (h : KyT KB MB j KT KX Mj w0 w) (hb : Below w.heap.size w w') : KyT KB MB j KT KX Mj w0 w' := by
  obtain ⟨h0, h1, h2, l1, l2, h3⟩ := h
  have k1 := Nat.lt_of_lt_of_le l1 h3.size
  have k2 := Nat.lt_of_lt_of_le l2 h3.size
  exact ⟨(hb.cell (p := ⟨KB, _, none⟩) k1).trans h0, (hb.cell (p := ⟨KB, _, none⟩) k1).trans h1, (hb.cell (p := ⟨MB, _, none⟩) k2).trans h2, l1, l2, h3.trans (hb.mono h3.size)⟩
theorem blk_drew (w : World) (cs : Array Value) (t : TypeId) : Blk ((w.alloc (.cells cs t)).drew) w.heap.size cs t := Blk.new w cs t
theorem KyT.later {KB MB j : Nat} {KT : Int} {KX : ByteArray} {Mj : Nat} {w0 w w' : World} (h : KyT KB MB j KT KX Mj w0 w) (hb : Below w.heap.size w w') : KyT KB MB j KT KX Mj w0 w' := h.next hb
theorem KyT.b {KB MB j : Nat} {KT : Int} {KX : ByteArray} {Mj : Nat} {w0 w : World} (h : KyT KB MB j KT KX Mj w0 w) : Below w0.heap.size w0 w := h.2.2.2.2.2
set_option maxRecDepth 100000 in
set_option maxHeartbeats 8000000 in
theorem akeys_walk (a : Option Addr) (LL c : Nat) (bs : List Nat) (n1 : Nat) (g n : Addr) (W : World) (hg : Gv g W) (hn : Gn n W) (hLL : bs.length = LL) (hlen : LL ≤ maxLen) (hin : NatsIn W a bs) (hbs : ∀ n ∈ bs, n < 256) (h1 : n1 < 256) :
    Calls Tryd.prog 6 #[.slice a LL c, .int .u8 (n1 : Int)] W fun e w' => e = .returned (.bool true) ∧ Below W.heap.size W w' := by
  have hlen' : LL ≤ 9223372036854775807 := hlen
  have HLL := Lib.hid hLL
  have HIN := Lib.hid hin
  have HBS := Lib.hid hbs
  obtain ⟨ω, hω⟩ : ∃ ω, n1 % 6 = ω := ⟨_, rfl⟩
  have hω6 : ω < 6 := by omega
  have a1 : (n1 : Int).tmod 6 = (ω : Int) := by rw [Int.tmod_eq_emod_of_nonneg (by omega)]; omega
  have a2 : (n1 : Int) % 6 = (ω : Int) := by omega
  have a3 : IntKind.u8.wrap (ω : Int) = (ω : Int) := by rw [show IntKind.u8.wrap (ω : Int) = (ω : Int) % 256 from rfl]; omega
  have a4 : IntKind.i64.wrap (ω : Int) = (ω : Int) := by rw [IntKind.wrap_i64]; omega
  have a6 : (0 : Int) ≤ (ω : Int) := by omega
  have a7 : (ω : Int) < 6 := by omega
  clear hLL hin hbs hω h1 hlen
  have HG := Lib.hid (And.intro hg hn)
  clear hg hn
  go_enter Tryd.func6, Tryd.ntmps6
  go_wp2_with fail
  refine (ak_examples g n W HG.out.1 HG.out.2).mono ?_
  rintro e wB ⟨rfl, hb⟩
  dsimp only
  have HG := Lib.hid (And.intro (HG.out.1.below hb) (HG.out.2.later hb))
  have HBB := Lib.hid hb
  clear hb
  go_wp2_with fail
  refine (AkL.new (W := W) HG.out.1 HG.out.2 HBB.out).mono ?_
  rintro e w1 ⟨b, rfl, hl, -⟩
  dsimp only
  have HL := Lib.hid hl
  clear hl
  have HSZ := Lib.hid (show wB.heap.size ≤ w1.heap.size from HL.out.i.hB)
  obtain ⟨x1, hw, hb, hq⟩ := ak_new w1 #[.int .i64 1, .string ⟨#[97]⟩, .int .i64 1, .string ⟨#[98]⟩, .int .i64 2, .string ⟨#[97]⟩, .int .i64 3, .string ⟨#[97]⟩, .int .i64 4, .string ⟨#[97]⟩, .int .i64 5, .string ⟨#[122]⟩] 27
  have HL := Lib.hid (HL.out.later hb)
  have HY := Lib.hid hq
  have HW2 := Lib.hid hw
  clear hw hb hq
  have HY := Lib.hid (show Blk x1 w1.heap.size (keCells six).toArray 27 from HY.out)
  have HYL := Lib.hid (show w1.heap.size < x1.heap.size from HY.out.lt)
  obtain ⟨x3, hw, hb, hq⟩ := ak_new x1 #[.int .u64 0, .int .u64 0, .int .u64 0, .int .u64 0, .int .u64 0, .int .u64 0] 51
  have HL := Lib.hid (HL.out.later hb)
  have HY := Lib.hid (HY.out.later hb)
  have HM := Lib.hid hq
  have HW4 := Lib.hid hw
  clear hw hb hq
  have HM := Lib.hid (show Blk x3 x1.heap.size (mV fun _ => 0) 51 from HM.out)
  go_wp2_with (first | rw [HW2.out] | rw [HW4.out])
  obtain ⟨KB, hKB⟩ : ∃ KB, w1.heap.size = KB := ⟨_, rfl⟩
  obtain ⟨MB, hMB⟩ : ∃ MB, x1.heap.size = MB := ⟨_, rfl⟩
  have HNE := Lib.hid (show KB ≠ MB ∧ wB.heap.size ≤ MB by rw [← hKB, ← hMB]; exact ⟨Nat.ne_of_lt HYL.out, Nat.le_trans HSZ.out (Nat.le_of_lt HYL.out)⟩)
  rw [hKB] at HY ⊢
  rw [hMB] at HM ⊢
  clear hKB hMB HW2 HW4 HSZ HYL
  go_loopw [9, 10, 11] (fun vi _ _ wr => ∃ (i : Nat) (M : Nat → Nat) (A : Ak), vi = .int .i64 (i : Int) ∧ i ≤ 20 ∧ i ≤ LL ∧ (∀ k, M k ≤ 43) ∧ Six A M ∧ AkL wB.heap.size b A g n W wr ∧ Blk wr KB (keCells six).toArray 27 ∧ Blk wr MB (mV M) 51) (fun vi _ _ _ => 20 - (intOf vi).toNat)
  case atStart => exact ⟨0, fun _ => 0, Ak.zero, rfl, by omega, Nat.zero_le _, fun _ => Nat.zero_le _, six_zero, HL.out, HY.out, HM.out⟩
  case round =>
    clear HL HY HM
    obtain ⟨i, M, A, rfl, hi20, hiL, hMb, hsx, hl, hy, hm⟩ := hrel
    have HL := Lib.hid hl
    have HY := Lib.hid hy
    have HM := Lib.hid hm
    have HSX := Lib.hid hsx
    have HMB := Lib.hid hMb
    clear hl hy hm hsx hMb
    by_cases hlt : i < LL ∧ i < 20
    · obtain ⟨hl1, hl2⟩ := hlt
      have b1 : (i : Int) < (LL : Int) := by omega
      have b2 : (i : Int) < 20 := by omega
      have b3 : (0 : Int) ≤ (i : Int) := by omega
      have b4 : IntKind.i64.wrap ((i : Int) + 1) = (i : Int) + 1 := by rw [IntKind.wrap_i64]; omega
      obtain ⟨x, hx⟩ : ∃ x, bs[i]? = some x := ⟨_, List.getElem?_eq_getElem (by have := HLL.out; omega)⟩
      have hx256 := HBS.out x (List.mem_of_getElem? hx)
      obtain ⟨ab, ao, rfl, hal, hac⟩ := (HIN.out.below HL.out.k) i x hx
      obtain ⟨κ, hκ⟩ : ∃ κ, x % 6 = κ := ⟨_, rfl⟩
      have hκ6 : κ < 6 := by omega
      have d1 : (x : Int).tmod 6 = (κ : Int) := by rw [Int.tmod_eq_emod_of_nonneg (by omega)]; omega
      have d2 : (x : Int) % 6 = (κ : Int) := by omega
      have d3 : IntKind.u8.wrap (κ : Int) = (κ : Int) := by rw [show IntKind.u8.wrap (κ : Int) = (κ : Int) % 256 from rfl]; omega
      have d4 : IntKind.i64.wrap (κ : Int) = (κ : Int) := by rw [IntKind.wrap_i64]; omega
      have d5 : (0 : Int) ≤ (κ : Int) := by omega
      have d6 : (κ : Int) < 6 := by omega
      obtain ⟨δ, hδ⟩ : ∃ δ, x / 6 = δ := ⟨_, rfl⟩
      have e1 : (x : Int).tdiv 6 = (δ : Int) := by rw [Int.tdiv_eq_ediv_of_nonneg (by omega)]; omega
      have e2 : (x : Int) / 6 = (δ : Int) := by omega
      have e3 : IntKind.u8.wrap (δ : Int) = (δ : Int) := by rw [show IntKind.u8.wrap (δ : Int) = (δ : Int) % 256 from rfl]; omega
      have e4 : IntKind.u64.wrap (δ : Int) = (δ : Int) := by rw [show IntKind.u64.wrap (δ : Int) = (δ : Int) % 18446744073709551616 from rfl]; omega
      obtain ⟨q, hq⟩ : ∃ q, 1 + δ = q := ⟨_, rfl⟩
      have f1 : IntKind.u64.wrap (1 + (δ : Int)) = (q : Int) := by rw [show IntKind.u64.wrap (1 + (δ : Int)) = (1 + (δ : Int)) % 18446744073709551616 from rfl]; omega
      have hq0 : 0 < q ∧ q ≤ 43 := by omega
      have HQ0 := Lib.hid hq0
      have hMκ := HMB.out κ
      obtain ⟨N, hN⟩ : ∃ N, max (M κ) q = N := ⟨_, rfl⟩
      have hNb : N ≤ 43 := by omega
      have f2 : max (M κ : Int) (q : Int) = (N : Int) := by omega
      obtain ⟨Mκ, hMe⟩ : ∃ Mκ, M κ = Mκ := ⟨_, rfl⟩
      rw [hMe] at f2
      have z0 : wr.cell? ⟨MB, κ, none⟩ = some (.int .u64 (Mκ : Int)) := by rw [HM.out.cell κ, mV_get M hκ6, hMe]
      have z1 : wr.frozen? ⟨MB, κ, none⟩ = false := HM.out.frozen κ
      have hy2 := HY.out.kept (grown_set wr MB κ (.int .u64 (N : Int))) (fun e => HNE.out.1 (Option.some.inj e))
      have hm2 := HM.out.set κ (.int .u64 (N : Int))
      rw [mV_set] at hm2
      have HL2 := Lib.hid (HL.out.set HM.out (by decide) (by decide) HNE.out.2 κ (.int .u64 (N : Int)))
      have HY2 := Lib.hid hy2
      have HM2 := Lib.hid hm2
      obtain ⟨KT, hKT⟩ : ∃ KT, (kyI κ).1 = KT := ⟨_, rfl⟩
      obtain ⟨KX, hKX⟩ : ∃ KX, (kyI κ).2 = KX := ⟨_, rfl⟩
      have hg0 := keCells_get six κ (kyI κ) (six_get hκ6) 0 (by omega)
      have hg1 := keCells_get six κ (kyI κ) (six_get hκ6) 1 (by omega)
      have y0 : (wr.setCell ⟨MB, κ, none⟩ (.int .u64 (N : Int))).cell? ⟨KB, κ * 2, none⟩ = some (.int .i64 KT) := by rw [HY2.out.cell (κ * 2), List.getElem?_toArray, ← hKT]; exact hg0
      have y1 : (wr.setCell ⟨MB, κ, none⟩ (.int .u64 (N : Int))).cell? ⟨KB, κ * 2 + 1, none⟩ = some (.string KX) := by rw [HY2.out.cell (κ * 2 + 1), List.getElem?_toArray, ← hKX]; exact hg1
      have hput := HL2.out.put (id := 7) (t := KT) (x := KX) (q := q) (f := true) (s := ⟨#[]⟩) (by rw [← hKT, ← hKX]; exact kyI_ok hq0.1) (by decide) (by omega)
      rw [show ((KT, KX) : Ky) = kyI κ by rw [← hKT, ← hKX]] at hput
      have HPUT := Lib.hid hput
      have HNX := Lib.hid (show Six (A.put (kyI κ) 7 q true ⟨#[]⟩) (upd M κ N) by rw [← hN]; exact six_put HSX.out hκ6 hq0.1)
      have HMB2 := Lib.hid (show ∀ k, upd M κ N k ≤ 43 from fun k => by
        by_cases e : k = κ
        · subst e; rw [upd_same]; exact hNb
        · rw [upd_other e]; exact HMB.out k)
      clear hy2 hm2 hg0 hg1 hput hKT hKX hMe hN hMκ hNb hq0 hq hδ hκ hx hx256 hal
      go_wp2_with fail
      refine HPUT.out.mono ?_
      rintro e w5 ⟨rfl, hl, hk⟩
      dsimp only
      have HL3 := Lib.hid hl
      have HY3 := Lib.hid (hk.blk HY2.out (by decide))
      have HM3 := Lib.hid (hk.blk HM2.out (by decide))
      clear hl hk y0 y1 z0 z1 hac
      go_wp2_with fail
      go_roundw
      case rel => exact ⟨i + 1, _, _, by go_num, by omega, by omega, HMB2.out, HNX.out, HL3.out, HY3.out, HM3.out⟩
      case measure => simp [intOf]; omega
    · have hh : ¬ (i : Int) < (LL : Int) ∨ ((i : Int) < (LL : Int) ∧ ¬ (i : Int) < 20) := by omega
      obtain ⟨KT, hKT⟩ : ∃ KT, (kyI ω).1 = KT := ⟨_, rfl⟩
      obtain ⟨KX, hKX⟩ : ∃ KX, (kyI ω).2 = KX := ⟨_, rfl⟩
      have hg0 := keCells_get six ω (kyI ω) (six_get hω6) 0 (by omega)
      have hg1 := keCells_get six ω (kyI ω) (six_get hω6) 1 (by omega)
      have y0 : wr.cell? ⟨KB, ω * 2, none⟩ = some (.int .i64 KT) := by rw [HY.out.cell (ω * 2), List.getElem?_toArray, ← hKT]; exact hg0
      have y1 : wr.cell? ⟨KB, ω * 2 + 1, none⟩ = some (.string KX) := by rw [HY.out.cell (ω * 2 + 1), List.getElem?_toArray, ← hKX]; exact hg1
      have hfo := HL.out.forget (k := (KT, KX)) (by rw [← hKT, ← hKX]; exact kyI_k)
      rw [show ((KT, KX) : Ky) = kyI ω by rw [← hKT, ← hKX]] at hfo
      have HFO := Lib.hid (show Calls Tryd.prog 13 #[.pointer (some ⟨b.m, 0, none⟩), .agg #[.int .i64 KT, .string KX]] wr fun e w' => e = .returned (.tuple #[]) ∧ AkL wB.heap.size b (A.forget (kyI ω)) g n W w' ∧ KeptA b wB.heap.size wr w' by
        have e : (.agg #[.int .i64 KT, .string KX] : Value) = kyE (kyI ω) := by rw [← hKT, ← hKX]
        rw [e]; exact hfo)
      have HSX := Lib.hid (six_forget HSX.out hω6)
      clear hg0 hg1 hfo hKT hKX hlt
      rcases hh with b1 | ⟨b1, b2⟩
      · go_wp2_with fail
        refine HFO.out.mono ?_
        rintro e w5 ⟨rfl, hl, hk⟩
        dsimp only
        have HY := Lib.hid (hk.blk HY.out (by decide))
        have HM := Lib.hid (hk.blk HM.out (by decide))
        have hm2 := HM.out.set ω (.int .u64 ((0 : Nat) : Int))
        rw [mV_set] at hm2
        have HL := Lib.hid (show AkL wB.heap.size b (A.forget (kyI ω)) g n W (w5.setCell ⟨MB, ω, none⟩ (.int .u64 0)) from hl.set HM.out (by decide) (by decide) HNE.out.2 ω (.int .u64 0))
        have hy2 := HY.out.kept (grown_set w5 MB ω (.int .u64 0)) (fun e => HNE.out.1 (Option.some.inj e))
        have z1 : w5.frozen? ⟨MB, ω, none⟩ = false := HM.out.frozen ω
        have z0 : w5.cell? ⟨MB, ω, none⟩ = some (.int .u64 (M ω : Int)) := by rw [HM.out.cell ω, mV_get M hω6]
        have HY := Lib.hid hy2
        have HM := Lib.hid (show Blk (w5.setCell ⟨MB, ω, none⟩ (.int .u64 0)) MB (mV (upd M ω 0)) 51 from hm2)
        obtain ⟨A9, hA9⟩ : ∃ A9, A.forget (kyI ω) = A9 := ⟨_, rfl⟩
        obtain ⟨M9, hM9⟩ : ∃ M9, upd M ω 0 = M9 := ⟨_, rfl⟩
        have HSX := HSX
        rw [hA9] at HL HSX
        rw [hM9] at HSX HM
        have HMB9 := Lib.hid (show ∀ k, M9 k ≤ 43 from fun k => by
          rw [← hM9]
          by_cases e : k = ω
          · subst e; rw [upd_same]; omega
          · rw [upd_other e]; exact HMB.out k)
        have HKE := Lib.hid (keys_any HL.out.i (K := six) (by decide) (six_some HSX.out))
        clear hl hk hm2 hy2 hA9 hM9 y0 y1 HFO
        go_wp2_with fail
        refine HKE.out.mono ?_
        rintro e w6 ⟨ks, v, rfl, hks, hkm, hrow, hb⟩
        obtain rfl := six_keys HSX.out hks hkm
        dsimp only
        have HL := Lib.hid (HL.out.later hb)
        have HY := Lib.hid (HY.out.later hb)
        have HM := Lib.hid (HM.out.later hb)
        obtain ⟨GL, hGL⟩ : ∃ GL, (sixK M9 6).length = GL := ⟨_, rfl⟩
        rw [List.length_map, hGL] at hrow
        obtain ⟨ga, gc, rfl⟩ := row_shape hrow
        have HROW := Lib.hid hrow
        have HGL := Lib.hid hGL
        have hgl6 : GL ≤ 6 := by rw [← hGL]; exact sixK_len _ _
        obtain ⟨base5, hb5⟩ : ∃ base5, (w5.setCell ⟨MB, ω, none⟩ (.int .u64 0)).heap.size = base5 := ⟨_, rfl⟩
        rw [hb5] at HROW
        clear hks hkm hb hrow HKE z0 z1 hGL hb5 b1 a1 a2 a3 a4 a6 a7 HIN HBS HLL HMB
        go_wp2_with fail
        go_loopw [14, 15] (fun va vi wr => ∃ (j : Nat), vi = .int .i64 (j : Int) ∧ va = .int .i64 ((sixK M9 j).length : Int) ∧ j ≤ 6 ∧ AkL wB.heap.size b A9 g n W wr ∧ Blk wr KB (keCells six).toArray 27 ∧ Blk wr MB (mV M9) 51 ∧ wr.ownsRow base5 27 2 (.slice ga GL gc) GL (keCells ((sixK M9 6).map kyI))) (fun _ vi _ => 6 - (intOf vi).toNat)
        case atStart => exact ⟨0, rfl, rfl, by omega, HL.out, HY.out, HM.out, HROW.out⟩
        case round =>
          clear HL HY HM HROW
          obtain ⟨j, rfl, rfl, hj6, hl, hy, hm, hrow⟩ := hrel
          have HL := Lib.hid hl
          have HY := Lib.hid hy
          have HM := Lib.hid hm
          have HROW := Lib.hid hrow
          clear hl hy hm hrow
          by_cases hlt : j < 6
          · have b1 : (j : Int) < 6 := by omega
            have b2 : (0 : Int) ≤ (j : Int) := by omega
            have b3 : IntKind.i64.wrap ((j : Int) + 1) = (j : Int) + 1 := by rw [IntKind.wrap_i64]; omega
            obtain ⟨KT, hKT⟩ : ∃ KT, (kyI j).1 = KT := ⟨_, rfl⟩
            obtain ⟨KX, hKX⟩ : ∃ KX, (kyI j).2 = KX := ⟨_, rfl⟩
            obtain ⟨Mj, hMj⟩ : ∃ Mj, M9 j = Mj := ⟨_, rfl⟩
            have hKK : kyK (KT, KX) := by rw [← hKT, ← hKX]; exact kyI_k
            have hKE : kyI j = (KT, KX) := by rw [← hKT, ← hKX]
            have hg0 := keCells_get six j (kyI j) (six_get hlt) 0 (by omega)
            have hg1 := keCells_get six j (kyI j) (six_get hlt) 1 (by omega)
            rw [hKE] at hg0 hg1
            have hst : KyT KB MB j KT KX Mj wr wr := ⟨by rw [HY.out.cell (j * 2), List.getElem?_toArray]; exact hg0, by rw [HY.out.cell (j * 2 + 1), List.getElem?_toArray]; exact hg1, by rw [HM.out.cell j, mV_get M9 hlt, hMj], HY.out.lt, HM.out.lt, Below.refl _ _⟩
            have HST := Lib.hid hst
            have HLE := Lib.hid (fun (W2 : World) (hW : Below wr.heap.size wr W2) (B : Nat) (hB : Blk W2 B #[.int .i64 7] 3) => by
              have h1 := least_any (k := (KT, KX)) (c := 1) (l := [7]) (HL.out.later hW).i hKK (ints_blk (c := #[.int .i64 7]) hB rfl) (by show 1 ≤ maxLen; unfold maxLen; omega) (sm_all (by decide))
              rw [← hKE, six_least HSX.out hlt, hMj, hKE] at h1
              exact (h1 : Calls Tryd.prog 11 #[.pointer (some ⟨b.m, 0, none⟩), .agg #[.int .i64 KT, .string KX], .slice (some ⟨B, 0, none⟩) 1 1] W2 fun e w' => e = .returned (.int .u64 (Mj : Int)) ∧ Below W2.heap.size W2 w'))
            have HKE2 := Lib.hid hKE
            have HMJ := Lib.hid hMj
            have HJ := Lib.hid hlt
            clear hKT hKX hMj hKK hKE hg0 hg1 hst hlt
            go_wp2_with fail
            obtain ⟨w1001, hw1002, hb1003⟩ := drew_new wr
            have q1004 := HST.out.later hb1003
            refine wp_region_held_drew (S := (fun w' => w'.cell? ⟨KB, j * 2, none⟩ = some (.int .i64 KT) ∧ w'.cell? ⟨KB, j * 2 + 1, none⟩ = some (.string KX) ∧ w'.cell? ⟨MB, j, none⟩ = some (.int .u64 (Mj : Int)) ∧ True)) (by kernel_rfl) (by rw [hw1002]; exact ⟨q1004.1, q1004.2.1, q1004.2.2.1, trivial⟩) (fun hHeld => ?_)
            rw [hw1002] at hHeld ⊢
            refine wpAnyH_take (i := 0) (oi := { dst := some 85, op := Op.move (Operand.tmp 6), type := 24, pos := "keeps.go:157", after := #[], guard := none }) (v := ?v101) rfl (by kernel_rfl) (by kernel_rfl) (by kernel_rfl) (fun _ _ _ h => h) (Or.inl ⟨by rfl, ?hy101⟩) (by assumption) ?rest101
            case hy101 => (intro w1 hSw; (try dsimp only at hSw); obtain ⟨h0, h1, h2, -⟩ := hSw; go_simp; try with_reducible rfl)
            try simp only [Act.put, List.setIfInBounds_toArray, List.set_cons_zero, List.set_cons_succ]
            refine wpAnyH_take (i := 1) (oi := { dst := some 86, op := Op.move (Operand.tmp 7), type := 45, pos := "keeps.go:157", after := #[], guard := none }) (v := ?v102) rfl (by kernel_rfl) (by kernel_rfl) (by kernel_rfl) (fun _ _ _ h => h) (Or.inl ⟨by rfl, ?hy102⟩) (by assumption) ?rest102
            case hy102 => (intro w1 hSw; (try dsimp only at hSw); obtain ⟨h0, h1, h2, -⟩ := hSw; go_simp; try with_reducible rfl)
            try simp only [Act.put, List.setIfInBounds_toArray, List.set_cons_zero, List.set_cons_succ]
            refine wpAnyH_take (i := 2) (oi := { dst := some 87, op := Op.move (Operand.tmp 15), type := 3, pos := "keeps.go:157", after := #[], guard := none }) (v := ?v103) rfl (by kernel_rfl) (by kernel_rfl) (by kernel_rfl) (fun _ _ _ h => h) (Or.inl ⟨by rfl, ?hy103⟩) (by assumption) ?rest103
            case hy103 => (intro w1 hSw; (try dsimp only at hSw); obtain ⟨h0, h1, h2, -⟩ := hSw; go_simp; try with_reducible rfl)
            try simp only [Act.put, List.setIfInBounds_toArray, List.set_cons_zero, List.set_cons_succ]
            refine wpAnyH_take (i := 3) (oi := { dst := some 88, op := Op.indexAddr 45 (Operand.tmp 86) (Operand.tmp 87), type := 0, pos := "keeps.go:157", after := #[{ on := 1, ground := Ground.data }, { on := 2, ground := Ground.data }], guard := none }) (v := ?v104) rfl (by kernel_rfl) (by kernel_rfl) (by kernel_rfl) (fun _ _ _ h => h) (Or.inl ⟨by rfl, ?hy104⟩) (by assumption) ?rest104
            case hy104 => (intro w1 hSw; (try dsimp only at hSw); obtain ⟨h0, h1, h2, -⟩ := hSw; go_simp; try with_reducible rfl)
            try simp only [Act.put, List.setIfInBounds_toArray, List.set_cons_zero, List.set_cons_succ]
            refine wpAnyH_take (i := 4) (oi := { dst := some 89, op := Op.load 27 (Operand.tmp 88), type := 27, pos := "keeps.go:157", after := #[{ on := 3, ground := Ground.data }], guard := none }) (v := ?v105) rfl (by kernel_rfl) (by kernel_rfl) (by kernel_rfl) (fun _ _ _ h => h) (Or.inl ⟨by rfl, ?hy105⟩) (by assumption) ?rest105
            case hy105 => (intro w1 hSw; (try dsimp only at hSw); obtain ⟨h0, h1, h2, -⟩ := hSw; go_simp; try with_reducible rfl)
            try simp only [Act.put, List.setIfInBounds_toArray, List.set_cons_zero, List.set_cons_succ]
            refine wpAnyH_take (i := 7) (oi := { dst := some 92, op := Op.move (Operand.tmp 15), type := 3, pos := "keeps.go:157", after := #[], guard := none }) (v := ?v106) rfl (by kernel_rfl) (by kernel_rfl) (by kernel_rfl) (fun _ _ _ h => h) (Or.inl ⟨by rfl, ?hy106⟩) (by assumption) ?rest106
            case hy106 => (intro w1 hSw; (try dsimp only at hSw); obtain ⟨h0, h1, h2, -⟩ := hSw; go_simp; try with_reducible rfl)
            try simp only [Act.put, List.setIfInBounds_toArray, List.set_cons_zero, List.set_cons_succ]
            refine wpAnyH_take (i := 8) (oi := { dst := some 93, op := Op.indexAddr 51 (Operand.tmp 8) (Operand.tmp 92), type := 0, pos := "keeps.go:157", after := #[{ on := 7, ground := Ground.data }], guard := none }) (v := ?v107) rfl (by kernel_rfl) (by kernel_rfl) (by kernel_rfl) (fun _ _ _ h => h) (Or.inl ⟨by rfl, ?hy107⟩) (by assumption) ?rest107
            case hy107 => (intro w1 hSw; (try dsimp only at hSw); obtain ⟨h0, h1, h2, -⟩ := hSw; go_simp; try with_reducible rfl)
            try simp only [Act.put, List.setIfInBounds_toArray, List.set_cons_zero, List.set_cons_succ]
            refine wpAnyH_take (i := 9) (oi := { dst := some 94, op := Op.load 29 (Operand.tmp 93), type := 29, pos := "keeps.go:157", after := #[{ on := 8, ground := Ground.data }], guard := none }) (v := ?v108) rfl (by kernel_rfl) (by kernel_rfl) (by kernel_rfl) (fun _ _ _ h => h) (Or.inl ⟨by rfl, ?hy108⟩) (by assumption) ?rest108
            case hy108 => (intro w1 hSw; (try dsimp only at hSw); obtain ⟨h0, h1, h2, -⟩ := hSw; go_simp; try with_reducible rfl)
            try simp only [Act.put, List.setIfInBounds_toArray, List.set_cons_zero, List.set_cons_succ]
            refine wpAnyH_ready (rs := [5]) (by kernel_rfl) (by simp) ?_
            refine AllReadyH.cons (o := { dst := some 90, op := Op.buildSlice 28 1 #[(0, Operand.const (Value.int IntKind.i64 7))], type := 28, pos := "keeps.go:157", after := #[], guard := none }) rfl (fun K hK => ?_) AllReadyH.nil
            go_simp
            obtain ⟨w1005, hw1006, hb1007, p1008⟩ := alloc_new w1001 #[.int .i64 7] 3
            have q1009 := q1004.later hb1007
            rw [hw1006]
            refine hK.out _ _ (⟨q1009.1, q1009.2.1, q1009.2.2.1, trivial⟩) (fun hHeld => ?_)
            clear hK K
            try simp only [Act.put, List.setIfInBounds_toArray, List.set_cons_zero, List.set_cons_succ]
            refine wpAnyH_ready (rs := [6]) (by kernel_rfl) (by simp) ?_
            refine AllReadyH.cons (o := { dst := some 91, op := Op.call { callee := Callee.value (Operand.func 11), args := #[Operand.tmp 85, Operand.tmp 89, Operand.tmp 90], argTypes := #[24, 27, 28] }, type := 29, pos := "keeps.go:157", after := #[{ on := 0, ground := Ground.data }, { on := 4, ground := Ground.data }, { on := 5, ground := Ground.data }], guard := none }) rfl (fun K hK => ?_) AllReadyH.nil
            go_simp
            refine (HLE.out _ q1009.b _ (show Blk _ w1001.heap.size #[.int .i64 7] 3 from p1008)).mono ?_
            rintro e w1010 ⟨rfl, hb1011⟩
            have q1012 := q1009.later hb1011
            have q1013 := p1008.later hb1011
            refine hK.out _ _ (⟨q1012.1, q1012.2.1, q1012.2.2.1, trivial⟩) (fun hHeld => ?_)
            clear hK K
            try simp only [Act.put, List.setIfInBounds_toArray, List.set_cons_zero, List.set_cons_succ]
            refine wpAnyH_take (i := 10) (oi := { dst := some 95, op := Op.binOp BinOp.neq 29 (Operand.tmp 91) (Operand.tmp 94) 29, type := 4, pos := "keeps.go:157", after := #[{ on := 6, ground := Ground.data }, { on := 9, ground := Ground.data }], guard := none }) (v := ?v109) rfl (by kernel_rfl) (by kernel_rfl) (by kernel_rfl) (fun _ _ _ h => h) (Or.inl ⟨by rfl, ?hy109⟩) (by assumption) ?rest109
            case hy109 => (intro w1 hSw; (try dsimp only at hSw); obtain ⟨h0, h1, h2, -⟩ := hSw; go_simp; try with_reducible rfl)
            try simp only [Act.put, List.setIfInBounds_toArray, List.set_cons_zero, List.set_cons_succ]
            refine wpAnyH_done (by kernel_rfl) ?_ _
            have HST := Lib.hid q1012
            have HL := Lib.hid (HL.out.later HST.out.b)
            have HY := Lib.hid (HY.out.later HST.out.b)
            have HM := Lib.hid (HM.out.later HST.out.b)
            have HROW := Lib.hid (own_below HROW.out HST.out.b)
            have y0 : w1010.cell? ⟨KB, j * 2, none⟩ = some (.int .i64 KT) := HST.out.1
            have y1 : w1010.cell? ⟨KB, j * 2 + 1, none⟩ = some (.string KX) := HST.out.2.1
            have y2 : w1010.cell? ⟨MB, j, none⟩ = some (.int .u64 (Mj : Int)) := HST.out.2.2.1
            clear hHeld
            by_cases hM0 : 0 < Mj
            · have b5 : (0 : Int) < (Mj : Int) := by omega
              have hat := sixK_at HJ.out (show 0 < M9 j by rw [HMJ.out]; exact hM0)
              have hatl := (List.getElem?_eq_some_iff.1 hat).1
              rw [HGL.out] at hatl
              have HNX := Lib.hid (show (sixK M9 (j + 1)).length = (sixK M9 j).length + 1 by rw [sixK_next, if_pos (by rw [HMJ.out]; exact hM0), List.length_append]; rfl)
              obtain ⟨gg, gcap, hgv, _, _⟩ := row_some HROW.out (by omega)
              cases hgv
              obtain ⟨κ, hκ⟩ : ∃ κ, (sixK M9 j).length = κ := ⟨_, rfl⟩
              rw [hκ] at hat hatl HNX ⊢
              have hmap : ((sixK M9 6).map kyI)[κ]? = some (KT, KX) := by rw [List.getElem?_map, hat, ← HKE2.out]; rfl
              have hml : (keCells ((sixK M9 6).map kyI)).length = GL * 2 := by rw [keCells_len, List.length_map, HGL.out]
              have z0 : w1010.cell? ⟨gg, κ * 2, none⟩ = some (.int .i64 KT) := (HROW.out.cellAt (κ * 2) (by omega)).trans (keCells_get _ κ _ hmap 0 (by omega))
              have z1 : w1010.cell? ⟨gg, κ * 2 + 1, none⟩ = some (.string KX) := (HROW.out.cellAt (κ * 2 + 1) (by omega)).trans (keCells_get _ κ _ hmap 1 (by omega))
              have e1 := fun w => ck_neqSame KT KX w
              have g1 := fun op a b xs ys w => ck_guardKey op a b xs ys w
              have b6 : (0 : Int) ≤ (κ : Int) := by omega
              have b7 : (κ : Int) < (GL : Int) := by omega
              have b8 : ¬ (GL : Int) ≤ (κ : Int) := by omega
              have c8 : ¬ GL ≤ κ := by omega
              have c7 : κ < GL := hatl
              have c6 : j < 6 := HJ.out
              have b9 : IntKind.i64.wrap ((κ : Int) + 1) = (κ : Int) + 1 := by rw [IntKind.wrap_i64]; omega
              clear hat hatl hκ hmap hml hM0
              go_wp2_with fail
              go_quiet (fail)
              have HD := Lib.hid (below_drewM (B := w1010.heap.size) (w := w1010) nq)
              clear y0 y1 y2 z0 z1 e1 g1
              go_wp2_with fail
              go_roundw
              case rel => exact ⟨j + 1, by go_num, by rw [HNX.out]; go_num, by have := HJ.out; omega, HL.out.later HD.out, HY.out.later HD.out, HM.out.later HD.out, own_below HROW.out HD.out⟩
              case measure => have := HJ.out; simp [intOf]; omega
            · have b5 : ¬ (0 : Int) < (Mj : Int) := by omega
              have HNX := Lib.hid (show (sixK M9 (j + 1)).length = (sixK M9 j).length by rw [sixK_next, if_neg (by rw [HMJ.out]; exact hM0), List.append_nil])
              clear hM0 y0 y1
              go_wp2_with fail
              go_roundw
              case rel => exact ⟨j + 1, by go_num, by rw [HNX.out], by have := HJ.out; omega, HL.out, HY.out, HM.out, HROW.out⟩
              case measure => have := HJ.out; simp [intOf]; omega
          · obtain rfl : j = 6 := by omega
            have b1 : ¬ (((6 : Nat) : Int) < 6) := by omega
            rw [show ((6 : Nat) : Int) = 6 from rfl] at b1 ⊢
            rw [HGL.out]
            have HE := Lib.hid HL.out.k
            clear hj6 hlt
            go_wp2_with fail
            go_ret
            exact ⟨rfl, HE.out⟩
      · go_wp2_with fail
        refine HFO.out.mono ?_
        rintro e w5 ⟨rfl, hl, hk⟩
        dsimp only
        have HY := Lib.hid (hk.blk HY.out (by decide))
        have HM := Lib.hid (hk.blk HM.out (by decide))
        have hm2 := HM.out.set ω (.int .u64 ((0 : Nat) : Int))
        rw [mV_set] at hm2
        have HL := Lib.hid (show AkL wB.heap.size b (A.forget (kyI ω)) g n W (w5.setCell ⟨MB, ω, none⟩ (.int .u64 0)) from hl.set HM.out (by decide) (by decide) HNE.out.2 ω (.int .u64 0))
        have hy2 := HY.out.kept (grown_set w5 MB ω (.int .u64 0)) (fun e => HNE.out.1 (Option.some.inj e))
        have z1 : w5.frozen? ⟨MB, ω, none⟩ = false := HM.out.frozen ω
        have z0 : w5.cell? ⟨MB, ω, none⟩ = some (.int .u64 (M ω : Int)) := by rw [HM.out.cell ω, mV_get M hω6]
        have HY := Lib.hid hy2
        have HM := Lib.hid (show Blk (w5.setCell ⟨MB, ω, none⟩ (.int .u64 0)) MB (mV (upd M ω 0)) 51 from hm2)
        obtain ⟨A9, hA9⟩ : ∃ A9, A.forget (kyI ω) = A9 := ⟨_, rfl⟩
        obtain ⟨M9, hM9⟩ : ∃ M9, upd M ω 0 = M9 := ⟨_, rfl⟩
        have HSX := HSX
        rw [hA9] at HL HSX
        rw [hM9] at HSX HM
        have HMB9 := Lib.hid (show ∀ k, M9 k ≤ 43 from fun k => by
          rw [← hM9]
          by_cases e : k = ω
          · subst e; rw [upd_same]; omega
          · rw [upd_other e]; exact HMB.out k)
        have HKE := Lib.hid (keys_any HL.out.i (K := six) (by decide) (six_some HSX.out))
        clear hl hk hm2 hy2 hA9 hM9 y0 y1 HFO
        go_wp2_with fail
        refine HKE.out.mono ?_
        rintro e w6 ⟨ks, v, rfl, hks, hkm, hrow, hb⟩
        obtain rfl := six_keys HSX.out hks hkm
        dsimp only
        have HL := Lib.hid (HL.out.later hb)
        have HY := Lib.hid (HY.out.later hb)
        have HM := Lib.hid (HM.out.later hb)
        obtain ⟨GL, hGL⟩ : ∃ GL, (sixK M9 6).length = GL := ⟨_, rfl⟩
        rw [List.length_map, hGL] at hrow
        obtain ⟨ga, gc, rfl⟩ := row_shape hrow
        have HROW := Lib.hid hrow
        have HGL := Lib.hid hGL
        have hgl6 : GL ≤ 6 := by rw [← hGL]; exact sixK_len _ _
        obtain ⟨base5, hb5⟩ : ∃ base5, (w5.setCell ⟨MB, ω, none⟩ (.int .u64 0)).heap.size = base5 := ⟨_, rfl⟩
        rw [hb5] at HROW
        clear hks hkm hb hrow HKE z0 z1 hGL hb5 b1 a1 a2 a3 a4 a6 a7 HIN HBS HLL HMB
        go_wp2_with fail
        go_loopw [14, 15] (fun va vi wr => ∃ (j : Nat), vi = .int .i64 (j : Int) ∧ va = .int .i64 ((sixK M9 j).length : Int) ∧ j ≤ 6 ∧ AkL wB.heap.size b A9 g n W wr ∧ Blk wr KB (keCells six).toArray 27 ∧ Blk wr MB (mV M9) 51 ∧ wr.ownsRow base5 27 2 (.slice ga GL gc) GL (keCells ((sixK M9 6).map kyI))) (fun _ vi _ => 6 - (intOf vi).toNat)
        case atStart => exact ⟨0, rfl, rfl, by omega, HL.out, HY.out, HM.out, HROW.out⟩
        case round =>
          clear HL HY HM HROW
          obtain ⟨j, rfl, rfl, hj6, hl, hy, hm, hrow⟩ := hrel
          have HL := Lib.hid hl
          have HY := Lib.hid hy
          have HM := Lib.hid hm
          have HROW := Lib.hid hrow
          clear hl hy hm hrow
          by_cases hlt : j < 6
          · have b1 : (j : Int) < 6 := by omega
            have b2 : (0 : Int) ≤ (j : Int) := by omega
            have b3 : IntKind.i64.wrap ((j : Int) + 1) = (j : Int) + 1 := by rw [IntKind.wrap_i64]; omega
            obtain ⟨KT, hKT⟩ : ∃ KT, (kyI j).1 = KT := ⟨_, rfl⟩
            obtain ⟨KX, hKX⟩ : ∃ KX, (kyI j).2 = KX := ⟨_, rfl⟩
            obtain ⟨Mj, hMj⟩ : ∃ Mj, M9 j = Mj := ⟨_, rfl⟩
            have hKK : kyK (KT, KX) := by rw [← hKT, ← hKX]; exact kyI_k
            have hKE : kyI j = (KT, KX) := by rw [← hKT, ← hKX]
            have hg0 := keCells_get six j (kyI j) (six_get hlt) 0 (by omega)
            have hg1 := keCells_get six j (kyI j) (six_get hlt) 1 (by omega)
            rw [hKE] at hg0 hg1
            have hst : KyT KB MB j KT KX Mj wr wr := ⟨by rw [HY.out.cell (j * 2), List.getElem?_toArray]; exact hg0, by rw [HY.out.cell (j * 2 + 1), List.getElem?_toArray]; exact hg1, by rw [HM.out.cell j, mV_get M9 hlt, hMj], HY.out.lt, HM.out.lt, Below.refl _ _⟩
            have HST := Lib.hid hst
            have HLE := Lib.hid (fun (W2 : World) (hW : Below wr.heap.size wr W2) (B : Nat) (hB : Blk W2 B #[.int .i64 7] 3) => by
              have h1 := least_any (k := (KT, KX)) (c := 1) (l := [7]) (HL.out.later hW).i hKK (ints_blk (c := #[.int .i64 7]) hB rfl) (by show 1 ≤ maxLen; unfold maxLen; omega) (sm_all (by decide))
              rw [← hKE, six_least HSX.out hlt, hMj, hKE] at h1
              exact (h1 : Calls Tryd.prog 11 #[.pointer (some ⟨b.m, 0, none⟩), .agg #[.int .i64 KT, .string KX], .slice (some ⟨B, 0, none⟩) 1 1] W2 fun e w' => e = .returned (.int .u64 (Mj : Int)) ∧ Below W2.heap.size W2 w'))
            have HKE2 := Lib.hid hKE
            have HMJ := Lib.hid hMj
            have HJ := Lib.hid hlt
            clear hKT hKX hMj hKK hKE hg0 hg1 hst hlt
            go_wp2_with fail
            obtain ⟨w1001, hw1002, hb1003⟩ := drew_new wr
            have q1004 := HST.out.later hb1003
            refine wp_region_held_drew (S := (fun w' => w'.cell? ⟨KB, j * 2, none⟩ = some (.int .i64 KT) ∧ w'.cell? ⟨KB, j * 2 + 1, none⟩ = some (.string KX) ∧ w'.cell? ⟨MB, j, none⟩ = some (.int .u64 (Mj : Int)) ∧ True)) (by kernel_rfl) (by rw [hw1002]; exact ⟨q1004.1, q1004.2.1, q1004.2.2.1, trivial⟩) (fun hHeld => ?_)
            rw [hw1002] at hHeld ⊢
            refine wpAnyH_take (i := 0) (oi := { dst := some 85, op := Op.move (Operand.tmp 6), type := 24, pos := "keeps.go:157", after := #[], guard := none }) (v := ?v1101) rfl (by kernel_rfl) (by kernel_rfl) (by kernel_rfl) (fun _ _ _ h => h) (Or.inl ⟨by rfl, ?hy1101⟩) (by assumption) ?rest1101
            case hy1101 => (intro w1 hSw; (try dsimp only at hSw); obtain ⟨h0, h1, h2, -⟩ := hSw; go_simp; try with_reducible rfl)
            try simp only [Act.put, List.setIfInBounds_toArray, List.set_cons_zero, List.set_cons_succ]
            refine wpAnyH_take (i := 1) (oi := { dst := some 86, op := Op.move (Operand.tmp 7), type := 45, pos := "keeps.go:157", after := #[], guard := none }) (v := ?v1102) rfl (by kernel_rfl) (by kernel_rfl) (by kernel_rfl) (fun _ _ _ h => h) (Or.inl ⟨by rfl, ?hy1102⟩) (by assumption) ?rest1102
            case hy1102 => (intro w1 hSw; (try dsimp only at hSw); obtain ⟨h0, h1, h2, -⟩ := hSw; go_simp; try with_reducible rfl)
            try simp only [Act.put, List.setIfInBounds_toArray, List.set_cons_zero, List.set_cons_succ]
            refine wpAnyH_take (i := 2) (oi := { dst := some 87, op := Op.move (Operand.tmp 15), type := 3, pos := "keeps.go:157", after := #[], guard := none }) (v := ?v1103) rfl (by kernel_rfl) (by kernel_rfl) (by kernel_rfl) (fun _ _ _ h => h) (Or.inl ⟨by rfl, ?hy1103⟩) (by assumption) ?rest1103
            case hy1103 => (intro w1 hSw; (try dsimp only at hSw); obtain ⟨h0, h1, h2, -⟩ := hSw; go_simp; try with_reducible rfl)
            try simp only [Act.put, List.setIfInBounds_toArray, List.set_cons_zero, List.set_cons_succ]
            refine wpAnyH_take (i := 3) (oi := { dst := some 88, op := Op.indexAddr 45 (Operand.tmp 86) (Operand.tmp 87), type := 0, pos := "keeps.go:157", after := #[{ on := 1, ground := Ground.data }, { on := 2, ground := Ground.data }], guard := none }) (v := ?v1104) rfl (by kernel_rfl) (by kernel_rfl) (by kernel_rfl) (fun _ _ _ h => h) (Or.inl ⟨by rfl, ?hy1104⟩) (by assumption) ?rest1104
            case hy1104 => (intro w1 hSw; (try dsimp only at hSw); obtain ⟨h0, h1, h2, -⟩ := hSw; go_simp; try with_reducible rfl)
            try simp only [Act.put, List.setIfInBounds_toArray, List.set_cons_zero, List.set_cons_succ]
            refine wpAnyH_take (i := 4) (oi := { dst := some 89, op := Op.load 27 (Operand.tmp 88), type := 27, pos := "keeps.go:157", after := #[{ on := 3, ground := Ground.data }], guard := none }) (v := ?v1105) rfl (by kernel_rfl) (by kernel_rfl) (by kernel_rfl) (fun _ _ _ h => h) (Or.inl ⟨by rfl, ?hy1105⟩) (by assumption) ?rest1105
            case hy1105 => (intro w1 hSw; (try dsimp only at hSw); obtain ⟨h0, h1, h2, -⟩ := hSw; go_simp; try with_reducible rfl)
            try simp only [Act.put, List.setIfInBounds_toArray, List.set_cons_zero, List.set_cons_succ]
            refine wpAnyH_take (i := 7) (oi := { dst := some 92, op := Op.move (Operand.tmp 15), type := 3, pos := "keeps.go:157", after := #[], guard := none }) (v := ?v1106) rfl (by kernel_rfl) (by kernel_rfl) (by kernel_rfl) (fun _ _ _ h => h) (Or.inl ⟨by rfl, ?hy1106⟩) (by assumption) ?rest1106
            case hy1106 => (intro w1 hSw; (try dsimp only at hSw); obtain ⟨h0, h1, h2, -⟩ := hSw; go_simp; try with_reducible rfl)
            try simp only [Act.put, List.setIfInBounds_toArray, List.set_cons_zero, List.set_cons_succ]
            refine wpAnyH_take (i := 8) (oi := { dst := some 93, op := Op.indexAddr 51 (Operand.tmp 8) (Operand.tmp 92), type := 0, pos := "keeps.go:157", after := #[{ on := 7, ground := Ground.data }], guard := none }) (v := ?v1107) rfl (by kernel_rfl) (by kernel_rfl) (by kernel_rfl) (fun _ _ _ h => h) (Or.inl ⟨by rfl, ?hy1107⟩) (by assumption) ?rest1107
            case hy1107 => (intro w1 hSw; (try dsimp only at hSw); obtain ⟨h0, h1, h2, -⟩ := hSw; go_simp; try with_reducible rfl)
            try simp only [Act.put, List.setIfInBounds_toArray, List.set_cons_zero, List.set_cons_succ]
            refine wpAnyH_take (i := 9) (oi := { dst := some 94, op := Op.load 29 (Operand.tmp 93), type := 29, pos := "keeps.go:157", after := #[{ on := 8, ground := Ground.data }], guard := none }) (v := ?v1108) rfl (by kernel_rfl) (by kernel_rfl) (by kernel_rfl) (fun _ _ _ h => h) (Or.inl ⟨by rfl, ?hy1108⟩) (by assumption) ?rest1108
            case hy1108 => (intro w1 hSw; (try dsimp only at hSw); obtain ⟨h0, h1, h2, -⟩ := hSw; go_simp; try with_reducible rfl)
            try simp only [Act.put, List.setIfInBounds_toArray, List.set_cons_zero, List.set_cons_succ]
            refine wpAnyH_ready (rs := [5]) (by kernel_rfl) (by simp) ?_
            refine AllReadyH.cons (o := { dst := some 90, op := Op.buildSlice 28 1 #[(0, Operand.const (Value.int IntKind.i64 7))], type := 28, pos := "keeps.go:157", after := #[], guard := none }) rfl (fun K hK => ?_) AllReadyH.nil
            go_simp
            obtain ⟨w1005, hw1006, hb1007, p1008⟩ := alloc_new w1001 #[.int .i64 7] 3
            have q1009 := q1004.later hb1007
            rw [hw1006]
            refine hK.out _ _ (⟨q1009.1, q1009.2.1, q1009.2.2.1, trivial⟩) (fun hHeld => ?_)
            clear hK K
            try simp only [Act.put, List.setIfInBounds_toArray, List.set_cons_zero, List.set_cons_succ]
            refine wpAnyH_ready (rs := [6]) (by kernel_rfl) (by simp) ?_
            refine AllReadyH.cons (o := { dst := some 91, op := Op.call { callee := Callee.value (Operand.func 11), args := #[Operand.tmp 85, Operand.tmp 89, Operand.tmp 90], argTypes := #[24, 27, 28] }, type := 29, pos := "keeps.go:157", after := #[{ on := 0, ground := Ground.data }, { on := 4, ground := Ground.data }, { on := 5, ground := Ground.data }], guard := none }) rfl (fun K hK => ?_) AllReadyH.nil
            go_simp
            refine (HLE.out _ q1009.b _ (show Blk _ w1001.heap.size #[.int .i64 7] 3 from p1008)).mono ?_
            rintro e w1010 ⟨rfl, hb1011⟩
            have q1012 := q1009.later hb1011
            have q1013 := p1008.later hb1011
            refine hK.out _ _ (⟨q1012.1, q1012.2.1, q1012.2.2.1, trivial⟩) (fun hHeld => ?_)
            clear hK K
            try simp only [Act.put, List.setIfInBounds_toArray, List.set_cons_zero, List.set_cons_succ]
            refine wpAnyH_take (i := 10) (oi := { dst := some 95, op := Op.binOp BinOp.neq 29 (Operand.tmp 91) (Operand.tmp 94) 29, type := 4, pos := "keeps.go:157", after := #[{ on := 6, ground := Ground.data }, { on := 9, ground := Ground.data }], guard := none }) (v := ?v1109) rfl (by kernel_rfl) (by kernel_rfl) (by kernel_rfl) (fun _ _ _ h => h) (Or.inl ⟨by rfl, ?hy1109⟩) (by assumption) ?rest1109
            case hy1109 => (intro w1 hSw; (try dsimp only at hSw); obtain ⟨h0, h1, h2, -⟩ := hSw; go_simp; try with_reducible rfl)
            try simp only [Act.put, List.setIfInBounds_toArray, List.set_cons_zero, List.set_cons_succ]
            refine wpAnyH_done (by kernel_rfl) ?_ _
            have HST := Lib.hid q1012
            have HL := Lib.hid (HL.out.later HST.out.b)
            have HY := Lib.hid (HY.out.later HST.out.b)
            have HM := Lib.hid (HM.out.later HST.out.b)
            have HROW := Lib.hid (own_below HROW.out HST.out.b)
            have y0 : w1010.cell? ⟨KB, j * 2, none⟩ = some (.int .i64 KT) := HST.out.1
            have y1 : w1010.cell? ⟨KB, j * 2 + 1, none⟩ = some (.string KX) := HST.out.2.1
            have y2 : w1010.cell? ⟨MB, j, none⟩ = some (.int .u64 (Mj : Int)) := HST.out.2.2.1
            clear hHeld
            by_cases hM0 : 0 < Mj
            · have b5 : (0 : Int) < (Mj : Int) := by omega
              have hat := sixK_at HJ.out (show 0 < M9 j by rw [HMJ.out]; exact hM0)
              have hatl := (List.getElem?_eq_some_iff.1 hat).1
              rw [HGL.out] at hatl
              have HNX := Lib.hid (show (sixK M9 (j + 1)).length = (sixK M9 j).length + 1 by rw [sixK_next, if_pos (by rw [HMJ.out]; exact hM0), List.length_append]; rfl)
              obtain ⟨gg, gcap, hgv, _, _⟩ := row_some HROW.out (by omega)
              cases hgv
              obtain ⟨κ, hκ⟩ : ∃ κ, (sixK M9 j).length = κ := ⟨_, rfl⟩
              rw [hκ] at hat hatl HNX ⊢
              have hmap : ((sixK M9 6).map kyI)[κ]? = some (KT, KX) := by rw [List.getElem?_map, hat, ← HKE2.out]; rfl
              have hml : (keCells ((sixK M9 6).map kyI)).length = GL * 2 := by rw [keCells_len, List.length_map, HGL.out]
              have z0 : w1010.cell? ⟨gg, κ * 2, none⟩ = some (.int .i64 KT) := (HROW.out.cellAt (κ * 2) (by omega)).trans (keCells_get _ κ _ hmap 0 (by omega))
              have z1 : w1010.cell? ⟨gg, κ * 2 + 1, none⟩ = some (.string KX) := (HROW.out.cellAt (κ * 2 + 1) (by omega)).trans (keCells_get _ κ _ hmap 1 (by omega))
              have e1 := fun w => ck_neqSame KT KX w
              have g1 := fun op a b xs ys w => ck_guardKey op a b xs ys w
              have b6 : (0 : Int) ≤ (κ : Int) := by omega
              have b7 : (κ : Int) < (GL : Int) := by omega
              have b8 : ¬ (GL : Int) ≤ (κ : Int) := by omega
              have c8 : ¬ GL ≤ κ := by omega
              have c7 : κ < GL := hatl
              have c6 : j < 6 := HJ.out
              have b9 : IntKind.i64.wrap ((κ : Int) + 1) = (κ : Int) + 1 := by rw [IntKind.wrap_i64]; omega
              clear hat hatl hκ hmap hml hM0
              go_wp2_with fail
              go_quiet (fail)
              have HD := Lib.hid (below_drewM (B := w1010.heap.size) (w := w1010) nq)
              clear y0 y1 y2 z0 z1 e1 g1
              go_wp2_with fail
              go_roundw
              case rel => exact ⟨j + 1, by go_num, by rw [HNX.out]; go_num, by have := HJ.out; omega, HL.out.later HD.out, HY.out.later HD.out, HM.out.later HD.out, own_below HROW.out HD.out⟩
              case measure => have := HJ.out; simp [intOf]; omega
            · have b5 : ¬ (0 : Int) < (Mj : Int) := by omega
              have HNX := Lib.hid (show (sixK M9 (j + 1)).length = (sixK M9 j).length by rw [sixK_next, if_neg (by rw [HMJ.out]; exact hM0), List.append_nil])
              clear hM0 y0 y1
              go_wp2_with fail
              go_roundw
              case rel => exact ⟨j + 1, by go_num, by rw [HNX.out], by have := HJ.out; omega, HL.out, HY.out, HM.out, HROW.out⟩
              case measure => have := HJ.out; simp [intOf]; omega
          · obtain rfl : j = 6 := by omega
            have b1 : ¬ (((6 : Nat) : Int) < 6) := by omega
            rw [show ((6 : Nat) : Int) = 6 from rfl] at b1 ⊢
            rw [HGL.out]
            have HE := Lib.hid HL.out.k
            clear hj6 hlt
            go_wp2_with fail
            go_ret
            exact ⟨rfl, HE.out⟩
end Go.Proofs.YtogkdekjcbljnaaDoor
