/- acks: AcksCover walked (tools/akcovw_gen.py). -/
import Derived.Test.YtogkdekjcbljnaaDoorAkCvM
namespace Go.Proofs.YtogkdekjcbljnaaDoor
open Go.RowKit

theorem Tryd.infoIntC : (Tryd.prog.info? 3).map (fun i => (i.zero, i.size, i.bytes)) = some (some (.int .i64 0), 1, 8) := by kernel_rfl
theorem int_one {l : List Int} : ∀ u ∈ l.map (fun x => Value.int .i64 x), u.oneCell' = true := by
  intro u hu
  obtain ⟨x, _, rfl⟩ := List.mem_map.1 hu
  rfl
set_option maxRecDepth 100000 in
set_option maxHeartbeats 8000000 in
theorem cover_walk (a : Option Addr) (LL c : Nat) (ds : List Dd) (n1 : Nat) (g n : Addr) (W : World) (hg : Gv g W) (hn : Gn n W) (hLL : ds.length = LL) (hlen : LL ≤ maxLen) (hin : DdsIn W a ds) (hds : ∀ p ∈ ds, DdOk p) (h1 : n1 < 256) :
    Calls Tryd.prog 3 #[.slice a LL c, .int .u8 (n1 : Int)] W fun e w' => e = .returned (.bool true) ∧ Below W.heap.size W w' := by
  obtain ⟨i0, hi, hz0, hz1, hz2⟩ := info_parts Tryd.infoIntC
  have hlen' : LL ≤ 9223372036854775807 := hlen
  have HLL := Lib.hid hLL
  have HIN := Lib.hid hin
  have HDS := Lib.hid hds
  have b1' : (0 : Int) ≤ (n1 : Int) := by omega
  clear hLL hin hds hlen
  have HG := Lib.hid (And.intro hg hn)
  clear hg hn
  go_enter Tryd.func3, Tryd.ntmps3
  go_wp2_with fail
  refine (ak_examples g n W HG.out.1 HG.out.2).mono ?_
  rintro e wB ⟨rfl, hb⟩
  dsimp only
  have HG := Lib.hid (And.intro (HG.out.1.below hb) (HG.out.2.later hb))
  have HBB := Lib.hid hb
  clear hb
  go_wp2_with fail
  refine (AkL.new (W := W) HG.out.1 HG.out.2 HBB.out).mono ?_
  rintro e w1 ⟨b, rfl, hl, -⟩
  dsimp only
  have HL := Lib.hid hl
  have HL0 := HL
  clear hl
  obtain ⟨x1, hw, hb, hq⟩ := ak_new w1 #[.int .i64 2, .string ⟨#[107]⟩] 27
  have HL := Lib.hid (HL.out.later hb)
  have HQ := Lib.hid hq
  have HW2 := Lib.hid hw
  clear hw hb hq
  obtain ⟨R, hR⟩ : ∃ R, w1.heap.size = R := ⟨_, rfl⟩
  rw [hR] at HQ
  have HRR := Lib.hid hR
  have HR0 := Lib.hid (show wB.heap.size ≤ R by rw [← hR]; exact HL0.out.i.hB)
  go_wp2_with (rw [HW2.out])
  clear hR HRR HW2
  have HX1 := Lib.hid (show R < x1.heap.size from HQ.out.lt)
  have HX2 := Lib.hid HL.out.maps
  have HX3 := Lib.hid HL.out.i.hB
  go_loopw [8, 9] (fun va vi wr => ∃ (k : Nat) (l : List Int), vi = .int .i64 ((k : Int) + 1) ∧ k ≤ 4 ∧ (∀ x ∈ l, 1 ≤ x ∧ x ≤ 4) ∧ l.length ≤ k ∧ IntRow x1.heap.size va l wr ∧ Below x1.heap.size x1 wr) (fun _ vi _ => 5 - (intOf vi).toNat)
  case atStart => exact ⟨0, [], rfl, by omega, fun x h => (by cases h), Nat.le_refl _, ⟨World.ownsRow_nil _ _ _ _⟩, Below.refl _ _⟩
  case round =>
    obtain ⟨k, l, rfl, hk4, hl4, hlk, hrow, hb⟩ := hrel
    by_cases hlt : k < 4
    · have hk : k = 0 ∨ k = 1 ∨ k = 2 ∨ k = 3 := by omega
      have HROW := Lib.hid hrow.own
      have HB := Lib.hid hb
      have HL4 := Lib.hid (And.intro hl4 hlk)
      have hsz := hb.size
      clear hrow hb hl4 hk4 hlt
      rcases hk with rfl | rfl | rfl | rfl
      · cases hbt : ((n1 : Int) / 2 % 2 == 1) with
        | false =>
          go_wp2_with fail
          go_roundw
          case rel => exact ⟨1, l, by go_num, by omega, HL4.out.1, by have := HL4.out.2; omega, ⟨HROW.out⟩, HB.out⟩
          case measure => simp [intOf]
        | true =>
          go_wp2_with (at_builtin; go_must (refine wpList_append_own _ rfl _ _ 28 rfl x1.heap.size 3 i0 _ 1 8 Tryd.underlying28 hi hz0 hz1 hz2 rfl (by omega) _ _ _ rfl (HROW.out.alloc _) ⟨wr.heap.size, 0, none⟩ 1 1 [.int .i64 (1 : Int)] rfl rfl (World.news_of_block (cs := #[.int .i64 (1 : Int)]) (t := 3) (fr := (0, 0)) (heap_alloc_new wr _)) (int_one (l := [(1 : Int)])) (by unfold maxLen; omega) (by have := HL4.out.2; omega) (by simp; omega) ?_; intro v4 w4 hown4 hgrow4 _))
          have HOW4 := Lib.hid (show IntRow x1.heap.size v4 (l ++ [(1 : Int)]) w4 from ⟨by rw [List.map_append, List.length_append]; exact hown4⟩)
          have HBW4 := Lib.hid ((HB.out.alloc hsz _).grown hgrow4 (by simp; omega) (fun j hj => (HROW.out.lt j hj).1))
          clear hown4 hgrow4
          go_wp2_with fail
          go_roundw
          case rel => exact ⟨1, _, by go_num, by omega, (by
            intro x hx
            rcases List.mem_append.1 hx with hx | hx
            · exact HL4.out.1 x hx
            · rw [List.mem_singleton] at hx; subst hx; omega), by have := HL4.out.2; rw [List.length_append, List.length_singleton]; omega, HOW4.out, HBW4.out⟩
          case measure => simp [intOf]
      · cases hbt : ((n1 : Int) / 4 % 2 == 1) with
        | false =>
          go_wp2_with fail
          go_roundw
          case rel => exact ⟨2, l, by go_num, by omega, HL4.out.1, by have := HL4.out.2; omega, ⟨HROW.out⟩, HB.out⟩
          case measure => simp [intOf]
        | true =>
          go_wp2_with (at_builtin; go_must (refine wpList_append_own _ rfl _ _ 28 rfl x1.heap.size 3 i0 _ 1 8 Tryd.underlying28 hi hz0 hz1 hz2 rfl (by omega) _ _ _ rfl (HROW.out.alloc _) ⟨wr.heap.size, 0, none⟩ 1 1 [.int .i64 (2 : Int)] rfl rfl (World.news_of_block (cs := #[.int .i64 (2 : Int)]) (t := 3) (fr := (0, 0)) (heap_alloc_new wr _)) (int_one (l := [(2 : Int)])) (by unfold maxLen; omega) (by have := HL4.out.2; omega) (by simp; omega) ?_; intro v4 w4 hown4 hgrow4 _))
          have HOW4 := Lib.hid (show IntRow x1.heap.size v4 (l ++ [(2 : Int)]) w4 from ⟨by rw [List.map_append, List.length_append]; exact hown4⟩)
          have HBW4 := Lib.hid ((HB.out.alloc hsz _).grown hgrow4 (by simp; omega) (fun j hj => (HROW.out.lt j hj).1))
          clear hown4 hgrow4
          go_wp2_with fail
          go_roundw
          case rel => exact ⟨2, _, by go_num, by omega, (by
            intro x hx
            rcases List.mem_append.1 hx with hx | hx
            · exact HL4.out.1 x hx
            · rw [List.mem_singleton] at hx; subst hx; omega), by have := HL4.out.2; rw [List.length_append, List.length_singleton]; omega, HOW4.out, HBW4.out⟩
          case measure => simp [intOf]
      · cases hbt : ((n1 : Int) / 8 % 2 == 1) with
        | false =>
          go_wp2_with fail
          go_roundw
          case rel => exact ⟨3, l, by go_num, by omega, HL4.out.1, by have := HL4.out.2; omega, ⟨HROW.out⟩, HB.out⟩
          case measure => simp [intOf]
        | true =>
          go_wp2_with (at_builtin; go_must (refine wpList_append_own _ rfl _ _ 28 rfl x1.heap.size 3 i0 _ 1 8 Tryd.underlying28 hi hz0 hz1 hz2 rfl (by omega) _ _ _ rfl (HROW.out.alloc _) ⟨wr.heap.size, 0, none⟩ 1 1 [.int .i64 (3 : Int)] rfl rfl (World.news_of_block (cs := #[.int .i64 (3 : Int)]) (t := 3) (fr := (0, 0)) (heap_alloc_new wr _)) (int_one (l := [(3 : Int)])) (by unfold maxLen; omega) (by have := HL4.out.2; omega) (by simp; omega) ?_; intro v4 w4 hown4 hgrow4 _))
          have HOW4 := Lib.hid (show IntRow x1.heap.size v4 (l ++ [(3 : Int)]) w4 from ⟨by rw [List.map_append, List.length_append]; exact hown4⟩)
          have HBW4 := Lib.hid ((HB.out.alloc hsz _).grown hgrow4 (by simp; omega) (fun j hj => (HROW.out.lt j hj).1))
          clear hown4 hgrow4
          go_wp2_with fail
          go_roundw
          case rel => exact ⟨3, _, by go_num, by omega, (by
            intro x hx
            rcases List.mem_append.1 hx with hx | hx
            · exact HL4.out.1 x hx
            · rw [List.mem_singleton] at hx; subst hx; omega), by have := HL4.out.2; rw [List.length_append, List.length_singleton]; omega, HOW4.out, HBW4.out⟩
          case measure => simp [intOf]
      · cases hbt : ((n1 : Int) / 16 % 2 == 1) with
        | false =>
          go_wp2_with fail
          go_roundw
          case rel => exact ⟨4, l, by go_num, by omega, HL4.out.1, by have := HL4.out.2; omega, ⟨HROW.out⟩, HB.out⟩
          case measure => simp [intOf]
        | true =>
          go_wp2_with (at_builtin; go_must (refine wpList_append_own _ rfl _ _ 28 rfl x1.heap.size 3 i0 _ 1 8 Tryd.underlying28 hi hz0 hz1 hz2 rfl (by omega) _ _ _ rfl (HROW.out.alloc _) ⟨wr.heap.size, 0, none⟩ 1 1 [.int .i64 (4 : Int)] rfl rfl (World.news_of_block (cs := #[.int .i64 (4 : Int)]) (t := 3) (fr := (0, 0)) (heap_alloc_new wr _)) (int_one (l := [(4 : Int)])) (by unfold maxLen; omega) (by have := HL4.out.2; omega) (by simp; omega) ?_; intro v4 w4 hown4 hgrow4 _))
          have HOW4 := Lib.hid (show IntRow x1.heap.size v4 (l ++ [(4 : Int)]) w4 from ⟨by rw [List.map_append, List.length_append]; exact hown4⟩)
          have HBW4 := Lib.hid ((HB.out.alloc hsz _).grown hgrow4 (by simp; omega) (fun j hj => (HROW.out.lt j hj).1))
          clear hown4 hgrow4
          go_wp2_with fail
          go_roundw
          case rel => exact ⟨4, _, by go_num, by omega, (by
            intro x hx
            rcases List.mem_append.1 hx with hx | hx
            · exact HL4.out.1 x hx
            · rw [List.mem_singleton] at hx; subst hx; omega), by have := HL4.out.2; rw [List.length_append, List.length_singleton]; omega, HOW4.out, HBW4.out⟩
          case measure => simp [intOf]
    · obtain rfl : k = 4 := by omega
      have b1 : ¬ (((4 : Nat) : Int) + 1 ≤ 4) := by omega
      rw [show ((4 : Nat) : Int) + 1 = 5 from rfl] at b1 ⊢
      have HL4 := Lib.hid hl4
      obtain ⟨a4, c4, rfl⟩ := row_shape hrow.own
      have HL := Lib.hid (HL.out.later hb)
      have HQ := Lib.hid (HQ.out.later hb)
      have HS := Lib.hid hb.size
      obtain ⟨x4, hw, hb4, hq4⟩ := ak_new wr (c5 fun _ => 0) 30
      have HW4 := Lib.hid (show wr.alloc (.cells #[.int .u64 0, .int .u64 0, .int .u64 0, .int .u64 0, .int .u64 0] 30) = x4 from hw)
      have HL := Lib.hid (HL.out.later hb4)
      have HQ := Lib.hid (HQ.out.later hb4)
      have HROW := Lib.hid (hrow.later hb4)
      obtain ⟨x5, hw5, hb5, hm5⟩ := map_new x4
      have HW5 := Lib.hid hw5
      have HS2 := Lib.hid hb4.size
      have HCV := Lib.hid (show CvW wB.heap.size b g n W R wr.heap.size x4.heap.size x1.heap.size (.slice a4 l.length c4) l Ak.zero (fun _ => 0) (fun _ => none) x5 from ⟨HL.out.later hb5, HQ.out.later hb5, hq4.later hb5, hm5, HROW.out.later hb5, by have := HX2.out.1; have := HS.out; have := HS2.out; omega, by have := HX2.out.2.1; have := HS.out; have := HS2.out; omega, by have := HX2.out.2.2; have := HS.out; have := HS2.out; omega, by have := HX3.out; have := HS.out; have := HS2.out; omega, by have := HX3.out; have := HS.out; omega⟩)
      clear hw hb4 hq4 hw5 hb5 hm5 HL HQ HROW HX2 HS HS2 hrow hb hl4 hk4 hlt
      have hl04 := hlk
      clear hlk
      have hmm := @run_makeMap Tryd.prog
      go_wp2_with (first | rw [HW4.out] | rw [HW5.out])
      clear hmm HW4 HW5
      obtain ⟨TB, hTB⟩ : ∃ TB, wr.heap.size = TB := ⟨_, rfl⟩
      obtain ⟨MP, hMP⟩ : ∃ MP, x4.heap.size = MP := ⟨_, rfl⟩
      rw [hTB] at HCV ⊢
      rw [hMP] at HCV ⊢
      clear hTB hMP b1
      go_loopw [12, 13, 14, 15, 16, 17, 18, 19, 20, 21] (fun vv vi _ _ _ _ _ _ _ _ wr => ∃ (i v : Nat) (A : Ak) (F : Int → Nat) (RR : List Bd) (B : Nat → Option ByteArray), vi = .int .i64 (i : Int) ∧ vv = .int .u64 (v : Int) ∧ i ≤ 40 ∧ i ≤ LL ∧ v ≤ 12 ∧ CvP A F RR B v ∧ CvW wB.heap.size b g n W R TB MP x1.heap.size (.slice a4 l.length c4) l A F B wr) (fun _ vi _ _ _ _ _ _ _ _ _ => 40 - (intOf vi).toNat)
      case atStart => exact ⟨0, 0, Ak.zero, _, [], _, rfl, rfl, by omega, Nat.zero_le _, Nat.zero_le _, cvp_zero, HCV.out⟩
      case round =>
        clear HCV
        obtain ⟨i, v, A, F, RR, B, rfl, rfl, hi40, hiL, hv12, hP, hC⟩ := hrel
        have HP := Lib.hid hP
        have HC := Lib.hid hC
        clear hP hC
        by_cases hlt : i < LL ∧ i < 40
        · obtain ⟨hl1, hl2⟩ := hlt
          have b1 : (i : Int) < (LL : Int) := by omega
          have b2 : (i : Int) < 40 := by omega
          have b3 : (0 : Int) ≤ (i : Int) := by omega
          have b4 : IntKind.i64.wrap ((i : Int) + 1) = (i : Int) + 1 := by rw [IntKind.wrap_i64]; omega
          obtain ⟨d, hd⟩ : ∃ d, ds[i]? = some d := ⟨_, List.getElem?_eq_getElem (by have := HLL.out; omega)⟩
          have HDO := Lib.hid (HDS.out d (List.mem_of_getElem? hd))
          obtain ⟨ab, ao, rfl, hat⟩ := (HIN.out.below HC.out.k.k) i d hd
          obtain ⟨kd, di, nm, q0, okf, sv, near⟩ := d
          obtain ⟨hd0, hd1, hd2, hd3, hd4, hd5, hd7, hdl⟩ := hat
          dsimp only at hd2 hd3 hd4 hd5 HDO
          have hnm : nm < 256 := HDO.out.nm
          have hq0 : q0 < 18446744073709551616 := HDO.out.q
          obtain ⟨κ, hκ⟩ : ∃ κ, nm % 4 = κ := ⟨_, rfl⟩
          have d1 : (nm : Int).tmod 4 = (κ : Int) := by rw [Int.tmod_eq_emod_of_nonneg (by omega)]; omega
          have d2 : (nm : Int) % 4 = (κ : Int) := by omega
          have d3 : IntKind.u8.wrap (κ : Int) = (κ : Int) := by rw [show IntKind.u8.wrap (κ : Int) = (κ : Int) % 256 from rfl]; omega
          have d4 : IntKind.i64.wrap (κ : Int) = (κ : Int) := by rw [IntKind.wrap_i64]; omega
          obtain ⟨id, hid⟩ : ∃ id, 1 + κ = id := ⟨_, rfl⟩
          have hidb : 1 ≤ id ∧ id ≤ 4 := by omega
          have d5 : IntKind.i64.wrap (1 + (κ : Int)) = (id : Int) := by rw [IntKind.wrap_i64]; omega
          obtain ⟨ρ, hρ⟩ : ∃ ρ, q0 % 12 = ρ := ⟨_, rfl⟩
          have e1 : (q0 : Int).tmod 12 = (ρ : Int) := by rw [Int.tmod_eq_emod_of_nonneg (by omega)]; omega
          have e2 : (q0 : Int) % 12 = (ρ : Int) := by omega
          have e3 : IntKind.u64.wrap (ρ : Int) = (ρ : Int) := by rw [show IntKind.u64.wrap (ρ : Int) = (ρ : Int) % 18446744073709551616 from rfl]; omega
          obtain ⟨q, hq⟩ : ∃ q, 1 + ρ = q := ⟨_, rfl⟩
          have hqb : 1 ≤ q ∧ q ≤ 12 := by omega
          have e4 : IntKind.u64.wrap (1 + (ρ : Int)) = (q : Int) := by rw [show IntKind.u64.wrap (1 + (ρ : Int)) = (1 + (ρ : Int)) % 18446744073709551616 from rfl]; omega
          have HQB := Lib.hid (And.intro hidb hqb)
          have y0 : wr.cell? ⟨R, 0, none⟩ = some (.int .i64 2) := HC.out.q.cell 0
          have y1 : wr.cell? ⟨R, 1, none⟩ = some (.string ⟨#[107]⟩) := HC.out.q.cell 1
          have ST3 : CvT R ab (ao + i * 8) q0 okf wr.drew := ⟨y0, y1, hd3, hd4, HC.out.q.lt, hdl⟩
          clear hidb hqb hid hq hκ hρ hnm hq0 hd hd0 hd1 hd7 hl1 hl2 hi40 hiL
          go_wp2_with fail
          go_region_held3 (fun w' => w'.cell? ⟨R, 0, none⟩ = some (.int .i64 2) ∧ w'.cell? ⟨R, 1, none⟩ = some (.string ⟨#[107]⟩) ∧ w'.cell? ⟨ab, ao + i * 8 + 3, none⟩ = some (.int .u64 (q0 : Int)) ∧ w'.cell? ⟨ab, ao + i * 8 + 4, none⟩ = some (.bool okf) ∧ CvSz R ab w') (with_reducible first | exact ST3 | exact CvT.make ST3 _ | go_keep) (fail)
          rename_i hH
          clear hH ST3 y0 y1 hd2 hd3 hd4
          obtain ⟨SB, hSB⟩ : ∃ SB, wr.heap.size = SB := ⟨_, rfl⟩
          have hb : Below wr.heap.size wr (wr.alloc (.cells #[.int .i64 2, .string ⟨#[107]⟩, .int .u64 (q : Int), .bool okf, .string ⟨#[]⟩] 35)).drew := ((Below.refl wr.heap.size wr).alloc (Nat.le_refl _) _).drew
          have q4 : Blk (wr.alloc (.cells #[.int .i64 2, .string ⟨#[107]⟩, .int .u64 (q : Int), .bool okf, .string ⟨#[]⟩] 35)).drew wr.heap.size #[.int .i64 2, .string ⟨#[107]⟩, .int .u64 (q : Int), .bool okf, .string ⟨#[]⟩] 35 := Blk.new wr _ _
          have hd5' : (wr.alloc (.cells #[.int .i64 2, .string ⟨#[107]⟩, .int .u64 (q : Int), .bool okf, .string ⟨#[]⟩] 35)).drew.cell? ⟨ab, ao + i * 8 + 5, none⟩ = some (.string sv) := (hb.cell (p := ⟨ab, _, none⟩) hdl).trans hd5
          have HTL := Lib.hid (show wB.heap.size ≤ SB ∧ ab < SB by rw [← hSB]; exact ⟨HC.out.k.i.hB, hdl⟩)
          clear hd5 hdl
          generalize (wr.alloc (.cells #[.int .i64 2, .string ⟨#[107]⟩, .int .u64 (q : Int), .bool okf, .string ⟨#[]⟩] 35)).drew = w4 at hb q4 hd5' ⊢
          rw [hSB] at q4 ⊢
          have HC4 := Lib.hid (HC.out.later hb)
          have HSX := Lib.hid q4
          have HSBE := Lib.hid hSB
          have HWL := Lib.hid (show SB ≤ w4.heap.size by rw [← hSB]; exact hb.size)
          have HIN := Lib.hid (HIN.out)
          clear q4 hSB
          have t3 : w4.cell? ⟨SB, 3, none⟩ = some (.bool okf) := HSX.out.cell 3
          have t2 : w4.cell? ⟨SB, 2, none⟩ = some (.int .u64 (q : Int)) := HSX.out.cell 2
          have c1 : (0 : Int) ≤ (id : Int) := by omega
          have c2 : (id : Int) < 5 := by have := HQB.out.1; omega
          have hid5 : id < 5 := by omega
          have HBL := Lib.hid hb
          clear hb
          cases okf with
          | true =>
            obtain ⟨Fv, hFv⟩ : ∃ Fv, F (id : Int) = Fv := ⟨_, rfl⟩
            obtain ⟨N, hN⟩ : ∃ N, max Fv q = N := ⟨_, rfl⟩
            have f1 : max (Fv : Int) (q : Int) = (N : Int) := by omega
            have z0 : w4.cell? ⟨TB, id, none⟩ = some (.int .u64 (Fv : Int)) := by rw [HC4.out.t.cell id, c5_get F hid5, hFv]
            have z1 : w4.frozen? ⟨TB, id, none⟩ = false := HC4.out.t.frozen id
            have HFN := Lib.hid (And.intro hFv hN)
            have H5 := Lib.hid hid5
            clear hFv hN hid5 hd5'
            go_wp2_with fail
            trace_state
            go_region
            have HX5 := Lib.hid (HSX.out.kept (grown_set w4 TB id (.int .u64 (N : Int))) (fun e => Blk.ne HSX.out HC4.out.t (by decide) (Option.some.inj e)))
            have HC5 := Lib.hid (HC4.out.set H5.out N)
            generalize w4.setCell ⟨TB, id, none⟩ (.int .u64 (N : Int)) = w5 at HX5 HC5 ⊢
            have hb : Below w5.heap.size w5 w5.drew := (Below.refl _ _).drew
            generalize w5.drew = w6 at hb ⊢
            have HC6 := Lib.hid (HC5.out.later hb)
            have HX6 := Lib.hid (HX5.out.later hb)
            have HP6 := Lib.hid (show CvP (A.put (2, nm1 107) (id : Int) q true ⟨#[]⟩) (upd F (id : Int) N) RR B v by
              have h := HP.out.take (id : Int) (q := q) HQB.out.2.2
              rw [HFN.out.1, HFN.out.2] at h; exact h)
            have HSO := Lib.hid (stOk_one 2 107 q true ⟨#[]⟩ (by decide) (by decide) (by decide) (by have := HQB.out.2; omega) (by decide) (fun _ => rfl))
            obtain ⟨F6, hF6⟩ : ∃ F6, upd F (id : Int) N = F6 := ⟨_, rfl⟩
            rw [hF6] at HC6 HP6
            clear hb hF6 HC5 HX5 HC4 HSX HC t3 t2 z0 z1 c1 c2 f1 HBL HP HTL HWL HFN H5 HSBE
            -- the tail: Note, Ready, what is told; facts HC6, HX6, HP6 at w6, HSO
            have s0 : w6.cell? ⟨SB, 0, none⟩ = some (.int .i64 2) := HX6.out.cell 0
            have s1 : w6.cell? ⟨SB, 1, none⟩ = some (.string ⟨#[107]⟩) := HX6.out.cell 1
            have s2 : w6.cell? ⟨SB, 2, none⟩ = some (.int .u64 (q : Int)) := HX6.out.cell 2
            have s3 : w6.cell? ⟨SB, 3, none⟩ = some (.bool true) := HX6.out.cell 3
            have s4 : w6.cell? ⟨SB, 4, none⟩ = some (.string ⟨#[]⟩) := HX6.out.cell 4
            have HNT := Lib.hid (HC6.out.k.put (id := (id : Int)) (t := 2) (x := nm1 107) (q := q) (f := true) (s := ⟨#[]⟩) HSO.out (by have := HQB.out.1; omega) (by have := HQB.out.2; omega))
            go_wp2_with fail
            refine HNT.out.mono ?_
            rintro e w7 ⟨rfl, hl, hk⟩
            dsimp only
            have HC7 := Lib.hid (HC6.out.turn hl hk)
            clear hl hk s0 s1 s2 s3 s4 HNT HC6 HX6
            obtain ⟨A7, hA7⟩ : ∃ A7, A.put (2, nm1 107) (id : Int) q true ⟨#[]⟩ = A7 := ⟨_, rfl⟩
            obtain ⟨P, hPl⟩ : ∃ P, (bdOut (2, nm1 107) RR).length = P := ⟨_, rfl⟩
            obtain ⟨m, hm⟩ : ∃ m, leastL F6 l = m := ⟨_, rfl⟩
            obtain ⟨OL, hOL⟩ : ∃ OL, A7.out (2, nm1 107) l = OL := ⟨_, rfl⟩
            obtain ⟨N3, hN3⟩ : ∃ N3, OL.length = N3 := ⟨_, rfl⟩
            have hlen3 := cv_len HP6.out l
            rw [hA7, hOL, hN3, hPl, hm] at hlen3
            have HLEN := Lib.hid hlen3
            have HOUT := Lib.hid (show ∀ (j : Nat) (r : St), OL[j]? = some r → (j < P ∧ r.t = 2 ∧ r.x = nm1 107 ∧ r.f = false ∧ B r.q = some r.s ∧ r.q < 2 ^ 64 ∧ 1 ≤ r.s.size ∧ r.s.size ≤ 10) ∨ (j = P ∧ r = ⟨2, nm1 107, m, true, ⟨#[]⟩⟩ ∧ v < m) from fun j r hj => by
              have := cv_out HP6.out l (i := j) (r := r) (by rw [hA7, hOL]; exact hj)
              rw [hPl, hm] at this; exact this)
            have HTOLD := Lib.hid (show CvP (A7.ready (2, nm1 107) l) F6 (bdTell RR) B (if v < m then m else v) by
              have := HP6.out.told l
              rw [hm, hA7] at this; exact this)
            have hm12 : m ≤ 12 := by rw [← hm]; exact cv_least HP6.out.f l
            have hP8 : P ≤ 8 := by rw [← hPl]; exact Nat.le_trans (bdOut_len _ _) HP6.out.r.ok.1
            have HPOS := Lib.hid (show 0 < m → 0 < l.length from fun h => leastL_pos (F := F6) (by rw [hm]; exact h))
            have HALL := Lib.hid (show ∀ x ∈ l, m ≤ F6 x from fun x hx => by rw [← hm]; exact leastL_all hx)
            have hrd := HC7.out.k.ready (k := (2, nm1 107)) (a := a4) (c := c4) (l := l) (kyK_one 2 107 (by decide) (by decide)) (by decide) (fun w' hk => (hk.ints HC7.out.r).at) (by unfold maxLen; omega) (fun x hx => by have := HL4.out x hx; unfold i64B; omega)
            rw [hA7, hOL, hN3] at hrd
            have HRD := Lib.hid hrd
            rw [hA7] at HC7
            have HNN := Lib.hid hN3
            clear hA7 hPl hm hOL hN3 hlen3 hrd
            have y0 : w7.cell? ⟨R, 0, none⟩ = some (.int .i64 2) := HC7.out.q.cell 0
            have y1 : w7.cell? ⟨R, 1, none⟩ = some (.string ⟨#[107]⟩) := HC7.out.q.cell 1
            go_wp2_with fail
            refine HRD.out.mono ?_
            rintro e w8 ⟨a8, c8, rfl, ho, hl, hk⟩
            dsimp only
            have HC8 := Lib.hid (HC7.out.turn hl hk)
            have HO8 := Lib.hid ho
            clear ho hl hk y0 y1 HRD HC7
            obtain ⟨A8, hA8⟩ : ∃ A8, A7.ready (2, nm1 107) l = A8 := ⟨_, rfl⟩
            rw [hA8] at HC8 HTOLD
            clear hA8
            go_wp2_with fail
            go_loopw [12, 19, 20, 21] (fun vv vn _ _ wx => ∃ (j vt : Nat), vn = .int .i64 (j : Int) ∧ vv = .int .u64 (vt : Int) ∧ j ≤ N3 ∧ (j ≤ P → vt = v) ∧ (P < j → vt = m) ∧ Below w8.heap.size w8 wx) (fun _ vn _ _ _ => N3 - (intOf vn).toNat)
            case atStart => exact ⟨0, v, rfl, rfl, Nat.zero_le _, fun _ => rfl, fun h => absurd h (Nat.not_lt_zero _), Below.refl _ _⟩
            case round =>
              obtain ⟨j, vt, rfl, rfl, hjN, hv1, hv2, hb⟩ := hrel
              have HC9 := Lib.hid (HC8.out.later hb)
              have HO9 := Lib.hid (HO8.out.later hb)
              have HB9 := Lib.hid hb
              clear hb
              by_cases hlt : j < N3
              · have b1 : (j : Int) < (N3 : Int) := by omega
                have b2 : (0 : Int) ≤ (j : Int) := by omega
                have b3 : IntKind.i64.wrap ((j : Int) + 1) = (j : Int) + 1 := by rw [IntKind.wrap_i64]; have h8 := HLEN.out; split at h8 <;> omega
                obtain ⟨r, hr⟩ : ∃ r, OL[j]? = some r := ⟨_, List.getElem?_eq_getElem (by have := HNN.out; omega)⟩
                have hout := HOUT.out j r hr
                have ho9 := HO9.out
                rw [← HNN.out] at ho9
                obtain ⟨gg, hga, p0, p1, p2, p3, p4⟩ := ho9.at' hr
                cases hga
                clear ho9
                obtain ⟨rt, rx, rq, rf, rs⟩ := r
                simp only at p0 p1 p2 p3 p4 hout
                have hvp := hv1 (by rcases hout with h | h <;> omega)
                subst vt
                have HR := Lib.hid (And.intro hout hv2)
                clear hv1 hr hout hv2
                rcases HR.out.1 with ⟨h1, -, -, h4, h5, h6, h7, h8⟩ | ⟨h1, h2, h3⟩
                · subst rf
                  obtain ⟨x9, hw9, hb9, q9⟩ := ak_new wr #[.int .i64 rt, .string rx, .int .u64 (rq : Int), .bool false, .string rs] 35
                  have HW9 := Lib.hid hw9
                  have HC10 := Lib.hid (HC9.out.later hb9)
                  have HB10 := Lib.hid (HB9.out.trans (hb9.mono HB9.out.size))
                  have z2 : x9.cell? ⟨wr.heap.size, 2, none⟩ = some (.int .u64 (rq : Int)) := q9.cell 2
                  have z3 : x9.cell? ⟨wr.heap.size, 3, none⟩ = some (.bool false) := q9.cell 3
                  have z4 : x9.cell? ⟨wr.heap.size, 4, none⟩ = some (.string rs) := q9.cell 4
                  have hbl := HC10.out.m.look h6
                  rw [h5] at hbl
                  change (Instr.lookup _ _ _ _).run _ _ = .ok (.string rs) _ at hbl
                  have e9 := ne_empty h7
                  clear hw9 hb9 q9 h5 h6 h7 h8
                  go_wp2_with (rw [HW9.out])
                  go_roundw
                  case rel => exact ⟨j + 1, v, by go_num, rfl, by omega, fun _ => rfl, fun h => absurd h (by omega), HB10.out⟩
                  case measure => simp [intOf]; omega
                · injection h2 with e1 e2 e3 e4 e5
                  subst rt; subst rx; subst rq; subst rf; subst rs; subst P
                  obtain ⟨x9, hw9, hb9, q9⟩ := ak_new wr #[.int .i64 2, .string ⟨#[107]⟩, .int .u64 (m : Int), .bool true, .string ⟨#[]⟩] 35
                  have HW9 := Lib.hid hw9
                  have HC10 := Lib.hid (HC9.out.later hb9)
                  have HB10 := Lib.hid (HB9.out.trans (hb9.mono HB9.out.size))
                  have HX10 := Lib.hid q9
                  have z2 : x9.cell? ⟨wr.heap.size, 2, none⟩ = some (.int .u64 (m : Int)) := q9.cell 2
                  have z3 : x9.cell? ⟨wr.heap.size, 3, none⟩ = some (.bool true) := q9.cell 3
                  have b4 : ¬ ((m : Int) ≤ (v : Int)) := by omega
                  have hl1 := HPOS.out (by omega)
                  have b5 : ¬ ((l.length : Int) = 0) := by omega
                  clear hw9 hb9 q9
                  go_wp2_with (rw [HW9.out])
                  obtain ⟨RB, hRB⟩ : ∃ RB, wr.heap.size = RB := ⟨_, rfl⟩
                  rw [hRB] at HX10 ⊢
                  clear hRB z2 z3 b4 b5 b1 b2 p0 p1 p2 p3 p4 HW9
                  go_loopw [21] (fun vm wy => ∃ κ : Nat, vm = .int .i64 (κ : Int) ∧ κ ≤ l.length ∧ Below x9.heap.size x9 wy) (fun vm _ => l.length - (intOf vm).toNat)
                  case atStart => exact ⟨0, rfl, Nat.zero_le _, Below.refl _ _⟩
                  case round =>
                    obtain ⟨κ, rfl, hκ, hb⟩ := hrel
                    have HC11 := Lib.hid (HC10.out.later hb)
                    have HX11 := Lib.hid (HX10.out.later hb)
                    have HB11 := Lib.hid hb
                    clear hb
                    by_cases hlt2 : κ < l.length
                    · have b1 : (κ : Int) < (l.length : Int) := by omega
                      have b2 : (0 : Int) ≤ (κ : Int) := by omega
                      have b5 : IntKind.i64.wrap ((κ : Int) + 1) = (κ : Int) + 1 := by rw [IntKind.wrap_i64]; omega
                      obtain ⟨y, hy⟩ : ∃ y, l[κ]? = some y := ⟨_, List.getElem?_eq_getElem hlt2⟩
                      have hy4 := HL4.out y (List.mem_of_getElem? hy)
                      have hym := HALL.out y (List.mem_of_getElem? hy)
                      obtain ⟨yn, rfl⟩ := Int.eq_ofNat_of_zero_le (show 0 ≤ y by omega)
                      obtain ⟨ga, go, rfl, -, hac⟩ := HC11.out.r.at κ _ hy
                      have z0 : wr.cell? ⟨TB, yn, none⟩ = some (.int .u64 (F6 (yn : Int) : Int)) := by rw [HC11.out.t.cell yn, c5_get F6 (by omega)]
                      obtain ⟨Fy, hFy⟩ : ∃ Fy, F6 (yn : Int) = Fy := ⟨_, rfl⟩
                      rw [hFy] at z0 hym
                      have z2 : wr.cell? ⟨RB, 2, none⟩ = some (.int .u64 (m : Int)) := HX11.out.cell 2
                      have c1 : (0 : Int) ≤ (yn : Int) := by omega
                      have c2 : (yn : Int) < 5 := by omega
                      have b4 : ¬ ((Fy : Int) < (m : Int)) := by omega
                      clear hFy hy hy4
                      go_wp2_with fail
                      go_region
                      go_wp2_with fail
                      go_roundw
                      case rel => exact ⟨κ + 1, by go_num, by omega, HB11.out.drew⟩
                      case measure => simp [intOf]; omega
                    · obtain rfl : κ = l.length := by omega
                      have b1 : ¬ ((l.length : Int) < (l.length : Int)) := by omega
                      have hB11 := HB10.out.trans (HB11.out.mono HB10.out.size)
                      have HB12 := Lib.hid hB11
                      clear hB11
                      go_wp2_with fail
                      go_roundw
                      case rel => exact ⟨j + 1, m, by go_num, rfl, by omega, fun h => absurd h (by omega), fun _ => rfl, HB12.out⟩
                      case measure => simp [intOf]; omega
              · obtain rfl : j = N3 := by omega
                have b1 : ¬ ((j : Int) < (j : Int)) := by omega
                have hvt : (if v < m then m else v) = vt := by
                  have h8 := HLEN.out
                  by_cases h9 : v < m
                  · rw [if_pos h9] at h8 ⊢; exact (hv2 (by omega)).symm
                  · rw [if_neg h9] at h8 ⊢; exact (hv1 (by omega)).symm
                rw [hvt] at HTOLD
                have hvt12 : vt ≤ 12 := by rw [← hvt]; split <;> omega
                clear hvt hv1 hv2
                go_wp2_with fail
                go_roundw
                case rel => exact ⟨i + 1, vt, A8, F6, bdTell RR, B, by go_num, rfl, by omega, by omega, hvt12, HTOLD.out, HC9.out⟩
                case measure => simp [intOf]; omega
          | false =>
            obtain ⟨M, hM⟩ : ∃ M, min sv.size 9 = M := ⟨_, rfl⟩
            have m1 : min (sv.size : Int) 9 = (M : Int) := by omega
            have m2 : min (9 : Int) (sv.size : Int) = (M : Int) := by omega
            have m3 : (M : Int) ≤ (sv.size : Int) := by omega
            have m4 : (0 : Int) ≤ (M : Int) := by omega
            have hus : sv.size ≤ 9223372036854775807 := HDO.out.s
            obtain ⟨D, hD⟩ : ∃ D, sv.extract 0 M = D := ⟨_, rfl⟩
            have hDs : D.size ≤ 9 := by rw [← hD, ByteArray.size_extract]; omega
            have HDD := Lib.hid hD
            obtain ⟨s, hs⟩ : ∃ s : ByteArray, ⟨#[100]⟩ ++ D = s := ⟨_, rfl⟩
            have HSS := Lib.hid hs
            have HSZ := Lib.hid (show 1 ≤ s.size ∧ s.size ≤ 10 by
              have h1 : s.size = 1 + D.size := by rw [← hs, ByteArray.size_append]; rfl
              omega)
            have ST3 : CvU ab (ao + i * 8 + 5) SB sv w4.drew := ⟨hd5', HSX.out.lt, Nat.lt_trans HTL.out.2 HSX.out.lt⟩
            have y4 : w4.drew.cell? ⟨SB, 4, none⟩ = some (.string ⟨#[]⟩) := HSX.out.cell 4
            have y5 : w4.drew.frozen? ⟨SB, 4, none⟩ = false := HSX.out.frozen 4
            have hne : ab ≠ SB := by have := HTL.out.2; omega
            have hE9 : (sv.extract 0 M).size ≤ 9 := by rw [hD]; exact hDs
            have hcat := fun w => Go.run_string_add_sum (P := Tryd.prog) (w := w) ⟨#[100]⟩ (sv.extract 0 M) (by show 1 + (sv.extract 0 M).size ≤ _; omega)
            have hcn : ¬ (9223372036854775807 < 1 + (sv.extract 0 M).size) := by omega
            have hcm : ¬ (9223372036854775807 < 1 + min M sv.size) := by omega
            have hck : 1 + (sv.extract 0 M).size ≤ 9223372036854775807 := by omega
            clear hM hD hs hd5' hDs
            go_wp2_with fail
            go_region_held3 (fun w' => w'.cell? ⟨ab, ao + i * 8 + 5, none⟩ = some (.string sv) ∧ CvSz SB ab w') (with_reducible first | exact ST3 | exact CvU.set ST3 hne _ _ | go_keep) (fail)
            rename_i hH
            clear hH ST3 y4 y5 hne m1 m2 m3 m4 hus hE9 hcat hcn hcm hck
            rw [HDD.out]
            rw [HSS.out]
            have hb6 : Below wr.heap.size wr (w4.setCell ⟨SB, 4, none⟩ (.string s)) := HBL.out.setCell (p := ⟨SB, 4, none⟩) (by rw [HSBE.out]; exact Nat.le_refl _) _
            have hx := HSX.out.set 4 (.string s)
            have HX5 := Lib.hid (show Blk (w4.setCell ⟨SB, 4, none⟩ (.string s)) SB #[.int .i64 2, .string ⟨#[107]⟩, .int .u64 (q : Int), .bool false, .string s] 35 from hx)
            have HC5 := Lib.hid (HC.out.later hb6)
            clear hb6 hx t3 t2 HC4 HSX HC HBL
            generalize w4.setCell ⟨SB, 4, none⟩ (.string s) = w5 at HX5 HC5 ⊢
            have hb : Below w5.heap.size w5 w5.drew := (Below.refl _ _).drew
            generalize w5.drew = wq at hb ⊢
            have HC6 := Lib.hid (HC5.out.later hb)
            have HX6 := Lib.hid (HX5.out.later hb)
            have HSO := Lib.hid (stOk_one 2 107 q false s (by decide) (by decide) (by decide) (by have := HQB.out.2; omega) (by have := HSZ.out; omega) (fun h => by cases h))
            have hpp := HP.out.refuse (id : Int) (q := q) (s := s) HQB.out.2.2 HSZ.out
            have hbh := HC6.out.m.has (q := q) (by have := HQB.out.2; omega)
            obtain ⟨RR6, hRR⟩ : ∃ RR6, bdIns q s RR = RR6 := ⟨_, rfl⟩
            rw [hRR] at hpp
            clear hb hRR HC5 HX5 c1 c2 HP HTL HWL HSBE HDD HSS hid5
            cases hB : (B q).isSome with
            | true =>
              rw [hB] at hbh
              have e : addB B q s = B := by unfold addB; rw [if_pos hB]
              rw [e] at hpp
              have HP6 := Lib.hid hpp
              clear hpp e hB
              -- the tail: Note, Ready, what is told; facts HC6, HX6, HP6 at wq, HSO
              have s0 : wq.cell? ⟨SB, 0, none⟩ = some (.int .i64 2) := HX6.out.cell 0
              have s1 : wq.cell? ⟨SB, 1, none⟩ = some (.string ⟨#[107]⟩) := HX6.out.cell 1
              have s2 : wq.cell? ⟨SB, 2, none⟩ = some (.int .u64 (q : Int)) := HX6.out.cell 2
              have s3 : wq.cell? ⟨SB, 3, none⟩ = some (.bool false) := HX6.out.cell 3
              have s4 : wq.cell? ⟨SB, 4, none⟩ = some (.string s) := HX6.out.cell 4
              have HNT := Lib.hid (HC6.out.k.put (id := (id : Int)) (t := 2) (x := nm1 107) (q := q) (f := false) (s := s) HSO.out (by have := HQB.out.1; omega) (by have := HQB.out.2; omega))
              go_wp2_with fail
              refine HNT.out.mono ?_
              rintro e w7 ⟨rfl, hl, hk⟩
              dsimp only
              have HC7 := Lib.hid (HC6.out.turn hl hk)
              clear hl hk s0 s1 s2 s3 s4 HNT HC6 HX6
              obtain ⟨A7, hA7⟩ : ∃ A7, A.put (2, nm1 107) (id : Int) q false s = A7 := ⟨_, rfl⟩
              obtain ⟨P, hPl⟩ : ∃ P, (bdOut (2, nm1 107) RR6).length = P := ⟨_, rfl⟩
              obtain ⟨m, hm⟩ : ∃ m, leastL F l = m := ⟨_, rfl⟩
              obtain ⟨OL, hOL⟩ : ∃ OL, A7.out (2, nm1 107) l = OL := ⟨_, rfl⟩
              obtain ⟨N3, hN3⟩ : ∃ N3, OL.length = N3 := ⟨_, rfl⟩
              have hlen3 := cv_len HP6.out l
              rw [hA7, hOL, hN3, hPl, hm] at hlen3
              have HLEN := Lib.hid hlen3
              have HOUT := Lib.hid (show ∀ (j : Nat) (r : St), OL[j]? = some r → (j < P ∧ r.t = 2 ∧ r.x = nm1 107 ∧ r.f = false ∧ B r.q = some r.s ∧ r.q < 2 ^ 64 ∧ 1 ≤ r.s.size ∧ r.s.size ≤ 10) ∨ (j = P ∧ r = ⟨2, nm1 107, m, true, ⟨#[]⟩⟩ ∧ v < m) from fun j r hj => by
                have := cv_out HP6.out l (i := j) (r := r) (by rw [hA7, hOL]; exact hj)
                rw [hPl, hm] at this; exact this)
              have HTOLD := Lib.hid (show CvP (A7.ready (2, nm1 107) l) F (bdTell RR6) B (if v < m then m else v) by
                have := HP6.out.told l
                rw [hm, hA7] at this; exact this)
              have hm12 : m ≤ 12 := by rw [← hm]; exact cv_least HP6.out.f l
              have hP8 : P ≤ 8 := by rw [← hPl]; exact Nat.le_trans (bdOut_len _ _) HP6.out.r.ok.1
              have HPOS := Lib.hid (show 0 < m → 0 < l.length from fun h => leastL_pos (F := F) (by rw [hm]; exact h))
              have HALL := Lib.hid (show ∀ x ∈ l, m ≤ F x from fun x hx => by rw [← hm]; exact leastL_all hx)
              have hrd := HC7.out.k.ready (k := (2, nm1 107)) (a := a4) (c := c4) (l := l) (kyK_one 2 107 (by decide) (by decide)) (by decide) (fun w' hk => (hk.ints HC7.out.r).at) (by unfold maxLen; omega) (fun x hx => by have := HL4.out x hx; unfold i64B; omega)
              rw [hA7, hOL, hN3] at hrd
              have HRD := Lib.hid hrd
              rw [hA7] at HC7
              have HNN := Lib.hid hN3
              clear hA7 hPl hm hOL hN3 hlen3 hrd
              have y0 : w7.cell? ⟨R, 0, none⟩ = some (.int .i64 2) := HC7.out.q.cell 0
              have y1 : w7.cell? ⟨R, 1, none⟩ = some (.string ⟨#[107]⟩) := HC7.out.q.cell 1
              go_wp2_with fail
              refine HRD.out.mono ?_
              rintro e w8 ⟨a8, c8, rfl, ho, hl, hk⟩
              dsimp only
              have HC8 := Lib.hid (HC7.out.turn hl hk)
              have HO8 := Lib.hid ho
              clear ho hl hk y0 y1 HRD HC7
              obtain ⟨A8, hA8⟩ : ∃ A8, A7.ready (2, nm1 107) l = A8 := ⟨_, rfl⟩
              rw [hA8] at HC8 HTOLD
              clear hA8
              go_wp2_with fail
              go_loopw [12, 19, 20, 21] (fun vv vn _ _ wx => ∃ (j vt : Nat), vn = .int .i64 (j : Int) ∧ vv = .int .u64 (vt : Int) ∧ j ≤ N3 ∧ (j ≤ P → vt = v) ∧ (P < j → vt = m) ∧ Below w8.heap.size w8 wx) (fun _ vn _ _ _ => N3 - (intOf vn).toNat)
              case atStart => exact ⟨0, v, rfl, rfl, Nat.zero_le _, fun _ => rfl, fun h => absurd h (Nat.not_lt_zero _), Below.refl _ _⟩
              case round =>
                obtain ⟨j, vt, rfl, rfl, hjN, hv1, hv2, hb⟩ := hrel
                have HC9 := Lib.hid (HC8.out.later hb)
                have HO9 := Lib.hid (HO8.out.later hb)
                have HB9 := Lib.hid hb
                clear hb
                by_cases hlt : j < N3
                · have b1 : (j : Int) < (N3 : Int) := by omega
                  have b2 : (0 : Int) ≤ (j : Int) := by omega
                  have b3 : IntKind.i64.wrap ((j : Int) + 1) = (j : Int) + 1 := by rw [IntKind.wrap_i64]; have h8 := HLEN.out; split at h8 <;> omega
                  obtain ⟨r, hr⟩ : ∃ r, OL[j]? = some r := ⟨_, List.getElem?_eq_getElem (by have := HNN.out; omega)⟩
                  have hout := HOUT.out j r hr
                  have ho9 := HO9.out
                  rw [← HNN.out] at ho9
                  obtain ⟨gg, hga, p0, p1, p2, p3, p4⟩ := ho9.at' hr
                  cases hga
                  clear ho9
                  obtain ⟨rt, rx, rq, rf, rs⟩ := r
                  simp only at p0 p1 p2 p3 p4 hout
                  have hvp := hv1 (by rcases hout with h | h <;> omega)
                  subst vt
                  have HR := Lib.hid (And.intro hout hv2)
                  clear hv1 hr hout hv2
                  rcases HR.out.1 with ⟨h1, -, -, h4, h5, h6, h7, h8⟩ | ⟨h1, h2, h3⟩
                  · subst rf
                    obtain ⟨x9, hw9, hb9, q9⟩ := ak_new wr #[.int .i64 rt, .string rx, .int .u64 (rq : Int), .bool false, .string rs] 35
                    have HW9 := Lib.hid hw9
                    have HC10 := Lib.hid (HC9.out.later hb9)
                    have HB10 := Lib.hid (HB9.out.trans (hb9.mono HB9.out.size))
                    have z2 : x9.cell? ⟨wr.heap.size, 2, none⟩ = some (.int .u64 (rq : Int)) := q9.cell 2
                    have z3 : x9.cell? ⟨wr.heap.size, 3, none⟩ = some (.bool false) := q9.cell 3
                    have z4 : x9.cell? ⟨wr.heap.size, 4, none⟩ = some (.string rs) := q9.cell 4
                    have hbl := HC10.out.m.look h6
                    rw [h5] at hbl
                    change (Instr.lookup _ _ _ _).run _ _ = .ok (.string rs) _ at hbl
                    have e9 := ne_empty h7
                    clear hw9 hb9 q9 h5 h6 h7 h8
                    go_wp2_with (rw [HW9.out])
                    go_roundw
                    case rel => exact ⟨j + 1, v, by go_num, rfl, by omega, fun _ => rfl, fun h => absurd h (by omega), HB10.out⟩
                    case measure => simp [intOf]; omega
                  · injection h2 with e1 e2 e3 e4 e5
                    subst rt; subst rx; subst rq; subst rf; subst rs; subst P
                    obtain ⟨x9, hw9, hb9, q9⟩ := ak_new wr #[.int .i64 2, .string ⟨#[107]⟩, .int .u64 (m : Int), .bool true, .string ⟨#[]⟩] 35
                    have HW9 := Lib.hid hw9
                    have HC10 := Lib.hid (HC9.out.later hb9)
                    have HB10 := Lib.hid (HB9.out.trans (hb9.mono HB9.out.size))
                    have HX10 := Lib.hid q9
                    have z2 : x9.cell? ⟨wr.heap.size, 2, none⟩ = some (.int .u64 (m : Int)) := q9.cell 2
                    have z3 : x9.cell? ⟨wr.heap.size, 3, none⟩ = some (.bool true) := q9.cell 3
                    have b4 : ¬ ((m : Int) ≤ (v : Int)) := by omega
                    have hl1 := HPOS.out (by omega)
                    have b5 : ¬ ((l.length : Int) = 0) := by omega
                    clear hw9 hb9 q9
                    go_wp2_with (rw [HW9.out])
                    obtain ⟨RB, hRB⟩ : ∃ RB, wr.heap.size = RB := ⟨_, rfl⟩
                    rw [hRB] at HX10 ⊢
                    clear hRB z2 z3 b4 b5 b1 b2 p0 p1 p2 p3 p4 HW9
                    go_loopw [21] (fun vm wy => ∃ κ : Nat, vm = .int .i64 (κ : Int) ∧ κ ≤ l.length ∧ Below x9.heap.size x9 wy) (fun vm _ => l.length - (intOf vm).toNat)
                    case atStart => exact ⟨0, rfl, Nat.zero_le _, Below.refl _ _⟩
                    case round =>
                      obtain ⟨κ, rfl, hκ, hb⟩ := hrel
                      have HC11 := Lib.hid (HC10.out.later hb)
                      have HX11 := Lib.hid (HX10.out.later hb)
                      have HB11 := Lib.hid hb
                      clear hb
                      by_cases hlt2 : κ < l.length
                      · have b1 : (κ : Int) < (l.length : Int) := by omega
                        have b2 : (0 : Int) ≤ (κ : Int) := by omega
                        have b5 : IntKind.i64.wrap ((κ : Int) + 1) = (κ : Int) + 1 := by rw [IntKind.wrap_i64]; omega
                        obtain ⟨y, hy⟩ : ∃ y, l[κ]? = some y := ⟨_, List.getElem?_eq_getElem hlt2⟩
                        have hy4 := HL4.out y (List.mem_of_getElem? hy)
                        have hym := HALL.out y (List.mem_of_getElem? hy)
                        obtain ⟨yn, rfl⟩ := Int.eq_ofNat_of_zero_le (show 0 ≤ y by omega)
                        obtain ⟨ga, go, rfl, -, hac⟩ := HC11.out.r.at κ _ hy
                        have z0 : wr.cell? ⟨TB, yn, none⟩ = some (.int .u64 (F (yn : Int) : Int)) := by rw [HC11.out.t.cell yn, c5_get F (by omega)]
                        obtain ⟨Fy, hFy⟩ : ∃ Fy, F (yn : Int) = Fy := ⟨_, rfl⟩
                        rw [hFy] at z0 hym
                        have z2 : wr.cell? ⟨RB, 2, none⟩ = some (.int .u64 (m : Int)) := HX11.out.cell 2
                        have c1 : (0 : Int) ≤ (yn : Int) := by omega
                        have c2 : (yn : Int) < 5 := by omega
                        have b4 : ¬ ((Fy : Int) < (m : Int)) := by omega
                        clear hFy hy hy4
                        go_wp2_with fail
                        go_region
                        go_wp2_with fail
                        go_roundw
                        case rel => exact ⟨κ + 1, by go_num, by omega, HB11.out.drew⟩
                        case measure => simp [intOf]; omega
                      · obtain rfl : κ = l.length := by omega
                        have b1 : ¬ ((l.length : Int) < (l.length : Int)) := by omega
                        have hB11 := HB10.out.trans (HB11.out.mono HB10.out.size)
                        have HB12 := Lib.hid hB11
                        clear hB11
                        go_wp2_with fail
                        go_roundw
                        case rel => exact ⟨j + 1, m, by go_num, rfl, by omega, fun h => absurd h (by omega), fun _ => rfl, HB12.out⟩
                        case measure => simp [intOf]; omega
                · obtain rfl : j = N3 := by omega
                  have b1 : ¬ ((j : Int) < (j : Int)) := by omega
                  have hvt : (if v < m then m else v) = vt := by
                    have h8 := HLEN.out
                    by_cases h9 : v < m
                    · rw [if_pos h9] at h8 ⊢; exact (hv2 (by omega)).symm
                    · rw [if_neg h9] at h8 ⊢; exact (hv1 (by omega)).symm
                  rw [hvt] at HTOLD
                  have hvt12 : vt ≤ 12 := by rw [← hvt]; split <;> omega
                  clear hvt hv1 hv2
                  go_wp2_with fail
                  go_roundw
                  case rel => exact ⟨i + 1, vt, A8, F, bdTell RR6, B, by go_num, rfl, by omega, by omega, hvt12, HTOLD.out, HC9.out⟩
                  case measure => simp [intOf]; omega
            | false =>
              rw [hB] at hbh
              have e : addB B q s = upd B q (some s) := by unfold addB; rw [if_neg (by rw [hB]; decide)]
              rw [e] at hpp
              obtain ⟨w6, e1, e2, e3⟩ := HC6.out.say (q := q) (by have := HQB.out.2; omega) s
              have HX9 := Lib.hid (HX6.out.kept e3 (fun e => HX6.out.notMap HC6.out.m.is (Option.some.inj e)))
              have z2 : wq.cell? ⟨SB, 2, none⟩ = some (.int .u64 (q : Int)) := HX6.out.cell 2
              have z4 : wq.cell? ⟨SB, 4, none⟩ = some (.string s) := HX6.out.cell 4
              obtain ⟨B6, hB6⟩ : ∃ B6, upd B q (some s) = B6 := ⟨_, rfl⟩
              rw [hB6] at hpp e2
              have HP6 := Lib.hid hpp
              have HC6 := Lib.hid e2
              have HX6 := HX9
              clear hpp e hB hB6 e2 e3 HX9
              -- the tail: Note, Ready, what is told; facts HC6, HX6, HP6 at w6, HSO
              have s0 : w6.cell? ⟨SB, 0, none⟩ = some (.int .i64 2) := HX6.out.cell 0
              have s1 : w6.cell? ⟨SB, 1, none⟩ = some (.string ⟨#[107]⟩) := HX6.out.cell 1
              have s2 : w6.cell? ⟨SB, 2, none⟩ = some (.int .u64 (q : Int)) := HX6.out.cell 2
              have s3 : w6.cell? ⟨SB, 3, none⟩ = some (.bool false) := HX6.out.cell 3
              have s4 : w6.cell? ⟨SB, 4, none⟩ = some (.string s) := HX6.out.cell 4
              have HNT := Lib.hid (HC6.out.k.put (id := (id : Int)) (t := 2) (x := nm1 107) (q := q) (f := false) (s := s) HSO.out (by have := HQB.out.1; omega) (by have := HQB.out.2; omega))
              go_wp2_with fail
              refine HNT.out.mono ?_
              rintro e w7 ⟨rfl, hl, hk⟩
              dsimp only
              have HC7 := Lib.hid (HC6.out.turn hl hk)
              clear hl hk s0 s1 s2 s3 s4 HNT HC6 HX6
              obtain ⟨A7, hA7⟩ : ∃ A7, A.put (2, nm1 107) (id : Int) q false s = A7 := ⟨_, rfl⟩
              obtain ⟨P, hPl⟩ : ∃ P, (bdOut (2, nm1 107) RR6).length = P := ⟨_, rfl⟩
              obtain ⟨m, hm⟩ : ∃ m, leastL F l = m := ⟨_, rfl⟩
              obtain ⟨OL, hOL⟩ : ∃ OL, A7.out (2, nm1 107) l = OL := ⟨_, rfl⟩
              obtain ⟨N3, hN3⟩ : ∃ N3, OL.length = N3 := ⟨_, rfl⟩
              have hlen3 := cv_len HP6.out l
              rw [hA7, hOL, hN3, hPl, hm] at hlen3
              have HLEN := Lib.hid hlen3
              have HOUT := Lib.hid (show ∀ (j : Nat) (r : St), OL[j]? = some r → (j < P ∧ r.t = 2 ∧ r.x = nm1 107 ∧ r.f = false ∧ B6 r.q = some r.s ∧ r.q < 2 ^ 64 ∧ 1 ≤ r.s.size ∧ r.s.size ≤ 10) ∨ (j = P ∧ r = ⟨2, nm1 107, m, true, ⟨#[]⟩⟩ ∧ v < m) from fun j r hj => by
                have := cv_out HP6.out l (i := j) (r := r) (by rw [hA7, hOL]; exact hj)
                rw [hPl, hm] at this; exact this)
              have HTOLD := Lib.hid (show CvP (A7.ready (2, nm1 107) l) F (bdTell RR6) B6 (if v < m then m else v) by
                have := HP6.out.told l
                rw [hm, hA7] at this; exact this)
              have hm12 : m ≤ 12 := by rw [← hm]; exact cv_least HP6.out.f l
              have hP8 : P ≤ 8 := by rw [← hPl]; exact Nat.le_trans (bdOut_len _ _) HP6.out.r.ok.1
              have HPOS := Lib.hid (show 0 < m → 0 < l.length from fun h => leastL_pos (F := F) (by rw [hm]; exact h))
              have HALL := Lib.hid (show ∀ x ∈ l, m ≤ F x from fun x hx => by rw [← hm]; exact leastL_all hx)
              have hrd := HC7.out.k.ready (k := (2, nm1 107)) (a := a4) (c := c4) (l := l) (kyK_one 2 107 (by decide) (by decide)) (by decide) (fun w' hk => (hk.ints HC7.out.r).at) (by unfold maxLen; omega) (fun x hx => by have := HL4.out x hx; unfold i64B; omega)
              rw [hA7, hOL, hN3] at hrd
              have HRD := Lib.hid hrd
              rw [hA7] at HC7
              have HNN := Lib.hid hN3
              clear hA7 hPl hm hOL hN3 hlen3 hrd
              have y0 : w7.cell? ⟨R, 0, none⟩ = some (.int .i64 2) := HC7.out.q.cell 0
              have y1 : w7.cell? ⟨R, 1, none⟩ = some (.string ⟨#[107]⟩) := HC7.out.q.cell 1
              go_wp2_with fail
              refine HRD.out.mono ?_
              rintro e w8 ⟨a8, c8, rfl, ho, hl, hk⟩
              dsimp only
              have HC8 := Lib.hid (HC7.out.turn hl hk)
              have HO8 := Lib.hid ho
              clear ho hl hk y0 y1 HRD HC7
              obtain ⟨A8, hA8⟩ : ∃ A8, A7.ready (2, nm1 107) l = A8 := ⟨_, rfl⟩
              rw [hA8] at HC8 HTOLD
              clear hA8
              go_wp2_with fail
              go_loopw [12, 19, 20, 21] (fun vv vn _ _ wx => ∃ (j vt : Nat), vn = .int .i64 (j : Int) ∧ vv = .int .u64 (vt : Int) ∧ j ≤ N3 ∧ (j ≤ P → vt = v) ∧ (P < j → vt = m) ∧ Below w8.heap.size w8 wx) (fun _ vn _ _ _ => N3 - (intOf vn).toNat)
              case atStart => exact ⟨0, v, rfl, rfl, Nat.zero_le _, fun _ => rfl, fun h => absurd h (Nat.not_lt_zero _), Below.refl _ _⟩
              case round =>
                obtain ⟨j, vt, rfl, rfl, hjN, hv1, hv2, hb⟩ := hrel
                have HC9 := Lib.hid (HC8.out.later hb)
                have HO9 := Lib.hid (HO8.out.later hb)
                have HB9 := Lib.hid hb
                clear hb
                by_cases hlt : j < N3
                · have b1 : (j : Int) < (N3 : Int) := by omega
                  have b2 : (0 : Int) ≤ (j : Int) := by omega
                  have b3 : IntKind.i64.wrap ((j : Int) + 1) = (j : Int) + 1 := by rw [IntKind.wrap_i64]; have h8 := HLEN.out; split at h8 <;> omega
                  obtain ⟨r, hr⟩ : ∃ r, OL[j]? = some r := ⟨_, List.getElem?_eq_getElem (by have := HNN.out; omega)⟩
                  have hout := HOUT.out j r hr
                  have ho9 := HO9.out
                  rw [← HNN.out] at ho9
                  obtain ⟨gg, hga, p0, p1, p2, p3, p4⟩ := ho9.at' hr
                  cases hga
                  clear ho9
                  obtain ⟨rt, rx, rq, rf, rs⟩ := r
                  simp only at p0 p1 p2 p3 p4 hout
                  have hvp := hv1 (by rcases hout with h | h <;> omega)
                  subst vt
                  have HR := Lib.hid (And.intro hout hv2)
                  clear hv1 hr hout hv2
                  rcases HR.out.1 with ⟨h1, -, -, h4, h5, h6, h7, h8⟩ | ⟨h1, h2, h3⟩
                  · subst rf
                    obtain ⟨x9, hw9, hb9, q9⟩ := ak_new wr #[.int .i64 rt, .string rx, .int .u64 (rq : Int), .bool false, .string rs] 35
                    have HW9 := Lib.hid hw9
                    have HC10 := Lib.hid (HC9.out.later hb9)
                    have HB10 := Lib.hid (HB9.out.trans (hb9.mono HB9.out.size))
                    have z2 : x9.cell? ⟨wr.heap.size, 2, none⟩ = some (.int .u64 (rq : Int)) := q9.cell 2
                    have z3 : x9.cell? ⟨wr.heap.size, 3, none⟩ = some (.bool false) := q9.cell 3
                    have z4 : x9.cell? ⟨wr.heap.size, 4, none⟩ = some (.string rs) := q9.cell 4
                    have hbl := HC10.out.m.look h6
                    rw [h5] at hbl
                    change (Instr.lookup _ _ _ _).run _ _ = .ok (.string rs) _ at hbl
                    have e9 := ne_empty h7
                    clear hw9 hb9 q9 h5 h6 h7 h8
                    go_wp2_with (rw [HW9.out])
                    go_roundw
                    case rel => exact ⟨j + 1, v, by go_num, rfl, by omega, fun _ => rfl, fun h => absurd h (by omega), HB10.out⟩
                    case measure => simp [intOf]; omega
                  · injection h2 with e1 e2 e3 e4 e5
                    subst rt; subst rx; subst rq; subst rf; subst rs; subst P
                    obtain ⟨x9, hw9, hb9, q9⟩ := ak_new wr #[.int .i64 2, .string ⟨#[107]⟩, .int .u64 (m : Int), .bool true, .string ⟨#[]⟩] 35
                    have HW9 := Lib.hid hw9
                    have HC10 := Lib.hid (HC9.out.later hb9)
                    have HB10 := Lib.hid (HB9.out.trans (hb9.mono HB9.out.size))
                    have HX10 := Lib.hid q9
                    have z2 : x9.cell? ⟨wr.heap.size, 2, none⟩ = some (.int .u64 (m : Int)) := q9.cell 2
                    have z3 : x9.cell? ⟨wr.heap.size, 3, none⟩ = some (.bool true) := q9.cell 3
                    have b4 : ¬ ((m : Int) ≤ (v : Int)) := by omega
                    have hl1 := HPOS.out (by omega)
                    have b5 : ¬ ((l.length : Int) = 0) := by omega
                    clear hw9 hb9 q9
                    go_wp2_with (rw [HW9.out])
                    obtain ⟨RB, hRB⟩ : ∃ RB, wr.heap.size = RB := ⟨_, rfl⟩
                    rw [hRB] at HX10 ⊢
                    clear hRB z2 z3 b4 b5 b1 b2 p0 p1 p2 p3 p4 HW9
                    go_loopw [21] (fun vm wy => ∃ κ : Nat, vm = .int .i64 (κ : Int) ∧ κ ≤ l.length ∧ Below x9.heap.size x9 wy) (fun vm _ => l.length - (intOf vm).toNat)
                    case atStart => exact ⟨0, rfl, Nat.zero_le _, Below.refl _ _⟩
                    case round =>
                      obtain ⟨κ, rfl, hκ, hb⟩ := hrel
                      have HC11 := Lib.hid (HC10.out.later hb)
                      have HX11 := Lib.hid (HX10.out.later hb)
                      have HB11 := Lib.hid hb
                      clear hb
                      by_cases hlt2 : κ < l.length
                      · have b1 : (κ : Int) < (l.length : Int) := by omega
                        have b2 : (0 : Int) ≤ (κ : Int) := by omega
                        have b5 : IntKind.i64.wrap ((κ : Int) + 1) = (κ : Int) + 1 := by rw [IntKind.wrap_i64]; omega
                        obtain ⟨y, hy⟩ : ∃ y, l[κ]? = some y := ⟨_, List.getElem?_eq_getElem hlt2⟩
                        have hy4 := HL4.out y (List.mem_of_getElem? hy)
                        have hym := HALL.out y (List.mem_of_getElem? hy)
                        obtain ⟨yn, rfl⟩ := Int.eq_ofNat_of_zero_le (show 0 ≤ y by omega)
                        obtain ⟨ga, go, rfl, -, hac⟩ := HC11.out.r.at κ _ hy
                        have z0 : wr.cell? ⟨TB, yn, none⟩ = some (.int .u64 (F (yn : Int) : Int)) := by rw [HC11.out.t.cell yn, c5_get F (by omega)]
                        obtain ⟨Fy, hFy⟩ : ∃ Fy, F (yn : Int) = Fy := ⟨_, rfl⟩
                        rw [hFy] at z0 hym
                        have z2 : wr.cell? ⟨RB, 2, none⟩ = some (.int .u64 (m : Int)) := HX11.out.cell 2
                        have c1 : (0 : Int) ≤ (yn : Int) := by omega
                        have c2 : (yn : Int) < 5 := by omega
                        have b4 : ¬ ((Fy : Int) < (m : Int)) := by omega
                        clear hFy hy hy4
                        go_wp2_with fail
                        go_region
                        go_wp2_with fail
                        go_roundw
                        case rel => exact ⟨κ + 1, by go_num, by omega, HB11.out.drew⟩
                        case measure => simp [intOf]; omega
                      · obtain rfl : κ = l.length := by omega
                        have b1 : ¬ ((l.length : Int) < (l.length : Int)) := by omega
                        have hB11 := HB10.out.trans (HB11.out.mono HB10.out.size)
                        have HB12 := Lib.hid hB11
                        clear hB11
                        go_wp2_with fail
                        go_roundw
                        case rel => exact ⟨j + 1, m, by go_num, rfl, by omega, fun h => absurd h (by omega), fun _ => rfl, HB12.out⟩
                        case measure => simp [intOf]; omega
                · obtain rfl : j = N3 := by omega
                  have b1 : ¬ ((j : Int) < (j : Int)) := by omega
                  have hvt : (if v < m then m else v) = vt := by
                    have h8 := HLEN.out
                    by_cases h9 : v < m
                    · rw [if_pos h9] at h8 ⊢; exact (hv2 (by omega)).symm
                    · rw [if_neg h9] at h8 ⊢; exact (hv1 (by omega)).symm
                  rw [hvt] at HTOLD
                  have hvt12 : vt ≤ 12 := by rw [← hvt]; split <;> omega
                  clear hvt hv1 hv2
                  go_wp2_with fail
                  go_roundw
                  case rel => exact ⟨i + 1, vt, A8, F, bdTell RR6, B6, by go_num, rfl, by omega, by omega, hvt12, HTOLD.out, HC9.out⟩
                  case measure => simp [intOf]; omega
        · have hh : ¬ (i : Int) < (LL : Int) ∨ ((i : Int) < (LL : Int) ∧ ¬ (i : Int) < 40) := by omega
          have HE := Lib.hid HC.out.k.k
          rcases hh with b1 | ⟨b1, b2⟩
          all_goals
            go_wp2_with fail
            go_ret
            exact ⟨rfl, HE.out⟩
  
end Go.Proofs.YtogkdekjcbljnaaDoor
