/-
  WireShort: a number has as few bytes as it may; written longer it is read the same, up to ten bytes, and not beyond. No condition.
-/
import Derived.Test.YtkehanpgaahmlaaDoorCards
import Derived.Test.YtkehanpgaahmlaaDoorTie
import Derived.Test.YtkehanpgaahmlaaDoorLaid
import Derived.Test.YtkehanpgaahmlaaDoorEx
import Derived.Test.YtkehanpgaahmlaaDoorShortP
import Derived.Test.YtkehanpgaahmlaaDoorMark
import Derived.RegionTactic
import Derived.ChangeAlike
namespace Go.Proofs.YtkehanpgaahmlaaDoor.lawShort
open Go.ChangeShapes Go.WideShapes Go.ChangeAt Go.RowKit
open Go.WideMaps Go.WideElems
open Go.ChangeMaps (open_string shut_string)

abbrev bv (x : UInt8) : Value := Value.int .u8 (x.toNat : Int)

theorem convert_rowM {P : Program} {w : World} {base g cap n : Nat} {e src dst : TypeId} {l : List UInt8} (hs : P.underlying src = some (.slice e)) (he : P.underlying e = some (.int .u8)) (hd : P.underlying dst = some .string)
    (h : RowM w base e g cap (l.map bv)) (hn : l.length = n) :
    (convert src dst (.slice (some ⟨g, 0, none⟩) n cap)).run P w = .ok (.string ⟨l.toArray⟩) w := by
  subst hn
  refine run_convert_bytes_back w src dst e ⟨g, 0, none⟩ cap l hs he hd fun j hj => ?_
  have e : (⟨g, 0, none⟩ : Addr).add j = ⟨g, j, none⟩ := by unfold Addr.add; split <;> simp_all
  rw [e]; exact h.cell (by simp [hj])

set_option maxRecDepth 100000 in
set_option maxHeartbeats 1000000 in
theorem walk (n m : Nat) (b : Addr) (w : World) (hn : n < 2 ^ 64) (hg : Gv b w) :
    Calls Tryd.prog 8 #[.int .u64 n, .int .u8 m] w fun e w' => e = .returned (.bool true) ∧ Below w.heap.size w w' := by
  obtain ⟨q0, y0, hv0, hl0⟩ := LRel.start n hn
  have HN := Lib.hid hn; clear hn
  obtain ⟨T, hT⟩ : ∃ T : ByteArray, T = ⟨(vnt n).toArray⟩ := ⟨_, rfl⟩
  have hTs : T.size = q0.length + 1 := by rw [hT, hv0]; simp [ByteArray.size]
  have hT10 : T.size ≤ 10 := by rw [hT]; have := (vnt_len n).2; simpa [ByteArray.size] using this
  have hTd : T.data.toList = q0 ++ [y0] := by rw [hT, hv0]
  have hTe : T.toList.isEmpty = false := by
    rw [ByteArray.toList_eq, hTd]; cases q0 <;> rfl
  have HTs := Lib.hid hTs; clear hTs
  have HTd := Lib.hid hTd; clear hTd
  have HT := Lib.hid hT; clear hT
  have HV0 := Lib.hid hv0; clear hv0
  obtain ⟨M, hM, hM12⟩ : ∃ M : Nat, (m : Int) % 12 = (M : Int) ∧ M < 12 := ⟨m % 12, by omega, by omega⟩
  go_enter Tryd.func8, Tryd.ntmps8
  go_wp2_with fail
  refine (examples_any b _ hg).mono ?_
  rintro e w1 ⟨rfl, hb1⟩
  have hg1 := hg.below hb1
  go_wp2_with fail
  refine (varint_any n _ HN.out).mono ?_
  rw [← HT.out]
  rintro e w2 ⟨rfl, hb2⟩
  have hg2 := hg1.below hb2
  have hB2 := hb1.trans (hb2.mono hb1.size)
  clear hb1 hb2 hg1
  have kc := run_bytes_of_string (P := Tryd.prog) w2 9 42 5 T Tryd.underlying9 Tryd.underlying42 Tryd.underlying5
  have hr2 := rowM_of_string w2 w.heap.size 5 T hB2.size (by unfold maxLen; omega)
  have hBc := (below_drewN hB2 1).alloc hB2.size (.cells (bytesRow T (grownCap w2 T.size 0 5)) 5 ((bytesRow T (grownCap w2 T.size 0 5)).size, (bytesRow T (grownCap w2 T.size 0 5)).size + 1))
  go_wp2
  clear kc
  go_loopw [7, 8] (fun v i wr => ∃ (k : Nat) (q : List UInt8) (y : UInt8), k ≤ M ∧ i = .int .i64 k ∧ LRel n q y ∧ q.length + 1 = T.size + k ∧ OwnM wr w.heap.size 5 v ((q ++ [y]).map bv) ∧ Below w.heap.size w wr) (fun _ i _ => M - (intOf i).toNat)
  case atStart =>
    refine ⟨0, q0, y0, Nat.zero_le _, rfl, hl0, HTs.out.symm, ?_, hBc⟩
    rw [HTd.out] at hr2
    exact hr2.own (by simp [HTs.out])
  case round =>
    clear hBc hr2
    obtain ⟨k, q, y, hk, rfl, hl, hq, hown, hb⟩ := hrel
    obtain ⟨g, cap, hv, hrow⟩ := hown.row
    rw [List.length_map, List.length_append, List.length_singleton] at hv
    obtain ⟨j, hj⟩ : ∃ j, q.length = j := ⟨_, rfl⟩
    rw [hj] at hv hq
    subst hv
    have HJ := Lib.hid hj; clear hj
    have HL := Lib.hid hl; clear hl
    have HO := Lib.hid hown; clear hown
    have hc : wr.cell? ⟨g, j, none⟩ = some (.int .u8 (y.toNat : Int)) := hrow.cell (by rw [← HJ.out]; simp)
    have hf : wr.frozen? ⟨g, j, none⟩ = false := hrow.free (by rw [← HJ.out]; simp)
    have HQ := Lib.hid hq; clear hq
    have hj20 : j < 22 := by have := HQ.out; omega
    obtain ⟨i0, hi, hz0, hz1, hz2⟩ := info_parts Tryd.infoU8
    have hrow2 : RowM (wr.setCell ⟨g, j, none⟩ (.int .u8 (bits BinOp.or IntKind.u8 (y.toNat : Int) 128))) w.heap.size 5 g cap ((q ++ [UInt8.ofNat (y.toNat % 128 + 128)]).map bv) := by
      have h := hrow.set j (.int .u8 (bits BinOp.or IntKind.u8 (y.toNat : Int) 128))
      have e : ((q ++ [y]).map bv).set j (.int .u8 (bits BinOp.or IntKind.u8 (y.toNat : Int) 128)) = (q ++ [UInt8.ofNat (y.toNat % 128 + 128)]).map bv := by
        have e2 : (UInt8.ofNat (y.toNat % 128 + 128)).toNat = y.toNat % 128 + 128 := by simp; omega
        rw [bits_or128 _ y.toNat_lt, ← HJ.out, List.map_append, List.map_append, List.set_append_right _ _ (by simp)]
        simp only [bv, List.length_map, Nat.sub_self, List.map_cons, List.map_nil, List.set_cons_zero, e2]
      rw [e] at h; exact h
    have hbs := hb.size
    have hc0 : ((wr.setCell ⟨g, j, none⟩ (.int .u8 (bits BinOp.or IntKind.u8 (y.toNat : Int) 128))).alloc (.cells #[.int .u8 0] 5)).cell? ⟨wr.heap.size, 0, none⟩ = some (.int .u8 0) := by
      have h := World.cell?_alloc_mark (wr.setCell ⟨g, j, none⟩ (.int .u8 (bits BinOp.or IntKind.u8 (y.toNat : Int) 128))) #[.int .u8 0] 5 (0, 0) 0
      rw [World.size_setCell] at h; exact h
    have HC0 := Lib.hid hc0; clear hc0
    by_cases hlt : k < M
    · go_wp2_with (at_builtin; go_must (refine wpList_append_m _ rfl _ _ 42 rfl w.heap.size 5 i0 (.int .u8 0) 1 Tryd.underlying42 hi hz0 hz1 hz2 rfl _ _ rfl ((hrow2.own (n := j + 1) (by simp [HJ.out])).alloc _) ⟨wr.heap.size, 0, none⟩ 1 (.int .u8 0) rfl HC0.out rfl (by unfold maxLen; simp [HJ.out]; omega) (by simp [HJ.out]; omega) (by simp; omega) ?_; intro v' w3 hown3 hgrow))
      have hgl := hrow.lt
      have hgrow' : World.grownBy _ w3 (some g) := hgrow
      have hb3 : Below w.heap.size w w3 := ((hb.setCell (p := ⟨g, j, none⟩) hgl.1 _).alloc (by simp; omega) _).grown hgrow' (by simp; omega) (fun k' e => by rw [← Option.some.inj e]; exact hgl.1)
      go_roundw
      case rel =>
        refine ⟨k + 1, _, 0, by omega, by go_num, HL.out.step, by have := HQ.out; have := HJ.out; simp; omega, ?_, hb3⟩
        rw [List.map_append]; exact hown3
      case measure => simp [intOf]; omega
    · obtain ⟨X, hX⟩ : ∃ X : ByteArray, X = ⟨(q ++ [y]).toArray⟩ := ⟨_, rfl⟩
      have hcv := convert_rowM (dst := 9) (n := j + 1) Tryd.underlying42 Tryd.underlying5 Tryd.underlying9 hrow (by simp [HJ.out])
      rw [← hX] at hcv
      have hXs : X.size ≤ 22 := by rw [hX]; simp [ByteArray.size, HJ.out]; omega
      have hXd : (X ++ (⟨#[120]⟩ : ByteArray)).data.toList = q ++ [y] ++ [120] := by rw [hX]; simp
      have hrd : rd (X ++ (⟨#[120]⟩ : ByteArray)).data.toList = if q.length + 1 ≤ 10 then some (n, q.length + 1) else none := by rw [hXd]; exact HL.out.read [120]
      rw [HJ.out] at hrd
      have hYs : (X ++ (⟨#[120]⟩ : ByteArray)).size ≤ maxLen := by
        rw [ByteArray.size_append]; unfold maxLen; show X.size + 1 ≤ _; omega
      clear hX hXd hc hf hrow hrow2 HC0 hi hz0 hz1 hz2
      have hgw := hg.below hb
      obtain rfl : k = M := by omega
      by_cases h10 : j + 1 ≤ 10
      · rw [if_pos h10] at hrd
        have HR := Lib.hid (show rvVal (rd (X ++ (⟨#[120]⟩ : ByteArray)).data.toList) = .tuple #[.int .u64 n, .int .i64 ((j + 1 : Nat) : Int), .bool true] by rw [hrd]; rfl)
        clear hrd
        go_wp2_with fail
        refine (readVarint_any _ b _ hYs hgw).mono ?_
        rw [HR.out]
        rintro e w4 ⟨rfl, hb4⟩
        go_wp2_with fail
        have hB4 := hb.trans (hb4.mono hb.size)
        go_loop [12, 13] (fun a v => ∃ (κ p : Nat) (pre : List UInt8), a = .int .i64 ((p : Int) + 1) ∧ v = .int .u64 κ ∧ pre.length = p ∧ VRel n κ pre) (fun _ v => (intOf v).toNat)
        case atStart => exact ⟨n, 0, [], rfl, rfl, rfl, VRel.start n⟩
        case round =>
          obtain ⟨κ, p, pre, rfl, rfl, hp, hv⟩ := hrel
          have hpl := hv.len
          rw [hp] at hpl
          have HP := Lib.hid hp; clear hp
          have HV := Lib.hid hv; clear hv
          by_cases hκ : 128 ≤ κ
          · go_wp2_with fail
            have hw : IntKind.u64.wrap ((κ : Int) / 128) = ((κ / 128 : Nat) : Int) := by
              have := HN.out; have := HV.out.le
              rw [IntWalk.u64_in _ (by omega)]; omega
            rw [hw]
            exact ⟨⟨κ / 128, p + 1, _, by go_num, rfl, by simp [HP.out], HV.out.step HN.out hκ⟩, by simp [intOf]; omega⟩
          · have hTl : (T.size : Int) = (p : Int) + 1 := by
              rw [HT.out, HV.out.done (by omega)]; simp [ByteArray.size, HP.out]
            go_wp2_with fail
            go_ret
            exact ⟨rfl, hB4⟩
      · rw [if_neg h10] at hrd
        have HR := Lib.hid (show rvVal (rd (X ++ (⟨#[120]⟩ : ByteArray)).data.toList) = .tuple #[.int .u64 0, .int .i64 0, .bool false] by rw [hrd]; rfl)
        clear hrd
        go_wp2_with fail
        refine (readVarint_any _ b _ hYs hgw).mono ?_
        rw [HR.out]
        rintro e w4 ⟨rfl, hb4⟩
        go_wp2_with fail
        have hB4 := hb.trans (hb4.mono hb.size)
        go_loop [12, 13] (fun a v => ∃ (κ p : Nat) (pre : List UInt8), a = .int .i64 ((p : Int) + 1) ∧ v = .int .u64 κ ∧ pre.length = p ∧ VRel n κ pre) (fun _ v => (intOf v).toNat)
        case atStart => exact ⟨n, 0, [], rfl, rfl, rfl, VRel.start n⟩
        case round =>
          obtain ⟨κ, p, pre, rfl, rfl, hp, hv⟩ := hrel
          have hpl := hv.len
          rw [hp] at hpl
          have HP := Lib.hid hp; clear hp
          have HV := Lib.hid hv; clear hv
          by_cases hκ : 128 ≤ κ
          · go_wp2_with fail
            have hw : IntKind.u64.wrap ((κ : Int) / 128) = ((κ / 128 : Nat) : Int) := by
              have := HN.out; have := HV.out.le
              rw [IntWalk.u64_in _ (by omega)]; omega
            rw [hw]
            exact ⟨⟨κ / 128, p + 1, _, by go_num, rfl, by simp [HP.out], HV.out.step HN.out hκ⟩, by simp [intOf]; omega⟩
          · have hTl : (T.size : Int) = (p : Int) + 1 := by
              rw [HT.out, HV.out.done (by omega)]; simp [ByteArray.size, HP.out]
            go_wp2_with fail
            go_ret
            exact ⟨rfl, hB4⟩

set_option maxRecDepth 100000 in
theorem contract (H : Type) (enc : TypeId × Value → H) (W : World) (base : Nat) (args : Array Value) (ds gs : List (DataW H)) (before : List MemPlace)
    (hval : ∀ (j : Nat) t v, Tryd.f8.params[j]? = some t → args[j]? = some v → Value.okWide Tryd.prog W .any base t v)
    (hW : DataW.Whole enc Tryd.prog Tryd.f8.params.toList Rows.wireShortSpec.vars false W args.toList ds gs before) (hL : laidMetH Tryd.prog Rows.wireShortRow.laid W) :
    Calls Tryd.prog 8 args W fun e W' => ∃ v, e = .returned v ∧ Rows.wireShortSpec.post enc Tryd.prog Tryd.f8 false true false false W args v W' := by
  have hW' := hW
  obtain ⟨p, q, hA0, hV, rfl, hfz, hnd⟩ := hW
  have hA : DataW.TrodAll enc Tryd.prog W 0 (fun _ => true) true Tryd.f8.params.toList args.toList ds p := hA0
  rw [Tryd.params8] at hA hval
  obtain ⟨v0, vs0, d0, ds0, p0, q0, hargs, rfl, rfl, h0, r0⟩ := trodAll_cons hA
  obtain ⟨v1, vs1, d1, ds1, p1, q1, rfl, rfl, rfl, h1, r1⟩ := trodAll_cons r0
  obtain ⟨rfl, rfl, rfl⟩ := trodAll_nil r1
  obtain rfl : args = #[v0, v1] := by cases args; simp_all
  obtain ⟨rfl, rfl⟩ := trodVars_none hV
  obtain ⟨x0, rfl, rfl, rfl, wx0⟩ := open_int Tryd.underlying22 (hval 0 22 v0 rfl rfl) h0
  obtain ⟨x1, rfl, rfl, rfl, wx1⟩ := open_int Tryd.underlying5 (hval 1 5 v1 rfl rfl) h1
  clear hA0
  simp only [List.append_nil] at hW'
  obtain ⟨b, hg⟩ := gv_of_laid hL
  have bx0 := bounds_u64 wx0
  obtain ⟨n0, rfl⟩ := Int.eq_ofNat_of_zero_le bx0.1
  have bx1 := bounds_u8 wx1
  obtain ⟨n1, rfl⟩ := Int.eq_ofNat_of_zero_le bx1.1
  refine (walk n0 n1 b W (by omega) hg).mono fun e W' ⟨he, hb⟩ => ?_
  subst he
  exact ⟨_, rfl, post_of_below (pa := []) (pv := []) hW' (fun _ _ _ => trodAll_cons_mk (shut_bool Tryd.underlying4 _) trodAll_mk0) (fun _ _ => trodAll_cons_mk (shut_int Tryd.underlying22 wx0) (trodAll_cons_mk (shut_int Tryd.underlying5 wx1) (trodAll_mk0))) (fun _ _ => rfl) rfl
    hb (ok_one (by kernel_rfl) rfl (okWide_bool_mk Tryd.underlying4 _))⟩

theorem reads (os : Os) {H : Type} (enc : TypeId × Value → H) : ∃ places, DataW.whole enc Tryd.prog ((laidWorld os).forCall (fun _ _ => 0) ⟨#[], #[.int .u64 0, .int .u8 0], []⟩).memory Tryd.f8.params.toList Rows.wireShortSpec.vars false (#[.int .u64 0, .int .u8 0] : Array Value).toList 8 = some ([.lit (.int .u64 0), .lit (.int .u8 0)], [], places) :=
  ⟨[], by kernel_rfl⟩

set_option maxRecDepth 100000 in
theorem lifted (os : Os) (started : os.Started) (H : Type) (enc : TypeId × Value → H) (F : Stop.Interp) :
    ReturnsInHanded {} Tryd.checked os 8 .any ((OpenSpec.ofChange Rows.wireShortSpec).preRow enc Tryd.prog Tryd.f8 Rows.wireShortRow.domain false Rows.wireShortRow.laid) (((OpenSpec.ofChange Rows.wireShortSpec).at F).post enc Tryd.prog Tryd.f8 false true false false) := by
  obtain ⟨places, hx⟩ := reads os enc
  refine returnsInHanded_of_row (C := Tryd.checked) (s := (OpenSpec.ofChange Rows.wireShortSpec)) Tryd.own started (by kernel_rfl) Tryd.func8
    (witness_row_at (enc := enc) (C := Tryd.checked) false (laidWorld os) #[.int .u64 0, .int .u8 0] rfl (by kernel_rfl) (by kernel_rfl) (by kernel_rfl)
      (OpenSpec.preRow_of_cond 8 hx (by kernel_rfl) (fun k hk => by cases hk) (by kernel_rfl) (laid_met os _))) ?_
  intro W base args ds gs before hval hW _ _ _ hL _ _
  exact contract H enc W base args ds gs before hval hW hL

theorem said : Rows.WireShortSaid :=
  OpenClaim.holds_of_cond 8 Tryd.f8 rfl rfl rfl rfl rfl rfl rfl ⟨rfl, rfl, rfl, rfl, rfl⟩ rfl rfl rfl rfl rfl (by kernel_rfl) Tryd.func8 (by kernel_rfl)
    (of_decide_eq_true (by kernel_rfl)) (by unfold Func.isWrapper; first | (rw [if_pos (by decide +kernel)]; kernel_rfl) | (rw [if_neg (by decide +kernel)]; exact ⟨rfl, rfl⟩))
    (fun os started H enc _ F => by rw [OpenClaim.pre_eq_preRow]; exact lifted os started H enc F)

theorem plain (f : FuncId) (fn : Func) (hf : Tryd.pinned.checked.prog.funcNamed "noria/norialaw01.WireShort" = some f) (hfn : Tryd.pinned.checked.prog.funcs[f]? = some fn) :
    true = Tryd.pinned.checked.prog.looks [] ∧ ∀ (j : Nat) t, fn.params[j]? = some t → Tryd.pinned.checked.prog.wantsStandIn t = false := by
  obtain rfl : f = 8 := Option.some.inj ((show Tryd.prog.funcNamed "noria/norialaw01.WireShort" = some 8 by kernel_rfl).symm.trans hf) |>.symm
  obtain rfl : fn = Tryd.f8 := (Option.some.inj (Tryd.func8.symm.trans hfn)).symm
  refine ⟨by kernel_rfl, fun j t ht => ?_⟩
  rw [Tryd.params8] at ht
  have hm := Array.mem_of_getElem? ht
  simp only [List.mem_toArray, List.mem_cons, List.not_mem_nil, or_false] at hm
  rcases hm with rfl | rfl
  · exact (show Tryd.prog.wantsStandIn 22 = false by kernel_rfl)
  · exact (show Tryd.prog.wantsStandIn 5 = false by kernel_rfl)

theorem card : Rows.WireShortCardSaid :=
  Claim7.holds_tied_plain_at .later [] _ _ _ _ said (fun _ h => by cases h) (by kernel_rfl) (fun _ h => by cases h) wireShort_row_tie rfl ⟨rfl, rfl⟩ (by kernel_rfl) rfl plain (by kernel_rfl)
end Go.Proofs.YtkehanpgaahmlaaDoor.lawShort
