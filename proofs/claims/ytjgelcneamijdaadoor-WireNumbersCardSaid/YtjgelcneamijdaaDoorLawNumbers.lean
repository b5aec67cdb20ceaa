/-
  WireNumbers: for every number and every text the program's Varint and ReadVarint answer what the reference's do, behind the chapter's examples. No condition.
-/
import Derived.Test.YtjgelcneamijdaaDoorCards
import Derived.Test.YtjgelcneamijdaaDoorTie
import Derived.Test.YtjgelcneamijdaaDoorLaid
import Derived.Test.YtjgelcneamijdaaDoorEx
namespace Go.Proofs.YtjgelcneamijdaaDoor.lawNumbers
open Go.ChangeShapes Go.WideShapes Go.ChangeAt Go.RowKit
open Go.WideMaps Go.WideElems
open Go.ChangeMaps (open_string shut_string)

theorem walk_yes (n : Nat) (s : ByteArray) (v k : Nat) (b : Addr) (w : World) (hn : n < 2 ^ 64) (hs : s.size ≤ maxLen) (hg : Gv b w) (hr : rd s.data.toList = some (v, k)) :
    Calls Tryd.prog 3 #[.int .u64 n, .string s] w fun e w' => e = .returned (.bool true) ∧ Below w.heap.size w w' := by
  have HN := Lib.hid hn; clear hn
  have HS := Lib.hid hs; clear hs
  have HR := Lib.hid (show rvVal (rd s.data.toList) = .tuple #[.int .u64 v, .int .i64 k, .bool true] by rw [hr]; rfl); clear hr
  obtain ⟨T, hT⟩ : ∃ T : ByteArray, T = ⟨(vnt n).toArray⟩ := ⟨_, rfl⟩
  have HT := Lib.hid hT; clear hT
  go_enter Tryd.func3, Tryd.ntmps3
  go_wp2_with fail
  refine (examples_any b _ hg).mono ?_
  rintro e w1 ⟨rfl, hb1⟩
  have hg1 := hg.below hb1
  go_wp2_with fail
  refine (readVarint_any s b _ HS.out hg1).mono ?_
  rw [HR.out]
  rintro e w2 ⟨rfl, hb2⟩
  go_wp2_with fail
  refine (refRead_any s _ HS.out).mono ?_
  rw [HR.out]
  rintro e w3 ⟨rfl, rfl⟩
  go_wp2_with fail
  refine (varint_any n _ HN.out).mono ?_
  rw [← HT.out]
  rintro e w4 ⟨rfl, hb4⟩
  go_wp2_with fail
  refine (refVarint_any n _ HN.out).mono ?_
  rw [← HT.out]
  rintro e w5 ⟨rfl, hb5⟩
  go_wp2
  go_ret
  have h2 := hb1.trans (hb2.mono hb1.size)
  have h4 := h2.trans (hb4.mono h2.size)
  exact ⟨rfl, h4.trans (hb5.mono h4.size)⟩

theorem walk_no (n : Nat) (s : ByteArray) (b : Addr) (w : World) (hn : n < 2 ^ 64) (hs : s.size ≤ maxLen) (hg : Gv b w) (hr : rd s.data.toList = none) :
    Calls Tryd.prog 3 #[.int .u64 n, .string s] w fun e w' => e = .returned (.bool true) ∧ Below w.heap.size w w' := by
  have HN := Lib.hid hn; clear hn
  have HS := Lib.hid hs; clear hs
  have HR := Lib.hid (show rvVal (rd s.data.toList) = .tuple #[.int .u64 0, .int .i64 0, .bool false] by rw [hr]; rfl); clear hr
  obtain ⟨T, hT⟩ : ∃ T : ByteArray, T = ⟨(vnt n).toArray⟩ := ⟨_, rfl⟩
  have HT := Lib.hid hT; clear hT
  go_enter Tryd.func3, Tryd.ntmps3
  go_wp2_with fail
  refine (examples_any b _ hg).mono ?_
  rintro e w1 ⟨rfl, hb1⟩
  have hg1 := hg.below hb1
  go_wp2_with fail
  refine (readVarint_any s b _ HS.out hg1).mono ?_
  rw [HR.out]
  rintro e w2 ⟨rfl, hb2⟩
  go_wp2_with fail
  refine (refRead_any s _ HS.out).mono ?_
  rw [HR.out]
  rintro e w3 ⟨rfl, rfl⟩
  go_wp2_with fail
  refine (varint_any n _ HN.out).mono ?_
  rw [← HT.out]
  rintro e w4 ⟨rfl, hb4⟩
  go_wp2_with fail
  refine (refVarint_any n _ HN.out).mono ?_
  rw [← HT.out]
  rintro e w5 ⟨rfl, hb5⟩
  go_wp2
  go_ret
  have h2 := hb1.trans (hb2.mono hb1.size)
  have h4 := h2.trans (hb4.mono h2.size)
  exact ⟨rfl, h4.trans (hb5.mono h4.size)⟩

theorem walk (n : Nat) (s : ByteArray) (b : Addr) (w : World) (hn : n < 2 ^ 64) (hs : s.size ≤ maxLen) (hg : Gv b w) :
    Calls Tryd.prog 3 #[.int .u64 n, .string s] w fun e w' => e = .returned (.bool true) ∧ Below w.heap.size w w' := by
  cases hr : rd s.data.toList with
  | none => exact walk_no n s b w hn hs hg hr
  | some p => exact walk_yes n s p.1 p.2 b w hn hs hg hr

set_option maxRecDepth 100000 in
theorem contract (H : Type) (enc : TypeId × Value → H) (W : World) (base : Nat) (args : Array Value) (ds gs : List (DataW H)) (before : List MemPlace)
    (hval : ∀ (j : Nat) t v, Tryd.f3.params[j]? = some t → args[j]? = some v → Value.okWide Tryd.prog W .any base t v)
    (hW : DataW.Whole enc Tryd.prog Tryd.f3.params.toList Rows.wireNumbersSpec.vars false W args.toList ds gs before) (hL : laidMetH Tryd.prog Rows.wireNumbersRow.laid W) :
    Calls Tryd.prog 3 args W fun e W' => ∃ v, e = .returned v ∧ Rows.wireNumbersSpec.post enc Tryd.prog Tryd.f3 false true false false W args v W' := by
  have hW' := hW
  obtain ⟨p, q, hA0, hV, rfl, hfz, hnd⟩ := hW
  have hA : DataW.TrodAll enc Tryd.prog W 0 (fun _ => true) true Tryd.f3.params.toList args.toList ds p := hA0
  rw [Tryd.params3] at hA hval
  obtain ⟨v0, vs0, d0, ds0, p0, q0, hargs, rfl, rfl, h0, r0⟩ := trodAll_cons hA
  obtain ⟨v1, vs1, d1, ds1, p1, q1, rfl, rfl, rfl, h1, r1⟩ := trodAll_cons r0
  obtain ⟨rfl, rfl, rfl⟩ := trodAll_nil r1
  obtain rfl : args = #[v0, v1] := by cases args; simp_all
  obtain ⟨rfl, rfl⟩ := trodVars_none hV
  obtain ⟨x, rfl, rfl, rfl, wx⟩ := open_int Tryd.underlying22 (hval 0 22 v0 rfl rfl) h0
  obtain ⟨s, rfl, rfl, rfl, hs⟩ := open_string Tryd.underlying9 (hval 1 9 v1 rfl rfl) h1
  clear hA0
  simp only [List.append_nil] at hW'
  obtain ⟨b, hg⟩ := gv_of_laid hL
  have hx := bounds_u64 wx
  obtain ⟨n, rfl⟩ := Int.eq_ofNat_of_zero_le hx.1
  refine (walk n s b W (by have := hx.2; omega) hs hg).mono fun e W' ⟨he, hb⟩ => ?_
  subst he
  exact ⟨_, rfl, post_of_below (pa := []) (pv := []) hW' (fun _ _ _ => trodAll_cons_mk (shut_bool Tryd.underlying4 _) trodAll_mk0) (fun _ _ => trodAll_cons_mk (shut_int Tryd.underlying22 wx) (trodAll_cons_mk (shut_string Tryd.underlying9 hs) trodAll_mk0)) (fun _ _ => rfl) rfl
    hb (ok_one (by kernel_rfl) rfl (okWide_bool_mk Tryd.underlying4 _))⟩

theorem reads (os : Os) {H : Type} (enc : TypeId × Value → H) : ∃ places, DataW.whole enc Tryd.prog ((laidWorld os).forCall (fun _ _ => 0) ⟨#[], #[.int .u64 0, .string ⟨#[]⟩], []⟩).memory Tryd.f3.params.toList Rows.wireNumbersSpec.vars false #[Value.int .u64 0, Value.string ⟨#[]⟩].toList 8 = some ([.lit (.int .u64 0), .lit (.string [])], [], places) :=
  ⟨[], by kernel_rfl⟩

set_option maxRecDepth 100000 in
theorem lifted (os : Os) (started : os.Started) (H : Type) (enc : TypeId × Value → H) (F : Stop.Interp) :
    ReturnsInHanded {} Tryd.checked os 3 .any ((OpenSpec.ofChange Rows.wireNumbersSpec).preRow enc Tryd.prog Tryd.f3 Rows.wireNumbersRow.domain false Rows.wireNumbersRow.laid) (((OpenSpec.ofChange Rows.wireNumbersSpec).at F).post enc Tryd.prog Tryd.f3 false true false false) := by
  obtain ⟨places, hx⟩ := reads os enc
  refine returnsInHanded_of_row (C := Tryd.checked) (s := OpenSpec.ofChange Rows.wireNumbersSpec) Tryd.own started (by kernel_rfl) Tryd.func3
    (witness_row_at (enc := enc) (C := Tryd.checked) false (laidWorld os) #[.int .u64 0, .string ⟨#[]⟩] rfl (by kernel_rfl) (by kernel_rfl) (by kernel_rfl)
      (OpenSpec.preRow_of_cond 8 hx (by kernel_rfl) (fun k hk => by cases hk) (by kernel_rfl) (laid_met os _))) ?_
  intro W base args ds gs before hval hW _ _ _ hL _ _
  exact contract H enc W base args ds gs before hval hW hL

theorem said : Rows.WireNumbersSaid :=
  OpenClaim.holds_of_cond 3 Tryd.f3 rfl rfl rfl rfl rfl rfl rfl ⟨rfl, rfl, rfl, rfl, rfl⟩ rfl rfl rfl rfl rfl (by kernel_rfl) Tryd.func3 (by kernel_rfl)
    (of_decide_eq_true (by kernel_rfl)) (by unfold Func.isWrapper; first | (rw [if_pos (by decide +kernel)]; kernel_rfl) | (rw [if_neg (by decide +kernel)]; exact ⟨rfl, rfl⟩))
    (fun os started H enc _ F => by rw [OpenClaim.pre_eq_preRow]; exact lifted os started H enc F)

theorem plain (f : FuncId) (fn : Func) (hf : Tryd.pinned.checked.prog.funcNamed "noria/norialaw01.WireNumbers" = some f) (hfn : Tryd.pinned.checked.prog.funcs[f]? = some fn) :
    true = Tryd.pinned.checked.prog.looks [] ∧ ∀ (j : Nat) t, fn.params[j]? = some t → Tryd.pinned.checked.prog.wantsStandIn t = false := by
  obtain rfl : f = 3 := Option.some.inj ((show Tryd.prog.funcNamed "noria/norialaw01.WireNumbers" = some 3 by kernel_rfl).symm.trans hf) |>.symm
  obtain rfl : fn = Tryd.f3 := (Option.some.inj (Tryd.func3.symm.trans hfn)).symm
  refine ⟨by kernel_rfl, fun j t ht => ?_⟩
  rw [Tryd.params3] at ht
  have hm := Array.mem_of_getElem? ht
  simp only [List.mem_toArray, List.mem_cons, List.not_mem_nil, or_false] at hm
  rcases hm with rfl | rfl
  · exact (show Tryd.prog.wantsStandIn 22 = false by kernel_rfl)
  · exact (show Tryd.prog.wantsStandIn 9 = false by kernel_rfl)

theorem card : Rows.WireNumbersCardSaid :=
  Claim7.holds_tied_plain_at .later [] _ _ _ _ said (fun _ h => by cases h) (by kernel_rfl) (fun _ h => by cases h) wireNumbers_row_tie rfl ⟨rfl, rfl⟩ (by kernel_rfl) rfl plain (by kernel_rfl)
end Go.Proofs.YtjgelcneamijdaaDoor.lawNumbers
