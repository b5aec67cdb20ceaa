/-
  WireBack: four fields are parsed as they were put; cut within the last they are not. For texts whose bulk is at most 1048576 (the second form).
-/
import Derived.Test.YtjgelcneamijdaaDoorCards
import Derived.Test.YtjgelcneamijdaaDoorTie
import Derived.Test.YtjgelcneamijdaaDoorLaid
import Derived.Test.YtjgelcneamijdaaDoorRows2
import Derived.Test.YtjgelcneamijdaaDoorBack
import Derived.Test.YtjgelcneamijdaaDoorAll
namespace Go.Proofs.YtjgelcneamijdaaDoor.lawBack
open Go.ChangeShapes Go.WideShapes Go.ChangeAt Go.RowKit
open Go.WideMaps Go.WideElems
open Go.ChangeMaps (open_string shut_string)

theorem last_any (g cap L : Nat) (num : Int) (fs : List Fd) (hL : fs.length = L) (hLb : L ≤ 1099511627776) (w : World) (hr : RowAt w g fs) :
    Calls Tryd.prog 27 #[.slice (some ⟨g, 0, none⟩) L cap, .int .i64 num] w fun e w' => e = .returned (.tuple #[.agg (lastCells (withL num fs)), .bool (!(withL num fs).isEmpty)]) ∧ Below w.heap.size w w' :=
  callsIn_wide.1 (last_in g cap L num fs hL hLb w hr)
theorem all_any (g cap L : Nat) (num : Int) (fs : List Fd) (hL : fs.length = L) (hLb : L ≤ 1099511627776) (w : World) (hr : RowAt w g fs) :
    Calls Tryd.prog 29 #[.slice (some ⟨g, 0, none⟩) L cap, .int .i64 num] w fun e w' => (∃ v, e = .returned v ∧ w'.ownsRow w.heap.size 29 4 v (withL num fs).length (fdCells (withL num fs))) ∧ Below w.heap.size w w' :=
  callsIn_wide.1 (all_in g cap L num fs hL hLb w hr)

theorem parse_way (t : ByteArray) (b : Addr) (w : World) (hs : t.size ≤ 1099511627776) (hg : Gv b w) (o : Bool) (h : (parse t.data.toList).isSome = o) :
    Calls Tryd.prog 24 #[.string t] w fun e w' => (∃ a n cap, e = .returned (.tuple #[.slice a n cap, .bool o])) ∧ Below w.heap.size w w' := by
  refine (parse_any t b w hs hg).mono ?_
  cases hp : parse t.data.toList with
  | none => rw [hp] at h; cases h; rintro e w' ⟨rfl, hb⟩; exact ⟨⟨_, _, _, rfl⟩, hb⟩
  | some fs =>
    rw [hp] at h; cases h
    rintro e w' ⟨⟨v, rfl, hrow⟩, hb⟩
    obtain ⟨a, c, rfl⟩ := owns_slice hrow
    exact ⟨⟨_, _, _, rfl⟩, hb⟩

set_option maxRecDepth 100000 in
set_option maxHeartbeats 2000000 in
theorem walk (a c nm cu : Nat) (s t A T B Y Z : ByteArray) (b : Addr) (w : World) (hg : Gv b w) (κ : Int) (hκ : κ = 1 + nm) (ha : a < 2 ^ 64) (hc : c < 2 ^ 64) (hn : nm < 65536) (hcu : cu < 65536) (hs : s.size ≤ 1048576) (ht : t.size ≤ 1048576)
    (hA : A = ⟨(numberL κ a).toArray⟩) (hT : T = ⟨(textL κ s).toArray⟩) (hB : B = ⟨(numberL (κ + 1) c).toArray⟩) (hY : Y = ⟨(textL (κ + 1) t).toArray⟩) (o : Bool) (J : Nat) (hJ : cu % Y.size = J) (hJY : J < Y.size) (hZ : Z = Y.extract 0 J)
    (sA : A.size ≤ 100) (sT : T.size ≤ 1048700) (sB : B.size ≤ 100) (sY : Y.size ≤ 1048700) (sY0 : 0 < Y.size) (sZ : Z.size ≤ 1048700)
    (hp : parse ((A ++ T ++ B) ++ Y).data.toList = some (four κ a c s t)) (hq : (parse ((A ++ T ++ B) ++ Z).data.toList).isSome = o) (ho : ((J : Int) == 0) = o) (nY : ¬ Y = ByteArray.empty) :
    Calls Tryd.prog 6 #[.int .u64 a, .int .u64 c, .string s, .string t, .int .u16 nm, .int .u16 cu] w fun e w' => e = .returned (.bool true) ∧ Below w.heap.size w w' := by
  have HA := Lib.hid ha; clear ha
  have HC := Lib.hid hc; clear hc
  have EA := Lib.hid hA; clear hA
  have ET := Lib.hid hT; clear hT
  have EB := Lib.hid hB; clear hB
  have EY := Lib.hid hY; clear hY
  have EZ := Lib.hid hZ; clear hZ
  have HP := Lib.hid hp; clear hp
  have HQ := Lib.hid hq; clear hq
  have HS := Lib.hid (show s.size ≤ 140737488355328 by omega)
  have HT := Lib.hid (show t.size ≤ 140737488355328 by omega)
  have z1 : (A ++ T).size = A.size + T.size := ByteArray.size_append
  have z2 : (A ++ T ++ B).size = (A ++ T).size + B.size := ByteArray.size_append
  have z3 : ((A ++ T ++ B) ++ Y).size = (A ++ T ++ B).size + Y.size := ByteArray.size_append
  have z4 : ((A ++ T ++ B) ++ Z).size = (A ++ T ++ B).size + Z.size := ByteArray.size_append
  have Y2 := Lib.hid (show ((A ++ T ++ B) ++ Y).size ≤ 1099511627776 by omega)
  have Y3 := Lib.hid (show ((A ++ T ++ B) ++ Z).size ≤ 1099511627776 by omega)
  have y1 : (A ++ T).size ≤ 2000000 := by omega
  have y2 : (A ++ T ++ B).size ≤ 2000000 := by omega
  clear z1 z2 z3 z4 hs ht
  have v0 : IntKind.i64.wrap (nm : Int) = nm := by unfold IntKind.wrap; simp [IntKind.bits, IntKind.signed]; omega
  have v1 : IntKind.i64.wrap (1 + (nm : Int)) = κ := by subst hκ; unfold IntKind.wrap; simp [IntKind.bits, IntKind.signed]; omega
  have v2 : IntKind.i64.wrap (κ + 1) = κ + 1 := by subst hκ; unfold IntKind.wrap; simp [IntKind.bits, IntKind.signed]; omega
  have v3 : IntKind.i64.wrap (cu : Int) = cu := by unfold IntKind.wrap; simp [IntKind.bits, IntKind.signed]; omega
  have HK := Lib.hid hκ; clear hκ
  have j1 : (cu : Int) % (Y.size : Int) = (J : Int) := by rw [← hJ]; simp
  have j2 : 0 ≤ (J : Int) ∧ (J : Int) ≤ Y.size := by omega
  have j4 : Y.toList.isEmpty = false := by
    rw [ByteArray.toList_eq]
    have hl : Y.data.toList.length = Y.size := by simp
    cases he : Y.data.toList with
    | nil => rw [he] at hl; simp at hl; omega
    | cons x l => rfl
  have j3 : (J : Int).toNat = J := by simp
  go_enter Tryd.func6, Tryd.ntmps6
  go_wp2_with fail
  refine (examples_any b _ hg).mono ?_
  rintro e w1 ⟨rfl, hb1⟩
  have hg1 := hg.below hb1
  go_wp2_with fail
  refine (number_any κ a b _ hg1 HA.out).mono ?_
  rw [← EA.out]
  rintro e w2 ⟨rfl, hb2⟩
  have hg2 := hg1.below hb2
  have hB2 := hb1.trans (hb2.mono hb1.size)
  clear hb1 hb2 hg1
  go_wp2_with fail
  refine (text_any κ s b _ hg2 HS.out).mono ?_
  rw [← ET.out]
  rintro e w3 ⟨rfl, hb3⟩
  have hg3 := hg2.below hb3
  have hB3 := hB2.trans (hb3.mono hB2.size)
  clear hB2 hb3 hg2
  go_wp2_with fail
  refine (number_any (κ + 1) c b _ hg3 HC.out).mono ?_
  rw [← EB.out]
  rintro e w4 ⟨rfl, hb4⟩
  have hg4 := hg3.below hb4
  have hB4 := hB3.trans (hb4.mono hB3.size)
  clear hB3 hb4 hg3
  go_wp2_with fail
  refine (text_any (κ + 1) t b _ hg4 HT.out).mono ?_
  rw [← EY.out]
  rintro e w5 ⟨rfl, hb5⟩
  have hg5 := hg4.below hb5
  have hB5 := hB4.trans (hb5.mono hB4.size)
  clear hB4 hb5 hg4
  go_wp2_with fail
  refine (parse_rowN (A ++ T ++ B ++ Y) b _ Y2.out hg5 _ 4 HP.out rfl (by omega)).mono ?_
  rintro e w6 ⟨⟨g1, c1, rfl, r1⟩, hb6⟩
  have hg6 := hg5.below hb6
  have hB6 := hB5.trans (hb6.mono hB5.size)
  clear hB5 hb6 hg5
  go_wp2_with fail
  rw [← EZ.out]
  refine (parse_way (A ++ T ++ B ++ Z) b _ Y3.out hg6 _ HQ.out).mono ?_
  rintro e w7 ⟨⟨q1, q2, q3, rfl⟩, hb7⟩
  have r1 := r1.below hb7
  have hB7 := hB6.trans (hb7.mono hB6.size)
  clear hB6 hb7 hg6
  go_wp2_with fail
  refine (last_any g1 c1 4 κ (four κ a c s t) rfl (by omega) _ r1).mono ?_
  rw [four_last κ a c s t (by have := HK.out; omega), four_lo κ a c s t (by have := HK.out; omega)]
  rintro e w8 ⟨rfl, hb8⟩
  have r1 := r1.below hb8
  have hB8 := hB7.trans (hb8.mono hB7.size)
  clear hB7 hb8
  have big : ∀ O p v, w8.cell? p = some v → (w8.alloc O).cell? p = some v := fun O p v h => (((Below.refl w8.heap.size w8).alloc (Nat.le_refl _) O).cell (World.block_lt_of_cell? w8 _ h)).trans h
  have m0 : ∀ O, (w8.alloc O).cell? ⟨g1, 2, none⟩ = some (.int .u64 a) := fun O => big O _ _ (r1.2 0 (by simp [four])).2.2.1
  have m1 : ∀ O, (w8.alloc O).cell? ⟨g1, 7, none⟩ = some (.string s) := fun O => big O _ _ (r1.2 1 (by simp [four])).2.2.2
  have m2 : ∀ O, (w8.alloc O).cell? ⟨g1, 10, none⟩ = some (.int .u64 c) := fun O => big O _ _ (r1.2 2 (by simp [four])).2.2.1
  have m3 : ∀ O, (w8.alloc O).cell? ⟨g1, 15, none⟩ = some (.string t) := fun O => big O _ _ (r1.2 3 (by simp [four])).2.2.2
  have m4 : ∀ O, (w8.alloc O).cell? ⟨g1, 5, none⟩ = some (.int .i64 2) := fun O => big O _ _ (r1.2 1 (by simp [four])).2.1
  clear big
  have R1 := Lib.hid r1; clear r1
  go_wp2_with fail
  refine (all_any g1 c1 4 (κ + 1) (four κ a c s t) rfl (by omega) _ (R1.out.below ((Below.refl _ _).alloc (Nat.le_refl _) _))).mono ?_
  rw [four_hi κ a c s t (by have := HK.out; omega)]
  rintro e w9 ⟨⟨v, rfl, hv⟩, hb9⟩
  obtain ⟨q4, q5, rfl⟩ := owns_slice hv
  have hB9 := (hB8.alloc hB8.size _).trans (hb9.mono (by have := hB8.size; simp; omega))
  clear hB8 hb9 hv m0 m1 m2 m3 m4
  go_wp2
  go_ret
  exact ⟨rfl, hB9⟩

theorem data_append (a b : ByteArray) : (a ++ b).data.toList = a.data.toList ++ b.data.toList := by simp
theorem lenN (num : Int) (n : Nat) : (numberL num n).length ≤ 20 := by
  have h1 := (vnt_len n).2
  have h2 := (vnt_len (num.toNat * 8)).2
  unfold numberL
  split
  · simp [putL]; omega
  · simp
theorem lenT (num : Int) (s : ByteArray) : (textL num s).length ≤ 20 + s.size := by
  have h1 := (vnt_len s.size).2
  have h2 := (vnt_len (num.toNat * 8 + 2)).2
  unfold textL
  split
  · simp [putL]; omega
  · simp

theorem full (a c nm cu : Nat) (s t : ByteArray) (b : Addr) (w : World) (hg : Gv b w) (ha : a < 2 ^ 64) (hc : c < 2 ^ 64) (hn : nm < 65536) (hcu : cu < 65536) (hs : s.size ≤ 1048576) (ht : t.size ≤ 1048576) :
    Calls Tryd.prog 6 #[.int .u64 a, .int .u64 c, .string s, .string t, .int .u16 nm, .int .u16 cu] w fun e w' => e = .returned (.bool true) ∧ Below w.heap.size w w' := by
  obtain ⟨κ, hκ⟩ : ∃ κ : Int, κ = 1 + nm := ⟨_, rfl⟩
  have k1 : 1 ≤ κ := by omega
  have k2 : κ ≤ 65536 := by omega
  obtain ⟨A, hA⟩ : ∃ A : ByteArray, A = ⟨(numberL κ a).toArray⟩ := ⟨_, rfl⟩
  obtain ⟨T, hT⟩ : ∃ T : ByteArray, T = ⟨(textL κ s).toArray⟩ := ⟨_, rfl⟩
  obtain ⟨B, hB⟩ : ∃ B : ByteArray, B = ⟨(numberL (κ + 1) c).toArray⟩ := ⟨_, rfl⟩
  obtain ⟨Y, hY⟩ : ∃ Y : ByteArray, Y = ⟨(textL (κ + 1) t).toArray⟩ := ⟨_, rfl⟩
  have sA : A.size = (numberL κ a).length := by rw [hA]; rfl
  have sT : T.size = (textL κ s).length := by rw [hT]; rfl
  have sB : B.size = (numberL (κ + 1) c).length := by rw [hB]; rfl
  have sY : Y.size = (textL (κ + 1) t).length := by rw [hY]; rfl
  have lA := lenN κ a
  have lT := lenT κ s
  have lB := lenN (κ + 1) c
  have lY := lenT (κ + 1) t
  have pY := textL_pos (κ + 1) t (by omega) (by omega) (by omega)
  obtain ⟨J, hJ⟩ : ∃ J, cu % Y.size = J := ⟨_, rfl⟩
  have hJY : J < Y.size := by rw [← hJ]; exact Nat.mod_lt _ (by omega)
  obtain ⟨Z, hZ⟩ : ∃ Z : ByteArray, Z = Y.extract 0 J := ⟨_, rfl⟩
  have dA : A.data.toList = numberL κ a := by rw [hA]
  have dT : T.data.toList = textL κ s := by rw [hT]
  have dB : B.data.toList = numberL (κ + 1) c := by rw [hB]
  have dY : Y.data.toList = textL (κ + 1) t := by rw [hY]
  have dZ : Z.data.toList = (textL (κ + 1) t).take J := by rw [hZ, ← dY]; simp [ByteArray.data_extract]
  have sZ : Z.size ≤ Y.size := by
    have : Z.size = Z.data.toList.length := by simp
    rw [this, dZ, List.length_take]; omega
  have hp : parse ((A ++ T ++ B) ++ Y).data.toList = some (four κ a c s t) := by
    rw [data_append, data_append, data_append, dA, dT, dB, dY, List.append_assoc, List.append_assoc]
    exact back_whole κ a c s t ha hc (by omega) (by omega) k1 k2
  have hq : (parse ((A ++ T ++ B) ++ Z).data.toList).isSome = ((J : Int) == 0) := by
    rw [data_append, data_append, data_append, dA, dT, dB, dZ, List.append_assoc, List.append_assoc]
    by_cases h0 : J = 0
    · rw [h0, List.take_zero, back_none κ a c s ha hc (by omega) k1 k2]
      rfl
    · rw [back_cut κ a c s t J ha hc (by omega) (by omega) k1 k2 (by omega) (by omega)]
      simp [h0]
  have nY : ¬ Y = ByteArray.empty := by
    intro h
    have : Y.size = 0 := by rw [h]; rfl
    omega
  exact walk a c nm cu s t A T B Y Z b w hg κ hκ ha hc hn hcu hs ht hA hT hB hY _ J hJ hJY hZ (by omega) (by omega) (by omega) (by omega) (by omega) (by omega) hp hq rfl nY

set_option maxRecDepth 100000 in
theorem contract (H : Type) (enc : TypeId × Value → H) (W : World) (base : Nat) (args : Array Value) (ds gs : List (DataW H)) (before : List MemPlace) (hk' : Rows.uptoSmall H (ds ++ gs) = true)
    (hval : ∀ (j : Nat) t v, Tryd.f6.params[j]? = some t → args[j]? = some v → Value.okWide Tryd.prog W .any base t v)
    (hW : DataW.Whole enc Tryd.prog Tryd.f6.params.toList Rows.wireBackSpec.vars false W args.toList ds gs before) (hL : laidMetH Tryd.prog Rows.wireBackUptoRow.laid W) :
    Calls Tryd.prog 6 args W fun e W' => ∃ v, e = .returned v ∧ Rows.wireBackSpec.post enc Tryd.prog Tryd.f6 false true false false W args v W' := by
  have hW' := hW
  obtain ⟨p, q, hA0, hV, rfl, hfz, hnd⟩ := hW
  have hA : DataW.TrodAll enc Tryd.prog W 0 (fun _ => true) true Tryd.f6.params.toList args.toList ds p := hA0
  rw [Tryd.params6] at hA hval
  obtain ⟨v0, vs0, d0, ds0, p0, q0, hargs, rfl, rfl, h0, r0⟩ := trodAll_cons hA
  obtain ⟨v1, vs1, d1, ds1, p1, q1, rfl, rfl, rfl, h1, r1⟩ := trodAll_cons r0
  obtain ⟨v2, vs2, d2, ds2, p2, q2, rfl, rfl, rfl, h2, r2⟩ := trodAll_cons r1
  obtain ⟨v3, vs3, d3, ds3, p3, q3, rfl, rfl, rfl, h3, r3⟩ := trodAll_cons r2
  obtain ⟨v4, vs4, d4, ds4, p4, q4, rfl, rfl, rfl, h4, r4⟩ := trodAll_cons r3
  obtain ⟨v5, vs5, d5, ds5, p5, q5, rfl, rfl, rfl, h5, r5⟩ := trodAll_cons r4
  obtain ⟨rfl, rfl, rfl⟩ := trodAll_nil r5
  obtain rfl : args = #[v0, v1, v2, v3, v4, v5] := by cases args; simp_all
  obtain ⟨rfl, rfl⟩ := trodVars_none hV
  obtain ⟨x0, rfl, rfl, rfl, wx0⟩ := open_int Tryd.underlying22 (hval 0 22 v0 rfl rfl) h0
  obtain ⟨x1, rfl, rfl, rfl, wx1⟩ := open_int Tryd.underlying22 (hval 1 22 v1 rfl rfl) h1
  obtain ⟨x2, rfl, rfl, rfl, wx2⟩ := open_string Tryd.underlying9 (hval 2 9 v2 rfl rfl) h2
  obtain ⟨x3, rfl, rfl, rfl, wx3⟩ := open_string Tryd.underlying9 (hval 3 9 v3 rfl rfl) h3
  obtain ⟨x4, rfl, rfl, rfl, wx4⟩ := open_int Tryd.underlying56 (hval 4 56 v4 rfl rfl) h4
  obtain ⟨x5, rfl, rfl, rfl, wx5⟩ := open_int Tryd.underlying56 (hval 5 56 v5 rfl rfl) h5
  clear hA0
  simp only [List.append_nil] at hW'
  obtain ⟨b, hg⟩ := gv_of_laid hL
  have bx0 := bounds_u64 wx0
  obtain ⟨n0, rfl⟩ := Int.eq_ofNat_of_zero_le bx0.1
  have bx1 := bounds_u64 wx1
  obtain ⟨n1, rfl⟩ := Int.eq_ofNat_of_zero_le bx1.1
  have bx4 := bounds_u16 wx4
  obtain ⟨n4, rfl⟩ := Int.eq_ofNat_of_zero_le bx4.1
  have bx5 := bounds_u16 wx5
  obtain ⟨n5, rfl⟩ := Int.eq_ofNat_of_zero_le bx5.1
  have hbk := of_decide_eq_true hk'
  simp only [List.append_nil, Rows.uptoBulkAll, Rows.uptoBulk] at hbk
  have hl2 : x2.data.toList.length = x2.size := by simp
  have hl3 : x3.data.toList.length = x3.size := by simp
  refine (full n0 n1 n4 n5 x2 x3 b W hg (by omega) (by omega) (by omega) (by omega) (by omega) (by omega)).mono fun e W' ⟨he, hb⟩ => ?_
  subst he
  exact ⟨_, rfl, post_of_below (pa := []) (pv := []) hW' (fun _ _ _ => trodAll_cons_mk (shut_bool Tryd.underlying4 _) trodAll_mk0) (fun _ _ => trodAll_cons_mk (shut_int Tryd.underlying22 wx0) (trodAll_cons_mk (shut_int Tryd.underlying22 wx1) (trodAll_cons_mk (shut_string Tryd.underlying9 wx2) (trodAll_cons_mk (shut_string Tryd.underlying9 wx3) (trodAll_cons_mk (shut_int Tryd.underlying56 wx4) (trodAll_cons_mk (shut_int Tryd.underlying56 wx5) (trodAll_mk0))))))) (fun _ _ => rfl) rfl
    hb (ok_one (by kernel_rfl) rfl (okWide_bool_mk Tryd.underlying4 _))⟩

theorem reads (os : Os) {H : Type} (enc : TypeId × Value → H) : ∃ places, DataW.whole enc Tryd.prog ((laidWorld os).forCall (fun _ _ => 0) ⟨#[], #[.int .u64 0, .int .u64 0, .string ⟨#[]⟩, .string ⟨#[]⟩, .int .u16 0, .int .u16 0], []⟩).memory Tryd.f6.params.toList Rows.wireBackSpec.vars false (#[.int .u64 0, .int .u64 0, .string ⟨#[]⟩, .string ⟨#[]⟩, .int .u16 0, .int .u16 0] : Array Value).toList 8 = some ([.lit (.int .u64 0), .lit (.int .u64 0), .lit (.string []), .lit (.string []), .lit (.int .u16 0), .lit (.int .u16 0)], [], places) :=
  ⟨[], by kernel_rfl⟩

set_option maxRecDepth 100000 in
theorem lifted (os : Os) (started : os.Started) (H : Type) (enc : TypeId × Value → H) (F : Stop.Interp) :
    ReturnsInHanded {} Tryd.checked os 6 .any ((Rows.OpenSpec.upto Rows.wireBackSpec).preRow enc Tryd.prog Tryd.f6 Rows.wireBackUptoRow.domain false Rows.wireBackUptoRow.laid) (((Rows.OpenSpec.upto Rows.wireBackSpec).at F).post enc Tryd.prog Tryd.f6 false true false false) := by
  obtain ⟨places, hx⟩ := reads os enc
  refine returnsInHanded_of_row (C := Tryd.checked) (s := (Rows.OpenSpec.upto Rows.wireBackSpec)) Tryd.own started (by kernel_rfl) Tryd.func6
    (witness_row_at (enc := enc) (C := Tryd.checked) false (laidWorld os) #[.int .u64 0, .int .u64 0, .string ⟨#[]⟩, .string ⟨#[]⟩, .int .u16 0, .int .u16 0] rfl (by kernel_rfl) (by kernel_rfl) (by kernel_rfl)
      (OpenSpec.preRow_of_cond 8 hx (by kernel_rfl) (fun k hk => by cases hk; kernel_rfl) (by kernel_rfl) (laid_met os _))) ?_
  intro W base args ds gs before hval hW _ hcond _ hL _ _
  exact contract H enc W base args ds gs before (hcond _ rfl) hval hW hL

theorem said : Rows.WireBackUptoSaid :=
  OpenClaim.holds_of_cond 6 Tryd.f6 rfl rfl rfl rfl rfl rfl rfl ⟨rfl, rfl, rfl, rfl, rfl⟩ rfl rfl rfl rfl rfl (by kernel_rfl) Tryd.func6 (by kernel_rfl)
    (of_decide_eq_true (by kernel_rfl)) (by unfold Func.isWrapper; first | (rw [if_pos (by decide +kernel)]; kernel_rfl) | (rw [if_neg (by decide +kernel)]; exact ⟨rfl, rfl⟩))
    (fun os started H enc _ F => by rw [OpenClaim.pre_eq_preRow]; exact lifted os started H enc F)

theorem plain (f : FuncId) (fn : Func) (hf : Tryd.pinned.checked.prog.funcNamed "noria/norialaw01.WireBack" = some f) (hfn : Tryd.pinned.checked.prog.funcs[f]? = some fn) :
    true = Tryd.pinned.checked.prog.looks [] ∧ ∀ (j : Nat) t, fn.params[j]? = some t → Tryd.pinned.checked.prog.wantsStandIn t = false := by
  obtain rfl : f = 6 := Option.some.inj ((show Tryd.prog.funcNamed "noria/norialaw01.WireBack" = some 6 by kernel_rfl).symm.trans hf) |>.symm
  obtain rfl : fn = Tryd.f6 := (Option.some.inj (Tryd.func6.symm.trans hfn)).symm
  refine ⟨by kernel_rfl, fun j t ht => ?_⟩
  rw [Tryd.params6] at ht
  have hm := Array.mem_of_getElem? ht
  simp only [List.mem_toArray, List.mem_cons, List.not_mem_nil, or_false] at hm
  rcases hm with rfl | rfl | rfl | rfl | rfl | rfl
  · exact (show Tryd.prog.wantsStandIn 22 = false by kernel_rfl)
  · exact (show Tryd.prog.wantsStandIn 22 = false by kernel_rfl)
  · exact (show Tryd.prog.wantsStandIn 9 = false by kernel_rfl)
  · exact (show Tryd.prog.wantsStandIn 9 = false by kernel_rfl)
  · exact (show Tryd.prog.wantsStandIn 56 = false by kernel_rfl)
  · exact (show Tryd.prog.wantsStandIn 56 = false by kernel_rfl)

theorem card : Rows.WireBackUptoCardSaid :=
  Claim7.holds_tied_plain_at .later [] _ _ _ _ said (fun _ h => by cases h) (by kernel_rfl) (fun _ h => by cases h) wireBackUpto_row_tie rfl ⟨rfl, rfl⟩ (by kernel_rfl) rfl plain (by kernel_rfl)
end Go.Proofs.YtjgelcneamijdaaDoor.lawBack
