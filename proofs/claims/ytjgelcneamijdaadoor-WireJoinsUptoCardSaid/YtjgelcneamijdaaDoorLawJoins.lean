/-
  WireJoins: what is parsed is parsed, too, with something that is parsed behind it, or ahead of it. For texts whose bulk is at most 1048576 (the second form), and any two numbers.
-/
import Derived.Test.YtjgelcneamijdaaDoorCards
import Derived.Test.YtjgelcneamijdaaDoorTie
import Derived.Test.YtjgelcneamijdaaDoorLaid
import Derived.Test.YtjgelcneamijdaaDoorRows2
namespace Go.Proofs.YtjgelcneamijdaaDoor.lawJoins
open Go.ChangeShapes Go.WideShapes Go.ChangeAt Go.RowKit
open Go.WideMaps Go.WideElems
open Go.ChangeMaps (open_string shut_string)

def f3 (a : Nat) : Fd := ⟨3, 0, a, []⟩
def f4 (a : Nat) : Fd := ⟨4, 0, a, []⟩

set_option maxRecDepth 100000 in
set_option maxHeartbeats 2000000 in
theorem walk_no (s X Y : ByteArray) (a c : Nat) (b : Addr) (w : World) (hg : Gv b w) (ha : a < 2 ^ 64) (hc : c < 2 ^ 64) (hs : s.size ≤ 1099511627000) (hX : X = ⟨(numberL 3 a).toArray⟩) (hY : Y = ⟨(numberL 4 c).toArray⟩) (hx : X.size ≤ 100) (hy : Y.size ≤ 100)
    (hp : parse s.data.toList = none) (hq : parse ((X ++ Y) ++ s).data.toList = none) :
    Calls Tryd.prog 7 #[.string s, .int .u64 a, .int .u64 c] w fun e w' => e = .returned (.bool true) ∧ Below w.heap.size w w' := by
  have HA := Lib.hid ha; clear ha
  have HC := Lib.hid hc; clear hc
  have HX := Lib.hid hX; clear hX
  have HY := Lib.hid hY; clear hY
  have HP := Lib.hid hp; clear hp
  have HQ := Lib.hid hq; clear hq
  have z1 : (X ++ Y).size = X.size + Y.size := ByteArray.size_append
  have z2 : (s ++ (X ++ Y)).size = s.size + (X ++ Y).size := ByteArray.size_append
  have z3 : ((X ++ Y) ++ s).size = (X ++ Y).size + s.size := ByteArray.size_append
  have y1 : (X ++ Y).size ≤ 200 := by omega
  have Y2 := Lib.hid (show (s ++ (X ++ Y)).size ≤ 1099511627776 by omega)
  have Y3 := Lib.hid (show ((X ++ Y) ++ s).size ≤ 1099511627776 by omega)
  have Y4 := Lib.hid (show s.size ≤ 1099511627776 by omega)
  clear z1 z2 z3
  go_enter Tryd.func7, Tryd.ntmps7
  go_wp2_with fail
  refine (examples_any b _ hg).mono ?_
  rintro e w1 ⟨rfl, hb1⟩
  have hg1 := hg.below hb1
  go_wp2_with fail
  refine (parse_not s b _ Y4.out hg1 HP.out).mono ?_
  rintro e w2 ⟨rfl, hb2⟩
  have hg2 := hg1.below hb2
  have hB2 := hb1.trans (hb2.mono hb1.size)
  clear hb1 hb2 hg1
  go_wp2_with fail
  refine (number_any 3 a b _ hg2 HA.out).mono ?_
  rw [← HX.out]
  rintro e w3 ⟨rfl, hb3⟩
  have hg3 := hg2.below hb3
  have hB3 := hB2.trans (hb3.mono hB2.size)
  clear hB2 hb3 hg2
  go_wp2_with fail
  refine (number_any 4 c b _ hg3 HC.out).mono ?_
  rw [← HY.out]
  rintro e w4 ⟨rfl, hb4⟩
  have hg4 := hg3.below hb4
  have hB4 := hB3.trans (hb4.mono hB3.size)
  clear hB3 hb4 hg3
  go_wp2_with fail
  refine (parse_some_way (s ++ (X ++ Y)) b _ Y2.out hg4).mono ?_
  rintro e w5 ⟨⟨q1, q2, q3, q4, rfl⟩, hb5⟩
  have hg5 := hg4.below hb5
  have hB5 := hB4.trans (hb5.mono hB4.size)
  clear hB4 hb5 hg4
  go_wp2_with fail
  refine (parse_not (X ++ Y ++ s) b _ Y3.out hg5 HQ.out).mono ?_
  rintro e w6 ⟨rfl, hb6⟩
  have hB6 := hB5.trans (hb6.mono hB5.size)
  clear hB5 hb6 hg5
  go_wp2
  go_ret
  exact ⟨rfl, hB6⟩

set_option maxRecDepth 100000 in
set_option maxHeartbeats 2000000 in
theorem walk_yes (s X Y : ByteArray) (a c : Nat) (b : Addr) (w : World) (hg : Gv b w) (ha : a < 2 ^ 64) (hc : c < 2 ^ 64) (hs : s.size ≤ 1099511627000) (hX : X = ⟨(numberL 3 a).toArray⟩) (hY : Y = ⟨(numberL 4 c).toArray⟩) (hx : X.size ≤ 100) (hy : Y.size ≤ 100)
    (fs : List Fd) (L : Nat) (hL : fs.length = L) (hL0 : 0 < L) (hLb : L ≤ 1099511627776) (hp : parse s.data.toList = some fs) (hm : parse (s ++ (X ++ Y)).data.toList = some (fs ++ [f3 a, f4 c])) (hq : parse ((X ++ Y) ++ s).data.toList = some (f3 a :: f4 c :: fs)) :
    Calls Tryd.prog 7 #[.string s, .int .u64 a, .int .u64 c] w fun e w' => e = .returned (.bool true) ∧ Below w.heap.size w w' := by
  have HA := Lib.hid ha; clear ha
  have HC := Lib.hid hc; clear hc
  have HX := Lib.hid hX; clear hX
  have HY := Lib.hid hY; clear hY
  have HP := Lib.hid hp; clear hp
  have HQ := Lib.hid hq; clear hq
  have HM := Lib.hid hm; clear hm
  have HL := Lib.hid hL; clear hL
  have z1 : (X ++ Y).size = X.size + Y.size := ByteArray.size_append
  have z2 : (s ++ (X ++ Y)).size = s.size + (X ++ Y).size := ByteArray.size_append
  have z3 : ((X ++ Y) ++ s).size = (X ++ Y).size + s.size := ByteArray.size_append
  have y1 : (X ++ Y).size ≤ 200 := by omega
  have Y2 := Lib.hid (show (s ++ (X ++ Y)).size ≤ 1099511627776 by omega)
  have Y3 := Lib.hid (show ((X ++ Y) ++ s).size ≤ 1099511627776 by omega)
  have Y4 := Lib.hid (show s.size ≤ 1099511627776 by omega)
  clear z1 z2 z3
  go_enter Tryd.func7, Tryd.ntmps7
  go_wp2_with fail
  refine (examples_any b _ hg).mono ?_
  rintro e w1 ⟨rfl, hb1⟩
  have hg1 := hg.below hb1
  go_wp2_with fail
  refine (parse_rowN s b _ Y4.out hg1 fs L HP.out HL.out hL0).mono ?_
  rintro e w2 ⟨⟨g1, c1, rfl, r1⟩, hb2⟩
  have hg2 := hg1.below hb2
  have hB2 := hb1.trans (hb2.mono hb1.size)
  clear hb1 hb2 hg1
  go_wp2_with fail
  refine (number_any 3 a b _ hg2 HA.out).mono ?_
  rw [← HX.out]
  rintro e w3 ⟨rfl, hb3⟩
  have hg3 := hg2.below hb3
  have r1 := r1.below hb3
  have hB3 := hB2.trans (hb3.mono hB2.size)
  clear hB2 hb3 hg2
  go_wp2_with fail
  refine (number_any 4 c b _ hg3 HC.out).mono ?_
  rw [← HY.out]
  rintro e w4 ⟨rfl, hb4⟩
  have hg4 := hg3.below hb4
  have r1 := r1.below hb4
  have hB4 := hB3.trans (hb4.mono hB3.size)
  clear hB3 hb4 hg3
  go_wp2_with fail
  refine (parse_rowN (s ++ (X ++ Y)) b _ Y2.out hg4 _ (L + 2) HM.out (by have := HL.out; simp; omega) (by omega)).mono ?_
  rintro e w5 ⟨⟨g2, c2, rfl, r2⟩, hb5⟩
  have r1 := r1.below hb5
  have hg5 := hg4.below hb5
  have hB5 := hB4.trans (hb5.mono hB4.size)
  clear hB4 hb5 hg4
  go_wp2_with fail
  refine (parse_rowN (X ++ Y ++ s) b _ Y3.out hg5 _ (L + 2) HQ.out (by have := HL.out; simp; omega) (by omega)).mono ?_
  rintro e w6 ⟨⟨g3, c3, rfl, r3⟩, hb6⟩
  have r1 := r1.below hb6
  have r2 := r2.below hb6
  have hB6 := hB5.trans (hb6.mono hB5.size)
  clear hB5 hb6 hg5
  go_wp2
  go_loopw [15] (fun i wr => ∃ (k : Nat), i = .int .i64 k ∧ k ≤ L ∧ RowAt wr g1 fs ∧ RowAt wr g2 (fs ++ [f3 a, f4 c]) ∧ RowAt wr g3 (f3 a :: f4 c :: fs) ∧ Below w.heap.size w wr) (fun i _ => L - (intOf i).toNat)
  case atStart => exact ⟨0, rfl, by omega, r1, r2, r3, hB6⟩
  case round =>
    clear r1 r2 r3 hB6
    obtain ⟨k, rfl, hk, r1, r2, r3, hB⟩ := hrel
    have R1 := Lib.hid r1
    have R2 := Lib.hid r2
    have R3 := Lib.hid r3
    have HB := Lib.hid hB
    clear r1 r2 r3 hB
    by_cases hlt : k < L
    · have hlf : k < fs.length := by have := HL.out; omega
      obtain ⟨p0, p1, p2, p3⟩ := R1.out.2 k hlf
      obtain ⟨m0, m1, m2, m3⟩ := R2.out.2 k (by simp; omega)
      obtain ⟨n0, n1, n2, n3⟩ := R3.out.2 (k + 2) (by simp; omega)
      rw [List.getElem_append_left hlf] at m0 m1 m2 m3
      simp only [List.getElem_cons_succ] at n0 n1 n2 n3
      generalize fs[k] = f at p0 p1 p2 p3 m0 m1 m2 m3 n0 n1 n2 n3
      have hnq := neq_same (f.num : Int) (f.kind : Int) (f.n : Int) ⟨f.s.toArray⟩
      have hgd := guard_fd
      have e1 : IntKind.i64.wrap ((L : Int) + 2) = (L : Int) + 2 := IntWalk.i64_in _ (by omega)
      have e2 : IntKind.i64.wrap ((k : Int) + 2) = (k : Int) + 2 := IntWalk.i64_in _ (by omega)
      have e3 : ((k : Int) + 2).toNat = k + 2 := by omega
      have b0 : (0 : Int) ≤ (k : Int) := by omega
      have b1 : (k : Int) < (L : Int) := by omega
      have b2 : (k : Int) < (L : Int) + 2 := by omega
      have b3 : (0 : Int) ≤ (k : Int) + 2 := by omega
      have b4 : (k : Int) + 2 < (L : Int) + 2 := by omega
      clear hlf
      go_wp2
      go_quiet (fail)
      go_wp2
      exact ⟨⟨k + 1, by go_num, by omega, R1.out.below (below_drewN' _), R2.out.below (below_drewN' _), R3.out.below (below_drewN' _), below_drewN HB.out _⟩, by simp [intOf]; omega⟩
    · obtain rfl : k = L := by omega
      have hkf : fs.length = k := HL.out
      obtain ⟨m0, m1, m2, m3⟩ := R2.out.2 k (by simp; omega)
      obtain ⟨n0, n1, n2, n3⟩ := R3.out.2 1 (by simp)
      have hmk : (fs ++ [f3 a, f4 c])[k]'(by simp; omega) = f3 a := by
        rw [List.getElem_append_right (by omega)]
        simp [hkf]
      rw [hmk] at m2
      simp only [List.getElem_cons_succ, List.getElem_cons_zero, Nat.one_mul, Nat.reduceAdd] at n2
      have m2' : wr.cell? ⟨g2, k * 4 + 2, none⟩ = some (.int .u64 a) := m2
      have n2' : wr.cell? ⟨g3, 6, none⟩ = some (.int .u64 c) := n2
      clear m0 m1 m2 m3 n0 n1 n2 n3 hmk hkf
      have e0 : (0 : Int) < (k : Int) + 2 := by omega
      go_wp2
      go_ret
      exact ⟨rfl, HB.out⟩

/- Nothing in the first text. -/

set_option maxRecDepth 100000 in
set_option maxHeartbeats 2000000 in
theorem walk_nil (s X Y : ByteArray) (a c : Nat) (b : Addr) (w : World) (hg : Gv b w) (ha : a < 2 ^ 64) (hc : c < 2 ^ 64) (hs : s.size ≤ 1099511627000) (hX : X = ⟨(numberL 3 a).toArray⟩) (hY : Y = ⟨(numberL 4 c).toArray⟩) (hx : X.size ≤ 100) (hy : Y.size ≤ 100)
    (hp : parse s.data.toList = some []) (hm : parse (s ++ (X ++ Y)).data.toList = some [f3 a, f4 c]) (hq : parse ((X ++ Y) ++ s).data.toList = some [f3 a, f4 c]) :
    Calls Tryd.prog 7 #[.string s, .int .u64 a, .int .u64 c] w fun e w' => e = .returned (.bool true) ∧ Below w.heap.size w w' := by
  have HA := Lib.hid ha; clear ha
  have HC := Lib.hid hc; clear hc
  have HX := Lib.hid hX; clear hX
  have HY := Lib.hid hY; clear hY
  have HP := Lib.hid hp; clear hp
  have HQ := Lib.hid hq; clear hq
  have HM := Lib.hid hm; clear hm
  have z1 : (X ++ Y).size = X.size + Y.size := ByteArray.size_append
  have z2 : (s ++ (X ++ Y)).size = s.size + (X ++ Y).size := ByteArray.size_append
  have z3 : ((X ++ Y) ++ s).size = (X ++ Y).size + s.size := ByteArray.size_append
  have y1 : (X ++ Y).size ≤ 200 := by omega
  have Y2 := Lib.hid (show (s ++ (X ++ Y)).size ≤ 1099511627776 by omega)
  have Y3 := Lib.hid (show ((X ++ Y) ++ s).size ≤ 1099511627776 by omega)
  have Y4 := Lib.hid (show s.size ≤ 1099511627776 by omega)
  clear z1 z2 z3
  go_enter Tryd.func7, Tryd.ntmps7
  go_wp2_with fail
  refine (examples_any b _ hg).mono ?_
  rintro e w1 ⟨rfl, hb1⟩
  have hg1 := hg.below hb1
  go_wp2_with fail
  refine (parse_row0 s b _ Y4.out hg1 HP.out).mono ?_
  rintro e w2 ⟨⟨q1, q2, rfl⟩, hb2⟩
  have hg2 := hg1.below hb2
  have hB2 := hb1.trans (hb2.mono hb1.size)
  clear hb1 hb2 hg1
  go_wp2_with fail
  refine (number_any 3 a b _ hg2 HA.out).mono ?_
  rw [← HX.out]
  rintro e w3 ⟨rfl, hb3⟩
  have hg3 := hg2.below hb3
  have hB3 := hB2.trans (hb3.mono hB2.size)
  clear hB2 hb3 hg2
  go_wp2_with fail
  refine (number_any 4 c b _ hg3 HC.out).mono ?_
  rw [← HY.out]
  rintro e w4 ⟨rfl, hb4⟩
  have hg4 := hg3.below hb4
  have hB4 := hB3.trans (hb4.mono hB3.size)
  clear hB3 hb4 hg3
  go_wp2_with fail
  refine (parse_rowN (s ++ (X ++ Y)) b _ Y2.out hg4 _ 2 HM.out rfl (by omega)).mono ?_
  rintro e w5 ⟨⟨g2, c2, rfl, r2⟩, hb5⟩
  have hg5 := hg4.below hb5
  have hB5 := hB4.trans (hb5.mono hB4.size)
  clear hB4 hb5 hg4
  go_wp2_with fail
  refine (parse_rowN (X ++ Y ++ s) b _ Y3.out hg5 _ 2 HQ.out rfl (by omega)).mono ?_
  rintro e w6 ⟨⟨g3, c3, rfl, r3⟩, hb6⟩
  have r2 := r2.below hb6
  have hB6 := hB5.trans (hb6.mono hB5.size)
  clear hB5 hb6 hg5
  have m2 : w6.cell? ⟨g2, 2, none⟩ = some (.int .u64 a) := (r2.2 0 (by simp)).2.2.1
  have n2 : w6.cell? ⟨g3, 6, none⟩ = some (.int .u64 c) := (r3.2 1 (by simp)).2.2.1
  clear r2 r3
  go_wp2
  refine wp_loop_rounds 1 ?_
  rw [rounds_succ]
  go_wp2
  go_ret
  exact ⟨rfl, hB6⟩


theorem data_append (a b : ByteArray) : (a ++ b).data.toList = a.data.toList ++ b.data.toList := by simp
theorem walk (s : ByteArray) (a c : Nat) (b : Addr) (w : World) (hg : Gv b w) (ha : a < 2 ^ 64) (hc : c < 2 ^ 64) (hs : s.size ≤ 1048576) :
    Calls Tryd.prog 7 #[.string s, .int .u64 a, .int .u64 c] w fun e w' => e = .returned (.bool true) ∧ Below w.heap.size w w' := by
  obtain ⟨X, hX⟩ : ∃ X : ByteArray, X = ⟨(numberL 3 a).toArray⟩ := ⟨_, rfl⟩
  obtain ⟨Y, hY⟩ : ∃ Y : ByteArray, Y = ⟨(numberL 4 c).toArray⟩ := ⟨_, rfl⟩
  have lenN : ∀ (num : Int) (n : Nat), (numberL num n).length ≤ 20 := fun num n => by
    have h1 := (vnt_len n).2
    have h2 := (vnt_len (num.toNat * 8)).2
    unfold numberL
    split
    · simp [putL]; omega
    · simp
  have hx : X.size ≤ 100 := by
    have : X.size = (numberL 3 a).length := by rw [hX]; rfl
    have := lenN 3 a; omega
  have hy : Y.size ≤ 100 := by
    have : Y.size = (numberL 4 c).length := by rw [hY]; rfl
    have := lenN 4 c; omega
  have dX : X.data.toList = numberL 3 a := by rw [hX]
  have dY : Y.data.toList = numberL 4 c := by rw [hY]
  have dXY : (X ++ Y).data.toList = numberL 3 a ++ numberL 4 c := by rw [data_append, dX, dY]
  have dA : (s ++ (X ++ Y)).data.toList = s.data.toList ++ (numberL 3 a ++ numberL 4 c) := by rw [data_append, dXY]
  have dB : ((X ++ Y) ++ s).data.toList = numberL 3 a ++ (numberL 4 c ++ s.data.toList) := by rw [data_append, dXY, List.append_assoc]
  have two : parse (numberL 3 a ++ numberL 4 c) = some [f3 a, f4 c] := by
    have h4 := parse_number 4 c [] hc (by omega) (by omega)
    rw [List.append_nil, parse_nil] at h4
    rw [parse_number 3 a _ ha (by omega) (by omega), h4]
    rfl
  have pB : parse ((X ++ Y) ++ s).data.toList = (parse s.data.toList).map (fun r => f3 a :: f4 c :: r) := by
    rw [dB, parse_number 3 a _ ha (by omega) (by omega), parse_number 4 c _ hc (by omega) (by omega)]
    cases parse s.data.toList <;> rfl
  cases hp : parse s.data.toList with
  | none => exact walk_no s X Y a c b w hg ha hc (by omega) hX hY hx hy hp (by rw [pB, hp]; rfl)
  | some fs =>
    have pA : parse (s ++ (X ++ Y)).data.toList = some (fs ++ [f3 a, f4 c]) := by
      rw [dA, parse_append _ (Nat.le_refl _) hp, two]
      rfl
    have pq : parse ((X ++ Y) ++ s).data.toList = some (f3 a :: f4 c :: fs) := by rw [pB, hp]; rfl
    cases fs with
    | nil => exact walk_nil s X Y a c b w hg ha hc (by omega) hX hY hx hy hp pA pq
    | cons f fs =>
      have hlen : (f :: fs).length ≤ s.size := by
        have := parse_len _ (Nat.le_refl _) hp
        simpa using this
      exact walk_yes s X Y a c b w hg ha hc (by omega) hX hY hx hy (f :: fs) _ rfl (by simp) (by omega) hp pA pq

set_option maxRecDepth 100000 in
theorem contract (H : Type) (enc : TypeId × Value → H) (W : World) (base : Nat) (args : Array Value) (ds gs : List (DataW H)) (before : List MemPlace) (hk' : Rows.uptoSmall H (ds ++ gs) = true)
    (hval : ∀ (j : Nat) t v, Tryd.f7.params[j]? = some t → args[j]? = some v → Value.okWide Tryd.prog W .any base t v)
    (hW : DataW.Whole enc Tryd.prog Tryd.f7.params.toList Rows.wireJoinsSpec.vars false W args.toList ds gs before) (hL : laidMetH Tryd.prog Rows.wireJoinsUptoRow.laid W) :
    Calls Tryd.prog 7 args W fun e W' => ∃ v, e = .returned v ∧ Rows.wireJoinsSpec.post enc Tryd.prog Tryd.f7 false true false false W args v W' := by
  have hW' := hW
  obtain ⟨p, q, hA0, hV, rfl, hfz, hnd⟩ := hW
  have hA : DataW.TrodAll enc Tryd.prog W 0 (fun _ => true) true Tryd.f7.params.toList args.toList ds p := hA0
  rw [Tryd.params7] at hA hval
  obtain ⟨v0, vs0, d0, ds0, p0, q0, hargs, rfl, rfl, h0, r0⟩ := trodAll_cons hA
  obtain ⟨v1, vs1, d1, ds1, p1, q1, rfl, rfl, rfl, h1, r1⟩ := trodAll_cons r0
  obtain ⟨v2, vs2, d2, ds2, p2, q2, rfl, rfl, rfl, h2, r2⟩ := trodAll_cons r1
  obtain ⟨rfl, rfl, rfl⟩ := trodAll_nil r2
  obtain rfl : args = #[v0, v1, v2] := by cases args; simp_all
  obtain ⟨rfl, rfl⟩ := trodVars_none hV
  obtain ⟨x0, rfl, rfl, rfl, wx0⟩ := open_string Tryd.underlying9 (hval 0 9 v0 rfl rfl) h0
  obtain ⟨x1, rfl, rfl, rfl, wx1⟩ := open_int Tryd.underlying22 (hval 1 22 v1 rfl rfl) h1
  obtain ⟨x2, rfl, rfl, rfl, wx2⟩ := open_int Tryd.underlying22 (hval 2 22 v2 rfl rfl) h2
  clear hA0
  simp only [List.append_nil] at hW'
  obtain ⟨b, hg⟩ := gv_of_laid hL
  have bx1 := bounds_u64 wx1
  obtain ⟨n1, rfl⟩ := Int.eq_ofNat_of_zero_le bx1.1
  have bx2 := bounds_u64 wx2
  obtain ⟨n2, rfl⟩ := Int.eq_ofNat_of_zero_le bx2.1
  have hbk := of_decide_eq_true hk'
  simp only [List.append_nil, Rows.uptoBulkAll, Rows.uptoBulk] at hbk
  have hl0 : x0.data.toList.length = x0.size := by simp
  refine (walk x0 n1 n2 b W hg (by omega) (by omega) (by omega)).mono fun e W' ⟨he, hb⟩ => ?_
  subst he
  exact ⟨_, rfl, post_of_below (pa := []) (pv := []) hW' (fun _ _ _ => trodAll_cons_mk (shut_bool Tryd.underlying4 _) trodAll_mk0) (fun _ _ => trodAll_cons_mk (shut_string Tryd.underlying9 wx0) (trodAll_cons_mk (shut_int Tryd.underlying22 wx1) (trodAll_cons_mk (shut_int Tryd.underlying22 wx2) (trodAll_mk0)))) (fun _ _ => rfl) rfl
    hb (ok_one (by kernel_rfl) rfl (okWide_bool_mk Tryd.underlying4 _))⟩

theorem reads (os : Os) {H : Type} (enc : TypeId × Value → H) : ∃ places, DataW.whole enc Tryd.prog ((laidWorld os).forCall (fun _ _ => 0) ⟨#[], #[.string ⟨#[]⟩, .int .u64 0, .int .u64 0], []⟩).memory Tryd.f7.params.toList Rows.wireJoinsSpec.vars false (#[.string ⟨#[]⟩, .int .u64 0, .int .u64 0] : Array Value).toList 8 = some ([.lit (.string []), .lit (.int .u64 0), .lit (.int .u64 0)], [], places) :=
  ⟨[], by kernel_rfl⟩

set_option maxRecDepth 100000 in
theorem lifted (os : Os) (started : os.Started) (H : Type) (enc : TypeId × Value → H) (F : Stop.Interp) :
    ReturnsInHanded {} Tryd.checked os 7 .any ((Rows.OpenSpec.upto Rows.wireJoinsSpec).preRow enc Tryd.prog Tryd.f7 Rows.wireJoinsUptoRow.domain false Rows.wireJoinsUptoRow.laid) (((Rows.OpenSpec.upto Rows.wireJoinsSpec).at F).post enc Tryd.prog Tryd.f7 false true false false) := by
  obtain ⟨places, hx⟩ := reads os enc
  refine returnsInHanded_of_row (C := Tryd.checked) (s := (Rows.OpenSpec.upto Rows.wireJoinsSpec)) Tryd.own started (by kernel_rfl) Tryd.func7
    (witness_row_at (enc := enc) (C := Tryd.checked) false (laidWorld os) #[.string ⟨#[]⟩, .int .u64 0, .int .u64 0] rfl (by kernel_rfl) (by kernel_rfl) (by kernel_rfl)
      (OpenSpec.preRow_of_cond 8 hx (by kernel_rfl) (fun k hk => by cases hk; kernel_rfl) (by kernel_rfl) (laid_met os _))) ?_
  intro W base args ds gs before hval hW _ hcond _ hL _ _
  exact contract H enc W base args ds gs before (hcond _ rfl) hval hW hL

theorem said : Rows.WireJoinsUptoSaid :=
  OpenClaim.holds_of_cond 7 Tryd.f7 rfl rfl rfl rfl rfl rfl rfl ⟨rfl, rfl, rfl, rfl, rfl⟩ rfl rfl rfl rfl rfl (by kernel_rfl) Tryd.func7 (by kernel_rfl)
    (of_decide_eq_true (by kernel_rfl)) (by unfold Func.isWrapper; first | (rw [if_pos (by decide +kernel)]; kernel_rfl) | (rw [if_neg (by decide +kernel)]; exact ⟨rfl, rfl⟩))
    (fun os started H enc _ F => by rw [OpenClaim.pre_eq_preRow]; exact lifted os started H enc F)

theorem plain (f : FuncId) (fn : Func) (hf : Tryd.pinned.checked.prog.funcNamed "noria/norialaw01.WireJoins" = some f) (hfn : Tryd.pinned.checked.prog.funcs[f]? = some fn) :
    true = Tryd.pinned.checked.prog.looks [] ∧ ∀ (j : Nat) t, fn.params[j]? = some t → Tryd.pinned.checked.prog.wantsStandIn t = false := by
  obtain rfl : f = 7 := Option.some.inj ((show Tryd.prog.funcNamed "noria/norialaw01.WireJoins" = some 7 by kernel_rfl).symm.trans hf) |>.symm
  obtain rfl : fn = Tryd.f7 := (Option.some.inj (Tryd.func7.symm.trans hfn)).symm
  refine ⟨by kernel_rfl, fun j t ht => ?_⟩
  rw [Tryd.params7] at ht
  have hm := Array.mem_of_getElem? ht
  simp only [List.mem_toArray, List.mem_cons, List.not_mem_nil, or_false] at hm
  rcases hm with rfl | rfl | rfl
  · exact (show Tryd.prog.wantsStandIn 9 = false by kernel_rfl)
  · exact (show Tryd.prog.wantsStandIn 22 = false by kernel_rfl)
  · exact (show Tryd.prog.wantsStandIn 22 = false by kernel_rfl)

theorem card : Rows.WireJoinsUptoCardSaid :=
  Claim7.holds_tied_plain_at .later [] _ _ _ _ said (fun _ h => by cases h) (by kernel_rfl) (fun _ h => by cases h) wireJoinsUpto_row_tie rfl ⟨rfl, rfl⟩ (by kernel_rfl) rfl plain (by kernel_rfl)
end Go.Proofs.YtjgelcneamijdaaDoor.lawJoins
