/- client: checkAsk. -/
import Derived.Test.YtdcfdcjgheijcaaGreatDoorClReq
import Derived.Test.YtdcfdcjgheijcaaGreatDoorNmSame
namespace Go.Proofs.YtdcfdcjgheijcaaGreatDoor
open Go.RowKit Go.Lib

abbrev sSame : ByteArray := ⟨#[110, 111, 116, 104, 105, 110, 103, 32, 101, 108, 115, 101, 32, 105, 115, 32, 119, 97, 110, 116, 101, 100]⟩
abbrev sMany : ByteArray := ⟨#[116, 111, 111, 32, 109, 97, 110, 121, 32, 110, 97, 109, 101, 115]⟩
/-- What stands in the way of asking. -/
def askErr (k : Nat) (B V : Bool) : Value := if B then fU k 5 sSame else if V then fU k 4 sMany else .nilIface

set_option maxRecDepth 100000 in
set_option maxHeartbeats 8000000 in
theorem chkAsk_any {x : Cl} {k n : Nat} {t : Tp} {wa O B V : Bool} {wl L S U : List (List UInt8)} {a b : Option Addr} {c d : Nat} {w : World} (h1 : 1 ≤ k) (h5 : k ≤ 5) (ht : x.get k = t) (hO : t.op = O) (hw : TsAt w (.slice a wl.length c) wl) (hT : t.At w) (hf1 : NmFit wl) (hf2 : NmFit t.l)
    (hL : nList ⟨wa, wl⟩ = L) (hS : turnS x.d ⟨wa, wl⟩ ⟨t.all, t.l⟩ = S) (hU : turnU x.d ⟨wa, wl⟩ ⟨t.all, t.l⟩ = U) (hz1 : (wl.length + 1) * 16 ≤ 140737488355328) (hz2 : (t.l.length + 1) * 16 ≤ 140737488355328) (hB : (O && nSame ⟨t.all, t.l⟩ ⟨wa, wl⟩) = B)
    (hV : ([(L.length : Int), (S.length : Int), (U.length : Int), (n : Int)].any fun y => decide (64 < y)) = V) :
    Calls Tryz.prog 50 #[x.v, .int .i64 (k : Int), .agg #[.bool wa, .slice a wl.length c], .slice b n d] w fun e w' => e = .returned (askErr k B V) ∧ Below w.heap.size w w' := by
  obtain ⟨u0, hu0, hb0, p0, z0⟩ := alloc_sized w x.arr CT
  obtain ⟨u1, hu1, hb1, p1, z1⟩ := alloc_sized u0 #[.bool wa, .slice a wl.length c] 26
  obtain ⟨u2, hu2, hb2, p2, z2⟩ := alloc_sized u1 #[.bool t.all, .slice t.a t.l.length t.c, .bool O, .int .u64 (t.q : Int)] 69
  have hb02 := hb1.trans (hb2.mono hb1.size)
  have hbw := hb0.trans (hb02.mono hb0.size)
  have HA := x.at (k := k) (by omega)
  rw [ht, hO] at HA
  have k0 : (0 : Int) ≤ (k : Int) := by omega
  have k6 : (k : Int) < 6 := by omega
  have P1 := p0.later hb1
  have c0 := (P1.cell (1 + k * 4)).trans HA.1
  have c1 := (P1.cell (1 + k * 4 + 1)).trans HA.2.1
  have c2 := (P1.cell (1 + k * 4 + 2)).trans HA.2.2.1
  have c3 := (P1.cell (1 + k * 4 + 3)).trans HA.2.2.2
  have t0 := p2.cell 0
  have t1 := p2.cell 1
  have t2 := p2.cell 2
  have t3 := p2.cell 3
  have s0 := (p1.later hb2).cell 0
  have s1 := (p1.later hb2).cell 1
  simp only [List.getElem?_toArray, List.getElem?_cons_zero, List.getElem?_cons_succ] at t0 t1 t2 t3 s0 s1
  have p2' : Blk u2 u1.heap.size t.cells 69 := by rw [← hO] at p2; exact p2
  have hLl := nlist_len ⟨wa, wl⟩
  rw [hL] at hLl
  simp only at hLl
  have HTC := Lib.hid (show t.cells = #[.bool t.all, .slice t.a t.l.length t.c, .bool O, .int .u64 (t.q : Int)] by rw [← hO])
  have HC := Lib.hid (And.intro hw (And.intro hT (And.intro hf1 (And.intro hf2 (And.intro hS (And.intro hU (And.intro hz1 (And.intro hz2 (And.intro hL (show L.length * 16 ≤ 140737488355328 by omega))))))))))
  have HU0 := Lib.hid hu0
  have HU1 := Lib.hid hu1
  have HU2 := Lib.hid hu2
  have HP := Lib.hid (And.intro (p0.later hb02) (And.intro p2' (And.intro (p1.later hb2) hbw)))
  have HT := Lib.hid (And.intro h1 h5)
  have HV := Lib.hid hV
  clear hu0 hu1 hu2 hb0 hb1 hb2 hb02 hbw HA P1 p0 p1 p2 p2' hw hT hf1 hf2 hL hS hU hz1 hz2 z0 z1 z2 h1 h5 ht hO hLl hV
  cases O with
  | false =>
    go_enter Tryz.func50, Tryz.ntmps50
    go_wp2_with (first | rw [HU0.out] | rw [HU1.out])
    refine (type_is (B := true) (by simp [HT.out.1, HT.out.2])).mono ?_
    rintro e w' ⟨rfl, rfl⟩
    go_wp2_with (first | rw [HU0.out] | rw [HU1.out] | rw [HU2.out] | (refine wpList_load_cl _ x w.heap.size rfl rfl (by rfl) HP.out.1 ?_; simp only [Act.put, List.setIfInBounds_toArray, List.set_cons_zero, List.set_cons_succ]))
    have htn := (turn_any (x := x) (S := S) (U := U) (HC.out.1.later HP.out.2.2.2) (HC.out.2.1.later HP.out.2.2.2) HC.out.2.2.1 HC.out.2.2.2.1 HC.out.2.2.2.2.1 HC.out.2.2.2.2.2.1 HC.out.2.2.2.2.2.2.1 HC.out.2.2.2.2.2.2.2.1)
    rw [HTC.out] at htn
    refine htn.mono ?_
    clear htn
    rintro e u5 ⟨a1, c1, a2, c2, rfl, hS5, hU5, hb5⟩
    have hbw5 := HP.out.2.2.2.trans (hb5.mono HP.out.2.2.2.size)
    have q1 := HP.out.2.2.1.later hb5
    have g0 := q1.cell 0
    have g1 := q1.cell 1
    simp only [List.getElem?_toArray, List.getElem?_cons_zero, List.getElem?_cons_succ] at g0 g1
    have X := Lib.hid (And.intro hbw5 (HC.out.1.later hbw5))
    clear hS5 hU5 hb5 hbw5 q1
    dsimp only
    go_wp2_with fail
    refine (list_up X.out.2 HC.out.2.2.2.2.2.2.2.2.1 HC.out.2.2.2.2.2.2.2.2.2).mono ?_
    rintro e u6 ⟨a3, c3, rfl, -, hb6⟩
    obtain ⟨u7, hu7, hb7, p7, z7⟩ := alloc_sized u6 #[.int .i64 (L.length : Int), .int .i64 (S.length : Int), .int .i64 (U.length : Int), .int .i64 (n : Int)] 3
    have HE := Lib.hid (exceeds_any (w := u7) (most := 64) (n := 4) (c := 4) (B := V) (ints_block (l := [(L.length : Int), (S.length : Int), (U.length : Int), (n : Int)]) p7 rfl) rfl (by omega) HV.out)
    have HU7 := Lib.hid hu7
    have Y := Lib.hid ((X.out.1.trans (hb6.mono X.out.1.size)).trans (hb7.mono (Nat.le_trans X.out.1.size hb6.size)))
    clear hb6 hu7 hb7 p7 z7
    dsimp only
    go_wp2_with (rw [HU7.out])
    refine HE.out.mono ?_
    rintro e w' ⟨rfl, rfl⟩
    obtain rfl : false = B := by rw [← hB]; rfl
    clear HE HU7 HV
    cases V with
    | true =>
      dsimp only
      go_wp2_with fail
      go_ret
      exact ⟨rfl, Y.out⟩
    | false =>
      dsimp only
      go_wp2_with fail
      go_ret
      exact ⟨rfl, Y.out⟩
  | true =>
    go_enter Tryz.func50, Tryz.ntmps50
    go_wp2_with (first | rw [HU0.out] | rw [HU1.out])
    refine (type_is (B := true) (by simp [HT.out.1, HT.out.2])).mono ?_
    rintro e w' ⟨rfl, rfl⟩
    go_wp2_with (first | rw [HU0.out] | rw [HU1.out] | rw [HU2.out])
    refine (same_any (aa := t.all) (al := t.l) (ba := wa) (bl := wl) (HC.out.2.1.later HP.out.2.2.2) (HC.out.1.later HP.out.2.2.2) HC.out.2.2.2.1 HC.out.2.2.1 rfl).mono ?_
    rintro e u3 ⟨rfl, hb3⟩
    have hB' : nSame ⟨t.all, t.l⟩ ⟨wa, wl⟩ = B := by rw [← hB]; rfl
    rw [hB']
    have Q0 := HP.out.1.later hb3
    have Q2 := HP.out.2.1.later hb3
    have Q1 := HP.out.2.2.1.later hb3
    have hb03 := HP.out.2.2.2.trans (hb3.mono HP.out.2.2.2.size)
    have m0 := Q2.cell 0
    have m1 := Q2.cell 1
    have m2 := Q2.cell 2
    have m3 := Q2.cell 3
    have l0 := Q1.cell 0
    have l1 := Q1.cell 1
    simp only [List.getElem?_toArray, List.getElem?_cons_zero, List.getElem?_cons_succ] at m0 m1 m2 m3 l0 l1
    have HQ := Lib.hid (And.intro Q0 (And.intro Q2 (And.intro Q1 hb03)))
    have HBB := Lib.hid hB'
    clear Q0 Q1 Q2 hb03 hb3 hB hB'
    cases B with
    | true =>
      dsimp only
      go_wp2_with fail
      go_ret
      exact ⟨rfl, HQ.out.2.2.2⟩
    | false =>
      dsimp only
      go_wp2_with (first | (refine wpList_load_cl _ x w.heap.size rfl rfl (by rfl) HQ.out.1 ?_; simp only [Act.put, List.setIfInBounds_toArray, List.set_cons_zero, List.set_cons_succ]))
      have htn := (turn_any (x := x) (S := S) (U := U) (HC.out.1.later HQ.out.2.2.2) (HC.out.2.1.later HQ.out.2.2.2) HC.out.2.2.1 HC.out.2.2.2.1 HC.out.2.2.2.2.1 HC.out.2.2.2.2.2.1 HC.out.2.2.2.2.2.2.1 HC.out.2.2.2.2.2.2.2.1)
      refine htn.mono ?_
      clear htn
      rintro e u5 ⟨a1, c1, a2, c2, rfl, hS5, hU5, hb5⟩
      have hbw5 := HQ.out.2.2.2.trans (hb5.mono HQ.out.2.2.2.size)
      have q1 := HQ.out.2.2.1.later hb5
      have g0 := q1.cell 0
      have g1 := q1.cell 1
      simp only [List.getElem?_toArray, List.getElem?_cons_zero, List.getElem?_cons_succ] at g0 g1
      have X := Lib.hid (And.intro hbw5 (HC.out.1.later hbw5))
      clear hS5 hU5 hb5 hbw5 q1
      dsimp only
      go_wp2_with fail
      refine (list_up X.out.2 HC.out.2.2.2.2.2.2.2.2.1 HC.out.2.2.2.2.2.2.2.2.2).mono ?_
      rintro e u6 ⟨a3, c3, rfl, -, hb6⟩
      obtain ⟨u7, hu7, hb7, p7, z7⟩ := alloc_sized u6 #[.int .i64 (L.length : Int), .int .i64 (S.length : Int), .int .i64 (U.length : Int), .int .i64 (n : Int)] 3
      have HE := Lib.hid (exceeds_any (w := u7) (most := 64) (n := 4) (c := 4) (B := V) (ints_block (l := [(L.length : Int), (S.length : Int), (U.length : Int), (n : Int)]) p7 rfl) rfl (by omega) HV.out)
      have HU7 := Lib.hid hu7
      have Y := Lib.hid ((X.out.1.trans (hb6.mono X.out.1.size)).trans (hb7.mono (Nat.le_trans X.out.1.size hb6.size)))
      clear hb6 hu7 hb7 p7 z7
      dsimp only
      go_wp2_with (rw [HU7.out])
      refine HE.out.mono ?_
      rintro e w' ⟨rfl, rfl⟩
      clear HE HU7 HV
      cases V with
      | true =>
        dsimp only
        go_wp2_with fail
        go_ret
        exact ⟨rfl, Y.out⟩
      | false =>
        dsimp only
        go_wp2_with fail
        go_ret
        exact ⟨rfl, Y.out⟩
end Go.Proofs.YtdcfdcjgheijcaaGreatDoor
