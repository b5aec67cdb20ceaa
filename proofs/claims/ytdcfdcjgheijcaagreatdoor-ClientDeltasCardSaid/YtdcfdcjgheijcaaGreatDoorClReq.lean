/- client: request. -/
import Derived.Test.YtdcfdcjgheijcaaGreatDoorClWant
namespace Go.Proofs.YtdcfdcjgheijcaaGreatDoor
open Go.RowKit Go.Lib

theorem turn_any {x : Cl} {t : Tp} {wa : Bool} {wl S U : List (List UInt8)} {a : Option Addr} {c : Nat} {w : World} (hw : TsAt w (.slice a wl.length c) wl) (ht : t.At w) (hf1 : NmFit wl) (hf2 : NmFit t.l) (hS : turnS x.d ⟨wa, wl⟩ ⟨t.all, t.l⟩ = S) (hU : turnU x.d ⟨wa, wl⟩ ⟨t.all, t.l⟩ = U) (hz1 : (wl.length + 1) * 16 ≤ 140737488355328) (hz2 : (t.l.length + 1) * 16 ≤ 140737488355328) :
    Calls Tryz.prog 93 #[x.v, .agg t.cells, .agg #[.bool wa, .slice a wl.length c]] w (TurnPost S U w) := by
  cases hd : x.d with
  | true =>
    rw [hd] at hS hU
    exact turn_delta hd hw ht hf1 hf2 hS hU hz1 hz2
  | false =>
    rw [hd] at hS hU
    have hU' : ([] : List (List UInt8)) = U := hU
    subst hU'
    have hl := nlist_len ⟨wa, wl⟩
    have hS' : nList ⟨wa, wl⟩ = S := hS
    rw [hS'] at hl
    exact turn_whole hd hw hS' (by simp only at hl; omega)
/-- How many of what is had a first request of Delta tells. -/
def tells (d op : Bool) (want : Ns) (hs : List Hv) : Nat := if d && !op then (hs.filter (fun r => nHas okN want r.x)).length else 0
def ReqPost (k : Nat) (d : Bool) (q : Nat) (S U : List (List UInt8)) (m : Nat) (w : World) (e : Ending) (w' : World) : Prop := ∃ a1 c1 a2 c2 a3 c3, e = .returned (.agg (rq k d q (.slice a1 S.length c1) (.slice a2 U.length c2) (.slice a3 m c3) ⟨#[]⟩)) ∧ TsUp w.heap.size w' a1 S.length c1 S ∧ TsUp w.heap.size w' a2 U.length c2 U ∧ Below w.heap.size w w'
theorem Tryz.resReq : Tryz.f52.results = #[.cell 8 RT] := rfl

set_option maxRecDepth 100000 in
set_option maxHeartbeats 8000000 in
theorem req_any {x : Cl} {k n m : Nat} {t : Tp} {wa D O : Bool} {wl S U : List (List UInt8)} {a b : Option Addr} {c d : Nat} {hs : List Hv} {w : World} (hk : k < 6) (ht : x.get k = t) (hD : x.d = D) (hO : t.op = O) (hw : TsAt w (.slice a wl.length c) wl) (hT : t.At w) (hf1 : NmFit wl) (hf2 : NmFit t.l) (hS : turnS D ⟨wa, wl⟩ ⟨t.all, t.l⟩ = S) (hU : turnU D ⟨wa, wl⟩ ⟨t.all, t.l⟩ = U) (hz1 : (wl.length + 1) * 16 ≤ 140737488355328) (hz2 : (t.l.length + 1) * 16 ≤ 140737488355328)
    (hh : HvAt w b hs) (hl : hs.length = n) (hn : n ≤ 1000000) (hm : tells D O ⟨wa, wl⟩ hs = m) :
    Calls Tryz.prog 52 #[x.v, .int .i64 (k : Int), .agg #[.bool wa, .slice a wl.length c], .slice b n d] w (ReqPost k D (if D then 0 else t.q) S U m w) := by
  obtain ⟨u0, hu0, hb0, p0, z0⟩ := alloc_sized w x.arr CT
  obtain ⟨u1, hu1, hb1, p1, z1⟩ := alloc_sized u0 #[.bool wa, .slice a wl.length c] 26
  obtain ⟨u2, hu2, hb2, p2, z2⟩ := alloc_sized u1 rq0 RT
  obtain ⟨u3, hu3, hb3, p3, z3⟩ := alloc_sized u2 t.cells 69
  obtain ⟨u4, hu4, hb4, p4, z4⟩ := alloc_sized u3 #[.int .i64 (k : Int), .bool D, .int .u64 0, .slice none 0 0, .slice none 0 0, .slice none 0 0, .string ⟨#[]⟩] RT
  have hb24 := hb3.trans (hb4.mono hb3.size)
  have hb14 := hb2.trans (hb24.mono hb2.size)
  have hb04 := hb1.trans (hb14.mono hb1.size)
  have hbw := hb0.trans (hb04.mono hb0.size)
  have HA := x.at hk
  rw [ht] at HA
  have k0 : (0 : Int) ≤ (k : Int) := by omega
  have k6 : (k : Int) < 6 := by omega
  -- the client's cells, and the set's, at the worlds where they are read
  have P0 := (((p0.later hb1).later hb2))
  have c0 := (P0.cell (1 + k * 4)).trans HA.1
  have c1 := (P0.cell (1 + k * 4 + 1)).trans HA.2.1
  have c2 := (P0.cell (1 + k * 4 + 2)).trans HA.2.2.1
  have c3 := (P0.cell (1 + k * 4 + 3)).trans HA.2.2.2
  have cd := ((P0.later hb3).cell 0).trans x.at0
  rw [hD] at cd
  have P4 := p0.later hb04
  have t0 := (p3.later hb4).cell 0
  have t1 := (p3.later hb4).cell 1
  have t2 := (p3.later hb4).cell 2
  have t3 := (p3.later hb4).cell 3
  have s0 := (p1.later hb14).cell 0
  have s1 := (p1.later hb14).cell 1
  simp only [List.getElem?_toArray, List.getElem?_cons_zero, List.getElem?_cons_succ] at t0 t1 t2 t3 s0 s1
  have hw0 := hw
  have hh0 := hh
  have HC := Lib.hid (turn_any (x := x) (S := S) (U := U) (hw.later hbw) (hT.later hbw) hf1 hf2 (by rw [hD]; exact hS) (by rw [hD]; exact hU) hz1 hz2)
  have HU0 := Lib.hid hu0
  have HU1 := Lib.hid hu1
  have HU2 := Lib.hid hu2
  have HU3 := Lib.hid hu3
  have HU4 := Lib.hid hu4
  have HZ := Lib.hid (And.intro z0 (And.intro z1 (And.intro z2 (And.intro z3 z4))))
  have HP := Lib.hid (And.intro P4 (And.intro (p3.later hb4) (And.intro p4 (And.intro (p2.later hb24) (And.intro (p1.later hb14) (And.intro hbw (And.intro (hw.later hbw) (And.intro (hh.later hbw) (And.intro hl (And.intro hm (And.intro hD hO)))))))))))
  clear hu0 hu1 hu2 hu3 hu4 hb0 hb1 hb2 hb3 hb4 hb24 hb14 hb04 hbw HA P0 P4 p0 p1 p2 p3 p4 hw hT hf1 hf2 hS hU hz1 hz2 hh hl hm z0 z1 z2 z3 z4 hk ht hD hO
  cases D with
  | false =>
    go_enter Tryz.func52, Tryz.ntmps52
    go_wp2_with (first | rw [HU0.out] | rw [HU1.out] | rw [HU2.out] | rw [HU3.out] | rw [HU4.out] | (refine wpList_load_cl _ x w.heap.size rfl rfl (by rfl) HP.out.1 ?_; simp only [Act.put, List.setIfInBounds_toArray, List.set_cons_zero, List.set_cons_succ]))
    refine HC.out.mono ?_
    rintro e u5 ⟨a1, c1, a2, c2, rfl, hS5, hU5, hb5⟩
    have p5 := HP.out.2.2.1.later hb5
    obtain ⟨u6, hu6, p6, j6⟩ := set_new p5 3 (.slice a1 S.length c1)
    obtain ⟨u7, hu7, p7, j7⟩ := set_new p6 4 (.slice a2 U.length c2)
    have p7' : Blk u7 u3.heap.size #[.int .i64 (k : Int), .bool false, .int .u64 0, .slice a1 S.length c1, .slice a2 U.length c2, .slice none 0 0, .string ⟨#[]⟩] RT := p7
    have e3 := p5.cell 3
    have f3 := p5.frozen 3
    have e4 := p6.cell 4
    have f4 := p6.frozen 4
    have e2 := p7'.cell 2
    have f2 := p7'.frozen 2
    simp only [List.getElem?_toArray, List.getElem?_cons_zero, List.getElem?_cons_succ] at e3 e2
    have e4' : u6.cell? ⟨u3.heap.size, 4, none⟩ = some (.slice none 0 0) := e4
    clear e4
    have hz := HZ.out
    have hle := hb5.size
    have Q0 := j7.blk (k := w.heap.size) (by omega) (j6.blk (by omega) (HP.out.1.later hb5))
    have Q3 := j7.blk (k := u2.heap.size) (by omega) (j6.blk (by omega) (HP.out.2.1.later hb5))
    have Q2 := j7.blk (k := u1.heap.size) (by omega) (j6.blk (by omega) (HP.out.2.2.2.1.later hb5))
    have Q1 := j7.blk (k := u0.heap.size) (by omega) (j6.blk (by omega) (HP.out.2.2.2.2.1.later hb5))
    have n0 := (Q0.cell 0).trans x.at0
    rw [HP.out.2.2.2.2.2.2.2.2.2.2.1] at n0
    have n2 := Q3.cell 2
    have n3 := Q3.cell 3
    have g0 := Q1.cell 0
    have g1 := Q1.cell 1
    simp only [List.getElem?_toArray, List.getElem?_cons_zero, List.getElem?_cons_succ] at n2 n3 g0 g1
    rw [HP.out.2.2.2.2.2.2.2.2.2.2.2] at n2
    have hbS := (hS5.just (by omega) j6).just (by omega) j7
    have hbU := (hU5.just (by omega) j6).just (by omega) j7
    have hB7 : Below w.heap.size w u7 := ((HP.out.2.2.2.2.2.1.trans (hb5.mono (by omega))).trans (j6.below (by omega))).trans (j7.below (by omega))
    have hB57 : Below u3.heap.size u4 u7 := ((hb5.mono (by omega)).trans (j6.below (by omega))).trans (j7.below (by omega))
    have hsz : u7.heap.size = u5.heap.size := by rw [j7.size, j6.size]
    have hwT : TsAt u7 (.slice a wl.length c) wl := hw0.later hB7
    have hH7 : HvAt u7 b hs := hh0.later hB7
    have HU6 := Lib.hid hu6
    have HU7 := Lib.hid hu7
    have X := Lib.hid (And.intro Q2 (And.intro p7' (And.intro hbS (And.intro hbU (And.intro hB7 (And.intro hsz hle))))))
    clear p5 p6 p7 p7' j6 j7 hu6 hu7 Q0 Q1 Q2 Q3 hS5 hU5 hbS hbU hB7 hb5 hz hle hsz
    dsimp only

    obtain ⟨u8, hu8, p8, j8⟩ := set_new X.out.2.1 2 (.int .u64 (t.q : Int))
    have p8' : Blk u8 u3.heap.size (rq k false t.q (.slice a1 S.length c1) (.slice a2 U.length c2) (.slice none 0 0) ⟨#[]⟩) RT := p8
    have HU8 := Lib.hid hu8
    have hz := HZ.out
    have q8 := j8.blk (k := u1.heap.size) (by omega) X.out.1
    have Y := Lib.hid (And.intro p8' (And.intro q8 j8))
    clear hu8 p8 p8' q8 j8 hz
    go_wp2_with (first | rw [HU6.out] | rw [HU7.out] | rw [HU8.out] | (refine wpList_load_rq _ u3.heap.size rfl rfl (by rfl) Y.out.1 rfl ?_; simp only [Act.put, List.setIfInBounds_toArray, List.set_cons_zero, List.set_cons_succ]) | (refine wpList_store_rq _ _ u1.heap.size rfl rfl (by rfl) (by rfl) Y.out.2.1 rfl (by rfl) (by simp [rq, Value.oneCell']) ?_; intro w9 p9 j9; simp only [Act.put, List.setIfInBounds_toArray, List.set_cons_zero, List.set_cons_succ]))
    have hl := run_load_rq p9 rfl
    have hz := HZ.out
    have hx := X.out
    have hm0 : (0 : Nat) = m := HP.out.2.2.2.2.2.2.2.2.2.1
    subst hm0
    refine bodyPost_ret (v := .agg (rq k false t.q (.slice a1 S.length c1) (.slice a2 U.length c2) (.slice none 0 0) ⟨#[]⟩)) (by simp [results, Tryz.resReq, hl, asAddr]) rfl ⟨a1, c1, a2, c2, none, 0, rfl, ?_, ?_, ?_⟩
    · exact ⟨((hx.2.2.1.just (by omega) Y.out.2.2).just (by omega) j9).ts, hx.2.2.1.up.mono (by omega)⟩
    · exact ⟨((hx.2.2.2.1.just (by omega) Y.out.2.2).just (by omega) j9).ts, hx.2.2.2.1.up.mono (by omega)⟩
    · exact (hx.2.2.2.2.1.trans (Y.out.2.2.below (by omega))).trans (j9.below (by omega))
  | true =>
    go_enter Tryz.func52, Tryz.ntmps52
    go_wp2_with (first | rw [HU0.out] | rw [HU1.out] | rw [HU2.out] | rw [HU3.out] | rw [HU4.out] | (refine wpList_load_cl _ x w.heap.size rfl rfl (by rfl) HP.out.1 ?_; simp only [Act.put, List.setIfInBounds_toArray, List.set_cons_zero, List.set_cons_succ]))
    refine HC.out.mono ?_
    rintro e u5 ⟨a1, c1, a2, c2, rfl, hS5, hU5, hb5⟩
    have p5 := HP.out.2.2.1.later hb5
    obtain ⟨u6, hu6, p6, j6⟩ := set_new p5 3 (.slice a1 S.length c1)
    obtain ⟨u7, hu7, p7, j7⟩ := set_new p6 4 (.slice a2 U.length c2)
    have p7' : Blk u7 u3.heap.size #[.int .i64 (k : Int), .bool true, .int .u64 0, .slice a1 S.length c1, .slice a2 U.length c2, .slice none 0 0, .string ⟨#[]⟩] RT := p7
    have e3 := p5.cell 3
    have f3 := p5.frozen 3
    have e4 := p6.cell 4
    have f4 := p6.frozen 4
    have e2 := p7'.cell 2
    have f2 := p7'.frozen 2
    simp only [List.getElem?_toArray, List.getElem?_cons_zero, List.getElem?_cons_succ] at e3 e2
    have e4' : u6.cell? ⟨u3.heap.size, 4, none⟩ = some (.slice none 0 0) := e4
    clear e4
    have hz := HZ.out
    have hle := hb5.size
    have Q0 := j7.blk (k := w.heap.size) (by omega) (j6.blk (by omega) (HP.out.1.later hb5))
    have Q3 := j7.blk (k := u2.heap.size) (by omega) (j6.blk (by omega) (HP.out.2.1.later hb5))
    have Q2 := j7.blk (k := u1.heap.size) (by omega) (j6.blk (by omega) (HP.out.2.2.2.1.later hb5))
    have Q1 := j7.blk (k := u0.heap.size) (by omega) (j6.blk (by omega) (HP.out.2.2.2.2.1.later hb5))
    have n0 := (Q0.cell 0).trans x.at0
    rw [HP.out.2.2.2.2.2.2.2.2.2.2.1] at n0
    have n2 := Q3.cell 2
    have n3 := Q3.cell 3
    have g0 := Q1.cell 0
    have g1 := Q1.cell 1
    simp only [List.getElem?_toArray, List.getElem?_cons_zero, List.getElem?_cons_succ] at n2 n3 g0 g1
    rw [HP.out.2.2.2.2.2.2.2.2.2.2.2] at n2
    have hbS := (hS5.just (by omega) j6).just (by omega) j7
    have hbU := (hU5.just (by omega) j6).just (by omega) j7
    have hB7 : Below w.heap.size w u7 := ((HP.out.2.2.2.2.2.1.trans (hb5.mono (by omega))).trans (j6.below (by omega))).trans (j7.below (by omega))
    have hB57 : Below u3.heap.size u4 u7 := ((hb5.mono (by omega)).trans (j6.below (by omega))).trans (j7.below (by omega))
    have hsz : u7.heap.size = u5.heap.size := by rw [j7.size, j6.size]
    have hwT : TsAt u7 (.slice a wl.length c) wl := hw0.later hB7
    have hH7 : HvAt u7 b hs := hh0.later hB7
    have HU6 := Lib.hid hu6
    have HU7 := Lib.hid hu7
    have X := Lib.hid (And.intro Q2 (And.intro p7' (And.intro hbS (And.intro hbU (And.intro hB7 (And.intro hsz hle))))))
    clear p5 p6 p7 p7' j6 j7 hu6 hu7 Q0 Q1 Q2 Q3 hS5 hU5 hbS hbU hB7 hb5 hz hle hsz
    dsimp only

    cases O with
    | true =>
      go_wp2_with (first | rw [HU6.out] | rw [HU7.out] | (refine wpList_load_rq _ u3.heap.size rfl rfl (by rfl) X.out.2.1 rfl ?_; simp only [Act.put, List.setIfInBounds_toArray, List.set_cons_zero, List.set_cons_succ]) | (refine wpList_store_rq _ _ u1.heap.size rfl rfl (by rfl) (by rfl) X.out.1 rfl (by rfl) (by simp [rq, Value.oneCell']) ?_; intro w9 p9 j9; simp only [Act.put, List.setIfInBounds_toArray, List.set_cons_zero, List.set_cons_succ]))
      have hl := run_load_rq p9 rfl
      have hz := HZ.out
      have hx := X.out
      have hm0 : (0 : Nat) = m := HP.out.2.2.2.2.2.2.2.2.2.1
      subst hm0
      refine bodyPost_ret (v := .agg (rq k true 0 (.slice a1 S.length c1) (.slice a2 U.length c2) (.slice none 0 0) ⟨#[]⟩)) (by simp [results, Tryz.resReq, hl, asAddr]) rfl ⟨a1, c1, a2, c2, none, 0, rfl, ?_, ?_, ?_⟩
      · exact ⟨(hx.2.2.1.just (by omega) j9).ts, hx.2.2.1.up.mono (by omega)⟩
      · exact ⟨(hx.2.2.2.1.just (by omega) j9).ts, hx.2.2.2.1.up.mono (by omega)⟩
      · exact hx.2.2.2.2.1.trans (j9.below (by omega))
    | false =>
      have hm0 : (hs.filter (fun r => nHas okN ⟨wa, wl⟩ r.x)).length = m := HP.out.2.2.2.2.2.2.2.2.2.1
      have hx := X.out
      have hz := HZ.out
      have hT7 : TsAt u7 (.slice a wl.length c) wl := hwT
      have HK := Lib.hid (wanted_any (w := u7) (sa := wa) (d := d) hT7 hH7 HP.out.2.2.2.2.2.2.2.2.1 hn hm0)
      clear hT7 hm0 hx hz
      go_wp2_with (first | rw [HU6.out] | rw [HU7.out])
      refine HK.out.mono ?_
      rintro e u9 ⟨a3, c3, rfl, hb9⟩
      have p9 := X.out.2.1.later hb9
      obtain ⟨v1, hv1, r1, i1⟩ := set_new p9 5 (.slice a3 m c3)
      have r1' : Blk v1 u3.heap.size #[.int .i64 (k : Int), .bool true, .int .u64 0, .slice a1 S.length c1, .slice a2 U.length c2, .slice a3 m c3, .string ⟨#[]⟩] RT := r1
      have e5 := p9.cell 5
      have f5 := p9.frozen 5
      simp only [List.getElem?_toArray, List.getElem?_cons_zero, List.getElem?_cons_succ] at e5
      have hz := HZ.out
      have r2 := i1.blk (k := u1.heap.size) (by omega) (X.out.1.later hb9)
      have HV1 := Lib.hid hv1
      have Y := Lib.hid (And.intro r1' (And.intro r2 (And.intro i1 hb9)))
      clear hv1 r1 r1' r2 i1 hb9 hz p9
      dsimp only
      go_wp2_with (first | rw [HV1.out] | (refine wpList_load_rq _ u3.heap.size rfl rfl (by rfl) Y.out.1 rfl ?_; simp only [Act.put, List.setIfInBounds_toArray, List.set_cons_zero, List.set_cons_succ]) | (refine wpList_store_rq _ _ u1.heap.size rfl rfl (by rfl) (by rfl) Y.out.2.1 rfl (by rfl) (by simp [rq, Value.oneCell']) ?_; intro w9 p9 j9; simp only [Act.put, List.setIfInBounds_toArray, List.set_cons_zero, List.set_cons_succ]))
      have hl := run_load_rq p9 rfl
      have hz := HZ.out
      have hx := X.out
      have hy := Y.out.2.2.2.size
      refine bodyPost_ret (v := .agg (rq k true 0 (.slice a1 S.length c1) (.slice a2 U.length c2) (.slice a3 m c3) ⟨#[]⟩)) (by simp [results, Tryz.resReq, hl, asAddr]) rfl ⟨a1, c1, a2, c2, a3, c3, rfl, ?_, ?_, ?_⟩
      · exact ⟨(((hx.2.2.1.later Y.out.2.2.2).just (by omega) Y.out.2.2.1).just (by omega) j9).ts, hx.2.2.1.up.mono (by omega)⟩
      · exact ⟨(((hx.2.2.2.1.later Y.out.2.2.2).just (by omega) Y.out.2.2.1).just (by omega) j9).ts, hx.2.2.2.1.up.mono (by omega)⟩
      · exact ((hx.2.2.2.2.1.trans (Y.out.2.2.2.mono hx.2.2.2.2.1.size)).trans (Y.out.2.2.1.below (by omega))).trans (j9.below (by omega))
end Go.Proofs.YtdcfdcjgheijcaaGreatDoor
