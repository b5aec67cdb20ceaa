/- message: readReq of a request for all, and of what is of another Kind (tools/msreqr_gen.py). -/
import Derived.Test.YtbflbgnafdbngaaDoorMsReqI
namespace Go.Proofs.YtbflbgnafdbngaaDoor
open Go.RowKit Go.Lib

def rqL : List UInt8 := [1, 8, 1, 34, 1, 42]
theorem rqL_parse : parse (rqL.drop 1) = some [fd1, fd4] := by
  show parseF 5 [8, 1, 34, 1, 42] = _
  rfl
theorem rq_bk7 {W : World} {B R : Nat} {c : Array Value} {t : TypeId} (h : Bk W B c t) (hne : B ≠ R) (v0 v1 v2 v3 v4 v5 v6 : Value) : Bk (((((((W.setCell ⟨R, 0, none⟩ v0).setCell ⟨R, 1, none⟩ v1).setCell ⟨R, 2, none⟩ v2).setCell ⟨R, 3, none⟩ v3).setCell ⟨R, 4, none⟩ v4).setCell ⟨R, 5, none⟩ v5).setCell ⟨R, 6, none⟩ v6) B c t := by
  unfold Bk
  rw [Below.heap_setCell _ _ _ _ hne, Below.heap_setCell _ _ _ _ hne, Below.heap_setCell _ _ _ _ hne, Below.heap_setCell _ _ _ _ hne, Below.heap_setCell _ _ _ _ hne, Below.heap_setCell _ _ _ _ hne, Below.heap_setCell _ _ _ _ hne]
  exact h
theorem gn_st7 {W : World} {R : Nat} {b : Addr} (h : Gn b W) (hR : 0 < R) (v0 v1 v2 v3 v4 v5 v6 : Value) : Gn b (((((((W.setCell ⟨R, 0, none⟩ v0).setCell ⟨R, 1, none⟩ v1).setCell ⟨R, 2, none⟩ v2).setCell ⟨R, 3, none⟩ v3).setCell ⟨R, 4, none⟩ v4).setCell ⟨R, 5, none⟩ v5).setCell ⟨R, 6, none⟩ v6) :=
  gn_base h hR ((((((((Below.refl R W).setCell (Nat.le_refl _) _).setCell (Nat.le_refl _) _).setCell (Nat.le_refl _) _).setCell (Nat.le_refl _) _).setCell (Nat.le_refl _) _).setCell (Nat.le_refl _) _).setCell (Nat.le_refl _) _)
theorem Kpt.trans {R : Nat} {w w1 w' : World} (h1 : Kpt R w w1) (h : Kpt R w1 w') : Kpt R w w' where
  os := h.os.trans h1.os
  tape := h.tape.trans h1.tape
  output := h.output.trans h1.output
  size := Nat.le_trans h1.size h.size
  block := fun k hk hne => (h.block k (Nat.lt_of_lt_of_le hk h1.size) hne).trans (h1.block k hk hne)
theorem StarAt.kpt {w w' : World} {B R : Nat} (h : StarAt w B) (hk : Kpt R w w') (hne : B ≠ R) : StarAt w' B :=
  ⟨(World.cell?_of_block (a := ⟨B, 0, none⟩) (hk.block B h.2 hne)).trans h.1, Nat.lt_of_lt_of_le h.2 hk.size⟩
theorem star_st7 {W : World} {B R : Nat} (h : StarAt W B) (hne : B ≠ R) (v0 v1 v2 v3 v4 v5 v6 : Value) : StarAt (((((((W.setCell ⟨R, 0, none⟩ v0).setCell ⟨R, 1, none⟩ v1).setCell ⟨R, 2, none⟩ v2).setCell ⟨R, 3, none⟩ v3).setCell ⟨R, 4, none⟩ v4).setCell ⟨R, 5, none⟩ v5).setCell ⟨R, 6, none⟩ v6) B := by
  exact StarAt.kpt h (((((((kpt_set1 W R 0 v0).trans (kpt_set1 _ R 1 v1)).trans (kpt_set1 _ R 2 v2)).trans (kpt_set1 _ R 3 v3)).trans (kpt_set1 _ R 4 v4)).trans (kpt_set1 _ R 5 v5)).trans (kpt_set1 _ R 6 v6)) hne
theorem chkReq_star1 (SB c : Nat) (b : Addr) (w : World) (hg : Gn b w) (hs : StarAt w SB) :
    Calls Tryd.prog 46 #[.agg (rq 1 (.slice (some ⟨SB, 0, none⟩) 1 c))] w fun e w' => e = .returned .nilIface ∧ Below w.heap.size w w' := by
  refine (chkReq_star 1 SB c b w hg hs).mono ?_
  rintro e w' ⟨rfl, hb⟩
  exact ⟨rfl, hb⟩
theorem one_cells {b : Addr} {W : World} {B : Nat} {t : TypeId} {o : Option (List Int)} {V : Value} (hv : oV b o = V) (h : Bk W B #[V, .nilIface, .nilIface] t) : ∀ (k : Nat) o', [o, none, none][k]? = some o' → W.cell? ⟨B, k, none⟩ = some (oV b o') := by
  subst hv
  intro k o' ho
  rw [h.cell k]
  match k, ho with
  | 0, ho => simp at ho; subst ho; rfl
  | 1, ho => simp at ho; subst ho; rfl
  | 2, ho => simp at ho; subst ho; rfl
  | k + 3, ho => simp at ho
theorem reqC_ok {v1 v2 v3 v4 v5 v6 v7 : Value} (k : Int) (h : (reqC v1 v2 v3 v4 v5 v6 v7 k).isSome = true) : iOk k := by
  unfold reqC at h
  by_cases e7 : k = 7
  · subst e7; exact ⟨by decide, by decide⟩
  rw [kset_other e7] at h
  by_cases e6 : k = 6
  · subst e6; exact ⟨by decide, by decide⟩
  rw [kset_other e6] at h
  by_cases e5 : k = 5
  · subst e5; exact ⟨by decide, by decide⟩
  rw [kset_other e5] at h
  by_cases e4 : k = 4
  · subst e4; exact ⟨by decide, by decide⟩
  rw [kset_other e4] at h
  by_cases e3 : k = 3
  · subst e3; exact ⟨by decide, by decide⟩
  rw [kset_other e3] at h
  by_cases e2 : k = 2
  · subst e2; exact ⟨by decide, by decide⟩
  rw [kset_other e2] at h
  by_cases e1 : k = 1
  · subst e1; exact ⟨by decide, by decide⟩
  rw [kset_other e1] at h
  cases h
set_option maxRecDepth 100000 in
set_option maxHeartbeats 8000000 in
theorem readReq_two (s : ByteArray) (Q : Nat × Option (List Int)) (g b : Addr) (w : World) (hg : Gv g w) (hn : Gn b w) (hs : s.size ≤ 1099511627776)
    (hN : kindL s.data.toList = 1 → ∀ fs, parse (s.data.toList.drop 1) = some fs → ∀ (k : Nat) st f, fs[k]? = some f → takes cntStep 0 fs = takes cntStep st (fs.drop k) → RqN st f) (hQ : msgP cntStep 0 1 s.data.toList = Q) (hQ2 : Q = (2, none) ∨ Q = (0, some [])) :
    Calls Tryd.prog 22 #[.string s] w fun e w' => ((Q.2 = none → ∃ B c, e = .returned (.tuple #[.agg (rq 1 (.slice (some ⟨B, 0, none⟩) 1 c)), .nilIface]) ∧ StarAt w' B ∧ w.heap.size ≤ B) ∧ (Q.2 = some [] → e = .returned (.tuple #[.agg (rq 0 (.slice none 0 0)), .iface 149 (.pointer (some b))]))) ∧ Below w.heap.size w w' := by
  have HN := Lib.hid hN
  have HQ := Lib.hid hQ
  have HQ2 := Lib.hid hQ2
  clear hN hQ hQ2
  have hmm := @run_makeMap Tryd.prog
  obtain ⟨w1, hw1, hb1, p1, z1⟩ := alloc_sized w (rq 0 (.slice none 0 0)) 41
  obtain ⟨w2, hw2, hb2, p2, z2⟩ := alloc_sized w1 (rq 0 (.slice none 0 0)) 41
  obtain ⟨w3, hw3, hb3, p3, z3⟩ := alloc_sized w2 #[.int .u64 0] 22
  obtain ⟨w4, hw4, hb4, p4, z4⟩ := alloc_sized w3 #[.int .u64 0] 22
  have hm0 := kmap_new (fun k : Int => Value.int .i64 k) iOk w4
  obtain ⟨w5, hw5, hb5⟩ : ∃ w5, w4.alloc (.map #[] 0) = w5 ∧ Below w4.heap.size w4 w5 := ⟨_, rfl, (Below.refl _ _).alloc (Nat.le_refl _) _⟩
  have HW := Lib.hid (show ((((w.alloc (.cells (rq 0 (.slice none 0 0)) 41)).alloc (.cells (rq 0 (.slice none 0 0)) 41)).alloc (.cells #[.int .u64 0] 22)).alloc (.cells #[.int .u64 0] 22)).alloc (.map #[] 0) = w5 by rw [hw1, hw2, hw3, hw4, hw5])
  rw [hw5, show w4.heap.size = w.heap.size + 4 by omega] at hm0
  rw [z1] at p2
  rw [show w2.heap.size = w.heap.size + 2 by omega] at p3
  rw [show w3.heap.size = w.heap.size + 3 by omega] at p4
  have fr := (((p1.later hb2).later hb3).later hb4).later hb5
  have ft := ((p2.later hb3).later hb4).later hb5
  have fk := (p3.later hb4).later hb5
  have fo := p4.later hb5
  have fm : Tks w5 (w.heap.size + 4) (fun _ => none) := hm0
  have fb : Below w.heap.size w w5 := (((hb1.trans (hb2.mono (by omega))).trans (hb3.mono (by omega))).trans (hb4.mono (by omega))).trans (hb5.mono (by omega))
  have HG := Lib.hid (And.intro hg hn)
  have HSZ := Lib.hid hs
  clear hw1 hb1 p1 z1 hw2 hb2 p2 z2 hw3 hb3 p3 z3 hw4 hb4 p4 z4 hm0 hw5 hb5 hg hn hs
  go_enter Tryd.func22, Tryd.ntmps22
  go_wp2_with fail
  rw [HW.out]
  clear HW
  refine (number_new ⟨w.heap.size + 2, 0, none⟩ w5).mono ?_
  rintro e wa1 ⟨v1, rfl, ft1, hb⟩
  replace fr := fr.later hb
  replace ft := ft.later hb
  replace fk := fk.later hb
  replace fo := fo.later hb
  have hm1 : Tks wa1 (w.heap.size + 4) (fun _ => none) := Tks.later fm hb
  replace fb := fb.trans (hb.mono fb.size)
  obtain ⟨wb1, hrun1, hm2, hgr⟩ := tks_set hm1 1 ⟨by decide, by decide⟩ v1
  replace fr := fr.grown hm1 hgr
  replace ft := ft.grown hm1 hgr
  replace fk := fk.grown hm1 hgr
  replace fo := fo.grown hm1 hgr
  replace ft1 := ft1.grown hm1 hgr
  have hrl := fr.lt
  replace fb := fb.grown hgr fb.size (fun j hj => by cases hj; omega)
  clear fm hb hm1 hgr hrl
  have fm := hm2
  clear hm2
  go_wp2_with fail
  refine (number_new ⟨w.heap.size + 3, 0, none⟩ wb1).mono ?_
  rintro e wa2 ⟨v2, rfl, -, hb⟩
  replace fr := fr.later hb
  replace ft := ft.later hb
  replace fk := fk.later hb
  replace fo := fo.later hb
  replace ft1 := ft1.later hb
  have hm1 : Tks wa2 (w.heap.size + 4) (kset (fun _ => none) 1 v1) := Tks.later fm hb
  replace fb := fb.trans (hb.mono fb.size)
  obtain ⟨wb2, hrun2, hm2, hgr⟩ := tks_set hm1 2 ⟨by decide, by decide⟩ v2
  replace fr := fr.grown hm1 hgr
  replace ft := ft.grown hm1 hgr
  replace fk := fk.grown hm1 hgr
  replace fo := fo.grown hm1 hgr
  replace ft1 := ft1.grown hm1 hgr
  have hrl := fr.lt
  replace fb := fb.grown hgr fb.size (fun j hj => by cases hj; omega)
  clear fm hb hm1 hgr hrl
  have fm := hm2
  clear hm2
  go_wp2_with fail
  refine (number_new ⟨w.heap.size + 1, 2, none⟩ wb2).mono ?_
  rintro e wa3 ⟨v3, rfl, -, hb⟩
  replace fr := fr.later hb
  replace ft := ft.later hb
  replace fk := fk.later hb
  replace fo := fo.later hb
  replace ft1 := ft1.later hb
  have hm1 : Tks wa3 (w.heap.size + 4) (kset (kset (fun _ => none) 1 v1) 2 v2) := Tks.later fm hb
  replace fb := fb.trans (hb.mono fb.size)
  obtain ⟨wb3, hrun3, hm2, hgr⟩ := tks_set hm1 3 ⟨by decide, by decide⟩ v3
  replace fr := fr.grown hm1 hgr
  replace ft := ft.grown hm1 hgr
  replace fk := fk.grown hm1 hgr
  replace fo := fo.grown hm1 hgr
  replace ft1 := ft1.grown hm1 hgr
  have hrl := fr.lt
  replace fb := fb.grown hgr fb.size (fun j hj => by cases hj; omega)
  clear fm hb hm1 hgr hrl
  have fm := hm2
  clear hm2
  go_wp2_with fail
  refine (each_new ⟨w.heap.size + 1, 3, none⟩ wb3).mono ?_
  rintro e wa4 ⟨v4, rfl, ft4, hb⟩
  replace fr := fr.later hb
  replace ft := ft.later hb
  replace fk := fk.later hb
  replace fo := fo.later hb
  replace ft1 := ft1.later hb
  have hm1 : Tks wa4 (w.heap.size + 4) (kset (kset (kset (fun _ => none) 1 v1) 2 v2) 3 v3) := Tks.later fm hb
  replace fb := fb.trans (hb.mono fb.size)
  obtain ⟨wb4, hrun4, hm2, hgr⟩ := tks_set hm1 4 ⟨by decide, by decide⟩ v4
  replace fr := fr.grown hm1 hgr
  replace ft := ft.grown hm1 hgr
  replace fk := fk.grown hm1 hgr
  replace fo := fo.grown hm1 hgr
  replace ft1 := ft1.grown hm1 hgr
  replace ft4 := ft4.grown hm1 hgr
  have hrl := fr.lt
  replace fb := fb.grown hgr fb.size (fun j hj => by cases hj; omega)
  clear fm hb hm1 hgr hrl
  have fm := hm2
  clear hm2
  go_wp2_with fail
  refine (each_new ⟨w.heap.size + 1, 4, none⟩ wb4).mono ?_
  rintro e wa5 ⟨v5, rfl, -, hb⟩
  replace fr := fr.later hb
  replace ft := ft.later hb
  replace fk := fk.later hb
  replace fo := fo.later hb
  replace ft1 := ft1.later hb
  replace ft4 := ft4.later hb
  have hm1 : Tks wa5 (w.heap.size + 4) (kset (kset (kset (kset (fun _ => none) 1 v1) 2 v2) 3 v3) 4 v4) := Tks.later fm hb
  replace fb := fb.trans (hb.mono fb.size)
  obtain ⟨wb5, hrun5, hm2, hgr⟩ := tks_set hm1 5 ⟨by decide, by decide⟩ v5
  replace fr := fr.grown hm1 hgr
  replace ft := ft.grown hm1 hgr
  replace fk := fk.grown hm1 hgr
  replace fo := fo.grown hm1 hgr
  replace ft1 := ft1.grown hm1 hgr
  replace ft4 := ft4.grown hm1 hgr
  have hrl := fr.lt
  replace fb := fb.grown hgr fb.size (fun j hj => by cases hj; omega)
  clear fm hb hm1 hgr hrl
  have fm := hm2
  clear hm2
  go_wp2_with fail
  refine (eachH_new ⟨w.heap.size + 1, 5, none⟩ wb5).mono ?_
  rintro e wa6 ⟨v6, rfl, hb⟩
  replace fr := fr.later hb
  replace ft := ft.later hb
  replace fk := fk.later hb
  replace fo := fo.later hb
  replace ft1 := ft1.later hb
  replace ft4 := ft4.later hb
  have hm1 : Tks wa6 (w.heap.size + 4) (kset (kset (kset (kset (kset (fun _ => none) 1 v1) 2 v2) 3 v3) 4 v4) 5 v5) := Tks.later fm hb
  replace fb := fb.trans (hb.mono fb.size)
  obtain ⟨wb6, hrun6, hm2, hgr⟩ := tks_set hm1 6 ⟨by decide, by decide⟩ v6
  replace fr := fr.grown hm1 hgr
  replace ft := ft.grown hm1 hgr
  replace fk := fk.grown hm1 hgr
  replace fo := fo.grown hm1 hgr
  replace ft1 := ft1.grown hm1 hgr
  replace ft4 := ft4.grown hm1 hgr
  have hrl := fr.lt
  replace fb := fb.grown hgr fb.size (fun j hj => by cases hj; omega)
  clear fm hb hm1 hgr hrl
  have fm := hm2
  clear hm2
  go_wp2_with fail
  refine (text_new ⟨w.heap.size + 1, 6, none⟩ wb6).mono ?_
  rintro e wa7 ⟨v7, rfl, -, hb⟩
  replace fr := fr.later hb
  replace ft := ft.later hb
  replace fk := fk.later hb
  replace fo := fo.later hb
  replace ft1 := ft1.later hb
  replace ft4 := ft4.later hb
  have hm1 : Tks wa7 (w.heap.size + 4) (kset (kset (kset (kset (kset (kset (fun _ => none) 1 v1) 2 v2) 3 v3) 4 v4) 5 v5) 6 v6) := Tks.later fm hb
  replace fb := fb.trans (hb.mono fb.size)
  obtain ⟨wb7, hrun7, hm2, hgr⟩ := tks_set hm1 7 ⟨by decide, by decide⟩ v7
  replace fr := fr.grown hm1 hgr
  replace ft := ft.grown hm1 hgr
  replace fk := fk.grown hm1 hgr
  replace fo := fo.grown hm1 hgr
  replace ft1 := ft1.grown hm1 hgr
  replace ft4 := ft4.grown hm1 hgr
  have hrl := fr.lt
  replace fb := fb.grown hgr fb.size (fun j hj => by cases hj; omega)
  clear fm hb hm1 hgr hrl
  have fm := hm2
  clear hm2
  have hi : RqI w.heap.size v1 v2 v3 v4 v5 v6 v7 g b 0 wb7 := ⟨fr, ⟨_, ft, rfl⟩, fk, fo, ft1, ft4, fm, gv_base HG.out.1 HG.out.1.2 fb, gn_base HG.out.2 HG.out.2.2 fb⟩
  have hrl := fm.lt
  have HM := Lib.hid (takeMsg_on RqN (RqI w.heap.size v1 v2 v3 v4 v5 v6 v7 g b) cntStep (reqC v1 v2 v3 v4 v5 v6 v7) (w.heap.size + 4) w.heap.size wb7.heap.size g b (fun st w5 w6 h hb => h.later hb) (fun st w5 h => ⟨h.m, h.gv, h.gn⟩) (fun st w5 f h hp => rq_takes w.heap.size wb7.heap.size v1 v2 v3 v4 v5 v6 v7 g b hrl HG.out.1.2 HG.out.2.2 st w5 f h hp) (fun k h => reqC_ok k h) 0 1 (by decide) s wb7 hi HSZ.out (Nat.le_refl _) fb.size (fun l fs h => fd_num h) HN.out)
  have HB := Lib.hid fb
  clear fr ft fk fo ft1 ft4 fm fb hi hrl
  go_wp2_with fail
  refine HM.out.mono ?_
  rintro e wm ⟨st, o, ho, rfl, hi, hb⟩
  rw [HQ.out] at ho
  have fI := hi
  have fB : Base w wm := HB.out.trans hb
  clear hi hb HM HB hmm hrun1 hrun2 hrun3 hrun4 hrun5 hrun6 hrun7
  obtain ⟨V0, hV0⟩ : ∃ V, oV b o = V := ⟨_, rfl⟩
  have hc0 := oV_one b o
  rw [hV0] at hc0 ⊢
  simp only [Value.cells] at hc0
  have hk5 : rqKd st ≤ 5 := by unfold rqKd; split <;> omega
  have N1 := Lib.hid (fun W hW => atMost_any 1 (rqKd st) 5 b W hW)
  rw [decide_eq_true hk5, show oV b (needO 1 true) = .nilIface from rfl] at N1
  have N2 := Lib.hid (fun W hW => atMost_any 2 0 1 b W hW)
  rw [show oV b (needO 2 (decide ((0 : Nat) ≤ 1))) = .nilIface from rfl] at N2
  have HV := Lib.hid hV0
  have HO := Lib.hid ho
  clear hV0 hk5 ho
  have HFB := Lib.hid fB
  have fB : Base wm wm := Below.refl _ _
  go_wp2_with fail
  obtain ⟨w101, hw102, hb103⟩ := drew_new wm
  have q104 := fB.later hb103
  have q105 := fI.later hb103
  refine wp_region_held_drew (S := (fun w' => w'.cell? ⟨w.heap.size + 2, 0, none⟩ = some (.int .u64 (rqKd st : Int)) ∧ w'.cell? ⟨w.heap.size + 3, 0, none⟩ = some (.int .u64 0) ∧ True)) (by kernel_rfl) (by rw [hw102]; exact ⟨q105.k.cell 0, q105.o.cell 0, trivial⟩) (fun hHeld => ?_)
  rw [hw102] at hHeld ⊢
  refine wpAnyH_take (i := 0) (oi := { dst := some 25, op := Op.move (Operand.tmp 7), type := 50, pos := "read.go:33", after := #[], guard := none }) (v := ?v1001) rfl (by kernel_rfl) (by kernel_rfl) (by kernel_rfl) (fun _ _ _ h => h) (Or.inl ⟨by rfl, ?hy1001⟩) (by assumption) ?rest1001
  case hy1001 => (intro w1 hSw; (try dsimp only at hSw); obtain ⟨h0, h1, -⟩ := hSw; go_simp; try with_reducible rfl)
  try simp only [Act.put, List.setIfInBounds_toArray, List.set_cons_zero, List.set_cons_succ]
  refine wpAnyH_take (i := 1) (oi := { dst := some 26, op := Op.load 22 (Operand.tmp 5), type := 22, pos := "read.go:33", after := #[], guard := none }) (v := ?v1002) rfl (by kernel_rfl) (by kernel_rfl) (by kernel_rfl) (fun _ _ _ h => h) (Or.inl ⟨by rfl, ?hy1002⟩) (by assumption) ?rest1002
  case hy1002 => (intro w1 hSw; (try dsimp only at hSw); obtain ⟨h0, h1, -⟩ := hSw; go_simp; try with_reducible rfl)
  try simp only [Act.put, List.setIfInBounds_toArray, List.set_cons_zero, List.set_cons_succ]
  refine wpAnyH_take (i := 3) (oi := { dst := some 28, op := Op.load 22 (Operand.tmp 6), type := 22, pos := "read.go:33", after := #[], guard := none }) (v := ?v1003) rfl (by kernel_rfl) (by kernel_rfl) (by kernel_rfl) (fun _ _ _ h => h) (Or.inl ⟨by rfl, ?hy1003⟩) (by assumption) ?rest1003
  case hy1003 => (intro w1 hSw; (try dsimp only at hSw); obtain ⟨h0, h1, -⟩ := hSw; go_simp; try with_reducible rfl)
  try simp only [Act.put, List.setIfInBounds_toArray, List.set_cons_zero, List.set_cons_succ]
  refine wpAnyH_ready (rs := [2]) (by kernel_rfl) (by simp) ?_
  refine AllReadyH.cons (o := { dst := some 27, op := Op.call { callee := Callee.value (Operand.func 39), args := #[Operand.const (Value.int IntKind.i64 1), Operand.tmp 26, Operand.const (Value.int IntKind.u64 5)], argTypes := #[3, 22, 22] }, type := 50, pos := "read.go:33", after := #[{ on := 1, ground := Ground.data }], guard := none }) rfl (fun K hK => ?_) AllReadyH.nil
  go_simp
  refine (N1.out _ q105.gn).mono ?_
  rintro e w106 ⟨rfl, hb107⟩
  have q108 := q104.later hb107
  have q109 := q105.later hb107
  clear q104 q105
  try clear hHeld
  refine hK.out _ _ (⟨q109.k.cell 0, q109.o.cell 0, trivial⟩) (fun hHeld => ?_)
  clear hK K
  try simp only [Act.put, List.setIfInBounds_toArray, List.set_cons_zero, List.set_cons_succ]
  refine wpAnyH_ready (rs := [4]) (by kernel_rfl) (by simp) ?_
  refine AllReadyH.cons (o := { dst := some 29, op := Op.call { callee := Callee.value (Operand.func 39), args := #[Operand.const (Value.int IntKind.i64 2), Operand.tmp 28, Operand.const (Value.int IntKind.u64 1)], argTypes := #[3, 22, 22] }, type := 50, pos := "read.go:33", after := #[{ on := 3, ground := Ground.data }, { on := 2, ground := Ground.chain }], guard := none }) rfl (fun K hK => ?_) AllReadyH.nil
  go_simp
  refine (N2.out _ q109.gn).mono ?_
  rintro e w110 ⟨rfl, hb111⟩
  have q112 := q108.later hb111
  have q113 := q109.later hb111
  clear q108 q109
  try clear hHeld
  refine hK.out _ _ (⟨q113.k.cell 0, q113.o.cell 0, trivial⟩) (fun hHeld => ?_)
  clear hK K
  try simp only [Act.put, List.setIfInBounds_toArray, List.set_cons_zero, List.set_cons_succ]
  refine wpAnyH_ready (rs := [5]) (by kernel_rfl) (by simp) ?_
  refine AllReadyH.cons (o := { dst := some 30, op := Op.buildSlice 114 3 #[(0, Operand.tmp 25), (1, Operand.tmp 27), (2, Operand.tmp 29)], type := 114, pos := "read.go:33", after := #[{ on := 0, ground := Ground.data }, { on := 2, ground := Ground.data }, { on := 4, ground := Ground.data }], guard := none }) rfl (fun K hK => ?_) AllReadyH.nil
  go_simp
  obtain ⟨w114, hw115, hb116, p117⟩ := alloc_new w110 #[V0, .nilIface, .nilIface] 50
  have q118 := q112.later hb116
  have q119 := q113.later hb116
  rw [hw115]
  try clear hHeld
  refine hK.out _ _ (⟨q119.k.cell 0, q119.o.cell 0, trivial⟩) (fun hHeld => ?_)
  clear hK K
  try simp only [Act.put, List.setIfInBounds_toArray, List.set_cons_zero, List.set_cons_succ]
  refine wpAnyH_ready (rs := [6]) (by kernel_rfl) (by simp) ?_
  refine AllReadyH.cons (o := { dst := some 31, op := Op.call { callee := Callee.value (Operand.func 27), args := #[Operand.tmp 30], argTypes := #[114] }, type := 50, pos := "read.go:33", after := #[{ on := 5, ground := Ground.data }, { on := 4, ground := Ground.chain }], guard := none }) rfl (fun K hK => ?_) AllReadyH.nil
  go_simp
  refine (first_any b _ 3 [o, none, none] _ rfl (by decide) (one_cells HV.out p117)).mono ?_
  rintro e w120 ⟨rfl, hb121⟩
  have q122 := q118.later hb121
  have q123 := q119.later hb121
  have q124 := p117.later hb121
  clear q118 q119 p117
  try clear hHeld
  refine hK.out _ _ (⟨q123.k.cell 0, q123.o.cell 0, trivial⟩) (fun hHeld => ?_)
  clear hK K
  try simp only [Act.put, List.setIfInBounds_toArray, List.set_cons_zero, List.set_cons_succ]
  refine wpAnyH_take (i := 7) (oi := { dst := some 8, op := Op.assign (Operand.tmp 31), type := 50, pos := "read.go:33", after := #[{ on := 6, ground := Ground.data }, { on := 6, ground := Ground.chain }, { on := 0, ground := Ground.phase }, { on := 1, ground := Ground.phase }, { on := 2, ground := Ground.phase }, { on := 3, ground := Ground.phase }, { on := 4, ground := Ground.phase }, { on := 5, ground := Ground.phase }, { on := 6, ground := Ground.phase }], guard := none }) (v := ?v1004) rfl (by kernel_rfl) (by kernel_rfl) (by kernel_rfl) (fun _ _ _ h => h) (Or.inl ⟨by rfl, ?hy1004⟩) (by assumption) ?rest1004
  case hy1004 => (intro w1 hSw; (try dsimp only at hSw); obtain ⟨h0, h1, -⟩ := hSw; go_simp; try with_reducible rfl)
  try simp only [Act.put, List.setIfInBounds_toArray, List.set_cons_zero, List.set_cons_succ]
  refine wpAnyH_done (by kernel_rfl) ?_ _
  obtain ⟨E, hE⟩ : ∃ E, firstO [o, none, none] = E := ⟨_, rfl⟩
  rw [hE]
  obtain ⟨wx, hwx⟩ : ∃ wx, w120 = wx := ⟨_, rfl⟩
  rw [hwx]
  have fI : RqI w.heap.size v1 v2 v3 v4 v5 v6 v7 g b st wx := by rw [← hwx]; exact q123
  have fX : Below w.heap.size w wx := by rw [← hwx]; exact Below.trans HFB.out ((show Below wm.heap.size wm w120 from q122).mono (Below.size HFB.out))
  clear hwx
  rcases HQ2.out with hq | hq
  · have h2 := HO.out.symm.trans hq
    injection h2 with h2 h3
    subst h2
    subst h3
    have hE2 : E = none := hE.symm.trans rfl
    subst hE2
    obtain ⟨S, hT, hS⟩ := fI.t
    have hS' : ∃ B c, S = .slice (some ⟨B, 0, none⟩) 1 c ∧ StarAt wx B ∧ w.heap.size + 1 + 3 < B := hS
    obtain ⟨SB, sc, rfl, hstar, hSB⟩ := hS'
    have hz : IntKind.i64.wrap 1 = 1 := rfl
    have ck : wx.cell? ⟨w.heap.size + 2, 0, none⟩ = some (.int .u64 1) := fI.k.cell 0
    have co : wx.cell? ⟨w.heap.size + 3, 0, none⟩ = some (.int .u64 0) := fI.o.cell 0
    have t0 : wx.cell? ⟨w.heap.size + 1, 0, none⟩ = some (.int .i64 0) := hT.cell 0
    have t1 : wx.cell? ⟨w.heap.size + 1, 1, none⟩ = some (.bool false) := hT.cell 1
    have t2 : wx.cell? ⟨w.heap.size + 1, 2, none⟩ = some (.int .u64 0) := hT.cell 2
    have t3 : wx.cell? ⟨w.heap.size + 1, 3, none⟩ = some (.slice (some ⟨SB, 0, none⟩) 1 sc) := hT.cell 3
    have t4 : wx.cell? ⟨w.heap.size + 1, 4, none⟩ = some (.slice none 0 0) := hT.cell 4
    have t5 : wx.cell? ⟨w.heap.size + 1, 5, none⟩ = some (.slice none 0 0) := hT.cell 5
    have t6 : wx.cell? ⟨w.heap.size + 1, 6, none⟩ = some (.string ⟨#[]⟩) := hT.cell 6
    have tf : ∀ j, wx.frozen? ⟨w.heap.size + 1, j, none⟩ = false := fun j => Lib.frozen_of_heap hT j
    obtain ⟨ws, hws⟩ : ∃ ws, (wx.setCell ⟨w.heap.size + 1, 0, none⟩ (.int .i64 1)).setCell ⟨w.heap.size + 1, 1, none⟩ (.bool false) = ws := ⟨_, rfl⟩
    have gt : Bk ws (w.heap.size + 1) #[.int .i64 1, .bool false, .int .u64 0, .slice (some ⟨SB, 0, none⟩) 1 sc, .slice none 0 0, .slice none 0 0, .string ⟨#[]⟩] 41 := by rw [← hws]; exact bk_set (bk_set hT 0 _) 1 _
    have gk : Kpt (w.heap.size + 1) wx ws := by rw [← hws]; exact kpt_set2 wx (w.heap.size + 1) 0 1 _ _
    have gr : Bk ws w.heap.size #[.int .i64 0, .bool false, .int .u64 0, .slice none 0 0, .slice none 0 0, .slice none 0 0, .string ⟨#[]⟩] 41 := gk.bk fI.r (by omega)
    have gs : StarAt ws SB := hstar.kpt gk (by omega)
    have gx : Below w.heap.size w ws := fX.trans (gk.below (by omega) (Nat.le_of_lt fI.r.lt))
    have gn : Gn b ws := gn_base fI.gn HG.out.2.2 (gk.below (by omega) (Nat.le_of_lt fI.r.lt))
    have HWS := Lib.hid hws
    have HQN := Lib.hid hq
    have HSB := Lib.hid hSB
    clear hws hE gk fX fI hq hT hstar hSB hS
    rw [show oV b none = .nilIface from rfl]
    simp only [show w.heap.size + 1 + 1 = w.heap.size + 2 from rfl, show w.heap.size + 2 + 1 = w.heap.size + 3 from rfl]
    go_wp2_with fail
    rw [HWS.out]
    clear HWS ck co t0 t1 t2 t3 t4 t5 t6 tf
    have gB : Base ws ws := Below.refl _ _
    obtain ⟨w125, hw126, hb127⟩ := drew_new ws
    have q128 := gB.later hb127
    have q129 := gt.later hb127
    have q130 := gr.later hb127
    have q131 := gn.later hb127
    have q132 := gs.later hb127
    refine wp_region_held_drew (S := (fun w' => w'.cell? ⟨w.heap.size + 1, 0, none⟩ = some (.int .i64 1) ∧ w'.cell? ⟨w.heap.size + 1, 1, none⟩ = some (.bool false) ∧ w'.cell? ⟨w.heap.size + 1, 2, none⟩ = some (.int .u64 0) ∧ w'.cell? ⟨w.heap.size + 1, 3, none⟩ = some (.slice (some ⟨SB, 0, none⟩) 1 sc) ∧ w'.cell? ⟨w.heap.size + 1, 4, none⟩ = some (.slice none 0 0) ∧ w'.cell? ⟨w.heap.size + 1, 5, none⟩ = some (.slice none 0 0) ∧ w'.cell? ⟨w.heap.size + 1, 6, none⟩ = some (.string ⟨#[]⟩) ∧ True)) (by kernel_rfl) (by rw [hw126]; exact ⟨q129.cell 0, q129.cell 1, q129.cell 2, q129.cell 3, q129.cell 4, q129.cell 5, q129.cell 6, trivial⟩) (fun hHeld => ?_)
    rw [hw126] at hHeld ⊢
    refine wpAnyH_take (i := 0) (oi := { dst := some 42, op := Op.load 41 (Operand.tmp 4), type := 41, pos := "read.go:37", after := #[], guard := none }) (v := ?v3001) rfl (by kernel_rfl) (by kernel_rfl) (by kernel_rfl) (fun _ _ _ h => h) (Or.inl ⟨by rfl, ?hy3001⟩) (by assumption) ?rest3001
    case hy3001 => (intro w1 hSw; (try dsimp only at hSw); obtain ⟨h0, h1, h2, h3, h4, h5, h6, -⟩ := hSw; go_simp; try with_reducible rfl)
    try simp only [Act.put, List.setIfInBounds_toArray, List.set_cons_zero, List.set_cons_succ]
    refine wpAnyH_take (i := 1) (oi := { dst := some 43, op := Op.load 41 (Operand.tmp 4), type := 41, pos := "read.go:37", after := #[], guard := none }) (v := ?v3002) rfl (by kernel_rfl) (by kernel_rfl) (by kernel_rfl) (fun _ _ _ h => h) (Or.inl ⟨by rfl, ?hy3002⟩) (by assumption) ?rest3002
    case hy3002 => (intro w1 hSw; (try dsimp only at hSw); obtain ⟨h0, h1, h2, h3, h4, h5, h6, -⟩ := hSw; go_simp; try with_reducible rfl)
    try simp only [Act.put, List.setIfInBounds_toArray, List.set_cons_zero, List.set_cons_succ]
    refine wpAnyH_ready (rs := [2]) (by kernel_rfl) (by simp) ?_
    refine AllReadyH.cons (o := { dst := some 44, op := Op.call { callee := Callee.value (Operand.func 46), args := #[Operand.tmp 43], argTypes := #[41] }, type := 50, pos := "read.go:37", after := #[{ on := 1, ground := Ground.data }], guard := none }) rfl (fun K hK => ?_) AllReadyH.nil
    go_simp
    refine (chkReq_star1 SB sc b _ q131 q132).mono ?_
    rintro e w133 ⟨rfl, hb134⟩
    have q135 := q128.later hb134
    have q136 := q129.later hb134
    have q137 := q130.later hb134
    have q138 := q131.later hb134
    have q139 := q132.later hb134
    clear q128 q129 q130 q131 q132
    have z0 : w133.cell? ⟨w.heap.size, 0, none⟩ = some (.int .i64 0) := q137.cell 0; have z1 : w133.cell? ⟨w.heap.size, 1, none⟩ = some (.bool false) := q137.cell 1; have z2 : w133.cell? ⟨w.heap.size, 2, none⟩ = some (.int .u64 0) := q137.cell 2; have z3 : w133.cell? ⟨w.heap.size, 3, none⟩ = some (.slice none 0 0) := q137.cell 3; have z4 : w133.cell? ⟨w.heap.size, 4, none⟩ = some (.slice none 0 0) := q137.cell 4; have z5 : w133.cell? ⟨w.heap.size, 5, none⟩ = some (.slice none 0 0) := q137.cell 5; have z6 : w133.cell? ⟨w.heap.size, 6, none⟩ = some (.string ⟨#[]⟩) := q137.cell 6; have zf : ∀ j, w133.frozen? ⟨w.heap.size, j, none⟩ = false := fun j => Lib.frozen_of_heap q137 j
    try clear hHeld
    refine hK.out _ _ (⟨q136.cell 0, q136.cell 1, q136.cell 2, q136.cell 3, q136.cell 4, q136.cell 5, q136.cell 6, trivial⟩) (fun hHeld => ?_)
    clear hK K
    try simp only [Act.put, List.setIfInBounds_toArray, List.set_cons_zero, List.set_cons_succ]
    refine wpAnyH_ready (rs := [3]) (by kernel_rfl) (by simp) ?_
    refine AllReadyH.cons (o := { dst := none, op := Op.store 41 (Operand.tmp 2) (Operand.tmp 42), type := 0, pos := "read.go:37", after := #[{ on := 0, ground := Ground.data }, { on := 2, ground := Ground.chain }, { on := 0, ground := Ground.phase }, { on := 1, ground := Ground.textOnly Departure.lateStores }, { on := 2, ground := Ground.textOnly Departure.lateStoresUnsure }], guard := none }) rfl (fun K hK => ?_) AllReadyH.nil
    go_simp
    have pS := rq_bk7 (R := w.heap.size) q136 (by omega) (.int .i64 1) (.bool false) (.int .u64 0) (.slice (some ⟨SB, 0, none⟩) 1 sc) (.slice none 0 0) (.slice none 0 0) (.string ⟨#[]⟩)
    have pG := gn_st7 (R := w.heap.size) q138 HG.out.2.2 (.int .i64 1) (.bool false) (.int .u64 0) (.slice (some ⟨SB, 0, none⟩) 1 sc) (.slice none 0 0) (.slice none 0 0) (.string ⟨#[]⟩)
    have pZ := star_st7 (R := w.heap.size) q139 (by have := HSB.out; omega) (.int .i64 1) (.bool false) (.int .u64 0) (.slice (some ⟨SB, 0, none⟩) 1 sc) (.slice none 0 0) (.slice none 0 0) (.string ⟨#[]⟩)
    try clear hHeld
    refine hK.out _ _ (⟨pS.cell 0, pS.cell 1, pS.cell 2, pS.cell 3, pS.cell 4, pS.cell 5, pS.cell 6, trivial⟩) (fun hHeld => ?_)
    clear hK K
    try simp only [Act.put, List.setIfInBounds_toArray, List.set_cons_zero, List.set_cons_succ]
    refine wpAnyH_take (i := 4) (oi := { dst := some 3, op := Op.assign (Operand.tmp 44), type := 50, pos := "read.go:37", after := #[{ on := 2, ground := Ground.data }, { on := 3, ground := Ground.chain }, { on := 0, ground := Ground.phase }, { on := 1, ground := Ground.phase }, { on := 2, ground := Ground.phase }, { on := 3, ground := Ground.phase }], guard := none }) (v := ?v3003) rfl (by kernel_rfl) (by kernel_rfl) (by kernel_rfl) (fun _ _ _ h => h) (Or.inl ⟨by rfl, ?hy3003⟩) (by assumption) ?rest3003
    case hy3003 => (intro w1 hSw; (try dsimp only at hSw); obtain ⟨h0, h1, h2, h3, h4, h5, h6, -⟩ := hSw; go_simp; try with_reducible rfl)
    try simp only [Act.put, List.setIfInBounds_toArray, List.set_cons_zero, List.set_cons_succ]
    refine wpAnyH_done (by kernel_rfl) ?_ _
    go_wp2_with fail
    have RR : Bk (((((((w133.setCell ⟨w.heap.size, 0, none⟩ (.int .i64 1)).setCell ⟨w.heap.size, 1, none⟩ (.bool false)).setCell ⟨w.heap.size, 2, none⟩ (.int .u64 0)).setCell ⟨w.heap.size, 3, none⟩ (.slice (some ⟨SB, 0, none⟩) 1 sc)).setCell ⟨w.heap.size, 4, none⟩ (.slice none 0 0)).setCell ⟨w.heap.size, 5, none⟩ (.slice none 0 0)).setCell ⟨w.heap.size, 6, none⟩ (.string ⟨#[]⟩)) w.heap.size #[.int .i64 1, .bool false, .int .u64 0, .slice (some ⟨SB, 0, none⟩) 1 sc, .slice none 0 0, .slice none 0 0, .string ⟨#[]⟩] 41 := (bk_set (bk_set (bk_set (bk_set (bk_set (bk_set (bk_set q137 0 _) 1 _) 2 _) 3 _) 4 _) 5 _) 6 _)
    have g0 := RR.cell 0
    have g1 := RR.cell 1
    have g2 := RR.cell 2
    have g3 := RR.cell 3
    have g4 := RR.cell 4
    have g5 := RR.cell 5
    have g6 := RR.cell 6
    simp only [List.getElem?_toArray, List.getElem?_cons_zero, List.getElem?_cons_succ] at g0 g1 g2 g3 g4 g5 g6
    have hbz : Below w.heap.size w (((((((w133.setCell ⟨w.heap.size, 0, none⟩ (.int .i64 1)).setCell ⟨w.heap.size, 1, none⟩ (.bool false)).setCell ⟨w.heap.size, 2, none⟩ (.int .u64 0)).setCell ⟨w.heap.size, 3, none⟩ (.slice (some ⟨SB, 0, none⟩) 1 sc)).setCell ⟨w.heap.size, 4, none⟩ (.slice none 0 0)).setCell ⟨w.heap.size, 5, none⟩ (.slice none 0 0)).setCell ⟨w.heap.size, 6, none⟩ (.string ⟨#[]⟩)) := ((((((((gx.trans (q135.mono gx.size)).setCell (Nat.le_refl _) _).setCell (Nat.le_refl _) _).setCell (Nat.le_refl _) _).setCell (Nat.le_refl _) _).setCell (Nat.le_refl _) _).setCell (Nat.le_refl _) _).setCell (Nat.le_refl _) _)
    refine bodyPost_ret (v := .tuple #[.agg #[.int .i64 1, .bool false, .int .u64 0, .slice (some ⟨SB, 0, none⟩) 1 sc, .slice none 0 0, .slice none 0 0, .string ⟨#[]⟩], .nilIface]) ?_ rfl ⟨⟨fun _ => ⟨SB, sc, rfl, pZ, by have := HSB.out; omega⟩, (fun h => by rw [HQN.out] at h; cases h)⟩, hbz⟩
    generalize (((((((w133.setCell ⟨w.heap.size, 0, none⟩ (.int .i64 1)).setCell ⟨w.heap.size, 1, none⟩ (.bool false)).setCell ⟨w.heap.size, 2, none⟩ (.int .u64 0)).setCell ⟨w.heap.size, 3, none⟩ (.slice (some ⟨SB, 0, none⟩) 1 sc)).setCell ⟨w.heap.size, 4, none⟩ (.slice none 0 0)).setCell ⟨w.heap.size, 5, none⟩ (.slice none 0 0)).setCell ⟨w.heap.size, 6, none⟩ (.string ⟨#[]⟩)) = Z2 at g0 g1 g2 g3 g4 g5 g6 ⊢
    simp [results, Tryd.results22, go_sem, g0, g1, g2, g3, g4, g5, g6]
  · have h2 := HO.out.symm.trans hq
    injection h2 with h2 h3
    subst h2
    subst h3
    have hE2 : E = some [] := hE.symm.trans rfl
    subst hE2
    have z0 : wx.cell? ⟨w.heap.size, 0, none⟩ = some (.int .i64 0) := fI.r.cell 0
    have z1 : wx.cell? ⟨w.heap.size, 1, none⟩ = some (.bool false) := fI.r.cell 1
    have z2 : wx.cell? ⟨w.heap.size, 2, none⟩ = some (.int .u64 0) := fI.r.cell 2
    have z3 : wx.cell? ⟨w.heap.size, 3, none⟩ = some (.slice none 0 0) := fI.r.cell 3
    have z4 : wx.cell? ⟨w.heap.size, 4, none⟩ = some (.slice none 0 0) := fI.r.cell 4
    have z5 : wx.cell? ⟨w.heap.size, 5, none⟩ = some (.slice none 0 0) := fI.r.cell 5
    have z6 : wx.cell? ⟨w.heap.size, 6, none⟩ = some (.string ⟨#[]⟩) := fI.r.cell 6
    have zf : ∀ j, wx.frozen? ⟨w.heap.size, j, none⟩ = false := fun j => Lib.frozen_of_heap fI.r j
    have HIR := Lib.hid fI.r
    have HFX := Lib.hid fX
    have HQN := Lib.hid hq
    clear fI fX hE hq
    rw [show oV b (some []) = .iface 149 (.pointer (some b)) from rfl]
    go_wp2_with fail
    have RR : Bk (((((((wx.setCell ⟨w.heap.size, 0, none⟩ (.int .i64 0)).setCell ⟨w.heap.size, 1, none⟩ (.bool false)).setCell ⟨w.heap.size, 2, none⟩ (.int .u64 0)).setCell ⟨w.heap.size, 3, none⟩ (.slice none 0 0)).setCell ⟨w.heap.size, 4, none⟩ (.slice none 0 0)).setCell ⟨w.heap.size, 5, none⟩ (.slice none 0 0)).setCell ⟨w.heap.size, 6, none⟩ (.string ⟨#[]⟩)) w.heap.size #[.int .i64 0, .bool false, .int .u64 0, .slice none 0 0, .slice none 0 0, .slice none 0 0, .string ⟨#[]⟩] 41 := (bk_set (bk_set (bk_set (bk_set (bk_set (bk_set (bk_set HIR.out 0 _) 1 _) 2 _) 3 _) 4 _) 5 _) 6 _)
    have g0 := RR.cell 0
    have g1 := RR.cell 1
    have g2 := RR.cell 2
    have g3 := RR.cell 3
    have g4 := RR.cell 4
    have g5 := RR.cell 5
    have g6 := RR.cell 6
    simp only [List.getElem?_toArray, List.getElem?_cons_zero, List.getElem?_cons_succ] at g0 g1 g2 g3 g4 g5 g6
    have hbz : Below w.heap.size w (((((((wx.setCell ⟨w.heap.size, 0, none⟩ (.int .i64 0)).setCell ⟨w.heap.size, 1, none⟩ (.bool false)).setCell ⟨w.heap.size, 2, none⟩ (.int .u64 0)).setCell ⟨w.heap.size, 3, none⟩ (.slice none 0 0)).setCell ⟨w.heap.size, 4, none⟩ (.slice none 0 0)).setCell ⟨w.heap.size, 5, none⟩ (.slice none 0 0)).setCell ⟨w.heap.size, 6, none⟩ (.string ⟨#[]⟩)) := ((((((((HFX.out).setCell (Nat.le_refl _) _).setCell (Nat.le_refl _) _).setCell (Nat.le_refl _) _).setCell (Nat.le_refl _) _).setCell (Nat.le_refl _) _).setCell (Nat.le_refl _) _).setCell (Nat.le_refl _) _)
    refine bodyPost_ret (v := .tuple #[.agg #[.int .i64 0, .bool false, .int .u64 0, .slice none 0 0, .slice none 0 0, .slice none 0 0, .string ⟨#[]⟩], .iface 149 (.pointer (some b))]) ?_ rfl ⟨⟨(fun h => by rw [HQN.out] at h; cases h), fun _ => rfl⟩, hbz⟩
    generalize (((((((wx.setCell ⟨w.heap.size, 0, none⟩ (.int .i64 0)).setCell ⟨w.heap.size, 1, none⟩ (.bool false)).setCell ⟨w.heap.size, 2, none⟩ (.int .u64 0)).setCell ⟨w.heap.size, 3, none⟩ (.slice none 0 0)).setCell ⟨w.heap.size, 4, none⟩ (.slice none 0 0)).setCell ⟨w.heap.size, 5, none⟩ (.slice none 0 0)).setCell ⟨w.heap.size, 6, none⟩ (.string ⟨#[]⟩)) = Z2 at g0 g1 g2 g3 g4 g5 g6 ⊢
    simp [results, Tryd.results22, go_sem, g0, g1, g2, g3, g4, g5, g6]
end Go.Proofs.YtbflbgnafdbngaaDoor
