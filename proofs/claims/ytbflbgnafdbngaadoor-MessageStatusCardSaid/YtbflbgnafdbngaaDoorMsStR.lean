/- message: readStatus, GetStatus of any bytes (tools/msstr_gen.py). -/
import Derived.Test.YtbflbgnafdbngaaDoorMsStI
import Derived.Test.YtbflbgnafdbngaaDoorMsPutS
namespace Go.Proofs.YtbflbgnafdbngaaDoor
open Go.RowKit Go.Lib

set_option maxRecDepth 100000 in
theorem atMost_any (num : Int) (n m : Nat) (b : Addr) (w : World) (hg : Gn b w) : Calls Tryd.prog 39 #[.int .i64 num, .int .u64 (n : Int), .int .u64 (m : Int)] w fun e w' => e = .returned (oV b (needO num (decide (n ≤ m)))) ∧ Below w.heap.size w w' := by
  have HN := Lib.hid (fun B => need_any num B b w hg)
  by_cases h : n ≤ m
  · have h1 : (n : Int) ≤ (m : Int) := by omega
    have HX := Lib.hid (show decide (n ≤ m) = true from decide_eq_true h)
    rw [HX.out]
    go_enter Tryd.func39, Tryd.ntmps39
    go_wp2_with (go_at_call 28; refine (HN.out true).mono ?_; rintro e w1 ⟨rfl, hb⟩)
    go_ret
    exact ⟨rfl, hb⟩
  · have h1 : decide ((n : Int) ≤ (m : Int)) = false := decide_eq_false (by omega)
    have h2 : ¬ (n : Int) ≤ (m : Int) := by omega
    have HX := Lib.hid (show decide (n ≤ m) = false from decide_eq_false h)
    rw [HX.out]
    go_enter Tryd.func39, Tryd.ntmps39
    go_wp2_with (go_at_call 28; refine (HN.out false).mono ?_; rintro e w1 ⟨rfl, hb⟩)
    go_ret
    exact ⟨rfl, hb⟩
/-- What the bytes are read as, and what is wrong with them. -/
def ss0 : SS := ⟨0, [], 0, 0, []⟩
def statE (l : List UInt8) : Option (List Int) := firstO [(msgP statStep ss0 4 l).2, needO 1 (decide ((msgP statStep ss0 4 l).1.kind ≤ 5)), needO 4 (decide ((msgP statStep ss0 4 l).1.f ≤ 1))]
def statV (l : List UInt8) : St := ⟨((msgP statStep ss0 4 l).1.kind : Int), ⟨(msgP statStep ss0 4 l).1.x.toArray⟩, (msgP statStep ss0 4 l).1.q, decide ((msgP statStep ss0 4 l).1.f = 1), ⟨(msgP statStep ss0 4 l).1.s.toArray⟩⟩
def statR (l : List UInt8) : St × Option (List Int) := match statE l with | some e => (⟨0, ⟨#[]⟩, 0, false, ⟨#[]⟩⟩, some e) | none => (statV l, (statV l).wrong)
theorem firstO_none3 {o : Option (List Int)} {B1 B2 : Bool} (h : firstO [o, needO 1 B1, needO 4 B2] = none) : B1 = true ∧ B2 = true ∧ o = none := by
  rcases o with _ | o
  · cases B1 <;> cases B2 <;> simp_all [firstO, needO]
  · simp [firstO] at h
theorem bk_st5 {W : World} {B R : Nat} {c : Array Value} {t : TypeId} (h : Bk W B c t) (hne : B ≠ R) (v0 v1 v2 v3 v4 : Value) : Bk (((((W.setCell ⟨R, 0, none⟩ v0).setCell ⟨R, 1, none⟩ v1).setCell ⟨R, 2, none⟩ v2).setCell ⟨R, 3, none⟩ v3).setCell ⟨R, 4, none⟩ v4) B c t := by
  unfold Bk
  rw [Below.heap_setCell _ _ _ _ hne, Below.heap_setCell _ _ _ _ hne, Below.heap_setCell _ _ _ _ hne, Below.heap_setCell _ _ _ _ hne, Below.heap_setCell _ _ _ _ hne]
  exact h
theorem gn_st5 {W : World} {R : Nat} {b : Addr} (h : Gn b W) (hR : 0 < R) (v0 v1 v2 v3 v4 : Value) : Gn b (((((W.setCell ⟨R, 0, none⟩ v0).setCell ⟨R, 1, none⟩ v1).setCell ⟨R, 2, none⟩ v2).setCell ⟨R, 3, none⟩ v3).setCell ⟨R, 4, none⟩ v4) :=
  gn_base h hR ((((((Below.refl R W).setCell (Nat.le_refl _) _).setCell (Nat.le_refl _) _).setCell (Nat.le_refl _) _).setCell (Nat.le_refl _) _).setCell (Nat.le_refl _) _)
theorem kpt_set2 (w : World) (R o1 o2 : Nat) (v1 v2 : Value) : Kpt R w ((w.setCell ⟨R, o1, none⟩ v1).setCell ⟨R, o2, none⟩ v2) where
  os := rfl
  tape := rfl
  output := rfl
  size := by simp
  block := fun k hk hne => by rw [Below.heap_setCell _ _ _ _ hne, Below.heap_setCell _ _ _ _ hne]
theorem three_cells {b : Addr} {W : World} {B : Nat} {t : TypeId} {o0 o1 o2 : Option (List Int)} {V0 V1 V2 : Value} (hv : oV b o0 = V0 ∧ oV b o1 = V1 ∧ oV b o2 = V2) (h : Bk W B #[V0, V1, V2] t) : ∀ (k : Nat) o, [o0, o1, o2][k]? = some o → W.cell? ⟨B, k, none⟩ = some (oV b o) := by
  obtain ⟨rfl, rfl, rfl⟩ := hv
  intro k o ho
  rw [h.cell k]
  match k, ho with
  | 0, ho => simp at ho; subst ho; rfl
  | 1, ho => simp at ho; subst ho; rfl
  | 2, ho => simp at ho; subst ho; rfl
  | k + 3, ho => simp at ho
set_option maxRecDepth 100000 in
set_option maxHeartbeats 8000000 in
theorem readStatus_any (s : ByteArray) (g b : Addr) (w : World) (hg : Gv g w) (hn : Gn b w) (hs : s.size ≤ 1099511627776) :
    Calls Tryd.prog 18 #[.string s] w fun e w' => e = .returned (.tuple #[(statR s.data.toList).1.v, oV b (statR s.data.toList).2]) ∧ Below w.heap.size w w' := by
  obtain ⟨rr, hrr⟩ : ∃ rr, statR s.data.toList = rr := ⟨_, rfl⟩
  rw [hrr]
  have HRR := Lib.hid hrr
  clear hrr
  have hmm := @run_makeMap Tryd.prog
  obtain ⟨w1, hw1, hb1, p1, z1⟩ := alloc_sized w st0Cells 30
  obtain ⟨w2, hw2, hb2, p2, z2⟩ := alloc_sized w1 st0Cells 30
  obtain ⟨w3, hw3, hb3, p3, z3⟩ := alloc_sized w2 #[.int .u64 0] 22
  obtain ⟨w4, hw4, hb4, p4, z4⟩ := alloc_sized w3 #[.int .u64 0] 22
  have hm0 := kmap_new (fun k : Int => Value.int .i64 k) iOk w4
  obtain ⟨w5, hw5, hb5⟩ : ∃ w5, w4.alloc (.map #[] 0) = w5 ∧ Below w4.heap.size w4 w5 := ⟨_, rfl, (Below.refl _ _).alloc (Nat.le_refl _) _⟩
  have HW := Lib.hid (show ((((w.alloc (.cells st0Cells 30)).alloc (.cells st0Cells 30)).alloc (.cells #[.int .u64 0] 22)).alloc (.cells #[.int .u64 0] 22)).alloc (.map #[] 0) = w5 by rw [hw1, hw2, hw3, hw4, hw5])
  rw [hw5, show w4.heap.size = w.heap.size + 4 by omega] at hm0
  rw [z1] at p2
  rw [show w2.heap.size = w.heap.size + 2 by omega] at p3
  rw [show w3.heap.size = w.heap.size + 3 by omega] at p4
  have fr := (((p1.later hb2).later hb3).later hb4).later hb5
  have ft := ((p2.later hb3).later hb4).later hb5
  have fk := (p3.later hb4).later hb5
  have fo := p4.later hb5
  have fm : Tks w5 (w.heap.size + 4) (fun _ => none) := hm0
  have fb : Below w.heap.size w w5 := (((hb1.trans (hb2.mono (by omega))).trans (hb3.mono (by omega))).trans (hb4.mono (by omega))).trans (hb5.mono (by omega))
  have HG := Lib.hid (And.intro hg hn)
  have HSZ := Lib.hid hs
  clear hw1 hb1 p1 z1 hw2 hb2 p2 z2 hw3 hb3 p3 z3 hw4 hb4 p4 z4 hm0 hw5 hb5 hg hn hs
  obtain ⟨q, hq⟩ : ∃ q, msgP statStep ss0 4 s.data.toList = q := ⟨_, rfl⟩
  have HQ := Lib.hid hq
  clear hq
  go_enter Tryd.func18, Tryd.ntmps18
  go_wp2_with fail
  rw [HW.out]
  clear HW
  refine (number_new ⟨w.heap.size + 2, 0, none⟩ w5).mono ?_
  rintro e wa1 ⟨v1, rfl, ft1, hb⟩
  replace fr := fr.later hb
  replace ft := ft.later hb
  replace fk := fk.later hb
  replace fo := fo.later hb
  have hm1 : Tks wa1 (w.heap.size + 4) (fun _ => none) := Tks.later fm hb
  replace fb := fb.trans (hb.mono fb.size)
  obtain ⟨wb1, hrun1, hm2, hgr⟩ := tks_set hm1 1 ⟨by decide, by decide⟩ v1
  replace fr := fr.grown hm1 hgr
  replace ft := ft.grown hm1 hgr
  replace fk := fk.grown hm1 hgr
  replace fo := fo.grown hm1 hgr
  replace ft1 := ft1.grown hm1 hgr
  have hrl := fr.lt
  replace fb := fb.grown hgr fb.size (fun j hj => by cases hj; omega)
  clear fm hb hm1 hgr hrl
  have fm := hm2
  clear hm2
  go_wp2_with fail
  refine (text_new ⟨w.heap.size + 1, 1, none⟩ wb1).mono ?_
  rintro e wa2 ⟨v2, rfl, ft2, hb⟩
  replace fr := fr.later hb
  replace ft := ft.later hb
  replace fk := fk.later hb
  replace fo := fo.later hb
  replace ft1 := ft1.later hb
  have hm1 : Tks wa2 (w.heap.size + 4) (kset (fun _ => none) 1 v1) := Tks.later fm hb
  replace fb := fb.trans (hb.mono fb.size)
  obtain ⟨wb2, hrun2, hm2, hgr⟩ := tks_set hm1 2 ⟨by decide, by decide⟩ v2
  replace fr := fr.grown hm1 hgr
  replace ft := ft.grown hm1 hgr
  replace fk := fk.grown hm1 hgr
  replace fo := fo.grown hm1 hgr
  replace ft1 := ft1.grown hm1 hgr
  replace ft2 := ft2.grown hm1 hgr
  have hrl := fr.lt
  replace fb := fb.grown hgr fb.size (fun j hj => by cases hj; omega)
  clear fm hb hm1 hgr hrl
  have fm := hm2
  clear hm2
  go_wp2_with fail
  refine (number_new ⟨w.heap.size + 1, 2, none⟩ wb2).mono ?_
  rintro e wa3 ⟨v3, rfl, ft3, hb⟩
  replace fr := fr.later hb
  replace ft := ft.later hb
  replace fk := fk.later hb
  replace fo := fo.later hb
  replace ft1 := ft1.later hb
  replace ft2 := ft2.later hb
  have hm1 : Tks wa3 (w.heap.size + 4) (kset (kset (fun _ => none) 1 v1) 2 v2) := Tks.later fm hb
  replace fb := fb.trans (hb.mono fb.size)
  obtain ⟨wb3, hrun3, hm2, hgr⟩ := tks_set hm1 3 ⟨by decide, by decide⟩ v3
  replace fr := fr.grown hm1 hgr
  replace ft := ft.grown hm1 hgr
  replace fk := fk.grown hm1 hgr
  replace fo := fo.grown hm1 hgr
  replace ft1 := ft1.grown hm1 hgr
  replace ft2 := ft2.grown hm1 hgr
  replace ft3 := ft3.grown hm1 hgr
  have hrl := fr.lt
  replace fb := fb.grown hgr fb.size (fun j hj => by cases hj; omega)
  clear fm hb hm1 hgr hrl
  have fm := hm2
  clear hm2
  go_wp2_with fail
  refine (number_new ⟨w.heap.size + 3, 0, none⟩ wb3).mono ?_
  rintro e wa4 ⟨v4, rfl, ft4, hb⟩
  replace fr := fr.later hb
  replace ft := ft.later hb
  replace fk := fk.later hb
  replace fo := fo.later hb
  replace ft1 := ft1.later hb
  replace ft2 := ft2.later hb
  replace ft3 := ft3.later hb
  have hm1 : Tks wa4 (w.heap.size + 4) (kset (kset (kset (fun _ => none) 1 v1) 2 v2) 3 v3) := Tks.later fm hb
  replace fb := fb.trans (hb.mono fb.size)
  obtain ⟨wb4, hrun4, hm2, hgr⟩ := tks_set hm1 4 ⟨by decide, by decide⟩ v4
  replace fr := fr.grown hm1 hgr
  replace ft := ft.grown hm1 hgr
  replace fk := fk.grown hm1 hgr
  replace fo := fo.grown hm1 hgr
  replace ft1 := ft1.grown hm1 hgr
  replace ft2 := ft2.grown hm1 hgr
  replace ft3 := ft3.grown hm1 hgr
  replace ft4 := ft4.grown hm1 hgr
  have hrl := fr.lt
  replace fb := fb.grown hgr fb.size (fun j hj => by cases hj; omega)
  clear fm hb hm1 hgr hrl
  have fm := hm2
  clear hm2
  go_wp2_with fail
  refine (text_new ⟨w.heap.size + 1, 4, none⟩ wb4).mono ?_
  rintro e wa5 ⟨v5, rfl, ft5, hb⟩
  replace fr := fr.later hb
  replace ft := ft.later hb
  replace fk := fk.later hb
  replace fo := fo.later hb
  replace ft1 := ft1.later hb
  replace ft2 := ft2.later hb
  replace ft3 := ft3.later hb
  replace ft4 := ft4.later hb
  have hm1 : Tks wa5 (w.heap.size + 4) (kset (kset (kset (kset (fun _ => none) 1 v1) 2 v2) 3 v3) 4 v4) := Tks.later fm hb
  replace fb := fb.trans (hb.mono fb.size)
  obtain ⟨wb5, hrun5, hm2, hgr⟩ := tks_set hm1 5 ⟨by decide, by decide⟩ v5
  replace fr := fr.grown hm1 hgr
  replace ft := ft.grown hm1 hgr
  replace fk := fk.grown hm1 hgr
  replace fo := fo.grown hm1 hgr
  replace ft1 := ft1.grown hm1 hgr
  replace ft2 := ft2.grown hm1 hgr
  replace ft3 := ft3.grown hm1 hgr
  replace ft4 := ft4.grown hm1 hgr
  replace ft5 := ft5.grown hm1 hgr
  have hrl := fr.lt
  replace fb := fb.grown hgr fb.size (fun j hj => by cases hj; omega)
  clear fm hb hm1 hgr hrl
  have fm := hm2
  clear hm2
  have hi : StI w.heap.size v1 v2 v3 v4 v5 g b ss0 wb5 := ⟨fr, ft, fk, fo, ft1, ft2, ft3, ft4, ft5, fm, gv_base HG.out.1 HG.out.1.2 fb, gn_base HG.out.2 HG.out.2.2 fb⟩
  have hrl := fm.lt
  have HM := Lib.hid (takeMsg_any (StI w.heap.size v1 v2 v3 v4 v5 g b) statStep (statC v1 v2 v3 v4 v5) (w.heap.size + 4) w.heap.size wb5.heap.size g b (fun st w5 w6 h hb => h.later hb) (fun st w5 h => ⟨h.m, h.gv, h.gn⟩) (fun st w5 f h => stat_takes w.heap.size wb5.heap.size v1 v2 v3 v4 v5 g b hrl HG.out.1.2 HG.out.2.2 st w5 f h) statC_ok ss0 4 (by decide) s wb5 hi HSZ.out (Nat.le_refl _) fb.size (fun l fs h => fd_num h))
  rw [HQ.out] at HM
  have HB := Lib.hid fb
  clear fr ft fk fo ft1 ft2 ft3 ft4 ft5 fm fb hi hrl
  go_wp2_with fail
  refine HM.out.mono ?_
  rintro e wm ⟨st, o, ho, rfl, hi, hb⟩
  have HQ2 := Lib.hid (HQ.out.trans ho)
  have fI := hi
  have fB : Base w wm := HB.out.trans hb
  clear hi hb ho HM HB HQ hmm hrun1 hrun2 hrun3 hrun4 hrun5
  obtain ⟨V0, hV0⟩ : ∃ V, oV b o = V := ⟨_, rfl⟩
  have hc0 := oV_one b o
  rw [hV0] at hc0 ⊢
  simp only [Value.cells] at hc0
  obtain ⟨B1, hB1⟩ : ∃ B, decide (st.kind ≤ 5) = B := ⟨_, rfl⟩
  obtain ⟨B2, hB2⟩ : ∃ B, decide (st.f ≤ 1) = B := ⟨_, rfl⟩
  obtain ⟨V1, hV1⟩ : ∃ V, oV b (needO 1 B1) = V := ⟨_, rfl⟩
  have hc1 := oV_one b (needO 1 B1)
  rw [hV1] at hc1
  simp only [Value.cells] at hc1
  obtain ⟨V2, hV2⟩ : ∃ V, oV b (needO 4 B2) = V := ⟨_, rfl⟩
  have hc2 := oV_one b (needO 4 B2)
  rw [hV2] at hc2
  simp only [Value.cells] at hc2
  have N1 := Lib.hid (fun W hW => atMost_any 1 st.kind 5 b W hW)
  rw [hB1, hV1] at N1
  have N2 := Lib.hid (fun W hW => atMost_any 4 st.f 1 b W hW)
  rw [hB2, hV2] at N2
  have HV := Lib.hid (And.intro hV0 (And.intro hV1 hV2))
  have HBB := Lib.hid (And.intro hB1 hB2)
  clear hV0 hV1 hV2 hB1 hB2
  have HFB := Lib.hid fB
  have fB : Base wm wm := Below.refl _ _
  go_wp2_with fail
  obtain ⟨w101, hw102, hb103⟩ := drew_new wm
  have q104 := fB.later hb103
  have q105 := fI.later hb103
  refine wp_region_held_drew (S := (fun w' => w'.cell? ⟨w.heap.size + 2, 0, none⟩ = some (.int .u64 (st.kind : Int)) ∧ w'.cell? ⟨w.heap.size + 3, 0, none⟩ = some (.int .u64 (st.f : Int)) ∧ True)) (by kernel_rfl) (by rw [hw102]; exact ⟨q105.k.cell 0, q105.o.cell 0, trivial⟩) (fun hHeld => ?_)
  rw [hw102] at hHeld ⊢
  refine wpAnyH_take (i := 0) (oi := { dst := some 22, op := Op.move (Operand.tmp 7), type := 50, pos := "read.go:92", after := #[], guard := none }) (v := ?v1001) rfl (by kernel_rfl) (by kernel_rfl) (by kernel_rfl) (fun _ _ _ h => h) (Or.inl ⟨by rfl, ?hy1001⟩) (by assumption) ?rest1001
  case hy1001 => (intro w1 hSw; (try dsimp only at hSw); obtain ⟨h0, h1, -⟩ := hSw; go_simp; try with_reducible rfl)
  try simp only [Act.put, List.setIfInBounds_toArray, List.set_cons_zero, List.set_cons_succ]
  refine wpAnyH_take (i := 1) (oi := { dst := some 23, op := Op.load 22 (Operand.tmp 5), type := 22, pos := "read.go:92", after := #[], guard := none }) (v := ?v1002) rfl (by kernel_rfl) (by kernel_rfl) (by kernel_rfl) (fun _ _ _ h => h) (Or.inl ⟨by rfl, ?hy1002⟩) (by assumption) ?rest1002
  case hy1002 => (intro w1 hSw; (try dsimp only at hSw); obtain ⟨h0, h1, -⟩ := hSw; go_simp; try with_reducible rfl)
  try simp only [Act.put, List.setIfInBounds_toArray, List.set_cons_zero, List.set_cons_succ]
  refine wpAnyH_take (i := 3) (oi := { dst := some 25, op := Op.load 22 (Operand.tmp 6), type := 22, pos := "read.go:92", after := #[], guard := none }) (v := ?v1003) rfl (by kernel_rfl) (by kernel_rfl) (by kernel_rfl) (fun _ _ _ h => h) (Or.inl ⟨by rfl, ?hy1003⟩) (by assumption) ?rest1003
  case hy1003 => (intro w1 hSw; (try dsimp only at hSw); obtain ⟨h0, h1, -⟩ := hSw; go_simp; try with_reducible rfl)
  try simp only [Act.put, List.setIfInBounds_toArray, List.set_cons_zero, List.set_cons_succ]
  refine wpAnyH_ready (rs := [2]) (by kernel_rfl) (by simp) ?_
  refine AllReadyH.cons (o := { dst := some 24, op := Op.call { callee := Callee.value (Operand.func 39), args := #[Operand.const (Value.int IntKind.i64 1), Operand.tmp 23, Operand.const (Value.int IntKind.u64 5)], argTypes := #[3, 22, 22] }, type := 50, pos := "read.go:92", after := #[{ on := 1, ground := Ground.data }], guard := none }) rfl (fun K hK => ?_) AllReadyH.nil
  go_simp
  refine (N1.out _ q105.gn).mono ?_
  rintro e w106 ⟨rfl, hb107⟩
  have q108 := q104.later hb107
  have q109 := q105.later hb107
  clear q104 q105
  try clear hHeld
  refine hK.out _ _ (⟨q109.k.cell 0, q109.o.cell 0, trivial⟩) (fun hHeld => ?_)
  clear hK K
  try simp only [Act.put, List.setIfInBounds_toArray, List.set_cons_zero, List.set_cons_succ]
  refine wpAnyH_ready (rs := [4]) (by kernel_rfl) (by simp) ?_
  refine AllReadyH.cons (o := { dst := some 26, op := Op.call { callee := Callee.value (Operand.func 39), args := #[Operand.const (Value.int IntKind.i64 4), Operand.tmp 25, Operand.const (Value.int IntKind.u64 1)], argTypes := #[3, 22, 22] }, type := 50, pos := "read.go:92", after := #[{ on := 3, ground := Ground.data }, { on := 2, ground := Ground.chain }], guard := none }) rfl (fun K hK => ?_) AllReadyH.nil
  go_simp
  refine (N2.out _ q109.gn).mono ?_
  rintro e w110 ⟨rfl, hb111⟩
  have q112 := q108.later hb111
  have q113 := q109.later hb111
  clear q108 q109
  try clear hHeld
  refine hK.out _ _ (⟨q113.k.cell 0, q113.o.cell 0, trivial⟩) (fun hHeld => ?_)
  clear hK K
  try simp only [Act.put, List.setIfInBounds_toArray, List.set_cons_zero, List.set_cons_succ]
  refine wpAnyH_ready (rs := [5]) (by kernel_rfl) (by simp) ?_
  refine AllReadyH.cons (o := { dst := some 27, op := Op.buildSlice 114 3 #[(0, Operand.tmp 22), (1, Operand.tmp 24), (2, Operand.tmp 26)], type := 114, pos := "read.go:92", after := #[{ on := 0, ground := Ground.data }, { on := 2, ground := Ground.data }, { on := 4, ground := Ground.data }], guard := none }) rfl (fun K hK => ?_) AllReadyH.nil
  go_simp
  obtain ⟨w114, hw115, hb116, p117⟩ := alloc_new w110 #[V0, V1, V2] 50
  have q118 := q112.later hb116
  have q119 := q113.later hb116
  rw [hw115]
  try clear hHeld
  refine hK.out _ _ (⟨q119.k.cell 0, q119.o.cell 0, trivial⟩) (fun hHeld => ?_)
  clear hK K
  try simp only [Act.put, List.setIfInBounds_toArray, List.set_cons_zero, List.set_cons_succ]
  refine wpAnyH_ready (rs := [6]) (by kernel_rfl) (by simp) ?_
  refine AllReadyH.cons (o := { dst := some 28, op := Op.call { callee := Callee.value (Operand.func 27), args := #[Operand.tmp 27], argTypes := #[114] }, type := 50, pos := "read.go:92", after := #[{ on := 5, ground := Ground.data }, { on := 4, ground := Ground.chain }], guard := none }) rfl (fun K hK => ?_) AllReadyH.nil
  go_simp
  refine (first_any b _ 3 [o, needO 1 B1, needO 4 B2] _ rfl (by decide) (three_cells HV.out p117)).mono ?_
  rintro e w120 ⟨rfl, hb121⟩
  have q122 := q118.later hb121
  have q123 := q119.later hb121
  have q124 := p117.later hb121
  clear q118 q119 p117
  try clear hHeld
  refine hK.out _ _ (⟨q123.k.cell 0, q123.o.cell 0, trivial⟩) (fun hHeld => ?_)
  clear hK K
  try simp only [Act.put, List.setIfInBounds_toArray, List.set_cons_zero, List.set_cons_succ]
  refine wpAnyH_take (i := 7) (oi := { dst := some 8, op := Op.assign (Operand.tmp 28), type := 50, pos := "read.go:92", after := #[{ on := 6, ground := Ground.data }, { on := 6, ground := Ground.chain }, { on := 0, ground := Ground.phase }, { on := 1, ground := Ground.phase }, { on := 2, ground := Ground.phase }, { on := 3, ground := Ground.phase }, { on := 4, ground := Ground.phase }, { on := 5, ground := Ground.phase }, { on := 6, ground := Ground.phase }], guard := none }) (v := ?v1004) rfl (by kernel_rfl) (by kernel_rfl) (by kernel_rfl) (fun _ _ _ h => h) (Or.inl ⟨by rfl, ?hy1004⟩) (by assumption) ?rest1004
  case hy1004 => (intro w1 hSw; (try dsimp only at hSw); obtain ⟨h0, h1, -⟩ := hSw; go_simp; try with_reducible rfl)
  try simp only [Act.put, List.setIfInBounds_toArray, List.set_cons_zero, List.set_cons_succ]
  refine wpAnyH_done (by kernel_rfl) ?_ _
  obtain ⟨E, hE⟩ : ∃ E, firstO [o, needO 1 B1, needO 4 B2] = E := ⟨_, rfl⟩
  rw [hE]
  have HE := Lib.hid (show statE s.data.toList = E by unfold statE; rw [HQ2.out]; simp only; rw [HBB.out.1, HBB.out.2]; exact hE)
  obtain ⟨wx, hwx⟩ : ∃ wx, w120 = wx := ⟨_, rfl⟩
  rw [hwx]
  have fI : StI w.heap.size v1 v2 v3 v4 v5 g b st wx := by rw [← hwx]; exact q123
  have fX : Below w.heap.size w wx := by rw [← hwx]; exact Below.trans HFB.out ((show Below wm.heap.size wm w120 from q122).mono (Below.size HFB.out))
  clear hwx
  rcases E with _ | e
  · have hall := firstO_none3 hE
    have hk5 : st.kind ≤ 5 := of_decide_eq_true (HBB.out.1.trans hall.1)
    have hz : IntKind.i64.wrap (st.kind : Int) = (st.kind : Int) := by rw [IntKind.wrap_i64]; omega
    obtain ⟨F, hF⟩ : ∃ F, decide (st.f = 1) = F := ⟨_, rfl⟩
    have hF2 : ((st.f : Int) == 1) = F := by rw [← hF]; by_cases h : st.f = 1 <;> simp [h] <;> omega
    have ck : wx.cell? ⟨w.heap.size + 2, 0, none⟩ = some (.int .u64 (st.kind : Int)) := fI.k.cell 0
    have co : wx.cell? ⟨w.heap.size + 3, 0, none⟩ = some (.int .u64 (st.f : Int)) := fI.o.cell 0
    have t0 : wx.cell? ⟨w.heap.size + 1, 0, none⟩ = some (.int .i64 0) := fI.t.cell 0
    have t1 : wx.cell? ⟨w.heap.size + 1, 1, none⟩ = some (.string ⟨st.x.toArray⟩) := fI.t.cell 1
    have t2 : wx.cell? ⟨w.heap.size + 1, 2, none⟩ = some (.int .u64 (st.q : Int)) := fI.t.cell 2
    have t3 : wx.cell? ⟨w.heap.size + 1, 3, none⟩ = some (.bool false) := fI.t.cell 3
    have t4 : wx.cell? ⟨w.heap.size + 1, 4, none⟩ = some (.string ⟨st.s.toArray⟩) := fI.t.cell 4
    have tf : ∀ j, wx.frozen? ⟨w.heap.size + 1, j, none⟩ = false := fun j => Lib.frozen_of_heap fI.t j
    obtain ⟨ws, hws⟩ : ∃ ws, (wx.setCell ⟨w.heap.size + 1, 0, none⟩ (.int .i64 (st.kind : Int))).setCell ⟨w.heap.size + 1, 3, none⟩ (.bool F) = ws := ⟨_, rfl⟩
    have gt : Bk ws (w.heap.size + 1) #[.int .i64 (st.kind : Int), .string ⟨st.x.toArray⟩, .int .u64 (st.q : Int), .bool F, .string ⟨st.s.toArray⟩] 30 := by rw [← hws]; exact bk_set (bk_set fI.t 0 _) 3 _
    have gk : Kpt (w.heap.size + 1) wx ws := by rw [← hws]; exact kpt_set2 wx (w.heap.size + 1) 0 3 _ _
    have gr : Bk ws w.heap.size st0Cells 30 := gk.bk fI.r (by omega)
    have gx : Below w.heap.size w ws := fX.trans (gk.below (by omega) (Nat.le_of_lt fI.r.lt))
    have gn : Gn b ws := gn_base fI.gn HG.out.2.2 (gk.below (by omega) (Nat.le_of_lt fI.r.lt))
    have HWS := Lib.hid hws
    have HV2 := Lib.hid (show statV s.data.toList = ⟨(st.kind : Int), ⟨st.x.toArray⟩, st.q, F, ⟨st.s.toArray⟩⟩ by unfold statV; rw [HQ2.out]; simp only; rw [hF])
    have HFF := Lib.hid hF
    clear hws hE hF hk5 gk fX fI hall
    rw [show oV b none = .nilIface from rfl]
    simp only [show w.heap.size + 1 + 1 = w.heap.size + 2 from rfl, show w.heap.size + 2 + 1 = w.heap.size + 3 from rfl]
    go_wp2_with fail
    rw [HWS.out]
    clear HWS ck co t0 t1 t2 t3 t4 tf
    have gB : Base ws ws := Below.refl _ _
    obtain ⟨w125, hw126, hb127⟩ := drew_new ws
    have q128 := gB.later hb127
    have q129 := gt.later hb127
    have q130 := gr.later hb127
    have q131 := gn.later hb127
    refine wp_region_held_drew (S := (fun w' => w'.cell? ⟨w.heap.size + 1, 0, none⟩ = some (.int .i64 (st.kind : Int)) ∧ w'.cell? ⟨w.heap.size + 1, 1, none⟩ = some (.string ⟨st.x.toArray⟩) ∧ w'.cell? ⟨w.heap.size + 1, 2, none⟩ = some (.int .u64 (st.q : Int)) ∧ w'.cell? ⟨w.heap.size + 1, 3, none⟩ = some (.bool F) ∧ w'.cell? ⟨w.heap.size + 1, 4, none⟩ = some (.string ⟨st.s.toArray⟩) ∧ True)) (by kernel_rfl) (by rw [hw126]; exact ⟨q129.cell 0, q129.cell 1, q129.cell 2, q129.cell 3, q129.cell 4, trivial⟩) (fun hHeld => ?_)
    rw [hw126] at hHeld ⊢
    refine wpAnyH_take (i := 0) (oi := { dst := some 40, op := Op.load 30 (Operand.tmp 4), type := 30, pos := "read.go:96", after := #[], guard := none }) (v := ?v3001) rfl (by kernel_rfl) (by kernel_rfl) (by kernel_rfl) (fun _ _ _ h => h) (Or.inl ⟨by rfl, ?hy3001⟩) (by assumption) ?rest3001
    case hy3001 => (intro w1 hSw; (try dsimp only at hSw); obtain ⟨h0, h1, h2, h3, h4, -⟩ := hSw; go_simp; try with_reducible rfl)
    try simp only [Act.put, List.setIfInBounds_toArray, List.set_cons_zero, List.set_cons_succ]
    refine wpAnyH_take (i := 1) (oi := { dst := some 41, op := Op.load 30 (Operand.tmp 4), type := 30, pos := "read.go:96", after := #[], guard := none }) (v := ?v3002) rfl (by kernel_rfl) (by kernel_rfl) (by kernel_rfl) (fun _ _ _ h => h) (Or.inl ⟨by rfl, ?hy3002⟩) (by assumption) ?rest3002
    case hy3002 => (intro w1 hSw; (try dsimp only at hSw); obtain ⟨h0, h1, h2, h3, h4, -⟩ := hSw; go_simp; try with_reducible rfl)
    try simp only [Act.put, List.setIfInBounds_toArray, List.set_cons_zero, List.set_cons_succ]
    refine wpAnyH_ready (rs := [2]) (by kernel_rfl) (by simp) ?_
    refine AllReadyH.cons (o := { dst := some 42, op := Op.call { callee := Callee.value (Operand.func 16), args := #[Operand.tmp 41], argTypes := #[30] }, type := 50, pos := "read.go:96", after := #[{ on := 1, ground := Ground.data }], guard := none }) rfl (fun K hK => ?_) AllReadyH.nil
    go_simp
    refine (chkStat_any ⟨(st.kind : Int), ⟨st.x.toArray⟩, st.q, F, ⟨st.s.toArray⟩⟩ b _ q131).mono ?_
    rintro e w132 ⟨rfl, hb133⟩
    have q134 := q128.later hb133
    have q135 := q129.later hb133
    have q136 := q130.later hb133
    have q137 := q131.later hb133
    clear q128 q129 q130 q131
    have z0 : w132.cell? ⟨w.heap.size, 0, none⟩ = some (.int .i64 0) := q136.cell 0; have z1 : w132.cell? ⟨w.heap.size, 1, none⟩ = some (.string ⟨#[]⟩) := q136.cell 1; have z2 : w132.cell? ⟨w.heap.size, 2, none⟩ = some (.int .u64 0) := q136.cell 2; have z3 : w132.cell? ⟨w.heap.size, 3, none⟩ = some (.bool false) := q136.cell 3; have z4 : w132.cell? ⟨w.heap.size, 4, none⟩ = some (.string ⟨#[]⟩) := q136.cell 4; have zf : ∀ j, w132.frozen? ⟨w.heap.size, j, none⟩ = false := fun j => Lib.frozen_of_heap q136 j
    try clear hHeld
    refine hK.out _ _ (⟨q135.cell 0, q135.cell 1, q135.cell 2, q135.cell 3, q135.cell 4, trivial⟩) (fun hHeld => ?_)
    clear hK K
    try simp only [Act.put, List.setIfInBounds_toArray, List.set_cons_zero, List.set_cons_succ]
    refine wpAnyH_ready (rs := [3]) (by kernel_rfl) (by simp) ?_
    refine AllReadyH.cons (o := { dst := none, op := Op.store 30 (Operand.tmp 2) (Operand.tmp 40), type := 0, pos := "read.go:96", after := #[{ on := 0, ground := Ground.data }, { on := 2, ground := Ground.chain }, { on := 0, ground := Ground.phase }, { on := 1, ground := Ground.textOnly Departure.lateStores }, { on := 2, ground := Ground.textOnly Departure.lateStoresUnsure }], guard := none }) rfl (fun K hK => ?_) AllReadyH.nil
    go_simp
    have pS := bk_st5 (R := w.heap.size) q135 (by omega) (.int .i64 (st.kind : Int)) (.string ⟨st.x.toArray⟩) (.int .u64 (st.q : Int)) (.bool F) (.string ⟨st.s.toArray⟩)
    have pG := gn_st5 (R := w.heap.size) q137 HG.out.2.2 (.int .i64 (st.kind : Int)) (.string ⟨st.x.toArray⟩) (.int .u64 (st.q : Int)) (.bool F) (.string ⟨st.s.toArray⟩)
    try clear hHeld
    refine hK.out _ _ (⟨pS.cell 0, pS.cell 1, pS.cell 2, pS.cell 3, pS.cell 4, trivial⟩) (fun hHeld => ?_)
    clear hK K
    try simp only [Act.put, List.setIfInBounds_toArray, List.set_cons_zero, List.set_cons_succ]
    refine wpAnyH_take (i := 4) (oi := { dst := some 3, op := Op.assign (Operand.tmp 42), type := 50, pos := "read.go:96", after := #[{ on := 2, ground := Ground.data }, { on := 3, ground := Ground.chain }, { on := 0, ground := Ground.phase }, { on := 1, ground := Ground.phase }, { on := 2, ground := Ground.phase }, { on := 3, ground := Ground.phase }], guard := none }) (v := ?v3003) rfl (by kernel_rfl) (by kernel_rfl) (by kernel_rfl) (fun _ _ _ h => h) (Or.inl ⟨by rfl, ?hy3003⟩) (by assumption) ?rest3003
    case hy3003 => (intro w1 hSw; (try dsimp only at hSw); obtain ⟨h0, h1, h2, h3, h4, -⟩ := hSw; go_simp; try with_reducible rfl)
    try simp only [Act.put, List.setIfInBounds_toArray, List.set_cons_zero, List.set_cons_succ]
    refine wpAnyH_done (by kernel_rfl) ?_ _
    go_wp2_with fail
    have hrr : rr = (⟨(st.kind : Int), ⟨st.x.toArray⟩, st.q, F, ⟨st.s.toArray⟩⟩, St.wrong ⟨(st.kind : Int), ⟨st.x.toArray⟩, st.q, F, ⟨st.s.toArray⟩⟩) := by rw [← HRR.out]; unfold statR; rw [HE.out]; simp only; rw [HV2.out]
    have RR : Bk (((((w132.setCell ⟨w.heap.size, 0, none⟩ (.int .i64 (st.kind : Int))).setCell ⟨w.heap.size, 1, none⟩ (.string ⟨st.x.toArray⟩)).setCell ⟨w.heap.size, 2, none⟩ (.int .u64 (st.q : Int))).setCell ⟨w.heap.size, 3, none⟩ (.bool F)).setCell ⟨w.heap.size, 4, none⟩ (.string ⟨st.s.toArray⟩)) w.heap.size #[.int .i64 (st.kind : Int), .string ⟨st.x.toArray⟩, .int .u64 (st.q : Int), .bool F, .string ⟨st.s.toArray⟩] 30 := bk_set (bk_set (bk_set (bk_set (bk_set q136 0 _) 1 _) 2 _) 3 _) 4 _
    have g0 := RR.cell 0
    have g1 := RR.cell 1
    have g2 := RR.cell 2
    have g3 := RR.cell 3
    have g4 := RR.cell 4
    simp only [List.getElem?_toArray, List.getElem?_cons_zero, List.getElem?_cons_succ] at g0 g1 g2 g3 g4
    have hbz : Below w.heap.size w (((((w132.setCell ⟨w.heap.size, 0, none⟩ (.int .i64 (st.kind : Int))).setCell ⟨w.heap.size, 1, none⟩ (.string ⟨st.x.toArray⟩)).setCell ⟨w.heap.size, 2, none⟩ (.int .u64 (st.q : Int))).setCell ⟨w.heap.size, 3, none⟩ (.bool F)).setCell ⟨w.heap.size, 4, none⟩ (.string ⟨st.s.toArray⟩)) := ((((((gx.trans (q134.mono gx.size)).setCell (Nat.le_refl _) _).setCell (Nat.le_refl _) _).setCell (Nat.le_refl _) _).setCell (Nat.le_refl _) _).setCell (Nat.le_refl _) _)
    refine bodyPost_ret (v := .tuple #[.agg #[.int .i64 (st.kind : Int), .string ⟨st.x.toArray⟩, .int .u64 (st.q : Int), .bool F, .string ⟨st.s.toArray⟩], oV b (St.wrong ⟨(st.kind : Int), ⟨st.x.toArray⟩, st.q, F, ⟨st.s.toArray⟩⟩)]) ?_ rfl ⟨by rw [hrr] <;> rfl, hbz⟩
    generalize (((((w132.setCell ⟨w.heap.size, 0, none⟩ (.int .i64 (st.kind : Int))).setCell ⟨w.heap.size, 1, none⟩ (.string ⟨st.x.toArray⟩)).setCell ⟨w.heap.size, 2, none⟩ (.int .u64 (st.q : Int))).setCell ⟨w.heap.size, 3, none⟩ (.bool F)).setCell ⟨w.heap.size, 4, none⟩ (.string ⟨st.s.toArray⟩)) = Z2 at g0 g1 g2 g3 g4 ⊢
    simp [results, Tryd.results18, go_sem, g0, g1, g2, g3, g4]
  · have HRX := Lib.hid (show rr = (⟨0, ⟨#[]⟩, 0, false, ⟨#[]⟩⟩, some e) by rw [← HRR.out]; unfold statR; rw [HE.out])
    have z0 : wx.cell? ⟨w.heap.size, 0, none⟩ = some (.int .i64 0) := fI.r.cell 0
    have z1 : wx.cell? ⟨w.heap.size, 1, none⟩ = some (.string ⟨#[]⟩) := fI.r.cell 1
    have z2 : wx.cell? ⟨w.heap.size, 2, none⟩ = some (.int .u64 0) := fI.r.cell 2
    have z3 : wx.cell? ⟨w.heap.size, 3, none⟩ = some (.bool false) := fI.r.cell 3
    have z4 : wx.cell? ⟨w.heap.size, 4, none⟩ = some (.string ⟨#[]⟩) := fI.r.cell 4
    have zf : ∀ j, wx.frozen? ⟨w.heap.size, j, none⟩ = false := fun j => Lib.frozen_of_heap fI.r j
    have HIR := Lib.hid fI.r
    have HFX := Lib.hid fX
    clear fI fX hE
    rcases e with _ | ⟨j, l⟩
    · rw [show oV b (some []) = .iface 149 (.pointer (some b)) from rfl]
      go_wp2_with fail
      have hrr := HRX.out
      have RR : Bk (((((wx.setCell ⟨w.heap.size, 0, none⟩ (.int .i64 0)).setCell ⟨w.heap.size, 1, none⟩ (.string ⟨#[]⟩)).setCell ⟨w.heap.size, 2, none⟩ (.int .u64 0)).setCell ⟨w.heap.size, 3, none⟩ (.bool false)).setCell ⟨w.heap.size, 4, none⟩ (.string ⟨#[]⟩)) w.heap.size #[.int .i64 0, .string ⟨#[]⟩, .int .u64 0, .bool false, .string ⟨#[]⟩] 30 := bk_set (bk_set (bk_set (bk_set (bk_set HIR.out 0 _) 1 _) 2 _) 3 _) 4 _
      have g0 := RR.cell 0
      have g1 := RR.cell 1
      have g2 := RR.cell 2
      have g3 := RR.cell 3
      have g4 := RR.cell 4
      simp only [List.getElem?_toArray, List.getElem?_cons_zero, List.getElem?_cons_succ] at g0 g1 g2 g3 g4
      have hbz : Below w.heap.size w (((((wx.setCell ⟨w.heap.size, 0, none⟩ (.int .i64 0)).setCell ⟨w.heap.size, 1, none⟩ (.string ⟨#[]⟩)).setCell ⟨w.heap.size, 2, none⟩ (.int .u64 0)).setCell ⟨w.heap.size, 3, none⟩ (.bool false)).setCell ⟨w.heap.size, 4, none⟩ (.string ⟨#[]⟩)) := ((((((HFX.out).setCell (Nat.le_refl _) _).setCell (Nat.le_refl _) _).setCell (Nat.le_refl _) _).setCell (Nat.le_refl _) _).setCell (Nat.le_refl _) _)
      refine bodyPost_ret (v := .tuple #[.agg #[.int .i64 0, .string ⟨#[]⟩, .int .u64 0, .bool false, .string ⟨#[]⟩], .iface 149 (.pointer (some b))]) ?_ rfl ⟨by rw [hrr] <;> rfl, hbz⟩
      generalize (((((wx.setCell ⟨w.heap.size, 0, none⟩ (.int .i64 0)).setCell ⟨w.heap.size, 1, none⟩ (.string ⟨#[]⟩)).setCell ⟨w.heap.size, 2, none⟩ (.int .u64 0)).setCell ⟨w.heap.size, 3, none⟩ (.bool false)).setCell ⟨w.heap.size, 4, none⟩ (.string ⟨#[]⟩)) = Z2 at g0 g1 g2 g3 g4 ⊢
      simp [results, Tryd.results18, go_sem, g0, g1, g2, g3, g4]
    · rw [show oV b (some (j :: l)) = .iface 117 (.agg #[.int .i64 j, eV b l]) from rfl]
      go_wp2_with fail
      have hrr := HRX.out
      have RR : Bk (((((wx.setCell ⟨w.heap.size, 0, none⟩ (.int .i64 0)).setCell ⟨w.heap.size, 1, none⟩ (.string ⟨#[]⟩)).setCell ⟨w.heap.size, 2, none⟩ (.int .u64 0)).setCell ⟨w.heap.size, 3, none⟩ (.bool false)).setCell ⟨w.heap.size, 4, none⟩ (.string ⟨#[]⟩)) w.heap.size #[.int .i64 0, .string ⟨#[]⟩, .int .u64 0, .bool false, .string ⟨#[]⟩] 30 := bk_set (bk_set (bk_set (bk_set (bk_set HIR.out 0 _) 1 _) 2 _) 3 _) 4 _
      have g0 := RR.cell 0
      have g1 := RR.cell 1
      have g2 := RR.cell 2
      have g3 := RR.cell 3
      have g4 := RR.cell 4
      simp only [List.getElem?_toArray, List.getElem?_cons_zero, List.getElem?_cons_succ] at g0 g1 g2 g3 g4
      have hbz : Below w.heap.size w (((((wx.setCell ⟨w.heap.size, 0, none⟩ (.int .i64 0)).setCell ⟨w.heap.size, 1, none⟩ (.string ⟨#[]⟩)).setCell ⟨w.heap.size, 2, none⟩ (.int .u64 0)).setCell ⟨w.heap.size, 3, none⟩ (.bool false)).setCell ⟨w.heap.size, 4, none⟩ (.string ⟨#[]⟩)) := ((((((HFX.out).setCell (Nat.le_refl _) _).setCell (Nat.le_refl _) _).setCell (Nat.le_refl _) _).setCell (Nat.le_refl _) _).setCell (Nat.le_refl _) _)
      refine bodyPost_ret (v := .tuple #[.agg #[.int .i64 0, .string ⟨#[]⟩, .int .u64 0, .bool false, .string ⟨#[]⟩], .iface 117 (.agg #[.int .i64 j, eV b l])]) ?_ rfl ⟨by rw [hrr] <;> rfl, hbz⟩
      generalize (((((wx.setCell ⟨w.heap.size, 0, none⟩ (.int .i64 0)).setCell ⟨w.heap.size, 1, none⟩ (.string ⟨#[]⟩)).setCell ⟨w.heap.size, 2, none⟩ (.int .u64 0)).setCell ⟨w.heap.size, 3, none⟩ (.bool false)).setCell ⟨w.heap.size, 4, none⟩ (.string ⟨#[]⟩)) = Z2 at g0 g1 g2 g3 g4 ⊢
      simp [results, Tryd.results18, go_sem, g0, g1, g2, g3, g4]
theorem firstO_len3 {o : Option (List Int)} {B1 B2 : Bool} (h : ∀ x, o = some x → x.length ≤ 2) : ∀ x, firstO [o, needO 1 B1, needO 4 B2] = some x → x.length ≤ 2 := by
  intro x hx
  rcases o with _ | o
  · cases B1 <;> cases B2 <;> simp [firstO, needO] at hx <;> subst hx <;> simp
  · simp [firstO] at hx
    subst hx; exact h _ rfl
theorem statR_len (l : List UInt8) : ∀ x, (statR l).2 = some x → x.length ≤ 2 := by
  intro x hx
  unfold statR at hx
  cases hE : statE l with
  | some e =>
    rw [hE] at hx
    injection hx with hx
    subst hx
    unfold statE at hE
    exact firstO_len3 (msgP_len statStep_len ss0 4 l) _ hE
  | none =>
    rw [hE] at hx
    exact (St.wrong_is _).2 x hx
/-- A status is got: what it is, if nothing is wrong with it. -/
def statG (l : List UInt8) : St := if (statR l).2.isSome then ⟨0, ⟨#[]⟩, 0, false, ⟨#[]⟩⟩ else (statR l).1
set_option maxRecDepth 100000 in
set_option maxHeartbeats 2000000 in
theorem getStatus_any (s : ByteArray) (g b : Addr) (w : World) (hg : Gv g w) (hn : Gn b w) (hs : s.size ≤ 1099511627776) :
    Calls Tryd.prog 8 #[.string s] w fun e w' => e = .returned (.tuple #[(statG s.data.toList).v, .bool (!(statR s.data.toList).2.isSome)]) ∧ Below w.heap.size w w' := by
  have HI := Lib.hid (fun W => isE_any b (statR s.data.toList).2 W (statR_len s.data.toList))
  have HP := Lib.hid (fun W h1 h2 => readStatus_any s g b W h1 h2 hs)
  unfold statG
  generalize statR s.data.toList = q at HP HI ⊢
  obtain ⟨⟨t, x, n, f, d⟩, o⟩ := q
  dsimp only at HP HI ⊢
  generalize oV b o = V at HP HI
  obtain ⟨w0, hw0, hb0, p0⟩ := alloc_new w st0Cells 30
  have HW := Lib.hid hw0
  have H := Lib.hid (And.intro p0 (And.intro hb0 (And.intro (hg.below hb0) (hn.below hb0))))
  clear hw0 hb0 p0 hg hn hs
  go_enter Tryd.func8, Tryd.ntmps8
  go_wp2_with fail
  rw [HW.out]
  refine (HP.out w0 H.out.2.2.1 H.out.2.2.2).mono ?_
  rintro e w1 ⟨rfl, hb⟩
  obtain ⟨w2, hw2, hb2, p2⟩ := alloc_new w1 #[.int .i64 t, .string x, .int .u64 (n : Int), .bool f, .string d] 30
  have hb12 := hb.trans (hb2.mono hb.size)
  have HW2 := Lib.hid hw2
  have c0 := ((H.out.2.2.2).below hb).1
  have l0 := ((H.out.2.2.2).below hb).2
  have H2 := Lib.hid (And.intro (H.out.1.later hb12) (And.intro p2 (H.out.2.1.trans (hb12.mono H.out.2.1.size))))
  clear hw2 hb hb2 hb12 p2
  have c1 : w1.cell? ⟨0, 0, none⟩ = some (.iface 149 (.pointer (some b))) := c0
  have l1 : 0 < w1.heap.size := l0
  clear c0 l0
  go_wp2_with fail
  rw [HW2.out]
  refine (HI.out w2).mono ?_
  rintro e w3 ⟨rfl, hb⟩
  have HR := Lib.hid (H2.out.1.later hb)
  have HT := Lib.hid (H2.out.2.1.later hb)
  have HB := Lib.hid (H2.out.2.2.trans (hb.mono H2.out.2.2.size))
  have z0 : w3.cell? ⟨w.heap.size, 0, none⟩ = some (.int .i64 0) := HR.out.cell 0
  have z1 : w3.cell? ⟨w.heap.size, 1, none⟩ = some (.string ⟨#[]⟩) := HR.out.cell 1
  have z2 : w3.cell? ⟨w.heap.size, 2, none⟩ = some (.int .u64 0) := HR.out.cell 2
  have z3 : w3.cell? ⟨w.heap.size, 3, none⟩ = some (.bool false) := HR.out.cell 3
  have z4 : w3.cell? ⟨w.heap.size, 4, none⟩ = some (.string ⟨#[]⟩) := HR.out.cell 4
  have zf : ∀ j, w3.frozen? ⟨w.heap.size, j, none⟩ = false := fun j => Lib.frozen_of_heap HR.out j
  have t0 : w3.cell? ⟨w1.heap.size, 0, none⟩ = some (.int .i64 t) := HT.out.cell 0
  have t1 : w3.cell? ⟨w1.heap.size, 1, none⟩ = some (.string x) := HT.out.cell 1
  have t2 : w3.cell? ⟨w1.heap.size, 2, none⟩ = some (.int .u64 (n : Int)) := HT.out.cell 2
  have t3 : w3.cell? ⟨w1.heap.size, 3, none⟩ = some (.bool f) := HT.out.cell 3
  have t4 : w3.cell? ⟨w1.heap.size, 4, none⟩ = some (.string d) := HT.out.cell 4
  clear hb c1 l1 HW2
  cases o with
  | some x => 
    go_wp2_with fail
    have RR : Bk (((((w3.setCell ⟨w.heap.size, 0, none⟩ (.int .i64 0)).setCell ⟨w.heap.size, 1, none⟩ (.string ⟨#[]⟩)).setCell ⟨w.heap.size, 2, none⟩ (.int .u64 0)).setCell ⟨w.heap.size, 3, none⟩ (.bool false)).setCell ⟨w.heap.size, 4, none⟩ (.string ⟨#[]⟩)) w.heap.size #[.int .i64 0, .string ⟨#[]⟩, .int .u64 0, .bool false, .string ⟨#[]⟩] 30 := bk_set (bk_set (bk_set (bk_set (bk_set HR.out 0 _) 1 _) 2 _) 3 _) 4 _
    have g0 := RR.cell 0
    have g1 := RR.cell 1
    have g2 := RR.cell 2
    have g3 := RR.cell 3
    have g4 := RR.cell 4
    simp only [List.getElem?_toArray, List.getElem?_cons_zero, List.getElem?_cons_succ] at g0 g1 g2 g3 g4
    have hbz : Below w.heap.size w (((((w3.setCell ⟨w.heap.size, 0, none⟩ (.int .i64 0)).setCell ⟨w.heap.size, 1, none⟩ (.string ⟨#[]⟩)).setCell ⟨w.heap.size, 2, none⟩ (.int .u64 0)).setCell ⟨w.heap.size, 3, none⟩ (.bool false)).setCell ⟨w.heap.size, 4, none⟩ (.string ⟨#[]⟩)) := ((((((HB.out).setCell (Nat.le_refl _) _).setCell (Nat.le_refl _) _).setCell (Nat.le_refl _) _).setCell (Nat.le_refl _) _).setCell (Nat.le_refl _) _)
    refine bodyPost_ret (v := .tuple #[.agg #[.int .i64 0, .string ⟨#[]⟩, .int .u64 0, .bool false, .string ⟨#[]⟩], .bool false]) ?_ rfl ⟨rfl, hbz⟩
    generalize (((((w3.setCell ⟨w.heap.size, 0, none⟩ (.int .i64 0)).setCell ⟨w.heap.size, 1, none⟩ (.string ⟨#[]⟩)).setCell ⟨w.heap.size, 2, none⟩ (.int .u64 0)).setCell ⟨w.heap.size, 3, none⟩ (.bool false)).setCell ⟨w.heap.size, 4, none⟩ (.string ⟨#[]⟩)) = Z2 at g0 g1 g2 g3 g4 ⊢
    simp [results, Tryd.results8, go_sem, g0, g1, g2, g3, g4]
  | none => 
    go_wp2_with fail
    have RR : Bk (((((w3.setCell ⟨w.heap.size, 0, none⟩ (.int .i64 t)).setCell ⟨w.heap.size, 1, none⟩ (.string x)).setCell ⟨w.heap.size, 2, none⟩ (.int .u64 (n : Int))).setCell ⟨w.heap.size, 3, none⟩ (.bool f)).setCell ⟨w.heap.size, 4, none⟩ (.string d)) w.heap.size #[.int .i64 t, .string x, .int .u64 (n : Int), .bool f, .string d] 30 := bk_set (bk_set (bk_set (bk_set (bk_set HR.out 0 _) 1 _) 2 _) 3 _) 4 _
    have g0 := RR.cell 0
    have g1 := RR.cell 1
    have g2 := RR.cell 2
    have g3 := RR.cell 3
    have g4 := RR.cell 4
    simp only [List.getElem?_toArray, List.getElem?_cons_zero, List.getElem?_cons_succ] at g0 g1 g2 g3 g4
    have hbz : Below w.heap.size w (((((w3.setCell ⟨w.heap.size, 0, none⟩ (.int .i64 t)).setCell ⟨w.heap.size, 1, none⟩ (.string x)).setCell ⟨w.heap.size, 2, none⟩ (.int .u64 (n : Int))).setCell ⟨w.heap.size, 3, none⟩ (.bool f)).setCell ⟨w.heap.size, 4, none⟩ (.string d)) := ((((((HB.out).setCell (Nat.le_refl _) _).setCell (Nat.le_refl _) _).setCell (Nat.le_refl _) _).setCell (Nat.le_refl _) _).setCell (Nat.le_refl _) _)
    refine bodyPost_ret (v := .tuple #[.agg #[.int .i64 t, .string x, .int .u64 (n : Int), .bool f, .string d], .bool true]) ?_ rfl ⟨rfl, hbz⟩
    generalize (((((w3.setCell ⟨w.heap.size, 0, none⟩ (.int .i64 t)).setCell ⟨w.heap.size, 1, none⟩ (.string x)).setCell ⟨w.heap.size, 2, none⟩ (.int .u64 (n : Int))).setCell ⟨w.heap.size, 3, none⟩ (.bool f)).setCell ⟨w.heap.size, 4, none⟩ (.string d)) = Z2 at g0 g1 g2 g3 g4 ⊢
    simp [results, Tryd.results8, go_sem, g0, g1, g2, g3, g4]
end Go.Proofs.YtbflbgnafdbngaaDoor
