/- merge: Union, Want, Lean. -/
import Derived.Test.YtkjfafnnnkjoeaaGreatDoorMgSet
namespace Go.Proofs.YtkjfafnnnkjoeaaGreatDoor
open Go.RowKit Go.Lib

theorem uni_fit {W : Wants} (h1 : WOk W) (h2 : WFit W) (k : Int) : NsR (uni W k) ∧ (∀ x, 0 < cnt W k x ↔ x ∈ nList (uni W k)) ∧ (nList (uni W k)).length ≤ 64 ∧ (∀ x ∈ nList (uni W k), x.length ≤ 1000) ∧ NmFit (uni W k).ns :=
  ⟨nsr_uni h1 k, fun x => (mem_list_uni _ k x).symm, h2.n k, uni_names fun i x hx => h2.l i k x hx, list_fit (Nat.le_trans (list_ns _) (by have := h2.n k; omega)) (fun x hx => uni_names (fun i x hx => h2.l i k x hx) x ((mem_list _ x).2 (.inr hx)))⟩
theorem want_fit {W : Wants} (h1 : WOk W) (h2 : WFit W) (i k : Int) : NmFit (W i k).ns ∧ (∀ x ∈ (W i k).ns, x.length ≤ 1000) ∧ (nList (W i k)).length ≤ 64 := by
  have hl : (nList (W i k)).length ≤ 64 := by
    by_cases hb : badI i k = true
    · rw [h1.z i k hb]; exact Nat.zero_le _
    · have hb' : badI i k = false := by simpa using hb
      obtain ⟨⟨i1, i2⟩, _⟩ := badI_no.1 hb'
      exact Nat.le_trans (nodup_len (list_nodup (h1.r i k)) fun x hx => by rw [mem_list_uni]; exact has_cnt (mem_ids.2 ⟨i1, i2⟩) hx) (h2.n k)
  exact ⟨list_fit (Nat.le_trans (list_ns _) (by omega)) (fun x hx => by have := h2.l i k x hx; omega), fun x hx => by have := h2.l i k x hx; omega, hl⟩
/-- A set comes out of a box. -/
theorem box_set {w w' : World} {R : Nat} {sa : Bool} {sl : List (List UInt8)} {a : Option Addr} {c : Nat} (hq : Blk w' R zSet 41) (ht : TsAt w' (.slice a sl.length c) sl) (hb : Below w.heap.size w w') (hR : w.heap.size ≤ R) :
    ∃ w9, (w'.setCell ⟨R, 0, none⟩ (.bool sa)).setCell ⟨R, 1, none⟩ (.slice a sl.length c) = w9 ∧ w9.cell? ⟨R, 0, none⟩ = some (.bool sa) ∧ w9.cell? ⟨R, 1, none⟩ = some (.slice a sl.length c) ∧ SetPost sa sl w (.returned (.agg #[.bool sa, .slice a sl.length c])) w9 := by
  have r0 : w'.cell? ⟨R, 0, none⟩ = some (.bool false) := hq.cell 0
  have r1 : w'.cell? ⟨R, 1, none⟩ = some (.slice none 0 0) := hq.cell 1
  obtain ⟨t0, t1⟩ := two_cells (.bool sa) (.slice a sl.length c) r0 r1
  exact ⟨_, rfl, t0, t1, a, c, rfl, ht.set2 _ _ r0 r1, below_set2 (R := R) hb hR _ _⟩
set_option maxRecDepth 100000 in
set_option maxHeartbeats 2000000 in
theorem mgUnion_any {base m : Nat} {W : Wants} {k : Int} {w : World} (h : MgIs base m W w) (hk : i64B k) :
    Calls Tryz.prog 13 #[.pointer (some ⟨m, 0, none⟩), .int .i64 k] w (SetPost (uni W k).all (uni W k).ns w) := by
  obtain ⟨hwo, hwf, mw, mc, C, D, hin⟩ := h
  obtain ⟨f1, f2, f3, f4, _⟩ := uni_fit hwo hwf k
  obtain ⟨w1, hw1, hb1, q1⟩ := alloc_new w zSet 41
  have hin1 := hin.later hb1
  have c1 : w.cell? ⟨m, 1, none⟩ = some (.map (some mc)) := hin.blk.cell 1
  have c1' : w1.cell? ⟨m, 1, none⟩ = some (.map (some mc)) := hin1.blk.cell 1
  have hlk := hin1.lookC hk
  have HC := Lib.hid (tset_any (hin1.cv k) f1 f2 (by omega) f4)
  obtain ⟨U, hU⟩ : ∃ U, uni W k = U := ⟨_, rfl⟩
  rw [hU] at HC ⊢
  have HW := Lib.hid hw1
  have HB := Lib.hid hb1
  have HQ := Lib.hid q1
  clear hw1 hb1 q1 hin hin1 hwo hwf f1 f2 f3 f4 hU c1
  go_enter Tryz.func13, Tryz.ntmps13
  go_wp2_with (rw [HW.out])
  refine HC.out.mono ?_
  rintro e w2 ⟨a2, c2, rfl, ht, hb⟩
  have q2 := HQ.out.later hb
  have r0 : w2.cell? ⟨w.heap.size, 0, none⟩ = some (.bool false) := q2.cell 0
  have r1 : w2.cell? ⟨w.heap.size, 1, none⟩ = some (.slice none 0 0) := q2.cell 1
  have g0 := q2.frozen 0
  have g1 := q2.frozen 1
  have HE := Lib.hid (box_set (w := w) (sa := U.all) q2 ht (HB.out.trans (hb.mono HB.out.size)) (Nat.le_refl _))
  clear ht hb q2 hlk c1'
  go_wp2_with fail
  obtain ⟨w9, e9, t0, t1, hp⟩ := HE.out
  rw [e9]
  exact bodyPost_ret (v := .agg #[.bool U.all, .slice a2 U.ns.length c2]) (by simp [results, Tryz.results13, go_sem, t0, t1]) rfl hp
set_option maxRecDepth 100000 in
set_option maxHeartbeats 2000000 in
theorem mgWant_any {base m : Nat} {W : Wants} {i k : Int} {w : World} (h : MgIs base m W w) (hi : i64B i) (hk : i64B k) :
    Calls Tryz.prog 15 #[.pointer (some ⟨m, 0, none⟩), .int .i64 i, .int .i64 k] w (SetPost (W i k).all (W i k).ns w) := by
  obtain ⟨hwo, hwf, mw, mc, C, D, hin⟩ := h
  obtain ⟨f1, f2, _⟩ := want_fit hwo hwf i k
  obtain ⟨w1, hw1, hb1, q1⟩ := alloc_new w zSet 41
  have hin1 := hin.later hb1
  have c1' : w1.cell? ⟨m, 0, none⟩ = some (.map (some mw)) := hin1.blk.cell 0
  obtain ⟨oA, oc, hwv, hot⟩ := (hin1.wv i k).val
  have hlk := hin1.lookW hi hk
  rw [hwv] at hlk
  have HC := Lib.hid (own_any (sa := (W i k).all) hot f1 f2)
  obtain ⟨U, hU⟩ : ∃ U, W i k = U := ⟨_, rfl⟩
  rw [hU] at HC hlk ⊢
  have HW := Lib.hid hw1
  have HB := Lib.hid hb1
  have HQ := Lib.hid q1
  clear hw1 hb1 q1 hin hin1 hwo hwf f1 f2 hU hwv hot
  go_enter Tryz.func15, Tryz.ntmps15
  go_wp2_with (rw [HW.out])
  refine HC.out.mono ?_
  rintro e w2 ⟨a2, c2, rfl, ht, hb⟩
  have q2 := HQ.out.later hb
  have r0 : w2.cell? ⟨w.heap.size, 0, none⟩ = some (.bool false) := q2.cell 0
  have r1 : w2.cell? ⟨w.heap.size, 1, none⟩ = some (.slice none 0 0) := q2.cell 1
  have g0 := q2.frozen 0
  have g1 := q2.frozen 1
  have HE := Lib.hid (box_set (w := w) (sa := U.all) q2 ht (HB.out.trans (hb.mono HB.out.size)) (Nat.le_refl _))
  clear ht hb q2 hlk c1'
  go_wp2_with fail
  obtain ⟨w9, e9, t0, t1, hp⟩ := HE.out
  rw [e9]
  exact bodyPost_ret (v := .agg #[.bool U.all, .slice a2 U.ns.length c2]) (by simp [results, Tryz.results15, go_sem, t0, t1]) rfl hp
/-- What is to be asked for. -/
def leanM (U : Ns) : Ns := if U.all then ⟨true, []⟩ else U
set_option maxRecDepth 100000 in
set_option maxHeartbeats 2000000 in
theorem mgLean_any {base m : Nat} {W : Wants} {k : Int} {w : World} (h : MgIs base m W w) (hk : i64B k) :
    Calls Tryz.prog 17 #[.pointer (some ⟨m, 0, none⟩), .int .i64 k] w (SetPost (leanM (uni W k)).all (leanM (uni W k)).ns w) := by
  obtain ⟨w1, hw1, hb1, q1⟩ := alloc_new w zSet 41
  have HC := Lib.hid (mgUnion_any (h.later hb1) hk)
  obtain ⟨U, hU⟩ : ∃ U, uni W k = U := ⟨_, rfl⟩
  rw [hU] at HC ⊢
  have HW := Lib.hid hw1
  have HB := Lib.hid hb1
  have HQ := Lib.hid q1
  have hlt : w.heap.size < w1.heap.size := q1.lt
  clear hw1 hb1 q1 h hU
  go_enter Tryz.func17, Tryz.ntmps17
  go_wp2_with (rw [HW.out])
  refine HC.out.mono ?_
  rintro e w2 ⟨a2, c2, rfl, ht, hb⟩
  obtain ⟨w3, hw3, hb3, q3⟩ := alloc_new w2 #[.bool U.all, .slice a2 U.ns.length c2] 41
  have q2 := (HQ.out.later hb).later hb3
  have HB3 := Lib.hid ((HB.out.trans (hb.mono HB.out.size)).trans (hb3.mono (Nat.le_trans HB.out.size hb.size)))
  have HT := Lib.hid (ht.later hb3)
  have HW3 := Lib.hid hw3
  have z0 : w3.cell? ⟨w2.heap.size, 0, none⟩ = some (.bool U.all) := q3.cell 0
  have z1 : w3.cell? ⟨w2.heap.size, 1, none⟩ = some (.slice a2 U.ns.length c2) := q3.cell 1
  have r0 : w3.cell? ⟨w.heap.size, 0, none⟩ = some (.bool false) := q2.cell 0
  have r1 : w3.cell? ⟨w.heap.size, 1, none⟩ = some (.slice none 0 0) := q2.cell 1
  have g0 := q2.frozen 0
  have g1 := q2.frozen 1
  have HQ2 := Lib.hid q2
  clear ht hb hw3 hb3 q2 q3
  cases hall : U.all with
  | true =>
    rw [hall] at z0 HW3
    have hl : leanM U = ⟨true, []⟩ := if_pos hall
    have HLM := Lib.hid (And.intro hl hall)
    have HE := Lib.hid (box_set (w := w) (sa := true) (sl := []) (a := none) (c := 0) HQ2.out (RowV.nil _ _ _ (Nat.zero_le _)) HB3.out (Nat.le_refl _))
    clear hl
    go_wp2_with (rw [HW3.out])
    obtain ⟨w9, e9, t0, t1, hp⟩ := HE.out
    have e9' : (w3.setCell ⟨w.heap.size, 0, none⟩ (.bool true)).setCell ⟨w.heap.size, 1, none⟩ (.slice none 0 0) = w9 := e9
    rw [e9']
    have t1' : w9.cell? ⟨w.heap.size, 1, none⟩ = some (.slice none 0 0) := t1
    exact bodyPost_ret (v := .agg #[.bool true, .slice none 0 0]) (by simp [results, Tryz.results17, go_sem, t0, t1']) rfl (by rw [HLM.out.1]; exact hp)
  | false =>
    rw [hall] at z0 HW3
    have hl : leanM U = U := if_neg (by rw [hall]; decide)
    have HLM := Lib.hid (And.intro hl hall)
    have HE := Lib.hid (box_set (w := w) (sa := U.all) HQ2.out HT.out HB3.out (Nat.le_refl _))
    rw [hall] at HE
    clear hl
    go_wp2_with (rw [HW3.out])
    obtain ⟨w9, e9, t0, t1, hp⟩ := HE.out
    rw [e9]
    exact bodyPost_ret (v := .agg #[.bool false, .slice a2 U.ns.length c2]) (by simp [results, Tryz.results17, go_sem, t0, t1]) rfl (by rw [HLM.out.1, HLM.out.2]; exact hp)
end Go.Proofs.YtkjfafnnnkjoeaaGreatDoor
