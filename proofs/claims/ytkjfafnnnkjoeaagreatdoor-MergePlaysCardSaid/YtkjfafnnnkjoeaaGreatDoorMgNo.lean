/- merge: errnoOf, checkSet, checkDrop; New. -/
import Derived.Test.YtkjfafnnnkjoeaaGreatDoorMgErr
namespace Go.Proofs.YtkjfafnnnkjoeaaGreatDoor
open Go.RowKit Go.Lib

theorem KeptM.apart {B : Nat} {a b : Addr} {w w' : World} (h : KeptM B w w') (hab : Apart a b w) : Apart a b w' := by
  obtain ⟨ne, ⟨c, t, h1⟩, ⟨c', t', h2⟩⟩ := hab
  refine ⟨ne, ⟨c, t, (h.block _ (Array.getElem?_eq_some_iff.1 h1).1 ?_).trans h1⟩, ⟨c', t', (h.block _ (Array.getElem?_eq_some_iff.1 h2).1 ?_).trans h2⟩⟩
  · rintro ⟨_, es, clock, hc⟩; rw [h1] at hc; cases hc
  · rintro ⟨_, es, clock, hc⟩; rw [h2] at hc; cases hc
theorem KeptM.gm {B : Nat} {a f n : Addr} {w w' : World} (h : KeptM B w w') (hg : Gm a f n w) : Gm a f n w' :=
  ⟨h.cell hg.ca, h.cell hg.cf, h.cell hg.cn, Nat.lt_of_lt_of_le hg.la h.size, Nat.lt_of_lt_of_le hg.lf h.size, Nat.lt_of_lt_of_le hg.ln h.size, h.apart hg.fa, h.apart hg.na, h.apart hg.nf⟩
/-- An error of those three, or none. -/
def ernV (a f n : Addr) (k : Int) (e : Nat) : Value := if e = 1 then fG k a else if e = 4 then fG k f else if e = 5 then fG k n else .nilIface
set_option maxRecDepth 100000 in
theorem errno_any (a f n : Addr) (k : Int) (e : Nat) (he : e = 0 ∨ e = 1 ∨ e = 4 ∨ e = 5) (w : World) (hg : Gm a f n w) :
    Calls Tryz.prog 28 #[ernV a f n k e] w fun r w' => r = .returned (.int .i64 (e : Int)) ∧ Below w.heap.size w w' := by
  have H := Lib.hid hg
  have z0 := hg.ca
  clear hg
  rcases he with rfl | rfl | rfl | rfl
  · have z1 := H.out.cf
    have z2 := H.out.cn
    have e0 : ernV a f n k 0 = .nilIface := rfl
    rw [e0]
    go_enter Tryz.func28, Tryz.ntmps28
    go_wp2_with (go_at_call 47; refine (is_nil _ _).mono ?_; rintro e w' ⟨rfl, rfl⟩)
    go_ret
    exact ⟨rfl, Below.refl _ _⟩
  · have e0 : ernV a f n k 1 = fG k a := rfl
    rw [e0]
    go_enter Tryz.func28, Tryz.ntmps28
    go_wp2_with fail
    refine (gIs_yes k a w).mono ?_
    rintro e w1 ⟨rfl, hb1⟩
    have HB := Lib.hid hb1
    clear hb1
    go_wp2_with fail
    go_ret
    exact ⟨rfl, HB.out⟩
  · have e0 : ernV a f n k 4 = fG k f := rfl
    rw [e0]
    go_enter Tryz.func28, Tryz.ntmps28
    go_wp2_with fail
    refine (gIs_no k f a w H.out.fa).mono ?_
    rintro e w1 ⟨rfl, hb1⟩
    have HB := Lib.hid hb1
    have H1 := Lib.hid (H.out.later hb1)
    have z1 := H1.out.cf
    clear hb1 z0
    go_wp2_with fail
    refine (gIs_yes k f w1).mono ?_
    rintro e w2 ⟨rfl, hb2⟩
    have HB := Lib.hid (HB.out.trans (hb2.mono HB.out.size))
    clear hb2 z1
    go_wp2_with fail
    go_ret
    exact ⟨rfl, HB.out⟩
  · have e0 : ernV a f n k 5 = fG k n := rfl
    rw [e0]
    go_enter Tryz.func28, Tryz.ntmps28
    go_wp2_with fail
    refine (gIs_no k n a w H.out.na).mono ?_
    rintro e w1 ⟨rfl, hb1⟩
    have HB := Lib.hid hb1
    have H1 := Lib.hid (H.out.later hb1)
    have z1 := H1.out.cf
    clear hb1 z0
    go_wp2_with fail
    refine (gIs_no k n f w1 H1.out.nf).mono ?_
    rintro e w2 ⟨rfl, hb2⟩
    have HB := Lib.hid (HB.out.trans (hb2.mono HB.out.size))
    have H2 := Lib.hid (H1.out.later hb2)
    have z2 := H2.out.cn
    clear hb2 z1
    go_wp2_with fail
    refine (gIs_yes k n w2).mono ?_
    rintro e w3 ⟨rfl, hb3⟩
    have HB := Lib.hid (HB.out.trans (hb3.mono HB.out.size))
    clear hb3 z2
    go_wp2_with fail
    go_ret
    exact ⟨rfl, HB.out⟩
/-- What checkSet answers. -/
def chkS (i k : Int) (s : Ns) : Nat := if badI i k then 1 else if 64 < (nList s).length then 4 else 0
set_option maxRecDepth 100000 in
set_option maxHeartbeats 2000000 in
theorem chkSet_any (a f n : Addr) (i k : Int) {sa : Bool} {sl : List (List UInt8)} {a1 : Option Addr} {c1 : Nat} {w : World} (hg : Gm a f n w) (hs : TsAt w (.slice a1 sl.length c1) sl) (hl : (nList ⟨sa, sl⟩).length ≤ 1000) :
    Calls Tryz.prog 30 #[.int .i64 i, .int .i64 k, .agg #[.bool sa, .slice a1 sl.length c1]] w fun r w' => r = .returned (ernV a f n i (chkS i k ⟨sa, sl⟩)) ∧ Below w.heap.size w w' := by
  obtain ⟨n1, hn1⟩ : ∃ n, sl.length = n := ⟨_, rfl⟩
  rw [hn1] at hs ⊢
  obtain ⟨w1, hw1, hb1, q1⟩ := alloc_new w #[.bool sa, .slice a1 n1 c1] 41
  have HG := Lib.hid (hg.later hb1)
  have HW := Lib.hid hw1
  have HB := Lib.hid hb1
  have HQ := Lib.hid q1
  have HS := Lib.hid (hs.later hb1)
  have HN := Lib.hid hn1
  have HL := Lib.hid hl
  clear hw1 hb1 q1 hs hg hn1 hl
  by_cases hbad : badI i k = true
  · have e0 : chkS i k ⟨sa, sl⟩ = 1 := by unfold chkS; rw [if_pos hbad]
    rw [e0, show ernV a f n i 1 = fG i a from rfl]
    have z0 := HG.out.ca
    unfold badI at hbad
    simp only [Bool.or_eq_true, decide_eq_true_eq] at hbad
    have hh : i < 1 ∨ (¬ i < 1 ∧ 32 < i) ∨ (¬ i < 1 ∧ ¬ 32 < i ∧ k < 1) ∨ (¬ i < 1 ∧ ¬ 32 < i ∧ ¬ k < 1 ∧ 5 < k) := by omega
    clear hbad e0
    rcases hh with h1 | ⟨h1, h2⟩ | ⟨h1, h2, h3⟩ | ⟨h1, h2, h3, h4⟩
    all_goals
      go_enter Tryz.func30, Tryz.ntmps30
      go_wp2_with (rw [HW.out])
      go_ret
      exact ⟨rfl, HB.out⟩
  · have hbad' : badI i k = false := by simpa using hbad
    obtain ⟨⟨i1, i2⟩, k1, k2⟩ := badI_no.1 hbad'
    have h1 : ¬ i < 1 := by omega
    have h2 : ¬ 32 < i := by omega
    have h3 : ¬ k < 1 := by omega
    have h4 : ¬ 5 < k := by omega
    obtain ⟨L, hL⟩ : ∃ L, nList ⟨sa, sl⟩ = L := ⟨_, rfl⟩
    have hli := list_any (sa := sa) (sl := sl) (a := a1) (c := c1) (L := L) (w := w1) (by rw [HN.out]; exact HS.out) hL (by have := HL.out; rw [hL] at this; omega)
    rw [HN.out] at hli
    have HLI := Lib.hid hli
    have z1 : w1.cell? ⟨w.heap.size, 0, none⟩ = some (.bool sa) := HQ.out.cell 0
    have z2 : w1.cell? ⟨w.heap.size, 1, none⟩ = some (.slice a1 n1 c1) := HQ.out.cell 1
    obtain ⟨m, hm⟩ : ∃ m, L.length = m := ⟨_, rfl⟩
    rw [hm] at HLI
    have HC := Lib.hid (show chkS i k ⟨sa, sl⟩ = if 64 < m then 4 else 0 by unfold chkS; rw [if_neg hbad, hL, hm])
    clear hli hbad hbad' i1 i2 k1 k2 hL hm
    go_enter Tryz.func30, Tryz.ntmps30
    go_wp2_with (rw [HW.out])
    refine HLI.out.mono ?_
    rintro e w2 ⟨a2, c2, rfl, -, hb2⟩
    have HB2 := Lib.hid (HB.out.trans (hb2.mono HB.out.size))
    have HG2 := Lib.hid (HG.out.later hb2)
    clear hb2 z1 z2
    by_cases h64 : 64 < m
    · have b1 : (64 : Int) < (m : Int) := by omega
      have z0 := HG2.out.cf
      have HE := Lib.hid (HC.out.trans (if_pos h64))
      clear h64
      go_wp2_with fail
      go_ret
      exact ⟨by rw [HE.out]; rfl, HB2.out⟩
    · have b1 : ¬ (64 : Int) < (m : Int) := by omega
      have HE := Lib.hid (HC.out.trans (if_neg h64))
      clear h64
      go_wp2_with fail
      go_ret
      exact ⟨by rw [HE.out]; rfl, HB2.out⟩
set_option maxRecDepth 100000 in
theorem mgNew_any (w : World) : Calls Tryz.prog 5 #[] w fun e w' => ∃ m, e = .returned (.pointer (some ⟨m, 0, none⟩)) ∧ MgIs w.heap.size m (fun _ _ => Ns.zero) w' ∧ Below w.heap.size w w' := by
  have hmm := @run_makeMap Tryz.prog
  have hE : MgIs w.heap.size (w.heap.size + 1 + 1) (fun _ _ => Ns.zero) (((w.alloc (.map #[] 0)).alloc (.map #[] 0)).alloc (.cells #[.map (some w.heap.size), .map (some (w.heap.size + 1))] 65)) := by
    refine ⟨⟨fun _ _ => nsr_zero, fun _ _ _ => rfl⟩, ⟨fun k => ?_, fun i k x hx => by cases hx⟩, w.heap.size, w.heap.size + 1, fun _ => none, fun _ => none, ⟨?_, by omega, Nat.le_refl _, by omega, by omega, ?_, fun _ _ => rfl, ?_, fun k => .inl ⟨rfl, fun x => ?_⟩, fun k tb h => by cases h⟩⟩
    · have : nList (uni (fun _ _ => Ns.zero) k) = [] := List.eq_nil_iff_forall_not_mem.2 fun x hx => by
        rw [mem_list_uni] at hx
        unfold cnt at hx
        rw [List.countP_pos_iff] at hx
        obtain ⟨i, _, h⟩ := hx
        cases h
      rw [this]; exact Nat.zero_le _
    · have := Blk.new ((w.alloc (.map #[] 0)).alloc (.map #[] 0)) #[.map (some w.heap.size), .map (some (w.heap.size + 1))] 65
      simpa using this
    · exact (kmap_new tkV tkOk w).below (n := w.heap.size + 1) (((Below.refl _ _).alloc (by simp) _).alloc (by simp) _) (by omega)
    · have := kmap_new ikV i64B (w.alloc (.map #[] 0))
      rw [show (w.alloc (.map #[] 0)).heap.size = w.heap.size + 1 by simp] at this
      exact this.below (n := w.heap.size + 1 + 1) ((Below.refl _ _).alloc (by simp) _) (by omega)
    · unfold cnt
      rw [List.countP_eq_zero]
      intro i _ h
      cases h
  have HE := Lib.hid hE
  clear hE
  go_enter Tryz.func5, Tryz.ntmps5
  go_wp2_with fail
  go_ret
  exact ⟨_, rfl, HE.out, (((Below.refl _ _).alloc (Nat.le_refl _) _).alloc (by simp) _).alloc (by simp; omega) _⟩
end Go.Proofs.YtkjfafnnnkjoeaaGreatDoor
