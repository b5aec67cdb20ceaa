/- merge: tally.set. -/
import Derived.Test.YtkjfafnnnkjoeaaGreatDoorMgAt
namespace Go.Proofs.YtkjfafnnnkjoeaaGreatDoor
open Go.RowKit Go.Lib

theorem own_kind {w : World} {base e size n : Nat} {v : Value} {xs : List Value} (h : w.ownsRow base e size v n xs) {g : Nat} (hg : v.ownBlock = some g) : ∃ c fz, w.heap[g]? = some (.cells c e fz) := by
  rcases h.2 with ⟨rfl, _⟩ | ⟨g', cap, cur, rfl, hb, hh, rest⟩
  · cases hg
  · cases hg; exact ⟨_, _, hh⟩
theorem nOf_mem {l l' : List (List UInt8)} (h : ∀ x, x ∈ l ↔ x ∈ l') : nOf okN l = nOf okN l' := by
  refine ns_eq ?_ (rises_eq (srt_rises _) (srt_rises _) fun x => ?_)
  · show l.contains starB' = l'.contains starB'
    rw [Bool.eq_iff_iff, List.contains_iff_mem, List.contains_iff_mem, h]
  · show x ∈ (nOf okN l).ns ↔ x ∈ (nOf okN l').ns
    rw [mem_of, mem_of, h]
theorem list_ns (U : Ns) : U.ns.length ≤ (nList U).length := by unfold nList; rw [List.length_append]; omega
theorem KRange.iter {κ : Type} {enc : κ → Value} {ok : κ → Prop} {w : World} {b r : Nat} {C : κ → Option Value} {done : List κ} (h : KRange enc ok w b r C done) : ∃ m since seen c0, w.heap[r]? = some (.mapIter m since seen c0) ∧ True := by
  obtain ⟨es, clock, since, seen, c0, hb, hst, h1, h2, hr, _⟩ := h
  exact ⟨_, _, _, _, hr, trivial⟩
theorem KRange.mapB {κ : Type} {enc : κ → Value} {ok : κ → Prop} {w : World} {b r : Nat} {C : κ → Option Value} {done : List κ} (h : KRange enc ok w b r C done) : ∃ es clock, w.heap[b]? = some (.map es clock) := by
  obtain ⟨es, clock, since, seen, c0, hb, _⟩ := h
  exact ⟨_, _, hb⟩
theorem krLeft_eq {w w' : World} {b r : Nat} (hb : w'.heap[b]? = w.heap[b]?) (hr : w'.heap[r]? = w.heap[r]?) : krLeft w' b r = krLeft w b r := by unfold krLeft; rw [hb, hr]
theorem KRange.sub {κ : Type} {enc : κ → Value} {ok : κ → Prop} {w : World} {b r : Nat} {C : κ → Option Value} {done : List κ} (h : KRange enc ok w b r C done) : done.Nodup ∧ ∀ s ∈ done, (C s).isSome := by
  obtain ⟨es, clock, since, seen, c0, _, _, _, _, _, _, _, _, hnd, _, hdn⟩ := h
  exact ⟨hnd, hdn⟩
theorem list_fit {L : List (List UInt8)} (hL : L.length ≤ 1000) (hl : ∀ x ∈ L, x.length ≤ 1000) : NmFit L := ⟨fun s hs => by have := hl s hs; unfold maxLen; omega, by omega⟩
set_option maxRecDepth 100000 in
set_option maxHeartbeats 4000000 in
/-- What is named in a tally, as a set. -/
theorem tset_any {v : Value} {T : List UInt8 → Nat} {U : Ns} {w : World} (h : Tally w v T) (hU : NsR U) (hT : ∀ x, 0 < T x ↔ x ∈ nList U) (hn : (nList U).length ≤ 1000) (hl : ∀ x ∈ nList U, x.length ≤ 1000) :
    Calls Tryz.prog 38 #[v] w (SetPost U.all U.ns w) := by
  obtain ⟨i0, hi, hz0, hz1, hz2⟩ := info_parts Tryz.infoStr
  obtain ⟨w1, hw1, hb1, q1⟩ := alloc_new w #[.bool false, .slice none 0 0] 41
  have HUL := Lib.hid (show U.ns.length ≤ 1000 ∧ ∀ x ∈ U.ns, x.length ≤ 1000 from ⟨Nat.le_trans (list_ns U) hn, fun x hx => hl x ((mem_list U x).2 (.inr hx))⟩)
  have HW1 := Lib.hid hw1
  have HB1 := Lib.hid hb1
  have HQ1 := Lib.hid q1
  have HT := Lib.hid hT
  have HNL := Lib.hid (And.intro hn hl)
  have HU := Lib.hid hU
  rcases h.later hb1 with ⟨rfl, h0⟩ | ⟨tb, C, rfl, hm, hC⟩
  · have hz : nList U = [] := List.eq_nil_iff_forall_not_mem.2 fun x hx => by have := (hT x).2 hx; rw [h0 x] at this; omega
    have HMEM := Lib.hid (show nOf okN [] = ⟨U.all, U.ns⟩ by rw [← hz, of_list hU])
    have HKS := Lib.hid (show ([] : List (List UInt8)).length ≤ 1000 ∧ ∀ x ∈ ([] : List (List UInt8)), x.length ≤ 1000 from ⟨Nat.zero_le _, fun x hx => by cases hx⟩)
    have hrun := run_range_nilMap (P := Tryz.prog) w1 81 9 3 Tryz.underlying81
    have hnx := run_next_nilMap (P := Tryz.prog) w1 0 0 0 #[]
    have hb2 : Below w1.heap.size w1 (w1.alloc (.mapIter none 0 #[] 0)) := (Below.refl _ _).alloc (Nat.le_refl _) _
    have HQ := Lib.hid (HQ1.out.later hb2)
    have HB := Lib.hid (HB1.out.trans (hb2.mono HB1.out.size))
    obtain ⟨w2, hw2⟩ : ∃ w2, w1.alloc (.mapIter none 0 #[] 0) = w2 := ⟨_, rfl⟩
    rw [hw2] at hrun hnx HQ HB
    have HOW := Lib.hid (World.ownsRow_nil w2 w.heap.size 9 1)
    clear hw2 hb2 hz h0 h hw1 hb1 q1 hT hn hl hU HQ1 HB1
    go_enter Tryz.func38, Tryz.ntmps38
    go_wp2_with (rw [HW1.out])
    refine wp_loop_rounds 1 ?_
    rw [rounds_succ]
    have hof := HMEM.out
    have HOF := Lib.hid (of_any (w := w2) (RowV.own HOW.out) (list_fit HKS.out.1 HKS.out.2) hof)
    clear hof
    go_wp2_with fail
    refine HOF.out.mono ?_
    rintro e w5 ⟨a5, c5, rfl, ht5, hb5⟩
    have HQ5 := Lib.hid (HQ.out.later hb5)
    have HB5 := Lib.hid (HB.out.trans (hb5.mono HB.out.size))
    have HOW := Lib.hid (own_any (sa := U.all) ht5 (list_fit HUL.out.1 HUL.out.2) HUL.out.2)
    clear HOF ht5 hb5
    go_wp2_with fail
    refine HOW.out.mono ?_
    rintro e w6 ⟨a6, c6, rfl, ht6, hb6⟩
    have q6 := HQ5.out.later hb6
    have hbb := HB5.out.trans (hb6.mono HB5.out.size)
    have r0 : w6.cell? ⟨w.heap.size, 0, none⟩ = some (.bool false) := q6.cell 0
    have r1 : w6.cell? ⟨w.heap.size, 1, none⟩ = some (.slice none 0 0) := q6.cell 1
    have f0 := q6.frozen 0
    have f1 := q6.frozen 1
    have HE := Lib.hid (And.intro (two_cells (.bool U.all) (.slice a6 U.ns.length c6) r0 r1) (And.intro (ht6.set2 (.bool U.all) (.slice a6 U.ns.length c6) r0 r1) (below_set2 (R := w.heap.size) hbb (Nat.le_refl _) (.bool U.all) (.slice a6 U.ns.length c6))))
    clear ht6 hb6 q6 hbb HOW
    go_wp2_with fail
    obtain ⟨w9, hw9⟩ : ∃ w9, (w6.setCell ⟨w.heap.size, 0, none⟩ (.bool U.all)).setCell ⟨w.heap.size, 1, none⟩ (.slice a6 U.ns.length c6) = w9 := ⟨_, rfl⟩
    rw [hw9] at HE ⊢
    obtain ⟨⟨t0, t1⟩, hts, hbb⟩ := HE.out
    exact bodyPost_ret (v := .agg #[.bool U.all, .slice a6 U.ns.length c6]) (by simp [results, Tryz.results38, go_sem, t0, t1]) rfl ⟨a6, c6, rfl, hts, hbb⟩
  · obtain ⟨w2, hrun, hrg, hb2, hsz2⟩ := hm.range (t := 81) (k := 9) (e := 3) (P := Tryz.prog) Tryz.underlying81
    have HRG := Lib.hid hrg
    have HB2 := Lib.hid (HB1.out.trans (hb2.mono HB1.out.size))
    have HQ2 := Lib.hid (HQ1.out.later hb2)
    have HC := Lib.hid hC
    have HLT := Lib.hid q1.lt
    have HTB := Lib.hid hm.lt
    clear hb2 hsz2 hrg hm hC h hw1 hb1 q1 hT hn hl hU HQ1 HB1
    go_enter Tryz.func38, Tryz.ntmps38
    go_wp2_with (rw [HW1.out])
    go_loopw [3, 4] (fun vl _ wr => ∃ ks : List (List UInt8), KRange skV skOk wr tb w1.heap.size C ks ∧ wr.ownsRow w1.heap.size 9 1 vl ks.length (tsV ks) ∧ Blk wr w.heap.size #[.bool false, .slice none 0 0] 41 ∧ Below w.heap.size w wr) (fun _ _ wr => krLeft wr tb w1.heap.size)
    case atStart => exact ⟨[], HRG.out, World.ownsRow_nil _ _ _ _, HQ2.out, HB2.out⟩
    case round =>
      clear hrun HRG HQ2 HB2
      obtain ⟨ks, hrg, hown, hq, hb⟩ := hrel
      have HIN := Lib.hid (fun (x : List UInt8) (hx : x ∈ ks) => (HT.out x).1 (by
        have h1 := HC.out x
        have h3 := hrg.sub.2 x hx
        rw [h1] at h3
        by_cases h4 : T x = 0
        · rw [if_pos h4] at h3; cases h3
        · exact Nat.pos_of_ne_zero h4))
      rcases hrg.next (P := Tryz.prog) skV_inj 0 with ⟨hall, hnx⟩ | ⟨s, val, w3, hCs, hok, hns, hnx, hrg3, hen, hg3, hsz3, hlt3⟩
      · have hmem : ∀ x, x ∈ ks ↔ x ∈ nList U := fun x => ⟨HIN.out x, fun hx => hall x (by
          rw [HC.out x, if_neg (by have := (HT.out x).2 hx; omega)]; rfl)⟩
        have hnd : ks.Nodup := hrg.sub.1
        have HMEM := Lib.hid (show nOf okN ks = ⟨U.all, U.ns⟩ by rw [nOf_mem hmem, of_list HU.out])
        have HKS := Lib.hid (show ks.length ≤ 1000 ∧ ∀ x ∈ ks, x.length ≤ 1000 from ⟨Nat.le_trans (nodup_len hnd fun x hx => (hmem x).1 hx) HNL.out.1, fun x hx => HNL.out.2 x ((hmem x).1 hx)⟩)
        have HOW := Lib.hid hown
        have HQ := Lib.hid hq
        have HB := Lib.hid hb
        obtain ⟨a4, c4, rfl⟩ := owns_slice hown
        clear hmem hnd hall hrg hown hq hb HIN
        have hof := HMEM.out
        have HOF := Lib.hid (of_any (w := wr) (RowV.own HOW.out) (list_fit HKS.out.1 HKS.out.2) hof)
        clear hof
        go_wp2_with fail
        refine HOF.out.mono ?_
        rintro e w5 ⟨a5, c5, rfl, ht5, hb5⟩
        have HQ5 := Lib.hid (HQ.out.later hb5)
        have HB5 := Lib.hid (HB.out.trans (hb5.mono HB.out.size))
        have HOW := Lib.hid (own_any (sa := U.all) ht5 (list_fit HUL.out.1 HUL.out.2) HUL.out.2)
        clear HOF ht5 hb5
        go_wp2_with fail
        refine HOW.out.mono ?_
        rintro e w6 ⟨a6, c6, rfl, ht6, hb6⟩
        have q6 := HQ5.out.later hb6
        have hbb := HB5.out.trans (hb6.mono HB5.out.size)
        have r0 : w6.cell? ⟨w.heap.size, 0, none⟩ = some (.bool false) := q6.cell 0
        have r1 : w6.cell? ⟨w.heap.size, 1, none⟩ = some (.slice none 0 0) := q6.cell 1
        have f0 := q6.frozen 0
        have f1 := q6.frozen 1
        have HE := Lib.hid (And.intro (two_cells (.bool U.all) (.slice a6 U.ns.length c6) r0 r1) (And.intro (ht6.set2 (.bool U.all) (.slice a6 U.ns.length c6) r0 r1) (below_set2 (R := w.heap.size) hbb (Nat.le_refl _) (.bool U.all) (.slice a6 U.ns.length c6))))
        clear ht6 hb6 q6 hbb HOW
        go_wp2_with fail
        obtain ⟨w9, hw9⟩ : ∃ w9, (w6.setCell ⟨w.heap.size, 0, none⟩ (.bool U.all)).setCell ⟨w.heap.size, 1, none⟩ (.slice a6 U.ns.length c6) = w9 := ⟨_, rfl⟩
        rw [hw9] at HE ⊢
        obtain ⟨⟨t0, t1⟩, hts, hbb⟩ := HE.out
        exact bodyPost_ret (v := .agg #[.bool U.all, .slice a6 U.ns.length c6]) (by simp [results, Tryz.results38, go_sem, t0, t1]) rfl ⟨a6, c6, rfl, hts, hbb⟩
      · have HKR := Lib.hid hrg3
        have HCS := Lib.hid hCs
        have hitB := hrg3.iter
        have hitM := hrg3.mapB
        have hown3 := own_other hown hg3 (fun g hg e => by
          obtain ⟨cc, fz, hc⟩ := own_kind hown hg
          obtain ⟨q0, q1, q2, q3, h2, _⟩ := hrg.iter
          obtain rfl := Option.some.inj e
          rw [hc] at h2; cases h2)
        have HOW := Lib.hid hown3
        have HQ := Lib.hid (hq.kept hg3 (fun e => by have := HLT.out; have := Option.some.inj e; omega))
        have HB := Lib.hid (show Below w.heap.size w w3 from hb.grown hg3 hb.size (fun j hj => by have := HLT.out; have := Option.some.inj hj; omega))
        have HM3 := Lib.hid hlt3
        have hs3 : w1.heap.size ≤ w3.heap.size := by have := hrg3.lt; omega
        have hkn : ks.length ≤ 1000 := Nat.le_trans (nodup_len hrg.sub.1 HIN.out) HNL.out.1
        have HSI := Lib.hid hitB
        have HSM := Lib.hid hitM
        clear hrg hown hown3 hq hb HIN hrg3 hg3 hsz3 hlt3 hCs hns hitB hitM hok
        go_wp2_with (at_builtin; go_must (refine wpList_append_own _ rfl _ _ 27 rfl w1.heap.size 9 i0 _ 1 16 Tryz.underlying27 hi hz0 hz1 hz2 rfl (by omega) _ _ _ rfl (HOW.out.alloc _) ⟨w3.heap.size, 0, none⟩ 1 1 (tsV [s]) rfl rfl (World.news_of_block (cs := #[.string ⟨s.toArray⟩]) (t := 9) (fr := (0, 0)) (heap_alloc_new w3 _)) (tsV_one _) (by unfold maxLen; omega) (by omega) (by simp; omega) ?_; intro v4 w4 hown4 hgrow4 _))
        have hne : ∀ i o, w3.heap[i]? = some o → (∀ c t f, o ≠ .cells c t f) → some i ≠ u3.ownBlock := fun i o hi ho e => by
          obtain ⟨cc, fz, hc⟩ := own_kind HOW.out e.symm
          rw [hi] at hc
          exact ho _ _ _ (Option.some.inj hc)
        obtain ⟨es, clock, hmb⟩ := HSM.out
        obtain ⟨q0, q1, q2, q3, hib, _⟩ := HSI.out
        have n1 := hne tb _ hmb (fun _ _ _ e => by cases e)
        have n2 := hne w1.heap.size _ hib (fun _ _ _ e => by cases e)
        have l1 : tb < w3.heap.size := (Array.getElem?_eq_some_iff.1 hmb).1
        have l2 : w1.heap.size < w3.heap.size := (Array.getElem?_eq_some_iff.1 hib).1
        have hga := World.grownBy_alloc w3 (.cells #[.string ⟨s.toArray⟩] 9) u3.ownBlock
        have e1 := (hgrow4.block tb (Nat.lt_of_lt_of_le l1 hga.size) n1).trans (hga.block tb l1 n1)
        have e2 := (hgrow4.block w1.heap.size (Nat.lt_of_lt_of_le l2 hga.size) n2).trans (hga.block w1.heap.size l2 n2)
        refine ⟨⟨ks ++ [s], (HKR.out.kept hga n1 n2).kept hgrow4 n1 n2, by rw [tsV_append, List.length_append]; exact hown4, ?_, ?_⟩, ?_⟩
        · exact (HQ.out.later ((Below.refl _ _).alloc (Nat.le_refl _) _)).kept hgrow4 (fun e => by
            obtain ⟨cc, fz, hc⟩ := own_kind HOW.out e.symm
            have := HOW.out.lt _ e.symm
            have := HLT.out
            omega)
        · exact (HB.out.alloc HB.out.size _).grown hgrow4 (by have := HB.out.size; simp; omega) (fun j hj => by have := (HOW.out.lt j hj).1; have := HLT.out; omega)
        · rw [krLeft_eq e1 e2]
          exact HM3.out
end Go.Proofs.YtkjfafnnnkjoeaaGreatDoor
