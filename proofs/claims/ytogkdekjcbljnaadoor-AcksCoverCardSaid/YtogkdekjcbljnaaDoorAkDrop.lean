/- acks: Drop. -/
import Derived.Test.YtogkdekjcbljnaaDoorAkOwn
namespace Go.Proofs.YtogkdekjcbljnaaDoor
open Go.RowKit

theorem AkIn.iter {base : Nat} {b : AkB} {A : Ak} {CT : Tk → Option Value} {CR CN : Ky → Option Value} {w w' : World} {r : Nat} (h : AkIn base b A CT CR CN w) (hr : ∃ m s se c, w.heap[r]? = some (.mapIter m s se c)) (hg : w.grownBy w' (some r)) : AkIn base b A CT CR CN w' := by
  obtain ⟨m, s, se, c, hr⟩ := hr
  have hm : ∀ {κ : Type} {enc : κ → Value} {ok : κ → Prop} {p : Nat} {C : κ → Option Value}, KMap enc ok w p C → KMap enc ok w' p C := fun hm => hm.kept hg (fun e => by
    obtain ⟨es, clock, hb, _⟩ := hm
    rw [Option.some.inj e, hr] at hb; cases hb)
  refine ⟨h.blk.kept hg (fun e => ?_), h.bm, h.bt, h.br, h.bo, h.n1, h.n2, h.n3, hm h.tm, h.tv, hm h.rm, fun k => ?_, h.rd, hm h.nm, h.nv⟩
  · have hb := h.blk
    unfold Blk at hb
    rw [Option.some.inj e, hr] at hb; cases hb
  · have hv := h.rv k
    cases hC : CR k with
    | none => rw [hC] at hv; exact hv
    | some v =>
      rw [hC] at hv
      refine own_other (v := v) hv hg fun g hgv e => ?_
      obtain ⟨_, _, c', fz, hc⟩ := own_heap hv hgv
      rw [← Option.some.inj e, hr] at hc; cases hc
theorem KeptA.past {b : AkB} {B r : Nat} {w w1 w2 : World} (h : KeptA b B w w1) (hg : w1.grownBy w2 (some r)) (hr : w.heap.size ≤ r) : KeptA b B w w2 :=
  ⟨hg.os.trans h.os, hg.tape.trans h.tape, hg.output.trans h.output, Nat.le_trans h.size hg.size, fun k hk hn => (hg.block k (Nat.lt_of_lt_of_le hk h.size) (fun e => by have := Option.some.inj e; omega)).trans (h.block k hk hn)⟩
theorem Ak.eqT {A : Ak} {T T' : Ky → Int → Nat} (h : ∀ k j, T k j = T' k j) : ({ A with T := T } : Ak) = { A with T := T' } := by
  have : T = T' := funext fun k => funext fun j => h k j
  rw [this]
open Classical in
noncomputable def dropKs (A : Ak) (i : Int) (ks : List Ky) : Ak := { A with T := fun k j => if j = i ∧ k ∈ ks then 0 else A.T k j }
theorem dropKs_nil (A : Ak) (i : Int) : dropKs A i [] = A := by
  unfold dropKs
  simp
open Classical in
theorem dropKs_next (A : Ak) (i : Int) (ks : List Ky) (k : Ky) : ({ dropKs A i ks with T := upd (dropKs A i ks).T k (upd ((dropKs A i ks).T k) i 0) } : Ak) = dropKs A i (ks ++ [k]) := by
  unfold dropKs
  refine Ak.eqT fun k' j => ?_
  dsimp only
  by_cases e : k' = k
  · subst e
    rw [upd_same]
    by_cases e2 : j = i
    · subst e2; rw [upd_same]; simp
    · rw [upd_other e2]; simp [e2]
  · rw [upd_other e]
    have hm : k' ∈ ks ++ [k] ↔ k' ∈ ks := by rw [List.mem_append, List.mem_singleton]; exact ⟨fun h => h.resolve_right e, .inl⟩
    show (if j = i ∧ k' ∈ ks then 0 else A.T k' j) = if j = i ∧ k' ∈ ks ++ [k] then 0 else A.T k' j
    by_cases h1 : j = i ∧ k' ∈ ks
    · rw [if_pos h1, if_pos ⟨h1.1, hm.2 h1.2⟩]
    · rw [if_neg h1, if_neg fun h2 => h1 ⟨h2.1, hm.1 h2.2⟩]
theorem dropKs_all {A : Ak} (h : AkOk A) (i : Int) {ks : List Ky} (hk : ∀ k, (A.N k).isSome → k ∈ ks) : dropKs A i ks = A.drop i := by
  unfold dropKs Ak.drop
  refine Ak.eqT fun k j => ?_
  by_cases e : j = i
  · by_cases e2 : k ∈ ks
    · simp [e, e2]
    · have h0 : A.T k j = 0 := Classical.byContradiction fun hn => e2 (hk k (h.t k j hn).2.2)
      simp [e2, h0]
  · simp [e]
set_option maxRecDepth 100000 in
set_option maxHeartbeats 4000000 in
theorem drop_any {base : Nat} {b : AkB} {A : Ak} {w : World} {i : Int} (h : AkIs base b A w) (hi : i64B i) :
    Calls Tryd.prog 12 #[.pointer (some ⟨b.m, 0, none⟩), .int .i64 i] w fun e w' => e = .returned (.tuple #[]) ∧ AkIs base b (A.drop i) w' ∧ KeptA b base w w' := by
  obtain ⟨hok, CT, CR, CN, hin⟩ := h
  have c0 : w.cell? ⟨b.m, 2, none⟩ = some (.map (some b.mo)) := hin.blk.cell 2
  obtain ⟨w2, hrun, hrg, hb2, hsz2⟩ := hin.nm.range (t := 55) (k := 27) (e := 29) (P := Tryd.prog) Tryd.underlying55
  have HRG := Lib.hid hrg
  have HIN := Lib.hid (hin.later hb2)
  have HK := Lib.hid (KeptA.of (b := b) (B := base) hb2)
  have HOK := Lib.hid hok
  have HNV := Lib.hid hin.nv
  have HLT := Lib.hid (show b.mt < w.heap.size ∧ b.mo < w.heap.size ∧ b.mt ≠ b.mo from ⟨hin.tm.lt, hin.nm.lt, hin.n2⟩)
  clear hb2 hsz2 hrg hin hok
  go_enter Tryd.func12, Tryd.ntmps12
  go_wp2_with fail
  go_loopw [4] (fun _ wr => ∃ (ks : List Ky) (CT' : Tk → Option Value), KRange kyE kyK wr b.mo w.heap.size CN ks ∧ AkIn base b (dropKs A i ks) CT' CR CN wr ∧ KeptA b base w wr) (fun _ wr => krLeft wr b.mo w.heap.size)
  case atStart => exact ⟨[], CT, HRG.out, by rw [dropKs_nil]; exact HIN.out, HK.out⟩
  case round =>
    clear hrun HRG HIN HK c0
    obtain ⟨ks, CT', hrg, hin, hk⟩ := hrel
    rcases hrg.next (P := Tryd.prog) kyE_inj 0 with ⟨hall, hnx⟩ | ⟨s, val, w3, hCs, hok3, hns, hnx, hrg3, hen, hg3, hsz3, hlt3⟩
    · have HE := Lib.hid (show AkIs base b (A.drop i) wr ∧ KeptA b base w wr from ⟨⟨HOK.out.drop i, CT', CR, CN, by
        rw [← dropKs_all HOK.out i (ks := ks) (fun k hkn => hall k (by rw [HNV.out k]; cases hv : A.N k with
          | none => rw [hv] at hkn; cases hkn
          | some v => rfl))]
        exact hin⟩, hk⟩)
      clear hall hrg hin hk
      go_wp2_with fail
      go_end0
      exact ⟨rfl, HE.out.1, HE.out.2⟩
    · obtain ⟨q0, q1, q2, q3, hib⟩ := hrg.iter
      have hin3 := hin.iter ⟨q0, q1, q2, q3, hib⟩ hg3
      have hk3 := hk.past hg3 (Nat.le_refl _)
      obtain ⟨t, x⟩ := s
      obtain ⟨w4, hw4, hb4, qq4⟩ := ak_new w3 #[.int .i64 t, .string x] 27
      have hd4 : Below w4.heap.size w4 w4.drew := (Below.refl _ _).drew
      have hb34 := hb4.trans (hd4.mono hb4.size)
      have hin4 := hin3.later hb34
      obtain ⟨w5, hdel, ⟨CT5, hin5⟩, hk5, hg5⟩ := hin4.delT (k := (t, x)) (i := i) hok3 hi 0
      have hrg4 := hrg3.kept (grownBy_below hb34 none) (by simp) (by simp)
      have hro : b.mt ≠ w.heap.size := by have := HLT.out.1; omega
      have hrg5 := hrg4.kept hg5 (fun e => HLT.out.2.2 (Option.some.inj e).symm) (fun e => hro (Option.some.inj e).symm)
      obtain ⟨es, clock, hmb⟩ := hrg3.mapB
      obtain ⟨p0, p1, p2, p3, hib3⟩ := hrg3.iter
      have e1 : w5.heap[b.mo]? = w3.heap[b.mo]? := (hg5.block b.mo (Nat.lt_of_lt_of_le (Array.getElem?_eq_some_iff.1 hmb).1 hb34.size) (fun e => HLT.out.2.2 (Option.some.inj e).symm)).trans (hb34.block b.mo (Array.getElem?_eq_some_iff.1 hmb).1)
      have e2 : w5.heap[w.heap.size]? = w3.heap[w.heap.size]? := (hg5.block w.heap.size (Nat.lt_of_lt_of_le (Array.getElem?_eq_some_iff.1 hib3).1 hb34.size) (fun e => hro (Option.some.inj e).symm)).trans (hb34.block w.heap.size (Array.getElem?_eq_some_iff.1 hib3).1)
      rw [dropKs_next] at hin5
      have HE := Lib.hid (show (∃ (ks : List Ky) (CT' : Tk → Option Value), KRange kyE kyK w5 b.mo w.heap.size CN ks ∧ AkIn base b (dropKs A i ks) CT' CR CN w5 ∧ KeptA b base w w5) ∧ krLeft w5 b.mo w.heap.size < krLeft wr b.mo w.heap.size from
        ⟨⟨ks ++ [(t, x)], CT5, hrg5, hin5, (hk3.trans (.of hb34)).trans hk5⟩, by rw [krLeft_eq e1 e2]; exact hlt3⟩)
      have c4 : w4.cell? ⟨b.m, 0, none⟩ = some (.map (some b.mt)) := (hin3.later hb4).blk.cell 0
      have y0 : w4.cell? ⟨w3.heap.size, 0, none⟩ = some (.int .i64 t) := qq4.cell 0
      have y1 : w4.cell? ⟨w3.heap.size, 1, none⟩ = some (.string x) := qq4.cell 1
      have HW4 := Lib.hid hw4
      clear hrg hin hk hrg3 hg3 hsz3 hlt3 hin3 hk3 hb4 qq4 hd4 hb34 hin4 hin5 hk5 hg5 hrg4 hrg5 hmb hib3 hib e1 e2 hro hns hok3 hCs hw4
      go_wp2_with (rw [HW4.out])
      go_region
      all_goals
        go_wp2_with fail
        exact HE.out
end Go.Proofs.YtogkdekjcbljnaaDoor
