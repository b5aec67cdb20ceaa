/- acks: Keys. -/
import Derived.Test.YtogkdekjcbljnaaDoorAkDrop
import Derived.Test.YtogkdekjcbljnaaDoorAkSort
namespace Go.Proofs.YtogkdekjcbljnaaDoor
open Go.RowKit

/-- Keys as they stand in order. -/
def KySrt (l : List Ky) : Prop := l.Pairwise fun a b => ordK a.1 a.2 b.1 b.2 < 0
theorem ky_zero {a b : Ky} : ordK a.1 a.2 b.1 b.2 = 0 ↔ a = b := by
  rw [ord_zero]
  constructor
  · rintro ⟨h1, h2⟩
    exact Prod.ext h1 (ba_ext h2)
  · rintro rfl; exact ⟨rfl, rfl⟩
theorem ky_asym {a b : Ky} (h : ordK a.1 a.2 b.1 b.2 < 0) : ¬ ordK b.1 b.2 a.1 a.2 < 0 := by
  have := ord_neg a.1 b.1 a.2 b.2
  omega
theorem kySrt_ext : ∀ {l r : List Ky}, KySrt l → KySrt r → (∀ k, k ∈ l ↔ k ∈ r) → l = r
  | [], [], _, _, _ => rfl
  | [], b :: r, _, _, h => absurd ((h b).2 (by simp)) (by simp)
  | a :: l, [], _, _, h => absurd ((h a).1 (by simp)) (by simp)
  | a :: l, b :: r, hl, hr, h => by
    obtain ⟨ha, hl'⟩ := List.pairwise_cons.1 hl
    obtain ⟨hb, hr'⟩ := List.pairwise_cons.1 hr
    have hab : a = b := by
      have h1 := (h a).1 (by simp)
      have h2 := (h b).2 (by simp)
      rcases List.mem_cons.1 h1 with e | e
      · exact e
      · rcases List.mem_cons.1 h2 with e2 | e2
        · exact e2.symm
        · exact absurd (ha b e2) (ky_asym (hb a e))
    subst hab
    have hn1 : a ∉ l := fun hm => by have := ha a hm; have h0 := (ky_zero (a := a) (b := a)).2 rfl; omega
    have hn2 : a ∉ r := fun hm => by have := hb a hm; have h0 := (ky_zero (a := a) (b := a)).2 rfl; omega
    rw [kySrt_ext hl' hr' fun k => ⟨fun hk => ?_, fun hk => ?_⟩]
    · rcases List.mem_cons.1 ((h k).1 (List.mem_cons_of_mem _ hk)) with e | e
      · subst e; exact absurd hk hn1
      · exact e
    · rcases List.mem_cons.1 ((h k).2 (List.mem_cons_of_mem _ hk)) with e | e
      · subst e; exact absurd hk hn2
      · exact e
theorem kySrt_of {ys : List Ky} (hn : ys.Nodup) (h : ∀ i j, i < j → j < ys.length → ltOf keCmp ys[j]! ys[i]! = false) : KySrt ys := by
  unfold KySrt
  rw [List.pairwise_iff_getElem]
  intro i j hi hj hij
  have h1 := h i j hij hj
  rw [getElem!_pos ys j hj, getElem!_pos ys i hi] at h1
  have h1 : ¬ ordK ys[j].1 ys[j].2 ys[i].1 ys[i].2 < 0 := of_decide_eq_false h1
  have h2 := ord_neg ys[i].1 ys[j].1 ys[i].2 ys[j].2
  have h0 : ordK ys[i].1 ys[i].2 ys[j].1 ys[j].2 ≠ 0 := fun e => by
    have := (List.getElem_inj hn).1 (ky_zero.1 e)
    omega
  omega
theorem Tryd.infoKy : (Tryd.prog.info? 27).map (fun i => (i.zero, i.size, i.bytes)) = some (some (.agg #[.int .i64 0, .string ⟨#[]⟩]), 2, 24) := by kernel_rfl
theorem ke_one {l : List Ky} : ∀ u ∈ keCells l, u.oneCell' = true := by
  intro u hu
  unfold keCells at hu
  obtain ⟨r, _, h⟩ := List.mem_flatMap.1 hu
  unfold keEnc at h
  simp only [List.mem_cons, List.not_mem_nil, or_false] at h
  rcases h with rfl | rfl <;> rfl
def KysPost (A : Ak) (w : World) (e : Ending) (w' : World) : Prop := ∃ (l : List Ky) (v : Value), e = .returned v ∧ KySrt l ∧ (∀ k, k ∈ l ↔ (A.N k).isSome) ∧ w'.ownsRow w.heap.size 27 2 v l.length (keCells l) ∧ Below w.heap.size w w'
set_option maxRecDepth 100000 in
set_option maxHeartbeats 4000000 in
theorem keys_any {base : Nat} {b : AkB} {A : Ak} {w : World} (h : AkIs base b A w) {K : List Ky} (hK : K.length ≤ 1000) (hm : ∀ k, (A.N k).isSome → k ∈ K) :
    Calls Tryd.prog 14 #[.pointer (some ⟨b.m, 0, none⟩)] w (KysPost A w) := by
  obtain ⟨i0, hi, hz0, hz1, hz2⟩ := info_parts Tryd.infoKy
  obtain ⟨hok, CT, CR, CN, hin⟩ := h
  have c0 : w.cell? ⟨b.m, 2, none⟩ = some (.map (some b.mo)) := hin.blk.cell 2
  obtain ⟨w2, hrun, hrg, hb2, hsz2⟩ := hin.nm.range (t := 55) (k := 27) (e := 29) (P := Tryd.prog) Tryd.underlying55
  have HRG := Lib.hid hrg
  have HB2 := Lib.hid hb2
  have HOK := Lib.hid hok
  have HNV := Lib.hid hin.nv
  have HLT := Lib.hid (show b.mo < w.heap.size from hin.nm.lt)
  have HLEN := Lib.hid (fun (ks : List Ky) (hn : ks.Nodup) (hs : ∀ s ∈ ks, (CN s).isSome) => Nat.le_trans (nodup_len hn fun s hs' => hm s (by
    have := hs s hs'
    rw [hin.nv s] at this
    cases hv : A.N s with
    | none => rw [hv] at this; cases this
    | some v => rfl)) hK)
  have HSZ := Lib.hid hsz2
  clear hb2 hsz2 hrg hin hok hm hK
  go_enter Tryd.func14, Tryd.ntmps14
  go_wp2_with fail
  go_loopw [3, 4] (fun vl _ wr => ∃ (ks : List Ky), KRange kyE kyK wr b.mo w.heap.size CN ks ∧ wr.ownsRow w2.heap.size 27 2 vl ks.length (keCells ks) ∧ Below w.heap.size w wr) (fun _ _ wr => krLeft wr b.mo w.heap.size)
  case atStart => exact ⟨[], HRG.out, World.ownsRow_nil _ _ _ _, HB2.out⟩
  case round =>
    clear hrun HRG c0
    obtain ⟨ks, hrg, hown, hb⟩ := hrel
    rcases hrg.next (P := Tryd.prog) kyE_inj 0 with ⟨hall, hnx⟩ | ⟨s, val, w3, hCs, hok3, hns, hnx, hrg3, hen, hg3, hsz3, hlt3⟩
    · have hsub := hrg.sub
      have hlen := HLEN.out ks hsub.1 hsub.2
      have HS := Lib.hid (sort_own2 hown (by omega))
      have HB := Lib.hid hb
      have HM := Lib.hid (show ks.Nodup ∧ ∀ k, k ∈ ks ↔ (A.N k).isSome from ⟨hsub.1, fun k => by
        have e : (CN k).isSome = (A.N k).isSome := by rw [HNV.out k]; cases A.N k <;> rfl
        rw [← e]
        exact ⟨hsub.2 k, hall k⟩⟩)
      clear hall hrg hown hb hsub hlen
      go_wp2_with fail
      refine HS.out.mono ?_
      rintro e w5 ⟨rfl, ys, hp, hs, hrow, hb5⟩
      have HE := Lib.hid (show KySrt ys ∧ (∀ k, k ∈ ys ↔ (A.N k).isSome) ∧ w5.ownsRow w.heap.size 27 2 u3 ys.length (keCells ys) ∧ Below w.heap.size w w5 from
        ⟨kySrt_of (hp.nodup_iff.2 HM.out.1) hs, fun k => hp.mem_iff.trans (HM.out.2 k), by rw [hp.length_eq]; exact own_less hrow HB2.out.size, HB.out.trans (hb5.mono HB2.out.size)⟩)
      clear hp hs hrow hb5
      go_wp2_with fail
      go_ret
      exact ⟨ys, u3, rfl, HE.out.1, HE.out.2.1, HE.out.2.2.1, HE.out.2.2.2⟩
    · obtain ⟨q0, q1, q2, q3, hib⟩ := hrg.iter
      have hb3 : Below w.heap.size w w3 := hb.grown hg3 hb.size (fun j hj => by have := Option.some.inj hj; omega)
      have hown3 := own_other hown hg3 (fun g hg e => by have h1 := (own_heap hown hg).1; have h2 := Option.some.inj e; have := HSZ.out; omega)
      obtain ⟨t, x⟩ := s
      obtain ⟨w4, hw4, hb4, qq4⟩ := ak_new w3 #[.int .i64 t, .string x] 27
      have y0 : w4.cell? ⟨w3.heap.size, 0, none⟩ = some (.int .i64 t) := qq4.cell 0
      have y1 : w4.cell? ⟨w3.heap.size, 1, none⟩ = some (.string x) := qq4.cell 1
      have hsub := hrg3.sub
      have hlen := HLEN.out _ hsub.1 hsub.2
      rw [List.length_append] at hlen
      have hxs : x.size ≤ 64 := by
        cases hv : A.N (t, x) with
        | none => have := HNV.out (t, x); rw [hCs, hv] at this; cases this
        | some v => exact (HOK.out.n (t, x) v hv).2.2
      have HXS := Lib.hid (show x.size ≤ 140737488355328 by omega)
      have HRG4 := Lib.hid (hrg3.kept (grownBy_below hb4 none) (by simp) (by simp))
      have HOW4 := Lib.hid (own_below hown3 hb4)
      have HB4 := Lib.hid (hb3.trans (hb4.mono hb3.size))
      obtain ⟨es, clock, hmb⟩ := hrg3.mapB
      obtain ⟨p0, p1, p2, p3, hib3⟩ := hrg3.iter
      have HL4 := Lib.hid (show krLeft w4 b.mo w.heap.size < krLeft wr b.mo w.heap.size by
        rw [krLeft_eq (hb4.block b.mo (Array.getElem?_eq_some_iff.1 hmb).1) (hb4.block w.heap.size (Array.getElem?_eq_some_iff.1 hib3).1)]; exact hlt3)
      have HW4 := Lib.hid hw4
      have HLN := Lib.hid (show ks.length ≤ 1000 by simp at hlen; omega)
      clear hrg hown hb hrg3 hg3 hsz3 hlt3 hib hb3 hown3 hb4 qq4 hsub hlen hxs hmb hib3 hw4 hns hok3 hCs
      go_wp2_with (rw [HW4.out])
      refine (ownKey_any (t, x) w4 HXS.out).mono ?_
      rintro e w5 ⟨rfl, hb5⟩
      have HRG5 := Lib.hid (HRG4.out.kept (grownBy_below hb5 none) (by simp) (by simp))
      have HOW5 := Lib.hid (own_below HOW4.out hb5)
      have HB5 := Lib.hid (HB4.out.trans (hb5.mono HB4.out.size))
      have HL5 := Lib.hid (show krLeft w5 b.mo w.heap.size < krLeft wr b.mo w.heap.size by
        obtain ⟨es, clock, hmb⟩ := HRG4.out.mapB
        obtain ⟨p0, p1, p2, p3, hib3⟩ := HRG4.out.iter
        rw [krLeft_eq (hb5.block b.mo (Array.getElem?_eq_some_iff.1 hmb).1) (hb5.block w.heap.size (Array.getElem?_eq_some_iff.1 hib3).1)]; exact HL4.out)
      have hs25 : w2.heap.size ≤ w5.heap.size := by have h1 := HB5.out.size; have h2 := HRG5.out.lt; have := HSZ.out; omega
      clear hb5 y0 y1
      go_wp2_with (at_builtin; go_must (refine wpList_append_own _ rfl _ _ 45 rfl w2.heap.size 27 i0 _ 2 24 Tryd.underlying45 hi hz0 hz1 hz2 rfl (by omega) _ _ _ rfl (HOW5.out.alloc _) ⟨w5.heap.size, 0, none⟩ 1 1 (keCells [(t, x)]) rfl rfl (World.news_of_block (cs := #[.int .i64 t, .string x]) (t := 27) (fr := (0, 0)) (heap_alloc_new w5 _)) ke_one (by have := HLN.out; unfold maxLen; omega) (by have := HLN.out; omega) (by simp; omega) ?_; intro v6 w6 hown6 hgrow6 _))
      have hba : Below w5.heap.size w5 (w5.alloc (.cells #[.int .i64 t, .string x] 27)) := (Below.refl _ _).alloc (Nat.le_refl _) _
      have hb6 : Below w.heap.size w w6 := (HB5.out.trans (hba.mono HB5.out.size)).grown hgrow6 (Nat.le_trans HB5.out.size hba.size) (fun j hj => by
        have h1 := (own_heap HOW5.out hj).1
        have := HSZ.out; omega)
      have hrgA := HRG5.out.kept (grownBy_below hba none) (by simp) (by simp)
      have hne1 : some b.mo ≠ u3.ownBlock := fun e => by have h1 := (own_heap HOW5.out e.symm).1; have := HSZ.out; have := HLT.out; omega
      have hne2 : some w.heap.size ≠ u3.ownBlock := fun e => by have h1 := (own_heap HOW5.out e.symm).1; have := HSZ.out; omega
      have hrg6 := hrgA.kept hgrow6 hne1 hne2
      obtain ⟨es, clock, hmb⟩ := HRG5.out.mapB
      obtain ⟨p0, p1, p2, p3, hib⟩ := HRG5.out.iter
      have hm1 := (Array.getElem?_eq_some_iff.1 hmb).1
      have hi1 := (Array.getElem?_eq_some_iff.1 hib).1
      refine ⟨⟨ks ++ [(t, x)], hrg6, by rw [List.length_append, keCells_append]; exact hown6, hb6⟩, ?_⟩
      rw [krLeft_eq ((hgrow6.block b.mo (Nat.lt_of_lt_of_le hm1 hba.size) hne1).trans (hba.block b.mo hm1)) ((hgrow6.block w.heap.size (Nat.lt_of_lt_of_le hi1 hba.size) hne2).trans (hba.block w.heap.size hi1))]
      exact HL5.out
end Go.Proofs.YtogkdekjcbljnaaDoor
