/- ledger: Begin. -/
import Derived.Test.YtdaelapamkmcaaaDoorLdDrop
import Derived.Deep.RegionWith
namespace Go.Proofs.YtdaelapamkmcaaaDoor
open Go.RowKit

/-- What Begin answers, and leaves. -/
def badK (t : Int) (x : ByteArray) (q : Nat) : Bool := !kyOk t x || starB x || ((q : Int) == 0)
def begE (t : Int) (x : ByteArray) (q : Nat) (ms : List Mk) : Int := if badK t x q then 1 else if staleM t x q ms then 6 else 0
def begM (t : Int) (x : ByteArray) (q : Nat) (ms : List Mk) : List Mk := if badK t x q then ms else if staleM t x q ms then ms else fullM (insM (posM t x q ms) ⟨t, x, q, 1, ⟨#[]⟩⟩ ms)
theorem badK_no {t : Int} {x : ByteArray} {q : Nat} (h : badK t x q = false) : kyOk t x = true ∧ starB x = false ∧ ((q : Int) == 0) = false ∧ nmOk x = true ∧ 1 ≤ t ∧ t ≤ 5 ∧ x.size ≤ 64 := by
  unfold badK at h
  simp only [Bool.or_eq_false_iff, Bool.not_eq_false'] at h
  obtain ⟨⟨h1, h2⟩, h3⟩ := h
  have h4 := h1
  unfold kyOk at h4
  rw [h2] at h4
  simp only [Bool.false_or, Bool.and_eq_true, decide_eq_true_eq] at h4
  have h5 := h4.2
  unfold nmOk at h5
  simp only [Bool.and_eq_true, decide_eq_true_eq] at h5
  exact ⟨h1, h2, h3, h4.2, h4.1.1, h4.1.2, h5.1.2⟩
theorem cutM_len {ms : List Mk} (h : 1 ≤ ms.length) : (cutM ms).length + 1 ≤ ms.length := by
  have hm := minM_mem (ms := ms) (by intro e; rw [e] at h; simp at h)
  unfold cutM
  have h1 := List.length_filter_lt_length_iff_exists (p := fun m => !eqM m (minM ms)) (l := ms)
  have := h1.2 ⟨minM ms, hm, by rw [(eqM_iff _ _).2 rfl]; decide⟩
  omega
theorem begM_ok {t : Int} {x : ByteArray} {q : Nat} {ms : List Mk} (h : MsOk ms) (hq : q < 2 ^ 64) : MsOk (begM t x q ms) := by
  unfold begM
  cases hb : badK t x q with
  | true => exact h
  | false =>
    rw [if_neg (by decide)]
    cases hs : staleM t x q ms with
    | true => exact h
    | false =>
      rw [if_neg (by decide)]
      obtain ⟨_, _, _, _, h1, h5, hx⟩ := badK_no hb
      have hi : MkOk ⟨t, x, q, 1, ⟨#[]⟩⟩ := ⟨hx, Nat.zero_le _, hq, h1, h5⟩
      have hsr := insM_srt h.srt hs 1 ⟨#[]⟩
      have hok : ∀ m ∈ insM (posM t x q ms) ⟨t, x, q, 1, ⟨#[]⟩⟩ ms, MkOk m := fun m hm => by
        rcases insM_mem.1 hm with rfl | hm
        · exact hi
        · exact h.ok m hm
      have hl := insM_len (posM t x q ms) ⟨t, x, q, 1, ⟨#[]⟩⟩ ms
      have hl2 := h.len
      generalize insM (posM t x q ms) ⟨t, x, q, 1, ⟨#[]⟩⟩ ms = is at hsr hok hl ⊢
      unfold fullM
      split
      · have := cutM_len (ms := is) (by omega)
        exact ⟨hsr.filter _, by omega, fun m hm => hok m (List.mem_filter.1 hm).1⟩
      · exact ⟨hsr, by omega, hok⟩
def BegPost (base l : Nat) (e0 : Int) (ms : List Mk) (w : World) (e : Ending) (w' : World) : Prop := e = .returned (.int .i64 e0) ∧ (∃ v', LdAt base l v' ms w') ∧ Kept base w w'
set_option maxRecDepth 100000 in
set_option maxHeartbeats 4000000 in
theorem begin_any (base l : Nat) (v : Value) (t : Int) (x : ByteArray) (q : Nat) (ms : List Mk) (w : World) (h : LdAt base l v ms w) (hok : MsOk ms) :
    Calls Tryd.prog 11 #[.pointer (some ⟨l, 0, none⟩), kyV t x, .int .u64 (q : Int)] w (BegPost base l (begE t x q ms) (begM t x q ms) w) := by
  obtain ⟨w1, hw1⟩ : ∃ w1, w.alloc (.cells #[.int .i64 t, .string x] 31) = w1 := ⟨_, rfl⟩
  have hb1 : Below w.heap.size w w1 := by rw [← hw1]; exact (Below.refl _ _).alloc (Nat.le_refl _) _
  have q1 : Blk w1 w.heap.size #[.int .i64 t, .string x] 31 := by rw [← hw1]; exact Blk.new _ _ _
  have y0 : w1.cell? ⟨w.heap.size, 0, none⟩ = some (.int .i64 t) := q1.cell 0
  have y1 : w1.cell? ⟨w.heap.size, 1, none⟩ = some (.string x) := q1.cell 1
  have HW1 := Lib.hid hw1
  have HB1 := Lib.hid hb1
  have HQ1 := Lib.hid q1
  have H := Lib.hid h
  have HOK := Lib.hid hok
  clear hw1 hb1 q1 h hok
  cases hbad : badK t x q with
  | true =>
    rw [show begE t x q ms = 1 by unfold begE; rw [if_pos hbad], show begM t x q ms = ms by unfold begM; rw [if_pos hbad]]
    have hb' := hbad
    unfold badK starB at hb'
    have hky := key_any t x
    generalize kyOk t x = A at hky hb'
    obtain ⟨B, hB⟩ : ∃ B, (x.toList == [42]) = B := ⟨_, rfl⟩
    obtain ⟨C, hC⟩ : ∃ C, ((q : Int) == 0) = C := ⟨_, rfl⟩
    rw [hB, hC] at hb'
    have HKY := Lib.hid hky
    clear hky hbad
    have hfin : ∀ w2, Below w1.heap.size w1 w2 → ((∃ v', LdAt base l v' ms w2) ∧ Kept base w w2) := fun w2 hb => by
      have hb2 := HB1.out.trans (hb.mono HB1.out.size)
      exact ⟨⟨v, H.out.later hb2⟩, Kept.of hb2⟩
    have HF := Lib.hid hfin
    clear hfin
    cases A <;> cases B <;> cases C
    all_goals first | (exfalso; revert hb'; decide) | skip
    all_goals
      clear hb'
      go_enter Tryd.func11, Tryd.ntmps11
      go_wp2_with (rw [HW1.out])
      refine (HKY.out _).mono ?_
      rintro e w2 ⟨rfl, hb⟩
      have q2 := HQ1.out.later hb
      have z1 : w2.cell? ⟨w.heap.size, 1, none⟩ = some (.string x) := q2.cell 1
      have HF2 := Lib.hid (HF.out w2 hb)
      clear hb q2
      go_wp2_with fail
      go_ret
      exact ⟨rfl, HF2.out.1, HF2.out.2⟩
  | false =>
    obtain ⟨hA, hB, hC, hnm, ht1, ht5, hxs⟩ := badK_no hbad
    unfold starB at hB
    have hky := key_any t x
    rw [hA] at hky
    have HKY := Lib.hid hky
    have hsp := stale_pos (t := t) (x := x) (q := q) HOK.out.srt
    have hpl := posM_le t x q ms
    obtain ⟨a, c, rfl, hrd⟩ := H.out.rd
    have HFI := Lib.hid (fun W (hb : Below w.heap.size w W) => find_any l c a t x q ms W HOK.out.srt HOK.out.len (hrd.later hb))
    have HRD := Lib.hid hrd
    have HBAD := Lib.hid hbad
    obtain ⟨p, hp⟩ : ∃ p, posM t x q ms = p := ⟨_, rfl⟩
    rw [hp] at hsp hpl HFI
    obtain ⟨L, hL⟩ : ∃ L, ms.length = L := ⟨_, rfl⟩
    rw [hL] at hpl
    have hL0 := HOK.out.len
    rw [hL] at hL0
    have HL := Lib.hid hL
    have HP := Lib.hid hp
    have HNM := Lib.hid (And.intro ht1 (And.intro ht5 hxs))
    have HE := Lib.hid (show begE t x q ms = if staleM t x q ms then 6 else 0 by unfold begE; rw [if_neg (by rw [hbad]; decide)])
    have HM := Lib.hid (show begM t x q ms = if staleM t x q ms then ms else fullM (insM p ⟨t, x, q, 1, ⟨#[]⟩⟩ ms) by unfold begM; rw [if_neg (by rw [hbad]; decide), hp])
    clear hA hky hrd hbad hp hL ht1 ht5 hxs hnm
    rw [HE.out, HM.out]
    generalize begE t x q ms = e0 at HE
    obtain ⟨S, hS⟩ : ∃ S, staleM t x q ms = S := ⟨_, rfl⟩
    rw [hS] at hsp ⊢
    clear HE HM
    obtain ⟨E0, hE0⟩ : ∃ E0 : Int, (if S = true then 6 else 0) = E0 := ⟨_, rfl⟩
    obtain ⟨R, hR⟩ : ∃ R : List Mk, (if S = true then ms else fullM (insM p ⟨t, x, q, 1, ⟨#[]⟩⟩ ms)) = R := ⟨_, rfl⟩
    rw [hE0, hR]
    have HER := Lib.hid (And.intro hE0 hR)
    clear hE0 hR
    have HS := Lib.hid hS
    clear hS
    have HSP := Lib.hid hsp
    clear hsp
    have hp0 : (0 : Int) ≤ (p : Int) := by omega
    -- to region 6, or out
    have hkeep : ∀ w3, Below w1.heap.size w1 w3 → (w3.cell? ⟨l, 0, none⟩ = some (.slice a L c) ∧ w3.cell? ⟨w.heap.size, 0, none⟩ = some (.int .i64 t) ∧ w3.cell? ⟨w.heap.size, 1, none⟩ = some (.string x) ∧ Below w.heap.size w w3) := fun w3 hb => by
      have hb3 := HB1.out.trans (hb.mono HB1.out.size)
      have q3 := HQ1.out.later hb
      exact ⟨by rw [← HL.out]; exact (HRD.out.later hb3).blk.cell 0, q3.cell 0, q3.cell 1, hb3⟩
    have HKP := Lib.hid hkeep
    clear hkeep
    obtain ⟨o, ho⟩ : ∃ o, ms[p]? = o := ⟨_, rfl⟩
    rw [ho] at HSP
    have HO := Lib.hid ho
    clear ho
    have hcase : (o = none ∧ S = false) ∨ (∃ m, o = some m ∧ keyM t x m = S) := by
      have := HSP.out
      cases o with
      | none => exact .inl ⟨rfl, this⟩
      | some m => exact .inr ⟨m, rfl, this.symm⟩
    have HCASE := Lib.hid hcase
    clear HSP hcase
    go_enter Tryd.func11, Tryd.ntmps11
    go_wp2_with (rw [HW1.out])
    refine (HKY.out _).mono ?_
    rintro e w2 ⟨rfl, hb⟩
    have HB2 := Lib.hid hb
    obtain ⟨c2, z0, z1, hb2⟩ := HKP.out w2 hb
    have HF2 := Lib.hid (HFI.out w2 hb2)
    clear hb hb2
    go_wp2_with fail
    refine HF2.out.mono ?_
    rintro e w3 ⟨rfl, hb⟩
    have hb13 : Below w1.heap.size w1 w3 := HB2.out.trans (hb.mono HB2.out.size)
    have HB3 := Lib.hid hb13
    obtain ⟨c3, x0, x1, hb3⟩ := HKP.out w3 hb13
    have HBW := Lib.hid hb3
    clear hb hb13 hb3 HF2 HB2 c2 z0 z1
    rcases HCASE.out with ⟨rfl, rfl⟩ | ⟨m, rfl, hk⟩
    · have hpL : decide (p < L) = false := by
        have := HO.out
        rw [List.getElem?_eq_none_iff] at this
        have := HL.out
        exact decide_eq_false (by omega)
      have hpL2 : ¬ (p : Int) < (L : Int) := by have := of_decide_eq_false hpL; omega
      have HDR := Lib.hid (fun n => HB3.out.trans (below_drewM (B := w1.heap.size) (w := w3) n))
      go_wp2_with fail
      go_quiet (fail)
      have hd := HDR.out nq
      clear c3 x0 x1 hpL hpL2
      generalize w3.drewN nq = w4 at hd ⊢
      obtain ⟨c4, x0, x1, hb4⟩ := HKP.out w4 hd
      obtain rfl : (0 : Int) = E0 := by simpa using HER.out.1
      obtain rfl : fullM (insM p ⟨t, x, q, 1, ⟨#[]⟩⟩ ms) = R := by simpa using HER.out.2
      have h4 := H.out.later hb4
      have hbA : base ≤ w4.heap.size := h4.hB
      have hins := fun B W (hb : Below w4.heap.size w4 W) (hB : Blk W B #[.int .i64 t, .string x, .int .u64 (q : Int), .int .i64 1, .string ⟨#[]⟩] 49) (hBl : w4.heap.size ≤ B) =>
        insert_any base _ ms L p HL.out hpl ⟨t, x, q, 1, ⟨#[]⟩⟩ B W (by omega) (by rw [← HL.out]; exact own_below (by have := h4.row; rw [HL.out] at this ⊢; exact this) hb) hB (Nat.le_trans hbA hb.size) (fun g hg e => by have := (own_heap h4.row (by rw [HL.out]; exact hg)).2.1; omega)
      have hlen := insM_len p ⟨t, x, q, 1, ⟨#[]⟩⟩ ms
      rw [show ms.take p ++ (⟨t, x, q, 1, ⟨#[]⟩⟩ : Mk) :: ms.drop p = insM p ⟨t, x, q, 1, ⟨#[]⟩⟩ ms from rfl] at hins
      obtain ⟨IS, hIS⟩ : ∃ IS, insM p ⟨t, x, q, 1, ⟨#[]⟩⟩ ms = IS := ⟨_, rfl⟩
      rw [hIS] at hins hlen
      have HIS := Lib.hid hIS
      clear hIS
      obtain ⟨M, hM⟩ : ∃ M, IS.length = M := ⟨_, rfl⟩
      rw [hM, HL.out] at hlen
      subst hlen
      have HINS := Lib.hid (fun B W hb hB hBl => (hins B W hb hB hBl).mono (R' := fun e w' => ∃ a' c', e = .returned (.slice a' (L + 1) c') ∧ w'.ownsRow base 49 5 (.slice a' (L + 1) c') (L + 1) (mkCells IS) ∧ W.grownBy w' (Value.slice a L c).ownBlock) (fun e w' hh => by
        obtain ⟨v', he, hr, hg⟩ := hh
        rw [hM] at hr
        obtain ⟨a', c', rfl⟩ := row_shape hr
        exact ⟨a', c', he, hr, hg⟩))
      have HIM := Lib.hid hM
      clear hins hM
      have hne := row_block h4.row h4.blk (by decide)
      have HL4 := Lib.hid (And.intro h4 (And.intro hne (Kept.of (B := base) hb4)))
      clear h4 hbA hne hb4 hd
      go_wp2_with fail
      have hw4 : Below w4.heap.size w4 w4.drew := (Below.refl _ _).drew
      go_region_with (first
        | (go_at_call 27; refine (own_any ⟨t, x, q, 1, ⟨#[]⟩⟩ _ (by have := HNM.out.2.2; show x.size ≤ _; omega) (Nat.zero_le _)).mono ?_; rintro e wO ⟨rfl, hbO⟩; have hO : Below w4.heap.size w4 wO := hw4.trans hbO; have c5 : wO.cell? ⟨l, 0, none⟩ = some (.slice a L c) := (hO.cell (p := ⟨l, 0, none⟩) HL4.out.1.blk.lt).trans c4; have c7 : (wO.alloc (.cells #[.int .i64 t, .string x, .int .u64 (q : Int), .int .i64 1, .string ⟨#[]⟩] 49)).cell? ⟨l, 0, none⟩ = some (.slice a L c) := ((hO.alloc hO.size _).cell (p := ⟨l, 0, none⟩) HL4.out.1.blk.lt).trans c4)
        | (go_at_call 26; refine (HINS.out _ _ (hO.alloc hO.size _) (Blk.new _ _ _) hO.size).mono ?_; rintro e wI ⟨a', c', rfl, hrowI, hgrI⟩; have hlI : Blk wI l #[.slice a ms.length c] 53 := (HL4.out.1.blk.later (hO.alloc hO.size _)).kept (own_len (L' := ms.length) (c' := c) hgrI) (fun e => HL4.out.2.1 e.symm); have c6 : wI.cell? ⟨l, 0, none⟩ = some (.slice a L c) := (by rw [← HL.out]; exact hlI.cell 0); have f6 : wI.frozen? ⟨l, 0, none⟩ = false := hlI.frozen 0; have hKI : Kept base w4 wI := (Kept.of (hO.alloc hO.size _)).trans (Kept.row (own_below HL4.out.1.row (hO.alloc hO.size _)) (Nat.le_refl _) (own_len hgrI))))
      all_goals
        have hturn := LdAt.turn (ms := ms) (base := base) (ms' := IS) hlI HL4.out.1.bl (by rw [HIM.out]; exact hrowI) rfl
        have HKK := Lib.hid ((HL4.out.2.2.trans hKI).trans hturn.2)
        have h6 := hturn.1
        clear hturn hlI hrowI hgrI hKI c6 f6 c7 c5 hbO hO hw4 x0 x1 c4
        generalize wI.setCell ⟨l, 0, none⟩ (.slice a' (L + 1) c') = w6 at h6 HKK ⊢
        have c8 : w6.cell? ⟨l, 0, none⟩ = some (.slice a' (L + 1) c') := h6.blk.cell 0
        have H6 := Lib.hid h6
        clear h6
        by_cases hbig : 1024 < L + 1
        · have hbig2 : (1024 : Int) < (L : Int) + 1 := by omega
          have HD := Lib.hid (drop_any base l _ IS w6 H6.out (by rw [HIM.out]; omega) (by rw [HIM.out]; omega))
          have HFU := Lib.hid (show fullM IS = cutM IS by unfold fullM; rw [if_pos (by rw [HIM.out]; omega)])
          clear hbig
          go_wp2_with fail
          refine HD.out.mono ?_
          rintro e w7 ⟨rfl, h7, k7⟩
          have HF := Lib.hid (And.intro h7 (HKK.out.trans k7))
          clear h7 k7
          go_wp2_with fail
          go_ret
          exact ⟨rfl, by rw [HIS.out, HFU.out]; exact HF.out.1, HF.out.2⟩
        · have hbig2 : ¬ (1024 : Int) < (L : Int) + 1 := by omega
          have HFU := Lib.hid (show fullM IS = IS by unfold fullM; rw [if_neg (by rw [HIM.out]; omega)])
          clear hbig
          go_wp2_with fail
          go_ret
          exact ⟨rfl, by rw [HIS.out, HFU.out]; exact ⟨_, H6.out⟩, HKK.out⟩
    · have hpL : decide (p < L) = true := by
        have := (List.getElem?_eq_some_iff.1 HO.out).1
        have := HL.out
        exact decide_eq_true (by omega)
      have hpL2 : (p : Int) < (L : Int) := by have := of_decide_eq_true hpL; omega
      have HDR := Lib.hid (fun n => HB3.out.trans (below_drewM (B := w1.heap.size) (w := w3) n))
      obtain ⟨g, off, rfl, hgl, p0, p1, p2, p3, p4⟩ := (HRD.out.later HBW.out).at' p m HO.out
      have hkk := keyM_eq t x m
      rw [hk] at hkk
      have e1 := fun w => ck_eqlKey m.t t m.x x w
      rw [hkk] at e1
      have g1 := fun op a b xs ys w => ck_guardKey op a b xs ys w
      clear hkk hk p2 p3 p4 hgl
      obtain ⟨u, y, r, s, d⟩ := m
      cases S with
      | true =>
        go_wp2_with fail
        go_quiet (fail)
        have hd := HDR.out nq
        clear c3 x0 x1 hpL hpL2 p0 p1 e1 g1
        generalize w3.drewN nq = w4 at hd ⊢
        have hb4 := (HKP.out w4 hd).2.2.2
        obtain rfl : (6 : Int) = E0 := by simpa using HER.out.1
        obtain rfl : ms = R := by simpa using HER.out.2
        have HF := Lib.hid (And.intro (show ∃ v', LdAt base l v' ms w4 from ⟨_, H.out.later hb4⟩) (Kept.of (B := base) hb4))
        clear hb4 hd
        go_wp2_with fail
        go_ret
        exact ⟨rfl, HF.out.1, HF.out.2⟩
      | false =>
        go_wp2_with fail
        go_quiet (fail)
        have hd := HDR.out nq
        clear c3 x0 x1 hpL hpL2 p0 p1 e1 g1
        generalize w3.drewN nq = w4 at hd ⊢
        obtain ⟨c4, x0, x1, hb4⟩ := HKP.out w4 hd
        obtain rfl : (0 : Int) = E0 := by simpa using HER.out.1
        obtain rfl : fullM (insM p ⟨t, x, q, 1, ⟨#[]⟩⟩ ms) = R := by simpa using HER.out.2
        have h4 := H.out.later hb4
        have hbA : base ≤ w4.heap.size := h4.hB
        have hins := fun B W (hb : Below w4.heap.size w4 W) (hB : Blk W B #[.int .i64 t, .string x, .int .u64 (q : Int), .int .i64 1, .string ⟨#[]⟩] 49) (hBl : w4.heap.size ≤ B) =>
          insert_any base _ ms L p HL.out hpl ⟨t, x, q, 1, ⟨#[]⟩⟩ B W (by omega) (by rw [← HL.out]; exact own_below (by have := h4.row; rw [HL.out] at this ⊢; exact this) hb) hB (Nat.le_trans hbA hb.size) (fun g hg e => by have := (own_heap h4.row (by rw [HL.out]; exact hg)).2.1; omega)
        have hlen := insM_len p ⟨t, x, q, 1, ⟨#[]⟩⟩ ms
        rw [show ms.take p ++ (⟨t, x, q, 1, ⟨#[]⟩⟩ : Mk) :: ms.drop p = insM p ⟨t, x, q, 1, ⟨#[]⟩⟩ ms from rfl] at hins
        obtain ⟨IS, hIS⟩ : ∃ IS, insM p ⟨t, x, q, 1, ⟨#[]⟩⟩ ms = IS := ⟨_, rfl⟩
        rw [hIS] at hins hlen
        have HIS := Lib.hid hIS
        clear hIS
        obtain ⟨M, hM⟩ : ∃ M, IS.length = M := ⟨_, rfl⟩
        rw [hM, HL.out] at hlen
        subst hlen
        have HINS := Lib.hid (fun B W hb hB hBl => (hins B W hb hB hBl).mono (R' := fun e w' => ∃ a' c', e = .returned (.slice a' (L + 1) c') ∧ w'.ownsRow base 49 5 (.slice a' (L + 1) c') (L + 1) (mkCells IS) ∧ W.grownBy w' (Value.slice (some ⟨g, off, none⟩) L c).ownBlock) (fun e w' hh => by
          obtain ⟨v', he, hr, hg⟩ := hh
          rw [hM] at hr
          obtain ⟨a', c', rfl⟩ := row_shape hr
          exact ⟨a', c', he, hr, hg⟩))
        have HIM := Lib.hid hM
        clear hins hM
        have hne := row_block h4.row h4.blk (by decide)
        have HL4 := Lib.hid (And.intro h4 (And.intro hne (Kept.of (B := base) hb4)))
        clear h4 hbA hne hb4 hd
        go_wp2_with fail
        have hw4 : Below w4.heap.size w4 w4.drew := (Below.refl _ _).drew
        go_region_with (first
          | (go_at_call 27; refine (own_any ⟨t, x, q, 1, ⟨#[]⟩⟩ _ (by have := HNM.out.2.2; show x.size ≤ _; omega) (Nat.zero_le _)).mono ?_; rintro e wO ⟨rfl, hbO⟩; have hO : Below w4.heap.size w4 wO := hw4.trans hbO; have c5 : wO.cell? ⟨l, 0, none⟩ = some (.slice (some ⟨g, off, none⟩) L c) := (hO.cell (p := ⟨l, 0, none⟩) HL4.out.1.blk.lt).trans c4; have c7 : (wO.alloc (.cells #[.int .i64 t, .string x, .int .u64 (q : Int), .int .i64 1, .string ⟨#[]⟩] 49)).cell? ⟨l, 0, none⟩ = some (.slice (some ⟨g, off, none⟩) L c) := ((hO.alloc hO.size _).cell (p := ⟨l, 0, none⟩) HL4.out.1.blk.lt).trans c4)
          | (go_at_call 26; refine (HINS.out _ _ (hO.alloc hO.size _) (Blk.new _ _ _) hO.size).mono ?_; rintro e wI ⟨a', c', rfl, hrowI, hgrI⟩; have hlI : Blk wI l #[.slice (some ⟨g, off, none⟩) ms.length c] 53 := (HL4.out.1.blk.later (hO.alloc hO.size _)).kept (own_len (L' := ms.length) (c' := c) hgrI) (fun e => HL4.out.2.1 e.symm); have c6 : wI.cell? ⟨l, 0, none⟩ = some (.slice (some ⟨g, off, none⟩) L c) := (by rw [← HL.out]; exact hlI.cell 0); have f6 : wI.frozen? ⟨l, 0, none⟩ = false := hlI.frozen 0; have hKI : Kept base w4 wI := (Kept.of (hO.alloc hO.size _)).trans (Kept.row (own_below HL4.out.1.row (hO.alloc hO.size _)) (Nat.le_refl _) (own_len hgrI))))
        all_goals
          have hturn := LdAt.turn (ms := ms) (base := base) (ms' := IS) hlI HL4.out.1.bl (by rw [HIM.out]; exact hrowI) rfl
          have HKK := Lib.hid ((HL4.out.2.2.trans hKI).trans hturn.2)
          have h6 := hturn.1
          clear hturn hlI hrowI hgrI hKI c6 f6 c7 c5 hbO hO hw4 x0 x1 c4
          generalize wI.setCell ⟨l, 0, none⟩ (.slice a' (L + 1) c') = w6 at h6 HKK ⊢
          have c8 : w6.cell? ⟨l, 0, none⟩ = some (.slice a' (L + 1) c') := h6.blk.cell 0
          have H6 := Lib.hid h6
          clear h6
          by_cases hbig : 1024 < L + 1
          · have hbig2 : (1024 : Int) < (L : Int) + 1 := by omega
            have HD := Lib.hid (drop_any base l _ IS w6 H6.out (by rw [HIM.out]; omega) (by rw [HIM.out]; omega))
            have HFU := Lib.hid (show fullM IS = cutM IS by unfold fullM; rw [if_pos (by rw [HIM.out]; omega)])
            clear hbig
            go_wp2_with fail
            refine HD.out.mono ?_
            rintro e w7 ⟨rfl, h7, k7⟩
            have HF := Lib.hid (And.intro h7 (HKK.out.trans k7))
            clear h7 k7
            go_wp2_with fail
            go_ret
            exact ⟨rfl, by rw [HIS.out, HFU.out]; exact HF.out.1, HF.out.2⟩
          · have hbig2 : ¬ (1024 : Int) < (L : Int) + 1 := by omega
            have HFU := Lib.hid (show fullM IS = IS by unfold fullM; rw [if_neg (by rw [HIM.out]; omega)])
            clear hbig
            go_wp2_with fail
            go_ret
            exact ⟨rfl, by rw [HIS.out, HFU.out]; exact ⟨_, H6.out⟩, HKK.out⟩
end Go.Proofs.YtdaelapamkmcaaaDoor
