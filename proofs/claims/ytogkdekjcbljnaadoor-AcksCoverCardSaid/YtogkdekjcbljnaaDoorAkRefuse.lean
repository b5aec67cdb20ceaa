/- acks: refuse. -/
import Derived.Test.YtogkdekjcbljnaaDoorAkFind
import Derived.Test.YtogkdekjcbljnaaDoorAkTell
import Derived.Test.YtogkdekjcbljnaaDoorAkDel
namespace Go.Proofs.YtogkdekjcbljnaaDoor
open Go.RowKit

set_option maxRecDepth 100000 in
set_option maxHeartbeats 4000000 in
theorem refuse_any {base : Nat} {b : AkB} {A : Ak} {CT : Tk → Option Value} {CR CN : Ky → Option Value} {w : World} (h : AkIn base b A CT CR CN w) {k : Ky} (hok : BdsOk (A.R k)) {q : Nat} {s : ByteArray} (hk : kyK k) (hs : s.size ≤ 140737488355328) :
    Calls Tryd.prog 18 #[.pointer (some ⟨b.m, 0, none⟩), kyE k, .int .u64 (q : Int), .string s] w fun e w' => e = .returned (.tuple #[]) ∧ (∃ CR', AkIn base b (A.refuse k q s) CT CR' CN w') ∧ KeptA b base w w' := by
  obtain ⟨t, x⟩ := k
  obtain ⟨w1, hw1, hb1, q1⟩ := ak_new w #[.int .i64 t, .string x] 27
  have hd1 : Below w1.heap.size w1 w1.drew := (Below.refl _ _).drew
  have hin1 := h.later (hb1.trans (hd1.mono hb1.size))
  have hlk := hin1.lookR (k := (t, x)) hk
  obtain ⟨a, c, hv, hrow⟩ := hin1.rowR (t, x)
  obtain ⟨l, hl⟩ : ∃ l, A.R (t, x) = l := ⟨_, rfl⟩
  have HREF := Lib.hid (show A.refuse (t, x) q s = { A with R := upd A.R (t, x) (bdIns q s l) } by unfold Ak.refuse; rw [hl])
  rw [HREF.out]
  have HSELF := Lib.hid (show upd A.R (t, x) l = A.R by rw [← hl, upd_self])
  rw [hl] at hv hrow hok
  rw [hv] at hlk
  have hse := search_any (q := q) (c := c) (w := w1.drew) (bdsAt_row hrow) hok.2.1 (by have := hok.1; omega)
  obtain ⟨n, hn⟩ : ∃ n, l.length = n := ⟨_, rfl⟩
  obtain ⟨p, hp⟩ : ∃ p, bdPos q l = p := ⟨_, rfl⟩
  have hpn : p ≤ n := by rw [← hp, ← hn]; exact bdPos_le q l
  rw [hn] at hv hlk hrow hse
  rw [hp] at hse
  have hn8 : n ≤ 8 := by rw [← hn]; exact hok.1
  have c0 : w1.cell? ⟨b.m, 1, none⟩ = some (.map (some b.mr)) := (h.later hb1).blk.cell 1
  have y0 : w1.cell? ⟨w.heap.size, 0, none⟩ = some (.int .i64 t) := q1.cell 0
  have y1 : w1.cell? ⟨w.heap.size, 1, none⟩ = some (.string x) := q1.cell 1
  have HW1 := Lib.hid hw1
  have HIN := Lib.hid hin1
  have HK := Lib.hid (KeptA.of (b := b) (B := base) (hb1.trans (hd1.mono hb1.size)))
  have HQ := Lib.hid (q1.later hd1)
  have HL := Lib.hid (And.intro hn hp)
  have HV := Lib.hid (And.intro hv hrow)
  have HSS := Lib.hid hs
  have HKK := Lib.hid hk
  have HSE := Lib.hid hse
  clear hw1 hb1 q1 hin1 h hok hl hn hp hv hrow hd1 hs hse hk
  go_enter Tryd.func18, Tryd.ntmps18
  go_wp2_with (rw [HW1.out])
  go_region
  all_goals
    go_wp2_with fail
    obtain ⟨w2, hw2⟩ : ∃ w2, w1.drew = w2 := ⟨_, rfl⟩
    have HSE := HSE
    have HIN := HIN
    have HK := HK
    have HQ := HQ
    have HV := HV
    rw [hw2] at HSE HIN HK HQ HV ⊢
    clear c0 y0 y1 hlk hw2
    refine HSE.out.mono ?_
    rintro e w3 ⟨rfl, hb3⟩
    have HIN := Lib.hid (HIN.out.later hb3)
    have HK := Lib.hid (HK.out.trans (.of hb3))
    have HQ := Lib.hid (HQ.out.later hb3)
    have HROW := Lib.hid (own_below HV.out.2 hb3)
    clear hb3 HSE
    cases hB : bdHas q l with
    | true =>
      have HE := Lib.hid (show (∃ CR', AkIn base b { A with R := upd A.R (t, x) (bdIns q s l) } CT CR' CN w3) ∧ KeptA b base w w3 from ⟨⟨CR, by
        unfold bdIns
        rw [if_pos hB, HSELF.out]
        exact HIN.out⟩, HK.out⟩)
      clear hB
      go_wp2_with fail
      (try simp only [Exit.inBlock, Exit.then])
      refine bodyPost_ret (results_none rfl _ _ _) rfl ?_
      exact ⟨rfl, HE.out.1, HE.out.2⟩
    | false =>
      have HINS := Lib.hid (show bdIns q s l = bdLim (l.take p ++ ⟨q, false, s⟩ :: l.drop p) by unfold bdIns; rw [if_neg (by rw [hB]; decide), HL.out.2])
      have HRL := Lib.hid (show (l.take p ++ (⟨q, false, s⟩ : Bd) :: l.drop p).length = n + 1 by have := bdRaw_len q s l; rw [HL.out.1, HL.out.2] at this; exact this)
      clear hB
      obtain ⟨RAW, hRAW⟩ : ∃ RAW, l.take p ++ (⟨q, false, s⟩ : Bd) :: l.drop p = RAW := ⟨_, rfl⟩
      have HRAW := Lib.hid hRAW
      rw [hRAW] at HINS HRL
      clear hRAW
      go_wp2_with fail
      refine (clone_any _ w3 HSS.out).mono ?_
      rintro e w4 ⟨rfl, hb4⟩
      obtain ⟨w5, hw5, hb5, q5⟩ := ak_new w4 #[.int .u64 (q : Int), .bool false, .string s] 82
      have hb35 := hb4.trans (hb5.mono hb4.size)
      have hrow5 := own_below HROW.out hb35
      have hbB : base ≤ w5.heap.size := Nat.le_trans HIN.out.bm (Nat.le_of_lt (HIN.out.later hb35).blk.lt)
      have hins := insert_any base _ l n p HL.out.1 hpn ⟨q, false, s⟩ w4.heap.size w5 (by omega) hrow5 q5 hbB (fun g hg e => by have := (own_heap HROW.out hg).2.1; have := hb4.size; omega)
      rw [HRAW.out] at hins
      have HI := Lib.hid hins
      have HW5 := Lib.hid hw5
      have HB5 := Lib.hid (And.intro hb35 hb4.size)
      clear hb4 hw5 hb5 q5 hb35 hrow5 hins hbB
      go_wp2_with (rw [HW5.out])
      refine HI.out.mono ?_
      rintro e w6 ⟨v6, rfl, hrow6, hgr6, hnew6⟩
      rw [HRL.out] at hrow6
      obtain ⟨a6, c6, rfl⟩ := row_shape hrow6
      have HG6 := Lib.hid (show w3.grownBy w6 (Value.slice a n c).ownBlock from (grownBy_below HB5.out.1 _).trans hgr6)
      have HN6 := Lib.hid (show ∀ g, (Value.slice a6 (n + 1) c6).ownBlock = some g → (Value.slice a n c).ownBlock = some g ∨ w3.heap.size ≤ g from fun g hg => (hnew6 g hg).imp id (fun h => Nat.le_trans HB5.out.1.size h))
      have HR6 := Lib.hid hrow6
      clear hrow6 hgr6 hnew6 HI
      by_cases hbig : 8 < n + 1
      · obtain ⟨g6, cap6, hva6, _, _⟩ := row_some HR6.out (by omega)
        cases hva6
        have b1 : (8 : Int) < (n : Int) + 1 := by omega
        have HDEL := Lib.hid (del_first (K := n) HRL.out (by omega) HR6.out)
        have HBM := Lib.hid (And.intro (Blk.aside HIN.out.blk HROW.out (by decide) HG6.out) (Blk.aside HQ.out HROW.out (by decide) HG6.out))
        go_wp2_with fail
        refine HDEL.out.mono ?_
        rintro e w7 ⟨rfl, hrow7, hgr7⟩
        have hd7 : Below w7.heap.size w7 w7.drew := (Below.refl _ _).drew
        have hg7 := HG6.out.andThen hgr7 (fun j hj => (HN6.out j hj).symm)
        have hlen7 : (RAW.drop 1).length = n := by rw [List.length_drop, HRL.out]; rfl
        obtain ⟨w9, hup, hI9, hK9⟩ := HIN.out.updR (k := (t, x)) (v := .slice (some ⟨g6, 0, none⟩) n c6) (l := RAW.drop 1) (w1 := w7.drew) HKK.out (by rw [HV.out.1]; exact hg7.trans (grownBy_below hd7 _)) (by rw [hlen7]; exact own_below hrow7 hd7) (by rw [HV.out.1]; exact fun g hg => HN6.out g hg)
        have HE := Lib.hid (show (∃ CR', AkIn base b { A with R := upd A.R (t, x) (bdIns q s l) } CT CR' CN w9) ∧ KeptA b base w w9 from ⟨by
          rw [HINS.out]
          unfold bdLim
          rw [if_pos (by rw [HRL.out]; exact hbig)]
          exact hI9, HK.out.trans hK9⟩)
        have c0 : w7.cell? ⟨b.m, 1, none⟩ = some (.map (some b.mr)) := (Blk.aside HBM.out.1 HR6.out (by decide) hgr7).cell 1
        have y0 : w7.cell? ⟨w.heap.size, 0, none⟩ = some (.int .i64 t) := (Blk.aside HBM.out.2 HR6.out (by decide) hgr7).cell 0
        have y1 : w7.cell? ⟨w.heap.size, 1, none⟩ = some (.string x) := (Blk.aside HBM.out.2 HR6.out (by decide) hgr7).cell 1
        clear hI9 hK9 hd7 hbig hg7 hrow7 hgr7 hlen7 HDEL
        go_wp2_with fail
        go_region
        all_goals
          go_wp2_with fail
          go_end0
          exact ⟨rfl, HE.out.1, HE.out.2⟩
      · have b1 : ¬ (8 : Int) < (n : Int) + 1 := by omega
        have hd6 : Below w6.heap.size w6 w6.drew := (Below.refl _ _).drew
        obtain ⟨w9, hup, hI9, hK9⟩ := HIN.out.updR (k := (t, x)) (l := RAW) (w1 := w6.drew) HKK.out (by rw [HV.out.1]; exact HG6.out.trans (grownBy_below hd6 _)) (by rw [HRL.out]; exact own_below HR6.out hd6) (by rw [HV.out.1]; exact HN6.out)
        have HE := Lib.hid (show (∃ CR', AkIn base b { A with R := upd A.R (t, x) (bdIns q s l) } CT CR' CN w9) ∧ KeptA b base w w9 from ⟨by
          rw [HINS.out]
          unfold bdLim
          rw [if_neg (by rw [HRL.out]; exact hbig)]
          exact hI9, HK.out.trans hK9⟩)
        have c0 : w6.cell? ⟨b.m, 1, none⟩ = some (.map (some b.mr)) := (Blk.aside HIN.out.blk HROW.out (by decide) HG6.out).cell 1
        have y0 : w6.cell? ⟨w.heap.size, 0, none⟩ = some (.int .i64 t) := (Blk.aside HQ.out HROW.out (by decide) HG6.out).cell 0
        have y1 : w6.cell? ⟨w.heap.size, 1, none⟩ = some (.string x) := (Blk.aside HQ.out HROW.out (by decide) HG6.out).cell 1
        clear hI9 hK9 hd6 hbig
        go_wp2_with fail
        go_region
        all_goals
          go_wp2_with fail
          go_end0
          exact ⟨rfl, HE.out.1, HE.out.2⟩
end Go.Proofs.YtogkdekjcbljnaaDoor
