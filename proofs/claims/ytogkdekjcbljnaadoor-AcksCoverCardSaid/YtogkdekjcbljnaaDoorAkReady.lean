/- acks: Ready. -/
import Derived.Test.YtogkdekjcbljnaaDoorAkTell
import Derived.Test.YtogkdekjcbljnaaDoorAkLeast
namespace Go.Proofs.YtogkdekjcbljnaaDoor
open Go.RowKit

theorem Ak.ready_yes {A : Ak} {k : Ky} {l : List Int} (h : (A.N k).getD 0 < leastL (A.T k) l) : A.ready k l = { A.tell k with N := upd (A.tell k).N k (some (leastL (A.T k) l)) } ∧ A.out k l = bdOut k (A.R k) ++ [⟨k.1, k.2, leastL (A.T k) l, true, ⟨#[]⟩⟩] := by
  have hm : A.more k l = true := decide_eq_true h
  unfold Ak.ready Ak.out
  rw [if_pos hm, if_pos hm]
  exact ⟨rfl, rfl⟩
theorem Ak.ready_no {A : Ak} {k : Ky} {l : List Int} (h : ¬ (A.N k).getD 0 < leastL (A.T k) l) : A.ready k l = A.tell k ∧ A.out k l = bdOut k (A.R k) := by
  have hm : A.more k l = false := decide_eq_false h
  unfold Ak.ready Ak.out
  rw [if_neg (by rw [hm]; decide), if_neg (by rw [hm]; decide), List.append_nil]
  exact ⟨rfl, rfl⟩
set_option maxRecDepth 100000 in
set_option maxHeartbeats 4000000 in
theorem ready_any {base : Nat} {b : AkB} {A : Ak} {w : World} {k : Ky} (h : AkIs base b A w) (hk : kyK k) (hkx : k.2.size ≤ 140737488355328) {a : Option Addr} {c : Nat} {l : List Int} (hr : ∀ w', KeptA b base w w' → IntsAt w' a l) (hn : l.length ≤ maxLen) (hi : ∀ x ∈ l, i64B x) :
    Calls Tryd.prog 10 #[.pointer (some ⟨b.m, 0, none⟩), kyE k, .slice a l.length c] w (StsPost b base (A.ready k l) (A.out k l) w) := by
  obtain ⟨i0, hi0, hz0, hz1, hz2⟩ := info_parts Tryd.infoSt
  obtain ⟨t, x⟩ := k
  obtain ⟨w1, hw1, hb1, q1⟩ := ak_new w #[.int .i64 t, .string x] 27
  have HTE := Lib.hid (tell_any (h.later hb1) hk hkx)
  have HOK := Lib.hid h.1
  have y0 : w1.cell? ⟨w.heap.size, 0, none⟩ = some (.int .i64 t) := q1.cell 0
  have y1 : w1.cell? ⟨w.heap.size, 1, none⟩ = some (.string x) := q1.cell 1
  have HW1 := Lib.hid hw1
  have HB1 := Lib.hid hb1
  have HQ1 := Lib.hid q1
  have HR := Lib.hid (And.intro hr (And.intro hn hi))
  have HKK := Lib.hid hk
  have HKY := Lib.hid (show x.size ≤ 140737488355328 from hkx)
  clear hw1 hb1 q1 hr hn hi h hk hkx
  obtain ⟨L, hL⟩ : ∃ L, l.length = L := ⟨_, rfl⟩
  rw [hL]
  have HL := Lib.hid hL
  clear hL
  go_enter Tryd.func10, Tryd.ntmps10
  go_wp2_with (rw [HW1.out])
  refine HTE.out.mono ?_
  rintro e w2 ⟨v, rfl, hrow, hak, hkp⟩
  have HQ2 := Lib.hid (hkp.blk HQ1.out (by decide))
  have HK2 := Lib.hid ((KeptA.of (b := b) (B := base) HB1.out).trans hkp)
  have HO2 := Lib.hid (own_less hrow HB1.out.size)
  have HLE := Lib.hid (least_any (c := c) hak HKK.out (HR.out.1 w2 HK2.out) HR.out.2.1 HR.out.2.2)
  rw [HL.out] at HLE
  have HA2 := Lib.hid hak
  have y0 : w2.cell? ⟨w.heap.size, 0, none⟩ = some (.int .i64 t) := HQ2.out.cell 0
  have y1 : w2.cell? ⟨w.heap.size, 1, none⟩ = some (.string x) := HQ2.out.cell 1
  clear hrow hak hkp
  go_wp2_with fail
  refine HLE.out.mono ?_
  rintro e w3 ⟨rfl, hb3⟩
  rw [show ((A.tell (t, x)).T (t, x)) = A.T (t, x) from rfl]
  have HQ3 := Lib.hid (HQ2.out.later hb3)
  have HK3 := Lib.hid (HK2.out.later hb3)
  have HO3 := Lib.hid (own_below HO2.out hb3)
  obtain ⟨hok3, CT, CR, CN, hin⟩ := HA2.out.later hb3
  have hd3 : Below w3.heap.size w3 w3.drew := (Below.refl _ _).drew
  have hlk := (hin.later hd3).lookN (k := (t, x)) HKK.out
  rw [show ((A.tell (t, x)).N (t, x)) = A.N (t, x) from rfl] at hlk
  obtain ⟨N, hN⟩ : ∃ N, (A.N (t, x)).getD 0 = N := ⟨_, rfl⟩
  obtain ⟨M, hM⟩ : ∃ M, leastL (A.T (t, x)) l = M := ⟨_, rfl⟩
  rw [hN] at hlk
  rw [hM]
  have c0 : w3.cell? ⟨b.m, 2, none⟩ = some (.map (some b.mo)) := hin.blk.cell 2
  have x0 : w3.cell? ⟨w.heap.size, 0, none⟩ = some (.int .i64 t) := HQ3.out.cell 0
  have x1 : w3.cell? ⟨w.heap.size, 1, none⟩ = some (.string x) := HQ3.out.cell 1
  have HI3 := Lib.hid hin
  have HD3 := Lib.hid hd3
  have HLN := Lib.hid (show (bdOut (t, x) (A.R (t, x))).length ≤ 8 from Nat.le_trans (bdOut_len _ _) (HOK.out.r _).1)
  clear hb3 y0 y1 hin hok3 hd3
  by_cases hlt : N < M
  · have b1 : (N : Int) < (M : Int) := by omega
    have HAR := Lib.hid (Ak.ready_yes (A := A) (k := (t, x)) (l := l) (by rw [hN, hM]; exact hlt))
    rw [hM] at HAR
    clear hN hM hlt
    go_wp2_with fail
    go_region
    all_goals
      clear hlk c0 x0 x1
      obtain ⟨w4, hw4⟩ : ∃ w4, w3.drew = w4 := ⟨_, rfl⟩
      have hb4 : Below w3.heap.size w3 w4 := hw4 ▸ HD3.out
      rw [hw4]
      have HQ4 := Lib.hid (HQ3.out.later hb4)
      have HK4 := Lib.hid (HK3.out.later hb4)
      have HO4 := Lib.hid (own_below HO3.out hb4)
      have HI4 := Lib.hid (HI3.out.later hb4)
      clear hb4 hw4
      have c0 : w4.cell? ⟨b.m, 2, none⟩ = some (.map (some b.mo)) := HI4.out.blk.cell 2
      have x0 : w4.cell? ⟨w.heap.size, 0, none⟩ = some (.int .i64 t) := HQ4.out.cell 0
      have x1 : w4.cell? ⟨w.heap.size, 1, none⟩ = some (.string x) := HQ4.out.cell 1
      have hd4 : Below w4.heap.size w4 w4.drew := (Below.refl _ _).drew
      go_wp2_with fail
      go_region_with (go_at_call 16; refine (ownKey_any (t, x) _ HKY.out).mono ?_; rintro e wC ⟨rfl, hbC⟩; have hC : Below w4.heap.size w4 wC := hd4.trans hbC; have cC : wC.cell? ⟨b.m, 2, none⟩ = some (.map (some b.mo)) := (HI4.out.later hC).blk.cell 2; obtain ⟨w9, hup, hI9, hK9⟩ := (HI4.out.later hC).updN (k := (t, x)) HKK.out M)
      all_goals
        have HQ9 := Lib.hid (hK9.blk (HQ4.out.later hC) (by decide))
        have HK9 := Lib.hid ((HK4.out.later hC).trans hK9)
        have HO9 := Lib.hid (hK9.own (own_below HO4.out hC) (by decide))
        have HI9 := Lib.hid hI9
        have z0 : w9.cell? ⟨w.heap.size, 0, none⟩ = some (.int .i64 t) := HQ9.out.cell 0
        have z1 : w9.cell? ⟨w.heap.size, 1, none⟩ = some (.string x) := HQ9.out.cell 1
        clear hbC hC cC hup hI9 hK9 hd4 c0 x0 x1
        go_wp2_with fail
        refine (ownKey_any (t, x) w9 HKY.out).mono ?_
        rintro e w10 ⟨rfl, hb10⟩
        have HK10 := Lib.hid (HK9.out.later hb10)
        have HO10 := Lib.hid (own_below HO9.out hb10)
        have HI10 := Lib.hid (show ∃ CN', AkIn base b { A.tell (t, x) with N := upd (A.tell (t, x)).N (t, x) (some M) } CT CR CN' w10 by
          obtain ⟨CN', hh⟩ := HI9.out
          exact ⟨CN', hh.later hb10⟩)
        have hsz := HK10.out.size
        clear hb10 z0 z1
        go_wp2_with (at_builtin; go_must (refine wpList_append_own _ rfl _ _ 39 rfl w.heap.size 35 i0 _ 5 56 Tryd.underlying39 hi0 hz0 hz1 hz2 rfl (by omega) _ _ _ rfl (HO10.out.alloc _) ⟨w10.heap.size, 0, none⟩ 1 1 (stCells [⟨t, x, M, true, ⟨#[]⟩⟩]) rfl rfl (World.news_of_block (cs := #[.int .i64 t, .string x, .int .u64 (M : Int), .bool true, .string ⟨#[]⟩]) (t := 35) (fr := (0, 0)) (heap_alloc_new w10 _)) st_one (by have := HLN.out; unfold maxLen; omega) (by have := HLN.out; omega) (by simp; omega) ?_; intro v6 w6 hown6 hgrow6 _))
        have HO10A := Lib.hid (HO10.out.alloc (.cells #[.int .i64 t, .string x, .int .u64 (M : Int), .bool true, .string ⟨#[]⟩] 35))
        have hba : Below w10.heap.size w10 (w10.alloc (.cells #[.int .i64 t, .string x, .int .u64 (M : Int), .bool true, .string ⟨#[]⟩] 35)) := (Below.refl _ _).alloc (Nat.le_refl _) _
        have HE := Lib.hid (show StsPost b base { A.tell (t, x) with N := upd (A.tell (t, x)).N (t, x) (some M) } (bdOut (t, x) (A.R (t, x)) ++ [⟨t, x, M, true, ⟨#[]⟩⟩]) w (.returned v6) w6 by
          obtain ⟨CN', hh⟩ := HI10.out
          refine ⟨v6, rfl, by rw [List.length_append, stCells_append]; exact hown6, ⟨?_, CT, CR, CN', (hh.later hba).aside HO10A.out (by decide) (by decide) hgrow6⟩, (HK10.out.later hba).beyond hgrow6 fun g hg => (own_heap HO10A.out hg).1⟩
          have := HOK.out.ready (t, x) l
          rw [HAR.out.1] at this; exact this)
        clear hown6 hgrow6 hba hsz
        go_wp2_with fail
        go_ret
        rw [HAR.out.1, HAR.out.2]
        exact HE.out
  · have b1 : ¬ (N : Int) < (M : Int) := by omega
    have HAR := Lib.hid (Ak.ready_no (A := A) (k := (t, x)) (l := l) (by rw [hN, hM]; exact hlt))
    have HE := Lib.hid (show StsPost b base (A.tell (t, x)) (bdOut (t, x) (A.R (t, x))) w (.returned v) w3.drew from ⟨v, rfl, own_below HO3.out HD3.out, ⟨HOK.out.tell _, CT, CR, CN, HI3.out.later HD3.out⟩, HK3.out.later HD3.out⟩)
    clear hN hM hlt
    go_wp2_with fail
    go_region
    all_goals
      go_wp2_with fail
      go_ret
      rw [HAR.out.1, HAR.out.2]
      exact HE.out
end Go.Proofs.YtogkdekjcbljnaaDoor
