/- merge: turn walked (tools/mgtw_gen.py). -/
import Derived.Test.YtkjfafnnnkjoeaaGreatDoorMgT
import Derived.Test.YtkjfafnnnkjoeaaGreatDoorNmLess
namespace Go.Proofs.YtkjfafnnnkjoeaaGreatDoor
open Go.RowKit Go.Lib

theorem i64B_small {z : Int} (h1 : 1 ≤ z) (h2 : z ≤ 32) : i64B z := by unfold i64B; omega
/-- What turn answers where there is no room. -/
def turnNo (W : Wants) (i k : Int) (s : Ns) : Prop := 64 < (nList (uni (wset W i k s) k)).length
set_option maxRecDepth 100000 in
set_option maxHeartbeats 8000000 in
theorem turn_any {base m : Nat} {W : Wants} {i k : Int} {sa : Bool} {sl : List (List UInt8)} {a1 : Option Addr} {c1 : Nat} {a f n : Addr} {w : World} (hm : MgIs base m W w) (hg : Gm a f n w) (hs : TsAt w (.slice a1 sl.length c1) sl) (hsr : NsR ⟨sa, sl⟩) (hsl : (nList ⟨sa, sl⟩).length ≤ 64) (hsx : ∀ x ∈ sl, x.length ≤ 64) (hik : badI i k = false) :
    Calls Tryz.prog 31 #[.pointer (some ⟨m, 0, none⟩), .agg #[.int .i64 i, .int .i64 k], .agg #[.bool sa, .slice a1 sl.length c1]] w fun e w' =>
      (64 < (nList (uni (wset W i k ⟨sa, sl⟩) k)).length → e = .returned (.tuple #[.agg zSet, .agg zSet, fG i f]) ∧ Below w.heap.size w w') ∧
      (¬ 64 < (nList (uni (wset W i k ⟨sa, sl⟩) k)).length → ∃ v1 v2, e = .returned (.tuple #[v1, v2, .nilIface]) ∧ SetAt w' v1 (nLess (uni (wset W i k ⟨sa, sl⟩) k) (uni W k)) ∧ SetAt w' v2 (nLess (uni W k) (uni (wset W i k ⟨sa, sl⟩) k)) ∧ MgIs base m (wset W i k ⟨sa, sl⟩) w' ∧ KeptM base w w') := by
  obtain ⟨n1, hn1⟩ : ∃ n, sl.length = n := ⟨_, rfl⟩
  rw [hn1] at hs ⊢
  obtain ⟨hwok, hwfit, mw, mc, C, D, hin⟩ := hm
  obtain ⟨⟨i1, i2⟩, k1, k2⟩ := badI_no.1 hik
  obtain ⟨w1, hw1, hb1, q1⟩ := alloc_new w #[.int .i64 i, .int .i64 k] 74
  obtain ⟨w2, hw2, hb2, q2⟩ := alloc_new w1 #[.bool sa, .slice a1 n1 c1] 41
  obtain ⟨w3, hw3, hb3, q3⟩ := alloc_new w2 zSet 41
  obtain ⟨w4, hw4, hb4, q4⟩ := alloc_new w3 zSet 41
  have hb12 := hb1.trans (hb2.mono hb1.size)
  have hb13 := hb12.trans (hb3.mono hb12.size)
  have hb14 := hb13.trans (hb4.mono hb13.size)
  have HX := Lib.hid (show TnX base m mw mc C D W w.heap.size w1.heap.size w2.heap.size w3.heap.size i k sa (.slice a1 n1 c1) a f n w w4 from ⟨(((hin.later hb1).later hb2).later hb3).later hb4, ((q1.later hb2).later hb3).later hb4, (q2.later hb3).later hb4, q3.later hb4, q4, (((hg.later hb1).later hb2).later hb3).later hb4, hb14, ⟨i64B_small i1 i2, i64B_small k1 (by omega)⟩⟩)
  have HSZ := Lib.hid (show w.heap.size + 1 + 1 + 1 = w3.heap.size ∧ w.heap.size + 1 + 1 = w2.heap.size ∧ w.heap.size + 1 = w1.heap.size by rw [← hw3, ← hw2, ← hw1]; simp)
  have HW := Lib.hid (And.intro hw1 (And.intro hw2 (And.intro hw3 hw4)))
  have HS := Lib.hid ((((hs.later hb1).later hb2).later hb3).later hb4)
  have HH := Lib.hid (And.intro hwok (And.intro hwfit (And.intro hsr (And.intro hsl hsx))))
  have HIK := Lib.hid (And.intro hik (And.intro i1 (And.intro i2 (And.intro k1 k2))))
  have HN := Lib.hid hn1
  have HLG := Lib.hid hg.lf
  obtain ⟨oA, oc, hwv, hot⟩ := (HX.out.mg.wv i k).val
  obtain ⟨VT, hVT⟩ : ∃ VT, (D k).getD (.map none) = VT := ⟨_, rfl⟩
  obtain ⟨on, hon⟩ : ∃ on, (W i k).ns.length = on := ⟨_, rfl⟩
  obtain ⟨oa, hoa⟩ : ∃ oa, (W i k).all = oa := ⟨_, rfl⟩
  rw [hon] at hwv hot
  rw [hoa] at hwv
  have HO := Lib.hid (And.intro hot (And.intro hon (And.intro hoa (And.intro hVT hwv))))
  have hs1 : ∀ w', TnX base m mw mc C D W w.heap.size w1.heap.size w2.heap.size w3.heap.size i k sa (.slice a1 n1 c1) a f n w w' → w'.cell? ⟨m, 0, none⟩ = some (.map (some mw)) ∧ w'.cell? ⟨m, 1, none⟩ = some (.map (some mc)) ∧ w'.cell? ⟨w.heap.size, 0, none⟩ = some (.int .i64 i) ∧ w'.cell? ⟨w.heap.size, 1, none⟩ = some (.int .i64 k) ∧ w'.cell? ⟨w1.heap.size, 0, none⟩ = some (.bool sa) ∧ w'.cell? ⟨w1.heap.size, 1, none⟩ = some (.slice a1 n1 c1) ∧ (Instr.lookup 63 (.map (some mc)) (.int .i64 k) false).run Tryz.prog w' = .ok VT w' ∧ (Instr.lookup 62 (.map (some mw)) (.agg #[.int .i64 i, .int .i64 k]) false).run Tryz.prog w' = .ok (.agg #[.bool oa, .slice oA on oc]) w' ∧ TnX base m mw mc C D W w.heap.size w1.heap.size w2.heap.size w3.heap.size i k sa (.slice a1 n1 c1) a f n w w' := fun w' h => by
    have := h.s1
    unfold S1 at this
    rw [hVT, hwv] at this
    exact this
  have HS1 := Lib.hid hs1
  have HX4 := HX
  have htc : ∀ w', Below w4.heap.size w4 w' → Calls Tryz.prog 48 #[VT, .agg #[.bool oa, .slice oA on oc], .agg #[.bool sa, .slice a1 n1 c1]] w' fun e w'' => ∃ tb, e = .returned (.map (some tb)) ∧ w'.heap.size ≤ tb ∧ SMap w'' tb (tlV (cnt (wset W i k ⟨sa, sl⟩) k)) ∧ Below w'.heap.size w' w'' := fun w' hb => by
    have hx := HX.out.later hb
    have hii : i ∈ ids := mem_ids.2 ⟨i1, i2⟩
    have e1 : (⟨oa, (W i k).ns⟩ : Ns) = W i k := by rw [← hoa]
    have hle : ∀ s : Ns, s.all = true → 1 ≤ (nList s).length := fun s h => by unfold nList; rw [h]; simp
    have hln : (nList (W i k)).length ≤ 64 := Nat.le_trans (nodup_len (list_nodup (hwok.r i k)) fun x hx => by rw [mem_list_uni]; exact has_cnt hii hx) (hwfit.n k)
    have h := turned_any (sa := oa) (sl := (W i k).ns) (ta := sa) (tl := sl) (a1 := oA) (c1 := oc) (a2 := a1) (c2 := c1) (v := VT) (T := cnt W k) (w := w') (by rw [← hVT]; exact hx.mg.cv k) (by rw [hon]; exact hot.later hb) (by rw [hn1]; exact HS.out.later hb)
      (by rw [e1]; exact hwok.r i k) hsr (by rw [e1]; omega) (by omega) (fun x => by have := cnt_le W k x; omega) (fun x hx => by rw [e1] at hx; exact has_cnt hii hx) (fun x hx => by have := hwfit.l i k x hx; omega) (fun x hx => by have := hsx x hx; omega)
    rw [hon, hn1, e1] at h
    refine h.mono ?_
    rintro e w'' ⟨tb, h1, h2, h3, h4⟩
    refine ⟨tb, h1, h2, h3.ext fun x => ?_, h4⟩
    have : tlN (cnt W k) (nList ⟨sa, sl⟩) (nList (W i k)) x = cnt (wset W i k ⟨sa, sl⟩) k x := by
      have h5 := cnt_set (W := W) (i := i) (k := k) (s := ⟨sa, sl⟩) hii x
      simp only [List.contains_iff_mem] at h5
      unfold tlN
      omega
    unfold tlV
    rw [this]
  have HTC := Lib.hid htc
  clear hw1 hw2 hw3 hw4 hb1 hb2 hb3 hb4 hb12 hb13 hb14 q1 q2 q3 q4 hin hg hs hwok hwfit hsr hsl hsx hik i1 i2 k1 k2 hn1 hwv hot hVT hon hoa hs1 htc
  go_enter Tryz.func31, Tryz.ntmps31
  go_wp2_with fail
  rw [HW.out.1, HW.out.2.1, HW.out.2.2.1, HW.out.2.2.2, HSZ.out.1, HSZ.out.2.1, HSZ.out.2.2]
  have ST := HS1.out w4.drew (HX.out.later (Below.refl _ _).drew)
  go_region_held3 (fun w' => w'.cell? ⟨m, 0, none⟩ = some (.map (some mw)) ∧ w'.cell? ⟨m, 1, none⟩ = some (.map (some mc)) ∧ w'.cell? ⟨w.heap.size, 0, none⟩ = some (.int .i64 i) ∧ w'.cell? ⟨w.heap.size, 1, none⟩ = some (.int .i64 k) ∧ w'.cell? ⟨w1.heap.size, 0, none⟩ = some (.bool sa) ∧ w'.cell? ⟨w1.heap.size, 1, none⟩ = some (.slice a1 n1 c1) ∧ (Instr.lookup 63 (.map (some mc)) (.int .i64 k) false).run Tryz.prog w' = .ok VT w' ∧ (Instr.lookup 62 (.map (some mw)) (.agg #[.int .i64 i, .int .i64 k]) false).run Tryz.prog w' = .ok (.agg #[.bool oa, .slice oA on oc]) w' ∧ TnX base m mw mc C D W w.heap.size w1.heap.size w2.heap.size w3.heap.size i k sa (.slice a1 n1 c1) a f n w w') (with_reducible first | exact ST | go_keep) (fail)
  clear ST
  obtain ⟨w5, hw5, hb5⟩ := drew_new w4
  rw [hw5]
  have HX := Lib.hid (HX.out.later hb5)
  have ST := HS1.out w5.drew (HX.out.later (Below.refl _ _).drew)
  have HT5 := Lib.hid (HTC.out w5.drew (hb5.trans ((Below.refl _ _).drew.mono hb5.size)))
  have HB5 := Lib.hid hb5
  clear hw5 hb5 HTC
  go_wp2_with fail
  go_region_held3 (fun w' => w'.cell? ⟨m, 0, none⟩ = some (.map (some mw)) ∧ w'.cell? ⟨m, 1, none⟩ = some (.map (some mc)) ∧ w'.cell? ⟨w.heap.size, 0, none⟩ = some (.int .i64 i) ∧ w'.cell? ⟨w.heap.size, 1, none⟩ = some (.int .i64 k) ∧ w'.cell? ⟨w1.heap.size, 0, none⟩ = some (.bool sa) ∧ w'.cell? ⟨w1.heap.size, 1, none⟩ = some (.slice a1 n1 c1) ∧ (Instr.lookup 63 (.map (some mc)) (.int .i64 k) false).run Tryz.prog w' = .ok VT w' ∧ (Instr.lookup 62 (.map (some mw)) (.agg #[.int .i64 i, .int .i64 k]) false).run Tryz.prog w' = .ok (.agg #[.bool oa, .slice oA on oc]) w' ∧ TnX base m mw mc C D W w.heap.size w1.heap.size w2.heap.size w3.heap.size i k sa (.slice a1 n1 c1) a f n w w') (with_reducible first | exact ST | exact HS1.out _ ((HX.out.later (Below.refl _ _).drew).later (by assumption)) | go_keep) ((go_at_call 48; refine HT5.out.mono ?_; rintro e w6 ⟨tb, rfl, htb, hm6, hb6⟩))
  rename_i hH
  have HX := Lib.hid (show TnX base m mw mc C D W w.heap.size w1.heap.size w2.heap.size w3.heap.size i k sa (.slice a1 n1 c1) a f n w w6 from hH.2.2.2.2.2.2.2.2)
  obtain ⟨w50, hw50, hb50⟩ := drew_new w5
  rw [hw50] at hb6 htb
  have HB6 := Lib.hid ((HB5.out.trans (hb50.mono HB5.out.size)).trans (hb6.mono (Nat.le_trans HB5.out.size hb50.size)))
  have htb4 : w4.heap.size ≤ tb := Nat.le_trans (Nat.le_trans HB5.out.size hb50.size) htb
  obtain ⟨L, hL⟩ : ∃ L, nList (uni (wset W i k ⟨sa, sl⟩) k) = L := ⟨_, rfl⟩
  have hwo := wset_ok HH.out.1 HH.out.2.2.1 HIK.out.1
  obtain ⟨es, clock, hmb, hes⟩ := hm6.size skV_inj (L := L) (by rw [← hL]; exact list_nodup (nsr_uni hwo k)) (fun x => by
    rw [← hL, mem_list_uni]
    unfold tlV
    by_cases h : cnt (wset W i k ⟨sa, sl⟩) k x = 0
    · rw [if_pos h, h]; simp
    · rw [if_neg h]; simp; omega)
  obtain ⟨N, hN⟩ : ∃ N, L.length = N := ⟨_, rfl⟩
  have hlen : ∀ ty, (Builtin.len_ #[81] ty #[.map (some tb)]).run Tryz.prog w6 = .ok (.int .i64 (N : Int)) w6 := fun ty => by
    rw [run_len_map w6 81 ty tb es clock Tryz.underlying81 hmb, hes, hN]
    rfl
  have HLN := Lib.hid (And.intro hL hN)
  have HLB := Lib.hid (show w.heap.size ≤ w.heap.size ∧ w.heap.size < w2.heap.size ∧ w2.heap.size < w3.heap.size ∧ 2 < w.heap.size by
    have h1 := HSZ.out.1
    have h2 := HSZ.out.2.1
    have h3 := HLG.out
    omega)
  have HM6 := Lib.hid (And.intro hm6 (And.intro htb4 hwo))
  clear hH ST HT5 hb6 htb hw50 hb50 hmb hes hL hN hm6 htb4 hwo HB5
  by_cases hfull : 64 < N
  · have b1 : (64 : Int) < (N : Int) := by omega
    have hf4 : F4 w.heap.size w2.heap.size w3.heap.size i k f w w6 := ⟨HX.out.q1, HX.out.q3, HX.out.q4, HX.out.gm.cf, HX.out.be, HLB.out⟩
    have HF := Lib.hid hf4
    obtain ⟨x0, x1, x2, x3, x4, x5, y2, y3, y4, y5, _⟩ := hf4.s4
    have hne : ¬ w3.heap.size = w2.heap.size := by have := HLB.out.2.2.1; omega
    have hne' : ¬ w2.heap.size = w3.heap.size := fun e => hne e.symm
    obtain ⟨l1, l2, l3, l4⟩ := HLB.out
    have hn1 : ¬ 2 = w2.heap.size := by omega
    have hn2 : ¬ 2 = w3.heap.size := by omega
    have hn3 : ¬ w.heap.size = w2.heap.size := by omega
    have hn4 : ¬ w.heap.size = w3.heap.size := by omega
    clear l1 l2 l3 l4
    clear hfull hf4
    go_wp2_with fail
    go_region
    all_goals
      have hF := F4.set4 (F4.set3 HF.out)
      have hq3 := hF.q3.later (Below.refl _ _).drew
      have hq4 := hF.q4.later (Below.refl _ _).drew
      have hbe := hF.be.drew
      clear hF x0 x1 x2 x3 x4 x5 y2 y3 y4 y5 hne hne' hn1 hn2 hn3 hn4 hlen
      generalize ((((w6.setCell ⟨w2.heap.size, 0, none⟩ (.bool false)).setCell ⟨w2.heap.size, 1, none⟩ (.slice none 0 0)).setCell ⟨w3.heap.size, 0, none⟩ (.bool false)).setCell ⟨w3.heap.size, 1, none⟩ (.slice none 0 0)).drew = w9 at hq3 hq4 hbe ⊢
      have t0 : w9.cell? ⟨w2.heap.size, 0, none⟩ = some (.bool false) := hq3.cell 0
      have t1 : w9.cell? ⟨w2.heap.size, 1, none⟩ = some (.slice none 0 0) := hq3.cell 1
      have t2 : w9.cell? ⟨w3.heap.size, 0, none⟩ = some (.bool false) := hq4.cell 0
      have t3 : w9.cell? ⟨w3.heap.size, 1, none⟩ = some (.slice none 0 0) := hq4.cell 1
      have HE := Lib.hid hbe
      clear hq3 hq4 hbe
      go_wp2_with fail
      refine bodyPost_ret (v := .tuple #[.agg zSet, .agg zSet, fG i f]) (by simp [results, Tryz.results31, go_sem, t0, t1, t2, t3]) rfl ⟨fun _ => ⟨rfl, HE.out⟩, fun h => absurd (by rw [HLN.out.1, HLN.out.2]; omega) h⟩
  · have b1 : ¬ (64 : Int) < (N : Int) := by omega
    have HFU := Lib.hid hfull
    have hx0 := HX.out.later (Below.refl w6.heap.size w6).drew
    obtain ⟨st1, st2, x1, x2, y1, y2, y3, y4, r1, r2, r3, r4, kp1, kp2, kp3, kp4, hm4, hc4, hbl⟩ := hx0.mg.put hx0.ik.1 hx0.ik.2 (.agg #[.bool sa, .slice a1 n1 c1]) (.map (some tb))
    have ST0 : S5 m mw mc w.heap.size w1.heap.size i k sa (.slice a1 n1 c1) w6.drew := T5.s5 ⟨hx0.mg.blk, hx0.q1, hx0.q2⟩
    have ST1 := ST0.next kp1
    have ST2 := ST1.next kp2
    have ST3 := ST2.next kp3
    have ST4 := ST3.next kp4
    have HKP := Lib.hid (((KeptM.of (B := base) (Below.refl w6.heap.size w6).drew).trans kp1).trans ((kp2.trans kp3).trans kp4))
    have HKP1 := Lib.hid ((kp1.trans kp2).trans (kp3.trans kp4))
    have HM4 := Lib.hid (And.intro hm4 (And.intro hc4 hbl))
    have HX0 := Lib.hid hx0
    clear hm4 hc4 hbl hx0 kp1 kp2 kp3 kp4 hfull
    go_wp2_with fail
    go_region_held3 (fun w' => w'.cell? ⟨m, 0, none⟩ = some (.map (some mw)) ∧ w'.cell? ⟨m, 1, none⟩ = some (.map (some mc)) ∧ w'.cell? ⟨w.heap.size, 0, none⟩ = some (.int .i64 i) ∧ w'.cell? ⟨w.heap.size, 1, none⟩ = some (.int .i64 k) ∧ w'.cell? ⟨w1.heap.size, 0, none⟩ = some (.bool sa) ∧ w'.cell? ⟨w1.heap.size, 1, none⟩ = some (.slice a1 n1 c1) ∧ T5 m mw mc w.heap.size w1.heap.size i k sa (.slice a1 n1 c1) w') (with_reducible first | exact ST0 | exact ST1 | exact ST2 | exact ST3 | exact ST4 | go_keep) (fail)
    rename_i hH
    clear hH ST0 ST1 ST2 ST3 ST4 r1 r2 r3 r4 hlen
    have hmg := HX0.out.mg.put_is HKP1.out (sa := sa) (sl := sl) (a1 := a1) (c1 := c1) (by rw [HN.out]; exact HM4.out.1) HM4.out.2.1 (by rw [HN.out]; exact (HS.out.later HB6.out).later (Below.refl _ _).drew) (HM6.out.1.below (Below.refl w6.heap.size w6).drew HM6.out.1.lt)
      ⟨by have h1 := HX4.out.mg.wm.lt; have h2 := HM6.out.2.1; omega, by have h1 := HX4.out.mg.cm.lt; have h2 := HM6.out.2.1; omega⟩ HM4.out.2.2
    rw [HN.out] at hmg
    have hta : Tally y4 (.map (some tb)) (cnt (wset W i k ⟨sa, sl⟩) k) := by have := hmg.cv k; rw [kset_same] at this; exact this
    have htb : Tally y4 VT (cnt W k) := by have := HX0.out.mg.old (k := k) HM4.out.2.2; rw [HO.out.2.2.2.1] at this; exact this
    have HR := Lib.hid (show R6 base m mw mc _ _ (wset W i k ⟨sa, sl⟩) w2.heap.size w3.heap.size (.map (some tb)) VT (cnt (wset W i k ⟨sa, sl⟩) k) (cnt W k) w y4 from
      ⟨hmg, hta, htb, HKP1.out.blk HX0.out.q3, HKP1.out.blk HX0.out.q4, (KeptM.of (B := base) HX.out.be).trans HKP.out⟩)
    have hnm : ∀ i', ∀ x ∈ (wset W i k ⟨sa, sl⟩ i' k).ns, x.length ≤ 64 := fun i' x hx => by
      by_cases e : i' = i
      · subst e; rw [wset_same] at hx; exact HH.out.2.2.2.2 x hx
      · rw [wset_id e] at hx; exact HH.out.2.1.l i' k x hx
    obtain ⟨U1, hU1⟩ : ∃ U1, uni (wset W i k ⟨sa, sl⟩) k = U1 := ⟨_, rfl⟩
    obtain ⟨U0, hU0⟩ : ∃ U0, uni W k = U0 := ⟨_, rfl⟩
    have h1a : NsR U1 ∧ (∀ x, 0 < cnt (wset W i k ⟨sa, sl⟩) k x ↔ x ∈ nList U1) ∧ (nList U1).length ≤ 64 ∧ ∀ x ∈ nList U1, x.length ≤ 1000 := by
      rw [← hU1]
      exact ⟨nsr_uni HM6.out.2.2 k, fun x => (mem_list_uni _ k x).symm, by rw [HLN.out.1, HLN.out.2]; omega, uni_names hnm⟩
    have h0a : NsR U0 ∧ (∀ x, 0 < cnt W k x ↔ x ∈ nList U0) ∧ (nList U0).length ≤ 64 ∧ ∀ x ∈ nList U0, x.length ≤ 1000 := by
      rw [← hU0]
      exact ⟨nsr_uni HH.out.1 k, fun x => (mem_list_uni _ k x).symm, HH.out.2.1.n k, uni_names fun i' x hx => HH.out.2.1.l i' k x hx⟩
    have HU1 := Lib.hid h1a
    have HU0 := Lib.hid h0a
    have HUE := Lib.hid (And.intro hU1 hU0)
    have HF1 := Lib.hid (show NmFit U1.ns from list_fit (Nat.le_trans (list_ns U1) (by have := h1a.2.2.1; omega)) (fun x hx => h1a.2.2.2 x ((mem_list U1 x).2 (.inr hx))))
    have HF0 := Lib.hid (show NmFit U0.ns from list_fit (Nat.le_trans (list_ns U0) (by have := h0a.2.2.1; omega)) (fun x hx => h0a.2.2.2 x ((mem_list U0 x).2 (.inr hx))))
    clear hmg hta htb hnm h1a h0a hU1 hU0 b1
    go_wp2_with fail
    refine (tset_any HR.out.ta HU1.out.1 HU1.out.2.1 (by have := HU1.out.2.2.1; omega) HU1.out.2.2.2).mono ?_
    rintro e z1 ⟨A1, B1, rfl, t1, hb⟩
    have HR := Lib.hid (HR.out.later hb)
    have HT1 := Lib.hid t1
    clear t1 hb
    go_wp2_with fail
    refine (tset_any HR.out.tb HU0.out.1 HU0.out.2.1 (by have := HU0.out.2.2.1; omega) HU0.out.2.2.2).mono ?_
    rintro e z2 ⟨A2, B2, rfl, t2, hb⟩
    have HR := Lib.hid (HR.out.later hb)
    have HT1 := Lib.hid (HT1.out.later hb)
    have HT2 := Lib.hid t2
    clear t2 hb
    go_wp2_with fail
    obtain ⟨LS, hLS⟩ : ∃ LS, (nLess ⟨U1.all, U1.ns⟩ ⟨U0.all, U0.ns⟩) = LS := ⟨_, rfl⟩
    have HLS := Lib.hid hLS
    refine (less_any (sa := LS.all) (sl := LS.ns) HT1.out HT2.out HF1.out HF0.out hLS).mono ?_
    clear hLS
    rintro e z3 ⟨A3, B3, rfl, t3, hb⟩
    have HR := Lib.hid (HR.out.later hb)
    have HT3 := Lib.hid t3
    clear t3 hb HT1 HT2
    go_wp2_with fail
    refine (tset_any HR.out.tb HU0.out.1 HU0.out.2.1 (by have := HU0.out.2.2.1; omega) HU0.out.2.2.2).mono ?_
    rintro e z4 ⟨A4, B4, rfl, t4, hb⟩
    have HR := Lib.hid (HR.out.later hb)
    have HT3 := Lib.hid (HT3.out.later hb)
    have HT4 := Lib.hid t4
    clear t4 hb
    go_wp2_with fail
    refine (tset_any HR.out.ta HU1.out.1 HU1.out.2.1 (by have := HU1.out.2.2.1; omega) HU1.out.2.2.2).mono ?_
    rintro e z5 ⟨A5, B5, rfl, t5, hb⟩
    have HR := Lib.hid (HR.out.later hb)
    have HT3 := Lib.hid (HT3.out.later hb)
    have HT4 := Lib.hid (HT4.out.later hb)
    have HT5 := Lib.hid t5
    clear t5 hb
    go_wp2_with fail
    obtain ⟨LR, hLR⟩ : ∃ LR, (nLess ⟨U0.all, U0.ns⟩ ⟨U1.all, U1.ns⟩) = LR := ⟨_, rfl⟩
    have HLR := Lib.hid hLR
    refine (less_any (sa := LR.all) (sl := LR.ns) HT4.out HT5.out HF0.out HF1.out hLR).mono ?_
    clear hLR
    rintro e z6 ⟨A6, B6, rfl, t6, hb⟩
    have HR := Lib.hid (HR.out.later hb)
    have HT3 := Lib.hid (HT3.out.later hb)
    have HT6 := Lib.hid t6
    clear t6 hb HT4 HT5
    have x0 : z6.cell? ⟨w2.heap.size, 0, none⟩ = some (.bool false) := HR.out.q3.cell 0
    have x1 : z6.cell? ⟨w2.heap.size, 1, none⟩ = some (.slice none 0 0) := HR.out.q3.cell 1
    have x2 : z6.cell? ⟨w3.heap.size, 0, none⟩ = some (.bool false) := HR.out.q4.cell 0
    have x3 : z6.cell? ⟨w3.heap.size, 1, none⟩ = some (.slice none 0 0) := HR.out.q4.cell 1
    have f0 := HR.out.q3.frozen 0
    have f1 := HR.out.q3.frozen 1
    have f2 := HR.out.q4.frozen 0
    have f3 := HR.out.q4.frozen 1
    have hne : ¬ w3.heap.size = w2.heap.size := by have := HLB.out.2.2.1; omega
    have hne' : ¬ w2.heap.size = w3.heap.size := fun e => hne e.symm
    go_wp2_with fail
    have hlw : w.heap.size ≤ w2.heap.size := Nat.le_of_lt HLB.out.2.1
    have hlw3 : w.heap.size ≤ w3.heap.size := by have := HLB.out.2.2.1; omega
    obtain ⟨zA, hzA⟩ : ∃ zA, (z6.setCell ⟨w2.heap.size, 0, none⟩ (.bool LS.all)).setCell ⟨w2.heap.size, 1, none⟩ (.slice A3 LS.ns.length B3) = zA := ⟨_, rfl⟩
    have mgA := HR.out.mg.set2 HR.out.q3 (.bool LS.all) (.slice A3 LS.ns.length B3)
    have q4A := HR.out.q4.kept (grown_set2 z6 w2.heap.size (.bool LS.all) (.slice A3 LS.ns.length B3)) (fun e => hne (Option.some.inj e))
    have q3A := (HR.out.q3.set 0 (.bool LS.all)).set 1 (.slice A3 LS.ns.length B3)
    have kpA := HR.out.kp.set2 hlw (.bool LS.all) (.slice A3 LS.ns.length B3)
    have t3A := HT3.out.set2 (.bool LS.all) (.slice A3 LS.ns.length B3) x0 x1
    have t6A := HT6.out.set2 (.bool LS.all) (.slice A3 LS.ns.length B3) x0 x1
    rw [hzA] at mgA q4A q3A kpA t3A t6A ⊢
    have q3A' : Blk zA w2.heap.size #[.bool LS.all, .slice A3 LS.ns.length B3] 41 := q3A
    have y0 : zA.cell? ⟨w3.heap.size, 0, none⟩ = some (.bool false) := q4A.cell 0
    have y1 : zA.cell? ⟨w3.heap.size, 1, none⟩ = some (.slice none 0 0) := q4A.cell 1
    obtain ⟨zB, hzB⟩ : ∃ zB, (zA.setCell ⟨w3.heap.size, 0, none⟩ (.bool LR.all)).setCell ⟨w3.heap.size, 1, none⟩ (.slice A6 LR.ns.length B6) = zB := ⟨_, rfl⟩
    have mgB := mgA.set2 q4A (.bool LR.all) (.slice A6 LR.ns.length B6)
    have q3B := q3A'.kept (grown_set2 zA w3.heap.size (.bool LR.all) (.slice A6 LR.ns.length B6)) (fun e => hne' (Option.some.inj e))
    have q4B := (q4A.set 0 (.bool LR.all)).set 1 (.slice A6 LR.ns.length B6)
    have kpB := kpA.set2 hlw3 (.bool LR.all) (.slice A6 LR.ns.length B6)
    have t3B := t3A.set2 (.bool LR.all) (.slice A6 LR.ns.length B6) y0 y1
    have t6B := t6A.set2 (.bool LR.all) (.slice A6 LR.ns.length B6) y0 y1
    rw [hzB] at mgB q3B q4B kpB t3B t6B ⊢
    have g0 : zB.cell? ⟨w2.heap.size, 0, none⟩ = some (.bool LS.all) := q3B.cell 0
    have g1 : zB.cell? ⟨w2.heap.size, 1, none⟩ = some (.slice A3 LS.ns.length B3) := q3B.cell 1
    have g2 : zB.cell? ⟨w3.heap.size, 0, none⟩ = some (.bool LR.all) := q4B.cell 0
    have g3 : zB.cell? ⟨w3.heap.size, 1, none⟩ = some (.slice A6 LR.ns.length B6) := q4B.cell 1
    refine bodyPost_ret (v := .tuple #[.agg #[.bool LS.all, .slice A3 LS.ns.length B3], .agg #[.bool LR.all, .slice A6 LR.ns.length B6], .nilIface]) (by simp [results, Tryz.results31, go_sem, g0, g1, g2, g3]) rfl ⟨fun h => absurd h (by rw [HLN.out.1, HLN.out.2]; exact HFU.out), fun _ => ⟨_, _, rfl, ?_, ?_, ⟨HM6.out.2.2, wfit_set HH.out.2.1 (by rw [HLN.out.1, HLN.out.2]; have := HFU.out; omega) HH.out.2.2.2.2, mw, mc, _, _, mgB⟩, kpB⟩⟩
    · rw [HUE.out.1, HUE.out.2, show nLess U1 U0 = LS from HLS.out]
      exact ⟨_, rfl, t3B⟩
    · rw [HUE.out.1, HUE.out.2, show nLess U0 U1 = LR from HLR.out]
      exact ⟨_, rfl, t6B⟩
end Go.Proofs.YtkjfafnnnkjoeaaGreatDoor
