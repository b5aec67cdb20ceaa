/- merge: Set. -/
import Derived.Test.YtkjfafnnnkjoeaaGreatDoorMgTW
namespace Go.Proofs.YtkjfafnnnkjoeaaGreatDoor
open Go.RowKit Go.Lib

/-- What Set answers. -/
noncomputable def setE (W : Wants) (i k : Int) (s : Ns) : Nat := if badI i k then 1 else if 64 < (nList s).length then 4 else if 64 < (nList (uni (wset W i k s) k)).length then 4 else 0
noncomputable def setW (W : Wants) (i k : Int) (s : Ns) : Wants := if setE W i k s = 0 then wset W i k s else W
noncomputable def setM (W : Wants) (i k : Int) (s : Ns) : Ns := if setE W i k s = 0 then nLess (uni (wset W i k s) k) (uni W k) else Ns.zero
noncomputable def setL (W : Wants) (i k : Int) (s : Ns) : Ns := if setE W i k s = 0 then nLess (uni W k) (uni (wset W i k s) k) else Ns.zero
/-- What comes of Set. -/
def SetIs (base m : Nat) (W : Wants) (i k : Int) (s : Ns) (w : World) (e : Ending) (w' : World) : Prop :=
  ∃ v1 v2, e = .returned (.tuple #[v1, v2, .int .i64 (setE W i k s : Int)]) ∧ SetAt w' v1 (setM W i k s) ∧ SetAt w' v2 (setL W i k s) ∧ MgIs base m (setW W i k s) w' ∧ KeptM base w w'
/-- The errors, as an error of that id. -/
theorem setE_cases (W : Wants) (i k : Int) (s : Ns) : setE W i k s = 0 ∨ setE W i k s = 1 ∨ setE W i k s = 4 := by
  unfold setE
  split
  · exact .inr (.inl rfl)
  · split
    · exact .inr (.inr rfl)
    · split
      · exact .inr (.inr rfl)
      · exact .inl rfl
/-- Region 4: two boxes of sets, the error told. -/
abbrev SB (b1 b2 : Nat) (x1 x2 : Bool) (v1 v2 : Value) (w : World) : Prop :=
  w.cell? ⟨b1, 0, none⟩ = some (.bool x1) ∧ w.cell? ⟨b1, 1, none⟩ = some v1 ∧ w.cell? ⟨b2, 0, none⟩ = some (.bool x2) ∧ w.cell? ⟨b2, 1, none⟩ = some v2 ∧ Blk w b1 #[.bool x1, v1] 41 ∧ Blk w b2 #[.bool x2, v2] 41
theorem SB.mk' {b1 b2 : Nat} {x1 x2 : Bool} {v1 v2 : Value} {w : World} (h1 : Blk w b1 #[.bool x1, v1] 41) (h2 : Blk w b2 #[.bool x2, v2] 41) : SB b1 b2 x1 x2 v1 v2 w := ⟨h1.cell 0, h1.cell 1, h2.cell 0, h2.cell 1, h1, h2⟩
theorem SB.later {b1 b2 : Nat} {x1 x2 : Bool} {v1 v2 : Value} {w w' : World} (h : SB b1 b2 x1 x2 v1 v2 w) (hb : Below w.heap.size w w') : SB b1 b2 x1 x2 v1 v2 w' := SB.mk' (h.2.2.2.2.1.later hb) (h.2.2.2.2.2.later hb)
theorem SB.set1 {b1 b2 : Nat} {x1 x2 : Bool} {v1 v2 : Value} {w : World} (h : SB b1 b2 x1 x2 v1 v2 w) (hne : ¬ b1 = b2) : SB b1 b2 x1 x2 v1 v2 ((w.setCell ⟨b1, 0, none⟩ (.bool x1)).setCell ⟨b1, 1, none⟩ v1) :=
  SB.mk' ((h.2.2.2.2.1.set 0 (.bool x1)).set 1 v1) (h.2.2.2.2.2.kept (grown_set2 w b1 _ _) (fun e => hne (Option.some.inj e).symm))
theorem SB.set2 {b1 b2 : Nat} {x1 x2 : Bool} {v1 v2 : Value} {w : World} (h : SB b1 b2 x1 x2 v1 v2 w) (hne : ¬ b1 = b2) : SB b1 b2 x1 x2 v1 v2 ((w.setCell ⟨b2, 0, none⟩ (.bool x2)).setCell ⟨b2, 1, none⟩ v2) :=
  SB.mk' (h.2.2.2.2.1.kept (grown_set2 w b2 _ _) (fun e => hne (Option.some.inj e))) ((h.2.2.2.2.2.set 0 (.bool x2)).set 1 v2)
theorem MgIs.set2 {base m R : Nat} {W : Wants} {w : World} {b0 : Bool} {a0 : Option Addr} {n0 c0 : Nat} (h : MgIs base m W w) (hR : Blk w R #[.bool b0, .slice a0 n0 c0] 41) (u0 u1 : Value) : MgIs base m W ((w.setCell ⟨R, 0, none⟩ u0).setCell ⟨R, 1, none⟩ u1) := by
  obtain ⟨h1, h2, mw, mc, C, D, h3⟩ := h
  exact ⟨h1, h2, mw, mc, C, D, h3.set2 hR u0 u1⟩
/-- Both boxes are stored into. -/
theorem set_mid {base m : Nat} {W2 : Wants} {s1 s2 : Ns} {b1 b2 : Nat} {y1 y2 : Bool} {B1 B2 : Option Addr} {m1 m2 d1 d2 : Nat} {A1 A2 : Option Addr} {c1 c2 : Nat} {w0 w : World} (h : SB b1 b2 y1 y2 (.slice B1 m1 d1) (.slice B2 m2 d2) w) (hne : ¬ b1 = b2) (h1 : w0.heap.size ≤ b1) (h2 : w0.heap.size ≤ b2)
    (hm : MgIs base m W2 w) (hk : KeptM base w0 w) (t1 : TsAt w (.slice A1 s1.ns.length c1) s1.ns) (t2 : TsAt w (.slice A2 s2.ns.length c2) s2.ns) :
    ∃ w9, (((w.setCell ⟨b1, 0, none⟩ (.bool s1.all)).setCell ⟨b1, 1, none⟩ (.slice A1 s1.ns.length c1)).setCell ⟨b2, 0, none⟩ (.bool s2.all)).setCell ⟨b2, 1, none⟩ (.slice A2 s2.ns.length c2) = w9 ∧ SB b1 b2 s1.all s2.all (.slice A1 s1.ns.length c1) (.slice A2 s2.ns.length c2) w9 ∧
      MgIs base m W2 w9 ∧ KeptM base w0 w9 ∧ TsAt w9 (.slice A1 s1.ns.length c1) s1.ns ∧ TsAt w9 (.slice A2 s2.ns.length c2) s2.ns := by
  have hA : SB b1 b2 s1.all y2 (.slice A1 s1.ns.length c1) (.slice B2 m2 d2) ((w.setCell ⟨b1, 0, none⟩ (.bool s1.all)).setCell ⟨b1, 1, none⟩ (.slice A1 s1.ns.length c1)) :=
    SB.mk' ((h.2.2.2.2.1.set 0 (.bool s1.all)).set 1 (.slice A1 s1.ns.length c1)) (h.2.2.2.2.2.kept (grown_set2 w b1 _ _) (fun e => hne (Option.some.inj e).symm))
  have mA := hm.set2 h.2.2.2.2.1 (.bool s1.all) (.slice A1 s1.ns.length c1)
  have kA := hk.set2 h1 (.bool s1.all) (.slice A1 s1.ns.length c1)
  have t1A := t1.set2 (.bool s1.all) (.slice A1 s1.ns.length c1) h.1 h.2.1
  have t2A := t2.set2 (.bool s1.all) (.slice A1 s1.ns.length c1) h.1 h.2.1
  refine ⟨_, rfl, SB.mk' (hA.2.2.2.2.1.kept (grown_set2 _ b2 _ _) (fun e => hne (Option.some.inj e))) ((hA.2.2.2.2.2.set 0 (.bool s2.all)).set 1 (.slice A2 s2.ns.length c2)), mA.set2 hA.2.2.2.2.2 (.bool s2.all) (.slice A2 s2.ns.length c2), kA.set2 h2 (.bool s2.all) (.slice A2 s2.ns.length c2), ?_, ?_⟩
  · exact t1A.set2 (.bool s2.all) (.slice A2 s2.ns.length c2) hA.2.2.1 hA.2.2.2.1
  · exact t2A.set2 (.bool s2.all) (.slice A2 s2.ns.length c2) hA.2.2.1 hA.2.2.2.1
/-- The end of Set: both boxes are stored into once more. -/
theorem set_end {base m : Nat} {W W2 : Wants} {i k : Int} {s s1 s2 : Ns} {E : Nat} {b1 b2 : Nat} {A1 A2 : Option Addr} {c1 c2 : Nat} {w0 w : World} (h : SB b1 b2 s1.all s2.all (.slice A1 s1.ns.length c1) (.slice A2 s2.ns.length c2) w) (hne : ¬ b1 = b2) (h1 : w0.heap.size ≤ b1) (h2 : w0.heap.size ≤ b2)
    (hm : MgIs base m W2 w) (hk : KeptM base w0 w) (t1 : TsAt w (.slice A1 s1.ns.length c1) s1.ns) (t2 : TsAt w (.slice A2 s2.ns.length c2) s2.ns) (e1 : setE W i k s = E) (e2 : setW W i k s = W2) (e3 : setM W i k s = s1) (e4 : setL W i k s = s2) :
    ∃ w9, (((w.setCell ⟨b1, 0, none⟩ (.bool s1.all)).setCell ⟨b1, 1, none⟩ (.slice A1 s1.ns.length c1)).setCell ⟨b2, 0, none⟩ (.bool s2.all)).setCell ⟨b2, 1, none⟩ (.slice A2 s2.ns.length c2) = w9 ∧ SB b1 b2 s1.all s2.all (.slice A1 s1.ns.length c1) (.slice A2 s2.ns.length c2) w9 ∧
      SetIs base m W i k s w0 (.returned (.tuple #[.agg #[.bool s1.all, .slice A1 s1.ns.length c1], .agg #[.bool s2.all, .slice A2 s2.ns.length c2], .int .i64 (E : Int)])) w9 := by
  obtain ⟨w9, e9, hsb, hm9, hk9, t19, t29⟩ := set_mid h hne h1 h2 hm hk t1 t2
  refine ⟨w9, e9, hsb, _, _, by rw [e1], ?_, ?_, by rw [e2]; exact hm9, hk9⟩
  · rw [e3]; exact ⟨_, rfl, t19⟩
  · rw [e4]; exact ⟨_, rfl, t29⟩
theorem SetAt.shape {w : World} {v : Value} {s : Ns} (h : SetAt w v s) : ∃ a c, v = .agg #[.bool s.all, .slice a s.ns.length c] ∧ TsAt w (.slice a s.ns.length c) s.ns := h.out
set_option maxRecDepth 100000 in
set_option maxHeartbeats 8000000 in
theorem set_any {base m : Nat} {W : Wants} {i k : Int} {sa : Bool} {sl : List (List UInt8)} {a1 : Option Addr} {c1 : Nat} {a f n : Addr} {w : World} (hm : MgIs base m W w) (hg : Gm a f n w) (hs : TsAt w (.slice a1 sl.length c1) sl) (hsr : NsR ⟨sa, sl⟩) (hsl : (nList ⟨sa, sl⟩).length ≤ 1000) (hsx : ∀ x ∈ sl, x.length ≤ 64) :
    Calls Tryz.prog 8 #[.pointer (some ⟨m, 0, none⟩), .int .i64 i, .int .i64 k, .agg #[.bool sa, .slice a1 sl.length c1]] w (SetIs base m W i k ⟨sa, sl⟩ w) := by
  obtain ⟨n1, hn1⟩ : ∃ n, sl.length = n := ⟨_, rfl⟩
  rw [hn1] at hs ⊢
  obtain ⟨w1, hw1, hb1, q1⟩ := alloc_new w #[.bool sa, .slice a1 n1 c1] 41
  obtain ⟨w2, hw2, hb2, q2⟩ := alloc_new w1 zSet 41
  obtain ⟨w3, hw3, hb3, q3⟩ := alloc_new w2 zSet 41
  have hb12 := hb1.trans (hb2.mono hb1.size)
  have hb13 := hb12.trans (hb3.mono hb12.size)
  have HSZ := Lib.hid (show w.heap.size + 1 + 1 = w2.heap.size ∧ w.heap.size + 1 = w1.heap.size by rw [← hw2, ← hw1]; simp)
  have HW := Lib.hid (And.intro hw1 (And.intro hw2 hw3))
  have HN := Lib.hid hn1
  have HH := Lib.hid (And.intro hsr (And.intro hsl hsx))
  have HQ := Lib.hid (And.intro ((q1.later hb2).later hb3) (And.intro (q2.later hb3) q3))
  have HM := Lib.hid (hm.later hb1 |>.later hb2 |>.later hb3)
  have HG := Lib.hid (((hg.later hb1).later hb2).later hb3)
  have HS := Lib.hid (((hs.later hb1).later hb2).later hb3)
  have HK := Lib.hid (KeptM.of (B := base) hb13)
  have HG0 := Lib.hid hg
  have HCS := Lib.hid (chkSet_any a f n i k (sa := sa) (sl := sl) (a1 := a1) (c1 := c1) HG.out (by rw [hn1]; exact HS.out) hsl)
  rw [hn1] at HCS
  have y0 : w3.cell? ⟨w.heap.size, 0, none⟩ = some (.bool sa) := HQ.out.1.cell 0
  have y1 : w3.cell? ⟨w.heap.size, 1, none⟩ = some (.slice a1 n1 c1) := HQ.out.1.cell 1
  have HLT := Lib.hid (show w.heap.size < w1.heap.size ∧ w1.heap.size < w2.heap.size ∧ w.heap.size ≤ w2.heap.size by have h1 := q1.lt; have h2 := q2.lt; exact ⟨h1, h2, by omega⟩)
  clear hw1 hw2 hw3 hb1 hb2 hb3 hb12 hb13 q1 q2 q3 hn1 hsr hsl hsx hm hg hs
  go_enter Tryz.func8, Tryz.ntmps8
  go_wp2_with fail
  rw [HW.out.1, HW.out.2.1, HW.out.2.2, HSZ.out.1, HSZ.out.2]
  refine HCS.out.mono ?_
  rintro e w4 ⟨rfl, hb4⟩
  have HQ := Lib.hid (And.intro (HQ.out.1.later hb4) (And.intro (HQ.out.2.1.later hb4) (HQ.out.2.2.later hb4)))
  have HM := Lib.hid (HM.out.later hb4)
  have HG := Lib.hid (HG.out.later hb4)
  have HS := Lib.hid (HS.out.later hb4)
  have HK := Lib.hid (HK.out.trans (.of hb4))
  clear hb4 y0 y1 HCS
  have HB := Lib.hid (show SB w1.heap.size w2.heap.size false false (.slice none 0 0) (.slice none 0 0) w4 from SB.mk' HQ.out.2.1 HQ.out.2.2)
  have HT1 := Lib.hid (show TsAt w4 (.slice none 0 0) [] from RowV.nil _ _ _ (Nat.zero_le _))
  have HT2 := HT1
  by_cases hbad : badI i k = true
  · have hc : chkS i k ⟨sa, sl⟩ = 1 := by unfold chkS; rw [if_pos hbad]
    rw [hc, show ernV a f n i 1 = fG i a from rfl]
    have he1 : setE W i k ⟨sa, sl⟩ = 1 := by unfold setE; rw [if_pos hbad]
    have HE1 := Lib.hid (show setE W i k ⟨sa, sl⟩ = 1 ∧ setW W i k ⟨sa, sl⟩ = W ∧ setM W i k ⟨sa, sl⟩ = Ns.zero ∧ setL W i k ⟨sa, sl⟩ = Ns.zero from ⟨he1, by unfold setW; rw [he1]; rfl, by unfold setM; rw [he1]; rfl, by unfold setL; rw [he1]; rfl⟩)
    clear he1
    clear hc hbad
    go_wp2_with fail
    rw [show fG i a = ernV a f n i 1 from rfl]
    have ST : SB w1.heap.size w2.heap.size false false (.slice none 0 0) (.slice none 0 0) w4.drew := HB.out.later (Below.refl _ _).drew
    have HER := Lib.hid (errno_any a f n i 1 (by decide) w4.drew (HG.out.later (Below.refl _ _).drew))
    have hne : ¬ w1.heap.size = w2.heap.size := by have := HLT.out.2.1; omega
    have hne' : ¬ w2.heap.size = w1.heap.size := fun e => hne e.symm
    go_region_held3 (fun w' => w'.cell? ⟨w1.heap.size, 0, none⟩ = some (.bool false) ∧ w'.cell? ⟨w1.heap.size, 1, none⟩ = some (.slice none 0 0) ∧ w'.cell? ⟨w2.heap.size, 0, none⟩ = some (.bool false) ∧ w'.cell? ⟨w2.heap.size, 1, none⟩ = some (.slice none 0 0) ∧ Blk w' w1.heap.size #[.bool false, .slice none 0 0] 41 ∧ Blk w' w2.heap.size #[.bool false, .slice none 0 0] 41) (with_reducible first | exact ST | exact SB.later ST (by assumption) | exact SB.set1 (SB.later ST (by assumption)) hne | exact SB.set2 (SB.set1 (SB.later ST (by assumption)) hne) hne | go_keep) ((go_at_call 28; refine HER.out.mono ?_; rintro e w8 ⟨rfl, hb8⟩; have hs8 := ST.later hb8; have x0 := hs8.1; have x1 := hs8.2.1; have x2 := hs8.2.2.1; have x3 := hs8.2.2.2.1; have f0 := hs8.2.2.2.2.1.frozen 0; have f1 := hs8.2.2.2.2.1.frozen 1; have f2 := hs8.2.2.2.2.2.frozen 0; have f3 := hs8.2.2.2.2.2.frozen 1))
    rename_i hH
    clear hH hs8 x0 x1 x2 x3 f0 f1 f2 f3
    have hbw : Below w4.heap.size w4 w8 := ((Below.refl w4.heap.size w4).drew).trans hb8
    obtain ⟨w9, hw9, hsb, hset⟩ := set_end (base := base) (m := m) (W := W) (W2 := W) (i := i) (k := k) (s := ⟨sa, sl⟩) (s1 := Ns.zero) (s2 := Ns.zero) (E := 1) (A1 := none) (c1 := 0) (A2 := none) (c2 := 0) (w0 := w) (HB.out.later hbw) hne (by have := HLT.out; omega) (by have := HLT.out; omega) (HM.out.later hbw) (HK.out.trans (.of hbw)) (HT1.out.later hbw) (HT2.out.later hbw) HE1.out.1 HE1.out.2.1 HE1.out.2.2.1 HE1.out.2.2.2
    have hw9 : (((w8.setCell ⟨w1.heap.size, 0, none⟩ (.bool false)).setCell ⟨w1.heap.size, 1, none⟩ (.slice none 0 0)).setCell ⟨w2.heap.size, 0, none⟩ (.bool false)).setCell ⟨w2.heap.size, 1, none⟩ (.slice none 0 0) = w9 := hw9
    have hsb : SB w1.heap.size w2.heap.size false false (.slice none 0 0) (.slice none 0 0) w9 := hsb
    have g0 := hsb.1
    have g1 := hsb.2.1
    have g2 := hsb.2.2.1
    have g3 := hsb.2.2.2.1
    have HSET := Lib.hid hset
    clear hsb hset hbw hb8 ST hne hne'
    go_wp2_with fail
    refine bodyPost_ret (v := .tuple #[.agg zSet, .agg zSet, .int .i64 1]) (by simp [results, Tryz.results8, go_sem, g0, g1, g2, g3]) rfl HSET.out
  · have HBD := Lib.hid hbad
    by_cases h64 : 64 < (nList ⟨sa, sl⟩).length
    · have hc : chkS i k ⟨sa, sl⟩ = 4 := by unfold chkS; rw [if_neg hbad, if_pos h64]
      rw [hc, show ernV a f n i 4 = fG i f from rfl]
      have he1 : setE W i k ⟨sa, sl⟩ = 4 := by unfold setE; rw [if_neg hbad, if_pos h64]
      have HE1 := Lib.hid (show setE W i k ⟨sa, sl⟩ = 4 ∧ setW W i k ⟨sa, sl⟩ = W ∧ setM W i k ⟨sa, sl⟩ = Ns.zero ∧ setL W i k ⟨sa, sl⟩ = Ns.zero from ⟨he1, by unfold setW; rw [he1]; rfl, by unfold setM; rw [he1]; rfl, by unfold setL; rw [he1]; rfl⟩)
      clear he1
      clear hc hbad h64
      go_wp2_with fail
      rw [show fG i f = ernV a f n i 4 from rfl]
      have ST : SB w1.heap.size w2.heap.size false false (.slice none 0 0) (.slice none 0 0) w4.drew := HB.out.later (Below.refl _ _).drew
      have HER := Lib.hid (errno_any a f n i 4 (by decide) w4.drew (HG.out.later (Below.refl _ _).drew))
      have hne : ¬ w1.heap.size = w2.heap.size := by have := HLT.out.2.1; omega
      have hne' : ¬ w2.heap.size = w1.heap.size := fun e => hne e.symm
      go_region_held3 (fun w' => w'.cell? ⟨w1.heap.size, 0, none⟩ = some (.bool false) ∧ w'.cell? ⟨w1.heap.size, 1, none⟩ = some (.slice none 0 0) ∧ w'.cell? ⟨w2.heap.size, 0, none⟩ = some (.bool false) ∧ w'.cell? ⟨w2.heap.size, 1, none⟩ = some (.slice none 0 0) ∧ Blk w' w1.heap.size #[.bool false, .slice none 0 0] 41 ∧ Blk w' w2.heap.size #[.bool false, .slice none 0 0] 41) (with_reducible first | exact ST | exact SB.later ST (by assumption) | exact SB.set1 (SB.later ST (by assumption)) hne | exact SB.set2 (SB.set1 (SB.later ST (by assumption)) hne) hne | go_keep) ((go_at_call 28; refine HER.out.mono ?_; rintro e w8 ⟨rfl, hb8⟩; have hs8 := ST.later hb8; have x0 := hs8.1; have x1 := hs8.2.1; have x2 := hs8.2.2.1; have x3 := hs8.2.2.2.1; have f0 := hs8.2.2.2.2.1.frozen 0; have f1 := hs8.2.2.2.2.1.frozen 1; have f2 := hs8.2.2.2.2.2.frozen 0; have f3 := hs8.2.2.2.2.2.frozen 1))
      rename_i hH
      clear hH hs8 x0 x1 x2 x3 f0 f1 f2 f3
      have hbw : Below w4.heap.size w4 w8 := ((Below.refl w4.heap.size w4).drew).trans hb8
      obtain ⟨w9, hw9, hsb, hset⟩ := set_end (base := base) (m := m) (W := W) (W2 := W) (i := i) (k := k) (s := ⟨sa, sl⟩) (s1 := Ns.zero) (s2 := Ns.zero) (E := 4) (A1 := none) (c1 := 0) (A2 := none) (c2 := 0) (w0 := w) (HB.out.later hbw) hne (by have := HLT.out; omega) (by have := HLT.out; omega) (HM.out.later hbw) (HK.out.trans (.of hbw)) (HT1.out.later hbw) (HT2.out.later hbw) HE1.out.1 HE1.out.2.1 HE1.out.2.2.1 HE1.out.2.2.2
      have hw9 : (((w8.setCell ⟨w1.heap.size, 0, none⟩ (.bool false)).setCell ⟨w1.heap.size, 1, none⟩ (.slice none 0 0)).setCell ⟨w2.heap.size, 0, none⟩ (.bool false)).setCell ⟨w2.heap.size, 1, none⟩ (.slice none 0 0) = w9 := hw9
      have hsb : SB w1.heap.size w2.heap.size false false (.slice none 0 0) (.slice none 0 0) w9 := hsb
      have g0 := hsb.1
      have g1 := hsb.2.1
      have g2 := hsb.2.2.1
      have g3 := hsb.2.2.2.1
      have HSET := Lib.hid hset
      clear hsb hset hbw hb8 ST hne hne'
      go_wp2_with fail
      refine bodyPost_ret (v := .tuple #[.agg zSet, .agg zSet, .int .i64 4]) (by simp [results, Tryz.results8, go_sem, g0, g1, g2, g3]) rfl HSET.out
    · have hc : chkS i k ⟨sa, sl⟩ = 0 := by unfold chkS; rw [if_neg hbad, if_neg h64]
      rw [hc, show ernV a f n i 0 = .nilIface from rfl]
      have y0 : w4.cell? ⟨w.heap.size, 0, none⟩ = some (.bool sa) := HQ.out.1.cell 0
      have y1 : w4.cell? ⟨w.heap.size, 1, none⟩ = some (.slice a1 n1 c1) := HQ.out.1.cell 1
      have HSL := Lib.hid (show (nList ⟨sa, sl⟩).length ≤ 64 by omega)
      have HLI := Lib.hid (list_any (sa := sa) (sl := sl) (a := a1) (c := c1) (L := nList ⟨sa, sl⟩) (w := w4) (by rw [HN.out]; exact HS.out) rfl (by have := HSL.out; omega))
      rw [HN.out] at HLI
      obtain ⟨P, hP⟩ : ∃ P, nList ⟨sa, sl⟩ = P := ⟨_, rfl⟩
      rw [hP] at HLI
      have HPP := Lib.hid hP
      clear hc hP h64 hbad
      go_wp2_with fail
      refine HLI.out.mono ?_
      rintro e w5 ⟨A5, B5, rfl, hrow, hb5⟩
      have HOF := Lib.hid (of_any (w := w5) (sa := sa) (sl := sl) (RowV.own hrow) (list_fit (by rw [← HPP.out]; have := HSL.out; omega) (fun x hx => by
        rw [← HPP.out] at hx
        rcases (mem_list _ x).1 hx with ⟨_, e⟩ | h
        · rw [e]; decide
        · have := HH.out.2.2 x h; omega)) (by rw [← HPP.out]; exact of_list HH.out.1))
      have HQ := Lib.hid (And.intro (HQ.out.2.1.later hb5) (HQ.out.2.2.later hb5))
      have HM := Lib.hid (HM.out.later hb5)
      have HG := Lib.hid (HG.out.later hb5)
      have HK := Lib.hid (HK.out.trans (.of hb5))
      clear hb5 y0 y1 HLI hrow HT1 HT2 HB HS
      go_wp2_with fail
      refine HOF.out.mono ?_
      rintro e w6 ⟨A6, B6, rfl, ht6, hb6⟩
      have HOW := Lib.hid (own_any (sa := sa) ht6 (list_fit (Nat.le_trans (list_ns ⟨sa, sl⟩) (by have := HSL.out; omega)) (fun x hx => by have := HH.out.2.2 x hx; omega)) (fun x hx => by have := HH.out.2.2 x hx; omega))
      have HQ := Lib.hid (And.intro (HQ.out.1.later hb6) (HQ.out.2.later hb6))
      have HM := Lib.hid (HM.out.later hb6)
      have HG := Lib.hid (HG.out.later hb6)
      have HK := Lib.hid (HK.out.trans (.of hb6))
      rw [HN.out] at HOW ⊢
      clear hb6 HOF ht6
      go_wp2_with fail
      refine HOW.out.mono ?_
      rintro e w7 ⟨A7, B7, rfl, ht7, hb7⟩
      have HQ := Lib.hid (And.intro (HQ.out.1.later hb7) (HQ.out.2.later hb7))
      have HM := Lib.hid (HM.out.later hb7)
      have HG := Lib.hid (HG.out.later hb7)
      have HK := Lib.hid (HK.out.trans (.of hb7))
      have HTN := Lib.hid (turn_any (sa := sa) (sl := sl) (i := i) (k := k) HM.out HG.out ht7 HH.out.1 HSL.out HH.out.2.2 (by simpa using HBD.out))
      rw [HN.out] at HTN ⊢
      clear hb7 HOW ht7
      by_cases hfull : 64 < (nList (uni (wset W i k ⟨sa, sl⟩) k)).length
      · have HTN := Lib.hid (HTN.out.mono (fun e w' h => h.1 hfull))
        have he1 : setE W i k ⟨sa, sl⟩ = 4 := by unfold setE; rw [if_neg HBD.out, if_neg (by have := HSL.out; omega), if_pos hfull]
        have HE1 := Lib.hid (show setE W i k ⟨sa, sl⟩ = 4 ∧ setW W i k ⟨sa, sl⟩ = W ∧ setM W i k ⟨sa, sl⟩ = Ns.zero ∧ setL W i k ⟨sa, sl⟩ = Ns.zero from ⟨he1, by unfold setW; rw [he1]; rfl, by unfold setM; rw [he1]; rfl, by unfold setL; rw [he1]; rfl⟩)
        clear he1
        clear hfull
        go_wp2_with fail
        refine HTN.out.mono ?_
        rintro e w8 ⟨rfl, hb8⟩
        have HQ := Lib.hid (And.intro (HQ.out.1.later hb8) (HQ.out.2.later hb8))
        have HM := Lib.hid (HM.out.later hb8)
        have HG := Lib.hid (HG.out.later hb8)
        have HK := Lib.hid (HK.out.trans (.of hb8))
        clear hb8 HTN
        have hB8 : SB w1.heap.size w2.heap.size false false (.slice none 0 0) (.slice none 0 0) w8 := SB.mk' HQ.out.1 HQ.out.2
        have hne : ¬ w1.heap.size = w2.heap.size := by have := HLT.out.2.1; omega
        have hne' : ¬ w2.heap.size = w1.heap.size := fun e => hne e.symm
        obtain ⟨wz, hwz, hsb, hmz, hkz, htz, _⟩ := set_mid (base := base) (m := m) (W2 := W) (s1 := Ns.zero) (s2 := Ns.zero) (A1 := none) (c1 := 0) (A2 := none) (c2 := 0) (w0 := w) hB8 hne (by have := HLT.out; omega) (by have := HLT.out; omega) HM.out HK.out (RowV.nil _ _ _ (Nat.zero_le _)) (RowV.nil _ _ _ (Nat.zero_le _))
        have hwz : (((w8.setCell ⟨w1.heap.size, 0, none⟩ (.bool false)).setCell ⟨w1.heap.size, 1, none⟩ (.slice none 0 0)).setCell ⟨w2.heap.size, 0, none⟩ (.bool false)).setCell ⟨w2.heap.size, 1, none⟩ (.slice none 0 0) = wz := hwz
        have x0 := hB8.1
        have x1 := hB8.2.1
        have x2 := hB8.2.2.1
        have x3 := hB8.2.2.2.1
        have f0 := hB8.2.2.2.2.1.frozen 0
        have f1 := hB8.2.2.2.2.1.frozen 1
        have f2 := hB8.2.2.2.2.2.frozen 0
        have f3 := hB8.2.2.2.2.2.frozen 1
        have hgz := hkz.gm HG0.out
        have HG := Lib.hid hgz
        have HB := Lib.hid hsb
        have HM := Lib.hid hmz
        have HK := Lib.hid hkz
        have HT1 := Lib.hid htz
        have HT2 := HT1
        have HWZ := Lib.hid hwz
        clear hsb hmz hkz htz hgz hwz hB8
        go_wp2_with fail
        rw [show fG i f = ernV a f n i 4 from rfl, HWZ.out]
        clear x0 x1 x2 x3 f0 f1 f2 f3 hne hne'
        have ST : SB w1.heap.size w2.heap.size false false (.slice none 0 0) (.slice none 0 0) wz.drew := HB.out.later (Below.refl _ _).drew
        have HER := Lib.hid (errno_any a f n i 4 (by decide) wz.drew (HG.out.later (Below.refl _ _).drew))
        have hne : ¬ w1.heap.size = w2.heap.size := by have := HLT.out.2.1; omega
        have hne' : ¬ w2.heap.size = w1.heap.size := fun e => hne e.symm
        go_region_held3 (fun w' => w'.cell? ⟨w1.heap.size, 0, none⟩ = some (.bool false) ∧ w'.cell? ⟨w1.heap.size, 1, none⟩ = some (.slice none 0 0) ∧ w'.cell? ⟨w2.heap.size, 0, none⟩ = some (.bool false) ∧ w'.cell? ⟨w2.heap.size, 1, none⟩ = some (.slice none 0 0) ∧ Blk w' w1.heap.size #[.bool false, .slice none 0 0] 41 ∧ Blk w' w2.heap.size #[.bool false, .slice none 0 0] 41) (with_reducible first | exact ST | exact SB.later ST (by assumption) | exact SB.set1 (SB.later ST (by assumption)) hne | exact SB.set2 (SB.set1 (SB.later ST (by assumption)) hne) hne | go_keep) ((go_at_call 28; refine HER.out.mono ?_; rintro e w8 ⟨rfl, hb8⟩; have hs8 := ST.later hb8; have x0 := hs8.1; have x1 := hs8.2.1; have x2 := hs8.2.2.1; have x3 := hs8.2.2.2.1; have f0 := hs8.2.2.2.2.1.frozen 0; have f1 := hs8.2.2.2.2.1.frozen 1; have f2 := hs8.2.2.2.2.2.frozen 0; have f3 := hs8.2.2.2.2.2.frozen 1))
        rename_i hH
        clear hH hs8 x0 x1 x2 x3 f0 f1 f2 f3
        have hbw : Below wz.heap.size wz w8 := ((Below.refl wz.heap.size wz).drew).trans hb8
        obtain ⟨w9, hw9, hsb, hset⟩ := set_end (base := base) (m := m) (W := W) (W2 := W) (i := i) (k := k) (s := ⟨sa, sl⟩) (s1 := Ns.zero) (s2 := Ns.zero) (E := 4) (A1 := none) (c1 := 0) (A2 := none) (c2 := 0) (w0 := w) (HB.out.later hbw) hne (by have := HLT.out; omega) (by have := HLT.out; omega) (HM.out.later hbw) (HK.out.trans (.of hbw)) (HT1.out.later hbw) (HT2.out.later hbw) HE1.out.1 HE1.out.2.1 HE1.out.2.2.1 HE1.out.2.2.2
        have hw9 : (((w8.setCell ⟨w1.heap.size, 0, none⟩ (.bool false)).setCell ⟨w1.heap.size, 1, none⟩ (.slice none 0 0)).setCell ⟨w2.heap.size, 0, none⟩ (.bool false)).setCell ⟨w2.heap.size, 1, none⟩ (.slice none 0 0) = w9 := hw9
        have hsb : SB w1.heap.size w2.heap.size false false (.slice none 0 0) (.slice none 0 0) w9 := hsb
        have g0 := hsb.1
        have g1 := hsb.2.1
        have g2 := hsb.2.2.1
        have g3 := hsb.2.2.2.1
        have HSET := Lib.hid hset
        clear hsb hset hbw hb8 ST hne hne'
        go_wp2_with fail
        refine bodyPost_ret (v := .tuple #[.agg zSet, .agg zSet, .int .i64 4]) (by simp [results, Tryz.results8, go_sem, g0, g1, g2, g3]) rfl HSET.out
      · have HTN := Lib.hid (HTN.out.mono (fun e w' h => h.2 hfull))
        have he1 : setE W i k ⟨sa, sl⟩ = 0 := by unfold setE; rw [if_neg HBD.out, if_neg (by have := HSL.out; omega), if_neg hfull]
        obtain ⟨LS, hLS⟩ : ∃ LS, nLess (uni (wset W i k ⟨sa, sl⟩) k) (uni W k) = LS := ⟨_, rfl⟩
        obtain ⟨LR, hLR⟩ : ∃ LR, nLess (uni W k) (uni (wset W i k ⟨sa, sl⟩) k) = LR := ⟨_, rfl⟩
        have HE1 := Lib.hid (show setE W i k ⟨sa, sl⟩ = 0 ∧ setW W i k ⟨sa, sl⟩ = wset W i k ⟨sa, sl⟩ ∧ setM W i k ⟨sa, sl⟩ = LS ∧ setL W i k ⟨sa, sl⟩ = LR from ⟨he1, by unfold setW; rw [if_pos he1], by unfold setM; rw [if_pos he1, hLS], by unfold setL; rw [if_pos he1, hLR]⟩)
        rw [hLS, hLR] at HTN
        clear hfull he1 hLS hLR
        go_wp2_with fail
        refine HTN.out.mono ?_
        rintro e w8 ⟨v1, v2, rfl, hv1, hv2, hm8, hk8⟩
        obtain ⟨A8, B8, rfl, ht8⟩ := hv1.shape
        obtain ⟨A9, B9, rfl, ht9⟩ := hv2.shape
        have hB8 : SB w1.heap.size w2.heap.size false false (.slice none 0 0) (.slice none 0 0) w8 := SB.mk' (hk8.blk HQ.out.1) (hk8.blk HQ.out.2)
        have hk9 := HK.out.trans hk8
        have hne : ¬ w1.heap.size = w2.heap.size := by have := HLT.out.2.1; omega
        have hne' : ¬ w2.heap.size = w1.heap.size := fun e => hne e.symm
        obtain ⟨wz, hwz, hsb, hmz, hkz, htz, htz2⟩ := set_mid (base := base) (m := m) (W2 := wset W i k ⟨sa, sl⟩) (s1 := LS) (s2 := LR) (A1 := A8) (c1 := B8) (A2 := A9) (c2 := B9) (w0 := w) hB8 hne (by have := HLT.out; omega) (by have := HLT.out; omega) hm8 hk9 ht8 ht9
        have x0 := hB8.1
        have x1 := hB8.2.1
        have x2 := hB8.2.2.1
        have x3 := hB8.2.2.2.1
        have f0 := hB8.2.2.2.2.1.frozen 0
        have f1 := hB8.2.2.2.2.1.frozen 1
        have f2 := hB8.2.2.2.2.2.frozen 0
        have f3 := hB8.2.2.2.2.2.frozen 1
        have HG := Lib.hid (hkz.gm HG0.out)
        have HB := Lib.hid hsb
        have HM := Lib.hid hmz
        have HK := Lib.hid hkz
        have HT1 := Lib.hid htz
        have HT2 := Lib.hid htz2
        have HWZ := Lib.hid hwz
        clear hsb hmz hkz htz htz2 hwz hB8 hv1 hv2 hm8 hk8 hk9 ht8 ht9 HTN
        go_wp2_with fail
        rw [HWZ.out]
        clear x0 x1 x2 x3 f0 f1 f2 f3 hne hne'
        have ST : SB w1.heap.size w2.heap.size LS.all LR.all (.slice A8 LS.ns.length B8) (.slice A9 LR.ns.length B9) wz.drew := HB.out.later (Below.refl _ _).drew
        have HER := Lib.hid (show Calls Tryz.prog 28 #[.nilIface] wz.drew (fun r w' => r = .returned (.int .i64 0) ∧ Below wz.drew.heap.size wz.drew w') from errno_any a f n i 0 (by decide) wz.drew (HG.out.later (Below.refl _ _).drew))
        have hne : ¬ w1.heap.size = w2.heap.size := by have := HLT.out.2.1; omega
        have hne' : ¬ w2.heap.size = w1.heap.size := fun e => hne e.symm
        go_region_held3 (fun w' => w'.cell? ⟨w1.heap.size, 0, none⟩ = some (.bool LS.all) ∧ w'.cell? ⟨w1.heap.size, 1, none⟩ = some (.slice A8 LS.ns.length B8) ∧ w'.cell? ⟨w2.heap.size, 0, none⟩ = some (.bool LR.all) ∧ w'.cell? ⟨w2.heap.size, 1, none⟩ = some (.slice A9 LR.ns.length B9) ∧ Blk w' w1.heap.size #[.bool LS.all, .slice A8 LS.ns.length B8] 41 ∧ Blk w' w2.heap.size #[.bool LR.all, .slice A9 LR.ns.length B9] 41) (with_reducible first | exact ST | exact SB.later ST (by assumption) | exact SB.set1 (SB.later ST (by assumption)) hne | exact SB.set2 (SB.set1 (SB.later ST (by assumption)) hne) hne | go_keep) ((go_at_call 28; refine HER.out.mono ?_; rintro e w8 ⟨rfl, hb8⟩; have hs8 := ST.later hb8; have x0 := hs8.1; have x1 := hs8.2.1; have x2 := hs8.2.2.1; have x3 := hs8.2.2.2.1; have f0 := hs8.2.2.2.2.1.frozen 0; have f1 := hs8.2.2.2.2.1.frozen 1; have f2 := hs8.2.2.2.2.2.frozen 0; have f3 := hs8.2.2.2.2.2.frozen 1))
        rename_i hH
        clear hH hs8 x0 x1 x2 x3 f0 f1 f2 f3
        have hbw : Below wz.heap.size wz w8 := ((Below.refl wz.heap.size wz).drew).trans hb8
        obtain ⟨w9, hw9, hsb, hset⟩ := set_end (base := base) (m := m) (W := W) (W2 := (wset W i k ⟨sa, sl⟩)) (i := i) (k := k) (s := ⟨sa, sl⟩) (s1 := LS) (s2 := LR) (E := 0) (A1 := A8) (c1 := B8) (A2 := A9) (c2 := B9) (w0 := w) (HB.out.later hbw) hne (by have := HLT.out; omega) (by have := HLT.out; omega) (HM.out.later hbw) (HK.out.trans (.of hbw)) (HT1.out.later hbw) (HT2.out.later hbw) HE1.out.1 HE1.out.2.1 HE1.out.2.2.1 HE1.out.2.2.2
        have hw9 : (((w8.setCell ⟨w1.heap.size, 0, none⟩ (.bool LS.all)).setCell ⟨w1.heap.size, 1, none⟩ (.slice A8 LS.ns.length B8)).setCell ⟨w2.heap.size, 0, none⟩ (.bool LR.all)).setCell ⟨w2.heap.size, 1, none⟩ (.slice A9 LR.ns.length B9) = w9 := hw9
        have hsb : SB w1.heap.size w2.heap.size LS.all LR.all (.slice A8 LS.ns.length B8) (.slice A9 LR.ns.length B9) w9 := hsb
        have g0 := hsb.1
        have g1 := hsb.2.1
        have g2 := hsb.2.2.1
        have g3 := hsb.2.2.2.1
        have HSET := Lib.hid hset
        clear hsb hset hbw hb8 ST hne hne'
        go_wp2_with fail
        rw [hw9]
        refine bodyPost_ret (v := .tuple #[.agg #[.bool LS.all, .slice A8 LS.ns.length B8], .agg #[.bool LR.all, .slice A9 LR.ns.length B9], .int .i64 0]) (by simp [results, Tryz.results8, go_sem, g0, g1, g2, g3]) rfl HSET.out
end Go.Proofs.YtkjfafnnnkjoeaaGreatDoor
