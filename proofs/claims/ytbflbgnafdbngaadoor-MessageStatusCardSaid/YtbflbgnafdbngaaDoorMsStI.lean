/- message: what a status is read into, field by field (tools/msstread_gen.py). -/
import Derived.Test.YtbflbgnafdbngaaDoorMsPing
namespace Go.Proofs.YtbflbgnafdbngaaDoor
open Go.RowKit Go.Lib

/-- What was read of a status so far. -/
structure SS where
  kind : Nat
  x : List UInt8
  q : Nat
  f : Nat
  s : List UInt8
def statStep (st : SS) (f : Fd) : Except (List Int) SS :=
  if f.num = 1 then (if f.kind = 0 then .ok { st with kind := f.n } else .error [])
  else if f.num = 2 then (if f.kind = 2 then .ok { st with x := f.s } else .error [])
  else if f.num = 3 then (if f.kind = 0 then .ok { st with q := f.n } else .error [])
  else if f.num = 4 then (if f.kind = 0 then .ok { st with f := f.n } else .error [])
  else if f.num = 5 then (if f.kind = 2 then .ok { st with s := f.s } else .error [])
  else .ok st
theorem statStep_len : ∀ (st : SS) f l, statStep st f = .error l → l.length ≤ 1 := by
  intro st f l h
  unfold statStep at h
  repeat' split at h
  all_goals first | (injection h with h; rw [← h]; simp) | cases h
noncomputable def statC (v1 v2 v3 v4 v5 : Value) : Int → Option Value := kset (kset (kset (kset (kset (fun _ => none) 1 v1) 2 v2) 3 v3) 4 v4) 5 v5
abbrev stCells (st : SS) : Array Value := #[.int .i64 0, .string ⟨st.x.toArray⟩, .int .u64 (st.q : Int), .bool false, .string ⟨st.s.toArray⟩]
abbrev st0Cells : Array Value := #[.int .i64 0, .string ⟨#[]⟩, .int .u64 0, .bool false, .string ⟨#[]⟩]
structure StI (R : Nat) (v1 v2 v3 v4 v5 : Value) (g b : Addr) (st : SS) (w : World) : Prop where
  r : Bk w R st0Cells 30
  t : Bk w (R + 1) (stCells st) 30
  k : Bk w (R + 2) #[.int .u64 (st.kind : Int)] 22
  o : Bk w (R + 3) #[.int .u64 (st.f : Int)] 22
  t1 : NumT w v1 ⟨R + 2, 0, none⟩
  t2 : TxtT w v2 ⟨R + 1, 1, none⟩
  t3 : NumT w v3 ⟨R + 1, 2, none⟩
  t4 : NumT w v4 ⟨R + 3, 0, none⟩
  t5 : TxtT w v5 ⟨R + 1, 4, none⟩
  m : Tks w (R + 4) (statC v1 v2 v3 v4 v5)
  gv : Gv g w
  gn : Gn b w
theorem StI.later {R : Nat} {v1 v2 v3 v4 v5 : Value} {g b : Addr} {st : SS} {w w' : World} (h : StI R v1 v2 v3 v4 v5 g b st w) (hb : Below w.heap.size w w') : StI R v1 v2 v3 v4 v5 g b st w' :=
  ⟨h.r.later hb, h.t.later hb, h.k.later hb, h.o.later hb, h.t1.later hb, h.t2.later hb, h.t3.later hb, h.t4.later hb, h.t5.later hb, h.m.later hb, h.gv.below hb, h.gn.below hb⟩
/-- A store into the status. -/
theorem StI.inT {R : Nat} {v1 v2 v3 v4 v5 : Value} {g b : Addr} {st st' : SS} {w w' : World} (h : StI R v1 v2 v3 v4 v5 g b st w) (hk : Kpt (R + 1) w w') (ht : Bk w' (R + 1) (stCells st') 30) (e1 : st'.kind = st.kind) (e2 : st'.f = st.f)
    (h1 : 1 < R) (h2 : 0 < R) : StI R v1 v2 v3 v4 v5 g b st' w' := by
  have hbw : Below R w w' := hk.below (by omega) (Nat.le_of_lt h.r.lt)
  exact ⟨hk.bk h.r (by omega), ht, by rw [e1]; exact hk.bk h.k (by omega), by rw [e2]; exact hk.bk h.o (by omega), h.t1.kpt hk h.t (by decide) (by decide) (by decide), h.t2.kpt hk h.t (by decide) (by decide) (by decide), h.t3.kpt hk h.t (by decide) (by decide) (by decide), h.t4.kpt hk h.t (by decide) (by decide) (by decide), h.t5.kpt hk h.t (by decide) (by decide) (by decide), h.m.kpt hk h.t, gv_base h.gv h1 hbw, gn_base h.gn h2 hbw⟩
/-- A store into a number beside it. -/
theorem StI.inK {R : Nat} {v1 v2 v3 v4 v5 : Value} {g b : Addr} {st : SS} {w w' : World} (n : Nat) (h : StI R v1 v2 v3 v4 v5 g b st w) (hk : Kpt (R + 2) w w') (ht : Bk w' (R + 2) #[.int .u64 (n : Int)] 22)
    (h1 : 1 < R) (h2 : 0 < R) : StI R v1 v2 v3 v4 v5 g b { st with kind := n } w' := by
  have hbw : Below R w w' := hk.below (by omega) (Nat.le_of_lt h.r.lt)
  exact ⟨hk.bk h.r (by omega), hk.bk h.t (by omega), ht, hk.bk h.o (by omega), h.t1.kpt hk h.k (by decide) (by decide) (by decide), h.t2.kpt hk h.k (by decide) (by decide) (by decide), h.t3.kpt hk h.k (by decide) (by decide) (by decide), h.t4.kpt hk h.k (by decide) (by decide) (by decide), h.t5.kpt hk h.k (by decide) (by decide) (by decide), h.m.kpt hk h.k, gv_base h.gv h1 hbw, gn_base h.gn h2 hbw⟩
/-- A store into a number beside it. -/
theorem StI.inO {R : Nat} {v1 v2 v3 v4 v5 : Value} {g b : Addr} {st : SS} {w w' : World} (n : Nat) (h : StI R v1 v2 v3 v4 v5 g b st w) (hk : Kpt (R + 3) w w') (ht : Bk w' (R + 3) #[.int .u64 (n : Int)] 22)
    (h1 : 1 < R) (h2 : 0 < R) : StI R v1 v2 v3 v4 v5 g b { st with f := n } w' := by
  have hbw : Below R w w' := hk.below (by omega) (Nat.le_of_lt h.r.lt)
  exact ⟨hk.bk h.r (by omega), hk.bk h.t (by omega), hk.bk h.k (by omega), ht, h.t1.kpt hk h.o (by decide) (by decide) (by decide), h.t2.kpt hk h.o (by decide) (by decide) (by decide), h.t3.kpt hk h.o (by decide) (by decide) (by decide), h.t4.kpt hk h.o (by decide) (by decide) (by decide), h.t5.kpt hk h.o (by decide) (by decide) (by decide), h.m.kpt hk h.o, gv_base h.gv h1 hbw, gn_base h.gn h2 hbw⟩
/-- What a field does to a status. -/
theorem stat_takes (R B0 : Nat) (v1 v2 v3 v4 v5 : Value) (g b : Addr) (hB : R + 4 < B0) (h1 : 1 < R) (h2 : 0 < R) (st : SS) (w : World) (f : Fd) (h : StI R v1 v2 v3 v4 v5 g b st w) :
    (statC v1 v2 v3 v4 v5 (f.num : Int) = none → statStep st f = .ok st) ∧ ∀ v', statC v1 v2 v3 v4 v5 (f.num : Int) = some v' → ∃ b2 b3, v' = clo b2 b3 ∧ Calls Tryd.prog 68 #[fV f, .pointer (some ⟨b2, 0, none⟩), .pointer (some ⟨b3, 0, none⟩)] w (TkPost (StI R v1 v2 v3 v4 v5 g b) (statStep st f) st R B0 b w) := by
  have hw : R ≤ w.heap.size := Nat.le_of_lt h.r.lt
  unfold statC
  by_cases hq1 : f.num = 1
  · have hn1 : (f.num : Int) = 1 := by omega
    rw [hn1]
    rw [kset_other (by decide)]
    rw [kset_other (by decide)]
    rw [kset_other (by decide)]
    rw [kset_other (by decide)]
    rw [kset_same]
    refine ⟨(fun h => by cases h), fun v' hv => ?_⟩
    injection hv with hv
    subst hv
    by_cases hk : f.kind = 0
    · obtain ⟨b2, b3, e, hc⟩ := num_yes f v1 (R + 2) 0 _ _ w h.t1 hk h.k (by simp)
      refine ⟨b2, b3, e, hc.mono ?_⟩
      rintro e w' ⟨rfl, hbk, hkp⟩
      have hbw : Below R w w' := hkp.below (by omega) hw
      have hs : statStep st f = .ok { st with kind := f.n } := by unfold statStep; rw [ if_pos (by omega), if_pos hk]
      rw [hs]
      exact ⟨⟨rfl, h.inK f.n hkp hbk h1 h2⟩, hbw, fun k hk1 hk2 => hkp.block k hk2 (by omega)⟩
    · obtain ⟨b1, b2, b3, e, p1, p2, p3⟩ := h.t1
      refine ⟨b2, b3, e, (clo_no 0 v1 b2 b3 f b w p2 h.gn (by simpa using fun e => hk (by omega))).mono ?_⟩
      rintro e w' ⟨rfl, hb⟩
      have hs : statStep st f = .error [] := by unfold statStep; rw [ if_pos (by omega), if_neg hk]
      rw [hs]
      exact ⟨⟨rfl, h.later hb⟩, hb.mono hw, fun k _ hk2 => hb.block k hk2⟩
  · skip
    by_cases hq2 : f.num = 2
    · have hn2 : (f.num : Int) = 2 := by omega
      rw [hn2]
      rw [kset_other (by decide)]
      rw [kset_other (by decide)]
      rw [kset_other (by decide)]
      rw [kset_same]
      refine ⟨(fun h => by cases h), fun v' hv => ?_⟩
      injection hv with hv
      subst hv
      by_cases hk : f.kind = 2
      · obtain ⟨b2, b3, e, hc⟩ := txt_yes f v2 (R + 1) 1 _ _ w h.t2 hk h.t (by simp)
        refine ⟨b2, b3, e, hc.mono ?_⟩
        rintro e w' ⟨rfl, hbk, hkp⟩
        have hbw : Below R w w' := hkp.below (by omega) hw
        have hs : statStep st f = .ok { st with x := f.s } := by unfold statStep; rw [if_neg (by omega), if_pos (by omega), if_pos hk]
        rw [hs]
        exact ⟨⟨rfl, h.inT (st' := { st with x := f.s }) hkp hbk rfl rfl h1 h2⟩, hbw, fun k hk1 hk2 => hkp.block k hk2 (by omega)⟩
      · obtain ⟨b1, b2, b3, e, p1, p2, p3⟩ := h.t2
        refine ⟨b2, b3, e, (clo_no 2 v2 b2 b3 f b w p2 h.gn (by simpa using fun e => hk (by omega))).mono ?_⟩
        rintro e w' ⟨rfl, hb⟩
        have hs : statStep st f = .error [] := by unfold statStep; rw [if_neg (by omega), if_pos (by omega), if_neg hk]
        rw [hs]
        exact ⟨⟨rfl, h.later hb⟩, hb.mono hw, fun k _ hk2 => hb.block k hk2⟩
    · skip
      by_cases hq3 : f.num = 3
      · have hn3 : (f.num : Int) = 3 := by omega
        rw [hn3]
        rw [kset_other (by decide)]
        rw [kset_other (by decide)]
        rw [kset_same]
        refine ⟨(fun h => by cases h), fun v' hv => ?_⟩
        injection hv with hv
        subst hv
        by_cases hk : f.kind = 0
        · obtain ⟨b2, b3, e, hc⟩ := num_yes f v3 (R + 1) 2 _ _ w h.t3 hk h.t (by simp)
          refine ⟨b2, b3, e, hc.mono ?_⟩
          rintro e w' ⟨rfl, hbk, hkp⟩
          have hbw : Below R w w' := hkp.below (by omega) hw
          have hs : statStep st f = .ok { st with q := f.n } := by unfold statStep; rw [if_neg (by omega), if_neg (by omega), if_pos (by omega), if_pos hk]
          rw [hs]
          exact ⟨⟨rfl, h.inT (st' := { st with q := f.n }) hkp hbk rfl rfl h1 h2⟩, hbw, fun k hk1 hk2 => hkp.block k hk2 (by omega)⟩
        · obtain ⟨b1, b2, b3, e, p1, p2, p3⟩ := h.t3
          refine ⟨b2, b3, e, (clo_no 0 v3 b2 b3 f b w p2 h.gn (by simpa using fun e => hk (by omega))).mono ?_⟩
          rintro e w' ⟨rfl, hb⟩
          have hs : statStep st f = .error [] := by unfold statStep; rw [if_neg (by omega), if_neg (by omega), if_pos (by omega), if_neg hk]
          rw [hs]
          exact ⟨⟨rfl, h.later hb⟩, hb.mono hw, fun k _ hk2 => hb.block k hk2⟩
      · skip
        by_cases hq4 : f.num = 4
        · have hn4 : (f.num : Int) = 4 := by omega
          rw [hn4]
          rw [kset_other (by decide)]
          rw [kset_same]
          refine ⟨(fun h => by cases h), fun v' hv => ?_⟩
          injection hv with hv
          subst hv
          by_cases hk : f.kind = 0
          · obtain ⟨b2, b3, e, hc⟩ := num_yes f v4 (R + 3) 0 _ _ w h.t4 hk h.o (by simp)
            refine ⟨b2, b3, e, hc.mono ?_⟩
            rintro e w' ⟨rfl, hbk, hkp⟩
            have hbw : Below R w w' := hkp.below (by omega) hw
            have hs : statStep st f = .ok { st with f := f.n } := by unfold statStep; rw [if_neg (by omega), if_neg (by omega), if_neg (by omega), if_pos (by omega), if_pos hk]
            rw [hs]
            exact ⟨⟨rfl, h.inO f.n hkp hbk h1 h2⟩, hbw, fun k hk1 hk2 => hkp.block k hk2 (by omega)⟩
          · obtain ⟨b1, b2, b3, e, p1, p2, p3⟩ := h.t4
            refine ⟨b2, b3, e, (clo_no 0 v4 b2 b3 f b w p2 h.gn (by simpa using fun e => hk (by omega))).mono ?_⟩
            rintro e w' ⟨rfl, hb⟩
            have hs : statStep st f = .error [] := by unfold statStep; rw [if_neg (by omega), if_neg (by omega), if_neg (by omega), if_pos (by omega), if_neg hk]
            rw [hs]
            exact ⟨⟨rfl, h.later hb⟩, hb.mono hw, fun k _ hk2 => hb.block k hk2⟩
        · skip
          by_cases hq5 : f.num = 5
          · have hn5 : (f.num : Int) = 5 := by omega
            rw [hn5]
            rw [kset_same]
            refine ⟨(fun h => by cases h), fun v' hv => ?_⟩
            injection hv with hv
            subst hv
            by_cases hk : f.kind = 2
            · obtain ⟨b2, b3, e, hc⟩ := txt_yes f v5 (R + 1) 4 _ _ w h.t5 hk h.t (by simp)
              refine ⟨b2, b3, e, hc.mono ?_⟩
              rintro e w' ⟨rfl, hbk, hkp⟩
              have hbw : Below R w w' := hkp.below (by omega) hw
              have hs : statStep st f = .ok { st with s := f.s } := by unfold statStep; rw [if_neg (by omega), if_neg (by omega), if_neg (by omega), if_neg (by omega), if_pos (by omega), if_pos hk]
              rw [hs]
              exact ⟨⟨rfl, h.inT (st' := { st with s := f.s }) hkp hbk rfl rfl h1 h2⟩, hbw, fun k hk1 hk2 => hkp.block k hk2 (by omega)⟩
            · obtain ⟨b1, b2, b3, e, p1, p2, p3⟩ := h.t5
              refine ⟨b2, b3, e, (clo_no 2 v5 b2 b3 f b w p2 h.gn (by simpa using fun e => hk (by omega))).mono ?_⟩
              rintro e w' ⟨rfl, hb⟩
              have hs : statStep st f = .error [] := by unfold statStep; rw [if_neg (by omega), if_neg (by omega), if_neg (by omega), if_neg (by omega), if_pos (by omega), if_neg hk]
              rw [hs]
              exact ⟨⟨rfl, h.later hb⟩, hb.mono hw, fun k _ hk2 => hb.block k hk2⟩
          · skip
            rw [kset_other (by omega), kset_other (by omega), kset_other (by omega), kset_other (by omega), kset_other (by omega)]
            exact ⟨(fun _ => by unfold statStep; rw [if_neg hq1, if_neg hq2, if_neg hq3, if_neg hq4, if_neg hq5]), (fun v' hv => by cases hv)⟩
theorem statC_ok {v1 v2 v3 v4 v5 : Value} (k : Int) (h : (statC v1 v2 v3 v4 v5 k).isSome = true) : iOk k := by
  by_cases h0 : 0 ≤ k ∧ k ≤ 5
  · exact ⟨by omega, by omega⟩
  · unfold statC at h
    rw [kset_other (by omega), kset_other (by omega), kset_other (by omega), kset_other (by omega), kset_other (by omega)] at h
    cases h
end Go.Proofs.YtbflbgnafdbngaaDoor
