/- message: GetPing of any bytes. -/
import Derived.Test.YtbflbgnafdbngaaDoorMsKind
namespace Go.Proofs.YtbflbgnafdbngaaDoor
open Go.RowKit Go.Lib

theorem Tks.later {w w' : World} {M : Nat} {C : Int → Option Value} (h : Tks w M C) (hb : Below w.heap.size w w') : Tks w' M C := KMap.below h hb (KMap.lt h)
theorem tks_ne {w : World} {M R : Nat} {C : Int → Option Value} {c : Array Value} {t : TypeId} (h : Tks w M C) (hR : Bk w R c t) : M ≠ R := by
  rintro rfl
  obtain ⟨es, clock, hb, _⟩ := h
  have := hb.symm.trans hR
  cases this
theorem Tks.kpt {w w' : World} {M R : Nat} {C : Int → Option Value} {c : Array Value} {t : TypeId} (h : Tks w M C) (hk : Kpt R w w') (hR : Bk w R c t) : Tks w' M C := by
  have hne := tks_ne h hR
  have hlt := KMap.lt h
  obtain ⟨es, clock, hb, rest⟩ := h
  exact ⟨es, clock, (hk.block M hlt hne).trans hb, rest⟩
/-- A map in which one more is set keeps blocks of cells. -/
theorem Bk.grown {w w' : World} {M R : Nat} {C : Int → Option Value} {c : Array Value} {t : TypeId} (h : Bk w R c t) (hM : Tks w M C) (hg : w.grownBy w' (some M)) : Bk w' R c t :=
  (hg.block R h.lt (fun e => tks_ne hM h (by injection e with e; exact e.symm))).trans h
theorem NumT.grown {w w' : World} {M : Nat} {C : Int → Option Value} {v : Value} {p : Addr} (h : NumT w v p) (hM : Tks w M C) (hg : w.grownBy w' (some M)) : NumT w' v p := by
  obtain ⟨b1, b2, b3, e, h1, h2, h3⟩ := h
  exact ⟨b1, b2, b3, e, h1.grown hM hg, h2.grown hM hg, h3.grown hM hg⟩
theorem TxtT.grown {w w' : World} {M : Nat} {C : Int → Option Value} {v : Value} {p : Addr} (h : TxtT w v p) (hM : Tks w M C) (hg : w.grownBy w' (some M)) : TxtT w' v p := by
  obtain ⟨b1, b2, b3, e, h1, h2, h3⟩ := h
  exact ⟨b1, b2, b3, e, h1.grown hM hg, h2.grown hM hg, h3.grown hM hg⟩
theorem tks_set {w : World} {M : Nat} {C : Int → Option Value} (h : Tks w M C) (k : Int) (hk : iOk k) (v : Value) :
    ∃ w', (Instr.mapUpdate 91 (.map (some M)) (.int .i64 k) v).run Tryd.prog w = .ok () w' ∧ Tks w' M (kset C k v) ∧ w.grownBy w' (some M) :=
  KMap.update (P := Tryd.prog) (t := 91) (k := 3) (e := 85) (lit := fun x => .int .i64 x) h Tryd.miLaw iKey (fun h => by injection h) Tryd.underlying91 hk v
theorem takes_len {σ : Type} {step : σ → Fd → Except (List Int) σ} (h : ∀ st f l, step st f = .error l → l.length ≤ 1) : ∀ (fs : List Fd) (st : σ) x, (takes step st fs).2 = some x → x.length ≤ 2
  | [], st, x, he => by cases he
  | f :: r, st, x, he => by
    unfold takes at he
    cases hs : step st f with
    | ok st' => rw [hs] at he; exact takes_len h r st' x he
    | error l =>
      rw [hs] at he
      have := h _ _ _ hs
      injection he with he
      rw [← he]; simp; omega
theorem msgP_len {σ : Type} {step : σ → Fd → Except (List Int) σ} (h : ∀ st f l, step st f = .error l → l.length ≤ 1) (st : σ) (kind : Nat) (l : List UInt8) : ∀ x, (msgP step st kind l).2 = some x → x.length ≤ 2 := by
  intro x he
  unfold msgP at he
  split at he
  · unfold takeP at he
    split at he
    · injection he with he; rw [← he]; simp
    · exact takes_len h _ _ _ he
  · injection he with he; rw [← he]; simp
/-- A ping's number, field by field. -/
def pingStep (n : Nat) (f : Fd) : Except (List Int) Nat := if f.num = 1 then (if f.kind = 0 then .ok f.n else .error []) else .ok n
theorem pingStep_len : ∀ (st : Nat) f l, pingStep st f = .error l → l.length ≤ 1 := by
  intro st f l h
  unfold pingStep at h
  split at h
  · split at h
    · cases h
    · injection h with h; rw [← h]; simp
  · cases h
structure PingI (R M : Nat) (v : Value) (g b : Addr) (n : Nat) (w : World) : Prop where
  r : Bk w R #[.int .u64 (n : Int)] 22
  t : NumT w v ⟨R, 0, none⟩
  m : Tks w M (kset (fun _ => none) 1 v)
  gv : Gv g w
  gn : Gn b w
theorem PingI.later {R M n : Nat} {v : Value} {g b : Addr} {w w' : World} (h : PingI R M v g b n w) (hb : Below w.heap.size w w') : PingI R M v g b n w' := ⟨h.r.later hb, h.t.later hb, h.m.later hb, h.gv.below hb, h.gn.below hb⟩
/-- What a field does to a ping. -/
theorem ping_takes (R M base B0 : Nat) (v : Value) (g b : Addr) (hR : base ≤ R) (hB : R < B0) (h1 : 1 < base) (h2 : 0 < base) (n : Nat) (w : World) (f : Fd) (h : PingI R M v g b n w) (hw : base ≤ w.heap.size) :
    (kset (fun _ => none) 1 v (f.num : Int) = none → pingStep n f = .ok n) ∧ ∀ v', kset (fun _ => none) 1 v (f.num : Int) = some v' → ∃ b2 b3, v' = clo b2 b3 ∧ Calls Tryd.prog 68 #[fV f, .pointer (some ⟨b2, 0, none⟩), .pointer (some ⟨b3, 0, none⟩)] w (TkPost (PingI R M v g b) (pingStep n f) n base B0 b w) := by
  by_cases hn : f.num = 1
  · have hn' : (f.num : Int) = 1 := by omega
    rw [hn', kset_same]
    refine ⟨(fun h => by cases h), fun v' hv => ?_⟩
    injection hv with hv
    subst hv
    by_cases hk : f.kind = 0
    · obtain ⟨b2, b3, e, hc⟩ := num_yes f v R 0 _ _ w h.t hk h.r (by simp)
      refine ⟨b2, b3, e, hc.mono ?_⟩
      rintro e w' ⟨rfl, hbk, hkp⟩
      have hs : pingStep n f = .ok f.n := by unfold pingStep; rw [if_pos hn, if_pos hk]
      have hbw : Below base w w' := hkp.below hR hw
      rw [hs]
      exact ⟨⟨rfl, hbk, h.t.kpt hkp h.r (by decide) (by decide) (by decide), h.m.kpt hkp h.r, gv_base h.gv h1 hbw, gn_base h.gn h2 hbw⟩, hbw, fun k hk1 hk2 => hkp.block k hk2 (by omega)⟩
    · obtain ⟨b1, b2, b3, e, t1, t2, t3⟩ := h.t
      refine ⟨b2, b3, e, (clo_no 0 v b2 b3 f b w t2 h.gn (by simpa using fun e => hk (by omega))).mono ?_⟩
      rintro e w' ⟨rfl, hb⟩
      have hs : pingStep n f = .error [] := by unfold pingStep; rw [if_pos hn, if_neg hk]
      rw [hs]
      exact ⟨⟨rfl, h.later hb⟩, hb.mono hw, fun k _ hk2 => hb.block k hk2⟩
  · rw [kset_other (by omega)]
    exact ⟨(fun _ => by unfold pingStep; rw [if_neg hn]), (fun v' hv => by cases hv)⟩
/-- The number that the bytes carry, and what is wrong with them. -/
def pingP (l : List UInt8) : Nat × Option (List Int) := msgP pingStep 0 3 l
theorem field_num {l : List UInt8} {x : Fd} {k : Nat} (h : fieldOf l = some (x, k)) : x.num ≤ 536870911 := by
  unfold fieldOf at h
  cases ht : tagOf l with
  | none => rw [ht] at h; cases h
  | some q =>
    obtain ⟨t, j⟩ := q
    have hb := (tagOf_size ht).2.2.2
    rw [ht] at h
    simp only at h
    split at h
    · split at h
      · injection h with h; injection h with h1 h2; subst h1; exact hb
      · cases h
    · split at h
      · cases h
      · split at h
        · injection h with h; injection h with h1 h2; subst h1; exact hb
        · split at h
          · injection h with h; injection h with h1 h2; subst h1; exact hb
          · cases h
theorem parseF_num : ∀ (n : Nat) (l : List UInt8) (fs : List Fd), parseF n l = some fs → ∀ f ∈ fs, f.num ≤ 536870911
  | _, [], fs, h => by
    have : fs = [] := by cases ‹Nat› <;> (unfold parseF at h; injection h with h; exact h.symm)
    subst this; intro f hf; cases hf
  | 0, _ :: _, fs, h => by unfold parseF at h; cases h
  | n + 1, c :: l, fs, h => by
    unfold parseF at h
    cases hf : fieldOf (c :: l) with
    | none => rw [hf] at h; cases h
    | some q =>
      obtain ⟨x, k⟩ := q
      rw [hf] at h
      simp only at h
      cases hr : parseF n ((c :: l).drop k) with
      | none => rw [hr] at h; cases h
      | some r =>
        rw [hr] at h
        injection h with h
        subst h
        intro f hm
        rcases List.mem_cons.1 hm with rfl | hm
        · exact field_num hf
        · exact parseF_num n _ r hr f hm
theorem parse_num {l : List UInt8} {fs : List Fd} (h : parse l = some fs) : ∀ f ∈ fs, f.num ≤ 536870911 := parseF_num _ _ _ h
theorem fd_num {l : List UInt8} {fs : List Fd} (h : parse l = some fs) : ∀ f ∈ fs, iOk (f.num : Int) := by
  intro f hf
  have := parse_num h f hf
  exact ⟨by omega, by omega⟩
theorem iok1 {v : Value} (k : Int) (h : (kset (fun _ => none) 1 v k).isSome = true) : iOk k := by
  by_cases e : k = 1
  · subst e; exact ⟨by decide, by decide⟩
  · rw [kset_other e] at h; cases h
set_option maxRecDepth 100000 in
set_option maxHeartbeats 2000000 in
theorem readPing_any (s : ByteArray) (g b : Addr) (w : World) (hg : Gv g w) (hn : Gn b w) (hs : s.size ≤ 1099511627776) :
    Calls Tryd.prog 20 #[.string s] w fun e w' => e = .returned (.tuple #[.int .u64 ((pingP s.data.toList).1 : Int), oV b (pingP s.data.toList).2]) ∧ Below w.heap.size w w' := by
  obtain ⟨w1, hw1, hb1, p1⟩ := alloc_new w #[.int .u64 0] 22
  have hs1 : w1.heap.size = w.heap.size + 1 := by rw [← hw1]; simp
  have hm := kmap_new (fun k : Int => Value.int .i64 k) iOk w1
  obtain ⟨w2, hw2, hb2⟩ : ∃ w2, w1.alloc (.map #[] 0) = w2 ∧ Below w1.heap.size w1 w2 := ⟨_, rfl, (Below.refl _ _).alloc (Nat.le_refl _) _⟩
  rw [hw2, hs1] at hm
  have HW := Lib.hid (show (w.alloc (.cells #[.int .u64 0] 22)).alloc (.map #[] 0) = w2 by rw [hw1, hw2])
  have hb12 := hb1.trans (hb2.mono hb1.size)
  have H := Lib.hid (And.intro (p1.later hb2) (And.intro hm (And.intro hb12 (And.intro (hg.below hb12) (And.intro (hn.below hb12) (And.intro hg.2 hn.2))))))
  clear hw1 hb1 p1 hs1 hm hw2 hb2 hb12 hg hn
  obtain ⟨r, hr⟩ : ∃ r, pingP s.data.toList = r := ⟨_, rfl⟩
  rw [hr]
  have HR := Lib.hid hr
  clear hr
  have hmm := @run_makeMap Tryd.prog
  go_enter Tryd.func20, Tryd.ntmps20
  go_wp2_with fail
  rw [HW.out]
  refine (number_new ⟨w.heap.size, 0, none⟩ w2).mono ?_
  rintro e w3 ⟨v, rfl, hT, hb⟩
  have hm3 : Tks w3 (w.heap.size + 1) (fun _ => none) := Tks.later H.out.2.1 hb
  obtain ⟨w4, hrun, hm4, hgr⟩ := tks_set hm3 1 ⟨by decide, by decide⟩ v
  have hb4 : Below w.heap.size w w4 := ((H.out.2.2.1).trans (hb.mono H.out.2.2.1.size)).grown hgr (Nat.le_trans H.out.2.2.1.size hb.size) (fun j hj => by cases hj; omega)
  have hgs : w3.heap.size ≤ w4.heap.size := hgr.size
  have hgv4 : Gv g w4 := gv_base ((H.out.2.2.2.1).below hb) H.out.2.2.2.2.2.1 ((Below.refl w.heap.size w3).grown hgr (Nat.le_trans H.out.2.2.1.size hb.size) (fun j hj => by cases hj; omega))
  have hgn4 : Gn b w4 := gn_base ((H.out.2.2.2.2.1).below hb) H.out.2.2.2.2.2.2 ((Below.refl w.heap.size w3).grown hgr (Nat.le_trans H.out.2.2.1.size hb.size) (fun j hj => by cases hj; omega))
  have hi : PingI w.heap.size (w.heap.size + 1) v g b 0 w4 := ⟨(H.out.1.later hb).grown hm3 hgr, hT.grown hm3 hgr, hm4, hgv4, hgn4⟩
  have HM := Lib.hid (takeMsg_any (PingI w.heap.size (w.heap.size + 1) v g b) pingStep (kset (fun _ => none) 1 v) (w.heap.size + 1) w.heap.size w4.heap.size g b
    (fun st w5 w6 h hb => h.later hb) (fun st w5 h => ⟨h.m, h.gv, h.gn⟩)
    (fun st w5 f h => ping_takes w.heap.size (w.heap.size + 1) w.heap.size w4.heap.size v g b (Nat.le_refl _) hi.r.lt H.out.2.2.2.2.2.1 H.out.2.2.2.2.2.2 st w5 f h (Nat.le_of_lt h.r.lt))
    iok1 0 3 (by decide) s w4 hi hs (Nat.le_refl _) (Nat.le_of_lt hi.r.lt) (fun l fs h => fd_num h))
  have HB4 := Lib.hid hb4
  clear hb hm3 hm4 hgr hb4 hgs hgv4 hgn4 hi hT hs HW
  go_wp2_with fail
  refine HM.out.mono ?_
  rintro e w5 ⟨n, o, ho, rfl, hi, hb⟩
  have c0 : w5.cell? ⟨w.heap.size, 0, none⟩ = some (.int .u64 (n : Int)) := hi.r.cell 0
  have HZ := Lib.hid (And.intro (show r = (n, o) from HR.out.symm.trans ho) (HB4.out.trans hb))
  clear hi hb ho
  go_wp2_with fail
  go_ret2
  have h1 := HZ.out.1
  subst h1
  exact ⟨rfl, HZ.out.2⟩
set_option maxRecDepth 100000 in
theorem getPing_any (s : ByteArray) (g b : Addr) (w : World) (hg : Gv g w) (hn : Gn b w) (hs : s.size ≤ 1099511627776) :
    Calls Tryd.prog 10 #[.string s] w fun e w' => e = .returned (.tuple #[.int .u64 ((if (pingP s.data.toList).2.isSome then 0 else (pingP s.data.toList).1 : Nat) : Int), .bool (!(pingP s.data.toList).2.isSome)]) ∧ Below w.heap.size w w' := by
  have HP := Lib.hid (readPing_any s g b w hg hn hs)
  have HI := Lib.hid (fun W => isE_any b (pingP s.data.toList).2 W (msgP_len pingStep_len 0 3 s.data.toList))
  generalize pingP s.data.toList = q at HP HI ⊢
  obtain ⟨n, o⟩ := q
  dsimp only at HP HI ⊢
  generalize oV b o = V at HP HI
  have HN := Lib.hid hn
  clear hg hn hs
  go_enter Tryd.func10, Tryd.ntmps10
  go_wp2_with fail
  refine HP.out.mono ?_
  rintro e w1 ⟨rfl, hb⟩
  have c0 := (HN.out.below hb).1
  have HB := Lib.hid hb
  clear hb
  go_wp2_with fail
  refine (HI.out w1).mono ?_
  rintro e w2 ⟨rfl, hb⟩
  have HB2 := Lib.hid (HB.out.trans (hb.mono HB.out.size))
  clear hb c0
  cases o with
  | none =>
    go_wp2_with fail
    go_ret2
    exact ⟨rfl, HB2.out⟩
  | some x =>
    go_wp2_with fail
    go_ret2
    exact ⟨rfl, HB2.out⟩
end Go.Proofs.YtbflbgnafdbngaaDoor
