/- message: what a request for all is read into, field by field (tools/msreqi_gen.py). -/
import Derived.Test.YtbflbgnafdbngaaDoorMsTakeOn
namespace Go.Proofs.YtbflbgnafdbngaaDoor
open Go.RowKit Go.Lib

set_option maxRecDepth 100000 in
theorem each_yes (f : Fd) (v : Value) (R o : Nat) (cs : Array Value) (T : TypeId) (w : World) (h : EachT w v ⟨R, o, none⟩) (hk : f.kind = 2) (hR : Bk w R cs T) (ho : cs[o]? = some (.slice none 0 0)) (hT : 95 ≠ T) :
    ∃ b2 b3, v = clo b2 b3 ∧ Calls Tryd.prog 68 #[fV f, .pointer (some ⟨b2, 0, none⟩), .pointer (some ⟨b3, 0, none⟩)] w (fun e w' => (e = .returned .nilIface ∧ ∃ B c, Bk w' R (cs.setIfInBounds o (.slice (some ⟨B, 0, none⟩) 1 c)) T ∧ Kpt R w w' ∧ w.heap.size ≤ B ∧ w'.cell? ⟨B, 0, none⟩ = some (.string ⟨f.s.toArray⟩))) := by
  obtain ⟨b0, b1, b2, b3, rfl, h0, h1, h2, h3⟩ := h
  refine ⟨b2, b3, rfl, ?_⟩
  obtain ⟨w1, hw1, hb1, p1⟩ := alloc_new w #[.int .i64 (f.num : Int), .int .i64 (f.kind : Int), .int .u64 (f.n : Int), .string ⟨f.s.toArray⟩] 59
  have HIN := Lib.hid (each_in f b0 b1 R o cs T w1 (h0.later hb1) (h1.later hb1) (hR.later hb1) ho hT)
  have hent : ∀ (args : Array Value) (w : World), (callFunc 60 args).run Tryd.prog w = .ok (.enter 60 args) w := enters_of Tryd.func60 (by kernel_rfl) rfl
  obtain ⟨num, kind, n, s⟩ := f
  dsimp only at hk
  subst hk
  have HW := Lib.hid (show w.alloc (.cells #[.int .i64 (num : Int), .int .i64 2, .int .u64 (n : Int), .string ⟨s.toArray⟩] 59) = w1 from hw1)
  have HIN2 := Lib.hid (show Calls Tryd.prog 60 #[.agg #[.int .i64 (num : Int), .int .i64 2, .int .u64 (n : Int), .string ⟨s.toArray⟩], .pointer (some ⟨b1, 0, none⟩), .pointer (some ⟨b0, 0, none⟩)] w1 (fun e w' => e = .returned .nilIface ∧ ∃ B c, Bk w' R (cs.setIfInBounds o (.slice (some ⟨B, 0, none⟩) 1 c)) T ∧ Kpt R w1 w' ∧ w1.heap.size ≤ B ∧ w'.cell? ⟨B, 0, none⟩ = some (.string ⟨s.toArray⟩)) from HIN.out)
  have HB := Lib.hid hb1
  have c0 : w.cell? ⟨b2, 0, none⟩ = some (.int .i64 2) := h2.cell 0
  have l0 := h2.lt
  have c1 : w.cell? ⟨b3, 0, none⟩ = some (.func (.func 60) #[] #[.pointer (some ⟨b1, 0, none⟩), .pointer (some ⟨b0, 0, none⟩)]) := h3.cell 0
  have l1 := h3.lt
  clear h0 h1 h2 h3 hw1 hb1 p1 hR ho
  go_enter Tryd.func68, Tryd.ntmps68
  go_wp2_with fail
  rw [HW.out]
  refine HIN2.out.mono ?_
  rintro e w2 ⟨rfl, B, c, hs, hk, hne, hc⟩
  have HS := Lib.hid (And.intro hs (And.intro (Kpt.after HB.out hk) (And.intro (Nat.le_trans HB.out.size hne) hc)))
  clear hs hk hne hc
  go_wp2_with fail
  go_ret
  exact ⟨rfl, B, c, HS.out.1, HS.out.2.1, HS.out.2.2.1, HS.out.2.2.2⟩
theorem cell_lt {w : World} {B i : Nat} {u : Value} (h : w.cell? ⟨B, i, none⟩ = some u) : B < w.heap.size := by
  rcases Nat.lt_or_ge B w.heap.size with h' | h'
  · exact h'
  · exfalso
    unfold World.cell? at h
    simp [Array.getElem?_eq_none h'] at h
/-- The example's fields, and how far they have been taken. -/
def fd1 : Fd := ⟨1, 0, 1, []⟩
def fd4 : Fd := ⟨4, 2, 0, [42]⟩
def cntStep (n : Nat) (_ : Fd) : Except (List Int) Nat := .ok (n + 1)
def rqKd (n : Nat) : Nat := if n = 0 then 0 else 1
def RqS (n : Nat) (w : World) (R : Nat) (S : Value) : Prop := if n < 2 then S = .slice none 0 0 else ∃ B c, S = .slice (some ⟨B, 0, none⟩) 1 c ∧ StarAt w B ∧ R + 3 < B
noncomputable def reqC (v1 v2 v3 v4 v5 v6 v7 : Value) : Int → Option Value := kset (kset (kset (kset (kset (kset (kset (fun _ => none) 1 v1) 2 v2) 3 v3) 4 v4) 5 v5) 6 v6) 7 v7
structure RqI (R : Nat) (v1 v2 v3 v4 v5 v6 v7 : Value) (g b : Addr) (n : Nat) (w : World) : Prop where
  r : Bk w R (rq 0 (.slice none 0 0)) 41
  t : ∃ S, Bk w (R + 1) (rq 0 S) 41 ∧ RqS n w (R + 1) S
  k : Bk w (R + 2) #[.int .u64 (rqKd n : Int)] 22
  o : Bk w (R + 3) #[.int .u64 0] 22
  t1 : NumT w v1 ⟨R + 2, 0, none⟩
  t4 : EachT w v4 ⟨R + 1, 3, none⟩
  m : Tks w (R + 4) (reqC v1 v2 v3 v4 v5 v6 v7)
  gv : Gv g w
  gn : Gn b w
theorem RqS.later {n R : Nat} {S : Value} {w w' : World} (h : RqS n w R S) (hb : Below w.heap.size w w') : RqS n w' R S := by
  unfold RqS at h ⊢
  split
  · rename_i hn; rw [if_pos hn] at h; exact h
  · rename_i hn; rw [if_neg hn] at h; obtain ⟨B, c, e, hs, hne⟩ := h; exact ⟨B, c, e, hs.later hb, hne⟩
theorem RqI.later {R : Nat} {v1 v2 v3 v4 v5 v6 v7 : Value} {g b : Addr} {n : Nat} {w w' : World} (h : RqI R v1 v2 v3 v4 v5 v6 v7 g b n w) (hb : Below w.heap.size w w') : RqI R v1 v2 v3 v4 v5 v6 v7 g b n w' := by
  obtain ⟨S, ht, hs⟩ := h.t
  exact ⟨h.r.later hb, ⟨S, ht.later hb, hs.later hb⟩, h.k.later hb, h.o.later hb, h.t1.later hb, h.t4.later hb, h.m.later hb, h.gv.below hb, h.gn.below hb⟩
/-- Which field comes next. -/
def RqN (n : Nat) (f : Fd) : Prop := (n = 0 ∧ f = fd1) ∨ (n = 1 ∧ f = fd4)
theorem rqn_of {fs : List Fd} (h : fs = [fd1, fd4]) (k n : Nat) (f : Fd) (hk : fs[k]? = some f) (ht : takes cntStep 0 fs = takes cntStep n (fs.drop k)) : RqN n f := by
  subst h
  match k, hk, ht with
  | 0, hk, ht =>
    simp at hk
    simp only [takes, cntStep, List.drop_zero, Prod.mk.injEq] at ht
    exact Or.inl ⟨by omega, hk.symm⟩
  | 1, hk, ht =>
    simp at hk
    simp only [takes, cntStep, List.drop_succ_cons, List.drop_zero, Prod.mk.injEq] at ht
    exact Or.inr ⟨by omega, hk.symm⟩
  | k + 2, hk, _ => simp at hk
theorem rq_takes (R B0 : Nat) (v1 v2 v3 v4 v5 v6 v7 : Value) (g b : Addr) (hB : R + 4 < B0) (h1 : 1 < R) (h2 : 0 < R) (n : Nat) (w : World) (f : Fd) (h : RqI R v1 v2 v3 v4 v5 v6 v7 g b n w) (hp : RqN n f) :
    (reqC v1 v2 v3 v4 v5 v6 v7 (f.num : Int) = none → cntStep n f = .ok n) ∧ ∀ v', reqC v1 v2 v3 v4 v5 v6 v7 (f.num : Int) = some v' → ∃ b2 b3, v' = clo b2 b3 ∧ Calls Tryd.prog 68 #[fV f, .pointer (some ⟨b2, 0, none⟩), .pointer (some ⟨b3, 0, none⟩)] w (TkPost (RqI R v1 v2 v3 v4 v5 v6 v7 g b) (cntStep n f) n R B0 b w) := by
  have hw : R ≤ w.heap.size := Nat.le_of_lt h.r.lt
  obtain ⟨S, ht, hs⟩ := h.t
  have hml := h.m.lt
  rcases hp with ⟨rfl, rfl⟩ | ⟨rfl, rfl⟩
  · have e : reqC v1 v2 v3 v4 v5 v6 v7 (fd1.num : Int) = some v1 := by
      show reqC v1 v2 v3 v4 v5 v6 v7 1 = some v1
      unfold reqC
      rw [kset_other (by decide), kset_other (by decide), kset_other (by decide), kset_other (by decide), kset_other (by decide), kset_other (by decide), kset_same]
    rw [e]
    refine ⟨(fun h => by cases h), fun v' hv => ?_⟩
    injection hv with hv
    subst hv
    obtain ⟨b2, b3, e, hc⟩ := num_yes fd1 v1 (R + 2) 0 _ _ w h.t1 rfl h.k (by simp)
    refine ⟨b2, b3, e, hc.mono ?_⟩
    rintro e w' ⟨rfl, hbk, hkp⟩
    have hbw : Below R w w' := hkp.below (by omega) hw
    exact ⟨⟨rfl, hkp.bk h.r (by omega), ⟨S, hkp.bk ht (by omega), hs⟩, hbk, hkp.bk h.o (by omega), h.t1.kpt hkp h.k (by decide) (by decide) (by decide), h.t4.kpt hkp h.k (by decide) (by decide) (by decide) (by decide), h.m.kpt hkp h.k, gv_base h.gv h1 hbw, gn_base h.gn h2 hbw⟩, hbw, fun k hk1 hk2 => hkp.block k hk2 (by omega)⟩
  · have e : reqC v1 v2 v3 v4 v5 v6 v7 (fd4.num : Int) = some v4 := by
      show reqC v1 v2 v3 v4 v5 v6 v7 4 = some v4
      unfold reqC
      rw [kset_other (by decide), kset_other (by decide), kset_other (by decide), kset_same]
    rw [e]
    refine ⟨(fun h => by cases h), fun v' hv => ?_⟩
    injection hv with hv
    subst hv
    have hS : S = .slice none 0 0 := hs
    subst hS
    obtain ⟨b2, b3, e, hc⟩ := each_yes fd4 v4 (R + 1) 3 _ _ w h.t4 rfl ht rfl (by decide)
    refine ⟨b2, b3, e, hc.mono ?_⟩
    rintro e w' ⟨rfl, B, c, hbk, hkp, hne, hcl⟩
    have hbw : Below R w w' := hkp.below (by omega) hw
    have hst : StarAt w' B := ⟨hcl, cell_lt hcl⟩
    exact ⟨⟨rfl, hkp.bk h.r (by omega), ⟨_, hbk, B, c, rfl, hst, by omega⟩, hkp.bk h.k (by omega), hkp.bk h.o (by omega), h.t1.kpt hkp ht (by decide) (by decide) (by decide), h.t4.kpt hkp ht (by decide) (by decide) (by decide) (by decide), h.m.kpt hkp ht, gv_base h.gv h1 hbw, gn_base h.gn h2 hbw⟩, hbw, fun k hk1 hk2 => hkp.block k hk2 (by omega)⟩
end Go.Proofs.YtbflbgnafdbngaaDoor
