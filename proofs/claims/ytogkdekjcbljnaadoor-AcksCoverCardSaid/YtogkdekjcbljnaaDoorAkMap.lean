/- acks: what its maps tell, and how they are turned. -/
import Derived.Test.YtogkdekjcbljnaaDoorAkAt
namespace Go.Proofs.YtogkdekjcbljnaaDoor
open Go.RowKit Go.Lib

theorem ak_zeroU (w : World) : (zeroValue 29).run Tryd.prog w = .ok (.int .u64 0) w := by kernel_rfl
theorem ak_zeroR (w : World) : (zeroValue 78).run Tryd.prog w = .ok (.slice none 0 0) w := by kernel_rfl
theorem KRange.iter {κ : Type} {enc : κ → Value} {ok : κ → Prop} {w : World} {b r : Nat} {C : κ → Option Value} {done : List κ} (h : KRange enc ok w b r C done) : ∃ m since seen c0, w.heap[r]? = some (.mapIter m since seen c0) := by
  obtain ⟨es, clock, since, seen, c0, hb, hst, h1, h2, hr, _⟩ := h
  exact ⟨_, _, _, _, hr⟩
theorem KRange.mapB {κ : Type} {enc : κ → Value} {ok : κ → Prop} {w : World} {b r : Nat} {C : κ → Option Value} {done : List κ} (h : KRange enc ok w b r C done) : ∃ es clock, w.heap[b]? = some (.map es clock) := by
  obtain ⟨es, clock, since, seen, c0, hb, _⟩ := h
  exact ⟨_, _, hb⟩
theorem krLeft_eq {w w' : World} {b r : Nat} (hb : w'.heap[b]? = w.heap[b]?) (hr : w'.heap[r]? = w.heap[r]?) : krLeft w' b r = krLeft w b r := by unfold krLeft; rw [hb, hr]
theorem KRange.sub {κ : Type} {enc : κ → Value} {ok : κ → Prop} {w : World} {b r : Nat} {C : κ → Option Value} {done : List κ} (h : KRange enc ok w b r C done) : done.Nodup ∧ ∀ s ∈ done, (C s).isSome := by
  obtain ⟨es, clock, since, seen, c0, _, _, _, _, _, _, _, _, hnd, _, hdn⟩ := h
  exact ⟨hnd, hdn⟩
theorem grownBy_below {w w' : World} (h : Below w.heap.size w w') (row : Option Nat) : w.grownBy w' row := ⟨h.os, h.tape, h.output, h.size, fun i hi _ => h.block i hi⟩
theorem ak_new (w : World) (cs : Array Value) (t : TypeId) : ∃ w', w.alloc (.cells cs t) = w' ∧ Below w.heap.size w w' ∧ Blk w' w.heap.size cs t := ⟨_, rfl, (Below.refl _ _).alloc (Nat.le_refl _) _, Blk.new _ _ _⟩
section
variable {base : Nat} {b : AkB} {A : Ak} {CT CT' : Tk → Option Value} {CR CR' CN CN' : Ky → Option Value} {w w' : World}
theorem kmap_ne {κ : Type} {enc : κ → Value} {ok : κ → Prop} {m p : Nat} {C : κ → Option Value} {c : Array Value} {t : TypeId} {fz : Nat × Nat} (hm : KMap enc ok w m C) (hp : w.heap[p]? = some (.cells c t fz)) : p ≠ m := by
  rintro rfl
  obtain ⟨es, clock, hb, _⟩ := hm
  rw [hp] at hb; cases hb
theorem RfAt.kept {κ : Type} {enc : κ → Value} {ok : κ → Prop} {m : Nat} {C : κ → Option Value} {o : Option Value} {l : List Bd} (h : RfAt base w o l) (hm : KMap enc ok w m C) (hg : w.grownBy w' (some m)) : RfAt base w' o l := by
  cases o with
  | none => exact h
  | some v =>
    refine own_other h hg fun g hv e => ?_
    obtain ⟨_, _, c, fz, hc⟩ := own_heap h hv
    exact kmap_ne hm hc (Option.some.inj e).symm
theorem AkIn.lookT (h : AkIn base b A CT CR CN w) {k : Ky} {i : Int} (hk : kyK k) (hi : i64B i) : (Instr.lookup 53 (.map (some b.mt)) (tkE (k, i)) false).run Tryd.prog w = .ok (.int .u64 (A.T k i : Int)) w := by
  have hl := h.tm.lookup (k := 63) (e := 29) (lit := tkLit) (t := 53) (P := Tryd.prog) Tryd.tkLaw tkKey tkE_inj Tryd.underlying53 (ak_zeroU w) (s := (k, i)) ⟨hk, hi⟩ false
  simp only [Bool.false_eq_true, if_false] at hl
  rw [h.tv k i] at hl; exact hl
theorem AkIn.lookR (h : AkIn base b A CT CR CN w) {k : Ky} (hk : kyK k) : (Instr.lookup 54 (.map (some b.mr)) (kyE k) false).run Tryd.prog w = .ok ((CR k).getD (.slice none 0 0)) w := by
  have hl := h.rm.lookup (k := 27) (e := 78) (lit := kyLit) (t := 54) (P := Tryd.prog) Tryd.kyLaw kyKey kyE_inj Tryd.underlying54 (ak_zeroR w) (s := k) hk false
  simp only [Bool.false_eq_true, if_false] at hl
  exact hl
theorem AkIn.nvD (h : AkIn base b A CT CR CN w) (k : Ky) : (CN k).getD (.int .u64 0) = .int .u64 (((A.N k).getD 0 : Nat) : Int) := by
  rw [h.nv k]
  cases A.N k <;> rfl
theorem AkIn.lookN (h : AkIn base b A CT CR CN w) {k : Ky} (hk : kyK k) : (Instr.lookup 55 (.map (some b.mo)) (kyE k) false).run Tryd.prog w = .ok (.int .u64 (((A.N k).getD 0 : Nat) : Int)) w := by
  have hl := h.nm.lookup (k := 27) (e := 29) (lit := kyLit) (t := 55) (P := Tryd.prog) Tryd.kyLaw kyKey kyE_inj Tryd.underlying55 (ak_zeroU w) (s := k) hk false
  simp only [Bool.false_eq_true, if_false] at hl
  rw [h.nvD k] at hl; exact hl
theorem AkIn.hasN (h : AkIn base b A CT CR CN w) {k : Ky} (hk : kyK k) : (Instr.lookup 55 (.map (some b.mo)) (kyE k) true).run Tryd.prog w = .ok (.tuple #[.int .u64 (((A.N k).getD 0 : Nat) : Int), .bool (A.N k).isSome]) w := by
  have hl := h.nm.lookup (k := 27) (e := 29) (lit := kyLit) (t := 55) (P := Tryd.prog) Tryd.kyLaw kyKey kyE_inj Tryd.underlying55 (ak_zeroU w) (s := k) hk true
  simp only [if_true] at hl
  rw [h.nvD k, show (CN k).isSome = (A.N k).isSome by rw [h.nv k]; cases A.N k <;> rfl] at hl; exact hl

theorem AkIn.setT (h : AkIn base b A CT CR CN w) (hg : w.grownBy w' (some b.mt)) (hm : KMap tkE tkK w' b.mt CT') {T' : Ky → Int → Nat} (hv : ∀ k i, (CT' (k, i)).getD (.int .u64 0) = .int .u64 (T' k i : Int)) : AkIn base b { A with T := T' } CT' CR CN w' :=
  ⟨h.blk.kept hg (fun e => kmap_ne h.tm h.blk (Option.some.inj e)), h.bm, h.bt, h.br, h.bo, h.n1, h.n2, h.n3, hm, hv, h.rm.kept hg (fun e => h.n1 (Option.some.inj e).symm), fun k => (h.rv k).kept h.tm hg, h.rd, h.nm.kept hg (fun e => h.n2 (Option.some.inj e).symm), h.nv⟩
theorem AkIn.setN (h : AkIn base b A CT CR CN w) (hg : w.grownBy w' (some b.mo)) (hm : KMap kyE kyK w' b.mo CN') {N' : Ky → Option Nat} (hv : ∀ k, CN' k = (N' k).map fun v => .int .u64 (v : Int)) : AkIn base b { A with N := N' } CT CR CN' w' :=
  ⟨h.blk.kept hg (fun e => kmap_ne h.nm h.blk (Option.some.inj e)), h.bm, h.bt, h.br, h.bo, h.n1, h.n2, h.n3, h.tm.kept hg (fun e => h.n2 (Option.some.inj e)), h.tv, h.rm.kept hg (fun e => h.n3 (Option.some.inj e)), fun k => (h.rv k).kept h.nm hg, h.rd, hm, hv⟩
theorem AkIn.setR (h : AkIn base b A CT CR CN w) (hg : w.grownBy w' (some b.mr)) (hm : KMap kyE kyK w' b.mr CR') {R' : Ky → List Bd} (hv : ∀ k, RfAt base w' (CR' k) (R' k)) (hd : ∀ k k' v v' g, k ≠ k' → CR' k = some v → CR' k' = some v' → v.ownBlock = some g → v'.ownBlock ≠ some g) : AkIn base b { A with R := R' } CT CR' CN w' :=
  ⟨h.blk.kept hg (fun e => kmap_ne h.rm h.blk (Option.some.inj e)), h.bm, h.bt, h.br, h.bo, h.n1, h.n2, h.n3, h.tm.kept hg (fun e => h.n1 (Option.some.inj e)), h.tv, hm, hv, hd, h.nm.kept hg (fun e => h.n3 (Option.some.inj e).symm), h.nv⟩
theorem AkIn.isT (h : AkIn base b A CT CR CN w) : ∃ es clock, w.heap[b.mt]? = some (.map es clock) := by obtain ⟨es, clock, hb, _⟩ := h.tm; exact ⟨es, clock, hb⟩
theorem AkIn.isR (h : AkIn base b A CT CR CN w) : ∃ es clock, w.heap[b.mr]? = some (.map es clock) := by obtain ⟨es, clock, hb, _⟩ := h.rm; exact ⟨es, clock, hb⟩
theorem AkIn.isN (h : AkIn base b A CT CR CN w) : ∃ es clock, w.heap[b.mo]? = some (.map es clock) := by obtain ⟨es, clock, hb, _⟩ := h.nm; exact ⟨es, clock, hb⟩

/-- An id has taken a key up to there. -/
theorem AkIn.updT (h : AkIn base b A CT CR CN w) {k : Ky} {i : Int} (hk : kyK k) (hi : i64B i) (q : Nat) :
    ∃ w', (Instr.mapUpdate 53 (.map (some b.mt)) (tkE (k, i)) (.int .u64 (q : Int))).run Tryd.prog w = .ok () w' ∧ (∃ CT', AkIn base b { A with T := upd A.T k (upd (A.T k) i q) } CT' CR CN w') ∧ KeptA b base w w' := by
  obtain ⟨w', h1, h2, h3⟩ := h.tm.update (k := 63) (e := 29) (lit := tkLit) (t := 53) (P := Tryd.prog) Tryd.tkLaw tkKey tkE_inj Tryd.underlying53 (s := (k, i)) ⟨hk, hi⟩ (.int .u64 (q : Int))
  refine ⟨w', h1, ⟨_, h.setT h3 h2 fun k' i' => ?_⟩, .grown h3 (.inl rfl) h.isT⟩
  by_cases e : k' = k
  · subst e
    rw [upd_same]
    by_cases e2 : i' = i
    · subst e2; rw [upd_same, kset_same]; rfl
    · rw [upd_other e2, kset_other (fun e => e2 (Prod.mk.inj e).2)]; exact h.tv _ _
  · rw [upd_other e, kset_other (fun e2 => e (Prod.mk.inj e2).1)]; exact h.tv _ _
/-- That a key is noted, and up to where it was told. -/
theorem AkIn.updN (h : AkIn base b A CT CR CN w) {k : Ky} (hk : kyK k) (q : Nat) :
    ∃ w', (Instr.mapUpdate 55 (.map (some b.mo)) (kyE k) (.int .u64 (q : Int))).run Tryd.prog w = .ok () w' ∧ (∃ CN', AkIn base b { A with N := upd A.N k (some q) } CT CR CN' w') ∧ KeptA b base w w' := by
  obtain ⟨w', h1, h2, h3⟩ := h.nm.update (k := 27) (e := 29) (lit := kyLit) (t := 55) (P := Tryd.prog) Tryd.kyLaw kyKey kyE_inj Tryd.underlying55 (s := k) hk (.int .u64 (q : Int))
  refine ⟨w', h1, ⟨_, h.setN h3 h2 fun k' => ?_⟩, .grown h3 (.inr (.inr rfl)) h.isN⟩
  by_cases e : k' = k
  · subst e; rw [upd_same, kset_same]; rfl
  · rw [upd_other e, kset_other e]; exact h.nv _
theorem AkIn.delT (h : AkIn base b A CT CR CN w) {k : Ky} {i : Int} (hk : kyK k) (hi : i64B i) (ty : TypeId) :
    ∃ w', (Builtin.delete_ #[53, 63] ty #[.map (some b.mt), tkE (k, i)]).run Tryd.prog w = .ok (.tuple #[]) w' ∧ (∃ CT', AkIn base b { A with T := upd A.T k (upd (A.T k) i 0) } CT' CR CN w') ∧ KeptA b base w w' ∧ w.grownBy w' (some b.mt) := by
  obtain ⟨w', h1, h2, h3⟩ := h.tm.drop (k := 63) (e := 29) (lit := tkLit) (t := 53) (P := Tryd.prog) Tryd.tkLaw tkKey tkE_inj Tryd.underlying53 (s := (k, i)) ⟨hk, hi⟩ ty
  refine ⟨w', h1, ⟨_, h.setT h3 h2 fun k' i' => ?_⟩, .grown h3 (.inl rfl) h.isT, h3⟩
  by_cases e : k' = k
  · subst e
    rw [upd_same]
    by_cases e2 : i' = i
    · subst e2; rw [upd_same, kdel_same]; rfl
    · rw [upd_other e2, kdel_other (fun e => e2 (Prod.mk.inj e).2)]; exact h.tv _ _
  · rw [upd_other e, kdel_other (fun e2 => e (Prod.mk.inj e2).1)]; exact h.tv _ _
theorem AkIn.delN (h : AkIn base b A CT CR CN w) {k : Ky} (hk : kyK k) (ty : TypeId) :
    ∃ w', (Builtin.delete_ #[55, 27] ty #[.map (some b.mo), kyE k]).run Tryd.prog w = .ok (.tuple #[]) w' ∧ (∃ CN', AkIn base b { A with N := upd A.N k none } CT CR CN' w') ∧ KeptA b base w w' := by
  obtain ⟨w', h1, h2, h3⟩ := h.nm.drop (k := 27) (e := 29) (lit := kyLit) (t := 55) (P := Tryd.prog) Tryd.kyLaw kyKey kyE_inj Tryd.underlying55 (s := k) hk ty
  refine ⟨w', h1, ⟨_, h.setN h3 h2 fun k' => ?_⟩, .grown h3 (.inr (.inr rfl)) h.isN⟩
  by_cases e : k' = k
  · subst e; rw [upd_same, kdel_same]; rfl
  · rw [upd_other e, kdel_other e]; exact h.nv _
theorem AkIn.delR (h : AkIn base b A CT CR CN w) {k : Ky} (hk : kyK k) (ty : TypeId) :
    ∃ w', (Builtin.delete_ #[54, 27] ty #[.map (some b.mr), kyE k]).run Tryd.prog w = .ok (.tuple #[]) w' ∧ (∃ CR', AkIn base b { A with R := upd A.R k [] } CT CR' CN w') ∧ KeptA b base w w' := by
  obtain ⟨w', h1, h2, h3⟩ := h.rm.drop (k := 27) (e := 78) (lit := kyLit) (t := 54) (P := Tryd.prog) Tryd.kyLaw kyKey kyE_inj Tryd.underlying54 (s := k) hk ty
  refine ⟨w', h1, ⟨_, h.setR h3 h2 (fun k' => ?_) (fun k1 k2 v v' g hne hv hv' => ?_)⟩, .grown h3 (.inr (.inl rfl)) h.isR⟩
  · by_cases e : k' = k
    · subst e; rw [upd_same, kdel_same]; rfl
    · rw [upd_other e, kdel_other e]; exact (h.rv k').kept h.rm h3
  · by_cases e : k1 = k
    · subst e; rw [kdel_same] at hv; cases hv
    · by_cases e2 : k2 = k
      · subst e2; rw [kdel_same] at hv'; cases hv'
      · rw [kdel_other e] at hv; rw [kdel_other e2] at hv'; exact h.rd k1 k2 v v' g hne hv hv'
/-- What is refused of a key is another row now: the one that was there, turned, or a new one. -/
theorem AkIn.updR (h : AkIn base b A CT CR CN w) {k : Ky} (hk : kyK k) {v : Value} {l : List Bd} {w1 : World}
    (hg1 : w.grownBy w1 ((CR k).getD (.slice none 0 0)).ownBlock) (hrow : w1.ownsRow base 82 3 v l.length (bdCells l)) (hnew : ∀ g, v.ownBlock = some g → ((CR k).getD (.slice none 0 0)).ownBlock = some g ∨ w.heap.size ≤ g) :
    ∃ w', (Instr.mapUpdate 54 (.map (some b.mr)) (kyE k) v).run Tryd.prog w1 = .ok () w' ∧ (∃ CR', AkIn base b { A with R := upd A.R k l } CT CR' CN w') ∧ KeptA b base w w' := by
  have hold : ∀ g, ((CR k).getD (.slice none 0 0)).ownBlock = some g → ∃ u, CR k = some u ∧ w.ownsRow base 82 3 u (A.R k).length (bdCells (A.R k)) ∧ u.ownBlock = some g := fun g hg => by
    have hr := h.rv k
    cases hC : CR k with
    | none => rw [hC] at hg; cases hg
    | some u => rw [hC] at hg hr; exact ⟨u, rfl, hr, hg⟩
  have hcell : ∀ g, ((CR k).getD (.slice none 0 0)).ownBlock = some g → g < w.heap.size ∧ ∃ c fz, w.heap[g]? = some (.cells c 82 fz) := fun g hg => by
    obtain ⟨u, _, hu, e⟩ := hold g hg
    have := own_heap hu e
    exact ⟨this.2.1, this.2.2⟩
  have hkm : ∀ {κ : Type} {enc : κ → Value} {ok : κ → Prop} {m : Nat} {C : κ → Option Value}, KMap enc ok w m C → KMap enc ok w1 m C := fun hm => hm.kept hg1 (fun e => by
    obtain ⟨_, c, fz, hc⟩ := hcell _ e.symm
    exact kmap_ne hm hc rfl)
  have hblk : Blk w1 b.m #[.map (some b.mt), .map (some b.mr), .map (some b.mo)] 57 := h.blk.kept hg1 (fun e => by
    obtain ⟨_, c, fz, hc⟩ := hcell _ e.symm
    have hb := h.blk
    unfold Blk at hb
    rw [hb] at hc
    injection hc with hc; injection hc with _ e2 _
    exact absurd e2 (by decide))
  have hrow' : ∀ k' u, k' ≠ k → CR k' = some u → w1.ownsRow base 82 3 u (A.R k').length (bdCells (A.R k')) := fun k' u hne hu => by
    have hr := h.rv k'
    rw [hu] at hr
    refine own_other hr hg1 fun g hg e => ?_
    obtain ⟨u0, hu0, _, e0⟩ := hold g e
    exact h.rd k k' u0 u g (fun e => hne e.symm) hu0 hu e0 hg
  obtain ⟨w', h1, h2, h3⟩ := (hkm h.rm).update (k := 27) (e := 78) (lit := kyLit) (t := 54) (P := Tryd.prog) Tryd.kyLaw kyKey kyE_inj Tryd.underlying54 (s := k) hk v
  have hk1 : KeptA b base w w1 := by
    cases hC : ((CR k).getD (.slice none 0 0)).ownBlock with
    | none => rw [hC] at hg1; exact .of ⟨hg1.os, hg1.tape, hg1.output, hg1.size, fun k hk => hg1.block k hk (by simp)⟩
    | some g =>
      obtain ⟨u, hu, hr, e⟩ := hold g hC
      rw [hC, ← e] at hg1
      exact .row hr (Nat.le_refl _) hg1
  refine ⟨w', h1, ⟨kset CR k v, h.blk.kept hg1 ?_ |>.kept h3 ?_, h.bm, h.bt, h.br, h.bo, h.n1, h.n2, h.n3, (hkm h.tm).kept h3 (fun e => h.n1 (Option.some.inj e)), h.tv, h2, fun k' => ?_, fun k1 k2 v1 v2 g hne hv1 hv2 hg hg2 => ?_, (hkm h.nm).kept h3 (fun e => h.n3 (Option.some.inj e).symm), h.nv⟩, hk1.trans (.grown h3 (.inr (.inl rfl)) (by obtain ⟨es, clock, hb, _⟩ := hkm h.rm; exact ⟨es, clock, hb⟩))⟩
  · intro e
    obtain ⟨_, c, fz, hc⟩ := hcell _ e.symm
    have hb := h.blk
    unfold Blk at hb
    rw [hb] at hc
    injection hc with hc; injection hc with _ e2 _
    exact absurd e2 (by decide)
  · exact fun e => kmap_ne (hkm h.rm) hblk (Option.some.inj e)
  · show RfAt base w' (kset CR k v k') (upd A.R k l k')
    by_cases e : k' = k
    · subst e
      rw [upd_same, kset_same]
      exact RfAt.kept (o := some v) hrow (hkm h.rm) h3
    · rw [upd_other e, kset_other e]
      cases hC : CR k' with
      | none => have hr := h.rv k'; rw [hC] at hr; exact hr
      | some u => exact RfAt.kept (o := some u) (hrow' k' u e hC) (hkm h.rm) h3
  · have hmix : ∀ k' u, k' ≠ k → CR k' = some u → u.ownBlock = some g → v.ownBlock ≠ some g := fun k' u hne hu hug hvg => by
      have hr := h.rv k'
      rw [hu] at hr
      have hl := (own_heap hr hug).2.1
      rcases hnew g hvg with e | e
      · obtain ⟨u0, hu0, _, e0⟩ := hold g e
        exact h.rd k' k u u0 g hne hu hu0 hug e0
      · omega
    by_cases e1 : k1 = k
    · subst e1
      rw [kset_same] at hv1
      rw [kset_other (fun e => hne e.symm)] at hv2
      cases hv1
      exact hmix k2 v2 (fun e => hne e.symm) hv2 hg2 hg
    · rw [kset_other e1] at hv1
      by_cases e2 : k2 = k
      · subst e2
        rw [kset_same] at hv2
        cases hv2
        exact hmix k1 v1 e1 hv1 hg hg2
      · rw [kset_other e2] at hv2
        exact h.rd k1 k2 v1 v2 g hne hv1 hv2 hg hg2
end
end Go.Proofs.YtogkdekjcbljnaaDoor
