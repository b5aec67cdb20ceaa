/- acks: AcksCover's own memory: a map by sequence, five numbers, a row of ids. -/
import Derived.Test.YtogkdekjcbljnaaDoorAkCvP
import Derived.Test.YtogkdekjcbljnaaDoorAkCell
import Derived.Test.YtogkdekjcbljnaaDoorAkDeed
namespace Go.Proofs.YtogkdekjcbljnaaDoor
open Go.RowKit Go.WideMaps

theorem Tryd.ukLaw : Maps.Keyed Tryd.prog 29 := Maps.int_keyed Tryd.underlying29
abbrev ukE (q : Nat) : Value := .int .u64 (q : Int)
def ukK (q : Nat) : Prop := q < 2 ^ 64
theorem ukE_inj {a b : Nat} (h : ukE a = ukE b) : a = b := by simp at h; omega
theorem ukKey (q : Nat) (h : ukK q) : keyOf Tryd.prog 29 (ukE q) = some (.int .u64 (q : Int)) := by
  have e1 : IntKind.u64.min = 0 := by kernel_rfl
  have e2 : IntKind.u64.max = 18446744073709551615 := by kernel_rfl
  have h' : q < 18446744073709551616 := h
  have wf : (Lit.int .u64 (q : Int)).wf = true := by simp only [Lit.wf, e1, e2, Bool.and_eq_true, decide_eq_true_eq]; omega
  unfold keyOf
  simp only [Tryd.underlying29]
  simp [mapKey, Tryd.underlying29, wf]
theorem uk_zeroS (w : World) : (zeroValue 9).run Tryd.prog w = .ok (.string ⟨#[]⟩) w := by kernel_rfl
/-- What is refused: the words by their sequence. -/
def BadM (w : World) (p : Nat) (B : Nat → Option ByteArray) : Prop := KMap ukE ukK w p (fun q => (B q).map Value.string)
section
variable {base : Nat} {b : AkB} {A : Ak} {CT : Tk → Option Value} {CR CN : Ky → Option Value} {w w' : World} {p : Nat} {T : TypeId} {g n : Addr} {W : World} {B : Nat → Option ByteArray}
theorem BadM.is (h : BadM w p B) : ∃ es clock, w.heap[p]? = some (.map es clock) := by obtain ⟨es, clock, hb, _⟩ := h; exact ⟨es, clock, hb⟩
theorem BadM.later (h : BadM w p B) (hb : Below w.heap.size w w') : BadM w' p B := KMap.below h hb (KMap.lt h)
theorem BadM.keptA (h : BadM w p B) (hk : KeptA b base w w') (h1 : p ≠ b.mt) (h2 : p ≠ b.mr) (h3 : p ≠ b.mo) : BadM w' p B := by
  obtain ⟨es, clock, hb, hr⟩ := h
  exact ⟨es, clock, hk.map hb h1 h2 h3, hr⟩
theorem BadM.set {c : Array Value} {q j : Nat} {v : Value} (h : BadM w p B) (hb : Blk w q c T) : BadM (w.setCell ⟨q, j, none⟩ v) p B := KMap.kept h (grown_set w q j v) (fun e => kmap_ne h hb (Option.some.inj e).symm)
theorem BadM.look (h : BadM w p B) {q : Nat} (hq : q < 2 ^ 64) : (Instr.lookup 31 (.map (some p)) (.int .u64 (q : Int)) false).run Tryd.prog w = .ok (.string ((B q).getD ⟨#[]⟩)) w := by
  have hl := KMap.lookup h (k := 29) (e := 9) (lit := fun q : Nat => .int .u64 (q : Int)) (t := 31) (P := Tryd.prog) Tryd.ukLaw ukKey ukE_inj Tryd.underlying31 (uk_zeroS w) (s := q) hq false
  simp only [Bool.false_eq_true, if_false] at hl
  cases hB : B q with
  | none => rw [hB] at hl; exact hl
  | some s => rw [hB] at hl; exact hl
theorem BadM.has (h : BadM w p B) {q : Nat} (hq : q < 2 ^ 64) : (Instr.lookup 31 (.map (some p)) (.int .u64 (q : Int)) true).run Tryd.prog w = .ok (.tuple #[.string ((B q).getD ⟨#[]⟩), .bool (B q).isSome]) w := by
  have hl := KMap.lookup h (k := 29) (e := 9) (lit := fun q : Nat => .int .u64 (q : Int)) (t := 31) (P := Tryd.prog) Tryd.ukLaw ukKey ukE_inj Tryd.underlying31 (uk_zeroS w) (s := q) hq true
  simp only [if_true] at hl
  cases hB : B q with
  | none => rw [hB] at hl; exact hl
  | some s => rw [hB] at hl; exact hl
theorem BadM.upd (h : BadM w p B) {q : Nat} (hq : q < 2 ^ 64) (s : ByteArray) : ∃ w', (Instr.mapUpdate 31 (.map (some p)) (.int .u64 (q : Int)) (.string s)).run Tryd.prog w = .ok () w' ∧ BadM w' p (upd B q (some s)) ∧ w.grownBy w' (some p) := by
  obtain ⟨w', h1, h2, h3⟩ := KMap.update h (k := 29) (e := 9) (lit := fun q : Nat => .int .u64 (q : Int)) (t := 31) (P := Tryd.prog) Tryd.ukLaw ukKey ukE_inj Tryd.underlying31 (s := q) hq (.string s)
  refine ⟨w', h1, KMap.ext h2 fun x => ?_, h3⟩
  by_cases e : x = q
  · subst e; rw [kset_same, upd_same]; rfl
  · rw [kset_other e, upd_other e]
theorem AkIn.ownMap (h : AkIn base b A CT CR CN w) (hm : ∃ es clock, w.heap[p]? = some (.map es clock)) (h1 : p ≠ b.mt) (h2 : p ≠ b.mr) (h3 : p ≠ b.mo) (hg : w.grownBy w' (some p)) : AkIn base b A CT CR CN w' := by
  obtain ⟨es, clock, hp⟩ := hm
  refine ⟨h.blk.kept hg (fun e => ?_), h.bm, h.bt, h.br, h.bo, h.n1, h.n2, h.n3, h.tm.kept hg (fun e => h1 (Option.some.inj e).symm), h.tv, h.rm.kept hg (fun e => h2 (Option.some.inj e).symm), fun k' => ?_, h.rd, h.nm.kept hg (fun e => h3 (Option.some.inj e).symm), h.nv⟩
  · have hb := h.blk
    unfold Blk at hb
    rw [Option.some.inj e, hp] at hb
    cases hb
  · have hr := h.rv k'
    cases hC' : CR k' with
    | none => rw [hC'] at hr; exact hr
    | some u =>
      rw [hC'] at hr
      refine own_other (v := u) hr hg fun g hgu e2 => ?_
      obtain ⟨_, _, c', fz', hc'⟩ := own_heap hr hgu
      rw [← Option.some.inj e2, hp] at hc'
      cases hc'
theorem grown_base {bs : Nat} (hg : w.grownBy w' (some p)) (hp : bs ≤ p) (hs : bs ≤ w.heap.size) : Below bs w w' :=
  ⟨hg.os, hg.tape, hg.output, hg.size, fun k hk => hg.block k (by omega) (fun e => by have := Option.some.inj e; omega)⟩
theorem AkL.ownMap (h : AkL base b A g n W w) (hm : ∃ es clock, w.heap[p]? = some (.map es clock)) (h1 : p ≠ b.mt) (h2 : p ≠ b.mr) (h3 : p ≠ b.mo) (hp : base ≤ p) (hg : w.grownBy w' (some p)) : AkL base b A g n W w' := by
  have hbl : Below base w w' := grown_base hg hp h.i.hB
  obtain ⟨hok, CT, CR, CN, hin⟩ := h.i
  exact ⟨⟨hok, CT, CR, CN, hin.ownMap hm h1 h2 h3 hg⟩, ⟨(hbl.cell (p := ⟨1, 0, none⟩) h.lg).trans h.g.1, Nat.lt_of_lt_of_le h.g.2 hbl.size⟩, gn_base h.n h.ln hbl, h.lg, h.ln, h.lb, h.k.trans (hbl.mono h.lb)⟩
theorem AkL.maps (h : AkL base b A g n W w) : b.mt < w.heap.size ∧ b.mr < w.heap.size ∧ b.mo < w.heap.size := by
  obtain ⟨_, CT, CR, CN, hin⟩ := h.i
  exact ⟨hin.tm.lt, hin.rm.lt, hin.nm.lt⟩
end
/-- The law's row of ids. -/
structure IntRow (B : Nat) (v : Value) (l : List Int) (w : World) : Prop where
  own : w.ownsRow B 3 1 v l.length (l.map fun x => Value.int .i64 x)
section
variable {B : Nat} {v : Value} {l : List Int} {w w' : World}
theorem IntRow.later (h : IntRow B v l w) (hb : Below w.heap.size w w') : IntRow B v l w' := ⟨own_below h.own hb⟩
theorem IntRow.kept {p : Nat} {c : Array Value} {T : TypeId} (h : IntRow B v l w) (hb : Blk w p c T) (ht : T ≠ 3) (hg : w.grownBy w' (some p)) : IntRow B v l w' := ⟨own_other h.own hg fun g hg' e => row_block h.own hb ht (by rw [hg', e])⟩
theorem IntRow.keptM {p : Nat} (h : IntRow B v l w) (hm : ∃ es clock, w.heap[p]? = some (.map es clock)) (hg : w.grownBy w' (some p)) : IntRow B v l w' := ⟨own_other h.own hg fun g hgu e2 => by
  obtain ⟨_, _, c', fz', hc'⟩ := own_heap h.own hgu
  obtain ⟨es, clock, hp⟩ := hm
  rw [← Option.some.inj e2, hp] at hc'
  cases hc'⟩
theorem IntRow.at {a : Option Addr} {c : Nat} (h : IntRow B (.slice a l.length c) l w) : IntsAt w a l := by
  intro i x hx
  have hlt := (List.getElem?_eq_some_iff.1 hx).1
  obtain ⟨g', cap, hv, _, hl⟩ := row_some h.own (by omega)
  cases hv
  refine ⟨g', 0, rfl, hl, ?_⟩
  rw [Nat.zero_add]
  refine (h.own.cellAt i (by omega)).trans ?_
  rw [List.getElem?_map, hx]; rfl
theorem KeptA.ints {b : AkB} {base : Nat} (hk : KeptA b base w w') (h : IntRow B v l w) : IntRow B v l w' := ⟨hk.own h.own (by decide)⟩
end
/-- Five numbers. -/
abbrev c5 (F : Int → Nat) : Array Value := #[.int .u64 (F 0 : Int), .int .u64 (F 1 : Int), .int .u64 (F 2 : Int), .int .u64 (F 3 : Int), .int .u64 (F 4 : Int)]
theorem c5_get (F : Int → Nat) {j : Nat} (h : j < 5) : (c5 F)[j]? = some (.int .u64 (F (j : Int) : Int)) := by
  have : j = 0 ∨ j = 1 ∨ j = 2 ∨ j = 3 ∨ j = 4 := by omega
  rcases this with rfl | rfl | rfl | rfl | rfl <;> rfl
theorem c5_set (F : Int → Nat) {j : Nat} (h : j < 5) (v : Nat) : (c5 F).setIfInBounds j (.int .u64 (v : Int)) = c5 (upd F (j : Int) v) := by
  have : j = 0 ∨ j = 1 ∨ j = 2 ∨ j = 3 ∨ j = 4 := by omega
  rcases this with rfl | rfl | rfl | rfl | rfl <;> simp [c5, upd]
theorem map_new (w : World) : ∃ w', w.alloc (.map #[] 0) = w' ∧ Below w.heap.size w w' ∧ BadM w' w.heap.size (fun _ => none) := ⟨_, rfl, (Below.refl _ _).alloc (Nat.le_refl _) _, kmap_new _ _ _⟩
/-- What AcksCover holds in memory. -/
structure CvW (base : Nat) (b : AkB) (g n : Addr) (W : World) (R TB MP BB : Nat) (va : Value) (l : List Int) (A : Ak) (F : Int → Nat) (B : Nat → Option ByteArray) (w : World) : Prop where
  k : AkL base b A g n W w
  q : Blk w R #[.int .i64 2, .string ⟨#[107]⟩] 27
  t : Blk w TB (c5 F) 30
  m : BadM w MP B
  r : IntRow BB va l w
  h1 : MP ≠ b.mt
  h2 : MP ≠ b.mr
  h3 : MP ≠ b.mo
  hm : base ≤ MP
  ht : base ≤ TB
section
variable {base : Nat} {b : AkB} {g n : Addr} {W : World} {R TB MP BB : Nat} {va : Value} {l : List Int} {A A' : Ak} {F : Int → Nat} {B : Nat → Option ByteArray} {w w' : World}
theorem CvW.later (h : CvW base b g n W R TB MP BB va l A F B w) (hb : Below w.heap.size w w') : CvW base b g n W R TB MP BB va l A F B w' :=
  ⟨h.k.later hb, h.q.later hb, h.t.later hb, h.m.later hb, h.r.later hb, h.h1, h.h2, h.h3, h.hm, h.ht⟩
theorem CvW.turn (h : CvW base b g n W R TB MP BB va l A F B w) (hl : AkL base b A' g n W w') (hk : KeptA b base w w') : CvW base b g n W R TB MP BB va l A' F B w' :=
  ⟨hl, hk.blk h.q (by decide), hk.blk h.t (by decide), h.m.keptA hk h.h1 h.h2 h.h3, hk.ints h.r, h.h1, h.h2, h.h3, h.hm, h.ht⟩
theorem CvW.set (h : CvW base b g n W R TB MP BB va l A F B w) {j : Nat} (hj : j < 5) (v : Nat) : CvW base b g n W R TB MP BB va l A (upd F (j : Int) v) B (w.setCell ⟨TB, j, none⟩ (.int .u64 (v : Int))) :=
  ⟨h.k.set h.t (by decide) (by decide) h.ht j _, h.q.kept (grown_set w TB j _) (fun e => Blk.ne h.q h.t (by decide) (Option.some.inj e)), by rw [← c5_set F hj]; exact h.t.set j _, h.m.set h.t, h.r.kept h.t (by decide) (grown_set w TB j _), h.h1, h.h2, h.h3, h.hm, h.ht⟩
theorem Blk.notMap {p q : Nat} {c : Array Value} {T : TypeId} (h : Blk w p c T) (hm : ∃ es clock, w.heap[q]? = some (.map es clock)) : p ≠ q := fun e => by
  obtain ⟨es, clock, hq⟩ := hm
  unfold Blk at h
  rw [e, hq] at h
  cases h
theorem CvW.say (h : CvW base b g n W R TB MP BB va l A F B w) {q : Nat} (hq : q < 2 ^ 64) (s : ByteArray) : ∃ w', (Instr.mapUpdate 31 (.map (some MP)) (.int .u64 (q : Int)) (.string s)).run Tryd.prog w = .ok () w' ∧ CvW base b g n W R TB MP BB va l A F (upd B q (some s)) w' ∧ w.grownBy w' (some MP) := by
  obtain ⟨w', e1, e2, e3⟩ := h.m.upd hq s
  exact ⟨w', e1, ⟨h.k.ownMap h.m.is h.h1 h.h2 h.h3 h.hm e3, h.q.kept e3 (fun e => h.q.notMap h.m.is (Option.some.inj e)), h.t.kept e3 (fun e => h.t.notMap h.m.is (Option.some.inj e)), e2, h.r.keptM h.m.is e3, h.h1, h.h2, h.h3, h.hm, h.ht⟩, e3⟩
end
theorem below_drew_left {n : Nat} {w w' : World} (h : Below n w w') : Below n w.drew w' := ⟨h.os, h.tape, h.output, h.size, h.block⟩
structure CvSz (KB ab : Nat) (w : World) : Prop where
  k : KB < w.heap.size
  a : ab < w.heap.size
abbrev CvT (R ab o q : Nat) (f : Bool) (w : World) : Prop := w.cell? ⟨R, 0, none⟩ = some (.int .i64 2) ∧ w.cell? ⟨R, 1, none⟩ = some (.string ⟨#[107]⟩) ∧ w.cell? ⟨ab, o + 3, none⟩ = some (.int .u64 (q : Int)) ∧ w.cell? ⟨ab, o + 4, none⟩ = some (.bool f) ∧ CvSz R ab w
theorem CvT.next {R ab o q : Nat} {f : Bool} {w w' : World} (h : CvT R ab o q f w) (hb : Below w.heap.size w w') : CvT R ab o q f w' :=
  ⟨(hb.cell (p := ⟨R, 0, none⟩) h.2.2.2.2.k).trans h.1, (hb.cell (p := ⟨R, 1, none⟩) h.2.2.2.2.k).trans h.2.1, (hb.cell (p := ⟨ab, _, none⟩) h.2.2.2.2.a).trans h.2.2.1, (hb.cell (p := ⟨ab, _, none⟩) h.2.2.2.2.a).trans h.2.2.2.1, Nat.lt_of_lt_of_le h.2.2.2.2.k hb.size, Nat.lt_of_lt_of_le h.2.2.2.2.a hb.size⟩
theorem CvT.make {R ab o q : Nat} {f : Bool} {w : World} (h : CvT R ab o q f w.drew) (ob : Obj) : CvT R ab o q f (w.alloc ob).drew := h.next (below_drew_left ((Below.refl w.heap.size w).alloc (Nat.le_refl _) ob).drew)
abbrev CvU (ab o SB : Nat) (us : ByteArray) (w : World) : Prop := w.cell? ⟨ab, o, none⟩ = some (.string us) ∧ CvSz SB ab w
theorem CvU.set {ab o SB : Nat} {us : ByteArray} {w : World} (h : CvU ab o SB us w.drew) (hne : ab ≠ SB) (j : Nat) (v : Value) : CvU ab o SB us (w.setCell ⟨SB, j, none⟩ v).drew := by
  have hg := grown_set w SB j v
  have ha : ab < w.heap.size := h.2.a
  have hk : SB < w.heap.size := h.2.k
  have : (w.setCell ⟨SB, j, none⟩ v).heap[ab]? = w.heap[ab]? := hg.block ab ha (fun e => hne (Option.some.inj e))
  exact ⟨(World.cell?_of_block (a := ⟨ab, o, none⟩) this).trans h.1, ⟨Nat.lt_of_lt_of_le hk hg.size, Nat.lt_of_lt_of_le ha hg.size⟩⟩
/-- What AcksCover has heard. -/
structure CvP (A : Ak) (F : Int → Nat) (RR : List Bd) (B : Nat → Option ByteArray) (v : Nat) : Prop where
  c : CovA A (2, nm1 107) F RR v
  r : RefC B RR
  f : ∀ j, F j ≤ 12
  b : ∀ q s, B q = some s → 1 ≤ s.size ∧ s.size ≤ 10
theorem cvp_zero : CvP Ak.zero (fun _ => 0) [] (fun _ => none) 0 := ⟨.inl ⟨rfl, rfl, rfl, rfl⟩, refc_zero, fun _ => Nat.zero_le _, fun q s h => (by cases h)⟩
theorem CvP.take {A : Ak} {F : Int → Nat} {RR : List Bd} {B : Nat → Option ByteArray} {v : Nat} (h : CvP A F RR B v) (i : Int) {q : Nat} (hq : q ≤ 12) : CvP (A.put (2, nm1 107) i q true ⟨#[]⟩) (upd F i (max (F i) q)) RR B v :=
  ⟨h.c.take i q, h.r, fun j => by
    by_cases e : j = i
    · subst e; rw [upd_same]; have := h.f j; omega
    · rw [upd_other e]; exact h.f j, h.b⟩
theorem CvP.refuse {A : Ak} {F : Int → Nat} {RR : List Bd} {B : Nat → Option ByteArray} {v : Nat} (h : CvP A F RR B v) (i : Int) {q : Nat} {s : ByteArray} (hq : q ≤ 12) (hs : 1 ≤ s.size ∧ s.size ≤ 10) : CvP (A.put (2, nm1 107) i q false s) F (bdIns q s RR) (addB B q s) v :=
  ⟨h.c.refuse i q s, refc_step h.r (by omega), h.f, fun x t hx => by
    unfold addB at hx
    split at hx
    · exact h.b x t hx
    · by_cases e : x = q
      · subst e; rw [upd_same] at hx; injection hx with hx; subst hx; exact hs
      · rw [upd_other e] at hx; exact h.b x t hx⟩
/-- What is told, and what comes out. -/
theorem CvP.told {A : Ak} {F : Int → Nat} {RR : List Bd} {B : Nat → Option ByteArray} {v q : Nat} {j : Int} {f : Bool} {s : ByteArray} (h : CvP (A.put (2, nm1 107) j q f s) F RR B v) (l : List Int) : CvP ((A.put (2, nm1 107) j q f s).ready (2, nm1 107) l) F (bdTell RR) B (if v < leastL F l then leastL F l else v) :=
  ⟨.inr (h.c.one.ready l), refc_tell h.r, h.f, h.b⟩
theorem cv_least {F : Int → Nat} (h : ∀ j, F j ≤ 12) (l : List Int) : leastL F l ≤ 12 := by
  cases l with
  | nil => exact Nat.zero_le _
  | cons a r =>
    have h1 := leastL_all (f := F) (l := a :: r) (x := a) (by simp)
    have h2 := h a
    omega
theorem cv_len {A : Ak} {F : Int → Nat} {RR : List Bd} {B : Nat → Option ByteArray} {v q : Nat} {j : Int} {f : Bool} {s : ByteArray} (h : CvP (A.put (2, nm1 107) j q f s) F RR B v) (l : List Int) : ((A.put (2, nm1 107) j q f s).out (2, nm1 107) l).length = (bdOut (2, nm1 107) RR).length + if v < leastL F l then 1 else 0 := by
  rw [h.c.one.out l, List.length_append]
  split <;> rfl
theorem cv_out {A : Ak} {F : Int → Nat} {RR : List Bd} {B : Nat → Option ByteArray} {v q : Nat} {j : Int} {f : Bool} {s : ByteArray} (h : CvP (A.put (2, nm1 107) j q f s) F RR B v) (l : List Int) {i : Nat} {r : St} (hi : ((A.put (2, nm1 107) j q f s).out (2, nm1 107) l)[i]? = some r) :
    (i < (bdOut (2, nm1 107) RR).length ∧ r.t = 2 ∧ r.x = nm1 107 ∧ r.f = false ∧ B r.q = some r.s ∧ r.q < 2 ^ 64 ∧ 1 ≤ r.s.size ∧ r.s.size ≤ 10) ∨ (i = (bdOut (2, nm1 107) RR).length ∧ r = ⟨2, nm1 107, leastL F l, true, ⟨#[]⟩⟩ ∧ v < leastL F l) := by
  rw [h.c.one.out l] at hi
  by_cases hlt : i < (bdOut (2, nm1 107) RR).length
  · rw [List.getElem?_append_left hlt] at hi
    obtain ⟨h1, h2, h3, h4, h5⟩ := refc_out h.r (List.mem_of_getElem? hi)
    have h6 := h.b _ _ h4
    exact .inl ⟨hlt, h2, h3, h1, h4, h5, h6.1, h6.2⟩
  · rw [List.getElem?_append_right (by omega)] at hi
    by_cases hv : v < leastL F l
    · rw [if_pos hv] at hi
      have hl := (List.getElem?_eq_some_iff.1 hi).1
      have h0 : i - (bdOut (2, nm1 107) RR).length = 0 := by simp at hl; omega
      rw [h0] at hi
      injection hi with hi
      exact .inr ⟨by omega, hi.symm, hv⟩
    · rw [if_neg hv] at hi; cases hi
theorem ne_empty {s : ByteArray} (h : 1 ≤ s.size) : s.toList.isEmpty = false := by
  rw [ByteArray.toList_eq]
  cases hs : s.data.toList with
  | nil =>
    exfalso
    have h0 : s.size = 0 := by show s.data.size = 0; rw [← Array.length_toList, hs]; rfl
    omega
  | cons _ _ => rfl
theorem leastL_pos {F : Int → Nat} {l : List Int} (h : 0 < leastL F l) : 0 < l.length := by
  cases l with
  | nil => exact absurd h (Nat.lt_irrefl 0)
  | cons a r => simp
end Go.Proofs.YtogkdekjcbljnaaDoor
