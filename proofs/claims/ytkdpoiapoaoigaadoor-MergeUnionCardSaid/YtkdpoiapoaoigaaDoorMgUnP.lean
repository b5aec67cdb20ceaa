/- merge: what Union says (plain); an array of sets; stores into it. -/
import Derived.Test.YtkdpoiapoaoigaaDoorMgAgP
import Derived.Test.YtkdpoiapoaoigaaDoorNmSame
import Derived.Test.YtkdpoiapoaoigaaDoorMgEx
namespace Go.Proofs.YtkdpoiapoaoigaaDoor
open Go.RowKit Go.Lib

/-- Six of them want something of type 3. -/
structure UnW (W : Wants) : Prop where
  ok : WOk W
  few : ∀ n : Nat, FewS (W n 3)
  far : ∀ i k, ¬ ((1 ≤ i ∧ i ≤ 6) ∧ k = 3) → W i k = Ns.zero
def six (g : Nat → Ns) : List Ns := [g 1, g 2, g 3, g 4, g 5, g 6]
/-- What each wants. -/
def wg (W : Wants) : Nat → Ns := fun n => W n 3
theorem un_zero : UnW W0 := ⟨w0_ok, fun _ => few_zero, fun _ _ _ => rfl⟩
theorem un_set {W : Wants} {s : Ns} {i : Nat} (h : UnW W) (hs : FewS s) (h1 : 1 ≤ i) (h6 : i ≤ 6) : UnW (wset W i 3 s) := by
  refine ⟨wset_ok h.ok hs.r (badI_no.2 (by omega)), fun n => ?_, fun j k hj => ?_⟩
  · unfold wset; split
    · exact hs
    · exact h.few n
  · have : ¬ (j = (i : Int) ∧ k = 3) := by rintro ⟨rfl, rfl⟩; exact hj (by omega)
    show (if j = (i : Int) ∧ k = 3 then s else W j k) = _
    rw [if_neg this]
    exact h.far j k hj
theorem mem_six {g : Nat → Ns} {s : Ns} : s ∈ six g ↔ ∃ n : Nat, (1 ≤ n ∧ n ≤ 6) ∧ g n = s := by
  unfold six
  constructor
  · intro h
    simp only [List.mem_cons, List.not_mem_nil, or_false] at h
    rcases h with rfl | rfl | rfl | rfl | rfl | rfl
    · exact ⟨1, by omega, rfl⟩
    · exact ⟨2, by omega, rfl⟩
    · exact ⟨3, by omega, rfl⟩
    · exact ⟨4, by omega, rfl⟩
    · exact ⟨5, by omega, rfl⟩
    · exact ⟨6, by omega, rfl⟩
  · rintro ⟨n, hn, rfl⟩
    match n, hn with
    | 1, _ | 2, _ | 3, _ | 4, _ | 5, _ | 6, _ => simp
    | 0, h => omega
    | n + 7, h => omega
theorem six_r {W : Wants} (h : UnW W) : ∀ s ∈ six (wg W), NsR s := fun s hs => by
  obtain ⟨n, _, rfl⟩ := mem_six.1 hs
  exact (h.few n).r
theorem un_u {W : Wants} (h : UnW W) : uni W 3 = nUnion (six (wg W)) := by
  refine uni_eq h.ok (nsr_union (six_r h)) fun x => ?_
  rw [mem_unionL]
  constructor
  · rintro ⟨i, _, hx⟩
    by_cases hi : 1 ≤ i ∧ i ≤ 6
    · obtain ⟨n, rfl⟩ := Int.eq_ofNat_of_zero_le (show 0 ≤ i by omega)
      exact ⟨_, mem_six.2 ⟨n, by omega, rfl⟩, hx⟩
    · rw [h.far i 3 (fun e => hi e.1)] at hx
      cases hx
  · rintro ⟨s, hs, hx⟩
    obtain ⟨n, hn, rfl⟩ := mem_six.1 hs
    exact ⟨n, mem_ids.2 (by omega), hx⟩
theorem un_u2 {W : Wants} (h : UnW W) : uni W 2 = Ns.zero := by
  refine uni_eq h.ok nsr_zero fun x => ⟨fun ⟨i, _, hx⟩ => ?_, fun hx => (by cases hx)⟩
  rw [h.far i 2 (fun e => absurd e.2 (by decide))] at hx
  exact hx
theorem six_fit {W : Wants} (h : UnW W) : NssFit (six (wg W)) := ⟨fun s hs x hx => by
    obtain ⟨n, _, rfl⟩ := mem_six.1 hs
    exact (h.few n).fit.1 x hx, by
    unfold six wg
    simp only [List.flatMap_cons, List.flatMap_nil, List.append_nil, List.length_append]
    have := (h.few 1).n; have := (h.few 2).n; have := (h.few 3).n; have := (h.few 4).n; have := (h.few 5).n; have := (h.few 6).n
    omega, by show (6 : Nat) ≤ 1000000; omega⟩
theorem un_mid {W : Wants} (h : UnW W) : MidS (uni W 3) ∧ (nList (uni W 3)).length ≤ 64 := by
  have hl : (nList (uni W 3)).length ≤ 64 := by
    rw [un_u h]
    refine Nat.le_trans (union_len _) ?_
    unfold six wg
    simp only [List.flatMap_cons, List.flatMap_nil, List.append_nil, List.length_append]
    have := (h.few 1).n; have := (h.few 2).n; have := (h.few 3).n; have := (h.few 4).n; have := (h.few 5).n; have := (h.few 6).n
    omega
  refine ⟨⟨nsr_uni h.ok 3, Nat.le_trans (list_ns _) hl, fun x hx => ?_⟩, hl⟩
  obtain ⟨i, _, hx⟩ := (mem_uni W 3 x).1 hx
  by_cases hi : 1 ≤ i ∧ i ≤ 6
  · obtain ⟨n, rfl⟩ := Int.eq_ofNat_of_zero_le (show 0 ≤ i by omega)
    exact (h.few n).l x hx
  · rw [h.far i 3 (fun e => hi e.1)] at hx
    cases hx
theorem un_E {W : Wants} {s : Ns} {i : Nat} (h : UnW W) (hs : FewS s) (h1 : 1 ≤ i) (h6 : i ≤ 6) :
    setE W i 3 s = 0 ∧ setW W i 3 s = wset W i 3 s ∧ setM W i 3 s = nLess (uni (wset W i 3 s) 3) (uni W 3) ∧ setL W i 3 s = nLess (uni W 3) (uni (wset W i 3 s) 3) :=
  setE_ok (badI_no.2 (by omega)) (by have := hs.len; omega) (un_mid (un_set h hs h1 h6)).2
theorem un_at {a b : Ns} (hb : NsR b) : nLess (nUnion [a, nLess b a]) (nLess a b) = b := by
  refine ns_eq ?_ (rises_eq (srt_rises _) hb.ok fun x => ?_)
  · show ((a.all || ((b.all && !a.all) || false)) && !(a.all && !b.all)) = b.all
    cases a.all <;> cases b.all <;> rfl
  · show x ∈ (nLess (nUnion [a, nLess b a]) (nLess a b)).ns ↔ _
    rw [mem_less, mem_union2, mem_less, mem_less]
    by_cases h1 : x ∈ a.ns <;> by_cases h2 : x ∈ b.ns <;> simp [h1, h2]
theorem un_tfit {a b : Ns} (ha : MidS a) (hb : MidS b) : NmFit (nUnion [a, nLess b a]).ns := by
  refine list_fit ?_ fun x hx => ?_
  · have h1 := union_len [a, nLess b a]
    have h2 := list_ns (nUnion [a, nLess b a])
    simp only [List.flatMap_cons, List.flatMap_nil, List.append_nil, List.length_append] at h1
    have := ha.n; have := (mid_less (b := a) hb).n
    omega
  · rcases (mem_union2 a (nLess b a) x).1 hx with h | h
    · have := ha.l x h; omega
    · have := (mid_less (b := a) hb).l x h; omega
theorem fit_two {a b : Ns} (ha : MidS a) (hb : MidS b) : NssFit [a, b] := ⟨fun s hs x hx' => by
    rcases List.mem_cons.1 hs with rfl | hs
    · exact ha.fit.1 x hx'
    · obtain rfl := List.mem_singleton.1 hs; exact hb.fit.1 x hx', by
    simp only [List.flatMap_cons, List.flatMap_nil, List.append_nil, List.length_append]
    have := ha.n; have := hb.n
    omega, by show (2 : Nat) ≤ 1000000; omega⟩

/-- How many of the first have it. -/
def hcN (g : Nat → Ns) (x : List UInt8) : Nat → Nat
  | 0 => 0
  | j + 1 => hcN g x j + if nHas okN (g (j + 1)) x then 1 else 0
theorem hc_le (g : Nat → Ns) (x : List UInt8) : ∀ j, hcN g x j ≤ j
  | 0 => Nat.le_refl _
  | j + 1 => by have := hc_le g x j; unfold hcN; split <;> omega
theorem who_hc (W : Wants) (x : List UInt8) : ∀ n, (whoL W 3 x n).length = hcN (wg W) x n
  | 0 => rfl
  | n + 1 => by
    rw [whoL_next, List.length_append, who_hc W x n]
    show _ = hcN (wg W) x n + if nHas okN (W ((n : Int) + 1) 3) x then 1 else 0
    cases nHas okN (W ((n : Int) + 1) 3) x <;> rfl
theorem hc_far {W : Wants} (h : UnW W) (x : List UInt8) : ∀ d, hcN (wg W) x (6 + d) = hcN (wg W) x 6
  | 0 => rfl
  | d + 1 => by
    show hcN (wg W) x (6 + d) + (if nHas okN (wg W (6 + d + 1)) x then 1 else 0) = _
    rw [hc_far h x d, show wg W (6 + d + 1) = Ns.zero from h.far _ _ (by omega)]
    have : nHas okN Ns.zero x = false := by
      show (okN x && (false || [].contains x)) = false
      simp
    rw [this]; rfl
theorem un_who {W : Wants} (h : UnW W) (x : List UInt8) : (whoL W 3 x 32).length = hcN (wg W) x 6 := (who_hc W x 32).trans (hc_far h x 26)

/-- Seven sets' cells. -/
def wantV (g : Nat → Ns) (f : Nat → Option Addr × Nat) : Array Value := #[.bool (g 0).all, .slice (f 0).1 (g 0).ns.length (f 0).2, .bool (g 1).all, .slice (f 1).1 (g 1).ns.length (f 1).2, .bool (g 2).all, .slice (f 2).1 (g 2).ns.length (f 2).2, .bool (g 3).all, .slice (f 3).1 (g 3).ns.length (f 3).2, .bool (g 4).all, .slice (f 4).1 (g 4).ns.length (f 4).2, .bool (g 5).all, .slice (f 5).1 (g 5).ns.length (f 5).2, .bool (g 6).all, .slice (f 6).1 (g 6).ns.length (f 6).2]
def sixV (g : Nat → Ns) (f : Nat → Option Addr × Nat) : Array Value := #[.bool (g 1).all, .slice (f 1).1 (g 1).ns.length (f 1).2, .bool (g 2).all, .slice (f 2).1 (g 2).ns.length (f 2).2, .bool (g 3).all, .slice (f 3).1 (g 3).ns.length (f 3).2, .bool (g 4).all, .slice (f 4).1 (g 4).ns.length (f 4).2, .bool (g 5).all, .slice (f 5).1 (g 5).ns.length (f 5).2, .bool (g 6).all, .slice (f 6).1 (g 6).ns.length (f 6).2]
/-- One thing changed. -/
def putN {α : Type} (f : Nat → α) (i : Nat) (u : α) : Nat → α := fun j => if j = i then u else f j
theorem put_here {α : Type} (f : Nat → α) (i : Nat) (u : α) : putN f i u i = u := if_pos rfl
theorem put_else {α : Type} (f : Nat → α) {i j : Nat} (u : α) (h : j ≠ i) : putN f i u j = f j := if_neg h
theorem wantV_set (g : Nat → Ns) (f : Nat → Option Addr × Nat) {i : Nat} (hi : i ≤ 6) (s : Ns) (o : Option Addr) (c : Nat) :
    ((wantV g f).setIfInBounds (i * 2) (.bool s.all)).setIfInBounds (i * 2 + 1) (.slice o s.ns.length c) = wantV (putN g i s) (putN f i (o, c)) := by
  match i, hi with
  | 0, _ | 1, _ | 2, _ | 3, _ | 4, _ | 5, _ | 6, _ => rfl
  | i + 7, h => omega
theorem wg_set (W : Wants) (i : Nat) (s : Ns) : wg (wset W i 3 s) = putN (wg W) i s := by
  funext n
  unfold putN
  by_cases h : n = i
  · subst h; rw [if_pos rfl]; exact wset_same _ _ _ _
  · rw [if_neg h]; exact wset_id (by omega)
structure WantAt (w : World) (R : Nat) (g : Nat → Ns) (f : Nat → Option Addr × Nat) : Prop where
  q : Blk w R (wantV g f) 29
  t : ∀ n, TsAt w (.slice (f n).1 (g n).ns.length (f n).2) (g n).ns
theorem WantAt.later {w w' : World} {R : Nat} {g : Nat → Ns} {f : Nat → Option Addr × Nat} (h : WantAt w R g f) (hb : Below w.heap.size w w') : WantAt w' R g f := ⟨h.q.later hb, fun n => (h.t n).later hb⟩
theorem WantAt.kept {B : Nat} {w w' : World} {R : Nat} {g : Nat → Ns} {f : Nat → Option Addr × Nat} (h : WantAt w R g f) (hb : KeptM B w w') : WantAt w' R g f := ⟨hb.blk h.q, fun n => hb.ts (h.t n)⟩
theorem WantAt.c0 {w : World} {R : Nat} {g : Nat → Ns} {f : Nat → Option Addr × Nat} (h : WantAt w R g f) {n : Nat} (hn : n ≤ 6) : w.cell? ⟨R, n * 2, none⟩ = some (.bool (g n).all) := by
  refine (h.q.cell _).trans ?_
  match n, hn with
  | 0, _ | 1, _ | 2, _ | 3, _ | 4, _ | 5, _ | 6, _ => rfl
  | i + 7, h => omega
theorem WantAt.c1 {w : World} {R : Nat} {g : Nat → Ns} {f : Nat → Option Addr × Nat} (h : WantAt w R g f) {n : Nat} (hn : n ≤ 6) : w.cell? ⟨R, n * 2 + 1, none⟩ = some (.slice (f n).1 (g n).ns.length (f n).2) := by
  refine (h.q.cell _).trans ?_
  match n, hn with
  | 0, _ | 1, _ | 2, _ | 3, _ | 4, _ | 5, _ | 6, _ => rfl
  | i + 7, h => omega
theorem mk_sets6 {w : World} {B : Nat} {g : Nat → Ns} {f : Nat → Option Addr × Nat} {t : TypeId} (hb : Blk w B (sixV g f) t) (h : ∀ n, TsAt w (.slice (f n).1 (g n).ns.length (f n).2) (g n).ns) : SetsAt w (some ⟨B, 0, none⟩) (six g) := by
  intro i s hi
  match i with
  | 0 =>
    obtain rfl := Option.some.inj hi
    exact ⟨B, 0, _, _, rfl, hb.lt, hb.cell 0, hb.cell 1, h 1⟩
  | 1 =>
    obtain rfl := Option.some.inj hi
    exact ⟨B, 0, _, _, rfl, hb.lt, hb.cell 2, hb.cell 3, h 2⟩
  | 2 =>
    obtain rfl := Option.some.inj hi
    exact ⟨B, 0, _, _, rfl, hb.lt, hb.cell 4, hb.cell 5, h 3⟩
  | 3 =>
    obtain rfl := Option.some.inj hi
    exact ⟨B, 0, _, _, rfl, hb.lt, hb.cell 6, hb.cell 7, h 4⟩
  | 4 =>
    obtain rfl := Option.some.inj hi
    exact ⟨B, 0, _, _, rfl, hb.lt, hb.cell 8, hb.cell 9, h 5⟩
  | 5 =>
    obtain rfl := Option.some.inj hi
    exact ⟨B, 0, _, _, rfl, hb.lt, hb.cell 10, hb.cell 11, h 6⟩
  | i + 6 => simp [six] at hi

theorem grown_setc (w : World) (R o o' : Nat) (u0 u1 : Value) : w.grownBy ((w.setCell ⟨R, o, none⟩ u0).setCell ⟨R, o', none⟩ u1) (some R) :=
  (grown_set w R o u0).andThen (grown_set _ R o' u1) (fun _ hj => .inr hj)
theorem TsAt.setc {w : World} {v : Value} {l : List (List UInt8)} (h : TsAt w v l) {R o : Nat} {b0 : Bool} {a1 : Option Addr} {n1 c1 : Nat} (u0 u1 : Value) (h0 : w.cell? ⟨R, o, none⟩ = some (.bool b0)) (h1 : w.cell? ⟨R, o + 1, none⟩ = some (.slice a1 n1 c1)) :
    TsAt ((w.setCell ⟨R, o, none⟩ u0).setCell ⟨R, o + 1, none⟩ u1) v l :=
  (h.set u0 h0 (fun s e => by cases e)).set u1 ((World.cell?_setCell_other _ _ _ _ (by simp)).trans h1) (fun s e => by cases e)
theorem MgIs.setc {base m R o : Nat} {W : Wants} {w : World} {c : Array Value} {b0 : Bool} {a0 : Option Addr} {n0 c0 : Nat} {t : TypeId} (h : MgIs base m W w) (hR : Blk w R c t) (ht : t ≠ 59) (u0 u1 : Value) (r0 : w.cell? ⟨R, o, none⟩ = some (.bool b0)) (r1 : w.cell? ⟨R, o + 1, none⟩ = some (.slice a0 n0 c0)) :
    MgIs base m W ((w.setCell ⟨R, o, none⟩ u0).setCell ⟨R, o + 1, none⟩ u1) := by
  obtain ⟨g1, g2, mw, mc, C, D, h⟩ := h
  have hg := grown_setc w R o (o + 1) u0 u1
  refine ⟨g1, g2, mw, mc, C, D, h.blk.kept hg (fun e => ?_), h.bm, h.bw, h.bc, h.ne, h.wm.kept hg (blk_map hR h.wm), fun i k => ?_, h.cm.kept hg (blk_map hR h.cm), fun k => (h.cv k).blk hR hg, h.cn⟩
  · obtain rfl := Option.some.inj e
    have h1 := h.blk
    unfold Blk at h1 hR
    rw [h1] at hR
    injection hR with hR
    injection hR with _ hR
    exact ht hR.symm
  · have := h.wv i k
    cases ho : C (i, k) with
    | none => rw [ho] at this; exact this
    | some v => rw [ho] at this; obtain ⟨a, c, e, ht⟩ := this; exact ⟨a, c, e, ht.setc u0 u1 r0 r1⟩
theorem KeptM.setc {B R o o' : Nat} {w0 w : World} (h : KeptM B w0 w) (hR : w0.heap.size ≤ R) (u0 u1 : Value) : KeptM B w0 ((w.setCell ⟨R, o, none⟩ u0).setCell ⟨R, o', none⟩ u1) := by
  have hg := grown_setc w R o o' u0 u1
  exact ⟨hg.os.trans h.os, hg.tape.trans h.tape, hg.output.trans h.output, Nat.le_trans h.size hg.size, fun k hk hn => (hg.block k (Nat.lt_of_lt_of_le hk h.size) (fun e => by have := Option.some.inj e; omega)).trans (h.block k hk hn)⟩
theorem Blk.setc {w : World} {B R o o' : Nat} {c : Array Value} {t : TypeId} (h : Blk w B c t) (hne : B ≠ R) (u0 u1 : Value) : Blk ((w.setCell ⟨R, o, none⟩ u0).setCell ⟨R, o', none⟩ u1) B c t :=
  h.kept (grown_setc w R o o' u0 u1) (fun e => hne (Option.some.inj e))
/-- A set is put into the array. -/
theorem WantAt.put {w : World} {R : Nat} {g : Nat → Ns} {f : Nat → Option Addr × Nat} (h : WantAt w R g f) {i : Nat} (hi : i ≤ 6) {s : Ns} {o : Option Addr} {c : Nat} (ht : TsAt w (.slice o s.ns.length c) s.ns) :
    WantAt ((w.setCell ⟨R, i * 2, none⟩ (.bool s.all)).setCell ⟨R, i * 2 + 1, none⟩ (.slice o s.ns.length c)) R (putN g i s) (putN f i (o, c)) := by
  have c0 := h.c0 hi
  have c1 := h.c1 hi
  refine ⟨?_, fun n => ?_⟩
  · rw [← wantV_set g f hi]
    exact (h.q.set _ _).set _ _
  · by_cases hn : n = i
    · subst hn
      rw [put_here, put_here]
      exact ht.setc _ _ c0 c1
    · rw [put_else _ _ hn, put_else _ _ hn]
      exact (h.t n).setc _ _ c0 c1
/-- The box of a set is stored into: the array stays. -/
theorem WantAt.box {w : World} {R R' : Nat} {g : Nat → Ns} {f : Nat → Option Addr × Nat} {b0 : Bool} {a0 : Option Addr} {n0 c0 : Nat} (h : WantAt w R g f) (hR : Blk w R' #[.bool b0, .slice a0 n0 c0] 28) (u0 u1 : Value) : WantAt ((w.setCell ⟨R', 0, none⟩ u0).setCell ⟨R', 1, none⟩ u1) R g f := by
  refine ⟨h.q.setc (fun e => ?_) _ _, fun n => (h.t n).set2 u0 u1 (hR.cell 0) (hR.cell 1)⟩
  subst e
  have h1 := h.q
  unfold Blk at h1 hR
  rw [h1] at hR
  injection hR with hR
  injection hR with _ hR
  exact absurd hR (by decide)
theorem WantAt.zero {w : World} {R : Nat} (h : Blk w R #[.bool false, .slice none 0 0, .bool false, .slice none 0 0, .bool false, .slice none 0 0, .bool false, .slice none 0 0, .bool false, .slice none 0 0, .bool false, .slice none 0 0, .bool false, .slice none 0 0] 29) : WantAt w R (wg W0) (fun _ => (none, 0)) :=
  ⟨h, fun _ => RowV.nil w none 0 (by unfold maxLen; omega)⟩
end Go.Proofs.YtkdpoiapoaoigaaDoor
