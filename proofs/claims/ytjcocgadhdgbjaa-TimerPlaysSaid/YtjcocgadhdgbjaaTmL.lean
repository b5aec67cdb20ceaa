/- timer: timers as a list, in the order in which they were set; plain. -/
import Derived.Test.YtjcocgadhdgbjaaTmGet
namespace Go.Proofs.Ytjcocgadhdgbjaa
open Go.RowKit

abbrev Tm := List UInt8 × Nat
def En.tm (e : En) : Tm := (e.id, e.t)
/-- The one that falls due first. -/
def nextL : List Tm → Option Tm
  | [] => none
  | x :: r => match nextL r with
    | none => some x
    | some y => if y.2 < x.2 then some y else some x
def nextE : List En → Option En
  | [] => none
  | x :: r => match nextE r with
    | none => some x
    | some y => if y.t < x.t then some y else some x
def dropL (L : List Tm) (id : List UInt8) : List Tm := L.filter (fun x => x.1 != id)
def atL (L : List Tm) (id : List UInt8) : Option Nat := (L.find? (fun x => x.1 == id)).map (·.2)
theorem nextL_map (L : List En) : nextL (L.map En.tm) = (nextE L).map En.tm := by
  induction L with
  | nil => rfl
  | cons x r ih =>
    simp only [List.map_cons, nextL, nextE, ih]
    cases nextE r with
    | none => rfl
    | some y =>
      by_cases h : y.t < x.t
      · simp [En.tm, h]
      · simp [En.tm, h]
theorem nextE_some : ∀ (L : List En), L.Pairwise (fun a b => a.k < b.k) → L ≠ [] → ∃ e, nextE L = some e ∧ e ∈ L ∧ ∀ y ∈ L, En.le e y := by
  intro L
  induction L with
  | nil => intro _ h; exact absurd rfl h
  | cons x r ih =>
    intro hp _
    rw [List.pairwise_cons] at hp
    by_cases hr : r = []
    · subst hr; exact ⟨x, rfl, by simp, by simp [En.le_refl]⟩
    · obtain ⟨y, h1, h2, h3⟩ := ih hp.2 hr
      simp only [nextE, h1]
      by_cases hlt : y.t < x.t
      · rw [if_pos hlt]
        refine ⟨y, rfl, List.mem_cons_of_mem _ h2, fun z hz => ?_⟩
        rcases List.mem_cons.1 hz with rfl | hz
        · exact En.le_of_lt (.inl hlt)
        · exact h3 z hz
      · rw [if_neg hlt]
        have hxy : En.le x y := by have := hp.1 y h2; unfold En.le En.lt; omega
        refine ⟨x, rfl, by simp, fun z hz => ?_⟩
        rcases List.mem_cons.1 hz with rfl | hz
        · exact En.le_refl _
        · exact En.le_trans hxy (h3 z hz)
theorem nodup_k {L : List En} (hp : L.Pairwise (fun a b => a.k < b.k)) {a b : En} (ha : a ∈ L) (hb : b ∈ L) (e : a.k = b.k) : a = b := by
  induction L with
  | nil => simp at ha
  | cons x r ih =>
    rw [List.pairwise_cons] at hp
    rcases List.mem_cons.1 ha with ea | ha' <;> rcases List.mem_cons.1 hb with eb | hb'
    · exact ea.trans eb.symm
    · have := hp.1 b hb'; rw [← ea] at this; omega
    · have := hp.1 a ha'; rw [← eb] at this; omega
    · exact ih hp.2 ha' hb'
theorem mem_gt {h : List En} {y : En} (hy : y ∈ h) : ∃ i, i < h.length ∧ gt h i = y := by
  obtain ⟨i, hi⟩ := List.getElem?_of_mem hy
  have hl := (List.getElem?_eq_some_iff.1 hi).1
  rw [gt_some hl] at hi
  exact ⟨i, hl, Option.some.inj hi⟩
/-- The heap's first one is the list's next. -/
theorem heap_next {h LE : List En} (hp : Hp h.length h) (hperm : h.Perm LE) (hs : LE.Pairwise (fun a b => a.k < b.k)) (hn : 0 < h.length) : nextE LE = some (gt h 0) := by
  obtain ⟨e, h1, h2, h3⟩ := nextE_some LE hs (fun e => by subst e; have := hperm.length_eq; rw [List.length_nil] at this; omega)
  have hm : gt h 0 ∈ LE := hperm.mem_iff.1 (List.mem_of_getElem? (gt_some hn))
  have a1 := h3 _ hm
  obtain ⟨i, hi, rfl⟩ := mem_gt (hperm.mem_iff.2 h2)
  have a2 := hp_min hp i hi
  rw [h1]
  congr 1
  refine nodup_k hs h2 hm ?_
  unfold En.le En.lt at a1 a2
  omega
/-- One taken out of the heap: the list without its id. -/
theorem perm_drop {h2 LE : List En} {e : En} (hperm : (h2 ++ [e]).Perm LE) (hn : (LE.map En.id).Nodup) : h2.Perm (LE.filter (fun x => x.id != e.id)) := by
  have hf := hperm.filter (fun x => x.id != e.id)
  have hn' := (hperm.map En.id).nodup_iff.2 hn
  rw [List.map_append, List.nodup_append] at hn'
  have : (h2 ++ [e]).filter (fun x => x.id != e.id) = h2 := by
    rw [List.filter_append, List.filter_eq_self.2 (fun x hx => by
      have := hn'.2.2 x.id (List.mem_map.2 ⟨x, hx, rfl⟩) e.id (by simp)
      simpa using this)]
    simp
  rw [this] at hf
  exact hf
theorem map_drop (LE : List En) (id : List UInt8) : (LE.filter (fun x => x.id != id)).map En.tm = dropL (LE.map En.tm) id := by
  unfold dropL
  rw [List.filter_map]; rfl
theorem drop_none {LE : List En} {id : List UInt8} (h : ∀ e ∈ LE, e.id ≠ id) : dropL (LE.map En.tm) id = LE.map En.tm := by
  unfold dropL
  refine List.filter_eq_self.2 fun x hx => ?_
  obtain ⟨e, he, rfl⟩ := List.mem_map.1 hx
  have := h e he
  simpa [En.tm] using this
theorem atL_none {LE : List En} {id : List UInt8} (h : ∀ e ∈ LE, e.id ≠ id) : atL (LE.map En.tm) id = none := by
  unfold atL
  have : (LE.map En.tm).find? (fun x => x.1 == id) = none := by
    rw [List.find?_eq_none]
    intro x hx
    obtain ⟨e, he, rfl⟩ := List.mem_map.1 hx
    have := h e he
    simpa [En.tm] using this
  rw [this]; rfl
theorem atL_some {LE : List En} {e : En} (hn : (LE.map En.id).Nodup) (he : e ∈ LE) : atL (LE.map En.tm) e.id = some e.t := by
  unfold atL
  induction LE with
  | nil => simp at he
  | cons x r ih =>
    rw [List.map_cons, List.nodup_cons] at hn
    rw [List.map_cons, List.find?_cons]
    by_cases hx : x.id = e.id
    · have : x = e := by
        rcases List.mem_cons.1 he with rfl | h
        · rfl
        · exact absurd (List.mem_map.2 ⟨e, h, hx.symm⟩) hn.1
      subst this
      simp [En.tm]
    · have hb : ((En.tm x).1 == e.id) = false := by simpa [En.tm] using hx
      rw [hb]
      rcases List.mem_cons.1 he with rfl | h
      · exact absurd rfl hx
      · exact ih hn.2 h

/-- Timers in block t, over the blocks F: L, in the order in which they were set; at most N were set so far. -/
def TmAt (base t : Nat) (F : Nat → Prop) (N : Nat) (L : List Tm) (w : World) : Prop :=
  ∃ (p m : Nat) (v : Value) (h : List En) (T : Nat) (LE : List En), Blk w t #[.iface 52 (.pointer (some ⟨p, 0, none⟩)), .int .u64 (T : Int)] 60 ∧ HeapAt base p m v h w ∧ h.Perm LE ∧ LE.map En.tm = L ∧ LE.Pairwise (fun a b => a.k < b.k) ∧
    (∀ e ∈ LE, e.k < T) ∧ T ≤ N ∧ (∀ k, F k ↔ (k = t ∨ Foot p m v k)) ∧ base ≤ t ∧ L.length ≤ 1024
theorem TmAt.low {base t N : Nat} {F : Nat → Prop} {L : List Tm} {w : World} (h : TmAt base t F N L w) {k : Nat} (hk : F k) : base ≤ k ∧ k < w.heap.size := by
  obtain ⟨p, m, v, hh, T, LE, hb, hq, _, _, _, _, _, hF, hbt, _⟩ := h
  rcases (hF k).1 hk with rfl | rfl | rfl | e
  · exact ⟨hbt, hb.lt⟩
  · exact ⟨hq.at_.bp, hq.at_.blk.lt⟩
  · exact ⟨hq.at_.bm, hq.at_.map.lt⟩
  · exact hq.at_.own.lt _ e
theorem TmAt.kept {base t N : Nat} {F S : Nat → Prop} {L : List Tm} {w w' : World} (h : TmAt base t F N L w) (hk : Kept S w w') (hS : ∀ k, F k → ¬ S k) : TmAt base t F N L w' := by
  obtain ⟨p, m, v, hh, T, LE, hb, hq, a1, a2, a3, a4, a5, hF, a6, a7⟩ := h
  have hn : ∀ k, (k = t ∨ Foot p m v k) → ¬ S k := fun k e => hS k ((hF k).2 e)
  refine ⟨p, m, v, hh, T, LE, hk.blk hb (hn t (.inl rfl)), ⟨⟨hk.blk hq.at_.blk (hn p (.inr (.inl rfl))), hk.own hq.at_.own (fun k e => hn k (.inr (.inr (.inr e)))), hk.map hq.at_.map (hn m (.inr (.inr (.inl rfl)))), hq.at_.bp, hq.at_.bm⟩, hq.ids, hq.hp⟩, a1, a2, a3, a4, a5, hF, a6, a7⟩
theorem TmAt.below {base t N : Nat} {F : Nat → Prop} {L : List Tm} {w w' : World} (h : TmAt base t F N L w) (hb : Below w.heap.size w w') : TmAt base t F N L w' := h.kept (Kept.of (S := fun _ => False) hb (Nat.le_refl _)) (fun _ _ e => e)
/-- A block of the timers is no row of another kind. -/
theorem TmAt.apart {base t N : Nat} {F : Nat → Prop} {L : List Tm} {w : World} (h : TmAt base t F N L w) {g : Nat} {c : Array Value} {e : TypeId} {fr : Nat × Nat} (hg : w.heap[g]? = some (.cells c e fr)) (h1 : e ≠ 60) (h2 : e ≠ 56) (h3 : e ≠ 64) : ¬ F g := by
  obtain ⟨p, m, v, hh, T, LE, hb, hq, _, _, _, _, _, hF, _, _⟩ := h
  intro hf
  rcases (hF g).1 hf with rfl | rfl | rfl | e1
  · have := hb.symm.trans hg; simp at this; exact h1 this.2.1.symm
  · have := hq.at_.blk.symm.trans hg; simp at this; exact h2 this.2.1.symm
  · obtain ⟨es, clock, h', _⟩ := hq.at_.map
    have := h'.symm.trans hg; simp at this
  · rcases hq.at_.own.2 with ⟨rfl, _⟩ | ⟨g', cap, cur, rfl, _, hh', _⟩
    · simp [Value.ownBlock] at e1
    · simp [Value.ownBlock] at e1
      subst e1
      have := hh'.symm.trans hg; simp at this; exact h3 this.2.1.symm
theorem TmAt.apart_row {base t N b size n : Nat} {F : Nat → Prop} {L : List Tm} {w : World} {e : TypeId} {v : Value} {xs : List Value} (h : TmAt base t F N L w) (ho : w.ownsRow b e size v n xs) (h1 : e ≠ 60) (h2 : e ≠ 56) (h3 : e ≠ 64) : ∀ k, v.ownBlock = some k → ¬ F k := by
  intro k hk
  rcases ho.2 with ⟨rfl, _⟩ | ⟨g', cap, cur, rfl, _, hh', _⟩
  · simp [Value.ownBlock] at hk
  · simp [Value.ownBlock] at hk
    subst hk
    exact h.apart hh' h1 h2 h3
end Go.Proofs.Ytjcocgadhdgbjaa
