/- merge: a map of the call's own with keys of any comparable kind: an entry dropped, an entry asked for and stored into, how many there are; a range over one that stays as it is. -/
import Derived.Test.YtogkdekjcbljnaaDoorKeyMap
import Derived.Maps.RangeRun
import Derived.Maps.Range
namespace Go.Proofs.YtogkdekjcbljnaaDoor
open Go.RowKit Go.MapKept Go.WideMaps Go.WideElems Go.ChangeMaps

open Classical in
noncomputable def kdel {κ : Type} (C : κ → Option Value) (s : κ) : κ → Option Value := fun x => if x = s then none else C x
theorem kdel_same {κ : Type} (C : κ → Option Value) (s : κ) : kdel C s s = none := by simp [kdel]
theorem kdel_other {κ : Type} {C : κ → Option Value} {s x : κ} (h : x ≠ s) : kdel C s x = C x := by simp [kdel, h]
theorem KMap.ext {κ : Type} {enc : κ → Value} {ok : κ → Prop} {w : World} {m : Nat} {C C' : κ → Option Value} (h : KMap enc ok w m C) (e : ∀ s, C s = C' s) : KMap enc ok w m C' := by
  have : C = C' := funext e
  subst this; exact h
/-- An entry that was asked for, by its stamp. -/
def KEnt {κ : Type} (enc : κ → Value) (w : World) (m : Nat) (s : κ) (st : Nat) : Prop := ∃ es clock, w.heap[m]? = some (.map es clock) ∧ ∃ x ∈ es.toList, x.key = enc s ∧ x.born = st
theorem KEnt.kept {κ : Type} {enc : κ → Value} {w w' : World} {m : Nat} {s : κ} {st : Nat} {row : Option Nat} (h : KEnt enc w m s st) (hg : w.grownBy w' row) (hne : some m ≠ row) : KEnt enc w' m s st := by
  obtain ⟨es, clock, hb, rest⟩ := h
  exact ⟨es, clock, (hg.block m (Array.getElem?_eq_some_iff.1 hb).1 hne).trans hb, rest⟩

section
variable {κ : Type} {enc : κ → Value} {ok : κ → Prop} {lit : κ → Lit} {P : Program} {t k e : TypeId} {w : World} {m : Nat} {C : κ → Option Value}

theorem KMap.drop (h : KMap enc ok w m C) (hk : Maps.Keyed P k) (hK : ∀ x, ok x → keyOf P k (enc x) = some (lit x)) (hinj : ∀ {a b : κ}, enc a = enc b → a = b) (ht : P.underlying t = some (.map k e)) {s : κ} (hs : ok s) (ty : TypeId) :
    ∃ w', (Builtin.delete_ #[t, k] ty #[.map (some m), enc s]).run P w = .ok (.tuple #[]) w' ∧ KMap enc ok w' m (kdel C s) ∧ w.grownBy w' (some m) := by
  obtain ⟨es, clock, hb, hst, hk1, hk2⟩ := h
  have hck := hk.check w es.isEmpty (hK _ hs)
  rcases km_find (w := w) hk hK hs hk1 with ⟨h1, h2⟩ | ⟨j, e0, h1, h2, h3⟩
  · refine ⟨setBlock w m (.map es clock), ?_, ⟨_, _, heap_setBlock_same hb _, hst, fun x hx => ?_, fun s' v' hC => ?_⟩, km_grown w m hb⟩
    · simp [Builtin.delete_, run_underlying ht, MapKept.run_getObj_map hb, hck, h1, MapKept.run_setObj_map _ hb, Result.andThen, setBlock]
    · obtain ⟨s', g1, g2, g3⟩ := hk1 x hx
      exact ⟨s', g1, g2, by rw [kdel_other (fun e => h2 x hx (by rw [g1, e]))]; exact g3⟩
    · by_cases e : s' = s
      · subst e; rw [kdel_same] at hC; cases hC
      · rw [kdel_other e] at hC; exact hk2 s' v' hC
  · have hjs : j < es.size := by have := (List.getElem?_eq_some_iff.1 h2).1; simpa using this
    have hsub : (es.eraseIdxIfInBounds j).toList = es.toList.eraseIdx j := by
      unfold Array.eraseIdxIfInBounds
      rw [dif_pos hjs]
      simp
    have hnd := hst.2.2
    refine ⟨setBlock w m (.map (es.eraseIdxIfInBounds j) clock), ?_, ⟨_, _, heap_setBlock_same hb _, stamped_erase hst j, fun x hx => ?_, fun s' v' hC => ?_⟩, km_grown w m hb⟩
    · simp [Builtin.delete_, run_underlying ht, MapKept.run_getObj_map hb, hck, h1, MapKept.run_setObj_map _ hb, Result.andThen, setBlock]
    · rw [hsub] at hx
      have hx0 := (List.eraseIdx_sublist _ _).subset hx
      obtain ⟨s', g1, g2, g3⟩ := hk1 x hx0
      refine ⟨s', g1, g2, ?_⟩
      rw [kdel_other]; exact g3
      rintro rfl
      obtain ⟨i, hi⟩ := List.getElem?_of_mem hx
      rw [List.getElem?_eraseIdx] at hi
      have hj' := (List.getElem?_eq_some_iff.1 h2).1
      split at hi
      · have hi' := (List.getElem?_eq_some_iff.1 hi).1
        have := (List.getElem_inj (xs := es.toList.map (·.key)) (i := i) (j := j) (h₀ := by simpa using hi') (h₁ := by simpa using hj') hnd).1 (by
          rw [List.getElem_map, List.getElem_map, (List.getElem?_eq_some_iff.1 hi).2, (List.getElem?_eq_some_iff.1 h2).2, g1, h3])
        omega
      · have hi' := (List.getElem?_eq_some_iff.1 hi).1
        have := (List.getElem_inj (xs := es.toList.map (·.key)) (i := i + 1) (j := j) (h₀ := by simpa using hi') (h₁ := by simpa using hj') hnd).1 (by
          rw [List.getElem_map, List.getElem_map, (List.getElem?_eq_some_iff.1 hi).2, (List.getElem?_eq_some_iff.1 h2).2, g1, h3])
        omega
    · by_cases e : s' = s
      · subst e; rw [kdel_same] at hC; cases hC
      · rw [kdel_other e] at hC
        obtain ⟨x, hx, hxk⟩ := hk2 s' v' hC
        refine ⟨x, ?_, hxk⟩
        rw [hsub]
        obtain ⟨i, hi⟩ := List.getElem?_of_mem hx
        have hij : i ≠ j := by
          rintro rfl
          rw [h2] at hi; cases hi
          exact e (hinj (hxk.symm.trans h3))
        by_cases hlt : i < j
        · exact List.mem_of_getElem? (i := i) (by rw [List.getElem?_eraseIdx, if_pos hlt]; exact hi)
        · exact List.mem_of_getElem? (i := i - 1) (by rw [List.getElem?_eraseIdx, if_neg (by omega), show i - 1 + 1 = i from by omega]; exact hi)

theorem KMap.entry (h : KMap enc ok w m C) (hk : Maps.Keyed P k) (hK : ∀ x, ok x → keyOf P k (enc x) = some (lit x)) (hinj : ∀ {a b : κ}, enc a = enc b → a = b) (ht : P.underlying t = some (.map k e)) {z : Value} (hz : (zeroValue e).run P w = .ok z w) {s : κ} (hs : ok s) :
    ∃ (st : Nat) (w' : World), (Instr.mapEntry t (.map (some m)) (enc s)).run P w = .ok (.tuple #[(C s).getD z, goInt st]) w' ∧ KMap enc ok w' m (kset C s ((C s).getD z)) ∧ w.grownBy w' (some m) ∧ KEnt enc w' m s st := by
  obtain ⟨es, clock, hb, hst, hk1, hk2⟩ := h
  have hck := hk.check w false (hK _ hs)
  rcases km_find (w := w) hk hK hs hk1 with ⟨h1, h2⟩ | ⟨j, e0, h1, h2, h3⟩
  · have hn : C s = none := by
      cases hC : C s with
      | none => rfl
      | some v =>
        obtain ⟨x, hx, hxk⟩ := hk2 s v hC
        exact absurd hxk (h2 x hx)
    rw [hn]
    refine ⟨clock, setBlock w m (.map (es.push ⟨enc s, z, clock⟩) (clock + 1)), ?_, ⟨_, _, heap_setBlock_same hb _, stamped_push hst h2, fun x hx => ?_, fun s' v' hC => ?_⟩, km_grown w m hb, ⟨_, _, heap_setBlock_same hb _, ⟨enc s, z, clock⟩, by simp, rfl, rfl⟩⟩
    · simp [Instr.mapEntry, run_underlying ht, MapKept.run_getObj_map hb, hck, h1, hz, MapKept.run_setObj_map _ hb, Result.andThen, setBlock]
    · rw [Array.toList_push] at hx
      rcases List.mem_append.1 hx with hx | hx
      · obtain ⟨s', g1, g2, g3⟩ := hk1 x hx
        exact ⟨s', g1, g2, by rw [kset_other (fun e => h2 x hx (by rw [g1, e]))]; exact g3⟩
      · simp at hx; subst hx
        exact ⟨s, rfl, hs, kset_same _ _ _⟩
    · by_cases e : s' = s
      · subst e; exact ⟨⟨enc s', z, clock⟩, by simp, rfl⟩
      · rw [kset_other e] at hC
        obtain ⟨x, hx, hxk⟩ := hk2 s' v' hC
        exact ⟨x, by rw [Array.toList_push]; exact List.mem_append_left _ hx, hxk⟩
  · have hj : es[j]? = some e0 := by simpa using h2
    have hsame : es.modify j (fun e => { e with key := enc s }) = es := by
      apply Array.ext'
      rw [Array.toList_modify, modify_eq_set _ _ _ _ h2]
      have : ({ e0 with key := enc s } : MapEntry) = e0 := by rw [← h3]
      rw [this]
      exact set_self _ _ _ h2
    obtain ⟨s', g1, _, g3⟩ := hk1 e0 (List.mem_of_getElem? h2)
    obtain rfl : s' = s := hinj (g1.symm.trans h3)
    have hself : ({ w with heap := w.heap.setIfInBounds m (.map es clock) } : World) = w := by
      have : w.heap.setIfInBounds m (.map es clock) = w.heap := by
        apply Array.ext'
        rw [Array.toList_setIfInBounds]
        exact set_self _ _ _ (by simpa using hb)
      rw [this]
    rw [g3]
    refine ⟨e0.born, w, ?_, ?_, ⟨rfl, rfl, rfl, Nat.le_refl _, fun _ _ _ => rfl⟩, es, clock, hb, e0, List.mem_of_getElem? h2, h3, rfl⟩
    · simp [Instr.mapEntry, run_underlying ht, MapKept.run_getObj_map hb, hck, h1, hj, h3, hk.stays w (hK _ hs), hsame, MapKept.run_setObj_map _ hb, Result.andThen, hself]
    · refine ⟨es, clock, hb, hst, fun x hx => ?_, fun s2 v hC => ?_⟩
      · obtain ⟨s2, q1, q2, q3⟩ := hk1 x hx
        refine ⟨s2, q1, q2, ?_⟩
        by_cases e : s2 = s'
        · subst e; rw [kset_same]; exact g3.symm.trans q3
        · rw [kset_other e]; exact q3
      · by_cases e : s2 = s'
        · subst e; exact hk2 _ _ g3
        · rw [kset_other e] at hC; exact hk2 s2 v hC

theorem KMap.store (h : KMap enc ok w m C) (hinj : ∀ {a b : κ}, enc a = enc b → a = b) {s : κ} {st : Nat} (he : KEnt enc w m s st) (v : Value) :
    ∃ w', (Instr.entryStore t (.map (some m)) (goInt st) v).run P w = .ok () w' ∧ KMap enc ok w' m (kset C s v) ∧ w.grownBy w' (some m) := by
  obtain ⟨es, clock, hb, hst, hk1, hk2⟩ := h
  obtain ⟨es', clock', hb', x, hx, hxk, hxb⟩ := he
  rw [hb] at hb'; cases hb'
  obtain ⟨j, hj⟩ := List.getElem?_of_mem hx
  have hidx : es.findIdx? (fun e => ((e.born : Nat) : Int) == ((x.born : Nat) : Int)) = some j := by
    rw [findIdx_arr]
    exact findIdx_born hst.2.1 hj
  subst hxb
  refine ⟨setBlock w m (.map (es.modify j fun e => { e with val := v }) clock), ?_, kmap_modify hinj hb hst hk1 hk2 hj hxk v, km_grown w m hb⟩
  simp [Instr.entryStore, MapKept.run_getObj_map hb, asInt, asIntOf, goInt, hidx, MapKept.run_setObj_map _ hb, Result.andThen, setBlock]

theorem nodup_len {α : Type} : ∀ {l r : List α}, l.Nodup → (∀ x, x ∈ l → x ∈ r) → l.length ≤ r.length
  | [], _, _, _ => Nat.zero_le _
  | a :: l, r, hn, h => by
    classical
    obtain ⟨ha, hn'⟩ := List.nodup_cons.1 hn
    have hr : a ∈ r := h a (by simp)
    obtain ⟨s, t, rfl⟩ := List.append_of_mem hr
    have := nodup_len (r := s ++ t) hn' fun x hx => by
      have := h x (List.mem_cons_of_mem _ hx)
      simp only [List.mem_append, List.mem_cons] at this ⊢
      rcases this with h1 | h1 | h1
      · exact .inl h1
      · subst h1; exact absurd hx ha
      · exact .inr h1
    simp only [List.length_append, List.length_cons] at this ⊢
    omega
theorem keys_list (_hinj : ∀ {a b : κ}, enc a = enc b → a = b) {es : List MapEntry} (hn : (es.map (·.key)).Nodup) (hk1 : ∀ x ∈ es, ∃ s : κ, x.key = (enc s) ∧ ok s ∧ C s = some x.val) :
    ∃ l : List κ, es.map (·.key) = l.map enc ∧ l.Nodup ∧ ∀ s ∈ l, (C s).isSome := by
  induction es with
  | nil => exact ⟨[], rfl, List.nodup_nil, fun s h => by cases h⟩
  | cons x es ih =>
    rw [List.map_cons] at hn
    obtain ⟨hx, hn'⟩ := List.nodup_cons.1 hn
    obtain ⟨l, h1, h2, h3⟩ := ih hn' fun y hy => hk1 y (List.mem_cons_of_mem _ hy)
    obtain ⟨s, g1, _, g3⟩ := hk1 x (by simp)
    refine ⟨s :: l, by rw [List.map_cons, List.map_cons, h1, g1], List.nodup_cons.2 ⟨fun hs => hx ?_, h2⟩, fun y hy => ?_⟩
    · rw [h1, g1]; exact List.mem_map_of_mem hs
    · rcases List.mem_cons.1 hy with e | e
      · subst e; rw [g3]; rfl
      · exact h3 y e
/-- How many entries there are. -/
theorem KMap.size (h : KMap enc ok w m C) (hinj : ∀ {a b : κ}, enc a = enc b → a = b) {L : List κ} (hL : L.Nodup) (hm : ∀ s, (C s).isSome ↔ s ∈ L) : ∃ es clock, w.heap[m]? = some (.map es clock) ∧ es.size = L.length := by
  obtain ⟨es, clock, hb, hst, hk1, hk2⟩ := h
  refine ⟨es, clock, hb, ?_⟩
  obtain ⟨l, h1, h2, h3⟩ := keys_list hinj hst.2.2 hk1
  have hlen : es.size = l.length := by
    have := congrArg List.length h1
    simpa using this
  rw [hlen]
  refine Nat.le_antisymm (nodup_len h2 fun s hs => (hm s).1 (h3 s hs)) (nodup_len hL fun s hs => ?_)
  have := (hm s).2 hs
  obtain ⟨v, hv⟩ := Option.isSome_iff_exists.1 this
  obtain ⟨x, hx, hxk⟩ := hk2 s v hv
  have hx' : enc s ∈ l.map enc := by rw [← h1, ← hxk]; exact List.mem_map_of_mem hx
  obtain ⟨s', hs', e⟩ := List.mem_map.1 hx'
  exact hinj e ▸ hs'

/-- 'range m' under way: these keys have come. -/
def KRange (enc : κ → Value) (ok : κ → Prop) (w : World) (b r : Nat) (C : κ → Option Value) (done : List κ) : Prop :=
  ∃ es clock since seen c0, w.heap[b]? = some (.map es clock) ∧ Stamped es clock ∧ (∀ x ∈ es.toList, ∃ s : κ, x.key = (enc s) ∧ ok s ∧ C s = some x.val) ∧ (∀ s v, C s = some v → ∃ x ∈ es.toList, x.key = (enc s)) ∧
    w.heap[r]? = some (.mapIter (some b) since seen c0) ∧ (∀ x ∈ es.toList, x.born < since) ∧ since ≤ c0 ∧ since ≤ clock ∧ done.Nodup ∧ (∀ x ∈ es.toList, ∀ s, x.key = enc s → (seen.contains x.born = true ↔ s ∈ done)) ∧ ∀ s ∈ done, (C s).isSome
theorem KRange.map {b r : Nat} {done : List κ} (h : KRange enc ok w b r C done) : KMap enc ok w b C := by
  obtain ⟨es, clock, since, seen, c0, hb, hst, h1, h2, _⟩ := h
  exact ⟨es, clock, hb, hst, h1, h2⟩
theorem KRange.lt {b r : Nat} {done : List κ} (h : KRange enc ok w b r C done) : r < w.heap.size := by
  obtain ⟨es, clock, since, seen, c0, hb, hst, h1, h2, hr, _⟩ := h
  exact (Array.getElem?_eq_some_iff.1 hr).1
theorem KRange.kept {w' : World} {b r : Nat} {done : List κ} {row : Option Nat} (h : KRange enc ok w b r C done) (hg : w.grownBy w' row) (hb' : some b ≠ row) (hr' : some r ≠ row) : KRange enc ok w' b r C done := by
  have h1 := h.map.lt
  have h2 := h.lt
  obtain ⟨es, clock, since, seen, c0, hb, hst, k1, k2, hr, rest⟩ := h
  exact ⟨es, clock, since, seen, c0, (hg.block b h1 hb').trans hb, hst, k1, k2, (hg.block r h2 hr').trans hr, rest⟩
theorem KMap.range {b : Nat} (h : KMap enc ok w b C) (ht : P.underlying t = some (.map k e)) :
    ∃ w', (Instr.range t (.map (some b))).run P w = .ok (.pointer (some ⟨w.heap.size, 0, none⟩)) w' ∧ KRange enc ok w' b w.heap.size C [] ∧ Below w.heap.size w w' ∧ w'.heap.size = w.heap.size + 1 := by
  have hlt := h.lt
  obtain ⟨es, clock, hb, hst, k1, k2⟩ := h
  refine ⟨_, run_range_map w t k e b es clock ht hb, ⟨es, clock, clock, #[], clock, ((MapKept.heap_alloc w _).2 b hlt).trans hb, hst, k1, k2, (MapKept.heap_alloc w _).1, hst.1, Nat.le_refl _, Nat.le_refl _, List.nodup_nil, fun x _ s _ => by simp, fun s hs => by cases hs⟩, (Below.refl _ _).alloc (Nat.le_refl _) _, by simp⟩
/-- How many are still to come. -/
def krLeft (w : World) (b r : Nat) : Nat :=
  match w.heap[b]?, w.heap[r]? with
  | some (.map es _), some (.mapIter _ _ seen _) => (leftOf es seen).size
  | _, _ => 0
theorem KRange.next {b r : Nat} {done : List κ} (h : KRange enc ok w b r C done) (hinj : ∀ {a b : κ}, enc a = enc b → a = b) (ty : TypeId) :
    ((∀ s, (C s).isSome → s ∈ done) ∧ (Instr.next (.pointer (some ⟨r, 0, none⟩)) false ty).run P w = .ok (.tuple #[.bool false]) w) ∨
    ∃ s v w', C s = some v ∧ ok s ∧ s ∉ done ∧ (Instr.next (.pointer (some ⟨r, 0, none⟩)) false ty).run P w = .ok (.tuple #[.bool true, enc s, v]) w' ∧ KRange enc ok w' b r C (done ++ [s]) ∧
      (Instr.entry (.pointer (some ⟨r, 0, none⟩))).run P w' = .ok (.tuple #[enc s, v]) w' ∧ w.grownBy w' (some r) ∧ w'.heap.size = w.heap.size ∧ krLeft w' b r < krLeft w b r := by
  have hlr := h.lt
  obtain ⟨es, clock, since, seen, c0, hb, hst, k1, k2, hr, hold, hsc, hsk, hnd, hsd, hdn⟩ := h
  have hne : r ≠ b := by
    intro e
    rw [e, hb] at hr
    cases hr
  rcases run_next_at (P := P) w ty r b since c0 seen es clock hr hb hold hsc with ⟨h0, hrun⟩ | ⟨x, hx, w1, hal, hrun⟩
  · refine .inl ⟨fun s hs => ?_, hrun⟩
    obtain ⟨v, hv⟩ := Option.isSome_iff_exists.1 hs
    obtain ⟨x, hx, hxk⟩ := k2 s v hv
    exact (hsd x hx s hxk).1 (all_seen es seen h0 x hx)
  · have hx' : x ∈ es.toList ∧ seen.contains x.born = false := by
      unfold leftOf at hx
      rw [Array.toList_filter, List.mem_filter] at hx
      exact ⟨hx.1, by simpa using hx.2⟩
    obtain ⟨s, g1, g2, g3⟩ := k1 x hx'.1
    have hsn : s ∉ done := fun hs => by
      have := (hsd x hx'.1 s g1).2 hs
      rw [hx'.2] at this; cases this
    have hw1 : w1.heap = w.heap ∧ w1.os = w.os ∧ w1.tape = w.tape ∧ w1.output = w.output := by
      rcases hal with rfl | rfl
      · exact ⟨rfl, rfl, rfl, rfl⟩
      · exact ⟨rfl, rfl, rfl, rfl⟩
    have hr1 : w1.heap[r]? = some (.mapIter (some b) since seen c0) := by rw [hw1.1]; exact hr
    have hset := heap_set (o' := .mapIter (some b) since (seen.push x.born) clock) hr1
    have hb1 : (setBlock w1 r (.mapIter (some b) since (seen.push x.born) clock)).heap[b]? = some (.map es clock) := by
      exact (hset.2 b (fun e => hne e.symm)).trans (by rw [hw1.1]; exact hb)
    have hr2 : (setBlock w1 r (.mapIter (some b) since (seen.push x.born) clock)).heap[r]? = some (.mapIter (some b) since (seen.push x.born) clock) := hset.1
    rw [g1] at hrun
    refine .inr ⟨s, x.val, _, g3, g2, hsn, hrun, ⟨es, clock, since, seen.push x.born, clock, hb1, hst, k1, k2, hr2, hold, hsk, hsk, ?_, fun y hy s' hk' => ?_, fun s' hs' => ?_⟩, ?_, ?_, by simp [setBlock, hw1.1], ?_⟩
    · refine List.nodup_append.2 ⟨hnd, List.pairwise_singleton _ _, fun a ha b' hb' => ?_⟩
      rw [List.mem_singleton] at hb'
      subst hb'
      rintro rfl
      exact hsn ha
    · rw [Array.contains_iff_mem, Array.mem_push, List.mem_append, List.mem_singleton, ← Array.contains_iff_mem, hsd y hy s' hk']
      refine or_congr Iff.rfl ⟨fun e => ?_, fun e => ?_⟩
      · obtain rfl := born_inj hst.2.1 hy hx'.1 e
        exact hinj (hk'.symm.trans g1)
      · subst e
        have hxy : y = x := by
          obtain ⟨i, hi⟩ := List.getElem?_of_mem hy
          obtain ⟨j, hj⟩ := List.getElem?_of_mem hx'.1
          have hi' := (List.getElem?_eq_some_iff.1 hi).1
          have hj' := (List.getElem?_eq_some_iff.1 hj).1
          have := (List.getElem_inj (xs := es.toList.map (·.key)) (i := i) (j := j) (h₀ := by simpa using hi') (h₁ := by simpa using hj') hst.2.2).1 (by
            rw [List.getElem_map, List.getElem_map, (List.getElem?_eq_some_iff.1 hi).2, (List.getElem?_eq_some_iff.1 hj).2, hk', g1])
          subst this
          exact Option.some.inj (hi.symm.trans hj)
        rw [hxy]
    · rcases List.mem_append.1 hs' with h | h
      · exact hdn s' h
      · rw [List.mem_singleton] at h; subst h; rw [g3]; rfl
    · rw [← g1]
      exact run_entry_at _ r b since seen es clock x hr2 hb1 hx'.1 hst.2.1
    · exact ⟨hw1.2.1, hw1.2.2.1, hw1.2.2.2, by simp [setBlock, hw1.1], fun i hi hi' => by
        exact (hset.2 i (fun e => hi' (by rw [e]))).trans (by rw [hw1.1])⟩
    · unfold krLeft
      rw [hb1, hr2, hb, hr]
      exact left_shrinks es seen x hx
end
end Go.Proofs.YtogkdekjcbljnaaDoor
