/- A map of the call's own with keys of any comparable kind: what stands in it, as a function; a look into it, an entry set. -/
import Derived.Maps.OwnSet
import Derived.WideKeyEntry
import Derived.Maps.Keyed
import Derived.WalkKit
import Derived.Below
import Derived.Deep.QuietTactic
import Derived.BigQuiet
import Derived.Deep.AppendLies
namespace Go.Proofs.YtogkdekjcbljnaaDoor
open Go.RowKit Go.MapKept Go.WideMaps Go.WideElems Go.ChangeMaps

/-- Block m is a map; of a key C tells what stands there. -/
def KMap {κ : Type} (enc : κ → Value) (ok : κ → Prop) (w : World) (m : Nat) (C : κ → Option Value) : Prop :=
  ∃ es clock, w.heap[m]? = some (.map es clock) ∧ Stamped es clock ∧ (∀ x ∈ es.toList, ∃ s : κ, x.key = (enc s) ∧ ok s ∧ C s = some x.val) ∧ (∀ s v, C s = some v → ∃ x ∈ es.toList, x.key = (enc s))
open Classical in
noncomputable def kset {κ : Type} (C : κ → Option Value) (s : κ) (v : Value) : κ → Option Value := fun x => if x = s then some v else C x
theorem kset_same {κ : Type} (C : κ → Option Value) (s : κ) (v : Value) : kset C s v s = some v := by simp [kset]
theorem kset_other {κ : Type} {C : κ → Option Value} {s x : κ} {v : Value} (h : x ≠ s) : kset C s v x = C x := by simp [kset, h]

theorem KMap.lt {κ : Type} {enc : κ → Value} {ok : κ → Prop} {w : World} {m : Nat} {C : κ → Option Value} (h : KMap enc ok w m C) : m < w.heap.size := by
  obtain ⟨es, clock, hb, _⟩ := h
  exact (Array.getElem?_eq_some_iff.1 hb).1
theorem KMap.kept {κ : Type} {enc : κ → Value} {ok : κ → Prop} {w w' : World} {m : Nat} {C : κ → Option Value} {row : Option Nat} (h : KMap enc ok w m C) (hg : w.grownBy w' row) (hne : some m ≠ row) : KMap enc ok w' m C := by
  have hlt := h.lt
  obtain ⟨es, clock, hb, rest⟩ := h
  exact ⟨es, clock, (hg.block m hlt hne).trans hb, rest⟩
theorem KMap.below {κ : Type} {enc : κ → Value} {ok : κ → Prop} {w w' : World} {m n : Nat} {C : κ → Option Value} (h : KMap enc ok w m C) (hb : Below n w w') (hm : m < n) : KMap enc ok w' m C := by
  obtain ⟨es, clock, hb', rest⟩ := h
  exact ⟨es, clock, (hb.block m hm).trans hb', rest⟩
theorem kmap_new {κ : Type} (enc : κ → Value) (ok : κ → Prop) (w : World) : KMap enc ok (w.alloc (.map #[] 0)) w.heap.size (fun _ => none) :=
  ⟨#[], 0, (MapKept.heap_alloc w _).1, stamped_empty 0, by simp, by simp⟩

section
variable {κ : Type} {enc : κ → Value} {ok : κ → Prop} {lit : κ → Lit} {P : Program} {t k e : TypeId} {w : World} {m : Nat} {C : κ → Option Value}

theorem km_find (hk : Maps.Keyed P k) (hK : ∀ x, ok x → keyOf P k (enc x) = some (lit x)) {es : Array MapEntry} {s : κ} (hs : ok s) (hkeys : ∀ x ∈ es.toList, ∃ s : κ, x.key = (enc s) ∧ ok s ∧ C s = some x.val) :
    ((Instr.findKey k ((enc s)) es.toList).run P w = .ok none w ∧ ∀ e ∈ es.toList, e.key ≠ (enc s)) ∨ ∃ j e, (Instr.findKey k ((enc s)) es.toList).run P w = .ok (some (j, e.val)) w ∧ es.toList[j]? = some e ∧ e.key = (enc s) :=
  hk.find w (hK _ hs) es.toList (fun x hx => by
    obtain ⟨s', hk', hl, _⟩ := hkeys x hx
    exact ⟨_, by rw [hk']; exact hK _ hl⟩)

theorem KMap.lookup (h : KMap enc ok w m C) (hk : Maps.Keyed P k) (hK : ∀ x, ok x → keyOf P k (enc x) = some (lit x)) (hinj : ∀ {a b : κ}, enc a = enc b → a = b) (ht : P.underlying t = some (.map k e)) {z : Value} (hz : (zeroValue e).run P w = .ok z w) {s : κ} (hs : ok s) (c : Bool) :
    (Instr.lookup t (.map (some m)) ((enc s)) c).run P w = .ok (if c then .tuple #[(C s).getD z, .bool (C s).isSome] else (C s).getD z) w := by
  obtain ⟨es, clock, hb, hst, hk1, hk2⟩ := h
  have hck := hk.check w es.isEmpty (hK _ hs)
  rcases km_find (w := w) hk hK hs hk1 with ⟨h1, h2⟩ | ⟨j, e0, h1, h2, h3⟩
  · have hn : C s = none := by
      cases hC : C s with
      | none => rfl
      | some v =>
        obtain ⟨x, hx, hxk⟩ := hk2 s v hC
        exact absurd hxk (h2 x hx)
    simp [Instr.lookup, run_underlying ht, MapKept.run_getObj_map hb, hck, h1, hz, Result.andThen, hn]
  · obtain ⟨s', hk', _, hC⟩ := hk1 e0 (List.mem_of_getElem? h2)
    have : s' = s := hinj (hk'.symm.trans h3)
    subst this
    simp [Instr.lookup, run_underlying ht, MapKept.run_getObj_map hb, hck, h1, Result.andThen, hC]

theorem km_grown (w : World) (m : Nat) {es es' : Array MapEntry} {clock clock' : Nat} (hb : w.heap[m]? = some (.map es clock)) : w.grownBy (setBlock w m (.map es' clock')) (some m) :=
  ⟨rfl, rfl, rfl, by simp [setBlock], fun i _ hi => heap_setBlock_other hb _ (fun e => hi (by rw [e]))⟩

theorem km_mod {es : Array MapEntry} {j : Nat} {f : MapEntry → MapEntry} {x : MapEntry} (hx : x ∈ (es.modify j f).toList) : (∃ i, i ≠ j ∧ es.toList[i]? = some x) ∨ ∃ e, es.toList[j]? = some e ∧ x = f e := by
  obtain ⟨i, hi⟩ := List.getElem?_of_mem hx
  rw [Array.toList_modify, List.getElem?_modify] at hi
  cases he : es.toList[i]? with
  | none => rw [he] at hi; cases hi
  | some e =>
    rw [he] at hi
    have hi' : (if j = i then f e else e) = x := Option.some.inj hi
    by_cases hij : j = i
    · subst hij
      rw [if_pos rfl] at hi'
      exact .inr ⟨e, he, hi'.symm⟩
    · rw [if_neg hij] at hi'
      subst hi'
      exact .inl ⟨i, fun e => hij e.symm, he⟩
theorem km_mod_other {es : Array MapEntry} {j i : Nat} {f : MapEntry → MapEntry} {x : MapEntry} (hij : i ≠ j) (hx : es.toList[i]? = some x) : x ∈ (es.modify j f).toList := by
  apply List.mem_of_getElem? (i := i)
  rw [Array.toList_modify, List.getElem?_modify, hx]
  show some (if j = i then f x else x) = _
  rw [if_neg (fun e => hij e.symm)]
theorem km_mod_same {es : Array MapEntry} {j : Nat} {f : MapEntry → MapEntry} {x : MapEntry} (hx : es.toList[j]? = some x) : f x ∈ (es.modify j f).toList := by
  apply List.mem_of_getElem? (i := j)
  rw [Array.toList_modify, List.getElem?_modify, hx]
  show some (if j = j then f x else x) = _
  rw [if_pos rfl]

/-- The element of an entry is set: what the map tells then. -/
theorem kmap_modify (hinj : ∀ {a b : κ}, enc a = enc b → a = b) {es : Array MapEntry} {clock : Nat} (hb : w.heap[m]? = some (.map es clock)) (hst : Stamped es clock) (hk1 : ∀ x ∈ es.toList, ∃ s : κ, x.key = (enc s) ∧ ok s ∧ C s = some x.val)
    (hk2 : ∀ s v, C s = some v → ∃ x ∈ es.toList, x.key = (enc s)) {j : Nat} {e0 : MapEntry} (hj : es.toList[j]? = some e0) {s : κ} (hs : e0.key = (enc s)) (v : Value) :
    KMap enc ok (setBlock w m (.map (es.modify j fun e => { e with val := v }) clock)) m (kset C s v) := by
  refine ⟨_, clock, heap_setBlock_same hb _, stamped_modify hst j _ (fun _ _ => rfl) (fun _ _ _ => rfl), fun x hx => ?_, fun s' v' hC => ?_⟩
  · rcases km_mod hx with ⟨i, hi, hxi⟩ | ⟨e1, he1, rfl⟩
    · obtain ⟨s', h1, h2, h3⟩ := hk1 x (List.mem_of_getElem? hxi)
      refine ⟨s', h1, h2, ?_⟩
      rw [kset_other]; exact h3
      rintro rfl
      obtain ⟨_, _, hn⟩ := hst
      have hi' := (List.getElem?_eq_some_iff.1 hxi).1
      have hj' := (List.getElem?_eq_some_iff.1 hj).1
      have := (List.getElem_inj (xs := es.toList.map (·.key)) (i := i) (j := j) (h₀ := by simpa using hi') (h₁ := by simpa using hj') hn).1 (by
        rw [List.getElem_map, List.getElem_map, (List.getElem?_eq_some_iff.1 hxi).2, (List.getElem?_eq_some_iff.1 hj).2, h1, hs])
      exact hi this
    · rw [hj] at he1
      cases he1
      obtain ⟨s', h1, h2, _⟩ := hk1 e0 (List.mem_of_getElem? hj)
      obtain rfl : s' = s := hinj (h1.symm.trans hs)
      exact ⟨s', h1, h2, kset_same _ _ _⟩
  · by_cases e : s' = s
    · subst e; exact ⟨_, km_mod_same hj, hs⟩
    · rw [kset_other e] at hC
      obtain ⟨x, hx, hxk⟩ := hk2 s' v' hC
      obtain ⟨i, hi⟩ := List.getElem?_of_mem hx
      by_cases hij : i = j
      · subst hij
        rw [hj] at hi; cases hi
        exact absurd (hinj (hxk.symm.trans hs)) e
      · exact ⟨x, km_mod_other hij hi, hxk⟩

theorem KMap.update (h : KMap enc ok w m C) (hk : Maps.Keyed P k) (hK : ∀ x, ok x → keyOf P k (enc x) = some (lit x)) (hinj : ∀ {a b : κ}, enc a = enc b → a = b) (ht : P.underlying t = some (.map k e)) {s : κ} (hs : ok s) (v : Value) :
    ∃ w', (Instr.mapUpdate t (.map (some m)) ((enc s)) v).run P w = .ok () w' ∧ KMap enc ok w' m (kset C s v) ∧ w.grownBy w' (some m) := by
  obtain ⟨es, clock, hb, hst, hk1, hk2⟩ := h
  have hck := hk.check w false (hK _ hs)
  rcases km_find (w := w) hk hK hs hk1 with ⟨h1, h2⟩ | ⟨j, e0, h1, h2, h3⟩
  · refine ⟨setBlock w m (.map (es.push ⟨(enc s), v, clock⟩) (clock + 1)), ?_, ⟨_, _, heap_setBlock_same hb _, stamped_push hst h2, fun x hx => ?_, fun s' v' hC => ?_⟩, km_grown w m hb⟩
    · simp [Instr.mapUpdate, run_underlying ht, MapKept.run_getObj_map hb, hck, h1, MapKept.run_setObj_map _ hb, Result.andThen, setBlock]
    · rw [Array.toList_push] at hx
      rcases List.mem_append.1 hx with hx | hx
      · obtain ⟨s', g1, g2, g3⟩ := hk1 x hx
        exact ⟨s', g1, g2, by rw [kset_other (fun e => h2 x hx (by rw [g1, e]))]; exact g3⟩
      · simp at hx; subst hx
        exact ⟨s, rfl, hs, kset_same _ _ _⟩
    · by_cases e : s' = s
      · subst e; exact ⟨⟨(enc s'), v, clock⟩, by simp, rfl⟩
      · rw [kset_other e] at hC
        obtain ⟨x, hx, hxk⟩ := hk2 s' v' hC
        exact ⟨x, by rw [Array.toList_push]; exact List.mem_append_left _ hx, hxk⟩
  · have hmod : es.modify j (fun e => { e with key := (enc s), val := v }) = es.modify j (fun e => { e with val := v }) := by
      apply Array.ext'
      rw [Array.toList_modify, Array.toList_modify, modify_eq_set _ _ _ _ h2, modify_eq_set _ _ _ _ h2, ← h3]
    refine ⟨setBlock w m (.map (es.modify j fun e => { e with val := v }) clock), ?_, kmap_modify hinj hb hst hk1 hk2 h2 h3 v, km_grown w m hb⟩
    have hj : es[j]? = some e0 := by simpa using h2
    simp [Instr.mapUpdate, run_underlying ht, MapKept.run_getObj_map hb, hck, h1, hj, h3, hk.stays w (hK _ hs), hmod, MapKept.run_setObj_map _ hb, Result.andThen, setBlock]
end
end Go.Proofs.YtogkdekjcbljnaaDoor
