/- A map with strings as keys, of the call's own: what stands in it, as a function; its five operations. -/
import Derived.Maps.OwnSet
import Derived.WideKeyEntry
import Derived.WalkKit
import Derived.Below
import Derived.Deep.QuietTactic
import Derived.BigQuiet
import Derived.Deep.AppendLies
namespace Go.Proofs.YtkjfafnnnkjoeaaGreatDoor
open Go.RowKit Go.MapKept Go.WideMaps Go.WideElems Go.ChangeMaps

/-- Block m is a map; of a key C tells what stands there. -/
def StrMap (w : World) (m : Nat) (C : List UInt8 → Option Value) : Prop :=
  ∃ es clock, w.heap[m]? = some (.map es clock) ∧ Stamped es clock ∧ (∀ x ∈ es.toList, ∃ s : List UInt8, x.key = .string ⟨s.toArray⟩ ∧ s.length ≤ maxLen ∧ C s = some x.val) ∧ (∀ s v, C s = some v → ∃ x ∈ es.toList, x.key = .string ⟨s.toArray⟩)
def setKey (C : List UInt8 → Option Value) (s : List UInt8) (v : Value) : List UInt8 → Option Value := fun x => if x = s then some v else C x
def delKey' (C : List UInt8 → Option Value) (s : List UInt8) : List UInt8 → Option Value := fun x => if x = s then none else C x
theorem setKey_same (C : List UInt8 → Option Value) (s : List UInt8) (v : Value) : setKey C s v s = some v := by simp [setKey]
theorem setKey_other {C : List UInt8 → Option Value} {s x : List UInt8} {v : Value} (h : x ≠ s) : setKey C s v x = C x := by simp [setKey, h]

/-- An entry that was asked for, by its stamp. -/
def Ent (w : World) (m : Nat) (s : List UInt8) (st : Nat) : Prop := ∃ es clock, w.heap[m]? = some (.map es clock) ∧ ∃ x ∈ es.toList, x.key = .string ⟨s.toArray⟩ ∧ x.born = st

theorem key_inj {a b : List UInt8} (h : Value.string ⟨a.toArray⟩ = .string ⟨b.toArray⟩) : a = b := by
  simp at h; exact h
theorem StrMap.lt {w : World} {m : Nat} {C : List UInt8 → Option Value} (h : StrMap w m C) : m < w.heap.size := by
  obtain ⟨es, clock, hb, _⟩ := h
  exact (Array.getElem?_eq_some_iff.1 hb).1
theorem StrMap.kept {w w' : World} {m : Nat} {C : List UInt8 → Option Value} {row : Option Nat} (h : StrMap w m C) (hg : w.grownBy w' row) (hne : some m ≠ row) : StrMap w' m C := by
  have hlt := h.lt
  obtain ⟨es, clock, hb, rest⟩ := h
  exact ⟨es, clock, (hg.block m hlt hne).trans hb, rest⟩
theorem StrMap.below {w w' : World} {m n : Nat} {C : List UInt8 → Option Value} (h : StrMap w m C) (hb : Below n w w') (hm : m < n) : StrMap w' m C := by
  obtain ⟨es, clock, hb', rest⟩ := h
  exact ⟨es, clock, (hb.block m hm).trans hb', rest⟩
theorem StrMap.drewN {w : World} {m : Nat} {C : List UInt8 → Option Value} (h : StrMap w m C) (n : Nat) : StrMap (w.drewN n) m C := by
  have e : (w.drewN n).heap = w.heap := by
    induction n generalizing w with
    | zero => rfl
    | succ n ih => show ((w.drew).drewN n).heap = _; rw [ih (w := w.drew) h]; rfl
  unfold StrMap at *; rw [e]; exact h
theorem StrMap.ext {w : World} {m : Nat} {C C' : List UInt8 → Option Value} (h : StrMap w m C) (e : ∀ s, C s = C' s) : StrMap w m C' := by
  have : C = C' := funext e
  subst this; exact h
theorem strMap_new (w : World) : StrMap (w.alloc (.map #[] 0)) w.heap.size (fun _ => none) :=
  ⟨#[], 0, (MapKept.heap_alloc w _).1, stamped_empty 0, by simp, by simp⟩

section
variable {P : Program} {t k e : TypeId} {w : World} {m : Nat} {C : List UInt8 → Option Value}

theorem key_of (hk : P.underlying k = some .string) {s : List UInt8} (hs : s.length ≤ maxLen) : keyOf P k (.string ⟨s.toArray⟩) = some (.string s) := by
  have := keyOf_string_mk (s := ⟨s.toArray⟩) hk (by simpa [ByteArray.size] using hs)
  simpa using this
theorem find_in (hk : P.underlying k = some .string) {es : Array MapEntry} {s : List UInt8} (hs : s.length ≤ maxLen) (hkeys : ∀ x ∈ es.toList, ∃ s : List UInt8, x.key = .string ⟨s.toArray⟩ ∧ s.length ≤ maxLen ∧ C s = some x.val) :
    ((Instr.findKey k (.string ⟨s.toArray⟩) es.toList).run P w = .ok none w ∧ ∀ e ∈ es.toList, e.key ≠ .string ⟨s.toArray⟩) ∨ ∃ j e, (Instr.findKey k (.string ⟨s.toArray⟩) es.toList).run P w = .ok (some (j, e.val)) w ∧ es.toList[j]? = some e ∧ e.key = .string ⟨s.toArray⟩ :=
  (string_law hk).find w (key_of hk hs) es.toList (fun x hx => by
    obtain ⟨s', hk', hl, _⟩ := hkeys x hx
    exact ⟨_, by rw [hk']; exact key_of hk hl⟩)

theorem StrMap.lookup (h : StrMap w m C) (hk : P.underlying k = some .string) (ht : P.underlying t = some (.map k e)) {z : Value} (hz : (zeroValue e).run P w = .ok z w) {s : List UInt8} (hs : s.length ≤ maxLen) (c : Bool) :
    (Instr.lookup t (.map (some m)) (.string ⟨s.toArray⟩) c).run P w = .ok (if c then .tuple #[(C s).getD z, .bool (C s).isSome] else (C s).getD z) w := by
  obtain ⟨es, clock, hb, hst, hk1, hk2⟩ := h
  have hck := (string_law hk).check w es.isEmpty (key_of hk hs)
  rcases find_in (w := w) hk hs hk1 with ⟨h1, h2⟩ | ⟨j, e0, h1, h2, h3⟩
  · have hn : C s = none := by
      cases hC : C s with
      | none => rfl
      | some v =>
        obtain ⟨x, hx, hxk⟩ := hk2 s v hC
        exact absurd hxk (h2 x hx)
    simp [Instr.lookup, run_underlying ht, MapKept.run_getObj_map hb, hck, h1, hz, Result.andThen, hn]
  · obtain ⟨s', hk', _, hC⟩ := hk1 e0 (List.mem_of_getElem? h2)
    have : s' = s := key_inj (hk'.symm.trans h3)
    subst this
    simp [Instr.lookup, run_underlying ht, MapKept.run_getObj_map hb, hck, h1, Result.andThen, hC]

theorem set_grown (w : World) (m : Nat) {es es' : Array MapEntry} {clock clock' : Nat} (hb : w.heap[m]? = some (.map es clock)) : w.grownBy (setBlock w m (.map es' clock')) (some m) :=
  ⟨rfl, rfl, rfl, by simp [setBlock], fun i _ hi => heap_setBlock_other hb _ (fun e => hi (by rw [e]))⟩

theorem mem_mod {es : Array MapEntry} {j : Nat} {f : MapEntry → MapEntry} {x : MapEntry} (hx : x ∈ (es.modify j f).toList) : (∃ i, i ≠ j ∧ es.toList[i]? = some x) ∨ ∃ e, es.toList[j]? = some e ∧ x = f e := by
  obtain ⟨i, hi⟩ := List.getElem?_of_mem hx
  rw [Array.toList_modify, List.getElem?_modify] at hi
  cases he : es.toList[i]? with
  | none => rw [he] at hi; cases hi
  | some e =>
    rw [he] at hi
    have hi' : (if j = i then f e else e) = x := Option.some.inj hi
    by_cases hij : j = i
    · subst hij
      rw [if_pos rfl] at hi'
      exact .inr ⟨e, he, hi'.symm⟩
    · rw [if_neg hij] at hi'
      subst hi'
      exact .inl ⟨i, fun e => hij e.symm, he⟩
theorem mem_mod_other {es : Array MapEntry} {j i : Nat} {f : MapEntry → MapEntry} {x : MapEntry} (hij : i ≠ j) (hx : es.toList[i]? = some x) : x ∈ (es.modify j f).toList := by
  apply List.mem_of_getElem? (i := i)
  rw [Array.toList_modify, List.getElem?_modify, hx]
  show some (if j = i then f x else x) = _
  rw [if_neg (fun e => hij e.symm)]
theorem mem_mod_same {es : Array MapEntry} {j : Nat} {f : MapEntry → MapEntry} {x : MapEntry} (hx : es.toList[j]? = some x) : f x ∈ (es.modify j f).toList := by
  apply List.mem_of_getElem? (i := j)
  rw [Array.toList_modify, List.getElem?_modify, hx]
  show some (if j = j then f x else x) = _
  rw [if_pos rfl]

/-- The element of an entry is set: what the map tells then. -/
theorem strMap_modify {es : Array MapEntry} {clock : Nat} (hb : w.heap[m]? = some (.map es clock)) (hst : Stamped es clock) (hk1 : ∀ x ∈ es.toList, ∃ s : List UInt8, x.key = .string ⟨s.toArray⟩ ∧ s.length ≤ maxLen ∧ C s = some x.val)
    (hk2 : ∀ s v, C s = some v → ∃ x ∈ es.toList, x.key = .string ⟨s.toArray⟩) {j : Nat} {e0 : MapEntry} (hj : es.toList[j]? = some e0) {s : List UInt8} (hs : e0.key = .string ⟨s.toArray⟩) (v : Value) :
    StrMap (setBlock w m (.map (es.modify j fun e => { e with val := v }) clock)) m (setKey C s v) := by
  refine ⟨_, clock, heap_setBlock_same hb _, stamped_modify hst j _ (fun _ _ => rfl) (fun _ _ _ => rfl), fun x hx => ?_, fun s' v' hC => ?_⟩
  · rcases mem_mod hx with ⟨i, hi, hxi⟩ | ⟨e1, he1, rfl⟩
    · obtain ⟨s', h1, h2, h3⟩ := hk1 x (List.mem_of_getElem? hxi)
      refine ⟨s', h1, h2, ?_⟩
      rw [setKey_other]; exact h3
      rintro rfl
      obtain ⟨_, _, hn⟩ := hst
      have hi' := (List.getElem?_eq_some_iff.1 hxi).1
      have hj' := (List.getElem?_eq_some_iff.1 hj).1
      have := (List.getElem_inj (xs := es.toList.map (·.key)) (i := i) (j := j) (h₀ := by simpa using hi') (h₁ := by simpa using hj') hn).1 (by
        rw [List.getElem_map, List.getElem_map, (List.getElem?_eq_some_iff.1 hxi).2, (List.getElem?_eq_some_iff.1 hj).2, h1, hs])
      exact hi this
    · rw [hj] at he1
      cases he1
      obtain ⟨s', h1, h2, _⟩ := hk1 e0 (List.mem_of_getElem? hj)
      obtain rfl : s' = s := key_inj (h1.symm.trans hs)
      exact ⟨s', h1, h2, setKey_same _ _ _⟩
  · by_cases e : s' = s
    · subst e; exact ⟨_, mem_mod_same hj, hs⟩
    · rw [setKey_other e] at hC
      obtain ⟨x, hx, hxk⟩ := hk2 s' v' hC
      obtain ⟨i, hi⟩ := List.getElem?_of_mem hx
      by_cases hij : i = j
      · subst hij
        rw [hj] at hi; cases hi
        exact absurd (key_inj (hxk.symm.trans hs)) e
      · exact ⟨x, mem_mod_other hij hi, hxk⟩

theorem StrMap.update (h : StrMap w m C) (hk : P.underlying k = some .string) (ht : P.underlying t = some (.map k e)) {s : List UInt8} (hs : s.length ≤ maxLen) (v : Value) :
    ∃ w', (Instr.mapUpdate t (.map (some m)) (.string ⟨s.toArray⟩) v).run P w = .ok () w' ∧ StrMap w' m (setKey C s v) ∧ w.grownBy w' (some m) := by
  obtain ⟨es, clock, hb, hst, hk1, hk2⟩ := h
  have hck := (string_law hk).check w false (key_of hk hs)
  rcases find_in (w := w) hk hs hk1 with ⟨h1, h2⟩ | ⟨j, e0, h1, h2, h3⟩
  · refine ⟨setBlock w m (.map (es.push ⟨.string ⟨s.toArray⟩, v, clock⟩) (clock + 1)), ?_, ⟨_, _, heap_setBlock_same hb _, stamped_push hst h2, fun x hx => ?_, fun s' v' hC => ?_⟩, set_grown w m hb⟩
    · simp [Instr.mapUpdate, run_underlying ht, MapKept.run_getObj_map hb, hck, h1, MapKept.run_setObj_map _ hb, Result.andThen, setBlock]
    · rw [Array.toList_push] at hx
      rcases List.mem_append.1 hx with hx | hx
      · obtain ⟨s', g1, g2, g3⟩ := hk1 x hx
        exact ⟨s', g1, g2, by rw [setKey_other (fun e => h2 x hx (by rw [g1, e]))]; exact g3⟩
      · simp at hx; subst hx
        exact ⟨s, rfl, hs, setKey_same _ _ _⟩
    · by_cases e : s' = s
      · subst e; exact ⟨⟨.string ⟨s'.toArray⟩, v, clock⟩, by simp, rfl⟩
      · rw [setKey_other e] at hC
        obtain ⟨x, hx, hxk⟩ := hk2 s' v' hC
        exact ⟨x, by rw [Array.toList_push]; exact List.mem_append_left _ hx, hxk⟩
  · have hmod : es.modify j (fun e => { e with key := .string ⟨s.toArray⟩, val := v }) = es.modify j (fun e => { e with val := v }) := by
      apply Array.ext'
      rw [Array.toList_modify, Array.toList_modify, modify_eq_set _ _ _ _ h2, modify_eq_set _ _ _ _ h2, ← h3]
    refine ⟨setBlock w m (.map (es.modify j fun e => { e with val := v }) clock), ?_, strMap_modify hb hst hk1 hk2 h2 h3 v, set_grown w m hb⟩
    have hj : es[j]? = some e0 := by simpa using h2
    simp [Instr.mapUpdate, run_underlying ht, MapKept.run_getObj_map hb, hck, h1, hj, h3, (string_law hk).stays w (key_of hk hs), hmod, MapKept.run_setObj_map _ hb, Result.andThen, setBlock]

theorem StrMap.drop (h : StrMap w m C) (hk : P.underlying k = some .string) (ht : P.underlying t = some (.map k e)) {s : List UInt8} (hs : s.length ≤ maxLen) (ty : TypeId) :
    ∃ w', (Builtin.delete_ #[t, k] ty #[.map (some m), .string ⟨s.toArray⟩]).run P w = .ok (.tuple #[]) w' ∧ StrMap w' m (delKey' C s) ∧ w.grownBy w' (some m) := by
  obtain ⟨es, clock, hb, hst, hk1, hk2⟩ := h
  have hck := (string_law hk).check w es.isEmpty (key_of hk hs)
  rcases find_in (w := w) hk hs hk1 with ⟨h1, h2⟩ | ⟨j, e0, h1, h2, h3⟩
  · refine ⟨setBlock w m (.map es clock), ?_, ⟨_, _, heap_setBlock_same hb _, hst, fun x hx => ?_, fun s' v' hC => ?_⟩, set_grown w m hb⟩
    · simp [Builtin.delete_, run_underlying ht, MapKept.run_getObj_map hb, hck, h1, MapKept.run_setObj_map _ hb, Result.andThen, setBlock]
    · obtain ⟨s', g1, g2, g3⟩ := hk1 x hx
      exact ⟨s', g1, g2, by unfold delKey'; rw [if_neg (fun e => h2 x hx (by rw [g1, e]))]; exact g3⟩
    · unfold delKey' at hC
      by_cases e : s' = s
      · rw [if_pos e] at hC; cases hC
      · rw [if_neg e] at hC; exact hk2 s' v' hC
  · have hjs : j < es.size := by have := (List.getElem?_eq_some_iff.1 h2).1; simpa using this
    have hsub : (es.eraseIdxIfInBounds j).toList = es.toList.eraseIdx j := by
      unfold Array.eraseIdxIfInBounds
      rw [dif_pos hjs]
      simp
    have hnd := hst.2.2
    refine ⟨setBlock w m (.map (es.eraseIdxIfInBounds j) clock), ?_, ⟨_, _, heap_setBlock_same hb _, stamped_erase hst j, fun x hx => ?_, fun s' v' hC => ?_⟩, set_grown w m hb⟩
    · simp [Builtin.delete_, run_underlying ht, MapKept.run_getObj_map hb, hck, h1, MapKept.run_setObj_map _ hb, Result.andThen, setBlock]
    · rw [hsub] at hx
      have hx0 := (List.eraseIdx_sublist _ _).subset hx
      obtain ⟨s', g1, g2, g3⟩ := hk1 x hx0
      refine ⟨s', g1, g2, ?_⟩
      unfold delKey'; rw [if_neg]; exact g3
      rintro rfl
      obtain ⟨i, hi⟩ := List.getElem?_of_mem hx
      rw [List.getElem?_eraseIdx] at hi
      have hj' := (List.getElem?_eq_some_iff.1 h2).1
      split at hi
      · have hi' := (List.getElem?_eq_some_iff.1 hi).1
        have := (List.getElem_inj (xs := es.toList.map (·.key)) (i := i) (j := j) (h₀ := by simpa using hi') (h₁ := by simpa using hj') hnd).1 (by
          rw [List.getElem_map, List.getElem_map, (List.getElem?_eq_some_iff.1 hi).2, (List.getElem?_eq_some_iff.1 h2).2, g1, h3])
        omega
      · have hi' := (List.getElem?_eq_some_iff.1 hi).1
        have := (List.getElem_inj (xs := es.toList.map (·.key)) (i := i + 1) (j := j) (h₀ := by simpa using hi') (h₁ := by simpa using hj') hnd).1 (by
          rw [List.getElem_map, List.getElem_map, (List.getElem?_eq_some_iff.1 hi).2, (List.getElem?_eq_some_iff.1 h2).2, g1, h3])
        omega
    · unfold delKey' at hC
      by_cases e : s' = s
      · rw [if_pos e] at hC; cases hC
      · rw [if_neg e] at hC
        obtain ⟨x, hx, hxk⟩ := hk2 s' v' hC
        refine ⟨x, ?_, hxk⟩
        rw [hsub]
        obtain ⟨i, hi⟩ := List.getElem?_of_mem hx
        have hij : i ≠ j := by
          rintro rfl
          rw [h2] at hi; cases hi
          exact e (key_inj (hxk.symm.trans h3))
        by_cases hlt : i < j
        · exact List.mem_of_getElem? (i := i) (by rw [List.getElem?_eraseIdx, if_pos hlt]; exact hi)
        · exact List.mem_of_getElem? (i := i - 1) (by rw [List.getElem?_eraseIdx, if_neg (by omega), show i - 1 + 1 = i from by omega]; exact hi)

theorem StrMap.entry (h : StrMap w m C) (hk : P.underlying k = some .string) (ht : P.underlying t = some (.map k e)) {s : List UInt8} (hs : s.length ≤ maxLen) {v : Value} (hC : C s = some v) :
    ∃ st : Nat, (Instr.mapEntry t (.map (some m)) (.string ⟨s.toArray⟩)).run P w = .ok (.tuple #[v, goInt st]) w ∧ Ent w m s st := by
  obtain ⟨es, clock, hb, hst, hk1, hk2⟩ := h
  have hck := (string_law hk).check w false (key_of hk hs)
  rcases find_in (w := w) hk hs hk1 with ⟨h1, h2⟩ | ⟨j, e0, h1, h2, h3⟩
  · obtain ⟨x, hx, hxk⟩ := hk2 s v hC
    exact absurd hxk (h2 x hx)
  · have hj : es[j]? = some e0 := by simpa using h2
    have hsame : es.modify j (fun e => { e with key := .string ⟨s.toArray⟩ }) = es := by
      apply Array.ext'
      rw [Array.toList_modify, modify_eq_set _ _ _ _ h2]
      have : ({ e0 with key := .string ⟨s.toArray⟩ } : MapEntry) = e0 := by rw [← h3]
      rw [this]
      exact set_self _ _ _ h2
    obtain ⟨s', g1, _, g3⟩ := hk1 e0 (List.mem_of_getElem? h2)
    obtain rfl : s' = s := key_inj (g1.symm.trans h3)
    have hv : e0.val = v := Option.some.inj (g3.symm.trans hC)
    have hself : ({ w with heap := w.heap.setIfInBounds m (.map es clock) } : World) = w := by
      have : w.heap.setIfInBounds m (.map es clock) = w.heap := by
        apply Array.ext'
        rw [Array.toList_setIfInBounds]
        exact set_self _ _ _ (by simpa using hb)
      rw [this]
    refine ⟨e0.born, ?_, es, clock, hb, e0, List.mem_of_getElem? h2, h3, rfl⟩
    simp [Instr.mapEntry, run_underlying ht, MapKept.run_getObj_map hb, hck, h1, hj, h3, (string_law hk).stays w (key_of hk hs), hsame, MapKept.run_setObj_map _ hb, Result.andThen, hself, hv]

theorem StrMap.store (h : StrMap w m C) {s : List UInt8} {st : Nat} (he : Ent w m s st) (v : Value) :
    ∃ w', (Instr.entryStore t (.map (some m)) (goInt st) v).run P w = .ok () w' ∧ StrMap w' m (setKey C s v) ∧ w.grownBy w' (some m) ∧ ∀ s' st', Ent w m s' st' → Ent w' m s' st' := by
  obtain ⟨es, clock, hb, hst, hk1, hk2⟩ := h
  obtain ⟨es', clock', hb', x, hx, hxk, hxb⟩ := he
  rw [hb] at hb'; cases hb'
  obtain ⟨j, hj⟩ := List.getElem?_of_mem hx
  have hidx : es.findIdx? (fun e => ((e.born : Nat) : Int) == ((x.born : Nat) : Int)) = some j := by
    rw [findIdx_arr]
    exact findIdx_born hst.2.1 hj
  subst hxb
  refine ⟨setBlock w m (.map (es.modify j fun e => { e with val := v }) clock), ?_, strMap_modify hb hst hk1 hk2 hj hxk v, set_grown w m hb, ?_⟩
  · simp [Instr.entryStore, MapKept.run_getObj_map hb, asInt, asIntOf, goInt, hidx, MapKept.run_setObj_map _ hb, Result.andThen, setBlock]
  · rintro s' st' ⟨es2, clock2, hb2, y, hy, hyk, hyb⟩
    rw [hb] at hb2; cases hb2
    refine ⟨_, clock, heap_setBlock_same hb _, ?_⟩
    obtain ⟨i, hi⟩ := List.getElem?_of_mem hy
    by_cases hij : i = j
    · subst hij
      exact ⟨_, mem_mod_same hi, hyk, hyb⟩
    · exact ⟨y, mem_mod_other hij hi, hyk, hyb⟩
end
end Go.Proofs.YtkjfafnnnkjoeaaGreatDoor
