/- A map of the call's own with keys of any comparable kind: what stands in it, as a function; a look into it, an entry set. resource: a key as what a map is keyed by. resource: what newest is of a list of versions: plain. resource: blocks that are laid, and what stands still. resource: newest of any list: the walk. resource: Order, and the closure that Sort goes by, with the worlds that they end in. the shelf's contracts, laid. resource: Sort of any list: its walk. ResourceSorted: at most twenty things; Things with Own set, in a row. resource's law: alike, of a list twice. ResourceSorted: the walk. -/
import Derived.Maps.OwnSet
import Derived.WideKeyEntry
import Derived.WalkKit
import Derived.Below
import Derived.Deep.QuietTactic
import Derived.BigQuiet
import Derived.Deep.AppendLies
import Derived.Test.YtjolgalfjahceaaGreatDoorChecked
import Derived.DeepKeys4
import Derived.Maps.Keyed
import Derived.Test.YtjolgalfjahceaaGreatDoorVrKey
import Derived.Laws.Strings
import Derived.Test.YtjolgalfjahceaaGreatDoorVrGet
import Derived.Laws.Rows
import Derived.Laws.Tables
import Derived.Lib.Hide
import Derived.Test.YtjolgalfjahceaaGreatDoorVrCutL
import Derived.Laws.OwnMore
import Derived.Carry
import Derived.Test.YtjolgalfjahceaaGreatDoorCkOrdP
import Derived.Test.YtjolgalfjahceaaGreatDoorVrPlain
import Derived.Shelf.SlSortCmp.WholeK
import Derived.WalkSpells
import Derived.Shelf.SlSortCmp.NoneTotal
import Derived.Lib.OwnBridge
import Derived.Lib.AppendIntMem
import Derived.Test.YtjolgalfjahceaaGreatDoorVrThings
import Derived.Test.YtjolgalfjahceaaGreatDoorOpen
import Derived.SizedLaws
namespace Go.Proofs.YtjolgalfjahceaaGreatDoor
open Go.RowKit Go.MapKept Go.WideMaps Go.WideElems Go.ChangeMaps

/-- Block m is a map; of a key C tells what stands there. -/
def KMap {κ : Type} (enc : κ → Value) (ok : κ → Prop) (w : World) (m : Nat) (C : κ → Option Value) : Prop :=
  ∃ es clock, w.heap[m]? = some (.map es clock) ∧ Stamped es clock ∧ (∀ x ∈ es.toList, ∃ s : κ, x.key = (enc s) ∧ ok s ∧ C s = some x.val) ∧ (∀ s v, C s = some v → ∃ x ∈ es.toList, x.key = (enc s))
open Classical in
noncomputable def kset {κ : Type} (C : κ → Option Value) (s : κ) (v : Value) : κ → Option Value := fun x => if x = s then some v else C x
theorem kset_same {κ : Type} (C : κ → Option Value) (s : κ) (v : Value) : kset C s v s = some v := by simp [kset]
theorem kset_other {κ : Type} {C : κ → Option Value} {s x : κ} {v : Value} (h : x ≠ s) : kset C s v x = C x := by simp [kset, h]

theorem KMap.lt {κ : Type} {enc : κ → Value} {ok : κ → Prop} {w : World} {m : Nat} {C : κ → Option Value} (h : KMap enc ok w m C) : m < w.heap.size := by
  obtain ⟨es, clock, hb, _⟩ := h
  exact (Array.getElem?_eq_some_iff.1 hb).1
theorem KMap.kept {κ : Type} {enc : κ → Value} {ok : κ → Prop} {w w' : World} {m : Nat} {C : κ → Option Value} {row : Option Nat} (h : KMap enc ok w m C) (hg : w.grownBy w' row) (hne : some m ≠ row) : KMap enc ok w' m C := by
  have hlt := h.lt
  obtain ⟨es, clock, hb, rest⟩ := h
  exact ⟨es, clock, (hg.block m hlt hne).trans hb, rest⟩
theorem KMap.below {κ : Type} {enc : κ → Value} {ok : κ → Prop} {w w' : World} {m n : Nat} {C : κ → Option Value} (h : KMap enc ok w m C) (hb : Below n w w') (hm : m < n) : KMap enc ok w' m C := by
  obtain ⟨es, clock, hb', rest⟩ := h
  exact ⟨es, clock, (hb.block m hm).trans hb', rest⟩
theorem kmap_new {κ : Type} (enc : κ → Value) (ok : κ → Prop) (w : World) : KMap enc ok (w.alloc (.map #[] 0)) w.heap.size (fun _ => none) :=
  ⟨#[], 0, (MapKept.heap_alloc w _).1, stamped_empty 0, by simp, by simp⟩

section
variable {κ : Type} {enc : κ → Value} {ok : κ → Prop} {lit : κ → Lit} {P : Program} {t k e : TypeId} {w : World} {m : Nat} {C : κ → Option Value}

theorem km_find (hk : KeyLaw P k) (hK : ∀ x, ok x → keyOf P k (enc x) = some (lit x)) {es : Array MapEntry} {s : κ} (hs : ok s) (hkeys : ∀ x ∈ es.toList, ∃ s : κ, x.key = (enc s) ∧ ok s ∧ C s = some x.val) :
    ((Instr.findKey k ((enc s)) es.toList).run P w = .ok none w ∧ ∀ e ∈ es.toList, e.key ≠ (enc s)) ∨ ∃ j e, (Instr.findKey k ((enc s)) es.toList).run P w = .ok (some (j, e.val)) w ∧ es.toList[j]? = some e ∧ e.key = (enc s) :=
  hk.find w (hK _ hs) es.toList (fun x hx => by
    obtain ⟨s', hk', hl, _⟩ := hkeys x hx
    exact ⟨_, by rw [hk']; exact hK _ hl⟩)

theorem KMap.lookup (h : KMap enc ok w m C) (hk : KeyLaw P k) (hK : ∀ x, ok x → keyOf P k (enc x) = some (lit x)) (hinj : ∀ {a b : κ}, enc a = enc b → a = b) (ht : P.underlying t = some (.map k e)) {z : Value} (hz : (zeroValue e).run P w = .ok z w) {s : κ} (hs : ok s) (c : Bool) :
    (Instr.lookup t (.map (some m)) ((enc s)) c).run P w = .ok (if c then .tuple #[(C s).getD z, .bool (C s).isSome] else (C s).getD z) w := by
  obtain ⟨es, clock, hb, hst, hk1, hk2⟩ := h
  have hck := hk.check w es.isEmpty (hK _ hs)
  rcases km_find (w := w) hk hK hs hk1 with ⟨h1, h2⟩ | ⟨j, e0, h1, h2, h3⟩
  · have hn : C s = none := by
      cases hC : C s with
      | none => rfl
      | some v =>
        obtain ⟨x, hx, hxk⟩ := hk2 s v hC
        exact absurd hxk (h2 x hx)
    simp [Instr.lookup, run_underlying ht, MapKept.run_getObj_map hb, hck, h1, hz, Result.andThen, hn]
  · obtain ⟨s', hk', _, hC⟩ := hk1 e0 (List.mem_of_getElem? h2)
    have : s' = s := hinj (hk'.symm.trans h3)
    subst this
    simp [Instr.lookup, run_underlying ht, MapKept.run_getObj_map hb, hck, h1, Result.andThen, hC]

theorem km_grown (w : World) (m : Nat) {es es' : Array MapEntry} {clock clock' : Nat} (hb : w.heap[m]? = some (.map es clock)) : w.grownBy (setBlock w m (.map es' clock')) (some m) :=
  ⟨rfl, rfl, rfl, by simp [setBlock], fun i _ hi => heap_setBlock_other hb _ (fun e => hi (by rw [e]))⟩

theorem km_mod {es : Array MapEntry} {j : Nat} {f : MapEntry → MapEntry} {x : MapEntry} (hx : x ∈ (es.modify j f).toList) : (∃ i, i ≠ j ∧ es.toList[i]? = some x) ∨ ∃ e, es.toList[j]? = some e ∧ x = f e := by
  obtain ⟨i, hi⟩ := List.getElem?_of_mem hx
  rw [Array.toList_modify, List.getElem?_modify] at hi
  cases he : es.toList[i]? with
  | none => rw [he] at hi; cases hi
  | some e =>
    rw [he] at hi
    have hi' : (if j = i then f e else e) = x := Option.some.inj hi
    by_cases hij : j = i
    · subst hij
      rw [if_pos rfl] at hi'
      exact .inr ⟨e, he, hi'.symm⟩
    · rw [if_neg hij] at hi'
      subst hi'
      exact .inl ⟨i, fun e => hij e.symm, he⟩
theorem km_mod_other {es : Array MapEntry} {j i : Nat} {f : MapEntry → MapEntry} {x : MapEntry} (hij : i ≠ j) (hx : es.toList[i]? = some x) : x ∈ (es.modify j f).toList := by
  apply List.mem_of_getElem? (i := i)
  rw [Array.toList_modify, List.getElem?_modify, hx]
  show some (if j = i then f x else x) = _
  rw [if_neg (fun e => hij e.symm)]
theorem km_mod_same {es : Array MapEntry} {j : Nat} {f : MapEntry → MapEntry} {x : MapEntry} (hx : es.toList[j]? = some x) : f x ∈ (es.modify j f).toList := by
  apply List.mem_of_getElem? (i := j)
  rw [Array.toList_modify, List.getElem?_modify, hx]
  show some (if j = j then f x else x) = _
  rw [if_pos rfl]

/-- The element of an entry is set: what the map tells then. -/
theorem kmap_modify (hinj : ∀ {a b : κ}, enc a = enc b → a = b) {es : Array MapEntry} {clock : Nat} (hb : w.heap[m]? = some (.map es clock)) (hst : Stamped es clock) (hk1 : ∀ x ∈ es.toList, ∃ s : κ, x.key = (enc s) ∧ ok s ∧ C s = some x.val)
    (hk2 : ∀ s v, C s = some v → ∃ x ∈ es.toList, x.key = (enc s)) {j : Nat} {e0 : MapEntry} (hj : es.toList[j]? = some e0) {s : κ} (hs : e0.key = (enc s)) (v : Value) :
    KMap enc ok (setBlock w m (.map (es.modify j fun e => { e with val := v }) clock)) m (kset C s v) := by
  refine ⟨_, clock, heap_setBlock_same hb _, stamped_modify hst j _ (fun _ _ => rfl) (fun _ _ _ => rfl), fun x hx => ?_, fun s' v' hC => ?_⟩
  · rcases km_mod hx with ⟨i, hi, hxi⟩ | ⟨e1, he1, rfl⟩
    · obtain ⟨s', h1, h2, h3⟩ := hk1 x (List.mem_of_getElem? hxi)
      refine ⟨s', h1, h2, ?_⟩
      rw [kset_other]; exact h3
      rintro rfl
      obtain ⟨_, _, hn⟩ := hst
      have hi' := (List.getElem?_eq_some_iff.1 hxi).1
      have hj' := (List.getElem?_eq_some_iff.1 hj).1
      have := (List.getElem_inj (xs := es.toList.map (·.key)) (i := i) (j := j) (h₀ := by simpa using hi') (h₁ := by simpa using hj') hn).1 (by
        rw [List.getElem_map, List.getElem_map, (List.getElem?_eq_some_iff.1 hxi).2, (List.getElem?_eq_some_iff.1 hj).2, h1, hs])
      exact hi this
    · rw [hj] at he1
      cases he1
      obtain ⟨s', h1, h2, _⟩ := hk1 e0 (List.mem_of_getElem? hj)
      obtain rfl : s' = s := hinj (h1.symm.trans hs)
      exact ⟨s', h1, h2, kset_same _ _ _⟩
  · by_cases e : s' = s
    · subst e; exact ⟨_, km_mod_same hj, hs⟩
    · rw [kset_other e] at hC
      obtain ⟨x, hx, hxk⟩ := hk2 s' v' hC
      obtain ⟨i, hi⟩ := List.getElem?_of_mem hx
      by_cases hij : i = j
      · subst hij
        rw [hj] at hi; cases hi
        exact absurd (hinj (hxk.symm.trans hs)) e
      · exact ⟨x, km_mod_other hij hi, hxk⟩

theorem KMap.update (h : KMap enc ok w m C) (hk : KeyLaw P k) (hK : ∀ x, ok x → keyOf P k (enc x) = some (lit x)) (hinj : ∀ {a b : κ}, enc a = enc b → a = b) (ht : P.underlying t = some (.map k e)) {s : κ} (hs : ok s) (v : Value) :
    ∃ w', (Instr.mapUpdate t (.map (some m)) ((enc s)) v).run P w = .ok () w' ∧ KMap enc ok w' m (kset C s v) ∧ w.grownBy w' (some m) := by
  obtain ⟨es, clock, hb, hst, hk1, hk2⟩ := h
  have hck := hk.check w false (hK _ hs)
  rcases km_find (w := w) hk hK hs hk1 with ⟨h1, h2⟩ | ⟨j, e0, h1, h2, h3⟩
  · refine ⟨setBlock w m (.map (es.push ⟨(enc s), v, clock⟩) (clock + 1)), ?_, ⟨_, _, heap_setBlock_same hb _, stamped_push hst h2, fun x hx => ?_, fun s' v' hC => ?_⟩, km_grown w m hb⟩
    · simp [Instr.mapUpdate, run_underlying ht, MapKept.run_getObj_map hb, hck, h1, MapKept.run_setObj_map _ hb, Result.andThen, setBlock]
    · rw [Array.toList_push] at hx
      rcases List.mem_append.1 hx with hx | hx
      · obtain ⟨s', g1, g2, g3⟩ := hk1 x hx
        exact ⟨s', g1, g2, by rw [kset_other (fun e => h2 x hx (by rw [g1, e]))]; exact g3⟩
      · simp at hx; subst hx
        exact ⟨s, rfl, hs, kset_same _ _ _⟩
    · by_cases e : s' = s
      · subst e; exact ⟨⟨(enc s'), v, clock⟩, by simp, rfl⟩
      · rw [kset_other e] at hC
        obtain ⟨x, hx, hxk⟩ := hk2 s' v' hC
        exact ⟨x, by rw [Array.toList_push]; exact List.mem_append_left _ hx, hxk⟩
  · have hmod : es.modify j (fun e => { e with key := (enc s), val := v }) = es.modify j (fun e => { e with val := v }) := by
      apply Array.ext'
      rw [Array.toList_modify, Array.toList_modify, modify_eq_set _ _ _ _ h2, modify_eq_set _ _ _ _ h2, ← h3]
    refine ⟨setBlock w m (.map (es.modify j fun e => { e with val := v }) clock), ?_, kmap_modify hinj hb hst hk1 hk2 h2 h3 v, km_grown w m hb⟩
    have hj : es[j]? = some e0 := by simpa using h2
    simp [Instr.mapUpdate, run_underlying ht, MapKept.run_getObj_map hb, hck, h1, hj, h3, hk.stays w (hK _ hs), hmod, MapKept.run_setObj_map _ hb, Result.andThen, setBlock]
end
end Go.Proofs.YtjolgalfjahceaaGreatDoor
namespace Go.Proofs.YtjolgalfjahceaaGreatDoor
open Go.RowKit Go.WideMaps

theorem Tryz.rkLaid : laidOutB Tryz.prog = true := by kernel_rfl
theorem Tryz.rkLaw : KeyLaw Tryz.prog 24 := deep_law_laid Tryz.rkLaid (m := 2) (by omega) (of_decide_eq_true (by kernel_rfl)) (by kernel_rfl) (by kernel_rfl)
/-- A key: its Type, its Name. -/
abbrev Rk := Int × ByteArray
abbrev rkV (k : Rk) : Value := .agg #[.int .i64 k.1, .string k.2]
def rkOk (k : Rk) : Prop := k.2.size ≤ maxLen ∧ -9223372036854775808 ≤ k.1 ∧ k.1 ≤ 9223372036854775807
def rkLit (k : Rk) : Lit := .string (keyBytes [.int .i64 k.1, .string k.2.data.toList])
theorem rkV_inj {a b : Rk} (h : rkV a = rkV b) : a = b := by
  obtain ⟨a1, a2⟩ := a
  obtain ⟨b1, b2⟩ := b
  simp at h
  obtain ⟨rfl, rfl⟩ := h
  rfl
theorem rkKey (k : Rk) (h : rkOk k) : keyOf Tryz.prog 24 (rkV k) = some (rkLit k) := by
  obtain ⟨t, x⟩ := k
  obtain ⟨hs, h1, h2⟩ := h
  have hk : Tryz.prog.keyType 24 = true := by kernel_rfl
  have hc : Tryz.prog.cellsOf 24 = 2 := by kernel_rfl
  have cS : Tryz.prog.cellsOf 9 = 1 := by kernel_rfl
  have cU : Tryz.prog.cellsOf 3 = 1 := by kernel_rfl
  have hw : (Lit.int .i64 t).wf = true := by
    have e1 : IntKind.i64.min = -9223372036854775808 := by kernel_rfl
    have e2 : IntKind.i64.max = 9223372036854775807 := by kernel_rfl
    simp only [Lit.wf, e1, e2, Bool.and_eq_true, decide_eq_true_eq]; exact ⟨h1, h2⟩
  have h0 : 1 < Tryz.prog.types.size := of_decide_eq_true (by kernel_rfl)
  obtain ⟨m, hm⟩ : ∃ m, Tryz.prog.types.size = m + 1 := ⟨Tryz.prog.types.size - 1, by omega⟩
  obtain ⟨m', hm'⟩ : ∃ m', m = m' + 1 := ⟨m - 1, by omega⟩
  subst hm'
  clear h0
  have hs' : x.size ≤ maxLen := hs
  unfold keyOf rkLit
  simp only [Tryz.underlying24]
  rw [if_pos (by simp [hk, Value.formed, Tryz.underlying24, hc]), hm]
  unfold Program.keyLits
  simp only [Tryz.underlying24, Value.cells]
  rw [if_pos (by rw [hc]; exact ⟨rfl, by kernel_rfl⟩)]
  simp [Program.keyLits, Tryz.underlying9, Tryz.underlying3, cS, cU, hs', hw]
end Go.Proofs.YtjolgalfjahceaaGreatDoor
namespace Go.Proofs.YtjolgalfjahceaaGreatDoor
open Go.RowKit

def kOf (r : Vr) : Rk := (r.t, r.x)
theorem ba_of_list {x y : ByteArray} (h : x.toList = y.toList) : x = y := by
  rw [ByteArray.toList_eq, ByteArray.toList_eq] at h
  obtain ⟨x⟩ := x
  obtain ⟨y⟩ := y
  exact congrArg ByteArray.mk (Array.ext' h)
theorem keyB_iff (k : Rk) (r : Vr) : keyB k.1 k.2 r = true ↔ kOf r = k := by
  unfold keyB kOf
  simp only [Bool.and_eq_true, beq_iff_eq]
  constructor
  · rintro ⟨h1, h2⟩
    rw [h1, ba_of_list h2]
  · rintro rfl
    exact ⟨rfl, rfl⟩
/-- One more version is taken: of each key the newest, of these the first, at the place where its key comes first. -/
def newStep (out : List Vr) (r : Vr) : List Vr :=
  match out.findIdx? (keyB r.t r.x) with
  | none => out ++ [r]
  | some i => if ((out[i]?.map Vr.q).getD 0) < r.q then out.set i r else out
def newL (l : List Vr) : List Vr := l.foldl newStep []
theorem snoc_of {α : Type} (l : List α) (h : l ≠ []) : ∃ l' r, l = l' ++ [r] := by
  rcases List.eq_nil_or_concat l with e | ⟨l', r, e⟩
  · exact absurd e h
  · exact ⟨l', r, by rw [e]; simp⟩
theorem newL_nil : newL [] = [] := rfl
theorem newL_snoc (l : List Vr) (r : Vr) : newL (l ++ [r]) = newStep (newL l) r := by simp [newL]
theorem newL_next {l : List Vr} {k : Nat} {r : Vr} (h : l[k]? = some r) : newL (l.take (k + 1)) = newStep (newL (l.take k)) r := by
  rw [List.take_add_one, h]; exact newL_snoc _ _
theorem newStep_len (out : List Vr) (r : Vr) : (newStep out r).length ≤ out.length + 1 := by
  unfold newStep
  split
  · simp
  · split <;> simp
theorem newL_len : ∀ (n : Nat) (l : List Vr), l.length = n → (newL l).length ≤ n
  | 0, l, h => by rw [List.eq_nil_of_length_eq_zero h]; exact Nat.le_refl _
  | n + 1, l, h => by
    obtain ⟨l', r, rfl⟩ : ∃ l' r, l = l' ++ [r] := snoc_of l (by intro e; rw [e] at h; simp at h)
    rw [newL_snoc]
    have := newL_len n l' (by simp at h; omega)
    exact Nat.le_trans (newStep_len _ _) (by omega)
/-- At which place a key stands. -/
def posC (out : List Vr) : Rk → Option Value := fun k => (out.findIdx? (keyB k.1 k.2)).map fun i => .int .i64 (i : Int)
theorem posC_nil : posC [] = fun _ => none := rfl
theorem posC_push {out : List Vr} {r : Vr} (h : out.findIdx? (keyB r.t r.x) = none) : posC (out ++ [r]) = kset (posC out) (kOf r) (.int .i64 (out.length : Int)) := by
  funext k
  unfold posC
  by_cases e : k = kOf r
  · subst e
    rw [kset_same, List.findIdx?_append]
    have h' : out.findIdx? (keyB (kOf r).1 (kOf r).2) = none := h
    have hy : keyB (kOf r).1 (kOf r).2 r = true := (keyB_iff (kOf r) r).2 rfl
    rw [h']
    simp [List.findIdx?_cons, hy]
  · rw [kset_other e, List.findIdx?_append]
    have hn : keyB k.1 k.2 r = false := by
      cases hb : keyB k.1 k.2 r with
      | false => rfl
      | true => exact absurd ((keyB_iff k r).1 hb).symm e
    cases out.findIdx? (keyB k.1 k.2) with
    | none => simp [List.findIdx?_cons, hn]
    | some i => simp
theorem keyB_same {r s : Vr} (h : keyB r.t r.x s = true) (k : Rk) : keyB k.1 k.2 r = keyB k.1 k.2 s := by
  have e : kOf s = kOf r := (keyB_iff (kOf r) s).1 h
  rw [Bool.eq_iff_iff, keyB_iff, keyB_iff, e]
theorem posC_set {out : List Vr} {r : Vr} {i : Nat} (h : out.findIdx? (keyB r.t r.x) = some i) : posC (out.set i r) = posC out := by
  obtain ⟨hi, hy, _⟩ := List.findIdx?_eq_some_iff_getElem.1 h
  funext k
  unfold posC
  have : (out.set i r).findIdx? (keyB k.1 k.2) = out.findIdx? (keyB k.1 k.2) := by
    have hm : (out.set i r).map (keyB k.1 k.2) = out.map (keyB k.1 k.2) := by
      rw [List.map_set]
      apply List.ext_getElem?
      intro j
      rw [List.getElem?_set]
      split
      · rename_i hij
        subst hij
        rw [List.getElem?_map, List.getElem?_eq_getElem hi]
        simp [hi, keyB_same hy k]
      · rfl
    have hf : ∀ l : List Vr, l.findIdx? (keyB k.1 k.2) = (l.map (keyB k.1 k.2)).findIdx? id := fun l => by rw [List.findIdx?_map]; rfl
    rw [hf, hf, hm]
  rw [this]
/-- The keys of a list, each once. -/
def Once (l : List Vr) : Prop := (l.map kOf).Nodup
theorem newStep_once {out : List Vr} {r : Vr} (h : Once out) : Once (newStep out r) := by
  unfold newStep
  split
  · rename_i hn
    unfold Once
    rw [List.map_append, List.nodup_append]
    refine ⟨h, by simp, ?_⟩
    intro a ha b hb
    simp at hb
    subst hb
    rintro rfl
    obtain ⟨s, hs, he⟩ := List.mem_map.1 ha
    have := List.findIdx?_eq_none_iff.1 hn s hs
    have hy : keyB r.t r.x s = true := (keyB_iff (kOf r) s).2 he
    rw [hy] at this
    cases this
  · rename_i i hi
    split
    · obtain ⟨hl, hy, _⟩ := List.findIdx?_eq_some_iff_getElem.1 hi
      have e : kOf out[i] = kOf r := (keyB_iff (kOf r) _).1 hy
      unfold Once
      have : (out.set i r).map kOf = out.map kOf := by
        rw [List.map_set]
        apply List.ext_getElem?
        intro j
        rw [List.getElem?_set]
        split
        · rename_i hij
          subst hij
          simp [hl, e]
        · rfl
      rw [this]; exact h
    · exact h
theorem newL_once (l : List Vr) : Once (newL l) := by
  have : ∀ (l out : List Vr), Once out → Once (l.foldl newStep out) := by
    intro l
    induction l with
    | nil => intro out h; exact h
    | cons r l ih => intro out h; exact ih _ (newStep_once h)
  exact this l [] (by simp [Once])
/-- All that were taken are there, or newer ones. -/
def Covers (out : List Vr) (a : Vr) : Prop := ∃ b ∈ out, kOf b = kOf a ∧ a.q ≤ b.q
theorem newStep_covers {out : List Vr} {r a : Vr} (h : Covers out a) : Covers (newStep out r) a := by
  obtain ⟨b, hb, hk, hq⟩ := h
  unfold newStep
  split
  · exact ⟨b, List.mem_append_left _ hb, hk, hq⟩
  · rename_i i hi
    split
    · rename_i hlt
      obtain ⟨hl, hy, _⟩ := List.findIdx?_eq_some_iff_getElem.1 hi
      have e : kOf out[i] = kOf r := (keyB_iff (kOf r) _).1 hy
      obtain ⟨j, hj, rfl⟩ := List.getElem_of_mem hb
      by_cases hij : i = j
      · subst hij
        rw [List.getElem?_eq_getElem hl] at hlt
        simp at hlt
        exact ⟨r, List.mem_of_getElem? (i := i) (by rw [List.getElem?_set_self hl]), e.symm.trans hk, by omega⟩
      · exact ⟨out[j], List.mem_of_getElem? (i := j) (by rw [List.getElem?_set_ne hij]; exact List.getElem?_eq_getElem hj), hk, hq⟩
    · exact ⟨b, hb, hk, hq⟩
theorem newStep_has (out : List Vr) (r : Vr) : Covers (newStep out r) r := by
  unfold newStep
  split
  · exact ⟨r, by simp, rfl, Nat.le_refl _⟩
  · rename_i i hi
    obtain ⟨hl, hy, _⟩ := List.findIdx?_eq_some_iff_getElem.1 hi
    have e : kOf out[i] = kOf r := (keyB_iff (kOf r) _).1 hy
    split
    · exact ⟨r, List.mem_of_getElem? (i := i) (by rw [List.getElem?_set_self hl]), rfl, Nat.le_refl _⟩
    · rename_i hge
      rw [List.getElem?_eq_getElem hl] at hge
      simp at hge
      exact ⟨out[i], List.getElem_mem hl, e, hge⟩
theorem newL_covers (l : List Vr) : ∀ a ∈ l, Covers (newL l) a := by
  have : ∀ (l out : List Vr), (∀ a, Covers out a → Covers (l.foldl newStep out) a) ∧ (∀ a ∈ l, Covers (l.foldl newStep out) a) := by
    intro l
    induction l with
    | nil => intro out; exact ⟨fun a h => h, by simp⟩
    | cons r l ih =>
      intro out
      refine ⟨fun a h => (ih _).1 a (newStep_covers h), fun a ha => ?_⟩
      rcases List.mem_cons.1 ha with rfl | ha
      · exact (ih _).1 _ (newStep_has _ _)
      · exact (ih _).2 a ha
  exact fun a ha => (this l []).2 a ha
/-- Of a list that has each key once it is the list. -/
theorem newL_self : ∀ (n : Nat) (l : List Vr), l.length = n → Once l → newL l = l
  | 0, l, h, _ => by rw [List.eq_nil_of_length_eq_zero h]; rfl
  | n + 1, l, h, ho => by
    obtain ⟨l', r, rfl⟩ : ∃ l' r, l = l' ++ [r] := snoc_of l (by intro e; rw [e] at h; simp at h)
    unfold Once at ho
    rw [List.map_append, List.nodup_append] at ho
    rw [newL_snoc, newL_self n l' (by simp at h; omega) ho.1]
    unfold newStep
    have hn : l'.findIdx? (keyB r.t r.x) = none := by
      rw [List.findIdx?_eq_none_iff]
      intro s hs
      cases hb : keyB r.t r.x s with
      | false => rfl
      | true =>
        have e : kOf s = kOf r := (keyB_iff (kOf r) s).1 hb
        exact absurd e (ho.2.2 _ (List.mem_map.2 ⟨s, hs, rfl⟩) _ (by simp))
    rw [hn]
end Go.Proofs.YtjolgalfjahceaaGreatDoor
namespace Go.Proofs.YtjolgalfjahceaaGreatDoor
open Go.RowKit Go.Lib

theorem Blk.later {W W' : World} {B : Nat} {c : Array Value} {t : TypeId} (h : Blk W B c t) (hb : Below W.heap.size W W') : Blk W' B c t := h.below hb h.lt
theorem alloc_sized (w : World) (cs : Array Value) (t : TypeId) : ∃ w', w.alloc (.cells cs t) = w' ∧ Below w.heap.size w w' ∧ Blk w' w.heap.size cs t ∧ w'.heap.size = w.heap.size + 1 :=
  ⟨_, rfl, (Below.refl _ _).alloc (Nat.le_refl _) _, Blk.new _ _ _, by simp⟩
/-- All that stood in W is as it was. -/
def Base (W w : World) : Prop := Below W.heap.size W w
theorem Base.later {W w w' : World} (h : Base W w) (hb : Below w.heap.size w w') : Base W w' := Below.trans h (hb.mono (Below.size h))
theorem alloc_new (w : World) (cs : Array Value) (t : TypeId) : ∃ w', w.alloc (.cells cs t) = w' ∧ Below w.heap.size w w' ∧ Blk w' w.heap.size cs t := ⟨_, rfl, (Below.refl _ _).alloc (Nat.le_refl _) _, Blk.new _ _ _⟩
theorem drew_new (w : World) : ∃ w', w.drew = w' ∧ Below w.heap.size w w' := ⟨_, rfl, (Below.refl _ _).drew⟩
/-- But for block b, all is as it was. -/
structure Just (b : Nat) (w w' : World) : Prop where
  os : w'.os = w.os
  tape : w'.tape = w.tape
  output : w'.output = w.output
  size : w'.heap.size = w.heap.size
  block : ∀ k, k ≠ b → w'.heap[k]? = w.heap[k]?
theorem Just.below {b n : Nat} {w w' : World} (h : Just b w w') (hn : n ≤ b) : Below n w w' := ⟨h.os, h.tape, h.output, by rw [h.size]; exact Nat.le_refl _, fun k hk => h.block k (by omega)⟩
theorem Just.blk {b k : Nat} {w w' : World} {c : Array Value} {t : TypeId} (h : Just b w w') (hk : k ≠ b) (hb : Blk w k c t) : Blk w' k c t := (h.block k hk).trans hb
theorem Just.cell {b : Nat} {w w' : World} {g o : Nat} (h : Just b w w') (hg : g ≠ b) : w'.cell? ⟨g, o, none⟩ = w.cell? ⟨g, o, none⟩ := by
  unfold World.cell?
  rw [h.block g hg]
theorem Just.row {b : Nat} {w w' : World} {g : Nat} {fs : List Fd} (h : Just b w w') (hg : g ≠ b) (hr : RowAt w g fs) : RowAt w' g fs :=
  ⟨by rw [h.size]; exact hr.1, fun i hi => by
    obtain ⟨h0, h1, h2, h3⟩ := hr.2 i hi
    exact ⟨(h.cell hg).trans h0, (h.cell hg).trans h1, (h.cell hg).trans h2, (h.cell hg).trans h3⟩⟩
theorem row_new {w : World} {b : Nat} {c : Array Value} {t : TypeId} (hb : Blk w b c t) (c' : Array Value) : ∃ w', w.setRow b c' = w' ∧ Blk w' b c' t ∧ Just b w w' :=
  ⟨_, rfl, setRow_heap w b c c' t (0, 0) hb, rfl, rfl, rfl, setRow_size w b c', fun k hk => setRow_other w b k c' hk⟩
end Go.Proofs.YtjolgalfjahceaaGreatDoor
namespace Go.Proofs.YtjolgalfjahceaaGreatDoor
open Go.RowKit

theorem rs_zeroI (w : World) : (zeroValue 3).run Tryz.prog w = .ok (.int .i64 0) w := by kernel_rfl
set_option maxRecDepth 100000 in
theorem newer_any (a b : Vr) (w : World) :
    Calls Tryz.prog 16 #[a.v, b.v] w fun e w' => e = .returned (.bool (decide (b.q < a.q))) ∧ Below w.heap.size w w' := by
  obtain ⟨at', ax, aq, ag, az⟩ := a
  obtain ⟨bt, bx, bq, bg, bs⟩ := b
  have hb0 := Lib.hid (((Below.refl w.heap.size w).alloc (Nat.le_refl _) (.cells #[.int .i64 at', .string ax, .int .u64 (aq : Int), .bool ag, .string az] 27)).alloc (by simp) (.cells #[.int .i64 bt, .string bx, .int .u64 (bq : Int), .bool bg, .string bs] 27))
  obtain ⟨A, hA⟩ : ∃ A, decide (bq < aq) = A := ⟨_, rfl⟩
  have hq : decide ((bq : Int) < (aq : Int)) = A := by rw [← hA, decide_eq_decide]; omega
  rw [hA]
  go_enter Tryz.func16, Tryz.ntmps16
  go_wp2
  all_goals
    go_ret
    first | exact ⟨by simp [hq], hb0.out⟩ | exact ⟨by simp [← hA, *], hb0.out⟩ | (refine ⟨?_, hb0.out⟩; simp_all)
theorem row_some {w : World} {base e size n : Nat} {v : Value} {xs : List Value} (h : w.ownsRow base e size v n xs) (hn : 0 < n) : ∃ g cap, v = .slice (some ⟨g, 0, none⟩) n cap ∧ base ≤ g ∧ g < w.heap.size := by
  rcases h.2 with ⟨_, hx⟩ | ⟨g, cap, cur, hv, hb, hg, _⟩
  · omega
  · exact ⟨g, cap, hv, hb, (Array.getElem?_eq_some_iff.1 hg).1⟩
theorem row_shape {w : World} {base e size n : Nat} {v : Value} {xs : List Value} (h : w.ownsRow base e size v n xs) : ∃ a c, v = .slice a n c := by
  rcases h.2 with ⟨hv, hn⟩ | ⟨g, cap, cur, hv, _⟩
  · exact ⟨none, 0, by rw [hv, hn]⟩
  · exact ⟨_, _, hv⟩
theorem own_ne {w : World} {base e size n : Nat} {v : Value} {xs : List Value} (h : w.ownsRow (base + 1) e size v n xs) : v.ownBlock ≠ some base := fun e' => by have := (h.lt _ e').1; omega
theorem vrCells_set : ∀ (out : List Vr) (i : Nat) (r : Vr), i < out.length → vrCells (out.set i r) = (((((vrCells out).set (i * 5) (.int .i64 r.t)).set (i * 5 + 1) (.string r.x)).set (i * 5 + 2) (.int .u64 (r.q : Int))).set (i * 5 + 3) (.bool r.g)).set (i * 5 + 4) (.string r.s)
  | [], _, _, h => by simp at h
  | y :: ys, 0, r, _ => by simp [vrCells]
  | y :: ys, i + 1, r, h => by
    have ih := vrCells_set ys i r (by simpa using h)
    have e : ∀ z zs, vrCells (z :: zs) = [.int .i64 z.t, .string z.x, .int .u64 (z.q : Int), .bool z.g, .string z.s] ++ vrCells zs := fun z zs => by simp [vrCells]
    rw [List.set_cons_succ, e, e, ih]
    have f : ∀ j (l : List Value) (u : Value), ([Value.int .i64 y.t, .string y.x, .int .u64 (y.q : Int), .bool y.g, .string y.s] ++ l).set ((i + 1) * 5 + j) u = [Value.int .i64 y.t, .string y.x, .int .u64 (y.q : Int), .bool y.g, .string y.s] ++ l.set (i * 5 + j) u := fun j l u => by
      rw [List.set_append_right _ _ (by simp; omega)]
      congr 2
      simp; omega
    have f0 : ∀ (l : List Value) (u : Value), ([Value.int .i64 y.t, .string y.x, .int .u64 (y.q : Int), .bool y.g, .string y.s] ++ l).set ((i + 1) * 5) u = [Value.int .i64 y.t, .string y.x, .int .u64 (y.q : Int), .bool y.g, .string y.s] ++ l.set (i * 5) u := f 0
    rw [f0, f 1, f 2, f 3, f 4]

/-- A version in a row. -/
def VrAt (w : World) (R o : Nat) (s : Vr) : Prop := R < w.heap.size ∧ w.cell? ⟨R, o, none⟩ = some (.int .i64 s.t) ∧ w.cell? ⟨R, o + 1, none⟩ = some (.string s.x) ∧ w.cell? ⟨R, o + 2, none⟩ = some (.int .u64 (s.q : Int)) ∧ w.cell? ⟨R, o + 3, none⟩ = some (.bool s.g) ∧ w.cell? ⟨R, o + 4, none⟩ = some (.string s.s)
theorem VrAt.later {w w' : World} {R o : Nat} {s : Vr} (h : VrAt w R o s) (hb : Below w.heap.size w w') : VrAt w' R o s := by
  obtain ⟨hl, h0, h1, h2, h3, h4⟩ := h
  exact ⟨Nat.lt_of_lt_of_le hl hb.size, (hb.cell (p := ⟨R, _, none⟩) hl).trans h0, (hb.cell (p := ⟨R, _, none⟩) hl).trans h1, (hb.cell (p := ⟨R, _, none⟩) hl).trans h2, (hb.cell (p := ⟨R, _, none⟩) hl).trans h3, (hb.cell (p := ⟨R, _, none⟩) hl).trans h4⟩
def rowSet (w : World) (R i : Nat) (r : Vr) : World := ((((w.setCell ⟨R, i * 5, none⟩ (.int .i64 r.t)).setCell ⟨R, i * 5 + 1, none⟩ (.string r.x)).setCell ⟨R, i * 5 + 2, none⟩ (.int .u64 (r.q : Int))).setCell ⟨R, i * 5 + 3, none⟩ (.bool r.g)).setCell ⟨R, i * 5 + 4, none⟩ (.string r.s)
theorem row_set {w : World} {base R cap n i : Nat} {t : TypeId} {out : List Vr} {r : Vr} (h : w.ownsRow base t 5 (.slice (some ⟨R, 0, none⟩) n cap) n (vrCells out)) (hi : i < out.length) :
    (rowSet w R i r).ownsRow base t 5 (.slice (some ⟨R, 0, none⟩) n cap) n (vrCells (out.set i r)) ∧ w.grownBy (rowSet w R i r) (some R) := by
  obtain ⟨h1, g1⟩ := h.stored (i * 5) (.int .i64 r.t)
  obtain ⟨h2, g2⟩ := h1.stored (i * 5 + 1) (.string r.x)
  obtain ⟨h3, g3⟩ := h2.stored (i * 5 + 2) (.int .u64 (r.q : Int))
  obtain ⟨h4, g4⟩ := h3.stored (i * 5 + 3) (.bool r.g)
  obtain ⟨h5, g5⟩ := h4.stored (i * 5 + 4) (.string r.s)
  rw [vrCells_set out i r hi]
  exact ⟨h5, (((g1.trans g2).trans g3).trans g4).trans g5⟩

set_option maxRecDepth 100000 in
set_option maxHeartbeats 4000000 in
theorem new_any (a : Option Addr) (c : Nat) (rs : List Vr) (w : World) (hr : VrsAt w a rs) (hok : ∀ r ∈ rs, rkOk (kOf r)) (hLb : rs.length ≤ 1099511627776) :
    Calls Tryz.prog 22 #[.slice a rs.length c] w (VrsPost (newL rs) w) := by
  obtain ⟨L, hL⟩ : ∃ L, rs.length = L := ⟨_, rfl⟩
  rw [hL] at hLb ⊢
  have HL := Lib.hid hL
  have HR := Lib.hid hr
  have HO := Lib.hid hok
  have hb0 : Below w.heap.size w (w.alloc (.map #[] 0)) := (Below.refl _ _).alloc (Nat.le_refl _) _
  have HM0 := Lib.hid (kmap_new rkV rkOk w)
  obtain ⟨w0, hw0⟩ : ∃ w0, w.alloc (.map #[] 0) = w0 := ⟨_, rfl⟩
  have hs0 : w0.heap.size = w.heap.size + 1 := by rw [← hw0]; simp
  rw [hw0] at hb0 HM0
  have HW0 := Lib.hid hw0
  have HB0 := Lib.hid hb0
  have HS0 := Lib.hid hs0
  obtain ⟨i0, hi, hz0, hz1, hz2⟩ := info_parts Tryz.infoRs
  clear hL hr hok hw0 hb0 hs0
  have hmm := @run_makeMap Tryz.prog
  go_enter Tryz.func22, Tryz.ntmps22
  go_wp2_with (rw [HW0.out])
  go_loopw [3, 12] (fun v i wr => ∃ k : Nat, k ≤ L ∧ i = .int .i64 (k : Int) ∧ wr.ownsRow (w.heap.size + 1) 27 5 v (newL (rs.take k)).length (vrCells (newL (rs.take k))) ∧ KMap rkV rkOk wr w.heap.size (posC (newL (rs.take k))) ∧ Below w.heap.size w wr ∧ w.heap.size < wr.heap.size) (fun _ i _ => L - (RowKit.intOf i).toNat)
  case atStart => exact ⟨0, Nat.zero_le _, rfl, World.ownsRow_nil _ _ _ _, HM0.out, HB0.out, by rw [HS0.out]; omega⟩
  case round =>
    obtain ⟨k, hk, rfl, hrow, hmap, hb, hsz⟩ := hrel
    by_cases hlt : k < L
    · have b1 : (k : Int) < (L : Int) := by omega
      have b0 : (0 : Int) ≤ (k : Int) := by omega
      obtain ⟨r, hx⟩ : ∃ r, rs[k]? = some r := ⟨_, List.getElem?_eq_getElem (by have := HL.out; omega)⟩
      obtain ⟨g, off, rfl, hgl, p0, p1, p2, p3, p4⟩ := (HR.out.below hb) k r hx
      have hNL := newL_next hx
      have hRK := HO.out r (List.mem_of_getElem? hx)
      have hlen : (newL (rs.take k)).length ≤ k := newL_len k _ (by rw [List.length_take]; have := HL.out; omega)
      generalize newL (rs.take k) = out at hrow hmap hNL hlen
      have hbA : Below wr.heap.size wr (wr.alloc (.cells #[.int .i64 r.t, .string r.x, .int .u64 (r.q : Int), .bool r.g, .string r.s] 27)) := (Below.refl _ _).alloc (Nat.le_refl _) _
      obtain ⟨wa, hwa⟩ : ∃ wa, wr.alloc (.cells #[.int .i64 r.t, .string r.x, .int .u64 (r.q : Int), .bool r.g, .string r.s] 27) = wa := ⟨_, rfl⟩
      have qa : Blk wa wr.heap.size #[.int .i64 r.t, .string r.x, .int .u64 (r.q : Int), .bool r.g, .string r.s] 27 := by rw [← hwa]; exact Blk.new _ _ _
      rw [hwa] at hbA
      have hba := hb.trans (hbA.mono hb.size)
      have HROW := Lib.hid (ownsRow_later hrow hbA)
      have HMAP := Lib.hid (hmap.below hbA hsz)
      have HWA := Lib.hid hwa
      have HB := Lib.hid hba
      have HX := Lib.hid hNL
      have HRK := Lib.hid hRK
      have c0 : wa.cell? ⟨wr.heap.size, 0, none⟩ = some (.int .i64 r.t) := qa.cell 0
      have c1 : wa.cell? ⟨wr.heap.size, 1, none⟩ = some (.string r.x) := qa.cell 1
      have c2 : wa.cell? ⟨wr.heap.size, 2, none⟩ = some (.int .u64 (r.q : Int)) := qa.cell 2
      have c3 : wa.cell? ⟨wr.heap.size, 3, none⟩ = some (.bool r.g) := qa.cell 3
      have c4 : wa.cell? ⟨wr.heap.size, 4, none⟩ = some (.string r.s) := qa.cell 4
      have hl := (hmap.below hbA hsz).lookup Tryz.rkLaw rkKey rkV_inj Tryz.underlying66 (rs_zeroI wa) (s := kOf r) hRK true
      clear hx hb hrow hbA hba hwa hmap hNL hRK
      cases hf : out.findIdx? (keyB r.t r.x) with
      | none =>
        have hpn : posC out (kOf r) = none := by unfold posC; rw [show out.findIdx? (keyB (kOf r).1 (kOf r).2) = none from hf]; rfl
        rw [hpn] at hl
        have hl' : (Instr.lookup 66 (.map (some w.heap.size)) (.agg #[.int .i64 r.t, .string r.x]) true).run Tryz.prog wa = .ok (.tuple #[.int .i64 0, .bool false]) wa := hl
        obtain ⟨w1, hu, hm1, hg1⟩ := HMAP.out.update Tryz.rkLaw rkKey rkV_inj Tryz.underlying66 (s := kOf r) HRK.out (.int .i64 (out.length : Int))
        have hu' : (Instr.mapUpdate 66 (.map (some w.heap.size)) (.agg #[.int .i64 r.t, .string r.x]) (.int .i64 (out.length : Int))).run Tryz.prog wa = .ok () w1 := hu
        have HN := Lib.hid (show newL (rs.take (k + 1)) = out ++ [r] by rw [HX.out]; unfold newStep; rw [hf])
        have HP := Lib.hid (posC_push hf)
        clear hl hu hpn hf
        obtain ⟨va, vc, rfl⟩ := row_shape HROW.out
        have q1 : Blk w1 wr.heap.size #[.int .i64 r.t, .string r.x, .int .u64 (r.q : Int), .bool r.g, .string r.s] 27 := qa.kept hg1 (by simp; omega)
        have d0 : w1.cell? ⟨wr.heap.size, 0, none⟩ = some (.int .i64 r.t) := q1.cell 0
        have d1 : w1.cell? ⟨wr.heap.size, 1, none⟩ = some (.string r.x) := q1.cell 1
        have d2 : w1.cell? ⟨wr.heap.size, 2, none⟩ = some (.int .u64 (r.q : Int)) := q1.cell 2
        have d3 : w1.cell? ⟨wr.heap.size, 3, none⟩ = some (.bool r.g) := q1.cell 3
        have d4 : w1.cell? ⟨wr.heap.size, 4, none⟩ = some (.string r.s) := q1.cell 4
        have hne := own_ne HROW.out
        have HROW1 := Lib.hid (HROW.out.kept hg1 (.inr hne))
        have HM1 := Lib.hid hm1
        have hsz1 : w.heap.size ≤ wa.heap.size := HB.out.size
        have HB1 := Lib.hid (HB.out.grown hg1 hsz1 (fun j hj => by cases hj; exact Nat.le_refl _))
        have HNE := Lib.hid hne
        have HS1 := Lib.hid (Nat.lt_of_lt_of_le hsz (Nat.le_trans (show wr.heap.size ≤ wa.heap.size by have := qa.lt; omega) hg1.size))
        clear q1 hm1 hg1 hne hsz1 qa
        go_wp2_with (first | rw [HWA.out] | (at_builtin; go_must (refine wpList_append_own _ rfl _ _ 31 rfl (w.heap.size + 1) 27 i0 _ 5 56 Tryz.underlying31 hi hz0 hz1 hz2 rfl (by omega) _ _ _ rfl (HROW1.out.alloc _) ⟨w1.heap.size, 0, none⟩ 1 1 (vrCells [r]) rfl rfl (World.news_of_block (cs := #[.int .i64 r.t, .string r.x, .int .u64 (r.q : Int), .bool r.g, .string r.s]) (t := 27) (fr := (0, 0)) (heap_alloc_new w1 _)) (by simp [Value.oneCell', vrCells]) (by unfold maxLen; omega) (by omega) (by have := HS1.out; simp; omega) ?_; intro v' w3 hown3 hgrow3 _)))
        have HRow3 := Lib.hid (show w3.ownsRow (w.heap.size + 1) 27 5 v' (newL (rs.take (k + 1))).length (vrCells (newL (rs.take (k + 1)))) by rw [HN.out, vrCells_append, List.length_append]; exact hown3)
        have HM3 := Lib.hid ((HM1.out.kept (World.grownBy_alloc w1 (.cells #[.int .i64 r.t, .string r.x, .int .u64 (r.q : Int), .bool r.g, .string r.s] 27) none) (by simp)).kept hgrow3 (fun e => HNE.out e.symm))
        have HB3 := Lib.hid ((HB1.out.alloc HB1.out.size (.cells #[.int .i64 r.t, .string r.x, .int .u64 (r.q : Int), .bool r.g, .string r.s] 27)).grown hgrow3 (by have := HB1.out.size; simp; omega) (fun j hj => by have := (HROW1.out.lt j hj).1; omega))
        clear hown3 hgrow3
        go_wp2_with fail
        go_roundw
        case rel => exact ⟨k + 1, by omega, by go_num, HRow3.out, by rw [HN.out, HP.out]; exact HM3.out, HB3.out, HM3.out.lt⟩
        case measure => simp [RowKit.intOf]; omega
      | some i =>
        obtain ⟨hil, hky, _⟩ := List.findIdx?_eq_some_iff_getElem.1 hf
        have hpi : posC out (kOf r) = some (.int .i64 (i : Int)) := by unfold posC; rw [show out.findIdx? (keyB (kOf r).1 (kOf r).2) = some i from hf]; rfl
        rw [hpi] at hl
        have hl' : (Instr.lookup 66 (.map (some w.heap.size)) (.agg #[.int .i64 r.t, .string r.x]) true).run Tryz.prog wa = .ok (.tuple #[.int .i64 (i : Int), .bool true]) wa := hl
        obtain ⟨R, cap, rfl, hRb, hRl⟩ := row_some HROW.out (by omega)
        obtain ⟨s, hs⟩ : ∃ s, out[i]? = some s := ⟨_, List.getElem?_eq_getElem hil⟩
        obtain ⟨g', off', hga, hgl', o0, o1, o2, o3, o4⟩ := vrsAt_row HROW.out i s hs
        simp only [Option.some.injEq, Addr.mk.injEq, and_true] at hga
        obtain ⟨rfl, rfl⟩ := hga
        simp only [Nat.zero_add] at o0 o1 o2 o3 o4
        obtain ⟨n, hn⟩ : ∃ n, out.length = n := ⟨_, rfl⟩
        rw [hn] at hil hlen
        have bi1 : (i : Int) < (n : Int) := by omega
        have bi0 : (0 : Int) ≤ (i : Int) := by omega
        have HST := Lib.hid (show newL (rs.take (k + 1)) = if s.q < r.q then out.set i r else out by rw [HX.out]; unfold newStep; rw [hf]; simp [hs])
        have HPS := Lib.hid (posC_set hf)
        have HWS := Lib.hid (show wr.heap.size < wa.heap.size from qa.lt)
        have HLEN := Lib.hid (And.intro hn (And.intro hil (And.intro hRb hRl)))
        rw [hn]
        clear hl hpi hf hky hs hn HX
        obtain ⟨B, hB⟩ : ∃ B, decide (s.q < r.q) = B := ⟨_, rfl⟩
        have HNW := Lib.hid (fun W => newer_any r s W)
        rw [hB] at HNW
        have HBQ := Lib.hid hB
        clear hB
        have hRo : VrAt wa R (i * 5) s := ⟨hgl', o0, o1, o2, o3, o4⟩
        have hBs : Base wa wa := Below.refl _ _
        go_wp2_with (rw [HWA.out])
        obtain ⟨w101, hw102, hb103⟩ := drew_new wa
        have q104 := hBs.later hb103
        have q105 := qa.later hb103
        have q106 := hRo.later hb103
        refine wp_region_held_drew (S := (fun w' => w'.cell? ⟨wr.heap.size, 0, none⟩ = some (.int .i64 r.t) ∧ w'.cell? ⟨wr.heap.size, 1, none⟩ = some (.string r.x) ∧ w'.cell? ⟨wr.heap.size, 2, none⟩ = some (.int .u64 (r.q : Int)) ∧ w'.cell? ⟨wr.heap.size, 3, none⟩ = some (.bool r.g) ∧ w'.cell? ⟨wr.heap.size, 4, none⟩ = some (.string r.s) ∧ w'.cell? ⟨R, i * 5, none⟩ = some (.int .i64 s.t) ∧ w'.cell? ⟨R, i * 5 + 1, none⟩ = some (.string s.x) ∧ w'.cell? ⟨R, i * 5 + 2, none⟩ = some (.int .u64 (s.q : Int)) ∧ w'.cell? ⟨R, i * 5 + 3, none⟩ = some (.bool s.g) ∧ w'.cell? ⟨R, i * 5 + 4, none⟩ = some (.string s.s) ∧ True)) (by kernel_rfl) (by rw [hw102]; exact ⟨q105.cell 0, q105.cell 1, q105.cell 2, q105.cell 3, q105.cell 4, q106.2.1, q106.2.2.1, q106.2.2.2.1, q106.2.2.2.2.1, q106.2.2.2.2.2, trivial⟩) (fun hHeld => ?_)
        rw [hw102] at hHeld ⊢
        refine wpAnyH_take (i := 0) (oi := { dst := some 36, op := Op.load 27 (Operand.tmp 6), type := 27, pos := "list.go:39", after := #[], guard := none }) (v := ?v1001) rfl (by kernel_rfl) (by kernel_rfl) (by kernel_rfl) (fun _ _ _ h => h) (Or.inl ⟨by rfl, ?hy1001⟩) (by assumption) ?rest1001
        case hy1001 => (intro w1 hSw; (try dsimp only at hSw); obtain ⟨h0, h1, h2, h3, h4, h5, h6, h7, h8, h9, -⟩ := hSw; go_simp; try with_reducible rfl)
        try simp only [Act.put, List.setIfInBounds_toArray, List.set_cons_zero, List.set_cons_succ]
        refine wpAnyH_take (i := 1) (oi := { dst := some 37, op := Op.move (Operand.tmp 3), type := 31, pos := "list.go:39", after := #[], guard := none }) (v := ?v1002) rfl (by kernel_rfl) (by kernel_rfl) (by kernel_rfl) (fun _ _ _ h => h) (Or.inl ⟨by rfl, ?hy1002⟩) (by assumption) ?rest1002
        case hy1002 => (intro w1 hSw; (try dsimp only at hSw); obtain ⟨h0, h1, h2, h3, h4, h5, h6, h7, h8, h9, -⟩ := hSw; go_simp; try with_reducible rfl)
        try simp only [Act.put, List.setIfInBounds_toArray, List.set_cons_zero, List.set_cons_succ]
        refine wpAnyH_take (i := 2) (oi := { dst := some 38, op := Op.move (Operand.tmp 7), type := 3, pos := "list.go:39", after := #[], guard := none }) (v := ?v1003) rfl (by kernel_rfl) (by kernel_rfl) (by kernel_rfl) (fun _ _ _ h => h) (Or.inl ⟨by rfl, ?hy1003⟩) (by assumption) ?rest1003
        case hy1003 => (intro w1 hSw; (try dsimp only at hSw); obtain ⟨h0, h1, h2, h3, h4, h5, h6, h7, h8, h9, -⟩ := hSw; go_simp; try with_reducible rfl)
        try simp only [Act.put, List.setIfInBounds_toArray, List.set_cons_zero, List.set_cons_succ]
        refine wpAnyH_take (i := 3) (oi := { dst := some 39, op := Op.indexAddr 31 (Operand.tmp 37) (Operand.tmp 38), type := 0, pos := "list.go:39", after := #[{ on := 1, ground := Ground.data }, { on := 2, ground := Ground.data }], guard := none }) (v := ?v1004) rfl (by kernel_rfl) (by kernel_rfl) (by kernel_rfl) (fun _ _ _ h => h) (Or.inl ⟨by rfl, ?hy1004⟩) (by assumption) ?rest1004
        case hy1004 => (intro w1 hSw; (try dsimp only at hSw); obtain ⟨h0, h1, h2, h3, h4, h5, h6, h7, h8, h9, -⟩ := hSw; go_simp; try with_reducible rfl)
        try simp only [Act.put, List.setIfInBounds_toArray, List.set_cons_zero, List.set_cons_succ]
        refine wpAnyH_take (i := 4) (oi := { dst := some 40, op := Op.load 27 (Operand.tmp 39), type := 27, pos := "list.go:39", after := #[{ on := 3, ground := Ground.data }], guard := none }) (v := ?v1005) rfl (by kernel_rfl) (by kernel_rfl) (by kernel_rfl) (fun _ _ _ h => h) (Or.inl ⟨by rfl, ?hy1005⟩) (by assumption) ?rest1005
        case hy1005 => (intro w1 hSw; (try dsimp only at hSw); obtain ⟨h0, h1, h2, h3, h4, h5, h6, h7, h8, h9, -⟩ := hSw; go_simp; try with_reducible rfl)
        try simp only [Act.put, List.setIfInBounds_toArray, List.set_cons_zero, List.set_cons_succ]
        refine wpAnyH_ready (rs := [5]) (by kernel_rfl) (by simp) ?_
        refine AllReadyH.cons (o := { dst := some 41, op := Op.call { callee := Callee.value (Operand.func 16), args := #[Operand.tmp 36, Operand.tmp 40], argTypes := #[27, 27] }, type := 4, pos := "list.go:39", after := #[{ on := 0, ground := Ground.data }, { on := 4, ground := Ground.data }], guard := none }) rfl (fun K hK => ?_) AllReadyH.nil
        go_simp
        refine (HNW.out _).mono ?_
        rintro e w107 ⟨rfl, hb108⟩
        have q109 := q104.later hb108
        have q110 := q105.later hb108
        have q111 := q106.later hb108
        clear q104 q105 q106
        try clear hHeld
        refine hK.out _ _ (⟨q110.cell 0, q110.cell 1, q110.cell 2, q110.cell 3, q110.cell 4, q111.2.1, q111.2.2.1, q111.2.2.2.1, q111.2.2.2.2.1, q111.2.2.2.2.2, trivial⟩) (fun hHeld => ?_)
        clear hK K
        try simp only [Act.put, List.setIfInBounds_toArray, List.set_cons_zero, List.set_cons_succ]
        refine wpAnyH_take (i := 6) (oi := { dst := some 35, op := Op.assign (Operand.tmp 41), type := 4, pos := "list.go:39", after := #[{ on := 5, ground := Ground.data }, { on := 5, ground := Ground.chain }], guard := none }) (v := ?v1006) rfl (by kernel_rfl) (by kernel_rfl) (by kernel_rfl) (fun _ _ _ h => h) (Or.inl ⟨by rfl, ?hy1006⟩) (by assumption) ?rest1006
        case hy1006 => (intro w1 hSw; (try dsimp only at hSw); obtain ⟨h0, h1, h2, h3, h4, h5, h6, h7, h8, h9, -⟩ := hSw; go_simp; try with_reducible rfl)
        try simp only [Act.put, List.setIfInBounds_toArray, List.set_cons_zero, List.set_cons_succ]
        refine wpAnyH_done (by kernel_rfl) ?_ _
        have HB5 := Lib.hid q109
        have HQ5 := Lib.hid q110
        have HR5 := Lib.hid q111
        clear q109 q110 q111
        have HROW5 := Lib.hid (ownsRow_later HROW.out HB5.out)
        have HMAP5 := Lib.hid (HMAP.out.below HB5.out (Nat.lt_of_lt_of_le hsz (show wr.heap.size ≤ wa.heap.size by have := HLEN.out; have := HWS.out; omega)))
        have HB6 := Lib.hid (HB.out.trans (HB5.out.mono HB.out.size))
        cases B with
        | false =>
          go_wp2_with fail
          go_roundw
          case rel => exact ⟨k + 1, by omega, by go_num, by rw [HST.out, if_neg (by have := HBQ.out; simpa using this)]; have h := HROW5.out; rw [HLEN.out.1] at h ⊢; exact h, by rw [HST.out, if_neg (by have := HBQ.out; simpa using this)]; exact HMAP5.out, HB6.out, HMAP5.out.lt⟩
          case measure => simp [RowKit.intOf]; omega
        | true =>
          have c0 : w107.cell? ⟨wr.heap.size, 0, none⟩ = some (.int .i64 r.t) := HQ5.out.cell 0
          have c1 : w107.cell? ⟨wr.heap.size, 1, none⟩ = some (.string r.x) := HQ5.out.cell 1
          have c2 : w107.cell? ⟨wr.heap.size, 2, none⟩ = some (.int .u64 (r.q : Int)) := HQ5.out.cell 2
          have c3 : w107.cell? ⟨wr.heap.size, 3, none⟩ = some (.bool r.g) := HQ5.out.cell 3
          have c4 : w107.cell? ⟨wr.heap.size, 4, none⟩ = some (.string r.s) := HQ5.out.cell 4
          have o0 : w107.cell? ⟨R, i * 5, none⟩ = some (.int .i64 s.t) := HR5.out.2.1
          have o1 : w107.cell? ⟨R, i * 5 + 1, none⟩ = some (.string s.x) := HR5.out.2.2.1
          have o2 : w107.cell? ⟨R, i * 5 + 2, none⟩ = some (.int .u64 (s.q : Int)) := HR5.out.2.2.2.1
          have o3 : w107.cell? ⟨R, i * 5 + 3, none⟩ = some (.bool s.g) := HR5.out.2.2.2.2.1
          have o4 : w107.cell? ⟨R, i * 5 + 4, none⟩ = some (.string s.s) := HR5.out.2.2.2.2.2
          have f0 : w107.frozen? ⟨R, i * 5, none⟩ = false := HROW5.out.frozenAt _
          have f1 : w107.frozen? ⟨R, i * 5 + 1, none⟩ = false := HROW5.out.frozenAt _
          have f2 : w107.frozen? ⟨R, i * 5 + 2, none⟩ = false := HROW5.out.frozenAt _
          have f3 : w107.frozen? ⟨R, i * 5 + 3, none⟩ = false := HROW5.out.frozenAt _
          have f4 : w107.frozen? ⟨R, i * 5 + 4, none⟩ = false := HROW5.out.frozenAt _
          have HSET := Lib.hid (row_set (r := r) HROW5.out (by have := HLEN.out; omega))
          go_wp2_with fail
          go_roundw
          case rel => exact ⟨k + 1, by omega, by go_num, by rw [HST.out, if_pos (by have := HBQ.out; simpa using this), List.length_set]; have h := HSET.out.1; rw [HLEN.out.1] at h ⊢; exact h, by rw [HST.out, if_pos (by have := HBQ.out; simpa using this), HPS.out]; exact HMAP5.out.kept HSET.out.2 (fun e => by have := HLEN.out.2.2.1; cases e; omega), HB6.out.grown HSET.out.2 HB6.out.size (fun j hj => by have := HLEN.out.2.2.1; cases hj; omega), Nat.lt_of_lt_of_le HMAP5.out.lt HSET.out.2.size⟩
          case measure => simp [RowKit.intOf]; omega
    · obtain rfl : k = L := by omega
      have HE := Lib.hid (show rs.take k = rs from List.take_of_length_le (by have := HL.out; omega))
      have HRow := Lib.hid hrow
      have HB := Lib.hid hb
      clear hrow hb
      go_wp2_with fail
      go_ret
      refine ⟨_, rfl, ?_, HB.out⟩
      have := own_low HRow.out (Nat.le_succ w.heap.size)
      rw [HE.out] at this; exact this
end Go.Proofs.YtjolgalfjahceaaGreatDoor
namespace Go.Proofs.YtjolgalfjahceaaGreatDoor
open Go.RowKit Go.Sort

theorem drewN_grow (w : World) (os : Array Obj) (n : Nat) : (grow w os).drewN n = grow (w.drewN n) os := rfl
set_option maxRecDepth 100000 in
set_option maxHeartbeats 2000000 in
theorem order_grow (t u : Int) (x y : ByteArray) (w : World) : Calls Tryz.prog 25 #[kyV t x, kyV u y] w fun e w' => e = .returned (.int .i64 (ordK t x u y)) ∧ ∃ q os, w' = grow (w.drewN q) os := by
  go_enter Tryz.func25, Tryz.ntmps25
  go_wp2_with fail
  have k0 := ((below_one ((w.alloc (.cells #[.int .i64 t, .string x] 24))) (.cells #[.int .i64 u, .string y] 24)).cell (p := ⟨w.heap.size, 0, none⟩) (by simp)).trans (by simp : _ = some (.int .i64 t))
  have k1 := ((below_one ((w.alloc (.cells #[.int .i64 t, .string x] 24))) (.cells #[.int .i64 u, .string y] 24)).cell (p := ⟨w.heap.size, 1, none⟩) (by simp)).trans (by simp : _ = some (.string x))
  have k2 : ((w.alloc (.cells #[.int .i64 t, .string x] 24)).alloc (.cells #[.int .i64 u, .string y] 24)).cell? ⟨w.heap.size + 1, 0, none⟩ = some (.int .i64 u) := by simp
  have k3 : ((w.alloc (.cells #[.int .i64 t, .string x] 24)).alloc (.cells #[.int .i64 u, .string y] 24)).cell? ⟨w.heap.size + 1, 1, none⟩ = some (.string y) := by simp
  have HG := Lib.hid (show ∃ os, (w.alloc (.cells #[.int .i64 t, .string x] 24)).alloc (.cells #[.int .i64 u, .string y] 24) = grow w os from ⟨_, by rw [alloc_eq_grow, alloc_eq_grow, grow_grow]⟩)
  revert k0 k1 k2 k3 HG
  generalize (w.alloc (.cells #[.int .i64 t, .string x] 24)).alloc (.cells #[.int .i64 u, .string y] 24) = w1
  intro k0 k1 k2 k3 HG
  go_still_tail 10, (by kernel_rfl)
  still_call (cmp_int_still _ _ _)
  repeat still_step
  still_call (cmp_str_still _ _ _)
  refine wpStill_nil ?_
  change wpList _ _ _ _ _ w1.drew
  go_wp2_with (go_at_call 41; refine (or_made _ (cmpI t u) (cmpS x y) _ rfl).mono ?_; rintro e w' ⟨rfl, rfl⟩)
  go_ret
  obtain ⟨os, rfl⟩ := HG.out
  refine ⟨rfl, 1, os ++ #[.cells #[.int .i64 (cmpI t u), .int .i64 (cmpS x y)] 3], ?_⟩
  rw [alloc_eq_grow, grow_grow]
  rfl
instance : Inhabited Vr := ⟨⟨0, ⟨#[]⟩, 0, false, ⟨#[]⟩⟩⟩
/-- A version's five cells. -/
def vrEnc (r : Vr) : List Value := [.int .i64 r.t, .string r.x, .int .u64 (r.q : Int), .bool r.g, .string r.s]
def vrCmp (a b : Vr) : Int := ordK a.t a.x b.t b.x
set_option maxRecDepth 100000 in
set_option maxHeartbeats 2000000 in
theorem sort_closure (a b : Vr) (w : World) : Calls Tryz.prog 24 #[.agg (vrEnc a).toArray, .agg (vrEnc b).toArray] w fun e w' => e = .returned (.int .i64 (vrCmp a b)) ∧ ∃ q os, w' = grow (w.drewN q) os := by
  obtain ⟨t, x, q, g, s⟩ := a
  obtain ⟨u, y, q', g', s'⟩ := b
  have HO := Lib.hid (fun W => order_grow t u x y W)
  show Calls Tryz.prog 24 #[.agg #[.int .i64 t, .string x, .int .u64 (q : Int), .bool g, .string s], .agg #[.int .i64 u, .string y, .int .u64 (q' : Int), .bool g', .string s']] w fun e w' => e = .returned (.int .i64 (ordK t x u y)) ∧ ∃ q os, w' = grow (w.drewN q) os
  generalize ordK t x u y = r at HO ⊢
  go_enter Tryz.func24, Tryz.ntmps24
  go_wp2_with (go_at_call 25; refine (HO.out _).mono ?_; rintro e w' ⟨rfl, n, os, rfl⟩)
  go_ret
  exact ⟨rfl, n, _, by rw [alloc_eq_grow, alloc_eq_grow, grow_grow, drewN_grow, grow_grow]⟩
/-- The order is a strict one, but for those of one key. -/
theorem vrCmp_swo : SWO (ltOf vrCmp) where
  irrefl x := by
    have : vrCmp x x = 0 := (ord_zero _ _ _ _).2 ⟨rfl, rfl⟩
    simp [ltOf, this]
  trans x y z h1 h2 := by
    simp only [ltOf, decide_eq_true_eq] at *
    have a1 : ordK x.t x.x y.t y.x < 0 := h1
    have a2 : ordK y.t y.x z.t z.x < 0 := h2
    have h3 : ordK x.t x.x z.t z.x ≤ 0 := ord_trans (Int.le_of_lt a1) (Int.le_of_lt a2)
    show ordK x.t x.x z.t z.x < 0
    by_cases h0 : ordK x.t x.x z.t z.x = 0
    · have b1 : ordK z.t z.x x.t x.x ≤ 0 := by rw [ord_neg]; omega
      have b2 : ordK y.t y.x x.t x.x ≤ 0 := ord_trans (Int.le_of_lt a2) b1
      rw [ord_neg] at b2
      omega
    · omega
  ntrans x y z h1 h2 := by
    simp only [ltOf, decide_eq_false_iff_not, Int.not_lt] at *
    have a1 : 0 ≤ ordK x.t x.x y.t y.x := h1
    have a2 : 0 ≤ ordK y.t y.x z.t z.x := h2
    show 0 ≤ ordK x.t x.x z.t z.x
    have b1 : ordK y.t y.x x.t x.x ≤ 0 := by rw [ord_neg]; omega
    have b2 : ordK z.t z.x y.t y.x ≤ 0 := by rw [ord_neg]; omega
    have b3 : ordK z.t z.x x.t x.x ≤ 0 := ord_trans b2 b1
    rw [ord_neg] at b3
    omega
theorem sort_lays (blk off size : Nat) (w : World) : CmpLays Tryz.prog 24 #[] vrEnc 5 vrCmp blk off size w :=
  fun _ _ _ _ x y => sort_closure x y _
end Go.Proofs.YtjolgalfjahceaaGreatDoor
namespace Go.Proofs.YtjolgalfjahceaaGreatDoor
open Go.Shelf Go.RowKit
def Tryz.sllaysf06_ren : Go.Shelf.Ren := ⟨fun | 6 => 23 | 14 => 39 | 15 => 40 | 20 => 54 | 21 => 55 | 22 => 56 | 23 => 57 | 24 => 58 | 25 => 59 | 26 => 60 | 27 => 61 | 28 => 62 | 29 => 63 | 46 => 75 | 47 => 76 | 48 => 77 | 49 => 78 | 50 => 79 | 57 => 89 | n => n, fun | 0 => 0 | 3 => 3 | 4 => 4 | 5 => 5 | 9 => 9 | 22 => 31 | 24 => 27 | 25 => 52 | 39 => 45 | 45 => 87 | 46 => 88 | 50 => 67 | 53 => 94 | 55 => 25 | 66 => 113 | 70 => 117 | 76 => 137 | 77 => 138 | n => n, fun | n => n⟩
theorem Tryz.sllaysf06 : Go.Proofs.SlLaysF0.n6 Tryz.prog Tryz.sllaysf06_ren := {
  mixed := by kernel_rfl
  f6 := ⟨"slices.SortFunc[[]noria/api.Resource,noria/api.Resource]", by decide, Tryz.func23.trans (congrArg some (by kernel_rfl))⟩
  f14 := ⟨"slices.pdqsortCmpFunc[noria/api.Resource]", by decide, Tryz.func39.trans (congrArg some (by kernel_rfl))⟩
  f15 := Tryz.func40.trans (congrArg some (by kernel_rfl))
  f20 := ⟨"slices.insertionSortCmpFunc[noria/api.Resource]", by decide, Tryz.func54.trans (congrArg some (by kernel_rfl))⟩
  f21 := ⟨"slices.heapSortCmpFunc[noria/api.Resource]", by decide, Tryz.func55.trans (congrArg some (by kernel_rfl))⟩
  f22 := ⟨"slices.breakPatternsCmpFunc[noria/api.Resource]", by decide, Tryz.func56.trans (congrArg some (by kernel_rfl))⟩
  f23 := ⟨"slices.choosePivotCmpFunc[noria/api.Resource]", by decide, Tryz.func57.trans (congrArg some (by kernel_rfl))⟩
  f24 := ⟨"slices.reverseRangeCmpFunc[noria/api.Resource]", by decide, Tryz.func58.trans (congrArg some (by kernel_rfl))⟩
  f25 := ⟨"slices.partialInsertionSortCmpFunc[noria/api.Resource]", by decide, Tryz.func59.trans (congrArg some (by kernel_rfl))⟩
  f26 := ⟨"slices.partitionEqualCmpFunc[noria/api.Resource]", by decide, Tryz.func60.trans (congrArg some (by kernel_rfl))⟩
  f27 := ⟨"slices.partitionCmpFunc[noria/api.Resource]", by decide, Tryz.func61.trans (congrArg some (by kernel_rfl))⟩
  f28 := Tryz.func62.trans (congrArg some (by kernel_rfl))
  f29 := Tryz.func63.trans (congrArg some (by kernel_rfl))
  f46 := ⟨"slices.siftDownCmpFunc[noria/api.Resource]", by decide, Tryz.func75.trans (congrArg some (by kernel_rfl))⟩
  f47 := Tryz.func76.trans (congrArg some (by kernel_rfl))
  f48 := Tryz.func77.trans (congrArg some (by kernel_rfl))
  f49 := ⟨"slices.medianAdjacentCmpFunc[noria/api.Resource]", by decide, Tryz.func78.trans (congrArg some (by kernel_rfl))⟩
  f50 := ⟨"slices.medianCmpFunc[noria/api.Resource]", by decide, Tryz.func79.trans (congrArg some (by kernel_rfl))⟩
  f57 := ⟨"slices.order2CmpFunc[noria/api.Resource]", by decide, Tryz.func89.trans (congrArg some (by kernel_rfl))⟩
  t0 := Tryz.underlying0
  a0 := Tryz.isAgg0
  z0 := Tryz.sizeOf0
  v0 := Tryz.zeroValue0
  t3 := Tryz.underlying3
  a3 := Tryz.isAgg3
  z3 := Tryz.sizeOf3
  v3 := Tryz.zeroValue3
  t4 := Tryz.underlying4
  a4 := Tryz.isAgg4
  z4 := Tryz.sizeOf4
  v4 := Tryz.zeroValue4
  t5 := Tryz.underlying5
  a5 := Tryz.isAgg5
  z5 := Tryz.sizeOf5
  v5 := Tryz.zeroValue5
  t9 := Tryz.underlying9
  a9 := Tryz.isAgg9
  z9 := Tryz.sizeOf9
  v9 := Tryz.zeroValue9
  t22 := Tryz.underlying31
  a22 := Tryz.isAgg31
  z22 := Tryz.sizeOf31
  v22 := Tryz.zeroValue31
  t25 := Tryz.underlying52
  a25 := Tryz.isAgg52
  z25 := Tryz.sizeOf52
  v25 := Tryz.zeroValue52
  t39 := Tryz.underlying45
  a39 := Tryz.isAgg45
  z39 := Tryz.sizeOf45
  v39 := Tryz.zeroValue45
  t45 := Tryz.underlying87
  a45 := Tryz.isAgg87
  z45 := Tryz.sizeOf87
  v45 := Tryz.zeroValue87
  t46 := Tryz.underlying88
  a46 := Tryz.isAgg88
  z46 := Tryz.sizeOf88
  v46 := Tryz.zeroValue88
  t50 := Tryz.underlying67
  a50 := Tryz.isAgg67
  z50 := Tryz.sizeOf67
  v50 := Tryz.zeroValue67
  t53 := Tryz.underlying94
  a53 := Tryz.isAgg94
  z53 := Tryz.sizeOf94
  v53 := Tryz.zeroValue94
  t55 := Tryz.underlying25
  a55 := Tryz.isAgg25
  z55 := Tryz.sizeOf25
  v55 := Tryz.zeroValue25
  t66 := Tryz.underlying113
  a66 := Tryz.isAgg113
  z66 := Tryz.sizeOf113
  v66 := Tryz.zeroValue113
  t70 := Tryz.underlying117
  a70 := Tryz.isAgg117
  z70 := Tryz.sizeOf117
  v70 := Tryz.zeroValue117
  t76 := Tryz.underlying137
  a76 := Tryz.isAgg137
  z76 := Tryz.sizeOf137
  v76 := Tryz.zeroValue137
  t77 := Tryz.underlying138
  a77 := Tryz.isAgg138
  z77 := Tryz.sizeOf138
  v77 := Tryz.zeroValue138 }
end Go.Proofs.YtjolgalfjahceaaGreatDoor
namespace Go.Proofs.YtjolgalfjahceaaGreatDoor
open Go.RowKit Go.Lib Go.Sort

theorem flat_vr (l : List Vr) : flatK vrEnc 5 l.toArray = (vrCells l).toArray := by
  apply Array.ext
  · simp [vrCells_len]
  · intro t h1 h2
    have ht : t < l.length * 5 := by simpa using h1
    have hq : t / 5 < l.length := by omega
    have g := vrCells_get l (t / 5) l[t / 5] (List.getElem?_eq_getElem hq) (t % 5) (by omega)
    rw [show t / 5 * 5 + t % 5 = t by omega] at g
    have e := get_flatK vrEnc 5 l.toArray t (by simpa using ht)
    rw [getElem!_pos _ t h1] at e
    rw [e]
    have hx : l.toArray[t / 5]! = l[t / 5] := by simp [getElem!_pos, hq]
    rw [hx]
    have h2' : t < (vrCells l).length := by simpa using h2
    rw [List.getElem?_eq_getElem h2'] at g
    show (vrEnc l[t / 5])[t % 5]! = (vrCells l)[t]
    rw [List.getElem!_eq_getElem?_getD, show (vrEnc l[t / 5])[t % 5]? = some (vrCells l)[t] from g.symm]
    rfl
theorem holds5 {w : World} {base g n cap : Nat} {t : TypeId} {l : List Vr} (h : w.ownsRow base t 5 (.slice (some ⟨g, 0, none⟩) n cap) n (vrCells l)) : base ≤ g ∧ g < w.heap.size ∧ l.length = n ∧ HoldsK vrEnc 5 w g 0 l.toArray := by
  have hl : l.length = n := by have := h.1; rw [vrCells_len] at this; omega
  rcases h.2 with ⟨e0, _⟩ | ⟨g', cap', cur, e0, hb, hg, hn, hm, hs, ht⟩
  · cases e0
  · injection e0 with e1 _ e3
    injection e1 with e1
    injection e1 with e1
    subst e1; subst e3
    refine ⟨hb, (Array.getElem?_eq_some_iff.1 hg).1, hl, ?_⟩
    show Holds id w g 0 (flatK vrEnc 5 l.toArray)
    rw [flat_vr]
    intro j hj
    have hj' : j < (vrCells l).length := by simpa using hj
    have hjn : j < n * 5 := by rw [vrCells_len] at hj'; omega
    refine ⟨?_, by simp [World.frozen?, hg]⟩
    have e1 : (cur.toList.take (n * 5))[j]? = (vrCells l)[j]? := by rw [ht]
    rw [List.getElem?_take, if_pos hjn, Array.getElem?_toList, List.getElem?_eq_getElem hj'] at e1
    simp only [World.cell?, hg, Nat.zero_add]
    simp only [Option.isSome_none, Bool.false_eq_true, if_false]
    rw [e1]
    simp [getElem!_pos, hj']
theorem own5 {w : World} {base g n cap q : Nat} {t : TypeId} {l ys : List Vr} (h : w.ownsRow base t 5 (.slice (some ⟨g, 0, none⟩) n cap) n (vrCells l)) (hy : ys.length = n) :
    (putRowK vrEnc 5 (Sort.ahead w q) g 0 ys.toArray).ownsRow base t 5 (.slice (some ⟨g, 0, none⟩) n cap) n (vrCells ys) := by
  unfold putRowK
  rw [flat_vr]
  rcases h.2 with ⟨e0, _⟩ | ⟨g', cap', cur, e0, hb, hg, hn, hm, hs, ht⟩
  · cases e0
  · injection e0 with e1 _ e3
    injection e1 with e1
    injection e1 with e1
    subst e1; subst e3
    refine ⟨by rw [vrCells_len, hy], .inr ⟨g, cap, putCells id 0 (vrCells ys).toArray cur, rfl, hb, ?_, hn, hm, by simpa [putCells] using hs, ?_⟩⟩
    · simp [putRow, mapBlock, Sort.ahead, Array.getElem?_modify, hg, onCells]
    · apply List.ext_getElem?
      intro j
      rw [List.getElem?_take, Array.getElem?_toList]
      have hyl : (vrCells ys).length = n * 5 := by rw [vrCells_len, hy]
      by_cases hj : j < n * 5
      · have hjc : j < cur.size := by
          rw [hs]
          exact Nat.lt_of_lt_of_le hj (Nat.mul_le_mul_right 5 hn)
        simp only [if_pos hj, putCells, Array.getElem?_mapIdx, Array.getElem?_eq_getElem hjc, Option.map_some]
        rw [if_pos (by simp; omega), List.getElem?_eq_getElem (by omega)]
        simp [getElem!_pos, show j < (vrCells ys).length by omega]
      · rw [if_neg hj, List.getElem?_eq_none (by omega)]
theorem sort_own5 {B : Nat} {v : Value} {l : List Vr} {w : World} (h : w.ownsRow B 27 5 v l.length (vrCells l)) (hl : l.length < 4611686018427387904) :
    Calls Tryz.prog 23 #[v, .func (.func 24) #[] #[]] w fun e w' => e = .returned (.tuple #[]) ∧ ∃ ys : List Vr, ys.Perm l ∧ (∀ i j, i < j → j < ys.length → ltOf vrCmp ys[j]! ys[i]! = false) ∧ w'.ownsRow B 27 5 v l.length (vrCells ys) ∧ RowKit.Below B w w' := by
  have eg : ∀ args w, (callFunc 24 args).run Tryz.prog w = .ok (.enter 24 args) w := enters_of Tryz.func24 (by kernel_rfl) rfl
  by_cases h0 : l.length = 0
  · have hnil : l = [] := List.eq_nil_of_length_eq_zero h0
    subst hnil
    obtain ⟨a, c, rfl⟩ := row_shape h
    refine (AnyF.slices_SortFunc_none Tryz.sllaysf06 a c (.func (.func 24) #[] #[]) w).mono ?_
    rintro e w' ⟨rfl, rfl⟩
    exact ⟨rfl, [], List.Perm.refl _, fun i j _ hj => by simp at hj, h, RowKit.Below.refl _ _⟩
  · obtain ⟨g, cap, rfl, _, _⟩ := row_some h (by omega)
    obtain ⟨hb, hlt, _, hH⟩ := holds5 h
    have hc := AnyQ.slices_SortFunc Tryz.sllaysf06 5 Tryz.isAgg27 Tryz.sizeOf27 vrEnc (fun _ => rfl) (fun x v hv => by simp [vrEnc] at hv; rcases hv with rfl | rfl | rfl | rfl | rfl <;> rfl) vrCmp vrCmp_swo 24 #[] g 0 cap l.toArray w eg (sort_lays g 0 l.toArray.size w) hH hlt (by simpa using hl)
    rw [List.size_toArray] at hc
    refine Calls.mono hc ?_
    rintro e w' ⟨rfl, d', q, os, ⟨hp1, _, hp3⟩, hs, rfl⟩
    have hys : d'.toList.length = l.length := by simpa using hp1
    have h1 := own5 (q := q) (ys := d'.toList) h hys
    have e1 : d'.toList.toArray = d' := by simp
    rw [e1] at h1
    have hb1 : RowKit.Below B w (putRowK vrEnc 5 (Sort.ahead w q) g 0 d') := below_putRow (enc := id) (q := q) (d := flatK vrEnc 5 d') (RowKit.Below.refl B w) hb
    have hgr := below_grow (putRowK vrEnc 5 (Sort.ahead w q) g 0 d').heap.size _ (Nat.le_refl _) 0 os
    refine ⟨rfl, d'.toList, ?_, ?_, ownsRow_later h1 hgr, hb1.trans (hgr.mono (Nat.le_trans (by omega) hb1.size))⟩
    · have e2 : (d'.extract 0 l.length).toList = d'.toList := by
        rw [← hys]; simp
      have e3 : (l.toArray.extract 0 l.length).toList = l := by simp
      rw [e2, e3] at hp3
      exact hp3
    · intro i j hij hj
      have := hs i j (Nat.zero_le _) hij (by rw [← hys]; exact hj)
      have e4 : ∀ k, d'.toList[k]! = d'[k]! := fun k => by rw [List.getElem!_eq_getElem?_getD, Array.getElem?_toList]; first | rfl | (rw [Array.getElem!_eq_getD, Array.getD_eq_getD_getElem?]) | (rw [getElem!_def]; cases d'[k]? <;> rfl)
      rw [e4, e4]; exact this
set_option maxRecDepth 100000 in
set_option maxHeartbeats 1000000 in
/-- Sort of any list: of each key the newest, in order. -/
theorem rsort_any (a : Option Addr) (c : Nat) (rs : List Vr) (w : World) (hr : VrsAt w a rs) (hok : ∀ r ∈ rs, rkOk (kOf r)) (hLb : rs.length ≤ 1099511627776) :
    Calls Tryz.prog 10 #[.slice a rs.length c] w fun e w' => ∃ (v : Value) (ys : List Vr), e = .returned v ∧ ys.Perm (newL rs) ∧ (∀ i j, i < j → j < ys.length → ltOf vrCmp ys[j]! ys[i]! = false) ∧ w'.ownsRow w.heap.size 27 5 v ys.length (vrCells ys) ∧ RowKit.Below w.heap.size w w' := by
  have hnl := newL_len rs.length rs rfl
  have HN := Lib.hid (new_any a c rs w hr hok hLb)
  obtain ⟨L, hL⟩ : ∃ L, rs.length = L := ⟨_, rfl⟩
  rw [hL] at HN hnl hLb ⊢
  clear hr hok hL
  generalize newL rs = l at HN hnl
  go_enter Tryz.func10, Tryz.ntmps10
  go_wp2_with fail
  refine HN.out.mono ?_
  rintro e w1 ⟨v, rfl, hrow, hb1⟩
  have HS := Lib.hid (sort_own5 hrow (by omega))
  have HB := Lib.hid hb1
  clear hrow hb1
  go_wp2_with fail
  refine HS.out.mono ?_
  rintro e w2 ⟨rfl, ys, hp, hs, hrow, hb2⟩
  have HE := Lib.hid (And.intro hp (And.intro hs hrow))
  have HB2 := Lib.hid hb2
  clear hp hs hrow hb2
  go_wp2_with fail
  go_ret
  refine ⟨_, ys, rfl, HE.out.1, HE.out.2.1, ?_, HB.out.trans HB2.out⟩
  rw [HE.out.1.length_eq]; exact HE.out.2.2
end Go.Proofs.YtjolgalfjahceaaGreatDoor
namespace Go.Proofs.YtjolgalfjahceaaGreatDoor
open Go.RowKit Go.Lib Go.Sort

/-- A Thing with Own set. -/
def ow (k : Tg) : Tg := { k with own := true }
/-- The first k of them with Own set. -/
def mixT (k : Nat) (ms : List Tg) : List Tg := (ms.take k).map ow ++ ms.drop k
theorem mixT_zero (ms : List Tg) : mixT 0 ms = ms := by simp [mixT]
theorem mixT_len (k : Nat) (ms : List Tg) : (mixT k ms).length = ms.length := by
  unfold mixT
  rw [List.length_append, List.length_map, List.length_take, List.length_drop]; omega
theorem mixT_all (ms : List Tg) (k : Nat) (h : ms.length ≤ k) : mixT k ms = ms.map ow := by
  unfold mixT
  rw [List.take_of_length_le h, List.drop_of_length_le h, List.append_nil]
theorem mixT_at {k : Nat} {ms : List Tg} {m : Tg} (h : ms[k]? = some m) : (mixT k ms)[k]? = some m := by
  have hl := (List.getElem?_eq_some_iff.1 h).1
  unfold mixT
  rw [List.getElem?_append_right (by rw [List.length_map, List.length_take]; omega), List.length_map, List.length_take, List.getElem?_drop]
  rw [show k + (k - min k ms.length) = k by omega]; exact h
theorem mixT_next {k : Nat} {ms : List Tg} {m : Tg} (h : ms[k]? = some m) : (mixT k ms).set k (ow m) = mixT (k + 1) ms := by
  have hl := (List.getElem?_eq_some_iff.1 h).1
  unfold mixT
  rw [List.set_append_right _ _ (by rw [List.length_map, List.length_take]; omega), List.length_map, List.length_take, show k - min k ms.length = 0 by omega]
  rw [List.take_add_one, h, List.map_append, List.append_assoc]
  congr 1
  rw [List.drop_eq_getElem_cons hl]
  rfl
def tgCells (ms : List Tg) : List Value := ms.flatMap fun k => [.int .i64 k.t, .string k.x, .int .u64 (k.q : Int), .bool k.g, .string k.s, .bool k.own, .int .u8 (k.n : Int)]
theorem tgCells_len (rs : List Tg) : (tgCells rs).length = rs.length * 7 := by
  induction rs with
  | nil => rfl
  | cons x xs ih => simp [tgCells] at ih ⊢; omega
theorem tgCells_one {ms : List Tg} : ∀ u ∈ tgCells ms, u.oneCell' = true := by
  intro u hu
  simp only [tgCells, List.mem_flatMap] at hu
  obtain ⟨r, _, h⟩ := hu
  simp at h
  rcases h with rfl | rfl | rfl | rfl | rfl | rfl | rfl <;> rfl
theorem tgCells_get : ∀ (rs : List Tg) (i : Nat) (r : Tg), rs[i]? = some r → ∀ j, j < 7 → (tgCells rs)[i * 7 + j]? = ([.int .i64 r.t, .string r.x, .int .u64 (r.q : Int), .bool r.g, .string r.s, .bool r.own, .int .u8 (r.n : Int)] : List Value)[j]?
  | [], i, x, h, _, _ => by simp at h
  | y :: ys, 0, x, h, j, hj => by
    simp at h; subst h
    have hc : j = 0 ∨ j = 1 ∨ j = 2 ∨ j = 3 ∨ j = 4 ∨ j = 5 ∨ j = 6 := by omega
    rcases hc with rfl | rfl | rfl | rfl | rfl | rfl | rfl <;> simp [tgCells]
  | y :: ys, i + 1, x, h, j, hj => by
    have := tgCells_get ys i x (by simpa using h) j hj
    have e : (tgCells (y :: ys))[(i + 1) * 7 + j]? = (tgCells ys)[i * 7 + j]? := by
      have : (i + 1) * 7 + j = (i * 7 + j) + 1 + 1 + 1 + 1 + 1 + 1 + 1 := by omega
      rw [this]; rfl
    rw [e]; exact this
theorem tgCells_own : ∀ (ms : List Tg) (i : Nat) (m : Tg), ms[i]? = some m → (tgCells ms).set (i * 7 + 5) (.bool true) = tgCells (ms.set i (ow m))
  | [], _, _, h => by simp at h
  | y :: ys, 0, m, h => by simp at h; subst h; rfl
  | y :: ys, i + 1, m, h => by
    have := tgCells_own ys i m (by simpa using h)
    rw [show (i + 1) * 7 + 5 = (i * 7 + 5) + 1 + 1 + 1 + 1 + 1 + 1 + 1 by omega]
    show tgCells [y] ++ (tgCells ys).set (i * 7 + 5) (.bool true) = _
    rw [this]; rfl
theorem tgs_row {w : World} {base c : Nat} {t : TypeId} {a : Option Addr} {rs : List Tg} (h : w.ownsRow base t 7 (.slice a rs.length c) rs.length (tgCells rs)) : TgsIn w a rs := by
  intro i r hi
  have hlt := (List.getElem?_eq_some_iff.1 hi).1
  have hg := tgCells_get rs i r hi
  have h0 := h
  rcases h0.2 with ⟨hv, hx⟩ | ⟨g, cap, cur, hv, _⟩
  · omega
  · simp at hv
    obtain ⟨rfl, rfl⟩ := hv
    have d0 := (h.cellAt (i * 7) (by omega)).trans (hg 0 (by omega))
    have d1 := (h.cellAt (i * 7 + 1) (by omega)).trans (hg 1 (by omega))
    have d2 := (h.cellAt (i * 7 + 2) (by omega)).trans (hg 2 (by omega))
    have d3 := (h.cellAt (i * 7 + 3) (by omega)).trans (hg 3 (by omega))
    have d4 := (h.cellAt (i * 7 + 4) (by omega)).trans (hg 4 (by omega))
    have d5 := (h.cellAt (i * 7 + 5) (by omega)).trans (hg 5 (by omega))
    have d6 := (h.cellAt (i * 7 + 6) (by omega)).trans (hg 6 (by omega))
    exact ⟨g, 0, rfl, World.block_lt_of_cell? w _ d0, by rw [Nat.zero_add]; exact d0, by rw [Nat.zero_add]; exact d1, by rw [Nat.zero_add]; exact d2, by rw [Nat.zero_add]; exact d3, by rw [Nat.zero_add]; exact d4, by rw [Nat.zero_add]; exact d5, by rw [Nat.zero_add]; exact d6⟩
theorem add_plain (g o i : Nat) : (⟨g, o, none⟩ : Addr).add i = ⟨g, o + i, none⟩ := by unfold Addr.add; split <;> simp_all
theorem tgs_news {w : World} {a : Option Addr} {rs : List Tg} (h : TgsIn w a rs) : ∀ j u, (tgCells rs)[j]? = some u → ∃ b, a = some b ∧ w.cell? (b.add j) = some u := by
  intro j u hj
  have hlen := tgCells_len rs
  have hlt := (List.getElem?_eq_some_iff.1 hj).1
  obtain ⟨i, hi⟩ : ∃ i, i = j / 7 := ⟨_, rfl⟩
  have hil : i < rs.length := by omega
  have hr : rs[i]? = some rs[i] := List.getElem?_eq_getElem hil
  have hg := tgCells_get rs i _ hr (j - i * 7) (by omega)
  rw [show i * 7 + (j - i * 7) = j by omega, hj] at hg
  obtain ⟨g, off, ha, _, c0, c1, c2, c3, c4, c5, c6⟩ := h i _ hr
  refine ⟨_, ha, ?_⟩
  rw [add_plain]
  have hj7 : j - i * 7 = 0 ∨ j - i * 7 = 1 ∨ j - i * 7 = 2 ∨ j - i * 7 = 3 ∨ j - i * 7 = 4 ∨ j - i * 7 = 5 ∨ j - i * 7 = 6 := by omega
  have e0 : off + j = off + i * 7 + (j - i * 7) := by omega
  rw [e0]
  rcases hj7 with e | e | e | e | e | e | e <;> rw [e] at hg ⊢ <;> simp at hg <;> subst hg <;> assumption
theorem row_grown_refl (w : World) (row : Option Nat) : w.grownBy w row := ⟨rfl, rfl, rfl, Nat.le_refl _, fun _ _ _ => rfl⟩
theorem append_nil_any {P : Program} {w : World} {base e size n c : Nat} {t ty : TypeId} {i : TypeInfo} {v : Value} {xs : List Value} (ht : P.underlying t = some (.slice e)) (hi : P.info? e = some i) (hown : w.ownsRow base e size v n xs) : (Builtin.append_ #[t, t] ty #[v, .slice none 0 c]).run P w = .ok v w := by
  rcases hown.2 with ⟨rfl, _⟩ | ⟨g, cap, cur, rfl, _, _, hnc, _⟩
  · simp [Builtin.append_, run_underlying ht, sizeOf, typeInfo, hi, Builtin.lenOf, Builtin.firstCells]
  · simp [Builtin.append_, run_underlying ht, sizeOf, typeInfo, hi, Builtin.lenOf, Builtin.firstCells, hnc, storeCells]
theorem wpList_append_none {P : Program} {w : World} {ops : Array Oper} {rest : List Oper} {o : Oper} {a : Act} {Q : Exit → Act → World → Prop} (hgd : o.guard = none) (s x : Operand) (t : TypeId)
    (ho : o.op = .call { callee := .builtin .append, args := #[s, x], argTypes := #[t, t] }) (base e size n c : Nat) (i : TypeInfo) (v : Value) (xs : List Value) (ht : P.underlying t = some (.slice e)) (hi : P.info? e = some i)
    (hs : a.eval s = v) (hx : a.eval x = .slice none 0 c) (hown : w.ownsRow base e size v n xs) (h : wpList P ops Q rest (a.put o.dst v) w) : wpList P ops Q (o :: rest) a w := by
  refine wpList_plain hgd fun K hK => ?_
  have hr := append_nil_any (ty := o.type) (c := c) ht hi hown
  unfold Oper.wp execOp
  simp only [ho, resolve, invoke, builtin, Sem.run_bind, Sem.run_pure, Result.andThen_ok, List.map_toArray, List.map_cons, List.map_nil, hs, hx, hr]
  exact hK _ _ h
/-- An append of a slice that may be nil. -/
theorem wpList_append_in {P : Program} (w : World) {ops : Array Oper} {rest : List Oper} {o : Oper} {a : Act} {Q : Exit → Act → World → Prop} (hgd : o.guard = none) (s x : Operand) (t : TypeId)
    (ho : o.op = .call { callee := .builtin .append, args := #[s, x], argTypes := #[t, t] })
    (base : Nat) (e : TypeId) (i : TypeInfo) (z : Value) (size bytes : Nat) (ht : P.underlying t = some (.slice e)) (hi : P.info? e = some i) (hz : i.zero = some z)
    (hsize : i.size = size) (hby : i.bytes = bytes) (hzs : z.cells.size = size) (hsz : 0 < size)
    (v : Value) (n : Nat) (xs : List Value) (hs : a.eval s = v) (hown : w.ownsRow base e size v n xs)
    (ad : Option Addr) (m c : Nat) (news : List Value) (hx : a.eval x = .slice ad m c) (hl : news.length = m * size) (hnews : ∀ j u, news[j]? = some u → ∃ b, ad = some b ∧ w.cell? (b.add j) = some u) (h1 : ∀ u ∈ news, u.oneCell' = true)
    (h63 : n + m ≤ maxLen) (hbytes : (n + m) * bytes ≤ 140737488355328) (hbase : base ≤ w.heap.size)
    (h : ∀ v' w', w'.ownsRow base e size v' (n + m) (xs ++ news) → w.grownBy w' v.ownBlock → wpList P ops Q rest (a.put o.dst v') w') : wpList P ops Q (o :: rest) a w := by
  cases ad with
  | none =>
    have hn : news = [] := by
      cases news with
      | nil => rfl
      | cons u us => obtain ⟨b, hb, _⟩ := hnews 0 u rfl; cases hb
    subst hn
    have hm : m = 0 := by
      rcases Nat.eq_zero_or_pos m with h | h
      · exact h
      · have : 0 < m * size := Nat.mul_pos h hsz
        simp at hl; omega
    subst hm
    exact wpList_append_none hgd s x t ho base e size n c i v xs ht hi hs hx hown (h v w (by simpa using hown) (row_grown_refl _ _))
  | some b =>
    exact wpList_append_own w hgd s x t ho base e i z size bytes ht hi hz hsize hby hzs hsz v n xs hs hown b m c news hx hl (fun j u hj => by
      obtain ⟨b', e, h⟩ := hnews j u hj
      cases e
      exact h) h1 h63 hbytes hbase (fun v' w' h1 h2 _ => h v' w' h1 h2)
theorem ow_key (k : Tg) : rkOk (kOf (tgV (ow k))) := by
  have h0 : 0 ≤ IntKind.u64.wrap k.t := by
    simp only [IntKind.wrap, IntKind.signed, IntKind.bits]
    exact Int.emod_nonneg _ (by decide)
  have hw := (wd_ok (k.n % 6) (Nat.mod_lt _ (by decide))).2.2
  have e : tgV (ow k) = ⟨1 + (((IntKind.u64.wrap k.t) % 5).toNat : Int), wd (k.n % 6), 1 + k.q % 20, k.g && ((k.n : Int) % 4 == 0), if (k.g && ((k.n : Int) % 4 == 0)) then ⟨#[]⟩ else k.s.extract 0 (min k.s.size 200)⟩ := by
    unfold tgV ow; rfl
  rw [e]
  refine ⟨?_, ?_, ?_⟩
  · show (wd (k.n % 6)).size ≤ maxLen
    unfold maxLen; omega
  · show -9223372036854775808 ≤ 1 + (((IntKind.u64.wrap k.t) % 5).toNat : Int); omega
  · show 1 + (((IntKind.u64.wrap k.t) % 5).toNat : Int) ≤ 9223372036854775807; omega
/-- Of a list in order that has each key once a permutation in order is the list. -/
theorem sorted_same : ∀ (ys zs : List Vr), zs.Perm ys → Once ys → ys.Pairwise (fun a b => vrCmp a b < 0) → zs.Pairwise (fun a b => vrCmp a b < 0) → zs = ys
  | [], zs, hp, _, _, _ => hp.eq_nil
  | y :: ys, zs, hp, ho, h1, h2 => by
    cases zs with
    | nil => exact absurd hp.symm.eq_nil (by simp)
    | cons z zs =>
      have e : z = y := by
        rcases List.mem_cons.1 (hp.mem_iff.1 (List.mem_cons_self : z ∈ z :: zs)) with h | h
        · exact h
        · rcases List.mem_cons.1 (hp.mem_iff.2 (List.mem_cons_self : y ∈ y :: ys)) with h' | h'
          · exact h'.symm
          · have a1 := (List.pairwise_cons.1 h1).1 z h
            have a2 := (List.pairwise_cons.1 h2).1 y h'
            have : vrCmp z y = - vrCmp y z := ord_neg _ _ _ _
            omega
      subst e
      rw [sorted_same ys zs (List.Perm.cons_inv hp) (by unfold Once at ho ⊢; exact (List.nodup_cons.1 ho).2) (List.pairwise_cons.1 h1).2 (List.pairwise_cons.1 h2).2]
theorem strict_of {ys : List Vr} (ho : Once ys) (h : ∀ i j, i < j → j < ys.length → ltOf vrCmp ys[j]! ys[i]! = false) : ys.Pairwise (fun a b => vrCmp a b < 0) := by
  rw [List.pairwise_iff_getElem]
  intro i j hi hj hij
  have h1 := h i j hij hj
  rw [getElem!_pos ys j hj, getElem!_pos ys i hi] at h1
  simp only [ltOf, decide_eq_false_iff_not, Int.not_lt] at h1
  have h2 : vrCmp ys[j] ys[i] = - vrCmp ys[i] ys[j] := ord_neg _ _ _ _
  have h3 : vrCmp ys[i] ys[j] ≠ 0 := by
    intro e
    obtain ⟨e1, e2⟩ := (ord_zero _ _ _ _).1 e
    have ek : kOf ys[i] = kOf ys[j] := by unfold kOf; rw [e1, ba_of_list e2]
    unfold Once at ho
    have := List.pairwise_iff_getElem.1 ho i j (by simpa using hi) (by simpa using hj) hij
    simp at this
    exact this ek
  omega
theorem once_perm {ys l : List Vr} (hp : ys.Perm l) (h : Once l) : Once ys := by
  unfold Once at h ⊢
  exact (hp.map kOf).nodup_iff.2 h
/-- What stands of a key is found. -/
theorem find_once {ys : List Vr} {b : Vr} (ho : Once ys) (hb : b ∈ ys) (k : Rk) (hk : kOf b = k) : ys.find? (keyB k.1 k.2) = some b := by
  induction ys with
  | nil => cases hb
  | cons y ys ih =>
    unfold Once at ho
    have hn := List.nodup_cons.1 (by simpa using ho : (kOf y :: ys.map kOf).Nodup)
    rcases List.mem_cons.1 hb with rfl | hb
    · rw [List.find?_cons, (keyB_iff k b).2 hk]
    · have hy : keyB k.1 k.2 y = false := by
        cases hh : keyB k.1 k.2 y with
        | false => rfl
        | true =>
          have := (keyB_iff k y).1 hh
          exact absurd (List.mem_map.2 ⟨b, hb, hk.trans this.symm⟩) hn.1
      rw [List.find?_cons, hy]
      exact ih hn.2 hb
theorem newStep_mem {out : List Vr} {x r : Vr} (h : r ∈ newStep out x) : r ∈ out ∨ r = x := by
  unfold newStep at h
  split at h
  · rcases List.mem_append.1 h with h | h
    · exact .inl h
    · exact .inr (by simpa using h)
  · split at h
    · rcases List.mem_or_eq_of_mem_set h with h | h
      · exact .inl h
      · exact .inr h
    · exact .inl h
/-- What newest tells was there. -/
theorem newL_mem (l : List Vr) : ∀ r ∈ newL l, r ∈ l := by
  have : ∀ (l out : List Vr) (r : Vr), r ∈ l.foldl newStep out → r ∈ out ∨ r ∈ l := by
    intro l
    induction l with
    | nil => intro out r h; exact .inl h
    | cons x l ih =>
      intro out r h
      rcases ih _ r h with h | h
      · rcases newStep_mem h with h | h
        · exact .inl h
        · exact .inr (by rw [h]; exact List.mem_cons_self)
      · exact .inr (List.mem_cons_of_mem _ h)
  intro r h
  rcases this l [] r h with h | h
  · cases h
  · exact h
set_option maxRecDepth 100000 in
set_option maxHeartbeats 2000000 in
theorem things20 (a : Option Addr) (c : Nat) (ms : List Tg) (w : World) (h : TgsIn w a ms) (hlen : ms.length ≤ 9223372036854775807) (hsz : ∀ k ∈ ms, k.s.size ≤ 9223372036854775807) :
    Calls Tryz.prog 5 #[.slice a ms.length c, .int .i64 20] w (VrsPost ((ms.take 20).map tgV) w) := by
  obtain ⟨n, hn⟩ : ∃ n, ms.length = n := ⟨_, rfl⟩
  have HN := Lib.hid hn
  rw [hn] at hlen ⊢
  have HR := Lib.hid h
  have HS := Lib.hid hsz
  clear hn h hsz
  obtain ⟨i0, hi, hz0, hz1, hz2⟩ := info_parts Tryz.infoRs
  go_enter Tryz.func5, Tryz.ntmps5
  go_wp2_with fail
  go_loopw [5, 6] (fun v i wr => ∃ k : Nat, k ≤ n ∧ k ≤ 20 ∧ i = .int .i64 (k : Int) ∧ wr.ownsRow w.heap.size 27 5 v k (vrCells ((ms.take k).map tgV)) ∧ Below w.heap.size w wr) (fun _ i _ => 20 - (intOf i).toNat)
  case atStart => exact ⟨0, Nat.zero_le _, Nat.zero_le _, rfl, World.ownsRow_nil _ _ _ _, Below.refl _ _⟩
  case round =>
    obtain ⟨k, hk, hk20, rfl, hrow, hb⟩ := hrel
    by_cases hlt : k < n
    · by_cases hlt20 : k < 20
      · have b1 : (k : Int) < (n : Int) := by omega
        have b2 : (k : Int) < 20 := by omega
        have b0 : (0 : Int) ≤ (k : Int) := by omega
        obtain ⟨m, hx⟩ : ∃ m, ms[k]? = some m := ⟨_, List.getElem?_eq_getElem (by have := HN.out; omega)⟩
        obtain ⟨g, off, rfl, hgl, q0, q1, q2, q3, q4, q5, q6⟩ := HR.out k m hx
        have p0 := (hb.cell (p := ⟨g, _, none⟩) hgl).trans q0
        have p1 := (hb.cell (p := ⟨g, _, none⟩) hgl).trans q1
        have p2 := (hb.cell (p := ⟨g, _, none⟩) hgl).trans q2
        have p3 := (hb.cell (p := ⟨g, _, none⟩) hgl).trans q3
        have p4 := (hb.cell (p := ⟨g, _, none⟩) hgl).trans q4
        have p5 := (hb.cell (p := ⟨g, _, none⟩) hgl).trans q5
        have p6 := (hb.cell (p := ⟨g, _, none⟩) hgl).trans q6
        clear q0 q1 q2 q3 q4 q5 q6
        have HT := Lib.hid (fun W => thing_tg m W (HS.out m (List.mem_of_getElem? hx)))
        have HNew := Lib.hid (show (ms.take (k + 1)).map tgV = (ms.take k).map tgV ++ [tgV m] by rw [List.take_add_one, hx]; simp)
        have HB := Lib.hid hb
        have HRow := Lib.hid hrow
        clear hx hb hrow
        go_wp2_with fail
        refine (HT.out _).mono ?_
        rintro e w2 ⟨rfl, hb2⟩
        have HRow2 := Lib.hid (ownsRow_later HRow.out hb2)
        have HB2 := Lib.hid (HB.out.trans (hb2.mono HB.out.size))
        clear hb2
        go_wp2_with (at_builtin; go_must (refine wpList_append_own _ rfl _ _ 31 rfl w.heap.size 27 i0 _ 5 56 Tryz.underlying31 hi hz0 hz1 hz2 rfl (by omega) _ _ _ rfl (HRow2.out.alloc _) ⟨w2.heap.size, 0, none⟩ 1 1 (vrCells [tgV m]) rfl rfl (World.news_of_block (cs := #[.int .i64 (tgV m).t, .string (tgV m).x, .int .u64 ((tgV m).q : Int), .bool (tgV m).g, .string (tgV m).s]) (t := 27) (fr := (0, 0)) (heap_alloc_new w2 _)) (by simp [Value.oneCell', vrCells]) (by unfold maxLen; omega) (by omega) (by have := HB2.out.size; simp; omega) ?_; intro v' w3 hown3 hgrow3 _))
        have HRow3 := Lib.hid (show w3.ownsRow w.heap.size 27 5 v' (k + 1) (vrCells ((ms.take (k + 1)).map tgV)) by rw [HNew.out, vrCells_append]; exact hown3)
        have HB3 := Lib.hid ((HB2.out.alloc HB2.out.size _).grown hgrow3 (by have := HB2.out.size; simp; omega) (fun j hj => (HRow2.out.lt j hj).1))
        clear hown3 hgrow3
        go_wp2_with fail
        go_roundw
        case rel => exact ⟨k + 1, by omega, by omega, by go_num, HRow3.out, HB3.out⟩
        case measure => simp [intOf]; omega
      · obtain rfl : k = 20 := by omega
        have HE := Lib.hid (show (ms.take 20).length = 20 by rw [List.length_take]; have := HN.out; omega)
        have HRow := Lib.hid hrow
        have HB := Lib.hid hb
        have b1 : ((20 : Nat) : Int) < (n : Int) := by omega
        clear hrow hb
        go_wp2_with fail
        go_ret
        refine ⟨_, rfl, ?_, HB.out⟩
        rw [List.length_map, HE.out]; exact HRow.out
    · obtain rfl : k = n := by omega
      have HE := Lib.hid (show ms.take 20 = ms.take k by rw [List.take_of_length_le (by have := HN.out; omega), List.take_of_length_le (by have := HN.out; omega)])
      have HRow := Lib.hid hrow
      have HB := Lib.hid hb
      clear hrow hb
      go_wp2_with fail
      go_ret
      refine ⟨_, rfl, ?_, HB.out⟩
      rw [HE.out, List.length_map, List.length_take, HN.out, Nat.min_self]; exact HRow.out
end Go.Proofs.YtjolgalfjahceaaGreatDoor
namespace Go.Proofs.YtjolgalfjahceaaGreatDoor
open Go.RowKit

set_option maxRecDepth 100000 in
set_option maxHeartbeats 2000000 in
theorem alike_same (a b : Option Addr) (c d : Nat) (rs : List Vr) (w : World) (ha : VrsAt w a rs) (hb : VrsAt w b rs) (hLb : rs.length ≤ 1099511627776) :
    Calls Tryz.prog 9 #[.slice a rs.length c, .slice b rs.length d] w fun e w' => e = .returned (.bool true) ∧ Below w.heap.size w w' := by
  obtain ⟨L, hL⟩ : ∃ L, rs.length = L := ⟨_, rfl⟩
  rw [hL] at hLb ⊢
  have HL := Lib.hid hL; clear hL
  have HA := Lib.hid ha; clear ha
  have HB := Lib.hid hb; clear hb
  go_enter Tryz.func9, Tryz.ntmps9
  go_wp2_with fail
  go_loopw [5] (fun i wr => ∃ k : Nat, k ≤ L ∧ i = .int .i64 (k : Int) ∧ Below w.heap.size w wr) (fun i _ => L - (intOf i).toNat)
  case atStart => exact ⟨0, Nat.zero_le _, rfl, Below.refl _ _⟩
  case round =>
    obtain ⟨k, hk, rfl, hb⟩ := hrel
    by_cases hlt : k < L
    · have b1 : (k : Int) < (L : Int) := by omega
      have b0 : (0 : Int) ≤ (k : Int) := by omega
      obtain ⟨r, hx⟩ : ∃ r, rs[k]? = some r := ⟨_, List.getElem?_eq_getElem (by have := HL.out; omega)⟩
      obtain ⟨g, off, rfl, hgl, p0, p1, p2, p3, p4⟩ := (HA.out.below hb) k r hx
      obtain ⟨g', off', rfl, hgl', q0, q1, q2, q3, q4⟩ := (HB.out.below hb) k r hx
      have HBb := Lib.hid hb
      clear hx hb
      go_wp2_with fail
      go_region
      all_goals
        go_wp2_with fail
        go_roundw
        case rel => exact ⟨k + 1, by omega, by go_num, HBb.out.drew⟩
        case measure => simp [intOf]; omega
    · obtain rfl : k = L := by omega
      have HBb := Lib.hid hb
      clear hb
      go_wp2_with fail
      go_ret
      exact ⟨rfl, HBb.out⟩
end Go.Proofs.YtjolgalfjahceaaGreatDoor
namespace Go.Proofs.YtjolgalfjahceaaGreatDoor
open Go.RowKit

theorem Tryz.infoTg : (Tryz.prog.info? 29).map (fun i => (i.zero, i.size, i.bytes)) = some (some (.agg #[.int .i64 0, .string ⟨#[]⟩, .int .u64 0, .bool false, .string ⟨#[]⟩, .bool false, .int .u8 0]), 7, 64) := by kernel_rfl
/-- Two keys and how far the call got. -/
def KkS (w : World) (g o1 o2 : Nat) (r s : Vr) (w' : World) : Prop := w'.cell? ⟨g, o1, none⟩ = some (.int .i64 r.t) ∧ w'.cell? ⟨g, o1 + 1, none⟩ = some (.string r.x) ∧ w'.cell? ⟨g, o2, none⟩ = some (.int .i64 s.t) ∧ w'.cell? ⟨g, o2 + 1, none⟩ = some (.string s.x) ∧ Below w.heap.size w w'
theorem KkS.next {w w' w'' : World} {g o1 o2 : Nat} {r s : Vr} (hg : g < w.heap.size) (h : KkS w g o1 o2 r s w') (hb : Below w'.heap.size w' w'') : KkS w g o1 o2 r s w'' := by
  obtain ⟨h1, h2, h3, h4, h5⟩ := h
  have hl : g < w'.heap.size := Nat.lt_of_lt_of_le hg h5.size
  exact ⟨(hb.cell (p := ⟨g, _, none⟩) hl).trans h1, (hb.cell (p := ⟨g, _, none⟩) hl).trans h2, (hb.cell (p := ⟨g, _, none⟩) hl).trans h3, (hb.cell (p := ⟨g, _, none⟩) hl).trans h4, h5.trans (hb.mono h5.size)⟩

/-- Two versions and how far the call got. -/
def TvS (w : World) (g o u : Nat) (x y : Vr) (w' : World) : Prop := w'.cell? ⟨g, o, none⟩ = some (.int .i64 x.t) ∧ w'.cell? ⟨g, o + 1, none⟩ = some (.string x.x) ∧ w'.cell? ⟨g, o + 2, none⟩ = some (.int .u64 (x.q : Int)) ∧ w'.cell? ⟨g, o + 3, none⟩ = some (.bool x.g) ∧ w'.cell? ⟨g, o + 4, none⟩ = some (.string x.s) ∧ w'.cell? ⟨u, 0, none⟩ = some (.int .i64 y.t) ∧ w'.cell? ⟨u, 1, none⟩ = some (.string y.x) ∧ w'.cell? ⟨u, 2, none⟩ = some (.int .u64 (y.q : Int)) ∧ w'.cell? ⟨u, 3, none⟩ = some (.bool y.g) ∧ w'.cell? ⟨u, 4, none⟩ = some (.string y.s) ∧ g < w.heap.size ∧ u < w.heap.size ∧ Below w.heap.size w w'
theorem TvS.next {w w' w'' : World} {g o u : Nat} {x y : Vr} (h : TvS w g o u x y w') (hb : Below w'.heap.size w' w'') : TvS w g o u x y w'' := by
  obtain ⟨h0, h1, h2, h3, h4, k0, k1, k2, k3, k4, hg, hu, h5⟩ := h
  have hl : g < w'.heap.size := Nat.lt_of_lt_of_le hg h5.size
  have hm : u < w'.heap.size := Nat.lt_of_lt_of_le hu h5.size
  exact ⟨(hb.cell (p := ⟨g, _, none⟩) hl).trans h0, (hb.cell (p := ⟨g, _, none⟩) hl).trans h1, (hb.cell (p := ⟨g, _, none⟩) hl).trans h2, (hb.cell (p := ⟨g, _, none⟩) hl).trans h3, (hb.cell (p := ⟨g, _, none⟩) hl).trans h4,
    (hb.cell (p := ⟨u, _, none⟩) hm).trans k0, (hb.cell (p := ⟨u, _, none⟩) hm).trans k1, (hb.cell (p := ⟨u, _, none⟩) hm).trans k2, (hb.cell (p := ⟨u, _, none⟩) hm).trans k3, (hb.cell (p := ⟨u, _, none⟩) hm).trans k4, hg, hu, h5.trans (hb.mono h5.size)⟩

/-- What a slice of Things weighs. -/
theorem things_weigh {H : Type} {enc : TypeId × Value → H} {W : World} {d : DataW H} {ps : List MemPlace} {a : Option Addr} {l c : Nat}
    (h : DataW.Trod enc Tryz.prog W 0 (fun _ => true) true 22 (.slice a l c) d ps) (hw : ∀ n ∈ d.weights Tryz.prog 22, n ≤ 140737488355328) : l * 64 ≤ 140737488355328 := by
  obtain ⟨fuel, hf⟩ := h
  have hb : Tryz.prog.bytesOf 29 = 64 := by kernel_rfl
  rcases Go.Deep.open_slice Tryz.underlying22 hf with ⟨hcs, hx⟩ | ⟨a', len', cap', m, n, D, Pl, hcs, _, hl, hm, hmm, hx, hel⟩
  · simp [Value.cells] at hcs
    obtain ⟨rfl, rfl, rfl⟩ := hcs
    omega
  · simp [Value.cells] at hcs
    obtain ⟨rfl, rfl, rfl⟩ := hcs
    have hd := congrArg Prod.fst hx
    simp only at hd
    have := hw ((((List.range l).map D).length + ((List.range (m - l)).map fun j => D (l + j)).length) * Tryz.prog.bytesOf 29) (by rw [hd]; simp [DataW.weights, Tryz.underlying22])
    rw [hb, List.length_map, List.length_range] at this
    have h2 : l * 64 ≤ (l + ((List.range (m - l)).map fun j => D (l + j)).length) * 64 := Nat.mul_le_mul_right 64 (Nat.le_add_right _ _)
    omega
end Go.Proofs.YtjolgalfjahceaaGreatDoor
