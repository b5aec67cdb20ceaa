/- names: lists of texts in memory; a list of the call's own is sorted, and each once. -/
import Derived.Lib.OwnBridge
import Derived.Lib.AppendIntMem
import Derived.Test.YtkjfafnnnkjoeaaGreatDoorNmPlain
import Derived.Test.YtkjfafnnnkjoeaaGreatDoorNmShelf
import Derived.Test.YtkjfafnnnkjoeaaGreatDoorKeep
namespace Go.Proofs.YtkjfafnnnkjoeaaGreatDoor
open Go.RowKit Go.Lib Go.Sort

def tsV (l : List (List UInt8)) : List Value := l.map encStr
theorem tsV_len (l : List (List UInt8)) : (tsV l).length = l.length := by simp [tsV]
theorem tsV_get (l : List (List UInt8)) (j : Nat) (h : j < l.length) : (tsV l)[j]? = some (encStr l[j]) := by
  rw [tsV, List.getElem?_map, List.getElem?_eq_getElem h]; rfl
theorem tsV_one (l : List (List UInt8)) : ∀ u ∈ tsV l, u.oneCell' = true := by
  intro u hu
  obtain ⟨x, _, rfl⟩ := List.mem_map.1 hu
  rfl
/-- A list of values, one cell each, at v. -/
def RowV (w : World) (v : Value) (xs : List Value) : Prop := ∃ a c, v = .slice a xs.length c ∧ xs.length ≤ c ∧ c ≤ maxLen ∧ ∀ j u, xs[j]? = some u → ∃ b off, a = some ⟨b, off, none⟩ ∧ b < w.heap.size ∧ w.cell? ⟨b, off + j, none⟩ = some u
theorem RowV.below {w w' : World} {v : Value} {xs : List Value} (h : RowV w v xs) (hb : Below w.heap.size w w') : RowV w' v xs := by
  obtain ⟨a, c, e, h1, h2, h3⟩ := h
  refine ⟨a, c, e, h1, h2, fun j u hj => ?_⟩
  obtain ⟨b, off, e', hl, hc⟩ := h3 j u hj
  exact ⟨b, off, e', Nat.lt_of_lt_of_le hl hb.size, (hb.cell (p := ⟨b, _, none⟩) hl).trans hc⟩
theorem RowV.own {w : World} {B n : Nat} {e : TypeId} {v : Value} {xs : List Value} (h : w.ownsRow B e 1 v n xs) : RowV w v xs := by
  have hl : xs.length = n := by simpa using h.1
  rcases h.2 with ⟨rfl, hn⟩ | ⟨g, cap, cur, rfl, hb, hg, hn, hm, hs, ht⟩
  · refine ⟨none, 0, by rw [hl, hn], by omega, Nat.zero_le _, fun j u hj => ?_⟩
    have := (List.getElem?_eq_some_iff.1 hj).1; omega
  · refine ⟨_, cap, by rw [hl], by omega, hm, fun j u hj => ?_⟩
    have hlt := (List.getElem?_eq_some_iff.1 hj).1
    have hg' : g < w.heap.size := (Array.getElem?_eq_some_iff.1 hg).1
    refine ⟨g, 0, rfl, hg', ?_⟩
    rw [Nat.zero_add]
    exact (h.cellAt j (by omega)).trans hj
theorem RowV.nil (w : World) (a : Option Addr) (c : Nat) (hc : c ≤ maxLen) : RowV w (.slice a 0 c) [] := ⟨a, c, rfl, Nat.zero_le _, hc, fun j u hj => by simp at hj⟩
/-- Texts at v. -/
def TsAt (w : World) (v : Value) (l : List (List UInt8)) : Prop := RowV w v (tsV l)
theorem TsAt.below {w w' : World} {v : Value} {l : List (List UInt8)} (h : TsAt w v l) (hb : Below w.heap.size w w') : TsAt w' v l := RowV.below h hb
theorem TsAt.out {w : World} {v : Value} {l : List (List UInt8)} (h : TsAt w v l) : ∃ a c, v = .slice a l.length c ∧ l.length ≤ c ∧ c ≤ maxLen ∧ ∀ j (hj : j < l.length), ∃ b off, a = some ⟨b, off, none⟩ ∧ b < w.heap.size ∧ w.cell? ⟨b, off + j, none⟩ = some (encStr l[j]) := by
  obtain ⟨a, c, e, h1, h2, h3⟩ := h
  rw [tsV_len] at e h1
  exact ⟨a, c, e, h1, h2, fun j hj => h3 j _ (tsV_get l j hj)⟩
/-- A set at v. -/
def SetAt (w : World) (v : Value) (s : Ns) : Prop := ∃ u, v = .agg #[.bool s.all, u] ∧ TsAt w u s.ns
theorem SetAt.below {w w' : World} {v : Value} {s : Ns} (h : SetAt w v s) (hb : Below w.heap.size w w') : SetAt w' v s := by
  obtain ⟨u, e, h⟩ := h
  exact ⟨u, e, h.below hb⟩

theorem sort_own {B : Nat} {v : Value} {l : List (List UInt8)} {w : World} (h : w.ownsRow B 9 1 v l.length (tsV l)) (hl : l.length < 4611686018427387904) :
    Calls Tryz.prog 57 #[v] w fun e w' => e = .returned (.tuple #[]) ∧ w'.ownsRow B 9 1 v l.length (tsV (l.mergeSort fun x y => decide (x ≤ y))) ∧ Below B w w' := by
  by_cases hv : v = .slice none 0 0
  · subst hv
    have h0 : l = [] := by
      rcases h.2 with ⟨_, hn⟩ | ⟨g, cap, cur, e, _⟩
      · exact List.eq_nil_of_length_eq_zero hn
      · cases e
    subst h0
    refine (Any.slices_Sort_string_none Tryz.lays190 none 0 w).mono ?_
    rintro e w' ⟨rfl, rfl⟩
    exact ⟨rfl, by simpa [tsV] using h, Below.refl _ _⟩
  · obtain ⟨g, cap, rfl, hb, hlt, hn, hm, _, hH⟩ := holds_of_ownsRow h hv
    refine (Any.slices_Sort_string Tryz.lays190 g 0 cap l w hH hlt hl).mono ?_
    rintro e w' ⟨rfl, q, os, rfl⟩
    have hys : (l.mergeSort fun x y => decide (x ≤ y)).length = l.length := List.length_mergeSort _
    have h1 := ownsRow_putRow (q := q) (ys := l.mergeSort fun x y => decide (x ≤ y)) h hys (Nat.le_refl _)
    rw [List.take_of_length_le (by rw [hys]; exact Nat.le_refl _)] at h1
    have hb1 := below_putRow (enc := encStr) (q := q) (d := (l.mergeSort fun x y => decide (x ≤ y)).toArray) (Below.refl B w) hb
    have hgr := below_grow (putRow encStr (Sort.ahead w q) g 0 (l.mergeSort fun x y => decide (x ≤ y)).toArray).heap.size _ (Nat.le_refl _) 0 os
    have hsz := hb1.size
    refine ⟨rfl, ownsRow_later h1 hgr, hb1.trans (hgr.mono ?_)⟩
    omega

theorem compact_own {B : Nat} {v : Value} {l : List (List UInt8)} {w : World} (h : w.ownsRow B 9 1 v l.length (tsV l)) (hl : l.length ≤ maxLen) :
    Calls Tryz.prog 58 #[v] w fun e w' => ∃ v', e = .returned v' ∧ w'.ownsRow B 9 1 v' (compact l).length (tsV (compact l)) ∧ Below B w w' := by
  by_cases hv : v = .slice none 0 0
  · subst hv
    have h0 : l = [] := by
      rcases h.2 with ⟨_, hn⟩ | ⟨g, cap, cur, e, _⟩
      · exact List.eq_nil_of_length_eq_zero hn
      · cases e
    subst h0
    refine (Any.slices_Compact_string_empty Tryz.lays194 none 0 w).mono ?_
    rintro e w' ⟨rfl, rfl⟩
    exact ⟨_, rfl, by simpa [tsV, compact, compactUpTo] using h, Below.refl _ _⟩
  · obtain ⟨g, cap, rfl, hb, hlt, hn, hm, _, hH⟩ := holds_of_ownsRow h hv
    refine (Any.slices_Compact_string Tryz.lays194 g 0 cap l w hH hl hn).mono ?_
    rintro e w' ⟨rfl, q, rfl⟩
    have hle := Lib.compact_length_le l
    have h1 := ownsRow_putRow (q := q) (k := (compact l).length) (ys := compact l ++ List.replicate (l.length - (compact l).length) []) h (by simp; omega) hle
    rw [List.take_left'  rfl] at h1
    exact ⟨_, rfl, h1, below_putRow (Below.refl B w) hb⟩

theorem clone_ts {v : Value} {l : List (List UInt8)} {w : World} (h : TsAt w v l) (hl : l.length * 16 ≤ 140737488355328) :
    Calls Tryz.prog 50 #[v] w fun e w' => ∃ v', e = .returned v' ∧ w'.ownsRow w.heap.size 9 1 v' l.length (tsV l) ∧ Below w.heap.size w w' := by
  obtain ⟨a, c, rfl, h1, h2, h3⟩ := h.out
  cases a with
  | none =>
    have h0 : l = [] := by
      cases l with
      | nil => rfl
      | cons x xs =>
        obtain ⟨b, off, e, _⟩ := h3 0 (by simp)
        cases e
    subst h0
    refine (Any.slices_Clone_string_nil Tryz.lays216 0 c w).mono ?_
    rintro e w' ⟨rfl, rfl⟩
    exact ⟨_, rfl, ⟨rfl, .inl ⟨rfl, rfl⟩⟩, Below.refl _ _⟩
  | some A =>
    by_cases h0 : l = []
    · subst h0
      refine (Any.slices_Clone_string_zero Tryz.lays216 A c w).mono ?_
      rintro e w' ⟨v', rfl, ho, _, hb⟩
      exact ⟨v', rfl, ho, hb⟩
    · have hp : 0 < l.length := List.length_pos_iff.2 h0
      obtain ⟨b, off, e, hlt, _⟩ := h3 0 hp
      obtain rfl := Option.some.inj e
      have hcells : ∀ j, j < (l.map fun s => (⟨s.toArray⟩ : ByteArray)).length → w.cell? ⟨b, off + j, none⟩ = some (.string ((l.map fun s => (⟨s.toArray⟩ : ByteArray)).getD j ByteArray.empty)) := by
        intro j hj
        obtain ⟨b', off', e', _, hc⟩ := h3 j (by simpa using hj)
        obtain ⟨rfl, rfl⟩ : b = b' ∧ off = off' := by
          injection (Option.some.inj e') with q1 q2 _; exact ⟨q1, q2⟩
        rw [hc, List.getD_eq_getElem?_getD, List.getElem?_map, List.getElem?_eq_getElem (by simpa using hj)]
        rfl
      refine (Any.slices_Clone_string Tryz.lays216 b off l.length c _ w (by simp) hl hcells).mono ?_
      rintro e w' ⟨v', rfl, ho, _, hb⟩
      refine ⟨v', rfl, ?_, hb⟩
      have e1 : ((l.map fun s => (⟨s.toArray⟩ : ByteArray)).take l.length).map Value.string = tsV l := by
        rw [List.take_of_length_le (by simp), List.map_map]; rfl
      rw [e1] at ho
      exact ho
end Go.Proofs.YtkjfafnnnkjoeaaGreatDoor
