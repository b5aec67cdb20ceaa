/- ledger: marks in a list, without the program. -/
import Derived.Test.YtdaelapamkmcaaaDoorCkOrdP
namespace Go.Proofs.YtdaelapamkmcaaaDoor
open Go.RowKit

structure Mk where
  t : Int
  x : ByteArray
  q : Nat
  s : Int
  d : ByteArray

theorem ba_ext {x y : ByteArray} (h : x.toList = y.toList) : x = y := by
  rw [ByteArray.toList_eq, ByteArray.toList_eq] at h
  obtain ⟨⟨a⟩⟩ := x
  obtain ⟨⟨b⟩⟩ := y
  simp at h
  rw [h]
theorem orV_le {a b : Int} : orV a b ≤ 0 ↔ a < 0 ∨ (a = 0 ∧ b ≤ 0) := by
  unfold orV
  split <;> omega
theorem ord_self (t : Int) (x : ByteArray) : ordK t x t x = 0 := (ord_zero t t x x).2 ⟨rfl, rfl⟩
theorem ord_zero' (t u : Int) (x y : ByteArray) : ordK t x u y = 0 ↔ (t = u ∧ x = y) :=
  (ord_zero t u x y).trans ⟨fun h => ⟨h.1, ba_ext h.2⟩, fun h => ⟨h.1, by rw [h.2]⟩⟩
/-- How the version q of (t, x) stands to a mark. -/
def ordM (t : Int) (x : ByteArray) (q : Nat) (m : Mk) : Int := orV (ordK t x m.t m.x) (cmpI (q : Int) (m.q : Int))
theorem ordM_le {t : Int} {x : ByteArray} {q : Nat} {m : Mk} : ordM t x q m ≤ 0 ↔ ordK t x m.t m.x < 0 ∨ (t = m.t ∧ x = m.x ∧ q ≤ m.q) := by
  unfold ordM
  rw [orV_le, ord_zero']
  have h := cmpI_neg (q : Int) (m.q : Int)
  have h2 := cmpI_le (m.q : Int) (q : Int)
  constructor
  · rintro (h | ⟨⟨h1, h3⟩, h4⟩)
    · exact .inl h
    · exact .inr ⟨h1, h3, by omega⟩
  · rintro (h | ⟨h1, h3, h4⟩)
    · exact .inl h
    · exact .inr ⟨⟨h1, h3⟩, by omega⟩
theorem ordM_zero {t : Int} {x : ByteArray} {q : Nat} {m : Mk} : ordM t x q m = 0 ↔ (t = m.t ∧ x = m.x ∧ q = m.q) := by
  unfold ordM orV
  have h := ord_zero' t m.t x m.x
  have h2 := cmpI_zero (q : Int) (m.q : Int)
  split
  · rename_i h0
    obtain ⟨h3, h4⟩ := h.1 h0
    exact ⟨fun k => ⟨h3, h4, by have := h2.1 k; omega⟩, fun k => h2.2 (by omega)⟩
  · rename_i h0
    exact ⟨fun k => absurd k h0, fun k => absurd (h.2 ⟨k.1, k.2.1⟩) h0⟩
theorem ordM_gt {t : Int} {x : ByteArray} {q : Nat} {m : Mk} : 0 < ordM t x q m ↔ ¬ ordM t x q m ≤ 0 := by omega
theorem ordM_lt {t : Int} {x : ByteArray} {q : Nat} {m : Mk} : ordM t x q m < 0 ↔ ordK t x m.t m.x < 0 ∨ (t = m.t ∧ x = m.x ∧ q < m.q) := by
  have h1 := @ordM_le t x q m
  have h2 := @ordM_zero t x q m
  constructor
  · intro h
    rcases h1.1 (by omega) with h3 | ⟨h3, h4, h5⟩
    · exact .inl h3
    · refine .inr ⟨h3, h4, ?_⟩
      have : ¬ q = m.q := fun e => by have := h2.2 ⟨h3, h4, e⟩; omega
      omega
  · intro h
    have h3 : ordM t x q m ≤ 0 := h1.2 (h.imp_right fun k => ⟨k.1, k.2.1, by omega⟩)
    have h4 : ordM t x q m ≠ 0 := fun e => by
      obtain ⟨a, b, c⟩ := h2.1 e
      rcases h with h | h
      · rw [(ord_zero' t m.t x m.x).2 ⟨a, b⟩] at h; omega
      · omega
    omega
theorem ordK_lt_trans {t u v : Int} {x y z : ByteArray} (h : ordK t x u y < 0) (k : ordK u y v z ≤ 0) : ordK t x v z < 0 := by
  have h1 := ord_trans (by omega : ordK t x u y ≤ 0) k
  have h2 : ordK t x v z ≠ 0 := fun e => by
    obtain ⟨rfl, rfl⟩ := (ord_zero' _ _ _ _).1 e
    have := ord_neg t u x y
    omega
  omega
theorem ordK_trans_lt {t u v : Int} {x y z : ByteArray} (h : ordK t x u y ≤ 0) (k : ordK u y v z < 0) : ordK t x v z < 0 := by
  have h1 := ord_trans h (by omega : ordK u y v z ≤ 0)
  have h2 : ordK t x v z ≠ 0 := fun e => by
    obtain ⟨rfl, rfl⟩ := (ord_zero' _ _ _ _).1 e
    have := ord_neg t u x y
    omega
  omega
theorem ordM_trans {t : Int} {x : ByteArray} {q : Nat} {m n : Mk} (h : ordM t x q m ≤ 0) (k : ordM m.t m.x m.q n < 0) : ordM t x q n < 0 := by
  rw [ordM_le] at h
  rw [ordM_lt] at k ⊢
  rcases h with h | ⟨rfl, rfl, h⟩
  · rcases k with k | ⟨k1, k2, k3⟩
    · exact .inl (ordK_lt_trans h (by omega))
    · exact .inl (by rw [← k1, ← k2]; exact h)
  · rcases k with k | ⟨k1, k2, k3⟩
    · exact .inl k
    · exact .inr ⟨k1, k2, by omega⟩
theorem ordM_swap {m n : Mk} (h : 0 < ordM m.t m.x m.q n) : ordM n.t n.x n.q m < 0 := by
  rw [ordM_lt]
  have h1 : ¬ ordM m.t m.x m.q n ≤ 0 := by omega
  rw [ordM_le] at h1
  have h2 := ord_neg m.t n.t m.x n.x
  have h3 := ord_zero' n.t m.t n.x m.x
  by_cases h4 : ordK m.t m.x n.t n.x = 0
  · obtain ⟨a, b⟩ := h3.1 (by omega)
    refine .inr ⟨a, b, ?_⟩
    have : ¬ (m.t = n.t ∧ m.x = n.x ∧ m.q ≤ n.q) := fun k => h1 (.inr k)
    have : ¬ m.q ≤ n.q := fun k => this ⟨a.symm, b.symm, k⟩
    omega
  · refine .inl ?_
    have : ¬ ordK m.t m.x n.t n.x < 0 := fun k => h1 (.inl k)
    omega

/-- Marks as they stand. -/
def Srt (ms : List Mk) : Prop := ms.Pairwise fun a b => ordM a.t a.x a.q b < 0
/-- Where the version stands, or is to stand. -/
def posM (t : Int) (x : ByteArray) (q : Nat) (ms : List Mk) : Nat := ms.findIdx fun m => decide (ordM t x q m ≤ 0)
def keyM (t : Int) (x : ByteArray) (m : Mk) : Bool := decide (m.t = t ∧ m.x = x)
/-- The mark of that version. -/
def findM (t : Int) (x : ByteArray) (q : Nat) (ms : List Mk) : Option Mk := ms.find? fun m => keyM t x m && decide (m.q = q)
theorem posM_le (t : Int) (x : ByteArray) (q : Nat) (ms : List Mk) : posM t x q ms ≤ ms.length := List.findIdx_le_length
theorem posM_low {t : Int} {x : ByteArray} {q : Nat} {ms : List Mk} {h : Nat} {m : Mk} (hm : ms[h]? = some m) (hp : h < posM t x q ms) : 0 < ordM t x q m := by
  obtain ⟨hl, rfl⟩ := List.getElem?_eq_some_iff.1 hm
  have := List.not_of_lt_findIdx (p := fun m => decide (ordM t x q m ≤ 0)) (xs := ms) (i := h) hp
  simp only [decide_eq_true_eq, decide_eq_false_iff_not] at this
  omega
theorem posM_at {t : Int} {x : ByteArray} {q : Nat} {ms : List Mk} {m : Mk} (hm : ms[posM t x q ms]? = some m) : ordM t x q m ≤ 0 := by
  obtain ⟨hl, rfl⟩ := List.getElem?_eq_some_iff.1 hm
  have := List.findIdx_getElem (p := fun m => decide (ordM t x q m ≤ 0)) (xs := ms) (w := hl)
  exact of_decide_eq_true this
theorem Srt.lt {ms : List Mk} (hs : Srt ms) {i j : Nat} {a b : Mk} (ha : ms[i]? = some a) (hb : ms[j]? = some b) (hij : i < j) : ordM a.t a.x a.q b < 0 := by
  obtain ⟨hi, rfl⟩ := List.getElem?_eq_some_iff.1 ha
  obtain ⟨hj, rfl⟩ := List.getElem?_eq_some_iff.1 hb
  exact List.pairwise_iff_getElem.1 hs i j hi hj hij
theorem posM_high {t : Int} {x : ByteArray} {q : Nat} {ms : List Mk} (hs : Srt ms) {h : Nat} {m : Mk} (hm : ms[h]? = some m) (hp : posM t x q ms ≤ h) : ordM t x q m ≤ 0 := by
  obtain ⟨hl, _⟩ := List.getElem?_eq_some_iff.1 hm
  rcases Nat.lt_or_eq_of_le hp with hp | hp
  · obtain ⟨m0, h0⟩ : ∃ m0, ms[posM t x q ms]? = some m0 := ⟨_, List.getElem?_eq_getElem (by omega)⟩
    have := ordM_trans (posM_at h0) (hs.lt h0 hm hp)
    omega
  · subst hp; exact posM_at hm
/-- Of marks that stand so the one of a version is at its place, or nowhere. -/
theorem findM_at {t : Int} {x : ByteArray} {q : Nat} {ms : List Mk} (hs : Srt ms) {m : Mk} (hm : m ∈ ms) (ht : m.t = t) (hx : m.x = x) (hq : m.q = q) : ms[posM t x q ms]? = some m := by
  obtain ⟨i, hi, rfl⟩ := List.mem_iff_getElem.1 hm
  have he : ms[i]? = some ms[i] := List.getElem?_eq_getElem hi
  have h0 : ordM t x q ms[i] = 0 := ordM_zero.2 ⟨ht.symm, hx.symm, hq.symm⟩
  have h1 : ¬ i < posM t x q ms := fun h => by have := posM_low he h; omega
  obtain ⟨m0, hm0⟩ : ∃ m0, ms[posM t x q ms]? = some m0 := ⟨_, List.getElem?_eq_getElem (by omega)⟩
  rcases Nat.lt_or_eq_of_le (Nat.le_of_not_lt h1) with h2 | h2
  · have := ordM_trans (posM_at hm0) (hs.lt hm0 he h2)
    omega
  · rw [h2]; exact he
theorem findM_some {t : Int} {x : ByteArray} {q : Nat} {ms : List Mk} {m : Mk} (h : findM t x q ms = some m) : m ∈ ms ∧ m.t = t ∧ m.x = x ∧ m.q = q := by
  unfold findM at h
  have h1 := List.mem_of_find?_eq_some h
  have h2 := List.find?_some h
  simp only [keyM, Bool.and_eq_true, decide_eq_true_eq] at h2
  exact ⟨h1, h2.1.1, h2.1.2, h2.2⟩
theorem findM_is {t : Int} {x : ByteArray} {q : Nat} {ms : List Mk} (hs : Srt ms) {m : Mk} (hm : m ∈ ms) (ht : m.t = t) (hx : m.x = x) (hq : m.q = q) : findM t x q ms = some m := by
  cases h : findM t x q ms with
  | none =>
    unfold findM at h
    rw [List.find?_eq_none] at h
    exact absurd (by simp [keyM, ht, hx, hq]) (h m hm)
  | some n =>
    obtain ⟨h1, h2, h3, h4⟩ := findM_some h
    have e1 := findM_at hs hm ht hx hq
    rw [findM_at hs h1 h2 h3 h4] at e1
    exact e1
theorem findM_none {t : Int} {x : ByteArray} {q : Nat} {ms : List Mk} (h : findM t x q ms = none) {m : Mk} (hm : m ∈ ms) : ¬ (m.t = t ∧ m.x = x ∧ m.q = q) := by
  unfold findM at h
  rw [List.find?_eq_none] at h
  intro k
  exact absurd (by simp [keyM, k.1, k.2.1, k.2.2]) (h m hm)
/-- Whether it stands there. -/
theorem findM_pos {t : Int} {x : ByteArray} {q : Nat} {ms : List Mk} (hs : Srt ms) : (findM t x q ms).isSome = (match ms[posM t x q ms]? with | none => false | some m => decide (ordM t x q m = 0)) := by
  cases h : findM t x q ms with
  | none =>
    cases hp : ms[posM t x q ms]? with
    | none => rfl
    | some m =>
      refine (decide_eq_false ?_).symm
      intro e
      obtain ⟨a, b, c⟩ := ordM_zero.1 e
      exact findM_none h (List.mem_of_getElem? hp) ⟨a.symm, b.symm, c.symm⟩
  | some n =>
    obtain ⟨h1, h2, h3, h4⟩ := findM_some h
    rw [findM_at hs h1 h2 h3 h4]
    exact (decide_eq_true (ordM_zero.2 ⟨h2.symm, h3.symm, h4.symm⟩)).symm
theorem findM_pos_some {t : Int} {x : ByteArray} {q : Nat} {ms : List Mk} (hs : Srt ms) {m : Mk} (h : findM t x q ms = some m) : ms[posM t x q ms]? = some m := by
  obtain ⟨h1, h2, h3, h4⟩ := findM_some h
  exact findM_at hs h1 h2 h3 h4

/-- Is there a mark of the key with a version at least as great? -/
def staleM (t : Int) (x : ByteArray) (q : Nat) (ms : List Mk) : Bool := ms.any fun m => keyM t x m && decide (q ≤ m.q)
theorem stale_pos {t : Int} {x : ByteArray} {q : Nat} {ms : List Mk} (hs : Srt ms) : staleM t x q ms = (match ms[posM t x q ms]? with | none => false | some m => keyM t x m) := by
  cases h : staleM t x q ms with
  | true =>
    unfold staleM at h
    obtain ⟨n, hn, h2⟩ := List.any_eq_true.1 h
    simp only [keyM, Bool.and_eq_true, decide_eq_true_eq] at h2
    obtain ⟨⟨rfl, rfl⟩, hq⟩ := h2
    obtain ⟨i, hi, rfl⟩ := List.mem_iff_getElem.1 hn
    have he : ms[i]? = some ms[i] := List.getElem?_eq_getElem hi
    have h0 : ordM ms[i].t ms[i].x q ms[i] ≤ 0 := ordM_le.2 (.inr ⟨rfl, rfl, hq⟩)
    have h1 : ¬ i < posM ms[i].t ms[i].x q ms := fun h => by have := posM_low he h; omega
    obtain ⟨m0, hm0⟩ : ∃ m0, ms[posM ms[i].t ms[i].x q ms]? = some m0 := ⟨_, List.getElem?_eq_getElem (l := ms) (i := posM ms[i].t ms[i].x q ms) (by omega)⟩
    rw [hm0]
    refine (show true = keyM _ _ m0 from ?_)
    refine (decide_eq_true ?_).symm
    rcases Nat.lt_or_eq_of_le (Nat.le_of_not_lt h1) with h2 | h2
    · have k1 := ordM_le.1 (posM_at hm0)
      have k2 := ordM_lt.1 (hs.lt hm0 he h2)
      rcases k2 with k2 | k2
      · rcases k1 with k1 | k1
        · have := ord_neg ms[i].t m0.t ms[i].x m0.x
          omega
        · exact ⟨k1.1.symm, k1.2.1.symm⟩
      · exact ⟨k2.1, k2.2.1⟩
    · have : some m0 = some ms[i] := by rw [← hm0, ← he, h2]
      cases this
      exact ⟨rfl, rfl⟩
  | false =>
    cases hp : ms[posM t x q ms]? with
    | none => rfl
    | some m =>
      refine (show false = keyM t x m from ?_)
      refine (decide_eq_false ?_).symm
      rintro ⟨rfl, rfl⟩
      unfold staleM at h
      rw [List.any_eq_false] at h
      have h1 := h m (List.mem_of_getElem? hp)
      have h2 := ordM_le.1 (posM_at hp)
      rcases h2 with h2 | h2
      · rw [ord_self] at h2; omega
      · simp [keyM, h2.2.2] at h1
/-- A mark set where it is to stand. -/
def insM (p : Nat) (k : Mk) (ms : List Mk) : List Mk := ms.take p ++ k :: ms.drop p
theorem insM_len (p : Nat) (k : Mk) (ms : List Mk) : (insM p k ms).length = ms.length + 1 := by
  unfold insM
  rw [List.length_append, List.length_cons, List.length_take, List.length_drop]
  omega
theorem insM_mem {p : Nat} {k : Mk} {ms : List Mk} {m : Mk} : m ∈ insM p k ms ↔ m = k ∨ m ∈ ms := by
  unfold insM
  have h : m ∈ ms ↔ m ∈ ms.take p ∨ m ∈ ms.drop p := by
    rw [← List.mem_append, List.take_append_drop]
  rw [h, List.mem_append, List.mem_cons]
  constructor
  · rintro (h | h | h)
    · exact .inr (.inl h)
    · exact .inl h
    · exact .inr (.inr h)
  · rintro (h | h | h)
    · exact .inr (.inl h)
    · exact .inl h
    · exact .inr (.inr h)
theorem insM_perm (p : Nat) (k : Mk) (ms : List Mk) : (insM p k ms).Perm (k :: ms) := by
  unfold insM
  have h := List.perm_middle (a := k) (l₁ := ms.take p) (l₂ := ms.drop p)
  rwa [List.take_append_drop] at h
theorem insM_srt {t : Int} {x : ByteArray} {q : Nat} {ms : List Mk} (hs : Srt ms) (hn : staleM t x q ms = false) (s : Int) (d : ByteArray) : Srt (insM (posM t x q ms) ⟨t, x, q, s, d⟩ ms) := by
  unfold Srt insM
  have h0 : (ms.take (posM t x q ms) ++ ms.drop (posM t x q ms)).Pairwise fun a b => ordM a.t a.x a.q b < 0 := by rw [List.take_append_drop]; exact hs
  rw [List.pairwise_append] at h0 ⊢
  obtain ⟨h1, h2, h3⟩ := h0
  have hlow : ∀ a ∈ ms.take (posM t x q ms), ordM a.t a.x a.q ⟨t, x, q, s, d⟩ < 0 := by
    intro a ha
    obtain ⟨i, hi, rfl⟩ := List.mem_iff_getElem.1 ha
    rw [List.length_take] at hi
    have he : ms[i]? = some (ms.take (posM t x q ms))[i] := by rw [List.getElem_take]; exact List.getElem?_eq_getElem (by omega)
    have := posM_low (t := t) (x := x) (q := q) he (by omega)
    exact ordM_swap (m := ⟨t, x, q, s, d⟩) this
  refine ⟨h1, List.pairwise_cons.2 ⟨?_, h2⟩, ?_⟩
  · intro b hb
    obtain ⟨i, hi, rfl⟩ := List.mem_iff_getElem.1 hb
    rw [List.length_drop] at hi
    have he : ms[posM t x q ms + i]? = some (ms.drop (posM t x q ms))[i] := by rw [List.getElem_drop]; exact List.getElem?_eq_getElem (by omega)
    have h4 := posM_high (t := t) (x := x) (q := q) hs he (by omega)
    have h5 : ordM t x q (ms.drop (posM t x q ms))[i] ≠ 0 := by
      intro e
      obtain ⟨a, b, c⟩ := ordM_zero.1 e
      unfold staleM at hn
      rw [List.any_eq_false] at hn
      refine hn _ (List.mem_of_getElem? he) ?_
      simp only [keyM, Bool.and_eq_true, decide_eq_true_eq]
      exact ⟨⟨a.symm, b.symm⟩, by omega⟩
    exact (by omega : ordM t x q (ms.drop (posM t x q ms))[i] < 0)
  · intro a ha b hb
    rcases List.mem_cons.1 hb with rfl | hb
    · exact hlow a ha
    · exact h3 a ha b hb

/-- The mark with the least version, the first of such. -/
def minStep (m y : Mk) : Mk := if y.q < m.q then y else m
def minM : List Mk → Mk
  | [] => ⟨0, ⟨#[]⟩, 0, 0, ⟨#[]⟩⟩
  | m :: r => r.foldl minStep m
def eqM (a b : Mk) : Bool := a.t == b.t && a.x.toList == b.x.toList && a.q == b.q && a.s == b.s && a.d.toList == b.d.toList
def cutM (ms : List Mk) : List Mk := ms.filter fun m => !eqM m (minM ms)
theorem foldl_min_mem : ∀ (r : List Mk) (m : Mk), r.foldl minStep m ∈ m :: r
  | [], m => by simp
  | y :: r, m => by
    have h := foldl_min_mem r (minStep m y)
    rw [List.foldl_cons]
    rcases List.mem_cons.1 h with h | h
    · rw [h]
      unfold minStep
      split <;> simp
    · exact List.mem_cons_of_mem _ (List.mem_cons_of_mem _ h)
theorem foldl_min_le : ∀ (r : List Mk) (m : Mk), (r.foldl minStep m).q ≤ m.q ∧ ∀ y ∈ r, (r.foldl minStep m).q ≤ y.q
  | [], m => ⟨Nat.le_refl _, fun y hy => by cases hy⟩
  | y :: r, m => by
    obtain ⟨h1, h2⟩ := foldl_min_le r (minStep m y)
    rw [List.foldl_cons]
    have h3 : (minStep m y).q ≤ m.q ∧ (minStep m y).q ≤ y.q := by
      unfold minStep
      split <;> constructor <;> omega
    refine ⟨by omega, fun z hz => ?_⟩
    rcases List.mem_cons.1 hz with rfl | hz
    · omega
    · exact h2 z hz
theorem minM_mem {ms : List Mk} (h : ms ≠ []) : minM ms ∈ ms := by
  cases ms with
  | nil => exact absurd rfl h
  | cons m r => exact foldl_min_mem r m
theorem minM_le {ms : List Mk} {m : Mk} (h : m ∈ ms) : (minM ms).q ≤ m.q := by
  cases ms with
  | nil => cases h
  | cons a r =>
    have := foldl_min_le r a
    rcases List.mem_cons.1 h with rfl | h
    · exact this.1
    · exact this.2 m h
theorem eqM_iff (a b : Mk) : eqM a b = true ↔ a = b := by
  obtain ⟨t, x, q, s, d⟩ := a
  obtain ⟨u, y, r, s', e⟩ := b
  simp only [eqM, Bool.and_eq_true, beq_iff_eq, Mk.mk.injEq]
  constructor
  · rintro ⟨⟨⟨⟨h1, h2⟩, h3⟩, h4⟩, h5⟩
    exact ⟨h1, ba_ext h2, h3, h4, ba_ext h5⟩
  · rintro ⟨h1, h2, h3, h4, h5⟩
    subst h2; subst h5
    exact ⟨⟨⟨⟨h1, rfl⟩, h3⟩, h4⟩, rfl⟩
theorem Srt.filter {ms : List Mk} (hs : Srt ms) (p : Mk → Bool) : Srt (ms.filter p) := List.Pairwise.filter p hs

/-- What Begin answers and leaves. -/
def fullM (ms : List Mk) : List Mk := if 1024 < ms.length then cutM ms else ms
/-- A mark that is meant, and Pending, is settled. -/
def settleM (p : Mk → Bool) (s : Int) (d : ByteArray) (ms : List Mk) : List Mk := ms.map fun m => if m.s = 1 ∧ p m = true then ⟨m.t, m.x, m.q, s, d⟩ else m
theorem settleM_len (p : Mk → Bool) (s : Int) (d : ByteArray) (ms : List Mk) : (settleM p s d ms).length = ms.length := List.length_map _
theorem settleM_srt {ms : List Mk} (hs : Srt ms) (p : Mk → Bool) (s : Int) (d : ByteArray) : Srt (settleM p s d ms) := by
  unfold Srt settleM
  rw [List.pairwise_map]
  refine List.Pairwise.imp ?_ hs
  intro a b h
  split <;> split <;> exact h
def noteM (t : Int) (x : ByteArray) (q : Nat) (ok : Bool) (d : ByteArray) (ms : List Mk) : List Mk :=
  if ok then settleM (fun m => keyM t x m && decide (m.q ≤ q)) 2 ⟨#[]⟩ ms else settleM (fun m => keyM t x m && decide (m.q = q)) 3 d ms
def eraseM (ms : List Mk) : List Mk := ms.filter fun m => !decide (m.s = 1)
end Go.Proofs.YtdaelapamkmcaaaDoor
