/- acks: what is noted, and how it is turned, without the program. -/
import Derived.Test.YtogkdekjcbljnaaDoorCkOrdP
import Derived.Test.YtogkdekjcbljnaaDoorMsPutS
namespace Go.Proofs.YtogkdekjcbljnaaDoor
open Go.RowKit

/-- A refusal: its version, whether it was told, its words. -/
structure Bd where
  q : Nat
  f : Bool
  s : ByteArray
abbrev Ky := Int × ByteArray
theorem ba_ext {x y : ByteArray} (h : x.toList = y.toList) : x = y := by
  rw [ByteArray.toList_eq, ByteArray.toList_eq] at h
  obtain ⟨⟨a⟩⟩ := x
  obtain ⟨⟨b⟩⟩ := y
  simp at h
  rw [h]
def bdPos (q : Nat) (l : List Bd) : Nat := l.findIdx fun b => decide (q ≤ b.q)
def bdHas (q : Nat) (l : List Bd) : Bool := match l[bdPos q l]? with
  | some b => decide (b.q = q)
  | none => false
def bdLim (l : List Bd) : List Bd := if 8 < l.length then l.drop 1 else l
def bdIns (q : Nat) (s : ByteArray) (l : List Bd) : List Bd := if bdHas q l then l else bdLim (l.take (bdPos q l) ++ ⟨q, false, s⟩ :: l.drop (bdPos q l))
def bdTell (l : List Bd) : List Bd := l.map fun b => if b.f then b else ⟨b.q, true, ⟨#[]⟩⟩
def bdOut (k : Ky) (l : List Bd) : List St := (l.filter fun b => !b.f).map fun b => ⟨k.1, k.2, b.q, false, b.s⟩
open Classical in
noncomputable def upd {κ α : Type} (f : κ → α) (k : κ) (v : α) : κ → α := fun x => if x = k then v else f x
theorem upd_same {κ α : Type} (f : κ → α) (k : κ) (v : α) : upd f k v k = v := by simp [upd]
theorem upd_other {κ α : Type} {f : κ → α} {k x : κ} {v : α} (h : x ≠ k) : upd f k v x = f x := by simp [upd, h]
theorem upd_self {κ α : Type} (f : κ → α) (k : κ) : upd f k (f k) = f := by
  funext x
  by_cases h : x = k
  · subst h; exact upd_same _ _ _
  · exact upd_other h
theorem upd_upd {κ α : Type} (f : κ → α) (k : κ) (v u : α) : upd (upd f k v) k u = upd f k u := by
  funext x
  by_cases h : x = k
  · subst h; rw [upd_same, upd_same]
  · rw [upd_other h, upd_other h, upd_other h]
/-- What is noted: who took what, what is refused, up to where it was told. -/
structure Ak where
  T : Ky → Int → Nat
  R : Ky → List Bd
  N : Ky → Option Nat
def Ak.zero : Ak := ⟨fun _ _ => 0, fun _ => [], fun _ => none⟩
noncomputable def Ak.touch (A : Ak) (k : Ky) : Ak := { A with N := upd A.N k (some ((A.N k).getD 0)) }
noncomputable def Ak.take (A : Ak) (k : Ky) (i : Int) (q : Nat) : Ak := { A with T := upd A.T k (upd (A.T k) i (max (A.T k i) q)) }
noncomputable def Ak.refuse (A : Ak) (k : Ky) (q : Nat) (s : ByteArray) : Ak := { A with R := upd A.R k (bdIns q s (A.R k)) }
/-- Note of what may be noted. -/
noncomputable def Ak.put (A : Ak) (k : Ky) (i : Int) (q : Nat) (f : Bool) (s : ByteArray) : Ak := if f then (A.touch k).take k i q else (A.touch k).refuse k q s
def Ak.drop (A : Ak) (i : Int) : Ak := { A with T := fun k j => if j = i then 0 else A.T k j }
def leastL (f : Int → Nat) : List Int → Nat
  | [] => 0
  | i :: r => r.foldl (fun m j => min m (f j)) (f i)
noncomputable def Ak.tell (A : Ak) (k : Ky) : Ak := { A with R := upd A.R k (bdTell (A.R k)) }
def Ak.more (A : Ak) (k : Ky) (who : List Int) : Bool := decide ((A.N k).getD 0 < leastL (A.T k) who)
noncomputable def Ak.ready (A : Ak) (k : Ky) (who : List Int) : Ak := if A.more k who then { A.tell k with N := upd A.N k (some (leastL (A.T k) who)) } else A.tell k
def Ak.out (A : Ak) (k : Ky) (who : List Int) : List St := bdOut k (A.R k) ++ if A.more k who then [⟨k.1, k.2, leastL (A.T k) who, true, ⟨#[]⟩⟩] else []
noncomputable def Ak.forget (A : Ak) (k : Ky) : Ak := ⟨upd A.T k fun _ => 0, upd A.R k [], upd A.N k none⟩
/-- What holds of it throughout. -/
structure AkOk (A : Ak) : Prop where
  t : ∀ k i, A.T k i ≠ 0 → 1 ≤ i ∧ i ≤ 32 ∧ (A.N k).isSome
  t64 : ∀ k i, A.T k i < 2 ^ 64
  r : ∀ k, (A.R k).length ≤ 8 ∧ (A.R k).Pairwise (fun a b => a.q < b.q) ∧ ∀ b ∈ A.R k, b.q < 2 ^ 64
  rn : ∀ k, A.R k ≠ [] → (A.N k).isSome
  n : ∀ k v, A.N k = some v → v < 2 ^ 64 ∧ (1 ≤ k.1 ∧ k.1 ≤ 5) ∧ k.2.size ≤ 64
theorem AkOk.zero : AkOk Ak.zero := ⟨fun _ _ h => absurd rfl h, fun _ _ => by show 0 < 2 ^ 64; decide, fun _ => ⟨by simp [Ak.zero], List.Pairwise.nil, fun b h => by cases h⟩, fun _ h => absurd rfl h, fun _ _ h => by cases h⟩
abbrev Rise (l : List Bd) : Prop := l.Pairwise fun a b => a.q < b.q
theorem bdPos_le (q : Nat) (l : List Bd) : bdPos q l ≤ l.length := List.findIdx_le_length
theorem bdPos_low {q : Nat} {l : List Bd} {h : Nat} {m : Bd} (hm : l[h]? = some m) (hp : h < bdPos q l) : m.q < q := by
  obtain ⟨hl, rfl⟩ := List.getElem?_eq_some_iff.1 hm
  have := List.not_of_lt_findIdx (p := fun b : Bd => decide (q ≤ b.q)) (xs := l) (i := h) hp
  simp only [decide_eq_false_iff_not] at this
  omega
theorem bdPos_at {q : Nat} {l : List Bd} {m : Bd} (hm : l[bdPos q l]? = some m) : q ≤ m.q := by
  obtain ⟨hl, rfl⟩ := List.getElem?_eq_some_iff.1 hm
  have := List.findIdx_getElem (p := fun b : Bd => decide (q ≤ b.q)) (xs := l) (w := hl)
  exact of_decide_eq_true this
theorem Rise.lt {l : List Bd} (hs : Rise l) {i j : Nat} {a b : Bd} (ha : l[i]? = some a) (hb : l[j]? = some b) (hij : i < j) : a.q < b.q := by
  obtain ⟨hi, rfl⟩ := List.getElem?_eq_some_iff.1 ha
  obtain ⟨hj, rfl⟩ := List.getElem?_eq_some_iff.1 hb
  exact List.pairwise_iff_getElem.1 hs i j hi hj hij
theorem bdPos_high {q : Nat} {l : List Bd} (hs : Rise l) {h : Nat} {m : Bd} (hm : l[h]? = some m) (hp : bdPos q l ≤ h) : q ≤ m.q := by
  obtain ⟨hl, _⟩ := List.getElem?_eq_some_iff.1 hm
  rcases Nat.lt_or_eq_of_le hp with hp | hp
  · obtain ⟨m0, h0⟩ : ∃ m0, l[bdPos q l]? = some m0 := ⟨_, List.getElem?_eq_getElem (by omega)⟩
    have := bdPos_at h0
    have := hs.lt h0 hm hp
    omega
  · subst hp; exact bdPos_at hm
theorem bdHas_iff {q : Nat} {l : List Bd} (hs : Rise l) : bdHas q l = true ↔ ∃ b ∈ l, b.q = q := by
  unfold bdHas
  constructor
  · intro h
    cases hp : l[bdPos q l]? with
    | none => rw [hp] at h; cases h
    | some b => rw [hp] at h; exact ⟨b, List.mem_of_getElem? hp, of_decide_eq_true h⟩
  · rintro ⟨b, hb, rfl⟩
    obtain ⟨i, hi⟩ := List.getElem?_of_mem hb
    have h1 : bdPos b.q l ≤ i := Nat.le_of_not_lt fun h => by have := bdPos_low hi h; omega
    have hl := (List.getElem?_eq_some_iff.1 hi).1
    obtain ⟨m, hm⟩ : ∃ m, l[bdPos b.q l]? = some m := ⟨_, List.getElem?_eq_getElem (by omega)⟩
    rw [hm]
    refine decide_eq_true ?_
    have h2 := bdPos_at hm
    rcases Nat.lt_or_eq_of_le h1 with h3 | h3
    · have := hs.lt hm hi h3; omega
    · rw [h3, hi] at hm; cases hm; rfl
theorem bdRaw_rise {q : Nat} {s : ByteArray} {l : List Bd} (hs : Rise l) (hn : bdHas q l = false) : Rise (l.take (bdPos q l) ++ ⟨q, false, s⟩ :: l.drop (bdPos q l)) := by
  have hne : ∀ b ∈ l, b.q ≠ q := fun b hb e => by
    have := (bdHas_iff hs).2 ⟨b, hb, e⟩
    rw [hn] at this; cases this
  unfold Rise
  have h0 : (l.take (bdPos q l) ++ l.drop (bdPos q l)).Pairwise fun a b => a.q < b.q := by rw [List.take_append_drop]; exact hs
  rw [List.pairwise_append] at h0 ⊢
  obtain ⟨h1, h2, h3⟩ := h0
  have hlow : ∀ a ∈ l.take (bdPos q l), a.q < q := by
    intro a ha
    obtain ⟨i, hi⟩ := List.getElem?_of_mem ha
    rw [List.getElem?_take] at hi
    split at hi
    · rename_i hlt; exact bdPos_low hi hlt
    · cases hi
  have hhigh : ∀ a ∈ l.drop (bdPos q l), q < a.q := by
    intro a ha
    obtain ⟨i, hi⟩ := List.getElem?_of_mem ha
    rw [List.getElem?_drop] at hi
    have h4 := bdPos_high hs hi (Nat.le_add_right _ _)
    have h5 := hne a (List.mem_of_getElem? hi)
    omega
  refine ⟨h1, List.pairwise_cons.2 ⟨hhigh, h2⟩, ?_⟩
  intro a ha b hb
  rcases List.mem_cons.1 hb with rfl | hb
  · exact hlow a ha
  · exact h3 a ha b hb
theorem bdRaw_len (q : Nat) (s : ByteArray) (l : List Bd) : (l.take (bdPos q l) ++ ⟨q, false, s⟩ :: l.drop (bdPos q l)).length = l.length + 1 := by
  have := bdPos_le q l
  rw [List.length_append, List.length_cons, List.length_take, List.length_drop]
  omega
theorem bdRaw_mem {q : Nat} {s : ByteArray} {l : List Bd} {b : Bd} : b ∈ l.take (bdPos q l) ++ ⟨q, false, s⟩ :: l.drop (bdPos q l) ↔ b = ⟨q, false, s⟩ ∨ b ∈ l := by
  have h : b ∈ l ↔ b ∈ l.take (bdPos q l) ∨ b ∈ l.drop (bdPos q l) := by
    rw [← List.mem_append, List.take_append_drop]
  rw [h, List.mem_append, List.mem_cons]
  constructor
  · rintro (h | h | h)
    · exact .inr (.inl h)
    · exact .inl h
    · exact .inr (.inr h)
  · rintro (h | h | h)
    · exact .inr (.inl h)
    · exact .inl h
    · exact .inr (.inr h)
def BdsOk (l : List Bd) : Prop := l.length ≤ 8 ∧ Rise l ∧ ∀ b ∈ l, b.q < 2 ^ 64
theorem bdIns_ok {q : Nat} {s : ByteArray} {l : List Bd} (h : BdsOk l) (hq : q < 2 ^ 64) : BdsOk (bdIns q s l) := by
  unfold bdIns
  cases hn : bdHas q l with
  | true => exact h
  | false =>
    have h1 := bdRaw_rise (s := s) h.2.1 hn
    have h2 := bdRaw_len q s l
    have h3 : ∀ b ∈ l.take (bdPos q l) ++ ⟨q, false, s⟩ :: l.drop (bdPos q l), b.q < 2 ^ 64 := fun b hb => by
      rcases bdRaw_mem.1 hb with rfl | hb
      · exact hq
      · exact h.2.2 b hb
    simp only [Bool.false_eq_true, if_false]
    unfold bdLim
    split
    · refine ⟨?_, h1.sublist (List.drop_sublist _ _), fun b hb => h3 b (List.mem_of_mem_drop hb)⟩
      rw [List.length_drop]; have := h.1; omega
    · rename_i h4
      exact ⟨by omega, h1, h3⟩
theorem bdTell_ok {l : List Bd} (h : BdsOk l) : BdsOk (bdTell l) := by
  refine ⟨by unfold bdTell; rw [List.length_map]; exact h.1, ?_, fun b hb => ?_⟩
  · unfold bdTell Rise
    rw [List.pairwise_map]
    refine h.2.1.imp fun {a b} hab => ?_
    cases a.f <;> cases b.f <;> exact hab
  · unfold bdTell at hb
    obtain ⟨a, ha, rfl⟩ := List.mem_map.1 hb
    have := h.2.2 a ha
    cases a.f <;> exact this
theorem least_le {f : Int → Nat} : ∀ {r : List Int} {m : Nat}, r.foldl (fun m j => min m (f j)) m ≤ m
  | [], _ => Nat.le_refl _
  | _ :: r, _ => Nat.le_trans (least_le (r := r)) (Nat.min_le_left _ _)
theorem leastL_some {f : Int → Nat} {l : List Int} (h : leastL f l ≠ 0) : ∃ i, f i ≠ 0 := by
  cases l with
  | nil => exact absurd rfl h
  | cons i r =>
    refine ⟨i, fun e => h ?_⟩
    have h2 : leastL f (i :: r) ≤ f i := least_le (f := f) (r := r) (m := f i)
    omega
theorem leastL_lt {f : Int → Nat} {b : Nat} (hb : 0 < b) (h : ∀ i, f i < b) (l : List Int) : leastL f l < b := by
  cases l with
  | nil => exact hb
  | cons i r => exact Nat.lt_of_le_of_lt least_le (h i)
theorem AkOk.rr {A : Ak} (h : AkOk A) (k : Ky) : BdsOk (A.R k) := h.r k
theorem AkOk.put {A : Ak} (h : AkOk A) {k : Ky} {i : Int} {q : Nat} {f : Bool} {s : ByteArray} (hi : 1 ≤ i ∧ i ≤ 32) (hq : q < 2 ^ 64) (hk : (1 ≤ k.1 ∧ k.1 ≤ 5) ∧ k.2.size ≤ 64) : AkOk (A.put k i q f s) := by
  have hN : ∀ x, (A.N x).isSome → (upd A.N k (some ((A.N k).getD 0)) x).isSome := fun x hx => by
    by_cases e : x = k
    · subst e; rw [upd_same]; rfl
    · rw [upd_other e]; exact hx
  have hn : ∀ x v, upd A.N k (some ((A.N k).getD 0)) x = some v → v < 2 ^ 64 ∧ (1 ≤ x.1 ∧ x.1 ≤ 5) ∧ x.2.size ≤ 64 := fun x v hx => by
    by_cases e : x = k
    · subst e
      rw [upd_same] at hx
      cases hx
      refine ⟨?_, hk⟩
      cases hv : A.N x with
      | none => show 0 < 2 ^ 64; decide
      | some u => exact (h.n x u hv).1
    · rw [upd_other e] at hx; exact h.n x v hx
  unfold Ak.put
  cases f with
  | true =>
    refine ⟨fun x j hx => ?_, fun x j => ?_, h.r, fun x hx => hN x (h.rn x hx), hn⟩
    · show _ ∧ _ ∧ (upd A.N k (some ((A.N k).getD 0)) x).isSome
      have hx : upd A.T k (upd (A.T k) i (max (A.T k i) q)) x j ≠ 0 := hx
      by_cases e : x = k
      · subst e
        rw [upd_same] at hx
        by_cases e2 : j = i
        · subst e2; exact ⟨hi.1, hi.2, by rw [upd_same]; rfl⟩
        · rw [upd_other e2] at hx
          have := h.t x j hx
          exact ⟨this.1, this.2.1, by rw [upd_same]; rfl⟩
      · rw [upd_other e] at hx
        have := h.t x j hx
        exact ⟨this.1, this.2.1, hN x this.2.2⟩
    · show upd A.T k (upd (A.T k) i (max (A.T k i) q)) x j < 2 ^ 64
      by_cases e : x = k
      · subst e
        rw [upd_same]
        by_cases e2 : j = i
        · subst e2; rw [upd_same]; have := h.t64 x j; omega
        · rw [upd_other e2]; exact h.t64 x j
      · rw [upd_other e]; exact h.t64 x j
  | false =>
    refine ⟨fun x j hx => ?_, h.t64, fun x => ?_, fun x hx => ?_, hn⟩
    · have := h.t x j hx
      exact ⟨this.1, this.2.1, hN x this.2.2⟩
    · show BdsOk (upd A.R k (bdIns q s (A.R k)) x)
      by_cases e : x = k
      · subst e; rw [upd_same]; exact bdIns_ok (h.rr x) hq
      · rw [upd_other e]; exact h.rr x
    · show (upd A.N k (some ((A.N k).getD 0)) x).isSome
      have hx : upd A.R k (bdIns q s (A.R k)) x ≠ [] := hx
      by_cases e : x = k
      · subst e; rw [upd_same]; rfl
      · rw [upd_other e] at hx; exact hN x (h.rn x hx)
theorem AkOk.drop {A : Ak} (h : AkOk A) (i : Int) : AkOk (A.drop i) := by
  refine ⟨fun x j hx => ?_, fun x j => ?_, h.r, h.rn, h.n⟩
  · have hx : (if j = i then 0 else A.T x j) ≠ 0 := hx
    split at hx
    · exact absurd rfl hx
    · exact h.t x j hx
  · show (if j = i then 0 else A.T x j) < 2 ^ 64
    split
    · decide
    · exact h.t64 x j
theorem AkOk.tell {A : Ak} (h : AkOk A) (k : Ky) : AkOk (A.tell k) := by
  refine ⟨h.t, h.t64, fun x => ?_, fun x hx => ?_, h.n⟩
  · show BdsOk (upd A.R k (bdTell (A.R k)) x)
    by_cases e : x = k
    · subst e; rw [upd_same]; exact bdTell_ok (h.rr x)
    · rw [upd_other e]; exact h.rr x
  · have hx : upd A.R k (bdTell (A.R k)) x ≠ [] := hx
    by_cases e : x = k
    · subst e
      rw [upd_same] at hx
      refine h.rn x fun e => hx ?_
      rw [e]; rfl
    · rw [upd_other e] at hx; exact h.rn x hx
theorem Ak.more_some {A : Ak} (h : AkOk A) {k : Ky} {who : List Int} (hm : A.more k who = true) : ∃ v, A.N k = some v := by
  have h1 : (A.N k).getD 0 < leastL (A.T k) who := of_decide_eq_true hm
  obtain ⟨i, hi⟩ := leastL_some (f := A.T k) (l := who) (by omega)
  exact Option.isSome_iff_exists.1 (h.t k i hi).2.2
theorem AkOk.ready {A : Ak} (h : AkOk A) (k : Ky) (who : List Int) : AkOk (A.ready k who) := by
  unfold Ak.ready
  split
  · rename_i hm
    obtain ⟨v, hv⟩ := A.more_some h hm
    have ht := h.tell k
    have hN : ∀ x, (A.N x).isSome → (upd A.N k (some (leastL (A.T k) who)) x).isSome := fun x hx => by
      by_cases e : x = k
      · subst e; rw [upd_same]; rfl
      · rw [upd_other e]; exact hx
    refine ⟨fun x j hx => ?_, ht.t64, ht.r, fun x hx => hN x (ht.rn x hx), fun x u hx => ?_⟩
    · have := h.t x j hx
      exact ⟨this.1, this.2.1, hN x this.2.2⟩
    · have hx : upd A.N k (some (leastL (A.T k) who)) x = some u := hx
      by_cases e : x = k
      · subst e
        rw [upd_same] at hx
        cases hx
        exact ⟨leastL_lt (by decide) (h.t64 x) who, (h.n x v hv).2⟩
      · rw [upd_other e] at hx; exact h.n x u hx
  · exact h.tell k
theorem AkOk.forget {A : Ak} (h : AkOk A) (k : Ky) : AkOk (A.forget k) := by
  refine ⟨fun x j hx => ?_, fun x j => ?_, fun x => ?_, fun x hx => ?_, fun x u hx => ?_⟩
  · have hx : upd A.T k (fun _ => 0) x j ≠ 0 := hx
    by_cases e : x = k
    · subst e; rw [upd_same] at hx; exact absurd rfl hx
    · rw [upd_other e] at hx
      have := h.t x j hx
      refine ⟨this.1, this.2.1, ?_⟩
      show (upd A.N k none x).isSome
      rw [upd_other e]; exact this.2.2
  · show upd A.T k (fun _ => 0) x j < 2 ^ 64
    by_cases e : x = k
    · subst e; rw [upd_same]; decide
    · rw [upd_other e]; exact h.t64 x j
  · show BdsOk (upd A.R k [] x)
    by_cases e : x = k
    · subst e; rw [upd_same]; exact ⟨by simp, List.Pairwise.nil, fun b h => by cases h⟩
    · rw [upd_other e]; exact h.rr x
  · have hx : upd A.R k [] x ≠ [] := hx
    show (upd A.N k none x).isSome
    by_cases e : x = k
    · subst e; rw [upd_same] at hx; exact absurd rfl hx
    · rw [upd_other e] at hx; rw [upd_other e]; exact h.rn x hx
  · have hx : upd A.N k none x = some u := hx
    by_cases e : x = k
    · subst e; rw [upd_same] at hx; cases hx
    · rw [upd_other e] at hx; exact h.n x u hx
end Go.Proofs.YtogkdekjcbljnaaDoor
