/- merge: what each id wants, and how many name each name, without a program. -/
import Derived.Test.YtkjfafnnnkjoeaaGreatDoorNmPlain
import Derived.Test.YtkjfafnnnkjoeaaGreatDoorNmMade
namespace Go.Proofs.YtkjfafnnnkjoeaaGreatDoor
open Go.RowKit Go.Lib

theorem star_no : okN starB' = false := by decide
/-- A set in order, of names. -/
structure NsR (s : Ns) : Prop where
  ok : s.Ok
  nm : ∀ x ∈ s.ns, okN x = true
abbrev Ns.zero : Ns := ⟨false, []⟩
theorem nsr_zero : NsR Ns.zero := ⟨List.Pairwise.nil, fun x h => by cases h⟩
theorem nsr_of (l : List (List UInt8)) : NsR (nOf okN l) := ⟨nOf_ok okN l, fun x h => ((mem_of okN l x).1 h).2⟩
theorem nsr_star {s : Ns} (h : NsR s) : starB' ∉ s.ns := fun hs => by have := h.nm _ hs; rw [star_no] at this; cases this
theorem of_list {s : Ns} (h : NsR s) : nOf okN (nList s) = s := by
  refine ns_eq ?_ (rises_eq (srt_rises _) h.ok fun x => ?_)
  · show (nList s).contains starB' = s.all
    rw [Bool.eq_iff_iff, List.contains_iff_mem, mem_list]
    exact ⟨fun hh => hh.elim (·.1) (fun e => absurd e (nsr_star h)), fun hh => .inl ⟨hh, rfl⟩⟩
  · show x ∈ (nOf okN (nList s)).ns ↔ _
    rw [mem_of, mem_list]
    constructor
    · rintro ⟨⟨_, rfl⟩ | hx, hok⟩
      · rw [star_no] at hok; cases hok
      · exact hx
    · exact fun hx => ⟨.inr hx, h.nm x hx⟩
theorem rises_nodup {l : List (List UInt8)} (h : Rises l) : l.Nodup := List.Pairwise.imp (fun {a b} hab e => by subst e; exact List.lt_irrefl _ hab) h
theorem list_nodup {s : Ns} (h : NsR s) : (nList s).Nodup := by
  unfold nList
  cases s.all with
  | false => exact rises_nodup h.ok
  | true => exact List.nodup_cons.2 ⟨nsr_star h, rises_nodup h.ok⟩
theorem ns_ext {a b : Ns} (ha : NsR a) (hb : NsR b) (h : ∀ x, x ∈ nList a ↔ x ∈ nList b) : a = b := by
  rw [← of_list ha, ← of_list hb]
  refine ns_eq ?_ (rises_eq (srt_rises _) (srt_rises _) fun x => ?_)
  · show (nList a).contains starB' = (nList b).contains starB'
    rw [Bool.eq_iff_iff, List.contains_iff_mem, List.contains_iff_mem, h]
  · show x ∈ (nOf okN (nList a)).ns ↔ x ∈ (nOf okN (nList b)).ns
    rw [mem_of, mem_of, h]
theorem empty_list {s : Ns} : nEmpty s = true ↔ nList s = [] := by
  unfold nEmpty nList
  cases s.all <;> simp
theorem empty_zero {s : Ns} : nEmpty s = true ↔ s = Ns.zero := by
  obtain ⟨a, l⟩ := s
  unfold nEmpty
  cases a <;> simp

/-- What each id wants of each type. -/
abbrev Wants := Int → Int → Ns
def ids : List Int := (List.range 32).map fun i => ((i + 1 : Nat) : Int)
theorem mem_ids {i : Int} : i ∈ ids ↔ 1 ≤ i ∧ i ≤ 32 := by
  unfold ids
  rw [List.mem_map]
  constructor
  · rintro ⟨n, hn, rfl⟩
    rw [List.mem_range] at hn
    omega
  · rintro ⟨h1, h2⟩
    exact ⟨(i - 1).toNat, List.mem_range.2 (by omega), by omega⟩
theorem ids_nodup : ids.Nodup := by decide
def badI (i k : Int) : Bool := decide (i < 1) || decide (32 < i) || decide (k < 1) || decide (5 < k)
theorem badI_no {i k : Int} : badI i k = false ↔ (1 ≤ i ∧ i ≤ 32) ∧ 1 ≤ k ∧ k ≤ 5 := by
  unfold badI
  simp only [Bool.or_eq_false_iff, decide_eq_false_iff_not]
  omega
structure WOk (W : Wants) : Prop where
  r : ∀ i k, NsR (W i k)
  z : ∀ i k, badI i k = true → W i k = Ns.zero
/-- How many name x of type k. -/
def cnt (W : Wants) (k : Int) (x : List UInt8) : Nat := ids.countP fun i => (nList (W i k)).contains x
open Classical in
/-- That id wants that of that type. -/
noncomputable def wset (W : Wants) (i k : Int) (s : Ns) : Wants := fun i' k' => if i' = i ∧ k' = k then s else W i' k'
theorem wset_same (W : Wants) (i k : Int) (s : Ns) : wset W i k s i k = s := by simp [wset]
theorem wset_id {W : Wants} {i k i' k' : Int} {s : Ns} (h : i' ≠ i) : wset W i k s i' k' = W i' k' := by simp [wset, h]
theorem wset_kind {W : Wants} {i k i' k' : Int} {s : Ns} (h : k' ≠ k) : wset W i k s i' k' = W i' k' := by simp [wset, h]
theorem wset_ok {W : Wants} (h : WOk W) {i k : Int} {s : Ns} (hs : NsR s) (hb : badI i k = false) : WOk (wset W i k s) := by
  refine ⟨fun i' k' => ?_, fun i' k' hb' => ?_⟩
  · unfold wset; split
    · exact hs
    · exact h.r i' k'
  · unfold wset; split
    · next e => obtain ⟨rfl, rfl⟩ := e; rw [hb] at hb'; cases hb'
    · exact h.z i' k' hb'
/-- What any of them wants of a type. -/
def uni (W : Wants) (k : Int) : Ns := nUnion (ids.map fun i => W i k)
theorem mem_uni (W : Wants) (k : Int) (x : List UInt8) : x ∈ (uni W k).ns ↔ ∃ i ∈ ids, x ∈ (W i k).ns := by
  show x ∈ srt _ ↔ _
  rw [srt_mem]
  simp only [List.mem_flatMap, List.mem_map]
  exact ⟨fun ⟨a, ⟨i, hi, e⟩, hx⟩ => ⟨i, hi, by rw [e]; exact hx⟩, fun ⟨i, hi, hx⟩ => ⟨_, ⟨i, hi, rfl⟩, hx⟩⟩
theorem uni_all (W : Wants) (k : Int) : (uni W k).all = true ↔ ∃ i ∈ ids, (W i k).all = true := by
  show (ids.map fun i => W i k).any (·.all) = true ↔ _
  simp [List.any_eq_true]
theorem nsr_uni {W : Wants} (h : WOk W) (k : Int) : NsR (uni W k) := ⟨nUnion_ok _, fun x hx => by
  obtain ⟨i, _, hi⟩ := (mem_uni W k x).1 hx
  exact (h.r i k).nm x hi⟩
theorem mem_list_uni (W : Wants) (k : Int) (x : List UInt8) : x ∈ nList (uni W k) ↔ 0 < cnt W k x := by
  unfold cnt
  rw [List.countP_pos_iff, mem_list, mem_uni, uni_all]
  constructor
  · rintro (⟨⟨i, hi, ha⟩, rfl⟩ | ⟨i, hi, hx⟩)
    · exact ⟨i, hi, by rw [List.contains_iff_mem, mem_list]; exact .inl ⟨ha, rfl⟩⟩
    · exact ⟨i, hi, by rw [List.contains_iff_mem, mem_list]; exact .inr hx⟩
  · rintro ⟨i, hi, hx⟩
    rw [List.contains_iff_mem, mem_list] at hx
    rcases hx with ⟨ha, rfl⟩ | hx
    · exact .inl ⟨⟨i, hi, ha⟩, rfl⟩
    · exact .inr ⟨i, hi, hx⟩
theorem cnt_le (W : Wants) (k : Int) (x : List UInt8) : cnt W k x ≤ 32 := by
  unfold cnt
  exact List.countP_le_length
theorem cnt_kind {W : Wants} {i k k' : Int} {s : Ns} (h : k' ≠ k) (x : List UInt8) : cnt (wset W i k s) k' x = cnt W k' x := by
  unfold cnt
  simp only [wset_kind h]
theorem countP_set {α : Type} [DecidableEq α] {l : List α} {p q : α → Bool} {a : α} (hn : l.Nodup) (ha : a ∈ l) (h : ∀ b ∈ l, b ≠ a → q b = p b) : l.countP q + (if p a then 1 else 0) = l.countP p + (if q a then 1 else 0) := by
  induction l with
  | nil => cases ha
  | cons b l ih =>
    obtain ⟨hb, hn'⟩ := List.nodup_cons.1 hn
    rw [List.countP_cons, List.countP_cons]
    by_cases e : b = a
    · subst e
      have : l.countP q = l.countP p := List.countP_congr fun c hc => by rw [h c (List.mem_cons_of_mem _ hc) (fun e => hb (e ▸ hc))]
      rw [this]
      omega
    · have ha' : a ∈ l := by
        rcases List.mem_cons.1 ha with e' | e'
        · exact absurd e'.symm e
        · exact e'
      have := ih hn' ha' fun c hc => h c (List.mem_cons_of_mem _ hc)
      rw [h b (by simp) e]
      omega
theorem cnt_set {W : Wants} {i k : Int} {s : Ns} (hi : i ∈ ids) (x : List UInt8) : cnt (wset W i k s) k x + (if (nList (W i k)).contains x then 1 else 0) = cnt W k x + (if (nList s).contains x then 1 else 0) := by
  have h := countP_set (l := ids) (p := fun j => (nList (W j k)).contains x) (q := fun j => (nList (wset W i k s j k)).contains x) (a := i) ids_nodup hi (fun b _ hb => by rw [wset_id hb])
  simp only [wset_same] at h
  exact h
theorem has_cnt {W : Wants} {i k : Int} (hi : i ∈ ids) {x : List UInt8} (hx : x ∈ nList (W i k)) : 0 < cnt W k x := by
  unfold cnt
  rw [List.countP_pos_iff]
  exact ⟨i, hi, by rw [List.contains_iff_mem]; exact hx⟩
theorem nsr_less {a b : Ns} (h : NsR a) : NsR (nLess a b) := ⟨nLess_ok a b, fun x hx => h.nm x ((mem_less a b x).1 hx).1⟩
end Go.Proofs.YtkjfafnnnkjoeaaGreatDoor
