/- timer: the heap, plain; no program. -/
import Derived.KernelRfl
namespace Go.Proofs.Ytjcocgadhdgbjaa

/-- A timer: its id, its time, how many were set ahead of it. -/
structure En where
  id : List UInt8
  t : Nat
  k : Nat
deriving Inhabited
def En.lt (a b : En) : Prop := a.t < b.t ∨ (a.t = b.t ∧ a.k < b.k)
instance (a b : En) : Decidable (En.lt a b) := by unfold En.lt; infer_instance
def lsB (a b : En) : Bool := decide (En.lt a b)
theorem lsB_iff {a b : En} : lsB a b = true ↔ En.lt a b := by simp [lsB]
theorem lsB_no {a b : En} : lsB a b = false ↔ ¬ En.lt a b := by simp [lsB]
/-- a does not fall due behind b. -/
def En.le (a b : En) : Prop := ¬ En.lt b a
theorem En.le_of_lt {a b : En} (h : En.lt a b) : En.le a b := by unfold En.le; unfold En.lt at *; omega
theorem En.le_trans {a b c : En} (h : En.le a b) (h' : En.le b c) : En.le a c := by unfold En.le En.lt at *; omega
theorem En.le_refl (a : En) : En.le a a := by unfold En.le En.lt; omega
theorem En.le_t {a b : En} (h : En.le a b) : a.t ≤ b.t := by unfold En.le En.lt at h; omega

def gt (h : List En) (i : Nat) : En := h.getD i default
def swp (h : List En) (i j : Nat) : List En := (h.set i (gt h j)).set j (gt h i)
theorem swp_len (h : List En) (i j : Nat) : (swp h i j).length = h.length := by simp [swp]
theorem swp_at (h : List En) (i j k : Nat) (hi : i < h.length) (hj : j < h.length) : gt (swp h i j) k = if k = j then gt h i else if k = i then gt h j else gt h k := by
  unfold swp gt
  simp only [List.getD_eq_getElem?_getD, List.getElem?_set, List.length_set]
  by_cases h1 : k = j
  · subst h1; simp [hj]
  · rw [if_neg (fun e => h1 e.symm), if_neg h1]
    by_cases h2 : k = i
    · subst h2; simp [hi]
    · rw [if_neg (fun e => h2 e.symm), if_neg h2]
theorem swp_perm (h : List En) (i j : Nat) (hi : i < h.length) (hj : j < h.length) : (swp h i j).Perm h := by
  have e : swp h i j = (h.toArray.swap i j (by simpa using hi) (by simpa using hj)).toList := by
    unfold swp gt
    rw [Array.toList_swap]
    simp [hi, hj]
  rw [e]
  have := Array.swap_perm (xs := h.toArray) (i := i) (j := j) (by simpa using hi) (by simpa using hj)
  exact this.toList

/-- Up from j. -/
def upF (h : List En) (j : Nat) : List En := if hj : j = 0 then h else if lsB (gt h j) (gt h ((j - 1) / 2)) then upF (swp h ((j - 1) / 2) j) ((j - 1) / 2) else h
termination_by j
decreasing_by omega
theorem upF_zero (h : List En) : upF h 0 = h := by rw [upF]; simp
theorem upF_stop {h : List En} {j : Nat} (hl : lsB (gt h j) (gt h ((j - 1) / 2)) = false) : upF h j = h := by rw [upF]; simp [hl]
theorem upF_go {h : List En} {j : Nat} (hj : j ≠ 0) (hl : lsB (gt h j) (gt h ((j - 1) / 2)) = true) : upF h j = upF (swp h ((j - 1) / 2) j) ((j - 1) / 2) := by 
  conv => lhs; rw [upF]
  simp [hl, hj]
/-- The lesser child of i. -/
def chd (h : List En) (i n : Nat) : Nat := if 2 * i + 2 < n ∧ lsB (gt h (2 * i + 2)) (gt h (2 * i + 1)) = true then 2 * i + 2 else 2 * i + 1
theorem chd_bd (h : List En) (i n : Nat) (hn : 2 * i + 1 < n) : i < chd h i n ∧ chd h i n < n ∧ (chd h i n - 1) / 2 = i := by unfold chd; split <;> omega
/-- Down from i. -/
def downF (h : List En) (i n : Nat) : List En × Nat :=
  if _hn : 2 * i + 1 < n then (if lsB (gt h (chd h i n)) (gt h i) then downF (swp h i (chd h i n)) (chd h i n) n else (h, i)) else (h, i)
termination_by n - i
decreasing_by have := chd_bd h i n _hn; omega
theorem downF_end {h : List En} {i n : Nat} (hn : n ≤ 2 * i + 1) : downF h i n = (h, i) := by rw [downF]; rw [dif_neg (by omega)]
theorem downF_stop {h : List En} {i n : Nat} (hl : lsB (gt h (chd h i n)) (gt h i) = false) : downF h i n = (h, i) := by rw [downF]; simp [hl]
theorem downF_go {h : List En} {i n : Nat} (hn : 2 * i + 1 < n) (hl : lsB (gt h (chd h i n)) (gt h i) = true) : downF h i n = downF (swp h i (chd h i n)) (chd h i n) n := by
  conv => lhs; rw [downF]
  simp [hl, hn]

theorem upF_keep : ∀ (j : Nat) (h : List En), j < h.length → (upF h j).Perm h ∧ ∀ m, j < m → gt (upF h j) m = gt h m := by
  intro j
  induction j using Nat.strongRecOn with
  | _ j ih =>
    intro h hj
    by_cases h0 : j = 0
    · subst h0; rw [upF_zero]; exact ⟨List.Perm.refl _, fun _ _ => rfl⟩
    · cases hl : lsB (gt h j) (gt h ((j - 1) / 2)) with
      | false => rw [upF_stop hl]; exact ⟨List.Perm.refl _, fun _ _ => rfl⟩
      | true =>
        rw [upF_go h0 hl]
        obtain ⟨h1, h2⟩ := ih ((j - 1) / 2) (by omega) (swp h ((j - 1) / 2) j) (by rw [swp_len]; omega)
        refine ⟨h1.trans (swp_perm _ _ _ (by omega) hj), fun m hm => ?_⟩
        rw [h2 m (by omega), swp_at _ _ _ _ (by omega) hj, if_neg (by omega), if_neg (by omega)]
theorem downF_keep : ∀ (d : Nat) (h : List En) (i n : Nat), n - i ≤ d → i < n → n ≤ h.length → (downF h i n).1.Perm h ∧ (∀ m, m < i ∨ n ≤ m → gt (downF h i n).1 m = gt h m) ∧ i ≤ (downF h i n).2 ∧ (downF h i n).2 < n := by
  intro d
  induction d with
  | zero => intro h i n h1 h2; omega
  | succ d ih =>
    intro h i n hd hi hn
    by_cases hc : 2 * i + 1 < n
    · cases hl : lsB (gt h (chd h i n)) (gt h i) with
      | false => rw [downF_stop hl]; exact ⟨List.Perm.refl _, fun _ _ => rfl, Nat.le_refl _, hi⟩
      | true =>
        rw [downF_go hc hl]
        have hb := chd_bd h i n hc
        generalize chd h i n = c at hb hl
        obtain ⟨h1, h2, h3, h4⟩ := ih (swp h i c) c n (by omega) (by omega) (by rw [swp_len]; omega)
        refine ⟨h1.trans (swp_perm _ _ _ (by omega) (by omega)), fun m hm => ?_, by omega, h4⟩
        rw [h2 m (by omega), swp_at _ _ _ _ (by omega) (by omega), if_neg (by omega), if_neg (by omega)]
    · rw [downF_end (by omega)]; exact ⟨List.Perm.refl _, fun _ _ => rfl, Nat.le_refl _, hi⟩

/-- The first n are a heap. -/
def Hp (n : Nat) (h : List En) : Prop := ∀ i, 0 < i → i < n → En.le (gt h ((i - 1) / 2)) (gt h i)
/-- .. but for j and what stands above it. -/
def HpUp (n j : Nat) (h : List En) : Prop := (∀ i, 0 < i → i < n → i ≠ j → En.le (gt h ((i - 1) / 2)) (gt h i)) ∧ (∀ c, 0 < c → c < n → (c - 1) / 2 = j → 0 < j → En.le (gt h ((j - 1) / 2)) (gt h c))
/-- .. but for j and what stands above, and beneath it. -/
def HpAt (n j : Nat) (h : List En) : Prop := (∀ i, 0 < i → i < n → i ≠ j → (i - 1) / 2 ≠ j → En.le (gt h ((i - 1) / 2)) (gt h i)) ∧ (∀ c, 0 < c → c < n → (c - 1) / 2 = j → 0 < j → En.le (gt h ((j - 1) / 2)) (gt h c))

theorem upF_hp : ∀ (j n : Nat) (h : List En), j < n → n ≤ h.length → HpUp n j h → Hp n (upF h j) := by
  intro j
  induction j using Nat.strongRecOn with
  | _ j ih =>
    intro n h hj hn hh
    obtain ⟨h1, h2⟩ := hh
    by_cases h0 : j = 0
    · subst h0; rw [upF_zero]; exact fun i hi hin => h1 i hi hin (by omega)
    · cases hl : lsB (gt h j) (gt h ((j - 1) / 2)) with
      | false =>
        rw [upF_stop hl]
        intro i hi hin
        by_cases e : i = j
        · subst e; exact lsB_no.1 hl
        · exact h1 i hi hin e
      | true =>
        rw [upF_go h0 hl]
        have hlt := En.le_of_lt (lsB_iff.1 hl)
        have hq : (j - 1) / 2 < j := by omega
        have hs := fun k => swp_at h ((j - 1) / 2) j k (by omega) (by omega)
        refine ih ((j - 1) / 2) (by omega) n _ (by omega) (by rw [swp_len]; exact hn) ⟨fun i hi hin hne => ?_, fun c hc hcn hpc hq0 => ?_⟩
        · rw [hs, hs i]
          by_cases e1 : i = j
          · subst e1; rw [if_neg (by omega), if_pos rfl, if_pos rfl]; exact hlt
          · rw [if_neg e1, if_neg hne]
            by_cases e2 : (i - 1) / 2 = j
            · rw [if_pos e2]; exact h2 i hi hin e2 (by omega)
            · rw [if_neg e2]
              by_cases e3 : (i - 1) / 2 = (j - 1) / 2
              · rw [if_pos e3]; exact En.le_trans hlt (by rw [← e3]; exact h1 i hi hin e1)
              · rw [if_neg e3]; exact h1 i hi hin e1
        · have hp := h1 ((j - 1) / 2) hq0 (by omega) (by omega)
          rw [hs, hs c, if_neg (by omega), if_neg (by omega)]
          by_cases e1 : c = j
          · subst e1; rw [if_pos rfl]; exact hp
          · rw [if_neg e1, if_neg (by omega)]
            exact En.le_trans hp (by rw [← hpc]; exact h1 c hc hcn e1)

theorem chd_le (h : List En) (i n c : Nat) (hc : 0 < c) (hcn : c < n) (hp : (c - 1) / 2 = i) : En.le (gt h (chd h i n)) (gt h c) := by
  have h2 : c = 2 * i + 1 ∨ c = 2 * i + 2 := by omega
  unfold chd
  split
  · rename_i hh
    rcases h2 with rfl | rfl
    · exact En.le_of_lt (lsB_iff.1 hh.2)
    · exact En.le_refl _
  · rename_i hh
    rcases h2 with rfl | rfl
    · exact En.le_refl _
    · have : ¬ lsB (gt h (2 * i + 2)) (gt h (2 * i + 1)) = true := fun e => hh ⟨hcn, e⟩
      exact fun e => this (lsB_iff.2 e)
/-- One step down: what holds then. -/
theorem down_step (n i : Nat) (h : List En) (hi : 2 * i + 1 < n) (hn : n ≤ h.length) (hh : HpAt n i h) (hl : lsB (gt h (chd h i n)) (gt h i) = true) :
    HpAt n (chd h i n) (swp h i (chd h i n)) ∧ En.le (gt (swp h i (chd h i n)) ((chd h i n - 1) / 2)) (gt (swp h i (chd h i n)) (chd h i n)) := by
  have hb := chd_bd h i n hi
  have hle := fun c hc hcn hp => chd_le h i n c hc hcn hp
  have hlt := En.le_of_lt (lsB_iff.1 hl)
  generalize chd h i n = j at hb hl hle hlt
  have hs := fun k => swp_at h i j k (by omega) (by omega)
  obtain ⟨h1, h2⟩ := hh
  refine ⟨⟨fun k hk hkn hne hpe => ?_, fun c hc hcn hpc hj0 => ?_⟩, ?_⟩
  · rw [hs, hs k, if_neg hpe, if_neg hne]
    by_cases e1 : k = i
    · subst e1; rw [if_pos rfl, if_neg (by omega)]; exact h2 j (by omega) hb.2.1 hb.2.2 hk
    · rw [if_neg e1]
      by_cases e2 : (k - 1) / 2 = i
      · rw [if_pos e2]; exact hle k hk hkn e2
      · rw [if_neg e2]; exact h1 k hk hkn e1 e2
  · rw [hs, hs c, hb.2.2, if_neg (by omega), if_pos rfl, if_neg (by omega), if_neg (by omega)]
    have := h1 c hc hcn (by omega) (by omega)
    rw [hpc] at this; exact this
  · rw [hs, hs j, hb.2.2, if_neg (by omega), if_pos rfl, if_pos rfl]; exact hlt
theorem downF_hp : ∀ (d n i : Nat) (h : List En), n - i ≤ d → i < n → n ≤ h.length → HpAt n i h → (0 < i → En.le (gt h ((i - 1) / 2)) (gt h i)) → Hp n (downF h i n).1 := by
  intro d
  induction d with
  | zero => intro n i h h1 h2; omega
  | succ d ih =>
    intro n i h hd hi hn hh h3
    by_cases hc : 2 * i + 1 < n
    · cases hl : lsB (gt h (chd h i n)) (gt h i) with
      | false =>
        rw [downF_stop hl]
        intro k hk hkn
        by_cases e1 : k = i
        · subst e1; exact h3 hk
        · by_cases e2 : (k - 1) / 2 = i
          · rw [e2]; exact En.le_trans (lsB_no.1 hl) (chd_le h i n k hk hkn e2)
          · exact hh.1 k hk hkn e1 e2
      | true =>
        rw [downF_go hc hl]
        have hb := chd_bd h i n hc
        obtain ⟨g1, g2⟩ := down_step n i h hc hn hh hl
        exact ih n (chd h i n) _ (by omega) (by omega) (by rw [swp_len]; exact hn) g1 (fun _ => g2)
    · rw [downF_end (by omega)]
      intro k hk hkn
      by_cases e1 : k = i
      · subst e1; exact h3 hk
      · exact hh.1 k hk hkn e1 (by omega)
/-- Down, then up where nothing moved. -/
theorem downUp_hp (n i : Nat) (h : List En) (hi : i < n) (hn : n ≤ h.length) (hh : HpAt n i h) :
    ((downF h i n).2 = i → (downF h i n).1 = h ∧ Hp n (upF h i)) ∧ (i < (downF h i n).2 → Hp n (downF h i n).1) := by
  by_cases hc : 2 * i + 1 < n
  · cases hl : lsB (gt h (chd h i n)) (gt h i) with
    | false =>
      rw [downF_stop hl]
      refine ⟨fun _ => ⟨rfl, upF_hp i n h hi hn ⟨fun k hk hkn hne => ?_, hh.2⟩⟩, fun e => absurd e (Nat.lt_irrefl _)⟩
      by_cases e2 : (k - 1) / 2 = i
      · rw [e2]; exact En.le_trans (lsB_no.1 hl) (chd_le h i n k hk hkn e2)
      · exact hh.1 k hk hkn hne e2
    | true =>
      rw [downF_go hc hl]
      have hb := chd_bd h i n hc
      obtain ⟨g1, g2⟩ := down_step n i h hc hn hh hl
      have hk := downF_keep _ (swp h i (chd h i n)) (chd h i n) n (Nat.le_refl _) (by omega) (by rw [swp_len]; exact hn)
      exact ⟨fun e => by omega, fun _ => downF_hp _ n (chd h i n) _ (Nat.le_refl _) (by omega) (by rw [swp_len]; exact hn) g1 (fun _ => g2)⟩
  · rw [downF_end (by omega)]
    exact ⟨fun _ => ⟨rfl, upF_hp i n h hi hn ⟨fun k hk hkn hne => hh.1 k hk hkn hne (by omega), hh.2⟩⟩, fun e => absurd e (Nat.lt_irrefl _)⟩
theorem hp_min {n : Nat} {h : List En} (hh : Hp n h) : ∀ i, i < n → En.le (gt h 0) (gt h i) := by
  intro i
  induction i using Nat.strongRecOn with
  | _ i ih =>
    intro hi
    by_cases e : i = 0
    · subst e; exact En.le_refl _
    · exact En.le_trans (ih ((i - 1) / 2) (by omega) (by omega)) (hh i (by omega) hi)

/-- What Remove leaves, the one that is taken last of all. -/
def remF (h : List En) (i : Nat) : List En :=
  if h.length - 1 = i then h else
    if i < (downF (swp h i (h.length - 1)) i (h.length - 1)).2 then (downF (swp h i (h.length - 1)) i (h.length - 1)).1
    else upF (downF (swp h i (h.length - 1)) i (h.length - 1)).1 i
theorem remF_all (h : List En) (i : Nat) (hi : i < h.length) (hh : Hp h.length h) : (remF h i).Perm h ∧ gt (remF h i) (h.length - 1) = gt h i ∧ Hp (h.length - 1) (remF h i) := by
  unfold remF
  by_cases e : h.length - 1 = i
  · rw [if_pos e, e]; exact ⟨List.Perm.refl _, rfl, fun k hk hkn => hh k hk (by omega)⟩
  · rw [if_neg e]
    have hs := fun k => swp_at h i (h.length - 1) k hi (by omega)
    have hsp := swp_perm h i (h.length - 1) hi (by omega)
    have hat : HpAt (h.length - 1) i (swp h i (h.length - 1)) := by
      refine ⟨fun k hk hkn hne hpe => ?_, fun c hc hcn hpc h0 => ?_⟩
      · rw [hs, hs k, if_neg (by omega), if_neg hpe, if_neg (by omega), if_neg hne]; exact hh k hk (by omega)
      · rw [hs, hs c, if_neg (by omega), if_neg (by omega), if_neg (by omega), if_neg (by omega)]
        exact En.le_trans (hh i h0 (by omega)) (by rw [← hpc]; exact hh c hc (by omega))
    have hk := downF_keep _ (swp h i (h.length - 1)) i (h.length - 1) (Nat.le_refl _) (by omega) (by rw [swp_len]; omega)
    have hu := downUp_hp (h.length - 1) i (swp h i (h.length - 1)) (by omega) (by rw [swp_len]; omega) hat
    have hlast : gt (swp h i (h.length - 1)) (h.length - 1) = gt h i := by rw [hs, if_pos rfl]
    split
    · rename_i hlt
      exact ⟨hk.1.trans hsp, by rw [hk.2.1 _ (Or.inr (Nat.le_refl _)), hlast], hu.2 hlt⟩
    · rename_i hlt
      have he : (downF (swp h i (h.length - 1)) i (h.length - 1)).2 = i := by omega
      obtain ⟨q1, q2⟩ := hu.1 he
      rw [q1]
      have hup := upF_keep i (swp h i (h.length - 1)) (by rw [swp_len]; exact hi)
      exact ⟨hup.1.trans hsp, by rw [hup.2 _ (by omega), hlast], q2⟩
/-- What Push leaves. -/
theorem push_all (h : List En) (e : En) (hh : Hp h.length h) : (upF (h ++ [e]) h.length).Perm (h ++ [e]) ∧ Hp (h.length + 1) (upF (h ++ [e]) h.length) := by
  have hg : ∀ k, k < h.length → gt (h ++ [e]) k = gt h k := fun k hk => by simp [gt, List.getD_eq_getElem?_getD, List.getElem?_append_left hk]
  refine ⟨(upF_keep h.length (h ++ [e]) (by simp)).1, upF_hp h.length (h.length + 1) (h ++ [e]) (by omega) (by simp) ⟨fun i hi hin hne => ?_, fun c hc hcn hpc h0 => by omega⟩⟩
  rw [hg i (by omega), hg _ (by omega)]; exact hh i hi (by omega)
end Go.Proofs.Ytjcocgadhdgbjaa
