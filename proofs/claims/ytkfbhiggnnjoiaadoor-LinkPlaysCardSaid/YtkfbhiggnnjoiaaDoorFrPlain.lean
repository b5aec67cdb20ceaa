/- Messages behind their lengths: what a text of chunks is. No program. -/
namespace Go.Proofs.YtkfbhiggnnjoiaaDoor

def be4 (n : Nat) : List UInt8 := [UInt8.ofNat (n / 16777216), UInt8.ofNat (n / 65536), UInt8.ofNat (n / 256), UInt8.ofNat n]
def numL (l : List UInt8) : Nat := l.foldl (fun n x => n * 256 + x.toNat) 0
def num4 (l : List UInt8) : Nat := numL (l.take 4)
theorem numL_snoc (l : List UInt8) (x : UInt8) : numL (l ++ [x]) = numL l * 256 + x.toNat := by simp [numL]
theorem numL_take {l : List UInt8} {k : Nat} (h : k < l.length) : numL (l.take (k + 1)) = numL (l.take k) * 256 + (l[k]).toNat := by
  rw [List.take_succ_eq_append_getElem h, numL_snoc]
theorem foldl_lt : ∀ (l : List UInt8) (a : Nat), l.foldl (fun n x => n * 256 + x.toNat) a < (a + 1) * 256 ^ l.length
  | [], a => by simp
  | x :: l, a => by
    have h := foldl_lt l (a * 256 + x.toNat)
    have hx := x.toNat_lt
    simp only [List.foldl_cons, List.length_cons]
    refine Nat.lt_of_lt_of_le h ?_
    rw [Nat.pow_succ, Nat.mul_comm (256 ^ l.length) 256, ← Nat.mul_assoc]
    exact Nat.mul_le_mul_right _ (by omega)
theorem numL_lt (l : List UInt8) : numL l < 256 ^ l.length := by have := foldl_lt l 0; simpa [numL] using this
theorem numL_lt4 {l : List UInt8} (h : l.length ≤ 4) : numL l < 4294967296 :=
  Nat.lt_of_lt_of_le (numL_lt l) (Nat.pow_le_pow_right (by omega) h)
theorem num4_lt (l : List UInt8) : num4 l < 4294967296 := numL_lt4 (List.length_take_le _ _)
theorem be4_len (n : Nat) : (be4 n).length = 4 := rfl
theorem num4_be4 {n : Nat} (h : n < 4294967296) (t : List UInt8) : num4 (be4 n ++ t) = n := by
  simp [num4, be4, numL]; omega
theorem num4_of {a b c d : UInt8} {t : List UInt8} : num4 (a :: b :: c :: d :: t) = ((a.toNat * 256 + b.toNat) * 256 + c.toNat) * 256 + d.toNat := by
  simp [num4, numL]
theorem num4_append {l t : List UInt8} (h : 4 ≤ l.length) : num4 (l ++ t) = num4 l := by
  unfold num4; rw [List.take_append_of_le_length h]

/-- 2: no message is empty; 3: none is so long; 0: there may be one. -/
def errN (n : Nat) : Nat := if n = 0 then 2 else if 65536 < n then 3 else 0
theorem errN_zero {n : Nat} : errN n = 0 ↔ 1 ≤ n ∧ n ≤ 65536 := by unfold errN; split <;> (try split) <;> omega
theorem errN_le (n : Nat) : errN n ≤ 3 := by unfold errN; split <;> (try split) <;> omega

inductive Tk | short | bad (n : Nat) | msg (m : List UInt8)
def takeOf (l : List UInt8) : Tk :=
  if l.length < 4 then .short else if errN (num4 l) = 0 then (if l.length - 4 < num4 l then .short else .msg ((l.drop 4).take (num4 l))) else .bad (num4 l)
theorem takeOf_msg {l m : List UInt8} (h : takeOf l = .msg m) : 1 ≤ m.length ∧ m.length ≤ 65536 ∧ m.length + 4 ≤ l.length ∧ num4 l = m.length ∧ m = (l.drop 4).take (num4 l) := by
  unfold takeOf at h
  split at h; · cases h
  split at h
  · rename_i h1 h2
    have h2 := errN_zero.1 h2
    split at h; · cases h
    cases h
    rw [List.length_take, List.length_drop]
    refine ⟨by omega, by omega, by omega, by omega, rfl⟩
  · cases h
theorem takeOf_bad {l : List UInt8} {n : Nat} (h : takeOf l = .bad n) : 4 ≤ l.length ∧ num4 l = n ∧ errN n ≠ 0 := by
  unfold takeOf at h
  split at h; · cases h
  split at h
  · split at h <;> cases h
  · cases h; exact ⟨by omega, rfl, ‹_›⟩
theorem takeOf_short {l : List UInt8} (h : takeOf l = .short) : l.length < 65540 := by
  unfold takeOf at h
  split at h; · omega
  split at h
  · rename_i h1 h2
    have h2 := errN_zero.1 h2
    split at h; · omega
    cases h
  · cases h
theorem takeOf_msg_append {l m t : List UInt8} (h : takeOf l = .msg m) : takeOf (l ++ t) = .msg m := by
  have hh := takeOf_msg h
  have he : errN (num4 l) = 0 := errN_zero.2 (by omega)
  unfold takeOf
  rw [num4_append (by omega), if_neg (by rw [List.length_append]; omega), if_pos he, if_neg (by rw [List.length_append]; omega), List.drop_append_of_le_length (by omega), List.take_append_of_le_length (by rw [List.length_drop]; omega), ← hh.2.2.2.2]
theorem takeOf_bad_append {l t : List UInt8} {n : Nat} (h : takeOf l = .bad n) : takeOf (l ++ t) = .bad n := by
  obtain ⟨h1, h2, h3⟩ := takeOf_bad h
  unfold takeOf
  rw [num4_append h1, if_neg (by rw [List.length_append]; omega), if_neg (by rw [h2]; exact h3), h2]

structure Fed where
  ms : List (List UInt8)
  rest : List UInt8
  bad : Option Nat
def feedN : Nat → List UInt8 → Fed
  | 0, l => ⟨[], l, none⟩
  | f + 1, l => match takeOf l with
    | .short => ⟨[], l, none⟩
    | .bad n => ⟨[], l, some n⟩
    | .msg m => ⟨m :: (feedN f (l.drop (4 + m.length))).ms, (feedN f (l.drop (4 + m.length))).rest, (feedN f (l.drop (4 + m.length))).bad⟩
def feedL (l : List UInt8) : Fed := feedN l.length l
theorem takeOf_nil : takeOf [] = .short := by simp [takeOf]
theorem feedN_eq : ∀ (f g : Nat) (l : List UInt8), l.length ≤ f → l.length ≤ g → feedN f l = feedN g l
  | 0, 0, _, _, _ => rfl
  | 0, g + 1, l, hf, _ => by
    obtain rfl : l = [] := List.eq_nil_of_length_eq_zero (by omega)
    simp [feedN, takeOf_nil]
  | f + 1, 0, l, _, hg => by
    obtain rfl : l = [] := List.eq_nil_of_length_eq_zero (by omega)
    simp [feedN, takeOf_nil]
  | f + 1, g + 1, l, hf, hg => by
    unfold feedN
    cases ht : takeOf l with
    | short => rfl
    | bad n => rfl
    | msg m =>
      have := takeOf_msg ht
      simp only
      rw [feedN_eq f g _ (by rw [List.length_drop]; omega) (by rw [List.length_drop]; omega)]
theorem feedL_short {l : List UInt8} (h : takeOf l = .short) : feedL l = ⟨[], l, none⟩ := by
  unfold feedL
  cases hn : l.length with
  | zero => rfl
  | succ n => simp [feedN, h]
theorem feedL_bad {l : List UInt8} {n : Nat} (h : takeOf l = .bad n) : feedL l = ⟨[], l, some n⟩ := by
  have := takeOf_bad h
  unfold feedL
  cases hn : l.length with
  | zero => omega
  | succ n => simp [feedN, h]
theorem feedL_msg {l m : List UInt8} (h : takeOf l = .msg m) :
    feedL l = ⟨m :: (feedL (l.drop (4 + m.length))).ms, (feedL (l.drop (4 + m.length))).rest, (feedL (l.drop (4 + m.length))).bad⟩ := by
  have hh := takeOf_msg h
  unfold feedL
  cases hn : l.length with
  | zero => omega
  | succ n =>
    rw [feedN_eq (l.drop (4 + m.length)).length n _ (Nat.le_refl _) (by rw [List.length_drop]; omega)]
    simp only [feedN, h]

/-- By the messages that the text begins with. -/
theorem feedL_ind {C : List UInt8 → Prop} (hs : ∀ l, takeOf l = .short → C l) (hb : ∀ l n, takeOf l = .bad n → C l) (hm : ∀ l m, takeOf l = .msg m → C (l.drop (4 + m.length)) → C l) : ∀ (n : Nat) (l : List UInt8), l.length ≤ n → C l
  | 0, l, h => by
    obtain rfl : l = [] := List.eq_nil_of_length_eq_zero (by omega)
    exact hs _ takeOf_nil
  | n + 1, l, h => by
    cases ht : takeOf l with
    | short => exact hs l ht
    | bad k => exact hb l k ht
    | msg m =>
      have := takeOf_msg ht
      exact hm l m ht (feedL_ind hs hb hm n _ (by rw [List.length_drop]; omega))
theorem feedL_rec {C : List UInt8 → Prop} (hs : ∀ l, takeOf l = .short → C l) (hb : ∀ l n, takeOf l = .bad n → C l) (hm : ∀ l m, takeOf l = .msg m → C (l.drop (4 + m.length)) → C l) (l : List UInt8) : C l :=
  feedL_ind hs hb hm l.length l (Nat.le_refl _)

theorem feedL_len (l : List UInt8) : 5 * (feedL l).ms.length + (feedL l).rest.length ≤ l.length := by
  refine feedL_rec (C := fun l => 5 * (feedL l).ms.length + (feedL l).rest.length ≤ l.length) ?_ ?_ ?_ l
  · intro l h; rw [feedL_short h]; simp
  · intro l n h; rw [feedL_bad h]; simp
  · intro l m h ih
    have := takeOf_msg h
    rw [feedL_msg h]
    rw [List.length_drop] at ih
    simp only [List.length_cons]
    omega
theorem feedL_none (l : List UInt8) : (feedL l).ms = [] → (feedL l).rest = l := by
  refine feedL_rec (C := fun l => (feedL l).ms = [] → (feedL l).rest = l) ?_ ?_ ?_ l
  · intro l h; rw [feedL_short h]; simp
  · intro l n h; rw [feedL_bad h]; simp
  · intro l m h ih; rw [feedL_msg h]; simp
theorem feedL_rest_le (l : List UInt8) : (feedL l).bad = none → (feedL l).rest.length < 65540 := by
  refine feedL_rec (C := fun l => (feedL l).bad = none → (feedL l).rest.length < 65540) ?_ ?_ ?_ l
  · intro l h _; rw [feedL_short h]; exact takeOf_short h
  · intro l n h hb; rw [feedL_bad h] at hb; cases hb
  · intro l m h ih; rw [feedL_msg h]; exact ih
theorem feedL_bad_ne (l : List UInt8) : ∀ n, (feedL l).bad = some n → errN n ≠ 0 := by
  refine feedL_rec (C := fun l => ∀ n, (feedL l).bad = some n → errN n ≠ 0) ?_ ?_ ?_ l
  · intro l h n hn; rw [feedL_short h] at hn; cases hn
  · intro l k h n hn
    rw [feedL_bad h] at hn
    cases hn
    exact (takeOf_bad h).2.2
  · intro l m h ih; rw [feedL_msg h]; exact ih
theorem feedL_rest (l : List UInt8) : (feedL l).bad = none → takeOf (feedL l).rest = .short := by
  refine feedL_rec (C := fun l => (feedL l).bad = none → takeOf (feedL l).rest = .short) ?_ ?_ ?_ l
  · intro l h _; rw [feedL_short h]; exact h
  · intro l n h hb; rw [feedL_bad h] at hb; cases hb
  · intro l m h ih; rw [feedL_msg h]; exact ih
theorem feedL_append (t l : List UInt8) : (feedL l).bad = none → feedL (l ++ t) = ⟨(feedL l).ms ++ (feedL ((feedL l).rest ++ t)).ms, (feedL ((feedL l).rest ++ t)).rest, (feedL ((feedL l).rest ++ t)).bad⟩ := by
  refine feedL_rec (C := fun l => (feedL l).bad = none → feedL (l ++ t) = ⟨(feedL l).ms ++ (feedL ((feedL l).rest ++ t)).ms, (feedL ((feedL l).rest ++ t)).rest, (feedL ((feedL l).rest ++ t)).bad⟩) ?_ ?_ ?_ l
  · intro l h _; rw [feedL_short h]; simp
  · intro l n h hb; rw [feedL_bad h] at hb; cases hb
  · intro l m h ih hb
    have hh := takeOf_msg h
    rw [feedL_msg h] at hb
    rw [feedL_msg (takeOf_msg_append h), feedL_msg h, List.drop_append_of_le_length (by omega), ih hb]
    simp
theorem feedL_bad_append (t l : List UInt8) : (feedL l).bad ≠ none → (feedL (l ++ t)).ms = (feedL l).ms ∧ (feedL (l ++ t)).bad = (feedL l).bad := by
  refine feedL_rec (C := fun l => (feedL l).bad ≠ none → (feedL (l ++ t)).ms = (feedL l).ms ∧ (feedL (l ++ t)).bad = (feedL l).bad) ?_ ?_ ?_ l
  · intro l h hb; rw [feedL_short h] at hb; exact absurd rfl hb
  · intro l n h _; rw [feedL_bad h, feedL_bad (takeOf_bad_append h)]; exact ⟨rfl, rfl⟩
  · intro l m h ih hb
    have hh := takeOf_msg h
    rw [feedL_msg h] at hb
    have := ih hb
    rw [feedL_msg (takeOf_msg_append h), feedL_msg h, List.drop_append_of_le_length (by omega), this.1, this.2]
    exact ⟨rfl, rfl⟩

/-- A message as it is packed. -/
def packL (s : List UInt8) : List UInt8 := be4 s.length ++ s
def okM (s : List UInt8) : Prop := 1 ≤ s.length ∧ s.length ≤ 65536
theorem packL_len (s : List UInt8) : (packL s).length = 4 + s.length := by rw [packL, List.length_append, be4_len]
theorem takeOf_pack {s : List UInt8} (h : okM s) (t : List UInt8) : takeOf (packL s ++ t) = .msg s := by
  have hn : num4 (packL s ++ t) = s.length := by
    unfold packL; rw [List.append_assoc]; exact num4_be4 (by have := h.2; omega) _
  have hl : (packL s ++ t).length = 4 + s.length + t.length := by rw [List.length_append, packL_len]
  have hd : (packL s ++ t).drop 4 = s ++ t := by simp [packL, be4]
  unfold takeOf
  rw [hn, hl, if_neg (by omega), if_pos (errN_zero.2 h), if_neg (by omega), hd]
  simp
theorem feedL_pack {s : List UInt8} (h : okM s) (t : List UInt8) : feedL (packL s ++ t) = ⟨s :: (feedL t).ms, (feedL t).rest, (feedL t).bad⟩ := by
  have hd : (packL s ++ t).drop (4 + s.length) = t := by rw [← packL_len]; simp
  rw [feedL_msg (takeOf_pack h t), hd]
theorem feedL_packs : ∀ (l : List (List UInt8)) (t : List UInt8), (∀ s ∈ l, okM s) → feedL ((l.flatMap packL) ++ t) = ⟨l ++ (feedL t).ms, (feedL t).rest, (feedL t).bad⟩
  | [], t, _ => by simp
  | s :: l, t, h => by
    rw [List.flatMap_cons, List.append_assoc, feedL_pack (h s List.mem_cons_self), feedL_packs l t (fun x hx => h x (List.mem_cons_of_mem _ hx))]
    simp
theorem feedL_nil : feedL [] = ⟨[], [], none⟩ := rfl

/-- A reader: what is left, and what is wrong. -/
structure Rs where
  S : List UInt8
  E : Nat
def feedR (r : Rs) (c : List UInt8) : List (List UInt8) × Rs :=
  if r.E ≠ 0 then ([], r) else
    match (feedL (r.S ++ c)).bad with
    | some n => ((feedL (r.S ++ c)).ms, ⟨[], errN n⟩)
    | none => ((feedL (r.S ++ c)).ms, ⟨(feedL (r.S ++ c)).rest, 0⟩)
end Go.Proofs.YtkfbhiggnnjoiaaDoor
