/- acks: AcksCover, plain: what is told was said. -/
import Derived.Test.YtogkdekjcbljnaaDoorAkRfP
namespace Go.Proofs.YtogkdekjcbljnaaDoor
open Go.RowKit

/-- What is refused, and with which words first. -/
structure RefC (B : Nat → Option ByteArray) (R : List Bd) : Prop where
  ok : BdsOk R
  m : ∀ b ∈ R, ∃ s, B b.q = some s ∧ (b.f = false → b.s = s)
  d : ∀ x, (B x).isSome → (∃ b ∈ R, b.q = x) ∨ (R.length = 8 ∧ ∀ b ∈ R, x < b.q)
theorem refc_zero : RefC (fun _ => none) [] := ⟨⟨by simp, List.Pairwise.nil, fun b h => (by cases h)⟩, fun b h => (by cases h), fun x h => (by cases h)⟩
noncomputable def addB (B : Nat → Option ByteArray) (q : Nat) (s : ByteArray) : Nat → Option ByteArray := if (B q).isSome then B else upd B q (some s)
theorem refc_tell {B : Nat → Option ByteArray} {R : List Bd} (h : RefC B R) : RefC B (bdTell R) := by
  refine ⟨bdTell_ok h.ok, fun b hb => ?_, fun x hx => ?_⟩
  · unfold bdTell at hb
    obtain ⟨a, ha, rfl⟩ := List.mem_map.1 hb
    obtain ⟨s, h1, h2⟩ := h.m a ha
    cases hf : a.f with
    | true => simp only [if_true]; exact ⟨s, h1, fun e => h2 e⟩
    | false => simp only [Bool.false_eq_true, if_false]; exact ⟨s, h1, fun e => (by cases e)⟩
  · have hq : ∀ b ∈ R, ∃ c ∈ bdTell R, c.q = b.q := fun b hb => by
      refine ⟨_, List.mem_map.2 ⟨b, hb, rfl⟩, ?_⟩
      cases b.f <;> rfl
    rcases h.d x hx with ⟨b, hb, rfl⟩ | ⟨h1, h2⟩
    · obtain ⟨c, hc, e⟩ := hq b hb
      exact .inl ⟨c, hc, e⟩
    · refine .inr ⟨by unfold bdTell; rw [List.length_map]; exact h1, fun c hc => ?_⟩
      unfold bdTell at hc
      obtain ⟨a, ha, rfl⟩ := List.mem_map.1 hc
      have := h2 a ha
      cases a.f <;> exact this
theorem refc_step {B : Nat → Option ByteArray} {R : List Bd} (h : RefC B R) {q : Nat} {s : ByteArray} (hq : q < 2 ^ 64) : RefC (addB B q s) (bdIns q s R) := by
  have hok := bdIns_ok (s := s) h.ok hq
  cases hn : bdHas q R with
  | true =>
    obtain ⟨b, hb, hbq⟩ := (bdHas_iff h.ok.2.1).1 hn
    obtain ⟨s0, h1, _⟩ := h.m b hb
    have e : bdIns q s R = R := by unfold bdIns; rw [if_pos hn]
    have e2 : addB B q s = B := by unfold addB; rw [if_pos (by rw [← hbq, h1]; rfl)]
    rw [e, e2]; exact h
  | false =>
    have hnot : ¬ ∃ b ∈ R, b.q = q := fun hx => by rw [(bdHas_iff h.ok.2.1).2 hx] at hn; cases hn
    have e : bdIns q s R = bdLim (R.take (bdPos q R) ++ ⟨q, false, s⟩ :: R.drop (bdPos q R)) := by unfold bdIns; rw [if_neg (by rw [hn]; decide)]
    cases hB : (B q).isSome with
    | true =>
      have e2 : addB B q s = B := by unfold addB; rw [if_pos hB]
      rcases h.d q hB with h1 | ⟨h1, h2⟩
      · exact absurd h1 hnot
      · have hp : bdPos q R = 0 := by
          unfold bdPos
          cases hR : R with
          | nil => rw [hR] at h1; cases h1
          | cons a T => rw [List.findIdx_cons, show decide (q ≤ a.q) = true from decide_eq_true (Nat.le_of_lt (h2 a (by rw [hR]; simp)))]; rfl
        have e3 : bdIns q s R = R := by
          rw [e, hp]
          unfold bdLim
          rw [List.take_zero, List.nil_append, List.drop_zero, if_pos (by rw [List.length_cons]; omega)]
          rfl
        rw [e3, e2]; exact h
    | false =>
      have e2 : addB B q s = upd B q (some s) := by unfold addB; rw [if_neg (by rw [hB]; decide)]
      have hrise := bdRaw_rise (s := s) h.ok.2.1 hn
      have hlen := bdRaw_len q s R
      have hmem := @bdRaw_mem q s R
      rw [e] at hok ⊢
      rw [e2]
      generalize R.take (bdPos q R) ++ (⟨q, false, s⟩ : Bd) :: R.drop (bdPos q R) = raw at hrise hlen hmem hok ⊢
      have hrm : ∀ b ∈ raw, ∃ s', upd B q (some s) b.q = some s' ∧ (b.f = false → b.s = s') := fun b hb => by
        rcases hmem.1 hb with rfl | hb
        · exact ⟨s, upd_same _ _ _, fun _ => rfl⟩
        · rw [upd_other (fun e => hnot ⟨b, hb, e⟩)]; exact h.m b hb
      have hnew : (⟨q, false, s⟩ : Bd) ∈ raw := hmem.2 (.inl rfl)
      have hum : ∀ x, (upd B q (some s) x).isSome → x = q ∨ (B x).isSome := fun x hx => by
        by_cases e : x = q
        · exact .inl e
        · rw [upd_other e] at hx; exact .inr hx
      have h8 := h.ok.1
      by_cases hb8 : R.length < 8
      · have e2 : bdLim raw = raw := by unfold bdLim; rw [if_neg (by omega)]
        rw [e2] at hok ⊢
        refine ⟨hok, hrm, fun x hx => .inl ?_⟩
        rcases hum x hx with rfl | hx
        · exact ⟨_, hnew, rfl⟩
        · rcases h.d x hx with ⟨b, hb, hbq⟩ | h1
          · exact ⟨b, hmem.2 (.inr hb), hbq⟩
          · omega
      · have e2 : bdLim raw = raw.drop 1 := by unfold bdLim; rw [if_pos (by omega)]
        rw [e2] at hok ⊢
        cases hraw : raw with
        | nil => rw [hraw] at hlen; simp at hlen
        | cons m0 T =>
          rw [hraw] at hok hrise hlen hmem hrm hnew
          rw [List.drop_succ_cons, List.drop_zero] at hok ⊢
          rw [List.length_cons] at hlen
          obtain ⟨hm0, _⟩ := List.pairwise_cons.1 hrise
          have hT8 : T.length = 8 := by omega
          refine ⟨hok, fun b hb => hrm b (List.mem_cons_of_mem _ hb), fun x hx => ?_⟩
          by_cases hin : ∃ b ∈ m0 :: T, b.q = x
          · obtain ⟨b, hb, rfl⟩ := hin
            rcases List.mem_cons.1 hb with rfl | hb
            · exact .inr ⟨hT8, hm0⟩
            · exact .inl ⟨b, hb, rfl⟩
          · have hxq : x ≠ q := fun e => hin ⟨_, hnew, e.symm⟩
            have hxm : (B x).isSome := (hum x hx).resolve_left hxq
            have hall : ∀ b ∈ R, x < b.q := by
              rcases h.d x hxm with ⟨b, hb, hbq⟩ | h1
              · exact absurd ⟨b, hmem.2 (.inr hb), hbq⟩ hin
              · exact h1.2
            refine .inr ⟨hT8, fun b hb => ?_⟩
            rcases hmem.1 (List.mem_cons_of_mem _ hb) with e3 | hbR
            · have h0 := hm0 b hb
              rcases hmem.1 (List.mem_cons_self (a := m0) (l := T)) with e4 | h4
              · rw [e3, e4] at h0; omega
              · have := hall m0 h4; omega
            · exact hall b hbR
/-- What comes out of refusals: each with the words that were said first. -/
theorem refc_out {B : Nat → Option ByteArray} {R : List Bd} (h : RefC B R) {K : Ky} {r : St} (hr : r ∈ bdOut K R) : r.f = false ∧ r.t = K.1 ∧ r.x = K.2 ∧ B r.q = some r.s ∧ r.q < 2 ^ 64 := by
  unfold bdOut at hr
  obtain ⟨b, hb, rfl⟩ := List.mem_map.1 hr
  obtain ⟨h1, h2⟩ := List.mem_filter.1 hb
  obtain ⟨s, h3, h4⟩ := h.m b h1
  have hf : b.f = false := by cases hf : b.f with
    | false => rfl
    | true => rw [hf] at h2; cases h2
  exact ⟨rfl, rfl, rfl, by rw [h4 hf]; exact h3, h.ok.2.2 b h1⟩
theorem leastL_all {f : Int → Nat} {l : List Int} {x : Int} (hx : x ∈ l) : leastL f l ≤ f x := by
  cases l with
  | nil => cases hx
  | cons i r =>
    have key : ∀ (r : List Int) (m : Nat), (∀ y ∈ r, r.foldl (fun m j => min m (f j)) m ≤ f y) ∧ r.foldl (fun m j => min m (f j)) m ≤ m := by
      intro r
      induction r with
      | nil => intro m; exact ⟨fun y hy => (by cases hy), Nat.le_refl _⟩
      | cons a r ih =>
        intro m
        rw [List.foldl_cons]
        have h := ih (min m (f a))
        refine ⟨fun y hy => ?_, by have := h.2; omega⟩
        rcases List.mem_cons.1 hy with rfl | hy
        · have := h.2; omega
        · exact h.1 y hy
    rcases List.mem_cons.1 hx with rfl | hx
    · exact (key r (f x)).2
    · exact (key r (f i)).1 x hx
/-- An Acks of which nothing is noted, or which knows of one key. -/
def CovA (A : Ak) (K : Ky) (F : Int → Nat) (R : List Bd) (v : Nat) : Prop := (A = Ak.zero ∧ (F = fun _ => 0) ∧ R = [] ∧ v = 0) ∨ One A K F R v
theorem CovA.take {A : Ak} {K : Ky} {F : Int → Nat} {R : List Bd} {v : Nat} (h : CovA A K F R v) (i : Int) (q : Nat) : CovA (A.put K i q true ⟨#[]⟩) K (upd F i (max (F i) q)) R v := by
  rcases h with ⟨rfl, rfl, rfl, rfl⟩ | h
  · have h1 := one_first K i q true ⟨#[]⟩
    rw [if_pos rfl, if_pos rfl] at h1
    rw [Nat.zero_max]
    exact .inr h1
  · exact .inr (h.take i q ⟨#[]⟩)
theorem CovA.refuse {A : Ak} {K : Ky} {F : Int → Nat} {R : List Bd} {v : Nat} (h : CovA A K F R v) (i : Int) (q : Nat) (s : ByteArray) : CovA (A.put K i q false s) K F (bdIns q s R) v := by
  rcases h with ⟨rfl, rfl, rfl, rfl⟩ | h
  · exact .inr (one_first K i q false s)
  · exact .inr (h.refuse i q s)
theorem CovA.one {A : Ak} {K : Ky} {F : Int → Nat} {R : List Bd} {v : Nat} {j : Int} {q : Nat} {f : Bool} {s : ByteArray} (h : CovA (A.put K j q f s) K F R v) : One (A.put K j q f s) K F R v := by
  rcases h with ⟨h, _⟩ | h
  · have h1 : (A.put K j q f s).N K = none := by rw [h]; rfl
    unfold Ak.put at h1
    cases f with
    | true => rw [if_pos rfl] at h1; rw [show ((A.touch K).take K j q).N K = some ((A.N K).getD 0) from upd_same _ _ _] at h1; cases h1
    | false => rw [if_neg (by decide)] at h1; rw [show ((A.touch K).refuse K q s).N K = some ((A.N K).getD 0) from upd_same _ _ _] at h1; cases h1
  · exact h
end Go.Proofs.YtogkdekjcbljnaaDoor
