/- acks: AcksRefused, plain: the latest eight of what was refused. -/
import Derived.Test.YtogkdekjcbljnaaDoorAkEx
import Derived.Laws.MakeOwn
namespace Go.Proofs.YtogkdekjcbljnaaDoor
open Go.RowKit

structure RefP (met : Nat → Bool) (many : Nat) (R : List Bd) : Prop where
  ok : BdsOk R
  f : ∀ b ∈ R, b.f = false
  m : ∀ b ∈ R, met b.q = true
  d : ∀ x, met x = true → (∃ b ∈ R, b.q = x) ∨ (R.length = 8 ∧ ∀ b ∈ R, x < b.q)
  e : R.length = min many 8
theorem ref_zero : RefP (fun _ => false) 0 [] := ⟨⟨by simp, List.Pairwise.nil, fun b h => (by cases h)⟩, fun b h => (by cases h), fun b h => (by cases h), fun x h => (by cases h), rfl⟩
theorem ref_step {met : Nat → Bool} {many : Nat} {R : List Bd} (h : RefP met many R) {q : Nat} {s : ByteArray} (hq : q < 2 ^ 64) : RefP (upd met q true) (if met q then many else many + 1) (bdIns q s R) := by
  have hmu : ∀ x, met x = true → upd met q true x = true := fun x hx => by
    by_cases e : x = q
    · subst e; rw [upd_same]
    · rw [upd_other e]; exact hx
  have hum : ∀ x, upd met q true x = true → x = q ∨ met x = true := fun x hx => by
    by_cases e : x = q
    · exact .inl e
    · rw [upd_other e] at hx; exact .inr hx
  have hok := bdIns_ok (s := s) h.ok hq
  cases hn : bdHas q R with
  | true =>
    obtain ⟨b, hb, hbq⟩ := (bdHas_iff h.ok.2.1).1 hn
    have hmq : met q = true := by rw [← hbq]; exact h.m b hb
    have e : bdIns q s R = R := by unfold bdIns; rw [if_pos hn]
    rw [e, if_pos hmq]
    refine ⟨h.ok, h.f, fun b hb => hmu _ (h.m b hb), fun x hx => ?_, h.e⟩
    rcases hum x hx with rfl | hx
    · exact .inl ⟨b, hb, hbq⟩
    · exact h.d x hx
  | false =>
    have hnot : ¬ ∃ b ∈ R, b.q = q := fun hx => by rw [(bdHas_iff h.ok.2.1).2 hx] at hn; cases hn
    have hrise := bdRaw_rise (s := s) h.ok.2.1 hn
    have hlen := bdRaw_len q s R
    have hmem := @bdRaw_mem q s R
    have e : bdIns q s R = bdLim (R.take (bdPos q R) ++ ⟨q, false, s⟩ :: R.drop (bdPos q R)) := by unfold bdIns; rw [if_neg (by rw [hn]; decide)]
    rw [e] at hok ⊢
    generalize R.take (bdPos q R) ++ (⟨q, false, s⟩ : Bd) :: R.drop (bdPos q R) = raw at hrise hlen hmem hok ⊢
    have hrf : ∀ b ∈ raw, b.f = false := fun b hb => by
      rcases hmem.1 hb with rfl | hb
      · rfl
      · exact h.f b hb
    have hrm : ∀ b ∈ raw, upd met q true b.q = true := fun b hb => by
      rcases hmem.1 hb with rfl | hb
      · exact upd_same _ _ _
      · exact hmu _ (h.m b hb)
    have hnew : (⟨q, false, s⟩ : Bd) ∈ raw := hmem.2 (.inl rfl)
    have h8 := h.ok.1
    by_cases hb8 : R.length < 8
    · have e2 : bdLim raw = raw := by unfold bdLim; rw [if_neg (by omega)]
      have hmq : met q = false := by
        cases hc : met q with
        | false => rfl
        | true =>
          rcases h.d q hc with h1 | h1
          · exact absurd h1 hnot
          · omega
      rw [e2] at hok ⊢
      rw [hmq]
      refine ⟨hok, hrf, hrm, fun x hx => .inl ?_, by have := h.e; simp only [Bool.false_eq_true, if_false]; omega⟩
      rcases hum x hx with rfl | hx
      · exact ⟨_, hnew, rfl⟩
      · rcases h.d x hx with ⟨b, hb, hbq⟩ | h1
        · exact ⟨b, hmem.2 (.inr hb), hbq⟩
        · omega
    · have e2 : bdLim raw = raw.drop 1 := by unfold bdLim; rw [if_pos (by omega)]
      rw [e2] at hok ⊢
      cases hraw : raw with
      | nil => rw [hraw] at hlen; simp at hlen
      | cons m0 T =>
        rw [hraw] at hok hrise hlen hmem hrf hrm hnew
        rw [List.drop_succ_cons, List.drop_zero] at hok ⊢
        rw [List.length_cons] at hlen
        obtain ⟨hm0, _⟩ := List.pairwise_cons.1 hrise
        have hT8 : T.length = 8 := by omega
        refine ⟨hok, fun b hb => hrf b (List.mem_cons_of_mem _ hb), fun b hb => hrm b (List.mem_cons_of_mem _ hb), fun x hx => ?_, by have := h.e; split <;> omega⟩
        by_cases hin : ∃ b ∈ m0 :: T, b.q = x
        · obtain ⟨b, hb, rfl⟩ := hin
          rcases List.mem_cons.1 hb with rfl | hb
          · exact .inr ⟨hT8, hm0⟩
          · exact .inl ⟨b, hb, rfl⟩
        · have hxq : x ≠ q := fun e => hin ⟨_, hnew, e.symm⟩
          have hxm : met x = true := (hum x hx).resolve_left hxq
          have hall : ∀ b ∈ R, x < b.q := by
            rcases h.d x hxm with ⟨b, hb, hbq⟩ | h1
            · exact absurd ⟨b, hmem.2 (.inr hb), hbq⟩ hin
            · exact h1.2
          refine .inr ⟨hT8, fun b hb => ?_⟩
          rcases hmem.1 (List.mem_cons_of_mem _ hb) with e3 | hbR
          · have h0 := hm0 b hb
            rcases hmem.1 (List.mem_cons_self (a := m0) (l := T)) with e4 | h4
            · rw [e3, e4] at h0; omega
            · have := hall m0 h4; omega
          · exact hall b hbR
/-- Between two that are told none is met. -/
theorem ref_gap {met : Nat → Bool} {many : Nat} {R : List Bd} (h : RefP met many R) {j : Nat} {b : Bd} (hj : R[j]? = some b) {x : Nat} (hx : met x = true) (hlt : b.q < x) : ∃ c, R[j + 1]? = some c ∧ c.q ≤ x := by
  have hb := List.mem_of_getElem? hj
  rcases h.d x hx with ⟨c, hc, rfl⟩ | h1
  · obtain ⟨k, hk⟩ := List.getElem?_of_mem hc
    have hkj : j < k := Nat.lt_of_not_le fun hle => by
      rcases Nat.lt_or_eq_of_le hle with h2 | h2
      · have := h.ok.2.1.lt hk hj h2; omega
      · subst h2; rw [hk] at hj; cases hj; omega
    have hkl := (List.getElem?_eq_some_iff.1 hk).1
    obtain ⟨d, hd⟩ : ∃ d, R[j + 1]? = some d := ⟨_, List.getElem?_eq_getElem (by omega)⟩
    refine ⟨d, hd, ?_⟩
    rcases Nat.lt_or_eq_of_le (show j + 1 ≤ k from hkj) with h2 | h2
    · exact Nat.le_of_lt (h.ok.2.1.lt hd hk h2)
    · rw [h2, hk] at hd; cases hd; exact Nat.le_refl _
  · have := h1.2 b hb; omega
theorem out_none (K : Ky) (l : List Bd) : bdOut K (bdTell l) = [] := by
  unfold bdOut bdTell
  rw [List.filter_eq_nil_iff.2 ?_]
  · rfl
  · intro b hb
    obtain ⟨a, _, rfl⟩ := List.mem_map.1 hb
    cases hf : a.f <;> simp [hf]
theorem out_all {K : Ky} {l : List Bd} (h : ∀ b ∈ l, b.f = false) : bdOut K l = l.map fun b => ⟨K.1, K.2, b.q, false, b.s⟩ := by
  unfold bdOut
  rw [List.filter_eq_self.2]
  intro b hb
  rw [h b hb]; rfl
noncomputable def mtV (met : Nat → Bool) : Array Value := ((List.range 31).map fun i => Value.bool (met i)).toArray
theorem mtV_get (M : Nat → Bool) {i : Nat} (hi : i < 31) : (mtV M)[i]? = some (.bool (M i)) := by
  unfold mtV
  rw [List.getElem?_toArray, List.getElem?_map, List.getElem?_range hi]; rfl
theorem mtV_set (M : Nat → Bool) {κ : Nat} (v : Bool) : (mtV M).setIfInBounds κ (.bool v) = mtV (upd M κ v) := by
  unfold mtV
  rw [List.setIfInBounds_toArray]
  congr 1
  apply List.ext_getElem?
  intro i
  rw [List.getElem?_set, List.getElem?_map, List.getElem?_map]
  by_cases hi : i < 31
  · rw [List.getElem?_range hi]
    by_cases e : κ = i
    · subst e
      rw [if_pos rfl, List.length_map, List.length_range, if_pos hi]
      show _ = some (Value.bool (upd M κ v κ))
      rw [upd_same]
    · rw [if_neg e]
      show _ = some (Value.bool (upd M κ v i))
      rw [upd_other (fun e2 => e e2.symm)]
      rfl
  · rw [List.getElem?_eq_none (by rw [List.length_range]; omega)]
    by_cases e : κ = i
    · subst e
      rw [if_pos rfl, List.length_map, List.length_range, if_neg hi]; rfl
    · rw [if_neg e]; rfl
theorem Tryd.infoBool : (Tryd.prog.info? 4).map (fun i => (i.zero, i.size, i.bytes)) = some (some (.bool false), 1, 1) := by kernel_rfl
theorem make_met (W : World) : (Instr.makeSlice 49 (.int .i64 31) (.int .i64 31)).run Tryd.prog W = .ok (.slice (some ⟨W.heap.size, 0, none⟩) 31 31) (W.alloc (.cells (mtV fun _ => false) 4)) := by
  obtain ⟨i, hi, hz0, hz1, hz2⟩ := info_parts Tryd.infoBool
  have h := run_makeSlice W (P := Tryd.prog) 49 4 i (.bool false) Tryd.underlying49 hi hz0 .i64 .i64 31 31 (by omega) (Int.le_refl _) (by rw [hz1]; omega) (by rw [hz2]; omega) (by omega)
  have e : (31 : Int).toNat = 31 := rfl
  rw [e] at h
  have hc : madeCells #[Value.bool false] (31 * i.size) = mtV fun _ => false := by
    apply Array.ext'
    rw [toList_madeCells_one, hz1, Nat.mul_one]
    unfold mtV
    rw [List.map_const', List.length_range]
  simp only [Value.cells] at h
  rw [hc] at h
  exact h
end Go.Proofs.YtogkdekjcbljnaaDoor
