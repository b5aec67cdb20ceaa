/- timer: the document's own timers: find, Stop, Set, At. -/
import Derived.Test.YtjcocgadhdgbjaaTmApp
namespace Go.Proofs.Ytjcocgadhdgbjaa
open Go.RowKit

def tmCells (x : Tm) : List Value := [.string ⟨x.1.toArray⟩, .int .u64 (x.2 : Int)]
def tmV (L : List Tm) : List Value := L.flatMap tmCells
theorem tmV_len (L : List Tm) : (tmV L).length = L.length * 2 := by
  induction L with
  | nil => rfl
  | cons a r ih => simp [tmV, tmCells] at *; omega
theorem tmV_at (L : List Tm) : ∀ (i : Nat) (x : Tm), L[i]? = some x → (tmV L)[i * 2]? = some (.string ⟨x.1.toArray⟩) ∧ (tmV L)[i * 2 + 1]? = some (.int .u64 (x.2 : Int)) := by
  induction L with
  | nil => intro i x h; simp at h
  | cons a r ih =>
    intro i x h
    cases i with
    | zero => simp at h; subst h; exact ⟨rfl, rfl⟩
    | succ i =>
      rw [show (i + 1) * 2 = i * 2 + 2 from by omega]
      exact ih i x (by simpa using h)
theorem tmV_app (A B : List Tm) : tmV (A ++ B) = tmV A ++ tmV B := by simp [tmV]
theorem tmV_one (L : List Tm) : ∀ u ∈ tmV L, u.oneCell' = true := by
  intro u hu
  obtain ⟨x, _, hx⟩ := List.mem_flatMap.1 hu
  simp [tmCells] at hx
  rcases hx with rfl | rfl <;> rfl
/-- The document's timers in block r. -/
structure RfAt (base r : Nat) (v : Value) (L : List Tm) (w : World) : Prop where
  blk : Blk w r #[v] 29
  own : w.ownsRow base 68 2 v L.length (tmV L)
  br : base ≤ r
theorem RfAt.below {base r : Nat} {v : Value} {L : List Tm} {w w' : World} (h : RfAt base r v L w) (hb : Below w.heap.size w w') : RfAt base r v L w' := ⟨h.blk.below hb h.blk.lt, own_below h.own hb, h.br⟩
theorem rf_cells {w : World} {base : Nat} {e : TypeId} {v : Value} {L : List Tm} (ho : w.ownsRow base e 2 v L.length (tmV L)) (hn : 0 < L.length) :
    ∃ g cap, v = .slice (some ⟨g, 0, none⟩) L.length cap ∧ base ≤ g ∧ L.length ≤ cap ∧ cap ≤ maxLen ∧ g < w.heap.size ∧ ∀ i x, L[i]? = some x → w.cell? ⟨g, i * 2, none⟩ = some (.string ⟨x.1.toArray⟩) ∧ w.cell? ⟨g, i * 2 + 1, none⟩ = some (.int .u64 (x.2 : Int)) := by
  rcases ho.2 with ⟨rfl, e⟩ | ⟨g, cap, cur, rfl, hb, hg, hc, hm, _⟩
  · omega
  · refine ⟨g, cap, rfl, hb, hc, hm, (Array.getElem?_eq_some_iff.1 hg).1, fun i x hx => ?_⟩
    have hi := (List.getElem?_eq_some_iff.1 hx).1
    obtain ⟨a1, a2⟩ := tmV_at L i x hx
    exact ⟨(ho.cellAt (i * 2) (by omega)).trans a1, (ho.cellAt (i * 2 + 1) (by omega)).trans a2⟩
def fiL (L : List Tm) (id : List UInt8) : Option Nat := L.findIdx? (fun x => x.1 == id)
def fiV : Option Nat → Int
  | none => -1
  | some i => (i : Int)
theorem fi_skip {L : List Tm} {id : List UInt8} : ∀ {k : Nat}, (∀ j x, j < k → L[j]? = some x → x.1 ≠ id) → ∀ x, L[k]? = some x → x.1 = id → fiL L id = some k := by
  intro k h x hx he
  unfold fiL
  rw [List.findIdx?_eq_some_iff_getElem]
  obtain ⟨hk, rfl⟩ := List.getElem?_eq_some_iff.1 hx
  refine ⟨hk, by simp [he], fun j hj => ?_⟩
  have := h j _ hj (List.getElem?_eq_getElem (by omega))
  simpa using this
theorem fi_none {L : List Tm} {id : List UInt8} (h : ∀ j x, j < L.length → L[j]? = some x → x.1 ≠ id) : fiL L id = none := by
  unfold fiL
  rw [List.findIdx?_eq_none_iff]
  intro x hx
  obtain ⟨j, hj⟩ := List.getElem?_of_mem hx
  have := h j x (List.getElem?_eq_some_iff.1 hj).1 hj
  simpa using this
theorem str_ne {A Z : ByteArray} (h : A ≠ Z) : (A.toList == Z.toList) = false := by
  simp only [beq_eq_false_iff_ne, ne_eq]
  intro e
  rw [ByteArray.toList_eq, ByteArray.toList_eq] at e
  apply h
  cases A; cases Z
  simp at e ⊢
  exact e
set_option maxRecDepth 100000 in
set_option maxHeartbeats 2000000 in
theorem rfind_any (base r : Nat) (v : Value) (L : List Tm) (id : ByteArray) (w : World) (h : RfAt base r v L w) (hL : L.length ≤ 1024) :
    Calls Try.prog 22 #[.pointer (some ⟨r, 0, none⟩), .string id] w fun e w' => e = .returned (.int .i64 (fiV (fiL L id.data.toList))) ∧ w = w' := by
  have k0 : w.cell? ⟨r, 0, none⟩ = some v := h.blk.cell 0
  obtain ⟨a, c, rfl⟩ := owns_slice h.own
  have HQ := Lib.hid h
  clear h
  go_enter Try.func22, Try.ntmps22
  go_wp2
  go_loop [5] (fun iv => ∃ k : Nat, iv = .int .i64 (k : Int) ∧ k ≤ L.length ∧ ∀ (j : Nat) (x : Tm), j < k → L[j]? = some x → x.1 ≠ id.data.toList) (fun iv => L.length - (intOf iv).toNat)
  case atStart => exact ⟨0, rfl, Nat.zero_le _, fun j x hj => by omega⟩
  case round =>
    obtain ⟨k, rfl, hk, hskip⟩ := hrel
    have HS := Lib.hid hskip
    clear hskip
    by_cases hlt : k < L.length
    · obtain ⟨g, cap, hv, hb, hc, hm, hgl, hcell⟩ := rf_cells HQ.out.own (by omega)
      cases hv
      obtain ⟨c0, _⟩ := hcell k _ (List.getElem?_eq_getElem hlt)
      have hk0 : L[k]? = some L[k] := List.getElem?_eq_getElem hlt
      generalize L[k] = x at *
      have i0 : (0 : Int) ≤ (k : Int) := by omega
      have i1 : (k : Int) < (L.length : Int) := by omega
      obtain ⟨A, hA⟩ : ∃ A : ByteArray, (⟨x.1.toArray⟩ : ByteArray) = A := ⟨_, rfl⟩
      rw [hA] at c0
      clear hcell
      by_cases he : x.1 = id.data.toList
      · have hAe : A = id := by rw [← hA, he]
        subst hAe
        have HF := Lib.hid (fi_skip HS.out x hk0 he)
        clear hk0 he hA
        go_wp2
        go_ret
        exact ⟨by rw [HF.out]; rfl, rfl⟩
      · have hne : A ≠ id := by
          intro e
          apply he
          rw [← e, ← hA]
        have g3 := str_ne hne
        have HF := Lib.hid (And.intro hk0 he)
        clear hk0 he hA
        go_wp2
        go_round
        case rel =>
          refine ⟨k + 1, by go_num, by omega, fun j y hj hy => ?_⟩
          by_cases hjk : j < k
          · exact HS.out j y hjk hy
          · obtain rfl : j = k := by omega
            rw [HF.out.1] at hy; cases hy
            exact HF.out.2
        case measure => simp [intOf]; omega
    · have hkk : ¬ (k : Int) < (L.length : Int) := by omega
      obtain rfl : k = L.length := by omega
      have HF := Lib.hid (fi_none HS.out)
      go_wp2
      go_ret
      exact ⟨by rw [HF.out]; rfl, rfl⟩
end Go.Proofs.Ytjcocgadhdgbjaa
