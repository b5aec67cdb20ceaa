/- timer: the row written, the places set: plain. -/
import Derived.Test.YtjcocgadhdgbjaaTmLess
namespace Go.Proofs.Ytjcocgadhdgbjaa
open Go.RowKit

theorem enV_set (e : En) : ∀ (h : List En) (i : Nat), i < h.length → enV (h.set i e) = (((enV h).set (i * 3) (.string ⟨e.id.toArray⟩)).set (i * 3 + 1) (.int .u64 (e.t : Int))).set (i * 3 + 2) (.int .u64 (e.k : Int)) := by
  intro h
  induction h with
  | nil => intro i hi; simp at hi
  | cons a r ih =>
    intro i hi
    cases i with
    | zero => rfl
    | succ i =>
      have e1 : enV ((a :: r).set (i + 1) e) = enCells a ++ enV (r.set i e) := rfl
      have e2 : enV (a :: r) = enCells a ++ enV r := rfl
      rw [e1, e2, ih i (by simpa using hi), show (i + 1) * 3 = i * 3 + 3 from by omega]
      rfl
theorem row_swap {w : World} {base g n cap : Nat} {e : TypeId} {h : List En} (i j : Nat) (hi : i < h.length) (hj : j < h.length) (ho : w.ownsRow base e 3 (.slice (some ⟨g, 0, none⟩) n cap) n (enV h)) :
    ((((((w.setCell ⟨g, i * 3, none⟩ (.string ⟨(gt h j).id.toArray⟩)).setCell ⟨g, i * 3 + 1, none⟩ (.int .u64 ((gt h j).t : Int))).setCell ⟨g, i * 3 + 2, none⟩ (.int .u64 ((gt h j).k : Int))).setCell ⟨g, j * 3, none⟩ (.string ⟨(gt h i).id.toArray⟩)).setCell ⟨g, j * 3 + 1, none⟩ (.int .u64 ((gt h i).t : Int))).setCell ⟨g, j * 3 + 2, none⟩ (.int .u64 ((gt h i).k : Int))).ownsRow base e 3 (.slice (some ⟨g, 0, none⟩) n cap) n (enV (swp h i j)) := by
  unfold swp
  rw [enV_set _ _ j (by simpa using hj), enV_set _ _ i hi]
  exact ((((((ho.stored _ _).1.stored _ _).1.stored _ _).1.stored _ _).1.stored _ _).1.stored _ _).1

def idsOk (g : List En) : Prop := (g.map En.id).Nodup ∧ ∀ e ∈ g, e.id.length ≤ 64
theorem idsOk.perm {g g' : List En} (h : idsOk g) (p : g'.Perm g) : idsOk g' := ⟨(p.map En.id).nodup_iff.2 h.1, fun e he => h.2 e (p.mem_iff.1 he)⟩
theorem idsOk.at {g : List En} (h : idsOk g) {i : Nat} (hi : i < g.length) : (gt g i).id.length ≤ 64 := h.2 _ (List.mem_of_getElem? (gt_some hi))
theorem idsOk.inj {g : List En} (h : idsOk g) {i j : Nat} (hi : i < g.length) (hj : j < g.length) (e : (gt g i).id = (gt g j).id) : i = j := by
  have h1 := (List.getElem_inj (xs := g.map En.id) (i := i) (j := j) (h₀ := by simpa using hi) (h₁ := by simpa using hj) h.1).1 (by
    rw [List.getElem_map, List.getElem_map]
    have a := gt_some hi
    have b := gt_some hj
    rw [List.getElem?_eq_getElem hi] at a
    rw [List.getElem?_eq_getElem hj] at b
    rw [Option.some.inj a, Option.some.inj b, e])
  exact h1
theorem plC_at {g : List En} (h : idsOk g) {i : Nat} (hi : i < g.length) : plC g (gt g i).id = some (.int .i64 (i : Int)) := by
  unfold plC
  have : g.findIdx? (fun e => e.id == (gt g i).id) = some i := by
    rw [List.findIdx?_eq_some_iff_getElem]
    refine ⟨hi, ?_, fun j hji => ?_⟩
    · have a := gt_some hi
      rw [List.getElem?_eq_getElem hi] at a
      rw [Option.some.inj a]; simp
    · have hj : j < g.length := by omega
      have b := gt_some hj
      rw [List.getElem?_eq_getElem hj] at b
      rw [Option.some.inj b]
      simp
      intro e
      have := h.inj hj hi e
      omega
  rw [this]; rfl
theorem plC_no {g : List En} {s : List UInt8} (h : ∀ i, i < g.length → (gt g i).id ≠ s) : plC g s = none := by
  unfold plC
  have : g.findIdx? (fun e => e.id == s) = none := by
    rw [List.findIdx?_eq_none_iff]
    intro x hx
    obtain ⟨i, hi⟩ := List.getElem?_of_mem hx
    have hl := (List.getElem?_eq_some_iff.1 hi).1
    have := h i hl
    rw [gt_some hl] at hi
    rw [Option.some.inj hi] at this
    simpa using this
  rw [this]; rfl
/-- Of a key that is told: where it stands. -/
theorem plC_cases (g : List En) (s : List UInt8) : (∃ i, i < g.length ∧ (gt g i).id = s) ∨ ∀ i, i < g.length → (gt g i).id ≠ s := by
  by_cases h : ∃ i, i < g.length ∧ (gt g i).id = s
  · exact .inl h
  · exact .inr fun i hi e => h ⟨i, hi, e⟩
theorem plC_swap {h : List En} (hk : idsOk h) {i j : Nat} (hi : i < h.length) (hj : j < h.length) (hij : i ≠ j) (s : List UInt8) :
    setKey (setKey (plC h) (gt h j).id (.int .i64 (i : Int))) (gt h i).id (.int .i64 (j : Int)) s = plC (swp h i j) s := by
  have hp := swp_perm h i j hi hj
  have hk' := hk.perm hp
  have hs := fun k => swp_at h i j k hi hj
  rcases plC_cases (swp h i j) s with ⟨k, hkl, rfl⟩ | hno
  · rw [plC_at hk' hkl]
    rw [swp_len] at hkl
    rw [hs k]
    by_cases e1 : k = j
    · subst e1; rw [if_pos rfl, setKey_same]
    · rw [if_neg e1]
      by_cases e2 : k = i
      · subst e2
        rw [if_pos rfl, setKey_other (fun e => hij (hk.inj hj hi e).symm), setKey_same]
      · rw [if_neg e2, setKey_other (fun e => e2 (hk.inj hkl hi e)), setKey_other (fun e => e1 (hk.inj hkl hj e)), plC_at hk hkl]
  · have n1 := hno i (by rw [swp_len]; exact hi)
    have n2 := hno j (by rw [swp_len]; exact hj)
    rw [hs, if_neg hij, if_pos rfl] at n1
    rw [hs, if_pos rfl] at n2
    rw [setKey_other (fun e => n2 e.symm), setKey_other (fun e => n1 e.symm), plC_no hno]
    refine plC_no fun k hkl e => ?_
    by_cases e1 : k = j
    · subst e1; exact n1 e
    · by_cases e2 : k = i
      · subst e2; exact n2 e
      · have := hno k (by rw [swp_len]; exact hkl)
        rw [hs, if_neg e1, if_neg e2] at this
        exact this e
/-- Another one behind all. -/
theorem gt_snoc_old {h : List En} {e : En} {k : Nat} (hk : k < h.length) : gt (h ++ [e]) k = gt h k := by simp [gt, List.getD_eq_getElem?_getD, List.getElem?_append_left hk]
theorem gt_snoc_new (h : List En) (e : En) : gt (h ++ [e]) h.length = e := by simp [gt, List.getD_eq_getElem?_getD]
theorem plC_snoc {h : List En} {e : En} (hk : idsOk (h ++ [e])) (s : List UInt8) : setKey (plC h) e.id (.int .i64 (h.length : Int)) s = plC (h ++ [e]) s := by
  have hk0 : idsOk h := ⟨by have := hk.1; rw [List.map_append] at this; exact (List.nodup_append.1 this).1, fun x hx => hk.2 x (List.mem_append_left _ hx)⟩
  rcases plC_cases (h ++ [e]) s with ⟨k, hkl, rfl⟩ | hno
  · rw [plC_at hk hkl]
    rw [List.length_append] at hkl
    by_cases e1 : k = h.length
    · subst e1; rw [gt_snoc_new, setKey_same]
    · have hk1 : k < h.length := by simp at hkl; omega
      have hne : (gt (h ++ [e]) k).id ≠ e.id := by
        intro e2
        have := hk.inj (i := k) (j := h.length) (by simp; omega) (by simp) (by rw [gt_snoc_new]; exact e2)
        exact e1 this
      rw [setKey_other hne, gt_snoc_old hk1, plC_at hk0 hk1]
  · have n1 := hno h.length (by simp)
    rw [gt_snoc_new] at n1
    rw [setKey_other (fun e => n1 e.symm), plC_no hno]
    refine plC_no fun k hkl e2 => ?_
    have := hno k (by simp; omega)
    rw [gt_snoc_old hkl] at this
    exact this e2
/-- The last one away. -/
theorem plC_last {h : List En} {e : En} (hk : idsOk (h ++ [e])) (s : List UInt8) : delKey' (plC (h ++ [e])) e.id s = plC h s := by
  rw [show plC (h ++ [e]) = setKey (plC h) e.id (.int .i64 (h.length : Int)) from funext fun s => (plC_snoc hk s).symm]
  unfold delKey' setKey
  by_cases e1 : s = e.id
  · rw [if_pos e1]
    subst e1
    refine (plC_no fun k hkl e2 => ?_).symm
    have := hk.inj (i := k) (j := h.length) (by simp; omega) (by simp) (by rw [gt_snoc_new, gt_snoc_old hkl]; exact e2)
    omega
  · rw [if_neg e1, if_neg e1]
end Go.Proofs.Ytjcocgadhdgbjaa
