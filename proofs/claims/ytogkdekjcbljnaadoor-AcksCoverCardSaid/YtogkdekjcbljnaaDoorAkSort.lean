/- acks: slices.SortFunc of keys, by check.Order (tools/aksort_gen.py, out of resource's RsOrd, RsSort). -/
import Derived.Test.YtogkdekjcbljnaaDoorAkRow
import Derived.Test.YtogkdekjcbljnaaDoorAkShelf
import Derived.Shelf.SlSortCmp.WholeK
import Derived.Shelf.SlSortCmp.NoneTotal
import Derived.Lib.OwnBridge
import Derived.Lib.AppendIntMem
namespace Go.Proofs.YtogkdekjcbljnaaDoor
open Go.RowKit Go.Lib Go.Sort

theorem drewN_grow (w : World) (os : Array Obj) (n : Nat) : (grow w os).drewN n = grow (w.drewN n) os := rfl
set_option maxRecDepth 100000 in
set_option maxHeartbeats 2000000 in
theorem order_grow (t u : Int) (x y : ByteArray) (w : World) : Calls Tryd.prog 25 #[kyV t x, kyV u y] w fun e w' => e = .returned (.int .i64 (ordK t x u y)) ∧ ∃ q os, w' = grow (w.drewN q) os := by
  go_enter Tryd.func25, Tryd.ntmps25
  go_wp2_with fail
  have k0 := ((below_one ((w.alloc (.cells #[.int .i64 t, .string x] 27))) (.cells #[.int .i64 u, .string y] 27)).cell (p := ⟨w.heap.size, 0, none⟩) (by simp)).trans (by simp : _ = some (.int .i64 t))
  have k1 := ((below_one ((w.alloc (.cells #[.int .i64 t, .string x] 27))) (.cells #[.int .i64 u, .string y] 27)).cell (p := ⟨w.heap.size, 1, none⟩) (by simp)).trans (by simp : _ = some (.string x))
  have k2 : ((w.alloc (.cells #[.int .i64 t, .string x] 27)).alloc (.cells #[.int .i64 u, .string y] 27)).cell? ⟨w.heap.size + 1, 0, none⟩ = some (.int .i64 u) := by simp
  have k3 : ((w.alloc (.cells #[.int .i64 t, .string x] 27)).alloc (.cells #[.int .i64 u, .string y] 27)).cell? ⟨w.heap.size + 1, 1, none⟩ = some (.string y) := by simp
  have HG := Lib.hid (show ∃ os, (w.alloc (.cells #[.int .i64 t, .string x] 27)).alloc (.cells #[.int .i64 u, .string y] 27) = grow w os from ⟨_, by rw [alloc_eq_grow, alloc_eq_grow, grow_grow]⟩)
  revert k0 k1 k2 k3 HG
  generalize (w.alloc (.cells #[.int .i64 t, .string x] 27)).alloc (.cells #[.int .i64 u, .string y] 27) = w1
  intro k0 k1 k2 k3 HG
  go_still_tail 10, (by kernel_rfl)
  still_call (cmp_int_still _ _ _)
  repeat still_step
  still_call (cmp_str_still _ _ _)
  refine wpStill_nil ?_
  change wpList _ _ _ _ _ w1.drew
  go_wp2_with (go_at_call 37; refine (or_made _ (cmpI t u) (cmpS x y) _ rfl).mono ?_; rintro e w' ⟨rfl, rfl⟩)
  go_ret
  obtain ⟨os, rfl⟩ := HG.out
  refine ⟨rfl, 1, os ++ #[.cells #[.int .i64 (cmpI t u), .int .i64 (cmpS x y)] 3], ?_⟩
  rw [alloc_eq_grow, grow_grow]
  rfl
instance : Inhabited Ky := ⟨(0, ⟨#[]⟩)⟩
/-- A key's two cells. -/
def keEnc (r : Ky) : List Value := [.int .i64 r.1, .string r.2]
def keCells (l : List Ky) : List Value := l.flatMap keEnc
theorem keCells_append (a b : List Ky) : keCells (a ++ b) = keCells a ++ keCells b := by simp [keCells]
theorem keCells_len (rs : List Ky) : (keCells rs).length = rs.length * 2 := by
  induction rs with
  | nil => rfl
  | cons x xs ih => simp [keCells, keEnc] at ih ⊢; omega
theorem keCells_get : ∀ (rs : List Ky) (i : Nat) (r : Ky), rs[i]? = some r → ∀ j, j < 2 → (keCells rs)[i * 2 + j]? = (keEnc r)[j]?
  | [], i, x, h, _, _ => by simp at h
  | y :: ys, 0, x, h, j, hj => by
    simp at h; subst h
    have hc : j = 0 ∨ j = 1 := by omega
    rcases hc with rfl | rfl <;> simp [keCells, keEnc]
  | y :: ys, i + 1, x, h, j, hj => by
    have := keCells_get ys i x (by simpa using h) j hj
    have e : (keCells (y :: ys))[(i + 1) * 2 + j]? = (keCells ys)[i * 2 + j]? := by
      have : (i + 1) * 2 + j = (i * 2 + j) + 1 + 1 := by omega
      rw [this]; rfl
    rw [e]; exact this
def keCmp (a b : Ky) : Int := ordK a.1 a.2 b.1 b.2
theorem sort_closure (a b : Ky) (w : World) : Calls Tryd.prog 25 #[.agg (keEnc a).toArray, .agg (keEnc b).toArray] w fun e w' => e = .returned (.int .i64 (keCmp a b)) ∧ ∃ q os, w' = grow (w.drewN q) os := order_grow a.1 b.1 a.2 b.2 w
/-- The order is a strict one, but for those of one key. -/
theorem keCmp_swo : SWO (ltOf keCmp) where
  irrefl x := by
    have : keCmp x x = 0 := (ord_zero _ _ _ _).2 ⟨rfl, rfl⟩
    simp [ltOf, this]
  trans x y z h1 h2 := by
    simp only [ltOf, decide_eq_true_eq] at *
    have a1 : ordK x.1 x.2 y.1 y.2 < 0 := h1
    have a2 : ordK y.1 y.2 z.1 z.2 < 0 := h2
    have h3 : ordK x.1 x.2 z.1 z.2 ≤ 0 := ord_trans (Int.le_of_lt a1) (Int.le_of_lt a2)
    show ordK x.1 x.2 z.1 z.2 < 0
    by_cases h0 : ordK x.1 x.2 z.1 z.2 = 0
    · have b1 : ordK z.1 z.2 x.1 x.2 ≤ 0 := by rw [ord_neg]; omega
      have b2 : ordK y.1 y.2 x.1 x.2 ≤ 0 := ord_trans (Int.le_of_lt a2) b1
      rw [ord_neg] at b2
      omega
    · omega
  ntrans x y z h1 h2 := by
    simp only [ltOf, decide_eq_false_iff_not, Int.not_lt] at *
    have a1 : 0 ≤ ordK x.1 x.2 y.1 y.2 := h1
    have a2 : 0 ≤ ordK y.1 y.2 z.1 z.2 := h2
    show 0 ≤ ordK x.1 x.2 z.1 z.2
    have b1 : ordK y.1 y.2 x.1 x.2 ≤ 0 := by rw [ord_neg]; omega
    have b2 : ordK z.1 z.2 y.1 y.2 ≤ 0 := by rw [ord_neg]; omega
    have b3 : ordK z.1 z.2 x.1 x.2 ≤ 0 := ord_trans b2 b1
    rw [ord_neg] at b3
    omega
theorem sort_lays (blk off size : Nat) (w : World) : CmpLays Tryd.prog 25 #[] keEnc 2 keCmp blk off size w :=
  fun _ _ _ _ x y => sort_closure x y _
theorem flat_ke (l : List Ky) : flatK keEnc 2 l.toArray = (keCells l).toArray := by
  apply Array.ext
  · simp [keCells_len]
  · intro t h1 h2
    have ht : t < l.length * 2 := by simpa using h1
    have hq : t / 2 < l.length := by omega
    have g := keCells_get l (t / 2) l[t / 2] (List.getElem?_eq_getElem hq) (t % 2) (by omega)
    rw [show t / 2 * 2 + t % 2 = t by omega] at g
    have e := get_flatK keEnc 2 l.toArray t (by simpa using ht)
    rw [getElem!_pos _ t h1] at e
    rw [e]
    have hx : l.toArray[t / 2]! = l[t / 2] := by simp [getElem!_pos, hq]
    rw [hx]
    have h2' : t < (keCells l).length := by simpa using h2
    rw [List.getElem?_eq_getElem h2'] at g
    show (keEnc l[t / 2])[t % 2]! = (keCells l)[t]
    rw [List.getElem!_eq_getElem?_getD, show (keEnc l[t / 2])[t % 2]? = some (keCells l)[t] from g.symm]
    rfl
theorem holds2 {w : World} {base g n cap : Nat} {t : TypeId} {l : List Ky} (h : w.ownsRow base t 2 (.slice (some ⟨g, 0, none⟩) n cap) n (keCells l)) : base ≤ g ∧ g < w.heap.size ∧ l.length = n ∧ HoldsK keEnc 2 w g 0 l.toArray := by
  have hl : l.length = n := by have := h.1; rw [keCells_len] at this; omega
  rcases h.2 with ⟨e0, _⟩ | ⟨g', cap', cur, e0, hb, hg, hn, hm, hs, ht⟩
  · cases e0
  · injection e0 with e1 _ e3
    injection e1 with e1
    injection e1 with e1
    subst e1; subst e3
    refine ⟨hb, (Array.getElem?_eq_some_iff.1 hg).1, hl, ?_⟩
    show Holds id w g 0 (flatK keEnc 2 l.toArray)
    rw [flat_ke]
    intro j hj
    have hj' : j < (keCells l).length := by simpa using hj
    have hjn : j < n * 2 := by rw [keCells_len] at hj'; omega
    refine ⟨?_, by simp [World.frozen?, hg]⟩
    have e1 : (cur.toList.take (n * 2))[j]? = (keCells l)[j]? := by rw [ht]
    rw [List.getElem?_take, if_pos hjn, Array.getElem?_toList, List.getElem?_eq_getElem hj'] at e1
    simp only [World.cell?, hg, Nat.zero_add]
    simp only [Option.isSome_none, Bool.false_eq_true, if_false]
    rw [e1]
    simp [getElem!_pos, hj']
theorem own2 {w : World} {base g n cap q : Nat} {t : TypeId} {l ys : List Ky} (h : w.ownsRow base t 2 (.slice (some ⟨g, 0, none⟩) n cap) n (keCells l)) (hy : ys.length = n) :
    (putRowK keEnc 2 (Sort.ahead w q) g 0 ys.toArray).ownsRow base t 2 (.slice (some ⟨g, 0, none⟩) n cap) n (keCells ys) := by
  unfold putRowK
  rw [flat_ke]
  rcases h.2 with ⟨e0, _⟩ | ⟨g', cap', cur, e0, hb, hg, hn, hm, hs, ht⟩
  · cases e0
  · injection e0 with e1 _ e3
    injection e1 with e1
    injection e1 with e1
    subst e1; subst e3
    refine ⟨by rw [keCells_len, hy], .inr ⟨g, cap, putCells id 0 (keCells ys).toArray cur, rfl, hb, ?_, hn, hm, by simpa [putCells] using hs, ?_⟩⟩
    · simp [putRow, mapBlock, Sort.ahead, Array.getElem?_modify, hg, onCells]
    · apply List.ext_getElem?
      intro j
      rw [List.getElem?_take, Array.getElem?_toList]
      have hyl : (keCells ys).length = n * 2 := by rw [keCells_len, hy]
      by_cases hj : j < n * 2
      · have hjc : j < cur.size := by
          rw [hs]
          exact Nat.lt_of_lt_of_le hj (Nat.mul_le_mul_right 2 hn)
        simp only [if_pos hj, putCells, Array.getElem?_mapIdx, Array.getElem?_eq_getElem hjc, Option.map_some]
        rw [if_pos (by simp; omega), List.getElem?_eq_getElem (by omega)]
        simp [getElem!_pos, show j < (keCells ys).length by omega]
      · rw [if_neg hj, List.getElem?_eq_none (by omega)]
theorem sort_own2 {B : Nat} {v : Value} {l : List Ky} {w : World} (h : w.ownsRow B 27 2 v l.length (keCells l)) (hl : l.length < 4611686018427387904) :
    Calls Tryd.prog 24 #[v, .func (.func 25) #[] #[]] w fun e w' => e = .returned (.tuple #[]) ∧ ∃ ys : List Ky, ys.Perm l ∧ (∀ i j, i < j → j < ys.length → ltOf keCmp ys[j]! ys[i]! = false) ∧ w'.ownsRow B 27 2 v l.length (keCells ys) ∧ RowKit.Below B w w' := by
  have eg : ∀ args w, (callFunc 25 args).run Tryd.prog w = .ok (.enter 25 args) w := enters_of Tryd.func25 (by kernel_rfl) rfl
  by_cases h0 : l.length = 0
  · have hnil : l = [] := List.eq_nil_of_length_eq_zero h0
    subst hnil
    obtain ⟨a, c, rfl⟩ := row_shape h
    refine (AnyF.slices_SortFunc_none Tryd.sllaysf06 a c (.func (.func 25) #[] #[]) w).mono ?_
    rintro e w' ⟨rfl, rfl⟩
    exact ⟨rfl, [], List.Perm.refl _, fun i j _ hj => by simp at hj, h, RowKit.Below.refl _ _⟩
  · obtain ⟨g, cap, rfl, _, _⟩ := row_some h (by omega)
    obtain ⟨hb, hlt, _, hH⟩ := holds2 h
    have hc := AnyQ.slices_SortFunc Tryd.sllaysf06 2 Tryd.isAgg27 Tryd.sizeOf27 keEnc (fun _ => rfl) (fun x v hv => by simp [keEnc] at hv; rcases hv with rfl | rfl <;> rfl) keCmp keCmp_swo 25 #[] g 0 cap l.toArray w eg (sort_lays g 0 l.toArray.size w) hH hlt (by simpa using hl)
    rw [List.size_toArray] at hc
    refine Calls.mono hc ?_
    rintro e w' ⟨rfl, d', q, os, ⟨hp1, _, hp3⟩, hs, rfl⟩
    have hys : d'.toList.length = l.length := by simpa using hp1
    have h1 := own2 (q := q) (ys := d'.toList) h hys
    have e1 : d'.toList.toArray = d' := by simp
    rw [e1] at h1
    have hb1 : RowKit.Below B w (putRowK keEnc 2 (Sort.ahead w q) g 0 d') := below_putRow (enc := id) (q := q) (d := flatK keEnc 2 d') (RowKit.Below.refl B w) hb
    have hgr := below_grow (putRowK keEnc 2 (Sort.ahead w q) g 0 d').heap.size _ (Nat.le_refl _) 0 os
    refine ⟨rfl, d'.toList, ?_, ?_, ownsRow_later h1 hgr, hb1.trans (hgr.mono (Nat.le_trans (by omega) hb1.size))⟩
    · have e2 : (d'.extract 0 l.length).toList = d'.toList := by
        rw [← hys]; simp
      have e3 : (l.toArray.extract 0 l.length).toList = l := by simp
      rw [e2, e3] at hp3
      exact hp3
    · intro i j hij hj
      have := hs i j (Nat.zero_le _) hij (by rw [← hys]; exact hj)
      have e4 : ∀ k, d'.toList[k]! = d'[k]! := fun k => by rw [List.getElem!_eq_getElem?_getD, Array.getElem?_toList]; first | rfl | (rw [Array.getElem!_eq_getD, Array.getD_eq_getD_getElem?]) | (rw [getElem!_def]; cases d'[k]? <;> rfl)
      rw [e4, e4]; exact this
end Go.Proofs.YtogkdekjcbljnaaDoor
