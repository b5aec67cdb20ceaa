/- client: wanted. -/
import Derived.Test.YtdcfdcjgheijcaaGreatDoorClTurn
import Derived.Test.YtdcfdcjgheijcaaGreatDoorNmHas
namespace Go.Proofs.YtdcfdcjgheijcaaGreatDoor
open Go.RowKit Go.Lib

/-- What is had: a name, and the number of its version. -/
structure Hv where
  x : List UInt8
  q : Nat
abbrev Hv.cells (r : Hv) : List Value := [.string ⟨r.x.toArray⟩, .int .u64 (r.q : Int)]
def hvCells (rs : List Hv) : List Value := rs.flatMap Hv.cells
theorem hvCells_append (a b : List Hv) : hvCells (a ++ b) = hvCells a ++ hvCells b := by simp [hvCells]
/-- What is had, at a. -/
def HvAt (w : World) (a : Option Addr) (rs : List Hv) : Prop := ∀ (i : Nat) (r : Hv), rs[i]? = some r → ∃ g off, a = some ⟨g, off, none⟩ ∧ g < w.heap.size ∧
  w.cell? ⟨g, off + i * 2, none⟩ = some (.string ⟨r.x.toArray⟩) ∧ w.cell? ⟨g, off + i * 2 + 1, none⟩ = some (.int .u64 (r.q : Int))
theorem HvAt.later {w w' : World} {a : Option Addr} {rs : List Hv} (h : HvAt w a rs) (hb : Below w.heap.size w w') : HvAt w' a rs := by
  intro i r hi
  obtain ⟨g, off, ha, hg, h0, h1⟩ := h i r hi
  exact ⟨g, off, ha, Nat.lt_of_lt_of_le hg hb.size, (hb.cell (p := ⟨g, _, none⟩) hg).trans h0, (hb.cell (p := ⟨g, _, none⟩) hg).trans h1⟩
theorem HvAt.nil (w : World) (a : Option Addr) : HvAt w a [] := fun i r h => by simp at h
theorem hv_block {w : World} {B : Nat} {cs : Array Value} {t : TypeId} {rs : List Hv} (hb : Blk w B cs t) (h : cs.toList = hvCells rs) : HvAt w (some ⟨B, 0, none⟩) rs := by
  have key : ∀ (rs : List Hv) (i : Nat) (r : Hv), rs[i]? = some r → (hvCells rs)[i * 2]? = some (.string ⟨r.x.toArray⟩) ∧ (hvCells rs)[i * 2 + 1]? = some (.int .u64 (r.q : Int)) := by
    intro rs
    induction rs with
    | nil => intro i r h; simp at h
    | cons y ys ih =>
      intro i r h
      cases i with
      | zero => simp at h; subst h; exact ⟨rfl, rfl⟩
      | succ i =>
        obtain ⟨h1, h2⟩ := ih i r (by simpa using h)
        have e1 : (i + 1) * 2 = i * 2 + 1 + 1 := by omega
        rw [e1]
        exact ⟨h1, h2⟩
  intro i r hi
  obtain ⟨h1, h2⟩ := key rs i r hi
  refine ⟨B, 0, rfl, hb.lt, ?_, ?_⟩
  · rw [Nat.zero_add, hb.cell, ← Array.getElem?_toList, h]; exact h1
  · rw [Nat.zero_add, hb.cell, ← Array.getElem?_toList, h]; exact h2
theorem Tryz.infoHv : (Tryz.prog.info? 65).map (fun i => (i.zero, i.size, i.bytes)) = some (some (.agg #[.string ⟨#[]⟩, .int .u64 0]), 2, 24) := by kernel_rfl
theorem hv_snoc (p : List UInt8 → Bool) {l : List Hv} {k : Nat} {r : Hv} (h : l[k]? = some r) : (l.take (k + 1)).filter (fun r => p r.x) = (l.take k).filter (fun r => p r.x) ++ if p r.x then [r] else [] := by
  rw [List.take_add_one, h, List.filter_append]
  cases hp : p r.x <;> simp [hp]
theorem hv_one (r : Hv) : ∀ u ∈ hvCells [r], u.oneCell' = true := by intro u hu; simp [hvCells] at hu; rcases hu with rfl | rfl <;> rfl
/-- What is had comes out: so many, at an address that is not below n. -/
def WantPost (n : Nat) (m : Nat) (w : World) (e : Ending) (w' : World) : Prop := ∃ a c, e = .returned (.slice a m c) ∧ Below w.heap.size w w'

set_option maxRecDepth 100000 in
set_option maxHeartbeats 2000000 in
theorem wanted_any {sa : Bool} {sl : List (List UInt8)} {a b : Option Addr} {c d : Nat} {n m : Nat} {l : List Hv} {w : World} (h : TsAt w (.slice a sl.length c) sl) (hr : HvAt w b l) (hl : l.length = n) (hn : n ≤ 1000000) (he : (l.filter (fun r => nHas okN ⟨sa, sl⟩ r.x)).length = m) :
    Calls Tryz.prog 96 #[.agg #[.bool sa, .slice a sl.length c], .slice b n d] w (WantPost w.heap.size m w) := by
  obtain ⟨w0, hw0, hb0, p0⟩ := alloc_new w #[.bool sa, .slice a sl.length c] 26
  obtain ⟨i0, hi, hz0, hz1, hz2⟩ := info_parts Tryz.infoHv
  have HT := Lib.hid (h.later hb0)
  have HR := Lib.hid (hr.later hb0)
  have HB := Lib.hid hb0
  have HW := Lib.hid hw0
  have HL := Lib.hid hl
  obtain ⟨p, hp⟩ : ∃ p, nHas okN ⟨sa, sl⟩ = p := ⟨_, rfl⟩
  rw [hp] at he
  have HE := Lib.hid he
  have HP := Lib.hid hp
  have HQ := Lib.hid p0
  clear h hb0 hw0 p0 hr hl he hp
  go_enter Tryz.func96, Tryz.ntmps96
  go_wp2_with (rw [HW.out])
  go_loopw [10, 5] (fun i v wr => ∃ k : Nat, k ≤ n ∧ i = .int .i64 k ∧ wr.ownsRow w0.heap.size 65 2 v ((l.take k).filter (fun r => p r.x)).length (hvCells ((l.take k).filter (fun r => p r.x))) ∧ Below w0.heap.size w0 wr) (fun i _ _ => n - (RowKit.intOf i).toNat)
  case atStart => exact ⟨0, Nat.zero_le _, rfl, ⟨by simp [hvCells], .inl ⟨rfl, by simp⟩⟩, Below.refl _ _⟩
  case round =>
    obtain ⟨k, hk, rfl, hown, hb⟩ := hrel
    by_cases hlt : k < n
    · obtain ⟨r, hr⟩ : ∃ r, l[k]? = some r := ⟨_, List.getElem?_eq_getElem (by have := HL.out; omega)⟩
      obtain ⟨bb, off, rfl, hbl, q0, q1⟩ := HR.out k r hr
      have d0 := (hb.cell (p := ⟨bb, _, none⟩) hbl).trans q0
      have d1 := (hb.cell (p := ⟨bb, _, none⟩) hbl).trans q1
      have b0 : (0 : Int) ≤ (k : Int) := by omega
      have b1 : (k : Int) < (n : Int) := by omega
      have hsn := hv_snoc p hr
      have hfl : ((l.take k).filter (fun r => p r.x)).length ≤ k := Nat.le_trans (List.length_filter_le _ _) (by rw [List.length_take]; omega)
      obtain ⟨w2, hw2, hb2, p2⟩ := alloc_new wr #[.string ⟨r.x.toArray⟩, .int .u64 (r.q : Int)] 65
      have hbw2 := Base.later hb hb2
      have HC2 := Lib.hid (has_any (x := r.x) (sa := sa) (HT.out.later hbw2) (B := p r.x) (by rw [HP.out]))
      have P2 := HQ.out.later hbw2
      have HO := Lib.hid (And.intro (ownsRow_later hown hb2) (And.intro hbw2 (And.intro hsn p2)))
      have HW2 := Lib.hid hw2
      have e0 := p2.cell 0
      have e1 := p2.cell 1
      have g0 := P2.cell 0
      have g1 := P2.cell 1
      simp only [List.getElem?_toArray, List.getElem?_cons_zero, List.getElem?_cons_succ] at e0 e1 g0 g1
      clear hown hb hsn hr q0 q1 hb2 p2 hw2 hbw2 P2
      go_wp2_with (rw [HW2.out])
      refine HC2.out.mono ?_
      rintro e w3 ⟨rfl, hb3⟩
      have P3 := HO.out.2.2.2.later hb3
      have f0 := P3.cell 0
      have f1 := P3.cell 1
      simp only [List.getElem?_toArray, List.getElem?_cons_zero, List.getElem?_cons_succ] at f0 f1
      have HO3 := Lib.hid (And.intro (ownsRow_later HO.out.1 hb3) (Base.later HO.out.2.1 hb3))
      clear hb3 P3 e0 e1 g0 g1
      cases hp : p r.x with
      | false =>
        have HS := Lib.hid (show (l.take (k + 1)).filter (fun r => p r.x) = (l.take k).filter (fun r => p r.x) by rw [HO.out.2.2.1, hp]; simp)
        clear hp
        go_wp2_with fail
        go_roundw
        case rel => exact ⟨k + 1, by omega, by go_num, by rw [HS.out]; exact HO3.out.1, HO3.out.2⟩
        case measure => simp [RowKit.intOf]; omega
      | true =>
        have HS := Lib.hid (show (l.take (k + 1)).filter (fun r => p r.x) = (l.take k).filter (fun r => p r.x) ++ [r] by rw [HO.out.2.2.1, hp]; simp)
        clear hp
        have hws : w0.heap.size ≤ w3.heap.size := HO3.out.2.size
        go_wp2_with (at_builtin; go_must (refine wpList_append_own _ rfl _ _ 32 rfl w0.heap.size 65 i0 _ 2 24 Tryz.underlying32 hi hz0 hz1 hz2 rfl (by omega) _ _ _ rfl (HO3.out.1.alloc _) ⟨w3.heap.size, 0, none⟩ 1 1 (hvCells [r]) rfl rfl (World.news_of_block (cs := #[.string ⟨r.x.toArray⟩, .int .u64 (r.q : Int)]) (t := 65) (fr := (0, 0)) (heap_alloc_new w3 _)) (hv_one r) (by unfold maxLen; omega) (by omega) (by simp; omega) ?_; intro v' w4 hown4 hgrow4 _))
        have HRow4 := Lib.hid (show w4.ownsRow w0.heap.size 65 2 v' ((l.take (k + 1)).filter (fun r => p r.x)).length (hvCells ((l.take (k + 1)).filter (fun r => p r.x))) by rw [HS.out, hvCells_append, List.length_append]; exact hown4)
        have HB4 := Lib.hid ((HO3.out.2.alloc hws (.cells #[.string ⟨r.x.toArray⟩, .int .u64 (r.q : Int)] 65)).grown hgrow4 (by simp; omega) (fun j hj => (HO3.out.1.lt j hj).1))
        clear hown4 hgrow4
        go_wp2_with fail
        go_roundw
        case rel => exact ⟨k + 1, by omega, by go_num, HRow4.out, HB4.out⟩
        case measure => simp [RowKit.intOf]; omega
    · obtain rfl : k = n := by omega
      have hE : l.take k = l := List.take_of_length_le (by have := HL.out; omega)
      rw [hE, HE.out] at hown
      obtain ⟨a4, c4, rfl⟩ := owns_slice hown
      have HO := Lib.hid hb
      clear hown hb hE
      go_wp2_with fail
      go_ret
      exact ⟨_, _, rfl, HB.out.trans (HO.out.mono HB.out.size)⟩
end Go.Proofs.YtdcfdcjgheijcaaGreatDoor
