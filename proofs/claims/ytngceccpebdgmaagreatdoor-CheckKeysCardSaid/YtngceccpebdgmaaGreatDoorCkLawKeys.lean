/- CheckKeys: the walk. -/
import Derived.Test.YtngceccpebdgmaaGreatDoorCkEx
import Derived.Test.YtngceccpebdgmaaGreatDoorCkRight
import Derived.Deep.RegionHeld3
namespace Go.Proofs.YtngceccpebdgmaaGreatDoor.ckKeys
open Go.RowKit

/-- The three boxes. -/
def Ks (G : Nat) (t1 t2 t3 : Int) (x1 x2 x3 : ByteArray) (q : Int) (g : Bool) (s : ByteArray) (w0 w' : World) : Prop :=
  w'.cell? ⟨G, 0, none⟩ = some (.int .i64 t1) ∧ w'.cell? ⟨G, 1, none⟩ = some (.string x1) ∧ w'.cell? ⟨G + 1, 0, none⟩ = some (.int .i64 t2) ∧ w'.cell? ⟨G + 1, 1, none⟩ = some (.string x2) ∧
    w'.cell? ⟨G + 1 + 1, 0, none⟩ = some (.int .i64 t3) ∧ w'.cell? ⟨G + 1 + 1, 1, none⟩ = some (.string x3) ∧ w'.cell? ⟨G + 1 + 1, 2, none⟩ = some (.int .u64 q) ∧ w'.cell? ⟨G + 1 + 1, 3, none⟩ = some (.bool g) ∧ w'.cell? ⟨G + 1 + 1, 4, none⟩ = some (.string s) ∧
    G + 1 + 1 < w'.heap.size ∧ Below G w0 w'
theorem Ks.next {G : Nat} {t1 t2 t3 : Int} {x1 x2 x3 : ByteArray} {q : Int} {g : Bool} {s : ByteArray} {w0 wc w' : World} (h : Ks G t1 t2 t3 x1 x2 x3 q g s w0 wc) (hb : Below wc.heap.size wc w') : Ks G t1 t2 t3 x1 x2 x3 q g s w0 w' := by
  obtain ⟨a0, a1, b0, b1, c0, c1, c2, c3, c4, l, hB⟩ := h
  exact ⟨(hb.cell (p := ⟨G, 0, none⟩) (show G < _ by omega)).trans a0, (hb.cell (p := ⟨G, 1, none⟩) (show G < _ by omega)).trans a1, (hb.cell (p := ⟨G + 1, 0, none⟩) (show G + 1 < _ by omega)).trans b0, (hb.cell (p := ⟨G + 1, 1, none⟩) (show G + 1 < _ by omega)).trans b1,
    (hb.cell (p := ⟨G + 1 + 1, 0, none⟩) l).trans c0, (hb.cell (p := ⟨G + 1 + 1, 1, none⟩) l).trans c1, (hb.cell (p := ⟨G + 1 + 1, 2, none⟩) l).trans c2, (hb.cell (p := ⟨G + 1 + 1, 3, none⟩) l).trans c3, (hb.cell (p := ⟨G + 1 + 1, 4, none⟩) l).trans c4,
    Nat.lt_of_lt_of_le l hb.size, hB.trans (hb.mono (by omega))⟩
theorem Ks.drew {G : Nat} {t1 t2 t3 : Int} {x1 x2 x3 : ByteArray} {q : Int} {g : Bool} {s : ByteArray} {w0 w' : World} (h : Ks G t1 t2 t3 x1 x2 x3 q g s w0 w') : Ks G t1 t2 t3 x1 x2 x3 q g s w0 w'.drew := h.next (Below.refl _ _).drew
theorem ks_new (w : World) (t1 t2 t3 : Int) (x1 x2 x3 : ByteArray) (q : Int) (g : Bool) (s : ByteArray) :
    Ks w.heap.size t1 t2 t3 x1 x2 x3 q g s w (((w.alloc (.cells #[.int .i64 t1, .string x1] 23)).alloc (.cells #[.int .i64 t2, .string x2] 23)).alloc (.cells #[.int .i64 t3, .string x3, .int .u64 q, .bool g, .string s] 26)) := by
  refine ⟨?_, ?_, ?_, ?_, ?_, ?_, ?_, ?_, ?_, ?_, (((Below.refl _ w).alloc (Nat.le_refl _) _).alloc (by simp) _).alloc (by simp; omega) _⟩
  · rw [World.cell?_alloc_lt _ _ _ (by simp <;> omega), World.cell?_alloc_lt _ _ _ (by simp)]; simp
  · rw [World.cell?_alloc_lt _ _ _ (by simp <;> omega), World.cell?_alloc_lt _ _ _ (by simp)]; simp
  · rw [World.cell?_alloc_lt _ _ _ (by simp)]; simp
  · rw [World.cell?_alloc_lt _ _ _ (by simp)]; simp
  · rw [World.cell?_alloc_at _ _ _ _ (by simp)]; rfl
  · rw [World.cell?_alloc_at _ _ _ _ (by simp)]; rfl
  · rw [World.cell?_alloc_at _ _ _ _ (by simp)]; rfl
  · rw [World.cell?_alloc_at _ _ _ _ (by simp)]; rfl
  · rw [World.cell?_alloc_at _ _ _ _ (by simp)]; rfl
  · simp

set_option maxRecDepth 100000 in
set_option maxHeartbeats 4000000 in
theorem walk (s0 : ByteArray) (t1 t2 : Int) (x1 x2 : ByteArray) (t3 : Int) (x3 : ByteArray) (q : Int) (g : Bool) (s : ByteArray) (b : Addr) (w : World) (hg : Gv b w) (hge : Ge w) (h0 : s0.size ≤ maxLen) (h1 : x1.size ≤ maxLen) (h3 : x3.size ≤ maxLen) :
    Calls Tryz.prog 3 #[.string s0, kyV t1 x1, kyV t2 x2, rsV t3 x3 q g s] w fun e w' => e = .returned (.bool true) ∧ Below w.heap.size w w' := by
  have HG := Lib.hid hg
  have HE := Lib.hid hge
  have H0 := Lib.hid h0
  have H1 := Lib.hid h1
  have H3 := Lib.hid h3
  clear hg hge h0 h1 h3
  have HK := Lib.hid (ks_new w t1 t2 t3 x1 x2 x3 q g s)
  go_enter Tryz.func3, Tryz.ntmps3
  go_wp2_with fail
  refine (ck_examples b _ (HG.out.below HK.out.2.2.2.2.2.2.2.2.2.2) (HE.out.below HK.out.2.2.2.2.2.2.2.2.2.2)).mono ?_
  rintro e w1 ⟨rfl, hb⟩
  have START := Lib.hid (HK.out.next hb).drew
  obtain ⟨a0, a1, b0, b1, c0, c1, c2, c3, c4, l, hB⟩ := HK.out.next hb
  have HB1 := Lib.hid hB
  clear hb hB
  obtain ⟨G, hG⟩ : ∃ G, w.heap.size = G := ⟨_, rfl⟩
  rw [hG] at a0 a1 b0 b1 c0 c1 c2 c3 c4 l START ⊢
  have HGG := Lib.hid hG
  clear hG
  go_wp2_with fail
  go_region_held3 (fun w' => w'.cell? ⟨G, 0, none⟩ = some (.int .i64 t1) ∧ w'.cell? ⟨G, 1, none⟩ = some (.string x1) ∧ w'.cell? ⟨G + 1, 0, none⟩ = some (.int .i64 t2) ∧ w'.cell? ⟨G + 1, 1, none⟩ = some (.string x2) ∧
    w'.cell? ⟨G + 1 + 1, 0, none⟩ = some (.int .i64 t3) ∧ w'.cell? ⟨G + 1 + 1, 1, none⟩ = some (.string x3) ∧ w'.cell? ⟨G + 1 + 1, 2, none⟩ = some (.int .u64 q) ∧ w'.cell? ⟨G + 1 + 1, 3, none⟩ = some (.bool g) ∧ w'.cell? ⟨G + 1 + 1, 4, none⟩ = some (.string s) ∧
    G + 1 + 1 < w'.heap.size ∧ Below G w w')
    (first | exact START.out | (refine Ks.next (G := G) (t1 := t1) (t2 := t2) (t3 := t3) (x1 := x1) (x2 := x2) (x3 := x3) (q := q) (g := g) (s := s) (w0 := w) ?_ hb; first | exact START.out | assumption) | go_keep)
    (first
      | (go_at_call 11; refine (name_any _ _).mono ?_; rintro e w' ⟨rfl, rfl⟩)
      | (go_at_call 12; refine (rname_any _ _ H0.out).mono ?_; rintro e w' ⟨rfl, rfl⟩)
      | (go_at_call 13; refine (key_any _ _ _).mono ?_; rintro e w' ⟨rfl, hb⟩)
      | (go_at_call 14; refine (rkey_any _ _ _ H1.out).mono ?_; rintro e w' ⟨rfl, hb⟩)
      | (go_at_call 15; refine (order_any _ _ _ _ _).mono ?_; rintro e w' ⟨rfl, hb⟩)
      | (go_at_call 16; refine (rorder_any _ _ _ _ _).mono ?_; rintro e w' ⟨rfl, hb⟩)
      | (go_at_call 17; refine (right_any _ _ _ _ _ _).mono ?_; rintro e w' ⟨rfl, hb⟩)
      | (go_at_call 18; refine (rright_any _ _ _ _ _ _ H3.out).mono ?_; rintro e w' ⟨rfl, hb⟩))
  rename_i hH
  have HF := Lib.hid hH.2.2.2.2.2.2.2.2.2.2
  go_wp2_with fail
  go_ret
  exact ⟨rfl, by rw [HGG.out]; exact HF.out⟩
end Go.Proofs.YtngceccpebdgmaaGreatDoor.ckKeys
