/- The law's ref: fields as the reference's: the walk. -/
import Derived.Test.YtkehanpgaahmlaaDoorNum
import Derived.Test.YtkehanpgaahmlaaDoorKeep
import Derived.Deep.RegionHeld3
import Derived.Deep.AppendLies
namespace Go.Proofs.YtkehanpgaahmlaaDoor
open Go.RowKit

/-- A field of whatever numbers. -/
structure Gd where
  num : Int
  kind : Int
  n : Nat
  s : ByteArray
def Gd.cells (f : Gd) : List Value := [.int .i64 f.num, .int .i64 f.kind, .int .u64 f.n, .string f.s]
def gdCells (gs : List Gd) : List Value := gs.flatMap Gd.cells
theorem gdCells_snoc (gs : List Gd) (f : Gd) : gdCells (gs ++ [f]) = gdCells gs ++ f.cells := by simp [gdCells]
theorem gdCells_len (gs : List Gd) : (gdCells gs).length = gs.length * 4 := by
  induction gs with
  | nil => rfl
  | cons f gs ih => simp [gdCells, Gd.cells] at ih ⊢; omega
theorem gdCells_at {gs : List Gd} {i j : Nat} (h : i < gs.length) (hj : j < 4) : (gdCells gs)[i * 4 + j]? = (gs[i].cells)[j]? := by
  induction gs generalizing i with
  | nil => simp at h
  | cons f gs ih =>
    have e : gdCells (f :: gs) = f.cells ++ gdCells gs := rfl
    have hl : f.cells.length = 4 := rfl
    cases i with
    | zero => rw [e, Nat.zero_mul, Nat.zero_add, List.getElem?_append_left (by omega)]; rfl
    | succ i =>
      rw [e, List.getElem?_append_right (by omega), hl, show (i + 1) * 4 + j - 4 = i * 4 + j by omega, ih (by simpa using h)]
      rfl

def RowG (W : World) (g : Nat) (gs : List Gd) : Prop :=
  g < W.heap.size ∧ ∀ i (h : i < gs.length), W.cell? ⟨g, i * 4, none⟩ = some (.int .i64 gs[i].num) ∧ W.cell? ⟨g, i * 4 + 1, none⟩ = some (.int .i64 gs[i].kind) ∧ W.cell? ⟨g, i * 4 + 2, none⟩ = some (.int .u64 gs[i].n) ∧ W.cell? ⟨g, i * 4 + 3, none⟩ = some (.string gs[i].s)
theorem RowG.below {W W' : World} {g : Nat} {gs : List Gd} (h : RowG W g gs) (hb : Below W.heap.size W W') : RowG W' g gs :=
  ⟨Nat.lt_of_lt_of_le h.1 hb.size, fun i hi => by
    obtain ⟨h0, h1, h2, h3⟩ := h.2 i hi
    have e : ∀ o, W'.cell? ⟨g, o, none⟩ = W.cell? ⟨g, o, none⟩ := fun o => hb.cell (p := ⟨g, o, none⟩) h.1
    exact ⟨(e _).trans h0, (e _).trans h1, (e _).trans h2, (e _).trans h3⟩⟩
theorem rowG_of {W : World} {base g cap n : Nat} {t : TypeId} {gs : List Gd} (h : W.ownsRow base t 4 (.slice (some ⟨g, 0, none⟩) n cap) n (gdCells gs)) (hn : gs.length = n) : RowG W g gs := by
  refine ⟨(h.lt g rfl).2, fun i hi => ?_⟩
  have hc : ∀ j, j < 4 → W.cell? ⟨g, i * 4 + j, none⟩ = gs[i].cells[j]? := fun j hj => by
    rw [h.cellAt (i * 4 + j) (by omega), gdCells_at hi hj]
  exact ⟨hc 0 (by omega), hc 1 (by omega), hc 2 (by omega), hc 3 (by omega)⟩

theorem Tryd.infoRF : (Tryd.prog.info? 33).map (fun i => (i.zero, i.size, i.bytes)) = some (some (.agg #[.int .i64 0, .int .i64 0, .int .u64 0, .string ⟨#[]⟩]), 4, 40) := by kernel_rfl

set_option maxRecDepth 100000 in
set_option maxHeartbeats 1600000 in
theorem ref_any (a0 : Option Addr) (L cap g : Nat) (gs : List Gd) (w : World) (hL : gs.length = L) (ha : 0 < L → a0 = some ⟨g, 0, none⟩) (hr : RowG w g gs) (hLb : L ≤ 1099511627776) :
    Calls Tryd.prog 18 #[.slice a0 L cap] w fun e w' => (∃ v, e = .returned v ∧ w'.ownsRow w.heap.size 33 4 v L (gdCells gs)) ∧ Below w.heap.size w w' := by
  have HL := Lib.hid hL; clear hL
  have HR := Lib.hid hr; clear hr
  have HA := Lib.hid ha; clear ha
  obtain ⟨i0, hi, hz0, hz1, hz2⟩ := info_parts Tryd.infoRF
  go_enter Tryd.func18, Tryd.ntmps18
  go_wp2_with fail
  go_loopw [3, 4] (fun v i wr => ∃ k : Nat, k ≤ L ∧ i = .int .i64 k ∧ wr.ownsRow w.heap.size 33 4 v k (gdCells (gs.take k)) ∧ Below w.heap.size w wr) (fun _ i _ => L - (intOf i).toNat)
  case atStart => exact ⟨0, Nat.zero_le _, rfl, World.ownsRow_nil _ _ _ _, Below.refl _ _⟩
  case round =>
    obtain ⟨k, hk, rfl, hown, hb⟩ := hrel
    have hbs := hb.size
    by_cases hlt : k < L
    · have ea := HA.out (by omega)
      subst ea
      have hkg : k < gs.length := by have := HL.out; omega
      obtain ⟨hgw, hr⟩ := (HR.out.below (W' := wr) hb)
      obtain ⟨p0, p1, p2, p3⟩ := hr k hkg
      have hg0 := HR.out.1
      have hne := fun e => Nat.not_lt.2 (hown.lt g e).1 hg0
      have hne' : u3.ownBlock ≠ some g := hne
      have HTK := Lib.hid (List.take_succ_eq_append_getElem hkg)
      clear hr hne
      generalize gs[k] = f at p0 p1 p2 p3 HTK
      clear hkg
      have b0 : (0 : Int) ≤ (k : Int) := by omega
      have b1 : (k : Int) < (L : Int) := by omega
      go_wp2_with fail
      go_region_held3 (fun w' => w'.cell? ⟨g, k * 4, none⟩ = some (.int .i64 f.num) ∧ w'.cell? ⟨g, k * 4 + 1, none⟩ = some (.int .i64 f.kind) ∧ w'.cell? ⟨g, k * 4 + 2, none⟩ = some (.int .u64 f.n) ∧ w'.cell? ⟨g, k * 4 + 3, none⟩ = some (.string f.s))
        (first
          | (exact ⟨(hcf.out _).trans p0, (hcf.out _).trans p1, (hcf.out _).trans p2, (hcf.out _).trans p3⟩)
          | go_keep)
        ((refine step_append_lies _ (by rfl) _ _ _ (by rfl) w.heap.size 33 i0 _ 4 40 Tryd.underlying34 hi hz0 hz1 hz2 rfl (by omega) u3 k (gdCells (gs.take k)) (by rfl) ((hown.alloc _).drew)
            ⟨wr.heap.size, 0, none⟩ 1 1 [.int .i64 f.num, .int .i64 f.kind, .int .u64 f.n, .string f.s] (by rfl) (by rfl) (World.news_of_block (cs := #[.int .i64 f.num, .int .i64 f.kind, .int .u64 f.n, .string f.s]) (t := 33) (fr := (0, 0)) (heap_alloc_new wr _)) (by simp [Value.oneCell'])
            (by omega) (by unfold maxLen; omega) (by omega) (by simp; omega) (wr.heap.size + 1) (by simp) ?_; intro gg cc w1 hown1 hgrow hat hltg; have hcf := Lib.hid (show ∀ o, w1.cell? ⟨g, o, none⟩ = wr.cell? ⟨g, o, none⟩ from fun o => (World.cell?_of_block (a := ⟨g, o, none⟩) (hgrow.block g (by simp; omega) (Ne.symm hne'))).trans (((Below.refl wr.heap.size wr).alloc (Nat.le_refl _) _).cell (p := ⟨g, o, none⟩) hgw))))
      have hb1 : Below w.heap.size w w1 := (below_drewN (hb.alloc hbs _) 1).grown hgrow (by show w.heap.size ≤ _; simp; omega) (fun r e => (hown.lt r e).1)
      go_wp2_with fail
      go_roundw
      case rel =>
        refine ⟨k + 1, by omega, by go_num, ?_, hb1⟩
        rw [HTK.out, gdCells_snoc]; exact hown1
      case measure => simp [intOf]; omega
    · obtain rfl : k = L := by omega
      have he : gs.take k = gs := List.take_of_length_le (by have := HL.out; omega)
      rw [he] at hown
      go_wp2_with fail
      go_ret
      exact ⟨⟨_, rfl, hown⟩, hb⟩
end Go.Proofs.YtkehanpgaahmlaaDoor
