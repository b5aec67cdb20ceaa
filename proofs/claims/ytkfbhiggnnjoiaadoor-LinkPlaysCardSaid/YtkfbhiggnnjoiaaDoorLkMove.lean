/- link: a way's bytes are grown, or new. -/
import Derived.Test.YtkfbhiggnnjoiaaDoorLkLow
namespace Go.Proofs.YtkfbhiggnnjoiaaDoor
open Go.RowKit Go.Lib

theorem LkAt.cells {b : Addr} {base l ep tk : Nat} {P : Nat → Wa} {w : World} (h : LkAt b base l P ep tk w) {k : Nat} (hk : k < 2) :
    w.cell? ⟨l, 3 * k, none⟩ = some (.pointer (some ⟨(P k).r, 0, none⟩)) ∧ w.cell? ⟨l, 3 * k + 1, none⟩ = some (P k).b ∧ w.cell? ⟨l, 3 * k + 2, none⟩ = some (.int .i64 ((P k).D.length : Int)) := by
  match k, hk with
  | 0, _ => exact ⟨h.blk.cell 0, h.blk.cell 1, h.blk.cell 2⟩
  | 1, _ => exact ⟨h.blk.cell 3, h.blk.cell 4, h.blk.cell 5⟩
theorem lk_get (P : Nat → Wa) (ep tk : Nat) {k : Nat} (hk : k < 2) : (lkCells P ep tk)[3 * k]? = some (.pointer (some ⟨(P k).r, 0, none⟩)) ∧ (lkCells P ep tk)[3 * k + 1]? = some (P k).b ∧ (lkCells P ep tk)[3 * k + 2]? = some (.int .i64 ((P k).D.length : Int)) := by
  match k, hk with
  | 0, _ => exact ⟨rfl, rfl, rfl⟩
  | 1, _ => exact ⟨rfl, rfl, rfl⟩
theorem LkAt.tail {b : Addr} {base l ep tk : Nat} {P : Nat → Wa} {w : World} (h : LkAt b base l P ep tk w) :
    w.cell? ⟨l, 6, none⟩ = some (.int .u64 (ep : Int)) ∧ w.cell? ⟨l, 7, none⟩ = some (.int .i64 (tk : Int)) := ⟨h.blk.cell 6, h.blk.cell 7⟩
theorem lk_set1 (P : Nat → Wa) (ep tk : Nat) {k : Nat} (hk : k < 2) (v : Value) (x : Wa) (hr : x.r = (P k).r) (hb : x.b = v) (hD : x.D = (P k).D) : (lkCells P ep tk).setIfInBounds (3 * k + 1) v = lkCells (upd P k x) ep tk := by
  match k, hk with
  | 0, _ => simp [lkCells, upd, hr, hb, hD]
  | 1, _ => simp [lkCells, upd, hr, hb, hD]
theorem lk_set2 (P : Nat → Wa) (ep tk : Nat) {k : Nat} (hk : k < 2) (n : Nat) (x : Wa) (hr : x.r = (P k).r) (hb : x.b = (P k).b) (hD : x.D.length = n) : (lkCells P ep tk).setIfInBounds (3 * k + 2) (.int .i64 (n : Int)) = lkCells (upd P k x) ep tk := by
  match k, hk with
  | 0, _ => simp [lkCells, upd, hr, hb, hD]
  | 1, _ => simp [lkCells, upd, hr, hb, hD]
theorem lk_same (P : Nat → Wa) (ep tk : Nat) {k : Nat} (x : Wa) (hr : x.r = (P k).r) (hb : x.b = (P k).b) (hD : x.D = (P k).D) : lkCells P ep tk = lkCells (upd P k x) ep tk := by
  have e : ∀ j, (upd P k x j).r = (P j).r ∧ (upd P k x j).b = (P j).b ∧ (upd P k x j).D = (P j).D := by
    intro j
    by_cases h : j = k
    · subst h; rw [upd_same]; exact ⟨hr, hb, hD⟩
    · rw [upd_other _ _ h]; exact ⟨rfl, rfl, rfl⟩
  simp only [lkCells, e]
theorem grown_two {w w1 w2 : World} {row : Option Nat} (h : w.grownBy w1 row) (h' : w1.grownBy w2 row) : w.grownBy w2 row :=
  ⟨h'.os.trans h.os, h'.tape.trans h.tape, h'.output.trans h.output, Nat.le_trans h.size h'.size, fun k hk hn => (h'.block k (Nat.lt_of_lt_of_le hk h.size) hn).trans (h.block k hk hn)⟩
theorem LkAt.grow {b : Addr} {base l ep tk k : Nat} {P : Nat → Wa} {w w1 : World} {row : Option Nat} (h : LkAt b base l P ep tk w) (hk : k < 2) (hg : w.grownBy w1 row) (hrow : row = (P k).b.ownBlock ∨ row = none) : Blk w1 l (lkCells P ep tk) 59 := by
  refine h.blk.kept hg fun e => ?_
  rcases hrow with hr | hr
  · rw [hr] at e; exact row_block (h.wa k hk).row h.blk (by decide) e.symm
  · rw [hr] at e; cases e
/-- The bytes of a way are grown, or new; then cells of the stream are set. -/
theorem LkAt.move_row {b : Addr} {base l ep tk k : Nat} {P : Nat → Wa} {w w1 w2 : World} {row : Option Nat} (h : LkAt b base l P ep tk w) (hk : k < 2) (x : Wa) (hg : w.grownBy w1 row) (hrow : row = (P k).b.ownBlock ∨ row = none) (hk1 : Kept base w w1)
    (hxr : x.r = (P k).r) (hxv : x.v = (P k).v) (hxs : x.y.S = (P k).y.S) (hown : w1.ownsRow base 5 1 x.b (x.D ++ x.y.W).length (bytesV (x.D ++ x.y.W)))
    (hfrom : ∀ g, x.b.ownBlock = some g → (P k).b.ownBlock = some g ∨ w.heap.size ≤ g) (hg2 : w1.grownBy w2 (some l)) (hk2 : Kept base w1 w2) (hblk : Blk w2 l (lkCells (upd P k x) ep tk) 59) :
    LkAt b base l (upd P k x) ep tk w2 ∧ Kept base w w2 := by
  have hw := h.wa k hk
  have hl1 := h.grow hk hg hrow
  refine ⟨h.move k hk x hblk ?_ ?_ hxr ?_ hfrom (hk1.trans hk2), hk1.trans hk2⟩
  · refine ⟨?_, own_other hown hg2 (fun g e e' => row_block hown hl1 (by decide) (by rw [e, e'])), ?_⟩
    · have hr1 : RdAt base (P k).r (P k).v (P k).y.S 0 w1 := by
        refine ⟨hw.rd.blk.kept hg fun e => ?_, own_other hw.rd.own hg fun g e e' => ?_, hw.rd.br⟩
        · rcases hrow with hr | hr
          · rw [hr] at e; exact row_block hw.row hw.rd.blk (by decide) e.symm
          · rw [hr] at e; cases e
        · rcases hrow with hr | hr
          · rw [hr] at e'; exact hw.ap g e e'
          · rw [hr] at e'; cases e'
      rw [hxr, hxv, hxs]
      exact ⟨hr1.blk.kept hg2 fun e => Blk.ne hr1.blk hl1 (by decide) (Option.some.inj e), own_other hr1.own hg2 (fun g e e' => row_block hr1.own hl1 (by decide) (by rw [e, e'])), hr1.br⟩
    · intro g hg' hgb
      rw [hxv] at hg'
      rcases hfrom g hgb with e | e
      · exact hw.ap g hg' e
      · have := (own_heap hw.rd.own hg').2.1; omega
  · intro g hlt hl _ _ hb
    refine (hg2.block g (Nat.lt_of_lt_of_le hlt hg.size) (fun e => hl (Option.some.inj e))).trans (hg.block g hlt ?_)
    rcases hrow with hr | hr
    · rw [hr]; exact fun e => hb e.symm
    · rw [hr]; exact fun e => by cases e
  · intro g e; rw [hxv] at e; exact .inl e

set_option maxRecDepth 100000 in
theorem put_ok {b : Addr} {base l ep tk k : Nat} {P : Nat → Wa} {w : World} (h : LkAt b base l P ep tk w) (hk : k < 2) (hD : (P k).D.length ≤ 262144) (s : ByteArray) (hfit : (P k).y.W.length + s.size ≤ 262144) :
    Calls Tryd.prog 35 #[.pointer (some ⟨l, 3 * k, none⟩), .string s] w fun e w' => e = .returned (.int .i64 0) ∧ ∃ b', LkAt b base l (upd P k ⟨(P k).r, (P k).v, b', (P k).D, ⟨(P k).y.W ++ s.data.toList, (P k).y.S⟩⟩) ep tk w' ∧ Kept base w w' := by
  obtain ⟨c0, c1, c2⟩ := h.cells hk
  obtain ⟨a, c, hb⟩ := owns_slice (h.wa k hk).row
  rw [hb] at c1
  obtain ⟨i0, hi, hz0, hz1, hz2⟩ := info_parts Tryd.infoU8
  obtain ⟨M, hM⟩ : ∃ M, ((P k).D ++ (P k).y.W).length = M := ⟨_, rfl⟩
  obtain ⟨G, hG⟩ : ∃ G, (P k).D.length = G := ⟨_, rfl⟩
  have hMG : M = G + (P k).y.W.length := by rw [← hM, ← hG, List.length_append]
  have hown := (h.wa k hk).row
  rw [hM] at c1 hown; rw [hG] at c2
  have hfit' : ¬ (262144 - ((M - G : Nat) : Int)) < (s.size : Int) := by omega
  have hs : s.size ≤ 262144 := by omega
  have hM2 : M ≤ 524288 := by omega
  have hGM : G ≤ M := by omega
  have HH := Lib.hid (And.intro hM (And.intro hG (And.intro hMG (And.intro hfit hD)))); clear hM hG hMG hfit hD
  have H := Lib.hid h
  obtain ⟨o, ho⟩ : ∃ o, o = 3 * k := ⟨_, rfl⟩
  rw [← ho] at c0 c1 c2 ⊢
  have HO := Lib.hid ho; clear ho
  go_enter Tryd.func35, Tryd.ntmps35
  go_wp2_with fail
  refine (space_raw l o M c G a w c1 c2 hGM (by omega)).mono ?_
  rintro e w' ⟨rfl, n, rfl⟩
  obtain ⟨z, hz⟩ : ∃ z : Int, 262144 - ((M - G : Nat) : Int) = z := ⟨_, rfl⟩
  rw [hz] at hfit' ⊢
  obtain ⟨w0, hw0⟩ : ∃ w0 : World, w.drewN n = w0 := ⟨_, rfl⟩
  have hb0 : Below w.heap.size w w0 := by rw [← hw0]; exact below_drewN' _
  have hl0 := h.below hb0
  obtain ⟨d0, d1, d2⟩ := hl0.cells hk
  rw [← HO.out, hb, HH.out.1] at d1
  have hown0 := (hl0.wa k hk).row
  rw [hb, HH.out.1] at hown0
  have HB := Lib.hid (show (P k).b = .slice a M c by rw [hb, HH.out.1])
  rw [hw0]
  have hB0 := hl0.hB
  go_wp2_with (at_builtin; go_must (refine wpList_append_str _ rfl _ _ 39 9 rfl base 5 i0 Tryd.underlying39 Tryd.underlying9 hi hz0 hz1 hz2 _ M _ rfl hown0 s rfl (by unfold maxLen; omega) (by omega) hB0 ?_; intro v1 w1 hown1 hgrow1 hfrom1; obtain ⟨a1, c1', rfl⟩ := owns_slice hown1; have hbl1 := hl0.grow hk hgrow1 (.inl (congrArg Value.ownBlock HB.out.symm)); have e1 : w1.cell? ⟨l, o + 1, none⟩ = some (.slice a M c) := (congrArg (fun o => w1.cell? ⟨l, o + 1, none⟩) HO.out).trans ((hbl1.cell _).trans ((lk_get P ep tk hk).2.1.trans (congrArg some HB.out))); have f11 := hbl1.frozen (o + 1)))
  go_ret
  have hg1 : w0.grownBy w1 (Value.slice a M c).ownBlock := hgrow1
  have hlen : ((P k).D ++ ((P k).y.W ++ s.data.toList)).length = M + s.size := by
    rw [← List.append_assoc, List.length_append, HH.out.1]; rfl
  have hrow : w1.ownsRow base 5 1 (.slice a1 (M + s.size) c1') ((P k).D ++ ((P k).y.W ++ s.data.toList)).length (bytesV ((P k).D ++ ((P k).y.W ++ s.data.toList))) := by
    rw [hlen, ← List.append_assoc, ← bytes_app]; exact hown1
  have hset : Blk (w1.setCell ⟨l, o + 1, none⟩ (.slice a1 (M + s.size) c1')) l (lkCells (upd P k ⟨(P k).r, (P k).v, .slice a1 (M + s.size) c1', (P k).D, ⟨(P k).y.W ++ s.data.toList, (P k).y.S⟩⟩) ep tk) 59 := by
    rw [← lk_set1 P ep tk hk (.slice a1 (M + s.size) c1') ⟨(P k).r, (P k).v, .slice a1 (M + s.size) c1', (P k).D, ⟨(P k).y.W ++ s.data.toList, (P k).y.S⟩⟩ rfl rfl rfl, HO.out]
    exact hbl1.set _ _
  obtain ⟨r1, r2⟩ := hl0.move_row hk ⟨(P k).r, (P k).v, .slice a1 (M + s.size) c1', (P k).D, ⟨(P k).y.W ++ s.data.toList, (P k).y.S⟩⟩ hg1 (.inl (congrArg Value.ownBlock HB.out.symm)) (Kept.row hown0 (Nat.le_refl _) hg1) rfl rfl rfl hrow
    (fun g e => by rw [HB.out]; exact hfrom1 g e) (grown_set _ l _ _) (Kept.set hbl1 hl0.bl (.inl rfl) _ _) hset
  exact ⟨rfl, _, r1, (Kept.of hb0).trans r2⟩
set_option maxRecDepth 100000 in
theorem put_full {b : Addr} {base l ep tk k : Nat} {P : Nat → Wa} {w : World} (h : LkAt b base l P ep tk w) (hk : k < 2) (hD : (P k).D.length ≤ 262144) (hW : (P k).y.W.length ≤ 262144) (s : ByteArray) (hfit : 262144 < (P k).y.W.length + s.size) :
    Calls Tryd.prog 35 #[.pointer (some ⟨l, 3 * k, none⟩), .string s] w fun e w' => e = .returned (.int .i64 4) ∧ ∃ n, w' = w.drewN n := by
  obtain ⟨c0, c1, c2⟩ := h.cells hk
  obtain ⟨a, c, hb⟩ := owns_slice (h.wa k hk).row
  rw [hb] at c1
  obtain ⟨M, hM⟩ : ∃ M, ((P k).D ++ (P k).y.W).length = M := ⟨_, rfl⟩
  obtain ⟨G, hG⟩ : ∃ G, (P k).D.length = G := ⟨_, rfl⟩
  have hMG : M = G + (P k).y.W.length := by rw [← hM, ← hG, List.length_append]
  rw [hM] at c1; rw [hG] at c2
  have hfit' : (262144 - ((M - G : Nat) : Int)) < (s.size : Int) := by omega
  have hM2 : M ≤ 524288 := by omega
  have hGM : G ≤ M := by omega
  clear hM hG hMG hfit hD hW
  generalize 3 * k = o at *
  go_enter Tryd.func35, Tryd.ntmps35
  go_wp2_with fail
  refine (space_raw l o M c G a w c1 c2 hGM (by omega)).mono ?_
  rintro e w' ⟨rfl, n, rfl⟩
  obtain ⟨z, hz⟩ : ∃ z : Int, 262144 - ((M - G : Nat) : Int) = z := ⟨_, rfl⟩
  rw [hz] at hfit' ⊢
  go_wp2
  go_ret
  exact ⟨rfl, _, rfl⟩
end Go.Proofs.YtkfbhiggnnjoiaaDoor
