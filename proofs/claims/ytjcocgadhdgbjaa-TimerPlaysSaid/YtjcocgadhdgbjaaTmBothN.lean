/- timer: At, Due, Next, Len of both timers. -/
import Derived.Test.YtjcocgadhdgbjaaTmBoth
namespace Go.Proofs.Ytjcocgadhdgbjaa
open Go.RowKit

theorem at_both {b t r N B : Nat} {d : Dd} {L1 L2 : List Tm} {w0 w : World} (h : Both b t r N B d L1 L2 w0 w) (hB : w0.heap.size ≤ b) {Z : ByteArray} (hZ : Z.size ≤ 140737488355328) {o : Nat} {x : Bool} (ho : (atL L1 Z.data.toList).getD 0 = o) (hx : (atL L1 Z.data.toList).isSome = x) :
    Calls Try.prog 15 #[.pointer (some ⟨t, 0, none⟩), .string Z] w fun e w' => e = .returned (.tuple #[.int .u64 (o : Int), .bool x]) ∧ Both b t r N B d L1 L2 w0 w' := by
  have q := h.1
  obtain ⟨F, v, q, _⟩ := q
  subst ho hx
  exact (at_any b t N F L1 Z w q hZ).mono fun e w' ⟨he, hb⟩ => ⟨he, h.below hB hb⟩
theorem rat_both {b t r N B : Nat} {d : Dd} {L1 L2 : List Tm} {w0 w : World} (h : Both b t r N B d L1 L2 w0 w) (hl : L2.length ≤ 1024) (hn : (L2.map (·.1)).Nodup) {Z : ByteArray} {o : Nat} {x : Bool} (ho : (atL L2 Z.data.toList).getD 0 = o) (hx : (atL L2 Z.data.toList).isSome = x) :
    Calls Try.prog 16 #[.pointer (some ⟨r, 0, none⟩), .string Z] w fun e w' => e = .returned (.tuple #[.int .u64 (o : Int), .bool x]) ∧ Both b t r N B d L1 L2 w0 w' := by
  have q := h.1
  obtain ⟨F, v, _, p, _⟩ := q
  subst ho hx
  exact (rat_any b r v L2 Z w p hl hn).mono fun e w' ⟨he, hw⟩ => ⟨he, by subst hw; exact h⟩
theorem both_cells {b t r N B : Nat} {d : Dd} {L1 L2 : List Tm} {w0 w : World} (h : Both b t r N B d L1 L2 w0 w) : w.cell? ⟨B, 0, none⟩ = some (.int .u8 (d.k : Int)) ∧ w.cell? ⟨B, 1, none⟩ = some (.int .u8 (d.i : Int)) ∧ w.cell? ⟨B, 2, none⟩ = some (.string d.s) ∧ w.cell? ⟨B, 3, none⟩ = some (.int .u64 (d.t : Int)) := ⟨h.2.cell 0, h.2.cell 1, h.2.cell 2, h.2.cell 3⟩
/-- What is told as next. -/
def nxL (L : List Tm) : ByteArray × Nat × Bool := match nextL L with | none => (⟨#[]⟩, 0, false) | some x => (⟨x.1.toArray⟩, x.2, true)
theorem next_bo {b t r N : Nat} {L1 L2 : List Tm} {w0 w : World} (h : Bo b t r N L1 L2 w0 w) (hB : w0.heap.size ≤ b) {P : ByteArray} {A : Nat} {O : Bool} (hx : nxL L1 = (P, A, O)) :
    Calls Try.prog 19 #[.pointer (some ⟨t, 0, none⟩)] w fun e w' => e = .returned (.tuple #[.string P, .int .u64 (A : Int), .bool O]) ∧ Bo b t r N L1 L2 w0 w' := by
  have q := h
  obtain ⟨F, v, q, _⟩ := q
  unfold nxL at hx
  cases hn : nextL L1 with
  | none =>
    rw [hn] at hx; cases hx
    obtain rfl := nextL_none hn
    exact (next_none b t N F w q).mono fun e w' ⟨he, hw⟩ => ⟨he, by subst hw; exact h⟩
  | some x =>
    rw [hn] at hx; cases hx
    exact (next_some b t N F L1 x w q hn).mono fun e w' ⟨he, hb⟩ => ⟨he, h.below hB hb⟩
theorem rnext_bo {b t r N : Nat} {L1 L2 : List Tm} {w0 w : World} (h : Bo b t r N L1 L2 w0 w) (hB : w0.heap.size ≤ b) (hl : L2.length ≤ 1024) {P : ByteArray} {A : Nat} {O : Bool} (hx : nxL L2 = (P, A, O)) :
    Calls Try.prog 20 #[.pointer (some ⟨r, 0, none⟩)] w fun e w' => e = .returned (.tuple #[.string P, .int .u64 (A : Int), .bool O]) ∧ Bo b t r N L1 L2 w0 w' := by
  have q := h
  obtain ⟨F, v, _, p, _⟩ := q
  unfold nxL at hx
  cases hn : nextL L2 with
  | none =>
    rw [hn] at hx; cases hx
    obtain rfl := nextL_none hn
    exact (rnext_none b r v w p).mono fun e w' ⟨he, hw⟩ => ⟨he, by subst hw; exact h⟩
  | some x =>
    rw [hn] at hx; cases hx
    exact (rnext_some b r v L2 x w p hl hn).mono fun e w' ⟨he, hb⟩ => ⟨he, h.below hB hb⟩
theorem len_bo {b t r N : Nat} {L1 L2 : List Tm} {w0 w : World} (h : Bo b t r N L1 L2 w0 w) {n : Nat} (hn : L1.length = n) :
    Calls Try.prog 21 #[.pointer (some ⟨t, 0, none⟩)] w fun e w' => e = .returned (.int .i64 (n : Int)) ∧ w = w' := by
  obtain ⟨F, v, q, _⟩ := h
  subst hn
  exact len_any b t N F L1 w q
theorem bo_cell {b t r N : Nat} {L1 L2 : List Tm} {w0 w : World} (h : Bo b t r N L1 L2 w0 w) {n : Nat} (hn : L2.length = n) : ∃ a c, w.cell? ⟨r, 0, none⟩ = some (.slice a n c) := by
  obtain ⟨F, v, _, p, _⟩ := h
  subst hn
  obtain ⟨a, c, hv⟩ := owns_slice p.own
  subst hv
  exact ⟨a, c, p.blk.cell 0⟩
/-- Due: the texts in a row. -/
def DueBoth (b t r N B : Nat) (d : Dd) (L1 L2 : List Tm) (w0 : World) (g n : Nat) (ms : List (List UInt8)) (e : Ending) (w' : World) : Prop :=
  ∃ a c, e = .returned (.slice a n c) ∧ Both b t r N B d L1 L2 w0 w' ∧ w'.ownsRow g 9 1 (.slice a n c) n (strV ms)
theorem due_both {b t r N B : Nat} {d : Dd} {L1 L2 : List Tm} {w0 w : World} (h : Both b t r N B d L1 L2 w0 w) (hB : w0.heap.size ≤ b) {now n : Nat} {ms : List (List UInt8)} {L' : List Tm} (hx : dueL now L1 = (ms, L')) (hn : ms.length = n) :
    Calls Try.prog 13 #[.pointer (some ⟨t, 0, none⟩), .int .u64 (now : Int)] w (DueBoth b t r N B d L' L2 w0 w.heap.size n ms) := by
  obtain ⟨⟨F, v, q, p, dis, lo, z⟩, hblk⟩ := h
  subst hn
  refine (due_any b t N F L1 now w q).mono ?_
  rintro e w' ⟨lv, rfl, q', k', o⟩
  rw [hx] at q' o
  obtain ⟨a, c, hlv⟩ := owns_slice o
  subst hlv
  exact ⟨a, c, rfl, both_t hB q p dis lo z hblk q' k' (fun k hk => .inl hk), o⟩
theorem rdue_both {b t r N B g : Nat} {d : Dd} {L1 L2 : List Tm} {w0 w : World} (h : Both b t r N B d L1 L2 w0 w) (hB : w0.heap.size ≤ b) (hl : L2.length ≤ 1024) (hm : (L2.map (·.1)).Nodup) {now n : Nat} {ms : List (List UInt8)} {L' : List Tm} (hx : dueL now L2 = (ms, L')) (hn : ms.length = n)
    {lv : Value} {m : Nat} {xs : List Value} (ho : w.ownsRow g 9 1 lv m xs) :
    Calls Try.prog 14 #[.pointer (some ⟨r, 0, none⟩), .int .u64 (now : Int)] w fun e w' => DueBoth b t r N B d L1 L' w0 w.heap.size n ms e w' ∧ w'.ownsRow g 9 1 lv m xs := by
  obtain ⟨⟨F, v, q, p, dis, lo, z⟩, hblk⟩ := h
  subst hn
  refine (rdue_any b r v L2 now w p hl hm z).mono ?_
  rintro e w' ⟨a, c, v', rfl, p', k', f', o⟩
  rw [hx] at p' o
  rw [hx]
  exact ⟨⟨a, c, rfl, both_r hB q p dis lo z hblk p' k' f', o⟩, k'.own ho (p.apart ho (by decide) (by decide))⟩
/-- Both rows hold the same texts. -/
theorem rows_same {w : World} {g1 g2 n c1 c2 : Nat} {a1 a2 : Option Addr} {ms : List (List UInt8)} (h1 : w.ownsRow g1 9 1 (.slice a1 n c1) n (strV ms)) (h2 : w.ownsRow g2 9 1 (.slice a2 n c2) n (strV ms)) (hn : ms.length = n) {k : Nat} (hk : k < n) :
    ∃ (x y : Nat) (Z : ByteArray), a1 = some ⟨x, 0, none⟩ ∧ a2 = some ⟨y, 0, none⟩ ∧ w.cell? ⟨x, k, none⟩ = some (.string Z) ∧ w.cell? ⟨y, k, none⟩ = some (.string Z) := by
  obtain ⟨x, e1, _, _, z1⟩ := row_str h1 k ms[k] (List.getElem?_eq_getElem (by omega))
  obtain ⟨y, e2, _, _, z2⟩ := row_str h2 k ms[k] (List.getElem?_eq_getElem (by omega))
  exact ⟨x, y, _, e1, e2, z1, z2⟩
theorem bo_start {b t r : Nat} {F : Nat → Prop} {w0 w1 : World} (hr : w1.heap.size = r) (hb : w0.heap.size ≤ b) (q : TmAt b t F 0 [] w1) (lo : Below w0.heap.size w0 w1) (z : b ≤ w1.heap.size) : Bo b t r 0 [] [] w0 (w1.alloc (.cells #[.slice none 0 0] 29)) := by
  subst hr
  have b1 : Below w1.heap.size w1 (w1.alloc (.cells #[.slice none 0 0] 29)) := (Below.refl _ _).alloc (Nat.le_refl _) _
  refine ⟨F, .slice none 0 0, q.below b1, ⟨Blk.new _ _ _, World.ownsRow_nil _ _ _ _, z⟩, fun k hf hr => ?_, lo.trans (b1.mono (Nat.le_trans hb z)), Nat.le_trans z b1.size⟩
  rcases hr with rfl | hr
  · have := (q.low hf).2; omega
  · cases hr
end Go.Proofs.Ytjcocgadhdgbjaa
