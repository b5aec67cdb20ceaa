/- timer: both timers beside one another; each call as both see it. -/
import Derived.Test.YtjcocgadhdgbjaaTmRefD
import Derived.Test.YtjcocgadhdgbjaaTmOpen
namespace Go.Proofs.Ytjcocgadhdgbjaa
open Go.RowKit

def ddCells (d : Dd) : Array Value := #[.int .u8 (d.k : Int), .int .u8 (d.i : Int), .string d.s, .int .u64 (d.t : Int)]
abbrev ddAgg (d : Dd) : Value := .agg #[.int .u8 (d.k : Int), .int .u8 (d.i : Int), .string d.s, .int .u64 (d.t : Int)]
/-- Timers L1, the document's L2, apart. -/
def Bo (b t r N : Nat) (L1 L2 : List Tm) (w0 w : World) : Prop := ∃ F v, TmAt b t F N L1 w ∧ RfAt b r v L2 w ∧ (∀ k, F k → ¬ RS r v k) ∧ Below w0.heap.size w0 w ∧ b ≤ w.heap.size
/-- .. and a deed in block B. -/
def Both (b t r N B : Nat) (d : Dd) (L1 L2 : List Tm) (w0 w : World) : Prop := Bo b t r N L1 L2 w0 w ∧ Blk w B (ddCells d) 32
theorem Bo.below {b t r N : Nat} {L1 L2 : List Tm} {w0 w w' : World} (h : Bo b t r N L1 L2 w0 w) (hB : w0.heap.size ≤ b) (hb : Below w.heap.size w w') : Bo b t r N L1 L2 w0 w' := by
  obtain ⟨F, v, q, p, d, lo, z⟩ := h
  exact ⟨F, v, q.below hb, p.below hb, d, lo.trans (hb.mono (Nat.le_trans hB z)), Nat.le_trans z hb.size⟩
theorem Both.below {b t r N B : Nat} {d : Dd} {L1 L2 : List Tm} {w0 w w' : World} (h : Both b t r N B d L1 L2 w0 w) (hB : w0.heap.size ≤ b) (hb : Below w.heap.size w w') : Both b t r N B d L1 L2 w0 w' := ⟨h.1.below hB hb, h.2.below hb h.2.lt⟩
/-- What the timers did. -/
theorem both_t {b t r N N' B : Nat} {d : Dd} {F F' : Nat → Prop} {v : Value} {L1 L1' L2 : List Tm} {w0 w w' : World} (hB : w0.heap.size ≤ b) (q : TmAt b t F N L1 w) (p : RfAt b r v L2 w) (dis : ∀ k, F k → ¬ RS r v k) (lo : Below w0.heap.size w0 w) (z : b ≤ w.heap.size) (hblk : Blk w B (ddCells d) 32)
    (q' : TmAt b t F' N' L1' w') (k' : Kept F w w') (f' : ∀ k, F' k → F k ∨ w.heap.size ≤ k) : Both b t r N' B d L1' L2 w0 w' := by
  refine ⟨⟨F', v, q', p.kept k' (fun k hr hf => dis k hf hr), fun k hf hr => ?_, lo.trans ((q.under k' z).mono hB), Nat.le_trans z k'.size⟩, k'.blk hblk (q.apart hblk (by decide) (by decide) (by decide))⟩
  rcases f' k hf with h | h
  · exact dis k h hr
  · rcases hr with rfl | hr
    · have := p.blk.lt; omega
    · have := (p.own.lt k hr).2; omega
/-- What the document's did. -/
theorem both_r {b t r N B : Nat} {d : Dd} {F : Nat → Prop} {v v' : Value} {L1 L2 L2' : List Tm} {w0 w w' : World} (hB : w0.heap.size ≤ b) (q : TmAt b t F N L1 w) (p : RfAt b r v L2 w) (dis : ∀ k, F k → ¬ RS r v k) (lo : Below w0.heap.size w0 w) (z : b ≤ w.heap.size) (hblk : Blk w B (ddCells d) 32)
    (p' : RfAt b r v' L2' w') (k' : Kept (RS r v) w w') (f' : ∀ k, v'.ownBlock = some k → v.ownBlock = some k ∨ w.heap.size ≤ k) : Both b t r N B d L1 L2' w0 w' := by
  have hnB : ¬ RS r v B := by
    rintro (e | e)
    · subst e; have := hblk.symm.trans p.blk; simp at this
    · exact row_block p.own hblk (by decide) e
  refine ⟨⟨F, v', q.kept k' (fun k hf hr => dis k hf hr), p', fun k hf hr => ?_, lo.trans ((k'.below (B := b) z (fun k hr => ?_)).mono hB), Nat.le_trans z k'.size⟩, k'.blk hblk hnB⟩
  · rcases hr with rfl | hr
    · exact dis _ hf (.inl rfl)
    · rcases f' k hr with h | h
      · exact dis k hf (.inr h)
      · have := (q.low hf).2; omega
  · rcases hr with rfl | hr
    · exact p.br
    · exact (p.own.lt k hr).1
def idZ (d : Dd) : ByteArray := if 250 < d.i then d.s else ⟨#[UInt8.ofNat (97 + d.i % 20)]⟩
set_option maxRecDepth 100000 in
theorem id_walk (d : Dd) (w : World) (hi : d.i < 256) :
    Calls Try.prog 11 #[ddAgg d] w fun e w' => e = .returned (.string (idZ d)) ∧ Below w.heap.size w w' := by
  obtain ⟨k, i, s, a⟩ := d
  have hi' : i < 256 := hi
  have ib : (i : Int) ≤ 255 := by omega
  by_cases h : 250 < i
  · have e : idZ ⟨k, i, s, a⟩ = s := if_pos h
    rw [e]
    have h1 : (250 : Int) < (i : Int) := by omega
    clear e
    go_enter Try.func11, Try.ntmps11
    go_wp2
    go_ret
    exact ⟨rfl, (Below.refl _ _).alloc (Nat.le_refl _) _⟩
  · have e : idZ ⟨k, i, s, a⟩ = idS (i % 20) := if_neg h
    rw [e]
    have h1 : ¬ (250 : Int) < (i : Int) := by omega
    obtain ⟨m, hm⟩ : ∃ m, i % 20 = m := ⟨_, rfl⟩
    obtain ⟨c, hc⟩ : ∃ c, 97 + m = c := ⟨_, rfl⟩
    have hm1 : (i : Int) % 20 = (m : Int) := by omega
    have hc1 : 97 + (m : Int) = (c : Int) := by omega
    have cb : (c : Int) ≤ 116 := by omega
    obtain ⟨Y, hY, cv, _⟩ := byte_cv hc (by omega)
    rw [hm, ← hY]
    have cv1 : ∀ o, (convert 46 9 (.slice (some ⟨w.heap.size + 1, 0, none⟩) 1 1)).run Try.prog ((w.alloc o).alloc (.cells #[.int .u8 (c : Int)] 5)) = .ok (.string Y) ((w.alloc o).alloc (.cells #[.int .u8 (c : Int)] 5)) := fun o => by
      have h := cv (w.alloc o)
      have hs : (w.alloc o).heap.size = w.heap.size + 1 := by simp
      rwa [hs] at h
    clear e hm hc hY cv
    go_enter Try.func11, Try.ntmps11
    go_wp2
    go_ret
    exact ⟨rfl, ((Below.refl _ _).alloc (Nat.le_refl _) _).alloc (by simp) _⟩
theorem id_both {b t r N B : Nat} {d : Dd} {L1 L2 : List Tm} {w0 w : World} (h : Both b t r N B d L1 L2 w0 w) (hB : w0.heap.size ≤ b) (hi : d.i < 256) {Z : ByteArray} (hZ : idZ d = Z) :
    Calls Try.prog 11 #[ddAgg d] w fun e w' => e = .returned (.string Z) ∧ Both b t r N B d L1 L2 w0 w' := by
  subst hZ
  exact (id_walk d w hi).mono fun e w' ⟨he, hb⟩ => ⟨he, h.below hB hb⟩
theorem tstop_both {b t r N B : Nat} {d : Dd} {L1 L2 : List Tm} {w0 w : World} (h : Both b t r N B d L1 L2 w0 w) (hB : w0.heap.size ≤ b) {Z : ByteArray} (hZ : Z.size ≤ 140737488355328) {x : Bool} {L' : List Tm} (hx : (atL L1 Z.data.toList).isSome = x) (hL : dropL L1 Z.data.toList = L') :
    Calls Try.prog 10 #[.pointer (some ⟨t, 0, none⟩), .string Z] w fun e w' => e = .returned (.bool x) ∧ Both b t r N B d L' L2 w0 w' := by
  obtain ⟨⟨F, v, q, p, dis, lo, z⟩, hblk⟩ := h
  subst hx hL
  exact (stop_any b t N F L1 Z w q hZ).mono fun e w' ⟨he, q', k'⟩ => ⟨he, both_t hB q p dis lo z hblk q' k' (fun k hk => .inl hk)⟩
theorem rstop_both {b t r N B : Nat} {d : Dd} {L1 L2 : List Tm} {w0 w : World} (h : Both b t r N B d L1 L2 w0 w) (hB : w0.heap.size ≤ b) (hl : L2.length ≤ 1024) (hn : (L2.map (·.1)).Nodup) {Z : ByteArray} {x : Bool} {L' : List Tm} (hx : (atL L2 Z.data.toList).isSome = x) (hL : dropL L2 Z.data.toList = L') :
    Calls Try.prog 12 #[.pointer (some ⟨r, 0, none⟩), .string Z] w fun e w' => e = .returned (.bool x) ∧ Both b t r N B d L1 L' w0 w' := by
  obtain ⟨⟨F, v, q, p, dis, lo, z⟩, hblk⟩ := h
  subst hx hL
  exact (rstop_any b r v L2 Z w p hl hn z).mono fun e w' ⟨v', he, p', k', f'⟩ => ⟨he, both_r hB q p dis lo z hblk p' k' f'⟩
/-- What Set answers, and leaves. -/
def setR (L : List Tm) (id : List UInt8) (a : Nat) : Int × List Tm := if id.length = 0 ∨ 64 < id.length then (1, L) else if L.length = 1024 ∧ atL L id = none then (4, L) else (0, dropL L id ++ [(id, a)])
theorem fi_at {L : List Tm} (hn : (L.map (·.1)).Nodup) (id : List UInt8) : fiL L id = none ↔ atL L id = none := by
  constructor
  · intro h; exact atL_id (fi_no h)
  · intro h
    cases hf : fiL L id with
    | none => rfl
    | some i =>
      obtain ⟨hi, _, ha⟩ := drop_at hn hf
      rw [h, List.getElem?_eq_getElem hi] at ha; cases ha
theorem empty_bytes {Z : ByteArray} (h : Z.data.toList.length = 0) : Z = ⟨#[]⟩ := by
  cases Z with
  | mk d =>
    have : d.toList = [] := List.eq_nil_of_length_eq_zero h
    have : d = #[] := by cases d; simp at this; subst this; rfl
    subst this; rfl
theorem tset_both {b t r N B : Nat} {d : Dd} {L1 L2 : List Tm} {w0 w : World} (h : Both b t r N B d L1 L2 w0 w) (hB : w0.heap.size ≤ b) (hN : N ≤ 1099511627776) {Z : ByteArray} (hZ : Z.size ≤ 140737488355328) {a : Nat} {x : Int} {L' : List Tm} (hx : setR L1 Z.data.toList a = (x, L')) :
    Calls Try.prog 17 #[.pointer (some ⟨t, 0, none⟩), .string Z, .int .u64 (a : Int)] w fun e w' => e = .returned (.int .i64 x) ∧ Both b t r (N + 1) B d L' L2 w0 w' := by
  obtain ⟨⟨F, v, q, p, dis, lo, z⟩, hblk⟩ := h
  have qN : TmAt b t F (N + 1) L1 w := by
    obtain ⟨p', m, v', h', T, LE, a1, a2, a3, a4, a5, a6, a7, a8⟩ := q
    exact ⟨p', m, v', h', T, LE, a1, a2, a3, a4, a5, a6, by omega, a8⟩
  have hzl : Z.data.toList.length = Z.size := Array.length_toList
  unfold setR at hx
  by_cases h1 : Z.data.toList.length = 0 ∨ 64 < Z.data.toList.length
  · rw [if_pos h1] at hx; cases hx
    rcases h1 with h1 | h1
    · obtain rfl := empty_bytes h1
      exact (set_none t a w).mono fun e w' ⟨he, hw⟩ => ⟨he, by subst hw; exact ⟨⟨F, v, qN, p, dis, lo, z⟩, hblk⟩⟩
    · exact (set_long t Z a w (by omega) hZ).mono fun e w' ⟨he, hw⟩ => ⟨he, by subst hw; exact ⟨⟨F, v, qN, p, dis, lo, z⟩, hblk⟩⟩
  · rw [if_neg h1] at hx
    by_cases h2 : L1.length = 1024 ∧ atL L1 Z.data.toList = none
    · rw [if_pos h2] at hx; cases hx
      exact (set_full b t (N + 1) F L1 Z a w qN (by omega) (by omega) h2.1 h2.2).mono fun e w' ⟨F', he, q', k', f'⟩ => ⟨he, both_t hB q p dis lo z hblk q' k' f'⟩
    · rw [if_neg h2] at hx; cases hx
      have hroom : (dropL L1 Z.data.toList).length < 1024 := by
        have hl : L1.length ≤ 1024 := by obtain ⟨_, _, _, _, _, _, _, _, _, _, _, _, _, _, _, hl⟩ := q; exact hl
        rcases find_cases q Z.data.toList with ⟨e1, e2⟩ | ⟨y, e1⟩
        · rw [e2]
          rcases Nat.lt_or_ge L1.length 1024 with h | h
          · exact h
          · exact absurd ⟨by omega, e1⟩ h2
        · obtain ⟨u, hu, hu1⟩ : ∃ u ∈ L1, u.1 = Z.data.toList := by
            unfold atL at e1
            cases hf : L1.find? (fun x => x.1 == Z.data.toList) with
            | none => rw [hf] at e1; cases e1
            | some u => exact ⟨u, List.mem_of_find?_eq_some hf, by have := List.find?_some hf; simpa using this⟩
          have := dropL_len q.nodup hu
          rw [hu1] at this; omega
      exact (set_ok b t N F L1 Z a w q (by omega) (by omega) hroom hN z).mono fun e w' ⟨F', he, q', k', f'⟩ => ⟨he, both_t hB q p dis lo z hblk q' k' f'⟩
theorem rset_both {b t r N B : Nat} {d : Dd} {L1 L2 : List Tm} {w0 w : World} (h : Both b t r N B d L1 L2 w0 w) (hB : w0.heap.size ≤ b) (hl : L2.length ≤ 1024) (hn : (L2.map (·.1)).Nodup) {Z : ByteArray} (hZ : Z.size ≤ 140737488355328) {a : Nat} {x : Int} {L' : List Tm} (hx : setR L2 Z.data.toList a = (x, L')) :
    Calls Try.prog 18 #[.pointer (some ⟨r, 0, none⟩), .string Z, .int .u64 (a : Int)] w fun e w' => e = .returned (.int .i64 x) ∧ Both b t r N B d L1 L' w0 w' := by
  obtain ⟨⟨F, v, q, p, dis, lo, z⟩, hblk⟩ := h
  have hzl : Z.data.toList.length = Z.size := Array.length_toList
  unfold setR at hx
  by_cases h1 : Z.data.toList.length = 0 ∨ 64 < Z.data.toList.length
  · rw [if_pos h1] at hx; cases hx
    rcases h1 with h1 | h1
    · obtain rfl := empty_bytes h1
      exact (rset_none r a w).mono fun e w' ⟨he, hw⟩ => ⟨he, by subst hw; exact ⟨⟨F, v, q, p, dis, lo, z⟩, hblk⟩⟩
    · exact (rset_long r Z a w (by omega) hZ).mono fun e w' ⟨he, hw⟩ => ⟨he, by subst hw; exact ⟨⟨F, v, q, p, dis, lo, z⟩, hblk⟩⟩
  · rw [if_neg h1] at hx
    by_cases h2 : L2.length = 1024 ∧ atL L2 Z.data.toList = none
    · rw [if_pos h2] at hx; cases hx
      exact (rset_full b r v L2 Z a w p (by omega) (by omega) h2.1 ((fi_at hn _).2 h2.2)).mono fun e w' ⟨he, hw⟩ => ⟨he, by subst hw; exact ⟨⟨F, v, q, p, dis, lo, z⟩, hblk⟩⟩
    · rw [if_neg h2] at hx; cases hx
      exact (rset_ok b r v L2 Z a a w p (by omega) (by omega) rfl hl hn (fun e hf => h2 ⟨e, (fi_at hn _).1 hf⟩) z).mono fun e w' ⟨v', he, p', k', f'⟩ => ⟨he, both_r hB q p dis lo z hblk p' k' f'⟩
end Go.Proofs.Ytjcocgadhdgbjaa
