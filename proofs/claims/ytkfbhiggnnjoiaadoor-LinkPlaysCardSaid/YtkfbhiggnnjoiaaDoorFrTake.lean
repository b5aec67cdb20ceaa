/- frame: all messages taken off. -/
import Derived.Test.YtkfbhiggnnjoiaaDoorFrLow
namespace Go.Proofs.YtkfbhiggnnjoiaaDoor
open Go.RowKit

theorem below_drewN' {B : Nat} {w : World} (n : Nat) : Below B w (w.drewN n) := by
  induction n generalizing w with
  | zero => exact Below.refl _ _
  | succ n ih => exact ih.drew
abbrev strV (ms : List (List UInt8)) : List Value := ms.map fun m => Value.string ⟨m.toArray⟩
theorem Tryd.infoStr : (Tryd.prog.info? 9).map (fun i => (i.zero, i.size, i.bytes)) = some (some (.string ⟨#[]⟩), 1, 16) := by kernel_rfl
theorem grown_of_below {W W' : World} (h : Below W.heap.size W W') : W.grownBy W' none := ⟨h.os, h.tape, h.output, h.size, fun k hk _ => h.block k hk⟩
theorem below_two {B : Nat} {w : World} (n m : Nat) : Below B w ((w.drewN n).drewN m) := by
  have h : ∀ (n : Nat) (x : World), Below B x (x.drewN n) := by
    intro n
    induction n with
    | zero => exact fun x => Below.refl _ _
    | succ n ih => exact fun x => (ih x).drew
  exact (h n w).trans (h m _)
theorem own_below {w w' : World} {base size n : Nat} {e : TypeId} {v : Value} {xs : List Value} (h : w.ownsRow base e size v n xs) (hb : Below w.heap.size w w') : w'.ownsRow base e size v n xs := by
  refine h.kept (grown_of_below hb) ?_
  cases hv : v.ownBlock with
  | none => exact Or.inl rfl
  | some k => exact Or.inr (by simp)
theorem BytesAt.below {w w' : World} {a : Option Addr} {l : List UInt8} (h : BytesAt w a l) (hb : Below w.heap.size w w') : BytesAt w' a l := by
  intro j x hx
  obtain ⟨g, o, e, hc⟩ := h j x hx
  exact ⟨g, o, e, (hb.cell (p := ⟨g, o + j, none⟩) (World.block_lt_of_cell? w _ hc)).trans hc⟩
theorem BytesAt.nil (w : World) (a : Option Addr) : BytesAt w a [] := fun j x h => by simp at h
/-- What takeAll answers. -/
def ErV (b : Addr) (r : Option Nat) : Value := match r with | none => shortV b | some n => badV n
def TaPost (b : Addr) (L : List UInt8) (av : Value) (w : World) (e : Ending) (w' : World) : Prop :=
  ∃ v rv, ∃ k : Nat, e = .returned (.tuple #[v, rv, .iface 93 (.agg #[.int .i64 (k : Int), ErV b (feedL L).bad])]) ∧
    w'.ownsRow w.heap.size 9 1 v (feedL L).ms.length (strV (feedL L).ms) ∧
    (∃ a n c, rv = .slice a n c ∧ (feedL L).rest.length = n ∧ n ≤ c ∧ c ≤ maxLen ∧ BytesAt w' a (feedL L).rest) ∧ ((feedL L).ms = [] → rv = av) ∧ Below w.heap.size w w'

theorem str_more {W : World} {base : Nat} {e : TypeId} {v : Value} {n : Nat} {ms : List (List UInt8)} {m : List UInt8} (h : W.ownsRow base e 1 v (n + 1) (strV ms ++ [.string ⟨m.toArray⟩])) (hn : n = ms.length) :
    W.ownsRow base e 1 v (ms ++ [m]).length (strV (ms ++ [m])) := by
  subst hn
  have : strV (ms ++ [m]) = strV ms ++ [.string ⟨m.toArray⟩] := by simp [strV]
  rw [this, List.length_append, List.length_singleton]; exact h

set_option maxRecDepth 100000 in
theorem takeAll_nil (b : Addr) (w : World) (hg : Gs b w) :
    Calls Tryd.prog 44 #[.slice none 0 0] w (TaPost b [] (.slice none 0 0) w) := by
  go_enter Tryd.func44, Tryd.ntmps44
  go_wp2_with fail
  refine wp_loop_rounds 1 ?_
  rw [rounds_succ]
  go_wp2_with fail
  refine (take_short none 0 0 [] b w rfl (Nat.le_refl _) (by decide) (BytesAt.nil _ _) hg takeOf_nil).mono ?_
  rintro e w' ⟨rfl, n, rfl⟩
  unfold shortV
  go_wp2
  go_quiet (fail)
  go_wp2
  go_ret3
  exact ⟨_, _, 0, rfl, World.ownsRow_nil _ _ _ _, ⟨none, 0, 0, rfl, rfl, Nat.le_refl _, by decide, BytesAt.nil _ _⟩, fun _ => rfl, below_two _ _⟩

/-- Where the walk of the texts has come. -/
structure At (L : List UInt8) (k : Nat) (ms : List (List UInt8)) : Prop where
  le : k ≤ L.length
  eq : feedL L = ⟨ms ++ (feedL (L.drop k)).ms, (feedL (L.drop k)).rest, (feedL (L.drop k)).bad⟩
  none : ms = [] → k = 0
theorem At.start (L : List UInt8) : At L 0 [] := ⟨Nat.zero_le _, by simp, fun _ => rfl⟩
theorem At.more {L : List UInt8} {k : Nat} {ms : List (List UInt8)} {m : List UInt8} (h : At L k ms) (ht : takeOf (L.drop k) = .msg m) : At L (k + (4 + m.length)) (ms ++ [m]) := by
  have h1 := takeOf_msg ht
  rw [List.length_drop] at h1
  have hk := h.le
  have he := h.eq
  refine ⟨by omega, ?_, fun e => by simp at e⟩
  rw [feedL_msg ht, List.drop_drop] at he
  rw [he]
  simp
theorem At.short {L : List UInt8} {k : Nat} {ms : List (List UInt8)} (h : At L k ms) (ht : takeOf (L.drop k) = .short) : feedL L = ⟨ms, L.drop k, Option.none⟩ := by
  rw [h.eq, feedL_short ht]; simp
theorem At.bad {L : List UInt8} {k n : Nat} {ms : List (List UInt8)} (h : At L k ms) (ht : takeOf (L.drop k) = .bad n) : feedL L = ⟨ms, L.drop k, some n⟩ := by
  rw [h.eq, feedL_bad ht]; simp
theorem At.len {L : List UInt8} {k : Nat} {ms : List (List UInt8)} (h : At L k ms) : ms.length ≤ (feedL L).ms.length := by
  rw [h.eq]; simp
theorem At.len1 {L m : List UInt8} {k : Nat} {ms : List (List UInt8)} (h : At L k ms) (ht : takeOf (L.drop k) = .msg m) : ms.length + 1 ≤ (feedL L).ms.length := by
  have := (h.more ht).len; simpa using this
theorem At.first {L m : List UInt8} {k : Nat} {ms : List (List UInt8)} (_h : At L k ms) (ht : takeOf (L.drop k) = .msg m) : k < L.length ∧ m.length ≤ 65536 ∧ k + (4 + m.length) ≤ L.length := by
  have := takeOf_msg ht
  rw [List.length_drop] at this
  omega

theorem TaPost.mk {b : Addr} {L : List UInt8} {w w' : World} {g o m c k : Nat} {v rv : Value} {ms : List (List UInt8)} {r : Option Nat} {e : Ending} (he : e = .returned (.tuple #[v, rv, .iface 93 (.agg #[.int .i64 (k : Int), ErV b r])]))
    (hf : feedL L = ⟨ms, L.drop k, r⟩) (hm : L.length = m) (hc : m ≤ c) (hc2 : c ≤ maxLen) (hat : At L k ms) (hown : w'.ownsRow w.heap.size 9 1 v ms.length (strV ms)) (hl : BytesAt w (some ⟨g, o, none⟩) L) (hb : Below w.heap.size w w')
    (hrv : rv = if k = c then .slice (some ⟨g, o, none⟩) 0 0 else .slice (some ⟨g, o + k, none⟩) (m - k) (c - k)) : TaPost b L (.slice (some ⟨g, o, none⟩) m c) w e w' := by
  have hle := hat.le
  refine ⟨v, rv, k, by rw [hf]; exact he, by rw [hf]; exact hown, ?_, ?_, hb⟩
  · rw [hf]
    by_cases hk : k = c
    · rw [if_pos hk] at hrv
      have : L.drop k = [] := List.drop_eq_nil_of_le (by omega)
      refine ⟨_, _, _, hrv, by rw [this]; rfl, Nat.le_refl _, by decide, by rw [this]; exact BytesAt.nil _ _⟩
    · rw [if_neg hk] at hrv
      exact ⟨_, _, _, hrv, by rw [List.length_drop, hm], by omega, by omega, (hl.below hb).drop k⟩
  · rw [hf]
    intro e
    have hk := hat.none e
    subst hk
    rw [hrv]
    by_cases h0 : 0 = c
    · have : m = 0 := by omega
      subst this; subst h0; rfl
    · rw [if_neg h0]; rfl

set_option maxRecDepth 100000 in
set_option maxHeartbeats 1000000 in
theorem takeAll_some (g o m c : Nat) (L : List UInt8) (b : Addr) (w : World) (hm : L.length = m) (hc : m ≤ c) (hc2 : c ≤ maxLen) (hl : BytesAt w (some ⟨g, o, none⟩) L) (hg : Gs b w) (hmany : (feedL L).ms.length ≤ 1099511627776) :
    Calls Tryd.prog 44 #[.slice (some ⟨g, o, none⟩) m c] w (TaPost b L (.slice (some ⟨g, o, none⟩) m c) w) := by
  have HC2 := Lib.hid hc2
  unfold maxLen at hc2
  have HM := Lib.hid hm; clear hm
  obtain ⟨i0, hi, hz0, hz1, hz2⟩ := info_parts Tryd.infoStr
  go_enter Tryd.func44, Tryd.ntmps44
  go_wp2_with fail
  go_loopw [5, 6] (fun v i wr => ∃ (k : Nat) (ms : List (List UInt8)), At L k ms ∧ k ≤ m ∧ i = .int .i64 k ∧ wr.ownsRow w.heap.size 9 1 v ms.length (strV ms) ∧ Below w.heap.size w wr) (fun _ i _ => m - (intOf i).toNat)
  case atStart => exact ⟨0, [], At.start L, Nat.zero_le _, rfl, World.ownsRow_nil _ _ _ _, Below.refl _ _⟩
  case round =>
    obtain ⟨k, ms, hat, hk, rfl, hown, hb⟩ := hrel
    have hbs := hb.size
    have hlw := hl.below hb
    have hgw := hg.below hb
    have HAT := Lib.hid hat; clear hat
    cases ht : takeOf (L.drop k) with
    | short =>
      have HF := Lib.hid (HAT.out.short ht)
      have HT := Lib.hid ht; clear ht
      by_cases hkc : k = c
      · have hkm : k = m := by omega
        subst hkc
        subst hkm
        have hnil : L.drop k = [] := List.drop_eq_nil_of_le (by have := HM.out; omega)
        go_wp2_with fail
        refine (take_short _ 0 0 [] b _ rfl (Nat.le_refl _) (by decide) (BytesAt.nil _ _) hgw takeOf_nil).mono ?_
        rintro e w' ⟨rfl, n, rfl⟩
        unfold shortV
        go_wp2
        go_quiet (fail)
        go_wp2
        go_ret3
        refine TaPost.mk (r := none) rfl HF.out HM.out hc HC2.out HAT.out (own_below hown (below_two _ _)) hl (hb.trans (below_two _ _)) ?_
        rw [if_pos rfl]; rfl
      · have hkc' : k < c := by omega
        go_wp2_with fail
        refine (take_short _ (m - k) (c - k) (L.drop k) b _ (by rw [List.length_drop, HM.out]) (by omega) (by have := HC2.out; omega) (hlw.drop k) hgw HT.out).mono ?_
        rintro e w' ⟨rfl, n, rfl⟩
        unfold shortV
        go_wp2
        go_quiet (fail)
        go_wp2
        go_ret3
        refine TaPost.mk (r := none) rfl HF.out HM.out hc HC2.out HAT.out (own_below hown (below_two _ _)) hl (hb.trans (below_two _ _)) ?_
        rw [if_neg hkc]; rfl
    | bad n =>
      have HF := Lib.hid (HAT.out.bad ht)
      have hkl : k + 4 ≤ m := by
        have := (takeOf_bad ht).1
        rw [List.length_drop] at this
        have := HM.out
        omega
      have HT := Lib.hid ht; clear ht
      have hkc' : k < c := by omega
      have hkc : k ≠ c := by omega
      go_wp2_with fail
      refine (take_bad _ (m - k) (c - k) n (L.drop k) _ (by rw [List.length_drop, HM.out]) (by omega) (by have := HC2.out; omega) (hlw.drop k) HT.out).mono ?_
      rintro e w' ⟨rfl, rfl⟩
      unfold badV
      go_wp2
      go_quiet (fail)
      go_wp2
      go_ret3
      refine TaPost.mk (r := some n) rfl HF.out HM.out hc HC2.out HAT.out (own_below hown (below_drewN' _)) hl (hb.trans (below_drewN' _)) ?_
      rw [if_neg hkc]; rfl
    | msg s =>
      have HF := Lib.hid (HAT.out.more ht)
      obtain ⟨f1, f2, f3⟩ := HAT.out.first ht
      rw [HM.out] at f1 f3
      have f4 := HAT.out.len1 ht
      have HT := Lib.hid ht; clear ht
      have hkc' : k < c := by omega
      obtain ⟨N, hN⟩ : ∃ N, s.length = N := ⟨_, rfl⟩
      have hS : (⟨s.toArray⟩ : ByteArray).size = N := by rw [← hN]; rfl
      rw [hN] at f2 f3
      have HN := Lib.hid hN; clear hN
      go_wp2_with fail
      refine (take_msg _ (m - k) (c - k) (L.drop k) s _ (by rw [List.length_drop, HM.out]) (by omega) (by have := HC2.out; omega) (hlw.drop k) HT.out).mono ?_
      rintro e w' ⟨rfl, rfl⟩
      go_wp2_with (at_builtin; go_must (refine wpList_append_own _ rfl _ _ 33 rfl w.heap.size 9 i0 (.string ⟨#[]⟩) 1 16 Tryd.underlying33 hi hz0 hz1 hz2 rfl (by decide) _ _ _ rfl (hown.alloc _) ⟨wr.heap.size, 0, none⟩ 1 1 [.string ⟨s.toArray⟩] rfl rfl (cell_one_new _ _ _) (by simp [Value.oneCell']) (by unfold maxLen; omega) (by omega) (by simp; omega) ?_; intro v' w1 hown1 hgrow _))
      have hb1 : Below w.heap.size w w1 := (hb.alloc hbs _).grown hgrow (by simp; omega) (fun r e => (hown.lt r e).1)
      go_roundw
      case rel =>
        refine ⟨k + (4 + s.length), ms ++ [s], HF.out, by have := HN.out; omega, ?_, str_more hown1 rfl, hb1⟩
        rw [HN.out]; go_num
      case measure => simp [intOf]; omega
end Go.Proofs.YtkfbhiggnnjoiaaDoor
