/- merge: tally.turned. -/
import Derived.Test.YtkjfafnnnkjoeaaGreatDoorMgCopy
namespace Go.Proofs.YtkjfafnnnkjoeaaGreatDoor
open Go.RowKit Go.Lib

/-- A tally on the way: of these one more, of those one less. -/
def tlN (T : List UInt8 → Nat) (ps qs : List (List UInt8)) (x : List UInt8) : Nat := T x + (if x ∈ ps then 1 else 0) - (if x ∈ qs then 1 else 0)
theorem tlN_zero (T : List UInt8 → Nat) (x : List UInt8) : tlN T [] [] x = T x := by simp [tlN]
theorem tlN_more {T : List UInt8 → Nat} {L : List (List UInt8)} (hL : L.Nodup) {k : Nat} (hk : k < L.length) (x : List UInt8) :
    tlN T (L.take (k + 1)) [] x = if x = L[k] then tlN T (L.take k) [] x + 1 else tlN T (L.take k) [] x := by
  have hn : L[k] ∉ L.take k := by
    intro h
    obtain ⟨i, hi, e⟩ := List.getElem_of_mem h
    rw [List.length_take] at hi
    rw [List.getElem_take] at e
    have := (List.getElem_inj (h₀ := by omega) (h₁ := hk) hL).1 e
    omega
  unfold tlN
  have hm : ∀ x, x ∈ L.take (k + 1) ↔ x ∈ L.take k ∨ x = L[k] := fun x => by rw [List.take_succ_eq_append_getElem hk, List.mem_append, List.mem_singleton]
  simp only [hm]
  by_cases e : x = L[k]
  · subst e
    simp [hn]
  · simp [e]
theorem tlN_less {T : List UInt8 → Nat} {P L : List (List UInt8)} (hL : L.Nodup) (hT : ∀ x ∈ L, 0 < T x) {k : Nat} (hk : k < L.length) (x : List UInt8) :
    tlN T P (L.take (k + 1)) x = (if x = L[k] then tlN T P (L.take k) x - 1 else tlN T P (L.take k) x) ∧ 0 < tlN T P (L.take k) L[k] := by
  have hn : L[k] ∉ L.take k := by
    intro h
    obtain ⟨i, hi, e⟩ := List.getElem_of_mem h
    rw [List.length_take] at hi
    rw [List.getElem_take] at e
    have := (List.getElem_inj (h₀ := by omega) (h₁ := hk) hL).1 e
    omega
  have h0 := hT L[k] (List.getElem_mem hk)
  unfold tlN
  have hm : ∀ x, x ∈ L.take (k + 1) ↔ x ∈ L.take k ∨ x = L[k] := fun x => by rw [List.take_succ_eq_append_getElem hk, List.mem_append, List.mem_singleton]
  simp only [hm]
  refine ⟨?_, by simp [hn]; omega⟩
  by_cases e : x = L[k]
  · subst e
    simp [hn]
  · simp [e]
theorem tlV_up {T T' : List UInt8 → Nat} {s : List UInt8} (h : ∀ x, T' x = if x = s then T x + 1 else T x) (x : List UInt8) : kset (tlV T) s (.int .i64 ((T s : Int) + 1)) x = tlV T' x := by
  unfold tlV
  by_cases e : x = s
  · subst e
    rw [kset_same, h x, if_pos rfl, if_neg (by omega)]
    rfl
  · rw [kset_other e, h x, if_neg e]
theorem tlV_down {T T' : List UInt8 → Nat} {s : List UInt8} (h : ∀ x, T' x = if x = s then T x - 1 else T x) (hs : 1 < T s) (x : List UInt8) : kset (tlV T) s (.int .i64 ((T s : Int) - 1)) x = tlV T' x := by
  unfold tlV
  by_cases e : x = s
  · subst e
    rw [kset_same, h x, if_pos rfl, if_neg (by omega)]
    congr 2
    omega
  · rw [kset_other e, h x, if_neg e]
theorem tlV_gone {T T' : List UInt8 → Nat} {s : List UInt8} (h : ∀ x, T' x = if x = s then T x - 1 else T x) (hs : T s = 1) (v : Value) (x : List UInt8) : kdel (kset (tlV T) s v) s x = tlV T' x := by
  unfold tlV
  by_cases e : x = s
  · subst e
    rw [kdel_same, h x, if_pos rfl, if_pos (by omega)]
  · rw [kdel_other e, kset_other e, h x, if_neg e]
theorem tlV_get {T : List UInt8 → Nat} {s : List UInt8} : (tlV T s).getD (.int .i64 0) = .int .i64 (T s : Int) := by
  unfold tlV
  split
  · next h => rw [h]; rfl
  · rfl
theorem mg_zeroI (w : World) : (zeroValue 3).run Tryz.prog w = .ok (.int .i64 0) w := by kernel_rfl
/-- The map under way, in its box; both sets in theirs. -/
structure TuS (w0 : World) (ob : Nat) (b1 b2 : Nat) (sa : Bool) (v1 : Value) (ta : Bool) (v2 : Value) (T : List UInt8 → Nat) (w : World) : Prop where
  m : SMap w ob (tlV T)
  q1 : Blk w b1 #[.bool sa, v1] 41
  q2 : Blk w b2 #[.bool ta, v2] 41
  b : Below w0.heap.size w0 w
  o : w0.heap.size ≤ ob
theorem TuS.later {w0 : World} {ob b1 b2 : Nat} {sa ta : Bool} {v1 v2 : Value} {T : List UInt8 → Nat} {w w' : World} (h : TuS w0 ob b1 b2 sa v1 ta v2 T w) (hb : Below w.heap.size w w') : TuS w0 ob b1 b2 sa v1 ta v2 T w' :=
  ⟨h.m.below hb h.m.lt, h.q1.later hb, h.q2.later hb, h.b.trans (hb.mono h.b.size), h.o⟩
theorem map_blk {w : World} {B m : Nat} {c : Array Value} {t : TypeId} {C : List UInt8 → Option Value} (h : Blk w B c t) (hm : SMap w m C) : some B ≠ some m := by
  intro e
  obtain rfl := Option.some.inj e
  obtain ⟨es, clock, hb, _⟩ := hm
  rw [show w.heap[B]? = _ from h] at hb
  cases hb
theorem map_row {w : World} {m b off : Nat} {u : Value} {C : List UInt8 → Option Value} (h : w.cell? ⟨b, off, none⟩ = some u) (hm : SMap w m C) : some b ≠ some m := by
  intro e
  obtain rfl := Option.some.inj e
  obtain ⟨es, clock, hb, _⟩ := hm
  simp [World.cell?, hb] at h
theorem ts_kept {w w' : World} {v : Value} {l : List (List UInt8)} {m : Nat} {C : List UInt8 → Option Value} (h : TsAt w v l) (hm : SMap w m C) (hg : w.grownBy w' (some m)) : TsAt w' v l := by
  obtain ⟨a, c, e, h1, h2, h3⟩ := h
  refine ⟨a, c, e, h1, h2, fun j u hj => ?_⟩
  obtain ⟨b, off, e', hl, hc⟩ := h3 j u hj
  exact ⟨b, off, e', Nat.lt_of_lt_of_le hl hg.size, (World.cell?_of_block (a := ⟨b, off + j, none⟩) (hg.block b hl (map_row hc hm))).trans hc⟩
theorem TuS.turn {w0 : World} {ob b1 b2 : Nat} {sa ta : Bool} {v1 v2 : Value} {T T' : List UInt8 → Nat} {w w' : World} {C : List UInt8 → Option Value} (h : TuS w0 ob b1 b2 sa v1 ta v2 T w) (hm : SMap w' ob C) (hg : w.grownBy w' (some ob)) (hC : ∀ x, C x = tlV T' x) : TuS w0 ob b1 b2 sa v1 ta v2 T' w' :=
  ⟨hm.ext hC, h.q1.kept hg (map_blk h.q1 h.m), h.q2.kept hg (map_blk h.q2 h.m), h.b.grown hg h.b.size (fun j hj => by obtain rfl := Option.some.inj hj; exact h.o), h.o⟩
set_option maxRecDepth 100000 in
set_option maxHeartbeats 8000000 in
theorem turned_any {v : Value} {T : List UInt8 → Nat} {sa ta : Bool} {sl tl : List (List UInt8)} {a1 a2 : Option Addr} {c1 c2 : Nat} {w : World} (h : Tally w v T) (hs : TsAt w (.slice a1 sl.length c1) sl) (ht : TsAt w (.slice a2 tl.length c2) tl)
    (hns : NsR ⟨sa, sl⟩) (hnt : NsR ⟨ta, tl⟩) (hsl : (nList ⟨sa, sl⟩).length ≤ 1000) (htl : (nList ⟨ta, tl⟩).length ≤ 1000) (hz : ∀ x, T x ≤ 1000) (hin : ∀ x ∈ nList ⟨sa, sl⟩, 0 < T x) (hxs : ∀ x ∈ sl, x.length ≤ 1000) (hxt : ∀ x ∈ tl, x.length ≤ 1000) :
    Calls Tryz.prog 48 #[v, .agg #[.bool sa, .slice a1 sl.length c1], .agg #[.bool ta, .slice a2 tl.length c2]] w fun e w' => ∃ tb, e = .returned (.map (some tb)) ∧ w.heap.size ≤ tb ∧ SMap w' tb (tlV (tlN T (nList ⟨ta, tl⟩) (nList ⟨sa, sl⟩))) ∧ Below w.heap.size w w' := by
  obtain ⟨n1, hn1⟩ : ∃ n, sl.length = n := ⟨_, rfl⟩
  obtain ⟨n2, hn2⟩ : ∃ n, tl.length = n := ⟨_, rfl⟩
  rw [hn1] at hs ⊢
  rw [hn2] at ht ⊢
  obtain ⟨w1, hw1, hb1, q1⟩ := alloc_new w #[.bool sa, .slice a1 n1 c1] 41
  obtain ⟨w2, hw2, hb2, q2⟩ := alloc_new w1 #[.bool ta, .slice a2 n2 c2] 41
  have hb12 := hb1.trans (hb2.mono hb1.size)
  obtain ⟨w3, hw3⟩ : ∃ w3, w2.alloc (.map #[] 0) = w3 := ⟨_, rfl⟩
  have hb3 : Below w2.heap.size w2 w3 := by rw [← hw3]; exact (Below.refl _ _).alloc (Nat.le_refl _) _
  have hm3 : SMap w3 w2.heap.size (fun _ => none) := by rw [← hw3]; exact kmap_new _ _ _
  have hmm := @run_makeMap Tryz.prog
  have HTA := Lib.hid ((h.later hb12).later hb3)
  have HTL := Lib.hid (h.later hb12)
  have HP := Lib.hid (copy_any ((h.later hb12).later hb3) hm3 (fun tb e => by
    rcases h.later hb12 with ⟨e', _⟩ | ⟨tb', C, e', hm, _⟩
    · rw [e'] at e; cases e
    · rw [e'] at e; cases e; have := hm.lt; omega))
  have HW := Lib.hid (And.intro hw1 (And.intro hw2 hw3))
  have HSZ := Lib.hid (show w.heap.size + 1 + 1 = w2.heap.size ∧ w.heap.size + 1 = w1.heap.size by rw [← hw2, ← hw1]; simp)
  have HQ := Lib.hid (And.intro ((q1.later hb2).later hb3) (q2.later hb3))
  have HS := Lib.hid (And.intro (((hs.later hb1).later hb2).later hb3) (((ht.later hb1).later hb2).later hb3))
  have HB := Lib.hid (And.intro (hb12.trans (hb3.mono hb12.size)) hb12.size)
  have HLEN := Lib.hid (And.intro hn1 hn2)
  have HNS := Lib.hid (And.intro hns hnt)
  have HLL := Lib.hid (And.intro hsl htl)
  have HZ := Lib.hid (And.intro hz (And.intro hin (And.intro hxs hxt)))
  have HM3 := Lib.hid hm3
  clear hw1 hw2 hw3 hb1 hb2 hb3 hb12 hm3 q1 q2 h hs ht hns hnt hsl htl hz hin hxs hxt hn1 hn2
  go_enter Tryz.func48, Tryz.ntmps48
  go_wp2_with fail
  rw [HW.out.1, HW.out.2.1, HW.out.2.2, HSZ.out.1, HSZ.out.2]
  refine HP.out.mono ?_
  rintro e w4 ⟨rfl, hm4, hg4⟩
  have HTU := Lib.hid (show TuS w w2.heap.size w.heap.size w1.heap.size sa (.slice a1 n1 c1) ta (.slice a2 n2 c2) T w4 from
    ⟨hm4, HQ.out.1.kept hg4 (map_blk HQ.out.1 HM3.out), HQ.out.2.kept hg4 (map_blk HQ.out.2 HM3.out), HB.out.1.grown hg4 HB.out.1.size (fun j hj => by obtain rfl := Option.some.inj hj; exact HB.out.2), HB.out.2⟩)
  have HS := Lib.hid (And.intro (ts_kept HS.out.1 HM3.out hg4) (ts_kept HS.out.2 HM3.out hg4))
  clear hm4 hg4 HP HTA HTL HM3 HQ HB HW
  have z0 : w4.cell? ⟨w1.heap.size, 0, none⟩ = some (.bool ta) := HTU.out.q2.cell 0
  have z1 : w4.cell? ⟨w1.heap.size, 1, none⟩ = some (.slice a2 n2 c2) := HTU.out.q2.cell 1
  have HLI := Lib.hid (list_any (sa := ta) (sl := tl) (a := a2) (c := c2) (L := nList ⟨ta, tl⟩) (w := w4) (by rw [HLEN.out.2]; exact HS.out.2) rfl (by have := HLL.out.2; omega))
  rw [HLEN.out.2] at HLI
  obtain ⟨P, hP⟩ : ∃ P, nList ⟨ta, tl⟩ = P := ⟨_, rfl⟩
  rw [hP] at HLI
  obtain ⟨np, hnp⟩ : ∃ np, P.length = np := ⟨_, rfl⟩
  have HPP := Lib.hid (And.intro hP hnp)
  rw [hnp] at HLI
  clear hP hnp hmm
  go_wp2_with fail
  refine HLI.out.mono ?_
  rintro e w5 ⟨a5, c5, rfl, hrow, hb5⟩
  have HTU := Lib.hid (HTU.out.later hb5)
  have HS := Lib.hid (And.intro (HS.out.1.later hb5) (HS.out.2.later hb5))
  have HR := Lib.hid (show TsAt w5 (.slice a5 np c5) P from RowV.own hrow)
  clear z0 z1 HLI hrow hb5
  have hnp1000 : np ≤ 1000 := by have := HLL.out.2; rw [HPP.out.1, HPP.out.2] at this; exact this
  go_wp2_with fail
  go_loopw [9, 19] (fun _ vi wr => ∃ k : Nat, vi = .int .i64 (k : Int) ∧ k ≤ np ∧ TuS w w2.heap.size w.heap.size w1.heap.size sa (.slice a1 n1 c1) ta (.slice a2 n2 c2) (tlN T (P.take k) []) wr ∧ TsAt wr (.slice a5 np c5) P ∧ TsAt wr (.slice a1 n1 c1) sl) (fun _ vi _ => np - (intOf vi).toNat)
  case atStart => exact ⟨0, rfl, Nat.zero_le _, by rw [show tlN T (P.take 0) [] = T from funext fun x => by simp [tlN]]; exact HTU.out, HR.out, HS.out.1⟩
  case round =>
    clear HTU HR HS
    obtain ⟨k, rfl, hk, htu, hr, hs⟩ := hrel
    by_cases hkn : k < np
    · obtain ⟨x, hx⟩ : ∃ x, P[k]'(by rw [HPP.out.2]; exact hkn) = x := ⟨_, rfl⟩
      have hcx : ∃ b off, a5 = some ⟨b, off, none⟩ ∧ b < wr.heap.size ∧ wr.cell? ⟨b, off + k, none⟩ = some (.string ⟨x.toArray⟩) := by
        obtain ⟨a', c', e', _, _, h3⟩ := hr.out
        injection e' with e1 e2 e3
        subst e1
        obtain ⟨b, off, e, hl, hc⟩ := h3 k (by rw [HPP.out.2]; exact hkn)
        rw [hx] at hc
        exact ⟨b, off, e, hl, hc⟩
      obtain ⟨g, off, rfl, hgl, hc⟩ := hcx
      have hxl : x.length ≤ 1000 := by
        have hmem : x ∈ nList ⟨ta, tl⟩ := by rw [HPP.out.1, ← hx]; exact List.getElem_mem _
        rcases (mem_list _ x).1 hmem with ⟨_, e⟩ | h
        · rw [e]; decide
        · exact HZ.out.2.2.2 x h
      have hok : skOk x := by show x.length ≤ maxLen; unfold maxLen; omega
      have hmore := fun y => tlN_more (T := T) (L := P) (by rw [← HPP.out.1]; exact list_nodup HNS.out.2) (k := k) (by rw [HPP.out.2]; exact hkn) y
      rw [hx] at hmore
      obtain ⟨N, hN⟩ : ∃ N, tlN T (P.take k) [] x = N := ⟨_, rfl⟩
      have hN2 : N ≤ 1001 := by
        rw [← hN]; unfold tlN
        have := HZ.out.1 x
        split <;> split <;> omega
      have hlk := htu.m.lookup (k := 9) (e := 3) (lit := fun s => .string s) (t := 81) (P := Tryz.prog) Tryz.skLaw skKey skV_inj Tryz.underlying81 (mg_zeroI wr) hok false
      simp only [Bool.false_eq_true, if_false] at hlk
      rw [tlV_get, hN] at hlk
      obtain ⟨w6, hup, hm6, hg6⟩ := htu.m.update (k := 9) (e := 3) (lit := fun s => .string s) (t := 81) (P := Tryz.prog) Tryz.skLaw skKey skV_inj Tryz.underlying81 hok (.int .i64 ((N : Int) + 1))
      have b0 : (0 : Int) ≤ (k : Int) := by omega
      have b1 : (k : Int) < (np : Int) := by omega
      have b2 : IntKind.i64.wrap ((k : Int) + 1) = (k : Int) + 1 := by rw [IntKind.wrap_i64]; omega
      have b3 : IntKind.i64.wrap ((N : Int) + 1) = (N : Int) + 1 := by rw [IntKind.wrap_i64]; omega
      have HE := Lib.hid (show TuS w w2.heap.size w.heap.size w1.heap.size sa (.slice a1 n1 c1) ta (.slice a2 n2 c2) (tlN T (P.take (k + 1)) []) w6 ∧ TsAt w6 (.slice (some ⟨g, off, none⟩) np c5) P ∧ TsAt w6 (.slice a1 n1 c1) sl from
        ⟨htu.turn hm6 hg6 (fun y => by rw [← hN]; exact tlV_up hmore y), ts_kept hr htu.m hg6, ts_kept hs htu.m hg6⟩)
      clear hmore hN hN2 hok hxl hm6 hg6 htu hr hs hgl hx
      go_wp2_with fail
      go_roundw
      case rel => exact ⟨k + 1, by go_num, by omega, HE.out.1, HE.out.2.1, HE.out.2.2⟩
      case measure => simp [intOf]; omega
    · obtain rfl : k = np := by omega
      have b1 : ¬ (k : Int) < (k : Int) := by omega
      rw [List.take_of_length_le (by rw [HPP.out.2]; exact Nat.le_refl _)] at htu
      have HTU := Lib.hid htu
      have HS := Lib.hid hs
      clear htu hs hr hk hkn
      have z0 : wr.cell? ⟨w.heap.size, 0, none⟩ = some (.bool sa) := HTU.out.q1.cell 0
      have z1 : wr.cell? ⟨w.heap.size, 1, none⟩ = some (.slice a1 n1 c1) := HTU.out.q1.cell 1
      have HLI := Lib.hid (list_any (sa := sa) (sl := sl) (a := a1) (c := c1) (L := nList ⟨sa, sl⟩) (w := wr) (by rw [HLEN.out.1]; exact HS.out) rfl (by have := HLL.out.1; omega))
      rw [HLEN.out.1] at HLI
      obtain ⟨Q, hQ⟩ : ∃ Q, nList ⟨sa, sl⟩ = Q := ⟨_, rfl⟩
      rw [hQ] at HLI
      obtain ⟨nq, hnq⟩ : ∃ nq, Q.length = nq := ⟨_, rfl⟩
      have HQQ := Lib.hid (And.intro hQ hnq)
      rw [hnq] at HLI
      clear hQ hnq
      go_wp2_with fail
      refine HLI.out.mono ?_
      rintro e w6 ⟨a6, c6, rfl, hrow, hb6⟩
      have HTU := Lib.hid (HTU.out.later hb6)
      have HR := Lib.hid (show TsAt w6 (.slice a6 nq c6) Q from RowV.own hrow)
      clear z0 z1 HLI hrow hb6 HS
      have hnq1000 : nq ≤ 1000 := by have := HLL.out.1; rw [HQQ.out.1, HQQ.out.2] at this; exact this
      go_wp2_with fail
      go_loopw [11, 31] (fun _ vi wr => ∃ k : Nat, vi = .int .i64 (k : Int) ∧ k ≤ nq ∧ TuS w w2.heap.size w.heap.size w1.heap.size sa (.slice a1 n1 c1) ta (.slice a2 n2 c2) (tlN T P (Q.take k)) wr ∧ TsAt wr (.slice a6 nq c6) Q) (fun _ vi _ => nq - (intOf vi).toNat)
      case atStart => exact ⟨0, rfl, Nat.zero_le _, HTU.out, HR.out⟩
      case round =>
        clear HTU HR
        obtain ⟨j, rfl, hj, htu, hr⟩ := hrel
        by_cases hjn : j < nq
        · obtain ⟨x, hx⟩ : ∃ x, Q[j]'(by rw [HQQ.out.2]; exact hjn) = x := ⟨_, rfl⟩
          have hcx : ∃ b off, a6 = some ⟨b, off, none⟩ ∧ b < wr.heap.size ∧ wr.cell? ⟨b, off + j, none⟩ = some (.string ⟨x.toArray⟩) := by
            obtain ⟨a', c', e', _, _, h3⟩ := hr.out
            injection e' with e1 e2 e3
            subst e1
            obtain ⟨b, off, e, hl, hc⟩ := h3 j (by rw [HQQ.out.2]; exact hjn)
            rw [hx] at hc
            exact ⟨b, off, e, hl, hc⟩
          obtain ⟨g, off, rfl, hgl, hc⟩ := hcx
          have hmem : x ∈ nList ⟨sa, sl⟩ := by rw [HQQ.out.1, ← hx]; exact List.getElem_mem _
          have hxl : x.length ≤ 1000 := by
            rcases (mem_list _ x).1 hmem with ⟨_, e⟩ | h
            · rw [e]; decide
            · exact HZ.out.2.2.1 x h
          have hok : skOk x := by show x.length ≤ maxLen; unfold maxLen; omega
          have hless := fun y => tlN_less (T := T) (P := P) (L := Q) (by rw [← HQQ.out.1]; exact list_nodup HNS.out.1) (by rw [← HQQ.out.1]; exact HZ.out.2.1) (k := j) (by rw [HQQ.out.2]; exact hjn) y
          rw [hx] at hless
          have hpos := (hless x).2
          have hless := fun y => (hless y).1
          obtain ⟨N, hN⟩ : ∃ N, tlN T P (Q.take j) x = N := ⟨_, rfl⟩
          rw [hN] at hpos
          have hN2 : N ≤ 1001 := by
            rw [← hN]; unfold tlN
            have := HZ.out.1 x
            split <;> split <;> omega
          have hlk := htu.m.lookup (k := 9) (e := 3) (lit := fun s => .string s) (t := 81) (P := Tryz.prog) Tryz.skLaw skKey skV_inj Tryz.underlying81 (mg_zeroI wr) hok false
          simp only [Bool.false_eq_true, if_false] at hlk
          rw [tlV_get, hN] at hlk
          obtain ⟨w7, hup, hm7, hg7⟩ := htu.m.update (k := 9) (e := 3) (lit := fun s => .string s) (t := 81) (P := Tryz.prog) Tryz.skLaw skKey skV_inj Tryz.underlying81 hok (.int .i64 ((N : Int) - 1))
          have b0 : (0 : Int) ≤ (j : Int) := by omega
          have b1 : (j : Int) < (nq : Int) := by omega
          have b2 : IntKind.i64.wrap ((j : Int) + 1) = (j : Int) + 1 := by rw [IntKind.wrap_i64]; omega
          have b3 : IntKind.i64.wrap ((N : Int) - 1) = (N : Int) - 1 := by rw [IntKind.wrap_i64]; omega
          have hlk7 := hm7.lookup (k := 9) (e := 3) (lit := fun s => .string s) (t := 81) (P := Tryz.prog) Tryz.skLaw skKey skV_inj Tryz.underlying81 (mg_zeroI w7) hok false
          simp only [Bool.false_eq_true, if_false] at hlk7
          rw [kset_same] at hlk7
          simp only [Option.getD_some] at hlk7
          by_cases h1 : N = 1
          · subst h1
            rw [show ((1 : Nat) : Int) - 1 = 0 from rfl] at hlk7 hup b3
            rw [show ((1 : Nat) : Int) = 1 from rfl] at hlk
            have b3 : IntKind.i64.wrap (1 - 1) = 0 := by rw [IntKind.wrap_i64]; decide
            obtain ⟨w8, hdel, hm8, hg8⟩ := hm7.drop (k := 9) (e := 3) (lit := fun s => .string s) (t := 81) (P := Tryz.prog) Tryz.skLaw skKey skV_inj Tryz.underlying81 hok 0
            have hgg := hg7.andThen hg8 (fun i hi => .inr hi)
            have HE := Lib.hid (show TuS w w2.heap.size w.heap.size w1.heap.size sa (.slice a1 n1 c1) ta (.slice a2 n2 c2) (tlN T P (Q.take (j + 1))) w8 ∧ TsAt w8 (.slice (some ⟨g, off, none⟩) nq c6) Q from
              ⟨htu.turn hm8 hgg (fun y => tlV_gone hless hN _ y), ts_kept hr htu.m hgg⟩)
            clear hless hN hN2 hok hxl hm7 hg7 hm8 hg8 hgg htu hr hgl hx hmem hpos
            go_wp2_with fail
            go_roundw
            case rel => exact ⟨j + 1, by go_num, by omega, HE.out.1, HE.out.2⟩
            case measure => simp [intOf]; omega
          · have b4 : ¬ ((N : Int) - 1 = 0) := by omega
            have b5 : (((N : Int) - 1) == 0) = false := beq_eq_false_iff_ne.2 b4
            have HE := Lib.hid (show TuS w w2.heap.size w.heap.size w1.heap.size sa (.slice a1 n1 c1) ta (.slice a2 n2 c2) (tlN T P (Q.take (j + 1))) w7 ∧ TsAt w7 (.slice (some ⟨g, off, none⟩) nq c6) Q from
              ⟨htu.turn hm7 hg7 (fun y => by rw [← hN]; exact tlV_down hless (by rw [hN]; omega) y), ts_kept hr htu.m hg7⟩)
            clear hless hN hN2 hok hxl hm7 hg7 htu hr hgl hx hmem hpos h1
            go_wp2_with fail
            go_roundw
            case rel => exact ⟨j + 1, by go_num, by omega, HE.out.1, HE.out.2⟩
            case measure => simp [intOf]; omega
        · obtain rfl : j = nq := by omega
          have b1 : ¬ (j : Int) < (j : Int) := by omega
          rw [List.take_of_length_le (by rw [HQQ.out.2]; exact Nat.le_refl _), ← HQQ.out.1, ← HPP.out.1] at htu
          have HTU := Lib.hid htu
          clear htu hr hj hjn
          go_wp2_with fail
          go_ret
          exact ⟨_, rfl, HTU.out.o, HTU.out.m, HTU.out.b⟩
end Go.Proofs.YtkjfafnnnkjoeaaGreatDoor
