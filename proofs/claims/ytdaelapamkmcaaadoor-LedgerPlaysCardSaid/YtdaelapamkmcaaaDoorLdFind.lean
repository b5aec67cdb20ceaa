/- ledger: find: where the mark of a version stands. -/
import Derived.Test.YtdaelapamkmcaaaDoorLdAt
import Derived.Deep.RegionHeld3
import Derived.BigQuiet
import Derived.BigGuardPart
namespace Go.Proofs.YtdaelapamkmcaaaDoor
open Go.RowKit

set_option maxRecDepth 100000 in
theorem nan_u64 (x : Int) (w : World) : Calls Tryd.prog 65 #[.int .u64 x] w fun e w' => e = .returned (.bool false) ∧ w = w' := by
  go_enter Tryd.func65, Tryd.ntmps65
  go_wp2
  go_ret
  exact ⟨by simp, rfl⟩
set_option maxRecDepth 100000 in
theorem cmp_u64 (a b : Int) (w : World) : Calls Tryd.prog 39 #[.int .u64 a, .int .u64 b] w fun e w' => e = .returned (.int .i64 (cmpI a b)) ∧ Below w.heap.size w w' := by
  obtain ⟨A, qa⟩ : ∃ A, decide (a < b) = A := ⟨_, rfl⟩
  obtain ⟨B, qb⟩ : ∃ B, decide (b < a) = B := ⟨_, rfl⟩
  have e : cmpI a b = if A then -1 else if B then 1 else 0 := by subst qa; subst qb; simp [cmpI]
  rw [e]
  clear e
  cases A <;> cases B
  all_goals
    go_enter Tryd.func39, Tryd.ntmps39
    go_wp2_with (go_at_call 65; refine (nan_u64 _ _).mono ?_; rintro e w' ⟨rfl, rfl⟩)
    go_ret
    exact ⟨rfl, Below.refl _ _⟩
theorem or_below (x y : Int) (B : Nat) (w : World) (hb : Blk w B #[.int .i64 x, .int .i64 y] 3) :
    Calls Tryd.prog 37 #[.slice (some ⟨B, 0, none⟩) 2 2] w fun e w' => e = .returned (.int .i64 (orV x y)) ∧ Below w.heap.size w w' := by
  refine (or_two x y B 0 2 w (hb.cell 0) (hb.cell 1)).mono ?_
  rintro e w' ⟨rfl, rfl⟩
  exact ⟨rfl, Below.refl _ _⟩

/-- What the closure of find has: the ledger, the key, the version. -/
structure FdBx (bl bk bq l : Nat) (t : Int) (x : ByteArray) (q : Nat) (w : World) : Prop where
  l : Blk w bl #[.pointer (some ⟨l, 0, none⟩)] 24
  k : Blk w bk #[.int .i64 t, .string x] 31
  q : Blk w bq #[.int .u64 (q : Int)] 32
theorem FdBx.later {bl bk bq l q : Nat} {t : Int} {x : ByteArray} {w w' : World} (h : FdBx bl bk bq l t x q w) (hb : Below w.heap.size w w') : FdBx bl bk bq l t x q w' := ⟨h.l.later hb, h.k.later hb, h.q.later hb⟩
/-- The cells that its second region reads. -/
def FdS (bk bq A : Nat) (t : Int) (x : ByteArray) (q : Nat) (m : Mk) (w0 w' : World) : Prop :=
  w'.cell? ⟨bk, 0, none⟩ = some (.int .i64 t) ∧ w'.cell? ⟨bk, 1, none⟩ = some (.string x) ∧ w'.cell? ⟨bq, 0, none⟩ = some (.int .u64 (q : Int)) ∧ w'.cell? ⟨A, 0, none⟩ = some (.int .i64 m.t) ∧ w'.cell? ⟨A, 1, none⟩ = some (.string m.x) ∧ w'.cell? ⟨A, 2, none⟩ = some (.int .u64 (m.q : Int)) ∧ bk < w'.heap.size ∧ bq < w'.heap.size ∧ A < w'.heap.size ∧ Below w0.heap.size w0 w'
theorem FdS.next {bk bq A q : Nat} {t : Int} {x : ByteArray} {m : Mk} {w0 w w' : World} (h : FdS bk bq A t x q m w0 w) (hb : Below w.heap.size w w') : FdS bk bq A t x q m w0 w' := by
  obtain ⟨h0, h1, h2, h3, h4, h5, l1, l2, l3, h6⟩ := h
  exact ⟨(hb.cell (p := ⟨bk, _, none⟩) l1).trans h0, (hb.cell (p := ⟨bk, _, none⟩) l1).trans h1, (hb.cell (p := ⟨bq, _, none⟩) l2).trans h2, (hb.cell (p := ⟨A, _, none⟩) l3).trans h3, (hb.cell (p := ⟨A, _, none⟩) l3).trans h4, (hb.cell (p := ⟨A, _, none⟩) l3).trans h5, Nat.lt_of_lt_of_le l1 hb.size, Nat.lt_of_lt_of_le l2 hb.size, Nat.lt_of_lt_of_le l3 hb.size, h6.trans (hb.mono h6.size)⟩
set_option maxRecDepth 100000 in
set_option maxHeartbeats 2000000 in
theorem find1_any (bl bk bq l i c : Nat) (a : Option Addr) (t : Int) (x : ByteArray) (q : Nat) (ms : List Mk) (m : Mk) (w : World) (hx : FdBx bl bk bq l t x q w) (hr : RdL l a c ms w) (hm : ms[i]? = some m) :
    Calls Tryd.prog 36 #[.int .i64 (i : Int), .pointer (some ⟨bl, 0, none⟩), .pointer (some ⟨bk, 0, none⟩), .pointer (some ⟨bq, 0, none⟩)] w fun e w' => e = .returned (.int .i64 (ordM t x q m)) ∧ Below w.heap.size w w' := by
  have hlt := (List.getElem?_eq_some_iff.1 hm).1
  obtain ⟨L, hL⟩ : ∃ L, ms.length = L := ⟨_, rfl⟩
  obtain ⟨g, off, rfl, hgl, p0, p1, p2, p3, p4⟩ := hr.at' i m hm
  have b0 : (0 : Int) ≤ (i : Int) := by omega
  have b1 : (i : Int) < (L : Int) := by omega
  have k0 : w.cell? ⟨bl, 0, none⟩ = some (.pointer (some ⟨l, 0, none⟩)) := hx.l.cell 0
  have k1 : w.cell? ⟨l, 0, none⟩ = some (.slice (some ⟨g, off, none⟩) L c) := by rw [← hL]; exact hr.blk.cell 0
  obtain ⟨u, y, r, s, d⟩ := m
  obtain ⟨w1, hw1⟩ : ∃ w1, w.alloc (.cells #[.int .i64 u, .string y, .int .u64 (r : Int), .int .i64 s, .string d] 49) = w1 := ⟨_, rfl⟩
  have hb1 : Below w.heap.size w w1 := by rw [← hw1]; exact (Below.refl _ _).alloc (Nat.le_refl _) _
  have hq1 : Blk w1 w.heap.size #[.int .i64 u, .string y, .int .u64 (r : Int), .int .i64 s, .string d] 49 := by rw [← hw1]; exact Blk.new _ _ _
  have hx1 := hx.later hb1
  have ST : FdS bk bq w.heap.size t x q ⟨u, y, r, s, d⟩ w1 w1.drew := ⟨hx1.k.cell 0, hx1.k.cell 1, hx1.q.cell 0, hq1.cell 0, hq1.cell 1, hq1.cell 2, hx1.k.lt, hx1.q.lt, hq1.lt, (Below.refl _ _).drew⟩
  have HW1 := Lib.hid hw1
  have HB1 := Lib.hid hb1
  clear hw1 hb1 hq1 hx1 hx hr hL hlt
  go_enter Tryd.func36, Tryd.ntmps36
  go_wp2_with fail
  rw [HW1.out]
  go_region_held3 (fun w' => w'.cell? ⟨bk, 0, none⟩ = some (.int .i64 t) ∧ w'.cell? ⟨bk, 1, none⟩ = some (.string x) ∧ w'.cell? ⟨bq, 0, none⟩ = some (.int .u64 (q : Int)) ∧ w'.cell? ⟨w.heap.size, 0, none⟩ = some (.int .i64 u) ∧ w'.cell? ⟨w.heap.size, 1, none⟩ = some (.string y) ∧ w'.cell? ⟨w.heap.size, 2, none⟩ = some (.int .u64 (r : Int)) ∧ bk < w'.heap.size ∧ bq < w'.heap.size ∧ w.heap.size < w'.heap.size ∧ Below w1.heap.size w1 w') (first | exact ST | exact FdS.next (m := ⟨u, y, r, s, d⟩) (by assumption) (by assumption) | exact FdS.next (m := ⟨u, y, r, s, d⟩) (by assumption) ((Below.refl _ _).alloc (Nat.le_refl _) _) | go_keep) ((first | (go_at_call 38; refine (order_any _ _ _ _ _).mono ?_; rintro e wC ⟨rfl, hbC⟩) | (go_at_call 39; refine (cmp_u64 _ _ _).mono ?_; rintro e wI ⟨rfl, hbI⟩) | (go_at_call 37; refine (or_below _ _ _ _ (Blk.new _ _ _)).mono ?_; rintro e wO ⟨rfl, hbO⟩)))
  all_goals
    rename_i hH
    go_wp2_with fail
    go_ret
    exact ⟨rfl, HB1.out.trans (hH.2.2.2.2.2.2.2.2.2.mono HB1.out.size)⟩

set_option maxRecDepth 100000 in
set_option maxHeartbeats 2000000 in
theorem sortFind_any (n p : Nat) (cc : Nat → Int) (bl bk bq : Addr) (w : World) (hn : n ≤ 1099511627776) (hp : p ≤ n) (hlo : ∀ h, h < p → 0 < cc h) (hhi : ∀ h, p ≤ h → h < n → cc h ≤ 0)
    (hcl : ∀ i, i < n → ∀ W, Below w.heap.size w W → Calls Tryd.prog 36 #[.int .i64 (i : Int), .pointer (some bl), .pointer (some bk), .pointer (some bq)] W fun e w' => e = .returned (.int .i64 (cc i)) ∧ Below W.heap.size W w') :
    Calls Tryd.prog 35 #[.int .i64 (n : Int), .func (.func 36) #[] #[.pointer (some bl), .pointer (some bk), .pointer (some bq)]] w fun e w' => e = .returned (.tuple #[.int .i64 (p : Int), .bool (decide (p < n) && (cc p == 0))]) ∧ Below w.heap.size w w' := by
  obtain ⟨B, hB⟩ : ∃ B, (decide (p < n) && (cc p == 0)) = B := ⟨_, rfl⟩
  rw [hB]
  have HBB := Lib.hid hB
  clear hB
  have HC := Lib.hid hcl
  have HLO := Lib.hid hlo
  have HHI := Lib.hid hhi
  clear hcl hlo hhi
  go_enter Tryd.func35, Tryd.ntmps35
  go_wp2_with fail
  go_loopw [4, 6] (fun vi vj wx => ∃ i j : Nat, vi = .int .i64 (i : Int) ∧ vj = .int .i64 (j : Int) ∧ i ≤ p ∧ p ≤ j ∧ j ≤ n ∧ Below w.heap.size w wx) (fun vi vj _ => ((intOf vj) - (intOf vi)).toNat)
  case atStart => exact ⟨0, n, rfl, rfl, Nat.zero_le _, hp, Nat.le_refl _, Below.refl _ _⟩
  case round =>
    obtain ⟨i, j, rfl, rfl, hi, hj, hjn, hb⟩ := hrel
    by_cases hlt : i < j
    · have b1 : (i : Int) < (j : Int) := by omega
      have b2 : IntKind.i64.wrap ((i : Int) + (j : Int)) = ((i + j : Nat) : Int) := by rw [IntKind.wrap_i64]; omega
      obtain ⟨h, hh⟩ : ∃ h, (i + j) / 2 = h := ⟨_, rfl⟩
      have e2 : ((i : Int) + (j : Int)) / 2 = (h : Int) := by omega
      have hih : i ≤ h := by omega
      have hhj : h < j := by omega
      have HCh := Lib.hid (HC.out h (by omega) wr hb)
      have hL := HLO.out h
      have hH := HHI.out h
      go_wp2_with fail
      refine HCh.out.mono ?_
      rintro e w1 ⟨rfl, hb1⟩
      have hb2 := hb.trans (hb1.mono hb.size)
      have HB2 := Lib.hid hb2
      clear hb hb1 hb2 HCh e2 hh
      generalize cc h = C at hL hH ⊢
      by_cases hc : h < p
      · have hC : (0 : Int) < C := hL hc
        clear hL hH
        go_wp2_with fail
        go_roundw
        case rel => exact ⟨h + 1, j, by go_num, rfl, by omega, by omega, by omega, HB2.out⟩
        case measure => simp [intOf]; omega
      · have hC : ¬ (0 : Int) < C := by have := hH (by omega) (by omega); omega
        clear hL hH
        go_wp2_with fail
        go_roundw
        case rel => exact ⟨i, h, rfl, rfl, by omega, by omega, by omega, HB2.out⟩
        case measure => simp [intOf]; omega
    · obtain rfl : i = p := by omega
      obtain rfl : j = i := by omega
      by_cases hpn : j < n
      · have HCh := Lib.hid (HC.out j hpn wr hb)
        have b1 : (j : Int) < (n : Int) := by omega
        have hB := HBB.out
        rw [decide_eq_true hpn, Bool.true_and] at hB
        generalize cc j = C at HCh hB
        have HB2 := Lib.hid hb
        have HB0 := Lib.hid hB
        clear hb hlt hB
        go_wp2_with fail
        refine HCh.out.mono ?_
        rintro e w1 ⟨rfl, hb1⟩
        have HB3 := Lib.hid (HB2.out.trans (hb1.mono HB2.out.size))
        clear hb1
        cases hC : (C == 0) with
        | true =>
          obtain rfl : B = true := HB0.out.symm.trans hC
          go_wp2_with fail
          go_ret2
          exact ⟨rfl, HB3.out⟩
        | false =>
          obtain rfl : B = false := HB0.out.symm.trans hC
          go_wp2_with fail
          go_ret2
          exact ⟨rfl, HB3.out⟩
      · have b1 : ¬ (j : Int) < (n : Int) := by omega
        have hB := HBB.out
        rw [decide_eq_false hpn, Bool.false_and] at hB
        subst hB
        have HB2 := Lib.hid hb
        clear hb hlt
        go_wp2_with fail
        go_ret2
        exact ⟨rfl, HB2.out⟩

/-- Where the mark of a version stands, and whether it does. -/
def hasM (t : Int) (x : ByteArray) (q : Nat) (ms : List Mk) : Bool := (findM t x q ms).isSome
set_option maxRecDepth 100000 in
set_option maxHeartbeats 2000000 in
theorem find_any (l c : Nat) (a : Option Addr) (t : Int) (x : ByteArray) (q : Nat) (ms : List Mk) (w : World) (hs : Srt ms) (hn : ms.length ≤ 1024) (hr : RdL l a c ms w) :
    Calls Tryd.prog 17 #[.pointer (some ⟨l, 0, none⟩), kyV t x, .int .u64 (q : Int)] w fun e w' => e = .returned (.tuple #[.int .i64 (posM t x q ms : Int), .bool (hasM t x q ms)]) ∧ Below w.heap.size w w' := by
  have h1 := fun (h : Nat) (m : Mk) (hm : ms[h]? = some m) (hp : h < posM t x q ms) => posM_low (t := t) (x := x) (q := q) hm hp
  have h2 := fun (h : Nat) (m : Mk) (hm : ms[h]? = some m) (hp : posM t x q ms ≤ h) => posM_high (t := t) (x := x) (q := q) hs hm hp
  have h3 := findM_pos (t := t) (x := x) (q := q) hs
  have h4 := posM_le t x q ms
  have hcc : ∀ (h : Nat) (m : Mk), ms[h]? = some m → ((ms[h]?).elim 0 (ordM t x q)) = ordM t x q m := fun h m hm => by rw [hm]; rfl
  obtain ⟨w1, hw1⟩ : ∃ w1, w.alloc (.cells #[.pointer (some ⟨l, 0, none⟩)] 24) = w1 := ⟨_, rfl⟩
  have hb1 : Below w.heap.size w w1 := by rw [← hw1]; exact (Below.refl _ _).alloc (Nat.le_refl _) _
  have q1 : Blk w1 w.heap.size #[.pointer (some ⟨l, 0, none⟩)] 24 := by rw [← hw1]; exact Blk.new _ _ _
  obtain ⟨w2, hw2⟩ : ∃ w2, w1.alloc (.cells #[.int .i64 t, .string x] 31) = w2 := ⟨_, rfl⟩
  have hb2 : Below w1.heap.size w1 w2 := by rw [← hw2]; exact (Below.refl _ _).alloc (Nat.le_refl _) _
  have q2 : Blk w2 w1.heap.size #[.int .i64 t, .string x] 31 := by rw [← hw2]; exact Blk.new _ _ _
  obtain ⟨w3, hw3⟩ : ∃ w3, w2.alloc (.cells #[.int .u64 (q : Int)] 32) = w3 := ⟨_, rfl⟩
  have hb3 : Below w2.heap.size w2 w3 := by rw [← hw3]; exact (Below.refl _ _).alloc (Nat.le_refl _) _
  have q3 : Blk w3 w2.heap.size #[.int .u64 (q : Int)] 32 := by rw [← hw3]; exact Blk.new _ _ _
  have hbx : FdBx w.heap.size w1.heap.size w2.heap.size l t x q w3 := by
    exact ⟨(q1.later hb2).later hb3, q2.later hb3, q3⟩
  have hr3 : RdL l a c ms w3 := ((hr.later hb1).later hb2).later hb3
  have hb13 : Below w.heap.size w w3 := (hb1.trans (hb2.mono hb1.size)).trans (hb3.mono (Nat.le_trans hb1.size hb2.size))
  have hsf := sortFind_any ms.length (posM t x q ms) (fun h => (ms[h]?).elim 0 (ordM t x q)) ⟨w.heap.size, 0, none⟩ ⟨w1.heap.size, 0, none⟩ ⟨w2.heap.size, 0, none⟩ w3 (by omega) h4
    (fun h hp => by
      have hm : ms[h]? = some ms[h] := List.getElem?_eq_getElem (by omega)
      show 0 < (ms[h]?).elim 0 (ordM t x q)
      rw [hcc h _ hm]; exact h1 h _ hm hp)
    (fun h hp hn => by
      have hm : ms[h]? = some ms[h] := List.getElem?_eq_getElem (by omega)
      show (ms[h]?).elim 0 (ordM t x q) ≤ 0
      rw [hcc h _ hm]; exact h2 h _ hm hp)
    (fun i hi W hb => by
      have hm : ms[i]? = some ms[i] := List.getElem?_eq_getElem (by omega)
      show Calls _ _ _ _ fun e w' => e = .returned (.int .i64 ((ms[i]?).elim 0 (ordM t x q))) ∧ _
      rw [hcc i _ hm]
      exact find1_any _ _ _ l i c a t x q ms _ W (hbx.later hb) (hr3.later hb) hm)
  have hres : (decide (posM t x q ms < ms.length) && (((ms[posM t x q ms]?).elim 0 (ordM t x q)) == 0)) = hasM t x q ms := by
    unfold hasM
    rw [h3]
    cases hp : ms[posM t x q ms]? with
    | none => rw [List.getElem?_eq_none_iff] at hp; rw [decide_eq_false (by omega)]; rfl
    | some m =>
      have := (List.getElem?_eq_some_iff.1 hp).1
      rw [decide_eq_true this]
      show (true && (ordM t x q m == 0)) = decide (ordM t x q m = 0)
      rw [Bool.true_and]; rfl
  have hsf' : Calls Tryd.prog 35 #[.int .i64 (ms.length : Int), .func (.func 36) #[] #[.pointer (some ⟨w.heap.size, 0, none⟩), .pointer (some ⟨w1.heap.size, 0, none⟩), .pointer (some ⟨w2.heap.size, 0, none⟩)]] w3 fun e w' => e = .returned (.tuple #[.int .i64 (posM t x q ms : Int), .bool (hasM t x q ms)]) ∧ Below w3.heap.size w3 w' := by
    rw [← hres]; exact hsf
  have c0 : w3.cell? ⟨w.heap.size, 0, none⟩ = some (.pointer (some ⟨l, 0, none⟩)) := hbx.l.cell 0
  have c1 : w3.cell? ⟨l, 0, none⟩ = some (.slice a ms.length c) := hr3.blk.cell 0
  generalize ms.length = L at hsf' c1
  generalize hasM t x q ms = B at hsf' ⊢
  generalize posM t x q ms = p at hsf' ⊢
  have HS := Lib.hid hsf'
  have HW := Lib.hid (And.intro hw1 (And.intro hw2 hw3))
  have HB := Lib.hid hb13
  clear h1 h2 h3 h4 hcc hsf hsf' hres hbx hr3 hr hb13 q1 q2 q3 hb1 hb2 hb3 hs hn hw1 hw2 hw3
  go_enter Tryd.func17, Tryd.ntmps17
  go_wp2_with (first | rw [HW.out.1] | rw [HW.out.2.1] | rw [HW.out.2.2])
  refine HS.out.mono ?_
  rintro e w4 ⟨rfl, hb⟩
  have HB4 := Lib.hid (HB.out.trans (hb.mono HB.out.size))
  clear hb
  go_wp2_with fail
  go_ret2
  exact ⟨rfl, HB4.out⟩
end Go.Proofs.YtdaelapamkmcaaaDoor
