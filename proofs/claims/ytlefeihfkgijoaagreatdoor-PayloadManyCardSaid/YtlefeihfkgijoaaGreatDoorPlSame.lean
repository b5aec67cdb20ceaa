/- payload: Same: the walks. -/
import Derived.Test.YtlefeihfkgijoaaGreatDoorPlPutC
import Derived.Laws.StructEq
import Derived.Deep.QuietTactic
import Derived.BigQuiet
namespace Go.Proofs.YtlefeihfkgijoaaGreatDoor
open Go.RowKit Go.Shelf

def Rl.eq (r s : Rl) : Bool := r.pre.toList == s.pre.toList && r.clu.toList == s.clu.toList
def Ad.eq (r s : Ad) : Bool := r.host.toList == s.host.toList && ((r.port : Int) == (s.port : Int) && (r.wt : Int) == (s.wt : Int))
def lsEq {α : Type} (f : α → α → Bool) : List α → List α → Bool
  | [], [] => true
  | a :: xs, b :: ys => f a b && lsEq f xs ys
  | _, _ => false
theorem lsEq_len {α : Type} {f : α → α → Bool} : ∀ {xs ys : List α}, xs.length ≠ ys.length → lsEq f xs ys = false
  | [], [], h => absurd rfl h
  | [], _ :: _, _ => rfl
  | _ :: _, [], _ => rfl
  | a :: xs, b :: ys, h => by simp only [lsEq]; rw [lsEq_len (by simpa using h)]; simp
theorem lsEq_nil {α : Type} {f : α → α → Bool} {xs ys : List α} {n : Nat} (ha : xs.length = n) (hb : ys.length = n) (j : Nat) (hj : n ≤ j) : lsEq f (xs.drop j) (ys.drop j) = true := by
  rw [List.drop_of_length_le (by omega), List.drop_of_length_le (by omega)]; rfl
theorem lsEq_step {α : Type} {f : α → α → Bool} {xs ys : List α} {j : Nat} {a b : α} (ha : xs[j]? = some a) (hb : ys[j]? = some b) : lsEq f (xs.drop j) (ys.drop j) = (f a b && lsEq f (xs.drop (j + 1)) (ys.drop (j + 1))) := by
  obtain ⟨h1, rfl⟩ := List.getElem?_eq_some_iff.1 ha
  obtain ⟨h2, rfl⟩ := List.getElem?_eq_some_iff.1 hb
  rw [List.drop_eq_getElem_cons h1, List.drop_eq_getElem_cons h2]; rfl
theorem lsEq_refl {α : Type} {f : α → α → Bool} (h : ∀ a, f a a = true) : ∀ xs : List α, lsEq f xs xs = true
  | [] => rfl
  | a :: xs => by simp [lsEq, h a, lsEq_refl h xs]
def Pl.same (p q : Pl) : Bool := p.name.toList == q.name.toList && ((p.port : Int) == (q.port : Int) && (p.route.toList == q.route.toList && ((p.policy : Int) == (q.policy : Int) && (p.secret.toList == q.secret.toList && (p.key.toList == q.key.toList && (lsEq Rl.eq p.rules q.rules && lsEq Ad.eq p.addrs q.addrs))))))
theorem Pl.same_refl (p : Pl) : p.same p = true := by simp [Pl.same, lsEq_refl, Rl.eq, Ad.eq]
theorem below_dN {B : Nat} {a w : World} (h : Below B a w) (q : Nat) : Below B a (w.drewN q) := ⟨h.os, h.tape, h.output, h.size, h.block⟩

theorem eq_Rule (r s : Rl) (w : World) : (Op.equalIn 10000 62 (.agg #[.string r.pre, .string r.clu]) (.agg #[.string s.pre, .string s.clu])).run Tryz.prog w = .ok (r.pre.toList == s.pre.toList && r.clu.toList == s.clu.toList) w := by
  have u0 := Tryz.underlying9
  have a0 := Tryz.isAgg9
  have z0 := Tryz.sizeOf9
  have hS : Tryz.prog.underlying 62 = some (.struct (Tryz.prog.fieldsOf 62)) := by kernel_rfl
  have hp : Tryz.prog.stoodInHeld 62 = false := by kernel_rfl
  rw [show (10000 : Nat) = 9999 + 1 from rfl, run_equalIn_agg w 9999 62 _ _ hS hp]
  simp only [Program.fieldsOf, Tryz.underlying62]
  go_simp
  by_cases h1 : r.pre.toList = s.pre.toList <;> by_cases h2 : r.clu.toList = s.clu.toList <;> simp [h1, h2]
theorem neq_Rule (r s : Rl) (w : World) : (binOp .neq 62 (.agg #[.string r.pre, .string r.clu]) (.agg #[.string s.pre, .string s.clu])).run Tryz.prog w = .ok (.bool (!(r.eq s))) w := by
  rw [run_neq_struct, eq_Rule]
  rfl
theorem guard_Rule (op : BinOp) (x y : Operand) (xs ys : Array Value) (w : World) : (eqGuard op 62 x y (.agg xs) (.agg ys)).run Tryz.prog w = .ok () w :=
  run_eqGuard_agg w op _ x y xs ys (by kernel_rfl)
set_option maxRecDepth 100000 in
set_option maxHeartbeats 2000000 in
theorem equalRule_any (a1 a2 : Option Addr) (c1 c2 : Nat) (rs ss : List Rl) (w : World) (h1 : RulesAt w a1 rs) (h2 : RulesAt w a2 ss) (hl1 : rs.length ≤ maxLen) (hl2 : ss.length ≤ maxLen) :
    Calls Tryz.prog 36 #[.slice a1 rs.length c1, .slice a2 ss.length c2] w fun e w' => e = .returned (.bool (lsEq Rl.eq rs ss)) ∧ Below w.heap.size w w' := by
  obtain ⟨n, hn⟩ : ∃ n, rs.length = n := ⟨_, rfl⟩
  obtain ⟨m, hm⟩ : ∃ m, ss.length = m := ⟨_, rfl⟩
  rw [hn] at hl1 ⊢
  rw [hm] at hl2 ⊢
  unfold maxLen at hl1 hl2
  have HN := Lib.hid hn
  have HM := Lib.hid hm
  have H1 := Lib.hid h1
  have H2 := Lib.hid h2
  clear hn hm h1 h2
  by_cases hnm : n = m
  · subst hnm
    have hq : ((n : Int) != (n : Int)) = false := by simp
    go_enter Tryz.func36, Tryz.ntmps36
    go_wp2_with fail
    go_loopw [13] (fun i wr => ∃ j : Nat, j ≤ n ∧ i = .int .i64 j ∧ lsEq Rl.eq (rs.drop j) (ss.drop j) = lsEq Rl.eq rs ss ∧ Below w.heap.size w wr) (fun i _ => n - (intOf i).toNat)
    case atStart => exact ⟨0, Nat.zero_le _, rfl, rfl, Below.refl _ _⟩
    case round =>
      obtain ⟨j, hj, rfl, heq, hb⟩ := hrel
      by_cases hlt : j < n
      · obtain ⟨r, hr⟩ : ∃ r, rs[j]? = some r := ⟨_, List.getElem?_eq_getElem (by have := HN.out; omega)⟩
        obtain ⟨s, hs⟩ : ∃ s, ss[j]? = some s := ⟨_, List.getElem?_eq_getElem (by have := HM.out; omega)⟩
        obtain ⟨g, off, rfl, hgl, q0, q1⟩ := (H1.out.below hb) j r hr
        obtain ⟨g2, off2, rfl, hgl2, k0, k1⟩ := (H2.out.below hb) j s hs
        have HE := Lib.hid (heq.symm.trans (lsEq_step (f := Rl.eq) hr hs))
        have HB := Lib.hid hb
        have b0 : (0 : Int) ≤ (j : Int) := by omega
        have b1 : (j : Int) < (n : Int) := by omega
        have hgd := guard_Rule
        have hne := neq_Rule r s
        clear hr hs heq hb
        cases hy : Rl.eq r s with
        | true =>
          rw [hy] at hne
          have HY := Lib.hid hy
          clear hy
          simp only [Bool.not_true] at hne
          go_wp2_with fail
          go_quiet (fail)
          go_wp2_with fail
          go_roundw
          case rel => exact ⟨j + 1, by omega, by go_num, by rw [HE.out, HY.out]; rfl, below_dN HB.out _⟩
          case measure => simp [intOf]; omega
        | false =>
          rw [hy] at hne
          have HY := Lib.hid hy
          clear hy
          simp only [Bool.not_false] at hne
          go_wp2_with fail
          go_quiet (fail)
          go_wp2_with fail
          go_ret
          exact ⟨by rw [HE.out, HY.out]; rfl, below_dN HB.out _⟩
      · have HE := Lib.hid (heq.symm.trans (lsEq_nil (f := Rl.eq) HN.out HM.out j (by omega)))
        have HB := Lib.hid hb
        clear heq hb
        go_wp2_with fail
        go_ret
        exact ⟨by rw [HE.out]; rfl, HB.out⟩
  · have hq : ((n : Int) != (m : Int)) = true := by simp; omega
    have HF := Lib.hid (lsEq_len (f := Rl.eq) (xs := rs) (ys := ss) (by have := HN.out; have := HM.out; omega))
    clear hnm
    go_enter Tryz.func36, Tryz.ntmps36
    go_wp2_with fail
    go_ret
    exact ⟨by rw [HF.out]; rfl, Below.refl _ _⟩

theorem eq_Addr (r s : Ad) (w : World) : (Op.equalIn 10000 65 (.agg #[.string r.host, .int .u64 (r.port : Int), .int .u64 (r.wt : Int)]) (.agg #[.string s.host, .int .u64 (s.port : Int), .int .u64 (s.wt : Int)])).run Tryz.prog w = .ok (r.host.toList == s.host.toList && ((r.port : Int) == (s.port : Int) && (r.wt : Int) == (s.wt : Int))) w := by
  have u0 := Tryz.underlying9
  have a0 := Tryz.isAgg9
  have z0 := Tryz.sizeOf9
  have u1 := Tryz.underlying22
  have a1 := Tryz.isAgg22
  have z1 := Tryz.sizeOf22
  have hS : Tryz.prog.underlying 65 = some (.struct (Tryz.prog.fieldsOf 65)) := by kernel_rfl
  have hp : Tryz.prog.stoodInHeld 65 = false := by kernel_rfl
  rw [show (10000 : Nat) = 9999 + 1 from rfl, run_equalIn_agg w 9999 65 _ _ hS hp]
  simp only [Program.fieldsOf, Tryz.underlying65]
  go_simp
  by_cases h1 : r.host.toList = s.host.toList <;> by_cases h2 : (r.port : Int) = (s.port : Int) <;> by_cases h3 : (r.wt : Int) = (s.wt : Int) <;> simp [h1, h2, h3]
theorem neq_Addr (r s : Ad) (w : World) : (binOp .neq 65 (.agg #[.string r.host, .int .u64 (r.port : Int), .int .u64 (r.wt : Int)]) (.agg #[.string s.host, .int .u64 (s.port : Int), .int .u64 (s.wt : Int)])).run Tryz.prog w = .ok (.bool (!(r.eq s))) w := by
  rw [run_neq_struct, eq_Addr]
  rfl
theorem guard_Addr (op : BinOp) (x y : Operand) (xs ys : Array Value) (w : World) : (eqGuard op 65 x y (.agg xs) (.agg ys)).run Tryz.prog w = .ok () w :=
  run_eqGuard_agg w op _ x y xs ys (by kernel_rfl)
set_option maxRecDepth 100000 in
set_option maxHeartbeats 2000000 in
theorem equalAddr_any (a1 a2 : Option Addr) (c1 c2 : Nat) (rs ss : List Ad) (w : World) (h1 : AddrsAt w a1 rs) (h2 : AddrsAt w a2 ss) (hl1 : rs.length ≤ maxLen) (hl2 : ss.length ≤ maxLen) :
    Calls Tryz.prog 37 #[.slice a1 rs.length c1, .slice a2 ss.length c2] w fun e w' => e = .returned (.bool (lsEq Ad.eq rs ss)) ∧ Below w.heap.size w w' := by
  obtain ⟨n, hn⟩ : ∃ n, rs.length = n := ⟨_, rfl⟩
  obtain ⟨m, hm⟩ : ∃ m, ss.length = m := ⟨_, rfl⟩
  rw [hn] at hl1 ⊢
  rw [hm] at hl2 ⊢
  unfold maxLen at hl1 hl2
  have HN := Lib.hid hn
  have HM := Lib.hid hm
  have H1 := Lib.hid h1
  have H2 := Lib.hid h2
  clear hn hm h1 h2
  by_cases hnm : n = m
  · subst hnm
    have hq : ((n : Int) != (n : Int)) = false := by simp
    go_enter Tryz.func37, Tryz.ntmps37
    go_wp2_with fail
    go_loopw [13] (fun i wr => ∃ j : Nat, j ≤ n ∧ i = .int .i64 j ∧ lsEq Ad.eq (rs.drop j) (ss.drop j) = lsEq Ad.eq rs ss ∧ Below w.heap.size w wr) (fun i _ => n - (intOf i).toNat)
    case atStart => exact ⟨0, Nat.zero_le _, rfl, rfl, Below.refl _ _⟩
    case round =>
      obtain ⟨j, hj, rfl, heq, hb⟩ := hrel
      by_cases hlt : j < n
      · obtain ⟨r, hr⟩ : ∃ r, rs[j]? = some r := ⟨_, List.getElem?_eq_getElem (by have := HN.out; omega)⟩
        obtain ⟨s, hs⟩ : ∃ s, ss[j]? = some s := ⟨_, List.getElem?_eq_getElem (by have := HM.out; omega)⟩
        obtain ⟨g, off, rfl, hgl, q0, q1, q2⟩ := (H1.out.below hb) j r hr
        obtain ⟨g2, off2, rfl, hgl2, k0, k1, k2⟩ := (H2.out.below hb) j s hs
        have HE := Lib.hid (heq.symm.trans (lsEq_step (f := Ad.eq) hr hs))
        have HB := Lib.hid hb
        have b0 : (0 : Int) ≤ (j : Int) := by omega
        have b1 : (j : Int) < (n : Int) := by omega
        have hgd := guard_Addr
        have hne := neq_Addr r s
        clear hr hs heq hb
        cases hy : Ad.eq r s with
        | true =>
          rw [hy] at hne
          have HY := Lib.hid hy
          clear hy
          simp only [Bool.not_true] at hne
          go_wp2_with fail
          go_quiet (fail)
          go_wp2_with fail
          go_roundw
          case rel => exact ⟨j + 1, by omega, by go_num, by rw [HE.out, HY.out]; rfl, below_dN HB.out _⟩
          case measure => simp [intOf]; omega
        | false =>
          rw [hy] at hne
          have HY := Lib.hid hy
          clear hy
          simp only [Bool.not_false] at hne
          go_wp2_with fail
          go_quiet (fail)
          go_wp2_with fail
          go_ret
          exact ⟨by rw [HE.out, HY.out]; rfl, below_dN HB.out _⟩
      · have HE := Lib.hid (heq.symm.trans (lsEq_nil (f := Ad.eq) HN.out HM.out j (by omega)))
        have HB := Lib.hid hb
        clear heq hb
        go_wp2_with fail
        go_ret
        exact ⟨by rw [HE.out]; rfl, HB.out⟩
  · have hq : ((n : Int) != (m : Int)) = true := by simp; omega
    have HF := Lib.hid (lsEq_len (f := Ad.eq) (xs := rs) (ys := ss) (by have := HN.out; have := HM.out; omega))
    clear hnm
    go_enter Tryz.func37, Tryz.ntmps37
    go_wp2_with fail
    go_ret
    exact ⟨by rw [HF.out]; rfl, Below.refl _ _⟩

theorem cell_later {w : World} {b j : Nat} {v : Value} {o : Obj} (h : w.cell? ⟨b, j, none⟩ = some v) (hb : b < w.heap.size) : (w.alloc o).cell? ⟨b, j, none⟩ = some v := ((below_alloc w o).cell (p := ⟨b, j, none⟩) hb).trans h
theorem RulesAt.at_new {w : World} {a : Option Addr} {rs : List Rl} (h : RulesAt w a rs) (o : Obj) : RulesAt (w.alloc o) a rs := h.below (below_alloc w o)
theorem AddrsAt.at_new {w : World} {a : Option Addr} {rs : List Ad} (h : AddrsAt w a rs) (o : Obj) : AddrsAt (w.alloc o) a rs := h.below (below_alloc w o)
set_option maxRecDepth 100000 in
set_option maxHeartbeats 4000000 in
theorem same_any' (p q : Pl) (a3 a6 b3 b6 : Option Addr) (c3 c6 d3 d6 : Nat) (w : World) (hp3 : RulesAt w a3 p.rules) (hp6 : AddrsAt w a6 p.addrs) (hq3 : RulesAt w b3 q.rules) (hq6 : AddrsAt w b6 q.addrs)
    (l1 : p.rules.length ≤ maxLen) (l2 : p.addrs.length ≤ maxLen) (l3 : q.rules.length ≤ maxLen) (l4 : q.addrs.length ≤ maxLen) :
    Calls Tryz.prog 20 #[plV p a3 c3 a6 c6, plV q b3 d3 b6 d6] w fun e w' => e = .returned (.bool (p.same q)) ∧ Below w.heap.size w w' := by
  have up := below_more (below_alloc w (.cells (plCells p a3 c3 a6 c6) 26)) (.cells (plCells q b3 d3 b6 d6) 26)
  have HUP := Lib.hid up
  have P3 := Lib.hid (hp3.below up)
  have P6 := Lib.hid (hp6.below up)
  have Q3 := Lib.hid (hq3.below up)
  have Q6 := Lib.hid (hq6.below up)
  have HL := Lib.hid (show _ ∧ _ ∧ _ ∧ _ from ⟨l1, l2, l3, l4⟩)
  clear up hp3 hp6 hq3 hq6 l1 l2 l3 l4
  cases h0 : (p.name.toList == q.name.toList) with
  | false =>
    have HF := Lib.hid (show p.same q = false by simp only [Pl.same, h0]; rfl)
    go_enter Tryz.func20, Tryz.ntmps20
    go_wp2
    go_ret
    exact ⟨by rw [HF.out]; rfl, HUP.out⟩
  | true =>
    cases h1 : ((p.port : Int) == (q.port : Int)) with
    | false =>
      have HF := Lib.hid (show p.same q = false by simp only [Pl.same, h0, h1]; rfl)
      go_enter Tryz.func20, Tryz.ntmps20
      go_wp2
      go_ret
      exact ⟨by rw [HF.out]; rfl, HUP.out⟩
    | true =>
      cases h2 : (p.route.toList == q.route.toList) with
      | false =>
        have HF := Lib.hid (show p.same q = false by simp only [Pl.same, h0, h1, h2]; rfl)
        go_enter Tryz.func20, Tryz.ntmps20
        go_wp2
        go_ret
        exact ⟨by rw [HF.out]; rfl, HUP.out⟩
      | true =>
        cases h3 : ((p.policy : Int) == (q.policy : Int)) with
        | false =>
          have HF := Lib.hid (show p.same q = false by simp only [Pl.same, h0, h1, h2, h3]; rfl)
          go_enter Tryz.func20, Tryz.ntmps20
          go_wp2
          go_ret
          exact ⟨by rw [HF.out]; rfl, HUP.out⟩
        | true =>
          cases h4 : (p.secret.toList == q.secret.toList) with
          | false =>
            have HF := Lib.hid (show p.same q = false by simp only [Pl.same, h0, h1, h2, h3, h4]; rfl)
            go_enter Tryz.func20, Tryz.ntmps20
            go_wp2
            go_ret
            exact ⟨by rw [HF.out]; rfl, HUP.out⟩
          | true =>
            cases h5 : (p.key.toList == q.key.toList) with
            | false =>
              have HF := Lib.hid (show p.same q = false by simp only [Pl.same, h0, h1, h2, h3, h4, h5]; rfl)
              go_enter Tryz.func20, Tryz.ntmps20
              go_wp2
              go_ret
              exact ⟨by rw [HF.out]; rfl, HUP.out⟩
            | true =>
              have HF := Lib.hid (show p.same q = (lsEq Rl.eq p.rules q.rules && lsEq Ad.eq p.addrs q.addrs) by simp only [Pl.same, h0, h1, h2, h3, h4, h5]; rfl)
              have HC1 := Lib.hid (equalRule_any a3 b3 c3 d3 p.rules q.rules _ P3.out Q3.out HL.out.1 HL.out.2.2.1)
              cases hy : lsEq Rl.eq p.rules q.rules with
              | false =>
                rw [hy] at HC1 HF
                clear hy
                go_enter Tryz.func20, Tryz.ntmps20
                go_wp2_with fail
                refine HC1.out.mono ?_
                rintro e w2 ⟨rfl, hb2⟩
                have HB2 := Lib.hid (HUP.out.trans (hb2.mono HUP.out.size))
                clear hb2
                go_wp2_with fail
                go_ret
                exact ⟨by rw [HF.out]; rfl, HB2.out⟩
              | true =>
                rw [hy] at HC1 HF
                clear hy
                have e6 := ((new_cell w (plCells p a3 c3 a6 c6) 26 6).trans rfl)
                have f6 := (new_cell (w.alloc (.cells (plCells p a3 c3 a6 c6) 26)) (plCells q b3 d3 b6 d6) 26 6).trans rfl
                rw [World.size_alloc] at f6
                have E6 := Lib.hid (cell_later e6 (by rw [World.size_alloc]; omega) : ((w.alloc (.cells (plCells p a3 c3 a6 c6) 26)).alloc (.cells (plCells q b3 d3 b6 d6) 26)).cell? ⟨w.heap.size, 6, none⟩ = some (.slice a6 p.addrs.length c6))
                have F6 := Lib.hid (f6 : ((w.alloc (.cells (plCells p a3 c3 a6 c6) 26)).alloc (.cells (plCells q b3 d3 b6 d6) 26)).cell? ⟨w.heap.size + 1, 6, none⟩ = some (.slice b6 q.addrs.length d6))
                clear e6 f6
                go_enter Tryz.func20, Tryz.ntmps20
                go_wp2_with fail
                refine HC1.out.mono ?_
                rintro e w2 ⟨rfl, hb2⟩
                have e6 := (hb2.cell (p := ⟨w.heap.size, 6, none⟩) (by rw [World.size_alloc, World.size_alloc]; show w.heap.size < _; omega)).trans E6.out
                have f6 := (hb2.cell (p := ⟨w.heap.size + 1, 6, none⟩) (by rw [World.size_alloc, World.size_alloc]; show w.heap.size + 1 < _; omega)).trans F6.out
                have P6' := Lib.hid (P6.out.below hb2)
                have Q6' := Lib.hid (Q6.out.below hb2)
                have HB2 := Lib.hid (HUP.out.trans (hb2.mono HUP.out.size))
                clear hb2
                go_wp2_with fail
                refine (equalAddr_any a6 b6 c6 d6 p.addrs q.addrs _ P6'.out Q6'.out HL.out.2.1 HL.out.2.2.2).mono ?_
                rintro e w3 ⟨rfl, hb3⟩
                have HB3 := Lib.hid (HB2.out.trans (hb3.mono HB2.out.size))
                clear hb3
                cases hz : lsEq Ad.eq p.addrs q.addrs with
                | false =>
                  rw [hz] at HF
                  clear hz
                  go_wp2_with fail
                  go_ret
                  exact ⟨by rw [HF.out]; rfl, HB3.out⟩
                | true =>
                  rw [hz] at HF
                  clear hz
                  go_wp2_with fail
                  go_ret
                  exact ⟨by rw [HF.out]; rfl, HB3.out⟩
end Go.Proofs.YtlefeihfkgijoaaGreatDoor
