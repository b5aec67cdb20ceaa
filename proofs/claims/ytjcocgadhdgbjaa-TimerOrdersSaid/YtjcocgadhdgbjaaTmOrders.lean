/- timer: TimerOrders walked. -/
import Derived.Test.YtjcocgadhdgbjaaTmOrdP
import Derived.Deep.RegionLaw
import Derived.Deep.DeepCutAuto
import Derived.Deep.DrawnRows
import Derived.KernelRfl
namespace Go.Proofs.Ytjcocgadhdgbjaa
open Go.RowKit
attribute [local go_sem ↓] Go.wp_at_zero Go.wp_at_succ

def intV (l : List Nat) : List Value := l.map fun (x : Nat) => Value.int .i64 (x : Int)
theorem intV_one (l : List Nat) : ∀ u ∈ intV l, u.oneCell' = true := by
  intro u hu
  obtain ⟨x, _, rfl⟩ := List.mem_map.1 hu
  rfl
theorem Try.infoI64 : (Try.prog.info? 3).map (fun i => (i.zero, i.size, i.bytes)) = some (some (.int .i64 0), 1, 8) := by kernel_rfl
theorem row_int {w : World} {base n c g : Nat} {e : TypeId} {ts : List Nat} (h : w.ownsRow base e 1 (.slice (some ⟨g, 0, none⟩) n c) n (intV ts)) (i : Nat) (hi : i < n) : w.cell? ⟨g, i, none⟩ = some (.int .i64 ((ts.getD i 0 : Nat) : Int)) := by
  have hl := h.1
  rw [intV, List.length_map] at hl
  refine (h.cellAt i (by omega)).trans ?_
  rw [intV, List.getElem?_map, List.getElem?_eq_getElem (by omega)]
  simp [List.getD_eq_getElem?_getD, List.getElem?_eq_getElem (show i < ts.length by omega)]
/-- The first s of a row. -/
theorem int_news {w : World} {base k c g s : Nat} (h : w.ownsRow base 3 1 (.slice (some ⟨g, 0, none⟩) k c) k (intV (List.range k))) (_h20 : s ≤ 20) (hs : s < k) : (intV ((List.range k).take s)).length = s * 1 ∧ ∀ W, Below w.heap.size w W → ∀ j u, (intV ((List.range k).take s))[j]? = some u → ∃ b, some (⟨g, 0, none⟩ : Addr) = some b ∧ W.cell? (b.add j) = some u := by
  refine ⟨by simp [intV]; omega, fun W hb j u hu => ⟨_, rfl, ?_⟩⟩
  have hlt := (h.lt g rfl).2
  unfold intV at hu
  rw [List.getElem?_map, List.getElem?_take] at hu
  split at hu
  · rename_i hjs
    rw [List.getElem?_range (by omega)] at hu
    rw [addr_plain, Nat.zero_add, hb.cell (p := ⟨g, j, none⟩) hlt, h.cellAt j (by omega)]
    unfold intV
    rw [List.getElem?_map, List.getElem?_range (by omega)]
    exact hu
  · cases hu
/-- What stands from so on. -/
theorem int_news_at {w : World} {base k c g so : Nat} {A : Option Addr} (h : w.ownsRow base 3 1 (.slice (some ⟨g, 0, none⟩) k c) k (intV (List.range k))) (_hs : so ≤ k) (hc : k ≤ c) (hA : (if c = so then some (⟨g, 0, none⟩ : Addr) else some ⟨g, so, none⟩) = A) : ((intV ((List.range k).drop so)).length = (k - so) * 1 ∧ (A = none → k - so = 0)) ∧ ∀ W, Below w.heap.size w W → ∀ j u, (intV ((List.range k).drop so))[j]? = some u → ∃ b, A = some b ∧ W.cell? (b.add j) = some u := by
  refine ⟨⟨by simp [intV], fun e => by rw [e] at hA; split at hA <;> cases hA⟩, fun W hb j u hu => ?_⟩
  have hlt := (h.lt g rfl).2
  unfold intV at hu
  rw [List.getElem?_map, List.getElem?_drop] at hu
  by_cases hj : so + j < k
  · rw [List.getElem?_range hj] at hu
    rw [if_neg (by omega)] at hA
    refine ⟨⟨g, so, none⟩, hA.symm, ?_⟩
    rw [addr_plain, hb.cell (p := ⟨g, so + j, none⟩) hlt, h.cellAt (so + j) (by omega)]
    unfold intV
    rw [List.getElem?_map, List.getElem?_range hj]
    exact hu
  · rw [List.getElem?_eq_none (by simp; omega)] at hu
    cases hu
theorem one_news {w : World} {H : Nat} {u : Value} (h : w.cell? ⟨H, 0, none⟩ = some u) : ∀ (j : Nat) (x : Value), [u][j]? = some x → ∃ b, some (⟨H, 0, none⟩ : Addr) = some b ∧ w.cell? (b.add j) = some x := by
  intro j x hx
  cases j with
  | zero => simp at hx; subst hx; exact ⟨_, rfl, h⟩
  | succ j => simp at hx
theorem ord_own {w : World} {b k s so n : Nat} {e : TypeId} {v : Value} (h : w.ownsRow b e 1 v n (intV ((List.range k).take s) ++ intV ((List.range k).drop so) ++ [.int .i64 (s : Int)])) : w.ownsRow b e 1 v n (intV ((List.range k).take s ++ (List.range k).drop so ++ [s])) := by
  have : intV ((List.range k).take s) ++ intV ((List.range k).drop so) ++ [.int .i64 (s : Int)] = intV ((List.range k).take s ++ (List.range k).drop so ++ [s]) := by simp [intV]
  rw [← this]; exact h
/-- The rows beside the timers. -/
structure Rows3 (b m : Nat) (ts : List Nat) (lv : Value) (ord : List Nat) (ov : Value) (w wr : World) : Prop where
  l : wr.ownsRow b 5 1 lv m (u8V ts)
  o : wr.ownsRow b 3 1 ov ord.length (intV ord)
  lo : Below w.heap.size w wr
  hb : b ≤ wr.heap.size
theorem Rows3.kept {b t N m : Nat} {F : Nat → Prop} {L : List Tm} {ts ord : List Nat} {lv ov : Value} {w wr wA w2 : World} (h : Rows3 b m ts lv ord ov w wr) (hBs : w.heap.size ≤ b) (q : TmAt b t F N L wr) (hA : Below wr.heap.size wr wA) (k2 : Kept F wA w2) : Rows3 b m ts lv ord ov w w2 := by
  have qA := q.below hA
  have lA := own_below h.l hA
  have oA := own_below h.o hA
  have zA : b ≤ wA.heap.size := Nat.le_trans h.hb hA.size
  exact ⟨k2.own lA (qA.apart_row lA (by decide) (by decide) (by decide)), k2.own oA (qA.apart_row oA (by decide) (by decide) (by decide)), (h.lo.trans (hA.mono (Nat.le_trans hBs h.hb))).trans ((qA.under k2 zA).mono hBs), Nat.le_trans zA k2.size⟩
/-- The rows, the order whole. -/
structure Rows4 (b m : Nat) (ts : List Nat) (lv : Value) (ord : List Nat) (ov : Value) (w wr : World) : Prop where
  l : wr.ownsRow b 5 1 lv m (u8V ts)
  o : wr.ownsRow b 3 1 ov m (intV ord)
  lo : Below w.heap.size w wr
  hb : b ≤ wr.heap.size
/-- Those of one time, in an order. -/
def wAt (ts O : List Nat) (a : Nat) : List (List UInt8) := (O.filter (fun j => ts.getD j 0 % 8 == a)).map idB
theorem wAt_succ {ts O : List Nat} {a i : Nat} (hi : i < O.length) : wAt ts (O.take (i + 1)) a = wAt ts (O.take i) a ++ (if ts.getD (O.getD i 0) 0 % 8 = a then [idB (O.getD i 0)] else []) := by
  have e : O.getD i 0 = O[i] := by simp [List.getD_eq_getElem?_getD, List.getElem?_eq_getElem hi]
  unfold wAt
  rw [List.take_succ_eq_append_getElem hi, List.filter_append, List.map_append, e]
  congr 1
  by_cases h : ts.getD O[i] 0 % 8 = a
  · rw [if_pos h, List.filter_cons, if_pos (by simpa using h)]; rfl
  · rw [if_neg h, List.filter_cons, if_neg (by simpa using h)]; rfl
theorem fm_len {g : Nat → List (List UInt8)} {b : Nat} (h : ∀ a, (g a).length ≤ b) {n : Nat} : ((List.range n).flatMap g).length ≤ n * b := by
  induction n with
  | zero => simp
  | succ n ih =>
    rw [List.range_succ, List.flatMap_append, List.length_append]
    have := h n
    simp only [List.flatMap_cons, List.flatMap_nil, List.append_nil]
    rw [Nat.succ_mul]; omega
theorem cell_one_news (w : World) (u : Value) (t : TypeId) {H : Nat} (h : w.heap.size = H) : ∀ j x, [u][j]? = some x → (w.alloc (.cells #[u] t)).cell? ((⟨H, 0, none⟩ : Addr).add j) = some x := by
  subst h; exact cell_one_new w u t
structure WnAt (b m : Nat) (ts O : List Nat) (lv ov : Value) (t : Nat) (F : Nat → Prop) (N : Nat) (L : List Tm) (w : World) (wv : Value) (ms : List (List UInt8)) (wr : World) : Prop where
  rows : Rows4 b m ts lv O ov w wr
  tm : TmAt b t F N L wr
  own : wr.ownsRow b 9 1 wv ms.length (strV ms)
theorem WnAt.app {b m t N : Nat} {ts O : List Nat} {lv ov wv wv' : Value} {F : Nat → Prop} {L : List Tm} {w wr wA w2 : World} {ms : List (List UInt8)} {x : List UInt8} (h : WnAt b m ts O lv ov t F N L w wv ms wr) (hBs : w.heap.size ≤ b) (hA : Below wr.heap.size wr wA) (hg : wA.grownBy w2 wv.ownBlock) (ho : w2.ownsRow b 9 1 wv' (ms.length + 1) (strV ms ++ [.string ⟨x.toArray⟩])) : WnAt b m ts O lv ov t F N L w wv' (ms ++ [x]) w2 := by
  have qA := h.tm.below hA
  have lA := own_below h.rows.l hA
  have oA := own_below h.rows.o hA
  have sA := own_below h.own hA
  have zA : b ≤ wA.heap.size := Nat.le_trans h.rows.hb hA.size
  refine ⟨⟨own_other lA hg (fun x hx => rows_apart sA lA (by decide) x hx), own_other oA hg (fun x hx => rows_apart sA oA (by decide) x hx), (h.rows.lo.trans (hA.mono (Nat.le_trans hBs h.rows.hb))).trans (((Below.refl b wA).grown hg zA (fun x e => owns_block sA x e)).mono hBs), Nat.le_trans zA hg.size⟩, qA.kept (Kept.grown (S := fun x => wv.ownBlock = some x) hg (fun x e _ => e)) (fun x hf hs => qA.apart_row sA (by decide) (by decide) (by decide) x hs hf), ?_⟩
  have e1 : ms.length + 1 = (ms ++ [x]).length := by simp
  have e2 : strV ms ++ [.string ⟨x.toArray⟩] = strV (ms ++ [x]) := by simp
  rw [← e1, ← e2]; exact ho
theorem ord_L1 {ts : List Nat} {k s so y : Nat} {L1 : List Tm} (hs : s < k) (hso : s + 1 = so) (hy : (ts.map (· % 8)).getD s 0 = y) (hL : dropL (tml (ts.map (· % 8)) k) (idB s) ++ [(idB s, y)] = L1) (hk : k < 100 := by omega) :
    L1 = ((List.range k).take s ++ (List.range k).drop so ++ [s]).map fun j => (idB j, (ts.map (· % 8)).getD j 0) := by
  rw [← hL, List.map_append, List.map_append]
  congr 1
  · have e : List.range k = (List.range k).take s ++ s :: (List.range k).drop so := by
      conv => lhs; rw [← List.take_append_drop s (List.range k)]
      rw [List.drop_eq_getElem_cons (by simpa using hs), hso]
      simp
    unfold tml
    conv => lhs; rw [e]
    rw [List.map_append, List.map_cons]
    unfold dropL
    rw [List.filter_append, List.filter_cons, if_neg (by simp)]
    have h1 : ∀ x ∈ ((List.range k).take s).map (fun j => (idB j, (ts.map (· % 8)).getD j 0)), x.1 ≠ idB s := by
      intro x hx
      obtain ⟨j, hj, rfl⟩ := List.mem_map.1 hx
      obtain ⟨i, hi⟩ := List.getElem?_of_mem hj
      rw [List.getElem?_take] at hi
      split at hi
      · rename_i his
        rw [List.getElem?_range (by omega)] at hi
        cases hi
        intro e'
        have := idB_inj (by omega) (by omega) e'
        omega
      · cases hi
    have h2 : ∀ x ∈ ((List.range k).drop so).map (fun j => (idB j, (ts.map (· % 8)).getD j 0)), x.1 ≠ idB s := by
      intro x hx
      obtain ⟨j, hj, rfl⟩ := List.mem_map.1 hx
      obtain ⟨i, hi⟩ := List.getElem?_of_mem hj
      rw [List.getElem?_drop] at hi
      have hlt := (List.getElem?_eq_some_iff.1 hi).1
      rw [List.length_range] at hlt
      rw [List.getElem?_range hlt] at hi
      cases hi
      intro e'
      have := idB_inj (by omega) (by omega) e'
      omega
    have e1 := dropL_id h1
    have e2 := dropL_id h2
    unfold dropL at e1 e2
    rw [e1, e2]
  · rw [← hy]; rfl
theorem ord_due {ts O : List Nat} {L1 : List Tm} (h : L1 = O.map fun j => (idB j, (ts.map (· % 8)).getD j 0)) (hn : (L1.map (·.1)).Nodup) : dueL 7 L1 = ((List.range 8).flatMap (wAt ts O), []) := by
  have hm : ∀ j, (ts.map (· % 8)).getD j 0 = ts.getD j 0 % 8 := fun j => by
    simp only [List.getD_eq_getElem?_getD, List.getElem?_map]
    cases ts[j]? <;> rfl
  have hle : ∀ x ∈ L1, x.2 ≤ 7 := by
    intro x hx
    rw [h] at hx
    obtain ⟨j, _, rfl⟩ := List.mem_map.1 hx
    show (ts.map (· % 8)).getD j 0 ≤ 7
    rw [hm]; omega
  rw [dueL_by 7 L1.length L1 (Nat.le_refl _) hn hle]
  congr 1
  have : atT L1 = wAt ts O := by
    funext a
    unfold atT wAt
    rw [h, List.filter_map, List.map_map]
    congr 1
    apply List.filter_congr
    intro j _
    show ((ts.map (· % 8)).getD j 0 == a) = _
    rw [hm]
  rw [this]
/-- An append to the order. -/
theorem Rows3.app {b t N m k : Nat} {F : Nat → Prop} {L : List Tm} {ts ord : List Nat} {lv ov ov' : Value} {w wr wA w2 : World} (h : Rows3 b m ts lv ord ov w wr) (hBs : w.heap.size ≤ b) (q : TmAt b t F N L wr) (hA : Below wr.heap.size wr wA) (hg : wA.grownBy w2 ov.ownBlock) (ho : w2.ownsRow b 3 1 ov' (ord.length + 1) (intV ord ++ [.int .i64 (k : Int)])) : Rows3 b m ts lv (ord ++ [k]) ov' w w2 ∧ TmAt b t F N L w2 := by
  have qA := q.below hA
  have lA := own_below h.l hA
  have oA := own_below h.o hA
  have zA : b ≤ wA.heap.size := Nat.le_trans h.hb hA.size
  refine ⟨⟨own_other lA hg (fun x hx => rows_apart oA lA (by decide) x hx), ?_, ((h.lo.trans (hA.mono (Nat.le_trans hBs h.hb))).trans ((((Below.refl b wA).grown hg zA (fun x e => owns_block oA x e)).mono hBs))), Nat.le_trans zA hg.size⟩, qA.kept (Kept.grown (S := fun x => ov.ownBlock = some x) hg (fun x e _ => e)) (fun x hf hs => qA.apart_row oA (by decide) (by decide) (by decide) x hs hf)⟩
  have e1 : ord.length + 1 = (ord ++ [k]).length := by simp
  have e2 : intV ord ++ [.int .i64 (k : Int)] = intV (ord ++ [k]) := by simp [intV]
  rw [← e1, ← e2]; exact ho
/-- The slice behind its append. -/
theorem ord_shape {w : World} {base n : Nat} {e : TypeId} {v : Value} {xs : List Value} (h : w.ownsRow base e 1 v (1 + n) xs) :
    ∃ (g cap m : Nat), v = .slice (some ⟨g, 0, none⟩) m cap ∧ Hid (m = n + 1) ∧ w.ownsRow base e 1 (.slice (some ⟨g, 0, none⟩) m cap) m xs := by
  obtain ⟨g, cap, rfl, _⟩ := h.form (by omega)
  exact ⟨g, cap, 1 + n, rfl, Lib.hid (by omega), h⟩

set_option maxRecDepth 100000 in
set_option maxHeartbeats 64000000 in
theorem orders_walk (a0 : Option Addr) (l0 c0 : Nat) (bs : List Nat) (ns : Nat) (w : World) (hl : bs.length = l0) (hc : l0 ≤ c0 ∧ c0 ≤ maxLen) (hst : NatsIn w a0 bs) (hsm : ∀ n ∈ bs, n < 256) (hs : ns < 256) :
    Calls Try.prog 4 #[.slice a0 l0 c0, .int .u8 (ns : Int)] w fun e w' => e = .returned (.bool true) ∧ Below w.heap.size w w' := by
  have hc1 : (l0 : Int) ≤ (c0 : Int) := by omega
  have hc2 : c0 ≤ 9223372036854775807 := hc.2
  obtain ⟨n, hn⟩ : ∃ n, min l0 20 = n := ⟨_, rfl⟩
  have hmin : min (l0 : Int) 20 = (n : Int) := by omega
  have n20 : (n : Int) ≤ 20 := by omega
  have nc : (n : Int) ≤ (c0 : Int) := by omega
  obtain ⟨ts, hts⟩ : ∃ ts, 3 :: bs.take n = ts := ⟨_, rfl⟩
  obtain ⟨i0, hi, hz0, hz1, hz2⟩ := info_parts Try.infoU8
  have HL := Lib.hid (And.intro (And.intro hl hn) (And.intro hts (And.intro hst hsm)))
  clear hl hn hc hts hst hsm
  go_enter Try.func4, Try.ntmps4
  go_wp2_with fail
  refine (examples_any w).mono ?_
  rintro e w0 ⟨rfl, hb0⟩
  go_wp2_with fail
  refine (new_any w0).mono ?_
  rintro e w2 ⟨t, F, rfl, q2, _, hb2⟩
  have hBs : w.heap.size ≤ w0.heap.size := hb0.size
  have z2 : w0.heap.size ≤ w2.heap.size := hb2.size
  have HS : Below w.heap.size w w2 := hb0.trans (hb2.mono hb0.size)
  have hown0 := own_new w2 w0.heap.size 5 #[.int .u8 3] z2 (by unfold maxLen; decide)
  have hbA : Below w2.heap.size w2 (w2.alloc (.cells #[.int .u8 3] 5)) := (Below.refl _ _).alloc (Nat.le_refl _) _
  have hnst : NatsIn (w2.alloc (.cells #[.int .u8 3] 5)) a0 bs := (HL.out.2.2.1.below HS).below hbA
  obtain ⟨nw1, nw2, nw3⟩ := nats_news (n := n) hnst (by have := HL.out.1; omega)
  have HN := Lib.hid (And.intro (And.intro hown0 nw1) (And.intro nw2 (And.intro nw3 (And.intro q2 HS))))
  clear hown0 nw1 nw2 nw3 hnst q2 HS hb2
  go_wp2_with (at_builtin; go_must (refine wpList_append_row _ rfl _ _ 46 rfl w0.heap.size 5 i0 (.int .u8 0) 1 1 Try.underlying46 hi hz0 hz1 hz2 rfl (by decide) _ _ _ rfl HN.out.1.1 a0 n c0 (u8V (bs.take n)) rfl (by rw [HN.out.1.2]; omega) HN.out.2.1 HN.out.2.2.1 (u8V_one _) (by unfold maxLen; simp; omega) (by simp; omega) (by simp; omega) ?_; intro v' w3 hown3 hgrow3; obtain ⟨g, cap, m, rfl, HM, hown3'⟩ := ord_shape hown3))
  have hst3 : Rows3 w0.heap.size m ts (.slice (some ⟨g, 0, none⟩) m cap) [] (.slice none 0 0) w w3 ∧ TmAt w0.heap.size t F 0 [] w3 := by
    obtain ⟨_, _, _, q2, hS⟩ := HN.out
    have hb23 : Below w2.heap.size w2 w3 := ((Below.refl w2.heap.size w2).alloc (Nat.le_refl _) _).grown hgrow3 (by simp) (fun k e => Nat.le_of_eq (Option.some.inj e))
    have e1 : (#[Value.int .u8 3] : Array Value).toList ++ u8V (bs.take n) = u8V ts := by rw [← HL.out.2.1]; rfl
    rw [e1] at hown3'
    exact ⟨⟨hown3', World.ownsRow_nil _ _ _ _, hS.trans (hb23.mono (Nat.le_trans hBs z2)), Nat.le_trans z2 hb23.size⟩, q2.below hb23⟩
  have hm21 : m ≤ 21 := by have := HM.out; omega
  have hm1 : 1 ≤ m := by have := HM.out; omega
  have hts256 : ∀ j, ts.getD j 0 < 256 := by
    intro j
    rw [← HL.out.2.1]
    cases j with
    | zero => show 3 < 256; omega
    | succ j =>
      simp only [List.getD_eq_getElem?_getD, List.getElem?_cons_succ]
      cases hj : (bs.take n)[j]? with
      | none => simp
      | some y => exact HL.out.2.2.2 y (List.mem_of_mem_take (List.mem_of_getElem? hj))
  have HTS := Lib.hid hts256
  have HS3 := Lib.hid hst3
  clear hst3 hown3' hgrow3 hown3 hts256 hi hz0 hz1 hz2
  go_loopw [7, 8] (fun ov iv wr => ∃ k : Nat, iv = .int .i64 (k : Int) ∧ k ≤ m ∧ ∃ F, TmAt w0.heap.size t F k (tml (ts.map (· % 8)) k) wr ∧ Rows3 w0.heap.size m ts (.slice (some ⟨g, 0, none⟩) m cap) (List.range k) ov w wr) (fun _ iv _ => m - (intOf iv).toNat)
  case atStart => exact ⟨0, rfl, Nat.zero_le _, F, HS3.out.2, HS3.out.1⟩
  case round =>
    obtain ⟨k, rfl, hk, F', q, rw3⟩ := hrel
    by_cases hlt : k < m
    · have hcell := row_u8 rw3.l k hlt
      have hgl := (rw3.l.lt g rfl).2
      obtain ⟨x, hxx⟩ : ∃ x, ts.getD k 0 = x := ⟨_, rfl⟩
      have hx9 : x < 256 := by rw [← hxx]; exact HTS.out k
      rw [hxx] at hcell
      obtain ⟨y, hy⟩ : ∃ y, x % 8 = y := ⟨_, rfl⟩
      obtain ⟨dd, hd⟩ : ∃ dd, 97 + k = dd := ⟨_, rfl⟩
      have i0 : (0 : Int) ≤ (k : Int) := by omega
      have i1 : (k : Int) < (m : Int) := by omega
      have k20 : k < 100 := by omega
      have x0 : (x : Int) ≤ 255 := by omega
      have s1 : IntKind.i64.wrap (97 + (k : Int)) = (dd : Int) := by rw [IntWalk.i64_in _ (by omega)]; omega
      have s2 : IntKind.u8.wrap (dd : Int) = (dd : Int) := IntWalk.u8_in _ (by omega)
      have s3 : IntKind.u64.wrap (y : Int) = (y : Int) := IntWalk.u64_in _ (by omega)
      have s4 : (x : Int).tmod 8 = (y : Int) := by rw [Int.tmod_eq_emod_of_nonneg (by omega), ← hy]; omega
      have s5 : IntKind.u8.wrap (y : Int) = (y : Int) := IntWalk.u8_in _ (by omega)
      have s6 : (x : Int) % 8 = (y : Int) := by rw [← hy]; omega
      have hyk : (ts.map (· % 8)).getD k 0 = y := by
        rw [← hy, ← hxx]
        simp only [List.getD_eq_getElem?_getD, List.getElem?_map]
        cases ts[k]? <;> rfl
      obtain ⟨Y, hY, cw, cwd⟩ := byte_cv hd (by omega)
      have HX := Lib.hid (And.intro (And.intro q rw3) (And.intro hyk hY))
      have hvo := owns_slice rw3.o
      rw [List.length_range] at hvo
      obtain ⟨ao, co, rfl⟩ := hvo
      clear q rw3 hxx hY hd hx9 hyk hy
      go_wp2_with fail
      go_region_with ((go_at_call 17; refine (set_tml _ t k F' (ts.map (· % 8)) _ Y HX.out.2.2 _ (HX.out.1.1.below (((Below.refl _ _).alloc (Nat.le_refl _) _).drew)) (by rw [HX.out.2.1]) (by omega) (Nat.le_trans HX.out.1.2.hb (by simp))).mono ?_; rintro e w5 ⟨F2, rfl, q5, k5, f5⟩))
      all_goals
        have hA : Below wr.heap.size wr (wr.alloc (.cells #[.int .u8 (dd : Int)] 5)).drew := ((Below.refl _ _).alloc (Nat.le_refl _) _).drew
        have r5 := HX.out.1.2.kept hBs HX.out.1.1 hA k5
        have hro := r5.o
        rw [List.length_range] at hro
        have hz5 := r5.hb
        have HR := Lib.hid (And.intro r5 q5)
        obtain ⟨j0, hj, hj0, hj1, hj2⟩ := info_parts Try.infoI64
        clear r5 q5 k5 f5 hA s1 s2 s3 s4 s5 s6 cw cwd
        go_wp2_with (at_builtin; go_must (refine wpList_append_own _ rfl _ _ 47 rfl w0.heap.size 3 j0 (.int .i64 0) 1 8 Try.underlying47 hj hj0 hj1 hj2 rfl (by decide) (.slice ao k co) k (intV (List.range k)) rfl (hro.alloc _) ⟨w5.heap.size, 0, none⟩ 1 1 [.int .i64 (k : Int)] rfl rfl (cell_one_new _ _ _) (by simp [Value.oneCell']) (by unfold maxLen; omega) (by omega) (by simp; omega) ?_; intro ov' w6 own6 grow6 _))
        have hA6 : Below w5.heap.size w5 (w5.alloc (.cells #[.int .i64 (k : Int)] 3)) := (Below.refl _ _).alloc (Nat.le_refl _) _
        obtain ⟨r6, q6⟩ := HR.out.1.app hBs HR.out.2 hA6 grow6 (by rw [List.length_range]; exact own6)
        rw [← List.range_succ] at r6
        clear own6 grow6 hro hj hj0 hj1 hj2
        go_roundw
        case rel => exact ⟨k + 1, by go_num, by omega, F2, q6, r6⟩
        case measure => simp [intOf]; omega
    · obtain rfl : k = m := by omega
      obtain ⟨s, hs0⟩ : ∃ s, ns % k = s := ⟨_, rfl⟩
      have hsk : s < k := by rw [← hs0]; exact Nat.mod_lt _ (by omega)
      have hrem : (ns : Int) % (k : Int) = (s : Int) := by rw [← hs0]; rfl
      have k1 : 1 ≤ (k : Int) := by omega
      have hcell := row_u8 rw3.l s hsk
      have hgl := (rw3.l.lt g rfl).2
      have hvo := owns_slice rw3.o
      rw [List.length_range] at hvo
      obtain ⟨ao, co, rfl⟩ := hvo
      obtain ⟨x, hxx⟩ : ∃ x, ts.getD s 0 = x := ⟨_, rfl⟩
      have hx9 : x < 256 := by rw [← hxx]; exact HTS.out s
      rw [hxx] at hcell
      obtain ⟨y, hy⟩ : ∃ y, x % 8 = y := ⟨_, rfl⟩
      obtain ⟨dd, hd⟩ : ∃ dd, 97 + s = dd := ⟨_, rfl⟩
      have i0 : (0 : Int) ≤ (s : Int) := by omega
      have i1 : (s : Int) < (k : Int) := by omega
      have x0 : (x : Int) ≤ 255 := by omega
      have s1 : IntKind.i64.wrap (97 + (s : Int)) = (dd : Int) := by rw [IntWalk.i64_in _ (by omega)]; omega
      have s2 : IntKind.u8.wrap (dd : Int) = (dd : Int) := IntWalk.u8_in _ (by omega)
      have s3 : IntKind.u64.wrap (y : Int) = (y : Int) := IntWalk.u64_in _ (by omega)
      have s4 : (x : Int).tmod 8 = (y : Int) := by rw [Int.tmod_eq_emod_of_nonneg (by omega), ← hy]; omega
      have s5 : IntKind.u8.wrap (y : Int) = (y : Int) := IntWalk.u8_in _ (by omega)
      have s6 : (x : Int) % 8 = (y : Int) := by rw [← hy]; omega
      have hyk : (ts.map (· % 8)).getD s 0 = y := by
        rw [← hy, ← hxx]
        simp only [List.getD_eq_getElem?_getD, List.getElem?_map]
        cases ts[s]? <;> rfl
      obtain ⟨Y, hY, cw, cwd⟩ := byte_cv hd (by omega)
      obtain ⟨L1, hL1⟩ : ∃ L1, dropL (tml (ts.map (· % 8)) k) (idB s) ++ [(idB s, y)] = L1 := ⟨_, rfl⟩
      have hroom : (dropL (tml (ts.map (· % 8)) k) (idB s)).length < 1024 := by
        have := List.length_filter_le (fun x : Tm => x.1 != idB s) (tml (ts.map (· % 8)) k)
        rw [tml_len] at this
        unfold dropL; omega
      have hs0' : Y.size = 1 := by rw [hY]; rfl
      have hYd : Y.data.toList = idB s := by rw [hY]; rfl
      have HX := Lib.hid (And.intro (And.intro q rw3) (And.intro (And.intro hyk hY) (And.intro (And.intro hL1 hroom) (And.intro hs0' (And.intro hYd hs0)))))
      clear q rw3 hxx hY hd hx9 hyk hy hL1 hroom hs0' hYd hs0
      go_wp2_with fail
      go_region_with ((go_at_call 17; refine (set_in _ t k F' _ L1 Y _ y _ (HX.out.1.1.below (((Below.refl _ _).alloc (Nat.le_refl _) _).drew)) (by rw [HX.out.2.2.2.1]; decide) (by rw [HX.out.2.2.2.1]; decide) rfl (by rw [HX.out.2.2.2.2.1]; exact HX.out.2.2.1.2) (by rw [HX.out.2.2.2.2.1]; exact HX.out.2.2.1.1) (by omega) (Nat.le_trans HX.out.1.2.hb (by simp))).mono ?_; rintro e w5 ⟨F2, rfl, q5, k5, f5⟩))
      all_goals
        have hA : Below wr.heap.size wr (wr.alloc (.cells #[.int .u8 (dd : Int)] 5)).drew := ((Below.refl _ _).alloc (Nat.le_refl _) _).drew
        have r5 := HX.out.1.2.kept hBs HX.out.1.1 hA k5
        have hz5 := r5.hb
        have hro := r5.o
        rw [List.length_range] at hro
        obtain ⟨so, hso⟩ : ∃ so : Nat, s + 1 = so := ⟨_, rfl⟩
        have hso1 : (s : Int) + 1 = (so : Int) := by omega
        have hso2 : IntKind.i64.wrap ((s : Int) + 1) = (so : Int) := by rw [IntWalk.i64_in _ (by omega)]; omega
        have c1 : (so : Int) ≤ (k : Int) := by omega
        have c2 : (s : Int) ≤ (k : Int) := by omega
        have c3 : (0 : Int) ≤ (so : Int) := by omega
        have c8 : so ≤ 21 := by omega
        have c9 : s ≤ 20 := by omega
        have c10 : k - so ≤ 20 := by omega
        obtain ⟨go, hgo, hcc, hcap⟩ : ∃ go, ao = some ⟨go, 0, none⟩ ∧ k ≤ co ∧ co ≤ maxLen := by
          rcases hro.2 with ⟨_, h0⟩ | ⟨g', cap', cur, h', _, _, h1, h2, _⟩
          · omega
          · cases h'; exact ⟨g', rfl, h1, h2⟩
        subst hgo
        have c4 : (so : Int) ≤ (co : Int) := by omega
        have c5 : (k : Int) ≤ (co : Int) := by omega
        have c6 : (s : Int) ≤ (co : Int) := by omega
        have c7 : IntKind.i64.wrap (so : Int) = (so : Int) := IntWalk.i64_in _ (by omega)
        obtain ⟨A, hA'⟩ : ∃ A : Option Addr, (if co = so then some (⟨go, 0, none⟩ : Addr) else some ⟨go, so, none⟩) = A := ⟨_, rfl⟩
        have N1 := int_news hro c9 hsk
        have N2 := int_news_at hro (by omega) hcc hA'
        have hln : k - 1 = s + (k - so) := by omega
        have HR := Lib.hid (And.intro r5 (And.intro q5 (And.intro hro (And.intro hso (And.intro hcc hcap)))))
        have HN := Lib.hid (And.intro N1 (And.intro N2 hln))
        clear r5 q5 hso hcc hcap hro k5 f5 hA s1 s2 s3 s4 s5 s6 cw cwd hcell N1 N2 hln
        go_wp2_with fail
        obtain ⟨j0, hj, hj0, hj1, hj2⟩ := info_parts Try.infoI64
        go_region_law (first
          | (refine step_append_row _ (by rfl) (.const (.slice none 0 0)) (.tmp 73) 47 (by rfl) (w5.heap.size + 1) 3 j0 (.int .i64 0) 1 8 Try.underlying47 hj hj0 hj1 hj2 rfl (by decide) (.slice none 0 0) 0 [] (by rfl) (World.ownsRow_nil _ _ _ _) (some ⟨go, 0, none⟩) s co (intV ((List.range k).take s)) (by kernel_rfl) HN.out.1.1 (fun e => by cases e) (HN.out.1.2 _ (by exact ((Below.refl _ _).alloc (Nat.le_refl _) _).drew)) (intV_one _) (by unfold maxLen; omega) (by omega) (by simp) ?_; intro v1 w6 own6 grow6; rw [Nat.zero_add, List.nil_append] at own6; have b6 : Below w5.heap.size w5 w6 := Below.grown (by exact ((Below.refl _ _).alloc (Nat.le_refl _) _).drew) grow6 (by simp) (fun x e => by simp [Value.ownBlock] at e); have c6 : w6.cell? ⟨w5.heap.size, 0, none⟩ = some (.int .i64 (s : Int)) := (World.cell?_of_block (grow6.block w5.heap.size (by simp) (by simp [Value.ownBlock]))).trans ((Blk.new w5 #[.int .i64 (s : Int)] 3).cell 0); have HA6 := Lib.hid c6; clear c6; have H6 := Lib.hid (And.intro own6 b6); clear own6 grow6 b6)
          | (refine step_append_row _ (by rfl) (.const (.slice none 0 0)) (.tmp 73) 47 (by rfl) (w5.heap.size) 3 j0 (.int .i64 0) 1 8 Try.underlying47 hj hj0 hj1 hj2 rfl (by decide) (.slice none 0 0) 0 [] (by rfl) (World.ownsRow_nil _ _ _ _) (some ⟨go, 0, none⟩) s co (intV ((List.range k).take s)) (by kernel_rfl) HN.out.1.1 (fun e => by cases e) (HN.out.1.2 _ (by exact (Below.refl _ _).drew)) (intV_one _) (by unfold maxLen; omega) (by omega) (by simp) ?_; intro v1 w6 own6 grow6; rw [Nat.zero_add, List.nil_append] at own6; have b6 : Below w5.heap.size w5 w6 := Below.grown (by exact (Below.refl _ _).drew) grow6 (by simp) (fun x e => by simp [Value.ownBlock] at e); have H6 := Lib.hid (And.intro own6 b6); clear own6 grow6 b6)
          | (refine step_append_row _ (by rfl) (.tmp 74) (.tmp 78) 47 (by rfl) (w5.heap.size + 1) 3 j0 (.int .i64 0) 1 8 Try.underlying47 hj hj0 hj1 hj2 rfl (by decide) v1 s (intV ((List.range k).take s)) (by kernel_rfl) (H6.out.1) A (k - so) (co - so) (intV ((List.range k).drop so)) (by kernel_rfl) HN.out.2.1.1.1 HN.out.2.1.1.2 (HN.out.2.1.2 _ (H6.out.2)) (intV_one _) (by unfold maxLen; omega) (by omega) (by have := H6.out.2.size; have h := (show w5.heap.size < w6.heap.size from World.block_lt_of_cell? w6 _ HA6.out); omega) ?_; intro v2 w7 own7 grow7; have b7 : Below w5.heap.size w5 w7 := Below.grown (H6.out.2) grow7 ((H6.out.2).size) (fun x e => by have := owns_block H6.out.1 x e; omega); have c7 : w7.cell? ⟨w5.heap.size, 0, none⟩ = some (.int .i64 (s : Int)) := (World.cell?_of_block (grow7.block w5.heap.size (World.block_lt_of_cell? w6 _ HA6.out) (fun e => by have := owns_block H6.out.1 _ e.symm; omega))).trans HA6.out; have HA7 := Lib.hid c7; clear c7; have H7 := Lib.hid (And.intro own7 b7); clear own7 grow7 b7)
          | (refine step_append_row _ (by rfl) (.tmp 74) (.tmp 78) 47 (by rfl) (w5.heap.size) 3 j0 (.int .i64 0) 1 8 Try.underlying47 hj hj0 hj1 hj2 rfl (by decide) v1 s (intV ((List.range k).take s)) (by kernel_rfl) (H6.out.1.alloc _) A (k - so) (co - so) (intV ((List.range k).drop so)) (by kernel_rfl) HN.out.2.1.1.1 HN.out.2.1.1.2 (HN.out.2.1.2 _ (H6.out.2.alloc H6.out.2.size _)) (intV_one _) (by unfold maxLen; omega) (by omega) (by have := (H6.out.2.alloc H6.out.2.size (.cells #[.int .i64 (s : Int)] 3)).size; exact this) ?_; intro v2 w7 own7 grow7; have b7 : Below w5.heap.size w5 w7 := Below.grown (H6.out.2.alloc H6.out.2.size _) grow7 ((H6.out.2.alloc H6.out.2.size _).size) (fun x e => by have := owns_block H6.out.1 x e; omega); have c7 : w7.cell? ⟨w6.heap.size, 0, none⟩ = some (.int .i64 (s : Int)) := (World.cell?_of_block (grow7.block w6.heap.size (by simp) (fun e => by have := (H6.out.1.lt _ e.symm).2; omega))).trans ((Blk.new w6 #[.int .i64 (s : Int)] 3).cell 0); have HB7 := Lib.hid c7; clear c7; have H7 := Lib.hid (And.intro own7 b7); clear own7 grow7 b7)
          | (refine step_append_row _ (by rfl) (.tmp 74) (.tmp 78) 47 (by rfl) (w5.heap.size) 3 j0 (.int .i64 0) 1 8 Try.underlying47 hj hj0 hj1 hj2 rfl (by decide) v1 s (intV ((List.range k).take s)) (by kernel_rfl) (H6.out.1) A (k - so) (co - so) (intV ((List.range k).drop so)) (by kernel_rfl) HN.out.2.1.1.1 HN.out.2.1.1.2 (HN.out.2.1.2 _ (H6.out.2)) (intV_one _) (by unfold maxLen; omega) (by omega) (H6.out.2.size) ?_; intro v2 w7 own7 grow7; have b7 : Below w5.heap.size w5 w7 := Below.grown (H6.out.2) grow7 ((H6.out.2).size) (fun x e => by have := owns_block H6.out.1 x e; omega); have H7 := Lib.hid (And.intro own7 b7); clear own7 grow7 b7)
          | (refine step_append_row _ (by rfl) (.tmp 79) (.tmp 81) 47 (by rfl) (w5.heap.size) 3 j0 (.int .i64 0) 1 8 Try.underlying47 hj hj0 hj1 hj2 rfl (by decide) v2 (s + (k - so)) (intV ((List.range k).take s) ++ intV ((List.range k).drop so)) (by kernel_rfl) (own_less H7.out.1 (Nat.le_succ _)) (some ⟨w5.heap.size, 0, none⟩) 1 1 [.int .i64 (s : Int)] (by kernel_rfl) rfl (fun e => by cases e) (one_news HA7.out) (by simp [Value.oneCell']) (by unfold maxLen; omega) (by omega) ((H7.out.2).size) ?_; intro v3 w8 own8 grow8; have b8 : Below w5.heap.size w5 w8 := Below.grown (H7.out.2) grow8 ((H7.out.2).size) (fun x e => by have := owns_block H7.out.1 x e; omega); rw [show s + (k - so) + 1 = k from by have := HN.out.2.2; omega] at own8; obtain ⟨a8, cc8, rfl⟩ := owns_slice own8; have H8 := Lib.hid (And.intro (ord_own own8) b8); clear own8 grow8 b8)
          | (refine step_append_row _ (by rfl) (.tmp 79) (.tmp 81) 47 (by rfl) (w5.heap.size) 3 j0 (.int .i64 0) 1 8 Try.underlying47 hj hj0 hj1 hj2 rfl (by decide) v2 (s + (k - so)) (intV ((List.range k).take s) ++ intV ((List.range k).drop so)) (by kernel_rfl) (H7.out.1) (some ⟨w6.heap.size, 0, none⟩) 1 1 [.int .i64 (s : Int)] (by kernel_rfl) rfl (fun e => by cases e) (one_news HB7.out) (by simp [Value.oneCell']) (by unfold maxLen; omega) (by omega) ((H7.out.2).size) ?_; intro v3 w8 own8 grow8; have b8 : Below w5.heap.size w5 w8 := Below.grown (H7.out.2) grow8 ((H7.out.2).size) (fun x e => by have := owns_block H7.out.1 x e; omega); rw [show s + (k - so) + 1 = k from by have := HN.out.2.2; omega] at own8; obtain ⟨a8, cc8, rfl⟩ := owns_slice own8; have H8 := Lib.hid (And.intro (ord_own own8) b8); clear own8 grow8 b8)
          | (refine step_append_row _ (by rfl) (.tmp 79) (.tmp 81) 47 (by rfl) (w5.heap.size) 3 j0 (.int .i64 0) 1 8 Try.underlying47 hj hj0 hj1 hj2 rfl (by decide) v2 (s + (k - so)) (intV ((List.range k).take s) ++ intV ((List.range k).drop so)) (by kernel_rfl) (H7.out.1.alloc _) (some ⟨w7.heap.size, 0, none⟩) 1 1 [.int .i64 (s : Int)] (by kernel_rfl) rfl (fun e => by cases e) (one_news ((Blk.new w7 #[.int .i64 (s : Int)] 3).cell 0)) (by simp [Value.oneCell']) (by unfold maxLen; omega) (by omega) ((H7.out.2.alloc H7.out.2.size _).size) ?_; intro v3 w8 own8 grow8; have b8 : Below w5.heap.size w5 w8 := Below.grown (H7.out.2.alloc H7.out.2.size _) grow8 ((H7.out.2.alloc H7.out.2.size _).size) (fun x e => by have := owns_block H7.out.1 x e; omega); rw [show s + (k - so) + 1 = k from by have := HN.out.2.2; omega] at own8; obtain ⟨a8, cc8, rfl⟩ := owns_slice own8; have H8 := Lib.hid (And.intro (ord_own own8) b8); clear own8 grow8 b8))
        all_goals
          have hlo8 : Rows4 w0.heap.size k ts (.slice (some ⟨g, 0, none⟩) k cap) ((List.range k).take s ++ (List.range k).drop so ++ [s]) (.slice a8 k cc8) w w8 ∧ TmAt w0.heap.size t F2 (k + 1) L1 w8 := by
            obtain ⟨r5, q5, _⟩ := HR.out
            exact ⟨⟨own_below r5.l H8.out.2, own_less H8.out.1 r5.hb, r5.lo.trans (H8.out.2.mono (Nat.le_trans hBs r5.hb)), Nat.le_trans r5.hb H8.out.2.size⟩, q5.below H8.out.2⟩
          have hL1e := ord_L1 (ts := ts) hsk HR.out.2.2.2.1 HX.out.2.1.1 HX.out.2.2.1.1
          obtain ⟨O, hO⟩ : ∃ O, (List.range k).take s ++ (List.range k).drop so ++ [s] = O := ⟨_, rfl⟩
          have hOl : O.length = k := by rw [← hO, List.length_append, List.length_append, List.length_take, List.length_drop, List.length_range, List.length_singleton]; have := HR.out.2.2.2.1; omega
          have hOb : ∀ j ∈ O, j < k := by
            intro j hj
            rw [← hO] at hj
            rcases List.mem_append.1 hj with hj | hj
            · rcases List.mem_append.1 hj with hj | hj
              · exact List.mem_range.1 (List.mem_of_mem_take hj)
              · exact List.mem_range.1 (List.mem_of_mem_drop hj)
            · simp at hj; omega
          rw [hO] at hlo8 hL1e
          have HW := Lib.hid (And.intro hlo8 (And.intro hL1e (And.intro hOl hOb)))
          clear hlo8 hL1e hO hOl hOb hj hj0 hj1 hj2 hA' c1 c2 c3 c4 c5 c6 c7 c8 c9 c10 hso1 hso2 i0 i1 x0 hrem
          have hst8 : WnAt w0.heap.size k ts O (.slice (some ⟨g, 0, none⟩) k cap) (.slice a8 k cc8) t F2 (k + 1) L1 w (.slice none 0 0) [] w8 := ⟨HW.out.1.1, HW.out.1.2, World.ownsRow_nil _ _ _ _⟩
          have H0 := Lib.hid hst8
          clear hst8
          go_wp2
          go_loopw [10, 11] (fun wv av wr => ∃ ia : Nat, av = .int .i64 (ia : Int) ∧ ia ≤ 8 ∧ WnAt w0.heap.size k ts O (.slice (some ⟨g, 0, none⟩) k cap) (.slice a8 k cc8) t F2 (k + 1) L1 w wv ((List.range ia).flatMap (wAt ts O)) wr) (fun _ av _ => 8 - (intOf av).toNat)
          case atStart => exact ⟨0, rfl, by omega, H0.out⟩
          case round =>
            obtain ⟨ia, rfl, hia, hw⟩ := hrel
            by_cases hi8 : ia < 8
            · have hi8' : (ia : Int) < 8 := by omega
              obtain ⟨wo, hwo⟩ : ∃ wo : World, wo = wr := ⟨_, rfl⟩
              subst hwo
              have HWW := Lib.hid hw
              clear hw
              go_wp2
              go_loopw [10, 12] (fun wv iv wx => ∃ i : Nat, iv = .int .i64 (i : Int) ∧ i ≤ k ∧ WnAt w0.heap.size k ts O (.slice (some ⟨g, 0, none⟩) k cap) (.slice a8 k cc8) t F2 (k + 1) L1 w wv ((List.range ia).flatMap (wAt ts O) ++ wAt ts (O.take i) ia) wx) (fun _ iv _ => k - (intOf iv).toNat)
              case atStart => exact ⟨0, rfl, Nat.zero_le _, by simpa [wAt] using HWW.out⟩
              case round =>
                obtain ⟨i, rfl, hik, hw⟩ := hrel
                by_cases hii : i < k
                · have hOl := HW.out.2.2.1
                  have hjk : O.getD i 0 < k := by
                    have hiO : i < O.length := by omega
                    have e : O.getD i 0 = O[i] := by simp [List.getD_eq_getElem?_getD, List.getElem?_eq_getElem hiO]
                    rw [e]; exact HW.out.2.2.2 _ (List.getElem_mem hiO)
                  have hsucc := wAt_succ (ts := ts) (a := ia) (show i < O.length by omega)
                  obtain ⟨j, hj⟩ : ∃ j, O.getD i 0 = j := ⟨_, rfl⟩
                  rw [hj] at hjk hsucc
                  have hcl := row_u8 hw.rows.l j hjk
                  obtain ⟨x, hxx⟩ : ∃ x, ts.getD j 0 = x := ⟨_, rfl⟩
                  have hx9 : x < 256 := by rw [← hxx]; exact HTS.out j
                  rw [hxx] at hcl hsucc
                  have hgl := (hw.rows.l.lt g rfl).2
                  obtain ⟨go8, rfl⟩ : ∃ go8, a8 = some ⟨go8, 0, none⟩ := by
                    rcases hw.rows.o.2 with ⟨_, h0⟩ | ⟨g', cap', cur, h', _⟩
                    · omega
                    · cases h'; exact ⟨g', rfl⟩
                  have hgo8 := (hw.rows.o.lt go8 rfl).2
                  have hcO2 : wr.cell? ⟨go8, i, none⟩ = some (.int .i64 (j : Int)) := by
                    have := row_int hw.rows.o i hii
                    rw [hj] at this; exact this
                  obtain ⟨y, hy⟩ : ∃ y, x % 8 = y := ⟨_, rfl⟩
                  rw [hy] at hsucc
                  have x0 : (x : Int) ≤ 255 := by omega
                  have s6 : (x : Int) % 8 = (y : Int) := by rw [← hy]; omega
                  have yb : (y : Int) ≤ 7 := by omega
                  have i0 : (0 : Int) ≤ (i : Int) := by omega
                  have i1 : (i : Int) < (k : Int) := by omega
                  have j0' : (0 : Int) ≤ (j : Int) := by omega
                  have j1 : (j : Int) < (k : Int) := by omega
                  have hz := hw.rows.hb
                  have hms : ((List.range ia).flatMap (wAt ts O) ++ wAt ts (O.take i) ia).length ≤ 1000000 := by
                    rw [List.length_append]
                    have h1 : (wAt ts (O.take i) ia).length ≤ 21 := by
                      unfold wAt
                      rw [List.length_map]
                      exact Nat.le_trans (List.length_filter_le _ _) (by rw [List.length_take]; omega)
                    have h2 := fm_len (g := wAt ts O) (n := ia) (b := 21) (fun a => by
                      unfold wAt
                      rw [List.length_map]
                      exact Nat.le_trans (List.length_filter_le _ _) (by omega))
                    have h3 : ia * 21 ≤ 8 * 21 := Nat.mul_le_mul_right _ (by omega)
                    omega
                  obtain ⟨aw, cw8, hvw⟩ := owns_slice hw.own
                  subst hvw
                  generalize hM : (List.range ia).flatMap (wAt ts O) ++ wAt ts (O.take i) ia = ms at *
                  by_cases hya : y = ia
                  · have hyb : ((y : Int) == (ia : Int)) = true := by simp [hya]
                    rw [if_pos hya] at hsucc
                    obtain ⟨dd, hd⟩ : ∃ dd, 97 + j = dd := ⟨_, rfl⟩
                    have hd1 : 97 + (j : Int) = (dd : Int) := by omega
                    have db : (dd : Int) ≤ 118 := by omega
                    obtain ⟨Y, hY, cv, _⟩ := byte_cv hd (by omega)
                    have HWX := Lib.hid (And.intro hw (And.intro (And.intro hsucc hM) hY))
                    obtain ⟨m0, hm, hm0, hm1', hm2⟩ := info_parts Try.infoStr
                    have hown := hw.own
                    clear hw hsucc hM hY hd hya hj hxx hx9 hjk
                    go_wp2_with (at_builtin; go_must (refine wpList_append_own _ rfl _ _ 35 rfl w0.heap.size 9 m0 (.string ⟨#[]⟩) 1 16 Try.underlying35 hm hm0 hm1' hm2 rfl (by decide) (.slice aw ms.length cw8) ms.length (strV ms) rfl ((hown.alloc _).alloc _) ⟨wr.heap.size + 1, 0, none⟩ 1 1 [.string Y] rfl rfl (cell_one_news _ _ _ (by simp)) (by simp [Value.oneCell']) (by unfold maxLen; omega) (by omega) (by simp; omega) ?_; intro wv' w9 own9 grow9 _; obtain ⟨a9, c9, rfl⟩ := owns_slice own9; have HV := Lib.hid (And.intro own9 grow9); clear own9 grow9 cv))
                    go_roundw
                    case rel =>
                      refine ⟨i + 1, by go_num, by omega, ?_⟩
                      have hA : Below wr.heap.size wr ((wr.alloc (.cells #[.int .u8 (dd : Int)] 5)).alloc (.cells #[.string Y] 9)) := ((Below.refl _ _).alloc (Nat.le_refl _) _).alloc (by simp) _
                      have := HWX.out.1.app (x := idB j) hBs hA HV.out.2 (by
                        have h := HV.out.1
                        rw [HWX.out.2.2] at h
                        exact h)
                      rw [HWX.out.2.1.1, ← List.append_assoc, HWX.out.2.1.2]
                      exact this
                    case measure => simp [intOf]; omega
                  · have hyb : ((y : Int) == (ia : Int)) = false := by simp; omega
                    rw [if_neg hya, List.append_nil] at hsucc
                    have HWX := Lib.hid (And.intro hw (And.intro hsucc hM))
                    clear hw hsucc hM hya hj hxx hx9 hjk
                    go_wp2
                    go_roundw
                    case rel =>
                      refine ⟨i + 1, by go_num, by omega, ?_⟩
                      rw [HWX.out.2.1, HWX.out.2.2]
                      exact HWX.out.1
                    case measure => simp [intOf]; omega
                · have hii' : ¬ (i : Int) < (k : Int) := by omega
                  have HWX := Lib.hid hw
                  clear hw
                  go_wp2
                  go_roundw
                  case rel =>
                    refine ⟨ia + 1, by go_num, by omega, ?_⟩
                    have hkk : i = k := by omega
                    have := HWX.out
                    rw [hkk, List.take_of_length_le (by rw [HW.out.2.2.1]; exact Nat.le_refl _)] at this
                    rw [List.range_succ, List.flatMap_append]
                    simpa using this
                  case measure => simp [intOf]; omega
            · obtain rfl : ia = 8 := by omega
              have hdue := ord_due (HW.out.2.1) hw.tm.nodup
              obtain ⟨W, hW⟩ : ∃ W, (List.range 8).flatMap (wAt ts O) = W := ⟨_, rfl⟩
              rw [hW] at hdue hw
              obtain ⟨aw, cw8, hvw⟩ := owns_slice hw.own
              subst hvw
              have hWl : W.length ≤ 168 := by
                have hOl := HW.out.2.2.1
                have h2 := fm_len (g := wAt ts O) (n := 8) (b := 21) (fun a => by
                  unfold wAt
                  rw [List.length_map]
                  exact Nat.le_trans (List.length_filter_le _ _) (by omega))
                rw [hW] at h2; omega
              have HWX := Lib.hid (And.intro hw hdue)
              clear hw hdue hW
              go_wp2_with fail
              refine (due_in _ t _ F2 L1 [] W 7 7 wr HWX.out.1.tm rfl HWX.out.2).mono ?_
              rintro e w10 ⟨a10, c10, rfl, q10, k10, o10⟩
              have hww := k10.own HWX.out.1.own (HWX.out.1.tm.apart_row HWX.out.1.own (by decide) (by decide) (by decide))
              have hB10 := HWX.out.1.rows.lo.trans ((HWX.out.1.tm.under k10 HWX.out.1.rows.hb).mono hBs)
              have HT := Lib.hid (And.intro (And.intro o10 hww) (And.intro q10 hB10))
              clear o10 hww q10 hB10 k10
              go_wp2_with fail
              refine (len_any _ t _ F2 [] w10 HT.out.2.1).mono ?_
              rintro e w' ⟨rfl, rfl⟩
              go_wp2
              go_loopw [14] (fun iv wx => ∃ j : Nat, iv = .int .i64 (j : Int) ∧ j ≤ W.length ∧ wx.ownsRow wr.heap.size 9 1 (.slice a10 W.length c10) W.length (strV W) ∧ wx.ownsRow w0.heap.size 9 1 (.slice aw W.length cw8) W.length (strV W) ∧ Below w.heap.size w wx) (fun iv _ => W.length - (intOf iv).toNat)
              case atStart => exact ⟨0, rfl, Nat.zero_le _, HT.out.1.1, HT.out.1.2, HT.out.2.2⟩
              case round =>
                obtain ⟨j, rfl, hjl, oa, oz, hb⟩ := hrel
                by_cases hjt : j < W.length
                · obtain ⟨ga, rfl, hga, _, ca⟩ := row_str oa j W[j] (List.getElem?_eq_getElem hjt)
                  obtain ⟨gz, rfl, hgz, _, cz⟩ := row_str oz j W[j] (List.getElem?_eq_getElem hjt)
                  generalize W[j] = z at ca cz
                  have i0 : (0 : Int) ≤ (j : Int) := by omega
                  have i1 : (j : Int) < (W.length : Int) := by omega
                  obtain ⟨A, hA⟩ : ∃ A : ByteArray, (⟨z.toArray⟩ : ByteArray) = A := ⟨_, rfl⟩
                  rw [hA] at ca cz
                  have HO := Lib.hid (And.intro oa (And.intro oz hb))
                  clear oa oz hb hA
                  go_wp2_with fail
                  go_quiet (fail)
                  go_wp2
                  go_roundw
                  case rel => exact ⟨j + 1, by go_num, by omega, own_below HO.out.1 (below_drewN' _), own_below HO.out.2.1 (below_drewN' _), HO.out.2.2.trans (below_drewN' _)⟩
                  case measure => simp [intOf]; omega
                · have hjj : ¬ (j : Int) < (W.length : Int) := by omega
                  have HO := Lib.hid hb
                  clear oa oz hb
                  go_wp2
                  go_ret
                  exact ⟨rfl, HO.out⟩
end Go.Proofs.Ytjcocgadhdgbjaa
