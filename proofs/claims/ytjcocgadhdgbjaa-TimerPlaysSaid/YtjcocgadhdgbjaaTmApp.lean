/- timer: appends of slices that may be nil; two timers beside one another. -/
import Derived.Test.YtjcocgadhdgbjaaTmTml
namespace Go.Proofs.Ytjcocgadhdgbjaa
open Go.RowKit

/-- An append of nothing. -/
theorem append_nil_any {P : Program} {w : World} {base e size n c : Nat} {t ty : TypeId} {i : TypeInfo} {v : Value} {xs : List Value} (ht : P.underlying t = some (.slice e)) (hi : P.info? e = some i) (hown : w.ownsRow base e size v n xs) : (Builtin.append_ #[t, t] ty #[v, .slice none 0 c]).run P w = .ok v w := by
  rcases hown.2 with ⟨rfl, _⟩ | ⟨g, cap, cur, rfl, _, _, hnc, _⟩
  · simp [Builtin.append_, run_underlying ht, sizeOf, typeInfo, hi, Builtin.lenOf, Builtin.firstCells]
  · simp [Builtin.append_, run_underlying ht, sizeOf, typeInfo, hi, Builtin.lenOf, Builtin.firstCells, hnc, storeCells]
theorem wpList_append_none {P : Program} {w : World} {ops : Array Oper} {rest : List Oper} {o : Oper} {a : Act} {Q : Exit → Act → World → Prop} (hgd : o.guard = none) (s x : Operand) (t : TypeId)
    (ho : o.op = .call { callee := .builtin .append, args := #[s, x], argTypes := #[t, t] }) (base e size n c : Nat) (i : TypeInfo) (v : Value) (xs : List Value) (ht : P.underlying t = some (.slice e)) (hi : P.info? e = some i)
    (hs : a.eval s = v) (hx : a.eval x = .slice none 0 c) (hown : w.ownsRow base e size v n xs) (h : wpList P ops Q rest (a.put o.dst v) w) : wpList P ops Q (o :: rest) a w := by
  refine wpList_plain hgd fun K hK => ?_
  have hr := append_nil_any (ty := o.type) (c := c) ht hi hown
  unfold Oper.wp execOp
  simp only [ho, resolve, invoke, builtin, Sem.run_bind, Sem.run_pure, Result.andThen_ok, List.map_toArray, List.map_cons, List.map_nil, hs, hx, hr]
  exact hK _ _ h
/-- An append of a slice that may be nil. -/
theorem wpList_append_row {P : Program} (w : World) {ops : Array Oper} {rest : List Oper} {o : Oper} {a : Act} {Q : Exit → Act → World → Prop} (hgd : o.guard = none) (s x : Operand) (t : TypeId)
    (ho : o.op = .call { callee := .builtin .append, args := #[s, x], argTypes := #[t, t] })
    (base : Nat) (e : TypeId) (i : TypeInfo) (z : Value) (size bytes : Nat) (ht : P.underlying t = some (.slice e)) (hi : P.info? e = some i) (hz : i.zero = some z)
    (hsize : i.size = size) (hby : i.bytes = bytes) (hzs : z.cells.size = size) (hsz : 0 < size)
    (v : Value) (n : Nat) (xs : List Value) (hs : a.eval s = v) (hown : w.ownsRow base e size v n xs)
    (ad : Option Addr) (m c : Nat) (news : List Value) (hx : a.eval x = .slice ad m c) (hl : news.length = m * size) (h0 : ad = none → m = 0) (hnews : ∀ j u, news[j]? = some u → ∃ b, ad = some b ∧ w.cell? (b.add j) = some u) (h1 : ∀ u ∈ news, u.oneCell' = true)
    (h63 : n + m ≤ maxLen) (hbytes : (n + m) * bytes ≤ 140737488355328) (hbase : base ≤ w.heap.size)
    (h : ∀ v' w', w'.ownsRow base e size v' (n + m) (xs ++ news) → w.grownBy w' v.ownBlock → wpList P ops Q rest (a.put o.dst v') w') : wpList P ops Q (o :: rest) a w := by
  cases ad with
  | none =>
    obtain rfl := h0 rfl
    have hn : news = [] := List.eq_nil_of_length_eq_zero (by simpa using hl)
    subst hn
    exact wpList_append_none hgd s x t ho base e size n c i v xs ht hi hs hx hown (h v w (by simpa using hown) (grown_refl _ _))
  | some b =>
    exact wpList_append_own w hgd s x t ho base e i z size bytes ht hi hz hsize hby hzs hsz v n xs hs hown b m c news hx hl (fun j u hj => by
      obtain ⟨b', e, h⟩ := hnews j u hj
      cases e
      exact h) h1 h63 hbytes hbase (fun v' w' h1 h2 _ => h v' w' h1 h2)
theorem Try.infoU8 : (Try.prog.info? 5).map (fun i => (i.zero, i.size, i.bytes)) = some (some (.int .u8 0), 1, 1) := by kernel_rfl
/-- A row that was just made whole. -/
theorem own_new (w : World) (base : Nat) (e : TypeId) (cs : Array Value) (hb : base ≤ w.heap.size) (hn : cs.size ≤ maxLen) : (w.alloc (.cells cs e)).ownsRow base e 1 (.slice (some ⟨w.heap.size, 0, none⟩) cs.size cs.size) cs.size cs.toList :=
  ⟨by simp, .inr ⟨w.heap.size, cs.size, cs, rfl, hb, heap_alloc_new w _, Nat.le_refl _, hn, by simp, List.take_of_length_le (by simp)⟩⟩
def u8V (l : List Nat) : List Value := l.map fun (x : Nat) => Value.int .u8 (x : Int)
theorem nats_news {w : World} {a : Option Addr} {bs : List Nat} {n : Nat} (h : NatsIn w a bs) (hn : n ≤ bs.length) : (u8V (bs.take n)).length = n ∧ (a = none → n = 0) ∧ ∀ j u, (u8V (bs.take n))[j]? = some u → ∃ b, a = some b ∧ w.cell? (b.add j) = some u := by
  refine ⟨by simp [u8V]; omega, fun e => ?_, fun j u hu => ?_⟩
  · by_cases h0 : n = 0
    · exact h0
    · obtain ⟨b, o, e', _⟩ := h 0 bs[0] (List.getElem?_eq_getElem (by omega))
      rw [e] at e'; cases e'
  · unfold u8V at hu
    rw [List.getElem?_map, List.getElem?_take] at hu
    split at hu
    · cases hj : bs[j]? with
      | none => rw [hj] at hu; cases hu
      | some x =>
        rw [hj] at hu
        obtain ⟨b, o, e, _, hc⟩ := h j x hj
        refine ⟨_, e, ?_⟩
        rw [addr_plain, hc]
        exact hu
    · cases hu
theorem u8V_one (l : List Nat) : ∀ u ∈ u8V l, u.oneCell' = true := by
  intro u hu
  obtain ⟨x, _, rfl⟩ := List.mem_map.1 hu
  rfl
theorem row_u8 {w : World} {base n c g : Nat} {e : TypeId} {ts : List Nat} (h : w.ownsRow base e 1 (.slice (some ⟨g, 0, none⟩) n c) n (u8V ts)) (i : Nat) (hi : i < n) : w.cell? ⟨g, i, none⟩ = some (.int .u8 ((ts.getD i 0 : Nat) : Int)) := by
  have hl := h.1
  rw [u8V, List.length_map] at hl
  refine (h.cellAt i (by omega)).trans ?_
  rw [u8V, List.getElem?_map, List.getElem?_eq_getElem (by omega)]
  simp [List.getD_eq_getElem?_getD, List.getElem?_eq_getElem (show i < ts.length by omega)]
theorem str_news {w : World} {base n c : Nat} {a : Option Addr} {ms : List (List UInt8)} (h : w.ownsRow base 9 1 (.slice a n c) n (strV ms)) : (strV ms).length = n * 1 ∧ (a = none → n = 0) ∧ ∀ j u, (strV ms)[j]? = some u → ∃ b, a = some b ∧ w.cell? (b.add j) = some u := by
  refine ⟨h.1, fun e => ?_, fun j u hu => ?_⟩
  · rcases h.2 with ⟨_, hn⟩ | ⟨g, cap, cur, hv, _⟩
    · exact hn
    · cases hv; cases e
  · rw [List.getElem?_map] at hu
    cases hj : ms[j]? with
    | none => rw [hj] at hu; cases hu
    | some x =>
      rw [hj] at hu
      obtain ⟨g, e, _, _, hc⟩ := row_str h j x hj
      refine ⟨_, e, ?_⟩
      rw [addr_plain, Nat.zero_add, hc]
      exact hu
theorem strV_one (l : List (List UInt8)) : ∀ u ∈ strV l, u.oneCell' = true := by
  intro u hu
  obtain ⟨x, _, rfl⟩ := List.mem_map.1 hu
  rfl

theorem TmAt.less {base base' t N : Nat} {F : Nat → Prop} {L : List Tm} {w : World} (h : TmAt base t F N L w) (hb : base' ≤ base) : TmAt base' t F N L w := by
  obtain ⟨p, m, v, hh, T, LE, hbk, hq, a1, a2, a3, a4, a5, hF, a6, a7⟩ := h
  exact ⟨p, m, v, hh, T, LE, hbk, ⟨⟨hq.at_.blk, own_less hq.at_.own hb, hq.at_.map, Nat.le_trans hb hq.at_.bp, Nat.le_trans hb hq.at_.bm⟩, hq.ids, hq.hp⟩, a1, a2, a3, a4, a5, hF, Nat.le_trans hb a6, a7⟩
/-- What one of them did leaves the other as it was. -/
theorem two_next {base t N N' u M : Nat} {F F' G : Nat → Prop} {L' M' : List Tm} {w w' : World} (hu : TmAt base u G M M' w) (_ht : TmAt base t F' N' L' w') (hk : Kept F w w') (hf : ∀ k, F' k → F k ∨ w.heap.size ≤ k) (hd : ∀ k, F k → ¬ G k) (_hN : N = N) : TmAt base u G M M' w' ∧ ∀ k, F' k → ¬ G k := by
  refine ⟨hu.kept hk (fun k hg hs => hd k hs hg), fun k hk' hg => ?_⟩
  rcases hf k hk' with h | h
  · exact hd k h hg
  · have := (hu.low hg).2; omega
theorem dueL_split {a b : Nat} (hab : a ≤ b) : ∀ (n : Nat) (L : List Tm), L.length ≤ n → dueL b L = ((dueL a L).1 ++ (dueL b (dueL a L).2).1, (dueL b (dueL a L).2).2) := by
  intro n
  induction n with
  | zero =>
    intro L hl
    obtain rfl : L = [] := List.eq_nil_of_length_eq_zero (by omega)
    rfl
  | succ n ih =>
    intro L hl
    cases hx : nextL L with
    | none =>
      have e1 := dueL_none (now := b) hx
      have e2 := dueL_none (now := a) hx
      rw [e2]
      show dueL b L = ([] ++ (dueL b L).1, (dueL b L).2)
      rw [e1]; rfl
    | some x =>
      by_cases hle : x.2 ≤ a
      · have hm := dropL_lt (nextL_mem hx)
        rw [dueL_go hx hle, dueL_go hx (Nat.le_trans hle hab), ih (dropL L x.1) (by omega)]
        simp
      · rw [dueL_stop hx hle]; simp
theorem dueL_ids (now : Nat) : ∀ (n : Nat) (L : List Tm), L.length ≤ n → ∀ id ∈ (dueL now L).1, ∃ x ∈ L, x.1 = id := by
  intro n
  induction n with
  | zero =>
    intro L hl
    obtain rfl : L = [] := List.eq_nil_of_length_eq_zero (by omega)
    intro id h; cases h
  | succ n ih =>
    intro L hl id hid
    cases hx : nextL L with
    | none => rw [dueL_none hx] at hid; cases hid
    | some x =>
      by_cases hle : x.2 ≤ now
      · rw [dueL_go hx hle] at hid
        have hm := nextL_mem hx
        have hlt := dropL_lt hm
        rcases List.mem_cons.1 hid with rfl | h
        · exact ⟨x, hm, rfl⟩
        · obtain ⟨y, hy, e⟩ := ih (dropL L x.1) (by omega) id h
          exact ⟨y, drop_sub hy, e⟩
      · rw [dueL_stop hx hle] at hid; cases hid
end Go.Proofs.Ytjcocgadhdgbjaa
