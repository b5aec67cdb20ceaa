/- link: two rows of texts in an array, beside a stream. -/
import Derived.Test.YtkfbhiggnnjoiaaDoorLkBytes
import Derived.Maps.AppendAt
namespace Go.Proofs.YtkfbhiggnnjoiaaDoor
open Go.RowKit Go.Lib

/-- An append of a slice that may be nil: where the row lies behind it. -/
theorem run_append_rowb {P : Program} (w : World) (t ty : TypeId) (base : Nat) (e : TypeId) (i : TypeInfo) (z : Value) (size bytes : Nat) (ht : P.underlying t = some (.slice e)) (hi : P.info? e = some i) (hz : i.zero = some z)
    (hsize : i.size = size) (hby : i.bytes = bytes) (hzs : z.cells.size = size) (hsz : 0 < size) (v : Value) (n : Nat) (xs : List Value) (hown : w.ownsRow base e size v n xs)
    (ad : Option Addr) (m c : Nat) (news : List Value) (hl : news.length = m * size) (h0 : ad = none → m = 0) (hnews : ∀ j u, news[j]? = some u → ∃ b, ad = some b ∧ w.cell? (b.add j) = some u) (h1 : ∀ u ∈ news, u.oneCell' = true)
    (h63 : n + m ≤ maxLen) (hbytes : (n + m) * bytes ≤ 140737488355328) (hbase : base ≤ w.heap.size) :
    ∃ v' w', (Builtin.append_ #[t, t] ty #[v, .slice ad m c]).run P w = .ok v' w' ∧ w'.ownsRow base e size v' (n + m) (xs ++ news) ∧ w.grownBy w' v.ownBlock ∧ (∀ g, v'.ownBlock = some g → v.ownBlock = some g ∨ w.heap.size ≤ g) := by
  cases ad with
  | none =>
    obtain rfl := h0 rfl
    have hn : news = [] := List.eq_nil_of_length_eq_zero (by simpa using hl)
    subst hn
    exact ⟨v, w, append_nil_any ht hi hown, by simpa using hown, grown_refl _ _, fun g h => .inl h⟩
  | some b =>
    obtain ⟨v', w', hr, h2, h3, _, h5⟩ := run_append_own_at (P := P) w base t ty e i z size bytes ht hi hz hsize hby hzs hsz v n xs hown b m c news hl (fun j u hj => by
      obtain ⟨b', e, h⟩ := hnews j u hj
      cases e
      exact h) h1 h63 hbytes hbase
    refine ⟨v', w', hr, h2, h3, fun g hg => ?_⟩
    rcases h5 with h | h
    · exact .inl (by rw [← h]; exact hg)
    · rw [h] at hg; cases hg; exact .inr (Nat.le_refl _)
theorem wpList_append_rowb {P : Program} (w : World) {ops : Array Oper} {rest : List Oper} {o : Oper} {a : Act} {Q : Exit → Act → World → Prop} (hgd : o.guard = none) (s x : Operand) (t : TypeId)
    (ho : o.op = .call { callee := .builtin .append, args := #[s, x], argTypes := #[t, t] })
    (base : Nat) (e : TypeId) (i : TypeInfo) (z : Value) (size bytes : Nat) (ht : P.underlying t = some (.slice e)) (hi : P.info? e = some i) (hz : i.zero = some z)
    (hsize : i.size = size) (hby : i.bytes = bytes) (hzs : z.cells.size = size) (hsz : 0 < size)
    (v : Value) (n : Nat) (xs : List Value) (hs : a.eval s = v) (hown : w.ownsRow base e size v n xs)
    (ad : Option Addr) (m c : Nat) (news : List Value) (hx : a.eval x = .slice ad m c) (hl : news.length = m * size) (h0 : ad = none → m = 0) (hnews : ∀ j u, news[j]? = some u → ∃ b, ad = some b ∧ w.cell? (b.add j) = some u) (h1 : ∀ u ∈ news, u.oneCell' = true)
    (h63 : n + m ≤ maxLen) (hbytes : (n + m) * bytes ≤ 140737488355328) (hbase : base ≤ w.heap.size)
    (h : ∀ v' w', w'.ownsRow base e size v' (n + m) (xs ++ news) → w.grownBy w' v.ownBlock → (∀ g, v'.ownBlock = some g → v.ownBlock = some g ∨ w.heap.size ≤ g) → wpList P ops Q rest (a.put o.dst v') w') : wpList P ops Q (o :: rest) a w := by
  refine wpList_plain hgd fun K hK => ?_
  obtain ⟨v', w', hr, h2, h3, h4⟩ := run_append_rowb (P := P) w t o.type base e i z size bytes ht hi hz hsize hby hzs hsz v n xs hown ad m c news hl h0 hnews h1 h63 hbytes hbase
  unfold Oper.wp execOp
  simp only [ho, resolve, invoke, builtin, Sem.run_bind, Sem.run_pure, Result.andThen_ok, List.map_toArray, List.map_cons, List.map_nil, hs, hx, hr]
  exact hK _ _ (h v' w' h2 h3 h4)

/-- Streams, readers, rows of bytes and all below base are as they were. -/
structure Away (base : Nat) (w w' : World) : Prop where
  size : w.heap.size ≤ w'.heap.size
  block : ∀ k, k < w.heap.size → (k < base ∨ ∃ c T fz, w.heap[k]? = some (.cells c T fz) ∧ (T = 59 ∨ T = 80 ∨ T = 5)) → w'.heap[k]? = w.heap[k]?
theorem Away.trans {base : Nat} {w w1 w2 : World} (h : Away base w w1) (h' : Away base w1 w2) : Away base w w2 :=
  ⟨Nat.le_trans h.size h'.size, fun k hk hc => by
    have e := h.block k hk hc
    refine (h'.block k (Nat.lt_of_lt_of_le hk h.size) ?_).trans e
    rw [e]; exact hc⟩
theorem Away.grown {base : Nat} {w w' : World} {row : Option Nat} (hg : w.grownBy w' row) (hr : ∀ g, row = some g → base ≤ g ∧ ∀ c T fz, w.heap[g]? = some (.cells c T fz) → T ≠ 59 ∧ T ≠ 80 ∧ T ≠ 5) : Away base w w' := by
  refine ⟨hg.size, fun k hk hc => hg.block k hk fun e => ?_⟩
  obtain ⟨h1, h2⟩ := hr k e.symm
  rcases hc with h | ⟨c, T, fz, hb, hT⟩
  · omega
  · obtain ⟨a1, a2, a3⟩ := h2 c T fz hb
    rcases hT with h | h | h
    · exact a1 h
    · exact a2 h
    · exact a3 h
theorem LkIs.away {b : Addr} {base l : Nat} {x : Lk} {w w' : World} (h : LkIs b base l x w) (ha : Away base w w') : LkIs b base l x w' := by
  obtain ⟨P, h1, h2, h3⟩ := h
  have hblk : ∀ {q : Nat} {c : Array Value} {t : TypeId}, Blk w q c t → (t = 59 ∨ t = 80 ∨ t = 5) → Blk w' q c t := fun {q c t} hq ht => (ha.block q hq.lt (.inr ⟨c, t, _, hq, ht⟩)).trans hq
  have hrow : ∀ {v : Value} {n : Nat} {xs : List Value}, w.ownsRow base 5 1 v n xs → w'.ownsRow base 5 1 v n xs := fun {v n xs} ho => own_at ho fun g hg => by
    obtain ⟨_, hlt, c, fz, hc⟩ := own_heap ho hg
    exact ha.block g hlt (.inr ⟨c, _, fz, hc, .inr (.inr rfl)⟩)
  have hlow : ∀ {q : Nat}, q < base → w'.cell? ⟨q, 0, none⟩ = w.cell? ⟨q, 0, none⟩ := fun {q} hq => by
    have := ha.block q (Nat.lt_of_lt_of_le hq h1.hB) (.inl hq)
    simp only [World.cell?, this]
  refine ⟨P, ⟨hblk h1.blk (.inl rfl), fun k hk => ?_, h1.ap, h1.bl, ?_, ?_, h1.h0, h1.h1⟩, h2, h3⟩
  · have hw := h1.wa k hk
    exact ⟨⟨hblk hw.rd.blk (.inr (.inl rfl)), hrow hw.rd.own, hw.rd.br⟩, hrow hw.row, hw.ap⟩
  · exact ⟨(hlow h1.h1).trans h1.gs.1, Nat.lt_of_lt_of_le h1.gs.2 ha.size⟩
  · exact ⟨(hlow h1.h0).trans h1.ge.1, Nat.lt_of_lt_of_le h1.ge.2 ha.size⟩

def updF {α : Type} (f : Nat → α) (k : Nat) (x : α) : Nat → α := fun i => if i = k then x else f i
theorem updF_same {α : Type} (f : Nat → α) (k : Nat) (x : α) : updF f k x k = x := if_pos rfl
theorem updF_other {α : Type} (f : Nat → α) {k j : Nat} (x : α) (h : j ≠ k) : updF f k x j = f j := if_neg h
/-- Two rows of texts. -/
structure TwoAt (B base : Nat) (V : Nat → Value) (L : Nat → List (List UInt8)) (w : World) : Prop where
  blk : Blk w B #[V 0, V 1] 40
  row : ∀ k, k < 2 → w.ownsRow base 9 1 (V k) (L k).length (strV (L k))
  ap : ∀ g, (V 0).ownBlock = some g → (V 1).ownBlock ≠ some g
  hB : base ≤ B
theorem TwoAt.apart {B base : Nat} {V : Nat → Value} {L : Nat → List (List UInt8)} {w : World} (h : TwoAt B base V L w) {k j : Nat} (hk : k < 2) (hj : j < 2) (hkj : k ≠ j) : ∀ g, (V k).ownBlock = some g → (V j).ownBlock ≠ some g := by
  match k, j, hk, hj with
  | 0, 0, _, _ => exact absurd rfl hkj
  | 1, 1, _, _ => exact absurd rfl hkj
  | 0, 1, _, _ => exact h.ap
  | 1, 0, _, _ => exact fun g h1 h2 => h.ap g h2 h1
theorem TwoAt.new (w : World) (base : Nat) (hb : base ≤ w.heap.size) : TwoAt w.heap.size base (fun _ => .slice none 0 0) (fun _ => []) (w.alloc (.cells #[.slice none 0 0, .slice none 0 0] 40)) :=
  ⟨Blk.new w _ _, fun _ _ => World.ownsRow_nil _ _ _ _, fun g e => (by cases e), hb⟩
theorem TwoAt.kept {B base b0 : Nat} {V : Nat → Value} {L : Nat → List (List UInt8)} {w w' : World} (h : TwoAt B base V L w) (hk : Kept b0 w w') : TwoAt B base V L w' :=
  ⟨hk.blk h.blk (by decide) (by decide) (by decide), fun k hk' => hk.own (h.row k hk') (by decide) (by decide) (by decide), h.ap, h.hB⟩
/-- All lies below n. -/
def TwoAt.Low (n B : Nat) (V : Nat → Value) : Prop := B < n ∧ ∀ k, k < 2 → ∀ g, (V k).ownBlock = some g → g < n
theorem TwoAt.low {B base n : Nat} {V : Nat → Value} {L : Nat → List (List UInt8)} {w w' : World} (h : TwoAt B base V L w) (hl : TwoAt.Low n B V) (hb : Below n w w') : TwoAt B base V L w' :=
  ⟨h.blk.below hb hl.1, fun k hk => own_at (h.row k hk) fun g hg => hb.block g (hl.2 k hk g hg), h.ap, h.hB⟩
theorem TwoAt.isLow {B base : Nat} {V : Nat → Value} {L : Nat → List (List UInt8)} {w : World} (h : TwoAt B base V L w) : TwoAt.Low w.heap.size B V := ⟨h.blk.lt, fun k hk _ hg => (own_heap (h.row k hk) hg).2.1⟩
theorem TwoAt.cell {B base : Nat} {V : Nat → Value} {L : Nat → List (List UInt8)} {w : World} (h : TwoAt B base V L w) {k : Nat} (hk : k < 2) : w.cell? ⟨B, k, none⟩ = some (V k) := by
  match k, hk with
  | 0, _ => exact h.blk.cell 0
  | 1, _ => exact h.blk.cell 1
/-- One row is grown, and put into its place. -/
theorem TwoAt.add {B base k : Nat} {V : Nat → Value} {L : Nat → List (List UInt8)} {w w1 : World} {v' : Value} {ms : List (List UInt8)} (h : TwoAt B base V L w) (hk : k < 2) (hown : w1.ownsRow base 9 1 v' ((L k).length + ms.length) (strV (L k) ++ strV ms)) (hg : w.grownBy w1 (V k).ownBlock)
    (hfrom : ∀ g, v'.ownBlock = some g → (V k).ownBlock = some g ∨ w.heap.size ≤ g) :
    TwoAt B base (updF V k v') (updF L k (L k ++ ms)) (w1.setCell ⟨B, k, none⟩ v') ∧ Blk w1 B #[V 0, V 1] 40 := by
  have hb1 : Blk w1 B #[V 0, V 1] 40 := h.blk.kept hg (fun e => row_block (h.row k hk) h.blk (by decide) e.symm)
  have hset := grown_set w1 B k v'
  have hnb : ∀ {v : Value} {n : Nat} {xs : List Value}, w1.ownsRow base 9 1 v n xs → (w1.setCell ⟨B, k, none⟩ v').ownsRow base 9 1 v n xs := fun {v n xs} ho => own_other ho hset (fun g e e' => row_block ho hb1 (by decide) (by rw [e, e']))
  have hoth : ∀ j, j < 2 → j ≠ k → w1.ownsRow base 9 1 (V j) (L j).length (strV (L j)) := fun j hj hjk => own_other (h.row j hj) hg (fun g e e' => h.apart hk hj (fun e => hjk e.symm) g e' e)
  have hpart : ∀ j, j < 2 → j ≠ k → ∀ g, v'.ownBlock = some g → (V j).ownBlock ≠ some g := by
    intro j hj hjk g e e'
    rcases hfrom g e with h1 | h1
    · exact h.apart hk hj (fun e => hjk e.symm) g h1 e'
    · have := (own_heap (h.row j hj) e').2.1; omega
  refine ⟨⟨?_, ?_, ?_, h.hB⟩, hb1⟩
  · have := hb1.set k v'
    match k, hk with
    | 0, _ => exact this
    | 1, _ => exact this
  · intro j hj
    by_cases e : j = k
    · subst e
      rw [updF_same, updF_same]
      have : strV (L j ++ ms) = strV (L j) ++ strV ms := by simp [strV]
      rw [this, List.length_append]; exact hnb hown
    · rw [updF_other _ _ e, updF_other _ _ e]; exact hnb (hoth j hj e)
  · match k, hk with
    | 0, _ => exact hpart 1 (by omega) (by omega)
    | 1, _ => exact fun g e e' => hpart 0 (by omega) (by omega) g e' e
theorem TwoAt.away {B base k b0 : Nat} {V : Nat → Value} {L : Nat → List (List UInt8)} {w w1 : World} {v' : Value} (h : TwoAt B base V L w) (hk : k < 2) (hg : w.grownBy w1 (V k).ownBlock) (hb : Blk w1 B #[V 0, V 1] 40) (h0 : b0 ≤ base) : Away b0 w (w1.setCell ⟨B, k, none⟩ v') := by
  refine (Away.grown hg fun g e => ?_).trans (Away.grown (grown_set w1 B k v') fun g e => ?_)
  · obtain ⟨h1, h2, c, fz, hc⟩ := own_heap (h.row k hk) e
    refine ⟨Nat.le_trans h0 h1, fun c' T fz' hc' => ?_⟩
    rw [hc] at hc'; injection hc' with hc'; injection hc' with _ e _
    subst e; exact ⟨by decide, by decide, by decide⟩
  · cases e
    refine ⟨Nat.le_trans h0 h.hB, fun c' T fz' hc' => ?_⟩
    unfold Blk at hb
    rw [hb] at hc'; injection hc' with hc'; injection hc' with _ e _
    subst e; exact ⟨by decide, by decide, by decide⟩
theorem TwoAt.below {B base k n : Nat} {V : Nat → Value} {L : Nat → List (List UInt8)} {w w1 : World} {v' : Value} (h : TwoAt B base V L w) (hk : k < 2) (hg : w.grownBy w1 (V k).ownBlock) (hn : n ≤ base) (hs : n ≤ w.heap.size) : Below n w (w1.setCell ⟨B, k, none⟩ v') :=
  ((Below.refl n w).grown hg hs (fun _ e => Nat.le_trans hn (own_heap (h.row k hk) e).1)).setCell (Nat.le_trans hn h.hB) _
theorem strV_news {w : World} {base n c : Nat} {a : Option Addr} {ms : List (List UInt8)} (h : w.ownsRow base 9 1 (.slice a n c) n (strV ms)) : (∀ j u, (strV ms)[j]? = some u → ∃ b, a = some b ∧ w.cell? (b.add j) = some u) ∧ (a = none → n = 0) ∧ ∀ u ∈ strV ms, u.oneCell' = true := by
  refine ⟨fun j u hu => ?_, fun e => ?_, fun u hu => ?_⟩
  · rw [List.getElem?_map] at hu
    cases hx : ms[j]? with
    | none => rw [hx] at hu; cases hu
    | some x =>
      rw [hx] at hu
      cases hu
      obtain ⟨g, e, hc⟩ := strAt_own h j x hx
      exact ⟨_, e, by rw [addr_plus, Nat.zero_add]; exact hc⟩
  · subst e
    rcases h.2 with ⟨_, h⟩ | ⟨g, cap, cur, h, _⟩
    · exact h
    · cases h
  · obtain ⟨x, _, rfl⟩ := List.mem_map.1 hu
    rfl
end Go.Proofs.YtkfbhiggnnjoiaaDoor
