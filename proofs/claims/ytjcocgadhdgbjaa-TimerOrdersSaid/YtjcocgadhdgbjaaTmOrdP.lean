/- timer: what falls due, by the times; appends as steps; plain facts for TimerOrders. -/
import Derived.Test.YtjcocgadhdgbjaaTmApp
namespace Go.Proofs.Ytjcocgadhdgbjaa
open Go.RowKit

theorem fm_cons {α : Type} (g g' : Nat → List α) (x : α) (t : Nat) (h1 : ∀ a, a < t → g a = [] ∧ g' a = []) (h2 : g t = x :: g' t) (h3 : ∀ a, t < a → g a = g' a) : ∀ n, t < n → (List.range n).flatMap g = x :: (List.range n).flatMap g' := by
  intro n
  induction n with
  | zero => intro h; omega
  | succ n ih =>
    intro h
    rw [List.range_succ, List.flatMap_append, List.flatMap_append]
    by_cases hn : t < n
    · rw [ih hn]
      simp only [List.flatMap_cons, List.flatMap_nil, List.append_nil, List.cons_append]
      rw [h3 n hn]
    · obtain rfl : t = n := by omega
      have e1 : (List.range t).flatMap g = [] := List.flatMap_eq_nil_iff.2 fun a ha => (h1 a (List.mem_range.1 ha)).1
      have e2 : (List.range t).flatMap g' = [] := List.flatMap_eq_nil_iff.2 fun a ha => (h1 a (List.mem_range.1 ha)).2
      rw [e1, e2]
      simp [h2]
def atT (L : List Tm) (a : Nat) : List (List UInt8) := (L.filter (fun x => x.2 == a)).map (·.1)
/-- The next one, and what stands around it. -/
theorem nextL_parts : ∀ (L : List Tm) (x : Tm), nextL L = some x → ∃ pre post, L = pre ++ x :: post ∧ (∀ y ∈ pre, x.2 < y.2) ∧ ∀ y ∈ post, x.2 ≤ y.2 := by
  intro L
  induction L with
  | nil => intro x h; simp [nextL] at h
  | cons a r ih =>
    intro x h
    simp only [nextL] at h
    cases hr : nextL r with
    | none =>
      rw [hr] at h
      simp at h; subst h
      rw [nextL_none hr]
      exact ⟨[], [], rfl, by simp, by simp⟩
    | some y =>
      rw [hr] at h
      obtain ⟨pre, post, rfl, h1, h2⟩ := ih y hr
      simp only at h
      by_cases hlt : y.2 < a.2
      · rw [if_pos hlt] at h; cases h
        exact ⟨a :: pre, post, rfl, fun z hz => by rcases List.mem_cons.1 hz with rfl | hz; exact hlt; exact h1 z hz, h2⟩
      · rw [if_neg hlt] at h; cases h
        refine ⟨[], pre ++ y :: post, rfl, by simp, fun z hz => ?_⟩
        rcases List.mem_append.1 hz with hz | hz
        · have := h1 z hz; omega
        · rcases List.mem_cons.1 hz with rfl | hz
          · omega
          · have := h2 z hz; omega
theorem dueL_by (n : Nat) : ∀ (d : Nat) (L : List Tm), L.length ≤ d → (L.map (·.1)).Nodup → (∀ x ∈ L, x.2 ≤ n) → dueL n L = ((List.range (n + 1)).flatMap (atT L), []) := by
  intro d
  induction d with
  | zero =>
    intro L hl _ _
    obtain rfl : L = [] := List.eq_nil_of_length_eq_zero (by omega)
    have : (List.range (n + 1)).flatMap (atT []) = [] := List.flatMap_eq_nil_iff.2 fun a _ => rfl
    rw [this]; rfl
  | succ d ih =>
    intro L hl hn hle
    cases hx : nextL L with
    | none =>
      obtain rfl := nextL_none hx
      have : (List.range (n + 1)).flatMap (atT []) = [] := List.flatMap_eq_nil_iff.2 fun a _ => rfl
      rw [this]; rfl
    | some x =>
      have hm := nextL_mem hx
      have hxn := hle x hm
      have hlt := dropL_lt hm
      rw [dueL_go hx hxn, ih (dropL L x.1) (by omega) (nd_drop hn _) (fun y hy => hle y (drop_sub hy))]
      obtain ⟨pre, post, rfl, h1, h2⟩ := nextL_parts L x hx
      rw [List.map_append, List.map_cons, List.nodup_append] at hn
      have hpre : ∀ y ∈ pre, y.1 ≠ x.1 := fun y hy => hn.2.2 y.1 (List.mem_map.2 ⟨y, hy, rfl⟩) x.1 (by simp)
      have hpost : ∀ y ∈ post, y.1 ≠ x.1 := fun y hy e => (List.nodup_cons.1 hn.2.1).1 (List.mem_map.2 ⟨y, hy, e⟩)
      have hd : dropL (pre ++ x :: post) x.1 = pre ++ post := by
        unfold dropL
        rw [List.filter_append, List.filter_cons, if_neg (by simp)]
        have e1 := dropL_id hpre
        have e2 := dropL_id hpost
        unfold dropL at e1 e2
        rw [e1, e2]
      rw [hd]
      have := fm_cons (atT (pre ++ x :: post)) (atT (pre ++ post)) x.1 x.2 (fun a ha => ?_) ?_ (fun a ha => ?_) (n + 1) (by omega)
      · rw [this]
      · constructor
        · unfold atT
          rw [List.filter_eq_nil_iff.2 fun y hy => ?_]; rfl
          have : x.2 ≤ y.2 := by
            rcases List.mem_append.1 hy with hy | hy
            · exact Nat.le_of_lt (h1 y hy)
            · rcases List.mem_cons.1 hy with rfl | hy
              · exact Nat.le_refl _
              · exact h2 y hy
          simp; omega
        · unfold atT
          rw [List.filter_eq_nil_iff.2 fun y hy => ?_]; rfl
          have : x.2 ≤ y.2 := by
            rcases List.mem_append.1 hy with hy | hy
            · exact Nat.le_of_lt (h1 y hy)
            · exact h2 y hy
          simp; omega
      · unfold atT
        have e0 : pre.filter (fun y => y.2 == x.2) = [] := List.filter_eq_nil_iff.2 fun y hy => by have := h1 y hy; simp; omega
        rw [List.filter_append, List.filter_append, List.filter_cons, e0, if_pos (by simp)]
        simp
      · unfold atT
        rw [List.filter_append, List.filter_append, List.filter_cons, if_neg (by simp; omega)]

theorem run_append_row {P : Program} (w : World) (t ty : TypeId) (base : Nat) (e : TypeId) (i : TypeInfo) (z : Value) (size bytes : Nat) (ht : P.underlying t = some (.slice e)) (hi : P.info? e = some i) (hz : i.zero = some z)
    (hsize : i.size = size) (hby : i.bytes = bytes) (hzs : z.cells.size = size) (hsz : 0 < size) (v : Value) (n : Nat) (xs : List Value) (hown : w.ownsRow base e size v n xs)
    (ad : Option Addr) (m c : Nat) (news : List Value) (hl : news.length = m * size) (h0 : ad = none → m = 0) (hnews : ∀ j u, news[j]? = some u → ∃ b, ad = some b ∧ w.cell? (b.add j) = some u) (h1 : ∀ u ∈ news, u.oneCell' = true)
    (h63 : n + m ≤ maxLen) (hbytes : (n + m) * bytes ≤ 140737488355328) (hbase : base ≤ w.heap.size) :
    ∃ v' w', (Builtin.append_ #[t, t] ty #[v, .slice ad m c]).run P w = .ok v' w' ∧ w'.ownsRow base e size v' (n + m) (xs ++ news) ∧ w.grownBy w' v.ownBlock := by
  cases ad with
  | none =>
    obtain rfl := h0 rfl
    have hn : news = [] := List.eq_nil_of_length_eq_zero (by simpa using hl)
    subst hn
    exact ⟨v, w, append_nil_any ht hi hown, by simpa using hown, grown_refl _ _⟩
  | some b =>
    obtain ⟨v', w', hr, h2, h3, _, _⟩ := run_append_own_at (P := P) w base t ty e i z size bytes ht hi hz hsize hby hzs hsz v n xs hown b m c news hl (fun j u hj => by
      obtain ⟨b', e, h⟩ := hnews j u hj
      cases e
      exact h) h1 h63 hbytes hbase
    exact ⟨v', w', hr, h2, h3⟩
theorem step_append_row {P : Program} (w : World) {ops : Array Oper} {o : Oper} {a : Act} {K : Act → World → Prop} {Q : Exit → Act → World → Prop} {E : Prop} (hgd : o.guard = none) (s x : Operand) (t : TypeId)
    (ho : o.op = .call { callee := .builtin .append, args := #[s, x], argTypes := #[t, t] })
    (base : Nat) (e : TypeId) (i : TypeInfo) (z : Value) (size bytes : Nat) (ht : P.underlying t = some (.slice e)) (hi : P.info? e = some i) (hz : i.zero = some z)
    (hsize : i.size = size) (hby : i.bytes = bytes) (hzs : z.cells.size = size) (hsz : 0 < size)
    (v : Value) (n : Nat) (xs : List Value) (hs : a.eval s = v) (hown : w.ownsRow base e size v n xs)
    (ad : Option Addr) (m c : Nat) (news : List Value) (hx : a.eval x = .slice ad m c) (hl : news.length = m * size) (h0 : ad = none → m = 0) (hnews : ∀ j u, news[j]? = some u → ∃ b, ad = some b ∧ w.cell? (b.add j) = some u) (h1 : ∀ u ∈ news, u.oneCell' = true)
    (h63 : n + m ≤ maxLen) (hbytes : (n + m) * bytes ≤ 140737488355328) (hbase : base ≤ w.heap.size)
    (h : ∀ v' w', w'.ownsRow base e size v' (n + m) (xs ++ news) → w.grownBy w' v.ownBlock → K (a.put o.dst v') w') :
    if Region.wanted o (yielded ops a.tmps) = true then Oper.wp P o a w K Q else E := by
  have hw : Region.wanted o (yielded ops a.tmps) = true := by simp [Region.wanted, hgd]
  rw [if_pos hw]
  obtain ⟨v', w', hr, r1, r2⟩ := run_append_row w t o.type base e i z size bytes ht hi hz hsize hby hzs hsz v n xs hown ad m c news hl h0 hnews h1 h63 hbytes hbase
  unfold Oper.wp execOp
  simp only [ho, resolve, invoke, builtin, Sem.run_bind, Sem.run_pure, Result.andThen_ok, List.map_toArray, List.map_cons, List.map_nil, hs, hx, hr]
  exact h _ _ r1 r2
end Go.Proofs.Ytjcocgadhdgbjaa
