/- payload: an append of rules, or addresses, that came from elsewhere. -/
import Derived.Test.YtlefeihfkgijoaaGreatDoorPlRefs
import Derived.Test.YtlefeihfkgijoaaGreatDoorPlRd
namespace Go.Proofs.YtlefeihfkgijoaaGreatDoor
open Go.RowKit Go.Shelf

theorem grown_refl (w : World) (row : Option Nat) : w.grownBy w row := ⟨rfl, rfl, rfl, Nat.le_refl _, fun _ _ _ => rfl⟩
/-- An append of a slice that may be nil. -/
theorem wpList_append_row {P : Program} (w : World) {ops : Array Oper} {rest : List Oper} {o : Oper} {a : Act} {Q : Exit → Act → World → Prop} (hgd : o.guard = none) (s x : Operand) (t : TypeId)
    (ho : o.op = .call { callee := .builtin .append, args := #[s, x], argTypes := #[t, t] })
    (base : Nat) (e : TypeId) (i : TypeInfo) (z : Value) (size bytes : Nat) (ht : P.underlying t = some (.slice e)) (hi : P.info? e = some i) (hz : i.zero = some z)
    (hsize : i.size = size) (hby : i.bytes = bytes) (hzs : z.cells.size = size) (hsz : 0 < size)
    (v : Value) (n : Nat) (xs : List Value) (hs : a.eval s = v) (hown : w.ownsRow base e size v n xs)
    (ad : Option Addr) (m c : Nat) (news : List Value) (hx : a.eval x = .slice ad m c) (hl : news.length = m * size) (h0 : ad = none → m = 0) (hnews : ∀ j u, news[j]? = some u → ∃ b, ad = some b ∧ w.cell? (b.add j) = some u) (h1 : ∀ u ∈ news, u.oneCell' = true)
    (h63 : n + m ≤ maxLen) (hbytes : (n + m) * bytes ≤ 140737488355328) (hbase : base ≤ w.heap.size)
    (h : ∀ v' w', w'.ownsRow base e size v' (n + m) (xs ++ news) → w.grownBy w' v.ownBlock → wpList P ops Q rest (a.put o.dst v') w') : wpList P ops Q (o :: rest) a w := by
  cases ad with
  | none =>
    obtain rfl := h0 rfl
    have hn : news = [] := List.eq_nil_of_length_eq_zero (by simpa using hl)
    subst hn
    exact wpList_append_none hgd s x t ho base e size n c i v xs ht hi hs hx hown (h v w (by simpa using hown) (grown_refl _ _))
  | some b =>
    exact wpList_append_own w hgd s x t ho base e i z size bytes ht hi hz hsize hby hzs hsz v n xs hs hown b m c news hx hl (fun j u hj => by
      obtain ⟨b', e, h⟩ := hnews j u hj
      cases e
      exact h) h1 h63 hbytes hbase (fun v' w' h1 h2 _ => h v' w' h1 h2)
theorem addr_add0 (g o i : Nat) : (⟨g, o, none⟩ : Addr).add i = ⟨g, o + i, none⟩ := by unfold Addr.add; split <;> simp_all
theorem rlCells_len (rs : List Rl) : (rlCells rs).length = rs.length * 2 := by
  induction rs with
  | nil => rfl
  | cons x xs ih => simp [rlCells] at ih ⊢; omega
theorem adCells_len (rs : List Ad) : (adCells rs).length = rs.length * 3 := by
  induction rs with
  | nil => rfl
  | cons x xs ih => simp [adCells] at ih ⊢; omega
theorem rl_news {w : World} {a : Option Addr} {rs : List Rl} (h : RulesAt w a rs) : ∀ j u, (rlCells rs)[j]? = some u → ∃ b, a = some b ∧ w.cell? (b.add j) = some u := by
  intro j u hj
  have hlen := rlCells_len rs
  have hlt := (List.getElem?_eq_some_iff.1 hj).1
  obtain ⟨i, hi⟩ : ∃ i, i = j / 2 := ⟨_, rfl⟩
  have hil : i < rs.length := by omega
  have hr : rs[i]? = some rs[i] := List.getElem?_eq_getElem hil
  obtain ⟨e0, e1⟩ := rlCells_get rs i _ hr
  obtain ⟨g, off, ha, _, c0, c1⟩ := h i _ hr
  refine ⟨_, ha, ?_⟩
  rw [addr_add0]
  have hj2 : j = i * 2 ∨ j = i * 2 + 1 := by omega
  rcases hj2 with rfl | rfl
  · rw [e0] at hj; rw [c0, hj]
  · rw [e1] at hj; rw [← Nat.add_assoc, c1, hj]
theorem ad_news {w : World} {a : Option Addr} {rs : List Ad} (h : AddrsAt w a rs) : ∀ j u, (adCells rs)[j]? = some u → ∃ b, a = some b ∧ w.cell? (b.add j) = some u := by
  intro j u hj
  have hlen := adCells_len rs
  have hlt := (List.getElem?_eq_some_iff.1 hj).1
  obtain ⟨i, hi⟩ : ∃ i, i = j / 3 := ⟨_, rfl⟩
  have hil : i < rs.length := by omega
  have hr : rs[i]? = some rs[i] := List.getElem?_eq_getElem hil
  obtain ⟨e0, e1, e2⟩ := adCells_get rs i _ hr
  obtain ⟨g, off, ha, _, c0, c1, c2⟩ := h i _ hr
  refine ⟨_, ha, ?_⟩
  rw [addr_add0]
  have hj2 : j = i * 3 ∨ j = i * 3 + 1 ∨ j = i * 3 + 2 := by omega
  rcases hj2 with rfl | rfl | rfl
  · rw [e0] at hj; rw [c0, hj]
  · rw [e1] at hj; rw [← Nat.add_assoc, c1, hj]
  · rw [e2] at hj; rw [← Nat.add_assoc, c2, hj]
theorem rl_nil {w : World} {a : Option Addr} {rs : List Rl} (h : RulesAt w a rs) : a = none → rs.length = 0 := by
  intro e
  subst e
  cases rs with
  | nil => rfl
  | cons r rs => obtain ⟨g, off, ha, _⟩ := h 0 r rfl; cases ha
theorem ad_nil {w : World} {a : Option Addr} {rs : List Ad} (h : AddrsAt w a rs) : a = none → rs.length = 0 := by
  intro e
  subst e
  cases rs with
  | nil => rfl
  | cons r rs => obtain ⟨g, off, ha, _⟩ := h 0 r rfl; cases ha
theorem rl_one {rs : List Rl} : ∀ u ∈ rlCells rs, u.oneCell' = true := by
  intro u hu
  simp only [rlCells, List.mem_flatMap, List.mem_cons, List.not_mem_nil, or_false] at hu
  obtain ⟨r, _, rfl | rfl⟩ := hu <;> rfl
theorem ad_one {rs : List Ad} : ∀ u ∈ adCells rs, u.oneCell' = true := by
  intro u hu
  simp only [adCells, List.mem_flatMap, List.mem_cons, List.not_mem_nil, or_false] at hu
  obtain ⟨r, _, rfl | rfl | rfl⟩ := hu <;> rfl
theorem below_of_grown {w w' : World} {row : Option Nat} {B : Nat} (h : w.grownBy w' row) (hB : B ≤ w.heap.size) (hr : ∀ k, row = some k → B ≤ k) : Below B w w' := (Below.refl B w).grown h hB hr
end Go.Proofs.YtlefeihfkgijoaaGreatDoor
