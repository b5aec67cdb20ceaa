/- check: Right; the reference's Name, Key, Order, Right: the walks. -/
import Derived.Test.YtjolgalfjahceaaGreatDoorCkOrdP
namespace Go.Proofs.YtjolgalfjahceaaGreatDoor
open Go.RowKit

abbrev rsV (t : Int) (x : ByteArray) (q : Int) (g : Bool) (s : ByteArray) : Value := .agg #[.int .i64 t, .string x, .int .u64 q, .bool g, .string s]
/-- Is it a version of a resource? -/
def rsOk (t : Int) (x : ByteArray) (q : Int) (g : Bool) (s : ByteArray) : Bool :=
  kyOk t x && (!(starB x) && (!(decide (1024 < s.size)) && (!(g && !(s.toList.isEmpty)) && (decide (1 ≤ q) && decide (q ≤ 4611686018427387904)))))
structure RsAt (W : World) (g0 : Nat) (t : Int) (x : ByteArray) (q : Int) (g : Bool) (s : ByteArray) : Prop where
  a0 : W.cell? ⟨g0, 0, none⟩ = some (.int .i64 t)
  a1 : W.cell? ⟨g0, 1, none⟩ = some (.string x)
  a2 : W.cell? ⟨g0, 2, none⟩ = some (.int .u64 q)
  a3 : W.cell? ⟨g0, 3, none⟩ = some (.bool g)
  a4 : W.cell? ⟨g0, 4, none⟩ = some (.string s)
  lt : g0 < W.heap.size
theorem RsAt.below {W W' : World} {g0 : Nat} {t : Int} {x : ByteArray} {q : Int} {g : Bool} {s : ByteArray} (h : RsAt W g0 t x q g s) (hb : Below W.heap.size W W') : RsAt W' g0 t x q g s :=
  ⟨(hb.cell (p := ⟨g0, 0, none⟩) h.lt).trans h.a0, (hb.cell (p := ⟨g0, 1, none⟩) h.lt).trans h.a1, (hb.cell (p := ⟨g0, 2, none⟩) h.lt).trans h.a2, (hb.cell (p := ⟨g0, 3, none⟩) h.lt).trans h.a3, (hb.cell (p := ⟨g0, 4, none⟩) h.lt).trans h.a4, Nat.lt_of_lt_of_le h.lt hb.size⟩
theorem rsAt_new (w : World) (t : Int) (x : ByteArray) (q : Int) (g : Bool) (s : ByteArray) : RsAt (w.alloc (.cells #[.int .i64 t, .string x, .int .u64 q, .bool g, .string s] 27)) w.heap.size t x q g s :=
  ⟨by simp, by simp, by simp, by simp, by simp, by simp⟩

set_option maxRecDepth 100000 in
set_option maxHeartbeats 2000000 in
theorem right_any (t : Int) (x : ByteArray) (q : Int) (g : Bool) (s : ByteArray) (w : World) : Calls Tryz.prog 31 #[rsV t x q g s] w fun e w' => e = .returned (.bool (rsOk t x q g s)) ∧ Below w.heap.size w w' := by
  obtain ⟨A, qa⟩ : ∃ A, kyOk t x = A := ⟨_, rfl⟩
  obtain ⟨B, qb⟩ : ∃ B, (x.toList == [42]) = B := ⟨_, rfl⟩
  obtain ⟨C, qc⟩ : ∃ C, decide (1024 < s.size) = C := ⟨_, rfl⟩
  obtain ⟨D, qd⟩ : ∃ D, s.toList.isEmpty = D := ⟨_, rfl⟩
  obtain ⟨E, qe⟩ : ∃ E, decide (1 ≤ q) = E := ⟨_, rfl⟩
  obtain ⟨F, qf⟩ : ∃ F, decide (q ≤ 4611686018427387904) = F := ⟨_, rfl⟩
  have qc2 : decide (s.size ≤ 1024) = !C := by rw [← qc]; by_cases h : s.size ≤ 1024 <;> simp [h] <;> omega
  have e : rsOk t x q g s = (A && (!B && (!C && (!(g && !D) && (E && F))))) := by simp only [rsOk, starB, qa, qb, qc, qd, qe, qf]
  rw [e]
  clear e
  have QA := Lib.hid qa
  clear qa
  have R0 := Lib.hid (rsAt_new w t x q g s)
  have B0 := Lib.hid ((Below.refl w.heap.size w).alloc (Nat.le_refl _) (.cells #[.int .i64 t, .string x, .int .u64 q, .bool g, .string s] 27))
  obtain ⟨a0, a1, a2, a3, a4, lt⟩ := R0.out
  have pre : ∀ w1 : World, Below (w.alloc (.cells #[.int .i64 t, .string x, .int .u64 q, .bool g, .string s] 27)).heap.size (w.alloc (.cells #[.int .i64 t, .string x, .int .u64 q, .bool g, .string s] 27)) w1 → RsAt w1 w.heap.size t x q g s ∧ Below w.heap.size w w1 := fun _ hb => ⟨R0.out.below hb, B0.out.trans (hb.mono B0.out.size)⟩
  have PRE := Lib.hid pre
  clear pre
  cases A with
  | false =>
    go_enter Tryz.func31, Tryz.ntmps31
    go_wp2_with fail
    refine (key_any t x _).mono ?_
    rintro e w1 ⟨rfl, hb⟩
    obtain ⟨R1, hb1⟩ := PRE.out _ hb
    have HB1 := Lib.hid hb1
    rw [QA.out]
    clear hb hb1 a0 a1 a2 a3 a4 lt
    obtain ⟨a0, a1, a2, a3, a4, lt⟩ := R1
    go_wp2_with fail
    go_ret
    exact ⟨by cases B <;> cases C <;> cases g <;> cases D <;> cases E <;> cases F <;> rfl, HB1.out⟩
  | true =>
    cases B with
    | false =>
      cases C with
      | false =>
        have hc : s.size ≤ 1024 := Nat.not_lt.1 (of_decide_eq_false qc)
        cases g with
        | false =>
          cases E with
          | false =>
            go_enter Tryz.func31, Tryz.ntmps31
            go_wp2_with fail
            refine (key_any t x _).mono ?_
            rintro e w1 ⟨rfl, hb⟩
            obtain ⟨R1, hb1⟩ := PRE.out _ hb
            have HB1 := Lib.hid hb1
            rw [QA.out]
            clear hb hb1 a0 a1 a2 a3 a4 lt
            obtain ⟨a0, a1, a2, a3, a4, lt⟩ := R1
            go_wp2_with fail
            go_ret
            exact ⟨by cases D <;> cases F <;> rfl, HB1.out⟩
          | true =>
            cases F with
            | false =>
              go_enter Tryz.func31, Tryz.ntmps31
              go_wp2_with fail
              refine (key_any t x _).mono ?_
              rintro e w1 ⟨rfl, hb⟩
              obtain ⟨R1, hb1⟩ := PRE.out _ hb
              have HB1 := Lib.hid hb1
              rw [QA.out]
              clear hb hb1 a0 a1 a2 a3 a4 lt
              obtain ⟨a0, a1, a2, a3, a4, lt⟩ := R1
              go_wp2_with fail
              go_ret
              exact ⟨by cases D <;> rfl, HB1.out⟩
            | true =>
              go_enter Tryz.func31, Tryz.ntmps31
              go_wp2_with fail
              refine (key_any t x _).mono ?_
              rintro e w1 ⟨rfl, hb⟩
              obtain ⟨R1, hb1⟩ := PRE.out _ hb
              have HB1 := Lib.hid hb1
              rw [QA.out]
              clear hb hb1 a0 a1 a2 a3 a4 lt
              obtain ⟨a0, a1, a2, a3, a4, lt⟩ := R1
              go_wp2_with fail
              go_ret
              exact ⟨by cases D <;> rfl, HB1.out⟩
        | true =>
          cases D with
          | false =>
            go_enter Tryz.func31, Tryz.ntmps31
            go_wp2_with fail
            refine (key_any t x _).mono ?_
            rintro e w1 ⟨rfl, hb⟩
            obtain ⟨R1, hb1⟩ := PRE.out _ hb
            have HB1 := Lib.hid hb1
            rw [QA.out]
            clear hb hb1 a0 a1 a2 a3 a4 lt
            obtain ⟨a0, a1, a2, a3, a4, lt⟩ := R1
            go_wp2_with fail
            go_ret
            exact ⟨by cases E <;> cases F <;> rfl, HB1.out⟩
          | true =>
            cases E with
            | false =>
              go_enter Tryz.func31, Tryz.ntmps31
              go_wp2_with fail
              refine (key_any t x _).mono ?_
              rintro e w1 ⟨rfl, hb⟩
              obtain ⟨R1, hb1⟩ := PRE.out _ hb
              have HB1 := Lib.hid hb1
              rw [QA.out]
              clear hb hb1 a0 a1 a2 a3 a4 lt
              obtain ⟨a0, a1, a2, a3, a4, lt⟩ := R1
              go_wp2_with fail
              go_ret
              exact ⟨by cases F <;> rfl, HB1.out⟩
            | true =>
              cases F with
              | false =>
                go_enter Tryz.func31, Tryz.ntmps31
                go_wp2_with fail
                refine (key_any t x _).mono ?_
                rintro e w1 ⟨rfl, hb⟩
                obtain ⟨R1, hb1⟩ := PRE.out _ hb
                have HB1 := Lib.hid hb1
                rw [QA.out]
                clear hb hb1 a0 a1 a2 a3 a4 lt
                obtain ⟨a0, a1, a2, a3, a4, lt⟩ := R1
                go_wp2_with fail
                go_ret
                exact ⟨by rfl, HB1.out⟩
              | true =>
                go_enter Tryz.func31, Tryz.ntmps31
                go_wp2_with fail
                refine (key_any t x _).mono ?_
                rintro e w1 ⟨rfl, hb⟩
                obtain ⟨R1, hb1⟩ := PRE.out _ hb
                have HB1 := Lib.hid hb1
                rw [QA.out]
                clear hb hb1 a0 a1 a2 a3 a4 lt
                obtain ⟨a0, a1, a2, a3, a4, lt⟩ := R1
                go_wp2_with fail
                go_ret
                exact ⟨by rfl, HB1.out⟩
      | true =>
        have hc : 1024 < s.size := of_decide_eq_true qc
        go_enter Tryz.func31, Tryz.ntmps31
        go_wp2_with fail
        refine (key_any t x _).mono ?_
        rintro e w1 ⟨rfl, hb⟩
        obtain ⟨R1, hb1⟩ := PRE.out _ hb
        have HB1 := Lib.hid hb1
        rw [QA.out]
        clear hb hb1 a0 a1 a2 a3 a4 lt
        obtain ⟨a0, a1, a2, a3, a4, lt⟩ := R1
        go_wp2_with fail
        go_ret
        exact ⟨by cases g <;> cases D <;> cases E <;> cases F <;> rfl, HB1.out⟩
    | true =>
      go_enter Tryz.func31, Tryz.ntmps31
      go_wp2_with fail
      refine (key_any t x _).mono ?_
      rintro e w1 ⟨rfl, hb⟩
      obtain ⟨R1, hb1⟩ := PRE.out _ hb
      have HB1 := Lib.hid hb1
      rw [QA.out]
      clear hb hb1 a0 a1 a2 a3 a4 lt
      obtain ⟨a0, a1, a2, a3, a4, lt⟩ := R1
      go_wp2_with fail
      go_ret
      exact ⟨by cases C <;> cases g <;> cases D <;> cases E <;> cases F <;> rfl, HB1.out⟩

theorem ord_form (t u : Int) (x y : ByteArray) : ordK t x u y = if (t == u && x.toList == y.toList) = true then 0 else if t < u ∨ (t = u ∧ Op.bytesLess x.toList y.toList = true) then -1 else 1 := by
  have h0 := ord_eq t u x y
  have h1 := ord_vals t u x y
  have h2 := ord_le t u x y
  have h3 := cmpS_zero x y
  have h4 : cmpS x y = -1 ↔ Op.bytesLess x.toList y.toList = true := by
    unfold cmpS
    cases Op.bytesLess x.toList y.toList
    · simp; split <;> omega
    · simp
  have h5 := cmpS_vals x y
  by_cases he : (t == u && x.toList == y.toList) = true
  · rw [if_pos he]
    rw [he] at h0
    simpa using h0
  · rw [if_neg he]
    have hne : ¬ (t = u ∧ x.toList = y.toList) := by simpa using he
    have hz : ordK t x u y ≠ 0 := by
      intro hz
      rw [hz] at h0
      simp only [beq_self_eq_true] at h0
      exact he h0.symm
    split
    · rename_i hc
      have : ordK t x u y ≤ 0 := h2.2 (by rcases hc with hc | ⟨hc1, hc2⟩; · exact Or.inl hc
                                          · exact Or.inr ⟨hc1, by have := h4.2 hc2; omega⟩)
      omega
    · rename_i hc
      rcases h1 with h1 | h1 | h1
      · exfalso
        have := h2.1 (by omega)
        rcases this with h | ⟨h, k⟩
        · exact hc (Or.inl h)
        · rcases h5 with h5 | h5 | h5
          · exact hc (Or.inr ⟨h, h4.1 h5⟩)
          · exact hne ⟨h, h3.1 h5⟩
          · omega
      · exact absurd h1 hz
      · exact h1

set_option maxRecDepth 100000 in
set_option maxHeartbeats 2000000 in
theorem rorder_any (t u : Int) (x y : ByteArray) (w : World) : Calls Tryz.prog 29 #[kyV t x, kyV u y] w fun e w' => e = .returned (.int .i64 (ordK t x u y)) ∧ Below w.heap.size w w' := by
  have gK := ck_guardKey
  have eK := fun W => ck_eqlKey t u x y W
  have HF := Lib.hid (ord_form t u x y)
  obtain ⟨E, hE⟩ : ∃ E, (t == u && x.toList == y.toList) = E := ⟨_, rfl⟩
  simp only [hE] at eK
  have HE := Lib.hid hE
  clear hE
  cases E with
  | true =>
    have HR := Lib.hid (show ordK t x u y = 0 by rw [HF.out, HE.out]; rfl)
    go_enter Tryz.func29, Tryz.ntmps29
    go_wp2_with fail
    go_ret
    exact ⟨by rw [HR.out]; rfl, ((Below.refl _ _).alloc (Nat.le_refl _) _).alloc (by simp) _⟩
  | false =>
    by_cases h1 : t < u
    · have HR := Lib.hid (show ordK t x u y = -1 by rw [HF.out, HE.out, if_neg (by decide), if_pos (Or.inl h1)])
      have q1 : decide (t < u) = true := by simpa using h1
      go_enter Tryz.func29, Tryz.ntmps29
      go_wp2_with fail
      go_ret
      exact ⟨by rw [HR.out]; rfl, ((Below.refl _ _).alloc (Nat.le_refl _) _).alloc (by simp) _⟩
    · have q1 : decide (t < u) = false := by simpa using h1
      by_cases h2 : t = u
      · have q2 : (t == u) = true := by simpa using h2
        cases q3 : Op.bytesLess x.toList y.toList with
        | true =>
          have HR := Lib.hid (show ordK t x u y = -1 by rw [HF.out, HE.out, if_neg (by decide), if_pos (Or.inr ⟨h2, q3⟩)])
          subst h2
          clear q2
          go_enter Tryz.func29, Tryz.ntmps29
          go_wp2_with fail
          go_ret
          exact ⟨by rw [HR.out]; rfl, ((Below.refl _ _).alloc (Nat.le_refl _) _).alloc (by simp) _⟩
        | false =>
          have HR := Lib.hid (show ordK t x u y = 1 by rw [HF.out, HE.out, if_neg (by decide), if_neg (by rintro (h | ⟨_, h⟩); · exact h1 h
                                                                                                          · rw [q3] at h; cases h)])
          subst h2
          clear q2
          go_enter Tryz.func29, Tryz.ntmps29
          go_wp2_with fail
          go_ret
          exact ⟨by rw [HR.out]; rfl, ((Below.refl _ _).alloc (Nat.le_refl _) _).alloc (by simp) _⟩
      · have q2 : (t == u) = false := by simpa using h2
        have HR := Lib.hid (show ordK t x u y = 1 by rw [HF.out, HE.out, if_neg (by decide), if_neg (by rintro (h | ⟨h, _⟩); · exact h1 h
                                                                                                        · exact h2 h)])
        clear h2
        go_enter Tryz.func29, Tryz.ntmps29
        go_wp2_with fail
        go_ret
        exact ⟨by rw [HR.out]; rfl, ((Below.refl _ _).alloc (Nat.le_refl _) _).alloc (by simp) _⟩

end Go.Proofs.YtjolgalfjahceaaGreatDoor
