/- check: Right; the reference's Name, Key, Order, Right: the walks. -/
import Derived.Test.YtdaelapamkmcaaaDoorCkOrdP
namespace Go.Proofs.YtdaelapamkmcaaaDoor
open Go.RowKit

abbrev rsV (t : Int) (x : ByteArray) (q : Int) (g : Bool) (s : ByteArray) : Value := .agg #[.int .i64 t, .string x, .int .u64 q, .bool g, .string s]
/-- Is it a version of a resource? -/
def rsOk (t : Int) (x : ByteArray) (q : Int) (g : Bool) (s : ByteArray) : Bool :=
  kyOk t x && (!(starB x) && (!(decide (1024 < s.size)) && (!(g && !(s.toList.isEmpty)) && (decide (1 ≤ q) && decide (q ≤ 4611686018427387904)))))
structure RsAt (W : World) (g0 : Nat) (t : Int) (x : ByteArray) (q : Int) (g : Bool) (s : ByteArray) : Prop where
  a0 : W.cell? ⟨g0, 0, none⟩ = some (.int .i64 t)
  a1 : W.cell? ⟨g0, 1, none⟩ = some (.string x)
  a2 : W.cell? ⟨g0, 2, none⟩ = some (.int .u64 q)
  a3 : W.cell? ⟨g0, 3, none⟩ = some (.bool g)
  a4 : W.cell? ⟨g0, 4, none⟩ = some (.string s)
  lt : g0 < W.heap.size
theorem RsAt.below {W W' : World} {g0 : Nat} {t : Int} {x : ByteArray} {q : Int} {g : Bool} {s : ByteArray} (h : RsAt W g0 t x q g s) (hb : Below W.heap.size W W') : RsAt W' g0 t x q g s :=
  ⟨(hb.cell (p := ⟨g0, 0, none⟩) h.lt).trans h.a0, (hb.cell (p := ⟨g0, 1, none⟩) h.lt).trans h.a1, (hb.cell (p := ⟨g0, 2, none⟩) h.lt).trans h.a2, (hb.cell (p := ⟨g0, 3, none⟩) h.lt).trans h.a3, (hb.cell (p := ⟨g0, 4, none⟩) h.lt).trans h.a4, Nat.lt_of_lt_of_le h.lt hb.size⟩
set_option maxRecDepth 100000 in
set_option maxHeartbeats 2000000 in
theorem rname_any (s : ByteArray) (w : World) (hs0 : s.size ≤ maxLen) : Calls Tryd.prog 52 #[.string s] w fun e w' => e = .returned (.bool (nmOk s)) ∧ w = w' := by
  have hs : s.size ≤ 9223372036854775807 := by unfold maxLen at hs0; omega
  clear hs0
  go_enter Tryd.func52, Tryd.ntmps52
  go_wp2
  go_loop [3] (fun i => ∃ j : Nat, i = .int .i64 j ∧ j ≤ s.size ∧ ∀ i (hi : i < s.size), i < j → nmB (s[i].toNat : Int) = true) (fun i => s.size - (intOf i).toNat)
  case atStart => exact ⟨0, rfl, Nat.zero_le _, fun _ _ h => by omega⟩
  case round =>
    obtain ⟨j, rfl, hj, hr⟩ := hrel
    have HR := Lib.hid hr; clear hr
    by_cases hjs : j < s.size
    · obtain ⟨X, hX⟩ : ∃ X : Int, (s[j].toNat : Int) = X := ⟨_, rfl⟩
      have HX := Lib.hid hX
      by_cases g1 : X = 45 ∨ X = 46 ∨ X = 47
      · have HG := Lib.hid (show nmB X = true by rcases g1 with rfl | rfl | rfl <;> rfl)
        rcases g1 with rfl | rfl | rfl
        all_goals
          go_wp2
          exact ⟨⟨j + 1, by go_num, by omega, fun i hi h => by
            by_cases he : i = j
            · subst he; rw [HX.out]; exact HG.out
            · exact HR.out i hi (by omega)⟩, by simp [intOf]; omega⟩
      · have q1 : (X == 45) = false := by simp; omega
        have q2 : (X == 46) = false := by simp; omega
        have q3 : (X == 47) = false := by simp; omega
        obtain ⟨A, qa⟩ : ∃ A, decide (97 ≤ X) = A := ⟨_, rfl⟩
        obtain ⟨B, qb⟩ : ∃ B, decide (X ≤ 122) = B := ⟨_, rfl⟩
        obtain ⟨C, qc⟩ : ∃ C, decide (48 ≤ X) = C := ⟨_, rfl⟩
        obtain ⟨D, qd⟩ : ∃ D, decide (X ≤ 57) = D := ⟨_, rfl⟩
        have e : nmB X = (A && B || C && D) := by simp only [nmB, q1, q2, q3, qa, qb, qc, qd, Bool.false_or]
        have HE := Lib.hid e
        clear e g1
        by_cases hgood : (A && B || C && D) = true
        · have HG := Lib.hid hgood
          cases A <;> cases B <;> cases C <;> cases D <;> first | (exact absurd HG.out (by decide)) | skip
          all_goals
            clear hgood
            go_wp2
            exact ⟨⟨j + 1, by go_num, by omega, fun i hi h => by
              by_cases he : i = j
              · subst he; rw [HX.out, HE.out]; rfl
              · exact HR.out i hi (by omega)⟩, by simp [intOf]; omega⟩
        · have HG := Lib.hid hgood
          have HN := Lib.hid (nmOk_bad hjs (by rw [HX.out, HE.out]; simpa using hgood))
          cases A <;> cases B <;> cases C <;> cases D <;> first | (exact absurd rfl HG.out) | skip
          all_goals
            clear hgood
            go_wp2
            go_ret
            exact ⟨by rw [HN.out]; rfl, rfl⟩
    · have hg0 : ∀ i (hi : i < s.size), nmB (s[i].toNat : Int) = true := fun i hi => HR.out i hi (by omega)
      by_cases h1 : 1 ≤ s.size
      · by_cases h2 : s.size ≤ 64
        · have HN := Lib.hid (nmOk_good h1 h2 hg0)
          have HD := Lib.hid (show decide ((s.size : Int) ≤ 64) = true by simp; omega)
          clear hg0
          go_wp2
          go_ret
          exact ⟨by rw [HN.out]; exact congrArg (fun b => Ending.returned (Value.bool b)) HD.out, rfl⟩
        · have HN := Lib.hid (show nmOk s = false by simp [nmOk]; omega)
          have HD := Lib.hid (show decide ((s.size : Int) ≤ 64) = false by simp; omega)
          clear hg0
          go_wp2
          go_ret
          exact ⟨by rw [HN.out]; exact congrArg (fun b => Ending.returned (Value.bool b)) HD.out, rfl⟩
      · have HN := Lib.hid (show nmOk s = false by simp [nmOk]; omega)
        clear hg0
        go_wp2
        go_ret
        exact ⟨by rw [HN.out]; rfl, rfl⟩

set_option maxRecDepth 100000 in
set_option maxHeartbeats 1000000 in
theorem rkey_any (t : Int) (s : ByteArray) (w : World) (hs : s.size ≤ maxLen) : Calls Tryd.prog 29 #[kyV t s] w fun e w' => e = .returned (.bool (kyOk t s)) ∧ Below w.heap.size w w' := by
  have HS := Lib.hid hs
  clear hs
  obtain ⟨A, qa⟩ : ∃ A, decide (1 ≤ t) = A := ⟨_, rfl⟩
  obtain ⟨B, qb⟩ : ∃ B, decide (t ≤ 5) = B := ⟨_, rfl⟩
  obtain ⟨C, qc⟩ : ∃ C, (s.toList == [42]) = C := ⟨_, rfl⟩
  obtain ⟨D, qd⟩ : ∃ D, nmOk s = D := ⟨_, rfl⟩
  have e : kyOk t s = (A && B && (C || D)) := by simp only [kyOk, starB, qa, qb, qc, qd]
  rw [e]
  clear e
  have HD := Lib.hid qd
  clear qd
  cases A <;> cases B <;> cases D
  all_goals
    go_enter Tryd.func29, Tryd.ntmps29
    go_wp2_with fail
    refine (rname_any _ _ HS.out).mono ?_
    rintro e w' ⟨rfl, rfl⟩
    rw [HD.out]
    go_wp2_with fail
    go_ret
    exact ⟨by cases C <;> rfl, (Below.refl _ _).alloc (Nat.le_refl _) _⟩

theorem ord_form (t u : Int) (x y : ByteArray) : ordK t x u y = if (t == u && x.toList == y.toList) = true then 0 else if t < u ∨ (t = u ∧ Op.bytesLess x.toList y.toList = true) then -1 else 1 := by
  have h0 := ord_eq t u x y
  have h1 := ord_vals t u x y
  have h2 := ord_le t u x y
  have h3 := cmpS_zero x y
  have h4 : cmpS x y = -1 ↔ Op.bytesLess x.toList y.toList = true := by
    unfold cmpS
    cases Op.bytesLess x.toList y.toList
    · simp; split <;> omega
    · simp
  have h5 := cmpS_vals x y
  by_cases he : (t == u && x.toList == y.toList) = true
  · rw [if_pos he]
    rw [he] at h0
    simpa using h0
  · rw [if_neg he]
    have hne : ¬ (t = u ∧ x.toList = y.toList) := by simpa using he
    have hz : ordK t x u y ≠ 0 := by
      intro hz
      rw [hz] at h0
      simp only [beq_self_eq_true] at h0
      exact he h0.symm
    split
    · rename_i hc
      have : ordK t x u y ≤ 0 := h2.2 (by rcases hc with hc | ⟨hc1, hc2⟩; · exact Or.inl hc
                                          · exact Or.inr ⟨hc1, by have := h4.2 hc2; omega⟩)
      omega
    · rename_i hc
      rcases h1 with h1 | h1 | h1
      · exfalso
        have := h2.1 (by omega)
        rcases this with h | ⟨h, k⟩
        · exact hc (Or.inl h)
        · rcases h5 with h5 | h5 | h5
          · exact hc (Or.inr ⟨h, h4.1 h5⟩)
          · exact hne ⟨h, h3.1 h5⟩
          · omega
      · exact absurd h1 hz
      · exact h1

set_option maxRecDepth 100000 in
set_option maxHeartbeats 2000000 in
theorem rorder_any (t u : Int) (x y : ByteArray) (w : World) : Calls Tryd.prog 30 #[kyV t x, kyV u y] w fun e w' => e = .returned (.int .i64 (ordK t x u y)) ∧ Below w.heap.size w w' := by
  have gK := ck_guardKey
  have eK := fun W => ck_eqlKey t u x y W
  have HF := Lib.hid (ord_form t u x y)
  obtain ⟨E, hE⟩ : ∃ E, (t == u && x.toList == y.toList) = E := ⟨_, rfl⟩
  simp only [hE] at eK
  have HE := Lib.hid hE
  clear hE
  cases E with
  | true =>
    have HR := Lib.hid (show ordK t x u y = 0 by rw [HF.out, HE.out]; rfl)
    go_enter Tryd.func30, Tryd.ntmps30
    go_wp2_with fail
    go_ret
    exact ⟨by rw [HR.out]; rfl, ((Below.refl _ _).alloc (Nat.le_refl _) _).alloc (by simp) _⟩
  | false =>
    by_cases h1 : t < u
    · have HR := Lib.hid (show ordK t x u y = -1 by rw [HF.out, HE.out, if_neg (by decide), if_pos (Or.inl h1)])
      have q1 : decide (t < u) = true := by simpa using h1
      go_enter Tryd.func30, Tryd.ntmps30
      go_wp2_with fail
      go_ret
      exact ⟨by rw [HR.out]; rfl, ((Below.refl _ _).alloc (Nat.le_refl _) _).alloc (by simp) _⟩
    · have q1 : decide (t < u) = false := by simpa using h1
      by_cases h2 : t = u
      · have q2 : (t == u) = true := by simpa using h2
        cases q3 : Op.bytesLess x.toList y.toList with
        | true =>
          have HR := Lib.hid (show ordK t x u y = -1 by rw [HF.out, HE.out, if_neg (by decide), if_pos (Or.inr ⟨h2, q3⟩)])
          subst h2
          clear q2
          go_enter Tryd.func30, Tryd.ntmps30
          go_wp2_with fail
          go_ret
          exact ⟨by rw [HR.out]; rfl, ((Below.refl _ _).alloc (Nat.le_refl _) _).alloc (by simp) _⟩
        | false =>
          have HR := Lib.hid (show ordK t x u y = 1 by rw [HF.out, HE.out, if_neg (by decide), if_neg (by rintro (h | ⟨_, h⟩); · exact h1 h
                                                                                                          · rw [q3] at h; cases h)])
          subst h2
          clear q2
          go_enter Tryd.func30, Tryd.ntmps30
          go_wp2_with fail
          go_ret
          exact ⟨by rw [HR.out]; rfl, ((Below.refl _ _).alloc (Nat.le_refl _) _).alloc (by simp) _⟩
      · have q2 : (t == u) = false := by simpa using h2
        have HR := Lib.hid (show ordK t x u y = 1 by rw [HF.out, HE.out, if_neg (by decide), if_neg (by rintro (h | ⟨h, _⟩); · exact h1 h
                                                                                                        · exact h2 h)])
        clear h2
        go_enter Tryd.func30, Tryd.ntmps30
        go_wp2_with fail
        go_ret
        exact ⟨by rw [HR.out]; rfl, ((Below.refl _ _).alloc (Nat.le_refl _) _).alloc (by simp) _⟩

end Go.Proofs.YtdaelapamkmcaaaDoor
