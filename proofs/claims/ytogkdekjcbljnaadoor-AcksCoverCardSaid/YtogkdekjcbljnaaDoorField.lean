/- fixedSize, isNum, isKind, checkField: the walks. -/
import Derived.Test.YtogkdekjcbljnaaDoorRead
import Derived.BigGuardPart
namespace Go.Proofs.YtogkdekjcbljnaaDoor
open Go.RowKit

def fsz (k : Int) : Int := if k = 1 then 8 else if k = 5 then 4 else 0
def numB (n : Int) : Bool := decide (1 ≤ n ∧ n ≤ 536870911)
def kindB (k : Int) : Bool := decide (k = 0 ∨ k = 1 ∨ k = 2 ∨ k = 5)

theorem fsz_any (k : Int) (w : World) : Calls Tryd.prog 86 #[.int .i64 k] w fun e w' => e = .returned (.int .i64 (fsz k)) ∧ w = w' := by
  by_cases h1 : k = 1
  · subst h1
    go_enter Tryd.func86, Tryd.ntmps86
    go_wp2
    go_ret
    exact ⟨rfl, rfl⟩
  · by_cases h5 : k = 5
    · subst h5
      go_enter Tryd.func86, Tryd.ntmps86
      go_wp2
      go_ret
      exact ⟨rfl, rfl⟩
    · have H := Lib.hid (show fsz k = 0 by simp [fsz, h1, h5])
      go_enter Tryd.func86, Tryd.ntmps86
      go_wp2
      go_ret
      exact ⟨by rw [H.out]; rfl, rfl⟩

theorem fsz_quiet (k : Int) (w : World) (n : Nat) : Calls Tryd.prog 86 #[.int .i64 k] (w.drewN n) fun e w'' => e = .returned (.int .i64 (fsz k)) ∧ ∃ m, w'' = w.drewN m :=
  (fsz_any k _).mono fun _ _ ⟨he, hw⟩ => ⟨he, n, hw.symm⟩

theorem isNum_any (n : Int) (w : World) : Calls Tryd.prog 84 #[.int .i64 n] w fun e w' => e = .returned (.bool (numB n)) ∧ w = w' := by
  by_cases h1 : 1 ≤ n
  · have H := Lib.hid (show numB n = decide (n ≤ 536870911) by simp [numB, h1])
    go_enter Tryd.func84, Tryd.ntmps84
    go_wp2
    go_ret
    exact ⟨by rw [H.out]; rfl, rfl⟩
  · have H := Lib.hid (show numB n = false by simp [numB, h1])
    go_enter Tryd.func84, Tryd.ntmps84
    go_wp2
    go_ret
    exact ⟨by rw [H.out]; rfl, rfl⟩

theorem isKind_any (k : Int) (w : World) : Calls Tryd.prog 85 #[.int .i64 k] w fun e w' => e = .returned (.bool (kindB k)) ∧ w = w' := by
  by_cases h0 : k = 0
  · subst h0
    go_enter Tryd.func85, Tryd.ntmps85
    go_wp2
    go_ret
    exact ⟨rfl, rfl⟩
  · by_cases h2 : k = 2
    · subst h2
      go_enter Tryd.func85, Tryd.ntmps85
      go_wp2
      go_ret
      exact ⟨rfl, rfl⟩
    · have H := Lib.hid (show kindB k = decide (0 < fsz k) by by_cases h1 : k = 1 <;> by_cases h5 : k = 5 <;> simp_all [kindB, fsz])
      go_enter Tryd.func85, Tryd.ntmps85
      go_wp2_with (go_at_call 86; refine (fsz_any _ _).mono ?_; rintro e w' ⟨rfl, rfl⟩)
      go_ret
      exact ⟨by rw [H.out]; rfl, rfl⟩

/-- A Field as the program has it. -/
abbrev fdV (num kind : Int) (n : Nat) (s : ByteArray) : Value := .agg #[.int .i64 num, .int .i64 kind, .int .u64 n, .string s]
/-- May it be put? -/
def okF (num kind : Int) (n : Nat) (s : ByteArray) : Bool := numB num && kindB kind && !(decide (kind ≠ 0 ∧ n ≠ 0)) && !(decide (kind ≠ 2 ∧ (s.size : Int) ≠ fsz kind))

theorem Gv.alloc {b : Addr} {w : World} (h : Gv b w) (o : Obj) : Gv b (w.alloc o) := h.below ((Below.refl _ _).alloc (Nat.le_refl _) _)

theorem okF_facts {num kind : Int} {n : Nat} {s : ByteArray} (h : okF num kind n s = true) : numB num = true ∧ kindB kind = true ∧ (kind = 0 ∨ n = 0) ∧ (kind = 2 ∨ (s.size : Int) = fsz kind) := by
  simp [okF] at h
  obtain ⟨⟨⟨h1, h2⟩, h3⟩, h4⟩ := h
  exact ⟨h1, h2, by by_cases e : kind = 0 <;> simp_all, by by_cases e : kind = 2 <;> simp_all⟩
theorem kindB_cases {kind : Int} (h : kindB kind = true) : kind = 0 ∨ kind = 1 ∨ kind = 2 ∨ kind = 5 := by simpa [kindB] using h

set_option maxRecDepth 100000 in
theorem checkField_ok (num kind : Int) (n : Nat) (s : ByteArray) (b : Addr) (w : World) (hg : Gv b w) (ho : okF num kind n s = true) :
    Calls Tryd.prog 82 #[fdV num kind n s] w fun e w' => e = .returned .nilIface ∧ Below w.heap.size w w' := by
  have hc := fun o => (hg.alloc o).1
  obtain ⟨h1, h2, h3, h4⟩ := okF_facts ho
  have hk := kindB_cases h2
  have H1 := Lib.hid h1; clear h1
  have H2 := Lib.hid h2; clear h2
  clear ho
  rcases hk with rfl | rfl | rfl | rfl
  · have hs : ((s.size : Int) != fsz 0) = false := by
      rcases h4 with h | h
      · omega
      · simp [h]
    clear h4 h3
    go_enter Tryd.func82, Tryd.ntmps82
    go_wp2_with (first | (go_at_call 84; refine (isNum_any _ _).mono ?_; rw [H1.out]; rintro e w' ⟨rfl, rfl⟩) | (go_at_call 85; refine (isKind_any _ _).mono ?_; rw [H2.out]; rintro e w' ⟨rfl, rfl⟩))
    go_quiet ((go_at_call 86; exact fsz_quiet _ _ _))
    go_wp2
    go_ret
    exact ⟨rfl, below_drewN ((Below.refl _ _).alloc (Nat.le_refl _) _) _⟩
  · have hs : ((s.size : Int) != fsz 1) = false := by
      rcases h4 with h | h
      · omega
      · simp [h]
    obtain rfl : n = 0 := by
      rcases h3 with h | h
      · omega
      · exact h
    clear h4 h3
    go_enter Tryd.func82, Tryd.ntmps82
    go_wp2_with (first | (go_at_call 84; refine (isNum_any _ _).mono ?_; rw [H1.out]; rintro e w' ⟨rfl, rfl⟩) | (go_at_call 85; refine (isKind_any _ _).mono ?_; rw [H2.out]; rintro e w' ⟨rfl, rfl⟩))
    go_quiet ((go_at_call 86; exact fsz_quiet _ _ _))
    go_wp2
    go_ret
    exact ⟨rfl, below_drewN ((Below.refl _ _).alloc (Nat.le_refl _) _) _⟩
  · obtain rfl : n = 0 := by
      rcases h3 with h | h
      · omega
      · exact h
    clear h4 h3
    go_enter Tryd.func82, Tryd.ntmps82
    go_wp2_with (first | (go_at_call 84; refine (isNum_any _ _).mono ?_; rw [H1.out]; rintro e w' ⟨rfl, rfl⟩) | (go_at_call 85; refine (isKind_any _ _).mono ?_; rw [H2.out]; rintro e w' ⟨rfl, rfl⟩))
    go_quiet ((go_at_call 86; exact fsz_quiet _ _ _))
    go_wp2
    go_ret
    exact ⟨rfl, below_drewN ((Below.refl _ _).alloc (Nat.le_refl _) _) _⟩
  · have hs : ((s.size : Int) != fsz 5) = false := by
      rcases h4 with h | h
      · omega
      · simp [h]
    obtain rfl : n = 0 := by
      rcases h3 with h | h
      · omega
      · exact h
    clear h4 h3
    go_enter Tryd.func82, Tryd.ntmps82
    go_wp2_with (first | (go_at_call 84; refine (isNum_any _ _).mono ?_; rw [H1.out]; rintro e w' ⟨rfl, rfl⟩) | (go_at_call 85; refine (isKind_any _ _).mono ?_; rw [H2.out]; rintro e w' ⟨rfl, rfl⟩))
    go_quiet ((go_at_call 86; exact fsz_quiet _ _ _))
    go_wp2
    go_ret
    exact ⟨rfl, below_drewN ((Below.refl _ _).alloc (Nat.le_refl _) _) _⟩

set_option maxRecDepth 100000 in
theorem checkField_no (num kind : Int) (n : Nat) (s : ByteArray) (b : Addr) (w : World) (hg : Gv b w) (ho : okF num kind n s = false) :
    Calls Tryd.prog 82 #[fdV num kind n s] w fun e w' => e = .returned (Tryd.S b) ∧ Below w.heap.size w w' := by
  have hc := fun o => (hg.alloc o).1
  cases h1 : numB num with
  | false =>
    have H1 := Lib.hid h1; clear h1
    clear ho
    go_enter Tryd.func82, Tryd.ntmps82
    go_wp2_with (go_at_call 84; refine (isNum_any _ _).mono ?_; rw [H1.out]; rintro e w' ⟨rfl, rfl⟩)
    go_ret
    exact ⟨rfl, (Below.refl _ _).alloc (Nat.le_refl _) _⟩
  | true =>
    cases h2 : kindB kind with
    | false =>
      have H1 := Lib.hid h1; clear h1
      have H2 := Lib.hid h2; clear h2
      clear ho
      go_enter Tryd.func82, Tryd.ntmps82
      go_wp2_with (first | (go_at_call 84; refine (isNum_any _ _).mono ?_; rw [H1.out]; rintro e w' ⟨rfl, rfl⟩) | (go_at_call 85; refine (isKind_any _ _).mono ?_; rw [H2.out]; rintro e w' ⟨rfl, rfl⟩))
      go_ret
      exact ⟨rfl, (Below.refl _ _).alloc (Nat.le_refl _) _⟩
    | true =>
      by_cases h3 : kind ≠ 0 ∧ n ≠ 0
      · obtain ⟨h30, h3n⟩ := h3
        have H1 := Lib.hid h1; clear h1
        have H2 := Lib.hid h2; clear h2
        clear ho
        go_enter Tryd.func82, Tryd.ntmps82
        go_wp2_with (first | (go_at_call 84; refine (isNum_any _ _).mono ?_; rw [H1.out]; rintro e w' ⟨rfl, rfl⟩) | (go_at_call 85; refine (isKind_any _ _).mono ?_; rw [H2.out]; rintro e w' ⟨rfl, rfl⟩))
        go_ret
        exact ⟨rfl, (Below.refl _ _).alloc (Nat.le_refl _) _⟩
      · have h4 : kind ≠ 2 ∧ (s.size : Int) ≠ fsz kind := by
          by_cases h4 : kind ≠ 2 ∧ (s.size : Int) ≠ fsz kind
          · exact h4
          · simp [okF, h1, h2] at ho; exact ho (by by_cases e : kind = 0 <;> simp_all)
        obtain ⟨h42, h4s⟩ := h4
        have hs : ((s.size : Int) != fsz kind) = true := by simpa using h4s
        clear h4s
        have H1 := Lib.hid h1; clear h1
        have hk := kindB_cases h2
        have H2 := Lib.hid h2; clear h2
        clear ho
        rcases hk with rfl | rfl | rfl | rfl
        · clear h3
          go_enter Tryd.func82, Tryd.ntmps82
          go_wp2_with (first | (go_at_call 84; refine (isNum_any _ _).mono ?_; rw [H1.out]; rintro e w' ⟨rfl, rfl⟩) | (go_at_call 85; refine (isKind_any _ _).mono ?_; rw [H2.out]; rintro e w' ⟨rfl, rfl⟩))
          go_quiet ((go_at_call 86; exact fsz_quiet _ _ _))
          go_wp2
          go_ret
          exact ⟨rfl, below_drewN ((Below.refl _ _).alloc (Nat.le_refl _) _) _⟩
        · obtain rfl : n = 0 := by omega
          clear h3
          go_enter Tryd.func82, Tryd.ntmps82
          go_wp2_with (first | (go_at_call 84; refine (isNum_any _ _).mono ?_; rw [H1.out]; rintro e w' ⟨rfl, rfl⟩) | (go_at_call 85; refine (isKind_any _ _).mono ?_; rw [H2.out]; rintro e w' ⟨rfl, rfl⟩))
          go_quiet ((go_at_call 86; exact fsz_quiet _ _ _))
          go_wp2
          go_ret
          exact ⟨rfl, below_drewN ((Below.refl _ _).alloc (Nat.le_refl _) _) _⟩
        · omega
        · obtain rfl : n = 0 := by omega
          clear h3
          go_enter Tryd.func82, Tryd.ntmps82
          go_wp2_with (first | (go_at_call 84; refine (isNum_any _ _).mono ?_; rw [H1.out]; rintro e w' ⟨rfl, rfl⟩) | (go_at_call 85; refine (isKind_any _ _).mono ?_; rw [H2.out]; rintro e w' ⟨rfl, rfl⟩))
          go_quiet ((go_at_call 86; exact fsz_quiet _ _ _))
          go_wp2
          go_ret
          exact ⟨rfl, below_drewN ((Below.refl _ _).alloc (Nat.le_refl _) _) _⟩
end Go.Proofs.YtogkdekjcbljnaaDoor
