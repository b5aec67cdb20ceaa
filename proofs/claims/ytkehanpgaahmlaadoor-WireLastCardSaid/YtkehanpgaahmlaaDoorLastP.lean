/- Plain: numbers of three Nums put one behind the other, and parsed; no program's walk. -/
import Derived.Test.YtkehanpgaahmlaaDoorAppend
import Derived.Test.YtkehanpgaahmlaaDoorWith
namespace Go.Proofs.YtkehanpgaahmlaaDoor

def fdz (z : Nat) : Fd := ⟨1 + z % 3, 0, z, []⟩
def numsL (zs : List Nat) : List UInt8 := zs.flatMap fun z => numberL (1 + ((z % 3 : Nat) : Int)) z
def wz (M : Nat) (zs : List Nat) : List Nat := zs.filter fun z => decide (z % 3 = M)

theorem numsL_snoc (zs : List Nat) (z : Nat) : numsL (zs ++ [z]) = numsL zs ++ numberL (1 + ((z % 3 : Nat) : Int)) z := by simp [numsL]
theorem wz_yes {M : Nat} (zs : List Nat) {z : Nat} (h : z % 3 = M) : wz M (zs ++ [z]) = wz M zs ++ [z] := by simp [wz, h]
theorem wz_no {M : Nat} (zs : List Nat) {z : Nat} (h : ¬ z % 3 = M) : wz M (zs ++ [z]) = wz M zs := by simp [wz, h]
theorem wz_len (M : Nat) (zs : List Nat) : (wz M zs).length ≤ zs.length := List.length_filter_le _ _

theorem parse_nums : ∀ (zs : List Nat), (∀ z ∈ zs, z < 2 ^ 64) → parse (numsL zs) = some (zs.map fdz)
  | [], _ => parse_nil
  | z :: zs, h => by
    have h1 := parse_number (1 + ((z % 3 : Nat) : Int)) z (numsL zs) (h z (by simp)) (by omega) (by omega)
    have h2 := parse_nums zs (fun y hy => h y (by simp [hy]))
    have e : numsL (z :: zs) = numberL (1 + ((z % 3 : Nat) : Int)) z ++ numsL zs := rfl
    rw [e, h1, h2]
    have e2 : (1 + ((z % 3 : Nat) : Int)).toNat = 1 + z % 3 := by omega
    rw [e2]
    rfl

theorem withL_nums (M : Nat) (zs : List Nat) : withL (1 + (M : Int)) (zs.map fdz) = (wz M zs).map fdz := by
  induction zs with
  | nil => rfl
  | cons z zs ih =>
    unfold withL wz at ih ⊢
    rw [List.map_cons, List.filter_cons, List.filter_cons, ih]
    have e : hasNum (1 + (M : Int)) (fdz z) = decide (z % 3 = M) := by
      rw [Bool.eq_iff_iff]; simp [hasNum, fdz]; omega
    rw [e]
    split <;> rfl
end Go.Proofs.YtkehanpgaahmlaaDoor
