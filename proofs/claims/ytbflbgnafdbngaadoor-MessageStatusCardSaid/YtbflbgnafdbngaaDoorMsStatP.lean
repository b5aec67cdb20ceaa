/- message: what was put of a status is got: plain. -/
import Derived.Test.YtbflbgnafdbngaaDoorMsStR
import Derived.Test.YtbflbgnafdbngaaDoorVrPs
import Derived.Test.YtbflbgnafdbngaaDoorMsName
namespace Go.Proofs.YtbflbgnafdbngaaDoor
open Go.RowKit Go.Lib

theorem Ps.nmb' (num : Int) (n : Nat) (hn : n < 2 ^ 64) (h1 : 1 ≤ num) (h2 : num ≤ 536870911) : Ps (nmb num n) (if n = 0 then [] else [⟨num.toNat, 0, n, []⟩]) := by
  unfold nmb
  split
  · exact Ps.nil
  · exact Ps.number num n hn h1 h2
theorem Ps.txt' (num : Int) (s : ByteArray) (hs : s.size < 2 ^ 64) (h1 : 1 ≤ num) (h2 : num ≤ 536870911) : Ps (txt num s) (if s.size = 0 then [] else [⟨num.toNat, 2, 0, s.data.toList⟩]) := by
  unfold txt
  split
  · exact Ps.nil
  · exact Ps.text num s hs h1 h2
theorem Ps.flg' (num : Int) (f : Bool) (h1 : 1 ≤ num) (h2 : num ≤ 536870911) : Ps (flg num f) (if f then [⟨num.toNat, 0, 1, []⟩] else []) := by
  unfold flg
  split
  · exact Ps.number num 1 (by decide) h1 h2
  · exact Ps.nil
theorem takes_kind (n : Nat) (r : List Fd) : takes statStep ss0 ((if n = 0 then [] else [⟨1, 0, n, []⟩]) ++ r) = takes statStep ⟨n, [], 0, 0, []⟩ r := by
  split
  · rename_i h; rw [h]; rfl
  · rfl
theorem takes_x (n : Nat) (s : ByteArray) (r : List Fd) : takes statStep ⟨n, [], 0, 0, []⟩ ((if s.size = 0 then [] else [⟨2, 2, 0, s.data.toList⟩]) ++ r) = takes statStep ⟨n, s.data.toList, 0, 0, []⟩ r := by
  split
  · rename_i h
    obtain rfl := ba_nil h
    rfl
  · rfl
theorem takes_q (n : Nat) (x : List UInt8) (q : Nat) (r : List Fd) : takes statStep ⟨n, x, 0, 0, []⟩ ((if q = 0 then [] else [⟨3, 0, q, []⟩]) ++ r) = takes statStep ⟨n, x, q, 0, []⟩ r := by
  split
  · rename_i h; rw [h]; rfl
  · rfl
theorem takes_f (n : Nat) (x : List UInt8) (q : Nat) (f : Bool) (r : List Fd) : takes statStep ⟨n, x, q, 0, []⟩ ((if f then [⟨4, 0, 1, []⟩] else []) ++ r) = takes statStep ⟨n, x, q, if f then 1 else 0, []⟩ r := by
  cases f <;> rfl
theorem takes_s (n : Nat) (x : List UInt8) (q f : Nat) (s : ByteArray) : takes statStep ⟨n, x, q, f, []⟩ (if s.size = 0 then [] else [⟨5, 2, 0, s.data.toList⟩]) = (⟨n, x, q, f, s.data.toList⟩, none) := by
  split
  · rename_i h
    obtain rfl := ba_nil h
    rfl
  · rfl
/-- The fields of a status' bytes. -/
theorem statP_put (r : St) (k : Nat) (ht : r.t = (k : Int)) (hk : k < 2 ^ 63) (hq : r.q < 2 ^ 64) (hx : r.x.size < 2 ^ 64) (hs : r.s.size < 2 ^ 64) : msgP statStep ss0 4 r.put = (⟨k, r.x.data.toList, r.q, if r.f then 1 else 0, r.s.data.toList⟩, none) := by
  have hw : (IntKind.u64.wrap r.t).toNat = k := by
    rw [ht, show IntKind.u64.wrap (k : Int) = (k : Int) % 18446744073709551616 from rfl]
    omega
  unfold msgP
  rw [if_pos (by rfl)]
  show takeP statStep ss0 (nmb 1 (IntKind.u64.wrap r.t).toNat ++ txt 2 r.x ++ nmb 3 r.q ++ flg 4 r.f ++ txt 5 r.s) = _
  rw [hw]
  have h := (((((Ps.nmb' 1 k (by omega) (by decide) (by decide)).app (Ps.txt' 2 r.x hx (by decide) (by decide))).app (Ps.nmb' 3 r.q hq (by decide) (by decide))).app (Ps.flg' 4 r.f (by decide) (by decide))).app (Ps.txt' 5 r.s hs (by decide) (by decide))).whole
  unfold takeP
  rw [h]
  show takes statStep ss0 (((((if k = 0 then [] else [⟨1, 0, k, []⟩]) ++ (if r.x.size = 0 then [] else [⟨2, 2, 0, r.x.data.toList⟩])) ++ (if r.q = 0 then [] else [⟨3, 0, r.q, []⟩])) ++ (if r.f then [⟨4, 0, 1, []⟩] else [])) ++ (if r.s.size = 0 then [] else [⟨5, 2, 0, r.s.data.toList⟩])) = _
  rw [List.append_assoc, List.append_assoc, List.append_assoc, takes_kind, takes_x, takes_q, takes_f, takes_s]
/-- What was put is got. -/
theorem statR_put (r : St) (k : Nat) (ht : r.t = (k : Int)) (hk : k < 2 ^ 63) (hq : r.q < 2 ^ 64) (hx : r.x.size < 2 ^ 64) (hs : r.s.size < 2 ^ 64) (hok : r.ok = true) : statR r.put = (r, none) := by
  have hw := r.wrong_is.1
  rw [hok] at hw
  have hw' : r.wrong = none := by cases h : r.wrong with | none => rfl | some x => rw [h] at hw; cases hw
  have hk5 : k ≤ 5 := by
    unfold St.ok at hok
    simp only [Bool.and_eq_true, decide_eq_true_eq] at hok
    have := hok.1.1.1.1.2
    omega
  have hm := statP_put r k ht hk hq hx hs
  have hv : statV r.put = r := by
    unfold statV
    rw [hm]
    obtain ⟨t, x, q, f, s⟩ := r
    dsimp only at ht ⊢
    subst ht
    cases f <;> rfl
  unfold statR
  have he : statE r.put = none := by
    unfold statE
    rw [hm]
    dsimp only
    rw [decide_eq_true hk5]
    cases r.f <;> rfl
  rw [he]
  dsimp only
  rw [hv, hw']
/-- The law's names are right but for the star. -/
theorem nmc_ok (b : Nat) : nmOk ⟨(nmC b).toArray⟩ = !decide (b % 16 = 15) := by
  unfold nmC
  by_cases h : b % 16 = 15
  · rw [if_pos h, decide_eq_true h]; rfl
  · rw [if_neg h, decide_eq_false h]
    have h1 : b % 12 < 12 := Nat.mod_lt _ (by decide)
    have h2 : b / 16 % 3 < 3 := Nat.mod_lt _ (by decide)
    generalize b % 12 = i at h1 ⊢
    generalize b / 16 % 3 = j at h2 ⊢
    have : ∀ i, i < 12 → ∀ j, j < 3 → nmOk ⟨(UInt8.ofNat (97 + i) :: sufT.getD j []).toArray⟩ = true := by decide +kernel
    exact this i h1 j h2
end Go.Proofs.YtbflbgnafdbngaaDoor
