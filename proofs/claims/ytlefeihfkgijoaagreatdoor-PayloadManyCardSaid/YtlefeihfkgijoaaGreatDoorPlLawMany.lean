/- payload: PayloadMany: the walks (written by tools/lawmany_gen.py). -/
import Derived.Test.YtlefeihfkgijoaaGreatDoorPlTrip
import Derived.Test.YtlefeihfkgijoaaGreatDoorPlRd
import Derived.Test.YtlefeihfkgijoaaGreatDoorPlEx
import Derived.Test.YtlefeihfkgijoaaGreatDoorPlRow
namespace Go.Proofs.YtlefeihfkgijoaaGreatDoor.lawMany
open Go.RowKit Go.Shelf

def rlS : Rl := ⟨⟨#[47]⟩, ⟨#[]⟩⟩
def adS : Ad := ⟨⟨#[]⟩, 1, 0⟩
def manyR (j : Nat) : Pl := ⟨⟨#[97]⟩, 0, ⟨#[]⟩, List.replicate j rlS, 0, ⟨#[]⟩, [], ⟨#[]⟩⟩
def manyA (j : Nat) : Pl := ⟨⟨#[97]⟩, 0, ⟨#[]⟩, [], 0, ⟨#[]⟩, List.replicate j adS, ⟨#[]⟩⟩
def kR (j : Nat) : Int := if 0 < j then 2 else 4
def rawR (j : Nat) : List UInt8 := (manyR j).puts [0, 3]
def rawA (j : Nat) : List UInt8 := (manyA j).puts [0, 6]
theorem rawR_zero : rawR 0 = [10, 1, 97] := by kernel_rfl
theorem rawA_zero : rawA 0 = [10, 1, 97] := by kernel_rfl
theorem itemR : textL 4 ⟨rlS.all.toArray⟩ = [34, 3, 10, 1, 47] := by kernel_rfl
theorem itemA : textL 7 ⟨adS.all.toArray⟩ = [58, 2, 16, 1] := by kernel_rfl
theorem rawR_eq (j : Nat) : rawR j = [10, 1, 97] ++ (List.replicate j rlS).flatMap fun r => textL 4 ⟨r.all.toArray⟩ := by
  have h : txtL 1 (⟨#[97]⟩ : ByteArray) = [10, 1, 97] := by kernel_rfl
  show txtL 1 (⟨#[97]⟩ : ByteArray) ++ (((List.replicate j rlS).flatMap fun r => textL 4 ⟨r.all.toArray⟩) ++ []) = _
  rw [h, List.append_nil]
theorem rawA_eq (j : Nat) : rawA j = [10, 1, 97] ++ (List.replicate j adS).flatMap fun r => textL 7 ⟨r.all.toArray⟩ := by
  have h : txtL 1 (⟨#[97]⟩ : ByteArray) = [10, 1, 97] := by kernel_rfl
  show txtL 1 (⟨#[97]⟩ : ByteArray) ++ (((List.replicate j adS).flatMap fun r => textL 7 ⟨r.all.toArray⟩) ++ []) = _
  rw [h, List.append_nil]
theorem rawR_succ (j : Nat) : rawR (j + 1) = rawR j ++ [34, 3, 10, 1, 47] := by
  rw [rawR_eq, rawR_eq, List.replicate_succ', List.flatMap_append, List.flatMap_singleton, itemR, List.append_assoc]
theorem rawA_succ (j : Nat) : rawA (j + 1) = rawA j ++ [58, 2, 16, 1] := by
  rw [rawA_eq, rawA_eq, List.replicate_succ', List.flatMap_append, List.flatMap_singleton, itemA, List.append_assoc]
theorem rawR_len : ∀ j, (rawR j).length = 3 + 5 * j
  | 0 => by rw [rawR_zero]; rfl
  | j + 1 => by rw [rawR_succ, List.length_append, rawR_len j]; simp only [List.length_cons, List.length_nil]; omega
theorem rawA_len : ∀ j, (rawA j).length = 3 + 4 * j
  | 0 => by rw [rawA_zero]; rfl
  | j + 1 => by rw [rawA_succ, List.length_append, rawA_len j]; simp only [List.length_cons, List.length_nil]; omega
theorem bs_append (a b : List UInt8) : (⟨a.toArray⟩ : ByteArray) ++ ⟨b.toArray⟩ = ⟨(a ++ b).toArray⟩ := by
  apply ByteArray.ext
  simp

theorem onlyR (j : Nat) : OnlyOf 2 (manyR j) := by
  intro i hi hn
  match i, hi, hn with
  | 1, _, _ => rfl
  | 2, _, _ => rfl
  | 3, _, hn => exact absurd (by decide) hn
  | 4, _, _ => rfl
  | 5, _, _ => rfl
  | 6, _, _ => rfl
  | 7, _, _ => rfl
  | i + 8, _, _ => exact trivial
theorem onlyA (j : Nat) : OnlyOf 4 (manyA j) := by
  intro i hi hn
  match i, hi, hn with
  | 1, _, _ => rfl
  | 2, _, _ => rfl
  | 3, _, _ => rfl
  | 4, _, _ => rfl
  | 5, _, _ => rfl
  | 6, _, hn => exact absurd (by decide) hn
  | 7, _, _ => rfl
  | i + 8, _, _ => exact trivial
theorem oneR : rlS.all.length < 2 ^ 64 := of_decide_eq_true (by kernel_rfl)
theorem oneA : adS.all.length < 2 ^ 64 := of_decide_eq_true (by kernel_rfl)
theorem lt1 : (1 : Nat) < 2 ^ 64 := by decide
theorem lt0 : (0 : Nat) < 2 ^ 64 := by decide
theorem fitsR (j : Nat) (h : j ≤ 64) : Fits (manyR j) :=
  ⟨lt1, lt0, lt0, fun r hr => (by rw [(List.mem_replicate.1 hr).2]; exact oneR), lt0, lt0, fun a ha => (List.not_mem_nil ha).elim, lt0, (by simpa [manyR] using h), Nat.zero_le _⟩
theorem fitsA (j : Nat) (h : j ≤ 64) : Fits (manyA j) :=
  ⟨lt1, lt0, lt0, fun a ha => (List.not_mem_nil ha).elim, lt0, lt0, fun r hr => (by rw [(List.mem_replicate.1 hr).2]; exact ⟨oneA, lt1, lt0⟩), lt0, Nat.zero_le _, (by simpa [manyA] using h)⟩
theorem okR (j : Nat) (h : j ≤ 70) : PlOk (manyR j) := by
  have e : (manyR j).rules.length = j := by simp [manyR]
  exact ⟨lt0, lt0, by omega, Nat.zero_le _, fun a ha => (List.not_mem_nil ha).elim⟩
theorem okA (j : Nat) (h : j ≤ 70) : PlOk (manyA j) := by
  have e : (manyA j).addrs.length = j := by simp [manyA]
  exact ⟨lt0, lt0, Nat.zero_le _, by omega, fun r hr => by rw [(List.mem_replicate.1 hr).2]; exact ⟨lt1, lt0⟩⟩
theorem notI_nil {k : Int} {p : Pl} (hk : (hasOf k).2 = true) (ho : OnlyOf k p) : p.puts (hasNotI k) = [] := by
  refine puts_nil_iff.2 fun i hi => put_bare (ho i ?_ ?_)
  · revert hi; rcases hasOf_cases hk with rfl | rfl | rfl | rfl | rfl <;> revert i <;> decide
  · revert hi; rcases hasOf_cases hk with rfl | rfl | rfl | rfl | rfl <;> revert i <;> decide
theorem takes_overR {is : List Nat} (hi : 3 ∈ is) {l : List UInt8} {r : Rl} (hl : Rl.get l = some r) : ∀ (j : Nat) (s : Pl), s.rules.length ≤ 64 → 64 < s.rules.length + j → takes (Pl.one is) (List.replicate j ⟨4, 2, 0, l⟩) s = none
  | 0, s, h1, h2 => by omega
  | j + 1, s, h1, h2 => by
    have h : Pl.one is s ⟨4, 2, 0, l⟩ = if s.rules.length = 64 then none else some { s with rules := s.rules ++ [r] } := by
      unfold Pl.one
      rw [one_hit (i := 3) rfl rfl hi]
      simp only [Pl.take, hl]
      rfl
    simp only [List.replicate_succ, takes, h]
    by_cases h64 : s.rules.length = 64
    · rw [if_pos h64]
    · rw [if_neg h64]
      exact takes_overR hi hl j _ (by simp; omega) (by simp; omega)
theorem takes_overA {is : List Nat} (hi : 6 ∈ is) {l : List UInt8} {r : Ad} (hl : Ad.get l = some r) : ∀ (j : Nat) (s : Pl), s.addrs.length ≤ 64 → 64 < s.addrs.length + j → takes (Pl.one is) (List.replicate j ⟨7, 2, 0, l⟩) s = none
  | 0, s, h1, h2 => by omega
  | j + 1, s, h1, h2 => by
    have h : Pl.one is s ⟨7, 2, 0, l⟩ = if s.addrs.length = 64 then none else some { s with addrs := s.addrs ++ [r] } := by
      unfold Pl.one
      rw [one_hit (i := 6) rfl rfl hi]
      simp only [Pl.take, hl]
      rfl
    simp only [List.replicate_succ, takes, h]
    by_cases h64 : s.addrs.length = 64
    · rw [if_pos h64]
    · rw [if_neg h64]
      exact takes_overA hi hl j _ (by simp; omega) (by simp; omega)
theorem nameF : Ps [10, 1, 97] (txtF 1 (⟨#[97]⟩ : ByteArray)) := Ps.txt 1 (⟨#[97]⟩ : ByteArray) (by decide) (by decide) (by decide)
theorem getR_over (j : Nat) (h : 64 < j) : Pl.getOf 2 (rawR j) = none := by
  have hp : Ps (rawR j) (txtF 1 (⟨#[97]⟩ : ByteArray) ++ List.replicate j ⟨4, 2, 0, rlS.all⟩) := by
    rw [rawR_eq]
    refine nameF.app ?_
    have e : (List.replicate j (⟨4, 2, 0, rlS.all⟩ : Fd)) = (List.replicate j rlS).flatMap fun r => [⟨4, 2, 0, r.all⟩] := by
      rw [← List.map_eq_flatMap, List.map_replicate]
    rw [e]
    exact Ps.flat fun r hr => by
      rw [(List.mem_replicate.1 hr).2]
      exact Ps.text 4 _ (of_decide_eq_true (by kernel_rfl)) (by decide) (by decide)
  rw [getOf_ps rfl hp, takes_app, takes_txt (t' := manyR 0) (fun h => absurd h (by decide)) rfl]
  exact takes_overR (by decide) (Rl.get_all oneR) j _ (by decide) (by show 64 < 0 + j; omega)
theorem getA_over (j : Nat) (h : 64 < j) : Pl.getOf 4 (rawA j) = none := by
  have hp : Ps (rawA j) (txtF 1 (⟨#[97]⟩ : ByteArray) ++ List.replicate j ⟨7, 2, 0, adS.all⟩) := by
    rw [rawA_eq]
    refine nameF.app ?_
    have e : (List.replicate j (⟨7, 2, 0, adS.all⟩ : Fd)) = (List.replicate j adS).flatMap fun r => [⟨7, 2, 0, r.all⟩] := by
      rw [← List.map_eq_flatMap, List.map_replicate]
    rw [e]
    exact Ps.flat fun r hr => by
      rw [(List.mem_replicate.1 hr).2]
      exact Ps.text 7 _ (of_decide_eq_true (by kernel_rfl)) (by decide) (by decide)
  rw [getOf_ps rfl hp, takes_app, takes_txt (t' := manyA 0) (fun h => absurd h (by decide)) rfl]
  exact takes_overA (by decide) (Ad.get_all oneA (by decide) (by decide)) j _ (by decide) (by show 64 < 0 + j; omega)
/-- The two types that come up, and what Put and Get say. -/
theorem sumR (k : Nat) (h70 : k ≤ 70) : (hasOf (kR k)).2 = true ∧ ((manyR k).puts (hasI (kR k))) = rawR k ∧ (manyR k).puts (hasNotI (kR k)) = [] ∧ (manyR k).putOf (kR k) = (if k ≤ 64 then (⟨(rawR k).toArray⟩, true) else (⟨#[]⟩, false)) ∧ Pl.getOf (kR k) (rawR k) = (if k ≤ 64 then some (manyR k) else none) := by
  by_cases h0 : 0 < k
  · have e : kR k = 2 := if_pos h0
    rw [e]
    refine ⟨rfl, rfl, notI_nil rfl (onlyR k), ?_, ?_⟩
    · by_cases h : k ≤ 64
      · rw [if_pos h, putOf_own rfl (fitsR k h) (onlyR k)]; rfl
      · rw [if_neg h, plPut_long3 (by simp [manyR]; omega)]
    · by_cases h : k ≤ 64
      · rw [if_pos h]; exact getOf_own rfl (fitsR k h) (onlyR k)
      · rw [if_neg h]; exact getR_over k (by omega)
  · obtain rfl : k = 0 := by omega
    have e : kR 0 = 4 := rfl
    rw [e]
    refine ⟨rfl, rfl, notI_nil rfl (onlyA 0), ?_, ?_⟩
    · rw [if_pos (by decide)]; exact putOf_own rfl (fitsA 0 (by decide)) (onlyA 0)
    · rw [if_pos (by decide)]; exact getOf_own rfl (fitsA 0 (by decide)) (onlyA 0)
theorem sumA (k : Nat) (h70 : k ≤ 70) : (hasOf 4).2 = true ∧ ((manyA k).puts (hasI 4)) = rawA k ∧ (manyA k).puts (hasNotI 4) = [] ∧ (manyA k).putOf 4 = (if k ≤ 64 then (⟨(rawA k).toArray⟩, true) else (⟨#[]⟩, false)) ∧ Pl.getOf 4 (rawA k) = (if k ≤ 64 then some (manyA k) else none) := by
  refine ⟨rfl, rfl, notI_nil rfl (onlyA k), ?_, ?_⟩
  · by_cases h : k ≤ 64
    · rw [if_pos h, putOf_own rfl (fitsA k h) (onlyA k)]; rfl
    · rw [if_neg h, plPut_long6 (by simp [manyA]; omega)]
  · by_cases h : k ≤ 64
    · rw [if_pos h]; exact getOf_own rfl (fitsA k h) (onlyA k)
    · rw [if_neg h]; exact getA_over k (by omega)

theorem text_a (b : Addr) (w : World) (hg : Gv b w) : Calls Tryz.prog 26 #[.int .i64 1, .string ⟨#[97]⟩] w fun e w' => e = .returned (.string ⟨#[10, 1, 97]⟩) ∧ Below w.heap.size w w' := by
  have h := text_any 1 ⟨#[97]⟩ b w hg (by decide)
  rw [show textL 1 (⟨#[97]⟩ : ByteArray) = [10, 1, 97] by kernel_rfl] at h
  exact h
theorem text_slash (b : Addr) (w : World) (hg : Gv b w) : Calls Tryz.prog 26 #[.int .i64 1, .string ⟨#[47]⟩] w fun e w' => e = .returned (.string ⟨#[10, 1, 47]⟩) ∧ Below w.heap.size w w' := by
  have h := text_any 1 ⟨#[47]⟩ b w hg (by decide)
  rw [show textL 1 (⟨#[47]⟩ : ByteArray) = [10, 1, 47] by kernel_rfl] at h
  exact h
theorem text_rule (b : Addr) (w : World) (hg : Gv b w) : Calls Tryz.prog 26 #[.int .i64 4, .string ⟨#[10, 1, 47]⟩] w fun e w' => e = .returned (.string ⟨#[34, 3, 10, 1, 47]⟩) ∧ Below w.heap.size w w' := by
  have h := text_any 4 ⟨#[10, 1, 47]⟩ b w hg (by decide)
  rw [show textL 4 (⟨#[10, 1, 47]⟩ : ByteArray) = [34, 3, 10, 1, 47] by kernel_rfl] at h
  exact h
theorem number_one (b : Addr) (w : World) (hg : Gv b w) : Calls Tryz.prog 25 #[.int .i64 2, .int .u64 1] w fun e w' => e = .returned (.string ⟨#[16, 1]⟩) ∧ Below w.heap.size w w' := by
  have h := number_any 2 1 b w hg (by decide)
  rw [show numberL 2 1 = [16, 1] by kernel_rfl] at h
  exact h
theorem text_addr (b : Addr) (w : World) (hg : Gv b w) : Calls Tryz.prog 26 #[.int .i64 7, .string ⟨#[16, 1]⟩] w fun e w' => e = .returned (.string ⟨#[58, 2, 16, 1]⟩) ∧ Below w.heap.size w w' := by
  have h := text_any 7 ⟨#[16, 1]⟩ b w hg (by decide)
  rw [show textL 7 (⟨#[16, 1]⟩ : ByteArray) = [58, 2, 16, 1] by kernel_rfl] at h
  exact h

theorem put_R (k : Nat) (hk : k ≤ 70) (a3 a6 : Option Addr) (c3 c6 : Nat) (b : Addr) (w : World) (hg : Gv b w) (h3 : RulesAt w a3 (manyR k).rules) (h6 : AddrsAt w a6 (manyR k).addrs) :
    Calls Tryz.prog 12 #[.int .i64 (kR k), .agg #[.string ⟨#[97]⟩, .int .u64 0, .string ⟨#[]⟩, .slice a3 k c3, .int .u64 0, .string ⟨#[]⟩, .slice a6 0 c6, .string ⟨#[]⟩]] w fun e w' => e = .returned (.tuple #[.string ((manyR k).putOf (kR k)).1, .bool ((manyR k).putOf (kR k)).2]) ∧ Below w.heap.size w w' := by
  have hs := sumR k hk
  have h := put_any' (kR k) (manyR k) a3 a6 c3 c6 b w hg h3 h6 (okR k hk) (by rw [hs.2.1, rawR_len]; omega) (fun _ _ => by rw [hs.2.2.1]; exact Nat.zero_le _)
  have e : (manyR k).rules.length = k := by simp [manyR]
  unfold plV at h
  rw [e] at h
  exact h
theorem same_R (k : Nat) (hk : k ≤ 70) (a3 a6 b3 b6 : Option Addr) (c3 c6 d3 d6 : Nat) (w : World) (h3 : RulesAt w a3 (manyR k).rules) (h6 : AddrsAt w a6 (manyR k).addrs) (k3 : RulesAt w b3 (manyR k).rules) (k6 : AddrsAt w b6 (manyR k).addrs) :
    Calls Tryz.prog 20 #[.agg #[.string ⟨#[97]⟩, .int .u64 0, .string ⟨#[]⟩, .slice a3 k c3, .int .u64 0, .string ⟨#[]⟩, .slice a6 0 c6, .string ⟨#[]⟩], .agg #[.string ⟨#[97]⟩, .int .u64 0, .string ⟨#[]⟩, .slice b3 k d3, .int .u64 0, .string ⟨#[]⟩, .slice b6 0 d6, .string ⟨#[]⟩]] w fun e w' => e = .returned (.bool true) ∧ Below w.heap.size w w' := by
  have e : (manyR k).rules.length = k := by simp [manyR]
  have hm : (70 : Nat) ≤ maxLen := of_decide_eq_true (by kernel_rfl)
  have h := same_any' (manyR k) (manyR k) a3 a6 b3 b6 c3 c6 d3 d6 w h3 h6 k3 k6 (by first | omega | exact Nat.zero_le _) (by first | omega | exact Nat.zero_le _) (by first | omega | exact Nat.zero_le _) (by first | omega | exact Nat.zero_le _)
  unfold plV at h
  rw [Pl.same_refl, e] at h
  exact h
theorem get_R (k : Nat) (hk : k ≤ 64) (b : Addr) (w : World) (hg : Gv b w) :
    Calls Tryz.prog 23 #[.int .i64 (kR k), .string ⟨(rawR k).toArray⟩] w fun e w' => (∃ a3 c3 a6 c6, e = .returned (.tuple #[.agg #[.string ⟨#[97]⟩, .int .u64 0, .string ⟨#[]⟩, .slice a3 k c3, .int .u64 0, .string ⟨#[]⟩, .slice a6 0 c6, .string ⟨#[]⟩], .bool true]) ∧ RulesAt w' a3 (manyR k).rules ∧ AddrsAt w' a6 (manyR k).addrs) ∧ Below w.heap.size w w' := by
  have hs := sumR k (by omega)
  have h := get_any (kR k) ⟨(rawR k).toArray⟩ b w hg (by have := rawR_len k; simp only [ByteArray.size, List.size_toArray]; omega)
  rw [show (⟨(rawR k).toArray⟩ : ByteArray).data.toList = rawR k by simp, hs.2.2.2.2, if_pos hk] at h
  refine h.mono ?_
  rintro e w' ⟨⟨a3, c3, a6, c6, rfl, o3, o6, _, _⟩, hb⟩
  have e : (manyR k).rules.length = k := by simp [manyR]
  refine ⟨⟨a3, c3, a6, c6, ?_, rulesAt_row o3, addrsAt_row o6⟩, hb⟩
  unfold plV
  rw [e]; rfl
theorem get_R_over (k : Nat) (hk : k ≤ 70) (h64 : 64 < k) (b : Addr) (w : World) (hg : Gv b w) :
    Calls Tryz.prog 23 #[.int .i64 (kR k), .string ⟨(rawR k).toArray⟩] w fun e w' => e = .returned (.tuple #[zeroPl, .bool false]) ∧ Below w.heap.size w w' := by
  have hs := sumR k hk
  have h := get_any (kR k) ⟨(rawR k).toArray⟩ b w hg (by have := rawR_len k; simp only [ByteArray.size, List.size_toArray]; omega)
  rw [show (⟨(rawR k).toArray⟩ : ByteArray).data.toList = rawR k by simp, hs.2.2.2.2, if_neg (by omega)] at h
  exact h

theorem put_A (k : Nat) (hk : k ≤ 70) (a3 a6 : Option Addr) (c3 c6 : Nat) (b : Addr) (w : World) (hg : Gv b w) (h3 : RulesAt w a3 (manyA k).rules) (h6 : AddrsAt w a6 (manyA k).addrs) :
    Calls Tryz.prog 12 #[.int .i64 (4), .agg #[.string ⟨#[97]⟩, .int .u64 0, .string ⟨#[]⟩, .slice a3 0 c3, .int .u64 0, .string ⟨#[]⟩, .slice a6 k c6, .string ⟨#[]⟩]] w fun e w' => e = .returned (.tuple #[.string ((manyA k).putOf (4)).1, .bool ((manyA k).putOf (4)).2]) ∧ Below w.heap.size w w' := by
  have hs := sumA k hk
  have h := put_any' (4) (manyA k) a3 a6 c3 c6 b w hg h3 h6 (okA k hk) (by rw [hs.2.1, rawA_len]; omega) (fun _ _ => by rw [hs.2.2.1]; exact Nat.zero_le _)
  have e : (manyA k).addrs.length = k := by simp [manyA]
  unfold plV at h
  rw [e] at h
  exact h
theorem same_A (k : Nat) (hk : k ≤ 70) (a3 a6 b3 b6 : Option Addr) (c3 c6 d3 d6 : Nat) (w : World) (h3 : RulesAt w a3 (manyA k).rules) (h6 : AddrsAt w a6 (manyA k).addrs) (k3 : RulesAt w b3 (manyA k).rules) (k6 : AddrsAt w b6 (manyA k).addrs) :
    Calls Tryz.prog 20 #[.agg #[.string ⟨#[97]⟩, .int .u64 0, .string ⟨#[]⟩, .slice a3 0 c3, .int .u64 0, .string ⟨#[]⟩, .slice a6 k c6, .string ⟨#[]⟩], .agg #[.string ⟨#[97]⟩, .int .u64 0, .string ⟨#[]⟩, .slice b3 0 d3, .int .u64 0, .string ⟨#[]⟩, .slice b6 k d6, .string ⟨#[]⟩]] w fun e w' => e = .returned (.bool true) ∧ Below w.heap.size w w' := by
  have e : (manyA k).addrs.length = k := by simp [manyA]
  have hm : (70 : Nat) ≤ maxLen := of_decide_eq_true (by kernel_rfl)
  have h := same_any' (manyA k) (manyA k) a3 a6 b3 b6 c3 c6 d3 d6 w h3 h6 k3 k6 (by first | omega | exact Nat.zero_le _) (by first | omega | exact Nat.zero_le _) (by first | omega | exact Nat.zero_le _) (by first | omega | exact Nat.zero_le _)
  unfold plV at h
  rw [Pl.same_refl, e] at h
  exact h
theorem get_A (k : Nat) (hk : k ≤ 64) (b : Addr) (w : World) (hg : Gv b w) :
    Calls Tryz.prog 23 #[.int .i64 (4), .string ⟨(rawA k).toArray⟩] w fun e w' => (∃ a3 c3 a6 c6, e = .returned (.tuple #[.agg #[.string ⟨#[97]⟩, .int .u64 0, .string ⟨#[]⟩, .slice a3 0 c3, .int .u64 0, .string ⟨#[]⟩, .slice a6 k c6, .string ⟨#[]⟩], .bool true]) ∧ RulesAt w' a3 (manyA k).rules ∧ AddrsAt w' a6 (manyA k).addrs) ∧ Below w.heap.size w w' := by
  have hs := sumA k (by omega)
  have h := get_any (4) ⟨(rawA k).toArray⟩ b w hg (by have := rawA_len k; simp only [ByteArray.size, List.size_toArray]; omega)
  rw [show (⟨(rawA k).toArray⟩ : ByteArray).data.toList = rawA k by simp, hs.2.2.2.2, if_pos hk] at h
  refine h.mono ?_
  rintro e w' ⟨⟨a3, c3, a6, c6, rfl, o3, o6, _, _⟩, hb⟩
  have e : (manyA k).addrs.length = k := by simp [manyA]
  refine ⟨⟨a3, c3, a6, c6, ?_, rulesAt_row o3, addrsAt_row o6⟩, hb⟩
  unfold plV
  rw [e]; rfl
theorem get_A_over (k : Nat) (hk : k ≤ 70) (h64 : 64 < k) (b : Addr) (w : World) (hg : Gv b w) :
    Calls Tryz.prog 23 #[.int .i64 (4), .string ⟨(rawA k).toArray⟩] w fun e w' => e = .returned (.tuple #[zeroPl, .bool false]) ∧ Below w.heap.size w w' := by
  have hs := sumA k hk
  have h := get_any (4) ⟨(rawA k).toArray⟩ b w hg (by have := rawA_len k; simp only [ByteArray.size, List.size_toArray]; omega)
  rw [show (⟨(rawA k).toArray⟩ : ByteArray).data.toList = rawA k by simp, hs.2.2.2.2, if_neg (by omega)] at h
  exact h

set_option maxRecDepth 100000 in
set_option maxHeartbeats 8000000 in
theorem walk_R (n : Nat) (b : Addr) (w : World) (hg : Gv b w) (hn : n < 256) :
    Calls Tryz.prog 9 #[.int .u8 (n : Int), .bool true] w fun e w' => e = .returned (.bool true) ∧ Below w.heap.size w w' := by
  obtain ⟨k, hk⟩ : ∃ k, n % 71 = k := ⟨_, rfl⟩
  have e1 : (n : Int).tmod 71 = (k : Int) := by rw [Int.tmod_eq_emod_of_nonneg (by omega)]; omega
  have e2 : IntKind.u8.wrap (k : Int) = (k : Int) := IntWalk.u8_in _ (by omega)
  have e3 : IntKind.i64.wrap (k : Int) = (k : Int) := IntWalk.i64_in _ (by omega)
  have h70 : k ≤ 70 := by omega
  have HGW := Lib.hid hg
  clear hg hk hn
  obtain ⟨i0, hi, hz0, hz1, hz2⟩ := info_parts Tryz.infoRl
  go_enter Tryz.func9, Tryz.ntmps9
  go_wp2_with fail
  refine (examples02_any b _ HGW.out).mono ?_
  rintro e w1 ⟨rfl, hb1⟩
  have k0 := World.alloc_heap_new w1 (.cells #[.string ⟨#[97]⟩, .int .u64 0, .string ⟨#[]⟩, .slice none 0 0, .int .u64 0, .string ⟨#[]⟩, .slice none 0 0, .string ⟨#[]⟩] 26)
  have up1 := below_f w1 (.cells #[.string ⟨#[97]⟩, .int .u64 0, .string ⟨#[]⟩, .slice none 0 0, .int .u64 0, .string ⟨#[]⟩, .slice none 0 0, .string ⟨#[]⟩] 26)
  have hs1 := World.size_alloc w1 (.cells #[.string ⟨#[97]⟩, .int .u64 0, .string ⟨#[]⟩, .slice none 0 0, .int .u64 0, .string ⟨#[]⟩, .slice none 0 0, .string ⟨#[]⟩] 26)
  have HB1 := Lib.hid hb1
  have hz1w := hb1.size
  clear hb1
  go_wp2_with fail
  obtain ⟨w2, hw2⟩ : ∃ w2, w1.alloc (.cells #[.string ⟨#[97]⟩, .int .u64 0, .string ⟨#[]⟩, .slice none 0 0, .int .u64 0, .string ⟨#[]⟩, .slice none 0 0, .string ⟨#[]⟩] 26) = w2 := ⟨_, rfl⟩
  rw [hw2]
  rw [hw2] at k0 up1 hs1
  have HB2 := Lib.hid (HB1.out.trans (up1.mono hz1w))
  clear hw2 up1 e1 e2 e3
  refine (text_a b w2 (HGW.out.below HB2.out)).mono ?_
  rintro e w3 ⟨rfl, hb3⟩
  have hz3 := hb3.size
  have q0 := (hb3.block w1.heap.size (by omega)).trans k0
  have HB3 := Lib.hid (HB2.out.trans (hb3.mono HB2.out.size))
  have HQ := Lib.hid q0
  clear hb3 q0 k0
  have hB3 : w1.heap.size + 1 ≤ w3.heap.size := by omega
  have e0 : (⟨#[10, 1, 97]⟩ : ByteArray) = ⟨(rawR 0).toArray⟩ := by rw [rawR_zero]
  rw [e0]
  clear e0
  go_wp2_with fail
  go_loopw [7, 9, 10] (fun kd raw i wr => ∃ (j : Nat) (a3 : Option Addr) (c3 : Nat) (a6 : Option Addr) (c6 : Nat), j ≤ k ∧ i = .int .i64 j ∧ kd = .int .i64 (kR j) ∧ raw = .string ⟨(rawR j).toArray⟩ ∧ Rd (w1.heap.size + 1) w1.heap.size w3 wr #[.string ⟨#[97]⟩, .int .u64 0, .string ⟨#[]⟩, .slice a3 j c3, .int .u64 0, .string ⟨#[]⟩, .slice a6 0 c6, .string ⟨#[]⟩] (.slice a3 j c3) (.slice a6 0 c6) j 0 (rlCells (List.replicate j rlS)) []) (fun _ _ i _ => k - (intOf i).toNat)
  case atStart => exact ⟨0, none, 0, none, 0, Nat.zero_le _, rfl, rfl, rfl, ⟨HQ.out, World.ownsRow_nil _ _ _ _, World.ownsRow_nil _ _ _ _, BelowBut.refl _ _ _, hB3⟩⟩
  case round =>
    obtain ⟨j, a3, c3, a6, c6, hj, rfl, rfl, rfl, hrd⟩ := hrel
    have HRD := Lib.hid hrd
    obtain ⟨X, hX⟩ : ∃ X : ByteArray, (⟨(rawR j).toArray⟩ : ByteArray) = X := ⟨_, rfl⟩
    have hxs : X.size ≤ 1000 := by rw [← hX]; have := rawR_len j; simp only [ByteArray.size, List.size_toArray]; omega
    rw [hX]
    have HX := Lib.hid hX
    clear hX
    by_cases hlt : j < k
    · have pc : wr.cell? ⟨w1.heap.size, 3, none⟩ = some (.slice a3 j c3) := (Lib.cell_of_heap hrd.blk 3).trans rfl
      have hzr := hrd.sz
      have hbl : w1.heap.size < wr.heap.size := by omega
      have hnb := (hrd.next (below_f wr (.cells #[.string ⟨#[47]⟩, .string ⟨#[]⟩] 62)))
      have HNB := Lib.hid hnb
      have hns : ¬ 9223372036854775807 < X.size + 5 := by omega
      clear hrd hnb
      go_wp2_with (at_builtin; go_must (
        refine wpList_append_own _ rfl _ _ 23 rfl (w1.heap.size + 1) 62 i0 _ 2 32 Tryz.underlying23 hi hz0 hz1 hz2 rfl (by omega) _ _ _ rfl HNB.out.own ⟨wr.heap.size, 0, none⟩ 1 1 [.string ⟨#[47]⟩, .string ⟨#[]⟩] rfl rfl (World.news_of_block (cs := #[.string ⟨#[47]⟩, .string ⟨#[]⟩]) (t := 62) (fr := (0, 0)) (heap_alloc_new wr _)) (by simp [Value.oneCell']) (by unfold maxLen; omega) (by omega) (by rw [World.size_alloc]; omega) ?_
        intro v4 w4 hown4 hgrow4 _
        obtain ⟨a3', c3', rfl⟩ := owns_two hown4
        have hap := HNB.out.app3 hgrow4
        have hcB := (Lib.cell_of_heap hap.1 3).trans rfl
        have hfB := Lib.frozen_of_heap hap.1 3
        have hz4 := HNB.out.sz
        have hg4 := hgrow4.size
        have HAP := Lib.hid hap
        have HO4 := Lib.hid hown4
        clear hap hown4 hgrow4 pc))
      obtain ⟨w5, hw5⟩ : ∃ w5, w4.setCell ⟨w1.heap.size, 3, none⟩ (.slice a3' (j + 1) c3') = w5 := ⟨_, rfl⟩
      rw [hw5]
      have hrd5 : Rd (w1.heap.size + 1) w1.heap.size w3 w5 #[.string ⟨#[97]⟩, .int .u64 0, .string ⟨#[]⟩, .slice a3' (j + 1) c3', .int .u64 0, .string ⟨#[]⟩, .slice a6 0 c6, .string ⟨#[]⟩] (.slice a3' (j + 1) c3') (.slice a6 0 c6) (j + 1) 0 (rlCells (List.replicate (j + 1) rlS)) [] := by
        rw [← hw5]
        refine ⟨by simpa using blk_set HAP.out.1 3 (.slice a3' (j + 1) c3'), ?_, ?_, HAP.out.2.2.trans (bb_set _ _ _ _ _), by simp only [World.setCell, World.size_alloc] at *; simp; omega⟩
        · have := ownsRow_setCell_below HO4.out (a := ⟨w1.heap.size, 3, none⟩) (by show w1.heap.size < w1.heap.size + 1; omega) (.slice a3' (j + 1) c3')
          rw [List.replicate_succ', rlCells_snoc]
          exact this
        · exact ownsRow_setCell_below HAP.out.2.1 (a := ⟨w1.heap.size, 3, none⟩) (by show w1.heap.size < w1.heap.size + 1; omega) _
      have HRD5 := Lib.hid hrd5
      clear hrd5 hw5 hcB hfB hz4 hg4
      have HB5 := Lib.hid (HB3.out.trans (HRD5.out.bb.below (by omega) (by omega)))
      refine (text_slash b w5 (HGW.out.below HB5.out)).mono ?_
      rintro e w6 ⟨rfl, hb6⟩
      have HRD6 := Lib.hid (HRD5.out.next hb6)
      have HB6 := Lib.hid (HB5.out.trans (hb6.mono HB5.out.size))
      clear hb6
      go_wp2_with fail
      refine (text_rule b w6 (HGW.out.below HB6.out)).mono ?_
      rintro e w7 ⟨rfl, hb7⟩
      have HRD7 := Lib.hid (HRD6.out.next hb7)
      clear hb7
      go_wp2_with fail
      go_roundw
      case rel => exact ⟨j + 1, a3', c3', a6, c6, by omega, by go_num, by rw [show kR (j + 1) = 2 from if_pos (by omega)], by rw [rawR_succ, ← bs_append, HX.out], HRD7.out⟩
      case measure => simp [intOf]; omega
    · obtain rfl : j = k := by omega
      have HBW := Lib.hid (HB3.out.trans (hrd.bb.below (by omega) (by omega)))
      have pb := hrd.blk
      have hpz : w1.heap.size < wr.heap.size := by have := hrd.sz; omega
      have t0 : wr.cell? ⟨w1.heap.size, 0, none⟩ = some (.string ⟨#[97]⟩) := (Lib.cell_of_heap pb 0).trans rfl
      have t1 : wr.cell? ⟨w1.heap.size, 1, none⟩ = some (.int .u64 0) := (Lib.cell_of_heap pb 1).trans rfl
      have t2 : wr.cell? ⟨w1.heap.size, 2, none⟩ = some (.string ⟨#[]⟩) := (Lib.cell_of_heap pb 2).trans rfl
      have t3 : wr.cell? ⟨w1.heap.size, 3, none⟩ = some (.slice a3 j c3) := (Lib.cell_of_heap pb 3).trans rfl
      have t4 : wr.cell? ⟨w1.heap.size, 4, none⟩ = some (.int .u64 0) := (Lib.cell_of_heap pb 4).trans rfl
      have t5 : wr.cell? ⟨w1.heap.size, 5, none⟩ = some (.string ⟨#[]⟩) := (Lib.cell_of_heap pb 5).trans rfl
      have t6 : wr.cell? ⟨w1.heap.size, 6, none⟩ = some (.slice a6 0 c6) := (Lib.cell_of_heap pb 6).trans rfl
      have t7 : wr.cell? ⟨w1.heap.size, 7, none⟩ = some (.string ⟨#[]⟩) := (Lib.cell_of_heap pb 7).trans rfl
      have HPB := Lib.hid pb
      have HR3 := Lib.hid (rulesAt_row (rs := (manyR j).rules) (by have := hrd.own; rw [show (manyR j).rules.length = j by simp [manyR]]; exact this))
      have HR6 := Lib.hid (addrsAt_row (rs := (manyR j).addrs) (by exact hrd.oth))
      have HSM := Lib.hid (sumR j h70)
      clear hrd pb
      go_wp2_with fail
      have hput := put_R j h70 a3 a6 c3 c6 b wr (HGW.out.below HBW.out) HR3.out HR6.out
      rw [HSM.out.2.2.2.1] at hput
      by_cases h64 : j ≤ 64
      · rw [if_pos h64] at hput
        refine hput.mono ?_
        clear hput
        rintro e w4 ⟨rfl, hb4⟩
        have HB4 := Lib.hid (HBW.out.trans (hb4.mono HBW.out.size))
        have HR34 := Lib.hid (HR3.out.below hb4)
        have HR64 := Lib.hid (HR6.out.below hb4)
        have HP4 := Lib.hid ((hb4.block w1.heap.size hpz).trans HPB.out)
        have hz4 := hb4.size
        clear hb4 t0 t1 t2 t3 t4 t5 t6 t7
        go_wp2_with fail
        have hget := get_R j h64 b w4 (HGW.out.below HB4.out)
        rw [HX.out] at hget
        refine hget.mono ?_
        clear hget
        rintro e w5 ⟨⟨x3, y3, x6, y6, rfl, hq3, hq6⟩, hb5⟩
        have HB5 := Lib.hid (HB4.out.trans (hb5.mono HB4.out.size))
        have hz5 := hb5.size
        have q0 := (hb5.block w1.heap.size (by omega)).trans HP4.out
        have hl : decide ((j : Int) ≤ 64) = true := by simp; omega
        have hpz5 : w1.heap.size < w5.heap.size := by omega
        have u0 : w5.cell? ⟨w1.heap.size, 0, none⟩ = some (.string ⟨#[97]⟩) := (Lib.cell_of_heap q0 0).trans rfl
        have u1 : w5.cell? ⟨w1.heap.size, 1, none⟩ = some (.int .u64 0) := (Lib.cell_of_heap q0 1).trans rfl
        have u2 : w5.cell? ⟨w1.heap.size, 2, none⟩ = some (.string ⟨#[]⟩) := (Lib.cell_of_heap q0 2).trans rfl
        have u3 : w5.cell? ⟨w1.heap.size, 3, none⟩ = some (.slice a3 j c3) := (Lib.cell_of_heap q0 3).trans rfl
        have u4 : w5.cell? ⟨w1.heap.size, 4, none⟩ = some (.int .u64 0) := (Lib.cell_of_heap q0 4).trans rfl
        have u5 : w5.cell? ⟨w1.heap.size, 5, none⟩ = some (.string ⟨#[]⟩) := (Lib.cell_of_heap q0 5).trans rfl
        have u6 : w5.cell? ⟨w1.heap.size, 6, none⟩ = some (.slice a6 0 c6) := (Lib.cell_of_heap q0 6).trans rfl
        have u7 : w5.cell? ⟨w1.heap.size, 7, none⟩ = some (.string ⟨#[]⟩) := (Lib.cell_of_heap q0 7).trans rfl
        have k9 := World.alloc_heap_new w5 (.cells #[.string ⟨#[97]⟩, .int .u64 0, .string ⟨#[]⟩, .slice x3 j y3, .int .u64 0, .string ⟨#[]⟩, .slice x6 0 y6, .string ⟨#[]⟩] 26)
        have up9 := below_f w5 (.cells #[.string ⟨#[97]⟩, .int .u64 0, .string ⟨#[]⟩, .slice x3 j y3, .int .u64 0, .string ⟨#[]⟩, .slice x6 0 y6, .string ⟨#[]⟩] 26)
        have HR35 := Lib.hid ((HR34.out.below hb5).below up9)
        have HR65 := Lib.hid ((HR64.out.below hb5).below up9)
        have HQ3 := Lib.hid (hq3.below up9)
        have HQ6 := Lib.hid (hq6.below up9)
        have HB6 := Lib.hid (HB5.out.trans (up9.mono HB5.out.size))
        have hXe := HX.out
        clear hb5 q0 k9 up9 hq3 hq6
        rw [hXe]
        clear hXe
        go_wp2_with fail
        have hh := same_R j h70 a3 a6 x3 x6 c3 c6 y3 y6 _ HR35.out HR65.out HQ3.out HQ6.out
        refine hh.mono ?_
        clear hh
        rintro e w7 ⟨rfl, hb7⟩
        have HB7 := Lib.hid (HB6.out.trans (hb7.mono HB6.out.size))
        clear hb7 u0 u1 u2 u3 u4 u5 u6 u7
        go_wp2_with fail
        go_ret
        exact ⟨rfl, HB7.out⟩
      · rw [if_neg h64] at hput
        refine hput.mono ?_
        clear hput
        rintro e w4 ⟨rfl, hb4⟩
        have HB4 := Lib.hid (HBW.out.trans (hb4.mono HBW.out.size))
        clear hb4 t0 t1 t2 t3 t4 t5 t6 t7
        go_wp2_with fail
        have hget := get_R_over j h70 (by omega) b w4 (HGW.out.below HB4.out)
        rw [HX.out] at hget
        refine hget.mono ?_
        clear hget
        rintro e w5 ⟨rfl, hb5⟩
        have HB5 := Lib.hid (HB4.out.trans (hb5.mono HB4.out.size))
        have HB6 := Lib.hid (below_up HB5.out (.cells #[.string ⟨#[]⟩, .int .u64 0, .string ⟨#[]⟩, .slice none 0 0, .int .u64 0, .string ⟨#[]⟩, .slice none 0 0, .string ⟨#[]⟩] 26))
        have hl : decide ((j : Int) ≤ 64) = false := by simp; omega
        clear hb5
        go_wp2_with fail
        go_ret
        exact ⟨rfl, HB6.out⟩

set_option maxRecDepth 100000 in
set_option maxHeartbeats 8000000 in
theorem walk_A (n : Nat) (b : Addr) (w : World) (hg : Gv b w) (hn : n < 256) :
    Calls Tryz.prog 9 #[.int .u8 (n : Int), .bool false] w fun e w' => e = .returned (.bool true) ∧ Below w.heap.size w w' := by
  obtain ⟨k, hk⟩ : ∃ k, n % 71 = k := ⟨_, rfl⟩
  have e1 : (n : Int).tmod 71 = (k : Int) := by rw [Int.tmod_eq_emod_of_nonneg (by omega)]; omega
  have e2 : IntKind.u8.wrap (k : Int) = (k : Int) := IntWalk.u8_in _ (by omega)
  have e3 : IntKind.i64.wrap (k : Int) = (k : Int) := IntWalk.i64_in _ (by omega)
  have h70 : k ≤ 70 := by omega
  have HGW := Lib.hid hg
  clear hg hk hn
  obtain ⟨i0, hi, hz0, hz1, hz2⟩ := info_parts Tryz.infoAd
  go_enter Tryz.func9, Tryz.ntmps9
  go_wp2_with fail
  refine (examples02_any b _ HGW.out).mono ?_
  rintro e w1 ⟨rfl, hb1⟩
  have k0 := World.alloc_heap_new w1 (.cells #[.string ⟨#[97]⟩, .int .u64 0, .string ⟨#[]⟩, .slice none 0 0, .int .u64 0, .string ⟨#[]⟩, .slice none 0 0, .string ⟨#[]⟩] 26)
  have up1 := below_f w1 (.cells #[.string ⟨#[97]⟩, .int .u64 0, .string ⟨#[]⟩, .slice none 0 0, .int .u64 0, .string ⟨#[]⟩, .slice none 0 0, .string ⟨#[]⟩] 26)
  have hs1 := World.size_alloc w1 (.cells #[.string ⟨#[97]⟩, .int .u64 0, .string ⟨#[]⟩, .slice none 0 0, .int .u64 0, .string ⟨#[]⟩, .slice none 0 0, .string ⟨#[]⟩] 26)
  have HB1 := Lib.hid hb1
  have hz1w := hb1.size
  clear hb1
  go_wp2_with fail
  obtain ⟨w2, hw2⟩ : ∃ w2, w1.alloc (.cells #[.string ⟨#[97]⟩, .int .u64 0, .string ⟨#[]⟩, .slice none 0 0, .int .u64 0, .string ⟨#[]⟩, .slice none 0 0, .string ⟨#[]⟩] 26) = w2 := ⟨_, rfl⟩
  rw [hw2]
  rw [hw2] at k0 up1 hs1
  have HB2 := Lib.hid (HB1.out.trans (up1.mono hz1w))
  clear hw2 up1 e1 e2 e3
  refine (text_a b w2 (HGW.out.below HB2.out)).mono ?_
  rintro e w3 ⟨rfl, hb3⟩
  have hz3 := hb3.size
  have q0 := (hb3.block w1.heap.size (by omega)).trans k0
  have HB3 := Lib.hid (HB2.out.trans (hb3.mono HB2.out.size))
  have HQ := Lib.hid q0
  clear hb3 q0 k0
  have hB3 : w1.heap.size + 1 ≤ w3.heap.size := by omega
  have e0 : (⟨#[10, 1, 97]⟩ : ByteArray) = ⟨(rawA 0).toArray⟩ := by rw [rawA_zero]
  rw [e0]
  clear e0
  go_wp2_with fail
  go_loopw [7, 9, 10] (fun kd raw i wr => ∃ (j : Nat) (a3 : Option Addr) (c3 : Nat) (a6 : Option Addr) (c6 : Nat), j ≤ k ∧ i = .int .i64 j ∧ kd = .int .i64 (4) ∧ raw = .string ⟨(rawA j).toArray⟩ ∧ Rd (w1.heap.size + 1) w1.heap.size w3 wr #[.string ⟨#[97]⟩, .int .u64 0, .string ⟨#[]⟩, .slice a3 0 c3, .int .u64 0, .string ⟨#[]⟩, .slice a6 j c6, .string ⟨#[]⟩] (.slice a3 0 c3) (.slice a6 j c6) 0 j [] (adCells (List.replicate j adS))) (fun _ _ i _ => k - (intOf i).toNat)
  case atStart => exact ⟨0, none, 0, none, 0, Nat.zero_le _, rfl, rfl, rfl, ⟨HQ.out, World.ownsRow_nil _ _ _ _, World.ownsRow_nil _ _ _ _, BelowBut.refl _ _ _, hB3⟩⟩
  case round =>
    obtain ⟨j, a3, c3, a6, c6, hj, rfl, rfl, rfl, hrd⟩ := hrel
    have HRD := Lib.hid hrd
    obtain ⟨X, hX⟩ : ∃ X : ByteArray, (⟨(rawA j).toArray⟩ : ByteArray) = X := ⟨_, rfl⟩
    have hxs : X.size ≤ 1000 := by rw [← hX]; have := rawA_len j; simp only [ByteArray.size, List.size_toArray]; omega
    rw [hX]
    have HX := Lib.hid hX
    clear hX
    by_cases hlt : j < k
    · have pc : wr.cell? ⟨w1.heap.size, 6, none⟩ = some (.slice a6 j c6) := (Lib.cell_of_heap hrd.blk 6).trans rfl
      have hzr := hrd.sz
      have hbl : w1.heap.size < wr.heap.size := by omega
      have hnb := (hrd.next (below_f wr (.cells #[.string ⟨#[]⟩, .int .u64 1, .int .u64 0] 65)))
      have HNB := Lib.hid hnb
      have hns : ¬ 9223372036854775807 < X.size + 4 := by omega
      clear hrd hnb
      go_wp2_with (at_builtin; go_must (
        refine wpList_append_own _ rfl _ _ 24 rfl (w1.heap.size + 1) 65 i0 _ 3 32 Tryz.underlying24 hi hz0 hz1 hz2 rfl (by omega) _ _ _ rfl HNB.out.oth ⟨wr.heap.size, 0, none⟩ 1 1 [.string ⟨#[]⟩, .int .u64 1, .int .u64 0] rfl rfl (World.news_of_block (cs := #[.string ⟨#[]⟩, .int .u64 1, .int .u64 0]) (t := 65) (fr := (0, 0)) (heap_alloc_new wr _)) (by simp [Value.oneCell']) (by unfold maxLen; omega) (by omega) (by rw [World.size_alloc]; omega) ?_
        intro v4 w4 hown4 hgrow4 _
        obtain ⟨a6', c6', rfl⟩ := owns_two hown4
        have hap := HNB.out.app6 hgrow4
        have hcB := (Lib.cell_of_heap hap.1 6).trans rfl
        have hfB := Lib.frozen_of_heap hap.1 6
        have hz4 := HNB.out.sz
        have hg4 := hgrow4.size
        have HAP := Lib.hid hap
        have HO4 := Lib.hid hown4
        clear hap hown4 hgrow4 pc))
      obtain ⟨w5, hw5⟩ : ∃ w5, w4.setCell ⟨w1.heap.size, 6, none⟩ (.slice a6' (j + 1) c6') = w5 := ⟨_, rfl⟩
      rw [hw5]
      have hrd5 : Rd (w1.heap.size + 1) w1.heap.size w3 w5 #[.string ⟨#[97]⟩, .int .u64 0, .string ⟨#[]⟩, .slice a3 0 c3, .int .u64 0, .string ⟨#[]⟩, .slice a6' (j + 1) c6', .string ⟨#[]⟩] (.slice a3 0 c3) (.slice a6' (j + 1) c6') 0 (j + 1) [] (adCells (List.replicate (j + 1) adS)) := by
        rw [← hw5]
        refine ⟨by simpa using blk_set HAP.out.1 6 (.slice a6' (j + 1) c6'), ?_, ?_, HAP.out.2.2.trans (bb_set _ _ _ _ _), by simp only [World.setCell, World.size_alloc] at *; simp; omega⟩
        · exact ownsRow_setCell_below HAP.out.2.1 (a := ⟨w1.heap.size, 6, none⟩) (by show w1.heap.size < w1.heap.size + 1; omega) _
        · have := ownsRow_setCell_below HO4.out (a := ⟨w1.heap.size, 6, none⟩) (by show w1.heap.size < w1.heap.size + 1; omega) (.slice a6' (j + 1) c6')
          rw [List.replicate_succ', adCells_snoc]
          exact this
      have HRD5 := Lib.hid hrd5
      clear hrd5 hw5 hcB hfB hz4 hg4
      have HB5 := Lib.hid (HB3.out.trans (HRD5.out.bb.below (by omega) (by omega)))
      refine (number_one b w5 (HGW.out.below HB5.out)).mono ?_
      rintro e w6 ⟨rfl, hb6⟩
      have HRD6 := Lib.hid (HRD5.out.next hb6)
      have HB6 := Lib.hid (HB5.out.trans (hb6.mono HB5.out.size))
      clear hb6
      go_wp2_with fail
      refine (text_addr b w6 (HGW.out.below HB6.out)).mono ?_
      rintro e w7 ⟨rfl, hb7⟩
      have HRD7 := Lib.hid (HRD6.out.next hb7)
      clear hb7
      go_wp2_with fail
      go_roundw
      case rel => exact ⟨j + 1, a3, c3, a6', c6', by omega, by go_num, rfl, by rw [rawA_succ, ← bs_append, HX.out], HRD7.out⟩
      case measure => simp [intOf]; omega
    · obtain rfl : j = k := by omega
      have HBW := Lib.hid (HB3.out.trans (hrd.bb.below (by omega) (by omega)))
      have pb := hrd.blk
      have hpz : w1.heap.size < wr.heap.size := by have := hrd.sz; omega
      have t0 : wr.cell? ⟨w1.heap.size, 0, none⟩ = some (.string ⟨#[97]⟩) := (Lib.cell_of_heap pb 0).trans rfl
      have t1 : wr.cell? ⟨w1.heap.size, 1, none⟩ = some (.int .u64 0) := (Lib.cell_of_heap pb 1).trans rfl
      have t2 : wr.cell? ⟨w1.heap.size, 2, none⟩ = some (.string ⟨#[]⟩) := (Lib.cell_of_heap pb 2).trans rfl
      have t3 : wr.cell? ⟨w1.heap.size, 3, none⟩ = some (.slice a3 0 c3) := (Lib.cell_of_heap pb 3).trans rfl
      have t4 : wr.cell? ⟨w1.heap.size, 4, none⟩ = some (.int .u64 0) := (Lib.cell_of_heap pb 4).trans rfl
      have t5 : wr.cell? ⟨w1.heap.size, 5, none⟩ = some (.string ⟨#[]⟩) := (Lib.cell_of_heap pb 5).trans rfl
      have t6 : wr.cell? ⟨w1.heap.size, 6, none⟩ = some (.slice a6 j c6) := (Lib.cell_of_heap pb 6).trans rfl
      have t7 : wr.cell? ⟨w1.heap.size, 7, none⟩ = some (.string ⟨#[]⟩) := (Lib.cell_of_heap pb 7).trans rfl
      have HPB := Lib.hid pb
      have HR3 := Lib.hid (rulesAt_row (rs := (manyA j).rules) (by exact hrd.own))
      have HR6 := Lib.hid (addrsAt_row (rs := (manyA j).addrs) (by have := hrd.oth; rw [show (manyA j).addrs.length = j by simp [manyA]]; exact this))
      have HSM := Lib.hid (sumA j h70)
      clear hrd pb
      go_wp2_with fail
      have hput := put_A j h70 a3 a6 c3 c6 b wr (HGW.out.below HBW.out) HR3.out HR6.out
      rw [HSM.out.2.2.2.1] at hput
      by_cases h64 : j ≤ 64
      · rw [if_pos h64] at hput
        refine hput.mono ?_
        clear hput
        rintro e w4 ⟨rfl, hb4⟩
        have HB4 := Lib.hid (HBW.out.trans (hb4.mono HBW.out.size))
        have HR34 := Lib.hid (HR3.out.below hb4)
        have HR64 := Lib.hid (HR6.out.below hb4)
        have HP4 := Lib.hid ((hb4.block w1.heap.size hpz).trans HPB.out)
        have hz4 := hb4.size
        clear hb4 t0 t1 t2 t3 t4 t5 t6 t7
        go_wp2_with fail
        have hget := get_A j h64 b w4 (HGW.out.below HB4.out)
        rw [HX.out] at hget
        refine hget.mono ?_
        clear hget
        rintro e w5 ⟨⟨x3, y3, x6, y6, rfl, hq3, hq6⟩, hb5⟩
        have HB5 := Lib.hid (HB4.out.trans (hb5.mono HB4.out.size))
        have hz5 := hb5.size
        have q0 := (hb5.block w1.heap.size (by omega)).trans HP4.out
        have hl : decide ((j : Int) ≤ 64) = true := by simp; omega
        have hpz5 : w1.heap.size < w5.heap.size := by omega
        have u0 : w5.cell? ⟨w1.heap.size, 0, none⟩ = some (.string ⟨#[97]⟩) := (Lib.cell_of_heap q0 0).trans rfl
        have u1 : w5.cell? ⟨w1.heap.size, 1, none⟩ = some (.int .u64 0) := (Lib.cell_of_heap q0 1).trans rfl
        have u2 : w5.cell? ⟨w1.heap.size, 2, none⟩ = some (.string ⟨#[]⟩) := (Lib.cell_of_heap q0 2).trans rfl
        have u3 : w5.cell? ⟨w1.heap.size, 3, none⟩ = some (.slice a3 0 c3) := (Lib.cell_of_heap q0 3).trans rfl
        have u4 : w5.cell? ⟨w1.heap.size, 4, none⟩ = some (.int .u64 0) := (Lib.cell_of_heap q0 4).trans rfl
        have u5 : w5.cell? ⟨w1.heap.size, 5, none⟩ = some (.string ⟨#[]⟩) := (Lib.cell_of_heap q0 5).trans rfl
        have u6 : w5.cell? ⟨w1.heap.size, 6, none⟩ = some (.slice a6 j c6) := (Lib.cell_of_heap q0 6).trans rfl
        have u7 : w5.cell? ⟨w1.heap.size, 7, none⟩ = some (.string ⟨#[]⟩) := (Lib.cell_of_heap q0 7).trans rfl
        have k9 := World.alloc_heap_new w5 (.cells #[.string ⟨#[97]⟩, .int .u64 0, .string ⟨#[]⟩, .slice x3 0 y3, .int .u64 0, .string ⟨#[]⟩, .slice x6 j y6, .string ⟨#[]⟩] 26)
        have up9 := below_f w5 (.cells #[.string ⟨#[97]⟩, .int .u64 0, .string ⟨#[]⟩, .slice x3 0 y3, .int .u64 0, .string ⟨#[]⟩, .slice x6 j y6, .string ⟨#[]⟩] 26)
        have HR35 := Lib.hid ((HR34.out.below hb5).below up9)
        have HR65 := Lib.hid ((HR64.out.below hb5).below up9)
        have HQ3 := Lib.hid (hq3.below up9)
        have HQ6 := Lib.hid (hq6.below up9)
        have HB6 := Lib.hid (HB5.out.trans (up9.mono HB5.out.size))
        have hXe := HX.out
        clear hb5 q0 k9 up9 hq3 hq6
        rw [hXe]
        clear hXe
        go_wp2_with fail
        have hh := same_A j h70 a3 a6 x3 x6 c3 c6 y3 y6 _ HR35.out HR65.out HQ3.out HQ6.out
        refine hh.mono ?_
        clear hh
        rintro e w7 ⟨rfl, hb7⟩
        have HB7 := Lib.hid (HB6.out.trans (hb7.mono HB6.out.size))
        clear hb7 u0 u1 u2 u3 u4 u5 u6 u7
        go_wp2_with fail
        go_ret
        exact ⟨rfl, HB7.out⟩
      · rw [if_neg h64] at hput
        refine hput.mono ?_
        clear hput
        rintro e w4 ⟨rfl, hb4⟩
        have HB4 := Lib.hid (HBW.out.trans (hb4.mono HBW.out.size))
        clear hb4 t0 t1 t2 t3 t4 t5 t6 t7
        go_wp2_with fail
        have hget := get_A_over j h70 (by omega) b w4 (HGW.out.below HB4.out)
        rw [HX.out] at hget
        refine hget.mono ?_
        clear hget
        rintro e w5 ⟨rfl, hb5⟩
        have HB5 := Lib.hid (HB4.out.trans (hb5.mono HB4.out.size))
        have HB6 := Lib.hid (below_up HB5.out (.cells #[.string ⟨#[]⟩, .int .u64 0, .string ⟨#[]⟩, .slice none 0 0, .int .u64 0, .string ⟨#[]⟩, .slice none 0 0, .string ⟨#[]⟩] 26))
        have hl : decide ((j : Int) ≤ 64) = false := by simp; omega
        clear hb5
        go_wp2_with fail
        go_ret
        exact ⟨rfl, HB6.out⟩
end Go.Proofs.YtlefeihfkgijoaaGreatDoor.lawMany
