/- payload: what a right payload points at: plain; keys held against one another. -/
import Derived.Test.YtlefeihfkgijoaaGreatDoorPlTrip
import Derived.Test.YtlefeihfkgijoaaGreatDoorPlRefs
import Derived.Laws.StructEq
namespace Go.Proofs.YtlefeihfkgijoaaGreatDoor
open Go.RowKit

theorem cluTo_mem {rs : List Rl} : ∀ {k : Nat} {x : Ky}, x ∈ cluTo rs k → x.1 = 3 ∧ ∃ r ∈ rs.take k, x.2 = r.clu
  | 0, x, h => by simp [cluTo] at h
  | k + 1, x, h => by
    have up : x ∈ cluTo rs k → x.1 = 3 ∧ ∃ r ∈ rs.take (k + 1), x.2 = r.clu := fun h => by
      obtain ⟨h1, r, hr, h2⟩ := cluTo_mem h
      exact ⟨h1, r, List.mem_of_mem_take (i := k) (by rwa [List.take_take, Nat.min_eq_left (Nat.le_succ k)]), h2⟩
    cases hk : rs[k]? with
    | none => simp only [cluTo, hk] at h; exact up h
    | some r =>
      by_cases hs : r.cl ∈ (rs.take k).map Rl.cl
      · rw [cluTo_seen hk hs] at h; exact up h
      · rw [cluTo_new hk hs] at h
        rcases List.mem_append.1 h with h | h
        · exact up h
        · unfold nm at h
          split at h
          · cases h
          · rw [List.mem_singleton] at h
            subst h
            obtain ⟨hk', rfl⟩ := List.getElem?_eq_some_iff.1 hk
            refine ⟨rfl, rs[k], ?_, rfl⟩
            rw [List.take_succ_eq_append_getElem hk']
            exact List.mem_append.2 (Or.inr (List.mem_singleton.2 rfl))
theorem cluTo_nodup (rs : List Rl) : ∀ k, (cluTo rs k).Nodup
  | 0 => by simp [cluTo]
  | k + 1 => by
    have ih := cluTo_nodup rs k
    cases hk : rs[k]? with
    | none => simp only [cluTo, hk]; exact ih
    | some r =>
      by_cases hs : r.cl ∈ (rs.take k).map Rl.cl
      · rw [cluTo_seen hk hs]; exact ih
      · rw [cluTo_new hk hs]
        unfold nm
        split
        · simpa using ih
        · rw [List.nodup_append]
          refine ⟨ih, by simp, fun x hx y hy e => ?_⟩
          rw [List.mem_singleton] at hy
          subst hy
          subst e
          obtain ⟨_, r', hr', e⟩ := cluTo_mem hx
          exact hs (List.mem_map.2 ⟨r', hr', by unfold Rl.cl; rw [← e]⟩)
theorem cluTo_pos {rs : List Rl} (h : 0 < rs.length) (hc : ∀ r ∈ rs, 1 ≤ r.clu.size) : ∀ k, 1 ≤ k → 1 ≤ (cluTo rs k).length
  | 0, h0 => by omega
  | 1, _ => by
    have h1 : rs[0]? = some rs[0] := List.getElem?_eq_getElem h
    rw [cluTo_new h1 (by simp)]
    have := hc rs[0] (List.getElem_mem h)
    unfold nm
    rw [if_neg (by omega)]
    simp
  | k + 2, _ => by
    have ih := cluTo_pos h hc (k + 1) (by omega)
    cases hk : rs[k + 1]? with
    | none => rw [show cluTo rs (k + 2) = cluTo rs (k + 1) by simp only [cluTo, hk]]; exact ih
    | some r =>
      by_cases hs : r.cl ∈ (rs.take (k + 1)).map Rl.cl
      · rw [cluTo_seen hk hs]; exact ih
      · rw [cluTo_new hk hs, List.length_append]; omega
/-- Is one of the first rules' clusters of this name? -/
def nmd (rs : List Rl) (k : Nat) (s : ByteArray) : Bool := (rs.take k).any fun r => r.clu.toList == s.toList
theorem nmd_zero (rs : List Rl) (s : ByteArray) : nmd rs 0 s = false := by simp [nmd]
theorem nmd_succ {rs : List Rl} {k : Nat} {r : Rl} (h : rs[k]? = some r) (s : ByteArray) : nmd rs (k + 1) s = (nmd rs k s || r.clu.toList == s.toList) := by
  obtain ⟨hk, rfl⟩ := List.getElem?_eq_some_iff.1 h
  unfold nmd
  rw [List.take_succ_eq_append_getElem hk, List.any_append]
  simp
theorem ky_ne {x y : Ky} (h : x ≠ y) : (x.1 == y.1 && x.2.toList == y.2.toList) = false := by
  cases hb : (x.1 == y.1 && x.2.toList == y.2.toList) with
  | false => rfl
  | true =>
    exfalso
    simp only [Bool.and_eq_true, beq_iff_eq] at hb
    refine h (Prod.ext hb.1 ?_)
    have := hb.2
    rw [ByteArray.toList_eq, ByteArray.toList_eq] at this
    exact ByteArray.ext (Array.toList_inj.1 this)
theorem nodup_ne {ks : List Ky} (h : ks.Nodup) {i k : Nat} {x y : Ky} (hk : k < i) (hx : ks[i]? = some x) (hy : ks[k]? = some y) : x ≠ y := by
  intro e
  subst e
  obtain ⟨h1, e1⟩ := List.getElem?_eq_some_iff.1 hx
  obtain ⟨h2, e2⟩ := List.getElem?_eq_some_iff.1 hy
  have := (List.getElem_inj (h₀ := h1) (h₁ := h2) h).1 (by rw [e1, e2])
  omega
theorem refs_nodup {k : Int} {p : Pl} (h : OwnOk k p) : (refsOf k p).Nodup := by
  rcases own_cases h with rfl | rfl | rfl | rfl | rfl
  · show (nm 2 p.route).Nodup
    unfold nm; split <;> simp
  · exact cluTo_nodup _ _
  · show ((4, p.name) :: nm 5 p.secret).Nodup
    unfold nm; split <;> simp
  · exact List.nodup_nil
  · exact List.nodup_nil
theorem refs_len {k : Int} {p : Pl} (h : OwnOk k p) : (refsOf k p).length ≤ 3 := by
  rcases own_cases h with rfl | rfl | rfl | rfl | rfl
  · have := nm_len 2 p.route; show (nm 2 p.route).length ≤ 3; omega
  · have := cluTo_len p.rules p.rules.length; have := (own_len h).1; show (cluTo p.rules p.rules.length).length ≤ 3; omega
  · have := nm_len 5 p.secret; show ((4, p.name) :: nm 5 p.secret).length ≤ 3; simp only [List.length_cons]; omega
  · exact Nat.zero_le _
  · exact Nat.zero_le _
theorem refs_1 {p : Pl} (h : OwnOk 1 p) : refsOf 1 p = [(2, p.route)] := by
  have h1 := h.route
  rw [if_pos rfl] at h1
  show nm 2 p.route = _
  unfold nm
  rw [if_neg (by omega)]
theorem refs_2 {p : Pl} (h : OwnOk 2 p) : 1 ≤ (refsOf 2 p).length ∧ (refsOf 2 p).length ≤ p.rules.length ∧ ∀ x ∈ refsOf 2 p, x.1 = 3 ∧ nmd p.rules p.rules.length x.2 = true := by
  have h1 := h.rules
  rw [if_pos rfl] at h1
  refine ⟨cluTo_pos (by omega) (fun r hr => (h.rule r hr).2.1) _ h1.1, cluTo_len _ _, fun x hx => ?_⟩
  obtain ⟨e, r, hr, e2⟩ := cluTo_mem (k := p.rules.length) hx
  refine ⟨e, List.any_eq_true.2 ⟨r, hr, by rw [e2]; simp⟩⟩
theorem refs_3 (p : Pl) : refsOf 3 p = (4, p.name) :: nm 5 p.secret := rfl
theorem empty_of {s : ByteArray} (h : s.size = 0) : s.toList.isEmpty = true := by
  rw [ByteArray.toList_eq]
  have hl : s.data.toList.length = s.size := by simp
  cases he : s.data.toList with
  | nil => rfl
  | cons x l => rw [he] at hl; simp at hl; omega
theorem full_of {s : ByteArray} (h : 0 < s.size) : s.toList.isEmpty = false := by
  rw [ByteArray.toList_eq]
  have hl : s.data.toList.length = s.size := by simp
  cases he : s.data.toList with
  | nil => rw [he] at hl; simp at hl; omega
  | cons x l => rfl

theorem eq_Key (x y : Ky) (w : World) : (Op.equalIn 10000 60 (.agg #[.int .i64 x.1, .string x.2]) (.agg #[.int .i64 y.1, .string y.2])).run Tryz.prog w = .ok (x.1 == y.1 && x.2.toList == y.2.toList) w := by
  have u0 := Tryz.underlying9
  have a0 := Tryz.isAgg9
  have z0 := Tryz.sizeOf9
  have u1 := Tryz.underlying3
  have a1 := Tryz.isAgg3
  have z1 := Tryz.sizeOf3
  have hS : Tryz.prog.underlying 60 = some (.struct (Tryz.prog.fieldsOf 60)) := by kernel_rfl
  have hp : Tryz.prog.stoodInHeld 60 = false := by kernel_rfl
  rw [show (10000 : Nat) = 9999 + 1 from rfl, run_equalIn_agg w 9999 60 _ _ hS hp]
  simp only [Program.fieldsOf, Tryz.underlying60]
  go_simp
  by_cases h1 : x.1 = y.1 <;> by_cases h2 : x.2.toList = y.2.toList <;> simp [h1, h2]
theorem eql_Key (x y : Ky) (w : World) : (binOp .eql 60 (.agg #[.int .i64 x.1, .string x.2]) (.agg #[.int .i64 y.1, .string y.2])).run Tryz.prog w = .ok (.bool (x.1 == y.1 && x.2.toList == y.2.toList)) w := by
  rw [run_eql_struct, eq_Key]
  rfl
theorem guard_Key (op : BinOp) (x y : Operand) (xs ys : Array Value) (w : World) : (eqGuard op 60 x y (.agg xs) (.agg ys)).run Tryz.prog w = .ok () w :=
  run_eqGuard_agg w op _ x y xs ys (by kernel_rfl)
end Go.Proofs.YtlefeihfkgijoaaGreatDoor
