/- ledger: LedgerStays, plain. -/
import Derived.Test.YtjcfbpbmieepiaaDoorLdErP
namespace Go.Proofs.YtjcfbpbmieepiaaDoor
open Go.RowKit

/-- n versions of a key, each with what became of it. -/
def stM (n : Nat) (st : Nat → Int) (dt : Nat → ByteArray) : List Mk := (List.range n).map fun i => ⟨4, exK, 2 * (i + 1), st (i + 1), dt (i + 1)⟩
theorem stM_mem {n : Nat} {st : Nat → Int} {dt : Nat → ByteArray} {m : Mk} (h : m ∈ stM n st dt) : ∃ j, 1 ≤ j ∧ j ≤ n ∧ m = ⟨4, exK, 2 * j, st j, dt j⟩ := by
  unfold stM at h
  obtain ⟨i, hi, rfl⟩ := List.mem_map.1 h
  have := List.mem_range.1 hi
  exact ⟨i + 1, by omega, by omega, rfl⟩
theorem stM_at {n : Nat} (st : Nat → Int) (dt : Nat → ByteArray) {j : Nat} (h1 : 1 ≤ j) (h2 : j ≤ n) : (⟨4, exK, 2 * j, st j, dt j⟩ : Mk) ∈ stM n st dt := by
  unfold stM
  rw [List.mem_map]
  refine ⟨j - 1, List.mem_range.2 (by omega), ?_⟩
  rw [show j - 1 + 1 = j by omega]
theorem stM_len (n : Nat) (st : Nat → Int) (dt : Nat → ByteArray) : (stM n st dt).length = n := by unfold stM; rw [List.length_map, List.length_range]
theorem stM_next (n : Nat) (hn : n < 1024) : begE 4 exK (2 * (n + 1)) (stM n (fun _ => 1) (fun _ => ⟨#[]⟩)) = 0 ∧ begM 4 exK (2 * (n + 1)) (stM n (fun _ => 1) (fun _ => ⟨#[]⟩)) = stM (n + 1) (fun _ => 1) (fun _ => ⟨#[]⟩) := by
  have e : stM (n + 1) (fun _ => 1) (fun _ => ⟨#[]⟩) = stM n (fun _ => 1) (fun _ => ⟨#[]⟩) ++ [⟨4, exK, 2 * (n + 1), 1, ⟨#[]⟩⟩] := by
    unfold stM
    rw [List.range_succ, List.map_append]
    rfl
  rw [e]
  refine beg_last (badK_k 4 _ (by decide) (by decide) (by omega)) (by rw [stM_len]; exact hn) fun m hm => ?_
  obtain ⟨j, h1, h2, rfl⟩ := stM_mem hm
  exact ordM_gt_same rfl rfl (by show 2 * j < 2 * (n + 1); omega)
/-- What a note makes of a version's state. -/
def nextS (ok : Bool) (p : Nat) (st : Nat → Int) (j : Nat) : Int := if st j = 1 ∧ (if ok then j ≤ p else j = p) then (if ok then 2 else 3) else st j
def nextD (ok : Bool) (p : Nat) (d : ByteArray) (st : Nat → Int) (dt : Nat → ByteArray) (j : Nat) : ByteArray := if st j = 1 ∧ (if ok then j ≤ p else j = p) then (if ok then ⟨#[]⟩ else d) else dt j
theorem stOk_any (t : Int) (b : UInt8) (q : Nat) (f : Bool) (d : ByteArray) (ht : 1 ≤ t) (ht' : t ≤ 5) (hb : nmB (b.toNat : Int) = true) (hq : 0 < q) (hd : d.size ≤ 256) (hf : f = true → d.size = 0) : St.ok ⟨t, nm1 b, q, f, d⟩ = true := by
  have h1 : nmOk (nm1 b) = true := by
    unfold nmOk
    have h3 : ((nm1 b).data.toList.all fun x => nmB (x.toNat : Int)) = true := by
      show (nmB (b.toNat : Int) && true) = true
      rw [hb]; rfl
    rw [h3]; rfl
  unfold St.ok
  dsimp only
  have h2 : ((q : Int) != 0) = true := by rw [bne_iff_ne]; omega
  have h3 : decide ((d.size : Int) ≤ 256) = true := decide_eq_true (by omega)
  rw [h1, decide_eq_true ht, decide_eq_true ht', h2, h3]
  cases f with
  | false => rfl
  | true => rw [decide_eq_true (hf rfl)]; rfl
theorem st_note {n p : Nat} (ok : Bool) (d : ByteArray) (st : Nat → Int) (dt : Nat → ByteArray) (h1 : 1 ≤ p) (h2 : p ≤ n) (hd : d.size ≤ 256) (hf : ok = true → d.size = 0) :
    noteE ⟨4, exK, 2 * p, ok, d⟩ (stM n st dt) = 0 ∧ noteR ⟨4, exK, 2 * p, ok, d⟩ (stM n st dt) = stM n (nextS ok p st) (nextD ok p d st dt) := by
  have hh : hasM 4 exK (2 * p) (stM n st dt) = true := by
    rw [hasM_any, List.any_eq_true]
    exact ⟨_, stM_at st dt h1 h2, by simp [keyM]⟩
  unfold noteE noteR
  rw [stOk_any 4 107 (2 * p) ok d (by decide) (by decide) (by decide) (by omega) hd hf, if_pos rfl, if_pos rfl]
  show (if hasM 4 exK (2 * p) (stM n st dt) = true then (0 : Int) else 5) = 0 ∧ (if hasM 4 exK (2 * p) (stM n st dt) = true then noteM 4 exK (2 * p) ok d (stM n st dt) else stM n st dt) = _
  rw [hh, if_pos rfl, if_pos rfl]
  refine ⟨rfl, ?_⟩
  unfold noteM
  cases ok with
  | true =>
    rw [if_pos rfl]
    unfold settleM stM
    rw [List.map_map]
    apply List.map_congr_left
    intro i _
    have hk : keyM 4 exK ⟨4, exK, 2 * (i + 1), st (i + 1), dt (i + 1)⟩ = true := keyM_self _
    simp only [Function.comp, hk, Bool.true_and, decide_eq_true_eq]
    by_cases hc : st (i + 1) = 1 ∧ i + 1 ≤ p
    · rw [if_pos ⟨hc.1, by omega⟩, show nextS true p st (i + 1) = 2 by unfold nextS; simp [hc.1]; omega, show nextD true p d st dt (i + 1) = ⟨#[]⟩ by unfold nextD; simp [hc.1]; omega]
    · have e1 : nextS true p st (i + 1) = st (i + 1) := by unfold nextS; exact if_neg (fun h => hc ⟨h.1, by simpa using h.2⟩)
      have e2 : nextD true p d st dt (i + 1) = dt (i + 1) := by unfold nextD; exact if_neg (fun h => hc ⟨h.1, by simpa using h.2⟩)
      rw [if_neg (fun h => hc ⟨h.1, by omega⟩), e1, e2]
  | false =>
    rw [if_neg (by decide)]
    unfold settleM stM
    rw [List.map_map]
    apply List.map_congr_left
    intro i _
    have hk : keyM 4 exK ⟨4, exK, 2 * (i + 1), st (i + 1), dt (i + 1)⟩ = true := keyM_self _
    simp only [Function.comp, hk, Bool.true_and, decide_eq_true_eq]
    by_cases hc : st (i + 1) = 1 ∧ i + 1 = p
    · rw [if_pos ⟨hc.1, by omega⟩, show nextS false p st (i + 1) = 3 by unfold nextS; exact if_pos ⟨hc.1, by simpa using hc.2⟩, show nextD false p d st dt (i + 1) = d by unfold nextD; exact if_pos ⟨hc.1, by simpa using hc.2⟩]
    · have e1 : nextS false p st (i + 1) = st (i + 1) := by unfold nextS; exact if_neg (fun h => hc ⟨h.1, by simpa using h.2⟩)
      have e2 : nextD false p d st dt (i + 1) = dt (i + 1) := by unfold nextD; exact if_neg (fun h => hc ⟨h.1, by simpa using h.2⟩)
      rw [if_neg (fun h => hc ⟨h.1, by omega⟩), e1, e2]
theorem st_none {n p : Nat} (st : Nat → Int) (dt : Nat → ByteArray) : noteE ⟨4, exK, 2 * p + 1, true, ⟨#[]⟩⟩ (stM n st dt) = 5 ∧ noteR ⟨4, exK, 2 * p + 1, true, ⟨#[]⟩⟩ (stM n st dt) = stM n st dt := by
  have hh : hasM 4 exK (2 * p + 1) (stM n st dt) = false := by
    rw [hasM_any, List.any_eq_false]
    intro m hm
    obtain ⟨j, h1, h2, rfl⟩ := stM_mem hm
    simp only [Bool.and_eq_true, decide_eq_true_eq]
    omega
  unfold noteE noteR
  rw [stOk_any 4 107 (2 * p + 1) true ⟨#[]⟩ (by decide) (by decide) (by decide) (by omega) (Nat.zero_le _) (fun _ => rfl), if_pos rfl, if_pos rfl]
  show (if hasM 4 exK (2 * p + 1) (stM n st dt) = true then (0 : Int) else 5) = 5 ∧ (if hasM 4 exK (2 * p + 1) (stM n st dt) = true then noteM 4 exK (2 * p + 1) true ⟨#[]⟩ (stM n st dt) else stM n st dt) = _
  rw [hh]
  exact ⟨rfl, rfl⟩
theorem st_srt (n : Nat) (st : Nat → Int) (dt : Nat → ByteArray) : Srt (stM n st dt) := by
  unfold Srt stM
  rw [List.pairwise_map, List.pairwise_iff_getElem]
  intro i j hi hj hij
  rw [List.getElem_range, List.getElem_range, ordM_lt]
  exact .inr ⟨rfl, rfl, by show 2 * (i + 1) < 2 * (j + 1); omega⟩
theorem st_state {n j : Nat} (st : Nat → Int) (dt : Nat → ByteArray) (h1 : 1 ≤ j) (h2 : j ≤ n) : stateE 4 exK (2 * j) (stM n st dt) = (st j, dt j) := by
  unfold stateE
  rw [findM_is (st_srt n st dt) (stM_at st dt h1 h2) rfl rfl rfl]
/-- What the law keeps of a state. -/
def svS (s : Int) : Int := if s = 1 then 0 else s
/-- The law's own row: up to j what is now, from j on what was. -/
def svF (st st' : Nat → Int) (j : Nat) (i : Nat) : Int := if i = 0 then 0 else if i < j then svS (st' i) else svS (st i)
def svL (n : Nat) (f : Nat → Int) : Array Value := ((List.range (n + 1)).map fun i => Value.int .i64 (f i)).toArray
theorem svL_size (n : Nat) (f : Nat → Int) : (svL n f).size = n + 1 := by unfold svL; simp
theorem svL_get {n : Nat} (f : Nat → Int) {j : Nat} (h : j ≤ n) : (svL n f)[j]? = some (.int .i64 (f j)) := by
  unfold svL
  simp only [List.getElem?_toArray, List.getElem?_map]
  rw [List.getElem?_range (by omega)]
  rfl
theorem svL_set {n : Nat} (f : Nat → Int) {j : Nat} (h : j ≤ n) (v : Int) : (svL n f).setIfInBounds j (.int .i64 v) = svL n (fun i => if i = j then v else f i) := by
  unfold svL
  rw [List.setIfInBounds_toArray]
  congr 1
  apply List.ext_getElem
  · simp
  · intro i h1 h2
    simp only [List.length_map, List.length_range] at h2
    rw [List.getElem_set]
    simp only [List.getElem_map, List.getElem_range]
    by_cases e : j = i
    · subst e; simp
    · rw [if_neg e, if_neg (fun h => e h.symm)]
theorem svL_congr {n : Nat} {f g : Nat → Int} (h : ∀ i, i ≤ n → f i = g i) : svL n f = svL n g := by
  unfold svL
  congr 1
  apply List.map_congr_left
  intro i hi
  rw [h i (by have := List.mem_range.1 hi; omega)]
theorem Tryd.infoInt : (Tryd.prog.info? 3).map (fun i => (i.zero, i.size, i.bytes)) = some (some (.int .i64 0), 1, 8) := by kernel_rfl
theorem make_ints (n : Nat) (hn : n ≤ 1000) (W : World) : (Instr.makeSlice 52 (.int .i64 ((n : Int) + 1)) (.int .i64 ((n : Int) + 1))).run Tryd.prog W = .ok (.slice (some ⟨W.heap.size, 0, none⟩) (n + 1) (n + 1)) (W.alloc (.cells (svL n fun _ => 0) 3)) := by
  obtain ⟨i, hi, hz0, hz1, hz2⟩ := info_parts Tryd.infoInt
  have h := run_makeSlice W (P := Tryd.prog) 52 3 i (.int .i64 0) Tryd.underlying52 hi hz0 .i64 .i64 ((n : Int) + 1) ((n : Int) + 1) (by omega) (Int.le_refl _) (by rw [hz1]; omega) (by rw [hz2]; omega) (by omega)
  have e : ((n : Int) + 1).toNat = n + 1 := by omega
  rw [e] at h
  have hc : madeCells #[Value.int .i64 0] ((n + 1) * i.size) = svL n fun _ => 0 := by
    apply Array.ext'
    rw [toList_madeCells_one, hz1, Nat.mul_one]
    unfold svL
    rw [List.map_const', List.length_range]
  simp only [Value.cells] at h
  rw [hc] at h
  exact h
theorem svF_all {st st' : Nat → Int} {n : Nat} : svL n (svF st st' (n + 1)) = svL n (svF st' st' 0) := svL_congr fun i hi => by
  unfold svF
  by_cases h0 : i = 0
  · rw [if_pos h0, if_pos h0]
  · rw [if_neg h0, if_neg h0, if_pos (by omega), if_neg (by omega)]
theorem svF_one {st st' : Nat → Int} {n : Nat} : svL n (svF st st 0) = svL n (svF st st' 1) := svL_congr fun i hi => by
  unfold svF
  by_cases h0 : i = 0
  · rw [if_pos h0, if_pos h0]
  · rw [if_neg h0, if_neg h0, if_neg (by omega), if_neg (by omega)]
theorem svF_zero {n : Nat} : svL n (fun _ => 0) = svL n (svF (fun _ => 1) (fun _ => 1) 0) := svL_congr fun i hi => by
  unfold svF svS
  by_cases h0 : i = 0
  · rw [if_pos h0]
  · rw [if_neg h0, if_neg (by omega)]; rfl
/-- One step of the inner loop: the state is stored, or stays. -/
theorem svF_set {st st' : Nat → Int} {n j : Nat} (h1 : 1 ≤ j) (h2 : j ≤ n) {v : Int} (hv : svS (st' j) = v) : (svL n (svF st st' j)).setIfInBounds j (.int .i64 v) = svL n (svF st st' (j + 1)) := by
  rw [svL_set _ h2]
  refine svL_congr fun i hi => ?_
  unfold svF
  by_cases e : i = j
  · subst e; rw [if_pos rfl, if_neg (by omega), if_pos (by omega), hv]
  · rw [if_neg e]
    by_cases h0 : i = 0
    · rw [if_pos h0, if_pos h0]
    · rw [if_neg h0, if_neg h0]
      by_cases hl : i < j
      · rw [if_pos hl, if_pos (by omega)]
      · rw [if_neg hl, if_neg (by omega)]
theorem svF_keep {st st' : Nat → Int} {n j : Nat} (h1 : 1 ≤ j) (hv : svS (st' j) = svS (st j)) : svL n (svF st st' j) = svL n (svF st st' (j + 1)) := by
  refine svL_congr fun i hi => ?_
  unfold svF
  by_cases h0 : i = 0
  · rw [if_pos h0, if_pos h0]
  · rw [if_neg h0, if_neg h0]
    by_cases hl : i < j
    · rw [if_pos hl, if_pos (by omega)]
    · by_cases e : i = j
      · subst e; rw [if_neg hl, if_pos (by omega), hv]
      · rw [if_neg hl, if_neg (by omega)]
theorem svF_at {st st' : Nat → Int} {j : Nat} (h1 : 1 ≤ j) : svF st st' j j = svS (st j) := by
  unfold svF
  rw [if_neg (by omega), if_neg (by omega)]
/-- Which of six ways a version goes. -/
theorem next_cases (ok : Bool) (p : Nat) (st : Nat → Int) (d : ByteArray) (dt : Nat → ByteArray) (j : Nat) (h : st j = 1 ∨ st j = 2 ∨ st j = 3) :
    (st j = 1 ∧ ok = true ∧ j ≤ p ∧ nextS ok p st j = 2) ∨ (st j = 1 ∧ ok = true ∧ ¬ j ≤ p ∧ nextS ok p st j = 1) ∨ (st j = 1 ∧ ok = false ∧ j = p ∧ nextS ok p st j = 3 ∧ nextD ok p d st dt j = d) ∨ (st j = 1 ∧ ok = false ∧ ¬ j = p ∧ nextS ok p st j = 1) ∨ (st j = 2 ∧ nextS ok p st j = 2) ∨ (st j = 3 ∧ nextS ok p st j = 3) := by
  unfold nextS nextD
  rcases h with h | h | h
  · cases ok with
    | true =>
      by_cases hj : j ≤ p
      · exact .inl ⟨h, rfl, hj, by rw [if_pos ⟨h, by simpa using hj⟩]; rfl⟩
      · exact .inr (.inl ⟨h, rfl, hj, by rw [if_neg (fun hh => hj (by simpa using hh.2)), h]⟩)
    | false =>
      by_cases hj : j = p
      · refine .inr (.inr (.inl ⟨h, rfl, hj, ?_, ?_⟩))
        · exact if_pos ⟨h, by simpa using hj⟩
        · exact if_pos ⟨h, by simpa using hj⟩
      · exact .inr (.inr (.inr (.inl ⟨h, rfl, hj, by rw [if_neg (fun hh => hj (by simpa using hh.2)), h]⟩)))
  · exact .inr (.inr (.inr (.inr (.inl ⟨h, by rw [if_neg (fun hh => by rw [h] at hh; exact absurd hh.1 (by decide)), h]⟩))))
  · exact .inr (.inr (.inr (.inr (.inr ⟨h, by rw [if_neg (fun hh => by rw [h] at hh; exact absurd hh.1 (by decide)), h]⟩))))
theorem nextS_vals (ok : Bool) (p : Nat) (st : Nat → Int) (h : ∀ j, st j = 1 ∨ st j = 2 ∨ st j = 3) (j : Nat) : nextS ok p st j = 1 ∨ nextS ok p st j = 2 ∨ nextS ok p st j = 3 := by
  rcases next_cases ok p st ⟨#[]⟩ (fun _ => ⟨#[]⟩) j (h j) with ⟨_, _, _, e⟩ | ⟨_, _, _, e⟩ | ⟨_, _, _, e, _⟩ | ⟨_, _, _, e⟩ | ⟨_, e⟩ | ⟨_, e⟩
  · exact .inr (.inl e)
  · exact .inl e
  · exact .inr (.inr e)
  · exact .inl e
  · exact .inr (.inl e)
  · exact .inr (.inr e)
theorem nextD_size (ok : Bool) (p : Nat) (d : ByteArray) (st : Nat → Int) (dt : Nat → ByteArray) (hd : d.size ≤ 20) (h : ∀ j, (dt j).size ≤ 20) (j : Nat) : (nextD ok p d st dt j).size ≤ 20 := by
  have hh : nextD ok p d st dt j = (if ok = true then ⟨#[]⟩ else d) ∨ nextD ok p d st dt j = dt j := by
    unfold nextD
    by_cases hc : st j = 1 ∧ (if ok = true then j ≤ p else j = p)
    · exact .inl (if_pos hc)
    · exact .inr (if_neg hc)
  rcases hh with e | e
  · rw [e]
    cases ok
    · exact hd
    · exact Nat.zero_le _
  · rw [e]; exact h j
end Go.Proofs.YtjcfbpbmieepiaaDoor
