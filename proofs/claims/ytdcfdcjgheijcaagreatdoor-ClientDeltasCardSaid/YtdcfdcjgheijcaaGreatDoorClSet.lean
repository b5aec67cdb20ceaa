/- client: sets in blocks, stored whole; what comes of more and less; slices of bytes that came in. -/
import Derived.Test.YtdcfdcjgheijcaaGreatDoorClEx
import Derived.Test.YtdcfdcjgheijcaaGreatDoorClFew
import Derived.Test.YtdcfdcjgheijcaaGreatDoorClOpen
namespace Go.Proofs.YtdcfdcjgheijcaaGreatDoor
open Go.RowKit Go.Lib Go.ChangeShapes Go.WideShapes Go.ChangeAt

abbrev ST : TypeId := 26
theorem Tryz.infoSt : (Tryz.prog.info? ST).map (·.size) = some 2 := by kernel_rfl
section
variable {Q : Exit → Act → World → Prop} {a : Act} {w : World} {ops : Array Oper} {rest : List Oper} {o : Oper} {K : Act → World → Prop}
theorem wp_load_set (x : Operand) (b : Nat) {cs : Array Value} (ho : o.op = .load ST x) (hx : a.eval x = .pointer (some ⟨b, 0, none⟩)) (hb : Blk w b cs ST) (hz : cs.size = 2) (h : K (a.put o.dst (.agg cs)) w) : o.wp Tryz.prog a w K Q :=
  wp_load_row ST x ho b hx ST cs (0, 0) _ hb Tryz.underlying26 rfl (by rw [hz]; exact Tryz.infoSt) h
theorem wp_store_set (x y : Operand) (b : Nat) {cs0 cs : Array Value} (ho : o.op = .store ST x y) (hx : a.eval x = .pointer (some ⟨b, 0, none⟩)) (hy : a.eval y = .agg cs) (hb : Blk w b cs0 ST) (hz0 : cs0.size = 2) (hz : cs.size = 2) (h1 : cs.all (·.oneCell') = true) (h : ∀ w', Blk w' b cs ST → Just b w w' → K (a.put o.dst undef) w') : o.wp Tryz.prog a w K Q := by
  obtain ⟨w', e, h2, h3⟩ := row_new hb cs
  refine wp_store_row ST x y ho b cs hx hy ST cs0 hb (by rw [hz]; exact Tryz.infoSt) (by rw [hz, hz0]) h1 ?_
  rw [e]; exact h w' h2 h3
theorem wpList_load_set (x : Operand) (b : Nat) {cs : Array Value} (hg : o.guard = none) (ho : o.op = .load ST x) (hx : a.eval x = .pointer (some ⟨b, 0, none⟩)) (hb : Blk w b cs ST) (hz : cs.size = 2) (h : wpList Tryz.prog ops Q rest (a.put o.dst (.agg cs)) w) : wpList Tryz.prog ops Q (o :: rest) a w :=
  wpList_plain hg fun _ hK => wp_load_set x b ho hx hb hz (hK _ _ h)
theorem wpList_store_set (x y : Operand) (b : Nat) {cs0 cs : Array Value} (hg : o.guard = none) (ho : o.op = .store ST x y) (hx : a.eval x = .pointer (some ⟨b, 0, none⟩)) (hy : a.eval y = .agg cs) (hb : Blk w b cs0 ST) (hz0 : cs0.size = 2) (hz : cs.size = 2) (h1 : cs.all (·.oneCell') = true) (h : ∀ w', Blk w' b cs ST → Just b w w' → wpList Tryz.prog ops Q rest (a.put o.dst undef) w') : wpList Tryz.prog ops Q (o :: rest) a w :=
  wpList_plain hg fun _ hK => wp_store_set x y b ho hx hy hb hz0 hz h1 (fun w' h2 h3 => hK _ _ (h w' h2 h3))
theorem run_load_set {b : Nat} {cs : Array Value} (hb : Blk w b cs ST) (hz : cs.size = 2) : (loadVar ST ⟨b, 0, none⟩).run Tryz.prog w = .ok (.agg cs) w :=
  run_loadVar_row w b ST ST cs (0, 0) _ hb Tryz.underlying26 rfl (by rw [hz]; exact Tryz.infoSt)
theorem exec_load_set {o : Oper} {a : Act} {w : World} (x : Operand) (b : Nat) {cs : Array Value} (ho : o.op = .load ST x) (hx : a.eval x = .pointer (some ⟨b, 0, none⟩)) (hb : Blk w b cs ST) (hz : cs.size = 2) : (execOp a.eval o).run Tryz.prog w = .ok (.value (.agg cs)) w := by
  unfold execOp
  simp only [ho, hx, Instr.loadAt, Instr.sureAddr, Sem.run_bind, Sem.run_pure, Result.andThen_ok, run_load_set hb hz]
end
/-- With what is more and less of one set than of another, this one comes to it. -/
theorem delta_step {A W : Ns} (ha : Real A) (hw : Real W) : nLess (nUnion [A, nOf okN (nList (nLess W A))]) (nOf okN (nList (nLess A W))) = W := by
  rw [(real_less hw).list, (real_less ha).list]
  apply ns_eq
  · simp only [nUnion, nLess, List.any_cons, List.any_nil]
    cases A.all <;> cases W.all <;> rfl
  · refine rises_eq (srt_rises _) hw.rises fun x => ?_
    rw [mem_less, mem_union2, mem_less, mem_less]
    by_cases h1 : x ∈ A.ns <;> by_cases h2 : x ∈ W.ns <;> simp [h1, h2]
theorem list_right {s : Ns} (h : Real s) : ∀ x ∈ nList s, x = [42] ∨ okN x = true := by
  intro x hx
  unfold nList at hx
  rcases List.mem_append.1 hx with hx | hx
  · split at hx
    · exact .inl (List.mem_singleton.1 hx)
    · cases hx
  · exact .inr (h.ok x hx)
/-- Ask of the second topic, whatever was asked for. -/
theorem ask_two {x : Cl} {aa ua o B : Bool} {al ul : List (List UInt8)} {ta : Option Addr} {tc : Nat} (hx : x.get 2 = ⟨aa, ta, tc, al, o, 0⟩) (hr : Real ⟨ua, ul⟩) (hf : NmFit ul) (hl : ul.length ≤ 12) (hfa : NmFit al) (hla : al.length ≤ 12) (hB : (o && nSame ⟨aa, al⟩ ⟨ua, ul⟩) = B) :
    AskIs x 2 0 ⟨ua, ul⟩ ⟨ua, ul⟩ (nList ⟨ua, ul⟩) (nList ⟨ua, ul⟩) (turnS x.d ⟨ua, ul⟩ ⟨aa, al⟩) (turnU x.d ⟨ua, ul⟩ ⟨aa, al⟩) B false := by
  have h1 : (x.get 2).all = aa := by rw [hx]
  have h2 : (x.get 2).l = al := by rw [hx]
  have h3 : (x.get 2).op = o := by rw [hx]
  have l1 := nlist_len ⟨ua, ul⟩
  simp only at l1
  have l2 := nlist_len (nLess ⟨ua, ul⟩ ⟨aa, al⟩)
  have l3 := nlist_len (nLess ⟨aa, al⟩ ⟨ua, ul⟩)
  have l4 : (nLess ⟨ua, ul⟩ ⟨aa, al⟩).ns.length ≤ ul.length := Nat.le_trans (srt_len _) (List.length_filter_le _ _)
  have l5 : (nLess ⟨aa, al⟩ ⟨ua, ul⟩).ns.length ≤ al.length := Nat.le_trans (srt_len _) (List.length_filter_le _ _)
  have e1 : (turnS x.d ⟨ua, ul⟩ ⟨aa, al⟩).length ≤ 64 := by unfold turnS; split <;> omega
  have e2 : (turnU x.d ⟨ua, ul⟩ ⟨aa, al⟩).length ≤ 64 := by
    unfold turnU; split
    · omega
    · exact Nat.zero_le _
  refine ⟨by omega, by omega, rfl, ⟨fun s hs => ?_, by omega⟩, hr.list, rfl, by rw [h1, h2], by rw [h1, h2], by rw [h2]; exact hfa, by omega, by rw [h2]; omega, by rw [h1, h2, h3]; exact hB, ?_⟩
  · unfold nList at hs
    rcases List.mem_append.1 hs with h | h
    · split at h
      · obtain rfl := List.mem_singleton.1 h; decide
      · cases h
    · exact hf.1 s h
  · simp
    omega
theorem ask_two_ok {x : Cl} {d aa ua o : Bool} {al ul S U : List (List UInt8)} {ta a : Option Addr} {tc c : Nat} {w : World} (hd : x.d = d) (hx : x.get 2 = ⟨aa, ta, tc, al, o, 0⟩) (hr : Real ⟨ua, ul⟩) (hf : NmFit ul) (hl : ul.length ≤ 12) (hfa : NmFit al) (hla : al.length ≤ 12) (hB : (o && nSame ⟨aa, al⟩ ⟨ua, ul⟩) = false)
    (hS : turnS d ⟨ua, ul⟩ ⟨aa, al⟩ = S) (hU : turnU d ⟨ua, ul⟩ ⟨aa, al⟩ = U) (hT : TsAt w (.slice ta al.length tc) al) (hw : TsAt w (.slice a ul.length c) ul) :
    Calls Tryz.prog 25 #[x.v, .int .i64 2, .agg #[.bool ua, .slice a ul.length c], .slice none 0 0] w fun e w' => ∃ tb td a1 c1 a2 c2 a3 c3, e = .returned (.tuple #[(x.set ⟨ua, tb, td, ul, true, 0⟩ 2).v, .agg (rq 2 d 0 (.slice a1 S.length c1) (.slice a2 U.length c2) (.slice a3 0 c3) ⟨#[]⟩), .int .i64 0]) ∧ TsAt w' (.slice tb ul.length td) ul ∧ TsAt w' (.slice a1 S.length c1) S ∧ TsAt w' (.slice a2 U.length c2) U ∧ Below w.heap.size w w' := by
  subst hd
  have hA := ask_two (B := false) hx hr hf hl hfa hla hB
  rw [hS, hU] at hA
  refine (ask_ok (x := x) (k := 2) (n := 0) (m := 0) (hs := []) hA hw (by rw [hx]; exact hT) (HvAt.nil _ _) rfl (by omega) (by unfold tells; split <;> rfl)).mono ?_
  rintro e w' ⟨tb, td, a1, c1, a2, c2, a3, c3, rfl, h0, h1, h2, hB⟩
  have hq : (x.get 2).q = 0 := by rw [hx]
  rw [hq]
  exact ⟨tb, td, a1, c1, a2, c2, a3, c3, by cases x.d <;> rfl, h0, h1, h2, hB⟩
theorem ask_two_no {x : Cl} {aa ua o : Bool} {al ul : List (List UInt8)} {ta a : Option Addr} {tc c : Nat} {w : World} (hx : x.get 2 = ⟨aa, ta, tc, al, o, 0⟩) (hr : Real ⟨ua, ul⟩) (hf : NmFit ul) (hl : ul.length ≤ 12) (hfa : NmFit al) (hla : al.length ≤ 12) (hB : (o && nSame ⟨aa, al⟩ ⟨ua, ul⟩) = true)
    (hT : TsAt w (.slice ta al.length tc) al) (hw : TsAt w (.slice a ul.length c) ul) (hg : Ge w) :
    Calls Tryz.prog 25 #[x.v, .int .i64 2, .agg #[.bool ua, .slice a ul.length c], .slice none 0 0] w fun e w' => e = .returned (.tuple #[x.v, .agg rq0, .int .i64 5]) ∧ Below w.heap.size w w' :=
  ask_err (x := x) (k := 2) (n := 0) (ask_two (B := true) hx hr hf hl hfa hla hB) hw (by rw [hx]; exact hT) rfl hg
/-- Lists of bytes at a. -/
def BssIn (W : World) (a : Option Addr) (LL : List (List Nat)) : Prop := ∀ (i : Nat) (ms : List Nat), LL[i]? = some ms → ∃ b o a' c', a = some ⟨b, o, none⟩ ∧ b < W.heap.size ∧ W.cell? ⟨b, o + i, none⟩ = some (.slice a' ms.length c') ∧ BytesIn W a' ms ∧ ms.length ≤ 9223372036854775807 ∧ ∀ x ∈ ms, x < 256
set_option maxRecDepth 100000 in
theorem bss_of {H : Type} {enc : TypeId × Value → H} {W : World} {d : DataW H} {ps : List MemPlace} {v : Value}
    (ho : Value.okWide Tryz.prog W .any 0 67 v) (h : DataW.Trod enc Tryz.prog W 0 (fun _ => true) true 67 v d ps) :
    ∃ a l c LL, v = .slice a l c ∧ LL.length = l ∧ l ≤ 9223372036854775807 ∧ BssIn W a LL := by
  obtain ⟨a0, l0, c0, rfl⟩ := okWide_slice Tryz.underlying67 ho
  obtain ⟨fuel, hf⟩ := h
  rcases Go.Deep.open_slice1 Tryz.underlying67 (by kernel_rfl) hf with ⟨hcs, hx⟩ | ⟨a', len, cap, m, n, V, D, Pl, hcs, _, hl, hm, hmm, hx, hel⟩
  · simp [Value.cells] at hcs
    obtain ⟨rfl, rfl, rfl⟩ := hcs
    exact ⟨none, 0, 0, [], rfl, rfl, Nat.zero_le _, fun i r hi => by simp at hi⟩
  · simp [Value.cells] at hcs
    obtain ⟨rfl, rfl, rfl⟩ := hcs
    simp only [if_true] at hmm
    obtain ⟨b, off, spot⟩ := a'
    by_cases h0 : l0 = 0
    · subst h0
      exact ⟨some ⟨b, off, spot⟩, 0, c0, [], rfl, rfl, Nat.zero_le _, fun i r hi => by simp at hi⟩
    have hspot : spot = none := by
      have hh := (hel 0 (by omega)).1
      have hz : ∀ a : Addr, a.add 0 = a := fun a => by unfold Addr.add; simp
      rw [hz] at hh
      exact World.cell?_spot hh
    subst hspot
    have one : ∀ i, i < l0 → ∃ ms : List Nat, ∃ a' c', W.cell? ⟨b, off + i, none⟩ = some (.slice a' ms.length c') ∧ BytesIn W a' ms ∧ ms.length ≤ 9223372036854775807 ∧ ∀ x ∈ ms, x < 256 := by
      intro i hi
      obtain ⟨hc, ht⟩ := hel i (by omega)
      rw [addr_plain] at hc
      rcases Go.Deep.open_slice Tryz.underlying22 ht with ⟨hcs, _⟩ | ⟨a2, len2, cap2, _, _, _, _, hcs, _⟩
      · obtain hv : V i = .slice none 0 0 := by simpa using hcs
        rw [hv] at hc
        exact ⟨[], none, 0, hc, fun i n hi => by simp at hi, Nat.zero_le _, fun x hx => by cases hx⟩
      · obtain hv : V i = .slice (some a2) len2 cap2 := by simpa using hcs
        rw [hv] at hc ht
        obtain ⟨zs, z1, z2, z3, z4⟩ := nats_of Tryz.underlying22 Tryz.underlying5 (by kernel_rfl) (by decide) ⟨n, ht⟩
        unfold maxLen at z2
        refine ⟨zs, some a2, cap2, by rw [z1]; exact hc, fun i n hi => ?_, by omega, fun x hx => ?_⟩
        · obtain ⟨hlt, rfl⟩ := List.getElem?_eq_some_iff.1 hi
          obtain ⟨b2, o2, e1, e2, e3⟩ := z3 (by omega)
          exact ⟨b2, o2, e1, e2, e3 i hlt⟩
        · have := z4 x hx
          have e : IntKind.u8.max = 255 := rfl
          rw [e] at this; omega
    have hall : ∃ LL : List (List Nat), LL.length = l0 ∧ ∀ i ms, LL[i]? = some ms → ∃ a' c', W.cell? ⟨b, off + i, none⟩ = some (.slice a' ms.length c') ∧ BytesIn W a' ms ∧ ms.length ≤ 9223372036854775807 ∧ ∀ x ∈ ms, x < 256 := by
      have : ∀ k, k ≤ l0 → ∃ LL : List (List Nat), LL.length = k ∧ ∀ i ms, LL[i]? = some ms → ∃ a' c', W.cell? ⟨b, off + i, none⟩ = some (.slice a' ms.length c') ∧ BytesIn W a' ms ∧ ms.length ≤ 9223372036854775807 ∧ ∀ x ∈ ms, x < 256 := by
        intro k
        induction k with
        | zero => intro _; exact ⟨[], rfl, fun i ms hi => by simp at hi⟩
        | succ k ih =>
          intro hk
          obtain ⟨LL, h1, h2⟩ := ih (by omega)
          obtain ⟨ms, hms⟩ := one k (by omega)
          refine ⟨LL ++ [ms], by simp [h1], fun i m hi => ?_⟩
          by_cases hik : i < LL.length
          · rw [List.getElem?_append_left hik] at hi; exact h2 i m hi
          · rw [List.getElem?_append_right (by omega)] at hi
            have e : i - LL.length = 0 := by
              have := (List.getElem?_eq_some_iff.1 hi).1
              simp at this; omega
            rw [e] at hi
            obtain rfl := Option.some.inj hi
            obtain rfl : i = k := by omega
            exact hms
      exact this l0 (Nat.le_refl _)
    obtain ⟨LL, h1, h2⟩ := hall
    refine ⟨some ⟨b, off, none⟩, l0, c0, LL, rfl, h1, by unfold maxLen at hm; omega, fun i ms hi => ?_⟩
    obtain ⟨a', c', q1, q2, q3, q4⟩ := h2 i ms hi
    exact ⟨b, off, a', c', rfl, World.block_lt_of_cell? W _ q1, q1, q2, q3, q4⟩
end Go.Proofs.YtdcfdcjgheijcaaGreatDoor
