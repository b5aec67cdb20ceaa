/- names: the reference's Union. -/
import Derived.Test.YtdcfdcjgheijcaaNmRLess
namespace Go.Proofs.Ytdcfdcjgheijcaa
open Go.RowKit Go.Lib

def insL (l : List (List UInt8)) : List (List UInt8) := l.foldl ins []
theorem insL_snoc (l : List (List UInt8)) (x : List UInt8) : insL (l ++ [x]) = ins (insL l) x := by simp [insL, List.foldl_append]
theorem insL_facts (l : List (List UInt8)) : Rises (insL l) ∧ (∀ x, x ∈ insL l ↔ x ∈ l) ∧ (insL l).length ≤ l.length := by
  have key : ∀ (l acc : List (List UInt8)), Rises acc → Rises (l.foldl ins acc) ∧ (∀ x, x ∈ l.foldl ins acc ↔ x ∈ acc ∨ x ∈ l) ∧ (l.foldl ins acc).length ≤ acc.length + l.length := by
    intro l
    induction l with
    | nil => intro acc h; exact ⟨h, fun x => by simp, by simp⟩
    | cons y l ih =>
      intro acc h
      obtain ⟨h1, h2, h3⟩ := ih (ins acc y) (ins_rises h y)
      refine ⟨h1, fun x => ?_, ?_⟩
      · rw [List.foldl_cons, h2, ins_mem, List.mem_cons]
        constructor
        · rintro ((h | h) | h)
          · exact .inl h
          · exact .inr (.inl h)
          · exact .inr (.inr h)
        · rintro (h | h | h)
          · exact .inl (.inl h)
          · exact .inl (.inr h)
          · exact .inr h
      · rw [List.foldl_cons, List.length_cons]
        have := ins_len acc y; omega
  obtain ⟨h1, h2, h3⟩ := key l [] List.Pairwise.nil
  exact ⟨h1, fun x => by rw [insL, h2]; simp, by simpa [insL] using h3⟩
theorem insL_srt (l : List (List UInt8)) : insL l = srt l := (srt_eq (insL_facts l).1 (fun x => ((insL_facts l).2.1 x).symm)).symm
/-- What the loops hold. -/
structure Ru (w : World) (R : Nat) (sa : Bool) (ns : List (List UInt8)) (a : Option Addr) (c : Nat) (wr : World) : Prop where
  box : Blk wr (R + 1) #[.bool sa, .slice a ns.length c] 29
  res : Blk wr R #[.bool false, .slice none 0 0] 29
  ts : TsAt wr (.slice a ns.length c) ns
  bel : Below w.heap.size w wr
theorem Ru.later {w : World} {R : Nat} {sa : Bool} {ns : List (List UInt8)} {a : Option Addr} {c : Nat} {wr w' : World} (h : Ru w R sa ns a c wr) (hb : Below wr.heap.size wr w') : Ru w R sa ns a c w' :=
  ⟨h.box.later hb, h.res.later hb, h.ts.later hb, h.bel.trans (hb.mono h.bel.size)⟩
theorem Ru.orAll {w : World} {R : Nat} {sa : Bool} {ns : List (List UInt8)} {a : Option Addr} {c : Nat} {wr : World} (h : Ru w R sa ns a c wr) (hR : w.heap.size ≤ R) (v : Bool) : Ru w R v ns a c (wr.setCell ⟨R + 1, 0, none⟩ (.bool v)) where
  box := h.box.set 0 _
  res := (heap_setCell_other _ _ _ _ (by simp)).trans h.res
  ts := h.ts.set _ (h.box.cell 0) (fun s e => by cases e)
  bel := h.bel.setCell (p := ⟨R + 1, 0, none⟩) (by show w.heap.size ≤ R + 1; omega) _
theorem Ru.put {w : World} {R : Nat} {sa : Bool} {ns ns' : List (List UInt8)} {a a' : Option Addr} {c c' : Nat} {wr : World} (h : Ru w R sa ns a c wr) (hR : w.heap.size ≤ R) (ht : TsAt wr (.slice a' ns'.length c') ns') : Ru w R sa ns' a' c' (wr.setCell ⟨R + 1, 1, none⟩ (.slice a' ns'.length c')) where
  box := h.box.set 1 _
  res := (heap_setCell_other _ _ _ _ (by simp)).trans h.res
  ts := ht.set _ (h.box.cell 1) (fun s e => by cases e)
  bel := h.bel.setCell (p := ⟨R + 1, 1, none⟩) (by show w.heap.size ≤ R + 1; omega) _
theorem uflat_next (ss : List Ns) {k : Nat} {s : Ns} (h : ss[k]? = some s) : (ss.take (k + 1)).flatMap (·.ns) = (ss.take k).flatMap (·.ns) ++ s.ns := by
  rw [List.take_add_one, h, List.flatMap_append]; simp
theorem uflat_le (ss : List Ns) {k j : Nat} {s : Ns} (h : ss[k]? = some s) : ((ss.take k).flatMap (·.ns) ++ s.ns.take j).length ≤ (ss.flatMap (·.ns)).length := by
  have h1 := uflat_next ss h
  have h2 : ((ss.take (k + 1)) ++ ss.drop (k + 1)).flatMap (·.ns) = ss.flatMap (·.ns) := by rw [List.take_append_drop]
  rw [List.flatMap_append, h1] at h2
  rw [← h2]
  simp only [List.length_append, List.length_take]
  omega

set_option maxRecDepth 100000 in
set_option maxHeartbeats 4000000 in
theorem runion_any {a : Option Addr} {n c : Nat} {ss : List Ns} {w : World} {sa : Bool} {sl : List (List UInt8)} (h : SetsAt w a ss) (hl : ss.length = n) (hf : NssFit ss) (hz : ((ss.flatMap (·.ns)).length + 1) * 16 ≤ 140737488355328) (he : nUnion ss = ⟨sa, sl⟩) :
    Calls Try.prog 10 #[.slice a n c] w (SetPost sa sl w) := by
  have H := Lib.hid h
  have HF := Lib.hid hf
  have HL := Lib.hid hl
  have hn : n ≤ 1000000 := by rw [← hl]; exact hf.2.2
  have HA := Lib.hid (show ss.any (·.all) = sa from congrArg Ns.all he)
  have HE := Lib.hid (show srt (ss.flatMap (·.ns)) = sl from congrArg Ns.ns he)
  obtain ⟨R, hR⟩ : ∃ R, w.heap.size = R := ⟨_, rfl⟩
  have HR := Lib.hid hR
  obtain ⟨w1, hw1, hb1, p1⟩ := alloc_new w #[.bool false, .slice none 0 0] 29
  obtain ⟨w2, hw2, hb2, p2⟩ := alloc_new w1 #[.bool false, .slice none 0 0] 29
  have e1 : w1.heap.size = R + 1 := by rw [← hw1, World.size_alloc, hR]
  have D0 : Ru w R false [] none 0 w2 := by
    have q1 := p1.later hb2
    rw [hR] at q1; rw [e1] at p2
    exact ⟨p2, q1, RowV.nil _ _ _ (Nat.zero_le _), Base.later hb1 hb2⟩
  have HD0 := Lib.hid D0
  have HW := Lib.hid (And.intro hw1 hw2)
  clear he h hl hf hb1 hb2 hw1 hw2 p1 p2 D0
  go_enter Try.func10, Try.ntmps10
  go_wp2_with fail
  rw [HW.out.1, HW.out.2]
  go_loopw [4] (fun i wr => ∃ (k : Nat) (ta : Bool) (ns : List (List UInt8)) (a' : Option Addr) (c' : Nat), k ≤ n ∧ i = .int .i64 k ∧ (ss.take k).any (·.all) = ta ∧ insL ((ss.take k).flatMap (·.ns)) = ns ∧ Ru w R ta ns a' c' wr) (fun i _ => n - (RowKit.intOf i).toNat)
  case atStart => exact ⟨0, _, _, _, _, Nat.zero_le _, rfl, rfl, rfl, HD0.out⟩
  case round =>
    obtain ⟨k, ta, ns, a', c', hk, rfl, hta, hns, hr⟩ := hrel
    have r0 : wr.cell? ⟨R + 1, 0, none⟩ = some (.bool ta) := hr.box.cell 0
    have f0 := hr.box.frozen 0
    by_cases hlt : k < n
    · obtain ⟨s, hs⟩ : ∃ s, ss[k]? = some s := ⟨_, List.getElem?_eq_getElem (by have := HL.out; omega)⟩
      obtain ⟨b, off, av, cs, rfl, hbl, h1, h2, h3⟩ := H.out k s hs
      have hbR : b < R := by have := HR.out; omega
      have d1 : wr.cell? ⟨b, off + k * 2, none⟩ = some (.bool s.all) := (hr.bel.cell (p := ⟨b, _, none⟩) hbl).trans h1
      have b0 : (0 : Int) ≤ (k : Int) := by omega
      have b1 : (k : Int) < (n : Int) := by omega
      have hat := any_take ss hs
      rw [hta] at hat
      have hflat := uflat_next ss hs
      have hfl : ∀ j, ((ss.take k).flatMap (·.ns) ++ s.ns.take j).length ≤ (ss.flatMap (·.ns)).length := fun j => uflat_le ss hs
      have hm63 : s.ns.length ≤ 9223372036854775807 := by
        obtain ⟨_, _, e, q1, q2, _⟩ := h3.out
        injection e with _ _ e3
        unfold maxLen at q2; omega
      have HT := Lib.hid (And.intro hat (And.intro hflat (And.intro hfl (And.intro h2 (And.intro h3 hns)))))
      have hr1 := hr.orAll (by have := HR.out; omega) (ta || s.all)
      have HRo := Lib.hid hr1
      clear hs h1 h2 h3 hr hr1 hat hflat hfl hns hta
      obtain ⟨w3, hw3⟩ : ∃ w3, wr.setCell ⟨R + 1, 0, none⟩ (.bool (ta || s.all)) = w3 := ⟨_, rfl⟩
      have HW3 := Lib.hid hw3
      have HRu : Hid (Ru w R (ta || s.all) ns a' c' w3) := Lib.hid (by rw [← HW3.out]; exact HRo.out)
      clear HRo hw3
      cases ta
      · simp only [Bool.false_or, Bool.true_or] at HW3 HRu
        go_wp2_with fail
        rw [HW3.out]
        go_loopw [5] (fun i wr => ∃ (j : Nat) (ns' : List (List UInt8)) (a'' : Option Addr) (c'' : Nat), j ≤ s.ns.length ∧ i = .int .i64 j ∧ insL ((ss.take k).flatMap (·.ns) ++ s.ns.take j) = ns' ∧ Ru w R s.all ns' a'' c'' wr) (fun i _ => s.ns.length - (RowKit.intOf i).toNat)
        case atStart => exact ⟨0, ns, _, _, Nat.zero_le _, rfl, by rw [List.take_zero, List.append_nil]; exact HT.out.2.2.2.2.2, HRu.out⟩
        case round =>
          obtain ⟨j, nj, aj, cj, hj, rfl, hnj, hru⟩ := hrel
          have d2 : wr.cell? ⟨b, off + k * 2 + 1, none⟩ = some (.slice av s.ns.length cs) := (hru.bel.cell (p := ⟨b, _, none⟩) (by show b < w.heap.size; have := HR.out; omega)).trans HT.out.2.2.2.1
          by_cases hjl : j < s.ns.length
          · obtain ⟨y, hy⟩ : ∃ y, s.ns[j]? = some y := ⟨_, List.getElem?_eq_getElem hjl⟩
            obtain ⟨a1', c1', e1', _, _, h3⟩ := HT.out.2.2.2.2.1.out
            injection e1' with q1 _ q3
            subst q1; subst q3
            obtain ⟨b2, off2, rfl, hbl2, hc⟩ := h3 j hjl
            clear h3
            rw [(List.getElem?_eq_some_iff.1 hy).2] at hc
            have hb2R : b2 < R := by have := HR.out; omega
            have N1 : CellAt wr b (off + k * 2 + 1) (.slice (some ⟨b2, off2, none⟩) s.ns.length cs) := ⟨Nat.lt_of_lt_of_le (by have := HR.out; omega) hru.bel.size, d2⟩
            have N2 : CellAt wr b2 (off2 + j) (.string ⟨y.toArray⟩) := ⟨Nat.lt_of_lt_of_le hbl2 hru.bel.size, (hru.bel.cell (p := ⟨b2, _, none⟩) hbl2).trans hc⟩
            have j0 : (0 : Int) ≤ (j : Int) := by omega
            have j1 : (j : Int) < (s.ns.length : Int) := by omega
            have hins : insL ((ss.take k).flatMap (·.ns) ++ s.ns.take (j + 1)) = ins nj y := by
              rw [List.take_add_one, hy, ← hnj, ← List.append_assoc]; exact insL_snoc _ _
            have hnl : (nj.length + 1) * 16 ≤ 140737488355328 := by
              have q1 := (insL_facts ((ss.take k).flatMap (·.ns) ++ s.ns.take j)).2.2
              rw [hnj] at q1
              have q2 := HT.out.2.2.1 j
              omega
            have HI := Lib.hid (And.intro hins hnl)
            have HN := Lib.hid (And.intro N1 N2)
            have HU := Lib.hid hru
            clear hins hnl N1 N2 hru hc hy hnj
            go_wp2_with fail
            obtain ⟨w1, hw2, hb3⟩ := drew_new wr
            have q4 := HU.out.later hb3
            have q5 := HN.out.1.later hb3
            have q6 := HN.out.2.later hb3
            refine wp_region_held_drew (S := (fun w' => w'.cell? ⟨b, off + k * 2 + 1, none⟩ = some (.slice (some ⟨b2, off2, none⟩) s.ns.length cs) ∧ w'.cell? ⟨b2, off2 + j, none⟩ = some (.string ⟨y.toArray⟩))) (by kernel_rfl) (by rw [hw2]; exact ⟨q5.2, q6.2⟩) (fun hHeld => ?_)
            rw [hw2] at hHeld ⊢
            have r1d := q4.box.cell 1
            simp only [List.getElem?_toArray, List.getElem?_cons_zero, List.getElem?_cons_succ] at r1d
            refine wpAnyH_take (i := 0) (oi := { dst := some 33, op := Op.fieldAddr 29 (Operand.tmp 3) 1, type := 0, pos := "ref.go:80", after := #[], guard := none }) (v := ?v1001) rfl (by kernel_rfl) (by kernel_rfl) (by kernel_rfl) (fun _ _ _ h => h) (Or.inl ⟨by rfl, ?hy1001⟩) (by assumption) ?rest1001
            case hy1001 => (intro w1 hSw; (try dsimp only at hSw); obtain ⟨h0, h1⟩ := hSw; go_simp; try with_reducible rfl)
            try simp only [Act.put, List.setIfInBounds_toArray, List.set_cons_zero, List.set_cons_succ]
            refine wpAnyH_take (i := 2) (oi := { dst := some 35, op := Op.move (Operand.tmp 0), type := 34, pos := "ref.go:80", after := #[], guard := none }) (v := ?v1002) rfl (by kernel_rfl) (by kernel_rfl) (by kernel_rfl) (fun _ _ _ h => h) (Or.inl ⟨by rfl, ?hy1002⟩) (by assumption) ?rest1002
            case hy1002 => (intro w1 hSw; (try dsimp only at hSw); obtain ⟨h0, h1⟩ := hSw; go_simp; try with_reducible rfl)
            try simp only [Act.put, List.setIfInBounds_toArray, List.set_cons_zero, List.set_cons_succ]
            refine wpAnyH_take (i := 3) (oi := { dst := some 36, op := Op.move (Operand.tmp 4), type := 3, pos := "ref.go:80", after := #[], guard := none }) (v := ?v1003) rfl (by kernel_rfl) (by kernel_rfl) (by kernel_rfl) (fun _ _ _ h => h) (Or.inl ⟨by rfl, ?hy1003⟩) (by assumption) ?rest1003
            case hy1003 => (intro w1 hSw; (try dsimp only at hSw); obtain ⟨h0, h1⟩ := hSw; go_simp; try with_reducible rfl)
            try simp only [Act.put, List.setIfInBounds_toArray, List.set_cons_zero, List.set_cons_succ]
            refine wpAnyH_take (i := 4) (oi := { dst := some 37, op := Op.indexAddr 34 (Operand.tmp 35) (Operand.tmp 36), type := 0, pos := "ref.go:80", after := #[{ on := 2, ground := Ground.data }, { on := 3, ground := Ground.data }], guard := none }) (v := ?v1004) rfl (by kernel_rfl) (by kernel_rfl) (by kernel_rfl) (fun _ _ _ h => h) (Or.inl ⟨by rfl, ?hy1004⟩) (by assumption) ?rest1004
            case hy1004 => (intro w1 hSw; (try dsimp only at hSw); obtain ⟨h0, h1⟩ := hSw; go_simp; try with_reducible rfl)
            try simp only [Act.put, List.setIfInBounds_toArray, List.set_cons_zero, List.set_cons_succ]
            refine wpAnyH_take (i := 5) (oi := { dst := some 38, op := Op.fieldAddr 29 (Operand.tmp 37) 1, type := 0, pos := "ref.go:80", after := #[{ on := 4, ground := Ground.data }], guard := none }) (v := ?v1005) rfl (by kernel_rfl) (by kernel_rfl) (by kernel_rfl) (fun _ _ _ h => h) (Or.inl ⟨by rfl, ?hy1005⟩) (by assumption) ?rest1005
            case hy1005 => (intro w1 hSw; (try dsimp only at hSw); obtain ⟨h0, h1⟩ := hSw; go_simp; try with_reducible rfl)
            try simp only [Act.put, List.setIfInBounds_toArray, List.set_cons_zero, List.set_cons_succ]
            refine wpAnyH_take (i := 6) (oi := { dst := some 39, op := Op.load 24 (Operand.tmp 38), type := 24, pos := "ref.go:80", after := #[{ on := 5, ground := Ground.data }], guard := none }) (v := ?v1006) rfl (by kernel_rfl) (by kernel_rfl) (by kernel_rfl) (fun _ _ _ h => h) (Or.inl ⟨by rfl, ?hy1006⟩) (by assumption) ?rest1006
            case hy1006 => (intro w1 hSw; (try dsimp only at hSw); obtain ⟨h0, h1⟩ := hSw; go_simp; try with_reducible rfl)
            try simp only [Act.put, List.setIfInBounds_toArray, List.set_cons_zero, List.set_cons_succ]
            refine wpAnyH_take (i := 7) (oi := { dst := some 40, op := Op.move (Operand.tmp 5), type := 3, pos := "ref.go:80", after := #[], guard := none }) (v := ?v1007) rfl (by kernel_rfl) (by kernel_rfl) (by kernel_rfl) (fun _ _ _ h => h) (Or.inl ⟨by rfl, ?hy1007⟩) (by assumption) ?rest1007
            case hy1007 => (intro w1 hSw; (try dsimp only at hSw); obtain ⟨h0, h1⟩ := hSw; go_simp; try with_reducible rfl)
            try simp only [Act.put, List.setIfInBounds_toArray, List.set_cons_zero, List.set_cons_succ]
            refine wpAnyH_take (i := 8) (oi := { dst := some 41, op := Op.indexAddr 24 (Operand.tmp 39) (Operand.tmp 40), type := 0, pos := "ref.go:80", after := #[{ on := 6, ground := Ground.data }, { on := 7, ground := Ground.data }], guard := none }) (v := ?v1008) rfl (by kernel_rfl) (by kernel_rfl) (by kernel_rfl) (fun _ _ _ h => h) (Or.inl ⟨by rfl, ?hy1008⟩) (by assumption) ?rest1008
            case hy1008 => (intro w1 hSw; (try dsimp only at hSw); obtain ⟨h0, h1⟩ := hSw; go_simp; try with_reducible rfl)
            try simp only [Act.put, List.setIfInBounds_toArray, List.set_cons_zero, List.set_cons_succ]
            refine wpAnyH_take (i := 9) (oi := { dst := some 42, op := Op.load 9 (Operand.tmp 41), type := 9, pos := "ref.go:80", after := #[{ on := 8, ground := Ground.data }], guard := none }) (v := ?v1009) rfl (by kernel_rfl) (by kernel_rfl) (by kernel_rfl) (fun _ _ _ h => h) (Or.inl ⟨by rfl, ?hy1009⟩) (by assumption) ?rest1009
            case hy1009 => (intro w1 hSw; (try dsimp only at hSw); obtain ⟨h0, h1⟩ := hSw; go_simp; try with_reducible rfl)
            try simp only [Act.put, List.setIfInBounds_toArray, List.set_cons_zero, List.set_cons_succ]
            refine wpAnyH_ready (rs := [1]) (by kernel_rfl) (by simp) ?_
            refine AllReadyH.cons (o := { dst := some 34, op := Op.load 24 (Operand.tmp 33), type := 24, pos := "ref.go:80", after := #[{ on := 0, ground := Ground.data }], guard := none }) rfl (fun K hK => ?_) AllReadyH.nil
            go_simp
            refine hK.out _ _ (⟨q5.2, q6.2⟩) (fun hHeld => ?_)
            clear hK K
            try simp only [Act.put, List.setIfInBounds_toArray, List.set_cons_zero, List.set_cons_succ]
            refine wpAnyH_ready (rs := [10]) (by kernel_rfl) (by simp) ?_
            refine AllReadyH.cons (o := { dst := some 43, op := Op.call { callee := Callee.value (Operand.func 29), args := #[Operand.tmp 34, Operand.tmp 42], argTypes := #[24, 9] }, type := 24, pos := "ref.go:80", after := #[{ on := 1, ground := Ground.data }, { on := 9, ground := Ground.data }], guard := none }) rfl (fun K hK => ?_) AllReadyH.nil
            go_simp
            refine (with_any (l := nj) q4.ts HI.out.2).mono ?_
            rintro e w7 ⟨ax, cx, rfl, tx, hb8⟩
            have q9 := q4.later hb8
            have q10 := q5.later hb8
            have q11 := q6.later hb8
            have r1 := q9.box.cell 1
            have g1 := q9.box.frozen 1
            simp only [List.getElem?_toArray, List.getElem?_cons_zero, List.getElem?_cons_succ] at r1
            refine hK.out _ _ (⟨q10.2, q11.2⟩) (fun hHeld => ?_)
            clear hK K
            try simp only [Act.put, List.setIfInBounds_toArray, List.set_cons_zero, List.set_cons_succ]
            refine wpAnyH_take (i := 11) (oi := { dst := some 44, op := Op.fieldAddr 29 (Operand.tmp 3) 1, type := 0, pos := "ref.go:80", after := #[{ on := 0, ground := Ground.phase }, { on := 1, ground := Ground.phase }, { on := 2, ground := Ground.phase }, { on := 3, ground := Ground.phase }, { on := 4, ground := Ground.phase }, { on := 5, ground := Ground.phase }, { on := 6, ground := Ground.phase }, { on := 7, ground := Ground.phase }, { on := 8, ground := Ground.phase }, { on := 9, ground := Ground.phase }, { on := 10, ground := Ground.phase }], guard := none }) (v := ?v1010) rfl (by kernel_rfl) (by kernel_rfl) (by kernel_rfl) (fun _ _ _ h => h) (Or.inl ⟨by rfl, ?hy1010⟩) (by assumption) ?rest1010
            case hy1010 => (intro w1 hSw; (try dsimp only at hSw); obtain ⟨h0, h1⟩ := hSw; go_simp; try with_reducible rfl)
            try simp only [Act.put, List.setIfInBounds_toArray, List.set_cons_zero, List.set_cons_succ]
            refine wpAnyH_ready (rs := [12]) (by kernel_rfl) (by simp) ?_
            refine AllReadyH.cons (o := { dst := none, op := Op.store 24 (Operand.tmp 44) (Operand.tmp 43), type := 0, pos := "ref.go:80", after := #[{ on := 11, ground := Ground.data }, { on := 10, ground := Ground.data }, { on := 10, ground := Ground.chain }, { on := 0, ground := Ground.phase }, { on := 1, ground := Ground.phase }, { on := 2, ground := Ground.phase }, { on := 3, ground := Ground.phase }, { on := 4, ground := Ground.phase }, { on := 5, ground := Ground.phase }, { on := 6, ground := Ground.phase }, { on := 7, ground := Ground.phase }, { on := 8, ground := Ground.phase }, { on := 9, ground := Ground.phase }, { on := 10, ground := Ground.phase }], guard := none }) rfl (fun K hK => ?_) AllReadyH.nil
            go_simp
            refine hK.out _ _ (⟨cell_far (R := R + 1) q10.2 (by omega), cell_far (R := R + 1) q11.2 (by omega)⟩) (fun hHeld => ?_)
            clear hK K
            refine wpAnyH_done (by kernel_rfl) ?_ _
            go_wp2_with fail
            go_roundw
            case rel => exact ⟨j + 1, ins nj y, _, _, by omega, by go_num, HI.out.1, Ru.put q9 (by have := HR.out; omega) tx⟩
            case measure => simp [RowKit.intOf]; omega
          · have j1 : ¬ (j : Int) < (s.ns.length : Int) := by omega
            have HU := Lib.hid hru
            have HJ := Lib.hid (show insL ((ss.take (k + 1)).flatMap (·.ns)) = nj by rw [HT.out.2.1, ← hnj, List.take_of_length_le (show s.ns.length ≤ j by omega)])
            clear hru hnj
            go_wp2_with fail
            go_roundw
            case rel => exact ⟨k + 1, _, nj, _, _, by omega, by go_num, by rw [HT.out.1]; rfl, HJ.out, HU.out⟩
            case measure => simp [RowKit.intOf]; omega
      · simp only [Bool.false_or, Bool.true_or] at HW3 HRu
        go_wp2_with fail
        rw [HW3.out]
        go_loopw [5] (fun i wr => ∃ (j : Nat) (ns' : List (List UInt8)) (a'' : Option Addr) (c'' : Nat), j ≤ s.ns.length ∧ i = .int .i64 j ∧ insL ((ss.take k).flatMap (·.ns) ++ s.ns.take j) = ns' ∧ Ru w R true ns' a'' c'' wr) (fun i _ => s.ns.length - (RowKit.intOf i).toNat)
        case atStart => exact ⟨0, ns, _, _, Nat.zero_le _, rfl, by rw [List.take_zero, List.append_nil]; exact HT.out.2.2.2.2.2, HRu.out⟩
        case round =>
          obtain ⟨j, nj, aj, cj, hj, rfl, hnj, hru⟩ := hrel
          have d2 : wr.cell? ⟨b, off + k * 2 + 1, none⟩ = some (.slice av s.ns.length cs) := (hru.bel.cell (p := ⟨b, _, none⟩) (by show b < w.heap.size; have := HR.out; omega)).trans HT.out.2.2.2.1
          by_cases hjl : j < s.ns.length
          · obtain ⟨y, hy⟩ : ∃ y, s.ns[j]? = some y := ⟨_, List.getElem?_eq_getElem hjl⟩
            obtain ⟨a1', c1', e1', _, _, h3⟩ := HT.out.2.2.2.2.1.out
            injection e1' with q1 _ q3
            subst q1; subst q3
            obtain ⟨b2, off2, rfl, hbl2, hc⟩ := h3 j hjl
            clear h3
            rw [(List.getElem?_eq_some_iff.1 hy).2] at hc
            have hb2R : b2 < R := by have := HR.out; omega
            have N1 : CellAt wr b (off + k * 2 + 1) (.slice (some ⟨b2, off2, none⟩) s.ns.length cs) := ⟨Nat.lt_of_lt_of_le (by have := HR.out; omega) hru.bel.size, d2⟩
            have N2 : CellAt wr b2 (off2 + j) (.string ⟨y.toArray⟩) := ⟨Nat.lt_of_lt_of_le hbl2 hru.bel.size, (hru.bel.cell (p := ⟨b2, _, none⟩) hbl2).trans hc⟩
            have j0 : (0 : Int) ≤ (j : Int) := by omega
            have j1 : (j : Int) < (s.ns.length : Int) := by omega
            have hins : insL ((ss.take k).flatMap (·.ns) ++ s.ns.take (j + 1)) = ins nj y := by
              rw [List.take_add_one, hy, ← hnj, ← List.append_assoc]; exact insL_snoc _ _
            have hnl : (nj.length + 1) * 16 ≤ 140737488355328 := by
              have q1 := (insL_facts ((ss.take k).flatMap (·.ns) ++ s.ns.take j)).2.2
              rw [hnj] at q1
              have q2 := HT.out.2.2.1 j
              omega
            have HI := Lib.hid (And.intro hins hnl)
            have HN := Lib.hid (And.intro N1 N2)
            have HU := Lib.hid hru
            clear hins hnl N1 N2 hru hc hy hnj
            go_wp2_with fail
            obtain ⟨w12, hw13, hb14⟩ := drew_new wr
            have q15 := HU.out.later hb14
            have q16 := HN.out.1.later hb14
            have q17 := HN.out.2.later hb14
            refine wp_region_held_drew (S := (fun w' => w'.cell? ⟨b, off + k * 2 + 1, none⟩ = some (.slice (some ⟨b2, off2, none⟩) s.ns.length cs) ∧ w'.cell? ⟨b2, off2 + j, none⟩ = some (.string ⟨y.toArray⟩))) (by kernel_rfl) (by rw [hw13]; exact ⟨q16.2, q17.2⟩) (fun hHeld => ?_)
            rw [hw13] at hHeld ⊢
            have r1d := q15.box.cell 1
            simp only [List.getElem?_toArray, List.getElem?_cons_zero, List.getElem?_cons_succ] at r1d
            refine wpAnyH_take (i := 0) (oi := { dst := some 33, op := Op.fieldAddr 29 (Operand.tmp 3) 1, type := 0, pos := "ref.go:80", after := #[], guard := none }) (v := ?v2001) rfl (by kernel_rfl) (by kernel_rfl) (by kernel_rfl) (fun _ _ _ h => h) (Or.inl ⟨by rfl, ?hy2001⟩) (by assumption) ?rest2001
            case hy2001 => (intro w1 hSw; (try dsimp only at hSw); obtain ⟨h0, h1⟩ := hSw; go_simp; try with_reducible rfl)
            try simp only [Act.put, List.setIfInBounds_toArray, List.set_cons_zero, List.set_cons_succ]
            refine wpAnyH_take (i := 2) (oi := { dst := some 35, op := Op.move (Operand.tmp 0), type := 34, pos := "ref.go:80", after := #[], guard := none }) (v := ?v2002) rfl (by kernel_rfl) (by kernel_rfl) (by kernel_rfl) (fun _ _ _ h => h) (Or.inl ⟨by rfl, ?hy2002⟩) (by assumption) ?rest2002
            case hy2002 => (intro w1 hSw; (try dsimp only at hSw); obtain ⟨h0, h1⟩ := hSw; go_simp; try with_reducible rfl)
            try simp only [Act.put, List.setIfInBounds_toArray, List.set_cons_zero, List.set_cons_succ]
            refine wpAnyH_take (i := 3) (oi := { dst := some 36, op := Op.move (Operand.tmp 4), type := 3, pos := "ref.go:80", after := #[], guard := none }) (v := ?v2003) rfl (by kernel_rfl) (by kernel_rfl) (by kernel_rfl) (fun _ _ _ h => h) (Or.inl ⟨by rfl, ?hy2003⟩) (by assumption) ?rest2003
            case hy2003 => (intro w1 hSw; (try dsimp only at hSw); obtain ⟨h0, h1⟩ := hSw; go_simp; try with_reducible rfl)
            try simp only [Act.put, List.setIfInBounds_toArray, List.set_cons_zero, List.set_cons_succ]
            refine wpAnyH_take (i := 4) (oi := { dst := some 37, op := Op.indexAddr 34 (Operand.tmp 35) (Operand.tmp 36), type := 0, pos := "ref.go:80", after := #[{ on := 2, ground := Ground.data }, { on := 3, ground := Ground.data }], guard := none }) (v := ?v2004) rfl (by kernel_rfl) (by kernel_rfl) (by kernel_rfl) (fun _ _ _ h => h) (Or.inl ⟨by rfl, ?hy2004⟩) (by assumption) ?rest2004
            case hy2004 => (intro w1 hSw; (try dsimp only at hSw); obtain ⟨h0, h1⟩ := hSw; go_simp; try with_reducible rfl)
            try simp only [Act.put, List.setIfInBounds_toArray, List.set_cons_zero, List.set_cons_succ]
            refine wpAnyH_take (i := 5) (oi := { dst := some 38, op := Op.fieldAddr 29 (Operand.tmp 37) 1, type := 0, pos := "ref.go:80", after := #[{ on := 4, ground := Ground.data }], guard := none }) (v := ?v2005) rfl (by kernel_rfl) (by kernel_rfl) (by kernel_rfl) (fun _ _ _ h => h) (Or.inl ⟨by rfl, ?hy2005⟩) (by assumption) ?rest2005
            case hy2005 => (intro w1 hSw; (try dsimp only at hSw); obtain ⟨h0, h1⟩ := hSw; go_simp; try with_reducible rfl)
            try simp only [Act.put, List.setIfInBounds_toArray, List.set_cons_zero, List.set_cons_succ]
            refine wpAnyH_take (i := 6) (oi := { dst := some 39, op := Op.load 24 (Operand.tmp 38), type := 24, pos := "ref.go:80", after := #[{ on := 5, ground := Ground.data }], guard := none }) (v := ?v2006) rfl (by kernel_rfl) (by kernel_rfl) (by kernel_rfl) (fun _ _ _ h => h) (Or.inl ⟨by rfl, ?hy2006⟩) (by assumption) ?rest2006
            case hy2006 => (intro w1 hSw; (try dsimp only at hSw); obtain ⟨h0, h1⟩ := hSw; go_simp; try with_reducible rfl)
            try simp only [Act.put, List.setIfInBounds_toArray, List.set_cons_zero, List.set_cons_succ]
            refine wpAnyH_take (i := 7) (oi := { dst := some 40, op := Op.move (Operand.tmp 5), type := 3, pos := "ref.go:80", after := #[], guard := none }) (v := ?v2007) rfl (by kernel_rfl) (by kernel_rfl) (by kernel_rfl) (fun _ _ _ h => h) (Or.inl ⟨by rfl, ?hy2007⟩) (by assumption) ?rest2007
            case hy2007 => (intro w1 hSw; (try dsimp only at hSw); obtain ⟨h0, h1⟩ := hSw; go_simp; try with_reducible rfl)
            try simp only [Act.put, List.setIfInBounds_toArray, List.set_cons_zero, List.set_cons_succ]
            refine wpAnyH_take (i := 8) (oi := { dst := some 41, op := Op.indexAddr 24 (Operand.tmp 39) (Operand.tmp 40), type := 0, pos := "ref.go:80", after := #[{ on := 6, ground := Ground.data }, { on := 7, ground := Ground.data }], guard := none }) (v := ?v2008) rfl (by kernel_rfl) (by kernel_rfl) (by kernel_rfl) (fun _ _ _ h => h) (Or.inl ⟨by rfl, ?hy2008⟩) (by assumption) ?rest2008
            case hy2008 => (intro w1 hSw; (try dsimp only at hSw); obtain ⟨h0, h1⟩ := hSw; go_simp; try with_reducible rfl)
            try simp only [Act.put, List.setIfInBounds_toArray, List.set_cons_zero, List.set_cons_succ]
            refine wpAnyH_take (i := 9) (oi := { dst := some 42, op := Op.load 9 (Operand.tmp 41), type := 9, pos := "ref.go:80", after := #[{ on := 8, ground := Ground.data }], guard := none }) (v := ?v2009) rfl (by kernel_rfl) (by kernel_rfl) (by kernel_rfl) (fun _ _ _ h => h) (Or.inl ⟨by rfl, ?hy2009⟩) (by assumption) ?rest2009
            case hy2009 => (intro w1 hSw; (try dsimp only at hSw); obtain ⟨h0, h1⟩ := hSw; go_simp; try with_reducible rfl)
            try simp only [Act.put, List.setIfInBounds_toArray, List.set_cons_zero, List.set_cons_succ]
            refine wpAnyH_ready (rs := [1]) (by kernel_rfl) (by simp) ?_
            refine AllReadyH.cons (o := { dst := some 34, op := Op.load 24 (Operand.tmp 33), type := 24, pos := "ref.go:80", after := #[{ on := 0, ground := Ground.data }], guard := none }) rfl (fun K hK => ?_) AllReadyH.nil
            go_simp
            refine hK.out _ _ (⟨q16.2, q17.2⟩) (fun hHeld => ?_)
            clear hK K
            try simp only [Act.put, List.setIfInBounds_toArray, List.set_cons_zero, List.set_cons_succ]
            refine wpAnyH_ready (rs := [10]) (by kernel_rfl) (by simp) ?_
            refine AllReadyH.cons (o := { dst := some 43, op := Op.call { callee := Callee.value (Operand.func 29), args := #[Operand.tmp 34, Operand.tmp 42], argTypes := #[24, 9] }, type := 24, pos := "ref.go:80", after := #[{ on := 1, ground := Ground.data }, { on := 9, ground := Ground.data }], guard := none }) rfl (fun K hK => ?_) AllReadyH.nil
            go_simp
            refine (with_any (l := nj) q15.ts HI.out.2).mono ?_
            rintro e w18 ⟨ax, cx, rfl, tx, hb19⟩
            have q20 := q15.later hb19
            have q21 := q16.later hb19
            have q22 := q17.later hb19
            have r1 := q20.box.cell 1
            have g1 := q20.box.frozen 1
            simp only [List.getElem?_toArray, List.getElem?_cons_zero, List.getElem?_cons_succ] at r1
            refine hK.out _ _ (⟨q21.2, q22.2⟩) (fun hHeld => ?_)
            clear hK K
            try simp only [Act.put, List.setIfInBounds_toArray, List.set_cons_zero, List.set_cons_succ]
            refine wpAnyH_take (i := 11) (oi := { dst := some 44, op := Op.fieldAddr 29 (Operand.tmp 3) 1, type := 0, pos := "ref.go:80", after := #[{ on := 0, ground := Ground.phase }, { on := 1, ground := Ground.phase }, { on := 2, ground := Ground.phase }, { on := 3, ground := Ground.phase }, { on := 4, ground := Ground.phase }, { on := 5, ground := Ground.phase }, { on := 6, ground := Ground.phase }, { on := 7, ground := Ground.phase }, { on := 8, ground := Ground.phase }, { on := 9, ground := Ground.phase }, { on := 10, ground := Ground.phase }], guard := none }) (v := ?v2010) rfl (by kernel_rfl) (by kernel_rfl) (by kernel_rfl) (fun _ _ _ h => h) (Or.inl ⟨by rfl, ?hy2010⟩) (by assumption) ?rest2010
            case hy2010 => (intro w1 hSw; (try dsimp only at hSw); obtain ⟨h0, h1⟩ := hSw; go_simp; try with_reducible rfl)
            try simp only [Act.put, List.setIfInBounds_toArray, List.set_cons_zero, List.set_cons_succ]
            refine wpAnyH_ready (rs := [12]) (by kernel_rfl) (by simp) ?_
            refine AllReadyH.cons (o := { dst := none, op := Op.store 24 (Operand.tmp 44) (Operand.tmp 43), type := 0, pos := "ref.go:80", after := #[{ on := 11, ground := Ground.data }, { on := 10, ground := Ground.data }, { on := 10, ground := Ground.chain }, { on := 0, ground := Ground.phase }, { on := 1, ground := Ground.phase }, { on := 2, ground := Ground.phase }, { on := 3, ground := Ground.phase }, { on := 4, ground := Ground.phase }, { on := 5, ground := Ground.phase }, { on := 6, ground := Ground.phase }, { on := 7, ground := Ground.phase }, { on := 8, ground := Ground.phase }, { on := 9, ground := Ground.phase }, { on := 10, ground := Ground.phase }], guard := none }) rfl (fun K hK => ?_) AllReadyH.nil
            go_simp
            refine hK.out _ _ (⟨cell_far (R := R + 1) q21.2 (by omega), cell_far (R := R + 1) q22.2 (by omega)⟩) (fun hHeld => ?_)
            clear hK K
            refine wpAnyH_done (by kernel_rfl) ?_ _
            go_wp2_with fail
            go_roundw
            case rel => exact ⟨j + 1, ins nj y, _, _, by omega, by go_num, HI.out.1, Ru.put q20 (by have := HR.out; omega) tx⟩
            case measure => simp [RowKit.intOf]; omega
          · have j1 : ¬ (j : Int) < (s.ns.length : Int) := by omega
            have HU := Lib.hid hru
            have HJ := Lib.hid (show insL ((ss.take (k + 1)).flatMap (·.ns)) = nj by rw [HT.out.2.1, ← hnj, List.take_of_length_le (show s.ns.length ≤ j by omega)])
            clear hru hnj
            go_wp2_with fail
            go_roundw
            case rel => exact ⟨k + 1, _, nj, _, _, by omega, by go_num, by rw [HT.out.1]; rfl, HJ.out, HU.out⟩
            case measure => simp [RowKit.intOf]; omega
    · have b1 : ¬ (k : Int) < (n : Int) := by omega
      have hE : ss.take k = ss := List.take_of_length_le (by have := HL.out; omega)
      rw [hE] at hta hns
      obtain rfl : sa = ta := HA.out.symm.trans hta
      obtain rfl : sl = ns := by rw [← hns, insL_srt, HE.out]
      have t0 := hr.box.cell 0
      have t1 := hr.box.cell 1
      have g0 := hr.res.cell 0
      have g1 := hr.res.cell 1
      have z0 := hr.res.frozen 0
      have z1 := hr.res.frozen 1
      simp only [List.getElem?_toArray, List.getElem?_cons_zero, List.getElem?_cons_succ] at t0 t1 g0 g1
      obtain ⟨x0, x1⟩ := two_cells (.bool sa) (.slice a' sl.length c') g0 g1
      have ht := hr.ts.set2 (.bool sa) (.slice a' sl.length c') g0 g1
      have hb := below_set2 hr.bel (R := R) (by have := HR.out; omega) (.bool sa) (.slice a' sl.length c')
      have HX := Lib.hid (And.intro x0 (And.intro x1 (And.intro ht hb)))
      clear x0 x1 ht hb hr hE hta hns r0 f0
      go_wp2_with fail
      obtain ⟨x0, x1, ht, hb⟩ := HX.out
      refine bodyPost_ret (v := .agg #[.bool sa, .slice a' sl.length c']) ?_ rfl ⟨_, _, rfl, ht, hb⟩
      simp [results, Try.results10, go_sem, x0, x1]
end Go.Proofs.Ytdcfdcjgheijcaa
