/- names: Add, Drop. -/
import Derived.Test.YtdcfdcjgheijcaaGreatDoorNmLater
import Derived.Test.YtdcfdcjgheijcaaGreatDoorNmLess
namespace Go.Proofs.YtdcfdcjgheijcaaGreatDoor
open Go.RowKit Go.Lib

/-- A set in a box, behind w. -/
def L1 (w : World) (aa : Bool) (av : Value) (w' : World) : Prop :=
  w'.cell? ⟨w.heap.size, 0, none⟩ = some (.bool aa) ∧ w'.cell? ⟨w.heap.size, 1, none⟩ = some av ∧ w.heap.size + 1 < w'.heap.size ∧ Below w.heap.size w w'
theorem L1.later {w w1 w2 : World} {aa : Bool} {av : Value} (h : L1 w aa av w1) (hb : Below w1.heap.size w1 w2) : L1 w aa av w2 := by
  obtain ⟨h0, h1, h4, h5⟩ := h
  exact ⟨(hb.cell (p := ⟨_, _, none⟩) (by show w.heap.size < _; omega)).trans h0, (hb.cell (p := ⟨_, _, none⟩) (by show w.heap.size < _; omega)).trans h1, Nat.lt_of_lt_of_le h4 hb.size, h5.trans (hb.mono h5.size)⟩
theorem L1.set {w w1 : World} {aa : Bool} {av : Value} (h : L1 w aa av w1) (u0 u1 : Value) : L1 w aa av ((w1.setCell ⟨w.heap.size + 1, 0, none⟩ u0).setCell ⟨w.heap.size + 1, 1, none⟩ u1) := by
  obtain ⟨h0, h1, h4, h5⟩ := h
  refine ⟨?_, ?_, by simp only [World.size_setCell]; exact h4, below_set2 h5 (by omega) _ _⟩
  all_goals
    rw [World.cell?_setCell_other _ _ _ _ (by simp), World.cell?_setCell_other _ _ _ _ (by simp)]
    assumption
/-- What is added, or dropped, is of both. -/
def AddFit (al l : List (List UInt8)) : Prop := NmFit al ∧ NmFit l ∧ (al.length + l.length) * 16 ≤ 140737488355328
theorem of_fit {l : List (List UInt8)} {sa : Bool} {sl : List (List UInt8)} (h : NmFit l) (he : nOf okN l = ⟨sa, sl⟩) : NmFit sl ∧ sl.length ≤ l.length := by
  have e : sl = srt (l.filter okN) := (congrArg Ns.ns he).symm
  have h1 : sl.length ≤ l.length := by rw [e]; exact Nat.le_trans (srt_len _) (List.length_filter_le _ _)
  refine ⟨⟨fun s hs => ?_, ?_⟩, h1⟩
  · rw [e, srt_mem, List.mem_filter] at hs
    exact h.1 s hs.1
  · have := h.2; omega

set_option maxRecDepth 100000 in
set_option maxHeartbeats 2000000 in
theorem add_any {aa : Bool} {al l : List (List UInt8)} {a1 a2 : Option Addr} {c1 c2 : Nat} {w : World} {sa : Bool} {sl : List (List UInt8)} (h1 : TsAt w (.slice a1 al.length c1) al) (h2 : TsAt w (.slice a2 l.length c2) l) (hf : AddFit al l) (he : nUnion [⟨aa, al⟩, nOf okN l] = ⟨sa, sl⟩) :
    Calls Tryz.prog 27 #[.agg #[.bool aa, .slice a1 al.length c1], .slice a2 l.length c2] w (SetPost sa sl w) := by
  have H1 := Lib.hid h1
  have H2 := Lib.hid h2
  have HF := Lib.hid hf
  obtain ⟨oa, ol, ho⟩ : ∃ oa ol, nOf okN l = ⟨oa, ol⟩ := ⟨_, _, rfl⟩
  rw [ho] at he
  have HO := Lib.hid (And.intro ho he)
  obtain ⟨hof, hol⟩ := of_fit hf.2.1 ho
  have HOF := Lib.hid hof
  obtain ⟨n1, hn1⟩ : ∃ n, al.length = n := ⟨_, rfl⟩
  obtain ⟨n2, hn2⟩ : ∃ n, l.length = n := ⟨_, rfl⟩
  have HN := Lib.hid (And.intro hn1 (And.intro hn2 hol))
  rw [hn1, hn2]
  clear h1 h2 hf hn1 hn2 ho he hof hol
  have L0 : L1 w aa (.slice a1 n1 c1) ((w.alloc (.cells #[.bool aa, .slice a1 n1 c1] 26)).alloc (.cells #[.bool false, .slice none 0 0] 26)) := by
    have b1 := Blk.new w #[.bool aa, .slice a1 n1 c1] 26
    have b1' := b1.below (n := w.heap.size + 1) ((Below.refl _ _).alloc (by simp) (.cells #[.bool false, .slice none 0 0] 26)) (by omega)
    exact ⟨b1'.cell 0, b1'.cell 1, by simp, ((Below.refl _ _).alloc (Nat.le_refl _) _).alloc (by simp) _⟩
  have R0 : Blk ((w.alloc (.cells #[.bool aa, .slice a1 n1 c1] 26)).alloc (.cells #[.bool false, .slice none 0 0] 26)) (w.heap.size + 1) #[.bool false, .slice none 0 0] 26 := by
    have := Blk.new (w.alloc (.cells #[.bool aa, .slice a1 n1 c1] 26)) #[.bool false, .slice none 0 0] 26; simpa using this
  have T1 : TsAt ((w.alloc (.cells #[.bool aa, .slice a1 n1 c1] 26)).alloc (.cells #[.bool false, .slice none 0 0] 26)) (.slice a1 n1 c1) al := by rw [← HN.out.1]; exact H1.out.below (((Below.refl _ _).alloc (Nat.le_refl _) _).alloc (by simp) _)
  have T2 : TsAt ((w.alloc (.cells #[.bool aa, .slice a1 n1 c1] 26)).alloc (.cells #[.bool false, .slice none 0 0] 26)) (.slice a2 n2 c2) l := by rw [← HN.out.2.1]; exact H2.out.below (((Below.refl _ _).alloc (Nat.le_refl _) _).alloc (by simp) _)
  obtain ⟨w0, hw0⟩ : ∃ w0, (w.alloc (.cells #[.bool aa, .slice a1 n1 c1] 26)).alloc (.cells #[.bool false, .slice none 0 0] 26) = w0 := ⟨_, rfl⟩
  rw [hw0] at L0 T1 T2 R0
  have HW0 := Lib.hid hw0
  clear hw0 H1 H2
  obtain ⟨c0, c1', c4, c5⟩ := id L0
  have HFU := Lib.hid (show NssFit [⟨aa, al⟩, ⟨oa, ol⟩] from ⟨fun s hs x hx => by
    rcases List.mem_cons.1 hs with rfl | hs
    · exact HF.out.1.1 x hx
    · obtain rfl := List.mem_singleton.1 hs; exact HOF.out.1 x hx, by
    have := HF.out.2.2; have := HN.out.2.2; have := HN.out.1; have := HN.out.2.1
    simp only [List.flatMap_cons, List.flatMap_nil, List.append_nil, List.length_append]; omega, by show (2 : Nat) ≤ 1000000; omega⟩)
  go_enter Tryz.func27, Tryz.ntmps27
  go_wp2_with fail
  rw [HW0.out]
  obtain ⟨w1, hw2, hb3⟩ := drew_new w0
  have q4 := L0.later hb3
  have q5 := R0.later hb3
  have q6 := T1.later hb3
  have q7 := T2.later hb3
  refine wp_region_held_drew (S := (fun w' => w'.cell? ⟨w.heap.size, 0, none⟩ = some (.bool aa) ∧ w'.cell? ⟨w.heap.size, 1, none⟩ = some (.slice a1 n1 c1) ∧ w.heap.size + 1 < w'.heap.size ∧ Below w.heap.size w w')) (by kernel_rfl) (by rw [hw2]; exact q4) (fun hHeld => ?_)
  rw [hw2] at hHeld ⊢
  refine wpAnyH_take (i := 0) (oi := { dst := some 5, op := Op.load 26 (Operand.tmp 2), type := 26, pos := "names.go:43", after := #[], guard := none }) (v := ?v1) rfl (by kernel_rfl) (by kernel_rfl) (by kernel_rfl) (fun _ _ _ h => h) (Or.inl ⟨by rfl, ?hy1⟩) (by assumption) ?rest1
  case hy1 => (intro w1 hSw; (try dsimp only at hSw); obtain ⟨h0, h1, -⟩ := hSw; go_simp; try with_reducible rfl)
  try simp only [Act.put, List.setIfInBounds_toArray, List.set_cons_zero, List.set_cons_succ]
  refine wpAnyH_take (i := 1) (oi := { dst := some 6, op := Op.move (Operand.tmp 1), type := 24, pos := "names.go:43", after := #[], guard := none }) (v := ?v2) rfl (by kernel_rfl) (by kernel_rfl) (by kernel_rfl) (fun _ _ _ h => h) (Or.inl ⟨by rfl, ?hy2⟩) (by assumption) ?rest2
  case hy2 => (intro w1 hSw; (try dsimp only at hSw); obtain ⟨h0, h1, -⟩ := hSw; go_simp; try with_reducible rfl)
  try simp only [Act.put, List.setIfInBounds_toArray, List.set_cons_zero, List.set_cons_succ]
  refine wpAnyH_ready (rs := [2]) (by kernel_rfl) (by simp) ?_
  refine AllReadyH.cons (o := { dst := some 7, op := Op.call { callee := Callee.value (Operand.func 12), args := #[Operand.tmp 6], argTypes := #[24] }, type := 26, pos := "names.go:43", after := #[{ on := 1, ground := Ground.data }], guard := none }) rfl (fun K hK => ?_) AllReadyH.nil
  go_simp
  have t2 := q7
  rw [← HN.out.2.1] at t2 ⊢
  refine (of_any t2 HF.out.2.1 HO.out.1).mono ?_
  rintro e w11 ⟨a8, c9, rfl, h10, hb12⟩
  have q13 := q4.later hb12
  have q14 := q5.later hb12
  have q15 := q6.later hb12
  have q16 := q7.later hb12
  refine hK.out _ _ (q13) (fun hHeld => ?_)
  clear hK K
  try simp only [Act.put, List.setIfInBounds_toArray, List.set_cons_zero, List.set_cons_succ]
  refine wpAnyH_ready (rs := [3]) (by kernel_rfl) (by simp) ?_
  refine AllReadyH.cons (o := { dst := some 8, op := Op.buildSlice 145 2 #[(0, Operand.tmp 5), (1, Operand.tmp 7)], type := 145, pos := "names.go:43", after := #[{ on := 0, ground := Ground.data }, { on := 2, ground := Ground.data }], guard := none }) rfl (fun K hK => ?_) AllReadyH.nil
  go_simp
  obtain ⟨w17, hw18, hb19, p20⟩ := alloc_new w11 #[.bool aa, .slice a1 n1 c1, .bool oa, .slice a8 ol.length c9] 26
  have q21 := q13.later hb19
  have q22 := q14.later hb19
  have q23 := q15.later hb19
  have q24 := q16.later hb19
  have q25 := h10.later hb19
  rw [hw18]
  refine hK.out _ _ (q21) (fun hHeld => ?_)
  clear hK K
  try simp only [Act.put, List.setIfInBounds_toArray, List.set_cons_zero, List.set_cons_succ]
  refine wpAnyH_ready (rs := [4]) (by kernel_rfl) (by simp) ?_
  refine AllReadyH.cons (o := { dst := some 9, op := Op.call { callee := Callee.value (Operand.func 54), args := #[Operand.tmp 8], argTypes := #[145] }, type := 26, pos := "names.go:43", after := #[{ on := 3, ground := Ground.data }, { on := 2, ground := Ground.chain }], guard := none }) rfl (fun K hK => ?_) AllReadyH.nil
  go_simp
  refine (union_any (n := 2) (sets_two p20 q23 HN.out.1 q25 rfl) rfl HFU.out HO.out.2).mono ?_
  rintro e w29 ⟨a26, c27, rfl, h28, hb30⟩
  have q31 := q21.later hb30
  have q32 := q22.later hb30
  have q33 := q23.later hb30
  have q34 := q24.later hb30
  have q35 := q25.later hb30
  have q36 := p20.later hb30
  have r0 := q32.cell 0
  have r1 := q32.cell 1
  have f0 := q32.frozen 0
  have f1 := q32.frozen 1
  simp only [List.getElem?_toArray, List.getElem?_cons_zero, List.getElem?_cons_succ] at r0 r1
  refine hK.out _ _ (q31) (fun hHeld => ?_)
  clear hK K
  try simp only [Act.put, List.setIfInBounds_toArray, List.set_cons_zero, List.set_cons_succ]
  refine wpAnyH_ready (rs := [5]) (by kernel_rfl) (by simp) ?_
  refine AllReadyH.cons (o := { dst := none, op := Op.store 26 (Operand.tmp 4) (Operand.tmp 9), type := 0, pos := "names.go:43", after := #[{ on := 4, ground := Ground.data }, { on := 4, ground := Ground.chain }, { on := 0, ground := Ground.phase }, { on := 1, ground := Ground.phase }, { on := 2, ground := Ground.phase }, { on := 3, ground := Ground.phase }, { on := 4, ground := Ground.phase }], guard := none }) rfl (fun K hK => ?_) AllReadyH.nil
  go_simp
  refine hK.out _ _ (L1.set q31 _ _) (fun hHeld => ?_)
  clear hK K
  try simp only [Act.put, List.setIfInBounds_toArray, List.set_cons_zero, List.set_cons_succ]
  refine wpAnyH_done (by kernel_rfl) ?_ _
  obtain ⟨w9, e9, t0, t1, hts, hbb⟩ := set_cells (W := w29) (sa := sa) q32 h28 (Below.refl _ _)
  have HZ := Lib.hid q31.2.2.2
  have HT := Lib.hid (And.intro hts hbb)
  clear hts hbb r0 r1 f0 f1 hHeld
  go_wp2_with fail
  rw [e9]
  refine bodyPost_ret (v := .agg #[.bool sa, .slice a26 sl.length c27]) ?_ rfl ⟨_, _, rfl, HT.out.1, HZ.out.trans (HT.out.2.mono (by have := HZ.out.size; omega))⟩
  simp [results, Tryz.results27, go_sem, t0, t1]

set_option maxRecDepth 100000 in
set_option maxHeartbeats 2000000 in
theorem drop_any {aa : Bool} {al l : List (List UInt8)} {a1 a2 : Option Addr} {c1 c2 : Nat} {w : World} {sa : Bool} {sl : List (List UInt8)} (h1 : TsAt w (.slice a1 al.length c1) al) (h2 : TsAt w (.slice a2 l.length c2) l) (hf : AddFit al l) (he : nLess ⟨aa, al⟩ (nOf okN l) = ⟨sa, sl⟩) :
    Calls Tryz.prog 28 #[.agg #[.bool aa, .slice a1 al.length c1], .slice a2 l.length c2] w (SetPost sa sl w) := by
  have H1 := Lib.hid h1
  have H2 := Lib.hid h2
  have HF := Lib.hid hf
  obtain ⟨oa, ol, ho⟩ : ∃ oa ol, nOf okN l = ⟨oa, ol⟩ := ⟨_, _, rfl⟩
  rw [ho] at he
  have HO := Lib.hid (And.intro ho he)
  obtain ⟨hof, hol⟩ := of_fit hf.2.1 ho
  have HOF := Lib.hid hof
  obtain ⟨n1, hn1⟩ : ∃ n, al.length = n := ⟨_, rfl⟩
  obtain ⟨n2, hn2⟩ : ∃ n, l.length = n := ⟨_, rfl⟩
  have HN := Lib.hid (And.intro hn1 (And.intro hn2 hol))
  rw [hn1, hn2]
  clear h1 h2 hf hn1 hn2 ho he hof hol
  have L0 : L1 w aa (.slice a1 n1 c1) ((w.alloc (.cells #[.bool aa, .slice a1 n1 c1] 26)).alloc (.cells #[.bool false, .slice none 0 0] 26)) := by
    have b1 := Blk.new w #[.bool aa, .slice a1 n1 c1] 26
    have b1' := b1.below (n := w.heap.size + 1) ((Below.refl _ _).alloc (by simp) (.cells #[.bool false, .slice none 0 0] 26)) (by omega)
    exact ⟨b1'.cell 0, b1'.cell 1, by simp, ((Below.refl _ _).alloc (Nat.le_refl _) _).alloc (by simp) _⟩
  have R0 : Blk ((w.alloc (.cells #[.bool aa, .slice a1 n1 c1] 26)).alloc (.cells #[.bool false, .slice none 0 0] 26)) (w.heap.size + 1) #[.bool false, .slice none 0 0] 26 := by
    have := Blk.new (w.alloc (.cells #[.bool aa, .slice a1 n1 c1] 26)) #[.bool false, .slice none 0 0] 26; simpa using this
  have T1 : TsAt ((w.alloc (.cells #[.bool aa, .slice a1 n1 c1] 26)).alloc (.cells #[.bool false, .slice none 0 0] 26)) (.slice a1 n1 c1) al := by rw [← HN.out.1]; exact H1.out.below (((Below.refl _ _).alloc (Nat.le_refl _) _).alloc (by simp) _)
  have T2 : TsAt ((w.alloc (.cells #[.bool aa, .slice a1 n1 c1] 26)).alloc (.cells #[.bool false, .slice none 0 0] 26)) (.slice a2 n2 c2) l := by rw [← HN.out.2.1]; exact H2.out.below (((Below.refl _ _).alloc (Nat.le_refl _) _).alloc (by simp) _)
  obtain ⟨w0, hw0⟩ : ∃ w0, (w.alloc (.cells #[.bool aa, .slice a1 n1 c1] 26)).alloc (.cells #[.bool false, .slice none 0 0] 26) = w0 := ⟨_, rfl⟩
  rw [hw0] at L0 T1 T2 R0
  have HW0 := Lib.hid hw0
  clear hw0 H1 H2
  obtain ⟨c0, c1', c4, c5⟩ := id L0
  go_enter Tryz.func28, Tryz.ntmps28
  go_wp2_with fail
  rw [HW0.out]
  obtain ⟨w37, hw38, hb39⟩ := drew_new w0
  have q40 := L0.later hb39
  have q41 := R0.later hb39
  have q42 := T1.later hb39
  have q43 := T2.later hb39
  refine wp_region_held_drew (S := (fun w' => w'.cell? ⟨w.heap.size, 0, none⟩ = some (.bool aa) ∧ w'.cell? ⟨w.heap.size, 1, none⟩ = some (.slice a1 n1 c1) ∧ w.heap.size + 1 < w'.heap.size ∧ Below w.heap.size w w')) (by kernel_rfl) (by rw [hw38]; exact q40) (fun hHeld => ?_)
  rw [hw38] at hHeld ⊢
  refine wpAnyH_take (i := 0) (oi := { dst := some 5, op := Op.load 26 (Operand.tmp 2), type := 26, pos := "names.go:46", after := #[], guard := none }) (v := ?v3) rfl (by kernel_rfl) (by kernel_rfl) (by kernel_rfl) (fun _ _ _ h => h) (Or.inl ⟨by rfl, ?hy3⟩) (by assumption) ?rest3
  case hy3 => (intro w1 hSw; (try dsimp only at hSw); obtain ⟨h0, h1, -⟩ := hSw; go_simp; try with_reducible rfl)
  try simp only [Act.put, List.setIfInBounds_toArray, List.set_cons_zero, List.set_cons_succ]
  refine wpAnyH_take (i := 1) (oi := { dst := some 6, op := Op.move (Operand.tmp 1), type := 24, pos := "names.go:46", after := #[], guard := none }) (v := ?v4) rfl (by kernel_rfl) (by kernel_rfl) (by kernel_rfl) (fun _ _ _ h => h) (Or.inl ⟨by rfl, ?hy4⟩) (by assumption) ?rest4
  case hy4 => (intro w1 hSw; (try dsimp only at hSw); obtain ⟨h0, h1, -⟩ := hSw; go_simp; try with_reducible rfl)
  try simp only [Act.put, List.setIfInBounds_toArray, List.set_cons_zero, List.set_cons_succ]
  refine wpAnyH_ready (rs := [2]) (by kernel_rfl) (by simp) ?_
  refine AllReadyH.cons (o := { dst := some 7, op := Op.call { callee := Callee.value (Operand.func 12), args := #[Operand.tmp 6], argTypes := #[24] }, type := 26, pos := "names.go:46", after := #[{ on := 1, ground := Ground.data }], guard := none }) rfl (fun K hK => ?_) AllReadyH.nil
  go_simp
  have t2 := q43
  rw [← HN.out.2.1] at t2 ⊢
  refine (of_any t2 HF.out.2.1 HO.out.1).mono ?_
  rintro e w47 ⟨a44, c45, rfl, h46, hb48⟩
  have q49 := q40.later hb48
  have q50 := q41.later hb48
  have q51 := q42.later hb48
  have q52 := q43.later hb48
  refine hK.out _ _ (q49) (fun hHeld => ?_)
  clear hK K
  try simp only [Act.put, List.setIfInBounds_toArray, List.set_cons_zero, List.set_cons_succ]
  refine wpAnyH_ready (rs := [3]) (by kernel_rfl) (by simp) ?_
  refine AllReadyH.cons (o := { dst := some 8, op := Op.call { callee := Callee.value (Operand.func 55), args := #[Operand.tmp 5, Operand.tmp 7], argTypes := #[26, 26] }, type := 26, pos := "names.go:46", after := #[{ on := 0, ground := Ground.data }, { on := 2, ground := Ground.data }, { on := 2, ground := Ground.chain }], guard := none }) rfl (fun K hK => ?_) AllReadyH.nil
  go_simp
  have t1 := q51
  rw [← HN.out.1] at t1 ⊢
  refine (less_any t1 h46 HF.out.1 HOF.out HO.out.2).mono ?_
  rintro e w56 ⟨a53, c54, rfl, h55, hb57⟩
  have q58 := q49.later hb57
  have q59 := q50.later hb57
  have q60 := q51.later hb57
  have q61 := q52.later hb57
  have q62 := h46.later hb57
  have r0 := q59.cell 0
  have r1 := q59.cell 1
  have f0 := q59.frozen 0
  have f1 := q59.frozen 1
  simp only [List.getElem?_toArray, List.getElem?_cons_zero, List.getElem?_cons_succ] at r0 r1
  refine hK.out _ _ (q58) (fun hHeld => ?_)
  clear hK K
  try simp only [Act.put, List.setIfInBounds_toArray, List.set_cons_zero, List.set_cons_succ]
  refine wpAnyH_ready (rs := [4]) (by kernel_rfl) (by simp) ?_
  refine AllReadyH.cons (o := { dst := none, op := Op.store 26 (Operand.tmp 4) (Operand.tmp 8), type := 0, pos := "names.go:46", after := #[{ on := 3, ground := Ground.data }, { on := 3, ground := Ground.chain }, { on := 0, ground := Ground.phase }, { on := 1, ground := Ground.phase }, { on := 2, ground := Ground.phase }, { on := 3, ground := Ground.phase }], guard := none }) rfl (fun K hK => ?_) AllReadyH.nil
  go_simp
  refine hK.out _ _ (L1.set q58 _ _) (fun hHeld => ?_)
  clear hK K
  try simp only [Act.put, List.setIfInBounds_toArray, List.set_cons_zero, List.set_cons_succ]
  refine wpAnyH_done (by kernel_rfl) ?_ _
  obtain ⟨w9, e9, t0, t1, hts, hbb⟩ := set_cells (W := w56) (sa := sa) q59 h55 (Below.refl _ _)
  have HZ := Lib.hid q58.2.2.2
  have HT := Lib.hid (And.intro hts hbb)
  clear hts hbb r0 r1 f0 f1 hHeld
  go_wp2_with fail
  rw [e9]
  refine bodyPost_ret (v := .agg #[.bool sa, .slice a53 sl.length c54]) ?_ rfl ⟨_, _, rfl, HT.out.1, HZ.out.trans (HT.out.2.mono (by have := HZ.out.size; omega))⟩
  simp [results, Tryz.results28, go_sem, t0, t1]
end Go.Proofs.YtdcfdcjgheijcaaGreatDoor
