/- names: Less. -/
import Derived.Test.YtkjfafnnnkjoeaaGreatDoorNmAmong
import Derived.Test.YtkjfafnnnkjoeaaGreatDoorNmHas
namespace Go.Proofs.YtkjfafnnnkjoeaaGreatDoor
open Go.RowKit Go.Lib

/-- Two sets in boxes, and a result's cell, behind w. -/
def Ls (w : World) (aa ba : Bool) (av bv : Value) (w' : World) : Prop :=
  w'.cell? ⟨w.heap.size, 0, none⟩ = some (.bool aa) ∧ w'.cell? ⟨w.heap.size, 1, none⟩ = some av ∧ w'.cell? ⟨w.heap.size + 1, 0, none⟩ = some (.bool ba) ∧ w'.cell? ⟨w.heap.size + 1, 1, none⟩ = some bv ∧
  Blk w' (w.heap.size + 2) #[.bool false, .slice none 0 0] 41 ∧ Below w.heap.size w w'
theorem Ls.next {w w1 w2 : World} {aa ba : Bool} {av bv : Value} (h : Ls w aa ba av bv w1) (hb : Below w1.heap.size w1 w2) : Ls w aa ba av bv w2 := by
  obtain ⟨h0, h1, h2, h3, h4, h5⟩ := h
  have hl := h4.lt
  exact ⟨(hb.cell (p := ⟨_, _, none⟩) (by show w.heap.size < _; omega)).trans h0, (hb.cell (p := ⟨_, _, none⟩) (by show w.heap.size < _; omega)).trans h1, (hb.cell (p := ⟨_, _, none⟩) (by show w.heap.size + 1 < _; omega)).trans h2, (hb.cell (p := ⟨_, _, none⟩) (by show w.heap.size + 1 < _; omega)).trans h3, h4.below hb hl, h5.trans (hb.mono h5.size)⟩

theorem Ls.alloc {w w1 : World} {aa ba : Bool} {av bv : Value} (h : Ls w aa ba av bv w1) (o : Obj) : Ls w aa ba av bv (w1.alloc o) := h.next ((Below.refl _ _).alloc (Nat.le_refl _) _)
theorem Ls.s {w w1 : World} {aa ba : Bool} {av bv : Value} (h : Ls w aa ba av bv w1) : w1.cell? ⟨w.heap.size, 0, none⟩ = some (.bool aa) ∧ w1.cell? ⟨w.heap.size, 1, none⟩ = some av ∧ w1.cell? ⟨w.heap.size + 1, 0, none⟩ = some (.bool ba) ∧ w1.cell? ⟨w.heap.size + 1, 1, none⟩ = some bv ∧ w.heap.size + 2 < w1.heap.size ∧ Below w.heap.size w w1 := by
  obtain ⟨h0, h1, h2, h3, h4, h5⟩ := h
  exact ⟨h0, h1, h2, h3, h4.lt, h5⟩
theorem Ls.set {w w1 : World} {aa ba : Bool} {av bv : Value} (h : Ls w aa ba av bv w1) (u0 u1 : Value) : ((w1.setCell ⟨w.heap.size + 2, 0, none⟩ u0).setCell ⟨w.heap.size + 2, 1, none⟩ u1).cell? ⟨w.heap.size, 0, none⟩ = some (.bool aa) ∧ ((w1.setCell ⟨w.heap.size + 2, 0, none⟩ u0).setCell ⟨w.heap.size + 2, 1, none⟩ u1).cell? ⟨w.heap.size, 1, none⟩ = some av ∧ ((w1.setCell ⟨w.heap.size + 2, 0, none⟩ u0).setCell ⟨w.heap.size + 2, 1, none⟩ u1).cell? ⟨w.heap.size + 1, 0, none⟩ = some (.bool ba) ∧ ((w1.setCell ⟨w.heap.size + 2, 0, none⟩ u0).setCell ⟨w.heap.size + 2, 1, none⟩ u1).cell? ⟨w.heap.size + 1, 1, none⟩ = some bv ∧ w.heap.size + 2 < ((w1.setCell ⟨w.heap.size + 2, 0, none⟩ u0).setCell ⟨w.heap.size + 2, 1, none⟩ u1).heap.size ∧ Below w.heap.size w ((w1.setCell ⟨w.heap.size + 2, 0, none⟩ u0).setCell ⟨w.heap.size + 2, 1, none⟩ u1) := by
  obtain ⟨h0, h1, h2, h3, h4, h5⟩ := h
  refine ⟨?_, ?_, ?_, ?_, by simp only [World.size_setCell]; exact h4.lt, below_set2 h5 (by omega) _ _⟩
  all_goals
    rw [World.cell?_setCell_other _ _ _ _ (by simp), World.cell?_setCell_other _ _ _ _ (by simp)]
    assumption
theorem lsAt_one {w : World} {B n c : Nat} {a : Option Addr} {t : TypeId} {l : List (List UInt8)} (hb : Blk w B #[.slice a n c] t) (h : TsAt w (.slice a n c) l) : LsAt w (.slice (some ⟨B, 0, none⟩) 1 1) [l] :=
  lsAt_block (ls := [l]) hb (by show (1 : Nat) ≤ maxLen; unfold maxLen; omega) rfl (fun i u l' hu hl => by
    match i with
    | 0 => simp at hu hl; subst hu hl; exact h
    | i + 1 => simp at hu)

set_option maxRecDepth 100000 in
set_option maxHeartbeats 2000000 in
theorem less_any {aa ba : Bool} {al bl : List (List UInt8)} {a1 a2 : Option Addr} {c1 c2 : Nat} {w : World} {sa : Bool} {sl : List (List UInt8)} (h1 : TsAt w (.slice a1 al.length c1) al) (h2 : TsAt w (.slice a2 bl.length c2) bl) (hf1 : NmFit al) (hf2 : NmFit bl) (he : nLess ⟨aa, al⟩ ⟨ba, bl⟩ = ⟨sa, sl⟩) :
    Calls Tryz.prog 49 #[.agg #[.bool aa, .slice a1 al.length c1], .agg #[.bool ba, .slice a2 bl.length c2]] w (SetPost sa sl w) := by
  have H1 := Lib.hid h1
  have H2 := Lib.hid h2
  have HF := Lib.hid (And.intro hf1 hf2)
  have HE := Lib.hid he
  obtain ⟨n1, hn1⟩ : ∃ n, al.length = n := ⟨_, rfl⟩
  obtain ⟨n2, hn2⟩ : ∃ n, bl.length = n := ⟨_, rfl⟩
  have HN := Lib.hid (And.intro hn1 hn2)
  rw [hn1, hn2]
  clear h1 h2 hf1 hf2 he hn1 hn2
  have L0 : Ls w aa ba (.slice a1 n1 c1) (.slice a2 n2 c2) (((w.alloc (.cells #[.bool aa, .slice a1 n1 c1] 41)).alloc (.cells #[.bool ba, .slice a2 n2 c2] 41)).alloc (.cells #[.bool false, .slice none 0 0] 41)).drew := by
    have b1 := Blk.new w #[.bool aa, .slice a1 n1 c1] 41
    have b2 := Blk.new (w.alloc (.cells #[.bool aa, .slice a1 n1 c1] 41)) #[.bool ba, .slice a2 n2 c2] 41
    have b3 := Blk.new ((w.alloc (.cells #[.bool aa, .slice a1 n1 c1] 41)).alloc (.cells #[.bool ba, .slice a2 n2 c2] 41)) #[.bool false, .slice none 0 0] 41
    simp only [World.size_alloc] at b2 b3
    have b1' := (b1.below (n := w.heap.size + 1) ((Below.refl _ _).alloc (by simp) (.cells #[.bool ba, .slice a2 n2 c2] 41)) (by omega)).below (n := w.heap.size + 1) ((Below.refl _ _).alloc (by simp) (.cells #[.bool false, .slice none 0 0] 41)) (by omega)
    have b2' := b2.below (n := w.heap.size + 2) ((Below.refl _ _).alloc (by simp) (.cells #[.bool false, .slice none 0 0] 41)) (by omega)
    exact ⟨b1'.cell 0, b1'.cell 1, b2'.cell 0, b2'.cell 1, b3, ((((Below.refl _ _).alloc (Nat.le_refl _) _).alloc (by simp) _).alloc (by simp; omega) _).drew⟩
  have T1 : TsAt (((w.alloc (.cells #[.bool aa, .slice a1 n1 c1] 41)).alloc (.cells #[.bool ba, .slice a2 n2 c2] 41)).alloc (.cells #[.bool false, .slice none 0 0] 41)).drew (.slice a1 n1 c1) al := by rw [← HN.out.1]; exact H1.out.below ((((Below.refl _ _).alloc (Nat.le_refl _) _).alloc (by simp) _).alloc (by simp; omega) _).drew
  have T2 : TsAt (((w.alloc (.cells #[.bool aa, .slice a1 n1 c1] 41)).alloc (.cells #[.bool ba, .slice a2 n2 c2] 41)).alloc (.cells #[.bool false, .slice none 0 0] 41)).drew (.slice a2 n2 c2) bl := by rw [← HN.out.2]; exact H2.out.below ((((Below.refl _ _).alloc (Nat.le_refl _) _).alloc (by simp) _).alloc (by simp; omega) _).drew
  have HSL := Lib.hid (show srt ([al].flatten.filter fun x => !bl.contains x) = sl by have := congrArg Ns.ns HE.out; simpa [nLess] using this)
  have HSA := Lib.hid (show (aa && !ba) = sa from congrArg Ns.all HE.out)
  obtain ⟨w0, hw0⟩ : ∃ w0, ((w.alloc (.cells #[.bool aa, .slice a1 n1 c1] 41)).alloc (.cells #[.bool ba, .slice a2 n2 c2] 41)).alloc (.cells #[.bool false, .slice none 0 0] 41) = w0 := ⟨_, rfl⟩
  rw [hw0] at L0 T1 T2
  have HW0 := Lib.hid hw0
  clear hw0 HE H1 H2 HN
  go_enter Tryz.func49, Tryz.ntmps49
  go_wp2_with fail
  rw [HW0.out]
  have HFL := Lib.hid (show (∀ l ∈ [al], ∀ s ∈ l, s.length ≤ maxLen) ∧ [al].flatten.length * 16 ≤ 140737488355328 from ⟨fun l' hl' x hx => by obtain rfl := List.mem_singleton.1 hl'; exact HF.out.1.1 x hx, by simpa using HF.out.1.2⟩)
  cases aa
  · cases ba
    · obtain rfl : false = sa := HSA.out
      refine wp_region_held_drew (S := (fun w' => w'.cell? ⟨w.heap.size, 0, none⟩ = some (.bool false) ∧ w'.cell? ⟨w.heap.size, 1, none⟩ = some (.slice a1 n1 c1) ∧ w'.cell? ⟨w.heap.size + 1, 0, none⟩ = some (.bool false) ∧ w'.cell? ⟨w.heap.size + 1, 1, none⟩ = some (.slice a2 n2 c2) ∧ w.heap.size + 2 < w'.heap.size ∧ Below w.heap.size w w')) (by kernel_rfl) (L0.s) (fun hHeld => ?_)
      refine wpAnyH_take (i := 0) (oi := { dst := some 5, op := Op.fieldAddr 41 (Operand.tmp 2) 0, type := 0, pos := "names.go:61", after := #[], guard := none }) (v := ?v1) rfl (by kernel_rfl) (by kernel_rfl) (by kernel_rfl) (fun _ _ _ h => h) (Or.inl ⟨by rfl, ?hy1⟩) (by assumption) ?rest1
      case hy1 => (intro w1 hSw; (try dsimp only at hSw); obtain ⟨h0, h1, h2, h3, -⟩ := hSw; go_simp; try with_reducible rfl)
      try simp only [Act.put, List.setIfInBounds_toArray, List.set_cons_zero, List.set_cons_succ]
      refine wpAnyH_take (i := 1) (oi := { dst := some 6, op := Op.load 4 (Operand.tmp 5), type := 4, pos := "names.go:61", after := #[{ on := 0, ground := Ground.data }], guard := none }) (v := ?v2) rfl (by kernel_rfl) (by kernel_rfl) (by kernel_rfl) (fun _ _ _ h => h) (Or.inl ⟨by rfl, ?hy2⟩) (by assumption) ?rest2
      case hy2 => (intro w1 hSw; (try dsimp only at hSw); obtain ⟨h0, h1, h2, h3, -⟩ := hSw; go_simp; try with_reducible rfl)
      try simp only [Act.put, List.setIfInBounds_toArray, List.set_cons_zero, List.set_cons_succ]
      refine wpAnyH_take (i := 2) (oi := { dst := some 7, op := Op.move (Operand.tmp 6), type := 4, pos := "names.go:61", after := #[{ on := 1, ground := Ground.data }], guard := none }) (v := ?v3) rfl (by kernel_rfl) (by kernel_rfl) (by kernel_rfl) (fun _ _ _ h => h) (Or.inl ⟨by rfl, ?hy3⟩) (by assumption) ?rest3
      case hy3 => (intro w1 hSw; (try dsimp only at hSw); obtain ⟨h0, h1, h2, h3, -⟩ := hSw; go_simp; try with_reducible rfl)
      try simp only [Act.put, List.setIfInBounds_toArray, List.set_cons_zero, List.set_cons_succ]
      refine wpAnyH_take (i := 3) (oi := { dst := some 8, op := Op.fieldAddr 41 (Operand.tmp 3) 0, type := 0, pos := "names.go:61", after := #[{ on := 2, ground := Ground.guard }], guard := some (2, true) }) (v := undef) rfl (by kernel_rfl) (by kernel_rfl) (by kernel_rfl) (fun _ _ _ h => h) (Or.inr ⟨by rfl, rfl⟩) (by assumption) ?_
      try simp only [Act.put, List.setIfInBounds_toArray, List.set_cons_zero, List.set_cons_succ]
      refine wpAnyH_take (i := 4) (oi := { dst := some 9, op := Op.load 4 (Operand.tmp 8), type := 4, pos := "names.go:61", after := #[{ on := 3, ground := Ground.data }, { on := 2, ground := Ground.guard }], guard := some (2, true) }) (v := undef) rfl (by kernel_rfl) (by kernel_rfl) (by kernel_rfl) (fun _ _ _ h => h) (Or.inr ⟨by rfl, rfl⟩) (by assumption) ?_
      try simp only [Act.put, List.setIfInBounds_toArray, List.set_cons_zero, List.set_cons_succ]
      refine wpAnyH_take (i := 5) (oi := { dst := some 10, op := Op.unOp UnOp.not 4 (Operand.tmp 9), type := 4, pos := "names.go:61", after := #[{ on := 4, ground := Ground.data }, { on := 2, ground := Ground.guard }], guard := some (2, true) }) (v := undef) rfl (by kernel_rfl) (by kernel_rfl) (by kernel_rfl) (fun _ _ _ h => h) (Or.inr ⟨by rfl, rfl⟩) (by assumption) ?_
      try simp only [Act.put, List.setIfInBounds_toArray, List.set_cons_zero, List.set_cons_succ]
      refine wpAnyH_take (i := 6) (oi := { dst := some 11, op := Op.pick (Operand.tmp 7) (Operand.tmp 10) (Operand.const (Value.bool false)), type := 4, pos := "names.go:61", after := #[{ on := 2, ground := Ground.data }, { on := 5, ground := Ground.data }], guard := none }) (v := ?v7) rfl (by kernel_rfl) (by kernel_rfl) (by kernel_rfl) (fun _ _ _ h => h) (Or.inl ⟨by rfl, ?hy7⟩) (by assumption) ?rest7
      case hy7 => (intro w1 hSw; (try dsimp only at hSw); obtain ⟨h0, h1, h2, h3, -⟩ := hSw; go_simp; try with_reducible rfl)
      try simp only [Act.put, List.setIfInBounds_toArray, List.set_cons_zero, List.set_cons_succ]
      refine wpAnyH_take (i := 7) (oi := { dst := some 12, op := Op.fieldAddr 41 (Operand.tmp 3) 1, type := 0, pos := "names.go:61", after := #[], guard := none }) (v := ?v8) rfl (by kernel_rfl) (by kernel_rfl) (by kernel_rfl) (fun _ _ _ h => h) (Or.inl ⟨by rfl, ?hy8⟩) (by assumption) ?rest8
      case hy8 => (intro w1 hSw; (try dsimp only at hSw); obtain ⟨h0, h1, h2, h3, -⟩ := hSw; go_simp; try with_reducible rfl)
      try simp only [Act.put, List.setIfInBounds_toArray, List.set_cons_zero, List.set_cons_succ]
      refine wpAnyH_take (i := 8) (oi := { dst := some 13, op := Op.load 27 (Operand.tmp 12), type := 27, pos := "names.go:61", after := #[{ on := 7, ground := Ground.data }], guard := none }) (v := ?v9) rfl (by kernel_rfl) (by kernel_rfl) (by kernel_rfl) (fun _ _ _ h => h) (Or.inl ⟨by rfl, ?hy9⟩) (by assumption) ?rest9
      case hy9 => (intro w1 hSw; (try dsimp only at hSw); obtain ⟨h0, h1, h2, h3, -⟩ := hSw; go_simp; try with_reducible rfl)
      try simp only [Act.put, List.setIfInBounds_toArray, List.set_cons_zero, List.set_cons_succ]
      refine wpAnyH_take (i := 10) (oi := { dst := some 15, op := Op.fieldAddr 41 (Operand.tmp 2) 1, type := 0, pos := "names.go:61", after := #[], guard := none }) (v := ?v10) rfl (by kernel_rfl) (by kernel_rfl) (by kernel_rfl) (fun _ _ _ h => h) (Or.inl ⟨by rfl, ?hy10⟩) (by assumption) ?rest10
      case hy10 => (intro w1 hSw; (try dsimp only at hSw); obtain ⟨h0, h1, h2, h3, -⟩ := hSw; go_simp; try with_reducible rfl)
      try simp only [Act.put, List.setIfInBounds_toArray, List.set_cons_zero, List.set_cons_succ]
      refine wpAnyH_take (i := 11) (oi := { dst := some 16, op := Op.load 27 (Operand.tmp 15), type := 27, pos := "names.go:61", after := #[{ on := 10, ground := Ground.data }], guard := none }) (v := ?v11) rfl (by kernel_rfl) (by kernel_rfl) (by kernel_rfl) (fun _ _ _ h => h) (Or.inl ⟨by rfl, ?hy11⟩) (by assumption) ?rest11
      case hy11 => (intro w1 hSw; (try dsimp only at hSw); obtain ⟨h0, h1, h2, h3, -⟩ := hSw; go_simp; try with_reducible rfl)
      try simp only [Act.put, List.setIfInBounds_toArray, List.set_cons_zero, List.set_cons_succ]
      refine wpAnyH_ready (rs := [9, 12]) (by kernel_rfl) (by simp) ?_
      refine AllReadyH.cons (o := { dst := some 14, op := Op.call { callee := Callee.value (Operand.func 64), args := #[Operand.tmp 13], argTypes := #[27] }, type := 84, pos := "names.go:61", after := #[{ on := 8, ground := Ground.data }, { on := 2, ground := Ground.chain }], guard := none }) rfl (fun K hK => ?_) ?_
      · go_simp
        refine ((except_any (l := bl) (T2) HF.out.2.1)).mono ?_
        rintro e w5 ⟨E, rfl, hex, hb5⟩
        have L5 : Ls w false false (.slice a1 n1 c1) (.slice a2 n2 c2) w5 := (L0).next hb5
        refine hK.out _ _ (L5.s) (fun hHeld => ?_)
        clear hK K
        try simp only [Act.put, List.setIfInBounds_toArray, List.set_cons_zero, List.set_cons_succ]
        refine wpAnyH_ready (rs := [12]) (by kernel_rfl) (by simp) ?_
        refine AllReadyH.cons (o := { dst := some 17, op := Op.buildSlice 98 1 #[(0, Operand.tmp 16)], type := 98, pos := "names.go:61", after := #[{ on := 11, ground := Ground.data }], guard := none }) rfl (fun K hK => ?_) AllReadyH.nil
        go_simp
        refine hK.out _ _ ((L5.alloc _).s) (fun hHeld => ?_)
        clear hK K
        try simp only [Act.put, List.setIfInBounds_toArray, List.set_cons_zero, List.set_cons_succ]
        refine wpAnyH_ready (rs := [13]) (by kernel_rfl) (by simp) ?_
        refine AllReadyH.cons (o := { dst := some 18, op := Op.call { callee := Callee.value (Operand.func 44), args := #[Operand.tmp 11, Operand.tmp 14, Operand.tmp 17], argTypes := #[4, 84, 98] }, type := 41, pos := "names.go:61", after := #[{ on := 6, ground := Ground.data }, { on := 9, ground := Ground.data }, { on := 12, ground := Ground.data }, { on := 9, ground := Ground.chain }], guard := none }) rfl (fun K hK => ?_) AllReadyH.nil
        go_simp
        refine (made_set (sl := sl) (ls := [al]) (except1_takes (hex.below ((Below.refl _ _).alloc (Nat.le_refl _) _))) (lsAt_one (Blk.new _ _ _) ((T1.below hb5).below ((Below.refl _ _).alloc (Nat.le_refl _) _))) HFL.out.1 HFL.out.2 HSL.out).mono ?_
        rintro e w6 ⟨a3, c3', rfl, hs6, hb6⟩
        have L6 : Ls w false false (.slice a1 n1 c1) (.slice a2 n2 c2) w6 := (L5.alloc _).next hb6
        have r0 : w6.cell? ⟨w.heap.size + 1 + 1, 0, none⟩ = some (.bool false) := L6.2.2.2.2.1.cell 0
        have r1 : w6.cell? ⟨w.heap.size + 1 + 1, 1, none⟩ = some (.slice none 0 0) := L6.2.2.2.2.1.cell 1
        have f0 := L6.2.2.2.2.1.frozen 0
        have f1 := L6.2.2.2.2.1.frozen 1
        refine hK.out _ _ (L6.s) (fun hHeld => ?_)
        clear hK K
        try simp only [Act.put, List.setIfInBounds_toArray, List.set_cons_zero, List.set_cons_succ]
        refine wpAnyH_ready (rs := [14]) (by kernel_rfl) (by simp) ?_
        refine AllReadyH.cons (o := { dst := none, op := Op.store 41 (Operand.tmp 4) (Operand.tmp 18), type := 0, pos := "names.go:61", after := #[{ on := 13, ground := Ground.data }, { on := 13, ground := Ground.chain }, { on := 0, ground := Ground.phase }, { on := 1, ground := Ground.phase }, { on := 2, ground := Ground.phase }, { on := 3, ground := Ground.phase }, { on := 4, ground := Ground.phase }, { on := 5, ground := Ground.phase }, { on := 6, ground := Ground.phase }, { on := 7, ground := Ground.phase }, { on := 8, ground := Ground.phase }, { on := 9, ground := Ground.phase }, { on := 10, ground := Ground.phase }, { on := 11, ground := Ground.phase }, { on := 12, ground := Ground.phase }, { on := 13, ground := Ground.phase }], guard := none }) rfl (fun K hK => ?_) AllReadyH.nil
        go_simp
        refine hK.out _ _ (L6.set _ _) (fun hHeld => ?_)
        clear hK K
        try simp only [Act.put, List.setIfInBounds_toArray, List.set_cons_zero, List.set_cons_succ]
        refine wpAnyH_done (by kernel_rfl) ?_ _
        obtain ⟨w7, e7, t0, t1, hts, hbb⟩ := set_cells (W := w6) (sa := false) L6.2.2.2.2.1 hs6 (Below.refl _ _)
        have HZ := Lib.hid L6.2.2.2.2.2
        have HT := Lib.hid (And.intro hts hbb)
        clear hts hbb r0 r1 f0 f1 hHeld
        go_wp2_with fail
        rw [show w.heap.size + 1 + 1 = w.heap.size + 2 from rfl, e7]
        refine bodyPost_ret (v := .agg #[.bool false, .slice a3 sl.length c3']) ?_ rfl ⟨_, _, rfl, HT.out.1, HZ.out.trans (HT.out.2.mono (by have := HZ.out.size; omega))⟩
        simp [results, Tryz.results49, go_sem, t0, t1]
      refine AllReadyH.cons (o := { dst := some 17, op := Op.buildSlice 98 1 #[(0, Operand.tmp 16)], type := 98, pos := "names.go:61", after := #[{ on := 11, ground := Ground.data }], guard := none }) rfl (fun K hK => ?_) AllReadyH.nil
      go_simp
      refine hK.out _ _ ((L0.alloc _).s) (fun hHeld => ?_)
      clear hK K
      try simp only [Act.put, List.setIfInBounds_toArray, List.set_cons_zero, List.set_cons_succ]
      refine wpAnyH_ready (rs := [9]) (by kernel_rfl) (by simp) ?_
      refine AllReadyH.cons (o := { dst := some 14, op := Op.call { callee := Callee.value (Operand.func 64), args := #[Operand.tmp 13], argTypes := #[27] }, type := 84, pos := "names.go:61", after := #[{ on := 8, ground := Ground.data }, { on := 2, ground := Ground.chain }], guard := none }) rfl (fun K hK => ?_) AllReadyH.nil
      go_simp
      refine ((except_any (l := bl) (T2.below ((Below.refl _ _).alloc (Nat.le_refl _) _)) HF.out.2.1)).mono ?_
      rintro e w5 ⟨E, rfl, hex, hb5⟩
      have L5 : Ls w false false (.slice a1 n1 c1) (.slice a2 n2 c2) w5 := (L0.alloc _).next hb5
      refine hK.out _ _ (L5.s) (fun hHeld => ?_)
      clear hK K
      try simp only [Act.put, List.setIfInBounds_toArray, List.set_cons_zero, List.set_cons_succ]
      refine wpAnyH_ready (rs := [13]) (by kernel_rfl) (by simp) ?_
      refine AllReadyH.cons (o := { dst := some 18, op := Op.call { callee := Callee.value (Operand.func 44), args := #[Operand.tmp 11, Operand.tmp 14, Operand.tmp 17], argTypes := #[4, 84, 98] }, type := 41, pos := "names.go:61", after := #[{ on := 6, ground := Ground.data }, { on := 9, ground := Ground.data }, { on := 12, ground := Ground.data }, { on := 9, ground := Ground.chain }], guard := none }) rfl (fun K hK => ?_) AllReadyH.nil
      go_simp
      refine (made_set (sl := sl) (ls := [al]) (except1_takes hex) (lsAt_one ((Blk.new _ _ _).below hb5 (by rw [World.size_alloc]; omega)) ((T1.below ((Below.refl _ _).alloc (Nat.le_refl _) _)).below hb5)) HFL.out.1 HFL.out.2 HSL.out).mono ?_
      rintro e w6 ⟨a3, c3', rfl, hs6, hb6⟩
      have L6 : Ls w false false (.slice a1 n1 c1) (.slice a2 n2 c2) w6 := L5.next hb6
      have r0 : w6.cell? ⟨w.heap.size + 1 + 1, 0, none⟩ = some (.bool false) := L6.2.2.2.2.1.cell 0
      have r1 : w6.cell? ⟨w.heap.size + 1 + 1, 1, none⟩ = some (.slice none 0 0) := L6.2.2.2.2.1.cell 1
      have f0 := L6.2.2.2.2.1.frozen 0
      have f1 := L6.2.2.2.2.1.frozen 1
      refine hK.out _ _ (L6.s) (fun hHeld => ?_)
      clear hK K
      try simp only [Act.put, List.setIfInBounds_toArray, List.set_cons_zero, List.set_cons_succ]
      refine wpAnyH_ready (rs := [14]) (by kernel_rfl) (by simp) ?_
      refine AllReadyH.cons (o := { dst := none, op := Op.store 41 (Operand.tmp 4) (Operand.tmp 18), type := 0, pos := "names.go:61", after := #[{ on := 13, ground := Ground.data }, { on := 13, ground := Ground.chain }, { on := 0, ground := Ground.phase }, { on := 1, ground := Ground.phase }, { on := 2, ground := Ground.phase }, { on := 3, ground := Ground.phase }, { on := 4, ground := Ground.phase }, { on := 5, ground := Ground.phase }, { on := 6, ground := Ground.phase }, { on := 7, ground := Ground.phase }, { on := 8, ground := Ground.phase }, { on := 9, ground := Ground.phase }, { on := 10, ground := Ground.phase }, { on := 11, ground := Ground.phase }, { on := 12, ground := Ground.phase }, { on := 13, ground := Ground.phase }], guard := none }) rfl (fun K hK => ?_) AllReadyH.nil
      go_simp
      refine hK.out _ _ (L6.set _ _) (fun hHeld => ?_)
      clear hK K
      try simp only [Act.put, List.setIfInBounds_toArray, List.set_cons_zero, List.set_cons_succ]
      refine wpAnyH_done (by kernel_rfl) ?_ _
      obtain ⟨w7, e7, t0, t1, hts, hbb⟩ := set_cells (W := w6) (sa := false) L6.2.2.2.2.1 hs6 (Below.refl _ _)
      have HZ := Lib.hid L6.2.2.2.2.2
      have HT := Lib.hid (And.intro hts hbb)
      clear hts hbb r0 r1 f0 f1 hHeld
      go_wp2_with fail
      rw [show w.heap.size + 1 + 1 = w.heap.size + 2 from rfl, e7]
      refine bodyPost_ret (v := .agg #[.bool false, .slice a3 sl.length c3']) ?_ rfl ⟨_, _, rfl, HT.out.1, HZ.out.trans (HT.out.2.mono (by have := HZ.out.size; omega))⟩
      simp [results, Tryz.results49, go_sem, t0, t1]
    · obtain rfl : false = sa := HSA.out
      refine wp_region_held_drew (S := (fun w' => w'.cell? ⟨w.heap.size, 0, none⟩ = some (.bool false) ∧ w'.cell? ⟨w.heap.size, 1, none⟩ = some (.slice a1 n1 c1) ∧ w'.cell? ⟨w.heap.size + 1, 0, none⟩ = some (.bool true) ∧ w'.cell? ⟨w.heap.size + 1, 1, none⟩ = some (.slice a2 n2 c2) ∧ w.heap.size + 2 < w'.heap.size ∧ Below w.heap.size w w')) (by kernel_rfl) (L0.s) (fun hHeld => ?_)
      refine wpAnyH_take (i := 0) (oi := { dst := some 5, op := Op.fieldAddr 41 (Operand.tmp 2) 0, type := 0, pos := "names.go:61", after := #[], guard := none }) (v := ?v12) rfl (by kernel_rfl) (by kernel_rfl) (by kernel_rfl) (fun _ _ _ h => h) (Or.inl ⟨by rfl, ?hy12⟩) (by assumption) ?rest12
      case hy12 => (intro w1 hSw; (try dsimp only at hSw); obtain ⟨h0, h1, h2, h3, -⟩ := hSw; go_simp; try with_reducible rfl)
      try simp only [Act.put, List.setIfInBounds_toArray, List.set_cons_zero, List.set_cons_succ]
      refine wpAnyH_take (i := 1) (oi := { dst := some 6, op := Op.load 4 (Operand.tmp 5), type := 4, pos := "names.go:61", after := #[{ on := 0, ground := Ground.data }], guard := none }) (v := ?v13) rfl (by kernel_rfl) (by kernel_rfl) (by kernel_rfl) (fun _ _ _ h => h) (Or.inl ⟨by rfl, ?hy13⟩) (by assumption) ?rest13
      case hy13 => (intro w1 hSw; (try dsimp only at hSw); obtain ⟨h0, h1, h2, h3, -⟩ := hSw; go_simp; try with_reducible rfl)
      try simp only [Act.put, List.setIfInBounds_toArray, List.set_cons_zero, List.set_cons_succ]
      refine wpAnyH_take (i := 2) (oi := { dst := some 7, op := Op.move (Operand.tmp 6), type := 4, pos := "names.go:61", after := #[{ on := 1, ground := Ground.data }], guard := none }) (v := ?v14) rfl (by kernel_rfl) (by kernel_rfl) (by kernel_rfl) (fun _ _ _ h => h) (Or.inl ⟨by rfl, ?hy14⟩) (by assumption) ?rest14
      case hy14 => (intro w1 hSw; (try dsimp only at hSw); obtain ⟨h0, h1, h2, h3, -⟩ := hSw; go_simp; try with_reducible rfl)
      try simp only [Act.put, List.setIfInBounds_toArray, List.set_cons_zero, List.set_cons_succ]
      refine wpAnyH_take (i := 3) (oi := { dst := some 8, op := Op.fieldAddr 41 (Operand.tmp 3) 0, type := 0, pos := "names.go:61", after := #[{ on := 2, ground := Ground.guard }], guard := some (2, true) }) (v := undef) rfl (by kernel_rfl) (by kernel_rfl) (by kernel_rfl) (fun _ _ _ h => h) (Or.inr ⟨by rfl, rfl⟩) (by assumption) ?_
      try simp only [Act.put, List.setIfInBounds_toArray, List.set_cons_zero, List.set_cons_succ]
      refine wpAnyH_take (i := 4) (oi := { dst := some 9, op := Op.load 4 (Operand.tmp 8), type := 4, pos := "names.go:61", after := #[{ on := 3, ground := Ground.data }, { on := 2, ground := Ground.guard }], guard := some (2, true) }) (v := undef) rfl (by kernel_rfl) (by kernel_rfl) (by kernel_rfl) (fun _ _ _ h => h) (Or.inr ⟨by rfl, rfl⟩) (by assumption) ?_
      try simp only [Act.put, List.setIfInBounds_toArray, List.set_cons_zero, List.set_cons_succ]
      refine wpAnyH_take (i := 5) (oi := { dst := some 10, op := Op.unOp UnOp.not 4 (Operand.tmp 9), type := 4, pos := "names.go:61", after := #[{ on := 4, ground := Ground.data }, { on := 2, ground := Ground.guard }], guard := some (2, true) }) (v := undef) rfl (by kernel_rfl) (by kernel_rfl) (by kernel_rfl) (fun _ _ _ h => h) (Or.inr ⟨by rfl, rfl⟩) (by assumption) ?_
      try simp only [Act.put, List.setIfInBounds_toArray, List.set_cons_zero, List.set_cons_succ]
      refine wpAnyH_take (i := 6) (oi := { dst := some 11, op := Op.pick (Operand.tmp 7) (Operand.tmp 10) (Operand.const (Value.bool false)), type := 4, pos := "names.go:61", after := #[{ on := 2, ground := Ground.data }, { on := 5, ground := Ground.data }], guard := none }) (v := ?v18) rfl (by kernel_rfl) (by kernel_rfl) (by kernel_rfl) (fun _ _ _ h => h) (Or.inl ⟨by rfl, ?hy18⟩) (by assumption) ?rest18
      case hy18 => (intro w1 hSw; (try dsimp only at hSw); obtain ⟨h0, h1, h2, h3, -⟩ := hSw; go_simp; try with_reducible rfl)
      try simp only [Act.put, List.setIfInBounds_toArray, List.set_cons_zero, List.set_cons_succ]
      refine wpAnyH_take (i := 7) (oi := { dst := some 12, op := Op.fieldAddr 41 (Operand.tmp 3) 1, type := 0, pos := "names.go:61", after := #[], guard := none }) (v := ?v19) rfl (by kernel_rfl) (by kernel_rfl) (by kernel_rfl) (fun _ _ _ h => h) (Or.inl ⟨by rfl, ?hy19⟩) (by assumption) ?rest19
      case hy19 => (intro w1 hSw; (try dsimp only at hSw); obtain ⟨h0, h1, h2, h3, -⟩ := hSw; go_simp; try with_reducible rfl)
      try simp only [Act.put, List.setIfInBounds_toArray, List.set_cons_zero, List.set_cons_succ]
      refine wpAnyH_take (i := 8) (oi := { dst := some 13, op := Op.load 27 (Operand.tmp 12), type := 27, pos := "names.go:61", after := #[{ on := 7, ground := Ground.data }], guard := none }) (v := ?v20) rfl (by kernel_rfl) (by kernel_rfl) (by kernel_rfl) (fun _ _ _ h => h) (Or.inl ⟨by rfl, ?hy20⟩) (by assumption) ?rest20
      case hy20 => (intro w1 hSw; (try dsimp only at hSw); obtain ⟨h0, h1, h2, h3, -⟩ := hSw; go_simp; try with_reducible rfl)
      try simp only [Act.put, List.setIfInBounds_toArray, List.set_cons_zero, List.set_cons_succ]
      refine wpAnyH_take (i := 10) (oi := { dst := some 15, op := Op.fieldAddr 41 (Operand.tmp 2) 1, type := 0, pos := "names.go:61", after := #[], guard := none }) (v := ?v21) rfl (by kernel_rfl) (by kernel_rfl) (by kernel_rfl) (fun _ _ _ h => h) (Or.inl ⟨by rfl, ?hy21⟩) (by assumption) ?rest21
      case hy21 => (intro w1 hSw; (try dsimp only at hSw); obtain ⟨h0, h1, h2, h3, -⟩ := hSw; go_simp; try with_reducible rfl)
      try simp only [Act.put, List.setIfInBounds_toArray, List.set_cons_zero, List.set_cons_succ]
      refine wpAnyH_take (i := 11) (oi := { dst := some 16, op := Op.load 27 (Operand.tmp 15), type := 27, pos := "names.go:61", after := #[{ on := 10, ground := Ground.data }], guard := none }) (v := ?v22) rfl (by kernel_rfl) (by kernel_rfl) (by kernel_rfl) (fun _ _ _ h => h) (Or.inl ⟨by rfl, ?hy22⟩) (by assumption) ?rest22
      case hy22 => (intro w1 hSw; (try dsimp only at hSw); obtain ⟨h0, h1, h2, h3, -⟩ := hSw; go_simp; try with_reducible rfl)
      try simp only [Act.put, List.setIfInBounds_toArray, List.set_cons_zero, List.set_cons_succ]
      refine wpAnyH_ready (rs := [9, 12]) (by kernel_rfl) (by simp) ?_
      refine AllReadyH.cons (o := { dst := some 14, op := Op.call { callee := Callee.value (Operand.func 64), args := #[Operand.tmp 13], argTypes := #[27] }, type := 84, pos := "names.go:61", after := #[{ on := 8, ground := Ground.data }, { on := 2, ground := Ground.chain }], guard := none }) rfl (fun K hK => ?_) ?_
      · go_simp
        refine ((except_any (l := bl) (T2) HF.out.2.1)).mono ?_
        rintro e w5 ⟨E, rfl, hex, hb5⟩
        have L5 : Ls w false true (.slice a1 n1 c1) (.slice a2 n2 c2) w5 := (L0).next hb5
        refine hK.out _ _ (L5.s) (fun hHeld => ?_)
        clear hK K
        try simp only [Act.put, List.setIfInBounds_toArray, List.set_cons_zero, List.set_cons_succ]
        refine wpAnyH_ready (rs := [12]) (by kernel_rfl) (by simp) ?_
        refine AllReadyH.cons (o := { dst := some 17, op := Op.buildSlice 98 1 #[(0, Operand.tmp 16)], type := 98, pos := "names.go:61", after := #[{ on := 11, ground := Ground.data }], guard := none }) rfl (fun K hK => ?_) AllReadyH.nil
        go_simp
        refine hK.out _ _ ((L5.alloc _).s) (fun hHeld => ?_)
        clear hK K
        try simp only [Act.put, List.setIfInBounds_toArray, List.set_cons_zero, List.set_cons_succ]
        refine wpAnyH_ready (rs := [13]) (by kernel_rfl) (by simp) ?_
        refine AllReadyH.cons (o := { dst := some 18, op := Op.call { callee := Callee.value (Operand.func 44), args := #[Operand.tmp 11, Operand.tmp 14, Operand.tmp 17], argTypes := #[4, 84, 98] }, type := 41, pos := "names.go:61", after := #[{ on := 6, ground := Ground.data }, { on := 9, ground := Ground.data }, { on := 12, ground := Ground.data }, { on := 9, ground := Ground.chain }], guard := none }) rfl (fun K hK => ?_) AllReadyH.nil
        go_simp
        refine (made_set (sl := sl) (ls := [al]) (except1_takes (hex.below ((Below.refl _ _).alloc (Nat.le_refl _) _))) (lsAt_one (Blk.new _ _ _) ((T1.below hb5).below ((Below.refl _ _).alloc (Nat.le_refl _) _))) HFL.out.1 HFL.out.2 HSL.out).mono ?_
        rintro e w6 ⟨a3, c3', rfl, hs6, hb6⟩
        have L6 : Ls w false true (.slice a1 n1 c1) (.slice a2 n2 c2) w6 := (L5.alloc _).next hb6
        have r0 : w6.cell? ⟨w.heap.size + 1 + 1, 0, none⟩ = some (.bool false) := L6.2.2.2.2.1.cell 0
        have r1 : w6.cell? ⟨w.heap.size + 1 + 1, 1, none⟩ = some (.slice none 0 0) := L6.2.2.2.2.1.cell 1
        have f0 := L6.2.2.2.2.1.frozen 0
        have f1 := L6.2.2.2.2.1.frozen 1
        refine hK.out _ _ (L6.s) (fun hHeld => ?_)
        clear hK K
        try simp only [Act.put, List.setIfInBounds_toArray, List.set_cons_zero, List.set_cons_succ]
        refine wpAnyH_ready (rs := [14]) (by kernel_rfl) (by simp) ?_
        refine AllReadyH.cons (o := { dst := none, op := Op.store 41 (Operand.tmp 4) (Operand.tmp 18), type := 0, pos := "names.go:61", after := #[{ on := 13, ground := Ground.data }, { on := 13, ground := Ground.chain }, { on := 0, ground := Ground.phase }, { on := 1, ground := Ground.phase }, { on := 2, ground := Ground.phase }, { on := 3, ground := Ground.phase }, { on := 4, ground := Ground.phase }, { on := 5, ground := Ground.phase }, { on := 6, ground := Ground.phase }, { on := 7, ground := Ground.phase }, { on := 8, ground := Ground.phase }, { on := 9, ground := Ground.phase }, { on := 10, ground := Ground.phase }, { on := 11, ground := Ground.phase }, { on := 12, ground := Ground.phase }, { on := 13, ground := Ground.phase }], guard := none }) rfl (fun K hK => ?_) AllReadyH.nil
        go_simp
        refine hK.out _ _ (L6.set _ _) (fun hHeld => ?_)
        clear hK K
        try simp only [Act.put, List.setIfInBounds_toArray, List.set_cons_zero, List.set_cons_succ]
        refine wpAnyH_done (by kernel_rfl) ?_ _
        obtain ⟨w7, e7, t0, t1, hts, hbb⟩ := set_cells (W := w6) (sa := false) L6.2.2.2.2.1 hs6 (Below.refl _ _)
        have HZ := Lib.hid L6.2.2.2.2.2
        have HT := Lib.hid (And.intro hts hbb)
        clear hts hbb r0 r1 f0 f1 hHeld
        go_wp2_with fail
        rw [show w.heap.size + 1 + 1 = w.heap.size + 2 from rfl, e7]
        refine bodyPost_ret (v := .agg #[.bool false, .slice a3 sl.length c3']) ?_ rfl ⟨_, _, rfl, HT.out.1, HZ.out.trans (HT.out.2.mono (by have := HZ.out.size; omega))⟩
        simp [results, Tryz.results49, go_sem, t0, t1]
      refine AllReadyH.cons (o := { dst := some 17, op := Op.buildSlice 98 1 #[(0, Operand.tmp 16)], type := 98, pos := "names.go:61", after := #[{ on := 11, ground := Ground.data }], guard := none }) rfl (fun K hK => ?_) AllReadyH.nil
      go_simp
      refine hK.out _ _ ((L0.alloc _).s) (fun hHeld => ?_)
      clear hK K
      try simp only [Act.put, List.setIfInBounds_toArray, List.set_cons_zero, List.set_cons_succ]
      refine wpAnyH_ready (rs := [9]) (by kernel_rfl) (by simp) ?_
      refine AllReadyH.cons (o := { dst := some 14, op := Op.call { callee := Callee.value (Operand.func 64), args := #[Operand.tmp 13], argTypes := #[27] }, type := 84, pos := "names.go:61", after := #[{ on := 8, ground := Ground.data }, { on := 2, ground := Ground.chain }], guard := none }) rfl (fun K hK => ?_) AllReadyH.nil
      go_simp
      refine ((except_any (l := bl) (T2.below ((Below.refl _ _).alloc (Nat.le_refl _) _)) HF.out.2.1)).mono ?_
      rintro e w5 ⟨E, rfl, hex, hb5⟩
      have L5 : Ls w false true (.slice a1 n1 c1) (.slice a2 n2 c2) w5 := (L0.alloc _).next hb5
      refine hK.out _ _ (L5.s) (fun hHeld => ?_)
      clear hK K
      try simp only [Act.put, List.setIfInBounds_toArray, List.set_cons_zero, List.set_cons_succ]
      refine wpAnyH_ready (rs := [13]) (by kernel_rfl) (by simp) ?_
      refine AllReadyH.cons (o := { dst := some 18, op := Op.call { callee := Callee.value (Operand.func 44), args := #[Operand.tmp 11, Operand.tmp 14, Operand.tmp 17], argTypes := #[4, 84, 98] }, type := 41, pos := "names.go:61", after := #[{ on := 6, ground := Ground.data }, { on := 9, ground := Ground.data }, { on := 12, ground := Ground.data }, { on := 9, ground := Ground.chain }], guard := none }) rfl (fun K hK => ?_) AllReadyH.nil
      go_simp
      refine (made_set (sl := sl) (ls := [al]) (except1_takes hex) (lsAt_one ((Blk.new _ _ _).below hb5 (by rw [World.size_alloc]; omega)) ((T1.below ((Below.refl _ _).alloc (Nat.le_refl _) _)).below hb5)) HFL.out.1 HFL.out.2 HSL.out).mono ?_
      rintro e w6 ⟨a3, c3', rfl, hs6, hb6⟩
      have L6 : Ls w false true (.slice a1 n1 c1) (.slice a2 n2 c2) w6 := L5.next hb6
      have r0 : w6.cell? ⟨w.heap.size + 1 + 1, 0, none⟩ = some (.bool false) := L6.2.2.2.2.1.cell 0
      have r1 : w6.cell? ⟨w.heap.size + 1 + 1, 1, none⟩ = some (.slice none 0 0) := L6.2.2.2.2.1.cell 1
      have f0 := L6.2.2.2.2.1.frozen 0
      have f1 := L6.2.2.2.2.1.frozen 1
      refine hK.out _ _ (L6.s) (fun hHeld => ?_)
      clear hK K
      try simp only [Act.put, List.setIfInBounds_toArray, List.set_cons_zero, List.set_cons_succ]
      refine wpAnyH_ready (rs := [14]) (by kernel_rfl) (by simp) ?_
      refine AllReadyH.cons (o := { dst := none, op := Op.store 41 (Operand.tmp 4) (Operand.tmp 18), type := 0, pos := "names.go:61", after := #[{ on := 13, ground := Ground.data }, { on := 13, ground := Ground.chain }, { on := 0, ground := Ground.phase }, { on := 1, ground := Ground.phase }, { on := 2, ground := Ground.phase }, { on := 3, ground := Ground.phase }, { on := 4, ground := Ground.phase }, { on := 5, ground := Ground.phase }, { on := 6, ground := Ground.phase }, { on := 7, ground := Ground.phase }, { on := 8, ground := Ground.phase }, { on := 9, ground := Ground.phase }, { on := 10, ground := Ground.phase }, { on := 11, ground := Ground.phase }, { on := 12, ground := Ground.phase }, { on := 13, ground := Ground.phase }], guard := none }) rfl (fun K hK => ?_) AllReadyH.nil
      go_simp
      refine hK.out _ _ (L6.set _ _) (fun hHeld => ?_)
      clear hK K
      try simp only [Act.put, List.setIfInBounds_toArray, List.set_cons_zero, List.set_cons_succ]
      refine wpAnyH_done (by kernel_rfl) ?_ _
      obtain ⟨w7, e7, t0, t1, hts, hbb⟩ := set_cells (W := w6) (sa := false) L6.2.2.2.2.1 hs6 (Below.refl _ _)
      have HZ := Lib.hid L6.2.2.2.2.2
      have HT := Lib.hid (And.intro hts hbb)
      clear hts hbb r0 r1 f0 f1 hHeld
      go_wp2_with fail
      rw [show w.heap.size + 1 + 1 = w.heap.size + 2 from rfl, e7]
      refine bodyPost_ret (v := .agg #[.bool false, .slice a3 sl.length c3']) ?_ rfl ⟨_, _, rfl, HT.out.1, HZ.out.trans (HT.out.2.mono (by have := HZ.out.size; omega))⟩
      simp [results, Tryz.results49, go_sem, t0, t1]
  · cases ba
    · obtain rfl : true = sa := HSA.out
      refine wp_region_held_drew (S := (fun w' => w'.cell? ⟨w.heap.size, 0, none⟩ = some (.bool true) ∧ w'.cell? ⟨w.heap.size, 1, none⟩ = some (.slice a1 n1 c1) ∧ w'.cell? ⟨w.heap.size + 1, 0, none⟩ = some (.bool false) ∧ w'.cell? ⟨w.heap.size + 1, 1, none⟩ = some (.slice a2 n2 c2) ∧ w.heap.size + 2 < w'.heap.size ∧ Below w.heap.size w w')) (by kernel_rfl) (L0.s) (fun hHeld => ?_)
      refine wpAnyH_take (i := 0) (oi := { dst := some 5, op := Op.fieldAddr 41 (Operand.tmp 2) 0, type := 0, pos := "names.go:61", after := #[], guard := none }) (v := ?v23) rfl (by kernel_rfl) (by kernel_rfl) (by kernel_rfl) (fun _ _ _ h => h) (Or.inl ⟨by rfl, ?hy23⟩) (by assumption) ?rest23
      case hy23 => (intro w1 hSw; (try dsimp only at hSw); obtain ⟨h0, h1, h2, h3, -⟩ := hSw; go_simp; try with_reducible rfl)
      try simp only [Act.put, List.setIfInBounds_toArray, List.set_cons_zero, List.set_cons_succ]
      refine wpAnyH_take (i := 1) (oi := { dst := some 6, op := Op.load 4 (Operand.tmp 5), type := 4, pos := "names.go:61", after := #[{ on := 0, ground := Ground.data }], guard := none }) (v := ?v24) rfl (by kernel_rfl) (by kernel_rfl) (by kernel_rfl) (fun _ _ _ h => h) (Or.inl ⟨by rfl, ?hy24⟩) (by assumption) ?rest24
      case hy24 => (intro w1 hSw; (try dsimp only at hSw); obtain ⟨h0, h1, h2, h3, -⟩ := hSw; go_simp; try with_reducible rfl)
      try simp only [Act.put, List.setIfInBounds_toArray, List.set_cons_zero, List.set_cons_succ]
      refine wpAnyH_take (i := 2) (oi := { dst := some 7, op := Op.move (Operand.tmp 6), type := 4, pos := "names.go:61", after := #[{ on := 1, ground := Ground.data }], guard := none }) (v := ?v25) rfl (by kernel_rfl) (by kernel_rfl) (by kernel_rfl) (fun _ _ _ h => h) (Or.inl ⟨by rfl, ?hy25⟩) (by assumption) ?rest25
      case hy25 => (intro w1 hSw; (try dsimp only at hSw); obtain ⟨h0, h1, h2, h3, -⟩ := hSw; go_simp; try with_reducible rfl)
      try simp only [Act.put, List.setIfInBounds_toArray, List.set_cons_zero, List.set_cons_succ]
      refine wpAnyH_take (i := 3) (oi := { dst := some 8, op := Op.fieldAddr 41 (Operand.tmp 3) 0, type := 0, pos := "names.go:61", after := #[{ on := 2, ground := Ground.guard }], guard := some (2, true) }) (v := ?v26) rfl (by kernel_rfl) (by kernel_rfl) (by kernel_rfl) (fun _ _ _ h => h) (Or.inl ⟨by rfl, ?hy26⟩) (by assumption) ?rest26
      case hy26 => (intro w1 hSw; (try dsimp only at hSw); obtain ⟨h0, h1, h2, h3, -⟩ := hSw; go_simp; try with_reducible rfl)
      try simp only [Act.put, List.setIfInBounds_toArray, List.set_cons_zero, List.set_cons_succ]
      refine wpAnyH_take (i := 4) (oi := { dst := some 9, op := Op.load 4 (Operand.tmp 8), type := 4, pos := "names.go:61", after := #[{ on := 3, ground := Ground.data }, { on := 2, ground := Ground.guard }], guard := some (2, true) }) (v := ?v27) rfl (by kernel_rfl) (by kernel_rfl) (by kernel_rfl) (fun _ _ _ h => h) (Or.inl ⟨by rfl, ?hy27⟩) (by assumption) ?rest27
      case hy27 => (intro w1 hSw; (try dsimp only at hSw); obtain ⟨h0, h1, h2, h3, -⟩ := hSw; go_simp; try with_reducible rfl)
      try simp only [Act.put, List.setIfInBounds_toArray, List.set_cons_zero, List.set_cons_succ]
      refine wpAnyH_take (i := 5) (oi := { dst := some 10, op := Op.unOp UnOp.not 4 (Operand.tmp 9), type := 4, pos := "names.go:61", after := #[{ on := 4, ground := Ground.data }, { on := 2, ground := Ground.guard }], guard := some (2, true) }) (v := ?v28) rfl (by kernel_rfl) (by kernel_rfl) (by kernel_rfl) (fun _ _ _ h => h) (Or.inl ⟨by rfl, ?hy28⟩) (by assumption) ?rest28
      case hy28 => (intro w1 hSw; (try dsimp only at hSw); obtain ⟨h0, h1, h2, h3, -⟩ := hSw; go_simp; try with_reducible rfl)
      try simp only [Act.put, List.setIfInBounds_toArray, List.set_cons_zero, List.set_cons_succ]
      refine wpAnyH_take (i := 6) (oi := { dst := some 11, op := Op.pick (Operand.tmp 7) (Operand.tmp 10) (Operand.const (Value.bool false)), type := 4, pos := "names.go:61", after := #[{ on := 2, ground := Ground.data }, { on := 5, ground := Ground.data }], guard := none }) (v := ?v29) rfl (by kernel_rfl) (by kernel_rfl) (by kernel_rfl) (fun _ _ _ h => h) (Or.inl ⟨by rfl, ?hy29⟩) (by assumption) ?rest29
      case hy29 => (intro w1 hSw; (try dsimp only at hSw); obtain ⟨h0, h1, h2, h3, -⟩ := hSw; go_simp; try with_reducible rfl)
      try simp only [Act.put, List.setIfInBounds_toArray, List.set_cons_zero, List.set_cons_succ]
      refine wpAnyH_take (i := 7) (oi := { dst := some 12, op := Op.fieldAddr 41 (Operand.tmp 3) 1, type := 0, pos := "names.go:61", after := #[], guard := none }) (v := ?v30) rfl (by kernel_rfl) (by kernel_rfl) (by kernel_rfl) (fun _ _ _ h => h) (Or.inl ⟨by rfl, ?hy30⟩) (by assumption) ?rest30
      case hy30 => (intro w1 hSw; (try dsimp only at hSw); obtain ⟨h0, h1, h2, h3, -⟩ := hSw; go_simp; try with_reducible rfl)
      try simp only [Act.put, List.setIfInBounds_toArray, List.set_cons_zero, List.set_cons_succ]
      refine wpAnyH_take (i := 8) (oi := { dst := some 13, op := Op.load 27 (Operand.tmp 12), type := 27, pos := "names.go:61", after := #[{ on := 7, ground := Ground.data }], guard := none }) (v := ?v31) rfl (by kernel_rfl) (by kernel_rfl) (by kernel_rfl) (fun _ _ _ h => h) (Or.inl ⟨by rfl, ?hy31⟩) (by assumption) ?rest31
      case hy31 => (intro w1 hSw; (try dsimp only at hSw); obtain ⟨h0, h1, h2, h3, -⟩ := hSw; go_simp; try with_reducible rfl)
      try simp only [Act.put, List.setIfInBounds_toArray, List.set_cons_zero, List.set_cons_succ]
      refine wpAnyH_take (i := 10) (oi := { dst := some 15, op := Op.fieldAddr 41 (Operand.tmp 2) 1, type := 0, pos := "names.go:61", after := #[], guard := none }) (v := ?v32) rfl (by kernel_rfl) (by kernel_rfl) (by kernel_rfl) (fun _ _ _ h => h) (Or.inl ⟨by rfl, ?hy32⟩) (by assumption) ?rest32
      case hy32 => (intro w1 hSw; (try dsimp only at hSw); obtain ⟨h0, h1, h2, h3, -⟩ := hSw; go_simp; try with_reducible rfl)
      try simp only [Act.put, List.setIfInBounds_toArray, List.set_cons_zero, List.set_cons_succ]
      refine wpAnyH_take (i := 11) (oi := { dst := some 16, op := Op.load 27 (Operand.tmp 15), type := 27, pos := "names.go:61", after := #[{ on := 10, ground := Ground.data }], guard := none }) (v := ?v33) rfl (by kernel_rfl) (by kernel_rfl) (by kernel_rfl) (fun _ _ _ h => h) (Or.inl ⟨by rfl, ?hy33⟩) (by assumption) ?rest33
      case hy33 => (intro w1 hSw; (try dsimp only at hSw); obtain ⟨h0, h1, h2, h3, -⟩ := hSw; go_simp; try with_reducible rfl)
      try simp only [Act.put, List.setIfInBounds_toArray, List.set_cons_zero, List.set_cons_succ]
      refine wpAnyH_ready (rs := [9, 12]) (by kernel_rfl) (by simp) ?_
      refine AllReadyH.cons (o := { dst := some 14, op := Op.call { callee := Callee.value (Operand.func 64), args := #[Operand.tmp 13], argTypes := #[27] }, type := 84, pos := "names.go:61", after := #[{ on := 8, ground := Ground.data }, { on := 2, ground := Ground.chain }], guard := none }) rfl (fun K hK => ?_) ?_
      · go_simp
        refine ((except_any (l := bl) (T2) HF.out.2.1)).mono ?_
        rintro e w5 ⟨E, rfl, hex, hb5⟩
        have L5 : Ls w true false (.slice a1 n1 c1) (.slice a2 n2 c2) w5 := (L0).next hb5
        refine hK.out _ _ (L5.s) (fun hHeld => ?_)
        clear hK K
        try simp only [Act.put, List.setIfInBounds_toArray, List.set_cons_zero, List.set_cons_succ]
        refine wpAnyH_ready (rs := [12]) (by kernel_rfl) (by simp) ?_
        refine AllReadyH.cons (o := { dst := some 17, op := Op.buildSlice 98 1 #[(0, Operand.tmp 16)], type := 98, pos := "names.go:61", after := #[{ on := 11, ground := Ground.data }], guard := none }) rfl (fun K hK => ?_) AllReadyH.nil
        go_simp
        refine hK.out _ _ ((L5.alloc _).s) (fun hHeld => ?_)
        clear hK K
        try simp only [Act.put, List.setIfInBounds_toArray, List.set_cons_zero, List.set_cons_succ]
        refine wpAnyH_ready (rs := [13]) (by kernel_rfl) (by simp) ?_
        refine AllReadyH.cons (o := { dst := some 18, op := Op.call { callee := Callee.value (Operand.func 44), args := #[Operand.tmp 11, Operand.tmp 14, Operand.tmp 17], argTypes := #[4, 84, 98] }, type := 41, pos := "names.go:61", after := #[{ on := 6, ground := Ground.data }, { on := 9, ground := Ground.data }, { on := 12, ground := Ground.data }, { on := 9, ground := Ground.chain }], guard := none }) rfl (fun K hK => ?_) AllReadyH.nil
        go_simp
        refine (made_set (sl := sl) (ls := [al]) (except1_takes (hex.below ((Below.refl _ _).alloc (Nat.le_refl _) _))) (lsAt_one (Blk.new _ _ _) ((T1.below hb5).below ((Below.refl _ _).alloc (Nat.le_refl _) _))) HFL.out.1 HFL.out.2 HSL.out).mono ?_
        rintro e w6 ⟨a3, c3', rfl, hs6, hb6⟩
        have L6 : Ls w true false (.slice a1 n1 c1) (.slice a2 n2 c2) w6 := (L5.alloc _).next hb6
        have r0 : w6.cell? ⟨w.heap.size + 1 + 1, 0, none⟩ = some (.bool false) := L6.2.2.2.2.1.cell 0
        have r1 : w6.cell? ⟨w.heap.size + 1 + 1, 1, none⟩ = some (.slice none 0 0) := L6.2.2.2.2.1.cell 1
        have f0 := L6.2.2.2.2.1.frozen 0
        have f1 := L6.2.2.2.2.1.frozen 1
        refine hK.out _ _ (L6.s) (fun hHeld => ?_)
        clear hK K
        try simp only [Act.put, List.setIfInBounds_toArray, List.set_cons_zero, List.set_cons_succ]
        refine wpAnyH_ready (rs := [14]) (by kernel_rfl) (by simp) ?_
        refine AllReadyH.cons (o := { dst := none, op := Op.store 41 (Operand.tmp 4) (Operand.tmp 18), type := 0, pos := "names.go:61", after := #[{ on := 13, ground := Ground.data }, { on := 13, ground := Ground.chain }, { on := 0, ground := Ground.phase }, { on := 1, ground := Ground.phase }, { on := 2, ground := Ground.phase }, { on := 3, ground := Ground.phase }, { on := 4, ground := Ground.phase }, { on := 5, ground := Ground.phase }, { on := 6, ground := Ground.phase }, { on := 7, ground := Ground.phase }, { on := 8, ground := Ground.phase }, { on := 9, ground := Ground.phase }, { on := 10, ground := Ground.phase }, { on := 11, ground := Ground.phase }, { on := 12, ground := Ground.phase }, { on := 13, ground := Ground.phase }], guard := none }) rfl (fun K hK => ?_) AllReadyH.nil
        go_simp
        refine hK.out _ _ (L6.set _ _) (fun hHeld => ?_)
        clear hK K
        try simp only [Act.put, List.setIfInBounds_toArray, List.set_cons_zero, List.set_cons_succ]
        refine wpAnyH_done (by kernel_rfl) ?_ _
        obtain ⟨w7, e7, t0, t1, hts, hbb⟩ := set_cells (W := w6) (sa := true) L6.2.2.2.2.1 hs6 (Below.refl _ _)
        have HZ := Lib.hid L6.2.2.2.2.2
        have HT := Lib.hid (And.intro hts hbb)
        clear hts hbb r0 r1 f0 f1 hHeld
        go_wp2_with fail
        rw [show w.heap.size + 1 + 1 = w.heap.size + 2 from rfl, e7]
        refine bodyPost_ret (v := .agg #[.bool true, .slice a3 sl.length c3']) ?_ rfl ⟨_, _, rfl, HT.out.1, HZ.out.trans (HT.out.2.mono (by have := HZ.out.size; omega))⟩
        simp [results, Tryz.results49, go_sem, t0, t1]
      refine AllReadyH.cons (o := { dst := some 17, op := Op.buildSlice 98 1 #[(0, Operand.tmp 16)], type := 98, pos := "names.go:61", after := #[{ on := 11, ground := Ground.data }], guard := none }) rfl (fun K hK => ?_) AllReadyH.nil
      go_simp
      refine hK.out _ _ ((L0.alloc _).s) (fun hHeld => ?_)
      clear hK K
      try simp only [Act.put, List.setIfInBounds_toArray, List.set_cons_zero, List.set_cons_succ]
      refine wpAnyH_ready (rs := [9]) (by kernel_rfl) (by simp) ?_
      refine AllReadyH.cons (o := { dst := some 14, op := Op.call { callee := Callee.value (Operand.func 64), args := #[Operand.tmp 13], argTypes := #[27] }, type := 84, pos := "names.go:61", after := #[{ on := 8, ground := Ground.data }, { on := 2, ground := Ground.chain }], guard := none }) rfl (fun K hK => ?_) AllReadyH.nil
      go_simp
      refine ((except_any (l := bl) (T2.below ((Below.refl _ _).alloc (Nat.le_refl _) _)) HF.out.2.1)).mono ?_
      rintro e w5 ⟨E, rfl, hex, hb5⟩
      have L5 : Ls w true false (.slice a1 n1 c1) (.slice a2 n2 c2) w5 := (L0.alloc _).next hb5
      refine hK.out _ _ (L5.s) (fun hHeld => ?_)
      clear hK K
      try simp only [Act.put, List.setIfInBounds_toArray, List.set_cons_zero, List.set_cons_succ]
      refine wpAnyH_ready (rs := [13]) (by kernel_rfl) (by simp) ?_
      refine AllReadyH.cons (o := { dst := some 18, op := Op.call { callee := Callee.value (Operand.func 44), args := #[Operand.tmp 11, Operand.tmp 14, Operand.tmp 17], argTypes := #[4, 84, 98] }, type := 41, pos := "names.go:61", after := #[{ on := 6, ground := Ground.data }, { on := 9, ground := Ground.data }, { on := 12, ground := Ground.data }, { on := 9, ground := Ground.chain }], guard := none }) rfl (fun K hK => ?_) AllReadyH.nil
      go_simp
      refine (made_set (sl := sl) (ls := [al]) (except1_takes hex) (lsAt_one ((Blk.new _ _ _).below hb5 (by rw [World.size_alloc]; omega)) ((T1.below ((Below.refl _ _).alloc (Nat.le_refl _) _)).below hb5)) HFL.out.1 HFL.out.2 HSL.out).mono ?_
      rintro e w6 ⟨a3, c3', rfl, hs6, hb6⟩
      have L6 : Ls w true false (.slice a1 n1 c1) (.slice a2 n2 c2) w6 := L5.next hb6
      have r0 : w6.cell? ⟨w.heap.size + 1 + 1, 0, none⟩ = some (.bool false) := L6.2.2.2.2.1.cell 0
      have r1 : w6.cell? ⟨w.heap.size + 1 + 1, 1, none⟩ = some (.slice none 0 0) := L6.2.2.2.2.1.cell 1
      have f0 := L6.2.2.2.2.1.frozen 0
      have f1 := L6.2.2.2.2.1.frozen 1
      refine hK.out _ _ (L6.s) (fun hHeld => ?_)
      clear hK K
      try simp only [Act.put, List.setIfInBounds_toArray, List.set_cons_zero, List.set_cons_succ]
      refine wpAnyH_ready (rs := [14]) (by kernel_rfl) (by simp) ?_
      refine AllReadyH.cons (o := { dst := none, op := Op.store 41 (Operand.tmp 4) (Operand.tmp 18), type := 0, pos := "names.go:61", after := #[{ on := 13, ground := Ground.data }, { on := 13, ground := Ground.chain }, { on := 0, ground := Ground.phase }, { on := 1, ground := Ground.phase }, { on := 2, ground := Ground.phase }, { on := 3, ground := Ground.phase }, { on := 4, ground := Ground.phase }, { on := 5, ground := Ground.phase }, { on := 6, ground := Ground.phase }, { on := 7, ground := Ground.phase }, { on := 8, ground := Ground.phase }, { on := 9, ground := Ground.phase }, { on := 10, ground := Ground.phase }, { on := 11, ground := Ground.phase }, { on := 12, ground := Ground.phase }, { on := 13, ground := Ground.phase }], guard := none }) rfl (fun K hK => ?_) AllReadyH.nil
      go_simp
      refine hK.out _ _ (L6.set _ _) (fun hHeld => ?_)
      clear hK K
      try simp only [Act.put, List.setIfInBounds_toArray, List.set_cons_zero, List.set_cons_succ]
      refine wpAnyH_done (by kernel_rfl) ?_ _
      obtain ⟨w7, e7, t0, t1, hts, hbb⟩ := set_cells (W := w6) (sa := true) L6.2.2.2.2.1 hs6 (Below.refl _ _)
      have HZ := Lib.hid L6.2.2.2.2.2
      have HT := Lib.hid (And.intro hts hbb)
      clear hts hbb r0 r1 f0 f1 hHeld
      go_wp2_with fail
      rw [show w.heap.size + 1 + 1 = w.heap.size + 2 from rfl, e7]
      refine bodyPost_ret (v := .agg #[.bool true, .slice a3 sl.length c3']) ?_ rfl ⟨_, _, rfl, HT.out.1, HZ.out.trans (HT.out.2.mono (by have := HZ.out.size; omega))⟩
      simp [results, Tryz.results49, go_sem, t0, t1]
    · obtain rfl : false = sa := HSA.out
      refine wp_region_held_drew (S := (fun w' => w'.cell? ⟨w.heap.size, 0, none⟩ = some (.bool true) ∧ w'.cell? ⟨w.heap.size, 1, none⟩ = some (.slice a1 n1 c1) ∧ w'.cell? ⟨w.heap.size + 1, 0, none⟩ = some (.bool true) ∧ w'.cell? ⟨w.heap.size + 1, 1, none⟩ = some (.slice a2 n2 c2) ∧ w.heap.size + 2 < w'.heap.size ∧ Below w.heap.size w w')) (by kernel_rfl) (L0.s) (fun hHeld => ?_)
      refine wpAnyH_take (i := 0) (oi := { dst := some 5, op := Op.fieldAddr 41 (Operand.tmp 2) 0, type := 0, pos := "names.go:61", after := #[], guard := none }) (v := ?v34) rfl (by kernel_rfl) (by kernel_rfl) (by kernel_rfl) (fun _ _ _ h => h) (Or.inl ⟨by rfl, ?hy34⟩) (by assumption) ?rest34
      case hy34 => (intro w1 hSw; (try dsimp only at hSw); obtain ⟨h0, h1, h2, h3, -⟩ := hSw; go_simp; try with_reducible rfl)
      try simp only [Act.put, List.setIfInBounds_toArray, List.set_cons_zero, List.set_cons_succ]
      refine wpAnyH_take (i := 1) (oi := { dst := some 6, op := Op.load 4 (Operand.tmp 5), type := 4, pos := "names.go:61", after := #[{ on := 0, ground := Ground.data }], guard := none }) (v := ?v35) rfl (by kernel_rfl) (by kernel_rfl) (by kernel_rfl) (fun _ _ _ h => h) (Or.inl ⟨by rfl, ?hy35⟩) (by assumption) ?rest35
      case hy35 => (intro w1 hSw; (try dsimp only at hSw); obtain ⟨h0, h1, h2, h3, -⟩ := hSw; go_simp; try with_reducible rfl)
      try simp only [Act.put, List.setIfInBounds_toArray, List.set_cons_zero, List.set_cons_succ]
      refine wpAnyH_take (i := 2) (oi := { dst := some 7, op := Op.move (Operand.tmp 6), type := 4, pos := "names.go:61", after := #[{ on := 1, ground := Ground.data }], guard := none }) (v := ?v36) rfl (by kernel_rfl) (by kernel_rfl) (by kernel_rfl) (fun _ _ _ h => h) (Or.inl ⟨by rfl, ?hy36⟩) (by assumption) ?rest36
      case hy36 => (intro w1 hSw; (try dsimp only at hSw); obtain ⟨h0, h1, h2, h3, -⟩ := hSw; go_simp; try with_reducible rfl)
      try simp only [Act.put, List.setIfInBounds_toArray, List.set_cons_zero, List.set_cons_succ]
      refine wpAnyH_take (i := 3) (oi := { dst := some 8, op := Op.fieldAddr 41 (Operand.tmp 3) 0, type := 0, pos := "names.go:61", after := #[{ on := 2, ground := Ground.guard }], guard := some (2, true) }) (v := ?v37) rfl (by kernel_rfl) (by kernel_rfl) (by kernel_rfl) (fun _ _ _ h => h) (Or.inl ⟨by rfl, ?hy37⟩) (by assumption) ?rest37
      case hy37 => (intro w1 hSw; (try dsimp only at hSw); obtain ⟨h0, h1, h2, h3, -⟩ := hSw; go_simp; try with_reducible rfl)
      try simp only [Act.put, List.setIfInBounds_toArray, List.set_cons_zero, List.set_cons_succ]
      refine wpAnyH_take (i := 4) (oi := { dst := some 9, op := Op.load 4 (Operand.tmp 8), type := 4, pos := "names.go:61", after := #[{ on := 3, ground := Ground.data }, { on := 2, ground := Ground.guard }], guard := some (2, true) }) (v := ?v38) rfl (by kernel_rfl) (by kernel_rfl) (by kernel_rfl) (fun _ _ _ h => h) (Or.inl ⟨by rfl, ?hy38⟩) (by assumption) ?rest38
      case hy38 => (intro w1 hSw; (try dsimp only at hSw); obtain ⟨h0, h1, h2, h3, -⟩ := hSw; go_simp; try with_reducible rfl)
      try simp only [Act.put, List.setIfInBounds_toArray, List.set_cons_zero, List.set_cons_succ]
      refine wpAnyH_take (i := 5) (oi := { dst := some 10, op := Op.unOp UnOp.not 4 (Operand.tmp 9), type := 4, pos := "names.go:61", after := #[{ on := 4, ground := Ground.data }, { on := 2, ground := Ground.guard }], guard := some (2, true) }) (v := ?v39) rfl (by kernel_rfl) (by kernel_rfl) (by kernel_rfl) (fun _ _ _ h => h) (Or.inl ⟨by rfl, ?hy39⟩) (by assumption) ?rest39
      case hy39 => (intro w1 hSw; (try dsimp only at hSw); obtain ⟨h0, h1, h2, h3, -⟩ := hSw; go_simp; try with_reducible rfl)
      try simp only [Act.put, List.setIfInBounds_toArray, List.set_cons_zero, List.set_cons_succ]
      refine wpAnyH_take (i := 6) (oi := { dst := some 11, op := Op.pick (Operand.tmp 7) (Operand.tmp 10) (Operand.const (Value.bool false)), type := 4, pos := "names.go:61", after := #[{ on := 2, ground := Ground.data }, { on := 5, ground := Ground.data }], guard := none }) (v := ?v40) rfl (by kernel_rfl) (by kernel_rfl) (by kernel_rfl) (fun _ _ _ h => h) (Or.inl ⟨by rfl, ?hy40⟩) (by assumption) ?rest40
      case hy40 => (intro w1 hSw; (try dsimp only at hSw); obtain ⟨h0, h1, h2, h3, -⟩ := hSw; go_simp; try with_reducible rfl)
      try simp only [Act.put, List.setIfInBounds_toArray, List.set_cons_zero, List.set_cons_succ]
      refine wpAnyH_take (i := 7) (oi := { dst := some 12, op := Op.fieldAddr 41 (Operand.tmp 3) 1, type := 0, pos := "names.go:61", after := #[], guard := none }) (v := ?v41) rfl (by kernel_rfl) (by kernel_rfl) (by kernel_rfl) (fun _ _ _ h => h) (Or.inl ⟨by rfl, ?hy41⟩) (by assumption) ?rest41
      case hy41 => (intro w1 hSw; (try dsimp only at hSw); obtain ⟨h0, h1, h2, h3, -⟩ := hSw; go_simp; try with_reducible rfl)
      try simp only [Act.put, List.setIfInBounds_toArray, List.set_cons_zero, List.set_cons_succ]
      refine wpAnyH_take (i := 8) (oi := { dst := some 13, op := Op.load 27 (Operand.tmp 12), type := 27, pos := "names.go:61", after := #[{ on := 7, ground := Ground.data }], guard := none }) (v := ?v42) rfl (by kernel_rfl) (by kernel_rfl) (by kernel_rfl) (fun _ _ _ h => h) (Or.inl ⟨by rfl, ?hy42⟩) (by assumption) ?rest42
      case hy42 => (intro w1 hSw; (try dsimp only at hSw); obtain ⟨h0, h1, h2, h3, -⟩ := hSw; go_simp; try with_reducible rfl)
      try simp only [Act.put, List.setIfInBounds_toArray, List.set_cons_zero, List.set_cons_succ]
      refine wpAnyH_take (i := 10) (oi := { dst := some 15, op := Op.fieldAddr 41 (Operand.tmp 2) 1, type := 0, pos := "names.go:61", after := #[], guard := none }) (v := ?v43) rfl (by kernel_rfl) (by kernel_rfl) (by kernel_rfl) (fun _ _ _ h => h) (Or.inl ⟨by rfl, ?hy43⟩) (by assumption) ?rest43
      case hy43 => (intro w1 hSw; (try dsimp only at hSw); obtain ⟨h0, h1, h2, h3, -⟩ := hSw; go_simp; try with_reducible rfl)
      try simp only [Act.put, List.setIfInBounds_toArray, List.set_cons_zero, List.set_cons_succ]
      refine wpAnyH_take (i := 11) (oi := { dst := some 16, op := Op.load 27 (Operand.tmp 15), type := 27, pos := "names.go:61", after := #[{ on := 10, ground := Ground.data }], guard := none }) (v := ?v44) rfl (by kernel_rfl) (by kernel_rfl) (by kernel_rfl) (fun _ _ _ h => h) (Or.inl ⟨by rfl, ?hy44⟩) (by assumption) ?rest44
      case hy44 => (intro w1 hSw; (try dsimp only at hSw); obtain ⟨h0, h1, h2, h3, -⟩ := hSw; go_simp; try with_reducible rfl)
      try simp only [Act.put, List.setIfInBounds_toArray, List.set_cons_zero, List.set_cons_succ]
      refine wpAnyH_ready (rs := [9, 12]) (by kernel_rfl) (by simp) ?_
      refine AllReadyH.cons (o := { dst := some 14, op := Op.call { callee := Callee.value (Operand.func 64), args := #[Operand.tmp 13], argTypes := #[27] }, type := 84, pos := "names.go:61", after := #[{ on := 8, ground := Ground.data }, { on := 2, ground := Ground.chain }], guard := none }) rfl (fun K hK => ?_) ?_
      · go_simp
        refine ((except_any (l := bl) (T2) HF.out.2.1)).mono ?_
        rintro e w5 ⟨E, rfl, hex, hb5⟩
        have L5 : Ls w true true (.slice a1 n1 c1) (.slice a2 n2 c2) w5 := (L0).next hb5
        refine hK.out _ _ (L5.s) (fun hHeld => ?_)
        clear hK K
        try simp only [Act.put, List.setIfInBounds_toArray, List.set_cons_zero, List.set_cons_succ]
        refine wpAnyH_ready (rs := [12]) (by kernel_rfl) (by simp) ?_
        refine AllReadyH.cons (o := { dst := some 17, op := Op.buildSlice 98 1 #[(0, Operand.tmp 16)], type := 98, pos := "names.go:61", after := #[{ on := 11, ground := Ground.data }], guard := none }) rfl (fun K hK => ?_) AllReadyH.nil
        go_simp
        refine hK.out _ _ ((L5.alloc _).s) (fun hHeld => ?_)
        clear hK K
        try simp only [Act.put, List.setIfInBounds_toArray, List.set_cons_zero, List.set_cons_succ]
        refine wpAnyH_ready (rs := [13]) (by kernel_rfl) (by simp) ?_
        refine AllReadyH.cons (o := { dst := some 18, op := Op.call { callee := Callee.value (Operand.func 44), args := #[Operand.tmp 11, Operand.tmp 14, Operand.tmp 17], argTypes := #[4, 84, 98] }, type := 41, pos := "names.go:61", after := #[{ on := 6, ground := Ground.data }, { on := 9, ground := Ground.data }, { on := 12, ground := Ground.data }, { on := 9, ground := Ground.chain }], guard := none }) rfl (fun K hK => ?_) AllReadyH.nil
        go_simp
        refine (made_set (sl := sl) (ls := [al]) (except1_takes (hex.below ((Below.refl _ _).alloc (Nat.le_refl _) _))) (lsAt_one (Blk.new _ _ _) ((T1.below hb5).below ((Below.refl _ _).alloc (Nat.le_refl _) _))) HFL.out.1 HFL.out.2 HSL.out).mono ?_
        rintro e w6 ⟨a3, c3', rfl, hs6, hb6⟩
        have L6 : Ls w true true (.slice a1 n1 c1) (.slice a2 n2 c2) w6 := (L5.alloc _).next hb6
        have r0 : w6.cell? ⟨w.heap.size + 1 + 1, 0, none⟩ = some (.bool false) := L6.2.2.2.2.1.cell 0
        have r1 : w6.cell? ⟨w.heap.size + 1 + 1, 1, none⟩ = some (.slice none 0 0) := L6.2.2.2.2.1.cell 1
        have f0 := L6.2.2.2.2.1.frozen 0
        have f1 := L6.2.2.2.2.1.frozen 1
        refine hK.out _ _ (L6.s) (fun hHeld => ?_)
        clear hK K
        try simp only [Act.put, List.setIfInBounds_toArray, List.set_cons_zero, List.set_cons_succ]
        refine wpAnyH_ready (rs := [14]) (by kernel_rfl) (by simp) ?_
        refine AllReadyH.cons (o := { dst := none, op := Op.store 41 (Operand.tmp 4) (Operand.tmp 18), type := 0, pos := "names.go:61", after := #[{ on := 13, ground := Ground.data }, { on := 13, ground := Ground.chain }, { on := 0, ground := Ground.phase }, { on := 1, ground := Ground.phase }, { on := 2, ground := Ground.phase }, { on := 3, ground := Ground.phase }, { on := 4, ground := Ground.phase }, { on := 5, ground := Ground.phase }, { on := 6, ground := Ground.phase }, { on := 7, ground := Ground.phase }, { on := 8, ground := Ground.phase }, { on := 9, ground := Ground.phase }, { on := 10, ground := Ground.phase }, { on := 11, ground := Ground.phase }, { on := 12, ground := Ground.phase }, { on := 13, ground := Ground.phase }], guard := none }) rfl (fun K hK => ?_) AllReadyH.nil
        go_simp
        refine hK.out _ _ (L6.set _ _) (fun hHeld => ?_)
        clear hK K
        try simp only [Act.put, List.setIfInBounds_toArray, List.set_cons_zero, List.set_cons_succ]
        refine wpAnyH_done (by kernel_rfl) ?_ _
        obtain ⟨w7, e7, t0, t1, hts, hbb⟩ := set_cells (W := w6) (sa := false) L6.2.2.2.2.1 hs6 (Below.refl _ _)
        have HZ := Lib.hid L6.2.2.2.2.2
        have HT := Lib.hid (And.intro hts hbb)
        clear hts hbb r0 r1 f0 f1 hHeld
        go_wp2_with fail
        rw [show w.heap.size + 1 + 1 = w.heap.size + 2 from rfl, e7]
        refine bodyPost_ret (v := .agg #[.bool false, .slice a3 sl.length c3']) ?_ rfl ⟨_, _, rfl, HT.out.1, HZ.out.trans (HT.out.2.mono (by have := HZ.out.size; omega))⟩
        simp [results, Tryz.results49, go_sem, t0, t1]
      refine AllReadyH.cons (o := { dst := some 17, op := Op.buildSlice 98 1 #[(0, Operand.tmp 16)], type := 98, pos := "names.go:61", after := #[{ on := 11, ground := Ground.data }], guard := none }) rfl (fun K hK => ?_) AllReadyH.nil
      go_simp
      refine hK.out _ _ ((L0.alloc _).s) (fun hHeld => ?_)
      clear hK K
      try simp only [Act.put, List.setIfInBounds_toArray, List.set_cons_zero, List.set_cons_succ]
      refine wpAnyH_ready (rs := [9]) (by kernel_rfl) (by simp) ?_
      refine AllReadyH.cons (o := { dst := some 14, op := Op.call { callee := Callee.value (Operand.func 64), args := #[Operand.tmp 13], argTypes := #[27] }, type := 84, pos := "names.go:61", after := #[{ on := 8, ground := Ground.data }, { on := 2, ground := Ground.chain }], guard := none }) rfl (fun K hK => ?_) AllReadyH.nil
      go_simp
      refine ((except_any (l := bl) (T2.below ((Below.refl _ _).alloc (Nat.le_refl _) _)) HF.out.2.1)).mono ?_
      rintro e w5 ⟨E, rfl, hex, hb5⟩
      have L5 : Ls w true true (.slice a1 n1 c1) (.slice a2 n2 c2) w5 := (L0.alloc _).next hb5
      refine hK.out _ _ (L5.s) (fun hHeld => ?_)
      clear hK K
      try simp only [Act.put, List.setIfInBounds_toArray, List.set_cons_zero, List.set_cons_succ]
      refine wpAnyH_ready (rs := [13]) (by kernel_rfl) (by simp) ?_
      refine AllReadyH.cons (o := { dst := some 18, op := Op.call { callee := Callee.value (Operand.func 44), args := #[Operand.tmp 11, Operand.tmp 14, Operand.tmp 17], argTypes := #[4, 84, 98] }, type := 41, pos := "names.go:61", after := #[{ on := 6, ground := Ground.data }, { on := 9, ground := Ground.data }, { on := 12, ground := Ground.data }, { on := 9, ground := Ground.chain }], guard := none }) rfl (fun K hK => ?_) AllReadyH.nil
      go_simp
      refine (made_set (sl := sl) (ls := [al]) (except1_takes hex) (lsAt_one ((Blk.new _ _ _).below hb5 (by rw [World.size_alloc]; omega)) ((T1.below ((Below.refl _ _).alloc (Nat.le_refl _) _)).below hb5)) HFL.out.1 HFL.out.2 HSL.out).mono ?_
      rintro e w6 ⟨a3, c3', rfl, hs6, hb6⟩
      have L6 : Ls w true true (.slice a1 n1 c1) (.slice a2 n2 c2) w6 := L5.next hb6
      have r0 : w6.cell? ⟨w.heap.size + 1 + 1, 0, none⟩ = some (.bool false) := L6.2.2.2.2.1.cell 0
      have r1 : w6.cell? ⟨w.heap.size + 1 + 1, 1, none⟩ = some (.slice none 0 0) := L6.2.2.2.2.1.cell 1
      have f0 := L6.2.2.2.2.1.frozen 0
      have f1 := L6.2.2.2.2.1.frozen 1
      refine hK.out _ _ (L6.s) (fun hHeld => ?_)
      clear hK K
      try simp only [Act.put, List.setIfInBounds_toArray, List.set_cons_zero, List.set_cons_succ]
      refine wpAnyH_ready (rs := [14]) (by kernel_rfl) (by simp) ?_
      refine AllReadyH.cons (o := { dst := none, op := Op.store 41 (Operand.tmp 4) (Operand.tmp 18), type := 0, pos := "names.go:61", after := #[{ on := 13, ground := Ground.data }, { on := 13, ground := Ground.chain }, { on := 0, ground := Ground.phase }, { on := 1, ground := Ground.phase }, { on := 2, ground := Ground.phase }, { on := 3, ground := Ground.phase }, { on := 4, ground := Ground.phase }, { on := 5, ground := Ground.phase }, { on := 6, ground := Ground.phase }, { on := 7, ground := Ground.phase }, { on := 8, ground := Ground.phase }, { on := 9, ground := Ground.phase }, { on := 10, ground := Ground.phase }, { on := 11, ground := Ground.phase }, { on := 12, ground := Ground.phase }, { on := 13, ground := Ground.phase }], guard := none }) rfl (fun K hK => ?_) AllReadyH.nil
      go_simp
      refine hK.out _ _ (L6.set _ _) (fun hHeld => ?_)
      clear hK K
      try simp only [Act.put, List.setIfInBounds_toArray, List.set_cons_zero, List.set_cons_succ]
      refine wpAnyH_done (by kernel_rfl) ?_ _
      obtain ⟨w7, e7, t0, t1, hts, hbb⟩ := set_cells (W := w6) (sa := false) L6.2.2.2.2.1 hs6 (Below.refl _ _)
      have HZ := Lib.hid L6.2.2.2.2.2
      have HT := Lib.hid (And.intro hts hbb)
      clear hts hbb r0 r1 f0 f1 hHeld
      go_wp2_with fail
      rw [show w.heap.size + 1 + 1 = w.heap.size + 2 from rfl, e7]
      refine bodyPost_ret (v := .agg #[.bool false, .slice a3 sl.length c3']) ?_ rfl ⟨_, _, rfl, HT.out.1, HZ.out.trans (HT.out.2.mono (by have := HZ.out.size; omega))⟩
      simp [results, Tryz.results49, go_sem, t0, t1]
end Go.Proofs.YtkjfafnnnkjoeaaGreatDoor
