/- message: what takes a text, into a slice that is nil. -/
import Derived.Test.YtbflbgnafdbngaaDoorMsEach
namespace Go.Proofs.YtbflbgnafdbngaaDoor
open Go.RowKit Go.Lib
theorem Tryd.infoStrM : (Tryd.prog.info? 9).map (fun i => (i.zero, i.size, i.bytes)) = some (some (.string ⟨#[]⟩), 1, 16) := by kernel_rfl
theorem below_of_grown' {a b : World} (h : a.grownBy b none) : Below a.heap.size a b := ⟨h.os, h.tape, h.output, h.size, fun k hk => h.block k hk (by simp)⟩
theorem kpt_set1 (w : World) (R o : Nat) (v : Value) : Kpt R w (w.setCell ⟨R, o, none⟩ v) where
  os := rfl
  tape := rfl
  output := rfl
  size := by simp
  block := fun k hk hne => Below.heap_setCell _ _ _ _ hne
theorem cell_far1 {w : World} {b i : Nat} {u : Value} (R o : Nat) (v : Value) (h : w.cell? ⟨b, i, none⟩ = some u) (hne : b ≠ R) : (w.setCell ⟨R, o, none⟩ v).cell? ⟨b, i, none⟩ = some u :=
  (World.cell?_of_block (w' := w.setCell ⟨R, o, none⟩ v) (w := w) (a := ⟨b, i, none⟩) (Below.heap_setCell _ _ _ _ hne)).trans h
/-- The first of a row. -/
theorem row_first {w : World} {base n c g : Nat} {e : TypeId} {u : Value} {xs : List Value} (h : w.ownsRow base e 1 (.slice (some ⟨g, 0, none⟩) n c) n (u :: xs)) : w.cell? ⟨g, 0, none⟩ = some u := by
  obtain ⟨hl, h | ⟨g', cap, cur, hv, _, hg, _, _, _, ht⟩⟩ := h
  · simp at h
  · injection hv with e1 _ _
    injection e1 with e1
    injection e1 with e1
    subst e1
    rw [Lib.cell_of_heap hg]
    have h0 := congrArg (fun l => l[0]?) ht
    have hn : 0 < n * 1 := by simp at hl; omega
    simp only [List.getElem?_take, hn, if_true, List.getElem?_cons_zero] at h0
    simpa using h0
set_option maxRecDepth 100000 in
theorem itself_any (s : ByteArray) (w : World) : Calls Tryd.prog 43 #[.string s] w fun e w' => e = .returned (.tuple #[.string s, .nilIface]) ∧ Below w.heap.size w w' := by
  go_enter Tryd.func43, Tryd.ntmps43
  go_wp2_with fail
  go_ret2
  exact ⟨rfl, Below.refl _ _⟩
set_option maxRecDepth 100000 in
set_option maxHeartbeats 8000000 in
theorem each_in (f : Fd) (b0 b1 R o : Nat) (cs : Array Value) (T : TypeId) (w : World) (h0 : Bk w b0 #[.pointer (some ⟨R, o, none⟩)] 95) (h1 : Bk w b1 #[fSelf] 96) (hR : Bk w R cs T) (ho : cs[o]? = some (.slice none 0 0)) (hT : 95 ≠ T) :
    Calls Tryd.prog 60 #[fV f, .pointer (some ⟨b1, 0, none⟩), .pointer (some ⟨b0, 0, none⟩)] w fun e w' => e = .returned .nilIface ∧ ∃ B c, Bk w' R (cs.setIfInBounds o (.slice (some ⟨B, 0, none⟩) 1 c)) T ∧ Kpt R w w' ∧ w.heap.size ≤ B ∧ w'.cell? ⟨B, 0, none⟩ = some (.string ⟨f.s.toArray⟩) := by
  obtain ⟨num, kind, n, s⟩ := f
  have hent : ∀ (args : Array Value) (w : World), (callFunc 43 args).run Tryd.prog w = .ok (.enter 43 args) w := enters_of Tryd.func43 (by kernel_rfl) rfl
  have HI := Lib.hid (fun W => itself_any ⟨s.toArray⟩ W)
  obtain ⟨w1, hw1, hb1, p1⟩ := alloc_new w #[.int .i64 (num : Int), .int .i64 (kind : Int), .int .u64 (n : Int), .string ⟨s.toArray⟩] 59
  have HW := Lib.hid hw1
  have c0 : w.cell? ⟨b0, 0, none⟩ = some (.pointer (some ⟨R, o, none⟩)) := h0.cell 0
  have l0 := h0.lt
  have c1 : w.cell? ⟨b1, 0, none⟩ = some fSelf := h1.cell 0
  have l1 := h1.lt
  have H := Lib.hid (And.intro (h0.later hb1) (And.intro (hR.later hb1) hb1))
  have HO := Lib.hid ho
  have HLR := Lib.hid hR.lt
  clear hw1 hb1 p1 h0 h1 hR ho
  go_enter Tryd.func60, Tryd.ntmps60
  go_wp2_with fail
  rw [HW.out]
  refine (HI.out _).mono ?_
  rintro e w2 ⟨rfl, hb⟩
  have HB := Lib.hid hb
  clear hb HI
  go_wp2_with fail
  obtain ⟨i0, hi, hz0, hz1, hz2⟩ := info_parts Tryd.infoStrM
  have fP := H.out.1.later HB.out
  have fR := H.out.2.1.later HB.out
  have fB : Base w w2 := H.out.2.2.trans (HB.out.mono H.out.2.2.size)
  obtain ⟨w101, hw102, hb103⟩ := drew_new w2
  have q104 := fP.later hb103
  have q105 := fR.later hb103
  have q106 := fB.later hb103
  refine wp_region_held_drew (S := (fun w' => w'.cell? ⟨b0, 0, none⟩ = some (.pointer (some ⟨R, o, none⟩)))) (by kernel_rfl) (by rw [hw102]; exact q104.cell 0) (fun hHeld => ?_)
  rw [hw102] at hHeld ⊢
  refine wpAnyH_take (i := 0) (oi := { dst := some 16, op := Op.load 95 (Operand.tmp 2), type := 95, pos := "read.go:149", after := #[], guard := none }) (v := ?v51) rfl (by kernel_rfl) (by kernel_rfl) (by kernel_rfl) (fun _ _ _ h => h) (Or.inl ⟨by rfl, ?hy51⟩) (by assumption) ?rest51
  case hy51 => (intro w1 hSw; (try dsimp only at hSw); obtain h0 := hSw; go_simp; try with_reducible rfl)
  try simp only [Act.put, List.setIfInBounds_toArray, List.set_cons_zero, List.set_cons_succ]
  refine wpAnyH_take (i := 1) (oi := { dst := some 17, op := Op.load 95 (Operand.tmp 2), type := 95, pos := "read.go:149", after := #[], guard := none }) (v := ?v52) rfl (by kernel_rfl) (by kernel_rfl) (by kernel_rfl) (fun _ _ _ h => h) (Or.inl ⟨by rfl, ?hy52⟩) (by assumption) ?rest52
  case hy52 => (intro w1 hSw; (try dsimp only at hSw); obtain h0 := hSw; go_simp; try with_reducible rfl)
  try simp only [Act.put, List.setIfInBounds_toArray, List.set_cons_zero, List.set_cons_succ]
  refine wpAnyH_take (i := 4) (oi := { dst := some 20, op := Op.move (Operand.tmp 5), type := 9, pos := "read.go:149", after := #[], guard := none }) (v := ?v53) rfl (by kernel_rfl) (by kernel_rfl) (by kernel_rfl) (fun _ _ _ h => h) (Or.inl ⟨by rfl, ?hy53⟩) (by assumption) ?rest53
  case hy53 => (intro w1 hSw; (try dsimp only at hSw); obtain h0 := hSw; go_simp; try with_reducible rfl)
  try simp only [Act.put, List.setIfInBounds_toArray, List.set_cons_zero, List.set_cons_succ]
  refine wpAnyH_ready (rs := [2, 5]) (by kernel_rfl) (by simp) ?_
  refine AllReadyH.cons (o := { dst := some 18, op := Op.nilCheck (Operand.tmp 17), type := 0, pos := "read.go:149", after := #[{ on := 1, ground := Ground.data }], guard := none }) rfl (fun K hK => ?_) ?_
  · go_simp
    try clear hHeld
    refine hK.out _ _ (q104.cell 0) (fun hHeld => ?_)
    clear hK K
    try simp only [Act.put, List.setIfInBounds_toArray, List.set_cons_zero, List.set_cons_succ]
    refine wpAnyH_ready (rs := [3, 5]) (by kernel_rfl) (by simp) ?_
    refine AllReadyH.cons (o := { dst := some 19, op := Op.load 38 (Operand.tmp 18), type := 38, pos := "read.go:149", after := #[{ on := 2, ground := Ground.data }], guard := none }) rfl (fun K hK => ?_) ?_
    · go_simp
      have r1 := (q105.cell o).trans HO.out
      go_simp
      try clear hHeld
      refine hK.out _ _ (q104.cell 0) (fun hHeld => ?_)
      clear hK K
      try simp only [Act.put, List.setIfInBounds_toArray, List.set_cons_zero, List.set_cons_succ]
      refine wpAnyH_ready (rs := [5]) (by kernel_rfl) (by simp) ?_
      refine AllReadyH.cons (o := { dst := some 21, op := Op.buildSlice 38 1 #[(0, Operand.tmp 20)], type := 38, pos := "read.go:149", after := #[{ on := 4, ground := Ground.data }], guard := none }) rfl (fun K hK => ?_) AllReadyH.nil
      go_simp
      obtain ⟨w107, hw108, hb109, p110⟩ := alloc_new w101 #[.string ⟨s.toArray⟩] 9
      have q111 := q104.later hb109
      have q112 := q105.later hb109
      have q113 := q106.later hb109
      rw [hw108]
      try clear hHeld
      refine hK.out _ _ (q111.cell 0) (fun hHeld => ?_)
      clear hK K
      try simp only [Act.put, List.setIfInBounds_toArray, List.set_cons_zero, List.set_cons_succ]
      refine wpAnyH_ready (rs := [6]) (by kernel_rfl) (by simp) ?_
      refine AllReadyH.cons (o := { dst := some 22, op := Op.call { callee := Callee.builtin Builtin.append, args := #[Operand.tmp 19, Operand.tmp 21], argTypes := #[38, 38] }, type := 38, pos := "read.go:149", after := #[{ on := 3, ground := Ground.data }, { on := 5, ground := Ground.data }], guard := none }) rfl (fun K hK => ?_) AllReadyH.nil
      skip
      refine step_append_lies _ (by rfl) _ _ _ (by rfl) 0 9 i0 _ 1 16 Tryd.underlying38 hi hz0 hz1 hz2 rfl (by omega) _ 0 [] (by rfl) (World.ownsRow_nil _ _ _ _) ⟨w101.heap.size, 0, none⟩ 1 1 [.string ⟨s.toArray⟩] (by rfl) (by rfl) (World.news_of_block (cs := #[.string ⟨s.toArray⟩]) (t := 9) (fr := (0, 0)) p110) (by simp [Value.oneCell']) (by omega) (by decide) (by omega) (Nat.zero_le _) _ rfl ?_
      intro gg cc w114 hown7 hgrow7 hg7 _
      have hb7 := below_of_grown' hgrow7
      have P7 := q111.later hb7
      have R7 := q112.later hb7
      have B7 := q113.later hb7
      have C7 := row_first hown7
      have gR7 : w.heap.size ≤ gg := hg7.elim (fun h => by simp [Value.ownBlock] at h) (fun h => by have := Below.size q113; omega)
      have gN7 : gg ≠ R := by have := HLR.out; omega
      try clear hHeld
      refine hK.out _ _ (P7.cell 0) (fun hHeld => ?_)
      clear hK K
      try simp only [Act.put, List.setIfInBounds_toArray, List.set_cons_zero, List.set_cons_succ]
      refine wpAnyH_ready (rs := [7]) (by kernel_rfl) (by simp) ?_
      refine AllReadyH.cons (o := { dst := some 23, op := Op.nilCheck (Operand.tmp 16), type := 0, pos := "read.go:149", after := #[{ on := 0, ground := Ground.data }, { on := 0, ground := Ground.phase }, { on := 1, ground := Ground.phase }, { on := 2, ground := Ground.phase }, { on := 3, ground := Ground.phase }, { on := 4, ground := Ground.phase }, { on := 5, ground := Ground.phase }, { on := 6, ground := Ground.phase }], guard := none }) rfl (fun K hK => ?_) AllReadyH.nil
      go_simp
      have r1 := (R7.cell o).trans HO.out
      have f1 := Lib.frozen_of_heap R7 o
      have lR := R7.lt
      try clear hHeld
      refine hK.out _ _ (P7.cell 0) (fun hHeld => ?_)
      clear hK K
      try simp only [Act.put, List.setIfInBounds_toArray, List.set_cons_zero, List.set_cons_succ]
      refine wpAnyH_ready (rs := [8]) (by kernel_rfl) (by simp) ?_
      refine AllReadyH.cons (o := { dst := none, op := Op.store 38 (Operand.tmp 23) (Operand.tmp 22), type := 0, pos := "read.go:149", after := #[{ on := 7, ground := Ground.data }, { on := 6, ground := Ground.data }, { on := 6, ground := Ground.chain }, { on := 0, ground := Ground.phase }, { on := 1, ground := Ground.phase }, { on := 2, ground := Ground.phase }, { on := 3, ground := Ground.phase }, { on := 4, ground := Ground.phase }, { on := 5, ground := Ground.phase }, { on := 6, ground := Ground.phase }], guard := none }) rfl (fun K hK => ?_) AllReadyH.nil
      go_simp
      try clear hHeld
      refine hK.out _ _ (((kpt_set1 w114 R o (.slice (some ⟨gg, 0, none⟩) (0 + 1) cc)).bk P7 (bk_ne P7 R7 hT)).cell 0) (fun hHeld => ?_)
      clear hK K
      refine wpAnyH_done (by kernel_rfl) ?_ _
      have hX := And.intro (bk_set R7 o (.slice (some ⟨gg, 0, none⟩) (0 + 1) cc)) (And.intro (Kpt.after B7 (kpt_set1 w114 R o (.slice (some ⟨gg, 0, none⟩) (0 + 1) cc))) (And.intro gR7 (cell_far1 R o (.slice (some ⟨gg, 0, none⟩) (0 + 1) cc) C7 gN7)))
      have HX := Lib.hid hX
      clear hX
      go_wp2_with fail
      go_ret
      exact ⟨rfl, gg, cc, HX.out⟩
    refine AllReadyH.cons (o := { dst := some 21, op := Op.buildSlice 38 1 #[(0, Operand.tmp 20)], type := 38, pos := "read.go:149", after := #[{ on := 4, ground := Ground.data }], guard := none }) rfl (fun K hK => ?_) AllReadyH.nil
    go_simp
    obtain ⟨w115, hw116, hb117, p118⟩ := alloc_new w101 #[.string ⟨s.toArray⟩] 9
    have q119 := q104.later hb117
    have q120 := q105.later hb117
    have q121 := q106.later hb117
    rw [hw116]
    try clear hHeld
    refine hK.out _ _ (q119.cell 0) (fun hHeld => ?_)
    clear hK K
    try simp only [Act.put, List.setIfInBounds_toArray, List.set_cons_zero, List.set_cons_succ]
    refine wpAnyH_ready (rs := [3]) (by kernel_rfl) (by simp) ?_
    refine AllReadyH.cons (o := { dst := some 19, op := Op.load 38 (Operand.tmp 18), type := 38, pos := "read.go:149", after := #[{ on := 2, ground := Ground.data }], guard := none }) rfl (fun K hK => ?_) AllReadyH.nil
    go_simp
    have r1 := (q120.cell o).trans HO.out
    go_simp
    try clear hHeld
    refine hK.out _ _ (q119.cell 0) (fun hHeld => ?_)
    clear hK K
    try simp only [Act.put, List.setIfInBounds_toArray, List.set_cons_zero, List.set_cons_succ]
    refine wpAnyH_ready (rs := [6]) (by kernel_rfl) (by simp) ?_
    refine AllReadyH.cons (o := { dst := some 22, op := Op.call { callee := Callee.builtin Builtin.append, args := #[Operand.tmp 19, Operand.tmp 21], argTypes := #[38, 38] }, type := 38, pos := "read.go:149", after := #[{ on := 3, ground := Ground.data }, { on := 5, ground := Ground.data }], guard := none }) rfl (fun K hK => ?_) AllReadyH.nil
    skip
    refine step_append_lies _ (by rfl) _ _ _ (by rfl) 0 9 i0 _ 1 16 Tryd.underlying38 hi hz0 hz1 hz2 rfl (by omega) _ 0 [] (by rfl) (World.ownsRow_nil _ _ _ _) ⟨w101.heap.size, 0, none⟩ 1 1 [.string ⟨s.toArray⟩] (by rfl) (by rfl) (World.news_of_block (cs := #[.string ⟨s.toArray⟩]) (t := 9) (fr := (0, 0)) p118) (by simp [Value.oneCell']) (by omega) (by decide) (by omega) (Nat.zero_le _) _ rfl ?_
    intro gg cc w122 hown7 hgrow7 hg7 _
    have hb7 := below_of_grown' hgrow7
    have P7 := q119.later hb7
    have R7 := q120.later hb7
    have B7 := q121.later hb7
    have C7 := row_first hown7
    have gR7 : w.heap.size ≤ gg := hg7.elim (fun h => by simp [Value.ownBlock] at h) (fun h => by have := Below.size q121; omega)
    have gN7 : gg ≠ R := by have := HLR.out; omega
    try clear hHeld
    refine hK.out _ _ (P7.cell 0) (fun hHeld => ?_)
    clear hK K
    try simp only [Act.put, List.setIfInBounds_toArray, List.set_cons_zero, List.set_cons_succ]
    refine wpAnyH_ready (rs := [7]) (by kernel_rfl) (by simp) ?_
    refine AllReadyH.cons (o := { dst := some 23, op := Op.nilCheck (Operand.tmp 16), type := 0, pos := "read.go:149", after := #[{ on := 0, ground := Ground.data }, { on := 0, ground := Ground.phase }, { on := 1, ground := Ground.phase }, { on := 2, ground := Ground.phase }, { on := 3, ground := Ground.phase }, { on := 4, ground := Ground.phase }, { on := 5, ground := Ground.phase }, { on := 6, ground := Ground.phase }], guard := none }) rfl (fun K hK => ?_) AllReadyH.nil
    go_simp
    have r1 := (R7.cell o).trans HO.out
    have f1 := Lib.frozen_of_heap R7 o
    have lR := R7.lt
    try clear hHeld
    refine hK.out _ _ (P7.cell 0) (fun hHeld => ?_)
    clear hK K
    try simp only [Act.put, List.setIfInBounds_toArray, List.set_cons_zero, List.set_cons_succ]
    refine wpAnyH_ready (rs := [8]) (by kernel_rfl) (by simp) ?_
    refine AllReadyH.cons (o := { dst := none, op := Op.store 38 (Operand.tmp 23) (Operand.tmp 22), type := 0, pos := "read.go:149", after := #[{ on := 7, ground := Ground.data }, { on := 6, ground := Ground.data }, { on := 6, ground := Ground.chain }, { on := 0, ground := Ground.phase }, { on := 1, ground := Ground.phase }, { on := 2, ground := Ground.phase }, { on := 3, ground := Ground.phase }, { on := 4, ground := Ground.phase }, { on := 5, ground := Ground.phase }, { on := 6, ground := Ground.phase }], guard := none }) rfl (fun K hK => ?_) AllReadyH.nil
    go_simp
    try clear hHeld
    refine hK.out _ _ (((kpt_set1 w122 R o (.slice (some ⟨gg, 0, none⟩) (0 + 1) cc)).bk P7 (bk_ne P7 R7 hT)).cell 0) (fun hHeld => ?_)
    clear hK K
    refine wpAnyH_done (by kernel_rfl) ?_ _
    have hX := And.intro (bk_set R7 o (.slice (some ⟨gg, 0, none⟩) (0 + 1) cc)) (And.intro (Kpt.after B7 (kpt_set1 w122 R o (.slice (some ⟨gg, 0, none⟩) (0 + 1) cc))) (And.intro gR7 (cell_far1 R o (.slice (some ⟨gg, 0, none⟩) (0 + 1) cc) C7 gN7)))
    have HX := Lib.hid hX
    clear hX
    go_wp2_with fail
    go_ret
    exact ⟨rfl, gg, cc, HX.out⟩
  refine AllReadyH.cons (o := { dst := some 21, op := Op.buildSlice 38 1 #[(0, Operand.tmp 20)], type := 38, pos := "read.go:149", after := #[{ on := 4, ground := Ground.data }], guard := none }) rfl (fun K hK => ?_) AllReadyH.nil
  go_simp
  obtain ⟨w123, hw124, hb125, p126⟩ := alloc_new w101 #[.string ⟨s.toArray⟩] 9
  have q127 := q104.later hb125
  have q128 := q105.later hb125
  have q129 := q106.later hb125
  rw [hw124]
  try clear hHeld
  refine hK.out _ _ (q127.cell 0) (fun hHeld => ?_)
  clear hK K
  try simp only [Act.put, List.setIfInBounds_toArray, List.set_cons_zero, List.set_cons_succ]
  refine wpAnyH_ready (rs := [2]) (by kernel_rfl) (by simp) ?_
  refine AllReadyH.cons (o := { dst := some 18, op := Op.nilCheck (Operand.tmp 17), type := 0, pos := "read.go:149", after := #[{ on := 1, ground := Ground.data }], guard := none }) rfl (fun K hK => ?_) AllReadyH.nil
  go_simp
  try clear hHeld
  refine hK.out _ _ (q127.cell 0) (fun hHeld => ?_)
  clear hK K
  try simp only [Act.put, List.setIfInBounds_toArray, List.set_cons_zero, List.set_cons_succ]
  refine wpAnyH_ready (rs := [3]) (by kernel_rfl) (by simp) ?_
  refine AllReadyH.cons (o := { dst := some 19, op := Op.load 38 (Operand.tmp 18), type := 38, pos := "read.go:149", after := #[{ on := 2, ground := Ground.data }], guard := none }) rfl (fun K hK => ?_) AllReadyH.nil
  go_simp
  have r1 := (q128.cell o).trans HO.out
  go_simp
  try clear hHeld
  refine hK.out _ _ (q127.cell 0) (fun hHeld => ?_)
  clear hK K
  try simp only [Act.put, List.setIfInBounds_toArray, List.set_cons_zero, List.set_cons_succ]
  refine wpAnyH_ready (rs := [6]) (by kernel_rfl) (by simp) ?_
  refine AllReadyH.cons (o := { dst := some 22, op := Op.call { callee := Callee.builtin Builtin.append, args := #[Operand.tmp 19, Operand.tmp 21], argTypes := #[38, 38] }, type := 38, pos := "read.go:149", after := #[{ on := 3, ground := Ground.data }, { on := 5, ground := Ground.data }], guard := none }) rfl (fun K hK => ?_) AllReadyH.nil
  skip
  refine step_append_lies _ (by rfl) _ _ _ (by rfl) 0 9 i0 _ 1 16 Tryd.underlying38 hi hz0 hz1 hz2 rfl (by omega) _ 0 [] (by rfl) (World.ownsRow_nil _ _ _ _) ⟨w101.heap.size, 0, none⟩ 1 1 [.string ⟨s.toArray⟩] (by rfl) (by rfl) (World.news_of_block (cs := #[.string ⟨s.toArray⟩]) (t := 9) (fr := (0, 0)) p126) (by simp [Value.oneCell']) (by omega) (by decide) (by omega) (Nat.zero_le _) _ rfl ?_
  intro gg cc w130 hown7 hgrow7 hg7 _
  have hb7 := below_of_grown' hgrow7
  have P7 := q127.later hb7
  have R7 := q128.later hb7
  have B7 := q129.later hb7
  have C7 := row_first hown7
  have gR7 : w.heap.size ≤ gg := hg7.elim (fun h => by simp [Value.ownBlock] at h) (fun h => by have := Below.size q129; omega)
  have gN7 : gg ≠ R := by have := HLR.out; omega
  try clear hHeld
  refine hK.out _ _ (P7.cell 0) (fun hHeld => ?_)
  clear hK K
  try simp only [Act.put, List.setIfInBounds_toArray, List.set_cons_zero, List.set_cons_succ]
  refine wpAnyH_ready (rs := [7]) (by kernel_rfl) (by simp) ?_
  refine AllReadyH.cons (o := { dst := some 23, op := Op.nilCheck (Operand.tmp 16), type := 0, pos := "read.go:149", after := #[{ on := 0, ground := Ground.data }, { on := 0, ground := Ground.phase }, { on := 1, ground := Ground.phase }, { on := 2, ground := Ground.phase }, { on := 3, ground := Ground.phase }, { on := 4, ground := Ground.phase }, { on := 5, ground := Ground.phase }, { on := 6, ground := Ground.phase }], guard := none }) rfl (fun K hK => ?_) AllReadyH.nil
  go_simp
  have r1 := (R7.cell o).trans HO.out
  have f1 := Lib.frozen_of_heap R7 o
  have lR := R7.lt
  try clear hHeld
  refine hK.out _ _ (P7.cell 0) (fun hHeld => ?_)
  clear hK K
  try simp only [Act.put, List.setIfInBounds_toArray, List.set_cons_zero, List.set_cons_succ]
  refine wpAnyH_ready (rs := [8]) (by kernel_rfl) (by simp) ?_
  refine AllReadyH.cons (o := { dst := none, op := Op.store 38 (Operand.tmp 23) (Operand.tmp 22), type := 0, pos := "read.go:149", after := #[{ on := 7, ground := Ground.data }, { on := 6, ground := Ground.data }, { on := 6, ground := Ground.chain }, { on := 0, ground := Ground.phase }, { on := 1, ground := Ground.phase }, { on := 2, ground := Ground.phase }, { on := 3, ground := Ground.phase }, { on := 4, ground := Ground.phase }, { on := 5, ground := Ground.phase }, { on := 6, ground := Ground.phase }], guard := none }) rfl (fun K hK => ?_) AllReadyH.nil
  go_simp
  try clear hHeld
  refine hK.out _ _ (((kpt_set1 w130 R o (.slice (some ⟨gg, 0, none⟩) (0 + 1) cc)).bk P7 (bk_ne P7 R7 hT)).cell 0) (fun hHeld => ?_)
  clear hK K
  refine wpAnyH_done (by kernel_rfl) ?_ _
  have hX := And.intro (bk_set R7 o (.slice (some ⟨gg, 0, none⟩) (0 + 1) cc)) (And.intro (Kpt.after B7 (kpt_set1 w130 R o (.slice (some ⟨gg, 0, none⟩) (0 + 1) cc))) (And.intro gR7 (cell_far1 R o (.slice (some ⟨gg, 0, none⟩) (0 + 1) cc) C7 gN7)))
  have HX := Lib.hid hX
  clear hX
  go_wp2_with fail
  go_ret
  exact ⟨rfl, gg, cc, HX.out⟩
end Go.Proofs.YtbflbgnafdbngaaDoor
